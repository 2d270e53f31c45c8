/-
  What Get of layer 9 answers. No condition.
-/
import Derived.Test.YtffahjlboakakaaDoorMscRead
namespace Go.Proofs.YtffahjlboakakaaDoor.Msc
open Go.RowKit Go.Proofs.YtffahjlboakakaaDoor.Base Go.Proofs.YtffahjlboakakaaDoor.Mem Go.Proofs.YtffahjlboakakaaDoor.Ea
theorem get_results (tmps : Array Value) (W : World) (b : Nat) (p : St) (e : Int) (h : Cells W b p) (p2 : tmps[2]?.getD undef = ptr b) (p3 : tmps[3]?.getD undef = .int .i64 e) :
    (results Tryd.f50 tmps).run Tryd.prog W = .ok (.tuple #[sv p, .int .i64 e]) W := by
  obtain ⟨g0, g1, g2, g3, g4, g5, g6, g7⟩ := h
  simp [results, Tryd.results50, go_sem, p2, p3, g0, g1, g2, g3, g4, g5, g6, g7]
theorem fget_short (s : ByteArray) (CW : ∀ w, Calls Tryd.prog 62 #[.string s] w fun x w' => x = .returned (.bool false) ∧ w = w') (w : World) :
    Calls Tryd.prog 50 #[.string s] w fun x w' => x = .returned (.tuple #[sv zero, .int .i64 20]) ∧ Below w.heap.size w w' := by
  have CWh := Lib.hid CW
  clear CW
  go_enter Tryd.func50, Tryd.ntmps50
  go_wp2_with (go_at_call 62; ((with_reducible refine (CWh.out _).mono ?_); rintro e w2 ⟨rfl, rfl⟩))
  exact bodyPost_ret (get_results _ _ w.heap.size zero 20 (cells_of (nest w [_] 0 _ rfl)) rfl rfl) rfl ⟨rfl, nest_below w [_]⟩
theorem fget_long (s : ByteArray) (p : St) (S : ByteArray) (hS : S ≠ s) (CW : ∀ w, Calls Tryd.prog 62 #[.string s] w fun x w' => x = .returned (.bool true) ∧ w = w') (CR : ∀ w, Calls Tryd.prog 63 #[.string s] w fun x w' => x = .returned (sv p) ∧ Below w.heap.size w w')
    (CP : ∀ w, Calls Tryd.prog 34 #[sv p] w fun x w' => x = .returned (.tuple #[.string S, .int .i64 0]) ∧ Below w.heap.size w w') (w : World) :
    Calls Tryd.prog 50 #[.string s] w fun x w' => x = .returned (.tuple #[sv zero, .int .i64 70]) ∧ Below w.heap.size w w' := by
  have hq : (S.toList == s.toList) = false := ne_list hS
  clear hS
  have CWh := Lib.hid CW
  have CRh := Lib.hid CR
  have CPh := Lib.hid CP
  clear CW CR CP
  go_enter Tryd.func50, Tryd.ntmps50
  go_wp2_with (first
    | (go_at_call 62; ((with_reducible refine (CWh.out _).mono ?_); rintro e w3 ⟨rfl, rfl⟩))
    | (go_at_call 63; ((with_reducible refine (CRh.out _).mono ?_); rintro e w1 ⟨rfl, hb⟩; have HF := Lib.hid (fresh hb); have HB := Lib.hid (on_new (Below.refl _ _) hb); have hlt : w.heap.size < w1.heap.size := lt_heap HF.out; clear hb))
    | (go_at_call 34; ((with_reducible refine (CPh.out _).mono ?_); rintro e w2 ⟨rfl, hb⟩; have HF2 := Lib.hid (stays HF.out (on_new (Below.refl _ _) hb)); have HG := Lib.hid (fresh hb); have HB2 := Lib.hid (on_new HB.out hb); obtain ⟨f0, f1, f2, f3, f4, f5, f6, f7⟩ := no_frees HF2.out; obtain ⟨g0, g1, g2, g3, g4, g5, g6, g7⟩ := no_cells HF2.out; obtain ⟨c0, c1, c2, c3, c4, c5, c6, c7⟩ := cells_of (p := p) HG.out; clear hb)))
  exact bodyPost_ret (get_results _ _ w.heap.size zero 70 (cells_of (set8_at HF2.out _ _ _ _ _ _ _ _)) rfl rfl) rfl ⟨rfl, set8 HB2.out (Nat.le_refl _) _ _ _ _ _ _ _ _⟩
theorem fget_ok (s : ByteArray) (p : St)  (CW : ∀ w, Calls Tryd.prog 62 #[.string s] w fun x w' => x = .returned (.bool true) ∧ w = w') (CR : ∀ w, Calls Tryd.prog 63 #[.string s] w fun x w' => x = .returned (sv p) ∧ Below w.heap.size w w')
    (CP : ∀ w, Calls Tryd.prog 34 #[sv p] w fun x w' => x = .returned (.tuple #[.string s, .int .i64 0]) ∧ Below w.heap.size w w') (w : World) :
    Calls Tryd.prog 50 #[.string s] w fun x w' => x = .returned (.tuple #[sv p, .int .i64 0]) ∧ Below w.heap.size w w' := by
  have CWh := Lib.hid CW
  have CRh := Lib.hid CR
  have CPh := Lib.hid CP
  clear CW CR CP
  go_enter Tryd.func50, Tryd.ntmps50
  go_wp2_with (first
    | (go_at_call 62; ((with_reducible refine (CWh.out _).mono ?_); rintro e w3 ⟨rfl, rfl⟩))
    | (go_at_call 63; ((with_reducible refine (CRh.out _).mono ?_); rintro e w1 ⟨rfl, hb⟩; have HF := Lib.hid (fresh hb); have HB := Lib.hid (on_new (Below.refl _ _) hb); have hlt : w.heap.size < w1.heap.size := lt_heap HF.out; clear hb))
    | (go_at_call 34; ((with_reducible refine (CPh.out _).mono ?_); rintro e w2 ⟨rfl, hb⟩; have HF2 := Lib.hid (stays HF.out (on_new (Below.refl _ _) hb)); have HG := Lib.hid (fresh hb); have HB2 := Lib.hid (on_new HB.out hb); obtain ⟨f0, f1, f2, f3, f4, f5, f6, f7⟩ := no_frees HF2.out; obtain ⟨g0, g1, g2, g3, g4, g5, g6, g7⟩ := no_cells HF2.out; obtain ⟨c0, c1, c2, c3, c4, c5, c6, c7⟩ := cells_of (p := p) HG.out; clear hb)))
  exact bodyPost_ret (get_results _ _ w.heap.size p 0 (cells_of (set8_at HF2.out _ _ _ _ _ _ _ _)) rfl rfl) rfl ⟨rfl, set8 HB2.out (Nat.le_refl _) _ _ _ _ _ _ _ _⟩
theorem fget (s : ByteArray) (w : World) :
    Calls Tryd.prog 50 #[.string s] w fun x w' => x = .returned (.tuple #[sv (gotS s), .int .i64 (gotE s)]) ∧ Below w.heap.size w w' := by
  have CW := fun w => fwhole s w
  cases hw : whole s
  · rw [hw] at CW
    obtain ⟨e1, e2⟩ := got_short hw
    rw [e1, e2]; exact fget_short s CW w
  · rw [hw] at CW
    have CR := fun w => fread s hw w
    have CP := fun w => fput (rdv s) (rdv_in s) w
    have hm := (may_iff _).2 (rdv_may s)
    unfold putS putE at CP
    rw [hm, if_pos rfl, if_pos rfl] at CP
    by_cases ho : octets (rdv s) = s
    · obtain ⟨e1, e2⟩ := got_ok hw ho
      rw [ho] at CP
      rw [e1, e2]; exact fget_ok s _ CW CR CP w
    · obtain ⟨e1, e2⟩ := got_no hw ho
      rw [e1, e2]; exact fget_long s _ _ ho CW CR CP w
end Go.Proofs.YtffahjlboakakaaDoor.Msc
