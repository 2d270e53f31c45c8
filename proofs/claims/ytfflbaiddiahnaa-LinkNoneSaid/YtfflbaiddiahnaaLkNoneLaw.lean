/-
  LinkNone answers true whatever the event is, and turns nothing that was there. No condition.
-/
import Derived.Test.YtfflbaiddiahnaaLkWorks
namespace Go.Proofs.Ytfflbaiddiahnaa.linkNone
open Go.RowKit Go.Proofs.Ytfflbaiddiahnaa.Base Go.Proofs.Ytfflbaiddiahnaa.Mem Go.Proofs.Ytfflbaiddiahnaa.Lk
abbrev nV : Value := av ⟨0, false, false, 0, 0⟩
theorem on_block2 {w w1 : World} {o p : Obj} (hb : Below ((w.alloc o).alloc p).heap.size ((w.alloc o).alloc p) w1) {n : Nat} (hn : w.heap.size + 1 = n) (v0 v1 v2 v3 v4 : Value) : Below w.heap.size w (set5 w1 n v0 v1 v2 v3 v4) := by
  subst hn
  have h : Below w.heap.size w w1 := below_on (nest_below w [o, p]) hb
  exact ((((h.setCell (by simp) v0).setCell (by simp) v1).setCell (by simp) v2).setCell (by simp) v3).setCell (by simp) v4
theorem new2 {w w1 : World} {o p : Obj} (hb : Below ((w.alloc o).alloc p).heap.size ((w.alloc o).alloc p) w1) {n : Nat} (hn : w.heap.size + 1 = n) : w1.heap[n]? = some p := by
  subst hn; exact stays (nest w [o, p] 1 _ rfl) hb
set_option maxHeartbeats 1000000 in
theorem no_0 (w : World) (e : Et) (hm : place e.kind 6 = 0) :
    Calls Try.prog 13 #[.pointer none, ev e] w fun x w' => x = .returned nV ∧ Below w.heap.size w w' := by
  have CP : Hid (∀ w, Calls Try.prog 23 #[.int .i64 e.kind, .int .i64 6] w fun x w' => x = .returned (.int .i64 0) ∧ w = w') := Lib.hid fun w => pickE e.kind 0 hm w
  clear hm
  go_enter Try.func13, Try.ntmps13
  go_wp2_with (first
    | (go_at_call 23; ((with_reducible refine (CP.out _).mono ?_); rintro x w1 ⟨rfl, rfl⟩))
    | (go_at_call 18; ((with_reducible refine (fOpen_nil _).mono ?_); rintro x w1 ⟨rfl, hb⟩; have HB := Lib.hid hb; obtain ⟨⟨k0, k1, k2, k3, k4⟩, kf⟩ := cells5 (new2 hb rfl); clear hb)))
  exact bodyPost_ret (v := nV) (by simp [results, Try.results13, go_sem, k0, k1, k2, k3, k4]) rfl ⟨rfl, on_block2 HB.out rfl _ _ _ _ _⟩
set_option maxHeartbeats 1000000 in
theorem no_1 (w : World) (e : Et) (hm : place e.kind 6 = 1) :
    Calls Try.prog 13 #[.pointer none, ev e] w fun x w' => x = .returned nV ∧ Below w.heap.size w w' := by
  have CP : Hid (∀ w, Calls Try.prog 23 #[.int .i64 e.kind, .int .i64 6] w fun x w' => x = .returned (.int .i64 1) ∧ w = w') := Lib.hid fun w => pickE e.kind 1 hm w
  clear hm
  go_enter Try.func13, Try.ntmps13
  go_wp2_with (first
    | (go_at_call 23; ((with_reducible refine (CP.out _).mono ?_); rintro x w1 ⟨rfl, rfl⟩))
    | (go_at_call 20; ((with_reducible refine (fClose_nil _).mono ?_); rintro x w1 ⟨rfl, hb⟩; have HB := Lib.hid hb; obtain ⟨⟨k0, k1, k2, k3, k4⟩, kf⟩ := cells5 (new2 hb rfl); clear hb)))
  exact bodyPost_ret (v := nV) (by simp [results, Try.results13, go_sem, k0, k1, k2, k3, k4]) rfl ⟨rfl, on_block2 HB.out rfl _ _ _ _ _⟩
set_option maxHeartbeats 1000000 in
theorem no_2 (w : World) (e : Et) (hm : place e.kind 6 = 2) :
    Calls Try.prog 13 #[.pointer none, ev e] w fun x w' => x = .returned nV ∧ Below w.heap.size w w' := by
  have CP : Hid (∀ w, Calls Try.prog 23 #[.int .i64 e.kind, .int .i64 6] w fun x w' => x = .returned (.int .i64 2) ∧ w = w') := Lib.hid fun w => pickE e.kind 2 hm w
  clear hm
  go_enter Try.func13, Try.ntmps13
  go_wp2_with (first
    | (go_at_call 23; ((with_reducible refine (CP.out _).mono ?_); rintro x w1 ⟨rfl, rfl⟩))
    | (go_at_call 22; ((with_reducible refine (fDue_nil _).mono ?_); rintro x w1 ⟨rfl, hb⟩; have HB := Lib.hid hb; obtain ⟨⟨k0, k1, k2, k3, k4⟩, kf⟩ := cells5 (new2 hb rfl); clear hb)))
  exact bodyPost_ret (v := nV) (by simp [results, Try.results13, go_sem, k0, k1, k2, k3, k4]) rfl ⟨rfl, on_block2 HB.out rfl _ _ _ _ _⟩
set_option maxHeartbeats 1000000 in
theorem no_3 (w : World) (e : Et) (hm : place e.kind 6 = 3) :
    Calls Try.prog 13 #[.pointer none, ev e] w fun x w' => x = .returned nV ∧ Below w.heap.size w w' := by
  have CP : Hid (∀ w, Calls Try.prog 23 #[.int .i64 e.kind, .int .i64 6] w fun x w' => x = .returned (.int .i64 3) ∧ w = w') := Lib.hid fun w => pickE e.kind 3 hm w
  clear hm
  go_enter Try.func13, Try.ntmps13
  go_wp2_with (first
    | (go_at_call 23; ((with_reducible refine (CP.out _).mono ?_); rintro x w1 ⟨rfl, rfl⟩))
    | (go_at_call 16; ((with_reducible refine (flisten_nil _ _).mono ?_); rintro x w1 ⟨rfl, rfl⟩)))
  exact bodyPost_ret (v := nV) (by simp [results, Try.results13, go_sem]) rfl ⟨rfl, nest_below w [_, _]⟩
set_option maxHeartbeats 1000000 in
theorem no_4 (w : World) (e : Et) (h0 : place e.kind 6 ≠ 0) (h1 : place e.kind 6 ≠ 1) (h2 : place e.kind 6 ≠ 2) (h3 : place e.kind 6 ≠ 3) :
    Calls Try.prog 13 #[.pointer none, ev e] w fun x w' => x = .returned nV ∧ Below w.heap.size w w' := by
  obtain ⟨m, hm⟩ : ∃ m, place e.kind 6 = m := ⟨_, rfl⟩
  have CP := Lib.hid (fun w => pickE e.kind m hm w)
  rw [hm] at h0 h1 h2 h3
  have t0 : ((m : Int) == 0) = false := beq_false (by omega)
  have t1 : ((m : Int) == 1) = false := beq_false (by omega)
  have t2 : ((m : Int) == 2) = false := beq_false (by omega)
  have t3 : ((m : Int) == 3) = false := beq_false (by omega)
  clear h0 h1 h2 h3 hm
  go_enter Try.func13, Try.ntmps13
  go_wp2_with (first
    | (go_at_call 23; ((with_reducible refine (CP.out _).mono ?_); rintro x w1 ⟨rfl, rfl⟩))
    | (go_at_call 21; ((with_reducible refine (fHear_nil _ _ _ _).mono ?_); rintro x w1 ⟨rfl, hb⟩; have HB := Lib.hid hb; obtain ⟨⟨k0, k1, k2, k3, k4⟩, kf⟩ := cells5 (new2 hb rfl); clear hb)))
  exact bodyPost_ret (v := nV) (by simp [results, Try.results13, go_sem, k0, k1, k2, k3, k4]) rfl ⟨rfl, on_block2 HB.out rfl _ _ _ _ _⟩
theorem no (w : World) (e : Et) : Calls Try.prog 13 #[.pointer none, ev e] w fun x w' => x = .returned nV ∧ Below w.heap.size w w' := by
  by_cases h0 : place e.kind 6 = 0
  · exact no_0 w e h0
  by_cases h1 : place e.kind 6 = 1
  · exact no_1 w e h1
  by_cases h2 : place e.kind 6 = 2
  · exact no_2 w e h2
  by_cases h3 : place e.kind 6 = 3
  · exact no_3 w e h3
  exact no_4 w e h0 h1 h2 h3
set_option maxHeartbeats 1000000 in
theorem lawE (e : Et) (w : World) : Calls Try.prog 7 #[ev e] w fun x w' => x = .returned (.bool true) ∧ Below w.heap.size w w' := by
  have hs := same_eq
  go_enter Try.func7, Try.ntmps7
  go_wp2_with (first
    | (go_at_call 13; ((with_reducible refine (no _ e).mono ?_); rintro x w1 ⟨rfl, hb⟩; have HB := Lib.hid (below_on (nest_below w [_]) hb); clear hb))
    | (go_at_call 15; ((with_reducible refine (fstate_nil _).mono ?_); rintro x w1 ⟨rfl, rfl⟩))
    | (go_at_call 9; ((with_reducible refine (fworks _).mono ?_); rintro x w2 ⟨rfl, hb⟩; have HC := Lib.hid (below_on HB.out hb); clear hb)))
  go_ret
  exact ⟨rfl, HC.out⟩
theorem law (e : Et) (_ : e.In) (w : World) : Calls Try.prog 7 #[ev e] w fun x w' => x = .returned (.bool true) ∧ Below w.heap.size w w' := lawE e w
end Go.Proofs.Ytfflbaiddiahnaa.linkNone
