/-
  What layer 4's Decode answers. Conditions: the tables of layers 1 and 3 lie where the program lays them; the bytes' length.
-/
import Derived.Test.YthlciaomfpephaaDoorBasicDec
namespace Go.Proofs.YthlciaomfpephaaDoor.Basic
open Go.RowKit Go.Proofs.YthlciaomfpephaaDoor.Base Go.Proofs.YthlciaomfpephaaDoor.Ea Go.Proofs.YthlciaomfpephaaDoor.Field
theorem clone (s : ByteArray) (w : World) (h : s.size ≤ 281474976710656) :
    Calls Tryd.prog 72 #[.string s] w fun e w' => e = .returned (.string s) ∧ Below w.heap.size w w' := by
  have C := Lib.hid (Tryd.stringslite_Clone s w h)
  clear h
  go_enter Tryd.func72, Tryd.ntmps72
  go_wp2_with (go_at_call 73; ((with_reducible refine C.out.mono ?_); rintro e w' ⟨rfl, hb⟩))
  go_ret
  exact ⟨rfl, hb⟩
/-- The tables stay where they are while Decode's own blocks are written. -/
theorem tabs_keeps {w W w' : World} (h : Tabs w) (hb : Below w.heap.size w W) (hk : Keeps (w.heap.size + 4) (w.heap.size + 5) W w') : Tabs w' := tabs_below h (hb.trans (hk.below (by omega) (by omega) hb.size))
set_option maxHeartbeats 1000000 in
theorem fdec_no (s : ByteArray) (hs : s.size ≤ maxLen) (h : ∀ a c x i, ¬ IsB s a c x i) (ini : Bool) (n1 : Int) (w : World) :
    Calls Tryd.prog 64 #[.string s, .bool ini, .int .i64 n1] w fun e w' => e = .returned (.tuple #[noFr, .int .i64 40]) ∧ Below w.heap.size w w' := by
  have C := Lib.hid (feDec_no s hs h ini n1)
  clear h
  go_enter Tryd.func64, Tryd.ntmps64
  go_wp2_with (go_at_call 26; ((with_reducible refine (must_any _ _ _ _ _).mono ?_); rintro e w' ⟨rfl, rfl⟩))
  refine (C.out _ w.heap.size (fun i o h => nest w _ i o h)).mono ?_
  rintro e w1 ⟨rfl, hk⟩
  have hbk := hk.at (nest w _ 3 _ rfl) (by omega) (by omega)
  have HB : Hid (Below w.heap.size w w1) := Lib.hid ((nest_below w [_, _, _, _, _, _, _, _, _, _, _, _, _]).trans (hk.below (by omega) (by omega) (nest_below w [_, _, _, _, _, _, _, _, _, _, _, _, _]).size))
  obtain ⟨⟨k0, k1, k2, k3, k4, k5, k6⟩, kf⟩ := no_cells hbk
  clear hk hbk
  go_wp2
  exact bodyPost_ret (v := .tuple #[noFr, .int .i64 40]) (by simp [results, Tryd.results64, go_sem, k0, k1, k2, k3, k4, k5, k6]) rfl ⟨rfl, set7 HB.out (by omega) _ _ _ _ _ _ _⟩
set_option maxHeartbeats 1000000 in
theorem fdec_bad {s : ByteArray} {a c x : Nat} {i : ByteArray} (h : IsB s a c x i) (hs : s.size ≤ maxLen) (ini : Bool) (n1 : Int) (w : World) (ht : Tabs w) (he : dE a c x i ini n1 ≠ 0) :
    Calls Tryd.prog 64 #[.string s, .bool ini, .int .i64 n1] w fun e w' => e = .returned (.tuple #[noFr, .int .i64 (dE a c x i ini n1 : Int)]) ∧ Below w.heap.size w w' := by
  have C := Lib.hid (feDec_ok h hs ini n1)
  have HT := Lib.hid ht
  have n0 : ((dE a c x i ini n1 : Int) == 0) = false := by rw [beq_eq_false_iff_ne]; omega
  have n2 : ((dE a c x i ini n1 : Int) != 0) = true := by rw [bne_iff_ne]; omega
  clear h ht he
  go_enter Tryd.func64, Tryd.ntmps64
  go_wp2_with (go_at_call 26; ((with_reducible refine (must_any _ _ _ _ _).mono ?_); rintro e w' ⟨rfl, rfl⟩))
  refine (C.out _ w.heap.size (fun w' hk => tabs_keeps HT.out (nest_below w [_, _, _, _, _, _, _, _, _, _, _, _, _]) hk) (fun i o h => nest w _ i o h)).mono ?_
  rintro e w1 ⟨rfl, hk, _⟩
  have hbk := hk.at (nest w _ 3 _ rfl) (by omega) (by omega)
  have HB : Hid (Below w.heap.size w w1) := Lib.hid ((nest_below w [_, _, _, _, _, _, _, _, _, _, _, _, _]).trans (hk.below (by omega) (by omega) (nest_below w [_, _, _, _, _, _, _, _, _, _, _, _, _]).size))
  obtain ⟨⟨k0, k1, k2, k3, k4, k5, k6⟩, kf⟩ := no_cells hbk
  clear hk hbk
  go_wp2
  exact bodyPost_ret (v := .tuple #[noFr, .int .i64 (dE a c x i ini n1 : Int)]) (by simp [results, Tryd.results64, go_sem, k0, k1, k2, k3, k4, k5, k6]) rfl ⟨rfl, set7 HB.out (by omega) _ _ _ _ _ _ _⟩
set_option maxHeartbeats 2000000 in
theorem fdec_ok {s : ByteArray} {a c x : Nat} {i : ByteArray} (h : IsB s a c x i) (hs : s.size ≤ maxLen) (ini : Bool) (n1 : Int) (w : World) (ht : Tabs w) (he : dE a c x i ini n1 = 0) (f : Fr) (hf : fr a c i ini = f) :
    Calls Tryd.prog 64 #[.string s, .bool ini, .int .i64 n1] w fun e w' => e = .returned (.tuple #[fv f, .int .i64 0]) ∧ Below w.heap.size w w' := by
  have C := Lib.hid (feDec_ok h hs ini n1)
  have HT := Lib.hid ht
  have HE := Lib.hid he
  have HL : Hid (f.info.size ≤ 281474976710656) := Lib.hid (by rw [← hf]; have := h.hl; show i.size ≤ _; omega)
  have HF := Lib.hid hf
  clear h ht he hf
  go_enter Tryd.func64, Tryd.ntmps64
  go_wp2_with (go_at_call 26; ((with_reducible refine (must_any _ _ _ _ _).mono ?_); rintro e w' ⟨rfl, rfl⟩))
  refine (C.out _ w.heap.size (fun w' hk => tabs_keeps HT.out (nest_below w [_, _, _, _, _, _, _, _, _, _, _, _, _]) hk) (fun i o h => nest w _ i o h)).mono ?_
  rw [HE.out, HF.out]
  rintro e w1 ⟨rfl, hk, hfr⟩
  have HFr := Lib.hid (hfr rfl)
  have hbk := hk.at (nest w _ 3 _ rfl) (by omega) (by omega)
  have HK := Lib.hid hbk
  have HB : Hid (Below w.heap.size w w1) := Lib.hid ((nest_below w [_, _, _, _, _, _, _, _, _, _, _, _, _]).trans (hk.below (by omega) (by omega) (nest_below w [_, _, _, _, _, _, _, _, _, _, _, _, _]).size))
  obtain ⟨g0, g1, g2, g3, g4, g5, g6⟩ := HFr.out.cells
  clear hk hbk hfr
  go_wp2_with (go_at_call 72; ((with_reducible refine (clone _ _ HL.out).mono ?_); rintro e w2 ⟨rfl, hb⟩; have H2 := Lib.hid hb; clear hb; obtain ⟨m0, m1, m2, m3, m4, m5, m6⟩ := (HFr.out.below H2.out).cells; have mf := (HFr.out.below H2.out).free; obtain ⟨⟨k0, k1, k2, k3, k4, k5, k6⟩, kf⟩ := no_cells ((H2.out.block _ (lt_heap HK.out)).trans HK.out)))
  exact bodyPost_ret (v := .tuple #[fv f, .int .i64 0]) (by simp [results, Tryd.results64, go_sem, k0, k1, k2, k3, k4, k5, k6]) rfl ⟨rfl, set7 ((below_on' HB.out H2.out).setCell (show w.heap.size ≤ w.heap.size + 5 by omega) _) (by omega) _ _ _ _ _ _ _⟩
end Go.Proofs.YthlciaomfpephaaDoor.Basic
