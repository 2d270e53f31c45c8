/-
  Layer 22, put together: MsgsNeed, EaAddr, EaCalls, TlvPut. Conditions: as each theorem names them.
-/
import Derived.Test.YtakkhdammmcjcaaGreatDoorK06
import Derived.Test.YtakkhdammmcjcaaGreatDoorChecked
import Derived.Test.YtakkhdammmcjcaaGreatDoorK01
import Derived.Test.YtakkhdammmcjcaaGreatDoorK02
import Derived.WalkKit
import Derived.Lib.Hide
import Derived.Deep.QuietTactic
import Derived.BigQuiet
import Derived.Deep.RegionHeld
import Derived.Deep.RegionHeld3
namespace Go.Proofs.YtakkhdammmcjcaaGreatDoor.Msgs
open Go.RowKit Base Mem
set_option maxRecDepth 20000
theorem eq_is {n k : Nat} (h : n = k) : ((n : Int) == (k : Int)) = true := by rw [h]; simp
theorem eq_no {n k : Nat} (h : n ≠ k) : ((n : Int) == (k : Int)) = false := by rw [beq_eq_false_iff_ne]; omega
theorem needed_1 (m : Ms) (hk : m.k = 1) (w : World) :
 Calls Tryz.prog 62 #[mv m] w fun e w' => e = .returned (mv (need m)) ∧ Below w.heap.size w w' := by
 have HE : Hid (need m = ⟨m.k, m.c, m.p, Msc.zero, 0, no⟩) := Lib.hid (by unfold need; rw [hk]; rfl)
 have q1 : ((m.k : Int) == 1) = true := eq_is (n := m.k) (k := 1) (by omega)
 clear hk
 rw [HE.out]
 clear HE
 go_enter Tryz.func62, Tryz.ntmps62
 go_wp2_with (first
  | ((with_reducible refine bxm (m := m) ?hx ?_); (case hx => rfl); intro b1 w1 h1 F1; have HM := Lib.hid h1; have HB := Lib.hid F1.below; clear h1 F1)
  | (have _ := HR; (with_reducible refine alm zeroM ?_); intro b3 w3 h3 F3; have N13 := Lib.hid (F3.ne HM.out); have N23 := Lib.hid (F3.ne HR.out); replace HM := Lib.hid (F3.stays HM.out); replace HR := Lib.hid (F3.stays HR.out); have HN := Lib.hid h3; have L3 := Lib.hid (F3.le HB.out); replace HB := Lib.hid (F3.on HB.out); clear h3 F3)
  | ((with_reducible refine alm zeroM ?_); intro b2 w2 h2 F2; have N12 := Lib.hid (F2.ne HM.out); replace HM := Lib.hid (F2.stays HM.out); have HR := Lib.hid h2; have L2 := Lib.hid (F2.le HB.out); replace HB := Lib.hid (F2.on HB.out); clear h2 F2; obtain ⟨c0, c1, c18, c19⟩ := flds HM.out)
  | ((with_reducible refine bdm ⟨m.k, m.c, Pn.zero, Msc.zero, 0, no⟩ ?hb ?_); (case hb => kernel_rfl))
  | ((with_reducible refine stm (m := ⟨m.k, m.c, Pn.zero, Msc.zero, 0, no⟩) isM HN.out ?hx ?hy ?_); (case hx => rfl); (case hy => rfl); intro w4 h4 M4; replace HN := Lib.hid h4; replace HM := Lib.hid (M4.other N13.out HM.out); replace HR := Lib.hid (M4.other N23.out HR.out); replace HB := Lib.hid (M4.below HB.out L3.out); clear c0 c1 c18 c19 h4 M4; obtain ⟨c0, c1, c18, c19⟩ := flds HM.out; obtain ⟨z0, z1, z18, z19⟩ := frees HN.out; obtain ⟨n0, n1, n18, n19⟩ := flds HN.out)
  | ((with_reducible refine ldp isP HM.out ?hx ?_); (case hx => rfl))
  | ((with_reducible refine stp (p := m.p) isP HN.out ?hx ?hy ?_); (case hx => rfl); (case hy => rfl); intro w5 h5 M5; replace HN := Lib.hid h5; replace HR := Lib.hid (M5.other N23.out HR.out); replace HB := Lib.hid (M5.below HB.out L3.out); clear c0 c1 c18 c19 z0 z1 z18 z19 n0 n1 n18 n19 h5 M5)
  | ((with_reducible refine ldm isM HN.out ?hx ?_); (case hx => rfl))
  | ((with_reducible refine stm (m := ⟨m.k, m.c, m.p, Msc.zero, 0, no⟩) isM HR.out ?hx ?hy ?_); (case hx => rfl); (case hy => rfl); intro w6 h6 M6; replace HR := Lib.hid h6; replace HB := Lib.hid (M6.below HB.out L2.out); clear h6 M6))
 exact bodyPost_ret (needed_results _ _ b2 _ _ HR.out rfl) rfl ⟨rfl, HB.out⟩
theorem needed_2 (m : Ms) (hk : m.k = 2) (w : World) :
 Calls Tryz.prog 62 #[mv m] w fun e w' => e = .returned (mv (need m)) ∧ Below w.heap.size w w' := by
 have HE : Hid (need m = ⟨m.k, m.c, Pn.zero, m.s, 0, no⟩) := Lib.hid (by unfold need; rw [hk]; rfl)
 have q1 : ((m.k : Int) == 1) = false := eq_no (n := m.k) (k := 1) (by omega)
 have q2 : ((m.k : Int) == 2) = true := eq_is (n := m.k) (k := 2) (by omega)
 clear hk
 rw [HE.out]
 clear HE
 go_enter Tryz.func62, Tryz.ntmps62
 go_wp2_with (first
  | ((with_reducible refine bxm (m := m) ?hx ?_); (case hx => rfl); intro b1 w1 h1 F1; have HM := Lib.hid h1; have HB := Lib.hid F1.below; clear h1 F1)
  | (have _ := HR; (with_reducible refine alm zeroM ?_); intro b3 w3 h3 F3; have N13 := Lib.hid (F3.ne HM.out); have N23 := Lib.hid (F3.ne HR.out); replace HM := Lib.hid (F3.stays HM.out); replace HR := Lib.hid (F3.stays HR.out); have HN := Lib.hid h3; have L3 := Lib.hid (F3.le HB.out); replace HB := Lib.hid (F3.on HB.out); clear h3 F3)
  | ((with_reducible refine alm zeroM ?_); intro b2 w2 h2 F2; have N12 := Lib.hid (F2.ne HM.out); replace HM := Lib.hid (F2.stays HM.out); have HR := Lib.hid h2; have L2 := Lib.hid (F2.le HB.out); replace HB := Lib.hid (F2.on HB.out); clear h2 F2; obtain ⟨c0, c1, c18, c19⟩ := flds HM.out)
  | ((with_reducible refine bdm ⟨m.k, m.c, Pn.zero, Msc.zero, 0, no⟩ ?hb ?_); (case hb => kernel_rfl))
  | ((with_reducible refine stm (m := ⟨m.k, m.c, Pn.zero, Msc.zero, 0, no⟩) isM HN.out ?hx ?hy ?_); (case hx => rfl); (case hy => rfl); intro w4 h4 M4; replace HN := Lib.hid h4; replace HM := Lib.hid (M4.other N13.out HM.out); replace HR := Lib.hid (M4.other N23.out HR.out); replace HB := Lib.hid (M4.below HB.out L3.out); clear c0 c1 c18 c19 h4 M4; obtain ⟨c0, c1, c18, c19⟩ := flds HM.out; obtain ⟨z0, z1, z18, z19⟩ := frees HN.out; obtain ⟨n0, n1, n18, n19⟩ := flds HN.out)
  | ((with_reducible refine lds isS HM.out ?hx ?_); (case hx => rfl))
  | ((with_reducible refine sts (s := m.s) isS HN.out ?hx ?hy ?_); (case hx => rfl); (case hy => rfl); intro w5 h5 M5; replace HN := Lib.hid h5; replace HR := Lib.hid (M5.other N23.out HR.out); replace HB := Lib.hid (M5.below HB.out L3.out); clear c0 c1 c18 c19 z0 z1 z18 z19 n0 n1 n18 n19 h5 M5)
  | ((with_reducible refine ldm isM HN.out ?hx ?_); (case hx => rfl))
  | ((with_reducible refine stm (m := ⟨m.k, m.c, Pn.zero, m.s, 0, no⟩) isM HR.out ?hx ?hy ?_); (case hx => rfl); (case hy => rfl); intro w6 h6 M6; replace HR := Lib.hid h6; replace HB := Lib.hid (M6.below HB.out L2.out); clear h6 M6))
 exact bodyPost_ret (needed_results _ _ b2 _ _ HR.out rfl) rfl ⟨rfl, HB.out⟩
theorem needed_5 (m : Ms) (hk : m.k = 5) (w : World) :
 Calls Tryz.prog 62 #[mv m] w fun e w' => e = .returned (mv (need m)) ∧ Below w.heap.size w w' := by
 have HE : Hid (need m = ⟨m.k, m.c, Pn.zero, Msc.zero, 0, m.b⟩) := Lib.hid (by unfold need; rw [hk]; rfl)
 have q1 : ((m.k : Int) == 1) = false := eq_no (n := m.k) (k := 1) (by omega)
 have q2 : ((m.k : Int) == 2) = false := eq_no (n := m.k) (k := 2) (by omega)
 have q5 : ((m.k : Int) == 5) = true := eq_is (n := m.k) (k := 5) (by omega)
 clear hk
 rw [HE.out]
 clear HE
 go_enter Tryz.func62, Tryz.ntmps62
 go_wp2_with (first
  | ((with_reducible refine bxm (m := m) ?hx ?_); (case hx => rfl); intro b1 w1 h1 F1; have HM := Lib.hid h1; have HB := Lib.hid F1.below; clear h1 F1)
  | (have _ := HR; (with_reducible refine alm zeroM ?_); intro b3 w3 h3 F3; have N13 := Lib.hid (F3.ne HM.out); have N23 := Lib.hid (F3.ne HR.out); replace HM := Lib.hid (F3.stays HM.out); replace HR := Lib.hid (F3.stays HR.out); have HN := Lib.hid h3; have L3 := Lib.hid (F3.le HB.out); replace HB := Lib.hid (F3.on HB.out); clear h3 F3)
  | ((with_reducible refine alm zeroM ?_); intro b2 w2 h2 F2; have N12 := Lib.hid (F2.ne HM.out); replace HM := Lib.hid (F2.stays HM.out); have HR := Lib.hid h2; have L2 := Lib.hid (F2.le HB.out); replace HB := Lib.hid (F2.on HB.out); clear h2 F2; obtain ⟨c0, c1, c18, c19⟩ := flds HM.out)
  | ((with_reducible refine bdm ⟨m.k, m.c, Pn.zero, Msc.zero, 0, no⟩ ?hb ?_); (case hb => kernel_rfl))
  | ((with_reducible refine stm (m := ⟨m.k, m.c, Pn.zero, Msc.zero, 0, no⟩) isM HN.out ?hx ?hy ?_); (case hx => rfl); (case hy => rfl); intro w4 h4 M4; replace HN := Lib.hid h4; replace HM := Lib.hid (M4.other N13.out HM.out); replace HR := Lib.hid (M4.other N23.out HR.out); replace HB := Lib.hid (M4.below HB.out L3.out); clear c0 c1 c18 c19 h4 M4; obtain ⟨c0, c1, c18, c19⟩ := flds HM.out; obtain ⟨z0, z1, z18, z19⟩ := frees HN.out; obtain ⟨n0, n1, n18, n19⟩ := flds HN.out)
  | ((with_reducible refine ldm isM (set_b HN.out m.b) ?hx ?_); (case hx => rfl))
  | ((with_reducible refine stm (m := ⟨m.k, m.c, Pn.zero, Msc.zero, 0, m.b⟩) isM ((mod_setCell _ _ _ _).other N23.out HR.out) ?hx ?hy ?_); (case hx => rfl); (case hy => rfl); intro w6 h6 M6; replace HR := Lib.hid h6; replace HB := Lib.hid (M6.below ((mod_setCell _ _ _ _).below HB.out L3.out) L2.out); clear h6 M6))
 exact bodyPost_ret (needed_results _ _ b2 _ _ HR.out rfl) rfl ⟨rfl, HB.out⟩
theorem needed_7 (m : Ms) (hk : m.k = 7) (w : World) :
 Calls Tryz.prog 62 #[mv m] w fun e w' => e = .returned (mv (need m)) ∧ Below w.heap.size w w' := by
 have HE : Hid (need m = ⟨m.k, m.c, Pn.zero, Msc.zero, m.t, no⟩) := Lib.hid (by unfold need; rw [hk]; rfl)
 have q1 : ((m.k : Int) == 1) = false := eq_no (n := m.k) (k := 1) (by omega)
 have q2 : ((m.k : Int) == 2) = false := eq_no (n := m.k) (k := 2) (by omega)
 have q5 : ((m.k : Int) == 5) = false := eq_no (n := m.k) (k := 5) (by omega)
 have q7 : ((m.k : Int) == 7) = true := eq_is (n := m.k) (k := 7) (by omega)
 clear hk
 rw [HE.out]
 clear HE
 go_enter Tryz.func62, Tryz.ntmps62
 go_wp2_with (first
  | ((with_reducible refine bxm (m := m) ?hx ?_); (case hx => rfl); intro b1 w1 h1 F1; have HM := Lib.hid h1; have HB := Lib.hid F1.below; clear h1 F1)
  | (have _ := HR; (with_reducible refine alm zeroM ?_); intro b3 w3 h3 F3; have N13 := Lib.hid (F3.ne HM.out); have N23 := Lib.hid (F3.ne HR.out); replace HM := Lib.hid (F3.stays HM.out); replace HR := Lib.hid (F3.stays HR.out); have HN := Lib.hid h3; have L3 := Lib.hid (F3.le HB.out); replace HB := Lib.hid (F3.on HB.out); clear h3 F3)
  | ((with_reducible refine alm zeroM ?_); intro b2 w2 h2 F2; have N12 := Lib.hid (F2.ne HM.out); replace HM := Lib.hid (F2.stays HM.out); have HR := Lib.hid h2; have L2 := Lib.hid (F2.le HB.out); replace HB := Lib.hid (F2.on HB.out); clear h2 F2; obtain ⟨c0, c1, c18, c19⟩ := flds HM.out)
  | ((with_reducible refine bdm ⟨m.k, m.c, Pn.zero, Msc.zero, 0, no⟩ ?hb ?_); (case hb => kernel_rfl))
  | ((with_reducible refine stm (m := ⟨m.k, m.c, Pn.zero, Msc.zero, 0, no⟩) isM HN.out ?hx ?hy ?_); (case hx => rfl); (case hy => rfl); intro w4 h4 M4; replace HN := Lib.hid h4; replace HM := Lib.hid (M4.other N13.out HM.out); replace HR := Lib.hid (M4.other N23.out HR.out); replace HB := Lib.hid (M4.below HB.out L3.out); clear c0 c1 c18 c19 h4 M4; obtain ⟨c0, c1, c18, c19⟩ := flds HM.out; obtain ⟨z0, z1, z18, z19⟩ := frees HN.out; obtain ⟨n0, n1, n18, n19⟩ := flds HN.out)
  | ((with_reducible refine ldm isM (set_t HN.out m.t) ?hx ?_); (case hx => rfl))
  | ((with_reducible refine stm (m := ⟨m.k, m.c, Pn.zero, Msc.zero, m.t, no⟩) isM ((mod_setCell _ _ _ _).other N23.out HR.out) ?hx ?hy ?_); (case hx => rfl); (case hy => rfl); intro w6 h6 M6; replace HR := Lib.hid h6; replace HB := Lib.hid (M6.below ((mod_setCell _ _ _ _).below HB.out L3.out) L2.out); clear h6 M6))
 exact bodyPost_ret (needed_results _ _ b2 _ _ HR.out rfl) rfl ⟨rfl, HB.out⟩
theorem needed_8 (m : Ms) (hk : m.k = 8) (w : World) :
 Calls Tryz.prog 62 #[mv m] w fun e w' => e = .returned (mv (need m)) ∧ Below w.heap.size w w' := by
 have HE : Hid (need m = ⟨m.k, m.c, Pn.zero, Msc.zero, m.t, m.b⟩) := Lib.hid (by unfold need; rw [hk]; rfl)
 have q1 : ((m.k : Int) == 1) = false := eq_no (n := m.k) (k := 1) (by omega)
 have q2 : ((m.k : Int) == 2) = false := eq_no (n := m.k) (k := 2) (by omega)
 have q5 : ((m.k : Int) == 5) = false := eq_no (n := m.k) (k := 5) (by omega)
 have q7 : ((m.k : Int) == 7) = false := eq_no (n := m.k) (k := 7) (by omega)
 have q8 : ((m.k : Int) == 8) = true := eq_is (n := m.k) (k := 8) (by omega)
 clear hk
 rw [HE.out]
 clear HE
 go_enter Tryz.func62, Tryz.ntmps62
 go_wp2_with (first
  | ((with_reducible refine bxm (m := m) ?hx ?_); (case hx => rfl); intro b1 w1 h1 F1; have HM := Lib.hid h1; have HB := Lib.hid F1.below; clear h1 F1)
  | (have _ := HR; (with_reducible refine alm zeroM ?_); intro b3 w3 h3 F3; have N13 := Lib.hid (F3.ne HM.out); have N23 := Lib.hid (F3.ne HR.out); replace HM := Lib.hid (F3.stays HM.out); replace HR := Lib.hid (F3.stays HR.out); have HN := Lib.hid h3; have L3 := Lib.hid (F3.le HB.out); replace HB := Lib.hid (F3.on HB.out); clear h3 F3)
  | ((with_reducible refine alm zeroM ?_); intro b2 w2 h2 F2; have N12 := Lib.hid (F2.ne HM.out); replace HM := Lib.hid (F2.stays HM.out); have HR := Lib.hid h2; have L2 := Lib.hid (F2.le HB.out); replace HB := Lib.hid (F2.on HB.out); clear h2 F2; obtain ⟨c0, c1, c18, c19⟩ := flds HM.out)
  | ((with_reducible refine bdm ⟨m.k, m.c, Pn.zero, Msc.zero, 0, no⟩ ?hb ?_); (case hb => kernel_rfl))
  | ((with_reducible refine stm (m := ⟨m.k, m.c, Pn.zero, Msc.zero, 0, no⟩) isM HN.out ?hx ?hy ?_); (case hx => rfl); (case hy => rfl); intro w4 h4 M4; replace HN := Lib.hid h4; replace HM := Lib.hid (M4.other N13.out HM.out); replace HR := Lib.hid (M4.other N23.out HR.out); replace HB := Lib.hid (M4.below HB.out L3.out); clear c0 c1 c18 c19 h4 M4; obtain ⟨c0, c1, c18, c19⟩ := flds HM.out; obtain ⟨z0, z1, z18, z19⟩ := frees HN.out; obtain ⟨n0, n1, n18, n19⟩ := flds HN.out))
 go_region
 all_goals
  go_wp2_with (first
   | ((with_reducible refine ldm isM (drew_at (set_b (set_t HN.out m.t) m.b)) ?hx ?_); (case hx => rfl))
   | ((with_reducible refine ldm isM (drew_at (set_t (set_b HN.out m.b) m.t)) ?hx ?_); (case hx => rfl))
   | ((with_reducible refine stm (m := ⟨m.k, m.c, Pn.zero, Msc.zero, m.t, m.b⟩) isM ((((mod_setCell _ _ _ _).trans (mod_setCell _ _ _ _)).trans (mod_drew _ _)).other N23.out HR.out) ?hx ?hy ?_); (case hx => rfl); (case hy => rfl); intro w6 h6 M6; replace HR := Lib.hid h6; replace HB := Lib.hid (M6.below ((((mod_setCell _ _ _ _).trans (mod_setCell _ _ _ _)).trans (mod_drew _ _)).below HB.out L3.out) L2.out); clear h6 M6))
  exact bodyPost_ret (needed_results _ _ b2 _ _ HR.out rfl) rfl ⟨rfl, HB.out⟩
theorem needed_0 (m : Ms) (hk : m.k ≠ 1 ∧ m.k ≠ 2 ∧ m.k ≠ 5 ∧ m.k ≠ 7 ∧ m.k ≠ 8) (w : World) :
 Calls Tryz.prog 62 #[mv m] w fun e w' => e = .returned (mv (need m)) ∧ Below w.heap.size w w' := by
 obtain ⟨g1, g2, g5, g7, g8⟩ := hk
 have HE : Hid (need m = ⟨m.k, m.c, Pn.zero, Msc.zero, 0, no⟩) := Lib.hid (by unfold need; rw [if_neg g1, if_neg g2, if_neg (by omega), if_neg (by omega)])
 have q1 : ((m.k : Int) == 1) = false := eq_no (n := m.k) (k := 1) g1
 have q2 : ((m.k : Int) == 2) = false := eq_no (n := m.k) (k := 2) g2
 have q5 : ((m.k : Int) == 5) = false := eq_no (n := m.k) (k := 5) g5
 have q7 : ((m.k : Int) == 7) = false := eq_no (n := m.k) (k := 7) g7
 have q8 : ((m.k : Int) == 8) = false := eq_no (n := m.k) (k := 8) g8
 clear g1 g2 g5 g7 g8
 rw [HE.out]
 clear HE
 go_enter Tryz.func62, Tryz.ntmps62
 go_wp2_with (first
  | ((with_reducible refine bxm (m := m) ?hx ?_); (case hx => rfl); intro b1 w1 h1 F1; have HM := Lib.hid h1; have HB := Lib.hid F1.below; clear h1 F1)
  | (have _ := HR; (with_reducible refine alm zeroM ?_); intro b3 w3 h3 F3; have N13 := Lib.hid (F3.ne HM.out); have N23 := Lib.hid (F3.ne HR.out); replace HM := Lib.hid (F3.stays HM.out); replace HR := Lib.hid (F3.stays HR.out); have HN := Lib.hid h3; have L3 := Lib.hid (F3.le HB.out); replace HB := Lib.hid (F3.on HB.out); clear h3 F3)
  | ((with_reducible refine alm zeroM ?_); intro b2 w2 h2 F2; have N12 := Lib.hid (F2.ne HM.out); replace HM := Lib.hid (F2.stays HM.out); have HR := Lib.hid h2; have L2 := Lib.hid (F2.le HB.out); replace HB := Lib.hid (F2.on HB.out); clear h2 F2; obtain ⟨c0, c1, c18, c19⟩ := flds HM.out)
  | ((with_reducible refine bdm ⟨m.k, m.c, Pn.zero, Msc.zero, 0, no⟩ ?hb ?_); (case hb => kernel_rfl))
  | ((with_reducible refine stm (m := ⟨m.k, m.c, Pn.zero, Msc.zero, 0, no⟩) isM HN.out ?hx ?hy ?_); (case hx => rfl); (case hy => rfl); intro w4 h4 M4; replace HN := Lib.hid h4; replace HM := Lib.hid (M4.other N13.out HM.out); replace HR := Lib.hid (M4.other N23.out HR.out); replace HB := Lib.hid (M4.below HB.out L3.out); clear c0 c1 c18 c19 h4 M4; obtain ⟨c0, c1, c18, c19⟩ := flds HM.out; obtain ⟨z0, z1, z18, z19⟩ := frees HN.out; obtain ⟨n0, n1, n18, n19⟩ := flds HN.out)
  | ((with_reducible refine ldm isM HN.out ?hx ?_); (case hx => rfl))
  | ((with_reducible refine stm (m := ⟨m.k, m.c, Pn.zero, Msc.zero, 0, no⟩) isM HR.out ?hx ?hy ?_); (case hx => rfl); (case hy => rfl); intro w6 h6 M6; replace HR := Lib.hid h6; replace HB := Lib.hid (M6.below HB.out L2.out); clear h6 M6))
 exact bodyPost_ret (needed_results _ _ b2 _ _ HR.out rfl) rfl ⟨rfl, HB.out⟩
theorem fneeded (m : Ms) (w : World) :
 Calls Tryz.prog 62 #[mv m] w fun e w' => e = .returned (mv (need m)) ∧ Below w.heap.size w w' := by
 by_cases h1 : m.k = 1
 · exact needed_1 m h1 w
 by_cases h2 : m.k = 2
 · exact needed_2 m h2 w
 by_cases h5 : m.k = 5
 · exact needed_5 m h5 w
 by_cases h7 : m.k = 7
 · exact needed_7 m h7 w
 by_cases h8 : m.k = 8
 · exact needed_8 m h8 w
 exact needed_0 m ⟨h1, h2, h5, h7, h8⟩ w
end Go.Proofs.YtakkhdammmcjcaaGreatDoor.Msgs
namespace Go.Proofs.YtakkhdammmcjcaaGreatDoor.Ea
open Go.RowKit Base
theorem isLast (a : Nat) (ha : a < 256) (w : World) :
 Calls Tryz.prog 122 #[.int .u8 (a : Int)] w fun e w' => e = .returned (.bool (spK a)) ∧ w = w' := by
 have H := u8_and1 a ha
 go_enter Tryz.func122, Tryz.ntmps122
 go_wp2
 go_ret
 exact ⟨ret_bool (by unfold spK; rw [Bool.eq_iff_iff]; simp; omega), rfl⟩
theorem address (d : Nat) (hd : d < 256) (cr : Bool) (w : World) :
 Calls Tryz.prog 93 #[.int .u8 (d : Int), .bool cr] w fun e w' => e = .returned (.int .u8 (addr d cr : Int)) ∧ w = w' := by
 by_cases h : 63 < d
 · go_enter Tryz.func93, Tryz.ntmps93
   go_wp2
   go_ret
   exact ⟨ret_int (by rw [addr, if_pos h]; rfl), rfl⟩
 · have e1 : bits .or .u8 ((d : Int) * 4) 1 = (d : Int) * 4 + 1 := bits_join .u8 8 (by decide) wraps_u8 2 _ _ (by omega) (by omega) (by omega) (by decide) (by decide) (by decide)
   have e2 : bits .or .u8 ((d : Int) * 4 + 1) 2 = (d : Int) * 4 + 3 := by
    have : ∀ j : Fin 64, bits .or .u8 ((j.val : Int) * 4 + 1) 2 = (j.val : Int) * 4 + 3 := by decide +kernel
    exact this ⟨d, by omega⟩
   have ha : addr d cr = 4 * d + 2 * cr.toNat + 1 := if_neg h
   rw [ha]; clear ha
   cases cr
   all_goals
    go_enter Tryz.func93, Tryz.ntmps93
    go_wp2
    go_ret
    exact ⟨ret_int (by simp; omega), rfl⟩
theorem rbit (b : Bool) (w : World) :
 Calls Tryz.prog 114 #[.bool b] w fun e w' => e = .returned (.int .i64 (b.toNat : Int)) ∧ w = w' := by
 cases b
 all_goals
  go_enter Tryz.func114, Tryz.ntmps114
  go_wp2
  go_ret
  exact ⟨rfl, rfl⟩
theorem raddress (d : Nat) (hd : d < 256) (cr : Bool) (w : World) :
 Calls Tryz.prog 98 #[.int .u8 (d : Int), .bool cr] w fun e w' => e = .returned (.int .u8 (addr d cr : Int)) ∧ w = w' := by
 by_cases h : 63 < d
 · go_enter Tryz.func98, Tryz.ntmps98
   go_wp2
   go_ret
   exact ⟨ret_int (by rw [addr, if_pos h]; rfl), rfl⟩
 · have ha : addr d cr = 4 * d + 2 * cr.toNat + 1 := if_neg h
   rw [ha]; clear ha
   have hb := Bool.toNat_le cr
   go_enter Tryz.func98, Tryz.ntmps98
   go_wp2_with (go_at_call 114; ((with_reducible refine (rbit _ _).mono ?_); rintro e w' ⟨rfl, rfl⟩))
   go_ret
   exact ⟨ret_int (by simp), rfl⟩
theorem split (a : Nat) (ha : a < 256) (w : World) :
 Calls Tryz.prog 124 #[.int .u8 (a : Int)] w fun e w' => e = .returned (.tuple #[.int .u8 (spD a : Int), .bool (spC a), .bool (spK a)]) ∧ w = w' := by
 have e2 := u8_and2 a ha
 by_cases h : a % 2 = 1
 · have hk : spK a = true := decide_eq_true h
   have HD : Hid (spD a = a / 4) := Lib.hid (if_pos h)
   have HC : Hid (spC a = decide (a / 2 % 2 = 1)) := Lib.hid (by unfold spC; rw [Bool.eq_iff_iff]; simp [h])
   go_enter Tryz.func124, Tryz.ntmps124
   go_wp2_with (go_at_call 122; ((with_reducible refine (isLast _ ha _).mono ?_); rintro e w' ⟨rfl, rfl⟩))
   go_ret3
   exact ⟨ret_ibb (by rw [HD.out]; simp) (by rw [HC.out, Bool.eq_iff_iff]; simp; omega) hk.symm, rfl⟩
 · have hk : spK a = false := decide_eq_false h
   have HD : Hid (spD a = 0) := Lib.hid (if_neg h)
   have HC : Hid (spC a = false) := Lib.hid (by unfold spC; rw [Bool.eq_iff_iff]; simp [h])
   go_enter Tryz.func124, Tryz.ntmps124
   go_wp2_with (go_at_call 122; ((with_reducible refine (isLast _ ha _).mono ?_); rintro e w' ⟨rfl, rfl⟩))
   go_ret3
   exact ⟨ret_ibb (by rw [HD.out]; rfl) HC.out.symm hk.symm, rfl⟩
/-- The octet's address is looked for: which numbers and bits have been looked at. -/
theorem rsplit (a : Nat) (ha : a < 256) (w : World) :
 Calls Tryz.prog 116 #[.int .u8 (a : Int)] w fun e w' => e = .returned (.tuple #[.int .u8 (spD a : Int), .bool (spC a), .bool (spK a)]) ∧ w = w' := by
 have HR : Hid (∀ d : Nat, d < 64 → ∀ b : Bool, addr d b = a → spD a = d ∧ spC a = b ∧ spK a = true) := Lib.hid (addr_is a)
 have HN : Hid ((∀ d : Nat, d < 64 → ∀ b : Bool, addr d b ≠ a) → spD a = 0 ∧ spC a = false ∧ spK a = false) := Lib.hid (addr_none a ha)
 go_enter Tryz.func116, Tryz.ntmps116
 go_wp2
 go_loop [5] (fun d => ∃ k : Nat, k ≤ 64 ∧ d = .int .u8 k ∧ Hid (∀ j : Nat, j < k → ∀ b : Bool, addr j b ≠ a)) (fun d => 64 - (intOf d).toNat)
 case atStart => exact ⟨0, by omega, rfl, Lib.hid (fun j hj => by omega)⟩
 case round =>
  obtain ⟨k, hk, rfl, HK⟩ := hrel
  by_cases hlt : k < 64
  · have hd : decide ((k : Int) < 64) = true := by simp; omega
    go_wp2
    go_loop [6] (fun i => ∃ m : Nat, m ≤ 2 ∧ i = .int .i64 m ∧ Hid (∀ b : Bool, b.toNat < m → addr k b ≠ a)) (fun i => 2 - (intOf i).toNat)
    case atStart => exact ⟨0, by omega, rfl, Lib.hid (fun b hb => by omega)⟩
    case round =>
     obtain ⟨m, hm, rfl, HM⟩ := hrel
     by_cases hm2 : m < 2
     · have hlt' : k < 256 := by omega
       obtain rfl | rfl : m = 0 ∨ m = 1 := by omega
       all_goals
        first
         | (by_cases he : addr k false = a
            · have HE := Lib.hid (HR.out k hlt false he)
              have hb : (((addr k false : Nat) : Int) == (a : Int)) = true := by rw [beq_iff_eq, he]
              clear he
              go_wp2_with (go_at_call 98; ((with_reducible refine (raddress _ hlt' false _).mono ?_); rintro e w' ⟨rfl, rfl⟩))
              go_ret3
              exact ⟨ret_ibb (by rw [HE.out.1]) HE.out.2.1.symm HE.out.2.2.symm, rfl⟩
            · have HE := Lib.hid he
              have hb : (((addr k false : Nat) : Int) == (a : Int)) = false := by rw [beq_eq_false_iff_ne]; omega
              clear he
              go_wp2_with (go_at_call 98; ((with_reducible refine (raddress _ hlt' false _).mono ?_); rintro e w' ⟨rfl, rfl⟩))
              go_round
              case rel => exact ⟨1, by omega, by go_num, Lib.hid (fun b hb => by cases b; exact HE.out; exact absurd hb (by decide))⟩
              case measure => simp [intOf])
         | (by_cases he : addr k true = a
            · have HE := Lib.hid (HR.out k hlt true he)
              have hb : (((addr k true : Nat) : Int) == (a : Int)) = true := by rw [beq_iff_eq, he]
              clear he
              go_wp2_with (go_at_call 98; ((with_reducible refine (raddress _ hlt' true _).mono ?_); rintro e w' ⟨rfl, rfl⟩))
              go_ret3
              exact ⟨ret_ibb (by rw [HE.out.1]) HE.out.2.1.symm HE.out.2.2.symm, rfl⟩
            · have HE := Lib.hid he
              have hb : (((addr k true : Nat) : Int) == (a : Int)) = false := by rw [beq_eq_false_iff_ne]; omega
              clear he
              go_wp2_with (go_at_call 98; ((with_reducible refine (raddress _ hlt' true _).mono ?_); rintro e w' ⟨rfl, rfl⟩))
              go_round
              case rel => exact ⟨2, by omega, by go_num, Lib.hid (fun b hb => by cases b; exact HM.out false (by decide); exact HE.out)⟩
              case measure => simp [intOf])
     · have HM2 : Hid (∀ b : Bool, addr k b ≠ a) := Lib.hid (fun b => HM.out b (by have := Bool.toNat_le b; omega))
       go_wp2
       go_round
       case rel => exact ⟨k + 1, by omega, by go_num, Lib.hid (fun j hj b => by
        by_cases hjk : j = k
        · rw [hjk]; exact HM2.out b
        · exact HK.out j (by omega) b)⟩
       case measure => simp [intOf]; omega
  · have HZ := Lib.hid (HN.out (fun d hd b => HK.out d (by omega) b))
    go_wp2
    go_ret3
    exact ⟨ret_ibb (by rw [HZ.out.1]; rfl) HZ.out.2.1.symm HZ.out.2.2.symm, rfl⟩
end Go.Proofs.YtakkhdammmcjcaaGreatDoor.Ea
namespace Go.Proofs.YtakkhdammmcjcaaGreatDoor.Ea
set_option maxRecDepth 20000
open Go.RowKit Base
theorem take (s : ByteArray) (w : World) (hl : s.size ≤ maxLen) :
 Calls Tryz.prog 117 #[.string s] w fun e w' => e = .returned (.tuple #[.int .i64 (tkN s.data.toList : Int), .int .i64 (tkZ s.data.toList : Int), .int .i64 (tkE s.data.toList : Int)]) ∧ w = w' := by
 unfold maxLen at hl
 by_cases h0 : s.size = 0
 · obtain rfl := nil_of_size h0
   go_enter Tryz.func117, Tryz.ntmps117
   go_wp2
   go_ret3
   exact ⟨rfl, rfl⟩
 · have h1 : 0 < s.size := by omega
   have hz : ((s.size : Int) == 0) = false := by rw [beq_eq_false_iff_ne]; omega
   have hb := oct_lt s[0]
   by_cases ho : s[0].toNat % 2 = 1
   · have HT : Hid (tk s.data.toList = (s[0].toNat / 2, 1, 0)) := Lib.hid (by rw [cons_of_size h1]; exact tk_odd _ _ ho)
     have hk : spK s[0].toNat = true := decide_eq_true ho
     unfold tkN tkZ tkE
     rw [HT.out]
     clear ho h0
     go_enter Tryz.func117, Tryz.ntmps117
     go_wp2_with (go_at_call 122; ((with_reducible refine (isLast _ hb _).mono ?_); rintro e w' ⟨rfl, rfl⟩))
     go_ret3
     exact ⟨ret_iii (by simp) rfl rfl, rfl⟩
   · have hk : spK s[0].toNat = false := decide_eq_false ho
     by_cases h2 : s.size = 1
     · have HT : Hid (tk s.data.toList = (0, 0, 20)) := Lib.hid (by rw [one_of_size h2]; exact tk_one _ ho)
       have hz1 : ((s.size : Int) == 1) = true := by rw [beq_iff_eq]; omega
       unfold tkN tkZ tkE
       rw [HT.out]
       clear ho h0 h2
       go_enter Tryz.func117, Tryz.ntmps117
       go_wp2_with (go_at_call 122; ((with_reducible refine (isLast _ hb _).mono ?_); rintro e w' ⟨rfl, rfl⟩))
       go_ret3
       exact ⟨rfl, rfl⟩
     · have h3 : 1 < s.size := by omega
       have hb1 := oct_lt s[1]
       have HT : Hid (tk s.data.toList = (s[0].toNat / 2 + 128 * s[1].toNat, 2, 0)) := Lib.hid (by rw [cons2_of_size h3]; exact tk_two _ _ _ ho)
       have hz1 : ((s.size : Int) == 1) = false := by rw [beq_eq_false_iff_ne]; omega
       have e1 : bits .or .i64 ((s[1].toNat : Int) * 128) ((s[0].toNat : Int) / 2) = (s[1].toNat : Int) * 128 + (s[0].toNat : Int) / 2 := bits_join .i64 63 (by decide) wraps_i64 7 _ _ (by omega) (by omega) (by omega) (by omega) (by omega) (by omega)
       unfold tkN tkZ tkE
       rw [HT.out]
       clear ho h0 h2
       go_enter Tryz.func117, Tryz.ntmps117
       go_wp2_with (go_at_call 122; ((with_reducible refine (isLast _ hb _).mono ?_); rintro e w' ⟨rfl, rfl⟩))
       go_ret3
       exact ⟨ret_iii (by simp; omega) rfl rfl, rfl⟩
theorem octets1 (x : Int) (w : World) :
 Calls Tryz.prog 96 #[.slice (some ⟨w.heap.size, 0, none⟩) 1 1] (w.alloc (.cells #[.int .u8 x] 5)) fun e w' => e = .returned (.string ⟨#[UInt8.ofNat x.toNat]⟩) ∧ w.alloc (.cells #[.int .u8 x] 5) = w' := by
 have hcv := conv_oneI w x
 go_enter Tryz.func96, Tryz.ntmps96
 go_wp2
 go_ret
 exact ⟨rfl, rfl⟩
theorem octets2 (x y : Int) (w : World) :
 Calls Tryz.prog 96 #[.slice (some ⟨w.heap.size, 0, none⟩) 2 2] (w.alloc (.cells #[.int .u8 x, .int .u8 y] 5)) fun e w' => e = .returned (.string ⟨#[UInt8.ofNat x.toNat, UInt8.ofNat y.toNat]⟩) ∧ w.alloc (.cells #[.int .u8 x, .int .u8 y] 5) = w' := by
 have hcv := conv_twoI w x y
 go_enter Tryz.func96, Tryz.ntmps96
 go_wp2
 go_ret
 exact ⟨rfl, rfl⟩
theorem length (n : Int) (hn : n ≤ 9223372036854775807) (w : World) :
 Calls Tryz.prog 72 #[.int .i64 n] w fun e w' => e = .returned (.string (len n)) ∧ Below w.heap.size w w' := by
 by_cases h : n < 0 ∨ 32767 < n
 · rw [len_no h]
   have hd : (decide (n < 0) || decide (32767 < n)) = true := by simpa using h
   clear h
   go_enter Tryz.func72, Tryz.ntmps72
   go_wp2
   all_goals go_ret
   all_goals exact ⟨rfl, Below.refl _ _⟩
 · have h0 : 0 ≤ n := by omega
   have h1 : n ≤ 32767 := by omega
   clear h
   by_cases h2 : n < 128
   · have e1 : bits .or .u8 (n * 2) 1 = n * 2 + 1 := bits_join .u8 8 (by decide) wraps_u8 1 _ _ (by omega) (by omega) (by omega) (by decide) (by decide) (by decide)
     rw [len_one h0 h2]
     have HE : Hid (2 * n.toNat + 1 = (n * 2 + 1).toNat) := Lib.hid (by omega)
     go_enter Tryz.func72, Tryz.ntmps72
     go_wp2_with (go_at_call 96; ((with_reducible refine (octets1 _ _).mono ?_); rintro e w' ⟨rfl, rfl⟩))
     go_ret
     exact ⟨ret_str (by rw [HE.out]), (Below.refl _ _).alloc (Nat.le_refl _) _⟩
   · have h3 : 128 ≤ n := by omega
     clear h0 h2
     rw [len_two h3 h1]
     have HE : Hid (2 * (n.toNat % 128) = (n % 256 * 2 % 256).toNat) := Lib.hid (by omega)
     have HF : Hid (n.toNat / 128 = (n / 128).toNat) := Lib.hid (by omega)
     go_enter Tryz.func72, Tryz.ntmps72
     go_wp2_with (go_at_call 96; ((with_reducible refine (octets2 _ _ _).mono ?_); rintro e w' ⟨rfl, rfl⟩))
     go_ret
     exact ⟨ret_str (by rw [HE.out, HF.out]), (Below.refl _ _).alloc (Nat.le_refl _) _⟩
theorem rlength (n : Int) (hn : n ≤ 9223372036854775807) (w : World) :
 Calls Tryz.prog 78 #[.int .i64 n] w fun e w' => e = .returned (.string (len n)) ∧ Below w.heap.size w w' := by
 by_cases h : n < 0 ∨ 32767 < n
 · rw [len_no h]
   have hd : (decide (n < 0) || decide (32767 < n)) = true := by simpa using h
   clear h
   go_enter Tryz.func78, Tryz.ntmps78
   go_wp2
   all_goals go_ret
   all_goals exact ⟨rfl, Below.refl _ _⟩
 · have h0 : 0 ≤ n := by omega
   have h1 : n ≤ 32767 := by omega
   clear h
   by_cases h2 : n < 128
   · rw [len_one h0 h2]
     have HE : Hid (2 * n.toNat + 1 = (2 * n + 1).toNat) := Lib.hid (by omega)
     have hcv := conv_oneI w (2 * n + 1)
     go_enter Tryz.func78, Tryz.ntmps78
     go_wp2
     go_ret
     exact ⟨ret_str (by rw [HE.out]), (Below.refl _ _).alloc (Nat.le_refl _) _⟩
   · have h3 : 128 ≤ n := by omega
     clear h0 h2
     rw [len_two h3 h1]
     have HE : Hid (2 * (n.toNat % 128) = (2 * (n % 128)).toNat) := Lib.hid (by omega)
     have HF : Hid (n.toNat / 128 = (n / 128).toNat) := Lib.hid (by omega)
     have hcv := conv_twoI w (2 * (n % 128)) (n / 128)
     go_enter Tryz.func78, Tryz.ntmps78
     go_wp2
     go_ret
     exact ⟨ret_str (by rw [HE.out, HF.out]), (Below.refl _ _).alloc (Nat.le_refl _) _⟩
theorem rtake (s : ByteArray) (w : World) (hl : s.size ≤ maxLen) :
 Calls Tryz.prog 115 #[.string s] w fun e w' => e = .returned (.tuple #[.int .i64 (tkN s.data.toList : Int), .int .i64 (tkZ s.data.toList : Int), .int .i64 (tkE s.data.toList : Int)]) ∧ ∃ n, w' = w.drewN n := by
 unfold maxLen at hl
 by_cases h0 : s.size = 0
 · obtain rfl := nil_of_size h0
   go_enter Tryz.func115, Tryz.ntmps115
   go_wp2
   go_ret3
   exact ⟨rfl, 0, rfl⟩
 · have h1 : 0 < s.size := by omega
   have hz0 : ¬ s.toList = [] := toList_ne h1
   have hz : s.toList.isEmpty = false := by simpa using hz0
   have hb := oct_lt s[0]
   by_cases ho : s[0].toNat % 2 = 1
   · have HT : Hid (tk s.data.toList = (s[0].toNat / 2, 1, 0)) := Lib.hid (by rw [cons_of_size h1]; exact tk_odd _ _ ho)
     unfold tkN tkZ tkE
     rw [HT.out]
     clear h0
     go_enter Tryz.func115, Tryz.ntmps115
     go_wp2
     go_ret3
     exact ⟨ret_iii (by simp) rfl rfl, 0, rfl⟩
   · by_cases h2 : s.size = 1
     · have HT : Hid (tk s.data.toList = (0, 0, 20)) := Lib.hid (by rw [one_of_size h2]; exact tk_one _ ho)
       have h3 : s.size < 2 := by omega
       have ho' : s[0].toNat % 2 = 0 := by omega
       unfold tkN tkZ tkE
       rw [HT.out]
       clear ho h0 h2
       go_enter Tryz.func115, Tryz.ntmps115
       go_wp2
       go_ret3
       exact ⟨rfl, 0, rfl⟩
     · have h3 : 1 < s.size := by omega
       have hb1 := oct_lt s[1]
       have ho' : s[0].toNat % 2 = 0 := by omega
       have HT : Hid (tk s.data.toList = (s[0].toNat / 2 + 128 * s[1].toNat, 2, 0)) := Lib.hid (by rw [cons2_of_size h3]; exact tk_two _ _ _ ho)
       unfold tkN tkZ tkE
       rw [HT.out]
       clear ho h0 h2
       go_enter Tryz.func115, Tryz.ntmps115
       go_wp2
       have h4 : (1 : Int) < s.size := by omega
       have q0 : IntKind.i64.wrap (s[0].toNat : Int) = s[0].toNat := wraps_i64 _ (by omega) (by omega)
       have q1 : IntKind.i64.wrap (s[1].toNat : Int) = s[1].toNat := wraps_i64 _ (by omega) (by omega)
       have q2 : IntKind.i64.wrap ((s[0].toNat : Int).tdiv 2) = ((s[0].toNat / 2 : Nat) : Int) := by
        rw [Int.tdiv_eq_ediv_of_nonneg (by omega)]; exact wraps_i64 _ (by omega) (by omega)
       have q3 : IntKind.i64.wrap (128 * (s[1].toNat : Int)) = 128 * (s[1].toNat : Int) := wraps_i64 _ (by omega) (by omega)
       have q4 : IntKind.i64.wrap (((s[0].toNat / 2 : Nat) : Int) + 128 * (s[1].toNat : Int)) = ((s[0].toNat / 2 : Nat) : Int) + 128 * (s[1].toNat : Int) := wraps_i64 _ (by omega) (by omega)
       go_quiet (fail)
       clear q0 q1 q2 q3 q4
       go_wp2
       go_ret3
       exact ⟨ret_iii (by simp) rfl rfl, _, rfl⟩
end Go.Proofs.YtakkhdammmcjcaaGreatDoor.Ea
namespace Go.Proofs.YtakkhdammmcjcaaGreatDoor.Tlv
open Go.RowKit Base Ea Mem
theorem typeOctet (k : Nat) (hk : k ≤ 63) (c : Bool) (w : World) :
 Calls Tryz.prog 71 #[.int .u8 (k : Int), .bool c] w fun e w' => e = .returned (.int .u8 (addr k c : Int)) ∧ w = w' := by
 have e1 : bits .or .u8 ((k : Int) * 4) 1 = (k : Int) * 4 + 1 := bits_join .u8 8 (by decide) wraps_u8 2 _ _ (by omega) (by omega) (by omega) (by decide) (by decide) (by decide)
 have e2 : bits .or .u8 ((k : Int) * 4 + 1) 2 = (k : Int) * 4 + 3 := by
  have : ∀ j : Fin 64, bits .or .u8 ((j.val : Int) * 4 + 1) 2 = (j.val : Int) * 4 + 3 := by decide +kernel
  exact this ⟨k, by omega⟩
 have ha : addr k c = 4 * k + 2 * c.toNat + 1 := if_neg (by omega)
 rw [ha]; clear ha
 cases c
 all_goals
  go_enter Tryz.func71, Tryz.ntmps71
  go_wp2
  go_ret
  exact ⟨ret_int (by simp; omega), rfl⟩
theorem put_no (k : Nat) (hk : k < 256) (c : Bool) (v : ByteArray) (hv : v.size ≤ 9223372036854775807) (h : putE k v ≠ 0) (w : World) :
 Calls Tryz.prog 49 #[.int .u8 (k : Int), .bool c, .string v] w fun e w' => e = .returned (.tuple #[.string ⟨#[]⟩, .int .i64 (putE k v : Int)]) ∧ w = w' := by
 by_cases h1 : 63 < k
 · have he : putE k v = 2 := if_pos h1
   rw [he]; clear h he
   go_enter Tryz.func49, Tryz.ntmps49
   go_wp2
   go_ret2
   exact ⟨rfl, rfl⟩
 · by_cases h2 : 127 < v.size
   · have he : putE k v = 3 := by unfold putE; rw [if_neg h1, if_pos h2]
     rw [he]; clear h he
     go_enter Tryz.func49, Tryz.ntmps49
     go_wp2
     go_ret2
     exact ⟨rfl, rfl⟩
   · exact absurd (putE_of (by omega) (by omega)) h
set_option maxHeartbeats 400000 in
theorem put_ok (k : Nat) (c : Bool) (v : ByteArray) (hk : k ≤ 63) (hv : v.size ≤ 127) (w : World) :
 Calls Tryz.prog 49 #[.int .u8 (k : Int), .bool c, .string v] w fun e w' => e = .returned (.tuple #[.string (It.bytes ⟨k, c, v⟩), .int .i64 0]) ∧ Below w.heap.size w w' := by
 have CT := Lib.hid (fun w => typeOctet k hk c w)
 have HE : Hid (one (addr k c) ++ len v.size ++ v = It.bytes ⟨k, c, v⟩) := Lib.hid rfl
 have hcv : ∀ (W : World) (b : Nat), W.cell? ⟨b, 0, none⟩ = some (.int .u8 ((addr k c : Nat) : Int)) → (convert 126 9 (.slice (some ⟨b, 0, none⟩) 1 1)).run Tryz.prog W = .ok (.string (one (addr k c))) W := fun W b h0 => conv_at1 W b _ h0
 have hz1 : (one (addr k c)).size = 1 := rfl
 have hz2 : (len (v.size : Int)).size = 1 := by rw [len_one (by omega) (by omega)]; rfl
 have k1 : ¬ 63 < k := by omega
 have k2 : ¬ 127 < v.size := by omega
 generalize addr k c = a at CT HE hcv hz1
 generalize hL : len (v.size : Int) = L at HE hz2
 have CL : Hid (∀ w, Calls Tryz.prog 72 #[.int .i64 (v.size : Int)] w fun e w' => e = .returned (.string L) ∧ Below w.heap.size w w') := Lib.hid (fun w => by rw [← hL]; exact length _ (by omega) w)
 clear hL hk hv
 go_enter Tryz.func49, Tryz.ntmps49
 go_wp2
 go_region_held (fun w' => Below w.heap.size w w')
  (first | exact (Below.refl _ _).drew | exact ((Below.refl _ _).alloc (Nat.le_refl _) _).drew | exact HB2.out | exact (HB2.out.alloc HB2.out.size _))
  (first
   | (go_at_call 71; ((with_reducible refine (CT.out _).mono ?_); rintro e w' ⟨rfl, rfl⟩))
   | (go_at_call 72; ((with_reducible refine (CL.out _).mono ?_); rintro e w2 ⟨rfl, hb⟩; (first
    | (have k0 := cell_below (w := (w.alloc (.cells #[.int .u8 (a : Int)] 5)).drew) (cell_new w _ _ 0) hb; have HB2 := Lib.hid (below_on (((Below.refl w.heap.size w).alloc (Nat.le_refl _) _).drew) hb); clear hb)
    | (have HB2 := Lib.hid (below_on ((Below.refl w.heap.size w).drew) hb); clear hb)))))
 all_goals
  rename_i hX
  go_wp2
  go_ret2
  exact ⟨ret_si HE.out rfl, hX⟩
theorem fput (k : Nat) (hk : k < 256) (c : Bool) (v : ByteArray) (hv : v.size ≤ 9223372036854775807) (w : World) :
 Calls Tryz.prog 49 #[.int .u8 (k : Int), .bool c, .string v] w fun e w' => e = .returned (.tuple #[.string (putS k c v), .int .i64 (putE k v : Int)]) ∧ Below w.heap.size w w' := by
 by_cases h : putE k v = 0
 · rw [putS_ok h, h]
   exact put_ok k c v (putE_ok h).1 (putE_ok h).2 w
 · have hs : putS k c v = ⟨#[]⟩ := if_neg h
   rw [hs]
   exact (put_no k hk c v hv h w).mono fun _ _ ⟨he, hw⟩ => ⟨he, hw ▸ Below.refl _ _⟩
theorem rput_no (k : Nat) (hk : k < 256) (c : Bool) (v : ByteArray) (hv : v.size ≤ 9223372036854775807) (h : putE k v ≠ 0) (w : World) :
 Calls Tryz.prog 56 #[.int .u8 (k : Int), .bool c, .string v] w fun e w' => e = .returned (.tuple #[.string ⟨#[]⟩, .int .i64 (putE k v : Int)]) ∧ w = w' := by
 by_cases h1 : 63 < k
 · have he : putE k v = 2 := if_pos h1
   rw [he]; clear h he
   go_enter Tryz.func56, Tryz.ntmps56
   go_wp2
   go_ret2
   exact ⟨rfl, rfl⟩
 · by_cases h2 : 127 < v.size
   · have he : putE k v = 3 := by unfold putE; rw [if_neg h1, if_pos h2]
     rw [he]; clear h he
     go_enter Tryz.func56, Tryz.ntmps56
     go_wp2
     go_ret2
     exact ⟨rfl, rfl⟩
   · exact absurd (putE_of (by omega) (by omega)) h
set_option maxHeartbeats 400000 in
theorem rput_ok (k : Nat) (c : Bool) (v : ByteArray) (hk : k ≤ 63) (hv : v.size ≤ 127) (w : World) :
 Calls Tryz.prog 56 #[.int .u8 (k : Int), .bool c, .string v] w fun e w' => e = .returned (.tuple #[.string (It.bytes ⟨k, c, v⟩), .int .i64 0]) ∧ Below w.heap.size w w' := by
 have HE : Hid (one (addr k c) ++ len v.size ++ v = It.bytes ⟨k, c, v⟩) := Lib.hid rfl
 have hz1 : (one (addr k c)).size = 1 := rfl
 have hz2 : (len (v.size : Int)).size = 1 := by rw [len_one (by omega) (by omega)]; rfl
 have k1 : ¬ 63 < k := by omega
 have k2 : ¬ 127 < v.size := by omega
 have ha : addr k c = 4 * k + 2 * c.toNat + 1 := if_neg (by omega)
 have ha0 : c = false → IntKind.u8.wrap (4 * (k : Int) + 1) = ((addr k c : Nat) : Int) := fun e => by
  rw [ha, e, wraps_u8 _ (by omega) (by omega)]; simp
 have ha1 : c = true → IntKind.u8.wrap (4 * (k : Int) + 1 + 2) = ((addr k c : Nat) : Int) := fun e => by
  rw [ha, e, wraps_u8 _ (by omega) (by omega)]; simp; omega
 have hcv : ∀ (W : World) (b : Nat), W.cell? ⟨b, 0, none⟩ = some (.int .u8 ((addr k c : Nat) : Int)) → (convert 126 9 (.slice (some ⟨b, 0, none⟩) 1 1)).run Tryz.prog W = .ok (.string (one (addr k c))) W := fun W b h0 => conv_at1 W b _ h0
 clear ha
 generalize addr k c = a at HE hcv hz1 ha0 ha1
 generalize hL : len (v.size : Int) = L at HE hz2
 have CL : Hid (∀ w, Calls Tryz.prog 78 #[.int .i64 (v.size : Int)] w fun e w' => e = .returned (.string L) ∧ Below w.heap.size w w') := Lib.hid (fun w => by rw [← hL]; exact rlength _ (by omega) w)
 clear hL hv
 cases c
 all_goals
  (first | (have q0 := ha0 rfl; clear ha0 ha1) | (have q0 := ha1 rfl; clear ha0 ha1))
  go_enter Tryz.func56, Tryz.ntmps56
  go_wp2
  go_region_held (fun w' => Below w.heap.size w w')
   (first | exact (Below.refl _ _).drew | exact ((Below.refl _ _).alloc (Nat.le_refl _) _).drew | exact HB2.out | exact (HB2.out.alloc HB2.out.size _))
   (first
    | (go_at_call 78; ((with_reducible refine (CL.out _).mono ?_); rintro e w2 ⟨rfl, hb⟩; (first
     | (have k0 := cell_below (w := (w.alloc (.cells #[.int .u8 (a : Int)] 5)).drew) (cell_new w _ _ 0) hb; have HB2 := Lib.hid (below_on (((Below.refl w.heap.size w).alloc (Nat.le_refl _) _).drew) hb); clear hb)
     | (have HB2 := Lib.hid (below_on ((Below.refl w.heap.size w).drew) hb); clear hb)))))
  all_goals
   rename_i hX
   go_wp2
   go_ret2
   exact ⟨ret_si HE.out rfl, hX⟩
theorem rput (k : Nat) (hk : k < 256) (c : Bool) (v : ByteArray) (hv : v.size ≤ 9223372036854775807) (w : World) :
 Calls Tryz.prog 56 #[.int .u8 (k : Int), .bool c, .string v] w fun e w' => e = .returned (.tuple #[.string (putS k c v), .int .i64 (putE k v : Int)]) ∧ Below w.heap.size w w' := by
 by_cases h : putE k v = 0
 · rw [putS_ok h, h]
   exact rput_ok k c v (putE_ok h).1 (putE_ok h).2 w
 · have hs : putS k c v = ⟨#[]⟩ := if_neg h
   rw [hs]
   exact (rput_no k hk c v hv h w).mono fun _ _ ⟨he, hw⟩ => ⟨he, hw ▸ Below.refl _ _⟩
end Go.Proofs.YtakkhdammmcjcaaGreatDoor.Tlv
