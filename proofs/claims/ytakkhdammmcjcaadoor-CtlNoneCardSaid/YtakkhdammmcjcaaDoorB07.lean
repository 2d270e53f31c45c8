/-
  Layer 22, put together: MsgsNeed, EaAddr, EaCalls, TlvPut, PnSmall, PnRef, PnPut, MscOctet, MscBits, MscSmall (what each says stands ahead of it). Conditions: as each names them.
-/
import Derived.Test.YtakkhdammmcjcaaDoorB05
import Derived.Test.YtakkhdammmcjcaaDoorChecked
import Derived.Test.YtakkhdammmcjcaaDoorB01
import Derived.Test.YtakkhdammmcjcaaDoorB04
import Derived.WalkKit
import Derived.Lib.Hide
import Derived.Deep.QuietTactic
import Derived.BigQuiet
import Derived.Deep.RegionHeld
import Derived.Deep.RegionHeld3
/-
  What 'needed' of layer 10 answers: a message with nothing but what its Kind needs. No condition.
-/
namespace Go.Proofs.YtakkhdammmcjcaaDoor.Msgs
open Go.RowKit Go.Proofs.YtakkhdammmcjcaaDoor.Base Go.Proofs.YtakkhdammmcjcaaDoor.Mem
set_option maxRecDepth 20000
theorem eq_is {n k : Nat} (h : n = k) : ((n : Int) == (k : Int)) = true := by rw [h]; simp
theorem eq_no {n k : Nat} (h : n ≠ k) : ((n : Int) == (k : Int)) = false := by rw [beq_eq_false_iff_ne]; omega
theorem needed_1 (m : Ms) (hk : m.k = 1) (w : World) :
    Calls Tryd.prog 40 #[mv m] w fun e w' => e = .returned (mv (need m)) ∧ Below w.heap.size w w' := by
  have HE : Hid (need m = ⟨m.k, m.c, m.p, Msc.zero, 0, no⟩) := Lib.hid (by unfold need; rw [hk]; rfl)
  have q1 : ((m.k : Int) == 1) = true := eq_is (n := m.k) (k := 1) (by omega)
  clear hk
  rw [HE.out]
  clear HE
  go_enter Tryd.func40, Tryd.ntmps40
  go_wp2_with (first
    | ((with_reducible refine bxm (m := m) ?hx ?_); (case hx => rfl); intro b1 w1 h1 F1; have HM := Lib.hid h1; have HB := Lib.hid F1.below; clear h1 F1)
    | (have _ := HR; (with_reducible refine alm zeroM ?_); intro b3 w3 h3 F3; have N13 := Lib.hid (F3.ne HM.out); have N23 := Lib.hid (F3.ne HR.out); replace HM := Lib.hid (F3.stays HM.out); replace HR := Lib.hid (F3.stays HR.out); have HN := Lib.hid h3; have L3 := Lib.hid (F3.le HB.out); replace HB := Lib.hid (F3.on HB.out); clear h3 F3)
    | ((with_reducible refine alm zeroM ?_); intro b2 w2 h2 F2; have N12 := Lib.hid (F2.ne HM.out); replace HM := Lib.hid (F2.stays HM.out); have HR := Lib.hid h2; have L2 := Lib.hid (F2.le HB.out); replace HB := Lib.hid (F2.on HB.out); clear h2 F2; obtain ⟨c0, c1, c18, c19⟩ := flds HM.out)
    | ((with_reducible refine bdm ⟨m.k, m.c, Pn.zero, Msc.zero, 0, no⟩ ?hb ?_); (case hb => kernel_rfl))
    | ((with_reducible refine stm (m := ⟨m.k, m.c, Pn.zero, Msc.zero, 0, no⟩) isM HN.out ?hx ?hy ?_); (case hx => rfl); (case hy => rfl); intro w4 h4 M4; replace HN := Lib.hid h4; replace HM := Lib.hid (M4.other N13.out HM.out); replace HR := Lib.hid (M4.other N23.out HR.out); replace HB := Lib.hid (M4.below HB.out L3.out); clear c0 c1 c18 c19 h4 M4; obtain ⟨c0, c1, c18, c19⟩ := flds HM.out; obtain ⟨z0, z1, z18, z19⟩ := frees HN.out; obtain ⟨n0, n1, n18, n19⟩ := flds HN.out)
    | ((with_reducible refine ldp isP HM.out ?hx ?_); (case hx => rfl))
    | ((with_reducible refine stp (p := m.p) isP HN.out ?hx ?hy ?_); (case hx => rfl); (case hy => rfl); intro w5 h5 M5; replace HN := Lib.hid h5; replace HR := Lib.hid (M5.other N23.out HR.out); replace HB := Lib.hid (M5.below HB.out L3.out); clear c0 c1 c18 c19 z0 z1 z18 z19 n0 n1 n18 n19 h5 M5)
    | ((with_reducible refine ldm isM HN.out ?hx ?_); (case hx => rfl))
    | ((with_reducible refine stm (m := ⟨m.k, m.c, m.p, Msc.zero, 0, no⟩) isM HR.out ?hx ?hy ?_); (case hx => rfl); (case hy => rfl); intro w6 h6 M6; replace HR := Lib.hid h6; replace HB := Lib.hid (M6.below HB.out L2.out); clear h6 M6))
  exact bodyPost_ret (needed_results _ _ b2 _ _ HR.out rfl) rfl ⟨rfl, HB.out⟩
theorem needed_2 (m : Ms) (hk : m.k = 2) (w : World) :
    Calls Tryd.prog 40 #[mv m] w fun e w' => e = .returned (mv (need m)) ∧ Below w.heap.size w w' := by
  have HE : Hid (need m = ⟨m.k, m.c, Pn.zero, m.s, 0, no⟩) := Lib.hid (by unfold need; rw [hk]; rfl)
  have q1 : ((m.k : Int) == 1) = false := eq_no (n := m.k) (k := 1) (by omega)
  have q2 : ((m.k : Int) == 2) = true := eq_is (n := m.k) (k := 2) (by omega)
  clear hk
  rw [HE.out]
  clear HE
  go_enter Tryd.func40, Tryd.ntmps40
  go_wp2_with (first
    | ((with_reducible refine bxm (m := m) ?hx ?_); (case hx => rfl); intro b1 w1 h1 F1; have HM := Lib.hid h1; have HB := Lib.hid F1.below; clear h1 F1)
    | (have _ := HR; (with_reducible refine alm zeroM ?_); intro b3 w3 h3 F3; have N13 := Lib.hid (F3.ne HM.out); have N23 := Lib.hid (F3.ne HR.out); replace HM := Lib.hid (F3.stays HM.out); replace HR := Lib.hid (F3.stays HR.out); have HN := Lib.hid h3; have L3 := Lib.hid (F3.le HB.out); replace HB := Lib.hid (F3.on HB.out); clear h3 F3)
    | ((with_reducible refine alm zeroM ?_); intro b2 w2 h2 F2; have N12 := Lib.hid (F2.ne HM.out); replace HM := Lib.hid (F2.stays HM.out); have HR := Lib.hid h2; have L2 := Lib.hid (F2.le HB.out); replace HB := Lib.hid (F2.on HB.out); clear h2 F2; obtain ⟨c0, c1, c18, c19⟩ := flds HM.out)
    | ((with_reducible refine bdm ⟨m.k, m.c, Pn.zero, Msc.zero, 0, no⟩ ?hb ?_); (case hb => kernel_rfl))
    | ((with_reducible refine stm (m := ⟨m.k, m.c, Pn.zero, Msc.zero, 0, no⟩) isM HN.out ?hx ?hy ?_); (case hx => rfl); (case hy => rfl); intro w4 h4 M4; replace HN := Lib.hid h4; replace HM := Lib.hid (M4.other N13.out HM.out); replace HR := Lib.hid (M4.other N23.out HR.out); replace HB := Lib.hid (M4.below HB.out L3.out); clear c0 c1 c18 c19 h4 M4; obtain ⟨c0, c1, c18, c19⟩ := flds HM.out; obtain ⟨z0, z1, z18, z19⟩ := frees HN.out; obtain ⟨n0, n1, n18, n19⟩ := flds HN.out)
    | ((with_reducible refine lds isS HM.out ?hx ?_); (case hx => rfl))
    | ((with_reducible refine sts (s := m.s) isS HN.out ?hx ?hy ?_); (case hx => rfl); (case hy => rfl); intro w5 h5 M5; replace HN := Lib.hid h5; replace HR := Lib.hid (M5.other N23.out HR.out); replace HB := Lib.hid (M5.below HB.out L3.out); clear c0 c1 c18 c19 z0 z1 z18 z19 n0 n1 n18 n19 h5 M5)
    | ((with_reducible refine ldm isM HN.out ?hx ?_); (case hx => rfl))
    | ((with_reducible refine stm (m := ⟨m.k, m.c, Pn.zero, m.s, 0, no⟩) isM HR.out ?hx ?hy ?_); (case hx => rfl); (case hy => rfl); intro w6 h6 M6; replace HR := Lib.hid h6; replace HB := Lib.hid (M6.below HB.out L2.out); clear h6 M6))
  exact bodyPost_ret (needed_results _ _ b2 _ _ HR.out rfl) rfl ⟨rfl, HB.out⟩
theorem needed_5 (m : Ms) (hk : m.k = 5) (w : World) :
    Calls Tryd.prog 40 #[mv m] w fun e w' => e = .returned (mv (need m)) ∧ Below w.heap.size w w' := by
  have HE : Hid (need m = ⟨m.k, m.c, Pn.zero, Msc.zero, 0, m.b⟩) := Lib.hid (by unfold need; rw [hk]; rfl)
  have q1 : ((m.k : Int) == 1) = false := eq_no (n := m.k) (k := 1) (by omega)
  have q2 : ((m.k : Int) == 2) = false := eq_no (n := m.k) (k := 2) (by omega)
  have q5 : ((m.k : Int) == 5) = true := eq_is (n := m.k) (k := 5) (by omega)
  clear hk
  rw [HE.out]
  clear HE
  go_enter Tryd.func40, Tryd.ntmps40
  go_wp2_with (first
    | ((with_reducible refine bxm (m := m) ?hx ?_); (case hx => rfl); intro b1 w1 h1 F1; have HM := Lib.hid h1; have HB := Lib.hid F1.below; clear h1 F1)
    | (have _ := HR; (with_reducible refine alm zeroM ?_); intro b3 w3 h3 F3; have N13 := Lib.hid (F3.ne HM.out); have N23 := Lib.hid (F3.ne HR.out); replace HM := Lib.hid (F3.stays HM.out); replace HR := Lib.hid (F3.stays HR.out); have HN := Lib.hid h3; have L3 := Lib.hid (F3.le HB.out); replace HB := Lib.hid (F3.on HB.out); clear h3 F3)
    | ((with_reducible refine alm zeroM ?_); intro b2 w2 h2 F2; have N12 := Lib.hid (F2.ne HM.out); replace HM := Lib.hid (F2.stays HM.out); have HR := Lib.hid h2; have L2 := Lib.hid (F2.le HB.out); replace HB := Lib.hid (F2.on HB.out); clear h2 F2; obtain ⟨c0, c1, c18, c19⟩ := flds HM.out)
    | ((with_reducible refine bdm ⟨m.k, m.c, Pn.zero, Msc.zero, 0, no⟩ ?hb ?_); (case hb => kernel_rfl))
    | ((with_reducible refine stm (m := ⟨m.k, m.c, Pn.zero, Msc.zero, 0, no⟩) isM HN.out ?hx ?hy ?_); (case hx => rfl); (case hy => rfl); intro w4 h4 M4; replace HN := Lib.hid h4; replace HM := Lib.hid (M4.other N13.out HM.out); replace HR := Lib.hid (M4.other N23.out HR.out); replace HB := Lib.hid (M4.below HB.out L3.out); clear c0 c1 c18 c19 h4 M4; obtain ⟨c0, c1, c18, c19⟩ := flds HM.out; obtain ⟨z0, z1, z18, z19⟩ := frees HN.out; obtain ⟨n0, n1, n18, n19⟩ := flds HN.out)
    | ((with_reducible refine ldm isM (set_b HN.out m.b) ?hx ?_); (case hx => rfl))
    | ((with_reducible refine stm (m := ⟨m.k, m.c, Pn.zero, Msc.zero, 0, m.b⟩) isM ((mod_setCell _ _ _ _).other N23.out HR.out) ?hx ?hy ?_); (case hx => rfl); (case hy => rfl); intro w6 h6 M6; replace HR := Lib.hid h6; replace HB := Lib.hid (M6.below ((mod_setCell _ _ _ _).below HB.out L3.out) L2.out); clear h6 M6))
  exact bodyPost_ret (needed_results _ _ b2 _ _ HR.out rfl) rfl ⟨rfl, HB.out⟩
theorem needed_7 (m : Ms) (hk : m.k = 7) (w : World) :
    Calls Tryd.prog 40 #[mv m] w fun e w' => e = .returned (mv (need m)) ∧ Below w.heap.size w w' := by
  have HE : Hid (need m = ⟨m.k, m.c, Pn.zero, Msc.zero, m.t, no⟩) := Lib.hid (by unfold need; rw [hk]; rfl)
  have q1 : ((m.k : Int) == 1) = false := eq_no (n := m.k) (k := 1) (by omega)
  have q2 : ((m.k : Int) == 2) = false := eq_no (n := m.k) (k := 2) (by omega)
  have q5 : ((m.k : Int) == 5) = false := eq_no (n := m.k) (k := 5) (by omega)
  have q7 : ((m.k : Int) == 7) = true := eq_is (n := m.k) (k := 7) (by omega)
  clear hk
  rw [HE.out]
  clear HE
  go_enter Tryd.func40, Tryd.ntmps40
  go_wp2_with (first
    | ((with_reducible refine bxm (m := m) ?hx ?_); (case hx => rfl); intro b1 w1 h1 F1; have HM := Lib.hid h1; have HB := Lib.hid F1.below; clear h1 F1)
    | (have _ := HR; (with_reducible refine alm zeroM ?_); intro b3 w3 h3 F3; have N13 := Lib.hid (F3.ne HM.out); have N23 := Lib.hid (F3.ne HR.out); replace HM := Lib.hid (F3.stays HM.out); replace HR := Lib.hid (F3.stays HR.out); have HN := Lib.hid h3; have L3 := Lib.hid (F3.le HB.out); replace HB := Lib.hid (F3.on HB.out); clear h3 F3)
    | ((with_reducible refine alm zeroM ?_); intro b2 w2 h2 F2; have N12 := Lib.hid (F2.ne HM.out); replace HM := Lib.hid (F2.stays HM.out); have HR := Lib.hid h2; have L2 := Lib.hid (F2.le HB.out); replace HB := Lib.hid (F2.on HB.out); clear h2 F2; obtain ⟨c0, c1, c18, c19⟩ := flds HM.out)
    | ((with_reducible refine bdm ⟨m.k, m.c, Pn.zero, Msc.zero, 0, no⟩ ?hb ?_); (case hb => kernel_rfl))
    | ((with_reducible refine stm (m := ⟨m.k, m.c, Pn.zero, Msc.zero, 0, no⟩) isM HN.out ?hx ?hy ?_); (case hx => rfl); (case hy => rfl); intro w4 h4 M4; replace HN := Lib.hid h4; replace HM := Lib.hid (M4.other N13.out HM.out); replace HR := Lib.hid (M4.other N23.out HR.out); replace HB := Lib.hid (M4.below HB.out L3.out); clear c0 c1 c18 c19 h4 M4; obtain ⟨c0, c1, c18, c19⟩ := flds HM.out; obtain ⟨z0, z1, z18, z19⟩ := frees HN.out; obtain ⟨n0, n1, n18, n19⟩ := flds HN.out)
    | ((with_reducible refine ldm isM (set_t HN.out m.t) ?hx ?_); (case hx => rfl))
    | ((with_reducible refine stm (m := ⟨m.k, m.c, Pn.zero, Msc.zero, m.t, no⟩) isM ((mod_setCell _ _ _ _).other N23.out HR.out) ?hx ?hy ?_); (case hx => rfl); (case hy => rfl); intro w6 h6 M6; replace HR := Lib.hid h6; replace HB := Lib.hid (M6.below ((mod_setCell _ _ _ _).below HB.out L3.out) L2.out); clear h6 M6))
  exact bodyPost_ret (needed_results _ _ b2 _ _ HR.out rfl) rfl ⟨rfl, HB.out⟩
theorem needed_8 (m : Ms) (hk : m.k = 8) (w : World) :
    Calls Tryd.prog 40 #[mv m] w fun e w' => e = .returned (mv (need m)) ∧ Below w.heap.size w w' := by
  have HE : Hid (need m = ⟨m.k, m.c, Pn.zero, Msc.zero, m.t, m.b⟩) := Lib.hid (by unfold need; rw [hk]; rfl)
  have q1 : ((m.k : Int) == 1) = false := eq_no (n := m.k) (k := 1) (by omega)
  have q2 : ((m.k : Int) == 2) = false := eq_no (n := m.k) (k := 2) (by omega)
  have q5 : ((m.k : Int) == 5) = false := eq_no (n := m.k) (k := 5) (by omega)
  have q7 : ((m.k : Int) == 7) = false := eq_no (n := m.k) (k := 7) (by omega)
  have q8 : ((m.k : Int) == 8) = true := eq_is (n := m.k) (k := 8) (by omega)
  clear hk
  rw [HE.out]
  clear HE
  go_enter Tryd.func40, Tryd.ntmps40
  go_wp2_with (first
    | ((with_reducible refine bxm (m := m) ?hx ?_); (case hx => rfl); intro b1 w1 h1 F1; have HM := Lib.hid h1; have HB := Lib.hid F1.below; clear h1 F1)
    | (have _ := HR; (with_reducible refine alm zeroM ?_); intro b3 w3 h3 F3; have N13 := Lib.hid (F3.ne HM.out); have N23 := Lib.hid (F3.ne HR.out); replace HM := Lib.hid (F3.stays HM.out); replace HR := Lib.hid (F3.stays HR.out); have HN := Lib.hid h3; have L3 := Lib.hid (F3.le HB.out); replace HB := Lib.hid (F3.on HB.out); clear h3 F3)
    | ((with_reducible refine alm zeroM ?_); intro b2 w2 h2 F2; have N12 := Lib.hid (F2.ne HM.out); replace HM := Lib.hid (F2.stays HM.out); have HR := Lib.hid h2; have L2 := Lib.hid (F2.le HB.out); replace HB := Lib.hid (F2.on HB.out); clear h2 F2; obtain ⟨c0, c1, c18, c19⟩ := flds HM.out)
    | ((with_reducible refine bdm ⟨m.k, m.c, Pn.zero, Msc.zero, 0, no⟩ ?hb ?_); (case hb => kernel_rfl))
    | ((with_reducible refine stm (m := ⟨m.k, m.c, Pn.zero, Msc.zero, 0, no⟩) isM HN.out ?hx ?hy ?_); (case hx => rfl); (case hy => rfl); intro w4 h4 M4; replace HN := Lib.hid h4; replace HM := Lib.hid (M4.other N13.out HM.out); replace HR := Lib.hid (M4.other N23.out HR.out); replace HB := Lib.hid (M4.below HB.out L3.out); clear c0 c1 c18 c19 h4 M4; obtain ⟨c0, c1, c18, c19⟩ := flds HM.out; obtain ⟨z0, z1, z18, z19⟩ := frees HN.out; obtain ⟨n0, n1, n18, n19⟩ := flds HN.out))
  go_region
  all_goals
    go_wp2_with (first
      | ((with_reducible refine ldm isM (drew_at (set_b (set_t HN.out m.t) m.b)) ?hx ?_); (case hx => rfl))
      | ((with_reducible refine ldm isM (drew_at (set_t (set_b HN.out m.b) m.t)) ?hx ?_); (case hx => rfl))
      | ((with_reducible refine stm (m := ⟨m.k, m.c, Pn.zero, Msc.zero, m.t, m.b⟩) isM ((((mod_setCell _ _ _ _).trans (mod_setCell _ _ _ _)).trans (mod_drew _ _)).other N23.out HR.out) ?hx ?hy ?_); (case hx => rfl); (case hy => rfl); intro w6 h6 M6; replace HR := Lib.hid h6; replace HB := Lib.hid (M6.below ((((mod_setCell _ _ _ _).trans (mod_setCell _ _ _ _)).trans (mod_drew _ _)).below HB.out L3.out) L2.out); clear h6 M6))
    exact bodyPost_ret (needed_results _ _ b2 _ _ HR.out rfl) rfl ⟨rfl, HB.out⟩
theorem needed_0 (m : Ms) (hk : m.k ≠ 1 ∧ m.k ≠ 2 ∧ m.k ≠ 5 ∧ m.k ≠ 7 ∧ m.k ≠ 8) (w : World) :
    Calls Tryd.prog 40 #[mv m] w fun e w' => e = .returned (mv (need m)) ∧ Below w.heap.size w w' := by
  obtain ⟨g1, g2, g5, g7, g8⟩ := hk
  have HE : Hid (need m = ⟨m.k, m.c, Pn.zero, Msc.zero, 0, no⟩) := Lib.hid (by unfold need; rw [if_neg g1, if_neg g2, if_neg (by omega), if_neg (by omega)])
  have q1 : ((m.k : Int) == 1) = false := eq_no (n := m.k) (k := 1) g1
  have q2 : ((m.k : Int) == 2) = false := eq_no (n := m.k) (k := 2) g2
  have q5 : ((m.k : Int) == 5) = false := eq_no (n := m.k) (k := 5) g5
  have q7 : ((m.k : Int) == 7) = false := eq_no (n := m.k) (k := 7) g7
  have q8 : ((m.k : Int) == 8) = false := eq_no (n := m.k) (k := 8) g8
  clear g1 g2 g5 g7 g8
  rw [HE.out]
  clear HE
  go_enter Tryd.func40, Tryd.ntmps40
  go_wp2_with (first
    | ((with_reducible refine bxm (m := m) ?hx ?_); (case hx => rfl); intro b1 w1 h1 F1; have HM := Lib.hid h1; have HB := Lib.hid F1.below; clear h1 F1)
    | (have _ := HR; (with_reducible refine alm zeroM ?_); intro b3 w3 h3 F3; have N13 := Lib.hid (F3.ne HM.out); have N23 := Lib.hid (F3.ne HR.out); replace HM := Lib.hid (F3.stays HM.out); replace HR := Lib.hid (F3.stays HR.out); have HN := Lib.hid h3; have L3 := Lib.hid (F3.le HB.out); replace HB := Lib.hid (F3.on HB.out); clear h3 F3)
    | ((with_reducible refine alm zeroM ?_); intro b2 w2 h2 F2; have N12 := Lib.hid (F2.ne HM.out); replace HM := Lib.hid (F2.stays HM.out); have HR := Lib.hid h2; have L2 := Lib.hid (F2.le HB.out); replace HB := Lib.hid (F2.on HB.out); clear h2 F2; obtain ⟨c0, c1, c18, c19⟩ := flds HM.out)
    | ((with_reducible refine bdm ⟨m.k, m.c, Pn.zero, Msc.zero, 0, no⟩ ?hb ?_); (case hb => kernel_rfl))
    | ((with_reducible refine stm (m := ⟨m.k, m.c, Pn.zero, Msc.zero, 0, no⟩) isM HN.out ?hx ?hy ?_); (case hx => rfl); (case hy => rfl); intro w4 h4 M4; replace HN := Lib.hid h4; replace HM := Lib.hid (M4.other N13.out HM.out); replace HR := Lib.hid (M4.other N23.out HR.out); replace HB := Lib.hid (M4.below HB.out L3.out); clear c0 c1 c18 c19 h4 M4; obtain ⟨c0, c1, c18, c19⟩ := flds HM.out; obtain ⟨z0, z1, z18, z19⟩ := frees HN.out; obtain ⟨n0, n1, n18, n19⟩ := flds HN.out)
    | ((with_reducible refine ldm isM HN.out ?hx ?_); (case hx => rfl))
    | ((with_reducible refine stm (m := ⟨m.k, m.c, Pn.zero, Msc.zero, 0, no⟩) isM HR.out ?hx ?hy ?_); (case hx => rfl); (case hy => rfl); intro w6 h6 M6; replace HR := Lib.hid h6; replace HB := Lib.hid (M6.below HB.out L2.out); clear h6 M6))
  exact bodyPost_ret (needed_results _ _ b2 _ _ HR.out rfl) rfl ⟨rfl, HB.out⟩
theorem fneeded (m : Ms) (w : World) :
    Calls Tryd.prog 40 #[mv m] w fun e w' => e = .returned (mv (need m)) ∧ Below w.heap.size w w' := by
  by_cases h1 : m.k = 1
  · exact needed_1 m h1 w
  by_cases h2 : m.k = 2
  · exact needed_2 m h2 w
  by_cases h5 : m.k = 5
  · exact needed_5 m h5 w
  by_cases h7 : m.k = 7
  · exact needed_7 m h7 w
  by_cases h8 : m.k = 8
  · exact needed_8 m h8 w
  exact needed_0 m ⟨h1, h2, h5, h7, h8⟩ w
end Go.Proofs.YtakkhdammmcjcaaDoor.Msgs
/-
  What the functions of layer 2 that write and split an address, and each of the document's own, answer. No condition.
-/
namespace Go.Proofs.YtakkhdammmcjcaaDoor.Ea
open Go.RowKit Go.Proofs.YtakkhdammmcjcaaDoor.Base
theorem isLast (a : Nat) (ha : a < 256) (w : World) :
    Calls Tryd.prog 81 #[.int .u8 (a : Int)] w fun e w' => e = .returned (.bool (spK a)) ∧ w = w' := by
  have H := u8_and1 a ha
  go_enter Tryd.func81, Tryd.ntmps81
  go_wp2
  go_ret
  exact ⟨ret_bool (by unfold spK; rw [Bool.eq_iff_iff]; simp; omega), rfl⟩
theorem address (d : Nat) (hd : d < 256) (cr : Bool) (w : World) :
    Calls Tryd.prog 62 #[.int .u8 (d : Int), .bool cr] w fun e w' => e = .returned (.int .u8 (addr d cr : Int)) ∧ w = w' := by
  by_cases h : 63 < d
  · go_enter Tryd.func62, Tryd.ntmps62
    go_wp2
    go_ret
    exact ⟨ret_int (by rw [addr, if_pos h]; rfl), rfl⟩
  · have e1 : bits .or .u8 ((d : Int) * 4) 1 = (d : Int) * 4 + 1 := bits_join .u8 8 (by decide) wraps_u8 2 _ _ (by omega) (by omega) (by omega) (by decide) (by decide) (by decide)
    have e2 : bits .or .u8 ((d : Int) * 4 + 1) 2 = (d : Int) * 4 + 3 := by
      have : ∀ j : Fin 64, bits .or .u8 ((j.val : Int) * 4 + 1) 2 = (j.val : Int) * 4 + 3 := by decide +kernel
      exact this ⟨d, by omega⟩
    have ha : addr d cr = 4 * d + 2 * cr.toNat + 1 := if_neg h
    rw [ha]; clear ha
    cases cr
    all_goals
      go_enter Tryd.func62, Tryd.ntmps62
      go_wp2
      go_ret
      exact ⟨ret_int (by simp; omega), rfl⟩
theorem split (a : Nat) (ha : a < 256) (w : World) :
    Calls Tryd.prog 83 #[.int .u8 (a : Int)] w fun e w' => e = .returned (.tuple #[.int .u8 (spD a : Int), .bool (spC a), .bool (spK a)]) ∧ w = w' := by
  have e2 := u8_and2 a ha
  by_cases h : a % 2 = 1
  · have hk : spK a = true := decide_eq_true h
    have HD : Hid (spD a = a / 4) := Lib.hid (if_pos h)
    have HC : Hid (spC a = decide (a / 2 % 2 = 1)) := Lib.hid (by unfold spC; rw [Bool.eq_iff_iff]; simp [h])
    go_enter Tryd.func83, Tryd.ntmps83
    go_wp2_with (go_at_call 81; ((with_reducible refine (isLast _ ha _).mono ?_); rintro e w' ⟨rfl, rfl⟩))
    go_ret3
    exact ⟨ret_ibb (by rw [HD.out]; simp) (by rw [HC.out, Bool.eq_iff_iff]; simp; omega) hk.symm, rfl⟩
  · have hk : spK a = false := decide_eq_false h
    have HD : Hid (spD a = 0) := Lib.hid (if_neg h)
    have HC : Hid (spC a = false) := Lib.hid (by unfold spC; rw [Bool.eq_iff_iff]; simp [h])
    go_enter Tryd.func83, Tryd.ntmps83
    go_wp2_with (go_at_call 81; ((with_reducible refine (isLast _ ha _).mono ?_); rintro e w' ⟨rfl, rfl⟩))
    go_ret3
    exact ⟨ret_ibb (by rw [HD.out]; rfl) HC.out.symm hk.symm, rfl⟩
end Go.Proofs.YtakkhdammmcjcaaDoor.Ea
/-
  What each function of layer 2, and each of the document's own, answers. No condition.
-/
namespace Go.Proofs.YtakkhdammmcjcaaDoor.Ea
set_option maxRecDepth 20000
open Go.RowKit Go.Proofs.YtakkhdammmcjcaaDoor.Base
theorem take (s : ByteArray) (w : World) (hl : s.size ≤ maxLen) :
    Calls Tryd.prog 76 #[.string s] w fun e w' => e = .returned (.tuple #[.int .i64 (tkN s.data.toList : Int), .int .i64 (tkZ s.data.toList : Int), .int .i64 (tkE s.data.toList : Int)]) ∧ w = w' := by
  unfold maxLen at hl
  by_cases h0 : s.size = 0
  · obtain rfl := nil_of_size h0
    go_enter Tryd.func76, Tryd.ntmps76
    go_wp2
    go_ret3
    exact ⟨rfl, rfl⟩
  · have h1 : 0 < s.size := by omega
    have hz : ((s.size : Int) == 0) = false := by rw [beq_eq_false_iff_ne]; omega
    have hb := oct_lt s[0]
    by_cases ho : s[0].toNat % 2 = 1
    · have HT : Hid (tk s.data.toList = (s[0].toNat / 2, 1, 0)) := Lib.hid (by rw [cons_of_size h1]; exact tk_odd _ _ ho)
      have hk : spK s[0].toNat = true := decide_eq_true ho
      unfold tkN tkZ tkE
      rw [HT.out]
      clear ho h0
      go_enter Tryd.func76, Tryd.ntmps76
      go_wp2_with (go_at_call 81; ((with_reducible refine (isLast _ hb _).mono ?_); rintro e w' ⟨rfl, rfl⟩))
      go_ret3
      exact ⟨ret_iii (by simp) rfl rfl, rfl⟩
    · have hk : spK s[0].toNat = false := decide_eq_false ho
      by_cases h2 : s.size = 1
      · have HT : Hid (tk s.data.toList = (0, 0, 20)) := Lib.hid (by rw [one_of_size h2]; exact tk_one _ ho)
        have hz1 : ((s.size : Int) == 1) = true := by rw [beq_iff_eq]; omega
        unfold tkN tkZ tkE
        rw [HT.out]
        clear ho h0 h2
        go_enter Tryd.func76, Tryd.ntmps76
        go_wp2_with (go_at_call 81; ((with_reducible refine (isLast _ hb _).mono ?_); rintro e w' ⟨rfl, rfl⟩))
        go_ret3
        exact ⟨rfl, rfl⟩
      · have h3 : 1 < s.size := by omega
        have hb1 := oct_lt s[1]
        have HT : Hid (tk s.data.toList = (s[0].toNat / 2 + 128 * s[1].toNat, 2, 0)) := Lib.hid (by rw [cons2_of_size h3]; exact tk_two _ _ _ ho)
        have hz1 : ((s.size : Int) == 1) = false := by rw [beq_eq_false_iff_ne]; omega
        have e1 : bits .or .i64 ((s[1].toNat : Int) * 128) ((s[0].toNat : Int) / 2) = (s[1].toNat : Int) * 128 + (s[0].toNat : Int) / 2 := bits_join .i64 63 (by decide) wraps_i64 7 _ _ (by omega) (by omega) (by omega) (by omega) (by omega) (by omega)
        unfold tkN tkZ tkE
        rw [HT.out]
        clear ho h0 h2
        go_enter Tryd.func76, Tryd.ntmps76
        go_wp2_with (go_at_call 81; ((with_reducible refine (isLast _ hb _).mono ?_); rintro e w' ⟨rfl, rfl⟩))
        go_ret3
        exact ⟨ret_iii (by simp; omega) rfl rfl, rfl⟩
theorem octets1 (x : Int) (w : World) :
    Calls Tryd.prog 65 #[.slice (some ⟨w.heap.size, 0, none⟩) 1 1] (w.alloc (.cells #[.int .u8 x] 5)) fun e w' => e = .returned (.string ⟨#[UInt8.ofNat x.toNat]⟩) ∧ w.alloc (.cells #[.int .u8 x] 5) = w' := by
  have hcv := conv_oneI w x
  go_enter Tryd.func65, Tryd.ntmps65
  go_wp2
  go_ret
  exact ⟨rfl, rfl⟩
theorem octets2 (x y : Int) (w : World) :
    Calls Tryd.prog 65 #[.slice (some ⟨w.heap.size, 0, none⟩) 2 2] (w.alloc (.cells #[.int .u8 x, .int .u8 y] 5)) fun e w' => e = .returned (.string ⟨#[UInt8.ofNat x.toNat, UInt8.ofNat y.toNat]⟩) ∧ w.alloc (.cells #[.int .u8 x, .int .u8 y] 5) = w' := by
  have hcv := conv_twoI w x y
  go_enter Tryd.func65, Tryd.ntmps65
  go_wp2
  go_ret
  exact ⟨rfl, rfl⟩
theorem length (n : Int) (hn : n ≤ 9223372036854775807) (w : World) :
    Calls Tryd.prog 51 #[.int .i64 n] w fun e w' => e = .returned (.string (len n)) ∧ Below w.heap.size w w' := by
  by_cases h : n < 0 ∨ 32767 < n
  · rw [len_no h]
    have hd : (decide (n < 0) || decide (32767 < n)) = true := by simpa using h
    clear h
    go_enter Tryd.func51, Tryd.ntmps51
    go_wp2
    all_goals go_ret
    all_goals exact ⟨rfl, Below.refl _ _⟩
  · have h0 : 0 ≤ n := by omega
    have h1 : n ≤ 32767 := by omega
    clear h
    by_cases h2 : n < 128
    · have e1 : bits .or .u8 (n * 2) 1 = n * 2 + 1 := bits_join .u8 8 (by decide) wraps_u8 1 _ _ (by omega) (by omega) (by omega) (by decide) (by decide) (by decide)
      rw [len_one h0 h2]
      have HE : Hid (2 * n.toNat + 1 = (n * 2 + 1).toNat) := Lib.hid (by omega)
      go_enter Tryd.func51, Tryd.ntmps51
      go_wp2_with (go_at_call 65; ((with_reducible refine (octets1 _ _).mono ?_); rintro e w' ⟨rfl, rfl⟩))
      go_ret
      exact ⟨ret_str (by rw [HE.out]), (Below.refl _ _).alloc (Nat.le_refl _) _⟩
    · have h3 : 128 ≤ n := by omega
      clear h0 h2
      rw [len_two h3 h1]
      have HE : Hid (2 * (n.toNat % 128) = (n % 256 * 2 % 256).toNat) := Lib.hid (by omega)
      have HF : Hid (n.toNat / 128 = (n / 128).toNat) := Lib.hid (by omega)
      go_enter Tryd.func51, Tryd.ntmps51
      go_wp2_with (go_at_call 65; ((with_reducible refine (octets2 _ _ _).mono ?_); rintro e w' ⟨rfl, rfl⟩))
      go_ret
      exact ⟨ret_str (by rw [HE.out, HF.out]), (Below.refl _ _).alloc (Nat.le_refl _) _⟩
end Go.Proofs.YtakkhdammmcjcaaDoor.Ea
/-
  What layer 7's Put, and the document's own, answer: the message's octets, or an error. Condition: a value of at most 2^62 octets.
-/
namespace Go.Proofs.YtakkhdammmcjcaaDoor.Tlv
open Go.RowKit Go.Proofs.YtakkhdammmcjcaaDoor.Base Go.Proofs.YtakkhdammmcjcaaDoor.Ea Go.Proofs.YtakkhdammmcjcaaDoor.Mem
theorem typeOctet (k : Nat) (hk : k ≤ 63) (c : Bool) (w : World) :
    Calls Tryd.prog 50 #[.int .u8 (k : Int), .bool c] w fun e w' => e = .returned (.int .u8 (addr k c : Int)) ∧ w = w' := by
  have e1 : bits .or .u8 ((k : Int) * 4) 1 = (k : Int) * 4 + 1 := bits_join .u8 8 (by decide) wraps_u8 2 _ _ (by omega) (by omega) (by omega) (by decide) (by decide) (by decide)
  have e2 : bits .or .u8 ((k : Int) * 4 + 1) 2 = (k : Int) * 4 + 3 := by
    have : ∀ j : Fin 64, bits .or .u8 ((j.val : Int) * 4 + 1) 2 = (j.val : Int) * 4 + 3 := by decide +kernel
    exact this ⟨k, by omega⟩
  have ha : addr k c = 4 * k + 2 * c.toNat + 1 := if_neg (by omega)
  rw [ha]; clear ha
  cases c
  all_goals
    go_enter Tryd.func50, Tryd.ntmps50
    go_wp2
    go_ret
    exact ⟨ret_int (by simp; omega), rfl⟩
theorem put_no (k : Nat) (hk : k < 256) (c : Bool) (v : ByteArray) (hv : v.size ≤ 9223372036854775807) (h : putE k v ≠ 0) (w : World) :
    Calls Tryd.prog 34 #[.int .u8 (k : Int), .bool c, .string v] w fun e w' => e = .returned (.tuple #[.string ⟨#[]⟩, .int .i64 (putE k v : Int)]) ∧ w = w' := by
  by_cases h1 : 63 < k
  · have he : putE k v = 2 := if_pos h1
    rw [he]; clear h he
    go_enter Tryd.func34, Tryd.ntmps34
    go_wp2
    go_ret2
    exact ⟨rfl, rfl⟩
  · by_cases h2 : 127 < v.size
    · have he : putE k v = 3 := by unfold putE; rw [if_neg h1, if_pos h2]
      rw [he]; clear h he
      go_enter Tryd.func34, Tryd.ntmps34
      go_wp2
      go_ret2
      exact ⟨rfl, rfl⟩
    · exact absurd (putE_of (by omega) (by omega)) h
set_option maxHeartbeats 400000 in
theorem put_ok (k : Nat) (c : Bool) (v : ByteArray) (hk : k ≤ 63) (hv : v.size ≤ 127) (w : World) :
    Calls Tryd.prog 34 #[.int .u8 (k : Int), .bool c, .string v] w fun e w' => e = .returned (.tuple #[.string (It.bytes ⟨k, c, v⟩), .int .i64 0]) ∧ Below w.heap.size w w' := by
  have CT := Lib.hid (fun w => typeOctet k hk c w)
  have HE : Hid (one (addr k c) ++ len v.size ++ v = It.bytes ⟨k, c, v⟩) := Lib.hid rfl
  have hcv : ∀ (W : World) (b : Nat), W.cell? ⟨b, 0, none⟩ = some (.int .u8 ((addr k c : Nat) : Int)) → (convert 99 9 (.slice (some ⟨b, 0, none⟩) 1 1)).run Tryd.prog W = .ok (.string (one (addr k c))) W := fun W b h0 => conv_at1 W b _ h0
  have hz1 : (one (addr k c)).size = 1 := rfl
  have hz2 : (len (v.size : Int)).size = 1 := by rw [len_one (by omega) (by omega)]; rfl
  have k1 : ¬ 63 < k := by omega
  have k2 : ¬ 127 < v.size := by omega
  generalize addr k c = a at CT HE hcv hz1
  generalize hL : len (v.size : Int) = L at HE hz2
  have CL : Hid (∀ w, Calls Tryd.prog 51 #[.int .i64 (v.size : Int)] w fun e w' => e = .returned (.string L) ∧ Below w.heap.size w w') := Lib.hid (fun w => by rw [← hL]; exact length _ (by omega) w)
  clear hL hk hv
  go_enter Tryd.func34, Tryd.ntmps34
  go_wp2
  go_region_held (fun w' => Below w.heap.size w w')
    (first | exact (Below.refl _ _).drew | exact ((Below.refl _ _).alloc (Nat.le_refl _) _).drew | exact HB2.out | exact (HB2.out.alloc HB2.out.size _))
    (first
      | (go_at_call 50; ((with_reducible refine (CT.out _).mono ?_); rintro e w' ⟨rfl, rfl⟩))
      | (go_at_call 51; ((with_reducible refine (CL.out _).mono ?_); rintro e w2 ⟨rfl, hb⟩; (first
        | (have k0 := cell_below (w := (w.alloc (.cells #[.int .u8 (a : Int)] 5)).drew) (cell_new w _ _ 0) hb; have HB2 := Lib.hid (below_on (((Below.refl w.heap.size w).alloc (Nat.le_refl _) _).drew) hb); clear hb)
        | (have HB2 := Lib.hid (below_on ((Below.refl w.heap.size w).drew) hb); clear hb)))))
  all_goals
    rename_i hX
    go_wp2
    go_ret2
    exact ⟨ret_si HE.out rfl, hX⟩
theorem fput (k : Nat) (hk : k < 256) (c : Bool) (v : ByteArray) (hv : v.size ≤ 9223372036854775807) (w : World) :
    Calls Tryd.prog 34 #[.int .u8 (k : Int), .bool c, .string v] w fun e w' => e = .returned (.tuple #[.string (putS k c v), .int .i64 (putE k v : Int)]) ∧ Below w.heap.size w w' := by
  by_cases h : putE k v = 0
  · rw [putS_ok h, h]
    exact put_ok k c v (putE_ok h).1 (putE_ok h).2 w
  · have hs : putS k c v = ⟨#[]⟩ := if_neg h
    rw [hs]
    exact (put_no k hk c v hv h w).mono fun _ _ ⟨he, hw⟩ => ⟨he, hw ▸ Below.refl _ _⟩
end Go.Proofs.YtakkhdammmcjcaaDoor.Tlv
/-
  What the small functions of layer 8, and of the document's own, answer. No condition but the bounds of octets.
-/
namespace Go.Proofs.YtakkhdammmcjcaaDoor.Pn
open Go.RowKit Go.Proofs.YtakkhdammmcjcaaDoor.Base Go.Proofs.YtakkhdammmcjcaaDoor.Mem
theorem bounded_results (tmps : Array Value) (W : World) (b : Nat) (p : Pr) (h : Cells W b p) (p2 : tmps[2]?.getD undef = ptr b) :
    (results Tryd.f74 tmps).run Tryd.prog W = .ok (pv p) W := by
  obtain ⟨g0, g1, g2, g3, g4, g5, g6, g7⟩ := h
  simp [results, Tryd.results74, go_sem, p2, g0, g1, g2, g3, g4, g5, g6, g7]
theorem fbounded (p : Pr) (w : World) :
    Calls Tryd.prog 74 #[pv p] w fun x w' => x = .returned (pv (bounded p)) ∧ Below w.heap.size w w' := by
  go_enter Tryd.func74, Tryd.ntmps74
  go_wp2
  exact bodyPost_ret (bounded_results _ _ (w.heap.size + 1) (bounded p) (cells_of (nest w [_, _] 1 _ rfl)) rfl) rfl ⟨rfl, nest_below w [_, _]⟩
theorem agree_results (tmps : Array Value) (W : World) (b : Nat) (p : Pr) (h : Cells W b p) (p4 : tmps[4]?.getD undef = ptr b) :
    (results Tryd.f58 tmps).run Tryd.prog W = .ok (pv p) W := by
  obtain ⟨g0, g1, g2, g3, g4, g5, g6, g7⟩ := h
  simp [results, Tryd.results58, go_sem, p4, g0, g1, g2, g3, g4, g5, g6, g7]
theorem fagree (o a : Pr) (w : World) :
    Calls Tryd.prog 58 #[pv o, pv a] w fun x w' => x = .returned (pv (agree o a)) ∧ Below w.heap.size w w' := by
  go_enter Tryd.func58, Tryd.ntmps58
  go_wp2
  exact bodyPost_ret (agree_results _ _ (w.heap.size + 2) (agree o a) (cells_of (nest w [_, _, _] 2 _ rfl)) rfl) rfl ⟨rfl, nest_below w [_, _, _]⟩
end Go.Proofs.YtakkhdammmcjcaaDoor.Pn
/-
  What the document's own May, Put and Lowers of layer 8 answer. No condition but the bounds of octets.
-/
namespace Go.Proofs.YtakkhdammmcjcaaDoor.Pn
open Go.RowKit Go.Proofs.YtakkhdammmcjcaaDoor.Base Go.Proofs.YtakkhdammmcjcaaDoor.Mem
end Go.Proofs.YtakkhdammmcjcaaDoor.Pn
/-
  What May, Put and Lowers of layer 8, and the document's own Put, answer. No condition but the bounds of octets.
-/
namespace Go.Proofs.YtakkhdammmcjcaaDoor.Pn
open Go.RowKit Go.Proofs.YtakkhdammmcjcaaDoor.Base Go.Proofs.YtakkhdammmcjcaaDoor.Mem
theorem fmay (p : Pr) (w : World) :
    Calls Tryd.prog 60 #[pv p] w fun x w' => x = .returned (.bool (may p)) ∧ Below w.heap.size w w' := by
  have CB := Lib.hid (fun w => fbounded p w)
  have HE : ∀ w, (binOp .eql 23 (pv p) (pv (bounded p))).run Tryd.prog w = .ok (.bool (may p)) w := fun w => by rw [run_eqP, may_bounded]
  generalize bounded p = q at CB HE
  generalize may p = b at HE
  go_enter Tryd.func60, Tryd.ntmps60
  go_wp2
  have HB0 : Hid (Below w.heap.size w (w.alloc (pO p 23))) := Lib.hid (nest_below w [pO p 23])
  have GS : Cells (w.alloc (pO p 23)) w.heap.size p := cells_of (nest w [_] 0 _ rfl)
  generalize w.alloc (pO p 23) = W at *
  obtain ⟨g0, g1, g2, g3, g4, g5, g6, g7⟩ := GS
  go_region_held3 (fun w' => w'.cell? ⟨w.heap.size, 0, none⟩ = some (.int .u8 p.d) ∧ w'.cell? ⟨w.heap.size, 1, none⟩ = some (.int .u8 p.f) ∧ w'.cell? ⟨w.heap.size, 2, none⟩ = some (.int .u8 p.c) ∧ w'.cell? ⟨w.heap.size, 3, none⟩ = some (.int .u8 p.r) ∧ w'.cell? ⟨w.heap.size, 4, none⟩ = some (.int .i64 p.t) ∧ w'.cell? ⟨w.heap.size, 5, none⟩ = some (.int .i64 p.n) ∧ w'.cell? ⟨w.heap.size, 6, none⟩ = some (.int .i64 p.z) ∧ w'.cell? ⟨w.heap.size, 7, none⟩ = some (.int .i64 p.k) ∧ Below W.heap.size W w')
    (first | exact ⟨g0, g1, g2, g3, g4, g5, g6, g7, (Below.refl _ _).drew⟩ | exact ⟨cell_below g0 HB1.out, cell_below g1 HB1.out, cell_below g2 HB1.out, cell_below g3 HB1.out, cell_below g4 HB1.out, cell_below g5 HB1.out, cell_below g6 HB1.out, cell_below g7 HB1.out, HB1.out⟩)
    ((go_at_call 74; ((with_reducible refine (CB.out _).mono ?_); rintro e w1 ⟨rfl, hb⟩; have HB1 := Lib.hid (below_on ((Below.refl W.heap.size W).drew) hb); clear hb)))
  rename_i hX
  go_wp2
  go_ret
  exact ⟨rfl, below_on HB0.out hX.2.2.2.2.2.2.2.2⟩
theorem fput_ok (p : Pr) (hp : p.In) (hm : p.May) (CM : ∀ w, Calls Tryd.prog 60 #[pv p] w fun x w' => x = .returned (.bool true) ∧ Below w.heap.size w w') (w : World) :
    Calls Tryd.prog 47 #[pv p] w fun x w' => x = .returned (.tuple #[.string (octets p), .int .i64 0]) ∧ Below w.heap.size w w' := by
  obtain ⟨S, hS⟩ : ∃ S, octets p = S := ⟨_, rfl⟩
  have hcv : ∀ (W : World) (b : Nat), W.cell? ⟨b, 0, none⟩ = some (.int .u8 p.d) → W.cell? ⟨b, 1, none⟩ = some (.int .u8 (p.f + 16 * p.c)) → W.cell? ⟨b, 2, none⟩ = some (.int .u8 p.r) → W.cell? ⟨b, 3, none⟩ = some (.int .u8 p.t) → W.cell? ⟨b, 4, none⟩ = some (.int .u8 (p.n % 256)) → W.cell? ⟨b, 5, none⟩ = some (.int .u8 (p.n / 256)) → W.cell? ⟨b, 6, none⟩ = some (.int .u8 p.z) → W.cell? ⟨b, 7, none⟩ = some (.int .u8 p.k) → (convert 99 9 (.slice (some ⟨b, 0, none⟩) 8 8)).run Tryd.prog W = .ok (.string S) W := fun W b h0 h1 h2 h3 h4 h5 h6 h7 => by rw [← hS]; exact conv_at8 W b _ _ _ _ _ _ _ _ h0 h1 h2 h3 h4 h5 h6 h7
  rw [hS]
  have CMh := Lib.hid CM
  obtain ⟨⟨m1, n1⟩, m2, m3, m4, ⟨m5, n5⟩, ⟨m6, n6⟩, ⟨m7, n7⟩, ⟨m8, n8⟩⟩ := hm
  obtain ⟨⟨i1, j1⟩, ⟨i2, j2⟩, ⟨i3, j3⟩, ⟨i4, j4⟩⟩ := hp
  clear CM hS
  go_enter Tryd.func47, Tryd.ntmps47
  go_wp2_with (go_at_call 60; ((with_reducible refine (CMh.out _).mono ?_); rintro e w1 ⟨rfl, hb⟩; obtain ⟨g0, g1, g2, g3, g4, g5, g6, g7⟩ := cells_of (p := p) (fresh hb); have HB := Lib.hid (on_new (Below.refl _ _) hb); clear hb))
  go_ret2
  exact ⟨rfl, HB.out.alloc HB.out.size _⟩
theorem fput_no (p : Pr) (CM : ∀ w, Calls Tryd.prog 60 #[pv p] w fun x w' => x = .returned (.bool false) ∧ Below w.heap.size w w') (w : World) :
    Calls Tryd.prog 47 #[pv p] w fun x w' => x = .returned (.tuple #[.string ⟨#[]⟩, .int .i64 2]) ∧ Below w.heap.size w w' := by
  have CMh := Lib.hid CM
  clear CM
  go_enter Tryd.func47, Tryd.ntmps47
  go_wp2_with (go_at_call 60; ((with_reducible refine (CMh.out _).mono ?_); rintro e w1 ⟨rfl, hb⟩; have HB := Lib.hid (on_new (Below.refl _ _) hb); clear hb))
  go_ret2
  exact ⟨rfl, HB.out⟩
theorem fput (p : Pr) (hp : p.In) (w : World) :
    Calls Tryd.prog 47 #[pv p] w fun x w' => x = .returned (.tuple #[.string (putS p), .int .i64 (putE p)]) ∧ Below w.heap.size w w' := by
  unfold putS putE
  cases hm : may p
  · exact fput_no p (fun w => by have := fmay p w; rw [hm] at this; exact this) w
  · exact fput_ok p hp ((may_iff p).1 hm) (fun w => by have := fmay p w; rw [hm] at this; exact this) w
end Go.Proofs.YtakkhdammmcjcaaDoor.Pn
/-
  What octet of layer 9 answers for a row of eight bools. Condition: the row lies in memory.
-/
namespace Go.Proofs.YtakkhdammmcjcaaDoor.Msc
open Go.RowKit Go.Proofs.YtakkhdammmcjcaaDoor.Base Go.Proofs.YtakkhdammmcjcaaDoor.Mem
def acc (B : Nat → Bool) : Nat → Nat
  | 0 => 0
  | k + 1 => acc B k + 2 ^ k * (B k).toNat
theorem acc_lt (B : Nat → Bool) (k : Nat) : acc B k < 2 ^ k := by
  induction k with
  | zero => exact Nat.one_pos
  | succ k ih =>
    show acc B k + 2 ^ k * (B k).toNat < 2 ^ (k + 1)
    have := Bool.toNat_le (B k)
    have h2 : 2 ^ k * (B k).toNat ≤ 2 ^ k * 1 := Nat.mul_le_mul_left _ this
    rw [Nat.pow_succ]
    omega
theorem or_bit (k : Nat) (hk : k < 8) (a : Nat) (ha : a < 2 ^ k) : bits .or .u8 (a : Int) (2 ^ k % 256) = ((a + 2 ^ k : Nat) : Int) := by
  have : ∀ (k : Fin 8) (a : Fin (2 ^ k.val)), bits .or .u8 (a.val : Int) (2 ^ k.val % 256) = ((a.val + 2 ^ k.val : Nat) : Int) := by decide +kernel
  exact this ⟨k, hk⟩ ⟨a, ha⟩
theorem foctet (b : Nat) (B : Nat → Bool) (w : World) (h : ∀ k, k < 8 → w.cell? ⟨b, k, none⟩ = some (.bool (B k))) :
    Calls Tryd.prog 75 #[.slice (some ⟨b, 0, none⟩) 8 8] w fun x w' => x = .returned (.int .u8 (acc B 8 : Int)) ∧ w = w' := by
  have H := Lib.hid h
  clear h
  go_enter Tryd.func75, Tryd.ntmps75
  go_wp2
  go_loopw [3, 8] (fun o i wr => ∃ k : Nat, k ≤ 8 ∧ i = .int .i64 (k : Int) ∧ o = .int .u8 (acc B k : Int) ∧ w = wr) (fun _ i _ => 8 - (intOf i).toNat)
  case atStart => exact ⟨0, by omega, rfl, rfl, rfl⟩
  case round =>
    obtain ⟨k, hk, rfl, rfl, rfl⟩ := hrel
    by_cases hlt : k < 8
    · have hc := H.out k hlt
      obtain ⟨m, hm⟩ : ∃ m, acc B k = m := ⟨_, rfl⟩
      have hml : m < 2 ^ k := hm ▸ acc_lt B k
      have HS : Hid (acc B (k + 1) = m + 2 ^ k * (B k).toNat) := Lib.hid (by rw [← hm]; rfl)
      have ho := or_bit k hlt m hml
      rw [hm]
      clear hm
      cases hB : B k
      · rw [hB] at hc
        go_wp2
        go_roundw
        case rel => exact ⟨k + 1, by omega, by go_num, by rw [HS.out, hB]; simp, trivial⟩
        case measure => simp [intOf]; omega
      · rw [hB] at hc
        go_wp2
        go_roundw
        case rel => exact ⟨k + 1, by omega, by go_num, by rw [HS.out, hB]; simp, trivial⟩
        case measure => simp [intOf]; omega
    · obtain rfl : k = 8 := by omega
      go_wp2
      go_ret
      exact ⟨rfl, rfl⟩
end Go.Proofs.YtakkhdammmcjcaaDoor.Msc
/-
  What Bits of layer 9, and the document's own, answer: the signals' octet. No condition.
-/
namespace Go.Proofs.YtakkhdammmcjcaaDoor.Msc
open Go.RowKit Go.Proofs.YtakkhdammmcjcaaDoor.Base Go.Proofs.YtakkhdammmcjcaaDoor.Mem
/-- The row of the bits. -/
def rowB (s : St) : Nat → Bool
  | 0 => true
  | 1 => s.f
  | 2 => s.c
  | 3 => s.r
  | 6 => s.i
  | 7 => s.v
  | _ => false
theorem acc_row (s : St) : acc (rowB s) 8 = bt s := by
  show 0 + 2 ^ 0 * true.toNat + 2 ^ 1 * s.f.toNat + 2 ^ 2 * s.c.toNat + 2 ^ 3 * s.r.toNat + 2 ^ 4 * false.toNat + 2 ^ 5 * false.toNat + 2 ^ 6 * s.i.toNat + 2 ^ 7 * s.v.toNat = _
  unfold bt sig
  simp
theorem fbits (s : St) (w : World) :
    Calls Tryd.prog 63 #[sv s] w fun x w' => x = .returned (.int .u8 (bt s : Int)) ∧ Below w.heap.size w w' := by
  have CO : Hid (∀ w' : World, (∀ k, k < 8 → w'.cell? ⟨w.heap.size + 1, k, none⟩ = some (.bool (rowB s k))) → Calls Tryd.prog 75 #[.slice (some ⟨w.heap.size + 1, 0, none⟩) 8 8] w' fun x w'' => x = .returned (.int .u8 (bt s : Int)) ∧ w' = w'') :=
    Lib.hid (fun w' h => by have := foctet (w.heap.size + 1) (rowB s) w' h; rw [acc_row] at this; exact this)
  have HR : Hid (∀ (os : Obj) (w' : World) (t : TypeId), w' = (w.alloc os).alloc (.cells #[.bool true, .bool s.f, .bool s.c, .bool s.r, .bool false, .bool false, .bool s.i, .bool s.v] t) → ∀ k, k < 8 → w'.cell? ⟨w.heap.size + 1, k, none⟩ = some (.bool (rowB s k))) :=
    Lib.hid (fun os w' t e k hk => by
      subst e
      have h1 := nest w [os, .cells #[.bool true, .bool s.f, .bool s.c, .bool s.r, .bool false, .bool false, .bool s.i, .bool s.v] t] 1 _ rfl
      match k, hk with
      | 0, _ => exact cell_of h1 rfl
      | 1, _ => exact cell_of h1 rfl
      | 2, _ => exact cell_of h1 rfl
      | 3, _ => exact cell_of h1 rfl
      | 4, _ => exact cell_of h1 rfl
      | 5, _ => exact cell_of h1 rfl
      | 6, _ => exact cell_of h1 rfl
      | 7, _ => exact cell_of h1 rfl)
  go_enter Tryd.func63, Tryd.ntmps63
  go_wp2_with (go_at_call 75; ((with_reducible refine (CO.out _ (HR.out _ _ _ rfl)).mono ?_); rintro e w1 ⟨rfl, rfl⟩))
  go_ret
  exact ⟨rfl, nest_below w [_, _]⟩
end Go.Proofs.YtakkhdammmcjcaaDoor.Msc
/-
  What the small functions of layer 9, and of the document's own, answer. No condition but the bounds of octets.
-/
namespace Go.Proofs.YtakkhdammmcjcaaDoor.Msc
open Go.RowKit Go.Proofs.YtakkhdammmcjcaaDoor.Base Go.Proofs.YtakkhdammmcjcaaDoor.Mem
theorem fhas (n : Nat) (hn : n < 256) (w : World) :
    Calls Tryd.prog 82 #[.int .u8 (n : Int)] w fun x w' => x = .returned (.bool (decide (n % 2 = 0))) ∧ w = w' := by
  have h1 := u8_and1 n hn
  go_enter Tryd.func82, Tryd.ntmps82
  go_wp2
  go_ret
  exact ⟨ret_bool (by rw [Bool.eq_iff_iff]; simp <;> omega), rfl⟩
theorem fmay (p : St) (w : World) :
    Calls Tryd.prog 61 #[sv p] w fun x w' => x = .returned (.bool (may p)) ∧ Below w.heap.size w w' := by
  obtain ⟨x, hx⟩ : ∃ x, may p = x := ⟨_, rfl⟩
  have HX := Lib.hid hx
  rw [hx]
  clear hx
  obtain ⟨d, f, c, r, i, v, b, k⟩ := p
  cases b
  · go_enter Tryd.func61, Tryd.ntmps61
    go_wp2
    all_goals go_ret
    all_goals exact ⟨ret_bool (by rw [← HX.out, Bool.eq_iff_iff]; clear HX; first | (simp_all [may]; done) | (simp_all [may]; omega)), nest_below w [_]⟩
  · go_enter Tryd.func61, Tryd.ntmps61
    go_wp2
    all_goals go_ret
    all_goals exact ⟨ret_bool (by rw [← HX.out, Bool.eq_iff_iff]; clear HX; first | (simp_all [may]; done) | (simp_all [may]; omega)), nest_below w [_]⟩
end Go.Proofs.YtakkhdammmcjcaaDoor.Msc
