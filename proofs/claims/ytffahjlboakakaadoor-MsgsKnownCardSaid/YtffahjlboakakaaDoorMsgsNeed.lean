/-
  What 'needed' of layer 10 answers: a message with nothing but what its Kind needs. No condition.
-/
import Derived.Test.YtffahjlboakakaaDoorMsgsArm
namespace Go.Proofs.YtffahjlboakakaaDoor.Msgs
open Go.RowKit Go.Proofs.YtffahjlboakakaaDoor.Base Go.Proofs.YtffahjlboakakaaDoor.Mem
set_option maxRecDepth 20000
theorem eq_is {n k : Nat} (h : n = k) : ((n : Int) == (k : Int)) = true := by rw [h]; simp
theorem eq_no {n k : Nat} (h : n ≠ k) : ((n : Int) == (k : Int)) = false := by rw [beq_eq_false_iff_ne]; omega
theorem needed_1 (m : Ms) (hk : m.k = 1) (w : World) :
    Calls Tryd.prog 24 #[mv m] w fun e w' => e = .returned (mv (need m)) ∧ Below w.heap.size w w' := by
  have HE : Hid (need m = ⟨m.k, m.c, m.p, Msc.zero, 0, no⟩) := Lib.hid (by unfold need; rw [hk]; rfl)
  have q1 : ((m.k : Int) == 1) = true := eq_is (n := m.k) (k := 1) (by omega)
  clear hk
  rw [HE.out]
  clear HE
  go_enter Tryd.func24, Tryd.ntmps24
  go_wp2_with (first
    | ((with_reducible refine bxm (m := m) ?hx ?_); (case hx => rfl); intro b1 w1 h1 F1; have HM := Lib.hid h1; have HB := Lib.hid F1.below; clear h1 F1)
    | (have _ := HR; (with_reducible refine alm zeroM ?_); intro b3 w3 h3 F3; have N13 := Lib.hid (F3.ne HM.out); have N23 := Lib.hid (F3.ne HR.out); replace HM := Lib.hid (F3.stays HM.out); replace HR := Lib.hid (F3.stays HR.out); have HN := Lib.hid h3; have L3 := Lib.hid (F3.le HB.out); replace HB := Lib.hid (F3.on HB.out); clear h3 F3)
    | ((with_reducible refine alm zeroM ?_); intro b2 w2 h2 F2; have N12 := Lib.hid (F2.ne HM.out); replace HM := Lib.hid (F2.stays HM.out); have HR := Lib.hid h2; have L2 := Lib.hid (F2.le HB.out); replace HB := Lib.hid (F2.on HB.out); clear h2 F2; obtain ⟨c0, c1, c18, c19⟩ := flds HM.out)
    | ((with_reducible refine bdm ⟨m.k, m.c, Pn.zero, Msc.zero, 0, no⟩ ?hb ?_); (case hb => kernel_rfl))
    | ((with_reducible refine stm (m := ⟨m.k, m.c, Pn.zero, Msc.zero, 0, no⟩) isM HN.out ?hx ?hy ?_); (case hx => rfl); (case hy => rfl); intro w4 h4 M4; replace HN := Lib.hid h4; replace HM := Lib.hid (M4.other N13.out HM.out); replace HR := Lib.hid (M4.other N23.out HR.out); replace HB := Lib.hid (M4.below HB.out L3.out); clear c0 c1 c18 c19 h4 M4; obtain ⟨c0, c1, c18, c19⟩ := flds HM.out; obtain ⟨z0, z1, z18, z19⟩ := frees HN.out; obtain ⟨n0, n1, n18, n19⟩ := flds HN.out)
    | ((with_reducible refine ldp isP HM.out ?hx ?_); (case hx => rfl))
    | ((with_reducible refine stp (p := m.p) isP HN.out ?hx ?hy ?_); (case hx => rfl); (case hy => rfl); intro w5 h5 M5; replace HN := Lib.hid h5; replace HR := Lib.hid (M5.other N23.out HR.out); replace HB := Lib.hid (M5.below HB.out L3.out); clear c0 c1 c18 c19 z0 z1 z18 z19 n0 n1 n18 n19 h5 M5)
    | ((with_reducible refine ldm isM HN.out ?hx ?_); (case hx => rfl))
    | ((with_reducible refine stm (m := ⟨m.k, m.c, m.p, Msc.zero, 0, no⟩) isM HR.out ?hx ?hy ?_); (case hx => rfl); (case hy => rfl); intro w6 h6 M6; replace HR := Lib.hid h6; replace HB := Lib.hid (M6.below HB.out L2.out); clear h6 M6))
  exact bodyPost_ret (needed_results _ _ b2 _ _ HR.out rfl) rfl ⟨rfl, HB.out⟩
theorem needed_2 (m : Ms) (hk : m.k = 2) (w : World) :
    Calls Tryd.prog 24 #[mv m] w fun e w' => e = .returned (mv (need m)) ∧ Below w.heap.size w w' := by
  have HE : Hid (need m = ⟨m.k, m.c, Pn.zero, m.s, 0, no⟩) := Lib.hid (by unfold need; rw [hk]; rfl)
  have q1 : ((m.k : Int) == 1) = false := eq_no (n := m.k) (k := 1) (by omega)
  have q2 : ((m.k : Int) == 2) = true := eq_is (n := m.k) (k := 2) (by omega)
  clear hk
  rw [HE.out]
  clear HE
  go_enter Tryd.func24, Tryd.ntmps24
  go_wp2_with (first
    | ((with_reducible refine bxm (m := m) ?hx ?_); (case hx => rfl); intro b1 w1 h1 F1; have HM := Lib.hid h1; have HB := Lib.hid F1.below; clear h1 F1)
    | (have _ := HR; (with_reducible refine alm zeroM ?_); intro b3 w3 h3 F3; have N13 := Lib.hid (F3.ne HM.out); have N23 := Lib.hid (F3.ne HR.out); replace HM := Lib.hid (F3.stays HM.out); replace HR := Lib.hid (F3.stays HR.out); have HN := Lib.hid h3; have L3 := Lib.hid (F3.le HB.out); replace HB := Lib.hid (F3.on HB.out); clear h3 F3)
    | ((with_reducible refine alm zeroM ?_); intro b2 w2 h2 F2; have N12 := Lib.hid (F2.ne HM.out); replace HM := Lib.hid (F2.stays HM.out); have HR := Lib.hid h2; have L2 := Lib.hid (F2.le HB.out); replace HB := Lib.hid (F2.on HB.out); clear h2 F2; obtain ⟨c0, c1, c18, c19⟩ := flds HM.out)
    | ((with_reducible refine bdm ⟨m.k, m.c, Pn.zero, Msc.zero, 0, no⟩ ?hb ?_); (case hb => kernel_rfl))
    | ((with_reducible refine stm (m := ⟨m.k, m.c, Pn.zero, Msc.zero, 0, no⟩) isM HN.out ?hx ?hy ?_); (case hx => rfl); (case hy => rfl); intro w4 h4 M4; replace HN := Lib.hid h4; replace HM := Lib.hid (M4.other N13.out HM.out); replace HR := Lib.hid (M4.other N23.out HR.out); replace HB := Lib.hid (M4.below HB.out L3.out); clear c0 c1 c18 c19 h4 M4; obtain ⟨c0, c1, c18, c19⟩ := flds HM.out; obtain ⟨z0, z1, z18, z19⟩ := frees HN.out; obtain ⟨n0, n1, n18, n19⟩ := flds HN.out)
    | ((with_reducible refine lds isS HM.out ?hx ?_); (case hx => rfl))
    | ((with_reducible refine sts (s := m.s) isS HN.out ?hx ?hy ?_); (case hx => rfl); (case hy => rfl); intro w5 h5 M5; replace HN := Lib.hid h5; replace HR := Lib.hid (M5.other N23.out HR.out); replace HB := Lib.hid (M5.below HB.out L3.out); clear c0 c1 c18 c19 z0 z1 z18 z19 n0 n1 n18 n19 h5 M5)
    | ((with_reducible refine ldm isM HN.out ?hx ?_); (case hx => rfl))
    | ((with_reducible refine stm (m := ⟨m.k, m.c, Pn.zero, m.s, 0, no⟩) isM HR.out ?hx ?hy ?_); (case hx => rfl); (case hy => rfl); intro w6 h6 M6; replace HR := Lib.hid h6; replace HB := Lib.hid (M6.below HB.out L2.out); clear h6 M6))
  exact bodyPost_ret (needed_results _ _ b2 _ _ HR.out rfl) rfl ⟨rfl, HB.out⟩
theorem needed_5 (m : Ms) (hk : m.k = 5) (w : World) :
    Calls Tryd.prog 24 #[mv m] w fun e w' => e = .returned (mv (need m)) ∧ Below w.heap.size w w' := by
  have HE : Hid (need m = ⟨m.k, m.c, Pn.zero, Msc.zero, 0, m.b⟩) := Lib.hid (by unfold need; rw [hk]; rfl)
  have q1 : ((m.k : Int) == 1) = false := eq_no (n := m.k) (k := 1) (by omega)
  have q2 : ((m.k : Int) == 2) = false := eq_no (n := m.k) (k := 2) (by omega)
  have q5 : ((m.k : Int) == 5) = true := eq_is (n := m.k) (k := 5) (by omega)
  clear hk
  rw [HE.out]
  clear HE
  go_enter Tryd.func24, Tryd.ntmps24
  go_wp2_with (first
    | ((with_reducible refine bxm (m := m) ?hx ?_); (case hx => rfl); intro b1 w1 h1 F1; have HM := Lib.hid h1; have HB := Lib.hid F1.below; clear h1 F1)
    | (have _ := HR; (with_reducible refine alm zeroM ?_); intro b3 w3 h3 F3; have N13 := Lib.hid (F3.ne HM.out); have N23 := Lib.hid (F3.ne HR.out); replace HM := Lib.hid (F3.stays HM.out); replace HR := Lib.hid (F3.stays HR.out); have HN := Lib.hid h3; have L3 := Lib.hid (F3.le HB.out); replace HB := Lib.hid (F3.on HB.out); clear h3 F3)
    | ((with_reducible refine alm zeroM ?_); intro b2 w2 h2 F2; have N12 := Lib.hid (F2.ne HM.out); replace HM := Lib.hid (F2.stays HM.out); have HR := Lib.hid h2; have L2 := Lib.hid (F2.le HB.out); replace HB := Lib.hid (F2.on HB.out); clear h2 F2; obtain ⟨c0, c1, c18, c19⟩ := flds HM.out)
    | ((with_reducible refine bdm ⟨m.k, m.c, Pn.zero, Msc.zero, 0, no⟩ ?hb ?_); (case hb => kernel_rfl))
    | ((with_reducible refine stm (m := ⟨m.k, m.c, Pn.zero, Msc.zero, 0, no⟩) isM HN.out ?hx ?hy ?_); (case hx => rfl); (case hy => rfl); intro w4 h4 M4; replace HN := Lib.hid h4; replace HM := Lib.hid (M4.other N13.out HM.out); replace HR := Lib.hid (M4.other N23.out HR.out); replace HB := Lib.hid (M4.below HB.out L3.out); clear c0 c1 c18 c19 h4 M4; obtain ⟨c0, c1, c18, c19⟩ := flds HM.out; obtain ⟨z0, z1, z18, z19⟩ := frees HN.out; obtain ⟨n0, n1, n18, n19⟩ := flds HN.out)
    | ((with_reducible refine ldm isM (set_b HN.out m.b) ?hx ?_); (case hx => rfl))
    | ((with_reducible refine stm (m := ⟨m.k, m.c, Pn.zero, Msc.zero, 0, m.b⟩) isM ((mod_setCell _ _ _ _).other N23.out HR.out) ?hx ?hy ?_); (case hx => rfl); (case hy => rfl); intro w6 h6 M6; replace HR := Lib.hid h6; replace HB := Lib.hid (M6.below ((mod_setCell _ _ _ _).below HB.out L3.out) L2.out); clear h6 M6))
  exact bodyPost_ret (needed_results _ _ b2 _ _ HR.out rfl) rfl ⟨rfl, HB.out⟩
theorem needed_7 (m : Ms) (hk : m.k = 7) (w : World) :
    Calls Tryd.prog 24 #[mv m] w fun e w' => e = .returned (mv (need m)) ∧ Below w.heap.size w w' := by
  have HE : Hid (need m = ⟨m.k, m.c, Pn.zero, Msc.zero, m.t, no⟩) := Lib.hid (by unfold need; rw [hk]; rfl)
  have q1 : ((m.k : Int) == 1) = false := eq_no (n := m.k) (k := 1) (by omega)
  have q2 : ((m.k : Int) == 2) = false := eq_no (n := m.k) (k := 2) (by omega)
  have q5 : ((m.k : Int) == 5) = false := eq_no (n := m.k) (k := 5) (by omega)
  have q7 : ((m.k : Int) == 7) = true := eq_is (n := m.k) (k := 7) (by omega)
  clear hk
  rw [HE.out]
  clear HE
  go_enter Tryd.func24, Tryd.ntmps24
  go_wp2_with (first
    | ((with_reducible refine bxm (m := m) ?hx ?_); (case hx => rfl); intro b1 w1 h1 F1; have HM := Lib.hid h1; have HB := Lib.hid F1.below; clear h1 F1)
    | (have _ := HR; (with_reducible refine alm zeroM ?_); intro b3 w3 h3 F3; have N13 := Lib.hid (F3.ne HM.out); have N23 := Lib.hid (F3.ne HR.out); replace HM := Lib.hid (F3.stays HM.out); replace HR := Lib.hid (F3.stays HR.out); have HN := Lib.hid h3; have L3 := Lib.hid (F3.le HB.out); replace HB := Lib.hid (F3.on HB.out); clear h3 F3)
    | ((with_reducible refine alm zeroM ?_); intro b2 w2 h2 F2; have N12 := Lib.hid (F2.ne HM.out); replace HM := Lib.hid (F2.stays HM.out); have HR := Lib.hid h2; have L2 := Lib.hid (F2.le HB.out); replace HB := Lib.hid (F2.on HB.out); clear h2 F2; obtain ⟨c0, c1, c18, c19⟩ := flds HM.out)
    | ((with_reducible refine bdm ⟨m.k, m.c, Pn.zero, Msc.zero, 0, no⟩ ?hb ?_); (case hb => kernel_rfl))
    | ((with_reducible refine stm (m := ⟨m.k, m.c, Pn.zero, Msc.zero, 0, no⟩) isM HN.out ?hx ?hy ?_); (case hx => rfl); (case hy => rfl); intro w4 h4 M4; replace HN := Lib.hid h4; replace HM := Lib.hid (M4.other N13.out HM.out); replace HR := Lib.hid (M4.other N23.out HR.out); replace HB := Lib.hid (M4.below HB.out L3.out); clear c0 c1 c18 c19 h4 M4; obtain ⟨c0, c1, c18, c19⟩ := flds HM.out; obtain ⟨z0, z1, z18, z19⟩ := frees HN.out; obtain ⟨n0, n1, n18, n19⟩ := flds HN.out)
    | ((with_reducible refine ldm isM (set_t HN.out m.t) ?hx ?_); (case hx => rfl))
    | ((with_reducible refine stm (m := ⟨m.k, m.c, Pn.zero, Msc.zero, m.t, no⟩) isM ((mod_setCell _ _ _ _).other N23.out HR.out) ?hx ?hy ?_); (case hx => rfl); (case hy => rfl); intro w6 h6 M6; replace HR := Lib.hid h6; replace HB := Lib.hid (M6.below ((mod_setCell _ _ _ _).below HB.out L3.out) L2.out); clear h6 M6))
  exact bodyPost_ret (needed_results _ _ b2 _ _ HR.out rfl) rfl ⟨rfl, HB.out⟩
theorem needed_8 (m : Ms) (hk : m.k = 8) (w : World) :
    Calls Tryd.prog 24 #[mv m] w fun e w' => e = .returned (mv (need m)) ∧ Below w.heap.size w w' := by
  have HE : Hid (need m = ⟨m.k, m.c, Pn.zero, Msc.zero, m.t, m.b⟩) := Lib.hid (by unfold need; rw [hk]; rfl)
  have q1 : ((m.k : Int) == 1) = false := eq_no (n := m.k) (k := 1) (by omega)
  have q2 : ((m.k : Int) == 2) = false := eq_no (n := m.k) (k := 2) (by omega)
  have q5 : ((m.k : Int) == 5) = false := eq_no (n := m.k) (k := 5) (by omega)
  have q7 : ((m.k : Int) == 7) = false := eq_no (n := m.k) (k := 7) (by omega)
  have q8 : ((m.k : Int) == 8) = true := eq_is (n := m.k) (k := 8) (by omega)
  clear hk
  rw [HE.out]
  clear HE
  go_enter Tryd.func24, Tryd.ntmps24
  go_wp2_with (first
    | ((with_reducible refine bxm (m := m) ?hx ?_); (case hx => rfl); intro b1 w1 h1 F1; have HM := Lib.hid h1; have HB := Lib.hid F1.below; clear h1 F1)
    | (have _ := HR; (with_reducible refine alm zeroM ?_); intro b3 w3 h3 F3; have N13 := Lib.hid (F3.ne HM.out); have N23 := Lib.hid (F3.ne HR.out); replace HM := Lib.hid (F3.stays HM.out); replace HR := Lib.hid (F3.stays HR.out); have HN := Lib.hid h3; have L3 := Lib.hid (F3.le HB.out); replace HB := Lib.hid (F3.on HB.out); clear h3 F3)
    | ((with_reducible refine alm zeroM ?_); intro b2 w2 h2 F2; have N12 := Lib.hid (F2.ne HM.out); replace HM := Lib.hid (F2.stays HM.out); have HR := Lib.hid h2; have L2 := Lib.hid (F2.le HB.out); replace HB := Lib.hid (F2.on HB.out); clear h2 F2; obtain ⟨c0, c1, c18, c19⟩ := flds HM.out)
    | ((with_reducible refine bdm ⟨m.k, m.c, Pn.zero, Msc.zero, 0, no⟩ ?hb ?_); (case hb => kernel_rfl))
    | ((with_reducible refine stm (m := ⟨m.k, m.c, Pn.zero, Msc.zero, 0, no⟩) isM HN.out ?hx ?hy ?_); (case hx => rfl); (case hy => rfl); intro w4 h4 M4; replace HN := Lib.hid h4; replace HM := Lib.hid (M4.other N13.out HM.out); replace HR := Lib.hid (M4.other N23.out HR.out); replace HB := Lib.hid (M4.below HB.out L3.out); clear c0 c1 c18 c19 h4 M4; obtain ⟨c0, c1, c18, c19⟩ := flds HM.out; obtain ⟨z0, z1, z18, z19⟩ := frees HN.out; obtain ⟨n0, n1, n18, n19⟩ := flds HN.out))
  go_region
  all_goals
    go_wp2_with (first
      | ((with_reducible refine ldm isM (drew_at (set_b (set_t HN.out m.t) m.b)) ?hx ?_); (case hx => rfl))
      | ((with_reducible refine ldm isM (drew_at (set_t (set_b HN.out m.b) m.t)) ?hx ?_); (case hx => rfl))
      | ((with_reducible refine stm (m := ⟨m.k, m.c, Pn.zero, Msc.zero, m.t, m.b⟩) isM ((((mod_setCell _ _ _ _).trans (mod_setCell _ _ _ _)).trans (mod_drew _ _)).other N23.out HR.out) ?hx ?hy ?_); (case hx => rfl); (case hy => rfl); intro w6 h6 M6; replace HR := Lib.hid h6; replace HB := Lib.hid (M6.below ((((mod_setCell _ _ _ _).trans (mod_setCell _ _ _ _)).trans (mod_drew _ _)).below HB.out L3.out) L2.out); clear h6 M6))
    exact bodyPost_ret (needed_results _ _ b2 _ _ HR.out rfl) rfl ⟨rfl, HB.out⟩
theorem needed_0 (m : Ms) (hk : m.k ≠ 1 ∧ m.k ≠ 2 ∧ m.k ≠ 5 ∧ m.k ≠ 7 ∧ m.k ≠ 8) (w : World) :
    Calls Tryd.prog 24 #[mv m] w fun e w' => e = .returned (mv (need m)) ∧ Below w.heap.size w w' := by
  obtain ⟨g1, g2, g5, g7, g8⟩ := hk
  have HE : Hid (need m = ⟨m.k, m.c, Pn.zero, Msc.zero, 0, no⟩) := Lib.hid (by unfold need; rw [if_neg g1, if_neg g2, if_neg (by omega), if_neg (by omega)])
  have q1 : ((m.k : Int) == 1) = false := eq_no (n := m.k) (k := 1) g1
  have q2 : ((m.k : Int) == 2) = false := eq_no (n := m.k) (k := 2) g2
  have q5 : ((m.k : Int) == 5) = false := eq_no (n := m.k) (k := 5) g5
  have q7 : ((m.k : Int) == 7) = false := eq_no (n := m.k) (k := 7) g7
  have q8 : ((m.k : Int) == 8) = false := eq_no (n := m.k) (k := 8) g8
  clear g1 g2 g5 g7 g8
  rw [HE.out]
  clear HE
  go_enter Tryd.func24, Tryd.ntmps24
  go_wp2_with (first
    | ((with_reducible refine bxm (m := m) ?hx ?_); (case hx => rfl); intro b1 w1 h1 F1; have HM := Lib.hid h1; have HB := Lib.hid F1.below; clear h1 F1)
    | (have _ := HR; (with_reducible refine alm zeroM ?_); intro b3 w3 h3 F3; have N13 := Lib.hid (F3.ne HM.out); have N23 := Lib.hid (F3.ne HR.out); replace HM := Lib.hid (F3.stays HM.out); replace HR := Lib.hid (F3.stays HR.out); have HN := Lib.hid h3; have L3 := Lib.hid (F3.le HB.out); replace HB := Lib.hid (F3.on HB.out); clear h3 F3)
    | ((with_reducible refine alm zeroM ?_); intro b2 w2 h2 F2; have N12 := Lib.hid (F2.ne HM.out); replace HM := Lib.hid (F2.stays HM.out); have HR := Lib.hid h2; have L2 := Lib.hid (F2.le HB.out); replace HB := Lib.hid (F2.on HB.out); clear h2 F2; obtain ⟨c0, c1, c18, c19⟩ := flds HM.out)
    | ((with_reducible refine bdm ⟨m.k, m.c, Pn.zero, Msc.zero, 0, no⟩ ?hb ?_); (case hb => kernel_rfl))
    | ((with_reducible refine stm (m := ⟨m.k, m.c, Pn.zero, Msc.zero, 0, no⟩) isM HN.out ?hx ?hy ?_); (case hx => rfl); (case hy => rfl); intro w4 h4 M4; replace HN := Lib.hid h4; replace HM := Lib.hid (M4.other N13.out HM.out); replace HR := Lib.hid (M4.other N23.out HR.out); replace HB := Lib.hid (M4.below HB.out L3.out); clear c0 c1 c18 c19 h4 M4; obtain ⟨c0, c1, c18, c19⟩ := flds HM.out; obtain ⟨z0, z1, z18, z19⟩ := frees HN.out; obtain ⟨n0, n1, n18, n19⟩ := flds HN.out)
    | ((with_reducible refine ldm isM HN.out ?hx ?_); (case hx => rfl))
    | ((with_reducible refine stm (m := ⟨m.k, m.c, Pn.zero, Msc.zero, 0, no⟩) isM HR.out ?hx ?hy ?_); (case hx => rfl); (case hy => rfl); intro w6 h6 M6; replace HR := Lib.hid h6; replace HB := Lib.hid (M6.below HB.out L2.out); clear h6 M6))
  exact bodyPost_ret (needed_results _ _ b2 _ _ HR.out rfl) rfl ⟨rfl, HB.out⟩
theorem fneeded (m : Ms) (w : World) :
    Calls Tryd.prog 24 #[mv m] w fun e w' => e = .returned (mv (need m)) ∧ Below w.heap.size w w' := by
  by_cases h1 : m.k = 1
  · exact needed_1 m h1 w
  by_cases h2 : m.k = 2
  · exact needed_2 m h2 w
  by_cases h5 : m.k = 5
  · exact needed_5 m h5 w
  by_cases h7 : m.k = 7
  · exact needed_7 m h7 w
  by_cases h8 : m.k = 8
  · exact needed_8 m h8 w
  exact needed_0 m ⟨h1, h2, h5, h7, h8⟩ w
end Go.Proofs.YtffahjlboakakaaDoor.Msgs
