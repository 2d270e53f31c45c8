/-
  Layer 22, put together: MsgsRef. Conditions: as each theorem names them.
-/
import Derived.Test.YtakkhdammmcjcaaGreatDoorK10
namespace Go.Proofs.YtakkhdammmcjcaaGreatDoor.Msgs
open Go.RowKit Base Mem
set_option maxRecDepth 20000
theorem rmay_1_yes (m : Ms) (hk : m.k = 1) (CP : ∀ w, Calls Tryz.prog 73 #[Pn.pv m.p] w fun e w' => e = .returned (.bool true) ∧ Below w.heap.size w w') (y : Bool) (HE : ∀ w, (binOp .eql 79 (mv m) (mv ⟨m.k, m.c, m.p, Msc.zero, 0, no⟩)).run Tryz.prog w = .ok (.bool y) w) (w : World) :
 Calls Tryz.prog 52 #[mv m] w fun e w' => e = .returned (.bool y) ∧ Below w.heap.size w w' := by
 have q1 : ((m.k : Int) == 1) = true := eq_is (n := m.k) (k := 1) (by omega)
 have g1 : decide ((1 : Int) ≤ (m.k : Int)) = true := by simp; omega
 have g8 : decide ((m.k : Int) ≤ 8) = true := by simp; omega
 clear hk
 have CPh := Lib.hid CP
 clear CP
 go_enter Tryz.func52, Tryz.ntmps52
 go_wp2_with (first
  | ((with_reducible refine bxm (m := m) ?hx ?_); (case hx => rfl); intro b1 w1 h1 F1; have HM := Lib.hid h1; have HB := Lib.hid F1.below; obtain ⟨c0, c1, c18, c19⟩ := flds h1; clear h1 F1)
  | ((with_reducible refine alm zeroR ?_); intro b3 w3 h3 F3; have N13 := Lib.hid (F3.ne HM.out); replace HM := Lib.hid (F3.stays HM.out); have HN := Lib.hid h3; have L3 := Lib.hid (F3.le HB.out); replace HB := Lib.hid (F3.on HB.out); clear h3 F3)
  | ((with_reducible refine bdm (T := 79) ⟨m.k, m.c, Pn.zero, Msc.zero, 0, no⟩ ?hb ?_); (case hb => kernel_rfl))
  | ((with_reducible refine stm (m := ⟨m.k, m.c, Pn.zero, Msc.zero, 0, no⟩) isR HN.out ?hx ?hy ?_); (case hx => rfl); (case hy => rfl); intro w4 h4 M4; replace HN := Lib.hid h4; replace HM := Lib.hid (M4.other N13.out HM.out); replace HB := Lib.hid (M4.below HB.out L3.out); clear c0 c1 c18 c19 h4 M4; obtain ⟨c0, c1, c18, c19⟩ := flds HM.out; obtain ⟨z0, z1, z18, z19⟩ := frees HN.out; obtain ⟨n0, n1, n18, n19⟩ := flds HN.out)
  | ((with_reducible refine ldp isPr HM.out ?hx ?_); (case hx => rfl))
  | ((with_reducible refine stp (p := m.p) isPr HN.out ?hx ?hy ?_); (case hx => rfl); (case hy => rfl); intro w5 h5 M5; replace HN := Lib.hid h5; replace HM := Lib.hid (M5.other N13.out HM.out); replace HB := Lib.hid (M5.below HB.out L3.out); clear c0 c1 c18 c19 z0 z1 z18 z19 n0 n1 n18 n19 h5 M5)
  | (go_at_call 73; ((with_reducible refine (CPh.out _).mono ?_); rintro e w6 ⟨rfl, hb⟩; replace HN := Lib.hid (stays HN.out hb); replace HM := Lib.hid (stays HM.out hb); replace HB := Lib.hid (below_on HB.out hb); clear hb))
  | ((with_reducible refine ldmg isR HN.out ?hg ?hx ?_); (case hg => rfl); (case hx => rfl))
  | ((with_reducible refine ldmg isR HM.out ?hg ?hx ?_); (case hg => rfl); (case hx => rfl)))
 go_ret
 exact ⟨rfl, HB.out⟩
theorem rmay_2_yes (m : Ms) (hk : m.k = 2) (S : ByteArray) (E : Int) (hE : (E == 0) = true) (CP : ∀ w, Calls Tryz.prog 74 #[Msc.sv m.s] w fun e w' => e = .returned (.tuple #[.string S, .int .i64 E]) ∧ Below w.heap.size w w') (y : Bool) (HE : ∀ w, (binOp .eql 79 (mv m) (mv ⟨m.k, m.c, Pn.zero, m.s, 0, no⟩)).run Tryz.prog w = .ok (.bool y) w) (w : World) :
 Calls Tryz.prog 52 #[mv m] w fun e w' => e = .returned (.bool y) ∧ Below w.heap.size w w' := by
 have q1 : ((m.k : Int) == 1) = false := eq_no (n := m.k) (k := 1) (by omega)
 have q2 : ((m.k : Int) == 2) = true := eq_is (n := m.k) (k := 2) (by omega)
 have g1 : decide ((1 : Int) ≤ (m.k : Int)) = true := by simp; omega
 have g8 : decide ((m.k : Int) ≤ 8) = true := by simp; omega
 clear hk
 have CPh := Lib.hid CP
 clear CP
 go_enter Tryz.func52, Tryz.ntmps52
 go_wp2_with (first
  | ((with_reducible refine bxm (m := m) ?hx ?_); (case hx => rfl); intro b1 w1 h1 F1; have HM := Lib.hid h1; have HB := Lib.hid F1.below; obtain ⟨c0, c1, c18, c19⟩ := flds h1; clear h1 F1)
  | ((with_reducible refine alm zeroR ?_); intro b3 w3 h3 F3; have N13 := Lib.hid (F3.ne HM.out); replace HM := Lib.hid (F3.stays HM.out); have HN := Lib.hid h3; have L3 := Lib.hid (F3.le HB.out); replace HB := Lib.hid (F3.on HB.out); clear h3 F3)
  | ((with_reducible refine bdm (T := 79) ⟨m.k, m.c, Pn.zero, Msc.zero, 0, no⟩ ?hb ?_); (case hb => kernel_rfl))
  | ((with_reducible refine stm (m := ⟨m.k, m.c, Pn.zero, Msc.zero, 0, no⟩) isR HN.out ?hx ?hy ?_); (case hx => rfl); (case hy => rfl); intro w4 h4 M4; replace HN := Lib.hid h4; replace HM := Lib.hid (M4.other N13.out HM.out); replace HB := Lib.hid (M4.below HB.out L3.out); clear c0 c1 c18 c19 h4 M4; obtain ⟨c0, c1, c18, c19⟩ := flds HM.out; obtain ⟨z0, z1, z18, z19⟩ := frees HN.out; obtain ⟨n0, n1, n18, n19⟩ := flds HN.out)
  | ((with_reducible refine lds isSr HM.out ?hx ?_); (case hx => rfl))
  | ((with_reducible refine sts (s := m.s) isSr HN.out ?hx ?hy ?_); (case hx => rfl); (case hy => rfl); intro w5 h5 M5; replace HN := Lib.hid h5; replace HM := Lib.hid (M5.other N13.out HM.out); replace HB := Lib.hid (M5.below HB.out L3.out); clear c0 c1 c18 c19 z0 z1 z18 z19 n0 n1 n18 n19 h5 M5)
  | (go_at_call 74; ((with_reducible refine (CPh.out _).mono ?_); rintro e w6 ⟨rfl, hb⟩; replace HN := Lib.hid (stays HN.out hb); replace HM := Lib.hid (stays HM.out hb); replace HB := Lib.hid (below_on HB.out hb); clear hb))
  | ((with_reducible refine ldmg isR HN.out ?hg ?hx ?_); (case hg => rfl); (case hx => rfl))
  | ((with_reducible refine ldmg isR HM.out ?hg ?hx ?_); (case hg => rfl); (case hx => rfl)))
 go_ret
 exact ⟨rfl, HB.out⟩
theorem rmay_1_no (m : Ms) (hk : m.k = 1) (CP : ∀ w, Calls Tryz.prog 73 #[Pn.pv m.p] w fun e w' => e = .returned (.bool false) ∧ Below w.heap.size w w') (y : Bool) (_HE : ∀ w, (binOp .eql 79 (mv m) (mv ⟨m.k, m.c, m.p, Msc.zero, 0, no⟩)).run Tryz.prog w = .ok (.bool y) w) (w : World) :
 Calls Tryz.prog 52 #[mv m] w fun e w' => e = .returned (.bool false) ∧ Below w.heap.size w w' := by
 have q1 : ((m.k : Int) == 1) = true := eq_is (n := m.k) (k := 1) (by omega)
 have g1 : decide ((1 : Int) ≤ (m.k : Int)) = true := by simp; omega
 have g8 : decide ((m.k : Int) ≤ 8) = true := by simp; omega
 clear hk
 have CPh := Lib.hid CP
 clear CP
 go_enter Tryz.func52, Tryz.ntmps52
 go_wp2_with (first
  | ((with_reducible refine bxm (m := m) ?hx ?_); (case hx => rfl); intro b1 w1 h1 F1; have HM := Lib.hid h1; have HB := Lib.hid F1.below; obtain ⟨c0, c1, c18, c19⟩ := flds h1; clear h1 F1)
  | ((with_reducible refine alm zeroR ?_); intro b3 w3 h3 F3; have N13 := Lib.hid (F3.ne HM.out); replace HM := Lib.hid (F3.stays HM.out); have HN := Lib.hid h3; have L3 := Lib.hid (F3.le HB.out); replace HB := Lib.hid (F3.on HB.out); clear h3 F3)
  | ((with_reducible refine bdm (T := 79) ⟨m.k, m.c, Pn.zero, Msc.zero, 0, no⟩ ?hb ?_); (case hb => kernel_rfl))
  | ((with_reducible refine stm (m := ⟨m.k, m.c, Pn.zero, Msc.zero, 0, no⟩) isR HN.out ?hx ?hy ?_); (case hx => rfl); (case hy => rfl); intro w4 h4 M4; replace HN := Lib.hid h4; replace HM := Lib.hid (M4.other N13.out HM.out); replace HB := Lib.hid (M4.below HB.out L3.out); clear c0 c1 c18 c19 h4 M4; obtain ⟨c0, c1, c18, c19⟩ := flds HM.out; obtain ⟨z0, z1, z18, z19⟩ := frees HN.out; obtain ⟨n0, n1, n18, n19⟩ := flds HN.out)
  | ((with_reducible refine ldp isPr HM.out ?hx ?_); (case hx => rfl))
  | ((with_reducible refine stp (p := m.p) isPr HN.out ?hx ?hy ?_); (case hx => rfl); (case hy => rfl); intro w5 h5 M5; replace HN := Lib.hid h5; replace HM := Lib.hid (M5.other N13.out HM.out); replace HB := Lib.hid (M5.below HB.out L3.out); clear c0 c1 c18 c19 z0 z1 z18 z19 n0 n1 n18 n19 h5 M5)
  | (go_at_call 73; ((with_reducible refine (CPh.out _).mono ?_); rintro e w6 ⟨rfl, hb⟩; replace HN := Lib.hid (stays HN.out hb); replace HM := Lib.hid (stays HM.out hb); replace HB := Lib.hid (below_on HB.out hb); clear hb)))
 go_ret
 exact ⟨rfl, HB.out⟩
theorem rmay_2_no (m : Ms) (hk : m.k = 2) (S : ByteArray) (E : Int) (hE : (E == 0) = false) (CP : ∀ w, Calls Tryz.prog 74 #[Msc.sv m.s] w fun e w' => e = .returned (.tuple #[.string S, .int .i64 E]) ∧ Below w.heap.size w w') (y : Bool) (_HE : ∀ w, (binOp .eql 79 (mv m) (mv ⟨m.k, m.c, Pn.zero, m.s, 0, no⟩)).run Tryz.prog w = .ok (.bool y) w) (w : World) :
 Calls Tryz.prog 52 #[mv m] w fun e w' => e = .returned (.bool false) ∧ Below w.heap.size w w' := by
 have q1 : ((m.k : Int) == 1) = false := eq_no (n := m.k) (k := 1) (by omega)
 have q2 : ((m.k : Int) == 2) = true := eq_is (n := m.k) (k := 2) (by omega)
 have g1 : decide ((1 : Int) ≤ (m.k : Int)) = true := by simp; omega
 have g8 : decide ((m.k : Int) ≤ 8) = true := by simp; omega
 clear hk
 have CPh := Lib.hid CP
 clear CP
 go_enter Tryz.func52, Tryz.ntmps52
 go_wp2_with (first
  | ((with_reducible refine bxm (m := m) ?hx ?_); (case hx => rfl); intro b1 w1 h1 F1; have HM := Lib.hid h1; have HB := Lib.hid F1.below; obtain ⟨c0, c1, c18, c19⟩ := flds h1; clear h1 F1)
  | ((with_reducible refine alm zeroR ?_); intro b3 w3 h3 F3; have N13 := Lib.hid (F3.ne HM.out); replace HM := Lib.hid (F3.stays HM.out); have HN := Lib.hid h3; have L3 := Lib.hid (F3.le HB.out); replace HB := Lib.hid (F3.on HB.out); clear h3 F3)
  | ((with_reducible refine bdm (T := 79) ⟨m.k, m.c, Pn.zero, Msc.zero, 0, no⟩ ?hb ?_); (case hb => kernel_rfl))
  | ((with_reducible refine stm (m := ⟨m.k, m.c, Pn.zero, Msc.zero, 0, no⟩) isR HN.out ?hx ?hy ?_); (case hx => rfl); (case hy => rfl); intro w4 h4 M4; replace HN := Lib.hid h4; replace HM := Lib.hid (M4.other N13.out HM.out); replace HB := Lib.hid (M4.below HB.out L3.out); clear c0 c1 c18 c19 h4 M4; obtain ⟨c0, c1, c18, c19⟩ := flds HM.out; obtain ⟨z0, z1, z18, z19⟩ := frees HN.out; obtain ⟨n0, n1, n18, n19⟩ := flds HN.out)
  | ((with_reducible refine lds isSr HM.out ?hx ?_); (case hx => rfl))
  | ((with_reducible refine sts (s := m.s) isSr HN.out ?hx ?hy ?_); (case hx => rfl); (case hy => rfl); intro w5 h5 M5; replace HN := Lib.hid h5; replace HM := Lib.hid (M5.other N13.out HM.out); replace HB := Lib.hid (M5.below HB.out L3.out); clear c0 c1 c18 c19 z0 z1 z18 z19 n0 n1 n18 n19 h5 M5)
  | (go_at_call 74; ((with_reducible refine (CPh.out _).mono ?_); rintro e w6 ⟨rfl, hb⟩; replace HN := Lib.hid (stays HN.out hb); replace HM := Lib.hid (stays HM.out hb); replace HB := Lib.hid (below_on HB.out hb); clear hb)))
 go_ret
 exact ⟨rfl, HB.out⟩
theorem rmay_3 (m : Ms) (hk : m.k = 3) (y : Bool) (HE : ∀ w, (binOp .eql 79 (mv m) (mv ⟨m.k, m.c, Pn.zero, Msc.zero, 0, no⟩)).run Tryz.prog w = .ok (.bool y) w) (w : World) :
 Calls Tryz.prog 52 #[mv m] w fun e w' => e = .returned (.bool y) ∧ Below w.heap.size w w' := by
 have q1 : ((m.k : Int) == 1) = false := eq_no (n := m.k) (k := 1) (by omega)
 have q2 : ((m.k : Int) == 2) = false := eq_no (n := m.k) (k := 2) (by omega)
 have q5 : ((m.k : Int) == 5) = false := eq_no (n := m.k) (k := 5) (by omega)
 have q7 : ((m.k : Int) == 7) = false := eq_no (n := m.k) (k := 7) (by omega)
 have q8 : ((m.k : Int) == 8) = false := eq_no (n := m.k) (k := 8) (by omega)
 have g1 : decide ((1 : Int) ≤ (m.k : Int)) = true := by simp; omega
 have g8 : decide ((m.k : Int) ≤ 8) = true := by simp; omega
 clear hk
 go_enter Tryz.func52, Tryz.ntmps52
 go_wp2_with (first
  | ((with_reducible refine bxm (m := m) ?hx ?_); (case hx => rfl); intro b1 w1 h1 F1; have HM := Lib.hid h1; have HB := Lib.hid F1.below; obtain ⟨c0, c1, c18, c19⟩ := flds h1; clear h1 F1)
  | ((with_reducible refine alm zeroR ?_); intro b3 w3 h3 F3; have N13 := Lib.hid (F3.ne HM.out); replace HM := Lib.hid (F3.stays HM.out); have HN := Lib.hid h3; have L3 := Lib.hid (F3.le HB.out); replace HB := Lib.hid (F3.on HB.out); clear h3 F3)
  | ((with_reducible refine bdm (T := 79) ⟨m.k, m.c, Pn.zero, Msc.zero, 0, no⟩ ?hb ?_); (case hb => kernel_rfl))
  | ((with_reducible refine stm (m := ⟨m.k, m.c, Pn.zero, Msc.zero, 0, no⟩) isR HN.out ?hx ?hy ?_); (case hx => rfl); (case hy => rfl); intro w4 h4 M4; replace HN := Lib.hid h4; replace HM := Lib.hid (M4.other N13.out HM.out); replace HB := Lib.hid (M4.below HB.out L3.out); clear c0 c1 c18 c19 h4 M4; obtain ⟨c0, c1, c18, c19⟩ := flds HM.out; obtain ⟨z0, z1, z18, z19⟩ := frees HN.out; obtain ⟨n0, n1, n18, n19⟩ := flds HN.out)
  | ((with_reducible refine ldmg isR HN.out ?hg ?hx ?_); (case hg => rfl); (case hx => rfl))
  | ((with_reducible refine ldmg isR HM.out ?hg ?hx ?_); (case hg => rfl); (case hx => rfl)))
 go_ret
 exact ⟨rfl, HB.out⟩
theorem rmay_4 (m : Ms) (hk : m.k = 4) (y : Bool) (HE : ∀ w, (binOp .eql 79 (mv m) (mv ⟨m.k, m.c, Pn.zero, Msc.zero, 0, no⟩)).run Tryz.prog w = .ok (.bool y) w) (w : World) :
 Calls Tryz.prog 52 #[mv m] w fun e w' => e = .returned (.bool y) ∧ Below w.heap.size w w' := by
 have q1 : ((m.k : Int) == 1) = false := eq_no (n := m.k) (k := 1) (by omega)
 have q2 : ((m.k : Int) == 2) = false := eq_no (n := m.k) (k := 2) (by omega)
 have q5 : ((m.k : Int) == 5) = false := eq_no (n := m.k) (k := 5) (by omega)
 have q7 : ((m.k : Int) == 7) = false := eq_no (n := m.k) (k := 7) (by omega)
 have q8 : ((m.k : Int) == 8) = false := eq_no (n := m.k) (k := 8) (by omega)
 have g1 : decide ((1 : Int) ≤ (m.k : Int)) = true := by simp; omega
 have g8 : decide ((m.k : Int) ≤ 8) = true := by simp; omega
 clear hk
 go_enter Tryz.func52, Tryz.ntmps52
 go_wp2_with (first
  | ((with_reducible refine bxm (m := m) ?hx ?_); (case hx => rfl); intro b1 w1 h1 F1; have HM := Lib.hid h1; have HB := Lib.hid F1.below; obtain ⟨c0, c1, c18, c19⟩ := flds h1; clear h1 F1)
  | ((with_reducible refine alm zeroR ?_); intro b3 w3 h3 F3; have N13 := Lib.hid (F3.ne HM.out); replace HM := Lib.hid (F3.stays HM.out); have HN := Lib.hid h3; have L3 := Lib.hid (F3.le HB.out); replace HB := Lib.hid (F3.on HB.out); clear h3 F3)
  | ((with_reducible refine bdm (T := 79) ⟨m.k, m.c, Pn.zero, Msc.zero, 0, no⟩ ?hb ?_); (case hb => kernel_rfl))
  | ((with_reducible refine stm (m := ⟨m.k, m.c, Pn.zero, Msc.zero, 0, no⟩) isR HN.out ?hx ?hy ?_); (case hx => rfl); (case hy => rfl); intro w4 h4 M4; replace HN := Lib.hid h4; replace HM := Lib.hid (M4.other N13.out HM.out); replace HB := Lib.hid (M4.below HB.out L3.out); clear c0 c1 c18 c19 h4 M4; obtain ⟨c0, c1, c18, c19⟩ := flds HM.out; obtain ⟨z0, z1, z18, z19⟩ := frees HN.out; obtain ⟨n0, n1, n18, n19⟩ := flds HN.out)
  | ((with_reducible refine ldmg isR HN.out ?hg ?hx ?_); (case hg => rfl); (case hx => rfl))
  | ((with_reducible refine ldmg isR HM.out ?hg ?hx ?_); (case hg => rfl); (case hx => rfl)))
 go_ret
 exact ⟨rfl, HB.out⟩
theorem rmay_6 (m : Ms) (hk : m.k = 6) (y : Bool) (HE : ∀ w, (binOp .eql 79 (mv m) (mv ⟨m.k, m.c, Pn.zero, Msc.zero, 0, no⟩)).run Tryz.prog w = .ok (.bool y) w) (w : World) :
 Calls Tryz.prog 52 #[mv m] w fun e w' => e = .returned (.bool y) ∧ Below w.heap.size w w' := by
 have q1 : ((m.k : Int) == 1) = false := eq_no (n := m.k) (k := 1) (by omega)
 have q2 : ((m.k : Int) == 2) = false := eq_no (n := m.k) (k := 2) (by omega)
 have q5 : ((m.k : Int) == 5) = false := eq_no (n := m.k) (k := 5) (by omega)
 have q7 : ((m.k : Int) == 7) = false := eq_no (n := m.k) (k := 7) (by omega)
 have q8 : ((m.k : Int) == 8) = false := eq_no (n := m.k) (k := 8) (by omega)
 have g1 : decide ((1 : Int) ≤ (m.k : Int)) = true := by simp; omega
 have g8 : decide ((m.k : Int) ≤ 8) = true := by simp; omega
 clear hk
 go_enter Tryz.func52, Tryz.ntmps52
 go_wp2_with (first
  | ((with_reducible refine bxm (m := m) ?hx ?_); (case hx => rfl); intro b1 w1 h1 F1; have HM := Lib.hid h1; have HB := Lib.hid F1.below; obtain ⟨c0, c1, c18, c19⟩ := flds h1; clear h1 F1)
  | ((with_reducible refine alm zeroR ?_); intro b3 w3 h3 F3; have N13 := Lib.hid (F3.ne HM.out); replace HM := Lib.hid (F3.stays HM.out); have HN := Lib.hid h3; have L3 := Lib.hid (F3.le HB.out); replace HB := Lib.hid (F3.on HB.out); clear h3 F3)
  | ((with_reducible refine bdm (T := 79) ⟨m.k, m.c, Pn.zero, Msc.zero, 0, no⟩ ?hb ?_); (case hb => kernel_rfl))
  | ((with_reducible refine stm (m := ⟨m.k, m.c, Pn.zero, Msc.zero, 0, no⟩) isR HN.out ?hx ?hy ?_); (case hx => rfl); (case hy => rfl); intro w4 h4 M4; replace HN := Lib.hid h4; replace HM := Lib.hid (M4.other N13.out HM.out); replace HB := Lib.hid (M4.below HB.out L3.out); clear c0 c1 c18 c19 h4 M4; obtain ⟨c0, c1, c18, c19⟩ := flds HM.out; obtain ⟨z0, z1, z18, z19⟩ := frees HN.out; obtain ⟨n0, n1, n18, n19⟩ := flds HN.out)
  | ((with_reducible refine ldmg isR HN.out ?hg ?hx ?_); (case hg => rfl); (case hx => rfl))
  | ((with_reducible refine ldmg isR HM.out ?hg ?hx ?_); (case hg => rfl); (case hx => rfl)))
 go_ret
 exact ⟨rfl, HB.out⟩
theorem rmay_5 (m : Ms) (hk : m.k = 5) (y : Bool) (HE : ∀ w, (binOp .eql 79 (mv m) (mv ⟨m.k, m.c, Pn.zero, Msc.zero, 0, m.b⟩)).run Tryz.prog w = .ok (.bool y) w) (w : World) :
 Calls Tryz.prog 52 #[mv m] w fun e w' => e = .returned (.bool y) ∧ Below w.heap.size w w' := by
 have q1 : ((m.k : Int) == 1) = false := eq_no (n := m.k) (k := 1) (by omega)
 have q2 : ((m.k : Int) == 2) = false := eq_no (n := m.k) (k := 2) (by omega)
 have q5 : ((m.k : Int) == 5) = true := eq_is (n := m.k) (k := 5) (by omega)
 have g1 : decide ((1 : Int) ≤ (m.k : Int)) = true := by simp; omega
 have g8 : decide ((m.k : Int) ≤ 8) = true := by simp; omega
 clear hk
 go_enter Tryz.func52, Tryz.ntmps52
 go_wp2_with (first
  | ((with_reducible refine bxm (m := m) ?hx ?_); (case hx => rfl); intro b1 w1 h1 F1; have HM := Lib.hid h1; have HB := Lib.hid F1.below; obtain ⟨c0, c1, c18, c19⟩ := flds h1; clear h1 F1)
  | ((with_reducible refine alm zeroR ?_); intro b3 w3 h3 F3; have N13 := Lib.hid (F3.ne HM.out); replace HM := Lib.hid (F3.stays HM.out); have HN := Lib.hid h3; have L3 := Lib.hid (F3.le HB.out); replace HB := Lib.hid (F3.on HB.out); clear h3 F3)
  | ((with_reducible refine bdm (T := 79) ⟨m.k, m.c, Pn.zero, Msc.zero, 0, no⟩ ?hb ?_); (case hb => kernel_rfl))
  | ((with_reducible refine stm (m := ⟨m.k, m.c, Pn.zero, Msc.zero, 0, no⟩) isR HN.out ?hx ?hy ?_); (case hx => rfl); (case hy => rfl); intro w4 h4 M4; replace HN := Lib.hid h4; replace HM := Lib.hid (M4.other N13.out HM.out); replace HB := Lib.hid (M4.below HB.out L3.out); clear c0 c1 c18 c19 h4 M4; obtain ⟨c0, c1, c18, c19⟩ := flds HM.out; obtain ⟨z0, z1, z18, z19⟩ := frees HN.out; obtain ⟨n0, n1, n18, n19⟩ := flds HN.out)
  | ((with_reducible refine ldmg isR (set_b HN.out m.b) ?hg ?hx ?_); (case hg => rfl); (case hx => rfl))
  | ((with_reducible refine ldmg isR ((mod_setCell _ _ _ _).other N13.out HM.out) ?hg ?hx ?_); (case hg => rfl); (case hx => rfl)))
 go_ret
 exact ⟨rfl, (mod_setCell _ _ _ _).below HB.out L3.out⟩
theorem rmay_7 (m : Ms) (hk : m.k = 7) (y : Bool) (HE : ∀ w, (binOp .eql 79 (mv m) (mv ⟨m.k, m.c, Pn.zero, Msc.zero, m.t, no⟩)).run Tryz.prog w = .ok (.bool y) w) (w : World) :
 Calls Tryz.prog 52 #[mv m] w fun e w' => e = .returned (.bool y) ∧ Below w.heap.size w w' := by
 have q1 : ((m.k : Int) == 1) = false := eq_no (n := m.k) (k := 1) (by omega)
 have q2 : ((m.k : Int) == 2) = false := eq_no (n := m.k) (k := 2) (by omega)
 have q5 : ((m.k : Int) == 5) = false := eq_no (n := m.k) (k := 5) (by omega)
 have q7 : ((m.k : Int) == 7) = true := eq_is (n := m.k) (k := 7) (by omega)
 have g1 : decide ((1 : Int) ≤ (m.k : Int)) = true := by simp; omega
 have g8 : decide ((m.k : Int) ≤ 8) = true := by simp; omega
 clear hk
 go_enter Tryz.func52, Tryz.ntmps52
 go_wp2_with (first
  | ((with_reducible refine bxm (m := m) ?hx ?_); (case hx => rfl); intro b1 w1 h1 F1; have HM := Lib.hid h1; have HB := Lib.hid F1.below; obtain ⟨c0, c1, c18, c19⟩ := flds h1; clear h1 F1)
  | ((with_reducible refine alm zeroR ?_); intro b3 w3 h3 F3; have N13 := Lib.hid (F3.ne HM.out); replace HM := Lib.hid (F3.stays HM.out); have HN := Lib.hid h3; have L3 := Lib.hid (F3.le HB.out); replace HB := Lib.hid (F3.on HB.out); clear h3 F3)
  | ((with_reducible refine bdm (T := 79) ⟨m.k, m.c, Pn.zero, Msc.zero, 0, no⟩ ?hb ?_); (case hb => kernel_rfl))
  | ((with_reducible refine stm (m := ⟨m.k, m.c, Pn.zero, Msc.zero, 0, no⟩) isR HN.out ?hx ?hy ?_); (case hx => rfl); (case hy => rfl); intro w4 h4 M4; replace HN := Lib.hid h4; replace HM := Lib.hid (M4.other N13.out HM.out); replace HB := Lib.hid (M4.below HB.out L3.out); clear c0 c1 c18 c19 h4 M4; obtain ⟨c0, c1, c18, c19⟩ := flds HM.out; obtain ⟨z0, z1, z18, z19⟩ := frees HN.out; obtain ⟨n0, n1, n18, n19⟩ := flds HN.out)
  | ((with_reducible refine ldmg isR (set_t HN.out m.t) ?hg ?hx ?_); (case hg => rfl); (case hx => rfl))
  | ((with_reducible refine ldmg isR ((mod_setCell _ _ _ _).other N13.out HM.out) ?hg ?hx ?_); (case hg => rfl); (case hx => rfl)))
 go_ret
 exact ⟨rfl, (mod_setCell _ _ _ _).below HB.out L3.out⟩
theorem rmay_8_yes (m : Ms) (hk : m.k = 8) (K : Nat) (h63 : m.t ≤ 63) (hK : ((K : Int) == 8) = true) (CK : ∀ w, Calls Tryz.prog 75 #[.int .u8 (m.t : Int)] w fun e w' => e = .returned (.int .u8 (K : Int)) ∧ Below w.heap.size w w') (y : Bool) (HE : ∀ w, (binOp .eql 79 (mv m) (mv ⟨m.k, m.c, Pn.zero, Msc.zero, m.t, m.b⟩)).run Tryz.prog w = .ok (.bool y) w) (w : World) :
 Calls Tryz.prog 52 #[mv m] w fun e w' => e = .returned (.bool y) ∧ Below w.heap.size w w' := by
 have q1 : ((m.k : Int) == 1) = false := eq_no (n := m.k) (k := 1) (by omega)
 have q2 : ((m.k : Int) == 2) = false := eq_no (n := m.k) (k := 2) (by omega)
 have q5 : ((m.k : Int) == 5) = false := eq_no (n := m.k) (k := 5) (by omega)
 have q7 : ((m.k : Int) == 7) = false := eq_no (n := m.k) (k := 7) (by omega)
 have q8 : ((m.k : Int) == 8) = true := eq_is (n := m.k) (k := 8) (by omega)
 have g1 : decide ((1 : Int) ≤ (m.k : Int)) = true := by simp; omega
 have g8 : decide ((m.k : Int) ≤ 8) = true := by simp; omega
 clear hk
 have CKh := Lib.hid CK
 clear CK
 go_enter Tryz.func52, Tryz.ntmps52
 go_wp2_with (first
  | ((with_reducible refine bxm (m := m) ?hx ?_); (case hx => rfl); intro b1 w1 h1 F1; have HM := Lib.hid h1; have HB := Lib.hid F1.below; obtain ⟨c0, c1, c18, c19⟩ := flds h1; clear h1 F1)
  | ((with_reducible refine alm zeroR ?_); intro b3 w3 h3 F3; have N13 := Lib.hid (F3.ne HM.out); replace HM := Lib.hid (F3.stays HM.out); have HN := Lib.hid h3; have L3 := Lib.hid (F3.le HB.out); replace HB := Lib.hid (F3.on HB.out); clear h3 F3)
  | ((with_reducible refine bdm (T := 79) ⟨m.k, m.c, Pn.zero, Msc.zero, 0, no⟩ ?hb ?_); (case hb => kernel_rfl))
  | ((with_reducible refine stm (m := ⟨m.k, m.c, Pn.zero, Msc.zero, 0, no⟩) isR HN.out ?hx ?hy ?_); (case hx => rfl); (case hy => rfl); intro w4 h4 M4; replace HN := Lib.hid h4; replace HM := Lib.hid (M4.other N13.out HM.out); replace HB := Lib.hid (M4.below HB.out L3.out); clear c0 c1 c18 c19 h4 M4; obtain ⟨c0, c1, c18, c19⟩ := flds HM.out; obtain ⟨z0, z1, z18, z19⟩ := frees HN.out; obtain ⟨n0, n1, n18, n19⟩ := flds HN.out)
  | ((with_reducible refine stt (z := m.t) HN.out ?hx ?hy ?_); (case hx => rfl); (case hy => rfl); intro w5 h5 M5; replace HN := Lib.hid h5; replace HM := Lib.hid (M5.other N13.out HM.out); replace HB := Lib.hid (M5.below HB.out L3.out); clear c0 c1 c18 c19 z0 z1 z18 z19 n0 n1 n18 n19 h5 M5; obtain ⟨c0, c1, c18, c19⟩ := flds HM.out)
  | ((with_reducible refine stb (z := m.b) HN.out ?hx ?hy ?_); (case hx => rfl); (case hy => rfl); intro w6 h6 M6; replace HN := Lib.hid h6; replace HM := Lib.hid (M6.other N13.out HM.out); replace HB := Lib.hid (M6.below HB.out L3.out); clear c0 c1 c18 c19 h6 M6; obtain ⟨c0, c1, c18, c19⟩ := flds HM.out)
  | (go_at_call 75; ((with_reducible refine (CKh.out _).mono ?_); rintro e w7 ⟨rfl, hb⟩; replace HN := Lib.hid (stays HN.out hb); replace HM := Lib.hid (stays HM.out hb); replace HB := Lib.hid (below_on HB.out hb); clear hb))
  | ((with_reducible refine ldmg isR HN.out ?hg ?hx ?_); (case hg => rfl); (case hx => rfl))
  | ((with_reducible refine ldmg isR HM.out ?hg ?hx ?_); (case hg => rfl); (case hx => rfl)))
 go_ret
 exact ⟨rfl, HB.out⟩
theorem rmay_8_no (m : Ms) (hk : m.k = 8) (K : Nat) (h63 : m.t ≤ 63) (hK : ((K : Int) == 8) = false) (CK : ∀ w, Calls Tryz.prog 75 #[.int .u8 (m.t : Int)] w fun e w' => e = .returned (.int .u8 (K : Int)) ∧ Below w.heap.size w w') (y : Bool) (_HE : ∀ w, (binOp .eql 79 (mv m) (mv ⟨m.k, m.c, Pn.zero, Msc.zero, m.t, m.b⟩)).run Tryz.prog w = .ok (.bool y) w) (w : World) :
 Calls Tryz.prog 52 #[mv m] w fun e w' => e = .returned (.bool false) ∧ Below w.heap.size w w' := by
 have q1 : ((m.k : Int) == 1) = false := eq_no (n := m.k) (k := 1) (by omega)
 have q2 : ((m.k : Int) == 2) = false := eq_no (n := m.k) (k := 2) (by omega)
 have q5 : ((m.k : Int) == 5) = false := eq_no (n := m.k) (k := 5) (by omega)
 have q7 : ((m.k : Int) == 7) = false := eq_no (n := m.k) (k := 7) (by omega)
 have q8 : ((m.k : Int) == 8) = true := eq_is (n := m.k) (k := 8) (by omega)
 have g1 : decide ((1 : Int) ≤ (m.k : Int)) = true := by simp; omega
 have g8 : decide ((m.k : Int) ≤ 8) = true := by simp; omega
 clear hk
 have CKh := Lib.hid CK
 clear CK
 go_enter Tryz.func52, Tryz.ntmps52
 go_wp2_with (first
  | ((with_reducible refine bxm (m := m) ?hx ?_); (case hx => rfl); intro b1 w1 h1 F1; have HM := Lib.hid h1; have HB := Lib.hid F1.below; obtain ⟨c0, c1, c18, c19⟩ := flds h1; clear h1 F1)
  | ((with_reducible refine alm zeroR ?_); intro b3 w3 h3 F3; have N13 := Lib.hid (F3.ne HM.out); replace HM := Lib.hid (F3.stays HM.out); have HN := Lib.hid h3; have L3 := Lib.hid (F3.le HB.out); replace HB := Lib.hid (F3.on HB.out); clear h3 F3)
  | ((with_reducible refine bdm (T := 79) ⟨m.k, m.c, Pn.zero, Msc.zero, 0, no⟩ ?hb ?_); (case hb => kernel_rfl))
  | ((with_reducible refine stm (m := ⟨m.k, m.c, Pn.zero, Msc.zero, 0, no⟩) isR HN.out ?hx ?hy ?_); (case hx => rfl); (case hy => rfl); intro w4 h4 M4; replace HN := Lib.hid h4; replace HM := Lib.hid (M4.other N13.out HM.out); replace HB := Lib.hid (M4.below HB.out L3.out); clear c0 c1 c18 c19 h4 M4; obtain ⟨c0, c1, c18, c19⟩ := flds HM.out; obtain ⟨z0, z1, z18, z19⟩ := frees HN.out; obtain ⟨n0, n1, n18, n19⟩ := flds HN.out)
  | ((with_reducible refine stt (z := m.t) HN.out ?hx ?hy ?_); (case hx => rfl); (case hy => rfl); intro w5 h5 M5; replace HN := Lib.hid h5; replace HM := Lib.hid (M5.other N13.out HM.out); replace HB := Lib.hid (M5.below HB.out L3.out); clear c0 c1 c18 c19 z0 z1 z18 z19 n0 n1 n18 n19 h5 M5; obtain ⟨c0, c1, c18, c19⟩ := flds HM.out)
  | ((with_reducible refine stb (z := m.b) HN.out ?hx ?hy ?_); (case hx => rfl); (case hy => rfl); intro w6 h6 M6; replace HN := Lib.hid h6; replace HM := Lib.hid (M6.other N13.out HM.out); replace HB := Lib.hid (M6.below HB.out L3.out); clear c0 c1 c18 c19 h6 M6; obtain ⟨c0, c1, c18, c19⟩ := flds HM.out)
  | (go_at_call 75; ((with_reducible refine (CKh.out _).mono ?_); rintro e w7 ⟨rfl, hb⟩; replace HN := Lib.hid (stays HN.out hb); replace HM := Lib.hid (stays HM.out hb); replace HB := Lib.hid (below_on HB.out hb); clear hb)))
 go_ret
 exact ⟨rfl, HB.out⟩
theorem rmay_8_far (m : Ms) (hk : m.k = 8) (h63 : ¬ m.t ≤ 63) (y : Bool) (_HE : ∀ w, (binOp .eql 79 (mv m) (mv ⟨m.k, m.c, Pn.zero, Msc.zero, m.t, m.b⟩)).run Tryz.prog w = .ok (.bool y) w) (w : World) :
 Calls Tryz.prog 52 #[mv m] w fun e w' => e = .returned (.bool false) ∧ Below w.heap.size w w' := by
 have q1 : ((m.k : Int) == 1) = false := eq_no (n := m.k) (k := 1) (by omega)
 have q2 : ((m.k : Int) == 2) = false := eq_no (n := m.k) (k := 2) (by omega)
 have q5 : ((m.k : Int) == 5) = false := eq_no (n := m.k) (k := 5) (by omega)
 have q7 : ((m.k : Int) == 7) = false := eq_no (n := m.k) (k := 7) (by omega)
 have q8 : ((m.k : Int) == 8) = true := eq_is (n := m.k) (k := 8) (by omega)
 have g1 : decide ((1 : Int) ≤ (m.k : Int)) = true := by simp; omega
 have g8 : decide ((m.k : Int) ≤ 8) = true := by simp; omega
 clear hk
 go_enter Tryz.func52, Tryz.ntmps52
 go_wp2_with (first
  | ((with_reducible refine bxm (m := m) ?hx ?_); (case hx => rfl); intro b1 w1 h1 F1; have HM := Lib.hid h1; have HB := Lib.hid F1.below; obtain ⟨c0, c1, c18, c19⟩ := flds h1; clear h1 F1)
  | ((with_reducible refine alm zeroR ?_); intro b3 w3 h3 F3; have N13 := Lib.hid (F3.ne HM.out); replace HM := Lib.hid (F3.stays HM.out); have HN := Lib.hid h3; have L3 := Lib.hid (F3.le HB.out); replace HB := Lib.hid (F3.on HB.out); clear h3 F3)
  | ((with_reducible refine bdm (T := 79) ⟨m.k, m.c, Pn.zero, Msc.zero, 0, no⟩ ?hb ?_); (case hb => kernel_rfl))
  | ((with_reducible refine stm (m := ⟨m.k, m.c, Pn.zero, Msc.zero, 0, no⟩) isR HN.out ?hx ?hy ?_); (case hx => rfl); (case hy => rfl); intro w4 h4 M4; replace HN := Lib.hid h4; replace HM := Lib.hid (M4.other N13.out HM.out); replace HB := Lib.hid (M4.below HB.out L3.out); clear c0 c1 c18 c19 h4 M4; obtain ⟨c0, c1, c18, c19⟩ := flds HM.out; obtain ⟨z0, z1, z18, z19⟩ := frees HN.out; obtain ⟨n0, n1, n18, n19⟩ := flds HN.out)
  | ((with_reducible refine stt (z := m.t) HN.out ?hx ?hy ?_); (case hx => rfl); (case hy => rfl); intro w5 h5 M5; replace HN := Lib.hid h5; replace HM := Lib.hid (M5.other N13.out HM.out); replace HB := Lib.hid (M5.below HB.out L3.out); clear c0 c1 c18 c19 z0 z1 z18 z19 n0 n1 n18 n19 h5 M5; obtain ⟨c0, c1, c18, c19⟩ := flds HM.out)
  | ((with_reducible refine stb (z := m.b) HN.out ?hx ?hy ?_); (case hx => rfl); (case hy => rfl); intro w6 h6 M6; replace HN := Lib.hid h6; replace HM := Lib.hid (M6.other N13.out HM.out); replace HB := Lib.hid (M6.below HB.out L3.out); clear c0 c1 c18 c19 h6 M6; obtain ⟨c0, c1, c18, c19⟩ := flds HM.out))
 go_ret
 exact ⟨rfl, HB.out⟩
theorem rmay_0 (m : Ms) (hk : m.k = 0) (y : Bool) (_HE : ∀ w, (binOp .eql 79 (mv m) (mv ⟨m.k, m.c, Pn.zero, Msc.zero, 0, no⟩)).run Tryz.prog w = .ok (.bool y) w) (w : World) :
 Calls Tryz.prog 52 #[mv m] w fun e w' => e = .returned (.bool false) ∧ Below w.heap.size w w' := by
 have q1 : ((m.k : Int) == 1) = false := eq_no (n := m.k) (k := 1) (by omega)
 have q2 : ((m.k : Int) == 2) = false := eq_no (n := m.k) (k := 2) (by omega)
 have q5 : ((m.k : Int) == 5) = false := eq_no (n := m.k) (k := 5) (by omega)
 have q7 : ((m.k : Int) == 7) = false := eq_no (n := m.k) (k := 7) (by omega)
 have q8 : ((m.k : Int) == 8) = false := eq_no (n := m.k) (k := 8) (by omega)
 have g1 : decide ((1 : Int) ≤ (m.k : Int)) = false := by simp; omega
 clear hk
 go_enter Tryz.func52, Tryz.ntmps52
 go_wp2_with (first
  | ((with_reducible refine bxm (m := m) ?hx ?_); (case hx => rfl); intro b1 w1 h1 F1; have HM := Lib.hid h1; have HB := Lib.hid F1.below; obtain ⟨c0, c1, c18, c19⟩ := flds h1; clear h1 F1)
  | ((with_reducible refine alm zeroR ?_); intro b3 w3 h3 F3; have N13 := Lib.hid (F3.ne HM.out); replace HM := Lib.hid (F3.stays HM.out); have HN := Lib.hid h3; have L3 := Lib.hid (F3.le HB.out); replace HB := Lib.hid (F3.on HB.out); clear h3 F3)
  | ((with_reducible refine bdm (T := 79) ⟨m.k, m.c, Pn.zero, Msc.zero, 0, no⟩ ?hb ?_); (case hb => kernel_rfl))
  | ((with_reducible refine stm (m := ⟨m.k, m.c, Pn.zero, Msc.zero, 0, no⟩) isR HN.out ?hx ?hy ?_); (case hx => rfl); (case hy => rfl); intro w4 h4 M4; replace HN := Lib.hid h4; replace HM := Lib.hid (M4.other N13.out HM.out); replace HB := Lib.hid (M4.below HB.out L3.out); clear c0 c1 c18 c19 h4 M4; obtain ⟨c0, c1, c18, c19⟩ := flds HM.out; obtain ⟨z0, z1, z18, z19⟩ := frees HN.out; obtain ⟨n0, n1, n18, n19⟩ := flds HN.out))
 go_ret
 exact ⟨rfl, HB.out⟩
theorem rmay_9 (m : Ms) (hk : 8 < m.k) (y : Bool) (_HE : ∀ w, (binOp .eql 79 (mv m) (mv ⟨m.k, m.c, Pn.zero, Msc.zero, 0, no⟩)).run Tryz.prog w = .ok (.bool y) w) (w : World) :
 Calls Tryz.prog 52 #[mv m] w fun e w' => e = .returned (.bool false) ∧ Below w.heap.size w w' := by
 have q1 : ((m.k : Int) == 1) = false := eq_no (n := m.k) (k := 1) (by omega)
 have q2 : ((m.k : Int) == 2) = false := eq_no (n := m.k) (k := 2) (by omega)
 have q5 : ((m.k : Int) == 5) = false := eq_no (n := m.k) (k := 5) (by omega)
 have q7 : ((m.k : Int) == 7) = false := eq_no (n := m.k) (k := 7) (by omega)
 have q8 : ((m.k : Int) == 8) = false := eq_no (n := m.k) (k := 8) (by omega)
 have g1 : decide ((1 : Int) ≤ (m.k : Int)) = true := by simp; omega
 have g8 : decide ((m.k : Int) ≤ 8) = false := by simp; omega
 go_enter Tryz.func52, Tryz.ntmps52
 go_wp2_with (first
  | ((with_reducible refine bxm (m := m) ?hx ?_); (case hx => rfl); intro b1 w1 h1 F1; have HM := Lib.hid h1; have HB := Lib.hid F1.below; obtain ⟨c0, c1, c18, c19⟩ := flds h1; clear h1 F1)
  | ((with_reducible refine alm zeroR ?_); intro b3 w3 h3 F3; have N13 := Lib.hid (F3.ne HM.out); replace HM := Lib.hid (F3.stays HM.out); have HN := Lib.hid h3; have L3 := Lib.hid (F3.le HB.out); replace HB := Lib.hid (F3.on HB.out); clear h3 F3)
  | ((with_reducible refine bdm (T := 79) ⟨m.k, m.c, Pn.zero, Msc.zero, 0, no⟩ ?hb ?_); (case hb => kernel_rfl))
  | ((with_reducible refine stm (m := ⟨m.k, m.c, Pn.zero, Msc.zero, 0, no⟩) isR HN.out ?hx ?hy ?_); (case hx => rfl); (case hy => rfl); intro w4 h4 M4; replace HN := Lib.hid h4; replace HM := Lib.hid (M4.other N13.out HM.out); replace HB := Lib.hid (M4.below HB.out L3.out); clear c0 c1 c18 c19 h4 M4; obtain ⟨c0, c1, c18, c19⟩ := flds HM.out; obtain ⟨z0, z1, z18, z19⟩ := frees HN.out; obtain ⟨n0, n1, n18, n19⟩ := flds HN.out))
 go_ret
 exact ⟨rfl, HB.out⟩
theorem rmay (m : Ms) (hi : m.In) (w : World) :
 Calls Tryz.prog 52 #[mv m] w fun e w' => e = .returned (.bool (may m)) ∧ Below w.heap.size w w' := by
 have HE := run_eqR m (need m)
 unfold may
 by_cases h : 1 ≤ m.k ∧ m.k ≤ 8
 · have h' : m.k = 1 ∨ m.k = 2 ∨ m.k = 3 ∨ m.k = 4 ∨ m.k = 5 ∨ m.k = 6 ∨ m.k = 7 ∨ m.k = 8 := by omega
   rcases h' with h | h | h | h | h | h | h | h
   · have e : need m = ⟨m.k, m.c, m.p, Msc.zero, 0, no⟩ := by unfold need; rw [h]; rfl
     have e2 : vOk m = Pn.may m.p := by unfold vOk; rw [if_pos h]
     rw [e] at HE ⊢
     rw [e2]
     have CP := fun w => Pn.rmay m.p hi.p w
     cases hp : Pn.may m.p
     · rw [hp] at CP; exact rmay_1_no m h CP _ HE w
     · rw [hp] at CP; rw [Bool.true_and]; exact rmay_1_yes m h CP _ HE w
   · have e : need m = ⟨m.k, m.c, Pn.zero, m.s, 0, no⟩ := by unfold need; rw [h]; rfl
     have e2 : vOk m = (Msc.putE m.s == 0) := by unfold vOk; rw [if_neg (by omega), if_pos h]; unfold Msc.putE; cases Msc.may m.s <;> rfl
     rw [e] at HE ⊢
     rw [e2]
     have CP := fun w => Msc.rput m.s hi.s w
     cases hp : (Msc.putE m.s == 0)
     · exact rmay_2_no m h _ _ hp CP _ HE w
     · rw [Bool.true_and]; exact rmay_2_yes m h _ _ hp CP _ HE w
   · have e : need m = ⟨m.k, m.c, Pn.zero, Msc.zero, 0, no⟩ := by unfold need; rw [h]; rfl
     have e2 : vOk m = true := by unfold vOk; rw [h]; rfl
     rw [e] at HE ⊢
     rw [e2, Bool.true_and]; exact rmay_3 m h _ HE w
   · have e : need m = ⟨m.k, m.c, Pn.zero, Msc.zero, 0, no⟩ := by unfold need; rw [h]; rfl
     have e2 : vOk m = true := by unfold vOk; rw [h]; rfl
     rw [e] at HE ⊢
     rw [e2, Bool.true_and]; exact rmay_4 m h _ HE w
   · have e : need m = ⟨m.k, m.c, Pn.zero, Msc.zero, 0, m.b⟩ := by unfold need; rw [h]; rfl
     have e2 : vOk m = true := by unfold vOk; rw [h]; rfl
     rw [e] at HE ⊢
     rw [e2, Bool.true_and]; exact rmay_5 m h _ HE w
   · have e : need m = ⟨m.k, m.c, Pn.zero, Msc.zero, 0, no⟩ := by unfold need; rw [h]; rfl
     have e2 : vOk m = true := by unfold vOk; rw [h]; rfl
     rw [e] at HE ⊢
     rw [e2, Bool.true_and]; exact rmay_6 m h _ HE w
   · have e : need m = ⟨m.k, m.c, Pn.zero, Msc.zero, m.t, no⟩ := by unfold need; rw [h]; rfl
     have e2 : vOk m = true := by unfold vOk; rw [h]; rfl
     rw [e] at HE ⊢
     rw [e2, Bool.true_and]; exact rmay_7 m h _ HE w
   · have e : need m = ⟨m.k, m.c, Pn.zero, Msc.zero, m.t, m.b⟩ := by unfold need; rw [h]; rfl
     have e2 : vOk m = (decide (m.t ≤ 63) && (kOf m.t == 8)) := by unfold vOk; rw [if_neg (by omega), if_neg (by omega), if_pos h]
     rw [e] at HE ⊢
     rw [e2]
     by_cases h63 : m.t ≤ 63
     · rw [decide_eq_true h63, Bool.true_and]
       have CK := fun w => rkindOf m.t w
       by_cases hK : kOf m.t = 8
       · rw [hK, show ((8 : Nat) == 8) = true from rfl, Bool.true_and]; exact rmay_8_yes m h (kOf m.t) h63 (by rw [hK]; rfl) CK _ HE w
       · rw [show (kOf m.t == 8) = false by simpa using hK, Bool.false_and]; exact rmay_8_no m h (kOf m.t) h63 (eq_no hK) CK _ HE w
     · rw [decide_eq_false h63, Bool.false_and, Bool.false_and]; exact rmay_8_far m h h63 _ HE w
 · have e : need m = ⟨m.k, m.c, Pn.zero, Msc.zero, 0, no⟩ := by unfold need; rw [if_neg (by omega), if_neg (by omega), if_neg (by omega), if_neg (by omega)]
   have e2 : vOk m = false := by unfold vOk; rw [if_neg (by omega), if_neg (by omega), if_neg (by omega)]; exact decide_eq_false (by omega)
   rw [e] at HE ⊢
   rw [e2, Bool.false_and]
   by_cases h0 : m.k = 0
   · exact rmay_0 m h0 _ HE w
   · exact rmay_9 m (by omega) _ HE w
end Go.Proofs.YtakkhdammmcjcaaGreatDoor.Msgs
