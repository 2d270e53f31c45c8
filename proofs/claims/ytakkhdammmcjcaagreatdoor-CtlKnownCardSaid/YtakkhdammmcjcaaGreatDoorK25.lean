/-
  Layer 22, put together: MsgsRead, TlvRef. Conditions: as each theorem names them.
-/
import Derived.Test.YtakkhdammmcjcaaGreatDoorK06
import Derived.Test.YtakkhdammmcjcaaGreatDoorK08
import Derived.Test.YtakkhdammmcjcaaGreatDoorK19
import Derived.Test.YtakkhdammmcjcaaGreatDoorK10
import Derived.Test.YtakkhdammmcjcaaGreatDoorK24
import Derived.Test.YtakkhdammmcjcaaGreatDoorK02
namespace Go.Proofs.YtakkhdammmcjcaaGreatDoor.Msgs
open Go.RowKit Base Mem
set_option maxRecDepth 20000
theorem read_1 (t : Nat) (v : ByteArray) (p : Pn.Pr) (E : Int) (CP : ∀ w, Calls Tryz.prog 107 #[.string v] w fun e w' => e = .returned (.tuple #[Pn.pv p, .int .i64 E]) ∧ Below w.heap.size w w') (CK : ∀ w, Tab w → Calls Tryz.prog 95 #[.int .u8 (t : Int)] w fun e w' => e = .returned (.int .u8 1) ∧ w = w') (w : World) (ht : Tab w) :
 Calls Tryz.prog 84 #[.int .u8 (t : Int), .string v] w fun e w' => e = .returned (.tuple #[mv ⟨1, false, p, Msc.zero, 0, no⟩, .bool (E == 0)]) ∧ Below w.heap.size w w' := by
 have CKh := Lib.hid CK
 have HT := Lib.hid ht
 clear CK ht
 have CPh := Lib.hid CP
 clear CP
 go_enter Tryz.func84, Tryz.ntmps84
 go_wp2_with (first
  | (have _ := HR; (with_reducible refine alm zeroM ?_); intro b3 w3 h3 F3; have N13 := Lib.hid (F3.ne HR.out); replace HR := Lib.hid (F3.stays HR.out); have HN := Lib.hid h3; have L3 := Lib.hid (F3.le HB.out); replace HB := Lib.hid (F3.on HB.out); clear h3 F3)
  | ((with_reducible refine alm zeroM ?_); intro b1 w1 h1 F1; have HR := Lib.hid h1; have L1 := Lib.hid (Nat.le_of_eq F1.eq.symm); have HB := Lib.hid F1.below; clear h1 F1)
  | (go_at_call 95; ((with_reducible refine (CKh.out _ (tab_below HT.out HB.out)).mono ?_); rintro e wq ⟨rfl, rfl⟩; skip))
  | ((with_reducible refine bdm (T := 29) ⟨1, false, Pn.zero, Msc.zero, 0, no⟩ ?hb ?_); (case hb => kernel_rfl))
  | ((with_reducible refine stm (m := ⟨1, false, Pn.zero, Msc.zero, 0, no⟩) isM HN.out ?hx ?hy ?_); (case hx => rfl); (case hy => rfl); intro w4 h4 M4; replace HN := Lib.hid h4; replace HR := Lib.hid (M4.other N13.out HR.out); replace HB := Lib.hid (M4.below HB.out L3.out); clear h4 M4; obtain ⟨n0, n1, n18, n19⟩ := flds HN.out)
  | (go_at_call 107; ((with_reducible refine (CPh.out _).mono ?_); rintro e w5 ⟨rfl, hb⟩; replace HN := Lib.hid (stays HN.out hb); replace HR := Lib.hid (stays HR.out hb); replace HB := Lib.hid (below_on HB.out hb); clear hb n0 n1 n18 n19; obtain ⟨n0, n1, n18, n19⟩ := flds HN.out))
  | ((with_reducible refine stp (p := p) isP HN.out ?hx ?hy ?_); (case hx => rfl); (case hy => rfl); intro w6 h6 M6; replace HN := Lib.hid h6; replace HR := Lib.hid (M6.other N13.out HR.out); replace HB := Lib.hid (M6.below HB.out L3.out); clear n0 n1 n18 n19 h6 M6)
  | ((with_reducible refine ldm isM HN.out ?hx ?_); (case hx => rfl))
  | ((with_reducible refine stm (m := ⟨1, false, p, Msc.zero, 0, no⟩) isM HR.out ?hx ?hy ?_); (case hx => rfl); (case hy => rfl); intro w9 h9 M9; replace HR := Lib.hid h9; replace HB := Lib.hid (M9.below HB.out L1.out); clear h9 M9))
 exact bodyPost_ret (read_results _ _ b1 _ _ _ HR.out rfl rfl) rfl ⟨rfl, HB.out⟩
theorem read_2 (t : Nat) (v : ByteArray) (p : Msc.St) (E : Int) (CP : ∀ w, Calls Tryz.prog 108 #[.string v] w fun e w' => e = .returned (.tuple #[Msc.sv p, .int .i64 E]) ∧ Below w.heap.size w w') (CK : ∀ w, Tab w → Calls Tryz.prog 95 #[.int .u8 (t : Int)] w fun e w' => e = .returned (.int .u8 2) ∧ w = w') (w : World) (ht : Tab w) :
 Calls Tryz.prog 84 #[.int .u8 (t : Int), .string v] w fun e w' => e = .returned (.tuple #[mv ⟨2, false, Pn.zero, p, 0, no⟩, .bool (E == 0)]) ∧ Below w.heap.size w w' := by
 have CKh := Lib.hid CK
 have HT := Lib.hid ht
 clear CK ht
 have CPh := Lib.hid CP
 clear CP
 go_enter Tryz.func84, Tryz.ntmps84
 go_wp2_with (first
  | (have _ := HR; (with_reducible refine alm zeroM ?_); intro b3 w3 h3 F3; have N13 := Lib.hid (F3.ne HR.out); replace HR := Lib.hid (F3.stays HR.out); have HN := Lib.hid h3; have L3 := Lib.hid (F3.le HB.out); replace HB := Lib.hid (F3.on HB.out); clear h3 F3)
  | ((with_reducible refine alm zeroM ?_); intro b1 w1 h1 F1; have HR := Lib.hid h1; have L1 := Lib.hid (Nat.le_of_eq F1.eq.symm); have HB := Lib.hid F1.below; clear h1 F1)
  | (go_at_call 95; ((with_reducible refine (CKh.out _ (tab_below HT.out HB.out)).mono ?_); rintro e wq ⟨rfl, rfl⟩; skip))
  | ((with_reducible refine bdm (T := 29) ⟨2, false, Pn.zero, Msc.zero, 0, no⟩ ?hb ?_); (case hb => kernel_rfl))
  | ((with_reducible refine stm (m := ⟨2, false, Pn.zero, Msc.zero, 0, no⟩) isM HN.out ?hx ?hy ?_); (case hx => rfl); (case hy => rfl); intro w4 h4 M4; replace HN := Lib.hid h4; replace HR := Lib.hid (M4.other N13.out HR.out); replace HB := Lib.hid (M4.below HB.out L3.out); clear h4 M4; obtain ⟨n0, n1, n18, n19⟩ := flds HN.out)
  | (go_at_call 108; ((with_reducible refine (CPh.out _).mono ?_); rintro e w5 ⟨rfl, hb⟩; replace HN := Lib.hid (stays HN.out hb); replace HR := Lib.hid (stays HR.out hb); replace HB := Lib.hid (below_on HB.out hb); clear hb n0 n1 n18 n19; obtain ⟨n0, n1, n18, n19⟩ := flds HN.out))
  | ((with_reducible refine sts (s := p) isS HN.out ?hx ?hy ?_); (case hx => rfl); (case hy => rfl); intro w6 h6 M6; replace HN := Lib.hid h6; replace HR := Lib.hid (M6.other N13.out HR.out); replace HB := Lib.hid (M6.below HB.out L3.out); clear n0 n1 n18 n19 h6 M6)
  | ((with_reducible refine ldm isM HN.out ?hx ?_); (case hx => rfl))
  | ((with_reducible refine stm (m := ⟨2, false, Pn.zero, p, 0, no⟩) isM HR.out ?hx ?hy ?_); (case hx => rfl); (case hy => rfl); intro w9 h9 M9; replace HR := Lib.hid h9; replace HB := Lib.hid (M9.below HB.out L1.out); clear h9 M9))
 exact bodyPost_ret (read_results _ _ b1 _ _ _ HR.out rfl rfl) rfl ⟨rfl, HB.out⟩
theorem read_5 (t : Nat) (v : ByteArray) (CK : ∀ w, Tab w → Calls Tryz.prog 95 #[.int .u8 (t : Int)] w fun e w' => e = .returned (.int .u8 5) ∧ w = w') (w : World) (ht : Tab w) :
 Calls Tryz.prog 84 #[.int .u8 (t : Int), .string v] w fun e w' => e = .returned (.tuple #[mv ⟨5, false, Pn.zero, Msc.zero, 0, v⟩, .bool true]) ∧ Below w.heap.size w w' := by
 have CKh := Lib.hid CK
 have HT := Lib.hid ht
 clear CK ht
 go_enter Tryz.func84, Tryz.ntmps84
 go_wp2_with (first
  | (have _ := HR; (with_reducible refine alm zeroM ?_); intro b3 w3 h3 F3; have N13 := Lib.hid (F3.ne HR.out); replace HR := Lib.hid (F3.stays HR.out); have HN := Lib.hid h3; have L3 := Lib.hid (F3.le HB.out); replace HB := Lib.hid (F3.on HB.out); clear h3 F3)
  | ((with_reducible refine alm zeroM ?_); intro b1 w1 h1 F1; have HR := Lib.hid h1; have L1 := Lib.hid (Nat.le_of_eq F1.eq.symm); have HB := Lib.hid F1.below; clear h1 F1)
  | (go_at_call 95; ((with_reducible refine (CKh.out _ (tab_below HT.out HB.out)).mono ?_); rintro e wq ⟨rfl, rfl⟩; skip))
  | ((with_reducible refine bdm (T := 29) ⟨5, false, Pn.zero, Msc.zero, 0, no⟩ ?hb ?_); (case hb => kernel_rfl))
  | ((with_reducible refine stm (m := ⟨5, false, Pn.zero, Msc.zero, 0, no⟩) isM HN.out ?hx ?hy ?_); (case hx => rfl); (case hy => rfl); intro w4 h4 M4; replace HN := Lib.hid h4; replace HR := Lib.hid (M4.other N13.out HR.out); replace HB := Lib.hid (M4.below HB.out L3.out); clear h4 M4; obtain ⟨n0, n1, n18, n19⟩ := flds HN.out)
  | ((with_reducible refine stb (z := v) HN.out ?hx ?hy ?_); (case hx => rfl); (case hy => rfl); intro w6 h6 M6; replace HN := Lib.hid h6; replace HR := Lib.hid (M6.other N13.out HR.out); replace HB := Lib.hid (M6.below HB.out L3.out); clear n0 n1 n18 n19 h6 M6)
  | ((with_reducible refine ldm isM HN.out ?hx ?_); (case hx => rfl))
  | ((with_reducible refine stm (m := ⟨5, false, Pn.zero, Msc.zero, 0, v⟩) isM HR.out ?hx ?hy ?_); (case hx => rfl); (case hy => rfl); intro w9 h9 M9; replace HR := Lib.hid h9; replace HB := Lib.hid (M9.below HB.out L1.out); clear h9 M9))
 exact bodyPost_ret (read_results _ _ b1 _ _ _ HR.out rfl rfl) rfl ⟨rfl, HB.out⟩
theorem read_7 (t : Nat) (v : ByteArray) (n : Nat) (i0 : ∀ W, (Instr.index 9 (.string v) (.int .i64 0)).run Tryz.prog W = .ok (.int .u8 (n : Int)) W) (hz : ((v.size : Int) != 1) = false) (CK : ∀ w, Tab w → Calls Tryz.prog 95 #[.int .u8 (t : Int)] w fun e w' => e = .returned (.int .u8 7) ∧ w = w') (w : World) (ht : Tab w) :
 Calls Tryz.prog 84 #[.int .u8 (t : Int), .string v] w fun e w' => e = .returned (.tuple #[mv ⟨7, false, Pn.zero, Msc.zero, n, no⟩, .bool true]) ∧ Below w.heap.size w w' := by
 have CKh := Lib.hid CK
 have HT := Lib.hid ht
 clear CK ht
 go_enter Tryz.func84, Tryz.ntmps84
 go_wp2_with (first
  | (have _ := HR; (with_reducible refine alm zeroM ?_); intro b3 w3 h3 F3; have N13 := Lib.hid (F3.ne HR.out); replace HR := Lib.hid (F3.stays HR.out); have HN := Lib.hid h3; have L3 := Lib.hid (F3.le HB.out); replace HB := Lib.hid (F3.on HB.out); clear h3 F3)
  | ((with_reducible refine alm zeroM ?_); intro b1 w1 h1 F1; have HR := Lib.hid h1; have L1 := Lib.hid (Nat.le_of_eq F1.eq.symm); have HB := Lib.hid F1.below; clear h1 F1)
  | (go_at_call 95; ((with_reducible refine (CKh.out _ (tab_below HT.out HB.out)).mono ?_); rintro e wq ⟨rfl, rfl⟩; skip))
  | ((with_reducible refine bdm (T := 29) ⟨7, false, Pn.zero, Msc.zero, 0, no⟩ ?hb ?_); (case hb => kernel_rfl))
  | ((with_reducible refine stm (m := ⟨7, false, Pn.zero, Msc.zero, 0, no⟩) isM HN.out ?hx ?hy ?_); (case hx => rfl); (case hy => rfl); intro w4 h4 M4; replace HN := Lib.hid h4; replace HR := Lib.hid (M4.other N13.out HR.out); replace HB := Lib.hid (M4.below HB.out L3.out); clear h4 M4; obtain ⟨n0, n1, n18, n19⟩ := flds HN.out)
  | ((with_reducible refine stt (z := n) HN.out ?hx ?hy ?_); (case hx => rfl); (case hy => rfl); intro w5 h5 M5; replace HN := Lib.hid h5; replace HR := Lib.hid (M5.other N13.out HR.out); replace HB := Lib.hid (M5.below HB.out L3.out); clear n0 n1 n18 n19 h5 M5; obtain ⟨n0, n1, n18, n19⟩ := flds HN.out)
  | ((with_reducible refine ldm isM HN.out ?hx ?_); (case hx => rfl))
  | ((with_reducible refine stm (m := ⟨7, false, Pn.zero, Msc.zero, n, no⟩) isM HR.out ?hx ?hy ?_); (case hx => rfl); (case hy => rfl); intro w9 h9 M9; replace HR := Lib.hid h9; replace HB := Lib.hid (M9.below HB.out L1.out); clear h9 M9))
 exact bodyPost_ret (read_results _ _ b1 _ _ _ HR.out rfl rfl) rfl ⟨rfl, HB.out⟩
theorem read_7no (t : Nat) (v : ByteArray) (hz : ((v.size : Int) != 1) = true) (CK : ∀ w, Tab w → Calls Tryz.prog 95 #[.int .u8 (t : Int)] w fun e w' => e = .returned (.int .u8 7) ∧ w = w') (w : World) (ht : Tab w) :
 Calls Tryz.prog 84 #[.int .u8 (t : Int), .string v] w fun e w' => e = .returned (.tuple #[mv zero, .bool false]) ∧ Below w.heap.size w w' := by
 have CKh := Lib.hid CK
 have HT := Lib.hid ht
 clear CK ht
 go_enter Tryz.func84, Tryz.ntmps84
 go_wp2_with (first
  | ((with_reducible refine bdm (T := 29) (parts := #[]) zero ?hb ?_); (case hb => kernel_rfl))
  | (have _ := HR; (with_reducible refine alm zeroM ?_); intro b3 w3 h3 F3; have N13 := Lib.hid (F3.ne HR.out); replace HR := Lib.hid (F3.stays HR.out); have HN := Lib.hid h3; have L3 := Lib.hid (F3.le HB.out); replace HB := Lib.hid (F3.on HB.out); clear h3 F3)
  | ((with_reducible refine alm zeroM ?_); intro b1 w1 h1 F1; have HR := Lib.hid h1; have L1 := Lib.hid (Nat.le_of_eq F1.eq.symm); have HB := Lib.hid F1.below; clear h1 F1)
  | (go_at_call 95; ((with_reducible refine (CKh.out _ (tab_below HT.out HB.out)).mono ?_); rintro e wq ⟨rfl, rfl⟩; skip))
  | ((with_reducible refine bdm (T := 29) ⟨7, false, Pn.zero, Msc.zero, 0, no⟩ ?hb ?_); (case hb => kernel_rfl))
  | ((with_reducible refine stm (m := ⟨7, false, Pn.zero, Msc.zero, 0, no⟩) isM HN.out ?hx ?hy ?_); (case hx => rfl); (case hy => rfl); intro w4 h4 M4; replace HN := Lib.hid h4; replace HR := Lib.hid (M4.other N13.out HR.out); replace HB := Lib.hid (M4.below HB.out L3.out); clear h4 M4; obtain ⟨n0, n1, n18, n19⟩ := flds HN.out)
  | ((with_reducible refine stm (m := zero) isM HR.out ?hx ?hy ?_); (case hx => rfl); (case hy => rfl); intro w9 h9 M9; replace HR := Lib.hid h9; replace HB := Lib.hid (M9.below HB.out L1.out); clear h9 M9))
 exact bodyPost_ret (read_results _ _ b1 _ _ _ HR.out rfl rfl) rfl ⟨rfl, HB.out⟩
theorem read_8 (t : Nat) (v : ByteArray) (CK : ∀ w, Tab w → Calls Tryz.prog 95 #[.int .u8 (t : Int)] w fun e w' => e = .returned (.int .u8 8) ∧ w = w') (w : World) (ht : Tab w) :
 Calls Tryz.prog 84 #[.int .u8 (t : Int), .string v] w fun e w' => e = .returned (.tuple #[mv ⟨8, false, Pn.zero, Msc.zero, t, v⟩, .bool true]) ∧ Below w.heap.size w w' := by
 have CKh := Lib.hid CK
 have HT := Lib.hid ht
 clear CK ht
 go_enter Tryz.func84, Tryz.ntmps84
 go_wp2_with (first
  | (have _ := HR; (with_reducible refine alm zeroM ?_); intro b3 w3 h3 F3; have N13 := Lib.hid (F3.ne HR.out); replace HR := Lib.hid (F3.stays HR.out); have HN := Lib.hid h3; have L3 := Lib.hid (F3.le HB.out); replace HB := Lib.hid (F3.on HB.out); clear h3 F3)
  | ((with_reducible refine alm zeroM ?_); intro b1 w1 h1 F1; have HR := Lib.hid h1; have L1 := Lib.hid (Nat.le_of_eq F1.eq.symm); have HB := Lib.hid F1.below; clear h1 F1)
  | (go_at_call 95; ((with_reducible refine (CKh.out _ (tab_below HT.out HB.out)).mono ?_); rintro e wq ⟨rfl, rfl⟩; skip))
  | ((with_reducible refine bdm (T := 29) ⟨8, false, Pn.zero, Msc.zero, 0, no⟩ ?hb ?_); (case hb => kernel_rfl))
  | ((with_reducible refine stm (m := ⟨8, false, Pn.zero, Msc.zero, 0, no⟩) isM HN.out ?hx ?hy ?_); (case hx => rfl); (case hy => rfl); intro w4 h4 M4; replace HN := Lib.hid h4; replace HR := Lib.hid (M4.other N13.out HR.out); replace HB := Lib.hid (M4.below HB.out L3.out); clear h4 M4; obtain ⟨n0, n1, n18, n19⟩ := flds HN.out)
  | ((with_reducible refine stt (z := t) HN.out ?hx ?hy ?_); (case hx => rfl); (case hy => rfl); intro w5 h5 M5; replace HN := Lib.hid h5; replace HR := Lib.hid (M5.other N13.out HR.out); replace HB := Lib.hid (M5.below HB.out L3.out); clear n0 n1 n18 n19 h5 M5; obtain ⟨n0, n1, n18, n19⟩ := flds HN.out)
  | ((with_reducible refine stb (z := v) HN.out ?hx ?hy ?_); (case hx => rfl); (case hy => rfl); intro w6 h6 M6; replace HN := Lib.hid h6; replace HR := Lib.hid (M6.other N13.out HR.out); replace HB := Lib.hid (M6.below HB.out L3.out); clear n0 n1 n18 n19 h6 M6)
  | ((with_reducible refine ldm isM HN.out ?hx ?_); (case hx => rfl))
  | ((with_reducible refine stm (m := ⟨8, false, Pn.zero, Msc.zero, t, v⟩) isM HR.out ?hx ?hy ?_); (case hx => rfl); (case hy => rfl); intro w9 h9 M9; replace HR := Lib.hid h9; replace HB := Lib.hid (M9.below HB.out L1.out); clear h9 M9))
 exact bodyPost_ret (read_results _ _ b1 _ _ _ HR.out rfl rfl) rfl ⟨rfl, HB.out⟩
theorem read_3 (t : Nat) (v : ByteArray) (x : Bool) (hx : v.toList.isEmpty = x) (CK : ∀ w, Tab w → Calls Tryz.prog 95 #[.int .u8 (t : Int)] w fun e w' => e = .returned (.int .u8 3) ∧ w = w') (w : World) (ht : Tab w) :
 Calls Tryz.prog 84 #[.int .u8 (t : Int), .string v] w fun e w' => e = .returned (.tuple #[mv ⟨3, false, Pn.zero, Msc.zero, 0, no⟩, .bool x]) ∧ Below w.heap.size w w' := by
 have CKh := Lib.hid CK
 have HT := Lib.hid ht
 clear CK ht
 go_enter Tryz.func84, Tryz.ntmps84
 go_wp2_with (first
  | (have _ := HR; (with_reducible refine alm zeroM ?_); intro b3 w3 h3 F3; have N13 := Lib.hid (F3.ne HR.out); replace HR := Lib.hid (F3.stays HR.out); have HN := Lib.hid h3; have L3 := Lib.hid (F3.le HB.out); replace HB := Lib.hid (F3.on HB.out); clear h3 F3)
  | ((with_reducible refine alm zeroM ?_); intro b1 w1 h1 F1; have HR := Lib.hid h1; have L1 := Lib.hid (Nat.le_of_eq F1.eq.symm); have HB := Lib.hid F1.below; clear h1 F1)
  | (go_at_call 95; ((with_reducible refine (CKh.out _ (tab_below HT.out HB.out)).mono ?_); rintro e wq ⟨rfl, rfl⟩; skip))
  | ((with_reducible refine bdm (T := 29) ⟨3, false, Pn.zero, Msc.zero, 0, no⟩ ?hb ?_); (case hb => kernel_rfl))
  | ((with_reducible refine stm (m := ⟨3, false, Pn.zero, Msc.zero, 0, no⟩) isM HN.out ?hx ?hy ?_); (case hx => rfl); (case hy => rfl); intro w4 h4 M4; replace HN := Lib.hid h4; replace HR := Lib.hid (M4.other N13.out HR.out); replace HB := Lib.hid (M4.below HB.out L3.out); clear h4 M4; obtain ⟨n0, n1, n18, n19⟩ := flds HN.out)
  | ((with_reducible refine ldm isM HN.out ?hx ?_); (case hx => rfl))
  | ((with_reducible refine stm (m := ⟨3, false, Pn.zero, Msc.zero, 0, no⟩) isM HR.out ?hx ?hy ?_); (case hx => rfl); (case hy => rfl); intro w9 h9 M9; replace HR := Lib.hid h9; replace HB := Lib.hid (M9.below HB.out L1.out); clear h9 M9))
 exact bodyPost_ret (read_results _ _ b1 _ _ _ HR.out rfl rfl) rfl ⟨rfl, HB.out⟩
theorem read_4 (t : Nat) (v : ByteArray) (x : Bool) (hx : v.toList.isEmpty = x) (CK : ∀ w, Tab w → Calls Tryz.prog 95 #[.int .u8 (t : Int)] w fun e w' => e = .returned (.int .u8 4) ∧ w = w') (w : World) (ht : Tab w) :
 Calls Tryz.prog 84 #[.int .u8 (t : Int), .string v] w fun e w' => e = .returned (.tuple #[mv ⟨4, false, Pn.zero, Msc.zero, 0, no⟩, .bool x]) ∧ Below w.heap.size w w' := by
 have CKh := Lib.hid CK
 have HT := Lib.hid ht
 clear CK ht
 go_enter Tryz.func84, Tryz.ntmps84
 go_wp2_with (first
  | (have _ := HR; (with_reducible refine alm zeroM ?_); intro b3 w3 h3 F3; have N13 := Lib.hid (F3.ne HR.out); replace HR := Lib.hid (F3.stays HR.out); have HN := Lib.hid h3; have L3 := Lib.hid (F3.le HB.out); replace HB := Lib.hid (F3.on HB.out); clear h3 F3)
  | ((with_reducible refine alm zeroM ?_); intro b1 w1 h1 F1; have HR := Lib.hid h1; have L1 := Lib.hid (Nat.le_of_eq F1.eq.symm); have HB := Lib.hid F1.below; clear h1 F1)
  | (go_at_call 95; ((with_reducible refine (CKh.out _ (tab_below HT.out HB.out)).mono ?_); rintro e wq ⟨rfl, rfl⟩; skip))
  | ((with_reducible refine bdm (T := 29) ⟨4, false, Pn.zero, Msc.zero, 0, no⟩ ?hb ?_); (case hb => kernel_rfl))
  | ((with_reducible refine stm (m := ⟨4, false, Pn.zero, Msc.zero, 0, no⟩) isM HN.out ?hx ?hy ?_); (case hx => rfl); (case hy => rfl); intro w4 h4 M4; replace HN := Lib.hid h4; replace HR := Lib.hid (M4.other N13.out HR.out); replace HB := Lib.hid (M4.below HB.out L3.out); clear h4 M4; obtain ⟨n0, n1, n18, n19⟩ := flds HN.out)
  | ((with_reducible refine ldm isM HN.out ?hx ?_); (case hx => rfl))
  | ((with_reducible refine stm (m := ⟨4, false, Pn.zero, Msc.zero, 0, no⟩) isM HR.out ?hx ?hy ?_); (case hx => rfl); (case hy => rfl); intro w9 h9 M9; replace HR := Lib.hid h9; replace HB := Lib.hid (M9.below HB.out L1.out); clear h9 M9))
 exact bodyPost_ret (read_results _ _ b1 _ _ _ HR.out rfl rfl) rfl ⟨rfl, HB.out⟩
theorem read_6 (t : Nat) (v : ByteArray) (x : Bool) (hx : v.toList.isEmpty = x) (CK : ∀ w, Tab w → Calls Tryz.prog 95 #[.int .u8 (t : Int)] w fun e w' => e = .returned (.int .u8 6) ∧ w = w') (w : World) (ht : Tab w) :
 Calls Tryz.prog 84 #[.int .u8 (t : Int), .string v] w fun e w' => e = .returned (.tuple #[mv ⟨6, false, Pn.zero, Msc.zero, 0, no⟩, .bool x]) ∧ Below w.heap.size w w' := by
 have CKh := Lib.hid CK
 have HT := Lib.hid ht
 clear CK ht
 go_enter Tryz.func84, Tryz.ntmps84
 go_wp2_with (first
  | (have _ := HR; (with_reducible refine alm zeroM ?_); intro b3 w3 h3 F3; have N13 := Lib.hid (F3.ne HR.out); replace HR := Lib.hid (F3.stays HR.out); have HN := Lib.hid h3; have L3 := Lib.hid (F3.le HB.out); replace HB := Lib.hid (F3.on HB.out); clear h3 F3)
  | ((with_reducible refine alm zeroM ?_); intro b1 w1 h1 F1; have HR := Lib.hid h1; have L1 := Lib.hid (Nat.le_of_eq F1.eq.symm); have HB := Lib.hid F1.below; clear h1 F1)
  | (go_at_call 95; ((with_reducible refine (CKh.out _ (tab_below HT.out HB.out)).mono ?_); rintro e wq ⟨rfl, rfl⟩; skip))
  | ((with_reducible refine bdm (T := 29) ⟨6, false, Pn.zero, Msc.zero, 0, no⟩ ?hb ?_); (case hb => kernel_rfl))
  | ((with_reducible refine stm (m := ⟨6, false, Pn.zero, Msc.zero, 0, no⟩) isM HN.out ?hx ?hy ?_); (case hx => rfl); (case hy => rfl); intro w4 h4 M4; replace HN := Lib.hid h4; replace HR := Lib.hid (M4.other N13.out HR.out); replace HB := Lib.hid (M4.below HB.out L3.out); clear h4 M4; obtain ⟨n0, n1, n18, n19⟩ := flds HN.out)
  | ((with_reducible refine ldm isM HN.out ?hx ?_); (case hx => rfl))
  | ((with_reducible refine stm (m := ⟨6, false, Pn.zero, Msc.zero, 0, no⟩) isM HR.out ?hx ?hy ?_); (case hx => rfl); (case hy => rfl); intro w9 h9 M9; replace HR := Lib.hid h9; replace HB := Lib.hid (M9.below HB.out L1.out); clear h9 M9))
 exact bodyPost_ret (read_results _ _ b1 _ _ _ HR.out rfl rfl) rfl ⟨rfl, HB.out⟩
theorem bne_size {n : Nat} (h : n ≠ 1) : ((n : Int) != 1) = true := bne_true (by omega)
theorem bne_size' {n : Nat} (h : n = 1) : ((n : Int) != 1) = false := bne_false (by omega)
theorem empty_size (v : ByteArray) : v.toList.isEmpty = decide (v.size = 0) := by
 rw [ByteArray.toList_eq, Bool.eq_iff_iff]
 simp only [List.isEmpty_iff_length_eq_zero, decide_eq_true_eq, size_toList]
theorem fread (t : Nat) (v : ByteArray) (htt : t < 256) (w : World) (ht : Tab w) :
 Calls Tryz.prog 84 #[.int .u8 (t : Int), .string v] w fun e w' => e = .returned (.tuple #[mv (rdM t v), .bool (rdOk t v)]) ∧ Below w.heap.size w w' := by
 have CK := fun w (h : Tab w) => fkindOf t w h
 obtain ⟨k1, k2, -⟩ := kOf_is t htt
 unfold rdM rdOk
 have cases8 : kOf t = 1 ∨ kOf t = 2 ∨ kOf t = 5 ∨ kOf t = 7 ∨ kOf t = 8 ∨ kOf t = 3 ∨ kOf t = 4 ∨ kOf t = 6 := by omega
 have hd : ∀ E : Int, (E == 0) = decide (E = 0) := fun E => by rw [Bool.eq_iff_iff]; simp
 rcases cases8 with hk | hk | hk | hk | hk | hk | hk | hk
 · rw [hk] at CK ⊢
   have := read_1 t v _ _ (fun w => Pn.fget v w) CK w ht
   rw [hd] at this
   exact this
 · rw [hk] at CK ⊢
   have := read_2 t v _ _ (fun w => Msc.fget v w) CK w ht
   rw [hd] at this
   exact this
 · rw [hk] at CK ⊢
   exact read_5 t v CK w ht
 · rw [hk] at CK ⊢
   by_cases hs : v.size = 1
   · have := read_7 t v v[0].toNat (fun W => Pn.at_string v 0 (by omega) _ rfl W) (bne_size' hs) CK w ht
     rw [if_neg (by decide), if_neg (by decide), if_neg (by decide), if_pos rfl, dif_pos hs, if_neg (by decide), if_neg (by decide), if_neg (by decide), if_pos rfl, decide_eq_true hs]
     exact this
   · have := read_7no t v (bne_size hs) CK w ht
     rw [if_neg (by decide), if_neg (by decide), if_neg (by decide), if_pos rfl, dif_neg hs, if_neg (by decide), if_neg (by decide), if_neg (by decide), if_pos rfl, decide_eq_false hs]
     exact this
 · rw [hk] at CK ⊢
   exact read_8 t v CK w ht
 · rw [hk] at CK ⊢
   exact read_3 t v _ (empty_size v) CK w ht
 · rw [hk] at CK ⊢
   exact read_4 t v _ (empty_size v) CK w ht
 · rw [hk] at CK ⊢
   exact read_6 t v _ (empty_size v) CK w ht
theorem get_err (s v : ByteArray) (k n : Nat) (c : Bool) (E : Int) (hE : (E != 0) = true) (CG : ∀ w, Calls Tryz.prog 83 #[.string s] w fun e w' => e = .returned (.tuple #[.int .u8 (k : Int), .bool c, .string v, .int .i64 (n : Int), .int .i64 E]) ∧ Below w.heap.size w w') (w : World) :
 Calls Tryz.prog 63 #[.string s] w fun e w' => e = .returned (.tuple #[mv zero, .int .i64 0, .int .i64 E]) ∧ Below w.heap.size w w' := by
 have CGh := Lib.hid CG
 clear CG
 go_enter Tryz.func63, Tryz.ntmps63
 go_wp2_with (first
  | ((with_reducible refine alm zeroM ?_); intro b1 w1 h1 F1; have HR := Lib.hid h1; have L1 := Lib.hid (Nat.le_of_eq F1.eq.symm); have HB := Lib.hid F1.below; clear h1 F1)
  | (go_at_call 83; ((with_reducible refine (CGh.out _).mono ?_); rintro e w2 ⟨rfl, hb⟩; replace HR := Lib.hid (stays HR.out hb); replace HB := Lib.hid (below_on HB.out hb); clear hb))
  | ((with_reducible refine bdm (T := 29) zero ?hb ?_); (case hb => kernel_rfl))
  | ((with_reducible refine stm (m := zero) isM HR.out ?hx ?hy ?_); (case hx => rfl); (case hy => rfl); intro w4 h4 M4; replace HR := Lib.hid h4; replace HB := Lib.hid (M4.below HB.out L1.out); clear h4 M4))
 exact bodyPost_ret (get_results _ _ b1 _ _ _ _ HR.out rfl rfl rfl) rfl ⟨rfl, HB.out⟩
theorem get_not (s v : ByteArray) (k n : Nat) (c : Bool) (m : Ms) (CG : ∀ w, Calls Tryz.prog 83 #[.string s] w fun e w' => e = .returned (.tuple #[.int .u8 (k : Int), .bool c, .string v, .int .i64 (n : Int), .int .i64 0]) ∧ Below w.heap.size w w')
 (CR : ∀ w, Tab w → Calls Tryz.prog 84 #[.int .u8 (k : Int), .string v] w fun e w' => e = .returned (.tuple #[mv m, .bool false]) ∧ Below w.heap.size w w') (w : World) (ht : Tab w) :
 Calls Tryz.prog 63 #[.string s] w fun e w' => e = .returned (.tuple #[mv zero, .int .i64 0, .int .i64 70]) ∧ Below w.heap.size w w' := by
 have CGh := Lib.hid CG
 have CRh := Lib.hid CR
 have HT := Lib.hid ht
 clear CG CR ht
 go_enter Tryz.func63, Tryz.ntmps63
 go_wp2_with (first
  | ((with_reducible refine alm zeroM ?_); intro b1 w1 h1 F1; have HR := Lib.hid h1; have L1 := Lib.hid (Nat.le_of_eq F1.eq.symm); have HB := Lib.hid F1.below; clear h1 F1)
  | (go_at_call 83; ((with_reducible refine (CGh.out _).mono ?_); rintro e w2 ⟨rfl, hb⟩; replace HR := Lib.hid (stays HR.out hb); replace HB := Lib.hid (below_on HB.out hb); clear hb))
  | (go_at_call 84; ((with_reducible refine (CRh.out _ (tab_below HT.out HB.out)).mono ?_); rintro e w3 ⟨rfl, hb⟩; replace HR := Lib.hid (stays HR.out hb); replace HB := Lib.hid (below_on HB.out hb); clear hb))
  | ((with_reducible refine bdm (T := 29) zero ?hb ?_); (case hb => kernel_rfl))
  | ((with_reducible refine stm (m := m) isM HR.out ?hx ?hy ?_); (case hx => rfl); (case hy => rfl); intro w4 h4 M4; replace HR := Lib.hid h4; replace HB := Lib.hid (M4.below HB.out L1.out); clear h4 M4)
  | ((with_reducible refine stm (m := zero) isM HR.out ?hx ?hy ?_); (case hx => rfl); (case hy => rfl); intro w5 h5 M5; replace HR := Lib.hid h5; replace HB := Lib.hid (M5.below HB.out L1.out); clear h5 M5))
 exact bodyPost_ret (get_results _ _ b1 _ _ _ _ HR.out rfl rfl rfl) rfl ⟨rfl, HB.out⟩
theorem get_fine (s v : ByteArray) (k n : Nat) (c : Bool) (m : Ms) (CG : ∀ w, Calls Tryz.prog 83 #[.string s] w fun e w' => e = .returned (.tuple #[.int .u8 (k : Int), .bool c, .string v, .int .i64 (n : Int), .int .i64 0]) ∧ Below w.heap.size w w')
 (CR : ∀ w, Tab w → Calls Tryz.prog 84 #[.int .u8 (k : Int), .string v] w fun e w' => e = .returned (.tuple #[mv m, .bool true]) ∧ Below w.heap.size w w') (w : World) (ht : Tab w) :
 Calls Tryz.prog 63 #[.string s] w fun e w' => e = .returned (.tuple #[mv (m.cmd c), .int .i64 (n : Int), .int .i64 0]) ∧ Below w.heap.size w w' := by
 have CGh := Lib.hid CG
 have CRh := Lib.hid CR
 have HT := Lib.hid ht
 clear CG CR ht
 go_enter Tryz.func63, Tryz.ntmps63
 go_wp2_with (first
  | ((with_reducible refine alm zeroM ?_); intro b1 w1 h1 F1; have HR := Lib.hid h1; have L1 := Lib.hid (Nat.le_of_eq F1.eq.symm); have HB := Lib.hid F1.below; clear h1 F1)
  | (go_at_call 83; ((with_reducible refine (CGh.out _).mono ?_); rintro e w2 ⟨rfl, hb⟩; replace HR := Lib.hid (stays HR.out hb); replace HB := Lib.hid (below_on HB.out hb); clear hb))
  | (go_at_call 84; ((with_reducible refine (CRh.out _ (tab_below HT.out HB.out)).mono ?_); rintro e w3 ⟨rfl, hb⟩; replace HR := Lib.hid (stays HR.out hb); replace HB := Lib.hid (below_on HB.out hb); clear hb))
  | ((with_reducible refine stm (m := m) isM HR.out ?hx ?hy ?_); (case hx => rfl); (case hy => rfl); intro w4 h4 M4; replace HR := Lib.hid h4; replace HB := Lib.hid (M4.below HB.out L1.out); clear h4 M4)
  | ((with_reducible refine stc (z := c) HR.out ?hx ?hy ?_); (case hx => rfl); (case hy => rfl); intro w6 h6 M6; replace HR := Lib.hid h6; replace HB := Lib.hid (M6.below HB.out L1.out); clear h6 M6)
  | ((with_reducible refine ldm isM HR.out ?hx ?_); (case hx => rfl))
  | ((with_reducible refine stm (m := (m.cmd c)) isM HR.out ?hx ?hy ?_); (case hx => rfl); (case hy => rfl); intro w7 h7 M7; replace HR := Lib.hid h7; replace HB := Lib.hid (M7.below HB.out L1.out); clear h7 M7))
 exact bodyPost_ret (get_results _ _ b1 _ _ _ _ HR.out rfl rfl rfl) rfl ⟨rfl, HB.out⟩
theorem fget (s : ByteArray) (hs : s.size ≤ 281474976710656) (w : World) (ht : Tab w) :
 Calls Tryz.prog 63 #[.string s] w fun e w' => e = .returned (.tuple #[mv (got s).m, .int .i64 ((got s).n : Int), .int .i64 ((got s).e : Int)]) ∧ Below w.heap.size w w' := by
 have CG := fun w => Tlv.fget s hs w
 unfold Tlv.gotV at CG
 by_cases h0 : (Tlv.got s).e = 0
 · obtain ⟨q1, _⟩ := Tlv.putE_ok (Tlv.put_got h0).1
   have CR := fun w h => fread (Tlv.got s).k (Tlv.got s).v (by omega) w h
   rw [h0] at CG
   cases h1 : rdOk (Tlv.got s).k (Tlv.got s).v
   · rw [h1] at CR
     rw [got_not h0 h1]
     exact get_not s _ _ _ _ _ CG CR w ht
   · rw [h1] at CR
     rw [got_fine h0 h1]
     exact get_fine s _ _ _ _ _ CG CR w ht
 · rw [got_err h0]
   exact get_err s _ _ _ _ _ (bne_true (by omega)) CG w
end Go.Proofs.YtakkhdammmcjcaaGreatDoor.Msgs
namespace Go.Proofs.YtakkhdammmcjcaaGreatDoor.Tlv
open Go.RowKit Base Ea Mem
/-- What the document's own Get answers. -/
def rgotV (g : Got) : Value := .tuple #[.agg #[.int .u8 (g.k : Int), .bool g.c, .string g.v], .int .i64 (g.n : Int), .int .i64 (g.e : Int)]
abbrev noIt (w : World) : World := w.alloc (.cells #[.int .u8 0, .bool false, .string ⟨#[]⟩] 155)
theorem rget_empty (s : ByteArray) (h0 : s.size = 0) (w : World) :
 Calls Tryz.prog 100 #[.string s] w fun x w' => x = .returned (rgotV (bad 20)) ∧ Below w.heap.size w w' := by
 obtain rfl := nil_of_size h0
 go_enter Tryz.func100, Tryz.ntmps100
 go_wp2
 exact bodyPost_ret (v := rgotV (bad 20)) (by simp [results, Tryz.results100, go_sem, rgotV, bad]) rfl ⟨rfl, (Below.refl _ _).alloc (Nat.le_refl _) _⟩
theorem rget_even (s : ByteArray) (h0 : 0 < s.size) (he : s[0].toNat % 2 = 0) (w : World) :
 Calls Tryz.prog 100 #[.string s] w fun x w' => x = .returned (rgotV (bad 70)) ∧ Below w.heap.size w w' := by
 have hz0 : ¬ s.toList = [] := toList_ne h0
 have hz : s.toList.isEmpty = false := by simpa using hz0
 have hb := oct_lt s[0]
 have hd : (((s[0].toNat : Int) % 2) == 0) = true := by rw [beq_iff_eq]; omega
 clear he
 go_enter Tryz.func100, Tryz.ntmps100
 go_wp2
 exact bodyPost_ret (v := rgotV (bad 70)) (by simp [results, Tryz.results100, go_sem, rgotV, bad]) rfl ⟨rfl, (Below.refl _ _).alloc (Nat.le_refl _) _⟩
theorem rget_results (tmps : Array Value) (W : World) (b : Nat) (k : Int) (c : Bool) (v : ByteArray) (n e : Int) (t : TypeId) (h : W.heap[b]? = some (.cells #[.int .u8 k, .bool c, .string v] t))
 (p2 : tmps[2]?.getD undef = ptr b) (p3 : tmps[3]?.getD undef = .int .i64 n) (p4 : tmps[4]?.getD undef = .int .i64 e) :
 (results Tryz.f100 tmps).run Tryz.prog W = .ok (.tuple #[.agg #[.int .u8 k, .bool c, .string v], .int .i64 n, .int .i64 e]) W := by
 obtain ⟨⟨g0, g1, g2⟩, _⟩ := cells3 h
 simp [results, Tryz.results100, go_sem, p2, p3, p4, g0, g1, g2]
theorem rget_len (s : ByteArray) (hs : s.size ≤ 281474976710656) (h0 : 0 < s.size) (ho : s[0].toNat % 2 = 1) (t : ByteArray) (ht : s.extract 1 s.size = t) (m z x e : Nat) (he : (x = 20 ∧ e = 20) ∨ (x = 0 ∧ e = 70 ∧ z = 2)) (hm : m ≤ 32767)
 (CL : ∀ w, Calls Tryz.prog 115 #[.string t] w fun y w' => y = .returned (.tuple #[.int .i64 (m : Int), .int .i64 (z : Int), .int .i64 (x : Int)]) ∧ Below w.heap.size w w') (w : World) :
 Calls Tryz.prog 100 #[.string s] w fun x w' => x = .returned (rgotV (bad e)) ∧ Below w.heap.size w w' := by
 have hz0 : ¬ s.toList = [] := toList_ne h0
 have hz : s.toList.isEmpty = false := by simpa using hz0
 have hb := oct_lt s[0]
 have hd : (((s[0].toNat : Int) % 2) == 0) = false := by rw [beq_eq_false_iff_ne]; omega
 have HL := Lib.hid CL
 clear CL ho
 rcases he with ⟨rfl, rfl⟩ | ⟨rfl, rfl, rfl⟩
 · go_enter Tryz.func100, Tryz.ntmps100
   go_wp2_with (go_at_call 115; ((with_reducible refine (HL.out _).mono ?_); rintro e w1 ⟨rfl, hb⟩; have HF := Lib.hid (fresh hb); have HB := Lib.hid (on_new (Below.refl _ _) hb); clear hb; obtain ⟨⟨g0, g1, g2⟩, f0, f1, f2⟩ := cells3 HF.out))
   exact bodyPost_ret (rget_results _ _ w.heap.size _ _ _ _ _ _ (set3_at HF.out _ _ _) rfl rfl rfl) rfl ⟨rfl, set3 HB.out (Nat.le_refl _) _ _ _⟩
 · by_cases h127 : 127 < m
   all_goals
    go_enter Tryz.func100, Tryz.ntmps100
    go_wp2_with (go_at_call 115; ((with_reducible refine (HL.out _).mono ?_); rintro e w1 ⟨rfl, hb⟩; have HF := Lib.hid (fresh hb); have HB := Lib.hid (on_new (Below.refl _ _) hb); clear hb; obtain ⟨⟨g0, g1, g2⟩, f0, f1, f2⟩ := cells3 HF.out))
    exact bodyPost_ret (rget_results _ _ w.heap.size _ _ _ _ _ _ (set3_at HF.out _ _ _) rfl rfl rfl) rfl ⟨rfl, set3 HB.out (Nat.le_refl _) _ _ _⟩
theorem rget_near (s : ByteArray) (hs : s.size ≤ 281474976710656) (h0 : 0 < s.size) (ho : s[0].toNat % 2 = 1) (t : ByteArray) (ht : s.extract 1 s.size = t) (m : Nat) (hm : m < 128) (r : ByteArray) (hr : s.extract 2 (2 + m) = r)
 (CL : ∀ w, Calls Tryz.prog 115 #[.string t] w fun y w' => y = .returned (.tuple #[.int .i64 (m : Int), .int .i64 1, .int .i64 0]) ∧ Below w.heap.size w w') (w : World) :
 Calls Tryz.prog 100 #[.string s] w fun x w' => x = .returned (rgotV (if s.size < 2 + m then bad 20 else ⟨s[0].toNat / 4, decide (s[0].toNat / 2 % 2 = 1), r, 2 + m, 0⟩)) ∧ Below w.heap.size w w' := by
 have hz0 : ¬ s.toList = [] := toList_ne h0
 have hz : s.toList.isEmpty = false := by simpa using hz0
 have hb := oct_lt s[0]
 have hd : (((s[0].toNat : Int) % 2) == 0) = false := by rw [beq_eq_false_iff_ne]; omega
 have hd3 : (2 + (m : Int)).toNat = 2 + m := by omega
 have h127 : ¬ 127 < m := by omega
 have HL := Lib.hid CL
 have HN : Hid (((2 + m : Nat) : Int) = 2 + (m : Int)) := Lib.hid (by omega)
 have HC : Hid ((((s[0].toNat : Int) / 2 % 2) == 1) = decide (s[0].toNat / 2 % 2 = 1)) := Lib.hid (by rw [Bool.eq_iff_iff]; simp; omega)
 clear CL ho
 by_cases hzm : s.size < 2 + m
 · rw [if_pos hzm]
   have hd1 : (s.size : Int) < 2 + m := by omega
   go_enter Tryz.func100, Tryz.ntmps100
   go_wp2_with (go_at_call 115; ((with_reducible refine (HL.out _).mono ?_); rintro e w1 ⟨rfl, hb⟩; have HF := Lib.hid (fresh hb); have HB := Lib.hid (on_new (Below.refl _ _) hb); clear hb; obtain ⟨⟨g0, g1, g2⟩, f0, f1, f2⟩ := cells3 HF.out))
   exact bodyPost_ret (rget_results _ _ w.heap.size _ _ _ _ _ _ (set3_at HF.out _ _ _) rfl rfl rfl) rfl ⟨rfl, set3 HB.out (Nat.le_refl _) _ _ _⟩
 · rw [if_neg hzm]
   have hd1 : ¬ (s.size : Int) < 2 + m := by omega
   have h2 : (2 : Int) ≤ 2 + m := by omega
   have h3 : (2 + m : Int) ≤ s.size := by omega
   go_enter Tryz.func100, Tryz.ntmps100
   go_wp2_with (go_at_call 115; ((with_reducible refine (HL.out _).mono ?_); rintro e w1 ⟨rfl, hb⟩; have HF := Lib.hid (fresh hb); have HB := Lib.hid (on_new (Below.refl _ _) hb); clear hb; obtain ⟨⟨g0, g1, g2⟩, f0, f1, f2⟩ := cells3 HF.out))
   refine bodyPost_ret (rget_results _ _ w.heap.size _ _ _ _ _ _ (set3_at HF.out _ _ _) rfl rfl rfl) rfl ⟨?_, set3 HB.out (Nat.le_refl _) _ _ _⟩
   unfold rgotV
   rw [HN.out, ← HC.out]
   rfl
theorem rget (s : ByteArray) (hs : s.size ≤ 281474976710656) (w : World) :
 Calls Tryz.prog 100 #[.string s] w fun x w' => x = .returned (rgotV (got s)) ∧ Below w.heap.size w w' := by
 by_cases h0 : s.size = 0
 · rw [got_nil h0]; exact rget_empty s h0 w
 have h1 : 0 < s.size := by omega
 rcases Nat.mod_two_eq_zero_or_one s[0].toNat with he | ho
 · rw [got_even h1 he]; exact rget_even s h1 he w
 have hts : (s.extract 1 s.size).size ≤ maxLen := by rw [ext_size]; unfold maxLen; omega
 have CT : ∀ (m z x : Nat), tk (s.extract 1 s.size).data.toList = (m, z, x) → ∀ w, Calls Tryz.prog 115 #[.string (s.extract 1 s.size)] w fun y w' => y = .returned (.tuple #[.int .i64 (m : Int), .int .i64 (z : Int), .int .i64 (x : Int)]) ∧ Below w.heap.size w w' := fun m z x h w => by
  have := rtake (s.extract 1 s.size) w hts
  unfold tkN tkZ tkE at this
  rw [h] at this
  exact this.mono fun _ _ ⟨he, n, hw⟩ => ⟨he, hw ▸ below_drewN (Below.refl _ _) n⟩
 rcases got_ways h1 ho _ rfl with ⟨ht, hg⟩ | ⟨m, h2, h3, ht, hl, hz, hg⟩ | ⟨m, h2, h3, ht, hl, hz, hg⟩ | ⟨m, h2, h3, ht, hg⟩ | ⟨m, h2, h3, ht, hg⟩
 · rw [hg]; exact rget_len s hs h1 ho _ rfl 0 0 20 20 (.inl ⟨rfl, rfl⟩) (by decide) (CT _ _ _ ht) w
 · have := rget_near s hs h1 ho _ rfl m h2 _ rfl (CT _ _ _ ht) w
   rw [if_pos hz] at this
   rw [hg]; exact this
 · have := rget_near s hs h1 ho _ rfl m h2 _ rfl (CT _ _ _ ht) w
   rw [if_neg (by omega)] at this
   rw [hg]; exact this
 · rw [hg]; exact rget_len s hs h1 ho _ rfl m 2 0 70 (.inr ⟨rfl, rfl, rfl⟩) (by omega) (CT _ _ _ ht) w
 · rw [hg]; exact rget_len s hs h1 ho _ rfl m 2 0 70 (.inr ⟨rfl, rfl, rfl⟩) h3 (CT _ _ _ ht) w
end Go.Proofs.YtakkhdammmcjcaaGreatDoor.Tlv
