/-
  What read and Get of layer 10 answer. Conditions: the table of the types lies where the program lays it; a type is an octet; a string is no longer than a machine has room for.
-/
import Derived.Test.YtffahjlboakakaaDoorMsgsArm2
import Derived.Test.YtffahjlboakakaaDoorMsgsNeed
import Derived.Test.YtffahjlboakakaaDoorTlvGet
import Derived.Test.YtffahjlboakakaaDoorPnGet
import Derived.Test.YtffahjlboakakaaDoorMscGet
namespace Go.Proofs.YtffahjlboakakaaDoor.Msgs
open Go.RowKit Go.Proofs.YtffahjlboakakaaDoor.Base Go.Proofs.YtffahjlboakakaaDoor.Mem
set_option maxRecDepth 20000
theorem read_1 (t : Nat) (v : ByteArray) (p : Pn.Pr) (E : Int) (CP : ∀ w, Calls Tryd.prog 49 #[.string v] w fun e w' => e = .returned (.tuple #[Pn.pv p, .int .i64 E]) ∧ Below w.heap.size w w') (CK : ∀ w, Tab w → Calls Tryd.prog 48 #[.int .u8 (t : Int)] w fun e w' => e = .returned (.int .u8 1) ∧ w = w') (w : World) (ht : Tab w) :
    Calls Tryd.prog 29 #[.int .u8 (t : Int), .string v] w fun e w' => e = .returned (.tuple #[mv ⟨1, false, p, Msc.zero, 0, no⟩, .bool (E == 0)]) ∧ Below w.heap.size w w' := by
  have CKh := Lib.hid CK
  have HT := Lib.hid ht
  clear CK ht
  have CPh := Lib.hid CP
  clear CP
  go_enter Tryd.func29, Tryd.ntmps29
  go_wp2_with (first
    | (have _ := HR; (with_reducible refine alm zeroM ?_); intro b3 w3 h3 F3; have N13 := Lib.hid (F3.ne HR.out); replace HR := Lib.hid (F3.stays HR.out); have HN := Lib.hid h3; have L3 := Lib.hid (F3.le HB.out); replace HB := Lib.hid (F3.on HB.out); clear h3 F3)
    | ((with_reducible refine alm zeroM ?_); intro b1 w1 h1 F1; have HR := Lib.hid h1; have L1 := Lib.hid (Nat.le_of_eq F1.eq.symm); have HB := Lib.hid F1.below; clear h1 F1)
    | (go_at_call 48; ((with_reducible refine (CKh.out _ (tab_below HT.out HB.out)).mono ?_); rintro e wq ⟨rfl, rfl⟩; skip))
    | ((with_reducible refine bdm (T := 27) ⟨1, false, Pn.zero, Msc.zero, 0, no⟩ ?hb ?_); (case hb => kernel_rfl))
    | ((with_reducible refine stm (m := ⟨1, false, Pn.zero, Msc.zero, 0, no⟩) isM HN.out ?hx ?hy ?_); (case hx => rfl); (case hy => rfl); intro w4 h4 M4; replace HN := Lib.hid h4; replace HR := Lib.hid (M4.other N13.out HR.out); replace HB := Lib.hid (M4.below HB.out L3.out); clear h4 M4; obtain ⟨n0, n1, n18, n19⟩ := flds HN.out)
    | (go_at_call 49; ((with_reducible refine (CPh.out _).mono ?_); rintro e w5 ⟨rfl, hb⟩; replace HN := Lib.hid (stays HN.out hb); replace HR := Lib.hid (stays HR.out hb); replace HB := Lib.hid (below_on HB.out hb); clear hb n0 n1 n18 n19; obtain ⟨n0, n1, n18, n19⟩ := flds HN.out))
    | ((with_reducible refine stp (p := p) isP HN.out ?hx ?hy ?_); (case hx => rfl); (case hy => rfl); intro w6 h6 M6; replace HN := Lib.hid h6; replace HR := Lib.hid (M6.other N13.out HR.out); replace HB := Lib.hid (M6.below HB.out L3.out); clear n0 n1 n18 n19 h6 M6)
    | ((with_reducible refine ldm isM HN.out ?hx ?_); (case hx => rfl))
    | ((with_reducible refine stm (m := ⟨1, false, p, Msc.zero, 0, no⟩) isM HR.out ?hx ?hy ?_); (case hx => rfl); (case hy => rfl); intro w9 h9 M9; replace HR := Lib.hid h9; replace HB := Lib.hid (M9.below HB.out L1.out); clear h9 M9))
  exact bodyPost_ret (read_results _ _ b1 _ _ _ HR.out rfl rfl) rfl ⟨rfl, HB.out⟩
theorem read_2 (t : Nat) (v : ByteArray) (p : Msc.St) (E : Int) (CP : ∀ w, Calls Tryd.prog 50 #[.string v] w fun e w' => e = .returned (.tuple #[Msc.sv p, .int .i64 E]) ∧ Below w.heap.size w w') (CK : ∀ w, Tab w → Calls Tryd.prog 48 #[.int .u8 (t : Int)] w fun e w' => e = .returned (.int .u8 2) ∧ w = w') (w : World) (ht : Tab w) :
    Calls Tryd.prog 29 #[.int .u8 (t : Int), .string v] w fun e w' => e = .returned (.tuple #[mv ⟨2, false, Pn.zero, p, 0, no⟩, .bool (E == 0)]) ∧ Below w.heap.size w w' := by
  have CKh := Lib.hid CK
  have HT := Lib.hid ht
  clear CK ht
  have CPh := Lib.hid CP
  clear CP
  go_enter Tryd.func29, Tryd.ntmps29
  go_wp2_with (first
    | (have _ := HR; (with_reducible refine alm zeroM ?_); intro b3 w3 h3 F3; have N13 := Lib.hid (F3.ne HR.out); replace HR := Lib.hid (F3.stays HR.out); have HN := Lib.hid h3; have L3 := Lib.hid (F3.le HB.out); replace HB := Lib.hid (F3.on HB.out); clear h3 F3)
    | ((with_reducible refine alm zeroM ?_); intro b1 w1 h1 F1; have HR := Lib.hid h1; have L1 := Lib.hid (Nat.le_of_eq F1.eq.symm); have HB := Lib.hid F1.below; clear h1 F1)
    | (go_at_call 48; ((with_reducible refine (CKh.out _ (tab_below HT.out HB.out)).mono ?_); rintro e wq ⟨rfl, rfl⟩; skip))
    | ((with_reducible refine bdm (T := 27) ⟨2, false, Pn.zero, Msc.zero, 0, no⟩ ?hb ?_); (case hb => kernel_rfl))
    | ((with_reducible refine stm (m := ⟨2, false, Pn.zero, Msc.zero, 0, no⟩) isM HN.out ?hx ?hy ?_); (case hx => rfl); (case hy => rfl); intro w4 h4 M4; replace HN := Lib.hid h4; replace HR := Lib.hid (M4.other N13.out HR.out); replace HB := Lib.hid (M4.below HB.out L3.out); clear h4 M4; obtain ⟨n0, n1, n18, n19⟩ := flds HN.out)
    | (go_at_call 50; ((with_reducible refine (CPh.out _).mono ?_); rintro e w5 ⟨rfl, hb⟩; replace HN := Lib.hid (stays HN.out hb); replace HR := Lib.hid (stays HR.out hb); replace HB := Lib.hid (below_on HB.out hb); clear hb n0 n1 n18 n19; obtain ⟨n0, n1, n18, n19⟩ := flds HN.out))
    | ((with_reducible refine sts (s := p) isS HN.out ?hx ?hy ?_); (case hx => rfl); (case hy => rfl); intro w6 h6 M6; replace HN := Lib.hid h6; replace HR := Lib.hid (M6.other N13.out HR.out); replace HB := Lib.hid (M6.below HB.out L3.out); clear n0 n1 n18 n19 h6 M6)
    | ((with_reducible refine ldm isM HN.out ?hx ?_); (case hx => rfl))
    | ((with_reducible refine stm (m := ⟨2, false, Pn.zero, p, 0, no⟩) isM HR.out ?hx ?hy ?_); (case hx => rfl); (case hy => rfl); intro w9 h9 M9; replace HR := Lib.hid h9; replace HB := Lib.hid (M9.below HB.out L1.out); clear h9 M9))
  exact bodyPost_ret (read_results _ _ b1 _ _ _ HR.out rfl rfl) rfl ⟨rfl, HB.out⟩
theorem read_5 (t : Nat) (v : ByteArray) (CK : ∀ w, Tab w → Calls Tryd.prog 48 #[.int .u8 (t : Int)] w fun e w' => e = .returned (.int .u8 5) ∧ w = w') (w : World) (ht : Tab w) :
    Calls Tryd.prog 29 #[.int .u8 (t : Int), .string v] w fun e w' => e = .returned (.tuple #[mv ⟨5, false, Pn.zero, Msc.zero, 0, v⟩, .bool true]) ∧ Below w.heap.size w w' := by
  have CKh := Lib.hid CK
  have HT := Lib.hid ht
  clear CK ht
  go_enter Tryd.func29, Tryd.ntmps29
  go_wp2_with (first
    | (have _ := HR; (with_reducible refine alm zeroM ?_); intro b3 w3 h3 F3; have N13 := Lib.hid (F3.ne HR.out); replace HR := Lib.hid (F3.stays HR.out); have HN := Lib.hid h3; have L3 := Lib.hid (F3.le HB.out); replace HB := Lib.hid (F3.on HB.out); clear h3 F3)
    | ((with_reducible refine alm zeroM ?_); intro b1 w1 h1 F1; have HR := Lib.hid h1; have L1 := Lib.hid (Nat.le_of_eq F1.eq.symm); have HB := Lib.hid F1.below; clear h1 F1)
    | (go_at_call 48; ((with_reducible refine (CKh.out _ (tab_below HT.out HB.out)).mono ?_); rintro e wq ⟨rfl, rfl⟩; skip))
    | ((with_reducible refine bdm (T := 27) ⟨5, false, Pn.zero, Msc.zero, 0, no⟩ ?hb ?_); (case hb => kernel_rfl))
    | ((with_reducible refine stm (m := ⟨5, false, Pn.zero, Msc.zero, 0, no⟩) isM HN.out ?hx ?hy ?_); (case hx => rfl); (case hy => rfl); intro w4 h4 M4; replace HN := Lib.hid h4; replace HR := Lib.hid (M4.other N13.out HR.out); replace HB := Lib.hid (M4.below HB.out L3.out); clear h4 M4; obtain ⟨n0, n1, n18, n19⟩ := flds HN.out)
    | ((with_reducible refine stb (z := v) HN.out ?hx ?hy ?_); (case hx => rfl); (case hy => rfl); intro w6 h6 M6; replace HN := Lib.hid h6; replace HR := Lib.hid (M6.other N13.out HR.out); replace HB := Lib.hid (M6.below HB.out L3.out); clear n0 n1 n18 n19 h6 M6)
    | ((with_reducible refine ldm isM HN.out ?hx ?_); (case hx => rfl))
    | ((with_reducible refine stm (m := ⟨5, false, Pn.zero, Msc.zero, 0, v⟩) isM HR.out ?hx ?hy ?_); (case hx => rfl); (case hy => rfl); intro w9 h9 M9; replace HR := Lib.hid h9; replace HB := Lib.hid (M9.below HB.out L1.out); clear h9 M9))
  exact bodyPost_ret (read_results _ _ b1 _ _ _ HR.out rfl rfl) rfl ⟨rfl, HB.out⟩
theorem read_7 (t : Nat) (v : ByteArray) (n : Nat) (i0 : ∀ W, (Instr.index 9 (.string v) (.int .i64 0)).run Tryd.prog W = .ok (.int .u8 (n : Int)) W) (hz : ((v.size : Int) != 1) = false) (CK : ∀ w, Tab w → Calls Tryd.prog 48 #[.int .u8 (t : Int)] w fun e w' => e = .returned (.int .u8 7) ∧ w = w') (w : World) (ht : Tab w) :
    Calls Tryd.prog 29 #[.int .u8 (t : Int), .string v] w fun e w' => e = .returned (.tuple #[mv ⟨7, false, Pn.zero, Msc.zero, n, no⟩, .bool true]) ∧ Below w.heap.size w w' := by
  have CKh := Lib.hid CK
  have HT := Lib.hid ht
  clear CK ht
  go_enter Tryd.func29, Tryd.ntmps29
  go_wp2_with (first
    | (have _ := HR; (with_reducible refine alm zeroM ?_); intro b3 w3 h3 F3; have N13 := Lib.hid (F3.ne HR.out); replace HR := Lib.hid (F3.stays HR.out); have HN := Lib.hid h3; have L3 := Lib.hid (F3.le HB.out); replace HB := Lib.hid (F3.on HB.out); clear h3 F3)
    | ((with_reducible refine alm zeroM ?_); intro b1 w1 h1 F1; have HR := Lib.hid h1; have L1 := Lib.hid (Nat.le_of_eq F1.eq.symm); have HB := Lib.hid F1.below; clear h1 F1)
    | (go_at_call 48; ((with_reducible refine (CKh.out _ (tab_below HT.out HB.out)).mono ?_); rintro e wq ⟨rfl, rfl⟩; skip))
    | ((with_reducible refine bdm (T := 27) ⟨7, false, Pn.zero, Msc.zero, 0, no⟩ ?hb ?_); (case hb => kernel_rfl))
    | ((with_reducible refine stm (m := ⟨7, false, Pn.zero, Msc.zero, 0, no⟩) isM HN.out ?hx ?hy ?_); (case hx => rfl); (case hy => rfl); intro w4 h4 M4; replace HN := Lib.hid h4; replace HR := Lib.hid (M4.other N13.out HR.out); replace HB := Lib.hid (M4.below HB.out L3.out); clear h4 M4; obtain ⟨n0, n1, n18, n19⟩ := flds HN.out)
    | ((with_reducible refine stt (z := n) HN.out ?hx ?hy ?_); (case hx => rfl); (case hy => rfl); intro w5 h5 M5; replace HN := Lib.hid h5; replace HR := Lib.hid (M5.other N13.out HR.out); replace HB := Lib.hid (M5.below HB.out L3.out); clear n0 n1 n18 n19 h5 M5; obtain ⟨n0, n1, n18, n19⟩ := flds HN.out)
    | ((with_reducible refine ldm isM HN.out ?hx ?_); (case hx => rfl))
    | ((with_reducible refine stm (m := ⟨7, false, Pn.zero, Msc.zero, n, no⟩) isM HR.out ?hx ?hy ?_); (case hx => rfl); (case hy => rfl); intro w9 h9 M9; replace HR := Lib.hid h9; replace HB := Lib.hid (M9.below HB.out L1.out); clear h9 M9))
  exact bodyPost_ret (read_results _ _ b1 _ _ _ HR.out rfl rfl) rfl ⟨rfl, HB.out⟩
theorem read_7no (t : Nat) (v : ByteArray) (hz : ((v.size : Int) != 1) = true) (CK : ∀ w, Tab w → Calls Tryd.prog 48 #[.int .u8 (t : Int)] w fun e w' => e = .returned (.int .u8 7) ∧ w = w') (w : World) (ht : Tab w) :
    Calls Tryd.prog 29 #[.int .u8 (t : Int), .string v] w fun e w' => e = .returned (.tuple #[mv zero, .bool false]) ∧ Below w.heap.size w w' := by
  have CKh := Lib.hid CK
  have HT := Lib.hid ht
  clear CK ht
  go_enter Tryd.func29, Tryd.ntmps29
  go_wp2_with (first
    | ((with_reducible refine bdm (T := 27) (parts := #[]) zero ?hb ?_); (case hb => kernel_rfl))
    | (have _ := HR; (with_reducible refine alm zeroM ?_); intro b3 w3 h3 F3; have N13 := Lib.hid (F3.ne HR.out); replace HR := Lib.hid (F3.stays HR.out); have HN := Lib.hid h3; have L3 := Lib.hid (F3.le HB.out); replace HB := Lib.hid (F3.on HB.out); clear h3 F3)
    | ((with_reducible refine alm zeroM ?_); intro b1 w1 h1 F1; have HR := Lib.hid h1; have L1 := Lib.hid (Nat.le_of_eq F1.eq.symm); have HB := Lib.hid F1.below; clear h1 F1)
    | (go_at_call 48; ((with_reducible refine (CKh.out _ (tab_below HT.out HB.out)).mono ?_); rintro e wq ⟨rfl, rfl⟩; skip))
    | ((with_reducible refine bdm (T := 27) ⟨7, false, Pn.zero, Msc.zero, 0, no⟩ ?hb ?_); (case hb => kernel_rfl))
    | ((with_reducible refine stm (m := ⟨7, false, Pn.zero, Msc.zero, 0, no⟩) isM HN.out ?hx ?hy ?_); (case hx => rfl); (case hy => rfl); intro w4 h4 M4; replace HN := Lib.hid h4; replace HR := Lib.hid (M4.other N13.out HR.out); replace HB := Lib.hid (M4.below HB.out L3.out); clear h4 M4; obtain ⟨n0, n1, n18, n19⟩ := flds HN.out)
    | ((with_reducible refine stm (m := zero) isM HR.out ?hx ?hy ?_); (case hx => rfl); (case hy => rfl); intro w9 h9 M9; replace HR := Lib.hid h9; replace HB := Lib.hid (M9.below HB.out L1.out); clear h9 M9))
  exact bodyPost_ret (read_results _ _ b1 _ _ _ HR.out rfl rfl) rfl ⟨rfl, HB.out⟩
theorem read_8 (t : Nat) (v : ByteArray) (CK : ∀ w, Tab w → Calls Tryd.prog 48 #[.int .u8 (t : Int)] w fun e w' => e = .returned (.int .u8 8) ∧ w = w') (w : World) (ht : Tab w) :
    Calls Tryd.prog 29 #[.int .u8 (t : Int), .string v] w fun e w' => e = .returned (.tuple #[mv ⟨8, false, Pn.zero, Msc.zero, t, v⟩, .bool true]) ∧ Below w.heap.size w w' := by
  have CKh := Lib.hid CK
  have HT := Lib.hid ht
  clear CK ht
  go_enter Tryd.func29, Tryd.ntmps29
  go_wp2_with (first
    | (have _ := HR; (with_reducible refine alm zeroM ?_); intro b3 w3 h3 F3; have N13 := Lib.hid (F3.ne HR.out); replace HR := Lib.hid (F3.stays HR.out); have HN := Lib.hid h3; have L3 := Lib.hid (F3.le HB.out); replace HB := Lib.hid (F3.on HB.out); clear h3 F3)
    | ((with_reducible refine alm zeroM ?_); intro b1 w1 h1 F1; have HR := Lib.hid h1; have L1 := Lib.hid (Nat.le_of_eq F1.eq.symm); have HB := Lib.hid F1.below; clear h1 F1)
    | (go_at_call 48; ((with_reducible refine (CKh.out _ (tab_below HT.out HB.out)).mono ?_); rintro e wq ⟨rfl, rfl⟩; skip))
    | ((with_reducible refine bdm (T := 27) ⟨8, false, Pn.zero, Msc.zero, 0, no⟩ ?hb ?_); (case hb => kernel_rfl))
    | ((with_reducible refine stm (m := ⟨8, false, Pn.zero, Msc.zero, 0, no⟩) isM HN.out ?hx ?hy ?_); (case hx => rfl); (case hy => rfl); intro w4 h4 M4; replace HN := Lib.hid h4; replace HR := Lib.hid (M4.other N13.out HR.out); replace HB := Lib.hid (M4.below HB.out L3.out); clear h4 M4; obtain ⟨n0, n1, n18, n19⟩ := flds HN.out)
    | ((with_reducible refine stt (z := t) HN.out ?hx ?hy ?_); (case hx => rfl); (case hy => rfl); intro w5 h5 M5; replace HN := Lib.hid h5; replace HR := Lib.hid (M5.other N13.out HR.out); replace HB := Lib.hid (M5.below HB.out L3.out); clear n0 n1 n18 n19 h5 M5; obtain ⟨n0, n1, n18, n19⟩ := flds HN.out)
    | ((with_reducible refine stb (z := v) HN.out ?hx ?hy ?_); (case hx => rfl); (case hy => rfl); intro w6 h6 M6; replace HN := Lib.hid h6; replace HR := Lib.hid (M6.other N13.out HR.out); replace HB := Lib.hid (M6.below HB.out L3.out); clear n0 n1 n18 n19 h6 M6)
    | ((with_reducible refine ldm isM HN.out ?hx ?_); (case hx => rfl))
    | ((with_reducible refine stm (m := ⟨8, false, Pn.zero, Msc.zero, t, v⟩) isM HR.out ?hx ?hy ?_); (case hx => rfl); (case hy => rfl); intro w9 h9 M9; replace HR := Lib.hid h9; replace HB := Lib.hid (M9.below HB.out L1.out); clear h9 M9))
  exact bodyPost_ret (read_results _ _ b1 _ _ _ HR.out rfl rfl) rfl ⟨rfl, HB.out⟩
theorem read_3 (t : Nat) (v : ByteArray) (x : Bool) (hx : v.toList.isEmpty = x) (CK : ∀ w, Tab w → Calls Tryd.prog 48 #[.int .u8 (t : Int)] w fun e w' => e = .returned (.int .u8 3) ∧ w = w') (w : World) (ht : Tab w) :
    Calls Tryd.prog 29 #[.int .u8 (t : Int), .string v] w fun e w' => e = .returned (.tuple #[mv ⟨3, false, Pn.zero, Msc.zero, 0, no⟩, .bool x]) ∧ Below w.heap.size w w' := by
  have CKh := Lib.hid CK
  have HT := Lib.hid ht
  clear CK ht
  go_enter Tryd.func29, Tryd.ntmps29
  go_wp2_with (first
    | (have _ := HR; (with_reducible refine alm zeroM ?_); intro b3 w3 h3 F3; have N13 := Lib.hid (F3.ne HR.out); replace HR := Lib.hid (F3.stays HR.out); have HN := Lib.hid h3; have L3 := Lib.hid (F3.le HB.out); replace HB := Lib.hid (F3.on HB.out); clear h3 F3)
    | ((with_reducible refine alm zeroM ?_); intro b1 w1 h1 F1; have HR := Lib.hid h1; have L1 := Lib.hid (Nat.le_of_eq F1.eq.symm); have HB := Lib.hid F1.below; clear h1 F1)
    | (go_at_call 48; ((with_reducible refine (CKh.out _ (tab_below HT.out HB.out)).mono ?_); rintro e wq ⟨rfl, rfl⟩; skip))
    | ((with_reducible refine bdm (T := 27) ⟨3, false, Pn.zero, Msc.zero, 0, no⟩ ?hb ?_); (case hb => kernel_rfl))
    | ((with_reducible refine stm (m := ⟨3, false, Pn.zero, Msc.zero, 0, no⟩) isM HN.out ?hx ?hy ?_); (case hx => rfl); (case hy => rfl); intro w4 h4 M4; replace HN := Lib.hid h4; replace HR := Lib.hid (M4.other N13.out HR.out); replace HB := Lib.hid (M4.below HB.out L3.out); clear h4 M4; obtain ⟨n0, n1, n18, n19⟩ := flds HN.out)
    | ((with_reducible refine ldm isM HN.out ?hx ?_); (case hx => rfl))
    | ((with_reducible refine stm (m := ⟨3, false, Pn.zero, Msc.zero, 0, no⟩) isM HR.out ?hx ?hy ?_); (case hx => rfl); (case hy => rfl); intro w9 h9 M9; replace HR := Lib.hid h9; replace HB := Lib.hid (M9.below HB.out L1.out); clear h9 M9))
  exact bodyPost_ret (read_results _ _ b1 _ _ _ HR.out rfl rfl) rfl ⟨rfl, HB.out⟩
theorem read_4 (t : Nat) (v : ByteArray) (x : Bool) (hx : v.toList.isEmpty = x) (CK : ∀ w, Tab w → Calls Tryd.prog 48 #[.int .u8 (t : Int)] w fun e w' => e = .returned (.int .u8 4) ∧ w = w') (w : World) (ht : Tab w) :
    Calls Tryd.prog 29 #[.int .u8 (t : Int), .string v] w fun e w' => e = .returned (.tuple #[mv ⟨4, false, Pn.zero, Msc.zero, 0, no⟩, .bool x]) ∧ Below w.heap.size w w' := by
  have CKh := Lib.hid CK
  have HT := Lib.hid ht
  clear CK ht
  go_enter Tryd.func29, Tryd.ntmps29
  go_wp2_with (first
    | (have _ := HR; (with_reducible refine alm zeroM ?_); intro b3 w3 h3 F3; have N13 := Lib.hid (F3.ne HR.out); replace HR := Lib.hid (F3.stays HR.out); have HN := Lib.hid h3; have L3 := Lib.hid (F3.le HB.out); replace HB := Lib.hid (F3.on HB.out); clear h3 F3)
    | ((with_reducible refine alm zeroM ?_); intro b1 w1 h1 F1; have HR := Lib.hid h1; have L1 := Lib.hid (Nat.le_of_eq F1.eq.symm); have HB := Lib.hid F1.below; clear h1 F1)
    | (go_at_call 48; ((with_reducible refine (CKh.out _ (tab_below HT.out HB.out)).mono ?_); rintro e wq ⟨rfl, rfl⟩; skip))
    | ((with_reducible refine bdm (T := 27) ⟨4, false, Pn.zero, Msc.zero, 0, no⟩ ?hb ?_); (case hb => kernel_rfl))
    | ((with_reducible refine stm (m := ⟨4, false, Pn.zero, Msc.zero, 0, no⟩) isM HN.out ?hx ?hy ?_); (case hx => rfl); (case hy => rfl); intro w4 h4 M4; replace HN := Lib.hid h4; replace HR := Lib.hid (M4.other N13.out HR.out); replace HB := Lib.hid (M4.below HB.out L3.out); clear h4 M4; obtain ⟨n0, n1, n18, n19⟩ := flds HN.out)
    | ((with_reducible refine ldm isM HN.out ?hx ?_); (case hx => rfl))
    | ((with_reducible refine stm (m := ⟨4, false, Pn.zero, Msc.zero, 0, no⟩) isM HR.out ?hx ?hy ?_); (case hx => rfl); (case hy => rfl); intro w9 h9 M9; replace HR := Lib.hid h9; replace HB := Lib.hid (M9.below HB.out L1.out); clear h9 M9))
  exact bodyPost_ret (read_results _ _ b1 _ _ _ HR.out rfl rfl) rfl ⟨rfl, HB.out⟩
theorem read_6 (t : Nat) (v : ByteArray) (x : Bool) (hx : v.toList.isEmpty = x) (CK : ∀ w, Tab w → Calls Tryd.prog 48 #[.int .u8 (t : Int)] w fun e w' => e = .returned (.int .u8 6) ∧ w = w') (w : World) (ht : Tab w) :
    Calls Tryd.prog 29 #[.int .u8 (t : Int), .string v] w fun e w' => e = .returned (.tuple #[mv ⟨6, false, Pn.zero, Msc.zero, 0, no⟩, .bool x]) ∧ Below w.heap.size w w' := by
  have CKh := Lib.hid CK
  have HT := Lib.hid ht
  clear CK ht
  go_enter Tryd.func29, Tryd.ntmps29
  go_wp2_with (first
    | (have _ := HR; (with_reducible refine alm zeroM ?_); intro b3 w3 h3 F3; have N13 := Lib.hid (F3.ne HR.out); replace HR := Lib.hid (F3.stays HR.out); have HN := Lib.hid h3; have L3 := Lib.hid (F3.le HB.out); replace HB := Lib.hid (F3.on HB.out); clear h3 F3)
    | ((with_reducible refine alm zeroM ?_); intro b1 w1 h1 F1; have HR := Lib.hid h1; have L1 := Lib.hid (Nat.le_of_eq F1.eq.symm); have HB := Lib.hid F1.below; clear h1 F1)
    | (go_at_call 48; ((with_reducible refine (CKh.out _ (tab_below HT.out HB.out)).mono ?_); rintro e wq ⟨rfl, rfl⟩; skip))
    | ((with_reducible refine bdm (T := 27) ⟨6, false, Pn.zero, Msc.zero, 0, no⟩ ?hb ?_); (case hb => kernel_rfl))
    | ((with_reducible refine stm (m := ⟨6, false, Pn.zero, Msc.zero, 0, no⟩) isM HN.out ?hx ?hy ?_); (case hx => rfl); (case hy => rfl); intro w4 h4 M4; replace HN := Lib.hid h4; replace HR := Lib.hid (M4.other N13.out HR.out); replace HB := Lib.hid (M4.below HB.out L3.out); clear h4 M4; obtain ⟨n0, n1, n18, n19⟩ := flds HN.out)
    | ((with_reducible refine ldm isM HN.out ?hx ?_); (case hx => rfl))
    | ((with_reducible refine stm (m := ⟨6, false, Pn.zero, Msc.zero, 0, no⟩) isM HR.out ?hx ?hy ?_); (case hx => rfl); (case hy => rfl); intro w9 h9 M9; replace HR := Lib.hid h9; replace HB := Lib.hid (M9.below HB.out L1.out); clear h9 M9))
  exact bodyPost_ret (read_results _ _ b1 _ _ _ HR.out rfl rfl) rfl ⟨rfl, HB.out⟩
theorem bne_size {n : Nat} (h : n ≠ 1) : ((n : Int) != 1) = true := bne_true (by omega)
theorem bne_size' {n : Nat} (h : n = 1) : ((n : Int) != 1) = false := bne_false (by omega)
theorem empty_size (v : ByteArray) : v.toList.isEmpty = decide (v.size = 0) := by
  rw [ByteArray.toList_eq, Bool.eq_iff_iff]
  simp only [List.isEmpty_iff_length_eq_zero, decide_eq_true_eq, size_toList]
theorem fread (t : Nat) (v : ByteArray) (htt : t < 256) (w : World) (ht : Tab w) :
    Calls Tryd.prog 29 #[.int .u8 (t : Int), .string v] w fun e w' => e = .returned (.tuple #[mv (rdM t v), .bool (rdOk t v)]) ∧ Below w.heap.size w w' := by
  have CK := fun w (h : Tab w) => fkindOf t w h
  obtain ⟨k1, k2, -⟩ := kOf_is t htt
  unfold rdM rdOk
  have cases8 : kOf t = 1 ∨ kOf t = 2 ∨ kOf t = 5 ∨ kOf t = 7 ∨ kOf t = 8 ∨ kOf t = 3 ∨ kOf t = 4 ∨ kOf t = 6 := by omega
  have hd : ∀ E : Int, (E == 0) = decide (E = 0) := fun E => by rw [Bool.eq_iff_iff]; simp
  rcases cases8 with hk | hk | hk | hk | hk | hk | hk | hk
  · rw [hk] at CK ⊢
    have := read_1 t v _ _ (fun w => Pn.fget v w) CK w ht
    rw [hd] at this
    exact this
  · rw [hk] at CK ⊢
    have := read_2 t v _ _ (fun w => Msc.fget v w) CK w ht
    rw [hd] at this
    exact this
  · rw [hk] at CK ⊢
    exact read_5 t v CK w ht
  · rw [hk] at CK ⊢
    by_cases hs : v.size = 1
    · have := read_7 t v v[0].toNat (fun W => Pn.at_string v 0 (by omega) _ rfl W) (bne_size' hs) CK w ht
      rw [if_neg (by decide), if_neg (by decide), if_neg (by decide), if_pos rfl, dif_pos hs, if_neg (by decide), if_neg (by decide), if_neg (by decide), if_pos rfl, decide_eq_true hs]
      exact this
    · have := read_7no t v (bne_size hs) CK w ht
      rw [if_neg (by decide), if_neg (by decide), if_neg (by decide), if_pos rfl, dif_neg hs, if_neg (by decide), if_neg (by decide), if_neg (by decide), if_pos rfl, decide_eq_false hs]
      exact this
  · rw [hk] at CK ⊢
    exact read_8 t v CK w ht
  · rw [hk] at CK ⊢
    exact read_3 t v _ (empty_size v) CK w ht
  · rw [hk] at CK ⊢
    exact read_4 t v _ (empty_size v) CK w ht
  · rw [hk] at CK ⊢
    exact read_6 t v _ (empty_size v) CK w ht
theorem get_err (s v : ByteArray) (k n : Nat) (c : Bool) (E : Int) (hE : (E != 0) = true) (CG : ∀ w, Calls Tryd.prog 28 #[.string s] w fun e w' => e = .returned (.tuple #[.int .u8 (k : Int), .bool c, .string v, .int .i64 (n : Int), .int .i64 E]) ∧ Below w.heap.size w w') (w : World) :
    Calls Tryd.prog 15 #[.string s] w fun e w' => e = .returned (.tuple #[mv zero, .int .i64 0, .int .i64 E]) ∧ Below w.heap.size w w' := by
  have CGh := Lib.hid CG
  clear CG
  go_enter Tryd.func15, Tryd.ntmps15
  go_wp2_with (first
    | ((with_reducible refine alm zeroM ?_); intro b1 w1 h1 F1; have HR := Lib.hid h1; have L1 := Lib.hid (Nat.le_of_eq F1.eq.symm); have HB := Lib.hid F1.below; clear h1 F1)
    | (go_at_call 28; ((with_reducible refine (CGh.out _).mono ?_); rintro e w2 ⟨rfl, hb⟩; replace HR := Lib.hid (stays HR.out hb); replace HB := Lib.hid (below_on HB.out hb); clear hb))
    | ((with_reducible refine bdm (T := 27) zero ?hb ?_); (case hb => kernel_rfl))
    | ((with_reducible refine stm (m := zero) isM HR.out ?hx ?hy ?_); (case hx => rfl); (case hy => rfl); intro w4 h4 M4; replace HR := Lib.hid h4; replace HB := Lib.hid (M4.below HB.out L1.out); clear h4 M4))
  exact bodyPost_ret (get_results _ _ b1 _ _ _ _ HR.out rfl rfl rfl) rfl ⟨rfl, HB.out⟩
theorem get_not (s v : ByteArray) (k n : Nat) (c : Bool) (m : Ms) (CG : ∀ w, Calls Tryd.prog 28 #[.string s] w fun e w' => e = .returned (.tuple #[.int .u8 (k : Int), .bool c, .string v, .int .i64 (n : Int), .int .i64 0]) ∧ Below w.heap.size w w')
    (CR : ∀ w, Tab w → Calls Tryd.prog 29 #[.int .u8 (k : Int), .string v] w fun e w' => e = .returned (.tuple #[mv m, .bool false]) ∧ Below w.heap.size w w') (w : World) (ht : Tab w) :
    Calls Tryd.prog 15 #[.string s] w fun e w' => e = .returned (.tuple #[mv zero, .int .i64 0, .int .i64 70]) ∧ Below w.heap.size w w' := by
  have CGh := Lib.hid CG
  have CRh := Lib.hid CR
  have HT := Lib.hid ht
  clear CG CR ht
  go_enter Tryd.func15, Tryd.ntmps15
  go_wp2_with (first
    | ((with_reducible refine alm zeroM ?_); intro b1 w1 h1 F1; have HR := Lib.hid h1; have L1 := Lib.hid (Nat.le_of_eq F1.eq.symm); have HB := Lib.hid F1.below; clear h1 F1)
    | (go_at_call 28; ((with_reducible refine (CGh.out _).mono ?_); rintro e w2 ⟨rfl, hb⟩; replace HR := Lib.hid (stays HR.out hb); replace HB := Lib.hid (below_on HB.out hb); clear hb))
    | (go_at_call 29; ((with_reducible refine (CRh.out _ (tab_below HT.out HB.out)).mono ?_); rintro e w3 ⟨rfl, hb⟩; replace HR := Lib.hid (stays HR.out hb); replace HB := Lib.hid (below_on HB.out hb); clear hb))
    | ((with_reducible refine bdm (T := 27) zero ?hb ?_); (case hb => kernel_rfl))
    | ((with_reducible refine stm (m := m) isM HR.out ?hx ?hy ?_); (case hx => rfl); (case hy => rfl); intro w4 h4 M4; replace HR := Lib.hid h4; replace HB := Lib.hid (M4.below HB.out L1.out); clear h4 M4)
    | ((with_reducible refine stm (m := zero) isM HR.out ?hx ?hy ?_); (case hx => rfl); (case hy => rfl); intro w5 h5 M5; replace HR := Lib.hid h5; replace HB := Lib.hid (M5.below HB.out L1.out); clear h5 M5))
  exact bodyPost_ret (get_results _ _ b1 _ _ _ _ HR.out rfl rfl rfl) rfl ⟨rfl, HB.out⟩
theorem get_fine (s v : ByteArray) (k n : Nat) (c : Bool) (m : Ms) (CG : ∀ w, Calls Tryd.prog 28 #[.string s] w fun e w' => e = .returned (.tuple #[.int .u8 (k : Int), .bool c, .string v, .int .i64 (n : Int), .int .i64 0]) ∧ Below w.heap.size w w')
    (CR : ∀ w, Tab w → Calls Tryd.prog 29 #[.int .u8 (k : Int), .string v] w fun e w' => e = .returned (.tuple #[mv m, .bool true]) ∧ Below w.heap.size w w') (w : World) (ht : Tab w) :
    Calls Tryd.prog 15 #[.string s] w fun e w' => e = .returned (.tuple #[mv (m.cmd c), .int .i64 (n : Int), .int .i64 0]) ∧ Below w.heap.size w w' := by
  have CGh := Lib.hid CG
  have CRh := Lib.hid CR
  have HT := Lib.hid ht
  clear CG CR ht
  go_enter Tryd.func15, Tryd.ntmps15
  go_wp2_with (first
    | ((with_reducible refine alm zeroM ?_); intro b1 w1 h1 F1; have HR := Lib.hid h1; have L1 := Lib.hid (Nat.le_of_eq F1.eq.symm); have HB := Lib.hid F1.below; clear h1 F1)
    | (go_at_call 28; ((with_reducible refine (CGh.out _).mono ?_); rintro e w2 ⟨rfl, hb⟩; replace HR := Lib.hid (stays HR.out hb); replace HB := Lib.hid (below_on HB.out hb); clear hb))
    | (go_at_call 29; ((with_reducible refine (CRh.out _ (tab_below HT.out HB.out)).mono ?_); rintro e w3 ⟨rfl, hb⟩; replace HR := Lib.hid (stays HR.out hb); replace HB := Lib.hid (below_on HB.out hb); clear hb))
    | ((with_reducible refine stm (m := m) isM HR.out ?hx ?hy ?_); (case hx => rfl); (case hy => rfl); intro w4 h4 M4; replace HR := Lib.hid h4; replace HB := Lib.hid (M4.below HB.out L1.out); clear h4 M4)
    | ((with_reducible refine stc (z := c) HR.out ?hx ?hy ?_); (case hx => rfl); (case hy => rfl); intro w6 h6 M6; replace HR := Lib.hid h6; replace HB := Lib.hid (M6.below HB.out L1.out); clear h6 M6)
    | ((with_reducible refine ldm isM HR.out ?hx ?_); (case hx => rfl))
    | ((with_reducible refine stm (m := (m.cmd c)) isM HR.out ?hx ?hy ?_); (case hx => rfl); (case hy => rfl); intro w7 h7 M7; replace HR := Lib.hid h7; replace HB := Lib.hid (M7.below HB.out L1.out); clear h7 M7))
  exact bodyPost_ret (get_results _ _ b1 _ _ _ _ HR.out rfl rfl rfl) rfl ⟨rfl, HB.out⟩
theorem fget (s : ByteArray) (hs : s.size ≤ 281474976710656) (w : World) (ht : Tab w) :
    Calls Tryd.prog 15 #[.string s] w fun e w' => e = .returned (.tuple #[mv (got s).m, .int .i64 ((got s).n : Int), .int .i64 ((got s).e : Int)]) ∧ Below w.heap.size w w' := by
  have CG := fun w => Tlv.fget s hs w
  unfold Tlv.gotV at CG
  by_cases h0 : (Tlv.got s).e = 0
  · obtain ⟨q1, _⟩ := Tlv.putE_ok (Tlv.put_got h0).1
    have CR := fun w h => fread (Tlv.got s).k (Tlv.got s).v (by omega) w h
    rw [h0] at CG
    cases h1 : rdOk (Tlv.got s).k (Tlv.got s).v
    · rw [h1] at CR
      rw [got_not h0 h1]
      exact get_not s _ _ _ _ _ CG CR w ht
    · rw [h1] at CR
      rw [got_fine h0 h1]
      exact get_fine s _ _ _ _ _ CG CR w ht
  · rw [got_err h0]
    exact get_err s _ _ _ _ _ (bne_true (by omega)) CG w
end Go.Proofs.YtffahjlboakakaaDoor.Msgs
