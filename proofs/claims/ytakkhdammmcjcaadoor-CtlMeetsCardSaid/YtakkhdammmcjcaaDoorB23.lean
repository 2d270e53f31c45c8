/-
  Layer 22, put together: MsgsRead, TlvRef, MscRget, MsgsRget, MsgsRgot, MsgsAll (what each says stands ahead of it). Conditions: as each names them.
-/
import Derived.Test.YtakkhdammmcjcaaDoorB06
import Derived.Test.YtakkhdammmcjcaaDoorB08
import Derived.Test.YtakkhdammmcjcaaDoorB18
import Derived.Test.YtakkhdammmcjcaaDoorB11
import Derived.Test.YtakkhdammmcjcaaDoorB22
import Derived.Test.YtakkhdammmcjcaaDoorB01
import Derived.Test.YtakkhdammmcjcaaDoorB09
/-
  What read and Get of layer 10 answer. Conditions: the table of the types lies where the program lays it; a type is an octet; a string is no longer than a machine has room for.
-/
namespace Go.Proofs.YtakkhdammmcjcaaDoor.Msgs
open Go.RowKit Go.Proofs.YtakkhdammmcjcaaDoor.Base Go.Proofs.YtakkhdammmcjcaaDoor.Mem
set_option maxRecDepth 20000
theorem read_1 (t : Nat) (v : ByteArray) (p : Pn.Pr) (E : Int) (CP : ∀ w, Calls Tryd.prog 69 #[.string v] w fun e w' => e = .returned (.tuple #[Pn.pv p, .int .i64 E]) ∧ Below w.heap.size w w') (CK : ∀ w, Tab w → Calls Tryd.prog 64 #[.int .u8 (t : Int)] w fun e w' => e = .returned (.int .u8 1) ∧ w = w') (w : World) (ht : Tab w) :
    Calls Tryd.prog 53 #[.int .u8 (t : Int), .string v] w fun e w' => e = .returned (.tuple #[mv ⟨1, false, p, Msc.zero, 0, no⟩, .bool (E == 0)]) ∧ Below w.heap.size w w' := by
  have CKh := Lib.hid CK
  have HT := Lib.hid ht
  clear CK ht
  have CPh := Lib.hid CP
  clear CP
  go_enter Tryd.func53, Tryd.ntmps53
  go_wp2_with (first
    | (have _ := HR; (with_reducible refine alm zeroM ?_); intro b3 w3 h3 F3; have N13 := Lib.hid (F3.ne HR.out); replace HR := Lib.hid (F3.stays HR.out); have HN := Lib.hid h3; have L3 := Lib.hid (F3.le HB.out); replace HB := Lib.hid (F3.on HB.out); clear h3 F3)
    | ((with_reducible refine alm zeroM ?_); intro b1 w1 h1 F1; have HR := Lib.hid h1; have L1 := Lib.hid (Nat.le_of_eq F1.eq.symm); have HB := Lib.hid F1.below; clear h1 F1)
    | (go_at_call 64; ((with_reducible refine (CKh.out _ (tab_below HT.out HB.out)).mono ?_); rintro e wq ⟨rfl, rfl⟩; skip))
    | ((with_reducible refine bdm (T := 35) ⟨1, false, Pn.zero, Msc.zero, 0, no⟩ ?hb ?_); (case hb => kernel_rfl))
    | ((with_reducible refine stm (m := ⟨1, false, Pn.zero, Msc.zero, 0, no⟩) isM HN.out ?hx ?hy ?_); (case hx => rfl); (case hy => rfl); intro w4 h4 M4; replace HN := Lib.hid h4; replace HR := Lib.hid (M4.other N13.out HR.out); replace HB := Lib.hid (M4.below HB.out L3.out); clear h4 M4; obtain ⟨n0, n1, n18, n19⟩ := flds HN.out)
    | (go_at_call 69; ((with_reducible refine (CPh.out _).mono ?_); rintro e w5 ⟨rfl, hb⟩; replace HN := Lib.hid (stays HN.out hb); replace HR := Lib.hid (stays HR.out hb); replace HB := Lib.hid (below_on HB.out hb); clear hb n0 n1 n18 n19; obtain ⟨n0, n1, n18, n19⟩ := flds HN.out))
    | ((with_reducible refine stp (p := p) isP HN.out ?hx ?hy ?_); (case hx => rfl); (case hy => rfl); intro w6 h6 M6; replace HN := Lib.hid h6; replace HR := Lib.hid (M6.other N13.out HR.out); replace HB := Lib.hid (M6.below HB.out L3.out); clear n0 n1 n18 n19 h6 M6)
    | ((with_reducible refine ldm isM HN.out ?hx ?_); (case hx => rfl))
    | ((with_reducible refine stm (m := ⟨1, false, p, Msc.zero, 0, no⟩) isM HR.out ?hx ?hy ?_); (case hx => rfl); (case hy => rfl); intro w9 h9 M9; replace HR := Lib.hid h9; replace HB := Lib.hid (M9.below HB.out L1.out); clear h9 M9))
  exact bodyPost_ret (read_results _ _ b1 _ _ _ HR.out rfl rfl) rfl ⟨rfl, HB.out⟩
theorem read_2 (t : Nat) (v : ByteArray) (p : Msc.St) (E : Int) (CP : ∀ w, Calls Tryd.prog 70 #[.string v] w fun e w' => e = .returned (.tuple #[Msc.sv p, .int .i64 E]) ∧ Below w.heap.size w w') (CK : ∀ w, Tab w → Calls Tryd.prog 64 #[.int .u8 (t : Int)] w fun e w' => e = .returned (.int .u8 2) ∧ w = w') (w : World) (ht : Tab w) :
    Calls Tryd.prog 53 #[.int .u8 (t : Int), .string v] w fun e w' => e = .returned (.tuple #[mv ⟨2, false, Pn.zero, p, 0, no⟩, .bool (E == 0)]) ∧ Below w.heap.size w w' := by
  have CKh := Lib.hid CK
  have HT := Lib.hid ht
  clear CK ht
  have CPh := Lib.hid CP
  clear CP
  go_enter Tryd.func53, Tryd.ntmps53
  go_wp2_with (first
    | (have _ := HR; (with_reducible refine alm zeroM ?_); intro b3 w3 h3 F3; have N13 := Lib.hid (F3.ne HR.out); replace HR := Lib.hid (F3.stays HR.out); have HN := Lib.hid h3; have L3 := Lib.hid (F3.le HB.out); replace HB := Lib.hid (F3.on HB.out); clear h3 F3)
    | ((with_reducible refine alm zeroM ?_); intro b1 w1 h1 F1; have HR := Lib.hid h1; have L1 := Lib.hid (Nat.le_of_eq F1.eq.symm); have HB := Lib.hid F1.below; clear h1 F1)
    | (go_at_call 64; ((with_reducible refine (CKh.out _ (tab_below HT.out HB.out)).mono ?_); rintro e wq ⟨rfl, rfl⟩; skip))
    | ((with_reducible refine bdm (T := 35) ⟨2, false, Pn.zero, Msc.zero, 0, no⟩ ?hb ?_); (case hb => kernel_rfl))
    | ((with_reducible refine stm (m := ⟨2, false, Pn.zero, Msc.zero, 0, no⟩) isM HN.out ?hx ?hy ?_); (case hx => rfl); (case hy => rfl); intro w4 h4 M4; replace HN := Lib.hid h4; replace HR := Lib.hid (M4.other N13.out HR.out); replace HB := Lib.hid (M4.below HB.out L3.out); clear h4 M4; obtain ⟨n0, n1, n18, n19⟩ := flds HN.out)
    | (go_at_call 70; ((with_reducible refine (CPh.out _).mono ?_); rintro e w5 ⟨rfl, hb⟩; replace HN := Lib.hid (stays HN.out hb); replace HR := Lib.hid (stays HR.out hb); replace HB := Lib.hid (below_on HB.out hb); clear hb n0 n1 n18 n19; obtain ⟨n0, n1, n18, n19⟩ := flds HN.out))
    | ((with_reducible refine sts (s := p) isS HN.out ?hx ?hy ?_); (case hx => rfl); (case hy => rfl); intro w6 h6 M6; replace HN := Lib.hid h6; replace HR := Lib.hid (M6.other N13.out HR.out); replace HB := Lib.hid (M6.below HB.out L3.out); clear n0 n1 n18 n19 h6 M6)
    | ((with_reducible refine ldm isM HN.out ?hx ?_); (case hx => rfl))
    | ((with_reducible refine stm (m := ⟨2, false, Pn.zero, p, 0, no⟩) isM HR.out ?hx ?hy ?_); (case hx => rfl); (case hy => rfl); intro w9 h9 M9; replace HR := Lib.hid h9; replace HB := Lib.hid (M9.below HB.out L1.out); clear h9 M9))
  exact bodyPost_ret (read_results _ _ b1 _ _ _ HR.out rfl rfl) rfl ⟨rfl, HB.out⟩
theorem read_5 (t : Nat) (v : ByteArray) (CK : ∀ w, Tab w → Calls Tryd.prog 64 #[.int .u8 (t : Int)] w fun e w' => e = .returned (.int .u8 5) ∧ w = w') (w : World) (ht : Tab w) :
    Calls Tryd.prog 53 #[.int .u8 (t : Int), .string v] w fun e w' => e = .returned (.tuple #[mv ⟨5, false, Pn.zero, Msc.zero, 0, v⟩, .bool true]) ∧ Below w.heap.size w w' := by
  have CKh := Lib.hid CK
  have HT := Lib.hid ht
  clear CK ht
  go_enter Tryd.func53, Tryd.ntmps53
  go_wp2_with (first
    | (have _ := HR; (with_reducible refine alm zeroM ?_); intro b3 w3 h3 F3; have N13 := Lib.hid (F3.ne HR.out); replace HR := Lib.hid (F3.stays HR.out); have HN := Lib.hid h3; have L3 := Lib.hid (F3.le HB.out); replace HB := Lib.hid (F3.on HB.out); clear h3 F3)
    | ((with_reducible refine alm zeroM ?_); intro b1 w1 h1 F1; have HR := Lib.hid h1; have L1 := Lib.hid (Nat.le_of_eq F1.eq.symm); have HB := Lib.hid F1.below; clear h1 F1)
    | (go_at_call 64; ((with_reducible refine (CKh.out _ (tab_below HT.out HB.out)).mono ?_); rintro e wq ⟨rfl, rfl⟩; skip))
    | ((with_reducible refine bdm (T := 35) ⟨5, false, Pn.zero, Msc.zero, 0, no⟩ ?hb ?_); (case hb => kernel_rfl))
    | ((with_reducible refine stm (m := ⟨5, false, Pn.zero, Msc.zero, 0, no⟩) isM HN.out ?hx ?hy ?_); (case hx => rfl); (case hy => rfl); intro w4 h4 M4; replace HN := Lib.hid h4; replace HR := Lib.hid (M4.other N13.out HR.out); replace HB := Lib.hid (M4.below HB.out L3.out); clear h4 M4; obtain ⟨n0, n1, n18, n19⟩ := flds HN.out)
    | ((with_reducible refine stb (z := v) HN.out ?hx ?hy ?_); (case hx => rfl); (case hy => rfl); intro w6 h6 M6; replace HN := Lib.hid h6; replace HR := Lib.hid (M6.other N13.out HR.out); replace HB := Lib.hid (M6.below HB.out L3.out); clear n0 n1 n18 n19 h6 M6)
    | ((with_reducible refine ldm isM HN.out ?hx ?_); (case hx => rfl))
    | ((with_reducible refine stm (m := ⟨5, false, Pn.zero, Msc.zero, 0, v⟩) isM HR.out ?hx ?hy ?_); (case hx => rfl); (case hy => rfl); intro w9 h9 M9; replace HR := Lib.hid h9; replace HB := Lib.hid (M9.below HB.out L1.out); clear h9 M9))
  exact bodyPost_ret (read_results _ _ b1 _ _ _ HR.out rfl rfl) rfl ⟨rfl, HB.out⟩
theorem read_7 (t : Nat) (v : ByteArray) (n : Nat) (i0 : ∀ W, (Instr.index 9 (.string v) (.int .i64 0)).run Tryd.prog W = .ok (.int .u8 (n : Int)) W) (hz : ((v.size : Int) != 1) = false) (CK : ∀ w, Tab w → Calls Tryd.prog 64 #[.int .u8 (t : Int)] w fun e w' => e = .returned (.int .u8 7) ∧ w = w') (w : World) (ht : Tab w) :
    Calls Tryd.prog 53 #[.int .u8 (t : Int), .string v] w fun e w' => e = .returned (.tuple #[mv ⟨7, false, Pn.zero, Msc.zero, n, no⟩, .bool true]) ∧ Below w.heap.size w w' := by
  have CKh := Lib.hid CK
  have HT := Lib.hid ht
  clear CK ht
  go_enter Tryd.func53, Tryd.ntmps53
  go_wp2_with (first
    | (have _ := HR; (with_reducible refine alm zeroM ?_); intro b3 w3 h3 F3; have N13 := Lib.hid (F3.ne HR.out); replace HR := Lib.hid (F3.stays HR.out); have HN := Lib.hid h3; have L3 := Lib.hid (F3.le HB.out); replace HB := Lib.hid (F3.on HB.out); clear h3 F3)
    | ((with_reducible refine alm zeroM ?_); intro b1 w1 h1 F1; have HR := Lib.hid h1; have L1 := Lib.hid (Nat.le_of_eq F1.eq.symm); have HB := Lib.hid F1.below; clear h1 F1)
    | (go_at_call 64; ((with_reducible refine (CKh.out _ (tab_below HT.out HB.out)).mono ?_); rintro e wq ⟨rfl, rfl⟩; skip))
    | ((with_reducible refine bdm (T := 35) ⟨7, false, Pn.zero, Msc.zero, 0, no⟩ ?hb ?_); (case hb => kernel_rfl))
    | ((with_reducible refine stm (m := ⟨7, false, Pn.zero, Msc.zero, 0, no⟩) isM HN.out ?hx ?hy ?_); (case hx => rfl); (case hy => rfl); intro w4 h4 M4; replace HN := Lib.hid h4; replace HR := Lib.hid (M4.other N13.out HR.out); replace HB := Lib.hid (M4.below HB.out L3.out); clear h4 M4; obtain ⟨n0, n1, n18, n19⟩ := flds HN.out)
    | ((with_reducible refine stt (z := n) HN.out ?hx ?hy ?_); (case hx => rfl); (case hy => rfl); intro w5 h5 M5; replace HN := Lib.hid h5; replace HR := Lib.hid (M5.other N13.out HR.out); replace HB := Lib.hid (M5.below HB.out L3.out); clear n0 n1 n18 n19 h5 M5; obtain ⟨n0, n1, n18, n19⟩ := flds HN.out)
    | ((with_reducible refine ldm isM HN.out ?hx ?_); (case hx => rfl))
    | ((with_reducible refine stm (m := ⟨7, false, Pn.zero, Msc.zero, n, no⟩) isM HR.out ?hx ?hy ?_); (case hx => rfl); (case hy => rfl); intro w9 h9 M9; replace HR := Lib.hid h9; replace HB := Lib.hid (M9.below HB.out L1.out); clear h9 M9))
  exact bodyPost_ret (read_results _ _ b1 _ _ _ HR.out rfl rfl) rfl ⟨rfl, HB.out⟩
theorem read_7no (t : Nat) (v : ByteArray) (hz : ((v.size : Int) != 1) = true) (CK : ∀ w, Tab w → Calls Tryd.prog 64 #[.int .u8 (t : Int)] w fun e w' => e = .returned (.int .u8 7) ∧ w = w') (w : World) (ht : Tab w) :
    Calls Tryd.prog 53 #[.int .u8 (t : Int), .string v] w fun e w' => e = .returned (.tuple #[mv zero, .bool false]) ∧ Below w.heap.size w w' := by
  have CKh := Lib.hid CK
  have HT := Lib.hid ht
  clear CK ht
  go_enter Tryd.func53, Tryd.ntmps53
  go_wp2_with (first
    | ((with_reducible refine bdm (T := 35) (parts := #[]) zero ?hb ?_); (case hb => kernel_rfl))
    | (have _ := HR; (with_reducible refine alm zeroM ?_); intro b3 w3 h3 F3; have N13 := Lib.hid (F3.ne HR.out); replace HR := Lib.hid (F3.stays HR.out); have HN := Lib.hid h3; have L3 := Lib.hid (F3.le HB.out); replace HB := Lib.hid (F3.on HB.out); clear h3 F3)
    | ((with_reducible refine alm zeroM ?_); intro b1 w1 h1 F1; have HR := Lib.hid h1; have L1 := Lib.hid (Nat.le_of_eq F1.eq.symm); have HB := Lib.hid F1.below; clear h1 F1)
    | (go_at_call 64; ((with_reducible refine (CKh.out _ (tab_below HT.out HB.out)).mono ?_); rintro e wq ⟨rfl, rfl⟩; skip))
    | ((with_reducible refine bdm (T := 35) ⟨7, false, Pn.zero, Msc.zero, 0, no⟩ ?hb ?_); (case hb => kernel_rfl))
    | ((with_reducible refine stm (m := ⟨7, false, Pn.zero, Msc.zero, 0, no⟩) isM HN.out ?hx ?hy ?_); (case hx => rfl); (case hy => rfl); intro w4 h4 M4; replace HN := Lib.hid h4; replace HR := Lib.hid (M4.other N13.out HR.out); replace HB := Lib.hid (M4.below HB.out L3.out); clear h4 M4; obtain ⟨n0, n1, n18, n19⟩ := flds HN.out)
    | ((with_reducible refine stm (m := zero) isM HR.out ?hx ?hy ?_); (case hx => rfl); (case hy => rfl); intro w9 h9 M9; replace HR := Lib.hid h9; replace HB := Lib.hid (M9.below HB.out L1.out); clear h9 M9))
  exact bodyPost_ret (read_results _ _ b1 _ _ _ HR.out rfl rfl) rfl ⟨rfl, HB.out⟩
theorem read_8 (t : Nat) (v : ByteArray) (CK : ∀ w, Tab w → Calls Tryd.prog 64 #[.int .u8 (t : Int)] w fun e w' => e = .returned (.int .u8 8) ∧ w = w') (w : World) (ht : Tab w) :
    Calls Tryd.prog 53 #[.int .u8 (t : Int), .string v] w fun e w' => e = .returned (.tuple #[mv ⟨8, false, Pn.zero, Msc.zero, t, v⟩, .bool true]) ∧ Below w.heap.size w w' := by
  have CKh := Lib.hid CK
  have HT := Lib.hid ht
  clear CK ht
  go_enter Tryd.func53, Tryd.ntmps53
  go_wp2_with (first
    | (have _ := HR; (with_reducible refine alm zeroM ?_); intro b3 w3 h3 F3; have N13 := Lib.hid (F3.ne HR.out); replace HR := Lib.hid (F3.stays HR.out); have HN := Lib.hid h3; have L3 := Lib.hid (F3.le HB.out); replace HB := Lib.hid (F3.on HB.out); clear h3 F3)
    | ((with_reducible refine alm zeroM ?_); intro b1 w1 h1 F1; have HR := Lib.hid h1; have L1 := Lib.hid (Nat.le_of_eq F1.eq.symm); have HB := Lib.hid F1.below; clear h1 F1)
    | (go_at_call 64; ((with_reducible refine (CKh.out _ (tab_below HT.out HB.out)).mono ?_); rintro e wq ⟨rfl, rfl⟩; skip))
    | ((with_reducible refine bdm (T := 35) ⟨8, false, Pn.zero, Msc.zero, 0, no⟩ ?hb ?_); (case hb => kernel_rfl))
    | ((with_reducible refine stm (m := ⟨8, false, Pn.zero, Msc.zero, 0, no⟩) isM HN.out ?hx ?hy ?_); (case hx => rfl); (case hy => rfl); intro w4 h4 M4; replace HN := Lib.hid h4; replace HR := Lib.hid (M4.other N13.out HR.out); replace HB := Lib.hid (M4.below HB.out L3.out); clear h4 M4; obtain ⟨n0, n1, n18, n19⟩ := flds HN.out)
    | ((with_reducible refine stt (z := t) HN.out ?hx ?hy ?_); (case hx => rfl); (case hy => rfl); intro w5 h5 M5; replace HN := Lib.hid h5; replace HR := Lib.hid (M5.other N13.out HR.out); replace HB := Lib.hid (M5.below HB.out L3.out); clear n0 n1 n18 n19 h5 M5; obtain ⟨n0, n1, n18, n19⟩ := flds HN.out)
    | ((with_reducible refine stb (z := v) HN.out ?hx ?hy ?_); (case hx => rfl); (case hy => rfl); intro w6 h6 M6; replace HN := Lib.hid h6; replace HR := Lib.hid (M6.other N13.out HR.out); replace HB := Lib.hid (M6.below HB.out L3.out); clear n0 n1 n18 n19 h6 M6)
    | ((with_reducible refine ldm isM HN.out ?hx ?_); (case hx => rfl))
    | ((with_reducible refine stm (m := ⟨8, false, Pn.zero, Msc.zero, t, v⟩) isM HR.out ?hx ?hy ?_); (case hx => rfl); (case hy => rfl); intro w9 h9 M9; replace HR := Lib.hid h9; replace HB := Lib.hid (M9.below HB.out L1.out); clear h9 M9))
  exact bodyPost_ret (read_results _ _ b1 _ _ _ HR.out rfl rfl) rfl ⟨rfl, HB.out⟩
theorem read_3 (t : Nat) (v : ByteArray) (x : Bool) (hx : v.toList.isEmpty = x) (CK : ∀ w, Tab w → Calls Tryd.prog 64 #[.int .u8 (t : Int)] w fun e w' => e = .returned (.int .u8 3) ∧ w = w') (w : World) (ht : Tab w) :
    Calls Tryd.prog 53 #[.int .u8 (t : Int), .string v] w fun e w' => e = .returned (.tuple #[mv ⟨3, false, Pn.zero, Msc.zero, 0, no⟩, .bool x]) ∧ Below w.heap.size w w' := by
  have CKh := Lib.hid CK
  have HT := Lib.hid ht
  clear CK ht
  go_enter Tryd.func53, Tryd.ntmps53
  go_wp2_with (first
    | (have _ := HR; (with_reducible refine alm zeroM ?_); intro b3 w3 h3 F3; have N13 := Lib.hid (F3.ne HR.out); replace HR := Lib.hid (F3.stays HR.out); have HN := Lib.hid h3; have L3 := Lib.hid (F3.le HB.out); replace HB := Lib.hid (F3.on HB.out); clear h3 F3)
    | ((with_reducible refine alm zeroM ?_); intro b1 w1 h1 F1; have HR := Lib.hid h1; have L1 := Lib.hid (Nat.le_of_eq F1.eq.symm); have HB := Lib.hid F1.below; clear h1 F1)
    | (go_at_call 64; ((with_reducible refine (CKh.out _ (tab_below HT.out HB.out)).mono ?_); rintro e wq ⟨rfl, rfl⟩; skip))
    | ((with_reducible refine bdm (T := 35) ⟨3, false, Pn.zero, Msc.zero, 0, no⟩ ?hb ?_); (case hb => kernel_rfl))
    | ((with_reducible refine stm (m := ⟨3, false, Pn.zero, Msc.zero, 0, no⟩) isM HN.out ?hx ?hy ?_); (case hx => rfl); (case hy => rfl); intro w4 h4 M4; replace HN := Lib.hid h4; replace HR := Lib.hid (M4.other N13.out HR.out); replace HB := Lib.hid (M4.below HB.out L3.out); clear h4 M4; obtain ⟨n0, n1, n18, n19⟩ := flds HN.out)
    | ((with_reducible refine ldm isM HN.out ?hx ?_); (case hx => rfl))
    | ((with_reducible refine stm (m := ⟨3, false, Pn.zero, Msc.zero, 0, no⟩) isM HR.out ?hx ?hy ?_); (case hx => rfl); (case hy => rfl); intro w9 h9 M9; replace HR := Lib.hid h9; replace HB := Lib.hid (M9.below HB.out L1.out); clear h9 M9))
  exact bodyPost_ret (read_results _ _ b1 _ _ _ HR.out rfl rfl) rfl ⟨rfl, HB.out⟩
theorem read_4 (t : Nat) (v : ByteArray) (x : Bool) (hx : v.toList.isEmpty = x) (CK : ∀ w, Tab w → Calls Tryd.prog 64 #[.int .u8 (t : Int)] w fun e w' => e = .returned (.int .u8 4) ∧ w = w') (w : World) (ht : Tab w) :
    Calls Tryd.prog 53 #[.int .u8 (t : Int), .string v] w fun e w' => e = .returned (.tuple #[mv ⟨4, false, Pn.zero, Msc.zero, 0, no⟩, .bool x]) ∧ Below w.heap.size w w' := by
  have CKh := Lib.hid CK
  have HT := Lib.hid ht
  clear CK ht
  go_enter Tryd.func53, Tryd.ntmps53
  go_wp2_with (first
    | (have _ := HR; (with_reducible refine alm zeroM ?_); intro b3 w3 h3 F3; have N13 := Lib.hid (F3.ne HR.out); replace HR := Lib.hid (F3.stays HR.out); have HN := Lib.hid h3; have L3 := Lib.hid (F3.le HB.out); replace HB := Lib.hid (F3.on HB.out); clear h3 F3)
    | ((with_reducible refine alm zeroM ?_); intro b1 w1 h1 F1; have HR := Lib.hid h1; have L1 := Lib.hid (Nat.le_of_eq F1.eq.symm); have HB := Lib.hid F1.below; clear h1 F1)
    | (go_at_call 64; ((with_reducible refine (CKh.out _ (tab_below HT.out HB.out)).mono ?_); rintro e wq ⟨rfl, rfl⟩; skip))
    | ((with_reducible refine bdm (T := 35) ⟨4, false, Pn.zero, Msc.zero, 0, no⟩ ?hb ?_); (case hb => kernel_rfl))
    | ((with_reducible refine stm (m := ⟨4, false, Pn.zero, Msc.zero, 0, no⟩) isM HN.out ?hx ?hy ?_); (case hx => rfl); (case hy => rfl); intro w4 h4 M4; replace HN := Lib.hid h4; replace HR := Lib.hid (M4.other N13.out HR.out); replace HB := Lib.hid (M4.below HB.out L3.out); clear h4 M4; obtain ⟨n0, n1, n18, n19⟩ := flds HN.out)
    | ((with_reducible refine ldm isM HN.out ?hx ?_); (case hx => rfl))
    | ((with_reducible refine stm (m := ⟨4, false, Pn.zero, Msc.zero, 0, no⟩) isM HR.out ?hx ?hy ?_); (case hx => rfl); (case hy => rfl); intro w9 h9 M9; replace HR := Lib.hid h9; replace HB := Lib.hid (M9.below HB.out L1.out); clear h9 M9))
  exact bodyPost_ret (read_results _ _ b1 _ _ _ HR.out rfl rfl) rfl ⟨rfl, HB.out⟩
theorem read_6 (t : Nat) (v : ByteArray) (x : Bool) (hx : v.toList.isEmpty = x) (CK : ∀ w, Tab w → Calls Tryd.prog 64 #[.int .u8 (t : Int)] w fun e w' => e = .returned (.int .u8 6) ∧ w = w') (w : World) (ht : Tab w) :
    Calls Tryd.prog 53 #[.int .u8 (t : Int), .string v] w fun e w' => e = .returned (.tuple #[mv ⟨6, false, Pn.zero, Msc.zero, 0, no⟩, .bool x]) ∧ Below w.heap.size w w' := by
  have CKh := Lib.hid CK
  have HT := Lib.hid ht
  clear CK ht
  go_enter Tryd.func53, Tryd.ntmps53
  go_wp2_with (first
    | (have _ := HR; (with_reducible refine alm zeroM ?_); intro b3 w3 h3 F3; have N13 := Lib.hid (F3.ne HR.out); replace HR := Lib.hid (F3.stays HR.out); have HN := Lib.hid h3; have L3 := Lib.hid (F3.le HB.out); replace HB := Lib.hid (F3.on HB.out); clear h3 F3)
    | ((with_reducible refine alm zeroM ?_); intro b1 w1 h1 F1; have HR := Lib.hid h1; have L1 := Lib.hid (Nat.le_of_eq F1.eq.symm); have HB := Lib.hid F1.below; clear h1 F1)
    | (go_at_call 64; ((with_reducible refine (CKh.out _ (tab_below HT.out HB.out)).mono ?_); rintro e wq ⟨rfl, rfl⟩; skip))
    | ((with_reducible refine bdm (T := 35) ⟨6, false, Pn.zero, Msc.zero, 0, no⟩ ?hb ?_); (case hb => kernel_rfl))
    | ((with_reducible refine stm (m := ⟨6, false, Pn.zero, Msc.zero, 0, no⟩) isM HN.out ?hx ?hy ?_); (case hx => rfl); (case hy => rfl); intro w4 h4 M4; replace HN := Lib.hid h4; replace HR := Lib.hid (M4.other N13.out HR.out); replace HB := Lib.hid (M4.below HB.out L3.out); clear h4 M4; obtain ⟨n0, n1, n18, n19⟩ := flds HN.out)
    | ((with_reducible refine ldm isM HN.out ?hx ?_); (case hx => rfl))
    | ((with_reducible refine stm (m := ⟨6, false, Pn.zero, Msc.zero, 0, no⟩) isM HR.out ?hx ?hy ?_); (case hx => rfl); (case hy => rfl); intro w9 h9 M9; replace HR := Lib.hid h9; replace HB := Lib.hid (M9.below HB.out L1.out); clear h9 M9))
  exact bodyPost_ret (read_results _ _ b1 _ _ _ HR.out rfl rfl) rfl ⟨rfl, HB.out⟩
theorem bne_size {n : Nat} (h : n ≠ 1) : ((n : Int) != 1) = true := bne_true (by omega)
theorem bne_size' {n : Nat} (h : n = 1) : ((n : Int) != 1) = false := bne_false (by omega)
theorem empty_size (v : ByteArray) : v.toList.isEmpty = decide (v.size = 0) := by
  rw [ByteArray.toList_eq, Bool.eq_iff_iff]
  simp only [List.isEmpty_iff_length_eq_zero, decide_eq_true_eq, size_toList]
theorem fread (t : Nat) (v : ByteArray) (htt : t < 256) (w : World) (ht : Tab w) :
    Calls Tryd.prog 53 #[.int .u8 (t : Int), .string v] w fun e w' => e = .returned (.tuple #[mv (rdM t v), .bool (rdOk t v)]) ∧ Below w.heap.size w w' := by
  have CK := fun w (h : Tab w) => fkindOf t w h
  obtain ⟨k1, k2, -⟩ := kOf_is t htt
  unfold rdM rdOk
  have cases8 : kOf t = 1 ∨ kOf t = 2 ∨ kOf t = 5 ∨ kOf t = 7 ∨ kOf t = 8 ∨ kOf t = 3 ∨ kOf t = 4 ∨ kOf t = 6 := by omega
  have hd : ∀ E : Int, (E == 0) = decide (E = 0) := fun E => by rw [Bool.eq_iff_iff]; simp
  rcases cases8 with hk | hk | hk | hk | hk | hk | hk | hk
  · rw [hk] at CK ⊢
    have := read_1 t v _ _ (fun w => Pn.fget v w) CK w ht
    rw [hd] at this
    exact this
  · rw [hk] at CK ⊢
    have := read_2 t v _ _ (fun w => Msc.fget v w) CK w ht
    rw [hd] at this
    exact this
  · rw [hk] at CK ⊢
    exact read_5 t v CK w ht
  · rw [hk] at CK ⊢
    by_cases hs : v.size = 1
    · have := read_7 t v v[0].toNat (fun W => Pn.at_string v 0 (by omega) _ rfl W) (bne_size' hs) CK w ht
      rw [if_neg (by decide), if_neg (by decide), if_neg (by decide), if_pos rfl, dif_pos hs, if_neg (by decide), if_neg (by decide), if_neg (by decide), if_pos rfl, decide_eq_true hs]
      exact this
    · have := read_7no t v (bne_size hs) CK w ht
      rw [if_neg (by decide), if_neg (by decide), if_neg (by decide), if_pos rfl, dif_neg hs, if_neg (by decide), if_neg (by decide), if_neg (by decide), if_pos rfl, decide_eq_false hs]
      exact this
  · rw [hk] at CK ⊢
    exact read_8 t v CK w ht
  · rw [hk] at CK ⊢
    exact read_3 t v _ (empty_size v) CK w ht
  · rw [hk] at CK ⊢
    exact read_4 t v _ (empty_size v) CK w ht
  · rw [hk] at CK ⊢
    exact read_6 t v _ (empty_size v) CK w ht
theorem get_err (s v : ByteArray) (k n : Nat) (c : Bool) (E : Int) (hE : (E != 0) = true) (CG : ∀ w, Calls Tryd.prog 52 #[.string s] w fun e w' => e = .returned (.tuple #[.int .u8 (k : Int), .bool c, .string v, .int .i64 (n : Int), .int .i64 E]) ∧ Below w.heap.size w w') (w : World) :
    Calls Tryd.prog 41 #[.string s] w fun e w' => e = .returned (.tuple #[mv zero, .int .i64 0, .int .i64 E]) ∧ Below w.heap.size w w' := by
  have CGh := Lib.hid CG
  clear CG
  go_enter Tryd.func41, Tryd.ntmps41
  go_wp2_with (first
    | ((with_reducible refine alm zeroM ?_); intro b1 w1 h1 F1; have HR := Lib.hid h1; have L1 := Lib.hid (Nat.le_of_eq F1.eq.symm); have HB := Lib.hid F1.below; clear h1 F1)
    | (go_at_call 52; ((with_reducible refine (CGh.out _).mono ?_); rintro e w2 ⟨rfl, hb⟩; replace HR := Lib.hid (stays HR.out hb); replace HB := Lib.hid (below_on HB.out hb); clear hb))
    | ((with_reducible refine bdm (T := 35) zero ?hb ?_); (case hb => kernel_rfl))
    | ((with_reducible refine stm (m := zero) isM HR.out ?hx ?hy ?_); (case hx => rfl); (case hy => rfl); intro w4 h4 M4; replace HR := Lib.hid h4; replace HB := Lib.hid (M4.below HB.out L1.out); clear h4 M4))
  exact bodyPost_ret (get_results _ _ b1 _ _ _ _ HR.out rfl rfl rfl) rfl ⟨rfl, HB.out⟩
theorem get_not (s v : ByteArray) (k n : Nat) (c : Bool) (m : Ms) (CG : ∀ w, Calls Tryd.prog 52 #[.string s] w fun e w' => e = .returned (.tuple #[.int .u8 (k : Int), .bool c, .string v, .int .i64 (n : Int), .int .i64 0]) ∧ Below w.heap.size w w')
    (CR : ∀ w, Tab w → Calls Tryd.prog 53 #[.int .u8 (k : Int), .string v] w fun e w' => e = .returned (.tuple #[mv m, .bool false]) ∧ Below w.heap.size w w') (w : World) (ht : Tab w) :
    Calls Tryd.prog 41 #[.string s] w fun e w' => e = .returned (.tuple #[mv zero, .int .i64 0, .int .i64 70]) ∧ Below w.heap.size w w' := by
  have CGh := Lib.hid CG
  have CRh := Lib.hid CR
  have HT := Lib.hid ht
  clear CG CR ht
  go_enter Tryd.func41, Tryd.ntmps41
  go_wp2_with (first
    | ((with_reducible refine alm zeroM ?_); intro b1 w1 h1 F1; have HR := Lib.hid h1; have L1 := Lib.hid (Nat.le_of_eq F1.eq.symm); have HB := Lib.hid F1.below; clear h1 F1)
    | (go_at_call 52; ((with_reducible refine (CGh.out _).mono ?_); rintro e w2 ⟨rfl, hb⟩; replace HR := Lib.hid (stays HR.out hb); replace HB := Lib.hid (below_on HB.out hb); clear hb))
    | (go_at_call 53; ((with_reducible refine (CRh.out _ (tab_below HT.out HB.out)).mono ?_); rintro e w3 ⟨rfl, hb⟩; replace HR := Lib.hid (stays HR.out hb); replace HB := Lib.hid (below_on HB.out hb); clear hb))
    | ((with_reducible refine bdm (T := 35) zero ?hb ?_); (case hb => kernel_rfl))
    | ((with_reducible refine stm (m := m) isM HR.out ?hx ?hy ?_); (case hx => rfl); (case hy => rfl); intro w4 h4 M4; replace HR := Lib.hid h4; replace HB := Lib.hid (M4.below HB.out L1.out); clear h4 M4)
    | ((with_reducible refine stm (m := zero) isM HR.out ?hx ?hy ?_); (case hx => rfl); (case hy => rfl); intro w5 h5 M5; replace HR := Lib.hid h5; replace HB := Lib.hid (M5.below HB.out L1.out); clear h5 M5))
  exact bodyPost_ret (get_results _ _ b1 _ _ _ _ HR.out rfl rfl rfl) rfl ⟨rfl, HB.out⟩
theorem get_fine (s v : ByteArray) (k n : Nat) (c : Bool) (m : Ms) (CG : ∀ w, Calls Tryd.prog 52 #[.string s] w fun e w' => e = .returned (.tuple #[.int .u8 (k : Int), .bool c, .string v, .int .i64 (n : Int), .int .i64 0]) ∧ Below w.heap.size w w')
    (CR : ∀ w, Tab w → Calls Tryd.prog 53 #[.int .u8 (k : Int), .string v] w fun e w' => e = .returned (.tuple #[mv m, .bool true]) ∧ Below w.heap.size w w') (w : World) (ht : Tab w) :
    Calls Tryd.prog 41 #[.string s] w fun e w' => e = .returned (.tuple #[mv (m.cmd c), .int .i64 (n : Int), .int .i64 0]) ∧ Below w.heap.size w w' := by
  have CGh := Lib.hid CG
  have CRh := Lib.hid CR
  have HT := Lib.hid ht
  clear CG CR ht
  go_enter Tryd.func41, Tryd.ntmps41
  go_wp2_with (first
    | ((with_reducible refine alm zeroM ?_); intro b1 w1 h1 F1; have HR := Lib.hid h1; have L1 := Lib.hid (Nat.le_of_eq F1.eq.symm); have HB := Lib.hid F1.below; clear h1 F1)
    | (go_at_call 52; ((with_reducible refine (CGh.out _).mono ?_); rintro e w2 ⟨rfl, hb⟩; replace HR := Lib.hid (stays HR.out hb); replace HB := Lib.hid (below_on HB.out hb); clear hb))
    | (go_at_call 53; ((with_reducible refine (CRh.out _ (tab_below HT.out HB.out)).mono ?_); rintro e w3 ⟨rfl, hb⟩; replace HR := Lib.hid (stays HR.out hb); replace HB := Lib.hid (below_on HB.out hb); clear hb))
    | ((with_reducible refine stm (m := m) isM HR.out ?hx ?hy ?_); (case hx => rfl); (case hy => rfl); intro w4 h4 M4; replace HR := Lib.hid h4; replace HB := Lib.hid (M4.below HB.out L1.out); clear h4 M4)
    | ((with_reducible refine stc (z := c) HR.out ?hx ?hy ?_); (case hx => rfl); (case hy => rfl); intro w6 h6 M6; replace HR := Lib.hid h6; replace HB := Lib.hid (M6.below HB.out L1.out); clear h6 M6)
    | ((with_reducible refine ldm isM HR.out ?hx ?_); (case hx => rfl))
    | ((with_reducible refine stm (m := (m.cmd c)) isM HR.out ?hx ?hy ?_); (case hx => rfl); (case hy => rfl); intro w7 h7 M7; replace HR := Lib.hid h7; replace HB := Lib.hid (M7.below HB.out L1.out); clear h7 M7))
  exact bodyPost_ret (get_results _ _ b1 _ _ _ _ HR.out rfl rfl rfl) rfl ⟨rfl, HB.out⟩
theorem fget (s : ByteArray) (hs : s.size ≤ 281474976710656) (w : World) (ht : Tab w) :
    Calls Tryd.prog 41 #[.string s] w fun e w' => e = .returned (.tuple #[mv (got s).m, .int .i64 ((got s).n : Int), .int .i64 ((got s).e : Int)]) ∧ Below w.heap.size w w' := by
  have CG := fun w => Tlv.fget s hs w
  unfold Tlv.gotV at CG
  by_cases h0 : (Tlv.got s).e = 0
  · obtain ⟨q1, _⟩ := Tlv.putE_ok (Tlv.put_got h0).1
    have CR := fun w h => fread (Tlv.got s).k (Tlv.got s).v (by omega) w h
    rw [h0] at CG
    cases h1 : rdOk (Tlv.got s).k (Tlv.got s).v
    · rw [h1] at CR
      rw [got_not h0 h1]
      exact get_not s _ _ _ _ _ CG CR w ht
    · rw [h1] at CR
      rw [got_fine h0 h1]
      exact get_fine s _ _ _ _ _ CG CR w ht
  · rw [got_err h0]
    exact get_err s _ _ _ _ _ (bne_true (by omega)) CG w
end Go.Proofs.YtakkhdammmcjcaaDoor.Msgs
/-
  What the document's own Get of layer 7 answers. Condition: at most 2^48 octets.
-/
namespace Go.Proofs.YtakkhdammmcjcaaDoor.Tlv
open Go.RowKit Go.Proofs.YtakkhdammmcjcaaDoor.Base Go.Proofs.YtakkhdammmcjcaaDoor.Ea Go.Proofs.YtakkhdammmcjcaaDoor.Mem
/-- What the document's own Get answers. -/
def rgotV (g : Got) : Value := .tuple #[.agg #[.int .u8 (g.k : Int), .bool g.c, .string g.v], .int .i64 (g.n : Int), .int .i64 (g.e : Int)]
end Go.Proofs.YtakkhdammmcjcaaDoor.Tlv
/-
  What the document's own Get of layer 9 answers. No condition.
-/
namespace Go.Proofs.YtakkhdammmcjcaaDoor.Msc
open Go.RowKit Go.Proofs.YtakkhdammmcjcaaDoor.Base Go.Proofs.YtakkhdammmcjcaaDoor.Mem Go.Proofs.YtakkhdammmcjcaaDoor.Ea
theorem sig_is_b (n : Nat) : (((n : Int) / 2 % 2 == 1) = n1 n) ∧ (((n : Int) / 4 % 2 == 1) = n2 n) ∧ (((n : Int) / 8 % 2 == 1) = n3 n) ∧ (((n : Int) / 64 % 2 == 1) = n6 n) ∧ (((n : Int) / 128 == 1) = n7 n) := by
  refine ⟨?_, ?_, ?_, ?_, ?_⟩ <;> (rw [Bool.eq_iff_iff]; simp; omega)
end Go.Proofs.YtakkhdammmcjcaaDoor.Msc
/-
  What the document's own Get of layer 10 answers. Condition: a string is no longer than a machine has room for.
-/
namespace Go.Proofs.YtakkhdammmcjcaaDoor.Msgs
open Go.RowKit Go.Proofs.YtakkhdammmcjcaaDoor.Base Go.Proofs.YtakkhdammmcjcaaDoor.Mem
set_option maxRecDepth 20000
theorem item {w : World} {b : Nat} {k : Nat} {c : Bool} {v : ByteArray} {t : TypeId} (h : w.heap[b]? = some (.cells #[.int .u8 (k : Int), .bool c, .string v] t (0, 0))) : w.cell? ⟨b, 0, none⟩ = some (.int .u8 (k : Int)) ∧ w.cell? ⟨b, 1, none⟩ = some (.bool c) ∧ w.cell? ⟨b, 2, none⟩ = some (.string v) := ⟨cell_of h rfl, cell_of h rfl, cell_of h rfl⟩
end Go.Proofs.YtakkhdammmcjcaaDoor.Msgs
/-
  The document's own Get of layer 10, of any octets. Condition: a string is no longer than a machine has room for.
-/
namespace Go.Proofs.YtakkhdammmcjcaaDoor.Msgs
open Go.RowKit Go.Proofs.YtakkhdammmcjcaaDoor.Base Go.Proofs.YtakkhdammmcjcaaDoor.Mem
theorem rdOk_1 {t : Nat} (h : kOf t = 1) (v : ByteArray) : rdOk t v = decide (Pn.gotE v = 0) := by unfold rdOk; rw [if_pos h]
theorem rdOk_2 {t : Nat} (h : kOf t = 2) (v : ByteArray) : rdOk t v = decide (Msc.gotE v = 0) := by unfold rdOk; rw [if_neg (by omega), if_pos h]
theorem rdOk_5 {t : Nat} (h : kOf t = 5 ∨ kOf t = 8) (v : ByteArray) : rdOk t v = true := by unfold rdOk; rw [if_neg (by omega), if_neg (by omega), if_pos h]
theorem rdOk_7 {t : Nat} (h : kOf t = 7) (v : ByteArray) : rdOk t v = decide (v.size = 1) := by unfold rdOk; rw [if_neg (by omega), if_neg (by omega), if_neg (by omega), if_pos h]
theorem rdOk_3 {t : Nat} (h : kOf t = 3 ∨ kOf t = 4 ∨ kOf t = 6) (v : ByteArray) : rdOk t v = decide (v.size = 0) := by unfold rdOk; rw [if_neg (by omega), if_neg (by omega), if_neg (by omega), if_neg (by omega)]
theorem rdM_1 {t : Nat} (h : kOf t = 1) (v : ByteArray) : rdM t v = ⟨1, false, Pn.gotP v, Msc.zero, 0, no⟩ := by unfold rdM; rw [if_pos h]
theorem rdM_2 {t : Nat} (h : kOf t = 2) (v : ByteArray) : rdM t v = ⟨2, false, Pn.zero, Msc.gotS v, 0, no⟩ := by unfold rdM; rw [if_neg (by omega), if_pos h]
theorem rdM_5 {t : Nat} (h : kOf t = 5) (v : ByteArray) : rdM t v = ⟨5, false, Pn.zero, Msc.zero, 0, v⟩ := by unfold rdM; rw [if_neg (by omega), if_neg (by omega), if_pos h]
theorem rdM_7 {t : Nat} (h : kOf t = 7) (v : ByteArray) (hs : v.size = 1) : rdM t v = ⟨7, false, Pn.zero, Msc.zero, v[0].toNat, no⟩ := by unfold rdM; rw [if_neg (by omega), if_neg (by omega), if_neg (by omega), if_pos h, dif_pos hs]
theorem rdM_8 {t : Nat} (h : kOf t = 8) (v : ByteArray) : rdM t v = ⟨8, false, Pn.zero, Msc.zero, t, v⟩ := by unfold rdM; rw [if_neg (by omega), if_neg (by omega), if_neg (by omega), if_neg (by omega), if_pos h]
theorem rdM_3 {t : Nat} (h : kOf t = 3 ∨ kOf t = 4 ∨ kOf t = 6) (v : ByteArray) : rdM t v = ⟨kOf t, false, Pn.zero, Msc.zero, 0, no⟩ := by unfold rdM; rw [if_neg (by omega), if_neg (by omega), if_neg (by omega), if_neg (by omega), if_neg (by omega)]
end Go.Proofs.YtakkhdammmcjcaaDoor.Msgs
/-
  What All of layer 10, and the document's own, answer: all messages that octets begin with, in new memory. Condition: at most 5000 octets.
-/
namespace Go.Proofs.YtakkhdammmcjcaaDoor.Msgs
open Go.RowKit Go.Proofs.YtakkhdammmcjcaaDoor.Base Go.Proofs.YtakkhdammmcjcaaDoor.Mem
set_option maxRecDepth 20000
/-- What a round of All's loop begins with. -/
structure AllAt (E : Nat) (s : ByteArray) (w : World) (v : Value) (at_ : Nat) (wr : World) (acc : List Ms) : Prop where
  left : Left s at_ acc
  own : OwnS E 20 ml wr w.heap.size v acc
  base : Below w.heap.size w wr
  few : acc.length ≤ at_
/-- What a call of All leaves. -/
def AllEnds (E : Nat) (s : ByteArray) (w : World) (e : Ending) (w' : World) : Prop :=
  ∃ v, e = .returned (.tuple #[v, .int .i64 ((all s).2 : Int)]) ∧ OwnS E 20 ml w' w.heap.size v (all s).1 ∧ Below w.heap.size w w'
theorem own_ne {E : Nat} {w w' : World} {base b : Nat} {v : Value} {l : List Ms} (h : OwnS E 20 ml w base v l) (F : Fresh b w w') : ∀ k, v.ownBlock = some k → k ≠ b := fun k hk => by
  have := (h.lt k hk).2
  have := F.eq
  omega
theorem own_mod {E : Nat} {w w' : World} {base b : Nat} {v : Value} {l : List Ms} (h : OwnS E 20 ml w base v l) (M : Mod b w w') (hn : ∀ k, v.ownBlock = some k → k ≠ b) : OwnS E 20 ml w' base v l := by
  refine h.grown (r := some b) ⟨M.os, M.tape, M.output, Nat.le_of_eq M.size.symm, fun k _ hk => M.rest k (fun e => hk (by rw [e]))⟩ ?_
  cases hv : v.ownBlock with
  | none => exact .inl rfl
  | some k => exact .inr (fun e => hn k hv (Option.some.inj e))
set_option maxHeartbeats 800000 in
theorem fall (s : ByteArray) (hs : s.size ≤ 5000) (w : World) (ht : Tab w) :
    Calls Tryd.prog 29 #[.string s] w (AllEnds 35 s w) := by
  have HT := Lib.hid ht
  clear ht
  go_enter Tryd.func29, Tryd.ntmps29
  go_wp2
  go_loopw [4, 5] (fun v i wr => ∃ (k : Nat) (acc : List Ms), k ≤ s.size ∧ i = .int .i64 (k : Int) ∧ Hid (AllAt 35 s w v k wr acc)) (fun _ i _ => s.size + 1 - (intOf i).toNat)
  case atStart => exact ⟨0, [], Nat.zero_le _, rfl, Lib.hid ⟨left_start s, ownS_nil _ _, Below.refl _ _, Nat.le_refl _⟩⟩
  case round =>
    obtain ⟨k, acc, hk, rfl, HR⟩ := hrel
    obtain ⟨t, ht'⟩ : ∃ t, s.extract k s.size = t := ⟨_, rfl⟩
    have hts : t.size ≤ 281474976710656 := by rw [← ht', ext_size]; omega
    · skip
      have CG := Lib.hid (fun w (h : Tab w) => fget t hts w h)
      have HL := Lib.hid (left_step HR.out.left (by omega))
      have HN := Lib.hid (left_bad HR.out.left (by omega))
      rw [ht'] at HL HN
      rcases hg : got t with ⟨gm, gn, ge⟩
      rw [hg] at CG HL HN
      dsimp only at CG HL HN
      clear hg
      by_cases he : ge = 0
      · skip
        subst he
        obtain ⟨hL, h2, h3, _⟩ := HL.out rfl
        have HL2 := Lib.hid hL
        clear hL
        go_wp2_with (first
          | (go_at_call 41; ((with_reducible refine (CG.out _ (tab_below HT.out HR.out.base)).mono ?_); rintro e w1 ⟨rfl, hb⟩; have HO := Lib.hid (HR.out.own.below hb); have HW := Lib.hid (below_on HR.out.base hb); clear hb))
          | ((with_reducible refine alm zeroM ?_); intro b2 w2 h2 F2; have N2 := Lib.hid (own_ne HO.out F2); replace HO := Lib.hid (HO.out.below F2.below); have L2 := Lib.hid (F2.le HW.out); replace HW := Lib.hid (F2.on HW.out); have HM := Lib.hid h2; clear h2 F2)
          | ((with_reducible refine stm (m := gm) isM HM.out ?hx ?hy ?_); (case hx => rfl); (case hy => rfl); intro w3 h3 M3; replace HO := Lib.hid (own_mod HO.out M3 N2.out); replace HW := Lib.hid (M3.below HW.out L2.out); replace HM := Lib.hid h3; clear h3 M3)
          | ((with_reducible refine ldm isM HM.out ?hx ?_); (case hx => rfl))
          | ((with_reducible refine bsl (mc gm) Tryd.underlying24 infoM ?hl ?hf ?_); (case hl => exact ⟨by decide, by decide⟩); (case hf => kernel_rfl); intro b4 w4 h4 F4; replace HO := Lib.hid (HO.out.below F4.below); replace HW := Lib.hid (F4.on HW.out); replace HM := Lib.hid h4; clear h4 F4)
          | (at_builtin; refine wpList_append_elt eltM _ rfl _ _ rfl w.heap.size _ rfl acc HO.out b4 _ rfl gm (row_of HM.out) (by have := HR.out.few; omega) HW.out.size ?_; intro v' w5 ho hg _; have HO2 := Lib.hid ho; have HW2 := Lib.hid (HW.out.grown hg HW.out.size (fun k hk => (HO.out.lt k hk).1)); clear ho hg))
        go_roundw
        case rel => exact ⟨k + gn, _, h3, by go_num, Lib.hid ⟨HL2.out, HO2.out, HW2.out, by have := HR.out.few; simp; omega⟩⟩
        case measure => simp [intOf]; omega
      · skip
        have hne : ((ge : Int) != 0) = true := bne_true (by omega)
        have HN2 := Lib.hid (HN.out he)
        clear he
        go_wp2_with (first
          | (go_at_call 41; ((with_reducible refine (CG.out _ (tab_below HT.out HR.out.base)).mono ?_); rintro e w1 ⟨rfl, hb⟩; have HO := Lib.hid (HR.out.own.below hb); have HW := Lib.hid (below_on HR.out.base hb); clear hb))
          | ((with_reducible refine alm zeroM ?_); intro b2 w2 h2 F2; have N2 := Lib.hid (own_ne HO.out F2); replace HO := Lib.hid (HO.out.below F2.below); have L2 := Lib.hid (F2.le HW.out); replace HW := Lib.hid (F2.on HW.out); have HM := Lib.hid h2; clear h2 F2)
          | ((with_reducible refine stm (m := gm) isM HM.out ?hx ?hy ?_); (case hx => rfl); (case hy => rfl); intro w3 h3 M3; replace HO := Lib.hid (own_mod HO.out M3 N2.out); replace HW := Lib.hid (M3.below HW.out L2.out); replace HM := Lib.hid h3; clear h3 M3))
        go_ret2
        exact ⟨_, by rw [HN2.out]; rfl, by rw [HN2.out]; exact HO.out, HW.out⟩
end Go.Proofs.YtakkhdammmcjcaaDoor.Msgs
