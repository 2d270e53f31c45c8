/-
  Layer 22, put together: MsgsVal (what each says stands ahead of it). Conditions: as each names them.
-/
import Derived.Test.YtakkhdammmcjcaaDoorB08
import Derived.Test.YtakkhdammmcjcaaDoorB09
/-
  What value, May, Put and Octet of layer 10 answer. Condition: the table of the types lies where the program lays it; octets are octets.
-/
namespace Go.Proofs.YtakkhdammmcjcaaDoor.Msgs
open Go.RowKit Go.Proofs.YtakkhdammmcjcaaDoor.Base Go.Proofs.YtakkhdammmcjcaaDoor.Mem
set_option maxRecDepth 20000
theorem tab_drewN {w : World} (h : Tab w) (n : Nat) : Tab (w.drewN n) := h
theorem in_k {n k : Nat} (h : n = k) : (n : Int) = (k : Int) := by rw [h]
theorem value_1 (m : Ms) (hk : m.k = 1) (hi : m.In) (w : World) :
    Calls Tryd.prog 33 #[mv m] w fun e w' => e = .returned (.tuple #[.string (val m), .bool (vOk m)]) ∧ Below w.heap.size w w' := by
  have HV : Hid (val m = Pn.putS m.p) := Lib.hid (by unfold val; rw [hk]; rfl)
  have HO : Hid (vOk m = (Pn.putE m.p == 0)) := Lib.hid (by unfold vOk; rw [hk]; show Pn.may m.p = _; unfold Pn.putE; cases Pn.may m.p <;> rfl)
  have q1 : ((m.k : Int) == 1) = true := eq_is (n := m.k) (k := 1) (by omega)
  rw [HV.out, HO.out]
  clear HV HO hk
  have CP := Lib.hid (fun w => Pn.fput m.p hi.p w)
  clear hi
  generalize Pn.putS m.p = S at *
  generalize Pn.putE m.p = E at *
  go_enter Tryd.func33, Tryd.ntmps33
  go_wp2_with (first
    | ((with_reducible refine bxm (m := m) ?hx ?_); (case hx => rfl); intro b1 w1 h1 F1; have HM := Lib.hid h1; have HB := Lib.hid F1.below; obtain ⟨c0, c1, c18, c19⟩ := flds h1; clear h1 F1)
    | ((with_reducible refine ldp isP HM.out ?hx ?_); (case hx => rfl))
    | (go_at_call 47; ((with_reducible refine (CP.out _).mono ?_); rintro e w2 ⟨rfl, hb⟩; replace HB := Lib.hid (below_on HB.out hb); clear hb c0 c1 c18 c19)))
  go_ret2
  exact ⟨rfl, HB.out⟩
theorem value_2 (m : Ms) (hk : m.k = 2) (hi : m.In) (w : World) :
    Calls Tryd.prog 33 #[mv m] w fun e w' => e = .returned (.tuple #[.string (val m), .bool (vOk m)]) ∧ Below w.heap.size w w' := by
  have HV : Hid (val m = Msc.putS m.s) := Lib.hid (by unfold val; rw [hk]; rfl)
  have HO : Hid (vOk m = (Msc.putE m.s == 0)) := Lib.hid (by unfold vOk; rw [hk]; show Msc.may m.s = _; unfold Msc.putE; cases Msc.may m.s <;> rfl)
  have q1 : ((m.k : Int) == 1) = false := eq_no (n := m.k) (k := 1) (by omega)
  have q2 : ((m.k : Int) == 2) = true := eq_is (n := m.k) (k := 2) (by omega)
  rw [HV.out, HO.out]
  clear HV HO hk
  have CP := Lib.hid (fun w => Msc.fput m.s hi.s w)
  clear hi
  generalize Msc.putS m.s = S at *
  generalize Msc.putE m.s = E at *
  go_enter Tryd.func33, Tryd.ntmps33
  go_wp2_with (first
    | ((with_reducible refine bxm (m := m) ?hx ?_); (case hx => rfl); intro b1 w1 h1 F1; have HM := Lib.hid h1; have HB := Lib.hid F1.below; obtain ⟨c0, c1, c18, c19⟩ := flds h1; clear h1 F1)
    | ((with_reducible refine lds isS HM.out ?hx ?_); (case hx => rfl))
    | (go_at_call 48; ((with_reducible refine (CP.out _).mono ?_); rintro e w2 ⟨rfl, hb⟩; replace HB := Lib.hid (below_on HB.out hb); clear hb c0 c1 c18 c19)))
  go_ret2
  exact ⟨rfl, HB.out⟩
theorem value_3 (m : Ms) (hk : m.k = 3) (w : World) :
    Calls Tryd.prog 33 #[mv m] w fun e w' => e = .returned (.tuple #[.string (val m), .bool (vOk m)]) ∧ Below w.heap.size w w' := by
  have HV : Hid (val m = no) := Lib.hid (by unfold val; rw [hk]; rfl)
  have HO : Hid (vOk m = true) := Lib.hid (by unfold vOk; rw [hk]; rfl)
  have q1 : ((m.k : Int) == 1) = false := eq_no (n := m.k) (k := 1) (by omega)
  have q2 : ((m.k : Int) == 2) = false := eq_no (n := m.k) (k := 2) (by omega)
  have q3 : ((m.k : Int) == 3) = true := eq_is (n := m.k) (k := 3) (by omega)
  rw [HV.out, HO.out]
  clear HV HO hk
  go_enter Tryd.func33, Tryd.ntmps33
  go_wp2_with (first
    | ((with_reducible refine bxm (m := m) ?hx ?_); (case hx => rfl); intro b1 w1 h1 F1; have HM := Lib.hid h1; have HB := Lib.hid F1.below; obtain ⟨c0, c1, c18, c19⟩ := flds h1; clear h1 F1))
  go_ret2
  exact ⟨rfl, HB.out⟩
theorem value_4 (m : Ms) (hk : m.k = 4) (w : World) :
    Calls Tryd.prog 33 #[mv m] w fun e w' => e = .returned (.tuple #[.string (val m), .bool (vOk m)]) ∧ Below w.heap.size w w' := by
  have HV : Hid (val m = no) := Lib.hid (by unfold val; rw [hk]; rfl)
  have HO : Hid (vOk m = true) := Lib.hid (by unfold vOk; rw [hk]; rfl)
  have q1 : ((m.k : Int) == 1) = false := eq_no (n := m.k) (k := 1) (by omega)
  have q2 : ((m.k : Int) == 2) = false := eq_no (n := m.k) (k := 2) (by omega)
  have q3 : ((m.k : Int) == 3) = false := eq_no (n := m.k) (k := 3) (by omega)
  have q4 : ((m.k : Int) == 4) = true := eq_is (n := m.k) (k := 4) (by omega)
  rw [HV.out, HO.out]
  clear HV HO hk
  go_enter Tryd.func33, Tryd.ntmps33
  go_wp2_with (first
    | ((with_reducible refine bxm (m := m) ?hx ?_); (case hx => rfl); intro b1 w1 h1 F1; have HM := Lib.hid h1; have HB := Lib.hid F1.below; obtain ⟨c0, c1, c18, c19⟩ := flds h1; clear h1 F1))
  go_ret2
  exact ⟨rfl, HB.out⟩
theorem value_6 (m : Ms) (hk : m.k = 6) (w : World) :
    Calls Tryd.prog 33 #[mv m] w fun e w' => e = .returned (.tuple #[.string (val m), .bool (vOk m)]) ∧ Below w.heap.size w w' := by
  have HV : Hid (val m = no) := Lib.hid (by unfold val; rw [hk]; rfl)
  have HO : Hid (vOk m = true) := Lib.hid (by unfold vOk; rw [hk]; rfl)
  have q1 : ((m.k : Int) == 1) = false := eq_no (n := m.k) (k := 1) (by omega)
  have q2 : ((m.k : Int) == 2) = false := eq_no (n := m.k) (k := 2) (by omega)
  have q3 : ((m.k : Int) == 3) = false := eq_no (n := m.k) (k := 3) (by omega)
  have q4 : ((m.k : Int) == 4) = false := eq_no (n := m.k) (k := 4) (by omega)
  have q6 : ((m.k : Int) == 6) = true := eq_is (n := m.k) (k := 6) (by omega)
  rw [HV.out, HO.out]
  clear HV HO hk
  go_enter Tryd.func33, Tryd.ntmps33
  go_wp2_with (first
    | ((with_reducible refine bxm (m := m) ?hx ?_); (case hx => rfl); intro b1 w1 h1 F1; have HM := Lib.hid h1; have HB := Lib.hid F1.below; obtain ⟨c0, c1, c18, c19⟩ := flds h1; clear h1 F1))
  go_ret2
  exact ⟨rfl, HB.out⟩
theorem value_5 (m : Ms) (hk : m.k = 5) (w : World) :
    Calls Tryd.prog 33 #[mv m] w fun e w' => e = .returned (.tuple #[.string (val m), .bool (vOk m)]) ∧ Below w.heap.size w w' := by
  have HV : Hid (val m = m.b) := Lib.hid (by unfold val; rw [hk]; rfl)
  have HO : Hid (vOk m = true) := Lib.hid (by unfold vOk; rw [hk]; rfl)
  have q1 : ((m.k : Int) == 1) = false := eq_no (n := m.k) (k := 1) (by omega)
  have q2 : ((m.k : Int) == 2) = false := eq_no (n := m.k) (k := 2) (by omega)
  have q3 : ((m.k : Int) == 3) = false := eq_no (n := m.k) (k := 3) (by omega)
  have q4 : ((m.k : Int) == 4) = false := eq_no (n := m.k) (k := 4) (by omega)
  have q6 : ((m.k : Int) == 6) = false := eq_no (n := m.k) (k := 6) (by omega)
  have q5 : ((m.k : Int) == 5) = true := eq_is (n := m.k) (k := 5) (by omega)
  rw [HV.out, HO.out]
  clear HV HO hk
  go_enter Tryd.func33, Tryd.ntmps33
  go_wp2_with (first
    | ((with_reducible refine bxm (m := m) ?hx ?_); (case hx => rfl); intro b1 w1 h1 F1; have HM := Lib.hid h1; have HB := Lib.hid F1.below; obtain ⟨c0, c1, c18, c19⟩ := flds h1; clear h1 F1))
  go_ret2
  exact ⟨rfl, HB.out⟩
theorem value_7 (m : Ms) (hk : m.k = 7) (w : World) :
    Calls Tryd.prog 33 #[mv m] w fun e w' => e = .returned (.tuple #[.string (val m), .bool (vOk m)]) ∧ Below w.heap.size w w' := by
  have HV : Hid (val m = one m.t) := Lib.hid (by unfold val; rw [hk]; rfl)
  have HO : Hid (vOk m = true) := Lib.hid (by unfold vOk; rw [hk]; rfl)
  have q1 : ((m.k : Int) == 1) = false := eq_no (n := m.k) (k := 1) (by omega)
  have q2 : ((m.k : Int) == 2) = false := eq_no (n := m.k) (k := 2) (by omega)
  have q3 : ((m.k : Int) == 3) = false := eq_no (n := m.k) (k := 3) (by omega)
  have q4 : ((m.k : Int) == 4) = false := eq_no (n := m.k) (k := 4) (by omega)
  have q6 : ((m.k : Int) == 6) = false := eq_no (n := m.k) (k := 6) (by omega)
  have q5 : ((m.k : Int) == 5) = false := eq_no (n := m.k) (k := 5) (by omega)
  have q7 : ((m.k : Int) == 7) = true := eq_is (n := m.k) (k := 7) (by omega)
  rw [HV.out, HO.out]
  clear HV HO hk
  have hcv : ∀ (W : World) (b : Nat), W.cell? ⟨b, 0, none⟩ = some (.int .u8 (m.t : Int)) → (convert 99 9 (.slice (some ⟨b, 0, none⟩) 1 1)).run Tryd.prog W = .ok (.string (one m.t)) W := fun W b h0 => conv_at1 W b _ h0
  generalize one m.t = S at *
  go_enter Tryd.func33, Tryd.ntmps33
  go_wp2_with (first
    | ((with_reducible refine bxm (m := m) ?hx ?_); (case hx => rfl); intro b1 w1 h1 F1; have HM := Lib.hid h1; have HB := Lib.hid F1.below; obtain ⟨c0, c1, c18, c19⟩ := flds h1; clear h1 F1))
  go_ret2
  exact ⟨rfl, HB.out.alloc HB.out.size _⟩
theorem value_8 (m : Ms) (hk : m.k = 8) (w : World) (ht : Tab w) :
    Calls Tryd.prog 33 #[mv m] w fun e w' => e = .returned (.tuple #[.string (val m), .bool (vOk m)]) ∧ Below w.heap.size w w' := by
  have HV : Hid (val m = m.b) := Lib.hid (by unfold val; rw [hk]; rfl)
  have HO : Hid (vOk m = (decide (m.t ≤ 63) && (kOf m.t == 8))) := Lib.hid (by unfold vOk; rw [hk]; rfl)
  have q1 : ((m.k : Int) == 1) = false := eq_no (n := m.k) (k := 1) (by omega)
  have q2 : ((m.k : Int) == 2) = false := eq_no (n := m.k) (k := 2) (by omega)
  have q3 : ((m.k : Int) == 3) = false := eq_no (n := m.k) (k := 3) (by omega)
  have q4 : ((m.k : Int) == 4) = false := eq_no (n := m.k) (k := 4) (by omega)
  have q6 : ((m.k : Int) == 6) = false := eq_no (n := m.k) (k := 6) (by omega)
  have q5 : ((m.k : Int) == 5) = false := eq_no (n := m.k) (k := 5) (by omega)
  have q7 : ((m.k : Int) == 7) = false := eq_no (n := m.k) (k := 7) (by omega)
  have q8 : ((m.k : Int) == 8) = true := eq_is (n := m.k) (k := 8) (by omega)
  rw [HV.out, HO.out]
  clear HV HO hk
  have HT := Lib.hid ht
  clear ht
  go_enter Tryd.func33, Tryd.ntmps33
  go_wp2_with (first
    | ((with_reducible refine bxm (m := m) ?hx ?_); (case hx => rfl); intro b1 w1 h1 F1; have HM := Lib.hid h1; have HB := Lib.hid F1.below; obtain ⟨c0, c1, c18, c19⟩ := flds h1; clear h1 F1))
  have HT1 := Lib.hid (tab_below HT.out HB.out)
  go_quiet ((go_at_call 49; exact Calls.quiet_of_same ((isUnknown m.t _ (tab_drewN HT1.out _)).mono fun _ _ ⟨a, b⟩ => ⟨a, b.symm⟩)))
  go_wp2
  go_ret2
  exact ⟨rfl, below_drewN HB.out _⟩
theorem value_0 (m : Ms) (hk : ∀ j : Nat, 1 ≤ j → j ≤ 8 → m.k ≠ j) (w : World) :
    Calls Tryd.prog 33 #[mv m] w fun e w' => e = .returned (.tuple #[.string (val m), .bool (vOk m)]) ∧ Below w.heap.size w w' := by
  have HV : Hid (val m = no) := Lib.hid (by unfold val; rw [if_neg (hk 1 (by decide) (by decide)), if_neg (hk 2 (by decide) (by decide)), if_neg (hk 7 (by decide) (by decide)), if_neg (fun h => h.elim (hk 5 (by decide) (by decide)) (hk 8 (by decide) (by decide)))])
  have HO : Hid (vOk m = false) := Lib.hid (by unfold vOk; rw [if_neg (hk 1 (by decide) (by decide)), if_neg (hk 2 (by decide) (by decide)), if_neg (hk 8 (by decide) (by decide))]; exact decide_eq_false (fun h => hk m.k (by omega) (by omega) rfl))
  have q1 : ((m.k : Int) == 1) = false := eq_no (n := m.k) (k := 1) (hk 1 (by decide) (by decide))
  have q2 : ((m.k : Int) == 2) = false := eq_no (n := m.k) (k := 2) (hk 2 (by decide) (by decide))
  have q3 : ((m.k : Int) == 3) = false := eq_no (n := m.k) (k := 3) (hk 3 (by decide) (by decide))
  have q4 : ((m.k : Int) == 4) = false := eq_no (n := m.k) (k := 4) (hk 4 (by decide) (by decide))
  have q6 : ((m.k : Int) == 6) = false := eq_no (n := m.k) (k := 6) (hk 6 (by decide) (by decide))
  have q5 : ((m.k : Int) == 5) = false := eq_no (n := m.k) (k := 5) (hk 5 (by decide) (by decide))
  have q7 : ((m.k : Int) == 7) = false := eq_no (n := m.k) (k := 7) (hk 7 (by decide) (by decide))
  have q8 : ((m.k : Int) == 8) = false := eq_no (n := m.k) (k := 8) (hk 8 (by decide) (by decide))
  rw [HV.out, HO.out]
  clear HV HO hk
  go_enter Tryd.func33, Tryd.ntmps33
  go_wp2_with (first
    | ((with_reducible refine bxm (m := m) ?hx ?_); (case hx => rfl); intro b1 w1 h1 F1; have HM := Lib.hid h1; have HB := Lib.hid F1.below; obtain ⟨c0, c1, c18, c19⟩ := flds h1; clear h1 F1))
  go_ret2
  exact ⟨rfl, HB.out⟩
theorem fvalue (m : Ms) (hi : m.In) (w : World) (ht : Tab w) :
    Calls Tryd.prog 33 #[mv m] w fun e w' => e = .returned (.tuple #[.string (val m), .bool (vOk m)]) ∧ Below w.heap.size w w' := by
  by_cases h : 1 ≤ m.k ∧ m.k ≤ 8
  · have h' : m.k = 1 ∨ m.k = 2 ∨ m.k = 3 ∨ m.k = 4 ∨ m.k = 5 ∨ m.k = 6 ∨ m.k = 7 ∨ m.k = 8 := by omega
    rcases h' with h | h | h | h | h | h | h | h
    · exact value_1 m h hi w
    · exact value_2 m h hi w
    · exact value_3 m h w
    · exact value_4 m h w
    · exact value_5 m h w
    · exact value_6 m h w
    · exact value_7 m h w
    · exact value_8 m h w ht
  · exact value_0 m (fun j h1 h2 e => h (by omega)) w

theorem may_yes (m n : Ms) (V : ByteArray) (y : Bool) (CV : ∀ w, Tab w → Calls Tryd.prog 33 #[mv m] w fun e w' => e = .returned (.tuple #[.string V, .bool true]) ∧ Below w.heap.size w w')
    (CN : ∀ w, Calls Tryd.prog 40 #[mv m] w fun e w' => e = .returned (mv n) ∧ Below w.heap.size w w') (HE : ∀ w, (binOp .eql 35 (mv m) (mv n)).run Tryd.prog w = .ok (.bool y) w) (w : World) (ht : Tab w) :
    Calls Tryd.prog 24 #[mv m] w fun e w' => e = .returned (.bool y) ∧ Below w.heap.size w w' := by
  have CVh := Lib.hid CV
  have CNh := Lib.hid CN
  have HT := Lib.hid ht
  clear CV CN ht
  go_enter Tryd.func24, Tryd.ntmps24
  go_wp2_with (first
    | ((with_reducible refine bxm (m := m) ?hx ?_); (case hx => rfl); intro b1 w1 h1 F1; have HM := Lib.hid h1; have HB := Lib.hid F1.below; clear h1 F1)
    | ((with_reducible refine ldm isM HM.out ?hx ?_); (case hx => rfl))
    | (go_at_call 33; ((with_reducible refine (CVh.out _ (tab_below HT.out HB.out)).mono ?_); rintro e wx ⟨rfl, hb⟩; have HX := Lib.hid (stays HM.out hb); replace HB := Lib.hid (below_on HB.out hb); clear hb)))
  refine wp_region_held_drew (S := fun w' => Below wx.heap.size wx w') (by kernel_rfl) (Below.refl _ _).drew (fun hHeld => ?_)
  refine' wpAnyH_take (i := 0) (oi := { dst := some 10, op := Go.Op.move (Go.Operand.tmp 4), type := 4, pos := "msgs.go:49", after := #[], guard := none }) (v := _) rfl (by kernel_rfl) (by kernel_rfl) (by kernel_rfl) (fun _ _ _ h => h) (Or.inl ⟨by rfl, ?hy1⟩) (by assumption) ?hr1
  case hy1 => (intro _ hSw; (try dsimp only at hSw); go_simp <;> with_reducible rfl)
  simp only [Act.put, List.setIfInBounds_toArray, List.set_cons_zero, List.set_cons_succ]
  refine' wpAnyH_take (i := 1) (oi := { dst := some 11, op := Go.Op.move (Go.Operand.tmp 10), type := 4, pos := "msgs.go:49", after := #[{ on := 0, ground := Go.Ground.data }], guard := none }) (v := _) rfl (by kernel_rfl) (by kernel_rfl) (by kernel_rfl) (fun _ _ _ h => h) (Or.inl ⟨by rfl, ?hy2⟩) (by assumption) ?hr2
  case hy2 => (intro _ hSw; (try dsimp only at hSw); go_simp <;> with_reducible rfl)
  simp only [Act.put, List.setIfInBounds_toArray, List.set_cons_zero, List.set_cons_succ]
  refine' wpAnyH_take (i := 2) (oi := { dst := some 12, op := Go.Op.load 35 (Go.Operand.tmp 1), type := 35, pos := "msgs.go:49", after := #[{ on := 1, ground := Go.Ground.guard }], guard := some (1, true) }) (v := _) rfl (by kernel_rfl) (by kernel_rfl) (by kernel_rfl) (fun _ _ _ h => h) (Or.inl ⟨by rfl, ?hy3⟩) (by assumption) ?hr3
  case hy3 => (intro _ hSw; (try dsimp only at hSw); refine ex_ld isM (stays HX.out hSw) ?_; rfl)
  simp only [Act.put, List.setIfInBounds_toArray, List.set_cons_zero, List.set_cons_succ]
  refine' wpAnyH_take (i := 3) (oi := { dst := some 13, op := Go.Op.load 35 (Go.Operand.tmp 1), type := 35, pos := "msgs.go:49", after := #[{ on := 1, ground := Go.Ground.guard }], guard := some (1, true) }) (v := _) rfl (by kernel_rfl) (by kernel_rfl) (by kernel_rfl) (fun _ _ _ h => h) (Or.inl ⟨by rfl, ?hy4⟩) (by assumption) ?hr4
  case hy4 => (intro _ hSw; (try dsimp only at hSw); refine ex_ld isM (stays HX.out hSw) ?_; rfl)
  simp only [Act.put, List.setIfInBounds_toArray, List.set_cons_zero, List.set_cons_succ]
  refine wpAnyH_ready (rs := [4]) (by kernel_rfl) (by simp) ?_
  refine AllReadyH.cons (o := { dst := some 14, op := Go.Op.call { callee := Go.Callee.value (Go.Operand.func 40), args := #[Go.Operand.tmp 13], argTypes := #[35] }, type := 35, pos := "msgs.go:49", after := #[{ on := 3, ground := Go.Ground.data }, { on := 1, ground := Go.Ground.chain }, { on := 1, ground := Go.Ground.guard }], guard := some (1, true) }) rfl (fun K hK => ?_) AllReadyH.nil
  go_simp
  (with_reducible refine (CNh.out _).mono ?_)
  rintro e wc ⟨rfl, hb⟩
  go_wp2_with fail
  refine hK.out _ _ (below_on hHeld hb) (fun hNext => ?_)
  clear hK K hHeld hb
  have hHeld := hNext
  clear hNext
  (try simp only [Act.put, List.setIfInBounds_toArray, List.set_cons_zero, List.set_cons_succ])
  refine' wpAnyH_take (i := 5) (oi := { dst := some 15, op := Go.Op.binOp Go.BinOp.eql 35 (Go.Operand.tmp 12) (Go.Operand.tmp 14) 35, type := 4, pos := "msgs.go:49", after := #[{ on := 2, ground := Go.Ground.data }, { on := 4, ground := Go.Ground.data }, { on := 1, ground := Go.Ground.guard }], guard := some (1, true) }) (v := _) rfl (by kernel_rfl) (by kernel_rfl) (by kernel_rfl) (fun _ _ _ h => h) (Or.inl ⟨by rfl, ?hy5⟩) (by assumption) ?hr5
  case hy5 => (intro _ hSw; (try dsimp only at hSw); go_simp <;> with_reducible rfl)
  simp only [Act.put, List.setIfInBounds_toArray, List.set_cons_zero, List.set_cons_succ]
  refine' wpAnyH_take (i := 6) (oi := { dst := some 16, op := Go.Op.pick (Go.Operand.tmp 11) (Go.Operand.tmp 15) (Go.Operand.const (Go.Value.bool false)), type := 4, pos := "msgs.go:49", after := #[{ on := 1, ground := Go.Ground.data }, { on := 5, ground := Go.Ground.data }], guard := none }) (v := _) rfl (by kernel_rfl) (by kernel_rfl) (by kernel_rfl) (fun _ _ _ h => h) (Or.inl ⟨by rfl, ?hy6⟩) (by assumption) ?hr6
  case hy6 => (intro _ hSw; (try dsimp only at hSw); go_simp <;> with_reducible rfl)
  simp only [Act.put, List.setIfInBounds_toArray, List.set_cons_zero, List.set_cons_succ]
  refine' wpAnyH_take (i := 7) (oi := { dst := some 2, op := Go.Op.assign (Go.Operand.tmp 16), type := 4, pos := "msgs.go:49", after := #[{ on := 6, ground := Go.Ground.data }, { on := 4, ground := Go.Ground.chain }, { on := 0, ground := Go.Ground.phase }, { on := 1, ground := Go.Ground.phase }, { on := 2, ground := Go.Ground.phase }, { on := 3, ground := Go.Ground.phase }, { on := 4, ground := Go.Ground.phase }, { on := 5, ground := Go.Ground.phase }, { on := 6, ground := Go.Ground.phase }], guard := none }) (v := _) rfl (by kernel_rfl) (by kernel_rfl) (by kernel_rfl) (fun _ _ _ h => h) (Or.inl ⟨by rfl, ?hy7⟩) (by assumption) ?hr7
  case hy7 => (intro _ hSw; (try dsimp only at hSw); go_simp <;> with_reducible rfl)
  simp only [Act.put, List.setIfInBounds_toArray, List.set_cons_zero, List.set_cons_succ]
  refine wpAnyH_done (by kernel_rfl) ?_ _
  go_wp2
  go_ret
  exact ⟨rfl, below_on HB.out hHeld⟩
theorem may_no (m n : Ms) (V : ByteArray) (y : Bool) (CV : ∀ w, Tab w → Calls Tryd.prog 33 #[mv m] w fun e w' => e = .returned (.tuple #[.string V, .bool false]) ∧ Below w.heap.size w w')
    (CN : ∀ w, Calls Tryd.prog 40 #[mv m] w fun e w' => e = .returned (mv n) ∧ Below w.heap.size w w') (_HE : ∀ w, (binOp .eql 35 (mv m) (mv n)).run Tryd.prog w = .ok (.bool y) w) (w : World) (ht : Tab w) :
    Calls Tryd.prog 24 #[mv m] w fun e w' => e = .returned (.bool false) ∧ Below w.heap.size w w' := by
  have CVh := Lib.hid CV
  have CNh := Lib.hid CN
  have HT := Lib.hid ht
  clear CV CN ht
  go_enter Tryd.func24, Tryd.ntmps24
  go_wp2_with (first
    | ((with_reducible refine bxm (m := m) ?hx ?_); (case hx => rfl); intro b1 w1 h1 F1; have HM := Lib.hid h1; have HB := Lib.hid F1.below; clear h1 F1)
    | ((with_reducible refine ldm isM HM.out ?hx ?_); (case hx => rfl))
    | (go_at_call 33; ((with_reducible refine (CVh.out _ (tab_below HT.out HB.out)).mono ?_); rintro e wx ⟨rfl, hb⟩; have HX := Lib.hid (stays HM.out hb); replace HB := Lib.hid (below_on HB.out hb); clear hb)))
  refine wp_region_held_drew (S := fun w' => Below wx.heap.size wx w') (by kernel_rfl) (Below.refl _ _).drew (fun hHeld => ?_)
  refine' wpAnyH_take (i := 0) (oi := { dst := some 10, op := Go.Op.move (Go.Operand.tmp 4), type := 4, pos := "msgs.go:49", after := #[], guard := none }) (v := _) rfl (by kernel_rfl) (by kernel_rfl) (by kernel_rfl) (fun _ _ _ h => h) (Or.inl ⟨by rfl, ?hy8⟩) (by assumption) ?hr8
  case hy8 => (intro _ hSw; (try dsimp only at hSw); go_simp <;> with_reducible rfl)
  simp only [Act.put, List.setIfInBounds_toArray, List.set_cons_zero, List.set_cons_succ]
  refine' wpAnyH_take (i := 1) (oi := { dst := some 11, op := Go.Op.move (Go.Operand.tmp 10), type := 4, pos := "msgs.go:49", after := #[{ on := 0, ground := Go.Ground.data }], guard := none }) (v := _) rfl (by kernel_rfl) (by kernel_rfl) (by kernel_rfl) (fun _ _ _ h => h) (Or.inl ⟨by rfl, ?hy9⟩) (by assumption) ?hr9
  case hy9 => (intro _ hSw; (try dsimp only at hSw); go_simp <;> with_reducible rfl)
  simp only [Act.put, List.setIfInBounds_toArray, List.set_cons_zero, List.set_cons_succ]
  refine wpAnyH_take (i := 2) (oi := { dst := some 12, op := Go.Op.load 35 (Go.Operand.tmp 1), type := 35, pos := "msgs.go:49", after := #[{ on := 1, ground := Go.Ground.guard }], guard := some (1, true) }) (v := undef) rfl (by kernel_rfl) (by kernel_rfl) (by kernel_rfl) (fun _ _ _ h => h) (Or.inr ⟨by rfl, rfl⟩) (by assumption) ?_
  simp only [Act.put, List.setIfInBounds_toArray, List.set_cons_zero, List.set_cons_succ]
  refine wpAnyH_take (i := 3) (oi := { dst := some 13, op := Go.Op.load 35 (Go.Operand.tmp 1), type := 35, pos := "msgs.go:49", after := #[{ on := 1, ground := Go.Ground.guard }], guard := some (1, true) }) (v := undef) rfl (by kernel_rfl) (by kernel_rfl) (by kernel_rfl) (fun _ _ _ h => h) (Or.inr ⟨by rfl, rfl⟩) (by assumption) ?_
  simp only [Act.put, List.setIfInBounds_toArray, List.set_cons_zero, List.set_cons_succ]
  refine wpAnyH_take (i := 4) (oi := { dst := some 14, op := Go.Op.call { callee := Go.Callee.value (Go.Operand.func 40), args := #[Go.Operand.tmp 13], argTypes := #[35] }, type := 35, pos := "msgs.go:49", after := #[{ on := 3, ground := Go.Ground.data }, { on := 1, ground := Go.Ground.chain }, { on := 1, ground := Go.Ground.guard }], guard := some (1, true) }) (v := undef) rfl (by kernel_rfl) (by kernel_rfl) (by kernel_rfl) (fun _ _ _ h => h) (Or.inr ⟨by rfl, rfl⟩) (by assumption) ?_
  simp only [Act.put, List.setIfInBounds_toArray, List.set_cons_zero, List.set_cons_succ]
  refine wpAnyH_take (i := 5) (oi := { dst := some 15, op := Go.Op.binOp Go.BinOp.eql 35 (Go.Operand.tmp 12) (Go.Operand.tmp 14) 35, type := 4, pos := "msgs.go:49", after := #[{ on := 2, ground := Go.Ground.data }, { on := 4, ground := Go.Ground.data }, { on := 1, ground := Go.Ground.guard }], guard := some (1, true) }) (v := undef) rfl (by kernel_rfl) (by kernel_rfl) (by kernel_rfl) (fun _ _ _ h => h) (Or.inr ⟨by rfl, rfl⟩) (by assumption) ?_
  simp only [Act.put, List.setIfInBounds_toArray, List.set_cons_zero, List.set_cons_succ]
  refine' wpAnyH_take (i := 6) (oi := { dst := some 16, op := Go.Op.pick (Go.Operand.tmp 11) (Go.Operand.tmp 15) (Go.Operand.const (Go.Value.bool false)), type := 4, pos := "msgs.go:49", after := #[{ on := 1, ground := Go.Ground.data }, { on := 5, ground := Go.Ground.data }], guard := none }) (v := _) rfl (by kernel_rfl) (by kernel_rfl) (by kernel_rfl) (fun _ _ _ h => h) (Or.inl ⟨by rfl, ?hy10⟩) (by assumption) ?hr10
  case hy10 => (intro _ hSw; (try dsimp only at hSw); go_simp <;> with_reducible rfl)
  simp only [Act.put, List.setIfInBounds_toArray, List.set_cons_zero, List.set_cons_succ]
  refine' wpAnyH_take (i := 7) (oi := { dst := some 2, op := Go.Op.assign (Go.Operand.tmp 16), type := 4, pos := "msgs.go:49", after := #[{ on := 6, ground := Go.Ground.data }, { on := 4, ground := Go.Ground.chain }, { on := 0, ground := Go.Ground.phase }, { on := 1, ground := Go.Ground.phase }, { on := 2, ground := Go.Ground.phase }, { on := 3, ground := Go.Ground.phase }, { on := 4, ground := Go.Ground.phase }, { on := 5, ground := Go.Ground.phase }, { on := 6, ground := Go.Ground.phase }], guard := none }) (v := _) rfl (by kernel_rfl) (by kernel_rfl) (by kernel_rfl) (fun _ _ _ h => h) (Or.inl ⟨by rfl, ?hy11⟩) (by assumption) ?hr11
  case hy11 => (intro _ hSw; (try dsimp only at hSw); go_simp <;> with_reducible rfl)
  simp only [Act.put, List.setIfInBounds_toArray, List.set_cons_zero, List.set_cons_succ]
  refine wpAnyH_done (by kernel_rfl) ?_ _
  go_wp2
  go_ret
  exact ⟨rfl, below_on HB.out hHeld⟩
theorem fmay (m : Ms) (hi : m.In) (w : World) (ht : Tab w) :
    Calls Tryd.prog 24 #[mv m] w fun e w' => e = .returned (.bool (may m)) ∧ Below w.heap.size w w' := by
  have CV := fun w h => fvalue m hi w h
  have CN := fun w => fneeded m w
  have HE := run_eqM m (need m)
  unfold may
  cases hv : vOk m
  · rw [hv] at CV
    exact may_no m _ _ _ CV CN HE w ht
  · rw [hv] at CV
    exact may_yes m _ _ _ CV CN HE w ht
theorem val_le (m : Ms) (n : Nat) (hn : 8 ≤ n) (hb : m.b.size ≤ n) : (val m).size ≤ n := by
  unfold val
  split
  · unfold Pn.putS; split
    · rw [Pn.octets_size]; exact hn
    · exact Nat.zero_le _
  · split
    · unfold Msc.putS; split
      · rcases Msc.octets_size m.s with h | h <;> omega
      · exact Nat.zero_le _
    · split
      · show 1 ≤ n; omega
      · split
        · exact hb
        · exact Nat.zero_le _
theorem put_yes (m : Ms) (V S : ByteArray) (x : Bool) (t E : Nat) (CM : ∀ w, Tab w → Calls Tryd.prog 24 #[mv m] w fun e w' => e = .returned (.bool true) ∧ Below w.heap.size w w')
    (CV : ∀ w, Tab w → Calls Tryd.prog 33 #[mv m] w fun e w' => e = .returned (.tuple #[.string V, .bool x]) ∧ Below w.heap.size w w')
    (CT : ∀ w, Tab w → Calls Tryd.prog 35 #[mv m] w fun e w' => e = .returned (.int .u8 (t : Int)) ∧ Below w.heap.size w w')
    (CP : ∀ w, Calls Tryd.prog 34 #[.int .u8 (t : Int), .bool m.c, .string V] w fun e w' => e = .returned (.tuple #[.string S, .int .i64 (E : Int)]) ∧ Below w.heap.size w w') (w : World) (ht : Tab w) :
    Calls Tryd.prog 16 #[mv m] w fun e w' => e = .returned (.tuple #[.string S, .int .i64 (E : Int)]) ∧ Below w.heap.size w w' := by
  have CMh := Lib.hid CM
  have CVh := Lib.hid CV
  have CTh := Lib.hid CT
  have CPh := Lib.hid CP
  have HT := Lib.hid ht
  clear CM CV CT CP ht
  go_enter Tryd.func16, Tryd.ntmps16
  go_wp2_with (first
    | ((with_reducible refine bxm (m := m) ?hx ?_); (case hx => rfl); intro b1 w1 h1 F1; have HM := Lib.hid h1; have HB := Lib.hid F1.below; clear h1 F1)
    | ((with_reducible refine ldm isM HM.out ?hx ?_); (case hx => rfl))
    | (go_at_call 24; ((with_reducible refine (CMh.out _ (tab_below HT.out HB.out)).mono ?_); rintro e w2 ⟨rfl, hb⟩; replace HM := Lib.hid (stays HM.out hb); replace HB := Lib.hid (below_on HB.out hb); clear hb))
    | (go_at_call 33; ((with_reducible refine (CVh.out _ (tab_below HT.out HB.out)).mono ?_); rintro e wx ⟨rfl, hb⟩; have HX := Lib.hid (stays HM.out hb); replace HB := Lib.hid (below_on HB.out hb); clear hb)))
  have HTX := Lib.hid (tab_below HT.out HB.out)
  refine wp_region_held_drew (S := fun w' => Below wx.heap.size wx w') (by kernel_rfl) (Below.refl _ _).drew (fun hHeld => ?_)
  refine' wpAnyH_take (i := 0) (oi := { dst := some 14, op := Go.Op.load 35 (Go.Operand.tmp 1), type := 35, pos := "msgs.go:58", after := #[], guard := none }) (v := _) rfl (by kernel_rfl) (by kernel_rfl) (by kernel_rfl) (fun _ _ _ h => h) (Or.inl ⟨by rfl, ?hy12⟩) (by assumption) ?hr12
  case hy12 => (intro _ hSw; (try dsimp only at hSw); refine ex_ld isM (stays HX.out hSw) ?_; rfl)
  simp only [Act.put, List.setIfInBounds_toArray, List.set_cons_zero, List.set_cons_succ]
  refine' wpAnyH_take (i := 2) (oi := { dst := some 16, op := Go.Op.fieldAddr 35 (Go.Operand.tmp 1) 1, type := 0, pos := "msgs.go:58", after := #[], guard := none }) (v := _) rfl (by kernel_rfl) (by kernel_rfl) (by kernel_rfl) (fun _ _ _ h => h) (Or.inl ⟨by rfl, ?hy13⟩) (by assumption) ?hr13
  case hy13 => (intro _ hSw; (try dsimp only at hSw); go_simp <;> with_reducible rfl)
  simp only [Act.put, List.setIfInBounds_toArray, List.set_cons_zero, List.set_cons_succ]
  refine' wpAnyH_take (i := 3) (oi := { dst := some 17, op := Go.Op.load 4 (Go.Operand.tmp 16), type := 4, pos := "msgs.go:58", after := #[{ on := 2, ground := Go.Ground.data }], guard := none }) (v := _) rfl (by kernel_rfl) (by kernel_rfl) (by kernel_rfl) (fun _ _ _ h => h) (Or.inl ⟨by rfl, ?hy14⟩) (by assumption) ?hr14
  case hy14 => (intro _ hSw; (try dsimp only at hSw); obtain ⟨c0, c1, c18, c19⟩ := flds (stays HX.out hSw); go_simp <;> with_reducible rfl)
  simp only [Act.put, List.setIfInBounds_toArray, List.set_cons_zero, List.set_cons_succ]
  refine' wpAnyH_take (i := 4) (oi := { dst := some 18, op := Go.Op.move (Go.Operand.tmp 4), type := 9, pos := "msgs.go:58", after := #[], guard := none }) (v := _) rfl (by kernel_rfl) (by kernel_rfl) (by kernel_rfl) (fun _ _ _ h => h) (Or.inl ⟨by rfl, ?hy15⟩) (by assumption) ?hr15
  case hy15 => (intro _ hSw; (try dsimp only at hSw); go_simp <;> with_reducible rfl)
  simp only [Act.put, List.setIfInBounds_toArray, List.set_cons_zero, List.set_cons_succ]
  refine wpAnyH_ready (rs := [1]) (by kernel_rfl) (by simp) ?_
  refine AllReadyH.cons (o := { dst := some 15, op := Go.Op.call { callee := Go.Callee.value (Go.Operand.func 35), args := #[Go.Operand.tmp 14], argTypes := #[35] }, type := 5, pos := "msgs.go:58", after := #[{ on := 0, ground := Go.Ground.data }], guard := none }) rfl (fun K hK => ?_) AllReadyH.nil
  go_simp
  (with_reducible refine (CTh.out _ (tab_below HTX.out (by assumption))).mono ?_)
  rintro e wc ⟨rfl, hb⟩
  go_wp2_with fail
  refine hK.out _ _ (below_on hHeld hb) (fun hNext => ?_)
  clear hK K hHeld hb
  have hHeld := hNext
  clear hNext
  (try simp only [Act.put, List.setIfInBounds_toArray, List.set_cons_zero, List.set_cons_succ])
  refine wpAnyH_ready (rs := [5]) (by kernel_rfl) (by simp) ?_
  refine AllReadyH.cons (o := { dst := some 19, op := Go.Op.call { callee := Go.Callee.value (Go.Operand.func 34), args := #[Go.Operand.tmp 15, Go.Operand.tmp 17, Go.Operand.tmp 18], argTypes := #[5, 4, 9] }, type := 53, pos := "msgs.go:58", after := #[{ on := 1, ground := Go.Ground.data }, { on := 3, ground := Go.Ground.data }, { on := 4, ground := Go.Ground.data }, { on := 1, ground := Go.Ground.chain }], guard := none }) rfl (fun K hK => ?_) AllReadyH.nil
  go_simp
  (with_reducible refine (CPh.out _).mono ?_)
  rintro e wc ⟨rfl, hb⟩
  go_wp2_with fail
  refine hK.out _ _ (below_on hHeld hb) (fun hNext => ?_)
  clear hK K hHeld hb
  have hHeld := hNext
  clear hNext
  (try simp only [Act.put, List.setIfInBounds_toArray, List.set_cons_zero, List.set_cons_succ])
  refine' wpAnyH_take (i := 6) (oi := { dst := some 20, op := Go.Op.extract (Go.Operand.tmp 19) 0, type := 9, pos := "msgs.go:58", after := #[{ on := 5, ground := Go.Ground.data }], guard := none }) (v := _) rfl (by kernel_rfl) (by kernel_rfl) (by kernel_rfl) (fun _ _ _ h => h) (Or.inl ⟨by rfl, ?hy16⟩) (by assumption) ?hr16
  case hy16 => (intro _ hSw; (try dsimp only at hSw); go_simp <;> with_reducible rfl)
  simp only [Act.put, List.setIfInBounds_toArray, List.set_cons_zero, List.set_cons_succ]
  refine' wpAnyH_take (i := 7) (oi := { dst := some 21, op := Go.Op.extract (Go.Operand.tmp 19) 1, type := 36, pos := "msgs.go:58", after := #[{ on := 5, ground := Go.Ground.data }], guard := none }) (v := _) rfl (by kernel_rfl) (by kernel_rfl) (by kernel_rfl) (fun _ _ _ h => h) (Or.inl ⟨by rfl, ?hy17⟩) (by assumption) ?hr17
  case hy17 => (intro _ hSw; (try dsimp only at hSw); go_simp <;> with_reducible rfl)
  simp only [Act.put, List.setIfInBounds_toArray, List.set_cons_zero, List.set_cons_succ]
  refine' wpAnyH_take (i := 8) (oi := { dst := some 2, op := Go.Op.assign (Go.Operand.tmp 20), type := 9, pos := "msgs.go:58", after := #[{ on := 6, ground := Go.Ground.data }, { on := 5, ground := Go.Ground.chain }, { on := 0, ground := Go.Ground.phase }, { on := 1, ground := Go.Ground.phase }, { on := 2, ground := Go.Ground.phase }, { on := 3, ground := Go.Ground.phase }, { on := 4, ground := Go.Ground.phase }, { on := 5, ground := Go.Ground.phase }, { on := 6, ground := Go.Ground.phase }, { on := 7, ground := Go.Ground.phase }], guard := none }) (v := _) rfl (by kernel_rfl) (by kernel_rfl) (by kernel_rfl) (fun _ _ _ h => h) (Or.inl ⟨by rfl, ?hy18⟩) (by assumption) ?hr18
  case hy18 => (intro _ hSw; (try dsimp only at hSw); go_simp <;> with_reducible rfl)
  simp only [Act.put, List.setIfInBounds_toArray, List.set_cons_zero, List.set_cons_succ]
  refine' wpAnyH_take (i := 9) (oi := { dst := some 3, op := Go.Op.assign (Go.Operand.tmp 21), type := 36, pos := "msgs.go:58", after := #[{ on := 7, ground := Go.Ground.data }, { on := 8, ground := Go.Ground.chain }, { on := 0, ground := Go.Ground.phase }, { on := 1, ground := Go.Ground.phase }, { on := 2, ground := Go.Ground.phase }, { on := 3, ground := Go.Ground.phase }, { on := 4, ground := Go.Ground.phase }, { on := 5, ground := Go.Ground.phase }, { on := 6, ground := Go.Ground.phase }, { on := 7, ground := Go.Ground.phase }, { on := 8, ground := Go.Ground.phase }], guard := none }) (v := _) rfl (by kernel_rfl) (by kernel_rfl) (by kernel_rfl) (fun _ _ _ h => h) (Or.inl ⟨by rfl, ?hy19⟩) (by assumption) ?hr19
  case hy19 => (intro _ hSw; (try dsimp only at hSw); go_simp <;> with_reducible rfl)
  simp only [Act.put, List.setIfInBounds_toArray, List.set_cons_zero, List.set_cons_succ]
  refine wpAnyH_done (by kernel_rfl) ?_ _
  go_wp2
  go_ret2
  exact ⟨rfl, below_on HB.out hHeld⟩
theorem put_no (m : Ms) (CM : ∀ w, Tab w → Calls Tryd.prog 24 #[mv m] w fun e w' => e = .returned (.bool false) ∧ Below w.heap.size w w') (w : World) (ht : Tab w) :
    Calls Tryd.prog 16 #[mv m] w fun e w' => e = .returned (.tuple #[.string no, .int .i64 2]) ∧ Below w.heap.size w w' := by
  have CMh := Lib.hid CM
  have HT := Lib.hid ht
  clear CM ht
  go_enter Tryd.func16, Tryd.ntmps16
  go_wp2_with (first
    | ((with_reducible refine bxm (m := m) ?hx ?_); (case hx => rfl); intro b1 w1 h1 F1; have HM := Lib.hid h1; have HB := Lib.hid F1.below; clear h1 F1)
    | ((with_reducible refine ldm isM HM.out ?hx ?_); (case hx => rfl))
    | (go_at_call 24; ((with_reducible refine (CMh.out _ (tab_below HT.out HB.out)).mono ?_); rintro e w2 ⟨rfl, hb⟩; replace HB := Lib.hid (below_on HB.out hb); clear hb)))
  go_ret2
  exact ⟨rfl, HB.out⟩
theorem fput (m : Ms) (hi : m.In) (hb : m.b.size ≤ 281474976710656) (w : World) (ht : Tab w) :
    Calls Tryd.prog 16 #[mv m] w fun e w' => e = .returned (.tuple #[.string (putS m), .int .i64 (putE m : Int)]) ∧ Below w.heap.size w w' := by
  have CM := fun w h => fmay m hi w h
  cases hm : may m
  · rw [hm] at CM
    have e1 : putS m = no := by unfold putS; rw [hm]; rfl
    have e2 : putE m = 2 := by unfold putE; rw [hm]; rfl
    rw [e1, e2]
    exact put_no m CM w ht
  · rw [hm] at CM
    have e1 : putS m = Tlv.putS (ty m) m.c (val m) := by unfold putS; rw [hm]; rfl
    have e2 : putE m = Tlv.putE (ty m) (val m) := by unfold putE; rw [hm]; rfl
    have hk := may_k hm
    have ht' := ty_le hm
    have hv := val_le m 281474976710656 (by decide) hb
    rw [e1, e2]
    exact put_yes m _ _ _ _ _ CM (fun w h => fvalue m hi w h) (fun w h => ftypeOf m hk.2 w h) (fun w => Tlv.fput _ (by omega) _ _ (by omega) w) w ht
theorem octet_yes (m : Ms) (S : ByteArray) (t E n : Nat) (CM : ∀ w, Tab w → Calls Tryd.prog 24 #[mv m] w fun e w' => e = .returned (.bool true) ∧ Below w.heap.size w w')
    (CT : ∀ w, Tab w → Calls Tryd.prog 35 #[mv m] w fun e w' => e = .returned (.int .u8 (t : Int)) ∧ Below w.heap.size w w')
    (CP : ∀ w, Calls Tryd.prog 34 #[.int .u8 (t : Int), .bool m.c, .string ⟨#[]⟩] w fun e w' => e = .returned (.tuple #[.string S, .int .i64 (E : Int)]) ∧ Below w.heap.size w w')
    (i0 : ∀ W, (Instr.index 9 (.string S) (.int .i64 0)).run Tryd.prog W = .ok (.int .u8 (n : Int)) W) (w : World) (ht : Tab w) :
    Calls Tryd.prog 45 #[mv m] w fun e w' => e = .returned (.int .u8 (n : Int)) ∧ Below w.heap.size w w' := by
  have CMh := Lib.hid CM
  have CTh := Lib.hid CT
  have CPh := Lib.hid CP
  have HT := Lib.hid ht
  clear CM CT CP ht
  go_enter Tryd.func45, Tryd.ntmps45
  go_wp2_with (first
    | ((with_reducible refine bxm (m := m) ?hx ?_); (case hx => rfl); intro b1 w1 h1 F1; have HM := Lib.hid h1; have HB := Lib.hid F1.below; clear h1 F1)
    | ((with_reducible refine ldm isM HM.out ?hx ?_); (case hx => rfl))
    | (go_at_call 24; ((with_reducible refine (CMh.out _ (tab_below HT.out HB.out)).mono ?_); rintro e wx ⟨rfl, hb⟩; have HX := Lib.hid (stays HM.out hb); replace HB := Lib.hid (below_on HB.out hb); clear hb)))
  have HTX := Lib.hid (tab_below HT.out HB.out)
  refine wp_region_held_drew (S := fun w' => Below wx.heap.size wx w') (by kernel_rfl) (Below.refl _ _).drew (fun hHeld => ?_)
  refine' wpAnyH_take (i := 0) (oi := { dst := some 9, op := Go.Op.load 35 (Go.Operand.tmp 1), type := 35, pos := "msgs.go:95", after := #[], guard := none }) (v := _) rfl (by kernel_rfl) (by kernel_rfl) (by kernel_rfl) (fun _ _ _ h => h) (Or.inl ⟨by rfl, ?hy20⟩) (by assumption) ?hr20
  case hy20 => (intro _ hSw; (try dsimp only at hSw); refine ex_ld isM (stays HX.out hSw) ?_; rfl)
  simp only [Act.put, List.setIfInBounds_toArray, List.set_cons_zero, List.set_cons_succ]
  refine' wpAnyH_take (i := 2) (oi := { dst := some 11, op := Go.Op.fieldAddr 35 (Go.Operand.tmp 1) 1, type := 0, pos := "msgs.go:95", after := #[], guard := none }) (v := _) rfl (by kernel_rfl) (by kernel_rfl) (by kernel_rfl) (fun _ _ _ h => h) (Or.inl ⟨by rfl, ?hy21⟩) (by assumption) ?hr21
  case hy21 => (intro _ hSw; (try dsimp only at hSw); go_simp <;> with_reducible rfl)
  simp only [Act.put, List.setIfInBounds_toArray, List.set_cons_zero, List.set_cons_succ]
  refine' wpAnyH_take (i := 3) (oi := { dst := some 12, op := Go.Op.load 4 (Go.Operand.tmp 11), type := 4, pos := "msgs.go:95", after := #[{ on := 2, ground := Go.Ground.data }], guard := none }) (v := _) rfl (by kernel_rfl) (by kernel_rfl) (by kernel_rfl) (fun _ _ _ h => h) (Or.inl ⟨by rfl, ?hy22⟩) (by assumption) ?hr22
  case hy22 => (intro _ hSw; (try dsimp only at hSw); obtain ⟨c0, c1, c18, c19⟩ := flds (stays HX.out hSw); go_simp <;> with_reducible rfl)
  simp only [Act.put, List.setIfInBounds_toArray, List.set_cons_zero, List.set_cons_succ]
  refine wpAnyH_ready (rs := [1]) (by kernel_rfl) (by simp) ?_
  refine AllReadyH.cons (o := { dst := some 10, op := Go.Op.call { callee := Go.Callee.value (Go.Operand.func 35), args := #[Go.Operand.tmp 9], argTypes := #[35] }, type := 5, pos := "msgs.go:95", after := #[{ on := 0, ground := Go.Ground.data }], guard := none }) rfl (fun K hK => ?_) AllReadyH.nil
  go_simp
  (with_reducible refine (CTh.out _ (tab_below HTX.out (by assumption))).mono ?_)
  rintro e wc ⟨rfl, hb⟩
  go_wp2_with fail
  refine hK.out _ _ (below_on hHeld hb) (fun hNext => ?_)
  clear hK K hHeld hb
  have hHeld := hNext
  clear hNext
  (try simp only [Act.put, List.setIfInBounds_toArray, List.set_cons_zero, List.set_cons_succ])
  refine wpAnyH_ready (rs := [4]) (by kernel_rfl) (by simp) ?_
  refine AllReadyH.cons (o := { dst := some 13, op := Go.Op.call { callee := Go.Callee.value (Go.Operand.func 34), args := #[Go.Operand.tmp 10, Go.Operand.tmp 12, Go.Operand.const (Go.Value.string { data := #[] })], argTypes := #[5, 4, 9] }, type := 53, pos := "msgs.go:95", after := #[{ on := 1, ground := Go.Ground.data }, { on := 3, ground := Go.Ground.data }, { on := 1, ground := Go.Ground.chain }], guard := none }) rfl (fun K hK => ?_) AllReadyH.nil
  go_simp
  (with_reducible refine (CPh.out _).mono ?_)
  rintro e wc ⟨rfl, hb⟩
  go_wp2_with fail
  refine hK.out _ _ (below_on hHeld hb) (fun hNext => ?_)
  clear hK K hHeld hb
  have hHeld := hNext
  clear hNext
  (try simp only [Act.put, List.setIfInBounds_toArray, List.set_cons_zero, List.set_cons_succ])
  refine' wpAnyH_take (i := 5) (oi := { dst := some 8, op := Go.Op.move (Go.Operand.tmp 13), type := 53, pos := "msgs.go:95", after := #[{ on := 4, ground := Go.Ground.data }], guard := none }) (v := _) rfl (by kernel_rfl) (by kernel_rfl) (by kernel_rfl) (fun _ _ _ h => h) (Or.inl ⟨by rfl, ?hy23⟩) (by assumption) ?hr23
  case hy23 => (intro _ hSw; (try dsimp only at hSw); go_simp <;> with_reducible rfl)
  simp only [Act.put, List.setIfInBounds_toArray, List.set_cons_zero, List.set_cons_succ]
  refine' wpAnyH_take (i := 6) (oi := { dst := some 14, op := Go.Op.extract (Go.Operand.tmp 8) 0, type := 9, pos := "msgs.go:95", after := #[{ on := 5, ground := Go.Ground.data }], guard := none }) (v := _) rfl (by kernel_rfl) (by kernel_rfl) (by kernel_rfl) (fun _ _ _ h => h) (Or.inl ⟨by rfl, ?hy24⟩) (by assumption) ?hr24
  case hy24 => (intro _ hSw; (try dsimp only at hSw); go_simp <;> with_reducible rfl)
  simp only [Act.put, List.setIfInBounds_toArray, List.set_cons_zero, List.set_cons_succ]
  refine' wpAnyH_take (i := 7) (oi := { dst := some 15, op := Go.Op.extract (Go.Operand.tmp 8) 1, type := 36, pos := "msgs.go:95", after := #[{ on := 5, ground := Go.Ground.data }, { on := 8, ground := Go.Ground.gcOnly Go.Departure.lateStores }], guard := none }) (v := _) rfl (by kernel_rfl) (by kernel_rfl) (by kernel_rfl) (fun _ _ _ h => h) (Or.inl ⟨by rfl, ?hy25⟩) (by assumption) ?hr25
  case hy25 => (intro _ hSw; (try dsimp only at hSw); go_simp <;> with_reducible rfl)
  simp only [Act.put, List.setIfInBounds_toArray, List.set_cons_zero, List.set_cons_succ]
  refine' wpAnyH_take (i := 8) (oi := { dst := some 3, op := Go.Op.assign (Go.Operand.tmp 14), type := 9, pos := "msgs.go:95", after := #[{ on := 6, ground := Go.Ground.data }, { on := 4, ground := Go.Ground.chain }, { on := 0, ground := Go.Ground.phase }, { on := 1, ground := Go.Ground.phase }, { on := 2, ground := Go.Ground.phase }, { on := 3, ground := Go.Ground.phase }, { on := 4, ground := Go.Ground.phase }, { on := 5, ground := Go.Ground.phase }, { on := 6, ground := Go.Ground.phase }, { on := 7, ground := Go.Ground.textOnly Go.Departure.lateStores }], guard := none }) (v := _) rfl (by kernel_rfl) (by kernel_rfl) (by kernel_rfl) (fun _ _ _ h => h) (Or.inl ⟨by rfl, ?hy26⟩) (by assumption) ?hr26
  case hy26 => (intro _ hSw; (try dsimp only at hSw); go_simp <;> with_reducible rfl)
  simp only [Act.put, List.setIfInBounds_toArray, List.set_cons_zero, List.set_cons_succ]
  refine' wpAnyH_take (i := 9) (oi := { dst := some 4, op := Go.Op.assign (Go.Operand.tmp 15), type := 36, pos := "msgs.go:95", after := #[{ on := 7, ground := Go.Ground.data }, { on := 8, ground := Go.Ground.chain }, { on := 0, ground := Go.Ground.phase }, { on := 1, ground := Go.Ground.phase }, { on := 2, ground := Go.Ground.phase }, { on := 3, ground := Go.Ground.phase }, { on := 4, ground := Go.Ground.phase }, { on := 5, ground := Go.Ground.phase }, { on := 6, ground := Go.Ground.phase }, { on := 7, ground := Go.Ground.phase }, { on := 8, ground := Go.Ground.phase }], guard := none }) (v := _) rfl (by kernel_rfl) (by kernel_rfl) (by kernel_rfl) (fun _ _ _ h => h) (Or.inl ⟨by rfl, ?hy27⟩) (by assumption) ?hr27
  case hy27 => (intro _ hSw; (try dsimp only at hSw); go_simp <;> with_reducible rfl)
  simp only [Act.put, List.setIfInBounds_toArray, List.set_cons_zero, List.set_cons_succ]
  refine wpAnyH_done (by kernel_rfl) ?_ _
  go_wp2
  go_ret
  exact ⟨rfl, below_on HB.out hHeld⟩
theorem octet_no (m : Ms) (CM : ∀ w, Tab w → Calls Tryd.prog 24 #[mv m] w fun e w' => e = .returned (.bool false) ∧ Below w.heap.size w w') (w : World) (ht : Tab w) :
    Calls Tryd.prog 45 #[mv m] w fun e w' => e = .returned (.int .u8 0) ∧ Below w.heap.size w w' := by
  have CMh := Lib.hid CM
  have HT := Lib.hid ht
  clear CM ht
  go_enter Tryd.func45, Tryd.ntmps45
  go_wp2_with (first
    | ((with_reducible refine bxm (m := m) ?hx ?_); (case hx => rfl); intro b1 w1 h1 F1; have HM := Lib.hid h1; have HB := Lib.hid F1.below; clear h1 F1)
    | ((with_reducible refine ldm isM HM.out ?hx ?_); (case hx => rfl))
    | (go_at_call 24; ((with_reducible refine (CMh.out _ (tab_below HT.out HB.out)).mono ?_); rintro e w2 ⟨rfl, hb⟩; replace HB := Lib.hid (below_on HB.out hb); clear hb)))
  go_ret
  exact ⟨rfl, HB.out⟩
theorem at_string (s : ByteArray) (i : Nat) (h : i < s.size) (n : Nat) (hx : n = s[i].toNat) (W : World) :
    (Instr.index 9 (.string s) (.int .i64 (i : Int))).run Tryd.prog W = .ok (.int .u8 (n : Int)) W := by
  have u := Tryd.underlying9
  have j : (0 : Int) ≤ (i : Int) := by omega
  have k : (i : Int) < (s.size : Int) := by omega
  rw [hx]
  go_simp <;> simp
theorem foctet (m : Ms) (hi : m.In) (w : World) (ht : Tab w) :
    Calls Tryd.prog 45 #[mv m] w fun e w' => e = .returned (.int .u8 (oct m : Int)) ∧ Below w.heap.size w w' := by
  have CM := fun w h => fmay m hi w h
  cases hm : may m
  · rw [hm] at CM
    have e1 : oct m = 0 := by unfold oct; rw [hm]; rfl
    rw [e1]
    exact octet_no m CM w ht
  · rw [hm] at CM
    have e1 : oct m = Ea.addr (ty m) m.c := by unfold oct; rw [hm]; rfl
    have hk := may_k hm
    have ht' := ty_le hm
    have hz : Tlv.putE (ty m) no = 0 := Tlv.putE_of ht' (by decide)
    have hl := Tlv.bytes_list (x := ⟨ty m, m.c, no⟩) ⟨ht', by show 0 ≤ 127; decide⟩
    have hs : 0 < (Tlv.It.bytes ⟨ty m, m.c, no⟩).size := by rw [Tlv.bytes_size (x := ⟨ty m, m.c, no⟩) ⟨ht', by show 0 ≤ 127; decide⟩]; omega
    have h0 := get_list _ 0 hs
    rw [hl] at h0
    have h1 : (Tlv.It.bytes ⟨ty m, m.c, no⟩)[0] = UInt8.ofNat (Ea.addr (ty m) m.c) := Option.some.inj h0
    rw [e1]
    have CP : ∀ w, Calls Tryd.prog 34 #[.int .u8 (ty m : Int), .bool m.c, .string ⟨#[]⟩] w fun e w' => e = .returned (.tuple #[.string (Tlv.It.bytes ⟨ty m, m.c, no⟩), .int .i64 ((0 : Nat) : Int)]) ∧ Below w.heap.size w w' := fun w => by
      have := Tlv.fput (ty m) (by omega) m.c no (by decide) w
      rw [Tlv.putS_ok hz, hz] at this
      exact this
    exact octet_yes m _ _ _ _ CM (fun w h => ftypeOf m hk.2 w h) CP (fun W => at_string _ 0 hs _ (by rw [h1, Ea.nat_oct _ (Ea.addr_lt _ _)]) W) w ht
end Go.Proofs.YtakkhdammmcjcaaDoor.Msgs
