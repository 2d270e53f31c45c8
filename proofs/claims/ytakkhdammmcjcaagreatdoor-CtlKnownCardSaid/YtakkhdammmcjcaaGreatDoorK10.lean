/-
  Layer 22, put together: MsgsVal, PnGet. Conditions: as each theorem names them.
-/
import Derived.Test.YtakkhdammmcjcaaGreatDoorK08
import Derived.Test.YtakkhdammmcjcaaGreatDoorK09
import Derived.Test.YtakkhdammmcjcaaGreatDoorK01
import Derived.StillTailTactics
namespace Go.Proofs.YtakkhdammmcjcaaGreatDoor.Msgs
open Go.RowKit Base Mem
set_option maxRecDepth 20000
theorem tab_drewN {w : World} (h : Tab w) (n : Nat) : Tab (w.drewN n) := h
theorem in_k {n k : Nat} (h : n = k) : (n : Int) = (k : Int) := by rw [h]
theorem value_1 (m : Ms) (hk : m.k = 1) (hi : m.In) (w : World) :
 Calls Tryz.prog 48 #[mv m] w fun e w' => e = .returned (.tuple #[.string (val m), .bool (vOk m)]) ∧ Below w.heap.size w w' := by
 have HV : Hid (val m = Pn.putS m.p) := Lib.hid (by unfold val; rw [hk]; rfl)
 have HO : Hid (vOk m = (Pn.putE m.p == 0)) := Lib.hid (by unfold vOk; rw [hk]; show Pn.may m.p = _; unfold Pn.putE; cases Pn.may m.p <;> rfl)
 have q1 : ((m.k : Int) == 1) = true := eq_is (n := m.k) (k := 1) (by omega)
 rw [HV.out, HO.out]
 clear HV HO hk
 have CP := Lib.hid (fun w => Pn.fput m.p hi.p w)
 clear hi
 generalize Pn.putS m.p = S at *
 generalize Pn.putE m.p = E at *
 go_enter Tryz.func48, Tryz.ntmps48
 go_wp2_with (first
  | ((with_reducible refine bxm (m := m) ?hx ?_); (case hx => rfl); intro b1 w1 h1 F1; have HM := Lib.hid h1; have HB := Lib.hid F1.below; obtain ⟨c0, c1, c18, c19⟩ := flds h1; clear h1 F1)
  | ((with_reducible refine ldp isP HM.out ?hx ?_); (case hx => rfl))
  | (go_at_call 68; ((with_reducible refine (CP.out _).mono ?_); rintro e w2 ⟨rfl, hb⟩; replace HB := Lib.hid (below_on HB.out hb); clear hb c0 c1 c18 c19)))
 go_ret2
 exact ⟨rfl, HB.out⟩
theorem value_2 (m : Ms) (hk : m.k = 2) (hi : m.In) (w : World) :
 Calls Tryz.prog 48 #[mv m] w fun e w' => e = .returned (.tuple #[.string (val m), .bool (vOk m)]) ∧ Below w.heap.size w w' := by
 have HV : Hid (val m = Msc.putS m.s) := Lib.hid (by unfold val; rw [hk]; rfl)
 have HO : Hid (vOk m = (Msc.putE m.s == 0)) := Lib.hid (by unfold vOk; rw [hk]; show Msc.may m.s = _; unfold Msc.putE; cases Msc.may m.s <;> rfl)
 have q1 : ((m.k : Int) == 1) = false := eq_no (n := m.k) (k := 1) (by omega)
 have q2 : ((m.k : Int) == 2) = true := eq_is (n := m.k) (k := 2) (by omega)
 rw [HV.out, HO.out]
 clear HV HO hk
 have CP := Lib.hid (fun w => Msc.fput m.s hi.s w)
 clear hi
 generalize Msc.putS m.s = S at *
 generalize Msc.putE m.s = E at *
 go_enter Tryz.func48, Tryz.ntmps48
 go_wp2_with (first
  | ((with_reducible refine bxm (m := m) ?hx ?_); (case hx => rfl); intro b1 w1 h1 F1; have HM := Lib.hid h1; have HB := Lib.hid F1.below; obtain ⟨c0, c1, c18, c19⟩ := flds h1; clear h1 F1)
  | ((with_reducible refine lds isS HM.out ?hx ?_); (case hx => rfl))
  | (go_at_call 69; ((with_reducible refine (CP.out _).mono ?_); rintro e w2 ⟨rfl, hb⟩; replace HB := Lib.hid (below_on HB.out hb); clear hb c0 c1 c18 c19)))
 go_ret2
 exact ⟨rfl, HB.out⟩
theorem value_3 (m : Ms) (hk : m.k = 3) (w : World) :
 Calls Tryz.prog 48 #[mv m] w fun e w' => e = .returned (.tuple #[.string (val m), .bool (vOk m)]) ∧ Below w.heap.size w w' := by
 have HV : Hid (val m = no) := Lib.hid (by unfold val; rw [hk]; rfl)
 have HO : Hid (vOk m = true) := Lib.hid (by unfold vOk; rw [hk]; rfl)
 have q1 : ((m.k : Int) == 1) = false := eq_no (n := m.k) (k := 1) (by omega)
 have q2 : ((m.k : Int) == 2) = false := eq_no (n := m.k) (k := 2) (by omega)
 have q3 : ((m.k : Int) == 3) = true := eq_is (n := m.k) (k := 3) (by omega)
 rw [HV.out, HO.out]
 clear HV HO hk
 go_enter Tryz.func48, Tryz.ntmps48
 go_wp2_with (first
  | ((with_reducible refine bxm (m := m) ?hx ?_); (case hx => rfl); intro b1 w1 h1 F1; have HM := Lib.hid h1; have HB := Lib.hid F1.below; obtain ⟨c0, c1, c18, c19⟩ := flds h1; clear h1 F1))
 go_ret2
 exact ⟨rfl, HB.out⟩
theorem value_4 (m : Ms) (hk : m.k = 4) (w : World) :
 Calls Tryz.prog 48 #[mv m] w fun e w' => e = .returned (.tuple #[.string (val m), .bool (vOk m)]) ∧ Below w.heap.size w w' := by
 have HV : Hid (val m = no) := Lib.hid (by unfold val; rw [hk]; rfl)
 have HO : Hid (vOk m = true) := Lib.hid (by unfold vOk; rw [hk]; rfl)
 have q1 : ((m.k : Int) == 1) = false := eq_no (n := m.k) (k := 1) (by omega)
 have q2 : ((m.k : Int) == 2) = false := eq_no (n := m.k) (k := 2) (by omega)
 have q3 : ((m.k : Int) == 3) = false := eq_no (n := m.k) (k := 3) (by omega)
 have q4 : ((m.k : Int) == 4) = true := eq_is (n := m.k) (k := 4) (by omega)
 rw [HV.out, HO.out]
 clear HV HO hk
 go_enter Tryz.func48, Tryz.ntmps48
 go_wp2_with (first
  | ((with_reducible refine bxm (m := m) ?hx ?_); (case hx => rfl); intro b1 w1 h1 F1; have HM := Lib.hid h1; have HB := Lib.hid F1.below; obtain ⟨c0, c1, c18, c19⟩ := flds h1; clear h1 F1))
 go_ret2
 exact ⟨rfl, HB.out⟩
theorem value_6 (m : Ms) (hk : m.k = 6) (w : World) :
 Calls Tryz.prog 48 #[mv m] w fun e w' => e = .returned (.tuple #[.string (val m), .bool (vOk m)]) ∧ Below w.heap.size w w' := by
 have HV : Hid (val m = no) := Lib.hid (by unfold val; rw [hk]; rfl)
 have HO : Hid (vOk m = true) := Lib.hid (by unfold vOk; rw [hk]; rfl)
 have q1 : ((m.k : Int) == 1) = false := eq_no (n := m.k) (k := 1) (by omega)
 have q2 : ((m.k : Int) == 2) = false := eq_no (n := m.k) (k := 2) (by omega)
 have q3 : ((m.k : Int) == 3) = false := eq_no (n := m.k) (k := 3) (by omega)
 have q4 : ((m.k : Int) == 4) = false := eq_no (n := m.k) (k := 4) (by omega)
 have q6 : ((m.k : Int) == 6) = true := eq_is (n := m.k) (k := 6) (by omega)
 rw [HV.out, HO.out]
 clear HV HO hk
 go_enter Tryz.func48, Tryz.ntmps48
 go_wp2_with (first
  | ((with_reducible refine bxm (m := m) ?hx ?_); (case hx => rfl); intro b1 w1 h1 F1; have HM := Lib.hid h1; have HB := Lib.hid F1.below; obtain ⟨c0, c1, c18, c19⟩ := flds h1; clear h1 F1))
 go_ret2
 exact ⟨rfl, HB.out⟩
theorem value_5 (m : Ms) (hk : m.k = 5) (w : World) :
 Calls Tryz.prog 48 #[mv m] w fun e w' => e = .returned (.tuple #[.string (val m), .bool (vOk m)]) ∧ Below w.heap.size w w' := by
 have HV : Hid (val m = m.b) := Lib.hid (by unfold val; rw [hk]; rfl)
 have HO : Hid (vOk m = true) := Lib.hid (by unfold vOk; rw [hk]; rfl)
 have q1 : ((m.k : Int) == 1) = false := eq_no (n := m.k) (k := 1) (by omega)
 have q2 : ((m.k : Int) == 2) = false := eq_no (n := m.k) (k := 2) (by omega)
 have q3 : ((m.k : Int) == 3) = false := eq_no (n := m.k) (k := 3) (by omega)
 have q4 : ((m.k : Int) == 4) = false := eq_no (n := m.k) (k := 4) (by omega)
 have q6 : ((m.k : Int) == 6) = false := eq_no (n := m.k) (k := 6) (by omega)
 have q5 : ((m.k : Int) == 5) = true := eq_is (n := m.k) (k := 5) (by omega)
 rw [HV.out, HO.out]
 clear HV HO hk
 go_enter Tryz.func48, Tryz.ntmps48
 go_wp2_with (first
  | ((with_reducible refine bxm (m := m) ?hx ?_); (case hx => rfl); intro b1 w1 h1 F1; have HM := Lib.hid h1; have HB := Lib.hid F1.below; obtain ⟨c0, c1, c18, c19⟩ := flds h1; clear h1 F1))
 go_ret2
 exact ⟨rfl, HB.out⟩
theorem value_7 (m : Ms) (hk : m.k = 7) (w : World) :
 Calls Tryz.prog 48 #[mv m] w fun e w' => e = .returned (.tuple #[.string (val m), .bool (vOk m)]) ∧ Below w.heap.size w w' := by
 have HV : Hid (val m = one m.t) := Lib.hid (by unfold val; rw [hk]; rfl)
 have HO : Hid (vOk m = true) := Lib.hid (by unfold vOk; rw [hk]; rfl)
 have q1 : ((m.k : Int) == 1) = false := eq_no (n := m.k) (k := 1) (by omega)
 have q2 : ((m.k : Int) == 2) = false := eq_no (n := m.k) (k := 2) (by omega)
 have q3 : ((m.k : Int) == 3) = false := eq_no (n := m.k) (k := 3) (by omega)
 have q4 : ((m.k : Int) == 4) = false := eq_no (n := m.k) (k := 4) (by omega)
 have q6 : ((m.k : Int) == 6) = false := eq_no (n := m.k) (k := 6) (by omega)
 have q5 : ((m.k : Int) == 5) = false := eq_no (n := m.k) (k := 5) (by omega)
 have q7 : ((m.k : Int) == 7) = true := eq_is (n := m.k) (k := 7) (by omega)
 rw [HV.out, HO.out]
 clear HV HO hk
 have hcv : ∀ (W : World) (b : Nat), W.cell? ⟨b, 0, none⟩ = some (.int .u8 (m.t : Int)) → (convert 126 9 (.slice (some ⟨b, 0, none⟩) 1 1)).run Tryz.prog W = .ok (.string (one m.t)) W := fun W b h0 => conv_at1 W b _ h0
 generalize one m.t = S at *
 go_enter Tryz.func48, Tryz.ntmps48
 go_wp2_with (first
  | ((with_reducible refine bxm (m := m) ?hx ?_); (case hx => rfl); intro b1 w1 h1 F1; have HM := Lib.hid h1; have HB := Lib.hid F1.below; obtain ⟨c0, c1, c18, c19⟩ := flds h1; clear h1 F1))
 go_ret2
 exact ⟨rfl, HB.out.alloc HB.out.size _⟩
theorem value_8 (m : Ms) (hk : m.k = 8) (w : World) (ht : Tab w) :
 Calls Tryz.prog 48 #[mv m] w fun e w' => e = .returned (.tuple #[.string (val m), .bool (vOk m)]) ∧ Below w.heap.size w w' := by
 have HV : Hid (val m = m.b) := Lib.hid (by unfold val; rw [hk]; rfl)
 have HO : Hid (vOk m = (decide (m.t ≤ 63) && (kOf m.t == 8))) := Lib.hid (by unfold vOk; rw [hk]; rfl)
 have q1 : ((m.k : Int) == 1) = false := eq_no (n := m.k) (k := 1) (by omega)
 have q2 : ((m.k : Int) == 2) = false := eq_no (n := m.k) (k := 2) (by omega)
 have q3 : ((m.k : Int) == 3) = false := eq_no (n := m.k) (k := 3) (by omega)
 have q4 : ((m.k : Int) == 4) = false := eq_no (n := m.k) (k := 4) (by omega)
 have q6 : ((m.k : Int) == 6) = false := eq_no (n := m.k) (k := 6) (by omega)
 have q5 : ((m.k : Int) == 5) = false := eq_no (n := m.k) (k := 5) (by omega)
 have q7 : ((m.k : Int) == 7) = false := eq_no (n := m.k) (k := 7) (by omega)
 have q8 : ((m.k : Int) == 8) = true := eq_is (n := m.k) (k := 8) (by omega)
 rw [HV.out, HO.out]
 clear HV HO hk
 have HT := Lib.hid ht
 clear ht
 go_enter Tryz.func48, Tryz.ntmps48
 go_wp2_with (first
  | ((with_reducible refine bxm (m := m) ?hx ?_); (case hx => rfl); intro b1 w1 h1 F1; have HM := Lib.hid h1; have HB := Lib.hid F1.below; obtain ⟨c0, c1, c18, c19⟩ := flds h1; clear h1 F1))
 have HT1 := Lib.hid (tab_below HT.out HB.out)
 go_quiet ((go_at_call 70; exact Calls.quiet_of_same ((isUnknown m.t _ (tab_drewN HT1.out _)).mono fun _ _ ⟨a, b⟩ => ⟨a, b.symm⟩)))
 go_wp2
 go_ret2
 exact ⟨rfl, below_drewN HB.out _⟩
theorem value_0 (m : Ms) (hk : ∀ j : Nat, 1 ≤ j → j ≤ 8 → m.k ≠ j) (w : World) :
 Calls Tryz.prog 48 #[mv m] w fun e w' => e = .returned (.tuple #[.string (val m), .bool (vOk m)]) ∧ Below w.heap.size w w' := by
 have HV : Hid (val m = no) := Lib.hid (by unfold val; rw [if_neg (hk 1 (by decide) (by decide)), if_neg (hk 2 (by decide) (by decide)), if_neg (hk 7 (by decide) (by decide)), if_neg (fun h => h.elim (hk 5 (by decide) (by decide)) (hk 8 (by decide) (by decide)))])
 have HO : Hid (vOk m = false) := Lib.hid (by unfold vOk; rw [if_neg (hk 1 (by decide) (by decide)), if_neg (hk 2 (by decide) (by decide)), if_neg (hk 8 (by decide) (by decide))]; exact decide_eq_false (fun h => hk m.k (by omega) (by omega) rfl))
 have q1 : ((m.k : Int) == 1) = false := eq_no (n := m.k) (k := 1) (hk 1 (by decide) (by decide))
 have q2 : ((m.k : Int) == 2) = false := eq_no (n := m.k) (k := 2) (hk 2 (by decide) (by decide))
 have q3 : ((m.k : Int) == 3) = false := eq_no (n := m.k) (k := 3) (hk 3 (by decide) (by decide))
 have q4 : ((m.k : Int) == 4) = false := eq_no (n := m.k) (k := 4) (hk 4 (by decide) (by decide))
 have q6 : ((m.k : Int) == 6) = false := eq_no (n := m.k) (k := 6) (hk 6 (by decide) (by decide))
 have q5 : ((m.k : Int) == 5) = false := eq_no (n := m.k) (k := 5) (hk 5 (by decide) (by decide))
 have q7 : ((m.k : Int) == 7) = false := eq_no (n := m.k) (k := 7) (hk 7 (by decide) (by decide))
 have q8 : ((m.k : Int) == 8) = false := eq_no (n := m.k) (k := 8) (hk 8 (by decide) (by decide))
 rw [HV.out, HO.out]
 clear HV HO hk
 go_enter Tryz.func48, Tryz.ntmps48
 go_wp2_with (first
  | ((with_reducible refine bxm (m := m) ?hx ?_); (case hx => rfl); intro b1 w1 h1 F1; have HM := Lib.hid h1; have HB := Lib.hid F1.below; obtain ⟨c0, c1, c18, c19⟩ := flds h1; clear h1 F1))
 go_ret2
 exact ⟨rfl, HB.out⟩
theorem fvalue (m : Ms) (hi : m.In) (w : World) (ht : Tab w) :
 Calls Tryz.prog 48 #[mv m] w fun e w' => e = .returned (.tuple #[.string (val m), .bool (vOk m)]) ∧ Below w.heap.size w w' := by
 by_cases h : 1 ≤ m.k ∧ m.k ≤ 8
 · have h' : m.k = 1 ∨ m.k = 2 ∨ m.k = 3 ∨ m.k = 4 ∨ m.k = 5 ∨ m.k = 6 ∨ m.k = 7 ∨ m.k = 8 := by omega
   rcases h' with h | h | h | h | h | h | h | h
   · exact value_1 m h hi w
   · exact value_2 m h hi w
   · exact value_3 m h w
   · exact value_4 m h w
   · exact value_5 m h w
   · exact value_6 m h w
   · exact value_7 m h w
   · exact value_8 m h w ht
 · exact value_0 m (fun j h1 h2 e => h (by omega)) w

theorem may_yes (m n : Ms) (V : ByteArray) (y : Bool) (CV : ∀ w, Tab w → Calls Tryz.prog 48 #[mv m] w fun e w' => e = .returned (.tuple #[.string V, .bool true]) ∧ Below w.heap.size w w')
 (CN : ∀ w, Calls Tryz.prog 62 #[mv m] w fun e w' => e = .returned (mv n) ∧ Below w.heap.size w w') (HE : ∀ w, (binOp .eql 29 (mv m) (mv n)).run Tryz.prog w = .ok (.bool y) w) (w : World) (ht : Tab w) :
 Calls Tryz.prog 41 #[mv m] w fun e w' => e = .returned (.bool y) ∧ Below w.heap.size w w' := by
 have CVh := Lib.hid CV
 have CNh := Lib.hid CN
 have HT := Lib.hid ht
 clear CV CN ht
 go_enter Tryz.func41, Tryz.ntmps41
 go_wp2_with (first
  | ((with_reducible refine bxm (m := m) ?hx ?_); (case hx => rfl); intro b1 w1 h1 F1; have HM := Lib.hid h1; have HB := Lib.hid F1.below; clear h1 F1)
  | ((with_reducible refine ldm isM HM.out ?hx ?_); (case hx => rfl))
  | (go_at_call 48; ((with_reducible refine (CVh.out _ (tab_below HT.out HB.out)).mono ?_); rintro e wx ⟨rfl, hb⟩; have HX := Lib.hid (stays HM.out hb); replace HB := Lib.hid (below_on HB.out hb); clear hb)))
 refine wp_region_held_drew (S := fun w' => Below wx.heap.size wx w') (by kernel_rfl) (Below.refl _ _).drew (fun hHeld => ?_)
 refine' tk9 0 rfl ?_
 refine' tk9 1 rfl ?_
 refine' tv9 2 rfl (by intro _ hSw; (try dsimp only at hSw); refine ex_ld isM (stays HX.out hSw) ?_; rfl) ?_
 refine' tv9 3 rfl (by intro _ hSw; (try dsimp only at hSw); refine ex_ld isM (stays HX.out hSw) ?_; rfl) ?_
 refine ry [4] (.cons rfl (fun K hK => ?_) .nil)
 go_simp
 (with_reducible refine (CNh.out _).mono ?_)
 rintro e wc ⟨rfl, hb⟩
 go_wp2_with fail
 refine hK.out _ _ (below_on hHeld hb) (fun hNext => ?_)
 clear hK K hHeld hb
 have hHeld := hNext; clear hNext
 (try simp only [Act.put, z1', z2', z3'])
 refine' tk9 5 rfl ?_
 refine' tk9 6 rfl ?_
 refine' tk9 7 rfl ?_
 refine wpAnyH_done (by kernel_rfl) ?_ _
 go_wp2
 go_ret
 exact ⟨rfl, below_on HB.out hHeld⟩
theorem may_no (m n : Ms) (V : ByteArray) (y : Bool) (CV : ∀ w, Tab w → Calls Tryz.prog 48 #[mv m] w fun e w' => e = .returned (.tuple #[.string V, .bool false]) ∧ Below w.heap.size w w')
 (CN : ∀ w, Calls Tryz.prog 62 #[mv m] w fun e w' => e = .returned (mv n) ∧ Below w.heap.size w w') (_HE : ∀ w, (binOp .eql 29 (mv m) (mv n)).run Tryz.prog w = .ok (.bool y) w) (w : World) (ht : Tab w) :
 Calls Tryz.prog 41 #[mv m] w fun e w' => e = .returned (.bool false) ∧ Below w.heap.size w w' := by
 have CVh := Lib.hid CV
 have CNh := Lib.hid CN
 have HT := Lib.hid ht
 clear CV CN ht
 go_enter Tryz.func41, Tryz.ntmps41
 go_wp2_with (first
  | ((with_reducible refine bxm (m := m) ?hx ?_); (case hx => rfl); intro b1 w1 h1 F1; have HM := Lib.hid h1; have HB := Lib.hid F1.below; clear h1 F1)
  | ((with_reducible refine ldm isM HM.out ?hx ?_); (case hx => rfl))
  | (go_at_call 48; ((with_reducible refine (CVh.out _ (tab_below HT.out HB.out)).mono ?_); rintro e wx ⟨rfl, hb⟩; have HX := Lib.hid (stays HM.out hb); replace HB := Lib.hid (below_on HB.out hb); clear hb)))
 refine wp_region_held_drew (S := fun w' => Below wx.heap.size wx w') (by kernel_rfl) (Below.refl _ _).drew (fun hHeld => ?_)
 refine' tk9 0 rfl ?_
 refine' tk9 1 rfl ?_
 refine sk9 2 rfl ?_
 refine sk9 3 rfl ?_
 refine sk9 4 rfl ?_
 refine sk9 5 rfl ?_
 refine' tk9 6 rfl ?_
 refine' tk9 7 rfl ?_
 refine wpAnyH_done (by kernel_rfl) ?_ _
 go_wp2
 go_ret
 exact ⟨rfl, below_on HB.out hHeld⟩
theorem fmay (m : Ms) (hi : m.In) (w : World) (ht : Tab w) :
 Calls Tryz.prog 41 #[mv m] w fun e w' => e = .returned (.bool (may m)) ∧ Below w.heap.size w w' := by
 have CV := fun w h => fvalue m hi w h
 have CN := fun w => fneeded m w
 have HE := run_eqM m (need m)
 unfold may
 cases hv : vOk m
 · rw [hv] at CV
   exact may_no m _ _ _ CV CN HE w ht
 · rw [hv] at CV
   exact may_yes m _ _ _ CV CN HE w ht
theorem val_le (m : Ms) (n : Nat) (hn : 8 ≤ n) (hb : m.b.size ≤ n) : (val m).size ≤ n := by
 unfold val
 split
 · unfold Pn.putS; split
   · rw [Pn.octets_size]; exact hn
   · exact Nat.zero_le _
 · split
   · unfold Msc.putS; split
     · rcases Msc.octets_size m.s with h | h <;> omega
     · exact Nat.zero_le _
   · split
     · show 1 ≤ n; omega
     · split
       · exact hb
       · exact Nat.zero_le _
theorem put_yes (m : Ms) (V S : ByteArray) (x : Bool) (t E : Nat) (CM : ∀ w, Tab w → Calls Tryz.prog 41 #[mv m] w fun e w' => e = .returned (.bool true) ∧ Below w.heap.size w w')
 (CV : ∀ w, Tab w → Calls Tryz.prog 48 #[mv m] w fun e w' => e = .returned (.tuple #[.string V, .bool x]) ∧ Below w.heap.size w w')
 (CT : ∀ w, Tab w → Calls Tryz.prog 50 #[mv m] w fun e w' => e = .returned (.int .u8 (t : Int)) ∧ Below w.heap.size w w')
 (CP : ∀ w, Calls Tryz.prog 49 #[.int .u8 (t : Int), .bool m.c, .string V] w fun e w' => e = .returned (.tuple #[.string S, .int .i64 (E : Int)]) ∧ Below w.heap.size w w') (w : World) (ht : Tab w) :
 Calls Tryz.prog 24 #[mv m] w fun e w' => e = .returned (.tuple #[.string S, .int .i64 (E : Int)]) ∧ Below w.heap.size w w' := by
 have CMh := Lib.hid CM
 have CVh := Lib.hid CV
 have CTh := Lib.hid CT
 have CPh := Lib.hid CP
 have HT := Lib.hid ht
 clear CM CV CT CP ht
 go_enter Tryz.func24, Tryz.ntmps24
 go_wp2_with (first
  | ((with_reducible refine bxm (m := m) ?hx ?_); (case hx => rfl); intro b1 w1 h1 F1; have HM := Lib.hid h1; have HB := Lib.hid F1.below; clear h1 F1)
  | ((with_reducible refine ldm isM HM.out ?hx ?_); (case hx => rfl))
  | (go_at_call 41; ((with_reducible refine (CMh.out _ (tab_below HT.out HB.out)).mono ?_); rintro e w2 ⟨rfl, hb⟩; replace HM := Lib.hid (stays HM.out hb); replace HB := Lib.hid (below_on HB.out hb); clear hb))
  | (go_at_call 48; ((with_reducible refine (CVh.out _ (tab_below HT.out HB.out)).mono ?_); rintro e wx ⟨rfl, hb⟩; have HX := Lib.hid (stays HM.out hb); replace HB := Lib.hid (below_on HB.out hb); clear hb)))
 have HTX := Lib.hid (tab_below HT.out HB.out)
 refine wp_region_held_drew (S := fun w' => Below wx.heap.size wx w') (by kernel_rfl) (Below.refl _ _).drew (fun hHeld => ?_)
 refine' tv9 0 rfl (by intro _ hSw; (try dsimp only at hSw); refine ex_ld isM (stays HX.out hSw) ?_; rfl) ?_
 refine' tk9 2 rfl ?_
 refine' tv9 3 rfl (by intro _ hSw; (try dsimp only at hSw); obtain ⟨c0, c1, c18, c19⟩ := flds (stays HX.out hSw); go_simp <;> with_reducible rfl) ?_
 refine' tk9 4 rfl ?_
 refine ry [1] (.cons rfl (fun K hK => ?_) .nil)
 go_simp
 (with_reducible refine (CTh.out _ (tab_below HTX.out (by assumption))).mono ?_)
 rintro e wc ⟨rfl, hb⟩
 go_wp2_with fail
 refine hK.out _ _ (below_on hHeld hb) (fun hNext => ?_)
 clear hK K hHeld hb
 have hHeld := hNext; clear hNext
 (try simp only [Act.put, z1', z2', z3'])
 refine ry [5] (.cons rfl (fun K hK => ?_) .nil)
 go_simp
 (with_reducible refine (CPh.out _).mono ?_)
 rintro e wc ⟨rfl, hb⟩
 go_wp2_with fail
 refine hK.out _ _ (below_on hHeld hb) (fun hNext => ?_)
 clear hK K hHeld hb
 have hHeld := hNext; clear hNext
 (try simp only [Act.put, z1', z2', z3'])
 refine' tk9 6 rfl ?_
 refine' tk9 7 rfl ?_
 refine' tk9 8 rfl ?_
 refine' tk9 9 rfl ?_
 refine wpAnyH_done (by kernel_rfl) ?_ _
 go_wp2
 go_ret2
 exact ⟨rfl, below_on HB.out hHeld⟩
theorem put_no (m : Ms) (CM : ∀ w, Tab w → Calls Tryz.prog 41 #[mv m] w fun e w' => e = .returned (.bool false) ∧ Below w.heap.size w w') (w : World) (ht : Tab w) :
 Calls Tryz.prog 24 #[mv m] w fun e w' => e = .returned (.tuple #[.string no, .int .i64 2]) ∧ Below w.heap.size w w' := by
 have CMh := Lib.hid CM
 have HT := Lib.hid ht
 clear CM ht
 go_enter Tryz.func24, Tryz.ntmps24
 go_wp2_with (first
  | ((with_reducible refine bxm (m := m) ?hx ?_); (case hx => rfl); intro b1 w1 h1 F1; have HM := Lib.hid h1; have HB := Lib.hid F1.below; clear h1 F1)
  | ((with_reducible refine ldm isM HM.out ?hx ?_); (case hx => rfl))
  | (go_at_call 41; ((with_reducible refine (CMh.out _ (tab_below HT.out HB.out)).mono ?_); rintro e w2 ⟨rfl, hb⟩; replace HB := Lib.hid (below_on HB.out hb); clear hb)))
 go_ret2
 exact ⟨rfl, HB.out⟩
theorem fput (m : Ms) (hi : m.In) (hb : m.b.size ≤ 281474976710656) (w : World) (ht : Tab w) :
 Calls Tryz.prog 24 #[mv m] w fun e w' => e = .returned (.tuple #[.string (putS m), .int .i64 (putE m : Int)]) ∧ Below w.heap.size w w' := by
 have CM := fun w h => fmay m hi w h
 cases hm : may m
 · rw [hm] at CM
   have e1 : putS m = no := by unfold putS; rw [hm]; rfl
   have e2 : putE m = 2 := by unfold putE; rw [hm]; rfl
   rw [e1, e2]
   exact put_no m CM w ht
 · rw [hm] at CM
   have e1 : putS m = Tlv.putS (ty m) m.c (val m) := by unfold putS; rw [hm]; rfl
   have e2 : putE m = Tlv.putE (ty m) (val m) := by unfold putE; rw [hm]; rfl
   have hk := may_k hm
   have ht' := ty_le hm
   have hv := val_le m 281474976710656 (by decide) hb
   rw [e1, e2]
   exact put_yes m _ _ _ _ _ CM (fun w h => fvalue m hi w h) (fun w h => ftypeOf m hk.2 w h) (fun w => Tlv.fput _ (by omega) _ _ (by omega) w) w ht
theorem octet_yes (m : Ms) (S : ByteArray) (t E n : Nat) (CM : ∀ w, Tab w → Calls Tryz.prog 41 #[mv m] w fun e w' => e = .returned (.bool true) ∧ Below w.heap.size w w')
 (CT : ∀ w, Tab w → Calls Tryz.prog 50 #[mv m] w fun e w' => e = .returned (.int .u8 (t : Int)) ∧ Below w.heap.size w w')
 (CP : ∀ w, Calls Tryz.prog 49 #[.int .u8 (t : Int), .bool m.c, .string ⟨#[]⟩] w fun e w' => e = .returned (.tuple #[.string S, .int .i64 (E : Int)]) ∧ Below w.heap.size w w')
 (i0 : ∀ W, (Instr.index 9 (.string S) (.int .i64 0)).run Tryz.prog W = .ok (.int .u8 (n : Int)) W) (w : World) (ht : Tab w) :
 Calls Tryz.prog 67 #[mv m] w fun e w' => e = .returned (.int .u8 (n : Int)) ∧ Below w.heap.size w w' := by
 have CMh := Lib.hid CM
 have CTh := Lib.hid CT
 have CPh := Lib.hid CP
 have HT := Lib.hid ht
 clear CM CT CP ht
 go_enter Tryz.func67, Tryz.ntmps67
 go_wp2_with (first
  | ((with_reducible refine bxm (m := m) ?hx ?_); (case hx => rfl); intro b1 w1 h1 F1; have HM := Lib.hid h1; have HB := Lib.hid F1.below; clear h1 F1)
  | ((with_reducible refine ldm isM HM.out ?hx ?_); (case hx => rfl))
  | (go_at_call 41; ((with_reducible refine (CMh.out _ (tab_below HT.out HB.out)).mono ?_); rintro e wx ⟨rfl, hb⟩; have HX := Lib.hid (stays HM.out hb); replace HB := Lib.hid (below_on HB.out hb); clear hb)))
 have HTX := Lib.hid (tab_below HT.out HB.out)
 refine wp_region_held_drew (S := fun w' => Below wx.heap.size wx w') (by kernel_rfl) (Below.refl _ _).drew (fun hHeld => ?_)
 refine' tv9 0 rfl (by intro _ hSw; (try dsimp only at hSw); refine ex_ld isM (stays HX.out hSw) ?_; rfl) ?_
 refine' tk9 2 rfl ?_
 refine' tv9 3 rfl (by intro _ hSw; (try dsimp only at hSw); obtain ⟨c0, c1, c18, c19⟩ := flds (stays HX.out hSw); go_simp <;> with_reducible rfl) ?_
 refine ry [1] (.cons rfl (fun K hK => ?_) .nil)
 go_simp
 (with_reducible refine (CTh.out _ (tab_below HTX.out (by assumption))).mono ?_)
 rintro e wc ⟨rfl, hb⟩
 go_wp2_with fail
 refine hK.out _ _ (below_on hHeld hb) (fun hNext => ?_)
 clear hK K hHeld hb
 have hHeld := hNext; clear hNext
 (try simp only [Act.put, z1', z2', z3'])
 refine ry [4] (.cons rfl (fun K hK => ?_) .nil)
 go_simp
 (with_reducible refine (CPh.out _).mono ?_)
 rintro e wc ⟨rfl, hb⟩
 go_wp2_with fail
 refine hK.out _ _ (below_on hHeld hb) (fun hNext => ?_)
 clear hK K hHeld hb
 have hHeld := hNext; clear hNext
 (try simp only [Act.put, z1', z2', z3'])
 refine' tk9 5 rfl ?_
 refine' tk9 6 rfl ?_
 refine' tk9 7 rfl ?_
 refine' tk9 8 rfl ?_
 refine' tk9 9 rfl ?_
 refine wpAnyH_done (by kernel_rfl) ?_ _
 go_wp2
 go_ret
 exact ⟨rfl, below_on HB.out hHeld⟩
theorem octet_no (m : Ms) (CM : ∀ w, Tab w → Calls Tryz.prog 41 #[mv m] w fun e w' => e = .returned (.bool false) ∧ Below w.heap.size w w') (w : World) (ht : Tab w) :
 Calls Tryz.prog 67 #[mv m] w fun e w' => e = .returned (.int .u8 0) ∧ Below w.heap.size w w' := by
 have CMh := Lib.hid CM
 have HT := Lib.hid ht
 clear CM ht
 go_enter Tryz.func67, Tryz.ntmps67
 go_wp2_with (first
  | ((with_reducible refine bxm (m := m) ?hx ?_); (case hx => rfl); intro b1 w1 h1 F1; have HM := Lib.hid h1; have HB := Lib.hid F1.below; clear h1 F1)
  | ((with_reducible refine ldm isM HM.out ?hx ?_); (case hx => rfl))
  | (go_at_call 41; ((with_reducible refine (CMh.out _ (tab_below HT.out HB.out)).mono ?_); rintro e w2 ⟨rfl, hb⟩; replace HB := Lib.hid (below_on HB.out hb); clear hb)))
 go_ret
 exact ⟨rfl, HB.out⟩
theorem at_string (s : ByteArray) (i : Nat) (h : i < s.size) (n : Nat) (hx : n = s[i].toNat) (W : World) :
 (Instr.index 9 (.string s) (.int .i64 (i : Int))).run Tryz.prog W = .ok (.int .u8 (n : Int)) W := by
 have u := Tryz.underlying9
 have j : (0 : Int) ≤ (i : Int) := by omega
 have k : (i : Int) < (s.size : Int) := by omega
 rw [hx]
 go_simp <;> simp
theorem foctet (m : Ms) (hi : m.In) (w : World) (ht : Tab w) :
 Calls Tryz.prog 67 #[mv m] w fun e w' => e = .returned (.int .u8 (oct m : Int)) ∧ Below w.heap.size w w' := by
 have CM := fun w h => fmay m hi w h
 cases hm : may m
 · rw [hm] at CM
   have e1 : oct m = 0 := by unfold oct; rw [hm]; rfl
   rw [e1]
   exact octet_no m CM w ht
 · rw [hm] at CM
   have e1 : oct m = Ea.addr (ty m) m.c := by unfold oct; rw [hm]; rfl
   have hk := may_k hm
   have ht' := ty_le hm
   have hz : Tlv.putE (ty m) no = 0 := Tlv.putE_of ht' (by decide)
   have hl := Tlv.bytes_list (x := ⟨ty m, m.c, no⟩) ⟨ht', by show 0 ≤ 127; decide⟩
   have hs : 0 < (Tlv.It.bytes ⟨ty m, m.c, no⟩).size := by rw [Tlv.bytes_size (x := ⟨ty m, m.c, no⟩) ⟨ht', by show 0 ≤ 127; decide⟩]; omega
   have h0 := get_list _ 0 hs
   rw [hl] at h0
   have h1 : (Tlv.It.bytes ⟨ty m, m.c, no⟩)[0] = UInt8.ofNat (Ea.addr (ty m) m.c) := Option.some.inj h0
   rw [e1]
   have CP : ∀ w, Calls Tryz.prog 49 #[.int .u8 (ty m : Int), .bool m.c, .string ⟨#[]⟩] w fun e w' => e = .returned (.tuple #[.string (Tlv.It.bytes ⟨ty m, m.c, no⟩), .int .i64 ((0 : Nat) : Int)]) ∧ Below w.heap.size w w' := fun w => by
    have := Tlv.fput (ty m) (by omega) m.c no (by decide) w
    rw [Tlv.putS_ok hz, hz] at this
    exact this
   exact octet_yes m _ _ _ _ CM (fun w h => ftypeOf m hk.2 w h) CP (fun W => at_string _ 0 hs _ (by rw [h1, Ea.nat_oct _ (Ea.addr_lt _ _)]) W) w ht
end Go.Proofs.YtakkhdammmcjcaaGreatDoor.Msgs
namespace Go.Proofs.YtakkhdammmcjcaaGreatDoor.Pn
set_option maxRecDepth 20000
open Go.RowKit Base Mem
theorem at_string (s : ByteArray) (i : Nat) (h : i < s.size) (x : Int) (hx : x = (s[i].toNat : Int)) (W : World) :
 (Instr.index 9 (.string s) (.int .i64 (i : Int))).run Tryz.prog W = .ok (.int .u8 x) W := by
 rw [run_index_string W 9 s .i64 (i : Int) Tryz.underlying9, dif_pos (by omega)]
 simp [hx]
theorem read_results (tmps : Array Value) (W : World) (b : Nat) (p : Pr) (h : Cells W b p) (p2 : tmps[2]?.getD undef = ptr b) :
 (results Tryz.f118 tmps).run Tryz.prog W = .ok (pv p) W := by
 obtain ⟨g0, g1, g2, g3, g4, g5, g6, g7⟩ := h
 simp [results, Tryz.results118, go_sem, p2, g0, g1, g2, g3, g4, g5, g6, g7]
theorem fread_of (s : ByteArray) (x0 x1 x2 x3 x4 x5 x6 x7 : Int)
 (i0 : ∀ W, (Instr.index 9 (.string s) (.int .i64 0)).run Tryz.prog W = .ok (.int .u8 x0) W)
 (i1 : ∀ W, (Instr.index 9 (.string s) (.int .i64 1)).run Tryz.prog W = .ok (.int .u8 x1) W)
 (i2 : ∀ W, (Instr.index 9 (.string s) (.int .i64 2)).run Tryz.prog W = .ok (.int .u8 x2) W)
 (i3 : ∀ W, (Instr.index 9 (.string s) (.int .i64 3)).run Tryz.prog W = .ok (.int .u8 x3) W)
 (i4 : ∀ W, (Instr.index 9 (.string s) (.int .i64 4)).run Tryz.prog W = .ok (.int .u8 x4) W)
 (i5 : ∀ W, (Instr.index 9 (.string s) (.int .i64 5)).run Tryz.prog W = .ok (.int .u8 x5) W)
 (i6 : ∀ W, (Instr.index 9 (.string s) (.int .i64 6)).run Tryz.prog W = .ok (.int .u8 x6) W)
 (i7 : ∀ W, (Instr.index 9 (.string s) (.int .i64 7)).run Tryz.prog W = .ok (.int .u8 x7) W)
 (h1 : 0 ≤ x1) (k1 : x1 < 256) (h3 : 0 ≤ x3) (k3 : x3 < 256) (h4 : 0 ≤ x4) (k4 : x4 < 256) (h5 : 0 ≤ x5) (k5 : x5 < 256) (h6 : 0 ≤ x6) (k6 : x6 < 256) (h7 : 0 ≤ x7) (k7 : x7 < 256) (w : World) :
 Calls Tryz.prog 118 #[.string s] w fun x w' => x = .returned (pv ⟨x0, x1 % 16, x1 / 16, x2, x3, x4 + 256 * x5, x6, x7⟩) ∧ Below w.heap.size w w' := by
 have q1 : x1.tmod 16 = x1 % 16 := Int.tmod_eq_emod_of_nonneg h1
 have q2 : x1.tdiv 16 = x1 / 16 := Int.tdiv_eq_ediv_of_nonneg h1
 go_enter Tryz.func118, Tryz.ntmps118
 go_wp2
 have HB0 : Hid (Below w.heap.size w (w.alloc (noO 25))) := Lib.hid (nest_below w [_])
 have hp : (w.alloc (noO 25)).heap[w.heap.size]? = some (noO 25) := nest w [_] 0 _ rfl
 generalize w.alloc (noO 25) = W at *
 have HB1 : Hid (Below w.heap.size w W.drew) := Lib.hid HB0.out.drew
 have hq : W.drew.heap[w.heap.size]? = some (noO 25) := hp
 go_still_tail 28, (by kernel_rfl)
 change wpList _ _ _ _ _ W.drew
 generalize W.drew = w2 at *
 obtain ⟨f0, f1, f2, f3, f4, f5, f6, f7⟩ := no_frees hq
 obtain ⟨g0, g1, g2, g3, g4, g5, g6, g7⟩ := no_cells hq
 have HQ := Lib.hid hq
 clear hq hp
 go_wp2
 exact bodyPost_ret (read_results _ _ w.heap.size ⟨x0, x1 % 16, x1 / 16, x2, x3, x4 + 256 * x5, x6, x7⟩ (cells_of (set8_at HQ.out _ _ _ _ _ _ _ _)) rfl) rfl ⟨rfl, set8 HB1.out (Nat.le_refl _) _ _ _ _ _ _ _ _⟩
theorem fread (s : ByteArray) (h : 8 ≤ s.size) (w : World) :
 Calls Tryz.prog 118 #[.string s] w fun x w' => x = .returned (pv (read s h)) ∧ Below w.heap.size w w' := by
 have b0 := oct_lt s[0]
 have b1 := oct_lt s[1]
 have b2 := oct_lt s[2]
 have b3 := oct_lt s[3]
 have b4 := oct_lt s[4]
 have b5 := oct_lt s[5]
 have b6 := oct_lt s[6]
 have b7 := oct_lt s[7]
 exact fread_of s _ _ _ _ _ _ _ _ (at_string s 0 (by omega) _ rfl) (at_string s 1 (by omega) _ rfl) (at_string s 2 (by omega) _ rfl) (at_string s 3 (by omega) _ rfl) (at_string s 4 (by omega) _ rfl) (at_string s 5 (by omega) _ rfl) (at_string s 6 (by omega) _ rfl) (at_string s 7 (by omega) _ rfl) (by omega) (by omega) (by omega) (by omega) (by omega) (by omega) (by omega) (by omega) (by omega) (by omega) (by omega) (by omega) w
theorem get_results (tmps : Array Value) (W : World) (b : Nat) (p : Pr) (e : Int) (h : Cells W b p) (p2 : tmps[2]?.getD undef = ptr b) (p3 : tmps[3]?.getD undef = .int .i64 e) :
 (results Tryz.f107 tmps).run Tryz.prog W = .ok (.tuple #[pv p, .int .i64 e]) W := by
 obtain ⟨g0, g1, g2, g3, g4, g5, g6, g7⟩ := h
 simp [results, Tryz.results107, go_sem, p2, p3, g0, g1, g2, g3, g4, g5, g6, g7]
theorem fget_short (s : ByteArray) (h : s.size < 8) (w : World) :
 Calls Tryz.prog 107 #[.string s] w fun x w' => x = .returned (.tuple #[pv zero, .int .i64 20]) ∧ Below w.heap.size w w' := by
 have h' : (s.size : Int) < 8 := by omega
 go_enter Tryz.func107, Tryz.ntmps107
 go_wp2
 exact bodyPost_ret (get_results _ _ w.heap.size zero 20 (cells_of (nest w [_] 0 _ rfl)) rfl rfl) rfl ⟨rfl, nest_below w [_]⟩
theorem fget_bad (s : ByteArray) (h : 8 ≤ s.size) (p : Pr)  (CR : ∀ w, Calls Tryz.prog 118 #[.string s] w fun x w' => x = .returned (pv p) ∧ Below w.heap.size w w')
 (CP : ∀ w, Calls Tryz.prog 68 #[pv p] w fun x w' => x = .returned (.tuple #[.string ⟨#[]⟩, .int .i64 2]) ∧ Below w.heap.size w w') (w : World) :
 Calls Tryz.prog 107 #[.string s] w fun x w' => x = .returned (.tuple #[pv zero, .int .i64 70]) ∧ Below w.heap.size w w' := by
 have h' : ¬ (s.size : Int) < 8 := by omega
 skip
 have CRh := Lib.hid CR
 have CPh := Lib.hid CP
 clear CR CP h
 go_enter Tryz.func107, Tryz.ntmps107
 go_wp2_with (first
  | (go_at_call 118; ((with_reducible refine (CRh.out _).mono ?_); rintro e w1 ⟨rfl, hb⟩; have HF := Lib.hid (fresh hb); have HB := Lib.hid (on_new (Below.refl _ _) hb); have hlt : w.heap.size < w1.heap.size := lt_heap HF.out; clear hb))
  | (go_at_call 68; ((with_reducible refine (CPh.out _).mono ?_); rintro e w2 ⟨rfl, hb⟩; have HF2 := Lib.hid (stays HF.out (on_new (Below.refl _ _) hb)); have HG := Lib.hid (fresh hb); have HB2 := Lib.hid (on_new HB.out hb); obtain ⟨f0, f1, f2, f3, f4, f5, f6, f7⟩ := no_frees HF2.out; obtain ⟨g0, g1, g2, g3, g4, g5, g6, g7⟩ := no_cells HF2.out; obtain ⟨c0, c1, c2, c3, c4, c5, c6, c7⟩ := cells_of (p := p) HG.out; clear hb)))
 exact bodyPost_ret (get_results _ _ w.heap.size zero 70 (cells_of (set8_at HF2.out _ _ _ _ _ _ _ _)) rfl rfl) rfl ⟨rfl, set8 HB2.out (Nat.le_refl _) _ _ _ _ _ _ _ _⟩
theorem fget_long (s : ByteArray) (h : 8 ≤ s.size) (p : Pr) (S : ByteArray) (hS : S ≠ s) (CR : ∀ w, Calls Tryz.prog 118 #[.string s] w fun x w' => x = .returned (pv p) ∧ Below w.heap.size w w')
 (CP : ∀ w, Calls Tryz.prog 68 #[pv p] w fun x w' => x = .returned (.tuple #[.string S, .int .i64 0]) ∧ Below w.heap.size w w') (w : World) :
 Calls Tryz.prog 107 #[.string s] w fun x w' => x = .returned (.tuple #[pv zero, .int .i64 70]) ∧ Below w.heap.size w w' := by
 have h' : ¬ (s.size : Int) < 8 := by omega
 have hq : (S.toList == s.toList) = false := ne_list hS
 clear hS
 have CRh := Lib.hid CR
 have CPh := Lib.hid CP
 clear CR CP h
 go_enter Tryz.func107, Tryz.ntmps107
 go_wp2_with (first
  | (go_at_call 118; ((with_reducible refine (CRh.out _).mono ?_); rintro e w1 ⟨rfl, hb⟩; have HF := Lib.hid (fresh hb); have HB := Lib.hid (on_new (Below.refl _ _) hb); have hlt : w.heap.size < w1.heap.size := lt_heap HF.out; clear hb))
  | (go_at_call 68; ((with_reducible refine (CPh.out _).mono ?_); rintro e w2 ⟨rfl, hb⟩; have HF2 := Lib.hid (stays HF.out (on_new (Below.refl _ _) hb)); have HG := Lib.hid (fresh hb); have HB2 := Lib.hid (on_new HB.out hb); obtain ⟨f0, f1, f2, f3, f4, f5, f6, f7⟩ := no_frees HF2.out; obtain ⟨g0, g1, g2, g3, g4, g5, g6, g7⟩ := no_cells HF2.out; obtain ⟨c0, c1, c2, c3, c4, c5, c6, c7⟩ := cells_of (p := p) HG.out; clear hb)))
 exact bodyPost_ret (get_results _ _ w.heap.size zero 70 (cells_of (set8_at HF2.out _ _ _ _ _ _ _ _)) rfl rfl) rfl ⟨rfl, set8 HB2.out (Nat.le_refl _) _ _ _ _ _ _ _ _⟩
theorem fget_ok (s : ByteArray) (h : 8 ≤ s.size) (p : Pr)  (CR : ∀ w, Calls Tryz.prog 118 #[.string s] w fun x w' => x = .returned (pv p) ∧ Below w.heap.size w w')
 (CP : ∀ w, Calls Tryz.prog 68 #[pv p] w fun x w' => x = .returned (.tuple #[.string s, .int .i64 0]) ∧ Below w.heap.size w w') (w : World) :
 Calls Tryz.prog 107 #[.string s] w fun x w' => x = .returned (.tuple #[pv p, .int .i64 0]) ∧ Below w.heap.size w w' := by
 have h' : ¬ (s.size : Int) < 8 := by omega
 skip
 have CRh := Lib.hid CR
 have CPh := Lib.hid CP
 clear CR CP h
 go_enter Tryz.func107, Tryz.ntmps107
 go_wp2_with (first
  | (go_at_call 118; ((with_reducible refine (CRh.out _).mono ?_); rintro e w1 ⟨rfl, hb⟩; have HF := Lib.hid (fresh hb); have HB := Lib.hid (on_new (Below.refl _ _) hb); have hlt : w.heap.size < w1.heap.size := lt_heap HF.out; clear hb))
  | (go_at_call 68; ((with_reducible refine (CPh.out _).mono ?_); rintro e w2 ⟨rfl, hb⟩; have HF2 := Lib.hid (stays HF.out (on_new (Below.refl _ _) hb)); have HG := Lib.hid (fresh hb); have HB2 := Lib.hid (on_new HB.out hb); obtain ⟨f0, f1, f2, f3, f4, f5, f6, f7⟩ := no_frees HF2.out; obtain ⟨g0, g1, g2, g3, g4, g5, g6, g7⟩ := no_cells HF2.out; obtain ⟨c0, c1, c2, c3, c4, c5, c6, c7⟩ := cells_of (p := p) HG.out; clear hb)))
 exact bodyPost_ret (get_results _ _ w.heap.size p 0 (cells_of (set8_at HF2.out _ _ _ _ _ _ _ _)) rfl rfl) rfl ⟨rfl, set8 HB2.out (Nat.le_refl _) _ _ _ _ _ _ _ _⟩
theorem fget (s : ByteArray) (w : World) :
 Calls Tryz.prog 107 #[.string s] w fun x w' => x = .returned (.tuple #[pv (gotP s), .int .i64 (gotE s)]) ∧ Below w.heap.size w w' := by
 rcases Nat.lt_or_ge s.size 8 with h | h
 · obtain ⟨e1, e2⟩ := got_short h
   rw [e1, e2]; exact fget_short s h w
 have CR := fun w => fread s h w
 have hin := read_in s h
 cases hm : may (read s h)
 · obtain ⟨e1, e2⟩ := got_no h (.inr hm)
   rw [e1, e2]
   exact fget_bad s h _ CR (fput_no _ (fun w => by have := fmay (read s h) w; rw [hm] at this; exact this)) w
 · have CP := fput_ok _ hin ((may_iff _).1 hm) (fun w => by have := fmay (read s h) w; rw [hm] at this; exact this)
   by_cases h8 : s.size = 8
   · obtain ⟨e1, e2⟩ := got_ok h h8 hm
     rw [octets_read_eq s h h8] at CP
     rw [e1, e2]; exact fget_ok s h _ CR CP w
   · obtain ⟨e1, e2⟩ := got_no h (.inl (by omega))
     rw [e1, e2]; exact fget_long s h _ _ (octets_read_ne s h (by omega)) CR CP w
end Go.Proofs.YtakkhdammmcjcaaGreatDoor.Pn
