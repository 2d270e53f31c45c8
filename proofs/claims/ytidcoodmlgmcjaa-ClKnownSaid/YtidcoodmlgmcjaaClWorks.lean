/-
  The chapter's examples hold: what works of layer 16 answers. No condition.
-/
import Derived.Test.YtidcoodmlgmcjaaClSplit
import Derived.Test.YtidcoodmlgmcjaaClPut
import Derived.Test.YtidcoodmlgmcjaaClSame
namespace Go.Proofs.Ytidcoodmlgmcjaa.Cl
open Go.RowKit Go.Proofs.Ytidcoodmlgmcjaa.Base Go.Proofs.Ytidcoodmlgmcjaa.Mem
/-- A slice that was just written down. -/
theorem row_lit (w : World) (xs : List ByteArray) (n : Nat) (hn : xs.length = n) (h0 : n ≤ 1000) : RowB (w.alloc (.cells (xs.map Value.string).toArray 9)) w.heap.size (.slice (some ⟨w.heap.size, 0, none⟩) n n) xs := by
  subst hn
  refine ⟨by rw [rows_eq]; simp, Or.inr ⟨w.heap.size, xs.length, (xs.map Value.string).toArray, rfl, Nat.le_refl _, nest w [_] 0 _ rfl, Nat.le_refl _, by unfold maxLen; omega, by simp, ?_⟩⟩
  rw [rows_eq, Nat.mul_one]
  exact List.take_of_length_le (by simp)
theorem row3 (w : World) (a b c : ByteArray) : RowB (w.alloc (.cells #[.string a, .string b, .string c] 9)) w.heap.size (.slice (some ⟨w.heap.size, 0, none⟩) 3 3) [a, b, c] := row_lit w [a, b, c] 3 rfl (by omega)
theorem row1 (w : World) (a : ByteArray) : RowB (w.alloc (.cells #[.string a] 9)) w.heap.size (.slice (some ⟨w.heap.size, 0, none⟩) 1 1) [a] := row_lit w [a] 1 rfl (by omega)
def exA : List ByteArray := [⟨#[129, 97, 98]⟩, ⟨#[1, 99, 100]⟩, ⟨#[65, 101]⟩]
def exB : List ByteArray := [⟨#[193]⟩]
theorem exA_eq : pcs ⟨#[97, 98, 99, 100, 101]⟩ 2 = exA := by decide +kernel
theorem exB_eq : pcs ⟨#[]⟩ 8 = exB := by decide +kernel
set_option maxHeartbeats 4000000 in
theorem fworks (w : World) : Calls Try.prog 8 #[] w fun e w' => e = .returned (.bool true) ∧ Below w.heap.size w w' := by
  have C1 := Lib.hid (fun w => fSplit ⟨#[97, 98, 99, 100, 101]⟩ (by decide) 3 (by omega) 2 (by decide) w)
  rw [exA_eq] at C1
  have C2 := Lib.hid (fun w => fSplit ⟨#[]⟩ (by decide) 9 (by omega) 8 (by decide) w)
  rw [exB_eq] at C2
  have P1 := Lib.hid (fun w b => fPut ⟨#[1, 97]⟩ (by decide) false ⟨e0, false, 4, false⟩ (by kernel_rfl) w b)
  have P2 := Lib.hid (fun w b => fPut ⟨#[129, 97]⟩ (by decide) false ⟨⟨#[97]⟩, false, 0, true⟩ (by kernel_rfl) w b)
  have P3 := Lib.hid (fun w b => fPut ⟨#[129, 98]⟩ (by decide) true ⟨e0, false, 4, true⟩ (by kernel_rfl) w b)
  go_enter Try.func8, Try.ntmps8
  go_wp2_with fail
  refine (C1.out _).mono ?_
  rintro _ w1 ⟨va, rfl, ra, b1⟩
  have RA := Lib.hid ra
  have B1 := Lib.hid b1
  clear ra b1
  go_wp2_with fail
  refine (C2.out _).mono ?_
  rintro _ w2 ⟨vb, rfl, rb, b2⟩
  have RB := Lib.hid rb
  have RA2 := Lib.hid (RA.out.below b2)
  have B2 := Lib.hid (below_on B1.out b2)
  clear rb b2 RA B1
  go_wp2_with fail
  refine (fNew2 _).mono ?_
  rintro _ w3 ⟨jb, rfl, hj, j3, b3⟩
  have HA : Hid (∀ g, va.ownBlock = some g → g < jb) := Lib.hid fun g e => Nat.lt_of_lt_of_le (RA2.out.lt g e).2 hj
  have HB : Hid (∀ g, vb.ownBlock = some g → g < jb) := Lib.hid fun g e => Nat.lt_of_lt_of_le (RB.out.lt g e).2 hj
  have J3 := Lib.hid j3
  have RA3 := Lib.hid (RA2.out.below b3)
  have RB3 := Lib.hid (RB.out.below b3)
  have B3 := Lib.hid (below_on B2.out b3)
  have HJ : Hid (w.heap.size ≤ jb) := Lib.hid (Nat.le_trans B2.out.size hj)
  clear RA2 RB B2 j3 b3 hj
  go_wp2_with fail
  refine (P1.out _ _ J3.out).mono ?_
  rintro _ w4 ⟨rfl, j4, c4⟩
  have J4 := Lib.hid j4
  have RA4 := Lib.hid (row_only RA3.out c4 HA.out)
  have RB4 := Lib.hid (row_only RB3.out c4 HB.out)
  have B4 := Lib.hid (c4.below B3.out B3.out.size fun k e => by rw [e]; exact HJ.out)
  clear RA3 RB3 B3 J3 j4 c4
  go_wp2_with fail
  refine (P2.out _ _ J4.out).mono ?_
  rintro _ w5 ⟨rfl, j5, c5⟩
  have J5 := Lib.hid j5
  have RA5 := Lib.hid (row_only RA4.out c5 HA.out)
  have RB5 := Lib.hid (row_only RB4.out c5 HB.out)
  have B5 := Lib.hid (c5.below B4.out B4.out.size fun k e => by rw [e]; exact HJ.out)
  clear RA4 RB4 B4 J4 j5 c5
  go_wp2_with fail
  refine (P3.out _ _ J5.out).mono ?_
  rintro _ w6 ⟨rfl, j6, c6⟩
  have J6 := Lib.hid j6
  have RA6 := Lib.hid (row_only RA5.out c6 HA.out)
  have RB6 := Lib.hid (row_only RB5.out c6 HB.out)
  have B6 := Lib.hid (c6.below B5.out B5.out.size fun k e => by rw [e]; exact HJ.out)
  clear RA5 RB5 B5 J5 j6 c6 P1 P2 P3 C1 C2 HA HB HJ
  go_wp2_with fail
  refine (fsame' _ va _ w.heap.size w6.heap.size exA exA true (decide_eq_true rfl) (RA6.out.alloc _) (row3 w6 _ _ _) (by decide) (by decide)).mono ?_
  rintro _ w7 ⟨rfl, m, hm⟩
  have b7 : Below w6.heap.size w6 w7 := by rw [hm]; exact below_drewN (nest_below w6 [_]) m
  have J7 := Lib.hid (stays J6.out b7)
  have RB7 := Lib.hid (RB6.out.below b7)
  have B7 := Lib.hid (below_on B6.out b7)
  clear hm b7 RA6 RB6 J6 B6
  go_wp2_with fail
  refine (fsame' _ vb _ _ w7.heap.size exB exB true (decide_eq_true rfl) (RB7.out.alloc _) (row1 w7 _) (by decide) (by decide)).mono ?_
  rintro _ w8 ⟨rfl, m, hm⟩
  have b8 : Below w7.heap.size w7 w8 := by rw [hm]; exact below_drewN (nest_below w7 [_]) m
  have J8 := stays J7.out b8
  have B8 := Lib.hid (below_on B7.out b8)
  have CW := Lib.hid (fWithin w8 jb true J8)
  clear hm b8 RB7 J7 B7 J8
  go_wp2_with (go_at_call 15; ((with_reducible refine CW.out.mono ?_); rintro e w9 ⟨rfl, rfl⟩))
  go_ret
  exact ⟨rfl, B8.out⟩
end Go.Proofs.Ytidcoodmlgmcjaa.Cl
