/-
  What the document's own functions of layer 3 but Get answer, and Carries and May of the program; none turns memory. No condition.
-/
import Derived.Test.YthlciaomfpephaaDoorFieldCalls
namespace Go.Proofs.YthlciaomfpephaaDoor.Field
open Go.RowKit Go.Proofs.YthlciaomfpephaaDoor.Base
theorem bareN_ge (k : Nat) (h : 11 ≤ k) : bareN k = 0 := by simp [bareN, bareL, List.getD, List.getElem?_eq_none (show ([0, 47, 99, 15, 67, 239, 3, 0, 1, 5, 9] : List Nat).length ≤ k from h)]
def carryB (k : Nat) : Bool := decide (k = 5 ∨ k = 6 ∨ k = 7)
def mayB (k : Nat) (c : Bool) : Bool := decide (1 ≤ k ∧ k ≤ 10 ∧ (c = true → k ≠ 2 ∧ k ≠ 3) ∧ (c = false → k ≠ 1 ∧ k ≠ 4))
theorem fcarries (k : Nat) (hk : k < 256) (w : World) :
    Calls Tryd.prog 39 #[.int .u8 (k : Int)] w fun e w' => e = .returned (.bool (carryB k)) ∧ w = w' := by
  go_enter Tryd.func39, Tryd.ntmps39
  go_wp2
  all_goals
    go_ret
    exact ⟨ret_bool (by rw [carryB, Bool.eq_iff_iff]; simp; omega), rfl⟩
theorem fmay (k : Nat) (c : Bool) (hk : k < 256) (w : World) :
    Calls Tryd.prog 38 #[.int .u8 (k : Int), .bool c] w fun e w' => e = .returned (.bool (mayB k c)) ∧ w = w' := by
  have cases5 : k = 1 ∨ k = 4 ∨ k = 2 ∨ k = 3 ∨ (k ≠ 1 ∧ k ≠ 4 ∧ k ≠ 2 ∧ k ≠ 3) := by omega
  rcases cases5 with rfl | rfl | rfl | rfl | ⟨h1, h2, h3, h4⟩
  case inr.inr.inr.inr =>
    have q1 : ((k : Int) == 1) = false := by rw [beq_eq_false_iff_ne]; omega
    have q2 : ((k : Int) == 4) = false := by rw [beq_eq_false_iff_ne]; omega
    have q3 : ((k : Int) == 2) = false := by rw [beq_eq_false_iff_ne]; omega
    have q4 : ((k : Int) == 3) = false := by rw [beq_eq_false_iff_ne]; omega
    have HE : Hid (isK k = mayB k c) := Lib.hid (by rw [isK, mayB, Bool.eq_iff_iff]; simp; omega)
    go_enter Tryd.func38, Tryd.ntmps38
    go_wp2_with (first
      | (go_at_call 41; ((with_reducible refine (isKind _ hk _).mono ?_); rintro e w' ⟨rfl, rfl⟩)))
    go_ret
    exact ⟨ret_bool HE.out, rfl⟩
  all_goals
    cases c
    all_goals
      go_enter Tryd.func38, Tryd.ntmps38
      go_wp2
      go_ret
      exact ⟨rfl, rfl⟩
end Go.Proofs.YthlciaomfpephaaDoor.Field
