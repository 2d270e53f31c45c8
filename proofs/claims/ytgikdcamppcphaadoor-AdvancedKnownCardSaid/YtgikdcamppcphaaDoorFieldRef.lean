/-
  What the document's own functions of layer 3 but Get answer, and Carries and May of the program; none turns memory. No condition.
-/
import Derived.Test.YtgikdcamppcphaaDoorFieldCalls
namespace Go.Proofs.YtgikdcamppcphaaDoor.Field
open Go.RowKit Go.Proofs.YtgikdcamppcphaaDoor.Base
theorem numbered (k : Nat) (hk : k < 256) (w : World) :
    Calls Tryd.prog 41 #[.int .u8 (k : Int)] w fun e w' => e = .returned (.bool (isN k)) ∧ w = w' := by
  go_enter Tryd.func41, Tryd.ntmps41
  go_wp2
  all_goals
    go_ret
    exact ⟨ret_bool (by rw [isN, Bool.eq_iff_iff]; simp; omega), rfl⟩
theorem bareN_ge (k : Nat) (h : 11 ≤ k) : bareN k = 0 := by simp [bareN, bareL, List.getD, List.getElem?_eq_none (show ([0, 47, 99, 15, 67, 239, 3, 0, 1, 5, 9] : List Nat).length ≤ k from h)]
theorem octet (k : Nat) (hk : k < 256) (w : World) :
    Calls Tryd.prog 42 #[.int .u8 (k : Int)] w fun e w' => e = .returned (.int .i64 (bareN k : Int)) ∧ w = w' := by
  have cases11 : k = 0 ∨ k = 1 ∨ k = 2 ∨ k = 3 ∨ k = 4 ∨ k = 5 ∨ k = 6 ∨ k = 7 ∨ k = 8 ∨ k = 9 ∨ k = 10 ∨ 11 ≤ k := by omega
  rcases cases11 with rfl | rfl | rfl | rfl | rfl | rfl | rfl | rfl | rfl | rfl | rfl | h
  case inr.inr.inr.inr.inr.inr.inr.inr.inr.inr.inr =>
    have HZ := Lib.hid (bareN_ge k h)
    have q1 : ((k : Int) == 1) = false := by rw [beq_eq_false_iff_ne]; omega
    have q2 : ((k : Int) == 2) = false := by rw [beq_eq_false_iff_ne]; omega
    have q3 : ((k : Int) == 3) = false := by rw [beq_eq_false_iff_ne]; omega
    have q4 : ((k : Int) == 4) = false := by rw [beq_eq_false_iff_ne]; omega
    have q5 : ((k : Int) == 5) = false := by rw [beq_eq_false_iff_ne]; omega
    have q6 : ((k : Int) == 6) = false := by rw [beq_eq_false_iff_ne]; omega
    have q8 : ((k : Int) == 8) = false := by rw [beq_eq_false_iff_ne]; omega
    have q9 : ((k : Int) == 9) = false := by rw [beq_eq_false_iff_ne]; omega
    have q10 : ((k : Int) == 10) = false := by rw [beq_eq_false_iff_ne]; omega
    go_enter Tryd.func42, Tryd.ntmps42
    go_wp2
    go_ret
    exact ⟨ret_int (by rw [HZ.out]; rfl), rfl⟩
  all_goals
    go_enter Tryd.func42, Tryd.ntmps42
    go_wp2
    go_ret
    exact ⟨rfl, rfl⟩
theorem rput_no (k ns nr : Nat) (pf : Bool) (hk : k < 256) (hs : ns < 256) (hr : nr < 256) (h : okP k ns nr = false) (w : World) :
    Calls Tryd.prog 25 #[.int .u8 (k : Int), .bool pf, .int .u8 (ns : Int), .int .u8 (nr : Int)] w fun e w' => e = .returned (.tuple #[.int .u8 0, .int .i64 2]) ∧ w = w' := by
  have H := Lib.hid h
  clear h
  by_cases h1 : k < 1
  · clear H
    go_enter Tryd.func25, Tryd.ntmps25
    go_wp2
    go_ret2
    exact ⟨rfl, rfl⟩
  by_cases h2 : 10 < k
  · clear H
    go_enter Tryd.func25, Tryd.ntmps25
    go_wp2
    go_ret2
    exact ⟨rfl, rfl⟩
  by_cases h3 : 7 < ns
  · clear H
    go_enter Tryd.func25, Tryd.ntmps25
    go_wp2
    go_ret2
    exact ⟨rfl, rfl⟩
  by_cases h4 : 7 < nr
  · clear H
    go_enter Tryd.func25, Tryd.ntmps25
    go_wp2
    go_ret2
    exact ⟨rfl, rfl⟩
  by_cases h5 : ns ≠ 0 ∧ k ≠ 7
  · clear H
    have q1 : ((ns : Int) != 0) = true := by rw [bne_iff_ne]; omega
    have q2 : ((k : Int) != 7) = true := by rw [bne_iff_ne]; omega
    go_enter Tryd.func25, Tryd.ntmps25
    go_wp2
    go_ret2
    exact ⟨rfl, rfl⟩
  have h6 : nr ≠ 0 ∧ isN k = false := by
    have := H.out
    revert this
    rw [Bool.eq_false_iff, Bool.eq_false_iff]
    simp [okP, isK, mayH, isN]
    omega
  clear H
  obtain ⟨h6, h7⟩ := h6
  have q1 : ((nr : Int) != 0) = true := by rw [bne_iff_ne]; omega
  by_cases h8 : ns = 0
  · subst h8
    go_enter Tryd.func25, Tryd.ntmps25
    go_wp2_with (first
      | (go_at_call 41; ((with_reducible refine (numbered _ hk _).mono ?_); rintro e w' ⟨rfl, rfl⟩)))
    go_ret2
    exact ⟨rfl, rfl⟩
  · obtain rfl : k = 7 := by omega
    exact absurd h7 (by decide)
theorem numbered7 (w : World) : Calls Tryd.prog 41 #[.int .u8 7] w fun e w' => e = .returned (.bool true) ∧ w = w' := numbered 7 (by decide) w
theorem octet7 (w : World) : Calls Tryd.prog 42 #[.int .u8 7] w fun e w' => e = .returned (.int .i64 0) ∧ w = w' := octet 7 (by decide) w
set_option maxHeartbeats 4000000 in
theorem rput_ok (k ns nr : Nat) (pf : Bool) (hk : k < 256) (hs : ns < 256) (hr : nr < 256) (h : okP k ns nr = true) (w : World) :
    Calls Tryd.prog 25 #[.int .u8 (k : Int), .bool pf, .int .u8 (ns : Int), .int .u8 (nr : Int)] w fun e w' => e = .returned (.tuple #[.int .u8 (oct k pf ns nr : Int), .int .i64 0]) ∧ w = w' := by
  obtain ⟨b1, b2, b3, b4, b5, b6⟩ := okP_bounds h
  have hl := bareN_lt k (by omega)
  have ho := oct_lt pf h
  unfold oct at ho
  clear h
  have h7 : nr = 0 ∨ isN k = true := by simp [isN]; omega
  clear b6
  by_cases h3 : ns = 0
  · subst h3
    by_cases h4 : nr = 0
    · subst h4
      clear h7 b5
      cases pf
      all_goals
        simp only [↓reduceIte, Bool.false_eq_true] at ho
        go_enter Tryd.func25, Tryd.ntmps25
        go_wp2_with (first
          | (go_at_call 42; ((with_reducible refine (octet _ hk _).mono ?_); rintro e w' ⟨rfl, rfl⟩)))
        go_ret2
        exact ⟨ret_ii (by simp [oct]) rfl, rfl⟩
    · have h8 := h7.resolve_left h4
      have q1 : ((nr : Int) != 0) = true := by rw [bne_iff_ne]; omega
      clear h7 b5
      cases pf
      all_goals
        simp only [↓reduceIte, Bool.false_eq_true] at ho
        go_enter Tryd.func25, Tryd.ntmps25
        go_wp2_with (first
          | (go_at_call 42; ((with_reducible refine (octet _ hk _).mono ?_); rintro e w' ⟨rfl, rfl⟩))
          | (go_at_call 41; ((with_reducible refine (numbered _ hk _).mono ?_); rintro e w' ⟨rfl, rfl⟩)))
        go_ret2
        exact ⟨ret_ii (by simp [oct]) rfl, rfl⟩
  · obtain rfl : k = 7 := by omega
    have q2 : ((ns : Int) != 0) = true := by rw [bne_iff_ne]; omega
    have hb : bareN 7 = 0 := rfl
    rw [hb] at ho hl
    have HB := Lib.hid hb
    clear h7 b5 hb
    by_cases h4 : nr = 0
    · subst h4
      cases pf
      all_goals
        simp only [↓reduceIte, Bool.false_eq_true] at ho
        go_enter Tryd.func25, Tryd.ntmps25
        go_wp2_with (first
          | (go_at_call 42; ((with_reducible refine (octet7 _).mono ?_); rintro e w' ⟨rfl, rfl⟩)))
        go_ret2
        exact ⟨ret_ii (by simp [oct, HB.out]) rfl, rfl⟩
    · have q1 : ((nr : Int) != 0) = true := by rw [bne_iff_ne]; omega
      cases pf
      all_goals
        simp only [↓reduceIte, Bool.false_eq_true] at ho
        go_enter Tryd.func25, Tryd.ntmps25
        go_wp2_with (first
          | (go_at_call 42; ((with_reducible refine (octet7 _).mono ?_); rintro e w' ⟨rfl, rfl⟩))
          | (go_at_call 41; ((with_reducible refine (numbered7 _).mono ?_); rintro e w' ⟨rfl, rfl⟩)))
        go_ret2
        exact ⟨ret_ii (by simp [oct, HB.out]) rfl, rfl⟩
theorem rput (k ns nr : Nat) (pf : Bool) (hk : k < 256) (hs : ns < 256) (hr : nr < 256) (w : World) :
    Calls Tryd.prog 25 #[.int .u8 (k : Int), .bool pf, .int .u8 (ns : Int), .int .u8 (nr : Int)] w fun e w' => e = .returned (.tuple #[.int .u8 (pC k pf ns nr : Int), .int .i64 (pE k ns nr : Int)]) ∧ w = w' := by
  by_cases h : okP k ns nr = true
  · rw [pC_ok pf h, pE_ok h]; exact rput_ok k ns nr pf hk hs hr h w
  · have h' : okP k ns nr = false := by simpa using h
    rw [pC_no pf h', pE_no h']; exact rput_no k ns nr pf hk hs hr h' w
def carryB (k : Nat) : Bool := decide (k = 5 ∨ k = 6 ∨ k = 7)
def mayB (k : Nat) (c : Bool) : Bool := decide (1 ≤ k ∧ k ≤ 10 ∧ (c = true → k ≠ 2 ∧ k ≠ 3) ∧ (c = false → k ≠ 1 ∧ k ≠ 4))
theorem fcarries (k : Nat) (hk : k < 256) (w : World) :
    Calls Tryd.prog 37 #[.int .u8 (k : Int)] w fun e w' => e = .returned (.bool (carryB k)) ∧ w = w' := by
  go_enter Tryd.func37, Tryd.ntmps37
  go_wp2
  all_goals
    go_ret
    exact ⟨ret_bool (by rw [carryB, Bool.eq_iff_iff]; simp; omega), rfl⟩
theorem rcarries (k : Nat) (hk : k < 256) (w : World) :
    Calls Tryd.prog 40 #[.int .u8 (k : Int)] w fun e w' => e = .returned (.bool (carryB k)) ∧ w = w' := by
  go_enter Tryd.func40, Tryd.ntmps40
  go_wp2
  all_goals
    go_ret
    exact ⟨ret_bool (by rw [carryB, Bool.eq_iff_iff]; simp; omega), rfl⟩
theorem rmay (k : Nat) (c : Bool) (hk : k < 256) (w : World) :
    Calls Tryd.prog 39 #[.int .u8 (k : Int), .bool c] w fun e w' => e = .returned (.bool (mayB k c)) ∧ w = w' := by
  have cases12 : k = 0 ∨ k = 1 ∨ k = 2 ∨ k = 3 ∨ k = 4 ∨ k = 5 ∨ k = 6 ∨ k = 7 ∨ k = 8 ∨ k = 9 ∨ k = 10 ∨ 11 ≤ k := by omega
  rcases cases12 with rfl | rfl | rfl | rfl | rfl | rfl | rfl | rfl | rfl | rfl | rfl | h
  case inr.inr.inr.inr.inr.inr.inr.inr.inr.inr.inr =>
    go_enter Tryd.func39, Tryd.ntmps39
    go_wp2
    go_ret
    exact ⟨ret_bool (by rw [mayB, Bool.eq_iff_iff]; simp; omega), rfl⟩
  all_goals
    cases c
    all_goals
      go_enter Tryd.func39, Tryd.ntmps39
      go_wp2
      go_ret
      exact ⟨rfl, rfl⟩
theorem fmay (k : Nat) (c : Bool) (hk : k < 256) (w : World) :
    Calls Tryd.prog 36 #[.int .u8 (k : Int), .bool c] w fun e w' => e = .returned (.bool (mayB k c)) ∧ w = w' := by
  have cases5 : k = 1 ∨ k = 4 ∨ k = 2 ∨ k = 3 ∨ (k ≠ 1 ∧ k ≠ 4 ∧ k ≠ 2 ∧ k ≠ 3) := by omega
  rcases cases5 with rfl | rfl | rfl | rfl | ⟨h1, h2, h3, h4⟩
  case inr.inr.inr.inr =>
    have q1 : ((k : Int) == 1) = false := by rw [beq_eq_false_iff_ne]; omega
    have q2 : ((k : Int) == 4) = false := by rw [beq_eq_false_iff_ne]; omega
    have q3 : ((k : Int) == 2) = false := by rw [beq_eq_false_iff_ne]; omega
    have q4 : ((k : Int) == 3) = false := by rw [beq_eq_false_iff_ne]; omega
    have HE : Hid (isK k = mayB k c) := Lib.hid (by rw [isK, mayB, Bool.eq_iff_iff]; simp; omega)
    go_enter Tryd.func36, Tryd.ntmps36
    go_wp2_with (first
      | (go_at_call 47; ((with_reducible refine (isKind _ hk _).mono ?_); rintro e w' ⟨rfl, rfl⟩)))
    go_ret
    exact ⟨ret_bool HE.out, rfl⟩
  all_goals
    cases c
    all_goals
      go_enter Tryd.func36, Tryd.ntmps36
      go_wp2
      go_ret
      exact ⟨rfl, rfl⟩
end Go.Proofs.YtgikdcamppcphaaDoor.Field
