/-
  cmp.isNaN and cmp.Less at octets. No condition.
-/
import Derived.Test.YtcadeoolacoidaaSrtMem
namespace Go.Proofs.Ytcadeoolacoidaa.Srt
open Go.RowKit Go.Proofs.Ytcadeoolacoidaa.Base Go.Proofs.Ytcadeoolacoidaa.Mem
set_option maxHeartbeats 400000 in
theorem fnan (x : Int) (w : World) : Calls Try.prog 44 #[.int .u8 x] w fun e w' => e = .returned (.bool false) ∧ w' = w := by
  go_enter Try.func44, Try.results44
  go_wp2
  go_ret
  exact ⟨rfl, rfl⟩
set_option maxHeartbeats 400000 in
theorem fless (x y : Nat) (w : World) : Calls Try.prog 34 #[.int .u8 (x : Int), .int .u8 (y : Int)] w fun e w' => e = .returned (.bool (decide (x < y))) ∧ w' = w := by
  have c1 := fnan (x : Int) w
  go_enter Try.func34, Try.results34
  go_wp2_with fail
  refine c1.mono ?_
  rintro _ _ ⟨rfl, rfl⟩
  trace_state
  by_cases h : x < y
  · have h1 : decide ((x : Int) < (y : Int)) = true := decide_eq_true (by omega)
    have h2 : (x : Int) < (y : Int) := by omega
    go_wp2
    go_ret
    exact ⟨by simp [h], rfl⟩
  · have h1 : decide ((x : Int) < (y : Int)) = false := decide_eq_false (by omega)
    have h2 : ¬ (x : Int) < (y : Int) := by omega
    go_wp2
    go_ret
    exact ⟨by simp [h], rfl⟩
end Go.Proofs.Ytcadeoolacoidaa.Srt
