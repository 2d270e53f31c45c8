/-
  What Set says to ticks out of bounds; what a nil wheel answers. No condition.
-/
import Derived.Test.YtcadeoolacoidaaWhSmall
namespace Go.Proofs.Ytcadeoolacoidaa.Wh
open Go.RowKit Go.Proofs.Ytcadeoolacoidaa.Base Go.Proofs.Ytcadeoolacoidaa.Mem
theorem wset_arg (w : World) (pb i : Nat) (v : Int) (hv : v < 1 ∨ 65535 < v) :
    Calls Try.prog 14 #[ptr pb, oc i, .int .i64 v] w fun r w' => r = .returned (.int .i64 2) ∧ w' = w := by
  by_cases h1 : v < 1
  · have g1 : decide (v < 1) = true := decide_eq_true h1
    go_enter Try.func14, Try.ntmps14
    go_wp2
    go_ret
    exact ⟨rfl, rfl⟩
  · have g1 : decide (v < 1) = false := decide_eq_false h1
    have h2 : 65535 < v := by omega
    have g2 : decide (65535 < v) = true := decide_eq_true h2
    go_enter Try.func14, Try.ntmps14
    go_wp2
    go_ret
    exact ⟨rfl, rfl⟩
theorem wset_nil (w : World) (i : Nat) (v : Int) :
    Calls Try.prog 14 #[.pointer none, oc i, .int .i64 v] w fun r w' => r = .returned (.int .i64 1) ∧ w' = w := by
  go_enter Try.func14, Try.ntmps14
  go_wp2
  go_ret
  exact ⟨rfl, rfl⟩
theorem wstop_nil (w : World) (i : Nat) :
    Calls Try.prog 15 #[.pointer none, oc i] w fun r w' => r = .returned (.bool false) ∧ Below w.heap.size w w' := by
  have cf := Lib.hid (ffind_nil i w)
  go_enter Try.func15, Try.ntmps15
  go_wp2_with fail
  refine cf.out.mono ?_
  rintro _ w1 ⟨rfl, rfl⟩
  clear cf
  go_wp2
  go_ret
  exact ⟨rfl, (Below.refl _ _).alloc (Nat.le_refl _) _⟩
theorem wtick_nil (w : World) :
    Calls Try.prog 16 #[.pointer none] w fun r w' => r = .returned (.slice none 0 0) ∧ Below w.heap.size w w' := by
  have cf := Lib.hid (fcount_nil (w.alloc (.cells #[.pointer none] 24)))
  go_enter Try.func16, Try.ntmps16
  go_wp2_with fail
  refine cf.out.mono ?_
  rintro _ w1 ⟨rfl, rfl⟩
  clear cf
  go_wp2
  go_ret
  exact ⟨rfl, (Below.refl _ _).alloc (Nat.le_refl _) _⟩
end Go.Proofs.Ytcadeoolacoidaa.Wh
