/-
  What the functions of layer 2 that write and split an address, and each of the document's own, answer. No condition.
-/
import Derived.Test.YtlmfnjdbknfkjaaChecked
import Derived.Test.YtlmfnjdbknfkjaaEaMath
import Derived.Test.YtlmfnjdbknfkjaaBase
import Derived.Test.YtlmfnjdbknfkjaaConv
import Derived.WalkKit
import Derived.Lib.Hide
import Derived.Deep.QuietTactic
import Derived.BigQuiet
namespace Go.Proofs.Ytlmfnjdbknfkjaa.Ea
open Go.RowKit Go.Proofs.Ytlmfnjdbknfkjaa.Base
theorem isLast (a : Nat) (ha : a < 256) (w : World) :
    Calls Try.prog 27 #[.int .u8 (a : Int)] w fun e w' => e = .returned (.bool (spK a)) ∧ w = w' := by
  have H := u8_and1 a ha
  go_enter Try.func27, Try.ntmps27
  go_wp2
  go_ret
  exact ⟨ret_bool (by unfold spK; rw [Bool.eq_iff_iff]; simp; omega), rfl⟩
end Go.Proofs.Ytlmfnjdbknfkjaa.Ea
