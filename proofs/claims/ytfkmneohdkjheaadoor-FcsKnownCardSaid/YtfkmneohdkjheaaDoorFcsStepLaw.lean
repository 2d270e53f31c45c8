/-
  FcsStep answers true for every register and byte, and turns no memory. Condition: the table of sixteen numbers lies where the program lays it.
-/
import Derived.Test.YtfkmneohdkjheaaDoorFcsCalls
namespace Go.Proofs.YtfkmneohdkjheaaDoor.fcsStep
open Go.RowKit Go.Proofs.YtfkmneohdkjheaaDoor.Fcs
theorem law (r : Nat) (hr : r < 256) (b : Nat) (hb : b < 256) (w : World) (ht : Tab w) :
    Calls Tryd.prog 3 #[.int .u8 (r : Int), .int .u8 (b : Int)] w fun e w' => e = .returned (.bool true) ∧ Below w.heap.size w w' := by
  have HT := Lib.hid ht
  clear ht
  go_enter Tryd.func3, Tryd.ntmps3
  go_wp2_with (first
    | (go_at_call 10; ((with_reducible refine (fstep _ _ hr hb _ HT.out).mono ?_); rintro e w' ⟨rfl, rfl⟩))
    | (go_at_call 11; ((with_reducible refine (rstep _ _ hr hb _).mono ?_); rintro e w' ⟨rfl, rfl⟩))
    | (go_at_call 12; ((with_reducible refine (works _ HT.out).mono ?_); rintro e w' ⟨rfl, rfl⟩)))
  go_ret
  exact ⟨rfl, Below.refl _ _⟩
end Go.Proofs.YtfkmneohdkjheaaDoor.fcsStep
