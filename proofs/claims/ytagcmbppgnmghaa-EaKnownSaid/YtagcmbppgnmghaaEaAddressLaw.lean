/-
  EaAddress answers true for every number, bit and octet, and turns nothing that was there. No condition.
-/
import Derived.Test.YtagcmbppgnmghaaEaWorks
namespace Go.Proofs.Ytagcmbppgnmghaa.eaAddress
open Go.RowKit Go.Proofs.Ytagcmbppgnmghaa.Ea Go.Proofs.Ytagcmbppgnmghaa.Base
theorem law (d : Nat) (hd : d < 256) (cr : Bool) (a : Nat) (ha : a < 256) (w : World) :
    Calls Try.prog 3 #[.int .u8 (d : Int), .bool cr, .int .u8 (a : Int)] w fun e w' => e = .returned (.bool true) ∧ Below w.heap.size w w' := by
  go_enter Try.func3, Try.ntmps3
  go_wp2_with (first
    | (go_at_call 7; ((with_reducible refine (split _ ha _).mono ?_); rintro e w' ⟨rfl, rfl⟩))
    | (go_at_call 8; ((with_reducible refine (rsplit _ ha _).mono ?_); rintro e w' ⟨rfl, rfl⟩))
    | (go_at_call 9; ((with_reducible refine (address _ hd _ _).mono ?_); rintro e w' ⟨rfl, rfl⟩))
    | (go_at_call 10; ((with_reducible refine (raddress _ hd _ _).mono ?_); rintro e w' ⟨rfl, rfl⟩))
    | (go_at_call 11; ((with_reducible refine (works _).mono ?_); rintro e w1 ⟨rfl, hb⟩; have HB1 : Hid (Below w.heap.size w w1) := Lib.hid hb; clear hb)))
  go_ret
  exact ⟨rfl, HB1.out⟩
end Go.Proofs.Ytagcmbppgnmghaa.eaAddress
