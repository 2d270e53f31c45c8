/-
  GateNone answers true whatever came in, and turns nothing that was there. No condition.
-/
import Derived.Test.YtogpfjpjegmkiaaGtWorks
namespace Go.Proofs.Ytogpfjpjegmkiaa.gateNone
open Go.RowKit Go.Proofs.Ytogpfjpjegmkiaa.Base Go.Proofs.Ytogpfjpjegmkiaa.Mem Go.Proofs.Ytogpfjpjegmkiaa.Cr Go.Proofs.Ytogpfjpjegmkiaa.Gt
theorem law (d : Nat) (_ : d < 256) (y : Bool) (w : World) :
    Calls Try.prog 5 #[oc d, .bool y] w fun e w' => e = .returned (.bool true) ∧ Below w.heap.size w w' := by
  have C1 := Lib.hid (fun w => fall_nil y w)
  have C2 := Lib.hid (fun w => fstop_nil d y w)
  have C3 := Lib.hid (fun w => fopen_nil w)
  have C4 := Lib.hid (fun w => fmay_nil d w)
  have C5 := Lib.hid (fun w => fstopped_nil w)
  have CW := Lib.hid fworks
  go_enter Try.func5, Try.ntmps5
  go_wp2_with fail
  refine (C1.out _).mono ?_
  rintro _ _ ⟨rfl, rfl⟩
  go_wp2_with fail
  refine (C2.out _).mono ?_
  rintro _ _ ⟨rfl, rfl⟩
  go_wp2_with fail
  refine (C3.out _).mono ?_
  rintro _ _ ⟨rfl, rfl⟩
  go_wp2_with fail
  refine (C4.out _).mono ?_
  rintro _ _ ⟨rfl, rfl⟩
  go_wp2_with fail
  refine (C5.out _).mono ?_
  rintro _ _ ⟨rfl, rfl⟩
  go_wp2_with fail
  refine (CW.out _).mono ?_
  rintro _ w9 ⟨rfl, hb⟩
  have HB9 := Lib.hid hb
  clear hb CW
  go_wp2
  go_ret
  exact ⟨rfl, HB9.out⟩
end Go.Proofs.Ytogpfjpjegmkiaa.gateNone
