/-
  CreditNone answers true whatever the number is, and turns nothing that was there. No condition.
-/
import Derived.Test.YtaeinccehkofgaaCrWorks
namespace Go.Proofs.Ytaeinccehkofgaa.creditNone
open Go.RowKit Go.Proofs.Ytaeinccehkofgaa.Base Go.Proofs.Ytaeinccehkofgaa.Mem Go.Proofs.Ytaeinccehkofgaa.Cr
set_option maxHeartbeats 4000000 in
theorem all (n : Int) (w : World) : Calls Try.prog 5 #[im n] w fun e w' => e = .returned (.bool true) ∧ Below w.heap.size w w' := by
  have CW := Lib.hid (fun w => fworks w)
  go_enter Try.func5, Try.ntmps5
  go_wp2_with (first
    | (go_at_call 23; refine (fleft_nil _).mono ?_; rintro x v ⟨rfl, rfl⟩)
    | (go_at_call 13; refine (fuse_nil _ _).mono ?_; rintro x v ⟨rfl, rfl⟩)
    | (go_at_call 15; refine (fgrant_nil _ _).mono ?_; rintro x v ⟨rfl, rfl⟩)
    | (go_at_call 24; refine (fholds_nil _).mono ?_; rintro x v ⟨rfl, rfl⟩)
    | (go_at_call 25; refine (fowes_nil _).mono ?_; rintro x v ⟨rfl, rfl⟩)
    | (go_at_call 17; refine (fcome_nil _ _).mono ?_; rintro x v ⟨rfl, rfl⟩)
    | (go_at_call 19; refine (fread_nil _ _).mono ?_; rintro x v ⟨rfl, rfl⟩)
    | (go_at_call 21; refine (fpay_nil _).mono ?_; rintro x v ⟨rfl, rfl⟩)
    | (go_at_call 7; refine (CW.out _).mono ?_; rintro x v ⟨rfl, hb⟩; have HB := Lib.hid hb; clear hb))
  go_ret
  exact ⟨rfl, HB.out⟩
theorem law (n : Int) (_ : -9223372036854775808 ≤ n ∧ n ≤ 9223372036854775807) (w : World) : Calls Try.prog 5 #[im n] w fun e w' => e = .returned (.bool true) ∧ Below w.heap.size w w' := all n w
end Go.Proofs.Ytaeinccehkofgaa.creditNone
