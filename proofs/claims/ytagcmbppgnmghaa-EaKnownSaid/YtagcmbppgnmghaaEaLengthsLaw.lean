/-
  EaLengths answers true for every number and bytes, and turns nothing that was there. No condition.
-/
import Derived.Test.YtagcmbppgnmghaaEaWorks
namespace Go.Proofs.Ytagcmbppgnmghaa.eaLengths
open Go.RowKit Go.Proofs.Ytagcmbppgnmghaa.Ea Go.Proofs.Ytagcmbppgnmghaa.Base
theorem law (n : Int) (hn : -9223372036854775808 ≤ n ∧ n ≤ 9223372036854775807) (s : ByteArray) (hs : s.size ≤ maxLen) (w : World) :
    Calls Try.prog 4 #[.int .i64 n, .string s] w fun e w' => e = .returned (.bool true) ∧ Below w.heap.size w w' := by
  have HS := Lib.hid hs
  have hn' := hn.2
  unfold maxLen at hs
  by_cases h : 1000 < s.size
  · go_enter Try.func4, Try.ntmps4
    go_wp2_with (go_at_call 11; ((with_reducible refine (works _).mono ?_); rintro e w1 ⟨rfl, hb⟩; have HB1 : Hid (Below w.heap.size w w1) := Lib.hid hb; clear hb))
    go_ret
    exact ⟨rfl, HB1.out⟩
  · go_enter Try.func4, Try.ntmps4
    go_wp2_with (first
      | (go_at_call 12; ((with_reducible refine (take _ _ HS.out).mono ?_); rintro e w' ⟨rfl, rfl⟩))
      | (go_at_call 13; ((with_reducible refine (rtake _ _ HS.out).mono ?_); rintro e w0 ⟨rfl, hb⟩; have HB0 : Hid (Below w.heap.size w w0) := Lib.hid (by obtain ⟨n, rfl⟩ := hb; exact below_drewN (Below.refl _ _) n); clear hb))
      | (go_at_call 14; ((with_reducible refine (length _ hn' _).mono ?_); rintro e w1 ⟨rfl, hb⟩; have HB1 : Hid (Below w.heap.size w w1) := Lib.hid (below_on HB0.out hb); clear hb))
      | (go_at_call 15; ((with_reducible refine (rlength _ hn' _).mono ?_); rintro e w2 ⟨rfl, hb⟩; have HB2 : Hid (Below w.heap.size w w2) := Lib.hid (below_on HB1.out hb); clear hb))
      | (go_at_call 11; ((with_reducible refine (works _).mono ?_); rintro e w3 ⟨rfl, hb⟩; have HB3 : Hid (Below w.heap.size w w3) := Lib.hid (below_on HB2.out hb); clear hb)))
    go_ret
    exact ⟨rfl, HB3.out⟩
end Go.Proofs.Ytagcmbppgnmghaa.eaLengths
