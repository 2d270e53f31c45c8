/-
  The chapter's examples of layer 7 hold; TlvPut and TlvGet answer true for everything, and turn nothing that was there. No condition.
-/
import Derived.Test.YtlmfnjdbknfkjaaTlvPut
import Derived.Test.YtlmfnjdbknfkjaaTlvGet
import Derived.Test.YtlmfnjdbknfkjaaTlvRef
namespace Go.Proofs.Ytlmfnjdbknfkjaa.Tlv
open Go.RowKit Go.Proofs.Ytlmfnjdbknfkjaa.Base Go.Proofs.Ytlmfnjdbknfkjaa.Ea Go.Proofs.Ytlmfnjdbknfkjaa.Mem
theorem k1 (w : World) : Calls Try.prog 8 #[.int .u8 8, .bool true, .string ⟨#[97, 98]⟩] w fun e w' => e = .returned (.tuple #[.string ⟨#[35, 5, 97, 98]⟩, .int .i64 0]) ∧ Below w.heap.size w w' := fput 8 (by decide) true ⟨#[97, 98]⟩ (by decide) w
theorem k2 (w : World) : Calls Try.prog 10 #[.string ⟨#[35, 5, 97]⟩] w fun e w' => e = .returned (.tuple #[.int .u8 0, .bool false, .string ⟨#[]⟩, .int .i64 0, .int .i64 20]) ∧ Below w.heap.size w w' := fget ⟨#[35, 5, 97]⟩ (by decide) w
theorem k3 (w : World) : Calls Try.prog 10 #[.string ⟨#[35, 1, 120]⟩] w fun e w' => e = .returned (.tuple #[.int .u8 8, .bool true, .string ⟨#[]⟩, .int .i64 2, .int .i64 0]) ∧ Below w.heap.size w w' := fget ⟨#[35, 1, 120]⟩ (by decide) w
theorem k4 (w : World) : Calls Try.prog 10 #[.string ⟨#[34, 1]⟩] w fun e w' => e = .returned (.tuple #[.int .u8 0, .bool false, .string ⟨#[]⟩, .int .i64 0, .int .i64 70]) ∧ Below w.heap.size w w' := fget ⟨#[34, 1]⟩ (by decide) w
set_option maxRecDepth 100000 in
theorem works (w : World) : Calls Try.prog 7 #[] w fun e w' => e = .returned (.bool true) ∧ Below w.heap.size w w' := by
  go_enter Try.func7, Try.ntmps7
  go_wp2_with (first
    | (go_at_call 8; ((with_reducible refine (k1 _).mono ?_); rintro e w1 ⟨rfl, hb⟩; have HB1 : Hid (Below w.heap.size w w1) := Lib.hid hb; clear hb))
    | (go_at_call 10; (first
        | ((with_reducible refine (k2 _).mono ?_); rintro e w2 ⟨rfl, hb⟩; have HB2 : Hid (Below w.heap.size w w2) := Lib.hid (below_on HB1.out hb); clear hb)
        | ((with_reducible refine (k3 _).mono ?_); rintro e w3 ⟨rfl, hb⟩; have HB3 : Hid (Below w.heap.size w w3) := Lib.hid (below_on HB2.out hb); clear hb)
        | ((with_reducible refine (k4 _).mono ?_); rintro e w4 ⟨rfl, hb⟩; have HB4 : Hid (Below w.heap.size w w4) := Lib.hid (below_on HB3.out hb); clear hb))))
  go_ret
  exact ⟨rfl, HB4.out⟩
end Go.Proofs.Ytlmfnjdbknfkjaa.Tlv
