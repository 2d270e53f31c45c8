/-
  The chapter's examples of layer 2 hold. No condition.
-/
import Derived.Test.YtagcmbppgnmghaaEaCalls
namespace Go.Proofs.Ytagcmbppgnmghaa.Ea
open Go.RowKit Go.Proofs.Ytagcmbppgnmghaa.Base
theorem k1 (w : World) : Calls Try.prog 12 #[.string ⟨#[11, 65]⟩] w fun e w' => e = .returned (.tuple #[.int .i64 5, .int .i64 1, .int .i64 0]) ∧ w = w' := take ⟨#[11, 65]⟩ w (by decide)
theorem k2 (w : World) : Calls Try.prog 12 #[.string ⟨#[4, 0]⟩] w fun e w' => e = .returned (.tuple #[.int .i64 2, .int .i64 2, .int .i64 0]) ∧ w = w' := take ⟨#[4, 0]⟩ w (by decide)
theorem k3 (w : World) : Calls Try.prog 12 #[.string ⟨#[0]⟩] w fun e w' => e = .returned (.tuple #[.int .i64 0, .int .i64 0, .int .i64 20]) ∧ w = w' := take ⟨#[0]⟩ w (by decide)
theorem k4 (w : World) : Calls Try.prog 9 #[.int .u8 0, .bool true] w fun e w' => e = .returned (.int .u8 3) ∧ w = w' := address 0 (by decide) true w
theorem k5 (w : World) : Calls Try.prog 9 #[.int .u8 62, .bool false] w fun e w' => e = .returned (.int .u8 249) ∧ w = w' := address 62 (by decide) false w
theorem k6 (w : World) : Calls Try.prog 9 #[.int .u8 64, .bool true] w fun e w' => e = .returned (.int .u8 0) ∧ w = w' := address 64 (by decide) true w
theorem k7 (w : World) : Calls Try.prog 14 #[.int .i64 5] w fun e w' => e = .returned (.string ⟨#[11]⟩) ∧ Below w.heap.size w w' := length 5 (by decide) w
theorem k8 (w : World) : Calls Try.prog 14 #[.int .i64 127] w fun e w' => e = .returned (.string ⟨#[255]⟩) ∧ Below w.heap.size w w' := length 127 (by decide) w
theorem k9 (w : World) : Calls Try.prog 14 #[.int .i64 128] w fun e w' => e = .returned (.string ⟨#[0, 1]⟩) ∧ Below w.heap.size w w' := length 128 (by decide) w
theorem k10 (w : World) : Calls Try.prog 14 #[.int .i64 32767] w fun e w' => e = .returned (.string ⟨#[254, 255]⟩) ∧ Below w.heap.size w w' := length 32767 (by decide) w
theorem below_drewN {B : Nat} {a w : World} (h : Below B a w) (n : Nat) : Below B a (w.drewN n) := h.trans ⟨rfl, rfl, rfl, Nat.le_refl _, fun _ _ => rfl⟩
theorem below_on {w a b : World} (h : Below w.heap.size w a) (h' : Below a.heap.size a b) : Below w.heap.size w b := h.trans (h'.mono h.size)
set_option maxRecDepth 100000 in
theorem works (w : World) : Calls Try.prog 11 #[] w fun e w' => e = .returned (.bool true) ∧ Below w.heap.size w w' := by
  go_enter Try.func11, Try.ntmps11
  go_wp2_with (first
    | (go_at_call 12; (first | ((with_reducible refine (k1 _).mono ?_); rintro e w' ⟨rfl, rfl⟩) | ((with_reducible refine (k2 _).mono ?_); rintro e w' ⟨rfl, rfl⟩) | ((with_reducible refine (k3 _).mono ?_); rintro e w' ⟨rfl, rfl⟩)))
    | (go_at_call 9; (first | ((with_reducible refine (k4 _).mono ?_); rintro e w' ⟨rfl, rfl⟩) | ((with_reducible refine (k5 _).mono ?_); rintro e w' ⟨rfl, rfl⟩) | ((with_reducible refine (k6 _).mono ?_); rintro e w' ⟨rfl, rfl⟩)))
    | (go_at_call 14; (first
        | ((with_reducible refine (k7 _).mono ?_); rintro e w1 ⟨rfl, hb⟩; have HB1 : Hid (Below w.heap.size w w1) := Lib.hid hb; clear hb)
        | ((with_reducible refine (k8 _).mono ?_); rintro e w2 ⟨rfl, hb⟩; have HB2 : Hid (Below w.heap.size w w2) := Lib.hid (below_on HB1.out hb); clear hb)
        | ((with_reducible refine (k9 _).mono ?_); rintro e w3 ⟨rfl, hb⟩; have HB3 : Hid (Below w.heap.size w w3) := Lib.hid (below_on HB2.out hb); clear hb)
        | ((with_reducible refine (k10 _).mono ?_); rintro e w4 ⟨rfl, hb⟩; have HB4 : Hid (Below w.heap.size w w4) := Lib.hid (below_on HB3.out hb); clear hb))))
  go_ret
  exact ⟨rfl, HB4.out⟩
end Go.Proofs.Ytagcmbppgnmghaa.Ea
