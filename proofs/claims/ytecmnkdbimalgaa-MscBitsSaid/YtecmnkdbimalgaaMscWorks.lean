/-
  The chapter's examples of layer 9 hold. No condition.
-/
import Derived.Test.YtecmnkdbimalgaaMscRget
namespace Go.Proofs.Ytecmnkdbimalgaa.Msc
open Go.RowKit Go.Proofs.Ytecmnkdbimalgaa.Base Go.Proofs.Ytecmnkdbimalgaa.Mem
abbrev exA : Value := .agg #[.int .u8 1, .bool false, .bool true, .bool true, .bool false, .bool true, .bool false, .int .u8 0]
abbrev exB : Value := .agg #[.int .u8 2, .bool true, .bool false, .bool false, .bool false, .bool false, .bool true, .int .u8 5]
theorem k1 (w : World) : Calls Try.prog 8 #[exA] w fun e w' => e = .returned (.tuple #[.string ⟨#[7, 141]⟩, .int .i64 0]) ∧ Below w.heap.size w w' :=
  fput ⟨1, false, true, true, false, true, false, 0⟩ ⟨by decide, by decide⟩ w
theorem k2 (w : World) : Calls Try.prog 8 #[exB] w fun e w' => e = .returned (.tuple #[.string ⟨#[11, 2, 83]⟩, .int .i64 0]) ∧ Below w.heap.size w w' :=
  fput ⟨2, true, false, false, false, false, true, 5⟩ ⟨by decide, by decide⟩ w
theorem k3 (w : World) : Calls Try.prog 14 #[.string ⟨#[7]⟩] w fun e w' => e = .returned (.tuple #[noV, .int .i64 20]) ∧ Below w.heap.size w w' := by
  have h := fget ⟨#[7]⟩ w
  obtain ⟨e1, e2⟩ := got_short (v := ⟨#[7]⟩) (by decide +kernel)
  rw [e1, e2] at h
  exact h
theorem k4 (w : World) : Calls Try.prog 14 #[.string ⟨#[7, 143, 1]⟩] w fun e w' => e = .returned (.tuple #[noV, .int .i64 70]) ∧ Below w.heap.size w w' := by
  have h := fget ⟨#[7, 143, 1]⟩ w
  obtain ⟨e1, e2⟩ := got_no (v := ⟨#[7, 143, 1]⟩) (by decide +kernel) (by decide +kernel)
  rw [e1, e2] at h
  exact h
theorem k5 (w : World) : Calls Try.prog 14 #[.string ⟨#[7, 141]⟩] w fun e w' => e = .returned (.tuple #[exA, .int .i64 0]) ∧ Below w.heap.size w w' := by
  have h := fget ⟨#[7, 141]⟩ w
  obtain ⟨e1, e2⟩ := got_ok (v := ⟨#[7, 141]⟩) (by decide +kernel) (by decide +kernel)
  rw [e1, e2] at h
  exact h
theorem k6 (w : World) : (binOp .eql 23 exA exA).run Try.prog w = .ok (.bool true) w := (run_eqS ⟨1, false, true, true, false, true, false, 0⟩ ⟨1, false, true, true, false, true, false, 0⟩ w).trans (by rw [eqS_self])
set_option maxRecDepth 100000 in
theorem works (w : World) : Calls Try.prog 13 #[] w fun e w' => e = .returned (.bool true) ∧ Below w.heap.size w w' := by
  have HE : ∀ w, (binOp .eql 23 exA exA).run Try.prog w = .ok (.bool true) w := k6
  go_enter Try.func13, Try.ntmps13
  go_wp2_with (first
    | (go_at_call 8; (first
        | ((with_reducible refine (k1 _).mono ?_); rintro e w1 ⟨rfl, hb⟩; have HB1 : Hid (Below w.heap.size w w1) := Lib.hid hb; clear hb)
        | ((with_reducible refine (k2 _).mono ?_); rintro e w2 ⟨rfl, hb⟩; have HB2 : Hid (Below w.heap.size w w2) := Lib.hid (below_on HB1.out hb); clear hb)))
    | (go_at_call 14; (first
        | ((with_reducible refine (k3 _).mono ?_); rintro e w3 ⟨rfl, hb⟩; have HB3 : Hid (Below w.heap.size w w3) := Lib.hid (below_on HB2.out hb); clear hb)
        | ((with_reducible refine (k4 _).mono ?_); rintro e w4 ⟨rfl, hb⟩; have HB4 : Hid (Below w.heap.size w w4) := Lib.hid (on_new HB3.out hb); clear hb)
        | ((with_reducible refine (k5 _).mono ?_); rintro e w5 ⟨rfl, hb⟩; have HB5 : Hid (Below w.heap.size w w5) := Lib.hid (on_new HB4.out hb); clear hb))))
  go_ret
  exact ⟨rfl, HB5.out.alloc HB5.out.size _⟩
end Go.Proofs.Ytecmnkdbimalgaa.Msc
