/-
  The chapter's examples hold. No condition.
-/
import Derived.Test.YthdkohjpopjgmaaSqSame
namespace Go.Proofs.Ythdkohjpopjgmaa.Sq
open Go.RowKit Go.Proofs.Ythdkohjpopjgmaa.Base Go.Proofs.Ythdkohjpopjgmaa.Mem
set_option maxHeartbeats 2000000 in
theorem fworks (w : World) : Calls Try.prog 12 #[] w fun r w' => r = .returned (.bool true) ∧ Below w.heap.size w w' := by
  have A1 : Hid (∀ w, Calls Try.prog 18 #[.int .u8 6, .int .u8 1, .int .u8 0] w fun e w' => e = .returned (.tuple #[.int .i64 2, .bool true]) ∧ w = w') := Lib.hid (fun w => fAcks 6 1 0 2 true (by omega) (by omega) (by omega) (by decide) (by decide) w)
  have A2 : Hid (∀ w, Calls Try.prog 18 #[.int .u8 6, .int .u8 1, .int .u8 6] w fun e w' => e = .returned (.tuple #[.int .i64 0, .bool true]) ∧ w = w') := Lib.hid (fun w => fAcks 6 1 6 0 true (by omega) (by omega) (by omega) (by decide) (by decide) w)
  have A3 : Hid (∀ w, Calls Try.prog 18 #[.int .u8 6, .int .u8 1, .int .u8 2] w fun e w' => e = .returned (.tuple #[.int .i64 0, .bool false]) ∧ w = w') := Lib.hid (fun w => fAcks 6 1 2 0 false (by omega) (by omega) (by omega) (by decide) (by decide) w)
  have B1 : Hid (∀ w, Calls Try.prog 8 #[.int .u8 6, .int .i64 3] w fun e w' => e = .returned (.int .u8 1) ∧ w = w') := Lib.hid (fun w => fadd 6 3 1 (by omega) (by decide) w)
  have B2 : Hid (∀ w, Calls Try.prog 8 #[.int .u8 1, .int .i64 (-2)] w fun e w' => e = .returned (.int .u8 7) ∧ w = w') := Lib.hid (fun w => fadd 1 (-2) 7 (by omega) (by decide) w)
  have W1 : Hid (∀ w, Calls Try.prog 10 #[.int .u8 6, .int .u8 1] w fun e w' => e = .returned (.int .i64 3) ∧ w = w') := Lib.hid (fun w => fWay 6 1 3 (by omega) (by omega) (by decide) w)
  have W2 : Hid (∀ w, Calls Try.prog 10 #[.int .u8 1, .int .u8 6] w fun e w' => e = .returned (.int .i64 5) ∧ w = w') := Lib.hid (fun w => fWay 1 6 5 (by omega) (by omega) (by decide) w)
  have I1 : Hid (∀ w, Calls Try.prog 16 #[.int .u8 6, .int .i64 3, .int .u8 0] w fun e w' => e = .returned (.bool true) ∧ w = w') := Lib.hid (fun w => fIn 6 3 0 true (by omega) (by omega) (by decide) w)
  have I2 : Hid (∀ w, Calls Try.prog 16 #[.int .u8 6, .int .i64 3, .int .u8 1] w fun e w' => e = .returned (.bool false) ∧ w = w') := Lib.hid (fun w => fIn 6 3 1 false (by omega) (by omega) (by decide) w)
  have I3 : Hid (∀ w, Calls Try.prog 16 #[.int .u8 6, .int .i64 0, .int .u8 6] w fun e w' => e = .returned (.bool false) ∧ w = w') := Lib.hid (fun w => fIn 6 0 6 false (by omega) (by omega) (by decide) w)
  have N1 : Hid (∀ w, Calls Try.prog 14 #[.int .u8 6, .int .i64 3] w fun e w' => ∃ oa cap, e = .returned (.slice oa 3 cap) ∧ Wd w w' [6, 7, 0] 3 oa cap) := Lib.hid (fun w => fWindow 6 3 3 (by omega) (by decide) w)
  have T1 : Hid (∀ W : World, Row (W.alloc (.cells #[.int .u8 6, .int .u8 7, .int .u8 0] 5)) W.heap.size (.slice (some ⟨W.heap.size, 0, none⟩) 3 3) [6, 7, 0]) := Lib.hid (fun W => three_row W 6 7 0)
  go_enter Try.func12, Try.ntmps12
  go_wp2_with (first
    | (go_at_call 18; first
        | ((with_reducible refine (A1.out _).mono ?_); rintro e w' ⟨rfl, rfl⟩)
        | ((with_reducible refine (A2.out _).mono ?_); rintro e w' ⟨rfl, rfl⟩)
        | ((with_reducible refine (A3.out _).mono ?_); rintro e w' ⟨rfl, rfl⟩))
    | (go_at_call 8; first
        | ((with_reducible refine (B1.out _).mono ?_); rintro e w' ⟨rfl, rfl⟩)
        | ((with_reducible refine (B2.out _).mono ?_); rintro e w' ⟨rfl, rfl⟩))
    | (go_at_call 10; first
        | ((with_reducible refine (W1.out _).mono ?_); rintro e w' ⟨rfl, rfl⟩)
        | ((with_reducible refine (W2.out _).mono ?_); rintro e w' ⟨rfl, rfl⟩))
    | (go_at_call 16; first
        | ((with_reducible refine (I1.out _).mono ?_); rintro e w' ⟨rfl, rfl⟩)
        | ((with_reducible refine (I2.out _).mono ?_); rintro e w' ⟨rfl, rfl⟩)
        | ((with_reducible refine (I3.out _).mono ?_); rintro e w' ⟨rfl, rfl⟩)))
  refine (N1.out _).mono ?_
  rintro _ w1 ⟨oa, cap, rfl, hw⟩
  have HW := Lib.hid hw
  clear hw
  go_wp2_with fail
  refine (fsame' _ _ _ _ _ [6, 7, 0] [6, 7, 0] true (by decide) (HW.out.row.alloc _) (T1.out w1) (by decide) (by decide)).mono ?_
  rintro _ w2 ⟨rfl, m, hm⟩
  have HM := Lib.hid hm
  clear hm
  go_wp2
  go_ret
  exact ⟨rfl, by rw [HM.out]; exact below_drewN (HW.out.below.alloc HW.out.below.size _) m⟩
end Go.Proofs.Ythdkohjpopjgmaa.Sq
