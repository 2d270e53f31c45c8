/-
  What the functions of layer 2 that write and split an address, and each of the document's own, answer. No condition.
-/
import Derived.Test.YthlciaomfpephaaDoorChecked
import Derived.Test.YthlciaomfpephaaDoorEaMath
import Derived.Test.YthlciaomfpephaaDoorBase
import Derived.Test.YthlciaomfpephaaDoorConv
import Derived.WalkKit
import Derived.Lib.Hide
import Derived.Deep.QuietTactic
import Derived.BigQuiet
namespace Go.Proofs.YthlciaomfpephaaDoor.Ea
open Go.RowKit Go.Proofs.YthlciaomfpephaaDoor.Base
theorem isLast (a : Nat) (ha : a < 256) (w : World) :
    Calls Tryd.prog 52 #[.int .u8 (a : Int)] w fun e w' => e = .returned (.bool (spK a)) ∧ w = w' := by
  have H := u8_and1 a ha
  go_enter Tryd.func52, Tryd.ntmps52
  go_wp2
  go_ret
  exact ⟨ret_bool (by unfold spK; rw [Bool.eq_iff_iff]; simp; omega), rfl⟩
theorem address (d : Nat) (hd : d < 256) (cr : Bool) (w : World) :
    Calls Tryd.prog 21 #[.int .u8 (d : Int), .bool cr] w fun e w' => e = .returned (.int .u8 (addr d cr : Int)) ∧ w = w' := by
  by_cases h : 63 < d
  · go_enter Tryd.func21, Tryd.ntmps21
    go_wp2
    go_ret
    exact ⟨ret_int (by rw [addr, if_pos h]; rfl), rfl⟩
  · have e1 : bits .or .u8 ((d : Int) * 4) 1 = (d : Int) * 4 + 1 := bits_join .u8 8 (by decide) wraps_u8 2 _ _ (by omega) (by omega) (by omega) (by decide) (by decide) (by decide)
    have e2 : bits .or .u8 ((d : Int) * 4 + 1) 2 = (d : Int) * 4 + 3 := by
      have : ∀ j : Fin 64, bits .or .u8 ((j.val : Int) * 4 + 1) 2 = (j.val : Int) * 4 + 3 := by decide +kernel
      exact this ⟨d, by omega⟩
    have ha : addr d cr = 4 * d + 2 * cr.toNat + 1 := if_neg h
    rw [ha]; clear ha
    cases cr
    all_goals
      go_enter Tryd.func21, Tryd.ntmps21
      go_wp2
      go_ret
      exact ⟨ret_int (by simp; omega), rfl⟩
theorem split (a : Nat) (ha : a < 256) (w : World) :
    Calls Tryd.prog 44 #[.int .u8 (a : Int)] w fun e w' => e = .returned (.tuple #[.int .u8 (spD a : Int), .bool (spC a), .bool (spK a)]) ∧ w = w' := by
  have e2 := u8_and2 a ha
  by_cases h : a % 2 = 1
  · have hk : spK a = true := decide_eq_true h
    have HD : Hid (spD a = a / 4) := Lib.hid (if_pos h)
    have HC : Hid (spC a = decide (a / 2 % 2 = 1)) := Lib.hid (by unfold spC; rw [Bool.eq_iff_iff]; simp [h])
    go_enter Tryd.func44, Tryd.ntmps44
    go_wp2_with (go_at_call 52; ((with_reducible refine (isLast _ ha _).mono ?_); rintro e w' ⟨rfl, rfl⟩))
    go_ret3
    exact ⟨ret_ibb (by rw [HD.out]; simp) (by rw [HC.out, Bool.eq_iff_iff]; simp; omega) hk.symm, rfl⟩
  · have hk : spK a = false := decide_eq_false h
    have HD : Hid (spD a = 0) := Lib.hid (if_neg h)
    have HC : Hid (spC a = false) := Lib.hid (by unfold spC; rw [Bool.eq_iff_iff]; simp [h])
    go_enter Tryd.func44, Tryd.ntmps44
    go_wp2_with (go_at_call 52; ((with_reducible refine (isLast _ ha _).mono ?_); rintro e w' ⟨rfl, rfl⟩))
    go_ret3
    exact ⟨ret_ibb (by rw [HD.out]; rfl) HC.out.symm hk.symm, rfl⟩
end Go.Proofs.YthlciaomfpephaaDoor.Ea
