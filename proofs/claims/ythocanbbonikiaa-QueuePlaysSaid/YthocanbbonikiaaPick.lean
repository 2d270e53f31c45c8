/-
  What the shared Pick answers: a number from 0 up to m, m left out; no memory turns. Condition: m is above 0 and at most 2^62.
-/
import Derived.Test.YthocanbbonikiaaChecked
import Derived.Test.YthocanbbonikiaaBase
import Derived.Lib.Hide
namespace Go.Proofs.Ythocanbbonikiaa.Base
open Go.RowKit
def place (a m : Int) : Nat := ((a.tmod m + m) % m).toNat
theorem place_lt (a m : Int) (hm : 0 < m) : (place a m : Int) < m := by
  unfold place
  rw [Int.toNat_of_nonneg (Int.emod_nonneg _ (by omega))]
  exact Int.emod_lt_of_pos _ hm
theorem pick (a : Int) (m : Int) (hm : 0 < m) (hM : m ≤ 4611686018427387904) (w : World) :
    Calls Try.prog 11 #[.int .i64 a, .int .i64 m] w fun e w' => e = .returned (.int .i64 (place a m : Int)) ∧ w = w' := by
  have h1 : -m < a.tmod m := by
    have := Int.lt_tmod_of_pos a hm; omega
  have h2 : a.tmod m < m := Int.tmod_lt_of_pos a hm
  have h3 : 0 ≤ (a.tmod m + m) % m := Int.emod_nonneg _ (by omega)
  have HP : Hid (((place a m : Nat) : Int) = (a.tmod m + m) % m) := Lib.hid (Int.toNat_of_nonneg h3)
  go_enter Try.func11, Try.ntmps11
  go_wp2
  go_ret
  exact ⟨ret_int (by rw [HP.out]), rfl⟩
end Go.Proofs.Ythocanbbonikiaa.Base
