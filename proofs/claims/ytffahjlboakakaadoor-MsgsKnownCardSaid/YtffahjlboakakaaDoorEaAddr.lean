/-
  What the functions of layer 2 that write and split an address, and each of the document's own, answer. No condition.
-/
import Derived.Test.YtffahjlboakakaaDoorChecked
import Derived.Test.YtffahjlboakakaaDoorEaMath
import Derived.Test.YtffahjlboakakaaDoorBase
import Derived.Test.YtffahjlboakakaaDoorConv
import Derived.WalkKit
import Derived.Lib.Hide
import Derived.Deep.QuietTactic
import Derived.BigQuiet
namespace Go.Proofs.YtffahjlboakakaaDoor.Ea
open Go.RowKit Go.Proofs.YtffahjlboakakaaDoor.Base
theorem isLast (a : Nat) (ha : a < 256) (w : World) :
    Calls Tryd.prog 66 #[.int .u8 (a : Int)] w fun e w' => e = .returned (.bool (spK a)) ∧ w = w' := by
  have H := u8_and1 a ha
  go_enter Tryd.func66, Tryd.ntmps66
  go_wp2
  go_ret
  exact ⟨ret_bool (by unfold spK; rw [Bool.eq_iff_iff]; simp; omega), rfl⟩
theorem address (d : Nat) (hd : d < 256) (cr : Bool) (w : World) :
    Calls Tryd.prog 55 #[.int .u8 (d : Int), .bool cr] w fun e w' => e = .returned (.int .u8 (addr d cr : Int)) ∧ w = w' := by
  by_cases h : 63 < d
  · go_enter Tryd.func55, Tryd.ntmps55
    go_wp2
    go_ret
    exact ⟨ret_int (by rw [addr, if_pos h]; rfl), rfl⟩
  · have e1 : bits .or .u8 ((d : Int) * 4) 1 = (d : Int) * 4 + 1 := bits_join .u8 8 (by decide) wraps_u8 2 _ _ (by omega) (by omega) (by omega) (by decide) (by decide) (by decide)
    have e2 : bits .or .u8 ((d : Int) * 4 + 1) 2 = (d : Int) * 4 + 3 := by
      have : ∀ j : Fin 64, bits .or .u8 ((j.val : Int) * 4 + 1) 2 = (j.val : Int) * 4 + 3 := by decide +kernel
      exact this ⟨d, by omega⟩
    have ha : addr d cr = 4 * d + 2 * cr.toNat + 1 := if_neg h
    rw [ha]; clear ha
    cases cr
    all_goals
      go_enter Tryd.func55, Tryd.ntmps55
      go_wp2
      go_ret
      exact ⟨ret_int (by simp; omega), rfl⟩
theorem rbit (b : Bool) (w : World) :
    Calls Tryd.prog 58 #[.bool b] w fun e w' => e = .returned (.int .i64 (b.toNat : Int)) ∧ w = w' := by
  cases b
  all_goals
    go_enter Tryd.func58, Tryd.ntmps58
    go_wp2
    go_ret
    exact ⟨rfl, rfl⟩
theorem raddress (d : Nat) (hd : d < 256) (cr : Bool) (w : World) :
    Calls Tryd.prog 42 #[.int .u8 (d : Int), .bool cr] w fun e w' => e = .returned (.int .u8 (addr d cr : Int)) ∧ w = w' := by
  by_cases h : 63 < d
  · go_enter Tryd.func42, Tryd.ntmps42
    go_wp2
    go_ret
    exact ⟨ret_int (by rw [addr, if_pos h]; rfl), rfl⟩
  · have ha : addr d cr = 4 * d + 2 * cr.toNat + 1 := if_neg h
    rw [ha]; clear ha
    have hb := Bool.toNat_le cr
    go_enter Tryd.func42, Tryd.ntmps42
    go_wp2_with (go_at_call 58; ((with_reducible refine (rbit _ _).mono ?_); rintro e w' ⟨rfl, rfl⟩))
    go_ret
    exact ⟨ret_int (by simp), rfl⟩
theorem split (a : Nat) (ha : a < 256) (w : World) :
    Calls Tryd.prog 68 #[.int .u8 (a : Int)] w fun e w' => e = .returned (.tuple #[.int .u8 (spD a : Int), .bool (spC a), .bool (spK a)]) ∧ w = w' := by
  have e2 := u8_and2 a ha
  by_cases h : a % 2 = 1
  · have hk : spK a = true := decide_eq_true h
    have HD : Hid (spD a = a / 4) := Lib.hid (if_pos h)
    have HC : Hid (spC a = decide (a / 2 % 2 = 1)) := Lib.hid (by unfold spC; rw [Bool.eq_iff_iff]; simp [h])
    go_enter Tryd.func68, Tryd.ntmps68
    go_wp2_with (go_at_call 66; ((with_reducible refine (isLast _ ha _).mono ?_); rintro e w' ⟨rfl, rfl⟩))
    go_ret3
    exact ⟨ret_ibb (by rw [HD.out]; simp) (by rw [HC.out, Bool.eq_iff_iff]; simp; omega) hk.symm, rfl⟩
  · have hk : spK a = false := decide_eq_false h
    have HD : Hid (spD a = 0) := Lib.hid (if_neg h)
    have HC : Hid (spC a = false) := Lib.hid (by unfold spC; rw [Bool.eq_iff_iff]; simp [h])
    go_enter Tryd.func68, Tryd.ntmps68
    go_wp2_with (go_at_call 66; ((with_reducible refine (isLast _ ha _).mono ?_); rintro e w' ⟨rfl, rfl⟩))
    go_ret3
    exact ⟨ret_ibb (by rw [HD.out]; rfl) HC.out.symm hk.symm, rfl⟩
/-- The octet's address is looked for: which numbers and bits have been looked at. -/
theorem rsplit (a : Nat) (ha : a < 256) (w : World) :
    Calls Tryd.prog 52 #[.int .u8 (a : Int)] w fun e w' => e = .returned (.tuple #[.int .u8 (spD a : Int), .bool (spC a), .bool (spK a)]) ∧ w = w' := by
  have HR : Hid (∀ d : Nat, d < 64 → ∀ b : Bool, addr d b = a → spD a = d ∧ spC a = b ∧ spK a = true) := Lib.hid (addr_is a)
  have HN : Hid ((∀ d : Nat, d < 64 → ∀ b : Bool, addr d b ≠ a) → spD a = 0 ∧ spC a = false ∧ spK a = false) := Lib.hid (addr_none a ha)
  go_enter Tryd.func52, Tryd.ntmps52
  go_wp2
  go_loop [5] (fun d => ∃ k : Nat, k ≤ 64 ∧ d = .int .u8 k ∧ Hid (∀ j : Nat, j < k → ∀ b : Bool, addr j b ≠ a)) (fun d => 64 - (intOf d).toNat)
  case atStart => exact ⟨0, by omega, rfl, Lib.hid (fun j hj => by omega)⟩
  case round =>
    obtain ⟨k, hk, rfl, HK⟩ := hrel
    by_cases hlt : k < 64
    · have hd : decide ((k : Int) < 64) = true := by simp; omega
      go_wp2
      go_loop [6] (fun i => ∃ m : Nat, m ≤ 2 ∧ i = .int .i64 m ∧ Hid (∀ b : Bool, b.toNat < m → addr k b ≠ a)) (fun i => 2 - (intOf i).toNat)
      case atStart => exact ⟨0, by omega, rfl, Lib.hid (fun b hb => by omega)⟩
      case round =>
        obtain ⟨m, hm, rfl, HM⟩ := hrel
        by_cases hm2 : m < 2
        · have hlt' : k < 256 := by omega
          obtain rfl | rfl : m = 0 ∨ m = 1 := by omega
          all_goals
            first
              | (by_cases he : addr k false = a
                 · have HE := Lib.hid (HR.out k hlt false he)
                   have hb : (((addr k false : Nat) : Int) == (a : Int)) = true := by rw [beq_iff_eq, he]
                   clear he
                   go_wp2_with (go_at_call 42; ((with_reducible refine (raddress _ hlt' false _).mono ?_); rintro e w' ⟨rfl, rfl⟩))
                   go_ret3
                   exact ⟨ret_ibb (by rw [HE.out.1]) HE.out.2.1.symm HE.out.2.2.symm, rfl⟩
                 · have HE := Lib.hid he
                   have hb : (((addr k false : Nat) : Int) == (a : Int)) = false := by rw [beq_eq_false_iff_ne]; omega
                   clear he
                   go_wp2_with (go_at_call 42; ((with_reducible refine (raddress _ hlt' false _).mono ?_); rintro e w' ⟨rfl, rfl⟩))
                   go_round
                   case rel => exact ⟨1, by omega, by go_num, Lib.hid (fun b hb => by cases b; exact HE.out; exact absurd hb (by decide))⟩
                   case measure => simp [intOf])
              | (by_cases he : addr k true = a
                 · have HE := Lib.hid (HR.out k hlt true he)
                   have hb : (((addr k true : Nat) : Int) == (a : Int)) = true := by rw [beq_iff_eq, he]
                   clear he
                   go_wp2_with (go_at_call 42; ((with_reducible refine (raddress _ hlt' true _).mono ?_); rintro e w' ⟨rfl, rfl⟩))
                   go_ret3
                   exact ⟨ret_ibb (by rw [HE.out.1]) HE.out.2.1.symm HE.out.2.2.symm, rfl⟩
                 · have HE := Lib.hid he
                   have hb : (((addr k true : Nat) : Int) == (a : Int)) = false := by rw [beq_eq_false_iff_ne]; omega
                   clear he
                   go_wp2_with (go_at_call 42; ((with_reducible refine (raddress _ hlt' true _).mono ?_); rintro e w' ⟨rfl, rfl⟩))
                   go_round
                   case rel => exact ⟨2, by omega, by go_num, Lib.hid (fun b hb => by cases b; exact HM.out false (by decide); exact HE.out)⟩
                   case measure => simp [intOf])
        · have HM2 : Hid (∀ b : Bool, addr k b ≠ a) := Lib.hid (fun b => HM.out b (by have := Bool.toNat_le b; omega))
          go_wp2
          go_round
          case rel => exact ⟨k + 1, by omega, by go_num, Lib.hid (fun j hj b => by
            by_cases hjk : j = k
            · rw [hjk]; exact HM2.out b
            · exact HK.out j (by omega) b)⟩
          case measure => simp [intOf]; omega
    · have HZ := Lib.hid (HN.out (fun d hd b => HK.out d (by omega) b))
      go_wp2
      go_ret3
      exact ⟨ret_ibb (by rw [HZ.out.1]; rfl) HZ.out.2.1.symm HZ.out.2.2.symm, rfl⟩
end Go.Proofs.YtffahjlboakakaaDoor.Ea
