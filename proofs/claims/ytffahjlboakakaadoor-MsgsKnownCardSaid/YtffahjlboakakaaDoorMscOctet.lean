/-
  What octet of layer 9 answers for a row of eight bools. Condition: the row lies in memory.
-/
import Derived.Test.YtffahjlboakakaaDoorMscMem
namespace Go.Proofs.YtffahjlboakakaaDoor.Msc
open Go.RowKit Go.Proofs.YtffahjlboakakaaDoor.Base Go.Proofs.YtffahjlboakakaaDoor.Mem
def acc (B : Nat → Bool) : Nat → Nat
  | 0 => 0
  | k + 1 => acc B k + 2 ^ k * (B k).toNat
theorem acc_lt (B : Nat → Bool) (k : Nat) : acc B k < 2 ^ k := by
  induction k with
  | zero => exact Nat.one_pos
  | succ k ih =>
    show acc B k + 2 ^ k * (B k).toNat < 2 ^ (k + 1)
    have := Bool.toNat_le (B k)
    have h2 : 2 ^ k * (B k).toNat ≤ 2 ^ k * 1 := Nat.mul_le_mul_left _ this
    rw [Nat.pow_succ]
    omega
theorem or_bit (k : Nat) (hk : k < 8) (a : Nat) (ha : a < 2 ^ k) : bits .or .u8 (a : Int) (2 ^ k % 256) = ((a + 2 ^ k : Nat) : Int) := by
  have : ∀ (k : Fin 8) (a : Fin (2 ^ k.val)), bits .or .u8 (a.val : Int) (2 ^ k.val % 256) = ((a.val + 2 ^ k.val : Nat) : Int) := by decide +kernel
  exact this ⟨k, hk⟩ ⟨a, ha⟩
theorem foctet (b : Nat) (B : Nat → Bool) (w : World) (h : ∀ k, k < 8 → w.cell? ⟨b, k, none⟩ = some (.bool (B k))) :
    Calls Tryd.prog 65 #[.slice (some ⟨b, 0, none⟩) 8 8] w fun x w' => x = .returned (.int .u8 (acc B 8 : Int)) ∧ w = w' := by
  have H := Lib.hid h
  clear h
  go_enter Tryd.func65, Tryd.ntmps65
  go_wp2
  go_loopw [3, 8] (fun o i wr => ∃ k : Nat, k ≤ 8 ∧ i = .int .i64 (k : Int) ∧ o = .int .u8 (acc B k : Int) ∧ w = wr) (fun _ i _ => 8 - (intOf i).toNat)
  case atStart => exact ⟨0, by omega, rfl, rfl, rfl⟩
  case round =>
    obtain ⟨k, hk, rfl, rfl, rfl⟩ := hrel
    by_cases hlt : k < 8
    · have hc := H.out k hlt
      obtain ⟨m, hm⟩ : ∃ m, acc B k = m := ⟨_, rfl⟩
      have hml : m < 2 ^ k := hm ▸ acc_lt B k
      have HS : Hid (acc B (k + 1) = m + 2 ^ k * (B k).toNat) := Lib.hid (by rw [← hm]; rfl)
      have ho := or_bit k hlt m hml
      rw [hm]
      clear hm
      cases hB : B k
      · rw [hB] at hc
        go_wp2
        go_roundw
        case rel => exact ⟨k + 1, by omega, by go_num, by rw [HS.out, hB]; simp, trivial⟩
        case measure => simp [intOf]; omega
      · rw [hB] at hc
        go_wp2
        go_roundw
        case rel => exact ⟨k + 1, by omega, by go_num, by rw [HS.out, hB]; simp, trivial⟩
        case measure => simp [intOf]; omega
    · obtain rfl : k = 8 := by omega
      go_wp2
      go_ret
      exact ⟨rfl, rfl⟩
end Go.Proofs.YtffahjlboakakaaDoor.Msc
