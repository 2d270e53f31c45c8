/-
  What the sort's shuffle leans on: how many bits a number has (the library's contract, laid), a power of two that is at most twice the number, some number of 64 bits. Conditions: numbers up to a million.
-/
import Derived.Shelf.Small.Bits
import Derived.Lib.ItoaNum
import Derived.Sort.Row
import Derived.Test.YtcadeoolacoidaaSrtMem
namespace Go.Proofs
open Go.Shelf
def Try.laysB_ren : Go.Shelf.Ren := ⟨fun | 125 => 27 | 128 => 37 | 129 => 38 | n => n, fun | 3 => 3 | 4 => 4 | 5 => 5 | 9 => 9 | 46 => 60 | 51 => 71 | 53 => 73 | n => n, fun | n => n⟩
theorem Try.laysB : Lays.n125 Try.prog Try.laysB_ren := {
  mixed := by kernel_rfl
  f125 := Try.func27.trans (congrArg some (by kernel_rfl))
  f128 := Try.func37.trans (congrArg some (by kernel_rfl))
  f129 := Try.func38.trans (congrArg some (by kernel_rfl))
  t3 := Try.underlying3
  a3 := Try.isAgg3
  z3 := Try.sizeOf3
  v3 := Try.zeroValue3
  t4 := Try.underlying4
  a4 := Try.isAgg4
  z4 := Try.sizeOf4
  v4 := Try.zeroValue4
  t5 := Try.underlying5
  a5 := Try.isAgg5
  z5 := Try.sizeOf5
  v5 := Try.zeroValue5
  t9 := Try.underlying9
  a9 := Try.isAgg9
  z9 := Try.sizeOf9
  v9 := Try.zeroValue9
  t46 := Try.underlying60
  a46 := Try.isAgg60
  z46 := Try.sizeOf60
  v46 := Try.zeroValue60
  t51 := Try.underlying71
  a51 := Try.isAgg71
  z51 := Try.sizeOf71
  v51 := Try.zeroValue71
  t53 := Try.underlying73
  a53 := Try.isAgg73
  z53 := Try.sizeOf73
  v53 := Try.zeroValue73 }
end Go.Proofs
namespace Go.Proofs.Ytcadeoolacoidaa.Srt
open Go.RowKit Go.Proofs.Ytcadeoolacoidaa.Base Go.Proofs.Ytcadeoolacoidaa.Mem
open Go.Sort (setCell_eq mapBlock_mapBlock)
theorem flen (x : Nat) (h : x ≤ 1000000) (w : World) : Calls Try.prog 27 #[.int .u64 (x : Int)] w fun e w' => e = .returned (.int .i64 (Lib.bitLen x : Nat)) ∧ w' = w := by
  have h := Go.Proofs.Any.bits_Len Try.laysB (x : Int) w (by omega) (by omega)
  rwa [Int.toNat_natCast] at h
theorem len_pow (x : Nat) (h1 : 1 ≤ x) (h : x ≤ 1000000) : Lib.bitLen x ≤ 62 ∧ 2 ^ Lib.bitLen x ≤ 2 * x ∧ 1 ≤ 2 ^ Lib.bitLen x := by
  have hb := Lib.bitLenAux_bounds 64 x (by omega) (by omega)
  obtain ⟨k, hk⟩ : ∃ k, k = Lib.bitLen x := ⟨_, rfl⟩
  have hb' : 1 ≤ k ∧ 2 ^ (k - 1) ≤ x ∧ x < 2 ^ k := by rw [hk]; exact hb
  rw [← hk]
  obtain ⟨m, rfl⟩ : ∃ m, k = m + 1 := ⟨k - 1, by omega⟩
  refine ⟨?_, ?_, Nat.one_le_two_pow⟩
  · rcases Nat.lt_or_ge m 60 with h | h
    · omega
    · have := Nat.pow_le_pow_right (show 0 < 2 by decide) h
      have h3 := hb'.2.1
      rw [Nat.add_sub_cancel] at h3
      omega
  · have h3 := hb'.2.1
    rw [Nat.add_sub_cancel] at h3
    rw [Nat.pow_succ]; omega
set_option maxHeartbeats 1000000 in
theorem fpow2 (n : Nat) (h1 : 1 ≤ n) (hn : n ≤ 1000000) (w : World) :
    Calls Try.prog 40 #[.int .i64 (n : Int)] w fun e w' => ∃ m : Nat, e = .returned (.int .u64 (m : Int)) ∧ w' = w ∧ 1 ≤ m ∧ m ≤ 2 * n := by
  obtain ⟨k, hk⟩ : ∃ k, k = Lib.bitLen n := ⟨_, rfl⟩
  obtain ⟨m, hm⟩ : ∃ m, m = 2 ^ k := ⟨_, rfl⟩
  have hl := len_pow n h1 hn
  rw [← hk, ← hm] at hl
  have cl : ∀ w, Calls Try.prog 27 #[.int .u64 (n : Int)] w fun e w' => e = .returned (.int .i64 (k : Int)) ∧ w' = w := fun w => by rw [hk]; exact flen n hn w
  have hp : IntKind.u64.wrap ((2 : Int) ^ k) = (m : Int) := by
    rw [IntKind.wrap_u64, hm, show ((2 : Int) ^ k) = ((2 ^ k : Nat) : Int) by push_cast; rfl]
    omega
  clear hk
  go_enter Try.func40, Try.ntmps40
  go_wp2_with (first | (go_at_call 27; refine (cl _).mono ?_; rintro e w' ⟨rfl, rfl⟩))
  go_ret
  exact ⟨m, by rw [hm]; rfl, rfl, hl.2.2, hl.2.1⟩
/-- A store over a store into the same cell. -/
theorem set_set (w : World) (b : Nat) (v v' : Value) : (w.setCell ⟨b, 0, none⟩ v).setCell ⟨b, 0, none⟩ v' = w.setCell ⟨b, 0, none⟩ v' := by
  rw [setCell_eq, setCell_eq, mapBlock_mapBlock, setCell_eq]
  congr 1
  funext c
  simp
set_option maxHeartbeats 1000000 in
theorem fxor (rb X : Nat) (hX : X < 18446744073709551616) (w : World) (hc : w.cell? ⟨rb, 0, none⟩ = some (.int .u64 (X : Int))) (hf : w.frozen? ⟨rb, 0, none⟩ = false) :
    Calls Try.prog 41 #[ptr rb] w fun e w' => ∃ C : Nat, e = .returned (.int .u64 (C : Int)) ∧ C < 18446744073709551616 ∧ w' = (w.setCell ⟨rb, 0, none⟩ (.int .u64 (C : Int))).drewN 3 := by
  obtain ⟨A, hA⟩ : ∃ A : Nat, A = X ^^^ (X * 8192 % 18446744073709551616) := ⟨_, rfl⟩
  obtain ⟨B, hB⟩ : ∃ B : Nat, B = A ^^^ (A / 128) := ⟨_, rfl⟩
  obtain ⟨C, hC⟩ : ∃ C : Nat, C = B ^^^ (B * 131072 % 18446744073709551616) := ⟨_, rfl⟩
  have lA : A < 18446744073709551616 := by rw [hA]; exact Nat.xor_lt_two_pow (n := 64) (by omega) (by omega)
  have lB : B < 18446744073709551616 := by rw [hB]; exact Nat.xor_lt_two_pow (n := 64) (by omega) (by omega)
  have lC : C < 18446744073709551616 := by rw [hC]; exact Nat.xor_lt_two_pow (n := 64) (by omega) (by omega)
  have e1 : bits .xor .u64 (X : Int) (IntKind.u64.wrap ((X : Int) * 8192)) = (A : Int) := by
    rw [IntKind.wrap_u64, show ((X : Int) * 8192 % 18446744073709551616) = ((X * 8192 % 18446744073709551616 : Nat) : Int) by omega, u64_xor_nat _ _ hX (by omega), hA]
  have e2 : bits .xor .u64 (A : Int) ((A : Int) / 128) = (B : Int) := by
    rw [show ((A : Int) / 128) = ((A / 128 : Nat) : Int) by omega, u64_xor_nat _ _ lA (by omega), hB]
  have e3 : bits .xor .u64 (B : Int) (IntKind.u64.wrap ((B : Int) * 131072)) = (C : Int) := by
    rw [IntKind.wrap_u64, show ((B : Int) * 131072 % 18446744073709551616) = ((B * 131072 % 18446744073709551616 : Nat) : Int) by omega, u64_xor_nat _ _ lB (by omega), hC]
  clear hA hB hC
  have hss : ∀ v v', (w.setCell ⟨rb, 0, none⟩ v).setCell ⟨rb, 0, none⟩ v' = w.setCell ⟨rb, 0, none⟩ v' := set_set w rb
  go_enter Try.func41, Try.ntmps41
  go_wp2
  go_region
  all_goals go_wp2
  all_goals go_region
  all_goals go_wp2
  all_goals go_region
  all_goals go_wp2
  go_ret
  exact ⟨C, rfl, lC, rfl⟩
end Go.Proofs.Ytcadeoolacoidaa.Srt
