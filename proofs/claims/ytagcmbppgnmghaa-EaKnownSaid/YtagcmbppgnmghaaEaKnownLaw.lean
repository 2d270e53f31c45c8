/-
  EaKnown answers true, and turns nothing that was there. No condition.
-/
import Derived.Test.YtagcmbppgnmghaaEaAddressLaw
import Derived.Test.YtagcmbppgnmghaaEaLengthsLaw
import Derived.Test.YtagcmbppgnmghaaEaBackAll
namespace Go.Proofs.Ytagcmbppgnmghaa.eaKnown
open Go.RowKit Go.Proofs.Ytagcmbppgnmghaa.Ea Go.Proofs.Ytagcmbppgnmghaa.Base

set_option maxRecDepth 100000 in
theorem law (w : World) :
    Calls Try.prog 6 #[] w fun e w' => e = .returned (.bool true) ∧ Below w.heap.size w w' := by
  go_enter Try.func6, Try.ntmps6
  go_wp2
  go_loopw [1] (fun i wr => ∃ k : Nat, k ≤ 256 ∧ i = .int .i64 k ∧ Hid (Below w.heap.size w wr)) (fun i _ => 256 - (intOf i).toNat)
  case atStart => exact ⟨0, by omega, rfl, Lib.hid (Below.refl _ _)⟩
  case round =>
    obtain ⟨k, hk, rfl, HB⟩ := hrel
    by_cases hlt : k < 256
    · have hd : decide ((k : Int) < 256) = true := by simp; omega
      have hcv := conv_one wr k
      have hz1 : (⟨#[UInt8.ofNat k]⟩ : ByteArray).size ≤ maxLen := (by decide : 1 ≤ maxLen)
      have hz2 : ((⟨#[UInt8.ofNat k]⟩ : ByteArray) ++ ⟨#[UInt8.ofNat k]⟩).size ≤ maxLen := by rw [ByteArray.size_append]; exact (by decide : 2 ≤ maxLen)
      have hz3 : ((⟨#[UInt8.ofNat k]⟩ : ByteArray) ++ ⟨#[0]⟩ ++ ⟨#[UInt8.ofNat k]⟩).size ≤ maxLen := by rw [ByteArray.size_append, ByteArray.size_append]; exact (by decide : 3 ≤ maxLen)
      have HBa : Hid (Below w.heap.size w (wr.alloc (.cells #[.int .u8 (k : Int)] 5))) := Lib.hid (HB.out.alloc HB.out.size _)
      go_wp2_with (first
        | (go_at_call 3; ((with_reducible refine (eaAddress.law _ hlt _ _ hlt _).mono ?_); rintro e w1 ⟨rfl, hb⟩; have HB1 : Hid (Below w.heap.size w w1) := Lib.hid (below_on HBa.out hb); clear hb))
        | (go_at_call 4; ((with_reducible refine (eaLengths.law _ (by omega) _ hz1 _).mono ?_); rintro e w2 ⟨rfl, hb⟩; have HB2 : Hid (Below w.heap.size w w2) := Lib.hid (below_on HB1.out hb); clear hb))
        | (go_at_call 4; ((with_reducible refine (eaLengths.law _ (by omega) _ hz2 _).mono ?_); rintro e w3 ⟨rfl, hb⟩; have HB3 : Hid (Below w.heap.size w w3) := Lib.hid (below_on HB2.out hb); clear hb))
        | (go_at_call 5; ((with_reducible refine (eaBack.law _ (by omega) _ hlt _ hz1 _).mono ?_); rintro e w4 ⟨rfl, hb⟩; have HB4 : Hid (Below w.heap.size w w4) := Lib.hid (below_on HB3.out hb); clear hb))
        | (go_at_call 5; ((with_reducible refine (eaBack.law _ (by omega) _ hlt _ hz3 _).mono ?_); rintro e w5 ⟨rfl, hb⟩; have HB5 : Hid (Below w.heap.size w w5) := Lib.hid (below_on HB4.out hb); clear hb)))
      go_roundw
      case rel => exact ⟨k + 1, by omega, by go_num, HB5⟩
      case measure => simp [intOf]; omega
    · go_wp2
      have HB0 : Hid (Below w.heap.size w (wr.alloc (.cells #[.int .i64 (-9223372036854775808), .int .i64 (-1), .int .i64 0, .int .i64 127, .int .i64 128, .int .i64 255, .int .i64 256, .int .i64 32767, .int .i64 32768, .int .i64 9223372036854775807] 3))) := Lib.hid (HB.out.alloc HB.out.size _)
      have HC : Hid (∀ i, i < 10 → ∃ v : Int, -9223372036854775808 ≤ v ∧ v ≤ 9223372036854775807 ∧ (wr.alloc (.cells #[.int .i64 (-9223372036854775808), .int .i64 (-1), .int .i64 0, .int .i64 127, .int .i64 128, .int .i64 255, .int .i64 256, .int .i64 32767, .int .i64 32768, .int .i64 9223372036854775807] 3)).cell? ⟨wr.heap.size, i, none⟩ = some (.int .i64 v)) := Lib.hid (fun i hi => by
        rw [cell_new]
        match i, hi with
        | 0, _ => exact ⟨_, by decide, by decide, rfl⟩
        | 1, _ => exact ⟨_, by decide, by decide, rfl⟩
        | 2, _ => exact ⟨_, by decide, by decide, rfl⟩
        | 3, _ => exact ⟨_, by decide, by decide, rfl⟩
        | 4, _ => exact ⟨_, by decide, by decide, rfl⟩
        | 5, _ => exact ⟨_, by decide, by decide, rfl⟩
        | 6, _ => exact ⟨_, by decide, by decide, rfl⟩
        | 7, _ => exact ⟨_, by decide, by decide, rfl⟩
        | 8, _ => exact ⟨_, by decide, by decide, rfl⟩
        | 9, _ => exact ⟨_, by decide, by decide, rfl⟩)
      have HZ : Hid ((wr.alloc (.cells #[.int .i64 (-9223372036854775808), .int .i64 (-1), .int .i64 0, .int .i64 127, .int .i64 128, .int .i64 255, .int .i64 256, .int .i64 32767, .int .i64 32768, .int .i64 9223372036854775807] 3)).heap.size = wr.heap.size + 1) := Lib.hid (by simp)
      generalize wr.alloc (.cells #[.int .i64 (-9223372036854775808), .int .i64 (-1), .int .i64 0, .int .i64 127, .int .i64 128, .int .i64 255, .int .i64 256, .int .i64 32767, .int .i64 32768, .int .i64 9223372036854775807] 3) = w0 at *
      generalize wr.heap.size = blk at *
      go_loopw [60] (fun i wr => ∃ k : Nat, k ≤ 10 ∧ i = .int .i64 k ∧ Hid (Below w0.heap.size w0 wr)) (fun i _ => 10 - (intOf i).toNat)
      case atStart => exact ⟨0, by omega, rfl, Lib.hid (Below.refl _ _)⟩
      case round =>
        obtain ⟨j, hj, rfl, HB1⟩ := hrel
        have HBw : Hid (Below w.heap.size w wr) := Lib.hid (HB0.out.trans (HB1.out.mono HB0.out.size))
        by_cases hj2 : j < 10
        · obtain ⟨v, v1, v2, hcell0⟩ := HC.out j hj2
          have hcell : wr.cell? ⟨blk, j, none⟩ = some (.int .i64 v) := (HB1.out.cell (p := ⟨blk, j, none⟩) (by rw [HZ.out]; exact Nat.lt_succ_self _)).trans hcell0
          clear hcell0
          have CB : Hid (∀ w, Calls Try.prog 5 #[.int .i64 v, .int .u8 0, .string ⟨#[]⟩] w fun e w' => e = .returned (.bool true) ∧ Below w.heap.size w w') := Lib.hid (fun w => eaBack.law v ⟨v1, v2⟩ 0 (by decide) ⟨#[]⟩ (by decide) w)
          go_wp2_with (first
            | (go_at_call 4; ((with_reducible refine (eaLengths.law v ⟨v1, v2⟩ ⟨#[]⟩ (by decide) _).mono ?_); rintro e w1 ⟨rfl, hb⟩; have HBb : Hid (Below w0.heap.size w0 w1) := Lib.hid (below_on HB1.out hb); clear hb))
            | (go_at_call 5; ((with_reducible refine (CB.out _).mono ?_); rintro e w2 ⟨rfl, hb⟩; have HBc : Hid (Below w0.heap.size w0 w2) := Lib.hid (below_on HBb.out hb); clear hb)))
          go_roundw
          case rel => exact ⟨j + 1, by omega, by go_num, HBc⟩
          case measure => simp [intOf]; omega
        · go_wp2_with (go_at_call 11; ((with_reducible refine (works _).mono ?_); rintro e w' ⟨rfl, hb⟩; have HBb : Hid (Below w.heap.size w w') := Lib.hid (below_on HBw.out hb); clear hb))
          go_ret
          exact ⟨rfl, HBb.out⟩
end Go.Proofs.Ytagcmbppgnmghaa.eaKnown
