/-
  FcsKnown answers true, and turns nothing that was there. Condition: the table of sixteen numbers lies where the program lays it.
-/
import Derived.Test.YtfkmneohdkjheaaDoorFcsStepLaw
import Derived.Test.YtfkmneohdkjheaaDoorFcsSumsLaw
import Derived.Test.YtfkmneohdkjheaaDoorFcsMendsLaw
import Derived.Test.YtfkmneohdkjheaaDoorFcsGoodLaw
import Derived.Test.YtfkmneohdkjheaaDoorFcsNearLaw
import Derived.Test.YtfkmneohdkjheaaDoorFcsBitsLaw
namespace Go.Proofs.YtfkmneohdkjheaaDoor.fcsKnown
open Go.RowKit Go.Proofs.YtfkmneohdkjheaaDoor.Fcs Go.Proofs.YtfkmneohdkjheaaDoor.Base

set_option maxRecDepth 100000 in
theorem law (w : World) (ht : Tab w) :
    Calls Tryd.prog 9 #[] w fun e w' => e = .returned (.bool true) ∧ Below w.heap.size w w' := by
  have HT := Lib.hid ht
  clear ht
  go_enter Tryd.func9, Tryd.ntmps9
  go_wp2
  go_loopw [1] (fun i wr => ∃ k : Nat, k ≤ 256 ∧ i = .int .i64 k ∧ Hid (Below w.heap.size w wr)) (fun i _ => 256 - (intOf i).toNat)
  case atStart => exact ⟨0, by omega, rfl, Lib.hid (Below.refl _ _)⟩
  case round =>
    obtain ⟨k, hk, rfl, HB⟩ := hrel
    by_cases hlt : k < 256
    · have hd : decide ((k : Int) < 256) = true := by simp; omega
      go_wp2
      obtain ⟨wo, rfl⟩ : ∃ wo : World, wo = wr := ⟨_, rfl⟩
      go_loopw [2] (fun i wr => ∃ j : Nat, j ≤ 300 ∧ i = .int .i64 j ∧ Hid (Below w.heap.size w wr)) (fun i _ => 256 - (intOf i).toNat)
      case atStart => exact ⟨0, by omega, rfl, HB⟩
      case round =>
        obtain ⟨j, hj, rfl, HB1⟩ := hrel
        have HT1 := Lib.hid (tab_below HT.out HB1.out)
        by_cases hj2 : j < 256
        · go_wp2_with (go_at_call 3; ((with_reducible refine (fcsStep.law _ hlt _ hj2 _ HT1.out).mono ?_); rintro e w' ⟨rfl, hb⟩; have HB2 : Hid (Below w.heap.size w w') := Lib.hid (HB1.out.trans (hb.mono HB1.out.size)); clear hb))
          go_roundw
          case rel => exact ⟨j + 1 + k % 3, by omega, by go_num, HB2⟩
          case measure => simp [intOf]; omega
        · have hcv := conv_one wr k
          have hz1 : (⟨#[UInt8.ofNat k]⟩ : ByteArray).size ≤ maxLen := (by decide : 1 ≤ maxLen)
          have hz2 : ((⟨#[UInt8.ofNat k]⟩ : ByteArray) ++ ⟨#[97, 98]⟩ ++ ⟨#[UInt8.ofNat k]⟩).size ≤ maxLen := by rw [ByteArray.size_append, ByteArray.size_append]; exact (by decide : 4 ≤ maxLen)
          have hz3 : ((⟨#[97, 98, 99]⟩ : ByteArray) ++ ⟨#[UInt8.ofNat k]⟩).size ≤ maxLen := by rw [ByteArray.size_append]; exact (by decide : 4 ≤ maxLen)
          have hz4 : ((⟨#[97]⟩ : ByteArray) ++ ⟨#[UInt8.ofNat k]⟩).size ≤ maxLen := by rw [ByteArray.size_append]; exact (by decide : 2 ≤ maxLen)
          have hz5 : ((⟨#[UInt8.ofNat k]⟩ : ByteArray) ++ ⟨#[120, 121]⟩).size ≤ maxLen := by rw [ByteArray.size_append]; exact (by decide : 3 ≤ maxLen)
          have HBa : Hid (Below w.heap.size w (wr.alloc (.cells #[.int .u8 (k : Int)] 5))) := Lib.hid (HB1.out.alloc HB1.out.size _)
          have HTa := Lib.hid (tab_below HT.out HBa.out)
          have CN : Hid (∀ w, Tab w → Calls Tryd.prog 7 #[.string ((⟨#[97]⟩ : ByteArray) ++ ⟨#[UInt8.ofNat k]⟩), .string ⟨#[UInt8.ofNat k]⟩, .int .u8 (k : Int), .int .u8 7, .int .u8 (k : Int), .int .u8 (k : Int)] w fun e w' => e = .returned (.bool true) ∧ Below w.heap.size w w') :=
            Lib.hid (fun w ht => fcsNear.law _ hz4 _ hz1 k hlt 7 (by decide) k hlt k hlt w ht)
          have CB : Hid (∀ w, Tab w → Calls Tryd.prog 8 #[.string ((⟨#[UInt8.ofNat k]⟩ : ByteArray) ++ ⟨#[120, 121]⟩), .string ⟨#[UInt8.ofNat k]⟩, .int .u16 (k : Int), .int .u16 ((k : Int) * 7)] w fun e w' => e = .returned (.bool true) ∧ Below w.heap.size w w') :=
            Lib.hid (fun w ht => fcsBits.law _ hz5 _ hz1 k (by omega) (k * 7) (by omega) w ht)
          go_wp2_with (first
            | (go_at_call 4; ((with_reducible refine (fcsSums.law _ hz1 _ HTa.out).mono ?_); rintro e w1 ⟨rfl, hb⟩; have HBb : Hid (Below w.heap.size w w1) := Lib.hid (HBa.out.trans (hb.mono HBa.out.size)); clear hb; have HTb := Lib.hid (tab_below HT.out HBb.out)))
            | (go_at_call 4; ((with_reducible refine (fcsSums.law _ hz2 _ HTb.out).mono ?_); rintro e w2 ⟨rfl, hb⟩; have HBc : Hid (Below w.heap.size w w2) := Lib.hid (HBb.out.trans (hb.mono HBb.out.size)); clear hb; have HTc := Lib.hid (tab_below HT.out HBc.out)))
            | (go_at_call 6; ((with_reducible refine (fcsGood.law _ hz3 _ hlt _ (by omega) _ HTc.out).mono ?_); rintro e w3 ⟨rfl, hb⟩; have HBd : Hid (Below w.heap.size w w3) := Lib.hid (HBc.out.trans (hb.mono HBc.out.size)); clear hb; have HTd := Lib.hid (tab_below HT.out HBd.out)))
            | (go_at_call 7; ((with_reducible refine (CN.out _ HTd.out).mono ?_); rintro e w4 ⟨rfl, hb⟩; have HBe : Hid (Below w.heap.size w w4) := Lib.hid (HBd.out.trans (hb.mono HBd.out.size)); clear hb; have HTe := Lib.hid (tab_below HT.out HBe.out)))
            | (go_at_call 8; ((with_reducible refine (CB.out _ HTe.out).mono ?_); rintro e w5 ⟨rfl, hb⟩; have HBf : Hid (Below w.heap.size w w5) := Lib.hid (HBe.out.trans (hb.mono HBe.out.size)); clear hb)))
          go_roundw
          case rel => exact ⟨k + 1, by omega, by go_num, HBf⟩
          case measure => simp [intOf]; omega
    · go_wp2
      have HB0 : Hid (Below w.heap.size w (wr.alloc (.cells #[.int .i64 (-9223372036854775808), .int .i64 (-1), .int .i64 0, .int .i64 7, .int .i64 8, .int .i64 23, .int .i64 24, .int .i64 9223372036854775807] 3))) := Lib.hid (HB.out.alloc HB.out.size _)
      have HC : Hid (∀ i, i < 8 → ∃ v : Int, -9223372036854775808 ≤ v ∧ v ≤ 9223372036854775807 ∧ (wr.alloc (.cells #[.int .i64 (-9223372036854775808), .int .i64 (-1), .int .i64 0, .int .i64 7, .int .i64 8, .int .i64 23, .int .i64 24, .int .i64 9223372036854775807] 3)).cell? ⟨wr.heap.size, i, none⟩ = some (.int .i64 v)) := Lib.hid (fun i hi => by
        rw [cell_new]
        match i, hi with
        | 0, _ => exact ⟨_, by decide, by decide, rfl⟩
        | 1, _ => exact ⟨_, by decide, by decide, rfl⟩
        | 2, _ => exact ⟨_, by decide, by decide, rfl⟩
        | 3, _ => exact ⟨_, by decide, by decide, rfl⟩
        | 4, _ => exact ⟨_, by decide, by decide, rfl⟩
        | 5, _ => exact ⟨_, by decide, by decide, rfl⟩
        | 6, _ => exact ⟨_, by decide, by decide, rfl⟩
        | 7, _ => exact ⟨_, by decide, by decide, rfl⟩)
      have HZ : Hid ((wr.alloc (.cells #[.int .i64 (-9223372036854775808), .int .i64 (-1), .int .i64 0, .int .i64 7, .int .i64 8, .int .i64 23, .int .i64 24, .int .i64 9223372036854775807] 3)).heap.size = wr.heap.size + 1) := Lib.hid (by simp)
      generalize wr.alloc (.cells #[.int .i64 (-9223372036854775808), .int .i64 (-1), .int .i64 0, .int .i64 7, .int .i64 8, .int .i64 23, .int .i64 24, .int .i64 9223372036854775807] 3) = w0 at *
      generalize wr.heap.size = blk at *
      go_loopw [74] (fun i wr => ∃ k : Nat, k ≤ 8 ∧ i = .int .i64 k ∧ Hid (Below w0.heap.size w0 wr)) (fun i _ => 8 - (intOf i).toNat)
      case atStart => exact ⟨0, by omega, rfl, Lib.hid (Below.refl _ _)⟩
      case round =>
        obtain ⟨j, hj, rfl, HB1⟩ := hrel
        have HBw : Hid (Below w.heap.size w wr) := Lib.hid (HB0.out.trans (HB1.out.mono HB0.out.size))
        have HTa := Lib.hid (tab_below HT.out HBw.out)
        by_cases hj2 : j < 8
        · obtain ⟨v, v1, v2, hcell0⟩ := HC.out j hj2
          have hcell : wr.cell? ⟨blk, j, none⟩ = some (.int .i64 v) := (HB1.out.cell (p := ⟨blk, j, none⟩) (by rw [HZ.out]; exact Nat.lt_succ_self _)).trans hcell0
          clear hcell0
          go_wp2_with (first
            | (go_at_call 5; ((with_reducible refine (fcsMends.law ⟨#[97, 98, 99]⟩ (by decide) v ⟨v1, v2⟩ _ HTa.out).mono ?_); rintro e w1 ⟨rfl, hb⟩; have HBb : Hid (Below w0.heap.size w0 w1) := Lib.hid (HB1.out.trans (hb.mono HB1.out.size)); clear hb; have HTb := Lib.hid (tab_below HT.out (HB0.out.trans (HBb.out.mono HB0.out.size)))))
            | (go_at_call 5; ((with_reducible refine (fcsMends.law ⟨#[]⟩ (by decide) v ⟨v1, v2⟩ _ HTb.out).mono ?_); rintro e w2 ⟨rfl, hb⟩; have HBc : Hid (Below w0.heap.size w0 w2) := Lib.hid (HBb.out.trans (hb.mono HBb.out.size)); clear hb)))
          go_roundw
          case rel => exact ⟨j + 1, by omega, by go_num, HBc⟩
          case measure => simp [intOf]; omega
        · go_wp2_with (first
            | (go_at_call 4; ((with_reducible refine (fcsSums.law ⟨#[]⟩ (by decide) _ HTa.out).mono ?_); rintro e w1 ⟨rfl, hb⟩; have HBb : Hid (Below w.heap.size w w1) := Lib.hid (HBw.out.trans (hb.mono HBw.out.size)); clear hb; have HTb := Lib.hid (tab_below HT.out HBb.out)))
            | (go_at_call 12; ((with_reducible refine (works _ HTb.out).mono ?_); rintro e w' ⟨rfl, rfl⟩)))
          go_ret
          exact ⟨rfl, HBb.out⟩
end Go.Proofs.YtfkmneohdkjheaaDoor.fcsKnown
