/-
  FcsGood answers true for every bytes, byte and place, and turns nothing that was there. Condition: the table of sixteen numbers lies where the program lays it.
-/
import Derived.Test.YtfkmneohdkjheaaDoorFcsCalls
import Derived.Test.YtfkmneohdkjheaaDoorPick
import Derived.Test.YtfkmneohdkjheaaDoorConv
import Derived.WalkSpells
namespace Go.Proofs.YtfkmneohdkjheaaDoor.fcsGood
open Go.RowKit Go.Proofs.YtfkmneohdkjheaaDoor.Fcs Go.Proofs.YtfkmneohdkjheaaDoor.Base

theorem tab_alloc {w : World} {o : Obj} (h : Tab w) : Tab (w.alloc o) := tab_below h ((Below.refl _ _).alloc (Nat.le_refl _) _)
theorem good_last (s : ByteArray) (b : Nat) (hb : b < 256) : goodB (s.data.toList ++ [UInt8.ofNat b]) = (((b : Nat) : Int) == 255 - (reg s.data.toList : Int)) := by
  have hn : (UInt8.ofNat b).toNat = b := by rw [UInt8.toNat_ofNat']; exact Nat.mod_eq_of_lt hb
  have hr := reg_lt s.data.toList
  have h := good_iff s.data.toList (UInt8.ofNat b)
  rw [hn] at h
  unfold sum at h
  unfold goodB
  rw [Bool.eq_iff_iff, decide_eq_true_iff, h, beq_iff_eq]
  omega
theorem law (s : ByteArray) (hs : s.size ≤ maxLen) (b : Nat) (hb : b < 256) (at_ : Int) (_hat : -9223372036854775808 ≤ at_ ∧ at_ ≤ 9223372036854775807) (w : World) (ht : Tab w) :
    Calls Tryd.prog 6 #[.string s, .int .u8 (b : Int), .int .i64 at_] w fun e w' => e = .returned (.bool true) ∧ Below w.heap.size w w' := by
  have HT := Lib.hid ht
  clear ht
  by_cases h : 2000 < s.size
  · go_enter Tryd.func6, Tryd.ntmps6
    go_wp2_with (go_at_call 12; ((with_reducible refine (works _ HT.out).mono ?_); rintro e w' ⟨rfl, rfl⟩))
    go_ret
    exact ⟨rfl, Below.refl _ _⟩
  · have hp := place_lt at_ (s.size + 1) (by omega)
    go_enter Tryd.func6, Tryd.ntmps6
    go_wp2_with (go_at_call 19; ((with_reducible refine (pick _ _ (by omega) (by omega) _).mono ?_); rintro e w' ⟨rfl, rfl⟩))
    generalize place at_ (s.size + 1) = n at *
    go_loop [7, 9] (fun t i => ∃ k : Nat, k ≤ n ∧ i = .int .i64 k ∧ t = .int .u8 (reg (s.data.toList.take k) : Int)) (fun _ i => n - (intOf i).toNat)
    case atStart => exact ⟨0, Nat.zero_le _, rfl, rfl⟩
    case round =>
      obtain ⟨k, hk, rfl, rfl⟩ := hrel
      by_cases hlt : k < n
      · have hks : k < s.size := by omega
        have HS := Lib.hid (reg_take s k hks)
        have hr := reg_lt (s.data.toList.take k)
        have hb := u8_lt s[k]
        go_wp2_with (go_at_call 10; ((with_reducible refine (fstep _ _ hr hb _ HT.out).mono ?_); rintro e w' ⟨rfl, rfl⟩))
        go_round
        case rel => exact ⟨k + 1, by omega, by go_num, by rw [HS.out]⟩
        case measure => simp [intOf]; omega
      · obtain rfl : k = n := by omega
        have hr := reg_lt (s.data.toList.take k)
        have hks : k ≤ s.size := by omega
        go_wp2_with (go_at_call 13; ((with_reducible refine (fsum_take _ _ hks hs _ HT.out).mono ?_); rintro e w' ⟨rfl, rfl⟩))
        go_loop [7, 10] (fun t i => ∃ j : Nat, j ≤ s.size ∧ i = .int .i64 j ∧ t = .int .u8 (reg (s.data.toList.take j) : Int)) (fun _ i => s.size - (intOf i).toNat)
        case atStart => exact ⟨k, hks, rfl, rfl⟩
        case round =>
          obtain ⟨j, hj, rfl, rfl⟩ := hrel
          by_cases hlt : j < s.size
          · have HS := Lib.hid (reg_take s j hlt)
            have hr := reg_lt (s.data.toList.take j)
            have hb := u8_lt s[j]
            go_wp2_with (go_at_call 10; ((with_reducible refine (fstep _ _ hr hb _ HT.out).mono ?_); rintro e w' ⟨rfl, rfl⟩))
            go_round
            case rel => exact ⟨j + 1, by omega, by go_num, by rw [HS.out]⟩
            case measure => simp [intOf]; omega
          · have hta := take_all s j (by omega)
            rw [hta]
            have hr := reg_lt s.data.toList
            have hcv := conv_one w b
            have hsz : (s ++ (⟨#[UInt8.ofNat b]⟩ : ByteArray)).size ≤ maxLen := by
              have : (s ++ (⟨#[UInt8.ofNat b]⟩ : ByteArray)).size = s.size + 1 := by rw [ByteArray.size_append]; rfl
              unfold maxLen; omega
            have hg := good_last s b hb
            go_wp2_with (first
              | (go_at_call 13; ((with_reducible refine (fsum' _ hs _ (tab_alloc HT.out)).mono ?_); rintro e w' ⟨rfl, rfl⟩))
              | (go_at_call 13; ((with_reducible refine (fsum' _ hs _ HT.out).mono ?_); rintro e w' ⟨rfl, rfl⟩))
              | (go_at_call 15; ((with_reducible refine (fgood _ hsz _ (tab_alloc HT.out)).mono ?_); rintro e w' ⟨rfl, rfl⟩))
              | (go_at_call 12; ((with_reducible refine (works _ (tab_alloc HT.out)).mono ?_); rintro e w' ⟨rfl, rfl⟩)))
            go_ret
            exact ⟨rfl, (Below.refl _ _).alloc (Nat.le_refl _) _⟩
end Go.Proofs.YtfkmneohdkjheaaDoor.fcsGood
