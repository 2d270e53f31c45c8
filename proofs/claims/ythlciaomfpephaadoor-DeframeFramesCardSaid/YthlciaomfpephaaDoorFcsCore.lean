/-
  What each function of layer 1, and each of the document's own, answers: the step, the register, the check, good or not, what a turned bit does; none turns memory. Condition: the table of sixteen numbers lies where the program lays it.
-/
import Derived.Test.YthlciaomfpephaaDoorChecked
import Derived.Test.YthlciaomfpephaaDoorFcsMath
import Derived.Test.YthlciaomfpephaaDoorBase
import Derived.WalkKit
import Derived.Lib.Hide
namespace Go.Proofs.YthlciaomfpephaaDoor.Fcs
open Go.RowKit Go.Proofs.YthlciaomfpephaaDoor.Base

/-- The table of sixteen numbers lies where the program has it. -/
def Tab (w : World) : Prop := ∀ i : Nat, i < 16 → w.cell? ⟨1, i, none⟩ = some (.int .u8 (tabN i : Int))
theorem tab_pos {w : World} (h : Tab w) : 1 < w.heap.size := World.block_lt_of_cell? w ⟨1, 0, none⟩ (h 0 (by decide))
theorem tab_below {w w' : World} (h : Tab w) (hb : Below w.heap.size w w') : Tab w' := fun i hi => (hb.cell (p := ⟨1, i, none⟩) (tab_pos h)).trans (h i hi)
theorem tabN_lt (i : Nat) (h : i < 16) : tabN i < 256 := by
  have : ∀ j : Fin 16, tabN j.val < 256 := by decide
  exact this ⟨i, h⟩

theorem moveFour (x : Nat) (hx : x < 256) (w : World) (ht : Tab w) :
    Calls Tryd.prog 57 #[.int .u8 (x : Int)] w fun e w' => e = .returned (.int .u8 (mv4 x : Int)) ∧ w = w' := by
  have hc := ht (x % 16) (mod16_lt x)
  have hl := tabN_lt (x % 16) (mod16_lt x)
  clear ht
  go_enter Tryd.func57, Tryd.ntmps57
  go_wp2
  go_ret
  exact ⟨ret_int (u8_xor_nat (x / 16) _ (by omega) hl), rfl⟩
theorem fstep (r b : Nat) (hr : r < 256) (hb : b < 256) (w : World) (ht : Tab w) :
    Calls Tryd.prog 53 #[.int .u8 (r : Int), .int .u8 (b : Int)] w fun e w' => e = .returned (.int .u8 (step r b : Int)) ∧ w = w' := by
  have hx := xor_lt r b hr hb
  have hy := mv4_lt _ hx
  have he := u8_xor_nat r b hr hb
  have HT := Lib.hid ht
  clear ht
  go_enter Tryd.func53, Tryd.ntmps53
  go_wp2_with (first | (go_at_call 57; ((with_reducible refine (moveFour _ hx _ HT.out).mono ?_); rintro e w' ⟨rfl, rfl⟩)) | (go_at_call 57; ((with_reducible refine (moveFour _ hy _ HT.out).mono ?_); rintro e w' ⟨rfl, rfl⟩)))
  go_ret
  exact ⟨ret_int rfl, rfl⟩
theorem take_snoc (s : ByteArray) (k : Nat) (h : k < s.size) : s.data.toList.take (k + 1) = s.data.toList.take k ++ [s[k]] := by
  rw [List.take_succ_eq_append_getElem (by simpa using h)]; rfl
theorem reg_take (s : ByteArray) (k : Nat) (h : k < s.size) : reg (s.data.toList.take (k + 1)) = step (reg (s.data.toList.take k)) s[k].toNat := by
  rw [take_snoc s k h, reg_snoc]
theorem take_all (s : ByteArray) (k : Nat) (h : s.size ≤ k) : s.data.toList.take k = s.data.toList := List.take_of_length_le (by simpa using h)
theorem takeAll (s : ByteArray) (hs : s.size ≤ maxLen) (w : World) (ht : Tab w) :
    Calls Tryd.prog 46 #[.string s] w fun e w' => e = .returned (.int .u8 (reg s.data.toList : Int)) ∧ w = w' := by
  unfold maxLen at hs
  have HT := Lib.hid ht
  clear ht
  go_enter Tryd.func46, Tryd.ntmps46
  go_wp2
  go_loop [3, 7] (fun t i => ∃ k : Nat, k ≤ s.size ∧ i = .int .i64 k ∧ t = .int .u8 (reg (s.data.toList.take k) : Int)) (fun _ i => s.size - (intOf i).toNat)
  case atStart => exact ⟨0, Nat.zero_le _, rfl, rfl⟩
  case round =>
    obtain ⟨k, hk, rfl, rfl⟩ := hrel
    by_cases hlt : k < s.size
    · have HS := Lib.hid (reg_take s k hlt)
      have hr := reg_lt (s.data.toList.take k)
      have hb := u8_lt s[k]
      go_wp2_with (go_at_call 53; ((with_reducible refine (fstep _ _ hr hb _ HT.out).mono ?_); rintro e w' ⟨rfl, rfl⟩))
      go_round
      case rel => exact ⟨k + 1, by omega, by go_num, by rw [HS.out]⟩
      case measure => simp [intOf]; omega
    · have HS := Lib.hid (take_all s k (by omega))
      go_wp2
      go_ret
      exact ⟨ret_int (by rw [HS.out]), rfl⟩
theorem fsum (s : ByteArray) (hs : s.size ≤ maxLen) (w : World) (ht : Tab w) :
    Calls Tryd.prog 34 #[.string s] w fun e w' => e = .returned (.int .u8 (sum s.data.toList : Int)) ∧ w = w' := by
  have HT := Lib.hid ht
  clear ht
  have hr := reg_lt s.data.toList
  go_enter Tryd.func34, Tryd.ntmps34
  go_wp2_with (go_at_call 46; ((with_reducible refine (takeAll _ hs _ HT.out).mono ?_); rintro e w' ⟨rfl, rfl⟩))
  go_ret
  exact ⟨ret_int (by unfold sum; omega), rfl⟩
theorem fsum' (s : ByteArray) (hs : s.size ≤ maxLen) (w : World) (ht : Tab w) :
    Calls Tryd.prog 34 #[.string s] w fun e w' => e = .returned (.int .u8 (255 - (reg s.data.toList : Int))) ∧ w = w' := by
  have h := fsum s hs w ht
  have hr := reg_lt s.data.toList
  have e : (sum s.data.toList : Int) = 255 - (reg s.data.toList : Int) := by unfold sum; omega
  rw [e] at h
  exact h
theorem fsum_take (s : ByteArray) (k : Nat) (hk : k ≤ s.size) (hs : s.size ≤ maxLen) (w : World) (ht : Tab w) :
    Calls Tryd.prog 34 #[.string (s.extract 0 k)] w fun e w' => e = .returned (.int .u8 (255 - (reg (s.data.toList.take k) : Int))) ∧ w = w' := by
  have h := fsum' (s.extract 0 k) (by simp; omega) w ht
  have e : (s.extract 0 k).data.toList = s.data.toList.take k := by simp
  rw [e] at h
  exact h
end Go.Proofs.YthlciaomfpephaaDoor.Fcs
