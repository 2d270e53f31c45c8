/-
  What each function of layer 1, and each of the document's own, answers: the step, the register, the check, good or not, what a turned bit does; none turns memory. Condition: the table of sixteen numbers lies where the program lays it.
-/
import Derived.Test.YtfkmneohdkjheaaDoorChecked
import Derived.Test.YtfkmneohdkjheaaDoorFcsMath
import Derived.Test.YtfkmneohdkjheaaDoorBase
import Derived.WalkKit
import Derived.Lib.Hide
namespace Go.Proofs.YtfkmneohdkjheaaDoor.Fcs
open Go.RowKit Go.Proofs.YtfkmneohdkjheaaDoor.Base

/-- The table of sixteen numbers lies where the program has it. -/
def Tab (w : World) : Prop := ∀ i : Nat, i < 16 → w.cell? ⟨0, i, none⟩ = some (.int .u8 (tabN i : Int))
theorem tab_pos {w : World} (h : Tab w) : 0 < w.heap.size := World.block_lt_of_cell? w ⟨0, 0, none⟩ (h 0 (by decide))
theorem tab_below {w w' : World} (h : Tab w) (hb : Below w.heap.size w w') : Tab w' := fun i hi => (hb.cell (p := ⟨0, i, none⟩) (tab_pos h)).trans (h i hi)
theorem tabN_lt (i : Nat) (h : i < 16) : tabN i < 256 := by
  have : ∀ j : Fin 16, tabN j.val < 256 := by decide
  exact this ⟨i, h⟩

theorem moveFour (x : Nat) (hx : x < 256) (w : World) (ht : Tab w) :
    Calls Tryd.prog 21 #[.int .u8 (x : Int)] w fun e w' => e = .returned (.int .u8 (mv4 x : Int)) ∧ w = w' := by
  have hc := ht (x % 16) (mod16_lt x)
  have hl := tabN_lt (x % 16) (mod16_lt x)
  clear ht
  go_enter Tryd.func21, Tryd.ntmps21
  go_wp2
  go_ret
  exact ⟨ret_int (u8_xor_nat (x / 16) _ (by omega) hl), rfl⟩
theorem fstep (r b : Nat) (hr : r < 256) (hb : b < 256) (w : World) (ht : Tab w) :
    Calls Tryd.prog 10 #[.int .u8 (r : Int), .int .u8 (b : Int)] w fun e w' => e = .returned (.int .u8 (step r b : Int)) ∧ w = w' := by
  have hx := xor_lt r b hr hb
  have hy := mv4_lt _ hx
  have he := u8_xor_nat r b hr hb
  have HT := Lib.hid ht
  clear ht
  go_enter Tryd.func10, Tryd.ntmps10
  go_wp2_with (first | (go_at_call 21; ((with_reducible refine (moveFour _ hx _ HT.out).mono ?_); rintro e w' ⟨rfl, rfl⟩)) | (go_at_call 21; ((with_reducible refine (moveFour _ hy _ HT.out).mono ?_); rintro e w' ⟨rfl, rfl⟩)))
  go_ret
  exact ⟨ret_int rfl, rfl⟩
theorem rstep (r b : Nat) (hr : r < 256) (hb : b < 256) (w : World) :
    Calls Tryd.prog 11 #[.int .u8 (r : Int), .int .u8 (b : Int)] w fun e w' => e = .returned (.int .u8 (step r b : Int)) ∧ w = w' := by
  have hx := xor_lt r b hr hb
  have he := u8_xor_nat r b hr hb
  go_enter Tryd.func11, Tryd.ntmps11
  go_wp2
  clear he
  go_loop [5, 6] (fun t i => ∃ k : Nat, k ≤ 8 ∧ i = .int .i64 k ∧ t = .int .u8 (mvs k (r ^^^ b) : Int)) (fun _ i => 8 - (intOf i).toNat)
  case atStart => exact ⟨0, Nat.zero_le _, rfl, rfl⟩
  case round =>
    obtain ⟨k, hk, rfl, rfl⟩ := hrel
    have HS := Lib.hid (mvs_succ k (r ^^^ b))
    have hm := mvs_lt k (r ^^^ b) hx
    by_cases hlt : k < 8
    · generalize mvs k (r ^^^ b) = m at *
      by_cases ho : m % 2 = 1
      · go_wp2
        go_round
        case rel => exact ⟨k + 1, by omega, by go_num, by rw [HS.out, mv1, if_pos ho]; exact congrArg _ (u8_xor_nat (m / 2) 224 (by omega) (by decide))⟩
        case measure => simp [intOf]; omega
      · go_wp2
        go_round
        case rel => exact ⟨k + 1, by omega, by go_num, by rw [HS.out, mv1, if_neg ho]; rfl⟩
        case measure => simp [intOf]; omega
    · obtain rfl : k = 8 := by omega
      go_wp2
      go_ret
      exact ⟨ret_int (by rw [mvs_eq _ hx]; rfl), rfl⟩
theorem take_snoc (s : ByteArray) (k : Nat) (h : k < s.size) : s.data.toList.take (k + 1) = s.data.toList.take k ++ [s[k]] := by
  rw [List.take_succ_eq_append_getElem (by simpa using h)]; rfl
theorem reg_take (s : ByteArray) (k : Nat) (h : k < s.size) : reg (s.data.toList.take (k + 1)) = step (reg (s.data.toList.take k)) s[k].toNat := by
  rw [take_snoc s k h, reg_snoc]
theorem take_all (s : ByteArray) (k : Nat) (h : s.size ≤ k) : s.data.toList.take k = s.data.toList := List.take_of_length_le (by simpa using h)
theorem takeAll (s : ByteArray) (hs : s.size ≤ maxLen) (w : World) (ht : Tab w) :
    Calls Tryd.prog 22 #[.string s] w fun e w' => e = .returned (.int .u8 (reg s.data.toList : Int)) ∧ w = w' := by
  unfold maxLen at hs
  have HT := Lib.hid ht
  clear ht
  go_enter Tryd.func22, Tryd.ntmps22
  go_wp2
  go_loop [3, 7] (fun t i => ∃ k : Nat, k ≤ s.size ∧ i = .int .i64 k ∧ t = .int .u8 (reg (s.data.toList.take k) : Int)) (fun _ i => s.size - (intOf i).toNat)
  case atStart => exact ⟨0, Nat.zero_le _, rfl, rfl⟩
  case round =>
    obtain ⟨k, hk, rfl, rfl⟩ := hrel
    by_cases hlt : k < s.size
    · have HS := Lib.hid (reg_take s k hlt)
      have hr := reg_lt (s.data.toList.take k)
      have hb := u8_lt s[k]
      go_wp2_with (go_at_call 10; ((with_reducible refine (fstep _ _ hr hb _ HT.out).mono ?_); rintro e w' ⟨rfl, rfl⟩))
      go_round
      case rel => exact ⟨k + 1, by omega, by go_num, by rw [HS.out]⟩
      case measure => simp [intOf]; omega
    · have HS := Lib.hid (take_all s k (by omega))
      go_wp2
      go_ret
      exact ⟨ret_int (by rw [HS.out]), rfl⟩
theorem register (s : ByteArray) (hs : s.size ≤ maxLen) (w : World) :
    Calls Tryd.prog 16 #[.string s] w fun e w' => e = .returned (.int .u8 (reg s.data.toList : Int)) ∧ w = w' := by
  unfold maxLen at hs
  go_enter Tryd.func16, Tryd.ntmps16
  go_wp2
  go_loop [3, 4] (fun t i => ∃ k : Nat, k ≤ s.size ∧ i = .int .i64 k ∧ t = .int .u8 (reg (s.data.toList.take k) : Int)) (fun _ i => s.size - (intOf i).toNat)
  case atStart => exact ⟨0, Nat.zero_le _, rfl, rfl⟩
  case round =>
    obtain ⟨k, hk, rfl, rfl⟩ := hrel
    by_cases hlt : k < s.size
    · have HS := Lib.hid (reg_take s k hlt)
      have hr := reg_lt (s.data.toList.take k)
      have hb := u8_lt s[k]
      go_wp2_with (go_at_call 11; ((with_reducible refine (rstep _ _ hr hb _).mono ?_); rintro e w' ⟨rfl, rfl⟩))
      go_round
      case rel => exact ⟨k + 1, by omega, by go_num, by rw [HS.out]⟩
      case measure => simp [intOf]; omega
    · have HS := Lib.hid (take_all s k (by omega))
      go_wp2
      go_ret
      exact ⟨ret_int (by rw [HS.out]), rfl⟩
theorem fsum (s : ByteArray) (hs : s.size ≤ maxLen) (w : World) (ht : Tab w) :
    Calls Tryd.prog 13 #[.string s] w fun e w' => e = .returned (.int .u8 (sum s.data.toList : Int)) ∧ w = w' := by
  have HT := Lib.hid ht
  clear ht
  have hr := reg_lt s.data.toList
  go_enter Tryd.func13, Tryd.ntmps13
  go_wp2_with (go_at_call 22; ((with_reducible refine (takeAll _ hs _ HT.out).mono ?_); rintro e w' ⟨rfl, rfl⟩))
  go_ret
  exact ⟨ret_int (by unfold sum; omega), rfl⟩
theorem fsum' (s : ByteArray) (hs : s.size ≤ maxLen) (w : World) (ht : Tab w) :
    Calls Tryd.prog 13 #[.string s] w fun e w' => e = .returned (.int .u8 (255 - (reg s.data.toList : Int))) ∧ w = w' := by
  have h := fsum s hs w ht
  have hr := reg_lt s.data.toList
  have e : (sum s.data.toList : Int) = 255 - (reg s.data.toList : Int) := by unfold sum; omega
  rw [e] at h
  exact h
theorem fsum_take (s : ByteArray) (k : Nat) (hk : k ≤ s.size) (hs : s.size ≤ maxLen) (w : World) (ht : Tab w) :
    Calls Tryd.prog 13 #[.string (s.extract 0 k)] w fun e w' => e = .returned (.int .u8 (255 - (reg (s.data.toList.take k) : Int))) ∧ w = w' := by
  have h := fsum' (s.extract 0 k) (by simp; omega) w ht
  have e : (s.extract 0 k).data.toList = s.data.toList.take k := by simp
  rw [e] at h
  exact h
theorem rsum (s : ByteArray) (hs : s.size ≤ maxLen) (w : World) :
    Calls Tryd.prog 14 #[.string s] w fun e w' => e = .returned (.int .u8 (sum s.data.toList : Int)) ∧ w = w' := by
  have hr := reg_lt s.data.toList
  go_enter Tryd.func14, Tryd.ntmps14
  go_wp2_with (go_at_call 16; ((with_reducible refine (register _ hs _).mono ?_); rintro e w' ⟨rfl, rfl⟩))
  go_ret
  exact ⟨ret_int (by unfold sum; omega), rfl⟩
/-- Are the bytes good? -/
def goodB (l : List UInt8) : Bool := decide (reg l = 207)
theorem fgood (s : ByteArray) (hs : s.size ≤ maxLen) (w : World) (ht : Tab w) :
    Calls Tryd.prog 15 #[.string s] w fun e w' => e = .returned (.bool (goodB s.data.toList)) ∧ w = w' := by
  have HT := Lib.hid ht
  clear ht
  have hr := reg_lt s.data.toList
  go_enter Tryd.func15, Tryd.ntmps15
  go_wp2_with (go_at_call 22; ((with_reducible refine (takeAll _ hs _ HT.out).mono ?_); rintro e w' ⟨rfl, rfl⟩))
  go_ret
  exact ⟨ret_bool (by unfold goodB; rw [Bool.eq_iff_iff]; simp; omega), rfl⟩
/-- What a turned bit does. -/
def mend (n : Nat) (bit : Int) : Nat := if bit < 0 ∨ (n : Int) ≤ bit / 8 then 0 else Tn (n - 1 - (bit / 8).toNat) (T (2 ^ (bit % 8).toNat))
theorem pow_lt (b : Int) : 2 ^ (b % 8).toNat < 256 := by
  have h : (b % 8).toNat < 8 := by omega
  have : ∀ j : Fin 8, 2 ^ j.val < 256 := by decide
  exact this ⟨_, h⟩
theorem fstep_l (b : Nat) (hb : b < 256) (w : World) (ht : Tab w) :
    Calls Tryd.prog 10 #[.int .u8 0, .int .u8 (b : Int)] w fun e w' => e = .returned (.int .u8 (T b : Int)) ∧ w = w' := by
  have h := fstep 0 b (by decide) hb w ht
  unfold step at h
  rw [Nat.zero_xor] at h
  exact h
theorem fstep_r (r : Nat) (hr : r < 256) (w : World) (ht : Tab w) :
    Calls Tryd.prog 10 #[.int .u8 (r : Int), .int .u8 0] w fun e w' => e = .returned (.int .u8 (T r : Int)) ∧ w = w' := by
  have h := fstep r 0 hr (by decide) w ht
  unfold step at h
  rw [Nat.xor_zero] at h
  exact h
theorem mend_no (s : ByteArray) (bit : Int) (w : World) (hi : bit ≤ 9223372036854775807) (h : bit < 0 ∨ (s.size : Int) ≤ bit / 8) :
    Calls Tryd.prog 17 #[.string s, .int .i64 bit] w fun e w' => e = .returned (.int .u8 (mend s.size bit : Int)) ∧ w = w' := by
  have hm : mend s.size bit = 0 := if_pos h
  rw [hm]; clear hm
  by_cases h0 : bit < 0
  · clear h
    go_enter Tryd.func17, Tryd.ntmps17
    go_wp2
    go_ret
    exact ⟨rfl, rfl⟩
  · have h1 : (s.size : Int) ≤ bit / 8 := by omega
    have h2 : 0 ≤ bit := by omega
    clear h h0
    go_enter Tryd.func17, Tryd.ntmps17
    go_wp2
    go_ret
    exact ⟨rfl, rfl⟩
theorem cast_pow_two (n : Nat) : ((2 ^ n : Nat) : Int) = (2 : Int) ^ n := by simp
theorem pow_eq (b : Int) : (2 : Int) ^ (b % 8).toNat % 256 = ((2 ^ (b % 8).toNat : Nat) : Int) := by
  have := pow_lt b
  rw [← cast_pow_two]
  exact Int.emod_eq_of_lt (Int.natCast_nonneg _) (Int.ofNat_lt.2 this)
theorem mend_yes (s : ByteArray) (bit : Int) (hs : s.size ≤ maxLen) (w : World) (ht : Tab w) (h0 : 0 ≤ bit) (h1 : bit / 8 < (s.size : Int)) (hi : bit ≤ 9223372036854775807) :
    Calls Tryd.prog 17 #[.string s, .int .i64 bit] w fun e w' => e = .returned (.int .u8 (mend s.size bit : Int)) ∧ w = w' := by
  have hm : mend s.size bit = Tn (s.size - 1 - (bit / 8).toNat) (T (2 ^ (bit % 8).toNat)) := if_neg (by omega)
  rw [hm]; clear hm
  unfold maxLen at hs
  have HT := Lib.hid ht
  clear ht
  have hp := pow_lt bit
  have he := pow_eq bit
  generalize 2 ^ (bit % 8).toNat = p at *
  have hT := T_lt p hp
  have b1 : decide (bit < 0) = false := by simp; omega
  have b2 : decide ((s.size : Int) ≤ bit / 8) = false := by simp; omega
  go_enter Tryd.func17, Tryd.ntmps17
  go_wp2_with (go_at_call 10; ((with_reducible refine (fstep_l _ hp _ HT.out).mono ?_); rintro e w' ⟨rfl, rfl⟩))
  clear he
  go_loop [5, 25] (fun t i => ∃ k : Nat, (k : Int) ≤ s.size - 1 - bit / 8 ∧ i = .int .i64 k ∧ t = .int .u8 (Tn k (T p) : Int)) (fun _ i => s.size - (intOf i).toNat)
  case atStart => exact ⟨0, by omega, rfl, rfl⟩
  case round =>
    obtain ⟨k, hk, rfl, rfl⟩ := hrel
    by_cases hlt : (k : Int) < s.size - 1 - bit / 8
    · have HS := Lib.hid (Tn_succ k (T p))
      have hr := Tn_lt k (T p) hT
      go_wp2_with (go_at_call 10; ((with_reducible refine (fstep_r _ hr _ HT.out).mono ?_); rintro e w' ⟨rfl, rfl⟩))
      go_round
      case rel => exact ⟨k + 1, by omega, by go_num, by rw [HS.out]⟩
      case measure => simp [intOf]; omega
    · have HS : Hid (k = s.size - 1 - (bit / 8).toNat) := Lib.hid (by omega)
      go_wp2
      go_ret
      exact ⟨ret_int (by rw [← HS.out]), rfl⟩
theorem fmend (s : ByteArray) (bit : Int) (hs : s.size ≤ maxLen) (w : World) (ht : Tab w) (hi : bit ≤ 9223372036854775807) :
    Calls Tryd.prog 17 #[.string s, .int .i64 bit] w fun e w' => e = .returned (.int .u8 (mend s.size bit : Int)) ∧ w = w' := by
  by_cases h : bit < 0 ∨ (s.size : Int) ≤ bit / 8
  · exact mend_no s bit w hi h
  · exact mend_yes s bit hs w ht (by omega) (by omega) hi
theorem w1 (w : World) (ht : Tab w) : Calls Tryd.prog 13 #[.string ⟨#[3, 63, 1]⟩] w fun e w' => e = .returned (.int .u8 28) ∧ w = w' := fsum ⟨#[3, 63, 1]⟩ (by decide) w ht
theorem w2 (w : World) (ht : Tab w) : Calls Tryd.prog 13 #[.string ⟨#[]⟩] w fun e w' => e = .returned (.int .u8 0) ∧ w = w' := fsum ⟨#[]⟩ (by decide) w ht
theorem w3 (w : World) (ht : Tab w) : Calls Tryd.prog 15 #[.string ⟨#[3, 63, 1, 28]⟩] w fun e w' => e = .returned (.bool true) ∧ w = w' := fgood ⟨#[3, 63, 1, 28]⟩ (by decide) w ht
theorem w4 (w : World) (ht : Tab w) : Calls Tryd.prog 15 #[.string ⟨#[3, 63, 1, 29]⟩] w fun e w' => e = .returned (.bool false) ∧ w = w' := fgood ⟨#[3, 63, 1, 29]⟩ (by decide) w ht
theorem w5 (w : World) (ht : Tab w) : Calls Tryd.prog 10 #[.int .u8 255, .int .u8 0] w fun e w' => e = .returned (.int .u8 207) ∧ w = w' := fstep 255 0 (by decide) (by decide) w ht
theorem w6 (w : World) (ht : Tab w) : Calls Tryd.prog 10 #[.int .u8 1, .int .u8 0] w fun e w' => e = .returned (.int .u8 145) ∧ w = w' := fstep 1 0 (by decide) (by decide) w ht
theorem w7 (w : World) (ht : Tab w) : Calls Tryd.prog 17 #[.string ⟨#[3, 63, 1]⟩, .int .i64 23] w fun e w' => e = .returned (.int .u8 224) ∧ w = w' := fmend ⟨#[3, 63, 1]⟩ 23 (by decide) w ht (by decide)
theorem works (w : World) (ht : Tab w) : Calls Tryd.prog 12 #[] w fun e w' => e = .returned (.bool true) ∧ w = w' := by
  have HT := Lib.hid ht
  clear ht
  go_enter Tryd.func12, Tryd.ntmps12
  go_wp2_with (first
    | (go_at_call 13; (first | ((with_reducible refine (w1 _ HT.out).mono ?_); rintro e w' ⟨rfl, rfl⟩) | ((with_reducible refine (w2 _ HT.out).mono ?_); rintro e w' ⟨rfl, rfl⟩)))
    | (go_at_call 15; (first | ((with_reducible refine (w3 _ HT.out).mono ?_); rintro e w' ⟨rfl, rfl⟩) | ((with_reducible refine (w4 _ HT.out).mono ?_); rintro e w' ⟨rfl, rfl⟩)))
    | (go_at_call 10; (first | ((with_reducible refine (w5 _ HT.out).mono ?_); rintro e w' ⟨rfl, rfl⟩) | ((with_reducible refine (w6 _ HT.out).mono ?_); rintro e w' ⟨rfl, rfl⟩)))
    | (go_at_call 17; ((with_reducible refine (w7 _ HT.out).mono ?_); rintro e w' ⟨rfl, rfl⟩)))
  go_ret
  exact ⟨rfl, rfl⟩
end Go.Proofs.YtfkmneohdkjheaaDoor.Fcs
