/-
  FcsBits answers true for every two rows of bytes and every two numbers, and turns nothing that was there. Condition: the table of sixteen numbers lies where the program lays it.
-/
import Derived.Test.YtfkmneohdkjheaaDoorFcsTurned
import Derived.Deep.QuietTactic
import Derived.BigQuiet
namespace Go.Proofs.YtfkmneohdkjheaaDoor.fcsBits
open Go.RowKit Go.Proofs.YtfkmneohdkjheaaDoor.Fcs Go.Proofs.YtfkmneohdkjheaaDoor.Base

theorem small (s t : ByteArray) (a b : Nat) (w : World) (ht : Tab w) (h : s.size = 0 ∨ 500 < s.size ∨ 500 < t.size) :
    Calls Tryd.prog 8 #[.string s, .string t, .int .u16 (a : Int), .int .u16 (b : Int)] w fun e w' => e = .returned (.bool true) ∧ Below w.heap.size w w' := by
  have HT := Lib.hid ht
  clear ht
  by_cases h1 : s.size = 0
  · have h1' : ((s.size : Int) == 0) = true := by simp [h1]
    clear h h1
    go_enter Tryd.func8, Tryd.ntmps8
    go_wp2_with (go_at_call 12; ((with_reducible refine (works _ HT.out).mono ?_); rintro e w' ⟨rfl, rfl⟩))
    go_ret
    exact ⟨rfl, Below.refl _ _⟩
  · have h1' : ((s.size : Int) == 0) = false := by rw [beq_eq_false_iff_ne]; omega
    by_cases h2 : 500 < s.size
    · clear h h1
      go_enter Tryd.func8, Tryd.ntmps8
      go_wp2_with (go_at_call 12; ((with_reducible refine (works _ HT.out).mono ?_); rintro e w' ⟨rfl, rfl⟩))
      go_ret
      exact ⟨rfl, Below.refl _ _⟩
    · have h3 : 500 < t.size := by omega
      clear h h1
      go_enter Tryd.func8, Tryd.ntmps8
      go_wp2_with (go_at_call 12; ((with_reducible refine (works _ HT.out).mono ?_); rintro e w' ⟨rfl, rfl⟩))
      go_ret
      exact ⟨rfl, Below.refl _ _⟩

theorem large (s t : ByteArray) (a b : Nat) (ha : a < 65536) (hb : b < 65536) (w : World) (ht : Tab w) (h1 : 0 < s.size) (h2 : s.size ≤ 500) (h3 : t.size ≤ 500) :
    Calls Tryd.prog 8 #[.string s, .string t, .int .u16 (a : Int), .int .u16 (b : Int)] w fun e w' => e = .returned (.bool true) ∧ Below w.heap.size w w' := by
  have HT := Lib.hid ht
  clear ht
  have h1' : ((s.size : Int) == 0) = false := by rw [beq_eq_false_iff_ne]; omega
  go_enter Tryd.func8, Tryd.ntmps8
  go_wp2
  go_region
  go_wp2_with (go_at_call 20; fail)
  have hx0 : 0 ≤ (a : Int) % (8 * s.size) := Int.emod_nonneg _ (by omega)
  have hx1 : (a : Int) % (8 * s.size) < 8 * s.size := Int.emod_lt_of_pos _ (by omega)
  have hy0 : 0 ≤ (b : Int) % (8 * s.size) := Int.emod_nonneg _ (by omega)
  have hy1 : (b : Int) % (8 * s.size) < 8 * s.size := Int.emod_lt_of_pos _ (by omega)
  generalize (a : Int) % (8 * s.size) = x at *
  generalize (b : Int) % (8 * s.size) = y at *
  obtain ⟨s1, C1, hs1, HD1⟩ : ∃ s1 : ByteArray, Hid (∀ w, Calls Tryd.prog 20 #[.string s, .int .i64 x] w fun e w' => e = .returned (.tuple #[.string s1, .bool true]) ∧ Below w.heap.size w w') ∧ Hid (s1.size = s.size) ∧ Hid (reg s1.data.toList = reg s.data.toList ^^^ mend s.size x) :=
    ⟨turnB s x, Lib.hid (fun w => turned_yes s x w hx0 (by omega) (by omega)), Lib.hid (turnB_size s x), Lib.hid (by
      have := reg_turn s.data.toList x hx0 (by simp; omega)
      have hl : s.data.toList.length = s.size := by simp
      rw [hl] at this
      exact this)⟩
  obtain ⟨s2, C2, hs2, HD2⟩ : ∃ s2 : ByteArray, Hid (∀ w, Calls Tryd.prog 20 #[.string s1, .int .i64 y] w fun e w' => e = .returned (.tuple #[.string s2, .bool true]) ∧ Below w.heap.size w w') ∧ Hid (s2.size = s.size) ∧ Hid (reg s2.data.toList = reg s1.data.toList ^^^ mend s.size y) :=
    ⟨turnB s1 y, Lib.hid (fun w => turned_yes s1 y w hy0 (by rw [hs1.out]; omega) (by omega)), Lib.hid ((turnB_size s1 y).trans hs1.out), Lib.hid (by
      have := reg_turn s1.data.toList y hy0 (by simp [hs1.out]; omega)
      have hl : s1.data.toList.length = s.size := by simp [hs1.out]
      rw [hl] at this
      exact this)⟩
  have hxor : bits .xor .u8 (sum s.data.toList : Int) (sum s2.data.toList : Int) = ((mend s.size x ^^^ mend s.size y : Nat) : Int) := by
    rw [u8_xor_nat _ _ (sum_lt _) (sum_lt _), sum_xor, HD2.out, HD1.out, Nat.xor_assoc, xor_self_left]
  have hxor2 : bits .xor .u8 (mend s.size x : Int) (mend s.size y : Int) = ((mend s.size x ^^^ mend s.size y : Nat) : Int) := u8_xor_nat _ _ (mend_lt _ _) (mend_lt _ _)
  have hne : ((mend s.size x : Int) == 0) = false := by
    rw [beq_eq_false_iff_ne]
    have := mend_ne s.size x hx0 (by omega)
    omega
  have C3 : Hid (∀ w, Tab w → Calls Tryd.prog 17 #[.string (t ++ s), .int .i64 (x + 8 * t.size)] w fun e w' => e = .returned (.int .u8 (mend s.size x : Int)) ∧ w = w') := Lib.hid (fun w ht => by
    have hsz : (t ++ s).size = t.size + s.size := ByteArray.size_append
    have h := fmend (t ++ s) (x + 8 * t.size) (by rw [hsz]; unfold maxLen; omega) w ht (by omega)
    have e : mend (t ++ s).size (x + 8 * t.size) = mend s.size x := by
      rw [hsz, mend_eq _ _ (by omega) (by omega), mend_eq _ _ hx0 (by omega)]
      have e1 : (x + 8 * (t.size : Int)) % 8 = x % 8 := by omega
      have e2 : t.size + s.size - 1 - ((x + 8 * (t.size : Int)) / 8).toNat = s.size - 1 - (x / 8).toNat := by omega
      rw [e1, e2]
    rw [e] at h
    exact h)
  have C4 : Hid (∀ w, Tab w → Calls Tryd.prog 17 #[.string s1, .int .i64 x] w fun e w' => e = .returned (.int .u8 (mend s.size x : Int)) ∧ w = w') := Lib.hid (fun w ht => by
    have h := fmend s1 x (by rw [hs1.out]; unfold maxLen; omega) w ht (by omega)
    rw [hs1.out] at h
    exact h)
  have C5 : Hid (∀ w z, 0 ≤ z → z < 8 * (s.size : Int) → Tab w → Calls Tryd.prog 17 #[.string s, .int .i64 z] w fun e w' => e = .returned (.int .u8 (mend s.size z : Int)) ∧ w = w') := Lib.hid (fun w z h0 h1 ht => fmend s z (by unfold maxLen; omega) w ht (by omega))
  have C6 : Hid (∀ w, Tab w → Calls Tryd.prog 13 #[.string s] w fun e w' => e = .returned (.int .u8 (sum s.data.toList : Int)) ∧ w = w') := Lib.hid (fun w ht => fsum s (by unfold maxLen; omega) w ht)
  have C7 : Hid (∀ w, Tab w → Calls Tryd.prog 13 #[.string s2] w fun e w' => e = .returned (.int .u8 (sum s2.data.toList : Int)) ∧ w = w') := Lib.hid (fun w ht => fsum s2 (by rw [hs2.out]; unfold maxLen; omega) w ht)
  generalize mend s.size x ^^^ mend s.size y = M at *
  refine (C1.out _).mono ?_
  rintro e w1 ⟨rfl, hb0⟩
  have hb1 : Below w.heap.size w w1 := ⟨hb0.os, hb0.tape, hb0.output, hb0.size, hb0.block⟩
  have HT1 := Lib.hid (tab_below HT.out hb1)
  have HB1 := Lib.hid hb1
  clear hb1 hb0
  go_wp2_with (first
    | (go_at_call 20; ((with_reducible refine (C2.out _).mono ?_); rintro e w2 ⟨rfl, hb2⟩; have HT2 := Lib.hid (tab_below HT1.out hb2); have HB2 : Hid (Below w.heap.size w w2) := Lib.hid (HB1.out.trans (hb2.mono HB1.out.size)); clear hb2))
    | (go_at_call 13; ((with_reducible refine (C6.out _ HT2.out).mono ?_); rintro e w' ⟨rfl, rfl⟩))
    | (go_at_call 13; ((with_reducible refine (C7.out _ HT2.out).mono ?_); rintro e w' ⟨rfl, rfl⟩))
    | (go_at_call 17; ((with_reducible refine (C3.out _ HT2.out).mono ?_); rintro e w' ⟨rfl, rfl⟩))
    | (go_at_call 17; ((with_reducible refine (C4.out _ HT2.out).mono ?_); rintro e w' ⟨rfl, rfl⟩))
    | (go_at_call 17; ((with_reducible refine (C5.out _ _ (by assumption) (by assumption) HT2.out).mono ?_); rintro e w' ⟨rfl, rfl⟩))
    | (go_at_call 12; ((with_reducible refine (works _ HT2.out).mono ?_); rintro e w' ⟨rfl, rfl⟩)))
  go_ret
  exact ⟨rfl, HB2.out⟩
theorem law (s : ByteArray) (_hs : s.size ≤ maxLen) (t : ByteArray) (_ht : t.size ≤ maxLen) (a : Nat) (ha : a < 65536) (b : Nat) (hb : b < 65536) (w : World) (ht : Tab w) :
    Calls Tryd.prog 8 #[.string s, .string t, .int .u16 (a : Int), .int .u16 (b : Int)] w fun e w' => e = .returned (.bool true) ∧ Below w.heap.size w w' := by
  by_cases h : s.size = 0 ∨ 500 < s.size ∨ 500 < t.size
  · exact small s t a b w ht h
  · exact large s t a b ha hb w ht (by omega) (by omega) (by omega)
end Go.Proofs.YtfkmneohdkjheaaDoor.fcsBits
