/-
  EaBack answers true for every number, octet and bytes, and turns nothing that was there: the other cases, and all together. No condition.
-/
import Derived.Test.YtagcmbppgnmghaaEaBackLaw
namespace Go.Proofs.Ytagcmbppgnmghaa.eaBack
open Go.RowKit Go.Proofs.Ytagcmbppgnmghaa.Ea Go.Proofs.Ytagcmbppgnmghaa.Base
set_option maxRecDepth 100000 in
theorem law_long (n : Int) (a : Nat) (s : ByteArray) (hs : s.size ≤ maxLen) (h : 1000 < s.size) (w : World) :
    Calls Try.prog 5 #[.int .i64 n, .int .u8 (a : Int), .string s] w fun e w' => e = .returned (.bool true) ∧ Below w.heap.size w w' := by
  unfold maxLen at hs
  go_enter Try.func5, Try.ntmps5
  go_wp2_with (go_at_call 11; ((with_reducible refine (works _).mono ?_); rintro e w1 ⟨rfl, hb⟩; have HB1 : Hid (Below w.heap.size w w1) := Lib.hid hb; clear hb))
  go_ret
  exact ⟨rfl, HB1.out⟩
set_option maxRecDepth 100000 in
theorem law_out (n : Int) (hn : -9223372036854775808 ≤ n ∧ n ≤ 9223372036854775807) (h : n < 0 ∨ 32767 < n) (a : Nat) (ha : a < 256) (s : ByteArray) (hs : s.size ≤ 1000) (w : World) :
    Calls Try.prog 5 #[.int .i64 n, .int .u8 (a : Int), .string s] w fun e w' => e = .returned (.bool true) ∧ Below w.heap.size w w' := by
  have C4 := Lib.hid (length n hn.2)
  rw [len_no h] at C4
  have C3 : Hid (∀ w, _) := Lib.hid fun w => take ((⟨#[]⟩ : ByteArray) ++ s) w (by rw [ByteArray.size_append]; unfold maxLen; show 0 + s.size ≤ _; omega)
  have hd : (decide (n < 0) || decide (32767 < n)) = true := by simpa using h
  clear h
  by_cases ho : a % 2 = 1
  · have hk : spK a = true := decide_eq_true ho
    have C1 := Lib.hid (addrBack a ha hk)
    go_enter Try.func5, Try.ntmps5
    go_wp2_with (first
      | (go_at_call 7; ((with_reducible refine (split _ ha _).mono ?_); rintro e w' ⟨rfl, rfl⟩))
      | (go_at_call 9; ((with_reducible refine (C1.out _).mono ?_); rintro e w' ⟨rfl, rfl⟩))
      | (go_at_call 14; ((with_reducible refine (C4.out _).mono ?_); rintro e w1 ⟨rfl, hb⟩; have HB1 : Hid (Below w.heap.size w w1) := Lib.hid hb; clear hb))
      | (go_at_call 12; ((with_reducible refine (C3.out _).mono ?_); rintro e w' ⟨rfl, rfl⟩))
      | (go_at_call 11; ((with_reducible refine (works _).mono ?_); rintro e w3 ⟨rfl, hb⟩; have HB3 : Hid (Below w.heap.size w w3) := Lib.hid (below_on HB1.out hb); clear hb)))
    all_goals go_ret
    all_goals exact ⟨rfl, HB3.out⟩
  · have hk : spK a = false := decide_eq_false ho
    have ho' : ((a : Int) % 2 == 1) = false := by rw [beq_eq_false_iff_ne]; omega
    go_enter Try.func5, Try.ntmps5
    go_wp2_with (first
      | (go_at_call 7; ((with_reducible refine (split _ ha _).mono ?_); rintro e w' ⟨rfl, rfl⟩))
      | (go_at_call 14; ((with_reducible refine (C4.out _).mono ?_); rintro e w1 ⟨rfl, hb⟩; have HB1 : Hid (Below w.heap.size w w1) := Lib.hid hb; clear hb))
      | (go_at_call 12; ((with_reducible refine (C3.out _).mono ?_); rintro e w' ⟨rfl, rfl⟩))
      | (go_at_call 11; ((with_reducible refine (works _).mono ?_); rintro e w3 ⟨rfl, hb⟩; have HB3 : Hid (Below w.heap.size w w3) := Lib.hid (below_on HB1.out hb); clear hb)))
    all_goals go_ret
    all_goals exact ⟨rfl, HB3.out⟩
theorem law (n : Int) (hn : -9223372036854775808 ≤ n ∧ n ≤ 9223372036854775807) (a : Nat) (ha : a < 256) (s : ByteArray) (hs : s.size ≤ maxLen) (w : World) :
    Calls Try.prog 5 #[.int .i64 n, .int .u8 (a : Int), .string s] w fun e w' => e = .returned (.bool true) ∧ Below w.heap.size w w' := by
  by_cases h : 1000 < s.size
  · exact law_long n a s hs h w
  by_cases h2 : n < 0 ∨ 32767 < n
  · exact law_out n hn h2 a ha s (by omega) w
  · exact law_in n (by omega) (by omega) a ha s (by omega) w
end Go.Proofs.Ytagcmbppgnmghaa.eaBack
