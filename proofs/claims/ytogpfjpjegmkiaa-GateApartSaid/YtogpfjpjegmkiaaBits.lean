/-
  Small plain lemmas on octets and their bits that the layers above the first one use. Conditions: the bounds that each names.
-/
import Derived.WalkKit
import Derived.Laws.BitsAllLaws
import Derived.Laws.BitsLemmas
import Derived.Laws.Strings
namespace Go.Proofs.Ytogpfjpjegmkiaa.Base
theorem oct_lt (c : UInt8) : c.toNat < 256 := c.toNat_lt
theorem u8_and1 (a : Nat) (h : a < 256) : bits .and .u8 (a : Int) 1 = ((a % 2 : Nat) : Int) := by
  have : ∀ j : Fin 256, bits .and .u8 (j.val : Int) 1 = ((j.val % 2 : Nat) : Int) := by decide +kernel
  exact this ⟨a, h⟩
theorem u8_and2 (a : Nat) (h : a < 256) : bits .and .u8 (a : Int) 2 = ((2 * (a / 2 % 2) : Nat) : Int) := by
  have : ∀ j : Fin 256, bits .and .u8 (j.val : Int) 2 = ((2 * (j.val / 2 % 2) : Nat) : Int) := by decide +kernel
  exact this ⟨a, h⟩
theorem wraps_i64 (n : Int) (h₀ : 0 ≤ n) (h₁ : n < 2 ^ 63) : IntKind.i64.wrap n = n := by rw [IntKind.wrap_i64]; omega
theorem nil_of_size {s : ByteArray} (h : s.size = 0) : s = ⟨#[]⟩ := by
  obtain ⟨d⟩ := s
  have : d = #[] := Array.eq_empty_of_size_eq_zero h
  rw [this]
theorem size_toList (s : ByteArray) : s.data.toList.length = s.size := rfl
theorem cons_of_size {s : ByteArray} (h : 0 < s.size) : s.data.toList = s[0] :: s.data.toList.drop 1 := by
  exact List.drop_eq_getElem_cons (l := s.data.toList) (i := 0) (by simpa using h)
theorem cons2_of_size {s : ByteArray} (h : 1 < s.size) : s.data.toList = s[0] :: s[1] :: s.data.toList.drop 2 := by
  have h1 := cons_of_size (s := s) (by omega)
  have := List.drop_eq_getElem_cons (l := s.data.toList) (i := 1) (by simpa using h)
  rw [h1, this]; rfl
theorem one_of_size {s : ByteArray} (h : s.size = 1) : s.data.toList = [s[0]] := by
  have h1 := cons_of_size (s := s) (by omega)
  rw [h1, List.drop_eq_nil_of_le (by simp; show s.size ≤ 1; omega)]
theorem toList_ne {s : ByteArray} (h : 0 < s.size) : ¬ s.toList = [] := by
  rw [ByteArray.toList_eq]
  intro h'
  have : s.data.toList.length = 0 := by rw [h']; rfl
  have h2 : s.data.toList.length = s.size := rfl
  omega
theorem ret_str {a b : ByteArray} (h : a = b) : Ending.returned (.string a) = .returned (.string b) := by rw [h]
theorem ret_ibb {k : IntKind} {a a' : Int} {b b' c c' : Bool} (h : a = a') (h1 : b = b') (h2 : c = c') : Ending.returned (.tuple #[.int k a, .bool b, .bool c]) = .returned (.tuple #[.int k a', .bool b', .bool c']) := by rw [h, h1, h2]
theorem ret_iii {k k1 k2 : IntKind} {a a' b b' c c' : Int} (h : a = a') (h1 : b = b') (h2 : c = c') : Ending.returned (.tuple #[.int k a, .int k1 b, .int k2 c]) = .returned (.tuple #[.int k a', .int k1 b', .int k2 c']) := by rw [h, h1, h2]
end Go.Proofs.Ytogpfjpjegmkiaa.Base
