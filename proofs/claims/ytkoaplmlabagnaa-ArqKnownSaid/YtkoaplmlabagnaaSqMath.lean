/-
  Numbers modulo 8, plain: what is added, the way from one to another, a window's numbers, what is acknowledged; what a walk asks of the sums and masks. No condition but the bounds that each names.
-/
import Derived.Test.YtkoaplmlabagnaaOwnS
namespace Go.Proofs.Ytkoaplmlabagnaa.Sq
open Go.RowKit Go.Proofs.Ytkoaplmlabagnaa.Base Go.Proofs.Ytkoaplmlabagnaa.Mem
abbrev oc (x : Nat) : Value := .int .u8 (x : Int)
abbrev nm (x : Nat) : Value := .int .i64 (x : Int)
def ad (a : Nat) (n : Int) : Nat := (((a : Int) + n) % 8).toNat
def wy (a b : Nat) : Nat := (b % 8 + 8 - a % 8) % 8
def ct (n : Int) : Nat := (min (max n 0) 7).toNat
def win (a k : Nat) : List Nat := (List.range k).map fun i => (a + i) % 8
def acN (va vs nr : Nat) : Nat := if wy va vs < wy va nr then 0 else wy va nr
def acB (va vs nr : Nat) : Bool := decide (wy va nr ≤ wy va vs)
theorem ad_lt (a : Nat) (n : Int) : ad a n < 8 := by unfold ad; omega
theorem ad_mod (a : Nat) (n : Int) : ad (a % 8) n = ad a n := by unfold ad; omega
theorem wy_lt (a b : Nat) : wy a b < 8 := by unfold wy; omega
theorem wy_mod (a b : Nat) : wy (a % 8) (b % 8) = wy a b := by unfold wy; omega
theorem ct_le (n : Int) : ct n ≤ 7 := by unfold ct; omega
theorem ct_cast (n : Int) : min (max n 0) 7 = (ct n : Int) := by unfold ct; omega
theorem wy_at (a x i : Nat) (hi : i < 8) : (a + i) % 8 = x % 8 ↔ wy a x = i := by unfold wy; omega
theorem win_len (a k : Nat) : (win a k).length = k := by simp [win]
theorem win_succ (a k : Nat) : win a (k + 1) = win a k ++ [(a + k) % 8] := by simp [win, List.range_succ]
theorem win_get (a k i : Nat) (h : i < k) : (win a k)[i]? = some ((a + i) % 8) := by simp [win, h]
theorem win_mod (a k : Nat) : win (a % 8) k = win a k := by
  unfold win
  congr 1
  funext i
  omega
theorem i64_and7 (n : Int) : bits .and .i64 n 7 = n % 8 := by
  have h7 : (BitVec.ofInt 64 (7 : Int)).toNat = 7 := by decide
  have hn : (BitVec.ofInt 64 n).toNat = (n % 18446744073709551616).toNat := by rw [BitVec.toNat_ofInt]; rfl
  have hm : (n % 18446744073709551616).toNat &&& 7 = (n % 18446744073709551616).toNat % 8 := Nat.and_two_pow_sub_one_eq_mod _ 3
  have e : bits .and .i64 n 7 = IntKind.i64.wrap (((BitVec.ofInt 64 n).toNat &&& (BitVec.ofInt 64 (7 : Int)).toNat : Nat) : Int) := rfl
  rw [e, h7, hn, hm, IntKind.wrap_i64]
  omega
theorem u8_low (a r : Nat) (ha : a < 256) (hr : a % 8 = r) : bits .and .u8 (a : Int) 7 = (r : Int) := by
  rw [u8_and7 _ (Int.natCast_nonneg a) (by omega)]; omega
theorem wrap_nat (k : Nat) (h : k ≤ 4000000) : IntKind.i64.wrap (k : Int) = (k : Int) := by rw [IntKind.wrap_i64]; omega
theorem wrap_u8 (k : Nat) (h : k < 256) : IntKind.u8.wrap (k : Int) = (k : Int) := by rw [IntKind.wrap_u8]; omega
theorem ret_ib {k : IntKind} {a a' : Int} {b b' : Bool} (h : a = a') (h1 : b = b') : Ending.returned (.tuple #[.int k a, .bool b]) = .returned (.tuple #[.int k a', .bool b']) := by rw [h, h1]
/-- An octet's cell. -/
def ocs (k : Nat) : List Value := [oc k]
theorem eltU : Elt 5 87 1 ocs where
  under := Try.underlying87
  info := ⟨.int .u8 0, 1, by kernel_rfl, rfl, by decide⟩
  len := fun _ => rfl
  one := fun x u hu => by
    simp only [ocs, List.mem_cons, List.not_mem_nil, or_false] at hu
    rw [hu]; rfl
  pos := by decide
/-- A row of octets that the call made. -/
abbrev Row (w : World) (base : Nat) (v : Value) (l : List Nat) : Prop := OwnS 5 1 ocs w base v l
theorem row_keep {base : Nat} {w w' : World} {v : Value} {l : List Nat} (h : Row w base v l) (hk : ∀ b, v.ownBlock = some b → w'.heap[b]? = w.heap[b]?) : Row w' base v l := by
  obtain ⟨h1, h2⟩ := h
  refine ⟨h1, ?_⟩
  rcases h2 with h2 | ⟨g, cap, cur, h2, h3, h4, h5⟩
  · exact Or.inl h2
  · exact Or.inr ⟨g, cap, cur, h2, h3, by rw [hk g (by rw [h2]; rfl)]; exact h4, h5⟩
theorem row_form {w : World} {base : Nat} {v : Value} {l : List Nat} (h : Row w base v l) : ∃ oa cap, v = .slice oa l.length cap ∧ ∀ i, i < l.length → ∃ g, oa = some ⟨g, 0, none⟩ ∧ base ≤ g ∧ g < w.heap.size := by
  rcases h.shape with ⟨h1, h2⟩ | ⟨g, cap, h1, h2⟩
  · subst h2
    exact ⟨none, 0, h1, fun i hi => by simp at hi⟩
  · exact ⟨some ⟨g, 0, none⟩, cap, h1, fun _ _ => ⟨g, rfl, h.lt g (by rw [h1]; rfl)⟩⟩
theorem row_cell {w : World} {base g n cap : Nat} {l : List Nat} (h : Row w base (.slice (some ⟨g, 0, none⟩) n cap) l) {i x : Nat} (hi : l[i]? = some x) : w.cell? ⟨g, i, none⟩ = some (oc x) := by
  have := OwnS.cell (fc := ocs) (z := 1) (fun _ => rfl) h i x hi 0 Nat.one_pos
  rw [Nat.one_mul, Nat.add_zero] at this
  exact this
theorem row_drewN {w : World} {base : Nat} {v : Value} {l : List Nat} (h : Row w base v l) (m : Nat) : Row (w.drewN m) base v l := row_keep h fun _ _ => rfl
theorem rowu (w : World) (x : Nat) : ∀ j, j < 1 → (w.alloc (.cells #[oc x] 5)).cell? ⟨w.heap.size, j, none⟩ = (ocs x)[j]? := fun j hj => by
  obtain rfl : j = 0 := by omega
  exact cell_of (nest w [_] 0 _ rfl) rfl
theorem three_row (w : World) (x y z : Nat) : Row (w.alloc (.cells #[oc x, oc y, oc z] 5)) w.heap.size (.slice (some ⟨w.heap.size, 0, none⟩) 3 3) [x, y, z] :=
  ⟨rfl, Or.inr ⟨w.heap.size, 3, #[oc x, oc y, oc z], rfl, Nat.le_refl _, nest w [_] 0 _ rfl, Nat.le_refl _, by decide, rfl, rfl⟩⟩
end Go.Proofs.Ytkoaplmlabagnaa.Sq
