/-
  The plain mathematics of layer 16: how many pieces there are, what each of them is. No condition.
-/
import Derived.Test.YtidcoodmlgmcjaaMem
import Derived.Test.YtidcoodmlgmcjaaOwnS
namespace Go.Proofs.Ytidcoodmlgmcjaa.Cl
open Go.RowKit Go.Proofs.Ytidcoodmlgmcjaa.Base Go.Proofs.Ytidcoodmlgmcjaa.Mem
/-- How many pieces of m bytes n bytes have. -/
def cnt (n m : Nat) : Nat := if n = 0 then 1 else (n + m - 1) / m
/-- The head octet of the piece i of k. -/
def hd (i k : Nat) : Nat := 1 + (if i = 0 then 128 else 0) + (if i + 1 = k then 64 else 0)
/-- A piece. -/
def mk (h : Nat) (d : ByteArray) : ByteArray := one h ++ d
def pc (s : ByteArray) (m k i : Nat) : ByteArray := mk (hd i k) (s.extract (i * m) (min s.size ((i + 1) * m)))
def pcs (s : ByteArray) (m : Nat) : List ByteArray := (List.range (cnt s.size m)).map (pc s m (cnt s.size m))
theorem pcs_len (s : ByteArray) (m : Nat) : (pcs s m).length = cnt s.size m := by unfold pcs; rw [List.length_map, List.length_range]
theorem pcs_get (s : ByteArray) (m i : Nat) (hi : i < cnt s.size m) : (pcs s m)[i]? = some (pc s m (cnt s.size m) i) := by
  unfold pcs
  rw [List.getElem?_map, List.getElem?_range hi]
  rfl
theorem cnt_pos (n m : Nat) (hm : 0 < m) : 0 < cnt n m := by
  unfold cnt
  split
  · exact Nat.one_pos
  · exact Nat.div_pos (by omega) hm
theorem cnt_lt (n m k : Nat) (hm : 0 < m) : k + 1 < cnt n m ↔ (k + 1) * m < n := by
  unfold cnt
  split
  · rename_i h
    subst h
    constructor
    · omega
    · intro h; omega
  · rename_i h
    rw [show k + 1 < (n + m - 1) / m ↔ k + 2 ≤ (n + m - 1) / m from Iff.rfl, Nat.le_div_iff_mul_le hm]
    rw [show (k + 2) * m = (k + 1) * m + m by rw [← Nat.succ_mul]]
    omega
theorem cnt_le (n m : Nat) (hm : 0 < m) : cnt n m ≤ n + 1 := by
  unfold cnt
  split
  · omega
  · refine Nat.le_trans (Nat.div_le_of_le_mul ?_) (Nat.le_succ n)
    rw [show n + m - 1 = n + (m - 1) by omega]
    have : (m - 1) * 1 ≤ (m - 1) * n := Nat.mul_le_mul_left _ (by omega)
    have h2 : m * n = (m - 1) * n + n := by
      rw [← Nat.succ_mul]; congr 1; omega
    omega
/-- Behind the last but one. -/
theorem cnt_last (n m k : Nat) (hm : 0 < m) (h1 : n ≤ (k + 1) * m) (h0 : k = 0 ∨ k * m < n) : cnt n m = k + 1 := by
  have h2 := cnt_lt n m k hm
  have h3 := cnt_pos n m hm
  have : k < cnt n m := by
    rcases h0 with rfl | h0
    · exact h3
    · cases k with
      | zero => exact h3
      | succ j => exact (cnt_lt n m j hm).2 h0
  have h4 : ¬ k + 1 < cnt n m := fun e => by have := h2.1 e; omega
  omega
theorem hd_lt (i k : Nat) : hd i k < 256 := by unfold hd; split <;> split <;> omega
theorem mk_size (h : Nat) (d : ByteArray) : (mk h d).size = d.size + 1 := by
  unfold mk
  rw [ByteArray.size_append]
  show 1 + _ = _
  omega
theorem pc_size (s : ByteArray) (m k i : Nat) : (pc s m k i).size = min s.size ((i + 1) * m) - i * m + 1 := by
  unfold pc
  rw [mk_size, ByteArray.size_extract]
  omega
/-- The element's type of these slices. -/
abbrev strV (b : ByteArray) : List Value := [.string b]
theorem eltB : Elt 9 23 1 strV :=
  ⟨Try.underlying23, ⟨.string ⟨#[]⟩, 16, by kernel_rfl, rfl, by omega⟩, fun _ => rfl, fun _ u hu => by rw [List.mem_singleton] at hu; subst hu; rfl, Nat.one_pos⟩
/-- The slice v, in memory from block 'base' on, holds these strings. -/
abbrev RowB (w : World) (base : Nat) (v : Value) (l : List ByteArray) : Prop := OwnS 9 1 strV w base v l
abbrev nm (n : Nat) : Value := .int .i64 (n : Int)
abbrev oc (n : Nat) : Value := .int .u8 (n : Int)
theorem row_cell {w : World} {base g n cap : Nat} {l : List ByteArray} (h : RowB w base (.slice (some ⟨g, 0, none⟩) n cap) l) {k : Nat} {x : ByteArray} (hk : l[k]? = some x) : w.cell? ⟨g, k, none⟩ = some (.string x) := by
  have := OwnS.cell (z := 1) (fc := strV) (fun _ => rfl) h k x hk 0 Nat.one_pos
  rw [Nat.one_mul, Nat.add_zero] at this
  exact this
theorem row_form {w : World} {base : Nat} {v : Value} {l : List ByteArray} (h : RowB w base v l) : ∃ oa cap, v = .slice oa l.length cap ∧ ∀ i, i < l.length → ∃ g, oa = some ⟨g, 0, none⟩ ∧ base ≤ g ∧ g < w.heap.size := by
  rcases h.shape with ⟨rfl, rfl⟩ | ⟨g, cap, rfl, hb⟩
  · exact ⟨none, 0, rfl, fun i hi => absurd hi (Nat.not_lt_zero i)⟩
  · exact ⟨_, cap, rfl, fun i _ => ⟨g, rfl, hb, (h.lt g rfl).2⟩⟩
theorem row_drewN {w : World} {base : Nat} {v : Value} {l : List ByteArray} (h : RowB w base v l) (n : Nat) : RowB (w.drewN n) base v l := h.below (below_drewN (Below.refl _ _) n)
theorem rows_eq (l : List ByteArray) : l.flatMap strV = l.map Value.string := by
  induction l with
  | nil => rfl
  | cons a r ih => rw [List.flatMap_cons, ih]; rfl
/-- The pieces ahead of the one k. -/
def upto (s : ByteArray) (m k : Nat) : List ByteArray := (List.range k).map (pc s m (cnt s.size m))
theorem upto_succ (s : ByteArray) (m k : Nat) : upto s m (k + 1) = upto s m k ++ [pc s m (cnt s.size m) k] := by unfold upto; rw [List.range_succ, List.map_append]; rfl
theorem upto_len (s : ByteArray) (m k : Nat) : (upto s m k).length = k := by unfold upto; rw [List.length_map, List.length_range]
theorem upto_all (s : ByteArray) (m : Nat) : upto s m (cnt s.size m) = pcs s m := rfl
/-- The octet ahead of the first bytes, and of others. -/
def hk (k : Nat) : Nat := if k = 0 then 129 else 1
/-- What is left behind k pieces. -/
def rest (s : ByteArray) (m k : Nat) : ByteArray := s.extract (k * m) s.size
theorem rest_size (s : ByteArray) (m k : Nat) : (rest s m k).size = s.size - k * m := by unfold rest; rw [ByteArray.size_extract]; omega
theorem rest_zero (s : ByteArray) (m : Nat) : rest s m 0 = s := by
  apply bext
  unfold rest
  rw [ext_drop, Nat.zero_mul, List.drop_zero]
theorem succ_mul' (k m : Nat) : (k + 1) * m = k * m + m := Nat.succ_mul k m
theorem rest_next (s : ByteArray) (m k : Nat) : (rest s m k).extract m (rest s m k).size = rest s m (k + 1) := by
  apply bext
  rw [ext_drop]
  unfold rest
  rw [ext_drop, ext_drop, List.drop_drop, succ_mul']
theorem pc_mid (s : ByteArray) (m k : Nat) (hm : 0 < m) (h : (k + 1) * m < s.size) : pc s m (cnt s.size m) k = mk (hk k) ((rest s m k).extract 0 m) := by
  have h1 := (cnt_lt s.size m k hm).2 h
  have e1 : hd k (cnt s.size m) = hk k := by
    unfold hd hk
    rw [if_neg (by omega : ¬ k + 1 = cnt s.size m)]
    split <;> rfl
  unfold pc
  rw [e1]
  congr 1
  apply bext
  rw [ext_list, ext_list, List.drop_zero]
  unfold rest
  rw [ext_drop, Nat.min_eq_right (Nat.le_of_lt h), succ_mul', List.take_drop]
theorem pc_end (s : ByteArray) (m k : Nat) (hm : 0 < m) (h1 : s.size ≤ (k + 1) * m) (h0 : k = 0 ∨ k * m < s.size) : cnt s.size m = k + 1 ∧ pc s m (cnt s.size m) k = mk (hk k + 64) (rest s m k) := by
  have h2 := cnt_last s.size m k hm h1 h0
  refine ⟨h2, ?_⟩
  have e1 : hd k (cnt s.size m) = hk k + 64 := by
    unfold hd hk
    rw [if_pos h2.symm]
    split <;> rfl
  unfold pc rest
  rw [e1, Nat.min_eq_left h1]
end Go.Proofs.Ytidcoodmlgmcjaa.Cl
