/-
  The library's sort over octets: what the row holds in a world that the sort passes through. No condition.
-/
import Derived.Test.YtcadeoolacoidaaChg
import Derived.Sort.LotA
import Derived.Sort.LotB
import Derived.Sort.LotC
import Derived.Sort.LotD3
import Derived.BigRegion
namespace Go.Proofs.Ytcadeoolacoidaa.Srt
open Go.RowKit Go.Proofs.Ytcadeoolacoidaa.Base Go.Proofs.Ytcadeoolacoidaa.Mem
open Go.Sort (SWO PermIn SortedIn swp size_swp)
/-- An octet of the row; its order. -/
abbrev num (x : Nat) : Value := .int .u8 (x : Int)
def lt8 (x y : Nat) : Bool := decide (x < y)
theorem swo8 : SWO lt8 where
  irrefl x := by simp [lt8]
  trans x y z := by simp only [lt8, decide_eq_true_eq]; omega
  ntrans x y z := by simp only [lt8, decide_eq_false_iff_not]; omega
theorem wrap_nat (k : Nat) (h : k ≤ 4000000) : IntKind.i64.wrap (k : Int) = (k : Int) := by rw [IntKind.wrap_i64]; omega
/-- The row (block blk) holds d, and all else is as it was in w0, but for new blocks. -/
structure Sx (w0 : World) (blk e : Nat) (rest : Array Value) (n : Nat) (d : Array Nat) (W : World) : Prop where
  size : d.size = n
  row : W.heap[blk]? = some (.cells (d.map num ++ rest) e)
  oth : Chg (fun k => k = blk) w0 W
section
variable {w0 W W' : World} {blk e : Nat} {rest : Array Value} {n : Nat} {d : Array Nat}
theorem get_eq (d : Array Nat) (j : Nat) (h : j < d.size) : d[j]! = d[j] := getElem!_pos d j h
theorem Sx.at (h : Sx w0 blk e rest n d W) {j : Nat} (hj : j < n) : (d.map num ++ rest)[j]? = some (num d[j]!) := by
  have hs := h.size
  rw [Array.getElem?_append_left (by rw [Array.size_map]; omega), Array.getElem?_map, Array.getElem?_eq_getElem (by omega), get_eq d j (by omega)]
  rfl
theorem Sx.cell (h : Sx w0 blk e rest n d W) {j : Nat} (hj : j < n) : W.cell? ⟨blk, j, none⟩ = some (num d[j]!) := cell_of h.row (h.at hj)
theorem Sx.free (h : Sx w0 blk e rest n d W) (j : Nat) : W.frozen? ⟨blk, j, none⟩ = false := free_of h.row
theorem Sx.lt (h : Sx w0 blk e rest n d W) : blk < W.heap.size := lt_heap h.row
theorem Sx.drewN (h : Sx w0 blk e rest n d W) (m : Nat) : Sx w0 blk e rest n d (W.drewN m) := ⟨h.size, h.row, h.oth.drewN m⟩
theorem Sx.drew (h : Sx w0 blk e rest n d W) : Sx w0 blk e rest n d W.drew := ⟨h.size, h.row, h.oth.drew⟩
theorem Sx.below (h : Sx w0 blk e rest n d W) (hb : Below W.heap.size W W') : Sx w0 blk e rest n d W' := ⟨h.size, stays h.row hb, h.oth.on hb⟩
theorem Sx.alloc (h : Sx w0 blk e rest n d W) (o : Obj) : Sx w0 blk e rest n d (W.alloc o) := h.below ((Below.refl _ _).alloc (Nat.le_refl _) o)
theorem set_row (d : Array Nat) (rest : Array Value) (i x : Nat) (hi : i < d.size) : (d.map num ++ rest).setIfInBounds i (num x) = (d.setIfInBounds i x).map num ++ rest := by
  apply Array.ext_getElem?
  intro k
  rw [Array.getElem?_setIfInBounds]
  by_cases hk : i = k
  · subst hk
    rw [if_pos rfl, if_pos (by rw [Array.size_append, Array.size_map]; omega), Array.getElem?_append_left (by simpa using hi), Array.getElem?_map, Array.getElem?_setIfInBounds, if_pos rfl, if_pos hi]
    rfl
  · rw [if_neg hk]
    by_cases hd : k < d.size
    · rw [Array.getElem?_append_left (by simpa using hd), Array.getElem?_append_left (by simpa using hd), Array.getElem?_map, Array.getElem?_map, Array.getElem?_setIfInBounds, if_neg hk]
    · rw [Array.getElem?_append_right (by simpa using hd), Array.getElem?_append_right (by simpa using hd)]
      simp
theorem Sx.put (h : Sx w0 blk e rest n d W) (i x : Nat) (hi : i < n) : Sx w0 blk e rest n (d.setIfInBounds i x) (W.setCell ⟨blk, i, none⟩ (num x)) :=
  ⟨by simpa using h.size, by rw [block_set h.row, set_row d rest i x (by rw [h.size]; exact hi)], h.oth.setCell blk i _ fun _ => rfl⟩
/-- Two places are exchanged. -/
theorem Sx.swap (h : Sx w0 blk e rest n d W) {i j x y : Nat} (hi : i < n) (hj : j < n) (hx : x = d[j]!) (hy : y = d[i]!) :
    Sx w0 blk e rest n (swp d i j) ((W.setCell ⟨blk, i, none⟩ (num x)).setCell ⟨blk, j, none⟩ (num y)) := by
  subst hx hy
  exact (h.put i _ hi).put j _ hj
theorem Sx.cell2 (h : Sx w0 blk e rest n d W) (i x : Nat) {j : Nat} (hi : i < n) (hj : j < n) : ∃ u, (W.setCell ⟨blk, i, none⟩ (num x)).cell? ⟨blk, j, none⟩ = some (num u) := ⟨_, (h.put i x hi).cell hj⟩
theorem Sx.free2 (h : Sx w0 blk e rest n d W) (i x : Nat) {j : Nat} (hi : i < n) : (W.setCell ⟨blk, i, none⟩ (num x)).frozen? ⟨blk, j, none⟩ = false := (h.put i x hi).free j
end
end Go.Proofs.Ytcadeoolacoidaa.Srt
