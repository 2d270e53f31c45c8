/-
  The two partitions, in plain words: what the two counters leave behind them. And how sorted parts make a sorted whole. No condition.
-/
import Derived.Test.YtcadeoolacoidaaSrtMem
namespace Go.Proofs.Ytcadeoolacoidaa.Srt
open Go.Sort (SWO PermIn SortedIn swp size_swp swp_get swp_permIn permIn_refl permIn_trans permIn_mono permIn_all sorted_glue sorted_glue_eq)
/-- Behind i (above a) all are P to the pivot at a, behind j all are Q to it. -/
structure Part (P Q : Nat → Nat → Prop) (a b : Nat) (d1 : Array Nat) (i j : Nat) (dk : Array Nat) : Prop where
  perm : PermIn (a + 1) b d1 dk
  sz : b ≤ dk.size
  ai : a < i
  ij : i ≤ j + 1
  jb : j < b
  lo : ∀ k, a < k → k < i → P dk[k]! dk[a]!
  hi : ∀ k, j < k → k < b → Q dk[k]! dk[a]!
section
variable {P Q : Nat → Nat → Prop} {a b i j : Nat} {d1 dk : Array Nat}
theorem part_start (h : a < b) (hs : b ≤ d1.size) : Part P Q a b d1 (a + 1) (b - 1) d1 :=
  ⟨permIn_refl _ _ _, hs, by omega, by omega, by omega, fun k h1 h2 => by omega, fun k h1 h2 => by omega⟩
theorem Part.up (h : Part P Q a b d1 i j dk) (hij : i ≤ j) (hp : P dk[i]! dk[a]!) : Part P Q a b d1 (i + 1) j dk :=
  ⟨h.perm, h.sz, by have := h.ai; omega, by omega, h.jb, fun k h1 h2 => by
    by_cases e : k = i
    · rw [e]; exact hp
    · exact h.lo k h1 (by omega), h.hi⟩
theorem Part.down (h : Part P Q a b d1 i (j + 1) dk) (hij : i ≤ j + 1) (hq : Q dk[j + 1]! dk[a]!) : Part P Q a b d1 i j dk :=
  ⟨h.perm, h.sz, h.ai, hij, by have := h.jb; omega, h.lo, fun k h1 h2 => by
    by_cases e : k = j + 1
    · rw [e]; exact hq
    · exact h.hi k (by omega) h2⟩
theorem Part.swap (h : Part P Q a b d1 i (j + 1) dk) (hij : i < j + 1) (hp : P dk[j + 1]! dk[a]!) (hq : Q dk[i]! dk[a]!) : Part P Q a b d1 (i + 1) j (swp dk i (j + 1)) := by
  have hai := h.ai
  have hjb := h.jb
  have hsz := h.sz
  have g := swp_get dk (i := i) (j := j + 1) (by omega) (by omega)
  have ga : (swp dk i (j + 1))[a]! = dk[a]! := by rw [g, if_neg (by omega), if_neg (by omega)]
  refine ⟨permIn_trans _ _ _ _ _ h.perm (swp_permIn dk (a + 1) b i (j + 1) (by omega) (by omega) (by omega) hjb hsz), by rw [size_swp]; exact hsz, by omega, by omega, by omega, fun k h1 h2 => ?_, fun k h1 h2 => ?_⟩
  · rw [ga, g, if_neg (by omega)]
    by_cases e : k = i
    · rw [if_pos e]; exact hp
    · rw [if_neg e]; exact h.lo k h1 (by omega)
  · rw [ga, g]
    by_cases e : k = j + 1
    · rw [if_pos e]; exact hq
    · rw [if_neg e, if_neg (by omega)]; exact h.hi k (by omega) h2
end
/-- What partition leaves: a pivot in its place. -/
structure Parted (a b : Nat) (d dk : Array Nat) (mid : Nat) : Prop where
  ge : a ≤ mid
  lt : mid < b
  perm : PermIn a b d dk
  lo : ∀ k, a ≤ k → k < mid → lt8 dk[k]! dk[mid]! = true
  hi : ∀ k, mid < k → k < b → lt8 dk[k]! dk[mid]! = false
theorem part_end {a b p j : Nat} {d dk : Array Nat} (hp1 : a ≤ p) (hp2 : p < b) (hb : b ≤ d.size) (h : Part (fun x y => lt8 x y = true) (fun x y => lt8 x y = false) a b (swp d a p) (j + 1) j dk) : Parted a b d (swp dk j a) j := by
  have hai := h.ai
  have hjb := h.jb
  have hsz := h.sz
  have g := swp_get dk (i := j) (j := a) (by omega) (by omega)
  have e : (swp dk j a)[j]! = dk[a]! := by
    rw [g]
    by_cases e : j = a
    · rw [if_pos e, e]
    · rw [if_neg e, if_pos rfl]
  refine ⟨by omega, hjb, ?_, fun k h1 h2 => ?_, fun k h1 h2 => ?_⟩
  · refine permIn_trans _ _ _ a b (swp_permIn d a b a p (Nat.le_refl _) (by omega) hp1 hp2 hb) ?_
    refine permIn_trans _ _ _ a b (permIn_mono _ _ (a + 1) b a b (by omega) (Nat.le_refl _) (by rw [size_swp]; exact hb) h.perm) ?_
    exact swp_permIn dk a b j a (by omega) hjb (Nat.le_refl _) (by omega) hsz
  · rw [e, g]
    by_cases ek : k = a
    · rw [if_pos ek]; exact h.lo j (by omega) (by omega)
    · rw [if_neg ek, if_neg (by omega)]; exact h.lo k (by omega) (by omega)
  · rw [e, g, if_neg (by omega), if_neg (by omega)]; exact h.hi k h1 h2
/-- What partitionEqual leaves: ahead of mid nothing that is more than the pivot, behind it all is. -/
structure PartedEq (a b : Nat) (d : Array Nat) (v : Nat) (dk : Array Nat) (mid : Nat) : Prop where
  gt : a < mid
  le : mid ≤ b
  perm : PermIn a b d dk
  lo : ∀ k, a ≤ k → k < mid → lt8 v dk[k]! = false
  hi : ∀ k, mid ≤ k → k < b → lt8 v dk[k]! = true
theorem parteq_end {a b p j : Nat} {d dk : Array Nat} (hp1 : a ≤ p) (hp2 : p < b) (hb : b ≤ d.size) (h : Part (fun x y => lt8 y x = false) (fun x y => lt8 y x = true) a b (swp d a p) (j + 1) j dk) : PartedEq a b d d[p]! dk (j + 1) := by
  have hai := h.ai
  have hjb := h.jb
  have ea : dk[a]! = d[p]! := by
    rw [h.perm.2.1 a (Or.inl (by omega)), swp_get d (by omega) (by omega)]
    by_cases e : a = p
    · rw [if_pos e, e]
    · rw [if_neg e, if_pos rfl]
  refine ⟨hai, by omega, ?_, fun k h1 h2 => ?_, fun k h1 h2 => ?_⟩
  · exact permIn_trans _ _ _ a b (swp_permIn d a b a p (Nat.le_refl _) (by omega) hp1 hp2 hb) (permIn_mono _ _ (a + 1) b a b (by omega) (Nat.le_refl _) (by rw [size_swp]; exact hb) h.perm)
  · by_cases e : k = a
    · rw [e, ea]; exact swo8.irrefl _
    · rw [← ea]; exact h.lo k (by omega) h2
  · rw [← ea]; exact h.hi k (by omega) h2
/-- Sorted between a and b, and a permutation there. -/
def Srtd (a b : Nat) (d R : Array Nat) : Prop := PermIn a b d R ∧ SortedIn lt8 a b R
/-- Nothing between a and b is less than what lies ahead of a. -/
def Low (a b : Nat) (d : Array Nat) : Prop := Go.Sort.Below lt8 a b d
theorem Low.perm {a b : Nat} {d d' : Array Nat} (h : Low a b d) (hb : b ≤ d.size) (hp : PermIn a b d d') : Low a b d' := Go.Sort.Below.perm h hb hp
section
variable {a b mid : Nat} {d dk L R : Array Nat}
theorem Parted.low (h : Parted a b d dk mid) (hb : b ≤ d.size) (hl : Low a b d) : Low a mid dk ∧ Low (mid + 1) b dk := by
  have := h.lt
  refine ⟨Go.Sort.Below.mono (hl.perm hb h.perm) (by omega), Or.inr fun k h1 h2 => ?_⟩
  rw [Nat.add_sub_cancel]
  exact h.hi k (by omega) h2
theorem glued (hp : PermIn a b d R) (hl : ∀ k, a ≤ k → k < mid → lt8 R[k]! dk[mid]! = true) (he : R[mid]! = dk[mid]!) (hr : ∀ k, mid < k → k < b → lt8 R[k]! dk[mid]! = false)
    (h1 : SortedIn lt8 a mid R) (h2 : SortedIn lt8 (mid + 1) b R) : Srtd a b d R :=
  ⟨hp, sorted_glue swo8 h1 h2 (fun k a1 a2 => by rw [he]; exact hl k a1 a2) (fun k a1 a2 => by rw [he]; exact hr k a1 a2)⟩
/-- First the left part is sorted, then the right one. -/
theorem Parted.left (h : Parted a b d dk mid) (hb : b ≤ d.size) (hL : Srtd a mid dk L) : Low (mid + 1) b L ∧ ∀ R, Srtd (mid + 1) b L R → Srtd a b d R := by
  have h1 := h.ge
  have h2 := h.lt
  have sk : b ≤ dk.size := by rw [h.perm.1]; exact hb
  have sL : b ≤ L.size := by rw [hL.1.1]; exact sk
  have eL : ∀ k, mid ≤ k → L[k]! = dk[k]! := fun k hk => hL.1.2.1 k (Or.inr hk)
  have lL := permIn_all dk L a mid (fun x => lt8 x dk[mid]! = true) (by omega) hL.1 h.lo
  refine ⟨Or.inr fun k a1 a2 => by rw [Nat.add_sub_cancel, eL k (by omega), eL mid (Nat.le_refl _)]; exact h.hi k (by omega) a2, fun R hR => ?_⟩
  have eR : ∀ k, k ≤ mid → R[k]! = L[k]! := fun k hk => hR.1.2.1 k (Or.inl (by omega))
  have hR2 := permIn_all L R (mid + 1) b (fun x => lt8 x dk[mid]! = false) sL hR.1 (fun k a1 a2 => by rw [eL k (by omega)]; exact h.hi k (by omega) a2)
  refine glued ?_ (fun k a1 a2 => by rw [eR k (by omega)]; exact lL k a1 a2) (by rw [eR mid (Nat.le_refl _), eL mid (Nat.le_refl _)]) (fun k a1 a2 => hR2 k (by omega) a2) ?_ hR.2
  · exact permIn_trans _ _ _ a b h.perm (permIn_trans _ _ _ a b (permIn_mono _ _ a mid a b (Nat.le_refl _) (by omega) sk hL.1) (permIn_mono _ _ (mid + 1) b a b (by omega) (Nat.le_refl _) sL hR.1))
  · intro x y a1 a2 a3
    rw [eR x (by omega), eR y (by omega)]
    exact hL.2 x y a1 a2 a3
/-- First the right part, then the left one. -/
theorem Parted.right (h : Parted a b d dk mid) (hb : b ≤ d.size) (hl : Low a b d) (hL : Srtd (mid + 1) b dk L) : Low a mid L ∧ ∀ R, Srtd a mid L R → Srtd a b d R := by
  have h1 := h.ge
  have h2 := h.lt
  have sk : b ≤ dk.size := by rw [h.perm.1]; exact hb
  have sL : b ≤ L.size := by rw [hL.1.1]; exact sk
  have eL : ∀ k, k ≤ mid → L[k]! = dk[k]! := fun k hk => hL.1.2.1 k (Or.inl (by omega))
  have rL := permIn_all dk L (mid + 1) b (fun x => lt8 x dk[mid]! = false) sk hL.1 (fun k a1 a2 => h.hi k (by omega) a2)
  refine ⟨?_, fun R hR => ?_⟩
  · rcases (h.low hb hl).1 with h0 | h0
    · exact Or.inl h0
    · by_cases ha : a = 0
      · exact Or.inl ha
      · exact Or.inr fun k a1 a2 => by rw [eL k (by omega), eL (a - 1) (by omega)]; exact h0 k a1 a2
  · have eR : ∀ k, mid ≤ k → R[k]! = L[k]! := fun k hk => hR.1.2.1 k (Or.inr hk)
    have hR2 := permIn_all L R a mid (fun x => lt8 x dk[mid]! = true) (by omega) hR.1 (fun k a1 a2 => by rw [eL k (by omega)]; exact h.lo k a1 a2)
    refine glued ?_ hR2 (by rw [eR mid (Nat.le_refl _), eL mid (Nat.le_refl _)]) (fun k a1 a2 => by rw [eR k (by omega)]; exact rL k (by omega) a2) hR.2 ?_
    · exact permIn_trans _ _ _ a b h.perm (permIn_trans _ _ _ a b (permIn_mono _ _ (mid + 1) b a b (by omega) (Nat.le_refl _) sk hL.1) (permIn_mono _ _ a mid a b (Nat.le_refl _) (by omega) sL hR.1))
    · intro x y a1 a2 a3
      rw [eR x (by omega), eR y (by omega)]
      exact hL.2 x y a1 a2 a3
/-- Behind partitionEqual only the right part is still to be sorted. -/
theorem PartedEq.rest {v : Nat} (h : PartedEq a b d v dk mid) (hb : b ≤ d.size) (hv : ∀ k, a ≤ k → k < b → lt8 d[k]! v = false) : Low mid b dk ∧ ∀ R, Srtd mid b dk R → Srtd a b d R := by
  have h1 := h.gt
  have h2 := h.le
  have sk : b ≤ dk.size := by rw [h.perm.1]; exact hb
  have vk := permIn_all d dk a b (fun x => lt8 x v = false) hb h.perm hv
  refine ⟨Or.inr fun k a1 a2 => ?_, fun R hR => ⟨permIn_trans _ _ _ a b h.perm (permIn_mono _ _ mid b a b (by omega) (Nat.le_refl _) sk hR.1), ?_⟩⟩
  · have p1 := h.hi k a1 a2
    have p2 := h.lo (mid - 1) (by omega) (by omega)
    simp only [lt8, decide_eq_true_eq, decide_eq_false_iff_not] at p1 p2 ⊢
    omega
  · refine sorted_glue_eq swo8 v hR.2 (fun k a1 a2 => ?_) (fun k a1 a2 => ?_) (permIn_all dk R mid b (fun x => lt8 v x = true) sk hR.1 h.hi)
    · rw [hR.1.2.1 k (Or.inl a2)]; exact h.lo k a1 a2
    · rw [hR.1.2.1 k (Or.inl a2)]; exact vk k a1 (by omega)
end
end Go.Proofs.Ytcadeoolacoidaa.Srt
