/-
  Five blocks of no status yet, made one behind another in any order: what holds of them, and a region that makes them. No condition.
-/
import Derived.Test.YtecmnkdbimalgaaMscMem
import Derived.Deep.RegionHeld
namespace Go.Proofs.Ytecmnkdbimalgaa.Msc
open Go.RowKit Go.Proofs.Ytecmnkdbimalgaa.Base Go.Proofs.Ytecmnkdbimalgaa.Mem
/-- Which of the blocks there are, and where. -/
structure Five (t : TypeId) (w0 W : World) (l : List (Option Nat)) : Prop where
  below : Below w0.heap.size w0 W
  at_ : ∀ b, some b ∈ l → w0.heap.size ≤ b ∧ W.heap[b]? = some (noO t)
  apart : ∀ (i j : Nat) (b : Nat), l[i]? = some (some b) → l[j]? = some (some b) → i = j
theorem Five.step {t : TypeId} {w0 W : World} {l : List (Option Nat)} (h : Five t w0 W l) (i : Nat) : Five t w0 (W.alloc (noO t)) (l.set i (some W.heap.size)) := by
  have old : ∀ b, some b ∈ l → b < W.heap.size := fun b hb => lt_heap (h.at_ b hb).2
  refine ⟨h.below.alloc h.below.size _, fun b hb => ?_, fun x y b hx hy => ?_⟩
  · rcases List.mem_or_eq_of_mem_set hb with hm | hm
    · exact ⟨(h.at_ b hm).1, stays (h.at_ b hm).2 ((Below.refl _ _).alloc (Nat.le_refl _) _)⟩
    · cases hm
      exact ⟨h.below.size, nest W [_] 0 _ rfl⟩
  · rw [List.getElem?_set] at hx hy
    by_cases h1 : i = x
    · by_cases h2 : i = y
      · omega
      · rw [if_neg h2] at hy
        rw [if_pos h1] at hx
        have := old b (List.mem_of_getElem? hy)
        split at hx
        · cases hx; omega
        · cases hx
    · rw [if_neg h1] at hx
      have := old b (List.mem_of_getElem? hx)
      by_cases h2 : i = y
      · rw [if_pos h2] at hy
        split at hy
        · cases hy; omega
        · cases hy
      · rw [if_neg h2] at hy
        exact h.apart x y b hx hy
theorem Five.none {t : TypeId} (w0 W : World) (h : Below w0.heap.size w0 W) : Five t w0 W [none, none, none, none, none] :=
  ⟨h, fun b hb => by simp at hb, fun i j b hi hj => by
    have := List.mem_of_getElem? hi
    simp at this⟩
def cnt (o4 o5 o6 o7 o8 : Option Nat) : Nat := o4.isNone.toNat + o5.isNone.toNat + o6.isNone.toNat + o7.isNone.toNat + o8.isNone.toNat
theorem five {P : Program} {md : Region.Mode} {ops : Array Oper} {Q : Exit → Act → World → Prop} {S : World → Prop} {t : TypeId} {w0 W0 : World}
    (L : Option Nat → Option Nat → Option Nat → Option Nat → Option Nat → Array Bool) (A : Option Nat → Option Nat → Option Nat → Option Nat → Option Nat → Act)
    (h0 : Five t w0 W0 [none, none, none, none, none])
    (hstep : ∀ m o4 o5 o6 o7 o8 W, cnt o4 o5 o6 o7 o8 = m + 1 → Five t w0 W [o4, o5, o6, o7, o8] →
      (∀ p4 p5 p6 p7 p8 W', cnt p4 p5 p6 p7 p8 = m → Five t w0 W' [p4, p5, p6, p7, p8] → wpAnyH P md ops Q S (m + 5) (L p4 p5 p6 p7 p8) (A p4 p5 p6 p7 p8) W') →
      wpAnyH P md ops Q S (m + 5 + 1) (L o4 o5 o6 o7 o8) (A o4 o5 o6 o7 o8) W)
    (hend : ∀ b4 b5 b6 b7 b8 W, Five t w0 W [some b4, some b5, some b6, some b7, some b8] → wpAnyH P md ops Q S 5 (L (some b4) (some b5) (some b6) (some b7) (some b8)) (A (some b4) (some b5) (some b6) (some b7) (some b8)) W) :
    wpAnyH P md ops Q S 10 (L none none none none none) (A none none none none none) W0 := by
  have all : ∀ m o4 o5 o6 o7 o8 W, cnt o4 o5 o6 o7 o8 = m → Five t w0 W [o4, o5, o6, o7, o8] → wpAnyH P md ops Q S (m + 5) (L o4 o5 o6 o7 o8) (A o4 o5 o6 o7 o8) W := by
    intro m
    induction m with
    | zero =>
      intro o4 o5 o6 o7 o8 W hc hG
      match o4, o5, o6, o7, o8, hc, hG with
      | some b4, some b5, some b6, some b7, some b8, _, hG => exact hend b4 b5 b6 b7 b8 W hG
    | succ m ih =>
      intro o4 o5 o6 o7 o8 W hc hG
      have := hstep m o4 o5 o6 o7 o8 W hc hG ih
      rw [show m + 1 + 5 = m + 5 + 1 by omega]
      exact this
  exact all 5 none none none none none W0 rfl h0
end Go.Proofs.Ytecmnkdbimalgaa.Msc
