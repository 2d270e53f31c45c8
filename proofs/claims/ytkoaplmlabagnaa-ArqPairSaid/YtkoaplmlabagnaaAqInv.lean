/-
  A side stays in order, whatever is called of it. No condition but that it was in order.
-/
import Derived.Test.YtkoaplmlabagnaaAqPm1
namespace Go.Proofs.Ytkoaplmlabagnaa.Aq
open Go.Proofs.Ytkoaplmlabagnaa.Base Go.Proofs.Ytkoaplmlabagnaa.Mem
/-- A side's numbers stand as they must, but for what is counted. -/
structure Pre (N : Nat) (x : Sd) : Prop where
  n2 : x.n2 ≤ 255
  t1 : x.t1 ≤ 255
  t1p : 1 ≤ x.t1
  lft : x.lf ≤ x.t1
  tr : x.tr ≤ x.n2 + 1
  trf : x.fl = false → x.tr ≤ x.n2
  k : x.k ≤ 7
  hs : x.a ≤ x.s
  sT : x.s ≤ x.T
  tp : x.T ≤ x.p.length
  pk : x.p.length ≤ x.a + x.k
  few : x.p.length ≤ N
  g : x.g ≤ N
structure Inv (N : Nat) (x : Sd) : Prop extends Pre N x where
  cn : x.fl = false → (counts x = true ↔ 0 < x.lf)
section
variable {N : Nat} {x : Sd}
theorem Pre.more (h : Pre N x) {M : Nat} (hm : N ≤ M) : Pre M x := ⟨h.n2, h.t1, h.t1p, h.lft, h.tr, h.trf, h.k, h.hs, h.sT, h.tp, h.pk, Nat.le_trans h.few hm, Nat.le_trans h.g hm⟩
theorem Inv.more (h : Inv N x) {M : Nat} (hm : N ≤ M) : Inv M x := ⟨h.toPre.more hm, h.cn⟩
theorem Inv.ord (h : Inv N x) : Ord x := ⟨h.hs, h.sT, h.tp, h.pk, h.k, h.t1p, h.cn⟩
theorem Inv.fit (h : Inv N x) (hN : N ≤ 1000000) : Fit x :=
  ⟨h.k, h.n2, h.t1, h.t1p, h.hs, h.sT, h.tp, h.pk, Nat.le_trans h.few hN, Nat.le_trans h.g hN, by have := h.tr; have := h.n2; omega, by have := h.lft; have := h.t1; omega⟩
theorem Inv.pfit (h : Inv N x) : PFit (Ps.of x) := by
  have h1 := h.hs
  have h2 := h.sT
  have h3 := h.tp
  have h4 := h.pk
  have h5 := h.k
  have h6 := h.tr
  have h7 := h.n2
  have h8 := h.lft
  have h9 := h.t1
  constructor <;> (unfold Ps.of; dsimp only) <;> (try rw [List.length_drop]) <;> omega
theorem counts_lf (x : Sd) (l : Nat) : counts { x with lf := l } = counts x := rfl
theorem cnt_inv (b : Bool) (h : Pre N x) (hf : x.fl = false) : Inv N (cnt b x) := by
  unfold cnt
  rw [if_neg (by rw [hf]; decide)]
  by_cases hc : counts x = true
  · rw [if_pos hc]
    by_cases hl : x.lf = 0 ∨ b = true
    · rw [if_pos hl]
      exact ⟨⟨h.n2, h.t1, h.t1p, Nat.le_refl _, h.tr, h.trf, h.k, h.hs, h.sT, h.tp, h.pk, h.few, h.g⟩, fun _ => ⟨fun _ => h.t1p, fun _ => hc⟩⟩
    · rw [if_neg hl]
      exact ⟨h, fun _ => ⟨fun _ => by have := fun e => hl (Or.inl e); omega, fun _ => hc⟩⟩
  · rw [if_neg hc]
    exact ⟨⟨h.n2, h.t1, h.t1p, Nat.zero_le _, h.tr, h.trf, h.k, h.hs, h.sT, h.tp, h.pk, h.few, h.g⟩, fun _ => ⟨fun e => absurd e hc, fun e => absurd e (Nat.lt_irrefl 0)⟩⟩
theorem new_inv (k n2 t1 : Nat) (h1 : k ≤ 7) (h2 : n2 ≤ 255) (h3 : t1 ≤ 255) (h4 : 1 ≤ t1) : Inv 0 (new k n2 t1) :=
  ⟨⟨h2, h3, h4, Nat.zero_le _, Nat.zero_le _, fun _ => Nat.zero_le _, h1, Nat.le_refl _, Nat.le_refl _, Nat.le_refl _, Nat.zero_le _, Nat.le_refl _, Nat.le_refl _⟩, fun _ => ⟨fun e => by simp [counts, new] at e, fun e => absurd e (Nat.lt_irrefl 0)⟩⟩
theorem push_inv (i : ByteArray) (h : Inv N x) : Inv (N + 1) (push i x).1 := by
  unfold push
  split
  · exact h.more (Nat.le_succ N)
  split
  · exact h.more (Nat.le_succ N)
  · rename_i hf hk
    have h1 := h.pk
    have h2 := h.tp
    have h3 := h.sT
    have h4 := h.hs
    refine cnt_inv false ⟨h.n2, h.t1, h.t1p, h.lft, h.tr, h.trf, h.k, h.hs, h.sT, ?_, ?_, ?_, Nat.le_succ_of_le h.g⟩ (by simpa using hf)
    · show x.T ≤ (x.p ++ [i]).length
      rw [List.length_append]; omega
    · show (x.p ++ [i]).length ≤ x.a + x.k
      rw [List.length_append, List.length_singleton]; omega
    · show (x.p ++ [i]).length ≤ N + 1
      have := h.few
      rw [List.length_append, List.length_singleton]; omega
theorem next_inv (h : Inv N x) : Inv N (next x).1 := by
  unfold next
  split
  · exact h
  rename_i hf
  have hf : x.fl = false := by simpa using hf
  split
  · exact cnt_inv false ⟨h.n2, h.t1, h.t1p, h.lft, h.tr, h.trf, h.k, h.hs, h.sT, h.tp, h.pk, h.few, h.g⟩ hf
  split
  · exact cnt_inv false ⟨h.n2, h.t1, h.t1p, h.lft, h.tr, h.trf, h.k, h.hs, h.sT, h.tp, h.pk, h.few, h.g⟩ hf
  split
  · rename_i hm
    have hm2 : x.s < x.p.length := by
      unfold more at hm
      simp only [Bool.and_eq_true, decide_eq_true_eq] at hm
      exact hm.2
    have h1 := h.hs
    have h2 := h.tp
    refine cnt_inv false ⟨h.n2, h.t1, h.t1p, h.lft, h.tr, h.trf, h.k, ?_, ?_, ?_, h.pk, h.few, h.g⟩ hf
    · show x.a ≤ x.s + 1; omega
    · show x.s + 1 ≤ max x.T (x.s + 1); omega
    · show max x.T (x.s + 1) ≤ x.p.length; omega
  · exact h
theorem setBusy_inv (b : Bool) (h : Inv N x) : Inv N (setBusy b x) := by
  unfold setBusy
  split
  · exact h
  · rename_i hf
    exact cnt_inv false ⟨h.n2, h.t1, h.t1p, h.lft, h.tr, h.trf, h.k, h.hs, h.sT, h.tp, h.pk, h.few, h.g⟩ (by simpa using fun e => hf (Or.inl e))
theorem setWant_inv (b : Bool) (h : Inv N x) : Inv N (setWant b x) := by
  unfold setWant
  split
  · exact h
  · rename_i hf
    exact cnt_inv false ⟨h.n2, h.t1, h.t1p, h.lft, h.tr, h.trf, h.k, h.hs, h.sT, h.tp, h.pk, h.few, h.g⟩ (by simpa using hf)
theorem tick_inv (h : Inv N x) : Inv N (tick x).1 := by
  have h1 := h.lft
  have h2 := h.tr
  unfold tick
  split
  · exact h
  rename_i hf
  have hfl : x.fl = false := by simpa using fun e => hf (Or.inl e)
  have hl0 : x.lf ≠ 0 := fun e => hf (Or.inr e)
  have h3 := h.trf hfl
  split
  · rename_i hl
    refine ⟨⟨h.n2, h.t1, h.t1p, ?_, h.tr, h.trf, h.k, h.hs, h.sT, h.tp, h.pk, h.few, h.g⟩, fun _ => ⟨fun _ => ?_, fun _ => ?_⟩⟩
    · show x.lf - 1 ≤ x.t1; omega
    · show 0 < x.lf - 1; omega
    · exact (h.cn hfl).2 (by omega)
  · dsimp only
    have htr : (if x.a < x.s ∨ x.ak = true then x.tr + 1 else x.tr) ≤ x.tr + 1 := by split <;> omega
    generalize (if x.a < x.s ∨ x.ak = true then x.tr + 1 else x.tr) = tr at htr
    split
    · refine ⟨⟨h.n2, h.t1, h.t1p, Nat.zero_le _, ?_, (fun e => by cases e), h.k, h.hs, h.sT, h.tp, h.pk, h.few, h.g⟩, (fun e => by cases e)⟩
      show tr ≤ x.n2 + 1; omega
    · rename_i hn
      refine ⟨⟨h.n2, h.t1, h.t1p, Nat.le_refl _, ?_, fun _ => ?_, h.k, h.hs, h.sT, h.tp, h.pk, h.few, h.g⟩, fun _ => ⟨fun _ => h.t1p, fun _ => ?_⟩⟩
      · show tr ≤ x.n2 + 1; omega
      · show tr ≤ x.n2; omega
      · simp [counts]
theorem hears_pre (f : Fm) (n : Nat) (h : Inv N x) (hn : x.a ≤ n) (ht : n ≤ x.T) : Pre N (hear4 f (hear3 f (hear2 f (hear1 n x)))) := by
  have h1 := h.hs
  have h2 := h.sT
  have h3 := h.pk
  have h4 := h.tr
  have p1 : Pre N (hear1 n x) := by
    refine ⟨h.n2, h.t1, h.t1p, h.lft, ?_, fun e => ?_, h.k, ?_, ?_, h.tp, ?_, h.few, h.g⟩
    · show (if x.a < n then 0 else x.tr) ≤ x.n2 + 1; split <;> omega
    · show (if x.a < n then 0 else x.tr) ≤ x.n2
      have := h.trf e
      split <;> omega
    · show n ≤ max x.s n; omega
    · show max x.s n ≤ x.T; omega
    · show x.p.length ≤ n + x.k; omega
  generalize hear1 n x = y at p1
  have p2 : Pre N (hear2 f y) := by
    unfold hear2
    split
    · exact ⟨p1.n2, p1.t1, p1.t1p, p1.lft, p1.tr, p1.trf, p1.k, Nat.le_refl _, Nat.le_trans p1.hs p1.sT, p1.tp, p1.pk, p1.few, p1.g⟩
    · exact p1
  generalize hear2 f y = z at p2
  have p3 : Pre N (hear3 f z) := by
    unfold hear3
    split
    · exact ⟨p2.n2, p2.t1, p2.t1p, p2.lft, p2.tr, p2.trf, p2.k, p2.hs, p2.sT, p2.tp, p2.pk, p2.few, p2.g⟩
    · exact p2
  generalize hear3 f z = u at p3
  unfold hear4
  split
  · exact ⟨p3.n2, p3.t1, p3.t1p, p3.lft, Nat.zero_le _, fun _ => Nat.zero_le _, p3.k, Nat.le_refl _, Nat.le_trans p3.hs p3.sT, p3.tp, p3.pk, p3.few, p3.g⟩
  · exact p3
theorem take_pre (f : Fm) (m : Am) (h : Pre N x) : Pre (N + 1) (take f x m).1 := by
  have hm := h.more (Nat.le_succ N)
  unfold take
  split
  · split
    · exact ⟨hm.n2, hm.t1, hm.t1p, hm.lft, hm.tr, hm.trf, hm.k, hm.hs, hm.sT, hm.tp, hm.pk, hm.few, hm.g⟩
    · exact hm
  split
  · exact ⟨hm.n2, hm.t1, hm.t1p, hm.lft, hm.tr, hm.trf, hm.k, hm.hs, hm.sT, hm.tp, hm.pk, hm.few, hm.g⟩
  · exact ⟨hm.n2, hm.t1, hm.t1p, hm.lft, hm.tr, hm.trf, hm.k, hm.hs, hm.sT, hm.tp, hm.pk, hm.few, by show x.g + 1 ≤ N + 1; have := h.g; omega⟩
theorem hear5_pre (f : Fm) (h : Pre N x) : Pre N (hear5 f x) := by
  unfold hear5
  split
  · exact ⟨h.n2, h.t1, h.t1p, h.lft, h.tr, h.trf, h.k, h.hs, h.sT, h.tp, h.pk, h.few, h.g⟩
  · exact h
theorem hear_inv (f : Fm) (h : Inv N x) : Inv (N + 1) (hear f x).1 := by
  unfold hear
  split
  · exact h.more (Nat.le_succ N)
  rename_i hf
  have hfl : x.fl = false := by simpa using fun e => hf (Or.inl e)
  have hk : f.k = 7 ∨ f.k = 8 ∨ f.k = 9 ∨ f.k = 10 := by have := fun e => hf (Or.inr e); omega
  rw [ackd_far x h.ord]
  split
  · rename_i hs
    exact ⟨⟨h.n2, h.t1, h.t1p, Nat.zero_le _, h.tr, fun e => (by cases e), h.k, h.hs, h.sT, h.tp, h.pk, Nat.le_succ_of_le h.few, Nat.le_succ_of_le h.g⟩, fun e => (by cases e)⟩
  · rename_i n hs
    split at hs
    · cases hs
    · rename_i hl
      have hn := Option.some.inj hs
      have h1 := h.hs
      have h2 := h.sT
      have p := hears_pre f n h (by omega) (by omega)
      have e3 := (kinds_of f (hear1 n x) (n - x.a) hk).2.2
      dsimp only at e3 ⊢
      refine cnt_inv _ (hear5_pre f ?_) (e3.trans hfl)
      split
      · exact take_pre f _ p
      · exact p.more (Nat.le_succ N)
end
end Go.Proofs.Ytkoaplmlabagnaa.Aq
