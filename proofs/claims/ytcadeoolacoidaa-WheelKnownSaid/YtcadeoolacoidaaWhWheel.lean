/-
  A wheel as its user sees it: how many ticks each timer has left. What Count, Left and New answer. Condition: 1 to 256 slots.
-/
import Derived.Test.YtcadeoolacoidaaWhNew
namespace Go.Proofs.Ytcadeoolacoidaa.Wh
open Go.RowKit Go.Proofs.Ytcadeoolacoidaa.Base Go.Proofs.Ytcadeoolacoidaa.Mem
/-- The rows hold the keys, each in its slot's row. -/
structure Lg (n hand : Nat) (f : Nat → Nat) (L : Nat → List Nat) (ks : List Nat) : Prop where
  a : hand < n
  km : ∀ k, k ∈ ks ↔ k < 256 ∧ 0 < f k
  nd : ∀ s, s < n → (L s).Nodup
  lm : ∀ s, s < n → ∀ k, k ∈ L s ↔ k ∈ ks ∧ (hand + f k) % n = s
/-- A wheel of n slots at block pb; B: the blocks that are its own. -/
structure Whl (w : World) (pb n : Nat) (f : Nat → Nat) (B : Nat → Prop) : Prop where
  n1 : 1 ≤ n
  n2 : n ≤ 256
  fmax : ∀ k, f k ≤ 65535
  lt : ∀ b, B b → b < w.heap.size
  ex : ∃ hand rb mb vs L E ks, Hp w pb n hand rb mb vs L E (fun k => (hand + f k) % n) (fun k => (f k - 1) / n) ks n ∧ Lg n hand f L ks ∧ ∀ b, Own pb n rb mb vs E ks n b → B b
def upd (f : Nat → Nat) (i x : Nat) : Nat → Nat := fun k => if k = i then x else f k
/-- How many timers are set. -/
def cnt (f : Nat → Nat) : Nat := ((List.range 256).filter fun k => decide (0 < f k)).length
theorem nodup_len : ∀ (n : Nat) (l : List Nat), l.Nodup → (∀ k ∈ l, k < n) → l.length ≤ n
  | 0, l, _, h => by
    cases l with
    | nil => exact Nat.le_refl _
    | cons a r => exact absurd (h a (by simp)) (by omega)
  | n + 1, l, hn, h => by
    by_cases hm : n ∈ l
    · have h1 := nodup_len n (l.erase n) (hn.erase _) fun k hk => by
        have h2 := h k (List.mem_of_mem_erase hk)
        have h3 : k ≠ n := fun e => by
          subst e
          exact (List.Nodup.mem_erase_iff hn).1 hk |>.1 rfl
        omega
      rw [List.length_erase_of_mem hm] at h1
      omega
    · have h1 := nodup_len n l hn fun k hk => by
        have h2 := h k hk
        have h3 : k ≠ n := fun e => hm (e ▸ hk)
        omega
      omega
theorem perm_of {l l' : List Nat} (h : l.Nodup) (h' : l'.Nodup) (hm : ∀ k, k ∈ l ↔ k ∈ l') : l.Perm l' := (List.perm_ext_iff_of_nodup h h').2 hm
section
variable {n hand : Nat} {f : Nat → Nat} {L : Nat → List Nat} {ks : List Nat}
theorem Lg.cnt (h : Lg n hand f L ks) (hn : ks.Nodup) : ks.length = cnt f := by
  refine (perm_of hn (List.Pairwise.filter _ List.nodup_range) fun k => ?_).length_eq
  rw [h.km, List.mem_filter, List.mem_range, decide_eq_true_eq]
theorem Lg.few (h : Lg n hand f L ks) {s : Nat} (hs : s < n) : (L s).length ≤ 256 :=
  nodup_len 256 _ (h.nd s hs) fun k hk => ((h.km k).1 ((h.lm s hs k).1 hk).1).1
end
section
variable {w : World} {pb n hand rb mb x : Nat} {vs : Nat → Value} {L : Nat → List Nat} {E sl ro : Nat → Nat} {ks : List Nat}
theorem Hp.congr {sl' ro' : Nat → Nat} (h : Hp w pb n hand rb mb vs L E sl ro ks x) (h1 : ∀ k ∈ ks, sl' k = sl k) (h2 : ∀ k ∈ ks, ro' k = ro k) : Hp w pb n hand rb mb vs L E sl' ro' ks x :=
  ⟨h.p, h.r, h.m, fun k hk => by rw [h1 k hk, h2 k hk]; exact h.e k hk, h.rows, h.apart⟩
theorem Whl.mono {f : Nat → Nat} {B B' : Nat → Prop} (h : Whl w pb n f B) (hb : ∀ b, B b → B' b) (hl : ∀ b, B' b → b < w.heap.size) : Whl w pb n f B' := by
  obtain ⟨h1, h2, h3, h4, hand, rb, mb, vs, L, E, ks, h5, h6, h7⟩ := h
  exact ⟨h1, h2, h3, hl, hand, rb, mb, vs, L, E, ks, h5, h6, fun b hb' => hb b (h7 b hb')⟩
/-- It stays what it is while other blocks are written. -/
theorem Whl.frame {w' : World} {f : Nat → Nat} {B S : Nat → Prop} (h : Whl w pb n f B) (hc : Chg S w w') (hd : ∀ b, B b → ¬ S b) : Whl w' pb n f B := by
  obtain ⟨h1, h2, h3, h4, hand, rb, mb, vs, L, E, ks, h5, h6, h7⟩ := h
  exact ⟨h1, h2, h3, fun b hb => Nat.lt_of_lt_of_le (h4 b hb) hc.size, hand, rb, mb, vs, L, E, ks, h5.keep fun b hb => hc.block b (h4 b (h7 b hb)) (hd b (h7 b hb)), h6, h7⟩
end
section
variable {w : World} {pb n : Nat} {f : Nat → Nat} {B : Nat → Prop}
theorem wcount (h : Whl w pb n f B) : Calls Try.prog 11 #[ptr pb] w fun r w' => r = .returned (nm (cnt f)) ∧ w' = w := by
  obtain ⟨h1, h2, h3, h4, hand, rb, mb, vs, L, E, ks, h5, h6, h7⟩ := h
  rw [← h6.cnt h5.m.nodup]
  exact fcount h5
theorem wleft (h : Whl w pb n f B) (i : Nat) (hi : i < 256) : Calls Try.prog 13 #[ptr pb, oc i] w fun r w' => r = .returned (nm (f i)) ∧ ∃ m, w' = w.drewN m := by
  obtain ⟨h1, h2, h3, h4, hand, rb, mb, vs, L, E, ks, h5, h6, h7⟩ := h
  exact fleft h5 i (f i) hi h1 h2 h6.a (h3 i) (by rw [h6.km]; exact ⟨fun h => h.2, fun h => ⟨hi, h⟩⟩) (fun _ => rfl) (fun _ => rfl)
theorem wnew (n : Nat) (h1 : 1 ≤ n) (hn : n ≤ 256) (w : World) :
    Calls Try.prog 8 #[nm n] w fun r w' => ∃ pb, r = .returned (ptr pb) ∧ Whl w' pb n (fun _ => 0) (fun b => w.heap.size ≤ b ∧ b < w'.heap.size) ∧ Below w.heap.size w w' := by
  refine (fnew n h1 hn w).mono ?_
  rintro r w' ⟨pb, rb, mb, rfl, h⟩
  have hp := h.hp (fun _ => 0) (fun k => (0 + 0) % n) (fun k => (0 - 1) / n)
  refine ⟨pb, rfl, ⟨h1, hn, fun _ => Nat.zero_le _, fun b hb => hb.2, 0, rb, mb, _, _, _, _, hp, ⟨by omega, fun k => by simp, fun s hs => List.nodup_nil, fun s hs k => by simp⟩, fun b hb => ⟨?_, hp.lt hb⟩⟩, h.below⟩
  rcases hb with rfl | rfl | rfl | ⟨k, hk, rfl⟩ | ⟨s, hs, hx, hb⟩
  · exact h.new.1
  · exact h.new.2.1
  · exact h.new.2.2
  · simp at hk
  · cases hb
end
end Go.Proofs.Ytcadeoolacoidaa.Wh
