/-
  A wheel in memory: its struct, its rows, its map, its entries; what a write into one of them leaves of the others. No condition.
-/
import Derived.Test.YtcadeoolacoidaaWhMap
import Derived.Test.YtcadeoolacoidaaOwnS
namespace Go.Proofs.Ytcadeoolacoidaa.Wh
open Go.RowKit Go.Proofs.Ytcadeoolacoidaa.Base Go.Proofs.Ytcadeoolacoidaa.Mem
abbrev nm (x : Nat) : Value := .int .i64 (x : Int)
/-- A pointer's cell. -/
def pc (e : Nat) : List Value := [ptr e]
theorem eltP : Elt 50 54 1 pc where
  under := Try.underlying54
  info := ⟨.pointer none, 8, by kernel_rfl, rfl, by decide⟩
  len := fun _ => rfl
  one := fun x u hu => by
    simp only [pc, List.mem_cons, List.not_mem_nil, or_false] at hu
    rw [hu]; rfl
  pos := by decide
/-- The row v holds these pointers. -/
abbrev RowAt (w : World) (v : Value) (l : List Nat) : Prop := OwnS 50 1 pc w 0 v l
theorem RowAt.keep {w w' : World} {v : Value} {l : List Nat} (h : RowAt w v l) (hk : ∀ b, v.ownBlock = some b → w'.heap[b]? = w.heap[b]?) : RowAt w' v l := by
  obtain ⟨h1, h2⟩ := h
  refine ⟨h1, ?_⟩
  rcases h2 with h2 | ⟨g, cap, cur, h2, h3, h4, h5⟩
  · exact Or.inl h2
  · exact Or.inr ⟨g, cap, cur, h2, h3, by rw [hk g (by rw [h2]; rfl)]; exact h4, h5⟩
/-- What a row's block is. -/
theorem RowAt.blk {w : World} {v : Value} {l : List Nat} {b : Nat} (h : RowAt w v l) (hb : v.ownBlock = some b) : ∃ cs, w.heap[b]? = some (.cells cs 50) := by
  rcases h.2 with ⟨h2, _⟩ | ⟨g, cap, cur, h2, h3, h4, _⟩
  · rw [h2] at hb; cases hb
  · rw [h2] at hb
    cases hb
    exact ⟨cur, h4⟩
/-- A wheel: struct, rows, map, entries; of the row x nothing is said. -/
structure Hp (w : World) (pb n hand rb mb : Nat) (vs : Nat → Value) (L : Nat → List Nat) (E sl ro : Nat → Nat) (ks : List Nat) (x : Nat) : Prop where
  p : w.heap[pb]? = some (.cells #[.slice (some ⟨rb, 0, none⟩) n n, nm hand, .map (some mb)] 49)
  r : ∃ cs, w.heap[rb]? = some (.cells cs 54) ∧ cs.size = n ∧ ∀ s, s < n → cs[s]? = some (vs s)
  m : MapAt w mb ks E
  e : ∀ k ∈ ks, w.heap[E k]? = some (.cells #[oc k, nm (sl k), nm (ro k)] 53)
  rows : ∀ s, s < n → s ≠ x → RowAt w (vs s) ((L s).map E)
  apart : ∀ s s', s < n → s' < n → s ≠ s' → ∀ b, (vs s).ownBlock = some b → (vs s').ownBlock ≠ some b
/-- The blocks that it speaks of. -/
def Own (pb n rb mb : Nat) (vs : Nat → Value) (E : Nat → Nat) (ks : List Nat) (x b : Nat) : Prop :=
  b = pb ∨ b = rb ∨ b = mb ∨ (∃ k ∈ ks, b = E k) ∨ ∃ s, s < n ∧ s ≠ x ∧ (vs s).ownBlock = some b
theorem ne_of {w : World} {a b : Nat} {o o' : Obj} (h : w.heap[a]? = some o) (h' : w.heap[b]? = some o') (hne : o ≠ o') : a ≠ b := fun e => by
  subst e
  rw [h, Option.some.injEq] at h'
  exact hne h'
theorem ne_type {w : World} {a b : Nat} {cs cs' : Array Value} {t t' : TypeId} (h : w.heap[a]? = some (.cells cs t)) (h' : w.heap[b]? = some (.cells cs' t')) (ht : t ≠ t') : a ≠ b :=
  ne_of h h' fun e => by injection e with _ e; exact ht e
theorem ne_map {w : World} {a b : Nat} {cs : Array Value} {t : TypeId} {es : Array MapEntry} {c : Nat} (h : w.heap[a]? = some (.cells cs t)) (h' : w.heap[b]? = some (.map es c)) : a ≠ b :=
  ne_of h h' fun e => by cases e
section
variable {w w' : World} {pb n hand rb mb x : Nat} {vs : Nat → Value} {L : Nat → List Nat} {E sl ro : Nat → Nat} {ks : List Nat}
theorem Hp.keep (h : Hp w pb n hand rb mb vs L E sl ro ks x) (hk : ∀ b, Own pb n rb mb vs E ks x b → w'.heap[b]? = w.heap[b]?) : Hp w' pb n hand rb mb vs L E sl ro ks x where
  p := (hk _ (Or.inl rfl)).trans h.p
  r := by obtain ⟨cs, h1, h2⟩ := h.r; exact ⟨cs, (hk _ (Or.inr (Or.inl rfl))).trans h1, h2⟩
  m := h.m.keep (hk _ (Or.inr (Or.inr (Or.inl rfl))))
  e := fun k hm => (hk _ (Or.inr (Or.inr (Or.inr (Or.inl ⟨k, hm, rfl⟩))))).trans (h.e k hm)
  rows := fun s hs hx => (h.rows s hs hx).keep fun b hb => hk b (Or.inr (Or.inr (Or.inr (Or.inr ⟨s, hs, hx, hb⟩))))
  apart := h.apart
theorem Hp.lt (h : Hp w pb n hand rb mb vs L E sl ro ks x) {b : Nat} (hb : Own pb n rb mb vs E ks x b) : b < w.heap.size := by
  rcases hb with rfl | rfl | rfl | ⟨k, hk, rfl⟩ | ⟨s, hs, hx, hb⟩
  · exact lt_heap h.p
  · obtain ⟨cs, h1, _⟩ := h.r; exact lt_heap h1
  · obtain ⟨es, c, h1, _⟩ := h.m.blk; exact lt_heap h1
  · exact lt_heap (h.e k hk)
  · obtain ⟨cs, h1⟩ := (h.rows s hs hx).blk hb; exact lt_heap h1
/-- Two entries lie apart. -/
theorem Hp.einj (h : Hp w pb n hand rb mb vs L E sl ro ks x) {j k : Nat} (hj : j ∈ ks) (hk : k ∈ ks) (hne : j ≠ k) : E j ≠ E k :=
  ne_of (h.e j hj) (h.e k hk) fun e => by
    injection e with e
    have := congrArg (fun a : Array Value => a[0]?) e
    have h0 : oc j = oc k := Option.some.inj this
    exact hne (oc_inj h0)
/-- An entry's block is none of the others. -/
theorem Hp.entry_ne (h : Hp w pb n hand rb mb vs L E sl ro ks x) {c : Nat} {cs : Array Value} (hc : w.heap[c]? = some (.cells cs 53)) {b : Nat} (hb : Own pb n rb mb vs E ks x b) (hne : ∀ k ∈ ks, E k ≠ c) : b ≠ c := by
  rcases hb with rfl | rfl | rfl | ⟨k, hk, rfl⟩ | ⟨s, hs, hx, hb⟩
  · exact ne_type h.p hc (by decide)
  · obtain ⟨cs, h1, _⟩ := h.r; exact ne_type h1 hc (by decide)
  · obtain ⟨es, c', h1, _⟩ := h.m.blk; exact fun e => ne_map hc h1 e.symm
  · exact hne k hk
  · obtain ⟨cs, h1⟩ := (h.rows s hs hx).blk hb; exact ne_type h1 hc (by decide)
/-- A row's block is none of the others. -/
theorem Hp.row_ne (h : Hp w pb n hand rb mb vs L E sl ro ks x) {c : Nat} {cs : Array Value} (hc : w.heap[c]? = some (.cells cs 50)) {b : Nat} (hb : Own pb n rb mb vs E ks x b) (hne : ∀ s, s < n → s ≠ x → (vs s).ownBlock ≠ some c) : b ≠ c := by
  rcases hb with rfl | rfl | rfl | ⟨k, hk, rfl⟩ | ⟨s, hs, hx, hb⟩
  · exact ne_type h.p hc (by decide)
  · obtain ⟨cs, h1, _⟩ := h.r; exact ne_type h1 hc (by decide)
  · obtain ⟨es, c', h1, _⟩ := h.m.blk; exact fun e => ne_map hc h1 e.symm
  · exact ne_type (h.e k hk) hc (by decide)
  · exact fun e => hne s hs hx (e ▸ hb)
/-- The hand moves. -/
theorem Hp.setHand (h : Hp w pb n hand rb mb vs L E sl ro ks x) (a : Nat) : Hp (w.setCell ⟨pb, 1, none⟩ (nm a)) pb n a rb mb vs L E sl ro ks x := by
  have ho : ∀ b, b ≠ pb → (w.setCell ⟨pb, 1, none⟩ (nm a)).heap[b]? = w.heap[b]? := fun b hb => set_other hb _
  refine ⟨by rw [block_set h.p]; rfl, ?_, h.m.keep (ho _ ?_), fun k hm => (ho _ ?_).trans (h.e k hm), fun s hs hx => (h.rows s hs hx).keep fun b hb => ho b ?_, h.apart⟩
  · obtain ⟨cs, h1, h2⟩ := h.r
    exact ⟨cs, (ho _ (ne_type h1 h.p (by decide))).trans h1, h2⟩
  · obtain ⟨es, c', h1, _⟩ := h.m.blk
    exact fun e => ne_map h.p h1 e.symm
  · exact ne_type (h.e k hm) h.p (by decide)
  · obtain ⟨cs, h1⟩ := (h.rows s hs hx).blk hb
    exact ne_type h1 h.p (by decide)
/-- An entry's rounds are set. -/
theorem Hp.setRo (h : Hp w pb n hand rb mb vs L E sl ro ks x) {i : Nat} (hi : i ∈ ks) (a : Nat) : Hp (w.setCell ⟨E i, 2, none⟩ (nm a)) pb n hand rb mb vs L E sl (fun k => if k = i then a else ro k) ks x := by
  have ho : ∀ b, b ≠ E i → (w.setCell ⟨E i, 2, none⟩ (nm a)).heap[b]? = w.heap[b]? := fun b hb => set_other hb _
  refine ⟨(ho _ (ne_type h.p (h.e i hi) (by decide))).trans h.p, ?_, h.m.keep (ho _ ?_), fun k hm => ?_, fun s hs hx => (h.rows s hs hx).keep fun b hb => ho b ?_, h.apart⟩
  · obtain ⟨cs, h1, h2⟩ := h.r
    exact ⟨cs, (ho _ (ne_type h1 (h.e i hi) (by decide))).trans h1, h2⟩
  · obtain ⟨es, c', h1, _⟩ := h.m.blk
    exact fun e => ne_map (h.e i hi) h1 e.symm
  · by_cases hk : k = i
    · subst hk
      rw [if_pos rfl, block_set (h.e k hm)]; rfl
    · rw [if_neg hk, ho _ (h.einj hm hi hk)]
      exact h.e k hm
  · obtain ⟨cs, h1⟩ := (h.rows s hs hx).blk hb
    exact ne_type h1 (h.e i hi) (by decide)
/-- The map has changed: it holds fewer keys. -/
theorem Hp.fewer (h : Hp w pb n hand rb mb vs L E sl ro ks x) {ks' : List Nat} (hs : ∀ k ∈ ks', k ∈ ks) (hm : MapAt w' mb ks' E) (ho : Only mb w w') : Hp w' pb n hand rb mb vs L E sl ro ks' x := by
  obtain ⟨es, c', hmb, _⟩ := h.m.blk
  refine ⟨(ho.block _ (ne_map h.p hmb)).trans h.p, ?_, hm, fun k hk => (ho.block _ (ne_map (h.e k (hs k hk)) hmb)).trans (h.e k (hs k hk)), fun s hs hx => (h.rows s hs hx).keep fun b hb => ho.block b ?_, h.apart⟩
  · obtain ⟨cs, h1, h2⟩ := h.r
    exact ⟨cs, (ho.block _ (ne_map h1 hmb)).trans h1, h2⟩
  · obtain ⟨cs, h1⟩ := (h.rows s hs hx).blk hb
    exact ne_map h1 hmb
/-- The map has changed: it holds one key more, whose entry has been there. -/
theorem Hp.more (h : Hp w pb n hand rb mb vs L E sl ro ks x) {i : Nat} {E' sl' ro' : Nat → Nat} (hE : ∀ k ∈ ks, E' k = E k) (hsl : ∀ k ∈ ks, sl' k = sl k) (hro : ∀ k ∈ ks, ro' k = ro k) (he : w.heap[E' i]? = some (.cells #[oc i, nm (sl' i), nm (ro' i)] 53)) (hL : ∀ s, s < n → ∀ k ∈ L s, k ∈ ks)
    (hm : MapAt w' mb (ks ++ [i]) E') (ho : Only mb w w') : Hp w' pb n hand rb mb vs L E' sl' ro' (ks ++ [i]) x := by
  obtain ⟨es, c', hmb, _⟩ := h.m.blk
  refine ⟨(ho.block _ (ne_map h.p hmb)).trans h.p, ?_, hm, fun k hk => ?_, fun s hs hx => ?_, h.apart⟩
  · obtain ⟨cs, h1, h2⟩ := h.r
    exact ⟨cs, (ho.block _ (ne_map h1 hmb)).trans h1, h2⟩
  · rcases List.mem_append.1 hk with hk | hk
    · rw [hE k hk, hsl k hk, hro k hk, ho.block _ (ne_map (h.e k hk) hmb)]
      exact h.e k hk
    · rw [List.mem_singleton] at hk
      subst hk
      rw [ho.block _ (ne_map he hmb)]
      exact he
  · have e : (L s).map E' = (L s).map E := List.map_congr_left fun k hk => hE k (hL s hs k hk)
    rw [e]
    exact (h.rows s hs hx).keep fun b hb => ho.block b (by
      obtain ⟨cs, h1⟩ := (h.rows s hs hx).blk hb
      exact ne_map h1 hmb)
/-- The row x is stored. -/
theorem Hp.setRow (h : Hp w pb n hand rb mb vs L E sl ro ks x) (hx : x < n) {v : Value} {l : List Nat} (hv : RowAt w v (l.map E)) (hap : ∀ s, s < n → s ≠ x → ∀ b, (vs s).ownBlock = some b → v.ownBlock ≠ some b) :
    Hp (w.setCell ⟨rb, x, none⟩ v) pb n hand rb mb (fun s => if s = x then v else vs s) (fun s => if s = x then l else L s) E sl ro ks n := by
  obtain ⟨cs, hr, hsz, hget⟩ := h.r
  have ho : ∀ b, b ≠ rb → (w.setCell ⟨rb, x, none⟩ v).heap[b]? = w.heap[b]? := fun b hb => set_other hb _
  refine ⟨(ho _ (ne_type h.p hr (by decide))).trans h.p, ⟨_, by rw [block_set hr], by simpa using hsz, fun s hs => ?_⟩, h.m.keep (ho _ ?_), fun k hm => (ho _ (ne_type (h.e k hm) hr (by decide))).trans (h.e k hm), fun s hs _ => ?_, fun s s' hs hs' hne b hb hb' => ?_⟩
  · rw [Array.getElem?_setIfInBounds]
    by_cases e : x = s
    · subst e
      rw [if_pos rfl, if_pos (by omega), if_pos rfl]
    · rw [if_neg e, if_neg (fun e' => e e'.symm)]
      exact hget s hs
  · obtain ⟨es, c', h1, _⟩ := h.m.blk
    exact fun e => ne_map hr h1 e.symm
  · by_cases e : s = x
    · simp only [if_pos e]
      exact hv.keep fun b hb => ho b (by obtain ⟨cs, h1⟩ := hv.blk hb; exact ne_type h1 hr (by decide))
    · simp only [if_neg e]
      exact (h.rows s hs e).keep fun b hb => ho b (by obtain ⟨cs, h1⟩ := (h.rows s hs e).blk hb; exact ne_type h1 hr (by decide))
  · by_cases e : s = x
    · by_cases e' : s' = x
      · omega
      · simp only [if_pos e] at hb
        simp only [if_neg e'] at hb'
        exact hap s' hs' e' b hb' hb
    · by_cases e' : s' = x
      · simp only [if_neg e] at hb
        simp only [if_pos e'] at hb'
        exact hap s hs e b hb hb'
      · simp only [if_neg e] at hb
        simp only [if_neg e'] at hb'
        exact h.apart s s' hs hs' hne b hb hb'
/-- Of the row x nothing more is said. -/
theorem Hp.drop (h : Hp w pb n hand rb mb vs L E sl ro ks n) (x : Nat) : Hp w pb n hand rb mb vs L E sl ro ks x := ⟨h.p, h.r, h.m, h.e, fun s hs _ => h.rows s hs (by omega), h.apart⟩
theorem Hp.cells (h : Hp w pb n hand rb mb vs L E sl ro ks x) : w.cell? ⟨pb, 0, none⟩ = some (.slice (some ⟨rb, 0, none⟩) n n) ∧ w.cell? ⟨pb, 1, none⟩ = some (nm hand) ∧ w.cell? ⟨pb, 2, none⟩ = some (.map (some mb)) ∧ (∀ j, w.frozen? ⟨pb, j, none⟩ = false) :=
  ⟨cell_of h.p rfl, cell_of h.p rfl, cell_of h.p rfl, fun _ => free_of h.p⟩
theorem Hp.ecells (h : Hp w pb n hand rb mb vs L E sl ro ks x) {k : Nat} (hk : k ∈ ks) : w.cell? ⟨E k, 0, none⟩ = some (oc k) ∧ w.cell? ⟨E k, 1, none⟩ = some (nm (sl k)) ∧ w.cell? ⟨E k, 2, none⟩ = some (nm (ro k)) ∧ (∀ j, w.frozen? ⟨E k, j, none⟩ = false) :=
  ⟨cell_of (h.e k hk) rfl, cell_of (h.e k hk) rfl, cell_of (h.e k hk) rfl, fun _ => free_of (h.e k hk)⟩
theorem Hp.rcell (h : Hp w pb n hand rb mb vs L E sl ro ks x) {s : Nat} (hs : s < n) : w.cell? ⟨rb, s, none⟩ = some (vs s) ∧ w.frozen? ⟨rb, s, none⟩ = false := by
  obtain ⟨cs, h1, _, h2⟩ := h.r
  exact ⟨cell_of h1 (h2 s hs), free_of h1⟩
end
end Go.Proofs.Ytcadeoolacoidaa.Wh
