/-
  Within a tick: the row of the hand's slot is being thinned: each entry that stays has one round less, each that is due has left the map and stands in the list of those that are due. No condition.
-/
import Derived.Test.YtcadeoolacoidaaWhSet
namespace Go.Proofs.Ytcadeoolacoidaa.Wh
open Go.RowKit Go.Proofs.Ytcadeoolacoidaa.Base Go.Proofs.Ytcadeoolacoidaa.Mem
/-- An octet's cell. -/
def ocs (k : Nat) : List Value := [oc k]
theorem eltU : Elt 5 41 1 ocs where
  under := Try.underlying41
  info := ⟨.int .u8 0, 1, by kernel_rfl, rfl, by decide⟩
  len := fun _ => rfl
  one := fun x u hu => by
    simp only [ocs, List.mem_cons, List.not_mem_nil, or_false] at hu
    rw [hu]; rfl
  pos := by decide
theorem ownS_keep {α : Type} {E z base : Nat} {fc : α → List Value} {w w' : World} {v : Value} {l : List α} (h : OwnS E z fc w base v l) (hk : ∀ b, v.ownBlock = some b → w'.heap[b]? = w.heap[b]?) : OwnS E z fc w' base v l := by
  obtain ⟨h1, h2⟩ := h
  refine ⟨h1, ?_⟩
  rcases h2 with h2 | ⟨g, cap, cur, h2, h3, h4, h5⟩
  · exact Or.inl h2
  · exact Or.inr ⟨g, cap, cur, h2, h3, by rw [hk g (by rw [h2]; rfl)]; exact h4, h5⟩
theorem ownS_blk {α : Type} {E z base : Nat} {fc : α → List Value} {w : World} {v : Value} {l : List α} {b : Nat} (h : OwnS E z fc w base v l) (hb : v.ownBlock = some b) : ∃ cs, w.heap[b]? = some (.cells cs E) := by
  rcases h.2 with ⟨h2, _⟩ | ⟨g, cap, cur, h2, h3, h4, _⟩
  · rw [h2] at hb; cases hb
  · rw [h2] at hb
    cases hb
    exact ⟨cur, h4⟩
theorem take_mem {l : List Nat} {j k : Nat} (hk : l[j]? = some k) (x : Nat) : x ∈ l.take (j + 1) ↔ x ∈ l.take j ∨ x = k := by
  rw [List.take_add_one, hk, List.mem_append]; simp
theorem not_yet {l : List Nat} (hn : l.Nodup) {j k : Nat} (hk : l[j]? = some k) : k ∉ l.take j := fun hm => by
  obtain ⟨i, hi⟩ := List.mem_iff_getElem?.1 hm
  have hij : i < j := by
    have := (List.getElem?_eq_some_iff.1 hi).1
    rw [List.length_take] at this
    omega
  rw [List.getElem?_take, if_pos hij] at hi
  obtain ⟨a1, h1⟩ := List.getElem?_eq_some_iff.1 hi
  obtain ⟨a2, h2⟩ := List.getElem?_eq_some_iff.1 hk
  have := (List.getElem_inj hn).1 (h1.trans h2.symm)
  omega
/-- The first j entries of the row l have been asked; D are due, at v. -/
structure Tj (base pb n hand rb mb : Nat) (vs : Nat → Value) (L : Nat → List Nat) (E sl ro : Nat → Nat) (ks : List Nat) (s wb dv : Nat) (l : List Nat) (j : Nat) (D : List Nat) (v : Value) (wr : World) : Prop where
  ex : ∃ ksj, (∀ k, k ∈ ksj ↔ k ∈ ks ∧ ¬(k ∈ l.take j ∧ ro k = 0)) ∧ Hp wr pb n hand rb mb vs L E sl (fun k => if k ∈ l.take j then ro k - 1 else ro k) ksj s
  due : wr.heap[dv]? = some (.cells #[v] 41)
  own : OwnS 5 1 ocs wr base v D
  wbx : wr.heap[wb]? = some (.cells #[ptr pb] 24)
  lo : ∀ b, Own pb n rb mb vs E ks s b → b < base
  ld : dv < base
  lw : wb < base
  sz : base ≤ wr.heap.size
section
variable {base pb n hand rb mb : Nat} {vs : Nat → Value} {L : Nat → List Nat} {E sl ro : Nat → Nat} {ks : List Nat} {s wb dv : Nat} {l : List Nat} {j : Nat} {D : List Nat} {v : Value} {wr w' : World}
theorem own_sub {ksj : List Nat} (h : ∀ k, k ∈ ksj → k ∈ ks) {b : Nat} (hb : Own pb n rb mb vs E ksj s b) : Own pb n rb mb vs E ks s b := by
  rcases hb with hb | hb | hb | ⟨k, hk, hb⟩ | hb
  · exact Or.inl hb
  · exact Or.inr (Or.inl hb)
  · exact Or.inr (Or.inr (Or.inl hb))
  · exact Or.inr (Or.inr (Or.inr (Or.inl ⟨k, h k hk, hb⟩)))
  · exact Or.inr (Or.inr (Or.inr (Or.inr hb)))
/-- Blocks below base, but for the row's own, are as they were; the list of those due is. -/
theorem Tj.keep (h : Tj base pb n hand rb mb vs L E sl ro ks s wb dv l j D v wr) {g : Nat} {cs : Array Value} (hg : wr.heap[g]? = some (.cells cs 50)) (hne : ∀ t, t < n → t ≠ s → (vs t).ownBlock ≠ some g) (hc : Chg (fun b => b = g) wr w') :
    Tj base pb n hand rb mb vs L E sl ro ks s wb dv l j D v w' := by
  obtain ⟨ksj, h1, h2⟩ := h.ex
  refine ⟨⟨ksj, h1, h2.keep fun b hb => hc.block b (h2.lt hb) (h2.row_ne hg hb hne)⟩, hc.stays h.due (ne_type h.due hg (by decide)), ownS_keep h.own fun b hb => ?_, hc.stays h.wbx (ne_type h.wbx hg (by decide)), h.lo, h.ld, h.lw, Nat.le_trans h.sz hc.size⟩
  obtain ⟨cs', hb'⟩ := ownS_blk h.own hb
  exact hc.block b (lt_heap hb') (ne_type hb' hg (by decide))
theorem Tj.in_ (h : Tj base pb n hand rb mb vs L E sl ro ks s wb dv l j D v wr) {k : Nat} (hn : l.Nodup) (hk : l[j]? = some k) (hks : k ∈ ks) : ∃ ksj, k ∈ ksj ∧ Hp wr pb n hand rb mb vs L E sl (fun k => if k ∈ l.take j then ro k - 1 else ro k) ksj s := by
  obtain ⟨ksj, h1, h2⟩ := h.ex
  exact ⟨ksj, (h1 k).2 ⟨hks, fun x => not_yet hn hk x.1⟩, h2⟩
/-- The entry's cells. -/
theorem Tj.cells (h : Tj base pb n hand rb mb vs L E sl ro ks s wb dv l j D v wr) {k : Nat} (hn : l.Nodup) (hk : l[j]? = some k) (hks : k ∈ ks) : wr.heap[E k]? = some (.cells #[oc k, nm (sl k), nm (ro k)] 53) := by
  obtain ⟨ksj, h1, h2⟩ := h.in_ hn hk hks
  have := h2.e k h1
  simp only [if_neg (not_yet hn hk)] at this
  exact this
/-- The entry stays, with one round less. -/
theorem Tj.stay (h : Tj base pb n hand rb mb vs L E sl ro ks s wb dv l j D v wr) {k : Nat} (hn : l.Nodup) (hk : l[j]? = some k) (hks : k ∈ ks) (hr : 0 < ro k) :
    Tj base pb n hand rb mb vs L E sl ro ks s wb dv l (j + 1) D v (wr.setCell ⟨E k, 2, none⟩ (nm (ro k - 1))) := by
  obtain ⟨ksj, h1, h2⟩ := h.ex
  have hkj : k ∈ ksj := (h1 k).2 ⟨hks, fun x => not_yet hn hk x.1⟩
  have he := h2.e k hkj
  refine ⟨⟨ksj, fun x => ?_, (h2.setRo hkj (ro k - 1)).congr (fun x _ => rfl) fun x hx => ?_⟩, (set_other (ne_type h.due he (by decide)) _).trans h.due, ownS_keep h.own fun b hb => set_other ?_ _, (set_other (ne_type h.wbx he (by decide)) _).trans h.wbx, h.lo, h.ld, h.lw, by rw [(Only.setCell _ _ _ wr).size]; exact h.sz⟩
  · rw [h1, take_mem hk]
    constructor
    · rintro ⟨a, b⟩
      refine ⟨a, ?_⟩
      rintro ⟨c | c, d⟩
      · exact b ⟨c, d⟩
      · subst c; omega
    · rintro ⟨a, b⟩
      exact ⟨a, fun x => b ⟨Or.inl x.1, x.2⟩⟩
  · by_cases e : x = k
    · subst e
      simp only [take_mem hk, or_true, if_true]
    · simp only [take_mem hk, e, or_false]
      rfl
  · obtain ⟨cs, hb'⟩ := ownS_blk h.own hb
    exact ne_type hb' he (by decide)
/-- The entry is due: it leaves the map. -/
theorem Tj.drop (h : Tj base pb n hand rb mb vs L E sl ro ks s wb dv l j D v wr) {k : Nat} (hn : l.Nodup) (hk : l[j]? = some k) (hks : k ∈ ks) (hr : ro k = 0) (h256 : k < 256) (ty : Nat) :
    ∃ w2, (Builtin.delete_ #[47, 5] ty #[.map (some mb), oc k]).run Try.prog wr = .ok (.tuple #[]) w2 ∧ Tj base pb n hand rb mb vs L E sl ro ks s wb dv l (j + 1) D v w2 ∧ Only mb wr w2 := by
  obtain ⟨ksj, h1, h2⟩ := h.ex
  have hkj : k ∈ ksj := (h1 k).2 ⟨hks, fun x => not_yet hn hk x.1⟩
  obtain ⟨w2, r1, r2, r3⟩ := h2.m.del h256 hkj ty
  obtain ⟨es, c, hmb, _⟩ := h2.m.blk
  refine ⟨w2, r1, ⟨⟨ksj.erase k, fun x => ?_, (h2.fewer (fun x hx => List.mem_of_mem_erase hx) r2 r3).congr (fun x _ => rfl) fun x hx => ?_⟩, (r3.block _ (ne_map h.due hmb)).trans h.due, ownS_keep h.own fun b hb => r3.block b ?_, (r3.block _ (ne_map h.wbx hmb)).trans h.wbx, h.lo, h.ld, h.lw, by rw [r3.size]; exact h.sz⟩, r3⟩
  · rw [h2.m.nodup.mem_erase_iff, h1, take_mem hk]
    constructor
    · rintro ⟨a, b, c⟩
      refine ⟨b, ?_⟩
      rintro ⟨d | d, e⟩
      · exact c ⟨d, e⟩
      · exact a d
    · rintro ⟨a, b⟩
      refine ⟨fun e => b ⟨Or.inr e, by rw [e]; exact hr⟩, a, fun x => b ⟨Or.inl x.1, x.2⟩⟩
  · have e : x ≠ k := ((h2.m.nodup.mem_erase_iff).1 hx).1
    simp only [take_mem hk, e, or_false]
  · obtain ⟨cs, hb'⟩ := ownS_blk h.own hb
    exact ne_map hb' hmb
/-- It stands in the list. -/
theorem Tj.push (h : Tj base pb n hand rb mb vs L E sl ro ks s wb dv l j D v wr) {o : Obj} {w4 : World} {g cap k : Nat} (hown : OwnS 5 1 ocs w4 base (.slice (some ⟨g, 0, none⟩) (D.length + 1) cap) (D ++ [k])) (hgrow : (wr.drew.alloc o).grownBy w4 v.ownBlock) :
    Tj base pb n hand rb mb vs L E sl ro ks s wb dv l j (D ++ [k]) (.slice (some ⟨g, 0, none⟩) (D.length + 1) cap) (w4.setCell ⟨dv, 0, none⟩ (.slice (some ⟨g, 0, none⟩) (D.length + 1) cap)) := by
  obtain ⟨ksj, h1, h2⟩ := h.ex
  have hv : ∀ b, v.ownBlock = some b → base ≤ b := fun b hb => (h.own.lt b hb).1
  have far : ∀ b, b < base → w4.heap[b]? = wr.heap[b]? := fun b hb => by
    have hlt : b < wr.heap.size := Nat.lt_of_lt_of_le hb h.sz
    have hsz : (wr.drew.alloc o).heap.size = wr.heap.size + 1 := size_alloc _ _
    refine (hgrow.block b (by omega) fun e => ?_).trans (alloc_same wr.drew o hlt)
    have := hv b e.symm
    omega
  have hdv := far dv h.ld
  have h4 : w4.heap[dv]? = some (.cells #[v] 41) := hdv.trans h.due
  have hgs := (hown.lt g rfl).1
  have hsz2 : base ≤ w4.heap.size := Nat.le_trans h.sz (by
    have h5 : (wr.drew.alloc o).heap.size = wr.heap.size + 1 := size_alloc _ _
    have h6 := hgrow.size
    omega)
  refine ⟨⟨ksj, h1, h2.keep fun b hb => ?_⟩, by rw [block_set h4]; rfl, ownS_keep hown fun b hb => set_other ?_ _, ?_, h.lo, h.ld, h.lw, by rw [(Only.setCell _ _ _ w4).size]; exact hsz2⟩
  · have hb' := own_sub (fun k hk => ((h1 k).1 hk).1) hb
    rw [set_other ?_ _, far b (h.lo b hb')]
    rcases hb with rfl | rfl | rfl | ⟨k', hk', rfl⟩ | ⟨t, ht, hts, hb⟩
    · exact ne_type h2.p h.due (by decide)
    · obtain ⟨cs, h3, _⟩ := h2.r; exact ne_type h3 h.due (by decide)
    · obtain ⟨es, c, h3, _⟩ := h2.m.blk; exact fun e => ne_map h.due h3 e.symm
    · exact ne_type (h2.e k' hk') h.due (by decide)
    · obtain ⟨cs, h3⟩ := (h2.rows t ht hts).blk hb; exact ne_type h3 h.due (by decide)
  · have e : g = b := by injection hb
    have := h.ld
    omega
  · rw [set_other (ne_type h.wbx h.due (by decide)) _, far wb h.lw]
    exact h.wbx
end
end Go.Proofs.Ytcadeoolacoidaa.Wh
