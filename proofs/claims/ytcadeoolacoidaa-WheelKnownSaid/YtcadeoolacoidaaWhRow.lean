/-
  A row that is thinned where it lies: what stays is written at its front, what lies behind is cleared. Condition: at most a million elements.
-/
import Derived.Test.YtcadeoolacoidaaWhMem
import Derived.Laws.CopyRow
import Derived.Lib.SliceRun
namespace Go.Proofs.Ytcadeoolacoidaa.Wh
open Go.RowKit Go.Proofs.Ytcadeoolacoidaa.Base Go.Proofs.Ytcadeoolacoidaa.Mem
theorem Only.refl (b : Nat) (w : World) : Only b w w := ⟨rfl, rfl, rfl, rfl, fun _ _ => rfl⟩
theorem Only.trans {b : Nat} {a w w' : World} (h : Only b a w) (h' : Only b w w') : Only b a w' :=
  ⟨h'.os.trans h.os, h'.tape.trans h.tape, h'.output.trans h.output, h'.size.trans h.size, fun k hk => (h'.block k hk).trans (h.block k hk)⟩
theorem Only.setRow (g : Nat) (w : World) (cs : Array Value) : Only g w (w.setRow g cs) := ⟨rfl, rfl, rfl, by simp, fun k hk => setRow_other w g k cs hk⟩
/-- One pointer is appended where there is room. -/
theorem run_keep (w : World) (ty g k cap : Nat) (cur : Array Value) (hg : w.heap[g]? = some (.cells cur 50)) (hk : k + 1 ≤ cap) (hsz : cur.size = cap) (b c e : Nat) (hx : w.cell? ⟨b, 0, none⟩ = some (ptr e)) :
    ∃ w', (Builtin.append_ #[54, 54] ty #[.slice (some ⟨g, 0, none⟩) k cap, .slice (some ⟨b, 0, none⟩) 1 c]).run Try.prog w = .ok (.slice (some ⟨g, 0, none⟩) (k + 1) cap) w' ∧ w'.heap[g]? = some (.cells (cur.setIfInBounds k (ptr e)) 50) ∧ Only g w w' := by
  obtain ⟨zero, bytes, hinfo, hzc, hby⟩ := eltP.info
  obtain ⟨i, hi, hz0, hz1, hz2⟩ := info_parts hinfo
  have hr := run_append_room (P := Try.prog) w 54 ty 50 i eltP.under hi g k cap cur hg ⟨b, 0, none⟩ 1 c [ptr e] (by rw [hz1]; rfl) (fun j u hu => by
    match j, hu with
    | 0, hu =>
      rw [List.getElem?_cons_zero, Option.some.injEq] at hu
      rw [← hu, add_at]; exact hx
    | j + 1, hu => simp at hu) (fun u hu => by rw [List.mem_singleton] at hu; rw [hu]; rfl) hk (by rw [hz1, hsz, Nat.mul_one]; exact hk)
  refine ⟨_, hr, ?_, Only.setRow _ _ _⟩
  rw [setRow_heap w g cur _ _ _ hg, hz1, Nat.mul_one]
  congr 2
  apply Array.ext'
  rw [Array.toList_setIfInBounds, List.set_eq_take_append_cons_drop, if_pos (by rw [Array.length_toList]; omega)]
  simp
theorem setCells_at (g : Nat) (t : TypeId) : ∀ (vs : List Value) (o : Nat) (cur : Array Value) (w : World), w.heap[g]? = some (.cells cur t) → ∃ cur', (w.setCells g o vs).heap[g]? = some (.cells cur' t) ∧ cur'.size = cur.size ∧ (∀ i, i < o → cur'[i]? = cur[i]?) ∧ Only g w (w.setCells g o vs)
  | [], _, cur, w, h => ⟨cur, h, rfl, fun _ _ => rfl, Only.refl _ _⟩
  | v :: r, o, cur, w, h => by
    obtain ⟨cur', h1, h2, h3, h4⟩ := setCells_at g t r (o + 1) (cur.setIfInBounds o v) (w.setCell ⟨g, o, none⟩ v) (block_set h v)
    refine ⟨cur', h1, by simpa using h2, fun i hi => ?_, (Only.setCell g o v w).trans h4⟩
    rw [h3 i (by omega), Array.getElem?_setIfInBounds, if_neg (by omega)]
/-- What lies behind is cleared. -/
theorem run_clear (w : World) (g k m c : Nat) (cur : Array Value) (hg : w.heap[g]? = some (.cells cur 50)) (hk : k + m ≤ cur.size) :
    ∃ w' cur', (∀ ty, (Builtin.clear_ #[54] ty #[.slice (some ⟨g, k, none⟩) m c]).run Try.prog w = .ok (.tuple #[]) w') ∧ w'.heap[g]? = some (.cells cur' 50) ∧ cur'.size = cur.size ∧ (∀ i, i < k → cur'[i]? = cur[i]?) ∧ Only g w w' := by
  by_cases hm : m = 0
  · subst hm
    exact ⟨w, cur, fun ty => by simp [Builtin.clear_, run_underlying eltP.under, Result.andThen], hg, rfl, fun _ _ => rfl, Only.refl _ _⟩
  · obtain ⟨cur', h1, h2, h3, h4⟩ := setCells_at g 50 (List.replicate m (.pointer none)) k cur w hg
    refine ⟨_, cur', fun ty => Lib.run_clear_slice (P := Try.prog) w 54 50 ty (.pointer none) eltP.under Try.zeroValue50 rfl rfl g k m c (by omega) (fun j hj => ?_) (fun j _ => free_of hg), h1, h2, h3, h4⟩
    have : w.cell? ⟨g, k + j, none⟩ = some (cur[k + j]'(by omega)) := cell_of hg (Array.getElem?_eq_getElem _)
    rw [this]; rfl
/-- Within the row l (ids; E: their pointers), at its place j: K has been kept. -/
structure Th (E : Nat → Nat) (g cap : Nat) (l K : List Nat) (j : Nat) (wr : World) : Prop where
  ex : ∃ cur, wr.heap[g]? = some (.cells cur 50) ∧ cur.size = cap ∧ (∀ i k : Nat, K[i]? = some k → cur[i]? = some (ptr (E k))) ∧ ∀ i k : Nat, j ≤ i → l[i]? = some k → cur[i]? = some (ptr (E k))
  kj : K.length ≤ j
section
variable {E : Nat → Nat} {g cap j : Nat} {l K : List Nat} {wr w' : World}
theorem Th.cell (h : Th E g cap l K j wr) {k : Nat} (hk : l[j]? = some k) : wr.cell? ⟨g, j, none⟩ = some (ptr (E k)) := by
  obtain ⟨cur, h1, _, _, h2⟩ := h.ex
  exact cell_of h1 (h2 j k (Nat.le_refl _) hk)
theorem Th.other (h : Th E g cap l K j wr) (ho : w'.heap[g]? = wr.heap[g]?) : Th E g cap l K j w' := by
  obtain ⟨cur, h1, h2⟩ := h.ex
  exact ⟨⟨cur, ho.trans h1, h2⟩, h.kj⟩
theorem Th.skip (h : Th E g cap l K j wr) : Th E g cap l K (j + 1) wr := by
  obtain ⟨cur, h1, h2, h3, h4⟩ := h.ex
  exact ⟨⟨cur, h1, h2, h3, fun i k hi hk => h4 i k (by omega) hk⟩, by have := h.kj; omega⟩
theorem Th.lt (h : Th E g cap l K j wr) : g < wr.heap.size := by
  obtain ⟨cur, h1, _⟩ := h.ex
  exact lt_heap h1
/-- One more is kept. -/
theorem Th.keep (h : Th E g cap l K j wr) {k : Nat} (hj : j < cap) (ty b c : Nat) (hx : wr.cell? ⟨b, 0, none⟩ = some (ptr (E k))) :
    ∃ w', (Builtin.append_ #[54, 54] ty #[.slice (some ⟨g, 0, none⟩) K.length cap, .slice (some ⟨b, 0, none⟩) 1 c]).run Try.prog wr = .ok (.slice (some ⟨g, 0, none⟩) (K.length + 1) cap) w' ∧ Th E g cap l (K ++ [k]) (j + 1) w' ∧ Only g wr w' := by
  obtain ⟨cur, h1, h2, h3, h4⟩ := h.ex
  have hkj := h.kj
  obtain ⟨w', r1, r2, r3⟩ := run_keep wr ty g K.length cap cur h1 (by omega) h2 b c (E k) hx
  refine ⟨w', r1, ⟨⟨_, r2, by simpa using h2, fun i k' hi => ?_, fun i k' hi hk' => ?_⟩, by rw [List.length_append, List.length_singleton]; omega⟩, r3⟩
  · rw [Array.getElem?_setIfInBounds]
    by_cases e : K.length = i
    · subst e
      rw [List.getElem?_append_right (Nat.le_refl _), Nat.sub_self, List.getElem?_cons_zero, Option.some.injEq] at hi
      rw [if_pos rfl, if_pos (by omega), hi]
    · rw [if_neg e]
      have hlt : i < K.length := by
        have := (List.getElem?_eq_some_iff.1 hi).1
        rw [List.length_append, List.length_singleton] at this
        omega
      rw [List.getElem?_append_left hlt] at hi
      exact h3 i k' hi
  · rw [Array.getElem?_setIfInBounds, if_neg (by omega)]
    exact h4 i k' (by omega) hk'
/-- What is kept is a row. -/
theorem Th.row (h : Th E g cap l K j wr) (hc : cap ≤ maxLen) (hk : K.length ≤ cap) : RowAt wr (.slice (some ⟨g, 0, none⟩) K.length cap) (K.map E) := by
  obtain ⟨cur, h1, h2, h3, h4⟩ := h.ex
  refine ⟨?_, Or.inr ⟨g, cap, cur, by rw [List.length_map], Nat.zero_le _, h1, by rw [List.length_map]; omega, hc, by omega, ?_⟩⟩
  · rw [flat_len (fc := pc) (z := 1) (fun _ => rfl), Nat.one_mul, Nat.mul_one]
  · apply List.ext_getElem?
    intro i
    rw [List.length_map, Nat.mul_one, List.getElem?_take]
    have e : ((K.map E).flatMap pc) = K.map fun k => ptr (E k) := by
      rw [List.flatMap_map]
      exact (List.map_eq_flatMap).symm
    rw [e]
    by_cases hi : i < K.length
    · rw [if_pos hi, Array.getElem?_toList, List.getElem?_map, List.getElem?_eq_getElem hi]
      exact h3 i _ (List.getElem?_eq_getElem hi)
    · rw [if_neg hi, List.getElem?_eq_none (by rw [List.length_map]; omega)]
/-- Behind it all: what is kept is the row. -/
theorem Th.done (h : Th E g cap l K j wr) (hc : cap ≤ maxLen) (m c : Nat) (hm : K.length + m ≤ cap) :
    ∃ w', (∀ ty, (Builtin.clear_ #[54] ty #[.slice (some ⟨g, K.length, none⟩) m c]).run Try.prog wr = .ok (.tuple #[]) w') ∧ RowAt w' (.slice (some ⟨g, 0, none⟩) K.length cap) (K.map E) ∧ Only g wr w' := by
  obtain ⟨cur, h1, h2, h3, h4⟩ := h.ex
  obtain ⟨w', cur', r1, r2, r3, r4, r5⟩ := run_clear wr g K.length m c cur h1 (by omega)
  have T : Th E g cap [] K j w' := ⟨⟨cur', r2, by omega, fun i k hi => by
    rw [r4 i (List.getElem?_eq_some_iff.1 hi).1]
    exact h3 i k hi, fun i k _ hk => by simp at hk⟩, h.kj⟩
  exact ⟨w', r1, T.row hc (by omega), r5⟩
theorem clear_none (w : World) (a : Option Addr) (ty c : Nat) : (Builtin.clear_ #[54] ty #[.slice a 0 c]).run Try.prog w = .ok (.tuple #[]) w := by
  cases a <;> simp [Builtin.clear_, run_underlying eltP.under, Result.andThen]
/-- A row that is to be thinned. -/
theorem Th.start {w : World} {n cap : Nat} (h : RowAt w (.slice (some ⟨g, 0, none⟩) n cap) (l.map E)) : Th E g cap l [] 0 w ∧ n = l.length ∧ n ≤ cap ∧ cap ≤ maxLen := by
  have hn := h.num
  rw [List.length_map] at hn
  rcases h.2 with ⟨h2, _⟩ | ⟨g', cap', cur, h2, _, h4, h5, h6, h7, h8⟩
  · cases h2
  · injection h2 with h2 h2n h2c
    rw [Option.some.injEq, Addr.mk.injEq] at h2
    obtain ⟨rfl, _⟩ := h2
    subst h2c
    rw [List.length_map] at h5
    refine ⟨⟨⟨cur, h4, by omega, fun i k hi => by simp at hi, fun i k _ hk => ?_⟩, Nat.zero_le _⟩, hn, by omega, h6⟩
    have e : ((l.map E).flatMap pc) = l.map fun k => ptr (E k) := by
      rw [List.flatMap_map]
      exact (List.map_eq_flatMap).symm
    rw [e, List.length_map, Nat.mul_one] at h8
    have hil := (List.getElem?_eq_some_iff.1 hk).1
    have := congrArg (fun x : List Value => x[i]?) h8
    simp only [List.getElem?_take, if_pos hil, Array.getElem?_toList, List.getElem?_map, hk, Option.map_some] at this
    exact this
end
section
variable {ops : Array Oper} {rest : List Oper} {o : Oper} {a : Act} {Q : Exit → Act → World → Prop} (w : World)
theorem wp_keep (hgd : o.guard = none) (s x : Operand) (hop : o.op = .call { callee := .builtin .append, args := #[s, x], argTypes := #[54, 54] })
    {E : Nat → Nat} {g cap j : Nat} {l K : List Nat} (h : Th E g cap l K j w) {k : Nat} (hj : j < cap) {b c : Nat} (hb : w.cell? ⟨b, 0, none⟩ = some (ptr (E k))) (hs : a.eval s = .slice (some ⟨g, 0, none⟩) K.length cap) (hx : a.eval x = .slice (some ⟨b, 0, none⟩) 1 c)
    (hK : ∀ w', Th E g cap l (K ++ [k]) (j + 1) w' → Only g w w' → wpList Try.prog ops Q rest (a.put o.dst (.slice (some ⟨g, 0, none⟩) (K.length + 1) cap)) w') : wpList Try.prog ops Q (o :: rest) a w :=
  wpList_plain hgd fun _ hK' => by
    obtain ⟨w', hr, h2, h3⟩ := h.keep hj o.type b c hb
    unfold Oper.wp execOp
    simp only [hop, resolve, invoke, builtin, Sem.run_bind, Sem.run_pure, Result.andThen_ok, List.map_toArray, List.map_cons, List.map_nil, hs, hx, hr]
    exact hK' _ _ (hK w' h2 h3)
end
end Go.Proofs.Ytcadeoolacoidaa.Wh
