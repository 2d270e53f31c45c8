/-
  A map from octets to pointers: which keys it holds, each one's pointer; looked up, stored into, deleted from, counted. No condition but that keys are octets.
-/
import Derived.Test.YtcadeoolacoidaaChg
import Derived.Maps.OwnOps
import Derived.Maps.OwnSet
namespace Go.Proofs.Ytcadeoolacoidaa.Wh
open Go.RowKit Go.Proofs.Ytcadeoolacoidaa.Base Go.Proofs.Ytcadeoolacoidaa.Mem
open Go.ChangeMaps Go.MapKept
abbrev oc (x : Nat) : Value := .int .u8 (x : Int)
theorem K8 : Maps.Keyed Try.prog 5 := Maps.int_keyed Try.underlying5
theorem key8 {k : Nat} (h : k < 256) : keyOf Try.prog 5 (oc k) = some (.int .u8 (k : Int)) :=
  Maps.keyOf_int_mk Try.underlying5 (by
    show (decide ((0 : Int) ≤ (k : Int)) && decide ((k : Int) ≤ 255)) = true
    simp only [Bool.and_eq_true, decide_eq_true_eq]; omega)
theorem oc_inj {a b : Nat} (h : oc a = oc b) : a = b := by
  injection h with _ h; omega
/-- Block b is a map that holds these keys, each with a pointer to its block. -/
structure MapAt (w : World) (b : Nat) (ks : List Nat) (E : Nat → Nat) : Prop where
  blk : ∃ es clock, w.heap[b]? = some (.map es clock) ∧ es.toList.map (fun e => (e.key, e.val)) = ks.map fun k => (oc k, ptr (E k))
  nodup : ks.Nodup
  small : ∀ k ∈ ks, k < 256
/-- Only block b has changed, and it is still there. -/
structure Only (b : Nat) (w w' : World) : Prop where
  os : w'.os = w.os
  tape : w'.tape = w.tape
  output : w'.output = w.output
  size : w'.heap.size = w.heap.size
  block : ∀ k, k ≠ b → w'.heap[k]? = w.heap[k]?
theorem Only.chg {S : Nat → Prop} {b : Nat} {w w' : World} (h : Only b w w') (hb : S b) : Chg S w w' := ⟨h.os, h.tape, h.output, by rw [h.size]; exact Nat.le_refl _, fun k _ hn => h.block k fun e => hn (e ▸ hb)⟩
theorem Only.setBlock {b : Nat} {w : World} {es : Array MapEntry} {c : Nat} (hb : w.heap[b]? = some (.map es c)) (o : Obj) : Only b w (setBlock w b o) :=
  ⟨rfl, rfl, rfl, by simp [ChangeMaps.setBlock], fun _ h => heap_setBlock_other hb o h⟩
theorem Only.setCell (b i : Nat) (v : Value) (w : World) : Only b w (w.setCell ⟨b, i, none⟩ v) :=
  ⟨rfl, rfl, rfl, by simp, fun _ h => set_other h v⟩
section
variable {w : World} {b : Nat} {ks : List Nat} {E : Nat → Nat}
theorem MapAt.keep {w' : World} (h : MapAt w b ks E) (hb : w'.heap[b]? = w.heap[b]?) : MapAt w' b ks E := by
  obtain ⟨⟨es, c, h1, h2⟩, h3, h4⟩ := h
  exact ⟨⟨es, c, hb.trans h1, h2⟩, h3, h4⟩
theorem MapAt.len (h : MapAt w b ks E) : ∃ es clock, w.heap[b]? = some (.map es clock) ∧ es.size = ks.length := by
  obtain ⟨es, c, h1, h2⟩ := h.blk
  refine ⟨es, c, h1, ?_⟩
  have := congrArg List.length h2
  simpa using this
theorem entry_in {es : Array MapEntry} (h : es.toList.map (fun e => (e.key, e.val)) = ks.map fun k => (oc k, ptr (E k))) {j : Nat} {e : MapEntry} (hj : es.toList[j]? = some e) : ∃ k, ks[j]? = some k ∧ e.key = oc k ∧ e.val = ptr (E k) := by
  have h1 : (es.toList.map (fun e => (e.key, e.val)))[j]? = some (e.key, e.val) := by rw [List.getElem?_map, hj]; rfl
  rw [h, List.getElem?_map] at h1
  cases hk : ks[j]? with
  | none => rw [hk] at h1; cases h1
  | some k =>
    rw [hk, Option.map_some, Option.some.injEq, Prod.mk.injEq] at h1
    exact ⟨k, rfl, h1.1.symm, h1.2.symm⟩
theorem entry_mem {es : Array MapEntry} (h : es.toList.map (fun e => (e.key, e.val)) = ks.map fun k => (oc k, ptr (E k))) {e : MapEntry} (he : e ∈ es.toList) : ∃ k ∈ ks, e.key = oc k ∧ e.val = ptr (E k) := by
  obtain ⟨j, hj⟩ := List.mem_iff_getElem?.1 he
  obtain ⟨k, h1, h2⟩ := entry_in h hj
  exact ⟨k, List.mem_of_getElem? h1, h2⟩
theorem has_entry {es : Array MapEntry} (h : es.toList.map (fun e => (e.key, e.val)) = ks.map fun k => (oc k, ptr (E k))) {k : Nat} (hk : k ∈ ks) : ∃ e ∈ es.toList, e.key = oc k := by
  have : (oc k, ptr (E k)) ∈ es.toList.map (fun e => (e.key, e.val)) := by rw [h]; exact List.mem_map.2 ⟨k, hk, rfl⟩
  obtain ⟨e, he, h2⟩ := List.mem_map.1 this
  exact ⟨e, he, congrArg Prod.fst h2⟩
/-- Where a key stands, if it stands there. -/
theorem find8 {es : Array MapEntry} (hs : ∀ k ∈ ks, k < 256) (h : es.toList.map (fun e => (e.key, e.val)) = ks.map fun k => (oc k, ptr (E k))) {i : Nat} (hi : i < 256) (w : World) :
    ((Instr.findKey 5 (oc i) es.toList).run Try.prog w = .ok none w ∧ i ∉ ks) ∨ ∃ j e, (Instr.findKey 5 (oc i) es.toList).run Try.prog w = .ok (some (j, ptr (E i))) w ∧ es[j]? = some e ∧ e.key = oc i ∧ ks[j]? = some i := by
  rcases K8.find w (key8 hi) es.toList (fun e he => by
    obtain ⟨k, hk, h1, _⟩ := entry_mem h he
    exact ⟨_, by rw [h1]; exact key8 (hs k hk)⟩) with ⟨h1, h2⟩ | ⟨j, e, h1, h2, h3⟩
  · refine Or.inl ⟨h1, fun hk => ?_⟩
    obtain ⟨e, he, hek⟩ := has_entry h hk
    exact h2 e he hek
  · obtain ⟨k, hk, h4, h5⟩ := entry_in h h2
    have : k = i := oc_inj (h4.symm.trans h3)
    subst this
    exact Or.inr ⟨j, e, by rw [h1, h5], by simpa using h2, h3, hk⟩
theorem zeroP (w : World) : (zeroValue 50).run Try.prog w = .ok (.pointer none) w := Try.zeroValue50 w
theorem MapAt.look (h : MapAt w b ks E) {i : Nat} (hi : i < 256) : (Instr.lookup 47 (.map (some b)) (oc i) false).run Try.prog w = .ok (if i ∈ ks then ptr (E i) else .pointer none) w := by
  obtain ⟨es, c, hb, h2⟩ := h.blk
  rcases find8 h.small h2 hi w with ⟨h1, h3⟩ | ⟨j, e, h1, h3, h4, h5⟩
  · rw [if_neg h3]
    simp [Instr.lookup, run_underlying Try.underlying47, MapKept.run_getObj_map hb, K8.check w _ (key8 hi), h1, zeroP w, Result.andThen]
  · rw [if_pos (List.mem_of_getElem? h5)]
    simp [Instr.lookup, run_underlying Try.underlying47, MapKept.run_getObj_map hb, K8.check w _ (key8 hi), h1, Result.andThen]
/-- A key that it doesn't hold. -/
theorem MapAt.add (h : MapAt w b ks E) {i e : Nat} (hi : i < 256) (hn : i ∉ ks) {E' : Nat → Nat} (hE : ∀ k ∈ ks, E' k = E k) (he : E' i = e) :
    ∃ w', (Instr.mapUpdate 47 (.map (some b)) (oc i) (ptr e)).run Try.prog w = .ok () w' ∧ MapAt w' b (ks ++ [i]) E' ∧ Only b w w' := by
  obtain ⟨es, c, hb, h2⟩ := h.blk
  rcases find8 h.small h2 hi w with ⟨h1, h3⟩ | ⟨j, e0, h1, h3, h4, h5⟩
  · refine ⟨setBlock w b (.map (es.push ⟨oc i, ptr e, c⟩) (c + 1)), ?_, ⟨⟨_, _, heap_setBlock_same hb _, ?_⟩, ?_, ?_⟩, Only.setBlock hb _⟩
    · simp [Instr.mapUpdate, run_underlying Try.underlying47, MapKept.run_getObj_map hb, K8.check w false (key8 hi), h1, MapKept.run_setObj_map _ hb, Result.andThen, setBlock]
    · rw [Array.toList_push, List.map_append, List.map_append, h2, List.map_singleton, List.map_singleton, he]
      congr 1
      exact List.map_congr_left fun k hk => by rw [hE k hk]
    · exact List.nodup_append.2 ⟨h.nodup, by simp, fun a ha b hb e => by rw [List.mem_singleton] at hb; subst hb; subst e; exact h3 ha⟩
    · intro k hk
      rcases List.mem_append.1 hk with hk | hk
      · exact h.small k hk
      · rw [List.mem_singleton] at hk; omega
  · exact absurd (List.mem_of_getElem? h5) hn
theorem erase_at {j i : Nat} (hn : ks.Nodup) (h : ks[j]? = some i) : ks.erase i = ks.eraseIdx j := by
  induction ks generalizing j with
  | nil => simp at h
  | cons a r ih =>
    cases j with
    | zero =>
      rw [List.getElem?_cons_zero, Option.some.injEq] at h
      subst h
      simp
    | succ j =>
      rw [List.getElem?_cons_succ] at h
      have hne : a ≠ i := fun e => (List.nodup_cons.1 hn).1 (e ▸ List.mem_of_getElem? h)
      rw [List.erase_cons_tail (by simpa using hne), List.eraseIdx_cons_succ, ih (List.nodup_cons.1 hn).2 h]
/-- A key that it holds is deleted. -/
theorem MapAt.del (h : MapAt w b ks E) {i : Nat} (hi : i < 256) (hm : i ∈ ks) (ty : TypeId) :
    ∃ w', (Builtin.delete_ #[47, 5] ty #[.map (some b), oc i]).run Try.prog w = .ok (.tuple #[]) w' ∧ MapAt w' b (ks.erase i) E ∧ Only b w w' := by
  obtain ⟨es, c, hb, h2⟩ := h.blk
  rcases find8 h.small h2 hi w with ⟨h1, h3⟩ | ⟨j, e0, h1, h3, h4, h5⟩
  · exact absurd hm h3
  · have hjs : j < es.size := (Array.getElem?_eq_some_iff.1 h3).1
    have hsub : (es.eraseIdxIfInBounds j).toList = es.toList.eraseIdx j := by
      unfold Array.eraseIdxIfInBounds
      rw [dif_pos hjs]
      simp
    refine ⟨setBlock w b (.map (es.eraseIdxIfInBounds j) c), ?_, ⟨⟨_, _, heap_setBlock_same hb _, ?_⟩, h.nodup.erase _, fun k hk => h.small k (List.mem_of_mem_erase hk)⟩, Only.setBlock hb _⟩
    · simp [Builtin.delete_, run_underlying Try.underlying47, MapKept.run_getObj_map hb, K8.check w _ (key8 hi), h1, MapKept.run_setObj_map _ hb, Result.andThen, setBlock]
    · rw [hsub, erase_at h.nodup h5, ChangeMaps.map_eraseIdx, ChangeMaps.map_eraseIdx, h2]
theorem MapAt.made (w : World) (E : Nat → Nat) : MapAt (w.alloc (.map #[] 0)) w.heap.size [] E :=
  ⟨⟨#[], 0, (MapKept.heap_alloc w _).1, rfl⟩, List.nodup_nil, fun k hk => by simp at hk⟩
end
section
variable {ops : Array Oper} {rest : List Oper} {o : Oper} {a : Act} {Q : Exit → Act → World → Prop} (w : World)
theorem wp_look (hg : o.guard = none) (m x : Operand) (hop : o.op = Op.lookup 47 m x false) {b : Nat} {ks : List Nat} {E : Nat → Nat} (h : MapAt w b ks E) {i : Nat} (hi : i < 256) (hm : a.eval m = .map (some b)) (hx : a.eval x = oc i) {v : Value} (hv : (if i ∈ ks then ptr (E i) else .pointer none) = v)
    (hK : wpList Try.prog ops Q rest (a.put o.dst v) w) : wpList Try.prog ops Q (o :: rest) a w := by
  refine wpList_plain hg fun K' hK' => ?_
  have hrun := h.look hi
  rw [hv] at hrun
  unfold Oper.wp
  simp only [execOp, hop, hm, hx, hrun, Result.andThen_ok, Sem.run_bind, Sem.run_pure]
  exact hK' _ _ hK
theorem wp_add (hg : o.guard = none) (m x v : Operand) (hop : o.op = Op.mapUpdate 47 m x v) {b : Nat} {ks : List Nat} {E : Nat → Nat} (h : MapAt w b ks E) {i e : Nat} (hi : i < 256) (hn : i ∉ ks) {E' : Nat → Nat} (hE : ∀ k ∈ ks, E' k = E k) (he : E' i = e)
    (hm : a.eval m = .map (some b)) (hx : a.eval x = oc i) (hv : a.eval v = ptr e)
    (hK : ∀ w', MapAt w' b (ks ++ [i]) E' → Only b w w' → wpList Try.prog ops Q rest (a.put o.dst undef) w') : wpList Try.prog ops Q (o :: rest) a w := by
  refine wpList_plain hg fun K' hK' => ?_
  obtain ⟨w', hrun, r1, r2⟩ := h.add hi hn hE he
  unfold Oper.wp
  simp only [execOp, hop, hm, hx, hv, hrun, Result.andThen_ok, Sem.run_bind, Sem.run_pure]
  exact hK' _ _ (hK w' r1 r2)
theorem wp_del (hg : o.guard = none) (m x : Operand) (hop : o.op = Op.call { callee := Callee.builtin Builtin.delete, args := #[m, x], argTypes := #[47, 5] }) {b : Nat} {ks : List Nat} {E : Nat → Nat} (h : MapAt w b ks E) {i : Nat} (hi : i < 256) (hin : i ∈ ks)
    (hm : a.eval m = .map (some b)) (hx : a.eval x = oc i)
    (hK : ∀ w', MapAt w' b (ks.erase i) E → Only b w w' → wpList Try.prog ops Q rest (a.put o.dst (.tuple #[])) w') : wpList Try.prog ops Q (o :: rest) a w := by
  refine wpList_plain hg fun K' hK' => ?_
  obtain ⟨w', hrun, r1, r2⟩ := h.del hi hin o.type
  unfold Oper.wp
  simp [execOp, hop, resolve, invoke, builtin, hm, hx, hrun, Result.andThen]
  exact hK' _ _ (hK w' r1 r2)
end
end Go.Proofs.Ytcadeoolacoidaa.Wh
