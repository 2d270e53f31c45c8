/-
  Appending to a slice of one-cell values that the call made itself, where there is room and where there is none; and a copy as one step of a walk. Condition: at most a million elements.
-/
import Derived.Test.YtllojgmlngfibaaLnMem
import Derived.Deep.AppendSrc
import Derived.Lib.Hide
import Derived.Deep.RegionLaw
namespace Go.Proofs.Ytllojgmlngfibaa.Ln
open Go.RowKit Go.Proofs.Ytllojgmlngfibaa.Base Go.Proofs.Ytllojgmlngfibaa.Mem
/-- What one must know of the elements' type E and the slice's type S. -/
structure El {α : Type} (E S : TypeId) (enc : α → Value) (z : Value) (bytes : Nat) : Prop where
  under : Try.prog.underlying S = some (.slice E)
  info : (Try.prog.info? E).map (fun i => (i.zero, i.size, i.bytes)) = some (some z, 1, bytes)
  zero : z.cells = #[z]
  one : ∀ x, (enc x).oneCell' = true
  few : bytes ≤ 1000
theorem elB : El 5 43 val8 (.int .u8 0) 1 := ⟨Try.underlying43, infoB, rfl, fun _ => rfl, by decide⟩
theorem elS : El 9 38 valS (.string ⟨#[]⟩) 16 := ⟨Try.underlying38, infoS, rfl, fun _ => rfl, by decide⟩
section
variable {α : Type} {E S : TypeId} {enc : α → Value} {z : Value} {bytes : Nat}
theorem ones (he : El E S enc z bytes) (l : List α) : ∀ v ∈ l.map enc, v.oneCell' = true := fun v hv => by
  obtain ⟨x, _, rfl⟩ := List.mem_map.1 hv; exact he.one x
/-- What lies at an address, as an append's second argument. -/
theorem src_at (he : El E S enc z bytes) (w : World) (b o m c : Nat) (l : List α) (hl : l.length = m) (hc : ∀ i x, l[i]? = some x → w.cell? ⟨b, o + i, none⟩ = some (enc x)) : Src Try.prog 1 S (.slice (some ⟨b, o, none⟩) m c) m (l.map enc) w :=
  Src.ofSlice w he.under ⟨b, o, none⟩ m c (l.map enc) (by rw [List.length_map, hl, Nat.mul_one]) (fun j u hj => by
    rw [add_off]
    rw [List.getElem?_map] at hj
    obtain ⟨x, hx, rfl⟩ := Option.map_eq_some_iff.1 hj
    exact hc j x hx) (ones he l)
theorem run_append_sl (he : El E S enc z bytes) (w : World) (ty base : Nat) (v : Value) (l : List α) (h : Sl E enc w base v l) (xv : Value) (n : Nat) (l2 : List α) (hl2 : l2.length = n) (hs : Src Try.prog 1 S xv n (l2.map enc) w) (hpos : 0 < n) (hz : l.length + n ≤ 1000000) (hb : base ≤ w.heap.size) :
    ∃ v' w', (Builtin.append_ #[S, S] ty #[v, xv]).run Try.prog w = .ok v' w' ∧ Sl E enc w' base v' (l ++ l2) ∧ w.grownBy w' v.ownBlock := by
  obtain ⟨i, hi, hz0, hz1, hz2⟩ := info_parts he.info
  have hs' : Src Try.prog i.size S xv n (l2.map enc) w := by rw [hz1]; exact hs
  have hfew := he.few
  have hbytes : (l.length + n) * bytes ≤ 140737488355328 := Nat.le_trans (Nat.mul_le_mul hz hfew) (by decide)
  have grow : ∀ (b : Option Addr) (cap : Nat), v = .slice b l.length cap → (Builtin.firstCells i.size l.length (.slice b l.length cap)).run Try.prog w.drew = .ok (l.map enc).toArray w.drew → cap < l.length + n →
      ∃ v' w', (Builtin.append_ #[S, S] ty #[v, xv]).run Try.prog w = .ok v' w' ∧ Sl E enc w' base v' (l ++ l2) ∧ w.grownBy w' v.ownBlock := by
    intro b cap hv hold hroom
    subst hv
    have hr := run_append_grow_src (P := Try.prog) w S S ty E i z he.under hi hz0 b l.length cap (l.map enc) hold xv n (l2.map enc) hs' hroom (by omega) (growslice_fits hroom (by rw [hz2]; exact hbytes))
    have hge := grownCap_ge w (l.length + n) cap E
    have hle := grownCap_le_maxLen w (l.length + n) cap E (by unfold maxLen; omega)
    refine ⟨_, _, hr, ?_, ?_⟩
    · have hnew := rw_new (E := E) (enc := enc) w.drew ((l.map enc ++ l2.map enc).toArray ++ Builtin.zeroCells z.cells (grownCap w (l.length + n) cap E - (l.length + n))) (l ++ l2) (grownCap w (l.length + n) cap E)
        (by rw [Array.size_append, size_zeroCells, he.zero]; simp; omega) (by unfold maxLen at hle; omega) (by rw [List.length_append, hl2]; exact hge) (fun j x hj => by
          have hlt := (List.getElem?_eq_some_iff.1 hj).1
          rw [Array.getElem?_append_left (by simpa using hlt)]
          rw [← List.map_append, List.getElem?_toArray, List.getElem?_map, hj]; rfl)
      exact Sl.of (by exact hb) hnew (by rw [List.length_append, hl2])
    · exact ⟨rfl, rfl, rfl, by simp, fun _ hk _ => heap_alloc_old w.drew _ hk⟩
  rcases h with ⟨rfl, rfl⟩ | ⟨g, off, cap, rfl, hbg, hR⟩
  · exact grow none 0 rfl (by simpa using run_firstCells_none (P := Try.prog) w.drew i.size 0 0 0) (by simp; omega)
  · by_cases hroom : l.length + n ≤ cap
    · have hr := run_append_room_src (P := Try.prog) w S S ty E i he.under hi g off l.length cap xv n (l2.map enc) hs' hroom
        (fun j hj => by rw [List.length_map, hl2] at hj; rw [hz1, Nat.mul_one, Nat.add_assoc]; exact hR.has _ (by omega)) (fun j hj => by rw [List.length_map, hl2] at hj; rw [hz1, Nat.mul_one, Nat.add_assoc]; exact hR.free _ (by omega))
      rw [hz1, Nat.mul_one] at hr
      refine ⟨_, _, hr, ?_, grown_sc w g _ _⟩
      refine Sl.of hbg (hR.write l.length l2 (by omega) (l ++ l2) (by rw [List.length_append, hl2]; exact hroom) fun j x hj => ?_) (by rw [List.length_append, hl2])
      have hlt := (List.getElem?_eq_some_iff.1 hj).1
      rw [List.length_append] at hlt
      by_cases hjl : j < l.length
      · rw [if_neg (by omega)]
        rwa [List.getElem?_append_left hjl] at hj
      · rw [if_pos (by omega)]
        rwa [List.getElem?_append_right (by omega)] at hj
    · refine grow (some ⟨g, off, none⟩) cap rfl ?_ (by omega)
      exact run_firstCells_some (P := Try.prog) w.drew i.size l.length ⟨g, off, none⟩ l.length cap (l.map enc) (by rw [hz1, List.length_map, Nat.mul_one]) (fun j u hj => by
        rw [add_off]
        rw [List.getElem?_map] at hj
        obtain ⟨x, hx, rfl⟩ := Option.map_eq_some_iff.1 hj
        exact hR.cell j x hx)
theorem wpList_append_sl (he : El E S enc z bytes) {ops : Array Oper} {rest : List Oper} {o : Oper} {a : Act} {Q : Exit → Act → World → Prop} (w : World) (hgd : o.guard = none) (s x : Operand)
    (hop : o.op = .call { callee := .builtin .append, args := #[s, x], argTypes := #[S, S] })
    (base : Nat) (v : Value) (hv : a.eval s = v) (l : List α) (h : Sl E enc w base v l) (xv : Value) (hx : a.eval x = xv) (n : Nat) (l2 : List α) (hl2 : l2.length = n) (hs : Src Try.prog 1 S xv n (l2.map enc) w) (hpos : 0 < n) (hz : l.length + n ≤ 1000000) (hb : base ≤ w.heap.size)
    (hK : ∀ v' w', Sl E enc w' base v' (l ++ l2) → w.grownBy w' v.ownBlock → wpList Try.prog ops Q rest (a.put o.dst v') w') : wpList Try.prog ops Q (o :: rest) a w :=
  wpList_plain hgd fun _ hQ => by
    obtain ⟨v', w', hr, h2, h3⟩ := run_append_sl he w o.type base v l h xv n l2 hl2 hs hpos hz hb
    unfold Oper.wp execOp
    simp only [hop, resolve, invoke, builtin, Sem.run_bind, Sem.run_pure, Result.andThen_ok, List.map_toArray, List.map_cons, List.map_nil, hv, hx, hr]
    exact hQ _ _ (hK v' w' h2 h3)
theorem Sl.base {w : World} {base : Nat} {v : Value} {l : List α} (h : Sl E enc w base v l) : ∀ k, v.ownBlock = some k → base ≤ k ∧ k < w.heap.size := fun k hk => by
  rcases h with ⟨rfl, _⟩ | ⟨g, off, cap, rfl, h2, h3⟩
  · cases hk
  · cases hk; exact ⟨h2, h3.lt⟩
theorem grown_base {w w' : World} {base : Nat} {v : Value} {l : List α} (h : Sl E enc w base v l) (hg : w.grownBy w' v.ownBlock) (hb : base ≤ w.heap.size) : Below base w w' :=
  ⟨hg.os, hg.tape, hg.output, hg.size, fun k hk => hg.block k (by omega) fun e => by have := (h.base k e.symm).1; omega⟩
end
section
variable {P : Program}
/-- A copy whose run is known. -/
theorem wp_copy_known (w : World) {o : Oper} {a : Act} {K : Act → World → Prop} {Q : Exit → Act → World → Prop} (d s : Operand) (t t' : TypeId)
    (ho : o.op = .call { callee := .builtin .copy, args := #[d, s], argTypes := #[t, t'] }) {v u : Value} (hd : a.eval d = v) (hs : a.eval s = u) {v' : Value} {w' : World}
    (hr : (Builtin.copy_ #[t, t'] o.type #[v, u]).run P w = .ok v' w') (h : K (a.put o.dst v') w') : o.wp P a w K Q := by
  unfold Oper.wp execOp
  simp only [ho, resolve, invoke, builtin, Sem.run_bind, Sem.run_pure, Result.andThen_ok, List.map_toArray, List.map_cons, List.map_nil, hd, hs, hr]
  exact h
theorem wpList_copy_known (w : World) {ops : Array Oper} {rest : List Oper} {o : Oper} {a : Act} {Q : Exit → Act → World → Prop} (hgd : o.guard = none) (d s : Operand) (t t' : TypeId)
    (ho : o.op = .call { callee := .builtin .copy, args := #[d, s], argTypes := #[t, t'] }) {v u : Value} (hd : a.eval d = v) (hs : a.eval s = u) {v' : Value} {w' : World}
    (hr : (Builtin.copy_ #[t, t'] o.type #[v, u]).run P w = .ok v' w') (h : wpList P ops Q rest (a.put o.dst v') w') : wpList P ops Q (o :: rest) a w :=
  wpList_plain hgd fun _ hQ => wp_copy_known w d s t t' ho hd hs hr (hQ _ _ h)
theorem step_copy_known {ops : Array Oper} {o : Oper} {a : Act} {w : World} {K : Act → World → Prop} {Q : Exit → Act → World → Prop} {E : Prop}
    (hg : o.guard = none) (d s : Operand) (t t' : TypeId) (ho : o.op = .call { callee := .builtin .copy, args := #[d, s], argTypes := #[t, t'] })
    {v u : Value} (hd : a.eval d = v) (hs : a.eval s = u) {v' : Value} {w' : World} (hr : (Builtin.copy_ #[t, t'] o.type #[v, u]).run P w = .ok v' w') (hK : K (a.put o.dst v') w') :
    if Region.wanted o (yielded ops a.tmps) = true then Oper.wp P o a w K Q else E := by
  rw [if_pos (by simp [Region.wanted, hg])]
  exact wp_copy_known w d s t t' ho hd hs hr hK
end
end Go.Proofs.Ytllojgmlngfibaa.Ln
