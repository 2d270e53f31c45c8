/-
  A slice of values of any number of cells that the call made itself, with its spare room, wherever in its block it begins: appended to in either arm, cut ahead, read. Condition: at most a million elements.
-/
import Derived.Test.YtidcoodmlgmcjaaOwnS
import Derived.Deep.AppendSrc
import Derived.Laws.IdiomCopy
import Derived.Laws.AppendOwn
import Derived.Lib.Hide
import Derived.Deep.RegionHeld
import Derived.Below
namespace Go.Proofs.Ytidcoodmlgmcjaa.Mem
open Go.RowKit Go.Proofs.Ytidcoodmlgmcjaa.Base
section
variable {α : Type} {E S z : Nat} {fc : α → List Value}
theorem scs_size (b : Nat) : ∀ (vs : List Value) (o : Nat) (w : World), (w.setCells b o vs).heap.size = w.heap.size
  | [], _, _ => rfl
  | v :: r, o, w => by rw [World.setCells, scs_size b r]; simp [World.setCell]
theorem scs_some (b : Nat) (vs : List Value) (o : Nat) (w : World) (h : ∀ j, j < vs.length → (w.cell? ⟨b, o + j, none⟩).isSome = true) (k : Nat) (hk : (w.cell? ⟨b, k, none⟩).isSome = true) : ((w.setCells b o vs).cell? ⟨b, k, none⟩).isSome = true := by
  by_cases hin : o ≤ k ∧ k < o + vs.length
  · have := World.cell?_setCells_in b vs o w h (k - o) (by omega)
    rw [show o + (k - o) = k by omega] at this
    rw [this]; rfl
  · rw [World.cell?_setCells_out b vs o w ⟨b, k, none⟩ (fun _ _ => by show k < o ∨ o + vs.length ≤ k; omega)]
    exact hk
theorem scs_grown (w : World) (g o : Nat) (vs : List Value) : w.grownBy (w.setCells g o vs) (some g) := by
  have hb : ∀ (vs : List Value) (o : Nat) (w : World) (k : Nat), k ≠ g → (w.setCells g o vs).heap[k]? = w.heap[k]? := by
    intro vs
    induction vs with
    | nil => intro o w k _; rfl
    | cons v r ih => intro o w k hk; rw [World.setCells, ih _ _ _ hk]; exact Below.heap_setCell w _ _ _ hk
  have hs : ∀ (vs : List Value) (o : Nat) (w : World), (w.setCells g o vs).os = w.os ∧ (w.setCells g o vs).tape = w.tape ∧ (w.setCells g o vs).output = w.output := by
    intro vs
    induction vs with
    | nil => intro o w; exact ⟨rfl, rfl, rfl⟩
    | cons v r ih => intro o w; exact ih _ _
  obtain ⟨h1, h2, h3⟩ := hs vs o w
  exact ⟨h1, h2, h3, by rw [scs_size]; exact Nat.le_refl _, fun k _ hk => hb vs o w k fun e => hk (by rw [e])⟩
/-- The row of cap places at off of the block g, of which the first ones hold l. -/
structure Rz (z : Nat) (fc : α → List Value) (w : World) (g off cap : Nat) (l : List α) : Prop where
  len : l.length ≤ cap
  max : cap ≤ 9223372036854775807
  lt : g < w.heap.size
  cell : ∀ i x, l[i]? = some x → ∀ j, j < z → w.cell? ⟨g, off + (z * i + j), none⟩ = (fc x)[j]?
  has : ∀ i, i < z * cap → (w.cell? ⟨g, off + i, none⟩).isSome = true
  free : ∀ i, i < z * cap → w.frozen? ⟨g, off + i, none⟩ = false
theorem Rz.eqv {w w' : World} {g off cap : Nat} {l : List α} (h : Rz z fc w g off cap l) (hb : w'.heap[g]? = w.heap[g]?) : Rz z fc w' g off cap l := by
  have hc : ∀ i, w'.cell? ⟨g, i, none⟩ = w.cell? ⟨g, i, none⟩ := fun i => World.cell?_of_block (a := ⟨g, i, none⟩) hb
  have hf : ∀ i, w'.frozen? ⟨g, i, none⟩ = w.frozen? ⟨g, i, none⟩ := fun i => World.frozen?_of_block (a := ⟨g, i, none⟩) hb
  refine ⟨h.len, h.max, ?_, fun i x hi j hj => (hc _).trans (h.cell i x hi j hj), fun i hi => by rw [hc]; exact h.has i hi, fun i hi => (hf _).trans (h.free i hi)⟩
  have : w.heap[g]? = some (w.heap[g]'h.lt) := Array.getElem?_eq_getElem h.lt
  exact lt_heap (hb.trans this)
theorem Rz.below {w w' : World} {g off cap : Nat} {l : List α} (h : Rz z fc w g off cap l) (hb : Below w.heap.size w w') : Rz z fc w' g off cap l := h.eqv (hb.block g h.lt)
theorem Rz.drop {w : World} {g off cap : Nat} {l : List α} (h : Rz z fc w g off cap l) (k : Nat) (hk : k ≤ cap) : Rz z fc w g (off + z * k) (cap - k) (l.drop k) := by
  have hm : z * (cap - k) + z * k = z * cap := by rw [← Nat.mul_add, Nat.sub_add_cancel hk]
  refine ⟨by rw [List.length_drop]; have := h.len; omega, by have := h.max; omega, h.lt, fun i x hi j hj => ?_, fun i hi => ?_, fun i hi => ?_⟩
  · rw [List.getElem?_drop] at hi
    have := h.cell (k + i) x hi j hj
    rw [Nat.mul_add] at this
    rw [show off + z * k + (z * i + j) = off + (z * k + z * i + j) by omega]
    exact this
  · rw [Nat.add_assoc]; exact h.has _ (by omega)
  · rw [Nat.add_assoc]; exact h.free _ (by omega)
/-- Elements are laid behind those that are there. -/
theorem Rz.app {w : World} {g off cap : Nat} {l : List α} (hl : ∀ x, (fc x).length = z) (h : Rz z fc w g off cap l) (l2 : List α) (hc : l.length + l2.length ≤ cap) : Rz z fc (w.setCells g (off + z * l.length) (l2.flatMap fc)) g off cap (l ++ l2) := by
  have hfl := flat_len hl l2
  have hm : z * l.length + z * l2.length ≤ z * cap := by rw [← Nat.mul_add]; exact Nat.mul_le_mul_left _ hc
  have hs : ∀ j, j < (l2.flatMap fc).length → (w.cell? ⟨g, off + z * l.length + j, none⟩).isSome = true := fun j hj => by
    rw [hfl] at hj
    rw [Nat.add_assoc]
    exact h.has _ (by omega)
  refine ⟨by rw [List.length_append]; exact hc, h.max, by rw [scs_size]; exact h.lt, fun i x hi j hj => ?_, fun j hj => scs_some g _ _ _ hs _ (h.has j hj), fun j hj => by rw [World.frozen?_setCells]; exact h.free j hj⟩
  by_cases hin : i < l.length
  · rw [List.getElem?_append_left hin] at hi
    have h1 : z * i + z ≤ z * l.length := by rw [← Nat.mul_succ]; exact Nat.mul_le_mul_left _ hin
    rw [World.cell?_setCells_out g _ _ w ⟨g, off + (z * i + j), none⟩ (fun _ _ => by show off + (z * i + j) < off + z * l.length ∨ _; omega)]
    exact h.cell i x hi j hj
  · rw [List.getElem?_append_right (by omega)] at hi
    have hlt : i - l.length < l2.length := (List.getElem?_eq_some_iff.1 hi).1
    have h1 : z * (i - l.length) + z ≤ z * l2.length := by rw [← Nat.mul_succ]; exact Nat.mul_le_mul_left _ hlt
    have h2 : z * l.length + z * (i - l.length) = z * i := by rw [← Nat.mul_add]; congr 1; omega
    have hk : z * (i - l.length) + j < (l2.flatMap fc).length := by rw [hfl]; omega
    have := World.cell?_setCells_in g (l2.flatMap fc) (off + z * l.length) w hs (z * (i - l.length) + j) hk
    rw [show off + z * l.length + (z * (i - l.length) + j) = off + (z * i + j) by omega] at this
    rw [this, ← List.getElem?_eq_getElem, flat_get hl l2 x _ j hi hj]
/-- A block that was just laid. -/
theorem rz_new (hl : ∀ x, (fc x).length = z) (w : World) (cs : Array Value) (E : TypeId) (l : List α) (cap : Nat) (hc : cs.size = z * cap) (hm : cap ≤ 9223372036854775807) (hlen : l.length ≤ cap) (hx : ∀ (k : Nat) (v : Value), (l.flatMap fc)[k]? = some v → cs[k]? = some v) : Rz z fc (w.alloc (.cells cs E)) w.heap.size 0 cap l := by
  have hb : (w.alloc (.cells cs E)).heap[w.heap.size]? = some (.cells cs E) := nest w [.cells cs E] 0 _ rfl
  refine ⟨hlen, hm, by simp, fun i x hi j hj => ?_, fun i hi => ?_, fun i _ => free_of hb⟩
  · rw [Nat.zero_add]
    have hj' : j < (fc x).length := by rw [hl]; exact hj
    have hv := hx (z * i + j) (fc x)[j] (by rw [flat_get hl l x i j hi hj, List.getElem?_eq_getElem hj'])
    rw [cell_of hb hv, List.getElem?_eq_getElem hj']
  · rw [Nat.zero_add, cell_of hb (v := cs[i]'(by omega)) (Array.getElem?_eq_getElem _)]; rfl
/-- The slice v, in memory from block 'base' on, holds l. -/
def Qz (z : Nat) (fc : α → List Value) (w : World) (base : Nat) (v : Value) (l : List α) : Prop :=
  (v = .slice none 0 0 ∧ l = []) ∨ ∃ g off cap, v = .slice (some ⟨g, off, none⟩) l.length cap ∧ base ≤ g ∧ Rz z fc w g off cap l
theorem qz_nil (w : World) (base : Nat) : Qz z fc w base (.slice none 0 0) ([] : List α) := Or.inl ⟨rfl, rfl⟩
theorem Qz.below {w w' : World} {base : Nat} {v : Value} {l : List α} (h : Qz z fc w base v l) (hb : Below w.heap.size w w') : Qz z fc w' base v l := by
  rcases h with h | ⟨g, off, cap, h1, h2, h3⟩
  · exact Or.inl h
  · exact Or.inr ⟨g, off, cap, h1, h2, h3.below hb⟩
theorem Qz.eqv {w w' : World} {base : Nat} {v : Value} {l : List α} (h : Qz z fc w base v l) (hb : ∀ g, v.ownBlock = some g → w'.heap[g]? = w.heap[g]?) : Qz z fc w' base v l := by
  rcases h with h | ⟨g, off, cap, rfl, h2, h3⟩
  · exact Or.inl h
  · exact Or.inr ⟨g, off, cap, rfl, h2, h3.eqv (hb g rfl)⟩
theorem Qz.lt {w : World} {base : Nat} {v : Value} {l : List α} (h : Qz z fc w base v l) : ∀ k, v.ownBlock = some k → base ≤ k ∧ k < w.heap.size := fun k hk => by
  rcases h with ⟨rfl, _⟩ | ⟨g, off, cap, rfl, h2, h3⟩
  · cases hk
  · cases hk; exact ⟨h2, h3.lt⟩
theorem Qz.of {w : World} {base g off cap n : Nat} {l : List α} (hb : base ≤ g) (h : Rz z fc w g off cap l) (hn : l.length = n) : Qz z fc w base (.slice (some ⟨g, off, none⟩) n cap) l := by
  subst hn; exact Or.inr ⟨g, off, cap, rfl, hb, h⟩
theorem Qz.form {w : World} {base : Nat} {v : Value} {l : List α} (h : Qz z fc w base v l) : ∃ oa cap, v = .slice oa l.length cap := by
  rcases h with ⟨rfl, rfl⟩ | ⟨g, off, cap, rfl, _, _⟩
  · exact ⟨none, 0, rfl⟩
  · exact ⟨_, cap, rfl⟩
/-- What lies at an address, as an append's second argument. -/
theorem srcz_at (he : Elt E S z fc) (w : World) (b o m c : Nat) (l : List α) (hl : l.length = m) (hc : ∀ i x, l[i]? = some x → ∀ j, j < z → w.cell? ⟨b, o + (z * i + j), none⟩ = (fc x)[j]?) : Src Try.prog z S (.slice (some ⟨b, o, none⟩) m c) m (l.flatMap fc) w := by
  refine Src.ofSlice w he.under ⟨b, o, none⟩ m c (l.flatMap fc) (by rw [flat_len he.len, hl, Nat.mul_comm]) (fun k u hk => ?_) (fun u hu => ?_)
  · rw [add_off]
    have hlt : k < z * l.length := by
      have := (List.getElem?_eq_some_iff.1 hk).1
      rwa [flat_len he.len] at this
    have hdm := Nat.div_add_mod k z
    have hmod := Nat.mod_lt k he.pos
    have hdiv : k / z < l.length := by
      rw [Nat.div_lt_iff_lt_mul he.pos, Nat.mul_comm]; exact hlt
    have hx : l[k / z]? = some (l[k / z]'hdiv) := List.getElem?_eq_getElem _
    have h1 := hc (k / z) _ hx (k % z) hmod
    rw [hdm] at h1
    rw [h1, ← hk, ← flat_get he.len l _ (k / z) (k % z) hx hmod, hdm]
  · obtain ⟨x, _, hx⟩ := List.mem_flatMap.1 hu
    exact he.one x u hx
/-- Elements are appended, where there is room and where there is none. -/
theorem run_append_q (he : Elt E S z fc) (w : World) (ty base : Nat) (v : Value) (l : List α) (h : Qz z fc w base v l) (xv : Value) (n : Nat) (l2 : List α) (hl2 : l2.length = n) (hs : Src Try.prog z S xv n (l2.flatMap fc) w) (hpos : 0 < n) (hz : l.length + n ≤ 1000000) (hb : base ≤ w.heap.size) :
    ∃ v' w', (Builtin.append_ #[S, S] ty #[v, xv]).run Try.prog w = .ok v' w' ∧ Qz z fc w' base v' (l ++ l2) ∧ w.grownBy w' v.ownBlock ∧ (v'.ownBlock = v.ownBlock ∨ v'.ownBlock = some w.heap.size) := by
  obtain ⟨zero, bytes, hinfo, hzc, hby⟩ := he.info
  obtain ⟨i, hi, hz0, hz1, hz2⟩ := info_parts hinfo
  have hs' : Src Try.prog i.size S xv n (l2.flatMap fc) w := by rw [hz1]; exact hs
  have hbytes : (l.length + n) * bytes ≤ 140737488355328 := Nat.le_trans (Nat.mul_le_mul hz hby) (by decide)
  have hfl := flat_len he.len l
  have hfl2 := flat_len he.len l2
  have grow : ∀ (b : Option Addr) (cap : Nat), v = .slice b l.length cap → (Builtin.firstCells i.size l.length (.slice b l.length cap)).run Try.prog w.drew = .ok (l.flatMap fc).toArray w.drew → cap < l.length + n →
      ∃ v' w', (Builtin.append_ #[S, S] ty #[v, xv]).run Try.prog w = .ok v' w' ∧ Qz z fc w' base v' (l ++ l2) ∧ w.grownBy w' v.ownBlock ∧ (v'.ownBlock = v.ownBlock ∨ v'.ownBlock = some w.heap.size) := by
    intro b cap hv hold hroom
    subst hv
    have hr := run_append_grow_src (P := Try.prog) w S S ty E i zero he.under hi hz0 b l.length cap (l.flatMap fc) hold xv n (l2.flatMap fc) hs' hroom (by omega) (growslice_fits hroom (by rw [hz2]; exact hbytes))
    have hge := grownCap_ge w (l.length + n) cap E
    have hle := grownCap_le_maxLen w (l.length + n) cap E (by unfold maxLen; omega)
    refine ⟨_, _, hr, ?_, ?_, Or.inr rfl⟩
    · have hsz : ((l.flatMap fc ++ l2.flatMap fc).toArray ++ Builtin.zeroCells zero.cells (grownCap w (l.length + n) cap E - (l.length + n))).size = z * grownCap w (l.length + n) cap E := by
        rw [Array.size_append, size_zeroCells, hzc, List.size_toArray, List.length_append, hfl, hfl2, hl2, ← Nat.mul_add, Nat.mul_comm (_ - _) z, ← Nat.mul_add]
        congr 1
        omega
      have hnew := rz_new he.len w.drew ((l.flatMap fc ++ l2.flatMap fc).toArray ++ Builtin.zeroCells zero.cells (grownCap w (l.length + n) cap E - (l.length + n))) E (l ++ l2) (grownCap w (l.length + n) cap E)
        hsz (by unfold maxLen at hle; omega) (by rw [List.length_append, hl2]; exact hge) (fun j x hj => by
          rw [List.flatMap_append] at hj
          have hlt := (List.getElem?_eq_some_iff.1 hj).1
          rw [Array.getElem?_append_left (by simpa using hlt), List.getElem?_toArray]
          exact hj)
      exact Qz.of (by exact hb) hnew (by rw [List.length_append, hl2])
    · exact ⟨rfl, rfl, rfl, by simp, fun _ hk _ => heap_alloc_old w.drew _ hk⟩
  rcases h with ⟨rfl, rfl⟩ | ⟨g, off, cap, rfl, hbg, hR⟩
  · exact grow none 0 rfl (by simpa using run_firstCells_none (P := Try.prog) w.drew i.size 0 0 0) (by simp; omega)
  · by_cases hroom : l.length + n ≤ cap
    · have hm : z * l.length + z * n ≤ z * cap := by rw [← Nat.mul_add]; exact Nat.mul_le_mul_left _ hroom
      have hr := run_append_room_src (P := Try.prog) w S S ty E i he.under hi g off l.length cap xv n (l2.flatMap fc) hs' hroom
        (fun j hj => by rw [hfl2, hl2] at hj; rw [hz1, Nat.mul_comm, Nat.add_assoc]; exact hR.has _ (by omega)) (fun j hj => by rw [hfl2, hl2] at hj; rw [hz1, Nat.mul_comm, Nat.add_assoc]; exact hR.free _ (by omega))
      rw [hz1, Nat.mul_comm] at hr
      exact ⟨_, _, hr, Qz.of hbg (hR.app he.len l2 (by rw [hl2]; exact hroom)) (by rw [List.length_append, hl2]), scs_grown w g _ _, Or.inl rfl⟩
    · refine grow (some ⟨g, off, none⟩) cap rfl ?_ (by omega)
      exact run_firstCells_some (P := Try.prog) w.drew i.size l.length ⟨g, off, none⟩ l.length cap (l.flatMap fc) (by rw [hz1, hfl, Nat.mul_comm]) (fun k u hk => by
        rw [add_off]
        have hlt : k < z * l.length := by
          have := (List.getElem?_eq_some_iff.1 hk).1
          rwa [hfl] at this
        have hdm := Nat.div_add_mod k z
        have hmod := Nat.mod_lt k he.pos
        have hdiv : k / z < l.length := by
          rw [Nat.div_lt_iff_lt_mul he.pos, Nat.mul_comm]; exact hlt
        have hx : l[k / z]? = some (l[k / z]'hdiv) := List.getElem?_eq_getElem _
        have h1 := hR.cell (k / z) _ hx (k % z) hmod
        rw [hdm] at h1
        show w.cell? _ = _
        rw [h1, ← hk, ← flat_get he.len l _ (k / z) (k % z) hx hmod, hdm])
end
section
variable {P : Program}
/-- An append whose run is known, as one step of a region that draws. -/
theorem step_append_known {ops : Array Oper} {o : Oper} {a : Act} {w : World} {K : Act → World → Prop} {Q : Exit → Act → World → Prop} {X : Prop}
    (hg : o.guard = none) (d s : Operand) (t t' : TypeId) (ho : o.op = .call { callee := .builtin .append, args := #[d, s], argTypes := #[t, t'] })
    {v u : Value} (hd : a.eval d = v) (hs : a.eval s = u) {v' : Value} {w' : World} (hr : (Builtin.append_ #[t, t'] o.type #[v, u]).run P w = .ok v' w') (hK : K (a.put o.dst v') w') :
    if Region.wanted o (yielded ops a.tmps) = true then Oper.wp P o a w K Q else X := by
  rw [if_pos (by simp [Region.wanted, hg])]
  unfold Oper.wp execOp
  simp only [ho, resolve, invoke, builtin, Sem.run_bind, Sem.run_pure, Result.andThen_ok, List.map_toArray, List.map_cons, List.map_nil, hd, hs, hr]
  exact hK
end
end Go.Proofs.Ytidcoodmlgmcjaa.Mem
