/-
  Layer 22, put together: Rz, Rowm, CtlPm. Conditions: as each theorem names them.
-/
import Derived.Test.YtakkhdammmcjcaaGreatDoorK05
import Derived.Test.YtakkhdammmcjcaaGreatDoorK06
import Derived.Deep.AppendSrc
import Derived.Laws.IdiomCopy
import Derived.Laws.AppendOwn
import Derived.Lib.Hide
import Derived.Deep.RegionHeld
import Derived.Below
import Derived.Lib.SliceRun
import Derived.Deep.RegionLaw
namespace Go.Proofs.YtakkhdammmcjcaaGreatDoor.Mem
open Go.RowKit Base
set_option maxRecDepth 20000
section
variable {α : Type} {E S z : Nat} {fc : α → List Value}
theorem scs_size (b : Nat) : ∀ (vs : List Value) (o : Nat) (w : World), (w.setCells b o vs).heap.size = w.heap.size
 | [], _, _ => rfl
 | v :: r, o, w => by rw [World.setCells, scs_size b r]; simp [World.setCell]
theorem scs_some (b : Nat) (vs : List Value) (o : Nat) (w : World) (h : ∀ j, j < vs.length → (w.cell? ⟨b, o + j, none⟩).isSome = true) (k : Nat) (hk : (w.cell? ⟨b, k, none⟩).isSome = true) : ((w.setCells b o vs).cell? ⟨b, k, none⟩).isSome = true := by
 by_cases hin : o ≤ k ∧ k < o + vs.length
 · have := World.cell?_setCells_in b vs o w h (k - o) (by omega)
   rw [show o + (k - o) = k by omega] at this
   rw [this]; rfl
 · rw [World.cell?_setCells_out b vs o w ⟨b, k, none⟩ (fun _ _ => by show k < o ∨ o + vs.length ≤ k; omega)]
   exact hk
theorem scs_grown (w : World) (g o : Nat) (vs : List Value) : w.grownBy (w.setCells g o vs) (some g) := by
 have hb : ∀ (vs : List Value) (o : Nat) (w : World) (k : Nat), k ≠ g → (w.setCells g o vs).heap[k]? = w.heap[k]? := by
  intro vs
  induction vs with
  | nil => intro o w k _; rfl
  | cons v r ih => intro o w k hk; rw [World.setCells, ih _ _ _ hk]; exact Below.heap_setCell w _ _ _ hk
 have hs : ∀ (vs : List Value) (o : Nat) (w : World), (w.setCells g o vs).os = w.os ∧ (w.setCells g o vs).tape = w.tape ∧ (w.setCells g o vs).output = w.output := by
  intro vs
  induction vs with
  | nil => intro o w; exact ⟨rfl, rfl, rfl⟩
  | cons v r ih => intro o w; exact ih _ _
 obtain ⟨h1, h2, h3⟩ := hs vs o w
 exact ⟨h1, h2, h3, by rw [scs_size]; exact Nat.le_refl _, fun k _ hk => hb vs o w k fun e => hk (by rw [e])⟩
/-- The row of cap places at off of the block g, of which the first ones hold l. -/
structure Rz (z : Nat) (fc : α → List Value) (w : World) (g off cap : Nat) (l : List α) : Prop where
 len : l.length ≤ cap
 max : cap ≤ 9223372036854775807
 lt : g < w.heap.size
 cell : ∀ i x, l[i]? = some x → ∀ j, j < z → w.cell? ⟨g, off + (z * i + j), none⟩ = (fc x)[j]?
 has : ∀ i, i < z * cap → (w.cell? ⟨g, off + i, none⟩).isSome = true
 free : ∀ i, i < z * cap → w.frozen? ⟨g, off + i, none⟩ = false
theorem Rz.eqv {w w' : World} {g off cap : Nat} {l : List α} (h : Rz z fc w g off cap l) (hb : w'.heap[g]? = w.heap[g]?) : Rz z fc w' g off cap l := by
 have hc : ∀ i, w'.cell? ⟨g, i, none⟩ = w.cell? ⟨g, i, none⟩ := fun i => World.cell?_of_block (a := ⟨g, i, none⟩) hb
 have hf : ∀ i, w'.frozen? ⟨g, i, none⟩ = w.frozen? ⟨g, i, none⟩ := fun i => World.frozen?_of_block (a := ⟨g, i, none⟩) hb
 refine ⟨h.len, h.max, ?_, fun i x hi j hj => (hc _).trans (h.cell i x hi j hj), fun i hi => by rw [hc]; exact h.has i hi, fun i hi => (hf _).trans (h.free i hi)⟩
 have : w.heap[g]? = some (w.heap[g]'h.lt) := Array.getElem?_eq_getElem h.lt
 exact lt_heap (hb.trans this)
theorem Rz.below {w w' : World} {g off cap : Nat} {l : List α} (h : Rz z fc w g off cap l) (hb : Below w.heap.size w w') : Rz z fc w' g off cap l := h.eqv (hb.block g h.lt)
theorem Rz.drop {w : World} {g off cap : Nat} {l : List α} (h : Rz z fc w g off cap l) (k : Nat) (hk : k ≤ cap) : Rz z fc w g (off + z * k) (cap - k) (l.drop k) := by
 have hm : z * (cap - k) + z * k = z * cap := by rw [← Nat.mul_add, Nat.sub_add_cancel hk]
 refine ⟨by rw [List.length_drop]; have := h.len; omega, by have := h.max; omega, h.lt, fun i x hi j hj => ?_, fun i hi => ?_, fun i hi => ?_⟩
 · rw [List.getElem?_drop] at hi
   have := h.cell (k + i) x hi j hj
   rw [Nat.mul_add] at this
   rw [show off + z * k + (z * i + j) = off + (z * k + z * i + j) by omega]
   exact this
 · rw [Nat.add_assoc]; exact h.has _ (by omega)
 · rw [Nat.add_assoc]; exact h.free _ (by omega)
/-- Elements are laid behind those that are there. -/
theorem Rz.app {w : World} {g off cap : Nat} {l : List α} (hl : ∀ x, (fc x).length = z) (h : Rz z fc w g off cap l) (l2 : List α) (hc : l.length + l2.length ≤ cap) : Rz z fc (w.setCells g (off + z * l.length) (l2.flatMap fc)) g off cap (l ++ l2) := by
 have hfl := flat_len hl l2
 have hm : z * l.length + z * l2.length ≤ z * cap := by rw [← Nat.mul_add]; exact Nat.mul_le_mul_left _ hc
 have hs : ∀ j, j < (l2.flatMap fc).length → (w.cell? ⟨g, off + z * l.length + j, none⟩).isSome = true := fun j hj => by
  rw [hfl] at hj
  rw [Nat.add_assoc]
  exact h.has _ (by omega)
 refine ⟨by rw [List.length_append]; exact hc, h.max, by rw [scs_size]; exact h.lt, fun i x hi j hj => ?_, fun j hj => scs_some g _ _ _ hs _ (h.has j hj), fun j hj => by rw [World.frozen?_setCells]; exact h.free j hj⟩
 by_cases hin : i < l.length
 · rw [List.getElem?_append_left hin] at hi
   have h1 : z * i + z ≤ z * l.length := by rw [← Nat.mul_succ]; exact Nat.mul_le_mul_left _ hin
   rw [World.cell?_setCells_out g _ _ w ⟨g, off + (z * i + j), none⟩ (fun _ _ => by show off + (z * i + j) < off + z * l.length ∨ _; omega)]
   exact h.cell i x hi j hj
 · rw [List.getElem?_append_right (by omega)] at hi
   have hlt : i - l.length < l2.length := (List.getElem?_eq_some_iff.1 hi).1
   have h1 : z * (i - l.length) + z ≤ z * l2.length := by rw [← Nat.mul_succ]; exact Nat.mul_le_mul_left _ hlt
   have h2 : z * l.length + z * (i - l.length) = z * i := by rw [← Nat.mul_add]; congr 1; omega
   have hk : z * (i - l.length) + j < (l2.flatMap fc).length := by rw [hfl]; omega
   have := World.cell?_setCells_in g (l2.flatMap fc) (off + z * l.length) w hs (z * (i - l.length) + j) hk
   rw [show off + z * l.length + (z * (i - l.length) + j) = off + (z * i + j) by omega] at this
   rw [this, ← List.getElem?_eq_getElem, flat_get hl l2 x _ j hi hj]
/-- A block that was just laid. -/
theorem rz_new (hl : ∀ x, (fc x).length = z) (w : World) (cs : Array Value) (E : TypeId) (l : List α) (cap : Nat) (hc : cs.size = z * cap) (hm : cap ≤ 9223372036854775807) (hlen : l.length ≤ cap) (hx : ∀ (k : Nat) (v : Value), (l.flatMap fc)[k]? = some v → cs[k]? = some v) : Rz z fc (w.alloc (.cells cs E)) w.heap.size 0 cap l := by
 have hb : (w.alloc (.cells cs E)).heap[w.heap.size]? = some (.cells cs E) := nest w [.cells cs E] 0 _ rfl
 refine ⟨hlen, hm, by simp, fun i x hi j hj => ?_, fun i hi => ?_, fun i _ => free_of hb⟩
 · rw [Nat.zero_add]
   have hj' : j < (fc x).length := by rw [hl]; exact hj
   have hv := hx (z * i + j) (fc x)[j] (by rw [flat_get hl l x i j hi hj, List.getElem?_eq_getElem hj'])
   rw [cell_of hb hv, List.getElem?_eq_getElem hj']
 · rw [Nat.zero_add, cell_of hb (v := cs[i]'(by omega)) (Array.getElem?_eq_getElem _)]; rfl
/-- The slice v, in memory from block 'base' on, holds l. -/
def Qz (z : Nat) (fc : α → List Value) (w : World) (base : Nat) (v : Value) (l : List α) : Prop :=
 (v = .slice none 0 0 ∧ l = []) ∨ ∃ g off cap, v = .slice (some ⟨g, off, none⟩) l.length cap ∧ base ≤ g ∧ Rz z fc w g off cap l
theorem qz_nil (w : World) (base : Nat) : Qz z fc w base (.slice none 0 0) ([] : List α) := Or.inl ⟨rfl, rfl⟩
theorem Qz.below {w w' : World} {base : Nat} {v : Value} {l : List α} (h : Qz z fc w base v l) (hb : Below w.heap.size w w') : Qz z fc w' base v l := by
 rcases h with h | ⟨g, off, cap, h1, h2, h3⟩
 · exact Or.inl h
 · exact Or.inr ⟨g, off, cap, h1, h2, h3.below hb⟩
theorem Qz.eqv {w w' : World} {base : Nat} {v : Value} {l : List α} (h : Qz z fc w base v l) (hb : ∀ g, v.ownBlock = some g → w'.heap[g]? = w.heap[g]?) : Qz z fc w' base v l := by
 rcases h with h | ⟨g, off, cap, rfl, h2, h3⟩
 · exact Or.inl h
 · exact Or.inr ⟨g, off, cap, rfl, h2, h3.eqv (hb g rfl)⟩
theorem Qz.lt {w : World} {base : Nat} {v : Value} {l : List α} (h : Qz z fc w base v l) : ∀ k, v.ownBlock = some k → base ≤ k ∧ k < w.heap.size := fun k hk => by
 rcases h with ⟨rfl, _⟩ | ⟨g, off, cap, rfl, h2, h3⟩
 · cases hk
 · cases hk; exact ⟨h2, h3.lt⟩
theorem Qz.of {w : World} {base g off cap n : Nat} {l : List α} (hb : base ≤ g) (h : Rz z fc w g off cap l) (hn : l.length = n) : Qz z fc w base (.slice (some ⟨g, off, none⟩) n cap) l := by
 subst hn; exact Or.inr ⟨g, off, cap, rfl, hb, h⟩
theorem Qz.form {w : World} {base : Nat} {v : Value} {l : List α} (h : Qz z fc w base v l) : ∃ oa cap, v = .slice oa l.length cap := by
 rcases h with ⟨rfl, rfl⟩ | ⟨g, off, cap, rfl, _, _⟩
 · exact ⟨none, 0, rfl⟩
 · exact ⟨_, cap, rfl⟩
/-- What lies at an address, as an append's second argument. -/
theorem srcz_at (he : Elt E S z fc) (w : World) (b o m c : Nat) (l : List α) (hl : l.length = m) (hc : ∀ i x, l[i]? = some x → ∀ j, j < z → w.cell? ⟨b, o + (z * i + j), none⟩ = (fc x)[j]?) : Src Tryz.prog z S (.slice (some ⟨b, o, none⟩) m c) m (l.flatMap fc) w := by
 refine Src.ofSlice w he.under ⟨b, o, none⟩ m c (l.flatMap fc) (by rw [flat_len he.len, hl, Nat.mul_comm]) (fun k u hk => ?_) (fun u hu => ?_)
 · rw [add_off]
   have hlt : k < z * l.length := by
    have := (List.getElem?_eq_some_iff.1 hk).1
    rwa [flat_len he.len] at this
   have hdm := Nat.div_add_mod k z
   have hmod := Nat.mod_lt k he.pos
   have hdiv : k / z < l.length := by
    rw [Nat.div_lt_iff_lt_mul he.pos, Nat.mul_comm]; exact hlt
   have hx : l[k / z]? = some (l[k / z]'hdiv) := List.getElem?_eq_getElem _
   have h1 := hc (k / z) _ hx (k % z) hmod
   rw [hdm] at h1
   rw [h1, ← hk, ← flat_get he.len l _ (k / z) (k % z) hx hmod, hdm]
 · obtain ⟨x, _, hx⟩ := List.mem_flatMap.1 hu
   exact he.one x u hx
/-- Elements are appended, where there is room and where there is none. -/
theorem run_append_q (he : Elt E S z fc) (w : World) (ty base : Nat) (v : Value) (l : List α) (h : Qz z fc w base v l) (xv : Value) (n : Nat) (l2 : List α) (hl2 : l2.length = n) (hs : Src Tryz.prog z S xv n (l2.flatMap fc) w) (hpos : 0 < n) (hz : l.length + n ≤ 1000000) (hb : base ≤ w.heap.size) :
 ∃ v' w', (Builtin.append_ #[S, S] ty #[v, xv]).run Tryz.prog w = .ok v' w' ∧ Qz z fc w' base v' (l ++ l2) ∧ w.grownBy w' v.ownBlock ∧ (v'.ownBlock = v.ownBlock ∨ v'.ownBlock = some w.heap.size) := by
 obtain ⟨zero, bytes, hinfo, hzc, hby⟩ := he.info
 obtain ⟨i, hi, hz0, hz1, hz2⟩ := info_parts hinfo
 have hs' : Src Tryz.prog i.size S xv n (l2.flatMap fc) w := by rw [hz1]; exact hs
 have hbytes : (l.length + n) * bytes ≤ 140737488355328 := Nat.le_trans (Nat.mul_le_mul hz hby) (by decide)
 have hfl := flat_len he.len l
 have hfl2 := flat_len he.len l2
 have grow : ∀ (b : Option Addr) (cap : Nat), v = .slice b l.length cap → (Builtin.firstCells i.size l.length (.slice b l.length cap)).run Tryz.prog w.drew = .ok (l.flatMap fc).toArray w.drew → cap < l.length + n →
  ∃ v' w', (Builtin.append_ #[S, S] ty #[v, xv]).run Tryz.prog w = .ok v' w' ∧ Qz z fc w' base v' (l ++ l2) ∧ w.grownBy w' v.ownBlock ∧ (v'.ownBlock = v.ownBlock ∨ v'.ownBlock = some w.heap.size) := by
  intro b cap hv hold hroom
  subst hv
  have hr := run_append_grow_src (P := Tryz.prog) w S S ty E i zero he.under hi hz0 b l.length cap (l.flatMap fc) hold xv n (l2.flatMap fc) hs' hroom (by omega) (growslice_fits hroom (by rw [hz2]; exact hbytes))
  have hge := grownCap_ge w (l.length + n) cap E
  have hle := grownCap_le_maxLen w (l.length + n) cap E (by unfold maxLen; omega)
  refine ⟨_, _, hr, ?_, ?_, Or.inr rfl⟩
  · have hsz : ((l.flatMap fc ++ l2.flatMap fc).toArray ++ Builtin.zeroCells zero.cells (grownCap w (l.length + n) cap E - (l.length + n))).size = z * grownCap w (l.length + n) cap E := by
     rw [Array.size_append, size_zeroCells, hzc, List.size_toArray, List.length_append, hfl, hfl2, hl2, ← Nat.mul_add, Nat.mul_comm (_ - _) z, ← Nat.mul_add]
     congr 1
     omega
    have hnew := rz_new he.len w.drew ((l.flatMap fc ++ l2.flatMap fc).toArray ++ Builtin.zeroCells zero.cells (grownCap w (l.length + n) cap E - (l.length + n))) E (l ++ l2) (grownCap w (l.length + n) cap E)
     hsz (by unfold maxLen at hle; omega) (by rw [List.length_append, hl2]; exact hge) (fun j x hj => by
      rw [List.flatMap_append] at hj
      have hlt := (List.getElem?_eq_some_iff.1 hj).1
      rw [Array.getElem?_append_left (by simpa using hlt), List.getElem?_toArray]
      exact hj)
    exact Qz.of (by exact hb) hnew (by rw [List.length_append, hl2])
  · exact ⟨rfl, rfl, rfl, by simp, fun _ hk _ => heap_alloc_old w.drew _ hk⟩
 rcases h with ⟨rfl, rfl⟩ | ⟨g, off, cap, rfl, hbg, hR⟩
 · exact grow none 0 rfl (by simpa using run_firstCells_none (P := Tryz.prog) w.drew i.size 0 0 0) (by simp; omega)
 · by_cases hroom : l.length + n ≤ cap
   · have hm : z * l.length + z * n ≤ z * cap := by rw [← Nat.mul_add]; exact Nat.mul_le_mul_left _ hroom
     have hr := run_append_room_src (P := Tryz.prog) w S S ty E i he.under hi g off l.length cap xv n (l2.flatMap fc) hs' hroom
      (fun j hj => by rw [hfl2, hl2] at hj; rw [hz1, Nat.mul_comm, Nat.add_assoc]; exact hR.has _ (by omega)) (fun j hj => by rw [hfl2, hl2] at hj; rw [hz1, Nat.mul_comm, Nat.add_assoc]; exact hR.free _ (by omega))
     rw [hz1, Nat.mul_comm] at hr
     exact ⟨_, _, hr, Qz.of hbg (hR.app he.len l2 (by rw [hl2]; exact hroom)) (by rw [List.length_append, hl2]), scs_grown w g _ _, Or.inl rfl⟩
   · refine grow (some ⟨g, off, none⟩) cap rfl ?_ (by omega)
     exact run_firstCells_some (P := Tryz.prog) w.drew i.size l.length ⟨g, off, none⟩ l.length cap (l.flatMap fc) (by rw [hz1, hfl, Nat.mul_comm]) (fun k u hk => by
      rw [add_off]
      have hlt : k < z * l.length := by
       have := (List.getElem?_eq_some_iff.1 hk).1
       rwa [hfl] at this
      have hdm := Nat.div_add_mod k z
      have hmod := Nat.mod_lt k he.pos
      have hdiv : k / z < l.length := by
       rw [Nat.div_lt_iff_lt_mul he.pos, Nat.mul_comm]; exact hlt
      have hx : l[k / z]? = some (l[k / z]'hdiv) := List.getElem?_eq_getElem _
      have h1 := hR.cell (k / z) _ hx (k % z) hmod
      rw [hdm] at h1
      show w.cell? _ = _
      rw [h1, ← hk, ← flat_get he.len l _ (k / z) (k % z) hx hmod, hdm])
end
section
variable {P : Program}
/-- An append whose run is known, as one step of a region that draws. -/
theorem step_append_known {ops : Array Oper} {o : Oper} {a : Act} {w : World} {K : Act → World → Prop} {Q : Exit → Act → World → Prop} {X : Prop}
 (hg : o.guard = none) (d s : Operand) (t t' : TypeId) (ho : o.op = .call { callee := .builtin .append, args := #[d, s], argTypes := #[t, t'] })
 {v u : Value} (hd : a.eval d = v) (hs : a.eval s = u) {v' : Value} {w' : World} (hr : (Builtin.append_ #[t, t'] o.type #[v, u]).run P w = .ok v' w') (hK : K (a.put o.dst v') w') :
 if Region.wanted o (yielded ops a.tmps) = true then Oper.wp P o a w K Q else X := by
 rw [if_pos (by simp [Region.wanted, hg])]
 unfold Oper.wp execOp
 simp only [ho, resolve, invoke, builtin, Sem.run_bind, Sem.run_pure, Result.andThen_ok, List.map_toArray, List.map_cons, List.map_nil, hd, hs, hr]
 exact hK
end
end Go.Proofs.YtakkhdammmcjcaaGreatDoor.Mem
namespace Go.Proofs.YtakkhdammmcjcaaGreatDoor.Msgs
open Go.RowKit Base Mem
set_option maxRecDepth 20000
section
variable {α : Type} {E S z n cap g base : Nat} {fc : α → List Value} {w : World} {l A B : List α}
theorem own_raw (h : OwnS E z fc w base (.slice (some ⟨g, 0, none⟩) n cap) l) : ∃ cur, w.heap[g]? = some (.cells cur E (0, 0)) ∧ n ≤ cap ∧ cap ≤ maxLen ∧ cur.size = cap * z ∧ base ≤ g := by
 rcases h.2 with ⟨h1, _⟩ | ⟨g', cap', cur, h1, h2, h3, h4, h5, h6, _⟩
 · cases h1
 · injection h1 with h1 h7 h8
   rw [Option.some.injEq, Addr.mk.injEq] at h1
   obtain ⟨rfl, _⟩ := h1
   subst h8
   exact ⟨cur, h3, by rw [h7]; exact h4, h5, h6, h2⟩
theorem own_rz (hl : ∀ x, (fc x).length = z) (h : OwnS E z fc w base (.slice (some ⟨g, 0, none⟩) n cap) l) : Rz z fc w g 0 cap l := by
 obtain ⟨cur, h1, h2, h3, h4, h5⟩ := own_raw h
 have hn := h.num
 unfold maxLen at h3
 refine ⟨by omega, by omega, lt_heap h1, fun i x hi j hj => ?_, fun i hi => ?_, fun i _ => h.free _⟩
 · rw [Nat.zero_add]; exact OwnS.cell hl h i x hi j hj
 · rw [Nat.zero_add, cell_of h1 (v := cur[i]'(by rw [h4, Nat.mul_comm]; exact hi)) (Array.getElem?_eq_getElem _)]; rfl
theorem rz_own (hl : ∀ x, (fc x).length = z) (hz : 0 < z) (h : Rz z fc w g 0 cap l) {cur : Array Value} (hb : w.heap[g]? = some (.cells cur E (0, 0))) (hs : cur.size = cap * z) (hm : cap ≤ maxLen) (hg : base ≤ g) : OwnS E z fc w base (.slice (some ⟨g, 0, none⟩) l.length cap) l := by
 have hfl := flat_len hl l
 have hm2 : l.length * z ≤ cap * z := Nat.mul_le_mul_right _ h.len
 refine ⟨by rw [hfl, Nat.mul_comm], Or.inr ⟨g, cap, cur, rfl, hg, hb, h.len, hm, hs, ?_⟩⟩
 apply List.ext_getElem?
 intro k
 by_cases hk : k < l.length * z
 · rw [List.getElem?_take, if_pos hk, Array.getElem?_toList]
   have hdm := Nat.div_add_mod k z
   have hmod := Nat.mod_lt k hz
   have hdiv : k / z < l.length := by rw [Nat.div_lt_iff_lt_mul hz]; exact hk
   have hx : l[k / z]? = some (l[k / z]'hdiv) := List.getElem?_eq_getElem _
   have h1 := h.cell (k / z) _ hx (k % z) hmod
   rw [Nat.zero_add, hdm] at h1
   have h2 : w.cell? ⟨g, k, none⟩ = cur[k]? := by
    have hc : k < cur.size := by omega
    rw [cell_of hb (v := cur[k]'hc) (Array.getElem?_eq_getElem hc), Array.getElem?_eq_getElem hc]
   rw [← h2, h1, ← flat_get hl l _ (k / z) (k % z) hx hmod, hdm]
 · have e1 : (cur.toList.take (l.length * z))[k]? = none := List.getElem?_eq_none (by rw [List.length_take]; omega)
   have e2 : (l.flatMap fc)[k]? = none := List.getElem?_eq_none (by rw [hfl, Nat.mul_comm]; omega)
   rw [e1, e2]
theorem Rz_first {off : Nat} (h : Rz z fc w g off cap (A ++ B)) : Rz z fc w g off cap A :=
 ⟨by have := h.len; rw [List.length_append] at this; omega, h.max, h.lt, fun i x hi j hj => h.cell i x (by rw [List.getElem?_append_left (List.getElem?_eq_some_iff.1 hi).1]; exact hi) j hj, h.has, h.free⟩
/-- The first ones alone. -/
theorem own_first (hl : ∀ x, (fc x).length = z) (hz : 0 < z) (h : OwnS E z fc w base (.slice (some ⟨g, 0, none⟩) n cap) (A ++ B)) : OwnS E z fc w base (.slice (some ⟨g, 0, none⟩) A.length cap) A := by
 obtain ⟨cur, h1, _, h3, h4, h5⟩ := own_raw h
 exact rz_own hl hz (Rz_first (own_rz hl h)) h1 h4 h3 h5
theorem overL_far : ∀ (vs L : List Value) (o : Nat), L.length ≤ o → overL L o vs = L
 | [], _, _, _ => rfl
 | v :: r, L, o, h => by
  show overL (L.set o v) (o + 1) r = L
  rw [List.set_eq_of_length_le h]
  exact overL_far r L (o + 1) (by omega)
/-- Cells behind them are written. -/
theorem own_tail (hl : ∀ x, (fc x).length = z) (h : OwnS E z fc w base (.slice (some ⟨g, 0, none⟩) n cap) l) (o : Nat) (vs : List Value) (ho : z * l.length ≤ o) : OwnS E z fc (w.setCells g o vs) base (.slice (some ⟨g, 0, none⟩) n cap) l := by
 have hn := h.num
 subst hn
 have := own_cells vs o w _ h
 rw [overL_far vs _ o (by rw [flat_len hl]; exact ho)] at this
 exact this
/-- Some are laid behind them. -/
theorem own_app (hl : ∀ x, (fc x).length = z) (hz : 0 < z) (h : OwnS E z fc w base (.slice (some ⟨g, 0, none⟩) n cap) l) (l2 : List α) (hc : l.length + l2.length ≤ cap) :
 OwnS E z fc (w.setCells g (z * l.length) (l2.flatMap fc)) base (.slice (some ⟨g, 0, none⟩) (l.length + l2.length) cap) (l ++ l2) := by
 obtain ⟨cur, h1, _, h3, h4, h5⟩ := own_raw h
 have hr := (own_rz hl h).app hl l2 hc
 rw [Nat.zero_add] at hr
 obtain ⟨cs', g1, g2, _, _⟩ := setCells_block g (l2.flatMap fc) (z * l.length) w cur E h1
 have := rz_own hl hz hr g1 (g2.trans h4) h3 h5
 rwa [List.length_append] at this
theorem own_room (h : OwnS E z fc w base (.slice (some ⟨g, 0, none⟩) n cap) l) (i : Nat) (hi : i < z * cap) : (w.cell? ⟨g, i, none⟩).isSome = true := by
 obtain ⟨cur, h1, _, _, h4, _⟩ := own_raw h
 have hc : i < cur.size := by rw [h4, Nat.mul_comm]; exact hi
 rw [cell_of h1 (v := cur[i]'hc) (Array.getElem?_eq_getElem hc)]; rfl
end
/-- A row of values of any number of cells is cleared. -/
theorem run_clear_z {P : Program} (w : World) (t e ty : TypeId) (v : Value) (z : Nat) (ht : P.underlying t = some (.slice e)) (hv : ∀ w, (zeroValue e).run P w = .ok v w) (hs : v.cells.size = z) (hz : 0 < z) (h1 : ∀ u ∈ v.cells, u.oneCell' = true) (b o n c : Nat) (hn : 0 < n)
 (hc : ∀ j, j < n * z → (w.cell? ⟨b, o + j, none⟩).isSome = true) (hf : ∀ j, j < n * z → w.frozen? ⟨b, o + j, none⟩ = false) :
 (Builtin.clear_ #[t] ty #[.slice (some ⟨b, o, none⟩) n c]).run P w = .ok (.tuple #[]) (w.setCells b o (Builtin.zeroCells v.cells n).toList) := by
 have hl : (Builtin.zeroCells v.cells n).toList.length = n * z := by rw [Array.length_toList, size_zeroCells, hs]
 have hst := run_storeCells_cells (P := P) b o (Builtin.zeroCells v.cells n).toList 0 w (fun j hj => by rw [Nat.add_zero]; exact hc j (by omega)) (fun j hj => by rw [Nat.add_zero]; exact hf j (by omega)) (fun u hu => by
  have hu2 : u ∈ Builtin.zeroCells v.cells n := Array.mem_toList_iff.1 hu
  unfold Builtin.zeroCells at hu2
  obtain ⟨i, _, rfl⟩ := Array.mem_map.1 hu2
  have hi : i % v.cells.size < v.cells.size := Nat.mod_lt _ (by omega)
  rw [getElem!_pos v.cells _ hi]
  exact h1 _ (Array.getElem_mem hi))
 rw [Nat.add_zero] at hst
 obtain ⟨m, rfl⟩ : ∃ m, n = m + 1 := ⟨n - 1, by omega⟩
 simp [Builtin.clear_, run_underlying ht, hv, hst]
theorem run_clear_none {P : Program} (w : World) (t e ty : TypeId) (ht : P.underlying t = some (.slice e)) (a : Option Addr) (c : Nat) :
 (Builtin.clear_ #[t] ty #[.slice a 0 c]).run P w = .ok (.tuple #[]) w := by
 cases a <;> simp [Builtin.clear_, run_underlying ht]
end Go.Proofs.YtakkhdammmcjcaaGreatDoor.Msgs
namespace Go.Proofs.YtakkhdammmcjcaaGreatDoor.Ctl
open Go.RowKit Base Mem Msgs Cr
set_option maxRecDepth 20000
abbrev CT : TypeId := 74
abbrev KT : TypeId := 88
abbrev AT : TypeId := 96
abbrev GT : TypeId := 66
abbrev MT : TypeId := 29
def kl (x : Wt) : List Value := ml x.m ++ [nm x.tr, nm x.lf]
def al (m : Ms) : List Value := [.string (putS m), .int .u8 (ch m : Int)]
theorem kl_len (x : Wt) : (kl x).length = 22 := rfl
theorem al_len (x : Ms) : (al x).length = 2 := rfl
theorem kl_one (x : Wt) : ∀ u ∈ kl x, u.oneCell' = true := fun u hu => by
 rcases List.mem_append.1 hu with h | h
 · exact ml_one x.m u h
 · simp only [List.mem_cons, List.not_mem_nil, or_false] at h
   rcases h with rfl | rfl <;> rfl
theorem al_one (x : Ms) : ∀ u ∈ al x, u.oneCell' = true := fun u hu => by
 unfold al at hu
 simp only [List.mem_cons, List.not_mem_nil, or_false] at hu
 rcases hu with rfl | rfl <;> rfl
abbrev kc (x : Wt) : Array Value := (kl x).toArray
abbrev ac (m : Ms) : Array Value := (al m).toArray
theorem isK : IsRow KT 22 := ⟨⟨_, Tryz.underlying88⟩, by kernel_rfl⟩
theorem isA : IsRow AT 2 := ⟨⟨_, Tryz.underlying96⟩, by kernel_rfl⟩
theorem isG : IsRow GT 21 := ⟨⟨_, Tryz.underlying66⟩, by kernel_rfl⟩
def zK : Wt := ⟨Msgs.zero, 0, 0, false⟩
def zG : Fa := ⟨0, Msgs.zero⟩
theorem eltK : Elt KT 72 22 kl where
 under := Tryz.underlying72
 info := ⟨.agg (kc zK), 96, by kernel_rfl, rfl, by decide⟩
 len := kl_len
 one := kl_one
 pos := by decide
theorem eltA : Elt AT 71 2 al where
 under := Tryz.underlying71
 info := ⟨.agg #[.string ⟨#[]⟩, .int .u8 0], 24, by kernel_rfl, rfl, by decide⟩
 len := al_len
 one := al_one
 pos := by decide
theorem eltG : Elt GT 54 21 fl where
 under := Tryz.underlying54
 info := ⟨.agg (fc zG), 88, by kernel_rfl, rfl, by decide⟩
 len := fl_len
 one := fl_one
 pos := by decide
theorem infoK : (Tryz.prog.info? KT).map (fun i => (i.zero, i.size)) = some (some (.agg (kc zK)), 22) := by kernel_rfl
theorem infoA : (Tryz.prog.info? AT).map (fun i => (i.zero, i.size)) = some (some (.agg #[.string ⟨#[]⟩, .int .u8 0]), 2) := by kernel_rfl
theorem infoG : (Tryz.prog.info? GT).map (fun i => (i.zero, i.size)) = some (some (.agg (fc zG)), 21) := by kernel_rfl
/-- Its numbers as they were handed in, and as they count. -/
structure Raw (a b t n : Int) (x : Ct) : Prop where
 rn : x.own.n = min (max a 1) 65535
 rk : x.own.k = min (max b 1) 7
 rt : (x.t2 : Int) = min (max t 1) 255
 rm : (x.n2 : Int) = min (max n 0) 255
/-- That a command was said shows in its ticks and its tries. -/
def Sd (x : Ct) : Prop := ∀ y ∈ x.cs, y.sd = (decide (0 < y.lf) || decide (0 < y.tr))
abbrev TB : Nat := 0
/-- It lies there. -/
structure P (w : World) (c base : Nat) (a b t n : Int) (va vc : Value) (x : Ct) : Prop where
 hd : At w c #[im a, im b, im t, im n, va, vc] CT
 an : OwnS AT 2 al w base va x.an
 cs : OwnS KT 22 kl w base vc x.cs
 lo : base ≤ c
 tab : Tab w
 tb : TB < base
 raw : Raw a b t n x
 sd : Sd x
 ok : x.Ok
/-- Its blocks. -/
def PS (c : Nat) (va vc : Value) : Nat → Prop := fun k => k = c ∨ va.ownBlock = some k ∨ vc.ownBlock = some k
theorem type_ne {w : World} {a b : Nat} {cs cs' : Array Value} {t t' : TypeId} (h : w.heap[a]? = some (.cells cs t (0, 0))) (h' : w.heap[b]? = some (.cells cs' t' (0, 0))) (ht : t ≠ t') : a ≠ b := fun e => by
 subst e
 rw [h, Option.some.injEq] at h'
 injection h' with _ e
 exact ht e
section
variable {α : Type} {E z : Nat} {fc : α → List Value} {w w' : World} {base : Nat} {v : Value} {l : List α}
theorem row_blk (h : OwnS E z fc w base v l) {b : Nat} (hb : v.ownBlock = some b) : ∃ cs, w.heap[b]? = some (.cells cs E (0, 0)) := by
 rcases h.2 with ⟨h2, _⟩ | ⟨g, cap, cur, h2, h3, h4, _⟩
 · rw [h2] at hb; cases hb
 · rw [h2] at hb
   cases hb
   exact ⟨cur, h4⟩
theorem row_keep (h : OwnS E z fc w base v l) (hk : ∀ b, v.ownBlock = some b → w'.heap[b]? = w.heap[b]?) : OwnS E z fc w' base v l := by
 obtain ⟨h1, h2⟩ := h
 refine ⟨h1, ?_⟩
 rcases h2 with h2 | ⟨g, cap, cur, h2, h3, h4, h5⟩
 · exact Or.inl h2
 · exact Or.inr ⟨g, cap, cur, h2, h3, by rw [hk g (by rw [h2]; rfl)]; exact h4, h5⟩
theorem row_form (h : OwnS E z fc w base v l) : ∃ oa cap, v = .slice oa l.length cap ∧ ∀ i, i < l.length → ∃ g, oa = some ⟨g, 0, none⟩ := by
 rcases h.shape with ⟨h1, h2⟩ | ⟨g, cap, h1, _⟩
 · subst h2
   exact ⟨none, 0, h1, fun i hi => by simp at hi⟩
 · exact ⟨some ⟨g, 0, none⟩, cap, h1, fun _ _ => ⟨g, rfl⟩⟩
end
theorem nat_wrap (n : Nat) (h : n ≤ 9223372036854775807) : IntKind.i64.wrap (n : Int) = (n : Int) := by rw [IntKind.wrap_i64]; omega
section
variable {w w' : World} {c base k : Nat} {a b t n : Int} {va vc va' vc' : Value} {x y : Ct} {r : List Ms} {l : List Wt}
theorem P.own_lt (h : P w c base a b t n va vc x) : ∀ k, PS c va vc k → base ≤ k ∧ k < w.heap.size := fun k hk => by
 rcases hk with rfl | hk | hk
 · exact ⟨h.lo, h.hd.lt⟩
 · exact h.an.lt k hk
 · exact h.cs.lt k hk
theorem tab_eqv (h : Tab w) (he : w'.heap[TB]? = w.heap[TB]?) : Tab w' := fun i hi => (World.cell?_of_block (a := ⟨TB, i, none⟩) he).trans (h i hi)
theorem P.eqv (h : P w c base a b t n va vc x) (he : ∀ k, PS c va vc k → w'.heap[k]? = w.heap[k]?) (ht : w'.heap[TB]? = w.heap[TB]?) : P w' c base a b t n va vc x :=
 ⟨(he c (.inl rfl)).trans h.hd, row_keep h.an fun g hg => he g (.inr (.inl hg)), row_keep h.cs fun g hg => he g (.inr (.inr hg)), h.lo, tab_eqv h.tab ht, h.tb, h.raw, h.sd, h.ok⟩
theorem P.tb_lt (h : P w c base a b t n va vc x) : TB < w.heap.size := tab_pos h.tab
theorem P.below (h : P w c base a b t n va vc x) (hb : Below w.heap.size w w') : P w' c base a b t n va vc x := h.eqv (fun k hk => hb.block k (h.own_lt k hk).2) (hb.block TB h.tb_lt)
theorem P.chg {S : Nat → Prop} (h : P w c base a b t n va vc x) (hc : Chg S w w') (hs : ∀ k, PS c va vc k → ¬ S k) (ht : ¬ S TB) : P w' c base a b t n va vc x := h.eqv (fun k hk => hc.block k (h.own_lt k hk).2 (hs k hk)) (hc.block TB h.tb_lt ht)
theorem P.mod (h : P w c base a b t n va vc x) (M : Mod k w w') (hk : ¬ PS c va vc k) (ht : k ≠ TB) : P w' c base a b t n va vc x := h.eqv (fun i hi => M.rest i fun e => hk (e ▸ hi)) (M.rest TB fun e => ht e.symm)
theorem P.cells (h : P w c base a b t n va vc x) : w.cell? ⟨c, 0, none⟩ = some (im a) ∧ w.cell? ⟨c, 1, none⟩ = some (im b) ∧ w.cell? ⟨c, 2, none⟩ = some (im t) ∧ w.cell? ⟨c, 3, none⟩ = some (im n) ∧ w.cell? ⟨c, 4, none⟩ = some va ∧ w.cell? ⟨c, 5, none⟩ = some vc :=
 ⟨h.hd.cell 0 _ rfl, h.hd.cell 1 _ rfl, h.hd.cell 2 _ rfl, h.hd.cell 3 _ rfl, h.hd.cell 4 _ rfl, h.hd.cell 5 _ rfl⟩
theorem P.free (h : P w c base a b t n va vc x) : ∀ i, w.frozen? ⟨c, i, none⟩ = false := h.hd.free
theorem P.not_new (h : P w c base a b t n va vc x) (hk : w.heap.size ≤ k) : ¬ PS c va vc k := fun hs => by have := (h.own_lt k hs).2; omega
theorem P.an_ne (h : P w c base a b t n va vc x) (hk : va.ownBlock = some k) : k ≠ c ∧ vc.ownBlock ≠ some k := by
 obtain ⟨cs, hc⟩ := row_blk h.an hk
 refine ⟨fun e => type_ne hc h.hd (by decide) e, fun e => ?_⟩
 obtain ⟨cs', hc'⟩ := row_blk h.cs e
 exact type_ne hc hc' (by decide) rfl
theorem P.cs_ne (h : P w c base a b t n va vc x) (hk : vc.ownBlock = some k) : k ≠ c ∧ va.ownBlock ≠ some k := by
 obtain ⟨cs, hc⟩ := row_blk h.cs hk
 exact ⟨fun e => type_ne hc h.hd (by decide) e, fun e => (h.an_ne e).2 hk⟩
/-- Another row of answers. -/
theorem P.set_an (h : P w c base a b t n va vc x) (hq : OwnS AT 2 al w base va' r) (ho : ({ x with an := r } : Ct).Ok) : P (w.setCell ⟨c, 4, none⟩ va') c base a b t n va' vc { x with an := r } :=
 ⟨h.hd.set 4 va', row_keep hq fun g hg => set_other (fun e => by
  obtain ⟨cs, hc⟩ := row_blk hq hg
  exact type_ne hc h.hd (by decide) e) _, row_keep h.cs fun g hg => set_other (h.cs_ne hg).1 _, h.lo, tab_eqv h.tab (set_other (fun e => by have := h.lo; have := h.tb; omega) _), h.tb, ⟨h.raw.rn, h.raw.rk, h.raw.rt, h.raw.rm⟩, h.sd, ho⟩
/-- Another row of commands. -/
theorem P.set_cs (h : P w c base a b t n va vc x) (hq : OwnS KT 22 kl w base vc' l) (ho : ({ x with cs := l } : Ct).Ok) (hs : Sd { x with cs := l }) : P (w.setCell ⟨c, 5, none⟩ vc') c base a b t n va vc' { x with cs := l } :=
 ⟨h.hd.set 5 vc', row_keep h.an fun g hg => set_other (h.an_ne hg).1 _, row_keep hq fun g hg => set_other (fun e => by
  obtain ⟨cs, hc⟩ := row_blk hq hg
  exact type_ne hc h.hd (by decide) e) _, h.lo, tab_eqv h.tab (set_other (fun e => by have := h.lo; have := h.tb; omega) _), h.tb, ⟨h.raw.rn, h.raw.rk, h.raw.rt, h.raw.rm⟩, hs, ho⟩
/-- What a call leaves: the side is y now, in its own blocks or new ones; all else is as it was. -/
structure Px (w : World) (c base : Nat) (a b t n : Int) (va vc : Value) (y : Ct) (w' : World) : Prop where
 at_ : ∃ va' vc', P w' c base a b t n va' vc' y ∧ ∀ k, PS c va' vc' k → PS c va vc k ∨ w.heap.size ≤ k
 chg : Chg (PS c va vc) w w'
theorem P.px (_h : P w c base a b t n va vc x) (hc : Chg (PS c va vc) w w') (h' : P w' c base a b t n va' vc' y) (hn : ∀ k, PS c va' vc' k → PS c va vc k ∨ w.heap.size ≤ k) : Px w c base a b t n va vc y w' := ⟨⟨va', vc', h', hn⟩, hc⟩
theorem P.px_below (h : P w c base a b t n va vc x) (hb : Below w.heap.size w w') : Px w c base a b t n va vc x w' := ⟨⟨va, vc, h.below hb, fun _ hk => .inl hk⟩, Chg.of_below hb⟩
end
theorem Sd.say {t2 : Nat} (ht : 1 ≤ t2) : ∀ {l : List Wt}, (∀ y ∈ l, y.sd = (decide (0 < y.lf) || decide (0 < y.tr))) → ∀ y ∈ (say t2 l).2, y.sd = (decide (0 < y.lf) || decide (0 < y.tr))
 | [], _ => fun y hy => by cases hy
 | v :: r, h => fun y hy => by
  unfold Ctl.say at hy
  split at hy
  · rcases List.mem_cons.1 hy with rfl | hy
    · show true = (decide (0 < t2) || _)
      rw [decide_eq_true (by omega)]; rfl
    · exact h y (List.mem_cons_of_mem _ hy)
  · rcases List.mem_cons.1 hy with rfl | hy
    · exact h y List.mem_cons_self
    · exact Sd.say ht (fun z hz => h z (List.mem_cons_of_mem _ hz)) y hy
theorem Sd.ticks {n2 : Nat} : ∀ {l : List Wt}, (∀ y ∈ l, y.sd = (decide (0 < y.lf) || decide (0 < y.tr))) → ∀ y ∈ (ticks n2 l).1, y.sd = (decide (0 < y.lf) || decide (0 < y.tr))
 | [], _ => fun y hy => by cases hy
 | v :: r, h => fun y hy => by
  have hv := h v List.mem_cons_self
  have ih : y ∈ (Ctl.ticks n2 r).1 → y.sd = (decide (0 < y.lf) || decide (0 < y.tr)) := fun h' => Sd.ticks (fun z hz => h z (List.mem_cons_of_mem _ hz)) y h'
  unfold Ctl.ticks at hy
  split at hy
  · next e =>
    rcases List.mem_cons.1 hy with rfl | hy
    · show v.sd = (decide (0 < v.lf - 1) || decide (0 < v.tr))
      rw [hv]
      congr 1
      rw [decide_eq_decide]; omega
    · exact ih hy
  · next e =>
    split at hy
    · exact ih hy
    · rcases List.mem_cons.1 hy with rfl | hy
      · show v.sd = (decide (0 < 0) || decide (0 < v.tr + 1))
        rw [hv, decide_eq_true (p := 0 < v.lf) (by omega), decide_eq_true (p := 0 < v.tr + 1) (by omega)]; rfl
      · exact ih hy
end Go.Proofs.YtakkhdammmcjcaaGreatDoor.Ctl
