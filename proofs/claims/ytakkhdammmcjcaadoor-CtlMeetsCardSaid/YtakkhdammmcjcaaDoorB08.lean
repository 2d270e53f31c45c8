/-
  Layer 22, put together: Rowm, CtlPm, MsgsNeed, EaAddr (what each says stands ahead of it). Conditions: as each names them.
-/
import Derived.Test.YtakkhdammmcjcaaDoorB07
import Derived.Test.YtakkhdammmcjcaaDoorB06
import Derived.Test.YtakkhdammmcjcaaDoorChecked
import Derived.Test.YtakkhdammmcjcaaDoorB01
import Derived.Lib.SliceRun
import Derived.Deep.RegionLaw
import Derived.WalkKit
import Derived.Lib.Hide
import Derived.Deep.QuietTactic
import Derived.BigQuiet
/-
  Rows of structs that a call made: the first ones alone, some laid behind them, the cells behind them written, a row cleared. No condition.
-/
namespace Go.Proofs.YtakkhdammmcjcaaDoor.Msgs
open Go.RowKit Go.Proofs.YtakkhdammmcjcaaDoor.Base Go.Proofs.YtakkhdammmcjcaaDoor.Mem
set_option maxRecDepth 20000
section
variable {α : Type} {E S z n cap g base : Nat} {fc : α → List Value} {w : World} {l A B : List α}
theorem own_raw (h : OwnS E z fc w base (.slice (some ⟨g, 0, none⟩) n cap) l) : ∃ cur, w.heap[g]? = some (.cells cur E (0, 0)) ∧ n ≤ cap ∧ cap ≤ maxLen ∧ cur.size = cap * z ∧ base ≤ g := by
  rcases h.2 with ⟨h1, _⟩ | ⟨g', cap', cur, h1, h2, h3, h4, h5, h6, _⟩
  · cases h1
  · injection h1 with h1 h7 h8
    rw [Option.some.injEq, Addr.mk.injEq] at h1
    obtain ⟨rfl, _⟩ := h1
    subst h8
    exact ⟨cur, h3, by rw [h7]; exact h4, h5, h6, h2⟩
theorem own_rz (hl : ∀ x, (fc x).length = z) (h : OwnS E z fc w base (.slice (some ⟨g, 0, none⟩) n cap) l) : Rz z fc w g 0 cap l := by
  obtain ⟨cur, h1, h2, h3, h4, h5⟩ := own_raw h
  have hn := h.num
  unfold maxLen at h3
  refine ⟨by omega, by omega, lt_heap h1, fun i x hi j hj => ?_, fun i hi => ?_, fun i _ => h.free _⟩
  · rw [Nat.zero_add]; exact OwnS.cell hl h i x hi j hj
  · rw [Nat.zero_add, cell_of h1 (v := cur[i]'(by rw [h4, Nat.mul_comm]; exact hi)) (Array.getElem?_eq_getElem _)]; rfl
theorem rz_own (hl : ∀ x, (fc x).length = z) (hz : 0 < z) (h : Rz z fc w g 0 cap l) {cur : Array Value} (hb : w.heap[g]? = some (.cells cur E (0, 0))) (hs : cur.size = cap * z) (hm : cap ≤ maxLen) (hg : base ≤ g) : OwnS E z fc w base (.slice (some ⟨g, 0, none⟩) l.length cap) l := by
  have hfl := flat_len hl l
  have hm2 : l.length * z ≤ cap * z := Nat.mul_le_mul_right _ h.len
  refine ⟨by rw [hfl, Nat.mul_comm], Or.inr ⟨g, cap, cur, rfl, hg, hb, h.len, hm, hs, ?_⟩⟩
  apply List.ext_getElem?
  intro k
  by_cases hk : k < l.length * z
  · rw [List.getElem?_take, if_pos hk, Array.getElem?_toList]
    have hdm := Nat.div_add_mod k z
    have hmod := Nat.mod_lt k hz
    have hdiv : k / z < l.length := by rw [Nat.div_lt_iff_lt_mul hz]; exact hk
    have hx : l[k / z]? = some (l[k / z]'hdiv) := List.getElem?_eq_getElem _
    have h1 := h.cell (k / z) _ hx (k % z) hmod
    rw [Nat.zero_add, hdm] at h1
    have h2 : w.cell? ⟨g, k, none⟩ = cur[k]? := by
      have hc : k < cur.size := by omega
      rw [cell_of hb (v := cur[k]'hc) (Array.getElem?_eq_getElem hc), Array.getElem?_eq_getElem hc]
    rw [← h2, h1, ← flat_get hl l _ (k / z) (k % z) hx hmod, hdm]
  · have e1 : (cur.toList.take (l.length * z))[k]? = none := List.getElem?_eq_none (by rw [List.length_take]; omega)
    have e2 : (l.flatMap fc)[k]? = none := List.getElem?_eq_none (by rw [hfl, Nat.mul_comm]; omega)
    rw [e1, e2]
theorem Rz_first {off : Nat} (h : Rz z fc w g off cap (A ++ B)) : Rz z fc w g off cap A :=
  ⟨by have := h.len; rw [List.length_append] at this; omega, h.max, h.lt, fun i x hi j hj => h.cell i x (by rw [List.getElem?_append_left (List.getElem?_eq_some_iff.1 hi).1]; exact hi) j hj, h.has, h.free⟩
/-- The first ones alone. -/
theorem own_first (hl : ∀ x, (fc x).length = z) (hz : 0 < z) (h : OwnS E z fc w base (.slice (some ⟨g, 0, none⟩) n cap) (A ++ B)) : OwnS E z fc w base (.slice (some ⟨g, 0, none⟩) A.length cap) A := by
  obtain ⟨cur, h1, _, h3, h4, h5⟩ := own_raw h
  exact rz_own hl hz (Rz_first (own_rz hl h)) h1 h4 h3 h5
theorem overL_far : ∀ (vs L : List Value) (o : Nat), L.length ≤ o → overL L o vs = L
  | [], _, _, _ => rfl
  | v :: r, L, o, h => by
    show overL (L.set o v) (o + 1) r = L
    rw [List.set_eq_of_length_le h]
    exact overL_far r L (o + 1) (by omega)
/-- Cells behind them are written. -/
theorem own_tail (hl : ∀ x, (fc x).length = z) (h : OwnS E z fc w base (.slice (some ⟨g, 0, none⟩) n cap) l) (o : Nat) (vs : List Value) (ho : z * l.length ≤ o) : OwnS E z fc (w.setCells g o vs) base (.slice (some ⟨g, 0, none⟩) n cap) l := by
  have hn := h.num
  subst hn
  have := own_cells vs o w _ h
  rw [overL_far vs _ o (by rw [flat_len hl]; exact ho)] at this
  exact this
/-- Some are laid behind them. -/
theorem own_app (hl : ∀ x, (fc x).length = z) (hz : 0 < z) (h : OwnS E z fc w base (.slice (some ⟨g, 0, none⟩) n cap) l) (l2 : List α) (hc : l.length + l2.length ≤ cap) :
    OwnS E z fc (w.setCells g (z * l.length) (l2.flatMap fc)) base (.slice (some ⟨g, 0, none⟩) (l.length + l2.length) cap) (l ++ l2) := by
  obtain ⟨cur, h1, _, h3, h4, h5⟩ := own_raw h
  have hr := (own_rz hl h).app hl l2 hc
  rw [Nat.zero_add] at hr
  obtain ⟨cs', g1, g2, _, _⟩ := setCells_block g (l2.flatMap fc) (z * l.length) w cur E h1
  have := rz_own hl hz hr g1 (g2.trans h4) h3 h5
  rwa [List.length_append] at this
theorem own_room (h : OwnS E z fc w base (.slice (some ⟨g, 0, none⟩) n cap) l) (i : Nat) (hi : i < z * cap) : (w.cell? ⟨g, i, none⟩).isSome = true := by
  obtain ⟨cur, h1, _, _, h4, _⟩ := own_raw h
  have hc : i < cur.size := by rw [h4, Nat.mul_comm]; exact hi
  rw [cell_of h1 (v := cur[i]'hc) (Array.getElem?_eq_getElem hc)]; rfl
end
/-- A row of values of any number of cells is cleared. -/
theorem run_clear_z {P : Program} (w : World) (t e ty : TypeId) (v : Value) (z : Nat) (ht : P.underlying t = some (.slice e)) (hv : ∀ w, (zeroValue e).run P w = .ok v w) (hs : v.cells.size = z) (hz : 0 < z) (h1 : ∀ u ∈ v.cells, u.oneCell' = true) (b o n c : Nat) (hn : 0 < n)
    (hc : ∀ j, j < n * z → (w.cell? ⟨b, o + j, none⟩).isSome = true) (hf : ∀ j, j < n * z → w.frozen? ⟨b, o + j, none⟩ = false) :
    (Builtin.clear_ #[t] ty #[.slice (some ⟨b, o, none⟩) n c]).run P w = .ok (.tuple #[]) (w.setCells b o (Builtin.zeroCells v.cells n).toList) := by
  have hl : (Builtin.zeroCells v.cells n).toList.length = n * z := by rw [Array.length_toList, size_zeroCells, hs]
  have hst := run_storeCells_cells (P := P) b o (Builtin.zeroCells v.cells n).toList 0 w (fun j hj => by rw [Nat.add_zero]; exact hc j (by omega)) (fun j hj => by rw [Nat.add_zero]; exact hf j (by omega)) (fun u hu => by
    have hu2 : u ∈ Builtin.zeroCells v.cells n := Array.mem_toList_iff.1 hu
    unfold Builtin.zeroCells at hu2
    obtain ⟨i, _, rfl⟩ := Array.mem_map.1 hu2
    have hi : i % v.cells.size < v.cells.size := Nat.mod_lt _ (by omega)
    rw [getElem!_pos v.cells _ hi]
    exact h1 _ (Array.getElem_mem hi))
  rw [Nat.add_zero] at hst
  obtain ⟨m, rfl⟩ : ∃ m, n = m + 1 := ⟨n - 1, by omega⟩
  simp [Builtin.clear_, run_underlying ht, hv, hst]
theorem run_clear_none {P : Program} (w : World) (t e ty : TypeId) (ht : P.underlying t = some (.slice e)) (a : Option Addr) (c : Nat) :
    (Builtin.clear_ #[t] ty #[.slice a 0 c]).run P w = .ok (.tuple #[]) w := by
  cases a <;> simp [Builtin.clear_, run_underlying ht]
end Go.Proofs.YtakkhdammmcjcaaDoor.Msgs
/-
  The program's own side in memory: its numbers, its row of answers (octets and a channel), its row of commands; what a call leaves of it. No condition.
-/
namespace Go.Proofs.YtakkhdammmcjcaaDoor.Ctl
open Go.RowKit Go.Proofs.YtakkhdammmcjcaaDoor.Base Go.Proofs.YtakkhdammmcjcaaDoor.Mem Go.Proofs.YtakkhdammmcjcaaDoor.Msgs Go.Proofs.YtakkhdammmcjcaaDoor.Cr
set_option maxRecDepth 20000
abbrev CT : TypeId := 65
abbrev KT : TypeId := 68
abbrev AT : TypeId := 73
abbrev GT : TypeId := 47
abbrev MT : TypeId := 35
def kl (x : Wt) : List Value := ml x.m ++ [nm x.tr, nm x.lf]
def al (m : Ms) : List Value := [.string (putS m), .int .u8 (ch m : Int)]
theorem kl_len (x : Wt) : (kl x).length = 22 := rfl
theorem al_len (x : Ms) : (al x).length = 2 := rfl
theorem kl_one (x : Wt) : ∀ u ∈ kl x, u.oneCell' = true := fun u hu => by
  rcases List.mem_append.1 hu with h | h
  · exact ml_one x.m u h
  · simp only [List.mem_cons, List.not_mem_nil, or_false] at h
    rcases h with rfl | rfl <;> rfl
theorem al_one (x : Ms) : ∀ u ∈ al x, u.oneCell' = true := fun u hu => by
  unfold al at hu
  simp only [List.mem_cons, List.not_mem_nil, or_false] at hu
  rcases hu with rfl | rfl <;> rfl
abbrev kc (x : Wt) : Array Value := (kl x).toArray
abbrev ac (m : Ms) : Array Value := (al m).toArray
theorem isK : IsRow KT 22 := ⟨⟨_, Tryd.underlying68⟩, by kernel_rfl⟩
theorem isA : IsRow AT 2 := ⟨⟨_, Tryd.underlying73⟩, by kernel_rfl⟩
theorem isG : IsRow GT 21 := ⟨⟨_, Tryd.underlying47⟩, by kernel_rfl⟩
def zK : Wt := ⟨Msgs.zero, 0, 0, false⟩
def zG : Fa := ⟨0, Msgs.zero⟩
theorem eltK : Elt KT 63 22 kl where
  under := Tryd.underlying63
  info := ⟨.agg (kc zK), 96, by kernel_rfl, rfl, by decide⟩
  len := kl_len
  one := kl_one
  pos := by decide
theorem eltA : Elt AT 62 2 al where
  under := Tryd.underlying62
  info := ⟨.agg #[.string ⟨#[]⟩, .int .u8 0], 24, by kernel_rfl, rfl, by decide⟩
  len := al_len
  one := al_one
  pos := by decide
theorem eltG : Elt GT 29 21 fl where
  under := Tryd.underlying29
  info := ⟨.agg (fc zG), 88, by kernel_rfl, rfl, by decide⟩
  len := fl_len
  one := fl_one
  pos := by decide
theorem infoK : (Tryd.prog.info? KT).map (fun i => (i.zero, i.size)) = some (some (.agg (kc zK)), 22) := by kernel_rfl
theorem infoA : (Tryd.prog.info? AT).map (fun i => (i.zero, i.size)) = some (some (.agg #[.string ⟨#[]⟩, .int .u8 0]), 2) := by kernel_rfl
theorem infoG : (Tryd.prog.info? GT).map (fun i => (i.zero, i.size)) = some (some (.agg (fc zG)), 21) := by kernel_rfl
/-- Its numbers as they were handed in, and as they count. -/
structure Raw (a b t n : Int) (x : Ct) : Prop where
  rn : x.own.n = min (max a 1) 65535
  rk : x.own.k = min (max b 1) 7
  rt : (x.t2 : Int) = min (max t 1) 255
  rm : (x.n2 : Int) = min (max n 0) 255
/-- That a command was said shows in its ticks and its tries. -/
def Sd (x : Ct) : Prop := ∀ y ∈ x.cs, y.sd = (decide (0 < y.lf) || decide (0 < y.tr))
abbrev TB : Nat := 0
/-- It lies there. -/
structure P (w : World) (c base : Nat) (a b t n : Int) (va vc : Value) (x : Ct) : Prop where
  hd : At w c #[im a, im b, im t, im n, va, vc] CT
  an : OwnS AT 2 al w base va x.an
  cs : OwnS KT 22 kl w base vc x.cs
  lo : base ≤ c
  tab : Tab w
  tb : TB < base
  raw : Raw a b t n x
  sd : Sd x
  ok : x.Ok
/-- Its blocks. -/
def PS (c : Nat) (va vc : Value) : Nat → Prop := fun k => k = c ∨ va.ownBlock = some k ∨ vc.ownBlock = some k
theorem type_ne {w : World} {a b : Nat} {cs cs' : Array Value} {t t' : TypeId} (h : w.heap[a]? = some (.cells cs t (0, 0))) (h' : w.heap[b]? = some (.cells cs' t' (0, 0))) (ht : t ≠ t') : a ≠ b := fun e => by
  subst e
  rw [h, Option.some.injEq] at h'
  injection h' with _ e
  exact ht e
section
variable {α : Type} {E z : Nat} {fc : α → List Value} {w w' : World} {base : Nat} {v : Value} {l : List α}
theorem row_blk (h : OwnS E z fc w base v l) {b : Nat} (hb : v.ownBlock = some b) : ∃ cs, w.heap[b]? = some (.cells cs E (0, 0)) := by
  rcases h.2 with ⟨h2, _⟩ | ⟨g, cap, cur, h2, h3, h4, _⟩
  · rw [h2] at hb; cases hb
  · rw [h2] at hb
    cases hb
    exact ⟨cur, h4⟩
theorem row_keep (h : OwnS E z fc w base v l) (hk : ∀ b, v.ownBlock = some b → w'.heap[b]? = w.heap[b]?) : OwnS E z fc w' base v l := by
  obtain ⟨h1, h2⟩ := h
  refine ⟨h1, ?_⟩
  rcases h2 with h2 | ⟨g, cap, cur, h2, h3, h4, h5⟩
  · exact Or.inl h2
  · exact Or.inr ⟨g, cap, cur, h2, h3, by rw [hk g (by rw [h2]; rfl)]; exact h4, h5⟩
theorem row_form (h : OwnS E z fc w base v l) : ∃ oa cap, v = .slice oa l.length cap ∧ ∀ i, i < l.length → ∃ g, oa = some ⟨g, 0, none⟩ := by
  rcases h.shape with ⟨h1, h2⟩ | ⟨g, cap, h1, _⟩
  · subst h2
    exact ⟨none, 0, h1, fun i hi => by simp at hi⟩
  · exact ⟨some ⟨g, 0, none⟩, cap, h1, fun _ _ => ⟨g, rfl⟩⟩
end
theorem nat_wrap (n : Nat) (h : n ≤ 9223372036854775807) : IntKind.i64.wrap (n : Int) = (n : Int) := by rw [IntKind.wrap_i64]; omega
section
variable {w w' : World} {c base k : Nat} {a b t n : Int} {va vc va' vc' : Value} {x y : Ct} {r : List Ms} {l : List Wt}
theorem P.own_lt (h : P w c base a b t n va vc x) : ∀ k, PS c va vc k → base ≤ k ∧ k < w.heap.size := fun k hk => by
  rcases hk with rfl | hk | hk
  · exact ⟨h.lo, h.hd.lt⟩
  · exact h.an.lt k hk
  · exact h.cs.lt k hk
theorem tab_eqv (h : Tab w) (he : w'.heap[TB]? = w.heap[TB]?) : Tab w' := fun i hi => (World.cell?_of_block (a := ⟨TB, i, none⟩) he).trans (h i hi)
theorem P.eqv (h : P w c base a b t n va vc x) (he : ∀ k, PS c va vc k → w'.heap[k]? = w.heap[k]?) (ht : w'.heap[TB]? = w.heap[TB]?) : P w' c base a b t n va vc x :=
  ⟨(he c (.inl rfl)).trans h.hd, row_keep h.an fun g hg => he g (.inr (.inl hg)), row_keep h.cs fun g hg => he g (.inr (.inr hg)), h.lo, tab_eqv h.tab ht, h.tb, h.raw, h.sd, h.ok⟩
theorem P.tb_lt (h : P w c base a b t n va vc x) : TB < w.heap.size := tab_pos h.tab
theorem P.below (h : P w c base a b t n va vc x) (hb : Below w.heap.size w w') : P w' c base a b t n va vc x := h.eqv (fun k hk => hb.block k (h.own_lt k hk).2) (hb.block TB h.tb_lt)
theorem P.chg {S : Nat → Prop} (h : P w c base a b t n va vc x) (hc : Chg S w w') (hs : ∀ k, PS c va vc k → ¬ S k) (ht : ¬ S TB) : P w' c base a b t n va vc x := h.eqv (fun k hk => hc.block k (h.own_lt k hk).2 (hs k hk)) (hc.block TB h.tb_lt ht)
theorem P.mod (h : P w c base a b t n va vc x) (M : Mod k w w') (hk : ¬ PS c va vc k) (ht : k ≠ TB) : P w' c base a b t n va vc x := h.eqv (fun i hi => M.rest i fun e => hk (e ▸ hi)) (M.rest TB fun e => ht e.symm)
theorem P.cells (h : P w c base a b t n va vc x) : w.cell? ⟨c, 0, none⟩ = some (im a) ∧ w.cell? ⟨c, 1, none⟩ = some (im b) ∧ w.cell? ⟨c, 2, none⟩ = some (im t) ∧ w.cell? ⟨c, 3, none⟩ = some (im n) ∧ w.cell? ⟨c, 4, none⟩ = some va ∧ w.cell? ⟨c, 5, none⟩ = some vc :=
  ⟨h.hd.cell 0 _ rfl, h.hd.cell 1 _ rfl, h.hd.cell 2 _ rfl, h.hd.cell 3 _ rfl, h.hd.cell 4 _ rfl, h.hd.cell 5 _ rfl⟩
theorem P.free (h : P w c base a b t n va vc x) : ∀ i, w.frozen? ⟨c, i, none⟩ = false := h.hd.free
theorem P.not_new (h : P w c base a b t n va vc x) (hk : w.heap.size ≤ k) : ¬ PS c va vc k := fun hs => by have := (h.own_lt k hs).2; omega
theorem P.an_ne (h : P w c base a b t n va vc x) (hk : va.ownBlock = some k) : k ≠ c ∧ vc.ownBlock ≠ some k := by
  obtain ⟨cs, hc⟩ := row_blk h.an hk
  refine ⟨fun e => type_ne hc h.hd (by decide) e, fun e => ?_⟩
  obtain ⟨cs', hc'⟩ := row_blk h.cs e
  exact type_ne hc hc' (by decide) rfl
theorem P.cs_ne (h : P w c base a b t n va vc x) (hk : vc.ownBlock = some k) : k ≠ c ∧ va.ownBlock ≠ some k := by
  obtain ⟨cs, hc⟩ := row_blk h.cs hk
  exact ⟨fun e => type_ne hc h.hd (by decide) e, fun e => (h.an_ne e).2 hk⟩
/-- Another row of answers. -/
theorem P.set_an (h : P w c base a b t n va vc x) (hq : OwnS AT 2 al w base va' r) (ho : ({ x with an := r } : Ct).Ok) : P (w.setCell ⟨c, 4, none⟩ va') c base a b t n va' vc { x with an := r } :=
  ⟨h.hd.set 4 va', row_keep hq fun g hg => set_other (fun e => by
    obtain ⟨cs, hc⟩ := row_blk hq hg
    exact type_ne hc h.hd (by decide) e) _, row_keep h.cs fun g hg => set_other (h.cs_ne hg).1 _, h.lo, tab_eqv h.tab (set_other (fun e => by have := h.lo; have := h.tb; omega) _), h.tb, ⟨h.raw.rn, h.raw.rk, h.raw.rt, h.raw.rm⟩, h.sd, ho⟩
/-- Another row of commands. -/
theorem P.set_cs (h : P w c base a b t n va vc x) (hq : OwnS KT 22 kl w base vc' l) (ho : ({ x with cs := l } : Ct).Ok) (hs : Sd { x with cs := l }) : P (w.setCell ⟨c, 5, none⟩ vc') c base a b t n va vc' { x with cs := l } :=
  ⟨h.hd.set 5 vc', row_keep h.an fun g hg => set_other (h.an_ne hg).1 _, row_keep hq fun g hg => set_other (fun e => by
    obtain ⟨cs, hc⟩ := row_blk hq hg
    exact type_ne hc h.hd (by decide) e) _, h.lo, tab_eqv h.tab (set_other (fun e => by have := h.lo; have := h.tb; omega) _), h.tb, ⟨h.raw.rn, h.raw.rk, h.raw.rt, h.raw.rm⟩, hs, ho⟩
/-- What a call leaves: the side is y now, in its own blocks or new ones; all else is as it was. -/
structure Px (w : World) (c base : Nat) (a b t n : Int) (va vc : Value) (y : Ct) (w' : World) : Prop where
  at_ : ∃ va' vc', P w' c base a b t n va' vc' y ∧ ∀ k, PS c va' vc' k → PS c va vc k ∨ w.heap.size ≤ k
  chg : Chg (PS c va vc) w w'
theorem P.px (_h : P w c base a b t n va vc x) (hc : Chg (PS c va vc) w w') (h' : P w' c base a b t n va' vc' y) (hn : ∀ k, PS c va' vc' k → PS c va vc k ∨ w.heap.size ≤ k) : Px w c base a b t n va vc y w' := ⟨⟨va', vc', h', hn⟩, hc⟩
theorem P.px_below (h : P w c base a b t n va vc x) (hb : Below w.heap.size w w') : Px w c base a b t n va vc x w' := ⟨⟨va, vc, h.below hb, fun _ hk => .inl hk⟩, Chg.of_below hb⟩
end
theorem Sd.say {t2 : Nat} (ht : 1 ≤ t2) : ∀ {l : List Wt}, (∀ y ∈ l, y.sd = (decide (0 < y.lf) || decide (0 < y.tr))) → ∀ y ∈ (say t2 l).2, y.sd = (decide (0 < y.lf) || decide (0 < y.tr))
  | [], _ => fun y hy => by cases hy
  | v :: r, h => fun y hy => by
    unfold Ctl.say at hy
    split at hy
    · rcases List.mem_cons.1 hy with rfl | hy
      · show true = (decide (0 < t2) || _)
        rw [decide_eq_true (by omega)]; rfl
      · exact h y (List.mem_cons_of_mem _ hy)
    · rcases List.mem_cons.1 hy with rfl | hy
      · exact h y List.mem_cons_self
      · exact Sd.say ht (fun z hz => h z (List.mem_cons_of_mem _ hz)) y hy
theorem Sd.ticks {n2 : Nat} : ∀ {l : List Wt}, (∀ y ∈ l, y.sd = (decide (0 < y.lf) || decide (0 < y.tr))) → ∀ y ∈ (ticks n2 l).1, y.sd = (decide (0 < y.lf) || decide (0 < y.tr))
  | [], _ => fun y hy => by cases hy
  | v :: r, h => fun y hy => by
    have hv := h v List.mem_cons_self
    have ih : y ∈ (Ctl.ticks n2 r).1 → y.sd = (decide (0 < y.lf) || decide (0 < y.tr)) := fun h' => Sd.ticks (fun z hz => h z (List.mem_cons_of_mem _ hz)) y h'
    unfold Ctl.ticks at hy
    split at hy
    · next e =>
      rcases List.mem_cons.1 hy with rfl | hy
      · show v.sd = (decide (0 < v.lf - 1) || decide (0 < v.tr))
        rw [hv]
        congr 1
        rw [decide_eq_decide]; omega
      · exact ih hy
    · next e =>
      split at hy
      · exact ih hy
      · rcases List.mem_cons.1 hy with rfl | hy
        · show v.sd = (decide (0 < 0) || decide (0 < v.tr + 1))
          rw [hv, decide_eq_true (p := 0 < v.lf) (by omega), decide_eq_true (p := 0 < v.tr + 1) (by omega)]; rfl
        · exact ih hy
end Go.Proofs.YtakkhdammmcjcaaDoor.Ctl
/-
  What 'needed' of layer 10 answers: a message with nothing but what its Kind needs. No condition.
-/
namespace Go.Proofs.YtakkhdammmcjcaaDoor.Msgs
open Go.RowKit Go.Proofs.YtakkhdammmcjcaaDoor.Base Go.Proofs.YtakkhdammmcjcaaDoor.Mem
set_option maxRecDepth 20000
theorem eq_is {n k : Nat} (h : n = k) : ((n : Int) == (k : Int)) = true := by rw [h]; simp
theorem eq_no {n k : Nat} (h : n ≠ k) : ((n : Int) == (k : Int)) = false := by rw [beq_eq_false_iff_ne]; omega
theorem needed_1 (m : Ms) (hk : m.k = 1) (w : World) :
    Calls Tryd.prog 40 #[mv m] w fun e w' => e = .returned (mv (need m)) ∧ Below w.heap.size w w' := by
  have HE : Hid (need m = ⟨m.k, m.c, m.p, Msc.zero, 0, no⟩) := Lib.hid (by unfold need; rw [hk]; rfl)
  have q1 : ((m.k : Int) == 1) = true := eq_is (n := m.k) (k := 1) (by omega)
  clear hk
  rw [HE.out]
  clear HE
  go_enter Tryd.func40, Tryd.ntmps40
  go_wp2_with (first
    | ((with_reducible refine bxm (m := m) ?hx ?_); (case hx => rfl); intro b1 w1 h1 F1; have HM := Lib.hid h1; have HB := Lib.hid F1.below; clear h1 F1)
    | (have _ := HR; (with_reducible refine alm zeroM ?_); intro b3 w3 h3 F3; have N13 := Lib.hid (F3.ne HM.out); have N23 := Lib.hid (F3.ne HR.out); replace HM := Lib.hid (F3.stays HM.out); replace HR := Lib.hid (F3.stays HR.out); have HN := Lib.hid h3; have L3 := Lib.hid (F3.le HB.out); replace HB := Lib.hid (F3.on HB.out); clear h3 F3)
    | ((with_reducible refine alm zeroM ?_); intro b2 w2 h2 F2; have N12 := Lib.hid (F2.ne HM.out); replace HM := Lib.hid (F2.stays HM.out); have HR := Lib.hid h2; have L2 := Lib.hid (F2.le HB.out); replace HB := Lib.hid (F2.on HB.out); clear h2 F2; obtain ⟨c0, c1, c18, c19⟩ := flds HM.out)
    | ((with_reducible refine bdm ⟨m.k, m.c, Pn.zero, Msc.zero, 0, no⟩ ?hb ?_); (case hb => kernel_rfl))
    | ((with_reducible refine stm (m := ⟨m.k, m.c, Pn.zero, Msc.zero, 0, no⟩) isM HN.out ?hx ?hy ?_); (case hx => rfl); (case hy => rfl); intro w4 h4 M4; replace HN := Lib.hid h4; replace HM := Lib.hid (M4.other N13.out HM.out); replace HR := Lib.hid (M4.other N23.out HR.out); replace HB := Lib.hid (M4.below HB.out L3.out); clear c0 c1 c18 c19 h4 M4; obtain ⟨c0, c1, c18, c19⟩ := flds HM.out; obtain ⟨z0, z1, z18, z19⟩ := frees HN.out; obtain ⟨n0, n1, n18, n19⟩ := flds HN.out)
    | ((with_reducible refine ldp isP HM.out ?hx ?_); (case hx => rfl))
    | ((with_reducible refine stp (p := m.p) isP HN.out ?hx ?hy ?_); (case hx => rfl); (case hy => rfl); intro w5 h5 M5; replace HN := Lib.hid h5; replace HR := Lib.hid (M5.other N23.out HR.out); replace HB := Lib.hid (M5.below HB.out L3.out); clear c0 c1 c18 c19 z0 z1 z18 z19 n0 n1 n18 n19 h5 M5)
    | ((with_reducible refine ldm isM HN.out ?hx ?_); (case hx => rfl))
    | ((with_reducible refine stm (m := ⟨m.k, m.c, m.p, Msc.zero, 0, no⟩) isM HR.out ?hx ?hy ?_); (case hx => rfl); (case hy => rfl); intro w6 h6 M6; replace HR := Lib.hid h6; replace HB := Lib.hid (M6.below HB.out L2.out); clear h6 M6))
  exact bodyPost_ret (needed_results _ _ b2 _ _ HR.out rfl) rfl ⟨rfl, HB.out⟩
theorem needed_2 (m : Ms) (hk : m.k = 2) (w : World) :
    Calls Tryd.prog 40 #[mv m] w fun e w' => e = .returned (mv (need m)) ∧ Below w.heap.size w w' := by
  have HE : Hid (need m = ⟨m.k, m.c, Pn.zero, m.s, 0, no⟩) := Lib.hid (by unfold need; rw [hk]; rfl)
  have q1 : ((m.k : Int) == 1) = false := eq_no (n := m.k) (k := 1) (by omega)
  have q2 : ((m.k : Int) == 2) = true := eq_is (n := m.k) (k := 2) (by omega)
  clear hk
  rw [HE.out]
  clear HE
  go_enter Tryd.func40, Tryd.ntmps40
  go_wp2_with (first
    | ((with_reducible refine bxm (m := m) ?hx ?_); (case hx => rfl); intro b1 w1 h1 F1; have HM := Lib.hid h1; have HB := Lib.hid F1.below; clear h1 F1)
    | (have _ := HR; (with_reducible refine alm zeroM ?_); intro b3 w3 h3 F3; have N13 := Lib.hid (F3.ne HM.out); have N23 := Lib.hid (F3.ne HR.out); replace HM := Lib.hid (F3.stays HM.out); replace HR := Lib.hid (F3.stays HR.out); have HN := Lib.hid h3; have L3 := Lib.hid (F3.le HB.out); replace HB := Lib.hid (F3.on HB.out); clear h3 F3)
    | ((with_reducible refine alm zeroM ?_); intro b2 w2 h2 F2; have N12 := Lib.hid (F2.ne HM.out); replace HM := Lib.hid (F2.stays HM.out); have HR := Lib.hid h2; have L2 := Lib.hid (F2.le HB.out); replace HB := Lib.hid (F2.on HB.out); clear h2 F2; obtain ⟨c0, c1, c18, c19⟩ := flds HM.out)
    | ((with_reducible refine bdm ⟨m.k, m.c, Pn.zero, Msc.zero, 0, no⟩ ?hb ?_); (case hb => kernel_rfl))
    | ((with_reducible refine stm (m := ⟨m.k, m.c, Pn.zero, Msc.zero, 0, no⟩) isM HN.out ?hx ?hy ?_); (case hx => rfl); (case hy => rfl); intro w4 h4 M4; replace HN := Lib.hid h4; replace HM := Lib.hid (M4.other N13.out HM.out); replace HR := Lib.hid (M4.other N23.out HR.out); replace HB := Lib.hid (M4.below HB.out L3.out); clear c0 c1 c18 c19 h4 M4; obtain ⟨c0, c1, c18, c19⟩ := flds HM.out; obtain ⟨z0, z1, z18, z19⟩ := frees HN.out; obtain ⟨n0, n1, n18, n19⟩ := flds HN.out)
    | ((with_reducible refine lds isS HM.out ?hx ?_); (case hx => rfl))
    | ((with_reducible refine sts (s := m.s) isS HN.out ?hx ?hy ?_); (case hx => rfl); (case hy => rfl); intro w5 h5 M5; replace HN := Lib.hid h5; replace HR := Lib.hid (M5.other N23.out HR.out); replace HB := Lib.hid (M5.below HB.out L3.out); clear c0 c1 c18 c19 z0 z1 z18 z19 n0 n1 n18 n19 h5 M5)
    | ((with_reducible refine ldm isM HN.out ?hx ?_); (case hx => rfl))
    | ((with_reducible refine stm (m := ⟨m.k, m.c, Pn.zero, m.s, 0, no⟩) isM HR.out ?hx ?hy ?_); (case hx => rfl); (case hy => rfl); intro w6 h6 M6; replace HR := Lib.hid h6; replace HB := Lib.hid (M6.below HB.out L2.out); clear h6 M6))
  exact bodyPost_ret (needed_results _ _ b2 _ _ HR.out rfl) rfl ⟨rfl, HB.out⟩
theorem needed_5 (m : Ms) (hk : m.k = 5) (w : World) :
    Calls Tryd.prog 40 #[mv m] w fun e w' => e = .returned (mv (need m)) ∧ Below w.heap.size w w' := by
  have HE : Hid (need m = ⟨m.k, m.c, Pn.zero, Msc.zero, 0, m.b⟩) := Lib.hid (by unfold need; rw [hk]; rfl)
  have q1 : ((m.k : Int) == 1) = false := eq_no (n := m.k) (k := 1) (by omega)
  have q2 : ((m.k : Int) == 2) = false := eq_no (n := m.k) (k := 2) (by omega)
  have q5 : ((m.k : Int) == 5) = true := eq_is (n := m.k) (k := 5) (by omega)
  clear hk
  rw [HE.out]
  clear HE
  go_enter Tryd.func40, Tryd.ntmps40
  go_wp2_with (first
    | ((with_reducible refine bxm (m := m) ?hx ?_); (case hx => rfl); intro b1 w1 h1 F1; have HM := Lib.hid h1; have HB := Lib.hid F1.below; clear h1 F1)
    | (have _ := HR; (with_reducible refine alm zeroM ?_); intro b3 w3 h3 F3; have N13 := Lib.hid (F3.ne HM.out); have N23 := Lib.hid (F3.ne HR.out); replace HM := Lib.hid (F3.stays HM.out); replace HR := Lib.hid (F3.stays HR.out); have HN := Lib.hid h3; have L3 := Lib.hid (F3.le HB.out); replace HB := Lib.hid (F3.on HB.out); clear h3 F3)
    | ((with_reducible refine alm zeroM ?_); intro b2 w2 h2 F2; have N12 := Lib.hid (F2.ne HM.out); replace HM := Lib.hid (F2.stays HM.out); have HR := Lib.hid h2; have L2 := Lib.hid (F2.le HB.out); replace HB := Lib.hid (F2.on HB.out); clear h2 F2; obtain ⟨c0, c1, c18, c19⟩ := flds HM.out)
    | ((with_reducible refine bdm ⟨m.k, m.c, Pn.zero, Msc.zero, 0, no⟩ ?hb ?_); (case hb => kernel_rfl))
    | ((with_reducible refine stm (m := ⟨m.k, m.c, Pn.zero, Msc.zero, 0, no⟩) isM HN.out ?hx ?hy ?_); (case hx => rfl); (case hy => rfl); intro w4 h4 M4; replace HN := Lib.hid h4; replace HM := Lib.hid (M4.other N13.out HM.out); replace HR := Lib.hid (M4.other N23.out HR.out); replace HB := Lib.hid (M4.below HB.out L3.out); clear c0 c1 c18 c19 h4 M4; obtain ⟨c0, c1, c18, c19⟩ := flds HM.out; obtain ⟨z0, z1, z18, z19⟩ := frees HN.out; obtain ⟨n0, n1, n18, n19⟩ := flds HN.out)
    | ((with_reducible refine ldm isM (set_b HN.out m.b) ?hx ?_); (case hx => rfl))
    | ((with_reducible refine stm (m := ⟨m.k, m.c, Pn.zero, Msc.zero, 0, m.b⟩) isM ((mod_setCell _ _ _ _).other N23.out HR.out) ?hx ?hy ?_); (case hx => rfl); (case hy => rfl); intro w6 h6 M6; replace HR := Lib.hid h6; replace HB := Lib.hid (M6.below ((mod_setCell _ _ _ _).below HB.out L3.out) L2.out); clear h6 M6))
  exact bodyPost_ret (needed_results _ _ b2 _ _ HR.out rfl) rfl ⟨rfl, HB.out⟩
theorem needed_7 (m : Ms) (hk : m.k = 7) (w : World) :
    Calls Tryd.prog 40 #[mv m] w fun e w' => e = .returned (mv (need m)) ∧ Below w.heap.size w w' := by
  have HE : Hid (need m = ⟨m.k, m.c, Pn.zero, Msc.zero, m.t, no⟩) := Lib.hid (by unfold need; rw [hk]; rfl)
  have q1 : ((m.k : Int) == 1) = false := eq_no (n := m.k) (k := 1) (by omega)
  have q2 : ((m.k : Int) == 2) = false := eq_no (n := m.k) (k := 2) (by omega)
  have q5 : ((m.k : Int) == 5) = false := eq_no (n := m.k) (k := 5) (by omega)
  have q7 : ((m.k : Int) == 7) = true := eq_is (n := m.k) (k := 7) (by omega)
  clear hk
  rw [HE.out]
  clear HE
  go_enter Tryd.func40, Tryd.ntmps40
  go_wp2_with (first
    | ((with_reducible refine bxm (m := m) ?hx ?_); (case hx => rfl); intro b1 w1 h1 F1; have HM := Lib.hid h1; have HB := Lib.hid F1.below; clear h1 F1)
    | (have _ := HR; (with_reducible refine alm zeroM ?_); intro b3 w3 h3 F3; have N13 := Lib.hid (F3.ne HM.out); have N23 := Lib.hid (F3.ne HR.out); replace HM := Lib.hid (F3.stays HM.out); replace HR := Lib.hid (F3.stays HR.out); have HN := Lib.hid h3; have L3 := Lib.hid (F3.le HB.out); replace HB := Lib.hid (F3.on HB.out); clear h3 F3)
    | ((with_reducible refine alm zeroM ?_); intro b2 w2 h2 F2; have N12 := Lib.hid (F2.ne HM.out); replace HM := Lib.hid (F2.stays HM.out); have HR := Lib.hid h2; have L2 := Lib.hid (F2.le HB.out); replace HB := Lib.hid (F2.on HB.out); clear h2 F2; obtain ⟨c0, c1, c18, c19⟩ := flds HM.out)
    | ((with_reducible refine bdm ⟨m.k, m.c, Pn.zero, Msc.zero, 0, no⟩ ?hb ?_); (case hb => kernel_rfl))
    | ((with_reducible refine stm (m := ⟨m.k, m.c, Pn.zero, Msc.zero, 0, no⟩) isM HN.out ?hx ?hy ?_); (case hx => rfl); (case hy => rfl); intro w4 h4 M4; replace HN := Lib.hid h4; replace HM := Lib.hid (M4.other N13.out HM.out); replace HR := Lib.hid (M4.other N23.out HR.out); replace HB := Lib.hid (M4.below HB.out L3.out); clear c0 c1 c18 c19 h4 M4; obtain ⟨c0, c1, c18, c19⟩ := flds HM.out; obtain ⟨z0, z1, z18, z19⟩ := frees HN.out; obtain ⟨n0, n1, n18, n19⟩ := flds HN.out)
    | ((with_reducible refine ldm isM (set_t HN.out m.t) ?hx ?_); (case hx => rfl))
    | ((with_reducible refine stm (m := ⟨m.k, m.c, Pn.zero, Msc.zero, m.t, no⟩) isM ((mod_setCell _ _ _ _).other N23.out HR.out) ?hx ?hy ?_); (case hx => rfl); (case hy => rfl); intro w6 h6 M6; replace HR := Lib.hid h6; replace HB := Lib.hid (M6.below ((mod_setCell _ _ _ _).below HB.out L3.out) L2.out); clear h6 M6))
  exact bodyPost_ret (needed_results _ _ b2 _ _ HR.out rfl) rfl ⟨rfl, HB.out⟩
theorem needed_8 (m : Ms) (hk : m.k = 8) (w : World) :
    Calls Tryd.prog 40 #[mv m] w fun e w' => e = .returned (mv (need m)) ∧ Below w.heap.size w w' := by
  have HE : Hid (need m = ⟨m.k, m.c, Pn.zero, Msc.zero, m.t, m.b⟩) := Lib.hid (by unfold need; rw [hk]; rfl)
  have q1 : ((m.k : Int) == 1) = false := eq_no (n := m.k) (k := 1) (by omega)
  have q2 : ((m.k : Int) == 2) = false := eq_no (n := m.k) (k := 2) (by omega)
  have q5 : ((m.k : Int) == 5) = false := eq_no (n := m.k) (k := 5) (by omega)
  have q7 : ((m.k : Int) == 7) = false := eq_no (n := m.k) (k := 7) (by omega)
  have q8 : ((m.k : Int) == 8) = true := eq_is (n := m.k) (k := 8) (by omega)
  clear hk
  rw [HE.out]
  clear HE
  go_enter Tryd.func40, Tryd.ntmps40
  go_wp2_with (first
    | ((with_reducible refine bxm (m := m) ?hx ?_); (case hx => rfl); intro b1 w1 h1 F1; have HM := Lib.hid h1; have HB := Lib.hid F1.below; clear h1 F1)
    | (have _ := HR; (with_reducible refine alm zeroM ?_); intro b3 w3 h3 F3; have N13 := Lib.hid (F3.ne HM.out); have N23 := Lib.hid (F3.ne HR.out); replace HM := Lib.hid (F3.stays HM.out); replace HR := Lib.hid (F3.stays HR.out); have HN := Lib.hid h3; have L3 := Lib.hid (F3.le HB.out); replace HB := Lib.hid (F3.on HB.out); clear h3 F3)
    | ((with_reducible refine alm zeroM ?_); intro b2 w2 h2 F2; have N12 := Lib.hid (F2.ne HM.out); replace HM := Lib.hid (F2.stays HM.out); have HR := Lib.hid h2; have L2 := Lib.hid (F2.le HB.out); replace HB := Lib.hid (F2.on HB.out); clear h2 F2; obtain ⟨c0, c1, c18, c19⟩ := flds HM.out)
    | ((with_reducible refine bdm ⟨m.k, m.c, Pn.zero, Msc.zero, 0, no⟩ ?hb ?_); (case hb => kernel_rfl))
    | ((with_reducible refine stm (m := ⟨m.k, m.c, Pn.zero, Msc.zero, 0, no⟩) isM HN.out ?hx ?hy ?_); (case hx => rfl); (case hy => rfl); intro w4 h4 M4; replace HN := Lib.hid h4; replace HM := Lib.hid (M4.other N13.out HM.out); replace HR := Lib.hid (M4.other N23.out HR.out); replace HB := Lib.hid (M4.below HB.out L3.out); clear c0 c1 c18 c19 h4 M4; obtain ⟨c0, c1, c18, c19⟩ := flds HM.out; obtain ⟨z0, z1, z18, z19⟩ := frees HN.out; obtain ⟨n0, n1, n18, n19⟩ := flds HN.out))
  go_region
  all_goals
    go_wp2_with (first
      | ((with_reducible refine ldm isM (drew_at (set_b (set_t HN.out m.t) m.b)) ?hx ?_); (case hx => rfl))
      | ((with_reducible refine ldm isM (drew_at (set_t (set_b HN.out m.b) m.t)) ?hx ?_); (case hx => rfl))
      | ((with_reducible refine stm (m := ⟨m.k, m.c, Pn.zero, Msc.zero, m.t, m.b⟩) isM ((((mod_setCell _ _ _ _).trans (mod_setCell _ _ _ _)).trans (mod_drew _ _)).other N23.out HR.out) ?hx ?hy ?_); (case hx => rfl); (case hy => rfl); intro w6 h6 M6; replace HR := Lib.hid h6; replace HB := Lib.hid (M6.below ((((mod_setCell _ _ _ _).trans (mod_setCell _ _ _ _)).trans (mod_drew _ _)).below HB.out L3.out) L2.out); clear h6 M6))
    exact bodyPost_ret (needed_results _ _ b2 _ _ HR.out rfl) rfl ⟨rfl, HB.out⟩
theorem needed_0 (m : Ms) (hk : m.k ≠ 1 ∧ m.k ≠ 2 ∧ m.k ≠ 5 ∧ m.k ≠ 7 ∧ m.k ≠ 8) (w : World) :
    Calls Tryd.prog 40 #[mv m] w fun e w' => e = .returned (mv (need m)) ∧ Below w.heap.size w w' := by
  obtain ⟨g1, g2, g5, g7, g8⟩ := hk
  have HE : Hid (need m = ⟨m.k, m.c, Pn.zero, Msc.zero, 0, no⟩) := Lib.hid (by unfold need; rw [if_neg g1, if_neg g2, if_neg (by omega), if_neg (by omega)])
  have q1 : ((m.k : Int) == 1) = false := eq_no (n := m.k) (k := 1) g1
  have q2 : ((m.k : Int) == 2) = false := eq_no (n := m.k) (k := 2) g2
  have q5 : ((m.k : Int) == 5) = false := eq_no (n := m.k) (k := 5) g5
  have q7 : ((m.k : Int) == 7) = false := eq_no (n := m.k) (k := 7) g7
  have q8 : ((m.k : Int) == 8) = false := eq_no (n := m.k) (k := 8) g8
  clear g1 g2 g5 g7 g8
  rw [HE.out]
  clear HE
  go_enter Tryd.func40, Tryd.ntmps40
  go_wp2_with (first
    | ((with_reducible refine bxm (m := m) ?hx ?_); (case hx => rfl); intro b1 w1 h1 F1; have HM := Lib.hid h1; have HB := Lib.hid F1.below; clear h1 F1)
    | (have _ := HR; (with_reducible refine alm zeroM ?_); intro b3 w3 h3 F3; have N13 := Lib.hid (F3.ne HM.out); have N23 := Lib.hid (F3.ne HR.out); replace HM := Lib.hid (F3.stays HM.out); replace HR := Lib.hid (F3.stays HR.out); have HN := Lib.hid h3; have L3 := Lib.hid (F3.le HB.out); replace HB := Lib.hid (F3.on HB.out); clear h3 F3)
    | ((with_reducible refine alm zeroM ?_); intro b2 w2 h2 F2; have N12 := Lib.hid (F2.ne HM.out); replace HM := Lib.hid (F2.stays HM.out); have HR := Lib.hid h2; have L2 := Lib.hid (F2.le HB.out); replace HB := Lib.hid (F2.on HB.out); clear h2 F2; obtain ⟨c0, c1, c18, c19⟩ := flds HM.out)
    | ((with_reducible refine bdm ⟨m.k, m.c, Pn.zero, Msc.zero, 0, no⟩ ?hb ?_); (case hb => kernel_rfl))
    | ((with_reducible refine stm (m := ⟨m.k, m.c, Pn.zero, Msc.zero, 0, no⟩) isM HN.out ?hx ?hy ?_); (case hx => rfl); (case hy => rfl); intro w4 h4 M4; replace HN := Lib.hid h4; replace HM := Lib.hid (M4.other N13.out HM.out); replace HR := Lib.hid (M4.other N23.out HR.out); replace HB := Lib.hid (M4.below HB.out L3.out); clear c0 c1 c18 c19 h4 M4; obtain ⟨c0, c1, c18, c19⟩ := flds HM.out; obtain ⟨z0, z1, z18, z19⟩ := frees HN.out; obtain ⟨n0, n1, n18, n19⟩ := flds HN.out)
    | ((with_reducible refine ldm isM HN.out ?hx ?_); (case hx => rfl))
    | ((with_reducible refine stm (m := ⟨m.k, m.c, Pn.zero, Msc.zero, 0, no⟩) isM HR.out ?hx ?hy ?_); (case hx => rfl); (case hy => rfl); intro w6 h6 M6; replace HR := Lib.hid h6; replace HB := Lib.hid (M6.below HB.out L2.out); clear h6 M6))
  exact bodyPost_ret (needed_results _ _ b2 _ _ HR.out rfl) rfl ⟨rfl, HB.out⟩
theorem fneeded (m : Ms) (w : World) :
    Calls Tryd.prog 40 #[mv m] w fun e w' => e = .returned (mv (need m)) ∧ Below w.heap.size w w' := by
  by_cases h1 : m.k = 1
  · exact needed_1 m h1 w
  by_cases h2 : m.k = 2
  · exact needed_2 m h2 w
  by_cases h5 : m.k = 5
  · exact needed_5 m h5 w
  by_cases h7 : m.k = 7
  · exact needed_7 m h7 w
  by_cases h8 : m.k = 8
  · exact needed_8 m h8 w
  exact needed_0 m ⟨h1, h2, h5, h7, h8⟩ w
end Go.Proofs.YtakkhdammmcjcaaDoor.Msgs
/-
  What the functions of layer 2 that write and split an address, and each of the document's own, answer. No condition.
-/
namespace Go.Proofs.YtakkhdammmcjcaaDoor.Ea
open Go.RowKit Go.Proofs.YtakkhdammmcjcaaDoor.Base
theorem isLast (a : Nat) (ha : a < 256) (w : World) :
    Calls Tryd.prog 81 #[.int .u8 (a : Int)] w fun e w' => e = .returned (.bool (spK a)) ∧ w = w' := by
  have H := u8_and1 a ha
  go_enter Tryd.func81, Tryd.ntmps81
  go_wp2
  go_ret
  exact ⟨ret_bool (by unfold spK; rw [Bool.eq_iff_iff]; simp; omega), rfl⟩
theorem address (d : Nat) (hd : d < 256) (cr : Bool) (w : World) :
    Calls Tryd.prog 62 #[.int .u8 (d : Int), .bool cr] w fun e w' => e = .returned (.int .u8 (addr d cr : Int)) ∧ w = w' := by
  by_cases h : 63 < d
  · go_enter Tryd.func62, Tryd.ntmps62
    go_wp2
    go_ret
    exact ⟨ret_int (by rw [addr, if_pos h]; rfl), rfl⟩
  · have e1 : bits .or .u8 ((d : Int) * 4) 1 = (d : Int) * 4 + 1 := bits_join .u8 8 (by decide) wraps_u8 2 _ _ (by omega) (by omega) (by omega) (by decide) (by decide) (by decide)
    have e2 : bits .or .u8 ((d : Int) * 4 + 1) 2 = (d : Int) * 4 + 3 := by
      have : ∀ j : Fin 64, bits .or .u8 ((j.val : Int) * 4 + 1) 2 = (j.val : Int) * 4 + 3 := by decide +kernel
      exact this ⟨d, by omega⟩
    have ha : addr d cr = 4 * d + 2 * cr.toNat + 1 := if_neg h
    rw [ha]; clear ha
    cases cr
    all_goals
      go_enter Tryd.func62, Tryd.ntmps62
      go_wp2
      go_ret
      exact ⟨ret_int (by simp; omega), rfl⟩
theorem split (a : Nat) (ha : a < 256) (w : World) :
    Calls Tryd.prog 83 #[.int .u8 (a : Int)] w fun e w' => e = .returned (.tuple #[.int .u8 (spD a : Int), .bool (spC a), .bool (spK a)]) ∧ w = w' := by
  have e2 := u8_and2 a ha
  by_cases h : a % 2 = 1
  · have hk : spK a = true := decide_eq_true h
    have HD : Hid (spD a = a / 4) := Lib.hid (if_pos h)
    have HC : Hid (spC a = decide (a / 2 % 2 = 1)) := Lib.hid (by unfold spC; rw [Bool.eq_iff_iff]; simp [h])
    go_enter Tryd.func83, Tryd.ntmps83
    go_wp2_with (go_at_call 81; ((with_reducible refine (isLast _ ha _).mono ?_); rintro e w' ⟨rfl, rfl⟩))
    go_ret3
    exact ⟨ret_ibb (by rw [HD.out]; simp) (by rw [HC.out, Bool.eq_iff_iff]; simp; omega) hk.symm, rfl⟩
  · have hk : spK a = false := decide_eq_false h
    have HD : Hid (spD a = 0) := Lib.hid (if_neg h)
    have HC : Hid (spC a = false) := Lib.hid (by unfold spC; rw [Bool.eq_iff_iff]; simp [h])
    go_enter Tryd.func83, Tryd.ntmps83
    go_wp2_with (go_at_call 81; ((with_reducible refine (isLast _ ha _).mono ?_); rintro e w' ⟨rfl, rfl⟩))
    go_ret3
    exact ⟨ret_ibb (by rw [HD.out]; rfl) HC.out.symm hk.symm, rfl⟩
end Go.Proofs.YtakkhdammmcjcaaDoor.Ea
