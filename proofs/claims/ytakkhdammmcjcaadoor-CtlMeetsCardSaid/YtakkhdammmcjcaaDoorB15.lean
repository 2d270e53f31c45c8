/-
  Layer 22, put together: CtlRef1, CtlDoc, MsgsRef, MsgsRput, CtlDoc2, CtlNext, CtlNext2, CtlResp (what each says stands ahead of it). Conditions: as each names them.
-/
import Derived.Test.YtakkhdammmcjcaaDoorB07
import Derived.Test.YtakkhdammmcjcaaDoorB09
import Derived.Test.YtakkhdammmcjcaaDoorB10
import Derived.Deep.RegionHeld
import Derived.Lib.MinMax
/-
  The document's own: are two messages the same command, does a response answer a command. No condition.
-/
namespace Go.Proofs.YtakkhdammmcjcaaDoor.Ctl
open Go.RowKit Go.Proofs.YtakkhdammmcjcaaDoor.Base Go.Proofs.YtakkhdammmcjcaaDoor.Mem Go.Proofs.YtakkhdammmcjcaaDoor.Msgs Go.Proofs.YtakkhdammmcjcaaDoor.Cr
set_option maxRecDepth 100000
theorem oc_beq (a b : Nat) : ((a : Int) == (b : Int)) = (a == b) := by
  by_cases h : a = b
  · rw [h, beq_self_eq_true, beq_self_eq_true]
  · rw [Mem.beq_false (by omega), beq_eq_false_iff_ne.2 h]
end Go.Proofs.YtakkhdammmcjcaaDoor.Ctl
/-
  The document's own side in memory: its parameters and numbers, its row of answers, its row of commands; what its without and Has answer. Condition: at most a thousand of each.
-/
namespace Go.Proofs.YtakkhdammmcjcaaDoor.Ctl
open Go.RowKit Go.Proofs.YtakkhdammmcjcaaDoor.Base Go.Proofs.YtakkhdammmcjcaaDoor.Mem Go.Proofs.YtakkhdammmcjcaaDoor.Msgs Go.Proofs.YtakkhdammmcjcaaDoor.Cr
set_option maxRecDepth 20000
abbrev DT : TypeId := 58
abbrev WT : TypeId := 151
abbrev RT : TypeId := 85
theorem isW : IsRow WT 23 := ⟨⟨_, Tryd.underlying151⟩, by kernel_rfl⟩
theorem eltW : Elt WT 56 23 wl where
  under := Tryd.underlying56
  info := ⟨.agg (wc noW), 104, by kernel_rfl, rfl, by decide⟩
  len := wl_len
  one := wl_one
  pos := by decide
theorem infoW : (Tryd.prog.info? WT).map (fun i => (i.zero, i.size)) = some (some (.agg (wc noW)), 23) := by kernel_rfl
/-- A slice literal of structs of any number of cells. -/
theorem bslz {z len : Nat} {S e : Nat} {zc : Array Value} {parts : Array (Nat × Operand)} {ops : Array Oper} {rest : List Oper} {a : Act} {Q : Exit → Act → World → Prop} {d : Option Tmp} {ty : TypeId} {pos : String} {af : Array Edge} {w : World} (cells : Array Value) (hu : Tryd.prog.underlying S = some (.slice e)) (he : (Tryd.prog.info? e).map (fun i => (i.zero, i.size)) = some (some (.agg zc), z)) (hl : 0 < len ∧ len ≤ 100) (hz : 0 < z ∧ z ≤ 100)
    (hf : Instr.fill (fun i => some (i * z, z)) ((Array.range (len * z)).map (zc[· % zc.size]!)) (parts.map fun (i, x) => (i, a.eval x)).toList = some cells)
    (k : ∀ (b : Nat) (w' : World), w'.heap[b]? = some (.cells cells e (0, 0)) → Fresh b w w' → wpList Tryd.prog ops Q rest (a.put d (.slice (some ⟨b, 0, none⟩) len len)) w') :
    wpList Tryd.prog ops Q ({ dst := d, op := .buildSlice S len parts, type := ty, pos := pos, after := af, guard := none } :: rest) a w := by
  cases hq : Tryd.prog.info? e with
  | none => simp [hq] at he
  | some i =>
    simp only [hq, Option.map_some, Option.some.injEq, Prod.mk.injEq] at he
    have hm : len * z ≤ 100 * 100 := Nat.mul_le_mul hl.2 hz.2
    have hp : 0 < len * z := Nat.mul_pos hl.1 hz.1
    refine wpList_buildSlice rfl S e len parts rfl cells i (.agg zc) hu hq he.1 (by rw [he.2]; omega) (by rw [he.2]; omega) (by rw [he.2]; exact hf) ?_
    exact k w.heap.size (w.alloc (.cells cells e (0, 0))) (nest w [_] 0 _ rfl) (fresh_alloc w _)
theorem row_ofz {w : World} {b : Nat} {vs : List Value} {t : TypeId} (h : w.heap[b]? = some (.cells vs.toArray t (0, 0))) : ∀ j, j < vs.length → w.cell? ⟨b, j, none⟩ = vs[j]? := fun j hj => by
  rw [cell_of h (v := vs[j]) (by simp [hj]), List.getElem?_eq_getElem hj]
/-- The commands without the one at a place, of the first k. -/
def wo (l : List Wt) (i k : Nat) : List Wt := l.take (min k i) ++ (l.take k).drop (i + 1)
theorem wo_next (l : List Wt) (i k : Nat) (x : Wt) (hx : l[k]? = some x) : wo l i (k + 1) = if k = i then wo l i k else wo l i k ++ [x] := by
  have hk : k < l.length := (List.getElem?_eq_some_iff.1 hx).1
  have ht : l.take (k + 1) = l.take k ++ [x] := by rw [List.take_add_one, hx]; rfl
  unfold wo
  rcases Nat.lt_trichotomy k i with h | h | h
  · rw [if_neg (by omega), Nat.min_eq_left (by omega), Nat.min_eq_left (by omega), ht, List.drop_of_length_le (by simp; omega), List.drop_of_length_le (by simp; omega), List.append_nil, List.append_nil]
  · subst h
    rw [if_pos rfl, Nat.min_eq_right (by omega), Nat.min_self, List.drop_of_length_le (by simp; omega), List.drop_of_length_le (by simp; omega)]
  · rw [if_neg (by omega), Nat.min_eq_right (by omega), Nat.min_eq_right (by omega), ht, List.drop_append_of_le_length (by simp; omega), List.append_assoc]
theorem wo_end (l : List Wt) (i : Nat) (hi : i < l.length) : wo l i l.length = l.take i ++ l.drop (i + 1) := by
  unfold wo; rw [Nat.min_eq_right (by omega), List.take_length]
/-- Its cells. -/
def dcl (x : Ct) (va vc : Value) : Array Value := #[.int .u8 x.own.d, .int .u8 x.own.f, .int .u8 x.own.c, .int .u8 x.own.r, .int .i64 x.own.t, .int .i64 x.own.n, .int .i64 x.own.z, .int .i64 x.own.k, nm x.t2, nm x.n2, va, vc]
/-- It lies there: its struct, its row of answers, its row of commands. -/
structure D (w : World) (c base : Nat) (va vc : Value) (x : Ct) : Prop where
  hd : At w c (dcl x va vc) DT
  an : Qz 20 ml w base va x.an
  cs : OwnS WT 23 wl w base vc x.cs
  ne : ∀ k, va.ownBlock = some k → k ≠ c ∧ vc.ownBlock ≠ some k
  lo : base ≤ c
/-- Its blocks. -/
def DS (c : Nat) (va vc : Value) : Nat → Prop := fun k => k = c ∨ va.ownBlock = some k ∨ vc.ownBlock = some k
theorem ne_type {w : World} {a b : Nat} {cs cs' : Array Value} {t t' : TypeId} (h : w.heap[a]? = some (.cells cs t)) (h' : w.heap[b]? = some (.cells cs' t')) (ht : t ≠ t') : a ≠ b := fun e => by
  subst e
  rw [h, Option.some.injEq] at h'
  injection h' with _ e
  exact ht e
section
variable {α : Type} {E z : Nat} {fc : α → List Value} {w w' : World} {base : Nat} {v : Value} {l : List α}
theorem own_blk (h : OwnS E z fc w base v l) {b : Nat} (hb : v.ownBlock = some b) : ∃ cs, w.heap[b]? = some (.cells cs E) := by
  rcases h.2 with ⟨h2, _⟩ | ⟨g, cap, cur, h2, h3, h4, _⟩
  · rw [h2] at hb; cases hb
  · rw [h2] at hb
    cases hb
    exact ⟨cur, h4⟩
theorem own_keep (h : OwnS E z fc w base v l) (hk : ∀ b, v.ownBlock = some b → w'.heap[b]? = w.heap[b]?) : OwnS E z fc w' base v l := by
  obtain ⟨h1, h2⟩ := h
  refine ⟨h1, ?_⟩
  rcases h2 with h2 | ⟨g, cap, cur, h2, h3, h4, h5⟩
  · exact Or.inl h2
  · exact Or.inr ⟨g, cap, cur, h2, h3, by rw [hk g (by rw [h2]; rfl)]; exact h4, h5⟩
theorem own_form (h : OwnS E z fc w base v l) : ∃ oa cap, v = .slice oa l.length cap ∧ ∀ i, i < l.length → ∃ g, oa = some ⟨g, 0, none⟩ := by
  rcases h.shape with ⟨h1, h2⟩ | ⟨g, cap, h1, _⟩
  · subst h2
    exact ⟨none, 0, h1, fun i hi => by simp at hi⟩
  · exact ⟨some ⟨g, 0, none⟩, cap, h1, fun _ _ => ⟨g, rfl⟩⟩
end
section
variable {w w' : World} {c base : Nat} {va vc : Value} {x : Ct}
theorem D.below (h : D w c base va vc x) (hb : Below w.heap.size w w') : D w' c base va vc x := ⟨h.hd.below hb, h.an.below hb, h.cs.below hb, h.ne, h.lo⟩
theorem D.cells (h : D w c base va vc x) : w.cell? ⟨c, 8, none⟩ = some (nm x.t2) ∧ w.cell? ⟨c, 9, none⟩ = some (nm x.n2) ∧ w.cell? ⟨c, 10, none⟩ = some va ∧ w.cell? ⟨c, 11, none⟩ = some vc :=
  ⟨h.hd.cell 8 _ rfl, h.hd.cell 9 _ rfl, h.hd.cell 10 _ rfl, h.hd.cell 11 _ rfl⟩
theorem D.own_lt (h : D w c base va vc x) : ∀ k, DS c va vc k → base ≤ k ∧ k < w.heap.size := fun k hk => by
  rcases hk with rfl | hk | hk
  · exact ⟨h.lo, h.hd.lt⟩
  · exact h.an.lt k hk
  · exact h.cs.lt k hk
/-- What an element of the commands' row reads. -/
theorem elt_at {g n cap : Nat} {l : List Wt} (h : OwnS WT 23 wl w base (.slice (some ⟨g, 0, none⟩) n cap) l) {i : Nat} {y : Wt} (hy : l[i]? = some y) :
    w.cell? ⟨g, i * 23 + 20, none⟩ = some (nm y.tr) ∧ w.cell? ⟨g, i * 23 + 21, none⟩ = some (nm y.lf) ∧ w.cell? ⟨g, i * 23 + 22, none⟩ = some (.bool y.sd) := by
  have h0 := OwnS.cell wl_len h i y hy 20 (by decide)
  have h1 := OwnS.cell wl_len h i y hy 21 (by decide)
  have h2 := OwnS.cell wl_len h i y hy 22 (by decide)
  rw [Nat.mul_comm] at h0 h1 h2
  exact ⟨h0, h1, h2⟩
end
end Go.Proofs.YtakkhdammmcjcaaDoor.Ctl
/-
  What the document's own May, value, Put and Octet of layer 10 answer. Conditions: octets are octets; a message that is valued may be.
-/
namespace Go.Proofs.YtakkhdammmcjcaaDoor.Msgs
open Go.RowKit Go.Proofs.YtakkhdammmcjcaaDoor.Base Go.Proofs.YtakkhdammmcjcaaDoor.Mem
set_option maxRecDepth 20000
end Go.Proofs.YtakkhdammmcjcaaDoor.Msgs
/-
  What the document's own value, Put and Octet of layer 10 answer. Conditions: octets are octets; a message that is valued may be.
-/
namespace Go.Proofs.YtakkhdammmcjcaaDoor.Msgs
open Go.RowKit Go.Proofs.YtakkhdammmcjcaaDoor.Base Go.Proofs.YtakkhdammmcjcaaDoor.Mem
set_option maxRecDepth 20000
end Go.Proofs.YtakkhdammmcjcaaDoor.Msgs
/-
  What the document's own New, Has and Next answer, and leave. Condition: it lies where it says.
-/
namespace Go.Proofs.YtakkhdammmcjcaaDoor.Ctl
open Go.RowKit Go.Proofs.YtakkhdammmcjcaaDoor.Base Go.Proofs.YtakkhdammmcjcaaDoor.Mem Go.Proofs.YtakkhdammmcjcaaDoor.Msgs Go.Proofs.YtakkhdammmcjcaaDoor.Cr
set_option maxRecDepth 20000
theorem wrap_nat (n : Nat) (h : n ≤ 9223372036854775807) : IntKind.i64.wrap (n : Int) = (n : Int) := by rw [IntKind.wrap_i64]; omega
section
variable {w w' : World} {c base b : Nat} {va vc : Value} {x : Ct}
theorem D.eqv (h : D w c base va vc x) (he : ∀ k, DS c va vc k → w'.heap[k]? = w.heap[k]?) : D w' c base va vc x :=
  ⟨(he c (.inl rfl)).trans h.hd, h.an.eqv fun g hg => he g (.inr (.inl hg)), own_keep h.cs fun g hg => he g (.inr (.inr hg)), h.ne, h.lo⟩
theorem D.mod (h : D w c base va vc x) (M : Mod b w w') (hb : ¬ DS c va vc b) : D w' c base va vc x := h.eqv fun k hk => M.rest k fun e => hb (e ▸ hk)
theorem D.not_new (h : D w c base va vc x) {k : Nat} (hk : w.heap.size ≤ k) : ¬ DS c va vc k := fun hs => by have := (h.own_lt k hs).2; omega
theorem D.free (h : D w c base va vc x) : ∀ i, w.frozen? ⟨c, i, none⟩ = false := h.hd.free
theorem ok_b {m : Ms} (h : m.Ok) : m.b.size ≤ 127 := by
  have h1 := (may_of h.may).2
  have h2 := h.few
  have hk := may_k h.may
  unfold val at h2
  have hb : m.b = if m.k = 5 ∨ m.k = 8 then m.b else no := congrArg Ms.b h1
  by_cases h5 : m.k = 5 ∨ m.k = 8
  · rw [if_neg (by omega), if_neg (by omega), if_neg (by omega), if_pos h5] at h2; exact h2
  · rw [if_neg h5] at hb; rw [hb]; show 0 ≤ 127; decide
theorem any_take {p : Wt → Bool} {l : List Wt} {k : Nat} {y : Wt} (hy : l[k]? = some y) : (l.take (k + 1)).any p = ((l.take k).any p || p y) := by
  rw [List.take_add_one, hy, List.any_append]; simp
/-- What a call leaves that turns nothing but its own. -/
structure Nx (w : World) (c base : Nat) (va vc : Value) (x : Ct) (w' : World) : Prop where
  d : ∃ va' vc', D w' c base va' vc' x ∧ ∀ k, DS c va' vc' k → DS c va vc k ∨ w.heap.size ≤ k
  chg : Chg (DS c va vc) w w'
theorem Nx.below (h : D w c base va vc x) (hb : Below w.heap.size w w') : Nx w c base va vc x w' := ⟨⟨va, vc, h.below hb, fun _ hk => .inl hk⟩, Chg.of_below hb⟩
/-- The document's own is made. -/
def pcl (p : Pn.Pr) : Array Value := #[.int .u8 p.d, .int .u8 p.f, .int .u8 p.c, .int .u8 p.r, .int .i64 p.t, .int .i64 p.n, .int .i64 p.z, .int .i64 p.k]
theorem built0 (p : Pn.Pr) (t n : Int) : Tryd.prog.built DT [(0, .agg (pcl p)), (1, .int .i64 t), (2, .int .i64 n)] = some #[.int .u8 p.d, .int .u8 p.f, .int .u8 p.c, .int .u8 p.r, .int .i64 p.t, .int .i64 p.n, .int .i64 p.z, .int .i64 p.k, .int .i64 t, .int .i64 n, .slice none 0 0, .slice none 0 0] := by kernel_rfl
theorem pcells {b : Nat} {p : Pn.Pr} {t : TypeId} (h : w.heap[b]? = some (.cells (pcl p) t (0, 0))) : w.cell? ⟨b, 0, none⟩ = some (.int .u8 p.d) ∧ w.cell? ⟨b, 1, none⟩ = some (.int .u8 p.f) ∧ w.cell? ⟨b, 2, none⟩ = some (.int .u8 p.c) ∧ w.cell? ⟨b, 3, none⟩ = some (.int .u8 p.r) ∧ w.cell? ⟨b, 4, none⟩ = some (.int .i64 p.t) ∧ w.cell? ⟨b, 5, none⟩ = some (.int .i64 p.n) ∧ w.cell? ⟨b, 6, none⟩ = some (.int .i64 p.z) ∧ w.cell? ⟨b, 7, none⟩ = some (.int .i64 p.k) :=
  ⟨cell_of h rfl, cell_of h rfl, cell_of h rfl, cell_of h rfl, cell_of h rfl, cell_of h rfl, cell_of h rfl, cell_of h rfl⟩
theorem brought_t (t : Int) : min (max t 1) 255 = (((min (max t 1) 255).toNat : Nat) : Int) := by omega
theorem brought_n (t : Int) : min (max t 0) 255 = (((min (max t 0) 255).toNat : Nat) : Int) := by omega
theorem bdB {ops : Array Oper} {rest : List Oper} {a : Act} {Q : Exit → Act → World → Prop} {d : Option Tmp} {ty : TypeId} {pos : String} {af : Array Edge} {T : Nat} {parts : Array (Nat × Operand)} {l : List (Nat × Value)} {c : Array Value} (hb : Tryd.prog.built T l = some c) (hl : (parts.map fun (i, x) => (i, a.eval x)).toList = l) (k : wpList Tryd.prog ops Q rest (a.put d (.agg c)) w) :
    wpList Tryd.prog ops Q ({ dst := d, op := .build T parts, type := ty, pos := pos, after := af, guard := none } :: rest) a w := by
  subst hl
  refine wpList_build rfl T parts rfl (by rw [hb]; rfl) ?_
  rw [hb]
  exact k
set_option maxHeartbeats 2000000 in
theorem rnew (p : Pn.Pr) (t2 n2 : Int) (w : World) : Calls Tryd.prog 15 #[Pn.pv p, .int .i64 t2, .int .i64 n2] w fun e w' => ∃ c, e = .returned (ptr c) ∧ D w' c w.heap.size (.slice none 0 0) (.slice none 0 0) (Ct.new p t2 n2) ∧ Below w.heap.size w w' := by
  have HC := Lib.hid (built0 (brought p) (min (max t2 1) 255) (min (max n2 0) 255))
  go_enter Tryd.func15, Tryd.ntmps15
  go_wp2_with (first
    | ((with_reducible refine bxz (pcl p) ?hx ?_); (case hx => rfl); intro b1 w1 h1 F1; obtain ⟨c0, c1, c2, c3, c4, c5, c6, c7⟩ := pcells h1; have f1 : ∀ i, w1.frozen? ⟨b1, i, none⟩ = false := fun _ => free_of h1; have l1 := lt_heap h1; have L1 := Lib.hid F1; clear h1 F1)
    | ((with_reducible refine bdB HC.out ?hl ?_); (case hl => kernel_rfl)))
  have HB := Lib.hid ((L1.out.below.setCell (p := ⟨b1, 5, none⟩) (L1.out.le (Below.refl _ _)) (.int .i64 (min (max p.n 1) 65535))).setCell (p := ⟨b1, 7, none⟩) (L1.out.le (Below.refl _ _)) (.int .i64 (min (max p.k 1) 7)))
  have hs : w1.heap.size = ((w1.setCell ⟨b1, 5, none⟩ (.int .i64 (min (max p.n 1) 65535))).setCell ⟨b1, 7, none⟩ (.int .i64 (min (max p.k 1) 7))).heap.size := by simp
  rw [hs]
  clear HC c0 c1 c2 c3 c4 c5 c6 c7 f1 l1 hs
  generalize (w1.setCell ⟨b1, 5, none⟩ (.int .i64 (min (max p.n 1) 65535))).setCell ⟨b1, 7, none⟩ (.int .i64 (min (max p.k 1) 7)) = w2 at HB ⊢
  go_ret
  refine ⟨_, rfl, ⟨?_, qz_nil _ _, ownS_nil _ _, fun k hk => (by cases hk), HB.out.size⟩, HB.out.alloc HB.out.size _⟩
  have e1 := brought_t t2
  have e2 := brought_n n2
  show (w2.alloc _).heap[w2.heap.size]? = _
  rw [e1, e2]
  exact nest w2 [_] 0 _ rfl
end
end Go.Proofs.YtakkhdammmcjcaaDoor.Ctl
/-
  What the document's own Next answers, and leaves. Condition: it lies where it says.
-/
namespace Go.Proofs.YtakkhdammmcjcaaDoor.Ctl
open Go.RowKit Go.Proofs.YtakkhdammmcjcaaDoor.Base Go.Proofs.YtakkhdammmcjcaaDoor.Mem Go.Proofs.YtakkhdammmcjcaaDoor.Msgs Go.Proofs.YtakkhdammmcjcaaDoor.Cr
set_option maxRecDepth 20000
section
variable {α : Type} {z : Nat} {fc : α → List Value} {w : World} {base n c : Nat} {o : Option Addr} {y : α} {r : List α}
/-- The first element of a row that is not empty, and the row without it. -/
theorem qz_uncons (hl : ∀ x, (fc x).length = z) (h : Qz z fc w base (.slice o n c) (y :: r)) :
    ∃ g off, o = some ⟨g, off, none⟩ ∧ n = r.length + 1 ∧ n ≤ c ∧ c ≤ 9223372036854775807 ∧ g < w.heap.size ∧ w.rangeAt g off (fc y) ∧ Qz z fc w base (.slice (some ⟨g, if c = 1 then off else off + z, none⟩) r.length (c - 1)) r := by
  rcases h with ⟨_, h⟩ | ⟨g, off, cap, hv, hb, hR⟩
  · cases h
  · injection hv with h1 h2 h3
    subst h1 h2 h3
    have hln := hR.len
    refine ⟨g, off, rfl, rfl, hln, hR.max, hR.lt, fun j v hv => ?_, ?_⟩
    · have hj : j < z := by rw [← hl y]; exact (List.getElem?_eq_some_iff.1 hv).1
      have := hR.cell 0 y rfl j hj
      rw [Nat.mul_zero, Nat.zero_add] at this
      exact this.trans hv
    · rw [List.length_cons] at hln
      by_cases hc : c = 1
      · rw [if_pos hc]
        have hr : r = [] := List.eq_nil_of_length_eq_zero (by omega)
        subst hr
        subst hc
        exact Qz.of hb ⟨Nat.zero_le _, by decide, hR.lt, fun i y hi => (by simp at hi), fun i hi => (by simp at hi), fun i hi => (by simp at hi)⟩ rfl
      · rw [if_neg hc]
        have := hR.drop 1 (by omega)
        rw [Nat.mul_one] at this
        exact Qz.of hb this rfl
end
section
variable {w w' : World} {c base b : Nat} {va vc va' vc' : Value} {x : Ct} {r : List Ms} {l : List Wt}
theorem D.set_an (h : D w c base va vc x) (hq : Qz 20 ml w base va' r) (ho : ∀ k, va'.ownBlock = some k → k ≠ c ∧ vc.ownBlock ≠ some k) : D (w.setCell ⟨c, 10, none⟩ va') c base va' vc { x with an := r } :=
  ⟨h.hd.set 10 va', hq.eqv fun g hg => set_other (ho g hg).1 _, own_keep h.cs fun g hg => set_other (fun e => by
    obtain ⟨cs, hc⟩ := own_blk h.cs hg
    exact ne_type h.hd hc (by decide) e.symm) _, ho, h.lo⟩
theorem D.set_cs (h : D w c base va vc x) (hq : OwnS WT 23 wl w base vc' l) (ho : ∀ k, va.ownBlock = some k → vc'.ownBlock ≠ some k) : D (w.setCell ⟨c, 11, none⟩ vc') c base va vc' { x with cs := l } :=
  ⟨h.hd.set 11 vc', h.an.eqv fun g hg => set_other (h.ne g hg).1 _, own_keep hq fun g hg => set_other (fun e => by
    obtain ⟨cs, hc⟩ := own_blk hq hg
    exact ne_type h.hd hc (by decide) e.symm) _, fun k hk => ⟨(h.ne k hk).1, ho k hk⟩, h.lo⟩
theorem chg_mod {S : Nat → Prop} {a : World} (h : Chg S a w) (M : Mod b w w') (hb : a.heap.size ≤ b) : Chg S a w' :=
  h.trans (T := fun k => k = b) ⟨M.os, M.tape, M.output, Nat.le_of_eq M.size.symm, fun k _ hk => M.rest k hk⟩ fun k hk e => by subst e; omega
end
end Go.Proofs.YtakkhdammmcjcaaDoor.Ctl
/-
  What the document's own Next answers, and leaves, where no answer waits. Condition: it lies where it says.
-/
namespace Go.Proofs.YtakkhdammmcjcaaDoor.Ctl
open Go.RowKit Go.Proofs.YtakkhdammmcjcaaDoor.Base Go.Proofs.YtakkhdammmcjcaaDoor.Mem Go.Proofs.YtakkhdammmcjcaaDoor.Msgs Go.Proofs.YtakkhdammmcjcaaDoor.Cr
set_option maxRecDepth 100000
/-- What Next answers. -/
def nv : Option Ms → Value
  | none => .tuple #[.string ⟨#[]⟩, .int .u8 0, .bool false]
  | some m => .tuple #[.string (putS m), .int .u8 (ch m : Int), .bool true]
theorem say_skip (t2 : Nat) {y : Wt} (hy : y.lf = 0) : ∀ (l : List Wt) (k : Nat), l[k]? = some y → (∀ j z, j < k → l[j]? = some z → z.lf ≠ 0) → say t2 l = (some y.m, l.set k ⟨y.m, y.tr, t2, true⟩)
  | [], k, h, _ => by simp at h
  | v :: r, 0, h, _ => by
    obtain rfl : v = y := by simpa using h
    unfold say; rw [if_pos hy]; rfl
  | v :: r, k + 1, h, hn => by
    have hv : v.lf ≠ 0 := hn 0 v (Nat.succ_pos k) rfl
    have ih := say_skip t2 hy r k (by simpa using h) fun j z hj hz => hn (j + 1) z (by omega) (by simpa using hz)
    unfold say; rw [if_neg hv, ih]; rfl
theorem say_all (t2 : Nat) : ∀ l : List Wt, (∀ z ∈ l, z.lf ≠ 0) → say t2 l = (none, l)
  | [], _ => rfl
  | v :: r, h => by
    unfold say; rw [if_neg (h v List.mem_cons_self), say_all t2 r fun z hz => h z (List.mem_cons_of_mem _ hz)]
theorem rangez_of {w : World} {b : Nat} {vs : List Value} {t : TypeId} (h : w.heap[b]? = some (.cells vs.toArray t (0, 0))) : w.rangeAt b 0 vs := fun j v hv => by
  rw [Nat.zero_add]; exact cell_of h (by simpa using hv)
theorem range_m {w : World} {b : Nat} {y : Wt} {t : TypeId} (h : w.heap[b]? = some (.cells (wc y) t (0, 0))) : w.rangeAt b 0 (ml y.m) := fun j v hv => by
  refine rangez_of (vs := wl y) h j v ?_
  unfold wl
  rw [List.getElem?_append_left (List.getElem?_eq_some_iff.1 hv).1]; exact hv
theorem ex_ldz {n b o T : Nat} {d : Option Tmp} {x : Operand} {ty : TypeId} {pos : String} {af : Array Edge} {w : World} {g : Option (Nat × Bool)} {ρ : Operand → Value} (vs : List Value) (hT : IsRow T n) (h : w.rangeAt b o vs) (hz : vs.length = n) (hx : ρ x = .pointer (some ⟨b, o, none⟩)) :
    (execOp ρ { dst := d, op := .load T x, type := ty, pos := pos, after := af, guard := g }).run Tryd.prog w = .ok (.value (.agg vs.toArray)) w := by
  obtain ⟨fs, hu⟩ := hT.under
  subst hz
  unfold execOp
  simp only [hx, Sem.run_bind, run_loadAt_mid w b o T vs _ h hu rfl hT.size, Sem.run_pure, Result.andThen_ok]
theorem step_stz {α : Type} {z E g n cap base i T : Nat} {fc : α → List Value} {l : List α} {ops : Array Oper} {a : Act} {w : World} {K : Act → World → Prop} {Q : Exit → Act → World → Prop} {X : Prop} {d : Option Tmp} {x y : Operand} {ty : TypeId} {pos : String} {af : Array Edge}
    (hl : ∀ x, (fc x).length = z) (h1 : ∀ x, ∀ u ∈ fc x, u.oneCell' = true) (hT : IsRow T z) (h : OwnS E z fc w base (.slice (some ⟨g, 0, none⟩) n cap) l) (hi : i < l.length) (v : α) (hx : a.eval x = .pointer (some ⟨g, i * z, none⟩)) (hy : a.eval y = .agg (fc v).toArray) (_hd : d = d)
    (k : ∀ w', OwnS E z fc w' base (.slice (some ⟨g, 0, none⟩) n cap) (l.set i v) → Mod g w w' → K (a.put d undef) w') :
    if Region.wanted { dst := d, op := .store T x y, type := ty, pos := pos, after := af, guard := none } (yielded ops a.tmps) = true then Oper.wp Tryd.prog { dst := d, op := .store T x y, type := ty, pos := pos, after := af, guard := none } a w K Q else X := by
  rw [if_pos (by simp [Region.wanted])]
  have hr := own_rangez hl h i _ (List.getElem?_eq_getElem hi)
  refine wp_store_mid T x y rfl g (i * z) (fc v).toArray hx hy (fun j hj => ⟨hr.isSome j ?_, h.free _⟩) (by rw [hT.size]; simp [hl]) (all_oneCell_toArray (h1 v)) (k _ (own_putz hl h i hi v) (mod_setCells _ _ _ _))
  rw [hl]; simpa [hl] using hj
section
variable {w w' : World} {c base b g n cap : Nat} {va vc : Value} {x : Ct} {l : List Wt}
theorem D.drew (h : D w c base va vc x) : D w.drew c base va vc x := h.below ⟨rfl, rfl, rfl, Nat.le_refl _, fun _ _ => rfl⟩
theorem chg_in {S : Nat → Prop} {a : World} (h : Chg S a w) (M : Mod b w w') (hb : S b) : Chg S a w' :=
  h.trans (T := fun k => k = b) ⟨M.os, M.tape, M.output, Nat.le_of_eq M.size.symm, fun k _ hk => M.rest k hk⟩ fun _ _ e => e ▸ hb
/-- An element of the commands' row is written over. -/
theorem D.set_at (h : D w c base va (.slice (some ⟨g, 0, none⟩) n cap) x) (ho : OwnS WT 23 wl w' base (.slice (some ⟨g, 0, none⟩) n cap) l) (M : Mod g w w') (_hx : x.cs = x.cs) : D w' c base va (.slice (some ⟨g, 0, none⟩) n cap) { x with cs := l } := by
  obtain ⟨cs, hc⟩ := own_blk h.cs (b := g) rfl
  exact ⟨(M.rest c (ne_type h.hd hc (by decide))).trans h.hd, h.an.eqv fun k hk => M.rest k fun e => (h.ne k hk).2 (by rw [e]; rfl), ho, h.ne, h.lo⟩
end
end Go.Proofs.YtakkhdammmcjcaaDoor.Ctl
/-
  What the document's own response and Tick answer, and leave. Condition: it lies where it says.
-/
namespace Go.Proofs.YtakkhdammmcjcaaDoor.Ctl
open Go.RowKit Go.Proofs.YtakkhdammmcjcaaDoor.Base Go.Proofs.YtakkhdammmcjcaaDoor.Mem Go.Proofs.YtakkhdammmcjcaaDoor.Msgs Go.Proofs.YtakkhdammmcjcaaDoor.Cr
set_option maxRecDepth 100000
/-- Does a response mean this command? -/
def hits (r : Ms) (w : Wt) : Bool := w.sd && (answers r w.m || ((r.k == 7) && (r.t == oct w.m)))
def what (r : Ms) (w : Wt) : Fa := if answers r w.m then ⟨2, r⟩ else ⟨3, w.m⟩
theorem resp_at (r : Ms) {y : Wt} (hy : hits r y = true) : ∀ (l : List Wt) (k : Nat), l[k]? = some y → (∀ j z, j < k → l[j]? = some z → hits r z = false) → resp r l = (l.take k ++ l.drop (k + 1), [what r y])
  | [], k, h, _ => by simp at h
  | v :: l, 0, h, _ => by
    obtain rfl : v = y := by simpa using h
    unfold resp what
    unfold hits at hy
    cases hs : v.sd with
    | false => rw [hs] at hy; cases hy
    | true =>
      cases ha : answers r v.m with
      | true => simp
      | false =>
        rw [hs, ha, Bool.true_and, Bool.false_or] at hy
        simp [hy]
  | v :: l, k + 1, h, hn => by
    have hv : hits r v = false := hn 0 v (Nat.succ_pos k) rfl
    have ih := resp_at r hy l k (by simpa using h) fun j z hj hz => hn (j + 1) z (by omega) (by simpa using hz)
    unfold hits at hv
    unfold resp
    have h1 : (v.sd && answers r v.m) = false := by cases hs : v.sd <;> cases ha : answers r v.m <;> simp_all
    have h2 : (v.sd && ((r.k == 7) && (r.t == oct v.m))) = false := by cases hs : v.sd <;> cases ha : answers r v.m <;> simp_all
    rw [if_neg (by rw [h1]; exact Bool.false_ne_true), if_neg (by rw [h2]; exact Bool.false_ne_true), ih]
    rfl
theorem resp_none (r : Ms) : ∀ l : List Wt, (∀ z ∈ l, hits r z = false) → resp r l = (l, [])
  | [], _ => rfl
  | v :: l, h => by
    have hv := h v List.mem_cons_self
    have ih := resp_none r l fun z hz => h z (List.mem_cons_of_mem _ hz)
    unfold hits at hv
    unfold resp
    have h1 : (v.sd && answers r v.m) = false := by cases hs : v.sd <;> cases ha : answers r v.m <;> simp_all
    have h2 : (v.sd && ((r.k == 7) && (r.t == oct v.m))) = false := by cases hs : v.sd <;> cases ha : answers r v.m <;> simp_all
    rw [if_neg (by rw [h1]; exact Bool.false_ne_true), if_neg (by rw [h2]; exact Bool.false_ne_true), ih]
section
variable {w w' : World} {c base b g n cap : Nat} {va vc v : Value} {x : Ct} {l : List Wt} {r : Ms}
theorem own_weak {α : Type} {E z b1 b2 : Nat} {fc : α → List Value} {l : List α} (h : OwnS E z fc w b2 v l) (hb : b1 ≤ b2) : OwnS E z fc w b1 v l := by
  obtain ⟨h1, h2⟩ := h
  refine ⟨h1, ?_⟩
  rcases h2 with h2 | ⟨g, cap, cur, h2, h3, h4⟩
  · exact .inl h2
  · exact .inr ⟨g, cap, cur, h2, by omega, h4⟩
theorem sd_cell {b : Nat} {y : Wt} {t : TypeId} {q : Bool} (h : w.heap[b]? = some (.cells (wc y) t (0, 0))) (hs : y.sd = q) : w.cell? ⟨b, 22, none⟩ = some (.bool q) := by
  rw [← hs]; exact cell_of h rfl
/-- Within response: nothing has turned yet but new memory; the message in its box. -/
structure Ri (w : World) (c base b : Nat) (va vc : Value) (x : Ct) (r : Ms) (wr : World) : Prop where
  d : D wr c base va vc x
  b : wr.heap[b]? = some (mO r RT)
  below : Below w.heap.size w wr
theorem Ri.on (h : Ri w c base b va vc x r w') {u : World} (hb : Below w'.heap.size w' u) : Ri w c base b va vc x r u := ⟨h.d.below hb, stays h.b hb, below_on h.below hb⟩
/-- One command is gone. -/
structure Rg (w : World) (c base b : Nat) (va vc v : Value) (x : Ct) (r : Ms) (l : List Wt) (wr : World) : Prop where
  d : D wr c base va v { x with cs := l }
  b : wr.heap[b]? = some (mO r RT)
  sub : ∀ k, DS c va v k → DS c va vc k ∨ w.heap.size ≤ k
  chg : Chg (DS c va vc) w wr
theorem Rg.on {u : World} (h : Rg w c base b va vc v x r l w') (hb : Below w'.heap.size w' u) : Rg w c base b va vc v x r l u := ⟨h.d.below hb, stays h.b hb, h.sub, h.chg.on hb⟩
theorem Ri.gone {u u2 : World} {ov : Option Addr} {nv cv : Nat} (h : Ri w c base b va vc x r u) (ho : OwnS WT 23 wl u2 u.heap.size (.slice ov nv cv) l) (hb : Below u.heap.size u u2) : Rg w c base b va vc (.slice ov nv cv) x r l (u2.setCell ⟨c, 11, none⟩ (.slice ov nv cv)) := by
  have h2 := h.on hb
  have hu : base ≤ u.heap.size := Nat.le_trans h.d.lo (Nat.le_of_lt h.d.hd.lt)
  refine ⟨h2.d.set_cs (own_weak ho hu) fun k hk e => ?_, (set_other (fun e => ne_type h2.b h2.d.hd (by decide) e) _).trans h2.b, fun k hk => ?_, (Chg.of_below h2.below).setCell c 11 _ fun _ => .inl rfl⟩
  · have h3 := (h.d.own_lt k (.inr (.inl hk))).2
    have h4 := (ho.lt k e).1
    omega
  · rcases hk with hk | hk | hk
    · exact .inl (.inl hk)
    · exact .inl (.inr (.inl hk))
    · have h4 := (ho.lt k hk).1
      have := h.below.size
      exact .inr (by omega)
end
end Go.Proofs.YtakkhdammmcjcaaDoor.Ctl
