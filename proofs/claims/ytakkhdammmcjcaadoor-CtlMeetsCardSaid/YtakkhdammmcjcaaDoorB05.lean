/-
  Layer 22, put together: MscMem, MsgsMem (what each says stands ahead of it). Conditions: as each names them.
-/
import Derived.Test.YtakkhdammmcjcaaDoorB02
import Derived.Test.YtakkhdammmcjcaaDoorB03
import Derived.Test.YtakkhdammmcjcaaDoorB04
import Derived.Laws.StructEq
import Derived.Lib.MinMax
import Derived.Deep.RegionHeld3
import Derived.Deep.MidRow
import Derived.Deep.DeepCutAuto
/-
  Layer 9's status as a value and in memory: two of them compared, a block of them, three octets made into a string. No condition.
-/
namespace Go.Proofs.YtakkhdammmcjcaaDoor.Msc
open Go.RowKit Go.Proofs.YtakkhdammmcjcaaDoor.Base Go.Proofs.YtakkhdammmcjcaaDoor.Mem
/-- A status as a value. -/
abbrev sv (s : St) : Value := .agg #[.int .u8 (s.d : Int), .bool s.f, .bool s.c, .bool s.r, .bool s.i, .bool s.v, .bool s.b, .int .u8 (s.k : Int)]
/-- A status in a block. -/
abbrev sO (s : St) (t : TypeId) : Obj := .cells #[.int .u8 (s.d : Int), .bool s.f, .bool s.c, .bool s.r, .bool s.i, .bool s.v, .bool s.b, .int .u8 (s.k : Int)] t (0, 0)
/-- A block of no status yet. -/
abbrev noO (t : TypeId) : Obj := .cells #[.int .u8 0, .bool false, .bool false, .bool false, .bool false, .bool false, .bool false, .int .u8 0] t (0, 0)
abbrev noV : Value := .agg #[.int .u8 0, .bool false, .bool false, .bool false, .bool false, .bool false, .bool false, .int .u8 0]
structure Cells (w : World) (b : Nat) (s : St) : Prop where
  c0 : w.cell? ⟨b, 0, none⟩ = some (.int .u8 (s.d : Int))
  c1 : w.cell? ⟨b, 1, none⟩ = some (.bool s.f)
  c2 : w.cell? ⟨b, 2, none⟩ = some (.bool s.c)
  c3 : w.cell? ⟨b, 3, none⟩ = some (.bool s.r)
  c4 : w.cell? ⟨b, 4, none⟩ = some (.bool s.i)
  c5 : w.cell? ⟨b, 5, none⟩ = some (.bool s.v)
  c6 : w.cell? ⟨b, 6, none⟩ = some (.bool s.b)
  c7 : w.cell? ⟨b, 7, none⟩ = some (.int .u8 (s.k : Int))
theorem cells_of {w : World} {b : Nat} {p : St} {t : TypeId} (h : w.heap[b]? = some (sO p t)) : Cells w b p :=
  ⟨cell_of h rfl, cell_of h rfl, cell_of h rfl, cell_of h rfl, cell_of h rfl, cell_of h rfl, cell_of h rfl, cell_of h rfl⟩
theorem Cells.below {w w' : World} {b : Nat} {p : St} (h : Cells w b p) (hb : Below w.heap.size w w') : Cells w' b p :=
  ⟨cell_below h.c0 hb, cell_below h.c1 hb, cell_below h.c2 hb, cell_below h.c3 hb, cell_below h.c4 hb, cell_below h.c5 hb, cell_below h.c6 hb, cell_below h.c7 hb⟩
theorem run_eqFields (p q : St) (w : World) : (Op.equalIn 10000 33 (sv p) (sv q)).run Tryd.prog w = .ok (eqS p q) w := by
  have u2 := Tryd.underlying4
  have u5 := Tryd.underlying5
  have a2 := Tryd.isAgg4
  have a5 := Tryd.isAgg5
  have z2 := Tryd.sizeOf4
  have z5 := Tryd.sizeOf5
  have hS : Tryd.prog.underlying 33 = some (.struct (Tryd.prog.fieldsOf 33)) := by kernel_rfl
  have hp : Tryd.prog.stoodInHeld 33 = false := by kernel_rfl
  rw [show (10000 : Nat) = 9999 + 1 from rfl, run_equalIn_agg w 9999 33 _ _ hS hp]
  simp only [Program.fieldsOf, Tryd.underlying33]
  go_simp
  obtain ⟨p0, p1, p2, p3, p4, p5, p6, p7⟩ := p
  obtain ⟨q0, q1, q2, q3, q4, q5, q6, q7⟩ := q
  rw [eqS_of]
  dsimp only
  by_cases h0 : p0 = q0
  · subst h0
    by_cases h7 : p7 = q7
    · subst h7
      revert p1 q1 p2 q2 p3 q3 p4 q4 p5 q5 p6 q6
      simp
    · simp_all <;> (intros; omega)
  · simp_all <;> (intros; omega)
theorem run_rqFields (p q : St) (w : World) : (Op.equalIn 10000 83 (sv p) (sv q)).run Tryd.prog w = .ok (eqS p q) w := by
  have u2 := Tryd.underlying4
  have u5 := Tryd.underlying5
  have a2 := Tryd.isAgg4
  have a5 := Tryd.isAgg5
  have z2 := Tryd.sizeOf4
  have z5 := Tryd.sizeOf5
  have hS : Tryd.prog.underlying 83 = some (.struct (Tryd.prog.fieldsOf 83)) := by kernel_rfl
  have hp : Tryd.prog.stoodInHeld 83 = false := by kernel_rfl
  rw [show (10000 : Nat) = 9999 + 1 from rfl, run_equalIn_agg w 9999 83 _ _ hS hp]
  simp only [Program.fieldsOf, Tryd.underlying83]
  go_simp
  obtain ⟨p0, p1, p2, p3, p4, p5, p6, p7⟩ := p
  obtain ⟨q0, q1, q2, q3, q4, q5, q6, q7⟩ := q
  rw [eqS_of]
  dsimp only
  by_cases h0 : p0 = q0
  · subst h0
    by_cases h7 : p7 = q7
    · subst h7
      revert p1 q1 p2 q2 p3 q3 p4 q4 p5 q5 p6 q6
      simp
    · simp_all <;> (intros; omega)
  · simp_all <;> (intros; omega)
theorem frees_of {w : World} {b : Nat} {p : St} {t : TypeId} (h : w.heap[b]? = some (sO p t)) : ∀ i, w.frozen? ⟨b, i, none⟩ = false := fun _ => free_of h
theorem run_eqS (p q : St) (w : World) : (binOp .eql 33 (sv p) (sv q)).run Tryd.prog w = .ok (.bool (eqS p q)) w := by
  rw [run_eql_struct, run_eqFields]; rfl
theorem run_neS (p q : St) (w : World) : (binOp .neq 33 (sv p) (sv q)).run Tryd.prog w = .ok (.bool (!eqS p q)) w := by
  rw [run_neq_struct, run_eqFields]; rfl
theorem run_rqS (p q : St) (w : World) : (binOp .eql 83 (sv p) (sv q)).run Tryd.prog w = .ok (.bool (eqS p q)) w := by
  rw [run_eql_struct, run_rqFields]; rfl
theorem conv_at3 (W : World) (b : Nat) (x0 x1 x2 : Int) (h0 : W.cell? ⟨b, 0, none⟩ = some (.int .u8 x0)) (h1 : W.cell? ⟨b, 1, none⟩ = some (.int .u8 x1)) (h2 : W.cell? ⟨b, 2, none⟩ = some (.int .u8 x2)) :
    (convert 99 9 (.slice (some ⟨b, 0, none⟩) 3 3)).run Tryd.prog W = .ok (.string ⟨#[UInt8.ofNat x0.toNat, UInt8.ofNat x1.toNat, UInt8.ofNat x2.toNat]⟩) W := by
  have h' := run_convert_bytes_arg (P := Tryd.prog) W 99 5 Tryd.underlying99 Tryd.underlying5 b 0 3 3 [x0, x1, x2] rfl (fun i hi => by
    rw [Nat.zero_add]
    match i, hi with
    | 0, _ => exact h0
    | 1, _ => exact h1
    | 2, _ => exact h2) 9 Tryd.underlying9
  rw [h']
  rfl
theorem set8 {B : Nat} {a w : World} (h : Below B a w) {b : Nat} (hb : B ≤ b) (v0 v1 v2 v3 v4 v5 v6 v7 : Value) : Below B a ((((((((w.setCell ⟨b, 0, none⟩ v0).setCell ⟨b, 1, none⟩ v1).setCell ⟨b, 2, none⟩ v2).setCell ⟨b, 3, none⟩ v3).setCell ⟨b, 4, none⟩ v4).setCell ⟨b, 5, none⟩ v5).setCell ⟨b, 6, none⟩ v6).setCell ⟨b, 7, none⟩ v7) :=
  (((((((h.setCell hb _).setCell hb _).setCell hb _).setCell hb _).setCell hb _).setCell hb _).setCell hb _).setCell hb _
theorem set8_at {w : World} {b : Nat} {u0 u1 u2 u3 u4 u5 u6 u7 : Value} {t : TypeId} (h : w.heap[b]? = some (.cells #[u0, u1, u2, u3, u4, u5, u6, u7] t)) (v0 v1 v2 v3 v4 v5 v6 v7 : Value) : ((((((((w.setCell ⟨b, 0, none⟩ v0).setCell ⟨b, 1, none⟩ v1).setCell ⟨b, 2, none⟩ v2).setCell ⟨b, 3, none⟩ v3).setCell ⟨b, 4, none⟩ v4).setCell ⟨b, 5, none⟩ v5).setCell ⟨b, 6, none⟩ v6).setCell ⟨b, 7, none⟩ v7).heap[b]? = some (.cells #[v0, v1, v2, v3, v4, v5, v6, v7] t) := by
  have h0 : (w.setCell ⟨b, 0, none⟩ v0).heap[b]? = some (.cells #[v0, u1, u2, u3, u4, u5, u6, u7] t) := block_set (i := 0) h v0
  have h1 : ((w.setCell ⟨b, 0, none⟩ v0).setCell ⟨b, 1, none⟩ v1).heap[b]? = some (.cells #[v0, v1, u2, u3, u4, u5, u6, u7] t) := block_set (i := 1) h0 v1
  have h2 : (((w.setCell ⟨b, 0, none⟩ v0).setCell ⟨b, 1, none⟩ v1).setCell ⟨b, 2, none⟩ v2).heap[b]? = some (.cells #[v0, v1, v2, u3, u4, u5, u6, u7] t) := block_set (i := 2) h1 v2
  have h3 : ((((w.setCell ⟨b, 0, none⟩ v0).setCell ⟨b, 1, none⟩ v1).setCell ⟨b, 2, none⟩ v2).setCell ⟨b, 3, none⟩ v3).heap[b]? = some (.cells #[v0, v1, v2, v3, u4, u5, u6, u7] t) := block_set (i := 3) h2 v3
  have h4 : (((((w.setCell ⟨b, 0, none⟩ v0).setCell ⟨b, 1, none⟩ v1).setCell ⟨b, 2, none⟩ v2).setCell ⟨b, 3, none⟩ v3).setCell ⟨b, 4, none⟩ v4).heap[b]? = some (.cells #[v0, v1, v2, v3, v4, u5, u6, u7] t) := block_set (i := 4) h3 v4
  have h5 : ((((((w.setCell ⟨b, 0, none⟩ v0).setCell ⟨b, 1, none⟩ v1).setCell ⟨b, 2, none⟩ v2).setCell ⟨b, 3, none⟩ v3).setCell ⟨b, 4, none⟩ v4).setCell ⟨b, 5, none⟩ v5).heap[b]? = some (.cells #[v0, v1, v2, v3, v4, v5, u6, u7] t) := block_set (i := 5) h4 v5
  have h6 : (((((((w.setCell ⟨b, 0, none⟩ v0).setCell ⟨b, 1, none⟩ v1).setCell ⟨b, 2, none⟩ v2).setCell ⟨b, 3, none⟩ v3).setCell ⟨b, 4, none⟩ v4).setCell ⟨b, 5, none⟩ v5).setCell ⟨b, 6, none⟩ v6).heap[b]? = some (.cells #[v0, v1, v2, v3, v4, v5, v6, u7] t) := block_set (i := 6) h5 v6
  exact block_set (i := 7) h6 v7
theorem frees8 {w : World} {b : Nat} {p : St} {t : TypeId} (h : w.heap[b]? = some (sO p t)) : w.frozen? ⟨b, 0, none⟩ = false ∧ w.frozen? ⟨b, 1, none⟩ = false ∧ w.frozen? ⟨b, 2, none⟩ = false ∧ w.frozen? ⟨b, 3, none⟩ = false ∧ w.frozen? ⟨b, 4, none⟩ = false ∧ w.frozen? ⟨b, 5, none⟩ = false ∧ w.frozen? ⟨b, 6, none⟩ = false ∧ w.frozen? ⟨b, 7, none⟩ = false :=
  ⟨free_of h, free_of h, free_of h, free_of h, free_of h, free_of h, free_of h, free_of h⟩
theorem no_frees {w : World} {b : Nat} {t : TypeId} (h : w.heap[b]? = some (noO t)) : w.frozen? ⟨b, 0, none⟩ = false ∧ w.frozen? ⟨b, 1, none⟩ = false ∧ w.frozen? ⟨b, 2, none⟩ = false ∧ w.frozen? ⟨b, 3, none⟩ = false ∧ w.frozen? ⟨b, 4, none⟩ = false ∧ w.frozen? ⟨b, 5, none⟩ = false ∧ w.frozen? ⟨b, 6, none⟩ = false ∧ w.frozen? ⟨b, 7, none⟩ = false :=
  ⟨free_of h, free_of h, free_of h, free_of h, free_of h, free_of h, free_of h, free_of h⟩
theorem no_cells {w : World} {b : Nat} {t : TypeId} (h : w.heap[b]? = some (noO t)) : w.cell? ⟨b, 0, none⟩ = some (.int .u8 0) ∧ w.cell? ⟨b, 1, none⟩ = some (.bool false) ∧ w.cell? ⟨b, 2, none⟩ = some (.bool false) ∧ w.cell? ⟨b, 3, none⟩ = some (.bool false) ∧ w.cell? ⟨b, 4, none⟩ = some (.bool false) ∧ w.cell? ⟨b, 5, none⟩ = some (.bool false) ∧ w.cell? ⟨b, 6, none⟩ = some (.bool false) ∧ w.cell? ⟨b, 7, none⟩ = some (.int .u8 0) :=
  ⟨cell_of h rfl, cell_of h rfl, cell_of h rfl, cell_of h rfl, cell_of h rfl, cell_of h rfl, cell_of h rfl, cell_of h rfl⟩
theorem block_other {w : World} {b c o : Nat} (h : c ≠ b) (v : Value) : (w.setCell ⟨b, o, none⟩ v).heap[c]? = w.heap[c]? := by
  show (w.heap.modify b _)[c]? = _
  rw [Array.getElem?_modify, if_neg (fun e => h e.symm)]
theorem set8_other {w : World} {b c : Nat} (h : c ≠ b) (v0 v1 v2 v3 v4 v5 v6 v7 : Value) : ((((((((w.setCell ⟨b, 0, none⟩ v0).setCell ⟨b, 1, none⟩ v1).setCell ⟨b, 2, none⟩ v2).setCell ⟨b, 3, none⟩ v3).setCell ⟨b, 4, none⟩ v4).setCell ⟨b, 5, none⟩ v5).setCell ⟨b, 6, none⟩ v6).setCell ⟨b, 7, none⟩ v7).heap[c]? = w.heap[c]? := by
  rw [block_other h, block_other h, block_other h, block_other h, block_other h, block_other h, block_other h, block_other h]
end Go.Proofs.YtakkhdammmcjcaaDoor.Msc
/-
  A message as a value and in memory: a block of twenty cells, loaded and stored whole, and its parts; two messages compared; stores that turn one block. No condition.
-/
namespace Go.Proofs.YtakkhdammmcjcaaDoor.Msgs
open Go.RowKit Go.Proofs.YtakkhdammmcjcaaDoor.Base Go.Proofs.YtakkhdammmcjcaaDoor.Mem
set_option maxRecDepth 20000
/-- A message's cells. -/
def mc (m : Ms) : Array Value := #[.int .u8 (m.k : Int), .bool m.c, .int .u8 m.p.d, .int .u8 m.p.f, .int .u8 m.p.c, .int .u8 m.p.r, .int .i64 m.p.t, .int .i64 m.p.n, .int .i64 m.p.z, .int .i64 m.p.k, .int .u8 (m.s.d : Int), .bool m.s.f, .bool m.s.c, .bool m.s.r, .bool m.s.i, .bool m.s.v, .bool m.s.b, .int .u8 (m.s.k : Int), .int .u8 (m.t : Int), .string m.b]
abbrev mv (m : Ms) : Value := .agg (mc m)
abbrev mO (m : Ms) (t : TypeId) : Obj := .cells (mc m) t (0, 0)
theorem mc_size (m : Ms) : (mc m).size = 20 := rfl
/-- The cells that are no part's. -/
structure Flds (w : World) (b : Nat) (m : Ms) : Prop where
  k : w.cell? ⟨b, 0, none⟩ = some (.int .u8 (m.k : Int))
  c : w.cell? ⟨b, 1, none⟩ = some (.bool m.c)
  t : w.cell? ⟨b, 18, none⟩ = some (.int .u8 (m.t : Int))
  b : w.cell? ⟨b, 19, none⟩ = some (.string m.b)
theorem flds {w : World} {b : Nat} {m : Ms} {t : TypeId} (h : w.heap[b]? = some (mO m t)) : Flds w b m := ⟨cell_of h rfl, cell_of h rfl, cell_of h rfl, cell_of h rfl⟩
theorem frees {w : World} {b : Nat} {m : Ms} {t : TypeId} (h : w.heap[b]? = some (mO m t)) : w.frozen? ⟨b, 0, none⟩ = false ∧ w.frozen? ⟨b, 1, none⟩ = false ∧ w.frozen? ⟨b, 18, none⟩ = false ∧ w.frozen? ⟨b, 19, none⟩ = false := ⟨free_of h, free_of h, free_of h, free_of h⟩
/-- One block was written, all else is as it was. -/
structure Mod (b : Nat) (w w' : World) : Prop where
  os : w'.os = w.os
  tape : w'.tape = w.tape
  output : w'.output = w.output
  size : w'.heap.size = w.heap.size
  rest : ∀ k, k ≠ b → w'.heap[k]? = w.heap[k]?
theorem Mod.refl (b : Nat) (w : World) : Mod b w w := ⟨rfl, rfl, rfl, rfl, fun _ _ => rfl⟩
theorem Mod.trans {b : Nat} {u v w : World} (h : Mod b u v) (h' : Mod b v w) : Mod b u w := ⟨h'.os.trans h.os, h'.tape.trans h.tape, h'.output.trans h.output, h'.size.trans h.size, fun k hk => (h'.rest k hk).trans (h.rest k hk)⟩
theorem Mod.below {B b : Nat} {a w w' : World} (h : Mod b w w') (hb : Below B a w) (hle : B ≤ b) : Below B a w' :=
  ⟨h.os.trans hb.os, h.tape.trans hb.tape, h.output.trans hb.output, by rw [h.size]; exact hb.size, fun k hk => (h.rest k (by omega)).trans (hb.block k hk)⟩
theorem Mod.other {b k : Nat} {w w' : World} {o : Obj} (h : Mod b w w') (hne : k ≠ b) (hk : w.heap[k]? = some o) : w'.heap[k]? = some o := (h.rest k hne).trans hk
theorem mod_setCell (b i : Nat) (w : World) (v : Value) : Mod b w (w.setCell ⟨b, i, none⟩ v) :=
  ⟨rfl, rfl, rfl, by show (w.heap.modify b _).size = _; simp, fun k hk => Msc.block_other hk v⟩
theorem setCells_block (b : Nat) : ∀ (vs : List Value) (o : Nat) (w : World) (cs : Array Value) (t : TypeId), w.heap[b]? = some (.cells cs t (0, 0)) →
    ∃ cs', (w.setCells b o vs).heap[b]? = some (.cells cs' t (0, 0)) ∧ cs'.size = cs.size ∧ (∀ j, cs'[j]? = if o ≤ j ∧ j < o + vs.length then (if j < cs.size then vs[j - o]? else none) else cs[j]?) ∧ Mod b w (w.setCells b o vs)
  | [], o, w, cs, t, h => ⟨cs, h, rfl, fun j => by rw [if_neg (by simp)], Mod.refl _ _⟩
  | v :: r, o, w, cs, t, h => by
    have h0 := block_set (i := o) h v
    obtain ⟨cs', h1, h2, h3, h4⟩ := setCells_block b r (o + 1) (w.setCell ⟨b, o, none⟩ v) _ t h0
    refine ⟨cs', h1, by rw [h2]; simp, fun j => ?_, (mod_setCell b o w v).trans h4⟩
    rw [h3 j, Array.getElem?_setIfInBounds]
    simp only [Array.size_setIfInBounds, List.length_cons]
    by_cases h5 : o + 1 ≤ j ∧ j < o + 1 + r.length
    · rw [if_pos h5, if_pos (c := o ≤ j ∧ j < o + (r.length + 1)) ⟨by omega, by omega⟩, show j - o = (j - (o + 1)) + 1 by omega, List.getElem?_cons_succ]
    · rw [if_neg h5]
      by_cases h6 : o = j
      · subst h6
        rw [if_pos rfl, if_pos (c := o ≤ o ∧ o < o + (r.length + 1)) ⟨by omega, by omega⟩, Nat.sub_self, List.getElem?_cons_zero]
      · rw [if_neg h6, if_neg (c := o ≤ j ∧ j < o + (r.length + 1)) (by omega)]
/-- A type of so many cells, a struct. -/
structure IsRow (T n : Nat) : Prop where
  under : ∃ fs, Tryd.prog.underlying T = some (.struct fs)
  size : (Tryd.prog.info? T).map (·.size) = some n
theorem isM : IsRow 35 20 := ⟨⟨_, Tryd.underlying35⟩, by kernel_rfl⟩
theorem isR : IsRow 85 20 := ⟨⟨_, Tryd.underlying85⟩, by kernel_rfl⟩
theorem isP : IsRow 23 8 := ⟨⟨_, Tryd.underlying23⟩, by kernel_rfl⟩
theorem isPr : IsRow 52 8 := ⟨⟨_, Tryd.underlying52⟩, by kernel_rfl⟩
theorem isS : IsRow 33 8 := ⟨⟨_, Tryd.underlying33⟩, by kernel_rfl⟩
theorem isSr : IsRow 83 8 := ⟨⟨_, Tryd.underlying83⟩, by kernel_rfl⟩
theorem run_ld {T : Nat} (hT : IsRow T 20) {w : World} {b : Nat} {m : Ms} {t : TypeId} (h : w.heap[b]? = some (mO m t)) : (loadVar T ⟨b, 0, none⟩).run Tryd.prog w = .ok (mv m) w := by
  obtain ⟨fs, hu⟩ := hT.under
  exact run_loadVar_row w b t T (mc m) (0, 0) _ h hu rfl hT.size
section
variable {ops : Array Oper} {rest : List Oper} {a : Act} {Q : Exit → Act → World → Prop} {d : Option Tmp} {x y : Operand} {ty : TypeId} {pos : String} {af : Array Edge} {w : World} {b : Nat} {m : Ms} {t : TypeId} {T : Nat}
/-- A whole message is loaded. -/
theorem ldm (hT : IsRow T 20) (h : w.heap[b]? = some (mO m t)) (hx : a.eval x = ptr b) (k : wpList Tryd.prog ops Q rest (a.put d (mv m)) w) :
    wpList Tryd.prog ops Q ({ dst := d, op := .load T x, type := ty, pos := pos, after := af, guard := none } :: rest) a w := by
  obtain ⟨fs, hu⟩ := hT.under
  exact wpList_load_row rfl T x rfl b hx t (mc m) (0, 0) _ h hu rfl hT.size k
/-- Its parameters are. -/
theorem range_p (h : w.heap[b]? = some (mO m t)) : w.rangeAt b 2 [.int .u8 m.p.d, .int .u8 m.p.f, .int .u8 m.p.c, .int .u8 m.p.r, .int .i64 m.p.t, .int .i64 m.p.n, .int .i64 m.p.z, .int .i64 m.p.k] := fun j v hv => by
  match j, hv with
  | 0, hv => exact (cell_of h rfl).trans hv
  | 1, hv => exact (cell_of h rfl).trans hv
  | 2, hv => exact (cell_of h rfl).trans hv
  | 3, hv => exact (cell_of h rfl).trans hv
  | 4, hv => exact (cell_of h rfl).trans hv
  | 5, hv => exact (cell_of h rfl).trans hv
  | 6, hv => exact (cell_of h rfl).trans hv
  | 7, hv => exact (cell_of h rfl).trans hv
theorem range_s (h : w.heap[b]? = some (mO m t)) : w.rangeAt b 10 [.int .u8 (m.s.d : Int), .bool m.s.f, .bool m.s.c, .bool m.s.r, .bool m.s.i, .bool m.s.v, .bool m.s.b, .int .u8 (m.s.k : Int)] := fun j v hv => by
  match j, hv with
  | 0, hv => exact (cell_of h rfl).trans hv
  | 1, hv => exact (cell_of h rfl).trans hv
  | 2, hv => exact (cell_of h rfl).trans hv
  | 3, hv => exact (cell_of h rfl).trans hv
  | 4, hv => exact (cell_of h rfl).trans hv
  | 5, hv => exact (cell_of h rfl).trans hv
  | 6, hv => exact (cell_of h rfl).trans hv
  | 7, hv => exact (cell_of h rfl).trans hv
theorem ldp (hT : IsRow T 8) (h : w.heap[b]? = some (mO m t)) (hx : a.eval x = .pointer (some ⟨b, 2, none⟩)) (k : wpList Tryd.prog ops Q rest (a.put d (Pn.pv m.p)) w) :
    wpList Tryd.prog ops Q ({ dst := d, op := .load T x, type := ty, pos := pos, after := af, guard := none } :: rest) a w := by
  obtain ⟨fs, hu⟩ := hT.under
  exact wpList_load_mid rfl T x rfl b 2 hx _ _ (range_p h) hu rfl hT.size k
theorem lds (hT : IsRow T 8) (h : w.heap[b]? = some (mO m t)) (hx : a.eval x = .pointer (some ⟨b, 10, none⟩)) (k : wpList Tryd.prog ops Q rest (a.put d (Msc.sv m.s)) w) :
    wpList Tryd.prog ops Q ({ dst := d, op := .load T x, type := ty, pos := pos, after := af, guard := none } :: rest) a w := by
  obtain ⟨fs, hu⟩ := hT.under
  exact wpList_load_mid rfl T x rfl b 10 hx _ _ (range_s h) hu rfl hT.size k
theorem there_of {n o : Nat} {cs : Array Value} (h : w.heap[b]? = some (.cells cs t (0, 0))) (hn : o + n ≤ cs.size) : w.there b o n := fun j hj => by
  have h1 : o + j < cs.size := by omega
  exact ⟨by rw [cell_of h (Array.getElem?_eq_getElem h1)]; rfl, free_of h⟩
theorem over_all (m m0 : Ms) (cs' : Array Value) (h : ∀ j, cs'[j]? = if 0 ≤ j ∧ j < 0 + (mc m).toList.length then (if j < (mc m0).size then (mc m).toList[j - 0]? else none) else (mc m0)[j]?) : cs' = mc m := by
  apply Array.ext_getElem?
  intro j
  rw [h j]
  by_cases hj : j < 20
  · rw [if_pos (by rw [Array.length_toList, mc_size]; omega), if_pos (by rw [mc_size]; exact hj), Nat.sub_zero, Array.getElem?_toList]
  · rw [if_neg (by rw [Array.length_toList, mc_size]; omega), Array.getElem?_eq_none (by rw [mc_size]; omega), Array.getElem?_eq_none (by rw [mc_size]; omega)]
theorem one_all (m : Ms) : (mc m).all (·.oneCell') = true := by unfold mc; simp [Value.oneCell']
/-- A whole message is stored over another one. -/
theorem stm (hT : IsRow T 20) {m0 : Ms} (h : w.heap[b]? = some (mO m0 t)) (hx : a.eval x = ptr b) (hy : a.eval y = mv m) (k : ∀ w', w'.heap[b]? = some (mO m t) → Mod b w w' → wpList Tryd.prog ops Q rest (a.put d undef) w') :
    wpList Tryd.prog ops Q ({ dst := d, op := .store T x y, type := ty, pos := pos, after := af, guard := none } :: rest) a w := by
  obtain ⟨cs', h1, _, h3, h4⟩ := setCells_block b (mc m).toList 0 w _ t h
  obtain rfl := over_all m m0 cs' h3
  exact wpList_store_mid rfl T x y rfl b 0 (mc m) hx hy (there_of h (by rw [mc_size, mc_size]; decide)) hT.size (one_all m) (k _ h1 h4)
theorem over_p (m : Ms) (p : Pn.Pr) (cs' : Array Value) (h : ∀ j, cs'[j]? = if 2 ≤ j ∧ j < 2 + 8 then (if j < (mc m).size then ([.int .u8 p.d, .int .u8 p.f, .int .u8 p.c, .int .u8 p.r, .int .i64 p.t, .int .i64 p.n, .int .i64 p.z, .int .i64 p.k] : List Value)[j - 2]? else none) else (mc m)[j]?) : cs' = mc ⟨m.k, m.c, p, m.s, m.t, m.b⟩ := by
  apply Array.ext_getElem?
  intro j
  rw [h j]
  match j with
  | 0 | 1 | 2 | 3 | 4 | 5 | 6 | 7 | 8 | 9 | 10 | 11 | 12 | 13 | 14 | 15 | 16 | 17 | 18 | 19 => rfl
  | j + 20 => rw [if_neg (by omega), Array.getElem?_eq_none (by rw [mc_size]; omega), Array.getElem?_eq_none (by rw [mc_size]; omega)]
theorem over_s (m : Ms) (s : Msc.St) (cs' : Array Value) (h : ∀ j, cs'[j]? = if 10 ≤ j ∧ j < 10 + 8 then (if j < (mc m).size then ([.int .u8 (s.d : Int), .bool s.f, .bool s.c, .bool s.r, .bool s.i, .bool s.v, .bool s.b, .int .u8 (s.k : Int)] : List Value)[j - 10]? else none) else (mc m)[j]?) : cs' = mc ⟨m.k, m.c, m.p, s, m.t, m.b⟩ := by
  apply Array.ext_getElem?
  intro j
  rw [h j]
  match j with
  | 0 | 1 | 2 | 3 | 4 | 5 | 6 | 7 | 8 | 9 | 10 | 11 | 12 | 13 | 14 | 15 | 16 | 17 | 18 | 19 => rfl
  | j + 20 => rw [if_neg (by omega), Array.getElem?_eq_none (by rw [mc_size]; omega), Array.getElem?_eq_none (by rw [mc_size]; omega)]
theorem stp (hT : IsRow T 8) {p : Pn.Pr} (h : w.heap[b]? = some (mO m t)) (hx : a.eval x = .pointer (some ⟨b, 2, none⟩)) (hy : a.eval y = Pn.pv p) (k : ∀ w', w'.heap[b]? = some (mO ⟨m.k, m.c, p, m.s, m.t, m.b⟩ t) → Mod b w w' → wpList Tryd.prog ops Q rest (a.put d undef) w') :
    wpList Tryd.prog ops Q ({ dst := d, op := .store T x y, type := ty, pos := pos, after := af, guard := none } :: rest) a w := by
  obtain ⟨cs', h1, _, h3, h4⟩ := setCells_block b [.int .u8 p.d, .int .u8 p.f, .int .u8 p.c, .int .u8 p.r, .int .i64 p.t, .int .i64 p.n, .int .i64 p.z, .int .i64 p.k] 2 w _ t h
  obtain rfl := over_p m p cs' h3
  exact wpList_store_mid rfl T x y rfl b 2 _ hx hy (there_of h (by rw [mc_size]; show 2 + 8 ≤ 20; decide)) hT.size (by simp [Value.oneCell']) (k _ h1 h4)
theorem sts (hT : IsRow T 8) {s : Msc.St} (h : w.heap[b]? = some (mO m t)) (hx : a.eval x = .pointer (some ⟨b, 10, none⟩)) (hy : a.eval y = Msc.sv s) (k : ∀ w', w'.heap[b]? = some (mO ⟨m.k, m.c, m.p, s, m.t, m.b⟩ t) → Mod b w w' → wpList Tryd.prog ops Q rest (a.put d undef) w') :
    wpList Tryd.prog ops Q ({ dst := d, op := .store T x y, type := ty, pos := pos, after := af, guard := none } :: rest) a w := by
  obtain ⟨cs', h1, _, h3, h4⟩ := setCells_block b [.int .u8 (s.d : Int), .bool s.f, .bool s.c, .bool s.r, .bool s.i, .bool s.v, .bool s.b, .int .u8 (s.k : Int)] 10 w _ t h
  obtain rfl := over_s m s cs' h3
  exact wpList_store_mid rfl T x y rfl b 10 _ hx hy (there_of h (by rw [mc_size]; show 10 + 8 ≤ 20; decide)) hT.size (by simp [Value.oneCell']) (k _ h1 h4)
/-- A message is built. -/
theorem bdm {parts : Array (Nat × Operand)} (m : Ms) (hb : Tryd.prog.built T (parts.map fun (i, x) => (i, a.eval x)).toList = some (mc m)) (k : wpList Tryd.prog ops Q rest (a.put d (mv m)) w) :
    wpList Tryd.prog ops Q ({ dst := d, op := .build T parts, type := ty, pos := pos, after := af, guard := none } :: rest) a w := by
  refine wpList_build rfl T parts rfl (by rw [hb]; rfl) ?_
  rw [hb]
  exact k
end
/-- A field is written. -/
theorem set_c {w : World} {b : Nat} {m : Ms} {t : TypeId} (h : w.heap[b]? = some (mO m t)) (c : Bool) : (w.setCell ⟨b, 1, none⟩ (.bool c)).heap[b]? = some (mO (m.cmd c) t) := block_set h _
theorem set_t {w : World} {b : Nat} {m : Ms} {t : TypeId} (h : w.heap[b]? = some (mO m t)) (x : Nat) : (w.setCell ⟨b, 18, none⟩ (.int .u8 (x : Int))).heap[b]? = some (mO ⟨m.k, m.c, m.p, m.s, x, m.b⟩ t) := block_set h _
theorem set_b {w : World} {b : Nat} {m : Ms} {t : TypeId} (h : w.heap[b]? = some (mO m t)) (x : ByteArray) : (w.setCell ⟨b, 19, none⟩ (.string x)).heap[b]? = some (mO ⟨m.k, m.c, m.p, m.s, m.t, x⟩ t) := block_set h _

theorem eq9P (p q : Pn.Pr) (w : World) : (Op.equalIn 9999 23 (Pn.pv p) (Pn.pv q)).run Tryd.prog w = .ok (Pn.eqP p q) w := by
  have u2 := Tryd.underlying3
  have u5 := Tryd.underlying5
  have a2 := Tryd.isAgg3
  have a5 := Tryd.isAgg5
  have z2 := Tryd.sizeOf3
  have z5 := Tryd.sizeOf5
  have hS : Tryd.prog.underlying 23 = some (.struct (Tryd.prog.fieldsOf 23)) := by kernel_rfl
  have hp : Tryd.prog.stoodInHeld 23 = false := by kernel_rfl
  rw [show (9999 : Nat) = 9998 + 1 from rfl, run_equalIn_agg w 9998 23 _ _ hS hp]
  simp only [Program.fieldsOf, Tryd.underlying23]
  go_simp
  unfold Pn.eqP
  cases h1 : (p.d == q.d)
  · simp_all
  cases h2 : (p.f == q.f)
  · simp_all
  cases h3 : (p.c == q.c)
  · simp_all
  cases h4 : (p.r == q.r)
  · simp_all
  cases h5 : (p.t == q.t)
  · simp_all
  cases h6 : (p.n == q.n)
  · simp_all
  cases h7 : (p.z == q.z)
  · simp_all
  cases h8 : (p.k == q.k) <;> simp_all
theorem eq9Pr (p q : Pn.Pr) (w : World) : (Op.equalIn 9999 52 (Pn.pv p) (Pn.pv q)).run Tryd.prog w = .ok (Pn.eqP p q) w := by
  have u2 := Tryd.underlying3
  have u5 := Tryd.underlying5
  have a2 := Tryd.isAgg3
  have a5 := Tryd.isAgg5
  have z2 := Tryd.sizeOf3
  have z5 := Tryd.sizeOf5
  have hS : Tryd.prog.underlying 52 = some (.struct (Tryd.prog.fieldsOf 52)) := by kernel_rfl
  have hp : Tryd.prog.stoodInHeld 52 = false := by kernel_rfl
  rw [show (9999 : Nat) = 9998 + 1 from rfl, run_equalIn_agg w 9998 52 _ _ hS hp]
  simp only [Program.fieldsOf, Tryd.underlying52]
  go_simp
  unfold Pn.eqP
  cases h1 : (p.d == q.d)
  · simp_all
  cases h2 : (p.f == q.f)
  · simp_all
  cases h3 : (p.c == q.c)
  · simp_all
  cases h4 : (p.r == q.r)
  · simp_all
  cases h5 : (p.t == q.t)
  · simp_all
  cases h6 : (p.n == q.n)
  · simp_all
  cases h7 : (p.z == q.z)
  · simp_all
  cases h8 : (p.k == q.k) <;> simp_all
theorem eq9S (p q : Msc.St) (w : World) : (Op.equalIn 9999 33 (Msc.sv p) (Msc.sv q)).run Tryd.prog w = .ok (Msc.eqS p q) w := by
  have u2 := Tryd.underlying4
  have u5 := Tryd.underlying5
  have a2 := Tryd.isAgg4
  have a5 := Tryd.isAgg5
  have z2 := Tryd.sizeOf4
  have z5 := Tryd.sizeOf5
  have hS : Tryd.prog.underlying 33 = some (.struct (Tryd.prog.fieldsOf 33)) := by kernel_rfl
  have hp : Tryd.prog.stoodInHeld 33 = false := by kernel_rfl
  rw [show (9999 : Nat) = 9998 + 1 from rfl, run_equalIn_agg w 9998 33 _ _ hS hp]
  simp only [Program.fieldsOf, Tryd.underlying33]
  go_simp
  obtain ⟨p0, p1, p2, p3, p4, p5, p6, p7⟩ := p
  obtain ⟨q0, q1, q2, q3, q4, q5, q6, q7⟩ := q
  rw [Msc.eqS_of]
  dsimp only
  by_cases h0 : p0 = q0
  · subst h0
    by_cases h7 : p7 = q7
    · subst h7
      revert p1 q1 p2 q2 p3 q3 p4 q4 p5 q5 p6 q6
      simp
    · simp_all <;> (intros; omega)
  · simp_all <;> (intros; omega)
theorem eq9Sr (p q : Msc.St) (w : World) : (Op.equalIn 9999 83 (Msc.sv p) (Msc.sv q)).run Tryd.prog w = .ok (Msc.eqS p q) w := by
  have u2 := Tryd.underlying4
  have u5 := Tryd.underlying5
  have a2 := Tryd.isAgg4
  have a5 := Tryd.isAgg5
  have z2 := Tryd.sizeOf4
  have z5 := Tryd.sizeOf5
  have hS : Tryd.prog.underlying 83 = some (.struct (Tryd.prog.fieldsOf 83)) := by kernel_rfl
  have hp : Tryd.prog.stoodInHeld 83 = false := by kernel_rfl
  rw [show (9999 : Nat) = 9998 + 1 from rfl, run_equalIn_agg w 9998 83 _ _ hS hp]
  simp only [Program.fieldsOf, Tryd.underlying83]
  go_simp
  obtain ⟨p0, p1, p2, p3, p4, p5, p6, p7⟩ := p
  obtain ⟨q0, q1, q2, q3, q4, q5, q6, q7⟩ := q
  rw [Msc.eqS_of]
  dsimp only
  by_cases h0 : p0 = q0
  · subst h0
    by_cases h7 : p7 = q7
    · subst h7
      revert p1 q1 p2 q2 p3 q3 p4 q4 p5 q5 p6 q6
      simp
    · simp_all <;> (intros; omega)
  · simp_all <;> (intros; omega)
theorem eqFM (p q : Ms) (w : World) : (Op.equalIn 10000 35 (mv p) (mv q)).run Tryd.prog w = .ok (eqM p q) w := by
  have u4 := Tryd.underlying4
  have u5 := Tryd.underlying5
  have u9 := Tryd.underlying9
  have a4 := Tryd.isAgg4
  have a5 := Tryd.isAgg5
  have a9 := Tryd.isAgg9
  have aP := Tryd.isAgg23
  have aS := Tryd.isAgg33
  have z4 := Tryd.sizeOf4
  have z5 := Tryd.sizeOf5
  have z9 := Tryd.sizeOf9
  have zP := Tryd.sizeOf23
  have zS := Tryd.sizeOf33
  have eP := eq9P p.p q.p
  have eS := eq9S p.s q.s
  have hS : Tryd.prog.underlying 35 = some (.struct (Tryd.prog.fieldsOf 35)) := by kernel_rfl
  have hp : Tryd.prog.stoodInHeld 35 = false := by kernel_rfl
  rw [show (10000 : Nat) = 9999 + 1 from rfl, run_equalIn_agg w 9999 35 _ _ hS hp]
  simp only [Program.fieldsOf, Tryd.underlying35]
  unfold mc
  generalize hP : Pn.eqP p.p q.p = bP at *
  generalize hQ : Msc.eqS p.s q.s = bS at *
  unfold eqM
  rw [hP, hQ]
  go_simp
  cases h1 : (p.k == q.k)
  · simp_all <;> (intros; omega)
  cases h2 : (p.c == q.c)
  · simp_all
  cases bP
  · simp_all
  cases bS
  · simp_all
  cases h5 : (p.t == q.t)
  · simp_all <;> (intros; omega)
  cases h6 : (p.b.toList == q.b.toList) <;> simp_all <;> (intro _; assumption)
theorem eqFR (p q : Ms) (w : World) : (Op.equalIn 10000 85 (mv p) (mv q)).run Tryd.prog w = .ok (eqM p q) w := by
  have u4 := Tryd.underlying4
  have u5 := Tryd.underlying5
  have u9 := Tryd.underlying9
  have a4 := Tryd.isAgg4
  have a5 := Tryd.isAgg5
  have a9 := Tryd.isAgg9
  have aP := Tryd.isAgg52
  have aS := Tryd.isAgg83
  have z4 := Tryd.sizeOf4
  have z5 := Tryd.sizeOf5
  have z9 := Tryd.sizeOf9
  have zP := Tryd.sizeOf52
  have zS := Tryd.sizeOf83
  have eP := eq9Pr p.p q.p
  have eS := eq9Sr p.s q.s
  have hS : Tryd.prog.underlying 85 = some (.struct (Tryd.prog.fieldsOf 85)) := by kernel_rfl
  have hp : Tryd.prog.stoodInHeld 85 = false := by kernel_rfl
  rw [show (10000 : Nat) = 9999 + 1 from rfl, run_equalIn_agg w 9999 85 _ _ hS hp]
  simp only [Program.fieldsOf, Tryd.underlying85]
  unfold mc
  generalize hP : Pn.eqP p.p q.p = bP at *
  generalize hQ : Msc.eqS p.s q.s = bS at *
  unfold eqM
  rw [hP, hQ]
  go_simp
  cases h1 : (p.k == q.k)
  · simp_all <;> (intros; omega)
  cases h2 : (p.c == q.c)
  · simp_all
  cases bP
  · simp_all
  cases bS
  · simp_all
  cases h5 : (p.t == q.t)
  · simp_all <;> (intros; omega)
  cases h6 : (p.b.toList == q.b.toList) <;> simp_all <;> (intro _; assumption)
theorem run_eqM (p q : Ms) (w : World) : (binOp .eql 35 (mv p) (mv q)).run Tryd.prog w = .ok (.bool (eqM p q)) w := by
  rw [run_eql_struct, eqFM]; rfl
theorem run_neM (p q : Ms) (w : World) : (binOp .neq 35 (mv p) (mv q)).run Tryd.prog w = .ok (.bool (!eqM p q)) w := by
  rw [run_neq_struct, eqFM]; rfl
theorem run_eqR (p q : Ms) (w : World) : (binOp .eql 85 (mv p) (mv q)).run Tryd.prog w = .ok (.bool (eqM p q)) w := by
  rw [run_eql_struct, eqFR]; rfl
theorem run_neR (p q : Ms) (w : World) : (binOp .neq 85 (mv p) (mv q)).run Tryd.prog w = .ok (.bool (!eqM p q)) w := by
  rw [run_neq_struct, eqFR]; rfl
end Go.Proofs.YtakkhdammmcjcaaDoor.Msgs
