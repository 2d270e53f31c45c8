/-
  Layer 9's status as a value and in memory: two of them compared, a block of them, three octets made into a string. No condition.
-/
import Derived.Test.YtffahjlboakakaaDoorMscMath
import Derived.Laws.StructEq
import Derived.Lib.MinMax
import Derived.Deep.RegionHeld3
namespace Go.Proofs.YtffahjlboakakaaDoor.Msc
open Go.RowKit Go.Proofs.YtffahjlboakakaaDoor.Base Go.Proofs.YtffahjlboakakaaDoor.Mem
/-- A status as a value. -/
abbrev sv (s : St) : Value := .agg #[.int .u8 (s.d : Int), .bool s.f, .bool s.c, .bool s.r, .bool s.i, .bool s.v, .bool s.b, .int .u8 (s.k : Int)]
/-- A status in a block. -/
abbrev sO (s : St) (t : TypeId) : Obj := .cells #[.int .u8 (s.d : Int), .bool s.f, .bool s.c, .bool s.r, .bool s.i, .bool s.v, .bool s.b, .int .u8 (s.k : Int)] t (0, 0)
/-- A block of no status yet. -/
abbrev noO (t : TypeId) : Obj := .cells #[.int .u8 0, .bool false, .bool false, .bool false, .bool false, .bool false, .bool false, .int .u8 0] t (0, 0)
abbrev noV : Value := .agg #[.int .u8 0, .bool false, .bool false, .bool false, .bool false, .bool false, .bool false, .int .u8 0]
structure Cells (w : World) (b : Nat) (s : St) : Prop where
  c0 : w.cell? ⟨b, 0, none⟩ = some (.int .u8 (s.d : Int))
  c1 : w.cell? ⟨b, 1, none⟩ = some (.bool s.f)
  c2 : w.cell? ⟨b, 2, none⟩ = some (.bool s.c)
  c3 : w.cell? ⟨b, 3, none⟩ = some (.bool s.r)
  c4 : w.cell? ⟨b, 4, none⟩ = some (.bool s.i)
  c5 : w.cell? ⟨b, 5, none⟩ = some (.bool s.v)
  c6 : w.cell? ⟨b, 6, none⟩ = some (.bool s.b)
  c7 : w.cell? ⟨b, 7, none⟩ = some (.int .u8 (s.k : Int))
theorem cells_of {w : World} {b : Nat} {p : St} {t : TypeId} (h : w.heap[b]? = some (sO p t)) : Cells w b p :=
  ⟨cell_of h rfl, cell_of h rfl, cell_of h rfl, cell_of h rfl, cell_of h rfl, cell_of h rfl, cell_of h rfl, cell_of h rfl⟩
theorem Cells.below {w w' : World} {b : Nat} {p : St} (h : Cells w b p) (hb : Below w.heap.size w w') : Cells w' b p :=
  ⟨cell_below h.c0 hb, cell_below h.c1 hb, cell_below h.c2 hb, cell_below h.c3 hb, cell_below h.c4 hb, cell_below h.c5 hb, cell_below h.c6 hb, cell_below h.c7 hb⟩
theorem run_eqFields (p q : St) (w : World) : (Op.equalIn 10000 25 (sv p) (sv q)).run Tryd.prog w = .ok (eqS p q) w := by
  have u2 := Tryd.underlying4
  have u5 := Tryd.underlying5
  have a2 := Tryd.isAgg4
  have a5 := Tryd.isAgg5
  have z2 := Tryd.sizeOf4
  have z5 := Tryd.sizeOf5
  have hS : Tryd.prog.underlying 25 = some (.struct (Tryd.prog.fieldsOf 25)) := by kernel_rfl
  have hp : Tryd.prog.stoodInHeld 25 = false := by kernel_rfl
  rw [show (10000 : Nat) = 9999 + 1 from rfl, run_equalIn_agg w 9999 25 _ _ hS hp]
  simp only [Program.fieldsOf, Tryd.underlying25]
  go_simp
  obtain ⟨p0, p1, p2, p3, p4, p5, p6, p7⟩ := p
  obtain ⟨q0, q1, q2, q3, q4, q5, q6, q7⟩ := q
  rw [eqS_of]
  dsimp only
  by_cases h0 : p0 = q0
  · subst h0
    by_cases h7 : p7 = q7
    · subst h7
      revert p1 q1 p2 q2 p3 q3 p4 q4 p5 q5 p6 q6
      simp
    · simp_all <;> (intros; omega)
  · simp_all <;> (intros; omega)
theorem run_rqFields (p q : St) (w : World) : (Op.equalIn 10000 34 (sv p) (sv q)).run Tryd.prog w = .ok (eqS p q) w := by
  have u2 := Tryd.underlying4
  have u5 := Tryd.underlying5
  have a2 := Tryd.isAgg4
  have a5 := Tryd.isAgg5
  have z2 := Tryd.sizeOf4
  have z5 := Tryd.sizeOf5
  have hS : Tryd.prog.underlying 34 = some (.struct (Tryd.prog.fieldsOf 34)) := by kernel_rfl
  have hp : Tryd.prog.stoodInHeld 34 = false := by kernel_rfl
  rw [show (10000 : Nat) = 9999 + 1 from rfl, run_equalIn_agg w 9999 34 _ _ hS hp]
  simp only [Program.fieldsOf, Tryd.underlying34]
  go_simp
  obtain ⟨p0, p1, p2, p3, p4, p5, p6, p7⟩ := p
  obtain ⟨q0, q1, q2, q3, q4, q5, q6, q7⟩ := q
  rw [eqS_of]
  dsimp only
  by_cases h0 : p0 = q0
  · subst h0
    by_cases h7 : p7 = q7
    · subst h7
      revert p1 q1 p2 q2 p3 q3 p4 q4 p5 q5 p6 q6
      simp
    · simp_all <;> (intros; omega)
  · simp_all <;> (intros; omega)
theorem frees_of {w : World} {b : Nat} {p : St} {t : TypeId} (h : w.heap[b]? = some (sO p t)) : ∀ i, w.frozen? ⟨b, i, none⟩ = false := fun _ => free_of h
theorem run_eqS (p q : St) (w : World) : (binOp .eql 25 (sv p) (sv q)).run Tryd.prog w = .ok (.bool (eqS p q)) w := by
  rw [run_eql_struct, run_eqFields]; rfl
theorem run_neS (p q : St) (w : World) : (binOp .neq 25 (sv p) (sv q)).run Tryd.prog w = .ok (.bool (!eqS p q)) w := by
  rw [run_neq_struct, run_eqFields]; rfl
theorem run_rqS (p q : St) (w : World) : (binOp .eql 34 (sv p) (sv q)).run Tryd.prog w = .ok (.bool (eqS p q)) w := by
  rw [run_eql_struct, run_rqFields]; rfl
theorem conv_at3 (W : World) (b : Nat) (x0 x1 x2 : Int) (h0 : W.cell? ⟨b, 0, none⟩ = some (.int .u8 x0)) (h1 : W.cell? ⟨b, 1, none⟩ = some (.int .u8 x1)) (h2 : W.cell? ⟨b, 2, none⟩ = some (.int .u8 x2)) :
    (convert 54 9 (.slice (some ⟨b, 0, none⟩) 3 3)).run Tryd.prog W = .ok (.string ⟨#[UInt8.ofNat x0.toNat, UInt8.ofNat x1.toNat, UInt8.ofNat x2.toNat]⟩) W := by
  have h' := run_convert_bytes_arg (P := Tryd.prog) W 54 5 Tryd.underlying54 Tryd.underlying5 b 0 3 3 [x0, x1, x2] rfl (fun i hi => by
    rw [Nat.zero_add]
    match i, hi with
    | 0, _ => exact h0
    | 1, _ => exact h1
    | 2, _ => exact h2) 9 Tryd.underlying9
  rw [h']
  rfl
theorem set8 {B : Nat} {a w : World} (h : Below B a w) {b : Nat} (hb : B ≤ b) (v0 v1 v2 v3 v4 v5 v6 v7 : Value) : Below B a ((((((((w.setCell ⟨b, 0, none⟩ v0).setCell ⟨b, 1, none⟩ v1).setCell ⟨b, 2, none⟩ v2).setCell ⟨b, 3, none⟩ v3).setCell ⟨b, 4, none⟩ v4).setCell ⟨b, 5, none⟩ v5).setCell ⟨b, 6, none⟩ v6).setCell ⟨b, 7, none⟩ v7) :=
  (((((((h.setCell hb _).setCell hb _).setCell hb _).setCell hb _).setCell hb _).setCell hb _).setCell hb _).setCell hb _
theorem set8_at {w : World} {b : Nat} {u0 u1 u2 u3 u4 u5 u6 u7 : Value} {t : TypeId} (h : w.heap[b]? = some (.cells #[u0, u1, u2, u3, u4, u5, u6, u7] t)) (v0 v1 v2 v3 v4 v5 v6 v7 : Value) : ((((((((w.setCell ⟨b, 0, none⟩ v0).setCell ⟨b, 1, none⟩ v1).setCell ⟨b, 2, none⟩ v2).setCell ⟨b, 3, none⟩ v3).setCell ⟨b, 4, none⟩ v4).setCell ⟨b, 5, none⟩ v5).setCell ⟨b, 6, none⟩ v6).setCell ⟨b, 7, none⟩ v7).heap[b]? = some (.cells #[v0, v1, v2, v3, v4, v5, v6, v7] t) := by
  have h0 : (w.setCell ⟨b, 0, none⟩ v0).heap[b]? = some (.cells #[v0, u1, u2, u3, u4, u5, u6, u7] t) := block_set (i := 0) h v0
  have h1 : ((w.setCell ⟨b, 0, none⟩ v0).setCell ⟨b, 1, none⟩ v1).heap[b]? = some (.cells #[v0, v1, u2, u3, u4, u5, u6, u7] t) := block_set (i := 1) h0 v1
  have h2 : (((w.setCell ⟨b, 0, none⟩ v0).setCell ⟨b, 1, none⟩ v1).setCell ⟨b, 2, none⟩ v2).heap[b]? = some (.cells #[v0, v1, v2, u3, u4, u5, u6, u7] t) := block_set (i := 2) h1 v2
  have h3 : ((((w.setCell ⟨b, 0, none⟩ v0).setCell ⟨b, 1, none⟩ v1).setCell ⟨b, 2, none⟩ v2).setCell ⟨b, 3, none⟩ v3).heap[b]? = some (.cells #[v0, v1, v2, v3, u4, u5, u6, u7] t) := block_set (i := 3) h2 v3
  have h4 : (((((w.setCell ⟨b, 0, none⟩ v0).setCell ⟨b, 1, none⟩ v1).setCell ⟨b, 2, none⟩ v2).setCell ⟨b, 3, none⟩ v3).setCell ⟨b, 4, none⟩ v4).heap[b]? = some (.cells #[v0, v1, v2, v3, v4, u5, u6, u7] t) := block_set (i := 4) h3 v4
  have h5 : ((((((w.setCell ⟨b, 0, none⟩ v0).setCell ⟨b, 1, none⟩ v1).setCell ⟨b, 2, none⟩ v2).setCell ⟨b, 3, none⟩ v3).setCell ⟨b, 4, none⟩ v4).setCell ⟨b, 5, none⟩ v5).heap[b]? = some (.cells #[v0, v1, v2, v3, v4, v5, u6, u7] t) := block_set (i := 5) h4 v5
  have h6 : (((((((w.setCell ⟨b, 0, none⟩ v0).setCell ⟨b, 1, none⟩ v1).setCell ⟨b, 2, none⟩ v2).setCell ⟨b, 3, none⟩ v3).setCell ⟨b, 4, none⟩ v4).setCell ⟨b, 5, none⟩ v5).setCell ⟨b, 6, none⟩ v6).heap[b]? = some (.cells #[v0, v1, v2, v3, v4, v5, v6, u7] t) := block_set (i := 6) h5 v6
  exact block_set (i := 7) h6 v7
theorem frees8 {w : World} {b : Nat} {p : St} {t : TypeId} (h : w.heap[b]? = some (sO p t)) : w.frozen? ⟨b, 0, none⟩ = false ∧ w.frozen? ⟨b, 1, none⟩ = false ∧ w.frozen? ⟨b, 2, none⟩ = false ∧ w.frozen? ⟨b, 3, none⟩ = false ∧ w.frozen? ⟨b, 4, none⟩ = false ∧ w.frozen? ⟨b, 5, none⟩ = false ∧ w.frozen? ⟨b, 6, none⟩ = false ∧ w.frozen? ⟨b, 7, none⟩ = false :=
  ⟨free_of h, free_of h, free_of h, free_of h, free_of h, free_of h, free_of h, free_of h⟩
theorem no_frees {w : World} {b : Nat} {t : TypeId} (h : w.heap[b]? = some (noO t)) : w.frozen? ⟨b, 0, none⟩ = false ∧ w.frozen? ⟨b, 1, none⟩ = false ∧ w.frozen? ⟨b, 2, none⟩ = false ∧ w.frozen? ⟨b, 3, none⟩ = false ∧ w.frozen? ⟨b, 4, none⟩ = false ∧ w.frozen? ⟨b, 5, none⟩ = false ∧ w.frozen? ⟨b, 6, none⟩ = false ∧ w.frozen? ⟨b, 7, none⟩ = false :=
  ⟨free_of h, free_of h, free_of h, free_of h, free_of h, free_of h, free_of h, free_of h⟩
theorem no_cells {w : World} {b : Nat} {t : TypeId} (h : w.heap[b]? = some (noO t)) : w.cell? ⟨b, 0, none⟩ = some (.int .u8 0) ∧ w.cell? ⟨b, 1, none⟩ = some (.bool false) ∧ w.cell? ⟨b, 2, none⟩ = some (.bool false) ∧ w.cell? ⟨b, 3, none⟩ = some (.bool false) ∧ w.cell? ⟨b, 4, none⟩ = some (.bool false) ∧ w.cell? ⟨b, 5, none⟩ = some (.bool false) ∧ w.cell? ⟨b, 6, none⟩ = some (.bool false) ∧ w.cell? ⟨b, 7, none⟩ = some (.int .u8 0) :=
  ⟨cell_of h rfl, cell_of h rfl, cell_of h rfl, cell_of h rfl, cell_of h rfl, cell_of h rfl, cell_of h rfl, cell_of h rfl⟩
theorem block_other {w : World} {b c o : Nat} (h : c ≠ b) (v : Value) : (w.setCell ⟨b, o, none⟩ v).heap[c]? = w.heap[c]? := by
  show (w.heap.modify b _)[c]? = _
  rw [Array.getElem?_modify, if_neg (fun e => h e.symm)]
theorem set8_other {w : World} {b c : Nat} (h : c ≠ b) (v0 v1 v2 v3 v4 v5 v6 v7 : Value) : ((((((((w.setCell ⟨b, 0, none⟩ v0).setCell ⟨b, 1, none⟩ v1).setCell ⟨b, 2, none⟩ v2).setCell ⟨b, 3, none⟩ v3).setCell ⟨b, 4, none⟩ v4).setCell ⟨b, 5, none⟩ v5).setCell ⟨b, 6, none⟩ v6).setCell ⟨b, 7, none⟩ v7).heap[c]? = w.heap[c]? := by
  rw [block_other h, block_other h, block_other h, block_other h, block_other h, block_other h, block_other h, block_other h]
end Go.Proofs.YtffahjlboakakaaDoor.Msc
