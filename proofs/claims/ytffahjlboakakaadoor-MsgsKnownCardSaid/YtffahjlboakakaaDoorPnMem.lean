/-
  Layer 8's parameters as a value and in memory: two of them compared, a block of them, eight octets made into a string. No condition.
-/
import Derived.Test.YtffahjlboakakaaDoorPnMath
import Derived.Laws.StructEq
import Derived.Lib.MinMax
import Derived.Deep.RegionHeld3
namespace Go.Proofs.YtffahjlboakakaaDoor.Pn
open Go.RowKit Go.Proofs.YtffahjlboakakaaDoor.Base Go.Proofs.YtffahjlboakakaaDoor.Mem
/-- Parameters as a value. -/
abbrev pv (p : Pr) : Value := .agg #[.int .u8 p.d, .int .u8 p.f, .int .u8 p.c, .int .u8 p.r, .int .i64 p.t, .int .i64 p.n, .int .i64 p.z, .int .i64 p.k]
/-- Parameters in a block. -/
abbrev pO (p : Pr) (t : TypeId) : Obj := .cells #[.int .u8 p.d, .int .u8 p.f, .int .u8 p.c, .int .u8 p.r, .int .i64 p.t, .int .i64 p.n, .int .i64 p.z, .int .i64 p.k] t (0, 0)
/-- A block of no parameters yet. -/
abbrev noO (t : TypeId) : Obj := .cells #[.int .u8 0, .int .u8 0, .int .u8 0, .int .u8 0, .int .i64 0, .int .i64 0, .int .i64 0, .int .i64 0] t (0, 0)
abbrev noV : Value := .agg #[.int .u8 0, .int .u8 0, .int .u8 0, .int .u8 0, .int .i64 0, .int .i64 0, .int .i64 0, .int .i64 0]
structure Cells (w : World) (b : Nat) (p : Pr) : Prop where
  c0 : w.cell? ⟨b, 0, none⟩ = some (.int .u8 p.d)
  c1 : w.cell? ⟨b, 1, none⟩ = some (.int .u8 p.f)
  c2 : w.cell? ⟨b, 2, none⟩ = some (.int .u8 p.c)
  c3 : w.cell? ⟨b, 3, none⟩ = some (.int .u8 p.r)
  c4 : w.cell? ⟨b, 4, none⟩ = some (.int .i64 p.t)
  c5 : w.cell? ⟨b, 5, none⟩ = some (.int .i64 p.n)
  c6 : w.cell? ⟨b, 6, none⟩ = some (.int .i64 p.z)
  c7 : w.cell? ⟨b, 7, none⟩ = some (.int .i64 p.k)
theorem cells_of {w : World} {b : Nat} {p : Pr} {t : TypeId} (h : w.heap[b]? = some (pO p t)) : Cells w b p :=
  ⟨cell_of h rfl, cell_of h rfl, cell_of h rfl, cell_of h rfl, cell_of h rfl, cell_of h rfl, cell_of h rfl, cell_of h rfl⟩
theorem Cells.below {w w' : World} {b : Nat} {p : Pr} (h : Cells w b p) (hb : Below w.heap.size w w') : Cells w' b p :=
  ⟨cell_below h.c0 hb, cell_below h.c1 hb, cell_below h.c2 hb, cell_below h.c3 hb, cell_below h.c4 hb, cell_below h.c5 hb, cell_below h.c6 hb, cell_below h.c7 hb⟩
theorem frees_of {w : World} {b : Nat} {p : Pr} {t : TypeId} (h : w.heap[b]? = some (pO p t)) : ∀ i, w.frozen? ⟨b, i, none⟩ = false := fun _ => free_of h
theorem run_eqFields (p q : Pr) (w : World) : (Op.equalIn 10000 23 (pv p) (pv q)).run Tryd.prog w = .ok (eqP p q) w := by
  have u2 := Tryd.underlying3
  have u5 := Tryd.underlying5
  have a2 := Tryd.isAgg3
  have a5 := Tryd.isAgg5
  have z2 := Tryd.sizeOf3
  have z5 := Tryd.sizeOf5
  have hS : Tryd.prog.underlying 23 = some (.struct (Tryd.prog.fieldsOf 23)) := by kernel_rfl
  have hp : Tryd.prog.stoodInHeld 23 = false := by kernel_rfl
  rw [show (10000 : Nat) = 9999 + 1 from rfl, run_equalIn_agg w 9999 23 _ _ hS hp]
  simp only [Program.fieldsOf, Tryd.underlying23]
  go_simp
  unfold eqP
  cases h1 : (p.d == q.d)
  · simp_all
  cases h2 : (p.f == q.f)
  · simp_all
  cases h3 : (p.c == q.c)
  · simp_all
  cases h4 : (p.r == q.r)
  · simp_all
  cases h5 : (p.t == q.t)
  · simp_all
  cases h6 : (p.n == q.n)
  · simp_all
  cases h7 : (p.z == q.z)
  · simp_all
  cases h8 : (p.k == q.k) <;> simp_all
theorem run_rqFields (p q : Pr) (w : World) : (Op.equalIn 10000 33 (pv p) (pv q)).run Tryd.prog w = .ok (eqP p q) w := by
  have u2 := Tryd.underlying3
  have u5 := Tryd.underlying5
  have a2 := Tryd.isAgg3
  have a5 := Tryd.isAgg5
  have z2 := Tryd.sizeOf3
  have z5 := Tryd.sizeOf5
  have hS : Tryd.prog.underlying 33 = some (.struct (Tryd.prog.fieldsOf 33)) := by kernel_rfl
  have hp : Tryd.prog.stoodInHeld 33 = false := by kernel_rfl
  rw [show (10000 : Nat) = 9999 + 1 from rfl, run_equalIn_agg w 9999 33 _ _ hS hp]
  simp only [Program.fieldsOf, Tryd.underlying33]
  go_simp
  unfold eqP
  cases h1 : (p.d == q.d)
  · simp_all
  cases h2 : (p.f == q.f)
  · simp_all
  cases h3 : (p.c == q.c)
  · simp_all
  cases h4 : (p.r == q.r)
  · simp_all
  cases h5 : (p.t == q.t)
  · simp_all
  cases h6 : (p.n == q.n)
  · simp_all
  cases h7 : (p.z == q.z)
  · simp_all
  cases h8 : (p.k == q.k) <;> simp_all
theorem run_eqP (p q : Pr) (w : World) : (binOp .eql 23 (pv p) (pv q)).run Tryd.prog w = .ok (.bool (eqP p q)) w := by
  rw [run_eql_struct, run_eqFields]; rfl
theorem run_neP (p q : Pr) (w : World) : (binOp .neq 23 (pv p) (pv q)).run Tryd.prog w = .ok (.bool (!eqP p q)) w := by
  rw [run_neq_struct, run_eqFields]; rfl
theorem run_rqP (p q : Pr) (w : World) : (binOp .eql 33 (pv p) (pv q)).run Tryd.prog w = .ok (.bool (eqP p q)) w := by
  rw [run_eql_struct, run_rqFields]; rfl
theorem conv_at8 (W : World) (b : Nat) (x0 x1 x2 x3 x4 x5 x6 x7 : Int) (h0 : W.cell? ⟨b, 0, none⟩ = some (.int .u8 x0)) (h1 : W.cell? ⟨b, 1, none⟩ = some (.int .u8 x1)) (h2 : W.cell? ⟨b, 2, none⟩ = some (.int .u8 x2)) (h3 : W.cell? ⟨b, 3, none⟩ = some (.int .u8 x3)) (h4 : W.cell? ⟨b, 4, none⟩ = some (.int .u8 x4)) (h5 : W.cell? ⟨b, 5, none⟩ = some (.int .u8 x5)) (h6 : W.cell? ⟨b, 6, none⟩ = some (.int .u8 x6)) (h7 : W.cell? ⟨b, 7, none⟩ = some (.int .u8 x7)) :
    (convert 54 9 (.slice (some ⟨b, 0, none⟩) 8 8)).run Tryd.prog W = .ok (.string ⟨#[UInt8.ofNat x0.toNat, UInt8.ofNat x1.toNat, UInt8.ofNat x2.toNat, UInt8.ofNat x3.toNat, UInt8.ofNat x4.toNat, UInt8.ofNat x5.toNat, UInt8.ofNat x6.toNat, UInt8.ofNat x7.toNat]⟩) W := by
  have h' := run_convert_bytes_arg (P := Tryd.prog) W 54 5 Tryd.underlying54 Tryd.underlying5 b 0 8 8 [x0, x1, x2, x3, x4, x5, x6, x7] rfl (fun i hi => by
    rw [Nat.zero_add]
    match i, hi with
    | 0, _ => exact h0
    | 1, _ => exact h1
    | 2, _ => exact h2
    | 3, _ => exact h3
    | 4, _ => exact h4
    | 5, _ => exact h5
    | 6, _ => exact h6
    | 7, _ => exact h7) 9 Tryd.underlying9
  rw [h']
  rfl
theorem set8 {B : Nat} {a w : World} (h : Below B a w) {b : Nat} (hb : B ≤ b) (v0 v1 v2 v3 v4 v5 v6 v7 : Value) : Below B a ((((((((w.setCell ⟨b, 0, none⟩ v0).setCell ⟨b, 1, none⟩ v1).setCell ⟨b, 2, none⟩ v2).setCell ⟨b, 3, none⟩ v3).setCell ⟨b, 4, none⟩ v4).setCell ⟨b, 5, none⟩ v5).setCell ⟨b, 6, none⟩ v6).setCell ⟨b, 7, none⟩ v7) :=
  (((((((h.setCell hb _).setCell hb _).setCell hb _).setCell hb _).setCell hb _).setCell hb _).setCell hb _).setCell hb _
theorem set8_at {w : World} {b : Nat} {u0 u1 u2 u3 u4 u5 u6 u7 : Value} {t : TypeId} (h : w.heap[b]? = some (.cells #[u0, u1, u2, u3, u4, u5, u6, u7] t)) (v0 v1 v2 v3 v4 v5 v6 v7 : Value) : ((((((((w.setCell ⟨b, 0, none⟩ v0).setCell ⟨b, 1, none⟩ v1).setCell ⟨b, 2, none⟩ v2).setCell ⟨b, 3, none⟩ v3).setCell ⟨b, 4, none⟩ v4).setCell ⟨b, 5, none⟩ v5).setCell ⟨b, 6, none⟩ v6).setCell ⟨b, 7, none⟩ v7).heap[b]? = some (.cells #[v0, v1, v2, v3, v4, v5, v6, v7] t) := by
  have h0 : (w.setCell ⟨b, 0, none⟩ v0).heap[b]? = some (.cells #[v0, u1, u2, u3, u4, u5, u6, u7] t) := block_set (i := 0) h v0
  have h1 : ((w.setCell ⟨b, 0, none⟩ v0).setCell ⟨b, 1, none⟩ v1).heap[b]? = some (.cells #[v0, v1, u2, u3, u4, u5, u6, u7] t) := block_set (i := 1) h0 v1
  have h2 : (((w.setCell ⟨b, 0, none⟩ v0).setCell ⟨b, 1, none⟩ v1).setCell ⟨b, 2, none⟩ v2).heap[b]? = some (.cells #[v0, v1, v2, u3, u4, u5, u6, u7] t) := block_set (i := 2) h1 v2
  have h3 : ((((w.setCell ⟨b, 0, none⟩ v0).setCell ⟨b, 1, none⟩ v1).setCell ⟨b, 2, none⟩ v2).setCell ⟨b, 3, none⟩ v3).heap[b]? = some (.cells #[v0, v1, v2, v3, u4, u5, u6, u7] t) := block_set (i := 3) h2 v3
  have h4 : (((((w.setCell ⟨b, 0, none⟩ v0).setCell ⟨b, 1, none⟩ v1).setCell ⟨b, 2, none⟩ v2).setCell ⟨b, 3, none⟩ v3).setCell ⟨b, 4, none⟩ v4).heap[b]? = some (.cells #[v0, v1, v2, v3, v4, u5, u6, u7] t) := block_set (i := 4) h3 v4
  have h5 : ((((((w.setCell ⟨b, 0, none⟩ v0).setCell ⟨b, 1, none⟩ v1).setCell ⟨b, 2, none⟩ v2).setCell ⟨b, 3, none⟩ v3).setCell ⟨b, 4, none⟩ v4).setCell ⟨b, 5, none⟩ v5).heap[b]? = some (.cells #[v0, v1, v2, v3, v4, v5, u6, u7] t) := block_set (i := 5) h4 v5
  have h6 : (((((((w.setCell ⟨b, 0, none⟩ v0).setCell ⟨b, 1, none⟩ v1).setCell ⟨b, 2, none⟩ v2).setCell ⟨b, 3, none⟩ v3).setCell ⟨b, 4, none⟩ v4).setCell ⟨b, 5, none⟩ v5).setCell ⟨b, 6, none⟩ v6).heap[b]? = some (.cells #[v0, v1, v2, v3, v4, v5, v6, u7] t) := block_set (i := 6) h5 v6
  exact block_set (i := 7) h6 v7
theorem frees8 {w : World} {b : Nat} {p : Pr} {t : TypeId} (h : w.heap[b]? = some (pO p t)) : w.frozen? ⟨b, 0, none⟩ = false ∧ w.frozen? ⟨b, 1, none⟩ = false ∧ w.frozen? ⟨b, 2, none⟩ = false ∧ w.frozen? ⟨b, 3, none⟩ = false ∧ w.frozen? ⟨b, 4, none⟩ = false ∧ w.frozen? ⟨b, 5, none⟩ = false ∧ w.frozen? ⟨b, 6, none⟩ = false ∧ w.frozen? ⟨b, 7, none⟩ = false :=
  ⟨free_of h, free_of h, free_of h, free_of h, free_of h, free_of h, free_of h, free_of h⟩
theorem no_frees {w : World} {b : Nat} {t : TypeId} (h : w.heap[b]? = some (noO t)) : w.frozen? ⟨b, 0, none⟩ = false ∧ w.frozen? ⟨b, 1, none⟩ = false ∧ w.frozen? ⟨b, 2, none⟩ = false ∧ w.frozen? ⟨b, 3, none⟩ = false ∧ w.frozen? ⟨b, 4, none⟩ = false ∧ w.frozen? ⟨b, 5, none⟩ = false ∧ w.frozen? ⟨b, 6, none⟩ = false ∧ w.frozen? ⟨b, 7, none⟩ = false :=
  ⟨free_of h, free_of h, free_of h, free_of h, free_of h, free_of h, free_of h, free_of h⟩
theorem no_cells {w : World} {b : Nat} {t : TypeId} (h : w.heap[b]? = some (noO t)) : w.cell? ⟨b, 0, none⟩ = some (.int .u8 0) ∧ w.cell? ⟨b, 1, none⟩ = some (.int .u8 0) ∧ w.cell? ⟨b, 2, none⟩ = some (.int .u8 0) ∧ w.cell? ⟨b, 3, none⟩ = some (.int .u8 0) ∧ w.cell? ⟨b, 4, none⟩ = some (.int .i64 0) ∧ w.cell? ⟨b, 5, none⟩ = some (.int .i64 0) ∧ w.cell? ⟨b, 6, none⟩ = some (.int .i64 0) ∧ w.cell? ⟨b, 7, none⟩ = some (.int .i64 0) :=
  ⟨cell_of h rfl, cell_of h rfl, cell_of h rfl, cell_of h rfl, cell_of h rfl, cell_of h rfl, cell_of h rfl, cell_of h rfl⟩
end Go.Proofs.YtffahjlboakakaaDoor.Pn
