/-
  The program's own side: New, View. Condition: it lies where it says; its numbers are small.
-/
import Derived.Test.YtkoaplmlabagnaaTk
import Derived.Test.YtkoaplmlabagnaaAqPm6
namespace Go.Proofs.Ytkoaplmlabagnaa.Aq
open Go.RowKit Go.Proofs.Ytkoaplmlabagnaa.Base Go.Proofs.Ytkoaplmlabagnaa.Mem
abbrev TV : TypeId := 35
/-- What a side tells. -/
abbrev vwv (y : Ps) : Value := .agg #[.int .u8 (y.va : Int), .int .u8 ((y.va + y.out) % 8 : Nat), .int .u8 (y.vr : Int), nm y.q.length, nm y.out, nm y.tr, nm y.lf, .bool y.pb, .bool y.bu, .bool y.rj, .bool y.ak, .bool y.wa, .bool y.fl]
abbrev vwO (y : Ps) : Obj := .cells #[.int .u8 (y.va : Int), .int .u8 ((y.va + y.out) % 8 : Nat), .int .u8 (y.vr : Int), nm y.q.length, nm y.out, nm y.tr, nm y.lf, .bool y.pb, .bool y.bu, .bool y.rj, .bool y.ak, .bool y.wa, .bool y.fl] TV (0, 0)
abbrev noV : Obj := .cells #[.int .u8 0, .int .u8 0, .int .u8 0, .int .i64 0, .int .i64 0, .int .i64 0, .int .i64 0, .bool false, .bool false, .bool false, .bool false, .bool false, .bool false] TV (0, 0)
theorem cells13 {w : World} {b : Nat} {u0 u1 u2 u3 u4 u5 u6 u7 u8 u9 u10 u11 u12 : Value} {t : TypeId} (h : w.heap[b]? = some (.cells #[u0, u1, u2, u3, u4, u5, u6, u7, u8, u9, u10, u11, u12] t)) : (w.cell? ⟨b, 0, none⟩ = some u0 ∧ w.cell? ⟨b, 1, none⟩ = some u1 ∧ w.cell? ⟨b, 2, none⟩ = some u2 ∧ w.cell? ⟨b, 3, none⟩ = some u3 ∧ w.cell? ⟨b, 4, none⟩ = some u4 ∧ w.cell? ⟨b, 5, none⟩ = some u5 ∧ w.cell? ⟨b, 6, none⟩ = some u6 ∧ w.cell? ⟨b, 7, none⟩ = some u7 ∧ w.cell? ⟨b, 8, none⟩ = some u8 ∧ w.cell? ⟨b, 9, none⟩ = some u9 ∧ w.cell? ⟨b, 10, none⟩ = some u10 ∧ w.cell? ⟨b, 11, none⟩ = some u11 ∧ w.cell? ⟨b, 12, none⟩ = some u12) ∧ ∀ i, w.frozen? ⟨b, i, none⟩ = false :=
  ⟨⟨cell_of h rfl, cell_of h rfl, cell_of h rfl, cell_of h rfl, cell_of h rfl, cell_of h rfl, cell_of h rfl, cell_of h rfl, cell_of h rfl, cell_of h rfl, cell_of h rfl, cell_of h rfl, cell_of h rfl⟩, fun _ => free_of h⟩
theorem set13_at {w : World} {b : Nat} {u0 u1 u2 u3 u4 u5 u6 u7 u8 u9 u10 u11 u12 : Value} {t : TypeId} (h : w.heap[b]? = some (.cells #[u0, u1, u2, u3, u4, u5, u6, u7, u8, u9, u10, u11, u12] t)) (v0 v1 v2 v3 v4 v5 v6 v7 v8 v9 v10 v11 v12 : Value) : (((((((((((((w.setCell ⟨b, 0, none⟩ (v0)).setCell ⟨b, 1, none⟩ (v1)).setCell ⟨b, 2, none⟩ (v2)).setCell ⟨b, 3, none⟩ (v3)).setCell ⟨b, 4, none⟩ (v4)).setCell ⟨b, 5, none⟩ (v5)).setCell ⟨b, 6, none⟩ (v6)).setCell ⟨b, 7, none⟩ (v7)).setCell ⟨b, 8, none⟩ (v8)).setCell ⟨b, 9, none⟩ (v9)).setCell ⟨b, 10, none⟩ (v10)).setCell ⟨b, 11, none⟩ (v11)).setCell ⟨b, 12, none⟩ (v12)).heap[b]? = some (.cells #[v0, v1, v2, v3, v4, v5, v6, v7, v8, v9, v10, v11, v12] t) := by
  have h0 : (w.setCell ⟨b, 0, none⟩ (v0)).heap[b]? = some (.cells #[v0, u1, u2, u3, u4, u5, u6, u7, u8, u9, u10, u11, u12] t) := block_set (i := 0) h v0
  have h1 : ((w.setCell ⟨b, 0, none⟩ (v0)).setCell ⟨b, 1, none⟩ (v1)).heap[b]? = some (.cells #[v0, v1, u2, u3, u4, u5, u6, u7, u8, u9, u10, u11, u12] t) := block_set (i := 1) h0 v1
  have h2 : (((w.setCell ⟨b, 0, none⟩ (v0)).setCell ⟨b, 1, none⟩ (v1)).setCell ⟨b, 2, none⟩ (v2)).heap[b]? = some (.cells #[v0, v1, v2, u3, u4, u5, u6, u7, u8, u9, u10, u11, u12] t) := block_set (i := 2) h1 v2
  have h3 : ((((w.setCell ⟨b, 0, none⟩ (v0)).setCell ⟨b, 1, none⟩ (v1)).setCell ⟨b, 2, none⟩ (v2)).setCell ⟨b, 3, none⟩ (v3)).heap[b]? = some (.cells #[v0, v1, v2, v3, u4, u5, u6, u7, u8, u9, u10, u11, u12] t) := block_set (i := 3) h2 v3
  have h4 : (((((w.setCell ⟨b, 0, none⟩ (v0)).setCell ⟨b, 1, none⟩ (v1)).setCell ⟨b, 2, none⟩ (v2)).setCell ⟨b, 3, none⟩ (v3)).setCell ⟨b, 4, none⟩ (v4)).heap[b]? = some (.cells #[v0, v1, v2, v3, v4, u5, u6, u7, u8, u9, u10, u11, u12] t) := block_set (i := 4) h3 v4
  have h5 : ((((((w.setCell ⟨b, 0, none⟩ (v0)).setCell ⟨b, 1, none⟩ (v1)).setCell ⟨b, 2, none⟩ (v2)).setCell ⟨b, 3, none⟩ (v3)).setCell ⟨b, 4, none⟩ (v4)).setCell ⟨b, 5, none⟩ (v5)).heap[b]? = some (.cells #[v0, v1, v2, v3, v4, v5, u6, u7, u8, u9, u10, u11, u12] t) := block_set (i := 5) h4 v5
  have h6 : (((((((w.setCell ⟨b, 0, none⟩ (v0)).setCell ⟨b, 1, none⟩ (v1)).setCell ⟨b, 2, none⟩ (v2)).setCell ⟨b, 3, none⟩ (v3)).setCell ⟨b, 4, none⟩ (v4)).setCell ⟨b, 5, none⟩ (v5)).setCell ⟨b, 6, none⟩ (v6)).heap[b]? = some (.cells #[v0, v1, v2, v3, v4, v5, v6, u7, u8, u9, u10, u11, u12] t) := block_set (i := 6) h5 v6
  have h7 : ((((((((w.setCell ⟨b, 0, none⟩ (v0)).setCell ⟨b, 1, none⟩ (v1)).setCell ⟨b, 2, none⟩ (v2)).setCell ⟨b, 3, none⟩ (v3)).setCell ⟨b, 4, none⟩ (v4)).setCell ⟨b, 5, none⟩ (v5)).setCell ⟨b, 6, none⟩ (v6)).setCell ⟨b, 7, none⟩ (v7)).heap[b]? = some (.cells #[v0, v1, v2, v3, v4, v5, v6, v7, u8, u9, u10, u11, u12] t) := block_set (i := 7) h6 v7
  have h8 : (((((((((w.setCell ⟨b, 0, none⟩ (v0)).setCell ⟨b, 1, none⟩ (v1)).setCell ⟨b, 2, none⟩ (v2)).setCell ⟨b, 3, none⟩ (v3)).setCell ⟨b, 4, none⟩ (v4)).setCell ⟨b, 5, none⟩ (v5)).setCell ⟨b, 6, none⟩ (v6)).setCell ⟨b, 7, none⟩ (v7)).setCell ⟨b, 8, none⟩ (v8)).heap[b]? = some (.cells #[v0, v1, v2, v3, v4, v5, v6, v7, v8, u9, u10, u11, u12] t) := block_set (i := 8) h7 v8
  have h9 : ((((((((((w.setCell ⟨b, 0, none⟩ (v0)).setCell ⟨b, 1, none⟩ (v1)).setCell ⟨b, 2, none⟩ (v2)).setCell ⟨b, 3, none⟩ (v3)).setCell ⟨b, 4, none⟩ (v4)).setCell ⟨b, 5, none⟩ (v5)).setCell ⟨b, 6, none⟩ (v6)).setCell ⟨b, 7, none⟩ (v7)).setCell ⟨b, 8, none⟩ (v8)).setCell ⟨b, 9, none⟩ (v9)).heap[b]? = some (.cells #[v0, v1, v2, v3, v4, v5, v6, v7, v8, v9, u10, u11, u12] t) := block_set (i := 9) h8 v9
  have h10 : (((((((((((w.setCell ⟨b, 0, none⟩ (v0)).setCell ⟨b, 1, none⟩ (v1)).setCell ⟨b, 2, none⟩ (v2)).setCell ⟨b, 3, none⟩ (v3)).setCell ⟨b, 4, none⟩ (v4)).setCell ⟨b, 5, none⟩ (v5)).setCell ⟨b, 6, none⟩ (v6)).setCell ⟨b, 7, none⟩ (v7)).setCell ⟨b, 8, none⟩ (v8)).setCell ⟨b, 9, none⟩ (v9)).setCell ⟨b, 10, none⟩ (v10)).heap[b]? = some (.cells #[v0, v1, v2, v3, v4, v5, v6, v7, v8, v9, v10, u11, u12] t) := block_set (i := 10) h9 v10
  have h11 : ((((((((((((w.setCell ⟨b, 0, none⟩ (v0)).setCell ⟨b, 1, none⟩ (v1)).setCell ⟨b, 2, none⟩ (v2)).setCell ⟨b, 3, none⟩ (v3)).setCell ⟨b, 4, none⟩ (v4)).setCell ⟨b, 5, none⟩ (v5)).setCell ⟨b, 6, none⟩ (v6)).setCell ⟨b, 7, none⟩ (v7)).setCell ⟨b, 8, none⟩ (v8)).setCell ⟨b, 9, none⟩ (v9)).setCell ⟨b, 10, none⟩ (v10)).setCell ⟨b, 11, none⟩ (v11)).heap[b]? = some (.cells #[v0, v1, v2, v3, v4, v5, v6, v7, v8, v9, v10, v11, u12] t) := block_set (i := 11) h10 v11
  have h12 : (((((((((((((w.setCell ⟨b, 0, none⟩ (v0)).setCell ⟨b, 1, none⟩ (v1)).setCell ⟨b, 2, none⟩ (v2)).setCell ⟨b, 3, none⟩ (v3)).setCell ⟨b, 4, none⟩ (v4)).setCell ⟨b, 5, none⟩ (v5)).setCell ⟨b, 6, none⟩ (v6)).setCell ⟨b, 7, none⟩ (v7)).setCell ⟨b, 8, none⟩ (v8)).setCell ⟨b, 9, none⟩ (v9)).setCell ⟨b, 10, none⟩ (v10)).setCell ⟨b, 11, none⟩ (v11)).setCell ⟨b, 12, none⟩ (v12)).heap[b]? = some (.cells #[v0, v1, v2, v3, v4, v5, v6, v7, v8, v9, v10, v11, v12] t) := block_set (i := 12) h11 v12
  exact h12
theorem below_set13 {B : Nat} {a w : World} (h : Below B a w) {b : Nat} (hb : B ≤ b) (v0 v1 v2 v3 v4 v5 v6 v7 v8 v9 v10 v11 v12 : Value) : Below B a (((((((((((((w.setCell ⟨b, 0, none⟩ (v0)).setCell ⟨b, 1, none⟩ (v1)).setCell ⟨b, 2, none⟩ (v2)).setCell ⟨b, 3, none⟩ (v3)).setCell ⟨b, 4, none⟩ (v4)).setCell ⟨b, 5, none⟩ (v5)).setCell ⟨b, 6, none⟩ (v6)).setCell ⟨b, 7, none⟩ (v7)).setCell ⟨b, 8, none⟩ (v8)).setCell ⟨b, 9, none⟩ (v9)).setCell ⟨b, 10, none⟩ (v10)).setCell ⟨b, 11, none⟩ (v11)).setCell ⟨b, 12, none⟩ (v12)) :=
  (((((((((((((h).setCell (p := ⟨b, 0, none⟩) hb _).setCell (p := ⟨b, 1, none⟩) hb _).setCell (p := ⟨b, 2, none⟩) hb _).setCell (p := ⟨b, 3, none⟩) hb _).setCell (p := ⟨b, 4, none⟩) hb _).setCell (p := ⟨b, 5, none⟩) hb _).setCell (p := ⟨b, 6, none⟩) hb _).setCell (p := ⟨b, 7, none⟩) hb _).setCell (p := ⟨b, 8, none⟩) hb _).setCell (p := ⟨b, 9, none⟩) hb _).setCell (p := ⟨b, 10, none⟩) hb _).setCell (p := ⟨b, 11, none⟩) hb _).setCell (p := ⟨b, 12, none⟩) hb _
theorem res_vw {fn : Func} {t : Tmp} {T : TypeId} (hT : T = TV) (h : fn.results = #[.cell t T]) (tmps : Array Value) (W : World) (b : Nat) {u0 u1 u2 u3 u4 u5 u6 u7 u8 u9 u10 u11 u12 : Value} (hc : W.heap[b]? = some (.cells #[u0, u1, u2, u3, u4, u5, u6, u7, u8, u9, u10, u11, u12] TV)) (hp : tmps.getD t undef = ptr b) : (results fn tmps).run Try.prog W = .ok (.agg #[u0, u1, u2, u3, u4, u5, u6, u7, u8, u9, u10, u11, u12]) W := by
  subst hT
  obtain ⟨⟨g0, g1, g2, g3, g4, g5, g6, g7, g8, g9, g10, g11, g12⟩, -⟩ := cells13 hc
  have hp2 : tmps[t]?.getD undef = ptr b := by rw [← hp]; simp
  simp [results, h, go_sem, hp2, g0, g1, g2, g3, g4, g5, g6, g7, g8, g9, g10, g11, g12]
theorem fview_nil (w : World) : Calls Try.prog 12 #[.pointer none] w fun e w' => e = .returned (vwv (Ps.new 0 0 0)) ∧ Below w.heap.size w w' := by
  go_enter Try.func12, Try.ntmps12
  go_wp2
  exact bodyPost_ret (v := vwv (Ps.new 0 0 0)) (by simp [results, Try.results12, go_sem, Ps.new]) rfl ⟨rfl, nest_below w [_]⟩
set_option maxHeartbeats 4000000 in
set_option maxRecDepth 100000 in
theorem fview (w : World) (pb : Nat) (y : Ps) (v : Value) (h : PAt w pb y v) (hf : PFit y) :
    Calls Try.prog 12 #[ptr pb] w fun e w' => e = .returned (vwv y) ∧ Below w.heap.size w w' := by
  obtain ⟨o, c, rfl⟩ := h.q.form
  have H := Lib.hid h
  obtain ⟨n, hn⟩ : ∃ n, y.q.length = n := ⟨_, rfl⟩
  have HN := Lib.hid hn
  have HF := Lib.hid hf
  obtain ⟨r, hr⟩ : ∃ r, (y.va + y.out) % 8 = r := ⟨_, rfl⟩
  have hb0 : Below w.heap.size w (w.alloc noV) := nest_below w [_]
  have hn0 : (w.alloc noV).heap[w.heap.size]? = some noV := Mem.nest w [_] 0 _ rfl
  have HR := Lib.hid hr
  unfold vwv
  rw [hn, hr]
  clear h hf hn hr
  go_enter Try.func12, Try.ntmps12
  go_wp2_with fail
  generalize w.alloc noV = w1 at hb0 hn0 ⊢
  have hb1 : Below w.heap.size w w1.drew := hb0.drew
  have hn1 : w1.drew.heap[w.heap.size]? = some noV := hn0
  clear hb0 hn0
  refine wp_region_held_drew (S := (fun w' => Below w.heap.size w w')) (by kernel_rfl) hb1 (fun hHeld => ?_)
  refine' tk 0 ⟨some 6, .move (.tmp 0), 28, "arq.go:148", #[], none⟩ ?_
  simp only [Act.put, z1', z2', z3']
  refine' tk 1 ⟨some 7, .nilCheck (.tmp 6), 0, "arq.go:148", #[⟨0, .data⟩], none⟩ ?_
  simp only [Act.put, z1', z2', z3']
  refine' tk 2 ⟨some 8, .fieldAddr 67 (.tmp 7) 0, 0, "arq.go:148", #[⟨1, .data⟩], none⟩ ?_
  simp only [Act.put, z1', z2', z3']
  refine' tk 3 ⟨some 9, .fieldAddr 62 (.tmp 8) 0, 0, "arq.go:148", #[⟨2, .data⟩], none⟩ ?_
  simp only [Act.put, z1', z2', z3']
  refine' tv 4 ⟨some 10, .load 5 (.tmp 9), 5, "arq.go:148", #[⟨3, .data⟩], none⟩ ?hy5 ?hr5
  case hy5 => (intro _ hSw; (try dsimp only at hSw); have hc := (H.out.below hSw).cell 0 (.int .u8 (y.va : Int)) rfl; go_simp <;> with_reducible rfl)
  simp only [Act.put, z1', z2', z3']
  refine' tk 5 ⟨some 11, .move (.tmp 0), 28, "arq.go:148", #[], none⟩ ?_
  simp only [Act.put, z1', z2', z3']
  refine' tk 7 ⟨some 13, .move (.tmp 0), 28, "arq.go:148", #[], none⟩ ?_
  simp only [Act.put, z1', z2', z3']
  refine' tk 8 ⟨some 14, .nilCheck (.tmp 13), 0, "arq.go:148", #[⟨7, .data⟩], none⟩ ?_
  simp only [Act.put, z1', z2', z3']
  refine' tk 9 ⟨some 15, .fieldAddr 67 (.tmp 14) 0, 0, "arq.go:148", #[⟨8, .data⟩], none⟩ ?_
  simp only [Act.put, z1', z2', z3']
  refine' tk 10 ⟨some 16, .fieldAddr 62 (.tmp 15) 1, 0, "arq.go:148", #[⟨9, .data⟩], none⟩ ?_
  simp only [Act.put, z1', z2', z3']
  refine' tv 11 ⟨some 17, .load 5 (.tmp 16), 5, "arq.go:148", #[⟨10, .data⟩], none⟩ ?hy11 ?hr11
  case hy11 => (intro _ hSw; (try dsimp only at hSw); have hc := (H.out.below hSw).cell 1 (.int .u8 (y.vr : Int)) rfl; go_simp <;> with_reducible rfl)
  simp only [Act.put, z1', z2', z3']
  refine' tk 12 ⟨some 18, .move (.tmp 0), 28, "arq.go:148", #[], none⟩ ?_
  simp only [Act.put, z1', z2', z3']
  refine' tk 13 ⟨some 19, .nilCheck (.tmp 18), 0, "arq.go:148", #[⟨12, .data⟩], none⟩ ?_
  simp only [Act.put, z1', z2', z3']
  refine' tk 14 ⟨some 20, .fieldAddr 67 (.tmp 19) 4, 0, "arq.go:148", #[⟨13, .data⟩], none⟩ ?_
  simp only [Act.put, z1', z2', z3']
  refine' tv 15 ⟨some 21, .load 63 (.tmp 20), 63, "arq.go:148", #[⟨14, .data⟩], none⟩ ?hy15 ?hr15
  case hy15 => (intro _ hSw; (try dsimp only at hSw); have hc := (H.out.below hSw).cell 14 (.slice o y.q.length c) rfl; rw [HN.out] at hc; go_simp <;> with_reducible rfl)
  simp only [Act.put, z1', z2', z3']
  refine' tk 16 ⟨some 22, .call ⟨.builtin .len, #[.tmp 21], #[63]⟩, 3, "arq.go:148", #[⟨15, .data⟩], none⟩ ?_
  simp only [Act.put, z1', z2', z3']
  refine' tk 17 ⟨some 23, .move (.tmp 0), 28, "arq.go:148", #[], none⟩ ?_
  simp only [Act.put, z1', z2', z3']
  refine' tk 18 ⟨some 24, .nilCheck (.tmp 23), 0, "arq.go:148", #[⟨17, .data⟩], none⟩ ?_
  simp only [Act.put, z1', z2', z3']
  refine' tk 19 ⟨some 25, .fieldAddr 67 (.tmp 24) 0, 0, "arq.go:148", #[⟨18, .data⟩], none⟩ ?_
  simp only [Act.put, z1', z2', z3']
  refine' tk 20 ⟨some 26, .fieldAddr 62 (.tmp 25) 2, 0, "arq.go:148", #[⟨19, .data⟩], none⟩ ?_
  simp only [Act.put, z1', z2', z3']
  refine' tv 21 ⟨some 27, .load 3 (.tmp 26), 3, "arq.go:148", #[⟨20, .data⟩], none⟩ ?hy21 ?hr21
  case hy21 => (intro _ hSw; (try dsimp only at hSw); have hc := (H.out.below hSw).cell 2 (.int .i64 (y.out : Int)) rfl; go_simp <;> with_reducible rfl)
  simp only [Act.put, z1', z2', z3']
  refine' tk 22 ⟨some 28, .move (.tmp 0), 28, "arq.go:148", #[], none⟩ ?_
  simp only [Act.put, z1', z2', z3']
  refine' tk 23 ⟨some 29, .nilCheck (.tmp 28), 0, "arq.go:148", #[⟨22, .data⟩], none⟩ ?_
  simp only [Act.put, z1', z2', z3']
  refine' tk 24 ⟨some 30, .fieldAddr 67 (.tmp 29) 0, 0, "arq.go:148", #[⟨23, .data⟩], none⟩ ?_
  simp only [Act.put, z1', z2', z3']
  refine' tk 25 ⟨some 31, .fieldAddr 62 (.tmp 30) 3, 0, "arq.go:148", #[⟨24, .data⟩], none⟩ ?_
  simp only [Act.put, z1', z2', z3']
  refine' tv 26 ⟨some 32, .load 3 (.tmp 31), 3, "arq.go:148", #[⟨25, .data⟩], none⟩ ?hy26 ?hr26
  case hy26 => (intro _ hSw; (try dsimp only at hSw); have hc := (H.out.below hSw).cell 3 (.int .i64 (y.tr : Int)) rfl; go_simp <;> with_reducible rfl)
  simp only [Act.put, z1', z2', z3']
  refine' tk 27 ⟨some 33, .move (.tmp 0), 28, "arq.go:148", #[], none⟩ ?_
  simp only [Act.put, z1', z2', z3']
  refine' tk 28 ⟨some 34, .nilCheck (.tmp 33), 0, "arq.go:148", #[⟨27, .data⟩], none⟩ ?_
  simp only [Act.put, z1', z2', z3']
  refine' tk 29 ⟨some 35, .fieldAddr 67 (.tmp 34) 0, 0, "arq.go:148", #[⟨28, .data⟩], none⟩ ?_
  simp only [Act.put, z1', z2', z3']
  refine' tk 30 ⟨some 36, .fieldAddr 62 (.tmp 35) 4, 0, "arq.go:148", #[⟨29, .data⟩], none⟩ ?_
  simp only [Act.put, z1', z2', z3']
  refine' tv 31 ⟨some 37, .load 3 (.tmp 36), 3, "arq.go:148", #[⟨30, .data⟩], none⟩ ?hy31 ?hr31
  case hy31 => (intro _ hSw; (try dsimp only at hSw); have hc := (H.out.below hSw).cell 4 (.int .i64 (y.lf : Int)) rfl; go_simp <;> with_reducible rfl)
  simp only [Act.put, z1', z2', z3']
  refine' tk 32 ⟨some 38, .move (.tmp 0), 28, "arq.go:148", #[], none⟩ ?_
  simp only [Act.put, z1', z2', z3']
  refine' tk 33 ⟨some 39, .nilCheck (.tmp 38), 0, "arq.go:148", #[⟨32, .data⟩], none⟩ ?_
  simp only [Act.put, z1', z2', z3']
  refine' tk 34 ⟨some 40, .fieldAddr 67 (.tmp 39) 0, 0, "arq.go:148", #[⟨33, .data⟩], none⟩ ?_
  simp only [Act.put, z1', z2', z3']
  refine' tk 35 ⟨some 41, .fieldAddr 62 (.tmp 40) 5, 0, "arq.go:148", #[⟨34, .data⟩], none⟩ ?_
  simp only [Act.put, z1', z2', z3']
  refine' tv 36 ⟨some 42, .load 4 (.tmp 41), 4, "arq.go:148", #[⟨35, .data⟩], none⟩ ?hy36 ?hr36
  case hy36 => (intro _ hSw; (try dsimp only at hSw); have hc := (H.out.below hSw).cell 5 (.bool y.pb) rfl; go_simp <;> with_reducible rfl)
  simp only [Act.put, z1', z2', z3']
  refine' tk 37 ⟨some 43, .move (.tmp 0), 28, "arq.go:148", #[], none⟩ ?_
  simp only [Act.put, z1', z2', z3']
  refine' tk 38 ⟨some 44, .nilCheck (.tmp 43), 0, "arq.go:148", #[⟨37, .data⟩], none⟩ ?_
  simp only [Act.put, z1', z2', z3']
  refine' tk 39 ⟨some 45, .fieldAddr 67 (.tmp 44) 0, 0, "arq.go:148", #[⟨38, .data⟩], none⟩ ?_
  simp only [Act.put, z1', z2', z3']
  refine' tk 40 ⟨some 46, .fieldAddr 62 (.tmp 45) 6, 0, "arq.go:148", #[⟨39, .data⟩], none⟩ ?_
  simp only [Act.put, z1', z2', z3']
  refine' tv 41 ⟨some 47, .load 4 (.tmp 46), 4, "arq.go:148", #[⟨40, .data⟩], none⟩ ?hy41 ?hr41
  case hy41 => (intro _ hSw; (try dsimp only at hSw); have hc := (H.out.below hSw).cell 6 (.bool y.bu) rfl; go_simp <;> with_reducible rfl)
  simp only [Act.put, z1', z2', z3']
  refine' tk 42 ⟨some 48, .move (.tmp 0), 28, "arq.go:148", #[], none⟩ ?_
  simp only [Act.put, z1', z2', z3']
  refine' tk 43 ⟨some 49, .nilCheck (.tmp 48), 0, "arq.go:148", #[⟨42, .data⟩], none⟩ ?_
  simp only [Act.put, z1', z2', z3']
  refine' tk 44 ⟨some 50, .fieldAddr 67 (.tmp 49) 0, 0, "arq.go:148", #[⟨43, .data⟩], none⟩ ?_
  simp only [Act.put, z1', z2', z3']
  refine' tk 45 ⟨some 51, .fieldAddr 62 (.tmp 50) 7, 0, "arq.go:148", #[⟨44, .data⟩], none⟩ ?_
  simp only [Act.put, z1', z2', z3']
  refine' tv 46 ⟨some 52, .load 4 (.tmp 51), 4, "arq.go:148", #[⟨45, .data⟩], none⟩ ?hy46 ?hr46
  case hy46 => (intro _ hSw; (try dsimp only at hSw); have hc := (H.out.below hSw).cell 7 (.bool y.rj) rfl; go_simp <;> with_reducible rfl)
  simp only [Act.put, z1', z2', z3']
  refine' tk 47 ⟨some 53, .move (.tmp 0), 28, "arq.go:148", #[], none⟩ ?_
  simp only [Act.put, z1', z2', z3']
  refine' tk 48 ⟨some 54, .nilCheck (.tmp 53), 0, "arq.go:148", #[⟨47, .data⟩], none⟩ ?_
  simp only [Act.put, z1', z2', z3']
  refine' tk 49 ⟨some 55, .fieldAddr 67 (.tmp 54) 0, 0, "arq.go:148", #[⟨48, .data⟩], none⟩ ?_
  simp only [Act.put, z1', z2', z3']
  refine' tk 50 ⟨some 56, .fieldAddr 62 (.tmp 55) 8, 0, "arq.go:148", #[⟨49, .data⟩], none⟩ ?_
  simp only [Act.put, z1', z2', z3']
  refine' tv 51 ⟨some 57, .load 4 (.tmp 56), 4, "arq.go:148", #[⟨50, .data⟩], none⟩ ?hy51 ?hr51
  case hy51 => (intro _ hSw; (try dsimp only at hSw); have hc := (H.out.below hSw).cell 8 (.bool y.ak) rfl; go_simp <;> with_reducible rfl)
  simp only [Act.put, z1', z2', z3']
  refine' tk 52 ⟨some 58, .move (.tmp 0), 28, "arq.go:148", #[], none⟩ ?_
  simp only [Act.put, z1', z2', z3']
  refine' tk 53 ⟨some 59, .nilCheck (.tmp 58), 0, "arq.go:148", #[⟨52, .data⟩], none⟩ ?_
  simp only [Act.put, z1', z2', z3']
  refine' tk 54 ⟨some 60, .fieldAddr 67 (.tmp 59) 0, 0, "arq.go:148", #[⟨53, .data⟩], none⟩ ?_
  simp only [Act.put, z1', z2', z3']
  refine' tk 55 ⟨some 61, .fieldAddr 62 (.tmp 60) 9, 0, "arq.go:148", #[⟨54, .data⟩], none⟩ ?_
  simp only [Act.put, z1', z2', z3']
  refine' tv 56 ⟨some 62, .load 4 (.tmp 61), 4, "arq.go:148", #[⟨55, .data⟩], none⟩ ?hy56 ?hr56
  case hy56 => (intro _ hSw; (try dsimp only at hSw); have hc := (H.out.below hSw).cell 9 (.bool y.wa) rfl; go_simp <;> with_reducible rfl)
  simp only [Act.put, z1', z2', z3']
  refine' tk 57 ⟨some 63, .move (.tmp 0), 28, "arq.go:148", #[], none⟩ ?_
  simp only [Act.put, z1', z2', z3']
  refine' tk 58 ⟨some 64, .nilCheck (.tmp 63), 0, "arq.go:148", #[⟨57, .data⟩], none⟩ ?_
  simp only [Act.put, z1', z2', z3']
  refine' tk 59 ⟨some 65, .fieldAddr 67 (.tmp 64) 0, 0, "arq.go:148", #[⟨58, .data⟩], none⟩ ?_
  simp only [Act.put, z1', z2', z3']
  refine' tk 60 ⟨some 66, .fieldAddr 62 (.tmp 65) 10, 0, "arq.go:148", #[⟨59, .data⟩], none⟩ ?_
  simp only [Act.put, z1', z2', z3']
  refine' tv 61 ⟨some 67, .load 4 (.tmp 66), 4, "arq.go:148", #[⟨60, .data⟩], none⟩ ?hy61 ?hr61
  case hy61 => (intro _ hSw; (try dsimp only at hSw); have hc := (H.out.below hSw).cell 10 (.bool y.fl) rfl; go_simp <;> with_reducible rfl)
  simp only [Act.put, z1', z2', z3']
  clear hHeld
  generalize w1.drew = w2 at hb1 hn1 ⊢
  have CV := Lib.hid (fvs _ pb y _ (H.out.below hb1) HF.out)
  rw [HR.out] at CV
  refine ry [6] ?_
  refine AllReadyH.cons rfl (fun K hK => ?_) AllReadyH.nil
  go_simp
  (with_reducible refine CV.out.mono ?_)
  rintro e wc ⟨rfl, hd⟩
  have hb3 := below_on hb1 (drewN_below hd)
  have hn3 := stays hn1 (drewN_below hd)
  go_wp2_with fail
  refine hK.out _ _ hb3 (fun hNext => ?_)
  clear hK K hd CV hb1 hn1
  have hHeld := hNext
  clear hNext
  (try simp only [Act.put, z1', z2', z3'])
  refine' tk 62 ⟨some 68, .build 35 #[(0, .tmp 10), (1, .tmp 12), (2, .tmp 17), (3, .tmp 22), (4, .tmp 27), (5, .tmp 32), (6, .tmp 37), (7, .tmp 42), (8, .tmp 47), (9, .tmp 52), (10, .tmp 57), (11, .tmp 62), (12, .tmp 67)], 35, "arq.go:148", #[⟨4, .data⟩, ⟨6, .data⟩, ⟨11, .data⟩, ⟨16, .data⟩, ⟨21, .data⟩, ⟨26, .data⟩, ⟨31, .data⟩, ⟨36, .data⟩, ⟨41, .data⟩, ⟨46, .data⟩, ⟨51, .data⟩, ⟨56, .data⟩, ⟨61, .data⟩], none⟩ ?_
  simp only [Act.put, z1', z2', z3']
  obtain ⟨⟨g0, g1, g2, g3, g4, g5, g6, g7, g8, g9, g10, g11, g12⟩, gf⟩ := cells13 hn3
  have HZ := Lib.hid (set13_at hn3 (.int .u8 (y.va : Int)) (.int .u8 (r : Int)) (.int .u8 (y.vr : Int)) (nm n) (nm y.out) (nm y.tr) (nm y.lf) (.bool y.pb) (.bool y.bu) (.bool y.rj) (.bool y.ak) (.bool y.wa) (.bool y.fl))
  have HB := Lib.hid (below_set13 hb3 (Nat.le_refl _) (.int .u8 (y.va : Int)) (.int .u8 (r : Int)) (.int .u8 (y.vr : Int)) (nm n) (nm y.out) (nm y.tr) (nm y.lf) (.bool y.pb) (.bool y.bu) (.bool y.rj) (.bool y.ak) (.bool y.wa) (.bool y.fl))
  refine ry [63] ?_
  refine AllReadyH.cons rfl (fun K hK => ?_) AllReadyH.nil
  go_simp
  go_wp2_with fail
  refine hK.out _ _ HB.out (fun hNext => ?_)
  clear hK K hHeld
  have hHeld := hNext
  clear hNext
  (try simp only [Act.put, z1', z2', z3'])
  refine wpAnyH_done (by kernel_rfl) ?_ _
  go_wp2
  exact bodyPost_ret (res_vw rfl rfl _ _ _ HZ.out rfl) rfl ⟨rfl, HB.out⟩
set_option maxHeartbeats 1000000 in
theorem fnew_no (k n2 t1 : Int) (h : ¬ mayN k n2 t1) (w : World) :
    Calls Try.prog 8 #[.int .i64 k, .int .i64 n2, .int .i64 t1] w fun e w' => e = .returned (.pointer none) ∧ w = w' := by
  unfold mayN at h
  go_enter Try.func8, Try.ntmps8
  by_cases h1 : k < 1
  · have g1 : decide (k < 1) = true := decide_eq_true h1
    go_wp2
    go_ret
    exact ⟨rfl, rfl⟩
  have g1 : decide (k < 1) = false := decide_eq_false h1
  by_cases h2 : 7 < k
  · have g2 : decide (7 < k) = true := decide_eq_true h2
    go_wp2
    go_ret
    exact ⟨rfl, rfl⟩
  have g2 : decide (7 < k) = false := decide_eq_false h2
  by_cases h3 : n2 < 0
  · have g3 : decide (n2 < 0) = true := decide_eq_true h3
    go_wp2
    go_ret
    exact ⟨rfl, rfl⟩
  have g3 : decide (n2 < 0) = false := decide_eq_false h3
  by_cases h4 : 255 < n2
  · have g4 : decide (255 < n2) = true := decide_eq_true h4
    go_wp2
    go_ret
    exact ⟨rfl, rfl⟩
  have g4 : decide (255 < n2) = false := decide_eq_false h4
  by_cases h5 : t1 < 1
  · have g5 : decide (t1 < 1) = true := decide_eq_true h5
    go_wp2
    go_ret
    exact ⟨rfl, rfl⟩
  have g5 : decide (t1 < 1) = false := decide_eq_false h5
  by_cases h6 : 255 < t1
  · have g6 : decide (255 < t1) = true := decide_eq_true h6
    go_wp2
    go_ret
    exact ⟨rfl, rfl⟩
  exact absurd ⟨by omega, by omega, by omega, by omega, by omega, by omega⟩ h
set_option maxHeartbeats 1000000 in
theorem fnew_ok (k n2 t1 : Nat) (h : mayN k n2 t1) (w : World) :
    Calls Try.prog 8 #[nm k, nm n2, nm t1] w fun e w' => e = .returned (ptr w.heap.size) ∧ PAt w' w.heap.size (Ps.new k n2 t1) (.slice none 0 0) ∧ Below w.heap.size w w' := by
  obtain ⟨h1, h2, h3, h4, h5, h6⟩ := h
  have g1 : decide ((k : Int) < 1) = false := decide_eq_false (by omega)
  have g2 : decide (7 < (k : Int)) = false := decide_eq_false (by omega)
  have g3 : decide ((n2 : Int) < 0) = false := decide_eq_false (by omega)
  have g4 : decide (255 < (n2 : Int)) = false := decide_eq_false (by omega)
  have g5 : decide ((t1 : Int) < 1) = false := decide_eq_false (by omega)
  have g6 : decide (255 < (t1 : Int)) = false := decide_eq_false (by omega)
  clear h1 h2 h3 h4 h5 h6
  go_enter Try.func8, Try.ntmps8
  go_wp2
  go_ret
  exact ⟨rfl, ⟨nest w [_] 0 _ rfl, qz_nil _ _⟩, nest_below w [_]⟩
end Go.Proofs.Ytkoaplmlabagnaa.Aq
