/-
  What the document's own Get of layer 8 answers. No condition.
-/
import Derived.Test.YtffahjlboakakaaDoorPnGet
import Derived.Deep.RegionHeld
namespace Go.Proofs.YtffahjlboakakaaDoor.Pn
open Go.RowKit Go.Proofs.YtffahjlboakakaaDoor.Base Go.Proofs.YtffahjlboakakaaDoor.Mem
theorem rget_results (tmps : Array Value) (W : World) (b : Nat) (p : Pr) (e : Int) (h : Cells W b p) (p2 : tmps[2]?.getD undef = ptr b) (p3 : tmps[3]?.getD undef = .int .i64 e) :
    (results Tryd.f31 tmps).run Tryd.prog W = .ok (.tuple #[pv p, .int .i64 e]) W := by
  obtain ⟨g0, g1, g2, g3, g4, g5, g6, g7⟩ := h
  simp [results, Tryd.results31, go_sem, p2, p3, g0, g1, g2, g3, g4, g5, g6, g7]
theorem rget_short (s : ByteArray) (h : s.size < 8) (w : World) :
    Calls Tryd.prog 31 #[.string s] w fun x w' => x = .returned (.tuple #[pv zero, .int .i64 20]) ∧ Below w.heap.size w w' := by
  have h' : (s.size : Int) < 8 := by omega
  go_enter Tryd.func31, Tryd.ntmps31
  go_wp2
  exact bodyPost_ret (rget_results _ _ w.heap.size zero 20 (cells_of (nest w [_] 0 _ rfl)) rfl rfl) rfl ⟨rfl, nest_below w [_]⟩
set_option maxHeartbeats 1000000 in
set_option maxRecDepth 100000 in
theorem rget_long (s : ByteArray) (h : 8 < s.size) (x0 x1 x2 x3 x4 x5 x6 x7 : Int)
    (i0 : ∀ W, (Instr.index 9 (.string s) (.int .i64 0)).run Tryd.prog W = .ok (.int .u8 x0) W)
    (i1 : ∀ W, (Instr.index 9 (.string s) (.int .i64 1)).run Tryd.prog W = .ok (.int .u8 x1) W)
    (i2 : ∀ W, (Instr.index 9 (.string s) (.int .i64 2)).run Tryd.prog W = .ok (.int .u8 x2) W)
    (i3 : ∀ W, (Instr.index 9 (.string s) (.int .i64 3)).run Tryd.prog W = .ok (.int .u8 x3) W)
    (i4 : ∀ W, (Instr.index 9 (.string s) (.int .i64 4)).run Tryd.prog W = .ok (.int .u8 x4) W)
    (i5 : ∀ W, (Instr.index 9 (.string s) (.int .i64 5)).run Tryd.prog W = .ok (.int .u8 x5) W)
    (i6 : ∀ W, (Instr.index 9 (.string s) (.int .i64 6)).run Tryd.prog W = .ok (.int .u8 x6) W)
    (i7 : ∀ W, (Instr.index 9 (.string s) (.int .i64 7)).run Tryd.prog W = .ok (.int .u8 x7) W)
    (h1 : 0 ≤ x1) (k1 : x1 < 256) (h3 : 0 ≤ x3) (k3 : x3 < 256) (h4 : 0 ≤ x4) (k4 : x4 < 256) (h5 : 0 ≤ x5) (k5 : x5 < 256) (h6 : 0 ≤ x6) (k6 : x6 < 256) (h7 : 0 ≤ x7) (k7 : x7 < 256) (w : World) :
    Calls Tryd.prog 31 #[.string s] w fun x w' => x = .returned (.tuple #[pv zero, .int .i64 70]) ∧ Below w.heap.size w w' := by
  have q1 : x1.tmod 16 = x1 % 16 := Int.tmod_eq_emod_of_nonneg h1
  have q2 : x1.tdiv 16 = x1 / 16 := Int.tdiv_eq_ediv_of_nonneg h1
  have a1 : IntKind.u8.wrap (x1 / 16) = x1 / 16 := by rw [IntKind.wrap_u8]; omega
  have a3 : IntKind.i64.wrap x3 = x3 := wraps_i64 _ (by omega) (by omega)
  have a4 : IntKind.i64.wrap x4 = x4 := wraps_i64 _ (by omega) (by omega)
  have a5 : IntKind.i64.wrap x5 = x5 := wraps_i64 _ (by omega) (by omega)
  have a6 : IntKind.i64.wrap x6 = x6 := wraps_i64 _ (by omega) (by omega)
  have a7 : IntKind.i64.wrap x7 = x7 := wraps_i64 _ (by omega) (by omega)
  have a8 : IntKind.i64.wrap (256 * x5) = 256 * x5 := wraps_i64 _ (by omega) (by omega)
  have a9 : IntKind.i64.wrap (x4 + 256 * x5) = x4 + 256 * x5 := wraps_i64 _ (by omega) (by omega)
  have HA := Lib.hid a1
  have h' : ¬ (s.size : Int) < 8 := by omega
  have h'' : (8 : Int) < s.size := by omega
  clear h
  go_enter Tryd.func31, Tryd.ntmps31
  go_wp2
  have HB0 : Hid (Below w.heap.size w (w.alloc (noO 33))) := Lib.hid (nest_below w [_])
  have HP : Hid ((w.alloc (noO 33)).heap[w.heap.size]? = some (noO 33)) := Lib.hid (nest w [_] 0 _ rfl)
  have hlt : w.heap.size < (w.alloc (noO 33)).heap.size := by simp
  generalize w.alloc (noO 33) = W at *
  refine wp_region_held_drew (S := fun w' => Below W.heap.size W w') (by kernel_rfl) (Below.refl _ _).drew (fun hHeld => ?_)
  refine' wpAnyH_take (i := 0) (oi := { dst := some 9, op := Go.Op.move (Go.Operand.tmp 0), type := 9, pos := "ref.go:39", after := #[], guard := none }) (v := _) rfl (by kernel_rfl) (by kernel_rfl) (by kernel_rfl) (fun _ _ _ h => h) (Or.inl ⟨by rfl, ?hy1⟩) (by assumption) ?hr1
  case hy1 => (intro _ hSw; (try dsimp only at hSw); go_simp <;> with_reducible rfl)
  simp only [Act.put, List.setIfInBounds_toArray, List.set_cons_zero, List.set_cons_succ]
  refine' wpAnyH_take (i := 1) (oi := { dst := some 10, op := Go.Op.index 9 (Go.Operand.tmp 9) (Go.Operand.const (Go.Value.int Go.IntKind.i64 0)), type := 5, pos := "ref.go:39", after := #[{ on := 0, ground := Go.Ground.data }], guard := none }) (v := _) rfl (by kernel_rfl) (by kernel_rfl) (by kernel_rfl) (fun _ _ _ h => h) (Or.inl ⟨by rfl, ?hy2⟩) (by assumption) ?hr2
  case hy2 => (intro _ hSw; (try dsimp only at hSw); go_simp <;> with_reducible rfl)
  simp only [Act.put, List.setIfInBounds_toArray, List.set_cons_zero, List.set_cons_succ]
  refine' wpAnyH_take (i := 2) (oi := { dst := some 11, op := Go.Op.move (Go.Operand.tmp 0), type := 9, pos := "ref.go:39", after := #[], guard := none }) (v := _) rfl (by kernel_rfl) (by kernel_rfl) (by kernel_rfl) (fun _ _ _ h => h) (Or.inl ⟨by rfl, ?hy3⟩) (by assumption) ?hr3
  case hy3 => (intro _ hSw; (try dsimp only at hSw); go_simp <;> with_reducible rfl)
  simp only [Act.put, List.setIfInBounds_toArray, List.set_cons_zero, List.set_cons_succ]
  refine' wpAnyH_take (i := 3) (oi := { dst := some 12, op := Go.Op.index 9 (Go.Operand.tmp 11) (Go.Operand.const (Go.Value.int Go.IntKind.i64 1)), type := 5, pos := "ref.go:39", after := #[{ on := 2, ground := Go.Ground.data }], guard := none }) (v := _) rfl (by kernel_rfl) (by kernel_rfl) (by kernel_rfl) (fun _ _ _ h => h) (Or.inl ⟨by rfl, ?hy4⟩) (by assumption) ?hr4
  case hy4 => (intro _ hSw; (try dsimp only at hSw); go_simp <;> with_reducible rfl)
  simp only [Act.put, List.setIfInBounds_toArray, List.set_cons_zero, List.set_cons_succ]
  refine' wpAnyH_take (i := 4) (oi := { dst := some 13, op := Go.Op.binOp Go.BinOp.rem 5 (Go.Operand.tmp 12) (Go.Operand.const (Go.Value.int Go.IntKind.u8 16)) 5, type := 5, pos := "ref.go:39", after := #[{ on := 3, ground := Go.Ground.data }], guard := none }) (v := _) rfl (by kernel_rfl) (by kernel_rfl) (by kernel_rfl) (fun _ _ _ h => h) (Or.inl ⟨by rfl, ?hy5⟩) (by assumption) ?hr5
  case hy5 => (intro _ hSw; (try dsimp only at hSw); go_simp <;> with_reducible rfl)
  simp only [Act.put, List.setIfInBounds_toArray, List.set_cons_zero, List.set_cons_succ]
  refine' wpAnyH_take (i := 5) (oi := { dst := some 14, op := Go.Op.move (Go.Operand.tmp 0), type := 9, pos := "ref.go:39", after := #[], guard := none }) (v := _) rfl (by kernel_rfl) (by kernel_rfl) (by kernel_rfl) (fun _ _ _ h => h) (Or.inl ⟨by rfl, ?hy6⟩) (by assumption) ?hr6
  case hy6 => (intro _ hSw; (try dsimp only at hSw); go_simp <;> with_reducible rfl)
  simp only [Act.put, List.setIfInBounds_toArray, List.set_cons_zero, List.set_cons_succ]
  refine' wpAnyH_take (i := 6) (oi := { dst := some 15, op := Go.Op.index 9 (Go.Operand.tmp 14) (Go.Operand.const (Go.Value.int Go.IntKind.i64 1)), type := 5, pos := "ref.go:39", after := #[{ on := 5, ground := Go.Ground.data }], guard := none }) (v := _) rfl (by kernel_rfl) (by kernel_rfl) (by kernel_rfl) (fun _ _ _ h => h) (Or.inl ⟨by rfl, ?hy7⟩) (by assumption) ?hr7
  case hy7 => (intro _ hSw; (try dsimp only at hSw); go_simp <;> with_reducible rfl)
  simp only [Act.put, List.setIfInBounds_toArray, List.set_cons_zero, List.set_cons_succ]
  refine' wpAnyH_take (i := 7) (oi := { dst := some 16, op := Go.Op.binOp Go.BinOp.quo 5 (Go.Operand.tmp 15) (Go.Operand.const (Go.Value.int Go.IntKind.u8 16)) 5, type := 5, pos := "ref.go:39", after := #[{ on := 6, ground := Go.Ground.data }], guard := none }) (v := _) rfl (by kernel_rfl) (by kernel_rfl) (by kernel_rfl) (fun _ _ _ h => h) (Or.inl ⟨by rfl, ?hy8⟩) (by assumption) ?hr8
  case hy8 => (intro _ hSw; (try dsimp only at hSw); go_simp <;> with_reducible rfl)
  simp only [Act.put, List.setIfInBounds_toArray, List.set_cons_zero, List.set_cons_succ]
  refine' wpAnyH_take (i := 8) (oi := { dst := some 17, op := Go.Op.move (Go.Operand.tmp 0), type := 9, pos := "ref.go:39", after := #[], guard := none }) (v := _) rfl (by kernel_rfl) (by kernel_rfl) (by kernel_rfl) (fun _ _ _ h => h) (Or.inl ⟨by rfl, ?hy9⟩) (by assumption) ?hr9
  case hy9 => (intro _ hSw; (try dsimp only at hSw); go_simp <;> with_reducible rfl)
  simp only [Act.put, List.setIfInBounds_toArray, List.set_cons_zero, List.set_cons_succ]
  refine' wpAnyH_take (i := 9) (oi := { dst := some 18, op := Go.Op.index 9 (Go.Operand.tmp 17) (Go.Operand.const (Go.Value.int Go.IntKind.i64 2)), type := 5, pos := "ref.go:39", after := #[{ on := 8, ground := Go.Ground.data }], guard := none }) (v := _) rfl (by kernel_rfl) (by kernel_rfl) (by kernel_rfl) (fun _ _ _ h => h) (Or.inl ⟨by rfl, ?hy10⟩) (by assumption) ?hr10
  case hy10 => (intro _ hSw; (try dsimp only at hSw); go_simp <;> with_reducible rfl)
  simp only [Act.put, List.setIfInBounds_toArray, List.set_cons_zero, List.set_cons_succ]
  refine' wpAnyH_take (i := 10) (oi := { dst := some 19, op := Go.Op.move (Go.Operand.tmp 0), type := 9, pos := "ref.go:39", after := #[], guard := none }) (v := _) rfl (by kernel_rfl) (by kernel_rfl) (by kernel_rfl) (fun _ _ _ h => h) (Or.inl ⟨by rfl, ?hy11⟩) (by assumption) ?hr11
  case hy11 => (intro _ hSw; (try dsimp only at hSw); go_simp <;> with_reducible rfl)
  simp only [Act.put, List.setIfInBounds_toArray, List.set_cons_zero, List.set_cons_succ]
  refine' wpAnyH_take (i := 11) (oi := { dst := some 20, op := Go.Op.index 9 (Go.Operand.tmp 19) (Go.Operand.const (Go.Value.int Go.IntKind.i64 3)), type := 5, pos := "ref.go:39", after := #[{ on := 10, ground := Go.Ground.data }], guard := none }) (v := _) rfl (by kernel_rfl) (by kernel_rfl) (by kernel_rfl) (fun _ _ _ h => h) (Or.inl ⟨by rfl, ?hy12⟩) (by assumption) ?hr12
  case hy12 => (intro _ hSw; (try dsimp only at hSw); go_simp <;> with_reducible rfl)
  simp only [Act.put, List.setIfInBounds_toArray, List.set_cons_zero, List.set_cons_succ]
  refine' wpAnyH_take (i := 12) (oi := { dst := some 21, op := Go.Op.convert 5 3 (Go.Operand.tmp 20), type := 3, pos := "ref.go:39", after := #[{ on := 11, ground := Go.Ground.data }], guard := none }) (v := _) rfl (by kernel_rfl) (by kernel_rfl) (by kernel_rfl) (fun _ _ _ h => h) (Or.inl ⟨by rfl, ?hy13⟩) (by assumption) ?hr13
  case hy13 => (intro _ hSw; (try dsimp only at hSw); go_simp <;> with_reducible rfl)
  simp only [Act.put, List.setIfInBounds_toArray, List.set_cons_zero, List.set_cons_succ]
  refine' wpAnyH_take (i := 13) (oi := { dst := some 22, op := Go.Op.move (Go.Operand.tmp 0), type := 9, pos := "ref.go:39", after := #[], guard := none }) (v := _) rfl (by kernel_rfl) (by kernel_rfl) (by kernel_rfl) (fun _ _ _ h => h) (Or.inl ⟨by rfl, ?hy14⟩) (by assumption) ?hr14
  case hy14 => (intro _ hSw; (try dsimp only at hSw); go_simp <;> with_reducible rfl)
  simp only [Act.put, List.setIfInBounds_toArray, List.set_cons_zero, List.set_cons_succ]
  refine' wpAnyH_take (i := 14) (oi := { dst := some 23, op := Go.Op.index 9 (Go.Operand.tmp 22) (Go.Operand.const (Go.Value.int Go.IntKind.i64 4)), type := 5, pos := "ref.go:39", after := #[{ on := 13, ground := Go.Ground.data }], guard := none }) (v := _) rfl (by kernel_rfl) (by kernel_rfl) (by kernel_rfl) (fun _ _ _ h => h) (Or.inl ⟨by rfl, ?hy15⟩) (by assumption) ?hr15
  case hy15 => (intro _ hSw; (try dsimp only at hSw); go_simp <;> with_reducible rfl)
  simp only [Act.put, List.setIfInBounds_toArray, List.set_cons_zero, List.set_cons_succ]
  refine' wpAnyH_take (i := 15) (oi := { dst := some 24, op := Go.Op.convert 5 3 (Go.Operand.tmp 23), type := 3, pos := "ref.go:39", after := #[{ on := 14, ground := Go.Ground.data }], guard := none }) (v := _) rfl (by kernel_rfl) (by kernel_rfl) (by kernel_rfl) (fun _ _ _ h => h) (Or.inl ⟨by rfl, ?hy16⟩) (by assumption) ?hr16
  case hy16 => (intro _ hSw; (try dsimp only at hSw); go_simp <;> with_reducible rfl)
  simp only [Act.put, List.setIfInBounds_toArray, List.set_cons_zero, List.set_cons_succ]
  refine' wpAnyH_take (i := 16) (oi := { dst := some 25, op := Go.Op.move (Go.Operand.tmp 0), type := 9, pos := "ref.go:39", after := #[], guard := none }) (v := _) rfl (by kernel_rfl) (by kernel_rfl) (by kernel_rfl) (fun _ _ _ h => h) (Or.inl ⟨by rfl, ?hy17⟩) (by assumption) ?hr17
  case hy17 => (intro _ hSw; (try dsimp only at hSw); go_simp <;> with_reducible rfl)
  simp only [Act.put, List.setIfInBounds_toArray, List.set_cons_zero, List.set_cons_succ]
  refine' wpAnyH_take (i := 17) (oi := { dst := some 26, op := Go.Op.index 9 (Go.Operand.tmp 25) (Go.Operand.const (Go.Value.int Go.IntKind.i64 5)), type := 5, pos := "ref.go:39", after := #[{ on := 16, ground := Go.Ground.data }], guard := none }) (v := _) rfl (by kernel_rfl) (by kernel_rfl) (by kernel_rfl) (fun _ _ _ h => h) (Or.inl ⟨by rfl, ?hy18⟩) (by assumption) ?hr18
  case hy18 => (intro _ hSw; (try dsimp only at hSw); go_simp <;> with_reducible rfl)
  simp only [Act.put, List.setIfInBounds_toArray, List.set_cons_zero, List.set_cons_succ]
  refine' wpAnyH_take (i := 18) (oi := { dst := some 27, op := Go.Op.convert 5 3 (Go.Operand.tmp 26), type := 3, pos := "ref.go:39", after := #[{ on := 17, ground := Go.Ground.data }], guard := none }) (v := _) rfl (by kernel_rfl) (by kernel_rfl) (by kernel_rfl) (fun _ _ _ h => h) (Or.inl ⟨by rfl, ?hy19⟩) (by assumption) ?hr19
  case hy19 => (intro _ hSw; (try dsimp only at hSw); go_simp <;> with_reducible rfl)
  simp only [Act.put, List.setIfInBounds_toArray, List.set_cons_zero, List.set_cons_succ]
  refine' wpAnyH_take (i := 19) (oi := { dst := some 28, op := Go.Op.binOp Go.BinOp.mul 3 (Go.Operand.const (Go.Value.int Go.IntKind.i64 256)) (Go.Operand.tmp 27) 3, type := 3, pos := "ref.go:39", after := #[{ on := 18, ground := Go.Ground.data }], guard := none }) (v := _) rfl (by kernel_rfl) (by kernel_rfl) (by kernel_rfl) (fun _ _ _ h => h) (Or.inl ⟨by rfl, ?hy20⟩) (by assumption) ?hr20
  case hy20 => (intro _ hSw; (try dsimp only at hSw); go_simp <;> with_reducible rfl)
  simp only [Act.put, List.setIfInBounds_toArray, List.set_cons_zero, List.set_cons_succ]
  refine' wpAnyH_take (i := 20) (oi := { dst := some 29, op := Go.Op.binOp Go.BinOp.add 3 (Go.Operand.tmp 24) (Go.Operand.tmp 28) 3, type := 3, pos := "ref.go:39", after := #[{ on := 15, ground := Go.Ground.data }, { on := 19, ground := Go.Ground.data }], guard := none }) (v := _) rfl (by kernel_rfl) (by kernel_rfl) (by kernel_rfl) (fun _ _ _ h => h) (Or.inl ⟨by rfl, ?hy21⟩) (by assumption) ?hr21
  case hy21 => (intro _ hSw; (try dsimp only at hSw); go_simp <;> with_reducible rfl)
  simp only [Act.put, List.setIfInBounds_toArray, List.set_cons_zero, List.set_cons_succ]
  refine' wpAnyH_take (i := 21) (oi := { dst := some 30, op := Go.Op.move (Go.Operand.tmp 0), type := 9, pos := "ref.go:39", after := #[], guard := none }) (v := _) rfl (by kernel_rfl) (by kernel_rfl) (by kernel_rfl) (fun _ _ _ h => h) (Or.inl ⟨by rfl, ?hy22⟩) (by assumption) ?hr22
  case hy22 => (intro _ hSw; (try dsimp only at hSw); go_simp <;> with_reducible rfl)
  simp only [Act.put, List.setIfInBounds_toArray, List.set_cons_zero, List.set_cons_succ]
  refine' wpAnyH_take (i := 22) (oi := { dst := some 31, op := Go.Op.index 9 (Go.Operand.tmp 30) (Go.Operand.const (Go.Value.int Go.IntKind.i64 6)), type := 5, pos := "ref.go:39", after := #[{ on := 21, ground := Go.Ground.data }], guard := none }) (v := _) rfl (by kernel_rfl) (by kernel_rfl) (by kernel_rfl) (fun _ _ _ h => h) (Or.inl ⟨by rfl, ?hy23⟩) (by assumption) ?hr23
  case hy23 => (intro _ hSw; (try dsimp only at hSw); go_simp <;> with_reducible rfl)
  simp only [Act.put, List.setIfInBounds_toArray, List.set_cons_zero, List.set_cons_succ]
  refine' wpAnyH_take (i := 23) (oi := { dst := some 32, op := Go.Op.convert 5 3 (Go.Operand.tmp 31), type := 3, pos := "ref.go:39", after := #[{ on := 22, ground := Go.Ground.data }], guard := none }) (v := _) rfl (by kernel_rfl) (by kernel_rfl) (by kernel_rfl) (fun _ _ _ h => h) (Or.inl ⟨by rfl, ?hy24⟩) (by assumption) ?hr24
  case hy24 => (intro _ hSw; (try dsimp only at hSw); go_simp <;> with_reducible rfl)
  simp only [Act.put, List.setIfInBounds_toArray, List.set_cons_zero, List.set_cons_succ]
  refine' wpAnyH_take (i := 24) (oi := { dst := some 33, op := Go.Op.move (Go.Operand.tmp 0), type := 9, pos := "ref.go:39", after := #[], guard := none }) (v := _) rfl (by kernel_rfl) (by kernel_rfl) (by kernel_rfl) (fun _ _ _ h => h) (Or.inl ⟨by rfl, ?hy25⟩) (by assumption) ?hr25
  case hy25 => (intro _ hSw; (try dsimp only at hSw); go_simp <;> with_reducible rfl)
  simp only [Act.put, List.setIfInBounds_toArray, List.set_cons_zero, List.set_cons_succ]
  refine' wpAnyH_take (i := 25) (oi := { dst := some 34, op := Go.Op.index 9 (Go.Operand.tmp 33) (Go.Operand.const (Go.Value.int Go.IntKind.i64 7)), type := 5, pos := "ref.go:39", after := #[{ on := 24, ground := Go.Ground.data }], guard := none }) (v := _) rfl (by kernel_rfl) (by kernel_rfl) (by kernel_rfl) (fun _ _ _ h => h) (Or.inl ⟨by rfl, ?hy26⟩) (by assumption) ?hr26
  case hy26 => (intro _ hSw; (try dsimp only at hSw); go_simp <;> with_reducible rfl)
  simp only [Act.put, List.setIfInBounds_toArray, List.set_cons_zero, List.set_cons_succ]
  refine' wpAnyH_take (i := 26) (oi := { dst := some 35, op := Go.Op.convert 5 3 (Go.Operand.tmp 34), type := 3, pos := "ref.go:39", after := #[{ on := 25, ground := Go.Ground.data }], guard := none }) (v := _) rfl (by kernel_rfl) (by kernel_rfl) (by kernel_rfl) (fun _ _ _ h => h) (Or.inl ⟨by rfl, ?hy27⟩) (by assumption) ?hr27
  case hy27 => (intro _ hSw; (try dsimp only at hSw); go_simp <;> with_reducible rfl)
  simp only [Act.put, List.setIfInBounds_toArray, List.set_cons_zero, List.set_cons_succ]
  refine' wpAnyH_take (i := 27) (oi := { dst := some 36, op := Go.Op.build 33 #[(0, Go.Operand.tmp 10), (1, Go.Operand.tmp 13), (2, Go.Operand.tmp 16), (3, Go.Operand.tmp 18), (4, Go.Operand.tmp 21), (5, Go.Operand.tmp 29), (6, Go.Operand.tmp 32), (7, Go.Operand.tmp 35)], type := 33, pos := "ref.go:39", after := #[{ on := 1, ground := Go.Ground.data }, { on := 4, ground := Go.Ground.data }, { on := 7, ground := Go.Ground.data }, { on := 9, ground := Go.Ground.data }, { on := 12, ground := Go.Ground.data }, { on := 20, ground := Go.Ground.data }, { on := 23, ground := Go.Ground.data }, { on := 26, ground := Go.Ground.data }], guard := none }) (v := _) rfl (by kernel_rfl) (by kernel_rfl) (by kernel_rfl) (fun _ _ _ h => h) (Or.inl ⟨by rfl, ?hy28⟩) (by assumption) ?hr28
  case hy28 => (intro _ hSw; (try dsimp only at hSw); go_simp <;> with_reducible rfl)
  simp only [Act.put, List.setIfInBounds_toArray, List.set_cons_zero, List.set_cons_succ]
  refine wpAnyH_ready (rs := [28]) (by kernel_rfl) (by simp) ?_
  refine AllReadyH.cons (o := { dst := some 4, op := Go.Op.alloc 33, type := 0, pos := "ref.go:39", after := #[], guard := none }) rfl (fun K hK => ?_) AllReadyH.nil
  go_simp
  refine hK.out _ _ ((Below.refl W.heap.size W).drew.alloc (Nat.le_refl _) _) (fun hHeld => ?_)
  clear hK K
  (try simp only [Act.put, List.setIfInBounds_toArray, List.set_cons_zero, List.set_cons_succ])
  refine wpAnyH_ready (rs := [29]) (by kernel_rfl) (by simp) ?_
  refine AllReadyH.cons (o := { dst := none, op := Go.Op.store 33 (Go.Operand.tmp 4) (Go.Operand.tmp 36), type := 0, pos := "ref.go:39", after := #[{ on := 28, ground := Go.Ground.data }, { on := 27, ground := Go.Ground.data }, { on := 0, ground := Go.Ground.phase }, { on := 1, ground := Go.Ground.phase }, { on := 2, ground := Go.Ground.phase }, { on := 3, ground := Go.Ground.phase }, { on := 4, ground := Go.Ground.phase }, { on := 5, ground := Go.Ground.phase }, { on := 6, ground := Go.Ground.phase }, { on := 7, ground := Go.Ground.phase }, { on := 8, ground := Go.Ground.phase }, { on := 9, ground := Go.Ground.phase }, { on := 10, ground := Go.Ground.phase }, { on := 11, ground := Go.Ground.phase }, { on := 12, ground := Go.Ground.phase }, { on := 13, ground := Go.Ground.phase }, { on := 14, ground := Go.Ground.phase }, { on := 15, ground := Go.Ground.phase }, { on := 16, ground := Go.Ground.phase }, { on := 17, ground := Go.Ground.phase }, { on := 18, ground := Go.Ground.phase }, { on := 19, ground := Go.Ground.phase }, { on := 20, ground := Go.Ground.phase }, { on := 21, ground := Go.Ground.phase }, { on := 22, ground := Go.Ground.phase }, { on := 23, ground := Go.Ground.phase }, { on := 24, ground := Go.Ground.phase }, { on := 25, ground := Go.Ground.phase }, { on := 26, ground := Go.Ground.phase }, { on := 27, ground := Go.Ground.phase }, { on := 28, ground := Go.Ground.phase }], guard := none }) rfl (fun K hK => ?_) AllReadyH.nil
  go_simp
  refine hK.out _ _ ?_ (fun hHeld => ?_)
  clear hK K
  (try simp only [Act.put, List.setIfInBounds_toArray, List.set_cons_zero, List.set_cons_succ])
  · exact ((Below.refl W.heap.size W).alloc (Nat.le_refl _) _).drew
  refine wpAnyH_done (by kernel_rfl) ?_ _
  have HB1 : Hid (Below W.heap.size W ((W.alloc (pO ⟨x0, x1 % 16, x1 / 16, x2, x3, x4 + 256 * x5, x6, x7⟩ 33)).drew)) := Lib.hid ((Below.refl W.heap.size W).alloc (Nat.le_refl _) _).drew
  have hg : ((W.alloc (pO ⟨x0, x1 % 16, x1 / 16, x2, x3, x4 + 256 * x5, x6, x7⟩ 33)).drew).heap[W.heap.size]? = some (pO ⟨x0, x1 % 16, x1 / 16, x2, x3, x4 + 256 * x5, x6, x7⟩ 33) := nest W [_] 0 _ rfl
  clear hHeld
  generalize (W.alloc (pO ⟨x0, x1 % 16, x1 / 16, x2, x3, x4 + 256 * x5, x6, x7⟩ 33)).drew = V at *
  have HF := Lib.hid (stays HP.out HB1.out)
  have HG := Lib.hid hg
  have HB := Lib.hid (below_on HB0.out (HB1.out.mono (Nat.le_refl _)))
  clear hg a1 a3 a4 a5 a6 a7 a8 a9
  obtain ⟨f0, f1, f2, f3, f4, f5, f6, f7⟩ := no_frees HF.out
  obtain ⟨d0, d1, d2, d3, d4, d5, d6, d7⟩ := no_cells HF.out
  go_wp2
  exact bodyPost_ret (rget_results _ _ w.heap.size zero 70 (cells_of (set8_at HF.out _ _ _ _ _ _ _ _)) rfl rfl) rfl ⟨rfl, set8 HB.out (Nat.le_refl _) _ _ _ _ _ _ _ _⟩
set_option maxHeartbeats 1000000 in
set_option maxRecDepth 100000 in
theorem rget_bad (s : ByteArray) (h : s.size = 8) (x0 x1 x2 x3 x4 x5 x6 x7 : Int)
    (i0 : ∀ W, (Instr.index 9 (.string s) (.int .i64 0)).run Tryd.prog W = .ok (.int .u8 x0) W)
    (i1 : ∀ W, (Instr.index 9 (.string s) (.int .i64 1)).run Tryd.prog W = .ok (.int .u8 x1) W)
    (i2 : ∀ W, (Instr.index 9 (.string s) (.int .i64 2)).run Tryd.prog W = .ok (.int .u8 x2) W)
    (i3 : ∀ W, (Instr.index 9 (.string s) (.int .i64 3)).run Tryd.prog W = .ok (.int .u8 x3) W)
    (i4 : ∀ W, (Instr.index 9 (.string s) (.int .i64 4)).run Tryd.prog W = .ok (.int .u8 x4) W)
    (i5 : ∀ W, (Instr.index 9 (.string s) (.int .i64 5)).run Tryd.prog W = .ok (.int .u8 x5) W)
    (i6 : ∀ W, (Instr.index 9 (.string s) (.int .i64 6)).run Tryd.prog W = .ok (.int .u8 x6) W)
    (i7 : ∀ W, (Instr.index 9 (.string s) (.int .i64 7)).run Tryd.prog W = .ok (.int .u8 x7) W)
    (h1 : 0 ≤ x1) (k1 : x1 < 256) (h3 : 0 ≤ x3) (k3 : x3 < 256) (h4 : 0 ≤ x4) (k4 : x4 < 256) (h5 : 0 ≤ x5) (k5 : x5 < 256) (h6 : 0 ≤ x6) (k6 : x6 < 256) (h7 : 0 ≤ x7) (k7 : x7 < 256) (CM : ∀ w, Calls Tryd.prog 25 #[pv ⟨x0, x1 % 16, x1 / 16, x2, x3, x4 + 256 * x5, x6, x7⟩] w fun x w' => x = .returned (.bool false) ∧ Below w.heap.size w w') (w : World) :
    Calls Tryd.prog 31 #[.string s] w fun x w' => x = .returned (.tuple #[pv zero, .int .i64 70]) ∧ Below w.heap.size w w' := by
  have q1 : x1.tmod 16 = x1 % 16 := Int.tmod_eq_emod_of_nonneg h1
  have q2 : x1.tdiv 16 = x1 / 16 := Int.tdiv_eq_ediv_of_nonneg h1
  have a1 : IntKind.u8.wrap (x1 / 16) = x1 / 16 := by rw [IntKind.wrap_u8]; omega
  have a3 : IntKind.i64.wrap x3 = x3 := wraps_i64 _ (by omega) (by omega)
  have a4 : IntKind.i64.wrap x4 = x4 := wraps_i64 _ (by omega) (by omega)
  have a5 : IntKind.i64.wrap x5 = x5 := wraps_i64 _ (by omega) (by omega)
  have a6 : IntKind.i64.wrap x6 = x6 := wraps_i64 _ (by omega) (by omega)
  have a7 : IntKind.i64.wrap x7 = x7 := wraps_i64 _ (by omega) (by omega)
  have a8 : IntKind.i64.wrap (256 * x5) = 256 * x5 := wraps_i64 _ (by omega) (by omega)
  have a9 : IntKind.i64.wrap (x4 + 256 * x5) = x4 + 256 * x5 := wraps_i64 _ (by omega) (by omega)
  have HA := Lib.hid a1
  have h' : ¬ (s.size : Int) < 8 := by omega
  have h'' : ¬ (8 : Int) < s.size := by omega
  clear h
  go_enter Tryd.func31, Tryd.ntmps31
  go_wp2
  have HB0 : Hid (Below w.heap.size w (w.alloc (noO 33))) := Lib.hid (nest_below w [_])
  have HP : Hid ((w.alloc (noO 33)).heap[w.heap.size]? = some (noO 33)) := Lib.hid (nest w [_] 0 _ rfl)
  have hlt : w.heap.size < (w.alloc (noO 33)).heap.size := by simp
  generalize w.alloc (noO 33) = W at *
  refine wp_region_held_drew (S := fun w' => Below W.heap.size W w') (by kernel_rfl) (Below.refl _ _).drew (fun hHeld => ?_)
  refine' wpAnyH_take (i := 0) (oi := { dst := some 9, op := Go.Op.move (Go.Operand.tmp 0), type := 9, pos := "ref.go:39", after := #[], guard := none }) (v := _) rfl (by kernel_rfl) (by kernel_rfl) (by kernel_rfl) (fun _ _ _ h => h) (Or.inl ⟨by rfl, ?hy29⟩) (by assumption) ?hr29
  case hy29 => (intro _ hSw; (try dsimp only at hSw); go_simp <;> with_reducible rfl)
  simp only [Act.put, List.setIfInBounds_toArray, List.set_cons_zero, List.set_cons_succ]
  refine' wpAnyH_take (i := 1) (oi := { dst := some 10, op := Go.Op.index 9 (Go.Operand.tmp 9) (Go.Operand.const (Go.Value.int Go.IntKind.i64 0)), type := 5, pos := "ref.go:39", after := #[{ on := 0, ground := Go.Ground.data }], guard := none }) (v := _) rfl (by kernel_rfl) (by kernel_rfl) (by kernel_rfl) (fun _ _ _ h => h) (Or.inl ⟨by rfl, ?hy30⟩) (by assumption) ?hr30
  case hy30 => (intro _ hSw; (try dsimp only at hSw); go_simp <;> with_reducible rfl)
  simp only [Act.put, List.setIfInBounds_toArray, List.set_cons_zero, List.set_cons_succ]
  refine' wpAnyH_take (i := 2) (oi := { dst := some 11, op := Go.Op.move (Go.Operand.tmp 0), type := 9, pos := "ref.go:39", after := #[], guard := none }) (v := _) rfl (by kernel_rfl) (by kernel_rfl) (by kernel_rfl) (fun _ _ _ h => h) (Or.inl ⟨by rfl, ?hy31⟩) (by assumption) ?hr31
  case hy31 => (intro _ hSw; (try dsimp only at hSw); go_simp <;> with_reducible rfl)
  simp only [Act.put, List.setIfInBounds_toArray, List.set_cons_zero, List.set_cons_succ]
  refine' wpAnyH_take (i := 3) (oi := { dst := some 12, op := Go.Op.index 9 (Go.Operand.tmp 11) (Go.Operand.const (Go.Value.int Go.IntKind.i64 1)), type := 5, pos := "ref.go:39", after := #[{ on := 2, ground := Go.Ground.data }], guard := none }) (v := _) rfl (by kernel_rfl) (by kernel_rfl) (by kernel_rfl) (fun _ _ _ h => h) (Or.inl ⟨by rfl, ?hy32⟩) (by assumption) ?hr32
  case hy32 => (intro _ hSw; (try dsimp only at hSw); go_simp <;> with_reducible rfl)
  simp only [Act.put, List.setIfInBounds_toArray, List.set_cons_zero, List.set_cons_succ]
  refine' wpAnyH_take (i := 4) (oi := { dst := some 13, op := Go.Op.binOp Go.BinOp.rem 5 (Go.Operand.tmp 12) (Go.Operand.const (Go.Value.int Go.IntKind.u8 16)) 5, type := 5, pos := "ref.go:39", after := #[{ on := 3, ground := Go.Ground.data }], guard := none }) (v := _) rfl (by kernel_rfl) (by kernel_rfl) (by kernel_rfl) (fun _ _ _ h => h) (Or.inl ⟨by rfl, ?hy33⟩) (by assumption) ?hr33
  case hy33 => (intro _ hSw; (try dsimp only at hSw); go_simp <;> with_reducible rfl)
  simp only [Act.put, List.setIfInBounds_toArray, List.set_cons_zero, List.set_cons_succ]
  refine' wpAnyH_take (i := 5) (oi := { dst := some 14, op := Go.Op.move (Go.Operand.tmp 0), type := 9, pos := "ref.go:39", after := #[], guard := none }) (v := _) rfl (by kernel_rfl) (by kernel_rfl) (by kernel_rfl) (fun _ _ _ h => h) (Or.inl ⟨by rfl, ?hy34⟩) (by assumption) ?hr34
  case hy34 => (intro _ hSw; (try dsimp only at hSw); go_simp <;> with_reducible rfl)
  simp only [Act.put, List.setIfInBounds_toArray, List.set_cons_zero, List.set_cons_succ]
  refine' wpAnyH_take (i := 6) (oi := { dst := some 15, op := Go.Op.index 9 (Go.Operand.tmp 14) (Go.Operand.const (Go.Value.int Go.IntKind.i64 1)), type := 5, pos := "ref.go:39", after := #[{ on := 5, ground := Go.Ground.data }], guard := none }) (v := _) rfl (by kernel_rfl) (by kernel_rfl) (by kernel_rfl) (fun _ _ _ h => h) (Or.inl ⟨by rfl, ?hy35⟩) (by assumption) ?hr35
  case hy35 => (intro _ hSw; (try dsimp only at hSw); go_simp <;> with_reducible rfl)
  simp only [Act.put, List.setIfInBounds_toArray, List.set_cons_zero, List.set_cons_succ]
  refine' wpAnyH_take (i := 7) (oi := { dst := some 16, op := Go.Op.binOp Go.BinOp.quo 5 (Go.Operand.tmp 15) (Go.Operand.const (Go.Value.int Go.IntKind.u8 16)) 5, type := 5, pos := "ref.go:39", after := #[{ on := 6, ground := Go.Ground.data }], guard := none }) (v := _) rfl (by kernel_rfl) (by kernel_rfl) (by kernel_rfl) (fun _ _ _ h => h) (Or.inl ⟨by rfl, ?hy36⟩) (by assumption) ?hr36
  case hy36 => (intro _ hSw; (try dsimp only at hSw); go_simp <;> with_reducible rfl)
  simp only [Act.put, List.setIfInBounds_toArray, List.set_cons_zero, List.set_cons_succ]
  refine' wpAnyH_take (i := 8) (oi := { dst := some 17, op := Go.Op.move (Go.Operand.tmp 0), type := 9, pos := "ref.go:39", after := #[], guard := none }) (v := _) rfl (by kernel_rfl) (by kernel_rfl) (by kernel_rfl) (fun _ _ _ h => h) (Or.inl ⟨by rfl, ?hy37⟩) (by assumption) ?hr37
  case hy37 => (intro _ hSw; (try dsimp only at hSw); go_simp <;> with_reducible rfl)
  simp only [Act.put, List.setIfInBounds_toArray, List.set_cons_zero, List.set_cons_succ]
  refine' wpAnyH_take (i := 9) (oi := { dst := some 18, op := Go.Op.index 9 (Go.Operand.tmp 17) (Go.Operand.const (Go.Value.int Go.IntKind.i64 2)), type := 5, pos := "ref.go:39", after := #[{ on := 8, ground := Go.Ground.data }], guard := none }) (v := _) rfl (by kernel_rfl) (by kernel_rfl) (by kernel_rfl) (fun _ _ _ h => h) (Or.inl ⟨by rfl, ?hy38⟩) (by assumption) ?hr38
  case hy38 => (intro _ hSw; (try dsimp only at hSw); go_simp <;> with_reducible rfl)
  simp only [Act.put, List.setIfInBounds_toArray, List.set_cons_zero, List.set_cons_succ]
  refine' wpAnyH_take (i := 10) (oi := { dst := some 19, op := Go.Op.move (Go.Operand.tmp 0), type := 9, pos := "ref.go:39", after := #[], guard := none }) (v := _) rfl (by kernel_rfl) (by kernel_rfl) (by kernel_rfl) (fun _ _ _ h => h) (Or.inl ⟨by rfl, ?hy39⟩) (by assumption) ?hr39
  case hy39 => (intro _ hSw; (try dsimp only at hSw); go_simp <;> with_reducible rfl)
  simp only [Act.put, List.setIfInBounds_toArray, List.set_cons_zero, List.set_cons_succ]
  refine' wpAnyH_take (i := 11) (oi := { dst := some 20, op := Go.Op.index 9 (Go.Operand.tmp 19) (Go.Operand.const (Go.Value.int Go.IntKind.i64 3)), type := 5, pos := "ref.go:39", after := #[{ on := 10, ground := Go.Ground.data }], guard := none }) (v := _) rfl (by kernel_rfl) (by kernel_rfl) (by kernel_rfl) (fun _ _ _ h => h) (Or.inl ⟨by rfl, ?hy40⟩) (by assumption) ?hr40
  case hy40 => (intro _ hSw; (try dsimp only at hSw); go_simp <;> with_reducible rfl)
  simp only [Act.put, List.setIfInBounds_toArray, List.set_cons_zero, List.set_cons_succ]
  refine' wpAnyH_take (i := 12) (oi := { dst := some 21, op := Go.Op.convert 5 3 (Go.Operand.tmp 20), type := 3, pos := "ref.go:39", after := #[{ on := 11, ground := Go.Ground.data }], guard := none }) (v := _) rfl (by kernel_rfl) (by kernel_rfl) (by kernel_rfl) (fun _ _ _ h => h) (Or.inl ⟨by rfl, ?hy41⟩) (by assumption) ?hr41
  case hy41 => (intro _ hSw; (try dsimp only at hSw); go_simp <;> with_reducible rfl)
  simp only [Act.put, List.setIfInBounds_toArray, List.set_cons_zero, List.set_cons_succ]
  refine' wpAnyH_take (i := 13) (oi := { dst := some 22, op := Go.Op.move (Go.Operand.tmp 0), type := 9, pos := "ref.go:39", after := #[], guard := none }) (v := _) rfl (by kernel_rfl) (by kernel_rfl) (by kernel_rfl) (fun _ _ _ h => h) (Or.inl ⟨by rfl, ?hy42⟩) (by assumption) ?hr42
  case hy42 => (intro _ hSw; (try dsimp only at hSw); go_simp <;> with_reducible rfl)
  simp only [Act.put, List.setIfInBounds_toArray, List.set_cons_zero, List.set_cons_succ]
  refine' wpAnyH_take (i := 14) (oi := { dst := some 23, op := Go.Op.index 9 (Go.Operand.tmp 22) (Go.Operand.const (Go.Value.int Go.IntKind.i64 4)), type := 5, pos := "ref.go:39", after := #[{ on := 13, ground := Go.Ground.data }], guard := none }) (v := _) rfl (by kernel_rfl) (by kernel_rfl) (by kernel_rfl) (fun _ _ _ h => h) (Or.inl ⟨by rfl, ?hy43⟩) (by assumption) ?hr43
  case hy43 => (intro _ hSw; (try dsimp only at hSw); go_simp <;> with_reducible rfl)
  simp only [Act.put, List.setIfInBounds_toArray, List.set_cons_zero, List.set_cons_succ]
  refine' wpAnyH_take (i := 15) (oi := { dst := some 24, op := Go.Op.convert 5 3 (Go.Operand.tmp 23), type := 3, pos := "ref.go:39", after := #[{ on := 14, ground := Go.Ground.data }], guard := none }) (v := _) rfl (by kernel_rfl) (by kernel_rfl) (by kernel_rfl) (fun _ _ _ h => h) (Or.inl ⟨by rfl, ?hy44⟩) (by assumption) ?hr44
  case hy44 => (intro _ hSw; (try dsimp only at hSw); go_simp <;> with_reducible rfl)
  simp only [Act.put, List.setIfInBounds_toArray, List.set_cons_zero, List.set_cons_succ]
  refine' wpAnyH_take (i := 16) (oi := { dst := some 25, op := Go.Op.move (Go.Operand.tmp 0), type := 9, pos := "ref.go:39", after := #[], guard := none }) (v := _) rfl (by kernel_rfl) (by kernel_rfl) (by kernel_rfl) (fun _ _ _ h => h) (Or.inl ⟨by rfl, ?hy45⟩) (by assumption) ?hr45
  case hy45 => (intro _ hSw; (try dsimp only at hSw); go_simp <;> with_reducible rfl)
  simp only [Act.put, List.setIfInBounds_toArray, List.set_cons_zero, List.set_cons_succ]
  refine' wpAnyH_take (i := 17) (oi := { dst := some 26, op := Go.Op.index 9 (Go.Operand.tmp 25) (Go.Operand.const (Go.Value.int Go.IntKind.i64 5)), type := 5, pos := "ref.go:39", after := #[{ on := 16, ground := Go.Ground.data }], guard := none }) (v := _) rfl (by kernel_rfl) (by kernel_rfl) (by kernel_rfl) (fun _ _ _ h => h) (Or.inl ⟨by rfl, ?hy46⟩) (by assumption) ?hr46
  case hy46 => (intro _ hSw; (try dsimp only at hSw); go_simp <;> with_reducible rfl)
  simp only [Act.put, List.setIfInBounds_toArray, List.set_cons_zero, List.set_cons_succ]
  refine' wpAnyH_take (i := 18) (oi := { dst := some 27, op := Go.Op.convert 5 3 (Go.Operand.tmp 26), type := 3, pos := "ref.go:39", after := #[{ on := 17, ground := Go.Ground.data }], guard := none }) (v := _) rfl (by kernel_rfl) (by kernel_rfl) (by kernel_rfl) (fun _ _ _ h => h) (Or.inl ⟨by rfl, ?hy47⟩) (by assumption) ?hr47
  case hy47 => (intro _ hSw; (try dsimp only at hSw); go_simp <;> with_reducible rfl)
  simp only [Act.put, List.setIfInBounds_toArray, List.set_cons_zero, List.set_cons_succ]
  refine' wpAnyH_take (i := 19) (oi := { dst := some 28, op := Go.Op.binOp Go.BinOp.mul 3 (Go.Operand.const (Go.Value.int Go.IntKind.i64 256)) (Go.Operand.tmp 27) 3, type := 3, pos := "ref.go:39", after := #[{ on := 18, ground := Go.Ground.data }], guard := none }) (v := _) rfl (by kernel_rfl) (by kernel_rfl) (by kernel_rfl) (fun _ _ _ h => h) (Or.inl ⟨by rfl, ?hy48⟩) (by assumption) ?hr48
  case hy48 => (intro _ hSw; (try dsimp only at hSw); go_simp <;> with_reducible rfl)
  simp only [Act.put, List.setIfInBounds_toArray, List.set_cons_zero, List.set_cons_succ]
  refine' wpAnyH_take (i := 20) (oi := { dst := some 29, op := Go.Op.binOp Go.BinOp.add 3 (Go.Operand.tmp 24) (Go.Operand.tmp 28) 3, type := 3, pos := "ref.go:39", after := #[{ on := 15, ground := Go.Ground.data }, { on := 19, ground := Go.Ground.data }], guard := none }) (v := _) rfl (by kernel_rfl) (by kernel_rfl) (by kernel_rfl) (fun _ _ _ h => h) (Or.inl ⟨by rfl, ?hy49⟩) (by assumption) ?hr49
  case hy49 => (intro _ hSw; (try dsimp only at hSw); go_simp <;> with_reducible rfl)
  simp only [Act.put, List.setIfInBounds_toArray, List.set_cons_zero, List.set_cons_succ]
  refine' wpAnyH_take (i := 21) (oi := { dst := some 30, op := Go.Op.move (Go.Operand.tmp 0), type := 9, pos := "ref.go:39", after := #[], guard := none }) (v := _) rfl (by kernel_rfl) (by kernel_rfl) (by kernel_rfl) (fun _ _ _ h => h) (Or.inl ⟨by rfl, ?hy50⟩) (by assumption) ?hr50
  case hy50 => (intro _ hSw; (try dsimp only at hSw); go_simp <;> with_reducible rfl)
  simp only [Act.put, List.setIfInBounds_toArray, List.set_cons_zero, List.set_cons_succ]
  refine' wpAnyH_take (i := 22) (oi := { dst := some 31, op := Go.Op.index 9 (Go.Operand.tmp 30) (Go.Operand.const (Go.Value.int Go.IntKind.i64 6)), type := 5, pos := "ref.go:39", after := #[{ on := 21, ground := Go.Ground.data }], guard := none }) (v := _) rfl (by kernel_rfl) (by kernel_rfl) (by kernel_rfl) (fun _ _ _ h => h) (Or.inl ⟨by rfl, ?hy51⟩) (by assumption) ?hr51
  case hy51 => (intro _ hSw; (try dsimp only at hSw); go_simp <;> with_reducible rfl)
  simp only [Act.put, List.setIfInBounds_toArray, List.set_cons_zero, List.set_cons_succ]
  refine' wpAnyH_take (i := 23) (oi := { dst := some 32, op := Go.Op.convert 5 3 (Go.Operand.tmp 31), type := 3, pos := "ref.go:39", after := #[{ on := 22, ground := Go.Ground.data }], guard := none }) (v := _) rfl (by kernel_rfl) (by kernel_rfl) (by kernel_rfl) (fun _ _ _ h => h) (Or.inl ⟨by rfl, ?hy52⟩) (by assumption) ?hr52
  case hy52 => (intro _ hSw; (try dsimp only at hSw); go_simp <;> with_reducible rfl)
  simp only [Act.put, List.setIfInBounds_toArray, List.set_cons_zero, List.set_cons_succ]
  refine' wpAnyH_take (i := 24) (oi := { dst := some 33, op := Go.Op.move (Go.Operand.tmp 0), type := 9, pos := "ref.go:39", after := #[], guard := none }) (v := _) rfl (by kernel_rfl) (by kernel_rfl) (by kernel_rfl) (fun _ _ _ h => h) (Or.inl ⟨by rfl, ?hy53⟩) (by assumption) ?hr53
  case hy53 => (intro _ hSw; (try dsimp only at hSw); go_simp <;> with_reducible rfl)
  simp only [Act.put, List.setIfInBounds_toArray, List.set_cons_zero, List.set_cons_succ]
  refine' wpAnyH_take (i := 25) (oi := { dst := some 34, op := Go.Op.index 9 (Go.Operand.tmp 33) (Go.Operand.const (Go.Value.int Go.IntKind.i64 7)), type := 5, pos := "ref.go:39", after := #[{ on := 24, ground := Go.Ground.data }], guard := none }) (v := _) rfl (by kernel_rfl) (by kernel_rfl) (by kernel_rfl) (fun _ _ _ h => h) (Or.inl ⟨by rfl, ?hy54⟩) (by assumption) ?hr54
  case hy54 => (intro _ hSw; (try dsimp only at hSw); go_simp <;> with_reducible rfl)
  simp only [Act.put, List.setIfInBounds_toArray, List.set_cons_zero, List.set_cons_succ]
  refine' wpAnyH_take (i := 26) (oi := { dst := some 35, op := Go.Op.convert 5 3 (Go.Operand.tmp 34), type := 3, pos := "ref.go:39", after := #[{ on := 25, ground := Go.Ground.data }], guard := none }) (v := _) rfl (by kernel_rfl) (by kernel_rfl) (by kernel_rfl) (fun _ _ _ h => h) (Or.inl ⟨by rfl, ?hy55⟩) (by assumption) ?hr55
  case hy55 => (intro _ hSw; (try dsimp only at hSw); go_simp <;> with_reducible rfl)
  simp only [Act.put, List.setIfInBounds_toArray, List.set_cons_zero, List.set_cons_succ]
  refine' wpAnyH_take (i := 27) (oi := { dst := some 36, op := Go.Op.build 33 #[(0, Go.Operand.tmp 10), (1, Go.Operand.tmp 13), (2, Go.Operand.tmp 16), (3, Go.Operand.tmp 18), (4, Go.Operand.tmp 21), (5, Go.Operand.tmp 29), (6, Go.Operand.tmp 32), (7, Go.Operand.tmp 35)], type := 33, pos := "ref.go:39", after := #[{ on := 1, ground := Go.Ground.data }, { on := 4, ground := Go.Ground.data }, { on := 7, ground := Go.Ground.data }, { on := 9, ground := Go.Ground.data }, { on := 12, ground := Go.Ground.data }, { on := 20, ground := Go.Ground.data }, { on := 23, ground := Go.Ground.data }, { on := 26, ground := Go.Ground.data }], guard := none }) (v := _) rfl (by kernel_rfl) (by kernel_rfl) (by kernel_rfl) (fun _ _ _ h => h) (Or.inl ⟨by rfl, ?hy56⟩) (by assumption) ?hr56
  case hy56 => (intro _ hSw; (try dsimp only at hSw); go_simp <;> with_reducible rfl)
  simp only [Act.put, List.setIfInBounds_toArray, List.set_cons_zero, List.set_cons_succ]
  refine wpAnyH_ready (rs := [28]) (by kernel_rfl) (by simp) ?_
  refine AllReadyH.cons (o := { dst := some 4, op := Go.Op.alloc 33, type := 0, pos := "ref.go:39", after := #[], guard := none }) rfl (fun K hK => ?_) AllReadyH.nil
  go_simp
  refine hK.out _ _ ((Below.refl W.heap.size W).drew.alloc (Nat.le_refl _) _) (fun hHeld => ?_)
  clear hK K
  (try simp only [Act.put, List.setIfInBounds_toArray, List.set_cons_zero, List.set_cons_succ])
  refine wpAnyH_ready (rs := [29]) (by kernel_rfl) (by simp) ?_
  refine AllReadyH.cons (o := { dst := none, op := Go.Op.store 33 (Go.Operand.tmp 4) (Go.Operand.tmp 36), type := 0, pos := "ref.go:39", after := #[{ on := 28, ground := Go.Ground.data }, { on := 27, ground := Go.Ground.data }, { on := 0, ground := Go.Ground.phase }, { on := 1, ground := Go.Ground.phase }, { on := 2, ground := Go.Ground.phase }, { on := 3, ground := Go.Ground.phase }, { on := 4, ground := Go.Ground.phase }, { on := 5, ground := Go.Ground.phase }, { on := 6, ground := Go.Ground.phase }, { on := 7, ground := Go.Ground.phase }, { on := 8, ground := Go.Ground.phase }, { on := 9, ground := Go.Ground.phase }, { on := 10, ground := Go.Ground.phase }, { on := 11, ground := Go.Ground.phase }, { on := 12, ground := Go.Ground.phase }, { on := 13, ground := Go.Ground.phase }, { on := 14, ground := Go.Ground.phase }, { on := 15, ground := Go.Ground.phase }, { on := 16, ground := Go.Ground.phase }, { on := 17, ground := Go.Ground.phase }, { on := 18, ground := Go.Ground.phase }, { on := 19, ground := Go.Ground.phase }, { on := 20, ground := Go.Ground.phase }, { on := 21, ground := Go.Ground.phase }, { on := 22, ground := Go.Ground.phase }, { on := 23, ground := Go.Ground.phase }, { on := 24, ground := Go.Ground.phase }, { on := 25, ground := Go.Ground.phase }, { on := 26, ground := Go.Ground.phase }, { on := 27, ground := Go.Ground.phase }, { on := 28, ground := Go.Ground.phase }], guard := none }) rfl (fun K hK => ?_) AllReadyH.nil
  go_simp
  refine hK.out _ _ ?_ (fun hHeld => ?_)
  clear hK K
  (try simp only [Act.put, List.setIfInBounds_toArray, List.set_cons_zero, List.set_cons_succ])
  · exact ((Below.refl W.heap.size W).alloc (Nat.le_refl _) _).drew
  refine wpAnyH_done (by kernel_rfl) ?_ _
  have HB1 : Hid (Below W.heap.size W ((W.alloc (pO ⟨x0, x1 % 16, x1 / 16, x2, x3, x4 + 256 * x5, x6, x7⟩ 33)).drew)) := Lib.hid ((Below.refl W.heap.size W).alloc (Nat.le_refl _) _).drew
  have hg : ((W.alloc (pO ⟨x0, x1 % 16, x1 / 16, x2, x3, x4 + 256 * x5, x6, x7⟩ 33)).drew).heap[W.heap.size]? = some (pO ⟨x0, x1 % 16, x1 / 16, x2, x3, x4 + 256 * x5, x6, x7⟩ 33) := nest W [_] 0 _ rfl
  clear hHeld
  generalize (W.alloc (pO ⟨x0, x1 % 16, x1 / 16, x2, x3, x4 + 256 * x5, x6, x7⟩ 33)).drew = V at *
  have HF := Lib.hid (stays HP.out HB1.out)
  have HG := Lib.hid hg
  have HB := Lib.hid (below_on HB0.out (HB1.out.mono (Nat.le_refl _)))
  clear hg a1 a3 a4 a5 a6 a7 a8 a9
  have CMh := Lib.hid CM
  clear CM
  obtain ⟨g0, g1, g2, g3, g4, g5, g6, g7⟩ := cells_of HG.out
  go_wp2_with (go_at_call 25; ((with_reducible refine (CMh.out _).mono ?_); rintro e w2 ⟨rfl, hb⟩; have HF2 := Lib.hid (stays HF.out hb); have HG2 := Lib.hid (stays HG.out hb); have HB2 := Lib.hid (below_on HB.out hb); clear g0 g1 g2 g3 g4 g5 g6 g7; obtain ⟨f0, f1, f2, f3, f4, f5, f6, f7⟩ := no_frees HF2.out; obtain ⟨d0, d1, d2, d3, d4, d5, d6, d7⟩ := no_cells HF2.out; obtain ⟨g0, g1, g2, g3, g4, g5, g6, g7⟩ := cells_of HG2.out; clear hb))
  exact bodyPost_ret (rget_results _ _ w.heap.size zero 70 (cells_of (set8_at HF2.out _ _ _ _ _ _ _ _)) rfl rfl) rfl ⟨rfl, set8 HB2.out (Nat.le_refl _) _ _ _ _ _ _ _ _⟩
set_option maxHeartbeats 1000000 in
set_option maxRecDepth 100000 in
theorem rget_ok (s : ByteArray) (h : s.size = 8) (x0 x1 x2 x3 x4 x5 x6 x7 : Int)
    (i0 : ∀ W, (Instr.index 9 (.string s) (.int .i64 0)).run Tryd.prog W = .ok (.int .u8 x0) W)
    (i1 : ∀ W, (Instr.index 9 (.string s) (.int .i64 1)).run Tryd.prog W = .ok (.int .u8 x1) W)
    (i2 : ∀ W, (Instr.index 9 (.string s) (.int .i64 2)).run Tryd.prog W = .ok (.int .u8 x2) W)
    (i3 : ∀ W, (Instr.index 9 (.string s) (.int .i64 3)).run Tryd.prog W = .ok (.int .u8 x3) W)
    (i4 : ∀ W, (Instr.index 9 (.string s) (.int .i64 4)).run Tryd.prog W = .ok (.int .u8 x4) W)
    (i5 : ∀ W, (Instr.index 9 (.string s) (.int .i64 5)).run Tryd.prog W = .ok (.int .u8 x5) W)
    (i6 : ∀ W, (Instr.index 9 (.string s) (.int .i64 6)).run Tryd.prog W = .ok (.int .u8 x6) W)
    (i7 : ∀ W, (Instr.index 9 (.string s) (.int .i64 7)).run Tryd.prog W = .ok (.int .u8 x7) W)
    (h1 : 0 ≤ x1) (k1 : x1 < 256) (h3 : 0 ≤ x3) (k3 : x3 < 256) (h4 : 0 ≤ x4) (k4 : x4 < 256) (h5 : 0 ≤ x5) (k5 : x5 < 256) (h6 : 0 ≤ x6) (k6 : x6 < 256) (h7 : 0 ≤ x7) (k7 : x7 < 256) (CM : ∀ w, Calls Tryd.prog 25 #[pv ⟨x0, x1 % 16, x1 / 16, x2, x3, x4 + 256 * x5, x6, x7⟩] w fun x w' => x = .returned (.bool true) ∧ Below w.heap.size w w') (w : World) :
    Calls Tryd.prog 31 #[.string s] w fun x w' => x = .returned (.tuple #[pv ⟨x0, x1 % 16, x1 / 16, x2, x3, x4 + 256 * x5, x6, x7⟩, .int .i64 0]) ∧ Below w.heap.size w w' := by
  have q1 : x1.tmod 16 = x1 % 16 := Int.tmod_eq_emod_of_nonneg h1
  have q2 : x1.tdiv 16 = x1 / 16 := Int.tdiv_eq_ediv_of_nonneg h1
  have a1 : IntKind.u8.wrap (x1 / 16) = x1 / 16 := by rw [IntKind.wrap_u8]; omega
  have a3 : IntKind.i64.wrap x3 = x3 := wraps_i64 _ (by omega) (by omega)
  have a4 : IntKind.i64.wrap x4 = x4 := wraps_i64 _ (by omega) (by omega)
  have a5 : IntKind.i64.wrap x5 = x5 := wraps_i64 _ (by omega) (by omega)
  have a6 : IntKind.i64.wrap x6 = x6 := wraps_i64 _ (by omega) (by omega)
  have a7 : IntKind.i64.wrap x7 = x7 := wraps_i64 _ (by omega) (by omega)
  have a8 : IntKind.i64.wrap (256 * x5) = 256 * x5 := wraps_i64 _ (by omega) (by omega)
  have a9 : IntKind.i64.wrap (x4 + 256 * x5) = x4 + 256 * x5 := wraps_i64 _ (by omega) (by omega)
  have HA := Lib.hid a1
  have h' : ¬ (s.size : Int) < 8 := by omega
  have h'' : ¬ (8 : Int) < s.size := by omega
  clear h
  go_enter Tryd.func31, Tryd.ntmps31
  go_wp2
  have HB0 : Hid (Below w.heap.size w (w.alloc (noO 33))) := Lib.hid (nest_below w [_])
  have HP : Hid ((w.alloc (noO 33)).heap[w.heap.size]? = some (noO 33)) := Lib.hid (nest w [_] 0 _ rfl)
  have hlt : w.heap.size < (w.alloc (noO 33)).heap.size := by simp
  generalize w.alloc (noO 33) = W at *
  refine wp_region_held_drew (S := fun w' => Below W.heap.size W w') (by kernel_rfl) (Below.refl _ _).drew (fun hHeld => ?_)
  refine' wpAnyH_take (i := 0) (oi := { dst := some 9, op := Go.Op.move (Go.Operand.tmp 0), type := 9, pos := "ref.go:39", after := #[], guard := none }) (v := _) rfl (by kernel_rfl) (by kernel_rfl) (by kernel_rfl) (fun _ _ _ h => h) (Or.inl ⟨by rfl, ?hy57⟩) (by assumption) ?hr57
  case hy57 => (intro _ hSw; (try dsimp only at hSw); go_simp <;> with_reducible rfl)
  simp only [Act.put, List.setIfInBounds_toArray, List.set_cons_zero, List.set_cons_succ]
  refine' wpAnyH_take (i := 1) (oi := { dst := some 10, op := Go.Op.index 9 (Go.Operand.tmp 9) (Go.Operand.const (Go.Value.int Go.IntKind.i64 0)), type := 5, pos := "ref.go:39", after := #[{ on := 0, ground := Go.Ground.data }], guard := none }) (v := _) rfl (by kernel_rfl) (by kernel_rfl) (by kernel_rfl) (fun _ _ _ h => h) (Or.inl ⟨by rfl, ?hy58⟩) (by assumption) ?hr58
  case hy58 => (intro _ hSw; (try dsimp only at hSw); go_simp <;> with_reducible rfl)
  simp only [Act.put, List.setIfInBounds_toArray, List.set_cons_zero, List.set_cons_succ]
  refine' wpAnyH_take (i := 2) (oi := { dst := some 11, op := Go.Op.move (Go.Operand.tmp 0), type := 9, pos := "ref.go:39", after := #[], guard := none }) (v := _) rfl (by kernel_rfl) (by kernel_rfl) (by kernel_rfl) (fun _ _ _ h => h) (Or.inl ⟨by rfl, ?hy59⟩) (by assumption) ?hr59
  case hy59 => (intro _ hSw; (try dsimp only at hSw); go_simp <;> with_reducible rfl)
  simp only [Act.put, List.setIfInBounds_toArray, List.set_cons_zero, List.set_cons_succ]
  refine' wpAnyH_take (i := 3) (oi := { dst := some 12, op := Go.Op.index 9 (Go.Operand.tmp 11) (Go.Operand.const (Go.Value.int Go.IntKind.i64 1)), type := 5, pos := "ref.go:39", after := #[{ on := 2, ground := Go.Ground.data }], guard := none }) (v := _) rfl (by kernel_rfl) (by kernel_rfl) (by kernel_rfl) (fun _ _ _ h => h) (Or.inl ⟨by rfl, ?hy60⟩) (by assumption) ?hr60
  case hy60 => (intro _ hSw; (try dsimp only at hSw); go_simp <;> with_reducible rfl)
  simp only [Act.put, List.setIfInBounds_toArray, List.set_cons_zero, List.set_cons_succ]
  refine' wpAnyH_take (i := 4) (oi := { dst := some 13, op := Go.Op.binOp Go.BinOp.rem 5 (Go.Operand.tmp 12) (Go.Operand.const (Go.Value.int Go.IntKind.u8 16)) 5, type := 5, pos := "ref.go:39", after := #[{ on := 3, ground := Go.Ground.data }], guard := none }) (v := _) rfl (by kernel_rfl) (by kernel_rfl) (by kernel_rfl) (fun _ _ _ h => h) (Or.inl ⟨by rfl, ?hy61⟩) (by assumption) ?hr61
  case hy61 => (intro _ hSw; (try dsimp only at hSw); go_simp <;> with_reducible rfl)
  simp only [Act.put, List.setIfInBounds_toArray, List.set_cons_zero, List.set_cons_succ]
  refine' wpAnyH_take (i := 5) (oi := { dst := some 14, op := Go.Op.move (Go.Operand.tmp 0), type := 9, pos := "ref.go:39", after := #[], guard := none }) (v := _) rfl (by kernel_rfl) (by kernel_rfl) (by kernel_rfl) (fun _ _ _ h => h) (Or.inl ⟨by rfl, ?hy62⟩) (by assumption) ?hr62
  case hy62 => (intro _ hSw; (try dsimp only at hSw); go_simp <;> with_reducible rfl)
  simp only [Act.put, List.setIfInBounds_toArray, List.set_cons_zero, List.set_cons_succ]
  refine' wpAnyH_take (i := 6) (oi := { dst := some 15, op := Go.Op.index 9 (Go.Operand.tmp 14) (Go.Operand.const (Go.Value.int Go.IntKind.i64 1)), type := 5, pos := "ref.go:39", after := #[{ on := 5, ground := Go.Ground.data }], guard := none }) (v := _) rfl (by kernel_rfl) (by kernel_rfl) (by kernel_rfl) (fun _ _ _ h => h) (Or.inl ⟨by rfl, ?hy63⟩) (by assumption) ?hr63
  case hy63 => (intro _ hSw; (try dsimp only at hSw); go_simp <;> with_reducible rfl)
  simp only [Act.put, List.setIfInBounds_toArray, List.set_cons_zero, List.set_cons_succ]
  refine' wpAnyH_take (i := 7) (oi := { dst := some 16, op := Go.Op.binOp Go.BinOp.quo 5 (Go.Operand.tmp 15) (Go.Operand.const (Go.Value.int Go.IntKind.u8 16)) 5, type := 5, pos := "ref.go:39", after := #[{ on := 6, ground := Go.Ground.data }], guard := none }) (v := _) rfl (by kernel_rfl) (by kernel_rfl) (by kernel_rfl) (fun _ _ _ h => h) (Or.inl ⟨by rfl, ?hy64⟩) (by assumption) ?hr64
  case hy64 => (intro _ hSw; (try dsimp only at hSw); go_simp <;> with_reducible rfl)
  simp only [Act.put, List.setIfInBounds_toArray, List.set_cons_zero, List.set_cons_succ]
  refine' wpAnyH_take (i := 8) (oi := { dst := some 17, op := Go.Op.move (Go.Operand.tmp 0), type := 9, pos := "ref.go:39", after := #[], guard := none }) (v := _) rfl (by kernel_rfl) (by kernel_rfl) (by kernel_rfl) (fun _ _ _ h => h) (Or.inl ⟨by rfl, ?hy65⟩) (by assumption) ?hr65
  case hy65 => (intro _ hSw; (try dsimp only at hSw); go_simp <;> with_reducible rfl)
  simp only [Act.put, List.setIfInBounds_toArray, List.set_cons_zero, List.set_cons_succ]
  refine' wpAnyH_take (i := 9) (oi := { dst := some 18, op := Go.Op.index 9 (Go.Operand.tmp 17) (Go.Operand.const (Go.Value.int Go.IntKind.i64 2)), type := 5, pos := "ref.go:39", after := #[{ on := 8, ground := Go.Ground.data }], guard := none }) (v := _) rfl (by kernel_rfl) (by kernel_rfl) (by kernel_rfl) (fun _ _ _ h => h) (Or.inl ⟨by rfl, ?hy66⟩) (by assumption) ?hr66
  case hy66 => (intro _ hSw; (try dsimp only at hSw); go_simp <;> with_reducible rfl)
  simp only [Act.put, List.setIfInBounds_toArray, List.set_cons_zero, List.set_cons_succ]
  refine' wpAnyH_take (i := 10) (oi := { dst := some 19, op := Go.Op.move (Go.Operand.tmp 0), type := 9, pos := "ref.go:39", after := #[], guard := none }) (v := _) rfl (by kernel_rfl) (by kernel_rfl) (by kernel_rfl) (fun _ _ _ h => h) (Or.inl ⟨by rfl, ?hy67⟩) (by assumption) ?hr67
  case hy67 => (intro _ hSw; (try dsimp only at hSw); go_simp <;> with_reducible rfl)
  simp only [Act.put, List.setIfInBounds_toArray, List.set_cons_zero, List.set_cons_succ]
  refine' wpAnyH_take (i := 11) (oi := { dst := some 20, op := Go.Op.index 9 (Go.Operand.tmp 19) (Go.Operand.const (Go.Value.int Go.IntKind.i64 3)), type := 5, pos := "ref.go:39", after := #[{ on := 10, ground := Go.Ground.data }], guard := none }) (v := _) rfl (by kernel_rfl) (by kernel_rfl) (by kernel_rfl) (fun _ _ _ h => h) (Or.inl ⟨by rfl, ?hy68⟩) (by assumption) ?hr68
  case hy68 => (intro _ hSw; (try dsimp only at hSw); go_simp <;> with_reducible rfl)
  simp only [Act.put, List.setIfInBounds_toArray, List.set_cons_zero, List.set_cons_succ]
  refine' wpAnyH_take (i := 12) (oi := { dst := some 21, op := Go.Op.convert 5 3 (Go.Operand.tmp 20), type := 3, pos := "ref.go:39", after := #[{ on := 11, ground := Go.Ground.data }], guard := none }) (v := _) rfl (by kernel_rfl) (by kernel_rfl) (by kernel_rfl) (fun _ _ _ h => h) (Or.inl ⟨by rfl, ?hy69⟩) (by assumption) ?hr69
  case hy69 => (intro _ hSw; (try dsimp only at hSw); go_simp <;> with_reducible rfl)
  simp only [Act.put, List.setIfInBounds_toArray, List.set_cons_zero, List.set_cons_succ]
  refine' wpAnyH_take (i := 13) (oi := { dst := some 22, op := Go.Op.move (Go.Operand.tmp 0), type := 9, pos := "ref.go:39", after := #[], guard := none }) (v := _) rfl (by kernel_rfl) (by kernel_rfl) (by kernel_rfl) (fun _ _ _ h => h) (Or.inl ⟨by rfl, ?hy70⟩) (by assumption) ?hr70
  case hy70 => (intro _ hSw; (try dsimp only at hSw); go_simp <;> with_reducible rfl)
  simp only [Act.put, List.setIfInBounds_toArray, List.set_cons_zero, List.set_cons_succ]
  refine' wpAnyH_take (i := 14) (oi := { dst := some 23, op := Go.Op.index 9 (Go.Operand.tmp 22) (Go.Operand.const (Go.Value.int Go.IntKind.i64 4)), type := 5, pos := "ref.go:39", after := #[{ on := 13, ground := Go.Ground.data }], guard := none }) (v := _) rfl (by kernel_rfl) (by kernel_rfl) (by kernel_rfl) (fun _ _ _ h => h) (Or.inl ⟨by rfl, ?hy71⟩) (by assumption) ?hr71
  case hy71 => (intro _ hSw; (try dsimp only at hSw); go_simp <;> with_reducible rfl)
  simp only [Act.put, List.setIfInBounds_toArray, List.set_cons_zero, List.set_cons_succ]
  refine' wpAnyH_take (i := 15) (oi := { dst := some 24, op := Go.Op.convert 5 3 (Go.Operand.tmp 23), type := 3, pos := "ref.go:39", after := #[{ on := 14, ground := Go.Ground.data }], guard := none }) (v := _) rfl (by kernel_rfl) (by kernel_rfl) (by kernel_rfl) (fun _ _ _ h => h) (Or.inl ⟨by rfl, ?hy72⟩) (by assumption) ?hr72
  case hy72 => (intro _ hSw; (try dsimp only at hSw); go_simp <;> with_reducible rfl)
  simp only [Act.put, List.setIfInBounds_toArray, List.set_cons_zero, List.set_cons_succ]
  refine' wpAnyH_take (i := 16) (oi := { dst := some 25, op := Go.Op.move (Go.Operand.tmp 0), type := 9, pos := "ref.go:39", after := #[], guard := none }) (v := _) rfl (by kernel_rfl) (by kernel_rfl) (by kernel_rfl) (fun _ _ _ h => h) (Or.inl ⟨by rfl, ?hy73⟩) (by assumption) ?hr73
  case hy73 => (intro _ hSw; (try dsimp only at hSw); go_simp <;> with_reducible rfl)
  simp only [Act.put, List.setIfInBounds_toArray, List.set_cons_zero, List.set_cons_succ]
  refine' wpAnyH_take (i := 17) (oi := { dst := some 26, op := Go.Op.index 9 (Go.Operand.tmp 25) (Go.Operand.const (Go.Value.int Go.IntKind.i64 5)), type := 5, pos := "ref.go:39", after := #[{ on := 16, ground := Go.Ground.data }], guard := none }) (v := _) rfl (by kernel_rfl) (by kernel_rfl) (by kernel_rfl) (fun _ _ _ h => h) (Or.inl ⟨by rfl, ?hy74⟩) (by assumption) ?hr74
  case hy74 => (intro _ hSw; (try dsimp only at hSw); go_simp <;> with_reducible rfl)
  simp only [Act.put, List.setIfInBounds_toArray, List.set_cons_zero, List.set_cons_succ]
  refine' wpAnyH_take (i := 18) (oi := { dst := some 27, op := Go.Op.convert 5 3 (Go.Operand.tmp 26), type := 3, pos := "ref.go:39", after := #[{ on := 17, ground := Go.Ground.data }], guard := none }) (v := _) rfl (by kernel_rfl) (by kernel_rfl) (by kernel_rfl) (fun _ _ _ h => h) (Or.inl ⟨by rfl, ?hy75⟩) (by assumption) ?hr75
  case hy75 => (intro _ hSw; (try dsimp only at hSw); go_simp <;> with_reducible rfl)
  simp only [Act.put, List.setIfInBounds_toArray, List.set_cons_zero, List.set_cons_succ]
  refine' wpAnyH_take (i := 19) (oi := { dst := some 28, op := Go.Op.binOp Go.BinOp.mul 3 (Go.Operand.const (Go.Value.int Go.IntKind.i64 256)) (Go.Operand.tmp 27) 3, type := 3, pos := "ref.go:39", after := #[{ on := 18, ground := Go.Ground.data }], guard := none }) (v := _) rfl (by kernel_rfl) (by kernel_rfl) (by kernel_rfl) (fun _ _ _ h => h) (Or.inl ⟨by rfl, ?hy76⟩) (by assumption) ?hr76
  case hy76 => (intro _ hSw; (try dsimp only at hSw); go_simp <;> with_reducible rfl)
  simp only [Act.put, List.setIfInBounds_toArray, List.set_cons_zero, List.set_cons_succ]
  refine' wpAnyH_take (i := 20) (oi := { dst := some 29, op := Go.Op.binOp Go.BinOp.add 3 (Go.Operand.tmp 24) (Go.Operand.tmp 28) 3, type := 3, pos := "ref.go:39", after := #[{ on := 15, ground := Go.Ground.data }, { on := 19, ground := Go.Ground.data }], guard := none }) (v := _) rfl (by kernel_rfl) (by kernel_rfl) (by kernel_rfl) (fun _ _ _ h => h) (Or.inl ⟨by rfl, ?hy77⟩) (by assumption) ?hr77
  case hy77 => (intro _ hSw; (try dsimp only at hSw); go_simp <;> with_reducible rfl)
  simp only [Act.put, List.setIfInBounds_toArray, List.set_cons_zero, List.set_cons_succ]
  refine' wpAnyH_take (i := 21) (oi := { dst := some 30, op := Go.Op.move (Go.Operand.tmp 0), type := 9, pos := "ref.go:39", after := #[], guard := none }) (v := _) rfl (by kernel_rfl) (by kernel_rfl) (by kernel_rfl) (fun _ _ _ h => h) (Or.inl ⟨by rfl, ?hy78⟩) (by assumption) ?hr78
  case hy78 => (intro _ hSw; (try dsimp only at hSw); go_simp <;> with_reducible rfl)
  simp only [Act.put, List.setIfInBounds_toArray, List.set_cons_zero, List.set_cons_succ]
  refine' wpAnyH_take (i := 22) (oi := { dst := some 31, op := Go.Op.index 9 (Go.Operand.tmp 30) (Go.Operand.const (Go.Value.int Go.IntKind.i64 6)), type := 5, pos := "ref.go:39", after := #[{ on := 21, ground := Go.Ground.data }], guard := none }) (v := _) rfl (by kernel_rfl) (by kernel_rfl) (by kernel_rfl) (fun _ _ _ h => h) (Or.inl ⟨by rfl, ?hy79⟩) (by assumption) ?hr79
  case hy79 => (intro _ hSw; (try dsimp only at hSw); go_simp <;> with_reducible rfl)
  simp only [Act.put, List.setIfInBounds_toArray, List.set_cons_zero, List.set_cons_succ]
  refine' wpAnyH_take (i := 23) (oi := { dst := some 32, op := Go.Op.convert 5 3 (Go.Operand.tmp 31), type := 3, pos := "ref.go:39", after := #[{ on := 22, ground := Go.Ground.data }], guard := none }) (v := _) rfl (by kernel_rfl) (by kernel_rfl) (by kernel_rfl) (fun _ _ _ h => h) (Or.inl ⟨by rfl, ?hy80⟩) (by assumption) ?hr80
  case hy80 => (intro _ hSw; (try dsimp only at hSw); go_simp <;> with_reducible rfl)
  simp only [Act.put, List.setIfInBounds_toArray, List.set_cons_zero, List.set_cons_succ]
  refine' wpAnyH_take (i := 24) (oi := { dst := some 33, op := Go.Op.move (Go.Operand.tmp 0), type := 9, pos := "ref.go:39", after := #[], guard := none }) (v := _) rfl (by kernel_rfl) (by kernel_rfl) (by kernel_rfl) (fun _ _ _ h => h) (Or.inl ⟨by rfl, ?hy81⟩) (by assumption) ?hr81
  case hy81 => (intro _ hSw; (try dsimp only at hSw); go_simp <;> with_reducible rfl)
  simp only [Act.put, List.setIfInBounds_toArray, List.set_cons_zero, List.set_cons_succ]
  refine' wpAnyH_take (i := 25) (oi := { dst := some 34, op := Go.Op.index 9 (Go.Operand.tmp 33) (Go.Operand.const (Go.Value.int Go.IntKind.i64 7)), type := 5, pos := "ref.go:39", after := #[{ on := 24, ground := Go.Ground.data }], guard := none }) (v := _) rfl (by kernel_rfl) (by kernel_rfl) (by kernel_rfl) (fun _ _ _ h => h) (Or.inl ⟨by rfl, ?hy82⟩) (by assumption) ?hr82
  case hy82 => (intro _ hSw; (try dsimp only at hSw); go_simp <;> with_reducible rfl)
  simp only [Act.put, List.setIfInBounds_toArray, List.set_cons_zero, List.set_cons_succ]
  refine' wpAnyH_take (i := 26) (oi := { dst := some 35, op := Go.Op.convert 5 3 (Go.Operand.tmp 34), type := 3, pos := "ref.go:39", after := #[{ on := 25, ground := Go.Ground.data }], guard := none }) (v := _) rfl (by kernel_rfl) (by kernel_rfl) (by kernel_rfl) (fun _ _ _ h => h) (Or.inl ⟨by rfl, ?hy83⟩) (by assumption) ?hr83
  case hy83 => (intro _ hSw; (try dsimp only at hSw); go_simp <;> with_reducible rfl)
  simp only [Act.put, List.setIfInBounds_toArray, List.set_cons_zero, List.set_cons_succ]
  refine' wpAnyH_take (i := 27) (oi := { dst := some 36, op := Go.Op.build 33 #[(0, Go.Operand.tmp 10), (1, Go.Operand.tmp 13), (2, Go.Operand.tmp 16), (3, Go.Operand.tmp 18), (4, Go.Operand.tmp 21), (5, Go.Operand.tmp 29), (6, Go.Operand.tmp 32), (7, Go.Operand.tmp 35)], type := 33, pos := "ref.go:39", after := #[{ on := 1, ground := Go.Ground.data }, { on := 4, ground := Go.Ground.data }, { on := 7, ground := Go.Ground.data }, { on := 9, ground := Go.Ground.data }, { on := 12, ground := Go.Ground.data }, { on := 20, ground := Go.Ground.data }, { on := 23, ground := Go.Ground.data }, { on := 26, ground := Go.Ground.data }], guard := none }) (v := _) rfl (by kernel_rfl) (by kernel_rfl) (by kernel_rfl) (fun _ _ _ h => h) (Or.inl ⟨by rfl, ?hy84⟩) (by assumption) ?hr84
  case hy84 => (intro _ hSw; (try dsimp only at hSw); go_simp <;> with_reducible rfl)
  simp only [Act.put, List.setIfInBounds_toArray, List.set_cons_zero, List.set_cons_succ]
  refine wpAnyH_ready (rs := [28]) (by kernel_rfl) (by simp) ?_
  refine AllReadyH.cons (o := { dst := some 4, op := Go.Op.alloc 33, type := 0, pos := "ref.go:39", after := #[], guard := none }) rfl (fun K hK => ?_) AllReadyH.nil
  go_simp
  refine hK.out _ _ ((Below.refl W.heap.size W).drew.alloc (Nat.le_refl _) _) (fun hHeld => ?_)
  clear hK K
  (try simp only [Act.put, List.setIfInBounds_toArray, List.set_cons_zero, List.set_cons_succ])
  refine wpAnyH_ready (rs := [29]) (by kernel_rfl) (by simp) ?_
  refine AllReadyH.cons (o := { dst := none, op := Go.Op.store 33 (Go.Operand.tmp 4) (Go.Operand.tmp 36), type := 0, pos := "ref.go:39", after := #[{ on := 28, ground := Go.Ground.data }, { on := 27, ground := Go.Ground.data }, { on := 0, ground := Go.Ground.phase }, { on := 1, ground := Go.Ground.phase }, { on := 2, ground := Go.Ground.phase }, { on := 3, ground := Go.Ground.phase }, { on := 4, ground := Go.Ground.phase }, { on := 5, ground := Go.Ground.phase }, { on := 6, ground := Go.Ground.phase }, { on := 7, ground := Go.Ground.phase }, { on := 8, ground := Go.Ground.phase }, { on := 9, ground := Go.Ground.phase }, { on := 10, ground := Go.Ground.phase }, { on := 11, ground := Go.Ground.phase }, { on := 12, ground := Go.Ground.phase }, { on := 13, ground := Go.Ground.phase }, { on := 14, ground := Go.Ground.phase }, { on := 15, ground := Go.Ground.phase }, { on := 16, ground := Go.Ground.phase }, { on := 17, ground := Go.Ground.phase }, { on := 18, ground := Go.Ground.phase }, { on := 19, ground := Go.Ground.phase }, { on := 20, ground := Go.Ground.phase }, { on := 21, ground := Go.Ground.phase }, { on := 22, ground := Go.Ground.phase }, { on := 23, ground := Go.Ground.phase }, { on := 24, ground := Go.Ground.phase }, { on := 25, ground := Go.Ground.phase }, { on := 26, ground := Go.Ground.phase }, { on := 27, ground := Go.Ground.phase }, { on := 28, ground := Go.Ground.phase }], guard := none }) rfl (fun K hK => ?_) AllReadyH.nil
  go_simp
  refine hK.out _ _ ?_ (fun hHeld => ?_)
  clear hK K
  (try simp only [Act.put, List.setIfInBounds_toArray, List.set_cons_zero, List.set_cons_succ])
  · exact ((Below.refl W.heap.size W).alloc (Nat.le_refl _) _).drew
  refine wpAnyH_done (by kernel_rfl) ?_ _
  have HB1 : Hid (Below W.heap.size W ((W.alloc (pO ⟨x0, x1 % 16, x1 / 16, x2, x3, x4 + 256 * x5, x6, x7⟩ 33)).drew)) := Lib.hid ((Below.refl W.heap.size W).alloc (Nat.le_refl _) _).drew
  have hg : ((W.alloc (pO ⟨x0, x1 % 16, x1 / 16, x2, x3, x4 + 256 * x5, x6, x7⟩ 33)).drew).heap[W.heap.size]? = some (pO ⟨x0, x1 % 16, x1 / 16, x2, x3, x4 + 256 * x5, x6, x7⟩ 33) := nest W [_] 0 _ rfl
  clear hHeld
  generalize (W.alloc (pO ⟨x0, x1 % 16, x1 / 16, x2, x3, x4 + 256 * x5, x6, x7⟩ 33)).drew = V at *
  have HF := Lib.hid (stays HP.out HB1.out)
  have HG := Lib.hid hg
  have HB := Lib.hid (below_on HB0.out (HB1.out.mono (Nat.le_refl _)))
  clear hg a1 a3 a4 a5 a6 a7 a8 a9
  have CMh := Lib.hid CM
  clear CM
  obtain ⟨g0, g1, g2, g3, g4, g5, g6, g7⟩ := cells_of HG.out
  go_wp2_with (go_at_call 25; ((with_reducible refine (CMh.out _).mono ?_); rintro e w2 ⟨rfl, hb⟩; have HF2 := Lib.hid (stays HF.out hb); have HG2 := Lib.hid (stays HG.out hb); have HB2 := Lib.hid (below_on HB.out hb); clear g0 g1 g2 g3 g4 g5 g6 g7; obtain ⟨f0, f1, f2, f3, f4, f5, f6, f7⟩ := no_frees HF2.out; obtain ⟨d0, d1, d2, d3, d4, d5, d6, d7⟩ := no_cells HF2.out; obtain ⟨g0, g1, g2, g3, g4, g5, g6, g7⟩ := cells_of HG2.out; clear hb))
  exact bodyPost_ret (rget_results _ _ w.heap.size ⟨x0, x1 % 16, x1 / 16, x2, x3, x4 + 256 * x5, x6, x7⟩ 0 (cells_of (set8_at HF2.out _ _ _ _ _ _ _ _)) rfl rfl) rfl ⟨rfl, set8 HB2.out (Nat.le_refl _) _ _ _ _ _ _ _ _⟩
theorem rget (s : ByteArray) (w : World) :
    Calls Tryd.prog 31 #[.string s] w fun x w' => x = .returned (.tuple #[pv (gotP s), .int .i64 (gotE s)]) ∧ Below w.heap.size w w' := by
  rcases Nat.lt_or_ge s.size 8 with h | h
  · obtain ⟨e1, e2⟩ := got_short h
    rw [e1, e2]; exact rget_short s h w
  have b0 := oct_lt s[0]
  have b1 := oct_lt s[1]
  have b2 := oct_lt s[2]
  have b3 := oct_lt s[3]
  have b4 := oct_lt s[4]
  have b5 := oct_lt s[5]
  have b6 := oct_lt s[6]
  have b7 := oct_lt s[7]
  by_cases h8 : s.size = 8
  · have CM := fun w => rmay (read s h) (read_in s h) w
    cases hm : may (read s h)
    · obtain ⟨e1, e2⟩ := got_no h (.inr hm)
      rw [hm] at CM
      rw [e1, e2]
      exact rget_bad s h8 _ _ _ _ _ _ _ _ (at_string s 0 (by omega) _ rfl) (at_string s 1 (by omega) _ rfl) (at_string s 2 (by omega) _ rfl) (at_string s 3 (by omega) _ rfl) (at_string s 4 (by omega) _ rfl) (at_string s 5 (by omega) _ rfl) (at_string s 6 (by omega) _ rfl) (at_string s 7 (by omega) _ rfl) (by omega) (by omega) (by omega) (by omega) (by omega) (by omega) (by omega) (by omega) (by omega) (by omega) (by omega) (by omega) CM w
    · obtain ⟨e1, e2⟩ := got_ok h h8 hm
      rw [hm] at CM
      rw [e1, e2]
      exact rget_ok s h8 _ _ _ _ _ _ _ _ (at_string s 0 (by omega) _ rfl) (at_string s 1 (by omega) _ rfl) (at_string s 2 (by omega) _ rfl) (at_string s 3 (by omega) _ rfl) (at_string s 4 (by omega) _ rfl) (at_string s 5 (by omega) _ rfl) (at_string s 6 (by omega) _ rfl) (at_string s 7 (by omega) _ rfl) (by omega) (by omega) (by omega) (by omega) (by omega) (by omega) (by omega) (by omega) (by omega) (by omega) (by omega) (by omega) CM w
  · obtain ⟨e1, e2⟩ := got_no h (.inl (by omega))
    rw [e1, e2]
    exact rget_long s (by omega) _ _ _ _ _ _ _ _ (at_string s 0 (by omega) _ rfl) (at_string s 1 (by omega) _ rfl) (at_string s 2 (by omega) _ rfl) (at_string s 3 (by omega) _ rfl) (at_string s 4 (by omega) _ rfl) (at_string s 5 (by omega) _ rfl) (at_string s 6 (by omega) _ rfl) (at_string s 7 (by omega) _ rfl) (by omega) (by omega) (by omega) (by omega) (by omega) (by omega) (by omega) (by omega) (by omega) (by omega) (by omega) (by omega) w
end Go.Proofs.YtffahjlboakakaaDoor.Pn
