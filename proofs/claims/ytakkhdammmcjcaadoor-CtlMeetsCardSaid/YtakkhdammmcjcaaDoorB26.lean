/-
  Layer 22, put together: CtlFref (what each says stands ahead of it). Conditions: as each names them.
-/
import Derived.Test.YtakkhdammmcjcaaDoorB07
/-
  What the law's params and ref of layer 22 answer: what came in, as it is. No condition.
-/
namespace Go.Proofs.YtakkhdammmcjcaaDoor.Ctl
open Go.RowKit Go.Proofs.YtakkhdammmcjcaaDoor.Base Go.Proofs.YtakkhdammmcjcaaDoor.Mem Go.Proofs.YtakkhdammmcjcaaDoor.Msgs Go.Proofs.YtakkhdammmcjcaaDoor.Cr
set_option maxRecDepth 100000
abbrev MTf : TypeId := 35
abbrev ST : TypeId := 33
def pcl2 (p : Pn.Pr) : Array Value := #[.int .u8 p.d, .int .u8 p.f, .int .u8 p.c, .int .u8 p.r, .int .i64 p.t, .int .i64 p.n, .int .i64 p.z, .int .i64 p.k]
def scl (s : Msc.St) : Array Value := #[.int .u8 (s.d : Int), .bool s.f, .bool s.c, .bool s.r, .bool s.i, .bool s.v, .bool s.b, .int .u8 (s.k : Int)]
theorem run_ldc {n T b : Nat} {w : World} {cs : Array Value} {t : TypeId} (hT : IsRow T n) (h : w.heap[b]? = some (.cells cs t (0, 0))) (hn : cs.size = n) : (loadVar T ⟨b, 0, none⟩).run Tryd.prog w = .ok (.agg cs) w := by
  obtain ⟨fs, hu⟩ := hT.under
  subst hn
  exact run_loadVar_row w b t T cs (0, 0) _ h hu rfl hT.size
theorem params_results (tmps : Array Value) (w : World) (b : Nat) (p : Pn.Pr) (t : TypeId) (h : w.heap[b]? = some (.cells (pcl2 p) t (0, 0))) (p2 : tmps[2]?.getD undef = ptr b) :
    (results Tryd.f46 tmps).run Tryd.prog w = .ok (Pn.pv p) w := by
  have hr := run_ldc isPr h rfl
  simp [results, Tryd.results46, asAddr, p2, hr]
  rfl
theorem ref_results (tmps : Array Value) (w : World) (b : Nat) (m : Ms) (t : TypeId) (h : w.heap[b]? = some (mO m t)) (p2 : tmps[2]?.getD undef = ptr b) :
    (results Tryd.f32 tmps).run Tryd.prog w = .ok (mv m) w := by
  simp [results, Tryd.results32, asAddr, p2, run_ld isR h]
theorem pcells2 {w : World} {b : Nat} {p : Pn.Pr} {t : TypeId} (h : w.heap[b]? = some (.cells (pcl2 p) t (0, 0))) : w.cell? ⟨b, 0, none⟩ = some (.int .u8 p.d) ∧ w.cell? ⟨b, 1, none⟩ = some (.int .u8 p.f) ∧ w.cell? ⟨b, 2, none⟩ = some (.int .u8 p.c) ∧ w.cell? ⟨b, 3, none⟩ = some (.int .u8 p.r) ∧ w.cell? ⟨b, 4, none⟩ = some (.int .i64 p.t) ∧ w.cell? ⟨b, 5, none⟩ = some (.int .i64 p.n) ∧ w.cell? ⟨b, 6, none⟩ = some (.int .i64 p.z) ∧ w.cell? ⟨b, 7, none⟩ = some (.int .i64 p.k) :=
  ⟨cell_of h rfl, cell_of h rfl, cell_of h rfl, cell_of h rfl, cell_of h rfl, cell_of h rfl, cell_of h rfl, cell_of h rfl⟩
theorem scells {w : World} {b : Nat} {p : Msc.St} {t : TypeId} (h : w.heap[b]? = some (.cells (scl p) t (0, 0))) : w.cell? ⟨b, 0, none⟩ = some (.int .u8 (p.d : Int)) ∧ w.cell? ⟨b, 1, none⟩ = some (.bool p.f) ∧ w.cell? ⟨b, 2, none⟩ = some (.bool p.c) ∧ w.cell? ⟨b, 3, none⟩ = some (.bool p.r) ∧ w.cell? ⟨b, 4, none⟩ = some (.bool p.i) ∧ w.cell? ⟨b, 5, none⟩ = some (.bool p.v) ∧ w.cell? ⟨b, 6, none⟩ = some (.bool p.b) ∧ w.cell? ⟨b, 7, none⟩ = some (.int .u8 (p.k : Int)) :=
  ⟨cell_of h rfl, cell_of h rfl, cell_of h rfl, cell_of h rfl, cell_of h rfl, cell_of h rfl, cell_of h rfl, cell_of h rfl⟩
theorem builtPf (p : Pn.Pr) : Tryd.prog.built 52 [(0, .int .u8 p.d), (1, .int .u8 p.f), (2, .int .u8 p.c), (3, .int .u8 p.r), (4, .int .i64 p.t), (5, .int .i64 p.n), (6, .int .i64 p.z), (7, .int .i64 p.k)] = some (pcl2 p) := by kernel_rfl
section
variable {ops : Array Oper} {rest : List Oper} {a : Act} {Q : Exit → Act → World → Prop} {d : Option Tmp} {x y : Operand} {ty : TypeId} {pos : String} {af : Array Edge} {w : World} {T b : Nat} {m : Ms} {t : TypeId} {K : Act → World → Prop} {X : Prop}
theorem bdC {parts : Array (Nat × Operand)} {l : List (Nat × Value)} {c : Array Value} (hb : Tryd.prog.built T l = some c) (hl : (parts.map fun (i, x) => (i, a.eval x)).toList = l) (k : wpList Tryd.prog ops Q rest (a.put d (.agg c)) w) :
    wpList Tryd.prog ops Q ({ dst := d, op := .build T parts, type := ty, pos := pos, after := af, guard := none } :: rest) a w := by
  subst hl
  refine wpList_build rfl T parts rfl (by rw [hb]; rfl) ?_
  rw [hb]
  exact k
theorem ex_bdc {g : Option (Nat × Bool)} {parts : Array (Nat × Operand)} {ρ : Operand → Value} (cs : Array Value) (hb : Tryd.prog.built T (parts.map fun (i, x) => (i, ρ x)).toList = some cs) :
    (execOp ρ { dst := d, op := .build T parts, type := ty, pos := pos, after := af, guard := g }).run Tryd.prog w = .ok (.value (.agg cs)) w := by
  unfold execOp
  simp only [Sem.run_bind, run_build w T _ cs hb, Sem.run_pure, Result.andThen_ok]
theorem step_stm (m0 : Ms) (hT : IsRow T 20) {m1 : Ms} (h : w.heap[b]? = some (mO m1 t)) (hx : a.eval x = ptr b) (hy : a.eval y = mv m0) (k : ∀ w', w'.heap[b]? = some (mO m0 t) → Mod b w w' → K (a.put d undef) w') :
    if Region.wanted { dst := d, op := .store T x y, type := ty, pos := pos, after := af, guard := none } (yielded ops a.tmps) = true then Oper.wp Tryd.prog { dst := d, op := .store T x y, type := ty, pos := pos, after := af, guard := none } a w K Q else X := by
  rw [if_pos (by simp [Region.wanted])]
  obtain ⟨cs', h1, _, h3, h4⟩ := setCells_block b (mc m0).toList 0 w _ t h
  obtain rfl := over_all m0 m1 cs' h3
  exact wp_store_mid T x y rfl b 0 (mc m0) hx hy (there_of h (by rw [mc_size, mc_size]; decide)) hT.size (one_all m0) (k _ h1 h4)
end
theorem fparams (p : Pn.Pr) (w : World) : Calls Tryd.prog 46 #[Pn.pv p] w fun e w' => e = .returned (Pn.pv p) ∧ Below w.heap.size w w' := by
  go_enter Tryd.func46, Tryd.ntmps46
  go_wp2_with (first
    | ((with_reducible refine bxz (pcl2 p) ?hx ?_); (case hx => rfl); intro b1 w1 h1 F1; have H1 := Lib.hid h1; have HB := Lib.hid F1.below; clear h1 F1)
    | ((with_reducible refine alr (cs := pcl2 Pn.zero) (by kernel_rfl) ?_); intro b2 w2 h2 F2; obtain ⟨c0, c1, c2, c3, c4, c5, c6, c7⟩ := pcells2 (F2.stays H1.out); have H2 := Lib.hid h2; have L2 := Lib.hid (F2.le HB.out); replace HB := Lib.hid (F2.on HB.out); clear h2 F2)
    | ((with_reducible refine bdC (builtPf p) ?hl ?_); (case hl => kernel_rfl))
    | ((with_reducible refine str (pcl2 p) isPr H2.out ?h0 ?h1 ?hc ?hx ?hy ?_); (case h0 => rfl); (case h1 => rfl); (case hc => simp [pcl2, Value.oneCell']); (case hx => rfl); (case hy => rfl); intro w3 h3 M3; replace H2 := Lib.hid h3; replace HB := Lib.hid (M3.below HB.out L2.out); clear h3 M3))
  exact bodyPost_ret (params_results _ _ b2 p _ H2.out rfl) rfl ⟨rfl, HB.out⟩
/-- Within ref: the three boxes. -/
structure Rf (w : World) (b1 b2 b3 : Nat) (m m2 : Ms) (u : World) : Prop where
  h1 : u.heap[b1]? = some (mO m MTf)
  h2 : u.heap[b2]? = some (mO m2 85)
  h3 : u.heap[b3]? = some (.cells (scl m.s) ST (0, 0))
  below : Below w.heap.size w u
  n1 : b1 ≠ b2
  n3 : b3 ≠ b2
  lo : w.heap.size ≤ b2
theorem Rf.on {w u u' : World} {b1 b2 b3 : Nat} {m m2 : Ms} (h : Rf w b1 b2 b3 m m2 u) (hb : Below u.heap.size u u') : Rf w b1 b2 b3 m m2 u' := ⟨Mem.stays h.h1 hb, Mem.stays h.h2 hb, Mem.stays h.h3 hb, below_on h.below hb, h.n1, h.n3, h.lo⟩
theorem Rf.stored {w u u' : World} {b1 b2 b3 : Nat} {m m2 m3 : Ms} (h : Rf w b1 b2 b3 m m2 u) (h2 : u'.heap[b2]? = some (mO m3 85)) (M : Mod b2 u u') : Rf w b1 b2 b3 m m3 u' :=
  ⟨M.other h.n1 h.h1, h2, M.other h.n3 h.h3, M.below h.below h.lo, h.n1, h.n3, h.lo⟩
set_option maxHeartbeats 4000000 in
theorem fref (m : Ms) (w : World) : Calls Tryd.prog 32 #[mv m] w fun e w' => e = .returned (mv m) ∧ Below w.heap.size w w' := by
  have CP := Lib.hid (fun w => fparams m.p w)
  go_enter Tryd.func32, Tryd.ntmps32
  go_wp2_with (first
    | ((with_reducible refine bxm (m := m) ?hx ?_); (case hx => rfl); intro b1 w1 h1 F1; have H1 := Lib.hid h1; have HB := Lib.hid F1.below; clear h1 F1)
    | ((with_reducible refine alm zeroR ?_); intro b2 w2 h2 F2; have N12 := Lib.hid (F2.ne H1.out); replace H1 := Lib.hid (F2.stays H1.out); have H2 := Lib.hid h2; have L2 := Lib.hid (F2.le HB.out); replace HB := Lib.hid (F2.on HB.out); clear h2 F2)
    | ((with_reducible refine lds isS H1.out ?hx ?_); (case hx => rfl))
    | ((with_reducible refine alr (cs := scl Msc.zero) (by kernel_rfl) ?_); intro b3 w3 h3 F3; have N23 := Lib.hid (F3.ne H2.out); have N13 := Lib.hid (F3.ne H1.out); replace H1 := Lib.hid (F3.stays H1.out); replace H2 := Lib.hid (F3.stays H2.out); have H3 := Lib.hid h3; have L3 := Lib.hid (F3.le HB.out); replace HB := Lib.hid (F3.on HB.out); clear h3 F3)
    | ((with_reducible refine str (scl m.s) isS H3.out ?h0 ?h1 ?hc ?hx ?hy ?_); (case h0 => rfl); (case h1 => rfl); (case hc => simp [scl, Value.oneCell']); (case hx => rfl); (case hy => rfl); intro w4 h4 M4; replace H3 := Lib.hid h4; replace H1 := Lib.hid (M4.other N13.out H1.out); replace H2 := Lib.hid (M4.other N23.out H2.out); replace HB := Lib.hid (M4.below HB.out L3.out); clear h4 M4))
  have HI : Hid (Rf w b1 b2 b3 m Msgs.zero w4.drew) := Lib.hid ⟨H1.out, H2.out, H3.out, HB.out.drew, N12.out, N23.out.symm, L2.out⟩
  clear H1 H2 H3 HB
  refine wp_region_held_drew (S := (fun w' => w'.heap[b1]? = some (mO m MTf) ∧ w'.heap[b3]? = some (.cells (scl m.s) ST (0, 0)))) (by kernel_rfl) ⟨HI.out.h1, HI.out.h3⟩ (fun hHeld => ?_)
  refine' wpAnyH_take (i := 0) (oi := { dst := some 6, op := Go.Op.fieldAddr 35 (Go.Operand.tmp 1) 0, type := 0, pos := "law.go:24", after := #[], guard := none }) (v := _) rfl (by kernel_rfl) (by kernel_rfl) (by kernel_rfl) (fun _ _ _ h => h) (Or.inl ⟨by rfl, ?hy1⟩) (by assumption) ?hr1
  case hy1 => (intro _ hSw; (try dsimp only at hSw); go_simp <;> with_reducible rfl)
  simp only [Act.put, List.setIfInBounds_toArray, List.set_cons_zero, List.set_cons_succ]
  refine' wpAnyH_take (i := 1) (oi := { dst := some 7, op := Go.Op.load 5 (Go.Operand.tmp 6), type := 5, pos := "law.go:24", after := #[{ on := 0, ground := Go.Ground.data }], guard := none }) (v := _) rfl (by kernel_rfl) (by kernel_rfl) (by kernel_rfl) (fun _ _ _ h => h) (Or.inl ⟨by rfl, ?hy2⟩) (by assumption) ?hr2
  case hy2 => (intro _ hSw; (try dsimp only at hSw); obtain ⟨q0, q1, q2, q3⟩ := flds hSw.1; go_simp <;> with_reducible rfl)
  simp only [Act.put, List.setIfInBounds_toArray, List.set_cons_zero, List.set_cons_succ]
  refine' wpAnyH_take (i := 2) (oi := { dst := some 8, op := Go.Op.fieldAddr 35 (Go.Operand.tmp 1) 1, type := 0, pos := "law.go:24", after := #[], guard := none }) (v := _) rfl (by kernel_rfl) (by kernel_rfl) (by kernel_rfl) (fun _ _ _ h => h) (Or.inl ⟨by rfl, ?hy3⟩) (by assumption) ?hr3
  case hy3 => (intro _ hSw; (try dsimp only at hSw); go_simp <;> with_reducible rfl)
  simp only [Act.put, List.setIfInBounds_toArray, List.set_cons_zero, List.set_cons_succ]
  refine' wpAnyH_take (i := 3) (oi := { dst := some 9, op := Go.Op.load 4 (Go.Operand.tmp 8), type := 4, pos := "law.go:24", after := #[{ on := 2, ground := Go.Ground.data }], guard := none }) (v := _) rfl (by kernel_rfl) (by kernel_rfl) (by kernel_rfl) (fun _ _ _ h => h) (Or.inl ⟨by rfl, ?hy4⟩) (by assumption) ?hr4
  case hy4 => (intro _ hSw; (try dsimp only at hSw); obtain ⟨q0, q1, q2, q3⟩ := flds hSw.1; go_simp <;> with_reducible rfl)
  simp only [Act.put, List.setIfInBounds_toArray, List.set_cons_zero, List.set_cons_succ]
  refine' wpAnyH_take (i := 4) (oi := { dst := some 10, op := Go.Op.fieldAddr 35 (Go.Operand.tmp 1) 2, type := 0, pos := "law.go:24", after := #[], guard := none }) (v := _) rfl (by kernel_rfl) (by kernel_rfl) (by kernel_rfl) (fun _ _ _ h => h) (Or.inl ⟨by rfl, ?hy5⟩) (by assumption) ?hr5
  case hy5 => (intro _ hSw; (try dsimp only at hSw); go_simp <;> with_reducible rfl)
  simp only [Act.put, List.setIfInBounds_toArray, List.set_cons_zero, List.set_cons_succ]
  refine' wpAnyH_take (i := 5) (oi := { dst := some 11, op := Go.Op.load 23 (Go.Operand.tmp 10), type := 23, pos := "law.go:24", after := #[{ on := 4, ground := Go.Ground.data }], guard := none }) (v := _) rfl (by kernel_rfl) (by kernel_rfl) (by kernel_rfl) (fun _ _ _ h => h) (Or.inl ⟨by rfl, ?hy6⟩) (by assumption) ?hr6
  case hy6 => (intro _ hSw; (try dsimp only at hSw); refine ex_ldp isP hSw.1 ?_; rfl)
  simp only [Act.put, List.setIfInBounds_toArray, List.set_cons_zero, List.set_cons_succ]
  refine' wpAnyH_take (i := 7) (oi := { dst := some 13, op := Go.Op.fieldAddr 33 (Go.Operand.tmp 3) 0, type := 0, pos := "law.go:24", after := #[], guard := none }) (v := _) rfl (by kernel_rfl) (by kernel_rfl) (by kernel_rfl) (fun _ _ _ h => h) (Or.inl ⟨by rfl, ?hy7⟩) (by assumption) ?hr7
  case hy7 => (intro _ hSw; (try dsimp only at hSw); go_simp <;> with_reducible rfl)
  simp only [Act.put, List.setIfInBounds_toArray, List.set_cons_zero, List.set_cons_succ]
  refine' wpAnyH_take (i := 8) (oi := { dst := some 14, op := Go.Op.load 5 (Go.Operand.tmp 13), type := 5, pos := "law.go:24", after := #[{ on := 7, ground := Go.Ground.data }], guard := none }) (v := _) rfl (by kernel_rfl) (by kernel_rfl) (by kernel_rfl) (fun _ _ _ h => h) (Or.inl ⟨by rfl, ?hy8⟩) (by assumption) ?hr8
  case hy8 => (intro _ hSw; (try dsimp only at hSw); obtain ⟨s0, s1, s2, s3, s4, s5, s6, s7⟩ := scells hSw.2; go_simp <;> with_reducible rfl)
  simp only [Act.put, List.setIfInBounds_toArray, List.set_cons_zero, List.set_cons_succ]
  refine' wpAnyH_take (i := 9) (oi := { dst := some 15, op := Go.Op.fieldAddr 33 (Go.Operand.tmp 3) 1, type := 0, pos := "law.go:24", after := #[], guard := none }) (v := _) rfl (by kernel_rfl) (by kernel_rfl) (by kernel_rfl) (fun _ _ _ h => h) (Or.inl ⟨by rfl, ?hy9⟩) (by assumption) ?hr9
  case hy9 => (intro _ hSw; (try dsimp only at hSw); go_simp <;> with_reducible rfl)
  simp only [Act.put, List.setIfInBounds_toArray, List.set_cons_zero, List.set_cons_succ]
  refine' wpAnyH_take (i := 10) (oi := { dst := some 16, op := Go.Op.load 4 (Go.Operand.tmp 15), type := 4, pos := "law.go:24", after := #[{ on := 9, ground := Go.Ground.data }], guard := none }) (v := _) rfl (by kernel_rfl) (by kernel_rfl) (by kernel_rfl) (fun _ _ _ h => h) (Or.inl ⟨by rfl, ?hy10⟩) (by assumption) ?hr10
  case hy10 => (intro _ hSw; (try dsimp only at hSw); obtain ⟨s0, s1, s2, s3, s4, s5, s6, s7⟩ := scells hSw.2; go_simp <;> with_reducible rfl)
  simp only [Act.put, List.setIfInBounds_toArray, List.set_cons_zero, List.set_cons_succ]
  refine' wpAnyH_take (i := 11) (oi := { dst := some 17, op := Go.Op.fieldAddr 33 (Go.Operand.tmp 3) 2, type := 0, pos := "law.go:24", after := #[], guard := none }) (v := _) rfl (by kernel_rfl) (by kernel_rfl) (by kernel_rfl) (fun _ _ _ h => h) (Or.inl ⟨by rfl, ?hy11⟩) (by assumption) ?hr11
  case hy11 => (intro _ hSw; (try dsimp only at hSw); go_simp <;> with_reducible rfl)
  simp only [Act.put, List.setIfInBounds_toArray, List.set_cons_zero, List.set_cons_succ]
  refine' wpAnyH_take (i := 12) (oi := { dst := some 18, op := Go.Op.load 4 (Go.Operand.tmp 17), type := 4, pos := "law.go:24", after := #[{ on := 11, ground := Go.Ground.data }], guard := none }) (v := _) rfl (by kernel_rfl) (by kernel_rfl) (by kernel_rfl) (fun _ _ _ h => h) (Or.inl ⟨by rfl, ?hy12⟩) (by assumption) ?hr12
  case hy12 => (intro _ hSw; (try dsimp only at hSw); obtain ⟨s0, s1, s2, s3, s4, s5, s6, s7⟩ := scells hSw.2; go_simp <;> with_reducible rfl)
  simp only [Act.put, List.setIfInBounds_toArray, List.set_cons_zero, List.set_cons_succ]
  refine' wpAnyH_take (i := 13) (oi := { dst := some 19, op := Go.Op.fieldAddr 33 (Go.Operand.tmp 3) 3, type := 0, pos := "law.go:24", after := #[], guard := none }) (v := _) rfl (by kernel_rfl) (by kernel_rfl) (by kernel_rfl) (fun _ _ _ h => h) (Or.inl ⟨by rfl, ?hy13⟩) (by assumption) ?hr13
  case hy13 => (intro _ hSw; (try dsimp only at hSw); go_simp <;> with_reducible rfl)
  simp only [Act.put, List.setIfInBounds_toArray, List.set_cons_zero, List.set_cons_succ]
  refine' wpAnyH_take (i := 14) (oi := { dst := some 20, op := Go.Op.load 4 (Go.Operand.tmp 19), type := 4, pos := "law.go:24", after := #[{ on := 13, ground := Go.Ground.data }], guard := none }) (v := _) rfl (by kernel_rfl) (by kernel_rfl) (by kernel_rfl) (fun _ _ _ h => h) (Or.inl ⟨by rfl, ?hy14⟩) (by assumption) ?hr14
  case hy14 => (intro _ hSw; (try dsimp only at hSw); obtain ⟨s0, s1, s2, s3, s4, s5, s6, s7⟩ := scells hSw.2; go_simp <;> with_reducible rfl)
  simp only [Act.put, List.setIfInBounds_toArray, List.set_cons_zero, List.set_cons_succ]
  refine' wpAnyH_take (i := 15) (oi := { dst := some 21, op := Go.Op.fieldAddr 33 (Go.Operand.tmp 3) 4, type := 0, pos := "law.go:24", after := #[], guard := none }) (v := _) rfl (by kernel_rfl) (by kernel_rfl) (by kernel_rfl) (fun _ _ _ h => h) (Or.inl ⟨by rfl, ?hy15⟩) (by assumption) ?hr15
  case hy15 => (intro _ hSw; (try dsimp only at hSw); go_simp <;> with_reducible rfl)
  simp only [Act.put, List.setIfInBounds_toArray, List.set_cons_zero, List.set_cons_succ]
  refine' wpAnyH_take (i := 16) (oi := { dst := some 22, op := Go.Op.load 4 (Go.Operand.tmp 21), type := 4, pos := "law.go:24", after := #[{ on := 15, ground := Go.Ground.data }], guard := none }) (v := _) rfl (by kernel_rfl) (by kernel_rfl) (by kernel_rfl) (fun _ _ _ h => h) (Or.inl ⟨by rfl, ?hy16⟩) (by assumption) ?hr16
  case hy16 => (intro _ hSw; (try dsimp only at hSw); obtain ⟨s0, s1, s2, s3, s4, s5, s6, s7⟩ := scells hSw.2; go_simp <;> with_reducible rfl)
  simp only [Act.put, List.setIfInBounds_toArray, List.set_cons_zero, List.set_cons_succ]
  refine' wpAnyH_take (i := 17) (oi := { dst := some 23, op := Go.Op.fieldAddr 33 (Go.Operand.tmp 3) 5, type := 0, pos := "law.go:24", after := #[], guard := none }) (v := _) rfl (by kernel_rfl) (by kernel_rfl) (by kernel_rfl) (fun _ _ _ h => h) (Or.inl ⟨by rfl, ?hy17⟩) (by assumption) ?hr17
  case hy17 => (intro _ hSw; (try dsimp only at hSw); go_simp <;> with_reducible rfl)
  simp only [Act.put, List.setIfInBounds_toArray, List.set_cons_zero, List.set_cons_succ]
  refine' wpAnyH_take (i := 18) (oi := { dst := some 24, op := Go.Op.load 4 (Go.Operand.tmp 23), type := 4, pos := "law.go:24", after := #[{ on := 17, ground := Go.Ground.data }], guard := none }) (v := _) rfl (by kernel_rfl) (by kernel_rfl) (by kernel_rfl) (fun _ _ _ h => h) (Or.inl ⟨by rfl, ?hy18⟩) (by assumption) ?hr18
  case hy18 => (intro _ hSw; (try dsimp only at hSw); obtain ⟨s0, s1, s2, s3, s4, s5, s6, s7⟩ := scells hSw.2; go_simp <;> with_reducible rfl)
  simp only [Act.put, List.setIfInBounds_toArray, List.set_cons_zero, List.set_cons_succ]
  refine' wpAnyH_take (i := 19) (oi := { dst := some 25, op := Go.Op.fieldAddr 33 (Go.Operand.tmp 3) 6, type := 0, pos := "law.go:24", after := #[], guard := none }) (v := _) rfl (by kernel_rfl) (by kernel_rfl) (by kernel_rfl) (fun _ _ _ h => h) (Or.inl ⟨by rfl, ?hy19⟩) (by assumption) ?hr19
  case hy19 => (intro _ hSw; (try dsimp only at hSw); go_simp <;> with_reducible rfl)
  simp only [Act.put, List.setIfInBounds_toArray, List.set_cons_zero, List.set_cons_succ]
  refine' wpAnyH_take (i := 20) (oi := { dst := some 26, op := Go.Op.load 4 (Go.Operand.tmp 25), type := 4, pos := "law.go:24", after := #[{ on := 19, ground := Go.Ground.data }], guard := none }) (v := _) rfl (by kernel_rfl) (by kernel_rfl) (by kernel_rfl) (fun _ _ _ h => h) (Or.inl ⟨by rfl, ?hy20⟩) (by assumption) ?hr20
  case hy20 => (intro _ hSw; (try dsimp only at hSw); obtain ⟨s0, s1, s2, s3, s4, s5, s6, s7⟩ := scells hSw.2; go_simp <;> with_reducible rfl)
  simp only [Act.put, List.setIfInBounds_toArray, List.set_cons_zero, List.set_cons_succ]
  refine' wpAnyH_take (i := 21) (oi := { dst := some 27, op := Go.Op.fieldAddr 33 (Go.Operand.tmp 3) 7, type := 0, pos := "law.go:24", after := #[], guard := none }) (v := _) rfl (by kernel_rfl) (by kernel_rfl) (by kernel_rfl) (fun _ _ _ h => h) (Or.inl ⟨by rfl, ?hy21⟩) (by assumption) ?hr21
  case hy21 => (intro _ hSw; (try dsimp only at hSw); go_simp <;> with_reducible rfl)
  simp only [Act.put, List.setIfInBounds_toArray, List.set_cons_zero, List.set_cons_succ]
  refine' wpAnyH_take (i := 22) (oi := { dst := some 28, op := Go.Op.load 5 (Go.Operand.tmp 27), type := 5, pos := "law.go:24", after := #[{ on := 21, ground := Go.Ground.data }], guard := none }) (v := _) rfl (by kernel_rfl) (by kernel_rfl) (by kernel_rfl) (fun _ _ _ h => h) (Or.inl ⟨by rfl, ?hy22⟩) (by assumption) ?hr22
  case hy22 => (intro _ hSw; (try dsimp only at hSw); obtain ⟨s0, s1, s2, s3, s4, s5, s6, s7⟩ := scells hSw.2; go_simp <;> with_reducible rfl)
  simp only [Act.put, List.setIfInBounds_toArray, List.set_cons_zero, List.set_cons_succ]
  refine' wpAnyH_take (i := 23) (oi := { dst := some 29, op := Go.Op.build 83 #[(0, Go.Operand.tmp 14), (1, Go.Operand.tmp 16), (2, Go.Operand.tmp 18), (3, Go.Operand.tmp 20), (4, Go.Operand.tmp 22), (5, Go.Operand.tmp 24), (6, Go.Operand.tmp 26), (7, Go.Operand.tmp 28)], type := 83, pos := "law.go:24", after := #[{ on := 8, ground := Go.Ground.data }, { on := 10, ground := Go.Ground.data }, { on := 12, ground := Go.Ground.data }, { on := 14, ground := Go.Ground.data }, { on := 16, ground := Go.Ground.data }, { on := 18, ground := Go.Ground.data }, { on := 20, ground := Go.Ground.data }, { on := 22, ground := Go.Ground.data }], guard := none }) (v := _) rfl (by kernel_rfl) (by kernel_rfl) (by kernel_rfl) (fun _ _ _ h => h) (Or.inl ⟨by rfl, ?hy23⟩) (by assumption) ?hr23
  case hy23 => (intro _ hSw; (try dsimp only at hSw); refine ex_bdc (scl m.s) ?_; kernel_rfl)
  simp only [Act.put, List.setIfInBounds_toArray, List.set_cons_zero, List.set_cons_succ]
  refine' wpAnyH_take (i := 24) (oi := { dst := some 30, op := Go.Op.fieldAddr 35 (Go.Operand.tmp 1) 4, type := 0, pos := "law.go:24", after := #[], guard := none }) (v := _) rfl (by kernel_rfl) (by kernel_rfl) (by kernel_rfl) (fun _ _ _ h => h) (Or.inl ⟨by rfl, ?hy24⟩) (by assumption) ?hr24
  case hy24 => (intro _ hSw; (try dsimp only at hSw); go_simp <;> with_reducible rfl)
  simp only [Act.put, List.setIfInBounds_toArray, List.set_cons_zero, List.set_cons_succ]
  refine' wpAnyH_take (i := 25) (oi := { dst := some 31, op := Go.Op.load 5 (Go.Operand.tmp 30), type := 5, pos := "law.go:24", after := #[{ on := 24, ground := Go.Ground.data }], guard := none }) (v := _) rfl (by kernel_rfl) (by kernel_rfl) (by kernel_rfl) (fun _ _ _ h => h) (Or.inl ⟨by rfl, ?hy25⟩) (by assumption) ?hr25
  case hy25 => (intro _ hSw; (try dsimp only at hSw); obtain ⟨q0, q1, q2, q3⟩ := flds hSw.1; go_simp <;> with_reducible rfl)
  simp only [Act.put, List.setIfInBounds_toArray, List.set_cons_zero, List.set_cons_succ]
  refine' wpAnyH_take (i := 26) (oi := { dst := some 32, op := Go.Op.fieldAddr 35 (Go.Operand.tmp 1) 5, type := 0, pos := "law.go:24", after := #[], guard := none }) (v := _) rfl (by kernel_rfl) (by kernel_rfl) (by kernel_rfl) (fun _ _ _ h => h) (Or.inl ⟨by rfl, ?hy26⟩) (by assumption) ?hr26
  case hy26 => (intro _ hSw; (try dsimp only at hSw); go_simp <;> with_reducible rfl)
  simp only [Act.put, List.setIfInBounds_toArray, List.set_cons_zero, List.set_cons_succ]
  refine' wpAnyH_take (i := 27) (oi := { dst := some 33, op := Go.Op.load 9 (Go.Operand.tmp 32), type := 9, pos := "law.go:24", after := #[{ on := 26, ground := Go.Ground.data }], guard := none }) (v := _) rfl (by kernel_rfl) (by kernel_rfl) (by kernel_rfl) (fun _ _ _ h => h) (Or.inl ⟨by rfl, ?hy27⟩) (by assumption) ?hr27
  case hy27 => (intro _ hSw; (try dsimp only at hSw); obtain ⟨q0, q1, q2, q3⟩ := flds hSw.1; go_simp <;> with_reducible rfl)
  simp only [Act.put, List.setIfInBounds_toArray, List.set_cons_zero, List.set_cons_succ]
  refine wpAnyH_ready (rs := [6]) (by kernel_rfl) (by simp) ?_
  refine AllReadyH.cons (o := { dst := some 12, op := Go.Op.call { callee := Go.Callee.value (Go.Operand.func 46), args := #[Go.Operand.tmp 11], argTypes := #[23] }, type := 52, pos := "law.go:24", after := #[{ on := 5, ground := Go.Ground.data }], guard := none }) rfl (fun K hK => ?_) AllReadyH.nil
  go_simp
  refine (CP.out _).mono ?_
  rintro e w5 ⟨rfl, hb⟩
  go_wp2_with fail
  have HI2 := Lib.hid (HI.out.on hb)
  clear HI hb
  have HI := HI2
  clear HI2
  refine hK.out _ _ ⟨HI.out.h1, HI.out.h3⟩ (fun hNext => ?_)
  clear hK K hHeld
  have hHeld := hNext
  clear hNext
  (try simp only [Act.put, List.setIfInBounds_toArray, List.set_cons_zero, List.set_cons_succ])
  refine' wpAnyH_take (i := 28) (oi := { dst := some 34, op := Go.Op.build 85 #[(0, Go.Operand.tmp 7), (1, Go.Operand.tmp 9), (2, Go.Operand.tmp 12), (3, Go.Operand.tmp 29), (4, Go.Operand.tmp 31), (5, Go.Operand.tmp 33)], type := 85, pos := "law.go:24", after := #[{ on := 1, ground := Go.Ground.data }, { on := 3, ground := Go.Ground.data }, { on := 6, ground := Go.Ground.data }, { on := 23, ground := Go.Ground.data }, { on := 25, ground := Go.Ground.data }, { on := 27, ground := Go.Ground.data }], guard := none }) (v := _) rfl (by kernel_rfl) (by kernel_rfl) (by kernel_rfl) (fun _ _ _ h => h) (Or.inl ⟨by rfl, ?hy28⟩) (by assumption) ?hr28
  case hy28 => (intro _ hSw; (try dsimp only at hSw); refine ex_bd m ?_; kernel_rfl)
  simp only [Act.put, List.setIfInBounds_toArray, List.set_cons_zero, List.set_cons_succ]
  refine wpAnyH_ready (rs := [29]) (by kernel_rfl) (by simp) ?_
  refine AllReadyH.cons (o := { dst := none, op := Go.Op.store 85 (Go.Operand.tmp 2) (Go.Operand.tmp 34), type := 0, pos := "law.go:24", after := #[{ on := 28, ground := Go.Ground.data }, { on := 6, ground := Go.Ground.chain }, { on := 0, ground := Go.Ground.phase }, { on := 1, ground := Go.Ground.phase }, { on := 2, ground := Go.Ground.phase }, { on := 3, ground := Go.Ground.phase }, { on := 4, ground := Go.Ground.phase }, { on := 5, ground := Go.Ground.phase }, { on := 6, ground := Go.Ground.phase }, { on := 7, ground := Go.Ground.phase }, { on := 8, ground := Go.Ground.phase }, { on := 9, ground := Go.Ground.phase }, { on := 10, ground := Go.Ground.phase }, { on := 11, ground := Go.Ground.phase }, { on := 12, ground := Go.Ground.phase }, { on := 13, ground := Go.Ground.phase }, { on := 14, ground := Go.Ground.phase }, { on := 15, ground := Go.Ground.phase }, { on := 16, ground := Go.Ground.phase }, { on := 17, ground := Go.Ground.phase }, { on := 18, ground := Go.Ground.phase }, { on := 19, ground := Go.Ground.phase }, { on := 20, ground := Go.Ground.phase }, { on := 21, ground := Go.Ground.phase }, { on := 22, ground := Go.Ground.phase }, { on := 23, ground := Go.Ground.phase }, { on := 24, ground := Go.Ground.phase }, { on := 25, ground := Go.Ground.phase }, { on := 26, ground := Go.Ground.phase }, { on := 27, ground := Go.Ground.phase }, { on := 28, ground := Go.Ground.phase }], guard := none }) rfl (fun K hK => ?_) AllReadyH.nil
  refine step_stm m isR HI.out.h2 rfl rfl ?_
  intro w6 h M
  have HE := Lib.hid (HI.out.stored h M)
  clear h M
  refine hK.out _ _ ⟨HE.out.h1, HE.out.h3⟩ (fun hNext => ?_)
  clear hK K hHeld
  have hHeld := hNext
  clear hNext
  (try simp only [Act.put])
  refine wpAnyH_done (by kernel_rfl) ?_ _
  clear hHeld
  go_wp2_with fail
  exact bodyPost_ret (ref_results _ _ b2 m _ HE.out.h2 rfl) rfl ⟨rfl, HE.out.below⟩
end Go.Proofs.YtakkhdammmcjcaaDoor.Ctl
