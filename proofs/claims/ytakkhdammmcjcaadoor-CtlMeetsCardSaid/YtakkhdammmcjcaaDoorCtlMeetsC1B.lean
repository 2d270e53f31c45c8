/-
  CtlMeets' third loop, its round for the second side: from what holds at its head to what the next one begins with. Condition: the talk has ended as the plain mathematics tell.
-/
import Derived.Test.YtakkhdammmcjcaaDoorCtlCodeB
import Derived.Deep.DeepCutAuto
namespace Go.Proofs.YtakkhdammmcjcaaDoor.ctlMeets
open Go.RowKit Go.Proofs.YtakkhdammmcjcaaDoor.Base Go.Proofs.YtakkhdammmcjcaaDoor.Mem Go.Proofs.YtakkhdammmcjcaaDoor.Msgs Go.Proofs.YtakkhdammmcjcaaDoor.Cr Go.Proofs.YtakkhdammmcjcaaDoor.Ctl
set_option maxRecDepth 100000
section
variable {p0 p1 : Pn.Pr} {oa ob o0 o1 : Option Addr} {n ca m cb n0 k0 n1 k1 b4 b5 b9 b10 b11 c0 c1 la lb gk : Nat} {w wr : World} {y0 y1 : Ct} {f0 f1 : List Fa} {A B : List Ms} {J : Nat → Act → World → Prop} {K : Act → World → Prop} {K1 : Act → World → Prop}
  {u8 u13 u14 u16 u17 u18 u20 u21 u22 u23 u24 u25 u26 u27 u28 u29 u30 u31 u32 u33 u34 u35 u36 u37 u38 u39 u45 u46 u47 u48 u49 u50 u51 u52 u53 u54 u55 u56 u57 u58 u59 u60 u61 u62 u63 u64 u65 u66 u67 u68 u69 u70 u71 u72 u73 u74 u77 u78 u79 u80 u81 u82 u83 u84 u85 u86 u87 u88 u89 u90 u91 u92 u93 u94 u95 u96 u97 u98 u99 u100 u101 u102 u103 u104 u105 u106 u107 u108 u109 u110 u111 u112 u113 u114 u115 u116 u117 u118 u119 u120 u121 u122 u123 u124 u125 u126 u127 u128 u129 u130 u131 u132 u133 u134 u135 u136 u137 u138 u139 u140 u141 u142 u143 u144 u145 u146 u147 u148 u149 u150 u151 u152 u153 u154 u155 u156 u157 u158 u159 u160 u161 u162 u163 u164 u165 u166 u167 u168 u169 u170 u171 u172 u173 u174 u175 u176 u177 u178 u179 u180 u181 u182 u183 u184 u185 u186 u187 u188 u189 u190 u191 u192 u193 u194 u195 u196 u197 u198 u199 u200 u201 u202 u203 u204 u205 u206 u207 u208 u209 u210 u211 u212 u213 u214 u215 u216 u217 u218 u219 u220 u221 u222 u223 u224 : Value}
set_option maxHeartbeats 64000000 in
theorem sC1 (HE : Hid (Ends p0 p1 A B y0 y1 f0 f1)) (_ : Hid (A.length = la)) (HLB : Hid (B.length = lb))
    (CLA : Hid (∀ (u : World), Below w.heap.size w u → Calls Tryd.prog 13 #[.slice oa n ca] u fun e u' => ∃ oq cq, e = .returned (.slice oq la cq) ∧ OwnS MT 20 ml u' u.heap.size (.slice oq la cq) A ∧ Below u.heap.size u u'))
    (CLB : Hid (∀ (u : World), Below w.heap.size w u → Calls Tryd.prog 13 #[.slice ob m cb] u fun e u' => ∃ oq cq, e = .returned (.slice oq lb cq) ∧ OwnS MT 20 ml u' u.heap.size (.slice oq lb cq) B ∧ Below u.heap.size u u'))
    (_ : la ≤ 20) (lb20 : lb ≤ 20) (_ : Hid (f0.length = n0)) (HN1 : Hid (f1.length = n1)) (_ : IntKind.i64.wrap ((la : Int) + (lb : Int)) = (n0 : Int)) (wl1 : IntKind.i64.wrap ((lb : Int) + (la : Int)) = (n1 : Int)) (_ : n0 ≤ 40) (n1le : n1 ≤ 40)
    (hgm : 2 - 1 ≤ gk) (ME1 : Hid (Me w c0 c1 b4 b5 b9 b10 b11 p0 p1 (.slice oa n ca) (.slice ob m cb) (.slice o0 n0 k0) (.slice o1 n1 k1) y0 y1 f0 f1 wr))
    (hJ : ∀ (k : Nat) (a' : Act) (w' : World), (∃ u8 u19 u20 u21 u22 u23 u24 u25 u106 u107 u108 u109 u110 u111 u112 u113 u114 u115 u116 u117 u118 u119 u120 u121 u122 u123 u124 u125 u126 u127 u128 u129 u130 u131 u132 u133 u134 u135 u136 u137 u138 u139 u140 u141 u142 u143 u144 u145 u146 u147 u148 u149 u150 u151 u152 u153 u154 u155 u156 u157 u158 u159 u160 u161 u162 u163 u164 u165 u166 u167 u168 u169 u170 u171 u172 u173 u174 u175 u176 u177 u178 u179 u180 u181 u182 u183 u184 u185 u186 u187 u188 u189 u190 u191 u192 u193 u194 u195 u196 u197 u198 u199 u200 u201 u202 u203 u204 u205 u206 u207 u208 u209 u210 u211 u212 u213 u214 u215 u216 u217 u218 u219 u220 u221 u222 u223 : Value, (∃ k_1 : Nat, u19 = nm k_1 ∧ 2 - k_1 ≤ k ∧ k_1 ≤ 2 ∧ Hid (Me w c0 c1 b4 b5 b9 b10 b11 p0 p1 (.slice oa n ca) (.slice ob m cb) (.slice o0 n0 k0) (.slice o1 n1 k1) y0 y1 f0 f1 w')) ∧ a' = ⟨#[Pn.pv p0, Pn.pv p1, Value.slice oa n ca, Value.slice ob m cb, ptr b4, ptr b5, undef, undef, u8, ptr b9, ptr b10, ptr b11, nm 2, u13, u14, nm 200, u16, u17, u18, u19, u20, u21, u22, u23, u24, u25, u26, u27, u28, u29, u30, u31, u32, u33, u34, u35, u36, u37, u38, u39, Value.slice oa n ca, Value.slice ob m cb, Value.agg #[Value.slice oa n ca, Value.slice ob m cb], nm 2, Value.bool false, u45, u46, u47, u48, u49, u50, u51, u52, u53, u54, u55, u56, u57, u58, u59, u60, u61, u62, u63, u64, u65, u66, u67, u68, u69, u70, u71, u72, u73, u74, nm 200, Value.bool false, u77, u78, u79, u80, u81, u82, u83, u84, u85, u86, u87, u88, u89, u90, u91, u92, u93, u94, u95, u96, u97, u98, u99, u100, u101, u102, u103, u104, u105, u106, u107, u108, u109, u110, u111, u112, u113, u114, u115, u116, u117, u118, u119, u120, u121, u122, u123, u124, u125, u126, u127, u128, u129, u130, u131, u132, u133, u134, u135, u136, u137, u138, u139, u140, u141, u142, u143, u144, u145, u146, u147, u148, u149, u150, u151, u152, u153, u154, u155, u156, u157, u158, u159, u160, u161, u162, u163, u164, u165, u166, u167, u168, u169, u170, u171, u172, u173, u174, u175, u176, u177, u178, u179, u180, u181, u182, u183, u184, u185, u186, u187, u188, u189, u190, u191, u192, u193, u194, u195, u196, u197, u198, u199, u200, u201, u202, u203, u204, u205, u206, u207, u208, u209, u210, u211, u212, u213, u214, u215, u216, u217, u218, u219, u220, u221, u222, u223, u224], []⟩) → J k a' w')
    (hK : ∀ (a' : Act) (w' : World), Handed J gk a' w' → K a' w') :
    Code.wp Tryd.prog bodyC (Exit.then K (Exit.inBlock 6 (Exit.then K1 (bodyPost Tryd.prog Tryd.f3 fun e w' => e = .returned (.bool true) ∧ Below w.heap.size w w')))) ⟨#[Pn.pv p0, Pn.pv p1, Value.slice oa n ca, Value.slice ob m cb, ptr b4, ptr b5, undef, undef, u8, ptr b9, ptr b10, ptr b11, nm 2, u13, u14, nm 200, u16, u17, u18, nm 1, u20, u21, u22, u23, u24, u25, u26, u27, u28, u29, u30, u31, u32, u33, u34, u35, u36, u37, u38, u39, Value.slice oa n ca, Value.slice ob m cb, Value.agg #[Value.slice oa n ca, Value.slice ob m cb], nm 2, Value.bool false, u45, u46, u47, u48, u49, u50, u51, u52, u53, u54, u55, u56, u57, u58, u59, u60, u61, u62, u63, u64, u65, u66, u67, u68, u69, u70, u71, u72, u73, u74, nm 200, Value.bool false, u77, u78, u79, u80, u81, u82, u83, u84, u85, u86, u87, u88, u89, u90, u91, u92, u93, u94, u95, u96, u97, u98, u99, u100, u101, u102, u103, u104, u105, u106, u107, u108, u109, u110, u111, u112, u113, u114, u115, u116, u117, u118, u119, u120, u121, u122, u123, u124, u125, u126, u127, u128, u129, u130, u131, u132, u133, u134, u135, u136, u137, u138, u139, u140, u141, u142, u143, u144, u145, u146, u147, u148, u149, u150, u151, u152, u153, u154, u155, u156, u157, u158, u159, u160, u161, u162, u163, u164, u165, u166, u167, u168, u169, u170, u171, u172, u173, u174, u175, u176, u177, u178, u179, u180, u181, u182, u183, u184, u185, u186, u187, u188, u189, u190, u191, u192, u193, u194, u195, u196, u197, u198, u199, u200, u201, u202, u203, u204, u205, u206, u207, u208, u209, u210, u211, u212, u213, u214, u215, u216, u217, u218, u219, u220, u221, u222, u223, u224], []⟩ wr := by
  have hk2 : 1 ≤ 2 := by decide
  conv => arg 2; whnf
  have q0 : IntKind.i64.wrap 0 = 0 := rfl
  have q1 : IntKind.i64.wrap 1 = 1 := rfl
  have CW_ : Hid (∀ u : World, Tw w c0 c1 p0 p1 y0 y1 u → Calls Tryd.prog 12 #[ptr c1] u fun e u' => e = .returned (.tuple #[.int .i64 0, .int .i64 0]) ∧ Below u.heap.size u u') := Lib.hid (fun u h => waits_nil (h.waits1) HE.out.a1 HE.out.c1)
  obtain ⟨d1, d2, d3, d4, d5, d6⟩ := ME1.out.cells
  go_wp2_with (first
    | (go_at_call 12; refine (CW_.out _ ME1.out.tw).mono ?_; rintro _ w7 ⟨rfl, hb⟩; have ME7 := Lib.hid (ME1.out.on hb); clear hb d1 d2 d3 d4 d5 d6 ME1; obtain ⟨d1, d2, d3, d4, d5, d6⟩ := ME7.out.cells)
    | (go_at_call 13; refine (CLB.out _ ME7.out.tw.below).mono ?_; rintro _ w8 ⟨oq, cq, rfl, ho, hb⟩; have ME8 := Lib.hid (ME7.out.on hb); have HO8 := Lib.hid (own_weak ho ME7.out.tw.below.size); clear ho hb d1 d2 d3 d4 d5 d6 ME7))
  replace ME8 := Lib.hid (ME8.out.on (u' := w8.drew) ⟨rfl, rfl, rfl, Nat.le_refl _, fun _ _ => rfl⟩)
  replace HO8 := Lib.hid (HO8.out.below (w' := w8.drew) ⟨rfl, rfl, rfl, Nat.le_refl _, fun _ _ => rfl⟩)
  refine wp_region_held_drew (S := (fun w' => Me w c0 c1 b4 b5 b9 b10 b11 p0 p1 (.slice oa n ca) (.slice ob m cb) (.slice o0 n0 k0) (.slice o1 n1 k1) y0 y1 f0 f1 w')) (by kernel_rfl) ME8.out (fun hHeld => ?_)
  refine' wpAnyH_take (i := 0) (oi := { dst := some 121, op := Go.Op.move (Go.Operand.tmp 20), type := 3, pos := "law.go:162", after := #[], guard := none }) (v := _) rfl (by kernel_rfl) (by kernel_rfl) (by kernel_rfl) (fun _ _ _ h => h) (Or.inl ⟨by rfl, ?hy170⟩) (by assumption) ?hr170
  case hy170 => (intro _ hSw; (try dsimp only at hSw); go_simp <;> with_reducible rfl)
  simp only [Act.put, List.setIfInBounds_toArray, List.set_cons_zero, List.set_cons_succ]
  refine' wpAnyH_take (i := 1) (oi := { dst := some 122, op := Go.Op.binOp Go.BinOp.neq 3 (Go.Operand.tmp 121) (Go.Operand.const (Go.Value.int Go.IntKind.i64 0)) 3, type := 4, pos := "law.go:162", after := #[{ on := 0, ground := Go.Ground.data }], guard := none }) (v := _) rfl (by kernel_rfl) (by kernel_rfl) (by kernel_rfl) (fun _ _ _ h => h) (Or.inl ⟨by rfl, ?hy171⟩) (by assumption) ?hr171
  case hy171 => (intro _ hSw; (try dsimp only at hSw); go_simp <;> with_reducible rfl)
  simp only [Act.put, List.setIfInBounds_toArray, List.set_cons_zero, List.set_cons_succ]
  refine' wpAnyH_take (i := 2) (oi := { dst := some 123, op := Go.Op.move (Go.Operand.tmp 122), type := 4, pos := "law.go:162", after := #[{ on := 1, ground := Go.Ground.data }], guard := none }) (v := _) rfl (by kernel_rfl) (by kernel_rfl) (by kernel_rfl) (fun _ _ _ h => h) (Or.inl ⟨by rfl, ?hy172⟩) (by assumption) ?hr172
  case hy172 => (intro _ hSw; (try dsimp only at hSw); go_simp <;> with_reducible rfl)
  simp only [Act.put, List.setIfInBounds_toArray, List.set_cons_zero, List.set_cons_succ]
  refine' wpAnyH_take (i := 3) (oi := { dst := some 124, op := Go.Op.move (Go.Operand.tmp 21), type := 3, pos := "law.go:162", after := #[{ on := 2, ground := Go.Ground.guard }], guard := some (2, false) }) (v := _) rfl (by kernel_rfl) (by kernel_rfl) (by kernel_rfl) (fun _ _ _ h => h) (Or.inl ⟨by rfl, ?hy173⟩) (by assumption) ?hr173
  case hy173 => (intro _ hSw; (try dsimp only at hSw); go_simp <;> with_reducible rfl)
  simp only [Act.put, List.setIfInBounds_toArray, List.set_cons_zero, List.set_cons_succ]
  refine' wpAnyH_take (i := 4) (oi := { dst := some 125, op := Go.Op.binOp Go.BinOp.neq 3 (Go.Operand.tmp 124) (Go.Operand.const (Go.Value.int Go.IntKind.i64 0)) 3, type := 4, pos := "law.go:162", after := #[{ on := 3, ground := Go.Ground.data }, { on := 2, ground := Go.Ground.guard }], guard := some (2, false) }) (v := _) rfl (by kernel_rfl) (by kernel_rfl) (by kernel_rfl) (fun _ _ _ h => h) (Or.inl ⟨by rfl, ?hy174⟩) (by assumption) ?hr174
  case hy174 => (intro _ hSw; (try dsimp only at hSw); go_simp <;> with_reducible rfl)
  simp only [Act.put, List.setIfInBounds_toArray, List.set_cons_zero, List.set_cons_succ]
  refine' wpAnyH_take (i := 5) (oi := { dst := some 126, op := Go.Op.pick (Go.Operand.tmp 123) (Go.Operand.const (Go.Value.bool true)) (Go.Operand.tmp 125), type := 4, pos := "law.go:162", after := #[{ on := 2, ground := Go.Ground.data }, { on := 4, ground := Go.Ground.data }], guard := none }) (v := _) rfl (by kernel_rfl) (by kernel_rfl) (by kernel_rfl) (fun _ _ _ h => h) (Or.inl ⟨by rfl, ?hy175⟩) (by assumption) ?hr175
  case hy175 => (intro _ hSw; (try dsimp only at hSw); go_simp <;> with_reducible rfl)
  simp only [Act.put, List.setIfInBounds_toArray, List.set_cons_zero, List.set_cons_succ]
  refine' wpAnyH_take (i := 6) (oi := { dst := some 127, op := Go.Op.move (Go.Operand.tmp 126), type := 4, pos := "law.go:162", after := #[{ on := 5, ground := Go.Ground.data }, { on := 2, ground := Go.Ground.chain }], guard := none }) (v := _) rfl (by kernel_rfl) (by kernel_rfl) (by kernel_rfl) (fun _ _ _ h => h) (Or.inl ⟨by rfl, ?hy176⟩) (by assumption) ?hr176
  case hy176 => (intro _ hSw; (try dsimp only at hSw); go_simp <;> with_reducible rfl)
  simp only [Act.put, List.setIfInBounds_toArray, List.set_cons_zero, List.set_cons_succ]
  refine' wpAnyH_take (i := 7) (oi := { dst := some 128, op := Go.Op.move (Go.Operand.tmp 19), type := 3, pos := "law.go:162", after := #[{ on := 6, ground := Go.Ground.guard }], guard := some (6, false) }) (v := _) rfl (by kernel_rfl) (by kernel_rfl) (by kernel_rfl) (fun _ _ _ h => h) (Or.inl ⟨by rfl, ?hy177⟩) (by assumption) ?hr177
  case hy177 => (intro _ hSw; (try dsimp only at hSw); go_simp <;> with_reducible rfl)
  simp only [Act.put, List.setIfInBounds_toArray, List.set_cons_zero, List.set_cons_succ]
  refine' wpAnyH_take (i := 8) (oi := { dst := some 129, op := Go.Op.indexAddr 30 (Go.Operand.tmp 10) (Go.Operand.tmp 128), type := 0, pos := "law.go:162", after := #[{ on := 7, ground := Go.Ground.data }, { on := 6, ground := Go.Ground.guard }], guard := some (6, false) }) (v := _) rfl (by kernel_rfl) (by kernel_rfl) (by kernel_rfl) (fun _ _ _ h => h) (Or.inl ⟨by rfl, ?hy178⟩) (by assumption) ?hr178
  case hy178 => (intro _ hSw; (try dsimp only at hSw); go_simp <;> with_reducible rfl)
  simp only [Act.put, List.setIfInBounds_toArray, List.set_cons_zero, List.set_cons_succ]
  refine' wpAnyH_take (i := 9) (oi := { dst := some 130, op := Go.Op.load 29 (Go.Operand.tmp 129), type := 29, pos := "law.go:162", after := #[{ on := 8, ground := Go.Ground.data }, { on := 6, ground := Go.Ground.guard }], guard := some (6, false) }) (v := _) rfl (by kernel_rfl) (by kernel_rfl) (by kernel_rfl) (fun _ _ _ h => h) (Or.inl ⟨by rfl, ?hy179⟩) (by assumption) ?hr179
  case hy179 => (intro _ hSw; (try dsimp only at hSw); have e10 := (hSw.cells).2.2.2.1; go_simp <;> with_reducible rfl)
  simp only [Act.put, List.setIfInBounds_toArray, List.set_cons_zero, List.set_cons_succ]
  refine' wpAnyH_take (i := 10) (oi := { dst := some 131, op := Go.Op.call { callee := Go.Callee.builtin Go.Builtin.len, args := #[Go.Operand.tmp 130], argTypes := #[29] }, type := 3, pos := "law.go:162", after := #[{ on := 9, ground := Go.Ground.data }, { on := 6, ground := Go.Ground.guard }], guard := some (6, false) }) (v := _) rfl (by kernel_rfl) (by kernel_rfl) (by kernel_rfl) (fun _ _ _ h => h) (Or.inl ⟨by rfl, ?hy180⟩) (by assumption) ?hr180
  case hy180 => (intro _ hSw; (try dsimp only at hSw); go_simp <;> with_reducible rfl)
  simp only [Act.put, List.setIfInBounds_toArray, List.set_cons_zero, List.set_cons_succ]
  refine' wpAnyH_take (i := 11) (oi := { dst := some 132, op := Go.Op.move (Go.Operand.tmp 22), type := 24, pos := "law.go:162", after := #[{ on := 6, ground := Go.Ground.guard }], guard := some (6, false) }) (v := _) rfl (by kernel_rfl) (by kernel_rfl) (by kernel_rfl) (fun _ _ _ h => h) (Or.inl ⟨by rfl, ?hy181⟩) (by assumption) ?hr181
  case hy181 => (intro _ hSw; (try dsimp only at hSw); go_simp <;> with_reducible rfl)
  simp only [Act.put, List.setIfInBounds_toArray, List.set_cons_zero, List.set_cons_succ]
  refine' wpAnyH_take (i := 12) (oi := { dst := some 133, op := Go.Op.call { callee := Go.Callee.builtin Go.Builtin.len, args := #[Go.Operand.tmp 132], argTypes := #[24] }, type := 3, pos := "law.go:162", after := #[{ on := 11, ground := Go.Ground.data }, { on := 6, ground := Go.Ground.guard }], guard := some (6, false) }) (v := _) rfl (by kernel_rfl) (by kernel_rfl) (by kernel_rfl) (fun _ _ _ h => h) (Or.inl ⟨by rfl, ?hy182⟩) (by assumption) ?hr182
  case hy182 => (intro _ hSw; (try dsimp only at hSw); go_simp <;> with_reducible rfl)
  simp only [Act.put, List.setIfInBounds_toArray, List.set_cons_zero, List.set_cons_succ]
  refine' wpAnyH_take (i := 13) (oi := { dst := some 134, op := Go.Op.move (Go.Operand.tmp 19), type := 3, pos := "law.go:162", after := #[{ on := 6, ground := Go.Ground.guard }], guard := some (6, false) }) (v := _) rfl (by kernel_rfl) (by kernel_rfl) (by kernel_rfl) (fun _ _ _ h => h) (Or.inl ⟨by rfl, ?hy183⟩) (by assumption) ?hr183
  case hy183 => (intro _ hSw; (try dsimp only at hSw); go_simp <;> with_reducible rfl)
  simp only [Act.put, List.setIfInBounds_toArray, List.set_cons_zero, List.set_cons_succ]
  refine' wpAnyH_take (i := 14) (oi := { dst := some 135, op := Go.Op.binOp Go.BinOp.sub 3 (Go.Operand.const (Go.Value.int Go.IntKind.i64 1)) (Go.Operand.tmp 134) 3, type := 3, pos := "law.go:162", after := #[{ on := 13, ground := Go.Ground.data }, { on := 6, ground := Go.Ground.guard }], guard := some (6, false) }) (v := _) rfl (by kernel_rfl) (by kernel_rfl) (by kernel_rfl) (fun _ _ _ h => h) (Or.inl ⟨by rfl, ?hy184⟩) (by assumption) ?hr184
  case hy184 => (intro _ hSw; (try dsimp only at hSw); go_simp <;> with_reducible rfl)
  simp only [Act.put, List.setIfInBounds_toArray, List.set_cons_zero, List.set_cons_succ]
  refine' wpAnyH_take (i := 15) (oi := { dst := some 136, op := Go.Op.indexAddr 31 (Go.Operand.tmp 11) (Go.Operand.tmp 135), type := 0, pos := "law.go:162", after := #[{ on := 14, ground := Go.Ground.data }, { on := 6, ground := Go.Ground.guard }], guard := some (6, false) }) (v := _) rfl (by kernel_rfl) (by kernel_rfl) (by kernel_rfl) (fun _ _ _ h => h) (Or.inl ⟨by rfl, ?hy185⟩) (by assumption) ?hr185
  case hy185 => (intro _ hSw; (try dsimp only at hSw); go_simp <;> with_reducible rfl)
  simp only [Act.put, List.setIfInBounds_toArray, List.set_cons_zero, List.set_cons_succ]
  refine' wpAnyH_take (i := 16) (oi := { dst := some 137, op := Go.Op.load 24 (Go.Operand.tmp 136), type := 24, pos := "law.go:162", after := #[{ on := 15, ground := Go.Ground.data }, { on := 6, ground := Go.Ground.guard }], guard := some (6, false) }) (v := _) rfl (by kernel_rfl) (by kernel_rfl) (by kernel_rfl) (fun _ _ _ h => h) (Or.inl ⟨by rfl, ?hy186⟩) (by assumption) ?hr186
  case hy186 => (intro _ hSw; (try dsimp only at hSw); have e11 := (hSw.cells).2.2.2.2.1; go_simp <;> with_reducible rfl)
  simp only [Act.put, List.setIfInBounds_toArray, List.set_cons_zero, List.set_cons_succ]
  refine wpAnyH_ready (rs := [17]) (by kernel_rfl) (by simp) ?_
  refine AllReadyH.cons (o := { dst := some 138, op := Go.Op.call { callee := Go.Callee.value (Go.Operand.func 13), args := #[Go.Operand.tmp 137], argTypes := #[24] }, type := 24, pos := "law.go:162", after := #[{ on := 16, ground := Go.Ground.data }, { on := 6, ground := Go.Ground.chain }, { on := 6, ground := Go.Ground.guard }], guard := some (6, false) }) rfl (fun K hK => ?_) AllReadyH.nil
  go_simp
  refine (CLA.out _ ME8.out.tw.below).mono ?_
  rintro e w9 ⟨oq9, cq9, rfl, ho, hb⟩
  go_wp2_with fail
  have ME9 := Lib.hid (ME8.out.on hb)
  have HO9 := Lib.hid (HO8.out.below hb)
  clear ME8 HO8 ho hb
  refine hK.out _ _ ME9.out (fun hNext => ?_)
  clear hK K hHeld
  have hHeld := hNext
  clear hNext
  (try simp only [Act.put, List.setIfInBounds_toArray, List.set_cons_zero, List.set_cons_succ])
  refine' wpAnyH_take (i := 18) (oi := { dst := some 139, op := Go.Op.call { callee := Go.Callee.builtin Go.Builtin.len, args := #[Go.Operand.tmp 138], argTypes := #[24] }, type := 3, pos := "law.go:162", after := #[{ on := 17, ground := Go.Ground.data }, { on := 6, ground := Go.Ground.guard }], guard := some (6, false) }) (v := _) rfl (by kernel_rfl) (by kernel_rfl) (by kernel_rfl) (fun _ _ _ h => h) (Or.inl ⟨by rfl, ?hy187⟩) (by assumption) ?hr187
  case hy187 => (intro _ hSw; (try dsimp only at hSw); go_simp <;> with_reducible rfl)
  simp only [Act.put, List.setIfInBounds_toArray, List.set_cons_zero, List.set_cons_succ]
  refine' wpAnyH_take (i := 19) (oi := { dst := some 140, op := Go.Op.binOp Go.BinOp.add 3 (Go.Operand.tmp 133) (Go.Operand.tmp 139) 3, type := 3, pos := "law.go:162", after := #[{ on := 12, ground := Go.Ground.data }, { on := 18, ground := Go.Ground.data }, { on := 6, ground := Go.Ground.guard }], guard := some (6, false) }) (v := _) rfl (by kernel_rfl) (by kernel_rfl) (by kernel_rfl) (fun _ _ _ h => h) (Or.inl ⟨by rfl, ?hy188⟩) (by assumption) ?hr188
  case hy188 => (intro _ hSw; (try dsimp only at hSw); go_simp <;> with_reducible rfl)
  simp only [Act.put, List.setIfInBounds_toArray, List.set_cons_zero, List.set_cons_succ]
  refine' wpAnyH_take (i := 20) (oi := { dst := some 141, op := Go.Op.binOp Go.BinOp.neq 3 (Go.Operand.tmp 131) (Go.Operand.tmp 140) 3, type := 4, pos := "law.go:162", after := #[{ on := 10, ground := Go.Ground.data }, { on := 19, ground := Go.Ground.data }, { on := 6, ground := Go.Ground.guard }], guard := some (6, false) }) (v := _) rfl (by kernel_rfl) (by kernel_rfl) (by kernel_rfl) (fun _ _ _ h => h) (Or.inl ⟨by rfl, ?hy189⟩) (by assumption) ?hr189
  case hy189 => (intro _ hSw; (try dsimp only at hSw); go_simp <;> with_reducible rfl)
  simp only [Act.put, List.setIfInBounds_toArray, List.set_cons_zero, List.set_cons_succ]
  refine' wpAnyH_take (i := 21) (oi := { dst := some 142, op := Go.Op.pick (Go.Operand.tmp 127) (Go.Operand.const (Go.Value.bool true)) (Go.Operand.tmp 141), type := 4, pos := "law.go:162", after := #[{ on := 6, ground := Go.Ground.data }, { on := 20, ground := Go.Ground.data }], guard := none }) (v := _) rfl (by kernel_rfl) (by kernel_rfl) (by kernel_rfl) (fun _ _ _ h => h) (Or.inl ⟨by rfl, ?hy190⟩) (by assumption) ?hr190
  case hy190 => (intro _ hSw; (try dsimp only at hSw); go_simp <;> with_reducible rfl)
  simp only [Act.put, List.setIfInBounds_toArray, List.set_cons_zero, List.set_cons_succ]
  refine wpAnyH_done (by kernel_rfl) ?_ _
  clear hHeld
  have HX0 : Hid (Me w c0 c1 b4 b5 b9 b10 b11 p0 p1 (.slice oa n ca) (.slice ob m cb) (.slice o0 n0 k0) (.slice o1 n1 k1) y0 y1 f0 f1 w9 ∧ OwnS MT 20 ml w9 w.heap.size (.slice oq lb cq) B) := Lib.hid ⟨ME9.out, HO9.out⟩
  clear ME9 HO9
  clear CW_
  go_wp2_with fail
  go_loopg [23] lb (fun gm s23 wr => ∃ k : Nat, s23 = nm k ∧ lb - k ≤ gm ∧ k ≤ lb ∧ Hid (Me w c0 c1 b4 b5 b9 b10 b11 p0 p1 (.slice oa n ca) (.slice ob m cb) (.slice o0 n0 k0) (.slice o1 n1 k1) y0 y1 f0 f1 wr ∧ OwnS MT 20 ml wr w.heap.size (.slice oq lb cq) B))
  case atStart => exact ⟨0, by first | rfl | go_num, by omega, by omega, HX0⟩
  case round =>
    clear HX0
    obtain ⟨k, rfl, hgm2, hk3, HX⟩ := hrel
    by_cases hlt : k < lb
    · have t1 : decide ((k : Int) < (lb : Int)) = true := decide_eq_true (by omega)
      have t2 : (k : Int) < (lb : Int) := by omega
      have t3 : (0 : Int) ≤ (k : Int) := by omega
      have vk := nat_wrap (k + 1) (by omega)
      have hkl : k < B.length := by rw [HLB.out]; exact hlt
      obtain ⟨g, rfl⟩ := own_at HX.out.2 (by omega)
      obtain ⟨a, ha⟩ : ∃ a, B[k]? = some a := ⟨_, List.getElem?_eq_getElem hkl⟩
      have HAK := Lib.hid ha
      have hcn := HE.out.n1 a (List.mem_of_getElem? ha)
      have hai := HE.out.iB a (List.mem_of_getElem? ha)
      have CO2 : Hid (∀ u, Me w c0 c1 b4 b5 b9 b10 b11 p0 p1 (.slice oa n ca) (.slice ob m cb) (.slice o0 n0 k0) (.slice o1 n1 k1) y0 y1 f0 f1 u → Calls Tryd.prog 14 #[.slice o1 n1 k1, .int .u8 2, mv a] u fun e u' => e = .returned (.int .i64 1) ∧ Below u.heap.size u u') := Lib.hid (fun u h => by
        have := lof h.g1 (by rw [HE.out.l1]; have := HE.out.eA; have := HE.out.eB; omega) 2 a hai HE.out.i1
        rw [hcn.1] at this
        exact this)
      have CO1 : Hid (∀ u, Me w c0 c1 b4 b5 b9 b10 b11 p0 p1 (.slice oa n ca) (.slice ob m cb) (.slice o0 n0 k0) (.slice o1 n1 k1) y0 y1 f0 f1 u → Calls Tryd.prog 14 #[.slice o0 n0 k0, .int .u8 1, mv a] u fun e u' => e = .returned (.int .i64 1) ∧ Below u.heap.size u u') := Lib.hid (fun u h => by
        have := lof h.g0 (by rw [HE.out.l0]; have := HE.out.eA; have := HE.out.eB; omega) 1 a hai HE.out.i0
        rw [hcn.2] at this
        exact this)
      clear ha hcn hai hkl
      go_wp2_with fail
      refine wp_region_held_drew (S := (fun w' => Me w c0 c1 b4 b5 b9 b10 b11 p0 p1 (.slice oa n ca) (.slice ob m cb) (.slice o0 n0 k0) (.slice o1 n1 k1) y0 y1 f0 f1 w' ∧ OwnS MT 20 ml w' w.heap.size (.slice (some ⟨g, 0, none⟩) lb cq) B)) (by kernel_rfl) ⟨HX.out.1.on ⟨rfl, rfl, rfl, Nat.le_refl _, fun _ _ => rfl⟩, HX.out.2.below ⟨rfl, rfl, rfl, Nat.le_refl _, fun _ _ => rfl⟩⟩ (fun hHeld => ?_)
      refine' wpAnyH_take (i := 0) (oi := { dst := some 149, op := Go.Op.move (Go.Operand.tmp 19), type := 3, pos := "law.go:166", after := #[], guard := none }) (v := _) rfl (by kernel_rfl) (by kernel_rfl) (by kernel_rfl) (fun _ _ _ h => h) (Or.inl ⟨by rfl, ?hy191⟩) (by assumption) ?hr191
      case hy191 => (intro _ hSw; (try dsimp only at hSw); go_simp <;> with_reducible rfl)
      simp only [Act.put, List.setIfInBounds_toArray, List.set_cons_zero, List.set_cons_succ]
      refine' wpAnyH_take (i := 1) (oi := { dst := some 150, op := Go.Op.indexAddr 30 (Go.Operand.tmp 10) (Go.Operand.tmp 149), type := 0, pos := "law.go:166", after := #[{ on := 0, ground := Go.Ground.data }], guard := none }) (v := _) rfl (by kernel_rfl) (by kernel_rfl) (by kernel_rfl) (fun _ _ _ h => h) (Or.inl ⟨by rfl, ?hy192⟩) (by assumption) ?hr192
      case hy192 => (intro _ hSw; (try dsimp only at hSw); go_simp <;> with_reducible rfl)
      simp only [Act.put, List.setIfInBounds_toArray, List.set_cons_zero, List.set_cons_succ]
      refine' wpAnyH_take (i := 2) (oi := { dst := some 151, op := Go.Op.load 29 (Go.Operand.tmp 150), type := 29, pos := "law.go:166", after := #[{ on := 1, ground := Go.Ground.data }], guard := none }) (v := _) rfl (by kernel_rfl) (by kernel_rfl) (by kernel_rfl) (fun _ _ _ h => h) (Or.inl ⟨by rfl, ?hy193⟩) (by assumption) ?hr193
      case hy193 => (intro _ hSw; (try dsimp only at hSw); have e10 := (hSw.1.cells).2.2.2.1; go_simp <;> with_reducible rfl)
      simp only [Act.put, List.setIfInBounds_toArray, List.set_cons_zero, List.set_cons_succ]
      refine' wpAnyH_take (i := 3) (oi := { dst := some 152, op := Go.Op.move (Go.Operand.tmp 22), type := 24, pos := "law.go:166", after := #[], guard := none }) (v := _) rfl (by kernel_rfl) (by kernel_rfl) (by kernel_rfl) (fun _ _ _ h => h) (Or.inl ⟨by rfl, ?hy194⟩) (by assumption) ?hr194
      case hy194 => (intro _ hSw; (try dsimp only at hSw); go_simp <;> with_reducible rfl)
      simp only [Act.put, List.setIfInBounds_toArray, List.set_cons_zero, List.set_cons_succ]
      refine' wpAnyH_take (i := 4) (oi := { dst := some 153, op := Go.Op.move (Go.Operand.tmp 23), type := 3, pos := "law.go:166", after := #[], guard := none }) (v := _) rfl (by kernel_rfl) (by kernel_rfl) (by kernel_rfl) (fun _ _ _ h => h) (Or.inl ⟨by rfl, ?hy195⟩) (by assumption) ?hr195
      case hy195 => (intro _ hSw; (try dsimp only at hSw); go_simp <;> with_reducible rfl)
      simp only [Act.put, List.setIfInBounds_toArray, List.set_cons_zero, List.set_cons_succ]
      refine' wpAnyH_take (i := 5) (oi := { dst := some 154, op := Go.Op.indexAddr 24 (Go.Operand.tmp 152) (Go.Operand.tmp 153), type := 0, pos := "law.go:166", after := #[{ on := 3, ground := Go.Ground.data }, { on := 4, ground := Go.Ground.data }], guard := none }) (v := _) rfl (by kernel_rfl) (by kernel_rfl) (by kernel_rfl) (fun _ _ _ h => h) (Or.inl ⟨by rfl, ?hy196⟩) (by assumption) ?hr196
      case hy196 => (intro _ hSw; (try dsimp only at hSw); go_simp <;> with_reducible rfl)
      simp only [Act.put, List.setIfInBounds_toArray, List.set_cons_zero, List.set_cons_succ]
      refine' wpAnyH_take (i := 6) (oi := { dst := some 155, op := Go.Op.load 35 (Go.Operand.tmp 154), type := 35, pos := "law.go:166", after := #[{ on := 5, ground := Go.Ground.data }], guard := none }) (v := _) rfl (by kernel_rfl) (by kernel_rfl) (by kernel_rfl) (fun _ _ _ h => h) (Or.inl ⟨by rfl, ?hy197⟩) (by assumption) ?hr197
      case hy197 => (intro _ hSw; (try dsimp only at hSw); refine ex_ldr isM (own_rangez (fun x => (rfl : (ml x).length = 20)) hSw.2 k a HAK.out) ?_; rfl)
      simp only [Act.put, List.setIfInBounds_toArray, List.set_cons_zero, List.set_cons_succ]
      refine wpAnyH_ready (rs := [7]) (by kernel_rfl) (by simp) ?_
      refine AllReadyH.cons (o := { dst := some 156, op := Go.Op.call { callee := Go.Callee.value (Go.Operand.func 14), args := #[Go.Operand.tmp 151, Go.Operand.const (Go.Value.int Go.IntKind.u8 2), Go.Operand.tmp 155], argTypes := #[29, 5, 35] }, type := 3, pos := "law.go:166", after := #[{ on := 2, ground := Go.Ground.data }, { on := 6, ground := Go.Ground.data }], guard := none }) rfl (fun K hK => ?_) AllReadyH.nil
      go_simp
      (with_reducible refine (CO2.out _ hHeld.1).mono ?_)
      rintro e wc ⟨rfl, hb⟩
      go_wp2_with fail
      refine hK.out _ _ ⟨hHeld.1.on hb, hHeld.2.below hb⟩ (fun hNext => ?_)
      clear hK K hHeld hb
      have hHeld := hNext
      clear hNext
      (try simp only [Act.put, List.setIfInBounds_toArray, List.set_cons_zero, List.set_cons_succ])
      refine' wpAnyH_take (i := 8) (oi := { dst := some 157, op := Go.Op.binOp Go.BinOp.neq 3 (Go.Operand.tmp 156) (Go.Operand.const (Go.Value.int Go.IntKind.i64 1)) 3, type := 4, pos := "law.go:166", after := #[{ on := 7, ground := Go.Ground.data }], guard := none }) (v := _) rfl (by kernel_rfl) (by kernel_rfl) (by kernel_rfl) (fun _ _ _ h => h) (Or.inl ⟨by rfl, ?hy198⟩) (by assumption) ?hr198
      case hy198 => (intro _ hSw; (try dsimp only at hSw); go_simp <;> with_reducible rfl)
      simp only [Act.put, List.setIfInBounds_toArray, List.set_cons_zero, List.set_cons_succ]
      refine' wpAnyH_take (i := 9) (oi := { dst := some 158, op := Go.Op.move (Go.Operand.tmp 157), type := 4, pos := "law.go:166", after := #[{ on := 8, ground := Go.Ground.data }, { on := 7, ground := Go.Ground.chain }], guard := none }) (v := _) rfl (by kernel_rfl) (by kernel_rfl) (by kernel_rfl) (fun _ _ _ h => h) (Or.inl ⟨by rfl, ?hy199⟩) (by assumption) ?hr199
      case hy199 => (intro _ hSw; (try dsimp only at hSw); go_simp <;> with_reducible rfl)
      simp only [Act.put, List.setIfInBounds_toArray, List.set_cons_zero, List.set_cons_succ]
      refine' wpAnyH_take (i := 10) (oi := { dst := some 159, op := Go.Op.move (Go.Operand.tmp 19), type := 3, pos := "law.go:166", after := #[{ on := 9, ground := Go.Ground.guard }], guard := some (9, false) }) (v := _) rfl (by kernel_rfl) (by kernel_rfl) (by kernel_rfl) (fun _ _ _ h => h) (Or.inl ⟨by rfl, ?hy200⟩) (by assumption) ?hr200
      case hy200 => (intro _ hSw; (try dsimp only at hSw); go_simp <;> with_reducible rfl)
      simp only [Act.put, List.setIfInBounds_toArray, List.set_cons_zero, List.set_cons_succ]
      refine' wpAnyH_take (i := 11) (oi := { dst := some 160, op := Go.Op.binOp Go.BinOp.sub 3 (Go.Operand.const (Go.Value.int Go.IntKind.i64 1)) (Go.Operand.tmp 159) 3, type := 3, pos := "law.go:166", after := #[{ on := 10, ground := Go.Ground.data }, { on := 9, ground := Go.Ground.guard }], guard := some (9, false) }) (v := _) rfl (by kernel_rfl) (by kernel_rfl) (by kernel_rfl) (fun _ _ _ h => h) (Or.inl ⟨by rfl, ?hy201⟩) (by assumption) ?hr201
      case hy201 => (intro _ hSw; (try dsimp only at hSw); go_simp <;> with_reducible rfl)
      simp only [Act.put, List.setIfInBounds_toArray, List.set_cons_zero, List.set_cons_succ]
      refine' wpAnyH_take (i := 12) (oi := { dst := some 161, op := Go.Op.indexAddr 30 (Go.Operand.tmp 10) (Go.Operand.tmp 160), type := 0, pos := "law.go:166", after := #[{ on := 11, ground := Go.Ground.data }, { on := 9, ground := Go.Ground.guard }], guard := some (9, false) }) (v := _) rfl (by kernel_rfl) (by kernel_rfl) (by kernel_rfl) (fun _ _ _ h => h) (Or.inl ⟨by rfl, ?hy202⟩) (by assumption) ?hr202
      case hy202 => (intro _ hSw; (try dsimp only at hSw); go_simp <;> with_reducible rfl)
      simp only [Act.put, List.setIfInBounds_toArray, List.set_cons_zero, List.set_cons_succ]
      refine' wpAnyH_take (i := 13) (oi := { dst := some 162, op := Go.Op.load 29 (Go.Operand.tmp 161), type := 29, pos := "law.go:166", after := #[{ on := 12, ground := Go.Ground.data }, { on := 9, ground := Go.Ground.guard }], guard := some (9, false) }) (v := _) rfl (by kernel_rfl) (by kernel_rfl) (by kernel_rfl) (fun _ _ _ h => h) (Or.inl ⟨by rfl, ?hy203⟩) (by assumption) ?hr203
      case hy203 => (intro _ hSw; (try dsimp only at hSw); have e11 := (hSw.1.cells).2.2.1; go_simp <;> with_reducible rfl)
      simp only [Act.put, List.setIfInBounds_toArray, List.set_cons_zero, List.set_cons_succ]
      refine' wpAnyH_take (i := 14) (oi := { dst := some 163, op := Go.Op.move (Go.Operand.tmp 22), type := 24, pos := "law.go:166", after := #[{ on := 9, ground := Go.Ground.guard }], guard := some (9, false) }) (v := _) rfl (by kernel_rfl) (by kernel_rfl) (by kernel_rfl) (fun _ _ _ h => h) (Or.inl ⟨by rfl, ?hy204⟩) (by assumption) ?hr204
      case hy204 => (intro _ hSw; (try dsimp only at hSw); go_simp <;> with_reducible rfl)
      simp only [Act.put, List.setIfInBounds_toArray, List.set_cons_zero, List.set_cons_succ]
      refine' wpAnyH_take (i := 15) (oi := { dst := some 164, op := Go.Op.move (Go.Operand.tmp 23), type := 3, pos := "law.go:166", after := #[{ on := 9, ground := Go.Ground.guard }], guard := some (9, false) }) (v := _) rfl (by kernel_rfl) (by kernel_rfl) (by kernel_rfl) (fun _ _ _ h => h) (Or.inl ⟨by rfl, ?hy205⟩) (by assumption) ?hr205
      case hy205 => (intro _ hSw; (try dsimp only at hSw); go_simp <;> with_reducible rfl)
      simp only [Act.put, List.setIfInBounds_toArray, List.set_cons_zero, List.set_cons_succ]
      refine' wpAnyH_take (i := 16) (oi := { dst := some 165, op := Go.Op.indexAddr 24 (Go.Operand.tmp 163) (Go.Operand.tmp 164), type := 0, pos := "law.go:166", after := #[{ on := 14, ground := Go.Ground.data }, { on := 15, ground := Go.Ground.data }, { on := 9, ground := Go.Ground.guard }], guard := some (9, false) }) (v := _) rfl (by kernel_rfl) (by kernel_rfl) (by kernel_rfl) (fun _ _ _ h => h) (Or.inl ⟨by rfl, ?hy206⟩) (by assumption) ?hr206
      case hy206 => (intro _ hSw; (try dsimp only at hSw); go_simp <;> with_reducible rfl)
      simp only [Act.put, List.setIfInBounds_toArray, List.set_cons_zero, List.set_cons_succ]
      refine' wpAnyH_take (i := 17) (oi := { dst := some 166, op := Go.Op.load 35 (Go.Operand.tmp 165), type := 35, pos := "law.go:166", after := #[{ on := 16, ground := Go.Ground.data }, { on := 9, ground := Go.Ground.guard }], guard := some (9, false) }) (v := _) rfl (by kernel_rfl) (by kernel_rfl) (by kernel_rfl) (fun _ _ _ h => h) (Or.inl ⟨by rfl, ?hy207⟩) (by assumption) ?hr207
      case hy207 => (intro _ hSw; (try dsimp only at hSw); refine ex_ldr isM (own_rangez (fun x => (rfl : (ml x).length = 20)) hSw.2 k a HAK.out) ?_; rfl)
      simp only [Act.put, List.setIfInBounds_toArray, List.set_cons_zero, List.set_cons_succ]
      refine wpAnyH_ready (rs := [18]) (by kernel_rfl) (by simp) ?_
      refine AllReadyH.cons (o := { dst := some 167, op := Go.Op.call { callee := Go.Callee.value (Go.Operand.func 14), args := #[Go.Operand.tmp 162, Go.Operand.const (Go.Value.int Go.IntKind.u8 1), Go.Operand.tmp 166], argTypes := #[29, 5, 35] }, type := 3, pos := "law.go:166", after := #[{ on := 13, ground := Go.Ground.data }, { on := 17, ground := Go.Ground.data }, { on := 9, ground := Go.Ground.chain }, { on := 9, ground := Go.Ground.guard }], guard := some (9, false) }) rfl (fun K hK => ?_) AllReadyH.nil
      go_simp
      (with_reducible refine (CO1.out _ hHeld.1).mono ?_)
      rintro e wc ⟨rfl, hb⟩
      go_wp2_with fail
      refine hK.out _ _ ⟨hHeld.1.on hb, hHeld.2.below hb⟩ (fun hNext => ?_)
      clear hK K hHeld hb
      have hHeld := hNext
      clear hNext
      (try simp only [Act.put, List.setIfInBounds_toArray, List.set_cons_zero, List.set_cons_succ])
      refine' wpAnyH_take (i := 19) (oi := { dst := some 168, op := Go.Op.binOp Go.BinOp.neq 3 (Go.Operand.tmp 167) (Go.Operand.const (Go.Value.int Go.IntKind.i64 1)) 3, type := 4, pos := "law.go:166", after := #[{ on := 18, ground := Go.Ground.data }, { on := 9, ground := Go.Ground.guard }], guard := some (9, false) }) (v := _) rfl (by kernel_rfl) (by kernel_rfl) (by kernel_rfl) (fun _ _ _ h => h) (Or.inl ⟨by rfl, ?hy208⟩) (by assumption) ?hr208
      case hy208 => (intro _ hSw; (try dsimp only at hSw); go_simp <;> with_reducible rfl)
      simp only [Act.put, List.setIfInBounds_toArray, List.set_cons_zero, List.set_cons_succ]
      refine' wpAnyH_take (i := 20) (oi := { dst := some 169, op := Go.Op.pick (Go.Operand.tmp 158) (Go.Operand.const (Go.Value.bool true)) (Go.Operand.tmp 168), type := 4, pos := "law.go:166", after := #[{ on := 9, ground := Go.Ground.data }, { on := 19, ground := Go.Ground.data }], guard := none }) (v := _) rfl (by kernel_rfl) (by kernel_rfl) (by kernel_rfl) (fun _ _ _ h => h) (Or.inl ⟨by rfl, ?hy209⟩) (by assumption) ?hr209
      case hy209 => (intro _ hSw; (try dsimp only at hSw); go_simp <;> with_reducible rfl)
      simp only [Act.put, List.setIfInBounds_toArray, List.set_cons_zero, List.set_cons_succ]
      refine wpAnyH_done (by kernel_rfl) ?_ _
      have HX9 := Lib.hid hHeld
      clear hHeld
      go_wp2
      go_roundg (lb - (k + 1))
      case measure => omega
      case rel => exact ⟨k + 1, by first | rfl | go_num, Nat.le_refl _, by omega, HX9⟩
    · obtain rfl : lb = k := by omega
      have t1 : decide ((lb : Int) < (lb : Int)) = false := decide_eq_false (by omega)
      have t2 : ¬ (lb : Int) < (lb : Int) := by omega
      have ME0 := Lib.hid HX.out.1
      clear HX
      go_wp2_with fail
      go_loopg [24] n1 (fun gm s24 wr => ∃ k : Nat, s24 = nm k ∧ n1 - k ≤ gm ∧ k ≤ n1 ∧ Hid (Me w c0 c1 b4 b5 b9 b10 b11 p0 p1 (.slice oa n ca) (.slice ob m cb) (.slice o0 n0 k0) (.slice o1 n1 k1) y0 y1 f0 f1 wr))
      case atStart => exact ⟨0, by first | rfl | go_num, by omega, by omega, ME0⟩
      case round =>
        clear ME0 hlt t1 t2
        obtain ⟨k, rfl, hgm3, hk4, ME1⟩ := hrel
        obtain ⟨d1, d2, d3, d4, d5, d6⟩ := ME1.out.cells
        by_cases hlt : k < n1
        · have t1 : decide ((k : Int) < (n1 : Int)) = true := decide_eq_true (by omega)
          have t2 : (k : Int) < (n1 : Int) := by omega
          have t3 : (0 : Int) ≤ (k : Int) := by omega
          have vk := nat_wrap (k + 1) (by omega)
          have hkl : k < f1.length := by rw [HN1.out]; exact hlt
          obtain ⟨g, rfl⟩ := own_at ME1.out.g1 (by omega)
          obtain ⟨f, hf⟩ : ∃ f, f1[k]? = some f := ⟨_, List.getElem?_eq_getElem hkl⟩
          have HFK := Lib.hid hf
          have HR := Lib.hid (fact_m (own_rangez fl_len ME1.out.g1 k f hf))
          by_cases h1 : f.k = 2
          · have e1 : ((f.k : Int) == 2) = true := by rw [h1]; rfl
            by_cases h2 : f.m.k = 1
            · have e2 : ((f.m.k : Int) == 1) = true := by rw [h2]; rfl
              obtain ⟨b1, b2⟩ := HE.out.g1 f (List.mem_of_getElem? hf) h1 h2
              have e3 : decide (max 1 p0.n < f.m.p.n) = false := decide_eq_false (by omega)
              have e4 : decide (max 1 p0.k < f.m.p.k) = false := decide_eq_false (by omega)
              have e5 : ¬ max 1 p0.n < f.m.p.n := by omega
              have e6 : ¬ max 1 p0.k < f.m.p.k := by omega
              clear h1 h2 hf hkl b1 b2
              go_wp2_with (first
                | ((with_reducible refine ldr (m := f.m) isM HR.out ?hx ?_); (case hx => rfl))
                | ((with_reducible refine alm zeroM ?_); intro b14 w6 h F6; have ME6 := Lib.hid (ME1.out.on F6.below); have H14a := Lib.hid h; have N14 := Lib.hid (ME1.out.le F6); clear h F6 d1 d2 d3 d4 d5 d6)
                | ((with_reducible refine stm (m := f.m) isM H14a.out ?hx ?hy ?_); (case hx => rfl); (case hy => rfl); intro w7 h M; have ME7 := Lib.hid (ME6.out.mod M H14a.out N14.out); have H14 := Lib.hid h; clear h M ME6 H14a))
              refine wp_region_held_drew (S := (fun w' => Me w c0 c1 b4 b5 b9 b10 b11 p0 p1 (.slice oa n ca) (.slice ob m cb) (.slice o0 n0 k0) (.slice (some ⟨g, 0, none⟩) n1 k1) y0 y1 f0 f1 w' ∧ w'.heap[b14]? = some (mO f.m MT))) (by kernel_rfl) ⟨ME7.out.on ⟨rfl, rfl, rfl, Nat.le_refl _, fun _ _ => rfl⟩, H14.out⟩ (fun hHeld => ?_)
              refine' wpAnyH_take (i := 0) (oi := { dst := some 185, op := Go.Op.move (Go.Operand.tmp 19), type := 3, pos := "law.go:172", after := #[], guard := none }) (v := _) rfl (by kernel_rfl) (by kernel_rfl) (by kernel_rfl) (fun _ _ _ h => h) (Or.inl ⟨by rfl, ?hy210⟩) (by assumption) ?hr210
              case hy210 => (intro _ hSw; (try dsimp only at hSw); go_simp <;> with_reducible rfl)
              simp only [Act.put, List.setIfInBounds_toArray, List.set_cons_zero, List.set_cons_succ]
              refine' wpAnyH_take (i := 1) (oi := { dst := some 186, op := Go.Op.indexAddr 30 (Go.Operand.tmp 10) (Go.Operand.tmp 185), type := 0, pos := "law.go:172", after := #[{ on := 0, ground := Go.Ground.data }], guard := none }) (v := _) rfl (by kernel_rfl) (by kernel_rfl) (by kernel_rfl) (fun _ _ _ h => h) (Or.inl ⟨by rfl, ?hy211⟩) (by assumption) ?hr211
              case hy211 => (intro _ hSw; (try dsimp only at hSw); go_simp <;> with_reducible rfl)
              simp only [Act.put, List.setIfInBounds_toArray, List.set_cons_zero, List.set_cons_succ]
              refine' wpAnyH_take (i := 2) (oi := { dst := some 187, op := Go.Op.load 29 (Go.Operand.tmp 186), type := 29, pos := "law.go:172", after := #[{ on := 1, ground := Go.Ground.data }], guard := none }) (v := _) rfl (by kernel_rfl) (by kernel_rfl) (by kernel_rfl) (fun _ _ _ h => h) (Or.inl ⟨by rfl, ?hy212⟩) (by assumption) ?hr212
              case hy212 => (intro _ hSw; (try dsimp only at hSw); have e10 := (hSw.1.cells).2.2.2.1; go_simp <;> with_reducible rfl)
              simp only [Act.put, List.setIfInBounds_toArray, List.set_cons_zero, List.set_cons_succ]
              refine' wpAnyH_take (i := 3) (oi := { dst := some 188, op := Go.Op.move (Go.Operand.tmp 24), type := 3, pos := "law.go:172", after := #[], guard := none }) (v := _) rfl (by kernel_rfl) (by kernel_rfl) (by kernel_rfl) (fun _ _ _ h => h) (Or.inl ⟨by rfl, ?hy213⟩) (by assumption) ?hr213
              case hy213 => (intro _ hSw; (try dsimp only at hSw); go_simp <;> with_reducible rfl)
              simp only [Act.put, List.setIfInBounds_toArray, List.set_cons_zero, List.set_cons_succ]
              refine' wpAnyH_take (i := 4) (oi := { dst := some 189, op := Go.Op.indexAddr 29 (Go.Operand.tmp 187) (Go.Operand.tmp 188), type := 0, pos := "law.go:172", after := #[{ on := 2, ground := Go.Ground.data }, { on := 3, ground := Go.Ground.data }], guard := none }) (v := _) rfl (by kernel_rfl) (by kernel_rfl) (by kernel_rfl) (fun _ _ _ h => h) (Or.inl ⟨by rfl, ?hy214⟩) (by assumption) ?hr214
              case hy214 => (intro _ hSw; (try dsimp only at hSw); go_simp <;> with_reducible rfl)
              simp only [Act.put, List.setIfInBounds_toArray, List.set_cons_zero, List.set_cons_succ]
              refine' wpAnyH_take (i := 5) (oi := { dst := some 190, op := Go.Op.fieldAddr 47 (Go.Operand.tmp 189) 0, type := 0, pos := "law.go:172", after := #[{ on := 4, ground := Go.Ground.data }], guard := none }) (v := _) rfl (by kernel_rfl) (by kernel_rfl) (by kernel_rfl) (fun _ _ _ h => h) (Or.inl ⟨by rfl, ?hy215⟩) (by assumption) ?hr215
              case hy215 => (intro _ hSw; (try dsimp only at hSw); go_simp <;> with_reducible rfl)
              simp only [Act.put, List.setIfInBounds_toArray, List.set_cons_zero, List.set_cons_succ]
              refine' wpAnyH_take (i := 6) (oi := { dst := some 191, op := Go.Op.load 5 (Go.Operand.tmp 190), type := 5, pos := "law.go:172", after := #[{ on := 5, ground := Go.Ground.data }], guard := none }) (v := _) rfl (by kernel_rfl) (by kernel_rfl) (by kernel_rfl) (fun _ _ _ h => h) (Or.inl ⟨by rfl, ?hy216⟩) (by assumption) ?hr216
              case hy216 => (intro _ hSw; (try dsimp only at hSw); have e0 := own_rangez fl_len hSw.1.g1 k f HFK.out 0 _ rfl; rw [Nat.add_zero] at e0; go_simp <;> with_reducible rfl)
              simp only [Act.put, List.setIfInBounds_toArray, List.set_cons_zero, List.set_cons_succ]
              refine' wpAnyH_take (i := 7) (oi := { dst := some 192, op := Go.Op.binOp Go.BinOp.eql 5 (Go.Operand.tmp 191) (Go.Operand.const (Go.Value.int Go.IntKind.u8 2)) 5, type := 4, pos := "law.go:172", after := #[{ on := 6, ground := Go.Ground.data }], guard := none }) (v := _) rfl (by kernel_rfl) (by kernel_rfl) (by kernel_rfl) (fun _ _ _ h => h) (Or.inl ⟨by rfl, ?hy217⟩) (by assumption) ?hr217
              case hy217 => (intro _ hSw; (try dsimp only at hSw); go_simp <;> with_reducible rfl)
              simp only [Act.put, List.setIfInBounds_toArray, List.set_cons_zero, List.set_cons_succ]
              refine' wpAnyH_take (i := 8) (oi := { dst := some 193, op := Go.Op.move (Go.Operand.tmp 192), type := 4, pos := "law.go:172", after := #[{ on := 7, ground := Go.Ground.data }], guard := none }) (v := _) rfl (by kernel_rfl) (by kernel_rfl) (by kernel_rfl) (fun _ _ _ h => h) (Or.inl ⟨by rfl, ?hy218⟩) (by assumption) ?hr218
              case hy218 => (intro _ hSw; (try dsimp only at hSw); go_simp <;> with_reducible rfl)
              simp only [Act.put, List.setIfInBounds_toArray, List.set_cons_zero, List.set_cons_succ]
              refine' wpAnyH_take (i := 9) (oi := { dst := some 194, op := Go.Op.fieldAddr 35 (Go.Operand.tmp 25) 0, type := 0, pos := "law.go:172", after := #[{ on := 8, ground := Go.Ground.guard }], guard := some (8, true) }) (v := _) rfl (by kernel_rfl) (by kernel_rfl) (by kernel_rfl) (fun _ _ _ h => h) (Or.inl ⟨by rfl, ?hy219⟩) (by assumption) ?hr219
              case hy219 => (intro _ hSw; (try dsimp only at hSw); go_simp <;> with_reducible rfl)
              simp only [Act.put, List.setIfInBounds_toArray, List.set_cons_zero, List.set_cons_succ]
              refine' wpAnyH_take (i := 10) (oi := { dst := some 195, op := Go.Op.load 5 (Go.Operand.tmp 194), type := 5, pos := "law.go:172", after := #[{ on := 9, ground := Go.Ground.data }, { on := 8, ground := Go.Ground.guard }], guard := some (8, true) }) (v := _) rfl (by kernel_rfl) (by kernel_rfl) (by kernel_rfl) (fun _ _ _ h => h) (Or.inl ⟨by rfl, ?hy220⟩) (by assumption) ?hr220
              case hy220 => (intro _ hSw; (try dsimp only at hSw); have e25 := (lay hSw.2).1; go_simp <;> with_reducible rfl)
              simp only [Act.put, List.setIfInBounds_toArray, List.set_cons_zero, List.set_cons_succ]
              refine' wpAnyH_take (i := 11) (oi := { dst := some 196, op := Go.Op.binOp Go.BinOp.eql 5 (Go.Operand.tmp 195) (Go.Operand.const (Go.Value.int Go.IntKind.u8 1)) 5, type := 4, pos := "law.go:172", after := #[{ on := 10, ground := Go.Ground.data }, { on := 8, ground := Go.Ground.guard }], guard := some (8, true) }) (v := _) rfl (by kernel_rfl) (by kernel_rfl) (by kernel_rfl) (fun _ _ _ h => h) (Or.inl ⟨by rfl, ?hy221⟩) (by assumption) ?hr221
              case hy221 => (intro _ hSw; (try dsimp only at hSw); go_simp <;> with_reducible rfl)
              simp only [Act.put, List.setIfInBounds_toArray, List.set_cons_zero, List.set_cons_succ]
              refine' wpAnyH_take (i := 12) (oi := { dst := some 197, op := Go.Op.pick (Go.Operand.tmp 193) (Go.Operand.tmp 196) (Go.Operand.const (Go.Value.bool false)), type := 4, pos := "law.go:172", after := #[{ on := 8, ground := Go.Ground.data }, { on := 11, ground := Go.Ground.data }], guard := none }) (v := _) rfl (by kernel_rfl) (by kernel_rfl) (by kernel_rfl) (fun _ _ _ h => h) (Or.inl ⟨by rfl, ?hy222⟩) (by assumption) ?hr222
              case hy222 => (intro _ hSw; (try dsimp only at hSw); go_simp <;> with_reducible rfl)
              simp only [Act.put, List.setIfInBounds_toArray, List.set_cons_zero, List.set_cons_succ]
              refine' wpAnyH_take (i := 13) (oi := { dst := some 198, op := Go.Op.move (Go.Operand.tmp 197), type := 4, pos := "law.go:172", after := #[{ on := 12, ground := Go.Ground.data }, { on := 8, ground := Go.Ground.chain }], guard := none }) (v := _) rfl (by kernel_rfl) (by kernel_rfl) (by kernel_rfl) (fun _ _ _ h => h) (Or.inl ⟨by rfl, ?hy223⟩) (by assumption) ?hr223
              case hy223 => (intro _ hSw; (try dsimp only at hSw); go_simp <;> with_reducible rfl)
              simp only [Act.put, List.setIfInBounds_toArray, List.set_cons_zero, List.set_cons_succ]
              refine' wpAnyH_take (i := 14) (oi := { dst := some 199, op := Go.Op.fieldAddr 35 (Go.Operand.tmp 25) 2, type := 0, pos := "law.go:172", after := #[{ on := 13, ground := Go.Ground.guard }], guard := some (13, true) }) (v := _) rfl (by kernel_rfl) (by kernel_rfl) (by kernel_rfl) (fun _ _ _ h => h) (Or.inl ⟨by rfl, ?hy224⟩) (by assumption) ?hr224
              case hy224 => (intro _ hSw; (try dsimp only at hSw); go_simp <;> with_reducible rfl)
              simp only [Act.put, List.setIfInBounds_toArray, List.set_cons_zero, List.set_cons_succ]
              refine' wpAnyH_take (i := 15) (oi := { dst := some 200, op := Go.Op.fieldAddr 23 (Go.Operand.tmp 199) 5, type := 0, pos := "law.go:172", after := #[{ on := 14, ground := Go.Ground.data }, { on := 13, ground := Go.Ground.guard }], guard := some (13, true) }) (v := _) rfl (by kernel_rfl) (by kernel_rfl) (by kernel_rfl) (fun _ _ _ h => h) (Or.inl ⟨by rfl, ?hy225⟩) (by assumption) ?hr225
              case hy225 => (intro _ hSw; (try dsimp only at hSw); go_simp <;> with_reducible rfl)
              simp only [Act.put, List.setIfInBounds_toArray, List.set_cons_zero, List.set_cons_succ]
              refine' wpAnyH_take (i := 16) (oi := { dst := some 201, op := Go.Op.load 3 (Go.Operand.tmp 200), type := 3, pos := "law.go:172", after := #[{ on := 15, ground := Go.Ground.data }, { on := 13, ground := Go.Ground.guard }], guard := some (13, true) }) (v := _) rfl (by kernel_rfl) (by kernel_rfl) (by kernel_rfl) (fun _ _ _ h => h) (Or.inl ⟨by rfl, ?hy226⟩) (by assumption) ?hr226
              case hy226 => (intro _ hSw; (try dsimp only at hSw); have e7 := cell7 hSw.2; go_simp <;> with_reducible rfl)
              simp only [Act.put, List.setIfInBounds_toArray, List.set_cons_zero, List.set_cons_succ]
              refine' wpAnyH_take (i := 17) (oi := { dst := some 202, op := Go.Op.load 23 (Go.Operand.tmp 5), type := 23, pos := "law.go:172", after := #[{ on := 13, ground := Go.Ground.guard }], guard := some (13, true) }) (v := _) rfl (by kernel_rfl) (by kernel_rfl) (by kernel_rfl) (fun _ _ _ h => h) (Or.inl ⟨by rfl, ?hy227⟩) (by assumption) ?hr227
              case hy227 => (intro _ hSw; (try dsimp only at hSw); refine ex_ldz (pll p1) isP (pll_at hSw.1.h5) rfl ?_; rfl)
              simp only [Act.put, List.setIfInBounds_toArray, List.set_cons_zero, List.set_cons_succ]
              refine' wpAnyH_take (i := 18) (oi := { dst := some 203, op := Go.Op.load 23 (Go.Operand.tmp 4), type := 23, pos := "law.go:172", after := #[{ on := 13, ground := Go.Ground.guard }], guard := some (13, true) }) (v := _) rfl (by kernel_rfl) (by kernel_rfl) (by kernel_rfl) (fun _ _ _ h => h) (Or.inl ⟨by rfl, ?hy228⟩) (by assumption) ?hr228
              case hy228 => (intro _ hSw; (try dsimp only at hSw); refine ex_ldz (pll p0) isP (pll_at hSw.1.h4) rfl ?_; rfl)
              simp only [Act.put, List.setIfInBounds_toArray, List.set_cons_zero, List.set_cons_succ]
              refine' wpAnyH_take (i := 19) (oi := { dst := some 204, op := Go.Op.build 48 #[(0, Go.Operand.tmp 202), (1, Go.Operand.tmp 203)], type := 48, pos := "law.go:172", after := #[{ on := 17, ground := Go.Ground.data }, { on := 18, ground := Go.Ground.data }, { on := 13, ground := Go.Ground.guard }], guard := some (13, true) }) (v := _) rfl (by kernel_rfl) (by kernel_rfl) (by kernel_rfl) (fun _ _ _ h => h) (Or.inl ⟨by rfl, ?hy229⟩) (by assumption) ?hr229
              case hy229 => (intro _ hSw; (try dsimp only at hSw); refine bdk (ops := 0) ((pll p1 ++ pll p0).toArray) rfl ?_; kernel_rfl)
              simp only [Act.put, List.setIfInBounds_toArray, List.set_cons_zero, List.set_cons_succ]
              refine' wpAnyH_take (i := 20) (oi := { dst := some 205, op := Go.Op.move (Go.Operand.tmp 19), type := 3, pos := "law.go:172", after := #[{ on := 13, ground := Go.Ground.guard }], guard := some (13, true) }) (v := _) rfl (by kernel_rfl) (by kernel_rfl) (by kernel_rfl) (fun _ _ _ h => h) (Or.inl ⟨by rfl, ?hy230⟩) (by assumption) ?hr230
              case hy230 => (intro _ hSw; (try dsimp only at hSw); go_simp <;> with_reducible rfl)
              simp only [Act.put, List.setIfInBounds_toArray, List.set_cons_zero, List.set_cons_succ]
              refine' wpAnyH_take (i := 21) (oi := { dst := some 206, op := Go.Op.index 48 (Go.Operand.tmp 204) (Go.Operand.tmp 205), type := 23, pos := "law.go:172", after := #[{ on := 19, ground := Go.Ground.data }, { on := 20, ground := Go.Ground.data }, { on := 13, ground := Go.Ground.guard }], guard := some (13, true) }) (v := _) rfl (by kernel_rfl) (by kernel_rfl) (by kernel_rfl) (fun _ _ _ h => h) (Or.inl ⟨by rfl, ?hy231⟩) (by assumption) ?hr231
              case hy231 => (intro _ hSw; (try dsimp only at hSw); refine ex_ix1 p1 p0 ?_ ?_ <;> rfl)
              simp only [Act.put, List.setIfInBounds_toArray, List.set_cons_zero, List.set_cons_succ]
              refine' wpAnyH_take (i := 22) (oi := { dst := some 207, op := Go.Op.field 23 (Go.Operand.tmp 206) 5, type := 3, pos := "law.go:172", after := #[{ on := 21, ground := Go.Ground.data }, { on := 13, ground := Go.Ground.guard }], guard := some (13, true) }) (v := _) rfl (by kernel_rfl) (by kernel_rfl) (by kernel_rfl) (fun _ _ _ h => h) (Or.inl ⟨by rfl, ?hy232⟩) (by assumption) ?hr232
              case hy232 => (intro _ hSw; (try dsimp only at hSw); refine ex_fd5 p0 ?_; rfl)
              simp only [Act.put, List.setIfInBounds_toArray, List.set_cons_zero, List.set_cons_succ]
              refine' wpAnyH_take (i := 23) (oi := { dst := some 208, op := Go.Op.call { callee := Go.Callee.builtin Go.Builtin.max, args := #[Go.Operand.const (Go.Value.int Go.IntKind.i64 1), Go.Operand.tmp 207], argTypes := #[3, 3] }, type := 3, pos := "law.go:172", after := #[{ on := 22, ground := Go.Ground.data }, { on := 13, ground := Go.Ground.guard }], guard := some (13, true) }) (v := _) rfl (by kernel_rfl) (by kernel_rfl) (by kernel_rfl) (fun _ _ _ h => h) (Or.inl ⟨by rfl, ?hy233⟩) (by assumption) ?hr233
              case hy233 => (intro _ hSw; (try dsimp only at hSw); go_simp <;> with_reducible rfl)
              simp only [Act.put, List.setIfInBounds_toArray, List.set_cons_zero, List.set_cons_succ]
              refine' wpAnyH_take (i := 24) (oi := { dst := some 209, op := Go.Op.binOp Go.BinOp.gtr 3 (Go.Operand.tmp 201) (Go.Operand.tmp 208) 3, type := 4, pos := "law.go:172", after := #[{ on := 16, ground := Go.Ground.data }, { on := 23, ground := Go.Ground.data }, { on := 13, ground := Go.Ground.guard }], guard := some (13, true) }) (v := _) rfl (by kernel_rfl) (by kernel_rfl) (by kernel_rfl) (fun _ _ _ h => h) (Or.inl ⟨by rfl, ?hy234⟩) (by assumption) ?hr234
              case hy234 => (intro _ hSw; (try dsimp only at hSw); go_simp <;> with_reducible rfl)
              simp only [Act.put, List.setIfInBounds_toArray, List.set_cons_zero, List.set_cons_succ]
              refine' wpAnyH_take (i := 25) (oi := { dst := some 210, op := Go.Op.move (Go.Operand.tmp 209), type := 4, pos := "law.go:172", after := #[{ on := 24, ground := Go.Ground.data }, { on := 13, ground := Go.Ground.chain }, { on := 13, ground := Go.Ground.guard }], guard := some (13, true) }) (v := _) rfl (by kernel_rfl) (by kernel_rfl) (by kernel_rfl) (fun _ _ _ h => h) (Or.inl ⟨by rfl, ?hy235⟩) (by assumption) ?hr235
              case hy235 => (intro _ hSw; (try dsimp only at hSw); go_simp <;> with_reducible rfl)
              simp only [Act.put, List.setIfInBounds_toArray, List.set_cons_zero, List.set_cons_succ]
              refine' wpAnyH_take (i := 26) (oi := { dst := some 211, op := Go.Op.fieldAddr 35 (Go.Operand.tmp 25) 2, type := 0, pos := "law.go:172", after := #[{ on := 25, ground := Go.Ground.guard }], guard := some (25, false) }) (v := _) rfl (by kernel_rfl) (by kernel_rfl) (by kernel_rfl) (fun _ _ _ h => h) (Or.inl ⟨by rfl, ?hy236⟩) (by assumption) ?hr236
              case hy236 => (intro _ hSw; (try dsimp only at hSw); go_simp <;> with_reducible rfl)
              simp only [Act.put, List.setIfInBounds_toArray, List.set_cons_zero, List.set_cons_succ]
              refine' wpAnyH_take (i := 27) (oi := { dst := some 212, op := Go.Op.fieldAddr 23 (Go.Operand.tmp 211) 7, type := 0, pos := "law.go:172", after := #[{ on := 26, ground := Go.Ground.data }, { on := 25, ground := Go.Ground.guard }], guard := some (25, false) }) (v := _) rfl (by kernel_rfl) (by kernel_rfl) (by kernel_rfl) (fun _ _ _ h => h) (Or.inl ⟨by rfl, ?hy237⟩) (by assumption) ?hr237
              case hy237 => (intro _ hSw; (try dsimp only at hSw); go_simp <;> with_reducible rfl)
              simp only [Act.put, List.setIfInBounds_toArray, List.set_cons_zero, List.set_cons_succ]
              refine' wpAnyH_take (i := 28) (oi := { dst := some 213, op := Go.Op.load 3 (Go.Operand.tmp 212), type := 3, pos := "law.go:172", after := #[{ on := 27, ground := Go.Ground.data }, { on := 25, ground := Go.Ground.guard }], guard := some (25, false) }) (v := _) rfl (by kernel_rfl) (by kernel_rfl) (by kernel_rfl) (fun _ _ _ h => h) (Or.inl ⟨by rfl, ?hy238⟩) (by assumption) ?hr238
              case hy238 => (intro _ hSw; (try dsimp only at hSw); have e9 := cell9 hSw.2; go_simp <;> with_reducible rfl)
              simp only [Act.put, List.setIfInBounds_toArray, List.set_cons_zero, List.set_cons_succ]
              refine' wpAnyH_take (i := 29) (oi := { dst := some 214, op := Go.Op.load 23 (Go.Operand.tmp 5), type := 23, pos := "law.go:172", after := #[{ on := 25, ground := Go.Ground.guard }], guard := some (25, false) }) (v := _) rfl (by kernel_rfl) (by kernel_rfl) (by kernel_rfl) (fun _ _ _ h => h) (Or.inl ⟨by rfl, ?hy239⟩) (by assumption) ?hr239
              case hy239 => (intro _ hSw; (try dsimp only at hSw); refine ex_ldz (pll p1) isP (pll_at hSw.1.h5) rfl ?_; rfl)
              simp only [Act.put, List.setIfInBounds_toArray, List.set_cons_zero, List.set_cons_succ]
              refine' wpAnyH_take (i := 30) (oi := { dst := some 215, op := Go.Op.load 23 (Go.Operand.tmp 4), type := 23, pos := "law.go:172", after := #[{ on := 25, ground := Go.Ground.guard }], guard := some (25, false) }) (v := _) rfl (by kernel_rfl) (by kernel_rfl) (by kernel_rfl) (fun _ _ _ h => h) (Or.inl ⟨by rfl, ?hy240⟩) (by assumption) ?hr240
              case hy240 => (intro _ hSw; (try dsimp only at hSw); refine ex_ldz (pll p0) isP (pll_at hSw.1.h4) rfl ?_; rfl)
              simp only [Act.put, List.setIfInBounds_toArray, List.set_cons_zero, List.set_cons_succ]
              refine' wpAnyH_take (i := 31) (oi := { dst := some 216, op := Go.Op.build 48 #[(0, Go.Operand.tmp 214), (1, Go.Operand.tmp 215)], type := 48, pos := "law.go:172", after := #[{ on := 29, ground := Go.Ground.data }, { on := 30, ground := Go.Ground.data }, { on := 25, ground := Go.Ground.guard }], guard := some (25, false) }) (v := _) rfl (by kernel_rfl) (by kernel_rfl) (by kernel_rfl) (fun _ _ _ h => h) (Or.inl ⟨by rfl, ?hy241⟩) (by assumption) ?hr241
              case hy241 => (intro _ hSw; (try dsimp only at hSw); refine bdk (ops := 0) ((pll p1 ++ pll p0).toArray) rfl ?_; kernel_rfl)
              simp only [Act.put, List.setIfInBounds_toArray, List.set_cons_zero, List.set_cons_succ]
              refine' wpAnyH_take (i := 32) (oi := { dst := some 217, op := Go.Op.move (Go.Operand.tmp 19), type := 3, pos := "law.go:172", after := #[{ on := 25, ground := Go.Ground.guard }], guard := some (25, false) }) (v := _) rfl (by kernel_rfl) (by kernel_rfl) (by kernel_rfl) (fun _ _ _ h => h) (Or.inl ⟨by rfl, ?hy242⟩) (by assumption) ?hr242
              case hy242 => (intro _ hSw; (try dsimp only at hSw); go_simp <;> with_reducible rfl)
              simp only [Act.put, List.setIfInBounds_toArray, List.set_cons_zero, List.set_cons_succ]
              refine' wpAnyH_take (i := 33) (oi := { dst := some 218, op := Go.Op.index 48 (Go.Operand.tmp 216) (Go.Operand.tmp 217), type := 23, pos := "law.go:172", after := #[{ on := 31, ground := Go.Ground.data }, { on := 32, ground := Go.Ground.data }, { on := 25, ground := Go.Ground.guard }], guard := some (25, false) }) (v := _) rfl (by kernel_rfl) (by kernel_rfl) (by kernel_rfl) (fun _ _ _ h => h) (Or.inl ⟨by rfl, ?hy243⟩) (by assumption) ?hr243
              case hy243 => (intro _ hSw; (try dsimp only at hSw); refine ex_ix1 p1 p0 ?_ ?_ <;> rfl)
              simp only [Act.put, List.setIfInBounds_toArray, List.set_cons_zero, List.set_cons_succ]
              refine' wpAnyH_take (i := 34) (oi := { dst := some 219, op := Go.Op.field 23 (Go.Operand.tmp 218) 7, type := 3, pos := "law.go:172", after := #[{ on := 33, ground := Go.Ground.data }, { on := 25, ground := Go.Ground.guard }], guard := some (25, false) }) (v := _) rfl (by kernel_rfl) (by kernel_rfl) (by kernel_rfl) (fun _ _ _ h => h) (Or.inl ⟨by rfl, ?hy244⟩) (by assumption) ?hr244
              case hy244 => (intro _ hSw; (try dsimp only at hSw); refine ex_fd7 p0 ?_; rfl)
              simp only [Act.put, List.setIfInBounds_toArray, List.set_cons_zero, List.set_cons_succ]
              refine' wpAnyH_take (i := 35) (oi := { dst := some 220, op := Go.Op.call { callee := Go.Callee.builtin Go.Builtin.max, args := #[Go.Operand.const (Go.Value.int Go.IntKind.i64 1), Go.Operand.tmp 219], argTypes := #[3, 3] }, type := 3, pos := "law.go:172", after := #[{ on := 34, ground := Go.Ground.data }, { on := 25, ground := Go.Ground.guard }], guard := some (25, false) }) (v := _) rfl (by kernel_rfl) (by kernel_rfl) (by kernel_rfl) (fun _ _ _ h => h) (Or.inl ⟨by rfl, ?hy245⟩) (by assumption) ?hr245
              case hy245 => (intro _ hSw; (try dsimp only at hSw); go_simp <;> with_reducible rfl)
              simp only [Act.put, List.setIfInBounds_toArray, List.set_cons_zero, List.set_cons_succ]
              refine' wpAnyH_take (i := 36) (oi := { dst := some 221, op := Go.Op.binOp Go.BinOp.gtr 3 (Go.Operand.tmp 213) (Go.Operand.tmp 220) 3, type := 4, pos := "law.go:172", after := #[{ on := 28, ground := Go.Ground.data }, { on := 35, ground := Go.Ground.data }, { on := 25, ground := Go.Ground.guard }], guard := some (25, false) }) (v := _) rfl (by kernel_rfl) (by kernel_rfl) (by kernel_rfl) (fun _ _ _ h => h) (Or.inl ⟨by rfl, ?hy246⟩) (by assumption) ?hr246
              case hy246 => (intro _ hSw; (try dsimp only at hSw); go_simp <;> with_reducible rfl)
              simp only [Act.put, List.setIfInBounds_toArray, List.set_cons_zero, List.set_cons_succ]
              refine' wpAnyH_take (i := 37) (oi := { dst := some 222, op := Go.Op.pick (Go.Operand.tmp 210) (Go.Operand.const (Go.Value.bool true)) (Go.Operand.tmp 221), type := 4, pos := "law.go:172", after := #[{ on := 25, ground := Go.Ground.data }, { on := 36, ground := Go.Ground.data }, { on := 13, ground := Go.Ground.guard }], guard := some (13, true) }) (v := _) rfl (by kernel_rfl) (by kernel_rfl) (by kernel_rfl) (fun _ _ _ h => h) (Or.inl ⟨by rfl, ?hy247⟩) (by assumption) ?hr247
              case hy247 => (intro _ hSw; (try dsimp only at hSw); go_simp <;> with_reducible rfl)
              simp only [Act.put, List.setIfInBounds_toArray, List.set_cons_zero, List.set_cons_succ]
              refine' wpAnyH_take (i := 38) (oi := { dst := some 223, op := Go.Op.pick (Go.Operand.tmp 198) (Go.Operand.tmp 222) (Go.Operand.const (Go.Value.bool false)), type := 4, pos := "law.go:172", after := #[{ on := 13, ground := Go.Ground.data }, { on := 37, ground := Go.Ground.data }], guard := none }) (v := _) rfl (by kernel_rfl) (by kernel_rfl) (by kernel_rfl) (fun _ _ _ h => h) (Or.inl ⟨by rfl, ?hy248⟩) (by assumption) ?hr248
              case hy248 => (intro _ hSw; (try dsimp only at hSw); go_simp <;> with_reducible rfl)
              simp only [Act.put, List.setIfInBounds_toArray, List.set_cons_zero, List.set_cons_succ]
              refine wpAnyH_done (by kernel_rfl) ?_ _
              have HX9 := Lib.hid hHeld.1
              clear hHeld ME7 H14
              go_wp2
              go_roundg (n1 - (k + 1))
              case measure => omega
              case rel => exact ⟨k + 1, by first | rfl | go_num, Nat.le_refl _, by omega, HX9⟩
            · have e2 : ((f.m.k : Int) == 1) = false := Mem.beq_false (by omega)
              clear h1 h2 hf hkl
              go_wp2_with (first
                | ((with_reducible refine ldr (m := f.m) isM HR.out ?hx ?_); (case hx => rfl))
                | ((with_reducible refine alm zeroM ?_); intro b14 w6 h F6; have ME6 := Lib.hid (ME1.out.on F6.below); have H14a := Lib.hid h; have N14 := Lib.hid (ME1.out.le F6); clear h F6 d1 d2 d3 d4 d5 d6)
                | ((with_reducible refine stm (m := f.m) isM H14a.out ?hx ?hy ?_); (case hx => rfl); (case hy => rfl); intro w7 h M; have ME7 := Lib.hid (ME6.out.mod M H14a.out N14.out); have H14 := Lib.hid h; clear h M ME6 H14a))
              refine wp_region_held_drew (S := (fun w' => Me w c0 c1 b4 b5 b9 b10 b11 p0 p1 (.slice oa n ca) (.slice ob m cb) (.slice o0 n0 k0) (.slice (some ⟨g, 0, none⟩) n1 k1) y0 y1 f0 f1 w' ∧ w'.heap[b14]? = some (mO f.m MT))) (by kernel_rfl) ⟨ME7.out.on ⟨rfl, rfl, rfl, Nat.le_refl _, fun _ _ => rfl⟩, H14.out⟩ (fun hHeld => ?_)
              refine' wpAnyH_take (i := 0) (oi := { dst := some 185, op := Go.Op.move (Go.Operand.tmp 19), type := 3, pos := "law.go:172", after := #[], guard := none }) (v := _) rfl (by kernel_rfl) (by kernel_rfl) (by kernel_rfl) (fun _ _ _ h => h) (Or.inl ⟨by rfl, ?hy249⟩) (by assumption) ?hr249
              case hy249 => (intro _ hSw; (try dsimp only at hSw); go_simp <;> with_reducible rfl)
              simp only [Act.put, List.setIfInBounds_toArray, List.set_cons_zero, List.set_cons_succ]
              refine' wpAnyH_take (i := 1) (oi := { dst := some 186, op := Go.Op.indexAddr 30 (Go.Operand.tmp 10) (Go.Operand.tmp 185), type := 0, pos := "law.go:172", after := #[{ on := 0, ground := Go.Ground.data }], guard := none }) (v := _) rfl (by kernel_rfl) (by kernel_rfl) (by kernel_rfl) (fun _ _ _ h => h) (Or.inl ⟨by rfl, ?hy250⟩) (by assumption) ?hr250
              case hy250 => (intro _ hSw; (try dsimp only at hSw); go_simp <;> with_reducible rfl)
              simp only [Act.put, List.setIfInBounds_toArray, List.set_cons_zero, List.set_cons_succ]
              refine' wpAnyH_take (i := 2) (oi := { dst := some 187, op := Go.Op.load 29 (Go.Operand.tmp 186), type := 29, pos := "law.go:172", after := #[{ on := 1, ground := Go.Ground.data }], guard := none }) (v := _) rfl (by kernel_rfl) (by kernel_rfl) (by kernel_rfl) (fun _ _ _ h => h) (Or.inl ⟨by rfl, ?hy251⟩) (by assumption) ?hr251
              case hy251 => (intro _ hSw; (try dsimp only at hSw); have e10 := (hSw.1.cells).2.2.2.1; go_simp <;> with_reducible rfl)
              simp only [Act.put, List.setIfInBounds_toArray, List.set_cons_zero, List.set_cons_succ]
              refine' wpAnyH_take (i := 3) (oi := { dst := some 188, op := Go.Op.move (Go.Operand.tmp 24), type := 3, pos := "law.go:172", after := #[], guard := none }) (v := _) rfl (by kernel_rfl) (by kernel_rfl) (by kernel_rfl) (fun _ _ _ h => h) (Or.inl ⟨by rfl, ?hy252⟩) (by assumption) ?hr252
              case hy252 => (intro _ hSw; (try dsimp only at hSw); go_simp <;> with_reducible rfl)
              simp only [Act.put, List.setIfInBounds_toArray, List.set_cons_zero, List.set_cons_succ]
              refine' wpAnyH_take (i := 4) (oi := { dst := some 189, op := Go.Op.indexAddr 29 (Go.Operand.tmp 187) (Go.Operand.tmp 188), type := 0, pos := "law.go:172", after := #[{ on := 2, ground := Go.Ground.data }, { on := 3, ground := Go.Ground.data }], guard := none }) (v := _) rfl (by kernel_rfl) (by kernel_rfl) (by kernel_rfl) (fun _ _ _ h => h) (Or.inl ⟨by rfl, ?hy253⟩) (by assumption) ?hr253
              case hy253 => (intro _ hSw; (try dsimp only at hSw); go_simp <;> with_reducible rfl)
              simp only [Act.put, List.setIfInBounds_toArray, List.set_cons_zero, List.set_cons_succ]
              refine' wpAnyH_take (i := 5) (oi := { dst := some 190, op := Go.Op.fieldAddr 47 (Go.Operand.tmp 189) 0, type := 0, pos := "law.go:172", after := #[{ on := 4, ground := Go.Ground.data }], guard := none }) (v := _) rfl (by kernel_rfl) (by kernel_rfl) (by kernel_rfl) (fun _ _ _ h => h) (Or.inl ⟨by rfl, ?hy254⟩) (by assumption) ?hr254
              case hy254 => (intro _ hSw; (try dsimp only at hSw); go_simp <;> with_reducible rfl)
              simp only [Act.put, List.setIfInBounds_toArray, List.set_cons_zero, List.set_cons_succ]
              refine' wpAnyH_take (i := 6) (oi := { dst := some 191, op := Go.Op.load 5 (Go.Operand.tmp 190), type := 5, pos := "law.go:172", after := #[{ on := 5, ground := Go.Ground.data }], guard := none }) (v := _) rfl (by kernel_rfl) (by kernel_rfl) (by kernel_rfl) (fun _ _ _ h => h) (Or.inl ⟨by rfl, ?hy255⟩) (by assumption) ?hr255
              case hy255 => (intro _ hSw; (try dsimp only at hSw); have e0 := own_rangez fl_len hSw.1.g1 k f HFK.out 0 _ rfl; rw [Nat.add_zero] at e0; go_simp <;> with_reducible rfl)
              simp only [Act.put, List.setIfInBounds_toArray, List.set_cons_zero, List.set_cons_succ]
              refine' wpAnyH_take (i := 7) (oi := { dst := some 192, op := Go.Op.binOp Go.BinOp.eql 5 (Go.Operand.tmp 191) (Go.Operand.const (Go.Value.int Go.IntKind.u8 2)) 5, type := 4, pos := "law.go:172", after := #[{ on := 6, ground := Go.Ground.data }], guard := none }) (v := _) rfl (by kernel_rfl) (by kernel_rfl) (by kernel_rfl) (fun _ _ _ h => h) (Or.inl ⟨by rfl, ?hy256⟩) (by assumption) ?hr256
              case hy256 => (intro _ hSw; (try dsimp only at hSw); go_simp <;> with_reducible rfl)
              simp only [Act.put, List.setIfInBounds_toArray, List.set_cons_zero, List.set_cons_succ]
              refine' wpAnyH_take (i := 8) (oi := { dst := some 193, op := Go.Op.move (Go.Operand.tmp 192), type := 4, pos := "law.go:172", after := #[{ on := 7, ground := Go.Ground.data }], guard := none }) (v := _) rfl (by kernel_rfl) (by kernel_rfl) (by kernel_rfl) (fun _ _ _ h => h) (Or.inl ⟨by rfl, ?hy257⟩) (by assumption) ?hr257
              case hy257 => (intro _ hSw; (try dsimp only at hSw); go_simp <;> with_reducible rfl)
              simp only [Act.put, List.setIfInBounds_toArray, List.set_cons_zero, List.set_cons_succ]
              refine' wpAnyH_take (i := 9) (oi := { dst := some 194, op := Go.Op.fieldAddr 35 (Go.Operand.tmp 25) 0, type := 0, pos := "law.go:172", after := #[{ on := 8, ground := Go.Ground.guard }], guard := some (8, true) }) (v := _) rfl (by kernel_rfl) (by kernel_rfl) (by kernel_rfl) (fun _ _ _ h => h) (Or.inl ⟨by rfl, ?hy258⟩) (by assumption) ?hr258
              case hy258 => (intro _ hSw; (try dsimp only at hSw); go_simp <;> with_reducible rfl)
              simp only [Act.put, List.setIfInBounds_toArray, List.set_cons_zero, List.set_cons_succ]
              refine' wpAnyH_take (i := 10) (oi := { dst := some 195, op := Go.Op.load 5 (Go.Operand.tmp 194), type := 5, pos := "law.go:172", after := #[{ on := 9, ground := Go.Ground.data }, { on := 8, ground := Go.Ground.guard }], guard := some (8, true) }) (v := _) rfl (by kernel_rfl) (by kernel_rfl) (by kernel_rfl) (fun _ _ _ h => h) (Or.inl ⟨by rfl, ?hy259⟩) (by assumption) ?hr259
              case hy259 => (intro _ hSw; (try dsimp only at hSw); have e25 := (lay hSw.2).1; go_simp <;> with_reducible rfl)
              simp only [Act.put, List.setIfInBounds_toArray, List.set_cons_zero, List.set_cons_succ]
              refine' wpAnyH_take (i := 11) (oi := { dst := some 196, op := Go.Op.binOp Go.BinOp.eql 5 (Go.Operand.tmp 195) (Go.Operand.const (Go.Value.int Go.IntKind.u8 1)) 5, type := 4, pos := "law.go:172", after := #[{ on := 10, ground := Go.Ground.data }, { on := 8, ground := Go.Ground.guard }], guard := some (8, true) }) (v := _) rfl (by kernel_rfl) (by kernel_rfl) (by kernel_rfl) (fun _ _ _ h => h) (Or.inl ⟨by rfl, ?hy260⟩) (by assumption) ?hr260
              case hy260 => (intro _ hSw; (try dsimp only at hSw); go_simp <;> with_reducible rfl)
              simp only [Act.put, List.setIfInBounds_toArray, List.set_cons_zero, List.set_cons_succ]
              refine' wpAnyH_take (i := 12) (oi := { dst := some 197, op := Go.Op.pick (Go.Operand.tmp 193) (Go.Operand.tmp 196) (Go.Operand.const (Go.Value.bool false)), type := 4, pos := "law.go:172", after := #[{ on := 8, ground := Go.Ground.data }, { on := 11, ground := Go.Ground.data }], guard := none }) (v := _) rfl (by kernel_rfl) (by kernel_rfl) (by kernel_rfl) (fun _ _ _ h => h) (Or.inl ⟨by rfl, ?hy261⟩) (by assumption) ?hr261
              case hy261 => (intro _ hSw; (try dsimp only at hSw); go_simp <;> with_reducible rfl)
              simp only [Act.put, List.setIfInBounds_toArray, List.set_cons_zero, List.set_cons_succ]
              refine' wpAnyH_take (i := 13) (oi := { dst := some 198, op := Go.Op.move (Go.Operand.tmp 197), type := 4, pos := "law.go:172", after := #[{ on := 12, ground := Go.Ground.data }, { on := 8, ground := Go.Ground.chain }], guard := none }) (v := _) rfl (by kernel_rfl) (by kernel_rfl) (by kernel_rfl) (fun _ _ _ h => h) (Or.inl ⟨by rfl, ?hy262⟩) (by assumption) ?hr262
              case hy262 => (intro _ hSw; (try dsimp only at hSw); go_simp <;> with_reducible rfl)
              simp only [Act.put, List.setIfInBounds_toArray, List.set_cons_zero, List.set_cons_succ]
              refine wpAnyH_take (i := 14) (oi := { dst := some 199, op := Go.Op.fieldAddr 35 (Go.Operand.tmp 25) 2, type := 0, pos := "law.go:172", after := #[{ on := 13, ground := Go.Ground.guard }], guard := some (13, true) }) (v := undef) rfl (by kernel_rfl) (by kernel_rfl) (by kernel_rfl) (fun _ _ _ h => h) (Or.inr ⟨by rfl, rfl⟩) (by assumption) ?_
              simp only [Act.put, List.setIfInBounds_toArray, List.set_cons_zero, List.set_cons_succ]
              refine wpAnyH_take (i := 15) (oi := { dst := some 200, op := Go.Op.fieldAddr 23 (Go.Operand.tmp 199) 5, type := 0, pos := "law.go:172", after := #[{ on := 14, ground := Go.Ground.data }, { on := 13, ground := Go.Ground.guard }], guard := some (13, true) }) (v := undef) rfl (by kernel_rfl) (by kernel_rfl) (by kernel_rfl) (fun _ _ _ h => h) (Or.inr ⟨by rfl, rfl⟩) (by assumption) ?_
              simp only [Act.put, List.setIfInBounds_toArray, List.set_cons_zero, List.set_cons_succ]
              refine wpAnyH_take (i := 16) (oi := { dst := some 201, op := Go.Op.load 3 (Go.Operand.tmp 200), type := 3, pos := "law.go:172", after := #[{ on := 15, ground := Go.Ground.data }, { on := 13, ground := Go.Ground.guard }], guard := some (13, true) }) (v := undef) rfl (by kernel_rfl) (by kernel_rfl) (by kernel_rfl) (fun _ _ _ h => h) (Or.inr ⟨by rfl, rfl⟩) (by assumption) ?_
              simp only [Act.put, List.setIfInBounds_toArray, List.set_cons_zero, List.set_cons_succ]
              refine wpAnyH_take (i := 17) (oi := { dst := some 202, op := Go.Op.load 23 (Go.Operand.tmp 5), type := 23, pos := "law.go:172", after := #[{ on := 13, ground := Go.Ground.guard }], guard := some (13, true) }) (v := undef) rfl (by kernel_rfl) (by kernel_rfl) (by kernel_rfl) (fun _ _ _ h => h) (Or.inr ⟨by rfl, rfl⟩) (by assumption) ?_
              simp only [Act.put, List.setIfInBounds_toArray, List.set_cons_zero, List.set_cons_succ]
              refine wpAnyH_take (i := 18) (oi := { dst := some 203, op := Go.Op.load 23 (Go.Operand.tmp 4), type := 23, pos := "law.go:172", after := #[{ on := 13, ground := Go.Ground.guard }], guard := some (13, true) }) (v := undef) rfl (by kernel_rfl) (by kernel_rfl) (by kernel_rfl) (fun _ _ _ h => h) (Or.inr ⟨by rfl, rfl⟩) (by assumption) ?_
              simp only [Act.put, List.setIfInBounds_toArray, List.set_cons_zero, List.set_cons_succ]
              refine wpAnyH_take (i := 19) (oi := { dst := some 204, op := Go.Op.build 48 #[(0, Go.Operand.tmp 202), (1, Go.Operand.tmp 203)], type := 48, pos := "law.go:172", after := #[{ on := 17, ground := Go.Ground.data }, { on := 18, ground := Go.Ground.data }, { on := 13, ground := Go.Ground.guard }], guard := some (13, true) }) (v := undef) rfl (by kernel_rfl) (by kernel_rfl) (by kernel_rfl) (fun _ _ _ h => h) (Or.inr ⟨by rfl, rfl⟩) (by assumption) ?_
              simp only [Act.put, List.setIfInBounds_toArray, List.set_cons_zero, List.set_cons_succ]
              refine wpAnyH_take (i := 20) (oi := { dst := some 205, op := Go.Op.move (Go.Operand.tmp 19), type := 3, pos := "law.go:172", after := #[{ on := 13, ground := Go.Ground.guard }], guard := some (13, true) }) (v := undef) rfl (by kernel_rfl) (by kernel_rfl) (by kernel_rfl) (fun _ _ _ h => h) (Or.inr ⟨by rfl, rfl⟩) (by assumption) ?_
              simp only [Act.put, List.setIfInBounds_toArray, List.set_cons_zero, List.set_cons_succ]
              refine wpAnyH_take (i := 21) (oi := { dst := some 206, op := Go.Op.index 48 (Go.Operand.tmp 204) (Go.Operand.tmp 205), type := 23, pos := "law.go:172", after := #[{ on := 19, ground := Go.Ground.data }, { on := 20, ground := Go.Ground.data }, { on := 13, ground := Go.Ground.guard }], guard := some (13, true) }) (v := undef) rfl (by kernel_rfl) (by kernel_rfl) (by kernel_rfl) (fun _ _ _ h => h) (Or.inr ⟨by rfl, rfl⟩) (by assumption) ?_
              simp only [Act.put, List.setIfInBounds_toArray, List.set_cons_zero, List.set_cons_succ]
              refine wpAnyH_take (i := 22) (oi := { dst := some 207, op := Go.Op.field 23 (Go.Operand.tmp 206) 5, type := 3, pos := "law.go:172", after := #[{ on := 21, ground := Go.Ground.data }, { on := 13, ground := Go.Ground.guard }], guard := some (13, true) }) (v := undef) rfl (by kernel_rfl) (by kernel_rfl) (by kernel_rfl) (fun _ _ _ h => h) (Or.inr ⟨by rfl, rfl⟩) (by assumption) ?_
              simp only [Act.put, List.setIfInBounds_toArray, List.set_cons_zero, List.set_cons_succ]
              refine wpAnyH_take (i := 23) (oi := { dst := some 208, op := Go.Op.call { callee := Go.Callee.builtin Go.Builtin.max, args := #[Go.Operand.const (Go.Value.int Go.IntKind.i64 1), Go.Operand.tmp 207], argTypes := #[3, 3] }, type := 3, pos := "law.go:172", after := #[{ on := 22, ground := Go.Ground.data }, { on := 13, ground := Go.Ground.guard }], guard := some (13, true) }) (v := undef) rfl (by kernel_rfl) (by kernel_rfl) (by kernel_rfl) (fun _ _ _ h => h) (Or.inr ⟨by rfl, rfl⟩) (by assumption) ?_
              simp only [Act.put, List.setIfInBounds_toArray, List.set_cons_zero, List.set_cons_succ]
              refine wpAnyH_take (i := 24) (oi := { dst := some 209, op := Go.Op.binOp Go.BinOp.gtr 3 (Go.Operand.tmp 201) (Go.Operand.tmp 208) 3, type := 4, pos := "law.go:172", after := #[{ on := 16, ground := Go.Ground.data }, { on := 23, ground := Go.Ground.data }, { on := 13, ground := Go.Ground.guard }], guard := some (13, true) }) (v := undef) rfl (by kernel_rfl) (by kernel_rfl) (by kernel_rfl) (fun _ _ _ h => h) (Or.inr ⟨by rfl, rfl⟩) (by assumption) ?_
              simp only [Act.put, List.setIfInBounds_toArray, List.set_cons_zero, List.set_cons_succ]
              refine wpAnyH_take (i := 25) (oi := { dst := some 210, op := Go.Op.move (Go.Operand.tmp 209), type := 4, pos := "law.go:172", after := #[{ on := 24, ground := Go.Ground.data }, { on := 13, ground := Go.Ground.chain }, { on := 13, ground := Go.Ground.guard }], guard := some (13, true) }) (v := undef) rfl (by kernel_rfl) (by kernel_rfl) (by kernel_rfl) (fun _ _ _ h => h) (Or.inr ⟨by rfl, rfl⟩) (by assumption) ?_
              simp only [Act.put, List.setIfInBounds_toArray, List.set_cons_zero, List.set_cons_succ]
              refine wpAnyH_take (i := 26) (oi := { dst := some 211, op := Go.Op.fieldAddr 35 (Go.Operand.tmp 25) 2, type := 0, pos := "law.go:172", after := #[{ on := 25, ground := Go.Ground.guard }], guard := some (25, false) }) (v := undef) rfl (by kernel_rfl) (by kernel_rfl) (by kernel_rfl) (fun _ _ _ h => h) (Or.inr ⟨by rfl, rfl⟩) (by assumption) ?_
              simp only [Act.put, List.setIfInBounds_toArray, List.set_cons_zero, List.set_cons_succ]
              refine wpAnyH_take (i := 27) (oi := { dst := some 212, op := Go.Op.fieldAddr 23 (Go.Operand.tmp 211) 7, type := 0, pos := "law.go:172", after := #[{ on := 26, ground := Go.Ground.data }, { on := 25, ground := Go.Ground.guard }], guard := some (25, false) }) (v := undef) rfl (by kernel_rfl) (by kernel_rfl) (by kernel_rfl) (fun _ _ _ h => h) (Or.inr ⟨by rfl, rfl⟩) (by assumption) ?_
              simp only [Act.put, List.setIfInBounds_toArray, List.set_cons_zero, List.set_cons_succ]
              refine wpAnyH_take (i := 28) (oi := { dst := some 213, op := Go.Op.load 3 (Go.Operand.tmp 212), type := 3, pos := "law.go:172", after := #[{ on := 27, ground := Go.Ground.data }, { on := 25, ground := Go.Ground.guard }], guard := some (25, false) }) (v := undef) rfl (by kernel_rfl) (by kernel_rfl) (by kernel_rfl) (fun _ _ _ h => h) (Or.inr ⟨by rfl, rfl⟩) (by assumption) ?_
              simp only [Act.put, List.setIfInBounds_toArray, List.set_cons_zero, List.set_cons_succ]
              refine wpAnyH_take (i := 29) (oi := { dst := some 214, op := Go.Op.load 23 (Go.Operand.tmp 5), type := 23, pos := "law.go:172", after := #[{ on := 25, ground := Go.Ground.guard }], guard := some (25, false) }) (v := undef) rfl (by kernel_rfl) (by kernel_rfl) (by kernel_rfl) (fun _ _ _ h => h) (Or.inr ⟨by rfl, rfl⟩) (by assumption) ?_
              simp only [Act.put, List.setIfInBounds_toArray, List.set_cons_zero, List.set_cons_succ]
              refine wpAnyH_take (i := 30) (oi := { dst := some 215, op := Go.Op.load 23 (Go.Operand.tmp 4), type := 23, pos := "law.go:172", after := #[{ on := 25, ground := Go.Ground.guard }], guard := some (25, false) }) (v := undef) rfl (by kernel_rfl) (by kernel_rfl) (by kernel_rfl) (fun _ _ _ h => h) (Or.inr ⟨by rfl, rfl⟩) (by assumption) ?_
              simp only [Act.put, List.setIfInBounds_toArray, List.set_cons_zero, List.set_cons_succ]
              refine wpAnyH_take (i := 31) (oi := { dst := some 216, op := Go.Op.build 48 #[(0, Go.Operand.tmp 214), (1, Go.Operand.tmp 215)], type := 48, pos := "law.go:172", after := #[{ on := 29, ground := Go.Ground.data }, { on := 30, ground := Go.Ground.data }, { on := 25, ground := Go.Ground.guard }], guard := some (25, false) }) (v := undef) rfl (by kernel_rfl) (by kernel_rfl) (by kernel_rfl) (fun _ _ _ h => h) (Or.inr ⟨by rfl, rfl⟩) (by assumption) ?_
              simp only [Act.put, List.setIfInBounds_toArray, List.set_cons_zero, List.set_cons_succ]
              refine wpAnyH_take (i := 32) (oi := { dst := some 217, op := Go.Op.move (Go.Operand.tmp 19), type := 3, pos := "law.go:172", after := #[{ on := 25, ground := Go.Ground.guard }], guard := some (25, false) }) (v := undef) rfl (by kernel_rfl) (by kernel_rfl) (by kernel_rfl) (fun _ _ _ h => h) (Or.inr ⟨by rfl, rfl⟩) (by assumption) ?_
              simp only [Act.put, List.setIfInBounds_toArray, List.set_cons_zero, List.set_cons_succ]
              refine wpAnyH_take (i := 33) (oi := { dst := some 218, op := Go.Op.index 48 (Go.Operand.tmp 216) (Go.Operand.tmp 217), type := 23, pos := "law.go:172", after := #[{ on := 31, ground := Go.Ground.data }, { on := 32, ground := Go.Ground.data }, { on := 25, ground := Go.Ground.guard }], guard := some (25, false) }) (v := undef) rfl (by kernel_rfl) (by kernel_rfl) (by kernel_rfl) (fun _ _ _ h => h) (Or.inr ⟨by rfl, rfl⟩) (by assumption) ?_
              simp only [Act.put, List.setIfInBounds_toArray, List.set_cons_zero, List.set_cons_succ]
              refine wpAnyH_take (i := 34) (oi := { dst := some 219, op := Go.Op.field 23 (Go.Operand.tmp 218) 7, type := 3, pos := "law.go:172", after := #[{ on := 33, ground := Go.Ground.data }, { on := 25, ground := Go.Ground.guard }], guard := some (25, false) }) (v := undef) rfl (by kernel_rfl) (by kernel_rfl) (by kernel_rfl) (fun _ _ _ h => h) (Or.inr ⟨by rfl, rfl⟩) (by assumption) ?_
              simp only [Act.put, List.setIfInBounds_toArray, List.set_cons_zero, List.set_cons_succ]
              refine wpAnyH_take (i := 35) (oi := { dst := some 220, op := Go.Op.call { callee := Go.Callee.builtin Go.Builtin.max, args := #[Go.Operand.const (Go.Value.int Go.IntKind.i64 1), Go.Operand.tmp 219], argTypes := #[3, 3] }, type := 3, pos := "law.go:172", after := #[{ on := 34, ground := Go.Ground.data }, { on := 25, ground := Go.Ground.guard }], guard := some (25, false) }) (v := undef) rfl (by kernel_rfl) (by kernel_rfl) (by kernel_rfl) (fun _ _ _ h => h) (Or.inr ⟨by rfl, rfl⟩) (by assumption) ?_
              simp only [Act.put, List.setIfInBounds_toArray, List.set_cons_zero, List.set_cons_succ]
              refine wpAnyH_take (i := 36) (oi := { dst := some 221, op := Go.Op.binOp Go.BinOp.gtr 3 (Go.Operand.tmp 213) (Go.Operand.tmp 220) 3, type := 4, pos := "law.go:172", after := #[{ on := 28, ground := Go.Ground.data }, { on := 35, ground := Go.Ground.data }, { on := 25, ground := Go.Ground.guard }], guard := some (25, false) }) (v := undef) rfl (by kernel_rfl) (by kernel_rfl) (by kernel_rfl) (fun _ _ _ h => h) (Or.inr ⟨by rfl, rfl⟩) (by assumption) ?_
              simp only [Act.put, List.setIfInBounds_toArray, List.set_cons_zero, List.set_cons_succ]
              refine wpAnyH_take (i := 37) (oi := { dst := some 222, op := Go.Op.pick (Go.Operand.tmp 210) (Go.Operand.const (Go.Value.bool true)) (Go.Operand.tmp 221), type := 4, pos := "law.go:172", after := #[{ on := 25, ground := Go.Ground.data }, { on := 36, ground := Go.Ground.data }, { on := 13, ground := Go.Ground.guard }], guard := some (13, true) }) (v := undef) rfl (by kernel_rfl) (by kernel_rfl) (by kernel_rfl) (fun _ _ _ h => h) (Or.inr ⟨by rfl, rfl⟩) (by assumption) ?_
              simp only [Act.put, List.setIfInBounds_toArray, List.set_cons_zero, List.set_cons_succ]
              refine' wpAnyH_take (i := 38) (oi := { dst := some 223, op := Go.Op.pick (Go.Operand.tmp 198) (Go.Operand.tmp 222) (Go.Operand.const (Go.Value.bool false)), type := 4, pos := "law.go:172", after := #[{ on := 13, ground := Go.Ground.data }, { on := 37, ground := Go.Ground.data }], guard := none }) (v := _) rfl (by kernel_rfl) (by kernel_rfl) (by kernel_rfl) (fun _ _ _ h => h) (Or.inl ⟨by rfl, ?hy263⟩) (by assumption) ?hr263
              case hy263 => (intro _ hSw; (try dsimp only at hSw); go_simp <;> with_reducible rfl)
              simp only [Act.put, List.setIfInBounds_toArray, List.set_cons_zero, List.set_cons_succ]
              refine wpAnyH_done (by kernel_rfl) ?_ _
              have HX9 := Lib.hid hHeld.1
              clear hHeld ME7 H14
              go_wp2
              go_roundg (n1 - (k + 1))
              case measure => omega
              case rel => exact ⟨k + 1, by first | rfl | go_num, Nat.le_refl _, by omega, HX9⟩
          · have e1 : ((f.k : Int) == 2) = false := Mem.beq_false (by omega)
            clear h1 hf hkl
            go_wp2_with (first
              | ((with_reducible refine ldr (m := f.m) isM HR.out ?hx ?_); (case hx => rfl))
              | ((with_reducible refine alm zeroM ?_); intro b14 w6 h F6; have ME6 := Lib.hid (ME1.out.on F6.below); have H14a := Lib.hid h; have N14 := Lib.hid (ME1.out.le F6); clear h F6 d1 d2 d3 d4 d5 d6)
              | ((with_reducible refine stm (m := f.m) isM H14a.out ?hx ?hy ?_); (case hx => rfl); (case hy => rfl); intro w7 h M; have ME7 := Lib.hid (ME6.out.mod M H14a.out N14.out); have H14 := Lib.hid h; clear h M ME6 H14a))
            refine wp_region_held_drew (S := (fun w' => Me w c0 c1 b4 b5 b9 b10 b11 p0 p1 (.slice oa n ca) (.slice ob m cb) (.slice o0 n0 k0) (.slice (some ⟨g, 0, none⟩) n1 k1) y0 y1 f0 f1 w' ∧ w'.heap[b14]? = some (mO f.m MT))) (by kernel_rfl) ⟨ME7.out.on ⟨rfl, rfl, rfl, Nat.le_refl _, fun _ _ => rfl⟩, H14.out⟩ (fun hHeld => ?_)
            refine' wpAnyH_take (i := 0) (oi := { dst := some 185, op := Go.Op.move (Go.Operand.tmp 19), type := 3, pos := "law.go:172", after := #[], guard := none }) (v := _) rfl (by kernel_rfl) (by kernel_rfl) (by kernel_rfl) (fun _ _ _ h => h) (Or.inl ⟨by rfl, ?hy264⟩) (by assumption) ?hr264
            case hy264 => (intro _ hSw; (try dsimp only at hSw); go_simp <;> with_reducible rfl)
            simp only [Act.put, List.setIfInBounds_toArray, List.set_cons_zero, List.set_cons_succ]
            refine' wpAnyH_take (i := 1) (oi := { dst := some 186, op := Go.Op.indexAddr 30 (Go.Operand.tmp 10) (Go.Operand.tmp 185), type := 0, pos := "law.go:172", after := #[{ on := 0, ground := Go.Ground.data }], guard := none }) (v := _) rfl (by kernel_rfl) (by kernel_rfl) (by kernel_rfl) (fun _ _ _ h => h) (Or.inl ⟨by rfl, ?hy265⟩) (by assumption) ?hr265
            case hy265 => (intro _ hSw; (try dsimp only at hSw); go_simp <;> with_reducible rfl)
            simp only [Act.put, List.setIfInBounds_toArray, List.set_cons_zero, List.set_cons_succ]
            refine' wpAnyH_take (i := 2) (oi := { dst := some 187, op := Go.Op.load 29 (Go.Operand.tmp 186), type := 29, pos := "law.go:172", after := #[{ on := 1, ground := Go.Ground.data }], guard := none }) (v := _) rfl (by kernel_rfl) (by kernel_rfl) (by kernel_rfl) (fun _ _ _ h => h) (Or.inl ⟨by rfl, ?hy266⟩) (by assumption) ?hr266
            case hy266 => (intro _ hSw; (try dsimp only at hSw); have e10 := (hSw.1.cells).2.2.2.1; go_simp <;> with_reducible rfl)
            simp only [Act.put, List.setIfInBounds_toArray, List.set_cons_zero, List.set_cons_succ]
            refine' wpAnyH_take (i := 3) (oi := { dst := some 188, op := Go.Op.move (Go.Operand.tmp 24), type := 3, pos := "law.go:172", after := #[], guard := none }) (v := _) rfl (by kernel_rfl) (by kernel_rfl) (by kernel_rfl) (fun _ _ _ h => h) (Or.inl ⟨by rfl, ?hy267⟩) (by assumption) ?hr267
            case hy267 => (intro _ hSw; (try dsimp only at hSw); go_simp <;> with_reducible rfl)
            simp only [Act.put, List.setIfInBounds_toArray, List.set_cons_zero, List.set_cons_succ]
            refine' wpAnyH_take (i := 4) (oi := { dst := some 189, op := Go.Op.indexAddr 29 (Go.Operand.tmp 187) (Go.Operand.tmp 188), type := 0, pos := "law.go:172", after := #[{ on := 2, ground := Go.Ground.data }, { on := 3, ground := Go.Ground.data }], guard := none }) (v := _) rfl (by kernel_rfl) (by kernel_rfl) (by kernel_rfl) (fun _ _ _ h => h) (Or.inl ⟨by rfl, ?hy268⟩) (by assumption) ?hr268
            case hy268 => (intro _ hSw; (try dsimp only at hSw); go_simp <;> with_reducible rfl)
            simp only [Act.put, List.setIfInBounds_toArray, List.set_cons_zero, List.set_cons_succ]
            refine' wpAnyH_take (i := 5) (oi := { dst := some 190, op := Go.Op.fieldAddr 47 (Go.Operand.tmp 189) 0, type := 0, pos := "law.go:172", after := #[{ on := 4, ground := Go.Ground.data }], guard := none }) (v := _) rfl (by kernel_rfl) (by kernel_rfl) (by kernel_rfl) (fun _ _ _ h => h) (Or.inl ⟨by rfl, ?hy269⟩) (by assumption) ?hr269
            case hy269 => (intro _ hSw; (try dsimp only at hSw); go_simp <;> with_reducible rfl)
            simp only [Act.put, List.setIfInBounds_toArray, List.set_cons_zero, List.set_cons_succ]
            refine' wpAnyH_take (i := 6) (oi := { dst := some 191, op := Go.Op.load 5 (Go.Operand.tmp 190), type := 5, pos := "law.go:172", after := #[{ on := 5, ground := Go.Ground.data }], guard := none }) (v := _) rfl (by kernel_rfl) (by kernel_rfl) (by kernel_rfl) (fun _ _ _ h => h) (Or.inl ⟨by rfl, ?hy270⟩) (by assumption) ?hr270
            case hy270 => (intro _ hSw; (try dsimp only at hSw); have e0 := own_rangez fl_len hSw.1.g1 k f HFK.out 0 _ rfl; rw [Nat.add_zero] at e0; go_simp <;> with_reducible rfl)
            simp only [Act.put, List.setIfInBounds_toArray, List.set_cons_zero, List.set_cons_succ]
            refine' wpAnyH_take (i := 7) (oi := { dst := some 192, op := Go.Op.binOp Go.BinOp.eql 5 (Go.Operand.tmp 191) (Go.Operand.const (Go.Value.int Go.IntKind.u8 2)) 5, type := 4, pos := "law.go:172", after := #[{ on := 6, ground := Go.Ground.data }], guard := none }) (v := _) rfl (by kernel_rfl) (by kernel_rfl) (by kernel_rfl) (fun _ _ _ h => h) (Or.inl ⟨by rfl, ?hy271⟩) (by assumption) ?hr271
            case hy271 => (intro _ hSw; (try dsimp only at hSw); go_simp <;> with_reducible rfl)
            simp only [Act.put, List.setIfInBounds_toArray, List.set_cons_zero, List.set_cons_succ]
            refine' wpAnyH_take (i := 8) (oi := { dst := some 193, op := Go.Op.move (Go.Operand.tmp 192), type := 4, pos := "law.go:172", after := #[{ on := 7, ground := Go.Ground.data }], guard := none }) (v := _) rfl (by kernel_rfl) (by kernel_rfl) (by kernel_rfl) (fun _ _ _ h => h) (Or.inl ⟨by rfl, ?hy272⟩) (by assumption) ?hr272
            case hy272 => (intro _ hSw; (try dsimp only at hSw); go_simp <;> with_reducible rfl)
            simp only [Act.put, List.setIfInBounds_toArray, List.set_cons_zero, List.set_cons_succ]
            refine wpAnyH_take (i := 9) (oi := { dst := some 194, op := Go.Op.fieldAddr 35 (Go.Operand.tmp 25) 0, type := 0, pos := "law.go:172", after := #[{ on := 8, ground := Go.Ground.guard }], guard := some (8, true) }) (v := undef) rfl (by kernel_rfl) (by kernel_rfl) (by kernel_rfl) (fun _ _ _ h => h) (Or.inr ⟨by rfl, rfl⟩) (by assumption) ?_
            simp only [Act.put, List.setIfInBounds_toArray, List.set_cons_zero, List.set_cons_succ]
            refine wpAnyH_take (i := 10) (oi := { dst := some 195, op := Go.Op.load 5 (Go.Operand.tmp 194), type := 5, pos := "law.go:172", after := #[{ on := 9, ground := Go.Ground.data }, { on := 8, ground := Go.Ground.guard }], guard := some (8, true) }) (v := undef) rfl (by kernel_rfl) (by kernel_rfl) (by kernel_rfl) (fun _ _ _ h => h) (Or.inr ⟨by rfl, rfl⟩) (by assumption) ?_
            simp only [Act.put, List.setIfInBounds_toArray, List.set_cons_zero, List.set_cons_succ]
            refine wpAnyH_take (i := 11) (oi := { dst := some 196, op := Go.Op.binOp Go.BinOp.eql 5 (Go.Operand.tmp 195) (Go.Operand.const (Go.Value.int Go.IntKind.u8 1)) 5, type := 4, pos := "law.go:172", after := #[{ on := 10, ground := Go.Ground.data }, { on := 8, ground := Go.Ground.guard }], guard := some (8, true) }) (v := undef) rfl (by kernel_rfl) (by kernel_rfl) (by kernel_rfl) (fun _ _ _ h => h) (Or.inr ⟨by rfl, rfl⟩) (by assumption) ?_
            simp only [Act.put, List.setIfInBounds_toArray, List.set_cons_zero, List.set_cons_succ]
            refine' wpAnyH_take (i := 12) (oi := { dst := some 197, op := Go.Op.pick (Go.Operand.tmp 193) (Go.Operand.tmp 196) (Go.Operand.const (Go.Value.bool false)), type := 4, pos := "law.go:172", after := #[{ on := 8, ground := Go.Ground.data }, { on := 11, ground := Go.Ground.data }], guard := none }) (v := _) rfl (by kernel_rfl) (by kernel_rfl) (by kernel_rfl) (fun _ _ _ h => h) (Or.inl ⟨by rfl, ?hy273⟩) (by assumption) ?hr273
            case hy273 => (intro _ hSw; (try dsimp only at hSw); go_simp <;> with_reducible rfl)
            simp only [Act.put, List.setIfInBounds_toArray, List.set_cons_zero, List.set_cons_succ]
            refine' wpAnyH_take (i := 13) (oi := { dst := some 198, op := Go.Op.move (Go.Operand.tmp 197), type := 4, pos := "law.go:172", after := #[{ on := 12, ground := Go.Ground.data }, { on := 8, ground := Go.Ground.chain }], guard := none }) (v := _) rfl (by kernel_rfl) (by kernel_rfl) (by kernel_rfl) (fun _ _ _ h => h) (Or.inl ⟨by rfl, ?hy274⟩) (by assumption) ?hr274
            case hy274 => (intro _ hSw; (try dsimp only at hSw); go_simp <;> with_reducible rfl)
            simp only [Act.put, List.setIfInBounds_toArray, List.set_cons_zero, List.set_cons_succ]
            refine wpAnyH_take (i := 14) (oi := { dst := some 199, op := Go.Op.fieldAddr 35 (Go.Operand.tmp 25) 2, type := 0, pos := "law.go:172", after := #[{ on := 13, ground := Go.Ground.guard }], guard := some (13, true) }) (v := undef) rfl (by kernel_rfl) (by kernel_rfl) (by kernel_rfl) (fun _ _ _ h => h) (Or.inr ⟨by rfl, rfl⟩) (by assumption) ?_
            simp only [Act.put, List.setIfInBounds_toArray, List.set_cons_zero, List.set_cons_succ]
            refine wpAnyH_take (i := 15) (oi := { dst := some 200, op := Go.Op.fieldAddr 23 (Go.Operand.tmp 199) 5, type := 0, pos := "law.go:172", after := #[{ on := 14, ground := Go.Ground.data }, { on := 13, ground := Go.Ground.guard }], guard := some (13, true) }) (v := undef) rfl (by kernel_rfl) (by kernel_rfl) (by kernel_rfl) (fun _ _ _ h => h) (Or.inr ⟨by rfl, rfl⟩) (by assumption) ?_
            simp only [Act.put, List.setIfInBounds_toArray, List.set_cons_zero, List.set_cons_succ]
            refine wpAnyH_take (i := 16) (oi := { dst := some 201, op := Go.Op.load 3 (Go.Operand.tmp 200), type := 3, pos := "law.go:172", after := #[{ on := 15, ground := Go.Ground.data }, { on := 13, ground := Go.Ground.guard }], guard := some (13, true) }) (v := undef) rfl (by kernel_rfl) (by kernel_rfl) (by kernel_rfl) (fun _ _ _ h => h) (Or.inr ⟨by rfl, rfl⟩) (by assumption) ?_
            simp only [Act.put, List.setIfInBounds_toArray, List.set_cons_zero, List.set_cons_succ]
            refine wpAnyH_take (i := 17) (oi := { dst := some 202, op := Go.Op.load 23 (Go.Operand.tmp 5), type := 23, pos := "law.go:172", after := #[{ on := 13, ground := Go.Ground.guard }], guard := some (13, true) }) (v := undef) rfl (by kernel_rfl) (by kernel_rfl) (by kernel_rfl) (fun _ _ _ h => h) (Or.inr ⟨by rfl, rfl⟩) (by assumption) ?_
            simp only [Act.put, List.setIfInBounds_toArray, List.set_cons_zero, List.set_cons_succ]
            refine wpAnyH_take (i := 18) (oi := { dst := some 203, op := Go.Op.load 23 (Go.Operand.tmp 4), type := 23, pos := "law.go:172", after := #[{ on := 13, ground := Go.Ground.guard }], guard := some (13, true) }) (v := undef) rfl (by kernel_rfl) (by kernel_rfl) (by kernel_rfl) (fun _ _ _ h => h) (Or.inr ⟨by rfl, rfl⟩) (by assumption) ?_
            simp only [Act.put, List.setIfInBounds_toArray, List.set_cons_zero, List.set_cons_succ]
            refine wpAnyH_take (i := 19) (oi := { dst := some 204, op := Go.Op.build 48 #[(0, Go.Operand.tmp 202), (1, Go.Operand.tmp 203)], type := 48, pos := "law.go:172", after := #[{ on := 17, ground := Go.Ground.data }, { on := 18, ground := Go.Ground.data }, { on := 13, ground := Go.Ground.guard }], guard := some (13, true) }) (v := undef) rfl (by kernel_rfl) (by kernel_rfl) (by kernel_rfl) (fun _ _ _ h => h) (Or.inr ⟨by rfl, rfl⟩) (by assumption) ?_
            simp only [Act.put, List.setIfInBounds_toArray, List.set_cons_zero, List.set_cons_succ]
            refine wpAnyH_take (i := 20) (oi := { dst := some 205, op := Go.Op.move (Go.Operand.tmp 19), type := 3, pos := "law.go:172", after := #[{ on := 13, ground := Go.Ground.guard }], guard := some (13, true) }) (v := undef) rfl (by kernel_rfl) (by kernel_rfl) (by kernel_rfl) (fun _ _ _ h => h) (Or.inr ⟨by rfl, rfl⟩) (by assumption) ?_
            simp only [Act.put, List.setIfInBounds_toArray, List.set_cons_zero, List.set_cons_succ]
            refine wpAnyH_take (i := 21) (oi := { dst := some 206, op := Go.Op.index 48 (Go.Operand.tmp 204) (Go.Operand.tmp 205), type := 23, pos := "law.go:172", after := #[{ on := 19, ground := Go.Ground.data }, { on := 20, ground := Go.Ground.data }, { on := 13, ground := Go.Ground.guard }], guard := some (13, true) }) (v := undef) rfl (by kernel_rfl) (by kernel_rfl) (by kernel_rfl) (fun _ _ _ h => h) (Or.inr ⟨by rfl, rfl⟩) (by assumption) ?_
            simp only [Act.put, List.setIfInBounds_toArray, List.set_cons_zero, List.set_cons_succ]
            refine wpAnyH_take (i := 22) (oi := { dst := some 207, op := Go.Op.field 23 (Go.Operand.tmp 206) 5, type := 3, pos := "law.go:172", after := #[{ on := 21, ground := Go.Ground.data }, { on := 13, ground := Go.Ground.guard }], guard := some (13, true) }) (v := undef) rfl (by kernel_rfl) (by kernel_rfl) (by kernel_rfl) (fun _ _ _ h => h) (Or.inr ⟨by rfl, rfl⟩) (by assumption) ?_
            simp only [Act.put, List.setIfInBounds_toArray, List.set_cons_zero, List.set_cons_succ]
            refine wpAnyH_take (i := 23) (oi := { dst := some 208, op := Go.Op.call { callee := Go.Callee.builtin Go.Builtin.max, args := #[Go.Operand.const (Go.Value.int Go.IntKind.i64 1), Go.Operand.tmp 207], argTypes := #[3, 3] }, type := 3, pos := "law.go:172", after := #[{ on := 22, ground := Go.Ground.data }, { on := 13, ground := Go.Ground.guard }], guard := some (13, true) }) (v := undef) rfl (by kernel_rfl) (by kernel_rfl) (by kernel_rfl) (fun _ _ _ h => h) (Or.inr ⟨by rfl, rfl⟩) (by assumption) ?_
            simp only [Act.put, List.setIfInBounds_toArray, List.set_cons_zero, List.set_cons_succ]
            refine wpAnyH_take (i := 24) (oi := { dst := some 209, op := Go.Op.binOp Go.BinOp.gtr 3 (Go.Operand.tmp 201) (Go.Operand.tmp 208) 3, type := 4, pos := "law.go:172", after := #[{ on := 16, ground := Go.Ground.data }, { on := 23, ground := Go.Ground.data }, { on := 13, ground := Go.Ground.guard }], guard := some (13, true) }) (v := undef) rfl (by kernel_rfl) (by kernel_rfl) (by kernel_rfl) (fun _ _ _ h => h) (Or.inr ⟨by rfl, rfl⟩) (by assumption) ?_
            simp only [Act.put, List.setIfInBounds_toArray, List.set_cons_zero, List.set_cons_succ]
            refine wpAnyH_take (i := 25) (oi := { dst := some 210, op := Go.Op.move (Go.Operand.tmp 209), type := 4, pos := "law.go:172", after := #[{ on := 24, ground := Go.Ground.data }, { on := 13, ground := Go.Ground.chain }, { on := 13, ground := Go.Ground.guard }], guard := some (13, true) }) (v := undef) rfl (by kernel_rfl) (by kernel_rfl) (by kernel_rfl) (fun _ _ _ h => h) (Or.inr ⟨by rfl, rfl⟩) (by assumption) ?_
            simp only [Act.put, List.setIfInBounds_toArray, List.set_cons_zero, List.set_cons_succ]
            refine wpAnyH_take (i := 26) (oi := { dst := some 211, op := Go.Op.fieldAddr 35 (Go.Operand.tmp 25) 2, type := 0, pos := "law.go:172", after := #[{ on := 25, ground := Go.Ground.guard }], guard := some (25, false) }) (v := undef) rfl (by kernel_rfl) (by kernel_rfl) (by kernel_rfl) (fun _ _ _ h => h) (Or.inr ⟨by rfl, rfl⟩) (by assumption) ?_
            simp only [Act.put, List.setIfInBounds_toArray, List.set_cons_zero, List.set_cons_succ]
            refine wpAnyH_take (i := 27) (oi := { dst := some 212, op := Go.Op.fieldAddr 23 (Go.Operand.tmp 211) 7, type := 0, pos := "law.go:172", after := #[{ on := 26, ground := Go.Ground.data }, { on := 25, ground := Go.Ground.guard }], guard := some (25, false) }) (v := undef) rfl (by kernel_rfl) (by kernel_rfl) (by kernel_rfl) (fun _ _ _ h => h) (Or.inr ⟨by rfl, rfl⟩) (by assumption) ?_
            simp only [Act.put, List.setIfInBounds_toArray, List.set_cons_zero, List.set_cons_succ]
            refine wpAnyH_take (i := 28) (oi := { dst := some 213, op := Go.Op.load 3 (Go.Operand.tmp 212), type := 3, pos := "law.go:172", after := #[{ on := 27, ground := Go.Ground.data }, { on := 25, ground := Go.Ground.guard }], guard := some (25, false) }) (v := undef) rfl (by kernel_rfl) (by kernel_rfl) (by kernel_rfl) (fun _ _ _ h => h) (Or.inr ⟨by rfl, rfl⟩) (by assumption) ?_
            simp only [Act.put, List.setIfInBounds_toArray, List.set_cons_zero, List.set_cons_succ]
            refine wpAnyH_take (i := 29) (oi := { dst := some 214, op := Go.Op.load 23 (Go.Operand.tmp 5), type := 23, pos := "law.go:172", after := #[{ on := 25, ground := Go.Ground.guard }], guard := some (25, false) }) (v := undef) rfl (by kernel_rfl) (by kernel_rfl) (by kernel_rfl) (fun _ _ _ h => h) (Or.inr ⟨by rfl, rfl⟩) (by assumption) ?_
            simp only [Act.put, List.setIfInBounds_toArray, List.set_cons_zero, List.set_cons_succ]
            refine wpAnyH_take (i := 30) (oi := { dst := some 215, op := Go.Op.load 23 (Go.Operand.tmp 4), type := 23, pos := "law.go:172", after := #[{ on := 25, ground := Go.Ground.guard }], guard := some (25, false) }) (v := undef) rfl (by kernel_rfl) (by kernel_rfl) (by kernel_rfl) (fun _ _ _ h => h) (Or.inr ⟨by rfl, rfl⟩) (by assumption) ?_
            simp only [Act.put, List.setIfInBounds_toArray, List.set_cons_zero, List.set_cons_succ]
            refine wpAnyH_take (i := 31) (oi := { dst := some 216, op := Go.Op.build 48 #[(0, Go.Operand.tmp 214), (1, Go.Operand.tmp 215)], type := 48, pos := "law.go:172", after := #[{ on := 29, ground := Go.Ground.data }, { on := 30, ground := Go.Ground.data }, { on := 25, ground := Go.Ground.guard }], guard := some (25, false) }) (v := undef) rfl (by kernel_rfl) (by kernel_rfl) (by kernel_rfl) (fun _ _ _ h => h) (Or.inr ⟨by rfl, rfl⟩) (by assumption) ?_
            simp only [Act.put, List.setIfInBounds_toArray, List.set_cons_zero, List.set_cons_succ]
            refine wpAnyH_take (i := 32) (oi := { dst := some 217, op := Go.Op.move (Go.Operand.tmp 19), type := 3, pos := "law.go:172", after := #[{ on := 25, ground := Go.Ground.guard }], guard := some (25, false) }) (v := undef) rfl (by kernel_rfl) (by kernel_rfl) (by kernel_rfl) (fun _ _ _ h => h) (Or.inr ⟨by rfl, rfl⟩) (by assumption) ?_
            simp only [Act.put, List.setIfInBounds_toArray, List.set_cons_zero, List.set_cons_succ]
            refine wpAnyH_take (i := 33) (oi := { dst := some 218, op := Go.Op.index 48 (Go.Operand.tmp 216) (Go.Operand.tmp 217), type := 23, pos := "law.go:172", after := #[{ on := 31, ground := Go.Ground.data }, { on := 32, ground := Go.Ground.data }, { on := 25, ground := Go.Ground.guard }], guard := some (25, false) }) (v := undef) rfl (by kernel_rfl) (by kernel_rfl) (by kernel_rfl) (fun _ _ _ h => h) (Or.inr ⟨by rfl, rfl⟩) (by assumption) ?_
            simp only [Act.put, List.setIfInBounds_toArray, List.set_cons_zero, List.set_cons_succ]
            refine wpAnyH_take (i := 34) (oi := { dst := some 219, op := Go.Op.field 23 (Go.Operand.tmp 218) 7, type := 3, pos := "law.go:172", after := #[{ on := 33, ground := Go.Ground.data }, { on := 25, ground := Go.Ground.guard }], guard := some (25, false) }) (v := undef) rfl (by kernel_rfl) (by kernel_rfl) (by kernel_rfl) (fun _ _ _ h => h) (Or.inr ⟨by rfl, rfl⟩) (by assumption) ?_
            simp only [Act.put, List.setIfInBounds_toArray, List.set_cons_zero, List.set_cons_succ]
            refine wpAnyH_take (i := 35) (oi := { dst := some 220, op := Go.Op.call { callee := Go.Callee.builtin Go.Builtin.max, args := #[Go.Operand.const (Go.Value.int Go.IntKind.i64 1), Go.Operand.tmp 219], argTypes := #[3, 3] }, type := 3, pos := "law.go:172", after := #[{ on := 34, ground := Go.Ground.data }, { on := 25, ground := Go.Ground.guard }], guard := some (25, false) }) (v := undef) rfl (by kernel_rfl) (by kernel_rfl) (by kernel_rfl) (fun _ _ _ h => h) (Or.inr ⟨by rfl, rfl⟩) (by assumption) ?_
            simp only [Act.put, List.setIfInBounds_toArray, List.set_cons_zero, List.set_cons_succ]
            refine wpAnyH_take (i := 36) (oi := { dst := some 221, op := Go.Op.binOp Go.BinOp.gtr 3 (Go.Operand.tmp 213) (Go.Operand.tmp 220) 3, type := 4, pos := "law.go:172", after := #[{ on := 28, ground := Go.Ground.data }, { on := 35, ground := Go.Ground.data }, { on := 25, ground := Go.Ground.guard }], guard := some (25, false) }) (v := undef) rfl (by kernel_rfl) (by kernel_rfl) (by kernel_rfl) (fun _ _ _ h => h) (Or.inr ⟨by rfl, rfl⟩) (by assumption) ?_
            simp only [Act.put, List.setIfInBounds_toArray, List.set_cons_zero, List.set_cons_succ]
            refine wpAnyH_take (i := 37) (oi := { dst := some 222, op := Go.Op.pick (Go.Operand.tmp 210) (Go.Operand.const (Go.Value.bool true)) (Go.Operand.tmp 221), type := 4, pos := "law.go:172", after := #[{ on := 25, ground := Go.Ground.data }, { on := 36, ground := Go.Ground.data }, { on := 13, ground := Go.Ground.guard }], guard := some (13, true) }) (v := undef) rfl (by kernel_rfl) (by kernel_rfl) (by kernel_rfl) (fun _ _ _ h => h) (Or.inr ⟨by rfl, rfl⟩) (by assumption) ?_
            simp only [Act.put, List.setIfInBounds_toArray, List.set_cons_zero, List.set_cons_succ]
            refine' wpAnyH_take (i := 38) (oi := { dst := some 223, op := Go.Op.pick (Go.Operand.tmp 198) (Go.Operand.tmp 222) (Go.Operand.const (Go.Value.bool false)), type := 4, pos := "law.go:172", after := #[{ on := 13, ground := Go.Ground.data }, { on := 37, ground := Go.Ground.data }], guard := none }) (v := _) rfl (by kernel_rfl) (by kernel_rfl) (by kernel_rfl) (fun _ _ _ h => h) (Or.inl ⟨by rfl, ?hy275⟩) (by assumption) ?hr275
            case hy275 => (intro _ hSw; (try dsimp only at hSw); go_simp <;> with_reducible rfl)
            simp only [Act.put, List.setIfInBounds_toArray, List.set_cons_zero, List.set_cons_succ]
            refine wpAnyH_done (by kernel_rfl) ?_ _
            have HX9 := Lib.hid hHeld.1
            clear hHeld ME7 H14
            go_wp2
            go_roundg (n1 - (k + 1))
            case measure => omega
            case rel => exact ⟨k + 1, by first | rfl | go_num, Nat.le_refl _, by omega, HX9⟩
        · obtain rfl : n1 = k := by omega
          have t1 : decide ((n1 : Int) < (n1 : Int)) = false := decide_eq_false (by omega)
          have t2 : ¬ (n1 : Int) < (n1 : Int) := by omega
          go_wp2_with fail
          go_roundg (1 - 1)
          case measure => omega
          case rel => exact ⟨2, by first | rfl | go_num, by omega, by omega, ME1⟩
end
end Go.Proofs.YtakkhdammmcjcaaDoor.ctlMeets
