/-
  Layer 22, put together: CtlPsm (what each says stands ahead of it). Conditions: as each names them.
-/
import Derived.Test.YtakkhdammmcjcaaDoorB08
import Derived.Test.YtakkhdammmcjcaaDoorB10
import Derived.Test.YtakkhdammmcjcaaDoorB11
import Derived.Deep.RegionHeld
/-
  The program's own small words: a message's channel, the same command, may it be asked for, is it due, was it said, does a response answer it; its closures. No condition.
-/
namespace Go.Proofs.YtakkhdammmcjcaaDoor.Ctl
open Go.RowKit Go.Proofs.YtakkhdammmcjcaaDoor.Base Go.Proofs.YtakkhdammmcjcaaDoor.Mem Go.Proofs.YtakkhdammmcjcaaDoor.Msgs Go.Proofs.YtakkhdammmcjcaaDoor.Cr
set_option maxRecDepth 100000
theorem fchan (m : Ms) (hi : m.In) (w : World) : Calls Tryd.prog 28 #[mv m] w fun e w' => e = .returned (.int .u8 (ch m : Int)) ∧ Below w.heap.size w w' := by
  by_cases h1 : m.k = 1
  · have hc : (ch m : Int) = m.p.d := by unfold ch; rw [if_pos h1]; have := hi.p.d; omega
    rw [hc]
    have t1 : ((m.k : Int) == 1) = true := by rw [h1]; rfl
    clear hi hc
    go_enter Tryd.func28, Tryd.ntmps28
    go_wp2_with ((with_reducible refine bxm (m := m) ?hx ?_); (case hx => rfl); intro b w1 h1 F1; have HB := Lib.hid F1.below; obtain ⟨c0, c1, c2, c3, c4, c5⟩ := lay h1; clear h1 F1)
    go_ret
    exact ⟨rfl, HB.out⟩
  · have t1 : ((m.k : Int) == 1) = false := Mem.beq_false (by omega)
    by_cases h2 : m.k = 2
    · have hc : (ch m : Int) = (m.s.d : Int) := by unfold ch; rw [if_neg h1, if_pos h2]
      rw [hc]
      have t2 : ((m.k : Int) == 2) = true := by rw [h2]; rfl
      clear hi hc
      go_enter Tryd.func28, Tryd.ntmps28
      go_wp2_with ((with_reducible refine bxm (m := m) ?hx ?_); (case hx => rfl); intro b w1 h1 F1; have HB := Lib.hid F1.below; obtain ⟨c0, c1, c2, c3, c4, c5⟩ := lay h1; clear h1 F1)
      go_ret
      exact ⟨rfl, HB.out⟩
    · have hc : ch m = 0 := by unfold ch; rw [if_neg h1, if_neg h2]
      rw [hc]
      have t2 : ((m.k : Int) == 2) = false := Mem.beq_false (by omega)
      clear hi hc
      go_enter Tryd.func28, Tryd.ntmps28
      go_wp2_with ((with_reducible refine bxm (m := m) ?hx ?_); (case hx => rfl); intro b w1 h1 F1; have HB := Lib.hid F1.below; obtain ⟨c0, c1, c2, c3, c4, c5⟩ := lay h1; clear h1 F1)
      go_ret
      exact ⟨rfl, HB.out⟩
theorem nn_beq (a b : Nat) : ((a : Int) == (b : Int)) = (a == b) := by
  by_cases h : a = b
  · rw [h, beq_self_eq_true, beq_self_eq_true]
  · rw [Mem.beq_false (by omega), beq_eq_false_iff_ne.2 h]
set_option maxHeartbeats 2000000 in
theorem fsame (x y : Ms) (hx : x.In) (hy : y.In) (w : World) : Calls Tryd.prog 22 #[mv x, mv y] w fun e w' => e = .returned (.bool (same x y)) ∧ Below w.heap.size w w' := by
  have CX := fun w => fchan x hx w
  have CY := fun w => fchan y hy w
  by_cases hk : x.k = y.k
  · have t1 : ((x.k : Int) == (y.k : Int)) = true := by rw [hk]; exact beq_self_eq_true _
    have t2 : (x.k : Int) = (y.k : Int) := by rw [hk]
    have e1 : same x y = (ch x == ch y) := by unfold same; rw [hk, beq_self_eq_true, Bool.true_and]
    have e2 := nn_beq (ch x) (ch y)
    rw [e1]
    generalize ch x = cx at CX e2 ⊢
    generalize ch y = cy at CY e2 ⊢
    generalize (cx == cy) = q at e2 ⊢
    have CX := Lib.hid CX
    have CY := Lib.hid CY
    have T1 := Lib.hid t1
    clear hx hy e1 t2 hk
    go_enter Tryd.func22, Tryd.ntmps22
    go_wp2_with (first
      | ((with_reducible refine bxm (m := x) ?hx ?_); (case hx => rfl); intro b1 w1 h F; have HB := Lib.hid F.below; have H1 := Lib.hid h; clear h F)
      | ((with_reducible refine bxm (m := y) ?hx ?_); (case hx => rfl); intro b2 wx h F; replace H1 := Lib.hid (F.stays H1.out); have H2 := Lib.hid h; replace HB := Lib.hid (F.on HB.out); clear h F))
    refine wp_region_held_drew (S := (fun w' => Below wx.heap.size wx w')) (by kernel_rfl) (Below.refl _ _).drew (fun hHeld => ?_)
    refine' wpAnyH_take (i := 0) (oi := { dst := some 5, op := Go.Op.fieldAddr 35 (Go.Operand.tmp 2) 0, type := 0, pos := "ctl.go:240", after := #[], guard := none }) (v := _) rfl (by kernel_rfl) (by kernel_rfl) (by kernel_rfl) (fun _ _ _ h => h) (Or.inl ⟨by rfl, ?hy1⟩) (by assumption) ?hr1
    case hy1 => (intro _ hSw; (try dsimp only at hSw); go_simp <;> with_reducible rfl)
    simp only [Act.put, List.setIfInBounds_toArray, List.set_cons_zero, List.set_cons_succ]
    refine' wpAnyH_take (i := 1) (oi := { dst := some 6, op := Go.Op.load 5 (Go.Operand.tmp 5), type := 5, pos := "ctl.go:240", after := #[{ on := 0, ground := Go.Ground.data }], guard := none }) (v := _) rfl (by kernel_rfl) (by kernel_rfl) (by kernel_rfl) (fun _ _ _ h => h) (Or.inl ⟨by rfl, ?hy2⟩) (by assumption) ?hr2
    case hy2 => (intro _ hSw; (try dsimp only at hSw); have c1 := (lay (stays H1.out hSw)).1; go_simp <;> with_reducible rfl)
    simp only [Act.put, List.setIfInBounds_toArray, List.set_cons_zero, List.set_cons_succ]
    refine' wpAnyH_take (i := 2) (oi := { dst := some 7, op := Go.Op.fieldAddr 35 (Go.Operand.tmp 3) 0, type := 0, pos := "ctl.go:240", after := #[], guard := none }) (v := _) rfl (by kernel_rfl) (by kernel_rfl) (by kernel_rfl) (fun _ _ _ h => h) (Or.inl ⟨by rfl, ?hy3⟩) (by assumption) ?hr3
    case hy3 => (intro _ hSw; (try dsimp only at hSw); go_simp <;> with_reducible rfl)
    simp only [Act.put, List.setIfInBounds_toArray, List.set_cons_zero, List.set_cons_succ]
    refine' wpAnyH_take (i := 3) (oi := { dst := some 8, op := Go.Op.load 5 (Go.Operand.tmp 7), type := 5, pos := "ctl.go:240", after := #[{ on := 2, ground := Go.Ground.data }], guard := none }) (v := _) rfl (by kernel_rfl) (by kernel_rfl) (by kernel_rfl) (fun _ _ _ h => h) (Or.inl ⟨by rfl, ?hy4⟩) (by assumption) ?hr4
    case hy4 => (intro _ hSw; (try dsimp only at hSw); have c2 := (lay (stays H2.out hSw)).1; go_simp <;> with_reducible rfl)
    simp only [Act.put, List.setIfInBounds_toArray, List.set_cons_zero, List.set_cons_succ]
    refine' wpAnyH_take (i := 4) (oi := { dst := some 9, op := Go.Op.binOp Go.BinOp.eql 5 (Go.Operand.tmp 6) (Go.Operand.tmp 8) 5, type := 4, pos := "ctl.go:240", after := #[{ on := 1, ground := Go.Ground.data }, { on := 3, ground := Go.Ground.data }], guard := none }) (v := _) rfl (by kernel_rfl) (by kernel_rfl) (by kernel_rfl) (fun _ _ _ h => h) (Or.inl ⟨by rfl, ?hy5⟩) (by assumption) ?hr5
    case hy5 => (intro _ hSw; (try dsimp only at hSw); go_simp <;> with_reducible rfl)
    simp only [Act.put, List.setIfInBounds_toArray, List.set_cons_zero, List.set_cons_succ]
    refine' wpAnyH_take (i := 5) (oi := { dst := some 10, op := Go.Op.move (Go.Operand.tmp 9), type := 4, pos := "ctl.go:240", after := #[{ on := 4, ground := Go.Ground.data }], guard := none }) (v := _) rfl (by kernel_rfl) (by kernel_rfl) (by kernel_rfl) (fun _ _ _ h => h) (Or.inl ⟨by rfl, ?hy6⟩) (by assumption) ?hr6
    case hy6 => (intro _ hSw; (try dsimp only at hSw); go_simp <;> with_reducible rfl)
    simp only [Act.put, List.setIfInBounds_toArray, List.set_cons_zero, List.set_cons_succ]
    refine' wpAnyH_take (i := 6) (oi := { dst := some 11, op := Go.Op.load 35 (Go.Operand.tmp 2), type := 35, pos := "ctl.go:240", after := #[{ on := 5, ground := Go.Ground.guard }], guard := some (5, true) }) (v := _) rfl (by kernel_rfl) (by kernel_rfl) (by kernel_rfl) (fun _ _ _ h => h) (Or.inl ⟨by rfl, ?hy7⟩) (by assumption) ?hr7
    case hy7 => (intro _ hSw; (try dsimp only at hSw); refine ex_ld isM (stays H1.out hSw) ?_; rfl)
    simp only [Act.put, List.setIfInBounds_toArray, List.set_cons_zero, List.set_cons_succ]
    refine' wpAnyH_take (i := 8) (oi := { dst := some 13, op := Go.Op.load 35 (Go.Operand.tmp 3), type := 35, pos := "ctl.go:240", after := #[{ on := 5, ground := Go.Ground.guard }], guard := some (5, true) }) (v := _) rfl (by kernel_rfl) (by kernel_rfl) (by kernel_rfl) (fun _ _ _ h => h) (Or.inl ⟨by rfl, ?hy8⟩) (by assumption) ?hr8
    case hy8 => (intro _ hSw; (try dsimp only at hSw); refine ex_ld isM (stays H2.out hSw) ?_; rfl)
    simp only [Act.put, List.setIfInBounds_toArray, List.set_cons_zero, List.set_cons_succ]
    refine wpAnyH_ready (rs := [7]) (by kernel_rfl) (by simp) ?_
    refine AllReadyH.cons (o := { dst := some 12, op := Go.Op.call { callee := Go.Callee.value (Go.Operand.func 28), args := #[Go.Operand.tmp 11], argTypes := #[35] }, type := 5, pos := "ctl.go:240", after := #[{ on := 6, ground := Go.Ground.data }, { on := 5, ground := Go.Ground.chain }, { on := 5, ground := Go.Ground.guard }], guard := some (5, true) }) rfl (fun K hK => ?_) AllReadyH.nil
    go_simp
    (with_reducible refine (CX.out _).mono ?_)
    rintro e wc ⟨rfl, hb⟩
    go_wp2_with fail
    refine hK.out _ _ (below_on hHeld hb) (fun hNext => ?_)
    clear hK K hHeld hb
    have hHeld := hNext
    clear hNext
    (try simp only [Act.put, List.setIfInBounds_toArray, List.set_cons_zero, List.set_cons_succ])
    refine wpAnyH_ready (rs := [9]) (by kernel_rfl) (by simp) ?_
    refine AllReadyH.cons (o := { dst := some 14, op := Go.Op.call { callee := Go.Callee.value (Go.Operand.func 28), args := #[Go.Operand.tmp 13], argTypes := #[35] }, type := 5, pos := "ctl.go:240", after := #[{ on := 8, ground := Go.Ground.data }, { on := 7, ground := Go.Ground.chain }, { on := 5, ground := Go.Ground.guard }], guard := some (5, true) }) rfl (fun K hK => ?_) AllReadyH.nil
    go_simp
    (with_reducible refine (CY.out _).mono ?_)
    rintro e wc ⟨rfl, hb⟩
    go_wp2_with fail
    refine hK.out _ _ (below_on hHeld hb) (fun hNext => ?_)
    clear hK K hHeld hb
    have hHeld := hNext
    clear hNext
    (try simp only [Act.put, List.setIfInBounds_toArray, List.set_cons_zero, List.set_cons_succ])
    refine' wpAnyH_take (i := 10) (oi := { dst := some 15, op := Go.Op.binOp Go.BinOp.eql 5 (Go.Operand.tmp 12) (Go.Operand.tmp 14) 5, type := 4, pos := "ctl.go:240", after := #[{ on := 7, ground := Go.Ground.data }, { on := 9, ground := Go.Ground.data }, { on := 5, ground := Go.Ground.guard }], guard := some (5, true) }) (v := _) rfl (by kernel_rfl) (by kernel_rfl) (by kernel_rfl) (fun _ _ _ h => h) (Or.inl ⟨by rfl, ?hy9⟩) (by assumption) ?hr9
    case hy9 => (intro _ hSw; (try dsimp only at hSw); go_simp <;> with_reducible rfl)
    simp only [Act.put, List.setIfInBounds_toArray, List.set_cons_zero, List.set_cons_succ]
    refine' wpAnyH_take (i := 11) (oi := { dst := some 16, op := Go.Op.pick (Go.Operand.tmp 10) (Go.Operand.tmp 15) (Go.Operand.const (Go.Value.bool false)), type := 4, pos := "ctl.go:240", after := #[{ on := 5, ground := Go.Ground.data }, { on := 10, ground := Go.Ground.data }], guard := none }) (v := _) rfl (by kernel_rfl) (by kernel_rfl) (by kernel_rfl) (fun _ _ _ h => h) (Or.inl ⟨by rfl, ?hy10⟩) (by assumption) ?hr10
    case hy10 => (intro _ hSw; (try dsimp only at hSw); go_simp <;> with_reducible rfl)
    simp only [Act.put, List.setIfInBounds_toArray, List.set_cons_zero, List.set_cons_succ]
    refine' wpAnyH_take (i := 12) (oi := { dst := some 4, op := Go.Op.assign (Go.Operand.tmp 16), type := 4, pos := "ctl.go:240", after := #[{ on := 11, ground := Go.Ground.data }, { on := 9, ground := Go.Ground.chain }, { on := 0, ground := Go.Ground.phase }, { on := 1, ground := Go.Ground.phase }, { on := 2, ground := Go.Ground.phase }, { on := 3, ground := Go.Ground.phase }, { on := 4, ground := Go.Ground.phase }, { on := 5, ground := Go.Ground.phase }, { on := 6, ground := Go.Ground.phase }, { on := 7, ground := Go.Ground.phase }, { on := 8, ground := Go.Ground.phase }, { on := 9, ground := Go.Ground.phase }, { on := 10, ground := Go.Ground.phase }, { on := 11, ground := Go.Ground.phase }], guard := none }) (v := _) rfl (by kernel_rfl) (by kernel_rfl) (by kernel_rfl) (fun _ _ _ h => h) (Or.inl ⟨by rfl, ?hy11⟩) (by assumption) ?hr11
    case hy11 => (intro _ hSw; (try dsimp only at hSw); go_simp <;> with_reducible rfl)
    simp only [Act.put, List.setIfInBounds_toArray, List.set_cons_zero, List.set_cons_succ]
    refine wpAnyH_done (by kernel_rfl) ?_ _
    have HY9 := Lib.hid hHeld
    clear hHeld
    go_wp2
    go_ret
    exact ⟨rfl, below_on HB.out HY9.out⟩
  · have t1 : ((x.k : Int) == (y.k : Int)) = false := Mem.beq_false (by omega)
    have e1 : same x y = false := by unfold same; rw [beq_eq_false_iff_ne.2 hk, Bool.false_and]
    rw [e1]
    clear hx hy e1 CX CY
    go_enter Tryd.func22, Tryd.ntmps22
    go_wp2_with (first
      | ((with_reducible refine bxm (m := x) ?hx ?_); (case hx => rfl); intro b1 w1 h F; have HB := Lib.hid F.below; have H1 := Lib.hid h; clear h F)
      | ((with_reducible refine bxm (m := y) ?hx ?_); (case hx => rfl); intro b2 wx h F; replace H1 := Lib.hid (F.stays H1.out); have H2 := Lib.hid h; replace HB := Lib.hid (F.on HB.out); clear h F))
    refine wp_region_held_drew (S := (fun w' => Below wx.heap.size wx w')) (by kernel_rfl) (Below.refl _ _).drew (fun hHeld => ?_)
    refine' wpAnyH_take (i := 0) (oi := { dst := some 5, op := Go.Op.fieldAddr 35 (Go.Operand.tmp 2) 0, type := 0, pos := "ctl.go:240", after := #[], guard := none }) (v := _) rfl (by kernel_rfl) (by kernel_rfl) (by kernel_rfl) (fun _ _ _ h => h) (Or.inl ⟨by rfl, ?hy12⟩) (by assumption) ?hr12
    case hy12 => (intro _ hSw; (try dsimp only at hSw); go_simp <;> with_reducible rfl)
    simp only [Act.put, List.setIfInBounds_toArray, List.set_cons_zero, List.set_cons_succ]
    refine' wpAnyH_take (i := 1) (oi := { dst := some 6, op := Go.Op.load 5 (Go.Operand.tmp 5), type := 5, pos := "ctl.go:240", after := #[{ on := 0, ground := Go.Ground.data }], guard := none }) (v := _) rfl (by kernel_rfl) (by kernel_rfl) (by kernel_rfl) (fun _ _ _ h => h) (Or.inl ⟨by rfl, ?hy13⟩) (by assumption) ?hr13
    case hy13 => (intro _ hSw; (try dsimp only at hSw); have c1 := (lay (stays H1.out hSw)).1; go_simp <;> with_reducible rfl)
    simp only [Act.put, List.setIfInBounds_toArray, List.set_cons_zero, List.set_cons_succ]
    refine' wpAnyH_take (i := 2) (oi := { dst := some 7, op := Go.Op.fieldAddr 35 (Go.Operand.tmp 3) 0, type := 0, pos := "ctl.go:240", after := #[], guard := none }) (v := _) rfl (by kernel_rfl) (by kernel_rfl) (by kernel_rfl) (fun _ _ _ h => h) (Or.inl ⟨by rfl, ?hy14⟩) (by assumption) ?hr14
    case hy14 => (intro _ hSw; (try dsimp only at hSw); go_simp <;> with_reducible rfl)
    simp only [Act.put, List.setIfInBounds_toArray, List.set_cons_zero, List.set_cons_succ]
    refine' wpAnyH_take (i := 3) (oi := { dst := some 8, op := Go.Op.load 5 (Go.Operand.tmp 7), type := 5, pos := "ctl.go:240", after := #[{ on := 2, ground := Go.Ground.data }], guard := none }) (v := _) rfl (by kernel_rfl) (by kernel_rfl) (by kernel_rfl) (fun _ _ _ h => h) (Or.inl ⟨by rfl, ?hy15⟩) (by assumption) ?hr15
    case hy15 => (intro _ hSw; (try dsimp only at hSw); have c2 := (lay (stays H2.out hSw)).1; go_simp <;> with_reducible rfl)
    simp only [Act.put, List.setIfInBounds_toArray, List.set_cons_zero, List.set_cons_succ]
    refine' wpAnyH_take (i := 4) (oi := { dst := some 9, op := Go.Op.binOp Go.BinOp.eql 5 (Go.Operand.tmp 6) (Go.Operand.tmp 8) 5, type := 4, pos := "ctl.go:240", after := #[{ on := 1, ground := Go.Ground.data }, { on := 3, ground := Go.Ground.data }], guard := none }) (v := _) rfl (by kernel_rfl) (by kernel_rfl) (by kernel_rfl) (fun _ _ _ h => h) (Or.inl ⟨by rfl, ?hy16⟩) (by assumption) ?hr16
    case hy16 => (intro _ hSw; (try dsimp only at hSw); go_simp <;> with_reducible rfl)
    simp only [Act.put, List.setIfInBounds_toArray, List.set_cons_zero, List.set_cons_succ]
    refine' wpAnyH_take (i := 5) (oi := { dst := some 10, op := Go.Op.move (Go.Operand.tmp 9), type := 4, pos := "ctl.go:240", after := #[{ on := 4, ground := Go.Ground.data }], guard := none }) (v := _) rfl (by kernel_rfl) (by kernel_rfl) (by kernel_rfl) (fun _ _ _ h => h) (Or.inl ⟨by rfl, ?hy17⟩) (by assumption) ?hr17
    case hy17 => (intro _ hSw; (try dsimp only at hSw); go_simp <;> with_reducible rfl)
    simp only [Act.put, List.setIfInBounds_toArray, List.set_cons_zero, List.set_cons_succ]
    refine wpAnyH_take (i := 6) (oi := { dst := some 11, op := Go.Op.load 35 (Go.Operand.tmp 2), type := 35, pos := "ctl.go:240", after := #[{ on := 5, ground := Go.Ground.guard }], guard := some (5, true) }) (v := undef) rfl (by kernel_rfl) (by kernel_rfl) (by kernel_rfl) (fun _ _ _ h => h) (Or.inr ⟨by rfl, rfl⟩) (by assumption) ?_
    simp only [Act.put, List.setIfInBounds_toArray, List.set_cons_zero, List.set_cons_succ]
    refine wpAnyH_take (i := 7) (oi := { dst := some 12, op := Go.Op.call { callee := Go.Callee.value (Go.Operand.func 28), args := #[Go.Operand.tmp 11], argTypes := #[35] }, type := 5, pos := "ctl.go:240", after := #[{ on := 6, ground := Go.Ground.data }, { on := 5, ground := Go.Ground.chain }, { on := 5, ground := Go.Ground.guard }], guard := some (5, true) }) (v := undef) rfl (by kernel_rfl) (by kernel_rfl) (by kernel_rfl) (fun _ _ _ h => h) (Or.inr ⟨by rfl, rfl⟩) (by assumption) ?_
    simp only [Act.put, List.setIfInBounds_toArray, List.set_cons_zero, List.set_cons_succ]
    refine wpAnyH_take (i := 8) (oi := { dst := some 13, op := Go.Op.load 35 (Go.Operand.tmp 3), type := 35, pos := "ctl.go:240", after := #[{ on := 5, ground := Go.Ground.guard }], guard := some (5, true) }) (v := undef) rfl (by kernel_rfl) (by kernel_rfl) (by kernel_rfl) (fun _ _ _ h => h) (Or.inr ⟨by rfl, rfl⟩) (by assumption) ?_
    simp only [Act.put, List.setIfInBounds_toArray, List.set_cons_zero, List.set_cons_succ]
    refine wpAnyH_take (i := 9) (oi := { dst := some 14, op := Go.Op.call { callee := Go.Callee.value (Go.Operand.func 28), args := #[Go.Operand.tmp 13], argTypes := #[35] }, type := 5, pos := "ctl.go:240", after := #[{ on := 8, ground := Go.Ground.data }, { on := 7, ground := Go.Ground.chain }, { on := 5, ground := Go.Ground.guard }], guard := some (5, true) }) (v := undef) rfl (by kernel_rfl) (by kernel_rfl) (by kernel_rfl) (fun _ _ _ h => h) (Or.inr ⟨by rfl, rfl⟩) (by assumption) ?_
    simp only [Act.put, List.setIfInBounds_toArray, List.set_cons_zero, List.set_cons_succ]
    refine wpAnyH_take (i := 10) (oi := { dst := some 15, op := Go.Op.binOp Go.BinOp.eql 5 (Go.Operand.tmp 12) (Go.Operand.tmp 14) 5, type := 4, pos := "ctl.go:240", after := #[{ on := 7, ground := Go.Ground.data }, { on := 9, ground := Go.Ground.data }, { on := 5, ground := Go.Ground.guard }], guard := some (5, true) }) (v := undef) rfl (by kernel_rfl) (by kernel_rfl) (by kernel_rfl) (fun _ _ _ h => h) (Or.inr ⟨by rfl, rfl⟩) (by assumption) ?_
    simp only [Act.put, List.setIfInBounds_toArray, List.set_cons_zero, List.set_cons_succ]
    refine' wpAnyH_take (i := 11) (oi := { dst := some 16, op := Go.Op.pick (Go.Operand.tmp 10) (Go.Operand.tmp 15) (Go.Operand.const (Go.Value.bool false)), type := 4, pos := "ctl.go:240", after := #[{ on := 5, ground := Go.Ground.data }, { on := 10, ground := Go.Ground.data }], guard := none }) (v := _) rfl (by kernel_rfl) (by kernel_rfl) (by kernel_rfl) (fun _ _ _ h => h) (Or.inl ⟨by rfl, ?hy18⟩) (by assumption) ?hr18
    case hy18 => (intro _ hSw; (try dsimp only at hSw); go_simp <;> with_reducible rfl)
    simp only [Act.put, List.setIfInBounds_toArray, List.set_cons_zero, List.set_cons_succ]
    refine' wpAnyH_take (i := 12) (oi := { dst := some 4, op := Go.Op.assign (Go.Operand.tmp 16), type := 4, pos := "ctl.go:240", after := #[{ on := 11, ground := Go.Ground.data }, { on := 9, ground := Go.Ground.chain }, { on := 0, ground := Go.Ground.phase }, { on := 1, ground := Go.Ground.phase }, { on := 2, ground := Go.Ground.phase }, { on := 3, ground := Go.Ground.phase }, { on := 4, ground := Go.Ground.phase }, { on := 5, ground := Go.Ground.phase }, { on := 6, ground := Go.Ground.phase }, { on := 7, ground := Go.Ground.phase }, { on := 8, ground := Go.Ground.phase }, { on := 9, ground := Go.Ground.phase }, { on := 10, ground := Go.Ground.phase }, { on := 11, ground := Go.Ground.phase }], guard := none }) (v := _) rfl (by kernel_rfl) (by kernel_rfl) (by kernel_rfl) (fun _ _ _ h => h) (Or.inl ⟨by rfl, ?hy19⟩) (by assumption) ?hr19
    case hy19 => (intro _ hSw; (try dsimp only at hSw); go_simp <;> with_reducible rfl)
    simp only [Act.put, List.setIfInBounds_toArray, List.set_cons_zero, List.set_cons_succ]
    refine wpAnyH_done (by kernel_rfl) ?_ _
    have HY9 := Lib.hid hHeld
    clear hHeld
    go_wp2
    go_ret
    exact ⟨rfl, below_on HB.out HY9.out⟩
/-- Is a command of that Kind answered by a response? -/
def hr (k : Nat) : Bool := decide (1 ≤ k) && decide (k ≤ 6)
theorem fresp (k : Nat) (w : World) : Calls Tryd.prog 38 #[.int .u8 (k : Int)] w fun e w' => e = .returned (.bool (hr k)) ∧ w = w' := by
  by_cases h1 : k = 1
  · have t1 : ((k : Int) == 1) = true := by rw [h1]; rfl
    have hh : hr k = true := by rw [h1]; rfl
    rw [hh]
    clear hh h1
    go_enter Tryd.func38, Tryd.ntmps38
    go_wp2
    go_ret
    exact ⟨rfl, rfl⟩
  have t1 : ((k : Int) == 1) = false := Mem.beq_false (by omega)
  by_cases h2 : k = 2
  · have t2 : ((k : Int) == 2) = true := by rw [h2]; rfl
    have hh : hr k = true := by rw [h2]; rfl
    rw [hh]
    clear hh h2
    go_enter Tryd.func38, Tryd.ntmps38
    go_wp2
    go_ret
    exact ⟨rfl, rfl⟩
  have t2 : ((k : Int) == 2) = false := Mem.beq_false (by omega)
  by_cases h3 : k = 3
  · have t3 : ((k : Int) == 3) = true := by rw [h3]; rfl
    have hh : hr k = true := by rw [h3]; rfl
    rw [hh]
    clear hh h3
    go_enter Tryd.func38, Tryd.ntmps38
    go_wp2
    go_ret
    exact ⟨rfl, rfl⟩
  have t3 : ((k : Int) == 3) = false := Mem.beq_false (by omega)
  by_cases h4 : k = 4
  · have t4 : ((k : Int) == 4) = true := by rw [h4]; rfl
    have hh : hr k = true := by rw [h4]; rfl
    rw [hh]
    clear hh h4
    go_enter Tryd.func38, Tryd.ntmps38
    go_wp2
    go_ret
    exact ⟨rfl, rfl⟩
  have t4 : ((k : Int) == 4) = false := Mem.beq_false (by omega)
  by_cases h5 : k = 5
  · have t5 : ((k : Int) == 5) = true := by rw [h5]; rfl
    have hh : hr k = true := by rw [h5]; rfl
    rw [hh]
    clear hh h5
    go_enter Tryd.func38, Tryd.ntmps38
    go_wp2
    go_ret
    exact ⟨rfl, rfl⟩
  have t5 : ((k : Int) == 5) = false := Mem.beq_false (by omega)
  by_cases h6 : k = 6
  · have t6 : ((k : Int) == 6) = true := by rw [h6]; rfl
    have hh : hr k = true := by rw [h6]; rfl
    rw [hh]
    clear hh h6
    go_enter Tryd.func38, Tryd.ntmps38
    go_wp2
    go_ret
    exact ⟨rfl, rfl⟩
  have t6 : ((k : Int) == 6) = false := Mem.beq_false (by omega)
  have hh : hr k = false := by
    unfold hr
    by_cases h : 1 ≤ k
    · rw [decide_eq_false (p := k ≤ 6) (by omega), Bool.and_false]
    · rw [decide_eq_false h, Bool.false_and]
  rw [hh]
  clear hh h1 h2 h3 h4 h5 h6
  go_enter Tryd.func38, Tryd.ntmps38
  go_wp2
  go_ret
  exact ⟨rfl, rfl⟩
theorem mayAsk_eq {m : Ms} (hm : m.In) : mayAsk m = ((putE m == 0) && m.c && hr m.k) := by
  rw [Bool.eq_iff_iff]
  constructor
  · intro h
    have ha := (mayAsk_iff hm).1 h
    have h1 := may_k ha.may
    have e1 : putE m = 0 := (bytes_of ha.may ha.ok.few).1
    unfold hr
    rw [e1, ha.c, decide_eq_true h1.1, decide_eq_true ha.k]; rfl
  · intro h
    simp only [Bool.and_eq_true, beq_iff_eq, hr, decide_eq_true_eq] at h
    obtain ⟨⟨h1, h2⟩, h3, h4⟩ := h
    obtain ⟨h5, h6⟩ := putE_may h1
    refine (mayAsk_iff hm).2 ⟨hm, h5, h2, h4, ?_⟩
    by_cases h7 : m.k = 5
    · have : val m = m.b := by unfold val; rw [if_neg (by omega), if_neg (by omega), if_neg (by omega), if_pos (.inl h7)]
      rw [this] at h6; exact h6
    · have := (may_of h5).2
      have hb : m.b = if m.k = 5 ∨ m.k = 8 then m.b else no := congrArg Ms.b this
      rw [if_neg (by omega)] at hb
      rw [hb]; show 0 ≤ 127; decide
set_option maxHeartbeats 2000000 in
theorem fmayAsk (m : Ms) (hm : m.In) (hb : m.b.size ≤ 281474976710656) (w : World) (ht : Tab w) : Calls Tryd.prog 19 #[mv m] w fun e w' => e = .returned (.bool (mayAsk m)) ∧ Below w.heap.size w w' := by
  have CP := fun w h => fput m hm hb w h
  have CR := Lib.hid (fun w => fresp m.k w)
  have HT := Lib.hid ht
  rw [mayAsk_eq hm]
  generalize putE m = E at CP ⊢
  generalize putS m = S at CP
  generalize hr m.k = h at CR ⊢
  have CP := Lib.hid CP
  clear hm hb ht
  by_cases h0 : E = 0
  · have t1 : ((E : Int) == 0) = true := by rw [h0]; rfl
    have e1 : (E == 0) = true := by rw [h0]; rfl
    rw [e1, Bool.true_and]
    clear h0 e1
    cases hc : m.c with
    | true =>
      rw [Bool.true_and]
      go_enter Tryd.func19, Tryd.ntmps19
      go_wp2_with (first
      | ((with_reducible refine bxm (m := m) ?hx ?_); (case hx => rfl); intro b1 w1 h F; have HB := Lib.hid F.below; have H1 := Lib.hid h; have HT1 := Lib.hid (tab_below HT.out F.below); clear h F)
      | ((with_reducible refine ldm isM H1.out ?hx ?_); (case hx => rfl))
      | (go_at_call 16; ((with_reducible refine (CP.out _ HT1.out).mono ?_); rintro e w2 ⟨rfl, hb⟩; have H3 := Lib.hid (stays H1.out hb); have HB2 := Lib.hid (below_on HB.out hb); obtain ⟨c0, c1, c2, c3, c4, c5⟩ := lay H3.out; clear hb))
      | (go_at_call 38; ((with_reducible refine (CR.out _).mono ?_); rintro e w3 ⟨rfl, rfl⟩; skip)))
      go_ret
      exact ⟨rfl, HB2.out⟩
    | false =>
      rw [Bool.false_and]
      go_enter Tryd.func19, Tryd.ntmps19
      go_wp2_with (first
      | ((with_reducible refine bxm (m := m) ?hx ?_); (case hx => rfl); intro b1 w1 h F; have HB := Lib.hid F.below; have H1 := Lib.hid h; have HT1 := Lib.hid (tab_below HT.out F.below); clear h F)
      | ((with_reducible refine ldm isM H1.out ?hx ?_); (case hx => rfl))
      | (go_at_call 16; ((with_reducible refine (CP.out _ HT1.out).mono ?_); rintro e w2 ⟨rfl, hb⟩; have H3 := Lib.hid (stays H1.out hb); have HB2 := Lib.hid (below_on HB.out hb); obtain ⟨c0, c1, c2, c3, c4, c5⟩ := lay H3.out; clear hb))
      | (go_at_call 38; ((with_reducible refine (CR.out _).mono ?_); rintro e w3 ⟨rfl, rfl⟩; skip)))
      go_ret
      exact ⟨rfl, HB2.out⟩
  · have t1 : ((E : Int) == 0) = false := Mem.beq_false (by omega)
    have e1 : (E == 0) = false := beq_eq_false_iff_ne.2 h0
    rw [e1, Bool.false_and, Bool.false_and]
    clear h0 e1
    go_enter Tryd.func19, Tryd.ntmps19
    go_wp2_with (first
      | ((with_reducible refine bxm (m := m) ?hx ?_); (case hx => rfl); intro b1 w1 h F; have HB := Lib.hid F.below; have H1 := Lib.hid h; have HT1 := Lib.hid (tab_below HT.out F.below); clear h F)
      | ((with_reducible refine ldm isM H1.out ?hx ?_); (case hx => rfl))
      | (go_at_call 16; ((with_reducible refine (CP.out _ HT1.out).mono ?_); rintro e w2 ⟨rfl, hb⟩; have H3 := Lib.hid (stays H1.out hb); have HB2 := Lib.hid (below_on HB.out hb); obtain ⟨c0, c1, c2, c3, c4, c5⟩ := lay H3.out; clear hb))
      | (go_at_call 38; ((with_reducible refine (CR.out _).mono ?_); rintro e w3 ⟨rfl, rfl⟩; skip)))
    go_ret
    exact ⟨rfl, HB2.out⟩
abbrev kv (y : Wt) : Value := .agg (kc y)
theorem lay_k {w : World} {b : Nat} {y : Wt} {t : TypeId} (h : w.heap[b]? = some (.cells (kc y) t (0, 0))) : w.cell? ⟨b, 20, none⟩ = some (nm y.tr) ∧ w.cell? ⟨b, 21, none⟩ = some (nm y.lf) := ⟨cell_of h rfl, cell_of h rfl⟩
theorem kz_row {w : World} {b : Nat} {y : Wt} {t : TypeId} (h : w.heap[b]? = some (.cells (kc y) t (0, 0))) : w.rangeAt b 0 (kl y) := fun j v hv => by
  rw [Nat.zero_add]
  have hj := (List.getElem?_eq_some_iff.1 hv)
  refine (cell_of h (v := v) ?_)
  unfold kc; rw [List.getElem?_toArray]; exact hv
theorem kz_m {w : World} {b : Nat} {y : Wt} {t : TypeId} (h : w.heap[b]? = some (.cells (kc y) t (0, 0))) : w.rangeAt b 0 (ml y.m) := fun j v hv => kz_row h j v (by
  unfold kl
  rw [List.getElem?_append_left (List.getElem?_eq_some_iff.1 hv).1]; exact hv)
theorem fdue (y : Wt) (w : World) : Calls Tryd.prog 27 #[kv y] w fun e w' => e = .returned (.bool (y.lf == 0)) ∧ Below w.heap.size w w' := by
  have e1 : ((y.lf : Int) == 0) = (y.lf == 0) := nn_beq y.lf 0
  generalize (y.lf == 0) = q at e1 ⊢
  go_enter Tryd.func27, Tryd.ntmps27
  go_wp2_with ((with_reducible refine bxz (kc y) ?hx ?_); (case hx => rfl); intro b w1 h F; have HB := Lib.hid F.below; obtain ⟨d0, d1⟩ := lay_k h; clear h F)
  go_ret
  exact ⟨rfl, HB.out⟩
theorem fsaid (y : Wt) (w : World) : Calls Tryd.prog 56 #[kv y] w fun e w' => e = .returned (.bool (decide (0 < y.lf) || decide (0 < y.tr))) ∧ Below w.heap.size w w' := by
  by_cases h1 : 0 < y.lf
  · rw [decide_eq_true h1, Bool.true_or]
    have t1 : decide ((0 : Int) < (y.lf : Int)) = true := decide_eq_true (by omega)
    have t2 : (0 : Int) < (y.lf : Int) := by omega
    go_enter Tryd.func56, Tryd.ntmps56
    go_wp2_with ((with_reducible refine bxz (kc y) ?hx ?_); (case hx => rfl); intro b w1 h F; have HB := Lib.hid F.below; obtain ⟨d0, d1⟩ := lay_k h; clear h F)
    go_ret
    exact ⟨rfl, HB.out⟩
  · rw [decide_eq_false h1, Bool.false_or]
    have t1 : decide ((0 : Int) < (y.lf : Int)) = false := decide_eq_false (by omega)
    have t2 : ¬ (0 : Int) < (y.lf : Int) := by omega
    obtain ⟨q, hq⟩ : ∃ q, decide (0 < y.tr) = q := ⟨_, rfl⟩
    rw [hq]
    have u1 : decide ((0 : Int) < (y.tr : Int)) = q := by rw [← hq, decide_eq_decide]; omega
    clear hq
    go_enter Tryd.func56, Tryd.ntmps56
    go_wp2_with ((with_reducible refine bxz (kc y) ?hx ?_); (case hx => rfl); intro b w1 h F; have HB := Lib.hid F.below; obtain ⟨d0, d1⟩ := lay_k h; clear h F)
    all_goals (go_ret; exact ⟨by first | rfl | simp_all, HB.out⟩)
/-- What a response says, of one of its Kind and channel. -/
def ans (r m : Ms) : Bool := if r.k = 1 then Pn.lowers r.p m.p else if r.k = 2 then Msc.eqS r.s m.s else if r.k = 5 then r.b.toList == m.b.toList else true
set_option maxHeartbeats 4000000 in
theorem fanswers (x y : Ms) (w : World) : Calls Tryd.prog 73 #[mv x, mv y] w fun e w' => e = .returned (.bool (ans x y)) ∧ Below w.heap.size w w' := by
  have cl := fun w => Pn.flowers x.p y.p w
  by_cases k1 : x.k = 1
  · have t1 : ((x.k : Int) == 1) = true := by rw [k1]; rfl
    have e1 : ans x y = Pn.lowers x.p y.p := by unfold ans; rw [if_pos k1]
    rw [e1]
    generalize Pn.lowers x.p y.p = v at cl ⊢
    have CL := Lib.hid cl
    clear cl e1 k1
    go_enter Tryd.func73, Tryd.ntmps73
    go_wp2_with (first
        | ((with_reducible refine bxm (m := x) ?hx ?_); (case hx => rfl); intro b1 w1 h F; have HB := Lib.hid F.below; have H1 := Lib.hid h; obtain ⟨c0, c1, c2, c3, c4, c5⟩ := lay h; clear h F)
        | ((with_reducible refine bxm (m := y) ?hx ?_); (case hx => rfl); intro b2 wx h F; replace H1 := Lib.hid (F.stays H1.out); have H2 := Lib.hid h; replace HB := Lib.hid (F.on HB.out); clear c0 c1 c2 c3 c4 c5; obtain ⟨c0, c1, c2, c3, c4, c5⟩ := lay H1.out; clear h F)
        | (go_at_call 80; ((with_reducible refine (CL.out _).mono ?_); rintro e w4 ⟨rfl, hb⟩; replace HB := Lib.hid (below_on HB.out hb); clear hb))
        | ((with_reducible refine ldp isP H1.out ?hx ?_); (case hx => rfl))
        | ((with_reducible refine ldp isP H2.out ?hx ?_); (case hx => rfl)))
    go_ret
    exact ⟨rfl, HB.out⟩
  have t1 : ((x.k : Int) == 1) = false := Mem.beq_false (by omega)
  clear cl
  by_cases k2 : x.k = 2
  · have t2 : ((x.k : Int) == 2) = true := by rw [k2]; rfl
    have e1 : ans x y = Msc.eqS x.s y.s := by unfold ans; rw [if_neg k1, if_pos k2]
    rw [e1]
    have q1 := fun w => Msc.run_eqS x.s y.s w
    generalize Msc.eqS x.s y.s = v at q1 ⊢
    clear e1 k1 k2
    go_enter Tryd.func73, Tryd.ntmps73
    go_wp2_with (first
        | ((with_reducible refine bxm (m := x) ?hx ?_); (case hx => rfl); intro b1 w1 h F; have HB := Lib.hid F.below; have H1 := Lib.hid h; obtain ⟨c0, c1, c2, c3, c4, c5⟩ := lay h; clear h F)
        | ((with_reducible refine bxm (m := y) ?hx ?_); (case hx => rfl); intro b2 wx h F; replace H1 := Lib.hid (F.stays H1.out); have H2 := Lib.hid h; replace HB := Lib.hid (F.on HB.out); clear c0 c1 c2 c3 c4 c5; obtain ⟨c0, c1, c2, c3, c4, c5⟩ := lay H1.out; clear h F)
        | ((with_reducible refine lds isS H1.out ?hx ?_); (case hx => rfl))
        | ((with_reducible refine lds isS H2.out ?hx ?_); (case hx => rfl)))
    go_ret
    exact ⟨rfl, HB.out⟩
  have t2 : ((x.k : Int) == 2) = false := Mem.beq_false (by omega)
  by_cases k5 : x.k = 5
  · have t5 : ((x.k : Int) == 5) = true := by rw [k5]; rfl
    have e1 : ans x y = (x.b.toList == y.b.toList) := by unfold ans; rw [if_neg k1, if_neg k2, if_pos k5]
    rw [e1]
    obtain ⟨q, hq⟩ : ∃ q, (x.b.toList == y.b.toList) = q := ⟨_, rfl⟩
    rw [hq]
    clear e1 k1 k2 k5
    go_enter Tryd.func73, Tryd.ntmps73
    go_wp2_with (first
        | ((with_reducible refine bxm (m := x) ?hx ?_); (case hx => rfl); intro b1 w1 h F; have HB := Lib.hid F.below; have H1 := Lib.hid h; obtain ⟨c0, c1, c2, c3, c4, c5⟩ := lay h; clear h F)
        | ((with_reducible refine bxm (m := y) ?hx ?_); (case hx => rfl); intro b2 wx h F; replace H1 := Lib.hid (F.stays H1.out); have H2 := Lib.hid h; replace HB := Lib.hid (F.on HB.out); clear c0 c1 c2 c3 c4 c5; obtain ⟨c0, c1, c2, c3, c4, c5⟩ := lay H1.out; obtain ⟨d0, d1, d2, d3, d4, d5⟩ := lay h; clear h F))
    all_goals (go_ret; exact ⟨by first | rfl | (rw [hq]) | simp_all, HB.out⟩)
  have t5 : ((x.k : Int) == 5) = false := Mem.beq_false (by omega)
  have e1 : ans x y = true := by unfold ans; rw [if_neg k1, if_neg k2, if_neg k5]
  rw [e1]
  clear e1 k1 k2 k5
  go_enter Tryd.func73, Tryd.ntmps73
  go_wp2_with (first
        | ((with_reducible refine bxm (m := x) ?hx ?_); (case hx => rfl); intro b1 w1 h F; have HB := Lib.hid F.below; have H1 := Lib.hid h; obtain ⟨c0, c1, c2, c3, c4, c5⟩ := lay h; clear h F)
        | ((with_reducible refine bxm (m := y) ?hx ?_); (case hx => rfl); intro b2 wx h F; replace H1 := Lib.hid (F.stays H1.out); have H2 := Lib.hid h; replace HB := Lib.hid (F.on HB.out); clear c0 c1 c2 c3 c4 c5; obtain ⟨c0, c1, c2, c3, c4, c5⟩ := lay H1.out; clear h F))
  go_ret
  exact ⟨rfl, HB.out⟩
end Go.Proofs.YtakkhdammmcjcaaDoor.Ctl
