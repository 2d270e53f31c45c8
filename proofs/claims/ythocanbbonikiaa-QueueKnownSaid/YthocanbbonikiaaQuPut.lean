/-
  What Put of the program's queue answers, and leaves. Condition: it lies where it says.
-/
import Derived.Test.YthocanbbonikiaaQuPeek
import Derived.Deep.RegionHeld
import Derived.Deep.RegionLaw
namespace Go.Proofs.Ythocanbbonikiaa.Qu
open Go.RowKit Go.Proofs.Ythocanbbonikiaa.Base Go.Proofs.Ythocanbbonikiaa.Mem Go.Proofs.Ythocanbbonikiaa.Cr
section
variable {P : Program}
/-- A copy out of a string, as far as there is room. -/
theorem run_copy_str (w : World) (dT sT ty elem : TypeId) (b o dLen dCap n : Nat) (s : ByteArray) (hu : P.underlying dT = some (.slice elem)) (hz : ∀ w, (Go.sizeOf elem).run P w = .ok 1 w) (hn : min s.size dLen = n)
    (hc : ∀ j, j < n → (w.cell? ⟨b, o + j, none⟩).isSome = true) (hf : ∀ j, j < n → w.frozen? ⟨b, o + j, none⟩ = false) :
    (Builtin.copy_ #[dT, sT] ty #[.slice (some ⟨b, o, none⟩) dLen dCap, .string s]).run P w = .ok (goInt n) (w.setCells b o ((vals s).take n)) := by
  have hl : ((vals s).take n).length = n := by rw [List.length_take, vals_len]; omega
  have hst := run_storeCells_cells (P := P) b o ((vals s).take n) 0 w (by rw [hl]; simpa using hc) (by rw [hl]; simpa using hf) (fun v hv => vals_one s v (List.mem_of_mem_take hv))
  have hmin : Nat.min s.size dLen = n := hn
  have e : (s.data.toList.map fun x => Value.int .u8 (x.toNat : Int)) = vals s := rfl
  simp [run_underlying hu, hz, e, Builtin.copy_, Builtin.lenOf, Builtin.firstCells, hmin]
  rw [hst]
  rfl
theorem wp_copy_known (w : World) {o : Oper} {a : Act} {K : Act → World → Prop} {Q : Exit → Act → World → Prop} (d s : Operand) (t t' : TypeId)
    (ho : o.op = .call { callee := .builtin .copy, args := #[d, s], argTypes := #[t, t'] }) {v u : Value} (hd : a.eval d = v) (hs : a.eval s = u) {v' : Value} {w' : World}
    (hr : (Builtin.copy_ #[t, t'] o.type #[v, u]).run P w = .ok v' w') (h : K (a.put o.dst v') w') : o.wp P a w K Q := by
  unfold Oper.wp execOp
  simp only [ho, resolve, invoke, builtin, Sem.run_bind, Sem.run_pure, Result.andThen_ok, List.map_toArray, List.map_cons, List.map_nil, hd, hs, hr]
  exact h
theorem step_copy_known {ops : Array Oper} {o : Oper} {a : Act} {w : World} {K : Act → World → Prop} {Q : Exit → Act → World → Prop} {E : Prop}
    (hg : o.guard = none) (d s : Operand) (t t' : TypeId) (ho : o.op = .call { callee := .builtin .copy, args := #[d, s], argTypes := #[t, t'] })
    {v u : Value} (hd : a.eval d = v) (hs : a.eval s = u) {v' : Value} {w' : World} (hr : (Builtin.copy_ #[t, t'] o.type #[v, u]).run P w = .ok v' w') (hK : K (a.put o.dst v') w') :
    if Region.wanted o (yielded ops a.tmps) = true then Oper.wp P o a w K Q else E := by
  rw [if_pos (by simp [Region.wanted, hg])]
  exact wp_copy_known w d s t t' ho hd hs hr hK
end
theorem some_at {w : World} {b j : Nat} {cs : Array Value} {t : TypeId} (h : At w b cs t) (hj : j < cs.size) : (w.cell? ⟨b, j, none⟩).isSome = true := by
  rw [h.cell j cs[j] (Array.getElem?_eq_getElem hj)]
  rfl
theorem sets_other {w : World} {b b' o : Nat} {cs : Array Value} {t : TypeId} {l : List Value} (h : At w b cs t) (hn : b ≠ b') : At (w.setCells b' o l) b cs t :=
  h.other (chg_sets (S := fun k => k = b') rfl l o w (Chg.refl _ _)) hn
theorem sizeB (w : World) : (Go.sizeOf 5).run Try.prog w = .ok 1 w := Try.sizeOf5 w
theorem fput_nil (s : ByteArray) (w : World) : Calls Try.prog 18 #[.pointer none, .string s] w fun e w' => e = .returned (im 0) ∧ w = w' := by
  go_enter Try.func18, Try.ntmps18
  go_wp2
  go_ret
  exact ⟨rfl, rfl⟩
set_option maxHeartbeats 8000000 in
set_option maxRecDepth 100000 in
theorem fput0 (w : World) (qb rb r f c v p m n1 : Nat) (cs : Array Value) (hq : At w qb (qcs rb r f c) QT) (hr : At w rb cs BT) (hcs : cs.size = r) (hne : qb ≠ rb) (s u : ByteArray)
    (hc : c ≤ r) (hmax : r ≤ 4096) (hfr : f < r) (hv : r - c = v) (hm : min s.size v = m) (hu : fst_ s m = u) (hum : u.size = m) (hp : pl r (f + c) = p) (hpr : p < r) (hn : min m (r - p) = n1) :
    Calls Try.prog 18 #[ptr qb, .string s] w fun e w' => e = .returned (nm m) ∧ At w' qb (qcs rb r f (c + m)) QT ∧ At w' rb (ovr (ovr cs p ((vals u).take n1)) 0 ((vals u).drop n1)) BT ∧ Chg (Qs qb rb) w w' := by
  have C1 := Lib.hid (ffree0 w qb rb r f c hq v (by rw [IntKind.wrap_i64]; omega))
  have C2 : Hid (∀ w, At w qb (qcs rb r f c) QT → Calls _ _ _ w _) := Lib.hid fun w h => fplace w qb rb r f c h c p hp (by omega) hmax
  have b1 : min (s.size : Int) (v : Int) = (m : Int) := by omega
  have b2 : m ≤ s.size := by omega
  have b3 : (0 : Int) ≤ (m : Int) := by omega
  have b4 : p ≤ r := by omega
  have b5 : ¬ r = p := by omega
  have b6 : n1 ≤ u.size := by omega
  have b7 : m ≤ r := by omega
  obtain ⟨c2, hc2⟩ : ∃ x, c + m = x := ⟨_, rfl⟩
  rw [hc2]
  have v2 : IntKind.i64.wrap ((c : Int) + (m : Int)) = (c2 : Int) := by rw [IntKind.wrap_i64]; omega
  have H := Lib.hid (And.intro hq (And.intro hr (And.intro hcs (And.intro hum (And.intro hpr (And.intro hn hne))))))
  have HU := Lib.hid hum
  have HL := Lib.hid hq.lt
  clear hq hr hcs hne hc hmax hfr hv hm hp hpr hn hc2
  go_enter Try.func18, Try.ntmps18
  go_wp2_with fail
  refine C1.out.mono ?_
  rintro _ w2 ⟨rfl, nq, rfl⟩
  clear C1
  go_wp2_with fail
  have hlt := HL.out
  refine wp_region_held_drew (S := (fun w' => At w' qb (qcs rb r f c) QT)) (by kernel_rfl) H.out.1 (fun hHeld => ?_)
  refine' wpAnyH_take (i := 0) (oi := { dst := some 16, op := Go.Op.move (Go.Operand.tmp 0), type := 25, pos := "queue.go:30", after := #[], guard := none }) (v := _) rfl (by kernel_rfl) (by kernel_rfl) (by kernel_rfl) (fun _ _ _ h => h) (Or.inl ⟨by rfl, ?hy1⟩) (by assumption) ?hr1
  case hy1 => (intro _ hSw; (try dsimp only at hSw); go_simp <;> with_reducible rfl)
  simp only [Act.put, List.setIfInBounds_toArray, List.set_cons_zero, List.set_cons_succ]
  refine' wpAnyH_take (i := 1) (oi := { dst := some 17, op := Go.Op.nilCheck (Go.Operand.tmp 16), type := 0, pos := "queue.go:30", after := #[{ on := 0, ground := Go.Ground.data }], guard := none }) (v := _) rfl (by kernel_rfl) (by kernel_rfl) (by kernel_rfl) (fun _ _ _ h => h) (Or.inl ⟨by rfl, ?hy2⟩) (by assumption) ?hr2
  case hy2 => (intro _ hSw; (try dsimp only at hSw); go_simp <;> with_reducible rfl)
  simp only [Act.put, List.setIfInBounds_toArray, List.set_cons_zero, List.set_cons_succ]
  refine' wpAnyH_take (i := 2) (oi := { dst := some 18, op := Go.Op.fieldAddr 42 (Go.Operand.tmp 17) 0, type := 0, pos := "queue.go:30", after := #[{ on := 1, ground := Go.Ground.data }], guard := none }) (v := _) rfl (by kernel_rfl) (by kernel_rfl) (by kernel_rfl) (fun _ _ _ h => h) (Or.inl ⟨by rfl, ?hy3⟩) (by assumption) ?hr3
  case hy3 => (intro _ hSw; (try dsimp only at hSw); go_simp <;> with_reducible rfl)
  simp only [Act.put, List.setIfInBounds_toArray, List.set_cons_zero, List.set_cons_succ]
  refine' wpAnyH_take (i := 3) (oi := { dst := some 19, op := Go.Op.load 39 (Go.Operand.tmp 18), type := 39, pos := "queue.go:30", after := #[{ on := 2, ground := Go.Ground.data }], guard := none }) (v := _) rfl (by kernel_rfl) (by kernel_rfl) (by kernel_rfl) (fun _ _ _ h => h) (Or.inl ⟨by rfl, ?hy4⟩) (by assumption) ?hr4
  case hy4 => (intro _ hSw; (try dsimp only at hSw); have hc0 := hSw.cell 0 (ring rb r) rfl; have hc2 := hSw.cell 2 (nm c) rfl; have hlt := hSw.lt; clear hSw; go_simp <;> with_reducible rfl)
  simp only [Act.put, List.setIfInBounds_toArray, List.set_cons_zero, List.set_cons_succ]
  refine' wpAnyH_take (i := 4) (oi := { dst := some 20, op := Go.Op.move (Go.Operand.tmp 0), type := 25, pos := "queue.go:30", after := #[], guard := none }) (v := _) rfl (by kernel_rfl) (by kernel_rfl) (by kernel_rfl) (fun _ _ _ h => h) (Or.inl ⟨by rfl, ?hy5⟩) (by assumption) ?hr5
  case hy5 => (intro _ hSw; (try dsimp only at hSw); go_simp <;> with_reducible rfl)
  simp only [Act.put, List.setIfInBounds_toArray, List.set_cons_zero, List.set_cons_succ]
  refine' wpAnyH_take (i := 5) (oi := { dst := some 21, op := Go.Op.move (Go.Operand.tmp 0), type := 25, pos := "queue.go:30", after := #[], guard := none }) (v := _) rfl (by kernel_rfl) (by kernel_rfl) (by kernel_rfl) (fun _ _ _ h => h) (Or.inl ⟨by rfl, ?hy6⟩) (by assumption) ?hr6
  case hy6 => (intro _ hSw; (try dsimp only at hSw); go_simp <;> with_reducible rfl)
  simp only [Act.put, List.setIfInBounds_toArray, List.set_cons_zero, List.set_cons_succ]
  refine' wpAnyH_take (i := 6) (oi := { dst := some 22, op := Go.Op.nilCheck (Go.Operand.tmp 21), type := 0, pos := "queue.go:30", after := #[{ on := 5, ground := Go.Ground.data }], guard := none }) (v := _) rfl (by kernel_rfl) (by kernel_rfl) (by kernel_rfl) (fun _ _ _ h => h) (Or.inl ⟨by rfl, ?hy7⟩) (by assumption) ?hr7
  case hy7 => (intro _ hSw; (try dsimp only at hSw); go_simp <;> with_reducible rfl)
  simp only [Act.put, List.setIfInBounds_toArray, List.set_cons_zero, List.set_cons_succ]
  refine' wpAnyH_take (i := 7) (oi := { dst := some 23, op := Go.Op.fieldAddr 42 (Go.Operand.tmp 22) 2, type := 0, pos := "queue.go:30", after := #[{ on := 6, ground := Go.Ground.data }], guard := none }) (v := _) rfl (by kernel_rfl) (by kernel_rfl) (by kernel_rfl) (fun _ _ _ h => h) (Or.inl ⟨by rfl, ?hy8⟩) (by assumption) ?hr8
  case hy8 => (intro _ hSw; (try dsimp only at hSw); go_simp <;> with_reducible rfl)
  simp only [Act.put, List.setIfInBounds_toArray, List.set_cons_zero, List.set_cons_succ]
  refine' wpAnyH_take (i := 8) (oi := { dst := some 24, op := Go.Op.load 3 (Go.Operand.tmp 23), type := 3, pos := "queue.go:30", after := #[{ on := 7, ground := Go.Ground.data }], guard := none }) (v := _) rfl (by kernel_rfl) (by kernel_rfl) (by kernel_rfl) (fun _ _ _ h => h) (Or.inl ⟨by rfl, ?hy9⟩) (by assumption) ?hr9
  case hy9 => (intro _ hSw; (try dsimp only at hSw); have hc0 := hSw.cell 0 (ring rb r) rfl; have hc2 := hSw.cell 2 (nm c) rfl; have hlt := hSw.lt; clear hSw; go_simp <;> with_reducible rfl)
  simp only [Act.put, List.setIfInBounds_toArray, List.set_cons_zero, List.set_cons_succ]
  refine' wpAnyH_take (i := 11) (oi := { dst := some 27, op := Go.Op.move (Go.Operand.tmp 5), type := 9, pos := "queue.go:30", after := #[], guard := none }) (v := _) rfl (by kernel_rfl) (by kernel_rfl) (by kernel_rfl) (fun _ _ _ h => h) (Or.inl ⟨by rfl, ?hy10⟩) (by assumption) ?hr10
  case hy10 => (intro _ hSw; (try dsimp only at hSw); go_simp <;> with_reducible rfl)
  simp only [Act.put, List.setIfInBounds_toArray, List.set_cons_zero, List.set_cons_succ]
  refine wpAnyH_ready (rs := [9]) (by kernel_rfl) (by simp) ?_
  refine AllReadyH.cons (o := { dst := some 25, op := Go.Op.call { callee := Go.Callee.value (Go.Operand.func 26), args := #[Go.Operand.tmp 20, Go.Operand.tmp 24], argTypes := #[25, 3] }, type := 3, pos := "queue.go:30", after := #[{ on := 4, ground := Go.Ground.data }, { on := 8, ground := Go.Ground.data }], guard := none }) rfl (fun K hK => ?_) AllReadyH.nil
  go_simp
  refine (C2.out _ hHeld).mono ?_
  rintro _ w3 ⟨rfl, rfl⟩
  go_wp2_with fail
  refine hK.out _ _ hHeld (fun hNext => ?_)
  clear hK K hHeld
  have hHeld := hNext
  clear hNext
  (try simp only [Act.put, List.setIfInBounds_toArray, List.set_cons_zero, List.set_cons_succ])
  refine' wpAnyH_take (i := 10) (oi := { dst := some 26, op := Go.Op.slice 39 (Go.Operand.tmp 19) (some (Go.Operand.tmp 25)) none none, type := 39, pos := "queue.go:30", after := #[{ on := 3, ground := Go.Ground.data }, { on := 9, ground := Go.Ground.data }], guard := none }) (v := _) rfl (by kernel_rfl) (by kernel_rfl) (by kernel_rfl) (fun _ _ _ h => h) (Or.inl ⟨by rfl, ?hy11⟩) (by assumption) ?hr11
  case hy11 => (intro _ hSw; (try dsimp only at hSw); go_simp <;> with_reducible rfl)
  simp only [Act.put, List.setIfInBounds_toArray, List.set_cons_zero, List.set_cons_succ]
  refine wpAnyH_ready (rs := [12]) (by kernel_rfl) (by simp) ?_
  refine AllReadyH.cons (o := { dst := some 28, op := Go.Op.call { callee := Go.Callee.builtin Go.Builtin.copy, args := #[Go.Operand.tmp 26, Go.Operand.tmp 27], argTypes := #[39, 9] }, type := 3, pos := "queue.go:30", after := #[{ on := 10, ground := Go.Ground.data }, { on := 11, ground := Go.Ground.data }, { on := 9, ground := Go.Ground.chain }], guard := none }) rfl (fun K hK => ?_) AllReadyH.nil
  refine step_copy_known rfl _ _ _ _ rfl rfl rfl (run_copy_str _ _ _ _ _ rb p (r - p) (r - p) n1 u Try.underlying39 sizeB (by rw [H.out.2.2.2.1]; exact H.out.2.2.2.2.2.1) ?hc1 ?hf1) ?_
  case hc1 => intro j hj; exact some_at (H.out.2.1 : At (w.drewN (nq + 1)) rb cs BT) (by have := H.out; omega)
  case hf1 => intro j hj; exact At.free (H.out.2.1 : At (w.drewN (nq + 1)) rb cs BT) _
  refine hK.out _ _ (sets_other hHeld H.out.2.2.2.2.2.2) (fun hNext => ?_)
  clear hK K hHeld
  have hHeld := hNext
  clear hNext
  (try simp only [Act.put, List.setIfInBounds_toArray, List.set_cons_zero, List.set_cons_succ])
  refine' wpAnyH_take (i := 13) (oi := { dst := some 6, op := Go.Op.assign (Go.Operand.tmp 28), type := 3, pos := "queue.go:30", after := #[{ on := 12, ground := Go.Ground.data }, { on := 12, ground := Go.Ground.chain }, { on := 0, ground := Go.Ground.phase }, { on := 1, ground := Go.Ground.phase }, { on := 2, ground := Go.Ground.phase }, { on := 3, ground := Go.Ground.phase }, { on := 4, ground := Go.Ground.phase }, { on := 5, ground := Go.Ground.phase }, { on := 6, ground := Go.Ground.phase }, { on := 7, ground := Go.Ground.phase }, { on := 8, ground := Go.Ground.phase }, { on := 9, ground := Go.Ground.phase }, { on := 10, ground := Go.Ground.phase }, { on := 11, ground := Go.Ground.phase }, { on := 12, ground := Go.Ground.phase }], guard := none }) (v := _) rfl (by kernel_rfl) (by kernel_rfl) (by kernel_rfl) (fun _ _ _ h => h) (Or.inl ⟨by rfl, ?hy12⟩) (by assumption) ?hr12
  case hy12 => (intro _ hSw; (try dsimp only at hSw); go_simp <;> with_reducible rfl)
  simp only [Act.put, List.setIfInBounds_toArray, List.set_cons_zero, List.set_cons_succ]
  refine wpAnyH_done (by kernel_rfl) ?_ _
  have a2 : At ((w.drewN (nq + 1)).setCells rb p ((vals u).take n1)) rb (ovr cs p ((vals u).take n1)) BT := at_sets _ _ _ _ (H.out.2.1 : At (w.drewN (nq + 1)) rb cs BT)
  have g2 : Chg (Qs qb rb) w ((w.drewN (nq + 1)).setCells rb p ((vals u).take n1)) := chg_sets (.inr rfl) _ _ _ ((Chg.refl _ _).drewN _)
  generalize (w.drewN (nq + 1)).setCells rb p ((vals u).take n1) = w2 at hHeld a2 g2 ⊢
  have HQ := Lib.hid hHeld
  have HR := Lib.hid a2
  have HG := Lib.hid g2
  have HE := Lib.hid (And.intro H.out.2.2.1 (And.intro H.out.2.2.2.1 (And.intro H.out.2.2.2.2.2.1 (And.intro H.out.2.2.2.2.2.2 H.out.2.2.2.2.1))))
  clear hHeld a2 g2 H C2 hum hlt
  have HS : Hid ((ovr cs p ((vals u).take n1)).size = r) := Lib.hid (by rw [ovr_size]; exact HE.out.1)
  generalize he : ovr cs p ((vals u).take n1) = cs2 at HR HS
  have HO := Lib.hid he
  clear he
  go_wp2_with fail
  refine wp_region_held_drew (S := (fun w' => At w' qb (qcs rb r f c) QT)) (by kernel_rfl) HQ.out (fun hHeld => ?_)
  refine' wpAnyH_take (i := 0) (oi := { dst := some 29, op := Go.Op.move (Go.Operand.tmp 0), type := 25, pos := "queue.go:31", after := #[], guard := none }) (v := _) rfl (by kernel_rfl) (by kernel_rfl) (by kernel_rfl) (fun _ _ _ h => h) (Or.inl ⟨by rfl, ?hy13⟩) (by assumption) ?hr13
  case hy13 => (intro _ hSw; (try dsimp only at hSw); go_simp <;> with_reducible rfl)
  simp only [Act.put, List.setIfInBounds_toArray, List.set_cons_zero, List.set_cons_succ]
  refine' wpAnyH_take (i := 1) (oi := { dst := some 30, op := Go.Op.nilCheck (Go.Operand.tmp 29), type := 0, pos := "queue.go:31", after := #[{ on := 0, ground := Go.Ground.data }], guard := none }) (v := _) rfl (by kernel_rfl) (by kernel_rfl) (by kernel_rfl) (fun _ _ _ h => h) (Or.inl ⟨by rfl, ?hy14⟩) (by assumption) ?hr14
  case hy14 => (intro _ hSw; (try dsimp only at hSw); go_simp <;> with_reducible rfl)
  simp only [Act.put, List.setIfInBounds_toArray, List.set_cons_zero, List.set_cons_succ]
  refine' wpAnyH_take (i := 2) (oi := { dst := some 31, op := Go.Op.fieldAddr 42 (Go.Operand.tmp 30) 0, type := 0, pos := "queue.go:31", after := #[{ on := 1, ground := Go.Ground.data }], guard := none }) (v := _) rfl (by kernel_rfl) (by kernel_rfl) (by kernel_rfl) (fun _ _ _ h => h) (Or.inl ⟨by rfl, ?hy15⟩) (by assumption) ?hr15
  case hy15 => (intro _ hSw; (try dsimp only at hSw); go_simp <;> with_reducible rfl)
  simp only [Act.put, List.setIfInBounds_toArray, List.set_cons_zero, List.set_cons_succ]
  refine' wpAnyH_take (i := 3) (oi := { dst := some 32, op := Go.Op.load 39 (Go.Operand.tmp 31), type := 39, pos := "queue.go:31", after := #[{ on := 2, ground := Go.Ground.data }], guard := none }) (v := _) rfl (by kernel_rfl) (by kernel_rfl) (by kernel_rfl) (fun _ _ _ h => h) (Or.inl ⟨by rfl, ?hy16⟩) (by assumption) ?hr16
  case hy16 => (intro _ hSw; (try dsimp only at hSw); have hc0 := hSw.cell 0 (ring rb r) rfl; have hc2 := hSw.cell 2 (nm c) rfl; have hlt := hSw.lt; clear hSw; go_simp <;> with_reducible rfl)
  simp only [Act.put, List.setIfInBounds_toArray, List.set_cons_zero, List.set_cons_succ]
  refine' wpAnyH_take (i := 4) (oi := { dst := some 33, op := Go.Op.move (Go.Operand.tmp 5), type := 9, pos := "queue.go:31", after := #[], guard := none }) (v := _) rfl (by kernel_rfl) (by kernel_rfl) (by kernel_rfl) (fun _ _ _ h => h) (Or.inl ⟨by rfl, ?hy17⟩) (by assumption) ?hr17
  case hy17 => (intro _ hSw; (try dsimp only at hSw); go_simp <;> with_reducible rfl)
  simp only [Act.put, List.setIfInBounds_toArray, List.set_cons_zero, List.set_cons_succ]
  refine' wpAnyH_take (i := 5) (oi := { dst := some 34, op := Go.Op.move (Go.Operand.tmp 6), type := 3, pos := "queue.go:31", after := #[], guard := none }) (v := _) rfl (by kernel_rfl) (by kernel_rfl) (by kernel_rfl) (fun _ _ _ h => h) (Or.inl ⟨by rfl, ?hy18⟩) (by assumption) ?hr18
  case hy18 => (intro _ hSw; (try dsimp only at hSw); go_simp <;> with_reducible rfl)
  simp only [Act.put, List.setIfInBounds_toArray, List.set_cons_zero, List.set_cons_succ]
  refine' wpAnyH_take (i := 6) (oi := { dst := some 35, op := Go.Op.slice 9 (Go.Operand.tmp 33) (some (Go.Operand.tmp 34)) none none, type := 9, pos := "queue.go:31", after := #[{ on := 4, ground := Go.Ground.data }, { on := 5, ground := Go.Ground.data }], guard := none }) (v := _) rfl (by kernel_rfl) (by kernel_rfl) (by kernel_rfl) (fun _ _ _ h => h) (Or.inl ⟨by rfl, ?hy19⟩) (by assumption) ?hr19
  case hy19 => (intro _ hSw; (try dsimp only at hSw); clear hSw; go_simp <;> with_reducible rfl)
  simp only [Act.put, List.setIfInBounds_toArray, List.set_cons_zero, List.set_cons_succ]
  refine wpAnyH_ready (rs := [7]) (by kernel_rfl) (by simp) ?_
  refine AllReadyH.cons (o := { dst := some 36, op := Go.Op.call { callee := Go.Callee.builtin Go.Builtin.copy, args := #[Go.Operand.tmp 32, Go.Operand.tmp 35], argTypes := #[39, 9] }, type := 3, pos := "queue.go:31", after := #[{ on := 3, ground := Go.Ground.data }, { on := 6, ground := Go.Ground.data }], guard := none }) rfl (fun K hK => ?_) AllReadyH.nil
  refine step_copy_known rfl _ _ _ _ rfl rfl rfl (run_copy_str _ _ _ _ _ rb 0 r r (u.size - n1) (rst_ u n1) Try.underlying39 sizeB (by rw [ext_size]; have := HE.out; omega) ?hc2 ?hf2) ?_
  case hc2 => intro j hj; exact some_at (HR.out : At w2.drew rb cs2 BT) (by have := HE.out; have := HS.out; omega)
  case hf2 => intro j hj; exact At.free (HR.out : At w2.drew rb cs2 BT) _
  refine hK.out _ _ (sets_other hHeld HE.out.2.2.2.1) (fun hNext => ?_)
  clear hK K hHeld
  have hHeld := hNext
  clear hNext
  (try simp only [Act.put, List.setIfInBounds_toArray, List.set_cons_zero, List.set_cons_succ])
  refine wpAnyH_done (by kernel_rfl) ?_ _
  have ev : (vals (rst_ u n1)).take (u.size - n1) = (vals u).drop n1 := by rw [List.take_of_length_le (by rw [vals_len, ext_size]; omega)]; unfold vals; rw [rst_tl, List.map_drop]
  rw [ev] at hHeld ⊢
  clear ev
  have a2 : At (w2.drew.setCells rb 0 ((vals u).drop n1)) rb (ovr cs2 0 ((vals u).drop n1)) BT := at_sets _ _ _ _ (HR.out : At w2.drew rb cs2 BT)
  have g2 : Chg (Qs qb rb) w (w2.drew.setCells rb 0 ((vals u).drop n1)) := chg_sets (.inr rfl) _ _ _ HG.out.drew
  generalize w2.drew.setCells rb 0 ((vals u).drop n1) = w3 at hHeld a2 g2 ⊢
  have hc2 := hHeld.cell 2 (nm c) rfl
  have hlt := hHeld.lt
  have hfz := hHeld.free
  have HD : Hid (Do qb (qcs rb r f c2) QT w3 (w3.setCell ⟨qb, 2, none⟩ (nm c2))) := Lib.hid ((Do.refl hHeld).set 2 (nm c2))
  have HR3 := Lib.hid a2
  have HG3 := Lib.hid g2
  have HN := HE.out.2.2.2.1
  have HN2 := Lib.hid HN
  have hum := HU.out
  clear HN hHeld a2 g2 HQ HR HG HE HS HL
  go_wp2
  go_ret
  refine ⟨rfl, HD.out.at_, ?_, HG3.out.setCell _ _ _ fun _ => .inl rfl⟩
  rw [HO.out]
  exact HR3.out.other HD.out.chg fun e => HN2.out e.symm
/-- How many bytes there is room for. -/
def room (r : Nat) (t s : ByteArray) : Nat := min s.size (r - t.size)
theorem fput (w : World) (qb rb r : Nat) (t s : ByteArray) (h : Q w qb rb r t) : Calls Try.prog 18 #[ptr qb, .string s] w fun e w' => e = .returned (nm (room r t s)) ∧ Q w' qb rb r (t ++ fst_ s (room r t s)) ∧ Chg (Qs qb rb) w w' := by
  obtain ⟨hne, f, hq, cs, hr, hg⟩ := h
  have h1 := hg.few
  have h2 := hg.max
  have h3 := hg.lt
  have hp : pl r (f + t.size) < r := pl_lt (by omega)
  have hm : room r t s ≤ s.size := by unfold room; omega
  have hm2 : t.size + room r t s ≤ r := by unfold room; omega
  have hz : (fst_ s (room r t s)).size = room r t s := fst_size s hm
  refine (fput0 w qb rb r f t.size (r - t.size) (pl r (f + t.size)) (room r t s) (min (room r t s) (r - pl r (f + t.size))) cs hq hr hg.size hne s (fst_ s (room r t s)) h1 h2 h3 rfl rfl rfl hz rfl hp rfl).mono ?_
  rintro _ w1 ⟨rfl, ha, hb, hc⟩
  have e : (t ++ fst_ s (room r t s)).size = t.size + room r t s := by rw [app_size, hz]
  exact ⟨rfl, ⟨hne, f, by rw [e]; exact ha, _, hb, hg.put (fst_ s (room r t s)) (by rw [hz]; exact hm2) _ (by rw [hz])⟩, hc⟩
end Go.Proofs.Ythocanbbonikiaa.Qu
