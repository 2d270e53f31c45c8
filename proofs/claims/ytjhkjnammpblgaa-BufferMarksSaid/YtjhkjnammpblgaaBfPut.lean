/-
  What Put of the program's buffer answers, and leaves. Condition: it lies where it says.
-/
import Derived.Test.YtjhkjnammpblgaaBfText
import Derived.Deep.RegionHeld
import Derived.Deep.RegionLaw
namespace Go.Proofs.Ytjhkjnammpblgaa.Bf
open Go.RowKit Go.Proofs.Ytjhkjnammpblgaa.Base Go.Proofs.Ytjhkjnammpblgaa.Mem Go.Proofs.Ytjhkjnammpblgaa.Cr
section
variable {P : Program}
/-- A copy out of a string, as far as there is room. -/
theorem run_copy_str (w : World) (dT sT ty elem : TypeId) (b o dLen dCap n : Nat) (s : ByteArray) (hu : P.underlying dT = some (.slice elem)) (hz : ∀ w, (Go.sizeOf elem).run P w = .ok 1 w) (hn : min s.size dLen = n)
    (hc : ∀ j, j < n → (w.cell? ⟨b, o + j, none⟩).isSome = true) (hf : ∀ j, j < n → w.frozen? ⟨b, o + j, none⟩ = false) :
    (Builtin.copy_ #[dT, sT] ty #[.slice (some ⟨b, o, none⟩) dLen dCap, .string s]).run P w = .ok (goInt n) (w.setCells b o ((vals s).take n)) := by
  have hl : ((vals s).take n).length = n := by rw [List.length_take, vals_len]; omega
  have hst := run_storeCells_cells (P := P) b o ((vals s).take n) 0 w (by rw [hl]; simpa using hc) (by rw [hl]; simpa using hf) (fun v hv => vals_one s v (List.mem_of_mem_take hv))
  have hmin : Nat.min s.size dLen = n := hn
  have e : (s.data.toList.map fun x => Value.int .u8 (x.toNat : Int)) = vals s := rfl
  simp [run_underlying hu, hz, e, Builtin.copy_, Builtin.lenOf, Builtin.firstCells, hmin]
  rw [hst]
  rfl
theorem wp_copy_known (w : World) {o : Oper} {a : Act} {K : Act → World → Prop} {Q : Exit → Act → World → Prop} (d s : Operand) (t t' : TypeId)
    (ho : o.op = .call { callee := .builtin .copy, args := #[d, s], argTypes := #[t, t'] }) {v u : Value} (hd : a.eval d = v) (hs : a.eval s = u) {v' : Value} {w' : World}
    (hr : (Builtin.copy_ #[t, t'] o.type #[v, u]).run P w = .ok v' w') (h : K (a.put o.dst v') w') : o.wp P a w K Q := by
  unfold Oper.wp execOp
  simp only [ho, resolve, invoke, builtin, Sem.run_bind, Sem.run_pure, Result.andThen_ok, List.map_toArray, List.map_cons, List.map_nil, hd, hs, hr]
  exact h
theorem step_copy_known {ops : Array Oper} {o : Oper} {a : Act} {w : World} {K : Act → World → Prop} {Q : Exit → Act → World → Prop} {E : Prop}
    (hg : o.guard = none) (d s : Operand) (t t' : TypeId) (ho : o.op = .call { callee := .builtin .copy, args := #[d, s], argTypes := #[t, t'] })
    {v u : Value} (hd : a.eval d = v) (hs : a.eval s = u) {v' : Value} {w' : World} (hr : (Builtin.copy_ #[t, t'] o.type #[v, u]).run P w = .ok v' w') (hK : K (a.put o.dst v') w') :
    if Region.wanted o (yielded ops a.tmps) = true then Oper.wp P o a w K Q else E := by
  rw [if_pos (by simp [Region.wanted, hg])]
  exact wp_copy_known w d s t t' ho hd hs hr hK
end
theorem some_at {w : World} {b j : Nat} {cs : Array Value} {t : TypeId} (h : At w b cs t) (hj : j < cs.size) : (w.cell? ⟨b, j, none⟩).isSome = true := by
  rw [h.cell j cs[j] (Array.getElem?_eq_getElem hj)]
  rfl
theorem sizeB (w : World) : (Go.sizeOf 5).run Try.prog w = .ok 1 w := Try.sizeOf5 w
section
variable {cs : Array Value} {r m f c : Nat}
theorem Cs.ovr (h : Cs cs r m f c) (o : Nat) (l : List Value) (ho : o + l.length ≤ 4096) : Cs (ovr cs o l) r m f c :=
  ⟨by rw [ovr_size]; exact h.size, (ovr_out _ _ _ _ (.inr (by omega))).trans h.room, (ovr_out _ _ _ _ (.inr (by omega))).trans h.mark, (ovr_out _ _ _ _ (.inr (by omega))).trans h.first, (ovr_out _ _ _ _ (.inr (by omega))).trans h.count⟩
theorem set_off (cs : Array Value) {i j : Nat} (v : Value) (h : i ≠ j) : (cs.setIfInBounds i v)[j]? = cs[j]? := by
  rw [Array.getElem?_setIfInBounds, if_neg h]
theorem set_on (cs : Array Value) {i : Nat} (v : Value) (h : i < cs.size) : (cs.setIfInBounds i v)[i]? = some v := by
  rw [Array.getElem?_setIfInBounds, if_pos rfl, if_pos h]
theorem Cs.set_count (h : Cs cs r m f c) (d : Nat) : Cs (cs.setIfInBounds 4099 (nm d)) r m f d :=
  ⟨by simpa using h.size, (set_off _ _ (by omega)).trans h.room, (set_off _ _ (by omega)).trans h.mark, (set_off _ _ (by omega)).trans h.first, set_on _ _ (by rw [h.size]; omega)⟩
theorem Cs.set_first (h : Cs cs r m f c) (d : Nat) : Cs (cs.setIfInBounds 4098 (nm d)) r m d c :=
  ⟨by simpa using h.size, (set_off _ _ (by omega)).trans h.room, (set_off _ _ (by omega)).trans h.mark, set_on _ _ (by rw [h.size]; omega), (set_off _ _ (by omega)).trans h.count⟩
theorem Rg.set_out {t : ByteArray} (h : Rg r f t cs) (i : Nat) (v : Value) (hi : r ≤ i) : Rg r f t (cs.setIfInBounds i v) :=
  ⟨by simpa using h.size, h.lt, h.few, h.max, fun k x hx => (set_off _ _ (by have := pl_lt (r := r) (k := f + k) (by have := h.lt; have := tl_lt hx; have := h.few; omega); omega)).trans (h.at_ k x hx)⟩
end
/-- The buffer lies there, whatever its array holds. -/
def There (b r m f c : Nat) (w : World) : Prop := ∃ cs, At w b cs BfT ∧ Cs cs r m f c
theorem fput_nil (s : ByteArray) (w : World) : Calls Try.prog 13 #[.pointer none, .string s] w fun e w' => e = .returned (im 0) ∧ w = w' := by
  go_enter Try.func13, Try.ntmps13
  go_wp2
  go_ret
  exact ⟨rfl, rfl⟩
set_option maxHeartbeats 8000000 in
set_option maxRecDepth 100000 in
theorem fput0 (w : World) (b r k f c v p m n1 : Nat) (cs : Array Value) (hq : At w b cs BfT) (hcs : Cs cs r k f c) (s u : ByteArray)
    (hc : c ≤ r) (hmax : r ≤ 4096) (hfr : f < r) (hv : r - c = v) (hm : min s.size v = m) (hu : fst_ s m = u) (hum : u.size = m) (hp : pl r (f + c) = p) (hpr : p < r) (hn : min m (r - p) = n1) :
    Calls Try.prog 13 #[ptr b, .string s] w fun e w' => e = .returned (nm m) ∧ At w' b ((ovr (ovr cs p ((vals u).take n1)) 0 ((vals u).drop n1)).setIfInBounds 4099 (nm (c + m))) BfT ∧ Chg (Bs b) w w' := by
  have C1 := Lib.hid (ffree0 hq hcs v hv hc hmax)
  have C2 : Hid (∀ w, There b r k f c w → Calls _ _ _ w _) := Lib.hid fun w ⟨_, h1, h2⟩ => fplace h1 h2 c p hp (by omega) hmax
  have b1 : min (s.size : Int) (v : Int) = (m : Int) := by omega
  have b2 : m ≤ s.size := by omega
  have b3 : (0 : Int) ≤ (m : Int) := by omega
  have b4 : p ≤ r := by omega
  have b5 : ¬ 4096 = p := by omega
  have b6 : n1 ≤ u.size := by omega
  have b7 : m ≤ r := by omega
  have b8 : (r : Int) ≤ 4096 := by omega
  have b9 : (p : Int) ≤ (r : Int) := by omega
  have b10 : (0 : Int) ≤ (p : Int) := by omega
  have b11 : (0 : Int) ≤ (r : Int) := by omega
  obtain ⟨c2, hc2⟩ : ∃ x, c + m = x := ⟨_, rfl⟩
  rw [hc2]
  have v2 : IntKind.i64.wrap ((c : Int) + (m : Int)) = (c2 : Int) := by rw [IntKind.wrap_i64]; omega
  have H := Lib.hid (And.intro hq (And.intro hcs (And.intro hum (And.intro hpr (And.intro hn hmax)))))
  have HU := Lib.hid hum
  have HV := Lib.hid (And.intro hum b7)
  have HL := Lib.hid hq.lt
  clear hq hcs hc hmax hfr hv hm hp hpr hn hc2
  go_enter Try.func13, Try.ntmps13
  go_wp2_with fail
  refine C1.out.mono ?_
  rintro _ w2 ⟨rfl, nq, rfl⟩
  clear C1
  go_wp2_with fail
  have hlt := HL.out
  refine wp_region_held_drew (S := (There b r k f c)) (by kernel_rfl) ⟨cs, H.out.1, H.out.2.1⟩ (fun hHeld => ?_)
  refine' wpAnyH_take (i := 0) (oi := { dst := some 16, op := Go.Op.move (Go.Operand.tmp 0), type := 25, pos := "buffer.go:33", after := #[], guard := none }) (v := _) rfl (by kernel_rfl) (by kernel_rfl) (by kernel_rfl) (fun _ _ _ h => h) (Or.inl ⟨by rfl, ?hy1⟩) (by assumption) ?hr1
  case hy1 => (intro _ hSw; (try dsimp only at hSw); go_simp <;> with_reducible rfl)
  simp only [Act.put, List.setIfInBounds_toArray, List.set_cons_zero, List.set_cons_succ]
  refine' wpAnyH_take (i := 1) (oi := { dst := some 17, op := Go.Op.nilCheck (Go.Operand.tmp 16), type := 0, pos := "buffer.go:33", after := #[{ on := 0, ground := Go.Ground.data }], guard := none }) (v := _) rfl (by kernel_rfl) (by kernel_rfl) (by kernel_rfl) (fun _ _ _ h => h) (Or.inl ⟨by rfl, ?hy2⟩) (by assumption) ?hr2
  case hy2 => (intro _ hSw; (try dsimp only at hSw); go_simp <;> with_reducible rfl)
  simp only [Act.put, List.setIfInBounds_toArray, List.set_cons_zero, List.set_cons_succ]
  refine' wpAnyH_take (i := 2) (oi := { dst := some 18, op := Go.Op.fieldAddr 42 (Go.Operand.tmp 17) 0, type := 0, pos := "buffer.go:33", after := #[{ on := 1, ground := Go.Ground.data }], guard := none }) (v := _) rfl (by kernel_rfl) (by kernel_rfl) (by kernel_rfl) (fun _ _ _ h => h) (Or.inl ⟨by rfl, ?hy3⟩) (by assumption) ?hr3
  case hy3 => (intro _ hSw; (try dsimp only at hSw); go_simp <;> with_reducible rfl)
  simp only [Act.put, List.setIfInBounds_toArray, List.set_cons_zero, List.set_cons_succ]
  refine' wpAnyH_take (i := 3) (oi := { dst := some 19, op := Go.Op.move (Go.Operand.tmp 0), type := 25, pos := "buffer.go:33", after := #[], guard := none }) (v := _) rfl (by kernel_rfl) (by kernel_rfl) (by kernel_rfl) (fun _ _ _ h => h) (Or.inl ⟨by rfl, ?hy4⟩) (by assumption) ?hr4
  case hy4 => (intro _ hSw; (try dsimp only at hSw); go_simp <;> with_reducible rfl)
  simp only [Act.put, List.setIfInBounds_toArray, List.set_cons_zero, List.set_cons_succ]
  refine' wpAnyH_take (i := 4) (oi := { dst := some 20, op := Go.Op.move (Go.Operand.tmp 0), type := 25, pos := "buffer.go:33", after := #[], guard := none }) (v := _) rfl (by kernel_rfl) (by kernel_rfl) (by kernel_rfl) (fun _ _ _ h => h) (Or.inl ⟨by rfl, ?hy5⟩) (by assumption) ?hr5
  case hy5 => (intro _ hSw; (try dsimp only at hSw); go_simp <;> with_reducible rfl)
  simp only [Act.put, List.setIfInBounds_toArray, List.set_cons_zero, List.set_cons_succ]
  refine' wpAnyH_take (i := 5) (oi := { dst := some 21, op := Go.Op.nilCheck (Go.Operand.tmp 20), type := 0, pos := "buffer.go:33", after := #[{ on := 4, ground := Go.Ground.data }], guard := none }) (v := _) rfl (by kernel_rfl) (by kernel_rfl) (by kernel_rfl) (fun _ _ _ h => h) (Or.inl ⟨by rfl, ?hy6⟩) (by assumption) ?hr6
  case hy6 => (intro _ hSw; (try dsimp only at hSw); go_simp <;> with_reducible rfl)
  simp only [Act.put, List.setIfInBounds_toArray, List.set_cons_zero, List.set_cons_succ]
  refine' wpAnyH_take (i := 6) (oi := { dst := some 22, op := Go.Op.fieldAddr 42 (Go.Operand.tmp 21) 4, type := 0, pos := "buffer.go:33", after := #[{ on := 5, ground := Go.Ground.data }], guard := none }) (v := _) rfl (by kernel_rfl) (by kernel_rfl) (by kernel_rfl) (fun _ _ _ h => h) (Or.inl ⟨by rfl, ?hy7⟩) (by assumption) ?hr7
  case hy7 => (intro _ hSw; (try dsimp only at hSw); go_simp <;> with_reducible rfl)
  simp only [Act.put, List.setIfInBounds_toArray, List.set_cons_zero, List.set_cons_succ]
  refine' wpAnyH_take (i := 7) (oi := { dst := some 23, op := Go.Op.load 3 (Go.Operand.tmp 22), type := 3, pos := "buffer.go:33", after := #[{ on := 6, ground := Go.Ground.data }], guard := none }) (v := _) rfl (by kernel_rfl) (by kernel_rfl) (by kernel_rfl) (fun _ _ _ h => h) (Or.inl ⟨by rfl, ?hy8⟩) (by assumption) ?hr8
  case hy8 => (intro _ hSw; (try dsimp only at hSw); obtain ⟨cs', ha, hk⟩ := hSw; have d0 := ha.cell 4096 (nm r) hk.room; have d3 := ha.cell 4099 (nm c) hk.count; have hlt := ha.lt; clear ha hk; go_simp <;> with_reducible rfl)
  simp only [Act.put, List.setIfInBounds_toArray, List.set_cons_zero, List.set_cons_succ]
  refine' wpAnyH_take (i := 9) (oi := { dst := some 25, op := Go.Op.move (Go.Operand.tmp 0), type := 25, pos := "buffer.go:33", after := #[], guard := none }) (v := _) rfl (by kernel_rfl) (by kernel_rfl) (by kernel_rfl) (fun _ _ _ h => h) (Or.inl ⟨by rfl, ?hy9⟩) (by assumption) ?hr9
  case hy9 => (intro _ hSw; (try dsimp only at hSw); go_simp <;> with_reducible rfl)
  simp only [Act.put, List.setIfInBounds_toArray, List.set_cons_zero, List.set_cons_succ]
  refine' wpAnyH_take (i := 10) (oi := { dst := some 26, op := Go.Op.nilCheck (Go.Operand.tmp 25), type := 0, pos := "buffer.go:33", after := #[{ on := 9, ground := Go.Ground.data }], guard := none }) (v := _) rfl (by kernel_rfl) (by kernel_rfl) (by kernel_rfl) (fun _ _ _ h => h) (Or.inl ⟨by rfl, ?hy10⟩) (by assumption) ?hr10
  case hy10 => (intro _ hSw; (try dsimp only at hSw); go_simp <;> with_reducible rfl)
  simp only [Act.put, List.setIfInBounds_toArray, List.set_cons_zero, List.set_cons_succ]
  refine' wpAnyH_take (i := 11) (oi := { dst := some 27, op := Go.Op.fieldAddr 42 (Go.Operand.tmp 26) 1, type := 0, pos := "buffer.go:33", after := #[{ on := 10, ground := Go.Ground.data }], guard := none }) (v := _) rfl (by kernel_rfl) (by kernel_rfl) (by kernel_rfl) (fun _ _ _ h => h) (Or.inl ⟨by rfl, ?hy11⟩) (by assumption) ?hr11
  case hy11 => (intro _ hSw; (try dsimp only at hSw); go_simp <;> with_reducible rfl)
  simp only [Act.put, List.setIfInBounds_toArray, List.set_cons_zero, List.set_cons_succ]
  refine' wpAnyH_take (i := 12) (oi := { dst := some 28, op := Go.Op.load 3 (Go.Operand.tmp 27), type := 3, pos := "buffer.go:33", after := #[{ on := 11, ground := Go.Ground.data }], guard := none }) (v := _) rfl (by kernel_rfl) (by kernel_rfl) (by kernel_rfl) (fun _ _ _ h => h) (Or.inl ⟨by rfl, ?hy12⟩) (by assumption) ?hr12
  case hy12 => (intro _ hSw; (try dsimp only at hSw); obtain ⟨cs', ha, hk⟩ := hSw; have d0 := ha.cell 4096 (nm r) hk.room; have d3 := ha.cell 4099 (nm c) hk.count; have hlt := ha.lt; clear ha hk; go_simp <;> with_reducible rfl)
  simp only [Act.put, List.setIfInBounds_toArray, List.set_cons_zero, List.set_cons_succ]
  refine' wpAnyH_take (i := 14) (oi := { dst := some 30, op := Go.Op.move (Go.Operand.tmp 5), type := 9, pos := "buffer.go:33", after := #[], guard := none }) (v := _) rfl (by kernel_rfl) (by kernel_rfl) (by kernel_rfl) (fun _ _ _ h => h) (Or.inl ⟨by rfl, ?hy13⟩) (by assumption) ?hr13
  case hy13 => (intro _ hSw; (try dsimp only at hSw); go_simp <;> with_reducible rfl)
  simp only [Act.put, List.setIfInBounds_toArray, List.set_cons_zero, List.set_cons_succ]
  refine wpAnyH_ready (rs := [8]) (by kernel_rfl) (by simp) ?_
  refine AllReadyH.cons (o := { dst := some 24, op := Go.Op.call { callee := Go.Callee.value (Go.Operand.func 20), args := #[Go.Operand.tmp 19, Go.Operand.tmp 23], argTypes := #[25, 3] }, type := 3, pos := "buffer.go:33", after := #[{ on := 3, ground := Go.Ground.data }, { on := 7, ground := Go.Ground.data }], guard := none }) rfl (fun K hK => ?_) AllReadyH.nil
  go_simp
  refine (C2.out _ hHeld).mono ?_
  rintro _ w3 ⟨rfl, rfl⟩
  go_wp2_with fail
  refine hK.out _ _ hHeld (fun hNext => ?_)
  clear hK K hHeld
  have hHeld := hNext
  clear hNext
  (try simp only [Act.put, List.setIfInBounds_toArray, List.set_cons_zero, List.set_cons_succ])
  refine' wpAnyH_take (i := 13) (oi := { dst := some 29, op := Go.Op.slice 40 (Go.Operand.tmp 18) (some (Go.Operand.tmp 24)) (some (Go.Operand.tmp 28)) none, type := 45, pos := "buffer.go:33", after := #[{ on := 2, ground := Go.Ground.data }, { on := 8, ground := Go.Ground.data }, { on := 12, ground := Go.Ground.data }], guard := none }) (v := _) rfl (by kernel_rfl) (by kernel_rfl) (by kernel_rfl) (fun _ _ _ h => h) (Or.inl ⟨by rfl, ?hy14⟩) (by assumption) ?hr14
  case hy14 => (intro _ hSw; (try dsimp only at hSw); go_simp <;> with_reducible rfl)
  simp only [Act.put, List.setIfInBounds_toArray, List.set_cons_zero, List.set_cons_succ]
  refine wpAnyH_ready (rs := [15]) (by kernel_rfl) (by simp) ?_
  refine AllReadyH.cons (o := { dst := some 31, op := Go.Op.call { callee := Go.Callee.builtin Go.Builtin.copy, args := #[Go.Operand.tmp 29, Go.Operand.tmp 30], argTypes := #[45, 9] }, type := 3, pos := "buffer.go:33", after := #[{ on := 13, ground := Go.Ground.data }, { on := 14, ground := Go.Ground.data }, { on := 8, ground := Go.Ground.chain }], guard := none }) rfl (fun K hK => ?_) AllReadyH.nil
  refine step_copy_known rfl _ _ _ _ rfl rfl rfl (run_copy_str _ _ _ _ _ b p (r - p) (4096 - p) n1 u Try.underlying45 sizeB (by rw [H.out.2.2.1]; exact H.out.2.2.2.2.1) ?hc1 ?hf1) ?_
  case hc1 => intro j hj; exact some_at (H.out.1 : At (w.drewN (nq + 1)) b cs BfT) (by have := H.out.2.1.size; have := H.out; omega)
  case hf1 => intro j hj; exact At.free (H.out.1 : At (w.drewN (nq + 1)) b cs BfT) _
  have L1 : p + ((vals u).take n1).length ≤ 4096 := by rw [List.length_take, vals_len]; have := H.out; omega
  refine hK.out _ _ ⟨_, at_sets _ _ _ _ (H.out.1 : At (w.drewN (nq + 1)) b cs BfT), H.out.2.1.ovr _ _ L1⟩ (fun hNext => ?_)
  clear hK K hHeld
  have hHeld := hNext
  clear hNext
  (try simp only [Act.put, List.setIfInBounds_toArray, List.set_cons_zero, List.set_cons_succ])
  refine' wpAnyH_take (i := 16) (oi := { dst := some 6, op := Go.Op.assign (Go.Operand.tmp 31), type := 3, pos := "buffer.go:33", after := #[{ on := 15, ground := Go.Ground.data }, { on := 15, ground := Go.Ground.chain }, { on := 0, ground := Go.Ground.phase }, { on := 1, ground := Go.Ground.phase }, { on := 2, ground := Go.Ground.phase }, { on := 3, ground := Go.Ground.phase }, { on := 4, ground := Go.Ground.phase }, { on := 5, ground := Go.Ground.phase }, { on := 6, ground := Go.Ground.phase }, { on := 7, ground := Go.Ground.phase }, { on := 8, ground := Go.Ground.phase }, { on := 9, ground := Go.Ground.phase }, { on := 10, ground := Go.Ground.phase }, { on := 11, ground := Go.Ground.phase }, { on := 12, ground := Go.Ground.phase }, { on := 13, ground := Go.Ground.phase }, { on := 14, ground := Go.Ground.phase }, { on := 15, ground := Go.Ground.phase }], guard := none }) (v := _) rfl (by kernel_rfl) (by kernel_rfl) (by kernel_rfl) (fun _ _ _ h => h) (Or.inl ⟨by rfl, ?hy15⟩) (by assumption) ?hr15
  case hy15 => (intro _ hSw; (try dsimp only at hSw); go_simp <;> with_reducible rfl)
  simp only [Act.put, List.setIfInBounds_toArray, List.set_cons_zero, List.set_cons_succ]
  refine wpAnyH_done (by kernel_rfl) ?_ _
  have a2 : At ((w.drewN (nq + 1)).setCells b p ((vals u).take n1)) b (ovr cs p ((vals u).take n1)) BfT := at_sets _ _ _ _ (H.out.1 : At (w.drewN (nq + 1)) b cs BfT)
  have g2 : Chg (Bs b) w ((w.drewN (nq + 1)).setCells b p ((vals u).take n1)) := chg_sets (S := Bs b) rfl _ _ _ ((Chg.refl _ _).drewN _)
  clear hHeld
  generalize (w.drewN (nq + 1)).setCells b p ((vals u).take n1) = w2 at a2 g2 ⊢
  have HR := Lib.hid a2
  have HG := Lib.hid g2
  have HK := Lib.hid (H.out.2.1.ovr p ((vals u).take n1) L1)
  have HE := Lib.hid (And.intro H.out.2.2.2.2.1 (And.intro H.out.2.2.2.2.2 H.out.2.2.2.1))
  clear a2 g2 H C2 hum hlt L1
  generalize he : ovr cs p ((vals u).take n1) = cs2 at HR HK
  have HO := Lib.hid he
  clear he
  go_wp2_with fail
  refine wp_region_held_drew (S := (There b r k f c)) (by kernel_rfl) ⟨cs2, HR.out, HK.out⟩ (fun hHeld => ?_)
  refine' wpAnyH_take (i := 0) (oi := { dst := some 32, op := Go.Op.move (Go.Operand.tmp 0), type := 25, pos := "buffer.go:34", after := #[], guard := none }) (v := _) rfl (by kernel_rfl) (by kernel_rfl) (by kernel_rfl) (fun _ _ _ h => h) (Or.inl ⟨by rfl, ?hy16⟩) (by assumption) ?hr16
  case hy16 => (intro _ hSw; (try dsimp only at hSw); go_simp <;> with_reducible rfl)
  simp only [Act.put, List.setIfInBounds_toArray, List.set_cons_zero, List.set_cons_succ]
  refine' wpAnyH_take (i := 1) (oi := { dst := some 33, op := Go.Op.nilCheck (Go.Operand.tmp 32), type := 0, pos := "buffer.go:34", after := #[{ on := 0, ground := Go.Ground.data }], guard := none }) (v := _) rfl (by kernel_rfl) (by kernel_rfl) (by kernel_rfl) (fun _ _ _ h => h) (Or.inl ⟨by rfl, ?hy17⟩) (by assumption) ?hr17
  case hy17 => (intro _ hSw; (try dsimp only at hSw); go_simp <;> with_reducible rfl)
  simp only [Act.put, List.setIfInBounds_toArray, List.set_cons_zero, List.set_cons_succ]
  refine' wpAnyH_take (i := 2) (oi := { dst := some 34, op := Go.Op.fieldAddr 42 (Go.Operand.tmp 33) 0, type := 0, pos := "buffer.go:34", after := #[{ on := 1, ground := Go.Ground.data }], guard := none }) (v := _) rfl (by kernel_rfl) (by kernel_rfl) (by kernel_rfl) (fun _ _ _ h => h) (Or.inl ⟨by rfl, ?hy18⟩) (by assumption) ?hr18
  case hy18 => (intro _ hSw; (try dsimp only at hSw); go_simp <;> with_reducible rfl)
  simp only [Act.put, List.setIfInBounds_toArray, List.set_cons_zero, List.set_cons_succ]
  refine' wpAnyH_take (i := 3) (oi := { dst := some 35, op := Go.Op.move (Go.Operand.tmp 0), type := 25, pos := "buffer.go:34", after := #[], guard := none }) (v := _) rfl (by kernel_rfl) (by kernel_rfl) (by kernel_rfl) (fun _ _ _ h => h) (Or.inl ⟨by rfl, ?hy19⟩) (by assumption) ?hr19
  case hy19 => (intro _ hSw; (try dsimp only at hSw); go_simp <;> with_reducible rfl)
  simp only [Act.put, List.setIfInBounds_toArray, List.set_cons_zero, List.set_cons_succ]
  refine' wpAnyH_take (i := 4) (oi := { dst := some 36, op := Go.Op.nilCheck (Go.Operand.tmp 35), type := 0, pos := "buffer.go:34", after := #[{ on := 3, ground := Go.Ground.data }], guard := none }) (v := _) rfl (by kernel_rfl) (by kernel_rfl) (by kernel_rfl) (fun _ _ _ h => h) (Or.inl ⟨by rfl, ?hy20⟩) (by assumption) ?hr20
  case hy20 => (intro _ hSw; (try dsimp only at hSw); go_simp <;> with_reducible rfl)
  simp only [Act.put, List.setIfInBounds_toArray, List.set_cons_zero, List.set_cons_succ]
  refine' wpAnyH_take (i := 5) (oi := { dst := some 37, op := Go.Op.fieldAddr 42 (Go.Operand.tmp 36) 1, type := 0, pos := "buffer.go:34", after := #[{ on := 4, ground := Go.Ground.data }], guard := none }) (v := _) rfl (by kernel_rfl) (by kernel_rfl) (by kernel_rfl) (fun _ _ _ h => h) (Or.inl ⟨by rfl, ?hy21⟩) (by assumption) ?hr21
  case hy21 => (intro _ hSw; (try dsimp only at hSw); go_simp <;> with_reducible rfl)
  simp only [Act.put, List.setIfInBounds_toArray, List.set_cons_zero, List.set_cons_succ]
  refine' wpAnyH_take (i := 6) (oi := { dst := some 38, op := Go.Op.load 3 (Go.Operand.tmp 37), type := 3, pos := "buffer.go:34", after := #[{ on := 5, ground := Go.Ground.data }], guard := none }) (v := _) rfl (by kernel_rfl) (by kernel_rfl) (by kernel_rfl) (fun _ _ _ h => h) (Or.inl ⟨by rfl, ?hy22⟩) (by assumption) ?hr22
  case hy22 => (intro _ hSw; (try dsimp only at hSw); obtain ⟨cs', ha, hk⟩ := hSw; have d0 := ha.cell 4096 (nm r) hk.room; have d3 := ha.cell 4099 (nm c) hk.count; have hlt := ha.lt; clear ha hk; go_simp <;> with_reducible rfl)
  simp only [Act.put, List.setIfInBounds_toArray, List.set_cons_zero, List.set_cons_succ]
  refine' wpAnyH_take (i := 7) (oi := { dst := some 39, op := Go.Op.slice 40 (Go.Operand.tmp 34) none (some (Go.Operand.tmp 38)) none, type := 45, pos := "buffer.go:34", after := #[{ on := 2, ground := Go.Ground.data }, { on := 6, ground := Go.Ground.data }], guard := none }) (v := _) rfl (by kernel_rfl) (by kernel_rfl) (by kernel_rfl) (fun _ _ _ h => h) (Or.inl ⟨by rfl, ?hy23⟩) (by assumption) ?hr23
  case hy23 => (intro _ hSw; (try dsimp only at hSw); go_simp <;> with_reducible rfl)
  simp only [Act.put, List.setIfInBounds_toArray, List.set_cons_zero, List.set_cons_succ]
  refine' wpAnyH_take (i := 8) (oi := { dst := some 40, op := Go.Op.move (Go.Operand.tmp 5), type := 9, pos := "buffer.go:34", after := #[], guard := none }) (v := _) rfl (by kernel_rfl) (by kernel_rfl) (by kernel_rfl) (fun _ _ _ h => h) (Or.inl ⟨by rfl, ?hy24⟩) (by assumption) ?hr24
  case hy24 => (intro _ hSw; (try dsimp only at hSw); go_simp <;> with_reducible rfl)
  simp only [Act.put, List.setIfInBounds_toArray, List.set_cons_zero, List.set_cons_succ]
  refine' wpAnyH_take (i := 9) (oi := { dst := some 41, op := Go.Op.move (Go.Operand.tmp 6), type := 3, pos := "buffer.go:34", after := #[], guard := none }) (v := _) rfl (by kernel_rfl) (by kernel_rfl) (by kernel_rfl) (fun _ _ _ h => h) (Or.inl ⟨by rfl, ?hy25⟩) (by assumption) ?hr25
  case hy25 => (intro _ hSw; (try dsimp only at hSw); go_simp <;> with_reducible rfl)
  simp only [Act.put, List.setIfInBounds_toArray, List.set_cons_zero, List.set_cons_succ]
  refine' wpAnyH_take (i := 10) (oi := { dst := some 42, op := Go.Op.slice 9 (Go.Operand.tmp 40) (some (Go.Operand.tmp 41)) none none, type := 9, pos := "buffer.go:34", after := #[{ on := 8, ground := Go.Ground.data }, { on := 9, ground := Go.Ground.data }], guard := none }) (v := _) rfl (by kernel_rfl) (by kernel_rfl) (by kernel_rfl) (fun _ _ _ h => h) (Or.inl ⟨by rfl, ?hy26⟩) (by assumption) ?hr26
  case hy26 => (intro _ hSw; (try dsimp only at hSw); clear hSw; go_simp <;> with_reducible rfl)
  simp only [Act.put, List.setIfInBounds_toArray, List.set_cons_zero, List.set_cons_succ]
  refine wpAnyH_ready (rs := [11]) (by kernel_rfl) (by simp) ?_
  refine AllReadyH.cons (o := { dst := some 43, op := Go.Op.call { callee := Go.Callee.builtin Go.Builtin.copy, args := #[Go.Operand.tmp 39, Go.Operand.tmp 42], argTypes := #[45, 9] }, type := 3, pos := "buffer.go:34", after := #[{ on := 7, ground := Go.Ground.data }, { on := 10, ground := Go.Ground.data }], guard := none }) rfl (fun K hK => ?_) AllReadyH.nil
  refine step_copy_known rfl _ _ _ _ rfl rfl rfl (run_copy_str _ _ _ _ _ b 0 r 4096 (u.size - n1) (rst_ u n1) Try.underlying45 sizeB (by rw [ext_size]; have := HE.out; have := HV.out; omega) ?hc2 ?hf2) ?_
  case hc2 => intro j hj; exact some_at (HR.out : At w2.drew b cs2 BfT) (by have := HK.out.size; have := HE.out; have := HV.out; omega)
  case hf2 => intro j hj; exact At.free (HR.out : At w2.drew b cs2 BfT) _
  have ev : (vals (rst_ u n1)).take (u.size - n1) = (vals u).drop n1 := by rw [List.take_of_length_le (by rw [vals_len, ext_size]; omega)]; unfold vals; rw [rst_tl, List.map_drop]
  have L2 : 0 + ((vals u).drop n1).length ≤ 4096 := by rw [List.length_drop, vals_len]; have := HE.out; have := HV.out; omega
  rw [ev]
  refine hK.out _ _ ⟨_, at_sets _ _ _ _ (HR.out : At w2.drew b cs2 BfT), HK.out.ovr _ _ L2⟩ (fun hNext => ?_)
  clear hK K hHeld
  have hHeld := hNext
  clear hNext
  (try simp only [Act.put, List.setIfInBounds_toArray, List.set_cons_zero, List.set_cons_succ])
  refine wpAnyH_done (by kernel_rfl) ?_ _
  have a2 : At (w2.drew.setCells b 0 ((vals u).drop n1)) b (ovr cs2 0 ((vals u).drop n1)) BfT := at_sets _ _ _ _ (HR.out : At w2.drew b cs2 BfT)
  have g2 : Chg (Bs b) w (w2.drew.setCells b 0 ((vals u).drop n1)) := chg_sets (S := Bs b) rfl _ _ _ HG.out.drew
  have k2 := HK.out.ovr 0 ((vals u).drop n1) L2
  clear hHeld ev L2
  generalize w2.drew.setCells b 0 ((vals u).drop n1) = w3 at a2 g2 ⊢
  have hc3 := a2.cell 4099 (nm c) k2.count
  have hlt := a2.lt
  have hfz := a2.free
  have HD : Hid (Do b _ BfT w3 (w3.setCell ⟨b, 4099, none⟩ (nm c2))) := Lib.hid ((Do.refl a2).set 4099 (nm c2))
  have HG3 := Lib.hid g2
  have hum := HU.out
  clear a2 g2 k2 HR HG HE HK HL
  go_wp2
  go_ret
  refine ⟨rfl, ?_, HG3.out.setCell _ _ _ fun _ => rfl⟩
  rw [HO.out]
  exact HD.out.at_
/-- How many bytes there is room for. -/
def room (r : Nat) (t s : ByteArray) : Nat := min s.size (r - t.size)
theorem fput (w : World) (b r k : Nat) (t s : ByteArray) (h : B w b r k t) : Calls Try.prog 13 #[ptr b, .string s] w fun e w' => e = .returned (nm (room r t s)) ∧ B w' b r k (t ++ fst_ s (room r t s)) ∧ Chg (Bs b) w w' := by
  obtain ⟨f, cs, h⟩ := h
  have h1 := h.rg.few
  have h2 := h.rg.max
  have h3 := h.rg.lt
  have hp : pl r (f + t.size) < r := pl_lt (by omega)
  have hm : room r t s ≤ s.size := by unfold room; omega
  have hm2 : t.size + room r t s ≤ r := by unfold room; omega
  have hz : (fst_ s (room r t s)).size = room r t s := fst_size s hm
  refine (fput0 w b r k f t.size (r - t.size) (pl r (f + t.size)) (room r t s) (min (room r t s) (r - pl r (f + t.size))) cs h.at_ h.ok s (fst_ s (room r t s)) h1 h2 h3 rfl rfl rfl hz rfl hp rfl).mono ?_
  rintro _ w1 ⟨rfl, ha, hc⟩
  have e : (t ++ fst_ s (room r t s)).size = t.size + room r t s := by rw [app_size, hz]
  have g := h.rg.put (fst_ s (room r t s)) (by rw [hz]; exact hm2) _ (by rw [hz])
  refine ⟨rfl, ⟨f, _, ha, ?_, g.set_out 4099 _ (by omega), h.may⟩, hc⟩
  rw [e]
  refine Cs.set_count (Cs.ovr (Cs.ovr h.ok _ _ ?_) _ _ ?_) _
  · rw [List.length_take, vals_len, hz]; omega
  · rw [List.length_drop, vals_len, hz]; omega
end Go.Proofs.Ytjhkjnammpblgaa.Bf
