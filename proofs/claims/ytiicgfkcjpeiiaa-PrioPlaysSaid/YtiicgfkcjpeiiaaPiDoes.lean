/-
  One's own and the document's own, beside each other: a call of both answers alike, and leaves both alike. No condition.
-/
import Derived.Test.YtiicgfkcjpeiiaaPiWorks
import Derived.Deep.RegionHeld
namespace Go.Proofs.Ytiicgfkcjpeiiaa.Pi
open Go.RowKit Go.Proofs.Ytiicgfkcjpeiiaa.Base Go.Proofs.Ytiicgfkcjpeiiaa.Mem Go.Proofs.Ytiicgfkcjpeiiaa.Cr
abbrev CT : TypeId := 30
/-- Both, made since w0. -/
structure Duo (w0 : World) (b : Nat) (k : Rb) (x y : St) (w : World) : Prop where
  one : Pn w0 b x w
  two : R w k y
  lo : w0.heap.size ≤ k.b ∧ w0.heap.size ≤ k.bc ∧ w0.heap.size ≤ k.bi ∧ w0.heap.size ≤ k.bl
section
variable {w0 w w' : World} {b cb : Nat} {k : Rb} {x y z : St} {cs : Array Value}
theorem Rb.lo_of {n : Nat} (h : n ≤ k.b ∧ n ≤ k.bc ∧ n ≤ k.bi ∧ n ≤ k.bl) : ∀ j, k.S j → n ≤ j := fun j hj => by
  rcases hj with rfl | rfl | rfl
  · exact h.2.1
  · exact h.2.2.1
  · exact h.2.2.2
/-- A block of another type is none of its rows. -/
theorem R.not_S (h : R w k y) {T : TypeId} (hc : At w cb cs T) (h1 : T ≠ 5) (h2 : T ≠ 4) (h3 : T ≠ 3) : ¬ k.S cb := fun hj => by
  rcases hj with rfl | rfl | rfl
  · exact At.ne_ar hc h.c h1 rfl
  · exact At.ne_ar hc h.i h2 rfl
  · exact At.ne_ar hc h.l h3 rfl
theorem Duo.on (h : Duo w0 b k x y w) (hb : Below w.heap.size w w') : Duo w0 b k x y w' := ⟨h.one.on hb, h.two.below hb, h.lo⟩
theorem Duo.drewN (h : Duo w0 b k x y w) (n : Nat) : Duo w0 b k x y (w.drewN n) := h.on ⟨rfl, rfl, rfl, Nat.le_refl _, fun _ _ => rfl⟩
theorem Duo.drew (h : Duo w0 b k x y w) : Duo w0 b k x y w.drew := h.on ⟨rfl, rfl, rfl, Nat.le_refl _, fun _ _ => rfl⟩
theorem Duo.doA (h : Duo w0 b k x y w) (hq : P w' b z) (hc : Chg (Bs b) w w') : Duo w0 b k z y w' :=
  ⟨h.one.step hq hc, h.two.other hc (At.ne_ar h.two.hd h.one.q.ar (by decide)) (h.two.c.ne h.one.q.ar (by decide)) (h.two.i.ne h.one.q.ar (by decide)) (h.two.l.ne h.one.q.ar (by decide)), h.lo⟩
theorem Duo.doB (h : Duo w0 b k x y w) (hq : R w' k z) (hc : Chg k.S w w') : Duo w0 b k x z w' :=
  ⟨⟨h.one.q.other hc (by obtain ⟨cs, ha, _⟩ := h.one.q.ar; exact h.two.not_S ha (by decide) (by decide) (by decide)), h.one.lo, hc.below h.one.below h.one.below.size (Rb.lo_of h.lo)⟩, hq, h.lo⟩
/-- Both, and a call that lies in a block of its own. -/
structure Dc (w0 : World) (b : Nat) (k : Rb) (x y : St) (cb : Nat) (cs : Array Value) (w : World) : Prop where
  d : Duo w0 b k x y w
  c : At w cb cs CT
theorem Dc.drew (h : Dc w0 b k x y cb cs w) : Dc w0 b k x y cb cs w.drew := ⟨h.d.drew, h.c⟩
theorem Dc.doA (h : Dc w0 b k x y cb cs w) (hq : P w' b z) (hc : Chg (Bs b) w w') : Dc w0 b k z y cb cs w' :=
  ⟨h.d.doA hq hc, h.c.other hc (At.ne_ar h.c h.d.one.q.ar (by decide))⟩
theorem Dc.doB (h : Dc w0 b k x y cb cs w) (hq : R w' k z) (hc : Chg k.S w w') : Dc w0 b k x z cb cs w' :=
  ⟨h.d.doB hq hc, h.c.other hc (h.d.two.not_S h.c (by decide) (by decide) (by decide))⟩
theorem Dc.made (h : Duo w0 b k x y w) (cs : Array Value) : Dc w0 b k x y w.heap.size cs (w.alloc (.cells cs CT (0, 0))) :=
  ⟨h.on (nest_below w [_]), nest w [_] 0 _ rfl⟩
def cV (d c : Nat) : Nat := if d < 64 ∧ c < 64 then 0 else 2
def cS (x : St) (d c : Nat) : St := if d < 64 ∧ c < 64 then x.setC d c else x
def rV (d : Nat) : Nat := if d < 64 then 0 else 2
def rS (x : St) (d : Nat) (o : Bool) : St := if d < 64 then x.setR d o else x
def tS (x : St) (d : Nat) : St := if x.may d then x.tak d else x
theorem fC (d c : Nat) (w : World) (h : P w b x) : Calls Try.prog 18 #[ptr b, oc d, oc c] w fun e w' => e = .returned (nm (cV d c)) ∧ P w' b (cS x d c) ∧ Chg (Bs b) w w' := by
  unfold cV cS
  by_cases hh : d < 64 ∧ c < 64
  · rw [if_pos hh, if_pos hh]; exact fsetC h d c hh.1 hh.2
  · rw [if_neg hh, if_neg hh]
    by_cases h1 : d < 64
    · exact (fsetC_hi2 b d c h1 (by omega) w).mono fun _ _ ⟨he, hw⟩ => ⟨he, hw ▸ ⟨h, Chg.refl _ _⟩⟩
    · exact (fsetC_hi b d c (by omega) w).mono fun _ _ ⟨he, hw⟩ => ⟨he, hw ▸ ⟨h, Chg.refl _ _⟩⟩
theorem rC (d c : Nat) (w : World) (h : R w k x) : Calls Try.prog 21 #[ptr k.b, oc d, oc c] w fun e w' => e = .returned (nm (cV d c)) ∧ R w' k (cS x d c) ∧ Chg k.S w w' := by
  unfold cV cS
  by_cases hh : d < 64 ∧ c < 64
  · rw [if_pos hh, if_pos hh]; exact rsetC h d c hh.1 hh.2
  · rw [if_neg hh, if_neg hh]
    by_cases h1 : d < 64
    · exact (rsetC_hi2 k.b d c h1 (by omega) w).mono fun _ _ ⟨he, hw⟩ => ⟨he, hw ▸ ⟨h, Chg.refl _ _⟩⟩
    · exact (rsetC_hi k.b d c (by omega) w).mono fun _ _ ⟨he, hw⟩ => ⟨he, hw ▸ ⟨h, Chg.refl _ _⟩⟩
theorem fR (d : Nat) (o : Bool) (w : World) (h : P w b x) : Calls Try.prog 17 #[ptr b, oc d, .bool o] w fun e w' => e = .returned (nm (rV d)) ∧ P w' b (rS x d o) ∧ Chg (Bs b) w w' := by
  unfold rV rS
  by_cases hh : d < 64
  · rw [if_pos hh, if_pos hh]; exact fsetR h d o hh
  · rw [if_neg hh, if_neg hh]
    exact (fsetR_hi b d o (by omega) w).mono fun _ _ ⟨he, hw⟩ => ⟨he, hw ▸ ⟨h, Chg.refl _ _⟩⟩
theorem rR (d : Nat) (o : Bool) (w : World) (h : R w k x) : Calls Try.prog 22 #[ptr k.b, oc d, .bool o] w fun e w' => e = .returned (nm (rV d)) ∧ R w' k (rS x d o) ∧ Chg k.S w w' := by
  unfold rV rS
  by_cases hh : d < 64
  · rw [if_pos hh, if_pos hh]; exact rsetR h d o hh
  · rw [if_neg hh, if_neg hh]
    exact (rsetR_hi k.b d o (by omega) w).mono fun _ _ ⟨he, hw⟩ => ⟨he, hw ▸ ⟨h, Chg.refl _ _⟩⟩
theorem may_hi {d : Nat} (h : 64 ≤ d) : x.may d = false := by unfold St.may; rw [decide_eq_false (by omega)]; rfl
theorem fM (d : Nat) (w : World) (h : P w b x) : Calls Try.prog 13 #[ptr b, oc d] w fun e w' => e = .returned (.bool (x.may d)) ∧ ∃ m, w' = w.drewN m := by
  by_cases hd : d < 64
  · exact fmay h d hd
  · rw [may_hi (by omega)]; exact fmay_hi b d (by omega) w
theorem rM (d : Nat) (w : World) (h : R w k x) : Calls Try.prog 25 #[ptr k.b, oc d] w fun e w' => e = .returned (.bool (x.may d)) ∧ ∃ m, w' = w.drewN m := by
  by_cases hd : d < 64
  · exact rmay h d hd
  · rw [may_hi (by omega)]; exact rmay_hi k.b d (by omega) w
theorem fT (d : Nat) (w : World) (h : P w b x) : Calls Try.prog 19 #[ptr b, oc d] w fun e w' => e = .returned (.bool (x.may d)) ∧ P w' b (tS x d) ∧ Chg (Bs b) w w' := by
  unfold tS
  by_cases hm : x.may d = true
  · rw [if_pos hm, hm]; exact ftake_yes h d hm
  · rw [if_neg hm]
    have C := fM d w h
    have hm2 : x.may d = false := by simpa using hm
    rw [hm2] at C ⊢
    exact (ftake_no C).mono fun _ _ ⟨he, m, hw⟩ => ⟨he, hw ▸ ⟨h.drewN m, (Chg.refl _ _).drewN m⟩⟩
theorem rT (d : Nat) (w : World) (h : R w k x) : Calls Try.prog 23 #[ptr k.b, oc d] w fun e w' => e = .returned (.bool (x.may d)) ∧ R w' k (tS x d) ∧ Chg k.S w w' := by
  unfold tS
  by_cases hm : x.may d = true
  · rw [if_pos hm, hm]; exact rtake_yes h d hm
  · rw [if_neg hm]
    have C := rM d w h
    have hm2 : x.may d = false := by simpa using hm
    rw [hm2] at C ⊢
    exact (rtake_no C).mono fun _ _ ⟨he, m, hw⟩ => ⟨he, hw ▸ ⟨h.drewN m, (Chg.refl _ _).drewN m⟩⟩
set_option maxHeartbeats 4000000 in
set_option maxRecDepth 100000 in
theorem does_c (q d c : Nat) (o : Bool) (hq : q < 256) (hj : q % 8 = 0) (h : Duo w0 b k x x w) : Calls Try.prog 10 #[ptr b, ptr k.b, .agg #[oc q, oc d, oc c, .bool o]] w fun e w' => e = .returned (.bool true) ∧ Duo w0 b k (cS x d c) (cS x d c) w' := by
  have q8 : (q : Int) % 8 = 0 := by omega
  have q9 : (q : Int) < 256 := by omega
  have H1 := Lib.hid (Dc.made h #[oc q, oc d, oc c, .bool o])
  have CA := Lib.hid (fun w h => fC (b := b) (x := x) d c w h)
  have CB := Lib.hid (fun w h => rC (k := k) (x := x) d c w h)
  obtain ⟨y, hy⟩ : ∃ y, cS x d c = y := ⟨_, rfl⟩
  rw [hy] at CA CB ⊢
  obtain ⟨v, hv⟩ : ∃ v, cV d c = v := ⟨_, rfl⟩
  rw [hv] at CA CB
  have zz : ((v : Int) == (v : Int)) = true := beq_self_eq_true _
  clear hv
  clear h hq hj hy
  go_enter Try.func10, Try.ntmps10
  go_wp2_with fail
  generalize w.alloc (.cells #[oc q, oc d, oc c, .bool o] CT) = w1 at H1 ⊢
  generalize w.heap.size = cb at H1 ⊢
  refine wp_region_held_drew (S := (fun w' => At w' cb #[oc q, oc d, oc c, .bool o] CT)) (by kernel_rfl) H1.out.c (fun hHeld => ?_)
  refine' wpAnyH_take (i := 0) (oi := { dst := some 16, op := Go.Op.move (Go.Operand.tmp 0), type := 24, pos := "law.go:43", after := #[], guard := none }) (v := _) rfl (by kernel_rfl) (by kernel_rfl) (by kernel_rfl) (fun _ _ _ h => h) (Or.inl ⟨by rfl, ?hy1⟩) (by assumption) ?hr1
  case hy1 => (intro _ hSw; (try dsimp only at hSw); go_simp <;> with_reducible rfl)
  simp only [Act.put, List.setIfInBounds_toArray, List.set_cons_zero, List.set_cons_succ]
  refine' wpAnyH_take (i := 1) (oi := { dst := some 17, op := Go.Op.fieldAddr 30 (Go.Operand.tmp 5) 1, type := 0, pos := "law.go:43", after := #[], guard := none }) (v := _) rfl (by kernel_rfl) (by kernel_rfl) (by kernel_rfl) (fun _ _ _ h => h) (Or.inl ⟨by rfl, ?hy2⟩) (by assumption) ?hr2
  case hy2 => (intro _ hSw; (try dsimp only at hSw); go_simp <;> with_reducible rfl)
  simp only [Act.put, List.setIfInBounds_toArray, List.set_cons_zero, List.set_cons_succ]
  refine' wpAnyH_take (i := 2) (oi := { dst := some 18, op := Go.Op.load 5 (Go.Operand.tmp 17), type := 5, pos := "law.go:43", after := #[{ on := 1, ground := Go.Ground.data }], guard := none }) (v := _) rfl (by kernel_rfl) (by kernel_rfl) (by kernel_rfl) (fun _ _ _ h => h) (Or.inl ⟨by rfl, ?hy3⟩) (by assumption) ?hr3
  case hy3 => (intro _ hSw; (try dsimp only at hSw); have b1 := At.cell hSw 1 _ rfl; have b2 := At.cell hSw 2 _ rfl; have b3 := At.cell hSw 3 _ rfl; go_simp <;> with_reducible rfl)
  simp only [Act.put, List.setIfInBounds_toArray, List.set_cons_zero, List.set_cons_succ]
  refine' wpAnyH_take (i := 3) (oi := { dst := some 19, op := Go.Op.fieldAddr 30 (Go.Operand.tmp 5) 2, type := 0, pos := "law.go:43", after := #[], guard := none }) (v := _) rfl (by kernel_rfl) (by kernel_rfl) (by kernel_rfl) (fun _ _ _ h => h) (Or.inl ⟨by rfl, ?hy4⟩) (by assumption) ?hr4
  case hy4 => (intro _ hSw; (try dsimp only at hSw); go_simp <;> with_reducible rfl)
  simp only [Act.put, List.setIfInBounds_toArray, List.set_cons_zero, List.set_cons_succ]
  refine' wpAnyH_take (i := 4) (oi := { dst := some 20, op := Go.Op.load 5 (Go.Operand.tmp 19), type := 5, pos := "law.go:43", after := #[{ on := 3, ground := Go.Ground.data }], guard := none }) (v := _) rfl (by kernel_rfl) (by kernel_rfl) (by kernel_rfl) (fun _ _ _ h => h) (Or.inl ⟨by rfl, ?hy5⟩) (by assumption) ?hr5
  case hy5 => (intro _ hSw; (try dsimp only at hSw); have b1 := At.cell hSw 1 _ rfl; have b2 := At.cell hSw 2 _ rfl; have b3 := At.cell hSw 3 _ rfl; go_simp <;> with_reducible rfl)
  simp only [Act.put, List.setIfInBounds_toArray, List.set_cons_zero, List.set_cons_succ]
  refine' wpAnyH_take (i := 6) (oi := { dst := some 22, op := Go.Op.move (Go.Operand.tmp 1), type := 26, pos := "law.go:43", after := #[], guard := none }) (v := _) rfl (by kernel_rfl) (by kernel_rfl) (by kernel_rfl) (fun _ _ _ h => h) (Or.inl ⟨by rfl, ?hy6⟩) (by assumption) ?hr6
  case hy6 => (intro _ hSw; (try dsimp only at hSw); go_simp <;> with_reducible rfl)
  simp only [Act.put, List.setIfInBounds_toArray, List.set_cons_zero, List.set_cons_succ]
  refine' wpAnyH_take (i := 7) (oi := { dst := some 23, op := Go.Op.fieldAddr 30 (Go.Operand.tmp 5) 1, type := 0, pos := "law.go:43", after := #[], guard := none }) (v := _) rfl (by kernel_rfl) (by kernel_rfl) (by kernel_rfl) (fun _ _ _ h => h) (Or.inl ⟨by rfl, ?hy7⟩) (by assumption) ?hr7
  case hy7 => (intro _ hSw; (try dsimp only at hSw); go_simp <;> with_reducible rfl)
  simp only [Act.put, List.setIfInBounds_toArray, List.set_cons_zero, List.set_cons_succ]
  refine' wpAnyH_take (i := 8) (oi := { dst := some 24, op := Go.Op.load 5 (Go.Operand.tmp 23), type := 5, pos := "law.go:43", after := #[{ on := 7, ground := Go.Ground.data }], guard := none }) (v := _) rfl (by kernel_rfl) (by kernel_rfl) (by kernel_rfl) (fun _ _ _ h => h) (Or.inl ⟨by rfl, ?hy8⟩) (by assumption) ?hr8
  case hy8 => (intro _ hSw; (try dsimp only at hSw); have b1 := At.cell hSw 1 _ rfl; have b2 := At.cell hSw 2 _ rfl; have b3 := At.cell hSw 3 _ rfl; go_simp <;> with_reducible rfl)
  simp only [Act.put, List.setIfInBounds_toArray, List.set_cons_zero, List.set_cons_succ]
  refine' wpAnyH_take (i := 9) (oi := { dst := some 25, op := Go.Op.fieldAddr 30 (Go.Operand.tmp 5) 2, type := 0, pos := "law.go:43", after := #[], guard := none }) (v := _) rfl (by kernel_rfl) (by kernel_rfl) (by kernel_rfl) (fun _ _ _ h => h) (Or.inl ⟨by rfl, ?hy9⟩) (by assumption) ?hr9
  case hy9 => (intro _ hSw; (try dsimp only at hSw); go_simp <;> with_reducible rfl)
  simp only [Act.put, List.setIfInBounds_toArray, List.set_cons_zero, List.set_cons_succ]
  refine' wpAnyH_take (i := 10) (oi := { dst := some 26, op := Go.Op.load 5 (Go.Operand.tmp 25), type := 5, pos := "law.go:43", after := #[{ on := 9, ground := Go.Ground.data }], guard := none }) (v := _) rfl (by kernel_rfl) (by kernel_rfl) (by kernel_rfl) (fun _ _ _ h => h) (Or.inl ⟨by rfl, ?hy10⟩) (by assumption) ?hr10
  case hy10 => (intro _ hSw; (try dsimp only at hSw); have b1 := At.cell hSw 1 _ rfl; have b2 := At.cell hSw 2 _ rfl; have b3 := At.cell hSw 3 _ rfl; go_simp <;> with_reducible rfl)
  simp only [Act.put, List.setIfInBounds_toArray, List.set_cons_zero, List.set_cons_succ]
  refine wpAnyH_ready (rs := [5]) (by kernel_rfl) (by simp) ?_
  refine AllReadyH.cons (o := { dst := some 21, op := Go.Op.call { callee := Go.Callee.value (Go.Operand.func 18), args := #[Go.Operand.tmp 16, Go.Operand.tmp 18, Go.Operand.tmp 20], argTypes := #[24, 5, 5] }, type := 39, pos := "law.go:43", after := #[{ on := 0, ground := Go.Ground.data }, { on := 2, ground := Go.Ground.data }, { on := 4, ground := Go.Ground.data }], guard := none }) rfl (fun K hK => ?_) AllReadyH.nil
  go_simp
  refine (CA.out _ H1.out.drew.d.one.q).mono ?_
  rintro _ w2 ⟨rfl, hq, hc⟩
  have H2 := Lib.hid (H1.out.drew.doA hq hc)
  clear hq hc H1 CA
  go_wp2_with fail
  refine hK.out _ _ H2.out.c (fun hNext => ?_)
  clear hK K hHeld
  have hHeld := hNext
  clear hNext
  (try simp only [Act.put, List.setIfInBounds_toArray, List.set_cons_zero, List.set_cons_succ])
  refine wpAnyH_ready (rs := [11]) (by kernel_rfl) (by simp) ?_
  refine AllReadyH.cons (o := { dst := some 27, op := Go.Op.call { callee := Go.Callee.value (Go.Operand.func 21), args := #[Go.Operand.tmp 22, Go.Operand.tmp 24, Go.Operand.tmp 26], argTypes := #[26, 5, 5] }, type := 39, pos := "law.go:43", after := #[{ on := 6, ground := Go.Ground.data }, { on := 8, ground := Go.Ground.data }, { on := 10, ground := Go.Ground.data }, { on := 5, ground := Go.Ground.chain }], guard := none }) rfl (fun K hK => ?_) AllReadyH.nil
  go_simp
  refine (CB.out _ H2.out.d.two).mono ?_
  rintro _ w3 ⟨rfl, hq, hc⟩
  have H3 := Lib.hid (H2.out.doB hq hc)
  clear hq hc H2 CB
  go_wp2_with fail
  refine hK.out _ _ H3.out.c (fun hNext => ?_)
  clear hK K hHeld
  have hHeld := hNext
  clear hNext
  (try simp only [Act.put, List.setIfInBounds_toArray, List.set_cons_zero, List.set_cons_succ])
  refine' wpAnyH_take (i := 12) (oi := { dst := some 28, op := Go.Op.binOp Go.BinOp.eql 39 (Go.Operand.tmp 21) (Go.Operand.tmp 27) 39, type := 4, pos := "law.go:43", after := #[{ on := 5, ground := Go.Ground.data }, { on := 11, ground := Go.Ground.data }], guard := none }) (v := _) rfl (by kernel_rfl) (by kernel_rfl) (by kernel_rfl) (fun _ _ _ h => h) (Or.inl ⟨by rfl, ?hy11⟩) (by assumption) ?hr11
  case hy11 => (intro _ hSw; (try dsimp only at hSw); go_simp <;> with_reducible rfl)
  simp only [Act.put, List.setIfInBounds_toArray, List.set_cons_zero, List.set_cons_succ]
  refine' wpAnyH_take (i := 13) (oi := { dst := some 6, op := Go.Op.assign (Go.Operand.tmp 28), type := 4, pos := "law.go:43", after := #[{ on := 12, ground := Go.Ground.data }, { on := 11, ground := Go.Ground.chain }, { on := 0, ground := Go.Ground.phase }, { on := 1, ground := Go.Ground.phase }, { on := 2, ground := Go.Ground.phase }, { on := 3, ground := Go.Ground.phase }, { on := 4, ground := Go.Ground.phase }, { on := 5, ground := Go.Ground.phase }, { on := 6, ground := Go.Ground.phase }, { on := 7, ground := Go.Ground.phase }, { on := 8, ground := Go.Ground.phase }, { on := 9, ground := Go.Ground.phase }, { on := 10, ground := Go.Ground.phase }, { on := 11, ground := Go.Ground.phase }, { on := 12, ground := Go.Ground.phase }], guard := none }) (v := _) rfl (by kernel_rfl) (by kernel_rfl) (by kernel_rfl) (fun _ _ _ h => h) (Or.inl ⟨by rfl, ?hy12⟩) (by assumption) ?hr12
  case hy12 => (intro _ hSw; (try dsimp only at hSw); go_simp <;> with_reducible rfl)
  simp only [Act.put, List.setIfInBounds_toArray, List.set_cons_zero, List.set_cons_succ]
  refine wpAnyH_done (by kernel_rfl) ?_ _
  clear hHeld
  go_wp2
  go_ret
  exact ⟨rfl, H3.out.d⟩
set_option maxHeartbeats 4000000 in
set_option maxRecDepth 100000 in
theorem does_r1 (q d c : Nat) (o : Bool) (hq : q < 256) (hj : q % 8 = 1) (h : Duo w0 b k x x w) : Calls Try.prog 10 #[ptr b, ptr k.b, .agg #[oc q, oc d, oc c, .bool o]] w fun e w' => e = .returned (.bool true) ∧ Duo w0 b k (rS x d o) (rS x d o) w' := by
  have q8 : (q : Int) % 8 = 1 := by omega
  have q9 : (q : Int) < 256 := by omega
  have H1 := Lib.hid (Dc.made h #[oc q, oc d, oc c, .bool o])
  have CA := Lib.hid (fun w h => fR (b := b) (x := x) d o w h)
  have CB := Lib.hid (fun w h => rR (k := k) (x := x) d o w h)
  obtain ⟨y, hy⟩ : ∃ y, rS x d o = y := ⟨_, rfl⟩
  rw [hy] at CA CB ⊢
  obtain ⟨v, hv⟩ : ∃ v, rV d = v := ⟨_, rfl⟩
  rw [hv] at CA CB
  have zz : ((v : Int) == (v : Int)) = true := beq_self_eq_true _
  clear hv
  clear h hq hj hy
  go_enter Try.func10, Try.ntmps10
  go_wp2_with fail
  generalize w.alloc (.cells #[oc q, oc d, oc c, .bool o] CT) = w1 at H1 ⊢
  generalize w.heap.size = cb at H1 ⊢
  refine wp_region_held_drew (S := (fun w' => At w' cb #[oc q, oc d, oc c, .bool o] CT)) (by kernel_rfl) H1.out.c (fun hHeld => ?_)
  refine' wpAnyH_take (i := 0) (oi := { dst := some 32, op := Go.Op.move (Go.Operand.tmp 0), type := 24, pos := "law.go:45", after := #[], guard := none }) (v := _) rfl (by kernel_rfl) (by kernel_rfl) (by kernel_rfl) (fun _ _ _ h => h) (Or.inl ⟨by rfl, ?hy13⟩) (by assumption) ?hr13
  case hy13 => (intro _ hSw; (try dsimp only at hSw); go_simp <;> with_reducible rfl)
  simp only [Act.put, List.setIfInBounds_toArray, List.set_cons_zero, List.set_cons_succ]
  refine' wpAnyH_take (i := 1) (oi := { dst := some 33, op := Go.Op.fieldAddr 30 (Go.Operand.tmp 5) 1, type := 0, pos := "law.go:45", after := #[], guard := none }) (v := _) rfl (by kernel_rfl) (by kernel_rfl) (by kernel_rfl) (fun _ _ _ h => h) (Or.inl ⟨by rfl, ?hy14⟩) (by assumption) ?hr14
  case hy14 => (intro _ hSw; (try dsimp only at hSw); go_simp <;> with_reducible rfl)
  simp only [Act.put, List.setIfInBounds_toArray, List.set_cons_zero, List.set_cons_succ]
  refine' wpAnyH_take (i := 2) (oi := { dst := some 34, op := Go.Op.load 5 (Go.Operand.tmp 33), type := 5, pos := "law.go:45", after := #[{ on := 1, ground := Go.Ground.data }], guard := none }) (v := _) rfl (by kernel_rfl) (by kernel_rfl) (by kernel_rfl) (fun _ _ _ h => h) (Or.inl ⟨by rfl, ?hy15⟩) (by assumption) ?hr15
  case hy15 => (intro _ hSw; (try dsimp only at hSw); have b1 := At.cell hSw 1 _ rfl; have b2 := At.cell hSw 2 _ rfl; have b3 := At.cell hSw 3 _ rfl; go_simp <;> with_reducible rfl)
  simp only [Act.put, List.setIfInBounds_toArray, List.set_cons_zero, List.set_cons_succ]
  refine' wpAnyH_take (i := 3) (oi := { dst := some 35, op := Go.Op.fieldAddr 30 (Go.Operand.tmp 5) 3, type := 0, pos := "law.go:45", after := #[], guard := none }) (v := _) rfl (by kernel_rfl) (by kernel_rfl) (by kernel_rfl) (fun _ _ _ h => h) (Or.inl ⟨by rfl, ?hy16⟩) (by assumption) ?hr16
  case hy16 => (intro _ hSw; (try dsimp only at hSw); go_simp <;> with_reducible rfl)
  simp only [Act.put, List.setIfInBounds_toArray, List.set_cons_zero, List.set_cons_succ]
  refine' wpAnyH_take (i := 4) (oi := { dst := some 36, op := Go.Op.load 4 (Go.Operand.tmp 35), type := 4, pos := "law.go:45", after := #[{ on := 3, ground := Go.Ground.data }], guard := none }) (v := _) rfl (by kernel_rfl) (by kernel_rfl) (by kernel_rfl) (fun _ _ _ h => h) (Or.inl ⟨by rfl, ?hy17⟩) (by assumption) ?hr17
  case hy17 => (intro _ hSw; (try dsimp only at hSw); have b1 := At.cell hSw 1 _ rfl; have b2 := At.cell hSw 2 _ rfl; have b3 := At.cell hSw 3 _ rfl; go_simp <;> with_reducible rfl)
  simp only [Act.put, List.setIfInBounds_toArray, List.set_cons_zero, List.set_cons_succ]
  refine' wpAnyH_take (i := 6) (oi := { dst := some 38, op := Go.Op.move (Go.Operand.tmp 1), type := 26, pos := "law.go:45", after := #[], guard := none }) (v := _) rfl (by kernel_rfl) (by kernel_rfl) (by kernel_rfl) (fun _ _ _ h => h) (Or.inl ⟨by rfl, ?hy18⟩) (by assumption) ?hr18
  case hy18 => (intro _ hSw; (try dsimp only at hSw); go_simp <;> with_reducible rfl)
  simp only [Act.put, List.setIfInBounds_toArray, List.set_cons_zero, List.set_cons_succ]
  refine' wpAnyH_take (i := 7) (oi := { dst := some 39, op := Go.Op.fieldAddr 30 (Go.Operand.tmp 5) 1, type := 0, pos := "law.go:45", after := #[], guard := none }) (v := _) rfl (by kernel_rfl) (by kernel_rfl) (by kernel_rfl) (fun _ _ _ h => h) (Or.inl ⟨by rfl, ?hy19⟩) (by assumption) ?hr19
  case hy19 => (intro _ hSw; (try dsimp only at hSw); go_simp <;> with_reducible rfl)
  simp only [Act.put, List.setIfInBounds_toArray, List.set_cons_zero, List.set_cons_succ]
  refine' wpAnyH_take (i := 8) (oi := { dst := some 40, op := Go.Op.load 5 (Go.Operand.tmp 39), type := 5, pos := "law.go:45", after := #[{ on := 7, ground := Go.Ground.data }], guard := none }) (v := _) rfl (by kernel_rfl) (by kernel_rfl) (by kernel_rfl) (fun _ _ _ h => h) (Or.inl ⟨by rfl, ?hy20⟩) (by assumption) ?hr20
  case hy20 => (intro _ hSw; (try dsimp only at hSw); have b1 := At.cell hSw 1 _ rfl; have b2 := At.cell hSw 2 _ rfl; have b3 := At.cell hSw 3 _ rfl; go_simp <;> with_reducible rfl)
  simp only [Act.put, List.setIfInBounds_toArray, List.set_cons_zero, List.set_cons_succ]
  refine' wpAnyH_take (i := 9) (oi := { dst := some 41, op := Go.Op.fieldAddr 30 (Go.Operand.tmp 5) 3, type := 0, pos := "law.go:45", after := #[], guard := none }) (v := _) rfl (by kernel_rfl) (by kernel_rfl) (by kernel_rfl) (fun _ _ _ h => h) (Or.inl ⟨by rfl, ?hy21⟩) (by assumption) ?hr21
  case hy21 => (intro _ hSw; (try dsimp only at hSw); go_simp <;> with_reducible rfl)
  simp only [Act.put, List.setIfInBounds_toArray, List.set_cons_zero, List.set_cons_succ]
  refine' wpAnyH_take (i := 10) (oi := { dst := some 42, op := Go.Op.load 4 (Go.Operand.tmp 41), type := 4, pos := "law.go:45", after := #[{ on := 9, ground := Go.Ground.data }], guard := none }) (v := _) rfl (by kernel_rfl) (by kernel_rfl) (by kernel_rfl) (fun _ _ _ h => h) (Or.inl ⟨by rfl, ?hy22⟩) (by assumption) ?hr22
  case hy22 => (intro _ hSw; (try dsimp only at hSw); have b1 := At.cell hSw 1 _ rfl; have b2 := At.cell hSw 2 _ rfl; have b3 := At.cell hSw 3 _ rfl; go_simp <;> with_reducible rfl)
  simp only [Act.put, List.setIfInBounds_toArray, List.set_cons_zero, List.set_cons_succ]
  refine wpAnyH_ready (rs := [5]) (by kernel_rfl) (by simp) ?_
  refine AllReadyH.cons (o := { dst := some 37, op := Go.Op.call { callee := Go.Callee.value (Go.Operand.func 17), args := #[Go.Operand.tmp 32, Go.Operand.tmp 34, Go.Operand.tmp 36], argTypes := #[24, 5, 4] }, type := 39, pos := "law.go:45", after := #[{ on := 0, ground := Go.Ground.data }, { on := 2, ground := Go.Ground.data }, { on := 4, ground := Go.Ground.data }], guard := none }) rfl (fun K hK => ?_) AllReadyH.nil
  go_simp
  refine (CA.out _ H1.out.drew.d.one.q).mono ?_
  rintro _ w2 ⟨rfl, hq, hc⟩
  have H2 := Lib.hid (H1.out.drew.doA hq hc)
  clear hq hc H1 CA
  go_wp2_with fail
  refine hK.out _ _ H2.out.c (fun hNext => ?_)
  clear hK K hHeld
  have hHeld := hNext
  clear hNext
  (try simp only [Act.put, List.setIfInBounds_toArray, List.set_cons_zero, List.set_cons_succ])
  refine wpAnyH_ready (rs := [11]) (by kernel_rfl) (by simp) ?_
  refine AllReadyH.cons (o := { dst := some 43, op := Go.Op.call { callee := Go.Callee.value (Go.Operand.func 22), args := #[Go.Operand.tmp 38, Go.Operand.tmp 40, Go.Operand.tmp 42], argTypes := #[26, 5, 4] }, type := 39, pos := "law.go:45", after := #[{ on := 6, ground := Go.Ground.data }, { on := 8, ground := Go.Ground.data }, { on := 10, ground := Go.Ground.data }, { on := 5, ground := Go.Ground.chain }], guard := none }) rfl (fun K hK => ?_) AllReadyH.nil
  go_simp
  refine (CB.out _ H2.out.d.two).mono ?_
  rintro _ w3 ⟨rfl, hq, hc⟩
  have H3 := Lib.hid (H2.out.doB hq hc)
  clear hq hc H2 CB
  go_wp2_with fail
  refine hK.out _ _ H3.out.c (fun hNext => ?_)
  clear hK K hHeld
  have hHeld := hNext
  clear hNext
  (try simp only [Act.put, List.setIfInBounds_toArray, List.set_cons_zero, List.set_cons_succ])
  refine' wpAnyH_take (i := 12) (oi := { dst := some 44, op := Go.Op.binOp Go.BinOp.eql 39 (Go.Operand.tmp 37) (Go.Operand.tmp 43) 39, type := 4, pos := "law.go:45", after := #[{ on := 5, ground := Go.Ground.data }, { on := 11, ground := Go.Ground.data }], guard := none }) (v := _) rfl (by kernel_rfl) (by kernel_rfl) (by kernel_rfl) (fun _ _ _ h => h) (Or.inl ⟨by rfl, ?hy23⟩) (by assumption) ?hr23
  case hy23 => (intro _ hSw; (try dsimp only at hSw); go_simp <;> with_reducible rfl)
  simp only [Act.put, List.setIfInBounds_toArray, List.set_cons_zero, List.set_cons_succ]
  refine' wpAnyH_take (i := 13) (oi := { dst := some 6, op := Go.Op.assign (Go.Operand.tmp 44), type := 4, pos := "law.go:45", after := #[{ on := 12, ground := Go.Ground.data }, { on := 11, ground := Go.Ground.chain }, { on := 0, ground := Go.Ground.phase }, { on := 1, ground := Go.Ground.phase }, { on := 2, ground := Go.Ground.phase }, { on := 3, ground := Go.Ground.phase }, { on := 4, ground := Go.Ground.phase }, { on := 5, ground := Go.Ground.phase }, { on := 6, ground := Go.Ground.phase }, { on := 7, ground := Go.Ground.phase }, { on := 8, ground := Go.Ground.phase }, { on := 9, ground := Go.Ground.phase }, { on := 10, ground := Go.Ground.phase }, { on := 11, ground := Go.Ground.phase }, { on := 12, ground := Go.Ground.phase }], guard := none }) (v := _) rfl (by kernel_rfl) (by kernel_rfl) (by kernel_rfl) (fun _ _ _ h => h) (Or.inl ⟨by rfl, ?hy24⟩) (by assumption) ?hr24
  case hy24 => (intro _ hSw; (try dsimp only at hSw); go_simp <;> with_reducible rfl)
  simp only [Act.put, List.setIfInBounds_toArray, List.set_cons_zero, List.set_cons_succ]
  refine wpAnyH_done (by kernel_rfl) ?_ _
  clear hHeld
  go_wp2
  go_ret
  exact ⟨rfl, H3.out.d⟩
set_option maxHeartbeats 4000000 in
set_option maxRecDepth 100000 in
theorem does_r2 (q d c : Nat) (o : Bool) (hq : q < 256) (hj : q % 8 = 2) (h : Duo w0 b k x x w) : Calls Try.prog 10 #[ptr b, ptr k.b, .agg #[oc q, oc d, oc c, .bool o]] w fun e w' => e = .returned (.bool true) ∧ Duo w0 b k (rS x d o) (rS x d o) w' := by
  have q8 : (q : Int) % 8 = 2 := by omega
  have q9 : (q : Int) < 256 := by omega
  have H1 := Lib.hid (Dc.made h #[oc q, oc d, oc c, .bool o])
  have CA := Lib.hid (fun w h => fR (b := b) (x := x) d o w h)
  have CB := Lib.hid (fun w h => rR (k := k) (x := x) d o w h)
  obtain ⟨y, hy⟩ : ∃ y, rS x d o = y := ⟨_, rfl⟩
  rw [hy] at CA CB ⊢
  obtain ⟨v, hv⟩ : ∃ v, rV d = v := ⟨_, rfl⟩
  rw [hv] at CA CB
  have zz : ((v : Int) == (v : Int)) = true := beq_self_eq_true _
  clear hv
  clear h hq hj hy
  go_enter Try.func10, Try.ntmps10
  go_wp2_with fail
  generalize w.alloc (.cells #[oc q, oc d, oc c, .bool o] CT) = w1 at H1 ⊢
  generalize w.heap.size = cb at H1 ⊢
  refine wp_region_held_drew (S := (fun w' => At w' cb #[oc q, oc d, oc c, .bool o] CT)) (by kernel_rfl) H1.out.c (fun hHeld => ?_)
  refine' wpAnyH_take (i := 0) (oi := { dst := some 32, op := Go.Op.move (Go.Operand.tmp 0), type := 24, pos := "law.go:45", after := #[], guard := none }) (v := _) rfl (by kernel_rfl) (by kernel_rfl) (by kernel_rfl) (fun _ _ _ h => h) (Or.inl ⟨by rfl, ?hy25⟩) (by assumption) ?hr25
  case hy25 => (intro _ hSw; (try dsimp only at hSw); go_simp <;> with_reducible rfl)
  simp only [Act.put, List.setIfInBounds_toArray, List.set_cons_zero, List.set_cons_succ]
  refine' wpAnyH_take (i := 1) (oi := { dst := some 33, op := Go.Op.fieldAddr 30 (Go.Operand.tmp 5) 1, type := 0, pos := "law.go:45", after := #[], guard := none }) (v := _) rfl (by kernel_rfl) (by kernel_rfl) (by kernel_rfl) (fun _ _ _ h => h) (Or.inl ⟨by rfl, ?hy26⟩) (by assumption) ?hr26
  case hy26 => (intro _ hSw; (try dsimp only at hSw); go_simp <;> with_reducible rfl)
  simp only [Act.put, List.setIfInBounds_toArray, List.set_cons_zero, List.set_cons_succ]
  refine' wpAnyH_take (i := 2) (oi := { dst := some 34, op := Go.Op.load 5 (Go.Operand.tmp 33), type := 5, pos := "law.go:45", after := #[{ on := 1, ground := Go.Ground.data }], guard := none }) (v := _) rfl (by kernel_rfl) (by kernel_rfl) (by kernel_rfl) (fun _ _ _ h => h) (Or.inl ⟨by rfl, ?hy27⟩) (by assumption) ?hr27
  case hy27 => (intro _ hSw; (try dsimp only at hSw); have b1 := At.cell hSw 1 _ rfl; have b2 := At.cell hSw 2 _ rfl; have b3 := At.cell hSw 3 _ rfl; go_simp <;> with_reducible rfl)
  simp only [Act.put, List.setIfInBounds_toArray, List.set_cons_zero, List.set_cons_succ]
  refine' wpAnyH_take (i := 3) (oi := { dst := some 35, op := Go.Op.fieldAddr 30 (Go.Operand.tmp 5) 3, type := 0, pos := "law.go:45", after := #[], guard := none }) (v := _) rfl (by kernel_rfl) (by kernel_rfl) (by kernel_rfl) (fun _ _ _ h => h) (Or.inl ⟨by rfl, ?hy28⟩) (by assumption) ?hr28
  case hy28 => (intro _ hSw; (try dsimp only at hSw); go_simp <;> with_reducible rfl)
  simp only [Act.put, List.setIfInBounds_toArray, List.set_cons_zero, List.set_cons_succ]
  refine' wpAnyH_take (i := 4) (oi := { dst := some 36, op := Go.Op.load 4 (Go.Operand.tmp 35), type := 4, pos := "law.go:45", after := #[{ on := 3, ground := Go.Ground.data }], guard := none }) (v := _) rfl (by kernel_rfl) (by kernel_rfl) (by kernel_rfl) (fun _ _ _ h => h) (Or.inl ⟨by rfl, ?hy29⟩) (by assumption) ?hr29
  case hy29 => (intro _ hSw; (try dsimp only at hSw); have b1 := At.cell hSw 1 _ rfl; have b2 := At.cell hSw 2 _ rfl; have b3 := At.cell hSw 3 _ rfl; go_simp <;> with_reducible rfl)
  simp only [Act.put, List.setIfInBounds_toArray, List.set_cons_zero, List.set_cons_succ]
  refine' wpAnyH_take (i := 6) (oi := { dst := some 38, op := Go.Op.move (Go.Operand.tmp 1), type := 26, pos := "law.go:45", after := #[], guard := none }) (v := _) rfl (by kernel_rfl) (by kernel_rfl) (by kernel_rfl) (fun _ _ _ h => h) (Or.inl ⟨by rfl, ?hy30⟩) (by assumption) ?hr30
  case hy30 => (intro _ hSw; (try dsimp only at hSw); go_simp <;> with_reducible rfl)
  simp only [Act.put, List.setIfInBounds_toArray, List.set_cons_zero, List.set_cons_succ]
  refine' wpAnyH_take (i := 7) (oi := { dst := some 39, op := Go.Op.fieldAddr 30 (Go.Operand.tmp 5) 1, type := 0, pos := "law.go:45", after := #[], guard := none }) (v := _) rfl (by kernel_rfl) (by kernel_rfl) (by kernel_rfl) (fun _ _ _ h => h) (Or.inl ⟨by rfl, ?hy31⟩) (by assumption) ?hr31
  case hy31 => (intro _ hSw; (try dsimp only at hSw); go_simp <;> with_reducible rfl)
  simp only [Act.put, List.setIfInBounds_toArray, List.set_cons_zero, List.set_cons_succ]
  refine' wpAnyH_take (i := 8) (oi := { dst := some 40, op := Go.Op.load 5 (Go.Operand.tmp 39), type := 5, pos := "law.go:45", after := #[{ on := 7, ground := Go.Ground.data }], guard := none }) (v := _) rfl (by kernel_rfl) (by kernel_rfl) (by kernel_rfl) (fun _ _ _ h => h) (Or.inl ⟨by rfl, ?hy32⟩) (by assumption) ?hr32
  case hy32 => (intro _ hSw; (try dsimp only at hSw); have b1 := At.cell hSw 1 _ rfl; have b2 := At.cell hSw 2 _ rfl; have b3 := At.cell hSw 3 _ rfl; go_simp <;> with_reducible rfl)
  simp only [Act.put, List.setIfInBounds_toArray, List.set_cons_zero, List.set_cons_succ]
  refine' wpAnyH_take (i := 9) (oi := { dst := some 41, op := Go.Op.fieldAddr 30 (Go.Operand.tmp 5) 3, type := 0, pos := "law.go:45", after := #[], guard := none }) (v := _) rfl (by kernel_rfl) (by kernel_rfl) (by kernel_rfl) (fun _ _ _ h => h) (Or.inl ⟨by rfl, ?hy33⟩) (by assumption) ?hr33
  case hy33 => (intro _ hSw; (try dsimp only at hSw); go_simp <;> with_reducible rfl)
  simp only [Act.put, List.setIfInBounds_toArray, List.set_cons_zero, List.set_cons_succ]
  refine' wpAnyH_take (i := 10) (oi := { dst := some 42, op := Go.Op.load 4 (Go.Operand.tmp 41), type := 4, pos := "law.go:45", after := #[{ on := 9, ground := Go.Ground.data }], guard := none }) (v := _) rfl (by kernel_rfl) (by kernel_rfl) (by kernel_rfl) (fun _ _ _ h => h) (Or.inl ⟨by rfl, ?hy34⟩) (by assumption) ?hr34
  case hy34 => (intro _ hSw; (try dsimp only at hSw); have b1 := At.cell hSw 1 _ rfl; have b2 := At.cell hSw 2 _ rfl; have b3 := At.cell hSw 3 _ rfl; go_simp <;> with_reducible rfl)
  simp only [Act.put, List.setIfInBounds_toArray, List.set_cons_zero, List.set_cons_succ]
  refine wpAnyH_ready (rs := [5]) (by kernel_rfl) (by simp) ?_
  refine AllReadyH.cons (o := { dst := some 37, op := Go.Op.call { callee := Go.Callee.value (Go.Operand.func 17), args := #[Go.Operand.tmp 32, Go.Operand.tmp 34, Go.Operand.tmp 36], argTypes := #[24, 5, 4] }, type := 39, pos := "law.go:45", after := #[{ on := 0, ground := Go.Ground.data }, { on := 2, ground := Go.Ground.data }, { on := 4, ground := Go.Ground.data }], guard := none }) rfl (fun K hK => ?_) AllReadyH.nil
  go_simp
  refine (CA.out _ H1.out.drew.d.one.q).mono ?_
  rintro _ w2 ⟨rfl, hq, hc⟩
  have H2 := Lib.hid (H1.out.drew.doA hq hc)
  clear hq hc H1 CA
  go_wp2_with fail
  refine hK.out _ _ H2.out.c (fun hNext => ?_)
  clear hK K hHeld
  have hHeld := hNext
  clear hNext
  (try simp only [Act.put, List.setIfInBounds_toArray, List.set_cons_zero, List.set_cons_succ])
  refine wpAnyH_ready (rs := [11]) (by kernel_rfl) (by simp) ?_
  refine AllReadyH.cons (o := { dst := some 43, op := Go.Op.call { callee := Go.Callee.value (Go.Operand.func 22), args := #[Go.Operand.tmp 38, Go.Operand.tmp 40, Go.Operand.tmp 42], argTypes := #[26, 5, 4] }, type := 39, pos := "law.go:45", after := #[{ on := 6, ground := Go.Ground.data }, { on := 8, ground := Go.Ground.data }, { on := 10, ground := Go.Ground.data }, { on := 5, ground := Go.Ground.chain }], guard := none }) rfl (fun K hK => ?_) AllReadyH.nil
  go_simp
  refine (CB.out _ H2.out.d.two).mono ?_
  rintro _ w3 ⟨rfl, hq, hc⟩
  have H3 := Lib.hid (H2.out.doB hq hc)
  clear hq hc H2 CB
  go_wp2_with fail
  refine hK.out _ _ H3.out.c (fun hNext => ?_)
  clear hK K hHeld
  have hHeld := hNext
  clear hNext
  (try simp only [Act.put, List.setIfInBounds_toArray, List.set_cons_zero, List.set_cons_succ])
  refine' wpAnyH_take (i := 12) (oi := { dst := some 44, op := Go.Op.binOp Go.BinOp.eql 39 (Go.Operand.tmp 37) (Go.Operand.tmp 43) 39, type := 4, pos := "law.go:45", after := #[{ on := 5, ground := Go.Ground.data }, { on := 11, ground := Go.Ground.data }], guard := none }) (v := _) rfl (by kernel_rfl) (by kernel_rfl) (by kernel_rfl) (fun _ _ _ h => h) (Or.inl ⟨by rfl, ?hy35⟩) (by assumption) ?hr35
  case hy35 => (intro _ hSw; (try dsimp only at hSw); go_simp <;> with_reducible rfl)
  simp only [Act.put, List.setIfInBounds_toArray, List.set_cons_zero, List.set_cons_succ]
  refine' wpAnyH_take (i := 13) (oi := { dst := some 6, op := Go.Op.assign (Go.Operand.tmp 44), type := 4, pos := "law.go:45", after := #[{ on := 12, ground := Go.Ground.data }, { on := 11, ground := Go.Ground.chain }, { on := 0, ground := Go.Ground.phase }, { on := 1, ground := Go.Ground.phase }, { on := 2, ground := Go.Ground.phase }, { on := 3, ground := Go.Ground.phase }, { on := 4, ground := Go.Ground.phase }, { on := 5, ground := Go.Ground.phase }, { on := 6, ground := Go.Ground.phase }, { on := 7, ground := Go.Ground.phase }, { on := 8, ground := Go.Ground.phase }, { on := 9, ground := Go.Ground.phase }, { on := 10, ground := Go.Ground.phase }, { on := 11, ground := Go.Ground.phase }, { on := 12, ground := Go.Ground.phase }], guard := none }) (v := _) rfl (by kernel_rfl) (by kernel_rfl) (by kernel_rfl) (fun _ _ _ h => h) (Or.inl ⟨by rfl, ?hy36⟩) (by assumption) ?hr36
  case hy36 => (intro _ hSw; (try dsimp only at hSw); go_simp <;> with_reducible rfl)
  simp only [Act.put, List.setIfInBounds_toArray, List.set_cons_zero, List.set_cons_succ]
  refine wpAnyH_done (by kernel_rfl) ?_ _
  clear hHeld
  go_wp2
  go_ret
  exact ⟨rfl, H3.out.d⟩
set_option maxHeartbeats 4000000 in
set_option maxRecDepth 100000 in
theorem does_t (q d c : Nat) (o : Bool) (hq : q < 256) (hj : q % 8 = 3) (h : Duo w0 b k x x w) : Calls Try.prog 10 #[ptr b, ptr k.b, .agg #[oc q, oc d, oc c, .bool o]] w fun e w' => e = .returned (.bool true) ∧ Duo w0 b k (tS x d) (tS x d) w' := by
  have q8 : (q : Int) % 8 = 3 := by omega
  have q9 : (q : Int) < 256 := by omega
  have H1 := Lib.hid (Dc.made h #[oc q, oc d, oc c, .bool o])
  have CA := Lib.hid (fun w h => fT (b := b) (x := x) d w h)
  have CB := Lib.hid (fun w h => rT (k := k) (x := x) d w h)
  obtain ⟨y, hy⟩ : ∃ y, tS x d = y := ⟨_, rfl⟩
  rw [hy] at CA CB ⊢
  generalize x.may d = v at CA CB
  have zz : (v == v) = true := beq_self_eq_true _
  clear h hq hj hy
  go_enter Try.func10, Try.ntmps10
  go_wp2_with fail
  generalize w.alloc (.cells #[oc q, oc d, oc c, .bool o] CT) = w1 at H1 ⊢
  generalize w.heap.size = cb at H1 ⊢
  refine wp_region_held_drew (S := (fun w' => At w' cb #[oc q, oc d, oc c, .bool o] CT)) (by kernel_rfl) H1.out.c (fun hHeld => ?_)
  refine' wpAnyH_take (i := 0) (oi := { dst := some 47, op := Go.Op.move (Go.Operand.tmp 0), type := 24, pos := "law.go:47", after := #[], guard := none }) (v := _) rfl (by kernel_rfl) (by kernel_rfl) (by kernel_rfl) (fun _ _ _ h => h) (Or.inl ⟨by rfl, ?hy37⟩) (by assumption) ?hr37
  case hy37 => (intro _ hSw; (try dsimp only at hSw); go_simp <;> with_reducible rfl)
  simp only [Act.put, List.setIfInBounds_toArray, List.set_cons_zero, List.set_cons_succ]
  refine' wpAnyH_take (i := 1) (oi := { dst := some 48, op := Go.Op.fieldAddr 30 (Go.Operand.tmp 5) 1, type := 0, pos := "law.go:47", after := #[], guard := none }) (v := _) rfl (by kernel_rfl) (by kernel_rfl) (by kernel_rfl) (fun _ _ _ h => h) (Or.inl ⟨by rfl, ?hy38⟩) (by assumption) ?hr38
  case hy38 => (intro _ hSw; (try dsimp only at hSw); go_simp <;> with_reducible rfl)
  simp only [Act.put, List.setIfInBounds_toArray, List.set_cons_zero, List.set_cons_succ]
  refine' wpAnyH_take (i := 2) (oi := { dst := some 49, op := Go.Op.load 5 (Go.Operand.tmp 48), type := 5, pos := "law.go:47", after := #[{ on := 1, ground := Go.Ground.data }], guard := none }) (v := _) rfl (by kernel_rfl) (by kernel_rfl) (by kernel_rfl) (fun _ _ _ h => h) (Or.inl ⟨by rfl, ?hy39⟩) (by assumption) ?hr39
  case hy39 => (intro _ hSw; (try dsimp only at hSw); have b1 := At.cell hSw 1 _ rfl; have b2 := At.cell hSw 2 _ rfl; have b3 := At.cell hSw 3 _ rfl; go_simp <;> with_reducible rfl)
  simp only [Act.put, List.setIfInBounds_toArray, List.set_cons_zero, List.set_cons_succ]
  refine' wpAnyH_take (i := 4) (oi := { dst := some 51, op := Go.Op.move (Go.Operand.tmp 1), type := 26, pos := "law.go:47", after := #[], guard := none }) (v := _) rfl (by kernel_rfl) (by kernel_rfl) (by kernel_rfl) (fun _ _ _ h => h) (Or.inl ⟨by rfl, ?hy40⟩) (by assumption) ?hr40
  case hy40 => (intro _ hSw; (try dsimp only at hSw); go_simp <;> with_reducible rfl)
  simp only [Act.put, List.setIfInBounds_toArray, List.set_cons_zero, List.set_cons_succ]
  refine' wpAnyH_take (i := 5) (oi := { dst := some 52, op := Go.Op.fieldAddr 30 (Go.Operand.tmp 5) 1, type := 0, pos := "law.go:47", after := #[], guard := none }) (v := _) rfl (by kernel_rfl) (by kernel_rfl) (by kernel_rfl) (fun _ _ _ h => h) (Or.inl ⟨by rfl, ?hy41⟩) (by assumption) ?hr41
  case hy41 => (intro _ hSw; (try dsimp only at hSw); go_simp <;> with_reducible rfl)
  simp only [Act.put, List.setIfInBounds_toArray, List.set_cons_zero, List.set_cons_succ]
  refine' wpAnyH_take (i := 6) (oi := { dst := some 53, op := Go.Op.load 5 (Go.Operand.tmp 52), type := 5, pos := "law.go:47", after := #[{ on := 5, ground := Go.Ground.data }], guard := none }) (v := _) rfl (by kernel_rfl) (by kernel_rfl) (by kernel_rfl) (fun _ _ _ h => h) (Or.inl ⟨by rfl, ?hy42⟩) (by assumption) ?hr42
  case hy42 => (intro _ hSw; (try dsimp only at hSw); have b1 := At.cell hSw 1 _ rfl; have b2 := At.cell hSw 2 _ rfl; have b3 := At.cell hSw 3 _ rfl; go_simp <;> with_reducible rfl)
  simp only [Act.put, List.setIfInBounds_toArray, List.set_cons_zero, List.set_cons_succ]
  refine wpAnyH_ready (rs := [3]) (by kernel_rfl) (by simp) ?_
  refine AllReadyH.cons (o := { dst := some 50, op := Go.Op.call { callee := Go.Callee.value (Go.Operand.func 19), args := #[Go.Operand.tmp 47, Go.Operand.tmp 49], argTypes := #[24, 5] }, type := 4, pos := "law.go:47", after := #[{ on := 0, ground := Go.Ground.data }, { on := 2, ground := Go.Ground.data }], guard := none }) rfl (fun K hK => ?_) AllReadyH.nil
  go_simp
  refine (CA.out _ H1.out.drew.d.one.q).mono ?_
  rintro _ w2 ⟨rfl, hq, hc⟩
  have H2 := Lib.hid (H1.out.drew.doA hq hc)
  clear hq hc H1 CA
  go_wp2_with fail
  refine hK.out _ _ H2.out.c (fun hNext => ?_)
  clear hK K hHeld
  have hHeld := hNext
  clear hNext
  (try simp only [Act.put, List.setIfInBounds_toArray, List.set_cons_zero, List.set_cons_succ])
  refine wpAnyH_ready (rs := [7]) (by kernel_rfl) (by simp) ?_
  refine AllReadyH.cons (o := { dst := some 54, op := Go.Op.call { callee := Go.Callee.value (Go.Operand.func 23), args := #[Go.Operand.tmp 51, Go.Operand.tmp 53], argTypes := #[26, 5] }, type := 4, pos := "law.go:47", after := #[{ on := 4, ground := Go.Ground.data }, { on := 6, ground := Go.Ground.data }, { on := 3, ground := Go.Ground.chain }], guard := none }) rfl (fun K hK => ?_) AllReadyH.nil
  go_simp
  refine (CB.out _ H2.out.d.two).mono ?_
  rintro _ w3 ⟨rfl, hq, hc⟩
  have H3 := Lib.hid (H2.out.doB hq hc)
  clear hq hc H2 CB
  go_wp2_with fail
  refine hK.out _ _ H3.out.c (fun hNext => ?_)
  clear hK K hHeld
  have hHeld := hNext
  clear hNext
  (try simp only [Act.put, List.setIfInBounds_toArray, List.set_cons_zero, List.set_cons_succ])
  refine' wpAnyH_take (i := 8) (oi := { dst := some 55, op := Go.Op.binOp Go.BinOp.eql 4 (Go.Operand.tmp 50) (Go.Operand.tmp 54) 4, type := 4, pos := "law.go:47", after := #[{ on := 3, ground := Go.Ground.data }, { on := 7, ground := Go.Ground.data }], guard := none }) (v := _) rfl (by kernel_rfl) (by kernel_rfl) (by kernel_rfl) (fun _ _ _ h => h) (Or.inl ⟨by rfl, ?hy43⟩) (by assumption) ?hr43
  case hy43 => (intro _ hSw; (try dsimp only at hSw); go_simp <;> with_reducible rfl)
  simp only [Act.put, List.setIfInBounds_toArray, List.set_cons_zero, List.set_cons_succ]
  refine' wpAnyH_take (i := 9) (oi := { dst := some 6, op := Go.Op.assign (Go.Operand.tmp 55), type := 4, pos := "law.go:47", after := #[{ on := 8, ground := Go.Ground.data }, { on := 7, ground := Go.Ground.chain }, { on := 0, ground := Go.Ground.phase }, { on := 1, ground := Go.Ground.phase }, { on := 2, ground := Go.Ground.phase }, { on := 3, ground := Go.Ground.phase }, { on := 4, ground := Go.Ground.phase }, { on := 5, ground := Go.Ground.phase }, { on := 6, ground := Go.Ground.phase }, { on := 7, ground := Go.Ground.phase }, { on := 8, ground := Go.Ground.phase }], guard := none }) (v := _) rfl (by kernel_rfl) (by kernel_rfl) (by kernel_rfl) (fun _ _ _ h => h) (Or.inl ⟨by rfl, ?hy44⟩) (by assumption) ?hr44
  case hy44 => (intro _ hSw; (try dsimp only at hSw); go_simp <;> with_reducible rfl)
  simp only [Act.put, List.setIfInBounds_toArray, List.set_cons_zero, List.set_cons_succ]
  refine wpAnyH_done (by kernel_rfl) ?_ _
  clear hHeld
  go_wp2
  go_ret
  exact ⟨rfl, H3.out.d⟩
set_option maxHeartbeats 4000000 in
set_option maxRecDepth 100000 in
theorem does_p (q d c : Nat) (o : Bool) (hq : q < 256) (hj : 4 ≤ q % 8) (h : Duo w0 b k x x w) : Calls Try.prog 10 #[ptr b, ptr k.b, .agg #[oc q, oc d, oc c, .bool o]] w fun e w' => e = .returned (.bool true) ∧ Duo w0 b k x.pick x.pick w' := by
  obtain ⟨j, hj8⟩ : ∃ j, q % 8 = j := ⟨_, rfl⟩
  have q8 : (q : Int) % 8 = (j : Int) := by omega
  have q9 : (q : Int) < 256 := by omega
  have t0 : ((j : Int) == 0) = false := beq_false (by omega)
  have t1 : ((j : Int) == 1) = false := beq_false (by omega)
  have t2 : ((j : Int) == 2) = false := beq_false (by omega)
  have t3 : ((j : Int) == 3) = false := beq_false (by omega)
  have s0 : ¬ (j : Int) = 0 := by omega
  have s1 : ¬ (j : Int) = 1 := by omega
  have s2 : ¬ (j : Int) = 2 := by omega
  have s3 : ¬ (j : Int) = 3 := by omega
  have H1 := Lib.hid (Dc.made h #[oc q, oc d, oc c, .bool o])
  clear h hq hj hj8
  have CA := Lib.hid (fun w h => fpick (w := w) (b := b) (x := x) h)
  have CB := Lib.hid (fun w h => rpick (w := w) (k := k) (x := x) h)
  generalize x.pd = v1 at CA CB
  generalize x.pb = v2 at CA CB
  have zz : ((v1 : Int) == (v1 : Int)) = true := beq_self_eq_true _
  have zz2 : (v2 == v2) = true := beq_self_eq_true _
  go_enter Try.func10, Try.ntmps10
  go_wp2_with fail
  generalize w.alloc (.cells #[oc q, oc d, oc c, .bool o] CT) = w1 at H1 ⊢
  refine (CA.out _ H1.out.d.one.q).mono ?_
  rintro _ w2 ⟨rfl, hq, hc⟩
  have H2 := Lib.hid (H1.out.doA hq hc)
  clear hq hc H1 CA
  go_wp2_with fail
  refine (CB.out _ H2.out.d.two).mono ?_
  rintro _ w3 ⟨rfl, hq, hc⟩
  have H3 := Lib.hid (H2.out.doB hq hc)
  clear hq hc H2 CB
  go_wp2
  go_ret
  exact ⟨rfl, H3.out.d⟩
theorem fdoes (y : Ct) (hf : y.k < 256) (h : Duo w0 b k x x w) : Calls Try.prog 10 #[ptr b, ptr k.b, .agg #[oc y.k, oc y.d, oc y.c, .bool y.o]] w fun e w' => e = .returned (.bool true) ∧ Duo w0 b k (x.step y) (x.step y) w' := by
  unfold St.step
  by_cases h0 : y.k % 8 = 0
  · rw [if_pos h0]; exact does_c y.k y.d y.c y.o hf h0 h
  rw [if_neg h0]
  by_cases h1 : y.k % 8 ≤ 2
  · rw [if_pos h1]
    by_cases h2 : y.k % 8 = 1
    · exact does_r1 y.k y.d y.c y.o hf h2 h
    · exact does_r2 y.k y.d y.c y.o hf (by omega) h
  rw [if_neg h1]
  by_cases h3 : y.k % 8 = 3
  · rw [if_pos h3]; exact does_t y.k y.d y.c y.o hf h3 h
  rw [if_neg h3]
  exact does_p y.k y.d y.c y.o hf (by omega) h
end
end Go.Proofs.Ytiicgfkcjpeiiaa.Pi
