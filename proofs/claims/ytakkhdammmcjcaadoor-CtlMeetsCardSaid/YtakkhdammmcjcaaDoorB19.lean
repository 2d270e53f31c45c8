/-
  Layer 22, put together: CtlPask, CtlTick (what each says stands ahead of it). Conditions: as each names them.
-/
import Derived.Test.YtakkhdammmcjcaaDoorB16
import Derived.Test.YtakkhdammmcjcaaDoorB17
import Derived.Test.YtakkhdammmcjcaaDoorB18
import Derived.Test.YtakkhdammmcjcaaDoorB15
import Derived.Lib.MinMax
/-
  What the program's Ask answers, and leaves. Condition: it lies where it says.
-/
namespace Go.Proofs.YtakkhdammmcjcaaDoor.Ctl
open Go.RowKit Go.Proofs.YtakkhdammmcjcaaDoor.Base Go.Proofs.YtakkhdammmcjcaaDoor.Mem Go.Proofs.YtakkhdammmcjcaaDoor.Msgs Go.Proofs.YtakkhdammmcjcaaDoor.Cr
set_option maxRecDepth 100000
section
variable {ops : Array Oper} {a : Act} {w : World} {K : Act → World → Prop} {Q : Exit → Act → World → Prop} {X : Prop} {d : Option Tmp} {x y : Operand} {ty : TypeId} {pos : String} {af : Array Edge} {T b : Nat} {m : Ms} {t : TypeId}
/-- A slice literal, in a region that draws. -/
theorem bsk {z len : Nat} {S e : Nat} {zc : Array Value} {parts : Array (Nat × Operand)} (cells : Array Value) (hu : Tryd.prog.underlying S = some (.slice e)) (he : (Tryd.prog.info? e).map (fun i => (i.zero, i.size)) = some (some (.agg zc), z)) (hl : 0 < len ∧ len ≤ 100) (hz : 0 < z ∧ z ≤ 100)
    (hf : Instr.fill (fun i => some (i * z, z)) ((Array.range (len * z)).map (zc[· % zc.size]!)) (parts.map fun (i, x) => (i, a.eval x)).toList = some cells)
    (k : ∀ (b : Nat) (w' : World), w'.heap[b]? = some (.cells cells e (0, 0)) → Fresh b w w' → K (a.put d (.slice (some ⟨b, 0, none⟩) len len)) w') :
    if Region.wanted { dst := d, op := .buildSlice S len parts, type := ty, pos := pos, after := af, guard := none } (yielded ops a.tmps) = true then Oper.wp Tryd.prog { dst := d, op := .buildSlice S len parts, type := ty, pos := pos, after := af, guard := none } a w K Q else X := by
  rw [if_pos (by simp [Region.wanted])]
  cases hq : Tryd.prog.info? e with
  | none => simp [hq] at he
  | some i =>
    simp only [hq, Option.map_some, Option.some.injEq, Prod.mk.injEq] at he
    have hm : len * z ≤ 100 * 100 := Nat.mul_le_mul hl.2 hz.2
    have hp : 0 < len * z := Nat.mul_pos hl.1 hz.1
    refine wp_buildSlice S e len parts rfl cells i (.agg zc) hu hq he.1 (by rw [he.2]; omega) (by rw [he.2]; omega) (by rw [he.2]; exact hf) ?_
    exact k w.heap.size (w.alloc (.cells cells e (0, 0))) (nest w [_] 0 _ rfl) (fresh_alloc w _)
theorem bdk {ops : Nat} {g : Option (Nat × Bool)} {parts : Array (Nat × Operand)} {ρ : Operand → Value} (cs : Array Value) (_ : ops = ops) (hb : Tryd.prog.built T (parts.map fun (i, x) => (i, ρ x)).toList = some cs) :
    (execOp ρ { dst := d, op := .build T parts, type := ty, pos := pos, after := af, guard := g }).run Tryd.prog w = .ok (.value (.agg cs)) w := by
  unfold execOp
  simp only [Sem.run_bind, run_build w T _ cs hb, Sem.run_pure, Result.andThen_ok]
end
theorem row_ofk {w : World} {b : Nat} {vs : List Value} {t : TypeId} (h : w.heap[b]? = some (.cells vs.toArray t (0, 0))) : ∀ j, j < vs.length → w.cell? ⟨b, j, none⟩ = vs[j]? := fun j hj => by
  rw [cell_of h (v := vs[j]) (by simp [hj]), List.getElem?_eq_getElem hj]
section
variable {w w' u u' : World} {c base b3 : Nat} {a b t n : Int} {va vc v : Value} {x : Ct} {m : Ms} {l L : List Wt}
/-- The commands' row was written, or lies elsewhere now, and is stored. -/
structure Pc (u : World) (c base : Nat) (a b t n : Int) (va vc vc' : Value) (y : Ct) (u' : World) : Prop where
  p : P (u'.setCell ⟨c, 5, none⟩ vc') c base a b t n va vc' y
  sub : ∀ k, PS c va vc' k → PS c va vc k ∨ u.heap.size ≤ k
  chg : Chg (PS c va vc) u (u'.setCell ⟨c, 5, none⟩ vc')
  c5 : u'.cell? ⟨c, 5, none⟩ = some vc
  fr : ∀ i, u'.frozen? ⟨c, i, none⟩ = false
  lt : c < u'.heap.size
theorem P.put_cs {vc' : Value} (h : P w c base a b t n va vc x) (ho : OwnS KT 22 kl w' base vc' l) (hc : Chg (fun k => vc.ownBlock = some k) w w') (hv : ∀ k, vc'.ownBlock = some k → vc.ownBlock = some k ∨ w.heap.size ≤ k) (hok : ({ x with cs := l } : Ct).Ok) (hs : Sd { x with cs := l }) : Pc w c base a b t n va vc vc' { x with cs := l } w' := by
  have hd : At w' c #[im a, im b, im t, im n, va, vc] CT := h.hd.other hc fun e => (h.cs_ne e).1 rfl
  have han : OwnS AT 2 al w' base va x.an := row_keep h.an fun k hk => hc.block k (h.an.lt k hk).2 (h.an_ne hk).2
  have htb : Tab w' := tab_eqv h.tab (hc.block TB h.tb_lt fun e => by have := (h.own_lt TB (.inr (.inr e))).1; have := h.tb; omega)
  have hlo := h.lo
  have htl := h.tb
  refine ⟨⟨hd.set 5 vc', row_keep han fun g hg => set_other (fun e => ?_) _, row_keep ho fun g hg => set_other (fun e => ?_) _, h.lo, tab_eqv htb (set_other (fun e => by omega) _), h.tb, ⟨h.raw.rn, h.raw.rk, h.raw.rt, h.raw.rm⟩, hs, hok⟩, fun k hk => ?_, (hc.mono fun _ e => .inr (.inr e)).setCell c 5 vc' fun _ => .inl rfl, hd.cell 5 _ rfl, hd.free, hd.lt⟩
  · obtain ⟨cs, hb⟩ := row_blk han hg
    exact type_ne hb hd (by decide) e
  · obtain ⟨cs, hb⟩ := row_blk ho hg
    exact type_ne hb hd (by decide) e
  · rcases hk with hk | hk | hk
    · exact .inl (.inl hk)
    · exact .inl (.inr (.inl hk))
    · rcases hv k hk with e | e
      · exact .inl (.inr (.inr e))
      · exact .inr e
/-- Within Ask: what is left of the commands; the message in its box. -/
structure Ak (w : World) (base b3 : Nat) (vc : Value) (m : Ms) (v : Value) (L : List Wt) (u : World) : Prop where
  own : OwnS KT 22 kl u base v L
  chg : Chg (fun k => vc.ownBlock = some k) w u
  h3 : u.heap[b3]? = some (mO m MT)
  sub : ∀ k, v.ownBlock = some k → vc.ownBlock = some k ∨ w.heap.size ≤ k
  base_lt : base ≤ w.heap.size
theorem Ak.on (h : Ak w base b3 vc m v L u) (hb : Below u.heap.size u u') : Ak w base b3 vc m v L u' := ⟨h.own.below hb, h.chg.on hb, stays h.h3 hb, h.sub, h.base_lt⟩
theorem Ak.le {b7 : Nat} (h : Ak w base b3 vc m v L u) (F : Fresh b7 u u') : w.heap.size ≤ b7 := by rw [F.eq]; exact h.chg.size
theorem Ak.base_le (h : Ak w base b3 vc m v L u) : base ≤ u.heap.size := Nat.le_trans h.base_lt h.chg.size
theorem Ak.c5 (h : Ak w base b3 vc m v L u) (hp : P w c base a b t n va vc x) : u.cell? ⟨c, 5, none⟩ = some vc ∧ (∀ i, u.frozen? ⟨c, i, none⟩ = false) ∧ c < u.heap.size := by
  have hd : At u c #[im a, im b, im t, im n, va, vc] CT := hp.hd.other h.chg fun e => (hp.cs_ne e).1 rfl
  exact ⟨hd.cell 5 _ rfl, hd.free, hd.lt⟩
theorem Ak.del (h : Ak w base b3 vc m vc l u) (hn : l.length ≤ 1000) (hl : ∀ y ∈ l, y.m.In) (hm : m.In) : Calls Tryd.prog 23 #[vc, .func (.func 21) #[] #[ptr b3]] u fun e u' => ∃ ov nv cv, e = .returned (.slice ov nv cv) ∧ Ak w base b3 vc m (.slice ov nv cv) (l.filter fun y => !same y.m m) u' ∧ Chg (fun k => vc.ownBlock = some k) u u' := by
  refine (fdelf h.own hn hl hm h.h3).mono fun e u' ⟨v', e1, hG1, hG2, hG3⟩ => ?_
  obtain ⟨ov, cv, rfl, _⟩ := row_form hG1
  have hs : ∀ k, (Value.slice ov (List.filter (fun y => !same y.m m) l).length cv).ownBlock = some k → vc.ownBlock = some k ∨ w.heap.size ≤ k := fun k hk => .inl (by rw [hG3] at hk; exact hk)
  have h3 : u'.heap[b3]? = some (mO m MT) := hG2.stays h.h3 fun e => by
    obtain ⟨cs, hb⟩ := row_blk h.own e
    exact type_ne h.h3 hb (by decide) rfl
  exact ⟨ov, _, cv, e1, ⟨hG1, h.chg.then hG2, h3, hs, h.base_lt⟩, hG2⟩
/-- What an append to the commands leaves, once it is stored. -/
structure Ae (w : World) (c base b3 : Nat) (a b t n : Int) (va vc : Value) (x : Ct) (m : Ms) (v2 : Value) (u : World) : Prop where
  pc : Pc w c base a b t n va vc v2 x u
  c5 : u.cell? ⟨c, 5, none⟩ = some vc
  fr : ∀ i, u.frozen? ⟨c, i, none⟩ = false
  lt : c < u.heap.size
  h3 : u.heap[b3]? = some (mO m MT)
  h3' : (u.setCell ⟨c, 5, none⟩ v2).heap[b3]? = some (mO m MT)
theorem Ak.put {v2 : Value} {l2 : List Wt} (h : Ak w base b3 vc m v L u) (hp : P w c base a b t n va vc x) (h3n : ¬ PS c va vc b3) (ho : OwnS KT 22 kl u' base v2 l2) (hg : u.grownBy u' v.ownBlock) (hv : v2.ownBlock = v.ownBlock ∨ v2.ownBlock = some u.heap.size) (hok : ({ x with cs := l2 } : Ct).Ok) (hs : Sd { x with cs := l2 }) : Ae w c base b3 a b t n va vc { x with cs := l2 } m v2 u' := by
  have hsz := h.chg.size
  have hcg : Chg (fun k => vc.ownBlock = some k) w u' := h.chg.grown hg fun k hk hlt => by
    rcases h.sub k hk with e | e
    · exact e
    · omega
  have hsub : ∀ k, v2.ownBlock = some k → vc.ownBlock = some k ∨ w.heap.size ≤ k := fun k hk => by
    rcases hv with e | e
    · exact h.sub k (by rw [← e]; exact hk)
    · rw [e] at hk
      cases hk
      exact .inr hsz
  have hpc := hp.put_cs ho hcg hsub hok hs
  have h3 : u'.heap[b3]? = some (mO m MT) := by
    have hlt := lt_heap h.h3
    refine (Chg.of_grown (S := fun k => v.ownBlock = some k) hg fun k hk => hk).stays h.h3 fun e => ?_
    obtain ⟨cs, hb⟩ := row_blk h.own e
    exact type_ne h.h3 hb (by decide) rfl
  exact ⟨hpc, hpc.c5, hpc.fr, hpc.lt, h3, (set_other (fun e => h3n (.inl e)) _).trans h3⟩
theorem Ae.px {v2 : Value} {w0 : World} (h : Ae w c base b3 a b t n va vc x m v2 u) (hb : Below w0.heap.size w0 w) : Px w0 c base a b t n va vc x (u.setCell ⟨c, 5, none⟩ v2) :=
  ⟨⟨_, _, h.pc.p, fun k hk => by
    rcases h.pc.sub k hk with e | e
    · exact .inl e
    · exact .inr (Nat.le_trans hb.size e)⟩, (Chg.of_below hb).then h.pc.chg⟩
set_option maxHeartbeats 16000000 in
theorem fask (h : P w c base a b t n va vc x) (m : Ms) (hm : m.In) (hmb : m.b.size ≤ 281474976710656) : Calls Tryd.prog 8 #[ptr c, mv m] w fun e w' => e = .returned (nm (askE m)) ∧ Px w c base a b t n va vc (x.ask m) w' := by
  have cm := fun w ht => fmayAsk m hm hmb w ht
  have HP := Lib.hid h
  have hx := h.ok
  cases h1 : mayAsk m with
  | false =>
    have e1 : askE m = 2 := by unfold askE; rw [h1]; rfl
    have e2 : x.ask m = x := by unfold Ct.ask; rw [h1]; rfl
    rw [e1, e2]
    rw [h1] at cm
    have CM := Lib.hid cm
    clear cm h1 e1 e2 hx h
    go_enter Tryd.func8, Tryd.ntmps8
    go_wp2_with (first
      | ((with_reducible refine bxm (m := m) ?hx ?_); (case hx => rfl); intro b3 w1 h F0; have HP1 := Lib.hid (HP.out.below F0.below); have H3 := Lib.hid h; have B1 := Lib.hid F0.below; have N3 := Lib.hid (HP.out.not_new (k := b3) (by rw [F0.eq]; exact Nat.le_refl _)); have L3 := Lib.hid F0.eq; clear h F0)
      | ((with_reducible refine ldm isM H3.out ?hx ?_); (case hx => rfl))
      | (go_at_call 19; ((with_reducible refine (CM.out _ HP1.out.tab).mono ?_); rintro e w2 ⟨rfl, hb⟩; have HP2 := Lib.hid (HP1.out.below hb); have H32 := Lib.hid (stays H3.out hb); have B2 := Lib.hid (below_on B1.out hb); obtain ⟨d0, d1, d2, d3, d4, d5⟩ := lay H32.out; clear hb H3 HP1 B1)))
    go_ret
    exact ⟨rfl, HP.out.px_below B2.out⟩
  | true =>
    have e1 : askE m = 0 := by unfold askE; rw [h1]; rfl
    have e2 : x.ask m = { x with cs := put x.cs m } := by unfold Ct.ask; rw [h1]; rfl
    have hok := hx.ask hm
    rw [e2] at hok
    rw [e1, e2]
    rw [h1] at cm
    have CM := Lib.hid cm
    have CL := Lib.hid (fun w => Tlv.clone m.b w hmb)
    have hfew := hx.cs_few
    obtain ⟨L9, hL9⟩ : ∃ L9, x.cs.filter (fun y => !same y.m m) = L9 := ⟨_, rfl⟩
    have hput : put x.cs m = L9 ++ [fresh m] := by rw [← hL9]; rfl
    rw [hput] at hok ⊢
    have hsd : Sd { x with cs := L9 ++ [fresh m] } := fun y hy => by
      rcases List.mem_append.1 hy with hy | hy
      · rw [← hL9] at hy
        exact h.sd y (List.mem_filter.1 hy).1
      · rw [List.mem_singleton.1 hy]; rfl
    have HX := Lib.hid (And.intro hok hsd)
    have HL9 : Hid (L9.length + 1 ≤ 1000000) := Lib.hid (by
      have := List.length_filter_le (fun y : Wt => !same y.m m) x.cs
      rw [hL9] at this
      omega)
    have VN : Hid (∀ k, w.heap.size ≤ k → ¬ vc.ownBlock = some k) := Lib.hid fun k hk e => by have := (h.own_lt k (.inr (.inr e))).2; omega
    have CD : Hid (∀ {b3 : Nat} {w5 : World} (u : World), Ak w5 base b3 vc m vc x.cs u → Calls Tryd.prog 23 #[vc, .func (.func 21) #[] #[ptr b3]] u fun e u' => ∃ ov nv cv, e = .returned (.slice ov nv cv) ∧ Ak w5 base b3 vc m (.slice ov nv cv) L9 u' ∧ Chg (fun k => vc.ownBlock = some k) u u') := Lib.hid fun u hu => by
      have := hu.del (by omega) (fun y hy => (hx.cs y hy).in_) hm
      rw [hL9] at this
      exact this
    obtain ⟨oc, cc, rfl, _⟩ := row_form h.cs
    generalize hnc : x.cs.length = nc at *
    clear cm h1 e1 e2 hok hsd hput hL9 hfew h hx hm hnc
    go_enter Tryd.func8, Tryd.ntmps8
    go_wp2_with (first
      | ((with_reducible refine bxm (m := m) ?hx ?_); (case hx => rfl); intro b3 w1 h F0; have HP1 := Lib.hid (HP.out.below F0.below); have H3 := Lib.hid h; have B1 := Lib.hid F0.below; have N3 := Lib.hid (HP.out.not_new (k := b3) (by rw [F0.eq]; exact Nat.le_refl _)); have L3 := Lib.hid F0.eq; clear h F0)
      | ((with_reducible refine ldm isM H3.out ?hx ?_); (case hx => rfl))
      | (go_at_call 19; ((with_reducible refine (CM.out _ HP1.out.tab).mono ?_); rintro e w2 ⟨rfl, hb⟩; have HP2 := Lib.hid (HP1.out.below hb); have H32 := Lib.hid (stays H3.out hb); have B2 := Lib.hid (below_on B1.out hb); obtain ⟨d0, d1, d2, d3, d4, d5⟩ := lay H32.out; clear hb H3 HP1 B1))
      | (go_at_call 20; ((with_reducible refine (CL.out _).mono ?_); rintro e w4 ⟨rfl, hb⟩; have HP4 := Lib.hid (HP2.out.below hb); have H34 := Lib.hid (stays H32.out hb); have B4 := Lib.hid (below_on B2.out hb); clear hb H32 HP2 B2 d0 d1 d2 d3 d4 d5))
      | ((with_reducible refine stb (z := m.b) H34.out ?hx ?hy ?_); (case hx => rfl); (case hy => rfl); intro w5 h5 M5; have HP5 := Lib.hid (HP4.out.mod M5 N3.out (fun e => by have h1 := L3.out; have h2 := HP.out.tb_lt; omega)); have H35 : Hid (w5.heap[b3]? = some (mO m MT)) := Lib.hid h5; have B5 := Lib.hid (M5.below B4.out (by rw [L3.out]; exact Nat.le_refl _)); clear h5 M5 H34 HP4 B4))
    have HA := Lib.hid (show Ak w5 base b3 (.slice oc nc cc) m (.slice oc nc cc) x.cs w5.drew from ⟨HP5.out.cs.below ⟨rfl, rfl, rfl, Nat.le_refl _, fun _ _ => rfl⟩, (Chg.refl _ _).drew, H35.out, fun k hk => .inl hk, Nat.le_trans HP5.out.lo (Nat.le_of_lt HP5.out.hd.lt)⟩)
    replace VN : Hid (∀ k, w5.heap.size ≤ k → ¬ (Value.slice oc nc cc).ownBlock = some k) := Lib.hid fun k hk => VN.out k (Nat.le_trans B5.out.size hk)
    clear H35 CM CL L3 HP
    refine wp_region_held_drew (S := (fun w' => w'.heap[b3]? = some (mO m MT))) (by kernel_rfl) HA.out.h3 (fun hHeld => ?_)
    refine' wpAnyH_take (i := 0) (oi := { dst := some 18, op := Go.Op.move (Go.Operand.tmp 0), type := 26, pos := "ctl.go:64", after := #[], guard := none }) (v := _) rfl (by kernel_rfl) (by kernel_rfl) (by kernel_rfl) (fun _ _ _ h => h) (Or.inl ⟨by rfl, ?hy1⟩) (by assumption) ?hr1
    case hy1 => (intro _ hSw; (try dsimp only at hSw); go_simp <;> with_reducible rfl)
    simp only [Act.put, List.setIfInBounds_toArray, List.set_cons_zero, List.set_cons_succ]
    refine' wpAnyH_take (i := 1) (oi := { dst := some 19, op := Go.Op.move (Go.Operand.tmp 0), type := 26, pos := "ctl.go:64", after := #[], guard := none }) (v := _) rfl (by kernel_rfl) (by kernel_rfl) (by kernel_rfl) (fun _ _ _ h => h) (Or.inl ⟨by rfl, ?hy2⟩) (by assumption) ?hr2
    case hy2 => (intro _ hSw; (try dsimp only at hSw); go_simp <;> with_reducible rfl)
    simp only [Act.put, List.setIfInBounds_toArray, List.set_cons_zero, List.set_cons_succ]
    refine' wpAnyH_take (i := 2) (oi := { dst := some 20, op := Go.Op.nilCheck (Go.Operand.tmp 19), type := 0, pos := "ctl.go:64", after := #[{ on := 1, ground := Go.Ground.data }], guard := none }) (v := _) rfl (by kernel_rfl) (by kernel_rfl) (by kernel_rfl) (fun _ _ _ h => h) (Or.inl ⟨by rfl, ?hy3⟩) (by assumption) ?hr3
    case hy3 => (intro _ hSw; (try dsimp only at hSw); go_simp <;> with_reducible rfl)
    simp only [Act.put, List.setIfInBounds_toArray, List.set_cons_zero, List.set_cons_succ]
    refine' wpAnyH_take (i := 3) (oi := { dst := some 21, op := Go.Op.fieldAddr 65 (Go.Operand.tmp 20) 5, type := 0, pos := "ctl.go:64", after := #[{ on := 2, ground := Go.Ground.data }], guard := none }) (v := _) rfl (by kernel_rfl) (by kernel_rfl) (by kernel_rfl) (fun _ _ _ h => h) (Or.inl ⟨by rfl, ?hy4⟩) (by assumption) ?hr4
    case hy4 => (intro _ hSw; (try dsimp only at hSw); go_simp <;> with_reducible rfl)
    simp only [Act.put, List.setIfInBounds_toArray, List.set_cons_zero, List.set_cons_succ]
    refine' wpAnyH_take (i := 5) (oi := { dst := some 23, op := Go.Op.move (Go.Operand.tmp 5), type := 70, pos := "ctl.go:64", after := #[], guard := none }) (v := _) rfl (by kernel_rfl) (by kernel_rfl) (by kernel_rfl) (fun _ _ _ h => h) (Or.inl ⟨by rfl, ?hy5⟩) (by assumption) ?hr5
    case hy5 => (intro _ hSw; (try dsimp only at hSw); go_simp <;> with_reducible rfl)
    simp only [Act.put, List.setIfInBounds_toArray, List.set_cons_zero, List.set_cons_succ]
    refine' wpAnyH_take (i := 7) (oi := { dst := some 25, op := Go.Op.load 35 (Go.Operand.tmp 3), type := 35, pos := "ctl.go:64", after := #[], guard := none }) (v := _) rfl (by kernel_rfl) (by kernel_rfl) (by kernel_rfl) (fun _ _ _ h => h) (Or.inl ⟨by rfl, ?hy6⟩) (by assumption) ?hr6
    case hy6 => (intro _ hSw; (try dsimp only at hSw); refine ex_ld isM hSw ?_; rfl)
    simp only [Act.put, List.setIfInBounds_toArray, List.set_cons_zero, List.set_cons_succ]
    refine' wpAnyH_take (i := 8) (oi := { dst := some 26, op := Go.Op.build 68 #[(0, Go.Operand.tmp 25)], type := 68, pos := "ctl.go:64", after := #[{ on := 7, ground := Go.Ground.data }], guard := none }) (v := _) rfl (by kernel_rfl) (by kernel_rfl) (by kernel_rfl) (fun _ _ _ h => h) (Or.inl ⟨by rfl, ?hy7⟩) (by assumption) ?hr7
    case hy7 => (intro _ hSw; (try dsimp only at hSw); refine bdk (ops := 0) (kc (fresh m)) rfl ?_; kernel_rfl)
    simp only [Act.put, List.setIfInBounds_toArray, List.set_cons_zero, List.set_cons_succ]
    refine wpAnyH_ready (rs := [4, 9]) (by kernel_rfl) (by simp) ?_
    refine AllReadyH.cons (o := { dst := some 22, op := Go.Op.load 63 (Go.Operand.tmp 21), type := 63, pos := "ctl.go:64", after := #[{ on := 3, ground := Go.Ground.data }], guard := none }) rfl (fun K hK => ?_) (AllReadyH.cons (o := { dst := some 27, op := Go.Op.buildSlice 63 1 #[(0, Go.Operand.tmp 26)], type := 63, pos := "ctl.go:64", after := #[{ on := 8, ground := Go.Ground.data }], guard := none }) rfl (fun K hK => ?_) AllReadyH.nil)
    · obtain ⟨c5, hf, hl⟩ := HA.out.c5 HP5.out
      go_simp
      clear c5 hf hl
      refine hK.out _ _ HA.out.h3 (fun hNext => ?_)
      clear hK K hHeld
      have hHeld := hNext
      clear hNext
      (try simp only [Act.put, List.setIfInBounds_toArray, List.set_cons_zero, List.set_cons_succ])
      refine wpAnyH_ready (rs := [6, 9]) (by kernel_rfl) (by simp) ?_
      refine AllReadyH.cons (o := { dst := some 24, op := Go.Op.call { callee := Go.Callee.value (Go.Operand.func 23), args := #[Go.Operand.tmp 22, Go.Operand.tmp 23], argTypes := #[63, 70] }, type := 63, pos := "ctl.go:64", after := #[{ on := 4, ground := Go.Ground.data }, { on := 5, ground := Go.Ground.data }], guard := none }) rfl (fun K hK => ?_) (AllReadyH.cons (o := { dst := some 27, op := Go.Op.buildSlice 63 1 #[(0, Go.Operand.tmp 26)], type := 63, pos := "ctl.go:64", after := #[{ on := 8, ground := Go.Ground.data }], guard := none }) rfl (fun K hK => ?_) AllReadyH.nil)
      · go_simp
        (with_reducible refine (CD.out _ HA.out).mono ?_)
        rintro e w8 ⟨ov, nv, cv, rfl, hA, hC⟩
        go_wp2_with fail
        try replace H7 := Lib.hid (hC.stays H7.out (VN.out _ N7.out))
        clear HA
        have HA := Lib.hid hA
        clear hA hC
        refine hK.out _ _ HA.out.h3 (fun hNext => ?_)
        clear hK K hHeld
        have hHeld := hNext
        clear hNext
        (try simp only [Act.put, List.setIfInBounds_toArray, List.set_cons_zero, List.set_cons_succ])
        refine wpAnyH_ready (rs := [9]) (by kernel_rfl) (by simp) ?_
        refine AllReadyH.cons (o := { dst := some 27, op := Go.Op.buildSlice 63 1 #[(0, Go.Operand.tmp 26)], type := 63, pos := "ctl.go:64", after := #[{ on := 8, ground := Go.Ground.data }], guard := none }) rfl (fun K hK => ?_) AllReadyH.nil
        refine bsk (z := 22) (kc (fresh m)) Tryd.underlying63 infoK ⟨by decide, by decide⟩ ⟨by decide, by decide⟩ (by kernel_rfl) ?_
        intro b7 w7 h7 F7
        have N7 := Lib.hid (HA.out.le F7)
        have HA2 := Lib.hid (HA.out.on F7.below)
        have H7 := Lib.hid h7
        clear HA h7 F7
        have HA := HA2
        clear HA2
        refine hK.out _ _ HA.out.h3 (fun hNext => ?_)
        clear hK K hHeld
        have hHeld := hNext
        clear hNext
        (try simp only [Act.put, List.setIfInBounds_toArray, List.set_cons_zero, List.set_cons_succ])
        refine wpAnyH_ready (rs := [10]) (by kernel_rfl) (by simp) ?_
        refine AllReadyH.cons (o := { dst := some 28, op := Go.Op.call { callee := Go.Callee.builtin Go.Builtin.append, args := #[Go.Operand.tmp 24, Go.Operand.tmp 27], argTypes := #[63, 63] }, type := 63, pos := "ctl.go:64", after := #[{ on := 6, ground := Go.Ground.data }, { on := 9, ground := Go.Ground.data }, { on := 6, ground := Go.Ground.chain }], guard := none }) rfl (fun K hK => ?_) AllReadyH.nil
        replace H7 := Lib.hid H7.out
        obtain ⟨v9, w9, hr9, ho9, hg9, hv9⟩ := run_append_elt eltK _ _ base _ _ HA.out.own b7 1 (fresh m) (row_ofk H7.out) HL9.out HA.out.base_le
        obtain ⟨ow, cw, rfl, _⟩ := row_form ho9
        obtain ⟨nw, hnw⟩ : ∃ nw, (L9 ++ [fresh m]).length = nw := ⟨_, rfl⟩
        rw [hnw] at hr9 ho9 hv9
        clear hnw
        refine step_append_known rfl _ _ _ _ rfl rfl rfl hr9 ?_
        have HE := Lib.hid (HA.out.put HP5.out N3.out ho9 hg9 hv9 HX.out.1 HX.out.2)
        have c5 := HE.out.c5
        have hf := HE.out.fr
        have hl := HE.out.lt
        refine hK.out _ _ HE.out.h3 (fun hNext => ?_)
        clear hK K hHeld
        have hHeld := hNext
        clear hNext
        (try simp only [Act.put, List.setIfInBounds_toArray, List.set_cons_zero, List.set_cons_succ])
        refine' wpAnyH_take (i := 11) (oi := { dst := some 29, op := Go.Op.nilCheck (Go.Operand.tmp 18), type := 0, pos := "ctl.go:64", after := #[{ on := 0, ground := Go.Ground.data }, { on := 0, ground := Go.Ground.phase }, { on := 1, ground := Go.Ground.phase }, { on := 2, ground := Go.Ground.phase }, { on := 3, ground := Go.Ground.phase }, { on := 4, ground := Go.Ground.phase }, { on := 5, ground := Go.Ground.phase }, { on := 6, ground := Go.Ground.phase }, { on := 7, ground := Go.Ground.phase }, { on := 8, ground := Go.Ground.phase }, { on := 9, ground := Go.Ground.phase }, { on := 10, ground := Go.Ground.phase }], guard := none }) (v := _) rfl (by kernel_rfl) (by kernel_rfl) (by kernel_rfl) (fun _ _ _ h => h) (Or.inl ⟨by rfl, ?hy8⟩) (by assumption) ?hr8
        case hy8 => (intro _ hSw; (try dsimp only at hSw); go_simp <;> with_reducible rfl)
        simp only [Act.put, List.setIfInBounds_toArray, List.set_cons_zero, List.set_cons_succ]
        refine' wpAnyH_take (i := 12) (oi := { dst := some 30, op := Go.Op.fieldAddr 65 (Go.Operand.tmp 29) 5, type := 0, pos := "ctl.go:64", after := #[{ on := 11, ground := Go.Ground.data }, { on := 0, ground := Go.Ground.phase }, { on := 1, ground := Go.Ground.phase }, { on := 2, ground := Go.Ground.phase }, { on := 3, ground := Go.Ground.phase }, { on := 4, ground := Go.Ground.phase }, { on := 5, ground := Go.Ground.phase }, { on := 6, ground := Go.Ground.phase }, { on := 7, ground := Go.Ground.phase }, { on := 8, ground := Go.Ground.phase }, { on := 9, ground := Go.Ground.phase }, { on := 10, ground := Go.Ground.phase }], guard := none }) (v := _) rfl (by kernel_rfl) (by kernel_rfl) (by kernel_rfl) (fun _ _ _ h => h) (Or.inl ⟨by rfl, ?hy9⟩) (by assumption) ?hr9
        case hy9 => (intro _ hSw; (try dsimp only at hSw); go_simp <;> with_reducible rfl)
        simp only [Act.put, List.setIfInBounds_toArray, List.set_cons_zero, List.set_cons_succ]
        refine wpAnyH_ready (rs := [13]) (by kernel_rfl) (by simp) ?_
        refine AllReadyH.cons (o := { dst := none, op := Go.Op.store 63 (Go.Operand.tmp 30) (Go.Operand.tmp 28), type := 0, pos := "ctl.go:64", after := #[{ on := 12, ground := Go.Ground.data }, { on := 10, ground := Go.Ground.data }, { on := 10, ground := Go.Ground.chain }, { on := 0, ground := Go.Ground.phase }, { on := 1, ground := Go.Ground.phase }, { on := 2, ground := Go.Ground.phase }, { on := 3, ground := Go.Ground.phase }, { on := 4, ground := Go.Ground.phase }, { on := 5, ground := Go.Ground.phase }, { on := 6, ground := Go.Ground.phase }, { on := 7, ground := Go.Ground.phase }, { on := 8, ground := Go.Ground.phase }, { on := 9, ground := Go.Ground.phase }, { on := 10, ground := Go.Ground.phase }], guard := none }) rfl (fun K hK => ?_) AllReadyH.nil
        go_simp
        clear c5 hf hl
        refine hK.out _ _ HE.out.h3' (fun hNext => ?_)
        clear hK K hHeld
        have hHeld := hNext
        clear hNext
        (try simp only [Act.put])
        refine wpAnyH_done (by kernel_rfl) ?_ _
        clear hHeld H7 hr9 ho9 hg9 hv9 HA
        go_wp2
        go_ret
        exact ⟨rfl, HE.out.px B5.out⟩
      · refine bsk (z := 22) (kc (fresh m)) Tryd.underlying63 infoK ⟨by decide, by decide⟩ ⟨by decide, by decide⟩ (by kernel_rfl) ?_
        intro b7 w7 h7 F7
        have N7 := Lib.hid (HA.out.le F7)
        have HA2 := Lib.hid (HA.out.on F7.below)
        have H7 := Lib.hid h7
        clear HA h7 F7
        have HA := HA2
        clear HA2
        refine hK.out _ _ HA.out.h3 (fun hNext => ?_)
        clear hK K hHeld
        have hHeld := hNext
        clear hNext
        (try simp only [Act.put, List.setIfInBounds_toArray, List.set_cons_zero, List.set_cons_succ])
        refine wpAnyH_ready (rs := [6]) (by kernel_rfl) (by simp) ?_
        refine AllReadyH.cons (o := { dst := some 24, op := Go.Op.call { callee := Go.Callee.value (Go.Operand.func 23), args := #[Go.Operand.tmp 22, Go.Operand.tmp 23], argTypes := #[63, 70] }, type := 63, pos := "ctl.go:64", after := #[{ on := 4, ground := Go.Ground.data }, { on := 5, ground := Go.Ground.data }], guard := none }) rfl (fun K hK => ?_) AllReadyH.nil
        go_simp
        (with_reducible refine (CD.out _ HA.out).mono ?_)
        rintro e w8 ⟨ov, nv, cv, rfl, hA, hC⟩
        go_wp2_with fail
        try replace H7 := Lib.hid (hC.stays H7.out (VN.out _ N7.out))
        clear HA
        have HA := Lib.hid hA
        clear hA hC
        refine hK.out _ _ HA.out.h3 (fun hNext => ?_)
        clear hK K hHeld
        have hHeld := hNext
        clear hNext
        (try simp only [Act.put, List.setIfInBounds_toArray, List.set_cons_zero, List.set_cons_succ])
        refine wpAnyH_ready (rs := [10]) (by kernel_rfl) (by simp) ?_
        refine AllReadyH.cons (o := { dst := some 28, op := Go.Op.call { callee := Go.Callee.builtin Go.Builtin.append, args := #[Go.Operand.tmp 24, Go.Operand.tmp 27], argTypes := #[63, 63] }, type := 63, pos := "ctl.go:64", after := #[{ on := 6, ground := Go.Ground.data }, { on := 9, ground := Go.Ground.data }, { on := 6, ground := Go.Ground.chain }], guard := none }) rfl (fun K hK => ?_) AllReadyH.nil
        replace H7 := Lib.hid H7.out
        obtain ⟨v9, w9, hr9, ho9, hg9, hv9⟩ := run_append_elt eltK _ _ base _ _ HA.out.own b7 1 (fresh m) (row_ofk H7.out) HL9.out HA.out.base_le
        obtain ⟨ow, cw, rfl, _⟩ := row_form ho9
        obtain ⟨nw, hnw⟩ : ∃ nw, (L9 ++ [fresh m]).length = nw := ⟨_, rfl⟩
        rw [hnw] at hr9 ho9 hv9
        clear hnw
        refine step_append_known rfl _ _ _ _ rfl rfl rfl hr9 ?_
        have HE := Lib.hid (HA.out.put HP5.out N3.out ho9 hg9 hv9 HX.out.1 HX.out.2)
        have c5 := HE.out.c5
        have hf := HE.out.fr
        have hl := HE.out.lt
        refine hK.out _ _ HE.out.h3 (fun hNext => ?_)
        clear hK K hHeld
        have hHeld := hNext
        clear hNext
        (try simp only [Act.put, List.setIfInBounds_toArray, List.set_cons_zero, List.set_cons_succ])
        refine' wpAnyH_take (i := 11) (oi := { dst := some 29, op := Go.Op.nilCheck (Go.Operand.tmp 18), type := 0, pos := "ctl.go:64", after := #[{ on := 0, ground := Go.Ground.data }, { on := 0, ground := Go.Ground.phase }, { on := 1, ground := Go.Ground.phase }, { on := 2, ground := Go.Ground.phase }, { on := 3, ground := Go.Ground.phase }, { on := 4, ground := Go.Ground.phase }, { on := 5, ground := Go.Ground.phase }, { on := 6, ground := Go.Ground.phase }, { on := 7, ground := Go.Ground.phase }, { on := 8, ground := Go.Ground.phase }, { on := 9, ground := Go.Ground.phase }, { on := 10, ground := Go.Ground.phase }], guard := none }) (v := _) rfl (by kernel_rfl) (by kernel_rfl) (by kernel_rfl) (fun _ _ _ h => h) (Or.inl ⟨by rfl, ?hy10⟩) (by assumption) ?hr10
        case hy10 => (intro _ hSw; (try dsimp only at hSw); go_simp <;> with_reducible rfl)
        simp only [Act.put, List.setIfInBounds_toArray, List.set_cons_zero, List.set_cons_succ]
        refine' wpAnyH_take (i := 12) (oi := { dst := some 30, op := Go.Op.fieldAddr 65 (Go.Operand.tmp 29) 5, type := 0, pos := "ctl.go:64", after := #[{ on := 11, ground := Go.Ground.data }, { on := 0, ground := Go.Ground.phase }, { on := 1, ground := Go.Ground.phase }, { on := 2, ground := Go.Ground.phase }, { on := 3, ground := Go.Ground.phase }, { on := 4, ground := Go.Ground.phase }, { on := 5, ground := Go.Ground.phase }, { on := 6, ground := Go.Ground.phase }, { on := 7, ground := Go.Ground.phase }, { on := 8, ground := Go.Ground.phase }, { on := 9, ground := Go.Ground.phase }, { on := 10, ground := Go.Ground.phase }], guard := none }) (v := _) rfl (by kernel_rfl) (by kernel_rfl) (by kernel_rfl) (fun _ _ _ h => h) (Or.inl ⟨by rfl, ?hy11⟩) (by assumption) ?hr11
        case hy11 => (intro _ hSw; (try dsimp only at hSw); go_simp <;> with_reducible rfl)
        simp only [Act.put, List.setIfInBounds_toArray, List.set_cons_zero, List.set_cons_succ]
        refine wpAnyH_ready (rs := [13]) (by kernel_rfl) (by simp) ?_
        refine AllReadyH.cons (o := { dst := none, op := Go.Op.store 63 (Go.Operand.tmp 30) (Go.Operand.tmp 28), type := 0, pos := "ctl.go:64", after := #[{ on := 12, ground := Go.Ground.data }, { on := 10, ground := Go.Ground.data }, { on := 10, ground := Go.Ground.chain }, { on := 0, ground := Go.Ground.phase }, { on := 1, ground := Go.Ground.phase }, { on := 2, ground := Go.Ground.phase }, { on := 3, ground := Go.Ground.phase }, { on := 4, ground := Go.Ground.phase }, { on := 5, ground := Go.Ground.phase }, { on := 6, ground := Go.Ground.phase }, { on := 7, ground := Go.Ground.phase }, { on := 8, ground := Go.Ground.phase }, { on := 9, ground := Go.Ground.phase }, { on := 10, ground := Go.Ground.phase }], guard := none }) rfl (fun K hK => ?_) AllReadyH.nil
        go_simp
        clear c5 hf hl
        refine hK.out _ _ HE.out.h3' (fun hNext => ?_)
        clear hK K hHeld
        have hHeld := hNext
        clear hNext
        (try simp only [Act.put])
        refine wpAnyH_done (by kernel_rfl) ?_ _
        clear hHeld H7 hr9 ho9 hg9 hv9 HA
        go_wp2
        go_ret
        exact ⟨rfl, HE.out.px B5.out⟩
    · refine bsk (z := 22) (kc (fresh m)) Tryd.underlying63 infoK ⟨by decide, by decide⟩ ⟨by decide, by decide⟩ (by kernel_rfl) ?_
      intro b7 w7 h7 F7
      have N7 := Lib.hid (HA.out.le F7)
      have HA2 := Lib.hid (HA.out.on F7.below)
      have H7 := Lib.hid h7
      clear HA h7 F7
      have HA := HA2
      clear HA2
      refine hK.out _ _ HA.out.h3 (fun hNext => ?_)
      clear hK K hHeld
      have hHeld := hNext
      clear hNext
      (try simp only [Act.put, List.setIfInBounds_toArray, List.set_cons_zero, List.set_cons_succ])
      refine wpAnyH_ready (rs := [4]) (by kernel_rfl) (by simp) ?_
      refine AllReadyH.cons (o := { dst := some 22, op := Go.Op.load 63 (Go.Operand.tmp 21), type := 63, pos := "ctl.go:64", after := #[{ on := 3, ground := Go.Ground.data }], guard := none }) rfl (fun K hK => ?_) AllReadyH.nil
      obtain ⟨c5, hf, hl⟩ := HA.out.c5 HP5.out
      go_simp
      clear c5 hf hl
      refine hK.out _ _ HA.out.h3 (fun hNext => ?_)
      clear hK K hHeld
      have hHeld := hNext
      clear hNext
      (try simp only [Act.put, List.setIfInBounds_toArray, List.set_cons_zero, List.set_cons_succ])
      refine wpAnyH_ready (rs := [6]) (by kernel_rfl) (by simp) ?_
      refine AllReadyH.cons (o := { dst := some 24, op := Go.Op.call { callee := Go.Callee.value (Go.Operand.func 23), args := #[Go.Operand.tmp 22, Go.Operand.tmp 23], argTypes := #[63, 70] }, type := 63, pos := "ctl.go:64", after := #[{ on := 4, ground := Go.Ground.data }, { on := 5, ground := Go.Ground.data }], guard := none }) rfl (fun K hK => ?_) AllReadyH.nil
      go_simp
      (with_reducible refine (CD.out _ HA.out).mono ?_)
      rintro e w8 ⟨ov, nv, cv, rfl, hA, hC⟩
      go_wp2_with fail
      try replace H7 := Lib.hid (hC.stays H7.out (VN.out _ N7.out))
      clear HA
      have HA := Lib.hid hA
      clear hA hC
      refine hK.out _ _ HA.out.h3 (fun hNext => ?_)
      clear hK K hHeld
      have hHeld := hNext
      clear hNext
      (try simp only [Act.put, List.setIfInBounds_toArray, List.set_cons_zero, List.set_cons_succ])
      refine wpAnyH_ready (rs := [10]) (by kernel_rfl) (by simp) ?_
      refine AllReadyH.cons (o := { dst := some 28, op := Go.Op.call { callee := Go.Callee.builtin Go.Builtin.append, args := #[Go.Operand.tmp 24, Go.Operand.tmp 27], argTypes := #[63, 63] }, type := 63, pos := "ctl.go:64", after := #[{ on := 6, ground := Go.Ground.data }, { on := 9, ground := Go.Ground.data }, { on := 6, ground := Go.Ground.chain }], guard := none }) rfl (fun K hK => ?_) AllReadyH.nil
      replace H7 := Lib.hid H7.out
      obtain ⟨v9, w9, hr9, ho9, hg9, hv9⟩ := run_append_elt eltK _ _ base _ _ HA.out.own b7 1 (fresh m) (row_ofk H7.out) HL9.out HA.out.base_le
      obtain ⟨ow, cw, rfl, _⟩ := row_form ho9
      obtain ⟨nw, hnw⟩ : ∃ nw, (L9 ++ [fresh m]).length = nw := ⟨_, rfl⟩
      rw [hnw] at hr9 ho9 hv9
      clear hnw
      refine step_append_known rfl _ _ _ _ rfl rfl rfl hr9 ?_
      have HE := Lib.hid (HA.out.put HP5.out N3.out ho9 hg9 hv9 HX.out.1 HX.out.2)
      have c5 := HE.out.c5
      have hf := HE.out.fr
      have hl := HE.out.lt
      refine hK.out _ _ HE.out.h3 (fun hNext => ?_)
      clear hK K hHeld
      have hHeld := hNext
      clear hNext
      (try simp only [Act.put, List.setIfInBounds_toArray, List.set_cons_zero, List.set_cons_succ])
      refine' wpAnyH_take (i := 11) (oi := { dst := some 29, op := Go.Op.nilCheck (Go.Operand.tmp 18), type := 0, pos := "ctl.go:64", after := #[{ on := 0, ground := Go.Ground.data }, { on := 0, ground := Go.Ground.phase }, { on := 1, ground := Go.Ground.phase }, { on := 2, ground := Go.Ground.phase }, { on := 3, ground := Go.Ground.phase }, { on := 4, ground := Go.Ground.phase }, { on := 5, ground := Go.Ground.phase }, { on := 6, ground := Go.Ground.phase }, { on := 7, ground := Go.Ground.phase }, { on := 8, ground := Go.Ground.phase }, { on := 9, ground := Go.Ground.phase }, { on := 10, ground := Go.Ground.phase }], guard := none }) (v := _) rfl (by kernel_rfl) (by kernel_rfl) (by kernel_rfl) (fun _ _ _ h => h) (Or.inl ⟨by rfl, ?hy12⟩) (by assumption) ?hr12
      case hy12 => (intro _ hSw; (try dsimp only at hSw); go_simp <;> with_reducible rfl)
      simp only [Act.put, List.setIfInBounds_toArray, List.set_cons_zero, List.set_cons_succ]
      refine' wpAnyH_take (i := 12) (oi := { dst := some 30, op := Go.Op.fieldAddr 65 (Go.Operand.tmp 29) 5, type := 0, pos := "ctl.go:64", after := #[{ on := 11, ground := Go.Ground.data }, { on := 0, ground := Go.Ground.phase }, { on := 1, ground := Go.Ground.phase }, { on := 2, ground := Go.Ground.phase }, { on := 3, ground := Go.Ground.phase }, { on := 4, ground := Go.Ground.phase }, { on := 5, ground := Go.Ground.phase }, { on := 6, ground := Go.Ground.phase }, { on := 7, ground := Go.Ground.phase }, { on := 8, ground := Go.Ground.phase }, { on := 9, ground := Go.Ground.phase }, { on := 10, ground := Go.Ground.phase }], guard := none }) (v := _) rfl (by kernel_rfl) (by kernel_rfl) (by kernel_rfl) (fun _ _ _ h => h) (Or.inl ⟨by rfl, ?hy13⟩) (by assumption) ?hr13
      case hy13 => (intro _ hSw; (try dsimp only at hSw); go_simp <;> with_reducible rfl)
      simp only [Act.put, List.setIfInBounds_toArray, List.set_cons_zero, List.set_cons_succ]
      refine wpAnyH_ready (rs := [13]) (by kernel_rfl) (by simp) ?_
      refine AllReadyH.cons (o := { dst := none, op := Go.Op.store 63 (Go.Operand.tmp 30) (Go.Operand.tmp 28), type := 0, pos := "ctl.go:64", after := #[{ on := 12, ground := Go.Ground.data }, { on := 10, ground := Go.Ground.data }, { on := 10, ground := Go.Ground.chain }, { on := 0, ground := Go.Ground.phase }, { on := 1, ground := Go.Ground.phase }, { on := 2, ground := Go.Ground.phase }, { on := 3, ground := Go.Ground.phase }, { on := 4, ground := Go.Ground.phase }, { on := 5, ground := Go.Ground.phase }, { on := 6, ground := Go.Ground.phase }, { on := 7, ground := Go.Ground.phase }, { on := 8, ground := Go.Ground.phase }, { on := 9, ground := Go.Ground.phase }, { on := 10, ground := Go.Ground.phase }], guard := none }) rfl (fun K hK => ?_) AllReadyH.nil
      go_simp
      clear c5 hf hl
      refine hK.out _ _ HE.out.h3' (fun hNext => ?_)
      clear hK K hHeld
      have hHeld := hNext
      clear hNext
      (try simp only [Act.put])
      refine wpAnyH_done (by kernel_rfl) ?_ _
      clear hHeld H7 hr9 ho9 hg9 hv9 HA
      go_wp2
      go_ret
      exact ⟨rfl, HE.out.px B5.out⟩
end
end Go.Proofs.YtakkhdammmcjcaaDoor.Ctl
/-
  What the document's own Tick answers, and leaves. Condition: it lies where it says.
-/
namespace Go.Proofs.YtakkhdammmcjcaaDoor.Ctl
open Go.RowKit Go.Proofs.YtakkhdammmcjcaaDoor.Base Go.Proofs.YtakkhdammmcjcaaDoor.Mem Go.Proofs.YtakkhdammmcjcaaDoor.Msgs Go.Proofs.YtakkhdammmcjcaaDoor.Cr
set_option maxRecDepth 100000
theorem ticks_app (n2 : Nat) (y : Wt) : ∀ l : List Wt, ticks n2 (l ++ [y]) = ((ticks n2 l).1 ++ (ticks n2 [y]).1, (ticks n2 l).2 ++ (ticks n2 [y]).2)
  | [] => rfl
  | v :: l => by
    have ih := ticks_app n2 y l
    show ticks n2 (v :: (l ++ [y])) = _
    unfold ticks
    split
    · rw [ih]; rfl
    · split
      · rw [ih]; rfl
      · rw [ih]; rfl
theorem ticks_next (n2 : Nat) {l : List Wt} {k : Nat} {y : Wt} (hy : l[k]? = some y) : ticks n2 (l.take (k + 1)) = ((ticks n2 (l.take k)).1 ++ (ticks n2 [y]).1, (ticks n2 (l.take k)).2 ++ (ticks n2 [y]).2) := by
  rw [List.take_add_one, hy]; exact ticks_app n2 y _
theorem ticks_len (n2 : Nat) : ∀ l : List Wt, (ticks n2 l).1.length ≤ l.length ∧ (ticks n2 l).2.length ≤ l.length
  | [] => ⟨Nat.le_refl _, Nat.le_refl _⟩
  | v :: l => by
    have ih := ticks_len n2 l
    unfold ticks
    split
    · simp; omega
    · split
      · simp; omega
      · simp; omega
section
variable {w w' : World} {c base b g n cap : Nat} {va vc v vf vs : Value} {x : Ct} {l : List Wt} {A : List Fa} {B : List Wt}
theorem wcells {b : Nat} {y : Wt} {t : TypeId} (h : w.heap[b]? = some (.cells (wc y) t (0, 0))) : w.cell? ⟨b, 20, none⟩ = some (nm y.tr) ∧ w.cell? ⟨b, 21, none⟩ = some (nm y.lf) ∧ w.cell? ⟨b, 22, none⟩ = some (.bool y.sd) := ⟨cell_of h rfl, cell_of h rfl, cell_of h rfl⟩
theorem set_lf {b : Nat} {y : Wt} {t : TypeId} (h : w.heap[b]? = some (.cells (wc y) t (0, 0))) (k : Nat) : (w.setCell ⟨b, 21, none⟩ (nm k)).heap[b]? = some (.cells (wc ⟨y.m, y.tr, k, y.sd⟩) t (0, 0)) := block_set h _
theorem set_tl {b : Nat} {y : Wt} {t : TypeId} (h : w.heap[b]? = some (.cells (wc y) t (0, 0))) : ((w.setCell ⟨b, 21, none⟩ (.int .i64 0)).setCell ⟨b, 20, none⟩ (.int .i64 ((y.tr : Int) + 1))).heap[b]? = some (.cells (wc ⟨y.m, y.tr + 1, 0, y.sd⟩) t (0, 0)) := block_set (block_set h _) _
end
end Go.Proofs.YtakkhdammmcjcaaDoor.Ctl
