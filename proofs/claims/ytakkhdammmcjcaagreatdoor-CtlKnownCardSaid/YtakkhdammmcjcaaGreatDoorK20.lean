/-
  Layer 22, put together: CtlPask, CtlTick. Conditions: as each theorem names them.
-/
import Derived.Test.YtakkhdammmcjcaaGreatDoorK18
import Derived.Test.YtakkhdammmcjcaaGreatDoorK19
import Derived.Test.YtakkhdammmcjcaaGreatDoorK01
import Derived.Test.YtakkhdammmcjcaaGreatDoorK17
import Derived.Lib.MinMax
namespace Go.Proofs.YtakkhdammmcjcaaGreatDoor.Ctl
open Go.RowKit Base Mem Msgs Cr
set_option maxRecDepth 100000
section
variable {ops : Array Oper} {a : Act} {w : World} {K : Act → World → Prop} {Q : Exit → Act → World → Prop} {X : Prop} {d : Option Tmp} {x y : Operand} {ty : TypeId} {pos : String} {af : Array Edge} {T b : Nat} {m : Ms} {t : TypeId}
/-- A slice literal, in a region that draws. -/
theorem bsk {z len : Nat} {S e : Nat} {zc : Array Value} {parts : Array (Nat × Operand)} (cells : Array Value) (hu : Tryz.prog.underlying S = some (.slice e)) (he : (Tryz.prog.info? e).map (fun i => (i.zero, i.size)) = some (some (.agg zc), z)) (hl : 0 < len ∧ len ≤ 100) (hz : 0 < z ∧ z ≤ 100)
 (hf : Instr.fill (fun i => some (i * z, z)) ((Array.range (len * z)).map (zc[· % zc.size]!)) (parts.map fun (i, x) => (i, a.eval x)).toList = some cells)
 (k : ∀ (b : Nat) (w' : World), w'.heap[b]? = some (.cells cells e (0, 0)) → Fresh b w w' → K (a.put d (.slice (some ⟨b, 0, none⟩) len len)) w') :
 if Region.wanted { dst := d, op := .buildSlice S len parts, type := ty, pos := pos, after := af, guard := none } (yielded ops a.tmps) = true then Oper.wp Tryz.prog { dst := d, op := .buildSlice S len parts, type := ty, pos := pos, after := af, guard := none } a w K Q else X := by
 rw [if_pos (by simp [Region.wanted])]
 cases hq : Tryz.prog.info? e with
 | none => simp [hq] at he
 | some i =>
  simp only [hq, Option.map_some, Option.some.injEq, Prod.mk.injEq] at he
  have hm : len * z ≤ 100 * 100 := Nat.mul_le_mul hl.2 hz.2
  have hp : 0 < len * z := Nat.mul_pos hl.1 hz.1
  refine wp_buildSlice S e len parts rfl cells i (.agg zc) hu hq he.1 (by rw [he.2]; omega) (by rw [he.2]; omega) (by rw [he.2]; exact hf) ?_
  exact k w.heap.size (w.alloc (.cells cells e (0, 0))) (nest w [_] 0 _ rfl) (fresh_alloc w _)
theorem bdk {ops : Nat} {g : Option (Nat × Bool)} {parts : Array (Nat × Operand)} {ρ : Operand → Value} (cs : Array Value) (_ : ops = ops) (hb : Tryz.prog.built T (parts.map fun (i, x) => (i, ρ x)).toList = some cs) :
 (execOp ρ { dst := d, op := .build T parts, type := ty, pos := pos, after := af, guard := g }).run Tryz.prog w = .ok (.value (.agg cs)) w := by
 unfold execOp
 simp only [Sem.run_bind, run_build w T _ cs hb, Sem.run_pure, Result.andThen_ok]
end
theorem row_ofk {w : World} {b : Nat} {vs : List Value} {t : TypeId} (h : w.heap[b]? = some (.cells vs.toArray t (0, 0))) : ∀ j, j < vs.length → w.cell? ⟨b, j, none⟩ = vs[j]? := fun j hj => by
 rw [cell_of h (v := vs[j]) (by simp [hj]), List.getElem?_eq_getElem hj]
section
variable {w w' u u' : World} {c base b3 : Nat} {a b t n : Int} {va vc v : Value} {x : Ct} {m : Ms} {l L : List Wt}
/-- The commands' row was written, or lies elsewhere now, and is stored. -/
structure Pc (u : World) (c base : Nat) (a b t n : Int) (va vc vc' : Value) (y : Ct) (u' : World) : Prop where
 p : P (u'.setCell ⟨c, 5, none⟩ vc') c base a b t n va vc' y
 sub : ∀ k, PS c va vc' k → PS c va vc k ∨ u.heap.size ≤ k
 chg : Chg (PS c va vc) u (u'.setCell ⟨c, 5, none⟩ vc')
 c5 : u'.cell? ⟨c, 5, none⟩ = some vc
 fr : ∀ i, u'.frozen? ⟨c, i, none⟩ = false
 lt : c < u'.heap.size
theorem P.put_cs {vc' : Value} (h : P w c base a b t n va vc x) (ho : OwnS KT 22 kl w' base vc' l) (hc : Chg (fun k => vc.ownBlock = some k) w w') (hv : ∀ k, vc'.ownBlock = some k → vc.ownBlock = some k ∨ w.heap.size ≤ k) (hok : ({ x with cs := l } : Ct).Ok) (hs : Sd { x with cs := l }) : Pc w c base a b t n va vc vc' { x with cs := l } w' := by
 have hd : At w' c #[im a, im b, im t, im n, va, vc] CT := h.hd.other hc fun e => (h.cs_ne e).1 rfl
 have han : OwnS AT 2 al w' base va x.an := row_keep h.an fun k hk => hc.block k (h.an.lt k hk).2 (h.an_ne hk).2
 have htb : Tab w' := tab_eqv h.tab (hc.block TB h.tb_lt fun e => by have := (h.own_lt TB (.inr (.inr e))).1; have := h.tb; omega)
 have hlo := h.lo
 have htl := h.tb
 refine ⟨⟨hd.set 5 vc', row_keep han fun g hg => set_other (fun e => ?_) _, row_keep ho fun g hg => set_other (fun e => ?_) _, h.lo, tab_eqv htb (set_other (fun e => by omega) _), h.tb, ⟨h.raw.rn, h.raw.rk, h.raw.rt, h.raw.rm⟩, hs, hok⟩, fun k hk => ?_, (hc.mono fun _ e => .inr (.inr e)).setCell c 5 vc' fun _ => .inl rfl, hd.cell 5 _ rfl, hd.free, hd.lt⟩
 · obtain ⟨cs, hb⟩ := row_blk han hg
   exact type_ne hb hd (by decide) e
 · obtain ⟨cs, hb⟩ := row_blk ho hg
   exact type_ne hb hd (by decide) e
 · rcases hk with hk | hk | hk
   · exact .inl (.inl hk)
   · exact .inl (.inr (.inl hk))
   · rcases hv k hk with e | e
     · exact .inl (.inr (.inr e))
     · exact .inr e
/-- Within Ask: what is left of the commands; the message in its box. -/
structure Ak (w : World) (base b3 : Nat) (vc : Value) (m : Ms) (v : Value) (L : List Wt) (u : World) : Prop where
 own : OwnS KT 22 kl u base v L
 chg : Chg (fun k => vc.ownBlock = some k) w u
 h3 : u.heap[b3]? = some (mO m MT)
 sub : ∀ k, v.ownBlock = some k → vc.ownBlock = some k ∨ w.heap.size ≤ k
 base_lt : base ≤ w.heap.size
theorem Ak.on (h : Ak w base b3 vc m v L u) (hb : Below u.heap.size u u') : Ak w base b3 vc m v L u' := ⟨h.own.below hb, h.chg.on hb, stays h.h3 hb, h.sub, h.base_lt⟩
theorem Ak.le {b7 : Nat} (h : Ak w base b3 vc m v L u) (F : Fresh b7 u u') : w.heap.size ≤ b7 := by rw [F.eq]; exact h.chg.size
theorem Ak.base_le (h : Ak w base b3 vc m v L u) : base ≤ u.heap.size := Nat.le_trans h.base_lt h.chg.size
theorem Ak.c5 (h : Ak w base b3 vc m v L u) (hp : P w c base a b t n va vc x) : u.cell? ⟨c, 5, none⟩ = some vc ∧ (∀ i, u.frozen? ⟨c, i, none⟩ = false) ∧ c < u.heap.size := by
 have hd : At u c #[im a, im b, im t, im n, va, vc] CT := hp.hd.other h.chg fun e => (hp.cs_ne e).1 rfl
 exact ⟨hd.cell 5 _ rfl, hd.free, hd.lt⟩
theorem Ak.del (h : Ak w base b3 vc m vc l u) (hn : l.length ≤ 1000) (hl : ∀ y ∈ l, y.m.In) (hm : m.In) : Calls Tryz.prog 40 #[vc, .func (.func 38) #[] #[ptr b3]] u fun e u' => ∃ ov nv cv, e = .returned (.slice ov nv cv) ∧ Ak w base b3 vc m (.slice ov nv cv) (l.filter fun y => !same y.m m) u' ∧ Chg (fun k => vc.ownBlock = some k) u u' := by
 refine (fdelf h.own hn hl hm h.h3).mono fun e u' ⟨v', e1, hG1, hG2, hG3⟩ => ?_
 obtain ⟨ov, cv, rfl, _⟩ := row_form hG1
 have hs : ∀ k, (Value.slice ov (List.filter (fun y => !same y.m m) l).length cv).ownBlock = some k → vc.ownBlock = some k ∨ w.heap.size ≤ k := fun k hk => .inl (by rw [hG3] at hk; exact hk)
 have h3 : u'.heap[b3]? = some (mO m MT) := hG2.stays h.h3 fun e => by
  obtain ⟨cs, hb⟩ := row_blk h.own e
  exact type_ne h.h3 hb (by decide) rfl
 exact ⟨ov, _, cv, e1, ⟨hG1, h.chg.then hG2, h3, hs, h.base_lt⟩, hG2⟩
/-- What an append to the commands leaves, once it is stored. -/
structure Ae (w : World) (c base b3 : Nat) (a b t n : Int) (va vc : Value) (x : Ct) (m : Ms) (v2 : Value) (u : World) : Prop where
 pc : Pc w c base a b t n va vc v2 x u
 c5 : u.cell? ⟨c, 5, none⟩ = some vc
 fr : ∀ i, u.frozen? ⟨c, i, none⟩ = false
 lt : c < u.heap.size
 h3 : u.heap[b3]? = some (mO m MT)
 h3' : (u.setCell ⟨c, 5, none⟩ v2).heap[b3]? = some (mO m MT)
theorem Ak.put {v2 : Value} {l2 : List Wt} (h : Ak w base b3 vc m v L u) (hp : P w c base a b t n va vc x) (h3n : ¬ PS c va vc b3) (ho : OwnS KT 22 kl u' base v2 l2) (hg : u.grownBy u' v.ownBlock) (hv : v2.ownBlock = v.ownBlock ∨ v2.ownBlock = some u.heap.size) (hok : ({ x with cs := l2 } : Ct).Ok) (hs : Sd { x with cs := l2 }) : Ae w c base b3 a b t n va vc { x with cs := l2 } m v2 u' := by
 have hsz := h.chg.size
 have hcg : Chg (fun k => vc.ownBlock = some k) w u' := h.chg.grown hg fun k hk hlt => by
  rcases h.sub k hk with e | e
  · exact e
  · omega
 have hsub : ∀ k, v2.ownBlock = some k → vc.ownBlock = some k ∨ w.heap.size ≤ k := fun k hk => by
  rcases hv with e | e
  · exact h.sub k (by rw [← e]; exact hk)
  · rw [e] at hk
    cases hk
    exact .inr hsz
 have hpc := hp.put_cs ho hcg hsub hok hs
 have h3 : u'.heap[b3]? = some (mO m MT) := by
  have hlt := lt_heap h.h3
  refine (Chg.of_grown (S := fun k => v.ownBlock = some k) hg fun k hk => hk).stays h.h3 fun e => ?_
  obtain ⟨cs, hb⟩ := row_blk h.own e
  exact type_ne h.h3 hb (by decide) rfl
 exact ⟨hpc, hpc.c5, hpc.fr, hpc.lt, h3, (set_other (fun e => h3n (.inl e)) _).trans h3⟩
theorem Ae.px {v2 : Value} {w0 : World} (h : Ae w c base b3 a b t n va vc x m v2 u) (hb : Below w0.heap.size w0 w) : Px w0 c base a b t n va vc x (u.setCell ⟨c, 5, none⟩ v2) :=
 ⟨⟨_, _, h.pc.p, fun k hk => by
   rcases h.pc.sub k hk with e | e
   · exact .inl e
   · exact .inr (Nat.le_trans hb.size e)⟩, (Chg.of_below hb).then h.pc.chg⟩
set_option maxHeartbeats 16000000 in
theorem fask (h : P w c base a b t n va vc x) (m : Ms) (hm : m.In) (hmb : m.b.size ≤ 281474976710656) : Calls Tryz.prog 18 #[ptr c, mv m] w fun e w' => e = .returned (nm (askE m)) ∧ Px w c base a b t n va vc (x.ask m) w' := by
 have cm := fun w ht => fmayAsk m hm hmb w ht
 have HP := Lib.hid h
 have hx := h.ok
 cases h1 : mayAsk m with
 | false =>
  have e1 : askE m = 2 := by unfold askE; rw [h1]; rfl
  have e2 : x.ask m = x := by unfold Ct.ask; rw [h1]; rfl
  rw [e1, e2]
  rw [h1] at cm
  have CM := Lib.hid cm
  clear cm h1 e1 e2 hx h
  go_enter Tryz.func18, Tryz.ntmps18
  go_wp2_with (first
   | ((with_reducible refine bxm (m := m) ?hx ?_); (case hx => rfl); intro b3 w1 h F0; have HP1 := Lib.hid (HP.out.below F0.below); have H3 := Lib.hid h; have B1 := Lib.hid F0.below; have N3 := Lib.hid (HP.out.not_new (k := b3) (by rw [F0.eq]; exact Nat.le_refl _)); have L3 := Lib.hid F0.eq; clear h F0)
   | ((with_reducible refine ldm isM H3.out ?hx ?_); (case hx => rfl))
   | (go_at_call 36; ((with_reducible refine (CM.out _ HP1.out.tab).mono ?_); rintro e w2 ⟨rfl, hb⟩; have HP2 := Lib.hid (HP1.out.below hb); have H32 := Lib.hid (stays H3.out hb); have B2 := Lib.hid (below_on B1.out hb); obtain ⟨d0, d1, d2, d3, d4, d5⟩ := lay H32.out; clear hb H3 HP1 B1)))
  go_ret
  exact ⟨rfl, HP.out.px_below B2.out⟩
 | true =>
  have e1 : askE m = 0 := by unfold askE; rw [h1]; rfl
  have e2 : x.ask m = { x with cs := put x.cs m } := by unfold Ct.ask; rw [h1]; rfl
  have hok := hx.ask hm
  rw [e2] at hok
  rw [e1, e2]
  rw [h1] at cm
  have CM := Lib.hid cm
  have CL := Lib.hid (fun w => Tlv.clone m.b w hmb)
  have hfew := hx.cs_few
  obtain ⟨L9, hL9⟩ : ∃ L9, x.cs.filter (fun y => !same y.m m) = L9 := ⟨_, rfl⟩
  have hput : put x.cs m = L9 ++ [fresh m] := by rw [← hL9]; rfl
  rw [hput] at hok ⊢
  have hsd : Sd { x with cs := L9 ++ [fresh m] } := fun y hy => by
   rcases List.mem_append.1 hy with hy | hy
   · rw [← hL9] at hy
     exact h.sd y (List.mem_filter.1 hy).1
   · rw [List.mem_singleton.1 hy]; rfl
  have HX := Lib.hid (And.intro hok hsd)
  have HL9 : Hid (L9.length + 1 ≤ 1000000) := Lib.hid (by
   have := List.length_filter_le (fun y : Wt => !same y.m m) x.cs
   rw [hL9] at this
   omega)
  have VN : Hid (∀ k, w.heap.size ≤ k → ¬ vc.ownBlock = some k) := Lib.hid fun k hk e => by have := (h.own_lt k (.inr (.inr e))).2; omega
  have CD : Hid (∀ {b3 : Nat} {w5 : World} (u : World), Ak w5 base b3 vc m vc x.cs u → Calls Tryz.prog 40 #[vc, .func (.func 38) #[] #[ptr b3]] u fun e u' => ∃ ov nv cv, e = .returned (.slice ov nv cv) ∧ Ak w5 base b3 vc m (.slice ov nv cv) L9 u' ∧ Chg (fun k => vc.ownBlock = some k) u u') := Lib.hid fun u hu => by
   have := hu.del (by omega) (fun y hy => (hx.cs y hy).in_) hm
   rw [hL9] at this
   exact this
  obtain ⟨oc, cc, rfl, _⟩ := row_form h.cs
  generalize hnc : x.cs.length = nc at *
  clear cm h1 e1 e2 hok hsd hput hL9 hfew h hx hm hnc
  go_enter Tryz.func18, Tryz.ntmps18
  go_wp2_with (first
   | ((with_reducible refine bxm (m := m) ?hx ?_); (case hx => rfl); intro b3 w1 h F0; have HP1 := Lib.hid (HP.out.below F0.below); have H3 := Lib.hid h; have B1 := Lib.hid F0.below; have N3 := Lib.hid (HP.out.not_new (k := b3) (by rw [F0.eq]; exact Nat.le_refl _)); have L3 := Lib.hid F0.eq; clear h F0)
   | ((with_reducible refine ldm isM H3.out ?hx ?_); (case hx => rfl))
   | (go_at_call 36; ((with_reducible refine (CM.out _ HP1.out.tab).mono ?_); rintro e w2 ⟨rfl, hb⟩; have HP2 := Lib.hid (HP1.out.below hb); have H32 := Lib.hid (stays H3.out hb); have B2 := Lib.hid (below_on B1.out hb); obtain ⟨d0, d1, d2, d3, d4, d5⟩ := lay H32.out; clear hb H3 HP1 B1))
   | (go_at_call 37; ((with_reducible refine (CL.out _).mono ?_); rintro e w4 ⟨rfl, hb⟩; have HP4 := Lib.hid (HP2.out.below hb); have H34 := Lib.hid (stays H32.out hb); have B4 := Lib.hid (below_on B2.out hb); clear hb H32 HP2 B2 d0 d1 d2 d3 d4 d5))
   | ((with_reducible refine stb (z := m.b) H34.out ?hx ?hy ?_); (case hx => rfl); (case hy => rfl); intro w5 h5 M5; have HP5 := Lib.hid (HP4.out.mod M5 N3.out (fun e => by have h1 := L3.out; have h2 := HP.out.tb_lt; omega)); have H35 : Hid (w5.heap[b3]? = some (mO m MT)) := Lib.hid h5; have B5 := Lib.hid (M5.below B4.out (by rw [L3.out]; exact Nat.le_refl _)); clear h5 M5 H34 HP4 B4))
  have HA := Lib.hid (show Ak w5 base b3 (.slice oc nc cc) m (.slice oc nc cc) x.cs w5.drew from ⟨HP5.out.cs.below ⟨rfl, rfl, rfl, Nat.le_refl _, fun _ _ => rfl⟩, (Chg.refl _ _).drew, H35.out, fun k hk => .inl hk, Nat.le_trans HP5.out.lo (Nat.le_of_lt HP5.out.hd.lt)⟩)
  replace VN : Hid (∀ k, w5.heap.size ≤ k → ¬ (Value.slice oc nc cc).ownBlock = some k) := Lib.hid fun k hk => VN.out k (Nat.le_trans B5.out.size hk)
  clear H35 CM CL L3 HP
  refine wp_region_held_drew (S := (fun w' => w'.heap[b3]? = some (mO m MT))) (by kernel_rfl) HA.out.h3 (fun hHeld => ?_)
  refine' tk9 0 rfl ?_
  refine' tk9 1 rfl ?_
  refine' tk9 2 rfl ?_
  refine' tk9 3 rfl ?_
  refine' tk9 5 rfl ?_
  refine' tv9 7 rfl (by intro _ hSw; (try dsimp only at hSw); refine ex_ld isM hSw ?_; rfl) ?_
  refine' tv9 8 rfl (by intro _ hSw; (try dsimp only at hSw); refine bdk (ops := 0) (kc (fresh m)) rfl ?_; kernel_rfl) ?_
  refine ry [4, 9] ?_
  refine AllReadyH.cons rfl (fun K hK => ?_) (AllReadyH.cons rfl (fun K hK => ?_) AllReadyH.nil)
  · obtain ⟨c5, hf, hl⟩ := HA.out.c5 HP5.out
    go_simp
    clear c5 hf hl
    refine hK.out _ _ HA.out.h3 (fun hNext => ?_)
    clear hK K hHeld
    have hHeld := hNext; clear hNext
    (try simp only [Act.put, z1', z2', z3'])
    refine ry [6, 9] ?_
    refine AllReadyH.cons rfl (fun K hK => ?_) (AllReadyH.cons rfl (fun K hK => ?_) AllReadyH.nil)
    · go_simp
      (with_reducible refine (CD.out _ HA.out).mono ?_)
      rintro e w8 ⟨ov, nv, cv, rfl, hA, hC⟩
      go_wp2_with fail
      try replace H7 := Lib.hid (hC.stays H7.out (VN.out _ N7.out))
      clear HA
      have HA := Lib.hid hA
      clear hA hC
      refine hK.out _ _ HA.out.h3 (fun hNext => ?_)
      clear hK K hHeld
      have hHeld := hNext; clear hNext
      (try simp only [Act.put, z1', z2', z3'])
      refine ry [9] (.cons rfl (fun K hK => ?_) .nil)
      refine bsk (z := 22) (kc (fresh m)) Tryz.underlying72 infoK ⟨by decide, by decide⟩ ⟨by decide, by decide⟩ (by kernel_rfl) ?_
      intro b7 w7 h7 F7
      have N7 := Lib.hid (HA.out.le F7)
      have HA2 := Lib.hid (HA.out.on F7.below)
      have H7 := Lib.hid h7
      clear HA h7 F7
      have HA := HA2
      clear HA2
      refine hK.out _ _ HA.out.h3 (fun hNext => ?_)
      clear hK K hHeld
      have hHeld := hNext; clear hNext
      (try simp only [Act.put, z1', z2', z3'])
      refine ry [10] ?_
      refine AllReadyH.cons (o := ⟨some 28, .call ⟨.builtin .append, #[.tmp 24, .tmp 27], #[72, 72]⟩, 72, "ctl.go:64", #[⟨6, .data⟩, ⟨9, .data⟩, ⟨6, .chain⟩], none⟩) rfl (fun K hK => ?_) AllReadyH.nil
      replace H7 := Lib.hid H7.out
      obtain ⟨v9, w9, hr9, ho9, hg9, hv9⟩ := run_append_elt eltK _ _ base _ _ HA.out.own b7 1 (fresh m) (row_ofk H7.out) HL9.out HA.out.base_le
      obtain ⟨ow, cw, rfl, _⟩ := row_form ho9
      obtain ⟨nw, hnw⟩ : ∃ nw, (L9 ++ [fresh m]).length = nw := ⟨_, rfl⟩
      rw [hnw] at hr9 ho9 hv9
      clear hnw
      refine step_append_known rfl _ _ _ _ rfl rfl rfl hr9 ?_
      have HE := Lib.hid (HA.out.put HP5.out N3.out ho9 hg9 hv9 HX.out.1 HX.out.2)
      have c5 := HE.out.c5
      have hf := HE.out.fr
      have hl := HE.out.lt
      refine hK.out _ _ HE.out.h3 (fun hNext => ?_)
      clear hK K hHeld
      have hHeld := hNext; clear hNext
      (try simp only [Act.put, z1', z2', z3'])
      refine' tk9 11 rfl ?_
      refine' tk9 12 rfl ?_
      refine ry [13] (.cons rfl (fun K hK => ?_) .nil)
      go_simp
      clear c5 hf hl
      refine hK.out _ _ HE.out.h3' (fun hNext => ?_)
      clear hK K hHeld
      have hHeld := hNext; clear hNext
      (try simp only [Act.put])
      refine wpAnyH_done (by kernel_rfl) ?_ _
      clear hHeld H7 hr9 ho9 hg9 hv9 HA
      go_wp2
      go_ret
      exact ⟨rfl, HE.out.px B5.out⟩
    · refine bsk (z := 22) (kc (fresh m)) Tryz.underlying72 infoK ⟨by decide, by decide⟩ ⟨by decide, by decide⟩ (by kernel_rfl) ?_
      intro b7 w7 h7 F7
      have N7 := Lib.hid (HA.out.le F7)
      have HA2 := Lib.hid (HA.out.on F7.below)
      have H7 := Lib.hid h7
      clear HA h7 F7
      have HA := HA2
      clear HA2
      refine hK.out _ _ HA.out.h3 (fun hNext => ?_)
      clear hK K hHeld
      have hHeld := hNext; clear hNext
      (try simp only [Act.put, z1', z2', z3'])
      refine ry [6] (.cons rfl (fun K hK => ?_) .nil)
      go_simp
      (with_reducible refine (CD.out _ HA.out).mono ?_)
      rintro e w8 ⟨ov, nv, cv, rfl, hA, hC⟩
      go_wp2_with fail
      try replace H7 := Lib.hid (hC.stays H7.out (VN.out _ N7.out))
      clear HA
      have HA := Lib.hid hA
      clear hA hC
      refine hK.out _ _ HA.out.h3 (fun hNext => ?_)
      clear hK K hHeld
      have hHeld := hNext; clear hNext
      (try simp only [Act.put, z1', z2', z3'])
      refine ry [10] ?_
      refine AllReadyH.cons (o := ⟨some 28, .call ⟨.builtin .append, #[.tmp 24, .tmp 27], #[72, 72]⟩, 72, "ctl.go:64", #[⟨6, .data⟩, ⟨9, .data⟩, ⟨6, .chain⟩], none⟩) rfl (fun K hK => ?_) AllReadyH.nil
      replace H7 := Lib.hid H7.out
      obtain ⟨v9, w9, hr9, ho9, hg9, hv9⟩ := run_append_elt eltK _ _ base _ _ HA.out.own b7 1 (fresh m) (row_ofk H7.out) HL9.out HA.out.base_le
      obtain ⟨ow, cw, rfl, _⟩ := row_form ho9
      obtain ⟨nw, hnw⟩ : ∃ nw, (L9 ++ [fresh m]).length = nw := ⟨_, rfl⟩
      rw [hnw] at hr9 ho9 hv9
      clear hnw
      refine step_append_known rfl _ _ _ _ rfl rfl rfl hr9 ?_
      have HE := Lib.hid (HA.out.put HP5.out N3.out ho9 hg9 hv9 HX.out.1 HX.out.2)
      have c5 := HE.out.c5
      have hf := HE.out.fr
      have hl := HE.out.lt
      refine hK.out _ _ HE.out.h3 (fun hNext => ?_)
      clear hK K hHeld
      have hHeld := hNext; clear hNext
      (try simp only [Act.put, z1', z2', z3'])
      refine' tk9 11 rfl ?_
      refine' tk9 12 rfl ?_
      refine ry [13] (.cons rfl (fun K hK => ?_) .nil)
      go_simp
      clear c5 hf hl
      refine hK.out _ _ HE.out.h3' (fun hNext => ?_)
      clear hK K hHeld
      have hHeld := hNext; clear hNext
      (try simp only [Act.put])
      refine wpAnyH_done (by kernel_rfl) ?_ _
      clear hHeld H7 hr9 ho9 hg9 hv9 HA
      go_wp2
      go_ret
      exact ⟨rfl, HE.out.px B5.out⟩
  · refine bsk (z := 22) (kc (fresh m)) Tryz.underlying72 infoK ⟨by decide, by decide⟩ ⟨by decide, by decide⟩ (by kernel_rfl) ?_
    intro b7 w7 h7 F7
    have N7 := Lib.hid (HA.out.le F7)
    have HA2 := Lib.hid (HA.out.on F7.below)
    have H7 := Lib.hid h7
    clear HA h7 F7
    have HA := HA2
    clear HA2
    refine hK.out _ _ HA.out.h3 (fun hNext => ?_)
    clear hK K hHeld
    have hHeld := hNext; clear hNext
    (try simp only [Act.put, z1', z2', z3'])
    refine ry [4] (.cons rfl (fun K hK => ?_) .nil)
    obtain ⟨c5, hf, hl⟩ := HA.out.c5 HP5.out
    go_simp
    clear c5 hf hl
    refine hK.out _ _ HA.out.h3 (fun hNext => ?_)
    clear hK K hHeld
    have hHeld := hNext; clear hNext
    (try simp only [Act.put, z1', z2', z3'])
    refine ry [6] (.cons rfl (fun K hK => ?_) .nil)
    go_simp
    (with_reducible refine (CD.out _ HA.out).mono ?_)
    rintro e w8 ⟨ov, nv, cv, rfl, hA, hC⟩
    go_wp2_with fail
    try replace H7 := Lib.hid (hC.stays H7.out (VN.out _ N7.out))
    clear HA
    have HA := Lib.hid hA
    clear hA hC
    refine hK.out _ _ HA.out.h3 (fun hNext => ?_)
    clear hK K hHeld
    have hHeld := hNext; clear hNext
    (try simp only [Act.put, z1', z2', z3'])
    refine ry [10] ?_
    refine AllReadyH.cons (o := ⟨some 28, .call ⟨.builtin .append, #[.tmp 24, .tmp 27], #[72, 72]⟩, 72, "ctl.go:64", #[⟨6, .data⟩, ⟨9, .data⟩, ⟨6, .chain⟩], none⟩) rfl (fun K hK => ?_) AllReadyH.nil
    replace H7 := Lib.hid H7.out
    obtain ⟨v9, w9, hr9, ho9, hg9, hv9⟩ := run_append_elt eltK _ _ base _ _ HA.out.own b7 1 (fresh m) (row_ofk H7.out) HL9.out HA.out.base_le
    obtain ⟨ow, cw, rfl, _⟩ := row_form ho9
    obtain ⟨nw, hnw⟩ : ∃ nw, (L9 ++ [fresh m]).length = nw := ⟨_, rfl⟩
    rw [hnw] at hr9 ho9 hv9
    clear hnw
    refine step_append_known rfl _ _ _ _ rfl rfl rfl hr9 ?_
    have HE := Lib.hid (HA.out.put HP5.out N3.out ho9 hg9 hv9 HX.out.1 HX.out.2)
    have c5 := HE.out.c5
    have hf := HE.out.fr
    have hl := HE.out.lt
    refine hK.out _ _ HE.out.h3 (fun hNext => ?_)
    clear hK K hHeld
    have hHeld := hNext; clear hNext
    (try simp only [Act.put, z1', z2', z3'])
    refine' tk9 11 rfl ?_
    refine' tk9 12 rfl ?_
    refine ry [13] (.cons rfl (fun K hK => ?_) .nil)
    go_simp
    clear c5 hf hl
    refine hK.out _ _ HE.out.h3' (fun hNext => ?_)
    clear hK K hHeld
    have hHeld := hNext; clear hNext
    (try simp only [Act.put])
    refine wpAnyH_done (by kernel_rfl) ?_ _
    clear hHeld H7 hr9 ho9 hg9 hv9 HA
    go_wp2
    go_ret
    exact ⟨rfl, HE.out.px B5.out⟩
end
end Go.Proofs.YtakkhdammmcjcaaGreatDoor.Ctl
namespace Go.Proofs.YtakkhdammmcjcaaGreatDoor.Ctl
open Go.RowKit Base Mem Msgs Cr
set_option maxRecDepth 100000
theorem ticks_app (n2 : Nat) (y : Wt) : ∀ l : List Wt, ticks n2 (l ++ [y]) = ((ticks n2 l).1 ++ (ticks n2 [y]).1, (ticks n2 l).2 ++ (ticks n2 [y]).2)
 | [] => rfl
 | v :: l => by
  have ih := ticks_app n2 y l
  show ticks n2 (v :: (l ++ [y])) = _
  unfold ticks
  split
  · rw [ih]; rfl
  · split
    · rw [ih]; rfl
    · rw [ih]; rfl
theorem ticks_next (n2 : Nat) {l : List Wt} {k : Nat} {y : Wt} (hy : l[k]? = some y) : ticks n2 (l.take (k + 1)) = ((ticks n2 (l.take k)).1 ++ (ticks n2 [y]).1, (ticks n2 (l.take k)).2 ++ (ticks n2 [y]).2) := by
 rw [List.take_add_one, hy]; exact ticks_app n2 y _
theorem ticks_len (n2 : Nat) : ∀ l : List Wt, (ticks n2 l).1.length ≤ l.length ∧ (ticks n2 l).2.length ≤ l.length
 | [] => ⟨Nat.le_refl _, Nat.le_refl _⟩
 | v :: l => by
  have ih := ticks_len n2 l
  unfold ticks
  split
  · simp; omega
  · split
    · simp; omega
    · simp; omega
section
variable {w w' : World} {c base b g n cap : Nat} {va vc v vf vs : Value} {x : Ct} {l : List Wt} {A : List Fa} {B : List Wt}
/-- Within Tick: what is lost, what stays; nothing that was there has turned. -/
structure Ti (w : World) (vf vs : Value) (A : List Fa) (B : List Wt) (wr : World) : Prop where
 f : OwnS FT 21 fl wr w.heap.size vf A
 s : OwnS WT 23 wl wr w.heap.size vs B
 below : Below w.heap.size w wr
theorem Ti.on (h : Ti w vf vs A B w') {u : World} (hb : Below w'.heap.size w' u) : Ti w vf vs A B u := ⟨h.f.below hb, h.s.below hb, below_on h.below hb⟩
theorem Ti.addF (h : Ti w vf vs A B w') {u : World} {v' : Value} {A' : List Fa} (ho : OwnS FT 21 fl u w.heap.size v' A') (hg : w'.grownBy u vf.ownBlock) : Ti w v' vs A' B u :=
 ⟨ho, own_keep h.s fun k hk => hg.block k (h.s.lt k hk).2 fun e => by
  obtain ⟨cs, h1⟩ := own_blk h.s hk
  obtain ⟨cs', h2⟩ := own_blk h.f e.symm
  exact ne_type h1 h2 (by decide) rfl, h.below.grown hg h.below.size fun k hk => (h.f.lt k hk).1⟩
theorem Ti.addS (h : Ti w vf vs A B w') {u : World} {v' : Value} {B' : List Wt} (ho : OwnS WT 23 wl u w.heap.size v' B') (hg : w'.grownBy u vs.ownBlock) : Ti w vf v' A B' u :=
 ⟨own_keep h.f fun k hk => hg.block k (h.f.lt k hk).2 fun e => by
  obtain ⟨cs, h1⟩ := own_blk h.f hk
  obtain ⟨cs', h2⟩ := own_blk h.s e.symm
  exact ne_type h1 h2 (by decide) rfl, ho, h.below.grown hg h.below.size fun k hk => (h.s.lt k hk).1⟩
theorem Ti.cast {A' : List Fa} {B' : List Wt} (h : Ti w vf vs A B w') (e1 : A' = A) (e2 : B' = B) : Ti w vf vs A' B' w' := by rw [e1, e2]; exact h
theorem wcells {b : Nat} {y : Wt} {t : TypeId} (h : w.heap[b]? = some (.cells (wc y) t (0, 0))) : w.cell? ⟨b, 20, none⟩ = some (nm y.tr) ∧ w.cell? ⟨b, 21, none⟩ = some (nm y.lf) ∧ w.cell? ⟨b, 22, none⟩ = some (.bool y.sd) := ⟨cell_of h rfl, cell_of h rfl, cell_of h rfl⟩
theorem set_lf {b : Nat} {y : Wt} {t : TypeId} (h : w.heap[b]? = some (.cells (wc y) t (0, 0))) (k : Nat) : (w.setCell ⟨b, 21, none⟩ (nm k)).heap[b]? = some (.cells (wc ⟨y.m, y.tr, k, y.sd⟩) t (0, 0)) := block_set h _
theorem set_tl {b : Nat} {y : Wt} {t : TypeId} (h : w.heap[b]? = some (.cells (wc y) t (0, 0))) : ((w.setCell ⟨b, 21, none⟩ (.int .i64 0)).setCell ⟨b, 20, none⟩ (.int .i64 ((y.tr : Int) + 1))).heap[b]? = some (.cells (wc ⟨y.m, y.tr + 1, 0, y.sd⟩) t (0, 0)) := block_set (block_set h _) _
set_option maxHeartbeats 16000000 in
theorem rtick (h : D w c base va vc x) (hx : x.Ok) : Calls Tryz.prog 33 #[ptr c] w fun e w' => ∃ v, e = .returned v ∧ OwnS FT 21 fl w' w.heap.size v x.tick.2 ∧ Nx w c base va vc x.tick.1 w' := by
 obtain ⟨oa, cap, rfl, ga⟩ := own_form h.cs
 obtain ⟨n, hln⟩ : ∃ n, x.cs.length = n := ⟨_, rfl⟩
 have hmany := hx.cs_few
 rw [hln] at h ga hmany ⊢
 have HD := Lib.hid h
 have GA := Lib.hid ga
 have HL := Lib.hid hln
 have HK0 := Lib.hid hx
 obtain ⟨c8, c9, c10, c11⟩ := h.cells
 have hl := h.hd.lt
 have H0 : Hid (Ti w (.slice none 0 0) (.slice none 0 0) (ticks x.n2 (x.cs.take 0)).2 (ticks x.n2 (x.cs.take 0)).1 w) := Lib.hid ⟨ownS_nil _ _, ownS_nil _ _, Below.refl _ _⟩
 clear h hx hln ga
 go_enter Tryz.func33, Tryz.ntmps33
 go_wp2_with fail
 go_loopg [3, 4, 5, 6] n (fun gm s3 s4 s s6 wr => ∃ k : Nat, s = nm k ∧ n - k ≤ gm ∧ k ≤ n ∧ Hid (Ti w s3 s4 (ticks x.n2 (x.cs.take k)).2 (ticks x.n2 (x.cs.take k)).1 wr))
 case atStart => exact ⟨0, rfl, by omega, by omega, H0⟩
 case round =>
  clear H0 c8 c9 c10 c11 hl
  obtain ⟨k, rfl, hgm, hkn, HI⟩ := hrel
  obtain ⟨c8, c9, c10, c11⟩ := (HD.out.below HI.out.below).cells
  have hl := (HD.out.below HI.out.below).hd.lt
  by_cases hlt : k < n
  · have t1 : decide ((k : Int) < (n : Int)) = true := decide_eq_true (by omega)
    have t2 : (k : Int) < (n : Int) := by omega
    have j0 : (0 : Int) ≤ (k : Int) := by omega
    have vk := wrap_nat (k + 1) (by omega)
    obtain ⟨g, rfl⟩ := GA.out k hlt
    obtain ⟨y, hy⟩ : ∃ y, x.cs[k]? = some y := ⟨_, List.getElem?_eq_getElem (by rw [HL.out]; exact hlt)⟩
    have HR := Lib.hid (own_rangez wl_len (HD.out.below HI.out.below).cs k y hy)
    have HN := Lib.hid (ticks_next x.n2 hy)
    have hlf := HK0.out.lf y (List.mem_of_getElem? hy)
    have htr := HK0.out.tr y (List.mem_of_getElem? hy)
    have HLn : Hid ((ticks x.n2 (x.cs.take k)).1.length + 1 ≤ 1000000 ∧ (ticks x.n2 (x.cs.take k)).2.length + 1 ≤ 1000000) := Lib.hid (by
     have := ticks_len x.n2 (x.cs.take k)
     rw [List.length_take] at this
     omega)
    clear hy
    by_cases h1 : y.lf = 1
    · have u0 : ((y.lf : Int) != 1) = false := bne_false (by omega)
      have vt := wrap_nat (y.tr + 1) (by omega)
      have h1' := Lib.hid h1
      go_wp2_with (first
       | ((with_reducible refine ldz isW HR.out ?hz ?hx ?_); (case hz => rfl); (case hx => rfl))
       | ((with_reducible refine alr (cs := wc noW) (by kernel_rfl) ?_); intro b6 w1 h1 F1; have H5 := Lib.hid h1; have B1 := Lib.hid F1.below; have E1 := Lib.hid F1.eq; clear h1 F1 c8 c9 c10 c11 hl)
       | ((with_reducible refine str (wc y) isW H5.out ?h0 ?h1 ?hc ?hx ?hy ?_); (case h0 => rfl); (case h1 => rfl); (case hc => exact all_oneCell_toArray (wl_one y)); (case hx => rfl); (case hy => rfl); intro w2 h2 M2; have B2 := Lib.hid (M2.below B1.out (by rw [E1.out]; exact Nat.le_refl _)); have H6 := Lib.hid h2; obtain ⟨c8, c9, c10, c11⟩ := (HD.out.below (below_on HI.out.below B2.out)).cells; have hl := (HD.out.below (below_on HI.out.below B2.out)).hd.lt; obtain ⟨e0, e1, e2⟩ := wcells h2; have e3 : ∀ i, w2.frozen? ⟨b6, i, none⟩ = false := fun _ => free_of h2; have e4 := lt_heap h2; have n6 : b6 ≠ c := fun e => ne_type h2 (HD.out.below (below_on HI.out.below B2.out)).hd (by decide) e; clear h2 M2))
      have H9 := Lib.hid (set_tl H6.out)
      have M9 : Mod b6 w2 ((w2.setCell ⟨b6, 21, none⟩ (.int .i64 0)).setCell ⟨b6, 20, none⟩ (.int .i64 ((y.tr : Int) + 1))) := (mod_setCell b6 21 w2 _).trans (mod_setCell b6 20 _ _)
      have B9 := Lib.hid (M9.below B2.out (by rw [E1.out]; exact Nat.le_refl _))
      clear M9 c8 c9 c10 c11 hl e0 e1 e2 e3 e4 n6 H5 H6 B1 B2 HR
      generalize (w2.setCell ⟨b6, 21, none⟩ (.int .i64 0)).setCell ⟨b6, 20, none⟩ (.int .i64 ((y.tr : Int) + 1)) = w3 at H9 B9 ⊢
      obtain ⟨y2, hy2⟩ : ∃ y2 : Wt, y2 = ⟨y.m, y.tr + 1, 0, y.sd⟩ := ⟨_, rfl⟩
      rw [← hy2] at H9
      have HI3 := Lib.hid (HI.out.on B9.out)
      obtain ⟨c8, c9, c10, c11⟩ := (HD.out.below HI3.out.below).cells
      have hl := (HD.out.below HI3.out.below).hd.lt
      have e0 : w3.cell? ⟨b6, 20, none⟩ = some (.int .i64 ((y.tr : Int) + 1)) := by
       have := (wcells H9.out).1
       rw [hy2] at this; exact this
      have hb6 := lt_heap H9.out
      by_cases hn : x.n2 < y.tr + 1
      · have u1 : decide ((x.n2 : Int) < (y.tr : Int) + 1) = true := decide_eq_true (by omega)
        have u2 : (x.n2 : Int) < (y.tr : Int) + 1 := by omega
        have HN2 : Hid (ticks x.n2 [y] = ([], [⟨4, y.m⟩])) := Lib.hid (by
         unfold ticks; rw [if_neg (by omega), if_pos hn]; rfl)
        have HM : Hid (y2.m = y.m) := Lib.hid (by rw [hy2])
        go_wp2_with fail
        go_quiet (fail)
        have HI4 := Lib.hid (HI3.out.on (u := w3.drewN nq) ⟨rfl, rfl, rfl, Nat.le_refl _, fun _ _ => rfl⟩)
        have H94 : Hid ((w3.drewN nq).heap[b6]? = some (.cells (wc y2) WT (0, 0))) := Lib.hid H9.out
        clear c8 c9 c10 c11 hl e0 hb6 HI3 H9
        generalize w3.drewN nq = w4 at HI4 H94 ⊢
        go_wp2_with (first
         | ((with_reducible refine ldr (m := y2.m) isR (range_m H94.out) ?hx ?_); (case hx => rfl))
         | ((with_reducible refine bdB (builtF 4 y2.m) ?hl ?_); (case hl => kernel_rfl))
         | ((with_reducible refine bslz (z := 21) (fc ⟨4, y2.m⟩) Tryz.underlying83 infoF ?hl ?hz ?hf ?_); (case hl => exact ⟨by decide, by decide⟩); (case hz => exact ⟨by decide, by decide⟩); (case hf => kernel_rfl); intro b7 w7 h7 F7; have HI7 := Lib.hid (HI4.out.on F7.below); have H7 := Lib.hid h7; clear h7 F7)
         | (at_builtin; refine wpList_append_elt eltF _ rfl _ _ rfl w.heap.size _ rfl _ HI7.out.f b7 _ rfl ⟨4, y2.m⟩ (row_ofz H7.out) HLn.out.2 HI7.out.below.size ?_; intro v' w8 ho hg _; have HI8 := Lib.hid (HI7.out.addF ho hg); clear ho hg))
        have HI9 := Lib.hid (HI8.out.cast (show (ticks x.n2 (x.cs.take (k + 1))).2 = _ by rw [HN.out, HN2.out, HM.out]) (show (ticks x.n2 (x.cs.take (k + 1))).1 = _ by rw [HN.out, HN2.out, List.append_nil]))
        go_roundg (n - (k + 1))
        case measure => omega
        case rel => exact ⟨k + 1, by first | rfl | go_num, Nat.le_refl _, by omega, HI9⟩
      · have u1 : decide ((x.n2 : Int) < (y.tr : Int) + 1) = false := decide_eq_false (by omega)
        have u2 : ¬ (x.n2 : Int) < (y.tr : Int) + 1 := by omega
        have HN2 : Hid (ticks x.n2 [y] = ([y2], [])) := Lib.hid (by
         unfold ticks; rw [if_neg (by omega), if_neg hn, hy2]; rfl)
        go_wp2_with fail
        go_quiet (fail)
        have HI4 := Lib.hid (HI3.out.on (u := w3.drewN nq) ⟨rfl, rfl, rfl, Nat.le_refl _, fun _ _ => rfl⟩)
        have H94 : Hid ((w3.drewN nq).heap[b6]? = some (.cells (wc y2) WT (0, 0))) := Lib.hid H9.out
        clear c8 c9 c10 c11 hl e0 hb6 HI3 H9
        generalize w3.drewN nq = w4 at HI4 H94 ⊢
        go_wp2_with (first
         | ((with_reducible refine ldz isW (rangez_of (vs := wl y2) H94.out) ?hz ?hx ?_); (case hz => rfl); (case hx => rfl))
         | ((with_reducible refine bslz (z := 23) (wc y2) Tryz.underlying50 infoW ?hl ?hz ?hf ?_); (case hl => exact ⟨by decide, by decide⟩); (case hz => exact ⟨by decide, by decide⟩); (case hf => kernel_rfl); intro b7 w7 h7 F7; have HI7 := Lib.hid (HI4.out.on F7.below); have H7 := Lib.hid h7; clear h7 F7)
         | (at_builtin; refine wpList_append_elt eltW _ rfl _ _ rfl w.heap.size _ rfl _ HI7.out.s b7 _ rfl y2 (row_ofz H7.out) HLn.out.1 HI7.out.below.size ?_; intro v' w8 ho hg _; have HI8 := Lib.hid (HI7.out.addS ho hg); clear ho hg))
        have HI9 := Lib.hid (HI8.out.cast (show (ticks x.n2 (x.cs.take (k + 1))).2 = _ by rw [HN.out, HN2.out, List.append_nil]) (show (ticks x.n2 (x.cs.take (k + 1))).1 = _ by rw [HN.out, HN2.out]))
        go_roundg (n - (k + 1))
        case measure => omega
        case rel => exact ⟨k + 1, by first | rfl | go_num, Nat.le_refl _, by omega, HI9⟩
    · have u0 : ((y.lf : Int) != 1) = true := bne_true (by omega)
      have vm : max (0 : Int) ((y.lf : Int) - 1) = ((y.lf - 1 : Nat) : Int) := by omega
      have vw : IntKind.i64.wrap ((y.lf : Int) - 1) = (y.lf : Int) - 1 := by rw [IntKind.wrap_i64]; omega
      obtain ⟨y2, hy2⟩ : ∃ y2 : Wt, y2 = ⟨y.m, y.tr, y.lf - 1, y.sd⟩ := ⟨_, rfl⟩
      have HY2 := Lib.hid hy2
      have HN2 : Hid (ticks x.n2 [y] = ([y2], [])) := Lib.hid (by
       unfold ticks; rw [if_pos h1, hy2]; rfl)
      clear hy2 h1
      go_wp2_with (first
       | ((with_reducible refine ldz isW HR.out ?hz ?hx ?_); (case hz => rfl); (case hx => rfl))
       | ((with_reducible refine alr (cs := wc noW) (by kernel_rfl) ?_); intro b6 w1 h1 F1; have H5 := Lib.hid h1; have B1 := Lib.hid F1.below; have E1 := Lib.hid F1.eq; clear h1 F1 c8 c9 c10 c11 hl)
       | ((with_reducible refine str (wc y) isW H5.out ?h0 ?h1 ?hc ?hx ?hy ?_); (case h0 => rfl); (case h1 => rfl); (case hc => exact all_oneCell_toArray (wl_one y)); (case hx => rfl); (case hy => rfl); intro w2 h2 M2; have B2 := Lib.hid (M2.below B1.out (by rw [E1.out]; exact Nat.le_refl _)); have H6 := Lib.hid h2; obtain ⟨c8, c9, c10, c11⟩ := (HD.out.below (below_on HI.out.below B2.out)).cells; have hl := (HD.out.below (below_on HI.out.below B2.out)).hd.lt; obtain ⟨e0, e1, e2⟩ := wcells h2; have e3 : ∀ i, w2.frozen? ⟨b6, i, none⟩ = false := fun _ => free_of h2; have e4 := lt_heap h2; have n6 : b6 ≠ c := fun e => ne_type h2 (HD.out.below (below_on HI.out.below B2.out)).hd (by decide) e; have H8 : Hid ((w2.setCell ⟨b6, 21, none⟩ (nm (y.lf - 1))).heap[b6]? = some (.cells (wc y2) WT (0, 0))) := Lib.hid (by rw [HY2.out]; exact set_lf h2 _); have B8 := Lib.hid (((mod_setCell b6 21 w2 (nm (y.lf - 1)))).below (M2.below B1.out (by rw [E1.out]; exact Nat.le_refl _)) (by rw [E1.out]; exact Nat.le_refl _)); have HI3 := Lib.hid (HI.out.on B8.out); clear h2 M2)
       | ((with_reducible refine ldz isW (rangez_of (vs := wl y2) H8.out) ?hz ?hx ?_); (case hz => rfl); (case hx => rfl))
       | ((with_reducible refine bslz (z := 23) (wc y2) Tryz.underlying50 infoW ?hl ?hz ?hf ?_); (case hl => exact ⟨by decide, by decide⟩); (case hz => exact ⟨by decide, by decide⟩); (case hf => kernel_rfl); intro b7 w7 h7 F7; have HI7 := Lib.hid (HI3.out.on F7.below); have H7 := Lib.hid h7; clear h7 F7)
       | (at_builtin; refine wpList_append_elt eltW _ rfl _ _ rfl w.heap.size _ rfl _ HI7.out.s b7 _ rfl y2 (row_ofz H7.out) HLn.out.1 HI7.out.below.size ?_; intro v' w8 ho hg _; have HI8 := Lib.hid (HI7.out.addS ho hg); clear ho hg))
      have HI9 := Lib.hid (HI8.out.cast (show (ticks x.n2 (x.cs.take (k + 1))).2 = _ by rw [HN.out, HN2.out, List.append_nil]) (show (ticks x.n2 (x.cs.take (k + 1))).1 = _ by rw [HN.out, HN2.out]))
      go_roundg (n - (k + 1))
      case measure => omega
      case rel => exact ⟨k + 1, by first | rfl | go_num, Nat.le_refl _, by omega, HI9⟩
  · obtain rfl : k = n := by omega
    have t1 : decide ((k : Int) < (k : Int)) = false := decide_eq_false (by omega)
    have t2 : ¬ (k : Int) < (k : Int) := by omega
    have HT : Hid (x.cs.take k = x.cs) := Lib.hid (List.take_of_length_le (by rw [HL.out]; exact Nat.le_refl _))
    rw [HT.out] at HI
    obtain ⟨ov, cv, rfl, _⟩ := own_form HI.out.s
    have hf := (HD.out.below HI.out.below).free
    have hDl := HD.out.own_lt
    have HE := Lib.hid ((HD.out.below HI.out.below).set_cs (own_weak HI.out.s (Nat.le_trans HD.out.lo (Nat.le_of_lt HD.out.hd.lt))) fun j hj e => by
     have h3 := (HD.out.own_lt j (.inr (.inl hj))).2
     have h4 := (HI.out.s.lt j e).1
     omega)
    have HC := Lib.hid ((Chg.of_below (S := DS c va (.slice oa k cap)) HI.out.below).setCell c 11 (.slice ov (ticks x.n2 x.cs).1.length cv) fun _ => .inl rfl)
    have HF := Lib.hid (own_keep (w' := wr.setCell ⟨c, 11, none⟩ (.slice ov (ticks x.n2 x.cs).1.length cv)) HI.out.f fun j hj => set_other (fun e => by
     have := (HI.out.f.lt j hj).1
     have := HD.out.hd.lt
     omega) _)
    clear hDl
    go_wp2
    go_ret
    refine ⟨_, rfl, HF.out, ⟨⟨_, _, HE.out, fun j hj => ?_⟩, HC.out⟩⟩
    rcases hj with hj | hj | hj
    · exact .inl (.inl hj)
    · exact .inl (.inr (.inl hj))
    · exact .inr (HI.out.s.lt j hj).1
end
end Go.Proofs.YtakkhdammmcjcaaGreatDoor.Ctl
