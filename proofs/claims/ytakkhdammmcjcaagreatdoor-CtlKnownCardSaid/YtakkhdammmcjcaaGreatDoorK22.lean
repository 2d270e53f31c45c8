/-
  Layer 22, put together: CtlCmd. Conditions: as each theorem names them.
-/
import Derived.Test.YtakkhdammmcjcaaGreatDoorK20
import Derived.Test.YtakkhdammmcjcaaGreatDoorK09
import Derived.Test.YtakkhdammmcjcaaGreatDoorK01
namespace Go.Proofs.YtakkhdammmcjcaaGreatDoor.Ctl
open Go.RowKit Base Mem Msgs Cr
set_option maxRecDepth 100000
theorem infoR' : (Tryz.prog.info? RT).map (fun i => (i.zero, i.size)) = some (some (.agg (mc Msgs.zero)), 20) := by kernel_rfl
section
variable {ops : Array Oper} {a : Act} {w : World} {K : Act → World → Prop} {Q : Exit → Act → World → Prop} {X : Prop} {d : Option Tmp} {x y : Operand} {ty : TypeId} {pos : String} {af : Array Edge} {T b : Nat} {m : Ms} {t : TypeId}
theorem step_bslz {z len : Nat} {S e : Nat} {zc : Array Value} {parts : Array (Nat × Operand)} (cells : Array Value) (hu : Tryz.prog.underlying S = some (.slice e)) (he : (Tryz.prog.info? e).map (fun i => (i.zero, i.size)) = some (some (.agg zc), z)) (hl : 0 < len ∧ len ≤ 100) (hz : 0 < z ∧ z ≤ 100)
 (hf : Instr.fill (fun i => some (i * z, z)) ((Array.range (len * z)).map (zc[· % zc.size]!)) (parts.map fun (i, x) => (i, a.eval x)).toList = some cells)
 (k : ∀ (b : Nat) (w' : World), w'.heap[b]? = some (.cells cells e (0, 0)) → Fresh b w w' → K (a.put d (.slice (some ⟨b, 0, none⟩) len len)) w') :
 if Region.wanted { dst := d, op := .buildSlice S len parts, type := ty, pos := pos, after := af, guard := none } (yielded ops a.tmps) = true then Oper.wp Tryz.prog { dst := d, op := .buildSlice S len parts, type := ty, pos := pos, after := af, guard := none } a w K Q else X := by
 rw [if_pos (by simp [Region.wanted])]
 cases hq : Tryz.prog.info? e with
 | none => simp [hq] at he
 | some i =>
  simp only [hq, Option.map_some, Option.some.injEq, Prod.mk.injEq] at he
  have hm : len * z ≤ 100 * 100 := Nat.mul_le_mul hl.2 hz.2
  have hp : 0 < len * z := Nat.mul_pos hl.1 hz.1
  refine wp_buildSlice S e len parts rfl cells i (.agg zc) hu hq he.1 (by rw [he.2]; omega) (by rw [he.2]; omega) (by rw [he.2]; exact hf) ?_
  exact k w.heap.size (w.alloc (.cells cells e (0, 0))) (nest w [_] 0 _ rfl) (fresh_alloc w _)
theorem step_ldp (hT : IsRow T 8) (h : w.heap[b]? = some (mO m t)) (hx : a.eval x = .pointer (some ⟨b, 2, none⟩)) (k : K (a.put d (Pn.pv m.p)) w) :
 if Region.wanted { dst := d, op := .load T x, type := ty, pos := pos, after := af, guard := none } (yielded ops a.tmps) = true then Oper.wp Tryz.prog { dst := d, op := .load T x, type := ty, pos := pos, after := af, guard := none } a w K Q else X := by
 rw [if_pos (by simp [Region.wanted])]
 obtain ⟨fs, hu⟩ := hT.under
 exact wp_load_mid T x rfl b 2 hx _ _ (range_p h) hu rfl hT.size k
theorem step_stp (hT : IsRow T 8) {p : Pn.Pr} (h : w.heap[b]? = some (mO m t)) (hx : a.eval x = .pointer (some ⟨b, 2, none⟩)) (hy : a.eval y = Pn.pv p) (k : ∀ w', w'.heap[b]? = some (mO ⟨m.k, m.c, p, m.s, m.t, m.b⟩ t) → Mod b w w' → K (a.put d undef) w') :
 if Region.wanted { dst := d, op := .store T x y, type := ty, pos := pos, after := af, guard := none } (yielded ops a.tmps) = true then Oper.wp Tryz.prog { dst := d, op := .store T x y, type := ty, pos := pos, after := af, guard := none } a w K Q else X := by
 rw [if_pos (by simp [Region.wanted])]
 obtain ⟨cs', h1, _, h3, h4⟩ := setCells_block b [.int .u8 p.d, .int .u8 p.f, .int .u8 p.c, .int .u8 p.r, .int .i64 p.t, .int .i64 p.n, .int .i64 p.z, .int .i64 p.k] 2 w _ t h
 obtain rfl := over_p m p cs' h3
 exact wp_store_mid T x y rfl b 2 _ hx hy (there_of h (by rw [mc_size]; show 2 + 8 ≤ 20; decide)) hT.size (by simp [Value.oneCell']) (k _ h1 h4)
theorem ex_ldo {c : Nat} {va vc : Value} {x' : Ct} {g : Option (Nat × Bool)} {ρ : Operand → Value} (hT : IsRow T 8) (h : w.heap[c]? = some (.cells (dcl x' va vc) DT (0, 0))) (hx : ρ x = .pointer (some ⟨c, 0, none⟩)) :
 (execOp ρ { dst := d, op := .load T x, type := ty, pos := pos, after := af, guard := g }).run Tryz.prog w = .ok (.value (Pn.pv x'.own)) w :=
 ex_ldz [.int .u8 x'.own.d, .int .u8 x'.own.f, .int .u8 x'.own.c, .int .u8 x'.own.r, .int .i64 x'.own.t, .int .i64 x'.own.n, .int .i64 x'.own.z, .int .i64 x'.own.k] hT (fun j v hv => by
  rw [Nat.zero_add]
  match j, hv with
  | 0, hv => exact (cell_of h rfl).trans hv
  | 1, hv => exact (cell_of h rfl).trans hv
  | 2, hv => exact (cell_of h rfl).trans hv
  | 3, hv => exact (cell_of h rfl).trans hv
  | 4, hv => exact (cell_of h rfl).trans hv
  | 5, hv => exact (cell_of h rfl).trans hv
  | 6, hv => exact (cell_of h rfl).trans hv
  | 7, hv => exact (cell_of h rfl).trans hv) rfl hx
end
section
variable {w u u' : World} {c base b3 b5 : Nat} {va vc v' : Value} {x : Ct} {m m3 m5 : Ms} {l : List Ms}
def nscO (t : Nat) : Ms := ⟨7, false, Pn.zero, Msc.zero, t, no⟩
theorem src_one {b : Nat} (h : w.heap[b]? = some (.cells (mc m) RT (0, 0))) : Src Tryz.prog 20 49 (.slice (some ⟨b, 0, none⟩) 1 1) 1 ([m].flatMap ml) w :=
 srcz_at eltR w b 0 1 1 [m] rfl fun i y hy j hj => by
  have hi : i = 0 := by
   have := (List.getElem?_eq_some_iff.1 hy).1
   simp at this; omega
  subst hi
  obtain rfl : m = y := by simpa using hy
  rw [Nat.mul_zero, Nat.zero_add, Nat.zero_add]
  exact row_of h j hj
/-- What an append to the answers leaves, once it is stored. -/
structure Ap (u : World) (c base : Nat) (va vc v' : Value) (x : Ct) (l : List Ms) (u' : World) : Prop where
 d : D (u'.setCell ⟨c, 10, none⟩ v') c base v' vc { x with an := l }
 sub : ∀ k, DS c v' vc k → DS c va vc k ∨ u.heap.size ≤ k
 chg : Chg (DS c va vc) u (u'.setCell ⟨c, 10, none⟩ v')
 c10 : u'.cell? ⟨c, 10, none⟩ = some va
 f8 : ∀ i, u'.frozen? ⟨c, i, none⟩ = false
 l8 : c < u'.heap.size
theorem D.app_an (h : D u c base va vc x) (hq : Qz 20 ml u' base v' l) (hg : u.grownBy u' va.ownBlock) (ho : v'.ownBlock = va.ownBlock ∨ v'.ownBlock = some u.heap.size) : Ap u c base va vc v' x l u' := by
 have hcg := Chg.of_grown (S := fun k => va.ownBlock = some k) hg fun _ e => e
 have hd : At u' c (dcl x va vc) DT := h.hd.other hcg fun e => (h.ne c e).1 rfl
 have hcs : OwnS WT 23 wl u' base vc x.cs := own_keep h.cs fun k hk => hcg.block k (h.cs.lt k hk).2 fun e => (h.ne k e).2 hk
 have hne : ∀ k, v'.ownBlock = some k → k ≠ c ∧ vc.ownBlock ≠ some k := fun k hk => by
  rcases ho with e | e
  · exact h.ne k (e ▸ hk)
  · rw [e] at hk
    cases hk
    exact ⟨fun e => by have := h.hd.lt; omega, fun e => by have := (h.cs.lt _ e).2; omega⟩
 refine ⟨⟨hd.set 10 v', hq.eqv fun g hg => set_other (hne g hg).1 _, own_keep hcs fun g hg => set_other (fun e => ?_) _, hne, h.lo⟩, fun k hk => ?_, (hcg.mono fun _ e => .inr (.inl e)).setCell c 10 v' fun _ => .inl rfl, hd.cell 10 _ rfl, hd.free, hd.lt⟩
 · obtain ⟨cs, hc⟩ := own_blk hcs hg
   exact ne_type hd hc (by decide) e.symm
 · rcases hk with hk | hk | hk
   · exact .inl (.inl hk)
   · rcases ho with e | e
     · exact .inl (.inr (.inl (e ▸ hk)))
     · rw [e] at hk; cases hk; exact .inr (Nat.le_refl _)
   · exact .inl (.inr (.inr hk))
/-- Within command: nothing that was there has turned; the message, and what is answered, in their boxes. -/
structure R2 (w : World) (c base b3 b5 : Nat) (va vc : Value) (x : Ct) (m3 m5 : Ms) (u : World) : Prop where
 d : D u c base va vc x
 h3 : u.heap[b3]? = some (mO m3 RT)
 h5 : u.heap[b5]? = some (mO m5 RT)
 below : Below w.heap.size w u
 n3 : ¬ DS c va vc b3
 n5 : ¬ DS c va vc b5
theorem R2.on (h : R2 w c base b3 b5 va vc x m3 m5 u) (hb : Below u.heap.size u u') : R2 w c base b3 b5 va vc x m3 m5 u' := ⟨h.d.below hb, stays h.h3 hb, stays h.h5 hb, below_on h.below hb, h.n3, h.n5⟩
theorem R2.keep3 (h : R2 w c base b3 b5 va vc x m3 m5 u) (hg : u.grownBy u' va.ownBlock) : u'.heap[b3]? = some (mO m3 RT) := (hg.block b3 (lt_heap h.h3) fun e => h.n3 (.inr (.inl e.symm))).trans h.h3
theorem R2.keep5 (h : R2 w c base b3 b5 va vc x m3 m5 u) (hg : u.grownBy u' va.ownBlock) : u'.heap[b5]? = some (mO m5 RT) := (hg.block b5 (lt_heap h.h5) fun e => h.n5 (.inr (.inl e.symm))).trans h.h5
theorem R2.last3 (h : R2 w c base b3 b5 va vc x m3 m5 u) (hg : u.grownBy u' va.ownBlock) : (u'.setCell ⟨c, 10, none⟩ v').heap[b3]? = some (mO m3 RT) := (set_other (fun e => h.n3 (.inl e)) _).trans (h.keep3 hg)
theorem R2.last5 (h : R2 w c base b3 b5 va vc x m3 m5 u) (hg : u.grownBy u' va.ownBlock) : (u'.setCell ⟨c, 10, none⟩ v').heap[b5]? = some (mO m5 RT) := (set_other (fun e => h.n5 (.inl e)) _).trans (h.keep5 hg)
set_option maxHeartbeats 16000000 in
theorem rcommand (h : D w c base va vc x) (hx : x.Ok) (m : Ms) (hm : m.Ok) : Calls Tryz.prog 58 #[ptr c, mv m] w fun e w' => ∃ v, e = .returned v ∧ OwnS FT 21 fl w' w.heap.size v (x.command m).2 ∧ Nx w c base va vc (x.command m).1 w' := by
 obtain ⟨oa, cap, hva⟩ := h.an.form
 obtain ⟨zb, hzb⟩ : ∃ zb, x.an.length = zb := ⟨_, rfl⟩
 have hfew := hx.few
 have HLn : Hid (x.an.length + 1 ≤ 1000000) := Lib.hid (by omega)
 rw [hzb] at hva hfew
 have HD := Lib.hid h
 have hcm : x.command m = if m.k = 7 ∨ 64 ≤ x.an.length then (x, []) else if m.k = 8 then ({ x with an := x.an ++ [nsc m] }, []) else ({ x with an := x.an ++ [(agreed x.own m).cmd false] }, [⟨1, agreed x.own m⟩]) := rfl
 rw [hzb] at hcm
 clear h hx hzb
 by_cases h7 : m.k = 7
 · have u1 : ((m.k : Int) == 7) = true := by rw [h7]; rfl
   rw [hcm, if_pos (.inl h7)]
   clear hcm h7
   subst hva
   go_enter Tryz.func58, Tryz.ntmps58
   go_wp2_with (first
    | ((with_reducible refine bxm (m := m) ?hx ?_); (case hx => rfl); intro b3 w1 h F; have HD1 := Lib.hid (HD.out.below F.below); have H3 := Lib.hid h; have B1 := Lib.hid F.below; have L3 := Lib.hid (F.le (Below.refl _ _)); have N3 := Lib.hid (HD.out.not_new (k := b3) (by rw [F.eq]; exact Nat.le_refl _)); obtain ⟨d0, d1, d2, d3, d4, d5⟩ := lay h; obtain ⟨c8, c9, c10, c11⟩ := HD1.out.cells; have hl := HD1.out.hd.lt; clear h F))
   go_ret
   exact ⟨_, rfl, ownS_nil _ _, Nx.below HD.out B1.out⟩
 have u1 : ((m.k : Int) == 7) = false := Mem.beq_false (by omega)
 by_cases h64 : 64 ≤ zb
 · have u2 : decide ((64 : Int) ≤ (zb : Int)) = true := decide_eq_true (by omega)
   have u3 : (64 : Int) ≤ (zb : Int) := by omega
   rw [hcm, if_pos (.inr h64)]
   clear hcm h7
   subst hva
   go_enter Tryz.func58, Tryz.ntmps58
   go_wp2_with (first
    | ((with_reducible refine bxm (m := m) ?hx ?_); (case hx => rfl); intro b3 w1 h F; have HD1 := Lib.hid (HD.out.below F.below); have H3 := Lib.hid h; have B1 := Lib.hid F.below; have L3 := Lib.hid (F.le (Below.refl _ _)); have N3 := Lib.hid (HD.out.not_new (k := b3) (by rw [F.eq]; exact Nat.le_refl _)); obtain ⟨d0, d1, d2, d3, d4, d5⟩ := lay h; obtain ⟨c8, c9, c10, c11⟩ := HD1.out.cells; have hl := HD1.out.hd.lt; clear h F))
   go_ret
   exact ⟨_, rfl, ownS_nil _ _, Nx.below HD.out B1.out⟩
 have u2 : decide ((64 : Int) ≤ (zb : Int)) = false := decide_eq_false (by omega)
 have u3 : ¬ (64 : Int) ≤ (zb : Int) := by omega
 rw [if_neg (by omega)] at hcm
 by_cases h8 : m.k = 8
 · have u4 : ((m.k : Int) == 8) = true := by rw [h8]; rfl
   rw [if_pos h8] at hcm
   have co := fun w => roctet m hm.in_ w
   have hn : nsc m = nscO (oct m) := rfl
   rw [hn] at hcm
   generalize oct m = ot at co hcm
   have CO := Lib.hid co
   have HCM := Lib.hid hcm
   clear co hcm hn h7 h8 h64
   subst hva
   go_enter Tryz.func58, Tryz.ntmps58
   go_wp2_with (first
    | ((with_reducible refine bxm (m := m) ?hx ?_); (case hx => rfl); intro b3 w1 h F; have HD1 := Lib.hid (HD.out.below F.below); have H3 := Lib.hid h; have B1 := Lib.hid F.below; have L3 := Lib.hid (F.le (Below.refl _ _)); have N3 := Lib.hid (HD.out.not_new (k := b3) (by rw [F.eq]; exact Nat.le_refl _)); obtain ⟨d0, d1, d2, d3, d4, d5⟩ := lay h; obtain ⟨c8, c9, c10, c11⟩ := HD1.out.cells; have hl := HD1.out.hd.lt; clear h F))
   have HI : Hid (R2 w c base b3 b3 (.slice oa zb cap) vc x m m w1.drew) := Lib.hid ⟨HD1.out.drew, H3.out, H3.out, B1.out.drew, N3.out, N3.out⟩
   clear H3 HD1 B1 d0 d1 d2 d3 d4 d5 c8 c9 c10 c11 hl
   refine wp_region_held_drew (S := (fun w' => w'.heap[b3]? = some (mO m RT))) (by kernel_rfl) HI.out.h3 (fun hHeld => ?_)
   refine' tk9 0 rfl ?_
   refine' tk9 1 rfl ?_
   refine' tk9 2 rfl ?_
   refine' tk9 3 rfl ?_
   refine' tv9 5 rfl (by intro _ hSw; (try dsimp only at hSw); refine ex_ld isR hSw ?_; rfl) ?_
   refine ry [4, 6] ?_
   refine AllReadyH.cons rfl (fun K hK => ?_) (AllReadyH.cons rfl (fun K hK => ?_) AllReadyH.nil)
   · have c10 := HI.out.d.cells.2.2.1
     have hl := HI.out.d.hd.lt
     go_simp
     clear c10 hl
     refine hK.out _ _ HI.out.h3 (fun hNext => ?_)
     clear hK K hHeld
     have hHeld := hNext; clear hNext
     (try simp only [Act.put, z1', z2', z3'])
     refine ry [6] (.cons rfl (fun K hK => ?_) .nil)
     go_simp
     refine (CO.out _).mono ?_
     rintro e w2 ⟨rfl, hb⟩
     go_wp2_with fail
     have HI2 := Lib.hid (HI.out.on hb)
     clear HI hb
     have HI := HI2
     clear HI2
     refine hK.out _ _ HI.out.h3 (fun hNext => ?_)
     clear hK K hHeld
     have hHeld := hNext; clear hNext
     (try simp only [Act.put, z1', z2', z3'])
     refine' tv9 7 rfl (by intro _ hSw; (try dsimp only at hSw); refine ex_bd (nscO ot) ?_; kernel_rfl) ?_
     refine ry [8] (.cons rfl (fun K hK => ?_) .nil)
     refine step_bslz (z := 20) (mc (nscO ot)) Tryz.underlying49 infoR' ⟨by decide, by decide⟩ ⟨by decide, by decide⟩ (by kernel_rfl) ?_
     intro b7 w7 h7 F7
     have HI2 := Lib.hid (HI.out.on F7.below)
     have H7 := Lib.hid h7
     clear HI h7 F7
     have HI := HI2
     clear HI2
     refine hK.out _ _ HI.out.h3 (fun hNext => ?_)
     clear hK K hHeld
     have hHeld := hNext; clear hNext
     (try simp only [Act.put, z1', z2', z3'])
     refine ry [9] ?_
     refine AllReadyH.cons (o := ⟨some 29, .call ⟨.builtin .append, #[.tmp 24, .tmp 28], #[49, 49]⟩, 49, "ref.go:124", #[⟨4, .data⟩, ⟨8, .data⟩, ⟨6, .chain⟩], none⟩) rfl (fun K hK => ?_) AllReadyH.nil
     obtain ⟨va2, w8, hr8, hq8, hg8, ho8⟩ := run_append_q eltR _ _ base _ _ HI.out.d.an (.slice (some ⟨b7, 0, none⟩) 1 1) 1 [nscO ot] rfl (src_one H7.out) (by decide) HLn.out (Nat.le_trans HI.out.d.lo (Nat.le_of_lt HI.out.d.hd.lt))
     obtain ⟨ov, cv, rfl⟩ := hq8.form
     obtain ⟨nv, hnv⟩ : ∃ nv, (x.an ++ [nscO ot]).length = nv := ⟨_, rfl⟩
     rw [hnv] at hr8 hq8 ho8
     clear hnv
     refine step_append_known rfl _ _ _ _ rfl rfl rfl hr8 ?_
     have HA := Lib.hid (HI.out.d.app_an hq8 hg8 ho8)
     have HG8 := Lib.hid hg8
     have c10 := HA.out.c10
     have hf := HA.out.f8
     have hl := HA.out.l8
     refine hK.out _ _ (HI.out.keep3 HG8.out) (fun hNext => ?_)
     clear hK K hHeld
     have hHeld := hNext; clear hNext
     (try simp only [Act.put, z1', z2', z3'])
     refine' tk9 10 rfl ?_
     refine' tk9 11 rfl ?_
     refine ry [12] (.cons rfl (fun K hK => ?_) .nil)
     go_simp
     clear c10 hf hl
     refine hK.out _ _ (HI.out.last3 HG8.out) (fun hNext => ?_)
     clear hK K hHeld
     have hHeld := hNext; clear hNext
     (try simp only [Act.put])
     refine wpAnyH_done (by kernel_rfl) ?_ _
     have HE := Lib.hid HA.out.d
     have HC9 := Lib.hid ((Chg.of_below HI.out.below).then HA.out.chg)
     have HSU := Lib.hid HA.out.sub
     have HBI := Lib.hid HI.out.below.size
     clear hHeld HA HG8 HI hq8 hg8 ho8 H7 hr8
     go_wp2
     go_ret
     rw [HCM.out]
     exact ⟨_, rfl, ownS_nil _ _, ⟨⟨_, _, HE.out, fun k hk => by rcases HSU.out k hk with q | q; exact .inl q; exact .inr (Nat.le_trans HBI.out q)⟩, HC9.out⟩⟩
   · go_simp
     refine (CO.out _).mono ?_
     rintro e w2 ⟨rfl, hb⟩
     go_wp2_with fail
     have HI2 := Lib.hid (HI.out.on hb)
     clear HI hb
     have HI := HI2
     clear HI2
     refine hK.out _ _ HI.out.h3 (fun hNext => ?_)
     clear hK K hHeld
     have hHeld := hNext; clear hNext
     (try simp only [Act.put, z1', z2', z3'])
     refine' tv9 7 rfl (by intro _ hSw; (try dsimp only at hSw); refine ex_bd (nscO ot) ?_; kernel_rfl) ?_
     refine ry [4, 8] ?_
     refine AllReadyH.cons rfl (fun K hK => ?_) (AllReadyH.cons rfl (fun K hK => ?_) AllReadyH.nil)
     · have c10 := HI.out.d.cells.2.2.1
       have hl := HI.out.d.hd.lt
       go_simp
       clear c10 hl
       refine hK.out _ _ HI.out.h3 (fun hNext => ?_)
       clear hK K hHeld
       have hHeld := hNext; clear hNext
       (try simp only [Act.put, z1', z2', z3'])
       refine ry [8] (.cons rfl (fun K hK => ?_) .nil)
       refine step_bslz (z := 20) (mc (nscO ot)) Tryz.underlying49 infoR' ⟨by decide, by decide⟩ ⟨by decide, by decide⟩ (by kernel_rfl) ?_
       intro b7 w7 h7 F7
       have HI2 := Lib.hid (HI.out.on F7.below)
       have H7 := Lib.hid h7
       clear HI h7 F7
       have HI := HI2
       clear HI2
       refine hK.out _ _ HI.out.h3 (fun hNext => ?_)
       clear hK K hHeld
       have hHeld := hNext; clear hNext
       (try simp only [Act.put, z1', z2', z3'])
       refine ry [9] ?_
       refine AllReadyH.cons (o := ⟨some 29, .call ⟨.builtin .append, #[.tmp 24, .tmp 28], #[49, 49]⟩, 49, "ref.go:124", #[⟨4, .data⟩, ⟨8, .data⟩, ⟨6, .chain⟩], none⟩) rfl (fun K hK => ?_) AllReadyH.nil
       obtain ⟨va2, w8, hr8, hq8, hg8, ho8⟩ := run_append_q eltR _ _ base _ _ HI.out.d.an (.slice (some ⟨b7, 0, none⟩) 1 1) 1 [nscO ot] rfl (src_one H7.out) (by decide) HLn.out (Nat.le_trans HI.out.d.lo (Nat.le_of_lt HI.out.d.hd.lt))
       obtain ⟨ov, cv, rfl⟩ := hq8.form
       obtain ⟨nv, hnv⟩ : ∃ nv, (x.an ++ [nscO ot]).length = nv := ⟨_, rfl⟩
       rw [hnv] at hr8 hq8 ho8
       clear hnv
       refine step_append_known rfl _ _ _ _ rfl rfl rfl hr8 ?_
       have HA := Lib.hid (HI.out.d.app_an hq8 hg8 ho8)
       have HG8 := Lib.hid hg8
       have c10 := HA.out.c10
       have hf := HA.out.f8
       have hl := HA.out.l8
       refine hK.out _ _ (HI.out.keep3 HG8.out) (fun hNext => ?_)
       clear hK K hHeld
       have hHeld := hNext; clear hNext
       (try simp only [Act.put, z1', z2', z3'])
       refine' tk9 10 rfl ?_
       refine' tk9 11 rfl ?_
       refine ry [12] (.cons rfl (fun K hK => ?_) .nil)
       go_simp
       clear c10 hf hl
       refine hK.out _ _ (HI.out.last3 HG8.out) (fun hNext => ?_)
       clear hK K hHeld
       have hHeld := hNext; clear hNext
       (try simp only [Act.put])
       refine wpAnyH_done (by kernel_rfl) ?_ _
       have HE := Lib.hid HA.out.d
       have HC9 := Lib.hid ((Chg.of_below HI.out.below).then HA.out.chg)
       have HSU := Lib.hid HA.out.sub
       have HBI := Lib.hid HI.out.below.size
       clear hHeld HA HG8 HI hq8 hg8 ho8 H7 hr8
       go_wp2
       go_ret
       rw [HCM.out]
       exact ⟨_, rfl, ownS_nil _ _, ⟨⟨_, _, HE.out, fun k hk => by rcases HSU.out k hk with q | q; exact .inl q; exact .inr (Nat.le_trans HBI.out q)⟩, HC9.out⟩⟩
     · refine step_bslz (z := 20) (mc (nscO ot)) Tryz.underlying49 infoR' ⟨by decide, by decide⟩ ⟨by decide, by decide⟩ (by kernel_rfl) ?_
       intro b7 w7 h7 F7
       have HI2 := Lib.hid (HI.out.on F7.below)
       have H7 := Lib.hid h7
       clear HI h7 F7
       have HI := HI2
       clear HI2
       refine hK.out _ _ HI.out.h3 (fun hNext => ?_)
       clear hK K hHeld
       have hHeld := hNext; clear hNext
       (try simp only [Act.put, z1', z2', z3'])
       refine ry [4] (.cons rfl (fun K hK => ?_) .nil)
       have c10 := HI.out.d.cells.2.2.1
       have hl := HI.out.d.hd.lt
       go_simp
       clear c10 hl
       refine hK.out _ _ HI.out.h3 (fun hNext => ?_)
       clear hK K hHeld
       have hHeld := hNext; clear hNext
       (try simp only [Act.put, z1', z2', z3'])
       refine ry [9] ?_
       refine AllReadyH.cons (o := ⟨some 29, .call ⟨.builtin .append, #[.tmp 24, .tmp 28], #[49, 49]⟩, 49, "ref.go:124", #[⟨4, .data⟩, ⟨8, .data⟩, ⟨6, .chain⟩], none⟩) rfl (fun K hK => ?_) AllReadyH.nil
       obtain ⟨va2, w8, hr8, hq8, hg8, ho8⟩ := run_append_q eltR _ _ base _ _ HI.out.d.an (.slice (some ⟨b7, 0, none⟩) 1 1) 1 [nscO ot] rfl (src_one H7.out) (by decide) HLn.out (Nat.le_trans HI.out.d.lo (Nat.le_of_lt HI.out.d.hd.lt))
       obtain ⟨ov, cv, rfl⟩ := hq8.form
       obtain ⟨nv, hnv⟩ : ∃ nv, (x.an ++ [nscO ot]).length = nv := ⟨_, rfl⟩
       rw [hnv] at hr8 hq8 ho8
       clear hnv
       refine step_append_known rfl _ _ _ _ rfl rfl rfl hr8 ?_
       have HA := Lib.hid (HI.out.d.app_an hq8 hg8 ho8)
       have HG8 := Lib.hid hg8
       have c10 := HA.out.c10
       have hf := HA.out.f8
       have hl := HA.out.l8
       refine hK.out _ _ (HI.out.keep3 HG8.out) (fun hNext => ?_)
       clear hK K hHeld
       have hHeld := hNext; clear hNext
       (try simp only [Act.put, z1', z2', z3'])
       refine' tk9 10 rfl ?_
       refine' tk9 11 rfl ?_
       refine ry [12] (.cons rfl (fun K hK => ?_) .nil)
       go_simp
       clear c10 hf hl
       refine hK.out _ _ (HI.out.last3 HG8.out) (fun hNext => ?_)
       clear hK K hHeld
       have hHeld := hNext; clear hNext
       (try simp only [Act.put])
       refine wpAnyH_done (by kernel_rfl) ?_ _
       have HE := Lib.hid HA.out.d
       have HC9 := Lib.hid ((Chg.of_below HI.out.below).then HA.out.chg)
       have HSU := Lib.hid HA.out.sub
       have HBI := Lib.hid HI.out.below.size
       clear hHeld HA HG8 HI hq8 hg8 ho8 H7 hr8
       go_wp2
       go_ret
       rw [HCM.out]
       exact ⟨_, rfl, ownS_nil _ _, ⟨⟨_, _, HE.out, fun k hk => by rcases HSU.out k hk with q | q; exact .inl q; exact .inr (Nat.le_trans HBI.out q)⟩, HC9.out⟩⟩
 have u4 : ((m.k : Int) == 8) = false := Mem.beq_false (by omega)
 rw [if_neg h8] at hcm
 have HCM := Lib.hid hcm
 by_cases h1 : m.k = 1
 · have u5 : ((m.k : Int) == 1) = true := by rw [h1]; rfl
   have CG := Lib.hid (fun w => Pn.ragree x.own m.p w)
   have hag : agreed x.own m = ⟨m.k, m.c, Pn.agree x.own m.p, m.s, m.t, m.b⟩ := by unfold agreed; rw [if_pos h1]
   obtain ⟨mm, hmm⟩ : ∃ mm, agreed x.own m = mm := ⟨_, rfl⟩
   rw [hmm] at HCM hag
   have HMM := Lib.hid hag.symm
   subst hva
   clear hcm h7 h8 h1 h64 hag hmm
   go_enter Tryz.func58, Tryz.ntmps58
   go_wp2_with (first
    | ((with_reducible refine bxm (m := m) ?hx ?_); (case hx => rfl); intro b3 w1 h F; have HD1 := Lib.hid (HD.out.below F.below); have H3 := Lib.hid h; have B1 := Lib.hid F.below; have L3 := Lib.hid (F.le (Below.refl _ _)); have N3 := Lib.hid (HD.out.not_new (k := b3) (by rw [F.eq]; exact Nat.le_refl _)); obtain ⟨d0, d1, d2, d3, d4, d5⟩ := lay h; obtain ⟨c8, c9, c10, c11⟩ := HD1.out.cells; have hl := HD1.out.hd.lt; clear h F))
   refine wp_region_held_drew (S := (fun w' => w'.heap[c]? = some (.cells (dcl x (.slice oa zb cap) vc) DT (0, 0)))) (by kernel_rfl) HD1.out.drew.hd (fun hHeld => ?_)
   refine' tk9 0 rfl ?_
   refine' tk9 1 rfl ?_
   refine' tk9 2 rfl ?_
   refine' tv9 3 rfl (by intro _ hSw; (try dsimp only at hSw); refine ex_ldo isPr hSw ?_; rfl) ?_
   refine' tk9 4 rfl ?_
   refine ry [5] (.cons rfl (fun K hK => ?_) .nil)
   refine step_ldp (m := m) isPr H3.out rfl ?_
   refine hK.out _ _ HD1.out.drew.hd (fun hNext => ?_)
   clear hK K hHeld
   have hHeld := hNext; clear hNext
   (try simp only [Act.put, z1', z2', z3'])
   refine ry [6] (.cons rfl (fun K hK => ?_) .nil)
   go_simp
   refine (CG.out _).mono ?_
   rintro e w2 ⟨rfl, hb⟩
   go_wp2_with fail
   have HD2 := Lib.hid (HD1.out.drew.below hb)
   have H32 : Hid (w2.heap[b3]? = some (mO m RT)) := Lib.hid (stays (a := w1.drew) H3.out hb)
   have B2 := Lib.hid (below_on B1.out.drew hb)
   clear hb
   refine hK.out _ _ HD2.out.hd (fun hNext => ?_)
   clear hK K hHeld
   have hHeld := hNext; clear hNext
   (try simp only [Act.put, z1', z2', z3'])
   refine' tk9 7 rfl ?_
   refine ry [8] (.cons rfl (fun K hK => ?_) .nil)
   refine step_stp (p := Pn.agree x.own m.p) isPr H32.out rfl rfl ?_
   intro w3 h M
   rw [HMM.out] at h
   have HD3 := Lib.hid (HD2.out.mod M N3.out)
   have B3 := Lib.hid (M.below B2.out L3.out)
   have H33 := Lib.hid h
   clear h M
   refine hK.out _ _ HD3.out.hd (fun hNext => ?_)
   clear hK K hHeld
   have hHeld := hNext; clear hNext
   (try simp only [Act.put])
   refine wpAnyH_done (by kernel_rfl) ?_ _
   clear hHeld d0 d1 d2 d3 d4 d5 c8 c9 c10 c11 hl
   clear H3 HD1 B1 H32 HD2 B2
   have H3 := H33
   have HD1 := HD3
   have B1 := B3
   clear H33 HD3 B3
   go_wp2_with (first
    | ((with_reducible refine ldm isR H3.out ?hx ?_); (case hx => rfl))
    | ((with_reducible refine alm zeroR ?_); intro b5 w4 h F; have HD4 := Lib.hid (HD1.out.below F.below); have H34 := Lib.hid (F.stays H3.out); have H5 := Lib.hid h; have E5 := Lib.hid F.eq; have N35 := Lib.hid (F.ne H3.out); have B4 := Lib.hid (F.on B1.out); have N5 := Lib.hid (HD1.out.not_new (k := b5) (by rw [F.eq]; exact Nat.le_refl _)); have L5 := Lib.hid (F.le B1.out); clear h F)
    | ((with_reducible refine stm (m := mm) isR H5.out ?hx ?hy ?_); (case hx => rfl); (case hy => rfl); intro w5 h M; replace H5 := Lib.hid h; replace H34 := Lib.hid (M.other N35.out H34.out); replace HD4 := Lib.hid (HD4.out.mod M N5.out); replace B4 := Lib.hid (M.below B4.out L5.out); clear h M)
    | ((with_reducible refine stc (z := false) H5.out ?hx ?hy ?_); (case hx => rfl); (case hy => rfl); intro w6 h M; replace H5 := Lib.hid h; replace H34 := Lib.hid (M.other N35.out H34.out); replace HD4 := Lib.hid (HD4.out.mod M N5.out); replace B4 := Lib.hid (M.below B4.out L5.out); clear h M))
   have HI : Hid (R2 w c base b3 b5 _ vc x mm (mm.cmd false) w6.drew) := Lib.hid ⟨HD4.out.drew, H34.out, H5.out, B4.out.drew, N3.out, N5.out⟩
   clear H5 H34 HD4 B4 H3 HD1 B1
   refine wp_region_held_drew (S := (fun w' => w'.heap[b5]? = some (mO (mm.cmd false) RT) ∧ w'.heap[b3]? = some (mO mm RT))) (by kernel_rfl) ⟨HI.out.h5, HI.out.h3⟩ (fun hHeld => ?_)
   refine' tk9 0 rfl ?_
   refine' tk9 1 rfl ?_
   refine' tk9 2 rfl ?_
   refine' tk9 3 rfl ?_
   refine' tv9 5 rfl (by intro _ hSw; (try dsimp only at hSw); refine ex_ld isR hSw.1 ?_; rfl) ?_
   refine ry [4, 6] ?_
   refine AllReadyH.cons rfl (fun K hK => ?_) (AllReadyH.cons rfl (fun K hK => ?_) AllReadyH.nil)
   · have c10 := HI.out.d.cells.2.2.1
     have hl := HI.out.d.hd.lt
     go_simp
     clear c10 hl
     refine hK.out _ _ ⟨HI.out.h5, HI.out.h3⟩ (fun hNext => ?_)
     clear hK K hHeld
     have hHeld := hNext; clear hNext
     (try simp only [Act.put, z1', z2', z3'])
     refine ry [6] (.cons rfl (fun K hK => ?_) .nil)
     refine step_bslz (z := 20) (mc (mm.cmd false)) Tryz.underlying49 infoR' ⟨by decide, by decide⟩ ⟨by decide, by decide⟩ (by kernel_rfl) ?_
     intro b7 w7 h7 F7
     have HI2 := Lib.hid (HI.out.on F7.below)
     have H7 := Lib.hid h7
     clear HI h7 F7
     have HI := HI2
     clear HI2
     refine hK.out _ _ ⟨HI.out.h5, HI.out.h3⟩ (fun hNext => ?_)
     clear hK K hHeld
     have hHeld := hNext; clear hNext
     (try simp only [Act.put, z1', z2', z3'])
     refine ry [7] ?_
     refine AllReadyH.cons (o := ⟨some 52, .call ⟨.builtin .append, #[.tmp 49, .tmp 51], #[49, 49]⟩, 49, "ref.go:132", #[⟨4, .data⟩, ⟨6, .data⟩], none⟩) rfl (fun K hK => ?_) AllReadyH.nil
     replace H7 := Lib.hid H7.out
     obtain ⟨va2, w8, hr8, hq8, hg8, ho8⟩ := run_append_q eltR _ _ base _ _ HI.out.d.an (.slice (some ⟨b7, 0, none⟩) 1 1) 1 [mm.cmd false] rfl (src_one H7.out) (by decide) HLn.out (Nat.le_trans HI.out.d.lo (Nat.le_of_lt HI.out.d.hd.lt))
     obtain ⟨ov, cv, rfl⟩ := hq8.form
     obtain ⟨nv, hnv⟩ : ∃ nv, (x.an ++ [mm.cmd false]).length = nv := ⟨_, rfl⟩
     rw [hnv] at hr8 hq8 ho8
     clear hnv
     refine step_append_known rfl _ _ _ _ rfl rfl rfl hr8 ?_
     have HA := Lib.hid (HI.out.d.app_an hq8 hg8 ho8)
     have HG8 := Lib.hid hg8
     have c10 := HA.out.c10
     have hf := HA.out.f8
     have hl := HA.out.l8
     refine hK.out _ _ ⟨HI.out.keep5 HG8.out, HI.out.keep3 HG8.out⟩ (fun hNext => ?_)
     clear hK K hHeld
     have hHeld := hNext; clear hNext
     (try simp only [Act.put, z1', z2', z3'])
     refine' tk9 8 rfl ?_
     refine' tk9 9 rfl ?_
     refine ry [10] (.cons rfl (fun K hK => ?_) .nil)
     go_simp
     clear c10 hf hl
     refine hK.out _ _ ⟨HI.out.last5 HG8.out, HI.out.last3 HG8.out⟩ (fun hNext => ?_)
     clear hK K hHeld
     have hHeld := hNext; clear hNext
     (try simp only [Act.put])
     refine wpAnyH_done (by kernel_rfl) ?_ _
     have H39 := Lib.hid (HI.out.last3 (v' := .slice ov nv cv) HG8.out)
     have HE := Lib.hid HA.out.d
     have HC9 := Lib.hid ((Chg.of_below HI.out.below).then HA.out.chg)
     have HSU := Lib.hid HA.out.sub
     have HBI := Lib.hid HI.out.below.size
     clear hHeld HA HG8 HI hq8 hg8 ho8 H7 hr8
     generalize w8.setCell ⟨c, 10, none⟩ (.slice ov nv cv) = w9 at HE H39 HC9 ⊢
     go_wp2_with (first
      | ((with_reducible refine ldm isR H39.out ?hx ?_); (case hx => rfl))
      | ((with_reducible refine bdB (builtF 1 mm) ?hl ?_); (case hl => kernel_rfl))
      | ((with_reducible refine bslz (z := 21) (fc ⟨1, mm⟩) Tryz.underlying83 infoF ?hl ?hz ?hf ?_); (case hl => exact ⟨by decide, by decide⟩); (case hz => exact ⟨by decide, by decide⟩); (case hf => kernel_rfl); intro b10 w10 h10 F10; have HE10 := Lib.hid (HE.out.below F10.below); have HC10 := Lib.hid (HC9.out.on F10.below); have H10 := Lib.hid h10; have L10 := Lib.hid (F10.eq); clear h10 F10))
     go_ret
     rw [HCM.out]
     exact ⟨_, rfl, own_onez H10.out (by rw [L10.out]; exact HC9.out.size), ⟨⟨_, _, HE10.out, fun k hk => by rcases HSU.out k hk with q | q; exact .inl q; exact .inr (Nat.le_trans HBI.out q)⟩, HC10.out⟩⟩
   · refine step_bslz (z := 20) (mc (mm.cmd false)) Tryz.underlying49 infoR' ⟨by decide, by decide⟩ ⟨by decide, by decide⟩ (by kernel_rfl) ?_
     intro b7 w7 h7 F7
     have HI2 := Lib.hid (HI.out.on F7.below)
     have H7 := Lib.hid h7
     clear HI h7 F7
     have HI := HI2
     clear HI2
     refine hK.out _ _ ⟨HI.out.h5, HI.out.h3⟩ (fun hNext => ?_)
     clear hK K hHeld
     have hHeld := hNext; clear hNext
     (try simp only [Act.put, z1', z2', z3'])
     refine ry [4] (.cons rfl (fun K hK => ?_) .nil)
     have c10 := HI.out.d.cells.2.2.1
     have hl := HI.out.d.hd.lt
     go_simp
     clear c10 hl
     refine hK.out _ _ ⟨HI.out.h5, HI.out.h3⟩ (fun hNext => ?_)
     clear hK K hHeld
     have hHeld := hNext; clear hNext
     (try simp only [Act.put, z1', z2', z3'])
     refine ry [7] ?_
     refine AllReadyH.cons (o := ⟨some 52, .call ⟨.builtin .append, #[.tmp 49, .tmp 51], #[49, 49]⟩, 49, "ref.go:132", #[⟨4, .data⟩, ⟨6, .data⟩], none⟩) rfl (fun K hK => ?_) AllReadyH.nil
     replace H7 := Lib.hid H7.out
     obtain ⟨va2, w8, hr8, hq8, hg8, ho8⟩ := run_append_q eltR _ _ base _ _ HI.out.d.an (.slice (some ⟨b7, 0, none⟩) 1 1) 1 [mm.cmd false] rfl (src_one H7.out) (by decide) HLn.out (Nat.le_trans HI.out.d.lo (Nat.le_of_lt HI.out.d.hd.lt))
     obtain ⟨ov, cv, rfl⟩ := hq8.form
     obtain ⟨nv, hnv⟩ : ∃ nv, (x.an ++ [mm.cmd false]).length = nv := ⟨_, rfl⟩
     rw [hnv] at hr8 hq8 ho8
     clear hnv
     refine step_append_known rfl _ _ _ _ rfl rfl rfl hr8 ?_
     have HA := Lib.hid (HI.out.d.app_an hq8 hg8 ho8)
     have HG8 := Lib.hid hg8
     have c10 := HA.out.c10
     have hf := HA.out.f8
     have hl := HA.out.l8
     refine hK.out _ _ ⟨HI.out.keep5 HG8.out, HI.out.keep3 HG8.out⟩ (fun hNext => ?_)
     clear hK K hHeld
     have hHeld := hNext; clear hNext
     (try simp only [Act.put, z1', z2', z3'])
     refine' tk9 8 rfl ?_
     refine' tk9 9 rfl ?_
     refine ry [10] (.cons rfl (fun K hK => ?_) .nil)
     go_simp
     clear c10 hf hl
     refine hK.out _ _ ⟨HI.out.last5 HG8.out, HI.out.last3 HG8.out⟩ (fun hNext => ?_)
     clear hK K hHeld
     have hHeld := hNext; clear hNext
     (try simp only [Act.put])
     refine wpAnyH_done (by kernel_rfl) ?_ _
     have H39 := Lib.hid (HI.out.last3 (v' := .slice ov nv cv) HG8.out)
     have HE := Lib.hid HA.out.d
     have HC9 := Lib.hid ((Chg.of_below HI.out.below).then HA.out.chg)
     have HSU := Lib.hid HA.out.sub
     have HBI := Lib.hid HI.out.below.size
     clear hHeld HA HG8 HI hq8 hg8 ho8 H7 hr8
     generalize w8.setCell ⟨c, 10, none⟩ (.slice ov nv cv) = w9 at HE H39 HC9 ⊢
     go_wp2_with (first
      | ((with_reducible refine ldm isR H39.out ?hx ?_); (case hx => rfl))
      | ((with_reducible refine bdB (builtF 1 mm) ?hl ?_); (case hl => kernel_rfl))
      | ((with_reducible refine bslz (z := 21) (fc ⟨1, mm⟩) Tryz.underlying83 infoF ?hl ?hz ?hf ?_); (case hl => exact ⟨by decide, by decide⟩); (case hz => exact ⟨by decide, by decide⟩); (case hf => kernel_rfl); intro b10 w10 h10 F10; have HE10 := Lib.hid (HE.out.below F10.below); have HC10 := Lib.hid (HC9.out.on F10.below); have H10 := Lib.hid h10; have L10 := Lib.hid (F10.eq); clear h10 F10))
     go_ret
     rw [HCM.out]
     exact ⟨_, rfl, own_onez H10.out (by rw [L10.out]; exact HC9.out.size), ⟨⟨_, _, HE10.out, fun k hk => by rcases HSU.out k hk with q | q; exact .inl q; exact .inr (Nat.le_trans HBI.out q)⟩, HC10.out⟩⟩
 · have u5 : ((m.k : Int) == 1) = false := Mem.beq_false (by omega)
   obtain ⟨mm, hmm⟩ : ∃ mm, mm = m := ⟨_, rfl⟩
   have hag : agreed x.own m = m := by unfold agreed; rw [if_neg h1]
   rw [hag, ← hmm] at HCM
   subst hmm
   clear hcm h7 h8 h1 h64 hag
   go_enter Tryz.func58, Tryz.ntmps58
   subst hva
   go_wp2_with (first
    | ((with_reducible refine bxm (m := mm) ?hx ?_); (case hx => rfl); intro b3 w1 h F; have HD1 := Lib.hid (HD.out.below F.below); have H3 := Lib.hid h; have B1 := Lib.hid F.below; have L3 := Lib.hid (F.le (Below.refl _ _)); have N3 := Lib.hid (HD.out.not_new (k := b3) (by rw [F.eq]; exact Nat.le_refl _)); obtain ⟨d0, d1, d2, d3, d4, d5⟩ := lay h; obtain ⟨c8, c9, c10, c11⟩ := HD1.out.cells; have hl := HD1.out.hd.lt; clear h F)
    | ((with_reducible refine ldm isR H3.out ?hx ?_); (case hx => rfl))
    | ((with_reducible refine alm zeroR ?_); intro b5 w4 h F; have HD4 := Lib.hid (HD1.out.below F.below); have H34 := Lib.hid (F.stays H3.out); have H5 := Lib.hid h; have E5 := Lib.hid F.eq; have N35 := Lib.hid (F.ne H3.out); have B4 := Lib.hid (F.on B1.out); have N5 := Lib.hid (HD1.out.not_new (k := b5) (by rw [F.eq]; exact Nat.le_refl _)); have L5 := Lib.hid (F.le B1.out); clear h F)
    | ((with_reducible refine stm (m := mm) isR H5.out ?hx ?hy ?_); (case hx => rfl); (case hy => rfl); intro w5 h M; replace H5 := Lib.hid h; replace H34 := Lib.hid (M.other N35.out H34.out); replace HD4 := Lib.hid (HD4.out.mod M N5.out); replace B4 := Lib.hid (M.below B4.out L5.out); clear h M)
    | ((with_reducible refine stc (z := false) H5.out ?hx ?hy ?_); (case hx => rfl); (case hy => rfl); intro w6 h M; replace H5 := Lib.hid h; replace H34 := Lib.hid (M.other N35.out H34.out); replace HD4 := Lib.hid (HD4.out.mod M N5.out); replace B4 := Lib.hid (M.below B4.out L5.out); clear h M))
   have HI : Hid (R2 w c base b3 b5 _ vc x mm (mm.cmd false) w6.drew) := Lib.hid ⟨HD4.out.drew, H34.out, H5.out, B4.out.drew, N3.out, N5.out⟩
   clear H5 H34 HD4 B4 H3 HD1 B1
   refine wp_region_held_drew (S := (fun w' => w'.heap[b5]? = some (mO (mm.cmd false) RT) ∧ w'.heap[b3]? = some (mO mm RT))) (by kernel_rfl) ⟨HI.out.h5, HI.out.h3⟩ (fun hHeld => ?_)
   refine' tk9 0 rfl ?_
   refine' tk9 1 rfl ?_
   refine' tk9 2 rfl ?_
   refine' tk9 3 rfl ?_
   refine' tv9 5 rfl (by intro _ hSw; (try dsimp only at hSw); refine ex_ld isR hSw.1 ?_; rfl) ?_
   refine ry [4, 6] ?_
   refine AllReadyH.cons rfl (fun K hK => ?_) (AllReadyH.cons rfl (fun K hK => ?_) AllReadyH.nil)
   · have c10 := HI.out.d.cells.2.2.1
     have hl := HI.out.d.hd.lt
     go_simp
     clear c10 hl
     refine hK.out _ _ ⟨HI.out.h5, HI.out.h3⟩ (fun hNext => ?_)
     clear hK K hHeld
     have hHeld := hNext; clear hNext
     (try simp only [Act.put, z1', z2', z3'])
     refine ry [6] (.cons rfl (fun K hK => ?_) .nil)
     refine step_bslz (z := 20) (mc (mm.cmd false)) Tryz.underlying49 infoR' ⟨by decide, by decide⟩ ⟨by decide, by decide⟩ (by kernel_rfl) ?_
     intro b7 w7 h7 F7
     have HI2 := Lib.hid (HI.out.on F7.below)
     have H7 := Lib.hid h7
     clear HI h7 F7
     have HI := HI2
     clear HI2
     refine hK.out _ _ ⟨HI.out.h5, HI.out.h3⟩ (fun hNext => ?_)
     clear hK K hHeld
     have hHeld := hNext; clear hNext
     (try simp only [Act.put, z1', z2', z3'])
     refine ry [7] ?_
     refine AllReadyH.cons (o := ⟨some 52, .call ⟨.builtin .append, #[.tmp 49, .tmp 51], #[49, 49]⟩, 49, "ref.go:132", #[⟨4, .data⟩, ⟨6, .data⟩], none⟩) rfl (fun K hK => ?_) AllReadyH.nil
     replace H7 := Lib.hid H7.out
     obtain ⟨va2, w8, hr8, hq8, hg8, ho8⟩ := run_append_q eltR _ _ base _ _ HI.out.d.an (.slice (some ⟨b7, 0, none⟩) 1 1) 1 [mm.cmd false] rfl (src_one H7.out) (by decide) HLn.out (Nat.le_trans HI.out.d.lo (Nat.le_of_lt HI.out.d.hd.lt))
     obtain ⟨ov, cv, rfl⟩ := hq8.form
     obtain ⟨nv, hnv⟩ : ∃ nv, (x.an ++ [mm.cmd false]).length = nv := ⟨_, rfl⟩
     rw [hnv] at hr8 hq8 ho8
     clear hnv
     refine step_append_known rfl _ _ _ _ rfl rfl rfl hr8 ?_
     have HA := Lib.hid (HI.out.d.app_an hq8 hg8 ho8)
     have HG8 := Lib.hid hg8
     have c10 := HA.out.c10
     have hf := HA.out.f8
     have hl := HA.out.l8
     refine hK.out _ _ ⟨HI.out.keep5 HG8.out, HI.out.keep3 HG8.out⟩ (fun hNext => ?_)
     clear hK K hHeld
     have hHeld := hNext; clear hNext
     (try simp only [Act.put, z1', z2', z3'])
     refine' tk9 8 rfl ?_
     refine' tk9 9 rfl ?_
     refine ry [10] (.cons rfl (fun K hK => ?_) .nil)
     go_simp
     clear c10 hf hl
     refine hK.out _ _ ⟨HI.out.last5 HG8.out, HI.out.last3 HG8.out⟩ (fun hNext => ?_)
     clear hK K hHeld
     have hHeld := hNext; clear hNext
     (try simp only [Act.put])
     refine wpAnyH_done (by kernel_rfl) ?_ _
     have H39 := Lib.hid (HI.out.last3 (v' := .slice ov nv cv) HG8.out)
     have HE := Lib.hid HA.out.d
     have HC9 := Lib.hid ((Chg.of_below HI.out.below).then HA.out.chg)
     have HSU := Lib.hid HA.out.sub
     have HBI := Lib.hid HI.out.below.size
     clear hHeld HA HG8 HI hq8 hg8 ho8 H7 hr8
     generalize w8.setCell ⟨c, 10, none⟩ (.slice ov nv cv) = w9 at HE H39 HC9 ⊢
     go_wp2_with (first
      | ((with_reducible refine ldm isR H39.out ?hx ?_); (case hx => rfl))
      | ((with_reducible refine bdB (builtF 1 mm) ?hl ?_); (case hl => kernel_rfl))
      | ((with_reducible refine bslz (z := 21) (fc ⟨1, mm⟩) Tryz.underlying83 infoF ?hl ?hz ?hf ?_); (case hl => exact ⟨by decide, by decide⟩); (case hz => exact ⟨by decide, by decide⟩); (case hf => kernel_rfl); intro b10 w10 h10 F10; have HE10 := Lib.hid (HE.out.below F10.below); have HC10 := Lib.hid (HC9.out.on F10.below); have H10 := Lib.hid h10; have L10 := Lib.hid (F10.eq); clear h10 F10))
     go_ret
     rw [HCM.out]
     exact ⟨_, rfl, own_onez H10.out (by rw [L10.out]; exact HC9.out.size), ⟨⟨_, _, HE10.out, fun k hk => by rcases HSU.out k hk with q | q; exact .inl q; exact .inr (Nat.le_trans HBI.out q)⟩, HC10.out⟩⟩
   · refine step_bslz (z := 20) (mc (mm.cmd false)) Tryz.underlying49 infoR' ⟨by decide, by decide⟩ ⟨by decide, by decide⟩ (by kernel_rfl) ?_
     intro b7 w7 h7 F7
     have HI2 := Lib.hid (HI.out.on F7.below)
     have H7 := Lib.hid h7
     clear HI h7 F7
     have HI := HI2
     clear HI2
     refine hK.out _ _ ⟨HI.out.h5, HI.out.h3⟩ (fun hNext => ?_)
     clear hK K hHeld
     have hHeld := hNext; clear hNext
     (try simp only [Act.put, z1', z2', z3'])
     refine ry [4] (.cons rfl (fun K hK => ?_) .nil)
     have c10 := HI.out.d.cells.2.2.1
     have hl := HI.out.d.hd.lt
     go_simp
     clear c10 hl
     refine hK.out _ _ ⟨HI.out.h5, HI.out.h3⟩ (fun hNext => ?_)
     clear hK K hHeld
     have hHeld := hNext; clear hNext
     (try simp only [Act.put, z1', z2', z3'])
     refine ry [7] ?_
     refine AllReadyH.cons (o := ⟨some 52, .call ⟨.builtin .append, #[.tmp 49, .tmp 51], #[49, 49]⟩, 49, "ref.go:132", #[⟨4, .data⟩, ⟨6, .data⟩], none⟩) rfl (fun K hK => ?_) AllReadyH.nil
     replace H7 := Lib.hid H7.out
     obtain ⟨va2, w8, hr8, hq8, hg8, ho8⟩ := run_append_q eltR _ _ base _ _ HI.out.d.an (.slice (some ⟨b7, 0, none⟩) 1 1) 1 [mm.cmd false] rfl (src_one H7.out) (by decide) HLn.out (Nat.le_trans HI.out.d.lo (Nat.le_of_lt HI.out.d.hd.lt))
     obtain ⟨ov, cv, rfl⟩ := hq8.form
     obtain ⟨nv, hnv⟩ : ∃ nv, (x.an ++ [mm.cmd false]).length = nv := ⟨_, rfl⟩
     rw [hnv] at hr8 hq8 ho8
     clear hnv
     refine step_append_known rfl _ _ _ _ rfl rfl rfl hr8 ?_
     have HA := Lib.hid (HI.out.d.app_an hq8 hg8 ho8)
     have HG8 := Lib.hid hg8
     have c10 := HA.out.c10
     have hf := HA.out.f8
     have hl := HA.out.l8
     refine hK.out _ _ ⟨HI.out.keep5 HG8.out, HI.out.keep3 HG8.out⟩ (fun hNext => ?_)
     clear hK K hHeld
     have hHeld := hNext; clear hNext
     (try simp only [Act.put, z1', z2', z3'])
     refine' tk9 8 rfl ?_
     refine' tk9 9 rfl ?_
     refine ry [10] (.cons rfl (fun K hK => ?_) .nil)
     go_simp
     clear c10 hf hl
     refine hK.out _ _ ⟨HI.out.last5 HG8.out, HI.out.last3 HG8.out⟩ (fun hNext => ?_)
     clear hK K hHeld
     have hHeld := hNext; clear hNext
     (try simp only [Act.put])
     refine wpAnyH_done (by kernel_rfl) ?_ _
     have H39 := Lib.hid (HI.out.last3 (v' := .slice ov nv cv) HG8.out)
     have HE := Lib.hid HA.out.d
     have HC9 := Lib.hid ((Chg.of_below HI.out.below).then HA.out.chg)
     have HSU := Lib.hid HA.out.sub
     have HBI := Lib.hid HI.out.below.size
     clear hHeld HA HG8 HI hq8 hg8 ho8 H7 hr8
     generalize w8.setCell ⟨c, 10, none⟩ (.slice ov nv cv) = w9 at HE H39 HC9 ⊢
     go_wp2_with (first
      | ((with_reducible refine ldm isR H39.out ?hx ?_); (case hx => rfl))
      | ((with_reducible refine bdB (builtF 1 mm) ?hl ?_); (case hl => kernel_rfl))
      | ((with_reducible refine bslz (z := 21) (fc ⟨1, mm⟩) Tryz.underlying83 infoF ?hl ?hz ?hf ?_); (case hl => exact ⟨by decide, by decide⟩); (case hz => exact ⟨by decide, by decide⟩); (case hf => kernel_rfl); intro b10 w10 h10 F10; have HE10 := Lib.hid (HE.out.below F10.below); have HC10 := Lib.hid (HC9.out.on F10.below); have H10 := Lib.hid h10; have L10 := Lib.hid (F10.eq); clear h10 F10))
     go_ret
     rw [HCM.out]
     exact ⟨_, rfl, own_onez H10.out (by rw [L10.out]; exact HC9.out.size), ⟨⟨_, _, HE10.out, fun k hk => by rcases HSU.out k hk with q | q; exact .inl q; exact .inr (Nat.le_trans HBI.out q)⟩, HC10.out⟩⟩
end
end Go.Proofs.YtakkhdammmcjcaaGreatDoor.Ctl
