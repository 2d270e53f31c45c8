/-
  Layer 22, put together: CtlPowe. Conditions: as each theorem names them.
-/
import Derived.Test.YtakkhdammmcjcaaGreatDoorK21
import Derived.Test.YtakkhdammmcjcaaGreatDoorK22
import Derived.Test.YtakkhdammmcjcaaGreatDoorK01
namespace Go.Proofs.YtakkhdammmcjcaaGreatDoor.Ctl
open Go.RowKit Base Mem Msgs Cr
set_option maxRecDepth 100000
/-- Its own parameters, as it hands them on. -/
def ownP (x : Ct) : Pn.Pr := ⟨0, 0, 0, 0, 0, x.own.n, 0, x.own.k⟩
theorem agree_own (x : Ct) (p : Pn.Pr) : Pn.agree (ownP x) p = Pn.agree x.own p := rfl
theorem builtP (n k : Int) : Tryz.prog.built 25 [(5, im n), (7, im k)] = some (pcl ⟨0, 0, 0, 0, 0, n, 0, k⟩) := by kernel_rfl
theorem run_ldz {T : Nat} {w : World} {b : Nat} {t : TypeId} {cs : Array Value} (hT : IsRow T cs.size) (h : w.heap[b]? = some (.cells cs t (0, 0))) : (loadVar T ⟨b, 0, none⟩).run Tryz.prog w = .ok (.agg cs) w := by
 obtain ⟨fs, hu⟩ := hT.under
 exact run_loadVar_row w b t T cs (0, 0) _ h hu rfl hT.size
theorem own_results (tmps : Array Value) (w : World) (b : Nat) (p : Pn.Pr) (t : TypeId) (h : w.heap[b]? = some (.cells (pcl p) t (0, 0))) (p2 : tmps[2]?.getD undef = ptr b) :
 (results Tryz.f90 tmps).run Tryz.prog w = .ok (Pn.pv p) w := by
 have e := run_ldz (T := 25) (cs := pcl p) isP h
 simp [results, Tryz.results90, asAddr, p2, e]
 rfl
theorem cmd_results (tmps : Array Value) (w : World) (b : Nat) (f : Fa) (q : Bool) (h : w.heap[b]? = some (.cells (fc f) GT (0, 0))) (p2 : tmps[4]?.getD undef = ptr b) (p3 : tmps[5]?.getD undef = .bool q) :
 (results Tryz.f65 tmps).run Tryz.prog w = .ok (.tuple #[.agg (fc f), .bool q]) w := by
 have e := run_ldz (T := GT) (cs := fc f) isG h
 simp [results, Tryz.results65, asAddr, p2, p3, e]
theorem builtG0 : Tryz.prog.built GT [] = some (fc zG) := by kernel_rfl
section
variable {w w' u u' : World} {c base b3 b4 k : Nat} {a b t n : Int} {va vc v : Value} {x y : Ct} {m m3 : Ms} {f : Fa}
theorem hit9 {b i : Nat} (M : Mod b u u') (h : c ≠ b) : u'.cell? ⟨c, i, none⟩ = u.cell? ⟨c, i, none⟩ := World.cell?_of_block (a := ⟨c, i, none⟩) (M.rest c h)
set_option maxHeartbeats 4000000 in
theorem fown (h : P w c base a b t n va vc x) : Calls Tryz.prog 90 #[ptr c] w fun e w' => e = .returned (Pn.pv (ownP x)) ∧ Below w.heap.size w w' := by
 have HP := Lib.hid h
 have e1 : min (max a 1) 65535 = x.own.n := h.raw.rn.symm
 have e2 : min (max b 1) 7 = x.own.k := h.raw.rk.symm
 have HLT := Lib.hid h.hd.lt
 clear h
 go_enter Tryz.func90, Tryz.ntmps90
 go_wp2_with ((with_reducible refine alr (T := 25) (cs := pcl Pn.zero) (by kernel_rfl) ?_); intro b2 wx h F0; have H5 := Lib.hid h; have B5 := Lib.hid F0.below; have N5 := Lib.hid (F0.le (Below.refl _ _)); have HA := Lib.hid (And.intro (HP.out.below F0.below).cells.1 (HP.out.below F0.below).cells.2.1); have hl := (HP.out.below F0.below).hd.lt; have hne : c ≠ b2 := (by have h1 := HLT.out; have h2 := F0.eq; omega); clear h F0)
 refine wp_region_held_drew (S := (fun w' => w'.cell? ⟨c, 0, none⟩ = some (im a) ∧ w'.cell? ⟨c, 1, none⟩ = some (im b))) (by kernel_rfl) ⟨HA.out.1, HA.out.2⟩ (fun hHeld => ?_)
 refine' tk9 0 rfl ?_
 refine' tk9 1 rfl ?_
 refine' tk9 2 rfl ?_
 refine' tv9 3 rfl (by intro _ hSw; (try dsimp only at hSw); have c0 := hSw.1; go_simp <;> with_reducible rfl) ?_
 refine' tk9 4 rfl ?_
 refine' tk9 5 rfl ?_
 refine' tk9 6 rfl ?_
 refine' tk9 7 rfl ?_
 refine' tk9 8 rfl ?_
 refine' tv9 9 rfl (by intro _ hSw; (try dsimp only at hSw); have c1 := hSw.2; go_simp <;> with_reducible rfl) ?_
 refine' tk9 10 rfl ?_
 refine' tk9 11 rfl ?_
 refine' tv9 12 rfl (by intro _ hSw; (try dsimp only at hSw); refine bdk (ops := 0) (pcl (ownP x)) rfl ?_; kernel_rfl) ?_
 refine ry [13] (.cons rfl (fun K hK => ?_) .nil)
 rw [if_pos (by simp [Region.wanted])]
 refine wp_row (cs := pcl (ownP x)) isP (show wx.drew.heap[b2]? = _ from H5.out) rfl rfl (by unfold pcl ownP; simp [Value.oneCell']) rfl rfl ?_
 intro w9 h9 M9
 have H9 := Lib.hid h9
 have B9 := Lib.hid (M9.below B5.out.drew N5.out)
 refine hK.out _ _ ⟨(hit9 M9 (by omega)).trans HA.out.1, (hit9 M9 (by omega)).trans HA.out.2⟩ (fun hNext => ?_)
 clear hK K hHeld
 have hHeld := hNext; clear hNext
 (try simp only [Act.put])
 refine wpAnyH_done (by kernel_rfl) ?_ _
 clear hHeld
 go_wp2
 exact bodyPost_ret (own_results _ _ _ _ _ H9.out rfl) rfl ⟨rfl, B9.out⟩
/-- Within owe: nothing that was there has turned; the message in its box. -/
structure Aw (w : World) (c base b3 : Nat) (a b t n : Int) (va vc : Value) (x : Ct) (m : Ms) (u : World) : Prop where
 p : P u c base a b t n va vc x
 h3 : u.heap[b3]? = some (mO m MT)
 below : Below w.heap.size w u
 n3 : ¬ PS c va vc b3
theorem Aw.start (h : P w c base a b t n va vc x) (F : Fresh b3 w u) (h3 : u.heap[b3]? = some (mO m MT)) : Aw w c base b3 a b t n va vc x m u := ⟨h.below F.below, h3, F.below, h.not_new (by rw [F.eq]; exact Nat.le_refl _)⟩
theorem Aw.on (h : Aw w c base b3 a b t n va vc x m u) (hb : Below u.heap.size u u') : Aw w c base b3 a b t n va vc x m u' := ⟨h.p.below hb, stays h.h3 hb, below_on h.below hb, h.n3⟩
/-- What the append leaves, once it is stored. -/
structure Aq (w : World) (c base b3 : Nat) (a b t n : Int) (va vc : Value) (y : Ct) (m : Ms) (v2 : Value) (u : World) : Prop where
 px : Px w c base a b t n va vc y (u.setCell ⟨c, 4, none⟩ v2)
 c4 : u.cell? ⟨c, 4, none⟩ = some va
 fr : ∀ i, u.frozen? ⟨c, i, none⟩ = false
 lt : c < u.heap.size
 h3 : u.heap[b3]? = some (mO m MT)
 h3' : (u.setCell ⟨c, 4, none⟩ v2).heap[b3]? = some (mO m MT)
theorem Aw.put {v2 : Value} {l2 : List Ms} (h : Aw w c base b3 a b t n va vc x m u) (ho : OwnS AT 2 al u' base v2 l2) (hg : u.grownBy u' va.ownBlock) (hv : v2.ownBlock = va.ownBlock ∨ v2.ownBlock = some u.heap.size) (hok : ({ x with an := l2 } : Ct).Ok) : Aq w c base b3 a b t n va vc { x with an := l2 } m v2 u' := by
 have hpa := h.p.put_an ho (Chg.of_grown hg fun k hk => hk) (fun k hk => by
  rcases hv with e | e
  · exact .inl (by rw [← e]; exact hk)
  · rw [e] at hk; cases hk; exact .inr (Nat.le_refl _)) hok
 have h3 : u'.heap[b3]? = some (mO m MT) := (Chg.of_grown (S := fun k => va.ownBlock = some k) hg fun k hk => hk).stays h.h3 fun e => h.n3 (.inr (.inl e))
 exact ⟨⟨⟨_, _, hpa.p, fun k hk => by
  rcases hpa.sub k hk with e | e
  · exact .inl e
  · exact .inr (Nat.le_trans h.below.size e)⟩, (Chg.of_below h.below).then hpa.chg⟩, hpa.c4, hpa.fr, hpa.lt, h3, (set_other (fun e => h.n3 (.inl e)) _).trans h3⟩
theorem Ct.Ok.add (h : x.Ok) (hm : m.Ok) (hl : x.an.length < 64) : ({ x with an := x.an ++ [m] } : Ct).Ok :=
 ⟨h.n, h.k, h.t2, h.n2, fun y hy => by
  rcases List.mem_append.1 hy with hy | hy
  · exact h.an y hy
  · rw [List.mem_singleton.1 hy]; exact hm, by show (x.an ++ [m]).length ≤ 64; rw [List.length_append]; show x.an.length + 1 ≤ 64; omega, h.cs, h.lf, h.tr, h.un⟩
set_option maxHeartbeats 8000000 in
theorem fowe_no (h : P w c base a b t n va vc x) (m : Ms) (hl : ¬ x.an.length < 64) : Calls Tryz.prog 66 #[ptr c, mv m] w fun e w' => e = .returned (.bool false) ∧ Px w c base a b t n va vc x w' := by
 obtain ⟨oa, ca, rfl, _⟩ := row_form h.an
 have HP := Lib.hid h
 obtain ⟨z, hz⟩ : ∃ z, x.an.length = z := ⟨_, rfl⟩
 rw [hz] at HP hl ⊢
 have t1 : decide ((64 : Int) ≤ (z : Int)) = true := decide_eq_true (by omega)
 have t2 : (64 : Int) ≤ (z : Int) := by omega
 clear h hz hl
 go_enter Tryz.func66, Tryz.ntmps66
 go_wp2_with ((with_reducible refine bxm (m := m) ?hx ?_); (case hx => rfl); intro b3 w1 h F0; have HW1 := Lib.hid (Aw.start HP.out F0 h); have HT1 := Lib.hid (tab_below HP.out.tab F0.below); obtain ⟨c0, c1, c2, c3, c4, c5⟩ := (HP.out.below F0.below).cells; have hl := (HP.out.below F0.below).hd.lt; clear h F0)
 go_ret
 exact ⟨rfl, HP.out.px_below HW1.out.below⟩
set_option maxHeartbeats 8000000 in
theorem fowe (h : P w c base a b t n va vc x) (m : Ms) (hm : m.Ok) (hl : x.an.length < 64) : Calls Tryz.prog 66 #[ptr c, mv m] w fun e w' => e = .returned (.bool true) ∧ Px w c base a b t n va vc { x with an := x.an ++ [m] } w' := by
 have CP := Lib.hid (fun w ht => fput m hm.in_ (by have := ok_b hm; omega) w ht)
 have CC := Lib.hid (fun w => fchan m hm.in_ w)
 have HOK := Lib.hid (h.ok.add hm hl)
 have HL9 : Hid (x.an.length + 1 ≤ 1000000) := Lib.hid (by omega)
 obtain ⟨oa, ca, rfl, _⟩ := row_form h.an
 have HP := Lib.hid h
 obtain ⟨z, hz⟩ : ∃ z, x.an.length = z := ⟨_, rfl⟩
 rw [hz] at HP hl ⊢
 have t1 : decide ((64 : Int) ≤ (z : Int)) = false := decide_eq_false (by omega)
 have t2 : ¬ (64 : Int) ≤ (z : Int) := by omega
 clear h hz hl hm
 go_enter Tryz.func66, Tryz.ntmps66
 go_wp2_with (first
  | ((with_reducible refine bxm (m := m) ?hx ?_); (case hx => rfl); intro b3 w1 h F0; have HW1 := Lib.hid (Aw.start HP.out F0 h); have HT1 := Lib.hid (tab_below HP.out.tab F0.below); obtain ⟨c0, c1, c2, c3, c4, c5⟩ := (HP.out.below F0.below).cells; have hl := (HP.out.below F0.below).hd.lt; clear h F0)
  | ((with_reducible refine ldm isM HW1.out.h3 ?hx ?_); (case hx => rfl))
  | (go_at_call 24; ((with_reducible refine (CP.out _ HT1.out).mono ?_); rintro e w2 ⟨rfl, hb⟩; have HW2 := Lib.hid (HW1.out.on hb); clear hb HW1 HT1 c0 c1 c2 c3 c4 c5 hl)))
 have HW : Hid (Aw w c base b3 a b t n (.slice oa z ca) vc x m w2.drew) := Lib.hid (HW2.out.on ⟨rfl, rfl, rfl, Nat.le_refl _, fun _ _ => rfl⟩)
 clear HW2 t1 t2
 refine wp_region_held_drew (S := (fun w' => w'.heap[b3]? = some (mO m MT))) (by kernel_rfl) HW.out.h3 (fun hHeld => ?_)
 refine' tk9 0 rfl ?_
 refine' tk9 1 rfl ?_
 refine' tk9 2 rfl ?_
 refine' tk9 3 rfl ?_
 refine' tk9 5 rfl ?_
 refine' tv9 6 rfl (by intro _ hSw; (try dsimp only at hSw); refine ex_ld isM hSw ?_; rfl) ?_
 refine ry [4, 7] ?_
 refine AllReadyH.cons rfl (fun K hK => ?_) (AllReadyH.cons rfl (fun K hK => ?_) AllReadyH.nil)
 · obtain ⟨c0, c1, c2, c3, c4, c5⟩ := HW.out.p.cells
   have hl := HW.out.p.hd.lt
   go_simp
   clear c0 c1 c2 c3 c4 c5 hl
   refine hK.out _ _ HW.out.h3 (fun hNext => ?_)
   clear hK K hHeld
   have hHeld := hNext; clear hNext
   (try simp only [Act.put, z1', z2', z3'])
   refine ry [7] (.cons rfl (fun K hK => ?_) .nil)
   go_simp
   (with_reducible refine (CC.out _).mono ?_)
   rintro e w8 ⟨rfl, hb⟩
   go_wp2_with fail
   have HW2 := Lib.hid (HW.out.on hb)
   clear HW hb
   have HW := HW2
   clear HW2
   refine hK.out _ _ HW.out.h3 (fun hNext => ?_)
   clear hK K hHeld
   have hHeld := hNext; clear hNext
   (try simp only [Act.put, z1', z2', z3'])
   refine' tv9 8 rfl (by intro _ hSw; (try dsimp only at hSw); refine bdk (ops := 0) (ac m) rfl ?_; kernel_rfl) ?_
   refine ry [9] (.cons rfl (fun K hK => ?_) .nil)
   refine bsk (z := 2) (ac m) Tryz.underlying71 infoA ⟨by decide, by decide⟩ ⟨by decide, by decide⟩ (by kernel_rfl) ?_
   intro b7 w7 h7 F7
   have HW2 := Lib.hid (HW.out.on F7.below)
   have H7 := Lib.hid h7
   clear HW h7 F7
   have HW := HW2
   clear HW2
   refine hK.out _ _ HW.out.h3 (fun hNext => ?_)
   clear hK K hHeld
   have hHeld := hNext; clear hNext
   (try simp only [Act.put, z1', z2', z3'])
   refine ry [10] ?_
   refine AllReadyH.cons (o := ⟨some 28, .call ⟨.builtin .append, #[.tmp 22, .tmp 27], #[71, 71]⟩, 71, "ctl.go:176", #[⟨4, .data⟩, ⟨9, .data⟩, ⟨7, .chain⟩], none⟩) rfl (fun K hK => ?_) AllReadyH.nil
   replace H7 := Lib.hid H7.out
   obtain ⟨v9, w9, hr9, ho9, hg9, hv9⟩ := run_append_elt eltA _ _ base _ _ HW.out.p.an b7 1 m (row_ofk H7.out) HL9.out (Nat.le_trans HW.out.p.lo (Nat.le_of_lt HW.out.p.hd.lt))
   obtain ⟨ow, cw, rfl, _⟩ := row_form ho9
   obtain ⟨nw, hnw⟩ : ∃ nw, (x.an ++ [m]).length = nw := ⟨_, rfl⟩
   rw [hnw] at hr9 ho9 hv9
   clear hnw
   refine step_append_known rfl _ _ _ _ rfl rfl rfl hr9 ?_
   have HE := Lib.hid (HW.out.put ho9 hg9 hv9 HOK.out)
   have c4 := HE.out.c4
   have hf := HE.out.fr
   have hl := HE.out.lt
   refine hK.out _ _ HE.out.h3 (fun hNext => ?_)
   clear hK K hHeld
   have hHeld := hNext; clear hNext
   (try simp only [Act.put, z1', z2', z3'])
   refine' tk9 11 rfl ?_
   refine' tk9 12 rfl ?_
   refine ry [13] (.cons rfl (fun K hK => ?_) .nil)
   go_simp
   clear c4 hf hl
   refine hK.out _ _ HE.out.h3' (fun hNext => ?_)
   clear hK K hHeld
   have hHeld := hNext; clear hNext
   (try simp only [Act.put])
   refine wpAnyH_done (by kernel_rfl) ?_ _
   clear hHeld H7 hr9 ho9 hg9 hv9 HW
   go_wp2
   go_ret
   exact ⟨rfl, HE.out.px⟩
 · go_simp
   (with_reducible refine (CC.out _).mono ?_)
   rintro e w8 ⟨rfl, hb⟩
   go_wp2_with fail
   have HW2 := Lib.hid (HW.out.on hb)
   clear HW hb
   have HW := HW2
   clear HW2
   refine hK.out _ _ HW.out.h3 (fun hNext => ?_)
   clear hK K hHeld
   have hHeld := hNext; clear hNext
   (try simp only [Act.put, z1', z2', z3'])
   refine' tv9 8 rfl (by intro _ hSw; (try dsimp only at hSw); refine bdk (ops := 0) (ac m) rfl ?_; kernel_rfl) ?_
   refine ry [4, 9] ?_
   refine AllReadyH.cons rfl (fun K hK => ?_) (AllReadyH.cons rfl (fun K hK => ?_) AllReadyH.nil)
   · obtain ⟨c0, c1, c2, c3, c4, c5⟩ := HW.out.p.cells
     have hl := HW.out.p.hd.lt
     go_simp
     clear c0 c1 c2 c3 c4 c5 hl
     refine hK.out _ _ HW.out.h3 (fun hNext => ?_)
     clear hK K hHeld
     have hHeld := hNext; clear hNext
     (try simp only [Act.put, z1', z2', z3'])
     refine ry [9] (.cons rfl (fun K hK => ?_) .nil)
     refine bsk (z := 2) (ac m) Tryz.underlying71 infoA ⟨by decide, by decide⟩ ⟨by decide, by decide⟩ (by kernel_rfl) ?_
     intro b7 w7 h7 F7
     have HW2 := Lib.hid (HW.out.on F7.below)
     have H7 := Lib.hid h7
     clear HW h7 F7
     have HW := HW2
     clear HW2
     refine hK.out _ _ HW.out.h3 (fun hNext => ?_)
     clear hK K hHeld
     have hHeld := hNext; clear hNext
     (try simp only [Act.put, z1', z2', z3'])
     refine ry [10] ?_
     refine AllReadyH.cons (o := ⟨some 28, .call ⟨.builtin .append, #[.tmp 22, .tmp 27], #[71, 71]⟩, 71, "ctl.go:176", #[⟨4, .data⟩, ⟨9, .data⟩, ⟨7, .chain⟩], none⟩) rfl (fun K hK => ?_) AllReadyH.nil
     replace H7 := Lib.hid H7.out
     obtain ⟨v9, w9, hr9, ho9, hg9, hv9⟩ := run_append_elt eltA _ _ base _ _ HW.out.p.an b7 1 m (row_ofk H7.out) HL9.out (Nat.le_trans HW.out.p.lo (Nat.le_of_lt HW.out.p.hd.lt))
     obtain ⟨ow, cw, rfl, _⟩ := row_form ho9
     obtain ⟨nw, hnw⟩ : ∃ nw, (x.an ++ [m]).length = nw := ⟨_, rfl⟩
     rw [hnw] at hr9 ho9 hv9
     clear hnw
     refine step_append_known rfl _ _ _ _ rfl rfl rfl hr9 ?_
     have HE := Lib.hid (HW.out.put ho9 hg9 hv9 HOK.out)
     have c4 := HE.out.c4
     have hf := HE.out.fr
     have hl := HE.out.lt
     refine hK.out _ _ HE.out.h3 (fun hNext => ?_)
     clear hK K hHeld
     have hHeld := hNext; clear hNext
     (try simp only [Act.put, z1', z2', z3'])
     refine' tk9 11 rfl ?_
     refine' tk9 12 rfl ?_
     refine ry [13] (.cons rfl (fun K hK => ?_) .nil)
     go_simp
     clear c4 hf hl
     refine hK.out _ _ HE.out.h3' (fun hNext => ?_)
     clear hK K hHeld
     have hHeld := hNext; clear hNext
     (try simp only [Act.put])
     refine wpAnyH_done (by kernel_rfl) ?_ _
     clear hHeld H7 hr9 ho9 hg9 hv9 HW
     go_wp2
     go_ret
     exact ⟨rfl, HE.out.px⟩
   · refine bsk (z := 2) (ac m) Tryz.underlying71 infoA ⟨by decide, by decide⟩ ⟨by decide, by decide⟩ (by kernel_rfl) ?_
     intro b7 w7 h7 F7
     have HW2 := Lib.hid (HW.out.on F7.below)
     have H7 := Lib.hid h7
     clear HW h7 F7
     have HW := HW2
     clear HW2
     refine hK.out _ _ HW.out.h3 (fun hNext => ?_)
     clear hK K hHeld
     have hHeld := hNext; clear hNext
     (try simp only [Act.put, z1', z2', z3'])
     refine ry [4] (.cons rfl (fun K hK => ?_) .nil)
     obtain ⟨c0, c1, c2, c3, c4, c5⟩ := HW.out.p.cells
     have hl := HW.out.p.hd.lt
     go_simp
     clear c0 c1 c2 c3 c4 c5 hl
     refine hK.out _ _ HW.out.h3 (fun hNext => ?_)
     clear hK K hHeld
     have hHeld := hNext; clear hNext
     (try simp only [Act.put, z1', z2', z3'])
     refine ry [10] ?_
     refine AllReadyH.cons (o := ⟨some 28, .call ⟨.builtin .append, #[.tmp 22, .tmp 27], #[71, 71]⟩, 71, "ctl.go:176", #[⟨4, .data⟩, ⟨9, .data⟩, ⟨7, .chain⟩], none⟩) rfl (fun K hK => ?_) AllReadyH.nil
     replace H7 := Lib.hid H7.out
     obtain ⟨v9, w9, hr9, ho9, hg9, hv9⟩ := run_append_elt eltA _ _ base _ _ HW.out.p.an b7 1 m (row_ofk H7.out) HL9.out (Nat.le_trans HW.out.p.lo (Nat.le_of_lt HW.out.p.hd.lt))
     obtain ⟨ow, cw, rfl, _⟩ := row_form ho9
     obtain ⟨nw, hnw⟩ : ∃ nw, (x.an ++ [m]).length = nw := ⟨_, rfl⟩
     rw [hnw] at hr9 ho9 hv9
     clear hnw
     refine step_append_known rfl _ _ _ _ rfl rfl rfl hr9 ?_
     have HE := Lib.hid (HW.out.put ho9 hg9 hv9 HOK.out)
     have c4 := HE.out.c4
     have hf := HE.out.fr
     have hl := HE.out.lt
     refine hK.out _ _ HE.out.h3 (fun hNext => ?_)
     clear hK K hHeld
     have hHeld := hNext; clear hNext
     (try simp only [Act.put, z1', z2', z3'])
     refine' tk9 11 rfl ?_
     refine' tk9 12 rfl ?_
     refine ry [13] (.cons rfl (fun K hK => ?_) .nil)
     go_simp
     clear c4 hf hl
     refine hK.out _ _ HE.out.h3' (fun hNext => ?_)
     clear hK K hHeld
     have hHeld := hNext; clear hNext
     (try simp only [Act.put])
     refine wpAnyH_done (by kernel_rfl) ?_ _
     clear hHeld H7 hr9 ho9 hg9 hv9 HW
     go_wp2
     go_ret
     exact ⟨rfl, HE.out.px⟩
/-- Within hearCommand: the message, and the fact to be told, in their boxes. -/
structure Hc (w : World) (c base b3 b4 : Nat) (a b t n : Int) (va vc : Value) (x : Ct) (m : Ms) (f : Fa) (u : World) : Prop where
 p : P u c base a b t n va vc x
 below : Below w.heap.size w u
 h3 : u.heap[b3]? = some (mO m MT)
 h4 : u.heap[b4]? = some (.cells (fc f) GT (0, 0))
 n3 : ¬ PS c va vc b3
 n4 : ¬ PS c va vc b4
 l3 : w.heap.size ≤ b3
 l4 : w.heap.size ≤ b4
 tb : TB < w.heap.size
theorem Hc.start {w1 : World} (h : P w c base a b t n va vc x) (F3 : Fresh b3 w w1) (h3 : w1.heap[b3]? = some (mO m MT)) (F4 : Fresh b4 w1 u) (h4 : u.heap[b4]? = some (.cells (fc f) GT (0, 0))) : Hc w c base b3 b4 a b t n va vc x m f u :=
 ⟨(h.below F3.below).below F4.below, F4.on F3.below, F4.stays h3, h4, h.not_new (by rw [F3.eq]; exact Nat.le_refl _), h.not_new (by rw [F4.eq]; exact F3.below.size), by rw [F3.eq]; exact Nat.le_refl _, by rw [F4.eq]; exact F3.below.size, h.tb_lt⟩
theorem Hc.on (h : Hc w c base b3 b4 a b t n va vc x m f u) (hb : Below u.heap.size u u') : Hc w c base b3 b4 a b t n va vc x m f u' := ⟨h.p.below hb, below_on h.below hb, stays h.h3 hb, stays h.h4 hb, h.n3, h.n4, h.l3, h.l4, h.tb⟩
theorem Hc.ne34 (h : Hc w c base b3 b4 a b t n va vc x m f u) : b3 ≠ b4 := type_ne h.h3 h.h4 (by decide)
theorem Hc.set3 (h : Hc w c base b3 b4 a b t n va vc x m f u) (M : Mod b3 u u') (h3 : u'.heap[b3]? = some (mO m3 MT)) : Hc w c base b3 b4 a b t n va vc x m3 f u' :=
 ⟨h.p.mod M h.n3 (fun e => by have := h.l3; have := h.tb; omega), M.below h.below h.l3, h3, M.other h.ne34.symm h.h4, h.n3, h.n4, h.l3, h.l4, h.tb⟩
/-- A block that came later. -/
structure Nw (c : Nat) (va vc : Value) (w : World) (b3 b4 b6 : Nat) : Prop where
 n : ¬ PS c va vc b6
 ne3 : b3 ≠ b6
 ne4 : b4 ≠ b6
 l : w.heap.size ≤ b6
theorem Hc.new {b6 : Nat} (h : Hc w c base b3 b4 a b t n va vc x m f u) (F : Fresh b6 u u') : Nw c va vc w b3 b4 b6 := ⟨h.p.not_new (by rw [F.eq]; exact Nat.le_refl _), F.ne h.h3, F.ne h.h4, by rw [F.eq]; exact h.below.size⟩
theorem Hc.other {b6 : Nat} (h : Hc w c base b3 b4 a b t n va vc x m f u) (M : Mod b6 u u') (hn : Nw c va vc w b3 b4 b6) : Hc w c base b3 b4 a b t n va vc x m f u' :=
 ⟨h.p.mod M hn.n (fun e => by have := hn.l; have := h.tb; omega), M.below h.below hn.l, M.other hn.ne3 h.h3, M.other hn.ne4 h.h4, h.n3, h.n4, h.l3, h.l4, h.tb⟩
theorem Hc.after3 (h : Hc w c base b3 b4 a b t n va vc x m f u) (hx : Px u c base a b t n va vc y u') : u'.heap[b3]? = some (mO m MT) := hx.chg.stays h.h3 h.n3
theorem Hc.after4 (h : Hc w c base b3 b4 a b t n va vc x m f u) (hx : Px u c base a b t n va vc y u') : u'.heap[b4]? = some (.cells (fc f) GT (0, 0)) := hx.chg.stays h.h4 h.n4
/-- The fact is written last. -/
theorem Hc.close {u2 : World} (h : Hc w c base b3 b4 a b t n va vc x m f u) (hx : Px u c base a b t n va vc y u') (M : Mod b4 u' u2) : Px w c base a b t n va vc y u2 := by
 obtain ⟨⟨va', vc', hp, hs⟩, hc⟩ := hx
 have hl := lt_heap h.h4
 have hn : ¬ PS c va' vc' b4 := fun e => by
  rcases hs b4 e with q | q
  · exact h.n4 q
  · omega
 refine ⟨⟨va', vc', hp.mod M hn (fun e => by have := h.l4; have := h.tb; omega), fun k hk => ?_⟩, ((Chg.of_below h.below).then hc).trans (T := fun k => k = b4) ⟨M.os, M.tape, M.output, Nat.le_of_eq M.size.symm, fun k _ hk => M.rest k hk⟩ fun k hk e => by have := h.l4; omega⟩
 rcases hs k hk with q | q
 · exact .inl q
 · exact .inr (Nat.le_trans h.below.size q)
/-- What a hearing answers of its facts. -/
def hv : List Fa → Value
 | [] => .tuple #[.agg (fc zG), .bool false]
 | f :: _ => .tuple #[.agg (fc f), .bool true]
set_option maxHeartbeats 16000000 in
theorem fhcmd (h : P w c base a b t n va vc x) (m : Ms) (hm : m.Ok) (hk : m.k ≤ 6) : Calls Tryz.prog 65 #[ptr c, mv m] w fun e w' => e = .returned (hv (x.command m).2) ∧ Px w c base a b t n va vc (x.command m).1 w' := by
 have hcy : x.an.length < 64 → x.command m = ({ x with an := x.an ++ [(agreed x.own m).cmd false] }, [⟨1, agreed x.own m⟩]) := fun hl => by
  unfold Ct.command; rw [if_neg (by omega), if_neg (by omega)]
 have hcn : ¬ x.an.length < 64 → x.command m = (x, []) := fun hl => by
  unfold Ct.command; rw [if_pos (.inr (by omega))]
 have hrk := (h.ok.command hm)
 have hmo : ((agreed x.own m).cmd false).Ok ∨ ¬ x.an.length < 64 := by
  by_cases hl : x.an.length < 64
  · rw [hcy hl] at hrk
    exact .inl (hrk.an _ (List.mem_append_right _ (List.mem_singleton.2 rfl)))
  · exact .inr hl
 have HP := Lib.hid h
 obtain ⟨mm, hmm⟩ : ∃ mm, agreed x.own m = mm := ⟨_, rfl⟩
 rw [hmm] at hcy hmo
 have CW1 : Hid (x.an.length < 64 → ∀ u, P u c base a b t n va vc x → Calls Tryz.prog 66 #[ptr c, mv (mm.cmd false)] u fun e w' => e = .returned (.bool true) ∧ Px u c base a b t n va vc { x with an := x.an ++ [mm.cmd false] } w') := Lib.hid fun hl u hu => fowe hu _ (by
  rcases hmo with q | q
  · exact q
  · exact absurd hl q) hl
 have CW2 : Hid (¬ x.an.length < 64 → ∀ u, P u c base a b t n va vc x → Calls Tryz.prog 66 #[ptr c, mv (mm.cmd false)] u fun e w' => e = .returned (.bool false) ∧ Px u c base a b t n va vc x w') := Lib.hid fun hl u hu => fowe_no hu _ hl
 have HCM := Lib.hid hcy
 have HCN := Lib.hid hcn
 clear hcy hcn hrk hmo h hk
 by_cases h1 : m.k = 1
 · have u5 : ((m.k : Int) == 1) = true := by rw [h1]; rfl
   have CO := Lib.hid (fun (u : World) (hu : P u c base a b t n va vc x) => fown hu)
   have CG := Lib.hid (fun w => Pn.fagree (ownP x) m.p w)
   have hag : mm = ⟨m.k, m.c, Pn.agree x.own m.p, m.s, m.t, m.b⟩ := by rw [← hmm]; unfold agreed; rw [if_pos h1]
   have HMM := Lib.hid hag.symm
   clear h1 hag hmm hm
   go_enter Tryz.func65, Tryz.ntmps65
   go_wp2_with (first
    | ((with_reducible refine bxm (m := m) ?hx ?_); (case hx => rfl); intro b3 w1 h F0; have H3 := Lib.hid h; have F3 := Lib.hid F0; clear h F0)
    | ((with_reducible refine alr (T := GT) (cs := fc zG) (by kernel_rfl) ?_); intro b4 w2 h F0; have HH := Lib.hid (Hc.start HP.out F3.out H3.out F0 h); clear h F0 H3 F3; obtain ⟨d0, d1, d2, d3, d4, d5⟩ := lay HH.out.h3))
   replace HH := Lib.hid (HH.out.on (u' := w2.drew) ⟨rfl, rfl, rfl, Nat.le_refl _, fun _ _ => rfl⟩)
   clear d0 d1 d2 d3 d4 d5 u5
   refine wp_region_held_drew (S := (fun w' => At w' c #[im a, im b, im t, im n, va, vc] CT)) (by kernel_rfl) HH.out.p.hd (fun hHeld => ?_)
   refine' tk9 0 rfl ?_
   refine' tk9 2 rfl ?_
   refine ry [1, 3] ?_
   refine AllReadyH.cons rfl (fun K hK => ?_) (AllReadyH.cons rfl (fun K hK => ?_) AllReadyH.nil)
   · go_simp
     refine (CO.out _ (HH.out.p)).mono ?_
     rintro e w8 ⟨rfl, hb⟩
     go_wp2_with fail
     have HH2 := Lib.hid (HH.out.on hb)
     clear HH hb
     have HH := HH2
     clear HH2
     refine hK.out _ _ HH.out.p.hd (fun hNext => ?_)
     clear hK K hHeld
     have hHeld := hNext; clear hNext
     (try simp only [Act.put, z1', z2', z3'])
     refine ry [3] (.cons rfl (fun K hK => ?_) .nil)
     refine step_ldp (m := m) isP HH.out.h3 rfl ?_
     refine hK.out _ _ HH.out.p.hd (fun hNext => ?_)
     clear hK K hHeld
     have hHeld := hNext; clear hNext
     (try simp only [Act.put, z1', z2', z3'])
     refine ry [4] (.cons rfl (fun K hK => ?_) .nil)
     go_simp
     refine (CG.out _).mono ?_
     rintro e w9 ⟨rfl, hb⟩
     go_wp2_with fail
     have HH2 := Lib.hid (HH.out.on hb)
     clear HH hb
     have HH := HH2
     clear HH2
     refine hK.out _ _ HH.out.p.hd (fun hNext => ?_)
     clear hK K hHeld
     have hHeld := hNext; clear hNext
     (try simp only [Act.put, z1', z2', z3'])
     refine' tk9 5 rfl ?_
     refine ry [6] (.cons rfl (fun K hK => ?_) .nil)
     refine step_stp (p := Pn.agree x.own m.p) isP HH.out.h3 rfl rfl ?_
     intro w3 h M
     rw [HMM.out] at h
     have HH3 := Lib.hid (HH.out.set3 M h)
     clear HH h M
     have HH := HH3
     clear HH3
     refine hK.out _ _ HH.out.p.hd (fun hNext => ?_)
     clear hK K hHeld
     have hHeld := hNext; clear hNext
     (try simp only [Act.put])
     refine wpAnyH_done (by kernel_rfl) ?_ _
     clear hHeld
     by_cases h64 : x.an.length < 64
     · have CW := Lib.hid (CW1.out h64)
       have HX1 := Lib.hid (HCM.out h64)
       clear h64
       go_wp2_with (first
        | ((with_reducible refine ldm isM HH.out.h3 ?hx ?_); (case hx => rfl))
        | ((with_reducible refine alm zeroM ?_); intro b6 w4 h F; have H4 := Lib.hid (HH.out.on F.below); have H6 := Lib.hid h; have N6 := Lib.hid (HH.out.new F); clear h F; (try clear d0 d1 d2 d3 d4 d5))
        | ((with_reducible refine stm (m := mm) isM H6.out ?hx ?hy ?_); (case hx => rfl); (case hy => rfl); intro w5 h M; have H5 := Lib.hid (H4.out.other M N6.out); replace H6 := Lib.hid h; clear h M H4)
        | ((with_reducible refine stc (z := false) H6.out ?hx ?hy ?_); (case hx => rfl); (case hy => rfl); intro w6 h M; have H7 := Lib.hid (H5.out.other M N6.out); replace H6 := Lib.hid h; clear h M H5)
        | ((with_reducible refine ldm isM H6.out ?hx ?_); (case hx => rfl))
        | (go_at_call 66; (refine (CW.out _ H7.out.p).mono ?_; rintro e w7 ⟨rfl, hx⟩; have HX := Lib.hid hx; have H37 := Lib.hid (H7.out.after3 hx); have H47 := Lib.hid (H7.out.after4 hx); clear hx))
        | ((with_reducible refine ldm isM H37.out ?hx ?_); (case hx => rfl))
        | ((with_reducible refine bdB (builtG 1 mm) ?hl ?_); (case hl => kernel_rfl))
        | ((with_reducible refine str (fc ⟨1, mm⟩) isG H47.out ?h0 ?h1 ?hc ?hx ?hy ?_); (case h0 => rfl); (case h1 => rfl); (case hc => exact all_oneCell_toArray (fl_one ⟨1, mm⟩)); (case hx => rfl); (case hy => rfl); intro w8 h8 M8; have HR8 := Lib.hid h8; have HE := Lib.hid (H7.out.close HX.out M8); clear h8 M8))
       exact bodyPost_ret (cmd_results _ _ _ _ _ HR8.out rfl rfl) rfl ⟨by rw [HX1.out]; rfl, by rw [HX1.out]; exact HE.out⟩
     · have CW := Lib.hid (CW2.out h64)
       have HX1 := Lib.hid (HCN.out h64)
       clear h64
       go_wp2_with (first
        | ((with_reducible refine ldm isM HH.out.h3 ?hx ?_); (case hx => rfl))
        | ((with_reducible refine alm zeroM ?_); intro b6 w4 h F; have H4 := Lib.hid (HH.out.on F.below); have H6 := Lib.hid h; have N6 := Lib.hid (HH.out.new F); clear h F; (try clear d0 d1 d2 d3 d4 d5))
        | ((with_reducible refine stm (m := mm) isM H6.out ?hx ?hy ?_); (case hx => rfl); (case hy => rfl); intro w5 h M; have H5 := Lib.hid (H4.out.other M N6.out); replace H6 := Lib.hid h; clear h M H4)
        | ((with_reducible refine stc (z := false) H6.out ?hx ?hy ?_); (case hx => rfl); (case hy => rfl); intro w6 h M; have H7 := Lib.hid (H5.out.other M N6.out); replace H6 := Lib.hid h; clear h M H5)
        | ((with_reducible refine ldm isM H6.out ?hx ?_); (case hx => rfl))
        | (go_at_call 66; (refine (CW.out _ H7.out.p).mono ?_; rintro e w7 ⟨rfl, hx⟩; have HX := Lib.hid hx; have H37 := Lib.hid (H7.out.after3 hx); have H47 := Lib.hid (H7.out.after4 hx); clear hx))
        | ((with_reducible refine bdB builtG0 ?hl ?_); (case hl => kernel_rfl))
        | ((with_reducible refine str (fc zG) isG H47.out ?h0 ?h1 ?hc ?hx ?hy ?_); (case h0 => rfl); (case h1 => rfl); (case hc => exact all_oneCell_toArray (fl_one zG)); (case hx => rfl); (case hy => rfl); intro w8 h8 M8; have HR8 := Lib.hid h8; have HE := Lib.hid (H7.out.close HX.out M8); clear h8 M8))
       exact bodyPost_ret (cmd_results _ _ _ _ _ HR8.out rfl rfl) rfl ⟨by rw [HX1.out]; rfl, by rw [HX1.out]; exact HE.out⟩
   · refine step_ldp (m := m) isP HH.out.h3 rfl ?_
     refine hK.out _ _ HH.out.p.hd (fun hNext => ?_)
     clear hK K hHeld
     have hHeld := hNext; clear hNext
     (try simp only [Act.put, z1', z2', z3'])
     refine ry [1] (.cons rfl (fun K hK => ?_) .nil)
     go_simp
     refine (CO.out _ (HH.out.p)).mono ?_
     rintro e w8 ⟨rfl, hb⟩
     go_wp2_with fail
     have HH2 := Lib.hid (HH.out.on hb)
     clear HH hb
     have HH := HH2
     clear HH2
     refine hK.out _ _ HH.out.p.hd (fun hNext => ?_)
     clear hK K hHeld
     have hHeld := hNext; clear hNext
     (try simp only [Act.put, z1', z2', z3'])
     refine ry [4] (.cons rfl (fun K hK => ?_) .nil)
     go_simp
     refine (CG.out _).mono ?_
     rintro e w9 ⟨rfl, hb⟩
     go_wp2_with fail
     have HH2 := Lib.hid (HH.out.on hb)
     clear HH hb
     have HH := HH2
     clear HH2
     refine hK.out _ _ HH.out.p.hd (fun hNext => ?_)
     clear hK K hHeld
     have hHeld := hNext; clear hNext
     (try simp only [Act.put, z1', z2', z3'])
     refine' tk9 5 rfl ?_
     refine ry [6] (.cons rfl (fun K hK => ?_) .nil)
     refine step_stp (p := Pn.agree x.own m.p) isP HH.out.h3 rfl rfl ?_
     intro w3 h M
     rw [HMM.out] at h
     have HH3 := Lib.hid (HH.out.set3 M h)
     clear HH h M
     have HH := HH3
     clear HH3
     refine hK.out _ _ HH.out.p.hd (fun hNext => ?_)
     clear hK K hHeld
     have hHeld := hNext; clear hNext
     (try simp only [Act.put])
     refine wpAnyH_done (by kernel_rfl) ?_ _
     clear hHeld
     by_cases h64 : x.an.length < 64
     · have CW := Lib.hid (CW1.out h64)
       have HX1 := Lib.hid (HCM.out h64)
       clear h64
       go_wp2_with (first
        | ((with_reducible refine ldm isM HH.out.h3 ?hx ?_); (case hx => rfl))
        | ((with_reducible refine alm zeroM ?_); intro b6 w4 h F; have H4 := Lib.hid (HH.out.on F.below); have H6 := Lib.hid h; have N6 := Lib.hid (HH.out.new F); clear h F; (try clear d0 d1 d2 d3 d4 d5))
        | ((with_reducible refine stm (m := mm) isM H6.out ?hx ?hy ?_); (case hx => rfl); (case hy => rfl); intro w5 h M; have H5 := Lib.hid (H4.out.other M N6.out); replace H6 := Lib.hid h; clear h M H4)
        | ((with_reducible refine stc (z := false) H6.out ?hx ?hy ?_); (case hx => rfl); (case hy => rfl); intro w6 h M; have H7 := Lib.hid (H5.out.other M N6.out); replace H6 := Lib.hid h; clear h M H5)
        | ((with_reducible refine ldm isM H6.out ?hx ?_); (case hx => rfl))
        | (go_at_call 66; (refine (CW.out _ H7.out.p).mono ?_; rintro e w7 ⟨rfl, hx⟩; have HX := Lib.hid hx; have H37 := Lib.hid (H7.out.after3 hx); have H47 := Lib.hid (H7.out.after4 hx); clear hx))
        | ((with_reducible refine ldm isM H37.out ?hx ?_); (case hx => rfl))
        | ((with_reducible refine bdB (builtG 1 mm) ?hl ?_); (case hl => kernel_rfl))
        | ((with_reducible refine str (fc ⟨1, mm⟩) isG H47.out ?h0 ?h1 ?hc ?hx ?hy ?_); (case h0 => rfl); (case h1 => rfl); (case hc => exact all_oneCell_toArray (fl_one ⟨1, mm⟩)); (case hx => rfl); (case hy => rfl); intro w8 h8 M8; have HR8 := Lib.hid h8; have HE := Lib.hid (H7.out.close HX.out M8); clear h8 M8))
       exact bodyPost_ret (cmd_results _ _ _ _ _ HR8.out rfl rfl) rfl ⟨by rw [HX1.out]; rfl, by rw [HX1.out]; exact HE.out⟩
     · have CW := Lib.hid (CW2.out h64)
       have HX1 := Lib.hid (HCN.out h64)
       clear h64
       go_wp2_with (first
        | ((with_reducible refine ldm isM HH.out.h3 ?hx ?_); (case hx => rfl))
        | ((with_reducible refine alm zeroM ?_); intro b6 w4 h F; have H4 := Lib.hid (HH.out.on F.below); have H6 := Lib.hid h; have N6 := Lib.hid (HH.out.new F); clear h F; (try clear d0 d1 d2 d3 d4 d5))
        | ((with_reducible refine stm (m := mm) isM H6.out ?hx ?hy ?_); (case hx => rfl); (case hy => rfl); intro w5 h M; have H5 := Lib.hid (H4.out.other M N6.out); replace H6 := Lib.hid h; clear h M H4)
        | ((with_reducible refine stc (z := false) H6.out ?hx ?hy ?_); (case hx => rfl); (case hy => rfl); intro w6 h M; have H7 := Lib.hid (H5.out.other M N6.out); replace H6 := Lib.hid h; clear h M H5)
        | ((with_reducible refine ldm isM H6.out ?hx ?_); (case hx => rfl))
        | (go_at_call 66; (refine (CW.out _ H7.out.p).mono ?_; rintro e w7 ⟨rfl, hx⟩; have HX := Lib.hid hx; have H37 := Lib.hid (H7.out.after3 hx); have H47 := Lib.hid (H7.out.after4 hx); clear hx))
        | ((with_reducible refine bdB builtG0 ?hl ?_); (case hl => kernel_rfl))
        | ((with_reducible refine str (fc zG) isG H47.out ?h0 ?h1 ?hc ?hx ?hy ?_); (case h0 => rfl); (case h1 => rfl); (case hc => exact all_oneCell_toArray (fl_one zG)); (case hx => rfl); (case hy => rfl); intro w8 h8 M8; have HR8 := Lib.hid h8; have HE := Lib.hid (H7.out.close HX.out M8); clear h8 M8))
       exact bodyPost_ret (cmd_results _ _ _ _ _ HR8.out rfl rfl) rfl ⟨by rw [HX1.out]; rfl, by rw [HX1.out]; exact HE.out⟩
 · have u5 : ((m.k : Int) == 1) = false := Mem.beq_false (by omega)
   have hag : mm = m := by rw [← hmm]; unfold agreed; rw [if_neg h1]
   subst hag
   clear h1 hmm hm
   go_enter Tryz.func65, Tryz.ntmps65
   by_cases h64 : x.an.length < 64
   · have CW := Lib.hid (CW1.out h64)
     have HX1 := Lib.hid (HCM.out h64)
     clear h64
     go_wp2_with (first
      | ((with_reducible refine bxm (m := mm) ?hx ?_); (case hx => rfl); intro b3 w1 h F0; have H3 := Lib.hid h; have F3 := Lib.hid F0; clear h F0)
      | ((with_reducible refine alr (T := GT) (cs := fc zG) (by kernel_rfl) ?_); intro b4 w2 h F0; have HH := Lib.hid (Hc.start HP.out F3.out H3.out F0 h); clear h F0 H3 F3; obtain ⟨d0, d1, d2, d3, d4, d5⟩ := lay HH.out.h3)
      | ((with_reducible refine ldm isM HH.out.h3 ?hx ?_); (case hx => rfl))
      | ((with_reducible refine alm zeroM ?_); intro b6 w4 h F; have H4 := Lib.hid (HH.out.on F.below); have H6 := Lib.hid h; have N6 := Lib.hid (HH.out.new F); clear h F; (try clear d0 d1 d2 d3 d4 d5))
      | ((with_reducible refine stm (m := mm) isM H6.out ?hx ?hy ?_); (case hx => rfl); (case hy => rfl); intro w5 h M; have H5 := Lib.hid (H4.out.other M N6.out); replace H6 := Lib.hid h; clear h M H4)
      | ((with_reducible refine stc (z := false) H6.out ?hx ?hy ?_); (case hx => rfl); (case hy => rfl); intro w6 h M; have H7 := Lib.hid (H5.out.other M N6.out); replace H6 := Lib.hid h; clear h M H5)
      | ((with_reducible refine ldm isM H6.out ?hx ?_); (case hx => rfl))
      | (go_at_call 66; (refine (CW.out _ H7.out.p).mono ?_; rintro e w7 ⟨rfl, hx⟩; have HX := Lib.hid hx; have H37 := Lib.hid (H7.out.after3 hx); have H47 := Lib.hid (H7.out.after4 hx); clear hx))
      | ((with_reducible refine ldm isM H37.out ?hx ?_); (case hx => rfl))
      | ((with_reducible refine bdB (builtG 1 mm) ?hl ?_); (case hl => kernel_rfl))
      | ((with_reducible refine str (fc ⟨1, mm⟩) isG H47.out ?h0 ?h1 ?hc ?hx ?hy ?_); (case h0 => rfl); (case h1 => rfl); (case hc => exact all_oneCell_toArray (fl_one ⟨1, mm⟩)); (case hx => rfl); (case hy => rfl); intro w8 h8 M8; have HR8 := Lib.hid h8; have HE := Lib.hid (H7.out.close HX.out M8); clear h8 M8))
     exact bodyPost_ret (cmd_results _ _ _ _ _ HR8.out rfl rfl) rfl ⟨by rw [HX1.out]; rfl, by rw [HX1.out]; exact HE.out⟩
   · have CW := Lib.hid (CW2.out h64)
     have HX1 := Lib.hid (HCN.out h64)
     clear h64
     go_wp2_with (first
      | ((with_reducible refine bxm (m := mm) ?hx ?_); (case hx => rfl); intro b3 w1 h F0; have H3 := Lib.hid h; have F3 := Lib.hid F0; clear h F0)
      | ((with_reducible refine alr (T := GT) (cs := fc zG) (by kernel_rfl) ?_); intro b4 w2 h F0; have HH := Lib.hid (Hc.start HP.out F3.out H3.out F0 h); clear h F0 H3 F3; obtain ⟨d0, d1, d2, d3, d4, d5⟩ := lay HH.out.h3)
      | ((with_reducible refine ldm isM HH.out.h3 ?hx ?_); (case hx => rfl))
      | ((with_reducible refine alm zeroM ?_); intro b6 w4 h F; have H4 := Lib.hid (HH.out.on F.below); have H6 := Lib.hid h; have N6 := Lib.hid (HH.out.new F); clear h F; (try clear d0 d1 d2 d3 d4 d5))
      | ((with_reducible refine stm (m := mm) isM H6.out ?hx ?hy ?_); (case hx => rfl); (case hy => rfl); intro w5 h M; have H5 := Lib.hid (H4.out.other M N6.out); replace H6 := Lib.hid h; clear h M H4)
      | ((with_reducible refine stc (z := false) H6.out ?hx ?hy ?_); (case hx => rfl); (case hy => rfl); intro w6 h M; have H7 := Lib.hid (H5.out.other M N6.out); replace H6 := Lib.hid h; clear h M H5)
      | ((with_reducible refine ldm isM H6.out ?hx ?_); (case hx => rfl))
      | (go_at_call 66; (refine (CW.out _ H7.out.p).mono ?_; rintro e w7 ⟨rfl, hx⟩; have HX := Lib.hid hx; have H37 := Lib.hid (H7.out.after3 hx); have H47 := Lib.hid (H7.out.after4 hx); clear hx))
      | ((with_reducible refine bdB builtG0 ?hl ?_); (case hl => kernel_rfl))
      | ((with_reducible refine str (fc zG) isG H47.out ?h0 ?h1 ?hc ?hx ?hy ?_); (case h0 => rfl); (case h1 => rfl); (case hc => exact all_oneCell_toArray (fl_one zG)); (case hx => rfl); (case hy => rfl); intro w8 h8 M8; have HR8 := Lib.hid h8; have HE := Lib.hid (H7.out.close HX.out M8); clear h8 M8))
     exact bodyPost_ret (cmd_results _ _ _ _ _ HR8.out rfl rfl) rfl ⟨by rw [HX1.out]; rfl, by rw [HX1.out]; exact HE.out⟩
end
end Go.Proofs.YtakkhdammmcjcaaGreatDoor.Ctl
