/-
  Layer 22, put together: CtlMeetsLaw. Conditions: as each theorem names them.
-/
import Derived.Test.YtakkhdammmcjcaaGreatDoorK38
import Derived.Test.YtakkhdammmcjcaaGreatDoorK39
import Derived.Test.YtakkhdammmcjcaaGreatDoorK01
namespace Go.Proofs.YtakkhdammmcjcaaGreatDoor.Ctl
open Go.RowKit Base Mem Msgs Cr
set_option maxRecDepth 100000
section
variable {w w' u : World} {c c0 c1 base base' b k : Nat} {a b' t n : Int} {va vc : Value} {x x0 x1 : Ct} {p0 p1 : Pn.Pr}
theorem P.weak (h : P w c base a b' t n va vc x) (hb : base' ≤ base) (ht : TB < base') : P w c base' a b' t n va vc x :=
 ⟨h.hd, own_weak h.an hb, own_weak h.cs hb, Nat.le_trans hb h.lo, h.tab, ht, h.raw, h.sd, h.ok⟩
theorem tw_start (h0 : P u c0 w.heap.size p0.n p0.k 9 1 (.slice none 0 0) (.slice none 0 0) x0) (h1 : P u c1 w.heap.size p1.n p1.k 9 1 (.slice none 0 0) (.slice none 0 0) x1) (hc : c0 < c1) (hb : Below w.heap.size w u) : Tw w c0 c1 p0 p1 x0 x1 u :=
 ⟨⟨_, _, _, _, h0, h1, fun k hk q => by
   rcases hk with rfl | e | e
   · rcases q with e | e | e
     · omega
     · cases e
     · cases e
   · cases e
   · cases e⟩, hb⟩
/-- Both cells of a block of two are written. -/
theorem arr_stays {cs : Array Value} {T T2 : TypeId} {v0 v1 : Value} (h : u.heap[k]? = some (.cells cs T (0, 0))) (hb : u.heap[b]? = some (.cells #[v0, v1] T2 (0, 0))) (y0 y1 : Value) (hT : T ≠ T2) : ((u.setCell ⟨b, 0, none⟩ y0).setCell ⟨b, 1, none⟩ y1).heap[k]? = some (.cells cs T (0, 0)) :=
 (set_other (type_ne h hb hT) _).trans ((set_other (type_ne h hb hT) _).trans h)
theorem arr_mod (b : Nat) (u : World) (y0 y1 : Value) : Mod b u ((u.setCell ⟨b, 0, none⟩ y0).setCell ⟨b, 1, none⟩ y1) := (mod_setCell b 0 u y0).trans (mod_setCell b 1 _ y1)
theorem arr2 {T2 : TypeId} {v0 v1 : Value} (h : Tw w c0 c1 p0 p1 x0 x1 u) (hb : u.heap[b]? = some (.cells #[v0, v1] T2 (0, 0))) (y0 y1 : Value) (h1 : T2 ≠ CT) (h2 : T2 ≠ AT) (h3 : T2 ≠ KT) (hl : w.heap.size ≤ b) :
 Tw w c0 c1 p0 p1 x0 x1 ((u.setCell ⟨b, 0, none⟩ y0).setCell ⟨b, 1, none⟩ y1) ∧ ((u.setCell ⟨b, 0, none⟩ y0).setCell ⟨b, 1, none⟩ y1).heap[b]? = some (.cells #[y0, y1] T2 (0, 0)) ∧ u.cell? ⟨b, 0, none⟩ = some v0 ∧ u.cell? ⟨b, 1, none⟩ = some v1 ∧ (∀ i, u.frozen? ⟨b, i, none⟩ = false) ∧ b < u.heap.size :=
 ⟨h.mod (arr_mod b u y0 y1) hb h1 h2 h3 hl, block_set (i := 1) (block_set (i := 0) hb y0) y1, cell_of hb rfl, cell_of hb rfl, fun _ => free_of hb, lt_heap hb⟩
end
end Go.Proofs.YtakkhdammmcjcaaGreatDoor.Ctl
namespace Go.Proofs.YtakkhdammmcjcaaGreatDoor.ctlMeets
open Go.RowKit Base Mem Msgs Cr Ctl
set_option maxRecDepth 100000
set_option maxHeartbeats 64000000 in
theorem all (p0 p1 : Pn.Pr) (oa : Option Addr) (n ca : Nat) (F : Nat → Ms) (ob : Option Addr) (m cb : Nat) (G : Nat → Ms) (w : World) (ht : Tab w) (hA : ArgS 20 ml Fits w oa n F) (hB : ArgS 20 ml Fits w ob m G) :
 Calls Tryz.prog 6 #[Pn.pv p0, Pn.pv p1, .slice oa n ca, .slice ob m cb] w fun e w' => e = .returned (.bool true) ∧ Below w.heap.size w w' := by
 have CW := Lib.hid (fun (u : World) hu => works u hu)
 have HT := Lib.hid ht
 by_cases h1 : 20 < n
 · have t1 : decide ((20 : Int) < (n : Int)) = true := decide_eq_true (by omega)
   have t2 : (20 : Int) < (n : Int) := by omega
   clear hA hB ht h1
   go_enter Tryz.func6, Tryz.ntmps6
   go_wp2_with (first
    | ((with_reducible refine bxz (pcl p0) ?hx ?_); (case hx => rfl); intro b4 w1 h F; have H4 := Lib.hid h; have B1 := Lib.hid F.below; have T1 := Lib.hid (tab_below HT.out F.below); clear h F)
    | ((with_reducible refine bxz (pcl p1) ?hx ?_); (case hx => rfl); intro b5 w2 h F; have H42 := Lib.hid (F.stays H4.out); have H52 := Lib.hid h; have HB := Lib.hid (F.on B1.out); have T2 := Lib.hid (tab_below T1.out F.below); clear h F H4 B1 T1)
    | (go_at_call 9; refine (CW.out _ T2.out).mono ?_; rintro _ w9 ⟨rfl, hb⟩; have HB9 := Lib.hid (below_on HB.out hb); clear hb))
   go_ret
   exact ⟨rfl, HB9.out⟩
 have t1 : decide ((20 : Int) < (n : Int)) = false := decide_eq_false (by omega)
 have t2 : ¬ (20 : Int) < (n : Int) := by omega
 by_cases h2 : 20 < m
 · have u1 : decide ((20 : Int) < (m : Int)) = true := decide_eq_true (by omega)
   have u2 : (20 : Int) < (m : Int) := by omega
   clear hA hB ht h1 h2
   go_enter Tryz.func6, Tryz.ntmps6
   go_wp2_with (first
    | ((with_reducible refine bxz (pcl p0) ?hx ?_); (case hx => rfl); intro b4 w1 h F; have H4 := Lib.hid h; have B1 := Lib.hid F.below; have T1 := Lib.hid (tab_below HT.out F.below); clear h F)
    | ((with_reducible refine bxz (pcl p1) ?hx ?_); (case hx => rfl); intro b5 w2 h F; have H42 := Lib.hid (F.stays H4.out); have H52 := Lib.hid h; have HB := Lib.hid (F.on B1.out); have T2 := Lib.hid (tab_below T1.out F.below); clear h F H4 B1 T1)
    | (go_at_call 9; refine (CW.out _ T2.out).mono ?_; rintro _ w9 ⟨rfl, hb⟩; have HB9 := Lib.hid (below_on HB.out hb); clear hb))
   go_ret
   exact ⟨rfl, HB9.out⟩
 have u1 : decide ((20 : Int) < (m : Int)) = false := decide_eq_false (by omega)
 have u2 : ¬ (20 : Int) < (m : Int) := by omega
 have HA := Lib.hid hA
 have HB0 := Lib.hid hB
 clear hA hB ht
 go_enter Tryz.func6, Tryz.ntmps6
 go_wp2_with (first
  | ((with_reducible refine bxz (pcl p0) ?hx ?_); (case hx => rfl); intro b4 w1 h F; have H4 := Lib.hid h; have B1 := Lib.hid F.below; have T1 := Lib.hid (tab_below HT.out F.below); clear h F)
  | ((with_reducible refine bxz (pcl p1) ?hx ?_); (case hx => rfl); intro b5 w2 h F; have H42 := Lib.hid (F.stays H4.out); have H52 := Lib.hid h; have HB := Lib.hid (F.on B1.out); have T2 := Lib.hid (tab_below T1.out F.below); clear h F H4 B1 T1))
 clear t1 t2 u1 u2
 go_cut [9] (fun s9 wx => ∃ b9 c0 c1 : Nat, s9 = ptr b9 ∧ Hid (Tw w c0 c1 p0 p1 (Ct.new p0 9 1) (Ct.new p1 9 1) wx) ∧ Hid (wx.heap[b9]? = some (.cells #[ptr c0, ptr c1] 53 (0, 0))) ∧ Hid (wx.heap[b4]? = some (.cells (pcl p0) 25 (0, 0))) ∧ Hid (wx.heap[b5]? = some (.cells (pcl p1) 25 (0, 0))))
 case first =>
  replace HB := Lib.hid (below_on HB.out (show Below w2.heap.size w2 w2.drew from ⟨rfl, rfl, rfl, Nat.le_refl _, fun _ _ => rfl⟩))
  replace T2 : Hid (Tab w2.drew) := Lib.hid T2.out
  refine wp_region_held_drew (S := (fun w' => w'.heap[b4]? = some (.cells (pcl p0) 25 (0, 0)) ∧ w'.heap[b5]? = some (.cells (pcl p1) 25 (0, 0)))) (by kernel_rfl) ⟨H42.out, H52.out⟩ (fun hHeld => ?_)
  refine' tv9 0 rfl (by intro _ hSw; (try dsimp only at hSw); refine ex_ldz (pll p0) isP (pll_at hSw.1) rfl ?_; rfl) ?_
  refine' tv9 2 rfl (by intro _ hSw; (try dsimp only at hSw); refine ex_ldz (pll p1) isP (pll_at hSw.2) rfl ?_; rfl) ?_
  refine ry [1, 5] ?_
  refine AllReadyH.cons rfl (fun K hK => ?_) (AllReadyH.cons rfl (fun K hK => ?_) AllReadyH.nil)
  · go_simp
    refine (fnew p0 9 1 _ T2.out).mono ?_
    rintro e w6 ⟨c0, rfl, hp, hb⟩
    go_wp2_with fail
    try replace H9 := Lib.hid (stays H9.out hb)
    have P0 := Lib.hid (P.weak hp HB.out.size (tab_pos HT.out))
    replace HB := Lib.hid (below_on HB.out hb)
    replace T2 := Lib.hid (tab_below T2.out hb)
    have HS1 := Lib.hid (And.intro (stays hHeld.1 hb) (stays hHeld.2 hb))
    clear hp hb
    refine hK.out _ _ HS1.out (fun hNext => ?_)
    clear hK K hHeld
    have hHeld := hNext; clear hNext
    (try simp only [Act.put, z1', z2', z3'])
    refine ry [3, 5] ?_
    refine AllReadyH.cons rfl (fun K hK => ?_) (AllReadyH.cons rfl (fun K hK => ?_) AllReadyH.nil)
    · go_simp
      refine (fnew p1 9 1 _ T2.out).mono ?_
      rintro e w7 ⟨c1, rfl, hp, hb⟩
      go_wp2_with fail
      try replace H9 := Lib.hid (stays H9.out hb)
      have C01 := Lib.hid (Nat.lt_of_lt_of_le P0.out.hd.lt hp.lo)
      have P1 := Lib.hid (P.weak hp HB.out.size (tab_pos HT.out))
      replace P0 := Lib.hid (P0.out.below hb)
      replace HB := Lib.hid (below_on HB.out hb)
      replace T2 := Lib.hid (tab_below T2.out hb)
      have HS3 := Lib.hid (And.intro (stays hHeld.1 hb) (stays hHeld.2 hb))
      clear hp hb
      refine hK.out _ _ HS3.out (fun hNext => ?_)
      clear hK K hHeld
      have hHeld := hNext; clear hNext
      (try simp only [Act.put, z1', z2', z3'])
      refine' tk9 4 rfl ?_
      refine ry [5] (.cons rfl (fun K hK => ?_) .nil)
      rw [if_pos (by simp [Region.wanted])]
      refine wp_al (cs := #[.pointer none, .pointer none]) (by kernel_rfl) ?_
      intro b9 w8 h8 F8
      have N9 := Lib.hid (F8.le HB.out)
      have H9 := Lib.hid h8
      try replace P0 := Lib.hid (P0.out.below F8.below)
      try replace P1 := Lib.hid (P1.out.below F8.below)
      replace HB := Lib.hid (below_on HB.out F8.below)
      replace T2 := Lib.hid (tab_below T2.out F8.below)
      have HS5 := Lib.hid (And.intro (stays hHeld.1 F8.below) (stays hHeld.2 F8.below))
      clear h8 F8
      refine hK.out _ _ HS5.out (fun hNext => ?_)
      clear hK K hHeld
      have hHeld := hNext; clear hNext
      (try simp only [Act.put, z1', z2', z3'])
      refine ry [6] (.cons rfl (fun K hK => ?_) .nil)
      have HTW := Lib.hid (tw_start P0.out P1.out C01.out HB.out)
      have HW9 := Lib.hid (arr2 HTW.out H9.out (ptr c0) (ptr c1) (by decide) (by decide) (by decide) N9.out)
      have a0 := (HW9.out).2.2.1
      have a1 := (HW9.out).2.2.2.1
      have a2 := (HW9.out).2.2.2.2.1
      have a3 := (HW9.out).2.2.2.2.2
      have HS6 := Lib.hid (And.intro (arr_stays hHeld.1 H9.out (ptr c0) (ptr c1) (by decide)) (arr_stays hHeld.2 H9.out (ptr c0) (ptr c1) (by decide)))
      go_simp
      refine hK.out _ _ HS6.out (fun hNext => ?_)
      clear hK K hHeld
      have hHeld := hNext; clear hNext
      (try simp only [Act.put])
      refine wpAnyH_done (by kernel_rfl) ?_ _
      have H4 := Lib.hid hHeld.1
      have H5 := Lib.hid hHeld.2
      have H92 := Lib.hid HW9.out.2.1
      have HT9 := Lib.hid HW9.out.1
      clear hHeld HS6 a0 a1 a2 a3 HW9 HTW H9 P0 P1 HB T2 H42 H52
      go_wp2_with fail
      go_meet
      exact ⟨b9, c0, c1, rfl, HT9, H92, H4, H5⟩
    · rw [if_pos (by simp [Region.wanted])]
      refine wp_al (cs := #[.pointer none, .pointer none]) (by kernel_rfl) ?_
      intro b9 w8 h8 F8
      have N9 := Lib.hid (F8.le HB.out)
      have H9 := Lib.hid h8
      try replace P0 := Lib.hid (P0.out.below F8.below)
      try replace P1 := Lib.hid (P1.out.below F8.below)
      replace HB := Lib.hid (below_on HB.out F8.below)
      replace T2 := Lib.hid (tab_below T2.out F8.below)
      have HS5 := Lib.hid (And.intro (stays hHeld.1 F8.below) (stays hHeld.2 F8.below))
      clear h8 F8
      refine hK.out _ _ HS5.out (fun hNext => ?_)
      clear hK K hHeld
      have hHeld := hNext; clear hNext
      (try simp only [Act.put, z1', z2', z3'])
      refine ry [3] (.cons rfl (fun K hK => ?_) .nil)
      go_simp
      refine (fnew p1 9 1 _ T2.out).mono ?_
      rintro e w7 ⟨c1, rfl, hp, hb⟩
      go_wp2_with fail
      try replace H9 := Lib.hid (stays H9.out hb)
      have C01 := Lib.hid (Nat.lt_of_lt_of_le P0.out.hd.lt hp.lo)
      have P1 := Lib.hid (P.weak hp HB.out.size (tab_pos HT.out))
      replace P0 := Lib.hid (P0.out.below hb)
      replace HB := Lib.hid (below_on HB.out hb)
      replace T2 := Lib.hid (tab_below T2.out hb)
      have HS3 := Lib.hid (And.intro (stays hHeld.1 hb) (stays hHeld.2 hb))
      clear hp hb
      refine hK.out _ _ HS3.out (fun hNext => ?_)
      clear hK K hHeld
      have hHeld := hNext; clear hNext
      (try simp only [Act.put, z1', z2', z3'])
      refine' tk9 4 rfl ?_
      refine ry [6] (.cons rfl (fun K hK => ?_) .nil)
      have HTW := Lib.hid (tw_start P0.out P1.out C01.out HB.out)
      have HW9 := Lib.hid (arr2 HTW.out H9.out (ptr c0) (ptr c1) (by decide) (by decide) (by decide) N9.out)
      have a0 := (HW9.out).2.2.1
      have a1 := (HW9.out).2.2.2.1
      have a2 := (HW9.out).2.2.2.2.1
      have a3 := (HW9.out).2.2.2.2.2
      have HS6 := Lib.hid (And.intro (arr_stays hHeld.1 H9.out (ptr c0) (ptr c1) (by decide)) (arr_stays hHeld.2 H9.out (ptr c0) (ptr c1) (by decide)))
      go_simp
      refine hK.out _ _ HS6.out (fun hNext => ?_)
      clear hK K hHeld
      have hHeld := hNext; clear hNext
      (try simp only [Act.put])
      refine wpAnyH_done (by kernel_rfl) ?_ _
      have H4 := Lib.hid hHeld.1
      have H5 := Lib.hid hHeld.2
      have H92 := Lib.hid HW9.out.2.1
      have HT9 := Lib.hid HW9.out.1
      clear hHeld HS6 a0 a1 a2 a3 HW9 HTW H9 P0 P1 HB T2 H42 H52
      go_wp2_with fail
      go_meet
      exact ⟨b9, c0, c1, rfl, HT9, H92, H4, H5⟩
  · rw [if_pos (by simp [Region.wanted])]
    refine wp_al (cs := #[.pointer none, .pointer none]) (by kernel_rfl) ?_
    intro b9 w8 h8 F8
    have N9 := Lib.hid (F8.le HB.out)
    have H9 := Lib.hid h8
    try replace P0 := Lib.hid (P0.out.below F8.below)
    try replace P1 := Lib.hid (P1.out.below F8.below)
    replace HB := Lib.hid (below_on HB.out F8.below)
    replace T2 := Lib.hid (tab_below T2.out F8.below)
    have HS5 := Lib.hid (And.intro (stays hHeld.1 F8.below) (stays hHeld.2 F8.below))
    clear h8 F8
    refine hK.out _ _ HS5.out (fun hNext => ?_)
    clear hK K hHeld
    have hHeld := hNext; clear hNext
    (try simp only [Act.put, z1', z2', z3'])
    refine ry [1] (.cons rfl (fun K hK => ?_) .nil)
    go_simp
    refine (fnew p0 9 1 _ T2.out).mono ?_
    rintro e w6 ⟨c0, rfl, hp, hb⟩
    go_wp2_with fail
    try replace H9 := Lib.hid (stays H9.out hb)
    have P0 := Lib.hid (P.weak hp HB.out.size (tab_pos HT.out))
    replace HB := Lib.hid (below_on HB.out hb)
    replace T2 := Lib.hid (tab_below T2.out hb)
    have HS1 := Lib.hid (And.intro (stays hHeld.1 hb) (stays hHeld.2 hb))
    clear hp hb
    refine hK.out _ _ HS1.out (fun hNext => ?_)
    clear hK K hHeld
    have hHeld := hNext; clear hNext
    (try simp only [Act.put, z1', z2', z3'])
    refine ry [3] (.cons rfl (fun K hK => ?_) .nil)
    go_simp
    refine (fnew p1 9 1 _ T2.out).mono ?_
    rintro e w7 ⟨c1, rfl, hp, hb⟩
    go_wp2_with fail
    try replace H9 := Lib.hid (stays H9.out hb)
    have C01 := Lib.hid (Nat.lt_of_lt_of_le P0.out.hd.lt hp.lo)
    have P1 := Lib.hid (P.weak hp HB.out.size (tab_pos HT.out))
    replace P0 := Lib.hid (P0.out.below hb)
    replace HB := Lib.hid (below_on HB.out hb)
    replace T2 := Lib.hid (tab_below T2.out hb)
    have HS3 := Lib.hid (And.intro (stays hHeld.1 hb) (stays hHeld.2 hb))
    clear hp hb
    refine hK.out _ _ HS3.out (fun hNext => ?_)
    clear hK K hHeld
    have hHeld := hNext; clear hNext
    (try simp only [Act.put, z1', z2', z3'])
    refine' tk9 4 rfl ?_
    refine ry [6] (.cons rfl (fun K hK => ?_) .nil)
    have HTW := Lib.hid (tw_start P0.out P1.out C01.out HB.out)
    have HW9 := Lib.hid (arr2 HTW.out H9.out (ptr c0) (ptr c1) (by decide) (by decide) (by decide) N9.out)
    have a0 := (HW9.out).2.2.1
    have a1 := (HW9.out).2.2.2.1
    have a2 := (HW9.out).2.2.2.2.1
    have a3 := (HW9.out).2.2.2.2.2
    have HS6 := Lib.hid (And.intro (arr_stays hHeld.1 H9.out (ptr c0) (ptr c1) (by decide)) (arr_stays hHeld.2 H9.out (ptr c0) (ptr c1) (by decide)))
    go_simp
    refine hK.out _ _ HS6.out (fun hNext => ?_)
    clear hK K hHeld
    have hHeld := hNext; clear hNext
    (try simp only [Act.put])
    refine wpAnyH_done (by kernel_rfl) ?_ _
    have H4 := Lib.hid hHeld.1
    have H5 := Lib.hid hHeld.2
    have H92 := Lib.hid HW9.out.2.1
    have HT9 := Lib.hid HW9.out.1
    clear hHeld HS6 a0 a1 a2 a3 HW9 HTW H9 P0 P1 HB T2 H42 H52
    go_wp2_with fail
    go_meet
    exact ⟨b9, c0, c1, rfl, HT9, H92, H4, H5⟩
 case rest =>
  obtain ⟨b9, c0, c1, rfl, HT9, H92, H4, H5⟩ := hcut
  clear H42 H52 HB T2
  have HIA := Lib.hid HA.out.inb
  have HIB := Lib.hid HB0.out.inb
  go_wp2_with (first
   | ((with_reducible refine alr (T := 55) (cs := #[.slice none 0 0, .slice none 0 0]) rfl ?_); intro b10 w4 h F; have H10 := Lib.hid h; have N10 := Lib.hid (F.le HT9.out.below); have HT10 := Lib.hid (HT9.out.on F.below); have H9a := Lib.hid (stays H92.out F.below); have H4a := Lib.hid (stays H4.out F.below); have H5a := Lib.hid (stays H5.out F.below); clear h F HT9 H92 H4 H5)
   | ((with_reducible refine alr (T := 56) (cs := #[.slice none 0 0, .slice none 0 0]) rfl ?_); intro b11 w5 h F; have H11 := Lib.hid h; have N11 := Lib.hid (F.le HT10.out.below); have HT11 := Lib.hid (HT10.out.on F.below); have H9b := Lib.hid (stays H9a.out F.below); have H4b := Lib.hid (stays H4a.out F.below); have H5b := Lib.hid (stays H5a.out F.below); have H10b := Lib.hid (stays H10.out F.below); clear h F HT10 H9a H4a H5a H10; have HW11 := Lib.hid (arr2 HT11.out H11.out (.slice oa n ca) (.slice ob m cb) (by decide) (by decide) (by decide) N11.out); have a0 := (HW11.out).2.2.1; have a1 := (HW11.out).2.2.2.1; have a2 := (HW11.out).2.2.2.2.1; have a3 := (HW11.out).2.2.2.2.2))
  obtain ⟨w6, hw6⟩ : ∃ w6, ((w5.setCell ⟨b11, 0, none⟩ (.slice oa n ca)).setCell ⟨b11, 1, none⟩ (.slice ob m cb)) = w6 := ⟨_, rfl⟩
  have ME0 : Hid (Me w c0 c1 b4 b5 b9 b10 b11 p0 p1 (.slice oa n ca) (.slice ob m cb) (.slice none 0 0) (.slice none 0 0) (X p0 F 0) (X p1 G 0) [] [] w6) := Lib.hid (by
   rw [← hw6]
   exact ⟨HW11.out.1, arr_stays H9b.out H11.out _ _ (by decide), arr_stays H10b.out H11.out _ _ (by decide), HW11.out.2.1, arr_stays H4b.out H11.out _ _ (by decide), arr_stays H5b.out H11.out _ _ (by decide), ownS_nil _ _, ownS_nil _ _, (fun k h => by cases h), N10.out⟩)
  rw [hw6]
  clear hw6 a0 a1 a2 a3 HW11 H9b H10b H11 H4b H5b HT11 N11
  go_loopg [12] 2 (fun gm s12 wr => ∃ k i j : Nat, s12 = nm k ∧ 2 - k ≤ gm ∧ k ≤ 2 ∧ Hid ((k = 0 → i = 0 ∧ j = 0) ∧ (k = 1 → i = n ∧ j = 0) ∧ (k = 2 → i = n ∧ j = m)) ∧ Hid (Me w c0 c1 b4 b5 b9 b10 b11 p0 p1 (.slice oa n ca) (.slice ob m cb) (.slice none 0 0) (.slice none 0 0) (X p0 F i) (X p1 G j) [] [] wr))
  case atStart => exact ⟨0, 0, 0, by first | rfl | go_num, by omega, by omega, Lib.hid (by simp), ME0⟩
  case round =>
   clear ME0
   obtain ⟨k, i0, j0, rfl, hgm, hk2, HIJ, ME1⟩ := hrel
   by_cases hk0 : k = 0
   · subst hk0
     obtain ⟨rfl, rfl⟩ := HIJ.out.1 rfl
     clear HIJ
     obtain ⟨d1, d2, d3, d4, d5, d6⟩ := ME1.out.cells
     go_wp2_with fail
     go_loopg [13] n (fun gm s13 wr => ∃ i : Nat, s13 = nm i ∧ n - i ≤ gm ∧ i ≤ n ∧ Hid (Me w c0 c1 b4 b5 b9 b10 b11 p0 p1 (.slice oa n ca) (.slice ob m cb) (.slice none 0 0) (.slice none 0 0) (X p0 F i) (X p1 G 0) [] [] wr))
     case atStart => exact ⟨0, by first | rfl | go_num, by omega, by omega, ME1⟩
     case round =>
      clear ME1 d1 d2 d3 d4 d5 d6
      obtain ⟨i, rfl, hgm2, hin, ME1⟩ := hrel
      by_cases hlt : i < n
      · have o1 : decide ((i : Int) < (n : Int)) = true := decide_eq_true (by omega)
        have o2 : (i : Int) < (n : Int) := by omega
        have o3 : (0 : Int) ≤ (i : Int) := by omega
        have vi := nat_wrap (i + 1) (by omega)
        obtain ⟨a, gb, go, rfl, hadd, hgb, hrw⟩ := arg_m HA.out hlt
        have hyi := (HIA.out i hlt).1
        have HN1 := Lib.hid (X_next p0 F i)
        generalize F i = y at hyi hrw HN1
        have HW := Lib.hid (hrw wr ME1.out.tw.below)
        obtain ⟨d1, d2, d3, d4, d5, d6⟩ := ME1.out.cells
        have HYI := Lib.hid hyi
        clear hrw hyi hgb
        by_cases h127 : 127 < y.b.size
        · have r1 : decide ((127 : Int) < (y.b.size : Int)) = true := decide_eq_true (by omega)
          have r2 : (127 : Int) < (y.b.size : Int) := by omega
          clear h127
          go_wp2_with (first
           | ((with_reducible refine ldr (m := y) isM HW.out.1 ?hx ?_); (case hx => rfl))
           | ((with_reducible refine alm zeroM ?_); intro b14 w6 h F6; have ME6 := Lib.hid (ME1.out.on F6.below); have H14a := Lib.hid h; have N14 := Lib.hid (ME1.out.le F6); clear h F6 d1 d2 d3 d4 d5 d6)
           | ((with_reducible refine stm (m := y) isM H14a.out ?hx ?hy ?_); (case hx => rfl); (case hy => rfl); intro w7 h M; have ME7 := Lib.hid (ME6.out.mod M H14a.out N14.out); have H14 := Lib.hid h; obtain ⟨e0, e1, e2, e3, e4, e5⟩ := lay H14.out; clear h M ME6 H14a)
           | (go_at_call 9; refine (CW.out _ ME7.out.tw.tab).mono ?_; rintro _ w9 ⟨rfl, hb⟩; have HB9 := Lib.hid (below_on ME7.out.tw.below hb); clear hb))
          go_ret
          exact ⟨rfl, HB9.out⟩
        · have r1 : decide ((127 : Int) < (y.b.size : Int)) = false := decide_eq_false (by omega)
          have r2 : ¬ (127 : Int) < (y.b.size : Int) := by omega
          have cm := fun (u : World) hu => lmay y HYI.out u hu
          cases hp : mayAsk y with
          | true =>
           rw [hp] at cm
           have CM := Lib.hid cm
           have CASK : Hid (∀ (x0 x1 : Ct) (u : World), Tw w c0 c1 p0 p1 x0 x1 u → Calls Tryz.prog 18 #[ptr c0, mv y] u fun e u' => e = .returned (.int .i64 0) ∧ Tw w c0 c1 p0 p1 (x0.ask y) x1 u' ∧ Keep u u') := Lib.hid (fun x0 x1 u h => by
            have := h.ask0 y HYI.out (by omega)
            rw [show askE y = 0 by unfold askE; rw [hp]; rfl] at this
            exact this)
           clear h127 hp cm
           go_wp2_with (first
            | ((with_reducible refine ldr (m := y) isM HW.out.1 ?hx ?_); (case hx => rfl))
            | ((with_reducible refine alm zeroM ?_); intro b14 w6 h F6; have ME6 := Lib.hid (ME1.out.on F6.below); have H14a := Lib.hid h; have N14 := Lib.hid (ME1.out.le F6); clear h F6 d1 d2 d3 d4 d5 d6)
            | ((with_reducible refine stm (m := y) isM H14a.out ?hx ?hy ?_); (case hx => rfl); (case hy => rfl); intro w7 h M; have ME7 := Lib.hid (ME6.out.mod M H14a.out N14.out); have H14 := Lib.hid h; obtain ⟨e0, e1, e2, e3, e4, e5⟩ := lay H14.out; clear h M ME6 H14a))
           replace ME7 := Lib.hid (ME7.out.on (u' := w7.drew) ⟨rfl, rfl, rfl, Nat.le_refl _, fun _ _ => rfl⟩)
           refine wp_region_held_drew (S := (fun w' => w'.heap[b14]? = some (mO y MT) ∧ w'.heap[b9]? = some (.cells #[ptr c0, ptr c1] 53 (0, 0)))) (by kernel_rfl) ⟨H14.out, ME7.out.h9⟩ (fun hHeld => ?_)
           refine' tk9 0 rfl ?_
           refine' tk9 1 rfl ?_
           refine' tv9 2 rfl (by intro _ hSw; (try dsimp only at hSw); have e9 := cell_of (i := 0) hSw.2 rfl; go_simp <;> with_reducible rfl) ?_
           refine' tv9 3 rfl (by intro _ hSw; (try dsimp only at hSw); refine ex_ld isM hSw.1 ?_; rfl) ?_
           refine' tv9 6 rfl (by intro _ hSw; (try dsimp only at hSw); refine ex_ld isM hSw.1 ?_; rfl) ?_
           refine ry [4] (.cons rfl (fun K hK => ?_) .nil)
           go_simp
           refine (CASK.out _ _ _ ME7.out.tw).mono ?_
           rintro e w8 ⟨rfl, ht, hk⟩
           go_wp2_with fail
           have ME8 := Lib.hid (ME7.out.kp ht hk)
           have HS4 := Lib.hid (And.intro (hk _ _ _ hHeld.1 (by decide) (by decide) (by decide)) (hk _ _ _ hHeld.2 (by decide) (by decide) (by decide)))
           clear ht hk
           refine hK.out _ _ HS4.out (fun hNext => ?_)
           clear hK K hHeld
           have hHeld := hNext; clear hNext
           (try simp only [Act.put, z1', z2', z3'])
           refine' tk9 5 rfl ?_
           refine ry [7] (.cons rfl (fun K hK => ?_) .nil)
           go_simp
           refine (CM.out _ ME8.out.tw.tab).mono ?_
           rintro e w9 ⟨rfl, hb⟩
           go_wp2_with fail
           have ME9 := Lib.hid (ME8.out.on hb)
           have HS7 := Lib.hid (And.intro (stays hHeld.1 hb) (stays hHeld.2 hb))
           clear hb
           refine hK.out _ _ HS7.out (fun hNext => ?_)
           clear hK K hHeld
           have hHeld := hNext; clear hNext
           (try simp only [Act.put, z1', z2', z3'])
           refine' tk9 8 rfl ?_
           refine wpAnyH_done (by kernel_rfl) ?_ _
           clear hHeld HS4 HS7 ME7 ME8 H14
           have ME10 : Hid (Me w c0 c1 b4 b5 b9 b10 b11 p0 p1 (.slice (some a) n ca) (.slice ob m cb) (.slice none 0 0) (.slice none 0 0) (X p0 F (i + 1)) (X p1 G 0) [] [] _) := Lib.hid (by rw [HN1.out]; exact ME9.out)
           clear ME9
           go_wp2
           go_roundg (n - (i + 1))
           case measure => omega
           case rel => exact ⟨i + 1, by first | rfl | go_num, Nat.le_refl _, by omega, ME10⟩
          | false =>
           rw [hp] at cm
           have CM := Lib.hid cm
           have CASK : Hid (∀ (x0 x1 : Ct) (u : World), Tw w c0 c1 p0 p1 x0 x1 u → Calls Tryz.prog 18 #[ptr c0, mv y] u fun e u' => e = .returned (.int .i64 2) ∧ Tw w c0 c1 p0 p1 (x0.ask y) x1 u' ∧ Keep u u') := Lib.hid (fun x0 x1 u h => by
            have := h.ask0 y HYI.out (by omega)
            rw [show askE y = 2 by unfold askE; rw [hp]; rfl] at this
            exact this)
           clear h127 hp cm
           go_wp2_with (first
            | ((with_reducible refine ldr (m := y) isM HW.out.1 ?hx ?_); (case hx => rfl))
            | ((with_reducible refine alm zeroM ?_); intro b14 w6 h F6; have ME6 := Lib.hid (ME1.out.on F6.below); have H14a := Lib.hid h; have N14 := Lib.hid (ME1.out.le F6); clear h F6 d1 d2 d3 d4 d5 d6)
            | ((with_reducible refine stm (m := y) isM H14a.out ?hx ?hy ?_); (case hx => rfl); (case hy => rfl); intro w7 h M; have ME7 := Lib.hid (ME6.out.mod M H14a.out N14.out); have H14 := Lib.hid h; obtain ⟨e0, e1, e2, e3, e4, e5⟩ := lay H14.out; clear h M ME6 H14a))
           replace ME7 := Lib.hid (ME7.out.on (u' := w7.drew) ⟨rfl, rfl, rfl, Nat.le_refl _, fun _ _ => rfl⟩)
           refine wp_region_held_drew (S := (fun w' => w'.heap[b14]? = some (mO y MT) ∧ w'.heap[b9]? = some (.cells #[ptr c0, ptr c1] 53 (0, 0)))) (by kernel_rfl) ⟨H14.out, ME7.out.h9⟩ (fun hHeld => ?_)
           refine' tk9 0 rfl ?_
           refine' tk9 1 rfl ?_
           refine' tv9 2 rfl (by intro _ hSw; (try dsimp only at hSw); have e9 := cell_of (i := 0) hSw.2 rfl; go_simp <;> with_reducible rfl) ?_
           refine' tv9 3 rfl (by intro _ hSw; (try dsimp only at hSw); refine ex_ld isM hSw.1 ?_; rfl) ?_
           refine' tv9 6 rfl (by intro _ hSw; (try dsimp only at hSw); refine ex_ld isM hSw.1 ?_; rfl) ?_
           refine ry [4] (.cons rfl (fun K hK => ?_) .nil)
           go_simp
           refine (CASK.out _ _ _ ME7.out.tw).mono ?_
           rintro e w8 ⟨rfl, ht, hk⟩
           go_wp2_with fail
           have ME8 := Lib.hid (ME7.out.kp ht hk)
           have HS4 := Lib.hid (And.intro (hk _ _ _ hHeld.1 (by decide) (by decide) (by decide)) (hk _ _ _ hHeld.2 (by decide) (by decide) (by decide)))
           clear ht hk
           refine hK.out _ _ HS4.out (fun hNext => ?_)
           clear hK K hHeld
           have hHeld := hNext; clear hNext
           (try simp only [Act.put, z1', z2', z3'])
           refine' tk9 5 rfl ?_
           refine ry [7] (.cons rfl (fun K hK => ?_) .nil)
           go_simp
           refine (CM.out _ ME8.out.tw.tab).mono ?_
           rintro e w9 ⟨rfl, hb⟩
           go_wp2_with fail
           have ME9 := Lib.hid (ME8.out.on hb)
           have HS7 := Lib.hid (And.intro (stays hHeld.1 hb) (stays hHeld.2 hb))
           clear hb
           refine hK.out _ _ HS7.out (fun hNext => ?_)
           clear hK K hHeld
           have hHeld := hNext; clear hNext
           (try simp only [Act.put, z1', z2', z3'])
           refine' tk9 8 rfl ?_
           refine wpAnyH_done (by kernel_rfl) ?_ _
           clear hHeld HS4 HS7 ME7 ME8 H14
           have ME10 : Hid (Me w c0 c1 b4 b5 b9 b10 b11 p0 p1 (.slice (some a) n ca) (.slice ob m cb) (.slice none 0 0) (.slice none 0 0) (X p0 F (i + 1)) (X p1 G 0) [] [] _) := Lib.hid (by rw [HN1.out]; exact ME9.out)
           clear ME9
           go_wp2
           go_roundg (n - (i + 1))
           case measure => omega
           case rel => exact ⟨i + 1, by first | rfl | go_num, Nat.le_refl _, by omega, ME10⟩
      · obtain rfl : n = i := by omega
        have o1 : decide ((n : Int) < (n : Int)) = false := decide_eq_false (by omega)
        have o2 : ¬ (n : Int) < (n : Int) := by omega
        obtain ⟨d1, d2, d3, d4, d5, d6⟩ := ME1.out.cells
        go_wp2_with fail
        go_roundg (2 - 1)
        case measure => omega
        case rel => exact ⟨1, n, 0, by first | rfl | go_num, by omega, by omega, Lib.hid ⟨fun h => by omega, fun h => ⟨rfl, rfl⟩, fun h => by omega⟩, ME1⟩
   by_cases hk1 : k = 1
   · subst hk1
     obtain ⟨e1, rfl⟩ := HIJ.out.2.1 rfl
     obtain rfl : n = i0 := e1.symm
     clear HIJ hk0
     obtain ⟨d1, d2, d3, d4, d5, d6⟩ := ME1.out.cells
     go_wp2_with fail
     go_loopg [13] m (fun gm s13 wr => ∃ i : Nat, s13 = nm i ∧ m - i ≤ gm ∧ i ≤ m ∧ Hid (Me w c0 c1 b4 b5 b9 b10 b11 p0 p1 (.slice oa n ca) (.slice ob m cb) (.slice none 0 0) (.slice none 0 0) (X p0 F n) (X p1 G i) [] [] wr))
     case atStart => exact ⟨0, by first | rfl | go_num, by omega, by omega, ME1⟩
     case round =>
      clear ME1 d1 d2 d3 d4 d5 d6
      obtain ⟨i, rfl, hgm2, hin, ME1⟩ := hrel
      by_cases hlt : i < m
      · have o1 : decide ((i : Int) < (m : Int)) = true := decide_eq_true (by omega)
        have o2 : (i : Int) < (m : Int) := by omega
        have o3 : (0 : Int) ≤ (i : Int) := by omega
        have vi := nat_wrap (i + 1) (by omega)
        obtain ⟨a, gb, go, rfl, hadd, hgb, hrw⟩ := arg_m HB0.out hlt
        have hyi := (HIB.out i hlt).1
        have HN1 := Lib.hid (X_next p1 G i)
        generalize G i = y at hyi hrw HN1
        have HW := Lib.hid (hrw wr ME1.out.tw.below)
        obtain ⟨d1, d2, d3, d4, d5, d6⟩ := ME1.out.cells
        have HYI := Lib.hid hyi
        clear hrw hyi hgb
        by_cases h127 : 127 < y.b.size
        · have r1 : decide ((127 : Int) < (y.b.size : Int)) = true := decide_eq_true (by omega)
          have r2 : (127 : Int) < (y.b.size : Int) := by omega
          clear h127
          go_wp2_with (first
           | ((with_reducible refine ldr (m := y) isM HW.out.1 ?hx ?_); (case hx => rfl))
           | ((with_reducible refine alm zeroM ?_); intro b14 w6 h F6; have ME6 := Lib.hid (ME1.out.on F6.below); have H14a := Lib.hid h; have N14 := Lib.hid (ME1.out.le F6); clear h F6 d1 d2 d3 d4 d5 d6)
           | ((with_reducible refine stm (m := y) isM H14a.out ?hx ?hy ?_); (case hx => rfl); (case hy => rfl); intro w7 h M; have ME7 := Lib.hid (ME6.out.mod M H14a.out N14.out); have H14 := Lib.hid h; obtain ⟨e0, e1, e2, e3, e4, e5⟩ := lay H14.out; clear h M ME6 H14a)
           | (go_at_call 9; refine (CW.out _ ME7.out.tw.tab).mono ?_; rintro _ w9 ⟨rfl, hb⟩; have HB9 := Lib.hid (below_on ME7.out.tw.below hb); clear hb))
          go_ret
          exact ⟨rfl, HB9.out⟩
        · have r1 : decide ((127 : Int) < (y.b.size : Int)) = false := decide_eq_false (by omega)
          have r2 : ¬ (127 : Int) < (y.b.size : Int) := by omega
          have cm := fun (u : World) hu => lmay y HYI.out u hu
          cases hp : mayAsk y with
          | true =>
           rw [hp] at cm
           have CM := Lib.hid cm
           have CASK : Hid (∀ (x0 x1 : Ct) (u : World), Tw w c0 c1 p0 p1 x0 x1 u → Calls Tryz.prog 18 #[ptr c1, mv y] u fun e u' => e = .returned (.int .i64 0) ∧ Tw w c0 c1 p0 p1 x0 (x1.ask y) u' ∧ Keep u u') := Lib.hid (fun x0 x1 u h => by
            have := h.ask1 y HYI.out (by omega)
            rw [show askE y = 0 by unfold askE; rw [hp]; rfl] at this
            exact this)
           clear h127 hp cm
           go_wp2_with (first
            | ((with_reducible refine ldr (m := y) isM HW.out.1 ?hx ?_); (case hx => rfl))
            | ((with_reducible refine alm zeroM ?_); intro b14 w6 h F6; have ME6 := Lib.hid (ME1.out.on F6.below); have H14a := Lib.hid h; have N14 := Lib.hid (ME1.out.le F6); clear h F6 d1 d2 d3 d4 d5 d6)
            | ((with_reducible refine stm (m := y) isM H14a.out ?hx ?hy ?_); (case hx => rfl); (case hy => rfl); intro w7 h M; have ME7 := Lib.hid (ME6.out.mod M H14a.out N14.out); have H14 := Lib.hid h; obtain ⟨e0, e1, e2, e3, e4, e5⟩ := lay H14.out; clear h M ME6 H14a))
           replace ME7 := Lib.hid (ME7.out.on (u' := w7.drew) ⟨rfl, rfl, rfl, Nat.le_refl _, fun _ _ => rfl⟩)
           refine wp_region_held_drew (S := (fun w' => w'.heap[b14]? = some (mO y MT) ∧ w'.heap[b9]? = some (.cells #[ptr c0, ptr c1] 53 (0, 0)))) (by kernel_rfl) ⟨H14.out, ME7.out.h9⟩ (fun hHeld => ?_)
           refine' tk9 0 rfl ?_
           refine' tk9 1 rfl ?_
           refine' tv9 2 rfl (by intro _ hSw; (try dsimp only at hSw); have e9 := cell_of (i := 1) hSw.2 rfl; go_simp <;> with_reducible rfl) ?_
           refine' tv9 3 rfl (by intro _ hSw; (try dsimp only at hSw); refine ex_ld isM hSw.1 ?_; rfl) ?_
           refine' tv9 6 rfl (by intro _ hSw; (try dsimp only at hSw); refine ex_ld isM hSw.1 ?_; rfl) ?_
           refine ry [4] (.cons rfl (fun K hK => ?_) .nil)
           go_simp
           refine (CASK.out _ _ _ ME7.out.tw).mono ?_
           rintro e w8 ⟨rfl, ht, hk⟩
           go_wp2_with fail
           have ME8 := Lib.hid (ME7.out.kp ht hk)
           have HS4 := Lib.hid (And.intro (hk _ _ _ hHeld.1 (by decide) (by decide) (by decide)) (hk _ _ _ hHeld.2 (by decide) (by decide) (by decide)))
           clear ht hk
           refine hK.out _ _ HS4.out (fun hNext => ?_)
           clear hK K hHeld
           have hHeld := hNext; clear hNext
           (try simp only [Act.put, z1', z2', z3'])
           refine' tk9 5 rfl ?_
           refine ry [7] (.cons rfl (fun K hK => ?_) .nil)
           go_simp
           refine (CM.out _ ME8.out.tw.tab).mono ?_
           rintro e w9 ⟨rfl, hb⟩
           go_wp2_with fail
           have ME9 := Lib.hid (ME8.out.on hb)
           have HS7 := Lib.hid (And.intro (stays hHeld.1 hb) (stays hHeld.2 hb))
           clear hb
           refine hK.out _ _ HS7.out (fun hNext => ?_)
           clear hK K hHeld
           have hHeld := hNext; clear hNext
           (try simp only [Act.put, z1', z2', z3'])
           refine' tk9 8 rfl ?_
           refine wpAnyH_done (by kernel_rfl) ?_ _
           clear hHeld HS4 HS7 ME7 ME8 H14
           have ME10 : Hid (Me w c0 c1 b4 b5 b9 b10 b11 p0 p1 (.slice oa n ca) (.slice (some a) m cb) (.slice none 0 0) (.slice none 0 0) (X p0 F n) (X p1 G (i + 1)) [] [] _) := Lib.hid (by rw [HN1.out]; exact ME9.out)
           clear ME9
           go_wp2
           go_roundg (m - (i + 1))
           case measure => omega
           case rel => exact ⟨i + 1, by first | rfl | go_num, Nat.le_refl _, by omega, ME10⟩
          | false =>
           rw [hp] at cm
           have CM := Lib.hid cm
           have CASK : Hid (∀ (x0 x1 : Ct) (u : World), Tw w c0 c1 p0 p1 x0 x1 u → Calls Tryz.prog 18 #[ptr c1, mv y] u fun e u' => e = .returned (.int .i64 2) ∧ Tw w c0 c1 p0 p1 x0 (x1.ask y) u' ∧ Keep u u') := Lib.hid (fun x0 x1 u h => by
            have := h.ask1 y HYI.out (by omega)
            rw [show askE y = 2 by unfold askE; rw [hp]; rfl] at this
            exact this)
           clear h127 hp cm
           go_wp2_with (first
            | ((with_reducible refine ldr (m := y) isM HW.out.1 ?hx ?_); (case hx => rfl))
            | ((with_reducible refine alm zeroM ?_); intro b14 w6 h F6; have ME6 := Lib.hid (ME1.out.on F6.below); have H14a := Lib.hid h; have N14 := Lib.hid (ME1.out.le F6); clear h F6 d1 d2 d3 d4 d5 d6)
            | ((with_reducible refine stm (m := y) isM H14a.out ?hx ?hy ?_); (case hx => rfl); (case hy => rfl); intro w7 h M; have ME7 := Lib.hid (ME6.out.mod M H14a.out N14.out); have H14 := Lib.hid h; obtain ⟨e0, e1, e2, e3, e4, e5⟩ := lay H14.out; clear h M ME6 H14a))
           replace ME7 := Lib.hid (ME7.out.on (u' := w7.drew) ⟨rfl, rfl, rfl, Nat.le_refl _, fun _ _ => rfl⟩)
           refine wp_region_held_drew (S := (fun w' => w'.heap[b14]? = some (mO y MT) ∧ w'.heap[b9]? = some (.cells #[ptr c0, ptr c1] 53 (0, 0)))) (by kernel_rfl) ⟨H14.out, ME7.out.h9⟩ (fun hHeld => ?_)
           refine' tk9 0 rfl ?_
           refine' tk9 1 rfl ?_
           refine' tv9 2 rfl (by intro _ hSw; (try dsimp only at hSw); have e9 := cell_of (i := 1) hSw.2 rfl; go_simp <;> with_reducible rfl) ?_
           refine' tv9 3 rfl (by intro _ hSw; (try dsimp only at hSw); refine ex_ld isM hSw.1 ?_; rfl) ?_
           refine' tv9 6 rfl (by intro _ hSw; (try dsimp only at hSw); refine ex_ld isM hSw.1 ?_; rfl) ?_
           refine ry [4] (.cons rfl (fun K hK => ?_) .nil)
           go_simp
           refine (CASK.out _ _ _ ME7.out.tw).mono ?_
           rintro e w8 ⟨rfl, ht, hk⟩
           go_wp2_with fail
           have ME8 := Lib.hid (ME7.out.kp ht hk)
           have HS4 := Lib.hid (And.intro (hk _ _ _ hHeld.1 (by decide) (by decide) (by decide)) (hk _ _ _ hHeld.2 (by decide) (by decide) (by decide)))
           clear ht hk
           refine hK.out _ _ HS4.out (fun hNext => ?_)
           clear hK K hHeld
           have hHeld := hNext; clear hNext
           (try simp only [Act.put, z1', z2', z3'])
           refine' tk9 5 rfl ?_
           refine ry [7] (.cons rfl (fun K hK => ?_) .nil)
           go_simp
           refine (CM.out _ ME8.out.tw.tab).mono ?_
           rintro e w9 ⟨rfl, hb⟩
           go_wp2_with fail
           have ME9 := Lib.hid (ME8.out.on hb)
           have HS7 := Lib.hid (And.intro (stays hHeld.1 hb) (stays hHeld.2 hb))
           clear hb
           refine hK.out _ _ HS7.out (fun hNext => ?_)
           clear hK K hHeld
           have hHeld := hNext; clear hNext
           (try simp only [Act.put, z1', z2', z3'])
           refine' tk9 8 rfl ?_
           refine wpAnyH_done (by kernel_rfl) ?_ _
           clear hHeld HS4 HS7 ME7 ME8 H14
           have ME10 : Hid (Me w c0 c1 b4 b5 b9 b10 b11 p0 p1 (.slice oa n ca) (.slice (some a) m cb) (.slice none 0 0) (.slice none 0 0) (X p0 F n) (X p1 G (i + 1)) [] [] _) := Lib.hid (by rw [HN1.out]; exact ME9.out)
           clear ME9
           go_wp2
           go_roundg (m - (i + 1))
           case measure => omega
           case rel => exact ⟨i + 1, by first | rfl | go_num, Nat.le_refl _, by omega, ME10⟩
      · obtain rfl : m = i := by omega
        have o1 : decide ((m : Int) < (m : Int)) = false := decide_eq_false (by omega)
        have o2 : ¬ (m : Int) < (m : Int) := by omega
        obtain ⟨d1, d2, d3, d4, d5, d6⟩ := ME1.out.cells
        go_wp2_with fail
        go_roundg (1 - 1)
        case measure => omega
        case rel => exact ⟨2, n, m, by first | rfl | go_num, by omega, by omega, Lib.hid ⟨fun h => by omega, fun h => by omega, fun h => ⟨rfl, rfl⟩⟩, ME1⟩
   obtain rfl : k = 2 := by omega
   obtain ⟨e1, e2⟩ := HIJ.out.2.2 rfl
   obtain rfl : n = i0 := e1.symm
   obtain rfl : m = j0 := e2.symm
   clear HIJ hk0 hk1 hgm hk2
   go_wp2_with fail
   have HB1 : Hid (∃ (o0 : Option Addr) (n0 k0 : Nat) (o1 : Option Addr) (n1 k1 : Nat) (y0 y1 : Ct) (f0 f1 : List Fa), ((⟨X p0 F n, X p1 G m, [], []⟩ : Tk).go 0 0 = ⟨y0, y1, f0, f1⟩ ∧ f0.length ≤ 0 ∧ f1.length ≤ 0) ∧ Me w c0 c1 b4 b5 b9 b10 b11 p0 p1 (.slice oa n ca) (.slice ob m cb) (.slice o0 n0 k0) (.slice o1 n1 k1) y0 y1 f0 f1 wr) := Lib.hid ⟨none, 0, 0, none, 0, 0, _, _, _, _, ⟨rfl, Nat.le_refl _, Nat.le_refl _⟩, ME1.out⟩
   go_loopg [15] 200 (fun gm s15 wr => ∃ (i : Nat) (o0 : Option Addr) (n0 k0 : Nat) (o1 : Option Addr) (n1 k1 : Nat) (y0 y1 : Ct) (f0 f1 : List Fa), s15 = nm i ∧ 200 - i ≤ gm ∧ i ≤ 200 ∧ Hid ((⟨X p0 F n, X p1 G m, [], []⟩ : Tk).go 0 i = ⟨y0, y1, f0, f1⟩ ∧ f0.length ≤ i ∧ f1.length ≤ i) ∧ Hid (Me w c0 c1 b4 b5 b9 b10 b11 p0 p1 (.slice oa n ca) (.slice ob m cb) (.slice o0 n0 k0) (.slice o1 n1 k1) y0 y1 f0 f1 wr))
   case atStart =>
    obtain ⟨o0, n0, k0, o1, n1, k1, y0, y1, f0, f1, h1, h2⟩ := HB1.out
    exact ⟨0, o0, n0, k0, o1, n1, k1, y0, y1, f0, f1, by first | rfl | go_num, by omega, by omega, Lib.hid h1, Lib.hid h2⟩
   case round =>
    clear ME1 HB1 e1 e2
    obtain ⟨i, o0, n0, k0, o1, n1, k1, y0, y1, f0, f1, rfl, hgm, hin, HGO, ME1⟩ := hrel
    by_cases hlt : i < 200
    · have t1 : decide ((i : Int) < 200) = true := decide_eq_true (by omega)
      have t2 : (i : Int) < 200 := by omega
      have t3 : (0 : Int) ≤ (i : Int) := by omega
      have vi := nat_wrap (i + 1) (by omega)
      by_cases hpar : i % 2 = 0
      · have r0 : (i : Int).tmod 2 = 0 := by rw [Int.tmod_eq_emod_of_nonneg (by omega)]; omega
        have q0 : IntKind.i64.wrap 0 = 0 := rfl
        have q1 : IntKind.i64.wrap 1 = 1 := rfl
        have cn := ME1.out.tw.next0
        have HL : f0.length ≤ i + 1 ∧ f1.length ≤ i + 1 := by have := HGO.out.2; omega
        cases hnx : y0.next.1 with
        | none =>
         rw [hnx] at cn
         dsimp only [nv] at cn
         have CN := Lib.hid cn
         have HST : Hid ((⟨X p0 F n, X p1 G m, [], []⟩ : Tk).go 0 (i + 1) = ⟨y0.next.2, y1, f0, f1⟩ ∧ f0.length ≤ i + 1 ∧ f1.length ≤ i + 1) := Lib.hid ⟨go_none0 HGO.out.1 hpar hnx, HL⟩
         clear cn hnx HL HGO hpar
         obtain ⟨d1, d2, d3, d4, d5, d6⟩ := ME1.out.cells
         go_wp2_with (go_at_call 20; refine CN.out.mono ?_; rintro _ w7 ⟨rfl, ht, hk⟩; have ME7 := Lib.hid (ME1.out.kp ht hk); clear ht hk)
         go_roundg (200 - (i + 1))
         case measure => omega
         case rel => exact ⟨i + 1, o0, n0, k0, o1, n1, k1, _, _, _, _, by first | rfl | go_num, Nat.le_refl _, by omega, HST, ME7⟩
        | some a =>
         rw [hnx] at cn
         dsimp only [nv] at cn
         have CN := Lib.hid cn
         have HAO := Lib.hid (next_ok ME1.out.tw.ok0 hnx)
         have hl9 : (f1 ++ (y1.hear1 a).2).length ≤ i + 1 := by rw [List.length_append]; have := hear1_len y1 a; have := HGO.out.2; omega
         have HLN : Hid (f1.length + 1 ≤ 1000000) := Lib.hid (by have := HGO.out.2; omega)
         have HST : Hid ((⟨X p0 F n, X p1 G m, [], []⟩ : Tk).go 0 (i + 1) = ⟨y0.next.2, (y1.hear1 a).1, f0, f1 ++ (y1.hear1 a).2⟩ ∧ _ ∧ _) := Lib.hid ⟨go_some0 HGO.out.1 hpar hnx, HL.1, hl9⟩
         have CH := Lib.hid (fun (x0 x1 : Ct) (u : World) (h : Tw w c0 c1 p0 p1 x0 x1 u) => h.hear1 a HAO.out)
         clear cn hnx HL hl9 HGO hpar HAO
         obtain ⟨d1, d2, d3, d4, d5, d6⟩ := ME1.out.cells
         go_wp2_with (go_at_call 20; refine CN.out.mono ?_; rintro _ w7 ⟨rfl, ht, hk⟩; have ME7 := Lib.hid (ME1.out.kp ht hk); clear ht hk d1 d2 d3 d4 d5 d6 ME1)
         replace ME7 := Lib.hid (ME7.out.on (u' := w7.drew) ⟨rfl, rfl, rfl, Nat.le_refl _, fun _ _ => rfl⟩)
         refine wp_region_held_drew (S := (fun w' => w'.heap[b9]? = some (.cells #[ptr c0, ptr c1] 53 (0, 0)))) (by kernel_rfl) ME7.out.h9 (fun hHeld => ?_)
         refine' tk9 0 rfl ?_
         refine' tk9 1 rfl ?_
         refine' tk9 2 rfl ?_
         refine' tk9 3 rfl ?_
         refine' tk9 4 rfl ?_
         refine' tk9 5 rfl ?_
         refine' tk9 6 rfl ?_
         refine' tk9 8 rfl ?_
         refine' tk9 9 rfl ?_
         refine' tk9 10 rfl ?_
         refine' tk9 11 rfl ?_
         refine' tv9 12 rfl (by intro _ hSw; (try dsimp only at hSw); have e9 := cell_of (i := 1) hSw rfl; go_simp <;> with_reducible rfl) ?_
         refine' tk9 13 rfl ?_
         refine ry [7, 14] ?_
         refine AllReadyH.cons rfl (fun K hK => ?_) (AllReadyH.cons rfl (fun K hK => ?_) AllReadyH.nil)
         · have c10 := (ME7.out.cells).2.2.2.1
           go_simp
           clear c10
           refine hK.out _ _ ME7.out.h9 (fun hNext => ?_)
           clear hK K hHeld
           have hHeld := hNext; clear hNext
           (try simp only [Act.put, z1', z2', z3'])
           refine ry [14] (.cons rfl (fun K hK => ?_) .nil)
           go_simp
           (with_reducible refine (CH.out _ _ _ ME7.out.tw).mono ?_)
           rintro e w8 ⟨vv, rfl, ho, ht, hk⟩
           go_wp2_with fail
           have MEn := Lib.hid (ME7.out.kp ht hk)
           have HO := Lib.hid ho
           clear ME7 ho ht hk
           have ME7 := MEn
           clear MEn
           refine hK.out _ _ ME7.out.h9 (fun hNext => ?_)
           clear hK K hHeld
           have hHeld := hNext; clear hNext
           (try simp only [Act.put, z1', z2', z3'])
           refine ry [15] ?_
           refine AllReadyH.cons (o := ⟨some 104, .call ⟨.builtin .append, #[.tmp 96, .tmp 103], #[54, 54]⟩, 54, "law.go:156", #[⟨7, .data⟩, ⟨14, .data⟩, ⟨14, .chain⟩], none⟩) rfl (fun K hK => ?_) AllReadyH.nil
           obtain ⟨v9, w9, hr9, ho9, hg9, hv9⟩ := appG _ 54 _ _ _ _ _ _ ME7.out.g1 HO.out (hear1_len _ _) HLN.out ME7.out.tw.below.size
           obtain ⟨ow, cw, rfl, _⟩ := row_form ho9
           obtain ⟨nw, hnw⟩ : ∃ nw, (f1 ++ (y1.hear1 a).2).length = nw := ⟨_, rfl⟩
           rw [hnw] at hr9 ho9 hv9
           clear hnw
           refine step_append_known rfl _ _ _ _ rfl rfl rfl hr9 ?_
           obtain ⟨hme, hc, hfz, hlt9, h99⟩ := ME7.out.put1 ho9 hg9 hv9
           have MEX := Lib.hid hme
           have H99 := Lib.hid h99
           clear hme h99
           refine hK.out _ _ H99.out (fun hNext => ?_)
           clear hK K hHeld
           have hHeld := hNext; clear hNext
           (try simp only [Act.put, z1', z2', z3'])
           refine' tk9 16 rfl ?_
           refine ry [17] (.cons rfl (fun K hK => ?_) .nil)
           go_simp
           clear hc hfz hlt9
           refine hK.out _ _ MEX.out.h9 (fun hNext => ?_)
           clear hK K hHeld
           have hHeld := hNext; clear hNext
           (try simp only [Act.put])
           refine wpAnyH_done (by kernel_rfl) ?_ _
           clear hHeld hr9 ho9 hg9 hv9 ME7 HO H99
           go_wp2
           go_roundg (200 - (i + 1))
           case measure => omega
           case rel => exact ⟨i + 1, o0, n0, k0, ow, nw, cw, _, _, _, _, by first | rfl | go_num, Nat.le_refl _, by omega, HST, MEX⟩
         · go_simp
           (with_reducible refine (CH.out _ _ _ ME7.out.tw).mono ?_)
           rintro e w8 ⟨vv, rfl, ho, ht, hk⟩
           go_wp2_with fail
           have MEn := Lib.hid (ME7.out.kp ht hk)
           have HO := Lib.hid ho
           clear ME7 ho ht hk
           have ME7 := MEn
           clear MEn
           refine hK.out _ _ ME7.out.h9 (fun hNext => ?_)
           clear hK K hHeld
           have hHeld := hNext; clear hNext
           (try simp only [Act.put, z1', z2', z3'])
           refine ry [7] (.cons rfl (fun K hK => ?_) .nil)
           have c10 := (ME7.out.cells).2.2.2.1
           go_simp
           clear c10
           refine hK.out _ _ ME7.out.h9 (fun hNext => ?_)
           clear hK K hHeld
           have hHeld := hNext; clear hNext
           (try simp only [Act.put, z1', z2', z3'])
           refine ry [15] ?_
           refine AllReadyH.cons (o := ⟨some 104, .call ⟨.builtin .append, #[.tmp 96, .tmp 103], #[54, 54]⟩, 54, "law.go:156", #[⟨7, .data⟩, ⟨14, .data⟩, ⟨14, .chain⟩], none⟩) rfl (fun K hK => ?_) AllReadyH.nil
           obtain ⟨v9, w9, hr9, ho9, hg9, hv9⟩ := appG _ 54 _ _ _ _ _ _ ME7.out.g1 HO.out (hear1_len _ _) HLN.out ME7.out.tw.below.size
           obtain ⟨ow, cw, rfl, _⟩ := row_form ho9
           obtain ⟨nw, hnw⟩ : ∃ nw, (f1 ++ (y1.hear1 a).2).length = nw := ⟨_, rfl⟩
           rw [hnw] at hr9 ho9 hv9
           clear hnw
           refine step_append_known rfl _ _ _ _ rfl rfl rfl hr9 ?_
           obtain ⟨hme, hc, hfz, hlt9, h99⟩ := ME7.out.put1 ho9 hg9 hv9
           have MEX := Lib.hid hme
           have H99 := Lib.hid h99
           clear hme h99
           refine hK.out _ _ H99.out (fun hNext => ?_)
           clear hK K hHeld
           have hHeld := hNext; clear hNext
           (try simp only [Act.put, z1', z2', z3'])
           refine' tk9 16 rfl ?_
           refine ry [17] (.cons rfl (fun K hK => ?_) .nil)
           go_simp
           clear hc hfz hlt9
           refine hK.out _ _ MEX.out.h9 (fun hNext => ?_)
           clear hK K hHeld
           have hHeld := hNext; clear hNext
           (try simp only [Act.put])
           refine wpAnyH_done (by kernel_rfl) ?_ _
           clear hHeld hr9 ho9 hg9 hv9 ME7 HO H99
           go_wp2
           go_roundg (200 - (i + 1))
           case measure => omega
           case rel => exact ⟨i + 1, o0, n0, k0, ow, nw, cw, _, _, _, _, by first | rfl | go_num, Nat.le_refl _, by omega, HST, MEX⟩
      · have r0 : (i : Int).tmod 2 = 1 := by rw [Int.tmod_eq_emod_of_nonneg (by omega)]; omega
        have q0 : IntKind.i64.wrap 0 = 0 := rfl
        have q1 : IntKind.i64.wrap 1 = 1 := rfl
        have cn := ME1.out.tw.next1
        have HL : f0.length ≤ i + 1 ∧ f1.length ≤ i + 1 := by have := HGO.out.2; omega
        cases hnx : y1.next.1 with
        | none =>
         rw [hnx] at cn
         dsimp only [nv] at cn
         have CN := Lib.hid cn
         have HST : Hid ((⟨X p0 F n, X p1 G m, [], []⟩ : Tk).go 0 (i + 1) = ⟨y0, y1.next.2, f0, f1⟩ ∧ f0.length ≤ i + 1 ∧ f1.length ≤ i + 1) := Lib.hid ⟨go_none1 HGO.out.1 hpar hnx, HL⟩
         clear cn hnx HL HGO hpar
         obtain ⟨d1, d2, d3, d4, d5, d6⟩ := ME1.out.cells
         go_wp2_with (go_at_call 20; refine CN.out.mono ?_; rintro _ w7 ⟨rfl, ht, hk⟩; have ME7 := Lib.hid (ME1.out.kp ht hk); clear ht hk)
         go_roundg (200 - (i + 1))
         case measure => omega
         case rel => exact ⟨i + 1, o0, n0, k0, o1, n1, k1, _, _, _, _, by first | rfl | go_num, Nat.le_refl _, by omega, HST, ME7⟩
        | some a =>
         rw [hnx] at cn
         dsimp only [nv] at cn
         have CN := Lib.hid cn
         have HAO := Lib.hid (next_ok ME1.out.tw.ok1 hnx)
         have hl9 : (f0 ++ (y0.hear1 a).2).length ≤ i + 1 := by rw [List.length_append]; have := hear1_len y0 a; have := HGO.out.2; omega
         have HLN : Hid (f0.length + 1 ≤ 1000000) := Lib.hid (by have := HGO.out.2; omega)
         have HST : Hid ((⟨X p0 F n, X p1 G m, [], []⟩ : Tk).go 0 (i + 1) = ⟨(y0.hear1 a).1, y1.next.2, f0 ++ (y0.hear1 a).2, f1⟩ ∧ _ ∧ _) := Lib.hid ⟨go_some1 HGO.out.1 hpar hnx, hl9, HL.2⟩
         have CH := Lib.hid (fun (x0 x1 : Ct) (u : World) (h : Tw w c0 c1 p0 p1 x0 x1 u) => h.hear0 a HAO.out)
         clear cn hnx HL hl9 HGO hpar HAO
         obtain ⟨d1, d2, d3, d4, d5, d6⟩ := ME1.out.cells
         go_wp2_with (go_at_call 20; refine CN.out.mono ?_; rintro _ w7 ⟨rfl, ht, hk⟩; have ME7 := Lib.hid (ME1.out.kp ht hk); clear ht hk d1 d2 d3 d4 d5 d6 ME1)
         replace ME7 := Lib.hid (ME7.out.on (u' := w7.drew) ⟨rfl, rfl, rfl, Nat.le_refl _, fun _ _ => rfl⟩)
         refine wp_region_held_drew (S := (fun w' => w'.heap[b9]? = some (.cells #[ptr c0, ptr c1] 53 (0, 0)))) (by kernel_rfl) ME7.out.h9 (fun hHeld => ?_)
         refine' tk9 0 rfl ?_
         refine' tk9 1 rfl ?_
         refine' tk9 2 rfl ?_
         refine' tk9 3 rfl ?_
         refine' tk9 4 rfl ?_
         refine' tk9 5 rfl ?_
         refine' tk9 6 rfl ?_
         refine' tk9 8 rfl ?_
         refine' tk9 9 rfl ?_
         refine' tk9 10 rfl ?_
         refine' tk9 11 rfl ?_
         refine' tv9 12 rfl (by intro _ hSw; (try dsimp only at hSw); have e9 := cell_of (i := 0) hSw rfl; go_simp <;> with_reducible rfl) ?_
         refine' tk9 13 rfl ?_
         refine ry [7, 14] ?_
         refine AllReadyH.cons rfl (fun K hK => ?_) (AllReadyH.cons rfl (fun K hK => ?_) AllReadyH.nil)
         · have c10 := (ME7.out.cells).2.2.1
           go_simp
           clear c10
           refine hK.out _ _ ME7.out.h9 (fun hNext => ?_)
           clear hK K hHeld
           have hHeld := hNext; clear hNext
           (try simp only [Act.put, z1', z2', z3'])
           refine ry [14] (.cons rfl (fun K hK => ?_) .nil)
           go_simp
           (with_reducible refine (CH.out _ _ _ ME7.out.tw).mono ?_)
           rintro e w8 ⟨vv, rfl, ho, ht, hk⟩
           go_wp2_with fail
           have MEn := Lib.hid (ME7.out.kp ht hk)
           have HO := Lib.hid ho
           clear ME7 ho ht hk
           have ME7 := MEn
           clear MEn
           refine hK.out _ _ ME7.out.h9 (fun hNext => ?_)
           clear hK K hHeld
           have hHeld := hNext; clear hNext
           (try simp only [Act.put, z1', z2', z3'])
           refine ry [15] ?_
           refine AllReadyH.cons (o := ⟨some 104, .call ⟨.builtin .append, #[.tmp 96, .tmp 103], #[54, 54]⟩, 54, "law.go:156", #[⟨7, .data⟩, ⟨14, .data⟩, ⟨14, .chain⟩], none⟩) rfl (fun K hK => ?_) AllReadyH.nil
           obtain ⟨v9, w9, hr9, ho9, hg9, hv9⟩ := appG _ 54 _ _ _ _ _ _ ME7.out.g0 HO.out (hear1_len _ _) HLN.out ME7.out.tw.below.size
           obtain ⟨ow, cw, rfl, _⟩ := row_form ho9
           obtain ⟨nw, hnw⟩ : ∃ nw, (f0 ++ (y0.hear1 a).2).length = nw := ⟨_, rfl⟩
           rw [hnw] at hr9 ho9 hv9
           clear hnw
           refine step_append_known rfl _ _ _ _ rfl rfl rfl hr9 ?_
           obtain ⟨hme, hc, hfz, hlt9, h99⟩ := ME7.out.put0 ho9 hg9 hv9
           have MEX := Lib.hid hme
           have H99 := Lib.hid h99
           clear hme h99
           refine hK.out _ _ H99.out (fun hNext => ?_)
           clear hK K hHeld
           have hHeld := hNext; clear hNext
           (try simp only [Act.put, z1', z2', z3'])
           refine' tk9 16 rfl ?_
           refine ry [17] (.cons rfl (fun K hK => ?_) .nil)
           go_simp
           clear hc hfz hlt9
           refine hK.out _ _ MEX.out.h9 (fun hNext => ?_)
           clear hK K hHeld
           have hHeld := hNext; clear hNext
           (try simp only [Act.put])
           refine wpAnyH_done (by kernel_rfl) ?_ _
           clear hHeld hr9 ho9 hg9 hv9 ME7 HO H99
           go_wp2
           go_roundg (200 - (i + 1))
           case measure => omega
           case rel => exact ⟨i + 1, ow, nw, cw, o1, n1, k1, _, _, _, _, by first | rfl | go_num, Nat.le_refl _, by omega, HST, MEX⟩
         · go_simp
           (with_reducible refine (CH.out _ _ _ ME7.out.tw).mono ?_)
           rintro e w8 ⟨vv, rfl, ho, ht, hk⟩
           go_wp2_with fail
           have MEn := Lib.hid (ME7.out.kp ht hk)
           have HO := Lib.hid ho
           clear ME7 ho ht hk
           have ME7 := MEn
           clear MEn
           refine hK.out _ _ ME7.out.h9 (fun hNext => ?_)
           clear hK K hHeld
           have hHeld := hNext; clear hNext
           (try simp only [Act.put, z1', z2', z3'])
           refine ry [7] (.cons rfl (fun K hK => ?_) .nil)
           have c10 := (ME7.out.cells).2.2.1
           go_simp
           clear c10
           refine hK.out _ _ ME7.out.h9 (fun hNext => ?_)
           clear hK K hHeld
           have hHeld := hNext; clear hNext
           (try simp only [Act.put, z1', z2', z3'])
           refine ry [15] ?_
           refine AllReadyH.cons (o := ⟨some 104, .call ⟨.builtin .append, #[.tmp 96, .tmp 103], #[54, 54]⟩, 54, "law.go:156", #[⟨7, .data⟩, ⟨14, .data⟩, ⟨14, .chain⟩], none⟩) rfl (fun K hK => ?_) AllReadyH.nil
           obtain ⟨v9, w9, hr9, ho9, hg9, hv9⟩ := appG _ 54 _ _ _ _ _ _ ME7.out.g0 HO.out (hear1_len _ _) HLN.out ME7.out.tw.below.size
           obtain ⟨ow, cw, rfl, _⟩ := row_form ho9
           obtain ⟨nw, hnw⟩ : ∃ nw, (f0 ++ (y0.hear1 a).2).length = nw := ⟨_, rfl⟩
           rw [hnw] at hr9 ho9 hv9
           clear hnw
           refine step_append_known rfl _ _ _ _ rfl rfl rfl hr9 ?_
           obtain ⟨hme, hc, hfz, hlt9, h99⟩ := ME7.out.put0 ho9 hg9 hv9
           have MEX := Lib.hid hme
           have H99 := Lib.hid h99
           clear hme h99
           refine hK.out _ _ H99.out (fun hNext => ?_)
           clear hK K hHeld
           have hHeld := hNext; clear hNext
           (try simp only [Act.put, z1', z2', z3'])
           refine' tk9 16 rfl ?_
           refine ry [17] (.cons rfl (fun K hK => ?_) .nil)
           go_simp
           clear hc hfz hlt9
           refine hK.out _ _ MEX.out.h9 (fun hNext => ?_)
           clear hK K hHeld
           have hHeld := hNext; clear hNext
           (try simp only [Act.put])
           refine wpAnyH_done (by kernel_rfl) ?_ _
           clear hHeld hr9 ho9 hg9 hv9 ME7 HO H99
           go_wp2
           go_roundg (200 - (i + 1))
           case measure => omega
           case rel => exact ⟨i + 1, ow, nw, cw, o1, n1, k1, _, _, _, _, by first | rfl | go_num, Nat.le_refl _, by omega, HST, MEX⟩
    obtain rfl : i = 200 := by omega
    have t1 : decide ((((200 : Nat) : Int)) < 200) = false := by decide
    clear hlt hgm hin
    go_wp2_with fail
    have hen := ends (p0 := p0) (p1 := p1) (fun k hk => (HIA.out k hk).1) (fun k hk => (HIB.out k hk).1) (by omega) (by omega) HGO.out.1
    obtain ⟨A, hA⟩ : ∃ A, asked (rowOf F n) = A := ⟨_, rfl⟩
    obtain ⟨B, hB⟩ : ∃ B, asked (rowOf G m) = B := ⟨_, rfl⟩
    rw [hA, hB] at hen
    obtain ⟨la, hla⟩ : ∃ la, A.length = la := ⟨_, rfl⟩
    obtain ⟨lb, hlb⟩ : ∃ lb, B.length = lb := ⟨_, rfl⟩
    have HE := Lib.hid hen
    have HLA := Lib.hid hla
    have HLB := Lib.hid hlb
    have CLA := Lib.hid (fun (u : World) (hb : Below w.heap.size w u) => lasked_n (cap := ca) (by omega) HT.out HA.out hA hla hb)
    have CLB := Lib.hid (fun (u : World) (hb : Below w.heap.size w u) => lasked_n (cap := cb) (by omega) HT.out HB0.out hB hlb hb)
    have e0 : n0 = f0.length := by obtain ⟨o0', k0', e0, _⟩ := row_form ME1.out.g0; injection e0
    have e1 : n1 = f1.length := by obtain ⟨o1', k1', e1, _⟩ := row_form ME1.out.g1; injection e1
    have la20 : la ≤ 20 := by rw [← hla]; exact hen.eA
    have lb20 : lb ≤ 20 := by rw [← hlb]; exact hen.eB
    have hn0 : n0 = la + lb := by rw [e0, hen.l0, hla, hlb]
    have hn1 : n1 = la + lb := by rw [e1, hen.l1, hla, hlb]
    have HN0 : Hid (f0.length = n0) := Lib.hid e0.symm
    have HN1 : Hid (f1.length = n1) := Lib.hid e1.symm
    have wl0 : IntKind.i64.wrap ((la : Int) + (lb : Int)) = (n0 : Int) := by rw [hn0]; rw [IntKind.wrap_i64]; omega
    have wl1 : IntKind.i64.wrap ((lb : Int) + (la : Int)) = (n1 : Int) := by rw [hn1]; rw [IntKind.wrap_i64]; omega
    have n0le : n0 ≤ 40 := by omega
    have n1le : n1 ≤ 40 := by omega
    clear hen hA hB hla hlb e0 e1 hn0 hn1 HGO HIA HIB
    go_loopg [19] 2 (fun gm s19 wr => ∃ k : Nat, s19 = nm k ∧ 2 - k ≤ gm ∧ k ≤ 2 ∧ Hid (Me w c0 c1 b4 b5 b9 b10 b11 p0 p1 (.slice oa n ca) (.slice ob m cb) (.slice o0 n0 k0) (.slice o1 n1 k1) y0 y1 f0 f1 wr))
    case atStart => exact ⟨0, by first | rfl | go_num, by omega, by omega, ME1⟩
    case round =>
     clear ME1
     obtain ⟨k, rfl, hgm, hk2, ME1⟩ := hrel
     by_cases hk0 : k = 0
     · subst hk0
       exact sC0 HE HLA HLB CLA CLB la20 lb20 HN0 HN1 wl0 wl1 n0le n1le hgm ME1 (by assumption) (by assumption)
     by_cases hk1 : k = 1
     · subst hk1
       clear hk0
       exact sC1 HE HLA HLB CLA CLB la20 lb20 HN0 HN1 wl0 wl1 n0le n1le hgm ME1 (by assumption) (by assumption)
     obtain rfl : k = 2 := by omega
     clear hk0 hk1 hgm hk2
     go_wp2_with (go_at_call 9; refine (CW.out _ ME1.out.tw.tab).mono ?_; rintro _ w9 ⟨rfl, hb⟩; have HB9 := Lib.hid (below_on ME1.out.tw.below hb); clear hb)
     go_ret
     exact ⟨rfl, HB9.out⟩
theorem law (p0 : Pn.Pr) (_ : p0.In) (p1 : Pn.Pr) (_ : p1.In) (oa : Option Addr) (n ca : Nat) (F : Nat → Ms) (_ : n ≤ maxLen) (ob : Option Addr) (m cb : Nat) (G : Nat → Ms) (_ : m ≤ maxLen) (w : World) (ht : Tab w) (hA : ArgS 20 ml Fits w oa n F) (hB : ArgS 20 ml Fits w ob m G) :
 Calls Tryz.prog 6 #[Pn.pv p0, Pn.pv p1, .slice oa n ca, .slice ob m cb] w fun e w' => e = .returned (.bool true) ∧ Below w.heap.size w w' := all p0 p1 oa n ca F ob m cb G w ht hA hB
end Go.Proofs.YtakkhdammmcjcaaGreatDoor.ctlMeets
