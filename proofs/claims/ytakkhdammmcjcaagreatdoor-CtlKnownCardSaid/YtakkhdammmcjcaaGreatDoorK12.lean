/-
  Layer 22, put together: CtlPsm, CtlPcl. Conditions: as each theorem names them.
-/
import Derived.Test.YtakkhdammmcjcaaGreatDoorK07
import Derived.Test.YtakkhdammmcjcaaGreatDoorK10
import Derived.Test.YtakkhdammmcjcaaGreatDoorK11
import Derived.Test.YtakkhdammmcjcaaGreatDoorK01
import Derived.Deep.RegionHeld
import Derived.Handy
namespace Go.Proofs.YtakkhdammmcjcaaGreatDoor.Ctl
open Go.RowKit Base Mem Msgs Cr
set_option maxRecDepth 100000
theorem fchan (m : Ms) (hi : m.In) (w : World) : Calls Tryz.prog 44 #[mv m] w fun e w' => e = .returned (.int .u8 (ch m : Int)) ∧ Below w.heap.size w w' := by
 by_cases h1 : m.k = 1
 · have hc : (ch m : Int) = m.p.d := by unfold ch; rw [if_pos h1]; have := hi.p.d; omega
   rw [hc]
   have t1 : ((m.k : Int) == 1) = true := by rw [h1]; rfl
   clear hi hc
   go_enter Tryz.func44, Tryz.ntmps44
   go_wp2_with ((with_reducible refine bxm (m := m) ?hx ?_); (case hx => rfl); intro b w1 h1 F1; have HB := Lib.hid F1.below; obtain ⟨c0, c1, c2, c3, c4, c5⟩ := lay h1; clear h1 F1)
   go_ret
   exact ⟨rfl, HB.out⟩
 · have t1 : ((m.k : Int) == 1) = false := Mem.beq_false (by omega)
   by_cases h2 : m.k = 2
   · have hc : (ch m : Int) = (m.s.d : Int) := by unfold ch; rw [if_neg h1, if_pos h2]
     rw [hc]
     have t2 : ((m.k : Int) == 2) = true := by rw [h2]; rfl
     clear hi hc
     go_enter Tryz.func44, Tryz.ntmps44
     go_wp2_with ((with_reducible refine bxm (m := m) ?hx ?_); (case hx => rfl); intro b w1 h1 F1; have HB := Lib.hid F1.below; obtain ⟨c0, c1, c2, c3, c4, c5⟩ := lay h1; clear h1 F1)
     go_ret
     exact ⟨rfl, HB.out⟩
   · have hc : ch m = 0 := by unfold ch; rw [if_neg h1, if_neg h2]
     rw [hc]
     have t2 : ((m.k : Int) == 2) = false := Mem.beq_false (by omega)
     clear hi hc
     go_enter Tryz.func44, Tryz.ntmps44
     go_wp2_with ((with_reducible refine bxm (m := m) ?hx ?_); (case hx => rfl); intro b w1 h1 F1; have HB := Lib.hid F1.below; obtain ⟨c0, c1, c2, c3, c4, c5⟩ := lay h1; clear h1 F1)
     go_ret
     exact ⟨rfl, HB.out⟩
theorem nn_beq (a b : Nat) : ((a : Int) == (b : Int)) = (a == b) := by
 by_cases h : a = b
 · rw [h, beq_self_eq_true, beq_self_eq_true]
 · rw [Mem.beq_false (by omega), beq_eq_false_iff_ne.2 h]
set_option maxHeartbeats 2000000 in
theorem fsame (x y : Ms) (hx : x.In) (hy : y.In) (w : World) : Calls Tryz.prog 39 #[mv x, mv y] w fun e w' => e = .returned (.bool (same x y)) ∧ Below w.heap.size w w' := by
 have CX := fun w => fchan x hx w
 have CY := fun w => fchan y hy w
 by_cases hk : x.k = y.k
 · have t1 : ((x.k : Int) == (y.k : Int)) = true := by rw [hk]; exact beq_self_eq_true _
   have t2 : (x.k : Int) = (y.k : Int) := by rw [hk]
   have e1 : same x y = (ch x == ch y) := by unfold same; rw [hk, beq_self_eq_true, Bool.true_and]
   have e2 := nn_beq (ch x) (ch y)
   rw [e1]
   generalize ch x = cx at CX e2 ⊢
   generalize ch y = cy at CY e2 ⊢
   generalize (cx == cy) = q at e2 ⊢
   have CX := Lib.hid CX
   have CY := Lib.hid CY
   have T1 := Lib.hid t1
   clear hx hy e1 t2 hk
   go_enter Tryz.func39, Tryz.ntmps39
   go_wp2_with (first
    | ((with_reducible refine bxm (m := x) ?hx ?_); (case hx => rfl); intro b1 w1 h F; have HB := Lib.hid F.below; have H1 := Lib.hid h; clear h F)
    | ((with_reducible refine bxm (m := y) ?hx ?_); (case hx => rfl); intro b2 wx h F; replace H1 := Lib.hid (F.stays H1.out); have H2 := Lib.hid h; replace HB := Lib.hid (F.on HB.out); clear h F))
   refine wp_region_held_drew (S := (fun w' => Below wx.heap.size wx w')) (by kernel_rfl) (Below.refl _ _).drew (fun hHeld => ?_)
   refine' tk9 0 rfl ?_
   refine' tv9 1 rfl (by intro _ hSw; (try dsimp only at hSw); have c1 := (lay (stays H1.out hSw)).1; go_simp <;> with_reducible rfl) ?_
   refine' tk9 2 rfl ?_
   refine' tv9 3 rfl (by intro _ hSw; (try dsimp only at hSw); have c2 := (lay (stays H2.out hSw)).1; go_simp <;> with_reducible rfl) ?_
   refine' tk9 4 rfl ?_
   refine' tk9 5 rfl ?_
   refine' tv9 6 rfl (by intro _ hSw; (try dsimp only at hSw); refine ex_ld isM (stays H1.out hSw) ?_; rfl) ?_
   refine' tv9 8 rfl (by intro _ hSw; (try dsimp only at hSw); refine ex_ld isM (stays H2.out hSw) ?_; rfl) ?_
   refine ry [7] (.cons rfl (fun K hK => ?_) .nil)
   go_simp
   (with_reducible refine (CX.out _).mono ?_)
   rintro e wc ⟨rfl, hb⟩
   go_wp2_with fail
   refine hK.out _ _ (below_on hHeld hb) (fun hNext => ?_)
   clear hK K hHeld hb
   have hHeld := hNext; clear hNext
   (try simp only [Act.put, z1', z2', z3'])
   refine ry [9] (.cons rfl (fun K hK => ?_) .nil)
   go_simp
   (with_reducible refine (CY.out _).mono ?_)
   rintro e wc ⟨rfl, hb⟩
   go_wp2_with fail
   refine hK.out _ _ (below_on hHeld hb) (fun hNext => ?_)
   clear hK K hHeld hb
   have hHeld := hNext; clear hNext
   (try simp only [Act.put, z1', z2', z3'])
   refine' tk9 10 rfl ?_
   refine' tk9 11 rfl ?_
   refine' tk9 12 rfl ?_
   refine wpAnyH_done (by kernel_rfl) ?_ _
   have HY9 := Lib.hid hHeld
   clear hHeld
   go_wp2
   go_ret
   exact ⟨rfl, below_on HB.out HY9.out⟩
 · have t1 : ((x.k : Int) == (y.k : Int)) = false := Mem.beq_false (by omega)
   have e1 : same x y = false := by unfold same; rw [beq_eq_false_iff_ne.2 hk, Bool.false_and]
   rw [e1]
   clear hx hy e1 CX CY
   go_enter Tryz.func39, Tryz.ntmps39
   go_wp2_with (first
    | ((with_reducible refine bxm (m := x) ?hx ?_); (case hx => rfl); intro b1 w1 h F; have HB := Lib.hid F.below; have H1 := Lib.hid h; clear h F)
    | ((with_reducible refine bxm (m := y) ?hx ?_); (case hx => rfl); intro b2 wx h F; replace H1 := Lib.hid (F.stays H1.out); have H2 := Lib.hid h; replace HB := Lib.hid (F.on HB.out); clear h F))
   refine wp_region_held_drew (S := (fun w' => Below wx.heap.size wx w')) (by kernel_rfl) (Below.refl _ _).drew (fun hHeld => ?_)
   refine' tk9 0 rfl ?_
   refine' tv9 1 rfl (by intro _ hSw; (try dsimp only at hSw); have c1 := (lay (stays H1.out hSw)).1; go_simp <;> with_reducible rfl) ?_
   refine' tk9 2 rfl ?_
   refine' tv9 3 rfl (by intro _ hSw; (try dsimp only at hSw); have c2 := (lay (stays H2.out hSw)).1; go_simp <;> with_reducible rfl) ?_
   refine' tk9 4 rfl ?_
   refine' tk9 5 rfl ?_
   refine sk9 6 rfl ?_
   refine sk9 7 rfl ?_
   refine sk9 8 rfl ?_
   refine sk9 9 rfl ?_
   refine sk9 10 rfl ?_
   refine' tk9 11 rfl ?_
   refine' tk9 12 rfl ?_
   refine wpAnyH_done (by kernel_rfl) ?_ _
   have HY9 := Lib.hid hHeld
   clear hHeld
   go_wp2
   go_ret
   exact ⟨rfl, below_on HB.out HY9.out⟩
/-- Is a command of that Kind answered by a response? -/
def hr (k : Nat) : Bool := decide (1 ≤ k) && decide (k ≤ 6)
theorem fresp (k : Nat) (w : World) : Calls Tryz.prog 60 #[.int .u8 (k : Int)] w fun e w' => e = .returned (.bool (hr k)) ∧ w = w' := by
 by_cases h1 : k = 1
 · have t1 : ((k : Int) == 1) = true := by rw [h1]; rfl
   have hh : hr k = true := by rw [h1]; rfl
   rw [hh]
   clear hh h1
   go_enter Tryz.func60, Tryz.ntmps60
   go_wp2
   go_ret
   exact ⟨rfl, rfl⟩
 have t1 : ((k : Int) == 1) = false := Mem.beq_false (by omega)
 by_cases h2 : k = 2
 · have t2 : ((k : Int) == 2) = true := by rw [h2]; rfl
   have hh : hr k = true := by rw [h2]; rfl
   rw [hh]
   clear hh h2
   go_enter Tryz.func60, Tryz.ntmps60
   go_wp2
   go_ret
   exact ⟨rfl, rfl⟩
 have t2 : ((k : Int) == 2) = false := Mem.beq_false (by omega)
 by_cases h3 : k = 3
 · have t3 : ((k : Int) == 3) = true := by rw [h3]; rfl
   have hh : hr k = true := by rw [h3]; rfl
   rw [hh]
   clear hh h3
   go_enter Tryz.func60, Tryz.ntmps60
   go_wp2
   go_ret
   exact ⟨rfl, rfl⟩
 have t3 : ((k : Int) == 3) = false := Mem.beq_false (by omega)
 by_cases h4 : k = 4
 · have t4 : ((k : Int) == 4) = true := by rw [h4]; rfl
   have hh : hr k = true := by rw [h4]; rfl
   rw [hh]
   clear hh h4
   go_enter Tryz.func60, Tryz.ntmps60
   go_wp2
   go_ret
   exact ⟨rfl, rfl⟩
 have t4 : ((k : Int) == 4) = false := Mem.beq_false (by omega)
 by_cases h5 : k = 5
 · have t5 : ((k : Int) == 5) = true := by rw [h5]; rfl
   have hh : hr k = true := by rw [h5]; rfl
   rw [hh]
   clear hh h5
   go_enter Tryz.func60, Tryz.ntmps60
   go_wp2
   go_ret
   exact ⟨rfl, rfl⟩
 have t5 : ((k : Int) == 5) = false := Mem.beq_false (by omega)
 by_cases h6 : k = 6
 · have t6 : ((k : Int) == 6) = true := by rw [h6]; rfl
   have hh : hr k = true := by rw [h6]; rfl
   rw [hh]
   clear hh h6
   go_enter Tryz.func60, Tryz.ntmps60
   go_wp2
   go_ret
   exact ⟨rfl, rfl⟩
 have t6 : ((k : Int) == 6) = false := Mem.beq_false (by omega)
 have hh : hr k = false := by
  unfold hr
  by_cases h : 1 ≤ k
  · rw [decide_eq_false (p := k ≤ 6) (by omega), Bool.and_false]
  · rw [decide_eq_false h, Bool.false_and]
 rw [hh]
 clear hh h1 h2 h3 h4 h5 h6
 go_enter Tryz.func60, Tryz.ntmps60
 go_wp2
 go_ret
 exact ⟨rfl, rfl⟩
theorem mayAsk_eq {m : Ms} (hm : m.In) : mayAsk m = ((putE m == 0) && m.c && hr m.k) := by
 rw [Bool.eq_iff_iff]
 constructor
 · intro h
   have ha := (mayAsk_iff hm).1 h
   have h1 := may_k ha.may
   have e1 : putE m = 0 := (bytes_of ha.may ha.ok.few).1
   unfold hr
   rw [e1, ha.c, decide_eq_true h1.1, decide_eq_true ha.k]; rfl
 · intro h
   simp only [Bool.and_eq_true, beq_iff_eq, hr, decide_eq_true_eq] at h
   obtain ⟨⟨h1, h2⟩, h3, h4⟩ := h
   obtain ⟨h5, h6⟩ := putE_may h1
   refine (mayAsk_iff hm).2 ⟨hm, h5, h2, h4, ?_⟩
   by_cases h7 : m.k = 5
   · have : val m = m.b := by unfold val; rw [if_neg (by omega), if_neg (by omega), if_neg (by omega), if_pos (.inl h7)]
     rw [this] at h6; exact h6
   · have := (may_of h5).2
     have hb : m.b = if m.k = 5 ∨ m.k = 8 then m.b else no := congrArg Ms.b this
     rw [if_neg (by omega)] at hb
     rw [hb]; show 0 ≤ 127; decide
set_option maxHeartbeats 2000000 in
theorem fmayAsk (m : Ms) (hm : m.In) (hb : m.b.size ≤ 281474976710656) (w : World) (ht : Tab w) : Calls Tryz.prog 36 #[mv m] w fun e w' => e = .returned (.bool (mayAsk m)) ∧ Below w.heap.size w w' := by
 have CP := fun w h => fput m hm hb w h
 have CR := Lib.hid (fun w => fresp m.k w)
 have HT := Lib.hid ht
 rw [mayAsk_eq hm]
 generalize putE m = E at CP ⊢
 generalize putS m = S at CP
 generalize hr m.k = h at CR ⊢
 have CP := Lib.hid CP
 clear hm hb ht
 by_cases h0 : E = 0
 · have t1 : ((E : Int) == 0) = true := by rw [h0]; rfl
   have e1 : (E == 0) = true := by rw [h0]; rfl
   rw [e1, Bool.true_and]
   clear h0 e1
   cases hc : m.c with
   | true =>
    rw [Bool.true_and]
    go_enter Tryz.func36, Tryz.ntmps36
    go_wp2_with (first
    | ((with_reducible refine bxm (m := m) ?hx ?_); (case hx => rfl); intro b1 w1 h F; have HB := Lib.hid F.below; have H1 := Lib.hid h; have HT1 := Lib.hid (tab_below HT.out F.below); clear h F)
    | ((with_reducible refine ldm isM H1.out ?hx ?_); (case hx => rfl))
    | (go_at_call 24; ((with_reducible refine (CP.out _ HT1.out).mono ?_); rintro e w2 ⟨rfl, hb⟩; have H3 := Lib.hid (stays H1.out hb); have HB2 := Lib.hid (below_on HB.out hb); obtain ⟨c0, c1, c2, c3, c4, c5⟩ := lay H3.out; clear hb))
    | (go_at_call 60; ((with_reducible refine (CR.out _).mono ?_); rintro e w3 ⟨rfl, rfl⟩; skip)))
    go_ret
    exact ⟨rfl, HB2.out⟩
   | false =>
    rw [Bool.false_and]
    go_enter Tryz.func36, Tryz.ntmps36
    go_wp2_with (first
    | ((with_reducible refine bxm (m := m) ?hx ?_); (case hx => rfl); intro b1 w1 h F; have HB := Lib.hid F.below; have H1 := Lib.hid h; have HT1 := Lib.hid (tab_below HT.out F.below); clear h F)
    | ((with_reducible refine ldm isM H1.out ?hx ?_); (case hx => rfl))
    | (go_at_call 24; ((with_reducible refine (CP.out _ HT1.out).mono ?_); rintro e w2 ⟨rfl, hb⟩; have H3 := Lib.hid (stays H1.out hb); have HB2 := Lib.hid (below_on HB.out hb); obtain ⟨c0, c1, c2, c3, c4, c5⟩ := lay H3.out; clear hb))
    | (go_at_call 60; ((with_reducible refine (CR.out _).mono ?_); rintro e w3 ⟨rfl, rfl⟩; skip)))
    go_ret
    exact ⟨rfl, HB2.out⟩
 · have t1 : ((E : Int) == 0) = false := Mem.beq_false (by omega)
   have e1 : (E == 0) = false := beq_eq_false_iff_ne.2 h0
   rw [e1, Bool.false_and, Bool.false_and]
   clear h0 e1
   go_enter Tryz.func36, Tryz.ntmps36
   go_wp2_with (first
    | ((with_reducible refine bxm (m := m) ?hx ?_); (case hx => rfl); intro b1 w1 h F; have HB := Lib.hid F.below; have H1 := Lib.hid h; have HT1 := Lib.hid (tab_below HT.out F.below); clear h F)
    | ((with_reducible refine ldm isM H1.out ?hx ?_); (case hx => rfl))
    | (go_at_call 24; ((with_reducible refine (CP.out _ HT1.out).mono ?_); rintro e w2 ⟨rfl, hb⟩; have H3 := Lib.hid (stays H1.out hb); have HB2 := Lib.hid (below_on HB.out hb); obtain ⟨c0, c1, c2, c3, c4, c5⟩ := lay H3.out; clear hb))
    | (go_at_call 60; ((with_reducible refine (CR.out _).mono ?_); rintro e w3 ⟨rfl, rfl⟩; skip)))
   go_ret
   exact ⟨rfl, HB2.out⟩
abbrev kv (y : Wt) : Value := .agg (kc y)
theorem lay_k {w : World} {b : Nat} {y : Wt} {t : TypeId} (h : w.heap[b]? = some (.cells (kc y) t (0, 0))) : w.cell? ⟨b, 20, none⟩ = some (nm y.tr) ∧ w.cell? ⟨b, 21, none⟩ = some (nm y.lf) := ⟨cell_of h rfl, cell_of h rfl⟩
theorem kz_row {w : World} {b : Nat} {y : Wt} {t : TypeId} (h : w.heap[b]? = some (.cells (kc y) t (0, 0))) : w.rangeAt b 0 (kl y) := fun j v hv => by
 rw [Nat.zero_add]
 have hj := (List.getElem?_eq_some_iff.1 hv)
 refine (cell_of h (v := v) ?_)
 unfold kc; rw [List.getElem?_toArray]; exact hv
theorem kz_m {w : World} {b : Nat} {y : Wt} {t : TypeId} (h : w.heap[b]? = some (.cells (kc y) t (0, 0))) : w.rangeAt b 0 (ml y.m) := fun j v hv => kz_row h j v (by
 unfold kl
 rw [List.getElem?_append_left (List.getElem?_eq_some_iff.1 hv).1]; exact hv)
theorem fdue (y : Wt) (w : World) : Calls Tryz.prog 35 #[kv y] w fun e w' => e = .returned (.bool (y.lf == 0)) ∧ Below w.heap.size w w' := by
 have e1 : ((y.lf : Int) == 0) = (y.lf == 0) := nn_beq y.lf 0
 generalize (y.lf == 0) = q at e1 ⊢
 go_enter Tryz.func35, Tryz.ntmps35
 go_wp2_with ((with_reducible refine bxz (kc y) ?hx ?_); (case hx => rfl); intro b w1 h F; have HB := Lib.hid F.below; obtain ⟨d0, d1⟩ := lay_k h; clear h F)
 go_ret
 exact ⟨rfl, HB.out⟩
theorem fsaid (y : Wt) (w : World) : Calls Tryz.prog 87 #[kv y] w fun e w' => e = .returned (.bool (decide (0 < y.lf) || decide (0 < y.tr))) ∧ Below w.heap.size w w' := by
 by_cases h1 : 0 < y.lf
 · rw [decide_eq_true h1, Bool.true_or]
   have t1 : decide ((0 : Int) < (y.lf : Int)) = true := decide_eq_true (by omega)
   have t2 : (0 : Int) < (y.lf : Int) := by omega
   go_enter Tryz.func87, Tryz.ntmps87
   go_wp2_with ((with_reducible refine bxz (kc y) ?hx ?_); (case hx => rfl); intro b w1 h F; have HB := Lib.hid F.below; obtain ⟨d0, d1⟩ := lay_k h; clear h F)
   go_ret
   exact ⟨rfl, HB.out⟩
 · rw [decide_eq_false h1, Bool.false_or]
   have t1 : decide ((0 : Int) < (y.lf : Int)) = false := decide_eq_false (by omega)
   have t2 : ¬ (0 : Int) < (y.lf : Int) := by omega
   obtain ⟨q, hq⟩ : ∃ q, decide (0 < y.tr) = q := ⟨_, rfl⟩
   rw [hq]
   have u1 : decide ((0 : Int) < (y.tr : Int)) = q := by rw [← hq, decide_eq_decide]; omega
   clear hq
   go_enter Tryz.func87, Tryz.ntmps87
   go_wp2_with ((with_reducible refine bxz (kc y) ?hx ?_); (case hx => rfl); intro b w1 h F; have HB := Lib.hid F.below; obtain ⟨d0, d1⟩ := lay_k h; clear h F)
   all_goals (go_ret; exact ⟨by first | rfl | simp_all, HB.out⟩)
/-- What a response says, of one of its Kind and channel. -/
def ans (r m : Ms) : Bool := if r.k = 1 then Pn.lowers r.p m.p else if r.k = 2 then Msc.eqS r.s m.s else if r.k = 5 then r.b.toList == m.b.toList else true
set_option maxHeartbeats 4000000 in
theorem fanswers (x y : Ms) (w : World) : Calls Tryz.prog 111 #[mv x, mv y] w fun e w' => e = .returned (.bool (ans x y)) ∧ Below w.heap.size w w' := by
 have cl := fun w => Pn.flowers x.p y.p w
 by_cases k1 : x.k = 1
 · have t1 : ((x.k : Int) == 1) = true := by rw [k1]; rfl
   have e1 : ans x y = Pn.lowers x.p y.p := by unfold ans; rw [if_pos k1]
   rw [e1]
   generalize Pn.lowers x.p y.p = v at cl ⊢
   have CL := Lib.hid cl
   clear cl e1 k1
   go_enter Tryz.func111, Tryz.ntmps111
   go_wp2_with (first
    | ((with_reducible refine bxm (m := x) ?hx ?_); (case hx => rfl); intro b1 w1 h F; have HB := Lib.hid F.below; have H1 := Lib.hid h; obtain ⟨c0, c1, c2, c3, c4, c5⟩ := lay h; clear h F)
    | ((with_reducible refine bxm (m := y) ?hx ?_); (case hx => rfl); intro b2 wx h F; replace H1 := Lib.hid (F.stays H1.out); have H2 := Lib.hid h; replace HB := Lib.hid (F.on HB.out); clear c0 c1 c2 c3 c4 c5; obtain ⟨c0, c1, c2, c3, c4, c5⟩ := lay H1.out; clear h F)
    | (go_at_call 121; ((with_reducible refine (CL.out _).mono ?_); rintro e w4 ⟨rfl, hb⟩; replace HB := Lib.hid (below_on HB.out hb); clear hb))
    | ((with_reducible refine ldp isP H1.out ?hx ?_); (case hx => rfl))
    | ((with_reducible refine ldp isP H2.out ?hx ?_); (case hx => rfl)))
   go_ret
   exact ⟨rfl, HB.out⟩
 have t1 : ((x.k : Int) == 1) = false := Mem.beq_false (by omega)
 clear cl
 by_cases k2 : x.k = 2
 · have t2 : ((x.k : Int) == 2) = true := by rw [k2]; rfl
   have e1 : ans x y = Msc.eqS x.s y.s := by unfold ans; rw [if_neg k1, if_pos k2]
   rw [e1]
   have q1 := fun w => Msc.run_eqS x.s y.s w
   generalize Msc.eqS x.s y.s = v at q1 ⊢
   clear e1 k1 k2
   go_enter Tryz.func111, Tryz.ntmps111
   go_wp2_with (first
    | ((with_reducible refine bxm (m := x) ?hx ?_); (case hx => rfl); intro b1 w1 h F; have HB := Lib.hid F.below; have H1 := Lib.hid h; obtain ⟨c0, c1, c2, c3, c4, c5⟩ := lay h; clear h F)
    | ((with_reducible refine bxm (m := y) ?hx ?_); (case hx => rfl); intro b2 wx h F; replace H1 := Lib.hid (F.stays H1.out); have H2 := Lib.hid h; replace HB := Lib.hid (F.on HB.out); clear c0 c1 c2 c3 c4 c5; obtain ⟨c0, c1, c2, c3, c4, c5⟩ := lay H1.out; clear h F)
    | ((with_reducible refine lds isS H1.out ?hx ?_); (case hx => rfl))
    | ((with_reducible refine lds isS H2.out ?hx ?_); (case hx => rfl)))
   go_ret
   exact ⟨rfl, HB.out⟩
 have t2 : ((x.k : Int) == 2) = false := Mem.beq_false (by omega)
 by_cases k5 : x.k = 5
 · have t5 : ((x.k : Int) == 5) = true := by rw [k5]; rfl
   have e1 : ans x y = (x.b.toList == y.b.toList) := by unfold ans; rw [if_neg k1, if_neg k2, if_pos k5]
   rw [e1]
   obtain ⟨q, hq⟩ : ∃ q, (x.b.toList == y.b.toList) = q := ⟨_, rfl⟩
   rw [hq]
   clear e1 k1 k2 k5
   go_enter Tryz.func111, Tryz.ntmps111
   go_wp2_with (first
    | ((with_reducible refine bxm (m := x) ?hx ?_); (case hx => rfl); intro b1 w1 h F; have HB := Lib.hid F.below; have H1 := Lib.hid h; obtain ⟨c0, c1, c2, c3, c4, c5⟩ := lay h; clear h F)
    | ((with_reducible refine bxm (m := y) ?hx ?_); (case hx => rfl); intro b2 wx h F; replace H1 := Lib.hid (F.stays H1.out); have H2 := Lib.hid h; replace HB := Lib.hid (F.on HB.out); clear c0 c1 c2 c3 c4 c5; obtain ⟨c0, c1, c2, c3, c4, c5⟩ := lay H1.out; obtain ⟨d0, d1, d2, d3, d4, d5⟩ := lay h; clear h F))
   all_goals (go_ret; exact ⟨by first | rfl | (rw [hq]) | simp_all, HB.out⟩)
 have t5 : ((x.k : Int) == 5) = false := Mem.beq_false (by omega)
 have e1 : ans x y = true := by unfold ans; rw [if_neg k1, if_neg k2, if_neg k5]
 rw [e1]
 clear e1 k1 k2 k5
 go_enter Tryz.func111, Tryz.ntmps111
 go_wp2_with (first
  | ((with_reducible refine bxm (m := x) ?hx ?_); (case hx => rfl); intro b1 w1 h F; have HB := Lib.hid F.below; have H1 := Lib.hid h; obtain ⟨c0, c1, c2, c3, c4, c5⟩ := lay h; clear h F)
  | ((with_reducible refine bxm (m := y) ?hx ?_); (case hx => rfl); intro b2 wx h F; replace H1 := Lib.hid (F.stays H1.out); have H2 := Lib.hid h; replace HB := Lib.hid (F.on HB.out); clear c0 c1 c2 c3 c4 c5; obtain ⟨c0, c1, c2, c3, c4, c5⟩ := lay H1.out; clear h F))
 go_ret
 exact ⟨rfl, HB.out⟩
end Go.Proofs.YtakkhdammmcjcaaGreatDoor.Ctl
namespace Go.Proofs.YtakkhdammmcjcaaGreatDoor.Ctl
open Go.RowKit Base Mem Msgs Cr
set_option maxRecDepth 100000
section
variable {ops : Array Oper} {rest : List Oper} {a : Act} {Q : Exit → Act → World → Prop} {d : Option Tmp} {x y : Operand} {ty : TypeId} {pos : String} {af : Array Edge} {w : World} {m : Ms} {T : Nat}
/-- A guarded load of a message that is wanted, from wherever it lies. -/
theorem ldrg {g : Option (Nat × Bool)} {b o : Nat} (hT : IsRow T 20) (h : w.rangeAt b o (ml m)) (hg : Region.wanted { dst := d, op := .load T x, type := ty, pos := pos, after := af, guard := g } (yielded ops a.tmps) = true) (hx : a.eval x = .pointer (some ⟨b, o, none⟩)) (k : wpList Tryz.prog ops Q rest (a.put d (mv m)) w) :
 wpList Tryz.prog ops Q ({ dst := d, op := .load T x, type := ty, pos := pos, after := af, guard := g } :: rest) a w :=
 wpList_step fun K hK => by
  rw [if_pos hg]
  obtain ⟨fs, hu⟩ := hT.under
  exact wp_load_mid T x rfl b o hx _ _ h hu rfl hT.size (by rw [ml_arr]; exact hK _ _ k)
end
theorem lt_cell {w : World} {b i : Nat} {v : Value} (h : w.cell? ⟨b, i, none⟩ = some v) : b < w.heap.size := World.block_lt_of_cell? w ⟨b, i, none⟩ h
section
variable {w : World} {br bm bf : Nat} {r m : Ms} {y : Ms}
set_option maxHeartbeats 2000000 in
theorem fmean1 (hy : y.In) (hr : w.heap[br]? = some (mO r MT)) (ht : Tab w) : Calls Tryz.prog 109 #[mv y, ptr br] w fun e w' => e = .returned (.bool (oct y == r.t)) ∧ Below w.heap.size w w' := by
 have CO := fun w h => foctet y hy w h
 have e2 := nn_beq (oct y) r.t
 have HR := Lib.hid hr
 have HT := Lib.hid ht
 generalize oct y = o at CO e2 ⊢
 generalize (o == r.t) = q at e2 ⊢
 have CO := Lib.hid CO
 clear hy hr ht
 go_enter Tryz.func109, Tryz.ntmps109
 go_wp2_with ((with_reducible refine bxm (m := y) ?hx ?_); (case hx => rfl); intro b2 wx h F; have HR2 := Lib.hid (F.stays HR.out); have H2 := Lib.hid h; have HB := Lib.hid F.below; have HTX := Lib.hid (tab_below HT.out F.below); clear h F)
 refine wp_region_held_drew (S := (fun w' => Below wx.heap.size wx w')) (by kernel_rfl) (Below.refl _ _).drew (fun hHeld => ?_)
 refine' tv9 0 rfl (by intro _ hSw; (try dsimp only at hSw); refine ex_ld isM (stays H2.out hSw) ?_; rfl) ?_
 refine' tk9 2 rfl ?_
 refine' tv9 3 rfl (by intro _ hSw; (try dsimp only at hSw); have c3 := (lay (stays HR2.out hSw)).2.2.2.2.1; go_simp <;> with_reducible rfl) ?_
 refine ry [1] (.cons rfl (fun K hK => ?_) .nil)
 go_simp
 (with_reducible refine (CO.out _ (tab_below HTX.out hHeld)).mono ?_)
 rintro e wc ⟨rfl, hb⟩
 go_wp2_with fail
 refine hK.out _ _ (below_on hHeld hb) (fun hNext => ?_)
 clear hK K hHeld hb
 have hHeld := hNext; clear hNext
 (try simp only [Act.put, z1', z2', z3'])
 refine' tk9 4 rfl ?_
 refine' tk9 5 rfl ?_
 refine wpAnyH_done (by kernel_rfl) ?_ _
 have HY9 := Lib.hid hHeld
 clear hHeld
 go_wp2
 go_ret
 exact ⟨rfl, below_on HB.out HY9.out⟩
set_option maxHeartbeats 2000000 in
theorem fmean2 (hy : y.In) (hri : r.In) (hr : w.heap[br]? = some (mO r MT)) : Calls Tryz.prog 110 #[mv y, ptr br] w fun e w' => e = .returned (.bool (same y r && ans r y)) ∧ Below w.heap.size w w' := by
 have cs := fun w => fsame y r hy hri w
 have CA := Lib.hid (fun w => fanswers r y w)
 have HR := Lib.hid hr
 generalize ans r y = q at CA ⊢
 clear hy hri hr
 cases hs : same y r with
 | true =>
  rw [hs] at cs
  have CS := Lib.hid cs
  rw [Bool.true_and]
  clear hs cs
  go_enter Tryz.func110, Tryz.ntmps110
  go_wp2_with (first
   | ((with_reducible refine bxm (m := y) ?hx ?_); (case hx => rfl); intro b2 wx h F; have HR2 := Lib.hid (F.stays HR.out); have H2 := Lib.hid h; have HB := Lib.hid F.below; clear h F)
   | ((with_reducible refine ldm isM H2.out ?hx ?_); (case hx => rfl))
   | ((with_reducible refine ldm isM HR2.out ?hx ?_); (case hx => rfl))
   | (go_at_call 39; ((with_reducible refine (CS.out _).mono ?_); rintro e w3 ⟨rfl, hb⟩; replace H2 := Lib.hid (stays H2.out hb); replace HR2 := Lib.hid (stays HR2.out hb); replace HB := Lib.hid (below_on HB.out hb); clear hb))
   | ((with_reducible refine ldmg isM HR2.out ?hg ?hx ?_); (case hg => rfl); (case hx => rfl))
   | ((with_reducible refine ldmg isM H2.out ?hg ?hx ?_); (case hg => rfl); (case hx => rfl))
   | (go_at_call 111; ((with_reducible refine (CA.out _).mono ?_); rintro e w4 ⟨rfl, hb⟩; replace HB := Lib.hid (below_on HB.out hb); clear hb)))
  go_ret
  exact ⟨rfl, HB.out⟩
 | false =>
  rw [hs] at cs
  have CS := Lib.hid cs
  rw [Bool.false_and]
  clear hs cs
  go_enter Tryz.func110, Tryz.ntmps110
  go_wp2_with (first
   | ((with_reducible refine bxm (m := y) ?hx ?_); (case hx => rfl); intro b2 wx h F; have HR2 := Lib.hid (F.stays HR.out); have H2 := Lib.hid h; have HB := Lib.hid F.below; clear h F)
   | ((with_reducible refine ldm isM H2.out ?hx ?_); (case hx => rfl))
   | ((with_reducible refine ldm isM HR2.out ?hx ?_); (case hx => rfl))
   | (go_at_call 39; ((with_reducible refine (CS.out _).mono ?_); rintro e w3 ⟨rfl, hb⟩; replace H2 := Lib.hid (stays H2.out hb); replace HR2 := Lib.hid (stays HR2.out hb); replace HB := Lib.hid (below_on HB.out hb); clear hb))
   | ((with_reducible refine ldmg isM HR2.out ?hg ?hx ?_); (case hg => rfl); (case hx => rfl))
   | ((with_reducible refine ldmg isM H2.out ?hg ?hx ?_); (case hg => rfl); (case hx => rfl))
   | (go_at_call 111; ((with_reducible refine (CA.out _).mono ?_); rintro e w4 ⟨rfl, hb⟩; replace HB := Lib.hid (below_on HB.out hb); clear hb)))
  go_ret
  exact ⟨rfl, HB.out⟩
end
section
variable {w : World} {br bm bf : Nat} {r m : Ms} {y : Wt}
theorem fask1 (hy : y.m.In) (hm : m.In) (h : w.heap[bm]? = some (mO m MT)) : Calls Tryz.prog 38 #[kv y, ptr bm] w fun e w' => e = .returned (.bool (same y.m m)) ∧ Below w.heap.size w w' := by
 have CS := Lib.hid (fun w => fsame y.m m hy hm w)
 have HM := Lib.hid h
 generalize same y.m m = q at CS ⊢
 clear hy hm h
 go_enter Tryz.func38, Tryz.ntmps38
 go_wp2_with (first
  | ((with_reducible refine bxz (kc y) ?hx ?_); (case hx => rfl); intro b2 wx h F; have HB := Lib.hid F.below; have HK := Lib.hid h; have HM2 := Lib.hid (F.stays HM.out); clear h F)
  | ((with_reducible refine ldr isM (kz_m HK.out) ?hx ?_); (case hx => rfl))
  | ((with_reducible refine ldm isM HM2.out ?hx ?_); (case hx => rfl))
  | (go_at_call 39; ((with_reducible refine (CS.out _).mono ?_); rintro e w3 ⟨rfl, hb⟩; replace HB := Lib.hid (below_on HB.out hb); clear hb)))
 go_ret
 exact ⟨rfl, HB.out⟩
def said (y : Wt) : Bool := decide (0 < y.lf) || decide (0 < y.tr)
abbrev fM1 (br : Nat) : Value := .func (.func 109) #[] #[ptr br]
abbrev fM2 (br : Nat) : Value := .func (.func 110) #[] #[ptr br]
set_option maxHeartbeats 2000000 in
theorem fhr1 (hy : y.m.In) (hc : w.cell? ⟨bf, 0, none⟩ = some (fM1 br)) (hm : w.heap[br]? = some (mO r MT)) (ht : Tab w) : Calls Tryz.prog 86 #[kv y, ptr bf] w fun e w' => e = .returned (.bool (said y && (oct y.m == r.t))) ∧ Below w.heap.size w w' := by
 have cw := fun w => fsaid y w
 have CM := Lib.hid (fun (w : World) h ht => fmean1 (w := w) (br := br) (r := r) hy h ht)
 have HC := Lib.hid hc
 have HM := Lib.hid hm
 have HT := Lib.hid ht
 have hbf := Lib.hid (lt_cell hc)
 generalize (oct y.m == r.t) = q at CM ⊢
 unfold said
 clear hy hc hm ht
 cases hs : (decide (0 < y.lf) || decide (0 < y.tr)) with
 | true =>
  rw [hs] at cw
  have CW := Lib.hid cw
  rw [Bool.true_and]
  clear hs cw
  go_enter Tryz.func86, Tryz.ntmps86
  go_wp2_with (first
   | ((with_reducible refine bxz (kc y) ?hx ?_); (case hx => rfl); intro b2 wx h F; have HB := Lib.hid F.below; have HK := Lib.hid h; have HM2 := Lib.hid (F.stays HM.out); have HC2 := Lib.hid ((F.below.cell (p := ⟨bf, 0, none⟩) hbf.out).trans HC.out); have HT2 := Lib.hid (tab_below HT.out F.below); clear h F)
   | ((with_reducible refine ldz isK (kz_row HK.out) ?hz ?hx ?_); (case hz => rfl); (case hx => rfl))
   | (go_at_call 87; ((with_reducible refine (CW.out _).mono ?_); rintro e w3 ⟨rfl, hb⟩; replace HB := Lib.hid (below_on HB.out hb); replace HK := Lib.hid (stays HK.out hb); replace HM2 := Lib.hid (stays HM2.out hb); have c0 := (hb.cell (p := ⟨bf, 0, none⟩) (lt_cell HC2.out)).trans HC2.out; replace HT2 := Lib.hid (tab_below HT2.out hb); clear hb))
   | ((with_reducible refine ldrg (m := y.m) isM (kz_m HK.out) ?hg ?hx ?_); (case hg => rfl); (case hx => rfl))
   | (go_at_call 109; ((with_reducible refine (CM.out _ HM2.out HT2.out).mono ?_); rintro e w4 ⟨rfl, hb⟩; replace HB := Lib.hid (below_on HB.out hb); clear hb)))
  go_ret
  exact ⟨rfl, HB.out⟩
 | false =>
  rw [hs] at cw
  have CW := Lib.hid cw
  rw [Bool.false_and]
  clear hs cw
  go_enter Tryz.func86, Tryz.ntmps86
  go_wp2_with (first
   | ((with_reducible refine bxz (kc y) ?hx ?_); (case hx => rfl); intro b2 wx h F; have HB := Lib.hid F.below; have HK := Lib.hid h; have HM2 := Lib.hid (F.stays HM.out); have HC2 := Lib.hid ((F.below.cell (p := ⟨bf, 0, none⟩) hbf.out).trans HC.out); have HT2 := Lib.hid (tab_below HT.out F.below); clear h F)
   | ((with_reducible refine ldz isK (kz_row HK.out) ?hz ?hx ?_); (case hz => rfl); (case hx => rfl))
   | (go_at_call 87; ((with_reducible refine (CW.out _).mono ?_); rintro e w3 ⟨rfl, hb⟩; replace HB := Lib.hid (below_on HB.out hb); replace HK := Lib.hid (stays HK.out hb); replace HM2 := Lib.hid (stays HM2.out hb); have c0 := (hb.cell (p := ⟨bf, 0, none⟩) (lt_cell HC2.out)).trans HC2.out; replace HT2 := Lib.hid (tab_below HT2.out hb); clear hb))
   | ((with_reducible refine ldrg (m := y.m) isM (kz_m HK.out) ?hg ?hx ?_); (case hg => rfl); (case hx => rfl))
   | (go_at_call 109; ((with_reducible refine (CM.out _ HM2.out HT2.out).mono ?_); rintro e w4 ⟨rfl, hb⟩; replace HB := Lib.hid (below_on HB.out hb); clear hb)))
  go_ret
  exact ⟨rfl, HB.out⟩
set_option maxHeartbeats 2000000 in
theorem fhr2 (hy : y.m.In) (hri : r.In) (hc : w.cell? ⟨bf, 0, none⟩ = some (fM2 br)) (hm : w.heap[br]? = some (mO r MT)) : Calls Tryz.prog 86 #[kv y, ptr bf] w fun e w' => e = .returned (.bool (said y && (same y.m r && ans r y.m))) ∧ Below w.heap.size w w' := by
 have cw := fun w => fsaid y w
 have CM := Lib.hid (fun (w : World) h => fmean2 (w := w) (br := br) (r := r) hy hri h)
 have HC := Lib.hid hc
 have HM := Lib.hid hm
 have hbf := Lib.hid (lt_cell hc)
 generalize (same y.m r && ans r y.m) = q at CM ⊢
 unfold said
 clear hy hc hm hri
 cases hs : (decide (0 < y.lf) || decide (0 < y.tr)) with
 | true =>
  rw [hs] at cw
  have CW := Lib.hid cw
  rw [Bool.true_and]
  clear hs cw
  go_enter Tryz.func86, Tryz.ntmps86
  go_wp2_with (first
   | ((with_reducible refine bxz (kc y) ?hx ?_); (case hx => rfl); intro b2 wx h F; have HB := Lib.hid F.below; have HK := Lib.hid h; have HM2 := Lib.hid (F.stays HM.out); have HC2 := Lib.hid ((F.below.cell (p := ⟨bf, 0, none⟩) hbf.out).trans HC.out); clear h F)
   | ((with_reducible refine ldz isK (kz_row HK.out) ?hz ?hx ?_); (case hz => rfl); (case hx => rfl))
   | (go_at_call 87; ((with_reducible refine (CW.out _).mono ?_); rintro e w3 ⟨rfl, hb⟩; replace HB := Lib.hid (below_on HB.out hb); replace HK := Lib.hid (stays HK.out hb); replace HM2 := Lib.hid (stays HM2.out hb); have c0 := (hb.cell (p := ⟨bf, 0, none⟩) (lt_cell HC2.out)).trans HC2.out; clear hb))
   | ((with_reducible refine ldrg (m := y.m) isM (kz_m HK.out) ?hg ?hx ?_); (case hg => rfl); (case hx => rfl))
   | (go_at_call 110; ((with_reducible refine (CM.out _ HM2.out).mono ?_); rintro e w4 ⟨rfl, hb⟩; replace HB := Lib.hid (below_on HB.out hb); clear hb)))
  go_ret
  exact ⟨rfl, HB.out⟩
 | false =>
  rw [hs] at cw
  have CW := Lib.hid cw
  rw [Bool.false_and]
  clear hs cw
  go_enter Tryz.func86, Tryz.ntmps86
  go_wp2_with (first
   | ((with_reducible refine bxz (kc y) ?hx ?_); (case hx => rfl); intro b2 wx h F; have HB := Lib.hid F.below; have HK := Lib.hid h; have HM2 := Lib.hid (F.stays HM.out); have HC2 := Lib.hid ((F.below.cell (p := ⟨bf, 0, none⟩) hbf.out).trans HC.out); clear h F)
   | ((with_reducible refine ldz isK (kz_row HK.out) ?hz ?hx ?_); (case hz => rfl); (case hx => rfl))
   | (go_at_call 87; ((with_reducible refine (CW.out _).mono ?_); rintro e w3 ⟨rfl, hb⟩; replace HB := Lib.hid (below_on HB.out hb); replace HK := Lib.hid (stays HK.out hb); replace HM2 := Lib.hid (stays HM2.out hb); have c0 := (hb.cell (p := ⟨bf, 0, none⟩) (lt_cell HC2.out)).trans HC2.out; clear hb))
   | ((with_reducible refine ldrg (m := y.m) isM (kz_m HK.out) ?hg ?hx ?_); (case hg => rfl); (case hx => rfl))
   | (go_at_call 110; ((with_reducible refine (CM.out _ HM2.out).mono ?_); rintro e w4 ⟨rfl, hb⟩; replace HB := Lib.hid (below_on HB.out hb); clear hb)))
  go_ret
  exact ⟨rfl, HB.out⟩
end
theorem fmeaning1 (r : Ms) (hk : r.k = 7) (w : World) : Calls Tryz.prog 85 #[mv r] w fun e w' => ∃ b, e = .returned (fM1 b) ∧ w'.heap[b]? = some (mO r MT) ∧ Below w.heap.size w w' := by
 have t1 : ((r.k : Int) == 7) = true := by rw [hk]; rfl
 clear hk
 go_enter Tryz.func85, Tryz.ntmps85
 go_wp2_with ((with_reducible refine bxm (m := r) ?hx ?_); (case hx => rfl); intro b2 wx h F; have H2 := Lib.hid h; have HB := Lib.hid F.below; obtain ⟨c0, c1, c2, c3, c4, c5⟩ := lay h; clear h F)
 go_ret
 exact ⟨b2, rfl, H2.out, HB.out⟩
theorem fmeaning2 (r : Ms) (hk : r.k ≠ 7) (w : World) : Calls Tryz.prog 85 #[mv r] w fun e w' => ∃ b, e = .returned (fM2 b) ∧ w'.heap[b]? = some (mO r MT) ∧ Below w.heap.size w w' := by
 have t1 : ((r.k : Int) == 7) = false := Mem.beq_false (by omega)
 clear hk
 go_enter Tryz.func85, Tryz.ntmps85
 go_wp2_with ((with_reducible refine bxm (m := r) ?hx ?_); (case hx => rfl); intro b2 wx h F; have H2 := Lib.hid h; have HB := Lib.hid F.below; obtain ⟨c0, c1, c2, c3, c4, c5⟩ := lay h; clear h F)
 go_ret
 exact ⟨b2, rfl, H2.out, HB.out⟩
end Go.Proofs.YtakkhdammmcjcaaGreatDoor.Ctl
