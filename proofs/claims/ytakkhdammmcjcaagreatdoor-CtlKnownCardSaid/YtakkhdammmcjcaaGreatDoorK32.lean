/-
  Layer 22, put together: CtlLaws, CtlSame, Pick. Conditions: as each theorem names them.
-/
import Derived.Test.YtakkhdammmcjcaaGreatDoorK31
import Derived.Test.YtakkhdammmcjcaaGreatDoorK01
import Derived.Test.YtakkhdammmcjcaaGreatDoorK30
import Derived.Test.YtakkhdammmcjcaaGreatDoorChecked
import Derived.Lib.Hide
namespace Go.Proofs.YtakkhdammmcjcaaGreatDoor.Ctl
open Go.RowKit Base Mem Msgs Cr
set_option maxRecDepth 100000
set_option maxHeartbeats 2000000 in
theorem lmay (m : Ms) (hm : m.In) (w : World) (ht : Tab w) : Calls Tryz.prog 19 #[mv m] w fun e w' => e = .returned (.bool (mayAsk m)) ∧ Below w.heap.size w w' := by
 have cm := fun w ht => fmay m hm w ht
 have HT := Lib.hid ht
 unfold mayAsk
 clear ht
 cases h1 : may m with
 | false =>
  rw [h1] at cm
  have CM := Lib.hid cm
  rw [Bool.false_and, Bool.false_and, Bool.false_and]
  clear cm h1
  go_enter Tryz.func19, Tryz.ntmps19
  go_wp2_with (first
   | ((with_reducible refine bxm (m := m) ?hx ?_); (case hx => rfl); intro b1 w1 h F; have H1 := Lib.hid h; have HB := Lib.hid F.below; have HT1 := Lib.hid (tab_below HT.out F.below); clear h F)
   | ((with_reducible refine ldm isM H1.out ?hx ?_); (case hx => rfl))
   | (go_at_call 41; ((with_reducible refine (CM.out _ HT1.out).mono ?_); rintro e w2 ⟨rfl, hb⟩; have H2 := Lib.hid (stays H1.out hb); have HB2 := Lib.hid (below_on HB.out hb); obtain ⟨c0, c1, c2, c3, c4, c5⟩ := lay H2.out; clear hb)))
  go_ret
  exact ⟨rfl, HB2.out⟩
 | true =>
  rw [h1] at cm
  have CM := Lib.hid cm
  rw [Bool.true_and]
  clear cm h1
  cases h2 : m.c with
  | false =>
   rw [Bool.false_and, Bool.false_and]
   go_enter Tryz.func19, Tryz.ntmps19
   go_wp2_with (first
    | ((with_reducible refine bxm (m := m) ?hx ?_); (case hx => rfl); intro b1 w1 h F; have H1 := Lib.hid h; have HB := Lib.hid F.below; have HT1 := Lib.hid (tab_below HT.out F.below); clear h F)
    | ((with_reducible refine ldm isM H1.out ?hx ?_); (case hx => rfl))
    | (go_at_call 41; ((with_reducible refine (CM.out _ HT1.out).mono ?_); rintro e w2 ⟨rfl, hb⟩; have H2 := Lib.hid (stays H1.out hb); have HB2 := Lib.hid (below_on HB.out hb); obtain ⟨c0, c1, c2, c3, c4, c5⟩ := lay H2.out; clear hb)))
   go_ret
   exact ⟨rfl, HB2.out⟩
  | true =>
   rw [Bool.true_and]
   by_cases h3 : m.k ≤ 6
   · have t1 : decide ((m.k : Int) ≤ 6) = true := decide_eq_true (by omega)
     have t2 : (m.k : Int) ≤ 6 := by omega
     rw [decide_eq_true h3, Bool.true_and]
     obtain ⟨q, hq⟩ : ∃ q, decide (m.b.size ≤ 127) = q := ⟨_, rfl⟩
     have u1 : decide ((m.b.size : Int) ≤ 127) = q := by rw [← hq, decide_eq_decide]; omega
     rw [hq]
     clear h3 hq
     go_enter Tryz.func19, Tryz.ntmps19
     go_wp2_with (first
      | ((with_reducible refine bxm (m := m) ?hx ?_); (case hx => rfl); intro b1 w1 h F; have H1 := Lib.hid h; have HB := Lib.hid F.below; have HT1 := Lib.hid (tab_below HT.out F.below); clear h F)
      | ((with_reducible refine ldm isM H1.out ?hx ?_); (case hx => rfl))
      | (go_at_call 41; ((with_reducible refine (CM.out _ HT1.out).mono ?_); rintro e w2 ⟨rfl, hb⟩; have H2 := Lib.hid (stays H1.out hb); have HB2 := Lib.hid (below_on HB.out hb); obtain ⟨c0, c1, c2, c3, c4, c5⟩ := lay H2.out; clear hb)))
     all_goals (go_ret; exact ⟨by first | rfl | (rw [u1]) | simp_all, HB2.out⟩)
   · have t1 : decide ((m.k : Int) ≤ 6) = false := decide_eq_false (by omega)
     have t2 : ¬ (m.k : Int) ≤ 6 := by omega
     rw [decide_eq_false h3, Bool.false_and]
     clear h3
     go_enter Tryz.func19, Tryz.ntmps19
     go_wp2_with (first
      | ((with_reducible refine bxm (m := m) ?hx ?_); (case hx => rfl); intro b1 w1 h F; have H1 := Lib.hid h; have HB := Lib.hid F.below; have HT1 := Lib.hid (tab_below HT.out F.below); clear h F)
      | ((with_reducible refine ldm isM H1.out ?hx ?_); (case hx => rfl))
      | (go_at_call 41; ((with_reducible refine (CM.out _ HT1.out).mono ?_); rintro e w2 ⟨rfl, hb⟩; have H2 := Lib.hid (stays H1.out hb); have HB2 := Lib.hid (below_on HB.out hb); obtain ⟨c0, c1, c2, c3, c4, c5⟩ := lay H2.out; clear hb)))
     go_ret
     exact ⟨rfl, HB2.out⟩
/-- Within of: the facts, the message in its box; nothing that was there has turned. -/
structure Og (w : World) (base b5 : Nat) (v : Value) (L : List Fa) (m : Ms) (u : World) : Prop where
 own : OwnS GT 21 fl u base v L
 m : u.heap[b5]? = some (mO m MT)
 below : Below w.heap.size w u
section
variable {w u u' : World} {base b5 b9 k g n cap : Nat} {v : Value} {L : List Fa} {m : Ms} {f : Fa}
theorem Og.on (h : Og w base b5 v L m u) (hb : Below u.heap.size u u') : Og w base b5 v L m u' := ⟨h.own.below hb, stays h.m hb, below_on h.below hb⟩
theorem Og.ne (h : Og w base b5 v L m u) (F : Fresh b9 u u') : w.heap.size ≤ b9 ∧ b5 ≠ b9 ∧ v.ownBlock ≠ some b9 := ⟨by rw [F.eq]; exact h.below.size, F.ne h.m, fun e => by have := (h.own.lt b9 e).2; have := F.eq; omega⟩
theorem Og.mod (h : Og w base b5 v L m u) (M : Mod b9 u u') (N : w.heap.size ≤ b9 ∧ b5 ≠ b9 ∧ v.ownBlock ≠ some b9) : Og w base b5 v L m u' := ⟨row_keep h.own fun k hk => M.rest k fun e => N.2.2 (by rw [← e]; exact hk), M.other N.2.1 h.m, M.below h.below N.1⟩
theorem Og.kind (h : Og w base b5 (.slice (some ⟨g, 0, none⟩) n cap) L m u) (hf : L[k]? = some f) : u.cell? ⟨g, k * 21 + 0, none⟩ = some (.int .u8 (f.k : Int)) := by
 have := OwnS.cell fl_len h.own k f hf 0 (by decide)
 rw [Nat.mul_comm 21 k] at this
 exact this
theorem fact_m (h : u.rangeAt g (k * 21) (fl f)) : u.rangeAt g (k * 21 + 1) (ml f.m) := fun j v hv => by
 have := h (j + 1) v (by unfold fl; rw [List.getElem?_cons_succ]; exact hv)
 rw [show k * 21 + 1 + j = k * 21 + (j + 1) by omega]
 exact this
theorem cnt_take {z : Nat} (hf : L[k]? = some f) : cnt z m (L.take (k + 1)) = cnt z m (L.take k) + (if (f.k == z) && same f.m m then 1 else 0) := by
 rw [List.take_add_one, hf, cnt_app]
 congr 1
 show cnt z m [f] = _
 unfold cnt
 cases h : (f.k == z) && same f.m m with
 | true => rw [List.filter_cons_of_pos (p := fun f : Fa => (f.k == z) && same f.m m) h]; rfl
 | false => rw [List.filter_cons_of_neg (p := fun f : Fa => (f.k == z) && same f.m m) (by rw [h]; decide)]; rfl
theorem cnt_le (z : Nat) : cnt z m L ≤ L.length := List.length_filter_le _ _
set_option maxHeartbeats 8000000 in
theorem lof (h : OwnS GT 21 fl w base v L) (hn : L.length ≤ 1000000) (z : Nat) (m : Ms) (hm : m.In) (hL : ∀ f ∈ L, f.m.In) : Calls Tryz.prog 23 #[v, .int .u8 (z : Int), mv m] w fun e w' => e = .returned (nm (cnt z m L)) ∧ Below w.heap.size w w' := by
 obtain ⟨oa, cap, rfl, ga⟩ := row_form h
 obtain ⟨n, hln⟩ : ∃ n, L.length = n := ⟨_, rfl⟩
 rw [hln] at h ga hn ⊢
 have HO := Lib.hid h
 have GA := Lib.hid ga
 have HL := Lib.hid hln
 have HF := Lib.hid hL
 have CR := Lib.hid (fun (m : Ms) (w : World) => fref m w)
 have CY := Lib.hid (fun w => rchannel m hm w)
 clear h ga hln hL
 go_enter Tryz.func23, Tryz.ntmps23
 go_wp2_with ((with_reducible refine bxm (m := m) ?hx ?_); (case hx => rfl); intro b5 w1 h F; have HG0 : Hid (Og w base b5 (.slice oa n cap) L m w1) := Lib.hid ⟨HO.out.below F.below, h, F.below⟩; clear h F)
 go_loopg [7, 8] n (fun gm s7 s8 wr => ∃ k : Nat, s8 = nm k ∧ s7 = nm (cnt z m (L.take k)) ∧ n - k ≤ gm ∧ k ≤ n ∧ Hid (Og w base b5 (.slice oa n cap) L m wr))
 case atStart => exact ⟨0, by first | rfl | go_num, by first | rfl | go_num, by omega, by omega, HG0⟩
 case round =>
  clear HG0
  obtain ⟨k, rfl, rfl, hgm, hkn, HG⟩ := hrel
  by_cases hlt : k < n
  · have t1 : decide ((k : Int) < (n : Int)) = true := decide_eq_true (by omega)
    have t2 : (k : Int) < (n : Int) := by omega
    have j0 : (0 : Int) ≤ (k : Int) := by omega
    have vk := nat_wrap (k + 1) (by omega)
    obtain ⟨g, rfl⟩ := GA.out k hlt
    obtain ⟨f, hf⟩ : ∃ f, L[k]? = some f := ⟨_, List.getElem?_eq_getElem (by rw [HL.out]; exact hlt)⟩
    have HR := Lib.hid (fact_m (own_rangez fl_len HG.out.own k f hf))
    have CX := Lib.hid (fun w => rchannel f.m (HF.out f (List.mem_of_getElem? hf)) w)
    have hct := cnt_take (z := z) (m := m) hf
    have hle : cnt z m (L.take k) ≤ 1000000 := Nat.le_trans (cnt_le z) (by rw [List.length_take]; omega)
    obtain ⟨q, hq⟩ : ∃ q, cnt z m (L.take k) = q := ⟨_, rfl⟩
    obtain ⟨q2, hq2⟩ : ∃ q2, cnt z m (L.take (k + 1)) = q2 := ⟨_, rfl⟩
    rw [hq, hq2] at hct
    rw [hq] at hle ⊢
    by_cases h1 : f.k = z
    · by_cases h2 : f.m.k = m.k
      · have e1 : ((f.k : Int) == (z : Int)) = true := by rw [h1]; exact beq_self_eq_true _
        have e2 : ((f.m.k : Int) == (m.k : Int)) = true := by rw [h2]; exact beq_self_eq_true _
        have e3 := nn_beq (ch f.m) (ch m)
        have e4 : same f.m m = (ch f.m == ch m) := by unfold same; rw [h2, beq_self_eq_true, Bool.true_and]
        rw [e4, h1, beq_self_eq_true, Bool.true_and] at hct
        generalize ch f.m = cx at CX e3 hct
        generalize ch m = cy at CY e3 hct
        have v1 := nat_wrap (q + 1) (by omega)
        cases hc : cx == cy with
        | true =>
         rw [hc] at e3 hct
         obtain rfl : q2 = q + 1 := by rw [hct]; rfl
         have E1 := Lib.hid e1
         have E2 := Lib.hid e2
         have HQ := Lib.hid hq2
         clear h1 h2 e4 hct hc hq hq2
         go_wp2_with (first
          | ((with_reducible refine ldr (m := f.m) isM HR.out ?hx ?_); (case hx => rfl))
          | ((with_reducible refine alm zeroM ?_); intro b9 w2 h F; have G2 := Lib.hid (HG.out.on F.below); have H9 := Lib.hid h; have N9 := Lib.hid (HG.out.ne F); clear h F)
          | ((with_reducible refine stm (m := f.m) isM H9.out ?hx ?hy ?_); (case hx => rfl); (case hy => rfl); intro wx h M; have G3 := Lib.hid (G2.out.mod M N9.out); replace H9 := Lib.hid h; clear h M G2))
         have HK := Lib.hid (G3.out.kind hf)
         have H5 := Lib.hid G3.out.m
         clear HG HR
         refine wp_region_held_drew (S := (fun w' => Below wx.heap.size wx w')) (by kernel_rfl) (Below.refl _ _).drew (fun hHeld => ?_)
         refine' tk9 0 rfl ?_
         refine' tk9 1 rfl ?_
         refine' tk9 2 rfl ?_
         refine' tk9 3 rfl ?_
         refine' tv9 4 rfl (by intro _ hSw; (try dsimp only at hSw); have e0 := (hSw.cell (p := ⟨g, k * 21 + 0, none⟩) (lt_cell HK.out)).trans HK.out; rw [Nat.add_zero] at e0; go_simp <;> with_reducible rfl) ?_
         refine' tk9 5 rfl ?_
         refine' tk9 6 rfl ?_
         refine' tk9 7 rfl ?_
         refine' tk9 8 rfl ?_
         refine' tv9 9 rfl (by intro _ hSw; (try dsimp only at hSw); have c9 := (lay (stays H9.out hSw)).1; go_simp <;> with_reducible rfl) ?_
         refine' tk9 10 rfl ?_
         refine' tv9 11 rfl (by intro _ hSw; (try dsimp only at hSw); have d5 := (lay (stays H5.out hSw)).1; go_simp <;> with_reducible rfl) ?_
         refine' tk9 12 rfl ?_
         refine' tk9 13 rfl ?_
         refine' tk9 14 rfl ?_
         refine' tv9 15 rfl (by intro _ hSw; (try dsimp only at hSw); refine ex_ld isM (stays H9.out hSw) ?_; rfl) ?_
         refine' tv9 18 rfl (by intro _ hSw; (try dsimp only at hSw); refine ex_ld isM (stays H5.out hSw) ?_; rfl) ?_
         refine ry [16] (.cons rfl (fun K hK => ?_) .nil)
         go_simp
         (with_reducible refine (CR.out _ _).mono ?_)
         rintro e wc ⟨rfl, hb⟩
         go_wp2_with fail
         refine hK.out _ _ (below_on hHeld hb) (fun hNext => ?_)
         clear hK K hHeld hb
         have hHeld := hNext; clear hNext
         (try simp only [Act.put, z1', z2', z3'])
         refine ry [17] (.cons rfl (fun K hK => ?_) .nil)
         go_simp
         (with_reducible refine (CX.out _).mono ?_)
         rintro e wc ⟨rfl, hb⟩
         go_wp2_with fail
         refine hK.out _ _ (below_on hHeld hb) (fun hNext => ?_)
         clear hK K hHeld hb
         have hHeld := hNext; clear hNext
         (try simp only [Act.put, z1', z2', z3'])
         refine ry [19] (.cons rfl (fun K hK => ?_) .nil)
         go_simp
         (with_reducible refine (CR.out _ _).mono ?_)
         rintro e wc ⟨rfl, hb⟩
         go_wp2_with fail
         refine hK.out _ _ (below_on hHeld hb) (fun hNext => ?_)
         clear hK K hHeld hb
         have hHeld := hNext; clear hNext
         (try simp only [Act.put, z1', z2', z3'])
         refine ry [20] (.cons rfl (fun K hK => ?_) .nil)
         go_simp
         (with_reducible refine (CY.out _).mono ?_)
         rintro e wc ⟨rfl, hb⟩
         go_wp2_with fail
         refine hK.out _ _ (below_on hHeld hb) (fun hNext => ?_)
         clear hK K hHeld hb
         have hHeld := hNext; clear hNext
         (try simp only [Act.put, z1', z2', z3'])
         refine' tk9 21 rfl ?_
         refine' tk9 22 rfl ?_
         refine wpAnyH_done (by kernel_rfl) ?_ _
         have HY9 := Lib.hid hHeld
         clear hHeld
         have G4 := Lib.hid (G3.out.on HY9.out)
         clear G3 HK H9 H5
         go_wp2
         go_roundg (n - (k + 1))
         case measure => omega
         case rel => exact ⟨k + 1, by first | rfl | go_num, by rw [HQ.out]; first | rfl | go_num, Nat.le_refl _, by omega, G4⟩
        | false =>
         rw [hc] at e3 hct
         obtain rfl : q2 = q := by rw [hct]; rfl
         have E1 := Lib.hid e1
         have E2 := Lib.hid e2
         have HQ := Lib.hid hq2
         clear h1 h2 e4 hct hc hq hq2 v1
         go_wp2_with (first
          | ((with_reducible refine ldr (m := f.m) isM HR.out ?hx ?_); (case hx => rfl))
          | ((with_reducible refine alm zeroM ?_); intro b9 w2 h F; have G2 := Lib.hid (HG.out.on F.below); have H9 := Lib.hid h; have N9 := Lib.hid (HG.out.ne F); clear h F)
          | ((with_reducible refine stm (m := f.m) isM H9.out ?hx ?hy ?_); (case hx => rfl); (case hy => rfl); intro wx h M; have G3 := Lib.hid (G2.out.mod M N9.out); replace H9 := Lib.hid h; clear h M G2))
         have HK := Lib.hid (G3.out.kind hf)
         have H5 := Lib.hid G3.out.m
         clear HG HR
         refine wp_region_held_drew (S := (fun w' => Below wx.heap.size wx w')) (by kernel_rfl) (Below.refl _ _).drew (fun hHeld => ?_)
         refine' tk9 0 rfl ?_
         refine' tk9 1 rfl ?_
         refine' tk9 2 rfl ?_
         refine' tk9 3 rfl ?_
         refine' tv9 4 rfl (by intro _ hSw; (try dsimp only at hSw); have e0 := (hSw.cell (p := ⟨g, k * 21 + 0, none⟩) (lt_cell HK.out)).trans HK.out; rw [Nat.add_zero] at e0; go_simp <;> with_reducible rfl) ?_
         refine' tk9 5 rfl ?_
         refine' tk9 6 rfl ?_
         refine' tk9 7 rfl ?_
         refine' tk9 8 rfl ?_
         refine' tv9 9 rfl (by intro _ hSw; (try dsimp only at hSw); have c9 := (lay (stays H9.out hSw)).1; go_simp <;> with_reducible rfl) ?_
         refine' tk9 10 rfl ?_
         refine' tv9 11 rfl (by intro _ hSw; (try dsimp only at hSw); have d5 := (lay (stays H5.out hSw)).1; go_simp <;> with_reducible rfl) ?_
         refine' tk9 12 rfl ?_
         refine' tk9 13 rfl ?_
         refine' tk9 14 rfl ?_
         refine' tv9 15 rfl (by intro _ hSw; (try dsimp only at hSw); refine ex_ld isM (stays H9.out hSw) ?_; rfl) ?_
         refine' tv9 18 rfl (by intro _ hSw; (try dsimp only at hSw); refine ex_ld isM (stays H5.out hSw) ?_; rfl) ?_
         refine ry [16] (.cons rfl (fun K hK => ?_) .nil)
         go_simp
         (with_reducible refine (CR.out _ _).mono ?_)
         rintro e wc ⟨rfl, hb⟩
         go_wp2_with fail
         refine hK.out _ _ (below_on hHeld hb) (fun hNext => ?_)
         clear hK K hHeld hb
         have hHeld := hNext; clear hNext
         (try simp only [Act.put, z1', z2', z3'])
         refine ry [17] (.cons rfl (fun K hK => ?_) .nil)
         go_simp
         (with_reducible refine (CX.out _).mono ?_)
         rintro e wc ⟨rfl, hb⟩
         go_wp2_with fail
         refine hK.out _ _ (below_on hHeld hb) (fun hNext => ?_)
         clear hK K hHeld hb
         have hHeld := hNext; clear hNext
         (try simp only [Act.put, z1', z2', z3'])
         refine ry [19] (.cons rfl (fun K hK => ?_) .nil)
         go_simp
         (with_reducible refine (CR.out _ _).mono ?_)
         rintro e wc ⟨rfl, hb⟩
         go_wp2_with fail
         refine hK.out _ _ (below_on hHeld hb) (fun hNext => ?_)
         clear hK K hHeld hb
         have hHeld := hNext; clear hNext
         (try simp only [Act.put, z1', z2', z3'])
         refine ry [20] (.cons rfl (fun K hK => ?_) .nil)
         go_simp
         (with_reducible refine (CY.out _).mono ?_)
         rintro e wc ⟨rfl, hb⟩
         go_wp2_with fail
         refine hK.out _ _ (below_on hHeld hb) (fun hNext => ?_)
         clear hK K hHeld hb
         have hHeld := hNext; clear hNext
         (try simp only [Act.put, z1', z2', z3'])
         refine' tk9 21 rfl ?_
         refine' tk9 22 rfl ?_
         refine wpAnyH_done (by kernel_rfl) ?_ _
         have HY9 := Lib.hid hHeld
         clear hHeld
         have G4 := Lib.hid (G3.out.on HY9.out)
         clear G3 HK H9 H5
         go_wp2
         go_roundg (n - (k + 1))
         case measure => omega
         case rel => exact ⟨k + 1, by first | rfl | go_num, by rw [HQ.out], Nat.le_refl _, by omega, G4⟩
      · have e1 : ((f.k : Int) == (z : Int)) = true := by rw [h1]; exact beq_self_eq_true _
        have e2 : ((f.m.k : Int) == (m.k : Int)) = false := Mem.beq_false (by omega)
        have e4 : same f.m m = false := by unfold same; rw [beq_eq_false_iff_ne.2 h2, Bool.false_and]
        rw [e4, Bool.and_false] at hct
        obtain rfl : q2 = q := by rw [hct]; rfl
        have E1 := Lib.hid e1
        have HQ := Lib.hid hq2
        clear h1 h2 e4 hct hq hq2
        go_wp2_with (first
         | ((with_reducible refine ldr (m := f.m) isM HR.out ?hx ?_); (case hx => rfl))
         | ((with_reducible refine alm zeroM ?_); intro b9 w2 h F; have G2 := Lib.hid (HG.out.on F.below); have H9 := Lib.hid h; have N9 := Lib.hid (HG.out.ne F); clear h F)
         | ((with_reducible refine stm (m := f.m) isM H9.out ?hx ?hy ?_); (case hx => rfl); (case hy => rfl); intro wx h M; have G3 := Lib.hid (G2.out.mod M N9.out); replace H9 := Lib.hid h; clear h M G2))
        have HK := Lib.hid (G3.out.kind hf)
        have H5 := Lib.hid G3.out.m
        clear HG HR
        refine wp_region_held_drew (S := (fun w' => Below wx.heap.size wx w')) (by kernel_rfl) (Below.refl _ _).drew (fun hHeld => ?_)
        refine' tk9 0 rfl ?_
        refine' tk9 1 rfl ?_
        refine' tk9 2 rfl ?_
        refine' tk9 3 rfl ?_
        refine' tv9 4 rfl (by intro _ hSw; (try dsimp only at hSw); have e0 := (hSw.cell (p := ⟨g, k * 21 + 0, none⟩) (lt_cell HK.out)).trans HK.out; rw [Nat.add_zero] at e0; go_simp <;> with_reducible rfl) ?_
        refine' tk9 5 rfl ?_
        refine' tk9 6 rfl ?_
        refine' tk9 7 rfl ?_
        refine' tk9 8 rfl ?_
        refine' tv9 9 rfl (by intro _ hSw; (try dsimp only at hSw); have c9 := (lay (stays H9.out hSw)).1; go_simp <;> with_reducible rfl) ?_
        refine' tk9 10 rfl ?_
        refine' tv9 11 rfl (by intro _ hSw; (try dsimp only at hSw); have d5 := (lay (stays H5.out hSw)).1; go_simp <;> with_reducible rfl) ?_
        refine' tk9 12 rfl ?_
        refine' tk9 13 rfl ?_
        refine' tk9 14 rfl ?_
        refine sk9 15 rfl ?_
        refine sk9 16 rfl ?_
        refine sk9 17 rfl ?_
        refine sk9 18 rfl ?_
        refine sk9 19 rfl ?_
        refine sk9 20 rfl ?_
        refine sk9 21 rfl ?_
        refine' tk9 22 rfl ?_
        refine wpAnyH_done (by kernel_rfl) ?_ _
        have HY9 := Lib.hid hHeld
        clear hHeld
        have G4 := Lib.hid (G3.out.on HY9.out)
        clear G3 HK H9 H5
        go_wp2
        go_roundg (n - (k + 1))
        case measure => omega
        case rel => exact ⟨k + 1, by first | rfl | go_num, by rw [HQ.out], Nat.le_refl _, by omega, G4⟩
    · have e1 : ((f.k : Int) == (z : Int)) = false := Mem.beq_false (by omega)
      rw [beq_eq_false_iff_ne.2 h1, Bool.false_and] at hct
      obtain rfl : q2 = q := by rw [hct]; rfl
      have HQ := Lib.hid hq2
      clear h1 hct hq hq2
      go_wp2_with (first
       | ((with_reducible refine ldr (m := f.m) isM HR.out ?hx ?_); (case hx => rfl))
       | ((with_reducible refine alm zeroM ?_); intro b9 w2 h F; have G2 := Lib.hid (HG.out.on F.below); have H9 := Lib.hid h; have N9 := Lib.hid (HG.out.ne F); clear h F)
       | ((with_reducible refine stm (m := f.m) isM H9.out ?hx ?hy ?_); (case hx => rfl); (case hy => rfl); intro wx h M; have G3 := Lib.hid (G2.out.mod M N9.out); replace H9 := Lib.hid h; clear h M G2))
      have HK := Lib.hid (G3.out.kind hf)
      have H5 := Lib.hid G3.out.m
      clear HG HR
      refine wp_region_held_drew (S := (fun w' => Below wx.heap.size wx w')) (by kernel_rfl) (Below.refl _ _).drew (fun hHeld => ?_)
      refine' tk9 0 rfl ?_
      refine' tk9 1 rfl ?_
      refine' tk9 2 rfl ?_
      refine' tk9 3 rfl ?_
      refine' tv9 4 rfl (by intro _ hSw; (try dsimp only at hSw); have e0 := (hSw.cell (p := ⟨g, k * 21 + 0, none⟩) (lt_cell HK.out)).trans HK.out; rw [Nat.add_zero] at e0; go_simp <;> with_reducible rfl) ?_
      refine' tk9 5 rfl ?_
      refine' tk9 6 rfl ?_
      refine' tk9 7 rfl ?_
      refine sk9 8 rfl ?_
      refine sk9 9 rfl ?_
      refine sk9 10 rfl ?_
      refine sk9 11 rfl ?_
      refine sk9 12 rfl ?_
      refine' tk9 13 rfl ?_
      refine' tk9 14 rfl ?_
      refine sk9 15 rfl ?_
      refine sk9 16 rfl ?_
      refine sk9 17 rfl ?_
      refine sk9 18 rfl ?_
      refine sk9 19 rfl ?_
      refine sk9 20 rfl ?_
      refine sk9 21 rfl ?_
      refine' tk9 22 rfl ?_
      refine wpAnyH_done (by kernel_rfl) ?_ _
      have HY9 := Lib.hid hHeld
      clear hHeld
      have G4 := Lib.hid (G3.out.on HY9.out)
      clear G3 HK H9 H5
      go_wp2
      go_roundg (n - (k + 1))
      case measure => omega
      case rel => exact ⟨k + 1, by first | rfl | go_num, by rw [HQ.out], Nat.le_refl _, by omega, G4⟩
  · obtain rfl : k = n := by omega
    have t1 : decide ((k : Int) < (k : Int)) = false := decide_eq_false (by omega)
    have t2 : ¬ (k : Int) < (k : Int) := by omega
    have HT : Hid (L.take k = L) := Lib.hid (List.take_of_length_le (by rw [HL.out]; exact Nat.le_refl _))
    rw [HT.out]
    go_wp2
    go_ret
    exact ⟨rfl, HG.out.below⟩
end
end Go.Proofs.YtakkhdammmcjcaaGreatDoor.Ctl
namespace Go.Proofs.YtakkhdammmcjcaaGreatDoor.Ctl
open Go.RowKit Base Mem Msgs Cr
set_option maxRecDepth 20000
/-- The slice v reads L, element by element. -/
structure Rd {α : Type} (z : Nat) (fc : α → List Value) (w : World) (v : Value) (L : List α) : Prop where
 form : ∃ oa cap, v = .slice oa L.length cap ∧ ∀ k x, L[k]? = some x → ∃ g off, oa = some ⟨g, off, none⟩ ∧ g < w.heap.size ∧ w.rangeAt g (off + k * z) (fc x)
section
variable {α : Type} {E z base g off n cap k : Nat} {fc : α → List Value} {w w' u : World} {v : Value} {l : List α} {x : α}
theorem range_below {vs : List Value} (h : w.rangeAt g off vs) (hg : g < w.heap.size) (hb : Below w.heap.size w w') : w'.rangeAt g off vs := fun j v hv => by
 rw [World.cell?_of_block (hb.block g hg)]; exact h j v hv
theorem Rd.below (h : Rd z fc w v l) (hb : Below w.heap.size w w') : Rd z fc w' v l := by
 obtain ⟨oa, cap, h1, h2⟩ := h.form
 refine ⟨oa, cap, h1, fun k x hk => ?_⟩
 obtain ⟨g, off, h3, h4, h5⟩ := h2 k x hk
 exact ⟨g, off, h3, Nat.lt_of_lt_of_le h4 hb.size, range_below h5 h4 hb⟩
theorem Rd.at_ (h : Rd z fc w (.slice (some ⟨g, off, none⟩) n cap) l) (hk : l[k]? = some x) : w.rangeAt g (off + k * z) (fc x) := by
 obtain ⟨oa, cap', h1, h2⟩ := h.form
 obtain ⟨g', off', h3, h4, h5⟩ := h2 k x hk
 injection h1 with h1
 rw [h3] at h1
 injection h1 with h1
 injection h1 with h1 h6 _
 rw [h1, h6]
 exact h5
theorem rd_own (hl : ∀ x, (fc x).length = z) (h : OwnS E z fc w base v l) : Rd z fc w v l := by
 obtain ⟨oa, cap, rfl, ga⟩ := row_form h
 refine ⟨oa, cap, rfl, fun k x hk => ?_⟩
 obtain ⟨g, rfl⟩ := ga k (List.getElem?_eq_some_iff.1 hk).1
 refine ⟨g, 0, rfl, (h.lt g rfl).2, ?_⟩
 rw [Nat.zero_add]
 exact own_rangez hl h k x hk
theorem rd_qz (hl : ∀ x, (fc x).length = z) (h : Qz z fc w base v l) : Rd z fc w v l := by
 rcases h with ⟨rfl, rfl⟩ | ⟨g, off, cap, rfl, h2, h3⟩
 · exact ⟨none, 0, rfl, fun k x hk => by simp at hk⟩
 · refine ⟨_, cap, rfl, fun k x hk => ⟨g, off, rfl, h3.lt, fun j v hv => ?_⟩⟩
   have hj : j < z := by rw [← hl x]; exact (List.getElem?_eq_some_iff.1 hv).1
   have := h3.cell k x hk j hj
   rw [Nat.mul_comm z k, ← Nat.add_assoc] at this
   exact this.trans hv
end
section
variable {g off n cap base k : Nat} {w : World} {F : List Fa} {f : Fa}
theorem own_kind (h : OwnS GT 21 fl w base (.slice (some ⟨g, 0, none⟩) n cap) F) (hf : F[k]? = some f) : w.cell? ⟨g, k * 21, none⟩ = some (.int .u8 (f.k : Int)) := own_rangez fl_len h k f hf 0 _ rfl
theorem rd_kind (h : Rd 21 fl w (.slice (some ⟨g, off, none⟩) n cap) F) (hf : F[k]? = some f) : w.cell? ⟨g, off + k * 21, none⟩ = some (.int .u8 (f.k : Int)) := h.at_ hf 0 _ rfl
theorem rd_m (h : Rd 21 fl w (.slice (some ⟨g, off, none⟩) n cap) F) (hf : F[k]? = some f) : w.rangeAt g (off + k * 21 + 1) (ml f.m) := fun j v hv => by
 have := h.at_ hf (j + 1) v (by unfold fl; rw [List.getElem?_cons_succ]; exact hv)
 rw [show off + k * 21 + 1 + j = off + k * 21 + (j + 1) by omega]
 exact this
end
set_option maxHeartbeats 8000000 in
theorem lsame {w : World} {base : Nat} {v v2 : Value} {F : List Fa} (h : OwnS GT 21 fl w base v F) (h2 : Rd 21 fl w v2 F) (hn : F.length ≤ 1000000) : Calls Tryz.prog 31 #[v, v2] w fun e w' => e = .returned (.bool true) ∧ Below w.heap.size w w' := by
 obtain ⟨oa, cap, rfl, ga⟩ := row_form h
 obtain ⟨ob, cb, rfl, gb⟩ := h2.form
 obtain ⟨n, hln⟩ : ∃ n, F.length = n := ⟨_, rfl⟩
 rw [hln] at h h2 ga hn ⊢
 have HG0 : Hid (OwnS GT 21 fl w base (.slice oa n cap) F ∧ Rd 21 fl w (.slice ob n cb) F ∧ Below w.heap.size w w) := Lib.hid ⟨h, h2, Below.refl _ _⟩
 have GA := Lib.hid ga
 have GB := Lib.hid gb
 have HL := Lib.hid hln
 have CR := Lib.hid (fun (m : Ms) (w : World) => fref m w)
 have u0 : ((n : Int) != (n : Int)) = false := bne_self_eq_false _
 clear h h2 ga gb hln
 go_enter Tryz.func31, Tryz.ntmps31
 go_wp2_with fail
 go_loopg [5] n (fun gm s5 wr => ∃ k : Nat, s5 = nm k ∧ n - k ≤ gm ∧ k ≤ n ∧ Hid (OwnS GT 21 fl wr base (.slice oa n cap) F ∧ Rd 21 fl wr (.slice ob n cb) F ∧ Below w.heap.size w wr))
 case atStart => exact ⟨0, by first | rfl | go_num, by omega, by omega, HG0⟩
 case round =>
  clear HG0
  obtain ⟨k, rfl, hgm, hkn, HG⟩ := hrel
  by_cases hlt : k < n
  · have t1 : decide ((k : Int) < (n : Int)) = true := decide_eq_true (by omega)
    have t2 : (k : Int) < (n : Int) := by omega
    have j0 : (0 : Int) ≤ (k : Int) := by omega
    have vk := nat_wrap (k + 1) (by omega)
    obtain ⟨f, hf⟩ : ∃ f, F[k]? = some f := ⟨_, List.getElem?_eq_getElem (by rw [HL.out]; exact hlt)⟩
    obtain ⟨g, rfl⟩ := GA.out k hlt
    obtain ⟨g2, off, rfl, _⟩ := GB.out k f hf
    have HFK := Lib.hid hf
    have e1 : ((f.k : Int) != (f.k : Int)) = false := bne_self_eq_false _
    have e2 : ∀ u : World, (binOp .neq RT (mv f.m) (mv f.m)).run Tryz.prog u = .ok (.bool false) u := fun u => by rw [run_neR, eqM_self]; rfl
    clear hf
    go_wp2_with fail
    refine wp_region_held_drew (S := (fun w' => OwnS GT 21 fl w' base (.slice (some ⟨g, 0, none⟩) n cap) F ∧ Rd 21 fl w' (.slice (some ⟨g2, off, none⟩) n cb) F ∧ Below w.heap.size w w')) (by kernel_rfl) ⟨HG.out.1.below ⟨rfl, rfl, rfl, Nat.le_refl _, fun _ _ => rfl⟩, HG.out.2.1.below ⟨rfl, rfl, rfl, Nat.le_refl _, fun _ _ => rfl⟩, below_on HG.out.2.2 ⟨rfl, rfl, rfl, Nat.le_refl _, fun _ _ => rfl⟩⟩ (fun hHeld => ?_)
    refine' tk9 0 rfl ?_
    refine' tk9 1 rfl ?_
    refine' tk9 2 rfl ?_
    refine' tk9 3 rfl ?_
    refine' tv9 4 rfl (by intro _ hSw; (try dsimp only at hSw); have e4 := own_kind hSw.1 HFK.out; go_simp <;> with_reducible rfl) ?_
    refine' tk9 5 rfl ?_
    refine' tk9 6 rfl ?_
    refine' tk9 7 rfl ?_
    refine' tk9 8 rfl ?_
    refine' tv9 9 rfl (by intro _ hSw; (try dsimp only at hSw); have e9 := rd_kind hSw.2.1 HFK.out; go_simp <;> with_reducible rfl) ?_
    refine' tk9 10 rfl ?_
    refine' tk9 11 rfl ?_
    refine' tk9 12 rfl ?_
    refine' tk9 13 rfl ?_
    refine' tk9 14 rfl ?_
    refine' tk9 15 rfl ?_
    refine' tv9 16 rfl (by intro _ hSw; (try dsimp only at hSw); refine ex_ldr isM (fact_m (own_rangez fl_len hSw.1 k f HFK.out)) ?_; rfl) ?_
    refine' tk9 18 rfl ?_
    refine' tk9 19 rfl ?_
    refine' tk9 20 rfl ?_
    refine' tk9 21 rfl ?_
    refine' tv9 22 rfl (by intro _ hSw; (try dsimp only at hSw); refine ex_ldr isR (rd_m hSw.2.1 HFK.out) ?_; rfl) ?_
    refine ry [17] (.cons rfl (fun K hK => ?_) .nil)
    go_simp
    (with_reducible refine (CR.out _ _).mono ?_)
    rintro e wc ⟨rfl, hb⟩
    go_wp2_with fail
    refine hK.out _ _ ⟨hHeld.1.below hb, hHeld.2.1.below hb, below_on hHeld.2.2 hb⟩ (fun hNext => ?_)
    clear hK K hHeld hb
    have hHeld := hNext; clear hNext
    (try simp only [Act.put, z1', z2', z3'])
    refine' tk9 23 rfl ?_
    refine' tk9 24 rfl ?_
    refine wpAnyH_done (by kernel_rfl) ?_ _
    have HX := Lib.hid hHeld
    clear hHeld
    go_wp2
    go_roundg (n - (k + 1))
    case measure => omega
    case rel => exact ⟨k + 1, by first | rfl | go_num, Nat.le_refl _, by omega, HX⟩
  · obtain rfl : n = k := by omega
    have t1 : decide ((n : Int) < (n : Int)) = false := decide_eq_false (by omega)
    have t2 : ¬ (n : Int) < (n : Int) := by omega
    have HB := Lib.hid HG.out.2.2
    go_wp2_with fail
    go_ret
    exact ⟨rfl, HB.out⟩
/-- A call. -/
structure Cl where
 k : Int
 m : Ms
 s : ByteArray
def xl (x : Cl) : List Value := .int .i64 x.k :: (ml x.m ++ [.string x.s])
theorem xl_len (x : Cl) : (xl x).length = 22 := rfl
abbrev QT : TypeId := 31
abbrev xv (x : Cl) : Value := .agg (xl x).toArray
structure Cl.Fit (x : Cl) : Prop where
 m : x.m.In
 b : x.m.b.size ≤ 130
 s : x.s.size ≤ 130
section
variable {g off n cap k : Nat} {w : World} {L : List Cl} {x : Cl} {v : Value}
theorem rd_bytes (h : Rd 22 xl w (.slice (some ⟨g, off, none⟩) n cap) L) (hx : L[k]? = some x) : w.cell? ⟨g, off + k * 22 + 1 + 19, none⟩ = some (.string x.m.b) ∧ w.cell? ⟨g, off + k * 22 + 21, none⟩ = some (.string x.s) :=
 ⟨h.at_ hx 20 _ rfl, h.at_ hx 21 _ rfl⟩
set_option maxHeartbeats 4000000 in
theorem lfew (h : Rd 22 xl w v L) (hn : L.length ≤ 150) (hf : ∀ x ∈ L, x.Fit) : Calls Tryz.prog 10 #[v, .int .i64 150] w fun e w' => e = .returned (.bool true) ∧ w = w' := by
 obtain ⟨oa, cap, rfl, ga⟩ := h.form
 obtain ⟨n, hln⟩ : ∃ n, L.length = n := ⟨_, rfl⟩
 rw [hln] at h hn ⊢
 have HG := Lib.hid h
 have GA := Lib.hid ga
 have HL := Lib.hid hln
 have HF := Lib.hid hf
 have u0 : decide ((150 : Int) < (n : Int)) = false := decide_eq_false (by omega)
 have u1 : ¬ (150 : Int) < (n : Int) := by omega
 clear h ga hln hf
 go_enter Tryz.func10, Tryz.ntmps10
 go_wp2_with fail
 go_loopg [5] n (fun gm s5 wr => ∃ k : Nat, s5 = nm k ∧ n - k ≤ gm ∧ k ≤ n ∧ w = wr)
 case atStart => exact ⟨0, by first | rfl | go_num, by omega, by omega, rfl⟩
 case round =>
  obtain ⟨k, rfl, hgm, hkn, rfl⟩ := hrel
  by_cases hlt : k < n
  · have t1 : decide ((k : Int) < (n : Int)) = true := decide_eq_true (by omega)
    have t2 : (k : Int) < (n : Int) := by omega
    have j0 : (0 : Int) ≤ (k : Int) := by omega
    have vk := nat_wrap (k + 1) (by omega)
    obtain ⟨x, hx⟩ : ∃ x, L[k]? = some x := ⟨_, List.getElem?_eq_getElem (by rw [HL.out]; exact hlt)⟩
    obtain ⟨g, off, rfl, _⟩ := GA.out k x hx
    obtain ⟨c1, c2⟩ := rd_bytes HG.out hx
    have hft := HF.out x (List.mem_of_getElem? hx)
    have hb := hft.b
    have hs := hft.s
    have v1 : decide ((130 : Int) < (x.m.b.size : Int)) = false := decide_eq_false (by omega)
    have v2 : decide ((130 : Int) < (x.s.size : Int)) = false := decide_eq_false (by omega)
    clear hx hft
    go_wp2_with fail
    go_roundg (n - (k + 1))
    case measure => omega
    case rel => exact ⟨k + 1, by first | rfl | go_num, Nat.le_refl _, by omega, rfl⟩
  · obtain rfl : n = k := by omega
    have t1 : decide ((n : Int) < (n : Int)) = false := decide_eq_false (by omega)
    have t2 : ¬ (n : Int) < (n : Int) := by omega
    go_wp2_with fail
    go_ret
    exact ⟨rfl, rfl⟩
end
end Go.Proofs.YtakkhdammmcjcaaGreatDoor.Ctl
namespace Go.Proofs.YtakkhdammmcjcaaGreatDoor.Base
open Go.RowKit
def place (a m : Int) : Nat := ((a.tmod m + m) % m).toNat
theorem place_lt (a m : Int) (hm : 0 < m) : (place a m : Int) < m := by
 unfold place
 rw [Int.toNat_of_nonneg (Int.emod_nonneg _ (by omega))]
 exact Int.emod_lt_of_pos _ hm
theorem pick (a : Int) (m : Int) (hm : 0 < m) (hM : m ≤ 4611686018427387904) (w : World) :
 Calls Tryz.prog 26 #[.int .i64 a, .int .i64 m] w fun e w' => e = .returned (.int .i64 (place a m : Int)) ∧ w = w' := by
 have h1 : -m < a.tmod m := by
  have := Int.lt_tmod_of_pos a hm; omega
 have h2 : a.tmod m < m := Int.tmod_lt_of_pos a hm
 have h3 : 0 ≤ (a.tmod m + m) % m := Int.emod_nonneg _ (by omega)
 have HP : Hid (((place a m : Nat) : Int) = (a.tmod m + m) % m) := Lib.hid (Int.toNat_of_nonneg h3)
 go_enter Tryz.func26, Tryz.ntmps26
 go_wp2
 go_ret
 exact ⟨ret_int (by rw [HP.out]), rfl⟩
end Go.Proofs.YtakkhdammmcjcaaGreatDoor.Base
