/-
  A call of both, the wheel and the reference: they answer alike. No condition but that ticks are a number of 64 bits.
-/
import Derived.Test.YtcadeoolacoidaaWhWorks
namespace Go.Proofs.Ytcadeoolacoidaa.Wh
open Go.RowKit Go.Proofs.Ytcadeoolacoidaa.Base Go.Proofs.Ytcadeoolacoidaa.Mem
open Go.Proofs.Ytcadeoolacoidaa.Srt (wrap_nat)
/-- A wheel and a reference, both made since w0. -/
structure Pl (w0 : World) (pw pr lb n : Nat) (f g : Nat → Nat) (B : Nat → Prop) (w : World) : Prop where
  whl : Whl w pw n f B
  lo : ∀ b, B b → w0.heap.size ≤ b
  rf : Rf w pr lb g
  npr : ¬ B pr
  nlb : ¬ B lb
  r0 : w0.heap.size ≤ pr
  r1 : w0.heap.size ≤ lb
  below : Below w0.heap.size w0 w
/-- What a call does. -/
def step (f : Nat → Nat) (d i : Nat) (N : Int) : Nat → Nat :=
  if d % 5 = 0 then (if 1 ≤ N ∧ N ≤ 65535 then upd f i N.toNat else f) else if d % 5 = 1 then upd f i 0 else tick f
section
variable {w0 w w' : World} {pw pr lb n : Nat} {f g f' g' : Nat → Nat} {B B' : Nat → Prop}
theorem Pl.ltr (h : Pl w0 pw pr lb n f g B w) : pr < w.heap.size ∧ lb < w.heap.size := ⟨lt_heap h.rf.p, lt_heap h.rf.c⟩
theorem Pl.wheel (h : Pl w0 pw pr lb n f g B w) (h1 : Whl w' pw n f' B') (hc : Chg B w w') (hB : ∀ b, B' b → B b ∨ w.heap.size ≤ b) : Pl w0 pw pr lb n f' g B' w' := by
  have hr := h.ltr
  refine ⟨h1, fun b hb => ?_, h.rf.frame hc h.npr h.nlb, fun hb => ?_, fun hb => ?_, h.r0, h.r1, below_chg h.below hc h.lo⟩
  · rcases hB b hb with hb | hb
    · exact h.lo b hb
    · exact Nat.le_trans h.below.size hb
  · rcases hB pr hb with hb | hb
    · exact h.npr hb
    · omega
  · rcases hB lb hb with hb | hb
    · exact h.nlb hb
    · omega
theorem Pl.ref (h : Pl w0 pw pr lb n f g B w) (h1 : Rf w' pr lb g') (hc : Chg (fun b => b = lb) w w') : Pl w0 pw pr lb n f g' B w' :=
  ⟨h.whl.frame hc fun b hb e => h.nlb (e ▸ hb), h.lo, h1, h.npr, h.nlb, h.r0, h.r1, below_chg h.below hc fun b e => by rw [e]; exact h.r1⟩
theorem Pl.other {S : Nat → Prop} (h : Pl w0 pw pr lb n f g B w) (hc : Chg S w w') (h1 : ∀ b, B b → ¬ S b) (h2 : ¬ S pr) (h3 : ¬ S lb) (h4 : ∀ b, S b → w0.heap.size ≤ b) : Pl w0 pw pr lb n f g B w' :=
  ⟨h.whl.frame hc h1, h.lo, h.rf.frame hc h2 h3, h.npr, h.nlb, h.r0, h.r1, below_chg h.below hc h4⟩
theorem Pl.quiet (h : Pl w0 pw pr lb n f g B w) (hc : Chg (fun _ => False) w w') : Pl w0 pw pr lb n f g B w' := h.other hc (fun _ _ x => x) (fun x => x) (fun x => x) fun _ x => x.elim
theorem Pl.drewN (h : Pl w0 pw pr lb n f g B w) (m : Nat) : Pl w0 pw pr lb n f g B (w.drewN m) := h.quiet ((Chg.refl _ w).drewN m)
theorem Pl.drew (h : Pl w0 pw pr lb n f g B w) : Pl w0 pw pr lb n f g B w.drew := h.quiet (Chg.refl _ w).drew
theorem Pl.alloc (h : Pl w0 pw pr lb n f g B w) (o : Obj) : Pl w0 pw pr lb n f g B (w.alloc o) := h.quiet ((Chg.refl _ w).alloc o)
/-- Both Sets. -/
theorem pset (h : Pl w0 pw pr lb n f g B w) (i : Nat) (hi : i < 256) (N : Int) :
    Calls Try.prog 14 #[ptr pw, oc i, .int .i64 N] w fun r w' => r = .returned (.int .i64 (if 1 ≤ N ∧ N ≤ 65535 then 0 else 2)) ∧ ∃ B', Pl w0 pw pr lb n (if 1 ≤ N ∧ N ≤ 65535 then upd f i N.toNat else f) g B' w' ∧ Chg B w w' := by
  by_cases hN : 1 ≤ N ∧ N ≤ 65535
  · obtain ⟨t, rfl⟩ : ∃ t : Nat, N = t := ⟨N.toNat, by omega⟩
    rw [if_pos hN, if_pos hN, Int.toNat_natCast]
    refine (wset w pw n f B i t h.whl hi (by omega) (by omega)).mono ?_
    rintro r w' ⟨rfl, h3, h4⟩
    refine ⟨rfl, _, h.wheel h3 h4 fun b hb => ?_, h4⟩
    rcases hb with hb | hb
    · exact Or.inl hb
    · exact Or.inr hb.1
  · rw [if_neg hN, if_neg hN]
    refine (wset_arg w pw i N (by omega)).mono ?_
    rintro r w' ⟨rfl, rfl⟩
    exact ⟨rfl, B, h, Chg.refl _ _⟩
theorem prset (h : Pl w0 pw pr lb n f g B w) (i : Nat) (hi : i < 256) (N : Int) :
    Calls Try.prog 18 #[ptr pr, oc i, .int .i64 N] w fun r w' => r = .returned (.int .i64 (if 1 ≤ N ∧ N ≤ 65535 then 0 else 2)) ∧ Pl w0 pw pr lb n f (if 1 ≤ N ∧ N ≤ 65535 then upd g i N.toNat else g) B w' ∧ Chg (fun b => b = lb) w w' := by
  by_cases hN : 1 ≤ N ∧ N ≤ 65535
  · obtain ⟨t, rfl⟩ : ∃ t : Nat, N = t := ⟨N.toNat, by omega⟩
    rw [if_pos hN, if_pos hN, Int.toNat_natCast]
    refine (rset h.rf i t hi (by omega) (by omega)).mono ?_
    rintro r w' ⟨rfl, h3, h4⟩
    exact ⟨rfl, h.ref h3 h4, h4⟩
  · rw [if_neg hN, if_neg hN]
    refine (rset_arg w pr i N (by omega)).mono ?_
    rintro r w' ⟨rfl, rfl⟩
    exact ⟨rfl, h, Chg.refl _ _⟩
theorem pstop (h : Pl w0 pw pr lb n f g B w) (i : Nat) (hi : i < 256) :
    Calls Try.prog 15 #[ptr pw, oc i] w fun r w' => r = .returned (.bool (decide (0 < f i))) ∧ Pl w0 pw pr lb n (upd f i 0) g B w' ∧ Chg B w w' := by
  refine (wstop w pw n f B i h.whl hi).mono ?_
  rintro r w' ⟨rfl, h3, h4⟩
  exact ⟨rfl, h.wheel h3 h4 fun b hb => Or.inl hb, h4⟩
theorem prstop (h : Pl w0 pw pr lb n f g B w) (i : Nat) (hi : i < 256) :
    Calls Try.prog 19 #[ptr pr, oc i] w fun r w' => r = .returned (.bool (decide (0 < g i))) ∧ Pl w0 pw pr lb n f (upd g i 0) B w' ∧ Chg (fun b => b = lb) w w' := by
  refine (rstop h.rf i hi).mono ?_
  rintro r w' ⟨rfl, h3, h4⟩
  exact ⟨rfl, h.ref h3 h4, h4⟩
theorem ptick (h : Pl w0 pw pr lb n f g B w) :
    Calls Try.prog 16 #[ptr pw] w fun r w' => ∃ v, r = .returned v ∧ Pl w0 pw pr lb n (tick f) g B w' ∧ OwnS 5 1 ocs w' w.heap.size v (dueOf f) ∧ Chg B w w' := by
  refine (wtick w pw n f B h.whl).mono ?_
  rintro r w' ⟨v, rfl, h3⟩
  exact ⟨v, rfl, h.wheel h3.whl h3.chg fun b hb => Or.inl hb, h3.due, h3.chg⟩
theorem prtick (h : Pl w0 pw pr lb n f g B w) (hg : ∀ k, g k ≤ 65535) :
    Calls Try.prog 20 #[ptr pr] w fun r w' => ∃ v, r = .returned v ∧ Pl w0 pw pr lb n f (tick g) B w' ∧ OwnS 5 1 ocs w' w.heap.size v (dueOf g) ∧ Chg (fun b => b = lb) w w' := by
  refine (rtick h.rf hg).mono ?_
  rintro r w' ⟨v, rfl, h3⟩
  exact ⟨v, rfl, h.ref h3.rf h3.chg, h3.due, h3.chg⟩
set_option maxHeartbeats 8000000 in
set_option maxRecDepth 100000 in
theorem fdoes (H : Hid (Pl w0 pw pr lb n f f B w)) (d i : Nat) (hd : d < 256) (hi : i < 256) (N : Int) :
    Calls Try.prog 10 #[ptr pw, ptr pr, .agg #[.int .u8 (d : Int), oc i, .int .i64 N]] w fun r w' => r = .returned (.bool true) ∧ ∃ B', Pl w0 pw pr lb n (step f d i N) (step f d i N) B' w' := by
  obtain ⟨P, hP⟩ : ∃ P : World → Prop, P = fun w' => ∃ B', Pl w0 pw pr lb n (step f d i N) (step f d i N) B' w' := ⟨_, rfl⟩
  suffices hs : Calls Try.prog 10 #[ptr pw, ptr pr, .agg #[.int .u8 (d : Int), oc i, .int .i64 N]] w fun r w' => r = .returned (.bool true) ∧ P w' by rw [hP] at hs; exact hs
  have HP := Lib.hid hP
  clear hP
  obtain ⟨w1, hw1⟩ : ∃ w1, w1 = w.alloc (.cells #[.int .u8 (d : Int), oc i, .int .i64 N] 30) := ⟨_, rfl⟩
  obtain ⟨cb, hcb⟩ : ∃ cb, cb = w.heap.size := ⟨_, rfl⟩
  have H1 : Hid (Pl w0 pw pr lb n f f B w1) := by rw [hw1]; exact H.out.alloc _
  have hc : w1.heap[cb]? = some (.cells #[.int .u8 (d : Int), oc i, .int .i64 N] 30) := by rw [hw1, hcb]; exact nest w [_] 0 _ rfl
  have HC := Lib.hid hc
  have hncb : ¬ B cb := fun hb => by have := H.out.whl.lt cb hb; omega
  have hncl : cb ≠ lb := by have := H.out.ltr.2; omega
  have a0 : w1.cell? ⟨cb, 0, none⟩ = some (.int .u8 (d : Int)) := cell_of hc rfl
  have a1 : w1.cell? ⟨cb, 1, none⟩ = some (oc i) := cell_of hc rfl
  have a2 : w1.cell? ⟨cb, 2, none⟩ = some (.int .i64 N) := cell_of hc rfl
  obtain ⟨d5, hd5⟩ : ∃ d5, d5 = d % 5 := ⟨_, rfl⟩
  have m1 : (d : Int).tmod 5 = (d5 : Int) := by rw [Int.tmod_eq_emod_of_nonneg (by omega)]; omega
  have m2 : (d : Int) % 5 = (d5 : Int) := by omega
  have w5 : IntKind.u8.wrap (d5 : Int) = (d5 : Int) := by rw [IntKind.wrap_u8]; omega
  have HD5 := Lib.hid hd5
  have HW1 := Lib.hid hw1
  have HCB := Lib.hid hcb
  have HNC := Lib.hid (And.intro hncb hncl)
  clear hw1 hcb hc hd5 hncb hncl
  by_cases h0 : d5 = 0
  · have u1 : ((d5 : Int) == 0) = true := by rw [beq_iff_eq]; omega
    have HF : Hid (∀ w' B', Pl w0 pw pr lb n (if 1 ≤ N ∧ N ≤ 65535 then upd f i N.toNat else f) (if 1 ≤ N ∧ N ≤ 65535 then upd f i N.toNat else f) B' w' → P w') := fun w' B' h => by
      have h0' : d % 5 = 0 := by rw [← HD5.out]; exact h0
      rw [HP.out]
      refine ⟨B', ?_⟩
      unfold step
      rw [if_pos h0']
      exact h
    obtain ⟨F, hF⟩ : ∃ F : Nat → Nat, F = if 1 ≤ N ∧ N ≤ 65535 then upd f i N.toNat else f := ⟨_, rfl⟩
    obtain ⟨q, hq⟩ : ∃ q : Int, q = if 1 ≤ N ∧ N ≤ 65535 then 0 else 2 := ⟨_, rfl⟩
    have cs := pset H1.out.drew i hi N
    rw [← hF, ← hq] at cs
    rw [← hF] at HF
    have cs := Lib.hid cs
    have cr : Hid (∀ B' w2, Pl w0 pw pr lb n F f B' w2 → Calls Try.prog 18 #[ptr pr, oc i, .int .i64 N] w2 fun r w' => r = .returned (.int .i64 q) ∧ Pl w0 pw pr lb n F F B' w' ∧ Chg (fun b => b = lb) w2 w') := fun B' w2 h => by
      have := prset h i hi N
      rw [← hF, ← hq] at this
      exact this
    have HK : Hid (∀ w2, Chg B w1.drew w2 → w2.cell? ⟨cb, 1, none⟩ = some (oc i) ∧ w2.cell? ⟨cb, 2, none⟩ = some (.int .i64 N)) := fun w2 hg => by
      have h2 := hg.stays HC.out HNC.out.1
      exact ⟨cell_of h2 rfl, cell_of h2 rfl⟩
    have HK2 : Hid (∀ w2 w3, Chg B w1.drew w2 → Chg (fun b => b = lb) w2 w3 → w3.cell? ⟨cb, 1, none⟩ = some (oc i) ∧ w3.cell? ⟨cb, 2, none⟩ = some (.int .i64 N)) := fun w2 w3 hg hg2 => by
      have h2 := hg2.stays (hg.stays HC.out HNC.out.1) HNC.out.2
      exact ⟨cell_of h2 rfl, cell_of h2 rfl⟩
    clear hF hq
    go_enter Try.func10, Try.ntmps10
    go_wp2_with fail
    rw [← HCB.out, ← HW1.out]
    go_region_held3 (fun w' => w'.cell? ⟨cb, 1, none⟩ = some (oc i) ∧ w'.cell? ⟨cb, 2, none⟩ = some (.int .i64 N)) (first | exact hkb | exact hka | go_keep)
      (first | (go_at_call 14; refine cs.out.mono ?_; rintro _ w2 ⟨rfl, B2, hp2, hg2⟩; have hka := HK.out w2 hg2) | (go_at_call 18; refine (cr.out B2 _ hp2).mono ?_; rintro _ w3 ⟨rfl, hp3, hg3⟩; have hkb := HK2.out _ w3 hg2 hg3))
    have HG := Lib.hid (HF.out _ _ hp3)
    clear hp2 hp3 hg2 hg3 cs cr hka hkb
    go_wp2
    go_ret
    exact ⟨by simp, HG.out⟩
  · have u1 : ((d5 : Int) == 0) = false := by rw [beq_eq_false_iff_ne]; omega
    by_cases h1 : d5 = 1
    · have HF : Hid (∀ w', Pl w0 pw pr lb n (upd f i 0) (upd f i 0) B w' → P w') := fun w' h => by
        have h0' : ¬ d % 5 = 0 := by rw [← HD5.out]; exact h0
        have h1' : d % 5 = 1 := by rw [← HD5.out]; exact h1
        rw [HP.out]
        refine ⟨B, ?_⟩
        unfold step
        rw [if_neg h0', if_pos h1']
        exact h
      obtain ⟨q, hq⟩ : ∃ q, q = decide (0 < f i) := ⟨_, rfl⟩
      have cs := pstop H1.out.drew i hi
      rw [← hq] at cs
      have cs := Lib.hid cs
      have cr : Hid (∀ w2, Pl w0 pw pr lb n (upd f i 0) f B w2 → Calls Try.prog 19 #[ptr pr, oc i] w2 fun r w' => r = .returned (.bool q) ∧ Pl w0 pw pr lb n (upd f i 0) (upd f i 0) B w' ∧ Chg (fun b => b = lb) w2 w') := fun w2 h => by
        have := prstop h i hi
        rw [← hq] at this
        exact this
      have HK : Hid (∀ w2, Chg B w1.drew w2 → w2.cell? ⟨cb, 1, none⟩ = some (oc i)) := fun w2 hg => cell_of (hg.stays HC.out HNC.out.1) rfl
      have HK2 : Hid (∀ w2 w3, Chg B w1.drew w2 → Chg (fun b => b = lb) w2 w3 → w3.cell? ⟨cb, 1, none⟩ = some (oc i)) := fun w2 w3 hg hg2 => cell_of (hg2.stays (hg.stays HC.out HNC.out.1) HNC.out.2) rfl
      clear hq a2
      go_enter Try.func10, Try.ntmps10
      go_wp2_with fail
      rw [← HCB.out, ← HW1.out]
      go_region_held3 (fun w' => w'.cell? ⟨cb, 1, none⟩ = some (oc i)) (first | exact hkb | exact hka | go_keep)
        (first | (go_at_call 15; refine cs.out.mono ?_; rintro _ w2 ⟨rfl, hp2, hg2⟩; have hka := HK.out w2 hg2) | (go_at_call 19; refine (cr.out _ hp2).mono ?_; rintro _ w3 ⟨rfl, hp3, hg3⟩; have hkb := HK2.out _ w3 hg2 hg3))
      have HG := Lib.hid (HF.out _ hp3)
      clear hp2 hp3 hg2 hg3 cs cr hka hkb
      go_wp2
      go_ret
      exact ⟨by cases q <;> rfl, HG.out⟩
    · have u2 : ((d5 : Int) == 1) = false := by rw [beq_eq_false_iff_ne]; omega
      have HF : Hid (∀ w', Pl w0 pw pr lb n (tick f) (tick f) B w' → P w') := fun w' h => by
        have h0' : ¬ d % 5 = 0 := by rw [← HD5.out]; exact h0
        have h1' : ¬ d % 5 = 1 := by rw [← HD5.out]; exact h1
        rw [HP.out]
        refine ⟨B, ?_⟩
        unfold step
        rw [if_neg h0', if_neg h1']
        exact h
      have cs := Lib.hid (ptick H1.out)
      have hfm := Lib.hid H.out.whl.fmax
      clear a1 a2
      go_enter Try.func10, Try.ntmps10
      go_wp2_with fail
      rw [← HW1.out]
      refine cs.out.mono ?_
      rintro _ w2 ⟨v, rfl, hp2, ho2, hg2⟩
      have cr := Lib.hid (prtick hp2 hfm.out)
      have HP2 := Lib.hid hp2
      have HO2 := Lib.hid ho2
      have HG2 := Lib.hid hg2
      clear cs hp2 ho2 hg2
      go_wp2_with fail
      refine cr.out.mono ?_
      rintro _ w3 ⟨v2, rfl, hp3, ho3, hg3⟩
      have hb0 : ∀ b, v.ownBlock = some b → w1.heap.size ≤ b := fun b hb => (HO2.out.lt b hb).1
      have ho2' : OwnS 5 1 ocs w3 w1.heap.size v (dueOf f) := ownS_keep HO2.out fun b hb => hg3.block b (HO2.out.lt b hb).2 (by have := hb0 b hb; have := H1.out.ltr.2; omega)
      have ce := fsame w3 v v2 _ _ (dueOf f) (dueOf f) ho2' ho3 (by have := due_len f; omega) (by have := due_len f; omega)
      rw [decide_eq_true rfl] at ce
      have ce := Lib.hid ce
      have HP3 := Lib.hid hp3
      have HO3 := Lib.hid ho2'
      clear cr hp3 ho3 hg3 ho2' hb0 HO2 HG2 HP2
      go_wp2_with fail
      refine ce.out.mono ?_
      rintro _ w4 ⟨rfl, m, hw4⟩
      have HP4 : Hid (Pl w0 pw pr lb n (tick f) (tick f) B w4) := by rw [hw4]; exact HP3.out.drewN m
      have HO4 : Hid (OwnS 5 1 ocs w4 w1.heap.size v (dueOf f)) := by rw [hw4]; exact own_drewN HO3.out m
      clear ce hw4 HP3 HO3
      have HB1 : Hid (∀ b, B b → b < w1.heap.size) := H1.out.whl.lt
      have HR1 := Lib.hid H1.out.ltr
      have HS1 := Lib.hid H1.out.below.size
      have hdl := due_len f
      rcases HO4.out.2 with ⟨hv, hl0⟩ | ⟨g, cap, cur, hv, hbg, hg, hnc, hcm, hsz, ht⟩
      · subst hv
        clear HO4
        go_wp2_with fail
        go_loopg [8] 0 (fun gm s wr => s = nm 0 ∧ wr = w4)
        case atStart => exact ⟨rfl, rfl⟩
        case round =>
          obtain ⟨rfl, rfl⟩ := hrel
          go_wp2
          go_ret
          exact ⟨rfl, HF.out _ HP4.out⟩
      · obtain ⟨len, hlen⟩ : ∃ len, len = (dueOf f).length := ⟨_, rfl⟩
        rw [← hlen] at hv hnc hdl
        have HCU : Hid (∃ cur, w4.heap[g]? = some (.cells cur 5) ∧ len ≤ cur.size) := ⟨cur, hg, by omega⟩
        subst hv
        have HBG := Lib.hid hbg
        clear HO4 hg hsz ht hcm hlen hbg
        go_wp2_with fail
        go_loopg [8] len (fun gm s wr => ∃ j : Nat, s = nm j ∧ len - j ≤ gm ∧ j ≤ len ∧ Hid (∃ cur, wr.heap[g]? = some (.cells cur 5) ∧ len ≤ cur.size) ∧ Hid (Pl w0 pw pr lb n (tick f) (tick f) B wr))
        case atStart => exact ⟨0, rfl, by omega, by omega, HCU, HP4⟩
        case round =>
          clear HCU HP4
          obtain ⟨j, rfl, hgm, hjl, HCU, HPW⟩ := hrel
          by_cases hj : j < len
          · have t1 : decide ((j : Int) < (len : Int)) = true := decide_eq_true (by omega)
            have t2 : (j : Int) < (len : Int) := by omega
            have vj := wrap_nat (j + 1) (by omega)
            obtain ⟨cu, hcu, hcl⟩ := HCU.out
            have k1 : wr.cell? ⟨g, j, none⟩ = some (cu[j]'(by omega)) := cell_of hcu (Array.getElem?_eq_getElem _)
            obtain ⟨z, hz⟩ : ∃ z, z = (cu[j]'(by omega)) := ⟨_, rfl⟩
            rw [← hz] at k1
            have k2 : wr.frozen? ⟨g, j, none⟩ = false := free_of hcu
            have HCU2 : Hid (∃ cur, (wr.setCell ⟨g, j, none⟩ (.int .u8 9)).heap[g]? = some (.cells cur 5) ∧ len ≤ cur.size) := ⟨_, block_set hcu _, by simpa using hcl⟩
            have HPW2 : Hid (Pl w0 pw pr lb n (tick f) (tick f) B (wr.setCell ⟨g, j, none⟩ (.int .u8 9))) :=
              HPW.out.other ((Only.setCell g j _ wr).chg (S := fun b => b = g) rfl) (fun b hb e => by have := HB1.out b hb; have := HBG.out; omega) (fun e => by have := HR1.out.1; have := HBG.out; omega) (fun e => by have := HR1.out.2; have := HBG.out; omega) (fun b e => by have := HS1.out; have := HBG.out; omega)
            clear hz hcu HCU HPW
            go_wp2
            go_roundg (len - (j + 1))
            case measure => omega
            case rel => exact ⟨j + 1, by first | rfl | go_num, Nat.le_refl _, by omega, HCU2, HPW2⟩
          · have t1 : decide ((j : Int) < (len : Int)) = false := decide_eq_false (by omega)
            have t2 : ¬ (j : Int) < (len : Int) := by omega
            go_wp2
            go_ret
            exact ⟨rfl, HF.out _ HPW.out⟩
end
end Go.Proofs.Ytcadeoolacoidaa.Wh
