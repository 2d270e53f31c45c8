/-
  What Send and Hand answer, and what they leave of a line. Conditions: at most ten damages, ten thousand bytes a text, a thousand pieces of at most a hundred thousand bytes.
-/
import Derived.Test.YtllojgmlngfibaaLnLine
namespace Go.Proofs.Ytllojgmlngfibaa.Ln
open Go.RowKit Go.Proofs.Ytllojgmlngfibaa.Base Go.Proofs.Ytllojgmlngfibaa.Mem
theorem fsend_nil (w : World) (s : ByteArray) (v : Value) : Calls Try.prog 10 #[.pointer none, .string s, v] w fun e w' => e = .returned (.int .i64 0) ∧ w' = w := by
  go_enter Try.func10, Try.ntmps10
  go_wp2
  go_ret
  exact ⟨rfl, rfl⟩
theorem fhand_nil (w : World) (n : Int) : Calls Try.prog 12 #[.pointer none, .int .i64 n] w fun e w' => e = .returned (.string ⟨#[]⟩) ∧ w' = w := by
  have cp := fpieces_nil w
  go_enter Try.func12, Try.ntmps12
  go_wp2_with (go_at_call 13; refine cp.mono ?_; rintro e w' ⟨rfl, hw⟩; rw [hw]; clear hw)
  go_ret
  exact ⟨rfl, rfl⟩
theorem size_of (p : List UInt8) : (⟨p.toArray⟩ : ByteArray).size = p.length := by show p.toArray.size = _; simp
theorem Sl.setOther {α : Type} {E : TypeId} {enc : α → Value} {w : World} {base b o : Nat} {v u : Value} {l : List α} (h : Sl E enc w base v l) (hne : v.ownBlock ≠ some b) : Sl E enc (w.setCell ⟨b, o, none⟩ u) base v l := by
  rcases h with h | ⟨g, off, cap, rfl, h2, h3⟩
  · exact Or.inl h
  · exact Or.inr ⟨g, off, cap, rfl, h2, h3.eqv (Below.heap_setCell w _ _ _ fun e => hne (by rw [e]; rfl))⟩
set_option maxHeartbeats 2000000 in
theorem fsend (w : World) (base pb : Nat) (ps : List (List UInt8)) (h : LnAt w base pb ps) (hb : base ≤ w.heap.size) (l : List UInt8) (oa : Option Addr) (n cap : Nat) (F : Nat → Dm) (hA : ArgS 4 dc DFits w oa n F) (hn : n ≤ 10) (hl : l.length ≤ 10000) (hps : ps.length ≤ 1000) (p : List UInt8) (hp : dmgs (ds F n) l = p) :
    Calls Try.prog 10 #[ptr pb, .string ⟨l.toArray⟩, .slice oa n cap] w fun e w' => e = .returned (.int .i64 (p.length : Int)) ∧ LnAt w' base pb (send p ps) ∧ Below base w w' := by
  have CD : Hid (Calls Try.prog 14 #[.string ⟨l.toArray⟩, .slice oa n cap] w fun e w' => e = .returned (.string ⟨p.toArray⟩) ∧ Below w.heap.size w w') := by
    have := fdamaged l oa n cap F w hA hn hl
    rw [hp] at this
    exact this
  have HL := Lib.hid h
  clear h hA hp hl
  obtain ⟨S, hS⟩ : ∃ S : ByteArray, Hid (S = ⟨p.toArray⟩) := ⟨_, Lib.hid rfl⟩
  rw [← hS.out] at CD
  by_cases h0 : p = []
  · subst h0
    have e1 : send [] ps = ps := if_pos rfl
    rw [e1]
    have e2 : S = ⟨#[]⟩ := hS.out
    rw [e2] at CD
    clear e2 e1
    go_enter Try.func10, Try.ntmps10
    go_wp2_with (go_at_call 14; ((with_reducible refine CD.out.mono ?_); rintro e w1 ⟨rfl, hb1⟩; have HB := Lib.hid hb1; clear hb1))
    go_ret
    exact ⟨rfl, HL.out.below HB.out, HB.out.mono hb⟩
  · have e1 : send p ps = ps ++ [p] := if_neg h0
    rw [e1]
    have hlen : 0 < p.length := List.length_pos_iff.2 h0
    have hsz : S.size = p.length := by rw [hS.out]; exact size_of p
    have t1 : ¬ S.toList = [] := toList_ne (by omega)
    have t2 : S.toList.isEmpty = false := by rw [List.isEmpty_eq_false_iff]; exact t1
    obtain ⟨y, hy⟩ : ∃ y, p.length = y := ⟨_, rfl⟩
    rw [hy] at hsz ⊢
    clear e1 hy hlen h0
    go_enter Try.func10, Try.ntmps10
    go_wp2_with fail
    refine CD.out.mono ?_
    rintro _ w1 ⟨rfl, hb1⟩
    have HB := Lib.hid hb1
    obtain ⟨v, h1, h2⟩ := (HL.out.below hb1).obj
    obtain ⟨va, vc, hv⟩ := h2.form
    subst hv
    have HO := Lib.hid h1
    have HV := Lib.hid h2
    have c0 := cell_of (i := 0) h1 rfl
    clear hb1 h1 h2 CD
    obtain ⟨z, hz⟩ : ∃ z, ps.length = z := ⟨_, rfl⟩
    rw [hz] at HO HV c0 hps
    have HZ := Lib.hid hz
    clear hz
    have HA1 : Hid (SlS (w1.alloc (.cells #[.string S] 9)) base (.slice va z vc) ps) := HV.out.below ((Below.refl _ _).alloc (Nat.le_refl _) _)
    have HB1 : Hid (Below base w (w1.alloc (.cells #[.string S] 9))) := (HB.out.mono hb).alloc (by have := HB.out.size; omega) _
    have HO1 : Hid ((w1.alloc (.cells #[.string S] 9)).heap[pb]? = some (.cells #[.slice va z vc] 40)) := stays HO.out ((Below.refl _ _).alloc (Nat.le_refl _) _)
    have HSR : Hid (Src Try.prog 1 38 (.slice (some ⟨w1.heap.size, 0, none⟩) 1 1) 1 ([p].map valS) (w1.alloc (.cells #[.string S] 9))) := by
      refine src_at elS _ w1.heap.size 0 1 1 [p] rfl (fun i x hi => ?_)
      have hlt := (List.getElem?_eq_some_iff.1 hi).1
      simp only [List.length_cons, List.length_nil] at hlt
      obtain rfl : i = 0 := by omega
      obtain rfl : x = p := (Option.some.inj hi).symm
      rw [Nat.zero_add]
      refine cell_of (nest w1 [_] 0 _ rfl) ?_
      rw [hS.out]; rfl
    go_wp2_with (at_builtin; refine wpList_append_sl elS _ rfl _ _ rfl base (.slice va z vc) rfl ps HA1.out _ rfl 1 [p] rfl HSR.out (by decide) (by rw [HZ.out]; omega) (by have := HB1.out.size; omega) ?_; intro v' w2 hs2 hg2; obtain ⟨vb, vd, hv2⟩ := hs2.form; rw [List.length_append, List.length_singleton] at hv2; subst hv2; have HS2 := Lib.hid hs2; have HB2 := Lib.hid (grown_base HA1.out hg2 (by have := HB1.out.size; omega)); have HO2 := Lib.hid (gr_stays hg2 HO1.out (fun e => ln_ne HO1.out HA1.out e.symm rfl)); have c2 := cell_of (i := 0) HO2.out rfl; have f2 := free_of (i := 0) HO2.out; clear hs2 hg2 c0)
    go_ret
    refine ⟨rfl, ⟨⟨_, block_set HO2.out _, ?_⟩, HL.out.lb⟩, ?_⟩
    · exact HS2.out.setOther (fun e => ln_ne HO2.out HS2.out e rfl)
    · exact (HB1.out.trans HB2.out).setCell (p := ⟨pb, 0, none⟩) HL.out.lb _
theorem ext_take (p : List UInt8) (k : Nat) : (⟨p.toArray⟩ : ByteArray).extract 0 k = ⟨(p.take k).toArray⟩ := bext (by rw [ext_list]; simp)
theorem ext_tail (p : List UInt8) (k : Nat) : (⟨p.toArray⟩ : ByteArray).extract k (⟨p.toArray⟩ : ByteArray).size = ⟨(p.drop k).toArray⟩ := bext (by rw [ext_drop])
/-- What is left when the first piece has gone. -/
theorem gone {w : World} {g off cap : Nat} {p : List UInt8} {r : List (List UInt8)} (h : RwS w g off cap (p :: r)) : RwS (w.setCell ⟨g, off, none⟩ (.string ⟨#[]⟩)) g off cap ([] :: r) := by
  have h9 := h.set 0 [] (by simp)
  exact h9
theorem rest {w : World} {base g off cap z : Nat} {p : List UInt8} {r : List (List UInt8)} (h : RwS w g off cap (p :: r)) (hb : base ≤ g) (hz : r.length = z) : SlS w base (.slice (if cap = 1 then some ⟨g, off, none⟩ else some ⟨g, off + 1, none⟩) z (cap - 1)) r := by
  have hl := h.len
  rw [List.length_cons] at hl
  by_cases hc : cap = 1
  · rw [if_pos hc]
    have hr : r = [] := List.eq_nil_of_length_eq_zero (by omega)
    subst hr
    exact Sl.of hb ⟨Nat.zero_le _, by omega, h.lt, fun i x hi => (by cases hi), fun i hi => (by omega), fun i hi => (by omega), h.shape⟩ hz
  · rw [if_neg hc]
    exact Sl.of hb (h.drop 1 (by omega)) hz
set_option maxHeartbeats 4000000 in
set_option maxRecDepth 100000 in
theorem fhand (w : World) (base pb : Nat) (ps : List (List UInt8)) (h : LnAt w base pb ps) (hb : base ≤ w.heap.size) (n : Int) (hp : ∀ p ∈ ps, p.length ≤ 1000000) :
    Calls Try.prog 12 #[ptr pb, .int .i64 n] w fun e w' => e = .returned (.string ⟨(hand n ps).1.toArray⟩) ∧ LnAt w' base pb (hand n ps).2 ∧ Below base w w' := by
  have CP := Lib.hid (fpieces w base pb ps h)
  have HL := Lib.hid h
  cases ps with
  | nil =>
    clear h hp
    go_enter Try.func12, Try.ntmps12
    go_wp2_with (go_at_call 13; ((with_reducible refine CP.out.mono ?_); rintro e w1 ⟨rfl, hw⟩; rw [hw]; clear hw))
    go_ret
    exact ⟨rfl, HL.out, Below.refl _ _⟩
  | cons p r =>
    have hpl := hp p (List.mem_cons_self ..)
    obtain ⟨v, h1, h2⟩ := h.obj
    rcases h2 with ⟨rfl, h3⟩ | ⟨g, off, cap, rfl, hbg, hR⟩
    · cases h3
    have hne : g ≠ pb := ln_ne h1 (Or.inr ⟨g, off, cap, rfl, hbg, hR⟩) rfl
    have hne2 : pb ≠ g := fun e => hne e.symm
    have HO := Lib.hid h1
    have HR := Lib.hid hR
    obtain ⟨S, hS⟩ : ∃ S : ByteArray, Hid (S = ⟨p.toArray⟩) := ⟨_, Lib.hid rfl⟩
    obtain ⟨y, hy⟩ : ∃ y, Hid (p.length = y) := ⟨_, Lib.hid rfl⟩
    have hsz : S.size = y := by rw [hS.out, size_of]; exact hy.out
    have c1 : w.cell? ⟨g, off, none⟩ = some (.string S) := by
      have := hR.cell 0 p rfl
      rw [hS.out]; exact this
    have f1 : w.frozen? ⟨g, off, none⟩ = false := hR.free 0 (by have := hR.len; rw [List.length_cons] at this; omega)
    have c0 := cell_of (i := 0) h1 rfl
    have f0 := free_of (i := 0) h1
    have hcap := hR.len
    have hmax := hR.max
    obtain ⟨z, hz⟩ : ∃ z, Hid (r.length = z) := ⟨_, Lib.hid rfl⟩
    rw [List.length_cons, hz.out] at c0 hcap CP HO
    have hgw := hR.lt
    have hpw := lt_heap h1
    have hz0 : ((z + 1 : Nat) : Int) = (z : Int) + 1 := by omega
    have hz1 : ¬ (z : Int) + 1 = 0 := by omega
    have hyl : y ≤ 1000000 := by have := hy.out; omega
    have HLB := HL.out.lb
    clear h h1 hR hp hpl
    by_cases hC : n < 1 ∨ (y : Int) ≤ n
    · have e1 : hand n (p :: r) = (p, r) := by rw [hand_cons, if_pos]; rw [hy.out]; exact hC
      rw [e1]
      have CC := Lib.hid (fun W => fclone S W (by omega))
      have HG : Hid (SlS (w.setCell ⟨g, off, none⟩ (.string ⟨#[]⟩)) base (.slice (if cap = 1 then some ⟨g, off, none⟩ else some ⟨g, off + 1, none⟩) z (cap - 1)) r) := rest (gone HR.out) hbg hz.out
      clear e1 HR
      by_cases hc1 : cap = 1
      · rw [if_pos hc1] at HG
        subst hc1
        obtain rfl : z = 0 := by omega
        rcases (show n < 1 ∨ (¬ n < 1 ∧ (y : Int) ≤ n) by omega) with h7 | ⟨h7, h8⟩
        · have d1 : decide (n < 1) = true := decide_eq_true h7
          go_enter Try.func12, Try.ntmps12
          go_wp2_with (first
            | (go_at_call 13; ((with_reducible refine CP.out.mono ?_); rintro e w1 ⟨rfl, hw⟩; rw [hw]; clear hw))
            | (go_at_call 15; ((with_reducible refine (CC.out _).mono ?_); rintro e w3 ⟨rfl, hb3⟩; have HB3 := Lib.hid hb3; clear hb3)))
          go_ret
          refine ⟨by rw [hS.out]; rfl, (LnAt.mk ⟨_, block_set (i := 0) (w := w.setCell ⟨g, off, none⟩ (.string ⟨#[]⟩)) ((Below.heap_setCell w ⟨g, off, none⟩ _ pb hne2).trans HO.out) _, (HG.out).setOther (fun e => hne (Option.some.inj e))⟩ HL.out.lb : LnAt _ base pb r).below HB3.out, ?_⟩
          exact (((Below.refl base w).setCell (p := ⟨g, off, none⟩) hbg _).setCell (p := ⟨pb, 0, none⟩) HL.out.lb _).trans (HB3.out.mono (by simp [World.setCell]; exact hb))
        · have d1 : decide (n < 1) = false := decide_eq_false h7
          have d2 : decide ((y : Int) ≤ n) = true := decide_eq_true h8
          go_enter Try.func12, Try.ntmps12
          go_wp2_with (first
            | (go_at_call 13; ((with_reducible refine CP.out.mono ?_); rintro e w1 ⟨rfl, hw⟩; rw [hw]; clear hw))
            | (go_at_call 15; ((with_reducible refine (CC.out _).mono ?_); rintro e w3 ⟨rfl, hb3⟩; have HB3 := Lib.hid hb3; clear hb3)))
          go_ret
          refine ⟨by rw [hS.out]; rfl, (LnAt.mk ⟨_, block_set (i := 0) (w := w.setCell ⟨g, off, none⟩ (.string ⟨#[]⟩)) ((Below.heap_setCell w ⟨g, off, none⟩ _ pb hne2).trans HO.out) _, (HG.out).setOther (fun e => hne (Option.some.inj e))⟩ HL.out.lb : LnAt _ base pb r).below HB3.out, ?_⟩
          exact (((Below.refl base w).setCell (p := ⟨g, off, none⟩) hbg _).setCell (p := ⟨pb, 0, none⟩) HL.out.lb _).trans (HB3.out.mono (by simp [World.setCell]; exact hb))
      · rw [if_neg hc1] at HG
        rcases (show n < 1 ∨ (¬ n < 1 ∧ (y : Int) ≤ n) by omega) with h7 | ⟨h7, h8⟩
        · have d1 : decide (n < 1) = true := decide_eq_true h7
          go_enter Try.func12, Try.ntmps12
          go_wp2_with (first
            | (go_at_call 13; ((with_reducible refine CP.out.mono ?_); rintro e w1 ⟨rfl, hw⟩; rw [hw]; clear hw))
            | (go_at_call 15; ((with_reducible refine (CC.out _).mono ?_); rintro e w3 ⟨rfl, hb3⟩; have HB3 := Lib.hid hb3; clear hb3)))
          go_ret
          refine ⟨by rw [hS.out]; rfl, (LnAt.mk ⟨_, block_set (i := 0) (w := w.setCell ⟨g, off, none⟩ (.string ⟨#[]⟩)) ((Below.heap_setCell w ⟨g, off, none⟩ _ pb hne2).trans HO.out) _, (HG.out).setOther (fun e => hne (Option.some.inj e))⟩ HL.out.lb : LnAt _ base pb r).below HB3.out, ?_⟩
          exact (((Below.refl base w).setCell (p := ⟨g, off, none⟩) hbg _).setCell (p := ⟨pb, 0, none⟩) HL.out.lb _).trans (HB3.out.mono (by simp [World.setCell]; exact hb))
        · have d1 : decide (n < 1) = false := decide_eq_false h7
          have d2 : decide ((y : Int) ≤ n) = true := decide_eq_true h8
          go_enter Try.func12, Try.ntmps12
          go_wp2_with (first
            | (go_at_call 13; ((with_reducible refine CP.out.mono ?_); rintro e w1 ⟨rfl, hw⟩; rw [hw]; clear hw))
            | (go_at_call 15; ((with_reducible refine (CC.out _).mono ?_); rintro e w3 ⟨rfl, hb3⟩; have HB3 := Lib.hid hb3; clear hb3)))
          go_ret
          refine ⟨by rw [hS.out]; rfl, (LnAt.mk ⟨_, block_set (i := 0) (w := w.setCell ⟨g, off, none⟩ (.string ⟨#[]⟩)) ((Below.heap_setCell w ⟨g, off, none⟩ _ pb hne2).trans HO.out) _, (HG.out).setOther (fun e => hne (Option.some.inj e))⟩ HL.out.lb : LnAt _ base pb r).below HB3.out, ?_⟩
          exact (((Below.refl base w).setCell (p := ⟨g, off, none⟩) hbg _).setCell (p := ⟨pb, 0, none⟩) HL.out.lb _).trans (HB3.out.mono (by simp [World.setCell]; exact hb))
    · obtain ⟨m, rfl⟩ : ∃ m : Nat, n = m := ⟨n.toNat, by omega⟩
      have e1 : hand (m : Int) (p :: r) = (p.take m, p.drop m :: r) := by rw [hand_cons, if_neg (by rw [hy.out]; exact hC), Int.toNat_natCast]
      rw [e1]
      have d1 : decide ((m : Int) < 1) = false := decide_eq_false (by omega)
      have d1' : ¬ (m : Int) < 1 := by omega
      have d2 : decide ((y : Int) ≤ (m : Int)) = false := decide_eq_false (by omega)
      have d2' : ¬ (y : Int) ≤ (m : Int) := by omega
      have hmy : m ≤ y := by omega
      obtain ⟨A, hA⟩ : ∃ A, S.extract 0 m = A := ⟨_, rfl⟩
      obtain ⟨B, hB⟩ : ∃ B, S.extract m y = B := ⟨_, rfl⟩
      have HA : Hid (A = ⟨(p.take m).toArray⟩) := by show A = _; rw [← hA, hS.out, ext_take]
      have HB : Hid (B = ⟨(p.drop m).toArray⟩) := by
        show B = _
        rw [← hB, ← hsz, hS.out, ext_tail]
      have hAs : A.size ≤ 1000000 := by rw [HA.out, size_of, List.length_take]; omega
      have CC := Lib.hid (fun W => fclone A W (by omega))
      have HG : Hid (SlS (w.setCell ⟨g, off, none⟩ (.string B)) base (.slice (some ⟨g, off, none⟩) (z + 1) cap) (p.drop m :: r)) := by
        have h9 := HR.out.set 0 (p.drop m) (by simp)
        refine Sl.of hbg ?_ (by rw [List.length_cons, hz.out])
        rw [HB.out]; exact h9
      clear e1 hAs hC HR
      go_enter Try.func12, Try.ntmps12
      go_wp2_with (go_at_call 13; ((with_reducible refine CP.out.mono ?_); rintro e w1 ⟨rfl, hw⟩; rw [hw]; clear hw))
      go_region
      all_goals
        go_wp2_with (go_at_call 15; ((with_reducible refine (CC.out _).mono ?_); rintro e w3 ⟨rfl, hb3⟩; have HB3 := Lib.hid hb3; clear hb3))
        go_ret
        refine ⟨by rw [HA.out]; rfl, (LnAt.mk ⟨_, (Below.heap_setCell w ⟨g, off, none⟩ _ pb hne2).trans HO.out, HG.out⟩ HL.out.lb : LnAt (w.setCell ⟨g, off, none⟩ (.string B)) base pb _).below ((Below.refl _ _).drew.trans HB3.out), ?_⟩
        exact (((Below.refl base w).setCell (p := ⟨g, off, none⟩) hbg _).drew).trans (HB3.out.mono (by simp [World.setCell]; exact hb))
end Go.Proofs.Ytllojgmlngfibaa.Ln
