/-
  ArqPair answers true whatever came in, and turns nothing that was there. No condition.
-/
import Derived.Test.YtkoaplmlabagnaaAqStep
import Derived.Deep.LoopGhost
namespace Go.Proofs.Ytkoaplmlabagnaa.arqPair
open Go.RowKit Go.Proofs.Ytkoaplmlabagnaa.Base Go.Proofs.Ytkoaplmlabagnaa.Mem Go.Proofs.Ytkoaplmlabagnaa.Aq
theorem pre_below {w0 w : World} {b : Bk} {x : Pr} (h : PrE w0 b x w) : Below w0.heap.size w0 w := by
  obtain ⟨q0, q1, v0, v1, tag, h⟩ := h
  exact h.below
theorem vw_wt (a b c n1 n2 n3 n4 : Int) (b1 b2 b3 b4 b5 b6 : Bool) (W : World) : (Instr.field 35 (.agg #[.int .u8 a, .int .u8 b, .int .u8 c, .int .i64 n1, .int .i64 n2, .int .i64 n3, .int .i64 n4, .bool b1, .bool b2, .bool b3, .bool b4, .bool b5, .bool b6]) 3).run Try.prog W = .ok (.int .i64 n1) W := by kernel_rfl
set_option maxHeartbeats 16000000 in
set_option maxRecDepth 100000 in
theorem law (k : Int) (_ : -9223372036854775808 ≤ k ∧ k ≤ 9223372036854775807) (n2 : Int) (_ : -9223372036854775808 ≤ n2 ∧ n2 ≤ 9223372036854775807) (t1 : Int) (_ : -9223372036854775808 ≤ t1 ∧ t1 ≤ 9223372036854775807) (oa : Option Addr) (n cap : Nat) (F : Nat → Sp) (_ : n ≤ maxLen) (w : World) (hA : ArgS 3 sc SpFit w oa n F) :
    Calls Try.prog 4 #[.int .i64 k, .int .i64 n2, .int .i64 t1, .slice oa n cap] w fun e w' => e = .returned (.bool true) ∧ Below w.heap.size w w' := by
  have HA := Lib.hid hA
  clear hA
  by_cases h : 300 < n
  · have h1 : (300 : Int) < (n : Int) := by omega
    have h2 : decide ((300 : Int) < (n : Int)) = true := decide_eq_true h1
    have h3 : decide (300 < n) = true := decide_eq_true h
    have cw := Lib.hid (fworks w)
    go_enter Try.func4, Try.ntmps4
    go_wp2_with fail
    refine cw.out.mono ?_
    rintro _ w9 ⟨rfl, hb⟩
    have HB9 : Hid (Below w.heap.size w w9) := Lib.hid (hb)
    clear hb cw
    go_wp2
    go_ret
    exact ⟨rfl, HB9.out⟩
  have h1 : ¬ (300 : Int) < (n : Int) := by omega
  have h2 : decide ((300 : Int) < (n : Int)) = false := decide_eq_false h1
  have h3 : decide (300 < n) = false := decide_eq_false h
  by_cases hm : 1 ≤ k ∧ k ≤ 7 ∧ 0 ≤ n2 ∧ n2 ≤ 255 ∧ 1 ≤ t1 ∧ t1 ≤ 255
  · have CM : Hid (Calls Try.prog 15 #[.int .i64 k, .int .i64 n2, .int .i64 t1] w fun e w' => e = .returned (.bool true) ∧ w = w') := by
      have := fmay15 k n2 t1 w
      rw [decide_eq_true hm] at this
      exact Lib.hid this
    obtain ⟨K, rfl⟩ : ∃ K : Nat, k = (K : Int) := ⟨k.toNat, by have := hm.1; omega⟩
    obtain ⟨N2, rfl⟩ : ∃ K : Nat, n2 = (K : Int) := ⟨n2.toNat, by have := hm.2.2.1; omega⟩
    obtain ⟨T1, rfl⟩ : ∃ K : Nat, t1 = (K : Int) := ⟨t1.toNat, by have := hm.2.2.2.2.1; omega⟩
    have CN := Lib.hid (fnewPair K N2 T1 (by unfold mayN; omega) w)
    have HO : Hid (Pok 0 0 (newP K N2 T1)) := Lib.hid (newP_pok K N2 T1 (by omega) (by omega) (by omega) (by omega))
    have HW : Hid (Win K (newP K N2 T1)) := Lib.hid ⟨rfl, rfl⟩
    clear hm
    go_enter Try.func4, Try.ntmps4
    go_wp2_with fail
    refine CM.out.mono ?_
    rintro _ w1 ⟨rfl, rfl⟩
    clear CM
    go_wp2_with fail
    refine CN.out.mono ?_
    rintro _ w2 ⟨b, rfl, hp⟩
    have HP := Lib.hid hp
    clear CN hp
    obtain ⟨htb, hba, -⟩ := PrE.held HP.out
    have e0 : w2.cell? ⟨b.tb, 0, none⟩ = some (Aq.two b.ba) := cell_of htb rfl
    have a0 : w2.cell? ⟨b.ba, 0, none⟩ = some (ptr b.p0) := cell_of hba rfl
    have a1 : w2.cell? ⟨b.ba, 1, none⟩ = some (ptr b.p1) := cell_of hba rfl
    clear htb hba
    generalize newP K N2 T1 = x0 at HP HO HW
    go_wp2_with fail
    clear e0 a0 a1
    go_loopg [10] n (fun gm s wq => ∃ (j : Nat) (x : Pr), s = nm j ∧ n - j ≤ gm ∧ j ≤ n ∧ Hid (PrE w b x wq) ∧ Hid (Pok j j x) ∧ Hid (Win K x))
    case atStart => exact ⟨0, x0, rfl, by omega, by omega, HP, HO, HW⟩
    case round =>
      clear HP HO HW x0
      obtain ⟨j, x, rfl, hgm2, hjn, HP, HO, HW⟩ := hrel
      by_cases hlt2 : j < n
      · have t3 : decide ((j : Int) < (n : Int)) = true := decide_eq_true (by omega)
        have t4 : (j : Int) < (n : Int) := by omega
        have j1 : (0 : Int) ≤ (j : Int) := by omega
        have vk := wrapn (j + 1) (by omega)
        obtain ⟨a, gb, go, rfl, ha, hgb, hrw⟩ := step_at HA.out hlt2
        obtain ⟨c0, c1, c2⟩ := hrw _ (pre_below HP.out)
        generalize hs : F j = s at c0 c1 c2
        obtain ⟨d, side, on⟩ := s
        clear hrw hs
        have CS := Lib.hid (fstep w _ b x j j HP.out HO.out (by omega) (by omega) d side on)
        have HO2 := Lib.hid (HO.out.step ⟨d, side, on⟩)
        have HW2 := Lib.hid (HW.out.step ⟨d, side, on⟩)
        clear HP HO HW
        generalize pStep ⟨d, side, on⟩ x = y at CS HO2 HW2
        go_wp2_with fail
        refine CS.out.mono ?_
        rintro _ w3 ⟨rfl, h3⟩
        have H3 := Lib.hid h3
        clear h3 CS c0 c1 c2
        obtain ⟨htb, hba, -⟩ := PrE.held H3.out
        have e0 : w3.cell? ⟨b.tb, 0, none⟩ = some (Aq.two b.ba) := cell_of htb rfl
        have a0 : w3.cell? ⟨b.ba, 0, none⟩ = some (ptr b.p0) := cell_of hba rfl
        have CV := Lib.hid (oview0 H3.out HO2.out.a)
        clear htb hba
        go_wp2_with fail
        refine CV.out.mono ?_
        rintro _ w4 ⟨⟨o, rfl, hv⟩, h4⟩
        have H4 := Lib.hid h4
        clear h4 CV e0 a0 H3
        obtain ⟨z0, z1, z2, z5, z6, b1, b2, b3, b4, b5, b6, rfl⟩ := hv
        obtain ⟨hW0, hW1⟩ := HO2.out.waits HW2.out
        have HX1 := Lib.hid hW1
        obtain ⟨W0, hW⟩ : ∃ W0, y.A.p.length - y.A.a = W0 := ⟨_, rfl⟩
        rw [hW] at hW0 ⊢
        have q1 : decide ((K : Int) < (W0 : Int)) = false := decide_eq_false (by omega)
        have q2 : decide (K < W0) = false := decide_eq_false (by omega)
        clear hW hW0 hW1
        generalize y.A.s - y.A.a = O0
        have vw := vw_wt z0 z1 z2 (W0 : Int) (O0 : Int) z5 z6 b1 b2 b3 b4 b5 b6 w4
        obtain ⟨htb, hba, -⟩ := PrE.held H4.out
        have e0 : w4.cell? ⟨b.tb, 0, none⟩ = some (Aq.two b.ba) := cell_of htb rfl
        have a1 : w4.cell? ⟨b.ba, 1, none⟩ = some (ptr b.p1) := cell_of hba rfl
        have CV := Lib.hid (oview1 H4.out HO2.out.b)
        clear htb hba
        go_wp2_with fail
        refine CV.out.mono ?_
        rintro _ w5 ⟨⟨o, rfl, hv⟩, h5⟩
        have H5 := Lib.hid h5
        clear h5 CV e0 a1 H4
        obtain ⟨y0, y1, y2, y5, y6, d1, d2, d3, d4, d5, d6, rfl⟩ := hv
        have hW1 := HX1.out
        clear HX1
        obtain ⟨W1, hW⟩ : ∃ W1, y.B.p.length - y.B.a = W1 := ⟨_, rfl⟩
        rw [hW] at hW1 ⊢
        have q3 : decide ((K : Int) < (W1 : Int)) = false := decide_eq_false (by omega)
        have q4 : decide (K < W1) = false := decide_eq_false (by omega)
        clear hW hW1
        generalize y.B.s - y.B.a = O1
        have vw2 := vw_wt y0 y1 y2 (W1 : Int) (O1 : Int) y5 y6 d1 d2 d3 d4 d5 d6 w5
        clear vw
        go_wp2
        go_roundg (n - (j + 1))
        case measure => omega
        case rel => exact ⟨j + 1, y, by first | rfl | go_num, Nat.le_refl _, by omega, H5, HO2, HW2⟩
      · have t3 : decide ((j : Int) < (n : Int)) = false := decide_eq_false (by omega)
        have t4 : ¬ (j : Int) < (n : Int) := by omega
        have cw := Lib.hid (fworks wr)
        go_wp2_with fail
        refine cw.out.mono ?_
        rintro _ w9 ⟨rfl, hb⟩
        have HB9 : Hid (Below w.heap.size w w9) := Lib.hid (below_on (pre_below HP.out) hb)
        clear hb cw
        go_wp2
        go_ret
        exact ⟨rfl, HB9.out⟩
  · have CM : Hid (Calls Try.prog 15 #[.int .i64 k, .int .i64 n2, .int .i64 t1] w fun e w' => e = .returned (.bool false) ∧ w = w') := by
      have := fmay15 k n2 t1 w
      rw [decide_eq_false hm] at this
      exact Lib.hid this
    have cw := Lib.hid (fworks w)
    clear hm
    go_enter Try.func4, Try.ntmps4
    go_wp2_with fail
    refine CM.out.mono ?_
    rintro _ w1 ⟨rfl, rfl⟩
    clear CM
    go_wp2_with fail
    refine cw.out.mono ?_
    rintro _ w9 ⟨rfl, hb⟩
    have HB9 : Hid (Below w.heap.size w w9) := Lib.hid (hb)
    clear hb cw
    go_wp2
    go_ret
    exact ⟨rfl, HB9.out⟩
end Go.Proofs.Ytkoaplmlabagnaa.arqPair
