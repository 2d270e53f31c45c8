/-
  ArqPlays answers true whatever came in, and turns nothing that was there. No condition.
-/
import Derived.Test.YtkoaplmlabagnaaAqArgs
import Derived.Deep.LoopGhost
namespace Go.Proofs.Ytkoaplmlabagnaa.arqPlays
open Go.RowKit Go.Proofs.Ytkoaplmlabagnaa.Base Go.Proofs.Ytkoaplmlabagnaa.Mem Go.Proofs.Ytkoaplmlabagnaa.Aq
theorem bo_new {w w1 w2 : World} {k n2 t1 : Nat} (h1 : PAt w1 w.heap.size (Ps.new k n2 t1) (.slice none 0 0)) (b1 : Below w.heap.size w w1) (h2 : RAt w2 w1.heap.size (new k n2 t1) (.slice none 0 0)) (b2 : Below w1.heap.size w1 w2) : Bo [] w w.heap.size w1.heap.size (new k n2 t1) (new k n2 t1) w2 := by
  have hlt := h1.lt
  refine ⟨⟨.slice none 0 0, .slice none 0 0, fun b => if b = w.heap.size then 1 else 2, h1.below b2, h2, if_pos rfl, fun k e => (by cases e), if_neg (by omega), fun k e => (by cases e), fun z hz => (by cases hz)⟩, fun z hz => (by cases hz), Nat.le_refl _, b1.size, below_on b1 b2⟩
set_option maxHeartbeats 16000000 in
set_option maxRecDepth 100000 in
theorem law (k : Int) (_ : -9223372036854775808 ≤ k ∧ k ≤ 9223372036854775807) (n2 : Int) (_ : -9223372036854775808 ≤ n2 ∧ n2 ≤ 9223372036854775807) (t1 : Int) (_ : -9223372036854775808 ≤ t1 ∧ t1 ≤ 9223372036854775807) (oa : Option Addr) (n cap : Nat) (F : Nat → Ct) (_ : n ≤ maxLen) (w : World) (hA : ArgS 8 cc CFit w oa n F) :
    Calls Try.prog 3 #[.int .i64 k, .int .i64 n2, .int .i64 t1, .slice oa n cap] w fun e w' => e = .returned (.bool true) ∧ Below w.heap.size w w' := by
  have HA := Lib.hid hA
  clear hA
  by_cases h : 120 < n
  · have h1 : (120 : Int) < (n : Int) := by omega
    have h2 : decide ((120 : Int) < (n : Int)) = true := decide_eq_true h1
    have h3 : decide (120 < n) = true := decide_eq_true h
    have cw := Lib.hid (fworks w)
    go_enter Try.func3, Try.ntmps3
    go_wp2_with fail
    refine cw.out.mono ?_
    rintro _ w9 ⟨rfl, hb⟩
    have HB9 : Hid (Below w.heap.size w w9) := Lib.hid (hb)
    clear hb cw
    go_wp2
    go_ret
    exact ⟨rfl, HB9.out⟩
  have h1 : ¬ (120 : Int) < (n : Int) := by omega
  have h2 : decide ((120 : Int) < (n : Int)) = false := decide_eq_false h1
  have h3 : decide (120 < n) = false := decide_eq_false h
  go_enter Try.func3, Try.ntmps3
  go_wp2_with fail
  go_loopg [9] n (fun gm s wr => ∃ i : Nat, s = nm i ∧ n - i ≤ gm ∧ i ≤ n ∧ Hid (wr = w))
  case atStart => exact ⟨0, rfl, by omega, by omega, rfl⟩
  case round =>
    obtain ⟨i, rfl, hgm, hin, HW⟩ := hrel
    obtain rfl := HW.out.symm
    clear HW
    by_cases hlt : i < n
    · have t1' : decide ((i : Int) < (n : Int)) = true := decide_eq_true (by omega)
      have t2' : (i : Int) < (n : Int) := by omega
      have j0 : (0 : Int) ≤ (i : Int) := by omega
      have vk := wrapn (i + 1) (by omega)
      obtain ⟨a, gb, go, rfl, ha, hgb, hrw⟩ := arg_at HA.out hlt
      obtain ⟨-, -, -, -, -, -, -, c7⟩ := hrw w (Below.refl _ _)
      have hsz := (HA.out.inb i hlt).2.2.2
      generalize (F i).f.i = s at c7 hsz
      clear hrw
      by_cases h60 : 60 < s.size
      · have g1 : decide ((60 : Int) < (s.size : Int)) = true := decide_eq_true (by omega)
        have g1b : decide (60 < s.size) = true := decide_eq_true h60
        have cw := Lib.hid (fworks w)
        go_wp2_with fail
        refine cw.out.mono ?_
        rintro _ w9 ⟨rfl, hb⟩
        have HB9 : Hid (Below w.heap.size w w9) := Lib.hid (hb)
        clear hb cw
        go_wp2
        go_ret
        exact ⟨rfl, HB9.out⟩
      · have g1 : decide ((60 : Int) < (s.size : Int)) = false := decide_eq_false (by omega)
        have g1b : decide (60 < s.size) = false := decide_eq_false h60
        go_wp2
        go_roundg (n - (i + 1))
        case measure => omega
        case rel => exact ⟨i + 1, by first | rfl | go_num, Nat.le_refl _, by omega, rfl⟩
    · have t1' : decide ((i : Int) < (n : Int)) = false := decide_eq_false (by omega)
      have t2' : ¬ (i : Int) < (n : Int) := by omega
      by_cases hm : mayN k n2 t1
      · obtain ⟨K, rfl⟩ : ∃ K : Nat, k = (K : Int) := ⟨k.toNat, by have := hm.1; omega⟩
        obtain ⟨N2, rfl⟩ : ∃ K : Nat, n2 = (K : Int) := ⟨n2.toNat, by have := hm.2.2.1; omega⟩
        obtain ⟨T1, rfl⟩ : ∃ K : Nat, t1 = (K : Int) := ⟨t1.toNat, by have := hm.2.2.2.2.1; omega⟩
        have CN := Lib.hid (fnew_ok K N2 T1 hm w)
        have CR := Lib.hid (fun w => rnew_ok K N2 T1 hm w)
        have HI0 : Hid (Inv 0 (new K N2 T1)) := Lib.hid (by unfold mayN at hm; exact new_inv K N2 T1 (by omega) (by omega) (by omega) (by omega))
        clear hm
        go_wp2_with fail
        refine CN.out.mono ?_
        rintro _ w1 ⟨rfl, x1, b1⟩
        have X1 := Lib.hid x1
        have B1 := Lib.hid b1
        clear x1 b1 CN
        go_wp2_with fail
        refine (CR.out _).mono ?_
        rintro _ w2 ⟨rfl, x2, b2⟩
        have HB := Lib.hid (bo_new X1.out B1.out x2 b2)
        clear x2 b2 CR X1 B1
        generalize hpa : w.heap.size = pa at HB ⊢
        generalize w1.heap.size = pr at HB ⊢
        have HPA := Lib.hid hpa
        clear hpa
        generalize new K N2 T1 = x0 at HB HI0
        go_wp2_with fail
        go_loopg [12] n (fun gm s wq => ∃ (j : Nat) (x : Sd), s = nm j ∧ n - j ≤ gm ∧ j ≤ n ∧ Hid (Bo [] w pa pr x x wq) ∧ Hid (Inv j x))
        case atStart => exact ⟨0, x0, rfl, by omega, by omega, HB, HI0⟩
        case round =>
          clear HB HI0 x0
          obtain ⟨j, x, rfl, hgm2, hjn, HB, HI⟩ := hrel
          by_cases hlt2 : j < n
          · have t3 : decide ((j : Int) < (n : Int)) = true := decide_eq_true (by omega)
            have t4 : (j : Int) < (n : Int) := by omega
            have j1 : (0 : Int) ≤ (j : Int) := by omega
            have vk := wrapn (j + 1) (by omega)
            obtain ⟨a, gb, go, rfl, ha, hgb, hrw⟩ := arg_at HA.out hlt2
            obtain ⟨c0, c1, c2, c3, c4, c5, c6, c7⟩ := hrw _ HB.out.below
            obtain ⟨ho, hns, hnr, hsz⟩ := HA.out.inb j hlt2
            generalize F j = cj at c0 c1 c2 c3 c4 c5 c6 c7 ho hns hnr hsz
            clear hrw
            have CD := Lib.hid (fdoes w _ pa pr j x cj HB.out HI.out (by omega) ho hns hnr)
            have HI2 := Lib.hid (after_inv cj HI.out)
            clear ho hns hnr HI HB
            go_wp2_with fail
            refine CD.out.mono ?_
            rintro _ w3 ⟨rfl, hx⟩
            have HC := Lib.hid hx
            clear hx CD c0 c1 c2 c3 c4 c5 c6 c7
            generalize after cj x = x2 at HC HI2
            go_wp2_with fail
            refine (bView HC.out HI2.out).mono ?_
            rintro _ w4 ⟨rfl, hx⟩
            have HD := Lib.hid hx
            clear hx HC
            have CT : Hid (Calls Try.prog 11 #[vwv (Ps.of x2), ptr pr] w4 fun e w' => e = .returned (.bool true) ∧ Below w4.heap.size w4 w') := by
              obtain ⟨v, u, tag, q1, q2, _⟩ := HD.out.ex
              exact Lib.hid (ftells w4 pr x2 u q2 HI2.out.ord (HI2.out.fit (by omega)))
            generalize vwv (Ps.of x2) = vv at CT ⊢
            go_wp2_with fail
            refine CT.out.mono ?_
            rintro _ w5 ⟨rfl, hb⟩
            have HE := Lib.hid (HD.out.on hb)
            clear hb HD CT
            go_wp2_with fail
            refine (bHas HE.out HI2.out).mono ?_
            rintro _ w6 ⟨rfl, hx⟩
            have HF := Lib.hid hx
            clear hx HE
            go_wp2_with fail
            refine (dHas HF.out).mono ?_
            rintro _ w7 ⟨rfl, hx⟩
            have HG := Lib.hid hx
            clear hx HF
            have bqq : (has x2 != has x2) = false := by simp
            have bqq2 : (!has x2 == has x2) = false := bqq
            generalize has x2 = hb at bqq bqq2 ⊢
            go_wp2
            go_roundg (n - (j + 1))
            case measure => omega
            case rel => exact ⟨j + 1, x2, by first | rfl | go_num, Nat.le_refl _, by omega, HG, HI2⟩
          · have t3 : decide ((j : Int) < (n : Int)) = false := decide_eq_false (by omega)
            have t4 : ¬ (j : Int) < (n : Int) := by omega
            have cw := Lib.hid (fworks wr)
            go_wp2_with fail
            refine cw.out.mono ?_
            rintro _ w9 ⟨rfl, hb⟩
            have HB9 : Hid (Below w.heap.size w w9) := Lib.hid (below_on HB.out.below hb)
            clear hb cw
            go_wp2
            go_ret
            exact ⟨rfl, HB9.out⟩
      · have CN := Lib.hid (fnew_no k n2 t1 hm w)
        have CR := Lib.hid (rnew_no k n2 t1 hm w)
        have cw := Lib.hid (fworks w)
        clear hm
        go_wp2_with fail
        refine CN.out.mono ?_
        rintro _ w1 ⟨rfl, rfl⟩
        go_wp2_with fail
        refine CR.out.mono ?_
        rintro _ w2 ⟨rfl, rfl⟩
        go_wp2_with fail
        refine cw.out.mono ?_
        rintro _ w9 ⟨rfl, hb⟩
        have HB9 : Hid (Below w.heap.size w w9) := Lib.hid (hb)
        clear hb cw
        go_wp2
        go_ret
        exact ⟨rfl, HB9.out⟩
end Go.Proofs.Ytkoaplmlabagnaa.arqPlays
