/-
  QueueOrder answers true whatever came in, and turns nothing that was there. No condition.
-/
import Derived.Test.YthocanbbonikiaaQuPlaysLaw
namespace Go.Proofs.Ythocanbbonikiaa.queueOrder
open Go.RowKit Go.Proofs.Ythocanbbonikiaa.Base Go.Proofs.Ythocanbbonikiaa.Mem Go.Proofs.Ythocanbbonikiaa.Cr Go.Proofs.Ythocanbbonikiaa.Qu
theorem six_lt (k : Int) (w : World) {j : Nat} (h : place k 6 = j) : Calls Try.prog 11 #[im k, im 6] w fun e w' => e = .returned (nm j) ∧ w = w' := six_at k w h rfl
theorem assoc (a b c : ByteArray) : a ++ b ++ c = a ++ (b ++ c) := bext (by simp)
set_option maxHeartbeats 8000000 in
set_option maxRecDepth 100000 in
theorem all (rm : Int) (oa : Option Addr) (n cap : Nat) (F : Nat → Ct) (hn : n ≤ maxLen) (w : World) (hA : ArgS 3 cc CFit w oa n F) :
    Calls Try.prog 4 #[im rm, .slice oa n cap] w fun e w' => e = .returned (.bool true) ∧ Below w.heap.size w w' := by
  have HA := Lib.hid hA
  have CF := Lib.hid (ffew oa n cap F w hA)
  have CW := Lib.hid fworks
  unfold maxLen at hn
  clear hA
  go_enter Try.func4, Try.ntmps4
  go_wp2_with fail
  refine CF.out.mono ?_
  rintro _ _ ⟨b, rfl, rfl, hf⟩
  have HF := Lib.hid hf
  clear CF hf
  cases b with
  | false =>
    go_wp2_with (go_at_call 8; refine (CW.out _).mono ?_; rintro x v ⟨rfl, hb⟩; have HB := Lib.hid hb; clear hb)
    go_ret
    exact ⟨rfl, HB.out⟩
  | true =>
  have hn2 : n ≤ 100 := HF.out rfl
  clear HF
  go_wp2_with fail
  refine (fnew rm w).mono ?_
  rintro _ w1 ⟨rfl, ha, hb1⟩
  have HA1 := Lib.hid ha
  have HB1 := Lib.hid hb1
  clear ha hb1
  go_wp2_with fail
  refine (rnew rm w1).mono ?_
  rintro _ w2 ⟨rfl, hb, hb2⟩
  have c0 : w2.cell? ⟨w1.heap.size, 0, none⟩ = some (nm (roomN rm)) := hb.cell 0 _ rfl
  have HP : Hid (Qn w (w.heap.size + 1) w.heap.size (roomN rm) ⟨#[]⟩ w2) := Lib.hid ⟨HA1.out.below hb2, by omega, Nat.le_refl _, below_on HB1.out hb2⟩
  have hl := hb.lt
  clear hb hb2 HA1 HB1
  generalize roomN rm = r at HP c0
  generalize w1.heap.size = ub at c0 hl ⊢
  generalize hw0 : w.heap.size = rb at HP ⊢
  obtain ⟨qb, hqb⟩ : ∃ x, rb + 1 = x := ⟨_, rfl⟩
  rw [hqb] at HP ⊢
  have HPB := Lib.hid hw0
  clear hqb hw0
  go_wp2_with fail
  clear c0 hl
  go_loopg [7, 8, 9] n (fun gm s7 s8 s9 wr => ∃ (k : Nat) (inp out tx : ByteArray), s7 = .string inp ∧ s8 = .string out ∧ s9 = nm k ∧ n - k ≤ gm ∧ k ≤ n ∧ Hid (Qn w qb rb r tx wr) ∧ Hid (out ++ tx = inp) ∧ Hid (inp.size ≤ 4096 * k))
  case atStart => exact ⟨0, ⟨#[]⟩, ⟨#[]⟩, _, rfl, rfl, rfl, by omega, by omega, HP, Lib.hid rfl, Lib.hid (Nat.le_refl _)⟩
  case round =>
    clear HP
    obtain ⟨k, inp, out, tx, rfl, rfl, rfl, hgm, hkn, HP, HE, HZ⟩ := hrel
    have HR := Lib.hid HP.out.q.room
    by_cases hlt : k < n
    · have t1 : decide ((k : Int) < (n : Int)) = true := decide_eq_true (by omega)
      have t2 : (k : Int) < (n : Int) := by omega
      have j0 : (0 : Int) ≤ (k : Int) := by omega
      have vk := wrap_nat (k + 1) (by omega)
      obtain ⟨a, gb, go, rfl, ha, hgb, hrw⟩ := arg_at HA.out hlt
      obtain ⟨c, hc⟩ : ∃ c, c = F k := ⟨_, rfl⟩
      rw [← hc] at hrw
      have HW := Lib.hid hrw
      obtain ⟨c0, _, _⟩ := hrw wr HP.out.below
      clear hrw hc
      obtain ⟨kd, sx, num⟩ := c
      dsimp only at c0 HW
      obtain ⟨j, hj⟩ : ∃ j, place kd 6 = j := ⟨_, rfl⟩
      have CP := Lib.hid (fun w => six_lt kd w hj)
      clear hj
      by_cases hj2 : j < 2
      · have g0 : decide ((j : Int) < (2 : Int)) = true := decide_eq_true (by omega)
        have g1 : (j : Int) < (2 : Int) := by omega
        have CA := Lib.hid (fun w h => fput w qb rb r tx sx h)
        have HM : Hid (room r tx sx = min sx.size (r - tx.size)) := Lib.hid rfl
        generalize room r tx sx = m at CA HM
        have b1 : m ≤ sx.size := by have := HM.out; omega
        have HU : Hid ((fst_ sx m).size = m) := Lib.hid (fst_size sx b1)
        obtain ⟨u, hu⟩ : ∃ u, fst_ sx m = u := ⟨_, rfl⟩
        rw [hu] at CA HU
        have c1 : wr.cell? ⟨gb, go + 1, none⟩ = some (.string sx) := (HW.out wr HP.out.below).2.1
        go_wp2_with (go_at_call 11; ((with_reducible refine (CP.out _).mono ?_); rintro e v ⟨rfl, rfl⟩))
        refine (CA.out _ HP.out.q).mono ?_
        rintro _ w5 ⟨rfl, hq, hc⟩
        have HP2 := Lib.hid (HP.out.step hq hc)
        clear hq hc CA c0 c1 CP HP
        have c1 : w5.cell? ⟨gb, go + 1, none⟩ = some (.string sx) := (HW.out w5 HP2.out.below).2.1
        have p0 : ¬ (m : Int) < 0 := by omega
        have p1 : decide ((m : Int) < 0) = false := decide_eq_false p0
        have p2 : ¬ (sx.size : Int) < (m : Int) := by omega
        have p3 : decide ((sx.size : Int) < (m : Int)) = false := decide_eq_false p2
        have p4 : ¬ 9223372036854775807 < inp.size + u.size := by have := HZ.out; have := HM.out; have := HU.out; have := HR.out; omega
        obtain ⟨t3, ht3⟩ : ∃ x, tx ++ u = x := ⟨_, rfl⟩
        have HT : Hid (t3.size = tx.size + m) := Lib.hid (by rw [← ht3, app_size, HU.out])
        rw [ht3] at HP2
        obtain ⟨in2, hin⟩ : ∃ x, inp ++ u = x := ⟨_, rfl⟩
        have HE2 : Hid (out ++ t3 = in2) := Lib.hid (by rw [← hin, ← ht3, ← HE.out, assoc])
        have HZ2 : Hid (in2.size ≤ 4096 * (k + 1)) := Lib.hid (by rw [← hin, app_size, HU.out]; have := HZ.out; have := HM.out; have := HR.out; omega)
        clear ht3
        have HR2 := Lib.hid HP2.out.q.room
        by_cases hfull : m < sx.size
        · have p5 : decide ((m : Int) < (sx.size : Int)) = true := decide_eq_true (by omega)
          have p6 : (m : Int) < (sx.size : Int) := by omega
          have CB := Lib.hid (ffree w5 qb rb r t3 HP2.out.q)
          rw [show r - t3.size = 0 by have := HT.out; have := HM.out; have := HR.out; omega] at CB
          go_wp2_with fail
          refine CB.out.mono ?_
          rintro _ w6 ⟨rfl, nq, rfl⟩
          have c2 : (w5.drewN nq).cell? ⟨gb, go + 1, none⟩ = some (.string sx) := c1
          have HP3 := Lib.hid (HP2.out.drewN nq)
          clear c1 HP2 CB
          generalize w5.drewN nq = w6 at HP3 c2 ⊢
          have HO2 : Hid (out.size + t3.size = in2.size) := Lib.hid (by rw [← HE2.out, app_size])
          obtain ⟨d, hd⟩ : ∃ d, r - t3.size = d := ⟨_, rfl⟩
          have C1 := Lib.hid (flen w6 qb rb r t3 HP3.out.q)
          have C2 := Lib.hid (ffree w6 qb rb r t3 HP3.out.q)
          rw [hd] at C2
          obtain ⟨cn, hcn⟩ : ∃ c, t3.size = c := ⟨_, rfl⟩
          have HCN := Lib.hid hcn
          rw [hcn] at C1
          have q0 : ¬ (r : Int) < (cn : Int) := by have := HR2.out; omega
          have q1 : decide ((r : Int) < (cn : Int)) = false := decide_eq_false q0
          have q2 : IntKind.i64.wrap ((cn : Int) + (d : Int)) = (r : Int) := by rw [IntKind.wrap_i64]; have := HR2.out; omega
          have q3 : ((r : Int) != (r : Int)) = false := by simp
          have q4 : ((cn : Int) != (cn : Int)) = false := by simp
          have q5 : IntKind.i64.wrap ((in2.size : Int) - (out.size : Int)) = (cn : Int) := by rw [IntKind.wrap_i64]; have := HR2.out; have := HO2.out; omega
          clear hd hcn HR2 HO2
          go_wp2_with (first
            | (go_at_call 20; refine C1.out.mono ?_; rintro x v ⟨rfl, rfl⟩))
          refine C2.out.mono ?_
          rintro _ w7 ⟨rfl, nr, rfl⟩
          have HP4 := Lib.hid (HP3.out.drewN nr)
          have C3 := Lib.hid (flen (w6.drewN nr) qb rb r t3 HP4.out.q)
          rw [HCN.out] at C3
          go_wp2_with (go_at_call 20; refine C3.out.mono ?_; rintro x v ⟨rfl, rfl⟩)
          go_roundg (n - (k + 1))
          case measure => omega
          case rel => exact ⟨k + 1, in2, out, t3, by first | rfl | go_num, by first | rfl | go_num, by first | rfl | go_num, Nat.le_refl _, by omega, HP4, HE2, HZ2⟩
        · have p5 : decide ((m : Int) < (sx.size : Int)) = false := decide_eq_false (by omega)
          have p6 : ¬ (m : Int) < (sx.size : Int) := by omega
          have HP3 := HP2
          clear HP2
          generalize w5 = w6 at HP3 c1 ⊢
          have HO2 : Hid (out.size + t3.size = in2.size) := Lib.hid (by rw [← HE2.out, app_size])
          obtain ⟨d, hd⟩ : ∃ d, r - t3.size = d := ⟨_, rfl⟩
          have C1 := Lib.hid (flen w6 qb rb r t3 HP3.out.q)
          have C2 := Lib.hid (ffree w6 qb rb r t3 HP3.out.q)
          rw [hd] at C2
          obtain ⟨cn, hcn⟩ : ∃ c, t3.size = c := ⟨_, rfl⟩
          have HCN := Lib.hid hcn
          rw [hcn] at C1
          have q0 : ¬ (r : Int) < (cn : Int) := by have := HR2.out; omega
          have q1 : decide ((r : Int) < (cn : Int)) = false := decide_eq_false q0
          have q2 : IntKind.i64.wrap ((cn : Int) + (d : Int)) = (r : Int) := by rw [IntKind.wrap_i64]; have := HR2.out; omega
          have q3 : ((r : Int) != (r : Int)) = false := by simp
          have q4 : ((cn : Int) != (cn : Int)) = false := by simp
          have q5 : IntKind.i64.wrap ((in2.size : Int) - (out.size : Int)) = (cn : Int) := by rw [IntKind.wrap_i64]; have := HR2.out; have := HO2.out; omega
          clear hd hcn HR2 HO2
          go_wp2_with (first
            | (go_at_call 20; refine C1.out.mono ?_; rintro x v ⟨rfl, rfl⟩))
          refine C2.out.mono ?_
          rintro _ w7 ⟨rfl, nr, rfl⟩
          have HP4 := Lib.hid (HP3.out.drewN nr)
          have C3 := Lib.hid (flen (w6.drewN nr) qb rb r t3 HP4.out.q)
          rw [HCN.out] at C3
          go_wp2_with (go_at_call 20; refine C3.out.mono ?_; rintro x v ⟨rfl, rfl⟩)
          go_roundg (n - (k + 1))
          case measure => omega
          case rel => exact ⟨k + 1, in2, out, t3, by first | rfl | go_num, by first | rfl | go_num, by first | rfl | go_num, Nat.le_refl _, by omega, HP4, HE2, HZ2⟩
      · have g0 : decide ((j : Int) < (2 : Int)) = false := decide_eq_false (by omega)
        have g1 : ¬ (j : Int) < (2 : Int) := by omega
        have CA := Lib.hid (fun w h => fpeek w qb rb r tx h num)
        have CB := Lib.hid (fun w h => fnext w qb rb r tx h num)
        obtain ⟨mx, hmx⟩ : ∃ x, max 0 num = x := ⟨_, rfl⟩
        have HQ : Hid (cut num tx.size ≤ tx.size ∧ (cut num tx.size : Int) ≤ mx) := Lib.hid ⟨cut_le _ _, by rw [← hmx]; unfold cut; omega⟩
        generalize cut num tx.size = q at CA CB HQ
        have HU : Hid ((fst_ tx q).size = q) := Lib.hid (fst_size tx HQ.out.1)
        have HS : Hid (fst_ tx q ++ rst_ tx q = tx) := Lib.hid (fst_rst tx q)
        generalize rst_ tx q = t3 at CA CB HS
        generalize fst_ tx q = z at CA CB HU HS
        have zz : (z.toList == z.toList) = true := beq_self_eq_true _
        have z2 : (z.toList != z.toList) = false := by simp
        have p2 : ¬ mx < (z.size : Int) := by have := HU.out; have := HQ.out; omega
        have p3 : decide (mx < (z.size : Int)) = false := decide_eq_false p2
        have c2 : wr.cell? ⟨gb, go + 2, none⟩ = some (im num) := (HW.out wr HP.out.below).2.2
        go_wp2_with (go_at_call 11; ((with_reducible refine (CP.out _).mono ?_); rintro e v ⟨rfl, rfl⟩))
        refine (CA.out _ HP.out.q).mono ?_
        rintro _ w5 ⟨rfl, hb⟩
        have HP2 := Lib.hid (HP.out.on hb)
        clear hb CA c0 c2 CP HP
        have c2 : w5.cell? ⟨gb, go + 2, none⟩ = some (im num) := (HW.out w5 HP2.out.below).2.2
        go_wp2_with fail
        refine (CB.out _ HP2.out.q).mono ?_
        rintro _ w6 ⟨rfl, hq, hc⟩
        have HP3 := Lib.hid (HP2.out.step hq hc)
        clear hq hc CB c2 HP2
        have c2 : w6.cell? ⟨gb, go + 2, none⟩ = some (im num) := (HW.out w6 HP3.out.below).2.2
        have HO : Hid (out.size + tx.size = inp.size) := Lib.hid (by rw [← HE.out, app_size])
        have p4 : ¬ 9223372036854775807 < out.size + z.size := by have := HO.out; have := HZ.out; have := HU.out; have := HQ.out; omega
        obtain ⟨out2, hout⟩ : ∃ x, out ++ z = x := ⟨_, rfl⟩
        have HE2 : Hid (out2 ++ t3 = inp) := Lib.hid (by rw [← hout, assoc, HS.out, HE.out])
        have HZ2 : Hid (inp.size ≤ 4096 * (k + 1)) := Lib.hid (by have := HZ.out; omega)
        have HR2 := Lib.hid HP3.out.q.room
        have HO2 : Hid (out2.size + t3.size = inp.size) := Lib.hid (by rw [← HE2.out, app_size])
        obtain ⟨d, hd⟩ : ∃ d, r - t3.size = d := ⟨_, rfl⟩
        have C1 := Lib.hid (flen w6 qb rb r t3 HP3.out.q)
        have C2 := Lib.hid (ffree w6 qb rb r t3 HP3.out.q)
        rw [hd] at C2
        obtain ⟨cn, hcn⟩ : ∃ c, t3.size = c := ⟨_, rfl⟩
        have HCN := Lib.hid hcn
        rw [hcn] at C1
        have q0 : ¬ (r : Int) < (cn : Int) := by have := HR2.out; omega
        have q1 : decide ((r : Int) < (cn : Int)) = false := decide_eq_false q0
        have q2 : IntKind.i64.wrap ((cn : Int) + (d : Int)) = (r : Int) := by rw [IntKind.wrap_i64]; have := HR2.out; omega
        have q3 : ((r : Int) != (r : Int)) = false := by simp
        have q4 : ((cn : Int) != (cn : Int)) = false := by simp
        have q5 : IntKind.i64.wrap ((inp.size : Int) - (out2.size : Int)) = (cn : Int) := by rw [IntKind.wrap_i64]; have := HR2.out; have := HO2.out; omega
        clear hd hcn HR2 HO2
        go_wp2_with (first
          | (go_at_call 20; refine C1.out.mono ?_; rintro x v ⟨rfl, rfl⟩))
        refine C2.out.mono ?_
        rintro _ w7 ⟨rfl, nr, rfl⟩
        have HP4 := Lib.hid (HP3.out.drewN nr)
        have C3 := Lib.hid (flen (w6.drewN nr) qb rb r t3 HP4.out.q)
        rw [HCN.out] at C3
        go_wp2_with (go_at_call 20; refine C3.out.mono ?_; rintro x v ⟨rfl, rfl⟩)
        go_roundg (n - (k + 1))
        case measure => omega
        case rel => exact ⟨k + 1, inp, out2, t3, by first | rfl | go_num, by first | rfl | go_num, by first | rfl | go_num, Nat.le_refl _, by omega, HP4, HE2, HZ2⟩
    · have t1 : decide ((k : Int) < (n : Int)) = false := decide_eq_false (by omega)
      have t2 : ¬ (k : Int) < (n : Int) := by omega
      have CA := Lib.hid (fnext_at wr HP.out.q 4096 tx.size (by have := HR.out; unfold cut; omega) tx (fst_all tx (Nat.le_refl _)) ⟨#[]⟩ (rst_all tx (Nat.le_refl _)))
      have HO : Hid (out.size + tx.size = inp.size) := Lib.hid (by rw [← HE.out, app_size])
      have p4 : ¬ 9223372036854775807 < out.size + tx.size := by have := HO.out; have := HZ.out; omega
      have zz : (inp.toList == inp.toList) = true := beq_self_eq_true _
      have he := HE.out
      clear HO HE HZ HR
      go_wp2_with fail
      refine CA.out.mono ?_
      rintro _ w5 ⟨rfl, hq, hc⟩
      have HP2 := Lib.hid (HP.out.step hq hc)
      clear hq hc CA HP
      go_wp2_with (first
        | (go_at_call 20; refine (flen _ qb rb r ⟨#[]⟩ HP2.out.q).mono ?_; rintro x v ⟨rfl, rfl⟩)
        | (go_at_call 8; refine (CW.out _).mono ?_; rintro x v ⟨rfl, hb⟩; have HB := Lib.hid (HP2.out.on hb); clear hb))
      go_ret
      exact ⟨rfl, HPB.out ▸ HB.out.below⟩
theorem law (rm : Int) (_ : -9223372036854775808 ≤ rm ∧ rm ≤ 9223372036854775807) (oa : Option Addr) (n cap : Nat) (F : Nat → Ct) (hn : n ≤ maxLen) (w : World) (hA : ArgS 3 cc CFit w oa n F) :
    Calls Try.prog 4 #[im rm, .slice oa n cap] w fun e w' => e = .returned (.bool true) ∧ Below w.heap.size w w' := all rm oa n cap F hn w hA
end Go.Proofs.Ythocanbbonikiaa.queueOrder
