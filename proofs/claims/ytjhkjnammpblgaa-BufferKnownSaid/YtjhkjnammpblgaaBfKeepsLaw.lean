/-
  BufferKeeps answers true whatever came in, and turns nothing that was there. No condition.
-/
import Derived.Test.YtjhkjnammpblgaaBfTells
import Derived.Deep.LoopGhost
namespace Go.Proofs.Ytjhkjnammpblgaa.bufferKeeps
open Go.RowKit Go.Proofs.Ytjhkjnammpblgaa.Base Go.Proofs.Ytjhkjnammpblgaa.Mem Go.Proofs.Ytjhkjnammpblgaa.Cr Go.Proofs.Ytjhkjnammpblgaa.Bf
theorem assoc (a b c : ByteArray) : a ++ b ++ c = a ++ (b ++ c) := bext (by simp)
theorem begins (a b : ByteArray) : (a ++ b).extract 0 a.size = a := bext (by rw [ext_list, app_list, List.drop_zero, ← size_toList, List.take_left])
set_option maxHeartbeats 8000000 in
set_option maxRecDepth 100000 in
theorem all (x : Int) (hx : 0 ≤ x ∧ x ≤ 65535) (oa : Option Addr) (n cap : Nat) (F : Nat → Ct) (hn : n ≤ maxLen) (w : World) (hA : ArgS 3 cc CFit w oa n F) :
    Calls Try.prog 4 #[.int .u16 x, .slice oa n cap] w fun e w' => e = .returned (.bool true) ∧ Below w.heap.size w w' := by
  have HA := Lib.hid hA
  have CW := Lib.hid fworks
  unfold maxLen at hn
  clear hA
  obtain ⟨e, he⟩ : ∃ y, x.tmod 4096 = y := ⟨_, rfl⟩
  have he0 : 0 ≤ e ∧ e < 4096 := by have := Int.tmod_nonneg 4096 hx.1; have := Int.tmod_lt_of_pos x (show (0 : Int) < 4096 by decide); omega
  obtain ⟨r, hr⟩ : ∃ r : Nat, 1 + e = (r : Int) := ⟨(1 + e).toNat, by omega⟩
  obtain ⟨m, hm⟩ : ∃ m : Nat, (r : Int).tdiv 3 = (m : Int) := ⟨((r : Int).tdiv 3).toNat, by rw [Int.tdiv_eq_ediv_of_nonneg (by omega)]; omega⟩
  have hmr : m ≤ r := by rw [Int.tdiv_eq_ediv_of_nonneg (by omega)] at hm; omega
  have v1 : IntKind.u16.wrap e = e := by rw [IntKind.wrap_u16]; omega
  have v2 : IntKind.i64.wrap e = e := by rw [IntKind.wrap_i64]; omega
  have v3 : IntKind.i64.wrap (1 + e) = (r : Int) := by rw [IntKind.wrap_i64]; omega
  have v4 : IntKind.i64.wrap (m : Int) = (m : Int) := by rw [IntKind.wrap_i64]; omega
  have HM : Hid (0 < r ∧ r ≤ 4096 ∧ m ≤ r) := Lib.hid (by omega)
  clear hx he0 hr hmr
  go_enter Try.func4, Try.ntmps4
  go_wp2_with fail
  refine (fnew r m HM.out.1 HM.out.2.1 HM.out.2.2 w).mono ?_
  rintro _ w1 ⟨rfl, ha, hb1⟩
  have HP : Hid (Bn w w.heap.size r m ⟨#[]⟩ w1) := Lib.hid ⟨ha, Nat.le_refl _, hb1⟩
  clear ha hb1 v1 v2 v3 v4 he hm
  generalize hw0 : w.heap.size = b at HP ⊢
  have HPB := Lib.hid hw0
  clear hw0
  go_wp2_with fail
  refine (ffew_at oa n cap F w w1 HA.out HP.out.below).mono ?_
  rintro _ _ ⟨fb, rfl, rfl, hf⟩
  have HF := Lib.hid hf
  clear hf
  cases fb with
  | false =>
    go_wp2_with (go_at_call 8; refine (CW.out _).mono ?_; rintro x v ⟨rfl, hb⟩; have HB := Lib.hid (HP.out.on hb); clear hb)
    go_ret
    exact ⟨rfl, HPB.out ▸ HB.out.below⟩
  | true =>
  have hn2 : n ≤ 100 := HF.out rfl
  clear HF
  go_wp2_with fail
  go_loopg [7, 8, 9] n (fun gm s7 s8 s9 wr => ∃ (k : Nat) (inp out tx : ByteArray), s7 = .string inp ∧ s8 = .string out ∧ s9 = nm k ∧ n - k ≤ gm ∧ k ≤ n ∧ Hid (Bn w b r m tx wr) ∧ Hid (out ++ tx = inp) ∧ Hid (inp.size ≤ 4096 * k))
  case atStart => exact ⟨0, ⟨#[]⟩, ⟨#[]⟩, _, rfl, rfl, rfl, by omega, by omega, HP, Lib.hid rfl, Lib.hid (Nat.le_refl _)⟩
  case round =>
    clear HP
    obtain ⟨k, inp, out, tx, rfl, rfl, rfl, hgm, hkn, HP, HE, HZ⟩ := hrel
    have HR := Lib.hid HP.out.q.room
    by_cases hlt : k < n
    · have t1 : decide ((k : Int) < (n : Int)) = true := decide_eq_true (by omega)
      have t2 : (k : Int) < (n : Int) := by omega
      have j0 : (0 : Int) ≤ (k : Int) := by omega
      have vk := wrap_nat (k + 1) (by omega)
      obtain ⟨a, gb, go, rfl, ha, hgb, hrw⟩ := arg_at HA.out hlt
      obtain ⟨c, hc⟩ : ∃ c, c = F k := ⟨_, rfl⟩
      rw [← hc] at hrw
      have HW := Lib.hid hrw
      obtain ⟨c0, c1, c2⟩ := hrw wr HP.out.below
      clear hrw hc
      obtain ⟨fl, num, sx⟩ := c
      dsimp only at c0 c1 c2 HW
      cases fl with
      | false =>
        have CA := Lib.hid (fun w h => fput w b r m tx sx h)
        have HM : Hid (room r tx sx = min sx.size (r - tx.size)) := Lib.hid rfl
        generalize room r tx sx = z at CA HM
        have b1 : z ≤ sx.size := by have := HM.out; omega
        have HU : Hid ((fst_ sx z).size = z) := Lib.hid (fst_size sx b1)
        obtain ⟨u, hu⟩ : ∃ u, fst_ sx z = u := ⟨_, rfl⟩
        rw [hu] at CA HU
        go_wp2_with fail
        refine (CA.out _ HP.out.q).mono ?_
        rintro _ w5 ⟨rfl, hq, hc⟩
        have HP2 := Lib.hid (HP.out.step hq hc)
        clear hq hc CA c0 c1 c2 HP
        have c1 : w5.cell? ⟨gb, go + 2, none⟩ = some (.string sx) := (HW.out w5 HP2.out.below).2.2
        have p0 : ¬ (z : Int) < 0 := by omega
        have p1 : decide ((z : Int) < 0) = false := decide_eq_false p0
        have p2 : ¬ (sx.size : Int) < (z : Int) := by omega
        have p3 : decide ((sx.size : Int) < (z : Int)) = false := decide_eq_false p2
        have p4 : ¬ 9223372036854775807 < inp.size + u.size := by have := HZ.out; have := HM.out; have := HU.out; have := HR.out; omega
        obtain ⟨t3, ht3⟩ : ∃ x, tx ++ u = x := ⟨_, rfl⟩
        have HT : Hid (t3.size = tx.size + z) := Lib.hid (by rw [← ht3, app_size, HU.out])
        rw [ht3] at HP2
        obtain ⟨in2, hin⟩ : ∃ x, inp ++ u = x := ⟨_, rfl⟩
        have HE2 : Hid (out ++ t3 = in2) := Lib.hid (by rw [← hin, ← ht3, ← HE.out, assoc])
        have HZ2 : Hid (in2.size ≤ 4096 * (k + 1)) := Lib.hid (by rw [← hin, app_size, HU.out]; have := HZ.out; have := HM.out; have := HR.out; omega)
        clear ht3
        have HR2 := Lib.hid HP2.out.q.room
        by_cases hfull : z < sx.size
        · have p5 : decide ((z : Int) < (sx.size : Int)) = true := decide_eq_true (by omega)
          have p6 : (z : Int) < (sx.size : Int) := by omega
          have CB := Lib.hid (ffree HP2.out.q)
          rw [show r - t3.size = 0 by have := HT.out; have := HM.out; have := HR.out; omega] at CB
          go_wp2_with fail
          refine CB.out.mono ?_
          rintro _ w6 ⟨rfl, nq, rfl⟩
          have c2 : (w5.drewN nq).cell? ⟨gb, go + 2, none⟩ = some (.string sx) := c1
          have HP3 := Lib.hid (HP2.out.drewN nq)
          clear c1 HP2 CB
          generalize w5.drewN nq = w6 at HP3 c2 ⊢
          have HO2 : Hid (out.size + t3.size = in2.size) := Lib.hid (by rw [← HE2.out, app_size])
          obtain ⟨d, hd⟩ : ∃ d, r - t3.size = d := ⟨_, rfl⟩
          have C1 := Lib.hid (flen HP3.out.q)
          have C2 := Lib.hid (ffree HP3.out.q)
          rw [hd] at C2
          obtain ⟨cn, hcn⟩ : ∃ c, t3.size = c := ⟨_, rfl⟩
          rw [hcn] at C1
          have q0 : ¬ (r : Int) < (cn : Int) := by have := HR2.out; omega
          have q1 : decide ((r : Int) < (cn : Int)) = false := decide_eq_false q0
          have q2 : IntKind.i64.wrap ((cn : Int) + (d : Int)) = (r : Int) := by rw [IntKind.wrap_i64]; have := HR2.out; omega
          have q3 : ((r : Int) != (r : Int)) = false := by simp
          have q4 : ((cn : Int) != (cn : Int)) = false := by simp
          have q5 : IntKind.i64.wrap ((in2.size : Int) - (out.size : Int)) = (cn : Int) := by rw [IntKind.wrap_i64]; have := HR2.out; have := HO2.out; omega
          have q6 : ¬ (in2.size : Int) < (out.size : Int) := by have := HO2.out; omega
          have q7 : decide ((in2.size : Int) < (out.size : Int)) = false := decide_eq_false q6
          have q8 : in2.extract 0 out.size = out := by rw [← HE2.out]; exact begins out t3
          have q9 : (out.toList != out.toList) = false := bne_self_eq_false _
          have q10 : (0 : Int) ≤ (out.size : Int) := by omega
          have q11 : (out.size : Int) ≤ (in2.size : Int) := by have := HO2.out; omega
          have q12 : out.size ≤ in2.size := by have := HO2.out; omega
          clear hd hcn HR2 HO2
          go_wp2_with (first
            | (go_at_call 17; refine C1.out.mono ?_; rintro x v ⟨rfl, rfl⟩))
          refine C2.out.mono ?_
          rintro _ w7 ⟨rfl, nr, rfl⟩
          have HP4 := Lib.hid (HP3.out.drewN nr)
          clear HP3 C1 C2
          generalize w6.drewN nr = w7 at HP4 ⊢
          go_wp2
          go_roundg (n - (k + 1))
          case measure => omega
          case rel => exact ⟨k + 1, in2, out, t3, by first | rfl | go_num, by first | rfl | go_num, by first | rfl | go_num, Nat.le_refl _, by omega, HP4, HE2, HZ2⟩
        · have p5 : decide ((z : Int) < (sx.size : Int)) = false := decide_eq_false (by omega)
          have p6 : ¬ (z : Int) < (sx.size : Int) := by omega
          have HP3 := HP2
          clear HP2
          generalize w5 = w6 at HP3 c1 ⊢
          have HO2 : Hid (out.size + t3.size = in2.size) := Lib.hid (by rw [← HE2.out, app_size])
          obtain ⟨d, hd⟩ : ∃ d, r - t3.size = d := ⟨_, rfl⟩
          have C1 := Lib.hid (flen HP3.out.q)
          have C2 := Lib.hid (ffree HP3.out.q)
          rw [hd] at C2
          obtain ⟨cn, hcn⟩ : ∃ c, t3.size = c := ⟨_, rfl⟩
          rw [hcn] at C1
          have q0 : ¬ (r : Int) < (cn : Int) := by have := HR2.out; omega
          have q1 : decide ((r : Int) < (cn : Int)) = false := decide_eq_false q0
          have q2 : IntKind.i64.wrap ((cn : Int) + (d : Int)) = (r : Int) := by rw [IntKind.wrap_i64]; have := HR2.out; omega
          have q3 : ((r : Int) != (r : Int)) = false := by simp
          have q4 : ((cn : Int) != (cn : Int)) = false := by simp
          have q5 : IntKind.i64.wrap ((in2.size : Int) - (out.size : Int)) = (cn : Int) := by rw [IntKind.wrap_i64]; have := HR2.out; have := HO2.out; omega
          have q6 : ¬ (in2.size : Int) < (out.size : Int) := by have := HO2.out; omega
          have q7 : decide ((in2.size : Int) < (out.size : Int)) = false := decide_eq_false q6
          have q8 : in2.extract 0 out.size = out := by rw [← HE2.out]; exact begins out t3
          have q9 : (out.toList != out.toList) = false := bne_self_eq_false _
          have q10 : (0 : Int) ≤ (out.size : Int) := by omega
          have q11 : (out.size : Int) ≤ (in2.size : Int) := by have := HO2.out; omega
          have q12 : out.size ≤ in2.size := by have := HO2.out; omega
          clear hd hcn HR2 HO2
          go_wp2_with (first
            | (go_at_call 17; refine C1.out.mono ?_; rintro x v ⟨rfl, rfl⟩))
          refine C2.out.mono ?_
          rintro _ w7 ⟨rfl, nr, rfl⟩
          have HP4 := Lib.hid (HP3.out.drewN nr)
          clear HP3 C1 C2
          generalize w6.drewN nr = w7 at HP4 ⊢
          go_wp2
          go_roundg (n - (k + 1))
          case measure => omega
          case rel => exact ⟨k + 1, in2, out, t3, by first | rfl | go_num, by first | rfl | go_num, by first | rfl | go_num, Nat.le_refl _, by omega, HP4, HE2, HZ2⟩
      | true =>
        have CB := Lib.hid (fun w h => fget w b r m tx h num)
        have HQ : Hid (cut num tx.size ≤ tx.size) := Lib.hid (cut_le _ _)
        generalize cut num tx.size = q at CB HQ
        have HU : Hid ((fst_ tx q).size = q) := Lib.hid (fst_size tx HQ.out)
        have HS : Hid (fst_ tx q ++ rst_ tx q = tx) := Lib.hid (fst_rst tx q)
        generalize rst_ tx q = t3 at CB HS
        generalize fst_ tx q = z at CB HU HS
        go_wp2_with fail
        refine (CB.out _ HP.out.q).mono ?_
        rintro _ w6 ⟨rfl, hq, hc⟩
        have HP3 := Lib.hid (HP.out.step hq hc)
        clear hq hc CB c0 c1 c2 HP
        have HO : Hid (out.size + tx.size = inp.size) := Lib.hid (by rw [← HE.out, app_size])
        have p4 : ¬ 9223372036854775807 < out.size + z.size := by have := HO.out; have := HZ.out; have := HU.out; have := HQ.out; omega
        obtain ⟨out2, hout⟩ : ∃ x, out ++ z = x := ⟨_, rfl⟩
        have HE2 : Hid (out2 ++ t3 = inp) := Lib.hid (by rw [← hout, assoc, HS.out, HE.out])
        have HZ2 : Hid (inp.size ≤ 4096 * (k + 1)) := Lib.hid (by have := HZ.out; omega)
        have HR2 := Lib.hid HP3.out.q.room
        have HO2 : Hid (out2.size + t3.size = inp.size) := Lib.hid (by rw [← HE2.out, app_size])
        obtain ⟨d, hd⟩ : ∃ d, r - t3.size = d := ⟨_, rfl⟩
        have C1 := Lib.hid (flen HP3.out.q)
        have C2 := Lib.hid (ffree HP3.out.q)
        rw [hd] at C2
        obtain ⟨cn, hcn⟩ : ∃ c, t3.size = c := ⟨_, rfl⟩
        rw [hcn] at C1
        have q0 : ¬ (r : Int) < (cn : Int) := by have := HR2.out; omega
        have q1 : decide ((r : Int) < (cn : Int)) = false := decide_eq_false q0
        have q2 : IntKind.i64.wrap ((cn : Int) + (d : Int)) = (r : Int) := by rw [IntKind.wrap_i64]; have := HR2.out; omega
        have q3 : ((r : Int) != (r : Int)) = false := by simp
        have q4 : ((cn : Int) != (cn : Int)) = false := by simp
        have q5 : IntKind.i64.wrap ((inp.size : Int) - (out2.size : Int)) = (cn : Int) := by rw [IntKind.wrap_i64]; have := HR2.out; have := HO2.out; omega
        have q6 : ¬ (inp.size : Int) < (out2.size : Int) := by have := HO2.out; omega
        have q7 : decide ((inp.size : Int) < (out2.size : Int)) = false := decide_eq_false q6
        have q8 : inp.extract 0 out2.size = out2 := by rw [← HE2.out]; exact begins out2 t3
        have q9 : (out2.toList != out2.toList) = false := bne_self_eq_false _
        have q10 : (0 : Int) ≤ (out2.size : Int) := by omega
        have q11 : (out2.size : Int) ≤ (inp.size : Int) := by have := HO2.out; omega
        have q12 : out2.size ≤ inp.size := by have := HO2.out; omega
        clear hd hcn HR2 HO2
        go_wp2_with (first
          | (go_at_call 17; refine C1.out.mono ?_; rintro x v ⟨rfl, rfl⟩))
        refine C2.out.mono ?_
        rintro _ w7 ⟨rfl, nr, rfl⟩
        have HP4 := Lib.hid (HP3.out.drewN nr)
        clear HP3 C1 C2
        generalize w6.drewN nr = w7 at HP4 ⊢
        go_wp2
        go_roundg (n - (k + 1))
        case measure => omega
        case rel => exact ⟨k + 1, inp, out2, t3, by first | rfl | go_num, by first | rfl | go_num, by first | rfl | go_num, Nat.le_refl _, by omega, HP4, HE2, HZ2⟩
    · have t1 : decide ((k : Int) < (n : Int)) = false := decide_eq_false (by omega)
      have t2 : ¬ (k : Int) < (n : Int) := by omega
      have CA := Lib.hid (fget_at wr HP.out.q (r : Int) tx.size (by have := HR.out; unfold cut; omega) tx (fst_all tx (Nat.le_refl _)) ⟨#[]⟩ (rst_all tx (Nat.le_refl _)))
      have HO : Hid (out.size + tx.size = inp.size) := Lib.hid (by rw [← HE.out, app_size])
      have p4 : ¬ 9223372036854775807 < out.size + tx.size := by have := HO.out; have := HZ.out; omega
      have zz : (inp.toList == inp.toList) = true := beq_self_eq_true _
      have he := HE.out
      clear HO HE HZ HR
      go_wp2_with fail
      refine CA.out.mono ?_
      rintro _ w5 ⟨rfl, hq, hc⟩
      have HP2 := Lib.hid (HP.out.step hq hc)
      clear hq hc CA HP
      go_wp2_with (first
        | (go_at_call 17; refine (flen HP2.out.q).mono ?_; rintro x v ⟨rfl, rfl⟩)
        | (go_at_call 8; refine (CW.out _).mono ?_; rintro x v ⟨rfl, hb⟩; have HB := Lib.hid (HP2.out.on hb); clear hb))
      go_ret
      exact ⟨rfl, HPB.out ▸ HB.out.below⟩
theorem law (x : Nat) (hx : x < 65536) (oa : Option Addr) (n cap : Nat) (F : Nat → Ct) (hn : n ≤ maxLen) (w : World) (hA : ArgS 3 cc CFit w oa n F) :
    Calls Try.prog 4 #[.int .u16 (x : Int), .slice oa n cap] w fun e w' => e = .returned (.bool true) ∧ Below w.heap.size w w' := all x (by omega) oa n cap F hn w hA
end Go.Proofs.Ytjhkjnammpblgaa.bufferKeeps
