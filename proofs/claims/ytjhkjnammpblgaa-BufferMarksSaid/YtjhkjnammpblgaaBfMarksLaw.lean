/-
  BufferMarks answers true whatever came in, and turns nothing that was there. No condition.
-/
import Derived.Test.YtjhkjnammpblgaaBfTells
import Derived.Deep.LoopGhost
namespace Go.Proofs.Ytjhkjnammpblgaa.bufferMarks
open Go.RowKit Go.Proofs.Ytjhkjnammpblgaa.Base Go.Proofs.Ytjhkjnammpblgaa.Mem Go.Proofs.Ytjhkjnammpblgaa.Cr Go.Proofs.Ytjhkjnammpblgaa.Bf
/-- Never high and low at once. -/
theorem three (r m c : Nat) (h : m ≤ r) : (highB r m c = true ∧ lowB r m c = false) ∨ (highB r m c = false ∧ lowB r m c = true) ∨ (highB r m c = false ∧ lowB r m c = false) := by
  unfold highB lowB
  by_cases h1 : r - c < m
  · exact .inl ⟨decide_eq_true h1, decide_eq_false (by omega)⟩
  · by_cases h2 : c = 0 ∨ m + m ≤ r - c
    · exact .inr (.inl ⟨decide_eq_false h1, decide_eq_true h2⟩)
    · exact .inr (.inr ⟨decide_eq_false h1, decide_eq_false h2⟩)
theorem high_mono {r m c d : Nat} (h : c ≤ d) (x : highB r m c = true) : highB r m d = true := by
  have := of_decide_eq_true x
  exact decide_eq_true (by omega)
theorem low_mono {r m c d : Nat} (h : c ≤ d) (x : lowB r m d = true) : lowB r m c = true := by
  have := of_decide_eq_true x
  exact decide_eq_true (by omega)
theorem tf {a : Bool} (h : a = true) (h' : a = false) : False := by rw [h] at h'; cases h'
set_option maxHeartbeats 8000000 in
set_option maxRecDepth 100000 in
theorem all (x : Int) (hx : 0 ≤ x ∧ x ≤ 65535) (y : Int) (hy : 0 ≤ y ∧ y ≤ 65535) (oa : Option Addr) (n cap : Nat) (F : Nat → Ct) (hn : n ≤ maxLen) (w : World) (hA : ArgS 3 cc CFit w oa n F) :
    Calls Try.prog 5 #[.int .u16 x, .int .u16 y, .slice oa n cap] w fun e w' => e = .returned (.bool true) ∧ Below w.heap.size w w' := by
  have HA := Lib.hid hA
  have CW := Lib.hid fworks
  unfold maxLen at hn
  clear hA
  obtain ⟨e, he⟩ : ∃ y, x.tmod 4096 = y := ⟨_, rfl⟩
  have he0 : 0 ≤ e ∧ e < 4096 := by have := Int.tmod_nonneg 4096 hx.1; have := Int.tmod_lt_of_pos x (show (0 : Int) < 4096 by decide); omega
  obtain ⟨r, hr⟩ : ∃ r : Nat, 1 + e = (r : Int) := ⟨(1 + e).toNat, by omega⟩
  obtain ⟨r1, hr1⟩ : ∃ r1 : Nat, r + 1 = r1 := ⟨_, rfl⟩
  have hm0 : 0 ≤ y.tmod (r1 : Int) ∧ y.tmod (r1 : Int) < (r1 : Int) := ⟨Int.tmod_nonneg _ hy.1, Int.tmod_lt_of_pos y (by omega)⟩
  obtain ⟨m, hm⟩ : ∃ m : Nat, y.tmod (r1 : Int) = (m : Int) := ⟨(y.tmod (r1 : Int)).toNat, by omega⟩
  rw [hm] at hm0
  have v1 : IntKind.u16.wrap e = e := by rw [IntKind.wrap_u16]; omega
  have v2 : IntKind.i64.wrap e = e := by rw [IntKind.wrap_i64]; omega
  have v3 : IntKind.i64.wrap (1 + e) = (r : Int) := by rw [IntKind.wrap_i64]; omega
  have v4 : IntKind.i64.wrap (m : Int) = (m : Int) := by rw [IntKind.wrap_i64]; omega
  have v5 : IntKind.i64.wrap y = y := by rw [IntKind.wrap_i64]; omega
  have v6 : IntKind.i64.wrap ((r : Int) + 1) = (r1 : Int) := by rw [IntKind.wrap_i64]; omega
  have v7 : ¬ (r1 : Int) = 0 := by omega
  have v8 : ((r1 : Int) == 0) = false := by rw [beq_eq_false_iff_ne]; omega
  have v9 : ¬ r1 = 0 := by omega
  have HM : Hid (0 < r ∧ r ≤ 4096 ∧ m ≤ r) := Lib.hid (by omega)
  clear hx hy he0 hr hm0 hr1
  go_enter Try.func5, Try.ntmps5
  go_wp2_with fail
  refine (fnew r m HM.out.1 HM.out.2.1 HM.out.2.2 w).mono ?_
  rintro _ w1 ⟨rfl, ha, hb1⟩
  have HP : Hid (Bn w w.heap.size r m ⟨#[]⟩ w1) := Lib.hid ⟨ha, Nat.le_refl _, hb1⟩
  clear ha hb1 v1 v2 v3 v4 v5 v6 v7 v8 v9 he hm
  generalize hw0 : w.heap.size = b at HP ⊢
  have HPB := Lib.hid hw0
  clear hw0
  go_wp2_with fail
  refine (ffew_at oa n cap F w w1 HA.out HP.out.below).mono ?_
  rintro _ _ ⟨fb, rfl, rfl, hf⟩
  clear hf
  cases fb with
  | false =>
    go_wp2_with (go_at_call 8; refine (CW.out _).mono ?_; rintro x v ⟨rfl, hb⟩; have HB := Lib.hid (HP.out.on hb); clear hb)
    go_ret
    exact ⟨rfl, HPB.out ▸ HB.out.below⟩
  | true =>
  have CL := Lib.hid (flow_at w1 HP.out.q true (by unfold lowB; exact decide_eq_true (.inl rfl)))
  go_wp2_with fail
  refine CL.out.mono ?_
  rintro _ w2 ⟨rfl, nq, rfl⟩
  have HP1 := Lib.hid (HP.out.drewN nq)
  clear HP CL
  generalize w1.drewN nq = w2 at HP1 ⊢
  go_wp2_with fail
  go_loopg [9] n (fun gm s wr => ∃ (k : Nat) (tx : ByteArray), s = nm k ∧ n - k ≤ gm ∧ k ≤ n ∧ Hid (Bn w b r m tx wr))
  case atStart => exact ⟨0, ⟨#[]⟩, rfl, by omega, by omega, HP1⟩
  case round =>
    clear HP1
    obtain ⟨k, tx, rfl, hgm, hkn, HP⟩ := hrel
    have HR := Lib.hid HP.out.q.room
    by_cases hlt : k < n
    · have t1 : decide ((k : Int) < (n : Int)) = true := decide_eq_true (by omega)
      have t2 : (k : Int) < (n : Int) := by omega
      have j0 : (0 : Int) ≤ (k : Int) := by omega
      have vk := wrap_nat (k + 1) (by omega)
      obtain ⟨a, gb, go, rfl, ha, hgb, hrw⟩ := arg_at HA.out hlt
      obtain ⟨c, hc⟩ : ∃ c, c = F k := ⟨_, rfl⟩
      rw [← hc] at hrw
      have HW := Lib.hid hrw
      clear hrw hc
      obtain ⟨fl, num, sx⟩ := c
      dsimp only at HW
      rcases three r m tx.size HM.out.2.2 with ⟨h0, l0⟩ | ⟨h0, l0⟩ | ⟨h0, l0⟩
      · have CH := Lib.hid (fun w h => fhigh_at (b := b) (r := r) (m := m) (t := tx) w h true h0)
        have CL := Lib.hid (fun w h => flow_at (b := b) (r := r) (m := m) (t := tx) w h false l0)
        have HH := Lib.hid (And.intro h0 l0)
        clear h0 l0
        go_wp2_with fail
        refine (CH.out _ HP.out.q).mono ?_
        rintro _ w3 ⟨rfl, n1, rfl⟩
        have HP1 := Lib.hid (HP.out.drewN n1)
        clear HP CH
        generalize wr.drewN n1 = w3 at HP1 ⊢
        go_wp2_with fail
        refine (CL.out _ HP1.out.q).mono ?_
        rintro _ w4 ⟨rfl, n2, rfl⟩
        have HP2 := Lib.hid (HP1.out.drewN n2)
        clear HP1 CL
        generalize w3.drewN n2 = w4 at HP2 ⊢
        obtain ⟨c0, c1, c2⟩ := HW.out w4 HP2.out.below
        cases fl with
        | false =>
          have CA := Lib.hid (fun w h => fput w b r m tx sx h)
          obtain ⟨t3, ht3⟩ : ∃ x, tx ++ fst_ sx (room r tx sx) = x := ⟨_, rfl⟩
          have HT : Hid (tx.size ≤ t3.size) := Lib.hid (by rw [← ht3, app_size]; omega)
          rw [ht3] at CA
          clear ht3
          generalize room r tx sx = z at CA
          go_wp2_with fail
          refine (CA.out _ HP2.out.q).mono ?_
          rintro _ w5 ⟨rfl, hq, hc⟩
          have HP3 := Lib.hid (HP2.out.step hq hc)
          clear hq hc CA c0 c1 c2 HP2
          rcases three r m t3.size HM.out.2.2 with ⟨h0, l0⟩ | ⟨h0, l0⟩ | ⟨h0, l0⟩
          · have CH := Lib.hid (fun w h => fhigh_at (b := b) (r := r) (m := m) (t := t3) w h true h0)
            have CL := Lib.hid (fun w h => flow_at (b := b) (r := r) (m := m) (t := t3) w h false l0)
            clear h0 l0
            replace HP3 : Hid (Bn w b r m t3 w5) := HP3
            go_wp2_with fail
            refine (CH.out _ HP3.out.q).mono ?_
            rintro _ w6 ⟨rfl, n6, rfl⟩
            have HQ6 := Lib.hid (HP3.out.drewN n6)
            clear HP3
            generalize w5.drewN n6 = w6 at HQ6 ⊢
            go_wp2_with fail
            refine (CL.out _ HQ6.out.q).mono ?_
            rintro _ w7 ⟨rfl, n7, rfl⟩
            have HQ7 := Lib.hid (HQ6.out.drewN n7)
            clear HQ6
            generalize w6.drewN n7 = w7 at HQ7 ⊢
            go_wp2
            go_roundg (n - (k + 1))
            case measure => omega
            case rel => exact ⟨k + 1, t3, by first | rfl | go_num, Nat.le_refl _, by omega, HQ7⟩
          · exact (tf (high_mono HT.out HH.out.1) h0).elim
          · exact (tf (high_mono HT.out HH.out.1) h0).elim
        | true =>
          have CA := Lib.hid (fun w h => fget w b r m tx h num)
          have HT : Hid ((rst_ tx (cut num tx.size)).size ≤ tx.size) := Lib.hid (by rw [ext_size]; omega)
          generalize cut num tx.size = q at CA HT
          generalize rst_ tx q = t3 at CA HT
          go_wp2_with fail
          refine (CA.out _ HP2.out.q).mono ?_
          rintro _ w5 ⟨rfl, hq, hc⟩
          have HP3 := Lib.hid (HP2.out.step hq hc)
          clear hq hc CA c0 c1 c2 HP2
          rcases three r m t3.size HM.out.2.2 with ⟨h0, l0⟩ | ⟨h0, l0⟩ | ⟨h0, l0⟩
          · have CH := Lib.hid (fun w h => fhigh_at (b := b) (r := r) (m := m) (t := t3) w h true h0)
            have CL := Lib.hid (fun w h => flow_at (b := b) (r := r) (m := m) (t := t3) w h false l0)
            clear h0 l0
            replace HP3 : Hid (Bn w b r m t3 w5) := HP3
            go_wp2_with fail
            refine (CH.out _ HP3.out.q).mono ?_
            rintro _ w6 ⟨rfl, n6, rfl⟩
            have HQ6 := Lib.hid (HP3.out.drewN n6)
            clear HP3
            generalize w5.drewN n6 = w6 at HQ6 ⊢
            go_wp2
            go_roundg (n - (k + 1))
            case measure => omega
            case rel => exact ⟨k + 1, t3, by first | rfl | go_num, Nat.le_refl _, by omega, HQ6⟩
          · have CH := Lib.hid (fun w h => fhigh_at (b := b) (r := r) (m := m) (t := t3) w h false h0)
            have CL := Lib.hid (fun w h => flow_at (b := b) (r := r) (m := m) (t := t3) w h true l0)
            clear h0 l0
            replace HP3 : Hid (Bn w b r m t3 w5) := HP3
            go_wp2_with fail
            refine (CH.out _ HP3.out.q).mono ?_
            rintro _ w6 ⟨rfl, n6, rfl⟩
            have HQ6 := Lib.hid (HP3.out.drewN n6)
            clear HP3
            generalize w5.drewN n6 = w6 at HQ6 ⊢
            go_wp2
            go_roundg (n - (k + 1))
            case measure => omega
            case rel => exact ⟨k + 1, t3, by first | rfl | go_num, Nat.le_refl _, by omega, HQ6⟩
          · have CH := Lib.hid (fun w h => fhigh_at (b := b) (r := r) (m := m) (t := t3) w h false h0)
            have CL := Lib.hid (fun w h => flow_at (b := b) (r := r) (m := m) (t := t3) w h false l0)
            clear h0 l0
            replace HP3 : Hid (Bn w b r m t3 w5) := HP3
            go_wp2_with fail
            refine (CH.out _ HP3.out.q).mono ?_
            rintro _ w6 ⟨rfl, n6, rfl⟩
            have HQ6 := Lib.hid (HP3.out.drewN n6)
            clear HP3
            generalize w5.drewN n6 = w6 at HQ6 ⊢
            go_wp2
            go_roundg (n - (k + 1))
            case measure => omega
            case rel => exact ⟨k + 1, t3, by first | rfl | go_num, Nat.le_refl _, by omega, HQ6⟩
      · have CH := Lib.hid (fun w h => fhigh_at (b := b) (r := r) (m := m) (t := tx) w h false h0)
        have CL := Lib.hid (fun w h => flow_at (b := b) (r := r) (m := m) (t := tx) w h true l0)
        have HH := Lib.hid (And.intro h0 l0)
        clear h0 l0
        go_wp2_with fail
        refine (CH.out _ HP.out.q).mono ?_
        rintro _ w3 ⟨rfl, n1, rfl⟩
        have HP1 := Lib.hid (HP.out.drewN n1)
        clear HP CH
        generalize wr.drewN n1 = w3 at HP1 ⊢
        go_wp2_with fail
        refine (CL.out _ HP1.out.q).mono ?_
        rintro _ w4 ⟨rfl, n2, rfl⟩
        have HP2 := Lib.hid (HP1.out.drewN n2)
        clear HP1 CL
        generalize w3.drewN n2 = w4 at HP2 ⊢
        obtain ⟨c0, c1, c2⟩ := HW.out w4 HP2.out.below
        cases fl with
        | false =>
          have CA := Lib.hid (fun w h => fput w b r m tx sx h)
          obtain ⟨t3, ht3⟩ : ∃ x, tx ++ fst_ sx (room r tx sx) = x := ⟨_, rfl⟩
          have HT : Hid (tx.size ≤ t3.size) := Lib.hid (by rw [← ht3, app_size]; omega)
          rw [ht3] at CA
          clear ht3
          generalize room r tx sx = z at CA
          go_wp2_with fail
          refine (CA.out _ HP2.out.q).mono ?_
          rintro _ w5 ⟨rfl, hq, hc⟩
          have HP3 := Lib.hid (HP2.out.step hq hc)
          clear hq hc CA c0 c1 c2 HP2
          rcases three r m t3.size HM.out.2.2 with ⟨h0, l0⟩ | ⟨h0, l0⟩ | ⟨h0, l0⟩
          · have CH := Lib.hid (fun w h => fhigh_at (b := b) (r := r) (m := m) (t := t3) w h true h0)
            have CL := Lib.hid (fun w h => flow_at (b := b) (r := r) (m := m) (t := t3) w h false l0)
            clear h0 l0
            replace HP3 : Hid (Bn w b r m t3 w5) := HP3
            go_wp2_with fail
            refine (CL.out _ HP3.out.q).mono ?_
            rintro _ w6 ⟨rfl, n6, rfl⟩
            have HQ6 := Lib.hid (HP3.out.drewN n6)
            clear HP3
            generalize w5.drewN n6 = w6 at HQ6 ⊢
            go_wp2
            go_roundg (n - (k + 1))
            case measure => omega
            case rel => exact ⟨k + 1, t3, by first | rfl | go_num, Nat.le_refl _, by omega, HQ6⟩
          · have CH := Lib.hid (fun w h => fhigh_at (b := b) (r := r) (m := m) (t := t3) w h false h0)
            have CL := Lib.hid (fun w h => flow_at (b := b) (r := r) (m := m) (t := t3) w h true l0)
            clear h0 l0
            replace HP3 : Hid (Bn w b r m t3 w5) := HP3
            go_wp2_with fail
            refine (CL.out _ HP3.out.q).mono ?_
            rintro _ w6 ⟨rfl, n6, rfl⟩
            have HQ6 := Lib.hid (HP3.out.drewN n6)
            clear HP3
            generalize w5.drewN n6 = w6 at HQ6 ⊢
            go_wp2
            go_roundg (n - (k + 1))
            case measure => omega
            case rel => exact ⟨k + 1, t3, by first | rfl | go_num, Nat.le_refl _, by omega, HQ6⟩
          · have CH := Lib.hid (fun w h => fhigh_at (b := b) (r := r) (m := m) (t := t3) w h false h0)
            have CL := Lib.hid (fun w h => flow_at (b := b) (r := r) (m := m) (t := t3) w h false l0)
            clear h0 l0
            replace HP3 : Hid (Bn w b r m t3 w5) := HP3
            go_wp2_with fail
            refine (CL.out _ HP3.out.q).mono ?_
            rintro _ w6 ⟨rfl, n6, rfl⟩
            have HQ6 := Lib.hid (HP3.out.drewN n6)
            clear HP3
            generalize w5.drewN n6 = w6 at HQ6 ⊢
            go_wp2
            go_roundg (n - (k + 1))
            case measure => omega
            case rel => exact ⟨k + 1, t3, by first | rfl | go_num, Nat.le_refl _, by omega, HQ6⟩
        | true =>
          have CA := Lib.hid (fun w h => fget w b r m tx h num)
          have HT : Hid ((rst_ tx (cut num tx.size)).size ≤ tx.size) := Lib.hid (by rw [ext_size]; omega)
          generalize cut num tx.size = q at CA HT
          generalize rst_ tx q = t3 at CA HT
          go_wp2_with fail
          refine (CA.out _ HP2.out.q).mono ?_
          rintro _ w5 ⟨rfl, hq, hc⟩
          have HP3 := Lib.hid (HP2.out.step hq hc)
          clear hq hc CA c0 c1 c2 HP2
          rcases three r m t3.size HM.out.2.2 with ⟨h0, l0⟩ | ⟨h0, l0⟩ | ⟨h0, l0⟩
          · exact (tf (high_mono HT.out h0) HH.out.1).elim
          · have CH := Lib.hid (fun w h => fhigh_at (b := b) (r := r) (m := m) (t := t3) w h false h0)
            have CL := Lib.hid (fun w h => flow_at (b := b) (r := r) (m := m) (t := t3) w h true l0)
            clear h0 l0
            replace HP3 : Hid (Bn w b r m t3 w5) := HP3
            go_wp2_with fail
            refine (CH.out _ HP3.out.q).mono ?_
            rintro _ w6 ⟨rfl, n6, rfl⟩
            have HQ6 := Lib.hid (HP3.out.drewN n6)
            clear HP3
            generalize w5.drewN n6 = w6 at HQ6 ⊢
            go_wp2_with fail
            refine (CL.out _ HQ6.out.q).mono ?_
            rintro _ w7 ⟨rfl, n7, rfl⟩
            have HQ7 := Lib.hid (HQ6.out.drewN n7)
            clear HQ6
            generalize w6.drewN n7 = w7 at HQ7 ⊢
            go_wp2
            go_roundg (n - (k + 1))
            case measure => omega
            case rel => exact ⟨k + 1, t3, by first | rfl | go_num, Nat.le_refl _, by omega, HQ7⟩
          · exact (tf (low_mono HT.out HH.out.2) l0).elim
      · have CH := Lib.hid (fun w h => fhigh_at (b := b) (r := r) (m := m) (t := tx) w h false h0)
        have CL := Lib.hid (fun w h => flow_at (b := b) (r := r) (m := m) (t := tx) w h false l0)
        have HH := Lib.hid (And.intro h0 l0)
        clear h0 l0
        go_wp2_with fail
        refine (CH.out _ HP.out.q).mono ?_
        rintro _ w3 ⟨rfl, n1, rfl⟩
        have HP1 := Lib.hid (HP.out.drewN n1)
        clear HP CH
        generalize wr.drewN n1 = w3 at HP1 ⊢
        go_wp2_with fail
        refine (CL.out _ HP1.out.q).mono ?_
        rintro _ w4 ⟨rfl, n2, rfl⟩
        have HP2 := Lib.hid (HP1.out.drewN n2)
        clear HP1 CL
        generalize w3.drewN n2 = w4 at HP2 ⊢
        obtain ⟨c0, c1, c2⟩ := HW.out w4 HP2.out.below
        cases fl with
        | false =>
          have CA := Lib.hid (fun w h => fput w b r m tx sx h)
          obtain ⟨t3, ht3⟩ : ∃ x, tx ++ fst_ sx (room r tx sx) = x := ⟨_, rfl⟩
          have HT : Hid (tx.size ≤ t3.size) := Lib.hid (by rw [← ht3, app_size]; omega)
          rw [ht3] at CA
          clear ht3
          generalize room r tx sx = z at CA
          go_wp2_with fail
          refine (CA.out _ HP2.out.q).mono ?_
          rintro _ w5 ⟨rfl, hq, hc⟩
          have HP3 := Lib.hid (HP2.out.step hq hc)
          clear hq hc CA c0 c1 c2 HP2
          rcases three r m t3.size HM.out.2.2 with ⟨h0, l0⟩ | ⟨h0, l0⟩ | ⟨h0, l0⟩
          · have CH := Lib.hid (fun w h => fhigh_at (b := b) (r := r) (m := m) (t := t3) w h true h0)
            have CL := Lib.hid (fun w h => flow_at (b := b) (r := r) (m := m) (t := t3) w h false l0)
            clear h0 l0
            replace HP3 : Hid (Bn w b r m t3 w5) := HP3
            go_wp2_with fail
            refine (CL.out _ HP3.out.q).mono ?_
            rintro _ w6 ⟨rfl, n6, rfl⟩
            have HQ6 := Lib.hid (HP3.out.drewN n6)
            clear HP3
            generalize w5.drewN n6 = w6 at HQ6 ⊢
            go_wp2
            go_roundg (n - (k + 1))
            case measure => omega
            case rel => exact ⟨k + 1, t3, by first | rfl | go_num, Nat.le_refl _, by omega, HQ6⟩
          · exact (tf (low_mono HT.out l0) HH.out.2).elim
          · have CH := Lib.hid (fun w h => fhigh_at (b := b) (r := r) (m := m) (t := t3) w h false h0)
            have CL := Lib.hid (fun w h => flow_at (b := b) (r := r) (m := m) (t := t3) w h false l0)
            clear h0 l0
            replace HP3 : Hid (Bn w b r m t3 w5) := HP3
            go_wp2_with fail
            refine (CL.out _ HP3.out.q).mono ?_
            rintro _ w6 ⟨rfl, n6, rfl⟩
            have HQ6 := Lib.hid (HP3.out.drewN n6)
            clear HP3
            generalize w5.drewN n6 = w6 at HQ6 ⊢
            go_wp2
            go_roundg (n - (k + 1))
            case measure => omega
            case rel => exact ⟨k + 1, t3, by first | rfl | go_num, Nat.le_refl _, by omega, HQ6⟩
        | true =>
          have CA := Lib.hid (fun w h => fget w b r m tx h num)
          have HT : Hid ((rst_ tx (cut num tx.size)).size ≤ tx.size) := Lib.hid (by rw [ext_size]; omega)
          generalize cut num tx.size = q at CA HT
          generalize rst_ tx q = t3 at CA HT
          go_wp2_with fail
          refine (CA.out _ HP2.out.q).mono ?_
          rintro _ w5 ⟨rfl, hq, hc⟩
          have HP3 := Lib.hid (HP2.out.step hq hc)
          clear hq hc CA c0 c1 c2 HP2
          rcases three r m t3.size HM.out.2.2 with ⟨h0, l0⟩ | ⟨h0, l0⟩ | ⟨h0, l0⟩
          · exact (tf (high_mono HT.out h0) HH.out.1).elim
          · have CH := Lib.hid (fun w h => fhigh_at (b := b) (r := r) (m := m) (t := t3) w h false h0)
            have CL := Lib.hid (fun w h => flow_at (b := b) (r := r) (m := m) (t := t3) w h true l0)
            clear h0 l0
            replace HP3 : Hid (Bn w b r m t3 w5) := HP3
            go_wp2_with fail
            refine (CH.out _ HP3.out.q).mono ?_
            rintro _ w6 ⟨rfl, n6, rfl⟩
            have HQ6 := Lib.hid (HP3.out.drewN n6)
            clear HP3
            generalize w5.drewN n6 = w6 at HQ6 ⊢
            go_wp2
            go_roundg (n - (k + 1))
            case measure => omega
            case rel => exact ⟨k + 1, t3, by first | rfl | go_num, Nat.le_refl _, by omega, HQ6⟩
          · have CH := Lib.hid (fun w h => fhigh_at (b := b) (r := r) (m := m) (t := t3) w h false h0)
            have CL := Lib.hid (fun w h => flow_at (b := b) (r := r) (m := m) (t := t3) w h false l0)
            clear h0 l0
            replace HP3 : Hid (Bn w b r m t3 w5) := HP3
            go_wp2_with fail
            refine (CH.out _ HP3.out.q).mono ?_
            rintro _ w6 ⟨rfl, n6, rfl⟩
            have HQ6 := Lib.hid (HP3.out.drewN n6)
            clear HP3
            generalize w5.drewN n6 = w6 at HQ6 ⊢
            go_wp2
            go_roundg (n - (k + 1))
            case measure => omega
            case rel => exact ⟨k + 1, t3, by first | rfl | go_num, Nat.le_refl _, by omega, HQ6⟩
    · have t1 : decide ((k : Int) < (n : Int)) = false := decide_eq_false (by omega)
      have t2 : ¬ (k : Int) < (n : Int) := by omega
      have CA := Lib.hid (fget_at wr HP.out.q (r : Int) tx.size (by have := HR.out; unfold cut; omega) tx (fst_all tx (Nat.le_refl _)) ⟨#[]⟩ (rst_all tx (Nat.le_refl _)))
      have CL := Lib.hid (fun w h => flow_at (b := b) (r := r) (m := m) (t := ⟨#[]⟩) w h true (by unfold lowB; exact decide_eq_true (.inl rfl)))
      go_wp2_with fail
      refine CA.out.mono ?_
      rintro _ w5 ⟨rfl, hq, hc⟩
      have HP2 := Lib.hid (HP.out.step hq hc)
      clear hq hc CA HP
      go_wp2_with fail
      refine (CL.out _ HP2.out.q).mono ?_
      rintro _ w6 ⟨rfl, n6, rfl⟩
      have HP3 := Lib.hid (HP2.out.drewN n6)
      clear HP2 CL
      generalize w5.drewN n6 = w6 at HP3 ⊢
      go_wp2_with (go_at_call 8; refine (CW.out _).mono ?_; rintro x v ⟨rfl, hb⟩; have HB := Lib.hid (HP3.out.on hb); clear hb)
      go_ret
      exact ⟨rfl, HPB.out ▸ HB.out.below⟩
theorem law (x : Nat) (hx : x < 65536) (y : Nat) (hy : y < 65536) (oa : Option Addr) (n cap : Nat) (F : Nat → Ct) (hn : n ≤ maxLen) (w : World) (hA : ArgS 3 cc CFit w oa n F) :
    Calls Try.prog 5 #[.int .u16 (x : Int), .int .u16 (y : Int), .slice oa n cap] w fun e w' => e = .returned (.bool true) ∧ Below w.heap.size w w' := all x (by omega) y (by omega) oa n cap F hn w hA
end Go.Proofs.Ytjhkjnammpblgaa.bufferMarks
