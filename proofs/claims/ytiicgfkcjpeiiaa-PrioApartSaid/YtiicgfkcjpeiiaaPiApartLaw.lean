/-
  PrioApart answers true whatever came in, and turns nothing that was there. No condition.
-/
import Derived.Test.YtiicgfkcjpeiiaaPiPlaysLaw
namespace Go.Proofs.Ytiicgfkcjpeiiaa.Pi
open Go.RowKit Go.Proofs.Ytiicgfkcjpeiiaa.Base Go.Proofs.Ytiicgfkcjpeiiaa.Mem Go.Proofs.Ytiicgfkcjpeiiaa.Cr
/-- Two of the program's own, made since w0. -/
structure Tw (w0 : World) (b q : Nat) (y z : St) (w : World) : Prop where
  one : Pn w0 b y w
  two : P w q z
  ne : q ≠ b
  lo : w0.heap.size ≤ q
section
variable {w0 w w' : World} {b q d : Nat} {y z v : St}
theorem Tw.on (h : Tw w0 b q y z w) (hb : Below w.heap.size w w') : Tw w0 b q y z w' := ⟨h.one.on hb, h.two.below hb, h.ne, h.lo⟩
theorem Tw.drewN (h : Tw w0 b q y z w) (n : Nat) : Tw w0 b q y z (w.drewN n) := h.on ⟨rfl, rfl, rfl, Nat.le_refl _, fun _ _ => rfl⟩
theorem Tw.doA (h : Tw w0 b q y z w) (hq : P w' b v) (hc : Chg (Bs b) w w') : Tw w0 b q v z w' := ⟨h.one.step hq hc, h.two.other hc h.ne, h.ne, h.lo⟩
theorem Tw.doB (h : Tw w0 b q y z w) (hq : P w' q v) (hc : Chg (Bs q) w w') : Tw w0 b q y v w' :=
  ⟨⟨h.one.q.other hc fun e => h.ne e.symm, h.one.lo, hc.below h.one.below h.one.below.size fun _ e => e ▸ h.lo⟩, hq, h.ne, h.lo⟩
theorem More.made (hn : y.rd d = false) {j : Nat} (hj : j < 64) (hr : y.rd j = true) (hc : y.cl j < y.cl d) : More y (y.setR d true) d :=
  ⟨rfl, rfl, rfl, hn, by have : y.least ≤ y.cl j := lt_all y 64 j hj hr; omega⟩
theorem More.not (h : More y z d) : z.may d = false := by rw [h.may]; exact may_not_rd h.no
end
end Go.Proofs.Ytiicgfkcjpeiiaa.Pi
namespace Go.Proofs.Ytiicgfkcjpeiiaa.prioApart
open Go.RowKit Go.Proofs.Ytiicgfkcjpeiiaa.Base Go.Proofs.Ytiicgfkcjpeiiaa.Mem Go.Proofs.Ytiicgfkcjpeiiaa.Cr Go.Proofs.Ytiicgfkcjpeiiaa.Pi
/-- What was seen of those below k: is one ready; all that are are of a class less than c. -/
structure Seen (x : St) (c k : Nat) (s : Bool) : Prop where
  no : s = false → ∀ j, j < k → x.rd j = false
  yes : s = true → ∃ j, j < 64 ∧ x.rd j = true ∧ x.cl j < c
theorem Seen.skip {x : St} {c k : Nat} {s : Bool} (h : Seen x c k s) (hr : x.rd k = false) : Seen x c (k + 1) s :=
  ⟨fun e j hj => by
    by_cases q : j = k
    · rw [q]; exact hr
    · exact h.no e j (by omega), h.yes⟩
theorem Seen.add {x : St} {c k : Nat} (hk : k < 64) (hr : x.rd k = true) (hc : x.cl k < c) : Seen x c (k + 1) true := ⟨fun e => (by cases e), fun _ => ⟨k, hk, hr, hc⟩⟩
set_option maxHeartbeats 8000000 in
set_option maxRecDepth 100000 in
theorem all (oa : Option Addr) (n cap : Nat) (F : Nat → Ct) (d : Nat) (hd : d < 256) (w : World) (hA : ArgS 4 cc CFit w oa n F) :
    Calls Try.prog 5 #[.slice oa n cap, oc d] w fun e w' => e = .returned (.bool true) ∧ Below w.heap.size w w' := by
  have CW := Lib.hid fworks
  by_cases h120 : 100 < n
  · have h1 : (100 : Int) < (n : Int) := by omega
    have h2 : decide ((100 : Int) < (n : Int)) = true := decide_eq_true h1
    clear hA
    go_enter Try.func5, Try.ntmps5
    go_wp2_with fail
    refine (CW.out _).mono ?_
    rintro _ w9 ⟨rfl, hb⟩
    have HB9 := Lib.hid hb
    clear hb CW
    go_wp2
    go_ret
    exact ⟨rfl, HB9.out⟩
  have h1 : ¬ (100 : Int) < (n : Int) := by omega
  have h2 : decide ((100 : Int) < (n : Int)) = false := decide_eq_false h1
  by_cases hd63 : 63 < d
  · have t1 : (63 : Int) < (d : Int) := by omega
    have t2 : decide ((63 : Int) < (d : Int)) = true := decide_eq_true t1
    clear hA
    go_enter Try.func5, Try.ntmps5
    go_wp2_with fail
    refine (CW.out _).mono ?_
    rintro _ w9 ⟨rfl, hb⟩
    have HB9 := Lib.hid hb
    clear hb CW
    go_wp2
    go_ret
    exact ⟨rfl, HB9.out⟩
  have t1 : ¬ (63 : Int) < (d : Int) := by omega
  have t2 : decide ((63 : Int) < (d : Int)) = false := decide_eq_false t1
  have t3 : (d : Int) < 64 := by omega
  have HD : Hid (d < 64) := Lib.hid (by omega)
  have CP := Lib.hid (fplayed oa n cap F (by unfold maxLen; omega) w w hA (Below.refl _ _))
  have CQ := Lib.hid (fun w1 hb => fplayed oa n cap F (by unfold maxLen; omega) w w1 hA hb)
  clear h120 hA hd63 hd
  go_enter Try.func5, Try.ntmps5
  go_wp2_with fail
  refine CP.out.mono ?_
  rintro _ w1 ⟨rfl, hp⟩
  have HP := Lib.hid hp
  clear hp CP
  go_wp2_with fail
  refine (CQ.out w1 HP.out.below).mono ?_
  rintro _ w2 ⟨rfl, hq⟩
  have HT : Hid (Tw w w.heap.size w1.heap.size (run F n) (run F n) w2) := Lib.hid ⟨HP.out.on hq.below, hq.q, by have := HP.out.q.lt; omega, HP.out.below.size⟩
  have HX := Lib.hid (run_ok F n)
  clear hq CQ HP
  generalize w.heap.size = b at HT ⊢
  generalize w1.heap.size = q at HT ⊢
  generalize run F n = x at HT HX
  have CR := fready HT.out.one.q d HD.out
  by_cases hrd : x.rd d = true
  · rw [hrd] at CR
    have CR := Lib.hid CR
    clear hrd
    go_wp2_with fail
    refine CR.out.mono ?_
    rintro _ _ ⟨rfl, rfl⟩
    go_wp2_with fail
    refine (CW.out _).mono ?_
    rintro _ w9 ⟨rfl, hb⟩
    have HB9 := Lib.hid (HT.out.on hb)
    clear hb CW CR HT
    go_wp2
    go_ret
    exact ⟨rfl, HB9.out.one.below⟩
  have hrf : x.rd d = false := by simpa using hrd
  rw [hrf] at CR
  have CR := Lib.hid CR
  have HRF := Lib.hid hrf
  clear hrd hrf
  go_wp2_with fail
  refine CR.out.mono ?_
  rintro _ _ ⟨rfl, rfl⟩
  clear CR
  obtain ⟨c, hc⟩ : ∃ c, x.cl d = c := ⟨_, rfl⟩
  have HC := Lib.hid hc
  clear hc
  have HS : Hid (Seen x c 0 false) := Lib.hid ⟨fun _ j hj => absurd hj (Nat.not_lt_zero _), fun e => by cases e⟩
  go_wp2_with fail
  go_loopg [7, 8] 64 (fun gm s7 s8 wr => ∃ (k : Nat) (s : Bool), s7 = .bool s ∧ s8 = nm k ∧ 64 - k ≤ gm ∧ k ≤ 64 ∧ Hid (Seen x c k s) ∧ Hid (Tw w b q x x wr))
  case atStart => exact ⟨0, false, rfl, rfl, by omega, by omega, HS, HT⟩
  case round =>
    clear HS HT
    obtain ⟨k, s, rfl, rfl, hgm, hk64, HS, HT⟩ := hrel
    by_cases hlt : k < 64
    · have j1 : decide ((k : Int) < 64) = true := decide_eq_true (by omega)
      have j2 : (k : Int) < 64 := by omega
      have vk := wrap_nat (k + 1) (by omega)
      have uk := wrap_u8 k (by omega)
      have CR := fready HT.out.one.q k hlt
      by_cases hr : x.rd k = true
      · rw [hr] at CR
        have CR := Lib.hid CR
        obtain ⟨g, hg⟩ : ∃ g, x.cl k = g := ⟨_, rfl⟩
        have C1 := Lib.hid (fclass_at HT.out.one.q k hlt g hg)
        have C2 := Lib.hid (fclass_at HT.out.one.q d HD.out c HC.out)
        by_cases hgc : g < c
        · have HS2 : Hid (Seen x c (k + 1) true) := Lib.hid (.add hlt hr (by rw [hg]; exact hgc))
          have s0 : decide ((c : Int) ≤ (g : Int)) = false := decide_eq_false (by omega)
          have s1 : ¬ (c : Int) ≤ (g : Int) := by omega
          have s2 : ¬ c ≤ g := by omega
          clear hr hg HS
          go_wp2_with fail
          refine CR.out.mono ?_
          rintro _ _ ⟨rfl, rfl⟩
          go_wp2_with fail
          refine C1.out.mono ?_
          rintro _ _ ⟨rfl, rfl⟩
          go_wp2_with fail
          refine C2.out.mono ?_
          rintro _ _ ⟨rfl, rfl⟩
          clear CR C1 C2
          go_wp2
          go_roundg (64 - (k + 1))
          case measure => omega
          case rel => exact ⟨k + 1, true, rfl, by first | rfl | go_num, Nat.le_refl _, by omega, HS2, HT⟩
        · have s0 : decide ((c : Int) ≤ (g : Int)) = true := decide_eq_true (by omega)
          have s1 : (c : Int) ≤ (g : Int) := by omega
          have s2 : c ≤ g := by omega
          clear hr hg HS
          go_wp2_with fail
          refine CR.out.mono ?_
          rintro _ _ ⟨rfl, rfl⟩
          go_wp2_with fail
          refine C1.out.mono ?_
          rintro _ _ ⟨rfl, rfl⟩
          go_wp2_with fail
          refine C2.out.mono ?_
          rintro _ _ ⟨rfl, rfl⟩
          clear CR C1 C2
          go_wp2_with fail
          refine (CW.out _).mono ?_
          rintro _ w9 ⟨rfl, hb⟩
          have HB9 := Lib.hid (HT.out.on hb)
          clear hb CW HT
          go_wp2
          go_ret
          exact ⟨rfl, HB9.out.one.below⟩
      · have hrf : x.rd k = false := by simpa using hr
        rw [hrf] at CR
        have CR := Lib.hid CR
        have HS2 := Lib.hid (HS.out.skip hrf)
        clear hr hrf HS
        go_wp2_with fail
        refine CR.out.mono ?_
        rintro _ _ ⟨rfl, rfl⟩
        clear CR
        go_wp2
        go_roundg (64 - (k + 1))
        case measure => omega
        case rel => exact ⟨k + 1, s, rfl, by first | rfl | go_num, Nat.le_refl _, by omega, HS2, HT⟩
    · obtain rfl : k = 64 := by omega
      cases s with
      | false =>
        go_wp2_with fail
        refine (CW.out _).mono ?_
        rintro _ w9 ⟨rfl, hb⟩
        have HB9 := Lib.hid (HT.out.on hb)
        clear hb CW HT
        go_wp2
        go_ret
        exact ⟨rfl, HB9.out.one.below⟩
      | true =>
        obtain ⟨j, hj, hjr, hjc⟩ := HS.out.yes rfl
        have HM := Lib.hid (More.made HRF.out hj hjr (by rw [HC.out]; exact hjc))
        have HL : Hid (x.least < 64) := Lib.hid (by
          have h1 : x.least ≤ x.cl j := lt_all x 64 j hj hjr
          have := HX.out.cl j
          omega)
        have CS := Lib.hid (fsetR HT.out.two d true HD.out)
        clear hj hjr hjc HS HC HRF
        go_wp2_with fail
        refine CS.out.mono ?_
        rintro _ w3 ⟨rfl, hp, hc⟩
        have HT2 := Lib.hid (HT.out.doB hp hc)
        clear hp hc CS HT
        generalize x.setR d true = z at HM HT2
        go_wp2_with fail
        go_loopg [9] 70 (fun gm s9 wq => ∃ (i : Nat) (y z : St), s9 = nm i ∧ 70 - i ≤ gm ∧ i ≤ 70 ∧ Hid (More y z d) ∧ Hid (y.least < 64) ∧ Hid (Tw w b q y z wq))
        case atStart => exact ⟨0, x, z, rfl, by omega, by omega, HM, HL, HT2⟩
        case round =>
          clear HM HL HT2
          obtain ⟨i, y, z, rfl, hgm2, hi70, HM, HL, HT⟩ := hrel
          by_cases hlt2 : i < 70
          · have t5 : decide ((i : Int) < 70) = true := decide_eq_true (by omega)
            have t6 : (i : Int) < 70 := by omega
            have vi := wrap_nat (i + 1) (by omega)
            have hzl : z.least < 64 := by rw [HM.out.least]; exact HL.out
            have C1 := Lib.hid (fun w h => fpick_at (w := w) (b := b) (x := y) h y.who (if_neg (by have := HL.out; omega)) true (decide_eq_true (by have := HL.out; omega)))
            have C2 := Lib.hid (fun w h => fpick_at (w := w) (b := q) (x := z) h y.who ((if_neg (by omega)).trans HM.out.who) true (decide_eq_true (by omega)))
            have HM2 := Lib.hid HM.out.pick
            have HL2 : Hid (y.pick.least < 64) := Lib.hid (by rw [pick_least]; exact HL.out)
            have C3 := Lib.hid (fun w h => fmay_at (w := w) (b := q) (x := z.pick) h d HD.out false HM2.out.not)
            generalize y.who = v at C1 C2
            have zz : ((v : Int) != (v : Int)) = false := bne_false rfl
            clear hzl HM HL
            go_wp2_with fail
            refine (C1.out _ HT.out.one.q).mono ?_
            rintro _ w4 ⟨rfl, hp, hc⟩
            have HT2 := Lib.hid (HT.out.doA hp hc)
            clear hp hc C1 HT
            go_wp2_with fail
            refine (C2.out _ HT2.out.two).mono ?_
            rintro _ w5 ⟨rfl, hp, hc⟩
            have HT3 := Lib.hid (HT2.out.doB hp hc)
            clear hp hc C2 HT2
            go_wp2_with fail
            refine (C3.out _ HT3.out.two).mono ?_
            rintro _ _ ⟨rfl, nq, rfl⟩
            have HT4 := Lib.hid (HT3.out.drewN nq)
            clear C3 HT3
            generalize w5.drewN nq = w6 at HT4 ⊢
            go_wp2
            go_roundg (70 - (i + 1))
            case measure => omega
            case rel => exact ⟨i + 1, y.pick, z.pick, by first | rfl | go_num, Nat.le_refl _, by omega, HM2, HL2, HT4⟩
          · have t5 : decide ((i : Int) < 70) = false := decide_eq_false (by omega)
            have t6 : ¬ (i : Int) < 70 := by omega
            go_wp2_with fail
            refine (CW.out _).mono ?_
            rintro _ w9 ⟨rfl, hb⟩
            have HB9 := Lib.hid (HT.out.on hb)
            clear hb CW HT
            go_wp2
            go_ret
            exact ⟨rfl, HB9.out.one.below⟩
theorem law (oa : Option Addr) (n cap : Nat) (F : Nat → Ct) (_ : n ≤ maxLen) (d : Nat) (hd : d < 256) (w : World) (hA : ArgS 4 cc CFit w oa n F) :
    Calls Try.prog 5 #[.slice oa n cap, oc d] w fun e w' => e = .returned (.bool true) ∧ Below w.heap.size w w' := all oa n cap F d hd w hA
end Go.Proofs.Ytiicgfkcjpeiiaa.prioApart
