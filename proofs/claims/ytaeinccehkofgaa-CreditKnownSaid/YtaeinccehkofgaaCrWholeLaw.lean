/-
  CreditWhole answers true whatever came in, and turns nothing that was there. No condition.
-/
import Derived.Test.YtaeinccehkofgaaCrPlaysLaw
namespace Go.Proofs.Ytaeinccehkofgaa.Cr
open Go.RowKit Go.Proofs.Ytaeinccehkofgaa.Base Go.Proofs.Ytaeinccehkofgaa.Mem
/-- Left, under way, held, owed, under way back: the room together. -/
structure Bal (r l h o g b : Int) : Prop where
  r1 : 1 ≤ r
  r2 : r ≤ 4096
  l0 : 0 ≤ l
  h0 : 0 ≤ h
  o0 : 0 ≤ o
  g0 : 0 ≤ g
  b0 : 0 ≤ b
  s : l + g + h + o + b = r
theorem fit_ok {n m : Int} (h : 0 ≤ n) (h2 : n ≤ m) : fit n m = 0 := by unfold fit; rw [if_neg (by omega), if_neg (by omega)]
/-- A number from 0 up to one, itself too. -/
theorem upto (a m : Int) (h0 : 0 ≤ m) (h1 : m ≤ 4096) : ∃ z : Int, 0 ≤ z ∧ z ≤ m ∧ ∀ w, Calls Try.prog 12 #[im a, im (m + 1)] w fun e w' => e = .returned (im z) ∧ w = w' :=
  ⟨(place a (m + 1) : Nat), by omega, by have := place_lt a (m + 1) (by omega); omega, fun w => pick a (m + 1) (by omega) (by omega) w⟩
theorem use_ok {r l n : Int} (h : fit n l = 0) : Pu.use ⟨r, l⟩ n = ⟨r, l - n⟩ := if_pos h
theorem grant_ok {r l n : Int} (h : fit n (r - l) = 0) : Pu.grant ⟨r, l⟩ n = ⟨r, l + n⟩ := if_pos h
theorem come_ok {r h o n : Int} (e : fit n (r - o - h) = 0) : Ti.come ⟨r, h, o⟩ n = ⟨r, h + n, o⟩ := if_pos e
theorem read_ok {r h o n : Int} (e : fit n h = 0) : Ti.read ⟨r, h, o⟩ n = ⟨r, h - n, o + n⟩ := if_pos e
section
variable {w0 w : World} {pb tb : Nat} {r l h o n : Int}
/-- Each call within what there is, and what is then. -/
theorem wUse (T : Two w0 pb tb ⟨r, l⟩ ⟨r, h, o⟩ w) (h0 : 0 ≤ n) (h1 : n ≤ l) : Calls Try.prog 13 #[ptr pb, im n] w fun e w' => e = .returned (im 0) ∧ Two w0 pb tb ⟨r, l - n⟩ ⟨r, h, o⟩ w' := by
  have hf := fit_ok h0 h1
  refine (fuse w pb ⟨r, l⟩ n T.a T.xo).mono fun e w' ⟨he, hd⟩ => ⟨?_, ?_⟩
  · rw [he]; exact ret_int hf
  · have ho := T.xo.use n
    rw [use_ok hf] at hd ho
    exact T.doP hd ho
theorem wGrant (T : Two w0 pb tb ⟨r, l⟩ ⟨r, h, o⟩ w) (h0 : 0 ≤ n) (h1 : n ≤ r - l) : Calls Try.prog 15 #[ptr pb, im n] w fun e w' => e = .returned (im 0) ∧ Two w0 pb tb ⟨r, l + n⟩ ⟨r, h, o⟩ w' := by
  have hf := fit_ok h0 h1
  refine (fgrant w pb ⟨r, l⟩ n T.a T.xo).mono fun e w' ⟨he, hd⟩ => ⟨?_, ?_⟩
  · rw [he]; exact ret_int hf
  · have ho := T.xo.grant n
    rw [grant_ok hf] at hd ho
    exact T.doP hd ho
theorem wCome (T : Two w0 pb tb ⟨r, l⟩ ⟨r, h, o⟩ w) (h0 : 0 ≤ n) (h1 : n ≤ r - o - h) : Calls Try.prog 17 #[ptr tb, im n] w fun e w' => e = .returned (im 0) ∧ Two w0 pb tb ⟨r, l⟩ ⟨r, h + n, o⟩ w' := by
  have hf := fit_ok h0 h1
  refine (fcome w tb ⟨r, h, o⟩ n T.c T.yo).mono fun e w' ⟨he, hd⟩ => ⟨?_, ?_⟩
  · rw [he]; exact ret_int hf
  · have ho := T.yo.come n
    rw [come_ok hf] at hd ho
    exact T.doT hd ho
theorem wRead (T : Two w0 pb tb ⟨r, l⟩ ⟨r, h, o⟩ w) (h0 : 0 ≤ n) (h1 : n ≤ h) : Calls Try.prog 19 #[ptr tb, im n] w fun e w' => e = .returned (im 0) ∧ Two w0 pb tb ⟨r, l⟩ ⟨r, h - n, o + n⟩ w' := by
  have hf := fit_ok h0 h1
  refine (fread w tb ⟨r, h, o⟩ n T.c T.yo).mono fun e w' ⟨he, hd⟩ => ⟨?_, ?_⟩
  · rw [he]; exact ret_int hf
  · have ho := T.yo.read n
    rw [read_ok hf] at hd ho
    exact T.doT hd ho
theorem wPay (T : Two w0 pb tb ⟨r, l⟩ ⟨r, h, o⟩ w) : Calls Try.prog 21 #[ptr tb] w fun e w' => e = .returned (im o) ∧ Two w0 pb tb ⟨r, l⟩ ⟨r, h, 0⟩ w' :=
  (fpay w tb ⟨r, h, o⟩ T.c T.yo).mono fun _ _ ⟨he, hd⟩ => ⟨he, T.doT hd T.yo.pay⟩
theorem wLeft (T : Two w0 pb tb ⟨r, l⟩ ⟨r, h, o⟩ w) : Calls Try.prog 23 #[ptr pb] w fun e w' => e = .returned (im l) ∧ w = w' := fleft w pb ⟨r, l⟩ T.a
theorem wHolds (T : Two w0 pb tb ⟨r, l⟩ ⟨r, h, o⟩ w) : Calls Try.prog 24 #[ptr tb] w fun e w' => e = .returned (im h) ∧ w = w' := fholds w tb ⟨r, h, o⟩ T.c
theorem wOwes (T : Two w0 pb tb ⟨r, l⟩ ⟨r, h, o⟩ w) : Calls Try.prog 25 #[ptr tb] w fun e w' => e = .returned (im o) ∧ w = w' := fowes w tb ⟨r, h, o⟩ T.c
end
end Go.Proofs.Ytaeinccehkofgaa.Cr
namespace Go.Proofs.Ytaeinccehkofgaa.creditWhole
open Go.RowKit Go.Proofs.Ytaeinccehkofgaa.Base Go.Proofs.Ytaeinccehkofgaa.Mem Go.Proofs.Ytaeinccehkofgaa.Cr
set_option maxHeartbeats 8000000 in
set_option maxRecDepth 100000 in
theorem all (room : Int) (oa : Option Addr) (n cap : Nat) (F : Nat → Ct) (_ : n ≤ maxLen) (w : World) (hA : ArgS 2 cc CFit w oa n F) :
    Calls Try.prog 4 #[im room, .slice oa n cap] w fun e w' => e = .returned (.bool true) ∧ Below w.heap.size w w' := by
  have HA := Lib.hid hA
  clear hA
  by_cases h : 200 < n
  · have h1 : (200 : Int) < (n : Int) := by omega
    have h2 : decide ((200 : Int) < (n : Int)) = true := decide_eq_true h1
    have cw := Lib.hid (fworks w)
    go_enter Try.func4, Try.ntmps4
    go_wp2_with fail
    refine cw.out.mono ?_
    rintro _ w1 ⟨rfl, hb⟩
    have HB := Lib.hid hb
    clear hb cw
    go_wp2
    go_ret
    exact ⟨rfl, HB.out⟩
  have h1 : ¬ (200 : Int) < (n : Int) := by omega
  have h2 : decide ((200 : Int) < (n : Int)) = false := decide_eq_false h1
  go_enter Try.func4, Try.ntmps4
  go_wp2_with fail
  refine (fnewP room w).mono ?_
  rintro _ w1 ⟨rfl, ha, hb1⟩
  have HA1 := Lib.hid ha
  have HB1 := Lib.hid hb1
  clear ha hb1
  go_wp2_with fail
  refine (fnewT room w1).mono ?_
  rintro _ w2 ⟨rfl, ha, hb1⟩
  have HP : Hid (Two w w.heap.size w1.heap.size ⟨roomOf room, roomOf room⟩ ⟨roomOf room, 0, 0⟩ w2) := Lib.hid (Two.start HA1.out HB1.out ha hb1)
  clear ha hb1 HA1 HB1
  have CR := Lib.hid (rroom room w2)
  have HB : Hid (Bal (roomOf room) (roomOf room) 0 0 0 0) := Lib.hid (by obtain ⟨a, b⟩ := roomOf_ok room; exact ⟨a, b, by omega, by omega, by omega, by omega, by omega, by omega⟩)
  generalize roomOf room = r at HP CR HB
  generalize hpb : w.heap.size = pb at HP ⊢
  have HPB := Lib.hid hpb
  clear hpb
  generalize w1.heap.size = tb at HP ⊢
  go_wp2_with fail
  refine CR.out.mono ?_
  rintro _ w3 ⟨rfl, rfl⟩
  clear CR
  go_wp2_with fail
  go_loopg [8, 9, 10] n (fun gm s8 s9 s10 wr => ∃ (k : Nat) (l h o g b : Int), s8 = im g ∧ s9 = im b ∧ s10 = nm k ∧ n - k ≤ gm ∧ k ≤ n ∧ Hid (Two w pb tb ⟨r, l⟩ ⟨r, h, o⟩ wr) ∧ Hid (Bal r l h o g b))
  case atStart => exact ⟨0, _, _, _, _, _, rfl, rfl, rfl, by omega, by omega, HP, HB⟩
  case round =>
    clear HP HB
    obtain ⟨k, l, h, o, g, b, rfl, rfl, rfl, hgm, hkn, HP, HB⟩ := hrel
    by_cases hlt : k < n
    · have t1 : decide ((k : Int) < (n : Int)) = true := decide_eq_true (by omega)
      have t2 : (k : Int) < (n : Int) := by omega
      have j0 : (0 : Int) ≤ (k : Int) := by omega
      have vk := wrap_nat (k + 1) (by omega)
      obtain ⟨a, gb, go, rfl, ha, hgb, hrw⟩ := arg_at HA.out hlt
      obtain ⟨c, hc⟩ : ∃ c, c = F k := ⟨_, rfl⟩
      rw [← hc] at hrw
      obtain ⟨c0, c1⟩ := hrw wr HP.out.below
      clear hrw hc
      obtain ⟨kd, num⟩ := c
      dsimp only at c0 c1
      rcases five_cases kd with hj | hj | hj | hj | hj
      · have CP := Lib.hid (fun w => five_at kd w hj (v := 0) rfl)
        clear hj
        obtain ⟨q1, q2, q3, q4, q5, q6, q7, q8⟩ := HB.out
        obtain ⟨z, z0, z1, hz⟩ := upto num l (by omega) (by omega)
        have CU := Lib.hid hz
        clear hz
        have u1 : IntKind.i64.wrap (l + 1) = l + 1 := by rw [IntKind.wrap_i64]; omega
        have CA := Lib.hid (fun w1 T => wUse (w0 := w) (w := w1) (pb := pb) (tb := tb) (r := r) (l := l) (h := h) (o := o) T z0 z1)
        obtain ⟨l2, el2⟩ : ∃ y : Int, l - z = y := ⟨_, rfl⟩
        obtain ⟨g2, eg2⟩ : ∃ y : Int, g + z = y := ⟨_, rfl⟩
        have vg2 : IntKind.i64.wrap (g + z) = g2 := by rw [IntKind.wrap_i64]; omega
        have HB2 : Hid (Bal r l2 h o g2 b) := Lib.hid ⟨q1, q2, by omega, by omega, by omega, by omega, by omega, by omega⟩
        have s1 : IntKind.i64.wrap (l2 + g2) = l2 + g2 := by rw [IntKind.wrap_i64]; omega
        have s2 : IntKind.i64.wrap (l2 + g2 + h) = l2 + g2 + h := by rw [IntKind.wrap_i64]; omega
        have s3 : IntKind.i64.wrap (l2 + g2 + h + o) = l2 + g2 + h + o := by rw [IntKind.wrap_i64]; omega
        have s4 : IntKind.i64.wrap (l2 + g2 + h + o + b) = r := by rw [IntKind.wrap_i64]; omega
        have s5 : decide (r < h) = false := decide_eq_false (by omega)
        have s6 : ¬ r < h := by omega
        rw [el2] at CA
        clear q1 q2 q3 q4 q5 q6 q7 q8 el2 eg2 z0 z1
        go_wp2_with ((go_at_call 12; first | ((with_reducible refine (CP.out _).mono ?_); rintro e v ⟨rfl, rfl⟩)))
        have C0 : Hid (∀ m, Calls _ _ _ (wr.drewN m) _) := Lib.hid fun m => wLeft (HP.out.drewN m)
        have hg1 := HP.out.a.lt
        go_quiet (first
          | (go_at_call 23; exact quiet_left (C0.out _))
          | (go_at_call 12; exact quiet_left (CU.out _)))
        go_wp2_with fail
        refine (CA.out _ (HP.out.drewN _)).mono ?_
        rintro _ w6 ⟨rfl, hd⟩
        have HP3 : Hid (Two w pb tb ⟨r, l2⟩ ⟨r, h, o⟩ w6) := Lib.hid hd
        clear hd CA CP HP HB c0 c1 CU u1 C0
        have C1 : Hid (∀ m, Calls _ _ _ (w6.drewN m) _) := Lib.hid fun m => wLeft (HP3.out.drewN m)
        have C2 : Hid (∀ m, Calls _ _ _ (w6.drewN m) _) := Lib.hid fun m => wHolds (HP3.out.drewN m)
        have C3 : Hid (∀ m, Calls _ _ _ (w6.drewN m) _) := Lib.hid fun m => wOwes (HP3.out.drewN m)
        go_wp2_with (first
          | (go_at_call 23; refine (C1.out 0).mono ?_; rintro e v ⟨rfl, rfl⟩)
          | (go_at_call 24; refine (C2.out 0).mono ?_; rintro e v ⟨rfl, rfl⟩)
          | (go_at_call 25; refine (C3.out 0).mono ?_; rintro e v ⟨rfl, rfl⟩))
        go_roundg (n - (k + 1))
        case measure => omega
        case rel => exact ⟨k + 1, l2, h, o, g2, b, by first | rfl | go_num, by first | rfl | go_num, by first | rfl | go_num, Nat.le_refl _, by omega, HP3, HB2⟩
      · have CP := Lib.hid (fun w => five_at kd w hj (v := 1) rfl)
        clear hj
        obtain ⟨q1, q2, q3, q4, q5, q6, q7, q8⟩ := HB.out
        obtain ⟨z, z0, z1, hz⟩ := upto num g (by omega) (by omega)
        have CU := Lib.hid hz
        clear hz
        have u1 : IntKind.i64.wrap (g + 1) = g + 1 := by rw [IntKind.wrap_i64]; omega
        have CA := Lib.hid (fun w1 T => wCome (w0 := w) (w := w1) (pb := pb) (tb := tb) (r := r) (l := l) (h := h) (o := o) (n := z) T z0 (by omega))
        obtain ⟨h2, eh2⟩ : ∃ y : Int, h + z = y := ⟨_, rfl⟩
        obtain ⟨g2, eg2⟩ : ∃ y : Int, g - z = y := ⟨_, rfl⟩
        have vg2 : IntKind.i64.wrap (g - z) = g2 := by rw [IntKind.wrap_i64]; omega
        have HB2 : Hid (Bal r l h2 o g2 b) := Lib.hid ⟨q1, q2, by omega, by omega, by omega, by omega, by omega, by omega⟩
        have s1 : IntKind.i64.wrap (l + g2) = l + g2 := by rw [IntKind.wrap_i64]; omega
        have s2 : IntKind.i64.wrap (l + g2 + h2) = l + g2 + h2 := by rw [IntKind.wrap_i64]; omega
        have s3 : IntKind.i64.wrap (l + g2 + h2 + o) = l + g2 + h2 + o := by rw [IntKind.wrap_i64]; omega
        have s4 : IntKind.i64.wrap (l + g2 + h2 + o + b) = r := by rw [IntKind.wrap_i64]; omega
        have s5 : decide (r < h2) = false := decide_eq_false (by omega)
        have s6 : ¬ r < h2 := by omega
        rw [eh2] at CA
        clear q1 q2 q3 q4 q5 q6 q7 q8 eh2 eg2 z0 z1
        go_wp2_with ((go_at_call 12; first | ((with_reducible refine (CP.out _).mono ?_); rintro e v ⟨rfl, rfl⟩) | ((with_reducible refine (CU.out _).mono ?_); rintro e v ⟨rfl, rfl⟩)))
        refine (CA.out _ HP.out).mono ?_
        rintro _ w6 ⟨rfl, hd⟩
        have HP3 : Hid (Two w pb tb ⟨r, l⟩ ⟨r, h2, o⟩ w6) := Lib.hid hd
        clear hd CA CP HP HB c0 c1 CU u1
        have C1 : Hid (∀ m, Calls _ _ _ (w6.drewN m) _) := Lib.hid fun m => wLeft (HP3.out.drewN m)
        have C2 : Hid (∀ m, Calls _ _ _ (w6.drewN m) _) := Lib.hid fun m => wHolds (HP3.out.drewN m)
        have C3 : Hid (∀ m, Calls _ _ _ (w6.drewN m) _) := Lib.hid fun m => wOwes (HP3.out.drewN m)
        go_wp2_with (first
          | (go_at_call 23; refine (C1.out 0).mono ?_; rintro e v ⟨rfl, rfl⟩)
          | (go_at_call 24; refine (C2.out 0).mono ?_; rintro e v ⟨rfl, rfl⟩)
          | (go_at_call 25; refine (C3.out 0).mono ?_; rintro e v ⟨rfl, rfl⟩))
        go_roundg (n - (k + 1))
        case measure => omega
        case rel => exact ⟨k + 1, l, h2, o, g2, b, by first | rfl | go_num, by first | rfl | go_num, by first | rfl | go_num, Nat.le_refl _, by omega, HP3, HB2⟩
      · have CP := Lib.hid (fun w => five_at kd w hj (v := 2) rfl)
        clear hj
        obtain ⟨q1, q2, q3, q4, q5, q6, q7, q8⟩ := HB.out
        obtain ⟨z, z0, z1, hz⟩ := upto num h (by omega) (by omega)
        have CU := Lib.hid hz
        clear hz
        have u1 : IntKind.i64.wrap (h + 1) = h + 1 := by rw [IntKind.wrap_i64]; omega
        have CA := Lib.hid (fun w1 T => wRead (w0 := w) (w := w1) (pb := pb) (tb := tb) (r := r) (l := l) (h := h) (o := o) T z0 z1)
        obtain ⟨h2, eh2⟩ : ∃ y : Int, h - z = y := ⟨_, rfl⟩
        obtain ⟨o2, eo2⟩ : ∃ y : Int, o + z = y := ⟨_, rfl⟩
        have HB2 : Hid (Bal r l h2 o2 g b) := Lib.hid ⟨q1, q2, by omega, by omega, by omega, by omega, by omega, by omega⟩
        have s1 : IntKind.i64.wrap (l + g) = l + g := by rw [IntKind.wrap_i64]; omega
        have s2 : IntKind.i64.wrap (l + g + h2) = l + g + h2 := by rw [IntKind.wrap_i64]; omega
        have s3 : IntKind.i64.wrap (l + g + h2 + o2) = l + g + h2 + o2 := by rw [IntKind.wrap_i64]; omega
        have s4 : IntKind.i64.wrap (l + g + h2 + o2 + b) = r := by rw [IntKind.wrap_i64]; omega
        have s5 : decide (r < h2) = false := decide_eq_false (by omega)
        have s6 : ¬ r < h2 := by omega
        rw [eh2] at CA
        rw [eo2] at CA
        clear q1 q2 q3 q4 q5 q6 q7 q8 eh2 eo2 z0 z1
        go_wp2_with ((go_at_call 12; first | ((with_reducible refine (CP.out _).mono ?_); rintro e v ⟨rfl, rfl⟩)))
        have C0 : Hid (∀ m, Calls _ _ _ (wr.drewN m) _) := Lib.hid fun m => wHolds (HP.out.drewN m)
        have hg1 := HP.out.c.lt
        go_quiet (first
          | (go_at_call 24; exact quiet_left (C0.out _))
          | (go_at_call 12; exact quiet_left (CU.out _)))
        go_wp2_with fail
        refine (CA.out _ (HP.out.drewN _)).mono ?_
        rintro _ w6 ⟨rfl, hd⟩
        have HP3 : Hid (Two w pb tb ⟨r, l⟩ ⟨r, h2, o2⟩ w6) := Lib.hid hd
        clear hd CA CP HP HB c0 c1 CU u1 C0
        have C1 : Hid (∀ m, Calls _ _ _ (w6.drewN m) _) := Lib.hid fun m => wLeft (HP3.out.drewN m)
        have C2 : Hid (∀ m, Calls _ _ _ (w6.drewN m) _) := Lib.hid fun m => wHolds (HP3.out.drewN m)
        have C3 : Hid (∀ m, Calls _ _ _ (w6.drewN m) _) := Lib.hid fun m => wOwes (HP3.out.drewN m)
        go_wp2_with (first
          | (go_at_call 23; refine (C1.out 0).mono ?_; rintro e v ⟨rfl, rfl⟩)
          | (go_at_call 24; refine (C2.out 0).mono ?_; rintro e v ⟨rfl, rfl⟩)
          | (go_at_call 25; refine (C3.out 0).mono ?_; rintro e v ⟨rfl, rfl⟩))
        go_roundg (n - (k + 1))
        case measure => omega
        case rel => exact ⟨k + 1, l, h2, o2, g, b, by first | rfl | go_num, by first | rfl | go_num, by first | rfl | go_num, Nat.le_refl _, by omega, HP3, HB2⟩
      · have CP := Lib.hid (fun w => five_at kd w hj (v := 3) rfl)
        clear hj
        obtain ⟨q1, q2, q3, q4, q5, q6, q7, q8⟩ := HB.out
        have CA := Lib.hid (fun w1 T => wPay (w0 := w) (w := w1) (pb := pb) (tb := tb) (r := r) (l := l) (h := h) (o := o) T)
        obtain ⟨b2, eb2⟩ : ∃ y : Int, b + o = y := ⟨_, rfl⟩
        have vb2 : IntKind.i64.wrap (b + o) = b2 := by rw [IntKind.wrap_i64]; omega
        have HB2 : Hid (Bal r l h 0 g b2) := Lib.hid ⟨q1, q2, by omega, by omega, by omega, by omega, by omega, by omega⟩
        have s1 : IntKind.i64.wrap (l + g) = l + g := by rw [IntKind.wrap_i64]; omega
        have s2 : IntKind.i64.wrap (l + g + h) = l + g + h := by rw [IntKind.wrap_i64]; omega
        have s4 : IntKind.i64.wrap (l + g + h + b2) = r := by rw [IntKind.wrap_i64]; omega
        have s5 : decide (r < h) = false := decide_eq_false (by omega)
        have s6 : ¬ r < h := by omega
        clear q1 q2 q3 q4 q5 q6 q7 q8 eb2
        go_wp2_with ((go_at_call 12; first | ((with_reducible refine (CP.out _).mono ?_); rintro e v ⟨rfl, rfl⟩)))
        refine (CA.out _ HP.out).mono ?_
        rintro _ w6 ⟨rfl, hd⟩
        have HP3 : Hid (Two w pb tb ⟨r, l⟩ ⟨r, h, 0⟩ w6) := Lib.hid hd
        clear hd CA CP HP HB c0 c1
        have C1 : Hid (∀ m, Calls _ _ _ (w6.drewN m) _) := Lib.hid fun m => wLeft (HP3.out.drewN m)
        have C2 : Hid (∀ m, Calls _ _ _ (w6.drewN m) _) := Lib.hid fun m => wHolds (HP3.out.drewN m)
        have C3 : Hid (∀ m, Calls _ _ _ (w6.drewN m) _) := Lib.hid fun m => wOwes (HP3.out.drewN m)
        go_wp2_with (first
          | (go_at_call 23; refine (C1.out 0).mono ?_; rintro e v ⟨rfl, rfl⟩)
          | (go_at_call 24; refine (C2.out 0).mono ?_; rintro e v ⟨rfl, rfl⟩)
          | (go_at_call 25; refine (C3.out 0).mono ?_; rintro e v ⟨rfl, rfl⟩))
        go_roundg (n - (k + 1))
        case measure => omega
        case rel => exact ⟨k + 1, l, h, 0, g, b2, by first | rfl | go_num, by first | rfl | go_num, by first | rfl | go_num, Nat.le_refl _, by omega, HP3, HB2⟩
      · have CP := Lib.hid (fun w => five_at kd w hj (v := 4) rfl)
        clear hj
        obtain ⟨q1, q2, q3, q4, q5, q6, q7, q8⟩ := HB.out
        obtain ⟨z, z0, z1, hz⟩ := upto num b (by omega) (by omega)
        have CU := Lib.hid hz
        clear hz
        have u1 : IntKind.i64.wrap (b + 1) = b + 1 := by rw [IntKind.wrap_i64]; omega
        have CA := Lib.hid (fun w1 T => wGrant (w0 := w) (w := w1) (pb := pb) (tb := tb) (r := r) (l := l) (h := h) (o := o) (n := z) T z0 (by omega))
        obtain ⟨l2, el2⟩ : ∃ y : Int, l + z = y := ⟨_, rfl⟩
        obtain ⟨b2, eb2⟩ : ∃ y : Int, b - z = y := ⟨_, rfl⟩
        have vb2 : IntKind.i64.wrap (b - z) = b2 := by rw [IntKind.wrap_i64]; omega
        have HB2 : Hid (Bal r l2 h o g b2) := Lib.hid ⟨q1, q2, by omega, by omega, by omega, by omega, by omega, by omega⟩
        have s1 : IntKind.i64.wrap (l2 + g) = l2 + g := by rw [IntKind.wrap_i64]; omega
        have s2 : IntKind.i64.wrap (l2 + g + h) = l2 + g + h := by rw [IntKind.wrap_i64]; omega
        have s3 : IntKind.i64.wrap (l2 + g + h + o) = l2 + g + h + o := by rw [IntKind.wrap_i64]; omega
        have s4 : IntKind.i64.wrap (l2 + g + h + o + b2) = r := by rw [IntKind.wrap_i64]; omega
        have s5 : decide (r < h) = false := decide_eq_false (by omega)
        have s6 : ¬ r < h := by omega
        rw [el2] at CA
        clear q1 q2 q3 q4 q5 q6 q7 q8 el2 eb2 z0 z1
        go_wp2_with ((go_at_call 12; first | ((with_reducible refine (CP.out _).mono ?_); rintro e v ⟨rfl, rfl⟩) | ((with_reducible refine (CU.out _).mono ?_); rintro e v ⟨rfl, rfl⟩)))
        refine (CA.out _ HP.out).mono ?_
        rintro _ w6 ⟨rfl, hd⟩
        have HP3 : Hid (Two w pb tb ⟨r, l2⟩ ⟨r, h, o⟩ w6) := Lib.hid hd
        clear hd CA CP HP HB c0 c1 CU u1
        have C1 : Hid (∀ m, Calls _ _ _ (w6.drewN m) _) := Lib.hid fun m => wLeft (HP3.out.drewN m)
        have C2 : Hid (∀ m, Calls _ _ _ (w6.drewN m) _) := Lib.hid fun m => wHolds (HP3.out.drewN m)
        have C3 : Hid (∀ m, Calls _ _ _ (w6.drewN m) _) := Lib.hid fun m => wOwes (HP3.out.drewN m)
        go_wp2_with (first
          | (go_at_call 23; refine (C1.out 0).mono ?_; rintro e v ⟨rfl, rfl⟩)
          | (go_at_call 24; refine (C2.out 0).mono ?_; rintro e v ⟨rfl, rfl⟩)
          | (go_at_call 25; refine (C3.out 0).mono ?_; rintro e v ⟨rfl, rfl⟩))
        go_roundg (n - (k + 1))
        case measure => omega
        case rel => exact ⟨k + 1, l2, h, o, g, b2, by first | rfl | go_num, by first | rfl | go_num, by first | rfl | go_num, Nat.le_refl _, by omega, HP3, HB2⟩
    · have t1 : decide ((k : Int) < (n : Int)) = false := decide_eq_false (by omega)
      have t2 : ¬ (k : Int) < (n : Int) := by omega
      obtain ⟨q1, q2, q3, q4, q5, q6, q7, q8⟩ := HB.out
      have D1 := Lib.hid (wCome (n := g) HP.out q6 (by omega))
      obtain ⟨h2, eh2⟩ : ∃ y : Int, h + g = y := ⟨_, rfl⟩
      rw [eh2] at D1
      have r0 : 0 ≤ h2 := by omega
      obtain ⟨o2, eo2⟩ : ∃ y : Int, o + h2 = y := ⟨_, rfl⟩
      have r1 : 0 ≤ o2 := by omega
      obtain ⟨b2, eb2⟩ : ∃ y : Int, b + o2 = y := ⟨_, rfl⟩
      have vb2 : IntKind.i64.wrap (b + o2) = b2 := by rw [IntKind.wrap_i64]; omega
      have r2 : 0 ≤ b2 := by omega
      have r3 : l + b2 = r := by omega
      have R2 := Lib.hid r2
      have R3 := Lib.hid r3
      have R0 := Lib.hid r0
      have EO := Lib.hid eo2
      clear r0 r1 r2 r3 eb2 eo2 eh2 q1 q2 q3 q4 q5 q6 q7 q8 HB
      go_wp2_with fail
      refine D1.out.mono ?_
      rintro _ w4 ⟨rfl, hd⟩
      have HP4 := Lib.hid hd
      clear hd D1 HP
      go_wp2_with fail
      refine (wHolds HP4.out).mono ?_
      rintro _ w5 ⟨rfl, rfl⟩
      go_wp2_with fail
      refine (wRead (n := h2) HP4.out R0.out (Int.le_refl _)).mono ?_
      rintro _ w5 ⟨rfl, hd⟩
      rw [Int.sub_self, EO.out] at hd
      have HP5 := Lib.hid hd
      clear hd HP4
      go_wp2_with fail
      refine (wPay HP5.out).mono ?_
      rintro _ w6 ⟨rfl, hd⟩
      have HP6 := Lib.hid hd
      clear hd HP5
      go_wp2_with fail
      refine (wGrant (n := b2) HP6.out R2.out (by have := R3.out; omega)).mono ?_
      rintro _ w7 ⟨rfl, hd⟩
      rw [R3.out] at hd
      have HP7 := Lib.hid hd
      clear hd HP6
      have bq : (r == r) = true := beq_self_eq_true _
      go_wp2_with (first
        | (go_at_call 23; refine (wLeft HP7.out).mono ?_; rintro e v ⟨rfl, rfl⟩)
        | (go_at_call 24; refine (wHolds HP7.out).mono ?_; rintro e v ⟨rfl, rfl⟩)
        | (go_at_call 25; refine (wOwes HP7.out).mono ?_; rintro e v ⟨rfl, rfl⟩)
        | (go_at_call 7; refine (fworks _).mono ?_; rintro e v ⟨rfl, hb⟩; have HZ := Lib.hid (HP7.out.on hb); clear hb))
      go_ret
      exact ⟨rfl, HPB.out ▸ HZ.out.below⟩
theorem law (room : Int) (_ : -9223372036854775808 ≤ room ∧ room ≤ 9223372036854775807) (oa : Option Addr) (n cap : Nat) (F : Nat → Ct) (hn : n ≤ maxLen) (w : World) (hA : ArgS 2 cc CFit w oa n F) :
    Calls Try.prog 4 #[im room, .slice oa n cap] w fun e w' => e = .returned (.bool true) ∧ Below w.heap.size w w' := all room oa n cap F hn w hA
end Go.Proofs.Ytaeinccehkofgaa.creditWhole
