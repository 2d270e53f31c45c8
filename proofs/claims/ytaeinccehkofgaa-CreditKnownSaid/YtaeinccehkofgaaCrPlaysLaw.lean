/-
  CreditPlays answers true whatever came in, and turns nothing that was there. No condition.
-/
import Derived.Test.YtaeinccehkofgaaCrArgs
import Derived.Test.YtaeinccehkofgaaCrRef
import Derived.Test.YtaeinccehkofgaaCrWorks
import Derived.Test.YtaeinccehkofgaaPick
import Derived.Deep.LoopGhost
import Derived.Deep.RegionHeld
namespace Go.Proofs.Ytaeinccehkofgaa.Cr
open Go.RowKit Go.Proofs.Ytaeinccehkofgaa.Base Go.Proofs.Ytaeinccehkofgaa.Mem
theorem wrap_nat (n : Nat) (h : n ≤ 9223372036854775807) : IntKind.i64.wrap (n : Int) = (n : Int) := by rw [IntKind.wrap_i64]; omega
abbrev nm (n : Nat) : Value := .int .i64 (n : Int)
/-- Which of five a kind is. -/
theorem five (k : Int) (w : World) : ∃ j : Nat, j < 5 ∧ Calls Try.prog 12 #[im k, im 5] w fun e w' => e = .returned (im (j : Int)) ∧ w = w' :=
  ⟨place k 5, by have := place_lt k 5 (by decide); omega, pick k 5 (by decide) (by decide) w⟩
theorem five_at (k : Int) (w : World) {j : Nat} (h : place k 5 = j) {v : Int} (hv : (j : Int) = v) : Calls Try.prog 12 #[im k, im 5] w fun e w' => e = .returned (im v) ∧ w = w' := by
  subst h; subst hv; exact pick k 5 (by decide) (by decide) w
theorem five_cases (k : Int) : place k 5 = 0 ∨ place k 5 = 1 ∨ place k 5 = 2 ∨ place k 5 = 3 ∨ place k 5 = 4 := by
  have := place_lt k 5 (by decide)
  omega
/-- A purse and a till, and the document's own ones, all made since w0. -/
structure Quad (w0 : World) (pb qb tb ub : Nat) (x x2 : Pu) (y y2 : Ti) (w : World) : Prop where
  a : At w pb (pcs x) PT
  b : At w qb (rpcs x2) RPT
  c : At w tb (tcs y) TT
  d : At w ub (rtcs y2) RTT
  ab : pb < qb
  bc : qb < tb
  cd : tb < ub
  lo : w0.heap.size ≤ pb
  below : Below w0.heap.size w0 w
section
variable {w0 w w' : World} {pb qb tb ub : Nat} {x x2 x' : Pu} {y y2 y' : Ti}
theorem Quad.on (h : Quad w0 pb qb tb ub x x2 y y2 w) (hb : Below w.heap.size w w') : Quad w0 pb qb tb ub x x2 y y2 w' := ⟨h.a.below hb, h.b.below hb, h.c.below hb, h.d.below hb, h.ab, h.bc, h.cd, h.lo, below_on h.below hb⟩
theorem Quad.drewN (h : Quad w0 pb qb tb ub x x2 y y2 w) (n : Nat) : Quad w0 pb qb tb ub x x2 y y2 (w.drewN n) := h.on ⟨rfl, rfl, rfl, Nat.le_refl _, fun _ _ => rfl⟩
theorem Quad.drew (h : Quad w0 pb qb tb ub x x2 y y2 w) : Quad w0 pb qb tb ub x x2 y y2 w.drew := h.on ⟨rfl, rfl, rfl, Nat.le_refl _, fun _ _ => rfl⟩
theorem Quad.doA (h : Quad w0 pb qb tb ub x x2 y y2 w) (hd : Do pb (pcs x') PT w w') : Quad w0 pb qb tb ub x' x2 y y2 w' := by
  have h1 := h.ab; have h2 := h.bc; have h3 := h.cd; have h4 := h.lo
  exact ⟨hd.at_, h.b.other hd.chg (by omega), h.c.other hd.chg (by omega), h.d.other hd.chg (by omega), h1, h2, h3, h4, hd.chg.below h.below h.below.size fun k e => by omega⟩
theorem Quad.doB (h : Quad w0 pb qb tb ub x x2 y y2 w) (hd : Do qb (rpcs x') RPT w w') : Quad w0 pb qb tb ub x x' y y2 w' := by
  have h1 := h.ab; have h2 := h.bc; have h3 := h.cd; have h4 := h.lo
  exact ⟨h.a.other hd.chg (by omega), hd.at_, h.c.other hd.chg (by omega), h.d.other hd.chg (by omega), h1, h2, h3, h4, hd.chg.below h.below h.below.size fun k e => by omega⟩
theorem Quad.doC (h : Quad w0 pb qb tb ub x x2 y y2 w) (hd : Do tb (tcs y') TT w w') : Quad w0 pb qb tb ub x x2 y' y2 w' := by
  have h1 := h.ab; have h2 := h.bc; have h3 := h.cd; have h4 := h.lo
  exact ⟨h.a.other hd.chg (by omega), h.b.other hd.chg (by omega), hd.at_, h.d.other hd.chg (by omega), h1, h2, h3, h4, hd.chg.below h.below h.below.size fun k e => by omega⟩
theorem Quad.doD (h : Quad w0 pb qb tb ub x x2 y y2 w) (hd : Do ub (rtcs y') RTT w w') : Quad w0 pb qb tb ub x x2 y y' w' := by
  have h1 := h.ab; have h2 := h.bc; have h3 := h.cd; have h4 := h.lo
  exact ⟨h.a.other hd.chg (by omega), h.b.other hd.chg (by omega), h.c.other hd.chg (by omega), hd.at_, h1, h2, h3, h4, hd.chg.below h.below h.below.size fun k e => by omega⟩
end
end Go.Proofs.Ytaeinccehkofgaa.Cr
namespace Go.Proofs.Ytaeinccehkofgaa.creditPlays
open Go.RowKit Go.Proofs.Ytaeinccehkofgaa.Base Go.Proofs.Ytaeinccehkofgaa.Mem Go.Proofs.Ytaeinccehkofgaa.Cr
set_option maxHeartbeats 8000000 in
set_option maxRecDepth 100000 in
theorem all (room : Int) (oa : Option Addr) (n cap : Nat) (F : Nat → Ct) (_ : n ≤ maxLen) (w : World) (hA : ArgS 2 cc CFit w oa n F) :
    Calls Try.prog 3 #[im room, .slice oa n cap] w fun e w' => e = .returned (.bool true) ∧ Below w.heap.size w w' := by
  have HA := Lib.hid hA
  clear hA
  by_cases h : 200 < n
  · have h1 : (200 : Int) < (n : Int) := by omega
    have h2 : decide ((200 : Int) < (n : Int)) = true := decide_eq_true h1
    have cw := Lib.hid (fworks w)
    go_enter Try.func3, Try.ntmps3
    go_wp2_with fail
    refine cw.out.mono ?_
    rintro _ w1 ⟨rfl, hb⟩
    have HB := Lib.hid hb
    clear hb cw
    go_wp2
    go_ret
    exact ⟨rfl, HB.out⟩
  have h1 : ¬ (200 : Int) < (n : Int) := by omega
  have h2 : decide ((200 : Int) < (n : Int)) = false := decide_eq_false h1
  go_enter Try.func3, Try.ntmps3
  go_wp2_with fail
  refine (fnewP room w).mono ?_
  rintro _ w1 ⟨rfl, ha, hb1⟩
  have HA1 := Lib.hid ha
  have HB1 := Lib.hid hb1
  clear ha hb1
  go_wp2_with fail
  refine (rnewP room w1).mono ?_
  rintro _ w2 ⟨rfl, ha, hb1⟩
  have HA2 := Lib.hid ha
  have HB2 := Lib.hid hb1
  clear ha hb1
  go_wp2_with fail
  refine (fnewT room w2).mono ?_
  rintro _ w3 ⟨rfl, ha, hb1⟩
  have HA3 := Lib.hid ha
  have HB3 := Lib.hid hb1
  clear ha hb1
  go_wp2_with fail
  refine (rnewT room w3).mono ?_
  rintro _ w4 ⟨rfl, ha, hb1⟩
  have HP : Hid (Quad w w.heap.size w1.heap.size w2.heap.size w3.heap.size (newP room) (newP room) (newT room) (newT room) w4) :=
    Lib.hid ⟨((HA1.out.below HB2.out).below HB3.out).below hb1, (HA2.out.below HB3.out).below hb1, HA3.out.below hb1, ha, HA1.out.lt, HA2.out.lt, HA3.out.lt, Nat.le_refl _, below_on HB1.out (below_on HB2.out (below_on HB3.out hb1))⟩
  clear ha hb1 HA1 HA2 HA3 HB1 HB2 HB3
  have HX := Lib.hid (newP_ok room)
  have HY := Lib.hid (newT_ok room)
  generalize newP room = x0 at HP HX
  generalize newT room = y0 at HP HY
  generalize hpb : w.heap.size = pb at HP ⊢
  have HPB := Lib.hid hpb
  clear hpb
  generalize w1.heap.size = qb at HP ⊢
  generalize w2.heap.size = tb at HP ⊢
  generalize w3.heap.size = ub at HP ⊢
  go_wp2_with fail
  go_loopg [9] n (fun gm s wr => ∃ (k : Nat) (x : Pu) (y : Ti), s = nm k ∧ n - k ≤ gm ∧ k ≤ n ∧ Hid (Quad w pb qb tb ub x x y y wr) ∧ Hid x.Ok ∧ Hid y.Ok)
  case atStart => exact ⟨0, _, _, rfl, by omega, by omega, HP, HX, HY⟩
  case round =>
    clear HP HX HY x0 y0
    obtain ⟨k, x, y, rfl, hgm, hkn, HP, HX, HY⟩ := hrel
    by_cases hlt : k < n
    · have t1 : decide ((k : Int) < (n : Int)) = true := decide_eq_true (by omega)
      have t2 : (k : Int) < (n : Int) := by omega
      have j0 : (0 : Int) ≤ (k : Int) := by omega
      have vk := wrap_nat (k + 1) (by omega)
      obtain ⟨a, gb, go, rfl, ha, hgb, hrw⟩ := arg_at HA.out hlt
      obtain ⟨c, hc⟩ : ∃ c, c = F k := ⟨_, rfl⟩
      rw [← hc] at hrw
      obtain ⟨c0, c1⟩ := hrw wr HP.out.below
      clear hrw hc
      obtain ⟨kd, num⟩ := c
      dsimp only at c0 c1
      rcases five_cases kd with hj | hj | hj | hj | hj
      · have CP := Lib.hid (fun w => five_at kd w hj (v := 0) rfl)
        have CA := Lib.hid (fuse wr pb x num HP.out.a HX.out)
        have CB := Lib.hid (fun w h => ruse w qb x num h HX.out)
        generalize fit num x.l = z at CA CB
        have zz : (z == z) = true := beq_self_eq_true _
        clear hj
        go_wp2_with (go_at_call 12; ((with_reducible refine (CP.out _).mono ?_); rintro e v ⟨rfl, rfl⟩))
        refine CA.out.mono ?_
        rintro _ w5 ⟨rfl, hd⟩
        have HP2 := Lib.hid (HP.out.doA hd)
        clear hd CA c0 c1 CP
        go_wp2_with fail
        refine (CB.out _ HP2.out.b).mono ?_
        rintro _ w6 ⟨rfl, hd⟩
        have HP3 := Lib.hid (HP2.out.doB hd)
        have HN := Lib.hid (HX.out.use num)
        clear hd CB HP2 HP HX
        generalize x.use num = x2 at HP3 HN
        have k1 : w6.cell? ⟨qb, 1, none⟩ = some (im x2.l) := HP3.out.b.cell 1 _ rfl
        have k2 : w6.cell? ⟨ub, 1, none⟩ = some (im y.h) := HP3.out.d.cell 1 _ rfl
        have k3 : w6.cell? ⟨ub, 2, none⟩ = some (im y.o) := HP3.out.d.cell 2 _ rfl
        have d1 : qb < w6.heap.size := HP3.out.b.lt
        have d2 : ub < w6.heap.size := HP3.out.d.lt
        have C1 : Hid (∀ m, Calls _ _ _ (w6.drewN m) _) := Lib.hid fun m => fleft (w6.drewN m) pb _ (HP3.out.drewN m).a
        have C2 : Hid (∀ m, Calls _ _ _ (w6.drewN m) _) := Lib.hid fun m => fholds (w6.drewN m) tb _ (HP3.out.drewN m).c
        have C3 : Hid (∀ m, Calls _ _ _ (w6.drewN m) _) := Lib.hid fun m => fowes (w6.drewN m) tb _ (HP3.out.drewN m).c
        go_wp2_with fail
        go_quiet (first
          | (go_at_call 23; exact quiet_left (C1.out _))
          | (go_at_call 24; exact quiet_left (C2.out _))
          | (go_at_call 25; exact quiet_left (C3.out _)))
        go_wp2
        go_roundg (n - (k + 1))
        case measure => omega
        case rel => exact ⟨k + 1, x2, y, by first | rfl | go_num, Nat.le_refl _, by omega, Lib.hid (HP3.out.drewN _), HN, HY⟩
      · have CP := Lib.hid (fun w => five_at kd w hj (v := 1) rfl)
        have CA := Lib.hid (fgrant wr pb x num HP.out.a HX.out)
        have CB := Lib.hid (fun w h => rgrant w qb x num h HX.out)
        generalize fit num (x.r - x.l) = z at CA CB
        have zz : (z == z) = true := beq_self_eq_true _
        clear hj
        go_wp2_with (go_at_call 12; ((with_reducible refine (CP.out _).mono ?_); rintro e v ⟨rfl, rfl⟩))
        refine CA.out.mono ?_
        rintro _ w5 ⟨rfl, hd⟩
        have HP2 := Lib.hid (HP.out.doA hd)
        clear hd CA c0 c1 CP
        go_wp2_with fail
        refine (CB.out _ HP2.out.b).mono ?_
        rintro _ w6 ⟨rfl, hd⟩
        have HP3 := Lib.hid (HP2.out.doB hd)
        have HN := Lib.hid (HX.out.grant num)
        clear hd CB HP2 HP HX
        generalize x.grant num = x2 at HP3 HN
        have k1 : w6.cell? ⟨qb, 1, none⟩ = some (im x2.l) := HP3.out.b.cell 1 _ rfl
        have k2 : w6.cell? ⟨ub, 1, none⟩ = some (im y.h) := HP3.out.d.cell 1 _ rfl
        have k3 : w6.cell? ⟨ub, 2, none⟩ = some (im y.o) := HP3.out.d.cell 2 _ rfl
        have d1 : qb < w6.heap.size := HP3.out.b.lt
        have d2 : ub < w6.heap.size := HP3.out.d.lt
        have C1 : Hid (∀ m, Calls _ _ _ (w6.drewN m) _) := Lib.hid fun m => fleft (w6.drewN m) pb _ (HP3.out.drewN m).a
        have C2 : Hid (∀ m, Calls _ _ _ (w6.drewN m) _) := Lib.hid fun m => fholds (w6.drewN m) tb _ (HP3.out.drewN m).c
        have C3 : Hid (∀ m, Calls _ _ _ (w6.drewN m) _) := Lib.hid fun m => fowes (w6.drewN m) tb _ (HP3.out.drewN m).c
        go_wp2_with fail
        go_quiet (first
          | (go_at_call 23; exact quiet_left (C1.out _))
          | (go_at_call 24; exact quiet_left (C2.out _))
          | (go_at_call 25; exact quiet_left (C3.out _)))
        go_wp2
        go_roundg (n - (k + 1))
        case measure => omega
        case rel => exact ⟨k + 1, x2, y, by first | rfl | go_num, Nat.le_refl _, by omega, Lib.hid (HP3.out.drewN _), HN, HY⟩
      · have CP := Lib.hid (fun w => five_at kd w hj (v := 2) rfl)
        have CA := Lib.hid (fcome wr tb y num HP.out.c HY.out)
        have CB := Lib.hid (fun w h => rcome w ub y num h HY.out)
        have em : y.r - y.h - y.o = y.r - y.o - y.h := by omega
        rw [em] at CB
        clear em
        generalize fit num (y.r - y.o - y.h) = z at CA CB
        have zz : (z == z) = true := beq_self_eq_true _
        clear hj
        go_wp2_with (go_at_call 12; ((with_reducible refine (CP.out _).mono ?_); rintro e v ⟨rfl, rfl⟩))
        refine CA.out.mono ?_
        rintro _ w5 ⟨rfl, hd⟩
        have HP2 := Lib.hid (HP.out.doC hd)
        clear hd CA c0 c1 CP
        go_wp2_with fail
        refine (CB.out _ HP2.out.d).mono ?_
        rintro _ w6 ⟨rfl, hd⟩
        have HP3 := Lib.hid (HP2.out.doD hd)
        have HN := Lib.hid (HY.out.come num)
        clear hd CB HP2 HP HY
        generalize y.come num = y2 at HP3 HN
        have k1 : w6.cell? ⟨qb, 1, none⟩ = some (im x.l) := HP3.out.b.cell 1 _ rfl
        have k2 : w6.cell? ⟨ub, 1, none⟩ = some (im y2.h) := HP3.out.d.cell 1 _ rfl
        have k3 : w6.cell? ⟨ub, 2, none⟩ = some (im y2.o) := HP3.out.d.cell 2 _ rfl
        have d1 : qb < w6.heap.size := HP3.out.b.lt
        have d2 : ub < w6.heap.size := HP3.out.d.lt
        have C1 : Hid (∀ m, Calls _ _ _ (w6.drewN m) _) := Lib.hid fun m => fleft (w6.drewN m) pb _ (HP3.out.drewN m).a
        have C2 : Hid (∀ m, Calls _ _ _ (w6.drewN m) _) := Lib.hid fun m => fholds (w6.drewN m) tb _ (HP3.out.drewN m).c
        have C3 : Hid (∀ m, Calls _ _ _ (w6.drewN m) _) := Lib.hid fun m => fowes (w6.drewN m) tb _ (HP3.out.drewN m).c
        go_wp2_with fail
        go_quiet (first
          | (go_at_call 23; exact quiet_left (C1.out _))
          | (go_at_call 24; exact quiet_left (C2.out _))
          | (go_at_call 25; exact quiet_left (C3.out _)))
        go_wp2
        go_roundg (n - (k + 1))
        case measure => omega
        case rel => exact ⟨k + 1, x, y2, by first | rfl | go_num, Nat.le_refl _, by omega, Lib.hid (HP3.out.drewN _), HX, HN⟩
      · have CP := Lib.hid (fun w => five_at kd w hj (v := 3) rfl)
        have CA := Lib.hid (fread wr tb y num HP.out.c HY.out)
        have CB := Lib.hid (fun w h => rread w ub y num h HY.out)
        generalize fit num y.h = z at CA CB
        have zz : (z == z) = true := beq_self_eq_true _
        clear hj
        go_wp2_with (go_at_call 12; ((with_reducible refine (CP.out _).mono ?_); rintro e v ⟨rfl, rfl⟩))
        refine CA.out.mono ?_
        rintro _ w5 ⟨rfl, hd⟩
        have HP2 := Lib.hid (HP.out.doC hd)
        clear hd CA c0 c1 CP
        go_wp2_with fail
        refine (CB.out _ HP2.out.d).mono ?_
        rintro _ w6 ⟨rfl, hd⟩
        have HP3 := Lib.hid (HP2.out.doD hd)
        have HN := Lib.hid (HY.out.read num)
        clear hd CB HP2 HP HY
        generalize y.read num = y2 at HP3 HN
        have k1 : w6.cell? ⟨qb, 1, none⟩ = some (im x.l) := HP3.out.b.cell 1 _ rfl
        have k2 : w6.cell? ⟨ub, 1, none⟩ = some (im y2.h) := HP3.out.d.cell 1 _ rfl
        have k3 : w6.cell? ⟨ub, 2, none⟩ = some (im y2.o) := HP3.out.d.cell 2 _ rfl
        have d1 : qb < w6.heap.size := HP3.out.b.lt
        have d2 : ub < w6.heap.size := HP3.out.d.lt
        have C1 : Hid (∀ m, Calls _ _ _ (w6.drewN m) _) := Lib.hid fun m => fleft (w6.drewN m) pb _ (HP3.out.drewN m).a
        have C2 : Hid (∀ m, Calls _ _ _ (w6.drewN m) _) := Lib.hid fun m => fholds (w6.drewN m) tb _ (HP3.out.drewN m).c
        have C3 : Hid (∀ m, Calls _ _ _ (w6.drewN m) _) := Lib.hid fun m => fowes (w6.drewN m) tb _ (HP3.out.drewN m).c
        go_wp2_with fail
        go_quiet (first
          | (go_at_call 23; exact quiet_left (C1.out _))
          | (go_at_call 24; exact quiet_left (C2.out _))
          | (go_at_call 25; exact quiet_left (C3.out _)))
        go_wp2
        go_roundg (n - (k + 1))
        case measure => omega
        case rel => exact ⟨k + 1, x, y2, by first | rfl | go_num, Nat.le_refl _, by omega, Lib.hid (HP3.out.drewN _), HX, HN⟩
      · have CP := Lib.hid (fun w => five_at kd w hj (v := 4) rfl)
        have CA := Lib.hid (fpay wr tb y HP.out.c HY.out)
        have CB := Lib.hid (fun w h => rpay w ub y h)
        generalize y.o = z at CA CB
        have zz : (z == z) = true := beq_self_eq_true _
        clear hj
        go_wp2_with (go_at_call 12; ((with_reducible refine (CP.out _).mono ?_); rintro e v ⟨rfl, rfl⟩))
        refine CA.out.mono ?_
        rintro _ w5 ⟨rfl, hd⟩
        have HP2 := Lib.hid (HP.out.doC hd)
        clear hd CA c0 c1 CP
        go_wp2_with fail
        refine (CB.out _ HP2.out.d).mono ?_
        rintro _ w6 ⟨rfl, hd⟩
        have HP3 := Lib.hid (HP2.out.doD hd)
        have HN := Lib.hid (HY.out.pay)
        clear hd CB HP2 HP HY
        generalize y.pay = y2 at HP3 HN
        have k1 : w6.cell? ⟨qb, 1, none⟩ = some (im x.l) := HP3.out.b.cell 1 _ rfl
        have k2 : w6.cell? ⟨ub, 1, none⟩ = some (im y2.h) := HP3.out.d.cell 1 _ rfl
        have k3 : w6.cell? ⟨ub, 2, none⟩ = some (im y2.o) := HP3.out.d.cell 2 _ rfl
        have d1 : qb < w6.heap.size := HP3.out.b.lt
        have d2 : ub < w6.heap.size := HP3.out.d.lt
        have C1 : Hid (∀ m, Calls _ _ _ (w6.drewN m) _) := Lib.hid fun m => fleft (w6.drewN m) pb _ (HP3.out.drewN m).a
        have C2 : Hid (∀ m, Calls _ _ _ (w6.drewN m) _) := Lib.hid fun m => fholds (w6.drewN m) tb _ (HP3.out.drewN m).c
        have C3 : Hid (∀ m, Calls _ _ _ (w6.drewN m) _) := Lib.hid fun m => fowes (w6.drewN m) tb _ (HP3.out.drewN m).c
        go_wp2_with fail
        go_quiet (first
          | (go_at_call 23; exact quiet_left (C1.out _))
          | (go_at_call 24; exact quiet_left (C2.out _))
          | (go_at_call 25; exact quiet_left (C3.out _)))
        go_wp2
        go_roundg (n - (k + 1))
        case measure => omega
        case rel => exact ⟨k + 1, x, y2, by first | rfl | go_num, Nat.le_refl _, by omega, Lib.hid (HP3.out.drewN _), HX, HN⟩
    · have t1 : decide ((k : Int) < (n : Int)) = false := decide_eq_false (by omega)
      have t2 : ¬ (k : Int) < (n : Int) := by omega
      go_wp2_with fail
      refine wp_region_held_drew (S := (fun w' => Below w.heap.size w w' ∧ w'.cell? ⟨qb, 1, none⟩ = some (im x.l) ∧ w'.cell? ⟨ub, 1, none⟩ = some (im y.h))) (by kernel_rfl) ⟨HP.out.drew.below, HP.out.drew.b.cell 1 _ rfl, HP.out.drew.d.cell 1 _ rfl⟩ (fun hHeld => ?_)
      refine' wpAnyH_take (i := 0) (oi := { dst := some 111, op := Go.Op.move (Go.Operand.tmp 5), type := 24, pos := "law.go:43", after := #[], guard := none }) (v := _) rfl (by kernel_rfl) (by kernel_rfl) (by kernel_rfl) (fun _ _ _ h => h) (Or.inl ⟨by rfl, ?hy1⟩) (by assumption) ?hr1
      case hy1 => (intro _ hSw; (try dsimp only at hSw); go_simp <;> with_reducible rfl)
      simp only [Act.put, List.setIfInBounds_toArray, List.set_cons_zero, List.set_cons_succ]
      refine' wpAnyH_take (i := 2) (oi := { dst := some 113, op := Go.Op.move (Go.Operand.tmp 6), type := 26, pos := "law.go:43", after := #[], guard := none }) (v := _) rfl (by kernel_rfl) (by kernel_rfl) (by kernel_rfl) (fun _ _ _ h => h) (Or.inl ⟨by rfl, ?hy2⟩) (by assumption) ?hr2
      case hy2 => (intro _ hSw; (try dsimp only at hSw); go_simp <;> with_reducible rfl)
      simp only [Act.put, List.setIfInBounds_toArray, List.set_cons_zero, List.set_cons_succ]
      refine' wpAnyH_take (i := 3) (oi := { dst := some 114, op := Go.Op.nilCheck (Go.Operand.tmp 113), type := 0, pos := "law.go:43", after := #[{ on := 2, ground := Go.Ground.data }], guard := none }) (v := _) rfl (by kernel_rfl) (by kernel_rfl) (by kernel_rfl) (fun _ _ _ h => h) (Or.inl ⟨by rfl, ?hy3⟩) (by assumption) ?hr3
      case hy3 => (intro _ hSw; (try dsimp only at hSw); go_simp <;> with_reducible rfl)
      simp only [Act.put, List.setIfInBounds_toArray, List.set_cons_zero, List.set_cons_succ]
      refine' wpAnyH_take (i := 4) (oi := { dst := some 115, op := Go.Op.fieldAddr 39 (Go.Operand.tmp 114) 1, type := 0, pos := "law.go:43", after := #[{ on := 3, ground := Go.Ground.data }], guard := none }) (v := _) rfl (by kernel_rfl) (by kernel_rfl) (by kernel_rfl) (fun _ _ _ h => h) (Or.inl ⟨by rfl, ?hy4⟩) (by assumption) ?hr4
      case hy4 => (intro _ hSw; (try dsimp only at hSw); go_simp <;> with_reducible rfl)
      simp only [Act.put, List.setIfInBounds_toArray, List.set_cons_zero, List.set_cons_succ]
      refine' wpAnyH_take (i := 5) (oi := { dst := some 116, op := Go.Op.load 3 (Go.Operand.tmp 115), type := 3, pos := "law.go:43", after := #[{ on := 4, ground := Go.Ground.data }], guard := none }) (v := _) rfl (by kernel_rfl) (by kernel_rfl) (by kernel_rfl) (fun _ _ _ h => h) (Or.inl ⟨by rfl, ?hy5⟩) (by assumption) ?hr5
      case hy5 => (intro _ hSw; (try dsimp only at hSw); have hc1 := hSw.2.1; go_simp <;> with_reducible rfl)
      simp only [Act.put, List.setIfInBounds_toArray, List.set_cons_zero, List.set_cons_succ]
      refine wpAnyH_ready (rs := [1]) (by kernel_rfl) (by simp) ?_
      refine AllReadyH.cons (o := { dst := some 112, op := Go.Op.call { callee := Go.Callee.value (Go.Operand.func 23), args := #[Go.Operand.tmp 111], argTypes := #[24] }, type := 3, pos := "law.go:43", after := #[{ on := 0, ground := Go.Ground.data }], guard := none }) rfl (fun K hK => ?_) AllReadyH.nil
      go_simp
      refine (fleft _ pb x HP.out.drew.a).mono ?_
      rintro _ w6 ⟨rfl, rfl⟩
      go_wp2_with fail
      refine hK.out _ _ hHeld (fun hNext => ?_)
      clear hK K hHeld
      have hHeld := hNext
      clear hNext
      (try simp only [Act.put, List.setIfInBounds_toArray, List.set_cons_zero, List.set_cons_succ])
      refine' wpAnyH_take (i := 6) (oi := { dst := some 117, op := Go.Op.binOp Go.BinOp.eql 3 (Go.Operand.tmp 112) (Go.Operand.tmp 116) 3, type := 4, pos := "law.go:43", after := #[{ on := 1, ground := Go.Ground.data }, { on := 5, ground := Go.Ground.data }], guard := none }) (v := _) rfl (by kernel_rfl) (by kernel_rfl) (by kernel_rfl) (fun _ _ _ h => h) (Or.inl ⟨by rfl, ?hy6⟩) (by assumption) ?hr6
      case hy6 => (intro _ hSw; (try dsimp only at hSw); go_simp <;> with_reducible rfl)
      simp only [Act.put, List.setIfInBounds_toArray, List.set_cons_zero, List.set_cons_succ]
      refine' wpAnyH_take (i := 7) (oi := { dst := some 118, op := Go.Op.move (Go.Operand.tmp 117), type := 4, pos := "law.go:43", after := #[{ on := 6, ground := Go.Ground.data }, { on := 1, ground := Go.Ground.chain }], guard := none }) (v := _) rfl (by kernel_rfl) (by kernel_rfl) (by kernel_rfl) (fun _ _ _ h => h) (Or.inl ⟨by rfl, ?hy7⟩) (by assumption) ?hr7
      case hy7 => (intro _ hSw; (try dsimp only at hSw); go_simp <;> with_reducible rfl)
      simp only [Act.put, List.setIfInBounds_toArray, List.set_cons_zero, List.set_cons_succ]
      refine' wpAnyH_take (i := 8) (oi := { dst := some 119, op := Go.Op.move (Go.Operand.tmp 7), type := 28, pos := "law.go:43", after := #[{ on := 7, ground := Go.Ground.guard }], guard := some (7, true) }) (v := _) rfl (by kernel_rfl) (by kernel_rfl) (by kernel_rfl) (fun _ _ _ h => h) (Or.inl ⟨by rfl, ?hy8⟩) (by assumption) ?hr8
      case hy8 => (intro _ hSw; (try dsimp only at hSw); go_simp <;> with_reducible rfl)
      simp only [Act.put, List.setIfInBounds_toArray, List.set_cons_zero, List.set_cons_succ]
      refine' wpAnyH_take (i := 10) (oi := { dst := some 121, op := Go.Op.move (Go.Operand.tmp 8), type := 30, pos := "law.go:43", after := #[{ on := 7, ground := Go.Ground.guard }], guard := some (7, true) }) (v := _) rfl (by kernel_rfl) (by kernel_rfl) (by kernel_rfl) (fun _ _ _ h => h) (Or.inl ⟨by rfl, ?hy9⟩) (by assumption) ?hr9
      case hy9 => (intro _ hSw; (try dsimp only at hSw); go_simp <;> with_reducible rfl)
      simp only [Act.put, List.setIfInBounds_toArray, List.set_cons_zero, List.set_cons_succ]
      refine' wpAnyH_take (i := 11) (oi := { dst := some 122, op := Go.Op.nilCheck (Go.Operand.tmp 121), type := 0, pos := "law.go:43", after := #[{ on := 10, ground := Go.Ground.data }, { on := 7, ground := Go.Ground.guard }], guard := some (7, true) }) (v := _) rfl (by kernel_rfl) (by kernel_rfl) (by kernel_rfl) (fun _ _ _ h => h) (Or.inl ⟨by rfl, ?hy10⟩) (by assumption) ?hr10
      case hy10 => (intro _ hSw; (try dsimp only at hSw); go_simp <;> with_reducible rfl)
      simp only [Act.put, List.setIfInBounds_toArray, List.set_cons_zero, List.set_cons_succ]
      refine' wpAnyH_take (i := 12) (oi := { dst := some 123, op := Go.Op.fieldAddr 41 (Go.Operand.tmp 122) 1, type := 0, pos := "law.go:43", after := #[{ on := 11, ground := Go.Ground.data }, { on := 7, ground := Go.Ground.guard }], guard := some (7, true) }) (v := _) rfl (by kernel_rfl) (by kernel_rfl) (by kernel_rfl) (fun _ _ _ h => h) (Or.inl ⟨by rfl, ?hy11⟩) (by assumption) ?hr11
      case hy11 => (intro _ hSw; (try dsimp only at hSw); go_simp <;> with_reducible rfl)
      simp only [Act.put, List.setIfInBounds_toArray, List.set_cons_zero, List.set_cons_succ]
      refine' wpAnyH_take (i := 13) (oi := { dst := some 124, op := Go.Op.load 3 (Go.Operand.tmp 123), type := 3, pos := "law.go:43", after := #[{ on := 12, ground := Go.Ground.data }, { on := 7, ground := Go.Ground.guard }], guard := some (7, true) }) (v := _) rfl (by kernel_rfl) (by kernel_rfl) (by kernel_rfl) (fun _ _ _ h => h) (Or.inl ⟨by rfl, ?hy12⟩) (by assumption) ?hr12
      case hy12 => (intro _ hSw; (try dsimp only at hSw); have hc2 := hSw.2.2; go_simp <;> with_reducible rfl)
      simp only [Act.put, List.setIfInBounds_toArray, List.set_cons_zero, List.set_cons_succ]
      refine wpAnyH_ready (rs := [9]) (by kernel_rfl) (by simp) ?_
      refine AllReadyH.cons (o := { dst := some 120, op := Go.Op.call { callee := Go.Callee.value (Go.Operand.func 24), args := #[Go.Operand.tmp 119], argTypes := #[28] }, type := 3, pos := "law.go:43", after := #[{ on := 8, ground := Go.Ground.data }, { on := 7, ground := Go.Ground.chain }, { on := 7, ground := Go.Ground.guard }], guard := some (7, true) }) rfl (fun K hK => ?_) AllReadyH.nil
      go_simp
      refine (fholds _ tb y HP.out.drew.c).mono ?_
      rintro _ w6 ⟨rfl, rfl⟩
      go_wp2_with fail
      refine hK.out _ _ hHeld (fun hNext => ?_)
      clear hK K hHeld
      have hHeld := hNext
      clear hNext
      (try simp only [Act.put, List.setIfInBounds_toArray, List.set_cons_zero, List.set_cons_succ])
      refine' wpAnyH_take (i := 14) (oi := { dst := some 125, op := Go.Op.binOp Go.BinOp.eql 3 (Go.Operand.tmp 120) (Go.Operand.tmp 124) 3, type := 4, pos := "law.go:43", after := #[{ on := 9, ground := Go.Ground.data }, { on := 13, ground := Go.Ground.data }, { on := 7, ground := Go.Ground.guard }], guard := some (7, true) }) (v := _) rfl (by kernel_rfl) (by kernel_rfl) (by kernel_rfl) (fun _ _ _ h => h) (Or.inl ⟨by rfl, ?hy13⟩) (by assumption) ?hr13
      case hy13 => (intro _ hSw; (try dsimp only at hSw); go_simp <;> with_reducible rfl)
      simp only [Act.put, List.setIfInBounds_toArray, List.set_cons_zero, List.set_cons_succ]
      refine' wpAnyH_take (i := 15) (oi := { dst := some 126, op := Go.Op.pick (Go.Operand.tmp 118) (Go.Operand.tmp 125) (Go.Operand.const (Go.Value.bool false)), type := 4, pos := "law.go:43", after := #[{ on := 7, ground := Go.Ground.data }, { on := 14, ground := Go.Ground.data }], guard := none }) (v := _) rfl (by kernel_rfl) (by kernel_rfl) (by kernel_rfl) (fun _ _ _ h => h) (Or.inl ⟨by rfl, ?hy14⟩) (by assumption) ?hr14
      case hy14 => (intro _ hSw; (try dsimp only at hSw); go_simp <;> with_reducible rfl)
      simp only [Act.put, List.setIfInBounds_toArray, List.set_cons_zero, List.set_cons_succ]
      refine' wpAnyH_take (i := 16) (oi := { dst := some 127, op := Go.Op.move (Go.Operand.tmp 126), type := 4, pos := "law.go:43", after := #[{ on := 15, ground := Go.Ground.data }, { on := 9, ground := Go.Ground.chain }], guard := none }) (v := _) rfl (by kernel_rfl) (by kernel_rfl) (by kernel_rfl) (fun _ _ _ h => h) (Or.inl ⟨by rfl, ?hy15⟩) (by assumption) ?hr15
      case hy15 => (intro _ hSw; (try dsimp only at hSw); go_simp <;> with_reducible rfl)
      simp only [Act.put, List.setIfInBounds_toArray, List.set_cons_zero, List.set_cons_succ]
      refine wpAnyH_ready (rs := [17]) (by kernel_rfl) (by simp) ?_
      refine AllReadyH.cons (o := { dst := some 128, op := Go.Op.call { callee := Go.Callee.value (Go.Operand.func 7), args := #[], argTypes := #[] }, type := 4, pos := "law.go:43", after := #[{ on := 16, ground := Go.Ground.chain }, { on := 16, ground := Go.Ground.guard }], guard := some (16, true) }) rfl (fun K hK => ?_) AllReadyH.nil
      go_simp
      refine (fworks _).mono ?_
      rintro _ w7 ⟨rfl, hb⟩
      have HB := Lib.hid (HP.out.drew.on hb)
      clear hb
      go_wp2_with fail
      refine hK.out _ _ ⟨HB.out.below, HB.out.b.cell 1 _ rfl, HB.out.d.cell 1 _ rfl⟩ (fun hNext => ?_)
      clear hK K hHeld
      have hHeld := hNext
      clear hNext
      (try simp only [Act.put, List.setIfInBounds_toArray, List.set_cons_zero, List.set_cons_succ])
      refine' wpAnyH_take (i := 18) (oi := { dst := some 129, op := Go.Op.pick (Go.Operand.tmp 127) (Go.Operand.tmp 128) (Go.Operand.const (Go.Value.bool false)), type := 4, pos := "law.go:43", after := #[{ on := 16, ground := Go.Ground.data }, { on := 17, ground := Go.Ground.data }], guard := none }) (v := _) rfl (by kernel_rfl) (by kernel_rfl) (by kernel_rfl) (fun _ _ _ h => h) (Or.inl ⟨by rfl, ?hy16⟩) (by assumption) ?hr16
      case hy16 => (intro _ hSw; (try dsimp only at hSw); go_simp <;> with_reducible rfl)
      simp only [Act.put, List.setIfInBounds_toArray, List.set_cons_zero, List.set_cons_succ]
      refine' wpAnyH_take (i := 19) (oi := { dst := some 4, op := Go.Op.assign (Go.Operand.tmp 129), type := 4, pos := "law.go:43", after := #[{ on := 18, ground := Go.Ground.data }, { on := 17, ground := Go.Ground.chain }, { on := 0, ground := Go.Ground.phase }, { on := 1, ground := Go.Ground.phase }, { on := 2, ground := Go.Ground.phase }, { on := 3, ground := Go.Ground.phase }, { on := 4, ground := Go.Ground.phase }, { on := 5, ground := Go.Ground.phase }, { on := 6, ground := Go.Ground.phase }, { on := 7, ground := Go.Ground.phase }, { on := 8, ground := Go.Ground.phase }, { on := 9, ground := Go.Ground.phase }, { on := 10, ground := Go.Ground.phase }, { on := 11, ground := Go.Ground.phase }, { on := 12, ground := Go.Ground.phase }, { on := 13, ground := Go.Ground.phase }, { on := 14, ground := Go.Ground.phase }, { on := 15, ground := Go.Ground.phase }, { on := 16, ground := Go.Ground.phase }, { on := 17, ground := Go.Ground.phase }, { on := 18, ground := Go.Ground.phase }], guard := none }) (v := _) rfl (by kernel_rfl) (by kernel_rfl) (by kernel_rfl) (fun _ _ _ h => h) (Or.inl ⟨by rfl, ?hy17⟩) (by assumption) ?hr17
      case hy17 => (intro _ hSw; (try dsimp only at hSw); go_simp <;> with_reducible rfl)
      simp only [Act.put, List.setIfInBounds_toArray, List.set_cons_zero, List.set_cons_succ]
      refine wpAnyH_done (by kernel_rfl) ?_ _
      clear hHeld HP
      go_wp2
      go_ret
      exact ⟨rfl, HPB.out ▸ HB.out.below⟩
theorem law (room : Int) (_ : -9223372036854775808 ≤ room ∧ room ≤ 9223372036854775807) (oa : Option Addr) (n cap : Nat) (F : Nat → Ct) (hn : n ≤ maxLen) (w : World) (hA : ArgS 2 cc CFit w oa n F) :
    Calls Try.prog 3 #[im room, .slice oa n cap] w fun e w' => e = .returned (.bool true) ∧ Below w.heap.size w w' := all room oa n cap F hn w hA
end Go.Proofs.Ytaeinccehkofgaa.creditPlays
