/-
  GateApart answers true whatever came in, and turns nothing that was there. No condition.
-/
import Derived.Test.YtogpfjpjegmkiaaGtWorks
import Derived.Test.YtogpfjpjegmkiaaGtArgs
import Derived.Deep.RegionHeld
namespace Go.Proofs.Ytogpfjpjegmkiaa.Gt
open Go.RowKit Go.Proofs.Ytogpfjpjegmkiaa.Base Go.Proofs.Ytogpfjpjegmkiaa.Mem Go.Proofs.Ytogpfjpjegmkiaa.Cr
/-- Two of the program's own, made since w0. -/
structure Tw (w0 : World) (b q : Nat) (y z : St) (w : World) : Prop where
  one : Pn w0 b y w
  two : P w q z
  ne : q ≠ b
  lo : w0.heap.size ≤ q
section
variable {w0 w w' : World} {b q : Nat} {y z v : St}
theorem Tw.on (h : Tw w0 b q y z w) (hb : Below w.heap.size w w') : Tw w0 b q y z w' := ⟨h.one.on hb, h.two.below hb, h.ne, h.lo⟩
theorem Tw.drewN (h : Tw w0 b q y z w) (n : Nat) : Tw w0 b q y z (w.drewN n) := h.on ⟨rfl, rfl, rfl, Nat.le_refl _, fun _ _ => rfl⟩
theorem Tw.drew (h : Tw w0 b q y z w) : Tw w0 b q y z w.drew := h.on ⟨rfl, rfl, rfl, Nat.le_refl _, fun _ _ => rfl⟩
theorem Tw.doA (h : Tw w0 b q y z w) (hq : P w' b v) (hc : Chg (Bs b) w w') : Tw w0 b q v z w' := ⟨h.one.step hq hc, h.two.other hc h.ne, h.ne, h.lo⟩
theorem Tw.doB (h : Tw w0 b q y z w) (hq : P w' q v) (hc : Chg (Bs q) w w') : Tw w0 b q y v w' :=
  ⟨⟨h.one.q.other hc fun e => h.ne e.symm, h.one.lo, hc.below h.one.below h.one.below.size fun _ e => e ▸ h.lo⟩, hq, h.ne, h.lo⟩
theorem oc_beq (a b : Nat) : ((a : Int) == (b : Int)) = decide (a = b) := by
  by_cases h : a = b
  · rw [decide_eq_true h, h]; exact beq_self_eq_true _
  · rw [decide_eq_false h]; exact beq_false (by omega)
end
end Go.Proofs.Ytogpfjpjegmkiaa.Gt
namespace Go.Proofs.Ytogpfjpjegmkiaa.gateApart
open Go.RowKit Go.Proofs.Ytogpfjpjegmkiaa.Base Go.Proofs.Ytogpfjpjegmkiaa.Mem Go.Proofs.Ytogpfjpjegmkiaa.Cr Go.Proofs.Ytogpfjpjegmkiaa.Gt
set_option maxHeartbeats 8000000 in
set_option maxRecDepth 100000 in
theorem all (oa : Option Addr) (n cap : Nat) (F : Nat → Ct) (d : Nat) (w : World) (hA : ArgS 3 cc CFit w oa n F) :
    Calls Try.prog 4 #[.slice oa n cap, oc d] w fun e w' => e = .returned (.bool true) ∧ Below w.heap.size w w' := by
  have CW := Lib.hid fworks
  by_cases h120 : 100 < n
  · have h1 : (100 : Int) < (n : Int) := by omega
    have h2 : decide ((100 : Int) < (n : Int)) = true := decide_eq_true h1
    clear hA
    go_enter Try.func4, Try.ntmps4
    go_wp2_with fail
    refine (CW.out _).mono ?_
    rintro _ w9 ⟨rfl, hb⟩
    have HB9 := Lib.hid hb
    clear hb CW
    go_wp2
    go_ret
    exact ⟨rfl, HB9.out⟩
  have h1 : ¬ (100 : Int) < (n : Int) := by omega
  have h2 : decide ((100 : Int) < (n : Int)) = false := decide_eq_false h1
  have hn : n ≤ 100 := by omega
  have HA := Lib.hid hA
  clear h120 hA
  go_enter Try.func4, Try.ntmps4
  go_wp2_with fail
  refine (fnew w).mono ?_
  rintro _ w1 ⟨rfl, hp, hb⟩
  have HP : Hid (Pn w w.heap.size St.new w1) := Lib.hid ⟨hp, Nat.le_refl _, hb⟩
  clear hp hb
  go_wp2_with fail
  refine (fnew w1).mono ?_
  rintro _ w2 ⟨rfl, hp, hb⟩
  have HT : Hid (Tw w w.heap.size w1.heap.size St.new St.new w2) := Lib.hid ⟨HP.out.on hb, hp, by have := HP.out.q.lt; omega, HP.out.below.size⟩
  clear hp hb HP
  generalize hb : w.heap.size = b at HT ⊢
  have HPB := Lib.hid hb
  clear hb
  generalize w1.heap.size = q at HT ⊢
  go_wp2_with fail
  go_loopg [7] n (fun gm s wr => ∃ (i : Nat) (x z : St), s = nm i ∧ n - i ≤ gm ∧ i ≤ n ∧ Hid (Gt.Alike d x z) ∧ Hid (Tw w b q x z wr))
  case atStart => exact ⟨0, St.new, St.new, rfl, by omega, by omega, Lib.hid (.refl _ _), HT⟩
  case round =>
    clear HT
    obtain ⟨i, x, z, rfl, hgm, hin, HL, HT⟩ := hrel
    by_cases hlt : i < n
    · have t1 : decide ((i : Int) < (n : Int)) = true := decide_eq_true (by omega)
      have t2 : (i : Int) < (n : Int) := by omega
      have j0 : (0 : Int) ≤ (i : Int) := by omega
      have vi := wrap_nat (i + 1) (by omega)
      obtain ⟨a, gb, go, rfl, ha, hgb, hrw⟩ := arg_at HA.out hlt
      obtain ⟨⟨xa, xd, xy⟩, hf⟩ : ∃ f, F i = f := ⟨_, rfl⟩
      rw [hf] at hrw
      dsimp only at hrw
      have HW := Lib.hid hrw
      have OX := Lib.hid HT.out.one.q.ok
      have OZ := Lib.hid HT.out.two.ok
      clear hrw hf hgb
      cases xa with
      | true =>
        have HA3 := Lib.hid (HL.out.all xy)
        obtain ⟨c0, c1, c2⟩ := HW.out wr HT.out.one.below
        go_wp2_with fail
        refine (fall HT.out.one.q xy).mono ?_
        rintro _ w3 ⟨rfl, hp, hc⟩
        have HT2 := Lib.hid (HT.out.doA hp hc)
        clear hp hc HT c0 c1 c2
        obtain ⟨c0, c1, c2⟩ := HW.out w3 HT2.out.one.below
        go_wp2_with fail
        refine (fall HT2.out.two xy).mono ?_
        rintro _ w4 ⟨rfl, hp, hc⟩
        have HT3 := Lib.hid (HT2.out.doB hp hc)
        clear hp hc HT2 c0 c1 c2
        generalize x.all xy = x2 at HT3 HA3
        generalize z.all xy = z2 at HT3 HA3
        have C1 := fmay HT3.out.one.q d
        obtain ⟨m, hm⟩ : ∃ m, x2.may d = m := ⟨_, rfl⟩
        have hz := HA3.out.may
        rw [hm] at C1 hz
        have C1 := Lib.hid C1
        have HM := Lib.hid hz.symm
        have zz : (m != m) = false := by cases m <;> rfl
        clear hm hz
        go_wp2_with fail
        refine C1.out.mono ?_
        rintro _ _ ⟨rfl, nq, rfl⟩
        have HT4 := Lib.hid (HT3.out.drewN nq)
        clear C1 HT3
        generalize w4.drewN nq = w5 at HT4 ⊢
        go_wp2_with fail
        refine (fmay_at HT4.out.two d m HM.out).mono ?_
        rintro _ _ ⟨rfl, nq, rfl⟩
        have HT5 := Lib.hid (HT4.out.drewN nq)
        clear HT4
        generalize w5.drewN nq = w6 at HT5 ⊢
        go_wp2_with fail
        refine (fmay_at HT5.out.one.q 0 true (may_zero _)).mono ?_
        rintro _ _ ⟨rfl, nq, rfl⟩
        have HT6 := Lib.hid (HT5.out.drewN nq)
        clear HT5
        generalize w6.drewN nq = w7 at HT6 ⊢
        go_wp2
        go_roundg (n - (i + 1))
        case measure => omega
        case rel => exact ⟨i + 1, x2, z2, by first | rfl | go_num, Nat.le_refl _, by omega, HA3, HT6⟩
      | false =>
        by_cases he : d = xd
        · subst he
          have HA3 := Lib.hid (HL.out.both OX.out OZ.out xy)
          obtain ⟨c0, c1, c2⟩ := HW.out wr HT.out.one.below
          go_wp2_with fail
          refine (fstop HT.out.one.q d xy).mono ?_
          rintro _ w3 ⟨rfl, hp, hc⟩
          have HT2 := Lib.hid (HT.out.doA hp hc)
          clear hp hc HT c0 c1 c2
          obtain ⟨c0, c1, c2⟩ := HW.out w3 HT2.out.one.below
          go_wp2_with fail
          refine (fstop HT2.out.two d xy).mono ?_
          rintro _ w4 ⟨rfl, hp, hc⟩
          have HT3 := Lib.hid (HT2.out.doB hp hc)
          clear hp hc HT2 c0 c1 c2
          generalize x.stop d xy = x2 at HT3 HA3
          generalize z.stop d xy = z2 at HT3 HA3
          have C1 := fmay HT3.out.one.q d
          obtain ⟨m, hm⟩ : ∃ m, x2.may d = m := ⟨_, rfl⟩
          have hz := HA3.out.may
          rw [hm] at C1 hz
          have C1 := Lib.hid C1
          have HM := Lib.hid hz.symm
          have zz : (m != m) = false := by cases m <;> rfl
          clear hm hz
          go_wp2_with fail
          refine C1.out.mono ?_
          rintro _ _ ⟨rfl, nq, rfl⟩
          have HT4 := Lib.hid (HT3.out.drewN nq)
          clear C1 HT3
          generalize w4.drewN nq = w5 at HT4 ⊢
          go_wp2_with fail
          refine (fmay_at HT4.out.two d m HM.out).mono ?_
          rintro _ _ ⟨rfl, nq, rfl⟩
          have HT5 := Lib.hid (HT4.out.drewN nq)
          clear HT4
          generalize w5.drewN nq = w6 at HT5 ⊢
          go_wp2_with fail
          refine (fmay_at HT5.out.one.q 0 true (may_zero _)).mono ?_
          rintro _ _ ⟨rfl, nq, rfl⟩
          have HT6 := Lib.hid (HT5.out.drewN nq)
          clear HT5
          generalize w6.drewN nq = w7 at HT6 ⊢
          go_wp2
          go_roundg (n - (i + 1))
          case measure => omega
          case rel => exact ⟨i + 1, x2, z2, by first | rfl | go_num, Nat.le_refl _, by omega, HA3, HT6⟩
        · have u0 : ((xd : Int) == (d : Int)) = false := beq_false (by omega)
          have u1 : ¬ (xd : Int) = (d : Int) := by omega
          have HA3 := Lib.hid (HL.out.other OX.out (fun e => he e.symm) xy)
          obtain ⟨c0, c1, c2⟩ := HW.out wr HT.out.one.below
          clear he
          go_wp2_with fail
          clear c0 c1 c2
          refine wp_region_held_drew (S := (fun w' => Below w.heap.size w w')) (by kernel_rfl) (below_drewN HT.out.one.below 1) (fun hHeld => ?_)
          refine' wpAnyH_take (i := 0) (oi := { dst := some 21, op := Go.Op.move (Go.Operand.tmp 5), type := 24, pos := "law.go:68", after := #[], guard := none }) (v := _) rfl (by kernel_rfl) (by kernel_rfl) (by kernel_rfl) (fun _ _ _ h => h) (Or.inl ⟨by rfl, ?hy1⟩) (by assumption) ?hr1
          case hy1 => (intro _ hSw; (try dsimp only at hSw); go_simp <;> with_reducible rfl)
          simp only [Act.put, List.setIfInBounds_toArray, List.set_cons_zero, List.set_cons_succ]
          refine' wpAnyH_take (i := 1) (oi := { dst := some 22, op := Go.Op.move (Go.Operand.tmp 0), type := 22, pos := "law.go:68", after := #[], guard := none }) (v := _) rfl (by kernel_rfl) (by kernel_rfl) (by kernel_rfl) (fun _ _ _ h => h) (Or.inl ⟨by rfl, ?hy2⟩) (by assumption) ?hr2
          case hy2 => (intro _ hSw; (try dsimp only at hSw); go_simp <;> with_reducible rfl)
          simp only [Act.put, List.setIfInBounds_toArray, List.set_cons_zero, List.set_cons_succ]
          refine' wpAnyH_take (i := 2) (oi := { dst := some 23, op := Go.Op.move (Go.Operand.tmp 7), type := 3, pos := "law.go:68", after := #[], guard := none }) (v := _) rfl (by kernel_rfl) (by kernel_rfl) (by kernel_rfl) (fun _ _ _ h => h) (Or.inl ⟨by rfl, ?hy3⟩) (by assumption) ?hr3
          case hy3 => (intro _ hSw; (try dsimp only at hSw); go_simp <;> with_reducible rfl)
          simp only [Act.put, List.setIfInBounds_toArray, List.set_cons_zero, List.set_cons_succ]
          refine' wpAnyH_take (i := 3) (oi := { dst := some 24, op := Go.Op.indexAddr 22 (Go.Operand.tmp 22) (Go.Operand.tmp 23), type := 0, pos := "law.go:68", after := #[{ on := 1, ground := Go.Ground.data }, { on := 2, ground := Go.Ground.data }], guard := none }) (v := _) rfl (by kernel_rfl) (by kernel_rfl) (by kernel_rfl) (fun _ _ _ h => h) (Or.inl ⟨by rfl, ?hy4⟩) (by assumption) ?hr4
          case hy4 => (intro _ hSw; (try dsimp only at hSw); go_simp <;> with_reducible rfl)
          simp only [Act.put, List.setIfInBounds_toArray, List.set_cons_zero, List.set_cons_succ]
          refine' wpAnyH_take (i := 4) (oi := { dst := some 25, op := Go.Op.fieldAddr 35 (Go.Operand.tmp 24) 1, type := 0, pos := "law.go:68", after := #[{ on := 3, ground := Go.Ground.data }], guard := none }) (v := _) rfl (by kernel_rfl) (by kernel_rfl) (by kernel_rfl) (fun _ _ _ h => h) (Or.inl ⟨by rfl, ?hy5⟩) (by assumption) ?hr5
          case hy5 => (intro _ hSw; (try dsimp only at hSw); go_simp <;> with_reducible rfl)
          simp only [Act.put, List.setIfInBounds_toArray, List.set_cons_zero, List.set_cons_succ]
          refine' wpAnyH_take (i := 5) (oi := { dst := some 26, op := Go.Op.load 5 (Go.Operand.tmp 25), type := 5, pos := "law.go:68", after := #[{ on := 4, ground := Go.Ground.data }], guard := none }) (v := _) rfl (by kernel_rfl) (by kernel_rfl) (by kernel_rfl) (fun _ _ _ h => h) (Or.inl ⟨by rfl, ?hy6⟩) (by assumption) ?hr6
          case hy6 => (intro _ hSw; (try dsimp only at hSw); have b1 := (HW.out _ hSw).2.1; go_simp <;> with_reducible rfl)
          simp only [Act.put, List.setIfInBounds_toArray, List.set_cons_zero, List.set_cons_succ]
          refine' wpAnyH_take (i := 6) (oi := { dst := some 27, op := Go.Op.move (Go.Operand.tmp 0), type := 22, pos := "law.go:68", after := #[], guard := none }) (v := _) rfl (by kernel_rfl) (by kernel_rfl) (by kernel_rfl) (fun _ _ _ h => h) (Or.inl ⟨by rfl, ?hy7⟩) (by assumption) ?hr7
          case hy7 => (intro _ hSw; (try dsimp only at hSw); go_simp <;> with_reducible rfl)
          simp only [Act.put, List.setIfInBounds_toArray, List.set_cons_zero, List.set_cons_succ]
          refine' wpAnyH_take (i := 7) (oi := { dst := some 28, op := Go.Op.move (Go.Operand.tmp 7), type := 3, pos := "law.go:68", after := #[], guard := none }) (v := _) rfl (by kernel_rfl) (by kernel_rfl) (by kernel_rfl) (fun _ _ _ h => h) (Or.inl ⟨by rfl, ?hy8⟩) (by assumption) ?hr8
          case hy8 => (intro _ hSw; (try dsimp only at hSw); go_simp <;> with_reducible rfl)
          simp only [Act.put, List.setIfInBounds_toArray, List.set_cons_zero, List.set_cons_succ]
          refine' wpAnyH_take (i := 8) (oi := { dst := some 29, op := Go.Op.indexAddr 22 (Go.Operand.tmp 27) (Go.Operand.tmp 28), type := 0, pos := "law.go:68", after := #[{ on := 6, ground := Go.Ground.data }, { on := 7, ground := Go.Ground.data }], guard := none }) (v := _) rfl (by kernel_rfl) (by kernel_rfl) (by kernel_rfl) (fun _ _ _ h => h) (Or.inl ⟨by rfl, ?hy9⟩) (by assumption) ?hr9
          case hy9 => (intro _ hSw; (try dsimp only at hSw); go_simp <;> with_reducible rfl)
          simp only [Act.put, List.setIfInBounds_toArray, List.set_cons_zero, List.set_cons_succ]
          refine' wpAnyH_take (i := 9) (oi := { dst := some 30, op := Go.Op.fieldAddr 35 (Go.Operand.tmp 29) 2, type := 0, pos := "law.go:68", after := #[{ on := 8, ground := Go.Ground.data }], guard := none }) (v := _) rfl (by kernel_rfl) (by kernel_rfl) (by kernel_rfl) (fun _ _ _ h => h) (Or.inl ⟨by rfl, ?hy10⟩) (by assumption) ?hr10
          case hy10 => (intro _ hSw; (try dsimp only at hSw); go_simp <;> with_reducible rfl)
          simp only [Act.put, List.setIfInBounds_toArray, List.set_cons_zero, List.set_cons_succ]
          refine' wpAnyH_take (i := 10) (oi := { dst := some 31, op := Go.Op.load 4 (Go.Operand.tmp 30), type := 4, pos := "law.go:68", after := #[{ on := 9, ground := Go.Ground.data }], guard := none }) (v := _) rfl (by kernel_rfl) (by kernel_rfl) (by kernel_rfl) (fun _ _ _ h => h) (Or.inl ⟨by rfl, ?hy11⟩) (by assumption) ?hr11
          case hy11 => (intro _ hSw; (try dsimp only at hSw); have b2 := (HW.out _ hSw).2.2; go_simp <;> with_reducible rfl)
          simp only [Act.put, List.setIfInBounds_toArray, List.set_cons_zero, List.set_cons_succ]
          refine wpAnyH_ready (rs := [11]) (by kernel_rfl) (by simp) ?_
          refine AllReadyH.cons (o := { dst := some 32, op := Go.Op.call { callee := Go.Callee.value (Go.Operand.func 18), args := #[Go.Operand.tmp 21, Go.Operand.tmp 26, Go.Operand.tmp 31], argTypes := #[24, 5, 4] }, type := 0, pos := "law.go:68", after := #[{ on := 0, ground := Go.Ground.data }, { on := 5, ground := Go.Ground.data }, { on := 10, ground := Go.Ground.data }], guard := none }) rfl (fun K hK => ?_) AllReadyH.nil
          go_simp
          refine (fstop HT.out.drew.one.q xd xy).mono ?_
          rintro _ w4 ⟨rfl, hp, hc⟩
          have HT3 := Lib.hid (HT.out.drew.doA hp hc)
          clear hp hc HT
          go_wp2_with fail
          refine hK.out _ _ HT3.out.one.below (fun hNext => ?_)
          clear hK K hHeld
          have hHeld := hNext
          clear hNext
          (try simp only [Act.put, List.setIfInBounds_toArray, List.set_cons_zero, List.set_cons_succ])
          refine wpAnyH_done (by kernel_rfl) ?_ _
          clear hHeld
          generalize x.stop xd xy = x2 at HT3 HA3
          obtain ⟨z2, hz2⟩ : ∃ z2, z = z2 := ⟨_, rfl⟩
          rw [hz2] at HT3 HA3
          clear hz2
          have C1 := fmay HT3.out.one.q d
          obtain ⟨m, hm⟩ : ∃ m, x2.may d = m := ⟨_, rfl⟩
          have hz := HA3.out.may
          rw [hm] at C1 hz
          have C1 := Lib.hid C1
          have HM := Lib.hid hz.symm
          have zz : (m != m) = false := by cases m <;> rfl
          clear hm hz
          go_wp2_with fail
          refine C1.out.mono ?_
          rintro _ _ ⟨rfl, nq, rfl⟩
          have HT4 := Lib.hid (HT3.out.drewN nq)
          clear C1 HT3
          generalize w4.drewN nq = w5 at HT4 ⊢
          go_wp2_with fail
          refine (fmay_at HT4.out.two d m HM.out).mono ?_
          rintro _ _ ⟨rfl, nq, rfl⟩
          have HT5 := Lib.hid (HT4.out.drewN nq)
          clear HT4
          generalize w5.drewN nq = w6 at HT5 ⊢
          go_wp2_with fail
          refine (fmay_at HT5.out.one.q 0 true (may_zero _)).mono ?_
          rintro _ _ ⟨rfl, nq, rfl⟩
          have HT6 := Lib.hid (HT5.out.drewN nq)
          clear HT5
          generalize w6.drewN nq = w7 at HT6 ⊢
          go_wp2
          go_roundg (n - (i + 1))
          case measure => omega
          case rel => exact ⟨i + 1, x2, z2, by first | rfl | go_num, Nat.le_refl _, by omega, HA3, HT6⟩
    · have hk : i = n := by omega
      subst hk
      have t1 : decide ((i : Int) < (i : Int)) = false := decide_eq_false (by omega)
      have t2 : ¬ (i : Int) < (i : Int) := by omega
      clear HL
      go_wp2_with fail
      refine (fall HT.out.one.q true).mono ?_
      rintro _ w3 ⟨rfl, hp, hc⟩
      have HT2 := Lib.hid (HT.out.doA hp hc)
      clear hp hc HT
      obtain ⟨m, hm⟩ : ∃ m, (x.all true).may d = m := ⟨_, rfl⟩
      have HM := Lib.hid hm
      have zm : (m == m) = true := by cases m <;> rfl
      clear hm
      go_wp2_with fail
      refine (fmay_at HT2.out.one.q d m HM.out).mono ?_
      rintro _ _ ⟨rfl, nq, rfl⟩
      have HT3 := Lib.hid (HT2.out.drewN nq)
      clear HT2
      generalize w3.drewN nq = w4 at HT3 ⊢
      go_wp2_with fail
      refine (fall HT3.out.one.q false).mono ?_
      rintro _ w5 ⟨rfl, hp, hc⟩
      have HT4 := Lib.hid (HT3.out.doA hp hc)
      clear hp hc HT3
      obtain ⟨g, hg⟩ : ∃ g, decide (d = 0) = g := ⟨_, rfl⟩
      have e0 : ((d : Int) == 0) = g := (oc_beq d 0).trans hg
      have HG := Lib.hid ((may_shut (x.all true) d).trans hg)
      have zg : (g != g) = false := by cases g <;> rfl
      clear hg
      go_wp2_with fail
      refine (fmay_at HT4.out.one.q d g HG.out).mono ?_
      rintro _ _ ⟨rfl, nq, rfl⟩
      have HT5 := Lib.hid (HT4.out.drewN nq)
      clear HT4
      generalize w5.drewN nq = w6 at HT5 ⊢
      go_wp2_with fail
      refine (fopen_at HT5.out.one.q false rfl).mono ?_
      rintro _ _ ⟨rfl, rfl⟩
      go_wp2_with fail
      refine (fall HT5.out.one.q true).mono ?_
      rintro _ w7 ⟨rfl, hp, hc⟩
      have HT6 := Lib.hid (HT5.out.doA hp hc)
      clear hp hc HT5
      go_wp2_with fail
      refine (fmay_at HT6.out.one.q d m HM.out).mono ?_
      rintro _ _ ⟨rfl, nq, rfl⟩
      have HT7 := Lib.hid (HT6.out.drewN nq)
      clear HT6
      generalize w7.drewN nq = w8 at HT7 ⊢
      go_wp2_with fail
      refine (fopen_at HT7.out.one.q true rfl).mono ?_
      rintro _ _ ⟨rfl, rfl⟩
      go_wp2_with fail
      rw [← HPB.out]
      refine (CW.out _).mono ?_
      rintro _ w9 ⟨rfl, hb⟩
      have HB9 := Lib.hid (below_on HT7.out.one.below hb)
      clear hb CW
      go_wp2
      go_ret
      exact ⟨rfl, HB9.out⟩
theorem law (oa : Option Addr) (n cap : Nat) (F : Nat → Ct) (_ : n ≤ maxLen) (d : Nat) (_ : d < 256) (w : World) (hA : ArgS 3 cc CFit w oa n F) :
    Calls Try.prog 4 #[.slice oa n cap, oc d] w fun e w' => e = .returned (.bool true) ∧ Below w.heap.size w w' := all oa n cap F d w hA
end Go.Proofs.Ytogpfjpjegmkiaa.gateApart
