/-
  WheelDue answers true whatever came in, and turns nothing that was there. No condition.
-/
import Derived.Test.YtcadeoolacoidaaWhPlaysLaw
import Derived.Lib.MinMax
namespace Go.Proofs.Ytcadeoolacoidaa.wheelDue
open Go.RowKit Go.Proofs.Ytcadeoolacoidaa.Base Go.Proofs.Ytcadeoolacoidaa.Mem Go.Proofs.Ytcadeoolacoidaa.Wh
open Go.Proofs.Ytcadeoolacoidaa.Srt (wrap_nat)
open Go.Proofs.Ytcadeoolacoidaa.wheelPlays (held_mono arg_at)
theorem mem_due (f : Nat → Nat) (i : Nat) (hi : i < 256) : i ∈ dueOf f ↔ f i = 1 := by
  rw [dueOf, List.mem_filter, List.mem_range, decide_eq_true_eq]
  exact ⟨fun h => h.2, fun h => ⟨hi, h⟩⟩
theorem due_small (f : Nat → Nat) (k x : Nat) (h : (dueOf f)[k]? = some x) : x < 256 := by
  have h1 := List.mem_of_getElem? h
  rw [dueOf, List.mem_filter, List.mem_range] at h1
  exact h1.1
theorem mem_take {l : List Nat} {k x i : Nat} (h : l[k]? = some x) : (i ∈ l.take (k + 1)) ↔ i ∈ l.take k ∨ x = i := by
  rw [List.take_add_one, h, List.mem_append]
  simp [eq_comm]
/-- Any Set. -/
theorem nsetN {w0 w : World} {pb n : Nat} {f : Nat → Nat} (h : Wn w0 pb n f w) (i : Nat) (N : Int) (hi : i < 256) :
    Calls Try.prog 14 #[ptr pb, oc i, .int .i64 N] w fun r w' => r = .returned (.int .i64 (if 1 ≤ N ∧ N ≤ 65535 then 0 else 2)) ∧ Wn w0 pb n (if 1 ≤ N ∧ N ≤ 65535 then upd f i N.toNat else f) w' := by
  by_cases hN : 1 ≤ N ∧ N ≤ 65535
  · obtain ⟨t, rfl⟩ : ∃ t : Nat, N = t := ⟨N.toNat, by omega⟩
    rw [if_pos hN, if_pos hN, Int.toNat_natCast]
    exact nset h i t hi (by omega) (by omega)
  · rw [if_neg hN, if_neg hN]
    refine (wset_arg w pb i N (by omega)).mono ?_
    rintro r w' ⟨rfl, rfl⟩
    exact ⟨rfl, h⟩
theorem upd_ne {f : Nat → Nat} {i k x : Nat} (h : k ≠ i) : upd f i x k = f k := if_neg h
theorem setN_ne {f : Nat → Nat} {i k : Nat} {N : Int} (h : k ≠ i) : (if 1 ≤ N ∧ N ≤ 65535 then upd f i N.toNat else f) k = f k := by
  by_cases hN : 1 ≤ N ∧ N ≤ 65535
  · rw [if_pos hN]; exact upd_ne h
  · rw [if_neg hN]
set_option maxHeartbeats 16000000 in
set_option maxRecDepth 100000 in
theorem law (slots : Nat) (hsl : slots < 256) (id : Nat) (hid : id < 256) (ticks : Nat) (htk : ticks < 65536) (oa : Option Addr) (n cap : Nat) (F : Nat → Cl) (_ : n ≤ maxLen) (w : World) (hA : ArgS 3 cc Fits w oa n F) :
    Calls Try.prog 4 #[oc slots, oc id, .int .u16 (ticks : Int), .slice oa n cap] w fun e w' => e = .returned (.bool true) ∧ Below w.heap.size w w' := by
  have HA := Lib.hid hA
  clear hA
  by_cases h6 : 600 < ticks
  · have g1 : decide ((600 : Int) < (ticks : Int)) = true := decide_eq_true (by omega)
    have g2 : (600 : Int) < (ticks : Int) := by omega
    have cw := Lib.hid (fworks w)
    go_enter Try.func4, Try.ntmps4
    go_wp2_with fail
    refine cw.out.mono ?_
    rintro _ w1 ⟨rfl, hb⟩
    have HB := Lib.hid hb
    clear hb cw
    go_wp2
    go_ret
    exact ⟨rfl, HB.out⟩
  have g1 : decide ((600 : Int) < (ticks : Int)) = false := decide_eq_false (by omega)
  have g2 : ¬ (600 : Int) < (ticks : Int) := by omega
  by_cases h : 100 < n
  · have h1 : (100 : Int) < (n : Int) := by omega
    have h1d : decide ((100 : Int) < (n : Int)) = true := decide_eq_true (by omega)
    have cw := Lib.hid (fworks w)
    go_enter Try.func4, Try.ntmps4
    go_wp2_with fail
    refine cw.out.mono ?_
    rintro _ w1 ⟨rfl, hb⟩
    have HB := Lib.hid hb
    clear hb cw
    go_wp2
    go_ret
    exact ⟨rfl, HB.out⟩
  have h1 : ¬ (100 : Int) < (n : Int) := by omega
  have h1d : decide ((100 : Int) < (n : Int)) = false := decide_eq_false (by omega)
  have wt : IntKind.i64.wrap (ticks : Int) = (ticks : Int) := by rw [IntKind.wrap_i64]; omega
  have ws : IntKind.i64.wrap (slots : Int) = (slots : Int) := by rw [IntKind.wrap_i64]; omega
  have ws1 : IntKind.i64.wrap (1 + (slots : Int)) = 1 + (slots : Int) := by rw [IntKind.wrap_i64]; omega
  obtain ⟨s1, hs1⟩ : ∃ s1, s1 = slots + 1 := ⟨_, rfl⟩
  have cn : Hid (Calls Try.prog 8 #[.int .i64 (1 + (slots : Int))] w fun r w' => ∃ pb, r = .returned (ptr pb) ∧ Wn w pb s1 (fun _ => 0) w') := by
    have := nnew (w0 := w) s1 (by omega) (by omega) w (Below.refl _ _)
    have e : (s1 : Int) = 1 + (slots : Int) := by omega
    rw [nm, e] at this
    exact this
  clear hs1
  by_cases h0 : ticks = 0
  · subst h0
    go_enter Try.func4, Try.ntmps4
    go_wp2_with fail
    refine cn.out.mono ?_
    rintro _ w1 ⟨pb, rfl, hw1⟩
    have HW1 := Lib.hid hw1
    clear hw1 cn
    have cs : Hid (Calls Try.prog 14 #[ptr pb, oc id, .int .i64 0] w1 fun r w' => r = .returned (.int .i64 2) ∧ w' = w1) := wset_arg w1 pb id 0 (by omega)
    have cw := Lib.hid (fworks w1)
    go_wp2_with fail
    refine cs.out.mono ?_
    rintro _ w2 ⟨rfl, rfl⟩
    clear cs
    go_wp2_with fail
    refine cw.out.mono ?_
    rintro _ w3 ⟨rfl, hb⟩
    have HB := Lib.hid (below_on HW1.out.below hb)
    clear hb cw HW1
    go_wp2
    go_ret
    exact ⟨rfl, HB.out⟩
  go_enter Try.func4, Try.ntmps4
  go_wp2_with fail
  refine cn.out.mono ?_
  rintro _ w1 ⟨pb, rfl, hw1⟩
  have cs : Hid (Calls Try.prog 14 #[ptr pb, oc id, .int .i64 (ticks : Int)] w1 fun r w' => r = .returned (.int .i64 0) ∧ Wn w pb s1 (upd (fun _ => 0) id ticks) w') := nset hw1 id ticks hid (by omega) (by omega)
  clear cn hw1
  go_wp2_with fail
  refine cs.out.mono ?_
  rintro _ w2 ⟨rfl, hw2⟩
  have HW2 := Lib.hid hw2
  have HF0 : Hid (upd (fun _ => 0) id ticks id = ticks + 1 - 1) := if_pos rfl
  clear cs hw2 g1 g2 h1 h1d ws ws1
  go_wp2_with fail
  go_loopg [10] 610 (fun gm s wr => ∃ (j : Nat) (f : Nat → Nat), s = nm j ∧ 611 - j ≤ gm ∧ 1 ≤ j ∧ j ≤ 611 ∧ Hid (f id = ticks + 1 - j) ∧ Hid (Wn w pb s1 f wr))
  case atStart => exact ⟨1, _, rfl, by omega, by omega, by omega, HF0, HW2⟩
  case round =>
    clear HF0 HW2
    obtain ⟨j, f, rfl, hgm, hj1, hj2, HF, HW⟩ := hrel
    by_cases hlt : j ≤ 610
    · have t1 : decide ((j : Int) ≤ 610) = true := decide_eq_true (by omega)
      have t2 : (j : Int) ≤ 610 := by omega
      by_cases hjn : j ≤ n
      · have p1 : decide ((j : Int) ≤ (n : Int)) = true := decide_eq_true (by omega)
        have p2 : (j : Int) ≤ (n : Int) := by omega
        obtain ⟨jj, hjj⟩ : ∃ jj, j = jj + 1 := ⟨j - 1, by omega⟩
        have pw : IntKind.i64.wrap ((j : Int) - 1) = (jj : Int) := by rw [IntKind.wrap_i64]; omega
        have j0 : (0 : Int) ≤ (jj : Int) := by omega
        have j3 : (jj : Int) < (n : Int) := by omega
        have j2 := HA.out.inb jj (by omega)
        obtain ⟨a, gb, go, rfl, ha, hgb, hrw⟩ := arg_at HA.out (show jj < n by omega)
        obtain ⟨⟨xd, xi, xN⟩, hx⟩ : ∃ x, x = F jj := ⟨_, rfl⟩
        rw [← hx] at hrw j2
        have hd6 : xd < 256 := j2.1
        have hi6 : xi < 256 := j2.2
        simp only at hrw
        have HC := Lib.hid (hrw wr HW.out.below)
        have q0 := HC.out.1
        have q1 := HC.out.2.1
        have q2 := HC.out.2.2
        have HRW := Lib.hid hrw
        clear hrw hx j2 hjj
        by_cases hne : xi = id
        · have r1 : ((xi : Int) == (id : Int)) = true := by rw [beq_iff_eq]; omega
          have r2 : (xi : Int) = (id : Int) := by omega
          have HF2 := HF
          have HW2 := HW
          clear HF HW q0 q2
          obtain ⟨f2, hf2⟩ : ∃ f2, f2 = f := ⟨_, rfl⟩
          rw [← hf2] at HF2 HW2
          clear hf2
          have ct := Lib.hid (ntick HW2.out)
          clear HW2
          go_wp2_with fail
          refine ct.out.mono ?_
          rintro _ wt2 ⟨v, rfl, hw3, ho3⟩
          obtain ⟨ob, cb, rfl, gb⟩ := own_form ho3
          obtain ⟨len, hlen⟩ : ∃ len, len = (dueOf f2).length := ⟨_, rfl⟩
          have hln6 : len ≤ 256 := by rw [hlen]; exact due_len f2
          rw [← hlen] at ho3 gb ⊢
          have HO3 := Lib.hid ho3
          have GB := Lib.hid gb
          have HLEN := Lib.hid hlen
          have HW3 := Lib.hid hw3
          clear ct hw3 ho3 gb hlen
          go_wp2_with fail
          go_loopg [11, 13] len (fun gm a b wr2 => ∃ (i : Nat) (q : Bool), a = .bool q ∧ b = nm i ∧ len - i ≤ gm ∧ i ≤ len ∧ Hid (q = decide (id ∈ (dueOf f2).take i)) ∧ wr2 = wt2)
          case atStart => exact ⟨0, false, rfl, rfl, by omega, by omega, (show false = decide (id ∈ (dueOf f2).take 0) by simp), rfl⟩
          case round =>
            obtain ⟨i, q, rfl, rfl, hgm2, hil, HQ, rfl⟩ := hrel
            by_cases hi3 : i < len
            · have u1 : decide ((i : Int) < (len : Int)) = true := decide_eq_true (by omega)
              have u2 : (i : Int) < (len : Int) := by omega
              have vi := wrap_nat (i + 1) (by omega)
              obtain ⟨x, hx⟩ : ∃ x, (dueOf f2)[i]? = some x := ⟨(dueOf f2)[i]'(by rw [← HLEN.out]; exact hi3), List.getElem?_eq_getElem _⟩
              obtain ⟨g1, rfl⟩ := GB.out i hi3
              have c1 : wr.cell? ⟨g1, i, none⟩ = some (oc x) := own_cell HO3.out hx
              have HX : Hid (id ∈ (dueOf f2).take (i + 1) ↔ id ∈ (dueOf f2).take i ∨ x = id) := mem_take hx
              clear hx
              cases q with
              | true =>
                have HQ2 : Hid (true = decide (id ∈ (dueOf f2).take (i + 1))) := (decide_eq_true (HX.out.2 (Or.inl (of_decide_eq_true HQ.out.symm)))).symm
                go_wp2
                go_roundg (len - (i + 1))
                case measure => omega
                case rel => exact ⟨i + 1, true, rfl, by first | rfl | go_num, Nat.le_refl _, by omega, HQ2, rfl⟩
              | false =>
                have HNQ : Hid (¬ id ∈ (dueOf f2).take i) := of_decide_eq_false HQ.out.symm
                by_cases hxi : x = id
                · have e1 : ((x : Int) == (id : Int)) = true := by rw [beq_iff_eq]; omega
                  have HQ2 : Hid (true = decide (id ∈ (dueOf f2).take (i + 1))) := (decide_eq_true (HX.out.2 (Or.inr hxi))).symm
                  go_wp2
                  go_roundg (len - (i + 1))
                  case measure => omega
                  case rel => exact ⟨i + 1, true, rfl, by first | rfl | go_num, Nat.le_refl _, by omega, HQ2, rfl⟩
                · have e1 : ((x : Int) == (id : Int)) = false := by rw [beq_eq_false_iff_ne]; omega
                  have HQ2 : Hid (false = decide (id ∈ (dueOf f2).take (i + 1))) := (decide_eq_false fun h9 => by
                    rcases HX.out.1 h9 with h9 | h9
                    · exact HNQ.out h9
                    · exact hxi h9).symm
                  go_wp2
                  go_roundg (len - (i + 1))
                  case measure => omega
                  case rel => exact ⟨i + 1, false, rfl, by first | rfl | go_num, Nat.le_refl _, by omega, HQ2, rfl⟩
            · have u1 : decide ((i : Int) < (len : Int)) = false := decide_eq_false (by omega)
              have u2 : ¬ (i : Int) < (len : Int) := by omega
              obtain ⟨k, hk⟩ : ∃ k : Nat, k = ticks - j := ⟨_, rfl⟩
              have hQ : q = decide (j = ticks) := by
                rw [HQ.out, List.take_of_length_le (by rw [← HLEN.out]; omega)]
                refine decide_eq_decide.2 ?_
                rw [mem_due f2 id hid]
                have := HF2.out
                omega
              have cl : Hid (Calls Try.prog 13 #[ptr pb, oc id] wr fun r w' => r = .returned (nm k) ∧ Wn w pb s1 (tick f2) w') := by
                have h5 := nleft HW3.out id hid
                have e5 : tick f2 id = k := by
                  show f2 id - 1 = k
                  have := HF2.out
                  omega
                rw [e5] at h5
                exact h5
              have m1 : IntKind.i64.wrap ((ticks : Int) - (j : Int)) = (ticks : Int) - (j : Int) := by rw [IntKind.wrap_i64]; omega
              have m2 : max (0 : Int) ((ticks : Int) - (j : Int)) = (k : Int) := by omega
              have vj := wrap_nat (j + 1) (by omega)
              have HF3 : Hid (tick f2 id = ticks + 1 - (j + 1)) := by
                show f2 id - 1 = _
                have := HF2.out
                omega
              clear HQ HW3 HO3 HF2
              subst hQ
              by_cases hjt : j = ticks
              · have y0 : decide (j = ticks) = true := decide_eq_true hjt
                have y1 : ((j : Int) == (ticks : Int)) = true := by rw [beq_iff_eq]; omega
                rw [y0]
                go_wp2_with fail
                refine cl.out.mono ?_
                rintro _ w5 ⟨rfl, hw5⟩
                have HW5 := Lib.hid hw5
                clear cl hw5
                go_wp2
                go_roundg (611 - (j + 1))
                case measure => omega
                case rel => exact ⟨j + 1, _, by first | rfl | go_num, Nat.le_refl _, by omega, by omega, HF3, HW5⟩
              · have y0 : decide (j = ticks) = false := decide_eq_false hjt
                have y1 : ((j : Int) == (ticks : Int)) = false := by rw [beq_eq_false_iff_ne]; omega
                rw [y0]
                go_wp2_with fail
                refine cl.out.mono ?_
                rintro _ w5 ⟨rfl, hw5⟩
                have HW5 := Lib.hid hw5
                clear cl hw5
                go_wp2
                go_roundg (611 - (j + 1))
                case measure => omega
                case rel => exact ⟨j + 1, _, by first | rfl | go_num, Nat.le_refl _, by omega, by omega, HF3, HW5⟩
        · have r1 : ((xi : Int) == (id : Int)) = false := by rw [beq_eq_false_iff_ne]; omega
          have r2 : ¬ (xi : Int) = (id : Int) := by omega
          have hne2 : id ≠ xi := fun e => hne e.symm
          obtain ⟨d5, hd5⟩ : ∃ d5, d5 = xd % 5 := ⟨_, rfl⟩
          have m1 : (xd : Int).tmod 5 = (d5 : Int) := by rw [Int.tmod_eq_emod_of_nonneg (by omega)]; omega
          have m2 : (xd : Int) % 5 = (d5 : Int) := by omega
          have w5 : IntKind.u8.wrap (d5 : Int) = (d5 : Int) := by rw [IntKind.wrap_u8]; omega
          clear hd5
          by_cases hz : d5 = 0
          · have z1 : ((d5 : Int) == 0) = true := by rw [beq_iff_eq]; omega
            have cs := nsetN (w := wr.drew) (HW.out.drewN 1) xi xN hi6
            have hf3 : (if 1 ≤ xN ∧ xN ≤ 65535 then upd f xi xN.toNat else f) id = ticks + 1 - j := (setN_ne hne2).trans HF.out
            obtain ⟨f3, hf3e⟩ : ∃ f3, f3 = (if 1 ≤ xN ∧ xN ≤ 65535 then upd f xi xN.toNat else f) := ⟨_, rfl⟩
            obtain ⟨qv, hqv⟩ : ∃ qv : Int, qv = (if 1 ≤ xN ∧ xN ≤ 65535 then 0 else 2) := ⟨_, rfl⟩
            rw [← hf3e, ← hqv] at cs
            rw [← hf3e] at hf3
            have cs := Lib.hid cs
            have HF2 := Lib.hid hf3
            clear hf3 hf3e hqv
            go_wp2_with fail
            refine wp_region_held_drew (S := (fun w' => Below w.heap.size w w')) (by kernel_rfl) ((HW.out.drewN 1).below) (fun hHeld => ?_)
            refine' wpAnyH_take (i := 0) (oi := { dst := some 65, op := Go.Op.move (Go.Operand.tmp 9), type := 24, pos := "law.go:97", after := #[], guard := none }) (v := _) rfl (by kernel_rfl) (by kernel_rfl) (by kernel_rfl) (fun _ _ _ h => h) (Or.inl ⟨by rfl, ?hy1⟩) (by assumption) ?hr1
            case hy1 => (intro _ hSw; (try dsimp only at hSw); go_simp <;> with_reducible rfl)
            simp only [Act.put, List.setIfInBounds_toArray, List.set_cons_zero, List.set_cons_succ]
            refine' wpAnyH_take (i := 1) (oi := { dst := some 66, op := Go.Op.move (Go.Operand.tmp 3), type := 22, pos := "law.go:97", after := #[], guard := none }) (v := _) rfl (by kernel_rfl) (by kernel_rfl) (by kernel_rfl) (fun _ _ _ h => h) (Or.inl ⟨by rfl, ?hy2⟩) (by assumption) ?hr2
            case hy2 => (intro _ hSw; (try dsimp only at hSw); go_simp <;> with_reducible rfl)
            simp only [Act.put, List.setIfInBounds_toArray, List.set_cons_zero, List.set_cons_succ]
            refine' wpAnyH_take (i := 2) (oi := { dst := some 67, op := Go.Op.move (Go.Operand.tmp 10), type := 3, pos := "law.go:97", after := #[], guard := none }) (v := _) rfl (by kernel_rfl) (by kernel_rfl) (by kernel_rfl) (fun _ _ _ h => h) (Or.inl ⟨by rfl, ?hy3⟩) (by assumption) ?hr3
            case hy3 => (intro _ hSw; (try dsimp only at hSw); go_simp <;> with_reducible rfl)
            simp only [Act.put, List.setIfInBounds_toArray, List.set_cons_zero, List.set_cons_succ]
            refine' wpAnyH_take (i := 3) (oi := { dst := some 68, op := Go.Op.binOp Go.BinOp.sub 3 (Go.Operand.tmp 67) (Go.Operand.const (Go.Value.int Go.IntKind.i64 1)) 3, type := 3, pos := "law.go:97", after := #[{ on := 2, ground := Go.Ground.data }], guard := none }) (v := _) rfl (by kernel_rfl) (by kernel_rfl) (by kernel_rfl) (fun _ _ _ h => h) (Or.inl ⟨by rfl, ?hy4⟩) (by assumption) ?hr4
            case hy4 => (intro _ hSw; (try dsimp only at hSw); go_simp <;> with_reducible rfl)
            simp only [Act.put, List.setIfInBounds_toArray, List.set_cons_zero, List.set_cons_succ]
            refine' wpAnyH_take (i := 4) (oi := { dst := some 69, op := Go.Op.indexAddr 22 (Go.Operand.tmp 66) (Go.Operand.tmp 68), type := 0, pos := "law.go:97", after := #[{ on := 1, ground := Go.Ground.data }, { on := 3, ground := Go.Ground.data }], guard := none }) (v := _) rfl (by kernel_rfl) (by kernel_rfl) (by kernel_rfl) (fun _ _ _ h => h) (Or.inl ⟨by rfl, ?hy5⟩) (by assumption) ?hr5
            case hy5 => (intro _ hSw; (try dsimp only at hSw); go_simp <;> with_reducible rfl)
            simp only [Act.put, List.setIfInBounds_toArray, List.set_cons_zero, List.set_cons_succ]
            refine' wpAnyH_take (i := 5) (oi := { dst := some 70, op := Go.Op.fieldAddr 30 (Go.Operand.tmp 69) 1, type := 0, pos := "law.go:97", after := #[{ on := 4, ground := Go.Ground.data }], guard := none }) (v := _) rfl (by kernel_rfl) (by kernel_rfl) (by kernel_rfl) (fun _ _ _ h => h) (Or.inl ⟨by rfl, ?hy6⟩) (by assumption) ?hr6
            case hy6 => (intro _ hSw; (try dsimp only at hSw); go_simp <;> with_reducible rfl)
            simp only [Act.put, List.setIfInBounds_toArray, List.set_cons_zero, List.set_cons_succ]
            refine' wpAnyH_take (i := 6) (oi := { dst := some 71, op := Go.Op.load 5 (Go.Operand.tmp 70), type := 5, pos := "law.go:97", after := #[{ on := 5, ground := Go.Ground.data }], guard := none }) (v := _) rfl (by kernel_rfl) (by kernel_rfl) (by kernel_rfl) (fun _ _ _ h => h) (Or.inl ⟨by rfl, ?hy7⟩) (by assumption) ?hr7
            case hy7 => (intro _ hSw; (try dsimp only at hSw); have hc1 := (HRW.out _ hSw).2.1; go_simp <;> with_reducible rfl)
            simp only [Act.put, List.setIfInBounds_toArray, List.set_cons_zero, List.set_cons_succ]
            refine' wpAnyH_take (i := 7) (oi := { dst := some 72, op := Go.Op.move (Go.Operand.tmp 3), type := 22, pos := "law.go:97", after := #[], guard := none }) (v := _) rfl (by kernel_rfl) (by kernel_rfl) (by kernel_rfl) (fun _ _ _ h => h) (Or.inl ⟨by rfl, ?hy8⟩) (by assumption) ?hr8
            case hy8 => (intro _ hSw; (try dsimp only at hSw); go_simp <;> with_reducible rfl)
            simp only [Act.put, List.setIfInBounds_toArray, List.set_cons_zero, List.set_cons_succ]
            refine' wpAnyH_take (i := 8) (oi := { dst := some 73, op := Go.Op.move (Go.Operand.tmp 10), type := 3, pos := "law.go:97", after := #[], guard := none }) (v := _) rfl (by kernel_rfl) (by kernel_rfl) (by kernel_rfl) (fun _ _ _ h => h) (Or.inl ⟨by rfl, ?hy9⟩) (by assumption) ?hr9
            case hy9 => (intro _ hSw; (try dsimp only at hSw); go_simp <;> with_reducible rfl)
            simp only [Act.put, List.setIfInBounds_toArray, List.set_cons_zero, List.set_cons_succ]
            refine' wpAnyH_take (i := 9) (oi := { dst := some 74, op := Go.Op.binOp Go.BinOp.sub 3 (Go.Operand.tmp 73) (Go.Operand.const (Go.Value.int Go.IntKind.i64 1)) 3, type := 3, pos := "law.go:97", after := #[{ on := 8, ground := Go.Ground.data }], guard := none }) (v := _) rfl (by kernel_rfl) (by kernel_rfl) (by kernel_rfl) (fun _ _ _ h => h) (Or.inl ⟨by rfl, ?hy10⟩) (by assumption) ?hr10
            case hy10 => (intro _ hSw; (try dsimp only at hSw); go_simp <;> with_reducible rfl)
            simp only [Act.put, List.setIfInBounds_toArray, List.set_cons_zero, List.set_cons_succ]
            refine' wpAnyH_take (i := 10) (oi := { dst := some 75, op := Go.Op.indexAddr 22 (Go.Operand.tmp 72) (Go.Operand.tmp 74), type := 0, pos := "law.go:97", after := #[{ on := 7, ground := Go.Ground.data }, { on := 9, ground := Go.Ground.data }], guard := none }) (v := _) rfl (by kernel_rfl) (by kernel_rfl) (by kernel_rfl) (fun _ _ _ h => h) (Or.inl ⟨by rfl, ?hy11⟩) (by assumption) ?hr11
            case hy11 => (intro _ hSw; (try dsimp only at hSw); go_simp <;> with_reducible rfl)
            simp only [Act.put, List.setIfInBounds_toArray, List.set_cons_zero, List.set_cons_succ]
            refine' wpAnyH_take (i := 11) (oi := { dst := some 76, op := Go.Op.fieldAddr 30 (Go.Operand.tmp 75) 2, type := 0, pos := "law.go:97", after := #[{ on := 10, ground := Go.Ground.data }], guard := none }) (v := _) rfl (by kernel_rfl) (by kernel_rfl) (by kernel_rfl) (fun _ _ _ h => h) (Or.inl ⟨by rfl, ?hy12⟩) (by assumption) ?hr12
            case hy12 => (intro _ hSw; (try dsimp only at hSw); go_simp <;> with_reducible rfl)
            simp only [Act.put, List.setIfInBounds_toArray, List.set_cons_zero, List.set_cons_succ]
            refine' wpAnyH_take (i := 12) (oi := { dst := some 77, op := Go.Op.load 3 (Go.Operand.tmp 76), type := 3, pos := "law.go:97", after := #[{ on := 11, ground := Go.Ground.data }], guard := none }) (v := _) rfl (by kernel_rfl) (by kernel_rfl) (by kernel_rfl) (fun _ _ _ h => h) (Or.inl ⟨by rfl, ?hy13⟩) (by assumption) ?hr13
            case hy13 => (intro _ hSw; (try dsimp only at hSw); have hc1 := (HRW.out _ hSw).2.2; go_simp <;> with_reducible rfl)
            simp only [Act.put, List.setIfInBounds_toArray, List.set_cons_zero, List.set_cons_succ]
            refine wpAnyH_ready (rs := [13]) (by kernel_rfl) (by simp) ?_
            refine AllReadyH.cons (o := { dst := some 78, op := Go.Op.call { callee := Go.Callee.value (Go.Operand.func 14), args := #[Go.Operand.tmp 65, Go.Operand.tmp 71, Go.Operand.tmp 77], argTypes := #[24, 5, 3] }, type := 38, pos := "law.go:97", after := #[{ on := 0, ground := Go.Ground.data }, { on := 6, ground := Go.Ground.data }, { on := 12, ground := Go.Ground.data }], guard := none }) rfl (fun K hK => ?_) AllReadyH.nil
            go_simp
            refine cs.out.mono ?_
            rintro _ w3 ⟨rfl, hp3⟩
            go_wp2_with fail
            refine hK.out _ _ hp3.below (fun hNext => ?_)
            clear hK K hHeld
            have hHeld := hNext
            clear hNext
            (try simp only [Act.put, List.setIfInBounds_toArray, List.set_cons_zero, List.set_cons_succ])
            refine wpAnyH_done (by kernel_rfl) ?_ _
            have HW2 := Lib.hid hp3
            clear hHeld hp3 cs HW HF HC q0 q1 q2
            obtain ⟨f2, hf2⟩ : ∃ f2, f2 = f3 := ⟨_, rfl⟩
            rw [← hf2] at HF2 HW2
            clear hf2
            have ct := Lib.hid (ntick HW2.out)
            clear HW2
            go_wp2_with fail
            refine ct.out.mono ?_
            rintro _ wt2 ⟨v, rfl, hw3, ho3⟩
            obtain ⟨ob, cb, rfl, gb⟩ := own_form ho3
            obtain ⟨len, hlen⟩ : ∃ len, len = (dueOf f2).length := ⟨_, rfl⟩
            have hln6 : len ≤ 256 := by rw [hlen]; exact due_len f2
            rw [← hlen] at ho3 gb ⊢
            have HO3 := Lib.hid ho3
            have GB := Lib.hid gb
            have HLEN := Lib.hid hlen
            have HW3 := Lib.hid hw3
            clear ct hw3 ho3 gb hlen
            go_wp2_with fail
            go_loopg [11, 13] len (fun gm a b wr2 => ∃ (i : Nat) (q : Bool), a = .bool q ∧ b = nm i ∧ len - i ≤ gm ∧ i ≤ len ∧ Hid (q = decide (id ∈ (dueOf f2).take i)) ∧ wr2 = wt2)
            case atStart => exact ⟨0, false, rfl, rfl, by omega, by omega, (show false = decide (id ∈ (dueOf f2).take 0) by simp), rfl⟩
            case round =>
              obtain ⟨i, q, rfl, rfl, hgm2, hil, HQ, rfl⟩ := hrel
              by_cases hi3 : i < len
              · have u1 : decide ((i : Int) < (len : Int)) = true := decide_eq_true (by omega)
                have u2 : (i : Int) < (len : Int) := by omega
                have vi := wrap_nat (i + 1) (by omega)
                obtain ⟨x, hx⟩ : ∃ x, (dueOf f2)[i]? = some x := ⟨(dueOf f2)[i]'(by rw [← HLEN.out]; exact hi3), List.getElem?_eq_getElem _⟩
                obtain ⟨g1, rfl⟩ := GB.out i hi3
                have c1 : wr.cell? ⟨g1, i, none⟩ = some (oc x) := own_cell HO3.out hx
                have HX : Hid (id ∈ (dueOf f2).take (i + 1) ↔ id ∈ (dueOf f2).take i ∨ x = id) := mem_take hx
                clear hx
                cases q with
                | true =>
                  have HQ2 : Hid (true = decide (id ∈ (dueOf f2).take (i + 1))) := (decide_eq_true (HX.out.2 (Or.inl (of_decide_eq_true HQ.out.symm)))).symm
                  go_wp2
                  go_roundg (len - (i + 1))
                  case measure => omega
                  case rel => exact ⟨i + 1, true, rfl, by first | rfl | go_num, Nat.le_refl _, by omega, HQ2, rfl⟩
                | false =>
                  have HNQ : Hid (¬ id ∈ (dueOf f2).take i) := of_decide_eq_false HQ.out.symm
                  by_cases hxi : x = id
                  · have e1 : ((x : Int) == (id : Int)) = true := by rw [beq_iff_eq]; omega
                    have HQ2 : Hid (true = decide (id ∈ (dueOf f2).take (i + 1))) := (decide_eq_true (HX.out.2 (Or.inr hxi))).symm
                    go_wp2
                    go_roundg (len - (i + 1))
                    case measure => omega
                    case rel => exact ⟨i + 1, true, rfl, by first | rfl | go_num, Nat.le_refl _, by omega, HQ2, rfl⟩
                  · have e1 : ((x : Int) == (id : Int)) = false := by rw [beq_eq_false_iff_ne]; omega
                    have HQ2 : Hid (false = decide (id ∈ (dueOf f2).take (i + 1))) := (decide_eq_false fun h9 => by
                      rcases HX.out.1 h9 with h9 | h9
                      · exact HNQ.out h9
                      · exact hxi h9).symm
                    go_wp2
                    go_roundg (len - (i + 1))
                    case measure => omega
                    case rel => exact ⟨i + 1, false, rfl, by first | rfl | go_num, Nat.le_refl _, by omega, HQ2, rfl⟩
              · have u1 : decide ((i : Int) < (len : Int)) = false := decide_eq_false (by omega)
                have u2 : ¬ (i : Int) < (len : Int) := by omega
                obtain ⟨k, hk⟩ : ∃ k : Nat, k = ticks - j := ⟨_, rfl⟩
                have hQ : q = decide (j = ticks) := by
                  rw [HQ.out, List.take_of_length_le (by rw [← HLEN.out]; omega)]
                  refine decide_eq_decide.2 ?_
                  rw [mem_due f2 id hid]
                  have := HF2.out
                  omega
                have cl : Hid (Calls Try.prog 13 #[ptr pb, oc id] wr fun r w' => r = .returned (nm k) ∧ Wn w pb s1 (tick f2) w') := by
                  have h5 := nleft HW3.out id hid
                  have e5 : tick f2 id = k := by
                    show f2 id - 1 = k
                    have := HF2.out
                    omega
                  rw [e5] at h5
                  exact h5
                have m1 : IntKind.i64.wrap ((ticks : Int) - (j : Int)) = (ticks : Int) - (j : Int) := by rw [IntKind.wrap_i64]; omega
                have m2 : max (0 : Int) ((ticks : Int) - (j : Int)) = (k : Int) := by omega
                have vj := wrap_nat (j + 1) (by omega)
                have HF3 : Hid (tick f2 id = ticks + 1 - (j + 1)) := by
                  show f2 id - 1 = _
                  have := HF2.out
                  omega
                clear HQ HW3 HO3 HF2
                subst hQ
                by_cases hjt : j = ticks
                · have y0 : decide (j = ticks) = true := decide_eq_true hjt
                  have y1 : ((j : Int) == (ticks : Int)) = true := by rw [beq_iff_eq]; omega
                  rw [y0]
                  go_wp2_with fail
                  refine cl.out.mono ?_
                  rintro _ w5 ⟨rfl, hw5⟩
                  have HW5 := Lib.hid hw5
                  clear cl hw5
                  go_wp2
                  go_roundg (611 - (j + 1))
                  case measure => omega
                  case rel => exact ⟨j + 1, _, by first | rfl | go_num, Nat.le_refl _, by omega, by omega, HF3, HW5⟩
                · have y0 : decide (j = ticks) = false := decide_eq_false hjt
                  have y1 : ((j : Int) == (ticks : Int)) = false := by rw [beq_eq_false_iff_ne]; omega
                  rw [y0]
                  go_wp2_with fail
                  refine cl.out.mono ?_
                  rintro _ w5 ⟨rfl, hw5⟩
                  have HW5 := Lib.hid hw5
                  clear cl hw5
                  go_wp2
                  go_roundg (611 - (j + 1))
                  case measure => omega
                  case rel => exact ⟨j + 1, _, by first | rfl | go_num, Nat.le_refl _, by omega, by omega, HF3, HW5⟩
          · have z1 : ((d5 : Int) == 0) = false := by rw [beq_eq_false_iff_ne]; omega
            have cs := Lib.hid (nstop HW.out xi hi6)
            have HF2 : Hid (upd f xi 0 id = ticks + 1 - j) := (upd_ne hne2).trans HF.out
            go_wp2_with fail
            refine cs.out.mono ?_
            rintro _ w3 ⟨rfl, hp3⟩
            have HW2 := Lib.hid hp3
            clear hp3 cs HW HF HC q0 q1 q2
            obtain ⟨f2, hf2⟩ : ∃ f2, f2 = (upd f xi 0) := ⟨_, rfl⟩
            rw [← hf2] at HF2 HW2
            clear hf2
            have ct := Lib.hid (ntick HW2.out)
            clear HW2
            go_wp2_with fail
            refine ct.out.mono ?_
            rintro _ wt2 ⟨v, rfl, hw3, ho3⟩
            obtain ⟨ob, cb, rfl, gb⟩ := own_form ho3
            obtain ⟨len, hlen⟩ : ∃ len, len = (dueOf f2).length := ⟨_, rfl⟩
            have hln6 : len ≤ 256 := by rw [hlen]; exact due_len f2
            rw [← hlen] at ho3 gb ⊢
            have HO3 := Lib.hid ho3
            have GB := Lib.hid gb
            have HLEN := Lib.hid hlen
            have HW3 := Lib.hid hw3
            clear ct hw3 ho3 gb hlen
            go_wp2_with fail
            go_loopg [11, 13] len (fun gm a b wr2 => ∃ (i : Nat) (q : Bool), a = .bool q ∧ b = nm i ∧ len - i ≤ gm ∧ i ≤ len ∧ Hid (q = decide (id ∈ (dueOf f2).take i)) ∧ wr2 = wt2)
            case atStart => exact ⟨0, false, rfl, rfl, by omega, by omega, (show false = decide (id ∈ (dueOf f2).take 0) by simp), rfl⟩
            case round =>
              obtain ⟨i, q, rfl, rfl, hgm2, hil, HQ, rfl⟩ := hrel
              by_cases hi3 : i < len
              · have u1 : decide ((i : Int) < (len : Int)) = true := decide_eq_true (by omega)
                have u2 : (i : Int) < (len : Int) := by omega
                have vi := wrap_nat (i + 1) (by omega)
                obtain ⟨x, hx⟩ : ∃ x, (dueOf f2)[i]? = some x := ⟨(dueOf f2)[i]'(by rw [← HLEN.out]; exact hi3), List.getElem?_eq_getElem _⟩
                obtain ⟨g1, rfl⟩ := GB.out i hi3
                have c1 : wr.cell? ⟨g1, i, none⟩ = some (oc x) := own_cell HO3.out hx
                have HX : Hid (id ∈ (dueOf f2).take (i + 1) ↔ id ∈ (dueOf f2).take i ∨ x = id) := mem_take hx
                clear hx
                cases q with
                | true =>
                  have HQ2 : Hid (true = decide (id ∈ (dueOf f2).take (i + 1))) := (decide_eq_true (HX.out.2 (Or.inl (of_decide_eq_true HQ.out.symm)))).symm
                  go_wp2
                  go_roundg (len - (i + 1))
                  case measure => omega
                  case rel => exact ⟨i + 1, true, rfl, by first | rfl | go_num, Nat.le_refl _, by omega, HQ2, rfl⟩
                | false =>
                  have HNQ : Hid (¬ id ∈ (dueOf f2).take i) := of_decide_eq_false HQ.out.symm
                  by_cases hxi : x = id
                  · have e1 : ((x : Int) == (id : Int)) = true := by rw [beq_iff_eq]; omega
                    have HQ2 : Hid (true = decide (id ∈ (dueOf f2).take (i + 1))) := (decide_eq_true (HX.out.2 (Or.inr hxi))).symm
                    go_wp2
                    go_roundg (len - (i + 1))
                    case measure => omega
                    case rel => exact ⟨i + 1, true, rfl, by first | rfl | go_num, Nat.le_refl _, by omega, HQ2, rfl⟩
                  · have e1 : ((x : Int) == (id : Int)) = false := by rw [beq_eq_false_iff_ne]; omega
                    have HQ2 : Hid (false = decide (id ∈ (dueOf f2).take (i + 1))) := (decide_eq_false fun h9 => by
                      rcases HX.out.1 h9 with h9 | h9
                      · exact HNQ.out h9
                      · exact hxi h9).symm
                    go_wp2
                    go_roundg (len - (i + 1))
                    case measure => omega
                    case rel => exact ⟨i + 1, false, rfl, by first | rfl | go_num, Nat.le_refl _, by omega, HQ2, rfl⟩
              · have u1 : decide ((i : Int) < (len : Int)) = false := decide_eq_false (by omega)
                have u2 : ¬ (i : Int) < (len : Int) := by omega
                obtain ⟨k, hk⟩ : ∃ k : Nat, k = ticks - j := ⟨_, rfl⟩
                have hQ : q = decide (j = ticks) := by
                  rw [HQ.out, List.take_of_length_le (by rw [← HLEN.out]; omega)]
                  refine decide_eq_decide.2 ?_
                  rw [mem_due f2 id hid]
                  have := HF2.out
                  omega
                have cl : Hid (Calls Try.prog 13 #[ptr pb, oc id] wr fun r w' => r = .returned (nm k) ∧ Wn w pb s1 (tick f2) w') := by
                  have h5 := nleft HW3.out id hid
                  have e5 : tick f2 id = k := by
                    show f2 id - 1 = k
                    have := HF2.out
                    omega
                  rw [e5] at h5
                  exact h5
                have m1 : IntKind.i64.wrap ((ticks : Int) - (j : Int)) = (ticks : Int) - (j : Int) := by rw [IntKind.wrap_i64]; omega
                have m2 : max (0 : Int) ((ticks : Int) - (j : Int)) = (k : Int) := by omega
                have vj := wrap_nat (j + 1) (by omega)
                have HF3 : Hid (tick f2 id = ticks + 1 - (j + 1)) := by
                  show f2 id - 1 = _
                  have := HF2.out
                  omega
                clear HQ HW3 HO3 HF2
                subst hQ
                by_cases hjt : j = ticks
                · have y0 : decide (j = ticks) = true := decide_eq_true hjt
                  have y1 : ((j : Int) == (ticks : Int)) = true := by rw [beq_iff_eq]; omega
                  rw [y0]
                  go_wp2_with fail
                  refine cl.out.mono ?_
                  rintro _ w5 ⟨rfl, hw5⟩
                  have HW5 := Lib.hid hw5
                  clear cl hw5
                  go_wp2
                  go_roundg (611 - (j + 1))
                  case measure => omega
                  case rel => exact ⟨j + 1, _, by first | rfl | go_num, Nat.le_refl _, by omega, by omega, HF3, HW5⟩
                · have y0 : decide (j = ticks) = false := decide_eq_false hjt
                  have y1 : ((j : Int) == (ticks : Int)) = false := by rw [beq_eq_false_iff_ne]; omega
                  rw [y0]
                  go_wp2_with fail
                  refine cl.out.mono ?_
                  rintro _ w5 ⟨rfl, hw5⟩
                  have HW5 := Lib.hid hw5
                  clear cl hw5
                  go_wp2
                  go_roundg (611 - (j + 1))
                  case measure => omega
                  case rel => exact ⟨j + 1, _, by first | rfl | go_num, Nat.le_refl _, by omega, by omega, HF3, HW5⟩
      · have p1 : decide ((j : Int) ≤ (n : Int)) = false := decide_eq_false (by omega)
        have p2 : ¬ (j : Int) ≤ (n : Int) := by omega
        have HF2 := HF
        have HW2 := HW
        clear HF HW
        obtain ⟨f2, hf2⟩ : ∃ f2, f2 = f := ⟨_, rfl⟩
        rw [← hf2] at HF2 HW2
        clear hf2
        have ct := Lib.hid (ntick HW2.out)
        clear HW2
        go_wp2_with fail
        refine ct.out.mono ?_
        rintro _ wt2 ⟨v, rfl, hw3, ho3⟩
        obtain ⟨ob, cb, rfl, gb⟩ := own_form ho3
        obtain ⟨len, hlen⟩ : ∃ len, len = (dueOf f2).length := ⟨_, rfl⟩
        have hln6 : len ≤ 256 := by rw [hlen]; exact due_len f2
        rw [← hlen] at ho3 gb ⊢
        have HO3 := Lib.hid ho3
        have GB := Lib.hid gb
        have HLEN := Lib.hid hlen
        have HW3 := Lib.hid hw3
        clear ct hw3 ho3 gb hlen
        go_wp2_with fail
        go_loopg [11, 13] len (fun gm a b wr2 => ∃ (i : Nat) (q : Bool), a = .bool q ∧ b = nm i ∧ len - i ≤ gm ∧ i ≤ len ∧ Hid (q = decide (id ∈ (dueOf f2).take i)) ∧ wr2 = wt2)
        case atStart => exact ⟨0, false, rfl, rfl, by omega, by omega, (show false = decide (id ∈ (dueOf f2).take 0) by simp), rfl⟩
        case round =>
          obtain ⟨i, q, rfl, rfl, hgm2, hil, HQ, rfl⟩ := hrel
          by_cases hi3 : i < len
          · have u1 : decide ((i : Int) < (len : Int)) = true := decide_eq_true (by omega)
            have u2 : (i : Int) < (len : Int) := by omega
            have vi := wrap_nat (i + 1) (by omega)
            obtain ⟨x, hx⟩ : ∃ x, (dueOf f2)[i]? = some x := ⟨(dueOf f2)[i]'(by rw [← HLEN.out]; exact hi3), List.getElem?_eq_getElem _⟩
            obtain ⟨g1, rfl⟩ := GB.out i hi3
            have c1 : wr.cell? ⟨g1, i, none⟩ = some (oc x) := own_cell HO3.out hx
            have HX : Hid (id ∈ (dueOf f2).take (i + 1) ↔ id ∈ (dueOf f2).take i ∨ x = id) := mem_take hx
            clear hx
            cases q with
            | true =>
              have HQ2 : Hid (true = decide (id ∈ (dueOf f2).take (i + 1))) := (decide_eq_true (HX.out.2 (Or.inl (of_decide_eq_true HQ.out.symm)))).symm
              go_wp2
              go_roundg (len - (i + 1))
              case measure => omega
              case rel => exact ⟨i + 1, true, rfl, by first | rfl | go_num, Nat.le_refl _, by omega, HQ2, rfl⟩
            | false =>
              have HNQ : Hid (¬ id ∈ (dueOf f2).take i) := of_decide_eq_false HQ.out.symm
              by_cases hxi : x = id
              · have e1 : ((x : Int) == (id : Int)) = true := by rw [beq_iff_eq]; omega
                have HQ2 : Hid (true = decide (id ∈ (dueOf f2).take (i + 1))) := (decide_eq_true (HX.out.2 (Or.inr hxi))).symm
                go_wp2
                go_roundg (len - (i + 1))
                case measure => omega
                case rel => exact ⟨i + 1, true, rfl, by first | rfl | go_num, Nat.le_refl _, by omega, HQ2, rfl⟩
              · have e1 : ((x : Int) == (id : Int)) = false := by rw [beq_eq_false_iff_ne]; omega
                have HQ2 : Hid (false = decide (id ∈ (dueOf f2).take (i + 1))) := (decide_eq_false fun h9 => by
                  rcases HX.out.1 h9 with h9 | h9
                  · exact HNQ.out h9
                  · exact hxi h9).symm
                go_wp2
                go_roundg (len - (i + 1))
                case measure => omega
                case rel => exact ⟨i + 1, false, rfl, by first | rfl | go_num, Nat.le_refl _, by omega, HQ2, rfl⟩
          · have u1 : decide ((i : Int) < (len : Int)) = false := decide_eq_false (by omega)
            have u2 : ¬ (i : Int) < (len : Int) := by omega
            obtain ⟨k, hk⟩ : ∃ k : Nat, k = ticks - j := ⟨_, rfl⟩
            have hQ : q = decide (j = ticks) := by
              rw [HQ.out, List.take_of_length_le (by rw [← HLEN.out]; omega)]
              refine decide_eq_decide.2 ?_
              rw [mem_due f2 id hid]
              have := HF2.out
              omega
            have cl : Hid (Calls Try.prog 13 #[ptr pb, oc id] wr fun r w' => r = .returned (nm k) ∧ Wn w pb s1 (tick f2) w') := by
              have h5 := nleft HW3.out id hid
              have e5 : tick f2 id = k := by
                show f2 id - 1 = k
                have := HF2.out
                omega
              rw [e5] at h5
              exact h5
            have m1 : IntKind.i64.wrap ((ticks : Int) - (j : Int)) = (ticks : Int) - (j : Int) := by rw [IntKind.wrap_i64]; omega
            have m2 : max (0 : Int) ((ticks : Int) - (j : Int)) = (k : Int) := by omega
            have vj := wrap_nat (j + 1) (by omega)
            have HF3 : Hid (tick f2 id = ticks + 1 - (j + 1)) := by
              show f2 id - 1 = _
              have := HF2.out
              omega
            clear HQ HW3 HO3 HF2
            subst hQ
            by_cases hjt : j = ticks
            · have y0 : decide (j = ticks) = true := decide_eq_true hjt
              have y1 : ((j : Int) == (ticks : Int)) = true := by rw [beq_iff_eq]; omega
              rw [y0]
              go_wp2_with fail
              refine cl.out.mono ?_
              rintro _ w5 ⟨rfl, hw5⟩
              have HW5 := Lib.hid hw5
              clear cl hw5
              go_wp2
              go_roundg (611 - (j + 1))
              case measure => omega
              case rel => exact ⟨j + 1, _, by first | rfl | go_num, Nat.le_refl _, by omega, by omega, HF3, HW5⟩
            · have y0 : decide (j = ticks) = false := decide_eq_false hjt
              have y1 : ((j : Int) == (ticks : Int)) = false := by rw [beq_eq_false_iff_ne]; omega
              rw [y0]
              go_wp2_with fail
              refine cl.out.mono ?_
              rintro _ w5 ⟨rfl, hw5⟩
              have HW5 := Lib.hid hw5
              clear cl hw5
              go_wp2
              go_roundg (611 - (j + 1))
              case measure => omega
              case rel => exact ⟨j + 1, _, by first | rfl | go_num, Nat.le_refl _, by omega, by omega, HF3, HW5⟩
    · have t1 : decide ((j : Int) ≤ 610) = false := decide_eq_false (by omega)
      have t2 : ¬ (j : Int) ≤ 610 := by omega
      have cw := Lib.hid (fworks wr)
      go_wp2_with fail
      refine cw.out.mono ?_
      rintro _ w4 ⟨rfl, hb⟩
      have HB := Lib.hid (below_on HW.out.below hb)
      clear hb cw HW
      go_wp2
      go_ret
      exact ⟨rfl, HB.out⟩
end Go.Proofs.Ytcadeoolacoidaa.wheelDue
