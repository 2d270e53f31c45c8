/-
  LineOrder answers true whatever came in, and turns nothing that was there. No condition.
-/
import Derived.Test.YtllojgmlngfibaaLnArgs
import Derived.Test.YtllojgmlngfibaaPick
import Derived.Deep.RegionHeld
import Derived.Deep.LoopGhost
namespace Go.Proofs.Ytllojgmlngfibaa.lineOrder
open Go.RowKit Go.Proofs.Ytllojgmlngfibaa.Base Go.Proofs.Ytllojgmlngfibaa.Mem Go.Proofs.Ytllojgmlngfibaa.Ln
/-- Where the walk stands: what is sent is what was handed over and what waits. -/
structure Inv (w : World) (pb k : Nat) (ps : List (List UInt8)) (a g : List UInt8) (A G : ByteArray) (wr : World) : Prop where
  ln : LnAt wr w.heap.size pb ps
  below : Below w.heap.size w wr
  full : Full ps
  sum : g ++ ps.flatten = a
  few : ps.length ≤ k
  size : a.length ≤ 2000 * k
  sent : A = ⟨a.toArray⟩
  got : G = ⟨g.toArray⟩
theorem cat_of (a b : List UInt8) : (⟨a.toArray⟩ : ByteArray) ++ ⟨b.toArray⟩ = ⟨(a ++ b).toArray⟩ := bext (by rw [app_list])
theorem Inv.waits {w wr : World} {pb k : Nat} {ps : List (List UInt8)} {a g : List UInt8} {A G : ByteArray} (h : Inv w pb k ps a g A G wr) : Ln.waits ps ≤ 2000 * k := by
  have h1 := congrArg List.length h.sum
  rw [List.length_append] at h1
  have h2 := h.size
  unfold Ln.waits
  omega
theorem Inv.piece {w wr : World} {pb k : Nat} {ps : List (List UInt8)} {a g : List UInt8} {A G : ByteArray} (h : Inv w pb k ps a g A G wr) : ∀ p ∈ ps, p.length ≤ 2000 * k := fun p hp => by
  have h1 := h.waits
  have h2 : p.length ≤ ps.flatten.length := by
    obtain ⟨l1, l2, rfl⟩ := List.append_of_mem hp
    simp only [List.flatten_append, List.flatten_cons, List.length_append]
    omega
  unfold Ln.waits at h1
  omega
theorem Inv.send {w wr w' : World} {pb k : Nat} {ps : List (List UInt8)} {a g p : List UInt8} {A G T : ByteArray} (h : Inv w pb k ps a g A G wr) (hl : LnAt w' w.heap.size pb (Ln.send p ps)) (hb : Below w.heap.size w w') (hT : T = ⟨p.toArray⟩) (hp : p.length ≤ 2000) : Inv w pb (k + 1) (Ln.send p ps) (a ++ p) g (A ++ T) G w' where
  ln := hl
  below := hb
  full := full_send h.full
  sum := by rw [send_flat, ← List.append_assoc, h.sum]
  few := Nat.le_trans (send_len p ps) (Nat.succ_le_succ h.few)
  size := by rw [List.length_append]; have := h.size; omega
  sent := by rw [h.sent, hT, cat_of]
  got := h.got
theorem Inv.hand {w wr w' : World} {pb k : Nat} {ps : List (List UInt8)} {a g : List UInt8} {A G T : ByteArray} (h : Inv w pb k ps a g A G wr) (N : Int) (hl : LnAt w' w.heap.size pb (Ln.hand N ps).2) (hb : Below w.heap.size w w') (hT : T = ⟨(Ln.hand N ps).1.toArray⟩) : Inv w pb (k + 1) (Ln.hand N ps).2 a (g ++ (Ln.hand N ps).1) A (G ++ T) w' where
  ln := hl
  below := hb
  full := full_hand h.full
  sum := by rw [List.append_assoc, hand_flat]; exact h.sum
  few := Nat.le_trans (hand_len N ps) (Nat.le_succ_of_le h.few)
  size := by have := h.size; omega
  sent := h.sent
  got := by rw [h.got, hT, cat_of]
theorem Inv.sizes {w wr : World} {pb k : Nat} {ps : List (List UInt8)} {a g : List UInt8} {A G : ByteArray} (h : Inv w pb k ps a g A G wr) : A.size ≤ 2000 * k ∧ G.size ≤ 2000 * k := by
  have h1 := congrArg List.length h.sum
  rw [List.length_append] at h1
  have h2 := h.size
  rw [h.sent, h.got, size_of, size_of]
  omega
set_option maxHeartbeats 16000000 in
set_option maxRecDepth 100000 in
theorem law (oa : Option Addr) (n cap : Nat) (F : Nat → Cl) (hn : n ≤ maxLen) (w : World) (hA : ArgS 4 cc (Fits w) w oa n F) :
    Calls Try.prog 3 #[.slice oa n cap] w fun e w' => e = .returned (.bool true) ∧ Below w.heap.size w w' := by
  have HA := Lib.hid hA
  have CF := Lib.hid (ffew oa n cap F hn w hA)
  have CW := Lib.hid (fun W => fworks W)
  clear hA hn
  go_enter Try.func3, Try.ntmps3
  go_wp2_with fail
  refine CF.out.mono ?_
  rintro _ w1 ⟨⟨b, rfl, hb⟩, hw⟩
  obtain rfl := hw.symm
  cases b with
  | false =>
    go_wp2_with fail
    refine (CW.out _).mono ?_
    rintro _ w2 ⟨rfl, hb2⟩
    have HB := Lib.hid hb2
    clear hb2
    go_wp2_with fail
    go_ret
    exact ⟨rfl, HB.out⟩
  | true =>
    obtain ⟨hn40, hfew⟩ := hb rfl
    have HFEW := Lib.hid hfew
    have CN := Lib.hid (fnew w)
    clear hb hfew CF
    go_wp2_with fail
    refine CN.out.mono ?_
    rintro _ w2 ⟨pb, rfl, hl2, hb2⟩
    have HI : Hid (Inv w pb 0 [] [] [] ⟨#[]⟩ ⟨#[]⟩ w2) := ⟨hl2, hb2, fun p hp => (by cases hp), rfl, Nat.le_refl _, Nat.le_refl _, rfl, rfl⟩
    clear hl2 hb2 CN
    go_wp2_with fail
    go_loopg [4, 5, 6, 7, 8, 9, 10] n (fun gm sn gt ix _ _ _ _ wr => ∃ (k : Nat) (ps : List (List UInt8)) (a g : List UInt8) (A G : ByteArray), sn = .string A ∧ gt = .string G ∧ ix = .int .i64 (k : Int) ∧ n - k ≤ gm ∧ k ≤ n ∧ Hid (Inv w pb k ps a g A G wr))
    case atStart => exact ⟨0, [], [], [], _, _, rfl, rfl, rfl, by omega, by omega, HI⟩
    case round =>
      clear HI
      obtain ⟨k, ps, a, g, A, G, rfl, rfl, rfl, hgm, hkn, HI⟩ := hrel
      by_cases hlt : k < n
      · have t1 : decide ((k : Int) < (n : Int)) = true := decide_eq_true (by omega)
        have t2 : (k : Int) < (n : Int) := by omega
        have k0 : (0 : Int) ≤ (k : Int) := by omega
        have vk : IntKind.i64.wrap ((k : Int) + 1) = (k : Int) + 1 := by rw [IntKind.wrap_i64]; omega
        obtain ⟨ad, gb, go, rfl, ha, hgb, hrw⟩ := carg_at HA.out hlt
        have hin := (HA.out.inb k hlt).2.2
        have hfw := HFEW.out k hlt
        obtain ⟨⟨kind, l, da, dn, dcap, D, N⟩, hx⟩ : ∃ x, x = F k := ⟨_, rfl⟩
        rw [← hx] at hrw hin hfw
        simp only at hrw hin hfw
        have hss := HI.out.sizes
        have hAs : A.size ≤ 100000 := by omega
        have hGs : G.size ≤ 100000 := by omega
        clear hss
        have HRW := Lib.hid hrw
        have HIN := Lib.hid hin
        have hl100 := hfw.1
        have hdn5 := hfw.2
        have hp := pick kind 2 (by decide) (by decide)
        obtain ⟨q, hq⟩ : ∃ q, place kind 2 = q := ⟨_, rfl⟩
        have hq2 := place_lt kind 2 (by decide)
        rw [hq] at hp hq2
        have CP : Hid (∀ W : World, Calls Try.prog 8 #[.int .i64 kind, .int .i64 2] W fun e w' => e = .returned (.int .i64 (q : Int)) ∧ W = w') := hp
        obtain ⟨w5, rfl⟩ : ∃ w5 : World, w5 = wr := ⟨_, rfl⟩
        have hc := hrw w5 HI.out.below
        have q0 := hc.1
        have q1 := hc.2.1
        have q2 := hc.2.2.1
        have q3 := hc.2.2.2
        clear hrw hin hfw hx hp hq hc
        go_wp2_with fail
        refine (CP.out _).mono ?_
        rintro _ w6 ⟨rfl, hw6⟩
        subst hw6
        clear CP
        rcases (show q = 0 ∨ q = 1 by omega) with rfl | rfl
        · obtain ⟨SL, hSL⟩ : ∃ SL : ByteArray, Hid (SL = ⟨l.toArray⟩) := ⟨_, Lib.hid rfl⟩
          rw [← hSL.out] at q1 HRW
          clear q0 q3
          go_wp2_with fail
          go_loopg [7, 8] dn (fun gm2 s2 k2 wr2 => ∃ (j : Nat) (TX : ByteArray), s2 = .string TX ∧ k2 = .int .i64 (j : Int) ∧ dn - j ≤ gm2 ∧ j ≤ dn ∧ Hid (TX = ⟨(dmgs (ds D j) l).toArray⟩) ∧ Hid (Below w5.heap.size w5 wr2))
          case atStart => exact ⟨0, SL, rfl, rfl, by omega, by omega, hSL, Lib.hid (Below.refl _ _)⟩
          case round =>
            obtain ⟨j, TX, rfl, rfl, hgm2, hjd, HT, HB5⟩ := hrel
            have HBW : Hid (Below w.heap.size w wr) := HI.out.below.trans (HB5.out.mono HI.out.below.size)
            have hc := HRW.out _ HBW.out
            have p1 := hc.2.1
            have p2 := hc.2.2.1
            clear hc q1 q2
            by_cases hjl : j < dn
            · have u1 : decide ((j : Int) < (dn : Int)) = true := decide_eq_true (by omega)
              have u2 : (j : Int) < (dn : Int) := by omega
              have j0 : (0 : Int) ≤ (j : Int) := by omega
              have vj : IntKind.i64.wrap ((j : Int) + 1) = (j : Int) + 1 := by rw [IntKind.wrap_i64]; omega
              obtain ⟨ad2, gb2, go2, rfl, ha2, hgb2, hrw2⟩ := darg_at HIN.out hjl
              have hin2 := HIN.out.inb j hjl
              have hds : dmgs (ds D (j + 1)) l = dmg (D j) (dmgs (ds D j) l) := by rw [ds_succ, dmgs_snoc]
              obtain ⟨⟨dk, di, db, dm⟩, hx2⟩ : ∃ x, x = D j := ⟨_, rfl⟩
              have hc2 := hrw2 _ HBW.out
              rw [← hx2] at hc2 hin2 hds
              simp only at hc2
              obtain ⟨d0, d1, d2, d3⟩ := hc2
              have hlen := dmgs_len (ds D j) l
              rw [ds_len] at hlen
              have ca := fapply (dmgs (ds D j) l) (by omega) ⟨dk, di, db, dm⟩ hin2 wr
              rw [← hds, ← HT.out] at ca
              obtain ⟨TY, hTY⟩ : ∃ TY : ByteArray, Hid (TY = ⟨(dmgs (ds D (j + 1)) l).toArray⟩) := ⟨_, Lib.hid rfl⟩
              rw [← hTY.out] at ca
              have CA := Lib.hid ca
              clear ca hrw2 hds hx2 hin2 hlen
              go_wp2_with fail
              refine CA.out.mono ?_
              rintro _ w8 ⟨rfl, hb8⟩
              have HB8 := Lib.hid (below_on HB5.out hb8)
              clear hb8 CA
              go_wp2_with fail
              go_roundg (dn - (j + 1))
              case measure => omega
              case rel => exact ⟨j + 1, TY, rfl, by first | rfl | go_num, Nat.le_refl _, by omega, hTY, HB8⟩
            obtain rfl : j = dn := by omega
            have u1 : decide ((j : Int) < (j : Int)) = false := decide_eq_false (by omega)
            have u2 : ¬ (j : Int) < (j : Int) := by omega
            obtain ⟨p, hpp⟩ : ∃ p, dmgs (ds D j) l = p := ⟨_, rfl⟩
            have hplen := dmgs_len (ds D j) l
            rw [ds_len, hpp] at hplen
            have hp2 : p.length ≤ 2000 := by omega
            have hT := HT.out
            rw [hpp] at hT
            have hTs : TX.size = p.length := by rw [hT]; exact size_of p
            have HT2 := Lib.hid hT
            have cs := fsend wr.drew w.heap.size pb ps (HI.out.ln.below (HB5.out.drew)) (HBW.out.drew).size l da j dcap D (HIN.out.below (HBW.out.drew)) (by omega) (by omega) (by have := HI.out.few; omega) p hpp
            rw [← hSL.out] at cs
            obtain ⟨y, hy⟩ : ∃ y, p.length = y := ⟨_, rfl⟩
            rw [hy] at hTs cs hp2
            have HP2 : Hid (p.length ≤ 2000) := by show p.length ≤ 2000; omega
            have CS := Lib.hid cs
            clear cs hT hplen HT hpp hy
            go_wp2_with fail
            refine wp_region_held_drew (S := (fun w' => Below w.heap.size w w')) (by kernel_rfl) (HBW.out.drew) (fun hHeld => ?_)
            refine' wpAnyH_take (i := 0) (oi := { dst := some 55, op := Go.Op.move (Go.Operand.tmp 3), type := 25, pos := "law.go:83", after := #[], guard := none }) (v := _) rfl (by kernel_rfl) (by kernel_rfl) (by kernel_rfl) (fun _ _ _ h => h) (Or.inl ⟨by rfl, ?hy1⟩) (by assumption) ?hr1
            case hy1 => (intro _ hSw; (try dsimp only at hSw); go_simp <;> with_reducible rfl)
            simp only [Act.put, List.setIfInBounds_toArray, List.set_cons_zero, List.set_cons_succ]
            refine' wpAnyH_take (i := 1) (oi := { dst := some 56, op := Go.Op.move (Go.Operand.tmp 0), type := 22, pos := "law.go:83", after := #[], guard := none }) (v := _) rfl (by kernel_rfl) (by kernel_rfl) (by kernel_rfl) (fun _ _ _ h => h) (Or.inl ⟨by rfl, ?hy2⟩) (by assumption) ?hr2
            case hy2 => (intro _ hSw; (try dsimp only at hSw); go_simp <;> with_reducible rfl)
            simp only [Act.put, List.setIfInBounds_toArray, List.set_cons_zero, List.set_cons_succ]
            refine' wpAnyH_take (i := 2) (oi := { dst := some 57, op := Go.Op.move (Go.Operand.tmp 6), type := 3, pos := "law.go:83", after := #[], guard := none }) (v := _) rfl (by kernel_rfl) (by kernel_rfl) (by kernel_rfl) (fun _ _ _ h => h) (Or.inl ⟨by rfl, ?hy3⟩) (by assumption) ?hr3
            case hy3 => (intro _ hSw; (try dsimp only at hSw); go_simp <;> with_reducible rfl)
            simp only [Act.put, List.setIfInBounds_toArray, List.set_cons_zero, List.set_cons_succ]
            refine' wpAnyH_take (i := 3) (oi := { dst := some 58, op := Go.Op.indexAddr 22 (Go.Operand.tmp 56) (Go.Operand.tmp 57), type := 0, pos := "law.go:83", after := #[{ on := 1, ground := Go.Ground.data }, { on := 2, ground := Go.Ground.data }], guard := none }) (v := _) rfl (by kernel_rfl) (by kernel_rfl) (by kernel_rfl) (fun _ _ _ h => h) (Or.inl ⟨by rfl, ?hy4⟩) (by assumption) ?hr4
            case hy4 => (intro _ hSw; (try dsimp only at hSw); go_simp <;> with_reducible rfl)
            simp only [Act.put, List.setIfInBounds_toArray, List.set_cons_zero, List.set_cons_succ]
            refine' wpAnyH_take (i := 4) (oi := { dst := some 59, op := Go.Op.fieldAddr 30 (Go.Operand.tmp 58) 1, type := 0, pos := "law.go:83", after := #[{ on := 3, ground := Go.Ground.data }], guard := none }) (v := _) rfl (by kernel_rfl) (by kernel_rfl) (by kernel_rfl) (fun _ _ _ h => h) (Or.inl ⟨by rfl, ?hy5⟩) (by assumption) ?hr5
            case hy5 => (intro _ hSw; (try dsimp only at hSw); go_simp <;> with_reducible rfl)
            simp only [Act.put, List.setIfInBounds_toArray, List.set_cons_zero, List.set_cons_succ]
            refine' wpAnyH_take (i := 5) (oi := { dst := some 60, op := Go.Op.load 9 (Go.Operand.tmp 59), type := 9, pos := "law.go:83", after := #[{ on := 4, ground := Go.Ground.data }], guard := none }) (v := _) rfl (by kernel_rfl) (by kernel_rfl) (by kernel_rfl) (fun _ _ _ h => h) (Or.inl ⟨by rfl, ?hy6⟩) (by assumption) ?hr6
            case hy6 => (intro _ hSw; (try dsimp only at hSw); have hc1 := (HRW.out _ hSw).2.1; go_simp <;> with_reducible rfl)
            simp only [Act.put, List.setIfInBounds_toArray, List.set_cons_zero, List.set_cons_succ]
            refine' wpAnyH_take (i := 6) (oi := { dst := some 61, op := Go.Op.move (Go.Operand.tmp 0), type := 22, pos := "law.go:83", after := #[], guard := none }) (v := _) rfl (by kernel_rfl) (by kernel_rfl) (by kernel_rfl) (fun _ _ _ h => h) (Or.inl ⟨by rfl, ?hy7⟩) (by assumption) ?hr7
            case hy7 => (intro _ hSw; (try dsimp only at hSw); go_simp <;> with_reducible rfl)
            simp only [Act.put, List.setIfInBounds_toArray, List.set_cons_zero, List.set_cons_succ]
            refine' wpAnyH_take (i := 7) (oi := { dst := some 62, op := Go.Op.move (Go.Operand.tmp 6), type := 3, pos := "law.go:83", after := #[], guard := none }) (v := _) rfl (by kernel_rfl) (by kernel_rfl) (by kernel_rfl) (fun _ _ _ h => h) (Or.inl ⟨by rfl, ?hy8⟩) (by assumption) ?hr8
            case hy8 => (intro _ hSw; (try dsimp only at hSw); go_simp <;> with_reducible rfl)
            simp only [Act.put, List.setIfInBounds_toArray, List.set_cons_zero, List.set_cons_succ]
            refine' wpAnyH_take (i := 8) (oi := { dst := some 63, op := Go.Op.indexAddr 22 (Go.Operand.tmp 61) (Go.Operand.tmp 62), type := 0, pos := "law.go:83", after := #[{ on := 6, ground := Go.Ground.data }, { on := 7, ground := Go.Ground.data }], guard := none }) (v := _) rfl (by kernel_rfl) (by kernel_rfl) (by kernel_rfl) (fun _ _ _ h => h) (Or.inl ⟨by rfl, ?hy9⟩) (by assumption) ?hr9
            case hy9 => (intro _ hSw; (try dsimp only at hSw); go_simp <;> with_reducible rfl)
            simp only [Act.put, List.setIfInBounds_toArray, List.set_cons_zero, List.set_cons_succ]
            refine' wpAnyH_take (i := 9) (oi := { dst := some 64, op := Go.Op.fieldAddr 30 (Go.Operand.tmp 63) 2, type := 0, pos := "law.go:83", after := #[{ on := 8, ground := Go.Ground.data }], guard := none }) (v := _) rfl (by kernel_rfl) (by kernel_rfl) (by kernel_rfl) (fun _ _ _ h => h) (Or.inl ⟨by rfl, ?hy10⟩) (by assumption) ?hr10
            case hy10 => (intro _ hSw; (try dsimp only at hSw); go_simp <;> with_reducible rfl)
            simp only [Act.put, List.setIfInBounds_toArray, List.set_cons_zero, List.set_cons_succ]
            refine' wpAnyH_take (i := 10) (oi := { dst := some 65, op := Go.Op.load 28 (Go.Operand.tmp 64), type := 28, pos := "law.go:83", after := #[{ on := 9, ground := Go.Ground.data }], guard := none }) (v := _) rfl (by kernel_rfl) (by kernel_rfl) (by kernel_rfl) (fun _ _ _ h => h) (Or.inl ⟨by rfl, ?hy11⟩) (by assumption) ?hr11
            case hy11 => (intro _ hSw; (try dsimp only at hSw); have hc2 := (HRW.out _ hSw).2.2.1; go_simp <;> with_reducible rfl)
            simp only [Act.put, List.setIfInBounds_toArray, List.set_cons_zero, List.set_cons_succ]
            refine' wpAnyH_take (i := 12) (oi := { dst := some 67, op := Go.Op.move (Go.Operand.tmp 7), type := 9, pos := "law.go:83", after := #[], guard := none }) (v := _) rfl (by kernel_rfl) (by kernel_rfl) (by kernel_rfl) (fun _ _ _ h => h) (Or.inl ⟨by rfl, ?hy12⟩) (by assumption) ?hr12
            case hy12 => (intro _ hSw; (try dsimp only at hSw); go_simp <;> with_reducible rfl)
            simp only [Act.put, List.setIfInBounds_toArray, List.set_cons_zero, List.set_cons_succ]
            refine' wpAnyH_take (i := 13) (oi := { dst := some 68, op := Go.Op.call { callee := Go.Callee.builtin Go.Builtin.len, args := #[Go.Operand.tmp 67], argTypes := #[9] }, type := 3, pos := "law.go:83", after := #[{ on := 12, ground := Go.Ground.data }], guard := none }) (v := _) rfl (by kernel_rfl) (by kernel_rfl) (by kernel_rfl) (fun _ _ _ h => h) (Or.inl ⟨by rfl, ?hy13⟩) (by assumption) ?hr13
            case hy13 => (intro _ hSw; (try dsimp only at hSw); go_simp <;> with_reducible rfl)
            simp only [Act.put, List.setIfInBounds_toArray, List.set_cons_zero, List.set_cons_succ]
            refine wpAnyH_ready (rs := [11]) (by kernel_rfl) (by simp) ?_
            refine AllReadyH.cons (o := { dst := some 66, op := Go.Op.call { callee := Go.Callee.value (Go.Operand.func 10), args := #[Go.Operand.tmp 55, Go.Operand.tmp 60, Go.Operand.tmp 65], argTypes := #[25, 9, 28] }, type := 3, pos := "law.go:83", after := #[{ on := 0, ground := Go.Ground.data }, { on := 5, ground := Go.Ground.data }, { on := 10, ground := Go.Ground.data }], guard := none }) rfl (fun K hK => ?_) AllReadyH.nil
            go_simp
            refine CS.out.mono ?_
            rintro _ w7 ⟨rfl, hl7, hb7⟩
            have HL7 := Lib.hid hl7
            have HB7 := Lib.hid ((HBW.out.drew).trans hb7)
            clear hl7 hb7 CS
            go_wp2_with fail
            refine hK.out _ _ HB7.out (fun hNext => ?_)
            clear hK K hHeld
            have hHeld := hNext
            clear hNext
            (try simp only [Act.put, List.setIfInBounds_toArray, List.set_cons_zero, List.set_cons_succ])
            refine' wpAnyH_take (i := 14) (oi := { dst := some 69, op := Go.Op.binOp Go.BinOp.neq 3 (Go.Operand.tmp 66) (Go.Operand.tmp 68) 3, type := 4, pos := "law.go:83", after := #[{ on := 11, ground := Go.Ground.data }, { on := 13, ground := Go.Ground.data }], guard := none }) (v := _) rfl (by kernel_rfl) (by kernel_rfl) (by kernel_rfl) (fun _ _ _ h => h) (Or.inl ⟨by rfl, ?hy14⟩) (by assumption) ?hr14
            case hy14 => (intro _ hSw; (try dsimp only at hSw); go_simp <;> with_reducible rfl)
            simp only [Act.put, List.setIfInBounds_toArray, List.set_cons_zero, List.set_cons_succ]
            refine wpAnyH_done (by kernel_rfl) ?_ _
            clear hHeld
            have HI2 := Lib.hid (HI.out.send HL7.out HB7.out HT2.out HP2.out)
            clear HL7 HB7 HT2
            go_wp2_with fail
            go_roundg (n - (k + 1))
            case measure => omega
            case rel => exact ⟨k + 1, _, _, _, _, _, rfl, rfl, by first | rfl | go_num, Nat.le_refl _, by omega, HI2⟩
        · have hwt := HI.out.waits
          have hpc := HI.out.piece
          have hfl := HI.out.full
          have ct := fwaits w5 w.heap.size pb ps HI.out.ln (by omega)
          obtain ⟨z, hz⟩ : ∃ z, Ln.waits ps = z := ⟨_, rfl⟩
          have ch := fhand w5 w.heap.size pb ps HI.out.ln HI.out.below.size N (fun p hp => by have := hpc p hp; omega)
          obtain ⟨HS, hHS⟩ : ∃ HS : ByteArray, Hid (HS = ⟨(Ln.hand N ps).1.toArray⟩) := ⟨_, Lib.hid rfl⟩
          rw [← hHS.out] at ch
          have hw2 := hand_waits N ps
          have hwn := hand_nil (n := N) hfl
          obtain ⟨y, hy⟩ : ∃ y, (Ln.hand N ps).1.length = y := ⟨_, rfl⟩
          obtain ⟨z2, hz2⟩ : ∃ z2, Ln.waits (Ln.hand N ps).2 = z2 := ⟨_, rfl⟩
          have hsz : HS.size = y := by rw [hHS.out, size_of]; exact hy
          rw [hz] at ct hwt
          rw [hz, hz2, hy] at hw2
          rw [hz] at hwn
          have CT := Lib.hid ct
          have CH := Lib.hid ch
          have HZ2 := Lib.hid hz2
          have wz : IntKind.i64.wrap ((z : Int) - (y : Int)) = (z2 : Int) := by rw [IntKind.wrap_i64]; omega
          have HY := Lib.hid hy
          have hys : y ≤ 100000 := by omega
          clear ct ch hz hz2 hpc hfl q0 q1 q2
          go_wp2_with fail
          refine CT.out.mono ?_
          rintro _ w7 ⟨rfl, hw7⟩
          subst hw7
          go_wp2_with fail
          refine CH.out.mono ?_
          rintro _ w8 ⟨rfl, hl8, hb8⟩
          have HI2 := Lib.hid (HI.out.hand N hl8 (HI.out.below.trans hb8) hHS.out)
          have CT2 : Hid (Calls Try.prog 11 #[ptr pb] w8 fun e w' => e = .returned (.int .i64 (z2 : Int)) ∧ w' = w8) := by
            have := fwaits w8 w.heap.size pb _ hl8 (by have := HZ2.out; omega)
            rw [HZ2.out] at this
            exact this
          clear hl8 hb8 CT CH
          by_cases hne : (Ln.hand N ps).1 = []
          · have hz0 : z = 0 := hwn.1 hne
            have hy0 : y = 0 := by rw [← HY.out, hne]; rfl
            have hHe : HS = ⟨#[]⟩ := by rw [hHS.out, hne]
            subst hz0
            subst hy0
            obtain rfl : z2 = 0 := by omega
            clear hwn hy hne wz
            subst hHe
            go_wp2_with fail
            refine CT2.out.mono ?_
            rintro _ w9 ⟨rfl, hw9⟩
            subst hw9
            clear CT2
            go_wp2_with fail
            go_roundg (n - (k + 1))
            case measure => omega
            case rel => exact ⟨k + 1, _, _, _, _, _, rfl, rfl, by first | rfl | go_num, Nat.le_refl _, by omega, HI2⟩
          · have hz0 : ¬ z = 0 := fun e => hne (hwn.2 e)
            have hy0 : 0 < y := by rw [← HY.out]; exact List.length_pos_iff.2 hne
            have e1 : ¬ HS.toList = [] := toList_ne (by omega)
            have e2 : HS.toList.isEmpty = false := by rw [List.isEmpty_eq_false_iff]; exact e1
            have e3 : ((z : Int) == 0) = false := by rw [beq_eq_false_iff_ne]; omega
            have e4 : ¬ (z : Int) = 0 := by omega
            clear hwn hy hne hz0 hy0 hw2
            clear hwt
            go_wp2_with fail
            refine CT2.out.mono ?_
            rintro _ w9 ⟨rfl, hw9⟩
            subst hw9
            clear CT2
            go_wp2_with fail
            go_roundg (n - (k + 1))
            case measure => omega
            case rel => exact ⟨k + 1, _, _, _, _, _, rfl, rfl, by first | rfl | go_num, Nat.le_refl _, by omega, HI2⟩
      · obtain rfl : k = n := by omega
        have t1 : decide ((k : Int) < (k : Int)) = false := decide_eq_false (by omega)
        have t2 : ¬ (k : Int) < (k : Int) := by omega
        have hfp := HI.out.few
        obtain ⟨m, hm⟩ : ∃ m, ps.length = m := ⟨_, rfl⟩
        rw [hm] at hfp
        have HM := Lib.hid hm
        clear hm
        go_wp2_with fail
        go_loopg [5, 11] m (fun gm gt jx wr => ∃ (j : Nat) (ps : List (List UInt8)) (g : List UInt8) (G : ByteArray), gt = .string G ∧ jx = .int .i64 (j : Int) ∧ Hid (ps.length = gm) ∧ j + gm = m ∧ Hid (∃ k, k ≤ 40 + j ∧ Inv w pb k ps a g A G wr))
        case atStart => exact ⟨0, ps, g, G, rfl, rfl, HM, by omega, Lib.hid ⟨k, by omega, HI.out⟩⟩
        case round =>
          clear HI HM
          obtain ⟨j, ps, g, G, rfl, rfl, HM, hjm, HE⟩ := hrel
          obtain ⟨k2, hk2, HI⟩ := HE.out
          have HI := Lib.hid HI
          have v1 : decide ((j : Int) < 3000) = true := decide_eq_true (by omega)
          have v2 : (j : Int) < 3000 := by omega
          have vj : IntKind.i64.wrap ((j : Int) + 1) = (j : Int) + 1 := by rw [IntKind.wrap_i64]; omega
          have hss := HI.out.sizes
          have hAs : A.size ≤ 200000 := by omega
          have hGs : G.size ≤ 200000 := by omega
          clear hss HE
          cases ps with
          | nil =>
            have CP : Hid (Calls Try.prog 13 #[ptr pb] wr fun e w' => e = .returned (.int .i64 0) ∧ w' = wr) := fpieces wr w.heap.size pb [] HI.out.ln
            have CT : Hid (Calls Try.prog 11 #[ptr pb] wr fun e w' => e = .returned (.int .i64 0) ∧ w' = wr) := fwaits wr w.heap.size pb [] HI.out.ln (by decide)
            have hGA : G = A := by
              have h1 := HI.out.sum
              rw [List.flatten_nil, List.append_nil] at h1
              rw [HI.out.got, HI.out.sent, h1]
            subst hGA
            have HB := Lib.hid HI.out.below
            clear HI hAs
            go_wp2_with fail
            refine CP.out.mono ?_
            rintro _ w7 ⟨rfl, hw7⟩
            obtain rfl := hw7.symm
            clear hw7 CP
            go_wp2_with fail
            refine CT.out.mono ?_
            rintro _ w8 ⟨rfl, hw8⟩
            obtain rfl := hw8.symm
            clear hw8 CT
            go_wp2_with fail
            refine (CW.out _).mono ?_
            rintro _ w9 ⟨rfl, hb9⟩
            have HB9 := Lib.hid (below_on HB.out hb9)
            clear hb9
            go_wp2_with fail
            go_ret
            exact ⟨rfl, HB9.out⟩
          | cons p r =>
            have hmm := HM.out
            rw [List.length_cons] at hmm
            obtain ⟨x, hx⟩ : ∃ x, r.length = x := ⟨_, rfl⟩
            have cp := fpieces wr w.heap.size pb _ HI.out.ln
            rw [List.length_cons, hx] at cp
            have CP := Lib.hid cp
            have hx0 : ((x + 1 : Nat) : Int) = (x : Int) + 1 := by omega
            have hx1 : (0 : Int) < (x : Int) + 1 := by omega
            have hx2 : decide ((0 : Int) < (x : Int) + 1) = true := decide_eq_true hx1
            have hpc := HI.out.piece
            have ch := fhand wr w.heap.size pb _ HI.out.ln HI.out.below.size 0 (fun q hq => by have := hpc q hq; omega)
            obtain ⟨HS, hHS⟩ : ∃ HS : ByteArray, Hid (HS = ⟨(Ln.hand 0 (p :: r)).1.toArray⟩) := ⟨_, Lib.hid rfl⟩
            rw [← hHS.out] at ch
            have CH := Lib.hid ch
            have hps : HS.size ≤ 200000 := by
              rw [hHS.out, size_of, hand0]
              have := hpc p (List.mem_cons_self ..)
              show p.length ≤ 200000
              omega
            have HX : Hid (r.length = x) := hx
            clear cp ch hpc hx
            go_wp2_with fail
            refine CP.out.mono ?_
            rintro _ w7 ⟨rfl, hw7⟩
            obtain rfl := hw7.symm
            clear hw7 CP
            go_wp2_with fail
            refine CH.out.mono ?_
            rintro _ w8 ⟨rfl, hl8, hb8⟩
            have HI2 := Lib.hid (HI.out.hand 0 hl8 (HI.out.below.trans hb8) hHS.out)
            clear hl8 hb8 CH
            go_wp2_with fail
            go_roundg x
            case measure => (have h9 := HX.out; omega)
            case rel => exact ⟨j + 1, _, _, _, rfl, by first | rfl | go_num, (by rw [hand0]; exact HX), by have h9 := HX.out; omega, Lib.hid ⟨k2 + 1, by omega, HI2.out⟩⟩
end Go.Proofs.Ytllojgmlngfibaa.lineOrder
