/-
  QueuePlays answers true whatever came in, and turns nothing that was there. No condition.
-/
import Derived.Test.YthocanbbonikiaaQuArgs
import Derived.Test.YthocanbbonikiaaQuWorks
import Derived.Test.YthocanbbonikiaaPick
import Derived.Deep.LoopGhost
import Derived.Deep.RegionHeld
namespace Go.Proofs.Ythocanbbonikiaa.Qu
open Go.RowKit Go.Proofs.Ythocanbbonikiaa.Base Go.Proofs.Ythocanbbonikiaa.Mem Go.Proofs.Ythocanbbonikiaa.Cr
theorem six_at (k : Int) (w : World) {j : Nat} (h : place k 6 = j) {v : Int} (hv : (j : Int) = v) : Calls Try.prog 11 #[im k, im 6] w fun e w' => e = .returned (im v) ∧ w = w' := by
  subst h; subst hv; exact pick k 6 (by decide) (by decide) w
theorem six_cases (k : Int) : place k 6 = 0 ∨ place k 6 = 1 ∨ place k 6 = 2 ∨ place k 6 = 3 ∨ place k 6 = 4 ∨ place k 6 = 5 := by
  have := place_lt k 6 (by decide)
  omega
theorem quiet_drew {P : Program} {f : FuncId} {args : Array Value} {w : World} {n : Nat} {v : Value}
    (h : Calls P f args (w.drewN n) fun e w' => e = .returned v ∧ ∃ k, w' = (w.drewN n).drewN k) : Calls P f args (w.drewN n) fun e w'' => e = .returned v ∧ ∃ m, w'' = w.drewN m :=
  h.mono fun _ _ ⟨he, k, hk⟩ => ⟨he, n + k, hk.trans (World.drewN_drewN _ _ _)⟩
/-- A queue and the document's own one, with the same bytes, both made since w0. -/
structure Duo (w0 : World) (qb rb ub r : Nat) (t t2 : ByteArray) (w : World) : Prop where
  a : Qn w0 qb rb r t w
  b : At w ub (rcs r t2) RT
  n1 : ub ≠ qb
  n2 : ub ≠ rb
  lo : w0.heap.size ≤ ub
section
variable {w0 w w' : World} {qb rb ub r : Nat} {t t2 t' : ByteArray}
theorem Duo.on (h : Duo w0 qb rb ub r t t2 w) (hb : Below w.heap.size w w') : Duo w0 qb rb ub r t t2 w' := ⟨h.a.on hb, h.b.below hb, h.n1, h.n2, h.lo⟩
theorem Duo.drewN (h : Duo w0 qb rb ub r t t2 w) (n : Nat) : Duo w0 qb rb ub r t t2 (w.drewN n) := h.on ⟨rfl, rfl, rfl, Nat.le_refl _, fun _ _ => rfl⟩
theorem Duo.drew (h : Duo w0 qb rb ub r t t2 w) : Duo w0 qb rb ub r t t2 w.drew := h.on ⟨rfl, rfl, rfl, Nat.le_refl _, fun _ _ => rfl⟩
theorem Duo.doA (h : Duo w0 qb rb ub r t t2 w) (hq : Q w' qb rb r t') (hc : Chg (Qs qb rb) w w') : Duo w0 qb rb ub r t' t2 w' :=
  ⟨h.a.step hq hc, h.b.other hc fun e => e.elim h.n1 h.n2, h.n1, h.n2, h.lo⟩
theorem Duo.doB (h : Duo w0 qb rb ub r t t2 w) (hd : Do ub (rcs r t') RT w w') : Duo w0 qb rb ub r t t' w' :=
  ⟨⟨h.a.q.other hd.chg (fun e => h.n1 e.symm) (fun e => h.n2 e.symm), h.a.lo, h.a.lo2, hd.chg.below h.a.below h.a.below.size fun k e => by rw [e]; exact h.lo⟩, hd.at_, h.n1, h.n2, h.lo⟩
end
end Go.Proofs.Ythocanbbonikiaa.Qu
namespace Go.Proofs.Ythocanbbonikiaa.queuePlays
open Go.RowKit Go.Proofs.Ythocanbbonikiaa.Base Go.Proofs.Ythocanbbonikiaa.Mem Go.Proofs.Ythocanbbonikiaa.Cr Go.Proofs.Ythocanbbonikiaa.Qu
set_option maxHeartbeats 8000000 in
set_option maxRecDepth 100000 in
theorem all (rm : Int) (oa : Option Addr) (n cap : Nat) (F : Nat → Ct) (hn : n ≤ maxLen) (w : World) (hA : ArgS 3 cc CFit w oa n F) :
    Calls Try.prog 3 #[im rm, .slice oa n cap] w fun e w' => e = .returned (.bool true) ∧ Below w.heap.size w w' := by
  have HA := Lib.hid hA
  have CF := Lib.hid (ffew oa n cap F w hA)
  have CW := Lib.hid fworks
  unfold maxLen at hn
  clear hA
  go_enter Try.func3, Try.ntmps3
  go_wp2_with fail
  refine CF.out.mono ?_
  rintro _ _ ⟨b, rfl, rfl, _⟩
  clear CF
  cases b with
  | false =>
    go_wp2_with (go_at_call 8; refine (CW.out _).mono ?_; rintro x v ⟨rfl, hb⟩; have HB := Lib.hid hb; clear hb)
    go_ret
    exact ⟨rfl, HB.out⟩
  | true =>
  go_wp2_with fail
  refine (fnew rm w).mono ?_
  rintro _ w1 ⟨rfl, ha, hb1⟩
  have HA1 := Lib.hid ha
  have HB1 := Lib.hid hb1
  have hs1 := ha.lt
  have HS := Lib.hid hs1
  clear ha hb1 hs1
  go_wp2_with fail
  refine (rnew rm w1).mono ?_
  rintro _ w2 ⟨rfl, hb, hb2⟩
  have HP : Hid (Duo w (w.heap.size + 1) w.heap.size w1.heap.size (roomN rm) ⟨#[]⟩ ⟨#[]⟩ w2) :=
    Lib.hid ⟨⟨HA1.out.below hb2, by omega, Nat.le_refl _, below_on HB1.out hb2⟩, hb, by have := HS.out; omega, by have := HS.out; omega, by have := HS.out; omega⟩
  clear hb hb2 HA1 HB1 HS
  generalize roomN rm = r at HP
  generalize w1.heap.size = ub at HP ⊢
  generalize hw0 : w.heap.size = rb at HP ⊢
  obtain ⟨qb, hqb⟩ : ∃ x, rb + 1 = x := ⟨_, rfl⟩
  rw [hqb] at HP ⊢
  have HPB := Lib.hid hw0
  clear hqb hw0
  go_wp2_with fail
  go_loopg [7] n (fun gm s wr => ∃ (k : Nat) (tx : ByteArray), s = nm k ∧ n - k ≤ gm ∧ k ≤ n ∧ Hid (Duo w qb rb ub r tx tx wr))
  case atStart => exact ⟨0, _, rfl, by omega, by omega, HP⟩
  case round =>
    clear HP
    obtain ⟨k, tx, rfl, hgm, hkn, HP⟩ := hrel
    by_cases hlt : k < n
    · have t1 : decide ((k : Int) < (n : Int)) = true := decide_eq_true (by omega)
      have t2 : (k : Int) < (n : Int) := by omega
      have j0 : (0 : Int) ≤ (k : Int) := by omega
      have vk := wrap_nat (k + 1) (by omega)
      obtain ⟨a, gb, go, rfl, ha, hgb, hrw⟩ := arg_at HA.out hlt
      obtain ⟨c, hc⟩ : ∃ c, c = F k := ⟨_, rfl⟩
      rw [← hc] at hrw
      have HW := Lib.hid hrw
      obtain ⟨c0, c1, c2⟩ := hrw wr HP.out.a.below
      clear hrw hc
      obtain ⟨kd, sx, num⟩ := c
      dsimp only at c0 c1 c2 HW
      have HR := Lib.hid HP.out.a.q.room
      rcases six_cases kd with hj | hj | hj | hj | hj | hj
      · have CP := Lib.hid (fun w => six_at kd w hj (v := 0) rfl)
        clear hj
        have CA := Lib.hid (fun w h => fput w qb rb r tx sx h)
        have CB := Lib.hid (fun w h => rput w ub r tx sx h HR.out.1 HR.out.2.2)
        generalize room r tx sx = z at CA CB
        obtain ⟨t3, ht3⟩ : ∃ x, tx ++ fst_ sx z = x := ⟨_, rfl⟩
        rw [ht3] at CA CB
        clear ht3
        have zz : ((z : Int) == (z : Int)) = true := beq_self_eq_true _
        go_wp2_with (go_at_call 11; ((with_reducible refine (CP.out _).mono ?_); rintro e v ⟨rfl, rfl⟩))
        refine wp_region_held_drew (S := (fun w' => Below w.heap.size w w')) (by kernel_rfl) HP.out.drew.a.below (fun hHeld => ?_)
        refine' wpAnyH_take (i := 0) (oi := { dst := some 29, op := Go.Op.move (Go.Operand.tmp 5), type := 25, pos := "law.go:46", after := #[], guard := none }) (v := _) rfl (by kernel_rfl) (by kernel_rfl) (by kernel_rfl) (fun _ _ _ h => h) (Or.inl ⟨by rfl, ?hy1⟩) (by assumption) ?hr1
        case hy1 => (intro _ hSw; (try dsimp only at hSw); go_simp <;> with_reducible rfl)
        simp only [Act.put, List.setIfInBounds_toArray, List.set_cons_zero, List.set_cons_succ]
        refine' wpAnyH_take (i := 1) (oi := { dst := some 30, op := Go.Op.move (Go.Operand.tmp 1), type := 22, pos := "law.go:46", after := #[], guard := none }) (v := _) rfl (by kernel_rfl) (by kernel_rfl) (by kernel_rfl) (fun _ _ _ h => h) (Or.inl ⟨by rfl, ?hy2⟩) (by assumption) ?hr2
        case hy2 => (intro _ hSw; (try dsimp only at hSw); go_simp <;> with_reducible rfl)
        simp only [Act.put, List.setIfInBounds_toArray, List.set_cons_zero, List.set_cons_succ]
        refine' wpAnyH_take (i := 2) (oi := { dst := some 31, op := Go.Op.move (Go.Operand.tmp 7), type := 3, pos := "law.go:46", after := #[], guard := none }) (v := _) rfl (by kernel_rfl) (by kernel_rfl) (by kernel_rfl) (fun _ _ _ h => h) (Or.inl ⟨by rfl, ?hy3⟩) (by assumption) ?hr3
        case hy3 => (intro _ hSw; (try dsimp only at hSw); go_simp <;> with_reducible rfl)
        simp only [Act.put, List.setIfInBounds_toArray, List.set_cons_zero, List.set_cons_succ]
        refine' wpAnyH_take (i := 3) (oi := { dst := some 32, op := Go.Op.indexAddr 22 (Go.Operand.tmp 30) (Go.Operand.tmp 31), type := 0, pos := "law.go:46", after := #[{ on := 1, ground := Go.Ground.data }, { on := 2, ground := Go.Ground.data }], guard := none }) (v := _) rfl (by kernel_rfl) (by kernel_rfl) (by kernel_rfl) (fun _ _ _ h => h) (Or.inl ⟨by rfl, ?hy4⟩) (by assumption) ?hr4
        case hy4 => (intro _ hSw; (try dsimp only at hSw); go_simp <;> with_reducible rfl)
        simp only [Act.put, List.setIfInBounds_toArray, List.set_cons_zero, List.set_cons_succ]
        refine' wpAnyH_take (i := 4) (oi := { dst := some 33, op := Go.Op.fieldAddr 31 (Go.Operand.tmp 32) 1, type := 0, pos := "law.go:46", after := #[{ on := 3, ground := Go.Ground.data }], guard := none }) (v := _) rfl (by kernel_rfl) (by kernel_rfl) (by kernel_rfl) (fun _ _ _ h => h) (Or.inl ⟨by rfl, ?hy5⟩) (by assumption) ?hr5
        case hy5 => (intro _ hSw; (try dsimp only at hSw); go_simp <;> with_reducible rfl)
        simp only [Act.put, List.setIfInBounds_toArray, List.set_cons_zero, List.set_cons_succ]
        refine' wpAnyH_take (i := 5) (oi := { dst := some 34, op := Go.Op.load 9 (Go.Operand.tmp 33), type := 9, pos := "law.go:46", after := #[{ on := 4, ground := Go.Ground.data }], guard := none }) (v := _) rfl (by kernel_rfl) (by kernel_rfl) (by kernel_rfl) (fun _ _ _ h => h) (Or.inl ⟨by rfl, ?hy6⟩) (by assumption) ?hr6
        case hy6 => (intro _ hSw; (try dsimp only at hSw); have hc := (HW.out _ hSw).2.1; clear hSw; go_simp <;> with_reducible rfl)
        simp only [Act.put, List.setIfInBounds_toArray, List.set_cons_zero, List.set_cons_succ]
        refine' wpAnyH_take (i := 7) (oi := { dst := some 36, op := Go.Op.move (Go.Operand.tmp 6), type := 27, pos := "law.go:46", after := #[], guard := none }) (v := _) rfl (by kernel_rfl) (by kernel_rfl) (by kernel_rfl) (fun _ _ _ h => h) (Or.inl ⟨by rfl, ?hy7⟩) (by assumption) ?hr7
        case hy7 => (intro _ hSw; (try dsimp only at hSw); go_simp <;> with_reducible rfl)
        simp only [Act.put, List.setIfInBounds_toArray, List.set_cons_zero, List.set_cons_succ]
        refine' wpAnyH_take (i := 8) (oi := { dst := some 37, op := Go.Op.move (Go.Operand.tmp 1), type := 22, pos := "law.go:46", after := #[], guard := none }) (v := _) rfl (by kernel_rfl) (by kernel_rfl) (by kernel_rfl) (fun _ _ _ h => h) (Or.inl ⟨by rfl, ?hy8⟩) (by assumption) ?hr8
        case hy8 => (intro _ hSw; (try dsimp only at hSw); go_simp <;> with_reducible rfl)
        simp only [Act.put, List.setIfInBounds_toArray, List.set_cons_zero, List.set_cons_succ]
        refine' wpAnyH_take (i := 9) (oi := { dst := some 38, op := Go.Op.move (Go.Operand.tmp 7), type := 3, pos := "law.go:46", after := #[], guard := none }) (v := _) rfl (by kernel_rfl) (by kernel_rfl) (by kernel_rfl) (fun _ _ _ h => h) (Or.inl ⟨by rfl, ?hy9⟩) (by assumption) ?hr9
        case hy9 => (intro _ hSw; (try dsimp only at hSw); go_simp <;> with_reducible rfl)
        simp only [Act.put, List.setIfInBounds_toArray, List.set_cons_zero, List.set_cons_succ]
        refine' wpAnyH_take (i := 10) (oi := { dst := some 39, op := Go.Op.indexAddr 22 (Go.Operand.tmp 37) (Go.Operand.tmp 38), type := 0, pos := "law.go:46", after := #[{ on := 8, ground := Go.Ground.data }, { on := 9, ground := Go.Ground.data }], guard := none }) (v := _) rfl (by kernel_rfl) (by kernel_rfl) (by kernel_rfl) (fun _ _ _ h => h) (Or.inl ⟨by rfl, ?hy10⟩) (by assumption) ?hr10
        case hy10 => (intro _ hSw; (try dsimp only at hSw); go_simp <;> with_reducible rfl)
        simp only [Act.put, List.setIfInBounds_toArray, List.set_cons_zero, List.set_cons_succ]
        refine' wpAnyH_take (i := 11) (oi := { dst := some 40, op := Go.Op.fieldAddr 31 (Go.Operand.tmp 39) 1, type := 0, pos := "law.go:46", after := #[{ on := 10, ground := Go.Ground.data }], guard := none }) (v := _) rfl (by kernel_rfl) (by kernel_rfl) (by kernel_rfl) (fun _ _ _ h => h) (Or.inl ⟨by rfl, ?hy11⟩) (by assumption) ?hr11
        case hy11 => (intro _ hSw; (try dsimp only at hSw); go_simp <;> with_reducible rfl)
        simp only [Act.put, List.setIfInBounds_toArray, List.set_cons_zero, List.set_cons_succ]
        refine' wpAnyH_take (i := 12) (oi := { dst := some 41, op := Go.Op.load 9 (Go.Operand.tmp 40), type := 9, pos := "law.go:46", after := #[{ on := 11, ground := Go.Ground.data }], guard := none }) (v := _) rfl (by kernel_rfl) (by kernel_rfl) (by kernel_rfl) (fun _ _ _ h => h) (Or.inl ⟨by rfl, ?hy12⟩) (by assumption) ?hr12
        case hy12 => (intro _ hSw; (try dsimp only at hSw); have hc := (HW.out _ hSw).2.1; clear hSw; go_simp <;> with_reducible rfl)
        simp only [Act.put, List.setIfInBounds_toArray, List.set_cons_zero, List.set_cons_succ]
        refine wpAnyH_ready (rs := [6]) (by kernel_rfl) (by simp) ?_
        refine AllReadyH.cons (o := { dst := some 35, op := Go.Op.call { callee := Go.Callee.value (Go.Operand.func 18), args := #[Go.Operand.tmp 29, Go.Operand.tmp 34], argTypes := #[25, 9] }, type := 3, pos := "law.go:46", after := #[{ on := 0, ground := Go.Ground.data }, { on := 5, ground := Go.Ground.data }], guard := none }) rfl (fun K hK => ?_) AllReadyH.nil
        go_simp
        refine (CA.out _ HP.out.drew.a.q).mono ?_
        rintro _ w5 ⟨rfl, hq, hc⟩
        have HP2 := Lib.hid (HP.out.drew.doA hq hc)
        clear hq hc CA c0 c1 c2 CP HP
        go_wp2_with fail
        refine hK.out _ _ HP2.out.a.below (fun hNext => ?_)
        clear hK K hHeld
        have hHeld := hNext
        clear hNext
        (try simp only [Act.put, List.setIfInBounds_toArray, List.set_cons_zero, List.set_cons_succ])
        refine wpAnyH_ready (rs := [13]) (by kernel_rfl) (by simp) ?_
        refine AllReadyH.cons (o := { dst := some 42, op := Go.Op.call { callee := Go.Callee.value (Go.Operand.func 19), args := #[Go.Operand.tmp 36, Go.Operand.tmp 41], argTypes := #[27, 9] }, type := 3, pos := "law.go:46", after := #[{ on := 7, ground := Go.Ground.data }, { on := 12, ground := Go.Ground.data }, { on := 6, ground := Go.Ground.chain }], guard := none }) rfl (fun K hK => ?_) AllReadyH.nil
        go_simp
        refine (CB.out _ HP2.out.b).mono ?_
        rintro _ w6 ⟨rfl, hd⟩
        have HP3 := Lib.hid (HP2.out.doB hd)
        clear hd CB HP2
        go_wp2_with fail
        refine hK.out _ _ HP3.out.a.below (fun hNext => ?_)
        clear hK K hHeld
        have hHeld := hNext
        clear hNext
        (try simp only [Act.put, List.setIfInBounds_toArray, List.set_cons_zero, List.set_cons_succ])
        refine' wpAnyH_take (i := 14) (oi := { dst := some 43, op := Go.Op.binOp Go.BinOp.eql 3 (Go.Operand.tmp 35) (Go.Operand.tmp 42) 3, type := 4, pos := "law.go:46", after := #[{ on := 6, ground := Go.Ground.data }, { on := 13, ground := Go.Ground.data }], guard := none }) (v := _) rfl (by kernel_rfl) (by kernel_rfl) (by kernel_rfl) (fun _ _ _ h => h) (Or.inl ⟨by rfl, ?hy13⟩) (by assumption) ?hr13
        case hy13 => (intro _ hSw; (try dsimp only at hSw); go_simp <;> with_reducible rfl)
        simp only [Act.put, List.setIfInBounds_toArray, List.set_cons_zero, List.set_cons_succ]
        refine' wpAnyH_take (i := 15) (oi := { dst := some 8, op := Go.Op.assign (Go.Operand.tmp 43), type := 4, pos := "law.go:46", after := #[{ on := 14, ground := Go.Ground.data }, { on := 13, ground := Go.Ground.chain }, { on := 0, ground := Go.Ground.phase }, { on := 1, ground := Go.Ground.phase }, { on := 2, ground := Go.Ground.phase }, { on := 3, ground := Go.Ground.phase }, { on := 4, ground := Go.Ground.phase }, { on := 5, ground := Go.Ground.phase }, { on := 6, ground := Go.Ground.phase }, { on := 7, ground := Go.Ground.phase }, { on := 8, ground := Go.Ground.phase }, { on := 9, ground := Go.Ground.phase }, { on := 10, ground := Go.Ground.phase }, { on := 11, ground := Go.Ground.phase }, { on := 12, ground := Go.Ground.phase }, { on := 13, ground := Go.Ground.phase }, { on := 14, ground := Go.Ground.phase }], guard := none }) (v := _) rfl (by kernel_rfl) (by kernel_rfl) (by kernel_rfl) (fun _ _ _ h => h) (Or.inl ⟨by rfl, ?hy14⟩) (by assumption) ?hr14
        case hy14 => (intro _ hSw; (try dsimp only at hSw); go_simp <;> with_reducible rfl)
        simp only [Act.put, List.setIfInBounds_toArray, List.set_cons_zero, List.set_cons_succ]
        refine wpAnyH_done (by kernel_rfl) ?_ _
        clear hHeld
        obtain ⟨d, hd⟩ : ∃ d, r - t3.size = d := ⟨_, rfl⟩
        have vd : IntKind.i64.wrap ((r : Int) - (t3.size : Int)) = (d : Int) := by rw [IntKind.wrap_i64]; have := HP3.out.a.q.room; omega
        have C1 : Hid (∀ m, Calls _ _ _ (w6.drewN m) _) := Lib.hid fun m => flen (w6.drewN m) qb rb r t3 (HP3.out.drewN m).a.q
        have C2 : Hid (∀ m, Calls _ _ _ (w6.drewN m) _) := Lib.hid fun m => ffree (w6.drewN m) qb rb r t3 (HP3.out.drewN m).a.q
        rw [hd] at C2
        clear hd HR
        have k1 : w6.cell? ⟨ub, 0, none⟩ = some (nm r) := HP3.out.b.cell 0 _ rfl
        have k2 : w6.cell? ⟨ub, 1, none⟩ = some (.string t3) := HP3.out.b.cell 1 _ rfl
        have d2 : ub < w6.heap.size := HP3.out.b.lt
        go_wp2_with fail
        go_quiet (first
          | (go_at_call 20; exact quiet_left (C1.out _))
          | (go_at_call 21; exact quiet_drew (C2.out _)))
        go_wp2
        go_roundg (n - (k + 1))
        case measure => omega
        case rel => exact ⟨k + 1, t3, by first | rfl | go_num, Nat.le_refl _, by omega, Lib.hid (HP3.out.drewN _)⟩
      · have CP := Lib.hid (fun w => six_at kd w hj (v := 1) rfl)
        clear hj
        have CA := Lib.hid (fun w h => fput w qb rb r tx sx h)
        have CB := Lib.hid (fun w h => rput w ub r tx sx h HR.out.1 HR.out.2.2)
        generalize room r tx sx = z at CA CB
        obtain ⟨t3, ht3⟩ : ∃ x, tx ++ fst_ sx z = x := ⟨_, rfl⟩
        rw [ht3] at CA CB
        clear ht3
        have zz : ((z : Int) == (z : Int)) = true := beq_self_eq_true _
        go_wp2_with (go_at_call 11; ((with_reducible refine (CP.out _).mono ?_); rintro e v ⟨rfl, rfl⟩))
        refine wp_region_held_drew (S := (fun w' => Below w.heap.size w w')) (by kernel_rfl) HP.out.drew.a.below (fun hHeld => ?_)
        refine' wpAnyH_take (i := 0) (oi := { dst := some 29, op := Go.Op.move (Go.Operand.tmp 5), type := 25, pos := "law.go:46", after := #[], guard := none }) (v := _) rfl (by kernel_rfl) (by kernel_rfl) (by kernel_rfl) (fun _ _ _ h => h) (Or.inl ⟨by rfl, ?hy15⟩) (by assumption) ?hr15
        case hy15 => (intro _ hSw; (try dsimp only at hSw); go_simp <;> with_reducible rfl)
        simp only [Act.put, List.setIfInBounds_toArray, List.set_cons_zero, List.set_cons_succ]
        refine' wpAnyH_take (i := 1) (oi := { dst := some 30, op := Go.Op.move (Go.Operand.tmp 1), type := 22, pos := "law.go:46", after := #[], guard := none }) (v := _) rfl (by kernel_rfl) (by kernel_rfl) (by kernel_rfl) (fun _ _ _ h => h) (Or.inl ⟨by rfl, ?hy16⟩) (by assumption) ?hr16
        case hy16 => (intro _ hSw; (try dsimp only at hSw); go_simp <;> with_reducible rfl)
        simp only [Act.put, List.setIfInBounds_toArray, List.set_cons_zero, List.set_cons_succ]
        refine' wpAnyH_take (i := 2) (oi := { dst := some 31, op := Go.Op.move (Go.Operand.tmp 7), type := 3, pos := "law.go:46", after := #[], guard := none }) (v := _) rfl (by kernel_rfl) (by kernel_rfl) (by kernel_rfl) (fun _ _ _ h => h) (Or.inl ⟨by rfl, ?hy17⟩) (by assumption) ?hr17
        case hy17 => (intro _ hSw; (try dsimp only at hSw); go_simp <;> with_reducible rfl)
        simp only [Act.put, List.setIfInBounds_toArray, List.set_cons_zero, List.set_cons_succ]
        refine' wpAnyH_take (i := 3) (oi := { dst := some 32, op := Go.Op.indexAddr 22 (Go.Operand.tmp 30) (Go.Operand.tmp 31), type := 0, pos := "law.go:46", after := #[{ on := 1, ground := Go.Ground.data }, { on := 2, ground := Go.Ground.data }], guard := none }) (v := _) rfl (by kernel_rfl) (by kernel_rfl) (by kernel_rfl) (fun _ _ _ h => h) (Or.inl ⟨by rfl, ?hy18⟩) (by assumption) ?hr18
        case hy18 => (intro _ hSw; (try dsimp only at hSw); go_simp <;> with_reducible rfl)
        simp only [Act.put, List.setIfInBounds_toArray, List.set_cons_zero, List.set_cons_succ]
        refine' wpAnyH_take (i := 4) (oi := { dst := some 33, op := Go.Op.fieldAddr 31 (Go.Operand.tmp 32) 1, type := 0, pos := "law.go:46", after := #[{ on := 3, ground := Go.Ground.data }], guard := none }) (v := _) rfl (by kernel_rfl) (by kernel_rfl) (by kernel_rfl) (fun _ _ _ h => h) (Or.inl ⟨by rfl, ?hy19⟩) (by assumption) ?hr19
        case hy19 => (intro _ hSw; (try dsimp only at hSw); go_simp <;> with_reducible rfl)
        simp only [Act.put, List.setIfInBounds_toArray, List.set_cons_zero, List.set_cons_succ]
        refine' wpAnyH_take (i := 5) (oi := { dst := some 34, op := Go.Op.load 9 (Go.Operand.tmp 33), type := 9, pos := "law.go:46", after := #[{ on := 4, ground := Go.Ground.data }], guard := none }) (v := _) rfl (by kernel_rfl) (by kernel_rfl) (by kernel_rfl) (fun _ _ _ h => h) (Or.inl ⟨by rfl, ?hy20⟩) (by assumption) ?hr20
        case hy20 => (intro _ hSw; (try dsimp only at hSw); have hc := (HW.out _ hSw).2.1; clear hSw; go_simp <;> with_reducible rfl)
        simp only [Act.put, List.setIfInBounds_toArray, List.set_cons_zero, List.set_cons_succ]
        refine' wpAnyH_take (i := 7) (oi := { dst := some 36, op := Go.Op.move (Go.Operand.tmp 6), type := 27, pos := "law.go:46", after := #[], guard := none }) (v := _) rfl (by kernel_rfl) (by kernel_rfl) (by kernel_rfl) (fun _ _ _ h => h) (Or.inl ⟨by rfl, ?hy21⟩) (by assumption) ?hr21
        case hy21 => (intro _ hSw; (try dsimp only at hSw); go_simp <;> with_reducible rfl)
        simp only [Act.put, List.setIfInBounds_toArray, List.set_cons_zero, List.set_cons_succ]
        refine' wpAnyH_take (i := 8) (oi := { dst := some 37, op := Go.Op.move (Go.Operand.tmp 1), type := 22, pos := "law.go:46", after := #[], guard := none }) (v := _) rfl (by kernel_rfl) (by kernel_rfl) (by kernel_rfl) (fun _ _ _ h => h) (Or.inl ⟨by rfl, ?hy22⟩) (by assumption) ?hr22
        case hy22 => (intro _ hSw; (try dsimp only at hSw); go_simp <;> with_reducible rfl)
        simp only [Act.put, List.setIfInBounds_toArray, List.set_cons_zero, List.set_cons_succ]
        refine' wpAnyH_take (i := 9) (oi := { dst := some 38, op := Go.Op.move (Go.Operand.tmp 7), type := 3, pos := "law.go:46", after := #[], guard := none }) (v := _) rfl (by kernel_rfl) (by kernel_rfl) (by kernel_rfl) (fun _ _ _ h => h) (Or.inl ⟨by rfl, ?hy23⟩) (by assumption) ?hr23
        case hy23 => (intro _ hSw; (try dsimp only at hSw); go_simp <;> with_reducible rfl)
        simp only [Act.put, List.setIfInBounds_toArray, List.set_cons_zero, List.set_cons_succ]
        refine' wpAnyH_take (i := 10) (oi := { dst := some 39, op := Go.Op.indexAddr 22 (Go.Operand.tmp 37) (Go.Operand.tmp 38), type := 0, pos := "law.go:46", after := #[{ on := 8, ground := Go.Ground.data }, { on := 9, ground := Go.Ground.data }], guard := none }) (v := _) rfl (by kernel_rfl) (by kernel_rfl) (by kernel_rfl) (fun _ _ _ h => h) (Or.inl ⟨by rfl, ?hy24⟩) (by assumption) ?hr24
        case hy24 => (intro _ hSw; (try dsimp only at hSw); go_simp <;> with_reducible rfl)
        simp only [Act.put, List.setIfInBounds_toArray, List.set_cons_zero, List.set_cons_succ]
        refine' wpAnyH_take (i := 11) (oi := { dst := some 40, op := Go.Op.fieldAddr 31 (Go.Operand.tmp 39) 1, type := 0, pos := "law.go:46", after := #[{ on := 10, ground := Go.Ground.data }], guard := none }) (v := _) rfl (by kernel_rfl) (by kernel_rfl) (by kernel_rfl) (fun _ _ _ h => h) (Or.inl ⟨by rfl, ?hy25⟩) (by assumption) ?hr25
        case hy25 => (intro _ hSw; (try dsimp only at hSw); go_simp <;> with_reducible rfl)
        simp only [Act.put, List.setIfInBounds_toArray, List.set_cons_zero, List.set_cons_succ]
        refine' wpAnyH_take (i := 12) (oi := { dst := some 41, op := Go.Op.load 9 (Go.Operand.tmp 40), type := 9, pos := "law.go:46", after := #[{ on := 11, ground := Go.Ground.data }], guard := none }) (v := _) rfl (by kernel_rfl) (by kernel_rfl) (by kernel_rfl) (fun _ _ _ h => h) (Or.inl ⟨by rfl, ?hy26⟩) (by assumption) ?hr26
        case hy26 => (intro _ hSw; (try dsimp only at hSw); have hc := (HW.out _ hSw).2.1; clear hSw; go_simp <;> with_reducible rfl)
        simp only [Act.put, List.setIfInBounds_toArray, List.set_cons_zero, List.set_cons_succ]
        refine wpAnyH_ready (rs := [6]) (by kernel_rfl) (by simp) ?_
        refine AllReadyH.cons (o := { dst := some 35, op := Go.Op.call { callee := Go.Callee.value (Go.Operand.func 18), args := #[Go.Operand.tmp 29, Go.Operand.tmp 34], argTypes := #[25, 9] }, type := 3, pos := "law.go:46", after := #[{ on := 0, ground := Go.Ground.data }, { on := 5, ground := Go.Ground.data }], guard := none }) rfl (fun K hK => ?_) AllReadyH.nil
        go_simp
        refine (CA.out _ HP.out.drew.a.q).mono ?_
        rintro _ w5 ⟨rfl, hq, hc⟩
        have HP2 := Lib.hid (HP.out.drew.doA hq hc)
        clear hq hc CA c0 c1 c2 CP HP
        go_wp2_with fail
        refine hK.out _ _ HP2.out.a.below (fun hNext => ?_)
        clear hK K hHeld
        have hHeld := hNext
        clear hNext
        (try simp only [Act.put, List.setIfInBounds_toArray, List.set_cons_zero, List.set_cons_succ])
        refine wpAnyH_ready (rs := [13]) (by kernel_rfl) (by simp) ?_
        refine AllReadyH.cons (o := { dst := some 42, op := Go.Op.call { callee := Go.Callee.value (Go.Operand.func 19), args := #[Go.Operand.tmp 36, Go.Operand.tmp 41], argTypes := #[27, 9] }, type := 3, pos := "law.go:46", after := #[{ on := 7, ground := Go.Ground.data }, { on := 12, ground := Go.Ground.data }, { on := 6, ground := Go.Ground.chain }], guard := none }) rfl (fun K hK => ?_) AllReadyH.nil
        go_simp
        refine (CB.out _ HP2.out.b).mono ?_
        rintro _ w6 ⟨rfl, hd⟩
        have HP3 := Lib.hid (HP2.out.doB hd)
        clear hd CB HP2
        go_wp2_with fail
        refine hK.out _ _ HP3.out.a.below (fun hNext => ?_)
        clear hK K hHeld
        have hHeld := hNext
        clear hNext
        (try simp only [Act.put, List.setIfInBounds_toArray, List.set_cons_zero, List.set_cons_succ])
        refine' wpAnyH_take (i := 14) (oi := { dst := some 43, op := Go.Op.binOp Go.BinOp.eql 3 (Go.Operand.tmp 35) (Go.Operand.tmp 42) 3, type := 4, pos := "law.go:46", after := #[{ on := 6, ground := Go.Ground.data }, { on := 13, ground := Go.Ground.data }], guard := none }) (v := _) rfl (by kernel_rfl) (by kernel_rfl) (by kernel_rfl) (fun _ _ _ h => h) (Or.inl ⟨by rfl, ?hy27⟩) (by assumption) ?hr27
        case hy27 => (intro _ hSw; (try dsimp only at hSw); go_simp <;> with_reducible rfl)
        simp only [Act.put, List.setIfInBounds_toArray, List.set_cons_zero, List.set_cons_succ]
        refine' wpAnyH_take (i := 15) (oi := { dst := some 8, op := Go.Op.assign (Go.Operand.tmp 43), type := 4, pos := "law.go:46", after := #[{ on := 14, ground := Go.Ground.data }, { on := 13, ground := Go.Ground.chain }, { on := 0, ground := Go.Ground.phase }, { on := 1, ground := Go.Ground.phase }, { on := 2, ground := Go.Ground.phase }, { on := 3, ground := Go.Ground.phase }, { on := 4, ground := Go.Ground.phase }, { on := 5, ground := Go.Ground.phase }, { on := 6, ground := Go.Ground.phase }, { on := 7, ground := Go.Ground.phase }, { on := 8, ground := Go.Ground.phase }, { on := 9, ground := Go.Ground.phase }, { on := 10, ground := Go.Ground.phase }, { on := 11, ground := Go.Ground.phase }, { on := 12, ground := Go.Ground.phase }, { on := 13, ground := Go.Ground.phase }, { on := 14, ground := Go.Ground.phase }], guard := none }) (v := _) rfl (by kernel_rfl) (by kernel_rfl) (by kernel_rfl) (fun _ _ _ h => h) (Or.inl ⟨by rfl, ?hy28⟩) (by assumption) ?hr28
        case hy28 => (intro _ hSw; (try dsimp only at hSw); go_simp <;> with_reducible rfl)
        simp only [Act.put, List.setIfInBounds_toArray, List.set_cons_zero, List.set_cons_succ]
        refine wpAnyH_done (by kernel_rfl) ?_ _
        clear hHeld
        obtain ⟨d, hd⟩ : ∃ d, r - t3.size = d := ⟨_, rfl⟩
        have vd : IntKind.i64.wrap ((r : Int) - (t3.size : Int)) = (d : Int) := by rw [IntKind.wrap_i64]; have := HP3.out.a.q.room; omega
        have C1 : Hid (∀ m, Calls _ _ _ (w6.drewN m) _) := Lib.hid fun m => flen (w6.drewN m) qb rb r t3 (HP3.out.drewN m).a.q
        have C2 : Hid (∀ m, Calls _ _ _ (w6.drewN m) _) := Lib.hid fun m => ffree (w6.drewN m) qb rb r t3 (HP3.out.drewN m).a.q
        rw [hd] at C2
        clear hd HR
        have k1 : w6.cell? ⟨ub, 0, none⟩ = some (nm r) := HP3.out.b.cell 0 _ rfl
        have k2 : w6.cell? ⟨ub, 1, none⟩ = some (.string t3) := HP3.out.b.cell 1 _ rfl
        have d2 : ub < w6.heap.size := HP3.out.b.lt
        go_wp2_with fail
        go_quiet (first
          | (go_at_call 20; exact quiet_left (C1.out _))
          | (go_at_call 21; exact quiet_drew (C2.out _)))
        go_wp2
        go_roundg (n - (k + 1))
        case measure => omega
        case rel => exact ⟨k + 1, t3, by first | rfl | go_num, Nat.le_refl _, by omega, Lib.hid (HP3.out.drewN _)⟩
      · have CP := Lib.hid (fun w => six_at kd w hj (v := 2) rfl)
        clear hj
        have CA := Lib.hid (fun w h => fnext w qb rb r tx h num)
        have CB := Lib.hid (fun w h => rnext w ub r tx num h)
        generalize cut num tx.size = q at CA CB
        generalize rst_ tx q = t3 at CA CB
        generalize fst_ tx q = z at CA CB
        have zz : (z.toList == z.toList) = true := beq_self_eq_true _
        go_wp2_with (go_at_call 11; ((with_reducible refine (CP.out _).mono ?_); rintro e v ⟨rfl, rfl⟩))
        refine wp_region_held_drew (S := (fun w' => Below w.heap.size w w')) (by kernel_rfl) HP.out.drew.a.below (fun hHeld => ?_)
        refine' wpAnyH_take (i := 0) (oi := { dst := some 47, op := Go.Op.move (Go.Operand.tmp 5), type := 25, pos := "law.go:40", after := #[], guard := none }) (v := _) rfl (by kernel_rfl) (by kernel_rfl) (by kernel_rfl) (fun _ _ _ h => h) (Or.inl ⟨by rfl, ?hy29⟩) (by assumption) ?hr29
        case hy29 => (intro _ hSw; (try dsimp only at hSw); go_simp <;> with_reducible rfl)
        simp only [Act.put, List.setIfInBounds_toArray, List.set_cons_zero, List.set_cons_succ]
        refine' wpAnyH_take (i := 1) (oi := { dst := some 48, op := Go.Op.move (Go.Operand.tmp 1), type := 22, pos := "law.go:40", after := #[], guard := none }) (v := _) rfl (by kernel_rfl) (by kernel_rfl) (by kernel_rfl) (fun _ _ _ h => h) (Or.inl ⟨by rfl, ?hy30⟩) (by assumption) ?hr30
        case hy30 => (intro _ hSw; (try dsimp only at hSw); go_simp <;> with_reducible rfl)
        simp only [Act.put, List.setIfInBounds_toArray, List.set_cons_zero, List.set_cons_succ]
        refine' wpAnyH_take (i := 2) (oi := { dst := some 49, op := Go.Op.move (Go.Operand.tmp 7), type := 3, pos := "law.go:40", after := #[], guard := none }) (v := _) rfl (by kernel_rfl) (by kernel_rfl) (by kernel_rfl) (fun _ _ _ h => h) (Or.inl ⟨by rfl, ?hy31⟩) (by assumption) ?hr31
        case hy31 => (intro _ hSw; (try dsimp only at hSw); go_simp <;> with_reducible rfl)
        simp only [Act.put, List.setIfInBounds_toArray, List.set_cons_zero, List.set_cons_succ]
        refine' wpAnyH_take (i := 3) (oi := { dst := some 50, op := Go.Op.indexAddr 22 (Go.Operand.tmp 48) (Go.Operand.tmp 49), type := 0, pos := "law.go:40", after := #[{ on := 1, ground := Go.Ground.data }, { on := 2, ground := Go.Ground.data }], guard := none }) (v := _) rfl (by kernel_rfl) (by kernel_rfl) (by kernel_rfl) (fun _ _ _ h => h) (Or.inl ⟨by rfl, ?hy32⟩) (by assumption) ?hr32
        case hy32 => (intro _ hSw; (try dsimp only at hSw); go_simp <;> with_reducible rfl)
        simp only [Act.put, List.setIfInBounds_toArray, List.set_cons_zero, List.set_cons_succ]
        refine' wpAnyH_take (i := 4) (oi := { dst := some 51, op := Go.Op.fieldAddr 31 (Go.Operand.tmp 50) 2, type := 0, pos := "law.go:40", after := #[{ on := 3, ground := Go.Ground.data }], guard := none }) (v := _) rfl (by kernel_rfl) (by kernel_rfl) (by kernel_rfl) (fun _ _ _ h => h) (Or.inl ⟨by rfl, ?hy33⟩) (by assumption) ?hr33
        case hy33 => (intro _ hSw; (try dsimp only at hSw); go_simp <;> with_reducible rfl)
        simp only [Act.put, List.setIfInBounds_toArray, List.set_cons_zero, List.set_cons_succ]
        refine' wpAnyH_take (i := 5) (oi := { dst := some 52, op := Go.Op.load 3 (Go.Operand.tmp 51), type := 3, pos := "law.go:40", after := #[{ on := 4, ground := Go.Ground.data }], guard := none }) (v := _) rfl (by kernel_rfl) (by kernel_rfl) (by kernel_rfl) (fun _ _ _ h => h) (Or.inl ⟨by rfl, ?hy34⟩) (by assumption) ?hr34
        case hy34 => (intro _ hSw; (try dsimp only at hSw); have hc := (HW.out _ hSw).2.2; clear hSw; go_simp <;> with_reducible rfl)
        simp only [Act.put, List.setIfInBounds_toArray, List.set_cons_zero, List.set_cons_succ]
        refine' wpAnyH_take (i := 7) (oi := { dst := some 54, op := Go.Op.move (Go.Operand.tmp 6), type := 27, pos := "law.go:40", after := #[], guard := none }) (v := _) rfl (by kernel_rfl) (by kernel_rfl) (by kernel_rfl) (fun _ _ _ h => h) (Or.inl ⟨by rfl, ?hy35⟩) (by assumption) ?hr35
        case hy35 => (intro _ hSw; (try dsimp only at hSw); go_simp <;> with_reducible rfl)
        simp only [Act.put, List.setIfInBounds_toArray, List.set_cons_zero, List.set_cons_succ]
        refine' wpAnyH_take (i := 8) (oi := { dst := some 55, op := Go.Op.move (Go.Operand.tmp 1), type := 22, pos := "law.go:40", after := #[], guard := none }) (v := _) rfl (by kernel_rfl) (by kernel_rfl) (by kernel_rfl) (fun _ _ _ h => h) (Or.inl ⟨by rfl, ?hy36⟩) (by assumption) ?hr36
        case hy36 => (intro _ hSw; (try dsimp only at hSw); go_simp <;> with_reducible rfl)
        simp only [Act.put, List.setIfInBounds_toArray, List.set_cons_zero, List.set_cons_succ]
        refine' wpAnyH_take (i := 9) (oi := { dst := some 56, op := Go.Op.move (Go.Operand.tmp 7), type := 3, pos := "law.go:40", after := #[], guard := none }) (v := _) rfl (by kernel_rfl) (by kernel_rfl) (by kernel_rfl) (fun _ _ _ h => h) (Or.inl ⟨by rfl, ?hy37⟩) (by assumption) ?hr37
        case hy37 => (intro _ hSw; (try dsimp only at hSw); go_simp <;> with_reducible rfl)
        simp only [Act.put, List.setIfInBounds_toArray, List.set_cons_zero, List.set_cons_succ]
        refine' wpAnyH_take (i := 10) (oi := { dst := some 57, op := Go.Op.indexAddr 22 (Go.Operand.tmp 55) (Go.Operand.tmp 56), type := 0, pos := "law.go:40", after := #[{ on := 8, ground := Go.Ground.data }, { on := 9, ground := Go.Ground.data }], guard := none }) (v := _) rfl (by kernel_rfl) (by kernel_rfl) (by kernel_rfl) (fun _ _ _ h => h) (Or.inl ⟨by rfl, ?hy38⟩) (by assumption) ?hr38
        case hy38 => (intro _ hSw; (try dsimp only at hSw); go_simp <;> with_reducible rfl)
        simp only [Act.put, List.setIfInBounds_toArray, List.set_cons_zero, List.set_cons_succ]
        refine' wpAnyH_take (i := 11) (oi := { dst := some 58, op := Go.Op.fieldAddr 31 (Go.Operand.tmp 57) 2, type := 0, pos := "law.go:40", after := #[{ on := 10, ground := Go.Ground.data }], guard := none }) (v := _) rfl (by kernel_rfl) (by kernel_rfl) (by kernel_rfl) (fun _ _ _ h => h) (Or.inl ⟨by rfl, ?hy39⟩) (by assumption) ?hr39
        case hy39 => (intro _ hSw; (try dsimp only at hSw); go_simp <;> with_reducible rfl)
        simp only [Act.put, List.setIfInBounds_toArray, List.set_cons_zero, List.set_cons_succ]
        refine' wpAnyH_take (i := 12) (oi := { dst := some 59, op := Go.Op.load 3 (Go.Operand.tmp 58), type := 3, pos := "law.go:40", after := #[{ on := 11, ground := Go.Ground.data }], guard := none }) (v := _) rfl (by kernel_rfl) (by kernel_rfl) (by kernel_rfl) (fun _ _ _ h => h) (Or.inl ⟨by rfl, ?hy40⟩) (by assumption) ?hr40
        case hy40 => (intro _ hSw; (try dsimp only at hSw); have hc := (HW.out _ hSw).2.2; clear hSw; go_simp <;> with_reducible rfl)
        simp only [Act.put, List.setIfInBounds_toArray, List.set_cons_zero, List.set_cons_succ]
        refine wpAnyH_ready (rs := [6]) (by kernel_rfl) (by simp) ?_
        refine AllReadyH.cons (o := { dst := some 53, op := Go.Op.call { callee := Go.Callee.value (Go.Operand.func 12), args := #[Go.Operand.tmp 47, Go.Operand.tmp 52], argTypes := #[25, 3] }, type := 9, pos := "law.go:40", after := #[{ on := 0, ground := Go.Ground.data }, { on := 5, ground := Go.Ground.data }], guard := none }) rfl (fun K hK => ?_) AllReadyH.nil
        go_simp
        refine (CA.out _ HP.out.drew.a.q).mono ?_
        rintro _ w5 ⟨rfl, hq, hc⟩
        have HP2 := Lib.hid (HP.out.drew.doA hq hc)
        clear hq hc CA c0 c1 c2 CP HP
        go_wp2_with fail
        refine hK.out _ _ HP2.out.a.below (fun hNext => ?_)
        clear hK K hHeld
        have hHeld := hNext
        clear hNext
        (try simp only [Act.put, List.setIfInBounds_toArray, List.set_cons_zero, List.set_cons_succ])
        refine wpAnyH_ready (rs := [13]) (by kernel_rfl) (by simp) ?_
        refine AllReadyH.cons (o := { dst := some 60, op := Go.Op.call { callee := Go.Callee.value (Go.Operand.func 13), args := #[Go.Operand.tmp 54, Go.Operand.tmp 59], argTypes := #[27, 3] }, type := 9, pos := "law.go:40", after := #[{ on := 7, ground := Go.Ground.data }, { on := 12, ground := Go.Ground.data }, { on := 6, ground := Go.Ground.chain }], guard := none }) rfl (fun K hK => ?_) AllReadyH.nil
        go_simp
        refine (CB.out _ HP2.out.b).mono ?_
        rintro _ w6 ⟨rfl, hd⟩
        have HP3 := Lib.hid (HP2.out.doB hd)
        clear hd CB HP2
        go_wp2_with fail
        refine hK.out _ _ HP3.out.a.below (fun hNext => ?_)
        clear hK K hHeld
        have hHeld := hNext
        clear hNext
        (try simp only [Act.put, List.setIfInBounds_toArray, List.set_cons_zero, List.set_cons_succ])
        refine' wpAnyH_take (i := 14) (oi := { dst := some 61, op := Go.Op.binOp Go.BinOp.eql 9 (Go.Operand.tmp 53) (Go.Operand.tmp 60) 9, type := 4, pos := "law.go:40", after := #[{ on := 6, ground := Go.Ground.data }, { on := 13, ground := Go.Ground.data }], guard := none }) (v := _) rfl (by kernel_rfl) (by kernel_rfl) (by kernel_rfl) (fun _ _ _ h => h) (Or.inl ⟨by rfl, ?hy41⟩) (by assumption) ?hr41
        case hy41 => (intro _ hSw; (try dsimp only at hSw); go_simp <;> with_reducible rfl)
        simp only [Act.put, List.setIfInBounds_toArray, List.set_cons_zero, List.set_cons_succ]
        refine' wpAnyH_take (i := 15) (oi := { dst := some 8, op := Go.Op.assign (Go.Operand.tmp 61), type := 4, pos := "law.go:40", after := #[{ on := 14, ground := Go.Ground.data }, { on := 13, ground := Go.Ground.chain }, { on := 0, ground := Go.Ground.phase }, { on := 1, ground := Go.Ground.phase }, { on := 2, ground := Go.Ground.phase }, { on := 3, ground := Go.Ground.phase }, { on := 4, ground := Go.Ground.phase }, { on := 5, ground := Go.Ground.phase }, { on := 6, ground := Go.Ground.phase }, { on := 7, ground := Go.Ground.phase }, { on := 8, ground := Go.Ground.phase }, { on := 9, ground := Go.Ground.phase }, { on := 10, ground := Go.Ground.phase }, { on := 11, ground := Go.Ground.phase }, { on := 12, ground := Go.Ground.phase }, { on := 13, ground := Go.Ground.phase }, { on := 14, ground := Go.Ground.phase }], guard := none }) (v := _) rfl (by kernel_rfl) (by kernel_rfl) (by kernel_rfl) (fun _ _ _ h => h) (Or.inl ⟨by rfl, ?hy42⟩) (by assumption) ?hr42
        case hy42 => (intro _ hSw; (try dsimp only at hSw); go_simp <;> with_reducible rfl)
        simp only [Act.put, List.setIfInBounds_toArray, List.set_cons_zero, List.set_cons_succ]
        refine wpAnyH_done (by kernel_rfl) ?_ _
        clear hHeld
        obtain ⟨d, hd⟩ : ∃ d, r - t3.size = d := ⟨_, rfl⟩
        have vd : IntKind.i64.wrap ((r : Int) - (t3.size : Int)) = (d : Int) := by rw [IntKind.wrap_i64]; have := HP3.out.a.q.room; omega
        have C1 : Hid (∀ m, Calls _ _ _ (w6.drewN m) _) := Lib.hid fun m => flen (w6.drewN m) qb rb r t3 (HP3.out.drewN m).a.q
        have C2 : Hid (∀ m, Calls _ _ _ (w6.drewN m) _) := Lib.hid fun m => ffree (w6.drewN m) qb rb r t3 (HP3.out.drewN m).a.q
        rw [hd] at C2
        clear hd HR
        have k1 : w6.cell? ⟨ub, 0, none⟩ = some (nm r) := HP3.out.b.cell 0 _ rfl
        have k2 : w6.cell? ⟨ub, 1, none⟩ = some (.string t3) := HP3.out.b.cell 1 _ rfl
        have d2 : ub < w6.heap.size := HP3.out.b.lt
        go_wp2_with fail
        go_quiet (first
          | (go_at_call 20; exact quiet_left (C1.out _))
          | (go_at_call 21; exact quiet_drew (C2.out _)))
        go_wp2
        go_roundg (n - (k + 1))
        case measure => omega
        case rel => exact ⟨k + 1, t3, by first | rfl | go_num, Nat.le_refl _, by omega, Lib.hid (HP3.out.drewN _)⟩
      · have CP := Lib.hid (fun w => six_at kd w hj (v := 3) rfl)
        clear hj
        have CA := Lib.hid (fun w h => fnext w qb rb r tx h num)
        have CB := Lib.hid (fun w h => rnext w ub r tx num h)
        generalize cut num tx.size = q at CA CB
        generalize rst_ tx q = t3 at CA CB
        generalize fst_ tx q = z at CA CB
        have zz : (z.toList == z.toList) = true := beq_self_eq_true _
        go_wp2_with (go_at_call 11; ((with_reducible refine (CP.out _).mono ?_); rintro e v ⟨rfl, rfl⟩))
        refine wp_region_held_drew (S := (fun w' => Below w.heap.size w w')) (by kernel_rfl) HP.out.drew.a.below (fun hHeld => ?_)
        refine' wpAnyH_take (i := 0) (oi := { dst := some 47, op := Go.Op.move (Go.Operand.tmp 5), type := 25, pos := "law.go:40", after := #[], guard := none }) (v := _) rfl (by kernel_rfl) (by kernel_rfl) (by kernel_rfl) (fun _ _ _ h => h) (Or.inl ⟨by rfl, ?hy43⟩) (by assumption) ?hr43
        case hy43 => (intro _ hSw; (try dsimp only at hSw); go_simp <;> with_reducible rfl)
        simp only [Act.put, List.setIfInBounds_toArray, List.set_cons_zero, List.set_cons_succ]
        refine' wpAnyH_take (i := 1) (oi := { dst := some 48, op := Go.Op.move (Go.Operand.tmp 1), type := 22, pos := "law.go:40", after := #[], guard := none }) (v := _) rfl (by kernel_rfl) (by kernel_rfl) (by kernel_rfl) (fun _ _ _ h => h) (Or.inl ⟨by rfl, ?hy44⟩) (by assumption) ?hr44
        case hy44 => (intro _ hSw; (try dsimp only at hSw); go_simp <;> with_reducible rfl)
        simp only [Act.put, List.setIfInBounds_toArray, List.set_cons_zero, List.set_cons_succ]
        refine' wpAnyH_take (i := 2) (oi := { dst := some 49, op := Go.Op.move (Go.Operand.tmp 7), type := 3, pos := "law.go:40", after := #[], guard := none }) (v := _) rfl (by kernel_rfl) (by kernel_rfl) (by kernel_rfl) (fun _ _ _ h => h) (Or.inl ⟨by rfl, ?hy45⟩) (by assumption) ?hr45
        case hy45 => (intro _ hSw; (try dsimp only at hSw); go_simp <;> with_reducible rfl)
        simp only [Act.put, List.setIfInBounds_toArray, List.set_cons_zero, List.set_cons_succ]
        refine' wpAnyH_take (i := 3) (oi := { dst := some 50, op := Go.Op.indexAddr 22 (Go.Operand.tmp 48) (Go.Operand.tmp 49), type := 0, pos := "law.go:40", after := #[{ on := 1, ground := Go.Ground.data }, { on := 2, ground := Go.Ground.data }], guard := none }) (v := _) rfl (by kernel_rfl) (by kernel_rfl) (by kernel_rfl) (fun _ _ _ h => h) (Or.inl ⟨by rfl, ?hy46⟩) (by assumption) ?hr46
        case hy46 => (intro _ hSw; (try dsimp only at hSw); go_simp <;> with_reducible rfl)
        simp only [Act.put, List.setIfInBounds_toArray, List.set_cons_zero, List.set_cons_succ]
        refine' wpAnyH_take (i := 4) (oi := { dst := some 51, op := Go.Op.fieldAddr 31 (Go.Operand.tmp 50) 2, type := 0, pos := "law.go:40", after := #[{ on := 3, ground := Go.Ground.data }], guard := none }) (v := _) rfl (by kernel_rfl) (by kernel_rfl) (by kernel_rfl) (fun _ _ _ h => h) (Or.inl ⟨by rfl, ?hy47⟩) (by assumption) ?hr47
        case hy47 => (intro _ hSw; (try dsimp only at hSw); go_simp <;> with_reducible rfl)
        simp only [Act.put, List.setIfInBounds_toArray, List.set_cons_zero, List.set_cons_succ]
        refine' wpAnyH_take (i := 5) (oi := { dst := some 52, op := Go.Op.load 3 (Go.Operand.tmp 51), type := 3, pos := "law.go:40", after := #[{ on := 4, ground := Go.Ground.data }], guard := none }) (v := _) rfl (by kernel_rfl) (by kernel_rfl) (by kernel_rfl) (fun _ _ _ h => h) (Or.inl ⟨by rfl, ?hy48⟩) (by assumption) ?hr48
        case hy48 => (intro _ hSw; (try dsimp only at hSw); have hc := (HW.out _ hSw).2.2; clear hSw; go_simp <;> with_reducible rfl)
        simp only [Act.put, List.setIfInBounds_toArray, List.set_cons_zero, List.set_cons_succ]
        refine' wpAnyH_take (i := 7) (oi := { dst := some 54, op := Go.Op.move (Go.Operand.tmp 6), type := 27, pos := "law.go:40", after := #[], guard := none }) (v := _) rfl (by kernel_rfl) (by kernel_rfl) (by kernel_rfl) (fun _ _ _ h => h) (Or.inl ⟨by rfl, ?hy49⟩) (by assumption) ?hr49
        case hy49 => (intro _ hSw; (try dsimp only at hSw); go_simp <;> with_reducible rfl)
        simp only [Act.put, List.setIfInBounds_toArray, List.set_cons_zero, List.set_cons_succ]
        refine' wpAnyH_take (i := 8) (oi := { dst := some 55, op := Go.Op.move (Go.Operand.tmp 1), type := 22, pos := "law.go:40", after := #[], guard := none }) (v := _) rfl (by kernel_rfl) (by kernel_rfl) (by kernel_rfl) (fun _ _ _ h => h) (Or.inl ⟨by rfl, ?hy50⟩) (by assumption) ?hr50
        case hy50 => (intro _ hSw; (try dsimp only at hSw); go_simp <;> with_reducible rfl)
        simp only [Act.put, List.setIfInBounds_toArray, List.set_cons_zero, List.set_cons_succ]
        refine' wpAnyH_take (i := 9) (oi := { dst := some 56, op := Go.Op.move (Go.Operand.tmp 7), type := 3, pos := "law.go:40", after := #[], guard := none }) (v := _) rfl (by kernel_rfl) (by kernel_rfl) (by kernel_rfl) (fun _ _ _ h => h) (Or.inl ⟨by rfl, ?hy51⟩) (by assumption) ?hr51
        case hy51 => (intro _ hSw; (try dsimp only at hSw); go_simp <;> with_reducible rfl)
        simp only [Act.put, List.setIfInBounds_toArray, List.set_cons_zero, List.set_cons_succ]
        refine' wpAnyH_take (i := 10) (oi := { dst := some 57, op := Go.Op.indexAddr 22 (Go.Operand.tmp 55) (Go.Operand.tmp 56), type := 0, pos := "law.go:40", after := #[{ on := 8, ground := Go.Ground.data }, { on := 9, ground := Go.Ground.data }], guard := none }) (v := _) rfl (by kernel_rfl) (by kernel_rfl) (by kernel_rfl) (fun _ _ _ h => h) (Or.inl ⟨by rfl, ?hy52⟩) (by assumption) ?hr52
        case hy52 => (intro _ hSw; (try dsimp only at hSw); go_simp <;> with_reducible rfl)
        simp only [Act.put, List.setIfInBounds_toArray, List.set_cons_zero, List.set_cons_succ]
        refine' wpAnyH_take (i := 11) (oi := { dst := some 58, op := Go.Op.fieldAddr 31 (Go.Operand.tmp 57) 2, type := 0, pos := "law.go:40", after := #[{ on := 10, ground := Go.Ground.data }], guard := none }) (v := _) rfl (by kernel_rfl) (by kernel_rfl) (by kernel_rfl) (fun _ _ _ h => h) (Or.inl ⟨by rfl, ?hy53⟩) (by assumption) ?hr53
        case hy53 => (intro _ hSw; (try dsimp only at hSw); go_simp <;> with_reducible rfl)
        simp only [Act.put, List.setIfInBounds_toArray, List.set_cons_zero, List.set_cons_succ]
        refine' wpAnyH_take (i := 12) (oi := { dst := some 59, op := Go.Op.load 3 (Go.Operand.tmp 58), type := 3, pos := "law.go:40", after := #[{ on := 11, ground := Go.Ground.data }], guard := none }) (v := _) rfl (by kernel_rfl) (by kernel_rfl) (by kernel_rfl) (fun _ _ _ h => h) (Or.inl ⟨by rfl, ?hy54⟩) (by assumption) ?hr54
        case hy54 => (intro _ hSw; (try dsimp only at hSw); have hc := (HW.out _ hSw).2.2; clear hSw; go_simp <;> with_reducible rfl)
        simp only [Act.put, List.setIfInBounds_toArray, List.set_cons_zero, List.set_cons_succ]
        refine wpAnyH_ready (rs := [6]) (by kernel_rfl) (by simp) ?_
        refine AllReadyH.cons (o := { dst := some 53, op := Go.Op.call { callee := Go.Callee.value (Go.Operand.func 12), args := #[Go.Operand.tmp 47, Go.Operand.tmp 52], argTypes := #[25, 3] }, type := 9, pos := "law.go:40", after := #[{ on := 0, ground := Go.Ground.data }, { on := 5, ground := Go.Ground.data }], guard := none }) rfl (fun K hK => ?_) AllReadyH.nil
        go_simp
        refine (CA.out _ HP.out.drew.a.q).mono ?_
        rintro _ w5 ⟨rfl, hq, hc⟩
        have HP2 := Lib.hid (HP.out.drew.doA hq hc)
        clear hq hc CA c0 c1 c2 CP HP
        go_wp2_with fail
        refine hK.out _ _ HP2.out.a.below (fun hNext => ?_)
        clear hK K hHeld
        have hHeld := hNext
        clear hNext
        (try simp only [Act.put, List.setIfInBounds_toArray, List.set_cons_zero, List.set_cons_succ])
        refine wpAnyH_ready (rs := [13]) (by kernel_rfl) (by simp) ?_
        refine AllReadyH.cons (o := { dst := some 60, op := Go.Op.call { callee := Go.Callee.value (Go.Operand.func 13), args := #[Go.Operand.tmp 54, Go.Operand.tmp 59], argTypes := #[27, 3] }, type := 9, pos := "law.go:40", after := #[{ on := 7, ground := Go.Ground.data }, { on := 12, ground := Go.Ground.data }, { on := 6, ground := Go.Ground.chain }], guard := none }) rfl (fun K hK => ?_) AllReadyH.nil
        go_simp
        refine (CB.out _ HP2.out.b).mono ?_
        rintro _ w6 ⟨rfl, hd⟩
        have HP3 := Lib.hid (HP2.out.doB hd)
        clear hd CB HP2
        go_wp2_with fail
        refine hK.out _ _ HP3.out.a.below (fun hNext => ?_)
        clear hK K hHeld
        have hHeld := hNext
        clear hNext
        (try simp only [Act.put, List.setIfInBounds_toArray, List.set_cons_zero, List.set_cons_succ])
        refine' wpAnyH_take (i := 14) (oi := { dst := some 61, op := Go.Op.binOp Go.BinOp.eql 9 (Go.Operand.tmp 53) (Go.Operand.tmp 60) 9, type := 4, pos := "law.go:40", after := #[{ on := 6, ground := Go.Ground.data }, { on := 13, ground := Go.Ground.data }], guard := none }) (v := _) rfl (by kernel_rfl) (by kernel_rfl) (by kernel_rfl) (fun _ _ _ h => h) (Or.inl ⟨by rfl, ?hy55⟩) (by assumption) ?hr55
        case hy55 => (intro _ hSw; (try dsimp only at hSw); go_simp <;> with_reducible rfl)
        simp only [Act.put, List.setIfInBounds_toArray, List.set_cons_zero, List.set_cons_succ]
        refine' wpAnyH_take (i := 15) (oi := { dst := some 8, op := Go.Op.assign (Go.Operand.tmp 61), type := 4, pos := "law.go:40", after := #[{ on := 14, ground := Go.Ground.data }, { on := 13, ground := Go.Ground.chain }, { on := 0, ground := Go.Ground.phase }, { on := 1, ground := Go.Ground.phase }, { on := 2, ground := Go.Ground.phase }, { on := 3, ground := Go.Ground.phase }, { on := 4, ground := Go.Ground.phase }, { on := 5, ground := Go.Ground.phase }, { on := 6, ground := Go.Ground.phase }, { on := 7, ground := Go.Ground.phase }, { on := 8, ground := Go.Ground.phase }, { on := 9, ground := Go.Ground.phase }, { on := 10, ground := Go.Ground.phase }, { on := 11, ground := Go.Ground.phase }, { on := 12, ground := Go.Ground.phase }, { on := 13, ground := Go.Ground.phase }, { on := 14, ground := Go.Ground.phase }], guard := none }) (v := _) rfl (by kernel_rfl) (by kernel_rfl) (by kernel_rfl) (fun _ _ _ h => h) (Or.inl ⟨by rfl, ?hy56⟩) (by assumption) ?hr56
        case hy56 => (intro _ hSw; (try dsimp only at hSw); go_simp <;> with_reducible rfl)
        simp only [Act.put, List.setIfInBounds_toArray, List.set_cons_zero, List.set_cons_succ]
        refine wpAnyH_done (by kernel_rfl) ?_ _
        clear hHeld
        obtain ⟨d, hd⟩ : ∃ d, r - t3.size = d := ⟨_, rfl⟩
        have vd : IntKind.i64.wrap ((r : Int) - (t3.size : Int)) = (d : Int) := by rw [IntKind.wrap_i64]; have := HP3.out.a.q.room; omega
        have C1 : Hid (∀ m, Calls _ _ _ (w6.drewN m) _) := Lib.hid fun m => flen (w6.drewN m) qb rb r t3 (HP3.out.drewN m).a.q
        have C2 : Hid (∀ m, Calls _ _ _ (w6.drewN m) _) := Lib.hid fun m => ffree (w6.drewN m) qb rb r t3 (HP3.out.drewN m).a.q
        rw [hd] at C2
        clear hd HR
        have k1 : w6.cell? ⟨ub, 0, none⟩ = some (nm r) := HP3.out.b.cell 0 _ rfl
        have k2 : w6.cell? ⟨ub, 1, none⟩ = some (.string t3) := HP3.out.b.cell 1 _ rfl
        have d2 : ub < w6.heap.size := HP3.out.b.lt
        go_wp2_with fail
        go_quiet (first
          | (go_at_call 20; exact quiet_left (C1.out _))
          | (go_at_call 21; exact quiet_drew (C2.out _)))
        go_wp2
        go_roundg (n - (k + 1))
        case measure => omega
        case rel => exact ⟨k + 1, t3, by first | rfl | go_num, Nat.le_refl _, by omega, Lib.hid (HP3.out.drewN _)⟩
      · have CP := Lib.hid (fun w => six_at kd w hj (v := 4) rfl)
        clear hj
        have CA := Lib.hid (fun w h => fpeek w qb rb r tx h num)
        have CB := Lib.hid (fun w h => rpeek w ub r tx num h)
        generalize cut num tx.size = q at CA CB
        generalize fst_ tx q = z at CA CB
        have zz : (z.toList == z.toList) = true := beq_self_eq_true _
        go_wp2_with (go_at_call 11; ((with_reducible refine (CP.out _).mono ?_); rintro e v ⟨rfl, rfl⟩))
        refine wp_region_held_drew (S := (fun w' => Below w.heap.size w w')) (by kernel_rfl) HP.out.drew.a.below (fun hHeld => ?_)
        refine' wpAnyH_take (i := 0) (oi := { dst := some 64, op := Go.Op.move (Go.Operand.tmp 5), type := 25, pos := "law.go:42", after := #[], guard := none }) (v := _) rfl (by kernel_rfl) (by kernel_rfl) (by kernel_rfl) (fun _ _ _ h => h) (Or.inl ⟨by rfl, ?hy57⟩) (by assumption) ?hr57
        case hy57 => (intro _ hSw; (try dsimp only at hSw); go_simp <;> with_reducible rfl)
        simp only [Act.put, List.setIfInBounds_toArray, List.set_cons_zero, List.set_cons_succ]
        refine' wpAnyH_take (i := 1) (oi := { dst := some 65, op := Go.Op.move (Go.Operand.tmp 1), type := 22, pos := "law.go:42", after := #[], guard := none }) (v := _) rfl (by kernel_rfl) (by kernel_rfl) (by kernel_rfl) (fun _ _ _ h => h) (Or.inl ⟨by rfl, ?hy58⟩) (by assumption) ?hr58
        case hy58 => (intro _ hSw; (try dsimp only at hSw); go_simp <;> with_reducible rfl)
        simp only [Act.put, List.setIfInBounds_toArray, List.set_cons_zero, List.set_cons_succ]
        refine' wpAnyH_take (i := 2) (oi := { dst := some 66, op := Go.Op.move (Go.Operand.tmp 7), type := 3, pos := "law.go:42", after := #[], guard := none }) (v := _) rfl (by kernel_rfl) (by kernel_rfl) (by kernel_rfl) (fun _ _ _ h => h) (Or.inl ⟨by rfl, ?hy59⟩) (by assumption) ?hr59
        case hy59 => (intro _ hSw; (try dsimp only at hSw); go_simp <;> with_reducible rfl)
        simp only [Act.put, List.setIfInBounds_toArray, List.set_cons_zero, List.set_cons_succ]
        refine' wpAnyH_take (i := 3) (oi := { dst := some 67, op := Go.Op.indexAddr 22 (Go.Operand.tmp 65) (Go.Operand.tmp 66), type := 0, pos := "law.go:42", after := #[{ on := 1, ground := Go.Ground.data }, { on := 2, ground := Go.Ground.data }], guard := none }) (v := _) rfl (by kernel_rfl) (by kernel_rfl) (by kernel_rfl) (fun _ _ _ h => h) (Or.inl ⟨by rfl, ?hy60⟩) (by assumption) ?hr60
        case hy60 => (intro _ hSw; (try dsimp only at hSw); go_simp <;> with_reducible rfl)
        simp only [Act.put, List.setIfInBounds_toArray, List.set_cons_zero, List.set_cons_succ]
        refine' wpAnyH_take (i := 4) (oi := { dst := some 68, op := Go.Op.fieldAddr 31 (Go.Operand.tmp 67) 2, type := 0, pos := "law.go:42", after := #[{ on := 3, ground := Go.Ground.data }], guard := none }) (v := _) rfl (by kernel_rfl) (by kernel_rfl) (by kernel_rfl) (fun _ _ _ h => h) (Or.inl ⟨by rfl, ?hy61⟩) (by assumption) ?hr61
        case hy61 => (intro _ hSw; (try dsimp only at hSw); go_simp <;> with_reducible rfl)
        simp only [Act.put, List.setIfInBounds_toArray, List.set_cons_zero, List.set_cons_succ]
        refine' wpAnyH_take (i := 5) (oi := { dst := some 69, op := Go.Op.load 3 (Go.Operand.tmp 68), type := 3, pos := "law.go:42", after := #[{ on := 4, ground := Go.Ground.data }], guard := none }) (v := _) rfl (by kernel_rfl) (by kernel_rfl) (by kernel_rfl) (fun _ _ _ h => h) (Or.inl ⟨by rfl, ?hy62⟩) (by assumption) ?hr62
        case hy62 => (intro _ hSw; (try dsimp only at hSw); have hc := (HW.out _ hSw).2.2; clear hSw; go_simp <;> with_reducible rfl)
        simp only [Act.put, List.setIfInBounds_toArray, List.set_cons_zero, List.set_cons_succ]
        refine' wpAnyH_take (i := 7) (oi := { dst := some 71, op := Go.Op.move (Go.Operand.tmp 6), type := 27, pos := "law.go:42", after := #[], guard := none }) (v := _) rfl (by kernel_rfl) (by kernel_rfl) (by kernel_rfl) (fun _ _ _ h => h) (Or.inl ⟨by rfl, ?hy63⟩) (by assumption) ?hr63
        case hy63 => (intro _ hSw; (try dsimp only at hSw); go_simp <;> with_reducible rfl)
        simp only [Act.put, List.setIfInBounds_toArray, List.set_cons_zero, List.set_cons_succ]
        refine' wpAnyH_take (i := 8) (oi := { dst := some 72, op := Go.Op.move (Go.Operand.tmp 1), type := 22, pos := "law.go:42", after := #[], guard := none }) (v := _) rfl (by kernel_rfl) (by kernel_rfl) (by kernel_rfl) (fun _ _ _ h => h) (Or.inl ⟨by rfl, ?hy64⟩) (by assumption) ?hr64
        case hy64 => (intro _ hSw; (try dsimp only at hSw); go_simp <;> with_reducible rfl)
        simp only [Act.put, List.setIfInBounds_toArray, List.set_cons_zero, List.set_cons_succ]
        refine' wpAnyH_take (i := 9) (oi := { dst := some 73, op := Go.Op.move (Go.Operand.tmp 7), type := 3, pos := "law.go:42", after := #[], guard := none }) (v := _) rfl (by kernel_rfl) (by kernel_rfl) (by kernel_rfl) (fun _ _ _ h => h) (Or.inl ⟨by rfl, ?hy65⟩) (by assumption) ?hr65
        case hy65 => (intro _ hSw; (try dsimp only at hSw); go_simp <;> with_reducible rfl)
        simp only [Act.put, List.setIfInBounds_toArray, List.set_cons_zero, List.set_cons_succ]
        refine' wpAnyH_take (i := 10) (oi := { dst := some 74, op := Go.Op.indexAddr 22 (Go.Operand.tmp 72) (Go.Operand.tmp 73), type := 0, pos := "law.go:42", after := #[{ on := 8, ground := Go.Ground.data }, { on := 9, ground := Go.Ground.data }], guard := none }) (v := _) rfl (by kernel_rfl) (by kernel_rfl) (by kernel_rfl) (fun _ _ _ h => h) (Or.inl ⟨by rfl, ?hy66⟩) (by assumption) ?hr66
        case hy66 => (intro _ hSw; (try dsimp only at hSw); go_simp <;> with_reducible rfl)
        simp only [Act.put, List.setIfInBounds_toArray, List.set_cons_zero, List.set_cons_succ]
        refine' wpAnyH_take (i := 11) (oi := { dst := some 75, op := Go.Op.fieldAddr 31 (Go.Operand.tmp 74) 2, type := 0, pos := "law.go:42", after := #[{ on := 10, ground := Go.Ground.data }], guard := none }) (v := _) rfl (by kernel_rfl) (by kernel_rfl) (by kernel_rfl) (fun _ _ _ h => h) (Or.inl ⟨by rfl, ?hy67⟩) (by assumption) ?hr67
        case hy67 => (intro _ hSw; (try dsimp only at hSw); go_simp <;> with_reducible rfl)
        simp only [Act.put, List.setIfInBounds_toArray, List.set_cons_zero, List.set_cons_succ]
        refine' wpAnyH_take (i := 12) (oi := { dst := some 76, op := Go.Op.load 3 (Go.Operand.tmp 75), type := 3, pos := "law.go:42", after := #[{ on := 11, ground := Go.Ground.data }], guard := none }) (v := _) rfl (by kernel_rfl) (by kernel_rfl) (by kernel_rfl) (fun _ _ _ h => h) (Or.inl ⟨by rfl, ?hy68⟩) (by assumption) ?hr68
        case hy68 => (intro _ hSw; (try dsimp only at hSw); have hc := (HW.out _ hSw).2.2; clear hSw; go_simp <;> with_reducible rfl)
        simp only [Act.put, List.setIfInBounds_toArray, List.set_cons_zero, List.set_cons_succ]
        refine wpAnyH_ready (rs := [6]) (by kernel_rfl) (by simp) ?_
        refine AllReadyH.cons (o := { dst := some 70, op := Go.Op.call { callee := Go.Callee.value (Go.Operand.func 14), args := #[Go.Operand.tmp 64, Go.Operand.tmp 69], argTypes := #[25, 3] }, type := 9, pos := "law.go:42", after := #[{ on := 0, ground := Go.Ground.data }, { on := 5, ground := Go.Ground.data }], guard := none }) rfl (fun K hK => ?_) AllReadyH.nil
        go_simp
        refine (CA.out _ HP.out.drew.a.q).mono ?_
        rintro _ w5 ⟨rfl, hb⟩
        have HP2 := Lib.hid (HP.out.drew.on hb)
        clear hb CA c0 c1 c2 CP HP
        go_wp2_with fail
        refine hK.out _ _ HP2.out.a.below (fun hNext => ?_)
        clear hK K hHeld
        have hHeld := hNext
        clear hNext
        (try simp only [Act.put, List.setIfInBounds_toArray, List.set_cons_zero, List.set_cons_succ])
        refine wpAnyH_ready (rs := [13]) (by kernel_rfl) (by simp) ?_
        refine AllReadyH.cons (o := { dst := some 77, op := Go.Op.call { callee := Go.Callee.value (Go.Operand.func 15), args := #[Go.Operand.tmp 71, Go.Operand.tmp 76], argTypes := #[27, 3] }, type := 9, pos := "law.go:42", after := #[{ on := 7, ground := Go.Ground.data }, { on := 12, ground := Go.Ground.data }, { on := 6, ground := Go.Ground.chain }], guard := none }) rfl (fun K hK => ?_) AllReadyH.nil
        go_simp
        refine (CB.out _ HP2.out.b).mono ?_
        rintro _ w6 ⟨rfl, nq, rfl⟩
        have HP3 := Lib.hid (HP2.out.drewN nq)
        clear CB HP2
        generalize w5.drewN nq = w6 at HP3 ⊢
        go_wp2_with fail
        refine hK.out _ _ HP3.out.a.below (fun hNext => ?_)
        clear hK K hHeld
        have hHeld := hNext
        clear hNext
        (try simp only [Act.put, List.setIfInBounds_toArray, List.set_cons_zero, List.set_cons_succ])
        refine' wpAnyH_take (i := 14) (oi := { dst := some 78, op := Go.Op.binOp Go.BinOp.eql 9 (Go.Operand.tmp 70) (Go.Operand.tmp 77) 9, type := 4, pos := "law.go:42", after := #[{ on := 6, ground := Go.Ground.data }, { on := 13, ground := Go.Ground.data }], guard := none }) (v := _) rfl (by kernel_rfl) (by kernel_rfl) (by kernel_rfl) (fun _ _ _ h => h) (Or.inl ⟨by rfl, ?hy69⟩) (by assumption) ?hr69
        case hy69 => (intro _ hSw; (try dsimp only at hSw); go_simp <;> with_reducible rfl)
        simp only [Act.put, List.setIfInBounds_toArray, List.set_cons_zero, List.set_cons_succ]
        refine' wpAnyH_take (i := 15) (oi := { dst := some 8, op := Go.Op.assign (Go.Operand.tmp 78), type := 4, pos := "law.go:42", after := #[{ on := 14, ground := Go.Ground.data }, { on := 13, ground := Go.Ground.chain }, { on := 0, ground := Go.Ground.phase }, { on := 1, ground := Go.Ground.phase }, { on := 2, ground := Go.Ground.phase }, { on := 3, ground := Go.Ground.phase }, { on := 4, ground := Go.Ground.phase }, { on := 5, ground := Go.Ground.phase }, { on := 6, ground := Go.Ground.phase }, { on := 7, ground := Go.Ground.phase }, { on := 8, ground := Go.Ground.phase }, { on := 9, ground := Go.Ground.phase }, { on := 10, ground := Go.Ground.phase }, { on := 11, ground := Go.Ground.phase }, { on := 12, ground := Go.Ground.phase }, { on := 13, ground := Go.Ground.phase }, { on := 14, ground := Go.Ground.phase }], guard := none }) (v := _) rfl (by kernel_rfl) (by kernel_rfl) (by kernel_rfl) (fun _ _ _ h => h) (Or.inl ⟨by rfl, ?hy70⟩) (by assumption) ?hr70
        case hy70 => (intro _ hSw; (try dsimp only at hSw); go_simp <;> with_reducible rfl)
        simp only [Act.put, List.setIfInBounds_toArray, List.set_cons_zero, List.set_cons_succ]
        refine wpAnyH_done (by kernel_rfl) ?_ _
        clear hHeld
        obtain ⟨d, hd⟩ : ∃ d, r - tx.size = d := ⟨_, rfl⟩
        have vd : IntKind.i64.wrap ((r : Int) - (tx.size : Int)) = (d : Int) := by rw [IntKind.wrap_i64]; have := HP3.out.a.q.room; omega
        have C1 : Hid (∀ m, Calls _ _ _ (w6.drewN m) _) := Lib.hid fun m => flen (w6.drewN m) qb rb r tx (HP3.out.drewN m).a.q
        have C2 : Hid (∀ m, Calls _ _ _ (w6.drewN m) _) := Lib.hid fun m => ffree (w6.drewN m) qb rb r tx (HP3.out.drewN m).a.q
        rw [hd] at C2
        clear hd HR
        have k1 : w6.cell? ⟨ub, 0, none⟩ = some (nm r) := HP3.out.b.cell 0 _ rfl
        have k2 : w6.cell? ⟨ub, 1, none⟩ = some (.string tx) := HP3.out.b.cell 1 _ rfl
        have d2 : ub < w6.heap.size := HP3.out.b.lt
        go_wp2_with fail
        go_quiet (first
          | (go_at_call 20; exact quiet_left (C1.out _))
          | (go_at_call 21; exact quiet_drew (C2.out _)))
        go_wp2
        go_roundg (n - (k + 1))
        case measure => omega
        case rel => exact ⟨k + 1, tx, by first | rfl | go_num, Nat.le_refl _, by omega, Lib.hid (HP3.out.drewN _)⟩
      · have CP := Lib.hid (fun w => six_at kd w hj (v := 5) rfl)
        clear hj
        obtain ⟨md, hmd⟩ : ∃ x, num.tmod 3 = x := ⟨_, rfl⟩
        have hmd2 : IntKind.i64.wrap md = md := by rw [IntKind.wrap_i64]; have := Int.tmod_lt_of_pos num (show (0 : Int) < 3 by decide); have := Int.lt_tmod_of_pos num (show (0 : Int) < 3 by decide); omega
        by_cases h3 : md = 0
        · have m1 : (md != 0) = false := by rw [h3]; rfl
          have CA := Lib.hid (fun w h => fclear w qb rb r tx h)
          have CB := Lib.hid (fun w h => rclear w ub r tx h)
          generalize tx.size = z at CA CB
          have zz : ((z : Int) == (z : Int)) = true := beq_self_eq_true _
          have HM := Lib.hid h3
          clear h3
          go_wp2_with (go_at_call 11; ((with_reducible refine (CP.out _).mono ?_); rintro e v ⟨rfl, rfl⟩))
          refine (CA.out _ HP.out.a.q).mono ?_
          rintro _ w5 ⟨rfl, hq, hc⟩
          have HP2 := Lib.hid (HP.out.doA hq hc)
          clear hq hc CA c0 c1 c2 CP HP
          go_wp2_with fail
          refine (CB.out _ HP2.out.b).mono ?_
          rintro _ w6 ⟨rfl, hd⟩
          have HP3 := Lib.hid (HP2.out.doB hd)
          clear hd CB HP2
          obtain ⟨t3, ht3⟩ : ∃ x : ByteArray, ⟨#[]⟩ = x := ⟨_, rfl⟩
          rw [ht3] at HP3
          clear ht3
          obtain ⟨d, hd⟩ : ∃ d, r - t3.size = d := ⟨_, rfl⟩
          have vd : IntKind.i64.wrap ((r : Int) - (t3.size : Int)) = (d : Int) := by rw [IntKind.wrap_i64]; have := HP3.out.a.q.room; omega
          have C1 : Hid (∀ m, Calls _ _ _ (w6.drewN m) _) := Lib.hid fun m => flen (w6.drewN m) qb rb r t3 (HP3.out.drewN m).a.q
          have C2 : Hid (∀ m, Calls _ _ _ (w6.drewN m) _) := Lib.hid fun m => ffree (w6.drewN m) qb rb r t3 (HP3.out.drewN m).a.q
          rw [hd] at C2
          clear hd HR
          have k1 : w6.cell? ⟨ub, 0, none⟩ = some (nm r) := HP3.out.b.cell 0 _ rfl
          have k2 : w6.cell? ⟨ub, 1, none⟩ = some (.string t3) := HP3.out.b.cell 1 _ rfl
          have d2 : ub < w6.heap.size := HP3.out.b.lt
          go_wp2_with fail
          go_quiet (first
            | (go_at_call 20; exact quiet_left (C1.out _))
            | (go_at_call 21; exact quiet_drew (C2.out _)))
          go_wp2
          go_roundg (n - (k + 1))
          case measure => omega
          case rel => exact ⟨k + 1, t3, by first | rfl | go_num, Nat.le_refl _, by omega, Lib.hid (HP3.out.drewN _)⟩
        · have m1 : (md != 0) = true := by simpa using h3
          have HM := Lib.hid h3
          clear h3
          go_wp2_with (go_at_call 11; ((with_reducible refine (CP.out _).mono ?_); rintro e v ⟨rfl, rfl⟩))
          have HP3 := HP
          clear HP CP c0 c1 c2
          generalize wr = w6 at HP3 ⊢
          obtain ⟨d, hd⟩ : ∃ d, r - tx.size = d := ⟨_, rfl⟩
          have vd : IntKind.i64.wrap ((r : Int) - (tx.size : Int)) = (d : Int) := by rw [IntKind.wrap_i64]; have := HP3.out.a.q.room; omega
          have C1 : Hid (∀ m, Calls _ _ _ (w6.drewN m) _) := Lib.hid fun m => flen (w6.drewN m) qb rb r tx (HP3.out.drewN m).a.q
          have C2 : Hid (∀ m, Calls _ _ _ (w6.drewN m) _) := Lib.hid fun m => ffree (w6.drewN m) qb rb r tx (HP3.out.drewN m).a.q
          rw [hd] at C2
          clear hd HR
          have k1 : w6.cell? ⟨ub, 0, none⟩ = some (nm r) := HP3.out.b.cell 0 _ rfl
          have k2 : w6.cell? ⟨ub, 1, none⟩ = some (.string tx) := HP3.out.b.cell 1 _ rfl
          have d2 : ub < w6.heap.size := HP3.out.b.lt
          go_quiet (first
            | (go_at_call 20; exact quiet_left (C1.out _))
            | (go_at_call 21; exact quiet_drew (C2.out _)))
          go_wp2
          go_roundg (n - (k + 1))
          case measure => omega
          case rel => exact ⟨k + 1, tx, by first | rfl | go_num, Nat.le_refl _, by omega, Lib.hid (HP3.out.drewN _)⟩
    · have t1 : decide ((k : Int) < (n : Int)) = false := decide_eq_false (by omega)
      have t2 : ¬ (k : Int) < (n : Int) := by omega
      have HR := Lib.hid HP.out.a.q.room
      have CA := Lib.hid (fun w h => fpeek_at (t := tx) (qb := qb) (rb := rb) (r := r) w h 5000 tx.size (by have := HR.out; unfold cut; omega) tx (fst_all tx (Nat.le_refl _)))
      have zz : (tx.toList == tx.toList) = true := beq_self_eq_true _
      go_wp2_with fail
      refine wp_region_held_drew (S := (fun w' => Below w.heap.size w w' ∧ w'.cell? ⟨ub, 1, none⟩ = some (.string tx) ∧ ub < w'.heap.size)) (by kernel_rfl) ⟨HP.out.drew.a.below, HP.out.drew.b.cell 1 _ rfl, HP.out.drew.b.lt⟩ (fun hHeld => ?_)
      refine' wpAnyH_take (i := 0) (oi := { dst := some 122, op := Go.Op.move (Go.Operand.tmp 5), type := 25, pos := "law.go:52", after := #[], guard := none }) (v := _) rfl (by kernel_rfl) (by kernel_rfl) (by kernel_rfl) (fun _ _ _ h => h) (Or.inl ⟨by rfl, ?hy71⟩) (by assumption) ?hr71
      case hy71 => (intro _ hSw; (try dsimp only at hSw); go_simp <;> with_reducible rfl)
      simp only [Act.put, List.setIfInBounds_toArray, List.set_cons_zero, List.set_cons_succ]
      refine' wpAnyH_take (i := 2) (oi := { dst := some 124, op := Go.Op.move (Go.Operand.tmp 6), type := 27, pos := "law.go:52", after := #[], guard := none }) (v := _) rfl (by kernel_rfl) (by kernel_rfl) (by kernel_rfl) (fun _ _ _ h => h) (Or.inl ⟨by rfl, ?hy72⟩) (by assumption) ?hr72
      case hy72 => (intro _ hSw; (try dsimp only at hSw); go_simp <;> with_reducible rfl)
      simp only [Act.put, List.setIfInBounds_toArray, List.set_cons_zero, List.set_cons_succ]
      refine' wpAnyH_take (i := 3) (oi := { dst := some 125, op := Go.Op.nilCheck (Go.Operand.tmp 124), type := 0, pos := "law.go:52", after := #[{ on := 2, ground := Go.Ground.data }], guard := none }) (v := _) rfl (by kernel_rfl) (by kernel_rfl) (by kernel_rfl) (fun _ _ _ h => h) (Or.inl ⟨by rfl, ?hy73⟩) (by assumption) ?hr73
      case hy73 => (intro _ hSw; (try dsimp only at hSw); have hc1 := hSw.2.2; go_simp <;> with_reducible rfl)
      simp only [Act.put, List.setIfInBounds_toArray, List.set_cons_zero, List.set_cons_succ]
      refine' wpAnyH_take (i := 4) (oi := { dst := some 126, op := Go.Op.fieldAddr 36 (Go.Operand.tmp 125) 1, type := 0, pos := "law.go:52", after := #[{ on := 3, ground := Go.Ground.data }], guard := none }) (v := _) rfl (by kernel_rfl) (by kernel_rfl) (by kernel_rfl) (fun _ _ _ h => h) (Or.inl ⟨by rfl, ?hy74⟩) (by assumption) ?hr74
      case hy74 => (intro _ hSw; (try dsimp only at hSw); have hc1 := hSw.2.2; go_simp <;> with_reducible rfl)
      simp only [Act.put, List.setIfInBounds_toArray, List.set_cons_zero, List.set_cons_succ]
      refine' wpAnyH_take (i := 5) (oi := { dst := some 127, op := Go.Op.load 9 (Go.Operand.tmp 126), type := 9, pos := "law.go:52", after := #[{ on := 4, ground := Go.Ground.data }], guard := none }) (v := _) rfl (by kernel_rfl) (by kernel_rfl) (by kernel_rfl) (fun _ _ _ h => h) (Or.inl ⟨by rfl, ?hy75⟩) (by assumption) ?hr75
      case hy75 => (intro _ hSw; (try dsimp only at hSw); have hc1 := hSw.2.1; go_simp <;> with_reducible rfl)
      simp only [Act.put, List.setIfInBounds_toArray, List.set_cons_zero, List.set_cons_succ]
      refine wpAnyH_ready (rs := [1]) (by kernel_rfl) (by simp) ?_
      refine AllReadyH.cons (o := { dst := some 123, op := Go.Op.call { callee := Go.Callee.value (Go.Operand.func 14), args := #[Go.Operand.tmp 122, Go.Operand.const (Go.Value.int Go.IntKind.i64 5000)], argTypes := #[25, 3] }, type := 9, pos := "law.go:52", after := #[{ on := 0, ground := Go.Ground.data }], guard := none }) rfl (fun K hK => ?_) AllReadyH.nil
      go_simp
      refine (CA.out _ HP.out.drew.a.q).mono ?_
      rintro _ w5 ⟨rfl, hb⟩
      have HP2 := Lib.hid (HP.out.drew.on hb)
      clear hb CA HP
      go_wp2_with fail
      refine hK.out _ _ ⟨HP2.out.a.below, HP2.out.b.cell 1 _ rfl, HP2.out.b.lt⟩ (fun hNext => ?_)
      clear hK K hHeld
      have hHeld := hNext
      clear hNext
      (try simp only [Act.put, List.setIfInBounds_toArray, List.set_cons_zero, List.set_cons_succ])
      refine' wpAnyH_take (i := 6) (oi := { dst := some 128, op := Go.Op.binOp Go.BinOp.eql 9 (Go.Operand.tmp 123) (Go.Operand.tmp 127) 9, type := 4, pos := "law.go:52", after := #[{ on := 1, ground := Go.Ground.data }, { on := 5, ground := Go.Ground.data }], guard := none }) (v := _) rfl (by kernel_rfl) (by kernel_rfl) (by kernel_rfl) (fun _ _ _ h => h) (Or.inl ⟨by rfl, ?hy76⟩) (by assumption) ?hr76
      case hy76 => (intro _ hSw; (try dsimp only at hSw); go_simp <;> with_reducible rfl)
      simp only [Act.put, List.setIfInBounds_toArray, List.set_cons_zero, List.set_cons_succ]
      refine' wpAnyH_take (i := 7) (oi := { dst := some 129, op := Go.Op.move (Go.Operand.tmp 128), type := 4, pos := "law.go:52", after := #[{ on := 6, ground := Go.Ground.data }, { on := 1, ground := Go.Ground.chain }], guard := none }) (v := _) rfl (by kernel_rfl) (by kernel_rfl) (by kernel_rfl) (fun _ _ _ h => h) (Or.inl ⟨by rfl, ?hy77⟩) (by assumption) ?hr77
      case hy77 => (intro _ hSw; (try dsimp only at hSw); go_simp <;> with_reducible rfl)
      simp only [Act.put, List.setIfInBounds_toArray, List.set_cons_zero, List.set_cons_succ]
      refine wpAnyH_ready (rs := [8]) (by kernel_rfl) (by simp) ?_
      refine AllReadyH.cons (o := { dst := some 130, op := Go.Op.call { callee := Go.Callee.value (Go.Operand.func 8), args := #[], argTypes := #[] }, type := 4, pos := "law.go:52", after := #[{ on := 7, ground := Go.Ground.chain }, { on := 7, ground := Go.Ground.guard }], guard := some (7, true) }) rfl (fun K hK => ?_) AllReadyH.nil
      go_simp
      refine (CW.out _).mono ?_
      rintro _ w6 ⟨rfl, hb⟩
      have HP3 := Lib.hid (HP2.out.on hb)
      clear hb CW HP2
      go_wp2_with fail
      refine hK.out _ _ ⟨HP3.out.a.below, HP3.out.b.cell 1 _ rfl, HP3.out.b.lt⟩ (fun hNext => ?_)
      clear hK K hHeld
      have hHeld := hNext
      clear hNext
      (try simp only [Act.put, List.setIfInBounds_toArray, List.set_cons_zero, List.set_cons_succ])
      refine' wpAnyH_take (i := 9) (oi := { dst := some 131, op := Go.Op.pick (Go.Operand.tmp 129) (Go.Operand.tmp 130) (Go.Operand.const (Go.Value.bool false)), type := 4, pos := "law.go:52", after := #[{ on := 7, ground := Go.Ground.data }, { on := 8, ground := Go.Ground.data }], guard := none }) (v := _) rfl (by kernel_rfl) (by kernel_rfl) (by kernel_rfl) (fun _ _ _ h => h) (Or.inl ⟨by rfl, ?hy78⟩) (by assumption) ?hr78
      case hy78 => (intro _ hSw; (try dsimp only at hSw); go_simp <;> with_reducible rfl)
      simp only [Act.put, List.setIfInBounds_toArray, List.set_cons_zero, List.set_cons_succ]
      refine' wpAnyH_take (i := 10) (oi := { dst := some 4, op := Go.Op.assign (Go.Operand.tmp 131), type := 4, pos := "law.go:52", after := #[{ on := 9, ground := Go.Ground.data }, { on := 8, ground := Go.Ground.chain }, { on := 0, ground := Go.Ground.phase }, { on := 1, ground := Go.Ground.phase }, { on := 2, ground := Go.Ground.phase }, { on := 3, ground := Go.Ground.phase }, { on := 4, ground := Go.Ground.phase }, { on := 5, ground := Go.Ground.phase }, { on := 6, ground := Go.Ground.phase }, { on := 7, ground := Go.Ground.phase }, { on := 8, ground := Go.Ground.phase }, { on := 9, ground := Go.Ground.phase }], guard := none }) (v := _) rfl (by kernel_rfl) (by kernel_rfl) (by kernel_rfl) (fun _ _ _ h => h) (Or.inl ⟨by rfl, ?hy79⟩) (by assumption) ?hr79
      case hy79 => (intro _ hSw; (try dsimp only at hSw); go_simp <;> with_reducible rfl)
      simp only [Act.put, List.setIfInBounds_toArray, List.set_cons_zero, List.set_cons_succ]
      refine wpAnyH_done (by kernel_rfl) ?_ _
      clear hHeld
      go_wp2
      go_ret
      exact ⟨rfl, HPB.out ▸ HP3.out.a.below⟩
theorem law (rm : Int) (_ : -9223372036854775808 ≤ rm ∧ rm ≤ 9223372036854775807) (oa : Option Addr) (n cap : Nat) (F : Nat → Ct) (hn : n ≤ maxLen) (w : World) (hA : ArgS 3 cc CFit w oa n F) :
    Calls Try.prog 3 #[im rm, .slice oa n cap] w fun e w' => e = .returned (.bool true) ∧ Below w.heap.size w w' := all rm oa n cap F hn w hA
end Go.Proofs.Ythocanbbonikiaa.queuePlays
