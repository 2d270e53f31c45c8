/-
  MsgsGets answers true for everything, and turns nothing that was there. Condition: the table of the types lies where the program lays it.
-/
import Derived.Test.YtffahjlboakakaaDoorMsgsSlice
import Derived.Test.YtffahjlboakakaaDoorMsgsWorks
import Derived.Test.YtffahjlboakakaaDoorMsgsFref
namespace Go.Proofs.YtffahjlboakakaaDoor.msgsGets
open Go.RowKit Go.Proofs.YtffahjlboakakaaDoor.Base Go.Proofs.YtffahjlboakakaaDoor.Mem Go.Proofs.YtffahjlboakakaaDoor.Msgs
set_option maxRecDepth 100000
/-- What each round of the outer loop begins with. -/
structure At (R : List Ms) (w : World) (u : Value) (wr : World) : Prop where
  own : OwnS 36 20 ml wr w.heap.size u R
  base : Below w.heap.size w wr
/-- What each round of the inner loop begins with. -/
structure In (R : List Ms) (w w0 : World) (u v : Value) (k : Nat) (wr : World) (cur : List Ms) : Prop where
  at_ : At R w u wr
  own : OwnS 27 20 ml wr w0.heap.size v cur
  len : cur.length = R.length
  rest : ∀ i, k ≤ i → cur[i]? = R[i]?
theorem At.on {R : List Ms} {w : World} {u : Value} {a b : World} (h : At R w u a) (hb : Below a.heap.size a b) : At R w u b := ⟨h.own.below hb, below_on h.base hb⟩
theorem In.on {R : List Ms} {w w0 : World} {u v : Value} {k : Nat} {a b : World} {cur : List Ms} (h : In R w w0 u v k a cur) (hb : Below a.heap.size a b) : In R w w0 u v k b cur := ⟨h.at_.on hb, h.own.below hb, h.len, h.rest⟩
/-- A round of the inner loop: the element is written over. -/
theorem In.step {R : List Ms} {w w0 wr wa : World} {u : Value} {k gv n cap : Nat} {cur : List Ms} (h : In R w w0 u (.slice (some ⟨gv, 0, none⟩) n cap) k wr cur) (ho : OwnS 27 20 ml wa w0.heap.size (.slice (some ⟨gv, 0, none⟩) n cap) (cur.set k zero)) (M : Mod gv wr wa) (hw : w.heap.size ≤ gv) (hu : ∀ i, u.ownBlock = some i → i ≠ gv) :
    In R w w0 u (.slice (some ⟨gv, 0, none⟩) n cap) (k + 1) wa (cur.set k zero) := by
  refine ⟨⟨own_mod h.at_.own M hu, M.below h.at_.base hw⟩, ho, by rw [List.length_set]; exact h.len, fun i hi => ?_⟩
  rw [List.getElem?_set_ne (by omega)]
  exact h.rest i (by omega)
theorem law_far (s : ByteArray) (h : 500 < s.size) (w : World) (ht : Tab w) :
    Calls Tryd.prog 4 #[.string s] w fun e w' => e = .returned (.bool true) ∧ Below w.heap.size w w' := by
  have HT := Lib.hid ht
  clear ht
  go_enter Tryd.func4, Tryd.ntmps4
  go_wp2_with (first
    | (go_at_call 7; ((with_reducible refine (works _ HT.out).mono ?_); rintro e w2 ⟨rfl, hb⟩; have HB := Lib.hid hb; clear hb)))
  go_ret
  exact ⟨rfl, HB.out⟩
set_option maxHeartbeats 1000000 in
theorem law (s : ByteArray) (hs : s.size ≤ maxLen) (w : World) (ht : Tab w) :
    Calls Tryd.prog 4 #[.string s] w fun e w' => e = .returned (.bool true) ∧ Below w.heap.size w w' := by
  unfold maxLen at hs
  by_cases h : 500 < s.size
  · exact law_far s h w ht
  have HT := Lib.hid ht
  have CG := Lib.hid (fun w h' => fget s (by omega) w h')
  have CRG := Lib.hid (fun w => rget s (by omega) w)
  have CA := Lib.hid (fun w h' => fall s (by omega) w h')
  have CR := Lib.hid (fun w => rall s (by omega) w)
  unfold AllEnds at CA CR
  have CF := Lib.hid (fun m w => fref m w)
  have CW := Lib.hid (fun w h => works w h)
  have hR := all_len s
  rcases hA : all s with ⟨R, M⟩
  rw [hA] at CA CR hR
  rcases hG : got s with ⟨gm, gn, ge⟩
  rw [hG] at CG CRG
  dsimp only at CG CRG CA CR hR
  have hR2 : R.length ≤ 500 := Nat.le_trans hR (by omega)
  have HN := fun m w => (run_neR m m w).trans (by rw [eqM_self]; rfl : _ = Result.ok (Value.bool false) w)
  have HNg := HN gm
  replace HN := Lib.hid HN
  clear hA hR hG ht
  go_enter Tryd.func4, Tryd.ntmps4
  go_wp2_with (first
    | (go_at_call 15; ((with_reducible refine (CG.out _ HT.out).mono ?_); rintro e w1 ⟨rfl, hb⟩; have HB := Lib.hid hb; clear hb))
    | ((with_reducible refine alm zeroM ?_); intro b3 w2 h F0; have H3 := Lib.hid h; have L3 := Lib.hid (F0.le HB.out); replace HB := Lib.hid (F0.on HB.out); clear h F0)
    | ((with_reducible refine stm (m := gm) isM H3.out ?hx ?hy ?_); (case hx => rfl); (case hy => rfl); intro w3 h M; replace H3 := Lib.hid h; replace HB := Lib.hid (M.below HB.out L3.out); clear h M)
    | (go_at_call 16; ((with_reducible refine (CRG.out _).mono ?_); rintro e w4 ⟨rfl, hb⟩; replace H3 := Lib.hid (stays H3.out hb); replace HB := Lib.hid (below_on HB.out hb); clear hb))
    | ((with_reducible refine alm zeroR ?_); intro b6 w5 h F0; have N36 := Lib.hid (F0.ne H3.out); replace H3 := Lib.hid (F0.stays H3.out); have H6 := Lib.hid h; have L6 := Lib.hid (F0.le HB.out); replace HB := Lib.hid (F0.on HB.out); clear h F0)
    | ((with_reducible refine stm (m := gm) isR H6.out ?hx ?hy ?_); (case hx => rfl); (case hy => rfl); intro wx h M; replace H3 := Lib.hid (M.other N36.out H3.out); replace H6 := Lib.hid h; replace HB := Lib.hid (M.below HB.out L6.out); clear h M))
  refine wp_region_held_drew (S := fun w' => Below wx.heap.size wx w') (by kernel_rfl) (Below.refl _ _).drew (fun hHeld => ?_)
  refine' wpAnyH_take (i := 0) (oi := { dst := some 31, op := Go.Op.load 27 (Go.Operand.tmp 3), type := 27, pos := "law.go:37", after := #[], guard := none }) (v := _) rfl (by kernel_rfl) (by kernel_rfl) (by kernel_rfl) (fun _ _ _ h => h) (Or.inl ⟨by rfl, ?hy1⟩) (by assumption) ?hr1
  case hy1 => (intro _ hSw; (try dsimp only at hSw); refine ex_ld isM (stays H3.out hSw) ?_; rfl)
  simp only [Act.put, List.setIfInBounds_toArray, List.set_cons_zero, List.set_cons_succ]
  refine' wpAnyH_take (i := 2) (oi := { dst := some 33, op := Go.Op.load 36 (Go.Operand.tmp 6), type := 36, pos := "law.go:37", after := #[], guard := none }) (v := _) rfl (by kernel_rfl) (by kernel_rfl) (by kernel_rfl) (fun _ _ _ h => h) (Or.inl ⟨by rfl, ?hy2⟩) (by assumption) ?hr2
  case hy2 => (intro _ hSw; (try dsimp only at hSw); refine ex_ld isR (stays H6.out hSw) ?_; rfl)
  simp only [Act.put, List.setIfInBounds_toArray, List.set_cons_zero, List.set_cons_succ]
  refine wpAnyH_ready (rs := [1]) (by kernel_rfl) (by simp) ?_
  refine AllReadyH.cons (o := { dst := some 32, op := Go.Op.call { callee := Go.Callee.value (Go.Operand.func 10), args := #[Go.Operand.tmp 31], argTypes := #[27] }, type := 36, pos := "law.go:37", after := #[{ on := 0, ground := Go.Ground.data }], guard := none }) rfl (fun K hK => ?_) AllReadyH.nil
  go_simp
  (with_reducible refine (CF.out _ _).mono ?_)
  rintro e wc ⟨rfl, hb⟩
  go_wp2_with fail
  refine hK.out _ _ (below_on hHeld hb) (fun hNext => ?_)
  clear hK K hHeld hb
  have hHeld := hNext
  clear hNext
  (try simp only [Act.put, List.setIfInBounds_toArray, List.set_cons_zero, List.set_cons_succ])
  refine' wpAnyH_take (i := 3) (oi := { dst := some 34, op := Go.Op.binOp Go.BinOp.neq 36 (Go.Operand.tmp 32) (Go.Operand.tmp 33) 36, type := 4, pos := "law.go:37", after := #[{ on := 1, ground := Go.Ground.data }, { on := 2, ground := Go.Ground.data }], guard := none }) (v := _) rfl (by kernel_rfl) (by kernel_rfl) (by kernel_rfl) (fun _ _ _ h => h) (Or.inl ⟨by rfl, ?hy3⟩) (by assumption) ?hr3
  case hy3 => (intro _ hSw; (try dsimp only at hSw); go_simp <;> with_reducible rfl)
  simp only [Act.put, List.setIfInBounds_toArray, List.set_cons_zero, List.set_cons_succ]
  refine' wpAnyH_take (i := 4) (oi := { dst := some 35, op := Go.Op.move (Go.Operand.tmp 34), type := 4, pos := "law.go:37", after := #[{ on := 3, ground := Go.Ground.data }, { on := 1, ground := Go.Ground.chain }], guard := none }) (v := _) rfl (by kernel_rfl) (by kernel_rfl) (by kernel_rfl) (fun _ _ _ h => h) (Or.inl ⟨by rfl, ?hy4⟩) (by assumption) ?hr4
  case hy4 => (intro _ hSw; (try dsimp only at hSw); go_simp <;> with_reducible rfl)
  simp only [Act.put, List.setIfInBounds_toArray, List.set_cons_zero, List.set_cons_succ]
  refine' wpAnyH_take (i := 5) (oi := { dst := some 36, op := Go.Op.move (Go.Operand.tmp 4), type := 3, pos := "law.go:37", after := #[{ on := 4, ground := Go.Ground.guard }], guard := some (4, false) }) (v := _) rfl (by kernel_rfl) (by kernel_rfl) (by kernel_rfl) (fun _ _ _ h => h) (Or.inl ⟨by rfl, ?hy5⟩) (by assumption) ?hr5
  case hy5 => (intro _ hSw; (try dsimp only at hSw); go_simp <;> with_reducible rfl)
  simp only [Act.put, List.setIfInBounds_toArray, List.set_cons_zero, List.set_cons_succ]
  refine' wpAnyH_take (i := 6) (oi := { dst := some 37, op := Go.Op.move (Go.Operand.tmp 7), type := 3, pos := "law.go:37", after := #[{ on := 4, ground := Go.Ground.guard }], guard := some (4, false) }) (v := _) rfl (by kernel_rfl) (by kernel_rfl) (by kernel_rfl) (fun _ _ _ h => h) (Or.inl ⟨by rfl, ?hy6⟩) (by assumption) ?hr6
  case hy6 => (intro _ hSw; (try dsimp only at hSw); go_simp <;> with_reducible rfl)
  simp only [Act.put, List.setIfInBounds_toArray, List.set_cons_zero, List.set_cons_succ]
  refine' wpAnyH_take (i := 7) (oi := { dst := some 38, op := Go.Op.binOp Go.BinOp.neq 3 (Go.Operand.tmp 36) (Go.Operand.tmp 37) 3, type := 4, pos := "law.go:37", after := #[{ on := 5, ground := Go.Ground.data }, { on := 6, ground := Go.Ground.data }, { on := 4, ground := Go.Ground.guard }], guard := some (4, false) }) (v := _) rfl (by kernel_rfl) (by kernel_rfl) (by kernel_rfl) (fun _ _ _ h => h) (Or.inl ⟨by rfl, ?hy7⟩) (by assumption) ?hr7
  case hy7 => (intro _ hSw; (try dsimp only at hSw); go_simp <;> with_reducible rfl)
  simp only [Act.put, List.setIfInBounds_toArray, List.set_cons_zero, List.set_cons_succ]
  refine' wpAnyH_take (i := 8) (oi := { dst := some 39, op := Go.Op.pick (Go.Operand.tmp 35) (Go.Operand.const (Go.Value.bool true)) (Go.Operand.tmp 38), type := 4, pos := "law.go:37", after := #[{ on := 4, ground := Go.Ground.data }, { on := 7, ground := Go.Ground.data }], guard := none }) (v := _) rfl (by kernel_rfl) (by kernel_rfl) (by kernel_rfl) (fun _ _ _ h => h) (Or.inl ⟨by rfl, ?hy8⟩) (by assumption) ?hr8
  case hy8 => (intro _ hSw; (try dsimp only at hSw); go_simp <;> with_reducible rfl)
  simp only [Act.put, List.setIfInBounds_toArray, List.set_cons_zero, List.set_cons_succ]
  refine' wpAnyH_take (i := 9) (oi := { dst := some 40, op := Go.Op.move (Go.Operand.tmp 39), type := 4, pos := "law.go:37", after := #[{ on := 8, ground := Go.Ground.data }, { on := 4, ground := Go.Ground.chain }], guard := none }) (v := _) rfl (by kernel_rfl) (by kernel_rfl) (by kernel_rfl) (fun _ _ _ h => h) (Or.inl ⟨by rfl, ?hy9⟩) (by assumption) ?hr9
  case hy9 => (intro _ hSw; (try dsimp only at hSw); go_simp <;> with_reducible rfl)
  simp only [Act.put, List.setIfInBounds_toArray, List.set_cons_zero, List.set_cons_succ]
  refine' wpAnyH_take (i := 10) (oi := { dst := some 41, op := Go.Op.move (Go.Operand.tmp 5), type := 29, pos := "law.go:37", after := #[{ on := 9, ground := Go.Ground.guard }], guard := some (9, false) }) (v := _) rfl (by kernel_rfl) (by kernel_rfl) (by kernel_rfl) (fun _ _ _ h => h) (Or.inl ⟨by rfl, ?hy10⟩) (by assumption) ?hr10
  case hy10 => (intro _ hSw; (try dsimp only at hSw); go_simp <;> with_reducible rfl)
  simp only [Act.put, List.setIfInBounds_toArray, List.set_cons_zero, List.set_cons_succ]
  refine' wpAnyH_take (i := 11) (oi := { dst := some 42, op := Go.Op.move (Go.Operand.tmp 8), type := 29, pos := "law.go:37", after := #[{ on := 9, ground := Go.Ground.guard }], guard := some (9, false) }) (v := _) rfl (by kernel_rfl) (by kernel_rfl) (by kernel_rfl) (fun _ _ _ h => h) (Or.inl ⟨by rfl, ?hy11⟩) (by assumption) ?hr11
  case hy11 => (intro _ hSw; (try dsimp only at hSw); go_simp <;> with_reducible rfl)
  simp only [Act.put, List.setIfInBounds_toArray, List.set_cons_zero, List.set_cons_succ]
  refine' wpAnyH_take (i := 12) (oi := { dst := some 43, op := Go.Op.binOp Go.BinOp.neq 29 (Go.Operand.tmp 41) (Go.Operand.tmp 42) 29, type := 4, pos := "law.go:37", after := #[{ on := 10, ground := Go.Ground.data }, { on := 11, ground := Go.Ground.data }, { on := 9, ground := Go.Ground.guard }], guard := some (9, false) }) (v := _) rfl (by kernel_rfl) (by kernel_rfl) (by kernel_rfl) (fun _ _ _ h => h) (Or.inl ⟨by rfl, ?hy12⟩) (by assumption) ?hr12
  case hy12 => (intro _ hSw; (try dsimp only at hSw); go_simp <;> with_reducible rfl)
  simp only [Act.put, List.setIfInBounds_toArray, List.set_cons_zero, List.set_cons_succ]
  refine' wpAnyH_take (i := 13) (oi := { dst := some 44, op := Go.Op.pick (Go.Operand.tmp 40) (Go.Operand.const (Go.Value.bool true)) (Go.Operand.tmp 43), type := 4, pos := "law.go:37", after := #[{ on := 9, ground := Go.Ground.data }, { on := 12, ground := Go.Ground.data }], guard := none }) (v := _) rfl (by kernel_rfl) (by kernel_rfl) (by kernel_rfl) (fun _ _ _ h => h) (Or.inl ⟨by rfl, ?hy13⟩) (by assumption) ?hr13
  case hy13 => (intro _ hSw; (try dsimp only at hSw); go_simp <;> with_reducible rfl)
  simp only [Act.put, List.setIfInBounds_toArray, List.set_cons_zero, List.set_cons_succ]
  refine wpAnyH_done (by kernel_rfl) ?_ _
  replace HB := Lib.hid (below_on HB.out hHeld)
  clear hHeld HNg H3 H6 L3 L6 N36
  go_wp2_with (first
    | (go_at_call 17; ((with_reducible refine (CR.out _).mono ?_); rintro e w6 ⟨u, rfl, hu, hb⟩; have HU := Lib.hid (⟨hu, hb⟩ : At R _ u w6); clear hu hb)))
  obtain ⟨ua, ucap, rfl⟩ := own_slice HU.out.own
  go_loopw [11] (fun t wr => ∃ k : Nat, k ≤ 2 ∧ t = .int .i64 (k : Int) ∧ Hid (At R wc (.slice ua R.length ucap) wr)) (fun t _ => 2 - (intOf t).toNat)
  case atStart => exact ⟨0, by decide, rfl, HU⟩
  case round =>
    obtain ⟨k, hk, rfl, HR⟩ := hrel
    by_cases hlt : k < 2
    · have hd : decide ((k : Int) < 2) = true := by simp; omega
      obtain ⟨wv, rfl⟩ : ∃ wv : World, wv = wr := ⟨_, rfl⟩
      go_wp2_with (first
        | (go_at_call 18; ((with_reducible refine (CA.out _ (tab_below HT.out (below_on HB.out HR.out.base))).mono ?_); rintro e w7 ⟨v, rfl, hv, hb⟩; obtain ⟨va, vcap, rfl⟩ := own_slice hv; have HV := Lib.hid (⟨HR.out.on hb, hv, rfl, fun _ _ => rfl⟩ : In R wc wv _ _ 0 w7 R); clear hb hv)))
      go_loopw [14] (fun i wr => ∃ (j : Nat) (cur : List Ms), j ≤ R.length ∧ i = .int .i64 (j : Int) ∧ Hid (In R wc wv (.slice ua R.length ucap) (.slice va R.length vcap) j wr cur)) (fun i _ => R.length - (intOf i).toNat)
      case atStart => exact ⟨0, R, Nat.zero_le _, rfl, HV⟩
      case round =>
        obtain ⟨j, cur, hj, rfl, HI⟩ := hrel
        by_cases hjl : j < R.length
        · obtain ⟨gv, rfl, hgv⟩ := own_some HI.out.own (by rw [HI.out.len]; omega)
          obtain ⟨gu, rfl, hgu⟩ := own_some HI.out.at_.own (by omega)
          obtain ⟨x, hx2⟩ : ∃ x, R[j]? = some x := ⟨_, List.getElem?_eq_getElem hjl⟩
          have hx1 : cur[j]? = some x := (HI.out.rest j (Nat.le_refl _)).trans hx2
          have j0 : (0 : Int) ≤ (j : Int) := by omega
          have j1 : (j : Int) < (R.length : Int) := by omega
          have HNx := HN.out x
          go_wp2_with (fail)
          refine wp_region_held_drew (S := fun w' => Below wr.heap.size wr w') (by kernel_rfl) (Below.refl _ _).drew (fun hHeld => ?_)
          refine' wpAnyH_take (i := 0) (oi := { dst := some 75, op := Go.Op.move (Go.Operand.tmp 12), type := 49, pos := "law.go:47", after := #[], guard := none }) (v := _) rfl (by kernel_rfl) (by kernel_rfl) (by kernel_rfl) (fun _ _ _ h => h) (Or.inl ⟨by rfl, ?hy14⟩) (by assumption) ?hr14
          case hy14 => (intro _ hSw; (try dsimp only at hSw); go_simp <;> with_reducible rfl)
          simp only [Act.put, List.setIfInBounds_toArray, List.set_cons_zero, List.set_cons_succ]
          refine' wpAnyH_take (i := 1) (oi := { dst := some 76, op := Go.Op.move (Go.Operand.tmp 14), type := 3, pos := "law.go:47", after := #[], guard := none }) (v := _) rfl (by kernel_rfl) (by kernel_rfl) (by kernel_rfl) (fun _ _ _ h => h) (Or.inl ⟨by rfl, ?hy15⟩) (by assumption) ?hr15
          case hy15 => (intro _ hSw; (try dsimp only at hSw); go_simp <;> with_reducible rfl)
          simp only [Act.put, List.setIfInBounds_toArray, List.set_cons_zero, List.set_cons_succ]
          refine' wpAnyH_take (i := 2) (oi := { dst := some 77, op := Go.Op.indexAddr 49 (Go.Operand.tmp 75) (Go.Operand.tmp 76), type := 0, pos := "law.go:47", after := #[{ on := 0, ground := Go.Ground.data }, { on := 1, ground := Go.Ground.data }], guard := none }) (v := _) rfl (by kernel_rfl) (by kernel_rfl) (by kernel_rfl) (fun _ _ _ h => h) (Or.inl ⟨by rfl, ?hy16⟩) (by assumption) ?hr16
          case hy16 => (intro _ hSw; (try dsimp only at hSw); go_simp <;> with_reducible rfl)
          simp only [Act.put, List.setIfInBounds_toArray, List.set_cons_zero, List.set_cons_succ]
          refine' wpAnyH_take (i := 3) (oi := { dst := some 78, op := Go.Op.load 27 (Go.Operand.tmp 77), type := 27, pos := "law.go:47", after := #[{ on := 2, ground := Go.Ground.data }], guard := none }) (v := _) rfl (by kernel_rfl) (by kernel_rfl) (by kernel_rfl) (fun _ _ _ h => h) (Or.inl ⟨by rfl, ?hy17⟩) (by assumption) ?hr17
          case hy17 => (intro _ hSw; (try dsimp only at hSw); refine ex_ldr isM (own_range (HI.out.own.below hSw) j x hx1) ?_; rfl)
          simp only [Act.put, List.setIfInBounds_toArray, List.set_cons_zero, List.set_cons_succ]
          refine' wpAnyH_take (i := 5) (oi := { dst := some 80, op := Go.Op.move (Go.Operand.tmp 9), type := 46, pos := "law.go:47", after := #[], guard := none }) (v := _) rfl (by kernel_rfl) (by kernel_rfl) (by kernel_rfl) (fun _ _ _ h => h) (Or.inl ⟨by rfl, ?hy18⟩) (by assumption) ?hr18
          case hy18 => (intro _ hSw; (try dsimp only at hSw); go_simp <;> with_reducible rfl)
          simp only [Act.put, List.setIfInBounds_toArray, List.set_cons_zero, List.set_cons_succ]
          refine' wpAnyH_take (i := 6) (oi := { dst := some 81, op := Go.Op.move (Go.Operand.tmp 14), type := 3, pos := "law.go:47", after := #[], guard := none }) (v := _) rfl (by kernel_rfl) (by kernel_rfl) (by kernel_rfl) (fun _ _ _ h => h) (Or.inl ⟨by rfl, ?hy19⟩) (by assumption) ?hr19
          case hy19 => (intro _ hSw; (try dsimp only at hSw); go_simp <;> with_reducible rfl)
          simp only [Act.put, List.setIfInBounds_toArray, List.set_cons_zero, List.set_cons_succ]
          refine' wpAnyH_take (i := 7) (oi := { dst := some 82, op := Go.Op.indexAddr 46 (Go.Operand.tmp 80) (Go.Operand.tmp 81), type := 0, pos := "law.go:47", after := #[{ on := 5, ground := Go.Ground.data }, { on := 6, ground := Go.Ground.data }], guard := none }) (v := _) rfl (by kernel_rfl) (by kernel_rfl) (by kernel_rfl) (fun _ _ _ h => h) (Or.inl ⟨by rfl, ?hy20⟩) (by assumption) ?hr20
          case hy20 => (intro _ hSw; (try dsimp only at hSw); go_simp <;> with_reducible rfl)
          simp only [Act.put, List.setIfInBounds_toArray, List.set_cons_zero, List.set_cons_succ]
          refine' wpAnyH_take (i := 8) (oi := { dst := some 83, op := Go.Op.load 36 (Go.Operand.tmp 82), type := 36, pos := "law.go:47", after := #[{ on := 7, ground := Go.Ground.data }], guard := none }) (v := _) rfl (by kernel_rfl) (by kernel_rfl) (by kernel_rfl) (fun _ _ _ h => h) (Or.inl ⟨by rfl, ?hy21⟩) (by assumption) ?hr21
          case hy21 => (intro _ hSw; (try dsimp only at hSw); refine ex_ldr isR (own_range (HI.out.at_.own.below hSw) j x hx2) ?_; rfl)
          simp only [Act.put, List.setIfInBounds_toArray, List.set_cons_zero, List.set_cons_succ]
          refine wpAnyH_ready (rs := [4]) (by kernel_rfl) (by simp) ?_
          refine AllReadyH.cons (o := { dst := some 79, op := Go.Op.call { callee := Go.Callee.value (Go.Operand.func 10), args := #[Go.Operand.tmp 78], argTypes := #[27] }, type := 36, pos := "law.go:47", after := #[{ on := 3, ground := Go.Ground.data }], guard := none }) rfl (fun K hK => ?_) AllReadyH.nil
          go_simp
          (with_reducible refine (CF.out _ _).mono ?_)
          rintro e wc ⟨rfl, hb⟩
          go_wp2_with fail
          refine hK.out _ _ (below_on hHeld hb) (fun hNext => ?_)
          clear hK K hHeld hb
          have hHeld := hNext
          clear hNext
          (try simp only [Act.put, List.setIfInBounds_toArray, List.set_cons_zero, List.set_cons_succ])
          refine' wpAnyH_take (i := 9) (oi := { dst := some 84, op := Go.Op.binOp Go.BinOp.neq 36 (Go.Operand.tmp 79) (Go.Operand.tmp 83) 36, type := 4, pos := "law.go:47", after := #[{ on := 4, ground := Go.Ground.data }, { on := 8, ground := Go.Ground.data }], guard := none }) (v := _) rfl (by kernel_rfl) (by kernel_rfl) (by kernel_rfl) (fun _ _ _ h => h) (Or.inl ⟨by rfl, ?hy22⟩) (by assumption) ?hr22
          case hy22 => (intro _ hSw; (try dsimp only at hSw); go_simp <;> with_reducible rfl)
          simp only [Act.put, List.setIfInBounds_toArray, List.set_cons_zero, List.set_cons_succ]
          refine wpAnyH_done (by kernel_rfl) ?_ _
          have HI2 := Lib.hid (HI.out.on hHeld)
          have hne : gu ≠ gv := by have h1 := (HR.out.own.lt gu rfl).2; have h2 := hgv; omega
          clear hHeld
          go_wp2_with (first
            | ((with_reducible refine bdm (T := 27) zero ?hb ?_); (case hb => kernel_rfl))
            | ((with_reducible refine sto (i := j) (m := zero) isM HI2.out.own ?hi ?hx ?hy ?_); (case hi => (rw [HI.out.len]; exact hjl)); (case hx => rfl); (case hy => rfl); intro w9 ho M9; have HI3 := Lib.hid (HI2.out.step ho M9 (by have h3 := HR.out.base.size; omega) (fun i hi => by cases hi; exact hne)); clear ho M9))
          go_roundw
          case rel => exact ⟨j + 1, _, by omega, by go_num, HI3⟩
          case measure => simp [intOf]; omega
        · go_wp2
          go_roundw
          case rel => exact ⟨k + 1, by omega, by go_num, Lib.hid HI.out.at_⟩
          case measure => simp [intOf]; omega
    · go_wp2_with (first
      | (go_at_call 7; ((with_reducible refine (CW.out _ (tab_below HT.out (below_on HB.out HR.out.base))).mono ?_); rintro e w8 ⟨rfl, hb⟩; have HB8 := Lib.hid (below_on (below_on HB.out HR.out.base) hb); clear hb)))
      go_ret
      exact ⟨rfl, HB8.out⟩
end Go.Proofs.YtffahjlboakakaaDoor.msgsGets
