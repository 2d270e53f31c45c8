/-
  Layer 22, put together: CtlPcl (what each says stands ahead of it). Conditions: as each names them.
-/
import Derived.Test.YtakkhdammmcjcaaDoorB12
import Derived.Handy
/-
  The program's closures: which command is the same, which one a response means; what makes them. No condition.
-/
namespace Go.Proofs.YtakkhdammmcjcaaDoor.Ctl
open Go.RowKit Go.Proofs.YtakkhdammmcjcaaDoor.Base Go.Proofs.YtakkhdammmcjcaaDoor.Mem Go.Proofs.YtakkhdammmcjcaaDoor.Msgs Go.Proofs.YtakkhdammmcjcaaDoor.Cr
set_option maxRecDepth 100000
section
variable {ops : Array Oper} {rest : List Oper} {a : Act} {Q : Exit → Act → World → Prop} {d : Option Tmp} {x y : Operand} {ty : TypeId} {pos : String} {af : Array Edge} {w : World} {m : Ms} {T : Nat}
/-- A guarded load of a message that is wanted, from wherever it lies. -/
theorem ldrg {g : Option (Nat × Bool)} {b o : Nat} (hT : IsRow T 20) (h : w.rangeAt b o (ml m)) (hg : Region.wanted { dst := d, op := .load T x, type := ty, pos := pos, after := af, guard := g } (yielded ops a.tmps) = true) (hx : a.eval x = .pointer (some ⟨b, o, none⟩)) (k : wpList Tryd.prog ops Q rest (a.put d (mv m)) w) :
    wpList Tryd.prog ops Q ({ dst := d, op := .load T x, type := ty, pos := pos, after := af, guard := g } :: rest) a w :=
  wpList_step fun K hK => by
    rw [if_pos hg]
    obtain ⟨fs, hu⟩ := hT.under
    exact wp_load_mid T x rfl b o hx _ _ h hu rfl hT.size (by rw [ml_arr]; exact hK _ _ k)
end
theorem lt_cell {w : World} {b i : Nat} {v : Value} (h : w.cell? ⟨b, i, none⟩ = some v) : b < w.heap.size := World.block_lt_of_cell? w ⟨b, i, none⟩ h
section
variable {w : World} {br bm bf : Nat} {r m : Ms} {y : Ms}
set_option maxHeartbeats 2000000 in
theorem fmean1 (hy : y.In) (hr : w.heap[br]? = some (mO r MT)) (ht : Tab w) : Calls Tryd.prog 71 #[mv y, ptr br] w fun e w' => e = .returned (.bool (oct y == r.t)) ∧ Below w.heap.size w w' := by
  have CO := fun w h => foctet y hy w h
  have e2 := nn_beq (oct y) r.t
  have HR := Lib.hid hr
  have HT := Lib.hid ht
  generalize oct y = o at CO e2 ⊢
  generalize (o == r.t) = q at e2 ⊢
  have CO := Lib.hid CO
  clear hy hr ht
  go_enter Tryd.func71, Tryd.ntmps71
  go_wp2_with ((with_reducible refine bxm (m := y) ?hx ?_); (case hx => rfl); intro b2 wx h F; have HR2 := Lib.hid (F.stays HR.out); have H2 := Lib.hid h; have HB := Lib.hid F.below; have HTX := Lib.hid (tab_below HT.out F.below); clear h F)
  refine wp_region_held_drew (S := (fun w' => Below wx.heap.size wx w')) (by kernel_rfl) (Below.refl _ _).drew (fun hHeld => ?_)
  refine' wpAnyH_take (i := 0) (oi := { dst := some 4, op := Go.Op.load 35 (Go.Operand.tmp 2), type := 35, pos := "ctl.go:206", after := #[], guard := none }) (v := _) rfl (by kernel_rfl) (by kernel_rfl) (by kernel_rfl) (fun _ _ _ h => h) (Or.inl ⟨by rfl, ?hy1⟩) (by assumption) ?hr1
  case hy1 => (intro _ hSw; (try dsimp only at hSw); refine ex_ld isM (stays H2.out hSw) ?_; rfl)
  simp only [Act.put, List.setIfInBounds_toArray, List.set_cons_zero, List.set_cons_succ]
  refine' wpAnyH_take (i := 2) (oi := { dst := some 6, op := Go.Op.fieldAddr 35 (Go.Operand.tmp 1) 4, type := 0, pos := "ctl.go:206", after := #[], guard := none }) (v := _) rfl (by kernel_rfl) (by kernel_rfl) (by kernel_rfl) (fun _ _ _ h => h) (Or.inl ⟨by rfl, ?hy2⟩) (by assumption) ?hr2
  case hy2 => (intro _ hSw; (try dsimp only at hSw); go_simp <;> with_reducible rfl)
  simp only [Act.put, List.setIfInBounds_toArray, List.set_cons_zero, List.set_cons_succ]
  refine' wpAnyH_take (i := 3) (oi := { dst := some 7, op := Go.Op.load 5 (Go.Operand.tmp 6), type := 5, pos := "ctl.go:206", after := #[{ on := 2, ground := Go.Ground.data }], guard := none }) (v := _) rfl (by kernel_rfl) (by kernel_rfl) (by kernel_rfl) (fun _ _ _ h => h) (Or.inl ⟨by rfl, ?hy3⟩) (by assumption) ?hr3
  case hy3 => (intro _ hSw; (try dsimp only at hSw); have c3 := (lay (stays HR2.out hSw)).2.2.2.2.1; go_simp <;> with_reducible rfl)
  simp only [Act.put, List.setIfInBounds_toArray, List.set_cons_zero, List.set_cons_succ]
  refine wpAnyH_ready (rs := [1]) (by kernel_rfl) (by simp) ?_
  refine AllReadyH.cons (o := { dst := some 5, op := Go.Op.call { callee := Go.Callee.value (Go.Operand.func 45), args := #[Go.Operand.tmp 4], argTypes := #[35] }, type := 5, pos := "ctl.go:206", after := #[{ on := 0, ground := Go.Ground.data }], guard := none }) rfl (fun K hK => ?_) AllReadyH.nil
  go_simp
  (with_reducible refine (CO.out _ (tab_below HTX.out hHeld)).mono ?_)
  rintro e wc ⟨rfl, hb⟩
  go_wp2_with fail
  refine hK.out _ _ (below_on hHeld hb) (fun hNext => ?_)
  clear hK K hHeld hb
  have hHeld := hNext
  clear hNext
  (try simp only [Act.put, List.setIfInBounds_toArray, List.set_cons_zero, List.set_cons_succ])
  refine' wpAnyH_take (i := 4) (oi := { dst := some 8, op := Go.Op.binOp Go.BinOp.eql 5 (Go.Operand.tmp 5) (Go.Operand.tmp 7) 5, type := 4, pos := "ctl.go:206", after := #[{ on := 1, ground := Go.Ground.data }, { on := 3, ground := Go.Ground.data }], guard := none }) (v := _) rfl (by kernel_rfl) (by kernel_rfl) (by kernel_rfl) (fun _ _ _ h => h) (Or.inl ⟨by rfl, ?hy4⟩) (by assumption) ?hr4
  case hy4 => (intro _ hSw; (try dsimp only at hSw); go_simp <;> with_reducible rfl)
  simp only [Act.put, List.setIfInBounds_toArray, List.set_cons_zero, List.set_cons_succ]
  refine' wpAnyH_take (i := 5) (oi := { dst := some 3, op := Go.Op.assign (Go.Operand.tmp 8), type := 4, pos := "ctl.go:206", after := #[{ on := 4, ground := Go.Ground.data }, { on := 1, ground := Go.Ground.chain }, { on := 0, ground := Go.Ground.phase }, { on := 1, ground := Go.Ground.phase }, { on := 2, ground := Go.Ground.phase }, { on := 3, ground := Go.Ground.phase }, { on := 4, ground := Go.Ground.phase }], guard := none }) (v := _) rfl (by kernel_rfl) (by kernel_rfl) (by kernel_rfl) (fun _ _ _ h => h) (Or.inl ⟨by rfl, ?hy5⟩) (by assumption) ?hr5
  case hy5 => (intro _ hSw; (try dsimp only at hSw); go_simp <;> with_reducible rfl)
  simp only [Act.put, List.setIfInBounds_toArray, List.set_cons_zero, List.set_cons_succ]
  refine wpAnyH_done (by kernel_rfl) ?_ _
  have HY9 := Lib.hid hHeld
  clear hHeld
  go_wp2
  go_ret
  exact ⟨rfl, below_on HB.out HY9.out⟩
set_option maxHeartbeats 2000000 in
theorem fmean2 (hy : y.In) (hri : r.In) (hr : w.heap[br]? = some (mO r MT)) : Calls Tryd.prog 72 #[mv y, ptr br] w fun e w' => e = .returned (.bool (same y r && ans r y)) ∧ Below w.heap.size w w' := by
  have cs := fun w => fsame y r hy hri w
  have CA := Lib.hid (fun w => fanswers r y w)
  have HR := Lib.hid hr
  generalize ans r y = q at CA ⊢
  clear hy hri hr
  cases hs : same y r with
  | true =>
    rw [hs] at cs
    have CS := Lib.hid cs
    rw [Bool.true_and]
    clear hs cs
    go_enter Tryd.func72, Tryd.ntmps72
    go_wp2_with (first
      | ((with_reducible refine bxm (m := y) ?hx ?_); (case hx => rfl); intro b2 wx h F; have HR2 := Lib.hid (F.stays HR.out); have H2 := Lib.hid h; have HB := Lib.hid F.below; clear h F)
      | ((with_reducible refine ldm isM H2.out ?hx ?_); (case hx => rfl))
      | ((with_reducible refine ldm isM HR2.out ?hx ?_); (case hx => rfl))
      | (go_at_call 22; ((with_reducible refine (CS.out _).mono ?_); rintro e w3 ⟨rfl, hb⟩; replace H2 := Lib.hid (stays H2.out hb); replace HR2 := Lib.hid (stays HR2.out hb); replace HB := Lib.hid (below_on HB.out hb); clear hb))
      | ((with_reducible refine ldmg isM HR2.out ?hg ?hx ?_); (case hg => rfl); (case hx => rfl))
      | ((with_reducible refine ldmg isM H2.out ?hg ?hx ?_); (case hg => rfl); (case hx => rfl))
      | (go_at_call 73; ((with_reducible refine (CA.out _).mono ?_); rintro e w4 ⟨rfl, hb⟩; replace HB := Lib.hid (below_on HB.out hb); clear hb)))
    go_ret
    exact ⟨rfl, HB.out⟩
  | false =>
    rw [hs] at cs
    have CS := Lib.hid cs
    rw [Bool.false_and]
    clear hs cs
    go_enter Tryd.func72, Tryd.ntmps72
    go_wp2_with (first
      | ((with_reducible refine bxm (m := y) ?hx ?_); (case hx => rfl); intro b2 wx h F; have HR2 := Lib.hid (F.stays HR.out); have H2 := Lib.hid h; have HB := Lib.hid F.below; clear h F)
      | ((with_reducible refine ldm isM H2.out ?hx ?_); (case hx => rfl))
      | ((with_reducible refine ldm isM HR2.out ?hx ?_); (case hx => rfl))
      | (go_at_call 22; ((with_reducible refine (CS.out _).mono ?_); rintro e w3 ⟨rfl, hb⟩; replace H2 := Lib.hid (stays H2.out hb); replace HR2 := Lib.hid (stays HR2.out hb); replace HB := Lib.hid (below_on HB.out hb); clear hb))
      | ((with_reducible refine ldmg isM HR2.out ?hg ?hx ?_); (case hg => rfl); (case hx => rfl))
      | ((with_reducible refine ldmg isM H2.out ?hg ?hx ?_); (case hg => rfl); (case hx => rfl))
      | (go_at_call 73; ((with_reducible refine (CA.out _).mono ?_); rintro e w4 ⟨rfl, hb⟩; replace HB := Lib.hid (below_on HB.out hb); clear hb)))
    go_ret
    exact ⟨rfl, HB.out⟩
end
section
variable {w : World} {br bm bf : Nat} {r m : Ms} {y : Wt}
theorem fask1 (hy : y.m.In) (hm : m.In) (h : w.heap[bm]? = some (mO m MT)) : Calls Tryd.prog 21 #[kv y, ptr bm] w fun e w' => e = .returned (.bool (same y.m m)) ∧ Below w.heap.size w w' := by
  have CS := Lib.hid (fun w => fsame y.m m hy hm w)
  have HM := Lib.hid h
  generalize same y.m m = q at CS ⊢
  clear hy hm h
  go_enter Tryd.func21, Tryd.ntmps21
  go_wp2_with (first
    | ((with_reducible refine bxz (kc y) ?hx ?_); (case hx => rfl); intro b2 wx h F; have HB := Lib.hid F.below; have HK := Lib.hid h; have HM2 := Lib.hid (F.stays HM.out); clear h F)
    | ((with_reducible refine ldr isM (kz_m HK.out) ?hx ?_); (case hx => rfl))
    | ((with_reducible refine ldm isM HM2.out ?hx ?_); (case hx => rfl))
    | (go_at_call 22; ((with_reducible refine (CS.out _).mono ?_); rintro e w3 ⟨rfl, hb⟩; replace HB := Lib.hid (below_on HB.out hb); clear hb)))
  go_ret
  exact ⟨rfl, HB.out⟩
def said (y : Wt) : Bool := decide (0 < y.lf) || decide (0 < y.tr)
abbrev fM1 (br : Nat) : Value := .func (.func 71) #[] #[ptr br]
abbrev fM2 (br : Nat) : Value := .func (.func 72) #[] #[ptr br]
set_option maxHeartbeats 2000000 in
theorem fhr1 (hy : y.m.In) (hc : w.cell? ⟨bf, 0, none⟩ = some (fM1 br)) (hm : w.heap[br]? = some (mO r MT)) (ht : Tab w) : Calls Tryd.prog 55 #[kv y, ptr bf] w fun e w' => e = .returned (.bool (said y && (oct y.m == r.t))) ∧ Below w.heap.size w w' := by
  have cw := fun w => fsaid y w
  have CM := Lib.hid (fun (w : World) h ht => fmean1 (w := w) (br := br) (r := r) hy h ht)
  have HC := Lib.hid hc
  have HM := Lib.hid hm
  have HT := Lib.hid ht
  have hbf := Lib.hid (lt_cell hc)
  generalize (oct y.m == r.t) = q at CM ⊢
  unfold said
  clear hy hc hm ht
  cases hs : (decide (0 < y.lf) || decide (0 < y.tr)) with
  | true =>
    rw [hs] at cw
    have CW := Lib.hid cw
    rw [Bool.true_and]
    clear hs cw
    go_enter Tryd.func55, Tryd.ntmps55
    go_wp2_with (first
      | ((with_reducible refine bxz (kc y) ?hx ?_); (case hx => rfl); intro b2 wx h F; have HB := Lib.hid F.below; have HK := Lib.hid h; have HM2 := Lib.hid (F.stays HM.out); have HC2 := Lib.hid ((F.below.cell (p := ⟨bf, 0, none⟩) hbf.out).trans HC.out); have HT2 := Lib.hid (tab_below HT.out F.below); clear h F)
      | ((with_reducible refine ldz isK (kz_row HK.out) ?hz ?hx ?_); (case hz => rfl); (case hx => rfl))
      | (go_at_call 56; ((with_reducible refine (CW.out _).mono ?_); rintro e w3 ⟨rfl, hb⟩; replace HB := Lib.hid (below_on HB.out hb); replace HK := Lib.hid (stays HK.out hb); replace HM2 := Lib.hid (stays HM2.out hb); have c0 := (hb.cell (p := ⟨bf, 0, none⟩) (lt_cell HC2.out)).trans HC2.out; replace HT2 := Lib.hid (tab_below HT2.out hb); clear hb))
      | ((with_reducible refine ldrg (m := y.m) isM (kz_m HK.out) ?hg ?hx ?_); (case hg => rfl); (case hx => rfl))
      | (go_at_call 71; ((with_reducible refine (CM.out _ HM2.out HT2.out).mono ?_); rintro e w4 ⟨rfl, hb⟩; replace HB := Lib.hid (below_on HB.out hb); clear hb)))
    go_ret
    exact ⟨rfl, HB.out⟩
  | false =>
    rw [hs] at cw
    have CW := Lib.hid cw
    rw [Bool.false_and]
    clear hs cw
    go_enter Tryd.func55, Tryd.ntmps55
    go_wp2_with (first
      | ((with_reducible refine bxz (kc y) ?hx ?_); (case hx => rfl); intro b2 wx h F; have HB := Lib.hid F.below; have HK := Lib.hid h; have HM2 := Lib.hid (F.stays HM.out); have HC2 := Lib.hid ((F.below.cell (p := ⟨bf, 0, none⟩) hbf.out).trans HC.out); have HT2 := Lib.hid (tab_below HT.out F.below); clear h F)
      | ((with_reducible refine ldz isK (kz_row HK.out) ?hz ?hx ?_); (case hz => rfl); (case hx => rfl))
      | (go_at_call 56; ((with_reducible refine (CW.out _).mono ?_); rintro e w3 ⟨rfl, hb⟩; replace HB := Lib.hid (below_on HB.out hb); replace HK := Lib.hid (stays HK.out hb); replace HM2 := Lib.hid (stays HM2.out hb); have c0 := (hb.cell (p := ⟨bf, 0, none⟩) (lt_cell HC2.out)).trans HC2.out; replace HT2 := Lib.hid (tab_below HT2.out hb); clear hb))
      | ((with_reducible refine ldrg (m := y.m) isM (kz_m HK.out) ?hg ?hx ?_); (case hg => rfl); (case hx => rfl))
      | (go_at_call 71; ((with_reducible refine (CM.out _ HM2.out HT2.out).mono ?_); rintro e w4 ⟨rfl, hb⟩; replace HB := Lib.hid (below_on HB.out hb); clear hb)))
    go_ret
    exact ⟨rfl, HB.out⟩
set_option maxHeartbeats 2000000 in
theorem fhr2 (hy : y.m.In) (hri : r.In) (hc : w.cell? ⟨bf, 0, none⟩ = some (fM2 br)) (hm : w.heap[br]? = some (mO r MT)) : Calls Tryd.prog 55 #[kv y, ptr bf] w fun e w' => e = .returned (.bool (said y && (same y.m r && ans r y.m))) ∧ Below w.heap.size w w' := by
  have cw := fun w => fsaid y w
  have CM := Lib.hid (fun (w : World) h => fmean2 (w := w) (br := br) (r := r) hy hri h)
  have HC := Lib.hid hc
  have HM := Lib.hid hm
  have hbf := Lib.hid (lt_cell hc)
  generalize (same y.m r && ans r y.m) = q at CM ⊢
  unfold said
  clear hy hc hm hri
  cases hs : (decide (0 < y.lf) || decide (0 < y.tr)) with
  | true =>
    rw [hs] at cw
    have CW := Lib.hid cw
    rw [Bool.true_and]
    clear hs cw
    go_enter Tryd.func55, Tryd.ntmps55
    go_wp2_with (first
      | ((with_reducible refine bxz (kc y) ?hx ?_); (case hx => rfl); intro b2 wx h F; have HB := Lib.hid F.below; have HK := Lib.hid h; have HM2 := Lib.hid (F.stays HM.out); have HC2 := Lib.hid ((F.below.cell (p := ⟨bf, 0, none⟩) hbf.out).trans HC.out); clear h F)
      | ((with_reducible refine ldz isK (kz_row HK.out) ?hz ?hx ?_); (case hz => rfl); (case hx => rfl))
      | (go_at_call 56; ((with_reducible refine (CW.out _).mono ?_); rintro e w3 ⟨rfl, hb⟩; replace HB := Lib.hid (below_on HB.out hb); replace HK := Lib.hid (stays HK.out hb); replace HM2 := Lib.hid (stays HM2.out hb); have c0 := (hb.cell (p := ⟨bf, 0, none⟩) (lt_cell HC2.out)).trans HC2.out; clear hb))
      | ((with_reducible refine ldrg (m := y.m) isM (kz_m HK.out) ?hg ?hx ?_); (case hg => rfl); (case hx => rfl))
      | (go_at_call 72; ((with_reducible refine (CM.out _ HM2.out).mono ?_); rintro e w4 ⟨rfl, hb⟩; replace HB := Lib.hid (below_on HB.out hb); clear hb)))
    go_ret
    exact ⟨rfl, HB.out⟩
  | false =>
    rw [hs] at cw
    have CW := Lib.hid cw
    rw [Bool.false_and]
    clear hs cw
    go_enter Tryd.func55, Tryd.ntmps55
    go_wp2_with (first
      | ((with_reducible refine bxz (kc y) ?hx ?_); (case hx => rfl); intro b2 wx h F; have HB := Lib.hid F.below; have HK := Lib.hid h; have HM2 := Lib.hid (F.stays HM.out); have HC2 := Lib.hid ((F.below.cell (p := ⟨bf, 0, none⟩) hbf.out).trans HC.out); clear h F)
      | ((with_reducible refine ldz isK (kz_row HK.out) ?hz ?hx ?_); (case hz => rfl); (case hx => rfl))
      | (go_at_call 56; ((with_reducible refine (CW.out _).mono ?_); rintro e w3 ⟨rfl, hb⟩; replace HB := Lib.hid (below_on HB.out hb); replace HK := Lib.hid (stays HK.out hb); replace HM2 := Lib.hid (stays HM2.out hb); have c0 := (hb.cell (p := ⟨bf, 0, none⟩) (lt_cell HC2.out)).trans HC2.out; clear hb))
      | ((with_reducible refine ldrg (m := y.m) isM (kz_m HK.out) ?hg ?hx ?_); (case hg => rfl); (case hx => rfl))
      | (go_at_call 72; ((with_reducible refine (CM.out _ HM2.out).mono ?_); rintro e w4 ⟨rfl, hb⟩; replace HB := Lib.hid (below_on HB.out hb); clear hb)))
    go_ret
    exact ⟨rfl, HB.out⟩
end
theorem fmeaning1 (r : Ms) (hk : r.k = 7) (w : World) : Calls Tryd.prog 54 #[mv r] w fun e w' => ∃ b, e = .returned (fM1 b) ∧ w'.heap[b]? = some (mO r MT) ∧ Below w.heap.size w w' := by
  have t1 : ((r.k : Int) == 7) = true := by rw [hk]; rfl
  clear hk
  go_enter Tryd.func54, Tryd.ntmps54
  go_wp2_with ((with_reducible refine bxm (m := r) ?hx ?_); (case hx => rfl); intro b2 wx h F; have H2 := Lib.hid h; have HB := Lib.hid F.below; obtain ⟨c0, c1, c2, c3, c4, c5⟩ := lay h; clear h F)
  go_ret
  exact ⟨b2, rfl, H2.out, HB.out⟩
theorem fmeaning2 (r : Ms) (hk : r.k ≠ 7) (w : World) : Calls Tryd.prog 54 #[mv r] w fun e w' => ∃ b, e = .returned (fM2 b) ∧ w'.heap[b]? = some (mO r MT) ∧ Below w.heap.size w w' := by
  have t1 : ((r.k : Int) == 7) = false := Mem.beq_false (by omega)
  clear hk
  go_enter Tryd.func54, Tryd.ntmps54
  go_wp2_with ((with_reducible refine bxm (m := r) ?hx ?_); (case hx => rfl); intro b2 wx h F; have H2 := Lib.hid h; have HB := Lib.hid F.below; obtain ⟨c0, c1, c2, c3, c4, c5⟩ := lay h; clear h F)
  go_ret
  exact ⟨b2, rfl, H2.out, HB.out⟩
end Go.Proofs.YtakkhdammmcjcaaDoor.Ctl
