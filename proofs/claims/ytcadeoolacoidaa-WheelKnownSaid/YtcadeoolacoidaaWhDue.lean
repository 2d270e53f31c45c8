/-
  Tick's closure: an entry that has rounds left stays, with one less; one that has none is due. No condition but that rounds are at most 65535.
-/
import Derived.Test.YtcadeoolacoidaaWhTickMem
namespace Go.Proofs.Ytcadeoolacoidaa.Wh
open Go.RowKit Go.Proofs.Ytcadeoolacoidaa.Base Go.Proofs.Ytcadeoolacoidaa.Mem
open Go.Proofs.Ytcadeoolacoidaa.Srt (wrap_nat)
theorem row1u (w : World) (k : Nat) (t : TypeId) : ∀ j, j < 1 → (w.drew.alloc (.cells #[oc k] t)).cell? ⟨w.heap.size, j, none⟩ = (ocs k)[j]? := fun j hj => by
  have : j = 0 := by omega
  subst this
  exact cell_of (nest w.drew [_] 0 _ rfl) rfl
section
variable {base pb n hand rb mb : Nat} {vs : Nat → Value} {L : Nat → List Nat} {E sl ro : Nat → Nat} {ks : List Nat} {s wb dv : Nat} {l : List Nat} {j : Nat} {D : List Nat} {v : Value} {wr w' : World}
theorem Tj.drew (h : Tj base pb n hand rb mb vs L E sl ro ks s wb dv l j D v wr) : Tj base pb n hand rb mb vs L E sl ro ks s wb dv l j D v wr.drew := by
  obtain ⟨ksj, h1, h2⟩ := h.ex
  exact ⟨⟨ksj, h1, h2.keep fun _ _ => rfl⟩, h.due, h.own, h.wbx, h.lo, h.ld, h.lw, h.sz⟩
set_option maxHeartbeats 4000000 in
set_option maxRecDepth 100000 in
theorem fdue (H : Hid (Tj base pb n hand rb mb vs L E sl ro ks s wb dv l j D v wr)) (k : Nat) (hn : l.Nodup) (hk : l[j]? = some k) (hks : k ∈ ks) (h256 : k < 256) (hro : ro k ≤ 65535) (hD : D.length ≤ 1000) :
    Calls Try.prog 24 #[ptr (E k), ptr wb, ptr dv] wr fun r w' =>
      r = .returned (.bool (decide (0 < ro k))) ∧ ∃ v', Tj base pb n hand rb mb vs L E sl ro ks s wb dv l (j + 1) (if 0 < ro k then D else D ++ [k]) v' w' ∧ Chg (fun b => b = mb ∨ b = E k ∨ b = dv ∨ base ≤ b) wr w' := by
  obtain ⟨P, hP⟩ : ∃ P : World → Prop, P = fun w' => ∃ v', Tj base pb n hand rb mb vs L E sl ro ks s wb dv l (j + 1) (if 0 < ro k then D else D ++ [k]) v' w' ∧ Chg (fun b => b = mb ∨ b = E k ∨ b = dv ∨ base ≤ b) wr w' := ⟨_, rfl⟩
  suffices hs : Calls Try.prog 24 #[ptr (E k), ptr wb, ptr dv] wr fun r w' => r = .returned (.bool (decide (0 < ro k))) ∧ P w' by rw [hP] at hs; exact hs
  obtain ⟨e, he⟩ : ∃ e, e = E k := ⟨_, rfl⟩
  obtain ⟨r, hr⟩ : ∃ r, r = ro k := ⟨_, rfl⟩
  have hec := H.out.cells hn hk hks
  rw [← he, ← hr] at hec
  have e0 : wr.cell? ⟨e, 0, none⟩ = some (oc k) := cell_of hec rfl
  have e2 : wr.cell? ⟨e, 2, none⟩ = some (nm r) := cell_of hec rfl
  have f2 : wr.frozen? ⟨e, 2, none⟩ = false := free_of hec
  rw [← hr] at hro hP ⊢
  rw [← he] at hP ⊢
  have HP : Hid (∀ w', (∃ v', Tj base pb n hand rb mb vs L E sl ro ks s wb dv l (j + 1) (if 0 < r then D else D ++ [k]) v' w' ∧ Chg (fun b => b = mb ∨ b = e ∨ b = dv ∨ base ≤ b) wr w') → P w') := fun w' h => by rw [hP]; exact h
  clear hP
  have HEC := Lib.hid hec
  have HE := Lib.hid he
  have HR := Lib.hid hr
  have HN := Lib.hid hn
  have HKK := Lib.hid (And.intro hk hks)
  clear hec he hr hn hk hks
  by_cases h0 : 0 < r
  · obtain ⟨r1, rfl⟩ : ∃ r1, r = r1 + 1 := ⟨r - 1, by omega⟩
    have g1 : decide ((0 : Int) < ((r1 + 1 : Nat) : Int)) = true := decide_eq_true (by omega)
    have g2 : (0 : Int) < (r1 : Int) + 1 := by omega
    have v1 := wrap_nat r1 (by omega)
    have T2 : Hid (Tj base pb n hand rb mb vs L E sl ro ks s wb dv l (j + 1) D v (wr.setCell ⟨e, 2, none⟩ (nm r1))) := by
      have := H.out.stay HN.out HKK.out.1 HKK.out.2 (by rw [← HR.out]; omega)
      rw [← HR.out, Nat.add_sub_cancel, ← HE.out] at this
      exact this
    go_enter Try.func24, Try.ntmps24
    go_wp2
    go_ret
    exact ⟨by simp, HP.out _ ⟨v, by (rw [if_pos h0]; exact T2.out), (Only.setCell e 2 _ wr).chg (Or.inr (Or.inl rfl))⟩⟩
  · have hr0 : r = 0 := by omega
    subst hr0
    have T1 := Lib.hid H.out.drew
    obtain ⟨w2, hdel, T2, o2⟩ := T1.out.drop HN.out HKK.out.1 HKK.out.2 HR.out.symm h256 0
    have c0 : wr.cell? ⟨wb, 0, none⟩ = some (ptr pb) := cell_of H.out.wbx rfl
    have c1 : wr.cell? ⟨pb, 2, none⟩ = some (.map (some mb)) := by
      obtain ⟨ksj, h1, h2⟩ := H.out.ex
      exact h2.cells.2.2.1
    have hmb : ∃ es c, wr.heap[mb]? = some (.map es c) := by
      obtain ⟨ksj, h1, h2⟩ := H.out.ex
      obtain ⟨es, c, h3, _⟩ := h2.m.blk
      exact ⟨es, c, h3⟩
    obtain ⟨es, c, hmb⟩ := hmb
    have hpb : ∃ cs, wr.heap[pb]? = some (.cells cs 49) := by
      obtain ⟨ksj, h1, h2⟩ := H.out.ex
      exact ⟨_, h2.p⟩
    obtain ⟨csp, hpb⟩ := hpb
    have d0 : w2.cell? ⟨wb, 0, none⟩ = some (ptr pb) := cell_of T2.wbx rfl
    have d1 : w2.cell? ⟨pb, 2, none⟩ = some (.map (some mb)) := (World.cell?_of_block (o2.block pb (ne_map hpb hmb))).trans c1
    have d2 : w2.cell? ⟨e, 0, none⟩ = some (oc k) := (World.cell?_of_block (o2.block e (ne_map HEC.out hmb))).trans e0
    have HEC2 : Hid (w2.heap[e]? = wr.heap[e]?) := o2.block e (ne_map HEC.out hmb)
    have G2 : Hid (Chg (fun b => b = mb ∨ b = e ∨ b = dv ∨ base ≤ b) wr w2) := (Chg.refl _ wr).drew.then (o2.chg (Or.inl rfl))
    have HT2 := Lib.hid T2
    have x0 : w2.cell? ⟨dv, 0, none⟩ = some v := cell_of T2.due rfl
    have fx : w2.frozen? ⟨dv, 0, none⟩ = false := free_of T2.due
    have hel : e < base := by
      rw [HE.out]
      exact H.out.lo _ (Or.inr (Or.inr (Or.inr (Or.inl ⟨k, HKK.out.2, rfl⟩))))
    have hdvne : e ≠ dv := ne_type HEC.out H.out.due (by decide)
    have hew : e < w2.heap.size := lt_heap (HEC2.out.trans HEC.out)
    have HLN : Hid (D.length + 1 ≤ 1000000) := by show D.length + 1 ≤ 1000000; omega
    have HSZ := Lib.hid T2.sz
    have HBZ : Hid (∀ o : Obj, base ≤ (w2.alloc o).drew.heap.size) := fun o => by
      have h5 : (w2.alloc o).drew.heap.size = w2.heap.size + 1 := size_alloc _ _
      have h6 := HSZ.out
      omega
    have HK3 : Hid (∀ o : Obj, (w2.alloc o).drew.cell? ⟨e, 0, none⟩ = some (oc k)) := fun o => (World.cell?_of_block (alloc_same w2 o hew)).trans d2
    have HK : Hid (∀ (o : Obj) (w4 : World), (w2.drew.alloc o).grownBy w4 v.ownBlock → w4.cell? ⟨e, 0, none⟩ = some (oc k) ∧ w4.cell? ⟨dv, 0, none⟩ = some v ∧ w4.frozen? ⟨dv, 0, none⟩ = false) := fun o w4 hg =>
      have far : ∀ b, b < base → w4.heap[b]? = w2.heap[b]? := fun b hb => by
        have h5 : (w2.drew.alloc o).heap.size = w2.heap.size + 1 := size_alloc _ _
        have h6 := HSZ.out
        refine (hg.block b (by omega) fun e => ?_).trans (alloc_same w2.drew o (by show b < w2.heap.size; omega))
        have := (HT2.out.own.lt b e.symm).1
        omega
      ⟨(World.cell?_of_block (far e hel)).trans d2, (World.cell?_of_block (far dv HT2.out.ld)).trans x0, (World.frozen?_of_block (far dv HT2.out.ld)).trans fx⟩
    have HK5 : Hid (∀ (u : World) (z : Value), u.cell? ⟨e, 0, none⟩ = some (oc k) → (u.setCell ⟨dv, 0, none⟩ z).cell? ⟨e, 0, none⟩ = some (oc k)) := fun u z a => (World.cell?_of_block (set_other hdvne _)).trans a
    have hal : ∀ o : Obj, (w2.alloc o).cell? ⟨dv, 0, none⟩ = some v := fun o => (World.cell?_of_block (alloc_same w2 o (lt_heap HT2.out.due))).trans x0
    have hfin : Hid (∀ (o : Obj) (w4 : World) (g cap : Nat), OwnS 5 1 ocs w4 base (.slice (some ⟨g, 0, none⟩) (D.length + 1) cap) (D ++ [k]) → (w2.drew.alloc o).grownBy w4 v.ownBlock → ∃ v', Tj base pb n hand rb mb vs L E sl ro ks s wb dv l (j + 1) (D ++ [k]) v' (w4.setCell ⟨dv, 0, none⟩ (.slice (some ⟨g, 0, none⟩) (D.length + 1) cap)) ∧ Chg (fun b => b = mb ∨ b = e ∨ b = dv ∨ base ≤ b) wr (w4.setCell ⟨dv, 0, none⟩ (.slice (some ⟨g, 0, none⟩) (D.length + 1) cap))) := fun o w4 g cap ho hg =>
      ⟨_, HT2.out.push ho hg, ((G2.out.drew.alloc o).grown hg fun b hb _ => Or.inr (Or.inr (Or.inr (HT2.out.own.lt b hb).1))).setCell dv 0 _ fun _ => Or.inr (Or.inr (Or.inl rfl))⟩
    clear T2 o2 hmb hpb hew hel f2 hdvne
    go_enter Try.func24, Try.ntmps24
    go_wp2_with fail
    refine wp_region_held_drew (S := (fun w' => w'.cell? ⟨wb, 0, none⟩ = some (ptr pb) ∧ w'.cell? ⟨pb, 2, none⟩ = some (.map (some mb)) ∧ w'.cell? ⟨e, 0, none⟩ = some (oc k))) (by kernel_rfl) ⟨c0, c1, e0⟩ (fun hHeld => ?_)
    refine' wpAnyH_take (i := 0) (oi := { dst := some 17, op := Go.Op.load 24 (Go.Operand.tmp 1), type := 24, pos := "wheel.go:96", after := #[], guard := none }) (v := _) rfl (by kernel_rfl) (by kernel_rfl) (by kernel_rfl) (fun _ _ _ h => h) (Or.inl ⟨by rfl, ?hy1⟩) (by assumption) ?hr1
    case hy1 => (intro _ hSw; (try dsimp only at hSw); have hc1 := hSw.1; go_simp <;> with_reducible rfl)
    simp only [Act.put, List.setIfInBounds_toArray, List.set_cons_zero, List.set_cons_succ]
    refine' wpAnyH_take (i := 1) (oi := { dst := some 18, op := Go.Op.nilCheck (Go.Operand.tmp 17), type := 0, pos := "wheel.go:96", after := #[{ on := 0, ground := Go.Ground.data }], guard := none }) (v := _) rfl (by kernel_rfl) (by kernel_rfl) (by kernel_rfl) (fun _ _ _ h => h) (Or.inl ⟨by rfl, ?hy2⟩) (by assumption) ?hr2
    case hy2 => (intro _ hSw; (try dsimp only at hSw); go_simp <;> with_reducible rfl)
    simp only [Act.put, List.setIfInBounds_toArray, List.set_cons_zero, List.set_cons_succ]
    refine' wpAnyH_take (i := 2) (oi := { dst := some 19, op := Go.Op.fieldAddr 49 (Go.Operand.tmp 18) 2, type := 0, pos := "wheel.go:96", after := #[{ on := 1, ground := Go.Ground.data }], guard := none }) (v := _) rfl (by kernel_rfl) (by kernel_rfl) (by kernel_rfl) (fun _ _ _ h => h) (Or.inl ⟨by rfl, ?hy3⟩) (by assumption) ?hr3
    case hy3 => (intro _ hSw; (try dsimp only at hSw); go_simp <;> with_reducible rfl)
    simp only [Act.put, List.setIfInBounds_toArray, List.set_cons_zero, List.set_cons_succ]
    refine' wpAnyH_take (i := 3) (oi := { dst := some 20, op := Go.Op.load 47 (Go.Operand.tmp 19), type := 47, pos := "wheel.go:96", after := #[{ on := 2, ground := Go.Ground.data }], guard := none }) (v := _) rfl (by kernel_rfl) (by kernel_rfl) (by kernel_rfl) (fun _ _ _ h => h) (Or.inl ⟨by rfl, ?hy4⟩) (by assumption) ?hr4
    case hy4 => (intro _ hSw; (try dsimp only at hSw); have hc2 := hSw.2.1; go_simp <;> with_reducible rfl)
    simp only [Act.put, List.setIfInBounds_toArray, List.set_cons_zero, List.set_cons_succ]
    refine' wpAnyH_take (i := 4) (oi := { dst := some 21, op := Go.Op.move (Go.Operand.tmp 0), type := 50, pos := "wheel.go:96", after := #[], guard := none }) (v := _) rfl (by kernel_rfl) (by kernel_rfl) (by kernel_rfl) (fun _ _ _ h => h) (Or.inl ⟨by rfl, ?hy5⟩) (by assumption) ?hr5
    case hy5 => (intro _ hSw; (try dsimp only at hSw); go_simp <;> with_reducible rfl)
    simp only [Act.put, List.setIfInBounds_toArray, List.set_cons_zero, List.set_cons_succ]
    refine' wpAnyH_take (i := 5) (oi := { dst := some 22, op := Go.Op.nilCheck (Go.Operand.tmp 21), type := 0, pos := "wheel.go:96", after := #[{ on := 4, ground := Go.Ground.data }], guard := none }) (v := _) rfl (by kernel_rfl) (by kernel_rfl) (by kernel_rfl) (fun _ _ _ h => h) (Or.inl ⟨by rfl, ?hy6⟩) (by assumption) ?hr6
    case hy6 => (intro _ hSw; (try dsimp only at hSw); go_simp <;> with_reducible rfl)
    simp only [Act.put, List.setIfInBounds_toArray, List.set_cons_zero, List.set_cons_succ]
    refine' wpAnyH_take (i := 6) (oi := { dst := some 23, op := Go.Op.fieldAddr 53 (Go.Operand.tmp 22) 0, type := 0, pos := "wheel.go:96", after := #[{ on := 5, ground := Go.Ground.data }], guard := none }) (v := _) rfl (by kernel_rfl) (by kernel_rfl) (by kernel_rfl) (fun _ _ _ h => h) (Or.inl ⟨by rfl, ?hy7⟩) (by assumption) ?hr7
    case hy7 => (intro _ hSw; (try dsimp only at hSw); go_simp <;> with_reducible rfl)
    simp only [Act.put, List.setIfInBounds_toArray, List.set_cons_zero, List.set_cons_succ]
    refine' wpAnyH_take (i := 7) (oi := { dst := some 24, op := Go.Op.load 5 (Go.Operand.tmp 23), type := 5, pos := "wheel.go:96", after := #[{ on := 6, ground := Go.Ground.data }], guard := none }) (v := _) rfl (by kernel_rfl) (by kernel_rfl) (by kernel_rfl) (fun _ _ _ h => h) (Or.inl ⟨by rfl, ?hy8⟩) (by assumption) ?hr8
    case hy8 => (intro _ hSw; (try dsimp only at hSw); have hc3 := hSw.2.2; go_simp <;> with_reducible rfl)
    simp only [Act.put, List.setIfInBounds_toArray, List.set_cons_zero, List.set_cons_succ]
    refine wpAnyH_ready (rs := [8]) (by kernel_rfl) (by simp) ?_
    refine AllReadyH.cons (o := { dst := none, op := Go.Op.call { callee := Go.Callee.builtin Go.Builtin.delete, args := #[Go.Operand.tmp 20, Go.Operand.tmp 24], argTypes := #[47, 5] }, type := 0, pos := "wheel.go:96", after := #[{ on := 3, ground := Go.Ground.data }, { on := 7, ground := Go.Ground.data }], guard := none }) rfl (fun K hK => ?_) AllReadyH.nil
    go_simp
    refine hK.out _ _ ⟨d0, d1, d2⟩ (fun hNext => ?_)
    clear hK K hHeld
    have hHeld := hNext
    clear hNext
    (try simp only [Act.put, List.setIfInBounds_toArray, List.set_cons_zero, List.set_cons_succ])
    refine wpAnyH_done (by kernel_rfl) ?_ _
    clear hHeld hdel c0 c1 e0 e2
    go_wp2_with fail
    refine wp_region_held_drew (S := (fun w' => w'.cell? ⟨e, 0, none⟩ = some (oc k))) (by kernel_rfl) d2 (fun hHeld => ?_)
    refine' wpAnyH_take (i := 1) (oi := { dst := some 26, op := Go.Op.move (Go.Operand.tmp 0), type := 50, pos := "wheel.go:97", after := #[], guard := none }) (v := _) rfl (by kernel_rfl) (by kernel_rfl) (by kernel_rfl) (fun _ _ _ h => h) (Or.inl ⟨by rfl, ?hy9⟩) (by assumption) ?hr9
    case hy9 => (intro _ hSw; (try dsimp only at hSw); go_simp <;> with_reducible rfl)
    simp only [Act.put, List.setIfInBounds_toArray, List.set_cons_zero, List.set_cons_succ]
    refine' wpAnyH_take (i := 2) (oi := { dst := some 27, op := Go.Op.nilCheck (Go.Operand.tmp 26), type := 0, pos := "wheel.go:97", after := #[{ on := 1, ground := Go.Ground.data }], guard := none }) (v := _) rfl (by kernel_rfl) (by kernel_rfl) (by kernel_rfl) (fun _ _ _ h => h) (Or.inl ⟨by rfl, ?hy10⟩) (by assumption) ?hr10
    case hy10 => (intro _ hSw; (try dsimp only at hSw); go_simp <;> with_reducible rfl)
    simp only [Act.put, List.setIfInBounds_toArray, List.set_cons_zero, List.set_cons_succ]
    refine' wpAnyH_take (i := 3) (oi := { dst := some 28, op := Go.Op.fieldAddr 53 (Go.Operand.tmp 27) 0, type := 0, pos := "wheel.go:97", after := #[{ on := 2, ground := Go.Ground.data }], guard := none }) (v := _) rfl (by kernel_rfl) (by kernel_rfl) (by kernel_rfl) (fun _ _ _ h => h) (Or.inl ⟨by rfl, ?hy11⟩) (by assumption) ?hr11
    case hy11 => (intro _ hSw; (try dsimp only at hSw); go_simp <;> with_reducible rfl)
    simp only [Act.put, List.setIfInBounds_toArray, List.set_cons_zero, List.set_cons_succ]
    refine' wpAnyH_take (i := 4) (oi := { dst := some 29, op := Go.Op.load 5 (Go.Operand.tmp 28), type := 5, pos := "wheel.go:97", after := #[{ on := 3, ground := Go.Ground.data }], guard := none }) (v := _) rfl (by kernel_rfl) (by kernel_rfl) (by kernel_rfl) (fun _ _ _ h => h) (Or.inl ⟨by rfl, ?hy12⟩) (by assumption) ?hr12
    case hy12 => (intro _ hSw; (try dsimp only at hSw); have hc1 := hSw; go_simp <;> with_reducible rfl)
    simp only [Act.put, List.setIfInBounds_toArray, List.set_cons_zero, List.set_cons_succ]
    refine wpAnyH_ready (rs := [0, 5]) (by kernel_rfl) (by simp) ?_
    refine AllReadyH.cons (o := { dst := some 25, op := Go.Op.load 41 (Go.Operand.tmp 2), type := 41, pos := "wheel.go:97", after := #[], guard := none }) rfl (fun K hK => ?_) (AllReadyH.cons (o := { dst := some 30, op := Go.Op.buildSlice 41 1 #[(0, Go.Operand.tmp 29)], type := 41, pos := "wheel.go:97", after := #[{ on := 4, ground := Go.Ground.data }], guard := none }) rfl (fun K hK => ?_) AllReadyH.nil)
    · go_simp
      refine hK.out _ _ hHeld (fun hNext => ?_)
      clear hK K hHeld
      have hHeld := hNext
      clear hNext
      (try simp only [Act.put, List.setIfInBounds_toArray, List.set_cons_zero, List.set_cons_succ])
      refine wpAnyH_ready (rs := [5]) (by kernel_rfl) (by simp) ?_
      refine AllReadyH.cons (o := { dst := some 30, op := Go.Op.buildSlice 41 1 #[(0, Go.Operand.tmp 29)], type := 41, pos := "wheel.go:97", after := #[{ on := 4, ground := Go.Ground.data }], guard := none }) rfl (fun K hK => ?_) AllReadyH.nil
      go_simp
      refine hK.out _ _ (HK3.out _) (fun hNext => ?_)
      clear hK K hHeld
      have hHeld := hNext
      clear hNext
      (try simp only [Act.put, List.setIfInBounds_toArray, List.set_cons_zero, List.set_cons_succ])
      refine wpAnyH_ready (rs := [6]) (by kernel_rfl) (by simp) ?_
      refine AllReadyH.cons (o := { dst := some 31, op := Go.Op.call { callee := Go.Callee.builtin Go.Builtin.append, args := #[Go.Operand.tmp 25, Go.Operand.tmp 30], argTypes := #[41, 41] }, type := 41, pos := "wheel.go:97", after := #[{ on := 0, ground := Go.Ground.data }, { on := 5, ground := Go.Ground.data }], guard := none }) rfl (fun K hK => ?_) AllReadyH.nil
      refine step_append_elt eltU _ (by rfl) _ _ (by rfl) base v (by rfl) D (OwnS.alloc (w := w2.drew) HT2.out.own _) w2.heap.size 1 (by rfl) k (row1u w2 k _) HLN.out (HBZ.out _) ?_
      intro g cap w4 hown hgrow hat
      have hkp := HK.out _ _ hgrow
      have hkp2 := hkp.2.1
      have hkp3 := hkp.2.2
      refine hK.out _ _ hkp.1 (fun hNext => ?_)
      clear hK K hHeld
      have hHeld := hNext
      clear hNext
      (try simp only [Act.put, List.setIfInBounds_toArray, List.set_cons_zero, List.set_cons_succ])
      refine wpAnyH_ready (rs := [7]) (by kernel_rfl) (by simp) ?_
      refine AllReadyH.cons (o := { dst := none, op := Go.Op.store 41 (Go.Operand.tmp 2) (Go.Operand.tmp 31), type := 0, pos := "wheel.go:97", after := #[{ on := 6, ground := Go.Ground.data }, { on := 6, ground := Go.Ground.chain }, { on := 0, ground := Go.Ground.phase }, { on := 1, ground := Go.Ground.phase }, { on := 2, ground := Go.Ground.phase }, { on := 3, ground := Go.Ground.phase }, { on := 4, ground := Go.Ground.phase }, { on := 5, ground := Go.Ground.phase }, { on := 6, ground := Go.Ground.phase }], guard := none }) rfl (fun K hK => ?_) AllReadyH.nil
      go_simp
      refine hK.out _ _ (HK5.out _ _ hkp.1) (fun hNext => ?_)
      clear hK K hHeld
      have hHeld := hNext
      clear hNext
      (try simp only [Act.put, List.setIfInBounds_toArray, List.set_cons_zero, List.set_cons_succ])
      refine wpAnyH_done (by kernel_rfl) ?_ _
      clear hHeld
      go_wp2
      go_ret
      exact ⟨rfl, HP.out _ (by (rw [if_neg h0]; exact hfin.out _ _ _ _ hown hgrow))⟩
    · go_simp
      refine hK.out _ _ (HK3.out _) (fun hNext => ?_)
      clear hK K hHeld
      have hHeld := hNext
      clear hNext
      (try simp only [Act.put, List.setIfInBounds_toArray, List.set_cons_zero, List.set_cons_succ])
      refine wpAnyH_ready (rs := [0]) (by kernel_rfl) (by simp) ?_
      refine AllReadyH.cons (o := { dst := some 25, op := Go.Op.load 41 (Go.Operand.tmp 2), type := 41, pos := "wheel.go:97", after := #[], guard := none }) rfl (fun K hK => ?_) AllReadyH.nil
      go_simp
      refine hK.out _ _ hHeld (fun hNext => ?_)
      clear hK K hHeld
      have hHeld := hNext
      clear hNext
      (try simp only [Act.put, List.setIfInBounds_toArray, List.set_cons_zero, List.set_cons_succ])
      refine wpAnyH_ready (rs := [6]) (by kernel_rfl) (by simp) ?_
      refine AllReadyH.cons (o := { dst := some 31, op := Go.Op.call { callee := Go.Callee.builtin Go.Builtin.append, args := #[Go.Operand.tmp 25, Go.Operand.tmp 30], argTypes := #[41, 41] }, type := 41, pos := "wheel.go:97", after := #[{ on := 0, ground := Go.Ground.data }, { on := 5, ground := Go.Ground.data }], guard := none }) rfl (fun K hK => ?_) AllReadyH.nil
      refine step_append_elt eltU _ (by rfl) _ _ (by rfl) base v (by rfl) D (OwnS.alloc (w := w2.drew) HT2.out.own _) w2.heap.size 1 (by rfl) k (row1u w2 k _) HLN.out (HBZ.out _) ?_
      intro g cap w4 hown hgrow hat
      have hkp := HK.out _ _ hgrow
      have hkp2 := hkp.2.1
      have hkp3 := hkp.2.2
      refine hK.out _ _ hkp.1 (fun hNext => ?_)
      clear hK K hHeld
      have hHeld := hNext
      clear hNext
      (try simp only [Act.put, List.setIfInBounds_toArray, List.set_cons_zero, List.set_cons_succ])
      refine wpAnyH_ready (rs := [7]) (by kernel_rfl) (by simp) ?_
      refine AllReadyH.cons (o := { dst := none, op := Go.Op.store 41 (Go.Operand.tmp 2) (Go.Operand.tmp 31), type := 0, pos := "wheel.go:97", after := #[{ on := 6, ground := Go.Ground.data }, { on := 6, ground := Go.Ground.chain }, { on := 0, ground := Go.Ground.phase }, { on := 1, ground := Go.Ground.phase }, { on := 2, ground := Go.Ground.phase }, { on := 3, ground := Go.Ground.phase }, { on := 4, ground := Go.Ground.phase }, { on := 5, ground := Go.Ground.phase }, { on := 6, ground := Go.Ground.phase }], guard := none }) rfl (fun K hK => ?_) AllReadyH.nil
      go_simp
      refine hK.out _ _ (HK5.out _ _ hkp.1) (fun hNext => ?_)
      clear hK K hHeld
      have hHeld := hNext
      clear hNext
      (try simp only [Act.put, List.setIfInBounds_toArray, List.set_cons_zero, List.set_cons_succ])
      refine wpAnyH_done (by kernel_rfl) ?_ _
      clear hHeld
      go_wp2
      go_ret
      exact ⟨rfl, HP.out _ (by (rw [if_neg h0]; exact hfin.out _ _ _ _ hown hgrow))⟩
end
end Go.Proofs.Ytcadeoolacoidaa.Wh
