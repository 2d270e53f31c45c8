/-
  What an insertion leaves of a slice of bytes. Conditions: at most a hundred thousand bytes; the number lies between 0 and 255.
-/
import Derived.Test.YtllojgmlngfibaaLnSmall
import Derived.Test.YtllojgmlngfibaaLnRep
import Derived.Deep.RegionHeld
namespace Go.Proofs.Ytllojgmlngfibaa.Ln
open Go.RowKit Go.Proofs.Ytllojgmlngfibaa.Base Go.Proofs.Ytllojgmlngfibaa.Mem
section
variable (w : World) (base : Nat) (v : Value) (l : List UInt8) (k : Nat) (i : Int) (b : Nat)
set_option maxHeartbeats 4000000 in
set_option maxRecDepth 100000 in
theorem fput (h : SlB w base v l) (hb : base ≤ w.heap.size) (m : Nat) (hm : m ≤ 255) (hb8 : b < 256) (hl : l.length ≤ 100000) :
    Calls Try.prog 21 #[v, .agg #[.int .u8 (k : Int), .int .i64 i, .int .u8 (b : Int), .int .i64 (m : Int)]] w (Ins w base v (if i < 0 ∨ (l.length : Int) < i then l else put l i.toNat (List.replicate m (UInt8.ofNat b)))) := by
  have H := Lib.hid h
  by_cases h1 : i < 0
  · obtain ⟨oa, cap, hv⟩ := h.form
    have d1 : decide (i < 0) = true := decide_eq_true h1
    rw [if_pos (Or.inl h1)]
    rw [hv] at H ⊢
    clear h hv
    go_enter Try.func21, Try.ntmps21
    go_wp2
    go_ret
    exact ⟨_, rfl, H.out.below ((Below.refl _ _).alloc (Nat.le_refl _) _), gr_alloc (gr_refl _ _) _⟩
  · have d1 : decide (i < 0) = false := decide_eq_false h1
    obtain ⟨oa, cap, hv⟩ := h.form
    by_cases h2 : (l.length : Int) < i
    · have d2 : decide ((l.length : Int) < i) = true := decide_eq_true h2
      rw [if_pos (Or.inr h2)]
      rw [hv] at H ⊢
      clear h hv
      go_enter Try.func21, Try.ntmps21
      go_wp2
      go_ret
      exact ⟨_, rfl, H.out.below ((Below.refl _ _).alloc (Nat.le_refl _) _), gr_alloc (gr_refl _ _) _⟩
    · rw [if_neg (by omega)]
      obtain ⟨a, rfl⟩ : ∃ a : Nat, i = a := ⟨i.toNat, by omega⟩
      rw [Int.toNat_natCast]
      obtain ⟨z, hz⟩ : ∃ z, Hid (l.length = z) := ⟨_, Lib.hid rfl⟩
      have hz' := hz.out
      have haz : a ≤ z := by omega
      have hzl : z ≤ 100000 := by omega
      have d2 : decide ((z : Int) < (a : Int)) = false := decide_eq_false (by omega)
      have d2' : ¬ (z : Int) < (a : Int) := by omega
      rw [hz'] at hv
      clear h h1 h2 hz' hl
      subst hv
      go_enter Try.func21, Try.ntmps21
      go_wp2_with fail
      obtain ⟨v, hv⟩ : ∃ v, v = Value.slice oa z cap := ⟨_, rfl⟩
      rw [← hv] at H ⊢
      have HV := Lib.hid hv
      clear hv
      generalize hwx : w.alloc (.cells #[.int .u8 (k : Int), .int .i64 (a : Int), .int .u8 (b : Int), .int .i64 (m : Int)] 33) = wx
      have HB : Hid (Below w.heap.size w wx) := by rw [← hwx]; exact (Below.refl _ _).alloc (Nat.le_refl _) _
      have FX : Hid (wx.heap[w.heap.size]? = some (.cells #[.int .u8 (k : Int), .int .i64 (a : Int), .int .u8 (b : Int), .int .i64 (m : Int)] 33)) := by rw [← hwx]; exact nest w [_] 0 _ rfl
      clear hwx
      refine wp_region_held_drew (S := (fun w' => w'.heap[w.heap.size]? = some (.cells #[.int .u8 (k : Int), .int .i64 (a : Int), .int .u8 (b : Int), .int .i64 (m : Int)] 33) ∧ w.grownBy w' v.ownBlock)) (by kernel_rfl) ⟨FX.out, gr_end (gr_below HB.out)⟩ (fun hHeld => ?_)
      refine' wpAnyH_take (i := 0) (oi := { dst := some 16, op := Go.Op.move (Go.Operand.tmp 0), type := 43, pos := "line.go:128", after := #[], guard := none }) (v := _) rfl (by kernel_rfl) (by kernel_rfl) (by kernel_rfl) (fun _ _ _ h => h) (Or.inl ⟨by rfl, ?hy1⟩) (by assumption) ?hr1
      case hy1 => (intro _ hSw; (try dsimp only at hSw); go_simp <;> with_reducible rfl)
      simp only [Act.put, List.setIfInBounds_toArray, List.set_cons_zero, List.set_cons_succ]
      refine' wpAnyH_take (i := 1) (oi := { dst := some 17, op := Go.Op.fieldAddr 33 (Go.Operand.tmp 3) 1, type := 0, pos := "line.go:128", after := #[], guard := none }) (v := _) rfl (by kernel_rfl) (by kernel_rfl) (by kernel_rfl) (fun _ _ _ h => h) (Or.inl ⟨by rfl, ?hy2⟩) (by assumption) ?hr2
      case hy2 => (intro _ hSw; (try dsimp only at hSw); go_simp <;> with_reducible rfl)
      simp only [Act.put, List.setIfInBounds_toArray, List.set_cons_zero, List.set_cons_succ]
      refine' wpAnyH_take (i := 2) (oi := { dst := some 18, op := Go.Op.load 3 (Go.Operand.tmp 17), type := 3, pos := "line.go:128", after := #[{ on := 1, ground := Go.Ground.data }], guard := none }) (v := _) rfl (by kernel_rfl) (by kernel_rfl) (by kernel_rfl) (fun _ _ _ h => h) (Or.inl ⟨by rfl, ?hy3⟩) (by assumption) ?hr3
      case hy3 => (intro _ hSw; (try dsimp only at hSw); have c1 := cell_of (i := 1) hSw.1 rfl; go_simp <;> with_reducible rfl)
      simp only [Act.put, List.setIfInBounds_toArray, List.set_cons_zero, List.set_cons_succ]
      refine' wpAnyH_take (i := 3) (oi := { dst := some 19, op := Go.Op.fieldAddr 33 (Go.Operand.tmp 3) 2, type := 0, pos := "line.go:128", after := #[], guard := none }) (v := _) rfl (by kernel_rfl) (by kernel_rfl) (by kernel_rfl) (fun _ _ _ h => h) (Or.inl ⟨by rfl, ?hy4⟩) (by assumption) ?hr4
      case hy4 => (intro _ hSw; (try dsimp only at hSw); go_simp <;> with_reducible rfl)
      simp only [Act.put, List.setIfInBounds_toArray, List.set_cons_zero, List.set_cons_succ]
      refine' wpAnyH_take (i := 4) (oi := { dst := some 20, op := Go.Op.load 5 (Go.Operand.tmp 19), type := 5, pos := "line.go:128", after := #[{ on := 3, ground := Go.Ground.data }], guard := none }) (v := _) rfl (by kernel_rfl) (by kernel_rfl) (by kernel_rfl) (fun _ _ _ h => h) (Or.inl ⟨by rfl, ?hy5⟩) (by assumption) ?hr5
      case hy5 => (intro _ hSw; (try dsimp only at hSw); have c2 := cell_of (i := 2) hSw.1 rfl; go_simp <;> with_reducible rfl)
      simp only [Act.put, List.setIfInBounds_toArray, List.set_cons_zero, List.set_cons_succ]
      refine' wpAnyH_take (i := 6) (oi := { dst := some 22, op := Go.Op.fieldAddr 33 (Go.Operand.tmp 3) 3, type := 0, pos := "line.go:128", after := #[], guard := none }) (v := _) rfl (by kernel_rfl) (by kernel_rfl) (by kernel_rfl) (fun _ _ _ h => h) (Or.inl ⟨by rfl, ?hy6⟩) (by assumption) ?hr6
      case hy6 => (intro _ hSw; (try dsimp only at hSw); go_simp <;> with_reducible rfl)
      simp only [Act.put, List.setIfInBounds_toArray, List.set_cons_zero, List.set_cons_succ]
      refine' wpAnyH_take (i := 7) (oi := { dst := some 23, op := Go.Op.load 3 (Go.Operand.tmp 22), type := 3, pos := "line.go:128", after := #[{ on := 6, ground := Go.Ground.data }], guard := none }) (v := _) rfl (by kernel_rfl) (by kernel_rfl) (by kernel_rfl) (fun _ _ _ h => h) (Or.inl ⟨by rfl, ?hy7⟩) (by assumption) ?hr7
      case hy7 => (intro _ hSw; (try dsimp only at hSw); have c3 := cell_of (i := 3) hSw.1 rfl; go_simp <;> with_reducible rfl)
      simp only [Act.put, List.setIfInBounds_toArray, List.set_cons_zero, List.set_cons_succ]
      refine wpAnyH_ready (rs := [5]) (by kernel_rfl) (by simp) ?_
      refine AllReadyH.cons (o := { dst := some 21, op := Go.Op.buildSlice 43 1 #[(0, Go.Operand.tmp 20)], type := 43, pos := "line.go:128", after := #[{ on := 4, ground := Go.Ground.data }], guard := none }) rfl (fun K hK => ?_) AllReadyH.nil
      go_simp
      refine hK.out _ _ ⟨gr_stays (World.grownBy_alloc _ _ none) hHeld.1 (by simp), gr_alloc hHeld.2 _⟩ (fun hNext => ?_)
      clear hK K hHeld
      have hHeld := hNext
      clear hNext
      (try simp only [Act.put, List.setIfInBounds_toArray, List.set_cons_zero, List.set_cons_succ])
      have hlt0 := lt_heap hHeld.1
      have HB1 : Hid (Below w.heap.size w (wx.alloc (.cells #[.int .u8 (b : Int)] 5)).drew) := (HB.out.alloc HB.out.size _).drew
      have CR := Lib.hid (frepeat m b wx.heap.size (by omega) (wx.alloc (.cells #[.int .u8 (b : Int)] 5)).drew (cell_of (w := (wx.alloc (.cells #[.int .u8 (b : Int)] 5))) (nest wx [.cells #[.int .u8 (b : Int)] 5] 0 _ rfl) rfl))
      refine wpAnyH_ready (rs := [8]) (by kernel_rfl) (by simp) ?_
      refine AllReadyH.cons (o := { dst := some 24, op := Go.Op.call { callee := Go.Callee.value (Go.Operand.func 25), args := #[Go.Operand.tmp 21, Go.Operand.tmp 23], argTypes := #[43, 3] }, type := 43, pos := "line.go:128", after := #[{ on := 5, ground := Go.Ground.data }, { on := 7, ground := Go.Ground.data }], guard := none }) rfl (fun K hK => ?_) AllReadyH.nil
      go_simp
      (with_reducible refine CR.out.mono ?_)
      rintro e w2 ⟨ub, cs, rfl, hub, hobj, hcs, hb2⟩
      have HB2 := Lib.hid (below_on HB1.out hb2)
      have HU := Lib.hid hub
      have HO := Lib.hid hobj
      have HCS := Lib.hid hcs
      have HS2 : Hid (w2.heap[w.heap.size]? = some (.cells #[.int .u8 (k : Int), .int .i64 (a : Int), .int .u8 (b : Int), .int .i64 (m : Int)] 33)) := stays hHeld.1 hb2
      clear hub hobj hcs hb2 CR
      go_wp2_with fail
      refine hK.out _ _ ⟨HS2.out, gr_below HB2.out⟩ (fun hNext => ?_)
      clear hK K hHeld
      have hHeld := hNext
      clear hNext
      (try simp only [Act.put, List.setIfInBounds_toArray, List.set_cons_zero, List.set_cons_succ])
      have CI := Lib.hid (finsert w2 base l (List.replicate m (UInt8.ofNat b)) ub m m cs v z a hz.out (H.out.below HB2.out) haz (fun e => by
        have h1 := (H.out.base ub e).2
        have h2 := HU.out
        have h3 := HB1.out.size
        omega) (List.length_replicate ..) (fun _ => HO.out) (fun j x hj => by
          have hlt := (List.getElem?_eq_some_iff.1 hj).1
          rw [List.length_replicate] at hlt
          rw [List.getElem?_replicate, if_pos hlt] at hj
          rw [← Option.some.inj hj, val8_of b hb8]
          exact HCS.out j hlt) (by omega) (by have := HB2.out.size; omega))
      refine wpAnyH_ready (rs := [9]) (by kernel_rfl) (by simp) ?_
      refine AllReadyH.cons (o := { dst := some 25, op := Go.Op.call { callee := Go.Callee.value (Go.Operand.func 24), args := #[Go.Operand.tmp 16, Go.Operand.tmp 18, Go.Operand.tmp 24], argTypes := #[43, 3, 43] }, type := 43, pos := "line.go:128", after := #[{ on := 0, ground := Go.Ground.data }, { on := 2, ground := Go.Ground.data }, { on := 8, ground := Go.Ground.data }, { on := 8, ground := Go.Ground.chain }], guard := none }) rfl (fun K hK => ?_) AllReadyH.nil
      go_simp
      (with_reducible refine CI.out.mono ?_)
      rintro e w3 ⟨v', rfl, hs3, hg3⟩
      have HS3 := Lib.hid hs3
      have HG3 : Hid (w.grownBy w3 v.ownBlock) := gr_then (gr_below HB2.out) hg3
      have HX3 : Hid (w3.heap[w.heap.size]? = some (.cells #[.int .u8 (k : Int), .int .i64 (a : Int), .int .u8 (b : Int), .int .i64 (m : Int)] 33)) := gr_stays hg3 HS2.out (fun e => by have := (H.out.base w.heap.size e.symm).2; omega)
      clear hs3 hg3 CI
      go_wp2_with fail
      refine hK.out _ _ ⟨HX3.out, HG3.out⟩ (fun hNext => ?_)
      clear hK K hHeld
      have hHeld := hNext
      clear hNext
      (try simp only [Act.put, List.setIfInBounds_toArray, List.set_cons_zero, List.set_cons_succ])
      refine' wpAnyH_take (i := 10) (oi := { dst := some 4, op := Go.Op.assign (Go.Operand.tmp 25), type := 43, pos := "line.go:128", after := #[{ on := 9, ground := Go.Ground.data }, { on := 9, ground := Go.Ground.chain }, { on := 0, ground := Go.Ground.phase }, { on := 1, ground := Go.Ground.phase }, { on := 2, ground := Go.Ground.phase }, { on := 3, ground := Go.Ground.phase }, { on := 4, ground := Go.Ground.phase }, { on := 5, ground := Go.Ground.phase }, { on := 6, ground := Go.Ground.phase }, { on := 7, ground := Go.Ground.phase }, { on := 8, ground := Go.Ground.phase }, { on := 9, ground := Go.Ground.phase }], guard := none }) (v := _) rfl (by kernel_rfl) (by kernel_rfl) (by kernel_rfl) (fun _ _ _ h => h) (Or.inl ⟨by rfl, ?hy8⟩) (by assumption) ?hr8
      case hy8 => (intro _ hSw; (try dsimp only at hSw); go_simp <;> with_reducible rfl)
      simp only [Act.put, List.setIfInBounds_toArray, List.set_cons_zero, List.set_cons_succ]
      refine wpAnyH_done (by kernel_rfl) ?_ _
      go_wp2
      go_ret
      exact ⟨v', rfl, HS3.out, by rw [← HV.out]; exact HG3.out⟩
end
end Go.Proofs.Ytllojgmlngfibaa.Ln
