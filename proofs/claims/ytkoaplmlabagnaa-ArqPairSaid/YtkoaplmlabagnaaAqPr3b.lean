/-
  The first frame of the other line is heard by the first side, or lost. Condition: they lie where they say; what is heard is in order.
-/
import Derived.Test.YtkoaplmlabagnaaAqPr3
namespace Go.Proofs.Ytkoaplmlabagnaa.Aq
open Go.RowKit Go.Proofs.Ytkoaplmlabagnaa.Base Go.Proofs.Ytkoaplmlabagnaa.Mem
set_option maxHeartbeats 2000000 in
theorem fhand1_none (w0 w : World) (b : Bk) (x : Pr) (lost : Bool) (h : PrE w0 b x w) (hL : x.L1 = []) :
    Calls Try.prog 38 #[ptr b.tb, .int .i64 1, .bool lost] w fun e w' => e = .returned (.bool false) ∧ w = w' := by
  obtain ⟨q0, q1, v0, v1, tag, h⟩ := h
  have c1 : w.cell? ⟨b.tb, 1, none⟩ = some (two b.bl) := cell_of h.blk rfl
  obtain ⟨oa, cap, hv⟩ := h.l1.form
  rw [hL, List.map_nil, List.length_nil] at hv
  have cl : w.cell? ⟨b.bl, 1, none⟩ = some (.slice oa 0 cap) := by rw [← hv]; exact cell_of h.l rfl
  clear h hL hv
  go_enter Try.func38, Try.ntmps38
  go_wp2
  go_ret
  exact ⟨rfl, rfl⟩
set_option maxHeartbeats 4000000 in
set_option maxRecDepth 100000 in
theorem fhand1_lost (w0 w : World) (b : Bk) (x : Pr) (h : PrE w0 b x w) (fc : Bool) (fk : Nat) (fpf : Bool) (fns fnr : Nat) (fi : ByteArray) (j rr : Nat) (r : List Gf) (hL : x.L1 = ⟨⟨fc, fk, fpf, fns, fnr, fi⟩, j, rr⟩ :: r) :
    Calls Try.prog 38 #[ptr b.tb, .int .i64 1, .bool true] w fun e w' => e = .returned (.bool true) ∧ PrE w0 b { x with L1 := r } w' := by
  obtain ⟨q0, q1, v0, v1, tag, h⟩ := h
  have c1 : w.cell? ⟨b.tb, 1, none⟩ = some (two b.bl) := cell_of h.blk rfl
  obtain ⟨oa, cap, hv⟩ := h.l1.form
  have hql : Qz 7 fcF w w0.heap.size v1 ((⟨fc, fk, fpf, fns, fnr, fi⟩ : Fm) :: r.map Gf.f) := by have := h.l1; rw [hL] at this; exact this
  rw [hL, List.map_cons, List.length_cons, List.length_map] at hv
  rw [hv] at hql
  obtain ⟨g, off, ho, hn, hcap, hmax, hbg, hgw, ⟨e0, e1, e2, e3, e4, e5, e6⟩, hq⟩ := qz7_cons hql
  subst ho
  dsimp only at e1 e2 e3 e4 e5 e6
  have cl : w.cell? ⟨b.bl, 1, none⟩ = some (.slice (some ⟨g, off, none⟩) (r.length + 1) cap) := by rw [← hv]; exact cell_of h.l rfl
  obtain ⟨z, hz⟩ : ∃ z, r.length = z := ⟨_, rfl⟩
  rw [List.length_map] at hq
  rw [hz] at hcap hq cl hv
  have HV := Lib.hid hv
  have HQ := Lib.hid hq
  have HX := Lib.hid h
  have z0 : ((z + 1 : Nat) : Int) = (z : Int) + 1 := by omega
  have z1 : ¬ (z : Int) + 1 = 0 := by omega
  have z2 : decide ((0 : Int) < (z : Int) + 1) = true := decide_eq_true (by omega)
  have z3 : (((z : Int) + 1) == 0) = false := beq_false (by omega)
  have z4 : (0 : Int) < (z : Int) + 1 := by omega
  have z5 : (1 : Int) ≤ (z : Int) + 1 := by omega
  have hbl := lt_heap h.l
  have htb := lt_heap h.blk
  have hne : b.tb ≠ b.bl := fun e => by have := h.t0; have := h.tl; rw [e] at *; omega
  clear h hL hv hq hql hn hz
  go_enter Try.func38, Try.ntmps38
  go_wp2_with fail
  have H1 : Hid (PrAt w0 b x q0 q1 v0 v1 tag (w.alloc (.cells #[.int .u8 0, .bool fc, .int .u8 (fk : Int), .bool fpf, .int .u8 (fns : Int), .int .u8 (fnr : Int), .string fi] TF (0, 0))).drew) := Lib.hid (HX.out.on ((show Below w.heap.size w (w.alloc (.cells #[.int .u8 0, .bool fc, .int .u8 (fk : Int), .bool fpf, .int .u8 (fns : Int), .int .u8 (fnr : Int), .string fi] TF (0, 0))) from nest_below w [_]).drew))
  have HQ1 : Hid (Qz 7 fcF (w.alloc (.cells #[.int .u8 0, .bool fc, .int .u8 (fk : Int), .bool fpf, .int .u8 (fns : Int), .int .u8 (fnr : Int), .string fi] TF (0, 0))).drew w0.heap.size (.slice (if cap = 1 then some ⟨g, off, none⟩ else some ⟨g, off + 7, none⟩) z (cap - 1)) (r.map Gf.f)) := Lib.hid (HQ.out.below ((show Below w.heap.size w (w.alloc (.cells #[.int .u8 0, .bool fc, .int .u8 (fk : Int), .bool fpf, .int .u8 (fns : Int), .int .u8 (fnr : Int), .string fi] TF (0, 0))) from nest_below w [_]).drew))
  have hA1 : (w.alloc (.cells #[.int .u8 0, .bool fc, .int .u8 (fk : Int), .bool fpf, .int .u8 (fns : Int), .int .u8 (fnr : Int), .string fi] TF (0, 0))).drew.heap[w.heap.size]? = some (.cells #[.int .u8 0, .bool fc, .int .u8 (fk : Int), .bool fpf, .int .u8 (fns : Int), .int .u8 (fnr : Int), .string fi] TF (0, 0)) := nest w [_] 0 _ rfl
  obtain ⟨fb, hfb⟩ : ∃ n, n = w.heap.size := ⟨_, rfl⟩
  have HFB := Lib.hid hfb
  rw [← hfb] at hA1 hbl htb
  simp only [← hfb]
  clear hfb e0 e1 e2 e3 e4 e5 e6 hgw HQ c1 cl
  generalize hw1 : (w.alloc (.cells #[.int .u8 0, .bool fc, .int .u8 (fk : Int), .bool fpf, .int .u8 (fns : Int), .int .u8 (fnr : Int), .string fi] TF (0, 0))).drew = w1 at H1 HQ1 hA1
  have b2 : w1.cell? ⟨b.bl, 1, none⟩ = some (.slice (some ⟨g, off, none⟩) (z + 1) cap) := by rw [← HV.out]; exact cell_of H1.out.l rfl
  have f2 : ∀ i, w1.frozen? ⟨b.bl, i, none⟩ = false := fun _ => free_of H1.out.l
  have HTB := Lib.hid H1.out.blk
  refine wp_region_held_drew (S := (fun w' => w'.heap[b.tb]? = some (.cells #[two b.ba, two b.bl, two b.bu, two b.bk, .bool x.bad] 46 (0, 0)))) (by kernel_rfl) (hw1 ▸ HTB.out) (fun hHeld => ?_)
  refine' wpAnyH_take (i := 0) (oi := { dst := some 27, op := Go.Op.move (Go.Operand.tmp 0), type := 40, pos := "law.go:134", after := #[], guard := none }) (v := _) rfl (by kernel_rfl) (by kernel_rfl) (by kernel_rfl) (fun _ _ _ h => h) (Or.inl ⟨by rfl, ?hy162⟩) (by assumption) ?hr162
  case hy162 => (intro _ hSw; (try dsimp only at hSw); go_simp <;> with_reducible rfl)
  simp only [Act.put, List.setIfInBounds_toArray, List.set_cons_zero, List.set_cons_succ]
  refine' wpAnyH_take (i := 1) (oi := { dst := some 28, op := Go.Op.nilCheck (Go.Operand.tmp 27), type := 0, pos := "law.go:134", after := #[{ on := 0, ground := Go.Ground.data }], guard := none }) (v := _) rfl (by kernel_rfl) (by kernel_rfl) (by kernel_rfl) (fun _ _ _ h => h) (Or.inl ⟨by rfl, ?hy163⟩) (by assumption) ?hr163
  case hy163 => (intro _ hSw; (try dsimp only at hSw); go_simp <;> with_reducible rfl)
  simp only [Act.put, List.setIfInBounds_toArray, List.set_cons_zero, List.set_cons_succ]
  refine' wpAnyH_take (i := 2) (oi := { dst := some 29, op := Go.Op.fieldAddr 46 (Go.Operand.tmp 28) 1, type := 0, pos := "law.go:134", after := #[{ on := 1, ground := Go.Ground.data }], guard := none }) (v := _) rfl (by kernel_rfl) (by kernel_rfl) (by kernel_rfl) (fun _ _ _ h => h) (Or.inl ⟨by rfl, ?hy164⟩) (by assumption) ?hr164
  case hy164 => (intro _ hSw; (try dsimp only at hSw); go_simp <;> with_reducible rfl)
  simp only [Act.put, List.setIfInBounds_toArray, List.set_cons_zero, List.set_cons_succ]
  refine' wpAnyH_take (i := 3) (oi := { dst := some 30, op := Go.Op.load 43 (Go.Operand.tmp 29), type := 43, pos := "law.go:134", after := #[{ on := 2, ground := Go.Ground.data }], guard := none }) (v := _) rfl (by kernel_rfl) (by kernel_rfl) (by kernel_rfl) (fun _ _ _ h => h) (Or.inl ⟨by rfl, ?hy165⟩) (by assumption) ?hr165
  case hy165 => (intro _ hSw; (try dsimp only at hSw); have hc := cell_of (i := 1) (v := two b.bl) hSw rfl; go_simp <;> with_reducible rfl)
  simp only [Act.put, List.setIfInBounds_toArray, List.set_cons_zero, List.set_cons_succ]
  refine' wpAnyH_take (i := 4) (oi := { dst := some 31, op := Go.Op.move (Go.Operand.tmp 1), type := 3, pos := "law.go:134", after := #[], guard := none }) (v := _) rfl (by kernel_rfl) (by kernel_rfl) (by kernel_rfl) (fun _ _ _ h => h) (Or.inl ⟨by rfl, ?hy166⟩) (by assumption) ?hr166
  case hy166 => (intro _ hSw; (try dsimp only at hSw); go_simp <;> with_reducible rfl)
  simp only [Act.put, List.setIfInBounds_toArray, List.set_cons_zero, List.set_cons_succ]
  refine' wpAnyH_take (i := 5) (oi := { dst := some 32, op := Go.Op.move (Go.Operand.tmp 0), type := 40, pos := "law.go:134", after := #[], guard := none }) (v := _) rfl (by kernel_rfl) (by kernel_rfl) (by kernel_rfl) (fun _ _ _ h => h) (Or.inl ⟨by rfl, ?hy167⟩) (by assumption) ?hr167
  case hy167 => (intro _ hSw; (try dsimp only at hSw); go_simp <;> with_reducible rfl)
  simp only [Act.put, List.setIfInBounds_toArray, List.set_cons_zero, List.set_cons_succ]
  refine' wpAnyH_take (i := 6) (oi := { dst := some 33, op := Go.Op.nilCheck (Go.Operand.tmp 32), type := 0, pos := "law.go:134", after := #[{ on := 5, ground := Go.Ground.data }], guard := none }) (v := _) rfl (by kernel_rfl) (by kernel_rfl) (by kernel_rfl) (fun _ _ _ h => h) (Or.inl ⟨by rfl, ?hy168⟩) (by assumption) ?hr168
  case hy168 => (intro _ hSw; (try dsimp only at hSw); go_simp <;> with_reducible rfl)
  simp only [Act.put, List.setIfInBounds_toArray, List.set_cons_zero, List.set_cons_succ]
  refine' wpAnyH_take (i := 7) (oi := { dst := some 34, op := Go.Op.fieldAddr 46 (Go.Operand.tmp 33) 1, type := 0, pos := "law.go:134", after := #[{ on := 6, ground := Go.Ground.data }], guard := none }) (v := _) rfl (by kernel_rfl) (by kernel_rfl) (by kernel_rfl) (fun _ _ _ h => h) (Or.inl ⟨by rfl, ?hy169⟩) (by assumption) ?hr169
  case hy169 => (intro _ hSw; (try dsimp only at hSw); go_simp <;> with_reducible rfl)
  simp only [Act.put, List.setIfInBounds_toArray, List.set_cons_zero, List.set_cons_succ]
  refine' wpAnyH_take (i := 8) (oi := { dst := some 35, op := Go.Op.load 43 (Go.Operand.tmp 34), type := 43, pos := "law.go:134", after := #[{ on := 7, ground := Go.Ground.data }], guard := none }) (v := _) rfl (by kernel_rfl) (by kernel_rfl) (by kernel_rfl) (fun _ _ _ h => h) (Or.inl ⟨by rfl, ?hy170⟩) (by assumption) ?hr170
  case hy170 => (intro _ hSw; (try dsimp only at hSw); have hc := cell_of (i := 1) (v := two b.bl) hSw rfl; go_simp <;> with_reducible rfl)
  simp only [Act.put, List.setIfInBounds_toArray, List.set_cons_zero, List.set_cons_succ]
  refine' wpAnyH_take (i := 9) (oi := { dst := some 36, op := Go.Op.move (Go.Operand.tmp 1), type := 3, pos := "law.go:134", after := #[], guard := none }) (v := _) rfl (by kernel_rfl) (by kernel_rfl) (by kernel_rfl) (fun _ _ _ h => h) (Or.inl ⟨by rfl, ?hy171⟩) (by assumption) ?hr171
  case hy171 => (intro _ hSw; (try dsimp only at hSw); go_simp <;> with_reducible rfl)
  simp only [Act.put, List.setIfInBounds_toArray, List.set_cons_zero, List.set_cons_succ]
  refine' wpAnyH_take (i := 10) (oi := { dst := some 37, op := Go.Op.indexAddr 43 (Go.Operand.tmp 35) (Go.Operand.tmp 36), type := 0, pos := "law.go:134", after := #[{ on := 8, ground := Go.Ground.data }, { on := 9, ground := Go.Ground.data }], guard := none }) (v := _) rfl (by kernel_rfl) (by kernel_rfl) (by kernel_rfl) (fun _ _ _ h => h) (Or.inl ⟨by rfl, ?hy172⟩) (by assumption) ?hr172
  case hy172 => (intro _ hSw; (try dsimp only at hSw); go_simp <;> with_reducible rfl)
  simp only [Act.put, List.setIfInBounds_toArray, List.set_cons_zero, List.set_cons_succ]
  rw [hw1]
  clear hw1
  refine wpAnyH_ready (rs := [11]) (by kernel_rfl) (by simp) ?_
  refine AllReadyH.cons (o := { dst := some 38, op := Go.Op.load 88 (Go.Operand.tmp 37), type := 88, pos := "law.go:134", after := #[{ on := 10, ground := Go.Ground.data }], guard := none }) rfl (fun K hK => ?_) AllReadyH.nil
  go_simp
  refine hK.out _ _ HTB.out (fun hNext => ?_)
  clear hHeld
  clear hK K
  have hHeld := hNext
  clear hNext
  (try simp only [Act.put, List.setIfInBounds_toArray, List.set_cons_zero, List.set_cons_succ])
  by_cases hc1 : cap = 1
  · rw [if_pos hc1] at HQ1
    subst hc1
    obtain rfl : z = 0 := by omega
    refine' wpAnyH_take (i := 12) (oi := { dst := some 39, op := Go.Op.slice 88 (Go.Operand.tmp 38) (some (Go.Operand.const (Go.Value.int Go.IntKind.i64 1))) none none, type := 88, pos := "law.go:134", after := #[{ on := 11, ground := Go.Ground.data }], guard := none }) (v := _) rfl (by kernel_rfl) (by kernel_rfl) (by kernel_rfl) (fun _ _ _ h => h) (Or.inl ⟨by rfl, ?hy173⟩) (by assumption) ?hr173
    case hy173 => (intro _ hSw; (try dsimp only at hSw); go_simp <;> with_reducible rfl)
    simp only [Act.put, List.setIfInBounds_toArray, List.set_cons_zero, List.set_cons_succ]
    refine' wpAnyH_take (i := 13) (oi := { dst := some 40, op := Go.Op.indexAddr 43 (Go.Operand.tmp 30) (Go.Operand.tmp 31), type := 0, pos := "law.go:134", after := #[{ on := 3, ground := Go.Ground.data }, { on := 4, ground := Go.Ground.data }, { on := 0, ground := Go.Ground.phase }, { on := 1, ground := Go.Ground.phase }, { on := 2, ground := Go.Ground.phase }, { on := 3, ground := Go.Ground.phase }, { on := 4, ground := Go.Ground.phase }, { on := 5, ground := Go.Ground.phase }, { on := 6, ground := Go.Ground.phase }, { on := 7, ground := Go.Ground.phase }, { on := 8, ground := Go.Ground.phase }, { on := 9, ground := Go.Ground.phase }, { on := 10, ground := Go.Ground.phase }, { on := 11, ground := Go.Ground.phase }, { on := 12, ground := Go.Ground.phase }], guard := none }) (v := _) rfl (by kernel_rfl) (by kernel_rfl) (by kernel_rfl) (fun _ _ _ h => h) (Or.inl ⟨by rfl, ?hy174⟩) (by assumption) ?hr174
    case hy174 => (intro _ hSw; (try dsimp only at hSw); go_simp <;> with_reducible rfl)
    simp only [Act.put, List.setIfInBounds_toArray, List.set_cons_zero, List.set_cons_succ]
    refine wpAnyH_ready (rs := [14]) (by kernel_rfl) (by simp) ?_
    refine AllReadyH.cons (o := { dst := none, op := Go.Op.store 88 (Go.Operand.tmp 40) (Go.Operand.tmp 39), type := 0, pos := "law.go:134", after := #[{ on := 13, ground := Go.Ground.data }, { on := 12, ground := Go.Ground.data }, { on := 0, ground := Go.Ground.phase }, { on := 1, ground := Go.Ground.phase }, { on := 2, ground := Go.Ground.phase }, { on := 3, ground := Go.Ground.phase }, { on := 4, ground := Go.Ground.phase }, { on := 5, ground := Go.Ground.phase }, { on := 6, ground := Go.Ground.phase }, { on := 7, ground := Go.Ground.phase }, { on := 8, ground := Go.Ground.phase }, { on := 9, ground := Go.Ground.phase }, { on := 10, ground := Go.Ground.phase }, { on := 11, ground := Go.Ground.phase }, { on := 12, ground := Go.Ground.phase }], guard := none }) rfl (fun K hK => ?_) AllReadyH.nil
    go_simp
    refine hK.out _ _ ((set_other hne _).trans HTB.out) (fun hNext => ?_)
    clear hNext hHeld
    refine wpAnyH_done (by kernel_rfl) ?_ _
    clear hK K
    have hgr : w1.grownBy w1 v1.ownBlock := ⟨rfl, rfl, rfl, Nat.le_refl _, fun _ _ _ => rfl⟩
    have how : (Value.ownBlock (.slice (some ⟨g, off, none⟩) 0 0)) = v1.ownBlock := by rw [HV.out]; rfl
    have H2 := Lib.hid (H1.out.put1 hgr HQ1.out (Or.inl how))
    have hA2 : (w1.setCell ⟨b.bl, 1, none⟩ (.slice (some ⟨g, off, none⟩) 0 0)).heap[fb]? = some (.cells #[.int .u8 0, .bool fc, .int .u8 (fk : Int), .bool fpf, .int .u8 (fns : Int), .int .u8 (fnr : Int), .string fi] TF (0, 0)) := (set_other (by omega) _).trans hA1
    clear HQ1 H1 hA1 b2 f2 HTB hgr how
    generalize w1.setCell ⟨b.bl, 1, none⟩ (.slice (some ⟨g, off, none⟩) 0 0) = w2 at H2 hA2 ⊢
    generalize retag w1 tag 8 = tag2 at H2
    go_wp2
    go_ret
    exact ⟨rfl, _, _, _, _, _, H2.out⟩
  · rw [if_neg hc1] at HQ1
    refine' wpAnyH_take (i := 12) (oi := { dst := some 39, op := Go.Op.slice 88 (Go.Operand.tmp 38) (some (Go.Operand.const (Go.Value.int Go.IntKind.i64 1))) none none, type := 88, pos := "law.go:134", after := #[{ on := 11, ground := Go.Ground.data }], guard := none }) (v := _) rfl (by kernel_rfl) (by kernel_rfl) (by kernel_rfl) (fun _ _ _ h => h) (Or.inl ⟨by rfl, ?hy175⟩) (by assumption) ?hr175
    case hy175 => (intro _ hSw; (try dsimp only at hSw); go_simp <;> with_reducible rfl)
    simp only [Act.put, List.setIfInBounds_toArray, List.set_cons_zero, List.set_cons_succ]
    refine' wpAnyH_take (i := 13) (oi := { dst := some 40, op := Go.Op.indexAddr 43 (Go.Operand.tmp 30) (Go.Operand.tmp 31), type := 0, pos := "law.go:134", after := #[{ on := 3, ground := Go.Ground.data }, { on := 4, ground := Go.Ground.data }, { on := 0, ground := Go.Ground.phase }, { on := 1, ground := Go.Ground.phase }, { on := 2, ground := Go.Ground.phase }, { on := 3, ground := Go.Ground.phase }, { on := 4, ground := Go.Ground.phase }, { on := 5, ground := Go.Ground.phase }, { on := 6, ground := Go.Ground.phase }, { on := 7, ground := Go.Ground.phase }, { on := 8, ground := Go.Ground.phase }, { on := 9, ground := Go.Ground.phase }, { on := 10, ground := Go.Ground.phase }, { on := 11, ground := Go.Ground.phase }, { on := 12, ground := Go.Ground.phase }], guard := none }) (v := _) rfl (by kernel_rfl) (by kernel_rfl) (by kernel_rfl) (fun _ _ _ h => h) (Or.inl ⟨by rfl, ?hy176⟩) (by assumption) ?hr176
    case hy176 => (intro _ hSw; (try dsimp only at hSw); go_simp <;> with_reducible rfl)
    simp only [Act.put, List.setIfInBounds_toArray, List.set_cons_zero, List.set_cons_succ]
    refine wpAnyH_ready (rs := [14]) (by kernel_rfl) (by simp) ?_
    refine AllReadyH.cons (o := { dst := none, op := Go.Op.store 88 (Go.Operand.tmp 40) (Go.Operand.tmp 39), type := 0, pos := "law.go:134", after := #[{ on := 13, ground := Go.Ground.data }, { on := 12, ground := Go.Ground.data }, { on := 0, ground := Go.Ground.phase }, { on := 1, ground := Go.Ground.phase }, { on := 2, ground := Go.Ground.phase }, { on := 3, ground := Go.Ground.phase }, { on := 4, ground := Go.Ground.phase }, { on := 5, ground := Go.Ground.phase }, { on := 6, ground := Go.Ground.phase }, { on := 7, ground := Go.Ground.phase }, { on := 8, ground := Go.Ground.phase }, { on := 9, ground := Go.Ground.phase }, { on := 10, ground := Go.Ground.phase }, { on := 11, ground := Go.Ground.phase }, { on := 12, ground := Go.Ground.phase }], guard := none }) rfl (fun K hK => ?_) AllReadyH.nil
    go_simp
    refine hK.out _ _ ((set_other hne _).trans HTB.out) (fun hNext => ?_)
    clear hNext hHeld
    refine wpAnyH_done (by kernel_rfl) ?_ _
    clear hK K
    have hgr : w1.grownBy w1 v1.ownBlock := ⟨rfl, rfl, rfl, Nat.le_refl _, fun _ _ _ => rfl⟩
    have how : (Value.ownBlock (.slice (some ⟨g, off + 7, none⟩) z (cap - 1))) = v1.ownBlock := by rw [HV.out]; rfl
    have H2 := Lib.hid (H1.out.put1 hgr HQ1.out (Or.inl how))
    have hA2 : (w1.setCell ⟨b.bl, 1, none⟩ (.slice (some ⟨g, off + 7, none⟩) z (cap - 1))).heap[fb]? = some (.cells #[.int .u8 0, .bool fc, .int .u8 (fk : Int), .bool fpf, .int .u8 (fns : Int), .int .u8 (fnr : Int), .string fi] TF (0, 0)) := (set_other (by omega) _).trans hA1
    clear HQ1 H1 hA1 b2 f2 HTB hgr how
    generalize w1.setCell ⟨b.bl, 1, none⟩ (.slice (some ⟨g, off + 7, none⟩) z (cap - 1)) = w2 at H2 hA2 ⊢
    generalize retag w1 tag 8 = tag2 at H2
    go_wp2
    go_ret
    exact ⟨rfl, _, _, _, _, _, H2.out⟩
set_option maxHeartbeats 16000000 in
set_option maxRecDepth 100000 in
theorem fhand1_no (w0 w : World) (b : Bk) (x : Pr) (N : Nat) (h : PrE w0 b x w) (hI : Inv N x.A) (fc : Bool) (fk : Nat) (fpf : Bool) (fns fnr : Nat) (fi : ByteArray) (j rr : Nat) (r : List Gf) (hL : x.L1 = ⟨⟨fc, fk, fpf, fns, fnr, fi⟩, j, rr⟩ :: r) (hns : fns < 256) (hnr : fnr < 256) (X2 : Sd) (mi : ByteArray) (ma : Nat) (hh : hear ⟨fc, fk, fpf, fns, fnr, fi⟩ x.A = (X2, ⟨mi, false, ma, false⟩)) (hkb : x.k1 ≤ 1000000) :
    Calls Try.prog 38 #[ptr b.tb, .int .i64 1, .bool false] w fun e w' => e = .returned (.bool true) ∧ PrE w0 b { x with A := X2, L1 := r } w' := by
  have HKB := Lib.hid hkb
  have HCH : Hid (∀ (w' : World) (u : Value), PAt w' b.p0 (Ps.of x.A) u → Calls Try.prog 24 #[ptr b.p0, fmvd 0 ⟨fc, fk, fpf, fns, fnr, fi⟩] w' fun e w'' => e = .returned (.agg #[.string mi, .bool false, .int .i64 (ma : Int), .bool false]) ∧ ∃ u', QDo b.p0 (Ps.of X2) u u' w' w'') := Lib.hid fun w' u h' => by
    have := fhear w' b.p0 0 (Ps.of x.A) u ⟨fc, fk, fpf, fns, fnr, fi⟩ h' hI.pfit hns hnr
    rw [hear_of _ x.A hI.ord, hh] at this
    exact this
  have vw0 : IntKind.i64.wrap 0 = 0 := by decide
  have vw1 : IntKind.i64.wrap 1 = 1 := by decide
  clear hI hns hnr hh hkb
  obtain ⟨q0, q1, v0, v1, tag, h⟩ := h
  have CH : Hid (∀ w' : World, PAt w' b.p0 (Ps.of x.A) q0 → Calls Try.prog 24 #[ptr b.p0, fmvd 0 ⟨fc, fk, fpf, fns, fnr, fi⟩] w' fun e w'' => e = .returned (.agg #[.string mi, .bool false, .int .i64 (ma : Int), .bool false]) ∧ ∃ u', QDo b.p0 (Ps.of X2) q0 u' w' w'') := Lib.hid fun w' => HCH.out w' q0
  clear HCH
  have c1 : w.cell? ⟨b.tb, 1, none⟩ = some (two b.bl) := cell_of h.blk rfl
  obtain ⟨oa, cap, hv⟩ := h.l1.form
  have hql : Qz 7 fcF w w0.heap.size v1 ((⟨fc, fk, fpf, fns, fnr, fi⟩ : Fm) :: r.map Gf.f) := by have := h.l1; rw [hL] at this; exact this
  rw [hL, List.map_cons, List.length_cons, List.length_map] at hv
  rw [hv] at hql
  obtain ⟨g, off, ho, hn, hcap, hmax, hbg, hgw, ⟨e0, e1, e2, e3, e4, e5, e6⟩, hq⟩ := qz7_cons hql
  subst ho
  dsimp only at e1 e2 e3 e4 e5 e6
  have cl : w.cell? ⟨b.bl, 1, none⟩ = some (.slice (some ⟨g, off, none⟩) (r.length + 1) cap) := by rw [← hv]; exact cell_of h.l rfl
  obtain ⟨z, hz⟩ : ∃ z, r.length = z := ⟨_, rfl⟩
  rw [List.length_map] at hq
  rw [hz] at hcap hq cl hv
  have HV := Lib.hid hv
  have HQ := Lib.hid hq
  have HX := Lib.hid h
  have z0 : ((z + 1 : Nat) : Int) = (z : Int) + 1 := by omega
  have z1 : ¬ (z : Int) + 1 = 0 := by omega
  have z2 : decide ((0 : Int) < (z : Int) + 1) = true := decide_eq_true (by omega)
  have z3 : (((z : Int) + 1) == 0) = false := beq_false (by omega)
  have z4 : (0 : Int) < (z : Int) + 1 := by omega
  have z5 : (1 : Int) ≤ (z : Int) + 1 := by omega
  have hbl := lt_heap h.l
  have htb := lt_heap h.blk
  have hne : b.tb ≠ b.bl := fun e => by have := h.t0; have := h.tl; rw [e] at *; omega
  clear h hL hv hq hql hn hz
  go_enter Try.func38, Try.ntmps38
  go_wp2_with fail
  have H1 : Hid (PrAt w0 b x q0 q1 v0 v1 tag (w.alloc (.cells #[.int .u8 0, .bool fc, .int .u8 (fk : Int), .bool fpf, .int .u8 (fns : Int), .int .u8 (fnr : Int), .string fi] TF (0, 0))).drew) := Lib.hid (HX.out.on ((show Below w.heap.size w (w.alloc (.cells #[.int .u8 0, .bool fc, .int .u8 (fk : Int), .bool fpf, .int .u8 (fns : Int), .int .u8 (fnr : Int), .string fi] TF (0, 0))) from nest_below w [_]).drew))
  have HQ1 : Hid (Qz 7 fcF (w.alloc (.cells #[.int .u8 0, .bool fc, .int .u8 (fk : Int), .bool fpf, .int .u8 (fns : Int), .int .u8 (fnr : Int), .string fi] TF (0, 0))).drew w0.heap.size (.slice (if cap = 1 then some ⟨g, off, none⟩ else some ⟨g, off + 7, none⟩) z (cap - 1)) (r.map Gf.f)) := Lib.hid (HQ.out.below ((show Below w.heap.size w (w.alloc (.cells #[.int .u8 0, .bool fc, .int .u8 (fk : Int), .bool fpf, .int .u8 (fns : Int), .int .u8 (fnr : Int), .string fi] TF (0, 0))) from nest_below w [_]).drew))
  have hA1 : (w.alloc (.cells #[.int .u8 0, .bool fc, .int .u8 (fk : Int), .bool fpf, .int .u8 (fns : Int), .int .u8 (fnr : Int), .string fi] TF (0, 0))).drew.heap[w.heap.size]? = some (.cells #[.int .u8 0, .bool fc, .int .u8 (fk : Int), .bool fpf, .int .u8 (fns : Int), .int .u8 (fnr : Int), .string fi] TF (0, 0)) := nest w [_] 0 _ rfl
  obtain ⟨fb, hfb⟩ : ∃ n, n = w.heap.size := ⟨_, rfl⟩
  have HFB := Lib.hid hfb
  rw [← hfb] at hA1 hbl htb
  simp only [← hfb]
  clear hfb e0 e1 e2 e3 e4 e5 e6 hgw HQ c1 cl
  generalize hw1 : (w.alloc (.cells #[.int .u8 0, .bool fc, .int .u8 (fk : Int), .bool fpf, .int .u8 (fns : Int), .int .u8 (fnr : Int), .string fi] TF (0, 0))).drew = w1 at H1 HQ1 hA1
  have b2 : w1.cell? ⟨b.bl, 1, none⟩ = some (.slice (some ⟨g, off, none⟩) (z + 1) cap) := by rw [← HV.out]; exact cell_of H1.out.l rfl
  have f2 : ∀ i, w1.frozen? ⟨b.bl, i, none⟩ = false := fun _ => free_of H1.out.l
  have HTB := Lib.hid H1.out.blk
  refine wp_region_held_drew (S := (fun w' => w'.heap[b.tb]? = some (.cells #[two b.ba, two b.bl, two b.bu, two b.bk, .bool x.bad] 46 (0, 0)))) (by kernel_rfl) (hw1 ▸ HTB.out) (fun hHeld => ?_)
  refine' wpAnyH_take (i := 0) (oi := { dst := some 27, op := Go.Op.move (Go.Operand.tmp 0), type := 40, pos := "law.go:134", after := #[], guard := none }) (v := _) rfl (by kernel_rfl) (by kernel_rfl) (by kernel_rfl) (fun _ _ _ h => h) (Or.inl ⟨by rfl, ?hy177⟩) (by assumption) ?hr177
  case hy177 => (intro _ hSw; (try dsimp only at hSw); go_simp <;> with_reducible rfl)
  simp only [Act.put, List.setIfInBounds_toArray, List.set_cons_zero, List.set_cons_succ]
  refine' wpAnyH_take (i := 1) (oi := { dst := some 28, op := Go.Op.nilCheck (Go.Operand.tmp 27), type := 0, pos := "law.go:134", after := #[{ on := 0, ground := Go.Ground.data }], guard := none }) (v := _) rfl (by kernel_rfl) (by kernel_rfl) (by kernel_rfl) (fun _ _ _ h => h) (Or.inl ⟨by rfl, ?hy178⟩) (by assumption) ?hr178
  case hy178 => (intro _ hSw; (try dsimp only at hSw); go_simp <;> with_reducible rfl)
  simp only [Act.put, List.setIfInBounds_toArray, List.set_cons_zero, List.set_cons_succ]
  refine' wpAnyH_take (i := 2) (oi := { dst := some 29, op := Go.Op.fieldAddr 46 (Go.Operand.tmp 28) 1, type := 0, pos := "law.go:134", after := #[{ on := 1, ground := Go.Ground.data }], guard := none }) (v := _) rfl (by kernel_rfl) (by kernel_rfl) (by kernel_rfl) (fun _ _ _ h => h) (Or.inl ⟨by rfl, ?hy179⟩) (by assumption) ?hr179
  case hy179 => (intro _ hSw; (try dsimp only at hSw); go_simp <;> with_reducible rfl)
  simp only [Act.put, List.setIfInBounds_toArray, List.set_cons_zero, List.set_cons_succ]
  refine' wpAnyH_take (i := 3) (oi := { dst := some 30, op := Go.Op.load 43 (Go.Operand.tmp 29), type := 43, pos := "law.go:134", after := #[{ on := 2, ground := Go.Ground.data }], guard := none }) (v := _) rfl (by kernel_rfl) (by kernel_rfl) (by kernel_rfl) (fun _ _ _ h => h) (Or.inl ⟨by rfl, ?hy180⟩) (by assumption) ?hr180
  case hy180 => (intro _ hSw; (try dsimp only at hSw); have hc := cell_of (i := 1) (v := two b.bl) hSw rfl; go_simp <;> with_reducible rfl)
  simp only [Act.put, List.setIfInBounds_toArray, List.set_cons_zero, List.set_cons_succ]
  refine' wpAnyH_take (i := 4) (oi := { dst := some 31, op := Go.Op.move (Go.Operand.tmp 1), type := 3, pos := "law.go:134", after := #[], guard := none }) (v := _) rfl (by kernel_rfl) (by kernel_rfl) (by kernel_rfl) (fun _ _ _ h => h) (Or.inl ⟨by rfl, ?hy181⟩) (by assumption) ?hr181
  case hy181 => (intro _ hSw; (try dsimp only at hSw); go_simp <;> with_reducible rfl)
  simp only [Act.put, List.setIfInBounds_toArray, List.set_cons_zero, List.set_cons_succ]
  refine' wpAnyH_take (i := 5) (oi := { dst := some 32, op := Go.Op.move (Go.Operand.tmp 0), type := 40, pos := "law.go:134", after := #[], guard := none }) (v := _) rfl (by kernel_rfl) (by kernel_rfl) (by kernel_rfl) (fun _ _ _ h => h) (Or.inl ⟨by rfl, ?hy182⟩) (by assumption) ?hr182
  case hy182 => (intro _ hSw; (try dsimp only at hSw); go_simp <;> with_reducible rfl)
  simp only [Act.put, List.setIfInBounds_toArray, List.set_cons_zero, List.set_cons_succ]
  refine' wpAnyH_take (i := 6) (oi := { dst := some 33, op := Go.Op.nilCheck (Go.Operand.tmp 32), type := 0, pos := "law.go:134", after := #[{ on := 5, ground := Go.Ground.data }], guard := none }) (v := _) rfl (by kernel_rfl) (by kernel_rfl) (by kernel_rfl) (fun _ _ _ h => h) (Or.inl ⟨by rfl, ?hy183⟩) (by assumption) ?hr183
  case hy183 => (intro _ hSw; (try dsimp only at hSw); go_simp <;> with_reducible rfl)
  simp only [Act.put, List.setIfInBounds_toArray, List.set_cons_zero, List.set_cons_succ]
  refine' wpAnyH_take (i := 7) (oi := { dst := some 34, op := Go.Op.fieldAddr 46 (Go.Operand.tmp 33) 1, type := 0, pos := "law.go:134", after := #[{ on := 6, ground := Go.Ground.data }], guard := none }) (v := _) rfl (by kernel_rfl) (by kernel_rfl) (by kernel_rfl) (fun _ _ _ h => h) (Or.inl ⟨by rfl, ?hy184⟩) (by assumption) ?hr184
  case hy184 => (intro _ hSw; (try dsimp only at hSw); go_simp <;> with_reducible rfl)
  simp only [Act.put, List.setIfInBounds_toArray, List.set_cons_zero, List.set_cons_succ]
  refine' wpAnyH_take (i := 8) (oi := { dst := some 35, op := Go.Op.load 43 (Go.Operand.tmp 34), type := 43, pos := "law.go:134", after := #[{ on := 7, ground := Go.Ground.data }], guard := none }) (v := _) rfl (by kernel_rfl) (by kernel_rfl) (by kernel_rfl) (fun _ _ _ h => h) (Or.inl ⟨by rfl, ?hy185⟩) (by assumption) ?hr185
  case hy185 => (intro _ hSw; (try dsimp only at hSw); have hc := cell_of (i := 1) (v := two b.bl) hSw rfl; go_simp <;> with_reducible rfl)
  simp only [Act.put, List.setIfInBounds_toArray, List.set_cons_zero, List.set_cons_succ]
  refine' wpAnyH_take (i := 9) (oi := { dst := some 36, op := Go.Op.move (Go.Operand.tmp 1), type := 3, pos := "law.go:134", after := #[], guard := none }) (v := _) rfl (by kernel_rfl) (by kernel_rfl) (by kernel_rfl) (fun _ _ _ h => h) (Or.inl ⟨by rfl, ?hy186⟩) (by assumption) ?hr186
  case hy186 => (intro _ hSw; (try dsimp only at hSw); go_simp <;> with_reducible rfl)
  simp only [Act.put, List.setIfInBounds_toArray, List.set_cons_zero, List.set_cons_succ]
  refine' wpAnyH_take (i := 10) (oi := { dst := some 37, op := Go.Op.indexAddr 43 (Go.Operand.tmp 35) (Go.Operand.tmp 36), type := 0, pos := "law.go:134", after := #[{ on := 8, ground := Go.Ground.data }, { on := 9, ground := Go.Ground.data }], guard := none }) (v := _) rfl (by kernel_rfl) (by kernel_rfl) (by kernel_rfl) (fun _ _ _ h => h) (Or.inl ⟨by rfl, ?hy187⟩) (by assumption) ?hr187
  case hy187 => (intro _ hSw; (try dsimp only at hSw); go_simp <;> with_reducible rfl)
  simp only [Act.put, List.setIfInBounds_toArray, List.set_cons_zero, List.set_cons_succ]
  rw [hw1]
  clear hw1
  refine wpAnyH_ready (rs := [11]) (by kernel_rfl) (by simp) ?_
  refine AllReadyH.cons (o := { dst := some 38, op := Go.Op.load 88 (Go.Operand.tmp 37), type := 88, pos := "law.go:134", after := #[{ on := 10, ground := Go.Ground.data }], guard := none }) rfl (fun K hK => ?_) AllReadyH.nil
  go_simp
  refine hK.out _ _ HTB.out (fun hNext => ?_)
  clear hHeld
  clear hK K
  have hHeld := hNext
  clear hNext
  (try simp only [Act.put, List.setIfInBounds_toArray, List.set_cons_zero, List.set_cons_succ])
  by_cases hc1 : cap = 1
  · rw [if_pos hc1] at HQ1
    subst hc1
    obtain rfl : z = 0 := by omega
    refine' wpAnyH_take (i := 12) (oi := { dst := some 39, op := Go.Op.slice 88 (Go.Operand.tmp 38) (some (Go.Operand.const (Go.Value.int Go.IntKind.i64 1))) none none, type := 88, pos := "law.go:134", after := #[{ on := 11, ground := Go.Ground.data }], guard := none }) (v := _) rfl (by kernel_rfl) (by kernel_rfl) (by kernel_rfl) (fun _ _ _ h => h) (Or.inl ⟨by rfl, ?hy188⟩) (by assumption) ?hr188
    case hy188 => (intro _ hSw; (try dsimp only at hSw); go_simp <;> with_reducible rfl)
    simp only [Act.put, List.setIfInBounds_toArray, List.set_cons_zero, List.set_cons_succ]
    refine' wpAnyH_take (i := 13) (oi := { dst := some 40, op := Go.Op.indexAddr 43 (Go.Operand.tmp 30) (Go.Operand.tmp 31), type := 0, pos := "law.go:134", after := #[{ on := 3, ground := Go.Ground.data }, { on := 4, ground := Go.Ground.data }, { on := 0, ground := Go.Ground.phase }, { on := 1, ground := Go.Ground.phase }, { on := 2, ground := Go.Ground.phase }, { on := 3, ground := Go.Ground.phase }, { on := 4, ground := Go.Ground.phase }, { on := 5, ground := Go.Ground.phase }, { on := 6, ground := Go.Ground.phase }, { on := 7, ground := Go.Ground.phase }, { on := 8, ground := Go.Ground.phase }, { on := 9, ground := Go.Ground.phase }, { on := 10, ground := Go.Ground.phase }, { on := 11, ground := Go.Ground.phase }, { on := 12, ground := Go.Ground.phase }], guard := none }) (v := _) rfl (by kernel_rfl) (by kernel_rfl) (by kernel_rfl) (fun _ _ _ h => h) (Or.inl ⟨by rfl, ?hy189⟩) (by assumption) ?hr189
    case hy189 => (intro _ hSw; (try dsimp only at hSw); go_simp <;> with_reducible rfl)
    simp only [Act.put, List.setIfInBounds_toArray, List.set_cons_zero, List.set_cons_succ]
    refine wpAnyH_ready (rs := [14]) (by kernel_rfl) (by simp) ?_
    refine AllReadyH.cons (o := { dst := none, op := Go.Op.store 88 (Go.Operand.tmp 40) (Go.Operand.tmp 39), type := 0, pos := "law.go:134", after := #[{ on := 13, ground := Go.Ground.data }, { on := 12, ground := Go.Ground.data }, { on := 0, ground := Go.Ground.phase }, { on := 1, ground := Go.Ground.phase }, { on := 2, ground := Go.Ground.phase }, { on := 3, ground := Go.Ground.phase }, { on := 4, ground := Go.Ground.phase }, { on := 5, ground := Go.Ground.phase }, { on := 6, ground := Go.Ground.phase }, { on := 7, ground := Go.Ground.phase }, { on := 8, ground := Go.Ground.phase }, { on := 9, ground := Go.Ground.phase }, { on := 10, ground := Go.Ground.phase }, { on := 11, ground := Go.Ground.phase }, { on := 12, ground := Go.Ground.phase }], guard := none }) rfl (fun K hK => ?_) AllReadyH.nil
    go_simp
    refine hK.out _ _ ((set_other hne _).trans HTB.out) (fun hNext => ?_)
    clear hNext hHeld
    refine wpAnyH_done (by kernel_rfl) ?_ _
    clear hK K
    have hgr : w1.grownBy w1 v1.ownBlock := ⟨rfl, rfl, rfl, Nat.le_refl _, fun _ _ _ => rfl⟩
    have how : (Value.ownBlock (.slice (some ⟨g, off, none⟩) 0 0)) = v1.ownBlock := by rw [HV.out]; rfl
    have H2 := Lib.hid (H1.out.put1 hgr HQ1.out (Or.inl how))
    have hA2 : (w1.setCell ⟨b.bl, 1, none⟩ (.slice (some ⟨g, off, none⟩) 0 0)).heap[fb]? = some (.cells #[.int .u8 0, .bool fc, .int .u8 (fk : Int), .bool fpf, .int .u8 (fns : Int), .int .u8 (fnr : Int), .string fi] TF (0, 0)) := (set_other (by omega) _).trans hA1
    clear HQ1 H1 hA1 b2 f2 HTB hgr how
    generalize w1.setCell ⟨b.bl, 1, none⟩ (.slice (some ⟨g, off, none⟩) 0 0) = w2 at H2 hA2 ⊢
    generalize retag w1 tag 8 = tag2 at H2
    go_wp2_with fail
    have H3 := Lib.hid (H2.out.on (w' := w2.drew) ⟨rfl, rfl, rfl, Nat.le_refl _, fun _ _ => rfl⟩)
    have hA3 : w2.drew.heap[fb]? = some (.cells #[.int .u8 0, .bool fc, .int .u8 (fk : Int), .bool fpf, .int .u8 (fns : Int), .int .u8 (fnr : Int), .string fi] TF (0, 0)) := hA2
    clear H2 hA2
    refine wp_region_held_drew (S := (fun w' => w'.heap[fb]? = some (.cells #[.int .u8 0, .bool fc, .int .u8 (fk : Int), .bool fpf, .int .u8 (fns : Int), .int .u8 (fnr : Int), .string fi] TF (0, 0)) ∧ w'.heap[b.tb]? = some (.cells #[two b.ba, two b.bl, two b.bu, two b.bk, .bool x.bad] 46 (0, 0)) ∧ w'.heap[b.ba]? = some (.cells #[ptr b.p0, ptr b.p1] 28 (0, 0)))) (by kernel_rfl) ⟨hA3, H3.out.blk, H3.out.a⟩ (fun hHeld => ?_)
    refine' wpAnyH_take (i := 0) (oi := { dst := some 42, op := Go.Op.move (Go.Operand.tmp 0), type := 40, pos := "law.go:138", after := #[], guard := none }) (v := _) rfl (by kernel_rfl) (by kernel_rfl) (by kernel_rfl) (fun _ _ _ h => h) (Or.inl ⟨by rfl, ?hy190⟩) (by assumption) ?hr190
    case hy190 => (intro _ hSw; (try dsimp only at hSw); go_simp <;> with_reducible rfl)
    simp only [Act.put, List.setIfInBounds_toArray, List.set_cons_zero, List.set_cons_succ]
    refine' wpAnyH_take (i := 1) (oi := { dst := some 43, op := Go.Op.nilCheck (Go.Operand.tmp 42), type := 0, pos := "law.go:138", after := #[{ on := 0, ground := Go.Ground.data }], guard := none }) (v := _) rfl (by kernel_rfl) (by kernel_rfl) (by kernel_rfl) (fun _ _ _ h => h) (Or.inl ⟨by rfl, ?hy191⟩) (by assumption) ?hr191
    case hy191 => (intro _ hSw; (try dsimp only at hSw); go_simp <;> with_reducible rfl)
    simp only [Act.put, List.setIfInBounds_toArray, List.set_cons_zero, List.set_cons_succ]
    refine' wpAnyH_take (i := 2) (oi := { dst := some 44, op := Go.Op.fieldAddr 46 (Go.Operand.tmp 43) 0, type := 0, pos := "law.go:138", after := #[{ on := 1, ground := Go.Ground.data }], guard := none }) (v := _) rfl (by kernel_rfl) (by kernel_rfl) (by kernel_rfl) (fun _ _ _ h => h) (Or.inl ⟨by rfl, ?hy192⟩) (by assumption) ?hr192
    case hy192 => (intro _ hSw; (try dsimp only at hSw); go_simp <;> with_reducible rfl)
    simp only [Act.put, List.setIfInBounds_toArray, List.set_cons_zero, List.set_cons_succ]
    refine' wpAnyH_take (i := 3) (oi := { dst := some 45, op := Go.Op.load 42 (Go.Operand.tmp 44), type := 42, pos := "law.go:138", after := #[{ on := 2, ground := Go.Ground.data }], guard := none }) (v := _) rfl (by kernel_rfl) (by kernel_rfl) (by kernel_rfl) (fun _ _ _ h => h) (Or.inl ⟨by rfl, ?hy193⟩) (by assumption) ?hr193
    case hy193 => (intro _ hSw; (try dsimp only at hSw); have hc := cell_of (i := 0) (v := two b.ba) hSw.2.1 rfl; go_simp <;> with_reducible rfl)
    simp only [Act.put, List.setIfInBounds_toArray, List.set_cons_zero, List.set_cons_succ]
    refine' wpAnyH_take (i := 4) (oi := { dst := some 46, op := Go.Op.move (Go.Operand.tmp 1), type := 3, pos := "law.go:138", after := #[], guard := none }) (v := _) rfl (by kernel_rfl) (by kernel_rfl) (by kernel_rfl) (fun _ _ _ h => h) (Or.inl ⟨by rfl, ?hy194⟩) (by assumption) ?hr194
    case hy194 => (intro _ hSw; (try dsimp only at hSw); go_simp <;> with_reducible rfl)
    simp only [Act.put, List.setIfInBounds_toArray, List.set_cons_zero, List.set_cons_succ]
    refine' wpAnyH_take (i := 5) (oi := { dst := some 47, op := Go.Op.binOp Go.BinOp.sub 3 (Go.Operand.const (Go.Value.int Go.IntKind.i64 1)) (Go.Operand.tmp 46) 3, type := 3, pos := "law.go:138", after := #[{ on := 4, ground := Go.Ground.data }], guard := none }) (v := _) rfl (by kernel_rfl) (by kernel_rfl) (by kernel_rfl) (fun _ _ _ h => h) (Or.inl ⟨by rfl, ?hy195⟩) (by assumption) ?hr195
    case hy195 => (intro _ hSw; (try dsimp only at hSw); go_simp <;> with_reducible rfl)
    simp only [Act.put, List.setIfInBounds_toArray, List.set_cons_zero, List.set_cons_succ]
    refine' wpAnyH_take (i := 6) (oi := { dst := some 48, op := Go.Op.indexAddr 42 (Go.Operand.tmp 45) (Go.Operand.tmp 47), type := 0, pos := "law.go:138", after := #[{ on := 3, ground := Go.Ground.data }, { on := 5, ground := Go.Ground.data }], guard := none }) (v := _) rfl (by kernel_rfl) (by kernel_rfl) (by kernel_rfl) (fun _ _ _ h => h) (Or.inl ⟨by rfl, ?hy196⟩) (by assumption) ?hr196
    case hy196 => (intro _ hSw; (try dsimp only at hSw); go_simp <;> with_reducible rfl)
    simp only [Act.put, List.setIfInBounds_toArray, List.set_cons_zero, List.set_cons_succ]
    refine' wpAnyH_take (i := 7) (oi := { dst := some 49, op := Go.Op.load 28 (Go.Operand.tmp 48), type := 28, pos := "law.go:138", after := #[{ on := 6, ground := Go.Ground.data }], guard := none }) (v := _) rfl (by kernel_rfl) (by kernel_rfl) (by kernel_rfl) (fun _ _ _ h => h) (Or.inl ⟨by rfl, ?hy197⟩) (by assumption) ?hr197
    case hy197 => (intro _ hSw; (try dsimp only at hSw); have hc := cell_of (i := 0) (v := ptr b.p0) hSw.2.2 rfl; go_simp <;> with_reducible rfl)
    simp only [Act.put, List.setIfInBounds_toArray, List.set_cons_zero, List.set_cons_succ]
    refine' wpAnyH_take (i := 8) (oi := { dst := some 50, op := Go.Op.load 25 (Go.Operand.tmp 7), type := 25, pos := "law.go:138", after := #[], guard := none }) (v := _) rfl (by kernel_rfl) (by kernel_rfl) (by kernel_rfl) (fun _ _ _ h => h) (Or.inl ⟨by rfl, ?hy198⟩) (by assumption) ?hr198
    case hy198 => (intro _ hSw; (try dsimp only at hSw); obtain ⟨⟨y0, y1, y2, y3, y4, y5, y6⟩, -⟩ := cells7 hSw.1; go_simp <;> with_reducible rfl)
    simp only [Act.put, List.setIfInBounds_toArray, List.set_cons_zero, List.set_cons_succ]
    clear hHeld
    have hA4 : w2.drew.heap[fb]? = some (.cells #[.int .u8 0, .bool fc, .int .u8 (fk : Int), .bool fpf, .int .u8 (fns : Int), .int .u8 (fnr : Int), .string fi] TF (0, 0)) := hA3
    clear hA3
    generalize w2.drew = w3 at H3 hA4 ⊢
    have HS3 := Lib.hid (show w3.heap[fb]? = some (.cells #[.int .u8 0, .bool fc, .int .u8 (fk : Int), .bool fpf, .int .u8 (fns : Int), .int .u8 (fnr : Int), .string fi] TF (0, 0)) ∧ w3.heap[b.tb]? = some (.cells #[two b.ba, two b.bl, two b.bu, two b.bk, .bool x.bad] 46 (0, 0)) ∧ w3.heap[b.ba]? = some (.cells #[ptr b.p0, ptr b.p1] 28 (0, 0)) from ⟨hA4, H3.out.blk, H3.out.a⟩)
    have HF3 := Lib.hid (show b.p0 ≠ fb ∧ b.p1 ≠ fb ∧ (∀ g, q0.ownBlock = some g → g ≠ fb) from ⟨fun e => by have := HX.out.s0.lt; have := HFB.out; omega, fun e => by have := HX.out.s1.lt; have := HFB.out; omega, fun g hg e => by have := (HX.out.s0.q.lt g hg).2; have := HFB.out; omega⟩)
    clear hA4
    refine wpAnyH_ready (rs := [9, 10]) (by kernel_rfl) (by simp) ?_
    refine AllReadyH.cons (o := { dst := some 51, op := Go.Op.call { callee := Go.Callee.value (Go.Operand.func 24), args := #[Go.Operand.tmp 49, Go.Operand.tmp 50], argTypes := #[28, 25] }, type := 56, pos := "law.go:138", after := #[{ on := 7, ground := Go.Ground.data }, { on := 8, ground := Go.Ground.data }], guard := none }) rfl (fun K hK => ?_) (AllReadyH.cons (o := { dst := some 8, op := Go.Op.alloc 56, type := 0, pos := "law.go:138", after := #[], guard := none }) rfl (fun K hK => ?_) AllReadyH.nil)
    · go_simp
      refine (CH.out _ H3.out.s0).mono ?_
      rintro _ w4 ⟨rfl, u, hd⟩
      have HN := Lib.hid (H3.out.doA hd)
      have HS4 := Lib.hid (show w4.heap[fb]? = some (.cells #[.int .u8 0, .bool fc, .int .u8 (fk : Int), .bool fpf, .int .u8 (fns : Int), .int .u8 (fnr : Int), .string fi] TF (0, 0)) ∧ w4.heap[b.tb]? = some (.cells #[two b.ba, two b.bl, two b.bu, two b.bk, .bool x.bad] 46 (0, 0)) ∧ w4.heap[b.ba]? = some (.cells #[ptr b.p0, ptr b.p1] 28 (0, 0)) from ⟨hd.chg.stays HS3.out.1 (fun e => by rcases e with e | e; exact HF3.out.1 e.symm; exact HF3.out.2.2 _ e rfl), HN.out.blk, HN.out.a⟩)
      go_wp2_with fail
      refine hK.out _ _ HS4.out (fun hNext => ?_)
      clear hd CH H3 HS3 HF3
      clear hK K
      have hHeld := hNext
      clear hNext
      (try simp only [Act.put, List.setIfInBounds_toArray, List.set_cons_zero, List.set_cons_succ])
      refine wpAnyH_ready (rs := [10]) (by kernel_rfl) (by simp) ?_
      refine AllReadyH.cons (o := { dst := some 8, op := Go.Op.alloc 56, type := 0, pos := "law.go:138", after := #[], guard := none }) rfl (fun K hK => ?_) AllReadyH.nil
      go_simp
      refine hK.out _ _ ⟨stays HS4.out.1 (nest_below w4 [noM TA]), stays HS4.out.2.1 (nest_below w4 [noM TA]), stays HS4.out.2.2 (nest_below w4 [noM TA])⟩ (fun hNext => ?_)
      clear hHeld
      clear hK K
      have hHeld := hNext
      clear hNext
      (try simp only [Act.put, List.setIfInBounds_toArray, List.set_cons_zero, List.set_cons_succ])
      have H5 := Lib.hid (HN.out.on (show Below w4.heap.size w4 (w4.alloc (.cells #[.string mi, .bool false, .int .i64 (ma : Int), .bool false] TA (0, 0))) from nest_below w4 [_]))
      have hac : (w4.alloc (.cells #[.string mi, .bool false, .int .i64 (ma : Int), .bool false] TA (0, 0))).heap[w4.heap.size]? = some (.cells #[.string mi, .bool false, .int .i64 (ma : Int), .bool false] TA (0, 0)) := nest w4 [_] 0 _ rfl
      refine wpAnyH_ready (rs := [11]) (by kernel_rfl) (by simp) ?_
      refine AllReadyH.cons (o := { dst := none, op := Go.Op.store 56 (Go.Operand.tmp 8) (Go.Operand.tmp 51), type := 0, pos := "law.go:138", after := #[{ on := 10, ground := Go.Ground.data }, { on := 9, ground := Go.Ground.data }, { on := 9, ground := Go.Ground.chain }, { on := 0, ground := Go.Ground.phase }, { on := 1, ground := Go.Ground.phase }, { on := 2, ground := Go.Ground.phase }, { on := 3, ground := Go.Ground.phase }, { on := 4, ground := Go.Ground.phase }, { on := 5, ground := Go.Ground.phase }, { on := 6, ground := Go.Ground.phase }, { on := 7, ground := Go.Ground.phase }, { on := 8, ground := Go.Ground.phase }, { on := 9, ground := Go.Ground.phase }, { on := 10, ground := Go.Ground.phase }], guard := none }) rfl (fun K hK => ?_) AllReadyH.nil
      go_simp
      go_wp2_with fail
      refine hK.out _ _ ⟨stays HS4.out.1 (nest_below w4 [(.cells #[.string mi, .bool false, .int .i64 (ma : Int), .bool false] TA (0, 0))]), H5.out.blk, H5.out.a⟩ (fun hNext => ?_)
      clear hHeld
      clear hK K
      have hHeld := hNext
      clear hNext
      (try simp only [Act.put, List.setIfInBounds_toArray, List.set_cons_zero, List.set_cons_succ])
      refine wpAnyH_done (by kernel_rfl) ?_ _
      clear hHeld
      have HK2 := Lib.hid (show b.bk ≠ w4.heap.size from fun e => by have := lt_heap HN.out.k; omega)
      clear HS4 HN
      generalize w4.alloc (.cells #[.string mi, .bool false, .int .i64 (ma : Int), .bool false] TA (0, 0)) = w5 at H5 hac ⊢
      generalize w4.heap.size = ab at hac HK2 ⊢
      generalize retag w3 tag2 5 = tag5 at H5
      obtain ⟨⟨a0, a1, a2, a3⟩, af⟩ := cells4 hac
      go_wp2
      go_ret
      exact ⟨rfl, _, _, _, _, _, H5.out⟩
    · go_simp
      refine hK.out _ _ ⟨stays HS3.out.1 (nest_below w3 [noM TA]), stays HS3.out.2.1 (nest_below w3 [noM TA]), stays HS3.out.2.2 (nest_below w3 [noM TA])⟩ (fun hNext => ?_)
      clear hK K
      have hHeld := hNext
      clear hNext
      (try simp only [Act.put, List.setIfInBounds_toArray, List.set_cons_zero, List.set_cons_succ])
      have H4 := Lib.hid ((H3.out.mark 9).on (show Below w3.heap.size w3 (w3.alloc (noM TA)) from nest_below w3 [_]))
      have HT4 := Lib.hid (show retag w3 tag2 9 w3.heap.size = 9 from retag_new (Nat.le_refl _))
      generalize retag w3 tag2 9 = tag4 at H4 HT4
      have hn4 : (w3.alloc (noM TA)).heap[w3.heap.size]? = some (noM TA) := nest w3 [_] 0 _ rfl
      have hs4 := size_alloc w3 (noM TA)
      have HS4 := Lib.hid (show (w3.alloc (noM TA)).heap[fb]? = some (.cells #[.int .u8 0, .bool fc, .int .u8 (fk : Int), .bool fpf, .int .u8 (fns : Int), .int .u8 (fnr : Int), .string fi] TF (0, 0)) from stays HS3.out.1 (nest_below w3 [noM TA]))
      refine wpAnyH_ready (rs := [9]) (by kernel_rfl) (by simp) ?_
      refine AllReadyH.cons (o := { dst := some 51, op := Go.Op.call { callee := Go.Callee.value (Go.Operand.func 24), args := #[Go.Operand.tmp 49, Go.Operand.tmp 50], argTypes := #[28, 25] }, type := 56, pos := "law.go:138", after := #[{ on := 7, ground := Go.Ground.data }, { on := 8, ground := Go.Ground.data }], guard := none }) rfl (fun K hK => ?_) AllReadyH.nil
      go_simp
      refine (CH.out _ H4.out.s0).mono ?_
      rintro _ w4 ⟨rfl, u, hd⟩
      have HN := Lib.hid (H4.out.doA hd)
      have hn5 : w4.heap[w3.heap.size]? = some (noM TA) := hd.chg.stays hn4 (fun e => by
        rcases e with e | e
        · have := H4.out.t5; have := HT4.out; rw [e] at this; omega
        · have := H4.out.o0 _ e; have := HT4.out; omega)
      have hf5 : w4.heap[fb]? = some (.cells #[.int .u8 0, .bool fc, .int .u8 (fk : Int), .bool fpf, .int .u8 (fns : Int), .int .u8 (fnr : Int), .string fi] TF (0, 0)) := hd.chg.stays HS4.out (fun e => by
        rcases e with e | e
        · exact HF3.out.1 e.symm
        · exact HF3.out.2.2 _ e rfl)
      have htn : retag (w3.alloc (noM TA)) tag4 5 w3.heap.size = 9 := by rw [retag_old (by omega)]; exact HT4.out
      go_wp2_with fail
      refine hK.out _ _ ⟨hf5, HN.out.blk, HN.out.a⟩ (fun hNext => ?_)
      clear hd CH hHeld hn4
      clear hK K
      have hHeld := hNext
      clear hNext
      (try simp only [Act.put, List.setIfInBounds_toArray, List.set_cons_zero, List.set_cons_succ])
      obtain ⟨⟨y0, y1, y2, y3⟩, yf⟩ := cells4 hn5
      have hac : ((((w4.setCell ⟨w3.heap.size, 0, none⟩ (.string mi)).setCell ⟨w3.heap.size, 1, none⟩ (.bool false)).setCell ⟨w3.heap.size, 2, none⟩ (.int .i64 (ma : Int))).setCell ⟨w3.heap.size, 3, none⟩ (.bool false)).heap[w3.heap.size]? = some (.cells #[.string mi, .bool false, .int .i64 (ma : Int), .bool false] TA (0, 0)) := set4_at hn5 (.string mi) (.bool false) (.int .i64 (ma : Int)) (.bool false)
      have hcc : Chg (fun k => k = w3.heap.size) w4 ((((w4.setCell ⟨w3.heap.size, 0, none⟩ (.string mi)).setCell ⟨w3.heap.size, 1, none⟩ (.bool false)).setCell ⟨w3.heap.size, 2, none⟩ (.int .i64 (ma : Int))).setCell ⟨w3.heap.size, 3, none⟩ (.bool false)) := chg_set4 (S := fun k => k = w3.heap.size) (Chg.refl _ w4) (fun _ => rfl) _ _ _ _
      have H5 := Lib.hid (HN.out.other hcc htn H3.out.below.size)
      refine wpAnyH_ready (rs := [11]) (by kernel_rfl) (by simp) ?_
      refine AllReadyH.cons (o := { dst := none, op := Go.Op.store 56 (Go.Operand.tmp 8) (Go.Operand.tmp 51), type := 0, pos := "law.go:138", after := #[{ on := 10, ground := Go.Ground.data }, { on := 9, ground := Go.Ground.data }, { on := 9, ground := Go.Ground.chain }, { on := 0, ground := Go.Ground.phase }, { on := 1, ground := Go.Ground.phase }, { on := 2, ground := Go.Ground.phase }, { on := 3, ground := Go.Ground.phase }, { on := 4, ground := Go.Ground.phase }, { on := 5, ground := Go.Ground.phase }, { on := 6, ground := Go.Ground.phase }, { on := 7, ground := Go.Ground.phase }, { on := 8, ground := Go.Ground.phase }, { on := 9, ground := Go.Ground.phase }, { on := 10, ground := Go.Ground.phase }], guard := none }) rfl (fun K hK => ?_) AllReadyH.nil
      go_simp
      go_wp2_with fail
      refine hK.out _ _ ⟨hcc.stays hf5 (fun e => by have := lt_heap HS3.out.1; omega), H5.out.blk, H5.out.a⟩ (fun hNext => ?_)
      clear hHeld
      clear hK K
      have hHeld := hNext
      clear hNext
      (try simp only [Act.put, List.setIfInBounds_toArray, List.set_cons_zero, List.set_cons_succ])
      refine wpAnyH_done (by kernel_rfl) ?_ _
      clear hHeld
      have HK2 := Lib.hid (show b.bk ≠ w3.heap.size from fun e => by have := lt_heap H3.out.k; omega)
      clear HS3 HF3 HS4 HN H4 HT4 hn5 hf5 htn hcc y0 y1 y2 y3 yf hs4 H3
      generalize ((((w4.setCell ⟨w3.heap.size, 0, none⟩ (.string mi)).setCell ⟨w3.heap.size, 1, none⟩ (.bool false)).setCell ⟨w3.heap.size, 2, none⟩ (.int .i64 (ma : Int))).setCell ⟨w3.heap.size, 3, none⟩ (.bool false)) = w5 at H5 hac ⊢
      generalize w3.heap.size = ab at hac HK2 ⊢
      generalize retag (w3.alloc (noM TA)) tag4 5 = tag5 at H5
      obtain ⟨⟨a0, a1, a2, a3⟩, af⟩ := cells4 hac
      go_wp2
      go_ret
      exact ⟨rfl, _, _, _, _, _, H5.out⟩
  · rw [if_neg hc1] at HQ1
    refine' wpAnyH_take (i := 12) (oi := { dst := some 39, op := Go.Op.slice 88 (Go.Operand.tmp 38) (some (Go.Operand.const (Go.Value.int Go.IntKind.i64 1))) none none, type := 88, pos := "law.go:134", after := #[{ on := 11, ground := Go.Ground.data }], guard := none }) (v := _) rfl (by kernel_rfl) (by kernel_rfl) (by kernel_rfl) (fun _ _ _ h => h) (Or.inl ⟨by rfl, ?hy219⟩) (by assumption) ?hr219
    case hy219 => (intro _ hSw; (try dsimp only at hSw); go_simp <;> with_reducible rfl)
    simp only [Act.put, List.setIfInBounds_toArray, List.set_cons_zero, List.set_cons_succ]
    refine' wpAnyH_take (i := 13) (oi := { dst := some 40, op := Go.Op.indexAddr 43 (Go.Operand.tmp 30) (Go.Operand.tmp 31), type := 0, pos := "law.go:134", after := #[{ on := 3, ground := Go.Ground.data }, { on := 4, ground := Go.Ground.data }, { on := 0, ground := Go.Ground.phase }, { on := 1, ground := Go.Ground.phase }, { on := 2, ground := Go.Ground.phase }, { on := 3, ground := Go.Ground.phase }, { on := 4, ground := Go.Ground.phase }, { on := 5, ground := Go.Ground.phase }, { on := 6, ground := Go.Ground.phase }, { on := 7, ground := Go.Ground.phase }, { on := 8, ground := Go.Ground.phase }, { on := 9, ground := Go.Ground.phase }, { on := 10, ground := Go.Ground.phase }, { on := 11, ground := Go.Ground.phase }, { on := 12, ground := Go.Ground.phase }], guard := none }) (v := _) rfl (by kernel_rfl) (by kernel_rfl) (by kernel_rfl) (fun _ _ _ h => h) (Or.inl ⟨by rfl, ?hy220⟩) (by assumption) ?hr220
    case hy220 => (intro _ hSw; (try dsimp only at hSw); go_simp <;> with_reducible rfl)
    simp only [Act.put, List.setIfInBounds_toArray, List.set_cons_zero, List.set_cons_succ]
    refine wpAnyH_ready (rs := [14]) (by kernel_rfl) (by simp) ?_
    refine AllReadyH.cons (o := { dst := none, op := Go.Op.store 88 (Go.Operand.tmp 40) (Go.Operand.tmp 39), type := 0, pos := "law.go:134", after := #[{ on := 13, ground := Go.Ground.data }, { on := 12, ground := Go.Ground.data }, { on := 0, ground := Go.Ground.phase }, { on := 1, ground := Go.Ground.phase }, { on := 2, ground := Go.Ground.phase }, { on := 3, ground := Go.Ground.phase }, { on := 4, ground := Go.Ground.phase }, { on := 5, ground := Go.Ground.phase }, { on := 6, ground := Go.Ground.phase }, { on := 7, ground := Go.Ground.phase }, { on := 8, ground := Go.Ground.phase }, { on := 9, ground := Go.Ground.phase }, { on := 10, ground := Go.Ground.phase }, { on := 11, ground := Go.Ground.phase }, { on := 12, ground := Go.Ground.phase }], guard := none }) rfl (fun K hK => ?_) AllReadyH.nil
    go_simp
    refine hK.out _ _ ((set_other hne _).trans HTB.out) (fun hNext => ?_)
    clear hNext hHeld
    refine wpAnyH_done (by kernel_rfl) ?_ _
    clear hK K
    have hgr : w1.grownBy w1 v1.ownBlock := ⟨rfl, rfl, rfl, Nat.le_refl _, fun _ _ _ => rfl⟩
    have how : (Value.ownBlock (.slice (some ⟨g, off + 7, none⟩) z (cap - 1))) = v1.ownBlock := by rw [HV.out]; rfl
    have H2 := Lib.hid (H1.out.put1 hgr HQ1.out (Or.inl how))
    have hA2 : (w1.setCell ⟨b.bl, 1, none⟩ (.slice (some ⟨g, off + 7, none⟩) z (cap - 1))).heap[fb]? = some (.cells #[.int .u8 0, .bool fc, .int .u8 (fk : Int), .bool fpf, .int .u8 (fns : Int), .int .u8 (fnr : Int), .string fi] TF (0, 0)) := (set_other (by omega) _).trans hA1
    clear HQ1 H1 hA1 b2 f2 HTB hgr how
    generalize w1.setCell ⟨b.bl, 1, none⟩ (.slice (some ⟨g, off + 7, none⟩) z (cap - 1)) = w2 at H2 hA2 ⊢
    generalize retag w1 tag 8 = tag2 at H2
    go_wp2_with fail
    have H3 := Lib.hid (H2.out.on (w' := w2.drew) ⟨rfl, rfl, rfl, Nat.le_refl _, fun _ _ => rfl⟩)
    have hA3 : w2.drew.heap[fb]? = some (.cells #[.int .u8 0, .bool fc, .int .u8 (fk : Int), .bool fpf, .int .u8 (fns : Int), .int .u8 (fnr : Int), .string fi] TF (0, 0)) := hA2
    clear H2 hA2
    refine wp_region_held_drew (S := (fun w' => w'.heap[fb]? = some (.cells #[.int .u8 0, .bool fc, .int .u8 (fk : Int), .bool fpf, .int .u8 (fns : Int), .int .u8 (fnr : Int), .string fi] TF (0, 0)) ∧ w'.heap[b.tb]? = some (.cells #[two b.ba, two b.bl, two b.bu, two b.bk, .bool x.bad] 46 (0, 0)) ∧ w'.heap[b.ba]? = some (.cells #[ptr b.p0, ptr b.p1] 28 (0, 0)))) (by kernel_rfl) ⟨hA3, H3.out.blk, H3.out.a⟩ (fun hHeld => ?_)
    refine' wpAnyH_take (i := 0) (oi := { dst := some 42, op := Go.Op.move (Go.Operand.tmp 0), type := 40, pos := "law.go:138", after := #[], guard := none }) (v := _) rfl (by kernel_rfl) (by kernel_rfl) (by kernel_rfl) (fun _ _ _ h => h) (Or.inl ⟨by rfl, ?hy221⟩) (by assumption) ?hr221
    case hy221 => (intro _ hSw; (try dsimp only at hSw); go_simp <;> with_reducible rfl)
    simp only [Act.put, List.setIfInBounds_toArray, List.set_cons_zero, List.set_cons_succ]
    refine' wpAnyH_take (i := 1) (oi := { dst := some 43, op := Go.Op.nilCheck (Go.Operand.tmp 42), type := 0, pos := "law.go:138", after := #[{ on := 0, ground := Go.Ground.data }], guard := none }) (v := _) rfl (by kernel_rfl) (by kernel_rfl) (by kernel_rfl) (fun _ _ _ h => h) (Or.inl ⟨by rfl, ?hy222⟩) (by assumption) ?hr222
    case hy222 => (intro _ hSw; (try dsimp only at hSw); go_simp <;> with_reducible rfl)
    simp only [Act.put, List.setIfInBounds_toArray, List.set_cons_zero, List.set_cons_succ]
    refine' wpAnyH_take (i := 2) (oi := { dst := some 44, op := Go.Op.fieldAddr 46 (Go.Operand.tmp 43) 0, type := 0, pos := "law.go:138", after := #[{ on := 1, ground := Go.Ground.data }], guard := none }) (v := _) rfl (by kernel_rfl) (by kernel_rfl) (by kernel_rfl) (fun _ _ _ h => h) (Or.inl ⟨by rfl, ?hy223⟩) (by assumption) ?hr223
    case hy223 => (intro _ hSw; (try dsimp only at hSw); go_simp <;> with_reducible rfl)
    simp only [Act.put, List.setIfInBounds_toArray, List.set_cons_zero, List.set_cons_succ]
    refine' wpAnyH_take (i := 3) (oi := { dst := some 45, op := Go.Op.load 42 (Go.Operand.tmp 44), type := 42, pos := "law.go:138", after := #[{ on := 2, ground := Go.Ground.data }], guard := none }) (v := _) rfl (by kernel_rfl) (by kernel_rfl) (by kernel_rfl) (fun _ _ _ h => h) (Or.inl ⟨by rfl, ?hy224⟩) (by assumption) ?hr224
    case hy224 => (intro _ hSw; (try dsimp only at hSw); have hc := cell_of (i := 0) (v := two b.ba) hSw.2.1 rfl; go_simp <;> with_reducible rfl)
    simp only [Act.put, List.setIfInBounds_toArray, List.set_cons_zero, List.set_cons_succ]
    refine' wpAnyH_take (i := 4) (oi := { dst := some 46, op := Go.Op.move (Go.Operand.tmp 1), type := 3, pos := "law.go:138", after := #[], guard := none }) (v := _) rfl (by kernel_rfl) (by kernel_rfl) (by kernel_rfl) (fun _ _ _ h => h) (Or.inl ⟨by rfl, ?hy225⟩) (by assumption) ?hr225
    case hy225 => (intro _ hSw; (try dsimp only at hSw); go_simp <;> with_reducible rfl)
    simp only [Act.put, List.setIfInBounds_toArray, List.set_cons_zero, List.set_cons_succ]
    refine' wpAnyH_take (i := 5) (oi := { dst := some 47, op := Go.Op.binOp Go.BinOp.sub 3 (Go.Operand.const (Go.Value.int Go.IntKind.i64 1)) (Go.Operand.tmp 46) 3, type := 3, pos := "law.go:138", after := #[{ on := 4, ground := Go.Ground.data }], guard := none }) (v := _) rfl (by kernel_rfl) (by kernel_rfl) (by kernel_rfl) (fun _ _ _ h => h) (Or.inl ⟨by rfl, ?hy226⟩) (by assumption) ?hr226
    case hy226 => (intro _ hSw; (try dsimp only at hSw); go_simp <;> with_reducible rfl)
    simp only [Act.put, List.setIfInBounds_toArray, List.set_cons_zero, List.set_cons_succ]
    refine' wpAnyH_take (i := 6) (oi := { dst := some 48, op := Go.Op.indexAddr 42 (Go.Operand.tmp 45) (Go.Operand.tmp 47), type := 0, pos := "law.go:138", after := #[{ on := 3, ground := Go.Ground.data }, { on := 5, ground := Go.Ground.data }], guard := none }) (v := _) rfl (by kernel_rfl) (by kernel_rfl) (by kernel_rfl) (fun _ _ _ h => h) (Or.inl ⟨by rfl, ?hy227⟩) (by assumption) ?hr227
    case hy227 => (intro _ hSw; (try dsimp only at hSw); go_simp <;> with_reducible rfl)
    simp only [Act.put, List.setIfInBounds_toArray, List.set_cons_zero, List.set_cons_succ]
    refine' wpAnyH_take (i := 7) (oi := { dst := some 49, op := Go.Op.load 28 (Go.Operand.tmp 48), type := 28, pos := "law.go:138", after := #[{ on := 6, ground := Go.Ground.data }], guard := none }) (v := _) rfl (by kernel_rfl) (by kernel_rfl) (by kernel_rfl) (fun _ _ _ h => h) (Or.inl ⟨by rfl, ?hy228⟩) (by assumption) ?hr228
    case hy228 => (intro _ hSw; (try dsimp only at hSw); have hc := cell_of (i := 0) (v := ptr b.p0) hSw.2.2 rfl; go_simp <;> with_reducible rfl)
    simp only [Act.put, List.setIfInBounds_toArray, List.set_cons_zero, List.set_cons_succ]
    refine' wpAnyH_take (i := 8) (oi := { dst := some 50, op := Go.Op.load 25 (Go.Operand.tmp 7), type := 25, pos := "law.go:138", after := #[], guard := none }) (v := _) rfl (by kernel_rfl) (by kernel_rfl) (by kernel_rfl) (fun _ _ _ h => h) (Or.inl ⟨by rfl, ?hy229⟩) (by assumption) ?hr229
    case hy229 => (intro _ hSw; (try dsimp only at hSw); obtain ⟨⟨y0, y1, y2, y3, y4, y5, y6⟩, -⟩ := cells7 hSw.1; go_simp <;> with_reducible rfl)
    simp only [Act.put, List.setIfInBounds_toArray, List.set_cons_zero, List.set_cons_succ]
    clear hHeld
    have hA4 : w2.drew.heap[fb]? = some (.cells #[.int .u8 0, .bool fc, .int .u8 (fk : Int), .bool fpf, .int .u8 (fns : Int), .int .u8 (fnr : Int), .string fi] TF (0, 0)) := hA3
    clear hA3
    generalize w2.drew = w3 at H3 hA4 ⊢
    have HS3 := Lib.hid (show w3.heap[fb]? = some (.cells #[.int .u8 0, .bool fc, .int .u8 (fk : Int), .bool fpf, .int .u8 (fns : Int), .int .u8 (fnr : Int), .string fi] TF (0, 0)) ∧ w3.heap[b.tb]? = some (.cells #[two b.ba, two b.bl, two b.bu, two b.bk, .bool x.bad] 46 (0, 0)) ∧ w3.heap[b.ba]? = some (.cells #[ptr b.p0, ptr b.p1] 28 (0, 0)) from ⟨hA4, H3.out.blk, H3.out.a⟩)
    have HF3 := Lib.hid (show b.p0 ≠ fb ∧ b.p1 ≠ fb ∧ (∀ g, q0.ownBlock = some g → g ≠ fb) from ⟨fun e => by have := HX.out.s0.lt; have := HFB.out; omega, fun e => by have := HX.out.s1.lt; have := HFB.out; omega, fun g hg e => by have := (HX.out.s0.q.lt g hg).2; have := HFB.out; omega⟩)
    clear hA4
    refine wpAnyH_ready (rs := [9, 10]) (by kernel_rfl) (by simp) ?_
    refine AllReadyH.cons (o := { dst := some 51, op := Go.Op.call { callee := Go.Callee.value (Go.Operand.func 24), args := #[Go.Operand.tmp 49, Go.Operand.tmp 50], argTypes := #[28, 25] }, type := 56, pos := "law.go:138", after := #[{ on := 7, ground := Go.Ground.data }, { on := 8, ground := Go.Ground.data }], guard := none }) rfl (fun K hK => ?_) (AllReadyH.cons (o := { dst := some 8, op := Go.Op.alloc 56, type := 0, pos := "law.go:138", after := #[], guard := none }) rfl (fun K hK => ?_) AllReadyH.nil)
    · go_simp
      refine (CH.out _ H3.out.s0).mono ?_
      rintro _ w4 ⟨rfl, u, hd⟩
      have HN := Lib.hid (H3.out.doA hd)
      have HS4 := Lib.hid (show w4.heap[fb]? = some (.cells #[.int .u8 0, .bool fc, .int .u8 (fk : Int), .bool fpf, .int .u8 (fns : Int), .int .u8 (fnr : Int), .string fi] TF (0, 0)) ∧ w4.heap[b.tb]? = some (.cells #[two b.ba, two b.bl, two b.bu, two b.bk, .bool x.bad] 46 (0, 0)) ∧ w4.heap[b.ba]? = some (.cells #[ptr b.p0, ptr b.p1] 28 (0, 0)) from ⟨hd.chg.stays HS3.out.1 (fun e => by rcases e with e | e; exact HF3.out.1 e.symm; exact HF3.out.2.2 _ e rfl), HN.out.blk, HN.out.a⟩)
      go_wp2_with fail
      refine hK.out _ _ HS4.out (fun hNext => ?_)
      clear hd CH H3 HS3 HF3
      clear hK K
      have hHeld := hNext
      clear hNext
      (try simp only [Act.put, List.setIfInBounds_toArray, List.set_cons_zero, List.set_cons_succ])
      refine wpAnyH_ready (rs := [10]) (by kernel_rfl) (by simp) ?_
      refine AllReadyH.cons (o := { dst := some 8, op := Go.Op.alloc 56, type := 0, pos := "law.go:138", after := #[], guard := none }) rfl (fun K hK => ?_) AllReadyH.nil
      go_simp
      refine hK.out _ _ ⟨stays HS4.out.1 (nest_below w4 [noM TA]), stays HS4.out.2.1 (nest_below w4 [noM TA]), stays HS4.out.2.2 (nest_below w4 [noM TA])⟩ (fun hNext => ?_)
      clear hHeld
      clear hK K
      have hHeld := hNext
      clear hNext
      (try simp only [Act.put, List.setIfInBounds_toArray, List.set_cons_zero, List.set_cons_succ])
      have H5 := Lib.hid (HN.out.on (show Below w4.heap.size w4 (w4.alloc (.cells #[.string mi, .bool false, .int .i64 (ma : Int), .bool false] TA (0, 0))) from nest_below w4 [_]))
      have hac : (w4.alloc (.cells #[.string mi, .bool false, .int .i64 (ma : Int), .bool false] TA (0, 0))).heap[w4.heap.size]? = some (.cells #[.string mi, .bool false, .int .i64 (ma : Int), .bool false] TA (0, 0)) := nest w4 [_] 0 _ rfl
      refine wpAnyH_ready (rs := [11]) (by kernel_rfl) (by simp) ?_
      refine AllReadyH.cons (o := { dst := none, op := Go.Op.store 56 (Go.Operand.tmp 8) (Go.Operand.tmp 51), type := 0, pos := "law.go:138", after := #[{ on := 10, ground := Go.Ground.data }, { on := 9, ground := Go.Ground.data }, { on := 9, ground := Go.Ground.chain }, { on := 0, ground := Go.Ground.phase }, { on := 1, ground := Go.Ground.phase }, { on := 2, ground := Go.Ground.phase }, { on := 3, ground := Go.Ground.phase }, { on := 4, ground := Go.Ground.phase }, { on := 5, ground := Go.Ground.phase }, { on := 6, ground := Go.Ground.phase }, { on := 7, ground := Go.Ground.phase }, { on := 8, ground := Go.Ground.phase }, { on := 9, ground := Go.Ground.phase }, { on := 10, ground := Go.Ground.phase }], guard := none }) rfl (fun K hK => ?_) AllReadyH.nil
      go_simp
      go_wp2_with fail
      refine hK.out _ _ ⟨stays HS4.out.1 (nest_below w4 [(.cells #[.string mi, .bool false, .int .i64 (ma : Int), .bool false] TA (0, 0))]), H5.out.blk, H5.out.a⟩ (fun hNext => ?_)
      clear hHeld
      clear hK K
      have hHeld := hNext
      clear hNext
      (try simp only [Act.put, List.setIfInBounds_toArray, List.set_cons_zero, List.set_cons_succ])
      refine wpAnyH_done (by kernel_rfl) ?_ _
      clear hHeld
      have HK2 := Lib.hid (show b.bk ≠ w4.heap.size from fun e => by have := lt_heap HN.out.k; omega)
      clear HS4 HN
      generalize w4.alloc (.cells #[.string mi, .bool false, .int .i64 (ma : Int), .bool false] TA (0, 0)) = w5 at H5 hac ⊢
      generalize w4.heap.size = ab at hac HK2 ⊢
      generalize retag w3 tag2 5 = tag5 at H5
      obtain ⟨⟨a0, a1, a2, a3⟩, af⟩ := cells4 hac
      go_wp2
      go_ret
      exact ⟨rfl, _, _, _, _, _, H5.out⟩
    · go_simp
      refine hK.out _ _ ⟨stays HS3.out.1 (nest_below w3 [noM TA]), stays HS3.out.2.1 (nest_below w3 [noM TA]), stays HS3.out.2.2 (nest_below w3 [noM TA])⟩ (fun hNext => ?_)
      clear hK K
      have hHeld := hNext
      clear hNext
      (try simp only [Act.put, List.setIfInBounds_toArray, List.set_cons_zero, List.set_cons_succ])
      have H4 := Lib.hid ((H3.out.mark 9).on (show Below w3.heap.size w3 (w3.alloc (noM TA)) from nest_below w3 [_]))
      have HT4 := Lib.hid (show retag w3 tag2 9 w3.heap.size = 9 from retag_new (Nat.le_refl _))
      generalize retag w3 tag2 9 = tag4 at H4 HT4
      have hn4 : (w3.alloc (noM TA)).heap[w3.heap.size]? = some (noM TA) := nest w3 [_] 0 _ rfl
      have hs4 := size_alloc w3 (noM TA)
      have HS4 := Lib.hid (show (w3.alloc (noM TA)).heap[fb]? = some (.cells #[.int .u8 0, .bool fc, .int .u8 (fk : Int), .bool fpf, .int .u8 (fns : Int), .int .u8 (fnr : Int), .string fi] TF (0, 0)) from stays HS3.out.1 (nest_below w3 [noM TA]))
      refine wpAnyH_ready (rs := [9]) (by kernel_rfl) (by simp) ?_
      refine AllReadyH.cons (o := { dst := some 51, op := Go.Op.call { callee := Go.Callee.value (Go.Operand.func 24), args := #[Go.Operand.tmp 49, Go.Operand.tmp 50], argTypes := #[28, 25] }, type := 56, pos := "law.go:138", after := #[{ on := 7, ground := Go.Ground.data }, { on := 8, ground := Go.Ground.data }], guard := none }) rfl (fun K hK => ?_) AllReadyH.nil
      go_simp
      refine (CH.out _ H4.out.s0).mono ?_
      rintro _ w4 ⟨rfl, u, hd⟩
      have HN := Lib.hid (H4.out.doA hd)
      have hn5 : w4.heap[w3.heap.size]? = some (noM TA) := hd.chg.stays hn4 (fun e => by
        rcases e with e | e
        · have := H4.out.t5; have := HT4.out; rw [e] at this; omega
        · have := H4.out.o0 _ e; have := HT4.out; omega)
      have hf5 : w4.heap[fb]? = some (.cells #[.int .u8 0, .bool fc, .int .u8 (fk : Int), .bool fpf, .int .u8 (fns : Int), .int .u8 (fnr : Int), .string fi] TF (0, 0)) := hd.chg.stays HS4.out (fun e => by
        rcases e with e | e
        · exact HF3.out.1 e.symm
        · exact HF3.out.2.2 _ e rfl)
      have htn : retag (w3.alloc (noM TA)) tag4 5 w3.heap.size = 9 := by rw [retag_old (by omega)]; exact HT4.out
      go_wp2_with fail
      refine hK.out _ _ ⟨hf5, HN.out.blk, HN.out.a⟩ (fun hNext => ?_)
      clear hd CH hHeld hn4
      clear hK K
      have hHeld := hNext
      clear hNext
      (try simp only [Act.put, List.setIfInBounds_toArray, List.set_cons_zero, List.set_cons_succ])
      obtain ⟨⟨y0, y1, y2, y3⟩, yf⟩ := cells4 hn5
      have hac : ((((w4.setCell ⟨w3.heap.size, 0, none⟩ (.string mi)).setCell ⟨w3.heap.size, 1, none⟩ (.bool false)).setCell ⟨w3.heap.size, 2, none⟩ (.int .i64 (ma : Int))).setCell ⟨w3.heap.size, 3, none⟩ (.bool false)).heap[w3.heap.size]? = some (.cells #[.string mi, .bool false, .int .i64 (ma : Int), .bool false] TA (0, 0)) := set4_at hn5 (.string mi) (.bool false) (.int .i64 (ma : Int)) (.bool false)
      have hcc : Chg (fun k => k = w3.heap.size) w4 ((((w4.setCell ⟨w3.heap.size, 0, none⟩ (.string mi)).setCell ⟨w3.heap.size, 1, none⟩ (.bool false)).setCell ⟨w3.heap.size, 2, none⟩ (.int .i64 (ma : Int))).setCell ⟨w3.heap.size, 3, none⟩ (.bool false)) := chg_set4 (S := fun k => k = w3.heap.size) (Chg.refl _ w4) (fun _ => rfl) _ _ _ _
      have H5 := Lib.hid (HN.out.other hcc htn H3.out.below.size)
      refine wpAnyH_ready (rs := [11]) (by kernel_rfl) (by simp) ?_
      refine AllReadyH.cons (o := { dst := none, op := Go.Op.store 56 (Go.Operand.tmp 8) (Go.Operand.tmp 51), type := 0, pos := "law.go:138", after := #[{ on := 10, ground := Go.Ground.data }, { on := 9, ground := Go.Ground.data }, { on := 9, ground := Go.Ground.chain }, { on := 0, ground := Go.Ground.phase }, { on := 1, ground := Go.Ground.phase }, { on := 2, ground := Go.Ground.phase }, { on := 3, ground := Go.Ground.phase }, { on := 4, ground := Go.Ground.phase }, { on := 5, ground := Go.Ground.phase }, { on := 6, ground := Go.Ground.phase }, { on := 7, ground := Go.Ground.phase }, { on := 8, ground := Go.Ground.phase }, { on := 9, ground := Go.Ground.phase }, { on := 10, ground := Go.Ground.phase }], guard := none }) rfl (fun K hK => ?_) AllReadyH.nil
      go_simp
      go_wp2_with fail
      refine hK.out _ _ ⟨hcc.stays hf5 (fun e => by have := lt_heap HS3.out.1; omega), H5.out.blk, H5.out.a⟩ (fun hNext => ?_)
      clear hHeld
      clear hK K
      have hHeld := hNext
      clear hNext
      (try simp only [Act.put, List.setIfInBounds_toArray, List.set_cons_zero, List.set_cons_succ])
      refine wpAnyH_done (by kernel_rfl) ?_ _
      clear hHeld
      have HK2 := Lib.hid (show b.bk ≠ w3.heap.size from fun e => by have := lt_heap H3.out.k; omega)
      clear HS3 HF3 HS4 HN H4 HT4 hn5 hf5 htn hcc y0 y1 y2 y3 yf hs4 H3
      generalize ((((w4.setCell ⟨w3.heap.size, 0, none⟩ (.string mi)).setCell ⟨w3.heap.size, 1, none⟩ (.bool false)).setCell ⟨w3.heap.size, 2, none⟩ (.int .i64 (ma : Int))).setCell ⟨w3.heap.size, 3, none⟩ (.bool false)) = w5 at H5 hac ⊢
      generalize w3.heap.size = ab at hac HK2 ⊢
      generalize retag (w3.alloc (noM TA)) tag4 5 = tag5 at H5
      obtain ⟨⟨a0, a1, a2, a3⟩, af⟩ := cells4 hac
      go_wp2
      go_ret
      exact ⟨rfl, _, _, _, _, _, H5.out⟩
set_option maxHeartbeats 16000000 in
set_option maxRecDepth 100000 in
theorem fhand1_yes (w0 w : World) (b : Bk) (x : Pr) (N : Nat) (h : PrE w0 b x w) (hI : Inv N x.A) (fc : Bool) (fk : Nat) (fpf : Bool) (fns fnr : Nat) (fi : ByteArray) (j rr : Nat) (r : List Gf) (hL : x.L1 = ⟨⟨fc, fk, fpf, fns, fnr, fi⟩, j, rr⟩ :: r) (hns : fns < 256) (hnr : fnr < 256) (X2 : Sd) (mi : ByteArray) (ma : Nat) (hh : hear ⟨fc, fk, fpf, fns, fnr, fi⟩ x.A = (X2, ⟨mi, true, ma, false⟩)) (hm : mi = inf x.k1) (hkb : x.k1 ≤ 1000000) :
    Calls Try.prog 38 #[ptr b.tb, .int .i64 1, .bool false] w fun e w' => e = .returned (.bool true) ∧ PrE w0 b { x with A := X2, L1 := r, k1 := x.k1 + 1 } w' := by
  have HM := Lib.hid hm
  have HKB := Lib.hid hkb
  have HCH : Hid (∀ (w' : World) (u : Value), PAt w' b.p0 (Ps.of x.A) u → Calls Try.prog 24 #[ptr b.p0, fmvd 0 ⟨fc, fk, fpf, fns, fnr, fi⟩] w' fun e w'' => e = .returned (.agg #[.string mi, .bool true, .int .i64 (ma : Int), .bool false]) ∧ ∃ u', QDo b.p0 (Ps.of X2) u u' w' w'') := Lib.hid fun w' u h' => by
    have := fhear w' b.p0 0 (Ps.of x.A) u ⟨fc, fk, fpf, fns, fnr, fi⟩ h' hI.pfit hns hnr
    rw [hear_of _ x.A hI.ord, hh] at this
    exact this
  have vw0 : IntKind.i64.wrap 0 = 0 := by decide
  have vw1 : IntKind.i64.wrap 1 = 1 := by decide
  clear hI hns hnr hh hm hkb
  obtain ⟨q0, q1, v0, v1, tag, h⟩ := h
  have CH : Hid (∀ w' : World, PAt w' b.p0 (Ps.of x.A) q0 → Calls Try.prog 24 #[ptr b.p0, fmvd 0 ⟨fc, fk, fpf, fns, fnr, fi⟩] w' fun e w'' => e = .returned (.agg #[.string mi, .bool true, .int .i64 (ma : Int), .bool false]) ∧ ∃ u', QDo b.p0 (Ps.of X2) q0 u' w' w'') := Lib.hid fun w' => HCH.out w' q0
  clear HCH
  have c1 : w.cell? ⟨b.tb, 1, none⟩ = some (two b.bl) := cell_of h.blk rfl
  obtain ⟨oa, cap, hv⟩ := h.l1.form
  have hql : Qz 7 fcF w w0.heap.size v1 ((⟨fc, fk, fpf, fns, fnr, fi⟩ : Fm) :: r.map Gf.f) := by have := h.l1; rw [hL] at this; exact this
  rw [hL, List.map_cons, List.length_cons, List.length_map] at hv
  rw [hv] at hql
  obtain ⟨g, off, ho, hn, hcap, hmax, hbg, hgw, ⟨e0, e1, e2, e3, e4, e5, e6⟩, hq⟩ := qz7_cons hql
  subst ho
  dsimp only at e1 e2 e3 e4 e5 e6
  have cl : w.cell? ⟨b.bl, 1, none⟩ = some (.slice (some ⟨g, off, none⟩) (r.length + 1) cap) := by rw [← hv]; exact cell_of h.l rfl
  obtain ⟨z, hz⟩ : ∃ z, r.length = z := ⟨_, rfl⟩
  rw [List.length_map] at hq
  rw [hz] at hcap hq cl hv
  have HV := Lib.hid hv
  have HQ := Lib.hid hq
  have HX := Lib.hid h
  have z0 : ((z + 1 : Nat) : Int) = (z : Int) + 1 := by omega
  have z1 : ¬ (z : Int) + 1 = 0 := by omega
  have z2 : decide ((0 : Int) < (z : Int) + 1) = true := decide_eq_true (by omega)
  have z3 : (((z : Int) + 1) == 0) = false := beq_false (by omega)
  have z4 : (0 : Int) < (z : Int) + 1 := by omega
  have z5 : (1 : Int) ≤ (z : Int) + 1 := by omega
  have hbl := lt_heap h.l
  have htb := lt_heap h.blk
  have hne : b.tb ≠ b.bl := fun e => by have := h.t0; have := h.tl; rw [e] at *; omega
  clear h hL hv hq hql hn hz
  go_enter Try.func38, Try.ntmps38
  go_wp2_with fail
  have H1 : Hid (PrAt w0 b x q0 q1 v0 v1 tag (w.alloc (.cells #[.int .u8 0, .bool fc, .int .u8 (fk : Int), .bool fpf, .int .u8 (fns : Int), .int .u8 (fnr : Int), .string fi] TF (0, 0))).drew) := Lib.hid (HX.out.on ((show Below w.heap.size w (w.alloc (.cells #[.int .u8 0, .bool fc, .int .u8 (fk : Int), .bool fpf, .int .u8 (fns : Int), .int .u8 (fnr : Int), .string fi] TF (0, 0))) from nest_below w [_]).drew))
  have HQ1 : Hid (Qz 7 fcF (w.alloc (.cells #[.int .u8 0, .bool fc, .int .u8 (fk : Int), .bool fpf, .int .u8 (fns : Int), .int .u8 (fnr : Int), .string fi] TF (0, 0))).drew w0.heap.size (.slice (if cap = 1 then some ⟨g, off, none⟩ else some ⟨g, off + 7, none⟩) z (cap - 1)) (r.map Gf.f)) := Lib.hid (HQ.out.below ((show Below w.heap.size w (w.alloc (.cells #[.int .u8 0, .bool fc, .int .u8 (fk : Int), .bool fpf, .int .u8 (fns : Int), .int .u8 (fnr : Int), .string fi] TF (0, 0))) from nest_below w [_]).drew))
  have hA1 : (w.alloc (.cells #[.int .u8 0, .bool fc, .int .u8 (fk : Int), .bool fpf, .int .u8 (fns : Int), .int .u8 (fnr : Int), .string fi] TF (0, 0))).drew.heap[w.heap.size]? = some (.cells #[.int .u8 0, .bool fc, .int .u8 (fk : Int), .bool fpf, .int .u8 (fns : Int), .int .u8 (fnr : Int), .string fi] TF (0, 0)) := nest w [_] 0 _ rfl
  obtain ⟨fb, hfb⟩ : ∃ n, n = w.heap.size := ⟨_, rfl⟩
  have HFB := Lib.hid hfb
  rw [← hfb] at hA1 hbl htb
  simp only [← hfb]
  clear hfb e0 e1 e2 e3 e4 e5 e6 hgw HQ c1 cl
  generalize hw1 : (w.alloc (.cells #[.int .u8 0, .bool fc, .int .u8 (fk : Int), .bool fpf, .int .u8 (fns : Int), .int .u8 (fnr : Int), .string fi] TF (0, 0))).drew = w1 at H1 HQ1 hA1
  have b2 : w1.cell? ⟨b.bl, 1, none⟩ = some (.slice (some ⟨g, off, none⟩) (z + 1) cap) := by rw [← HV.out]; exact cell_of H1.out.l rfl
  have f2 : ∀ i, w1.frozen? ⟨b.bl, i, none⟩ = false := fun _ => free_of H1.out.l
  have HTB := Lib.hid H1.out.blk
  refine wp_region_held_drew (S := (fun w' => w'.heap[b.tb]? = some (.cells #[two b.ba, two b.bl, two b.bu, two b.bk, .bool x.bad] 46 (0, 0)))) (by kernel_rfl) (hw1 ▸ HTB.out) (fun hHeld => ?_)
  refine' wpAnyH_take (i := 0) (oi := { dst := some 27, op := Go.Op.move (Go.Operand.tmp 0), type := 40, pos := "law.go:134", after := #[], guard := none }) (v := _) rfl (by kernel_rfl) (by kernel_rfl) (by kernel_rfl) (fun _ _ _ h => h) (Or.inl ⟨by rfl, ?hy250⟩) (by assumption) ?hr250
  case hy250 => (intro _ hSw; (try dsimp only at hSw); go_simp <;> with_reducible rfl)
  simp only [Act.put, List.setIfInBounds_toArray, List.set_cons_zero, List.set_cons_succ]
  refine' wpAnyH_take (i := 1) (oi := { dst := some 28, op := Go.Op.nilCheck (Go.Operand.tmp 27), type := 0, pos := "law.go:134", after := #[{ on := 0, ground := Go.Ground.data }], guard := none }) (v := _) rfl (by kernel_rfl) (by kernel_rfl) (by kernel_rfl) (fun _ _ _ h => h) (Or.inl ⟨by rfl, ?hy251⟩) (by assumption) ?hr251
  case hy251 => (intro _ hSw; (try dsimp only at hSw); go_simp <;> with_reducible rfl)
  simp only [Act.put, List.setIfInBounds_toArray, List.set_cons_zero, List.set_cons_succ]
  refine' wpAnyH_take (i := 2) (oi := { dst := some 29, op := Go.Op.fieldAddr 46 (Go.Operand.tmp 28) 1, type := 0, pos := "law.go:134", after := #[{ on := 1, ground := Go.Ground.data }], guard := none }) (v := _) rfl (by kernel_rfl) (by kernel_rfl) (by kernel_rfl) (fun _ _ _ h => h) (Or.inl ⟨by rfl, ?hy252⟩) (by assumption) ?hr252
  case hy252 => (intro _ hSw; (try dsimp only at hSw); go_simp <;> with_reducible rfl)
  simp only [Act.put, List.setIfInBounds_toArray, List.set_cons_zero, List.set_cons_succ]
  refine' wpAnyH_take (i := 3) (oi := { dst := some 30, op := Go.Op.load 43 (Go.Operand.tmp 29), type := 43, pos := "law.go:134", after := #[{ on := 2, ground := Go.Ground.data }], guard := none }) (v := _) rfl (by kernel_rfl) (by kernel_rfl) (by kernel_rfl) (fun _ _ _ h => h) (Or.inl ⟨by rfl, ?hy253⟩) (by assumption) ?hr253
  case hy253 => (intro _ hSw; (try dsimp only at hSw); have hc := cell_of (i := 1) (v := two b.bl) hSw rfl; go_simp <;> with_reducible rfl)
  simp only [Act.put, List.setIfInBounds_toArray, List.set_cons_zero, List.set_cons_succ]
  refine' wpAnyH_take (i := 4) (oi := { dst := some 31, op := Go.Op.move (Go.Operand.tmp 1), type := 3, pos := "law.go:134", after := #[], guard := none }) (v := _) rfl (by kernel_rfl) (by kernel_rfl) (by kernel_rfl) (fun _ _ _ h => h) (Or.inl ⟨by rfl, ?hy254⟩) (by assumption) ?hr254
  case hy254 => (intro _ hSw; (try dsimp only at hSw); go_simp <;> with_reducible rfl)
  simp only [Act.put, List.setIfInBounds_toArray, List.set_cons_zero, List.set_cons_succ]
  refine' wpAnyH_take (i := 5) (oi := { dst := some 32, op := Go.Op.move (Go.Operand.tmp 0), type := 40, pos := "law.go:134", after := #[], guard := none }) (v := _) rfl (by kernel_rfl) (by kernel_rfl) (by kernel_rfl) (fun _ _ _ h => h) (Or.inl ⟨by rfl, ?hy255⟩) (by assumption) ?hr255
  case hy255 => (intro _ hSw; (try dsimp only at hSw); go_simp <;> with_reducible rfl)
  simp only [Act.put, List.setIfInBounds_toArray, List.set_cons_zero, List.set_cons_succ]
  refine' wpAnyH_take (i := 6) (oi := { dst := some 33, op := Go.Op.nilCheck (Go.Operand.tmp 32), type := 0, pos := "law.go:134", after := #[{ on := 5, ground := Go.Ground.data }], guard := none }) (v := _) rfl (by kernel_rfl) (by kernel_rfl) (by kernel_rfl) (fun _ _ _ h => h) (Or.inl ⟨by rfl, ?hy256⟩) (by assumption) ?hr256
  case hy256 => (intro _ hSw; (try dsimp only at hSw); go_simp <;> with_reducible rfl)
  simp only [Act.put, List.setIfInBounds_toArray, List.set_cons_zero, List.set_cons_succ]
  refine' wpAnyH_take (i := 7) (oi := { dst := some 34, op := Go.Op.fieldAddr 46 (Go.Operand.tmp 33) 1, type := 0, pos := "law.go:134", after := #[{ on := 6, ground := Go.Ground.data }], guard := none }) (v := _) rfl (by kernel_rfl) (by kernel_rfl) (by kernel_rfl) (fun _ _ _ h => h) (Or.inl ⟨by rfl, ?hy257⟩) (by assumption) ?hr257
  case hy257 => (intro _ hSw; (try dsimp only at hSw); go_simp <;> with_reducible rfl)
  simp only [Act.put, List.setIfInBounds_toArray, List.set_cons_zero, List.set_cons_succ]
  refine' wpAnyH_take (i := 8) (oi := { dst := some 35, op := Go.Op.load 43 (Go.Operand.tmp 34), type := 43, pos := "law.go:134", after := #[{ on := 7, ground := Go.Ground.data }], guard := none }) (v := _) rfl (by kernel_rfl) (by kernel_rfl) (by kernel_rfl) (fun _ _ _ h => h) (Or.inl ⟨by rfl, ?hy258⟩) (by assumption) ?hr258
  case hy258 => (intro _ hSw; (try dsimp only at hSw); have hc := cell_of (i := 1) (v := two b.bl) hSw rfl; go_simp <;> with_reducible rfl)
  simp only [Act.put, List.setIfInBounds_toArray, List.set_cons_zero, List.set_cons_succ]
  refine' wpAnyH_take (i := 9) (oi := { dst := some 36, op := Go.Op.move (Go.Operand.tmp 1), type := 3, pos := "law.go:134", after := #[], guard := none }) (v := _) rfl (by kernel_rfl) (by kernel_rfl) (by kernel_rfl) (fun _ _ _ h => h) (Or.inl ⟨by rfl, ?hy259⟩) (by assumption) ?hr259
  case hy259 => (intro _ hSw; (try dsimp only at hSw); go_simp <;> with_reducible rfl)
  simp only [Act.put, List.setIfInBounds_toArray, List.set_cons_zero, List.set_cons_succ]
  refine' wpAnyH_take (i := 10) (oi := { dst := some 37, op := Go.Op.indexAddr 43 (Go.Operand.tmp 35) (Go.Operand.tmp 36), type := 0, pos := "law.go:134", after := #[{ on := 8, ground := Go.Ground.data }, { on := 9, ground := Go.Ground.data }], guard := none }) (v := _) rfl (by kernel_rfl) (by kernel_rfl) (by kernel_rfl) (fun _ _ _ h => h) (Or.inl ⟨by rfl, ?hy260⟩) (by assumption) ?hr260
  case hy260 => (intro _ hSw; (try dsimp only at hSw); go_simp <;> with_reducible rfl)
  simp only [Act.put, List.setIfInBounds_toArray, List.set_cons_zero, List.set_cons_succ]
  rw [hw1]
  clear hw1
  refine wpAnyH_ready (rs := [11]) (by kernel_rfl) (by simp) ?_
  refine AllReadyH.cons (o := { dst := some 38, op := Go.Op.load 88 (Go.Operand.tmp 37), type := 88, pos := "law.go:134", after := #[{ on := 10, ground := Go.Ground.data }], guard := none }) rfl (fun K hK => ?_) AllReadyH.nil
  go_simp
  refine hK.out _ _ HTB.out (fun hNext => ?_)
  clear hHeld
  clear hK K
  have hHeld := hNext
  clear hNext
  (try simp only [Act.put, List.setIfInBounds_toArray, List.set_cons_zero, List.set_cons_succ])
  by_cases hc1 : cap = 1
  · rw [if_pos hc1] at HQ1
    subst hc1
    obtain rfl : z = 0 := by omega
    refine' wpAnyH_take (i := 12) (oi := { dst := some 39, op := Go.Op.slice 88 (Go.Operand.tmp 38) (some (Go.Operand.const (Go.Value.int Go.IntKind.i64 1))) none none, type := 88, pos := "law.go:134", after := #[{ on := 11, ground := Go.Ground.data }], guard := none }) (v := _) rfl (by kernel_rfl) (by kernel_rfl) (by kernel_rfl) (fun _ _ _ h => h) (Or.inl ⟨by rfl, ?hy261⟩) (by assumption) ?hr261
    case hy261 => (intro _ hSw; (try dsimp only at hSw); go_simp <;> with_reducible rfl)
    simp only [Act.put, List.setIfInBounds_toArray, List.set_cons_zero, List.set_cons_succ]
    refine' wpAnyH_take (i := 13) (oi := { dst := some 40, op := Go.Op.indexAddr 43 (Go.Operand.tmp 30) (Go.Operand.tmp 31), type := 0, pos := "law.go:134", after := #[{ on := 3, ground := Go.Ground.data }, { on := 4, ground := Go.Ground.data }, { on := 0, ground := Go.Ground.phase }, { on := 1, ground := Go.Ground.phase }, { on := 2, ground := Go.Ground.phase }, { on := 3, ground := Go.Ground.phase }, { on := 4, ground := Go.Ground.phase }, { on := 5, ground := Go.Ground.phase }, { on := 6, ground := Go.Ground.phase }, { on := 7, ground := Go.Ground.phase }, { on := 8, ground := Go.Ground.phase }, { on := 9, ground := Go.Ground.phase }, { on := 10, ground := Go.Ground.phase }, { on := 11, ground := Go.Ground.phase }, { on := 12, ground := Go.Ground.phase }], guard := none }) (v := _) rfl (by kernel_rfl) (by kernel_rfl) (by kernel_rfl) (fun _ _ _ h => h) (Or.inl ⟨by rfl, ?hy262⟩) (by assumption) ?hr262
    case hy262 => (intro _ hSw; (try dsimp only at hSw); go_simp <;> with_reducible rfl)
    simp only [Act.put, List.setIfInBounds_toArray, List.set_cons_zero, List.set_cons_succ]
    refine wpAnyH_ready (rs := [14]) (by kernel_rfl) (by simp) ?_
    refine AllReadyH.cons (o := { dst := none, op := Go.Op.store 88 (Go.Operand.tmp 40) (Go.Operand.tmp 39), type := 0, pos := "law.go:134", after := #[{ on := 13, ground := Go.Ground.data }, { on := 12, ground := Go.Ground.data }, { on := 0, ground := Go.Ground.phase }, { on := 1, ground := Go.Ground.phase }, { on := 2, ground := Go.Ground.phase }, { on := 3, ground := Go.Ground.phase }, { on := 4, ground := Go.Ground.phase }, { on := 5, ground := Go.Ground.phase }, { on := 6, ground := Go.Ground.phase }, { on := 7, ground := Go.Ground.phase }, { on := 8, ground := Go.Ground.phase }, { on := 9, ground := Go.Ground.phase }, { on := 10, ground := Go.Ground.phase }, { on := 11, ground := Go.Ground.phase }, { on := 12, ground := Go.Ground.phase }], guard := none }) rfl (fun K hK => ?_) AllReadyH.nil
    go_simp
    refine hK.out _ _ ((set_other hne _).trans HTB.out) (fun hNext => ?_)
    clear hNext hHeld
    refine wpAnyH_done (by kernel_rfl) ?_ _
    clear hK K
    have hgr : w1.grownBy w1 v1.ownBlock := ⟨rfl, rfl, rfl, Nat.le_refl _, fun _ _ _ => rfl⟩
    have how : (Value.ownBlock (.slice (some ⟨g, off, none⟩) 0 0)) = v1.ownBlock := by rw [HV.out]; rfl
    have H2 := Lib.hid (H1.out.put1 hgr HQ1.out (Or.inl how))
    have hA2 : (w1.setCell ⟨b.bl, 1, none⟩ (.slice (some ⟨g, off, none⟩) 0 0)).heap[fb]? = some (.cells #[.int .u8 0, .bool fc, .int .u8 (fk : Int), .bool fpf, .int .u8 (fns : Int), .int .u8 (fnr : Int), .string fi] TF (0, 0)) := (set_other (by omega) _).trans hA1
    clear HQ1 H1 hA1 b2 f2 HTB hgr how
    generalize w1.setCell ⟨b.bl, 1, none⟩ (.slice (some ⟨g, off, none⟩) 0 0) = w2 at H2 hA2 ⊢
    generalize retag w1 tag 8 = tag2 at H2
    go_wp2_with fail
    have H3 := Lib.hid (H2.out.on (w' := w2.drew) ⟨rfl, rfl, rfl, Nat.le_refl _, fun _ _ => rfl⟩)
    have hA3 : w2.drew.heap[fb]? = some (.cells #[.int .u8 0, .bool fc, .int .u8 (fk : Int), .bool fpf, .int .u8 (fns : Int), .int .u8 (fnr : Int), .string fi] TF (0, 0)) := hA2
    clear H2 hA2
    refine wp_region_held_drew (S := (fun w' => w'.heap[fb]? = some (.cells #[.int .u8 0, .bool fc, .int .u8 (fk : Int), .bool fpf, .int .u8 (fns : Int), .int .u8 (fnr : Int), .string fi] TF (0, 0)) ∧ w'.heap[b.tb]? = some (.cells #[two b.ba, two b.bl, two b.bu, two b.bk, .bool x.bad] 46 (0, 0)) ∧ w'.heap[b.ba]? = some (.cells #[ptr b.p0, ptr b.p1] 28 (0, 0)))) (by kernel_rfl) ⟨hA3, H3.out.blk, H3.out.a⟩ (fun hHeld => ?_)
    refine' wpAnyH_take (i := 0) (oi := { dst := some 42, op := Go.Op.move (Go.Operand.tmp 0), type := 40, pos := "law.go:138", after := #[], guard := none }) (v := _) rfl (by kernel_rfl) (by kernel_rfl) (by kernel_rfl) (fun _ _ _ h => h) (Or.inl ⟨by rfl, ?hy263⟩) (by assumption) ?hr263
    case hy263 => (intro _ hSw; (try dsimp only at hSw); go_simp <;> with_reducible rfl)
    simp only [Act.put, List.setIfInBounds_toArray, List.set_cons_zero, List.set_cons_succ]
    refine' wpAnyH_take (i := 1) (oi := { dst := some 43, op := Go.Op.nilCheck (Go.Operand.tmp 42), type := 0, pos := "law.go:138", after := #[{ on := 0, ground := Go.Ground.data }], guard := none }) (v := _) rfl (by kernel_rfl) (by kernel_rfl) (by kernel_rfl) (fun _ _ _ h => h) (Or.inl ⟨by rfl, ?hy264⟩) (by assumption) ?hr264
    case hy264 => (intro _ hSw; (try dsimp only at hSw); go_simp <;> with_reducible rfl)
    simp only [Act.put, List.setIfInBounds_toArray, List.set_cons_zero, List.set_cons_succ]
    refine' wpAnyH_take (i := 2) (oi := { dst := some 44, op := Go.Op.fieldAddr 46 (Go.Operand.tmp 43) 0, type := 0, pos := "law.go:138", after := #[{ on := 1, ground := Go.Ground.data }], guard := none }) (v := _) rfl (by kernel_rfl) (by kernel_rfl) (by kernel_rfl) (fun _ _ _ h => h) (Or.inl ⟨by rfl, ?hy265⟩) (by assumption) ?hr265
    case hy265 => (intro _ hSw; (try dsimp only at hSw); go_simp <;> with_reducible rfl)
    simp only [Act.put, List.setIfInBounds_toArray, List.set_cons_zero, List.set_cons_succ]
    refine' wpAnyH_take (i := 3) (oi := { dst := some 45, op := Go.Op.load 42 (Go.Operand.tmp 44), type := 42, pos := "law.go:138", after := #[{ on := 2, ground := Go.Ground.data }], guard := none }) (v := _) rfl (by kernel_rfl) (by kernel_rfl) (by kernel_rfl) (fun _ _ _ h => h) (Or.inl ⟨by rfl, ?hy266⟩) (by assumption) ?hr266
    case hy266 => (intro _ hSw; (try dsimp only at hSw); have hc := cell_of (i := 0) (v := two b.ba) hSw.2.1 rfl; go_simp <;> with_reducible rfl)
    simp only [Act.put, List.setIfInBounds_toArray, List.set_cons_zero, List.set_cons_succ]
    refine' wpAnyH_take (i := 4) (oi := { dst := some 46, op := Go.Op.move (Go.Operand.tmp 1), type := 3, pos := "law.go:138", after := #[], guard := none }) (v := _) rfl (by kernel_rfl) (by kernel_rfl) (by kernel_rfl) (fun _ _ _ h => h) (Or.inl ⟨by rfl, ?hy267⟩) (by assumption) ?hr267
    case hy267 => (intro _ hSw; (try dsimp only at hSw); go_simp <;> with_reducible rfl)
    simp only [Act.put, List.setIfInBounds_toArray, List.set_cons_zero, List.set_cons_succ]
    refine' wpAnyH_take (i := 5) (oi := { dst := some 47, op := Go.Op.binOp Go.BinOp.sub 3 (Go.Operand.const (Go.Value.int Go.IntKind.i64 1)) (Go.Operand.tmp 46) 3, type := 3, pos := "law.go:138", after := #[{ on := 4, ground := Go.Ground.data }], guard := none }) (v := _) rfl (by kernel_rfl) (by kernel_rfl) (by kernel_rfl) (fun _ _ _ h => h) (Or.inl ⟨by rfl, ?hy268⟩) (by assumption) ?hr268
    case hy268 => (intro _ hSw; (try dsimp only at hSw); go_simp <;> with_reducible rfl)
    simp only [Act.put, List.setIfInBounds_toArray, List.set_cons_zero, List.set_cons_succ]
    refine' wpAnyH_take (i := 6) (oi := { dst := some 48, op := Go.Op.indexAddr 42 (Go.Operand.tmp 45) (Go.Operand.tmp 47), type := 0, pos := "law.go:138", after := #[{ on := 3, ground := Go.Ground.data }, { on := 5, ground := Go.Ground.data }], guard := none }) (v := _) rfl (by kernel_rfl) (by kernel_rfl) (by kernel_rfl) (fun _ _ _ h => h) (Or.inl ⟨by rfl, ?hy269⟩) (by assumption) ?hr269
    case hy269 => (intro _ hSw; (try dsimp only at hSw); go_simp <;> with_reducible rfl)
    simp only [Act.put, List.setIfInBounds_toArray, List.set_cons_zero, List.set_cons_succ]
    refine' wpAnyH_take (i := 7) (oi := { dst := some 49, op := Go.Op.load 28 (Go.Operand.tmp 48), type := 28, pos := "law.go:138", after := #[{ on := 6, ground := Go.Ground.data }], guard := none }) (v := _) rfl (by kernel_rfl) (by kernel_rfl) (by kernel_rfl) (fun _ _ _ h => h) (Or.inl ⟨by rfl, ?hy270⟩) (by assumption) ?hr270
    case hy270 => (intro _ hSw; (try dsimp only at hSw); have hc := cell_of (i := 0) (v := ptr b.p0) hSw.2.2 rfl; go_simp <;> with_reducible rfl)
    simp only [Act.put, List.setIfInBounds_toArray, List.set_cons_zero, List.set_cons_succ]
    refine' wpAnyH_take (i := 8) (oi := { dst := some 50, op := Go.Op.load 25 (Go.Operand.tmp 7), type := 25, pos := "law.go:138", after := #[], guard := none }) (v := _) rfl (by kernel_rfl) (by kernel_rfl) (by kernel_rfl) (fun _ _ _ h => h) (Or.inl ⟨by rfl, ?hy271⟩) (by assumption) ?hr271
    case hy271 => (intro _ hSw; (try dsimp only at hSw); obtain ⟨⟨y0, y1, y2, y3, y4, y5, y6⟩, -⟩ := cells7 hSw.1; go_simp <;> with_reducible rfl)
    simp only [Act.put, List.setIfInBounds_toArray, List.set_cons_zero, List.set_cons_succ]
    clear hHeld
    have hA4 : w2.drew.heap[fb]? = some (.cells #[.int .u8 0, .bool fc, .int .u8 (fk : Int), .bool fpf, .int .u8 (fns : Int), .int .u8 (fnr : Int), .string fi] TF (0, 0)) := hA3
    clear hA3
    generalize w2.drew = w3 at H3 hA4 ⊢
    have HS3 := Lib.hid (show w3.heap[fb]? = some (.cells #[.int .u8 0, .bool fc, .int .u8 (fk : Int), .bool fpf, .int .u8 (fns : Int), .int .u8 (fnr : Int), .string fi] TF (0, 0)) ∧ w3.heap[b.tb]? = some (.cells #[two b.ba, two b.bl, two b.bu, two b.bk, .bool x.bad] 46 (0, 0)) ∧ w3.heap[b.ba]? = some (.cells #[ptr b.p0, ptr b.p1] 28 (0, 0)) from ⟨hA4, H3.out.blk, H3.out.a⟩)
    have HF3 := Lib.hid (show b.p0 ≠ fb ∧ b.p1 ≠ fb ∧ (∀ g, q0.ownBlock = some g → g ≠ fb) from ⟨fun e => by have := HX.out.s0.lt; have := HFB.out; omega, fun e => by have := HX.out.s1.lt; have := HFB.out; omega, fun g hg e => by have := (HX.out.s0.q.lt g hg).2; have := HFB.out; omega⟩)
    clear hA4
    refine wpAnyH_ready (rs := [9, 10]) (by kernel_rfl) (by simp) ?_
    refine AllReadyH.cons (o := { dst := some 51, op := Go.Op.call { callee := Go.Callee.value (Go.Operand.func 24), args := #[Go.Operand.tmp 49, Go.Operand.tmp 50], argTypes := #[28, 25] }, type := 56, pos := "law.go:138", after := #[{ on := 7, ground := Go.Ground.data }, { on := 8, ground := Go.Ground.data }], guard := none }) rfl (fun K hK => ?_) (AllReadyH.cons (o := { dst := some 8, op := Go.Op.alloc 56, type := 0, pos := "law.go:138", after := #[], guard := none }) rfl (fun K hK => ?_) AllReadyH.nil)
    · go_simp
      refine (CH.out _ H3.out.s0).mono ?_
      rintro _ w4 ⟨rfl, u, hd⟩
      have HN := Lib.hid (H3.out.doA hd)
      have HS4 := Lib.hid (show w4.heap[fb]? = some (.cells #[.int .u8 0, .bool fc, .int .u8 (fk : Int), .bool fpf, .int .u8 (fns : Int), .int .u8 (fnr : Int), .string fi] TF (0, 0)) ∧ w4.heap[b.tb]? = some (.cells #[two b.ba, two b.bl, two b.bu, two b.bk, .bool x.bad] 46 (0, 0)) ∧ w4.heap[b.ba]? = some (.cells #[ptr b.p0, ptr b.p1] 28 (0, 0)) from ⟨hd.chg.stays HS3.out.1 (fun e => by rcases e with e | e; exact HF3.out.1 e.symm; exact HF3.out.2.2 _ e rfl), HN.out.blk, HN.out.a⟩)
      go_wp2_with fail
      refine hK.out _ _ HS4.out (fun hNext => ?_)
      clear hd CH H3 HS3 HF3
      clear hK K
      have hHeld := hNext
      clear hNext
      (try simp only [Act.put, List.setIfInBounds_toArray, List.set_cons_zero, List.set_cons_succ])
      refine wpAnyH_ready (rs := [10]) (by kernel_rfl) (by simp) ?_
      refine AllReadyH.cons (o := { dst := some 8, op := Go.Op.alloc 56, type := 0, pos := "law.go:138", after := #[], guard := none }) rfl (fun K hK => ?_) AllReadyH.nil
      go_simp
      refine hK.out _ _ ⟨stays HS4.out.1 (nest_below w4 [noM TA]), stays HS4.out.2.1 (nest_below w4 [noM TA]), stays HS4.out.2.2 (nest_below w4 [noM TA])⟩ (fun hNext => ?_)
      clear hHeld
      clear hK K
      have hHeld := hNext
      clear hNext
      (try simp only [Act.put, List.setIfInBounds_toArray, List.set_cons_zero, List.set_cons_succ])
      have H5 := Lib.hid (HN.out.on (show Below w4.heap.size w4 (w4.alloc (.cells #[.string mi, .bool true, .int .i64 (ma : Int), .bool false] TA (0, 0))) from nest_below w4 [_]))
      have hac : (w4.alloc (.cells #[.string mi, .bool true, .int .i64 (ma : Int), .bool false] TA (0, 0))).heap[w4.heap.size]? = some (.cells #[.string mi, .bool true, .int .i64 (ma : Int), .bool false] TA (0, 0)) := nest w4 [_] 0 _ rfl
      refine wpAnyH_ready (rs := [11]) (by kernel_rfl) (by simp) ?_
      refine AllReadyH.cons (o := { dst := none, op := Go.Op.store 56 (Go.Operand.tmp 8) (Go.Operand.tmp 51), type := 0, pos := "law.go:138", after := #[{ on := 10, ground := Go.Ground.data }, { on := 9, ground := Go.Ground.data }, { on := 9, ground := Go.Ground.chain }, { on := 0, ground := Go.Ground.phase }, { on := 1, ground := Go.Ground.phase }, { on := 2, ground := Go.Ground.phase }, { on := 3, ground := Go.Ground.phase }, { on := 4, ground := Go.Ground.phase }, { on := 5, ground := Go.Ground.phase }, { on := 6, ground := Go.Ground.phase }, { on := 7, ground := Go.Ground.phase }, { on := 8, ground := Go.Ground.phase }, { on := 9, ground := Go.Ground.phase }, { on := 10, ground := Go.Ground.phase }], guard := none }) rfl (fun K hK => ?_) AllReadyH.nil
      go_simp
      go_wp2_with fail
      refine hK.out _ _ ⟨stays HS4.out.1 (nest_below w4 [(.cells #[.string mi, .bool true, .int .i64 (ma : Int), .bool false] TA (0, 0))]), H5.out.blk, H5.out.a⟩ (fun hNext => ?_)
      clear hHeld
      clear hK K
      have hHeld := hNext
      clear hNext
      (try simp only [Act.put, List.setIfInBounds_toArray, List.set_cons_zero, List.set_cons_succ])
      refine wpAnyH_done (by kernel_rfl) ?_ _
      clear hHeld
      have HK2 := Lib.hid (show b.bk ≠ w4.heap.size from fun e => by have := lt_heap HN.out.k; omega)
      clear HS4 HN
      generalize w4.alloc (.cells #[.string mi, .bool true, .int .i64 (ma : Int), .bool false] TA (0, 0)) = w5 at H5 hac ⊢
      generalize w4.heap.size = ab at hac HK2 ⊢
      generalize retag w3 tag2 5 = tag5 at H5
      obtain ⟨⟨a0, a1, a2, a3⟩, af⟩ := cells4 hac
      have hmi := HM.out
      go_wp2_with fail
      have H6 := Lib.hid (H5.out.on (w' := w5.drew) ⟨rfl, rfl, rfl, Nat.le_refl _, fun _ _ => rfl⟩)
      have hac3 : w5.drew.heap[ab]? = some (.cells #[.string mi, .bool true, .int .i64 (ma : Int), .bool false] TA (0, 0)) := hac
      clear a0 a1 a2 a3 af hac H5
      refine wp_region_held_drew (S := (fun w' => w'.heap[ab]? = some (.cells #[.string mi, .bool true, .int .i64 (ma : Int), .bool false] TA (0, 0)) ∧ w'.heap[b.tb]? = some (.cells #[two b.ba, two b.bl, two b.bu, two b.bk, .bool x.bad] 46 (0, 0)) ∧ w'.heap[b.bk]? = some (.cells #[nm x.k0, nm x.k1] 3 (0, 0)))) (by kernel_rfl) ⟨hac3, H6.out.blk, H6.out.k⟩ (fun hHeld => ?_)
      refine' wpAnyH_take (i := 0) (oi := { dst := some 59, op := Go.Op.fieldAddr 56 (Go.Operand.tmp 8) 0, type := 0, pos := "law.go:143", after := #[], guard := none }) (v := _) rfl (by kernel_rfl) (by kernel_rfl) (by kernel_rfl) (fun _ _ _ h => h) (Or.inl ⟨by rfl, ?hy272⟩) (by assumption) ?hr272
      case hy272 => (intro _ hSw; (try dsimp only at hSw); go_simp <;> with_reducible rfl)
      simp only [Act.put, List.setIfInBounds_toArray, List.set_cons_zero, List.set_cons_succ]
      refine' wpAnyH_take (i := 1) (oi := { dst := some 60, op := Go.Op.load 9 (Go.Operand.tmp 59), type := 9, pos := "law.go:143", after := #[{ on := 0, ground := Go.Ground.data }], guard := none }) (v := _) rfl (by kernel_rfl) (by kernel_rfl) (by kernel_rfl) (fun _ _ _ h => h) (Or.inl ⟨by rfl, ?hy273⟩) (by assumption) ?hr273
      case hy273 => (intro _ hSw; (try dsimp only at hSw); obtain ⟨⟨y0, y1, y2, y3⟩, -⟩ := cells4 hSw.1; go_simp <;> with_reducible rfl)
      simp only [Act.put, List.setIfInBounds_toArray, List.set_cons_zero, List.set_cons_succ]
      refine' wpAnyH_take (i := 2) (oi := { dst := some 61, op := Go.Op.move (Go.Operand.tmp 0), type := 40, pos := "law.go:143", after := #[], guard := none }) (v := _) rfl (by kernel_rfl) (by kernel_rfl) (by kernel_rfl) (fun _ _ _ h => h) (Or.inl ⟨by rfl, ?hy274⟩) (by assumption) ?hr274
      case hy274 => (intro _ hSw; (try dsimp only at hSw); go_simp <;> with_reducible rfl)
      simp only [Act.put, List.setIfInBounds_toArray, List.set_cons_zero, List.set_cons_succ]
      refine' wpAnyH_take (i := 3) (oi := { dst := some 62, op := Go.Op.nilCheck (Go.Operand.tmp 61), type := 0, pos := "law.go:143", after := #[{ on := 2, ground := Go.Ground.data }], guard := none }) (v := _) rfl (by kernel_rfl) (by kernel_rfl) (by kernel_rfl) (fun _ _ _ h => h) (Or.inl ⟨by rfl, ?hy275⟩) (by assumption) ?hr275
      case hy275 => (intro _ hSw; (try dsimp only at hSw); go_simp <;> with_reducible rfl)
      simp only [Act.put, List.setIfInBounds_toArray, List.set_cons_zero, List.set_cons_succ]
      refine' wpAnyH_take (i := 4) (oi := { dst := some 63, op := Go.Op.fieldAddr 46 (Go.Operand.tmp 62) 3, type := 0, pos := "law.go:143", after := #[{ on := 3, ground := Go.Ground.data }], guard := none }) (v := _) rfl (by kernel_rfl) (by kernel_rfl) (by kernel_rfl) (fun _ _ _ h => h) (Or.inl ⟨by rfl, ?hy276⟩) (by assumption) ?hr276
      case hy276 => (intro _ hSw; (try dsimp only at hSw); go_simp <;> with_reducible rfl)
      simp only [Act.put, List.setIfInBounds_toArray, List.set_cons_zero, List.set_cons_succ]
      refine' wpAnyH_take (i := 5) (oi := { dst := some 64, op := Go.Op.load 44 (Go.Operand.tmp 63), type := 44, pos := "law.go:143", after := #[{ on := 4, ground := Go.Ground.data }], guard := none }) (v := _) rfl (by kernel_rfl) (by kernel_rfl) (by kernel_rfl) (fun _ _ _ h => h) (Or.inl ⟨by rfl, ?hy277⟩) (by assumption) ?hr277
      case hy277 => (intro _ hSw; (try dsimp only at hSw); have hc := cell_of (i := 3) (v := two b.bk) hSw.2.1 rfl; go_simp <;> with_reducible rfl)
      simp only [Act.put, List.setIfInBounds_toArray, List.set_cons_zero, List.set_cons_succ]
      refine' wpAnyH_take (i := 6) (oi := { dst := some 65, op := Go.Op.move (Go.Operand.tmp 1), type := 3, pos := "law.go:143", after := #[], guard := none }) (v := _) rfl (by kernel_rfl) (by kernel_rfl) (by kernel_rfl) (fun _ _ _ h => h) (Or.inl ⟨by rfl, ?hy278⟩) (by assumption) ?hr278
      case hy278 => (intro _ hSw; (try dsimp only at hSw); go_simp <;> with_reducible rfl)
      simp only [Act.put, List.setIfInBounds_toArray, List.set_cons_zero, List.set_cons_succ]
      refine' wpAnyH_take (i := 7) (oi := { dst := some 66, op := Go.Op.indexAddr 44 (Go.Operand.tmp 64) (Go.Operand.tmp 65), type := 0, pos := "law.go:143", after := #[{ on := 5, ground := Go.Ground.data }, { on := 6, ground := Go.Ground.data }], guard := none }) (v := _) rfl (by kernel_rfl) (by kernel_rfl) (by kernel_rfl) (fun _ _ _ h => h) (Or.inl ⟨by rfl, ?hy279⟩) (by assumption) ?hr279
      case hy279 => (intro _ hSw; (try dsimp only at hSw); go_simp <;> with_reducible rfl)
      simp only [Act.put, List.setIfInBounds_toArray, List.set_cons_zero, List.set_cons_succ]
      refine' wpAnyH_take (i := 8) (oi := { dst := some 67, op := Go.Op.load 3 (Go.Operand.tmp 66), type := 3, pos := "law.go:143", after := #[{ on := 7, ground := Go.Ground.data }], guard := none }) (v := _) rfl (by kernel_rfl) (by kernel_rfl) (by kernel_rfl) (fun _ _ _ h => h) (Or.inl ⟨by rfl, ?hy280⟩) (by assumption) ?hr280
      case hy280 => (intro _ hSw; (try dsimp only at hSw); have hc := cell_of (i := 1) (v := nm x.k1) hSw.2.2 rfl; go_simp <;> with_reducible rfl)
      simp only [Act.put, List.setIfInBounds_toArray, List.set_cons_zero, List.set_cons_succ]
      clear hHeld
      generalize w5.drew = w6 at H6 hac3 ⊢
      refine wpAnyH_ready (rs := [9]) (by kernel_rfl) (by simp) ?_
      refine AllReadyH.cons (o := { dst := some 68, op := Go.Op.call { callee := Go.Callee.value (Go.Operand.func 36), args := #[Go.Operand.tmp 67], argTypes := #[3] }, type := 9, pos := "law.go:143", after := #[{ on := 8, ground := Go.Ground.data }], guard := none }) rfl (fun K hK => ?_) AllReadyH.nil
      go_simp
      refine (finf x.k1 HKB.out _).mono ?_
      rintro _ w7 ⟨rfl, hb⟩
      have H7 := Lib.hid (H6.out.on hb)
      have hac7 := stays hac3 hb
      clear hb hac3 H6
      go_wp2_with fail
      refine hK.out _ _ ⟨hac7, H7.out.blk, H7.out.k⟩ (fun hNext => ?_)
      clear hK K
      have hHeld := hNext
      clear hNext
      (try simp only [Act.put, List.setIfInBounds_toArray, List.set_cons_zero, List.set_cons_succ])
      subst hmi
      have b1 : ((inf x.k1).toList == (inf x.k1).toList) = true := by simp
      have b2 : ((inf x.k1).toList != (inf x.k1).toList) = false := by simp
      generalize inf x.k1 = st at b1 b2 hHeld hac7 ⊢
      refine' wpAnyH_take (i := 10) (oi := { dst := some 69, op := Go.Op.binOp Go.BinOp.neq 9 (Go.Operand.tmp 60) (Go.Operand.tmp 68) 9, type := 4, pos := "law.go:143", after := #[{ on := 1, ground := Go.Ground.data }, { on := 9, ground := Go.Ground.data }], guard := none }) (v := _) rfl (by kernel_rfl) (by kernel_rfl) (by kernel_rfl) (fun _ _ _ h => h) (Or.inl ⟨by rfl, ?hy281⟩) (by assumption) ?hr281
      case hy281 => (intro _ hSw; (try dsimp only at hSw); go_simp <;> with_reducible rfl)
      simp only [Act.put, List.setIfInBounds_toArray, List.set_cons_zero, List.set_cons_succ]
      refine wpAnyH_done (by kernel_rfl) ?_ _
      clear hHeld
      have c3 : w7.cell? ⟨b.tb, 3, none⟩ = some (two b.bk) := cell_of H7.out.blk rfl
      have ck : w7.cell? ⟨b.bk, 1, none⟩ = some (nm x.k1) := cell_of H7.out.k rfl
      have fk2 : ∀ i, w7.frozen? ⟨b.bk, i, none⟩ = false := fun _ => free_of H7.out.k
      have vk : IntKind.i64.wrap ((x.k1 : Int) + 1) = ((x.k1 + 1 : Nat) : Int) := by have := HKB.out; rw [IntKind.wrap_i64]; omega
      have H8 := Lib.hid (H7.out.put_k x.k0 (x.k1 + 1) (chg_cell w7 b.bk 1 (nm (x.k1 + 1))) (block_set (i := 1) H7.out.k _))
      clear H7 hac7
      obtain ⟨kn, hkn⟩ : ∃ kn, x.k1 + 1 = kn := ⟨_, rfl⟩
      rw [hkn] at vk H8
      have HKN := Lib.hid hkn
      clear hkn
      go_wp2
      go_ret
      have hkn := HKN.out
      clear HKN
      subst hkn
      exact ⟨rfl, _, _, _, _, _, H8.out⟩
    · go_simp
      refine hK.out _ _ ⟨stays HS3.out.1 (nest_below w3 [noM TA]), stays HS3.out.2.1 (nest_below w3 [noM TA]), stays HS3.out.2.2 (nest_below w3 [noM TA])⟩ (fun hNext => ?_)
      clear hK K
      have hHeld := hNext
      clear hNext
      (try simp only [Act.put, List.setIfInBounds_toArray, List.set_cons_zero, List.set_cons_succ])
      have H4 := Lib.hid ((H3.out.mark 9).on (show Below w3.heap.size w3 (w3.alloc (noM TA)) from nest_below w3 [_]))
      have HT4 := Lib.hid (show retag w3 tag2 9 w3.heap.size = 9 from retag_new (Nat.le_refl _))
      generalize retag w3 tag2 9 = tag4 at H4 HT4
      have hn4 : (w3.alloc (noM TA)).heap[w3.heap.size]? = some (noM TA) := nest w3 [_] 0 _ rfl
      have hs4 := size_alloc w3 (noM TA)
      have HS4 := Lib.hid (show (w3.alloc (noM TA)).heap[fb]? = some (.cells #[.int .u8 0, .bool fc, .int .u8 (fk : Int), .bool fpf, .int .u8 (fns : Int), .int .u8 (fnr : Int), .string fi] TF (0, 0)) from stays HS3.out.1 (nest_below w3 [noM TA]))
      refine wpAnyH_ready (rs := [9]) (by kernel_rfl) (by simp) ?_
      refine AllReadyH.cons (o := { dst := some 51, op := Go.Op.call { callee := Go.Callee.value (Go.Operand.func 24), args := #[Go.Operand.tmp 49, Go.Operand.tmp 50], argTypes := #[28, 25] }, type := 56, pos := "law.go:138", after := #[{ on := 7, ground := Go.Ground.data }, { on := 8, ground := Go.Ground.data }], guard := none }) rfl (fun K hK => ?_) AllReadyH.nil
      go_simp
      refine (CH.out _ H4.out.s0).mono ?_
      rintro _ w4 ⟨rfl, u, hd⟩
      have HN := Lib.hid (H4.out.doA hd)
      have hn5 : w4.heap[w3.heap.size]? = some (noM TA) := hd.chg.stays hn4 (fun e => by
        rcases e with e | e
        · have := H4.out.t5; have := HT4.out; rw [e] at this; omega
        · have := H4.out.o0 _ e; have := HT4.out; omega)
      have hf5 : w4.heap[fb]? = some (.cells #[.int .u8 0, .bool fc, .int .u8 (fk : Int), .bool fpf, .int .u8 (fns : Int), .int .u8 (fnr : Int), .string fi] TF (0, 0)) := hd.chg.stays HS4.out (fun e => by
        rcases e with e | e
        · exact HF3.out.1 e.symm
        · exact HF3.out.2.2 _ e rfl)
      have htn : retag (w3.alloc (noM TA)) tag4 5 w3.heap.size = 9 := by rw [retag_old (by omega)]; exact HT4.out
      go_wp2_with fail
      refine hK.out _ _ ⟨hf5, HN.out.blk, HN.out.a⟩ (fun hNext => ?_)
      clear hd CH hHeld hn4
      clear hK K
      have hHeld := hNext
      clear hNext
      (try simp only [Act.put, List.setIfInBounds_toArray, List.set_cons_zero, List.set_cons_succ])
      obtain ⟨⟨y0, y1, y2, y3⟩, yf⟩ := cells4 hn5
      have hac : ((((w4.setCell ⟨w3.heap.size, 0, none⟩ (.string mi)).setCell ⟨w3.heap.size, 1, none⟩ (.bool true)).setCell ⟨w3.heap.size, 2, none⟩ (.int .i64 (ma : Int))).setCell ⟨w3.heap.size, 3, none⟩ (.bool false)).heap[w3.heap.size]? = some (.cells #[.string mi, .bool true, .int .i64 (ma : Int), .bool false] TA (0, 0)) := set4_at hn5 (.string mi) (.bool true) (.int .i64 (ma : Int)) (.bool false)
      have hcc : Chg (fun k => k = w3.heap.size) w4 ((((w4.setCell ⟨w3.heap.size, 0, none⟩ (.string mi)).setCell ⟨w3.heap.size, 1, none⟩ (.bool true)).setCell ⟨w3.heap.size, 2, none⟩ (.int .i64 (ma : Int))).setCell ⟨w3.heap.size, 3, none⟩ (.bool false)) := chg_set4 (S := fun k => k = w3.heap.size) (Chg.refl _ w4) (fun _ => rfl) _ _ _ _
      have H5 := Lib.hid (HN.out.other hcc htn H3.out.below.size)
      refine wpAnyH_ready (rs := [11]) (by kernel_rfl) (by simp) ?_
      refine AllReadyH.cons (o := { dst := none, op := Go.Op.store 56 (Go.Operand.tmp 8) (Go.Operand.tmp 51), type := 0, pos := "law.go:138", after := #[{ on := 10, ground := Go.Ground.data }, { on := 9, ground := Go.Ground.data }, { on := 9, ground := Go.Ground.chain }, { on := 0, ground := Go.Ground.phase }, { on := 1, ground := Go.Ground.phase }, { on := 2, ground := Go.Ground.phase }, { on := 3, ground := Go.Ground.phase }, { on := 4, ground := Go.Ground.phase }, { on := 5, ground := Go.Ground.phase }, { on := 6, ground := Go.Ground.phase }, { on := 7, ground := Go.Ground.phase }, { on := 8, ground := Go.Ground.phase }, { on := 9, ground := Go.Ground.phase }, { on := 10, ground := Go.Ground.phase }], guard := none }) rfl (fun K hK => ?_) AllReadyH.nil
      go_simp
      go_wp2_with fail
      refine hK.out _ _ ⟨hcc.stays hf5 (fun e => by have := lt_heap HS3.out.1; omega), H5.out.blk, H5.out.a⟩ (fun hNext => ?_)
      clear hHeld
      clear hK K
      have hHeld := hNext
      clear hNext
      (try simp only [Act.put, List.setIfInBounds_toArray, List.set_cons_zero, List.set_cons_succ])
      refine wpAnyH_done (by kernel_rfl) ?_ _
      clear hHeld
      have HK2 := Lib.hid (show b.bk ≠ w3.heap.size from fun e => by have := lt_heap H3.out.k; omega)
      clear HS3 HF3 HS4 HN H4 HT4 hn5 hf5 htn hcc y0 y1 y2 y3 yf hs4 H3
      generalize ((((w4.setCell ⟨w3.heap.size, 0, none⟩ (.string mi)).setCell ⟨w3.heap.size, 1, none⟩ (.bool true)).setCell ⟨w3.heap.size, 2, none⟩ (.int .i64 (ma : Int))).setCell ⟨w3.heap.size, 3, none⟩ (.bool false)) = w5 at H5 hac ⊢
      generalize w3.heap.size = ab at hac HK2 ⊢
      generalize retag (w3.alloc (noM TA)) tag4 5 = tag5 at H5
      obtain ⟨⟨a0, a1, a2, a3⟩, af⟩ := cells4 hac
      have hmi := HM.out
      go_wp2_with fail
      have H6 := Lib.hid (H5.out.on (w' := w5.drew) ⟨rfl, rfl, rfl, Nat.le_refl _, fun _ _ => rfl⟩)
      have hac3 : w5.drew.heap[ab]? = some (.cells #[.string mi, .bool true, .int .i64 (ma : Int), .bool false] TA (0, 0)) := hac
      clear a0 a1 a2 a3 af hac H5
      refine wp_region_held_drew (S := (fun w' => w'.heap[ab]? = some (.cells #[.string mi, .bool true, .int .i64 (ma : Int), .bool false] TA (0, 0)) ∧ w'.heap[b.tb]? = some (.cells #[two b.ba, two b.bl, two b.bu, two b.bk, .bool x.bad] 46 (0, 0)) ∧ w'.heap[b.bk]? = some (.cells #[nm x.k0, nm x.k1] 3 (0, 0)))) (by kernel_rfl) ⟨hac3, H6.out.blk, H6.out.k⟩ (fun hHeld => ?_)
      refine' wpAnyH_take (i := 0) (oi := { dst := some 59, op := Go.Op.fieldAddr 56 (Go.Operand.tmp 8) 0, type := 0, pos := "law.go:143", after := #[], guard := none }) (v := _) rfl (by kernel_rfl) (by kernel_rfl) (by kernel_rfl) (fun _ _ _ h => h) (Or.inl ⟨by rfl, ?hy282⟩) (by assumption) ?hr282
      case hy282 => (intro _ hSw; (try dsimp only at hSw); go_simp <;> with_reducible rfl)
      simp only [Act.put, List.setIfInBounds_toArray, List.set_cons_zero, List.set_cons_succ]
      refine' wpAnyH_take (i := 1) (oi := { dst := some 60, op := Go.Op.load 9 (Go.Operand.tmp 59), type := 9, pos := "law.go:143", after := #[{ on := 0, ground := Go.Ground.data }], guard := none }) (v := _) rfl (by kernel_rfl) (by kernel_rfl) (by kernel_rfl) (fun _ _ _ h => h) (Or.inl ⟨by rfl, ?hy283⟩) (by assumption) ?hr283
      case hy283 => (intro _ hSw; (try dsimp only at hSw); obtain ⟨⟨y0, y1, y2, y3⟩, -⟩ := cells4 hSw.1; go_simp <;> with_reducible rfl)
      simp only [Act.put, List.setIfInBounds_toArray, List.set_cons_zero, List.set_cons_succ]
      refine' wpAnyH_take (i := 2) (oi := { dst := some 61, op := Go.Op.move (Go.Operand.tmp 0), type := 40, pos := "law.go:143", after := #[], guard := none }) (v := _) rfl (by kernel_rfl) (by kernel_rfl) (by kernel_rfl) (fun _ _ _ h => h) (Or.inl ⟨by rfl, ?hy284⟩) (by assumption) ?hr284
      case hy284 => (intro _ hSw; (try dsimp only at hSw); go_simp <;> with_reducible rfl)
      simp only [Act.put, List.setIfInBounds_toArray, List.set_cons_zero, List.set_cons_succ]
      refine' wpAnyH_take (i := 3) (oi := { dst := some 62, op := Go.Op.nilCheck (Go.Operand.tmp 61), type := 0, pos := "law.go:143", after := #[{ on := 2, ground := Go.Ground.data }], guard := none }) (v := _) rfl (by kernel_rfl) (by kernel_rfl) (by kernel_rfl) (fun _ _ _ h => h) (Or.inl ⟨by rfl, ?hy285⟩) (by assumption) ?hr285
      case hy285 => (intro _ hSw; (try dsimp only at hSw); go_simp <;> with_reducible rfl)
      simp only [Act.put, List.setIfInBounds_toArray, List.set_cons_zero, List.set_cons_succ]
      refine' wpAnyH_take (i := 4) (oi := { dst := some 63, op := Go.Op.fieldAddr 46 (Go.Operand.tmp 62) 3, type := 0, pos := "law.go:143", after := #[{ on := 3, ground := Go.Ground.data }], guard := none }) (v := _) rfl (by kernel_rfl) (by kernel_rfl) (by kernel_rfl) (fun _ _ _ h => h) (Or.inl ⟨by rfl, ?hy286⟩) (by assumption) ?hr286
      case hy286 => (intro _ hSw; (try dsimp only at hSw); go_simp <;> with_reducible rfl)
      simp only [Act.put, List.setIfInBounds_toArray, List.set_cons_zero, List.set_cons_succ]
      refine' wpAnyH_take (i := 5) (oi := { dst := some 64, op := Go.Op.load 44 (Go.Operand.tmp 63), type := 44, pos := "law.go:143", after := #[{ on := 4, ground := Go.Ground.data }], guard := none }) (v := _) rfl (by kernel_rfl) (by kernel_rfl) (by kernel_rfl) (fun _ _ _ h => h) (Or.inl ⟨by rfl, ?hy287⟩) (by assumption) ?hr287
      case hy287 => (intro _ hSw; (try dsimp only at hSw); have hc := cell_of (i := 3) (v := two b.bk) hSw.2.1 rfl; go_simp <;> with_reducible rfl)
      simp only [Act.put, List.setIfInBounds_toArray, List.set_cons_zero, List.set_cons_succ]
      refine' wpAnyH_take (i := 6) (oi := { dst := some 65, op := Go.Op.move (Go.Operand.tmp 1), type := 3, pos := "law.go:143", after := #[], guard := none }) (v := _) rfl (by kernel_rfl) (by kernel_rfl) (by kernel_rfl) (fun _ _ _ h => h) (Or.inl ⟨by rfl, ?hy288⟩) (by assumption) ?hr288
      case hy288 => (intro _ hSw; (try dsimp only at hSw); go_simp <;> with_reducible rfl)
      simp only [Act.put, List.setIfInBounds_toArray, List.set_cons_zero, List.set_cons_succ]
      refine' wpAnyH_take (i := 7) (oi := { dst := some 66, op := Go.Op.indexAddr 44 (Go.Operand.tmp 64) (Go.Operand.tmp 65), type := 0, pos := "law.go:143", after := #[{ on := 5, ground := Go.Ground.data }, { on := 6, ground := Go.Ground.data }], guard := none }) (v := _) rfl (by kernel_rfl) (by kernel_rfl) (by kernel_rfl) (fun _ _ _ h => h) (Or.inl ⟨by rfl, ?hy289⟩) (by assumption) ?hr289
      case hy289 => (intro _ hSw; (try dsimp only at hSw); go_simp <;> with_reducible rfl)
      simp only [Act.put, List.setIfInBounds_toArray, List.set_cons_zero, List.set_cons_succ]
      refine' wpAnyH_take (i := 8) (oi := { dst := some 67, op := Go.Op.load 3 (Go.Operand.tmp 66), type := 3, pos := "law.go:143", after := #[{ on := 7, ground := Go.Ground.data }], guard := none }) (v := _) rfl (by kernel_rfl) (by kernel_rfl) (by kernel_rfl) (fun _ _ _ h => h) (Or.inl ⟨by rfl, ?hy290⟩) (by assumption) ?hr290
      case hy290 => (intro _ hSw; (try dsimp only at hSw); have hc := cell_of (i := 1) (v := nm x.k1) hSw.2.2 rfl; go_simp <;> with_reducible rfl)
      simp only [Act.put, List.setIfInBounds_toArray, List.set_cons_zero, List.set_cons_succ]
      clear hHeld
      generalize w5.drew = w6 at H6 hac3 ⊢
      refine wpAnyH_ready (rs := [9]) (by kernel_rfl) (by simp) ?_
      refine AllReadyH.cons (o := { dst := some 68, op := Go.Op.call { callee := Go.Callee.value (Go.Operand.func 36), args := #[Go.Operand.tmp 67], argTypes := #[3] }, type := 9, pos := "law.go:143", after := #[{ on := 8, ground := Go.Ground.data }], guard := none }) rfl (fun K hK => ?_) AllReadyH.nil
      go_simp
      refine (finf x.k1 HKB.out _).mono ?_
      rintro _ w7 ⟨rfl, hb⟩
      have H7 := Lib.hid (H6.out.on hb)
      have hac7 := stays hac3 hb
      clear hb hac3 H6
      go_wp2_with fail
      refine hK.out _ _ ⟨hac7, H7.out.blk, H7.out.k⟩ (fun hNext => ?_)
      clear hK K
      have hHeld := hNext
      clear hNext
      (try simp only [Act.put, List.setIfInBounds_toArray, List.set_cons_zero, List.set_cons_succ])
      subst hmi
      have b1 : ((inf x.k1).toList == (inf x.k1).toList) = true := by simp
      have b2 : ((inf x.k1).toList != (inf x.k1).toList) = false := by simp
      generalize inf x.k1 = st at b1 b2 hHeld hac7 ⊢
      refine' wpAnyH_take (i := 10) (oi := { dst := some 69, op := Go.Op.binOp Go.BinOp.neq 9 (Go.Operand.tmp 60) (Go.Operand.tmp 68) 9, type := 4, pos := "law.go:143", after := #[{ on := 1, ground := Go.Ground.data }, { on := 9, ground := Go.Ground.data }], guard := none }) (v := _) rfl (by kernel_rfl) (by kernel_rfl) (by kernel_rfl) (fun _ _ _ h => h) (Or.inl ⟨by rfl, ?hy291⟩) (by assumption) ?hr291
      case hy291 => (intro _ hSw; (try dsimp only at hSw); go_simp <;> with_reducible rfl)
      simp only [Act.put, List.setIfInBounds_toArray, List.set_cons_zero, List.set_cons_succ]
      refine wpAnyH_done (by kernel_rfl) ?_ _
      clear hHeld
      have c3 : w7.cell? ⟨b.tb, 3, none⟩ = some (two b.bk) := cell_of H7.out.blk rfl
      have ck : w7.cell? ⟨b.bk, 1, none⟩ = some (nm x.k1) := cell_of H7.out.k rfl
      have fk2 : ∀ i, w7.frozen? ⟨b.bk, i, none⟩ = false := fun _ => free_of H7.out.k
      have vk : IntKind.i64.wrap ((x.k1 : Int) + 1) = ((x.k1 + 1 : Nat) : Int) := by have := HKB.out; rw [IntKind.wrap_i64]; omega
      have H8 := Lib.hid (H7.out.put_k x.k0 (x.k1 + 1) (chg_cell w7 b.bk 1 (nm (x.k1 + 1))) (block_set (i := 1) H7.out.k _))
      clear H7 hac7
      obtain ⟨kn, hkn⟩ : ∃ kn, x.k1 + 1 = kn := ⟨_, rfl⟩
      rw [hkn] at vk H8
      have HKN := Lib.hid hkn
      clear hkn
      go_wp2
      go_ret
      have hkn := HKN.out
      clear HKN
      subst hkn
      exact ⟨rfl, _, _, _, _, _, H8.out⟩
  · rw [if_neg hc1] at HQ1
    refine' wpAnyH_take (i := 12) (oi := { dst := some 39, op := Go.Op.slice 88 (Go.Operand.tmp 38) (some (Go.Operand.const (Go.Value.int Go.IntKind.i64 1))) none none, type := 88, pos := "law.go:134", after := #[{ on := 11, ground := Go.Ground.data }], guard := none }) (v := _) rfl (by kernel_rfl) (by kernel_rfl) (by kernel_rfl) (fun _ _ _ h => h) (Or.inl ⟨by rfl, ?hy292⟩) (by assumption) ?hr292
    case hy292 => (intro _ hSw; (try dsimp only at hSw); go_simp <;> with_reducible rfl)
    simp only [Act.put, List.setIfInBounds_toArray, List.set_cons_zero, List.set_cons_succ]
    refine' wpAnyH_take (i := 13) (oi := { dst := some 40, op := Go.Op.indexAddr 43 (Go.Operand.tmp 30) (Go.Operand.tmp 31), type := 0, pos := "law.go:134", after := #[{ on := 3, ground := Go.Ground.data }, { on := 4, ground := Go.Ground.data }, { on := 0, ground := Go.Ground.phase }, { on := 1, ground := Go.Ground.phase }, { on := 2, ground := Go.Ground.phase }, { on := 3, ground := Go.Ground.phase }, { on := 4, ground := Go.Ground.phase }, { on := 5, ground := Go.Ground.phase }, { on := 6, ground := Go.Ground.phase }, { on := 7, ground := Go.Ground.phase }, { on := 8, ground := Go.Ground.phase }, { on := 9, ground := Go.Ground.phase }, { on := 10, ground := Go.Ground.phase }, { on := 11, ground := Go.Ground.phase }, { on := 12, ground := Go.Ground.phase }], guard := none }) (v := _) rfl (by kernel_rfl) (by kernel_rfl) (by kernel_rfl) (fun _ _ _ h => h) (Or.inl ⟨by rfl, ?hy293⟩) (by assumption) ?hr293
    case hy293 => (intro _ hSw; (try dsimp only at hSw); go_simp <;> with_reducible rfl)
    simp only [Act.put, List.setIfInBounds_toArray, List.set_cons_zero, List.set_cons_succ]
    refine wpAnyH_ready (rs := [14]) (by kernel_rfl) (by simp) ?_
    refine AllReadyH.cons (o := { dst := none, op := Go.Op.store 88 (Go.Operand.tmp 40) (Go.Operand.tmp 39), type := 0, pos := "law.go:134", after := #[{ on := 13, ground := Go.Ground.data }, { on := 12, ground := Go.Ground.data }, { on := 0, ground := Go.Ground.phase }, { on := 1, ground := Go.Ground.phase }, { on := 2, ground := Go.Ground.phase }, { on := 3, ground := Go.Ground.phase }, { on := 4, ground := Go.Ground.phase }, { on := 5, ground := Go.Ground.phase }, { on := 6, ground := Go.Ground.phase }, { on := 7, ground := Go.Ground.phase }, { on := 8, ground := Go.Ground.phase }, { on := 9, ground := Go.Ground.phase }, { on := 10, ground := Go.Ground.phase }, { on := 11, ground := Go.Ground.phase }, { on := 12, ground := Go.Ground.phase }], guard := none }) rfl (fun K hK => ?_) AllReadyH.nil
    go_simp
    refine hK.out _ _ ((set_other hne _).trans HTB.out) (fun hNext => ?_)
    clear hNext hHeld
    refine wpAnyH_done (by kernel_rfl) ?_ _
    clear hK K
    have hgr : w1.grownBy w1 v1.ownBlock := ⟨rfl, rfl, rfl, Nat.le_refl _, fun _ _ _ => rfl⟩
    have how : (Value.ownBlock (.slice (some ⟨g, off + 7, none⟩) z (cap - 1))) = v1.ownBlock := by rw [HV.out]; rfl
    have H2 := Lib.hid (H1.out.put1 hgr HQ1.out (Or.inl how))
    have hA2 : (w1.setCell ⟨b.bl, 1, none⟩ (.slice (some ⟨g, off + 7, none⟩) z (cap - 1))).heap[fb]? = some (.cells #[.int .u8 0, .bool fc, .int .u8 (fk : Int), .bool fpf, .int .u8 (fns : Int), .int .u8 (fnr : Int), .string fi] TF (0, 0)) := (set_other (by omega) _).trans hA1
    clear HQ1 H1 hA1 b2 f2 HTB hgr how
    generalize w1.setCell ⟨b.bl, 1, none⟩ (.slice (some ⟨g, off + 7, none⟩) z (cap - 1)) = w2 at H2 hA2 ⊢
    generalize retag w1 tag 8 = tag2 at H2
    go_wp2_with fail
    have H3 := Lib.hid (H2.out.on (w' := w2.drew) ⟨rfl, rfl, rfl, Nat.le_refl _, fun _ _ => rfl⟩)
    have hA3 : w2.drew.heap[fb]? = some (.cells #[.int .u8 0, .bool fc, .int .u8 (fk : Int), .bool fpf, .int .u8 (fns : Int), .int .u8 (fnr : Int), .string fi] TF (0, 0)) := hA2
    clear H2 hA2
    refine wp_region_held_drew (S := (fun w' => w'.heap[fb]? = some (.cells #[.int .u8 0, .bool fc, .int .u8 (fk : Int), .bool fpf, .int .u8 (fns : Int), .int .u8 (fnr : Int), .string fi] TF (0, 0)) ∧ w'.heap[b.tb]? = some (.cells #[two b.ba, two b.bl, two b.bu, two b.bk, .bool x.bad] 46 (0, 0)) ∧ w'.heap[b.ba]? = some (.cells #[ptr b.p0, ptr b.p1] 28 (0, 0)))) (by kernel_rfl) ⟨hA3, H3.out.blk, H3.out.a⟩ (fun hHeld => ?_)
    refine' wpAnyH_take (i := 0) (oi := { dst := some 42, op := Go.Op.move (Go.Operand.tmp 0), type := 40, pos := "law.go:138", after := #[], guard := none }) (v := _) rfl (by kernel_rfl) (by kernel_rfl) (by kernel_rfl) (fun _ _ _ h => h) (Or.inl ⟨by rfl, ?hy294⟩) (by assumption) ?hr294
    case hy294 => (intro _ hSw; (try dsimp only at hSw); go_simp <;> with_reducible rfl)
    simp only [Act.put, List.setIfInBounds_toArray, List.set_cons_zero, List.set_cons_succ]
    refine' wpAnyH_take (i := 1) (oi := { dst := some 43, op := Go.Op.nilCheck (Go.Operand.tmp 42), type := 0, pos := "law.go:138", after := #[{ on := 0, ground := Go.Ground.data }], guard := none }) (v := _) rfl (by kernel_rfl) (by kernel_rfl) (by kernel_rfl) (fun _ _ _ h => h) (Or.inl ⟨by rfl, ?hy295⟩) (by assumption) ?hr295
    case hy295 => (intro _ hSw; (try dsimp only at hSw); go_simp <;> with_reducible rfl)
    simp only [Act.put, List.setIfInBounds_toArray, List.set_cons_zero, List.set_cons_succ]
    refine' wpAnyH_take (i := 2) (oi := { dst := some 44, op := Go.Op.fieldAddr 46 (Go.Operand.tmp 43) 0, type := 0, pos := "law.go:138", after := #[{ on := 1, ground := Go.Ground.data }], guard := none }) (v := _) rfl (by kernel_rfl) (by kernel_rfl) (by kernel_rfl) (fun _ _ _ h => h) (Or.inl ⟨by rfl, ?hy296⟩) (by assumption) ?hr296
    case hy296 => (intro _ hSw; (try dsimp only at hSw); go_simp <;> with_reducible rfl)
    simp only [Act.put, List.setIfInBounds_toArray, List.set_cons_zero, List.set_cons_succ]
    refine' wpAnyH_take (i := 3) (oi := { dst := some 45, op := Go.Op.load 42 (Go.Operand.tmp 44), type := 42, pos := "law.go:138", after := #[{ on := 2, ground := Go.Ground.data }], guard := none }) (v := _) rfl (by kernel_rfl) (by kernel_rfl) (by kernel_rfl) (fun _ _ _ h => h) (Or.inl ⟨by rfl, ?hy297⟩) (by assumption) ?hr297
    case hy297 => (intro _ hSw; (try dsimp only at hSw); have hc := cell_of (i := 0) (v := two b.ba) hSw.2.1 rfl; go_simp <;> with_reducible rfl)
    simp only [Act.put, List.setIfInBounds_toArray, List.set_cons_zero, List.set_cons_succ]
    refine' wpAnyH_take (i := 4) (oi := { dst := some 46, op := Go.Op.move (Go.Operand.tmp 1), type := 3, pos := "law.go:138", after := #[], guard := none }) (v := _) rfl (by kernel_rfl) (by kernel_rfl) (by kernel_rfl) (fun _ _ _ h => h) (Or.inl ⟨by rfl, ?hy298⟩) (by assumption) ?hr298
    case hy298 => (intro _ hSw; (try dsimp only at hSw); go_simp <;> with_reducible rfl)
    simp only [Act.put, List.setIfInBounds_toArray, List.set_cons_zero, List.set_cons_succ]
    refine' wpAnyH_take (i := 5) (oi := { dst := some 47, op := Go.Op.binOp Go.BinOp.sub 3 (Go.Operand.const (Go.Value.int Go.IntKind.i64 1)) (Go.Operand.tmp 46) 3, type := 3, pos := "law.go:138", after := #[{ on := 4, ground := Go.Ground.data }], guard := none }) (v := _) rfl (by kernel_rfl) (by kernel_rfl) (by kernel_rfl) (fun _ _ _ h => h) (Or.inl ⟨by rfl, ?hy299⟩) (by assumption) ?hr299
    case hy299 => (intro _ hSw; (try dsimp only at hSw); go_simp <;> with_reducible rfl)
    simp only [Act.put, List.setIfInBounds_toArray, List.set_cons_zero, List.set_cons_succ]
    refine' wpAnyH_take (i := 6) (oi := { dst := some 48, op := Go.Op.indexAddr 42 (Go.Operand.tmp 45) (Go.Operand.tmp 47), type := 0, pos := "law.go:138", after := #[{ on := 3, ground := Go.Ground.data }, { on := 5, ground := Go.Ground.data }], guard := none }) (v := _) rfl (by kernel_rfl) (by kernel_rfl) (by kernel_rfl) (fun _ _ _ h => h) (Or.inl ⟨by rfl, ?hy300⟩) (by assumption) ?hr300
    case hy300 => (intro _ hSw; (try dsimp only at hSw); go_simp <;> with_reducible rfl)
    simp only [Act.put, List.setIfInBounds_toArray, List.set_cons_zero, List.set_cons_succ]
    refine' wpAnyH_take (i := 7) (oi := { dst := some 49, op := Go.Op.load 28 (Go.Operand.tmp 48), type := 28, pos := "law.go:138", after := #[{ on := 6, ground := Go.Ground.data }], guard := none }) (v := _) rfl (by kernel_rfl) (by kernel_rfl) (by kernel_rfl) (fun _ _ _ h => h) (Or.inl ⟨by rfl, ?hy301⟩) (by assumption) ?hr301
    case hy301 => (intro _ hSw; (try dsimp only at hSw); have hc := cell_of (i := 0) (v := ptr b.p0) hSw.2.2 rfl; go_simp <;> with_reducible rfl)
    simp only [Act.put, List.setIfInBounds_toArray, List.set_cons_zero, List.set_cons_succ]
    refine' wpAnyH_take (i := 8) (oi := { dst := some 50, op := Go.Op.load 25 (Go.Operand.tmp 7), type := 25, pos := "law.go:138", after := #[], guard := none }) (v := _) rfl (by kernel_rfl) (by kernel_rfl) (by kernel_rfl) (fun _ _ _ h => h) (Or.inl ⟨by rfl, ?hy302⟩) (by assumption) ?hr302
    case hy302 => (intro _ hSw; (try dsimp only at hSw); obtain ⟨⟨y0, y1, y2, y3, y4, y5, y6⟩, -⟩ := cells7 hSw.1; go_simp <;> with_reducible rfl)
    simp only [Act.put, List.setIfInBounds_toArray, List.set_cons_zero, List.set_cons_succ]
    clear hHeld
    have hA4 : w2.drew.heap[fb]? = some (.cells #[.int .u8 0, .bool fc, .int .u8 (fk : Int), .bool fpf, .int .u8 (fns : Int), .int .u8 (fnr : Int), .string fi] TF (0, 0)) := hA3
    clear hA3
    generalize w2.drew = w3 at H3 hA4 ⊢
    have HS3 := Lib.hid (show w3.heap[fb]? = some (.cells #[.int .u8 0, .bool fc, .int .u8 (fk : Int), .bool fpf, .int .u8 (fns : Int), .int .u8 (fnr : Int), .string fi] TF (0, 0)) ∧ w3.heap[b.tb]? = some (.cells #[two b.ba, two b.bl, two b.bu, two b.bk, .bool x.bad] 46 (0, 0)) ∧ w3.heap[b.ba]? = some (.cells #[ptr b.p0, ptr b.p1] 28 (0, 0)) from ⟨hA4, H3.out.blk, H3.out.a⟩)
    have HF3 := Lib.hid (show b.p0 ≠ fb ∧ b.p1 ≠ fb ∧ (∀ g, q0.ownBlock = some g → g ≠ fb) from ⟨fun e => by have := HX.out.s0.lt; have := HFB.out; omega, fun e => by have := HX.out.s1.lt; have := HFB.out; omega, fun g hg e => by have := (HX.out.s0.q.lt g hg).2; have := HFB.out; omega⟩)
    clear hA4
    refine wpAnyH_ready (rs := [9, 10]) (by kernel_rfl) (by simp) ?_
    refine AllReadyH.cons (o := { dst := some 51, op := Go.Op.call { callee := Go.Callee.value (Go.Operand.func 24), args := #[Go.Operand.tmp 49, Go.Operand.tmp 50], argTypes := #[28, 25] }, type := 56, pos := "law.go:138", after := #[{ on := 7, ground := Go.Ground.data }, { on := 8, ground := Go.Ground.data }], guard := none }) rfl (fun K hK => ?_) (AllReadyH.cons (o := { dst := some 8, op := Go.Op.alloc 56, type := 0, pos := "law.go:138", after := #[], guard := none }) rfl (fun K hK => ?_) AllReadyH.nil)
    · go_simp
      refine (CH.out _ H3.out.s0).mono ?_
      rintro _ w4 ⟨rfl, u, hd⟩
      have HN := Lib.hid (H3.out.doA hd)
      have HS4 := Lib.hid (show w4.heap[fb]? = some (.cells #[.int .u8 0, .bool fc, .int .u8 (fk : Int), .bool fpf, .int .u8 (fns : Int), .int .u8 (fnr : Int), .string fi] TF (0, 0)) ∧ w4.heap[b.tb]? = some (.cells #[two b.ba, two b.bl, two b.bu, two b.bk, .bool x.bad] 46 (0, 0)) ∧ w4.heap[b.ba]? = some (.cells #[ptr b.p0, ptr b.p1] 28 (0, 0)) from ⟨hd.chg.stays HS3.out.1 (fun e => by rcases e with e | e; exact HF3.out.1 e.symm; exact HF3.out.2.2 _ e rfl), HN.out.blk, HN.out.a⟩)
      go_wp2_with fail
      refine hK.out _ _ HS4.out (fun hNext => ?_)
      clear hd CH H3 HS3 HF3
      clear hK K
      have hHeld := hNext
      clear hNext
      (try simp only [Act.put, List.setIfInBounds_toArray, List.set_cons_zero, List.set_cons_succ])
      refine wpAnyH_ready (rs := [10]) (by kernel_rfl) (by simp) ?_
      refine AllReadyH.cons (o := { dst := some 8, op := Go.Op.alloc 56, type := 0, pos := "law.go:138", after := #[], guard := none }) rfl (fun K hK => ?_) AllReadyH.nil
      go_simp
      refine hK.out _ _ ⟨stays HS4.out.1 (nest_below w4 [noM TA]), stays HS4.out.2.1 (nest_below w4 [noM TA]), stays HS4.out.2.2 (nest_below w4 [noM TA])⟩ (fun hNext => ?_)
      clear hHeld
      clear hK K
      have hHeld := hNext
      clear hNext
      (try simp only [Act.put, List.setIfInBounds_toArray, List.set_cons_zero, List.set_cons_succ])
      have H5 := Lib.hid (HN.out.on (show Below w4.heap.size w4 (w4.alloc (.cells #[.string mi, .bool true, .int .i64 (ma : Int), .bool false] TA (0, 0))) from nest_below w4 [_]))
      have hac : (w4.alloc (.cells #[.string mi, .bool true, .int .i64 (ma : Int), .bool false] TA (0, 0))).heap[w4.heap.size]? = some (.cells #[.string mi, .bool true, .int .i64 (ma : Int), .bool false] TA (0, 0)) := nest w4 [_] 0 _ rfl
      refine wpAnyH_ready (rs := [11]) (by kernel_rfl) (by simp) ?_
      refine AllReadyH.cons (o := { dst := none, op := Go.Op.store 56 (Go.Operand.tmp 8) (Go.Operand.tmp 51), type := 0, pos := "law.go:138", after := #[{ on := 10, ground := Go.Ground.data }, { on := 9, ground := Go.Ground.data }, { on := 9, ground := Go.Ground.chain }, { on := 0, ground := Go.Ground.phase }, { on := 1, ground := Go.Ground.phase }, { on := 2, ground := Go.Ground.phase }, { on := 3, ground := Go.Ground.phase }, { on := 4, ground := Go.Ground.phase }, { on := 5, ground := Go.Ground.phase }, { on := 6, ground := Go.Ground.phase }, { on := 7, ground := Go.Ground.phase }, { on := 8, ground := Go.Ground.phase }, { on := 9, ground := Go.Ground.phase }, { on := 10, ground := Go.Ground.phase }], guard := none }) rfl (fun K hK => ?_) AllReadyH.nil
      go_simp
      go_wp2_with fail
      refine hK.out _ _ ⟨stays HS4.out.1 (nest_below w4 [(.cells #[.string mi, .bool true, .int .i64 (ma : Int), .bool false] TA (0, 0))]), H5.out.blk, H5.out.a⟩ (fun hNext => ?_)
      clear hHeld
      clear hK K
      have hHeld := hNext
      clear hNext
      (try simp only [Act.put, List.setIfInBounds_toArray, List.set_cons_zero, List.set_cons_succ])
      refine wpAnyH_done (by kernel_rfl) ?_ _
      clear hHeld
      have HK2 := Lib.hid (show b.bk ≠ w4.heap.size from fun e => by have := lt_heap HN.out.k; omega)
      clear HS4 HN
      generalize w4.alloc (.cells #[.string mi, .bool true, .int .i64 (ma : Int), .bool false] TA (0, 0)) = w5 at H5 hac ⊢
      generalize w4.heap.size = ab at hac HK2 ⊢
      generalize retag w3 tag2 5 = tag5 at H5
      obtain ⟨⟨a0, a1, a2, a3⟩, af⟩ := cells4 hac
      have hmi := HM.out
      go_wp2_with fail
      have H6 := Lib.hid (H5.out.on (w' := w5.drew) ⟨rfl, rfl, rfl, Nat.le_refl _, fun _ _ => rfl⟩)
      have hac3 : w5.drew.heap[ab]? = some (.cells #[.string mi, .bool true, .int .i64 (ma : Int), .bool false] TA (0, 0)) := hac
      clear a0 a1 a2 a3 af hac H5
      refine wp_region_held_drew (S := (fun w' => w'.heap[ab]? = some (.cells #[.string mi, .bool true, .int .i64 (ma : Int), .bool false] TA (0, 0)) ∧ w'.heap[b.tb]? = some (.cells #[two b.ba, two b.bl, two b.bu, two b.bk, .bool x.bad] 46 (0, 0)) ∧ w'.heap[b.bk]? = some (.cells #[nm x.k0, nm x.k1] 3 (0, 0)))) (by kernel_rfl) ⟨hac3, H6.out.blk, H6.out.k⟩ (fun hHeld => ?_)
      refine' wpAnyH_take (i := 0) (oi := { dst := some 59, op := Go.Op.fieldAddr 56 (Go.Operand.tmp 8) 0, type := 0, pos := "law.go:143", after := #[], guard := none }) (v := _) rfl (by kernel_rfl) (by kernel_rfl) (by kernel_rfl) (fun _ _ _ h => h) (Or.inl ⟨by rfl, ?hy303⟩) (by assumption) ?hr303
      case hy303 => (intro _ hSw; (try dsimp only at hSw); go_simp <;> with_reducible rfl)
      simp only [Act.put, List.setIfInBounds_toArray, List.set_cons_zero, List.set_cons_succ]
      refine' wpAnyH_take (i := 1) (oi := { dst := some 60, op := Go.Op.load 9 (Go.Operand.tmp 59), type := 9, pos := "law.go:143", after := #[{ on := 0, ground := Go.Ground.data }], guard := none }) (v := _) rfl (by kernel_rfl) (by kernel_rfl) (by kernel_rfl) (fun _ _ _ h => h) (Or.inl ⟨by rfl, ?hy304⟩) (by assumption) ?hr304
      case hy304 => (intro _ hSw; (try dsimp only at hSw); obtain ⟨⟨y0, y1, y2, y3⟩, -⟩ := cells4 hSw.1; go_simp <;> with_reducible rfl)
      simp only [Act.put, List.setIfInBounds_toArray, List.set_cons_zero, List.set_cons_succ]
      refine' wpAnyH_take (i := 2) (oi := { dst := some 61, op := Go.Op.move (Go.Operand.tmp 0), type := 40, pos := "law.go:143", after := #[], guard := none }) (v := _) rfl (by kernel_rfl) (by kernel_rfl) (by kernel_rfl) (fun _ _ _ h => h) (Or.inl ⟨by rfl, ?hy305⟩) (by assumption) ?hr305
      case hy305 => (intro _ hSw; (try dsimp only at hSw); go_simp <;> with_reducible rfl)
      simp only [Act.put, List.setIfInBounds_toArray, List.set_cons_zero, List.set_cons_succ]
      refine' wpAnyH_take (i := 3) (oi := { dst := some 62, op := Go.Op.nilCheck (Go.Operand.tmp 61), type := 0, pos := "law.go:143", after := #[{ on := 2, ground := Go.Ground.data }], guard := none }) (v := _) rfl (by kernel_rfl) (by kernel_rfl) (by kernel_rfl) (fun _ _ _ h => h) (Or.inl ⟨by rfl, ?hy306⟩) (by assumption) ?hr306
      case hy306 => (intro _ hSw; (try dsimp only at hSw); go_simp <;> with_reducible rfl)
      simp only [Act.put, List.setIfInBounds_toArray, List.set_cons_zero, List.set_cons_succ]
      refine' wpAnyH_take (i := 4) (oi := { dst := some 63, op := Go.Op.fieldAddr 46 (Go.Operand.tmp 62) 3, type := 0, pos := "law.go:143", after := #[{ on := 3, ground := Go.Ground.data }], guard := none }) (v := _) rfl (by kernel_rfl) (by kernel_rfl) (by kernel_rfl) (fun _ _ _ h => h) (Or.inl ⟨by rfl, ?hy307⟩) (by assumption) ?hr307
      case hy307 => (intro _ hSw; (try dsimp only at hSw); go_simp <;> with_reducible rfl)
      simp only [Act.put, List.setIfInBounds_toArray, List.set_cons_zero, List.set_cons_succ]
      refine' wpAnyH_take (i := 5) (oi := { dst := some 64, op := Go.Op.load 44 (Go.Operand.tmp 63), type := 44, pos := "law.go:143", after := #[{ on := 4, ground := Go.Ground.data }], guard := none }) (v := _) rfl (by kernel_rfl) (by kernel_rfl) (by kernel_rfl) (fun _ _ _ h => h) (Or.inl ⟨by rfl, ?hy308⟩) (by assumption) ?hr308
      case hy308 => (intro _ hSw; (try dsimp only at hSw); have hc := cell_of (i := 3) (v := two b.bk) hSw.2.1 rfl; go_simp <;> with_reducible rfl)
      simp only [Act.put, List.setIfInBounds_toArray, List.set_cons_zero, List.set_cons_succ]
      refine' wpAnyH_take (i := 6) (oi := { dst := some 65, op := Go.Op.move (Go.Operand.tmp 1), type := 3, pos := "law.go:143", after := #[], guard := none }) (v := _) rfl (by kernel_rfl) (by kernel_rfl) (by kernel_rfl) (fun _ _ _ h => h) (Or.inl ⟨by rfl, ?hy309⟩) (by assumption) ?hr309
      case hy309 => (intro _ hSw; (try dsimp only at hSw); go_simp <;> with_reducible rfl)
      simp only [Act.put, List.setIfInBounds_toArray, List.set_cons_zero, List.set_cons_succ]
      refine' wpAnyH_take (i := 7) (oi := { dst := some 66, op := Go.Op.indexAddr 44 (Go.Operand.tmp 64) (Go.Operand.tmp 65), type := 0, pos := "law.go:143", after := #[{ on := 5, ground := Go.Ground.data }, { on := 6, ground := Go.Ground.data }], guard := none }) (v := _) rfl (by kernel_rfl) (by kernel_rfl) (by kernel_rfl) (fun _ _ _ h => h) (Or.inl ⟨by rfl, ?hy310⟩) (by assumption) ?hr310
      case hy310 => (intro _ hSw; (try dsimp only at hSw); go_simp <;> with_reducible rfl)
      simp only [Act.put, List.setIfInBounds_toArray, List.set_cons_zero, List.set_cons_succ]
      refine' wpAnyH_take (i := 8) (oi := { dst := some 67, op := Go.Op.load 3 (Go.Operand.tmp 66), type := 3, pos := "law.go:143", after := #[{ on := 7, ground := Go.Ground.data }], guard := none }) (v := _) rfl (by kernel_rfl) (by kernel_rfl) (by kernel_rfl) (fun _ _ _ h => h) (Or.inl ⟨by rfl, ?hy311⟩) (by assumption) ?hr311
      case hy311 => (intro _ hSw; (try dsimp only at hSw); have hc := cell_of (i := 1) (v := nm x.k1) hSw.2.2 rfl; go_simp <;> with_reducible rfl)
      simp only [Act.put, List.setIfInBounds_toArray, List.set_cons_zero, List.set_cons_succ]
      clear hHeld
      generalize w5.drew = w6 at H6 hac3 ⊢
      refine wpAnyH_ready (rs := [9]) (by kernel_rfl) (by simp) ?_
      refine AllReadyH.cons (o := { dst := some 68, op := Go.Op.call { callee := Go.Callee.value (Go.Operand.func 36), args := #[Go.Operand.tmp 67], argTypes := #[3] }, type := 9, pos := "law.go:143", after := #[{ on := 8, ground := Go.Ground.data }], guard := none }) rfl (fun K hK => ?_) AllReadyH.nil
      go_simp
      refine (finf x.k1 HKB.out _).mono ?_
      rintro _ w7 ⟨rfl, hb⟩
      have H7 := Lib.hid (H6.out.on hb)
      have hac7 := stays hac3 hb
      clear hb hac3 H6
      go_wp2_with fail
      refine hK.out _ _ ⟨hac7, H7.out.blk, H7.out.k⟩ (fun hNext => ?_)
      clear hK K
      have hHeld := hNext
      clear hNext
      (try simp only [Act.put, List.setIfInBounds_toArray, List.set_cons_zero, List.set_cons_succ])
      subst hmi
      have b1 : ((inf x.k1).toList == (inf x.k1).toList) = true := by simp
      have b2 : ((inf x.k1).toList != (inf x.k1).toList) = false := by simp
      generalize inf x.k1 = st at b1 b2 hHeld hac7 ⊢
      refine' wpAnyH_take (i := 10) (oi := { dst := some 69, op := Go.Op.binOp Go.BinOp.neq 9 (Go.Operand.tmp 60) (Go.Operand.tmp 68) 9, type := 4, pos := "law.go:143", after := #[{ on := 1, ground := Go.Ground.data }, { on := 9, ground := Go.Ground.data }], guard := none }) (v := _) rfl (by kernel_rfl) (by kernel_rfl) (by kernel_rfl) (fun _ _ _ h => h) (Or.inl ⟨by rfl, ?hy312⟩) (by assumption) ?hr312
      case hy312 => (intro _ hSw; (try dsimp only at hSw); go_simp <;> with_reducible rfl)
      simp only [Act.put, List.setIfInBounds_toArray, List.set_cons_zero, List.set_cons_succ]
      refine wpAnyH_done (by kernel_rfl) ?_ _
      clear hHeld
      have c3 : w7.cell? ⟨b.tb, 3, none⟩ = some (two b.bk) := cell_of H7.out.blk rfl
      have ck : w7.cell? ⟨b.bk, 1, none⟩ = some (nm x.k1) := cell_of H7.out.k rfl
      have fk2 : ∀ i, w7.frozen? ⟨b.bk, i, none⟩ = false := fun _ => free_of H7.out.k
      have vk : IntKind.i64.wrap ((x.k1 : Int) + 1) = ((x.k1 + 1 : Nat) : Int) := by have := HKB.out; rw [IntKind.wrap_i64]; omega
      have H8 := Lib.hid (H7.out.put_k x.k0 (x.k1 + 1) (chg_cell w7 b.bk 1 (nm (x.k1 + 1))) (block_set (i := 1) H7.out.k _))
      clear H7 hac7
      obtain ⟨kn, hkn⟩ : ∃ kn, x.k1 + 1 = kn := ⟨_, rfl⟩
      rw [hkn] at vk H8
      have HKN := Lib.hid hkn
      clear hkn
      go_wp2
      go_ret
      have hkn := HKN.out
      clear HKN
      subst hkn
      exact ⟨rfl, _, _, _, _, _, H8.out⟩
    · go_simp
      refine hK.out _ _ ⟨stays HS3.out.1 (nest_below w3 [noM TA]), stays HS3.out.2.1 (nest_below w3 [noM TA]), stays HS3.out.2.2 (nest_below w3 [noM TA])⟩ (fun hNext => ?_)
      clear hK K
      have hHeld := hNext
      clear hNext
      (try simp only [Act.put, List.setIfInBounds_toArray, List.set_cons_zero, List.set_cons_succ])
      have H4 := Lib.hid ((H3.out.mark 9).on (show Below w3.heap.size w3 (w3.alloc (noM TA)) from nest_below w3 [_]))
      have HT4 := Lib.hid (show retag w3 tag2 9 w3.heap.size = 9 from retag_new (Nat.le_refl _))
      generalize retag w3 tag2 9 = tag4 at H4 HT4
      have hn4 : (w3.alloc (noM TA)).heap[w3.heap.size]? = some (noM TA) := nest w3 [_] 0 _ rfl
      have hs4 := size_alloc w3 (noM TA)
      have HS4 := Lib.hid (show (w3.alloc (noM TA)).heap[fb]? = some (.cells #[.int .u8 0, .bool fc, .int .u8 (fk : Int), .bool fpf, .int .u8 (fns : Int), .int .u8 (fnr : Int), .string fi] TF (0, 0)) from stays HS3.out.1 (nest_below w3 [noM TA]))
      refine wpAnyH_ready (rs := [9]) (by kernel_rfl) (by simp) ?_
      refine AllReadyH.cons (o := { dst := some 51, op := Go.Op.call { callee := Go.Callee.value (Go.Operand.func 24), args := #[Go.Operand.tmp 49, Go.Operand.tmp 50], argTypes := #[28, 25] }, type := 56, pos := "law.go:138", after := #[{ on := 7, ground := Go.Ground.data }, { on := 8, ground := Go.Ground.data }], guard := none }) rfl (fun K hK => ?_) AllReadyH.nil
      go_simp
      refine (CH.out _ H4.out.s0).mono ?_
      rintro _ w4 ⟨rfl, u, hd⟩
      have HN := Lib.hid (H4.out.doA hd)
      have hn5 : w4.heap[w3.heap.size]? = some (noM TA) := hd.chg.stays hn4 (fun e => by
        rcases e with e | e
        · have := H4.out.t5; have := HT4.out; rw [e] at this; omega
        · have := H4.out.o0 _ e; have := HT4.out; omega)
      have hf5 : w4.heap[fb]? = some (.cells #[.int .u8 0, .bool fc, .int .u8 (fk : Int), .bool fpf, .int .u8 (fns : Int), .int .u8 (fnr : Int), .string fi] TF (0, 0)) := hd.chg.stays HS4.out (fun e => by
        rcases e with e | e
        · exact HF3.out.1 e.symm
        · exact HF3.out.2.2 _ e rfl)
      have htn : retag (w3.alloc (noM TA)) tag4 5 w3.heap.size = 9 := by rw [retag_old (by omega)]; exact HT4.out
      go_wp2_with fail
      refine hK.out _ _ ⟨hf5, HN.out.blk, HN.out.a⟩ (fun hNext => ?_)
      clear hd CH hHeld hn4
      clear hK K
      have hHeld := hNext
      clear hNext
      (try simp only [Act.put, List.setIfInBounds_toArray, List.set_cons_zero, List.set_cons_succ])
      obtain ⟨⟨y0, y1, y2, y3⟩, yf⟩ := cells4 hn5
      have hac : ((((w4.setCell ⟨w3.heap.size, 0, none⟩ (.string mi)).setCell ⟨w3.heap.size, 1, none⟩ (.bool true)).setCell ⟨w3.heap.size, 2, none⟩ (.int .i64 (ma : Int))).setCell ⟨w3.heap.size, 3, none⟩ (.bool false)).heap[w3.heap.size]? = some (.cells #[.string mi, .bool true, .int .i64 (ma : Int), .bool false] TA (0, 0)) := set4_at hn5 (.string mi) (.bool true) (.int .i64 (ma : Int)) (.bool false)
      have hcc : Chg (fun k => k = w3.heap.size) w4 ((((w4.setCell ⟨w3.heap.size, 0, none⟩ (.string mi)).setCell ⟨w3.heap.size, 1, none⟩ (.bool true)).setCell ⟨w3.heap.size, 2, none⟩ (.int .i64 (ma : Int))).setCell ⟨w3.heap.size, 3, none⟩ (.bool false)) := chg_set4 (S := fun k => k = w3.heap.size) (Chg.refl _ w4) (fun _ => rfl) _ _ _ _
      have H5 := Lib.hid (HN.out.other hcc htn H3.out.below.size)
      refine wpAnyH_ready (rs := [11]) (by kernel_rfl) (by simp) ?_
      refine AllReadyH.cons (o := { dst := none, op := Go.Op.store 56 (Go.Operand.tmp 8) (Go.Operand.tmp 51), type := 0, pos := "law.go:138", after := #[{ on := 10, ground := Go.Ground.data }, { on := 9, ground := Go.Ground.data }, { on := 9, ground := Go.Ground.chain }, { on := 0, ground := Go.Ground.phase }, { on := 1, ground := Go.Ground.phase }, { on := 2, ground := Go.Ground.phase }, { on := 3, ground := Go.Ground.phase }, { on := 4, ground := Go.Ground.phase }, { on := 5, ground := Go.Ground.phase }, { on := 6, ground := Go.Ground.phase }, { on := 7, ground := Go.Ground.phase }, { on := 8, ground := Go.Ground.phase }, { on := 9, ground := Go.Ground.phase }, { on := 10, ground := Go.Ground.phase }], guard := none }) rfl (fun K hK => ?_) AllReadyH.nil
      go_simp
      go_wp2_with fail
      refine hK.out _ _ ⟨hcc.stays hf5 (fun e => by have := lt_heap HS3.out.1; omega), H5.out.blk, H5.out.a⟩ (fun hNext => ?_)
      clear hHeld
      clear hK K
      have hHeld := hNext
      clear hNext
      (try simp only [Act.put, List.setIfInBounds_toArray, List.set_cons_zero, List.set_cons_succ])
      refine wpAnyH_done (by kernel_rfl) ?_ _
      clear hHeld
      have HK2 := Lib.hid (show b.bk ≠ w3.heap.size from fun e => by have := lt_heap H3.out.k; omega)
      clear HS3 HF3 HS4 HN H4 HT4 hn5 hf5 htn hcc y0 y1 y2 y3 yf hs4 H3
      generalize ((((w4.setCell ⟨w3.heap.size, 0, none⟩ (.string mi)).setCell ⟨w3.heap.size, 1, none⟩ (.bool true)).setCell ⟨w3.heap.size, 2, none⟩ (.int .i64 (ma : Int))).setCell ⟨w3.heap.size, 3, none⟩ (.bool false)) = w5 at H5 hac ⊢
      generalize w3.heap.size = ab at hac HK2 ⊢
      generalize retag (w3.alloc (noM TA)) tag4 5 = tag5 at H5
      obtain ⟨⟨a0, a1, a2, a3⟩, af⟩ := cells4 hac
      have hmi := HM.out
      go_wp2_with fail
      have H6 := Lib.hid (H5.out.on (w' := w5.drew) ⟨rfl, rfl, rfl, Nat.le_refl _, fun _ _ => rfl⟩)
      have hac3 : w5.drew.heap[ab]? = some (.cells #[.string mi, .bool true, .int .i64 (ma : Int), .bool false] TA (0, 0)) := hac
      clear a0 a1 a2 a3 af hac H5
      refine wp_region_held_drew (S := (fun w' => w'.heap[ab]? = some (.cells #[.string mi, .bool true, .int .i64 (ma : Int), .bool false] TA (0, 0)) ∧ w'.heap[b.tb]? = some (.cells #[two b.ba, two b.bl, two b.bu, two b.bk, .bool x.bad] 46 (0, 0)) ∧ w'.heap[b.bk]? = some (.cells #[nm x.k0, nm x.k1] 3 (0, 0)))) (by kernel_rfl) ⟨hac3, H6.out.blk, H6.out.k⟩ (fun hHeld => ?_)
      refine' wpAnyH_take (i := 0) (oi := { dst := some 59, op := Go.Op.fieldAddr 56 (Go.Operand.tmp 8) 0, type := 0, pos := "law.go:143", after := #[], guard := none }) (v := _) rfl (by kernel_rfl) (by kernel_rfl) (by kernel_rfl) (fun _ _ _ h => h) (Or.inl ⟨by rfl, ?hy313⟩) (by assumption) ?hr313
      case hy313 => (intro _ hSw; (try dsimp only at hSw); go_simp <;> with_reducible rfl)
      simp only [Act.put, List.setIfInBounds_toArray, List.set_cons_zero, List.set_cons_succ]
      refine' wpAnyH_take (i := 1) (oi := { dst := some 60, op := Go.Op.load 9 (Go.Operand.tmp 59), type := 9, pos := "law.go:143", after := #[{ on := 0, ground := Go.Ground.data }], guard := none }) (v := _) rfl (by kernel_rfl) (by kernel_rfl) (by kernel_rfl) (fun _ _ _ h => h) (Or.inl ⟨by rfl, ?hy314⟩) (by assumption) ?hr314
      case hy314 => (intro _ hSw; (try dsimp only at hSw); obtain ⟨⟨y0, y1, y2, y3⟩, -⟩ := cells4 hSw.1; go_simp <;> with_reducible rfl)
      simp only [Act.put, List.setIfInBounds_toArray, List.set_cons_zero, List.set_cons_succ]
      refine' wpAnyH_take (i := 2) (oi := { dst := some 61, op := Go.Op.move (Go.Operand.tmp 0), type := 40, pos := "law.go:143", after := #[], guard := none }) (v := _) rfl (by kernel_rfl) (by kernel_rfl) (by kernel_rfl) (fun _ _ _ h => h) (Or.inl ⟨by rfl, ?hy315⟩) (by assumption) ?hr315
      case hy315 => (intro _ hSw; (try dsimp only at hSw); go_simp <;> with_reducible rfl)
      simp only [Act.put, List.setIfInBounds_toArray, List.set_cons_zero, List.set_cons_succ]
      refine' wpAnyH_take (i := 3) (oi := { dst := some 62, op := Go.Op.nilCheck (Go.Operand.tmp 61), type := 0, pos := "law.go:143", after := #[{ on := 2, ground := Go.Ground.data }], guard := none }) (v := _) rfl (by kernel_rfl) (by kernel_rfl) (by kernel_rfl) (fun _ _ _ h => h) (Or.inl ⟨by rfl, ?hy316⟩) (by assumption) ?hr316
      case hy316 => (intro _ hSw; (try dsimp only at hSw); go_simp <;> with_reducible rfl)
      simp only [Act.put, List.setIfInBounds_toArray, List.set_cons_zero, List.set_cons_succ]
      refine' wpAnyH_take (i := 4) (oi := { dst := some 63, op := Go.Op.fieldAddr 46 (Go.Operand.tmp 62) 3, type := 0, pos := "law.go:143", after := #[{ on := 3, ground := Go.Ground.data }], guard := none }) (v := _) rfl (by kernel_rfl) (by kernel_rfl) (by kernel_rfl) (fun _ _ _ h => h) (Or.inl ⟨by rfl, ?hy317⟩) (by assumption) ?hr317
      case hy317 => (intro _ hSw; (try dsimp only at hSw); go_simp <;> with_reducible rfl)
      simp only [Act.put, List.setIfInBounds_toArray, List.set_cons_zero, List.set_cons_succ]
      refine' wpAnyH_take (i := 5) (oi := { dst := some 64, op := Go.Op.load 44 (Go.Operand.tmp 63), type := 44, pos := "law.go:143", after := #[{ on := 4, ground := Go.Ground.data }], guard := none }) (v := _) rfl (by kernel_rfl) (by kernel_rfl) (by kernel_rfl) (fun _ _ _ h => h) (Or.inl ⟨by rfl, ?hy318⟩) (by assumption) ?hr318
      case hy318 => (intro _ hSw; (try dsimp only at hSw); have hc := cell_of (i := 3) (v := two b.bk) hSw.2.1 rfl; go_simp <;> with_reducible rfl)
      simp only [Act.put, List.setIfInBounds_toArray, List.set_cons_zero, List.set_cons_succ]
      refine' wpAnyH_take (i := 6) (oi := { dst := some 65, op := Go.Op.move (Go.Operand.tmp 1), type := 3, pos := "law.go:143", after := #[], guard := none }) (v := _) rfl (by kernel_rfl) (by kernel_rfl) (by kernel_rfl) (fun _ _ _ h => h) (Or.inl ⟨by rfl, ?hy319⟩) (by assumption) ?hr319
      case hy319 => (intro _ hSw; (try dsimp only at hSw); go_simp <;> with_reducible rfl)
      simp only [Act.put, List.setIfInBounds_toArray, List.set_cons_zero, List.set_cons_succ]
      refine' wpAnyH_take (i := 7) (oi := { dst := some 66, op := Go.Op.indexAddr 44 (Go.Operand.tmp 64) (Go.Operand.tmp 65), type := 0, pos := "law.go:143", after := #[{ on := 5, ground := Go.Ground.data }, { on := 6, ground := Go.Ground.data }], guard := none }) (v := _) rfl (by kernel_rfl) (by kernel_rfl) (by kernel_rfl) (fun _ _ _ h => h) (Or.inl ⟨by rfl, ?hy320⟩) (by assumption) ?hr320
      case hy320 => (intro _ hSw; (try dsimp only at hSw); go_simp <;> with_reducible rfl)
      simp only [Act.put, List.setIfInBounds_toArray, List.set_cons_zero, List.set_cons_succ]
      refine' wpAnyH_take (i := 8) (oi := { dst := some 67, op := Go.Op.load 3 (Go.Operand.tmp 66), type := 3, pos := "law.go:143", after := #[{ on := 7, ground := Go.Ground.data }], guard := none }) (v := _) rfl (by kernel_rfl) (by kernel_rfl) (by kernel_rfl) (fun _ _ _ h => h) (Or.inl ⟨by rfl, ?hy321⟩) (by assumption) ?hr321
      case hy321 => (intro _ hSw; (try dsimp only at hSw); have hc := cell_of (i := 1) (v := nm x.k1) hSw.2.2 rfl; go_simp <;> with_reducible rfl)
      simp only [Act.put, List.setIfInBounds_toArray, List.set_cons_zero, List.set_cons_succ]
      clear hHeld
      generalize w5.drew = w6 at H6 hac3 ⊢
      refine wpAnyH_ready (rs := [9]) (by kernel_rfl) (by simp) ?_
      refine AllReadyH.cons (o := { dst := some 68, op := Go.Op.call { callee := Go.Callee.value (Go.Operand.func 36), args := #[Go.Operand.tmp 67], argTypes := #[3] }, type := 9, pos := "law.go:143", after := #[{ on := 8, ground := Go.Ground.data }], guard := none }) rfl (fun K hK => ?_) AllReadyH.nil
      go_simp
      refine (finf x.k1 HKB.out _).mono ?_
      rintro _ w7 ⟨rfl, hb⟩
      have H7 := Lib.hid (H6.out.on hb)
      have hac7 := stays hac3 hb
      clear hb hac3 H6
      go_wp2_with fail
      refine hK.out _ _ ⟨hac7, H7.out.blk, H7.out.k⟩ (fun hNext => ?_)
      clear hK K
      have hHeld := hNext
      clear hNext
      (try simp only [Act.put, List.setIfInBounds_toArray, List.set_cons_zero, List.set_cons_succ])
      subst hmi
      have b1 : ((inf x.k1).toList == (inf x.k1).toList) = true := by simp
      have b2 : ((inf x.k1).toList != (inf x.k1).toList) = false := by simp
      generalize inf x.k1 = st at b1 b2 hHeld hac7 ⊢
      refine' wpAnyH_take (i := 10) (oi := { dst := some 69, op := Go.Op.binOp Go.BinOp.neq 9 (Go.Operand.tmp 60) (Go.Operand.tmp 68) 9, type := 4, pos := "law.go:143", after := #[{ on := 1, ground := Go.Ground.data }, { on := 9, ground := Go.Ground.data }], guard := none }) (v := _) rfl (by kernel_rfl) (by kernel_rfl) (by kernel_rfl) (fun _ _ _ h => h) (Or.inl ⟨by rfl, ?hy322⟩) (by assumption) ?hr322
      case hy322 => (intro _ hSw; (try dsimp only at hSw); go_simp <;> with_reducible rfl)
      simp only [Act.put, List.setIfInBounds_toArray, List.set_cons_zero, List.set_cons_succ]
      refine wpAnyH_done (by kernel_rfl) ?_ _
      clear hHeld
      have c3 : w7.cell? ⟨b.tb, 3, none⟩ = some (two b.bk) := cell_of H7.out.blk rfl
      have ck : w7.cell? ⟨b.bk, 1, none⟩ = some (nm x.k1) := cell_of H7.out.k rfl
      have fk2 : ∀ i, w7.frozen? ⟨b.bk, i, none⟩ = false := fun _ => free_of H7.out.k
      have vk : IntKind.i64.wrap ((x.k1 : Int) + 1) = ((x.k1 + 1 : Nat) : Int) := by have := HKB.out; rw [IntKind.wrap_i64]; omega
      have H8 := Lib.hid (H7.out.put_k x.k0 (x.k1 + 1) (chg_cell w7 b.bk 1 (nm (x.k1 + 1))) (block_set (i := 1) H7.out.k _))
      clear H7 hac7
      obtain ⟨kn, hkn⟩ : ∃ kn, x.k1 + 1 = kn := ⟨_, rfl⟩
      rw [hkn] at vk H8
      have HKN := Lib.hid hkn
      clear hkn
      go_wp2
      go_ret
      have hkn := HKN.out
      clear HKN
      subst hkn
      exact ⟨rfl, _, _, _, _, _, H8.out⟩
end Go.Proofs.Ytkoaplmlabagnaa.Aq
