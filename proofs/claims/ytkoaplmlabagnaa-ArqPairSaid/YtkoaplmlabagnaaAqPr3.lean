/-
  The first frame of a line is heard by the other side, or lost. Condition: they lie where they say; what is heard is in order.
-/
import Derived.Test.YtkoaplmlabagnaaAqPr2
namespace Go.Proofs.Ytkoaplmlabagnaa.Aq
open Go.RowKit Go.Proofs.Ytkoaplmlabagnaa.Base Go.Proofs.Ytkoaplmlabagnaa.Mem
theorem qz7_cons {w : World} {base n c : Nat} {o : Option Addr} {x : Fm} {r : List Fm} (h : Qz 7 fcF w base (.slice o n c) (x :: r)) :
    ∃ g off, o = some ⟨g, off, none⟩ ∧ n = r.length + 1 ∧ n ≤ c ∧ c ≤ 9223372036854775807 ∧ base ≤ g ∧ g < w.heap.size ∧
      (w.cell? ⟨g, off, none⟩ = some (.int .u8 0) ∧ w.cell? ⟨g, off + 1, none⟩ = some (.bool x.c) ∧ w.cell? ⟨g, off + 2, none⟩ = some (.int .u8 (x.k : Int)) ∧ w.cell? ⟨g, off + 3, none⟩ = some (.bool x.pf) ∧ w.cell? ⟨g, off + 4, none⟩ = some (.int .u8 (x.ns : Int)) ∧ w.cell? ⟨g, off + 5, none⟩ = some (.int .u8 (x.nr : Int)) ∧ w.cell? ⟨g, off + 6, none⟩ = some (.string x.i)) ∧
      Qz 7 fcF w base (.slice (if c = 1 then some ⟨g, off, none⟩ else some ⟨g, off + 7, none⟩) r.length (c - 1)) r := by
  rcases h with ⟨_, h⟩ | ⟨g, off, cap, hv, hb, hR⟩
  · cases h
  · injection hv with h1 h2 h3
    subst h1 h2 h3
    have hl := hR.len
    refine ⟨g, off, rfl, rfl, hl, hR.max, hb, hR.lt, ⟨hR.cell 0 x rfl 0 (by decide), hR.cell 0 x rfl 1 (by decide), hR.cell 0 x rfl 2 (by decide), hR.cell 0 x rfl 3 (by decide), hR.cell 0 x rfl 4 (by decide), hR.cell 0 x rfl 5 (by decide), hR.cell 0 x rfl 6 (by decide)⟩, ?_⟩
    rw [List.length_cons] at hl
    by_cases hc : c = 1
    · rw [if_pos hc]
      have hr : r = [] := List.eq_nil_of_length_eq_zero (by omega)
      subst hr
      subst hc
      exact Qz.of hb ⟨Nat.zero_le _, by decide, hR.lt, fun i y hi => (by simp at hi), fun i hi => (by simp at hi), fun i hi => (by simp at hi)⟩ rfl
    · rw [if_neg hc]
      have := hR.drop 1 (by omega)
      rw [Nat.mul_one] at this
      exact Qz.of hb this (by simp)
section
variable {w0 w w' : World} {b : Bk} {x : Pr} {q0 q1 v0 v1 : Value} {tag : Nat → Nat}
theorem PrAt.mark (h : PrAt w0 b x q0 q1 v0 v1 tag w) (i : Nat) : PrAt w0 b x q0 q1 v0 v1 (retag w tag i) w :=
  ⟨h.blk, h.a, h.l, h.u, h.k, h.s0, h.s1, h.l0, h.l1, (retag_old (lt_heap h.blk)).trans h.t0, (retag_old (lt_heap h.a)).trans h.ta, (retag_old (lt_heap h.l)).trans h.tl, (retag_old (lt_heap h.u)).trans h.tu, (retag_old (lt_heap h.k)).trans h.tk, (retag_old h.s0.lt).trans h.t5, (retag_old h.s1.lt).trans h.t6, fun g hg => (retag_old (h.s0.q.lt g hg).2).trans (h.o0 g hg), fun g hg => (retag_old (h.s1.q.lt g hg).2).trans (h.o1 g hg), fun g hg => (retag_old (h.l0.lt g hg).2).trans (h.o7 g hg), fun g hg => (retag_old (h.l1.lt g hg).2).trans (h.o8 g hg), h.lo, h.below⟩
theorem PrAt.other {n : Nat} (h : PrAt w0 b x q0 q1 v0 v1 tag w) (hc : Chg (fun k => k = n) w w') (ht : tag n = 9) (hn : w0.heap.size ≤ n) : PrAt w0 b x q0 q1 v0 v1 tag w' := by
  have hS : ∀ k, k = n → tag k = 9 := fun k e => by rw [e]; exact ht
  exact ⟨stay_tag hc hS h.blk (by rw [h.t0]; decide), stay_tag hc hS h.a (by rw [h.ta]; decide), stay_tag hc hS h.l (by rw [h.tl]; decide), stay_tag hc hS h.u (by rw [h.tu]; decide), stay_tag hc hS h.k (by rw [h.tk]; decide), pat_tag hc hS h.s0 h.t5 h.o0 (by decide), pat_tag hc hS h.s1 h.t6 h.o1 (by decide), qz_tag hc hS h.l0 h.o7 (by decide), qz_tag hc hS h.l1 h.o8 (by decide), h.t0, h.ta, h.tl, h.tu, h.tk, h.t5, h.t6, h.o0, h.o1, h.o7, h.o8, h.lo, hc.below h.below h.below.size fun k e => by omega⟩
end
set_option maxHeartbeats 2000000 in
theorem fhand0_none (w0 w : World) (b : Bk) (x : Pr) (lost : Bool) (h : PrE w0 b x w) (hL : x.L0 = []) :
    Calls Try.prog 38 #[ptr b.tb, .int .i64 0, .bool lost] w fun e w' => e = .returned (.bool false) ∧ w = w' := by
  obtain ⟨q0, q1, v0, v1, tag, h⟩ := h
  have c1 : w.cell? ⟨b.tb, 1, none⟩ = some (two b.bl) := cell_of h.blk rfl
  obtain ⟨oa, cap, hv⟩ := h.l0.form
  rw [hL, List.map_nil, List.length_nil] at hv
  have cl : w.cell? ⟨b.bl, 0, none⟩ = some (.slice oa 0 cap) := by rw [← hv]; exact cell_of h.l rfl
  clear h hL hv
  go_enter Try.func38, Try.ntmps38
  go_wp2
  go_ret
  exact ⟨rfl, rfl⟩
set_option maxHeartbeats 4000000 in
set_option maxRecDepth 100000 in
theorem fhand0_lost (w0 w : World) (b : Bk) (x : Pr) (h : PrE w0 b x w) (fc : Bool) (fk : Nat) (fpf : Bool) (fns fnr : Nat) (fi : ByteArray) (j rr : Nat) (r : List Gf) (hL : x.L0 = ⟨⟨fc, fk, fpf, fns, fnr, fi⟩, j, rr⟩ :: r) :
    Calls Try.prog 38 #[ptr b.tb, .int .i64 0, .bool true] w fun e w' => e = .returned (.bool true) ∧ PrE w0 b { x with L0 := r } w' := by
  obtain ⟨q0, q1, v0, v1, tag, h⟩ := h
  have c1 : w.cell? ⟨b.tb, 1, none⟩ = some (two b.bl) := cell_of h.blk rfl
  obtain ⟨oa, cap, hv⟩ := h.l0.form
  have hql : Qz 7 fcF w w0.heap.size v0 ((⟨fc, fk, fpf, fns, fnr, fi⟩ : Fm) :: r.map Gf.f) := by have := h.l0; rw [hL] at this; exact this
  rw [hL, List.map_cons, List.length_cons, List.length_map] at hv
  rw [hv] at hql
  obtain ⟨g, off, ho, hn, hcap, hmax, hbg, hgw, ⟨e0, e1, e2, e3, e4, e5, e6⟩, hq⟩ := qz7_cons hql
  subst ho
  dsimp only at e1 e2 e3 e4 e5 e6
  have cl : w.cell? ⟨b.bl, 0, none⟩ = some (.slice (some ⟨g, off, none⟩) (r.length + 1) cap) := by rw [← hv]; exact cell_of h.l rfl
  obtain ⟨z, hz⟩ : ∃ z, r.length = z := ⟨_, rfl⟩
  rw [List.length_map] at hq
  rw [hz] at hcap hq cl hv
  have HV := Lib.hid hv
  have HQ := Lib.hid hq
  have HX := Lib.hid h
  have z0 : ((z + 1 : Nat) : Int) = (z : Int) + 1 := by omega
  have z1 : ¬ (z : Int) + 1 = 0 := by omega
  have z2 : decide ((0 : Int) < (z : Int) + 1) = true := decide_eq_true (by omega)
  have z3 : (((z : Int) + 1) == 0) = false := beq_false (by omega)
  have z4 : (0 : Int) < (z : Int) + 1 := by omega
  have z5 : (1 : Int) ≤ (z : Int) + 1 := by omega
  have hbl := lt_heap h.l
  have htb := lt_heap h.blk
  have hne : b.tb ≠ b.bl := fun e => by have := h.t0; have := h.tl; rw [e] at *; omega
  clear h hL hv hq hql hn hz
  go_enter Try.func38, Try.ntmps38
  go_wp2_with fail
  have H1 : Hid (PrAt w0 b x q0 q1 v0 v1 tag (w.alloc (.cells #[.int .u8 0, .bool fc, .int .u8 (fk : Int), .bool fpf, .int .u8 (fns : Int), .int .u8 (fnr : Int), .string fi] TF (0, 0))).drew) := Lib.hid (HX.out.on ((show Below w.heap.size w (w.alloc (.cells #[.int .u8 0, .bool fc, .int .u8 (fk : Int), .bool fpf, .int .u8 (fns : Int), .int .u8 (fnr : Int), .string fi] TF (0, 0))) from nest_below w [_]).drew))
  have HQ1 : Hid (Qz 7 fcF (w.alloc (.cells #[.int .u8 0, .bool fc, .int .u8 (fk : Int), .bool fpf, .int .u8 (fns : Int), .int .u8 (fnr : Int), .string fi] TF (0, 0))).drew w0.heap.size (.slice (if cap = 1 then some ⟨g, off, none⟩ else some ⟨g, off + 7, none⟩) z (cap - 1)) (r.map Gf.f)) := Lib.hid (HQ.out.below ((show Below w.heap.size w (w.alloc (.cells #[.int .u8 0, .bool fc, .int .u8 (fk : Int), .bool fpf, .int .u8 (fns : Int), .int .u8 (fnr : Int), .string fi] TF (0, 0))) from nest_below w [_]).drew))
  have hA1 : (w.alloc (.cells #[.int .u8 0, .bool fc, .int .u8 (fk : Int), .bool fpf, .int .u8 (fns : Int), .int .u8 (fnr : Int), .string fi] TF (0, 0))).drew.heap[w.heap.size]? = some (.cells #[.int .u8 0, .bool fc, .int .u8 (fk : Int), .bool fpf, .int .u8 (fns : Int), .int .u8 (fnr : Int), .string fi] TF (0, 0)) := nest w [_] 0 _ rfl
  obtain ⟨fb, hfb⟩ : ∃ n, n = w.heap.size := ⟨_, rfl⟩
  have HFB := Lib.hid hfb
  rw [← hfb] at hA1 hbl htb
  simp only [← hfb]
  clear hfb e0 e1 e2 e3 e4 e5 e6 hgw HQ c1 cl
  generalize hw1 : (w.alloc (.cells #[.int .u8 0, .bool fc, .int .u8 (fk : Int), .bool fpf, .int .u8 (fns : Int), .int .u8 (fnr : Int), .string fi] TF (0, 0))).drew = w1 at H1 HQ1 hA1
  have b2 : w1.cell? ⟨b.bl, 0, none⟩ = some (.slice (some ⟨g, off, none⟩) (z + 1) cap) := by rw [← HV.out]; exact cell_of H1.out.l rfl
  have f2 : ∀ i, w1.frozen? ⟨b.bl, i, none⟩ = false := fun _ => free_of H1.out.l
  have HTB := Lib.hid H1.out.blk
  refine wp_region_held_drew (S := (fun w' => w'.heap[b.tb]? = some (.cells #[two b.ba, two b.bl, two b.bu, two b.bk, .bool x.bad] 46 (0, 0)))) (by kernel_rfl) (hw1 ▸ HTB.out) (fun hHeld => ?_)
  refine' wpAnyH_take (i := 0) (oi := { dst := some 27, op := Go.Op.move (Go.Operand.tmp 0), type := 40, pos := "law.go:134", after := #[], guard := none }) (v := _) rfl (by kernel_rfl) (by kernel_rfl) (by kernel_rfl) (fun _ _ _ h => h) (Or.inl ⟨by rfl, ?hy1⟩) (by assumption) ?hr1
  case hy1 => (intro _ hSw; (try dsimp only at hSw); go_simp <;> with_reducible rfl)
  simp only [Act.put, List.setIfInBounds_toArray, List.set_cons_zero, List.set_cons_succ]
  refine' wpAnyH_take (i := 1) (oi := { dst := some 28, op := Go.Op.nilCheck (Go.Operand.tmp 27), type := 0, pos := "law.go:134", after := #[{ on := 0, ground := Go.Ground.data }], guard := none }) (v := _) rfl (by kernel_rfl) (by kernel_rfl) (by kernel_rfl) (fun _ _ _ h => h) (Or.inl ⟨by rfl, ?hy2⟩) (by assumption) ?hr2
  case hy2 => (intro _ hSw; (try dsimp only at hSw); go_simp <;> with_reducible rfl)
  simp only [Act.put, List.setIfInBounds_toArray, List.set_cons_zero, List.set_cons_succ]
  refine' wpAnyH_take (i := 2) (oi := { dst := some 29, op := Go.Op.fieldAddr 46 (Go.Operand.tmp 28) 1, type := 0, pos := "law.go:134", after := #[{ on := 1, ground := Go.Ground.data }], guard := none }) (v := _) rfl (by kernel_rfl) (by kernel_rfl) (by kernel_rfl) (fun _ _ _ h => h) (Or.inl ⟨by rfl, ?hy3⟩) (by assumption) ?hr3
  case hy3 => (intro _ hSw; (try dsimp only at hSw); go_simp <;> with_reducible rfl)
  simp only [Act.put, List.setIfInBounds_toArray, List.set_cons_zero, List.set_cons_succ]
  refine' wpAnyH_take (i := 3) (oi := { dst := some 30, op := Go.Op.load 43 (Go.Operand.tmp 29), type := 43, pos := "law.go:134", after := #[{ on := 2, ground := Go.Ground.data }], guard := none }) (v := _) rfl (by kernel_rfl) (by kernel_rfl) (by kernel_rfl) (fun _ _ _ h => h) (Or.inl ⟨by rfl, ?hy4⟩) (by assumption) ?hr4
  case hy4 => (intro _ hSw; (try dsimp only at hSw); have hc := cell_of (i := 1) (v := two b.bl) hSw rfl; go_simp <;> with_reducible rfl)
  simp only [Act.put, List.setIfInBounds_toArray, List.set_cons_zero, List.set_cons_succ]
  refine' wpAnyH_take (i := 4) (oi := { dst := some 31, op := Go.Op.move (Go.Operand.tmp 1), type := 3, pos := "law.go:134", after := #[], guard := none }) (v := _) rfl (by kernel_rfl) (by kernel_rfl) (by kernel_rfl) (fun _ _ _ h => h) (Or.inl ⟨by rfl, ?hy5⟩) (by assumption) ?hr5
  case hy5 => (intro _ hSw; (try dsimp only at hSw); go_simp <;> with_reducible rfl)
  simp only [Act.put, List.setIfInBounds_toArray, List.set_cons_zero, List.set_cons_succ]
  refine' wpAnyH_take (i := 5) (oi := { dst := some 32, op := Go.Op.move (Go.Operand.tmp 0), type := 40, pos := "law.go:134", after := #[], guard := none }) (v := _) rfl (by kernel_rfl) (by kernel_rfl) (by kernel_rfl) (fun _ _ _ h => h) (Or.inl ⟨by rfl, ?hy6⟩) (by assumption) ?hr6
  case hy6 => (intro _ hSw; (try dsimp only at hSw); go_simp <;> with_reducible rfl)
  simp only [Act.put, List.setIfInBounds_toArray, List.set_cons_zero, List.set_cons_succ]
  refine' wpAnyH_take (i := 6) (oi := { dst := some 33, op := Go.Op.nilCheck (Go.Operand.tmp 32), type := 0, pos := "law.go:134", after := #[{ on := 5, ground := Go.Ground.data }], guard := none }) (v := _) rfl (by kernel_rfl) (by kernel_rfl) (by kernel_rfl) (fun _ _ _ h => h) (Or.inl ⟨by rfl, ?hy7⟩) (by assumption) ?hr7
  case hy7 => (intro _ hSw; (try dsimp only at hSw); go_simp <;> with_reducible rfl)
  simp only [Act.put, List.setIfInBounds_toArray, List.set_cons_zero, List.set_cons_succ]
  refine' wpAnyH_take (i := 7) (oi := { dst := some 34, op := Go.Op.fieldAddr 46 (Go.Operand.tmp 33) 1, type := 0, pos := "law.go:134", after := #[{ on := 6, ground := Go.Ground.data }], guard := none }) (v := _) rfl (by kernel_rfl) (by kernel_rfl) (by kernel_rfl) (fun _ _ _ h => h) (Or.inl ⟨by rfl, ?hy8⟩) (by assumption) ?hr8
  case hy8 => (intro _ hSw; (try dsimp only at hSw); go_simp <;> with_reducible rfl)
  simp only [Act.put, List.setIfInBounds_toArray, List.set_cons_zero, List.set_cons_succ]
  refine' wpAnyH_take (i := 8) (oi := { dst := some 35, op := Go.Op.load 43 (Go.Operand.tmp 34), type := 43, pos := "law.go:134", after := #[{ on := 7, ground := Go.Ground.data }], guard := none }) (v := _) rfl (by kernel_rfl) (by kernel_rfl) (by kernel_rfl) (fun _ _ _ h => h) (Or.inl ⟨by rfl, ?hy9⟩) (by assumption) ?hr9
  case hy9 => (intro _ hSw; (try dsimp only at hSw); have hc := cell_of (i := 1) (v := two b.bl) hSw rfl; go_simp <;> with_reducible rfl)
  simp only [Act.put, List.setIfInBounds_toArray, List.set_cons_zero, List.set_cons_succ]
  refine' wpAnyH_take (i := 9) (oi := { dst := some 36, op := Go.Op.move (Go.Operand.tmp 1), type := 3, pos := "law.go:134", after := #[], guard := none }) (v := _) rfl (by kernel_rfl) (by kernel_rfl) (by kernel_rfl) (fun _ _ _ h => h) (Or.inl ⟨by rfl, ?hy10⟩) (by assumption) ?hr10
  case hy10 => (intro _ hSw; (try dsimp only at hSw); go_simp <;> with_reducible rfl)
  simp only [Act.put, List.setIfInBounds_toArray, List.set_cons_zero, List.set_cons_succ]
  refine' wpAnyH_take (i := 10) (oi := { dst := some 37, op := Go.Op.indexAddr 43 (Go.Operand.tmp 35) (Go.Operand.tmp 36), type := 0, pos := "law.go:134", after := #[{ on := 8, ground := Go.Ground.data }, { on := 9, ground := Go.Ground.data }], guard := none }) (v := _) rfl (by kernel_rfl) (by kernel_rfl) (by kernel_rfl) (fun _ _ _ h => h) (Or.inl ⟨by rfl, ?hy11⟩) (by assumption) ?hr11
  case hy11 => (intro _ hSw; (try dsimp only at hSw); go_simp <;> with_reducible rfl)
  simp only [Act.put, List.setIfInBounds_toArray, List.set_cons_zero, List.set_cons_succ]
  rw [hw1]
  clear hw1
  refine wpAnyH_ready (rs := [11]) (by kernel_rfl) (by simp) ?_
  refine AllReadyH.cons (o := { dst := some 38, op := Go.Op.load 88 (Go.Operand.tmp 37), type := 88, pos := "law.go:134", after := #[{ on := 10, ground := Go.Ground.data }], guard := none }) rfl (fun K hK => ?_) AllReadyH.nil
  go_simp
  refine hK.out _ _ HTB.out (fun hNext => ?_)
  clear hHeld
  clear hK K
  have hHeld := hNext
  clear hNext
  (try simp only [Act.put, List.setIfInBounds_toArray, List.set_cons_zero, List.set_cons_succ])
  by_cases hc1 : cap = 1
  · rw [if_pos hc1] at HQ1
    subst hc1
    obtain rfl : z = 0 := by omega
    refine' wpAnyH_take (i := 12) (oi := { dst := some 39, op := Go.Op.slice 88 (Go.Operand.tmp 38) (some (Go.Operand.const (Go.Value.int Go.IntKind.i64 1))) none none, type := 88, pos := "law.go:134", after := #[{ on := 11, ground := Go.Ground.data }], guard := none }) (v := _) rfl (by kernel_rfl) (by kernel_rfl) (by kernel_rfl) (fun _ _ _ h => h) (Or.inl ⟨by rfl, ?hy12⟩) (by assumption) ?hr12
    case hy12 => (intro _ hSw; (try dsimp only at hSw); go_simp <;> with_reducible rfl)
    simp only [Act.put, List.setIfInBounds_toArray, List.set_cons_zero, List.set_cons_succ]
    refine' wpAnyH_take (i := 13) (oi := { dst := some 40, op := Go.Op.indexAddr 43 (Go.Operand.tmp 30) (Go.Operand.tmp 31), type := 0, pos := "law.go:134", after := #[{ on := 3, ground := Go.Ground.data }, { on := 4, ground := Go.Ground.data }, { on := 0, ground := Go.Ground.phase }, { on := 1, ground := Go.Ground.phase }, { on := 2, ground := Go.Ground.phase }, { on := 3, ground := Go.Ground.phase }, { on := 4, ground := Go.Ground.phase }, { on := 5, ground := Go.Ground.phase }, { on := 6, ground := Go.Ground.phase }, { on := 7, ground := Go.Ground.phase }, { on := 8, ground := Go.Ground.phase }, { on := 9, ground := Go.Ground.phase }, { on := 10, ground := Go.Ground.phase }, { on := 11, ground := Go.Ground.phase }, { on := 12, ground := Go.Ground.phase }], guard := none }) (v := _) rfl (by kernel_rfl) (by kernel_rfl) (by kernel_rfl) (fun _ _ _ h => h) (Or.inl ⟨by rfl, ?hy13⟩) (by assumption) ?hr13
    case hy13 => (intro _ hSw; (try dsimp only at hSw); go_simp <;> with_reducible rfl)
    simp only [Act.put, List.setIfInBounds_toArray, List.set_cons_zero, List.set_cons_succ]
    refine wpAnyH_ready (rs := [14]) (by kernel_rfl) (by simp) ?_
    refine AllReadyH.cons (o := { dst := none, op := Go.Op.store 88 (Go.Operand.tmp 40) (Go.Operand.tmp 39), type := 0, pos := "law.go:134", after := #[{ on := 13, ground := Go.Ground.data }, { on := 12, ground := Go.Ground.data }, { on := 0, ground := Go.Ground.phase }, { on := 1, ground := Go.Ground.phase }, { on := 2, ground := Go.Ground.phase }, { on := 3, ground := Go.Ground.phase }, { on := 4, ground := Go.Ground.phase }, { on := 5, ground := Go.Ground.phase }, { on := 6, ground := Go.Ground.phase }, { on := 7, ground := Go.Ground.phase }, { on := 8, ground := Go.Ground.phase }, { on := 9, ground := Go.Ground.phase }, { on := 10, ground := Go.Ground.phase }, { on := 11, ground := Go.Ground.phase }, { on := 12, ground := Go.Ground.phase }], guard := none }) rfl (fun K hK => ?_) AllReadyH.nil
    go_simp
    refine hK.out _ _ ((set_other hne _).trans HTB.out) (fun hNext => ?_)
    clear hNext hHeld
    refine wpAnyH_done (by kernel_rfl) ?_ _
    clear hK K
    have hgr : w1.grownBy w1 v0.ownBlock := ⟨rfl, rfl, rfl, Nat.le_refl _, fun _ _ _ => rfl⟩
    have how : (Value.ownBlock (.slice (some ⟨g, off, none⟩) 0 0)) = v0.ownBlock := by rw [HV.out]; rfl
    have H2 := Lib.hid (H1.out.put0 hgr HQ1.out (Or.inl how))
    have hA2 : (w1.setCell ⟨b.bl, 0, none⟩ (.slice (some ⟨g, off, none⟩) 0 0)).heap[fb]? = some (.cells #[.int .u8 0, .bool fc, .int .u8 (fk : Int), .bool fpf, .int .u8 (fns : Int), .int .u8 (fnr : Int), .string fi] TF (0, 0)) := (set_other (by omega) _).trans hA1
    clear HQ1 H1 hA1 b2 f2 HTB hgr how
    generalize w1.setCell ⟨b.bl, 0, none⟩ (.slice (some ⟨g, off, none⟩) 0 0) = w2 at H2 hA2 ⊢
    generalize retag w1 tag 7 = tag2 at H2
    go_wp2
    go_ret
    exact ⟨rfl, _, _, _, _, _, H2.out⟩
  · rw [if_neg hc1] at HQ1
    refine' wpAnyH_take (i := 12) (oi := { dst := some 39, op := Go.Op.slice 88 (Go.Operand.tmp 38) (some (Go.Operand.const (Go.Value.int Go.IntKind.i64 1))) none none, type := 88, pos := "law.go:134", after := #[{ on := 11, ground := Go.Ground.data }], guard := none }) (v := _) rfl (by kernel_rfl) (by kernel_rfl) (by kernel_rfl) (fun _ _ _ h => h) (Or.inl ⟨by rfl, ?hy14⟩) (by assumption) ?hr14
    case hy14 => (intro _ hSw; (try dsimp only at hSw); go_simp <;> with_reducible rfl)
    simp only [Act.put, List.setIfInBounds_toArray, List.set_cons_zero, List.set_cons_succ]
    refine' wpAnyH_take (i := 13) (oi := { dst := some 40, op := Go.Op.indexAddr 43 (Go.Operand.tmp 30) (Go.Operand.tmp 31), type := 0, pos := "law.go:134", after := #[{ on := 3, ground := Go.Ground.data }, { on := 4, ground := Go.Ground.data }, { on := 0, ground := Go.Ground.phase }, { on := 1, ground := Go.Ground.phase }, { on := 2, ground := Go.Ground.phase }, { on := 3, ground := Go.Ground.phase }, { on := 4, ground := Go.Ground.phase }, { on := 5, ground := Go.Ground.phase }, { on := 6, ground := Go.Ground.phase }, { on := 7, ground := Go.Ground.phase }, { on := 8, ground := Go.Ground.phase }, { on := 9, ground := Go.Ground.phase }, { on := 10, ground := Go.Ground.phase }, { on := 11, ground := Go.Ground.phase }, { on := 12, ground := Go.Ground.phase }], guard := none }) (v := _) rfl (by kernel_rfl) (by kernel_rfl) (by kernel_rfl) (fun _ _ _ h => h) (Or.inl ⟨by rfl, ?hy15⟩) (by assumption) ?hr15
    case hy15 => (intro _ hSw; (try dsimp only at hSw); go_simp <;> with_reducible rfl)
    simp only [Act.put, List.setIfInBounds_toArray, List.set_cons_zero, List.set_cons_succ]
    refine wpAnyH_ready (rs := [14]) (by kernel_rfl) (by simp) ?_
    refine AllReadyH.cons (o := { dst := none, op := Go.Op.store 88 (Go.Operand.tmp 40) (Go.Operand.tmp 39), type := 0, pos := "law.go:134", after := #[{ on := 13, ground := Go.Ground.data }, { on := 12, ground := Go.Ground.data }, { on := 0, ground := Go.Ground.phase }, { on := 1, ground := Go.Ground.phase }, { on := 2, ground := Go.Ground.phase }, { on := 3, ground := Go.Ground.phase }, { on := 4, ground := Go.Ground.phase }, { on := 5, ground := Go.Ground.phase }, { on := 6, ground := Go.Ground.phase }, { on := 7, ground := Go.Ground.phase }, { on := 8, ground := Go.Ground.phase }, { on := 9, ground := Go.Ground.phase }, { on := 10, ground := Go.Ground.phase }, { on := 11, ground := Go.Ground.phase }, { on := 12, ground := Go.Ground.phase }], guard := none }) rfl (fun K hK => ?_) AllReadyH.nil
    go_simp
    refine hK.out _ _ ((set_other hne _).trans HTB.out) (fun hNext => ?_)
    clear hNext hHeld
    refine wpAnyH_done (by kernel_rfl) ?_ _
    clear hK K
    have hgr : w1.grownBy w1 v0.ownBlock := ⟨rfl, rfl, rfl, Nat.le_refl _, fun _ _ _ => rfl⟩
    have how : (Value.ownBlock (.slice (some ⟨g, off + 7, none⟩) z (cap - 1))) = v0.ownBlock := by rw [HV.out]; rfl
    have H2 := Lib.hid (H1.out.put0 hgr HQ1.out (Or.inl how))
    have hA2 : (w1.setCell ⟨b.bl, 0, none⟩ (.slice (some ⟨g, off + 7, none⟩) z (cap - 1))).heap[fb]? = some (.cells #[.int .u8 0, .bool fc, .int .u8 (fk : Int), .bool fpf, .int .u8 (fns : Int), .int .u8 (fnr : Int), .string fi] TF (0, 0)) := (set_other (by omega) _).trans hA1
    clear HQ1 H1 hA1 b2 f2 HTB hgr how
    generalize w1.setCell ⟨b.bl, 0, none⟩ (.slice (some ⟨g, off + 7, none⟩) z (cap - 1)) = w2 at H2 hA2 ⊢
    generalize retag w1 tag 7 = tag2 at H2
    go_wp2
    go_ret
    exact ⟨rfl, _, _, _, _, _, H2.out⟩
set_option maxHeartbeats 16000000 in
set_option maxRecDepth 100000 in
theorem fhand0_no (w0 w : World) (b : Bk) (x : Pr) (N : Nat) (h : PrE w0 b x w) (hI : Inv N x.B) (fc : Bool) (fk : Nat) (fpf : Bool) (fns fnr : Nat) (fi : ByteArray) (j rr : Nat) (r : List Gf) (hL : x.L0 = ⟨⟨fc, fk, fpf, fns, fnr, fi⟩, j, rr⟩ :: r) (hns : fns < 256) (hnr : fnr < 256) (X2 : Sd) (mi : ByteArray) (ma : Nat) (hh : hear ⟨fc, fk, fpf, fns, fnr, fi⟩ x.B = (X2, ⟨mi, false, ma, false⟩)) (hkb : x.k0 ≤ 1000000) :
    Calls Try.prog 38 #[ptr b.tb, .int .i64 0, .bool false] w fun e w' => e = .returned (.bool true) ∧ PrE w0 b { x with B := X2, L0 := r } w' := by
  have HKB := Lib.hid hkb
  have HCH : Hid (∀ (w' : World) (u : Value), PAt w' b.p1 (Ps.of x.B) u → Calls Try.prog 24 #[ptr b.p1, fmvd 0 ⟨fc, fk, fpf, fns, fnr, fi⟩] w' fun e w'' => e = .returned (.agg #[.string mi, .bool false, .int .i64 (ma : Int), .bool false]) ∧ ∃ u', QDo b.p1 (Ps.of X2) u u' w' w'') := Lib.hid fun w' u h' => by
    have := fhear w' b.p1 0 (Ps.of x.B) u ⟨fc, fk, fpf, fns, fnr, fi⟩ h' hI.pfit hns hnr
    rw [hear_of _ x.B hI.ord, hh] at this
    exact this
  have vw0 : IntKind.i64.wrap 0 = 0 := by decide
  have vw1 : IntKind.i64.wrap 1 = 1 := by decide
  clear hI hns hnr hh hkb
  obtain ⟨q0, q1, v0, v1, tag, h⟩ := h
  have CH : Hid (∀ w' : World, PAt w' b.p1 (Ps.of x.B) q1 → Calls Try.prog 24 #[ptr b.p1, fmvd 0 ⟨fc, fk, fpf, fns, fnr, fi⟩] w' fun e w'' => e = .returned (.agg #[.string mi, .bool false, .int .i64 (ma : Int), .bool false]) ∧ ∃ u', QDo b.p1 (Ps.of X2) q1 u' w' w'') := Lib.hid fun w' => HCH.out w' q1
  clear HCH
  have c1 : w.cell? ⟨b.tb, 1, none⟩ = some (two b.bl) := cell_of h.blk rfl
  obtain ⟨oa, cap, hv⟩ := h.l0.form
  have hql : Qz 7 fcF w w0.heap.size v0 ((⟨fc, fk, fpf, fns, fnr, fi⟩ : Fm) :: r.map Gf.f) := by have := h.l0; rw [hL] at this; exact this
  rw [hL, List.map_cons, List.length_cons, List.length_map] at hv
  rw [hv] at hql
  obtain ⟨g, off, ho, hn, hcap, hmax, hbg, hgw, ⟨e0, e1, e2, e3, e4, e5, e6⟩, hq⟩ := qz7_cons hql
  subst ho
  dsimp only at e1 e2 e3 e4 e5 e6
  have cl : w.cell? ⟨b.bl, 0, none⟩ = some (.slice (some ⟨g, off, none⟩) (r.length + 1) cap) := by rw [← hv]; exact cell_of h.l rfl
  obtain ⟨z, hz⟩ : ∃ z, r.length = z := ⟨_, rfl⟩
  rw [List.length_map] at hq
  rw [hz] at hcap hq cl hv
  have HV := Lib.hid hv
  have HQ := Lib.hid hq
  have HX := Lib.hid h
  have z0 : ((z + 1 : Nat) : Int) = (z : Int) + 1 := by omega
  have z1 : ¬ (z : Int) + 1 = 0 := by omega
  have z2 : decide ((0 : Int) < (z : Int) + 1) = true := decide_eq_true (by omega)
  have z3 : (((z : Int) + 1) == 0) = false := beq_false (by omega)
  have z4 : (0 : Int) < (z : Int) + 1 := by omega
  have z5 : (1 : Int) ≤ (z : Int) + 1 := by omega
  have hbl := lt_heap h.l
  have htb := lt_heap h.blk
  have hne : b.tb ≠ b.bl := fun e => by have := h.t0; have := h.tl; rw [e] at *; omega
  clear h hL hv hq hql hn hz
  go_enter Try.func38, Try.ntmps38
  go_wp2_with fail
  have H1 : Hid (PrAt w0 b x q0 q1 v0 v1 tag (w.alloc (.cells #[.int .u8 0, .bool fc, .int .u8 (fk : Int), .bool fpf, .int .u8 (fns : Int), .int .u8 (fnr : Int), .string fi] TF (0, 0))).drew) := Lib.hid (HX.out.on ((show Below w.heap.size w (w.alloc (.cells #[.int .u8 0, .bool fc, .int .u8 (fk : Int), .bool fpf, .int .u8 (fns : Int), .int .u8 (fnr : Int), .string fi] TF (0, 0))) from nest_below w [_]).drew))
  have HQ1 : Hid (Qz 7 fcF (w.alloc (.cells #[.int .u8 0, .bool fc, .int .u8 (fk : Int), .bool fpf, .int .u8 (fns : Int), .int .u8 (fnr : Int), .string fi] TF (0, 0))).drew w0.heap.size (.slice (if cap = 1 then some ⟨g, off, none⟩ else some ⟨g, off + 7, none⟩) z (cap - 1)) (r.map Gf.f)) := Lib.hid (HQ.out.below ((show Below w.heap.size w (w.alloc (.cells #[.int .u8 0, .bool fc, .int .u8 (fk : Int), .bool fpf, .int .u8 (fns : Int), .int .u8 (fnr : Int), .string fi] TF (0, 0))) from nest_below w [_]).drew))
  have hA1 : (w.alloc (.cells #[.int .u8 0, .bool fc, .int .u8 (fk : Int), .bool fpf, .int .u8 (fns : Int), .int .u8 (fnr : Int), .string fi] TF (0, 0))).drew.heap[w.heap.size]? = some (.cells #[.int .u8 0, .bool fc, .int .u8 (fk : Int), .bool fpf, .int .u8 (fns : Int), .int .u8 (fnr : Int), .string fi] TF (0, 0)) := nest w [_] 0 _ rfl
  obtain ⟨fb, hfb⟩ : ∃ n, n = w.heap.size := ⟨_, rfl⟩
  have HFB := Lib.hid hfb
  rw [← hfb] at hA1 hbl htb
  simp only [← hfb]
  clear hfb e0 e1 e2 e3 e4 e5 e6 hgw HQ c1 cl
  generalize hw1 : (w.alloc (.cells #[.int .u8 0, .bool fc, .int .u8 (fk : Int), .bool fpf, .int .u8 (fns : Int), .int .u8 (fnr : Int), .string fi] TF (0, 0))).drew = w1 at H1 HQ1 hA1
  have b2 : w1.cell? ⟨b.bl, 0, none⟩ = some (.slice (some ⟨g, off, none⟩) (z + 1) cap) := by rw [← HV.out]; exact cell_of H1.out.l rfl
  have f2 : ∀ i, w1.frozen? ⟨b.bl, i, none⟩ = false := fun _ => free_of H1.out.l
  have HTB := Lib.hid H1.out.blk
  refine wp_region_held_drew (S := (fun w' => w'.heap[b.tb]? = some (.cells #[two b.ba, two b.bl, two b.bu, two b.bk, .bool x.bad] 46 (0, 0)))) (by kernel_rfl) (hw1 ▸ HTB.out) (fun hHeld => ?_)
  refine' wpAnyH_take (i := 0) (oi := { dst := some 27, op := Go.Op.move (Go.Operand.tmp 0), type := 40, pos := "law.go:134", after := #[], guard := none }) (v := _) rfl (by kernel_rfl) (by kernel_rfl) (by kernel_rfl) (fun _ _ _ h => h) (Or.inl ⟨by rfl, ?hy16⟩) (by assumption) ?hr16
  case hy16 => (intro _ hSw; (try dsimp only at hSw); go_simp <;> with_reducible rfl)
  simp only [Act.put, List.setIfInBounds_toArray, List.set_cons_zero, List.set_cons_succ]
  refine' wpAnyH_take (i := 1) (oi := { dst := some 28, op := Go.Op.nilCheck (Go.Operand.tmp 27), type := 0, pos := "law.go:134", after := #[{ on := 0, ground := Go.Ground.data }], guard := none }) (v := _) rfl (by kernel_rfl) (by kernel_rfl) (by kernel_rfl) (fun _ _ _ h => h) (Or.inl ⟨by rfl, ?hy17⟩) (by assumption) ?hr17
  case hy17 => (intro _ hSw; (try dsimp only at hSw); go_simp <;> with_reducible rfl)
  simp only [Act.put, List.setIfInBounds_toArray, List.set_cons_zero, List.set_cons_succ]
  refine' wpAnyH_take (i := 2) (oi := { dst := some 29, op := Go.Op.fieldAddr 46 (Go.Operand.tmp 28) 1, type := 0, pos := "law.go:134", after := #[{ on := 1, ground := Go.Ground.data }], guard := none }) (v := _) rfl (by kernel_rfl) (by kernel_rfl) (by kernel_rfl) (fun _ _ _ h => h) (Or.inl ⟨by rfl, ?hy18⟩) (by assumption) ?hr18
  case hy18 => (intro _ hSw; (try dsimp only at hSw); go_simp <;> with_reducible rfl)
  simp only [Act.put, List.setIfInBounds_toArray, List.set_cons_zero, List.set_cons_succ]
  refine' wpAnyH_take (i := 3) (oi := { dst := some 30, op := Go.Op.load 43 (Go.Operand.tmp 29), type := 43, pos := "law.go:134", after := #[{ on := 2, ground := Go.Ground.data }], guard := none }) (v := _) rfl (by kernel_rfl) (by kernel_rfl) (by kernel_rfl) (fun _ _ _ h => h) (Or.inl ⟨by rfl, ?hy19⟩) (by assumption) ?hr19
  case hy19 => (intro _ hSw; (try dsimp only at hSw); have hc := cell_of (i := 1) (v := two b.bl) hSw rfl; go_simp <;> with_reducible rfl)
  simp only [Act.put, List.setIfInBounds_toArray, List.set_cons_zero, List.set_cons_succ]
  refine' wpAnyH_take (i := 4) (oi := { dst := some 31, op := Go.Op.move (Go.Operand.tmp 1), type := 3, pos := "law.go:134", after := #[], guard := none }) (v := _) rfl (by kernel_rfl) (by kernel_rfl) (by kernel_rfl) (fun _ _ _ h => h) (Or.inl ⟨by rfl, ?hy20⟩) (by assumption) ?hr20
  case hy20 => (intro _ hSw; (try dsimp only at hSw); go_simp <;> with_reducible rfl)
  simp only [Act.put, List.setIfInBounds_toArray, List.set_cons_zero, List.set_cons_succ]
  refine' wpAnyH_take (i := 5) (oi := { dst := some 32, op := Go.Op.move (Go.Operand.tmp 0), type := 40, pos := "law.go:134", after := #[], guard := none }) (v := _) rfl (by kernel_rfl) (by kernel_rfl) (by kernel_rfl) (fun _ _ _ h => h) (Or.inl ⟨by rfl, ?hy21⟩) (by assumption) ?hr21
  case hy21 => (intro _ hSw; (try dsimp only at hSw); go_simp <;> with_reducible rfl)
  simp only [Act.put, List.setIfInBounds_toArray, List.set_cons_zero, List.set_cons_succ]
  refine' wpAnyH_take (i := 6) (oi := { dst := some 33, op := Go.Op.nilCheck (Go.Operand.tmp 32), type := 0, pos := "law.go:134", after := #[{ on := 5, ground := Go.Ground.data }], guard := none }) (v := _) rfl (by kernel_rfl) (by kernel_rfl) (by kernel_rfl) (fun _ _ _ h => h) (Or.inl ⟨by rfl, ?hy22⟩) (by assumption) ?hr22
  case hy22 => (intro _ hSw; (try dsimp only at hSw); go_simp <;> with_reducible rfl)
  simp only [Act.put, List.setIfInBounds_toArray, List.set_cons_zero, List.set_cons_succ]
  refine' wpAnyH_take (i := 7) (oi := { dst := some 34, op := Go.Op.fieldAddr 46 (Go.Operand.tmp 33) 1, type := 0, pos := "law.go:134", after := #[{ on := 6, ground := Go.Ground.data }], guard := none }) (v := _) rfl (by kernel_rfl) (by kernel_rfl) (by kernel_rfl) (fun _ _ _ h => h) (Or.inl ⟨by rfl, ?hy23⟩) (by assumption) ?hr23
  case hy23 => (intro _ hSw; (try dsimp only at hSw); go_simp <;> with_reducible rfl)
  simp only [Act.put, List.setIfInBounds_toArray, List.set_cons_zero, List.set_cons_succ]
  refine' wpAnyH_take (i := 8) (oi := { dst := some 35, op := Go.Op.load 43 (Go.Operand.tmp 34), type := 43, pos := "law.go:134", after := #[{ on := 7, ground := Go.Ground.data }], guard := none }) (v := _) rfl (by kernel_rfl) (by kernel_rfl) (by kernel_rfl) (fun _ _ _ h => h) (Or.inl ⟨by rfl, ?hy24⟩) (by assumption) ?hr24
  case hy24 => (intro _ hSw; (try dsimp only at hSw); have hc := cell_of (i := 1) (v := two b.bl) hSw rfl; go_simp <;> with_reducible rfl)
  simp only [Act.put, List.setIfInBounds_toArray, List.set_cons_zero, List.set_cons_succ]
  refine' wpAnyH_take (i := 9) (oi := { dst := some 36, op := Go.Op.move (Go.Operand.tmp 1), type := 3, pos := "law.go:134", after := #[], guard := none }) (v := _) rfl (by kernel_rfl) (by kernel_rfl) (by kernel_rfl) (fun _ _ _ h => h) (Or.inl ⟨by rfl, ?hy25⟩) (by assumption) ?hr25
  case hy25 => (intro _ hSw; (try dsimp only at hSw); go_simp <;> with_reducible rfl)
  simp only [Act.put, List.setIfInBounds_toArray, List.set_cons_zero, List.set_cons_succ]
  refine' wpAnyH_take (i := 10) (oi := { dst := some 37, op := Go.Op.indexAddr 43 (Go.Operand.tmp 35) (Go.Operand.tmp 36), type := 0, pos := "law.go:134", after := #[{ on := 8, ground := Go.Ground.data }, { on := 9, ground := Go.Ground.data }], guard := none }) (v := _) rfl (by kernel_rfl) (by kernel_rfl) (by kernel_rfl) (fun _ _ _ h => h) (Or.inl ⟨by rfl, ?hy26⟩) (by assumption) ?hr26
  case hy26 => (intro _ hSw; (try dsimp only at hSw); go_simp <;> with_reducible rfl)
  simp only [Act.put, List.setIfInBounds_toArray, List.set_cons_zero, List.set_cons_succ]
  rw [hw1]
  clear hw1
  refine wpAnyH_ready (rs := [11]) (by kernel_rfl) (by simp) ?_
  refine AllReadyH.cons (o := { dst := some 38, op := Go.Op.load 88 (Go.Operand.tmp 37), type := 88, pos := "law.go:134", after := #[{ on := 10, ground := Go.Ground.data }], guard := none }) rfl (fun K hK => ?_) AllReadyH.nil
  go_simp
  refine hK.out _ _ HTB.out (fun hNext => ?_)
  clear hHeld
  clear hK K
  have hHeld := hNext
  clear hNext
  (try simp only [Act.put, List.setIfInBounds_toArray, List.set_cons_zero, List.set_cons_succ])
  by_cases hc1 : cap = 1
  · rw [if_pos hc1] at HQ1
    subst hc1
    obtain rfl : z = 0 := by omega
    refine' wpAnyH_take (i := 12) (oi := { dst := some 39, op := Go.Op.slice 88 (Go.Operand.tmp 38) (some (Go.Operand.const (Go.Value.int Go.IntKind.i64 1))) none none, type := 88, pos := "law.go:134", after := #[{ on := 11, ground := Go.Ground.data }], guard := none }) (v := _) rfl (by kernel_rfl) (by kernel_rfl) (by kernel_rfl) (fun _ _ _ h => h) (Or.inl ⟨by rfl, ?hy27⟩) (by assumption) ?hr27
    case hy27 => (intro _ hSw; (try dsimp only at hSw); go_simp <;> with_reducible rfl)
    simp only [Act.put, List.setIfInBounds_toArray, List.set_cons_zero, List.set_cons_succ]
    refine' wpAnyH_take (i := 13) (oi := { dst := some 40, op := Go.Op.indexAddr 43 (Go.Operand.tmp 30) (Go.Operand.tmp 31), type := 0, pos := "law.go:134", after := #[{ on := 3, ground := Go.Ground.data }, { on := 4, ground := Go.Ground.data }, { on := 0, ground := Go.Ground.phase }, { on := 1, ground := Go.Ground.phase }, { on := 2, ground := Go.Ground.phase }, { on := 3, ground := Go.Ground.phase }, { on := 4, ground := Go.Ground.phase }, { on := 5, ground := Go.Ground.phase }, { on := 6, ground := Go.Ground.phase }, { on := 7, ground := Go.Ground.phase }, { on := 8, ground := Go.Ground.phase }, { on := 9, ground := Go.Ground.phase }, { on := 10, ground := Go.Ground.phase }, { on := 11, ground := Go.Ground.phase }, { on := 12, ground := Go.Ground.phase }], guard := none }) (v := _) rfl (by kernel_rfl) (by kernel_rfl) (by kernel_rfl) (fun _ _ _ h => h) (Or.inl ⟨by rfl, ?hy28⟩) (by assumption) ?hr28
    case hy28 => (intro _ hSw; (try dsimp only at hSw); go_simp <;> with_reducible rfl)
    simp only [Act.put, List.setIfInBounds_toArray, List.set_cons_zero, List.set_cons_succ]
    refine wpAnyH_ready (rs := [14]) (by kernel_rfl) (by simp) ?_
    refine AllReadyH.cons (o := { dst := none, op := Go.Op.store 88 (Go.Operand.tmp 40) (Go.Operand.tmp 39), type := 0, pos := "law.go:134", after := #[{ on := 13, ground := Go.Ground.data }, { on := 12, ground := Go.Ground.data }, { on := 0, ground := Go.Ground.phase }, { on := 1, ground := Go.Ground.phase }, { on := 2, ground := Go.Ground.phase }, { on := 3, ground := Go.Ground.phase }, { on := 4, ground := Go.Ground.phase }, { on := 5, ground := Go.Ground.phase }, { on := 6, ground := Go.Ground.phase }, { on := 7, ground := Go.Ground.phase }, { on := 8, ground := Go.Ground.phase }, { on := 9, ground := Go.Ground.phase }, { on := 10, ground := Go.Ground.phase }, { on := 11, ground := Go.Ground.phase }, { on := 12, ground := Go.Ground.phase }], guard := none }) rfl (fun K hK => ?_) AllReadyH.nil
    go_simp
    refine hK.out _ _ ((set_other hne _).trans HTB.out) (fun hNext => ?_)
    clear hNext hHeld
    refine wpAnyH_done (by kernel_rfl) ?_ _
    clear hK K
    have hgr : w1.grownBy w1 v0.ownBlock := ⟨rfl, rfl, rfl, Nat.le_refl _, fun _ _ _ => rfl⟩
    have how : (Value.ownBlock (.slice (some ⟨g, off, none⟩) 0 0)) = v0.ownBlock := by rw [HV.out]; rfl
    have H2 := Lib.hid (H1.out.put0 hgr HQ1.out (Or.inl how))
    have hA2 : (w1.setCell ⟨b.bl, 0, none⟩ (.slice (some ⟨g, off, none⟩) 0 0)).heap[fb]? = some (.cells #[.int .u8 0, .bool fc, .int .u8 (fk : Int), .bool fpf, .int .u8 (fns : Int), .int .u8 (fnr : Int), .string fi] TF (0, 0)) := (set_other (by omega) _).trans hA1
    clear HQ1 H1 hA1 b2 f2 HTB hgr how
    generalize w1.setCell ⟨b.bl, 0, none⟩ (.slice (some ⟨g, off, none⟩) 0 0) = w2 at H2 hA2 ⊢
    generalize retag w1 tag 7 = tag2 at H2
    go_wp2_with fail
    have H3 := Lib.hid (H2.out.on (w' := w2.drew) ⟨rfl, rfl, rfl, Nat.le_refl _, fun _ _ => rfl⟩)
    have hA3 : w2.drew.heap[fb]? = some (.cells #[.int .u8 0, .bool fc, .int .u8 (fk : Int), .bool fpf, .int .u8 (fns : Int), .int .u8 (fnr : Int), .string fi] TF (0, 0)) := hA2
    clear H2 hA2
    refine wp_region_held_drew (S := (fun w' => w'.heap[fb]? = some (.cells #[.int .u8 0, .bool fc, .int .u8 (fk : Int), .bool fpf, .int .u8 (fns : Int), .int .u8 (fnr : Int), .string fi] TF (0, 0)) ∧ w'.heap[b.tb]? = some (.cells #[two b.ba, two b.bl, two b.bu, two b.bk, .bool x.bad] 46 (0, 0)) ∧ w'.heap[b.ba]? = some (.cells #[ptr b.p0, ptr b.p1] 28 (0, 0)))) (by kernel_rfl) ⟨hA3, H3.out.blk, H3.out.a⟩ (fun hHeld => ?_)
    refine' wpAnyH_take (i := 0) (oi := { dst := some 42, op := Go.Op.move (Go.Operand.tmp 0), type := 40, pos := "law.go:138", after := #[], guard := none }) (v := _) rfl (by kernel_rfl) (by kernel_rfl) (by kernel_rfl) (fun _ _ _ h => h) (Or.inl ⟨by rfl, ?hy29⟩) (by assumption) ?hr29
    case hy29 => (intro _ hSw; (try dsimp only at hSw); go_simp <;> with_reducible rfl)
    simp only [Act.put, List.setIfInBounds_toArray, List.set_cons_zero, List.set_cons_succ]
    refine' wpAnyH_take (i := 1) (oi := { dst := some 43, op := Go.Op.nilCheck (Go.Operand.tmp 42), type := 0, pos := "law.go:138", after := #[{ on := 0, ground := Go.Ground.data }], guard := none }) (v := _) rfl (by kernel_rfl) (by kernel_rfl) (by kernel_rfl) (fun _ _ _ h => h) (Or.inl ⟨by rfl, ?hy30⟩) (by assumption) ?hr30
    case hy30 => (intro _ hSw; (try dsimp only at hSw); go_simp <;> with_reducible rfl)
    simp only [Act.put, List.setIfInBounds_toArray, List.set_cons_zero, List.set_cons_succ]
    refine' wpAnyH_take (i := 2) (oi := { dst := some 44, op := Go.Op.fieldAddr 46 (Go.Operand.tmp 43) 0, type := 0, pos := "law.go:138", after := #[{ on := 1, ground := Go.Ground.data }], guard := none }) (v := _) rfl (by kernel_rfl) (by kernel_rfl) (by kernel_rfl) (fun _ _ _ h => h) (Or.inl ⟨by rfl, ?hy31⟩) (by assumption) ?hr31
    case hy31 => (intro _ hSw; (try dsimp only at hSw); go_simp <;> with_reducible rfl)
    simp only [Act.put, List.setIfInBounds_toArray, List.set_cons_zero, List.set_cons_succ]
    refine' wpAnyH_take (i := 3) (oi := { dst := some 45, op := Go.Op.load 42 (Go.Operand.tmp 44), type := 42, pos := "law.go:138", after := #[{ on := 2, ground := Go.Ground.data }], guard := none }) (v := _) rfl (by kernel_rfl) (by kernel_rfl) (by kernel_rfl) (fun _ _ _ h => h) (Or.inl ⟨by rfl, ?hy32⟩) (by assumption) ?hr32
    case hy32 => (intro _ hSw; (try dsimp only at hSw); have hc := cell_of (i := 0) (v := two b.ba) hSw.2.1 rfl; go_simp <;> with_reducible rfl)
    simp only [Act.put, List.setIfInBounds_toArray, List.set_cons_zero, List.set_cons_succ]
    refine' wpAnyH_take (i := 4) (oi := { dst := some 46, op := Go.Op.move (Go.Operand.tmp 1), type := 3, pos := "law.go:138", after := #[], guard := none }) (v := _) rfl (by kernel_rfl) (by kernel_rfl) (by kernel_rfl) (fun _ _ _ h => h) (Or.inl ⟨by rfl, ?hy33⟩) (by assumption) ?hr33
    case hy33 => (intro _ hSw; (try dsimp only at hSw); go_simp <;> with_reducible rfl)
    simp only [Act.put, List.setIfInBounds_toArray, List.set_cons_zero, List.set_cons_succ]
    refine' wpAnyH_take (i := 5) (oi := { dst := some 47, op := Go.Op.binOp Go.BinOp.sub 3 (Go.Operand.const (Go.Value.int Go.IntKind.i64 1)) (Go.Operand.tmp 46) 3, type := 3, pos := "law.go:138", after := #[{ on := 4, ground := Go.Ground.data }], guard := none }) (v := _) rfl (by kernel_rfl) (by kernel_rfl) (by kernel_rfl) (fun _ _ _ h => h) (Or.inl ⟨by rfl, ?hy34⟩) (by assumption) ?hr34
    case hy34 => (intro _ hSw; (try dsimp only at hSw); go_simp <;> with_reducible rfl)
    simp only [Act.put, List.setIfInBounds_toArray, List.set_cons_zero, List.set_cons_succ]
    refine' wpAnyH_take (i := 6) (oi := { dst := some 48, op := Go.Op.indexAddr 42 (Go.Operand.tmp 45) (Go.Operand.tmp 47), type := 0, pos := "law.go:138", after := #[{ on := 3, ground := Go.Ground.data }, { on := 5, ground := Go.Ground.data }], guard := none }) (v := _) rfl (by kernel_rfl) (by kernel_rfl) (by kernel_rfl) (fun _ _ _ h => h) (Or.inl ⟨by rfl, ?hy35⟩) (by assumption) ?hr35
    case hy35 => (intro _ hSw; (try dsimp only at hSw); go_simp <;> with_reducible rfl)
    simp only [Act.put, List.setIfInBounds_toArray, List.set_cons_zero, List.set_cons_succ]
    refine' wpAnyH_take (i := 7) (oi := { dst := some 49, op := Go.Op.load 28 (Go.Operand.tmp 48), type := 28, pos := "law.go:138", after := #[{ on := 6, ground := Go.Ground.data }], guard := none }) (v := _) rfl (by kernel_rfl) (by kernel_rfl) (by kernel_rfl) (fun _ _ _ h => h) (Or.inl ⟨by rfl, ?hy36⟩) (by assumption) ?hr36
    case hy36 => (intro _ hSw; (try dsimp only at hSw); have hc := cell_of (i := 1) (v := ptr b.p1) hSw.2.2 rfl; go_simp <;> with_reducible rfl)
    simp only [Act.put, List.setIfInBounds_toArray, List.set_cons_zero, List.set_cons_succ]
    refine' wpAnyH_take (i := 8) (oi := { dst := some 50, op := Go.Op.load 25 (Go.Operand.tmp 7), type := 25, pos := "law.go:138", after := #[], guard := none }) (v := _) rfl (by kernel_rfl) (by kernel_rfl) (by kernel_rfl) (fun _ _ _ h => h) (Or.inl ⟨by rfl, ?hy37⟩) (by assumption) ?hr37
    case hy37 => (intro _ hSw; (try dsimp only at hSw); obtain ⟨⟨y0, y1, y2, y3, y4, y5, y6⟩, -⟩ := cells7 hSw.1; go_simp <;> with_reducible rfl)
    simp only [Act.put, List.setIfInBounds_toArray, List.set_cons_zero, List.set_cons_succ]
    clear hHeld
    have hA4 : w2.drew.heap[fb]? = some (.cells #[.int .u8 0, .bool fc, .int .u8 (fk : Int), .bool fpf, .int .u8 (fns : Int), .int .u8 (fnr : Int), .string fi] TF (0, 0)) := hA3
    clear hA3
    generalize w2.drew = w3 at H3 hA4 ⊢
    have HS3 := Lib.hid (show w3.heap[fb]? = some (.cells #[.int .u8 0, .bool fc, .int .u8 (fk : Int), .bool fpf, .int .u8 (fns : Int), .int .u8 (fnr : Int), .string fi] TF (0, 0)) ∧ w3.heap[b.tb]? = some (.cells #[two b.ba, two b.bl, two b.bu, two b.bk, .bool x.bad] 46 (0, 0)) ∧ w3.heap[b.ba]? = some (.cells #[ptr b.p0, ptr b.p1] 28 (0, 0)) from ⟨hA4, H3.out.blk, H3.out.a⟩)
    have HF3 := Lib.hid (show b.p0 ≠ fb ∧ b.p1 ≠ fb ∧ (∀ g, q1.ownBlock = some g → g ≠ fb) from ⟨fun e => by have := HX.out.s0.lt; have := HFB.out; omega, fun e => by have := HX.out.s1.lt; have := HFB.out; omega, fun g hg e => by have := (HX.out.s1.q.lt g hg).2; have := HFB.out; omega⟩)
    clear hA4
    refine wpAnyH_ready (rs := [9, 10]) (by kernel_rfl) (by simp) ?_
    refine AllReadyH.cons (o := { dst := some 51, op := Go.Op.call { callee := Go.Callee.value (Go.Operand.func 24), args := #[Go.Operand.tmp 49, Go.Operand.tmp 50], argTypes := #[28, 25] }, type := 56, pos := "law.go:138", after := #[{ on := 7, ground := Go.Ground.data }, { on := 8, ground := Go.Ground.data }], guard := none }) rfl (fun K hK => ?_) (AllReadyH.cons (o := { dst := some 8, op := Go.Op.alloc 56, type := 0, pos := "law.go:138", after := #[], guard := none }) rfl (fun K hK => ?_) AllReadyH.nil)
    · go_simp
      refine (CH.out _ H3.out.s1).mono ?_
      rintro _ w4 ⟨rfl, u, hd⟩
      have HN := Lib.hid (H3.out.doB hd)
      have HS4 := Lib.hid (show w4.heap[fb]? = some (.cells #[.int .u8 0, .bool fc, .int .u8 (fk : Int), .bool fpf, .int .u8 (fns : Int), .int .u8 (fnr : Int), .string fi] TF (0, 0)) ∧ w4.heap[b.tb]? = some (.cells #[two b.ba, two b.bl, two b.bu, two b.bk, .bool x.bad] 46 (0, 0)) ∧ w4.heap[b.ba]? = some (.cells #[ptr b.p0, ptr b.p1] 28 (0, 0)) from ⟨hd.chg.stays HS3.out.1 (fun e => by rcases e with e | e; exact HF3.out.2.1 e.symm; exact HF3.out.2.2 _ e rfl), HN.out.blk, HN.out.a⟩)
      go_wp2_with fail
      refine hK.out _ _ HS4.out (fun hNext => ?_)
      clear hd CH H3 HS3 HF3
      clear hK K
      have hHeld := hNext
      clear hNext
      (try simp only [Act.put, List.setIfInBounds_toArray, List.set_cons_zero, List.set_cons_succ])
      refine wpAnyH_ready (rs := [10]) (by kernel_rfl) (by simp) ?_
      refine AllReadyH.cons (o := { dst := some 8, op := Go.Op.alloc 56, type := 0, pos := "law.go:138", after := #[], guard := none }) rfl (fun K hK => ?_) AllReadyH.nil
      go_simp
      refine hK.out _ _ ⟨stays HS4.out.1 (nest_below w4 [noM TA]), stays HS4.out.2.1 (nest_below w4 [noM TA]), stays HS4.out.2.2 (nest_below w4 [noM TA])⟩ (fun hNext => ?_)
      clear hHeld
      clear hK K
      have hHeld := hNext
      clear hNext
      (try simp only [Act.put, List.setIfInBounds_toArray, List.set_cons_zero, List.set_cons_succ])
      have H5 := Lib.hid (HN.out.on (show Below w4.heap.size w4 (w4.alloc (.cells #[.string mi, .bool false, .int .i64 (ma : Int), .bool false] TA (0, 0))) from nest_below w4 [_]))
      have hac : (w4.alloc (.cells #[.string mi, .bool false, .int .i64 (ma : Int), .bool false] TA (0, 0))).heap[w4.heap.size]? = some (.cells #[.string mi, .bool false, .int .i64 (ma : Int), .bool false] TA (0, 0)) := nest w4 [_] 0 _ rfl
      refine wpAnyH_ready (rs := [11]) (by kernel_rfl) (by simp) ?_
      refine AllReadyH.cons (o := { dst := none, op := Go.Op.store 56 (Go.Operand.tmp 8) (Go.Operand.tmp 51), type := 0, pos := "law.go:138", after := #[{ on := 10, ground := Go.Ground.data }, { on := 9, ground := Go.Ground.data }, { on := 9, ground := Go.Ground.chain }, { on := 0, ground := Go.Ground.phase }, { on := 1, ground := Go.Ground.phase }, { on := 2, ground := Go.Ground.phase }, { on := 3, ground := Go.Ground.phase }, { on := 4, ground := Go.Ground.phase }, { on := 5, ground := Go.Ground.phase }, { on := 6, ground := Go.Ground.phase }, { on := 7, ground := Go.Ground.phase }, { on := 8, ground := Go.Ground.phase }, { on := 9, ground := Go.Ground.phase }, { on := 10, ground := Go.Ground.phase }], guard := none }) rfl (fun K hK => ?_) AllReadyH.nil
      go_simp
      go_wp2_with fail
      refine hK.out _ _ ⟨stays HS4.out.1 (nest_below w4 [(.cells #[.string mi, .bool false, .int .i64 (ma : Int), .bool false] TA (0, 0))]), H5.out.blk, H5.out.a⟩ (fun hNext => ?_)
      clear hHeld
      clear hK K
      have hHeld := hNext
      clear hNext
      (try simp only [Act.put, List.setIfInBounds_toArray, List.set_cons_zero, List.set_cons_succ])
      refine wpAnyH_done (by kernel_rfl) ?_ _
      clear hHeld
      have HK2 := Lib.hid (show b.bk ≠ w4.heap.size from fun e => by have := lt_heap HN.out.k; omega)
      clear HS4 HN
      generalize w4.alloc (.cells #[.string mi, .bool false, .int .i64 (ma : Int), .bool false] TA (0, 0)) = w5 at H5 hac ⊢
      generalize w4.heap.size = ab at hac HK2 ⊢
      generalize retag w3 tag2 6 = tag5 at H5
      obtain ⟨⟨a0, a1, a2, a3⟩, af⟩ := cells4 hac
      go_wp2
      go_ret
      exact ⟨rfl, _, _, _, _, _, H5.out⟩
    · go_simp
      refine hK.out _ _ ⟨stays HS3.out.1 (nest_below w3 [noM TA]), stays HS3.out.2.1 (nest_below w3 [noM TA]), stays HS3.out.2.2 (nest_below w3 [noM TA])⟩ (fun hNext => ?_)
      clear hK K
      have hHeld := hNext
      clear hNext
      (try simp only [Act.put, List.setIfInBounds_toArray, List.set_cons_zero, List.set_cons_succ])
      have H4 := Lib.hid ((H3.out.mark 9).on (show Below w3.heap.size w3 (w3.alloc (noM TA)) from nest_below w3 [_]))
      have HT4 := Lib.hid (show retag w3 tag2 9 w3.heap.size = 9 from retag_new (Nat.le_refl _))
      generalize retag w3 tag2 9 = tag4 at H4 HT4
      have hn4 : (w3.alloc (noM TA)).heap[w3.heap.size]? = some (noM TA) := nest w3 [_] 0 _ rfl
      have hs4 := size_alloc w3 (noM TA)
      have HS4 := Lib.hid (show (w3.alloc (noM TA)).heap[fb]? = some (.cells #[.int .u8 0, .bool fc, .int .u8 (fk : Int), .bool fpf, .int .u8 (fns : Int), .int .u8 (fnr : Int), .string fi] TF (0, 0)) from stays HS3.out.1 (nest_below w3 [noM TA]))
      refine wpAnyH_ready (rs := [9]) (by kernel_rfl) (by simp) ?_
      refine AllReadyH.cons (o := { dst := some 51, op := Go.Op.call { callee := Go.Callee.value (Go.Operand.func 24), args := #[Go.Operand.tmp 49, Go.Operand.tmp 50], argTypes := #[28, 25] }, type := 56, pos := "law.go:138", after := #[{ on := 7, ground := Go.Ground.data }, { on := 8, ground := Go.Ground.data }], guard := none }) rfl (fun K hK => ?_) AllReadyH.nil
      go_simp
      refine (CH.out _ H4.out.s1).mono ?_
      rintro _ w4 ⟨rfl, u, hd⟩
      have HN := Lib.hid (H4.out.doB hd)
      have hn5 : w4.heap[w3.heap.size]? = some (noM TA) := hd.chg.stays hn4 (fun e => by
        rcases e with e | e
        · have := H4.out.t6; have := HT4.out; rw [e] at this; omega
        · have := H4.out.o1 _ e; have := HT4.out; omega)
      have hf5 : w4.heap[fb]? = some (.cells #[.int .u8 0, .bool fc, .int .u8 (fk : Int), .bool fpf, .int .u8 (fns : Int), .int .u8 (fnr : Int), .string fi] TF (0, 0)) := hd.chg.stays HS4.out (fun e => by
        rcases e with e | e
        · exact HF3.out.2.1 e.symm
        · exact HF3.out.2.2 _ e rfl)
      have htn : retag (w3.alloc (noM TA)) tag4 6 w3.heap.size = 9 := by rw [retag_old (by omega)]; exact HT4.out
      go_wp2_with fail
      refine hK.out _ _ ⟨hf5, HN.out.blk, HN.out.a⟩ (fun hNext => ?_)
      clear hd CH hHeld hn4
      clear hK K
      have hHeld := hNext
      clear hNext
      (try simp only [Act.put, List.setIfInBounds_toArray, List.set_cons_zero, List.set_cons_succ])
      obtain ⟨⟨y0, y1, y2, y3⟩, yf⟩ := cells4 hn5
      have hac : ((((w4.setCell ⟨w3.heap.size, 0, none⟩ (.string mi)).setCell ⟨w3.heap.size, 1, none⟩ (.bool false)).setCell ⟨w3.heap.size, 2, none⟩ (.int .i64 (ma : Int))).setCell ⟨w3.heap.size, 3, none⟩ (.bool false)).heap[w3.heap.size]? = some (.cells #[.string mi, .bool false, .int .i64 (ma : Int), .bool false] TA (0, 0)) := set4_at hn5 (.string mi) (.bool false) (.int .i64 (ma : Int)) (.bool false)
      have hcc : Chg (fun k => k = w3.heap.size) w4 ((((w4.setCell ⟨w3.heap.size, 0, none⟩ (.string mi)).setCell ⟨w3.heap.size, 1, none⟩ (.bool false)).setCell ⟨w3.heap.size, 2, none⟩ (.int .i64 (ma : Int))).setCell ⟨w3.heap.size, 3, none⟩ (.bool false)) := chg_set4 (S := fun k => k = w3.heap.size) (Chg.refl _ w4) (fun _ => rfl) _ _ _ _
      have H5 := Lib.hid (HN.out.other hcc htn H3.out.below.size)
      refine wpAnyH_ready (rs := [11]) (by kernel_rfl) (by simp) ?_
      refine AllReadyH.cons (o := { dst := none, op := Go.Op.store 56 (Go.Operand.tmp 8) (Go.Operand.tmp 51), type := 0, pos := "law.go:138", after := #[{ on := 10, ground := Go.Ground.data }, { on := 9, ground := Go.Ground.data }, { on := 9, ground := Go.Ground.chain }, { on := 0, ground := Go.Ground.phase }, { on := 1, ground := Go.Ground.phase }, { on := 2, ground := Go.Ground.phase }, { on := 3, ground := Go.Ground.phase }, { on := 4, ground := Go.Ground.phase }, { on := 5, ground := Go.Ground.phase }, { on := 6, ground := Go.Ground.phase }, { on := 7, ground := Go.Ground.phase }, { on := 8, ground := Go.Ground.phase }, { on := 9, ground := Go.Ground.phase }, { on := 10, ground := Go.Ground.phase }], guard := none }) rfl (fun K hK => ?_) AllReadyH.nil
      go_simp
      go_wp2_with fail
      refine hK.out _ _ ⟨hcc.stays hf5 (fun e => by have := lt_heap HS3.out.1; omega), H5.out.blk, H5.out.a⟩ (fun hNext => ?_)
      clear hHeld
      clear hK K
      have hHeld := hNext
      clear hNext
      (try simp only [Act.put, List.setIfInBounds_toArray, List.set_cons_zero, List.set_cons_succ])
      refine wpAnyH_done (by kernel_rfl) ?_ _
      clear hHeld
      have HK2 := Lib.hid (show b.bk ≠ w3.heap.size from fun e => by have := lt_heap H3.out.k; omega)
      clear HS3 HF3 HS4 HN H4 HT4 hn5 hf5 htn hcc y0 y1 y2 y3 yf hs4 H3
      generalize ((((w4.setCell ⟨w3.heap.size, 0, none⟩ (.string mi)).setCell ⟨w3.heap.size, 1, none⟩ (.bool false)).setCell ⟨w3.heap.size, 2, none⟩ (.int .i64 (ma : Int))).setCell ⟨w3.heap.size, 3, none⟩ (.bool false)) = w5 at H5 hac ⊢
      generalize w3.heap.size = ab at hac HK2 ⊢
      generalize retag (w3.alloc (noM TA)) tag4 6 = tag5 at H5
      obtain ⟨⟨a0, a1, a2, a3⟩, af⟩ := cells4 hac
      go_wp2
      go_ret
      exact ⟨rfl, _, _, _, _, _, H5.out⟩
  · rw [if_neg hc1] at HQ1
    refine' wpAnyH_take (i := 12) (oi := { dst := some 39, op := Go.Op.slice 88 (Go.Operand.tmp 38) (some (Go.Operand.const (Go.Value.int Go.IntKind.i64 1))) none none, type := 88, pos := "law.go:134", after := #[{ on := 11, ground := Go.Ground.data }], guard := none }) (v := _) rfl (by kernel_rfl) (by kernel_rfl) (by kernel_rfl) (fun _ _ _ h => h) (Or.inl ⟨by rfl, ?hy58⟩) (by assumption) ?hr58
    case hy58 => (intro _ hSw; (try dsimp only at hSw); go_simp <;> with_reducible rfl)
    simp only [Act.put, List.setIfInBounds_toArray, List.set_cons_zero, List.set_cons_succ]
    refine' wpAnyH_take (i := 13) (oi := { dst := some 40, op := Go.Op.indexAddr 43 (Go.Operand.tmp 30) (Go.Operand.tmp 31), type := 0, pos := "law.go:134", after := #[{ on := 3, ground := Go.Ground.data }, { on := 4, ground := Go.Ground.data }, { on := 0, ground := Go.Ground.phase }, { on := 1, ground := Go.Ground.phase }, { on := 2, ground := Go.Ground.phase }, { on := 3, ground := Go.Ground.phase }, { on := 4, ground := Go.Ground.phase }, { on := 5, ground := Go.Ground.phase }, { on := 6, ground := Go.Ground.phase }, { on := 7, ground := Go.Ground.phase }, { on := 8, ground := Go.Ground.phase }, { on := 9, ground := Go.Ground.phase }, { on := 10, ground := Go.Ground.phase }, { on := 11, ground := Go.Ground.phase }, { on := 12, ground := Go.Ground.phase }], guard := none }) (v := _) rfl (by kernel_rfl) (by kernel_rfl) (by kernel_rfl) (fun _ _ _ h => h) (Or.inl ⟨by rfl, ?hy59⟩) (by assumption) ?hr59
    case hy59 => (intro _ hSw; (try dsimp only at hSw); go_simp <;> with_reducible rfl)
    simp only [Act.put, List.setIfInBounds_toArray, List.set_cons_zero, List.set_cons_succ]
    refine wpAnyH_ready (rs := [14]) (by kernel_rfl) (by simp) ?_
    refine AllReadyH.cons (o := { dst := none, op := Go.Op.store 88 (Go.Operand.tmp 40) (Go.Operand.tmp 39), type := 0, pos := "law.go:134", after := #[{ on := 13, ground := Go.Ground.data }, { on := 12, ground := Go.Ground.data }, { on := 0, ground := Go.Ground.phase }, { on := 1, ground := Go.Ground.phase }, { on := 2, ground := Go.Ground.phase }, { on := 3, ground := Go.Ground.phase }, { on := 4, ground := Go.Ground.phase }, { on := 5, ground := Go.Ground.phase }, { on := 6, ground := Go.Ground.phase }, { on := 7, ground := Go.Ground.phase }, { on := 8, ground := Go.Ground.phase }, { on := 9, ground := Go.Ground.phase }, { on := 10, ground := Go.Ground.phase }, { on := 11, ground := Go.Ground.phase }, { on := 12, ground := Go.Ground.phase }], guard := none }) rfl (fun K hK => ?_) AllReadyH.nil
    go_simp
    refine hK.out _ _ ((set_other hne _).trans HTB.out) (fun hNext => ?_)
    clear hNext hHeld
    refine wpAnyH_done (by kernel_rfl) ?_ _
    clear hK K
    have hgr : w1.grownBy w1 v0.ownBlock := ⟨rfl, rfl, rfl, Nat.le_refl _, fun _ _ _ => rfl⟩
    have how : (Value.ownBlock (.slice (some ⟨g, off + 7, none⟩) z (cap - 1))) = v0.ownBlock := by rw [HV.out]; rfl
    have H2 := Lib.hid (H1.out.put0 hgr HQ1.out (Or.inl how))
    have hA2 : (w1.setCell ⟨b.bl, 0, none⟩ (.slice (some ⟨g, off + 7, none⟩) z (cap - 1))).heap[fb]? = some (.cells #[.int .u8 0, .bool fc, .int .u8 (fk : Int), .bool fpf, .int .u8 (fns : Int), .int .u8 (fnr : Int), .string fi] TF (0, 0)) := (set_other (by omega) _).trans hA1
    clear HQ1 H1 hA1 b2 f2 HTB hgr how
    generalize w1.setCell ⟨b.bl, 0, none⟩ (.slice (some ⟨g, off + 7, none⟩) z (cap - 1)) = w2 at H2 hA2 ⊢
    generalize retag w1 tag 7 = tag2 at H2
    go_wp2_with fail
    have H3 := Lib.hid (H2.out.on (w' := w2.drew) ⟨rfl, rfl, rfl, Nat.le_refl _, fun _ _ => rfl⟩)
    have hA3 : w2.drew.heap[fb]? = some (.cells #[.int .u8 0, .bool fc, .int .u8 (fk : Int), .bool fpf, .int .u8 (fns : Int), .int .u8 (fnr : Int), .string fi] TF (0, 0)) := hA2
    clear H2 hA2
    refine wp_region_held_drew (S := (fun w' => w'.heap[fb]? = some (.cells #[.int .u8 0, .bool fc, .int .u8 (fk : Int), .bool fpf, .int .u8 (fns : Int), .int .u8 (fnr : Int), .string fi] TF (0, 0)) ∧ w'.heap[b.tb]? = some (.cells #[two b.ba, two b.bl, two b.bu, two b.bk, .bool x.bad] 46 (0, 0)) ∧ w'.heap[b.ba]? = some (.cells #[ptr b.p0, ptr b.p1] 28 (0, 0)))) (by kernel_rfl) ⟨hA3, H3.out.blk, H3.out.a⟩ (fun hHeld => ?_)
    refine' wpAnyH_take (i := 0) (oi := { dst := some 42, op := Go.Op.move (Go.Operand.tmp 0), type := 40, pos := "law.go:138", after := #[], guard := none }) (v := _) rfl (by kernel_rfl) (by kernel_rfl) (by kernel_rfl) (fun _ _ _ h => h) (Or.inl ⟨by rfl, ?hy60⟩) (by assumption) ?hr60
    case hy60 => (intro _ hSw; (try dsimp only at hSw); go_simp <;> with_reducible rfl)
    simp only [Act.put, List.setIfInBounds_toArray, List.set_cons_zero, List.set_cons_succ]
    refine' wpAnyH_take (i := 1) (oi := { dst := some 43, op := Go.Op.nilCheck (Go.Operand.tmp 42), type := 0, pos := "law.go:138", after := #[{ on := 0, ground := Go.Ground.data }], guard := none }) (v := _) rfl (by kernel_rfl) (by kernel_rfl) (by kernel_rfl) (fun _ _ _ h => h) (Or.inl ⟨by rfl, ?hy61⟩) (by assumption) ?hr61
    case hy61 => (intro _ hSw; (try dsimp only at hSw); go_simp <;> with_reducible rfl)
    simp only [Act.put, List.setIfInBounds_toArray, List.set_cons_zero, List.set_cons_succ]
    refine' wpAnyH_take (i := 2) (oi := { dst := some 44, op := Go.Op.fieldAddr 46 (Go.Operand.tmp 43) 0, type := 0, pos := "law.go:138", after := #[{ on := 1, ground := Go.Ground.data }], guard := none }) (v := _) rfl (by kernel_rfl) (by kernel_rfl) (by kernel_rfl) (fun _ _ _ h => h) (Or.inl ⟨by rfl, ?hy62⟩) (by assumption) ?hr62
    case hy62 => (intro _ hSw; (try dsimp only at hSw); go_simp <;> with_reducible rfl)
    simp only [Act.put, List.setIfInBounds_toArray, List.set_cons_zero, List.set_cons_succ]
    refine' wpAnyH_take (i := 3) (oi := { dst := some 45, op := Go.Op.load 42 (Go.Operand.tmp 44), type := 42, pos := "law.go:138", after := #[{ on := 2, ground := Go.Ground.data }], guard := none }) (v := _) rfl (by kernel_rfl) (by kernel_rfl) (by kernel_rfl) (fun _ _ _ h => h) (Or.inl ⟨by rfl, ?hy63⟩) (by assumption) ?hr63
    case hy63 => (intro _ hSw; (try dsimp only at hSw); have hc := cell_of (i := 0) (v := two b.ba) hSw.2.1 rfl; go_simp <;> with_reducible rfl)
    simp only [Act.put, List.setIfInBounds_toArray, List.set_cons_zero, List.set_cons_succ]
    refine' wpAnyH_take (i := 4) (oi := { dst := some 46, op := Go.Op.move (Go.Operand.tmp 1), type := 3, pos := "law.go:138", after := #[], guard := none }) (v := _) rfl (by kernel_rfl) (by kernel_rfl) (by kernel_rfl) (fun _ _ _ h => h) (Or.inl ⟨by rfl, ?hy64⟩) (by assumption) ?hr64
    case hy64 => (intro _ hSw; (try dsimp only at hSw); go_simp <;> with_reducible rfl)
    simp only [Act.put, List.setIfInBounds_toArray, List.set_cons_zero, List.set_cons_succ]
    refine' wpAnyH_take (i := 5) (oi := { dst := some 47, op := Go.Op.binOp Go.BinOp.sub 3 (Go.Operand.const (Go.Value.int Go.IntKind.i64 1)) (Go.Operand.tmp 46) 3, type := 3, pos := "law.go:138", after := #[{ on := 4, ground := Go.Ground.data }], guard := none }) (v := _) rfl (by kernel_rfl) (by kernel_rfl) (by kernel_rfl) (fun _ _ _ h => h) (Or.inl ⟨by rfl, ?hy65⟩) (by assumption) ?hr65
    case hy65 => (intro _ hSw; (try dsimp only at hSw); go_simp <;> with_reducible rfl)
    simp only [Act.put, List.setIfInBounds_toArray, List.set_cons_zero, List.set_cons_succ]
    refine' wpAnyH_take (i := 6) (oi := { dst := some 48, op := Go.Op.indexAddr 42 (Go.Operand.tmp 45) (Go.Operand.tmp 47), type := 0, pos := "law.go:138", after := #[{ on := 3, ground := Go.Ground.data }, { on := 5, ground := Go.Ground.data }], guard := none }) (v := _) rfl (by kernel_rfl) (by kernel_rfl) (by kernel_rfl) (fun _ _ _ h => h) (Or.inl ⟨by rfl, ?hy66⟩) (by assumption) ?hr66
    case hy66 => (intro _ hSw; (try dsimp only at hSw); go_simp <;> with_reducible rfl)
    simp only [Act.put, List.setIfInBounds_toArray, List.set_cons_zero, List.set_cons_succ]
    refine' wpAnyH_take (i := 7) (oi := { dst := some 49, op := Go.Op.load 28 (Go.Operand.tmp 48), type := 28, pos := "law.go:138", after := #[{ on := 6, ground := Go.Ground.data }], guard := none }) (v := _) rfl (by kernel_rfl) (by kernel_rfl) (by kernel_rfl) (fun _ _ _ h => h) (Or.inl ⟨by rfl, ?hy67⟩) (by assumption) ?hr67
    case hy67 => (intro _ hSw; (try dsimp only at hSw); have hc := cell_of (i := 1) (v := ptr b.p1) hSw.2.2 rfl; go_simp <;> with_reducible rfl)
    simp only [Act.put, List.setIfInBounds_toArray, List.set_cons_zero, List.set_cons_succ]
    refine' wpAnyH_take (i := 8) (oi := { dst := some 50, op := Go.Op.load 25 (Go.Operand.tmp 7), type := 25, pos := "law.go:138", after := #[], guard := none }) (v := _) rfl (by kernel_rfl) (by kernel_rfl) (by kernel_rfl) (fun _ _ _ h => h) (Or.inl ⟨by rfl, ?hy68⟩) (by assumption) ?hr68
    case hy68 => (intro _ hSw; (try dsimp only at hSw); obtain ⟨⟨y0, y1, y2, y3, y4, y5, y6⟩, -⟩ := cells7 hSw.1; go_simp <;> with_reducible rfl)
    simp only [Act.put, List.setIfInBounds_toArray, List.set_cons_zero, List.set_cons_succ]
    clear hHeld
    have hA4 : w2.drew.heap[fb]? = some (.cells #[.int .u8 0, .bool fc, .int .u8 (fk : Int), .bool fpf, .int .u8 (fns : Int), .int .u8 (fnr : Int), .string fi] TF (0, 0)) := hA3
    clear hA3
    generalize w2.drew = w3 at H3 hA4 ⊢
    have HS3 := Lib.hid (show w3.heap[fb]? = some (.cells #[.int .u8 0, .bool fc, .int .u8 (fk : Int), .bool fpf, .int .u8 (fns : Int), .int .u8 (fnr : Int), .string fi] TF (0, 0)) ∧ w3.heap[b.tb]? = some (.cells #[two b.ba, two b.bl, two b.bu, two b.bk, .bool x.bad] 46 (0, 0)) ∧ w3.heap[b.ba]? = some (.cells #[ptr b.p0, ptr b.p1] 28 (0, 0)) from ⟨hA4, H3.out.blk, H3.out.a⟩)
    have HF3 := Lib.hid (show b.p0 ≠ fb ∧ b.p1 ≠ fb ∧ (∀ g, q1.ownBlock = some g → g ≠ fb) from ⟨fun e => by have := HX.out.s0.lt; have := HFB.out; omega, fun e => by have := HX.out.s1.lt; have := HFB.out; omega, fun g hg e => by have := (HX.out.s1.q.lt g hg).2; have := HFB.out; omega⟩)
    clear hA4
    refine wpAnyH_ready (rs := [9, 10]) (by kernel_rfl) (by simp) ?_
    refine AllReadyH.cons (o := { dst := some 51, op := Go.Op.call { callee := Go.Callee.value (Go.Operand.func 24), args := #[Go.Operand.tmp 49, Go.Operand.tmp 50], argTypes := #[28, 25] }, type := 56, pos := "law.go:138", after := #[{ on := 7, ground := Go.Ground.data }, { on := 8, ground := Go.Ground.data }], guard := none }) rfl (fun K hK => ?_) (AllReadyH.cons (o := { dst := some 8, op := Go.Op.alloc 56, type := 0, pos := "law.go:138", after := #[], guard := none }) rfl (fun K hK => ?_) AllReadyH.nil)
    · go_simp
      refine (CH.out _ H3.out.s1).mono ?_
      rintro _ w4 ⟨rfl, u, hd⟩
      have HN := Lib.hid (H3.out.doB hd)
      have HS4 := Lib.hid (show w4.heap[fb]? = some (.cells #[.int .u8 0, .bool fc, .int .u8 (fk : Int), .bool fpf, .int .u8 (fns : Int), .int .u8 (fnr : Int), .string fi] TF (0, 0)) ∧ w4.heap[b.tb]? = some (.cells #[two b.ba, two b.bl, two b.bu, two b.bk, .bool x.bad] 46 (0, 0)) ∧ w4.heap[b.ba]? = some (.cells #[ptr b.p0, ptr b.p1] 28 (0, 0)) from ⟨hd.chg.stays HS3.out.1 (fun e => by rcases e with e | e; exact HF3.out.2.1 e.symm; exact HF3.out.2.2 _ e rfl), HN.out.blk, HN.out.a⟩)
      go_wp2_with fail
      refine hK.out _ _ HS4.out (fun hNext => ?_)
      clear hd CH H3 HS3 HF3
      clear hK K
      have hHeld := hNext
      clear hNext
      (try simp only [Act.put, List.setIfInBounds_toArray, List.set_cons_zero, List.set_cons_succ])
      refine wpAnyH_ready (rs := [10]) (by kernel_rfl) (by simp) ?_
      refine AllReadyH.cons (o := { dst := some 8, op := Go.Op.alloc 56, type := 0, pos := "law.go:138", after := #[], guard := none }) rfl (fun K hK => ?_) AllReadyH.nil
      go_simp
      refine hK.out _ _ ⟨stays HS4.out.1 (nest_below w4 [noM TA]), stays HS4.out.2.1 (nest_below w4 [noM TA]), stays HS4.out.2.2 (nest_below w4 [noM TA])⟩ (fun hNext => ?_)
      clear hHeld
      clear hK K
      have hHeld := hNext
      clear hNext
      (try simp only [Act.put, List.setIfInBounds_toArray, List.set_cons_zero, List.set_cons_succ])
      have H5 := Lib.hid (HN.out.on (show Below w4.heap.size w4 (w4.alloc (.cells #[.string mi, .bool false, .int .i64 (ma : Int), .bool false] TA (0, 0))) from nest_below w4 [_]))
      have hac : (w4.alloc (.cells #[.string mi, .bool false, .int .i64 (ma : Int), .bool false] TA (0, 0))).heap[w4.heap.size]? = some (.cells #[.string mi, .bool false, .int .i64 (ma : Int), .bool false] TA (0, 0)) := nest w4 [_] 0 _ rfl
      refine wpAnyH_ready (rs := [11]) (by kernel_rfl) (by simp) ?_
      refine AllReadyH.cons (o := { dst := none, op := Go.Op.store 56 (Go.Operand.tmp 8) (Go.Operand.tmp 51), type := 0, pos := "law.go:138", after := #[{ on := 10, ground := Go.Ground.data }, { on := 9, ground := Go.Ground.data }, { on := 9, ground := Go.Ground.chain }, { on := 0, ground := Go.Ground.phase }, { on := 1, ground := Go.Ground.phase }, { on := 2, ground := Go.Ground.phase }, { on := 3, ground := Go.Ground.phase }, { on := 4, ground := Go.Ground.phase }, { on := 5, ground := Go.Ground.phase }, { on := 6, ground := Go.Ground.phase }, { on := 7, ground := Go.Ground.phase }, { on := 8, ground := Go.Ground.phase }, { on := 9, ground := Go.Ground.phase }, { on := 10, ground := Go.Ground.phase }], guard := none }) rfl (fun K hK => ?_) AllReadyH.nil
      go_simp
      go_wp2_with fail
      refine hK.out _ _ ⟨stays HS4.out.1 (nest_below w4 [(.cells #[.string mi, .bool false, .int .i64 (ma : Int), .bool false] TA (0, 0))]), H5.out.blk, H5.out.a⟩ (fun hNext => ?_)
      clear hHeld
      clear hK K
      have hHeld := hNext
      clear hNext
      (try simp only [Act.put, List.setIfInBounds_toArray, List.set_cons_zero, List.set_cons_succ])
      refine wpAnyH_done (by kernel_rfl) ?_ _
      clear hHeld
      have HK2 := Lib.hid (show b.bk ≠ w4.heap.size from fun e => by have := lt_heap HN.out.k; omega)
      clear HS4 HN
      generalize w4.alloc (.cells #[.string mi, .bool false, .int .i64 (ma : Int), .bool false] TA (0, 0)) = w5 at H5 hac ⊢
      generalize w4.heap.size = ab at hac HK2 ⊢
      generalize retag w3 tag2 6 = tag5 at H5
      obtain ⟨⟨a0, a1, a2, a3⟩, af⟩ := cells4 hac
      go_wp2
      go_ret
      exact ⟨rfl, _, _, _, _, _, H5.out⟩
    · go_simp
      refine hK.out _ _ ⟨stays HS3.out.1 (nest_below w3 [noM TA]), stays HS3.out.2.1 (nest_below w3 [noM TA]), stays HS3.out.2.2 (nest_below w3 [noM TA])⟩ (fun hNext => ?_)
      clear hK K
      have hHeld := hNext
      clear hNext
      (try simp only [Act.put, List.setIfInBounds_toArray, List.set_cons_zero, List.set_cons_succ])
      have H4 := Lib.hid ((H3.out.mark 9).on (show Below w3.heap.size w3 (w3.alloc (noM TA)) from nest_below w3 [_]))
      have HT4 := Lib.hid (show retag w3 tag2 9 w3.heap.size = 9 from retag_new (Nat.le_refl _))
      generalize retag w3 tag2 9 = tag4 at H4 HT4
      have hn4 : (w3.alloc (noM TA)).heap[w3.heap.size]? = some (noM TA) := nest w3 [_] 0 _ rfl
      have hs4 := size_alloc w3 (noM TA)
      have HS4 := Lib.hid (show (w3.alloc (noM TA)).heap[fb]? = some (.cells #[.int .u8 0, .bool fc, .int .u8 (fk : Int), .bool fpf, .int .u8 (fns : Int), .int .u8 (fnr : Int), .string fi] TF (0, 0)) from stays HS3.out.1 (nest_below w3 [noM TA]))
      refine wpAnyH_ready (rs := [9]) (by kernel_rfl) (by simp) ?_
      refine AllReadyH.cons (o := { dst := some 51, op := Go.Op.call { callee := Go.Callee.value (Go.Operand.func 24), args := #[Go.Operand.tmp 49, Go.Operand.tmp 50], argTypes := #[28, 25] }, type := 56, pos := "law.go:138", after := #[{ on := 7, ground := Go.Ground.data }, { on := 8, ground := Go.Ground.data }], guard := none }) rfl (fun K hK => ?_) AllReadyH.nil
      go_simp
      refine (CH.out _ H4.out.s1).mono ?_
      rintro _ w4 ⟨rfl, u, hd⟩
      have HN := Lib.hid (H4.out.doB hd)
      have hn5 : w4.heap[w3.heap.size]? = some (noM TA) := hd.chg.stays hn4 (fun e => by
        rcases e with e | e
        · have := H4.out.t6; have := HT4.out; rw [e] at this; omega
        · have := H4.out.o1 _ e; have := HT4.out; omega)
      have hf5 : w4.heap[fb]? = some (.cells #[.int .u8 0, .bool fc, .int .u8 (fk : Int), .bool fpf, .int .u8 (fns : Int), .int .u8 (fnr : Int), .string fi] TF (0, 0)) := hd.chg.stays HS4.out (fun e => by
        rcases e with e | e
        · exact HF3.out.2.1 e.symm
        · exact HF3.out.2.2 _ e rfl)
      have htn : retag (w3.alloc (noM TA)) tag4 6 w3.heap.size = 9 := by rw [retag_old (by omega)]; exact HT4.out
      go_wp2_with fail
      refine hK.out _ _ ⟨hf5, HN.out.blk, HN.out.a⟩ (fun hNext => ?_)
      clear hd CH hHeld hn4
      clear hK K
      have hHeld := hNext
      clear hNext
      (try simp only [Act.put, List.setIfInBounds_toArray, List.set_cons_zero, List.set_cons_succ])
      obtain ⟨⟨y0, y1, y2, y3⟩, yf⟩ := cells4 hn5
      have hac : ((((w4.setCell ⟨w3.heap.size, 0, none⟩ (.string mi)).setCell ⟨w3.heap.size, 1, none⟩ (.bool false)).setCell ⟨w3.heap.size, 2, none⟩ (.int .i64 (ma : Int))).setCell ⟨w3.heap.size, 3, none⟩ (.bool false)).heap[w3.heap.size]? = some (.cells #[.string mi, .bool false, .int .i64 (ma : Int), .bool false] TA (0, 0)) := set4_at hn5 (.string mi) (.bool false) (.int .i64 (ma : Int)) (.bool false)
      have hcc : Chg (fun k => k = w3.heap.size) w4 ((((w4.setCell ⟨w3.heap.size, 0, none⟩ (.string mi)).setCell ⟨w3.heap.size, 1, none⟩ (.bool false)).setCell ⟨w3.heap.size, 2, none⟩ (.int .i64 (ma : Int))).setCell ⟨w3.heap.size, 3, none⟩ (.bool false)) := chg_set4 (S := fun k => k = w3.heap.size) (Chg.refl _ w4) (fun _ => rfl) _ _ _ _
      have H5 := Lib.hid (HN.out.other hcc htn H3.out.below.size)
      refine wpAnyH_ready (rs := [11]) (by kernel_rfl) (by simp) ?_
      refine AllReadyH.cons (o := { dst := none, op := Go.Op.store 56 (Go.Operand.tmp 8) (Go.Operand.tmp 51), type := 0, pos := "law.go:138", after := #[{ on := 10, ground := Go.Ground.data }, { on := 9, ground := Go.Ground.data }, { on := 9, ground := Go.Ground.chain }, { on := 0, ground := Go.Ground.phase }, { on := 1, ground := Go.Ground.phase }, { on := 2, ground := Go.Ground.phase }, { on := 3, ground := Go.Ground.phase }, { on := 4, ground := Go.Ground.phase }, { on := 5, ground := Go.Ground.phase }, { on := 6, ground := Go.Ground.phase }, { on := 7, ground := Go.Ground.phase }, { on := 8, ground := Go.Ground.phase }, { on := 9, ground := Go.Ground.phase }, { on := 10, ground := Go.Ground.phase }], guard := none }) rfl (fun K hK => ?_) AllReadyH.nil
      go_simp
      go_wp2_with fail
      refine hK.out _ _ ⟨hcc.stays hf5 (fun e => by have := lt_heap HS3.out.1; omega), H5.out.blk, H5.out.a⟩ (fun hNext => ?_)
      clear hHeld
      clear hK K
      have hHeld := hNext
      clear hNext
      (try simp only [Act.put, List.setIfInBounds_toArray, List.set_cons_zero, List.set_cons_succ])
      refine wpAnyH_done (by kernel_rfl) ?_ _
      clear hHeld
      have HK2 := Lib.hid (show b.bk ≠ w3.heap.size from fun e => by have := lt_heap H3.out.k; omega)
      clear HS3 HF3 HS4 HN H4 HT4 hn5 hf5 htn hcc y0 y1 y2 y3 yf hs4 H3
      generalize ((((w4.setCell ⟨w3.heap.size, 0, none⟩ (.string mi)).setCell ⟨w3.heap.size, 1, none⟩ (.bool false)).setCell ⟨w3.heap.size, 2, none⟩ (.int .i64 (ma : Int))).setCell ⟨w3.heap.size, 3, none⟩ (.bool false)) = w5 at H5 hac ⊢
      generalize w3.heap.size = ab at hac HK2 ⊢
      generalize retag (w3.alloc (noM TA)) tag4 6 = tag5 at H5
      obtain ⟨⟨a0, a1, a2, a3⟩, af⟩ := cells4 hac
      go_wp2
      go_ret
      exact ⟨rfl, _, _, _, _, _, H5.out⟩
set_option maxHeartbeats 16000000 in
set_option maxRecDepth 100000 in
theorem fhand0_yes (w0 w : World) (b : Bk) (x : Pr) (N : Nat) (h : PrE w0 b x w) (hI : Inv N x.B) (fc : Bool) (fk : Nat) (fpf : Bool) (fns fnr : Nat) (fi : ByteArray) (j rr : Nat) (r : List Gf) (hL : x.L0 = ⟨⟨fc, fk, fpf, fns, fnr, fi⟩, j, rr⟩ :: r) (hns : fns < 256) (hnr : fnr < 256) (X2 : Sd) (mi : ByteArray) (ma : Nat) (hh : hear ⟨fc, fk, fpf, fns, fnr, fi⟩ x.B = (X2, ⟨mi, true, ma, false⟩)) (hm : mi = inf x.k0) (hkb : x.k0 ≤ 1000000) :
    Calls Try.prog 38 #[ptr b.tb, .int .i64 0, .bool false] w fun e w' => e = .returned (.bool true) ∧ PrE w0 b { x with B := X2, L0 := r, k0 := x.k0 + 1 } w' := by
  have HM := Lib.hid hm
  have HKB := Lib.hid hkb
  have HCH : Hid (∀ (w' : World) (u : Value), PAt w' b.p1 (Ps.of x.B) u → Calls Try.prog 24 #[ptr b.p1, fmvd 0 ⟨fc, fk, fpf, fns, fnr, fi⟩] w' fun e w'' => e = .returned (.agg #[.string mi, .bool true, .int .i64 (ma : Int), .bool false]) ∧ ∃ u', QDo b.p1 (Ps.of X2) u u' w' w'') := Lib.hid fun w' u h' => by
    have := fhear w' b.p1 0 (Ps.of x.B) u ⟨fc, fk, fpf, fns, fnr, fi⟩ h' hI.pfit hns hnr
    rw [hear_of _ x.B hI.ord, hh] at this
    exact this
  have vw0 : IntKind.i64.wrap 0 = 0 := by decide
  have vw1 : IntKind.i64.wrap 1 = 1 := by decide
  clear hI hns hnr hh hm hkb
  obtain ⟨q0, q1, v0, v1, tag, h⟩ := h
  have CH : Hid (∀ w' : World, PAt w' b.p1 (Ps.of x.B) q1 → Calls Try.prog 24 #[ptr b.p1, fmvd 0 ⟨fc, fk, fpf, fns, fnr, fi⟩] w' fun e w'' => e = .returned (.agg #[.string mi, .bool true, .int .i64 (ma : Int), .bool false]) ∧ ∃ u', QDo b.p1 (Ps.of X2) q1 u' w' w'') := Lib.hid fun w' => HCH.out w' q1
  clear HCH
  have c1 : w.cell? ⟨b.tb, 1, none⟩ = some (two b.bl) := cell_of h.blk rfl
  obtain ⟨oa, cap, hv⟩ := h.l0.form
  have hql : Qz 7 fcF w w0.heap.size v0 ((⟨fc, fk, fpf, fns, fnr, fi⟩ : Fm) :: r.map Gf.f) := by have := h.l0; rw [hL] at this; exact this
  rw [hL, List.map_cons, List.length_cons, List.length_map] at hv
  rw [hv] at hql
  obtain ⟨g, off, ho, hn, hcap, hmax, hbg, hgw, ⟨e0, e1, e2, e3, e4, e5, e6⟩, hq⟩ := qz7_cons hql
  subst ho
  dsimp only at e1 e2 e3 e4 e5 e6
  have cl : w.cell? ⟨b.bl, 0, none⟩ = some (.slice (some ⟨g, off, none⟩) (r.length + 1) cap) := by rw [← hv]; exact cell_of h.l rfl
  obtain ⟨z, hz⟩ : ∃ z, r.length = z := ⟨_, rfl⟩
  rw [List.length_map] at hq
  rw [hz] at hcap hq cl hv
  have HV := Lib.hid hv
  have HQ := Lib.hid hq
  have HX := Lib.hid h
  have z0 : ((z + 1 : Nat) : Int) = (z : Int) + 1 := by omega
  have z1 : ¬ (z : Int) + 1 = 0 := by omega
  have z2 : decide ((0 : Int) < (z : Int) + 1) = true := decide_eq_true (by omega)
  have z3 : (((z : Int) + 1) == 0) = false := beq_false (by omega)
  have z4 : (0 : Int) < (z : Int) + 1 := by omega
  have z5 : (1 : Int) ≤ (z : Int) + 1 := by omega
  have hbl := lt_heap h.l
  have htb := lt_heap h.blk
  have hne : b.tb ≠ b.bl := fun e => by have := h.t0; have := h.tl; rw [e] at *; omega
  clear h hL hv hq hql hn hz
  go_enter Try.func38, Try.ntmps38
  go_wp2_with fail
  have H1 : Hid (PrAt w0 b x q0 q1 v0 v1 tag (w.alloc (.cells #[.int .u8 0, .bool fc, .int .u8 (fk : Int), .bool fpf, .int .u8 (fns : Int), .int .u8 (fnr : Int), .string fi] TF (0, 0))).drew) := Lib.hid (HX.out.on ((show Below w.heap.size w (w.alloc (.cells #[.int .u8 0, .bool fc, .int .u8 (fk : Int), .bool fpf, .int .u8 (fns : Int), .int .u8 (fnr : Int), .string fi] TF (0, 0))) from nest_below w [_]).drew))
  have HQ1 : Hid (Qz 7 fcF (w.alloc (.cells #[.int .u8 0, .bool fc, .int .u8 (fk : Int), .bool fpf, .int .u8 (fns : Int), .int .u8 (fnr : Int), .string fi] TF (0, 0))).drew w0.heap.size (.slice (if cap = 1 then some ⟨g, off, none⟩ else some ⟨g, off + 7, none⟩) z (cap - 1)) (r.map Gf.f)) := Lib.hid (HQ.out.below ((show Below w.heap.size w (w.alloc (.cells #[.int .u8 0, .bool fc, .int .u8 (fk : Int), .bool fpf, .int .u8 (fns : Int), .int .u8 (fnr : Int), .string fi] TF (0, 0))) from nest_below w [_]).drew))
  have hA1 : (w.alloc (.cells #[.int .u8 0, .bool fc, .int .u8 (fk : Int), .bool fpf, .int .u8 (fns : Int), .int .u8 (fnr : Int), .string fi] TF (0, 0))).drew.heap[w.heap.size]? = some (.cells #[.int .u8 0, .bool fc, .int .u8 (fk : Int), .bool fpf, .int .u8 (fns : Int), .int .u8 (fnr : Int), .string fi] TF (0, 0)) := nest w [_] 0 _ rfl
  obtain ⟨fb, hfb⟩ : ∃ n, n = w.heap.size := ⟨_, rfl⟩
  have HFB := Lib.hid hfb
  rw [← hfb] at hA1 hbl htb
  simp only [← hfb]
  clear hfb e0 e1 e2 e3 e4 e5 e6 hgw HQ c1 cl
  generalize hw1 : (w.alloc (.cells #[.int .u8 0, .bool fc, .int .u8 (fk : Int), .bool fpf, .int .u8 (fns : Int), .int .u8 (fnr : Int), .string fi] TF (0, 0))).drew = w1 at H1 HQ1 hA1
  have b2 : w1.cell? ⟨b.bl, 0, none⟩ = some (.slice (some ⟨g, off, none⟩) (z + 1) cap) := by rw [← HV.out]; exact cell_of H1.out.l rfl
  have f2 : ∀ i, w1.frozen? ⟨b.bl, i, none⟩ = false := fun _ => free_of H1.out.l
  have HTB := Lib.hid H1.out.blk
  refine wp_region_held_drew (S := (fun w' => w'.heap[b.tb]? = some (.cells #[two b.ba, two b.bl, two b.bu, two b.bk, .bool x.bad] 46 (0, 0)))) (by kernel_rfl) (hw1 ▸ HTB.out) (fun hHeld => ?_)
  refine' wpAnyH_take (i := 0) (oi := { dst := some 27, op := Go.Op.move (Go.Operand.tmp 0), type := 40, pos := "law.go:134", after := #[], guard := none }) (v := _) rfl (by kernel_rfl) (by kernel_rfl) (by kernel_rfl) (fun _ _ _ h => h) (Or.inl ⟨by rfl, ?hy89⟩) (by assumption) ?hr89
  case hy89 => (intro _ hSw; (try dsimp only at hSw); go_simp <;> with_reducible rfl)
  simp only [Act.put, List.setIfInBounds_toArray, List.set_cons_zero, List.set_cons_succ]
  refine' wpAnyH_take (i := 1) (oi := { dst := some 28, op := Go.Op.nilCheck (Go.Operand.tmp 27), type := 0, pos := "law.go:134", after := #[{ on := 0, ground := Go.Ground.data }], guard := none }) (v := _) rfl (by kernel_rfl) (by kernel_rfl) (by kernel_rfl) (fun _ _ _ h => h) (Or.inl ⟨by rfl, ?hy90⟩) (by assumption) ?hr90
  case hy90 => (intro _ hSw; (try dsimp only at hSw); go_simp <;> with_reducible rfl)
  simp only [Act.put, List.setIfInBounds_toArray, List.set_cons_zero, List.set_cons_succ]
  refine' wpAnyH_take (i := 2) (oi := { dst := some 29, op := Go.Op.fieldAddr 46 (Go.Operand.tmp 28) 1, type := 0, pos := "law.go:134", after := #[{ on := 1, ground := Go.Ground.data }], guard := none }) (v := _) rfl (by kernel_rfl) (by kernel_rfl) (by kernel_rfl) (fun _ _ _ h => h) (Or.inl ⟨by rfl, ?hy91⟩) (by assumption) ?hr91
  case hy91 => (intro _ hSw; (try dsimp only at hSw); go_simp <;> with_reducible rfl)
  simp only [Act.put, List.setIfInBounds_toArray, List.set_cons_zero, List.set_cons_succ]
  refine' wpAnyH_take (i := 3) (oi := { dst := some 30, op := Go.Op.load 43 (Go.Operand.tmp 29), type := 43, pos := "law.go:134", after := #[{ on := 2, ground := Go.Ground.data }], guard := none }) (v := _) rfl (by kernel_rfl) (by kernel_rfl) (by kernel_rfl) (fun _ _ _ h => h) (Or.inl ⟨by rfl, ?hy92⟩) (by assumption) ?hr92
  case hy92 => (intro _ hSw; (try dsimp only at hSw); have hc := cell_of (i := 1) (v := two b.bl) hSw rfl; go_simp <;> with_reducible rfl)
  simp only [Act.put, List.setIfInBounds_toArray, List.set_cons_zero, List.set_cons_succ]
  refine' wpAnyH_take (i := 4) (oi := { dst := some 31, op := Go.Op.move (Go.Operand.tmp 1), type := 3, pos := "law.go:134", after := #[], guard := none }) (v := _) rfl (by kernel_rfl) (by kernel_rfl) (by kernel_rfl) (fun _ _ _ h => h) (Or.inl ⟨by rfl, ?hy93⟩) (by assumption) ?hr93
  case hy93 => (intro _ hSw; (try dsimp only at hSw); go_simp <;> with_reducible rfl)
  simp only [Act.put, List.setIfInBounds_toArray, List.set_cons_zero, List.set_cons_succ]
  refine' wpAnyH_take (i := 5) (oi := { dst := some 32, op := Go.Op.move (Go.Operand.tmp 0), type := 40, pos := "law.go:134", after := #[], guard := none }) (v := _) rfl (by kernel_rfl) (by kernel_rfl) (by kernel_rfl) (fun _ _ _ h => h) (Or.inl ⟨by rfl, ?hy94⟩) (by assumption) ?hr94
  case hy94 => (intro _ hSw; (try dsimp only at hSw); go_simp <;> with_reducible rfl)
  simp only [Act.put, List.setIfInBounds_toArray, List.set_cons_zero, List.set_cons_succ]
  refine' wpAnyH_take (i := 6) (oi := { dst := some 33, op := Go.Op.nilCheck (Go.Operand.tmp 32), type := 0, pos := "law.go:134", after := #[{ on := 5, ground := Go.Ground.data }], guard := none }) (v := _) rfl (by kernel_rfl) (by kernel_rfl) (by kernel_rfl) (fun _ _ _ h => h) (Or.inl ⟨by rfl, ?hy95⟩) (by assumption) ?hr95
  case hy95 => (intro _ hSw; (try dsimp only at hSw); go_simp <;> with_reducible rfl)
  simp only [Act.put, List.setIfInBounds_toArray, List.set_cons_zero, List.set_cons_succ]
  refine' wpAnyH_take (i := 7) (oi := { dst := some 34, op := Go.Op.fieldAddr 46 (Go.Operand.tmp 33) 1, type := 0, pos := "law.go:134", after := #[{ on := 6, ground := Go.Ground.data }], guard := none }) (v := _) rfl (by kernel_rfl) (by kernel_rfl) (by kernel_rfl) (fun _ _ _ h => h) (Or.inl ⟨by rfl, ?hy96⟩) (by assumption) ?hr96
  case hy96 => (intro _ hSw; (try dsimp only at hSw); go_simp <;> with_reducible rfl)
  simp only [Act.put, List.setIfInBounds_toArray, List.set_cons_zero, List.set_cons_succ]
  refine' wpAnyH_take (i := 8) (oi := { dst := some 35, op := Go.Op.load 43 (Go.Operand.tmp 34), type := 43, pos := "law.go:134", after := #[{ on := 7, ground := Go.Ground.data }], guard := none }) (v := _) rfl (by kernel_rfl) (by kernel_rfl) (by kernel_rfl) (fun _ _ _ h => h) (Or.inl ⟨by rfl, ?hy97⟩) (by assumption) ?hr97
  case hy97 => (intro _ hSw; (try dsimp only at hSw); have hc := cell_of (i := 1) (v := two b.bl) hSw rfl; go_simp <;> with_reducible rfl)
  simp only [Act.put, List.setIfInBounds_toArray, List.set_cons_zero, List.set_cons_succ]
  refine' wpAnyH_take (i := 9) (oi := { dst := some 36, op := Go.Op.move (Go.Operand.tmp 1), type := 3, pos := "law.go:134", after := #[], guard := none }) (v := _) rfl (by kernel_rfl) (by kernel_rfl) (by kernel_rfl) (fun _ _ _ h => h) (Or.inl ⟨by rfl, ?hy98⟩) (by assumption) ?hr98
  case hy98 => (intro _ hSw; (try dsimp only at hSw); go_simp <;> with_reducible rfl)
  simp only [Act.put, List.setIfInBounds_toArray, List.set_cons_zero, List.set_cons_succ]
  refine' wpAnyH_take (i := 10) (oi := { dst := some 37, op := Go.Op.indexAddr 43 (Go.Operand.tmp 35) (Go.Operand.tmp 36), type := 0, pos := "law.go:134", after := #[{ on := 8, ground := Go.Ground.data }, { on := 9, ground := Go.Ground.data }], guard := none }) (v := _) rfl (by kernel_rfl) (by kernel_rfl) (by kernel_rfl) (fun _ _ _ h => h) (Or.inl ⟨by rfl, ?hy99⟩) (by assumption) ?hr99
  case hy99 => (intro _ hSw; (try dsimp only at hSw); go_simp <;> with_reducible rfl)
  simp only [Act.put, List.setIfInBounds_toArray, List.set_cons_zero, List.set_cons_succ]
  rw [hw1]
  clear hw1
  refine wpAnyH_ready (rs := [11]) (by kernel_rfl) (by simp) ?_
  refine AllReadyH.cons (o := { dst := some 38, op := Go.Op.load 88 (Go.Operand.tmp 37), type := 88, pos := "law.go:134", after := #[{ on := 10, ground := Go.Ground.data }], guard := none }) rfl (fun K hK => ?_) AllReadyH.nil
  go_simp
  refine hK.out _ _ HTB.out (fun hNext => ?_)
  clear hHeld
  clear hK K
  have hHeld := hNext
  clear hNext
  (try simp only [Act.put, List.setIfInBounds_toArray, List.set_cons_zero, List.set_cons_succ])
  by_cases hc1 : cap = 1
  · rw [if_pos hc1] at HQ1
    subst hc1
    obtain rfl : z = 0 := by omega
    refine' wpAnyH_take (i := 12) (oi := { dst := some 39, op := Go.Op.slice 88 (Go.Operand.tmp 38) (some (Go.Operand.const (Go.Value.int Go.IntKind.i64 1))) none none, type := 88, pos := "law.go:134", after := #[{ on := 11, ground := Go.Ground.data }], guard := none }) (v := _) rfl (by kernel_rfl) (by kernel_rfl) (by kernel_rfl) (fun _ _ _ h => h) (Or.inl ⟨by rfl, ?hy100⟩) (by assumption) ?hr100
    case hy100 => (intro _ hSw; (try dsimp only at hSw); go_simp <;> with_reducible rfl)
    simp only [Act.put, List.setIfInBounds_toArray, List.set_cons_zero, List.set_cons_succ]
    refine' wpAnyH_take (i := 13) (oi := { dst := some 40, op := Go.Op.indexAddr 43 (Go.Operand.tmp 30) (Go.Operand.tmp 31), type := 0, pos := "law.go:134", after := #[{ on := 3, ground := Go.Ground.data }, { on := 4, ground := Go.Ground.data }, { on := 0, ground := Go.Ground.phase }, { on := 1, ground := Go.Ground.phase }, { on := 2, ground := Go.Ground.phase }, { on := 3, ground := Go.Ground.phase }, { on := 4, ground := Go.Ground.phase }, { on := 5, ground := Go.Ground.phase }, { on := 6, ground := Go.Ground.phase }, { on := 7, ground := Go.Ground.phase }, { on := 8, ground := Go.Ground.phase }, { on := 9, ground := Go.Ground.phase }, { on := 10, ground := Go.Ground.phase }, { on := 11, ground := Go.Ground.phase }, { on := 12, ground := Go.Ground.phase }], guard := none }) (v := _) rfl (by kernel_rfl) (by kernel_rfl) (by kernel_rfl) (fun _ _ _ h => h) (Or.inl ⟨by rfl, ?hy101⟩) (by assumption) ?hr101
    case hy101 => (intro _ hSw; (try dsimp only at hSw); go_simp <;> with_reducible rfl)
    simp only [Act.put, List.setIfInBounds_toArray, List.set_cons_zero, List.set_cons_succ]
    refine wpAnyH_ready (rs := [14]) (by kernel_rfl) (by simp) ?_
    refine AllReadyH.cons (o := { dst := none, op := Go.Op.store 88 (Go.Operand.tmp 40) (Go.Operand.tmp 39), type := 0, pos := "law.go:134", after := #[{ on := 13, ground := Go.Ground.data }, { on := 12, ground := Go.Ground.data }, { on := 0, ground := Go.Ground.phase }, { on := 1, ground := Go.Ground.phase }, { on := 2, ground := Go.Ground.phase }, { on := 3, ground := Go.Ground.phase }, { on := 4, ground := Go.Ground.phase }, { on := 5, ground := Go.Ground.phase }, { on := 6, ground := Go.Ground.phase }, { on := 7, ground := Go.Ground.phase }, { on := 8, ground := Go.Ground.phase }, { on := 9, ground := Go.Ground.phase }, { on := 10, ground := Go.Ground.phase }, { on := 11, ground := Go.Ground.phase }, { on := 12, ground := Go.Ground.phase }], guard := none }) rfl (fun K hK => ?_) AllReadyH.nil
    go_simp
    refine hK.out _ _ ((set_other hne _).trans HTB.out) (fun hNext => ?_)
    clear hNext hHeld
    refine wpAnyH_done (by kernel_rfl) ?_ _
    clear hK K
    have hgr : w1.grownBy w1 v0.ownBlock := ⟨rfl, rfl, rfl, Nat.le_refl _, fun _ _ _ => rfl⟩
    have how : (Value.ownBlock (.slice (some ⟨g, off, none⟩) 0 0)) = v0.ownBlock := by rw [HV.out]; rfl
    have H2 := Lib.hid (H1.out.put0 hgr HQ1.out (Or.inl how))
    have hA2 : (w1.setCell ⟨b.bl, 0, none⟩ (.slice (some ⟨g, off, none⟩) 0 0)).heap[fb]? = some (.cells #[.int .u8 0, .bool fc, .int .u8 (fk : Int), .bool fpf, .int .u8 (fns : Int), .int .u8 (fnr : Int), .string fi] TF (0, 0)) := (set_other (by omega) _).trans hA1
    clear HQ1 H1 hA1 b2 f2 HTB hgr how
    generalize w1.setCell ⟨b.bl, 0, none⟩ (.slice (some ⟨g, off, none⟩) 0 0) = w2 at H2 hA2 ⊢
    generalize retag w1 tag 7 = tag2 at H2
    go_wp2_with fail
    have H3 := Lib.hid (H2.out.on (w' := w2.drew) ⟨rfl, rfl, rfl, Nat.le_refl _, fun _ _ => rfl⟩)
    have hA3 : w2.drew.heap[fb]? = some (.cells #[.int .u8 0, .bool fc, .int .u8 (fk : Int), .bool fpf, .int .u8 (fns : Int), .int .u8 (fnr : Int), .string fi] TF (0, 0)) := hA2
    clear H2 hA2
    refine wp_region_held_drew (S := (fun w' => w'.heap[fb]? = some (.cells #[.int .u8 0, .bool fc, .int .u8 (fk : Int), .bool fpf, .int .u8 (fns : Int), .int .u8 (fnr : Int), .string fi] TF (0, 0)) ∧ w'.heap[b.tb]? = some (.cells #[two b.ba, two b.bl, two b.bu, two b.bk, .bool x.bad] 46 (0, 0)) ∧ w'.heap[b.ba]? = some (.cells #[ptr b.p0, ptr b.p1] 28 (0, 0)))) (by kernel_rfl) ⟨hA3, H3.out.blk, H3.out.a⟩ (fun hHeld => ?_)
    refine' wpAnyH_take (i := 0) (oi := { dst := some 42, op := Go.Op.move (Go.Operand.tmp 0), type := 40, pos := "law.go:138", after := #[], guard := none }) (v := _) rfl (by kernel_rfl) (by kernel_rfl) (by kernel_rfl) (fun _ _ _ h => h) (Or.inl ⟨by rfl, ?hy102⟩) (by assumption) ?hr102
    case hy102 => (intro _ hSw; (try dsimp only at hSw); go_simp <;> with_reducible rfl)
    simp only [Act.put, List.setIfInBounds_toArray, List.set_cons_zero, List.set_cons_succ]
    refine' wpAnyH_take (i := 1) (oi := { dst := some 43, op := Go.Op.nilCheck (Go.Operand.tmp 42), type := 0, pos := "law.go:138", after := #[{ on := 0, ground := Go.Ground.data }], guard := none }) (v := _) rfl (by kernel_rfl) (by kernel_rfl) (by kernel_rfl) (fun _ _ _ h => h) (Or.inl ⟨by rfl, ?hy103⟩) (by assumption) ?hr103
    case hy103 => (intro _ hSw; (try dsimp only at hSw); go_simp <;> with_reducible rfl)
    simp only [Act.put, List.setIfInBounds_toArray, List.set_cons_zero, List.set_cons_succ]
    refine' wpAnyH_take (i := 2) (oi := { dst := some 44, op := Go.Op.fieldAddr 46 (Go.Operand.tmp 43) 0, type := 0, pos := "law.go:138", after := #[{ on := 1, ground := Go.Ground.data }], guard := none }) (v := _) rfl (by kernel_rfl) (by kernel_rfl) (by kernel_rfl) (fun _ _ _ h => h) (Or.inl ⟨by rfl, ?hy104⟩) (by assumption) ?hr104
    case hy104 => (intro _ hSw; (try dsimp only at hSw); go_simp <;> with_reducible rfl)
    simp only [Act.put, List.setIfInBounds_toArray, List.set_cons_zero, List.set_cons_succ]
    refine' wpAnyH_take (i := 3) (oi := { dst := some 45, op := Go.Op.load 42 (Go.Operand.tmp 44), type := 42, pos := "law.go:138", after := #[{ on := 2, ground := Go.Ground.data }], guard := none }) (v := _) rfl (by kernel_rfl) (by kernel_rfl) (by kernel_rfl) (fun _ _ _ h => h) (Or.inl ⟨by rfl, ?hy105⟩) (by assumption) ?hr105
    case hy105 => (intro _ hSw; (try dsimp only at hSw); have hc := cell_of (i := 0) (v := two b.ba) hSw.2.1 rfl; go_simp <;> with_reducible rfl)
    simp only [Act.put, List.setIfInBounds_toArray, List.set_cons_zero, List.set_cons_succ]
    refine' wpAnyH_take (i := 4) (oi := { dst := some 46, op := Go.Op.move (Go.Operand.tmp 1), type := 3, pos := "law.go:138", after := #[], guard := none }) (v := _) rfl (by kernel_rfl) (by kernel_rfl) (by kernel_rfl) (fun _ _ _ h => h) (Or.inl ⟨by rfl, ?hy106⟩) (by assumption) ?hr106
    case hy106 => (intro _ hSw; (try dsimp only at hSw); go_simp <;> with_reducible rfl)
    simp only [Act.put, List.setIfInBounds_toArray, List.set_cons_zero, List.set_cons_succ]
    refine' wpAnyH_take (i := 5) (oi := { dst := some 47, op := Go.Op.binOp Go.BinOp.sub 3 (Go.Operand.const (Go.Value.int Go.IntKind.i64 1)) (Go.Operand.tmp 46) 3, type := 3, pos := "law.go:138", after := #[{ on := 4, ground := Go.Ground.data }], guard := none }) (v := _) rfl (by kernel_rfl) (by kernel_rfl) (by kernel_rfl) (fun _ _ _ h => h) (Or.inl ⟨by rfl, ?hy107⟩) (by assumption) ?hr107
    case hy107 => (intro _ hSw; (try dsimp only at hSw); go_simp <;> with_reducible rfl)
    simp only [Act.put, List.setIfInBounds_toArray, List.set_cons_zero, List.set_cons_succ]
    refine' wpAnyH_take (i := 6) (oi := { dst := some 48, op := Go.Op.indexAddr 42 (Go.Operand.tmp 45) (Go.Operand.tmp 47), type := 0, pos := "law.go:138", after := #[{ on := 3, ground := Go.Ground.data }, { on := 5, ground := Go.Ground.data }], guard := none }) (v := _) rfl (by kernel_rfl) (by kernel_rfl) (by kernel_rfl) (fun _ _ _ h => h) (Or.inl ⟨by rfl, ?hy108⟩) (by assumption) ?hr108
    case hy108 => (intro _ hSw; (try dsimp only at hSw); go_simp <;> with_reducible rfl)
    simp only [Act.put, List.setIfInBounds_toArray, List.set_cons_zero, List.set_cons_succ]
    refine' wpAnyH_take (i := 7) (oi := { dst := some 49, op := Go.Op.load 28 (Go.Operand.tmp 48), type := 28, pos := "law.go:138", after := #[{ on := 6, ground := Go.Ground.data }], guard := none }) (v := _) rfl (by kernel_rfl) (by kernel_rfl) (by kernel_rfl) (fun _ _ _ h => h) (Or.inl ⟨by rfl, ?hy109⟩) (by assumption) ?hr109
    case hy109 => (intro _ hSw; (try dsimp only at hSw); have hc := cell_of (i := 1) (v := ptr b.p1) hSw.2.2 rfl; go_simp <;> with_reducible rfl)
    simp only [Act.put, List.setIfInBounds_toArray, List.set_cons_zero, List.set_cons_succ]
    refine' wpAnyH_take (i := 8) (oi := { dst := some 50, op := Go.Op.load 25 (Go.Operand.tmp 7), type := 25, pos := "law.go:138", after := #[], guard := none }) (v := _) rfl (by kernel_rfl) (by kernel_rfl) (by kernel_rfl) (fun _ _ _ h => h) (Or.inl ⟨by rfl, ?hy110⟩) (by assumption) ?hr110
    case hy110 => (intro _ hSw; (try dsimp only at hSw); obtain ⟨⟨y0, y1, y2, y3, y4, y5, y6⟩, -⟩ := cells7 hSw.1; go_simp <;> with_reducible rfl)
    simp only [Act.put, List.setIfInBounds_toArray, List.set_cons_zero, List.set_cons_succ]
    clear hHeld
    have hA4 : w2.drew.heap[fb]? = some (.cells #[.int .u8 0, .bool fc, .int .u8 (fk : Int), .bool fpf, .int .u8 (fns : Int), .int .u8 (fnr : Int), .string fi] TF (0, 0)) := hA3
    clear hA3
    generalize w2.drew = w3 at H3 hA4 ⊢
    have HS3 := Lib.hid (show w3.heap[fb]? = some (.cells #[.int .u8 0, .bool fc, .int .u8 (fk : Int), .bool fpf, .int .u8 (fns : Int), .int .u8 (fnr : Int), .string fi] TF (0, 0)) ∧ w3.heap[b.tb]? = some (.cells #[two b.ba, two b.bl, two b.bu, two b.bk, .bool x.bad] 46 (0, 0)) ∧ w3.heap[b.ba]? = some (.cells #[ptr b.p0, ptr b.p1] 28 (0, 0)) from ⟨hA4, H3.out.blk, H3.out.a⟩)
    have HF3 := Lib.hid (show b.p0 ≠ fb ∧ b.p1 ≠ fb ∧ (∀ g, q1.ownBlock = some g → g ≠ fb) from ⟨fun e => by have := HX.out.s0.lt; have := HFB.out; omega, fun e => by have := HX.out.s1.lt; have := HFB.out; omega, fun g hg e => by have := (HX.out.s1.q.lt g hg).2; have := HFB.out; omega⟩)
    clear hA4
    refine wpAnyH_ready (rs := [9, 10]) (by kernel_rfl) (by simp) ?_
    refine AllReadyH.cons (o := { dst := some 51, op := Go.Op.call { callee := Go.Callee.value (Go.Operand.func 24), args := #[Go.Operand.tmp 49, Go.Operand.tmp 50], argTypes := #[28, 25] }, type := 56, pos := "law.go:138", after := #[{ on := 7, ground := Go.Ground.data }, { on := 8, ground := Go.Ground.data }], guard := none }) rfl (fun K hK => ?_) (AllReadyH.cons (o := { dst := some 8, op := Go.Op.alloc 56, type := 0, pos := "law.go:138", after := #[], guard := none }) rfl (fun K hK => ?_) AllReadyH.nil)
    · go_simp
      refine (CH.out _ H3.out.s1).mono ?_
      rintro _ w4 ⟨rfl, u, hd⟩
      have HN := Lib.hid (H3.out.doB hd)
      have HS4 := Lib.hid (show w4.heap[fb]? = some (.cells #[.int .u8 0, .bool fc, .int .u8 (fk : Int), .bool fpf, .int .u8 (fns : Int), .int .u8 (fnr : Int), .string fi] TF (0, 0)) ∧ w4.heap[b.tb]? = some (.cells #[two b.ba, two b.bl, two b.bu, two b.bk, .bool x.bad] 46 (0, 0)) ∧ w4.heap[b.ba]? = some (.cells #[ptr b.p0, ptr b.p1] 28 (0, 0)) from ⟨hd.chg.stays HS3.out.1 (fun e => by rcases e with e | e; exact HF3.out.2.1 e.symm; exact HF3.out.2.2 _ e rfl), HN.out.blk, HN.out.a⟩)
      go_wp2_with fail
      refine hK.out _ _ HS4.out (fun hNext => ?_)
      clear hd CH H3 HS3 HF3
      clear hK K
      have hHeld := hNext
      clear hNext
      (try simp only [Act.put, List.setIfInBounds_toArray, List.set_cons_zero, List.set_cons_succ])
      refine wpAnyH_ready (rs := [10]) (by kernel_rfl) (by simp) ?_
      refine AllReadyH.cons (o := { dst := some 8, op := Go.Op.alloc 56, type := 0, pos := "law.go:138", after := #[], guard := none }) rfl (fun K hK => ?_) AllReadyH.nil
      go_simp
      refine hK.out _ _ ⟨stays HS4.out.1 (nest_below w4 [noM TA]), stays HS4.out.2.1 (nest_below w4 [noM TA]), stays HS4.out.2.2 (nest_below w4 [noM TA])⟩ (fun hNext => ?_)
      clear hHeld
      clear hK K
      have hHeld := hNext
      clear hNext
      (try simp only [Act.put, List.setIfInBounds_toArray, List.set_cons_zero, List.set_cons_succ])
      have H5 := Lib.hid (HN.out.on (show Below w4.heap.size w4 (w4.alloc (.cells #[.string mi, .bool true, .int .i64 (ma : Int), .bool false] TA (0, 0))) from nest_below w4 [_]))
      have hac : (w4.alloc (.cells #[.string mi, .bool true, .int .i64 (ma : Int), .bool false] TA (0, 0))).heap[w4.heap.size]? = some (.cells #[.string mi, .bool true, .int .i64 (ma : Int), .bool false] TA (0, 0)) := nest w4 [_] 0 _ rfl
      refine wpAnyH_ready (rs := [11]) (by kernel_rfl) (by simp) ?_
      refine AllReadyH.cons (o := { dst := none, op := Go.Op.store 56 (Go.Operand.tmp 8) (Go.Operand.tmp 51), type := 0, pos := "law.go:138", after := #[{ on := 10, ground := Go.Ground.data }, { on := 9, ground := Go.Ground.data }, { on := 9, ground := Go.Ground.chain }, { on := 0, ground := Go.Ground.phase }, { on := 1, ground := Go.Ground.phase }, { on := 2, ground := Go.Ground.phase }, { on := 3, ground := Go.Ground.phase }, { on := 4, ground := Go.Ground.phase }, { on := 5, ground := Go.Ground.phase }, { on := 6, ground := Go.Ground.phase }, { on := 7, ground := Go.Ground.phase }, { on := 8, ground := Go.Ground.phase }, { on := 9, ground := Go.Ground.phase }, { on := 10, ground := Go.Ground.phase }], guard := none }) rfl (fun K hK => ?_) AllReadyH.nil
      go_simp
      go_wp2_with fail
      refine hK.out _ _ ⟨stays HS4.out.1 (nest_below w4 [(.cells #[.string mi, .bool true, .int .i64 (ma : Int), .bool false] TA (0, 0))]), H5.out.blk, H5.out.a⟩ (fun hNext => ?_)
      clear hHeld
      clear hK K
      have hHeld := hNext
      clear hNext
      (try simp only [Act.put, List.setIfInBounds_toArray, List.set_cons_zero, List.set_cons_succ])
      refine wpAnyH_done (by kernel_rfl) ?_ _
      clear hHeld
      have HK2 := Lib.hid (show b.bk ≠ w4.heap.size from fun e => by have := lt_heap HN.out.k; omega)
      clear HS4 HN
      generalize w4.alloc (.cells #[.string mi, .bool true, .int .i64 (ma : Int), .bool false] TA (0, 0)) = w5 at H5 hac ⊢
      generalize w4.heap.size = ab at hac HK2 ⊢
      generalize retag w3 tag2 6 = tag5 at H5
      obtain ⟨⟨a0, a1, a2, a3⟩, af⟩ := cells4 hac
      have hmi := HM.out
      go_wp2_with fail
      have H6 := Lib.hid (H5.out.on (w' := w5.drew) ⟨rfl, rfl, rfl, Nat.le_refl _, fun _ _ => rfl⟩)
      have hac3 : w5.drew.heap[ab]? = some (.cells #[.string mi, .bool true, .int .i64 (ma : Int), .bool false] TA (0, 0)) := hac
      clear a0 a1 a2 a3 af hac H5
      refine wp_region_held_drew (S := (fun w' => w'.heap[ab]? = some (.cells #[.string mi, .bool true, .int .i64 (ma : Int), .bool false] TA (0, 0)) ∧ w'.heap[b.tb]? = some (.cells #[two b.ba, two b.bl, two b.bu, two b.bk, .bool x.bad] 46 (0, 0)) ∧ w'.heap[b.bk]? = some (.cells #[nm x.k0, nm x.k1] 3 (0, 0)))) (by kernel_rfl) ⟨hac3, H6.out.blk, H6.out.k⟩ (fun hHeld => ?_)
      refine' wpAnyH_take (i := 0) (oi := { dst := some 59, op := Go.Op.fieldAddr 56 (Go.Operand.tmp 8) 0, type := 0, pos := "law.go:143", after := #[], guard := none }) (v := _) rfl (by kernel_rfl) (by kernel_rfl) (by kernel_rfl) (fun _ _ _ h => h) (Or.inl ⟨by rfl, ?hy111⟩) (by assumption) ?hr111
      case hy111 => (intro _ hSw; (try dsimp only at hSw); go_simp <;> with_reducible rfl)
      simp only [Act.put, List.setIfInBounds_toArray, List.set_cons_zero, List.set_cons_succ]
      refine' wpAnyH_take (i := 1) (oi := { dst := some 60, op := Go.Op.load 9 (Go.Operand.tmp 59), type := 9, pos := "law.go:143", after := #[{ on := 0, ground := Go.Ground.data }], guard := none }) (v := _) rfl (by kernel_rfl) (by kernel_rfl) (by kernel_rfl) (fun _ _ _ h => h) (Or.inl ⟨by rfl, ?hy112⟩) (by assumption) ?hr112
      case hy112 => (intro _ hSw; (try dsimp only at hSw); obtain ⟨⟨y0, y1, y2, y3⟩, -⟩ := cells4 hSw.1; go_simp <;> with_reducible rfl)
      simp only [Act.put, List.setIfInBounds_toArray, List.set_cons_zero, List.set_cons_succ]
      refine' wpAnyH_take (i := 2) (oi := { dst := some 61, op := Go.Op.move (Go.Operand.tmp 0), type := 40, pos := "law.go:143", after := #[], guard := none }) (v := _) rfl (by kernel_rfl) (by kernel_rfl) (by kernel_rfl) (fun _ _ _ h => h) (Or.inl ⟨by rfl, ?hy113⟩) (by assumption) ?hr113
      case hy113 => (intro _ hSw; (try dsimp only at hSw); go_simp <;> with_reducible rfl)
      simp only [Act.put, List.setIfInBounds_toArray, List.set_cons_zero, List.set_cons_succ]
      refine' wpAnyH_take (i := 3) (oi := { dst := some 62, op := Go.Op.nilCheck (Go.Operand.tmp 61), type := 0, pos := "law.go:143", after := #[{ on := 2, ground := Go.Ground.data }], guard := none }) (v := _) rfl (by kernel_rfl) (by kernel_rfl) (by kernel_rfl) (fun _ _ _ h => h) (Or.inl ⟨by rfl, ?hy114⟩) (by assumption) ?hr114
      case hy114 => (intro _ hSw; (try dsimp only at hSw); go_simp <;> with_reducible rfl)
      simp only [Act.put, List.setIfInBounds_toArray, List.set_cons_zero, List.set_cons_succ]
      refine' wpAnyH_take (i := 4) (oi := { dst := some 63, op := Go.Op.fieldAddr 46 (Go.Operand.tmp 62) 3, type := 0, pos := "law.go:143", after := #[{ on := 3, ground := Go.Ground.data }], guard := none }) (v := _) rfl (by kernel_rfl) (by kernel_rfl) (by kernel_rfl) (fun _ _ _ h => h) (Or.inl ⟨by rfl, ?hy115⟩) (by assumption) ?hr115
      case hy115 => (intro _ hSw; (try dsimp only at hSw); go_simp <;> with_reducible rfl)
      simp only [Act.put, List.setIfInBounds_toArray, List.set_cons_zero, List.set_cons_succ]
      refine' wpAnyH_take (i := 5) (oi := { dst := some 64, op := Go.Op.load 44 (Go.Operand.tmp 63), type := 44, pos := "law.go:143", after := #[{ on := 4, ground := Go.Ground.data }], guard := none }) (v := _) rfl (by kernel_rfl) (by kernel_rfl) (by kernel_rfl) (fun _ _ _ h => h) (Or.inl ⟨by rfl, ?hy116⟩) (by assumption) ?hr116
      case hy116 => (intro _ hSw; (try dsimp only at hSw); have hc := cell_of (i := 3) (v := two b.bk) hSw.2.1 rfl; go_simp <;> with_reducible rfl)
      simp only [Act.put, List.setIfInBounds_toArray, List.set_cons_zero, List.set_cons_succ]
      refine' wpAnyH_take (i := 6) (oi := { dst := some 65, op := Go.Op.move (Go.Operand.tmp 1), type := 3, pos := "law.go:143", after := #[], guard := none }) (v := _) rfl (by kernel_rfl) (by kernel_rfl) (by kernel_rfl) (fun _ _ _ h => h) (Or.inl ⟨by rfl, ?hy117⟩) (by assumption) ?hr117
      case hy117 => (intro _ hSw; (try dsimp only at hSw); go_simp <;> with_reducible rfl)
      simp only [Act.put, List.setIfInBounds_toArray, List.set_cons_zero, List.set_cons_succ]
      refine' wpAnyH_take (i := 7) (oi := { dst := some 66, op := Go.Op.indexAddr 44 (Go.Operand.tmp 64) (Go.Operand.tmp 65), type := 0, pos := "law.go:143", after := #[{ on := 5, ground := Go.Ground.data }, { on := 6, ground := Go.Ground.data }], guard := none }) (v := _) rfl (by kernel_rfl) (by kernel_rfl) (by kernel_rfl) (fun _ _ _ h => h) (Or.inl ⟨by rfl, ?hy118⟩) (by assumption) ?hr118
      case hy118 => (intro _ hSw; (try dsimp only at hSw); go_simp <;> with_reducible rfl)
      simp only [Act.put, List.setIfInBounds_toArray, List.set_cons_zero, List.set_cons_succ]
      refine' wpAnyH_take (i := 8) (oi := { dst := some 67, op := Go.Op.load 3 (Go.Operand.tmp 66), type := 3, pos := "law.go:143", after := #[{ on := 7, ground := Go.Ground.data }], guard := none }) (v := _) rfl (by kernel_rfl) (by kernel_rfl) (by kernel_rfl) (fun _ _ _ h => h) (Or.inl ⟨by rfl, ?hy119⟩) (by assumption) ?hr119
      case hy119 => (intro _ hSw; (try dsimp only at hSw); have hc := cell_of (i := 0) (v := nm x.k0) hSw.2.2 rfl; go_simp <;> with_reducible rfl)
      simp only [Act.put, List.setIfInBounds_toArray, List.set_cons_zero, List.set_cons_succ]
      clear hHeld
      generalize w5.drew = w6 at H6 hac3 ⊢
      refine wpAnyH_ready (rs := [9]) (by kernel_rfl) (by simp) ?_
      refine AllReadyH.cons (o := { dst := some 68, op := Go.Op.call { callee := Go.Callee.value (Go.Operand.func 36), args := #[Go.Operand.tmp 67], argTypes := #[3] }, type := 9, pos := "law.go:143", after := #[{ on := 8, ground := Go.Ground.data }], guard := none }) rfl (fun K hK => ?_) AllReadyH.nil
      go_simp
      refine (finf x.k0 HKB.out _).mono ?_
      rintro _ w7 ⟨rfl, hb⟩
      have H7 := Lib.hid (H6.out.on hb)
      have hac7 := stays hac3 hb
      clear hb hac3 H6
      go_wp2_with fail
      refine hK.out _ _ ⟨hac7, H7.out.blk, H7.out.k⟩ (fun hNext => ?_)
      clear hK K
      have hHeld := hNext
      clear hNext
      (try simp only [Act.put, List.setIfInBounds_toArray, List.set_cons_zero, List.set_cons_succ])
      subst hmi
      have b1 : ((inf x.k0).toList == (inf x.k0).toList) = true := by simp
      have b2 : ((inf x.k0).toList != (inf x.k0).toList) = false := by simp
      generalize inf x.k0 = st at b1 b2 hHeld hac7 ⊢
      refine' wpAnyH_take (i := 10) (oi := { dst := some 69, op := Go.Op.binOp Go.BinOp.neq 9 (Go.Operand.tmp 60) (Go.Operand.tmp 68) 9, type := 4, pos := "law.go:143", after := #[{ on := 1, ground := Go.Ground.data }, { on := 9, ground := Go.Ground.data }], guard := none }) (v := _) rfl (by kernel_rfl) (by kernel_rfl) (by kernel_rfl) (fun _ _ _ h => h) (Or.inl ⟨by rfl, ?hy120⟩) (by assumption) ?hr120
      case hy120 => (intro _ hSw; (try dsimp only at hSw); go_simp <;> with_reducible rfl)
      simp only [Act.put, List.setIfInBounds_toArray, List.set_cons_zero, List.set_cons_succ]
      refine wpAnyH_done (by kernel_rfl) ?_ _
      clear hHeld
      have c3 : w7.cell? ⟨b.tb, 3, none⟩ = some (two b.bk) := cell_of H7.out.blk rfl
      have ck : w7.cell? ⟨b.bk, 0, none⟩ = some (nm x.k0) := cell_of H7.out.k rfl
      have fk2 : ∀ i, w7.frozen? ⟨b.bk, i, none⟩ = false := fun _ => free_of H7.out.k
      have vk : IntKind.i64.wrap ((x.k0 : Int) + 1) = ((x.k0 + 1 : Nat) : Int) := by have := HKB.out; rw [IntKind.wrap_i64]; omega
      have H8 := Lib.hid (H7.out.put_k (x.k0 + 1) x.k1 (chg_cell w7 b.bk 0 (nm (x.k0 + 1))) (block_set (i := 0) H7.out.k _))
      clear H7 hac7
      obtain ⟨kn, hkn⟩ : ∃ kn, x.k0 + 1 = kn := ⟨_, rfl⟩
      rw [hkn] at vk H8
      have HKN := Lib.hid hkn
      clear hkn
      go_wp2
      go_ret
      have hkn := HKN.out
      clear HKN
      subst hkn
      exact ⟨rfl, _, _, _, _, _, H8.out⟩
    · go_simp
      refine hK.out _ _ ⟨stays HS3.out.1 (nest_below w3 [noM TA]), stays HS3.out.2.1 (nest_below w3 [noM TA]), stays HS3.out.2.2 (nest_below w3 [noM TA])⟩ (fun hNext => ?_)
      clear hK K
      have hHeld := hNext
      clear hNext
      (try simp only [Act.put, List.setIfInBounds_toArray, List.set_cons_zero, List.set_cons_succ])
      have H4 := Lib.hid ((H3.out.mark 9).on (show Below w3.heap.size w3 (w3.alloc (noM TA)) from nest_below w3 [_]))
      have HT4 := Lib.hid (show retag w3 tag2 9 w3.heap.size = 9 from retag_new (Nat.le_refl _))
      generalize retag w3 tag2 9 = tag4 at H4 HT4
      have hn4 : (w3.alloc (noM TA)).heap[w3.heap.size]? = some (noM TA) := nest w3 [_] 0 _ rfl
      have hs4 := size_alloc w3 (noM TA)
      have HS4 := Lib.hid (show (w3.alloc (noM TA)).heap[fb]? = some (.cells #[.int .u8 0, .bool fc, .int .u8 (fk : Int), .bool fpf, .int .u8 (fns : Int), .int .u8 (fnr : Int), .string fi] TF (0, 0)) from stays HS3.out.1 (nest_below w3 [noM TA]))
      refine wpAnyH_ready (rs := [9]) (by kernel_rfl) (by simp) ?_
      refine AllReadyH.cons (o := { dst := some 51, op := Go.Op.call { callee := Go.Callee.value (Go.Operand.func 24), args := #[Go.Operand.tmp 49, Go.Operand.tmp 50], argTypes := #[28, 25] }, type := 56, pos := "law.go:138", after := #[{ on := 7, ground := Go.Ground.data }, { on := 8, ground := Go.Ground.data }], guard := none }) rfl (fun K hK => ?_) AllReadyH.nil
      go_simp
      refine (CH.out _ H4.out.s1).mono ?_
      rintro _ w4 ⟨rfl, u, hd⟩
      have HN := Lib.hid (H4.out.doB hd)
      have hn5 : w4.heap[w3.heap.size]? = some (noM TA) := hd.chg.stays hn4 (fun e => by
        rcases e with e | e
        · have := H4.out.t6; have := HT4.out; rw [e] at this; omega
        · have := H4.out.o1 _ e; have := HT4.out; omega)
      have hf5 : w4.heap[fb]? = some (.cells #[.int .u8 0, .bool fc, .int .u8 (fk : Int), .bool fpf, .int .u8 (fns : Int), .int .u8 (fnr : Int), .string fi] TF (0, 0)) := hd.chg.stays HS4.out (fun e => by
        rcases e with e | e
        · exact HF3.out.2.1 e.symm
        · exact HF3.out.2.2 _ e rfl)
      have htn : retag (w3.alloc (noM TA)) tag4 6 w3.heap.size = 9 := by rw [retag_old (by omega)]; exact HT4.out
      go_wp2_with fail
      refine hK.out _ _ ⟨hf5, HN.out.blk, HN.out.a⟩ (fun hNext => ?_)
      clear hd CH hHeld hn4
      clear hK K
      have hHeld := hNext
      clear hNext
      (try simp only [Act.put, List.setIfInBounds_toArray, List.set_cons_zero, List.set_cons_succ])
      obtain ⟨⟨y0, y1, y2, y3⟩, yf⟩ := cells4 hn5
      have hac : ((((w4.setCell ⟨w3.heap.size, 0, none⟩ (.string mi)).setCell ⟨w3.heap.size, 1, none⟩ (.bool true)).setCell ⟨w3.heap.size, 2, none⟩ (.int .i64 (ma : Int))).setCell ⟨w3.heap.size, 3, none⟩ (.bool false)).heap[w3.heap.size]? = some (.cells #[.string mi, .bool true, .int .i64 (ma : Int), .bool false] TA (0, 0)) := set4_at hn5 (.string mi) (.bool true) (.int .i64 (ma : Int)) (.bool false)
      have hcc : Chg (fun k => k = w3.heap.size) w4 ((((w4.setCell ⟨w3.heap.size, 0, none⟩ (.string mi)).setCell ⟨w3.heap.size, 1, none⟩ (.bool true)).setCell ⟨w3.heap.size, 2, none⟩ (.int .i64 (ma : Int))).setCell ⟨w3.heap.size, 3, none⟩ (.bool false)) := chg_set4 (S := fun k => k = w3.heap.size) (Chg.refl _ w4) (fun _ => rfl) _ _ _ _
      have H5 := Lib.hid (HN.out.other hcc htn H3.out.below.size)
      refine wpAnyH_ready (rs := [11]) (by kernel_rfl) (by simp) ?_
      refine AllReadyH.cons (o := { dst := none, op := Go.Op.store 56 (Go.Operand.tmp 8) (Go.Operand.tmp 51), type := 0, pos := "law.go:138", after := #[{ on := 10, ground := Go.Ground.data }, { on := 9, ground := Go.Ground.data }, { on := 9, ground := Go.Ground.chain }, { on := 0, ground := Go.Ground.phase }, { on := 1, ground := Go.Ground.phase }, { on := 2, ground := Go.Ground.phase }, { on := 3, ground := Go.Ground.phase }, { on := 4, ground := Go.Ground.phase }, { on := 5, ground := Go.Ground.phase }, { on := 6, ground := Go.Ground.phase }, { on := 7, ground := Go.Ground.phase }, { on := 8, ground := Go.Ground.phase }, { on := 9, ground := Go.Ground.phase }, { on := 10, ground := Go.Ground.phase }], guard := none }) rfl (fun K hK => ?_) AllReadyH.nil
      go_simp
      go_wp2_with fail
      refine hK.out _ _ ⟨hcc.stays hf5 (fun e => by have := lt_heap HS3.out.1; omega), H5.out.blk, H5.out.a⟩ (fun hNext => ?_)
      clear hHeld
      clear hK K
      have hHeld := hNext
      clear hNext
      (try simp only [Act.put, List.setIfInBounds_toArray, List.set_cons_zero, List.set_cons_succ])
      refine wpAnyH_done (by kernel_rfl) ?_ _
      clear hHeld
      have HK2 := Lib.hid (show b.bk ≠ w3.heap.size from fun e => by have := lt_heap H3.out.k; omega)
      clear HS3 HF3 HS4 HN H4 HT4 hn5 hf5 htn hcc y0 y1 y2 y3 yf hs4 H3
      generalize ((((w4.setCell ⟨w3.heap.size, 0, none⟩ (.string mi)).setCell ⟨w3.heap.size, 1, none⟩ (.bool true)).setCell ⟨w3.heap.size, 2, none⟩ (.int .i64 (ma : Int))).setCell ⟨w3.heap.size, 3, none⟩ (.bool false)) = w5 at H5 hac ⊢
      generalize w3.heap.size = ab at hac HK2 ⊢
      generalize retag (w3.alloc (noM TA)) tag4 6 = tag5 at H5
      obtain ⟨⟨a0, a1, a2, a3⟩, af⟩ := cells4 hac
      have hmi := HM.out
      go_wp2_with fail
      have H6 := Lib.hid (H5.out.on (w' := w5.drew) ⟨rfl, rfl, rfl, Nat.le_refl _, fun _ _ => rfl⟩)
      have hac3 : w5.drew.heap[ab]? = some (.cells #[.string mi, .bool true, .int .i64 (ma : Int), .bool false] TA (0, 0)) := hac
      clear a0 a1 a2 a3 af hac H5
      refine wp_region_held_drew (S := (fun w' => w'.heap[ab]? = some (.cells #[.string mi, .bool true, .int .i64 (ma : Int), .bool false] TA (0, 0)) ∧ w'.heap[b.tb]? = some (.cells #[two b.ba, two b.bl, two b.bu, two b.bk, .bool x.bad] 46 (0, 0)) ∧ w'.heap[b.bk]? = some (.cells #[nm x.k0, nm x.k1] 3 (0, 0)))) (by kernel_rfl) ⟨hac3, H6.out.blk, H6.out.k⟩ (fun hHeld => ?_)
      refine' wpAnyH_take (i := 0) (oi := { dst := some 59, op := Go.Op.fieldAddr 56 (Go.Operand.tmp 8) 0, type := 0, pos := "law.go:143", after := #[], guard := none }) (v := _) rfl (by kernel_rfl) (by kernel_rfl) (by kernel_rfl) (fun _ _ _ h => h) (Or.inl ⟨by rfl, ?hy121⟩) (by assumption) ?hr121
      case hy121 => (intro _ hSw; (try dsimp only at hSw); go_simp <;> with_reducible rfl)
      simp only [Act.put, List.setIfInBounds_toArray, List.set_cons_zero, List.set_cons_succ]
      refine' wpAnyH_take (i := 1) (oi := { dst := some 60, op := Go.Op.load 9 (Go.Operand.tmp 59), type := 9, pos := "law.go:143", after := #[{ on := 0, ground := Go.Ground.data }], guard := none }) (v := _) rfl (by kernel_rfl) (by kernel_rfl) (by kernel_rfl) (fun _ _ _ h => h) (Or.inl ⟨by rfl, ?hy122⟩) (by assumption) ?hr122
      case hy122 => (intro _ hSw; (try dsimp only at hSw); obtain ⟨⟨y0, y1, y2, y3⟩, -⟩ := cells4 hSw.1; go_simp <;> with_reducible rfl)
      simp only [Act.put, List.setIfInBounds_toArray, List.set_cons_zero, List.set_cons_succ]
      refine' wpAnyH_take (i := 2) (oi := { dst := some 61, op := Go.Op.move (Go.Operand.tmp 0), type := 40, pos := "law.go:143", after := #[], guard := none }) (v := _) rfl (by kernel_rfl) (by kernel_rfl) (by kernel_rfl) (fun _ _ _ h => h) (Or.inl ⟨by rfl, ?hy123⟩) (by assumption) ?hr123
      case hy123 => (intro _ hSw; (try dsimp only at hSw); go_simp <;> with_reducible rfl)
      simp only [Act.put, List.setIfInBounds_toArray, List.set_cons_zero, List.set_cons_succ]
      refine' wpAnyH_take (i := 3) (oi := { dst := some 62, op := Go.Op.nilCheck (Go.Operand.tmp 61), type := 0, pos := "law.go:143", after := #[{ on := 2, ground := Go.Ground.data }], guard := none }) (v := _) rfl (by kernel_rfl) (by kernel_rfl) (by kernel_rfl) (fun _ _ _ h => h) (Or.inl ⟨by rfl, ?hy124⟩) (by assumption) ?hr124
      case hy124 => (intro _ hSw; (try dsimp only at hSw); go_simp <;> with_reducible rfl)
      simp only [Act.put, List.setIfInBounds_toArray, List.set_cons_zero, List.set_cons_succ]
      refine' wpAnyH_take (i := 4) (oi := { dst := some 63, op := Go.Op.fieldAddr 46 (Go.Operand.tmp 62) 3, type := 0, pos := "law.go:143", after := #[{ on := 3, ground := Go.Ground.data }], guard := none }) (v := _) rfl (by kernel_rfl) (by kernel_rfl) (by kernel_rfl) (fun _ _ _ h => h) (Or.inl ⟨by rfl, ?hy125⟩) (by assumption) ?hr125
      case hy125 => (intro _ hSw; (try dsimp only at hSw); go_simp <;> with_reducible rfl)
      simp only [Act.put, List.setIfInBounds_toArray, List.set_cons_zero, List.set_cons_succ]
      refine' wpAnyH_take (i := 5) (oi := { dst := some 64, op := Go.Op.load 44 (Go.Operand.tmp 63), type := 44, pos := "law.go:143", after := #[{ on := 4, ground := Go.Ground.data }], guard := none }) (v := _) rfl (by kernel_rfl) (by kernel_rfl) (by kernel_rfl) (fun _ _ _ h => h) (Or.inl ⟨by rfl, ?hy126⟩) (by assumption) ?hr126
      case hy126 => (intro _ hSw; (try dsimp only at hSw); have hc := cell_of (i := 3) (v := two b.bk) hSw.2.1 rfl; go_simp <;> with_reducible rfl)
      simp only [Act.put, List.setIfInBounds_toArray, List.set_cons_zero, List.set_cons_succ]
      refine' wpAnyH_take (i := 6) (oi := { dst := some 65, op := Go.Op.move (Go.Operand.tmp 1), type := 3, pos := "law.go:143", after := #[], guard := none }) (v := _) rfl (by kernel_rfl) (by kernel_rfl) (by kernel_rfl) (fun _ _ _ h => h) (Or.inl ⟨by rfl, ?hy127⟩) (by assumption) ?hr127
      case hy127 => (intro _ hSw; (try dsimp only at hSw); go_simp <;> with_reducible rfl)
      simp only [Act.put, List.setIfInBounds_toArray, List.set_cons_zero, List.set_cons_succ]
      refine' wpAnyH_take (i := 7) (oi := { dst := some 66, op := Go.Op.indexAddr 44 (Go.Operand.tmp 64) (Go.Operand.tmp 65), type := 0, pos := "law.go:143", after := #[{ on := 5, ground := Go.Ground.data }, { on := 6, ground := Go.Ground.data }], guard := none }) (v := _) rfl (by kernel_rfl) (by kernel_rfl) (by kernel_rfl) (fun _ _ _ h => h) (Or.inl ⟨by rfl, ?hy128⟩) (by assumption) ?hr128
      case hy128 => (intro _ hSw; (try dsimp only at hSw); go_simp <;> with_reducible rfl)
      simp only [Act.put, List.setIfInBounds_toArray, List.set_cons_zero, List.set_cons_succ]
      refine' wpAnyH_take (i := 8) (oi := { dst := some 67, op := Go.Op.load 3 (Go.Operand.tmp 66), type := 3, pos := "law.go:143", after := #[{ on := 7, ground := Go.Ground.data }], guard := none }) (v := _) rfl (by kernel_rfl) (by kernel_rfl) (by kernel_rfl) (fun _ _ _ h => h) (Or.inl ⟨by rfl, ?hy129⟩) (by assumption) ?hr129
      case hy129 => (intro _ hSw; (try dsimp only at hSw); have hc := cell_of (i := 0) (v := nm x.k0) hSw.2.2 rfl; go_simp <;> with_reducible rfl)
      simp only [Act.put, List.setIfInBounds_toArray, List.set_cons_zero, List.set_cons_succ]
      clear hHeld
      generalize w5.drew = w6 at H6 hac3 ⊢
      refine wpAnyH_ready (rs := [9]) (by kernel_rfl) (by simp) ?_
      refine AllReadyH.cons (o := { dst := some 68, op := Go.Op.call { callee := Go.Callee.value (Go.Operand.func 36), args := #[Go.Operand.tmp 67], argTypes := #[3] }, type := 9, pos := "law.go:143", after := #[{ on := 8, ground := Go.Ground.data }], guard := none }) rfl (fun K hK => ?_) AllReadyH.nil
      go_simp
      refine (finf x.k0 HKB.out _).mono ?_
      rintro _ w7 ⟨rfl, hb⟩
      have H7 := Lib.hid (H6.out.on hb)
      have hac7 := stays hac3 hb
      clear hb hac3 H6
      go_wp2_with fail
      refine hK.out _ _ ⟨hac7, H7.out.blk, H7.out.k⟩ (fun hNext => ?_)
      clear hK K
      have hHeld := hNext
      clear hNext
      (try simp only [Act.put, List.setIfInBounds_toArray, List.set_cons_zero, List.set_cons_succ])
      subst hmi
      have b1 : ((inf x.k0).toList == (inf x.k0).toList) = true := by simp
      have b2 : ((inf x.k0).toList != (inf x.k0).toList) = false := by simp
      generalize inf x.k0 = st at b1 b2 hHeld hac7 ⊢
      refine' wpAnyH_take (i := 10) (oi := { dst := some 69, op := Go.Op.binOp Go.BinOp.neq 9 (Go.Operand.tmp 60) (Go.Operand.tmp 68) 9, type := 4, pos := "law.go:143", after := #[{ on := 1, ground := Go.Ground.data }, { on := 9, ground := Go.Ground.data }], guard := none }) (v := _) rfl (by kernel_rfl) (by kernel_rfl) (by kernel_rfl) (fun _ _ _ h => h) (Or.inl ⟨by rfl, ?hy130⟩) (by assumption) ?hr130
      case hy130 => (intro _ hSw; (try dsimp only at hSw); go_simp <;> with_reducible rfl)
      simp only [Act.put, List.setIfInBounds_toArray, List.set_cons_zero, List.set_cons_succ]
      refine wpAnyH_done (by kernel_rfl) ?_ _
      clear hHeld
      have c3 : w7.cell? ⟨b.tb, 3, none⟩ = some (two b.bk) := cell_of H7.out.blk rfl
      have ck : w7.cell? ⟨b.bk, 0, none⟩ = some (nm x.k0) := cell_of H7.out.k rfl
      have fk2 : ∀ i, w7.frozen? ⟨b.bk, i, none⟩ = false := fun _ => free_of H7.out.k
      have vk : IntKind.i64.wrap ((x.k0 : Int) + 1) = ((x.k0 + 1 : Nat) : Int) := by have := HKB.out; rw [IntKind.wrap_i64]; omega
      have H8 := Lib.hid (H7.out.put_k (x.k0 + 1) x.k1 (chg_cell w7 b.bk 0 (nm (x.k0 + 1))) (block_set (i := 0) H7.out.k _))
      clear H7 hac7
      obtain ⟨kn, hkn⟩ : ∃ kn, x.k0 + 1 = kn := ⟨_, rfl⟩
      rw [hkn] at vk H8
      have HKN := Lib.hid hkn
      clear hkn
      go_wp2
      go_ret
      have hkn := HKN.out
      clear HKN
      subst hkn
      exact ⟨rfl, _, _, _, _, _, H8.out⟩
  · rw [if_neg hc1] at HQ1
    refine' wpAnyH_take (i := 12) (oi := { dst := some 39, op := Go.Op.slice 88 (Go.Operand.tmp 38) (some (Go.Operand.const (Go.Value.int Go.IntKind.i64 1))) none none, type := 88, pos := "law.go:134", after := #[{ on := 11, ground := Go.Ground.data }], guard := none }) (v := _) rfl (by kernel_rfl) (by kernel_rfl) (by kernel_rfl) (fun _ _ _ h => h) (Or.inl ⟨by rfl, ?hy131⟩) (by assumption) ?hr131
    case hy131 => (intro _ hSw; (try dsimp only at hSw); go_simp <;> with_reducible rfl)
    simp only [Act.put, List.setIfInBounds_toArray, List.set_cons_zero, List.set_cons_succ]
    refine' wpAnyH_take (i := 13) (oi := { dst := some 40, op := Go.Op.indexAddr 43 (Go.Operand.tmp 30) (Go.Operand.tmp 31), type := 0, pos := "law.go:134", after := #[{ on := 3, ground := Go.Ground.data }, { on := 4, ground := Go.Ground.data }, { on := 0, ground := Go.Ground.phase }, { on := 1, ground := Go.Ground.phase }, { on := 2, ground := Go.Ground.phase }, { on := 3, ground := Go.Ground.phase }, { on := 4, ground := Go.Ground.phase }, { on := 5, ground := Go.Ground.phase }, { on := 6, ground := Go.Ground.phase }, { on := 7, ground := Go.Ground.phase }, { on := 8, ground := Go.Ground.phase }, { on := 9, ground := Go.Ground.phase }, { on := 10, ground := Go.Ground.phase }, { on := 11, ground := Go.Ground.phase }, { on := 12, ground := Go.Ground.phase }], guard := none }) (v := _) rfl (by kernel_rfl) (by kernel_rfl) (by kernel_rfl) (fun _ _ _ h => h) (Or.inl ⟨by rfl, ?hy132⟩) (by assumption) ?hr132
    case hy132 => (intro _ hSw; (try dsimp only at hSw); go_simp <;> with_reducible rfl)
    simp only [Act.put, List.setIfInBounds_toArray, List.set_cons_zero, List.set_cons_succ]
    refine wpAnyH_ready (rs := [14]) (by kernel_rfl) (by simp) ?_
    refine AllReadyH.cons (o := { dst := none, op := Go.Op.store 88 (Go.Operand.tmp 40) (Go.Operand.tmp 39), type := 0, pos := "law.go:134", after := #[{ on := 13, ground := Go.Ground.data }, { on := 12, ground := Go.Ground.data }, { on := 0, ground := Go.Ground.phase }, { on := 1, ground := Go.Ground.phase }, { on := 2, ground := Go.Ground.phase }, { on := 3, ground := Go.Ground.phase }, { on := 4, ground := Go.Ground.phase }, { on := 5, ground := Go.Ground.phase }, { on := 6, ground := Go.Ground.phase }, { on := 7, ground := Go.Ground.phase }, { on := 8, ground := Go.Ground.phase }, { on := 9, ground := Go.Ground.phase }, { on := 10, ground := Go.Ground.phase }, { on := 11, ground := Go.Ground.phase }, { on := 12, ground := Go.Ground.phase }], guard := none }) rfl (fun K hK => ?_) AllReadyH.nil
    go_simp
    refine hK.out _ _ ((set_other hne _).trans HTB.out) (fun hNext => ?_)
    clear hNext hHeld
    refine wpAnyH_done (by kernel_rfl) ?_ _
    clear hK K
    have hgr : w1.grownBy w1 v0.ownBlock := ⟨rfl, rfl, rfl, Nat.le_refl _, fun _ _ _ => rfl⟩
    have how : (Value.ownBlock (.slice (some ⟨g, off + 7, none⟩) z (cap - 1))) = v0.ownBlock := by rw [HV.out]; rfl
    have H2 := Lib.hid (H1.out.put0 hgr HQ1.out (Or.inl how))
    have hA2 : (w1.setCell ⟨b.bl, 0, none⟩ (.slice (some ⟨g, off + 7, none⟩) z (cap - 1))).heap[fb]? = some (.cells #[.int .u8 0, .bool fc, .int .u8 (fk : Int), .bool fpf, .int .u8 (fns : Int), .int .u8 (fnr : Int), .string fi] TF (0, 0)) := (set_other (by omega) _).trans hA1
    clear HQ1 H1 hA1 b2 f2 HTB hgr how
    generalize w1.setCell ⟨b.bl, 0, none⟩ (.slice (some ⟨g, off + 7, none⟩) z (cap - 1)) = w2 at H2 hA2 ⊢
    generalize retag w1 tag 7 = tag2 at H2
    go_wp2_with fail
    have H3 := Lib.hid (H2.out.on (w' := w2.drew) ⟨rfl, rfl, rfl, Nat.le_refl _, fun _ _ => rfl⟩)
    have hA3 : w2.drew.heap[fb]? = some (.cells #[.int .u8 0, .bool fc, .int .u8 (fk : Int), .bool fpf, .int .u8 (fns : Int), .int .u8 (fnr : Int), .string fi] TF (0, 0)) := hA2
    clear H2 hA2
    refine wp_region_held_drew (S := (fun w' => w'.heap[fb]? = some (.cells #[.int .u8 0, .bool fc, .int .u8 (fk : Int), .bool fpf, .int .u8 (fns : Int), .int .u8 (fnr : Int), .string fi] TF (0, 0)) ∧ w'.heap[b.tb]? = some (.cells #[two b.ba, two b.bl, two b.bu, two b.bk, .bool x.bad] 46 (0, 0)) ∧ w'.heap[b.ba]? = some (.cells #[ptr b.p0, ptr b.p1] 28 (0, 0)))) (by kernel_rfl) ⟨hA3, H3.out.blk, H3.out.a⟩ (fun hHeld => ?_)
    refine' wpAnyH_take (i := 0) (oi := { dst := some 42, op := Go.Op.move (Go.Operand.tmp 0), type := 40, pos := "law.go:138", after := #[], guard := none }) (v := _) rfl (by kernel_rfl) (by kernel_rfl) (by kernel_rfl) (fun _ _ _ h => h) (Or.inl ⟨by rfl, ?hy133⟩) (by assumption) ?hr133
    case hy133 => (intro _ hSw; (try dsimp only at hSw); go_simp <;> with_reducible rfl)
    simp only [Act.put, List.setIfInBounds_toArray, List.set_cons_zero, List.set_cons_succ]
    refine' wpAnyH_take (i := 1) (oi := { dst := some 43, op := Go.Op.nilCheck (Go.Operand.tmp 42), type := 0, pos := "law.go:138", after := #[{ on := 0, ground := Go.Ground.data }], guard := none }) (v := _) rfl (by kernel_rfl) (by kernel_rfl) (by kernel_rfl) (fun _ _ _ h => h) (Or.inl ⟨by rfl, ?hy134⟩) (by assumption) ?hr134
    case hy134 => (intro _ hSw; (try dsimp only at hSw); go_simp <;> with_reducible rfl)
    simp only [Act.put, List.setIfInBounds_toArray, List.set_cons_zero, List.set_cons_succ]
    refine' wpAnyH_take (i := 2) (oi := { dst := some 44, op := Go.Op.fieldAddr 46 (Go.Operand.tmp 43) 0, type := 0, pos := "law.go:138", after := #[{ on := 1, ground := Go.Ground.data }], guard := none }) (v := _) rfl (by kernel_rfl) (by kernel_rfl) (by kernel_rfl) (fun _ _ _ h => h) (Or.inl ⟨by rfl, ?hy135⟩) (by assumption) ?hr135
    case hy135 => (intro _ hSw; (try dsimp only at hSw); go_simp <;> with_reducible rfl)
    simp only [Act.put, List.setIfInBounds_toArray, List.set_cons_zero, List.set_cons_succ]
    refine' wpAnyH_take (i := 3) (oi := { dst := some 45, op := Go.Op.load 42 (Go.Operand.tmp 44), type := 42, pos := "law.go:138", after := #[{ on := 2, ground := Go.Ground.data }], guard := none }) (v := _) rfl (by kernel_rfl) (by kernel_rfl) (by kernel_rfl) (fun _ _ _ h => h) (Or.inl ⟨by rfl, ?hy136⟩) (by assumption) ?hr136
    case hy136 => (intro _ hSw; (try dsimp only at hSw); have hc := cell_of (i := 0) (v := two b.ba) hSw.2.1 rfl; go_simp <;> with_reducible rfl)
    simp only [Act.put, List.setIfInBounds_toArray, List.set_cons_zero, List.set_cons_succ]
    refine' wpAnyH_take (i := 4) (oi := { dst := some 46, op := Go.Op.move (Go.Operand.tmp 1), type := 3, pos := "law.go:138", after := #[], guard := none }) (v := _) rfl (by kernel_rfl) (by kernel_rfl) (by kernel_rfl) (fun _ _ _ h => h) (Or.inl ⟨by rfl, ?hy137⟩) (by assumption) ?hr137
    case hy137 => (intro _ hSw; (try dsimp only at hSw); go_simp <;> with_reducible rfl)
    simp only [Act.put, List.setIfInBounds_toArray, List.set_cons_zero, List.set_cons_succ]
    refine' wpAnyH_take (i := 5) (oi := { dst := some 47, op := Go.Op.binOp Go.BinOp.sub 3 (Go.Operand.const (Go.Value.int Go.IntKind.i64 1)) (Go.Operand.tmp 46) 3, type := 3, pos := "law.go:138", after := #[{ on := 4, ground := Go.Ground.data }], guard := none }) (v := _) rfl (by kernel_rfl) (by kernel_rfl) (by kernel_rfl) (fun _ _ _ h => h) (Or.inl ⟨by rfl, ?hy138⟩) (by assumption) ?hr138
    case hy138 => (intro _ hSw; (try dsimp only at hSw); go_simp <;> with_reducible rfl)
    simp only [Act.put, List.setIfInBounds_toArray, List.set_cons_zero, List.set_cons_succ]
    refine' wpAnyH_take (i := 6) (oi := { dst := some 48, op := Go.Op.indexAddr 42 (Go.Operand.tmp 45) (Go.Operand.tmp 47), type := 0, pos := "law.go:138", after := #[{ on := 3, ground := Go.Ground.data }, { on := 5, ground := Go.Ground.data }], guard := none }) (v := _) rfl (by kernel_rfl) (by kernel_rfl) (by kernel_rfl) (fun _ _ _ h => h) (Or.inl ⟨by rfl, ?hy139⟩) (by assumption) ?hr139
    case hy139 => (intro _ hSw; (try dsimp only at hSw); go_simp <;> with_reducible rfl)
    simp only [Act.put, List.setIfInBounds_toArray, List.set_cons_zero, List.set_cons_succ]
    refine' wpAnyH_take (i := 7) (oi := { dst := some 49, op := Go.Op.load 28 (Go.Operand.tmp 48), type := 28, pos := "law.go:138", after := #[{ on := 6, ground := Go.Ground.data }], guard := none }) (v := _) rfl (by kernel_rfl) (by kernel_rfl) (by kernel_rfl) (fun _ _ _ h => h) (Or.inl ⟨by rfl, ?hy140⟩) (by assumption) ?hr140
    case hy140 => (intro _ hSw; (try dsimp only at hSw); have hc := cell_of (i := 1) (v := ptr b.p1) hSw.2.2 rfl; go_simp <;> with_reducible rfl)
    simp only [Act.put, List.setIfInBounds_toArray, List.set_cons_zero, List.set_cons_succ]
    refine' wpAnyH_take (i := 8) (oi := { dst := some 50, op := Go.Op.load 25 (Go.Operand.tmp 7), type := 25, pos := "law.go:138", after := #[], guard := none }) (v := _) rfl (by kernel_rfl) (by kernel_rfl) (by kernel_rfl) (fun _ _ _ h => h) (Or.inl ⟨by rfl, ?hy141⟩) (by assumption) ?hr141
    case hy141 => (intro _ hSw; (try dsimp only at hSw); obtain ⟨⟨y0, y1, y2, y3, y4, y5, y6⟩, -⟩ := cells7 hSw.1; go_simp <;> with_reducible rfl)
    simp only [Act.put, List.setIfInBounds_toArray, List.set_cons_zero, List.set_cons_succ]
    clear hHeld
    have hA4 : w2.drew.heap[fb]? = some (.cells #[.int .u8 0, .bool fc, .int .u8 (fk : Int), .bool fpf, .int .u8 (fns : Int), .int .u8 (fnr : Int), .string fi] TF (0, 0)) := hA3
    clear hA3
    generalize w2.drew = w3 at H3 hA4 ⊢
    have HS3 := Lib.hid (show w3.heap[fb]? = some (.cells #[.int .u8 0, .bool fc, .int .u8 (fk : Int), .bool fpf, .int .u8 (fns : Int), .int .u8 (fnr : Int), .string fi] TF (0, 0)) ∧ w3.heap[b.tb]? = some (.cells #[two b.ba, two b.bl, two b.bu, two b.bk, .bool x.bad] 46 (0, 0)) ∧ w3.heap[b.ba]? = some (.cells #[ptr b.p0, ptr b.p1] 28 (0, 0)) from ⟨hA4, H3.out.blk, H3.out.a⟩)
    have HF3 := Lib.hid (show b.p0 ≠ fb ∧ b.p1 ≠ fb ∧ (∀ g, q1.ownBlock = some g → g ≠ fb) from ⟨fun e => by have := HX.out.s0.lt; have := HFB.out; omega, fun e => by have := HX.out.s1.lt; have := HFB.out; omega, fun g hg e => by have := (HX.out.s1.q.lt g hg).2; have := HFB.out; omega⟩)
    clear hA4
    refine wpAnyH_ready (rs := [9, 10]) (by kernel_rfl) (by simp) ?_
    refine AllReadyH.cons (o := { dst := some 51, op := Go.Op.call { callee := Go.Callee.value (Go.Operand.func 24), args := #[Go.Operand.tmp 49, Go.Operand.tmp 50], argTypes := #[28, 25] }, type := 56, pos := "law.go:138", after := #[{ on := 7, ground := Go.Ground.data }, { on := 8, ground := Go.Ground.data }], guard := none }) rfl (fun K hK => ?_) (AllReadyH.cons (o := { dst := some 8, op := Go.Op.alloc 56, type := 0, pos := "law.go:138", after := #[], guard := none }) rfl (fun K hK => ?_) AllReadyH.nil)
    · go_simp
      refine (CH.out _ H3.out.s1).mono ?_
      rintro _ w4 ⟨rfl, u, hd⟩
      have HN := Lib.hid (H3.out.doB hd)
      have HS4 := Lib.hid (show w4.heap[fb]? = some (.cells #[.int .u8 0, .bool fc, .int .u8 (fk : Int), .bool fpf, .int .u8 (fns : Int), .int .u8 (fnr : Int), .string fi] TF (0, 0)) ∧ w4.heap[b.tb]? = some (.cells #[two b.ba, two b.bl, two b.bu, two b.bk, .bool x.bad] 46 (0, 0)) ∧ w4.heap[b.ba]? = some (.cells #[ptr b.p0, ptr b.p1] 28 (0, 0)) from ⟨hd.chg.stays HS3.out.1 (fun e => by rcases e with e | e; exact HF3.out.2.1 e.symm; exact HF3.out.2.2 _ e rfl), HN.out.blk, HN.out.a⟩)
      go_wp2_with fail
      refine hK.out _ _ HS4.out (fun hNext => ?_)
      clear hd CH H3 HS3 HF3
      clear hK K
      have hHeld := hNext
      clear hNext
      (try simp only [Act.put, List.setIfInBounds_toArray, List.set_cons_zero, List.set_cons_succ])
      refine wpAnyH_ready (rs := [10]) (by kernel_rfl) (by simp) ?_
      refine AllReadyH.cons (o := { dst := some 8, op := Go.Op.alloc 56, type := 0, pos := "law.go:138", after := #[], guard := none }) rfl (fun K hK => ?_) AllReadyH.nil
      go_simp
      refine hK.out _ _ ⟨stays HS4.out.1 (nest_below w4 [noM TA]), stays HS4.out.2.1 (nest_below w4 [noM TA]), stays HS4.out.2.2 (nest_below w4 [noM TA])⟩ (fun hNext => ?_)
      clear hHeld
      clear hK K
      have hHeld := hNext
      clear hNext
      (try simp only [Act.put, List.setIfInBounds_toArray, List.set_cons_zero, List.set_cons_succ])
      have H5 := Lib.hid (HN.out.on (show Below w4.heap.size w4 (w4.alloc (.cells #[.string mi, .bool true, .int .i64 (ma : Int), .bool false] TA (0, 0))) from nest_below w4 [_]))
      have hac : (w4.alloc (.cells #[.string mi, .bool true, .int .i64 (ma : Int), .bool false] TA (0, 0))).heap[w4.heap.size]? = some (.cells #[.string mi, .bool true, .int .i64 (ma : Int), .bool false] TA (0, 0)) := nest w4 [_] 0 _ rfl
      refine wpAnyH_ready (rs := [11]) (by kernel_rfl) (by simp) ?_
      refine AllReadyH.cons (o := { dst := none, op := Go.Op.store 56 (Go.Operand.tmp 8) (Go.Operand.tmp 51), type := 0, pos := "law.go:138", after := #[{ on := 10, ground := Go.Ground.data }, { on := 9, ground := Go.Ground.data }, { on := 9, ground := Go.Ground.chain }, { on := 0, ground := Go.Ground.phase }, { on := 1, ground := Go.Ground.phase }, { on := 2, ground := Go.Ground.phase }, { on := 3, ground := Go.Ground.phase }, { on := 4, ground := Go.Ground.phase }, { on := 5, ground := Go.Ground.phase }, { on := 6, ground := Go.Ground.phase }, { on := 7, ground := Go.Ground.phase }, { on := 8, ground := Go.Ground.phase }, { on := 9, ground := Go.Ground.phase }, { on := 10, ground := Go.Ground.phase }], guard := none }) rfl (fun K hK => ?_) AllReadyH.nil
      go_simp
      go_wp2_with fail
      refine hK.out _ _ ⟨stays HS4.out.1 (nest_below w4 [(.cells #[.string mi, .bool true, .int .i64 (ma : Int), .bool false] TA (0, 0))]), H5.out.blk, H5.out.a⟩ (fun hNext => ?_)
      clear hHeld
      clear hK K
      have hHeld := hNext
      clear hNext
      (try simp only [Act.put, List.setIfInBounds_toArray, List.set_cons_zero, List.set_cons_succ])
      refine wpAnyH_done (by kernel_rfl) ?_ _
      clear hHeld
      have HK2 := Lib.hid (show b.bk ≠ w4.heap.size from fun e => by have := lt_heap HN.out.k; omega)
      clear HS4 HN
      generalize w4.alloc (.cells #[.string mi, .bool true, .int .i64 (ma : Int), .bool false] TA (0, 0)) = w5 at H5 hac ⊢
      generalize w4.heap.size = ab at hac HK2 ⊢
      generalize retag w3 tag2 6 = tag5 at H5
      obtain ⟨⟨a0, a1, a2, a3⟩, af⟩ := cells4 hac
      have hmi := HM.out
      go_wp2_with fail
      have H6 := Lib.hid (H5.out.on (w' := w5.drew) ⟨rfl, rfl, rfl, Nat.le_refl _, fun _ _ => rfl⟩)
      have hac3 : w5.drew.heap[ab]? = some (.cells #[.string mi, .bool true, .int .i64 (ma : Int), .bool false] TA (0, 0)) := hac
      clear a0 a1 a2 a3 af hac H5
      refine wp_region_held_drew (S := (fun w' => w'.heap[ab]? = some (.cells #[.string mi, .bool true, .int .i64 (ma : Int), .bool false] TA (0, 0)) ∧ w'.heap[b.tb]? = some (.cells #[two b.ba, two b.bl, two b.bu, two b.bk, .bool x.bad] 46 (0, 0)) ∧ w'.heap[b.bk]? = some (.cells #[nm x.k0, nm x.k1] 3 (0, 0)))) (by kernel_rfl) ⟨hac3, H6.out.blk, H6.out.k⟩ (fun hHeld => ?_)
      refine' wpAnyH_take (i := 0) (oi := { dst := some 59, op := Go.Op.fieldAddr 56 (Go.Operand.tmp 8) 0, type := 0, pos := "law.go:143", after := #[], guard := none }) (v := _) rfl (by kernel_rfl) (by kernel_rfl) (by kernel_rfl) (fun _ _ _ h => h) (Or.inl ⟨by rfl, ?hy142⟩) (by assumption) ?hr142
      case hy142 => (intro _ hSw; (try dsimp only at hSw); go_simp <;> with_reducible rfl)
      simp only [Act.put, List.setIfInBounds_toArray, List.set_cons_zero, List.set_cons_succ]
      refine' wpAnyH_take (i := 1) (oi := { dst := some 60, op := Go.Op.load 9 (Go.Operand.tmp 59), type := 9, pos := "law.go:143", after := #[{ on := 0, ground := Go.Ground.data }], guard := none }) (v := _) rfl (by kernel_rfl) (by kernel_rfl) (by kernel_rfl) (fun _ _ _ h => h) (Or.inl ⟨by rfl, ?hy143⟩) (by assumption) ?hr143
      case hy143 => (intro _ hSw; (try dsimp only at hSw); obtain ⟨⟨y0, y1, y2, y3⟩, -⟩ := cells4 hSw.1; go_simp <;> with_reducible rfl)
      simp only [Act.put, List.setIfInBounds_toArray, List.set_cons_zero, List.set_cons_succ]
      refine' wpAnyH_take (i := 2) (oi := { dst := some 61, op := Go.Op.move (Go.Operand.tmp 0), type := 40, pos := "law.go:143", after := #[], guard := none }) (v := _) rfl (by kernel_rfl) (by kernel_rfl) (by kernel_rfl) (fun _ _ _ h => h) (Or.inl ⟨by rfl, ?hy144⟩) (by assumption) ?hr144
      case hy144 => (intro _ hSw; (try dsimp only at hSw); go_simp <;> with_reducible rfl)
      simp only [Act.put, List.setIfInBounds_toArray, List.set_cons_zero, List.set_cons_succ]
      refine' wpAnyH_take (i := 3) (oi := { dst := some 62, op := Go.Op.nilCheck (Go.Operand.tmp 61), type := 0, pos := "law.go:143", after := #[{ on := 2, ground := Go.Ground.data }], guard := none }) (v := _) rfl (by kernel_rfl) (by kernel_rfl) (by kernel_rfl) (fun _ _ _ h => h) (Or.inl ⟨by rfl, ?hy145⟩) (by assumption) ?hr145
      case hy145 => (intro _ hSw; (try dsimp only at hSw); go_simp <;> with_reducible rfl)
      simp only [Act.put, List.setIfInBounds_toArray, List.set_cons_zero, List.set_cons_succ]
      refine' wpAnyH_take (i := 4) (oi := { dst := some 63, op := Go.Op.fieldAddr 46 (Go.Operand.tmp 62) 3, type := 0, pos := "law.go:143", after := #[{ on := 3, ground := Go.Ground.data }], guard := none }) (v := _) rfl (by kernel_rfl) (by kernel_rfl) (by kernel_rfl) (fun _ _ _ h => h) (Or.inl ⟨by rfl, ?hy146⟩) (by assumption) ?hr146
      case hy146 => (intro _ hSw; (try dsimp only at hSw); go_simp <;> with_reducible rfl)
      simp only [Act.put, List.setIfInBounds_toArray, List.set_cons_zero, List.set_cons_succ]
      refine' wpAnyH_take (i := 5) (oi := { dst := some 64, op := Go.Op.load 44 (Go.Operand.tmp 63), type := 44, pos := "law.go:143", after := #[{ on := 4, ground := Go.Ground.data }], guard := none }) (v := _) rfl (by kernel_rfl) (by kernel_rfl) (by kernel_rfl) (fun _ _ _ h => h) (Or.inl ⟨by rfl, ?hy147⟩) (by assumption) ?hr147
      case hy147 => (intro _ hSw; (try dsimp only at hSw); have hc := cell_of (i := 3) (v := two b.bk) hSw.2.1 rfl; go_simp <;> with_reducible rfl)
      simp only [Act.put, List.setIfInBounds_toArray, List.set_cons_zero, List.set_cons_succ]
      refine' wpAnyH_take (i := 6) (oi := { dst := some 65, op := Go.Op.move (Go.Operand.tmp 1), type := 3, pos := "law.go:143", after := #[], guard := none }) (v := _) rfl (by kernel_rfl) (by kernel_rfl) (by kernel_rfl) (fun _ _ _ h => h) (Or.inl ⟨by rfl, ?hy148⟩) (by assumption) ?hr148
      case hy148 => (intro _ hSw; (try dsimp only at hSw); go_simp <;> with_reducible rfl)
      simp only [Act.put, List.setIfInBounds_toArray, List.set_cons_zero, List.set_cons_succ]
      refine' wpAnyH_take (i := 7) (oi := { dst := some 66, op := Go.Op.indexAddr 44 (Go.Operand.tmp 64) (Go.Operand.tmp 65), type := 0, pos := "law.go:143", after := #[{ on := 5, ground := Go.Ground.data }, { on := 6, ground := Go.Ground.data }], guard := none }) (v := _) rfl (by kernel_rfl) (by kernel_rfl) (by kernel_rfl) (fun _ _ _ h => h) (Or.inl ⟨by rfl, ?hy149⟩) (by assumption) ?hr149
      case hy149 => (intro _ hSw; (try dsimp only at hSw); go_simp <;> with_reducible rfl)
      simp only [Act.put, List.setIfInBounds_toArray, List.set_cons_zero, List.set_cons_succ]
      refine' wpAnyH_take (i := 8) (oi := { dst := some 67, op := Go.Op.load 3 (Go.Operand.tmp 66), type := 3, pos := "law.go:143", after := #[{ on := 7, ground := Go.Ground.data }], guard := none }) (v := _) rfl (by kernel_rfl) (by kernel_rfl) (by kernel_rfl) (fun _ _ _ h => h) (Or.inl ⟨by rfl, ?hy150⟩) (by assumption) ?hr150
      case hy150 => (intro _ hSw; (try dsimp only at hSw); have hc := cell_of (i := 0) (v := nm x.k0) hSw.2.2 rfl; go_simp <;> with_reducible rfl)
      simp only [Act.put, List.setIfInBounds_toArray, List.set_cons_zero, List.set_cons_succ]
      clear hHeld
      generalize w5.drew = w6 at H6 hac3 ⊢
      refine wpAnyH_ready (rs := [9]) (by kernel_rfl) (by simp) ?_
      refine AllReadyH.cons (o := { dst := some 68, op := Go.Op.call { callee := Go.Callee.value (Go.Operand.func 36), args := #[Go.Operand.tmp 67], argTypes := #[3] }, type := 9, pos := "law.go:143", after := #[{ on := 8, ground := Go.Ground.data }], guard := none }) rfl (fun K hK => ?_) AllReadyH.nil
      go_simp
      refine (finf x.k0 HKB.out _).mono ?_
      rintro _ w7 ⟨rfl, hb⟩
      have H7 := Lib.hid (H6.out.on hb)
      have hac7 := stays hac3 hb
      clear hb hac3 H6
      go_wp2_with fail
      refine hK.out _ _ ⟨hac7, H7.out.blk, H7.out.k⟩ (fun hNext => ?_)
      clear hK K
      have hHeld := hNext
      clear hNext
      (try simp only [Act.put, List.setIfInBounds_toArray, List.set_cons_zero, List.set_cons_succ])
      subst hmi
      have b1 : ((inf x.k0).toList == (inf x.k0).toList) = true := by simp
      have b2 : ((inf x.k0).toList != (inf x.k0).toList) = false := by simp
      generalize inf x.k0 = st at b1 b2 hHeld hac7 ⊢
      refine' wpAnyH_take (i := 10) (oi := { dst := some 69, op := Go.Op.binOp Go.BinOp.neq 9 (Go.Operand.tmp 60) (Go.Operand.tmp 68) 9, type := 4, pos := "law.go:143", after := #[{ on := 1, ground := Go.Ground.data }, { on := 9, ground := Go.Ground.data }], guard := none }) (v := _) rfl (by kernel_rfl) (by kernel_rfl) (by kernel_rfl) (fun _ _ _ h => h) (Or.inl ⟨by rfl, ?hy151⟩) (by assumption) ?hr151
      case hy151 => (intro _ hSw; (try dsimp only at hSw); go_simp <;> with_reducible rfl)
      simp only [Act.put, List.setIfInBounds_toArray, List.set_cons_zero, List.set_cons_succ]
      refine wpAnyH_done (by kernel_rfl) ?_ _
      clear hHeld
      have c3 : w7.cell? ⟨b.tb, 3, none⟩ = some (two b.bk) := cell_of H7.out.blk rfl
      have ck : w7.cell? ⟨b.bk, 0, none⟩ = some (nm x.k0) := cell_of H7.out.k rfl
      have fk2 : ∀ i, w7.frozen? ⟨b.bk, i, none⟩ = false := fun _ => free_of H7.out.k
      have vk : IntKind.i64.wrap ((x.k0 : Int) + 1) = ((x.k0 + 1 : Nat) : Int) := by have := HKB.out; rw [IntKind.wrap_i64]; omega
      have H8 := Lib.hid (H7.out.put_k (x.k0 + 1) x.k1 (chg_cell w7 b.bk 0 (nm (x.k0 + 1))) (block_set (i := 0) H7.out.k _))
      clear H7 hac7
      obtain ⟨kn, hkn⟩ : ∃ kn, x.k0 + 1 = kn := ⟨_, rfl⟩
      rw [hkn] at vk H8
      have HKN := Lib.hid hkn
      clear hkn
      go_wp2
      go_ret
      have hkn := HKN.out
      clear HKN
      subst hkn
      exact ⟨rfl, _, _, _, _, _, H8.out⟩
    · go_simp
      refine hK.out _ _ ⟨stays HS3.out.1 (nest_below w3 [noM TA]), stays HS3.out.2.1 (nest_below w3 [noM TA]), stays HS3.out.2.2 (nest_below w3 [noM TA])⟩ (fun hNext => ?_)
      clear hK K
      have hHeld := hNext
      clear hNext
      (try simp only [Act.put, List.setIfInBounds_toArray, List.set_cons_zero, List.set_cons_succ])
      have H4 := Lib.hid ((H3.out.mark 9).on (show Below w3.heap.size w3 (w3.alloc (noM TA)) from nest_below w3 [_]))
      have HT4 := Lib.hid (show retag w3 tag2 9 w3.heap.size = 9 from retag_new (Nat.le_refl _))
      generalize retag w3 tag2 9 = tag4 at H4 HT4
      have hn4 : (w3.alloc (noM TA)).heap[w3.heap.size]? = some (noM TA) := nest w3 [_] 0 _ rfl
      have hs4 := size_alloc w3 (noM TA)
      have HS4 := Lib.hid (show (w3.alloc (noM TA)).heap[fb]? = some (.cells #[.int .u8 0, .bool fc, .int .u8 (fk : Int), .bool fpf, .int .u8 (fns : Int), .int .u8 (fnr : Int), .string fi] TF (0, 0)) from stays HS3.out.1 (nest_below w3 [noM TA]))
      refine wpAnyH_ready (rs := [9]) (by kernel_rfl) (by simp) ?_
      refine AllReadyH.cons (o := { dst := some 51, op := Go.Op.call { callee := Go.Callee.value (Go.Operand.func 24), args := #[Go.Operand.tmp 49, Go.Operand.tmp 50], argTypes := #[28, 25] }, type := 56, pos := "law.go:138", after := #[{ on := 7, ground := Go.Ground.data }, { on := 8, ground := Go.Ground.data }], guard := none }) rfl (fun K hK => ?_) AllReadyH.nil
      go_simp
      refine (CH.out _ H4.out.s1).mono ?_
      rintro _ w4 ⟨rfl, u, hd⟩
      have HN := Lib.hid (H4.out.doB hd)
      have hn5 : w4.heap[w3.heap.size]? = some (noM TA) := hd.chg.stays hn4 (fun e => by
        rcases e with e | e
        · have := H4.out.t6; have := HT4.out; rw [e] at this; omega
        · have := H4.out.o1 _ e; have := HT4.out; omega)
      have hf5 : w4.heap[fb]? = some (.cells #[.int .u8 0, .bool fc, .int .u8 (fk : Int), .bool fpf, .int .u8 (fns : Int), .int .u8 (fnr : Int), .string fi] TF (0, 0)) := hd.chg.stays HS4.out (fun e => by
        rcases e with e | e
        · exact HF3.out.2.1 e.symm
        · exact HF3.out.2.2 _ e rfl)
      have htn : retag (w3.alloc (noM TA)) tag4 6 w3.heap.size = 9 := by rw [retag_old (by omega)]; exact HT4.out
      go_wp2_with fail
      refine hK.out _ _ ⟨hf5, HN.out.blk, HN.out.a⟩ (fun hNext => ?_)
      clear hd CH hHeld hn4
      clear hK K
      have hHeld := hNext
      clear hNext
      (try simp only [Act.put, List.setIfInBounds_toArray, List.set_cons_zero, List.set_cons_succ])
      obtain ⟨⟨y0, y1, y2, y3⟩, yf⟩ := cells4 hn5
      have hac : ((((w4.setCell ⟨w3.heap.size, 0, none⟩ (.string mi)).setCell ⟨w3.heap.size, 1, none⟩ (.bool true)).setCell ⟨w3.heap.size, 2, none⟩ (.int .i64 (ma : Int))).setCell ⟨w3.heap.size, 3, none⟩ (.bool false)).heap[w3.heap.size]? = some (.cells #[.string mi, .bool true, .int .i64 (ma : Int), .bool false] TA (0, 0)) := set4_at hn5 (.string mi) (.bool true) (.int .i64 (ma : Int)) (.bool false)
      have hcc : Chg (fun k => k = w3.heap.size) w4 ((((w4.setCell ⟨w3.heap.size, 0, none⟩ (.string mi)).setCell ⟨w3.heap.size, 1, none⟩ (.bool true)).setCell ⟨w3.heap.size, 2, none⟩ (.int .i64 (ma : Int))).setCell ⟨w3.heap.size, 3, none⟩ (.bool false)) := chg_set4 (S := fun k => k = w3.heap.size) (Chg.refl _ w4) (fun _ => rfl) _ _ _ _
      have H5 := Lib.hid (HN.out.other hcc htn H3.out.below.size)
      refine wpAnyH_ready (rs := [11]) (by kernel_rfl) (by simp) ?_
      refine AllReadyH.cons (o := { dst := none, op := Go.Op.store 56 (Go.Operand.tmp 8) (Go.Operand.tmp 51), type := 0, pos := "law.go:138", after := #[{ on := 10, ground := Go.Ground.data }, { on := 9, ground := Go.Ground.data }, { on := 9, ground := Go.Ground.chain }, { on := 0, ground := Go.Ground.phase }, { on := 1, ground := Go.Ground.phase }, { on := 2, ground := Go.Ground.phase }, { on := 3, ground := Go.Ground.phase }, { on := 4, ground := Go.Ground.phase }, { on := 5, ground := Go.Ground.phase }, { on := 6, ground := Go.Ground.phase }, { on := 7, ground := Go.Ground.phase }, { on := 8, ground := Go.Ground.phase }, { on := 9, ground := Go.Ground.phase }, { on := 10, ground := Go.Ground.phase }], guard := none }) rfl (fun K hK => ?_) AllReadyH.nil
      go_simp
      go_wp2_with fail
      refine hK.out _ _ ⟨hcc.stays hf5 (fun e => by have := lt_heap HS3.out.1; omega), H5.out.blk, H5.out.a⟩ (fun hNext => ?_)
      clear hHeld
      clear hK K
      have hHeld := hNext
      clear hNext
      (try simp only [Act.put, List.setIfInBounds_toArray, List.set_cons_zero, List.set_cons_succ])
      refine wpAnyH_done (by kernel_rfl) ?_ _
      clear hHeld
      have HK2 := Lib.hid (show b.bk ≠ w3.heap.size from fun e => by have := lt_heap H3.out.k; omega)
      clear HS3 HF3 HS4 HN H4 HT4 hn5 hf5 htn hcc y0 y1 y2 y3 yf hs4 H3
      generalize ((((w4.setCell ⟨w3.heap.size, 0, none⟩ (.string mi)).setCell ⟨w3.heap.size, 1, none⟩ (.bool true)).setCell ⟨w3.heap.size, 2, none⟩ (.int .i64 (ma : Int))).setCell ⟨w3.heap.size, 3, none⟩ (.bool false)) = w5 at H5 hac ⊢
      generalize w3.heap.size = ab at hac HK2 ⊢
      generalize retag (w3.alloc (noM TA)) tag4 6 = tag5 at H5
      obtain ⟨⟨a0, a1, a2, a3⟩, af⟩ := cells4 hac
      have hmi := HM.out
      go_wp2_with fail
      have H6 := Lib.hid (H5.out.on (w' := w5.drew) ⟨rfl, rfl, rfl, Nat.le_refl _, fun _ _ => rfl⟩)
      have hac3 : w5.drew.heap[ab]? = some (.cells #[.string mi, .bool true, .int .i64 (ma : Int), .bool false] TA (0, 0)) := hac
      clear a0 a1 a2 a3 af hac H5
      refine wp_region_held_drew (S := (fun w' => w'.heap[ab]? = some (.cells #[.string mi, .bool true, .int .i64 (ma : Int), .bool false] TA (0, 0)) ∧ w'.heap[b.tb]? = some (.cells #[two b.ba, two b.bl, two b.bu, two b.bk, .bool x.bad] 46 (0, 0)) ∧ w'.heap[b.bk]? = some (.cells #[nm x.k0, nm x.k1] 3 (0, 0)))) (by kernel_rfl) ⟨hac3, H6.out.blk, H6.out.k⟩ (fun hHeld => ?_)
      refine' wpAnyH_take (i := 0) (oi := { dst := some 59, op := Go.Op.fieldAddr 56 (Go.Operand.tmp 8) 0, type := 0, pos := "law.go:143", after := #[], guard := none }) (v := _) rfl (by kernel_rfl) (by kernel_rfl) (by kernel_rfl) (fun _ _ _ h => h) (Or.inl ⟨by rfl, ?hy152⟩) (by assumption) ?hr152
      case hy152 => (intro _ hSw; (try dsimp only at hSw); go_simp <;> with_reducible rfl)
      simp only [Act.put, List.setIfInBounds_toArray, List.set_cons_zero, List.set_cons_succ]
      refine' wpAnyH_take (i := 1) (oi := { dst := some 60, op := Go.Op.load 9 (Go.Operand.tmp 59), type := 9, pos := "law.go:143", after := #[{ on := 0, ground := Go.Ground.data }], guard := none }) (v := _) rfl (by kernel_rfl) (by kernel_rfl) (by kernel_rfl) (fun _ _ _ h => h) (Or.inl ⟨by rfl, ?hy153⟩) (by assumption) ?hr153
      case hy153 => (intro _ hSw; (try dsimp only at hSw); obtain ⟨⟨y0, y1, y2, y3⟩, -⟩ := cells4 hSw.1; go_simp <;> with_reducible rfl)
      simp only [Act.put, List.setIfInBounds_toArray, List.set_cons_zero, List.set_cons_succ]
      refine' wpAnyH_take (i := 2) (oi := { dst := some 61, op := Go.Op.move (Go.Operand.tmp 0), type := 40, pos := "law.go:143", after := #[], guard := none }) (v := _) rfl (by kernel_rfl) (by kernel_rfl) (by kernel_rfl) (fun _ _ _ h => h) (Or.inl ⟨by rfl, ?hy154⟩) (by assumption) ?hr154
      case hy154 => (intro _ hSw; (try dsimp only at hSw); go_simp <;> with_reducible rfl)
      simp only [Act.put, List.setIfInBounds_toArray, List.set_cons_zero, List.set_cons_succ]
      refine' wpAnyH_take (i := 3) (oi := { dst := some 62, op := Go.Op.nilCheck (Go.Operand.tmp 61), type := 0, pos := "law.go:143", after := #[{ on := 2, ground := Go.Ground.data }], guard := none }) (v := _) rfl (by kernel_rfl) (by kernel_rfl) (by kernel_rfl) (fun _ _ _ h => h) (Or.inl ⟨by rfl, ?hy155⟩) (by assumption) ?hr155
      case hy155 => (intro _ hSw; (try dsimp only at hSw); go_simp <;> with_reducible rfl)
      simp only [Act.put, List.setIfInBounds_toArray, List.set_cons_zero, List.set_cons_succ]
      refine' wpAnyH_take (i := 4) (oi := { dst := some 63, op := Go.Op.fieldAddr 46 (Go.Operand.tmp 62) 3, type := 0, pos := "law.go:143", after := #[{ on := 3, ground := Go.Ground.data }], guard := none }) (v := _) rfl (by kernel_rfl) (by kernel_rfl) (by kernel_rfl) (fun _ _ _ h => h) (Or.inl ⟨by rfl, ?hy156⟩) (by assumption) ?hr156
      case hy156 => (intro _ hSw; (try dsimp only at hSw); go_simp <;> with_reducible rfl)
      simp only [Act.put, List.setIfInBounds_toArray, List.set_cons_zero, List.set_cons_succ]
      refine' wpAnyH_take (i := 5) (oi := { dst := some 64, op := Go.Op.load 44 (Go.Operand.tmp 63), type := 44, pos := "law.go:143", after := #[{ on := 4, ground := Go.Ground.data }], guard := none }) (v := _) rfl (by kernel_rfl) (by kernel_rfl) (by kernel_rfl) (fun _ _ _ h => h) (Or.inl ⟨by rfl, ?hy157⟩) (by assumption) ?hr157
      case hy157 => (intro _ hSw; (try dsimp only at hSw); have hc := cell_of (i := 3) (v := two b.bk) hSw.2.1 rfl; go_simp <;> with_reducible rfl)
      simp only [Act.put, List.setIfInBounds_toArray, List.set_cons_zero, List.set_cons_succ]
      refine' wpAnyH_take (i := 6) (oi := { dst := some 65, op := Go.Op.move (Go.Operand.tmp 1), type := 3, pos := "law.go:143", after := #[], guard := none }) (v := _) rfl (by kernel_rfl) (by kernel_rfl) (by kernel_rfl) (fun _ _ _ h => h) (Or.inl ⟨by rfl, ?hy158⟩) (by assumption) ?hr158
      case hy158 => (intro _ hSw; (try dsimp only at hSw); go_simp <;> with_reducible rfl)
      simp only [Act.put, List.setIfInBounds_toArray, List.set_cons_zero, List.set_cons_succ]
      refine' wpAnyH_take (i := 7) (oi := { dst := some 66, op := Go.Op.indexAddr 44 (Go.Operand.tmp 64) (Go.Operand.tmp 65), type := 0, pos := "law.go:143", after := #[{ on := 5, ground := Go.Ground.data }, { on := 6, ground := Go.Ground.data }], guard := none }) (v := _) rfl (by kernel_rfl) (by kernel_rfl) (by kernel_rfl) (fun _ _ _ h => h) (Or.inl ⟨by rfl, ?hy159⟩) (by assumption) ?hr159
      case hy159 => (intro _ hSw; (try dsimp only at hSw); go_simp <;> with_reducible rfl)
      simp only [Act.put, List.setIfInBounds_toArray, List.set_cons_zero, List.set_cons_succ]
      refine' wpAnyH_take (i := 8) (oi := { dst := some 67, op := Go.Op.load 3 (Go.Operand.tmp 66), type := 3, pos := "law.go:143", after := #[{ on := 7, ground := Go.Ground.data }], guard := none }) (v := _) rfl (by kernel_rfl) (by kernel_rfl) (by kernel_rfl) (fun _ _ _ h => h) (Or.inl ⟨by rfl, ?hy160⟩) (by assumption) ?hr160
      case hy160 => (intro _ hSw; (try dsimp only at hSw); have hc := cell_of (i := 0) (v := nm x.k0) hSw.2.2 rfl; go_simp <;> with_reducible rfl)
      simp only [Act.put, List.setIfInBounds_toArray, List.set_cons_zero, List.set_cons_succ]
      clear hHeld
      generalize w5.drew = w6 at H6 hac3 ⊢
      refine wpAnyH_ready (rs := [9]) (by kernel_rfl) (by simp) ?_
      refine AllReadyH.cons (o := { dst := some 68, op := Go.Op.call { callee := Go.Callee.value (Go.Operand.func 36), args := #[Go.Operand.tmp 67], argTypes := #[3] }, type := 9, pos := "law.go:143", after := #[{ on := 8, ground := Go.Ground.data }], guard := none }) rfl (fun K hK => ?_) AllReadyH.nil
      go_simp
      refine (finf x.k0 HKB.out _).mono ?_
      rintro _ w7 ⟨rfl, hb⟩
      have H7 := Lib.hid (H6.out.on hb)
      have hac7 := stays hac3 hb
      clear hb hac3 H6
      go_wp2_with fail
      refine hK.out _ _ ⟨hac7, H7.out.blk, H7.out.k⟩ (fun hNext => ?_)
      clear hK K
      have hHeld := hNext
      clear hNext
      (try simp only [Act.put, List.setIfInBounds_toArray, List.set_cons_zero, List.set_cons_succ])
      subst hmi
      have b1 : ((inf x.k0).toList == (inf x.k0).toList) = true := by simp
      have b2 : ((inf x.k0).toList != (inf x.k0).toList) = false := by simp
      generalize inf x.k0 = st at b1 b2 hHeld hac7 ⊢
      refine' wpAnyH_take (i := 10) (oi := { dst := some 69, op := Go.Op.binOp Go.BinOp.neq 9 (Go.Operand.tmp 60) (Go.Operand.tmp 68) 9, type := 4, pos := "law.go:143", after := #[{ on := 1, ground := Go.Ground.data }, { on := 9, ground := Go.Ground.data }], guard := none }) (v := _) rfl (by kernel_rfl) (by kernel_rfl) (by kernel_rfl) (fun _ _ _ h => h) (Or.inl ⟨by rfl, ?hy161⟩) (by assumption) ?hr161
      case hy161 => (intro _ hSw; (try dsimp only at hSw); go_simp <;> with_reducible rfl)
      simp only [Act.put, List.setIfInBounds_toArray, List.set_cons_zero, List.set_cons_succ]
      refine wpAnyH_done (by kernel_rfl) ?_ _
      clear hHeld
      have c3 : w7.cell? ⟨b.tb, 3, none⟩ = some (two b.bk) := cell_of H7.out.blk rfl
      have ck : w7.cell? ⟨b.bk, 0, none⟩ = some (nm x.k0) := cell_of H7.out.k rfl
      have fk2 : ∀ i, w7.frozen? ⟨b.bk, i, none⟩ = false := fun _ => free_of H7.out.k
      have vk : IntKind.i64.wrap ((x.k0 : Int) + 1) = ((x.k0 + 1 : Nat) : Int) := by have := HKB.out; rw [IntKind.wrap_i64]; omega
      have H8 := Lib.hid (H7.out.put_k (x.k0 + 1) x.k1 (chg_cell w7 b.bk 0 (nm (x.k0 + 1))) (block_set (i := 0) H7.out.k _))
      clear H7 hac7
      obtain ⟨kn, hkn⟩ : ∃ kn, x.k0 + 1 = kn := ⟨_, rfl⟩
      rw [hkn] at vk H8
      have HKN := Lib.hid hkn
      clear hkn
      go_wp2
      go_ret
      have hkn := HKN.out
      clear HKN
      subst hkn
      exact ⟨rfl, _, _, _, _, _, H8.out⟩
end Go.Proofs.Ytkoaplmlabagnaa.Aq
