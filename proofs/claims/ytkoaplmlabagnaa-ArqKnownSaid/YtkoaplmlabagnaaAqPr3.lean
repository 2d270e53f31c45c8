/-
  The first frame of a line is heard by the other side, or lost. Condition: they lie where they say; what is heard is in order.
  The first frame of the other line is heard by the first side, or lost. Condition: they lie where they say; what is heard is in order.
-/
import Derived.Test.YtkoaplmlabagnaaTk
import Derived.Test.YtkoaplmlabagnaaAqPr2
namespace Go.Proofs.Ytkoaplmlabagnaa.Aq
open Go.RowKit Go.Proofs.Ytkoaplmlabagnaa.Base Go.Proofs.Ytkoaplmlabagnaa.Mem
theorem qz7_cons {w : World} {base n c : Nat} {o : Option Addr} {x : Fm} {r : List Fm} (h : Qz 7 fcF w base (.slice o n c) (x :: r)) :
    ∃ g off, o = some ⟨g, off, none⟩ ∧ n = r.length + 1 ∧ n ≤ c ∧ c ≤ 9223372036854775807 ∧ base ≤ g ∧ g < w.heap.size ∧
      (w.cell? ⟨g, off, none⟩ = some (.int .u8 0) ∧ w.cell? ⟨g, off + 1, none⟩ = some (.bool x.c) ∧ w.cell? ⟨g, off + 2, none⟩ = some (.int .u8 (x.k : Int)) ∧ w.cell? ⟨g, off + 3, none⟩ = some (.bool x.pf) ∧ w.cell? ⟨g, off + 4, none⟩ = some (.int .u8 (x.ns : Int)) ∧ w.cell? ⟨g, off + 5, none⟩ = some (.int .u8 (x.nr : Int)) ∧ w.cell? ⟨g, off + 6, none⟩ = some (.string x.i)) ∧
      Qz 7 fcF w base (.slice (if c = 1 then some ⟨g, off, none⟩ else some ⟨g, off + 7, none⟩) r.length (c - 1)) r := by
  rcases h with ⟨_, h⟩ | ⟨g, off, cap, hv, hb, hR⟩
  · cases h
  · injection hv with h1 h2 h3
    subst h1 h2 h3
    have hl := hR.len
    refine ⟨g, off, rfl, rfl, hl, hR.max, hb, hR.lt, ⟨hR.cell 0 x rfl 0 (by decide), hR.cell 0 x rfl 1 (by decide), hR.cell 0 x rfl 2 (by decide), hR.cell 0 x rfl 3 (by decide), hR.cell 0 x rfl 4 (by decide), hR.cell 0 x rfl 5 (by decide), hR.cell 0 x rfl 6 (by decide)⟩, ?_⟩
    rw [List.length_cons] at hl
    by_cases hc : c = 1
    · rw [if_pos hc]
      have hr : r = [] := List.eq_nil_of_length_eq_zero (by omega)
      subst hr
      subst hc
      exact Qz.of hb ⟨Nat.zero_le _, by decide, hR.lt, fun i y hi => (by simp at hi), fun i hi => (by simp at hi), fun i hi => (by simp at hi)⟩ rfl
    · rw [if_neg hc]
      have := hR.drop 1 (by omega)
      rw [Nat.mul_one] at this
      exact Qz.of hb this (by simp)
section
variable {w0 w w' : World} {b : Bk} {x : Pr} {q0 q1 v0 v1 : Value} {tag : Nat → Nat}
theorem PrAt.mark (h : PrAt w0 b x q0 q1 v0 v1 tag w) (i : Nat) : PrAt w0 b x q0 q1 v0 v1 (retag w tag i) w :=
  ⟨h.blk, h.a, h.l, h.u, h.k, h.s0, h.s1, h.l0, h.l1, (retag_old (lt_heap h.blk)).trans h.t0, (retag_old (lt_heap h.a)).trans h.ta, (retag_old (lt_heap h.l)).trans h.tl, (retag_old (lt_heap h.u)).trans h.tu, (retag_old (lt_heap h.k)).trans h.tk, (retag_old h.s0.lt).trans h.t5, (retag_old h.s1.lt).trans h.t6, fun g hg => (retag_old (h.s0.q.lt g hg).2).trans (h.o0 g hg), fun g hg => (retag_old (h.s1.q.lt g hg).2).trans (h.o1 g hg), fun g hg => (retag_old (h.l0.lt g hg).2).trans (h.o7 g hg), fun g hg => (retag_old (h.l1.lt g hg).2).trans (h.o8 g hg), h.lo, h.below⟩
theorem PrAt.other {n : Nat} (h : PrAt w0 b x q0 q1 v0 v1 tag w) (hc : Chg (fun k => k = n) w w') (ht : tag n = 9) (hn : w0.heap.size ≤ n) : PrAt w0 b x q0 q1 v0 v1 tag w' := by
  have hS : ∀ k, k = n → tag k = 9 := fun k e => by rw [e]; exact ht
  exact ⟨stay_tag hc hS h.blk (by rw [h.t0]; decide), stay_tag hc hS h.a (by rw [h.ta]; decide), stay_tag hc hS h.l (by rw [h.tl]; decide), stay_tag hc hS h.u (by rw [h.tu]; decide), stay_tag hc hS h.k (by rw [h.tk]; decide), pat_tag hc hS h.s0 h.t5 h.o0 (by decide), pat_tag hc hS h.s1 h.t6 h.o1 (by decide), qz_tag hc hS h.l0 h.o7 (by decide), qz_tag hc hS h.l1 h.o8 (by decide), h.t0, h.ta, h.tl, h.tu, h.tk, h.t5, h.t6, h.o0, h.o1, h.o7, h.o8, h.lo, hc.below h.below h.below.size fun k e => by omega⟩
end
set_option maxHeartbeats 2000000 in
theorem fhand0_none (w0 w : World) (b : Bk) (x : Pr) (lost : Bool) (h : PrE w0 b x w) (hL : x.L0 = []) :
    Calls Try.prog 38 #[ptr b.tb, .int .i64 0, .bool lost] w fun e w' => e = .returned (.bool false) ∧ w = w' := by
  obtain ⟨q0, q1, v0, v1, tag, h⟩ := h
  have c1 : w.cell? ⟨b.tb, 1, none⟩ = some (two b.bl) := cell_of h.blk rfl
  obtain ⟨oa, cap, hv⟩ := h.l0.form
  rw [hL, List.map_nil, List.length_nil] at hv
  have cl : w.cell? ⟨b.bl, 0, none⟩ = some (.slice oa 0 cap) := by rw [← hv]; exact cell_of h.l rfl
  clear h hL hv
  go_enter Try.func38, Try.ntmps38
  go_wp2
  go_ret
  exact ⟨rfl, rfl⟩
set_option maxHeartbeats 4000000 in
set_option maxRecDepth 100000 in
theorem fhand0_lost (w0 w : World) (b : Bk) (x : Pr) (h : PrE w0 b x w) (fc : Bool) (fk : Nat) (fpf : Bool) (fns fnr : Nat) (fi : ByteArray) (j rr : Nat) (r : List Gf) (hL : x.L0 = ⟨⟨fc, fk, fpf, fns, fnr, fi⟩, j, rr⟩ :: r) :
    Calls Try.prog 38 #[ptr b.tb, .int .i64 0, .bool true] w fun e w' => e = .returned (.bool true) ∧ PrE w0 b { x with L0 := r } w' := by
  obtain ⟨q0, q1, v0, v1, tag, h⟩ := h
  have c1 : w.cell? ⟨b.tb, 1, none⟩ = some (two b.bl) := cell_of h.blk rfl
  obtain ⟨oa, cap, hv⟩ := h.l0.form
  have hql : Qz 7 fcF w w0.heap.size v0 ((⟨fc, fk, fpf, fns, fnr, fi⟩ : Fm) :: r.map Gf.f) := by have := h.l0; rw [hL] at this; exact this
  rw [hL, List.map_cons, List.length_cons, List.length_map] at hv
  rw [hv] at hql
  obtain ⟨g, off, ho, hn, hcap, hmax, hbg, hgw, ⟨e0, e1, e2, e3, e4, e5, e6⟩, hq⟩ := qz7_cons hql
  subst ho
  dsimp only at e1 e2 e3 e4 e5 e6
  have cl : w.cell? ⟨b.bl, 0, none⟩ = some (.slice (some ⟨g, off, none⟩) (r.length + 1) cap) := by rw [← hv]; exact cell_of h.l rfl
  obtain ⟨z, hz⟩ : ∃ z, r.length = z := ⟨_, rfl⟩
  rw [List.length_map] at hq
  rw [hz] at hcap hq cl hv
  have HV := Lib.hid hv
  have HQ := Lib.hid hq
  have HX := Lib.hid h
  have z0 : ((z + 1 : Nat) : Int) = (z : Int) + 1 := by omega
  have z1 : ¬ (z : Int) + 1 = 0 := by omega
  have z2 : decide ((0 : Int) < (z : Int) + 1) = true := decide_eq_true (by omega)
  have z3 : (((z : Int) + 1) == 0) = false := beq_false (by omega)
  have z4 : (0 : Int) < (z : Int) + 1 := by omega
  have z5 : (1 : Int) ≤ (z : Int) + 1 := by omega
  have hbl := lt_heap h.l
  have htb := lt_heap h.blk
  have hne : b.tb ≠ b.bl := fun e => by have := h.t0; have := h.tl; rw [e] at *; omega
  clear h hL hv hq hql hn hz
  go_enter Try.func38, Try.ntmps38
  go_wp2_with fail
  have H1 : Hid (PrAt w0 b x q0 q1 v0 v1 tag (w.alloc (.cells #[.int .u8 0, .bool fc, .int .u8 (fk : Int), .bool fpf, .int .u8 (fns : Int), .int .u8 (fnr : Int), .string fi] TF (0, 0))).drew) := Lib.hid (HX.out.on ((show Below w.heap.size w (w.alloc (.cells #[.int .u8 0, .bool fc, .int .u8 (fk : Int), .bool fpf, .int .u8 (fns : Int), .int .u8 (fnr : Int), .string fi] TF (0, 0))) from nest_below w [_]).drew))
  have HQ1 : Hid (Qz 7 fcF (w.alloc (.cells #[.int .u8 0, .bool fc, .int .u8 (fk : Int), .bool fpf, .int .u8 (fns : Int), .int .u8 (fnr : Int), .string fi] TF (0, 0))).drew w0.heap.size (.slice (if cap = 1 then some ⟨g, off, none⟩ else some ⟨g, off + 7, none⟩) z (cap - 1)) (r.map Gf.f)) := Lib.hid (HQ.out.below ((show Below w.heap.size w (w.alloc (.cells #[.int .u8 0, .bool fc, .int .u8 (fk : Int), .bool fpf, .int .u8 (fns : Int), .int .u8 (fnr : Int), .string fi] TF (0, 0))) from nest_below w [_]).drew))
  have hA1 : (w.alloc (.cells #[.int .u8 0, .bool fc, .int .u8 (fk : Int), .bool fpf, .int .u8 (fns : Int), .int .u8 (fnr : Int), .string fi] TF (0, 0))).drew.heap[w.heap.size]? = some (.cells #[.int .u8 0, .bool fc, .int .u8 (fk : Int), .bool fpf, .int .u8 (fns : Int), .int .u8 (fnr : Int), .string fi] TF (0, 0)) := nest w [_] 0 _ rfl
  obtain ⟨fb, hfb⟩ : ∃ n, n = w.heap.size := ⟨_, rfl⟩
  have HFB := Lib.hid hfb
  rw [← hfb] at hA1 hbl htb
  simp only [← hfb]
  clear hfb e0 e1 e2 e3 e4 e5 e6 hgw HQ c1 cl
  generalize hw1 : (w.alloc (.cells #[.int .u8 0, .bool fc, .int .u8 (fk : Int), .bool fpf, .int .u8 (fns : Int), .int .u8 (fnr : Int), .string fi] TF (0, 0))).drew = w1 at H1 HQ1 hA1
  have b2 : w1.cell? ⟨b.bl, 0, none⟩ = some (.slice (some ⟨g, off, none⟩) (z + 1) cap) := by rw [← HV.out]; exact cell_of H1.out.l rfl
  have f2 : ∀ i, w1.frozen? ⟨b.bl, i, none⟩ = false := fun _ => free_of H1.out.l
  have HTB := Lib.hid H1.out.blk
  refine wp_region_held_drew (S := (fun w' => w'.heap[b.tb]? = some (.cells #[two b.ba, two b.bl, two b.bu, two b.bk, .bool x.bad] 46 (0, 0)))) (by kernel_rfl) (hw1 ▸ HTB.out) (fun hHeld => ?_)
  refine' tk 0 ⟨some 27, .move (.tmp 0), 40, "law.go:134", #[], none⟩ ?_
  simp only [Act.put, z1', z2', z3']
  refine' tk 1 ⟨some 28, .nilCheck (.tmp 27), 0, "law.go:134", #[⟨0, .data⟩], none⟩ ?_
  simp only [Act.put, z1', z2', z3']
  refine' tk 2 ⟨some 29, .fieldAddr 46 (.tmp 28) 1, 0, "law.go:134", #[⟨1, .data⟩], none⟩ ?_
  simp only [Act.put, z1', z2', z3']
  refine' tv 3 ⟨some 30, .load 43 (.tmp 29), 43, "law.go:134", #[⟨2, .data⟩], none⟩ ?hy4 ?hr4
  case hy4 => (intro _ hSw; (try dsimp only at hSw); have hc := cell_of (i := 1) (v := two b.bl) hSw rfl; go_simp <;> with_reducible rfl)
  simp only [Act.put, z1', z2', z3']
  refine' tk 4 ⟨some 31, .move (.tmp 1), 3, "law.go:134", #[], none⟩ ?_
  simp only [Act.put, z1', z2', z3']
  refine' tk 5 ⟨some 32, .move (.tmp 0), 40, "law.go:134", #[], none⟩ ?_
  simp only [Act.put, z1', z2', z3']
  refine' tk 6 ⟨some 33, .nilCheck (.tmp 32), 0, "law.go:134", #[⟨5, .data⟩], none⟩ ?_
  simp only [Act.put, z1', z2', z3']
  refine' tk 7 ⟨some 34, .fieldAddr 46 (.tmp 33) 1, 0, "law.go:134", #[⟨6, .data⟩], none⟩ ?_
  simp only [Act.put, z1', z2', z3']
  refine' tv 8 ⟨some 35, .load 43 (.tmp 34), 43, "law.go:134", #[⟨7, .data⟩], none⟩ ?hy9 ?hr9
  case hy9 => (intro _ hSw; (try dsimp only at hSw); have hc := cell_of (i := 1) (v := two b.bl) hSw rfl; go_simp <;> with_reducible rfl)
  simp only [Act.put, z1', z2', z3']
  refine' tk 9 ⟨some 36, .move (.tmp 1), 3, "law.go:134", #[], none⟩ ?_
  simp only [Act.put, z1', z2', z3']
  refine' tk 10 ⟨some 37, .indexAddr 43 (.tmp 35) (.tmp 36), 0, "law.go:134", #[⟨8, .data⟩, ⟨9, .data⟩], none⟩ ?_
  simp only [Act.put, z1', z2', z3']
  rw [hw1]
  clear hw1
  refine ry [11] ?_
  refine AllReadyH.cons rfl (fun K hK => ?_) AllReadyH.nil
  go_simp
  refine hK.out _ _ HTB.out (fun hNext => ?_)
  clear hHeld
  clear hK K
  have hHeld := hNext
  clear hNext
  (try simp only [Act.put, z1', z2', z3'])
  by_cases hc1 : cap = 1
  · rw [if_pos hc1] at HQ1
    subst hc1
    obtain rfl : z = 0 := by omega
    refine' tk 12 ⟨some 39, .slice 88 (.tmp 38) (some (.const (.int .i64 1))) none none, 88, "law.go:134", #[⟨11, .data⟩], none⟩ ?_
    simp only [Act.put, z1', z2', z3']
    refine' tk 13 ⟨some 40, .indexAddr 43 (.tmp 30) (.tmp 31), 0, "law.go:134", #[⟨3, .data⟩, ⟨4, .data⟩, ⟨0, .phase⟩, ⟨1, .phase⟩, ⟨2, .phase⟩, ⟨3, .phase⟩, ⟨4, .phase⟩, ⟨5, .phase⟩, ⟨6, .phase⟩, ⟨7, .phase⟩, ⟨8, .phase⟩, ⟨9, .phase⟩, ⟨10, .phase⟩, ⟨11, .phase⟩, ⟨12, .phase⟩], none⟩ ?_
    simp only [Act.put, z1', z2', z3']
    refine ry [14] ?_
    refine AllReadyH.cons rfl (fun K hK => ?_) AllReadyH.nil
    go_simp
    refine hK.out _ _ ((set_other hne _).trans HTB.out) (fun hNext => ?_)
    clear hNext hHeld
    refine wpAnyH_done (by kernel_rfl) ?_ _
    clear hK K
    have hgr : w1.grownBy w1 v0.ownBlock := ⟨rfl, rfl, rfl, Nat.le_refl _, fun _ _ _ => rfl⟩
    have how : (Value.ownBlock (.slice (some ⟨g, off, none⟩) 0 0)) = v0.ownBlock := by rw [HV.out]; rfl
    have H2 := Lib.hid (H1.out.put0 hgr HQ1.out (Or.inl how))
    have hA2 : (w1.setCell ⟨b.bl, 0, none⟩ (.slice (some ⟨g, off, none⟩) 0 0)).heap[fb]? = some (.cells #[.int .u8 0, .bool fc, .int .u8 (fk : Int), .bool fpf, .int .u8 (fns : Int), .int .u8 (fnr : Int), .string fi] TF (0, 0)) := (set_other (by omega) _).trans hA1
    clear HQ1 H1 hA1 b2 f2 HTB hgr how
    generalize w1.setCell ⟨b.bl, 0, none⟩ (.slice (some ⟨g, off, none⟩) 0 0) = w2 at H2 hA2 ⊢
    generalize retag w1 tag 7 = tag2 at H2
    go_wp2
    go_ret
    exact ⟨rfl, _, _, _, _, _, H2.out⟩
  · rw [if_neg hc1] at HQ1
    refine' tk 12 ⟨some 39, .slice 88 (.tmp 38) (some (.const (.int .i64 1))) none none, 88, "law.go:134", #[⟨11, .data⟩], none⟩ ?_
    simp only [Act.put, z1', z2', z3']
    refine' tk 13 ⟨some 40, .indexAddr 43 (.tmp 30) (.tmp 31), 0, "law.go:134", #[⟨3, .data⟩, ⟨4, .data⟩, ⟨0, .phase⟩, ⟨1, .phase⟩, ⟨2, .phase⟩, ⟨3, .phase⟩, ⟨4, .phase⟩, ⟨5, .phase⟩, ⟨6, .phase⟩, ⟨7, .phase⟩, ⟨8, .phase⟩, ⟨9, .phase⟩, ⟨10, .phase⟩, ⟨11, .phase⟩, ⟨12, .phase⟩], none⟩ ?_
    simp only [Act.put, z1', z2', z3']
    refine ry [14] ?_
    refine AllReadyH.cons rfl (fun K hK => ?_) AllReadyH.nil
    go_simp
    refine hK.out _ _ ((set_other hne _).trans HTB.out) (fun hNext => ?_)
    clear hNext hHeld
    refine wpAnyH_done (by kernel_rfl) ?_ _
    clear hK K
    have hgr : w1.grownBy w1 v0.ownBlock := ⟨rfl, rfl, rfl, Nat.le_refl _, fun _ _ _ => rfl⟩
    have how : (Value.ownBlock (.slice (some ⟨g, off + 7, none⟩) z (cap - 1))) = v0.ownBlock := by rw [HV.out]; rfl
    have H2 := Lib.hid (H1.out.put0 hgr HQ1.out (Or.inl how))
    have hA2 : (w1.setCell ⟨b.bl, 0, none⟩ (.slice (some ⟨g, off + 7, none⟩) z (cap - 1))).heap[fb]? = some (.cells #[.int .u8 0, .bool fc, .int .u8 (fk : Int), .bool fpf, .int .u8 (fns : Int), .int .u8 (fnr : Int), .string fi] TF (0, 0)) := (set_other (by omega) _).trans hA1
    clear HQ1 H1 hA1 b2 f2 HTB hgr how
    generalize w1.setCell ⟨b.bl, 0, none⟩ (.slice (some ⟨g, off + 7, none⟩) z (cap - 1)) = w2 at H2 hA2 ⊢
    generalize retag w1 tag 7 = tag2 at H2
    go_wp2
    go_ret
    exact ⟨rfl, _, _, _, _, _, H2.out⟩
set_option maxHeartbeats 16000000 in
set_option maxRecDepth 100000 in
theorem fhand0_no (w0 w : World) (b : Bk) (x : Pr) (N : Nat) (h : PrE w0 b x w) (hI : Inv N x.B) (fc : Bool) (fk : Nat) (fpf : Bool) (fns fnr : Nat) (fi : ByteArray) (j rr : Nat) (r : List Gf) (hL : x.L0 = ⟨⟨fc, fk, fpf, fns, fnr, fi⟩, j, rr⟩ :: r) (hns : fns < 256) (hnr : fnr < 256) (X2 : Sd) (mi : ByteArray) (ma : Nat) (hh : hear ⟨fc, fk, fpf, fns, fnr, fi⟩ x.B = (X2, ⟨mi, false, ma, false⟩)) (hkb : x.k0 ≤ 1000000) :
    Calls Try.prog 38 #[ptr b.tb, .int .i64 0, .bool false] w fun e w' => e = .returned (.bool true) ∧ PrE w0 b { x with B := X2, L0 := r } w' := by
  have HKB := Lib.hid hkb
  have HCH : Hid (∀ (w' : World) (u : Value), PAt w' b.p1 (Ps.of x.B) u → Calls Try.prog 24 #[ptr b.p1, fmvd 0 ⟨fc, fk, fpf, fns, fnr, fi⟩] w' fun e w'' => e = .returned (.agg #[.string mi, .bool false, .int .i64 (ma : Int), .bool false]) ∧ ∃ u', QDo b.p1 (Ps.of X2) u u' w' w'') := Lib.hid fun w' u h' => by
    have := fhear w' b.p1 0 (Ps.of x.B) u ⟨fc, fk, fpf, fns, fnr, fi⟩ h' hI.pfit hns hnr
    rw [hear_of _ x.B hI.ord, hh] at this
    exact this
  have vw0 : IntKind.i64.wrap 0 = 0 := by decide
  have vw1 : IntKind.i64.wrap 1 = 1 := by decide
  clear hI hns hnr hh hkb
  obtain ⟨q0, q1, v0, v1, tag, h⟩ := h
  have CH : Hid (∀ w' : World, PAt w' b.p1 (Ps.of x.B) q1 → Calls Try.prog 24 #[ptr b.p1, fmvd 0 ⟨fc, fk, fpf, fns, fnr, fi⟩] w' fun e w'' => e = .returned (.agg #[.string mi, .bool false, .int .i64 (ma : Int), .bool false]) ∧ ∃ u', QDo b.p1 (Ps.of X2) q1 u' w' w'') := Lib.hid fun w' => HCH.out w' q1
  clear HCH
  have c1 : w.cell? ⟨b.tb, 1, none⟩ = some (two b.bl) := cell_of h.blk rfl
  obtain ⟨oa, cap, hv⟩ := h.l0.form
  have hql : Qz 7 fcF w w0.heap.size v0 ((⟨fc, fk, fpf, fns, fnr, fi⟩ : Fm) :: r.map Gf.f) := by have := h.l0; rw [hL] at this; exact this
  rw [hL, List.map_cons, List.length_cons, List.length_map] at hv
  rw [hv] at hql
  obtain ⟨g, off, ho, hn, hcap, hmax, hbg, hgw, ⟨e0, e1, e2, e3, e4, e5, e6⟩, hq⟩ := qz7_cons hql
  subst ho
  dsimp only at e1 e2 e3 e4 e5 e6
  have cl : w.cell? ⟨b.bl, 0, none⟩ = some (.slice (some ⟨g, off, none⟩) (r.length + 1) cap) := by rw [← hv]; exact cell_of h.l rfl
  obtain ⟨z, hz⟩ : ∃ z, r.length = z := ⟨_, rfl⟩
  rw [List.length_map] at hq
  rw [hz] at hcap hq cl hv
  have HV := Lib.hid hv
  have HQ := Lib.hid hq
  have HX := Lib.hid h
  have z0 : ((z + 1 : Nat) : Int) = (z : Int) + 1 := by omega
  have z1 : ¬ (z : Int) + 1 = 0 := by omega
  have z2 : decide ((0 : Int) < (z : Int) + 1) = true := decide_eq_true (by omega)
  have z3 : (((z : Int) + 1) == 0) = false := beq_false (by omega)
  have z4 : (0 : Int) < (z : Int) + 1 := by omega
  have z5 : (1 : Int) ≤ (z : Int) + 1 := by omega
  have hbl := lt_heap h.l
  have htb := lt_heap h.blk
  have hne : b.tb ≠ b.bl := fun e => by have := h.t0; have := h.tl; rw [e] at *; omega
  clear h hL hv hq hql hn hz
  go_enter Try.func38, Try.ntmps38
  go_wp2_with fail
  have H1 : Hid (PrAt w0 b x q0 q1 v0 v1 tag (w.alloc (.cells #[.int .u8 0, .bool fc, .int .u8 (fk : Int), .bool fpf, .int .u8 (fns : Int), .int .u8 (fnr : Int), .string fi] TF (0, 0))).drew) := Lib.hid (HX.out.on ((show Below w.heap.size w (w.alloc (.cells #[.int .u8 0, .bool fc, .int .u8 (fk : Int), .bool fpf, .int .u8 (fns : Int), .int .u8 (fnr : Int), .string fi] TF (0, 0))) from nest_below w [_]).drew))
  have HQ1 : Hid (Qz 7 fcF (w.alloc (.cells #[.int .u8 0, .bool fc, .int .u8 (fk : Int), .bool fpf, .int .u8 (fns : Int), .int .u8 (fnr : Int), .string fi] TF (0, 0))).drew w0.heap.size (.slice (if cap = 1 then some ⟨g, off, none⟩ else some ⟨g, off + 7, none⟩) z (cap - 1)) (r.map Gf.f)) := Lib.hid (HQ.out.below ((show Below w.heap.size w (w.alloc (.cells #[.int .u8 0, .bool fc, .int .u8 (fk : Int), .bool fpf, .int .u8 (fns : Int), .int .u8 (fnr : Int), .string fi] TF (0, 0))) from nest_below w [_]).drew))
  have hA1 : (w.alloc (.cells #[.int .u8 0, .bool fc, .int .u8 (fk : Int), .bool fpf, .int .u8 (fns : Int), .int .u8 (fnr : Int), .string fi] TF (0, 0))).drew.heap[w.heap.size]? = some (.cells #[.int .u8 0, .bool fc, .int .u8 (fk : Int), .bool fpf, .int .u8 (fns : Int), .int .u8 (fnr : Int), .string fi] TF (0, 0)) := nest w [_] 0 _ rfl
  obtain ⟨fb, hfb⟩ : ∃ n, n = w.heap.size := ⟨_, rfl⟩
  have HFB := Lib.hid hfb
  rw [← hfb] at hA1 hbl htb
  simp only [← hfb]
  clear hfb e0 e1 e2 e3 e4 e5 e6 hgw HQ c1 cl
  generalize hw1 : (w.alloc (.cells #[.int .u8 0, .bool fc, .int .u8 (fk : Int), .bool fpf, .int .u8 (fns : Int), .int .u8 (fnr : Int), .string fi] TF (0, 0))).drew = w1 at H1 HQ1 hA1
  have b2 : w1.cell? ⟨b.bl, 0, none⟩ = some (.slice (some ⟨g, off, none⟩) (z + 1) cap) := by rw [← HV.out]; exact cell_of H1.out.l rfl
  have f2 : ∀ i, w1.frozen? ⟨b.bl, i, none⟩ = false := fun _ => free_of H1.out.l
  have HTB := Lib.hid H1.out.blk
  refine wp_region_held_drew (S := (fun w' => w'.heap[b.tb]? = some (.cells #[two b.ba, two b.bl, two b.bu, two b.bk, .bool x.bad] 46 (0, 0)))) (by kernel_rfl) (hw1 ▸ HTB.out) (fun hHeld => ?_)
  refine' tk 0 ⟨some 27, .move (.tmp 0), 40, "law.go:134", #[], none⟩ ?_
  simp only [Act.put, z1', z2', z3']
  refine' tk 1 ⟨some 28, .nilCheck (.tmp 27), 0, "law.go:134", #[⟨0, .data⟩], none⟩ ?_
  simp only [Act.put, z1', z2', z3']
  refine' tk 2 ⟨some 29, .fieldAddr 46 (.tmp 28) 1, 0, "law.go:134", #[⟨1, .data⟩], none⟩ ?_
  simp only [Act.put, z1', z2', z3']
  refine' tv 3 ⟨some 30, .load 43 (.tmp 29), 43, "law.go:134", #[⟨2, .data⟩], none⟩ ?hy19 ?hr19
  case hy19 => (intro _ hSw; (try dsimp only at hSw); have hc := cell_of (i := 1) (v := two b.bl) hSw rfl; go_simp <;> with_reducible rfl)
  simp only [Act.put, z1', z2', z3']
  refine' tk 4 ⟨some 31, .move (.tmp 1), 3, "law.go:134", #[], none⟩ ?_
  simp only [Act.put, z1', z2', z3']
  refine' tk 5 ⟨some 32, .move (.tmp 0), 40, "law.go:134", #[], none⟩ ?_
  simp only [Act.put, z1', z2', z3']
  refine' tk 6 ⟨some 33, .nilCheck (.tmp 32), 0, "law.go:134", #[⟨5, .data⟩], none⟩ ?_
  simp only [Act.put, z1', z2', z3']
  refine' tk 7 ⟨some 34, .fieldAddr 46 (.tmp 33) 1, 0, "law.go:134", #[⟨6, .data⟩], none⟩ ?_
  simp only [Act.put, z1', z2', z3']
  refine' tv 8 ⟨some 35, .load 43 (.tmp 34), 43, "law.go:134", #[⟨7, .data⟩], none⟩ ?hy24 ?hr24
  case hy24 => (intro _ hSw; (try dsimp only at hSw); have hc := cell_of (i := 1) (v := two b.bl) hSw rfl; go_simp <;> with_reducible rfl)
  simp only [Act.put, z1', z2', z3']
  refine' tk 9 ⟨some 36, .move (.tmp 1), 3, "law.go:134", #[], none⟩ ?_
  simp only [Act.put, z1', z2', z3']
  refine' tk 10 ⟨some 37, .indexAddr 43 (.tmp 35) (.tmp 36), 0, "law.go:134", #[⟨8, .data⟩, ⟨9, .data⟩], none⟩ ?_
  simp only [Act.put, z1', z2', z3']
  rw [hw1]
  clear hw1
  refine ry [11] ?_
  refine AllReadyH.cons rfl (fun K hK => ?_) AllReadyH.nil
  go_simp
  refine hK.out _ _ HTB.out (fun hNext => ?_)
  clear hHeld
  clear hK K
  have hHeld := hNext
  clear hNext
  (try simp only [Act.put, z1', z2', z3'])
  by_cases hc1 : cap = 1
  · rw [if_pos hc1] at HQ1
    subst hc1
    obtain rfl : z = 0 := by omega
    refine' tk 12 ⟨some 39, .slice 88 (.tmp 38) (some (.const (.int .i64 1))) none none, 88, "law.go:134", #[⟨11, .data⟩], none⟩ ?_
    simp only [Act.put, z1', z2', z3']
    refine' tk 13 ⟨some 40, .indexAddr 43 (.tmp 30) (.tmp 31), 0, "law.go:134", #[⟨3, .data⟩, ⟨4, .data⟩, ⟨0, .phase⟩, ⟨1, .phase⟩, ⟨2, .phase⟩, ⟨3, .phase⟩, ⟨4, .phase⟩, ⟨5, .phase⟩, ⟨6, .phase⟩, ⟨7, .phase⟩, ⟨8, .phase⟩, ⟨9, .phase⟩, ⟨10, .phase⟩, ⟨11, .phase⟩, ⟨12, .phase⟩], none⟩ ?_
    simp only [Act.put, z1', z2', z3']
    refine ry [14] ?_
    refine AllReadyH.cons rfl (fun K hK => ?_) AllReadyH.nil
    go_simp
    refine hK.out _ _ ((set_other hne _).trans HTB.out) (fun hNext => ?_)
    clear hNext hHeld
    refine wpAnyH_done (by kernel_rfl) ?_ _
    clear hK K
    have hgr : w1.grownBy w1 v0.ownBlock := ⟨rfl, rfl, rfl, Nat.le_refl _, fun _ _ _ => rfl⟩
    have how : (Value.ownBlock (.slice (some ⟨g, off, none⟩) 0 0)) = v0.ownBlock := by rw [HV.out]; rfl
    have H2 := Lib.hid (H1.out.put0 hgr HQ1.out (Or.inl how))
    have hA2 : (w1.setCell ⟨b.bl, 0, none⟩ (.slice (some ⟨g, off, none⟩) 0 0)).heap[fb]? = some (.cells #[.int .u8 0, .bool fc, .int .u8 (fk : Int), .bool fpf, .int .u8 (fns : Int), .int .u8 (fnr : Int), .string fi] TF (0, 0)) := (set_other (by omega) _).trans hA1
    clear HQ1 H1 hA1 b2 f2 HTB hgr how
    generalize w1.setCell ⟨b.bl, 0, none⟩ (.slice (some ⟨g, off, none⟩) 0 0) = w2 at H2 hA2 ⊢
    generalize retag w1 tag 7 = tag2 at H2
    go_wp2_with fail
    have H3 := Lib.hid (H2.out.on (w' := w2.drew) ⟨rfl, rfl, rfl, Nat.le_refl _, fun _ _ => rfl⟩)
    have hA3 : w2.drew.heap[fb]? = some (.cells #[.int .u8 0, .bool fc, .int .u8 (fk : Int), .bool fpf, .int .u8 (fns : Int), .int .u8 (fnr : Int), .string fi] TF (0, 0)) := hA2
    clear H2 hA2
    refine wp_region_held_drew (S := (fun w' => w'.heap[fb]? = some (.cells #[.int .u8 0, .bool fc, .int .u8 (fk : Int), .bool fpf, .int .u8 (fns : Int), .int .u8 (fnr : Int), .string fi] TF (0, 0)) ∧ w'.heap[b.tb]? = some (.cells #[two b.ba, two b.bl, two b.bu, two b.bk, .bool x.bad] 46 (0, 0)) ∧ w'.heap[b.ba]? = some (.cells #[ptr b.p0, ptr b.p1] 28 (0, 0)))) (by kernel_rfl) ⟨hA3, H3.out.blk, H3.out.a⟩ (fun hHeld => ?_)
    refine' tk 0 ⟨some 42, .move (.tmp 0), 40, "law.go:138", #[], none⟩ ?_
    simp only [Act.put, z1', z2', z3']
    refine' tk 1 ⟨some 43, .nilCheck (.tmp 42), 0, "law.go:138", #[⟨0, .data⟩], none⟩ ?_
    simp only [Act.put, z1', z2', z3']
    refine' tk 2 ⟨some 44, .fieldAddr 46 (.tmp 43) 0, 0, "law.go:138", #[⟨1, .data⟩], none⟩ ?_
    simp only [Act.put, z1', z2', z3']
    refine' tv 3 ⟨some 45, .load 42 (.tmp 44), 42, "law.go:138", #[⟨2, .data⟩], none⟩ ?hy32 ?hr32
    case hy32 => (intro _ hSw; (try dsimp only at hSw); have hc := cell_of (i := 0) (v := two b.ba) hSw.2.1 rfl; go_simp <;> with_reducible rfl)
    simp only [Act.put, z1', z2', z3']
    refine' tk 4 ⟨some 46, .move (.tmp 1), 3, "law.go:138", #[], none⟩ ?_
    simp only [Act.put, z1', z2', z3']
    refine' tk 5 ⟨some 47, .binOp .sub 3 (.const (.int .i64 1)) (.tmp 46) 3, 3, "law.go:138", #[⟨4, .data⟩], none⟩ ?_
    simp only [Act.put, z1', z2', z3']
    refine' tk 6 ⟨some 48, .indexAddr 42 (.tmp 45) (.tmp 47), 0, "law.go:138", #[⟨3, .data⟩, ⟨5, .data⟩], none⟩ ?_
    simp only [Act.put, z1', z2', z3']
    refine' tv 7 ⟨some 49, .load 28 (.tmp 48), 28, "law.go:138", #[⟨6, .data⟩], none⟩ ?hy36 ?hr36
    case hy36 => (intro _ hSw; (try dsimp only at hSw); have hc := cell_of (i := 1) (v := ptr b.p1) hSw.2.2 rfl; go_simp <;> with_reducible rfl)
    simp only [Act.put, z1', z2', z3']
    refine' tv 8 ⟨some 50, .load 25 (.tmp 7), 25, "law.go:138", #[], none⟩ ?hy37 ?hr37
    case hy37 => (intro _ hSw; (try dsimp only at hSw); obtain ⟨⟨y0, y1, y2, y3, y4, y5, y6⟩, -⟩ := cells7 hSw.1; go_simp <;> with_reducible rfl)
    simp only [Act.put, z1', z2', z3']
    clear hHeld
    have hA4 : w2.drew.heap[fb]? = some (.cells #[.int .u8 0, .bool fc, .int .u8 (fk : Int), .bool fpf, .int .u8 (fns : Int), .int .u8 (fnr : Int), .string fi] TF (0, 0)) := hA3
    clear hA3
    generalize w2.drew = w3 at H3 hA4 ⊢
    have HS3 := Lib.hid (show w3.heap[fb]? = some (.cells #[.int .u8 0, .bool fc, .int .u8 (fk : Int), .bool fpf, .int .u8 (fns : Int), .int .u8 (fnr : Int), .string fi] TF (0, 0)) ∧ w3.heap[b.tb]? = some (.cells #[two b.ba, two b.bl, two b.bu, two b.bk, .bool x.bad] 46 (0, 0)) ∧ w3.heap[b.ba]? = some (.cells #[ptr b.p0, ptr b.p1] 28 (0, 0)) from ⟨hA4, H3.out.blk, H3.out.a⟩)
    have HF3 := Lib.hid (show b.p0 ≠ fb ∧ b.p1 ≠ fb ∧ (∀ g, q1.ownBlock = some g → g ≠ fb) from ⟨fun e => by have := HX.out.s0.lt; have := HFB.out; omega, fun e => by have := HX.out.s1.lt; have := HFB.out; omega, fun g hg e => by have := (HX.out.s1.q.lt g hg).2; have := HFB.out; omega⟩)
    clear hA4
    refine ry [9, 10] ?_
    refine AllReadyH.cons rfl (fun K hK => ?_) (AllReadyH.cons rfl (fun K hK => ?_) AllReadyH.nil)
    · go_simp
      refine (CH.out _ H3.out.s1).mono ?_
      rintro _ w4 ⟨rfl, u, hd⟩
      have HN := Lib.hid (H3.out.doB hd)
      have HS4 := Lib.hid (show w4.heap[fb]? = some (.cells #[.int .u8 0, .bool fc, .int .u8 (fk : Int), .bool fpf, .int .u8 (fns : Int), .int .u8 (fnr : Int), .string fi] TF (0, 0)) ∧ w4.heap[b.tb]? = some (.cells #[two b.ba, two b.bl, two b.bu, two b.bk, .bool x.bad] 46 (0, 0)) ∧ w4.heap[b.ba]? = some (.cells #[ptr b.p0, ptr b.p1] 28 (0, 0)) from ⟨hd.chg.stays HS3.out.1 (fun e => by rcases e with e | e; exact HF3.out.2.1 e.symm; exact HF3.out.2.2 _ e rfl), HN.out.blk, HN.out.a⟩)
      go_wp2_with fail
      refine hK.out _ _ HS4.out (fun hNext => ?_)
      clear hd CH H3 HS3 HF3
      clear hK K
      have hHeld := hNext
      clear hNext
      (try simp only [Act.put, z1', z2', z3'])
      refine ry [10] ?_
      refine AllReadyH.cons rfl (fun K hK => ?_) AllReadyH.nil
      go_simp
      refine hK.out _ _ ⟨stays HS4.out.1 (nest_below w4 [noM TA]), stays HS4.out.2.1 (nest_below w4 [noM TA]), stays HS4.out.2.2 (nest_below w4 [noM TA])⟩ (fun hNext => ?_)
      clear hHeld
      clear hK K
      have hHeld := hNext
      clear hNext
      (try simp only [Act.put, z1', z2', z3'])
      have H5 := Lib.hid (HN.out.on (show Below w4.heap.size w4 (w4.alloc (.cells #[.string mi, .bool false, .int .i64 (ma : Int), .bool false] TA (0, 0))) from nest_below w4 [_]))
      have hac : (w4.alloc (.cells #[.string mi, .bool false, .int .i64 (ma : Int), .bool false] TA (0, 0))).heap[w4.heap.size]? = some (.cells #[.string mi, .bool false, .int .i64 (ma : Int), .bool false] TA (0, 0)) := nest w4 [_] 0 _ rfl
      refine ry [11] ?_
      refine AllReadyH.cons rfl (fun K hK => ?_) AllReadyH.nil
      go_simp
      go_wp2_with fail
      refine hK.out _ _ ⟨stays HS4.out.1 (nest_below w4 [(.cells #[.string mi, .bool false, .int .i64 (ma : Int), .bool false] TA (0, 0))]), H5.out.blk, H5.out.a⟩ (fun hNext => ?_)
      clear hHeld
      clear hK K
      have hHeld := hNext
      clear hNext
      (try simp only [Act.put, z1', z2', z3'])
      refine wpAnyH_done (by kernel_rfl) ?_ _
      clear hHeld
      have HK2 := Lib.hid (show b.bk ≠ w4.heap.size from fun e => by have := lt_heap HN.out.k; omega)
      clear HS4 HN
      generalize w4.alloc (.cells #[.string mi, .bool false, .int .i64 (ma : Int), .bool false] TA (0, 0)) = w5 at H5 hac ⊢
      generalize w4.heap.size = ab at hac HK2 ⊢
      generalize retag w3 tag2 6 = tag5 at H5
      obtain ⟨⟨a0, a1, a2, a3⟩, af⟩ := cells4 hac
      go_wp2
      go_ret
      exact ⟨rfl, _, _, _, _, _, H5.out⟩
    · go_simp
      refine hK.out _ _ ⟨stays HS3.out.1 (nest_below w3 [noM TA]), stays HS3.out.2.1 (nest_below w3 [noM TA]), stays HS3.out.2.2 (nest_below w3 [noM TA])⟩ (fun hNext => ?_)
      clear hK K
      have hHeld := hNext
      clear hNext
      (try simp only [Act.put, z1', z2', z3'])
      have H4 := Lib.hid ((H3.out.mark 9).on (show Below w3.heap.size w3 (w3.alloc (noM TA)) from nest_below w3 [_]))
      have HT4 := Lib.hid (show retag w3 tag2 9 w3.heap.size = 9 from retag_new (Nat.le_refl _))
      generalize retag w3 tag2 9 = tag4 at H4 HT4
      have hn4 : (w3.alloc (noM TA)).heap[w3.heap.size]? = some (noM TA) := nest w3 [_] 0 _ rfl
      have hs4 := size_alloc w3 (noM TA)
      have HS4 := Lib.hid (show (w3.alloc (noM TA)).heap[fb]? = some (.cells #[.int .u8 0, .bool fc, .int .u8 (fk : Int), .bool fpf, .int .u8 (fns : Int), .int .u8 (fnr : Int), .string fi] TF (0, 0)) from stays HS3.out.1 (nest_below w3 [noM TA]))
      refine ry [9] ?_
      refine AllReadyH.cons rfl (fun K hK => ?_) AllReadyH.nil
      go_simp
      refine (CH.out _ H4.out.s1).mono ?_
      rintro _ w4 ⟨rfl, u, hd⟩
      have HN := Lib.hid (H4.out.doB hd)
      have hn5 : w4.heap[w3.heap.size]? = some (noM TA) := hd.chg.stays hn4 (fun e => by
        rcases e with e | e
        · have := H4.out.t6; have := HT4.out; rw [e] at this; omega
        · have := H4.out.o1 _ e; have := HT4.out; omega)
      have hf5 : w4.heap[fb]? = some (.cells #[.int .u8 0, .bool fc, .int .u8 (fk : Int), .bool fpf, .int .u8 (fns : Int), .int .u8 (fnr : Int), .string fi] TF (0, 0)) := hd.chg.stays HS4.out (fun e => by
        rcases e with e | e
        · exact HF3.out.2.1 e.symm
        · exact HF3.out.2.2 _ e rfl)
      have htn : retag (w3.alloc (noM TA)) tag4 6 w3.heap.size = 9 := by rw [retag_old (by omega)]; exact HT4.out
      go_wp2_with fail
      refine hK.out _ _ ⟨hf5, HN.out.blk, HN.out.a⟩ (fun hNext => ?_)
      clear hd CH hHeld hn4
      clear hK K
      have hHeld := hNext
      clear hNext
      (try simp only [Act.put, z1', z2', z3'])
      obtain ⟨⟨y0, y1, y2, y3⟩, yf⟩ := cells4 hn5
      have hac : ((((w4.setCell ⟨w3.heap.size, 0, none⟩ (.string mi)).setCell ⟨w3.heap.size, 1, none⟩ (.bool false)).setCell ⟨w3.heap.size, 2, none⟩ (.int .i64 (ma : Int))).setCell ⟨w3.heap.size, 3, none⟩ (.bool false)).heap[w3.heap.size]? = some (.cells #[.string mi, .bool false, .int .i64 (ma : Int), .bool false] TA (0, 0)) := set4_at hn5 (.string mi) (.bool false) (.int .i64 (ma : Int)) (.bool false)
      have hcc : Chg (fun k => k = w3.heap.size) w4 ((((w4.setCell ⟨w3.heap.size, 0, none⟩ (.string mi)).setCell ⟨w3.heap.size, 1, none⟩ (.bool false)).setCell ⟨w3.heap.size, 2, none⟩ (.int .i64 (ma : Int))).setCell ⟨w3.heap.size, 3, none⟩ (.bool false)) := chg_set4 (S := fun k => k = w3.heap.size) (Chg.refl _ w4) (fun _ => rfl) _ _ _ _
      have H5 := Lib.hid (HN.out.other hcc htn H3.out.below.size)
      refine ry [11] ?_
      refine AllReadyH.cons rfl (fun K hK => ?_) AllReadyH.nil
      go_simp
      go_wp2_with fail
      refine hK.out _ _ ⟨hcc.stays hf5 (fun e => by have := lt_heap HS3.out.1; omega), H5.out.blk, H5.out.a⟩ (fun hNext => ?_)
      clear hHeld
      clear hK K
      have hHeld := hNext
      clear hNext
      (try simp only [Act.put, z1', z2', z3'])
      refine wpAnyH_done (by kernel_rfl) ?_ _
      clear hHeld
      have HK2 := Lib.hid (show b.bk ≠ w3.heap.size from fun e => by have := lt_heap H3.out.k; omega)
      clear HS3 HF3 HS4 HN H4 HT4 hn5 hf5 htn hcc y0 y1 y2 y3 yf hs4 H3
      generalize ((((w4.setCell ⟨w3.heap.size, 0, none⟩ (.string mi)).setCell ⟨w3.heap.size, 1, none⟩ (.bool false)).setCell ⟨w3.heap.size, 2, none⟩ (.int .i64 (ma : Int))).setCell ⟨w3.heap.size, 3, none⟩ (.bool false)) = w5 at H5 hac ⊢
      generalize w3.heap.size = ab at hac HK2 ⊢
      generalize retag (w3.alloc (noM TA)) tag4 6 = tag5 at H5
      obtain ⟨⟨a0, a1, a2, a3⟩, af⟩ := cells4 hac
      go_wp2
      go_ret
      exact ⟨rfl, _, _, _, _, _, H5.out⟩
  · rw [if_neg hc1] at HQ1
    refine' tk 12 ⟨some 39, .slice 88 (.tmp 38) (some (.const (.int .i64 1))) none none, 88, "law.go:134", #[⟨11, .data⟩], none⟩ ?_
    simp only [Act.put, z1', z2', z3']
    refine' tk 13 ⟨some 40, .indexAddr 43 (.tmp 30) (.tmp 31), 0, "law.go:134", #[⟨3, .data⟩, ⟨4, .data⟩, ⟨0, .phase⟩, ⟨1, .phase⟩, ⟨2, .phase⟩, ⟨3, .phase⟩, ⟨4, .phase⟩, ⟨5, .phase⟩, ⟨6, .phase⟩, ⟨7, .phase⟩, ⟨8, .phase⟩, ⟨9, .phase⟩, ⟨10, .phase⟩, ⟨11, .phase⟩, ⟨12, .phase⟩], none⟩ ?_
    simp only [Act.put, z1', z2', z3']
    refine ry [14] ?_
    refine AllReadyH.cons rfl (fun K hK => ?_) AllReadyH.nil
    go_simp
    refine hK.out _ _ ((set_other hne _).trans HTB.out) (fun hNext => ?_)
    clear hNext hHeld
    refine wpAnyH_done (by kernel_rfl) ?_ _
    clear hK K
    have hgr : w1.grownBy w1 v0.ownBlock := ⟨rfl, rfl, rfl, Nat.le_refl _, fun _ _ _ => rfl⟩
    have how : (Value.ownBlock (.slice (some ⟨g, off + 7, none⟩) z (cap - 1))) = v0.ownBlock := by rw [HV.out]; rfl
    have H2 := Lib.hid (H1.out.put0 hgr HQ1.out (Or.inl how))
    have hA2 : (w1.setCell ⟨b.bl, 0, none⟩ (.slice (some ⟨g, off + 7, none⟩) z (cap - 1))).heap[fb]? = some (.cells #[.int .u8 0, .bool fc, .int .u8 (fk : Int), .bool fpf, .int .u8 (fns : Int), .int .u8 (fnr : Int), .string fi] TF (0, 0)) := (set_other (by omega) _).trans hA1
    clear HQ1 H1 hA1 b2 f2 HTB hgr how
    generalize w1.setCell ⟨b.bl, 0, none⟩ (.slice (some ⟨g, off + 7, none⟩) z (cap - 1)) = w2 at H2 hA2 ⊢
    generalize retag w1 tag 7 = tag2 at H2
    go_wp2_with fail
    have H3 := Lib.hid (H2.out.on (w' := w2.drew) ⟨rfl, rfl, rfl, Nat.le_refl _, fun _ _ => rfl⟩)
    have hA3 : w2.drew.heap[fb]? = some (.cells #[.int .u8 0, .bool fc, .int .u8 (fk : Int), .bool fpf, .int .u8 (fns : Int), .int .u8 (fnr : Int), .string fi] TF (0, 0)) := hA2
    clear H2 hA2
    refine wp_region_held_drew (S := (fun w' => w'.heap[fb]? = some (.cells #[.int .u8 0, .bool fc, .int .u8 (fk : Int), .bool fpf, .int .u8 (fns : Int), .int .u8 (fnr : Int), .string fi] TF (0, 0)) ∧ w'.heap[b.tb]? = some (.cells #[two b.ba, two b.bl, two b.bu, two b.bk, .bool x.bad] 46 (0, 0)) ∧ w'.heap[b.ba]? = some (.cells #[ptr b.p0, ptr b.p1] 28 (0, 0)))) (by kernel_rfl) ⟨hA3, H3.out.blk, H3.out.a⟩ (fun hHeld => ?_)
    refine' tk 0 ⟨some 42, .move (.tmp 0), 40, "law.go:138", #[], none⟩ ?_
    simp only [Act.put, z1', z2', z3']
    refine' tk 1 ⟨some 43, .nilCheck (.tmp 42), 0, "law.go:138", #[⟨0, .data⟩], none⟩ ?_
    simp only [Act.put, z1', z2', z3']
    refine' tk 2 ⟨some 44, .fieldAddr 46 (.tmp 43) 0, 0, "law.go:138", #[⟨1, .data⟩], none⟩ ?_
    simp only [Act.put, z1', z2', z3']
    refine' tv 3 ⟨some 45, .load 42 (.tmp 44), 42, "law.go:138", #[⟨2, .data⟩], none⟩ ?hy63 ?hr63
    case hy63 => (intro _ hSw; (try dsimp only at hSw); have hc := cell_of (i := 0) (v := two b.ba) hSw.2.1 rfl; go_simp <;> with_reducible rfl)
    simp only [Act.put, z1', z2', z3']
    refine' tk 4 ⟨some 46, .move (.tmp 1), 3, "law.go:138", #[], none⟩ ?_
    simp only [Act.put, z1', z2', z3']
    refine' tk 5 ⟨some 47, .binOp .sub 3 (.const (.int .i64 1)) (.tmp 46) 3, 3, "law.go:138", #[⟨4, .data⟩], none⟩ ?_
    simp only [Act.put, z1', z2', z3']
    refine' tk 6 ⟨some 48, .indexAddr 42 (.tmp 45) (.tmp 47), 0, "law.go:138", #[⟨3, .data⟩, ⟨5, .data⟩], none⟩ ?_
    simp only [Act.put, z1', z2', z3']
    refine' tv 7 ⟨some 49, .load 28 (.tmp 48), 28, "law.go:138", #[⟨6, .data⟩], none⟩ ?hy67 ?hr67
    case hy67 => (intro _ hSw; (try dsimp only at hSw); have hc := cell_of (i := 1) (v := ptr b.p1) hSw.2.2 rfl; go_simp <;> with_reducible rfl)
    simp only [Act.put, z1', z2', z3']
    refine' tv 8 ⟨some 50, .load 25 (.tmp 7), 25, "law.go:138", #[], none⟩ ?hy68 ?hr68
    case hy68 => (intro _ hSw; (try dsimp only at hSw); obtain ⟨⟨y0, y1, y2, y3, y4, y5, y6⟩, -⟩ := cells7 hSw.1; go_simp <;> with_reducible rfl)
    simp only [Act.put, z1', z2', z3']
    clear hHeld
    have hA4 : w2.drew.heap[fb]? = some (.cells #[.int .u8 0, .bool fc, .int .u8 (fk : Int), .bool fpf, .int .u8 (fns : Int), .int .u8 (fnr : Int), .string fi] TF (0, 0)) := hA3
    clear hA3
    generalize w2.drew = w3 at H3 hA4 ⊢
    have HS3 := Lib.hid (show w3.heap[fb]? = some (.cells #[.int .u8 0, .bool fc, .int .u8 (fk : Int), .bool fpf, .int .u8 (fns : Int), .int .u8 (fnr : Int), .string fi] TF (0, 0)) ∧ w3.heap[b.tb]? = some (.cells #[two b.ba, two b.bl, two b.bu, two b.bk, .bool x.bad] 46 (0, 0)) ∧ w3.heap[b.ba]? = some (.cells #[ptr b.p0, ptr b.p1] 28 (0, 0)) from ⟨hA4, H3.out.blk, H3.out.a⟩)
    have HF3 := Lib.hid (show b.p0 ≠ fb ∧ b.p1 ≠ fb ∧ (∀ g, q1.ownBlock = some g → g ≠ fb) from ⟨fun e => by have := HX.out.s0.lt; have := HFB.out; omega, fun e => by have := HX.out.s1.lt; have := HFB.out; omega, fun g hg e => by have := (HX.out.s1.q.lt g hg).2; have := HFB.out; omega⟩)
    clear hA4
    refine ry [9, 10] ?_
    refine AllReadyH.cons rfl (fun K hK => ?_) (AllReadyH.cons rfl (fun K hK => ?_) AllReadyH.nil)
    · go_simp
      refine (CH.out _ H3.out.s1).mono ?_
      rintro _ w4 ⟨rfl, u, hd⟩
      have HN := Lib.hid (H3.out.doB hd)
      have HS4 := Lib.hid (show w4.heap[fb]? = some (.cells #[.int .u8 0, .bool fc, .int .u8 (fk : Int), .bool fpf, .int .u8 (fns : Int), .int .u8 (fnr : Int), .string fi] TF (0, 0)) ∧ w4.heap[b.tb]? = some (.cells #[two b.ba, two b.bl, two b.bu, two b.bk, .bool x.bad] 46 (0, 0)) ∧ w4.heap[b.ba]? = some (.cells #[ptr b.p0, ptr b.p1] 28 (0, 0)) from ⟨hd.chg.stays HS3.out.1 (fun e => by rcases e with e | e; exact HF3.out.2.1 e.symm; exact HF3.out.2.2 _ e rfl), HN.out.blk, HN.out.a⟩)
      go_wp2_with fail
      refine hK.out _ _ HS4.out (fun hNext => ?_)
      clear hd CH H3 HS3 HF3
      clear hK K
      have hHeld := hNext
      clear hNext
      (try simp only [Act.put, z1', z2', z3'])
      refine ry [10] ?_
      refine AllReadyH.cons rfl (fun K hK => ?_) AllReadyH.nil
      go_simp
      refine hK.out _ _ ⟨stays HS4.out.1 (nest_below w4 [noM TA]), stays HS4.out.2.1 (nest_below w4 [noM TA]), stays HS4.out.2.2 (nest_below w4 [noM TA])⟩ (fun hNext => ?_)
      clear hHeld
      clear hK K
      have hHeld := hNext
      clear hNext
      (try simp only [Act.put, z1', z2', z3'])
      have H5 := Lib.hid (HN.out.on (show Below w4.heap.size w4 (w4.alloc (.cells #[.string mi, .bool false, .int .i64 (ma : Int), .bool false] TA (0, 0))) from nest_below w4 [_]))
      have hac : (w4.alloc (.cells #[.string mi, .bool false, .int .i64 (ma : Int), .bool false] TA (0, 0))).heap[w4.heap.size]? = some (.cells #[.string mi, .bool false, .int .i64 (ma : Int), .bool false] TA (0, 0)) := nest w4 [_] 0 _ rfl
      refine ry [11] ?_
      refine AllReadyH.cons rfl (fun K hK => ?_) AllReadyH.nil
      go_simp
      go_wp2_with fail
      refine hK.out _ _ ⟨stays HS4.out.1 (nest_below w4 [(.cells #[.string mi, .bool false, .int .i64 (ma : Int), .bool false] TA (0, 0))]), H5.out.blk, H5.out.a⟩ (fun hNext => ?_)
      clear hHeld
      clear hK K
      have hHeld := hNext
      clear hNext
      (try simp only [Act.put, z1', z2', z3'])
      refine wpAnyH_done (by kernel_rfl) ?_ _
      clear hHeld
      have HK2 := Lib.hid (show b.bk ≠ w4.heap.size from fun e => by have := lt_heap HN.out.k; omega)
      clear HS4 HN
      generalize w4.alloc (.cells #[.string mi, .bool false, .int .i64 (ma : Int), .bool false] TA (0, 0)) = w5 at H5 hac ⊢
      generalize w4.heap.size = ab at hac HK2 ⊢
      generalize retag w3 tag2 6 = tag5 at H5
      obtain ⟨⟨a0, a1, a2, a3⟩, af⟩ := cells4 hac
      go_wp2
      go_ret
      exact ⟨rfl, _, _, _, _, _, H5.out⟩
    · go_simp
      refine hK.out _ _ ⟨stays HS3.out.1 (nest_below w3 [noM TA]), stays HS3.out.2.1 (nest_below w3 [noM TA]), stays HS3.out.2.2 (nest_below w3 [noM TA])⟩ (fun hNext => ?_)
      clear hK K
      have hHeld := hNext
      clear hNext
      (try simp only [Act.put, z1', z2', z3'])
      have H4 := Lib.hid ((H3.out.mark 9).on (show Below w3.heap.size w3 (w3.alloc (noM TA)) from nest_below w3 [_]))
      have HT4 := Lib.hid (show retag w3 tag2 9 w3.heap.size = 9 from retag_new (Nat.le_refl _))
      generalize retag w3 tag2 9 = tag4 at H4 HT4
      have hn4 : (w3.alloc (noM TA)).heap[w3.heap.size]? = some (noM TA) := nest w3 [_] 0 _ rfl
      have hs4 := size_alloc w3 (noM TA)
      have HS4 := Lib.hid (show (w3.alloc (noM TA)).heap[fb]? = some (.cells #[.int .u8 0, .bool fc, .int .u8 (fk : Int), .bool fpf, .int .u8 (fns : Int), .int .u8 (fnr : Int), .string fi] TF (0, 0)) from stays HS3.out.1 (nest_below w3 [noM TA]))
      refine ry [9] ?_
      refine AllReadyH.cons rfl (fun K hK => ?_) AllReadyH.nil
      go_simp
      refine (CH.out _ H4.out.s1).mono ?_
      rintro _ w4 ⟨rfl, u, hd⟩
      have HN := Lib.hid (H4.out.doB hd)
      have hn5 : w4.heap[w3.heap.size]? = some (noM TA) := hd.chg.stays hn4 (fun e => by
        rcases e with e | e
        · have := H4.out.t6; have := HT4.out; rw [e] at this; omega
        · have := H4.out.o1 _ e; have := HT4.out; omega)
      have hf5 : w4.heap[fb]? = some (.cells #[.int .u8 0, .bool fc, .int .u8 (fk : Int), .bool fpf, .int .u8 (fns : Int), .int .u8 (fnr : Int), .string fi] TF (0, 0)) := hd.chg.stays HS4.out (fun e => by
        rcases e with e | e
        · exact HF3.out.2.1 e.symm
        · exact HF3.out.2.2 _ e rfl)
      have htn : retag (w3.alloc (noM TA)) tag4 6 w3.heap.size = 9 := by rw [retag_old (by omega)]; exact HT4.out
      go_wp2_with fail
      refine hK.out _ _ ⟨hf5, HN.out.blk, HN.out.a⟩ (fun hNext => ?_)
      clear hd CH hHeld hn4
      clear hK K
      have hHeld := hNext
      clear hNext
      (try simp only [Act.put, z1', z2', z3'])
      obtain ⟨⟨y0, y1, y2, y3⟩, yf⟩ := cells4 hn5
      have hac : ((((w4.setCell ⟨w3.heap.size, 0, none⟩ (.string mi)).setCell ⟨w3.heap.size, 1, none⟩ (.bool false)).setCell ⟨w3.heap.size, 2, none⟩ (.int .i64 (ma : Int))).setCell ⟨w3.heap.size, 3, none⟩ (.bool false)).heap[w3.heap.size]? = some (.cells #[.string mi, .bool false, .int .i64 (ma : Int), .bool false] TA (0, 0)) := set4_at hn5 (.string mi) (.bool false) (.int .i64 (ma : Int)) (.bool false)
      have hcc : Chg (fun k => k = w3.heap.size) w4 ((((w4.setCell ⟨w3.heap.size, 0, none⟩ (.string mi)).setCell ⟨w3.heap.size, 1, none⟩ (.bool false)).setCell ⟨w3.heap.size, 2, none⟩ (.int .i64 (ma : Int))).setCell ⟨w3.heap.size, 3, none⟩ (.bool false)) := chg_set4 (S := fun k => k = w3.heap.size) (Chg.refl _ w4) (fun _ => rfl) _ _ _ _
      have H5 := Lib.hid (HN.out.other hcc htn H3.out.below.size)
      refine ry [11] ?_
      refine AllReadyH.cons rfl (fun K hK => ?_) AllReadyH.nil
      go_simp
      go_wp2_with fail
      refine hK.out _ _ ⟨hcc.stays hf5 (fun e => by have := lt_heap HS3.out.1; omega), H5.out.blk, H5.out.a⟩ (fun hNext => ?_)
      clear hHeld
      clear hK K
      have hHeld := hNext
      clear hNext
      (try simp only [Act.put, z1', z2', z3'])
      refine wpAnyH_done (by kernel_rfl) ?_ _
      clear hHeld
      have HK2 := Lib.hid (show b.bk ≠ w3.heap.size from fun e => by have := lt_heap H3.out.k; omega)
      clear HS3 HF3 HS4 HN H4 HT4 hn5 hf5 htn hcc y0 y1 y2 y3 yf hs4 H3
      generalize ((((w4.setCell ⟨w3.heap.size, 0, none⟩ (.string mi)).setCell ⟨w3.heap.size, 1, none⟩ (.bool false)).setCell ⟨w3.heap.size, 2, none⟩ (.int .i64 (ma : Int))).setCell ⟨w3.heap.size, 3, none⟩ (.bool false)) = w5 at H5 hac ⊢
      generalize w3.heap.size = ab at hac HK2 ⊢
      generalize retag (w3.alloc (noM TA)) tag4 6 = tag5 at H5
      obtain ⟨⟨a0, a1, a2, a3⟩, af⟩ := cells4 hac
      go_wp2
      go_ret
      exact ⟨rfl, _, _, _, _, _, H5.out⟩
set_option maxHeartbeats 16000000 in
set_option maxRecDepth 100000 in
theorem fhand0_yes (w0 w : World) (b : Bk) (x : Pr) (N : Nat) (h : PrE w0 b x w) (hI : Inv N x.B) (fc : Bool) (fk : Nat) (fpf : Bool) (fns fnr : Nat) (fi : ByteArray) (j rr : Nat) (r : List Gf) (hL : x.L0 = ⟨⟨fc, fk, fpf, fns, fnr, fi⟩, j, rr⟩ :: r) (hns : fns < 256) (hnr : fnr < 256) (X2 : Sd) (mi : ByteArray) (ma : Nat) (hh : hear ⟨fc, fk, fpf, fns, fnr, fi⟩ x.B = (X2, ⟨mi, true, ma, false⟩)) (hm : mi = inf x.k0) (hkb : x.k0 ≤ 1000000) :
    Calls Try.prog 38 #[ptr b.tb, .int .i64 0, .bool false] w fun e w' => e = .returned (.bool true) ∧ PrE w0 b { x with B := X2, L0 := r, k0 := x.k0 + 1 } w' := by
  have HM := Lib.hid hm
  have HKB := Lib.hid hkb
  have HCH : Hid (∀ (w' : World) (u : Value), PAt w' b.p1 (Ps.of x.B) u → Calls Try.prog 24 #[ptr b.p1, fmvd 0 ⟨fc, fk, fpf, fns, fnr, fi⟩] w' fun e w'' => e = .returned (.agg #[.string mi, .bool true, .int .i64 (ma : Int), .bool false]) ∧ ∃ u', QDo b.p1 (Ps.of X2) u u' w' w'') := Lib.hid fun w' u h' => by
    have := fhear w' b.p1 0 (Ps.of x.B) u ⟨fc, fk, fpf, fns, fnr, fi⟩ h' hI.pfit hns hnr
    rw [hear_of _ x.B hI.ord, hh] at this
    exact this
  have vw0 : IntKind.i64.wrap 0 = 0 := by decide
  have vw1 : IntKind.i64.wrap 1 = 1 := by decide
  clear hI hns hnr hh hm hkb
  obtain ⟨q0, q1, v0, v1, tag, h⟩ := h
  have CH : Hid (∀ w' : World, PAt w' b.p1 (Ps.of x.B) q1 → Calls Try.prog 24 #[ptr b.p1, fmvd 0 ⟨fc, fk, fpf, fns, fnr, fi⟩] w' fun e w'' => e = .returned (.agg #[.string mi, .bool true, .int .i64 (ma : Int), .bool false]) ∧ ∃ u', QDo b.p1 (Ps.of X2) q1 u' w' w'') := Lib.hid fun w' => HCH.out w' q1
  clear HCH
  have c1 : w.cell? ⟨b.tb, 1, none⟩ = some (two b.bl) := cell_of h.blk rfl
  obtain ⟨oa, cap, hv⟩ := h.l0.form
  have hql : Qz 7 fcF w w0.heap.size v0 ((⟨fc, fk, fpf, fns, fnr, fi⟩ : Fm) :: r.map Gf.f) := by have := h.l0; rw [hL] at this; exact this
  rw [hL, List.map_cons, List.length_cons, List.length_map] at hv
  rw [hv] at hql
  obtain ⟨g, off, ho, hn, hcap, hmax, hbg, hgw, ⟨e0, e1, e2, e3, e4, e5, e6⟩, hq⟩ := qz7_cons hql
  subst ho
  dsimp only at e1 e2 e3 e4 e5 e6
  have cl : w.cell? ⟨b.bl, 0, none⟩ = some (.slice (some ⟨g, off, none⟩) (r.length + 1) cap) := by rw [← hv]; exact cell_of h.l rfl
  obtain ⟨z, hz⟩ : ∃ z, r.length = z := ⟨_, rfl⟩
  rw [List.length_map] at hq
  rw [hz] at hcap hq cl hv
  have HV := Lib.hid hv
  have HQ := Lib.hid hq
  have HX := Lib.hid h
  have z0 : ((z + 1 : Nat) : Int) = (z : Int) + 1 := by omega
  have z1 : ¬ (z : Int) + 1 = 0 := by omega
  have z2 : decide ((0 : Int) < (z : Int) + 1) = true := decide_eq_true (by omega)
  have z3 : (((z : Int) + 1) == 0) = false := beq_false (by omega)
  have z4 : (0 : Int) < (z : Int) + 1 := by omega
  have z5 : (1 : Int) ≤ (z : Int) + 1 := by omega
  have hbl := lt_heap h.l
  have htb := lt_heap h.blk
  have hne : b.tb ≠ b.bl := fun e => by have := h.t0; have := h.tl; rw [e] at *; omega
  clear h hL hv hq hql hn hz
  go_enter Try.func38, Try.ntmps38
  go_wp2_with fail
  have H1 : Hid (PrAt w0 b x q0 q1 v0 v1 tag (w.alloc (.cells #[.int .u8 0, .bool fc, .int .u8 (fk : Int), .bool fpf, .int .u8 (fns : Int), .int .u8 (fnr : Int), .string fi] TF (0, 0))).drew) := Lib.hid (HX.out.on ((show Below w.heap.size w (w.alloc (.cells #[.int .u8 0, .bool fc, .int .u8 (fk : Int), .bool fpf, .int .u8 (fns : Int), .int .u8 (fnr : Int), .string fi] TF (0, 0))) from nest_below w [_]).drew))
  have HQ1 : Hid (Qz 7 fcF (w.alloc (.cells #[.int .u8 0, .bool fc, .int .u8 (fk : Int), .bool fpf, .int .u8 (fns : Int), .int .u8 (fnr : Int), .string fi] TF (0, 0))).drew w0.heap.size (.slice (if cap = 1 then some ⟨g, off, none⟩ else some ⟨g, off + 7, none⟩) z (cap - 1)) (r.map Gf.f)) := Lib.hid (HQ.out.below ((show Below w.heap.size w (w.alloc (.cells #[.int .u8 0, .bool fc, .int .u8 (fk : Int), .bool fpf, .int .u8 (fns : Int), .int .u8 (fnr : Int), .string fi] TF (0, 0))) from nest_below w [_]).drew))
  have hA1 : (w.alloc (.cells #[.int .u8 0, .bool fc, .int .u8 (fk : Int), .bool fpf, .int .u8 (fns : Int), .int .u8 (fnr : Int), .string fi] TF (0, 0))).drew.heap[w.heap.size]? = some (.cells #[.int .u8 0, .bool fc, .int .u8 (fk : Int), .bool fpf, .int .u8 (fns : Int), .int .u8 (fnr : Int), .string fi] TF (0, 0)) := nest w [_] 0 _ rfl
  obtain ⟨fb, hfb⟩ : ∃ n, n = w.heap.size := ⟨_, rfl⟩
  have HFB := Lib.hid hfb
  rw [← hfb] at hA1 hbl htb
  simp only [← hfb]
  clear hfb e0 e1 e2 e3 e4 e5 e6 hgw HQ c1 cl
  generalize hw1 : (w.alloc (.cells #[.int .u8 0, .bool fc, .int .u8 (fk : Int), .bool fpf, .int .u8 (fns : Int), .int .u8 (fnr : Int), .string fi] TF (0, 0))).drew = w1 at H1 HQ1 hA1
  have b2 : w1.cell? ⟨b.bl, 0, none⟩ = some (.slice (some ⟨g, off, none⟩) (z + 1) cap) := by rw [← HV.out]; exact cell_of H1.out.l rfl
  have f2 : ∀ i, w1.frozen? ⟨b.bl, i, none⟩ = false := fun _ => free_of H1.out.l
  have HTB := Lib.hid H1.out.blk
  refine wp_region_held_drew (S := (fun w' => w'.heap[b.tb]? = some (.cells #[two b.ba, two b.bl, two b.bu, two b.bk, .bool x.bad] 46 (0, 0)))) (by kernel_rfl) (hw1 ▸ HTB.out) (fun hHeld => ?_)
  refine' tk 0 ⟨some 27, .move (.tmp 0), 40, "law.go:134", #[], none⟩ ?_
  simp only [Act.put, z1', z2', z3']
  refine' tk 1 ⟨some 28, .nilCheck (.tmp 27), 0, "law.go:134", #[⟨0, .data⟩], none⟩ ?_
  simp only [Act.put, z1', z2', z3']
  refine' tk 2 ⟨some 29, .fieldAddr 46 (.tmp 28) 1, 0, "law.go:134", #[⟨1, .data⟩], none⟩ ?_
  simp only [Act.put, z1', z2', z3']
  refine' tv 3 ⟨some 30, .load 43 (.tmp 29), 43, "law.go:134", #[⟨2, .data⟩], none⟩ ?hy92 ?hr92
  case hy92 => (intro _ hSw; (try dsimp only at hSw); have hc := cell_of (i := 1) (v := two b.bl) hSw rfl; go_simp <;> with_reducible rfl)
  simp only [Act.put, z1', z2', z3']
  refine' tk 4 ⟨some 31, .move (.tmp 1), 3, "law.go:134", #[], none⟩ ?_
  simp only [Act.put, z1', z2', z3']
  refine' tk 5 ⟨some 32, .move (.tmp 0), 40, "law.go:134", #[], none⟩ ?_
  simp only [Act.put, z1', z2', z3']
  refine' tk 6 ⟨some 33, .nilCheck (.tmp 32), 0, "law.go:134", #[⟨5, .data⟩], none⟩ ?_
  simp only [Act.put, z1', z2', z3']
  refine' tk 7 ⟨some 34, .fieldAddr 46 (.tmp 33) 1, 0, "law.go:134", #[⟨6, .data⟩], none⟩ ?_
  simp only [Act.put, z1', z2', z3']
  refine' tv 8 ⟨some 35, .load 43 (.tmp 34), 43, "law.go:134", #[⟨7, .data⟩], none⟩ ?hy97 ?hr97
  case hy97 => (intro _ hSw; (try dsimp only at hSw); have hc := cell_of (i := 1) (v := two b.bl) hSw rfl; go_simp <;> with_reducible rfl)
  simp only [Act.put, z1', z2', z3']
  refine' tk 9 ⟨some 36, .move (.tmp 1), 3, "law.go:134", #[], none⟩ ?_
  simp only [Act.put, z1', z2', z3']
  refine' tk 10 ⟨some 37, .indexAddr 43 (.tmp 35) (.tmp 36), 0, "law.go:134", #[⟨8, .data⟩, ⟨9, .data⟩], none⟩ ?_
  simp only [Act.put, z1', z2', z3']
  rw [hw1]
  clear hw1
  refine ry [11] ?_
  refine AllReadyH.cons rfl (fun K hK => ?_) AllReadyH.nil
  go_simp
  refine hK.out _ _ HTB.out (fun hNext => ?_)
  clear hHeld
  clear hK K
  have hHeld := hNext
  clear hNext
  (try simp only [Act.put, z1', z2', z3'])
  by_cases hc1 : cap = 1
  · rw [if_pos hc1] at HQ1
    subst hc1
    obtain rfl : z = 0 := by omega
    refine' tk 12 ⟨some 39, .slice 88 (.tmp 38) (some (.const (.int .i64 1))) none none, 88, "law.go:134", #[⟨11, .data⟩], none⟩ ?_
    simp only [Act.put, z1', z2', z3']
    refine' tk 13 ⟨some 40, .indexAddr 43 (.tmp 30) (.tmp 31), 0, "law.go:134", #[⟨3, .data⟩, ⟨4, .data⟩, ⟨0, .phase⟩, ⟨1, .phase⟩, ⟨2, .phase⟩, ⟨3, .phase⟩, ⟨4, .phase⟩, ⟨5, .phase⟩, ⟨6, .phase⟩, ⟨7, .phase⟩, ⟨8, .phase⟩, ⟨9, .phase⟩, ⟨10, .phase⟩, ⟨11, .phase⟩, ⟨12, .phase⟩], none⟩ ?_
    simp only [Act.put, z1', z2', z3']
    refine ry [14] ?_
    refine AllReadyH.cons rfl (fun K hK => ?_) AllReadyH.nil
    go_simp
    refine hK.out _ _ ((set_other hne _).trans HTB.out) (fun hNext => ?_)
    clear hNext hHeld
    refine wpAnyH_done (by kernel_rfl) ?_ _
    clear hK K
    have hgr : w1.grownBy w1 v0.ownBlock := ⟨rfl, rfl, rfl, Nat.le_refl _, fun _ _ _ => rfl⟩
    have how : (Value.ownBlock (.slice (some ⟨g, off, none⟩) 0 0)) = v0.ownBlock := by rw [HV.out]; rfl
    have H2 := Lib.hid (H1.out.put0 hgr HQ1.out (Or.inl how))
    have hA2 : (w1.setCell ⟨b.bl, 0, none⟩ (.slice (some ⟨g, off, none⟩) 0 0)).heap[fb]? = some (.cells #[.int .u8 0, .bool fc, .int .u8 (fk : Int), .bool fpf, .int .u8 (fns : Int), .int .u8 (fnr : Int), .string fi] TF (0, 0)) := (set_other (by omega) _).trans hA1
    clear HQ1 H1 hA1 b2 f2 HTB hgr how
    generalize w1.setCell ⟨b.bl, 0, none⟩ (.slice (some ⟨g, off, none⟩) 0 0) = w2 at H2 hA2 ⊢
    generalize retag w1 tag 7 = tag2 at H2
    go_wp2_with fail
    have H3 := Lib.hid (H2.out.on (w' := w2.drew) ⟨rfl, rfl, rfl, Nat.le_refl _, fun _ _ => rfl⟩)
    have hA3 : w2.drew.heap[fb]? = some (.cells #[.int .u8 0, .bool fc, .int .u8 (fk : Int), .bool fpf, .int .u8 (fns : Int), .int .u8 (fnr : Int), .string fi] TF (0, 0)) := hA2
    clear H2 hA2
    refine wp_region_held_drew (S := (fun w' => w'.heap[fb]? = some (.cells #[.int .u8 0, .bool fc, .int .u8 (fk : Int), .bool fpf, .int .u8 (fns : Int), .int .u8 (fnr : Int), .string fi] TF (0, 0)) ∧ w'.heap[b.tb]? = some (.cells #[two b.ba, two b.bl, two b.bu, two b.bk, .bool x.bad] 46 (0, 0)) ∧ w'.heap[b.ba]? = some (.cells #[ptr b.p0, ptr b.p1] 28 (0, 0)))) (by kernel_rfl) ⟨hA3, H3.out.blk, H3.out.a⟩ (fun hHeld => ?_)
    refine' tk 0 ⟨some 42, .move (.tmp 0), 40, "law.go:138", #[], none⟩ ?_
    simp only [Act.put, z1', z2', z3']
    refine' tk 1 ⟨some 43, .nilCheck (.tmp 42), 0, "law.go:138", #[⟨0, .data⟩], none⟩ ?_
    simp only [Act.put, z1', z2', z3']
    refine' tk 2 ⟨some 44, .fieldAddr 46 (.tmp 43) 0, 0, "law.go:138", #[⟨1, .data⟩], none⟩ ?_
    simp only [Act.put, z1', z2', z3']
    refine' tv 3 ⟨some 45, .load 42 (.tmp 44), 42, "law.go:138", #[⟨2, .data⟩], none⟩ ?hy105 ?hr105
    case hy105 => (intro _ hSw; (try dsimp only at hSw); have hc := cell_of (i := 0) (v := two b.ba) hSw.2.1 rfl; go_simp <;> with_reducible rfl)
    simp only [Act.put, z1', z2', z3']
    refine' tk 4 ⟨some 46, .move (.tmp 1), 3, "law.go:138", #[], none⟩ ?_
    simp only [Act.put, z1', z2', z3']
    refine' tk 5 ⟨some 47, .binOp .sub 3 (.const (.int .i64 1)) (.tmp 46) 3, 3, "law.go:138", #[⟨4, .data⟩], none⟩ ?_
    simp only [Act.put, z1', z2', z3']
    refine' tk 6 ⟨some 48, .indexAddr 42 (.tmp 45) (.tmp 47), 0, "law.go:138", #[⟨3, .data⟩, ⟨5, .data⟩], none⟩ ?_
    simp only [Act.put, z1', z2', z3']
    refine' tv 7 ⟨some 49, .load 28 (.tmp 48), 28, "law.go:138", #[⟨6, .data⟩], none⟩ ?hy109 ?hr109
    case hy109 => (intro _ hSw; (try dsimp only at hSw); have hc := cell_of (i := 1) (v := ptr b.p1) hSw.2.2 rfl; go_simp <;> with_reducible rfl)
    simp only [Act.put, z1', z2', z3']
    refine' tv 8 ⟨some 50, .load 25 (.tmp 7), 25, "law.go:138", #[], none⟩ ?hy110 ?hr110
    case hy110 => (intro _ hSw; (try dsimp only at hSw); obtain ⟨⟨y0, y1, y2, y3, y4, y5, y6⟩, -⟩ := cells7 hSw.1; go_simp <;> with_reducible rfl)
    simp only [Act.put, z1', z2', z3']
    clear hHeld
    have hA4 : w2.drew.heap[fb]? = some (.cells #[.int .u8 0, .bool fc, .int .u8 (fk : Int), .bool fpf, .int .u8 (fns : Int), .int .u8 (fnr : Int), .string fi] TF (0, 0)) := hA3
    clear hA3
    generalize w2.drew = w3 at H3 hA4 ⊢
    have HS3 := Lib.hid (show w3.heap[fb]? = some (.cells #[.int .u8 0, .bool fc, .int .u8 (fk : Int), .bool fpf, .int .u8 (fns : Int), .int .u8 (fnr : Int), .string fi] TF (0, 0)) ∧ w3.heap[b.tb]? = some (.cells #[two b.ba, two b.bl, two b.bu, two b.bk, .bool x.bad] 46 (0, 0)) ∧ w3.heap[b.ba]? = some (.cells #[ptr b.p0, ptr b.p1] 28 (0, 0)) from ⟨hA4, H3.out.blk, H3.out.a⟩)
    have HF3 := Lib.hid (show b.p0 ≠ fb ∧ b.p1 ≠ fb ∧ (∀ g, q1.ownBlock = some g → g ≠ fb) from ⟨fun e => by have := HX.out.s0.lt; have := HFB.out; omega, fun e => by have := HX.out.s1.lt; have := HFB.out; omega, fun g hg e => by have := (HX.out.s1.q.lt g hg).2; have := HFB.out; omega⟩)
    clear hA4
    refine ry [9, 10] ?_
    refine AllReadyH.cons rfl (fun K hK => ?_) (AllReadyH.cons rfl (fun K hK => ?_) AllReadyH.nil)
    · go_simp
      refine (CH.out _ H3.out.s1).mono ?_
      rintro _ w4 ⟨rfl, u, hd⟩
      have HN := Lib.hid (H3.out.doB hd)
      have HS4 := Lib.hid (show w4.heap[fb]? = some (.cells #[.int .u8 0, .bool fc, .int .u8 (fk : Int), .bool fpf, .int .u8 (fns : Int), .int .u8 (fnr : Int), .string fi] TF (0, 0)) ∧ w4.heap[b.tb]? = some (.cells #[two b.ba, two b.bl, two b.bu, two b.bk, .bool x.bad] 46 (0, 0)) ∧ w4.heap[b.ba]? = some (.cells #[ptr b.p0, ptr b.p1] 28 (0, 0)) from ⟨hd.chg.stays HS3.out.1 (fun e => by rcases e with e | e; exact HF3.out.2.1 e.symm; exact HF3.out.2.2 _ e rfl), HN.out.blk, HN.out.a⟩)
      go_wp2_with fail
      refine hK.out _ _ HS4.out (fun hNext => ?_)
      clear hd CH H3 HS3 HF3
      clear hK K
      have hHeld := hNext
      clear hNext
      (try simp only [Act.put, z1', z2', z3'])
      refine ry [10] ?_
      refine AllReadyH.cons rfl (fun K hK => ?_) AllReadyH.nil
      go_simp
      refine hK.out _ _ ⟨stays HS4.out.1 (nest_below w4 [noM TA]), stays HS4.out.2.1 (nest_below w4 [noM TA]), stays HS4.out.2.2 (nest_below w4 [noM TA])⟩ (fun hNext => ?_)
      clear hHeld
      clear hK K
      have hHeld := hNext
      clear hNext
      (try simp only [Act.put, z1', z2', z3'])
      have H5 := Lib.hid (HN.out.on (show Below w4.heap.size w4 (w4.alloc (.cells #[.string mi, .bool true, .int .i64 (ma : Int), .bool false] TA (0, 0))) from nest_below w4 [_]))
      have hac : (w4.alloc (.cells #[.string mi, .bool true, .int .i64 (ma : Int), .bool false] TA (0, 0))).heap[w4.heap.size]? = some (.cells #[.string mi, .bool true, .int .i64 (ma : Int), .bool false] TA (0, 0)) := nest w4 [_] 0 _ rfl
      refine ry [11] ?_
      refine AllReadyH.cons rfl (fun K hK => ?_) AllReadyH.nil
      go_simp
      go_wp2_with fail
      refine hK.out _ _ ⟨stays HS4.out.1 (nest_below w4 [(.cells #[.string mi, .bool true, .int .i64 (ma : Int), .bool false] TA (0, 0))]), H5.out.blk, H5.out.a⟩ (fun hNext => ?_)
      clear hHeld
      clear hK K
      have hHeld := hNext
      clear hNext
      (try simp only [Act.put, z1', z2', z3'])
      refine wpAnyH_done (by kernel_rfl) ?_ _
      clear hHeld
      have HK2 := Lib.hid (show b.bk ≠ w4.heap.size from fun e => by have := lt_heap HN.out.k; omega)
      clear HS4 HN
      generalize w4.alloc (.cells #[.string mi, .bool true, .int .i64 (ma : Int), .bool false] TA (0, 0)) = w5 at H5 hac ⊢
      generalize w4.heap.size = ab at hac HK2 ⊢
      generalize retag w3 tag2 6 = tag5 at H5
      obtain ⟨⟨a0, a1, a2, a3⟩, af⟩ := cells4 hac
      have hmi := HM.out
      go_wp2_with fail
      have H6 := Lib.hid (H5.out.on (w' := w5.drew) ⟨rfl, rfl, rfl, Nat.le_refl _, fun _ _ => rfl⟩)
      have hac3 : w5.drew.heap[ab]? = some (.cells #[.string mi, .bool true, .int .i64 (ma : Int), .bool false] TA (0, 0)) := hac
      clear a0 a1 a2 a3 af hac H5
      refine wp_region_held_drew (S := (fun w' => w'.heap[ab]? = some (.cells #[.string mi, .bool true, .int .i64 (ma : Int), .bool false] TA (0, 0)) ∧ w'.heap[b.tb]? = some (.cells #[two b.ba, two b.bl, two b.bu, two b.bk, .bool x.bad] 46 (0, 0)) ∧ w'.heap[b.bk]? = some (.cells #[nm x.k0, nm x.k1] 3 (0, 0)))) (by kernel_rfl) ⟨hac3, H6.out.blk, H6.out.k⟩ (fun hHeld => ?_)
      refine' tk 0 ⟨some 59, .fieldAddr 56 (.tmp 8) 0, 0, "law.go:143", #[], none⟩ ?_
      simp only [Act.put, z1', z2', z3']
      refine' tv 1 ⟨some 60, .load 9 (.tmp 59), 9, "law.go:143", #[⟨0, .data⟩], none⟩ ?hy112 ?hr112
      case hy112 => (intro _ hSw; (try dsimp only at hSw); obtain ⟨⟨y0, y1, y2, y3⟩, -⟩ := cells4 hSw.1; go_simp <;> with_reducible rfl)
      simp only [Act.put, z1', z2', z3']
      refine' tk 2 ⟨some 61, .move (.tmp 0), 40, "law.go:143", #[], none⟩ ?_
      simp only [Act.put, z1', z2', z3']
      refine' tk 3 ⟨some 62, .nilCheck (.tmp 61), 0, "law.go:143", #[⟨2, .data⟩], none⟩ ?_
      simp only [Act.put, z1', z2', z3']
      refine' tk 4 ⟨some 63, .fieldAddr 46 (.tmp 62) 3, 0, "law.go:143", #[⟨3, .data⟩], none⟩ ?_
      simp only [Act.put, z1', z2', z3']
      refine' tv 5 ⟨some 64, .load 44 (.tmp 63), 44, "law.go:143", #[⟨4, .data⟩], none⟩ ?hy116 ?hr116
      case hy116 => (intro _ hSw; (try dsimp only at hSw); have hc := cell_of (i := 3) (v := two b.bk) hSw.2.1 rfl; go_simp <;> with_reducible rfl)
      simp only [Act.put, z1', z2', z3']
      refine' tk 6 ⟨some 65, .move (.tmp 1), 3, "law.go:143", #[], none⟩ ?_
      simp only [Act.put, z1', z2', z3']
      refine' tk 7 ⟨some 66, .indexAddr 44 (.tmp 64) (.tmp 65), 0, "law.go:143", #[⟨5, .data⟩, ⟨6, .data⟩], none⟩ ?_
      simp only [Act.put, z1', z2', z3']
      refine' tv 8 ⟨some 67, .load 3 (.tmp 66), 3, "law.go:143", #[⟨7, .data⟩], none⟩ ?hy119 ?hr119
      case hy119 => (intro _ hSw; (try dsimp only at hSw); have hc := cell_of (i := 0) (v := nm x.k0) hSw.2.2 rfl; go_simp <;> with_reducible rfl)
      simp only [Act.put, z1', z2', z3']
      clear hHeld
      generalize w5.drew = w6 at H6 hac3 ⊢
      refine ry [9] ?_
      refine AllReadyH.cons rfl (fun K hK => ?_) AllReadyH.nil
      go_simp
      refine (finf x.k0 HKB.out _).mono ?_
      rintro _ w7 ⟨rfl, hb⟩
      have H7 := Lib.hid (H6.out.on hb)
      have hac7 := stays hac3 hb
      clear hb hac3 H6
      go_wp2_with fail
      refine hK.out _ _ ⟨hac7, H7.out.blk, H7.out.k⟩ (fun hNext => ?_)
      clear hK K
      have hHeld := hNext
      clear hNext
      (try simp only [Act.put, z1', z2', z3'])
      subst hmi
      have b1 : ((inf x.k0).toList == (inf x.k0).toList) = true := by simp
      have b2 : ((inf x.k0).toList != (inf x.k0).toList) = false := by simp
      generalize inf x.k0 = st at b1 b2 hHeld hac7 ⊢
      refine' tk 10 ⟨some 69, .binOp .neq 9 (.tmp 60) (.tmp 68) 9, 4, "law.go:143", #[⟨1, .data⟩, ⟨9, .data⟩], none⟩ ?_
      simp only [Act.put, z1', z2', z3']
      refine wpAnyH_done (by kernel_rfl) ?_ _
      clear hHeld
      have c3 : w7.cell? ⟨b.tb, 3, none⟩ = some (two b.bk) := cell_of H7.out.blk rfl
      have ck : w7.cell? ⟨b.bk, 0, none⟩ = some (nm x.k0) := cell_of H7.out.k rfl
      have fk2 : ∀ i, w7.frozen? ⟨b.bk, i, none⟩ = false := fun _ => free_of H7.out.k
      have vk : IntKind.i64.wrap ((x.k0 : Int) + 1) = ((x.k0 + 1 : Nat) : Int) := by have := HKB.out; rw [IntKind.wrap_i64]; omega
      have H8 := Lib.hid (H7.out.put_k (x.k0 + 1) x.k1 (chg_cell w7 b.bk 0 (nm (x.k0 + 1))) (block_set (i := 0) H7.out.k _))
      clear H7 hac7
      obtain ⟨kn, hkn⟩ : ∃ kn, x.k0 + 1 = kn := ⟨_, rfl⟩
      rw [hkn] at vk H8
      have HKN := Lib.hid hkn
      clear hkn
      go_wp2
      go_ret
      have hkn := HKN.out
      clear HKN
      subst hkn
      exact ⟨rfl, _, _, _, _, _, H8.out⟩
    · go_simp
      refine hK.out _ _ ⟨stays HS3.out.1 (nest_below w3 [noM TA]), stays HS3.out.2.1 (nest_below w3 [noM TA]), stays HS3.out.2.2 (nest_below w3 [noM TA])⟩ (fun hNext => ?_)
      clear hK K
      have hHeld := hNext
      clear hNext
      (try simp only [Act.put, z1', z2', z3'])
      have H4 := Lib.hid ((H3.out.mark 9).on (show Below w3.heap.size w3 (w3.alloc (noM TA)) from nest_below w3 [_]))
      have HT4 := Lib.hid (show retag w3 tag2 9 w3.heap.size = 9 from retag_new (Nat.le_refl _))
      generalize retag w3 tag2 9 = tag4 at H4 HT4
      have hn4 : (w3.alloc (noM TA)).heap[w3.heap.size]? = some (noM TA) := nest w3 [_] 0 _ rfl
      have hs4 := size_alloc w3 (noM TA)
      have HS4 := Lib.hid (show (w3.alloc (noM TA)).heap[fb]? = some (.cells #[.int .u8 0, .bool fc, .int .u8 (fk : Int), .bool fpf, .int .u8 (fns : Int), .int .u8 (fnr : Int), .string fi] TF (0, 0)) from stays HS3.out.1 (nest_below w3 [noM TA]))
      refine ry [9] ?_
      refine AllReadyH.cons rfl (fun K hK => ?_) AllReadyH.nil
      go_simp
      refine (CH.out _ H4.out.s1).mono ?_
      rintro _ w4 ⟨rfl, u, hd⟩
      have HN := Lib.hid (H4.out.doB hd)
      have hn5 : w4.heap[w3.heap.size]? = some (noM TA) := hd.chg.stays hn4 (fun e => by
        rcases e with e | e
        · have := H4.out.t6; have := HT4.out; rw [e] at this; omega
        · have := H4.out.o1 _ e; have := HT4.out; omega)
      have hf5 : w4.heap[fb]? = some (.cells #[.int .u8 0, .bool fc, .int .u8 (fk : Int), .bool fpf, .int .u8 (fns : Int), .int .u8 (fnr : Int), .string fi] TF (0, 0)) := hd.chg.stays HS4.out (fun e => by
        rcases e with e | e
        · exact HF3.out.2.1 e.symm
        · exact HF3.out.2.2 _ e rfl)
      have htn : retag (w3.alloc (noM TA)) tag4 6 w3.heap.size = 9 := by rw [retag_old (by omega)]; exact HT4.out
      go_wp2_with fail
      refine hK.out _ _ ⟨hf5, HN.out.blk, HN.out.a⟩ (fun hNext => ?_)
      clear hd CH hHeld hn4
      clear hK K
      have hHeld := hNext
      clear hNext
      (try simp only [Act.put, z1', z2', z3'])
      obtain ⟨⟨y0, y1, y2, y3⟩, yf⟩ := cells4 hn5
      have hac : ((((w4.setCell ⟨w3.heap.size, 0, none⟩ (.string mi)).setCell ⟨w3.heap.size, 1, none⟩ (.bool true)).setCell ⟨w3.heap.size, 2, none⟩ (.int .i64 (ma : Int))).setCell ⟨w3.heap.size, 3, none⟩ (.bool false)).heap[w3.heap.size]? = some (.cells #[.string mi, .bool true, .int .i64 (ma : Int), .bool false] TA (0, 0)) := set4_at hn5 (.string mi) (.bool true) (.int .i64 (ma : Int)) (.bool false)
      have hcc : Chg (fun k => k = w3.heap.size) w4 ((((w4.setCell ⟨w3.heap.size, 0, none⟩ (.string mi)).setCell ⟨w3.heap.size, 1, none⟩ (.bool true)).setCell ⟨w3.heap.size, 2, none⟩ (.int .i64 (ma : Int))).setCell ⟨w3.heap.size, 3, none⟩ (.bool false)) := chg_set4 (S := fun k => k = w3.heap.size) (Chg.refl _ w4) (fun _ => rfl) _ _ _ _
      have H5 := Lib.hid (HN.out.other hcc htn H3.out.below.size)
      refine ry [11] ?_
      refine AllReadyH.cons rfl (fun K hK => ?_) AllReadyH.nil
      go_simp
      go_wp2_with fail
      refine hK.out _ _ ⟨hcc.stays hf5 (fun e => by have := lt_heap HS3.out.1; omega), H5.out.blk, H5.out.a⟩ (fun hNext => ?_)
      clear hHeld
      clear hK K
      have hHeld := hNext
      clear hNext
      (try simp only [Act.put, z1', z2', z3'])
      refine wpAnyH_done (by kernel_rfl) ?_ _
      clear hHeld
      have HK2 := Lib.hid (show b.bk ≠ w3.heap.size from fun e => by have := lt_heap H3.out.k; omega)
      clear HS3 HF3 HS4 HN H4 HT4 hn5 hf5 htn hcc y0 y1 y2 y3 yf hs4 H3
      generalize ((((w4.setCell ⟨w3.heap.size, 0, none⟩ (.string mi)).setCell ⟨w3.heap.size, 1, none⟩ (.bool true)).setCell ⟨w3.heap.size, 2, none⟩ (.int .i64 (ma : Int))).setCell ⟨w3.heap.size, 3, none⟩ (.bool false)) = w5 at H5 hac ⊢
      generalize w3.heap.size = ab at hac HK2 ⊢
      generalize retag (w3.alloc (noM TA)) tag4 6 = tag5 at H5
      obtain ⟨⟨a0, a1, a2, a3⟩, af⟩ := cells4 hac
      have hmi := HM.out
      go_wp2_with fail
      have H6 := Lib.hid (H5.out.on (w' := w5.drew) ⟨rfl, rfl, rfl, Nat.le_refl _, fun _ _ => rfl⟩)
      have hac3 : w5.drew.heap[ab]? = some (.cells #[.string mi, .bool true, .int .i64 (ma : Int), .bool false] TA (0, 0)) := hac
      clear a0 a1 a2 a3 af hac H5
      refine wp_region_held_drew (S := (fun w' => w'.heap[ab]? = some (.cells #[.string mi, .bool true, .int .i64 (ma : Int), .bool false] TA (0, 0)) ∧ w'.heap[b.tb]? = some (.cells #[two b.ba, two b.bl, two b.bu, two b.bk, .bool x.bad] 46 (0, 0)) ∧ w'.heap[b.bk]? = some (.cells #[nm x.k0, nm x.k1] 3 (0, 0)))) (by kernel_rfl) ⟨hac3, H6.out.blk, H6.out.k⟩ (fun hHeld => ?_)
      refine' tk 0 ⟨some 59, .fieldAddr 56 (.tmp 8) 0, 0, "law.go:143", #[], none⟩ ?_
      simp only [Act.put, z1', z2', z3']
      refine' tv 1 ⟨some 60, .load 9 (.tmp 59), 9, "law.go:143", #[⟨0, .data⟩], none⟩ ?hy122 ?hr122
      case hy122 => (intro _ hSw; (try dsimp only at hSw); obtain ⟨⟨y0, y1, y2, y3⟩, -⟩ := cells4 hSw.1; go_simp <;> with_reducible rfl)
      simp only [Act.put, z1', z2', z3']
      refine' tk 2 ⟨some 61, .move (.tmp 0), 40, "law.go:143", #[], none⟩ ?_
      simp only [Act.put, z1', z2', z3']
      refine' tk 3 ⟨some 62, .nilCheck (.tmp 61), 0, "law.go:143", #[⟨2, .data⟩], none⟩ ?_
      simp only [Act.put, z1', z2', z3']
      refine' tk 4 ⟨some 63, .fieldAddr 46 (.tmp 62) 3, 0, "law.go:143", #[⟨3, .data⟩], none⟩ ?_
      simp only [Act.put, z1', z2', z3']
      refine' tv 5 ⟨some 64, .load 44 (.tmp 63), 44, "law.go:143", #[⟨4, .data⟩], none⟩ ?hy126 ?hr126
      case hy126 => (intro _ hSw; (try dsimp only at hSw); have hc := cell_of (i := 3) (v := two b.bk) hSw.2.1 rfl; go_simp <;> with_reducible rfl)
      simp only [Act.put, z1', z2', z3']
      refine' tk 6 ⟨some 65, .move (.tmp 1), 3, "law.go:143", #[], none⟩ ?_
      simp only [Act.put, z1', z2', z3']
      refine' tk 7 ⟨some 66, .indexAddr 44 (.tmp 64) (.tmp 65), 0, "law.go:143", #[⟨5, .data⟩, ⟨6, .data⟩], none⟩ ?_
      simp only [Act.put, z1', z2', z3']
      refine' tv 8 ⟨some 67, .load 3 (.tmp 66), 3, "law.go:143", #[⟨7, .data⟩], none⟩ ?hy129 ?hr129
      case hy129 => (intro _ hSw; (try dsimp only at hSw); have hc := cell_of (i := 0) (v := nm x.k0) hSw.2.2 rfl; go_simp <;> with_reducible rfl)
      simp only [Act.put, z1', z2', z3']
      clear hHeld
      generalize w5.drew = w6 at H6 hac3 ⊢
      refine ry [9] ?_
      refine AllReadyH.cons rfl (fun K hK => ?_) AllReadyH.nil
      go_simp
      refine (finf x.k0 HKB.out _).mono ?_
      rintro _ w7 ⟨rfl, hb⟩
      have H7 := Lib.hid (H6.out.on hb)
      have hac7 := stays hac3 hb
      clear hb hac3 H6
      go_wp2_with fail
      refine hK.out _ _ ⟨hac7, H7.out.blk, H7.out.k⟩ (fun hNext => ?_)
      clear hK K
      have hHeld := hNext
      clear hNext
      (try simp only [Act.put, z1', z2', z3'])
      subst hmi
      have b1 : ((inf x.k0).toList == (inf x.k0).toList) = true := by simp
      have b2 : ((inf x.k0).toList != (inf x.k0).toList) = false := by simp
      generalize inf x.k0 = st at b1 b2 hHeld hac7 ⊢
      refine' tk 10 ⟨some 69, .binOp .neq 9 (.tmp 60) (.tmp 68) 9, 4, "law.go:143", #[⟨1, .data⟩, ⟨9, .data⟩], none⟩ ?_
      simp only [Act.put, z1', z2', z3']
      refine wpAnyH_done (by kernel_rfl) ?_ _
      clear hHeld
      have c3 : w7.cell? ⟨b.tb, 3, none⟩ = some (two b.bk) := cell_of H7.out.blk rfl
      have ck : w7.cell? ⟨b.bk, 0, none⟩ = some (nm x.k0) := cell_of H7.out.k rfl
      have fk2 : ∀ i, w7.frozen? ⟨b.bk, i, none⟩ = false := fun _ => free_of H7.out.k
      have vk : IntKind.i64.wrap ((x.k0 : Int) + 1) = ((x.k0 + 1 : Nat) : Int) := by have := HKB.out; rw [IntKind.wrap_i64]; omega
      have H8 := Lib.hid (H7.out.put_k (x.k0 + 1) x.k1 (chg_cell w7 b.bk 0 (nm (x.k0 + 1))) (block_set (i := 0) H7.out.k _))
      clear H7 hac7
      obtain ⟨kn, hkn⟩ : ∃ kn, x.k0 + 1 = kn := ⟨_, rfl⟩
      rw [hkn] at vk H8
      have HKN := Lib.hid hkn
      clear hkn
      go_wp2
      go_ret
      have hkn := HKN.out
      clear HKN
      subst hkn
      exact ⟨rfl, _, _, _, _, _, H8.out⟩
  · rw [if_neg hc1] at HQ1
    refine' tk 12 ⟨some 39, .slice 88 (.tmp 38) (some (.const (.int .i64 1))) none none, 88, "law.go:134", #[⟨11, .data⟩], none⟩ ?_
    simp only [Act.put, z1', z2', z3']
    refine' tk 13 ⟨some 40, .indexAddr 43 (.tmp 30) (.tmp 31), 0, "law.go:134", #[⟨3, .data⟩, ⟨4, .data⟩, ⟨0, .phase⟩, ⟨1, .phase⟩, ⟨2, .phase⟩, ⟨3, .phase⟩, ⟨4, .phase⟩, ⟨5, .phase⟩, ⟨6, .phase⟩, ⟨7, .phase⟩, ⟨8, .phase⟩, ⟨9, .phase⟩, ⟨10, .phase⟩, ⟨11, .phase⟩, ⟨12, .phase⟩], none⟩ ?_
    simp only [Act.put, z1', z2', z3']
    refine ry [14] ?_
    refine AllReadyH.cons rfl (fun K hK => ?_) AllReadyH.nil
    go_simp
    refine hK.out _ _ ((set_other hne _).trans HTB.out) (fun hNext => ?_)
    clear hNext hHeld
    refine wpAnyH_done (by kernel_rfl) ?_ _
    clear hK K
    have hgr : w1.grownBy w1 v0.ownBlock := ⟨rfl, rfl, rfl, Nat.le_refl _, fun _ _ _ => rfl⟩
    have how : (Value.ownBlock (.slice (some ⟨g, off + 7, none⟩) z (cap - 1))) = v0.ownBlock := by rw [HV.out]; rfl
    have H2 := Lib.hid (H1.out.put0 hgr HQ1.out (Or.inl how))
    have hA2 : (w1.setCell ⟨b.bl, 0, none⟩ (.slice (some ⟨g, off + 7, none⟩) z (cap - 1))).heap[fb]? = some (.cells #[.int .u8 0, .bool fc, .int .u8 (fk : Int), .bool fpf, .int .u8 (fns : Int), .int .u8 (fnr : Int), .string fi] TF (0, 0)) := (set_other (by omega) _).trans hA1
    clear HQ1 H1 hA1 b2 f2 HTB hgr how
    generalize w1.setCell ⟨b.bl, 0, none⟩ (.slice (some ⟨g, off + 7, none⟩) z (cap - 1)) = w2 at H2 hA2 ⊢
    generalize retag w1 tag 7 = tag2 at H2
    go_wp2_with fail
    have H3 := Lib.hid (H2.out.on (w' := w2.drew) ⟨rfl, rfl, rfl, Nat.le_refl _, fun _ _ => rfl⟩)
    have hA3 : w2.drew.heap[fb]? = some (.cells #[.int .u8 0, .bool fc, .int .u8 (fk : Int), .bool fpf, .int .u8 (fns : Int), .int .u8 (fnr : Int), .string fi] TF (0, 0)) := hA2
    clear H2 hA2
    refine wp_region_held_drew (S := (fun w' => w'.heap[fb]? = some (.cells #[.int .u8 0, .bool fc, .int .u8 (fk : Int), .bool fpf, .int .u8 (fns : Int), .int .u8 (fnr : Int), .string fi] TF (0, 0)) ∧ w'.heap[b.tb]? = some (.cells #[two b.ba, two b.bl, two b.bu, two b.bk, .bool x.bad] 46 (0, 0)) ∧ w'.heap[b.ba]? = some (.cells #[ptr b.p0, ptr b.p1] 28 (0, 0)))) (by kernel_rfl) ⟨hA3, H3.out.blk, H3.out.a⟩ (fun hHeld => ?_)
    refine' tk 0 ⟨some 42, .move (.tmp 0), 40, "law.go:138", #[], none⟩ ?_
    simp only [Act.put, z1', z2', z3']
    refine' tk 1 ⟨some 43, .nilCheck (.tmp 42), 0, "law.go:138", #[⟨0, .data⟩], none⟩ ?_
    simp only [Act.put, z1', z2', z3']
    refine' tk 2 ⟨some 44, .fieldAddr 46 (.tmp 43) 0, 0, "law.go:138", #[⟨1, .data⟩], none⟩ ?_
    simp only [Act.put, z1', z2', z3']
    refine' tv 3 ⟨some 45, .load 42 (.tmp 44), 42, "law.go:138", #[⟨2, .data⟩], none⟩ ?hy136 ?hr136
    case hy136 => (intro _ hSw; (try dsimp only at hSw); have hc := cell_of (i := 0) (v := two b.ba) hSw.2.1 rfl; go_simp <;> with_reducible rfl)
    simp only [Act.put, z1', z2', z3']
    refine' tk 4 ⟨some 46, .move (.tmp 1), 3, "law.go:138", #[], none⟩ ?_
    simp only [Act.put, z1', z2', z3']
    refine' tk 5 ⟨some 47, .binOp .sub 3 (.const (.int .i64 1)) (.tmp 46) 3, 3, "law.go:138", #[⟨4, .data⟩], none⟩ ?_
    simp only [Act.put, z1', z2', z3']
    refine' tk 6 ⟨some 48, .indexAddr 42 (.tmp 45) (.tmp 47), 0, "law.go:138", #[⟨3, .data⟩, ⟨5, .data⟩], none⟩ ?_
    simp only [Act.put, z1', z2', z3']
    refine' tv 7 ⟨some 49, .load 28 (.tmp 48), 28, "law.go:138", #[⟨6, .data⟩], none⟩ ?hy140 ?hr140
    case hy140 => (intro _ hSw; (try dsimp only at hSw); have hc := cell_of (i := 1) (v := ptr b.p1) hSw.2.2 rfl; go_simp <;> with_reducible rfl)
    simp only [Act.put, z1', z2', z3']
    refine' tv 8 ⟨some 50, .load 25 (.tmp 7), 25, "law.go:138", #[], none⟩ ?hy141 ?hr141
    case hy141 => (intro _ hSw; (try dsimp only at hSw); obtain ⟨⟨y0, y1, y2, y3, y4, y5, y6⟩, -⟩ := cells7 hSw.1; go_simp <;> with_reducible rfl)
    simp only [Act.put, z1', z2', z3']
    clear hHeld
    have hA4 : w2.drew.heap[fb]? = some (.cells #[.int .u8 0, .bool fc, .int .u8 (fk : Int), .bool fpf, .int .u8 (fns : Int), .int .u8 (fnr : Int), .string fi] TF (0, 0)) := hA3
    clear hA3
    generalize w2.drew = w3 at H3 hA4 ⊢
    have HS3 := Lib.hid (show w3.heap[fb]? = some (.cells #[.int .u8 0, .bool fc, .int .u8 (fk : Int), .bool fpf, .int .u8 (fns : Int), .int .u8 (fnr : Int), .string fi] TF (0, 0)) ∧ w3.heap[b.tb]? = some (.cells #[two b.ba, two b.bl, two b.bu, two b.bk, .bool x.bad] 46 (0, 0)) ∧ w3.heap[b.ba]? = some (.cells #[ptr b.p0, ptr b.p1] 28 (0, 0)) from ⟨hA4, H3.out.blk, H3.out.a⟩)
    have HF3 := Lib.hid (show b.p0 ≠ fb ∧ b.p1 ≠ fb ∧ (∀ g, q1.ownBlock = some g → g ≠ fb) from ⟨fun e => by have := HX.out.s0.lt; have := HFB.out; omega, fun e => by have := HX.out.s1.lt; have := HFB.out; omega, fun g hg e => by have := (HX.out.s1.q.lt g hg).2; have := HFB.out; omega⟩)
    clear hA4
    refine ry [9, 10] ?_
    refine AllReadyH.cons rfl (fun K hK => ?_) (AllReadyH.cons rfl (fun K hK => ?_) AllReadyH.nil)
    · go_simp
      refine (CH.out _ H3.out.s1).mono ?_
      rintro _ w4 ⟨rfl, u, hd⟩
      have HN := Lib.hid (H3.out.doB hd)
      have HS4 := Lib.hid (show w4.heap[fb]? = some (.cells #[.int .u8 0, .bool fc, .int .u8 (fk : Int), .bool fpf, .int .u8 (fns : Int), .int .u8 (fnr : Int), .string fi] TF (0, 0)) ∧ w4.heap[b.tb]? = some (.cells #[two b.ba, two b.bl, two b.bu, two b.bk, .bool x.bad] 46 (0, 0)) ∧ w4.heap[b.ba]? = some (.cells #[ptr b.p0, ptr b.p1] 28 (0, 0)) from ⟨hd.chg.stays HS3.out.1 (fun e => by rcases e with e | e; exact HF3.out.2.1 e.symm; exact HF3.out.2.2 _ e rfl), HN.out.blk, HN.out.a⟩)
      go_wp2_with fail
      refine hK.out _ _ HS4.out (fun hNext => ?_)
      clear hd CH H3 HS3 HF3
      clear hK K
      have hHeld := hNext
      clear hNext
      (try simp only [Act.put, z1', z2', z3'])
      refine ry [10] ?_
      refine AllReadyH.cons rfl (fun K hK => ?_) AllReadyH.nil
      go_simp
      refine hK.out _ _ ⟨stays HS4.out.1 (nest_below w4 [noM TA]), stays HS4.out.2.1 (nest_below w4 [noM TA]), stays HS4.out.2.2 (nest_below w4 [noM TA])⟩ (fun hNext => ?_)
      clear hHeld
      clear hK K
      have hHeld := hNext
      clear hNext
      (try simp only [Act.put, z1', z2', z3'])
      have H5 := Lib.hid (HN.out.on (show Below w4.heap.size w4 (w4.alloc (.cells #[.string mi, .bool true, .int .i64 (ma : Int), .bool false] TA (0, 0))) from nest_below w4 [_]))
      have hac : (w4.alloc (.cells #[.string mi, .bool true, .int .i64 (ma : Int), .bool false] TA (0, 0))).heap[w4.heap.size]? = some (.cells #[.string mi, .bool true, .int .i64 (ma : Int), .bool false] TA (0, 0)) := nest w4 [_] 0 _ rfl
      refine ry [11] ?_
      refine AllReadyH.cons rfl (fun K hK => ?_) AllReadyH.nil
      go_simp
      go_wp2_with fail
      refine hK.out _ _ ⟨stays HS4.out.1 (nest_below w4 [(.cells #[.string mi, .bool true, .int .i64 (ma : Int), .bool false] TA (0, 0))]), H5.out.blk, H5.out.a⟩ (fun hNext => ?_)
      clear hHeld
      clear hK K
      have hHeld := hNext
      clear hNext
      (try simp only [Act.put, z1', z2', z3'])
      refine wpAnyH_done (by kernel_rfl) ?_ _
      clear hHeld
      have HK2 := Lib.hid (show b.bk ≠ w4.heap.size from fun e => by have := lt_heap HN.out.k; omega)
      clear HS4 HN
      generalize w4.alloc (.cells #[.string mi, .bool true, .int .i64 (ma : Int), .bool false] TA (0, 0)) = w5 at H5 hac ⊢
      generalize w4.heap.size = ab at hac HK2 ⊢
      generalize retag w3 tag2 6 = tag5 at H5
      obtain ⟨⟨a0, a1, a2, a3⟩, af⟩ := cells4 hac
      have hmi := HM.out
      go_wp2_with fail
      have H6 := Lib.hid (H5.out.on (w' := w5.drew) ⟨rfl, rfl, rfl, Nat.le_refl _, fun _ _ => rfl⟩)
      have hac3 : w5.drew.heap[ab]? = some (.cells #[.string mi, .bool true, .int .i64 (ma : Int), .bool false] TA (0, 0)) := hac
      clear a0 a1 a2 a3 af hac H5
      refine wp_region_held_drew (S := (fun w' => w'.heap[ab]? = some (.cells #[.string mi, .bool true, .int .i64 (ma : Int), .bool false] TA (0, 0)) ∧ w'.heap[b.tb]? = some (.cells #[two b.ba, two b.bl, two b.bu, two b.bk, .bool x.bad] 46 (0, 0)) ∧ w'.heap[b.bk]? = some (.cells #[nm x.k0, nm x.k1] 3 (0, 0)))) (by kernel_rfl) ⟨hac3, H6.out.blk, H6.out.k⟩ (fun hHeld => ?_)
      refine' tk 0 ⟨some 59, .fieldAddr 56 (.tmp 8) 0, 0, "law.go:143", #[], none⟩ ?_
      simp only [Act.put, z1', z2', z3']
      refine' tv 1 ⟨some 60, .load 9 (.tmp 59), 9, "law.go:143", #[⟨0, .data⟩], none⟩ ?hy143 ?hr143
      case hy143 => (intro _ hSw; (try dsimp only at hSw); obtain ⟨⟨y0, y1, y2, y3⟩, -⟩ := cells4 hSw.1; go_simp <;> with_reducible rfl)
      simp only [Act.put, z1', z2', z3']
      refine' tk 2 ⟨some 61, .move (.tmp 0), 40, "law.go:143", #[], none⟩ ?_
      simp only [Act.put, z1', z2', z3']
      refine' tk 3 ⟨some 62, .nilCheck (.tmp 61), 0, "law.go:143", #[⟨2, .data⟩], none⟩ ?_
      simp only [Act.put, z1', z2', z3']
      refine' tk 4 ⟨some 63, .fieldAddr 46 (.tmp 62) 3, 0, "law.go:143", #[⟨3, .data⟩], none⟩ ?_
      simp only [Act.put, z1', z2', z3']
      refine' tv 5 ⟨some 64, .load 44 (.tmp 63), 44, "law.go:143", #[⟨4, .data⟩], none⟩ ?hy147 ?hr147
      case hy147 => (intro _ hSw; (try dsimp only at hSw); have hc := cell_of (i := 3) (v := two b.bk) hSw.2.1 rfl; go_simp <;> with_reducible rfl)
      simp only [Act.put, z1', z2', z3']
      refine' tk 6 ⟨some 65, .move (.tmp 1), 3, "law.go:143", #[], none⟩ ?_
      simp only [Act.put, z1', z2', z3']
      refine' tk 7 ⟨some 66, .indexAddr 44 (.tmp 64) (.tmp 65), 0, "law.go:143", #[⟨5, .data⟩, ⟨6, .data⟩], none⟩ ?_
      simp only [Act.put, z1', z2', z3']
      refine' tv 8 ⟨some 67, .load 3 (.tmp 66), 3, "law.go:143", #[⟨7, .data⟩], none⟩ ?hy150 ?hr150
      case hy150 => (intro _ hSw; (try dsimp only at hSw); have hc := cell_of (i := 0) (v := nm x.k0) hSw.2.2 rfl; go_simp <;> with_reducible rfl)
      simp only [Act.put, z1', z2', z3']
      clear hHeld
      generalize w5.drew = w6 at H6 hac3 ⊢
      refine ry [9] ?_
      refine AllReadyH.cons rfl (fun K hK => ?_) AllReadyH.nil
      go_simp
      refine (finf x.k0 HKB.out _).mono ?_
      rintro _ w7 ⟨rfl, hb⟩
      have H7 := Lib.hid (H6.out.on hb)
      have hac7 := stays hac3 hb
      clear hb hac3 H6
      go_wp2_with fail
      refine hK.out _ _ ⟨hac7, H7.out.blk, H7.out.k⟩ (fun hNext => ?_)
      clear hK K
      have hHeld := hNext
      clear hNext
      (try simp only [Act.put, z1', z2', z3'])
      subst hmi
      have b1 : ((inf x.k0).toList == (inf x.k0).toList) = true := by simp
      have b2 : ((inf x.k0).toList != (inf x.k0).toList) = false := by simp
      generalize inf x.k0 = st at b1 b2 hHeld hac7 ⊢
      refine' tk 10 ⟨some 69, .binOp .neq 9 (.tmp 60) (.tmp 68) 9, 4, "law.go:143", #[⟨1, .data⟩, ⟨9, .data⟩], none⟩ ?_
      simp only [Act.put, z1', z2', z3']
      refine wpAnyH_done (by kernel_rfl) ?_ _
      clear hHeld
      have c3 : w7.cell? ⟨b.tb, 3, none⟩ = some (two b.bk) := cell_of H7.out.blk rfl
      have ck : w7.cell? ⟨b.bk, 0, none⟩ = some (nm x.k0) := cell_of H7.out.k rfl
      have fk2 : ∀ i, w7.frozen? ⟨b.bk, i, none⟩ = false := fun _ => free_of H7.out.k
      have vk : IntKind.i64.wrap ((x.k0 : Int) + 1) = ((x.k0 + 1 : Nat) : Int) := by have := HKB.out; rw [IntKind.wrap_i64]; omega
      have H8 := Lib.hid (H7.out.put_k (x.k0 + 1) x.k1 (chg_cell w7 b.bk 0 (nm (x.k0 + 1))) (block_set (i := 0) H7.out.k _))
      clear H7 hac7
      obtain ⟨kn, hkn⟩ : ∃ kn, x.k0 + 1 = kn := ⟨_, rfl⟩
      rw [hkn] at vk H8
      have HKN := Lib.hid hkn
      clear hkn
      go_wp2
      go_ret
      have hkn := HKN.out
      clear HKN
      subst hkn
      exact ⟨rfl, _, _, _, _, _, H8.out⟩
    · go_simp
      refine hK.out _ _ ⟨stays HS3.out.1 (nest_below w3 [noM TA]), stays HS3.out.2.1 (nest_below w3 [noM TA]), stays HS3.out.2.2 (nest_below w3 [noM TA])⟩ (fun hNext => ?_)
      clear hK K
      have hHeld := hNext
      clear hNext
      (try simp only [Act.put, z1', z2', z3'])
      have H4 := Lib.hid ((H3.out.mark 9).on (show Below w3.heap.size w3 (w3.alloc (noM TA)) from nest_below w3 [_]))
      have HT4 := Lib.hid (show retag w3 tag2 9 w3.heap.size = 9 from retag_new (Nat.le_refl _))
      generalize retag w3 tag2 9 = tag4 at H4 HT4
      have hn4 : (w3.alloc (noM TA)).heap[w3.heap.size]? = some (noM TA) := nest w3 [_] 0 _ rfl
      have hs4 := size_alloc w3 (noM TA)
      have HS4 := Lib.hid (show (w3.alloc (noM TA)).heap[fb]? = some (.cells #[.int .u8 0, .bool fc, .int .u8 (fk : Int), .bool fpf, .int .u8 (fns : Int), .int .u8 (fnr : Int), .string fi] TF (0, 0)) from stays HS3.out.1 (nest_below w3 [noM TA]))
      refine ry [9] ?_
      refine AllReadyH.cons rfl (fun K hK => ?_) AllReadyH.nil
      go_simp
      refine (CH.out _ H4.out.s1).mono ?_
      rintro _ w4 ⟨rfl, u, hd⟩
      have HN := Lib.hid (H4.out.doB hd)
      have hn5 : w4.heap[w3.heap.size]? = some (noM TA) := hd.chg.stays hn4 (fun e => by
        rcases e with e | e
        · have := H4.out.t6; have := HT4.out; rw [e] at this; omega
        · have := H4.out.o1 _ e; have := HT4.out; omega)
      have hf5 : w4.heap[fb]? = some (.cells #[.int .u8 0, .bool fc, .int .u8 (fk : Int), .bool fpf, .int .u8 (fns : Int), .int .u8 (fnr : Int), .string fi] TF (0, 0)) := hd.chg.stays HS4.out (fun e => by
        rcases e with e | e
        · exact HF3.out.2.1 e.symm
        · exact HF3.out.2.2 _ e rfl)
      have htn : retag (w3.alloc (noM TA)) tag4 6 w3.heap.size = 9 := by rw [retag_old (by omega)]; exact HT4.out
      go_wp2_with fail
      refine hK.out _ _ ⟨hf5, HN.out.blk, HN.out.a⟩ (fun hNext => ?_)
      clear hd CH hHeld hn4
      clear hK K
      have hHeld := hNext
      clear hNext
      (try simp only [Act.put, z1', z2', z3'])
      obtain ⟨⟨y0, y1, y2, y3⟩, yf⟩ := cells4 hn5
      have hac : ((((w4.setCell ⟨w3.heap.size, 0, none⟩ (.string mi)).setCell ⟨w3.heap.size, 1, none⟩ (.bool true)).setCell ⟨w3.heap.size, 2, none⟩ (.int .i64 (ma : Int))).setCell ⟨w3.heap.size, 3, none⟩ (.bool false)).heap[w3.heap.size]? = some (.cells #[.string mi, .bool true, .int .i64 (ma : Int), .bool false] TA (0, 0)) := set4_at hn5 (.string mi) (.bool true) (.int .i64 (ma : Int)) (.bool false)
      have hcc : Chg (fun k => k = w3.heap.size) w4 ((((w4.setCell ⟨w3.heap.size, 0, none⟩ (.string mi)).setCell ⟨w3.heap.size, 1, none⟩ (.bool true)).setCell ⟨w3.heap.size, 2, none⟩ (.int .i64 (ma : Int))).setCell ⟨w3.heap.size, 3, none⟩ (.bool false)) := chg_set4 (S := fun k => k = w3.heap.size) (Chg.refl _ w4) (fun _ => rfl) _ _ _ _
      have H5 := Lib.hid (HN.out.other hcc htn H3.out.below.size)
      refine ry [11] ?_
      refine AllReadyH.cons rfl (fun K hK => ?_) AllReadyH.nil
      go_simp
      go_wp2_with fail
      refine hK.out _ _ ⟨hcc.stays hf5 (fun e => by have := lt_heap HS3.out.1; omega), H5.out.blk, H5.out.a⟩ (fun hNext => ?_)
      clear hHeld
      clear hK K
      have hHeld := hNext
      clear hNext
      (try simp only [Act.put, z1', z2', z3'])
      refine wpAnyH_done (by kernel_rfl) ?_ _
      clear hHeld
      have HK2 := Lib.hid (show b.bk ≠ w3.heap.size from fun e => by have := lt_heap H3.out.k; omega)
      clear HS3 HF3 HS4 HN H4 HT4 hn5 hf5 htn hcc y0 y1 y2 y3 yf hs4 H3
      generalize ((((w4.setCell ⟨w3.heap.size, 0, none⟩ (.string mi)).setCell ⟨w3.heap.size, 1, none⟩ (.bool true)).setCell ⟨w3.heap.size, 2, none⟩ (.int .i64 (ma : Int))).setCell ⟨w3.heap.size, 3, none⟩ (.bool false)) = w5 at H5 hac ⊢
      generalize w3.heap.size = ab at hac HK2 ⊢
      generalize retag (w3.alloc (noM TA)) tag4 6 = tag5 at H5
      obtain ⟨⟨a0, a1, a2, a3⟩, af⟩ := cells4 hac
      have hmi := HM.out
      go_wp2_with fail
      have H6 := Lib.hid (H5.out.on (w' := w5.drew) ⟨rfl, rfl, rfl, Nat.le_refl _, fun _ _ => rfl⟩)
      have hac3 : w5.drew.heap[ab]? = some (.cells #[.string mi, .bool true, .int .i64 (ma : Int), .bool false] TA (0, 0)) := hac
      clear a0 a1 a2 a3 af hac H5
      refine wp_region_held_drew (S := (fun w' => w'.heap[ab]? = some (.cells #[.string mi, .bool true, .int .i64 (ma : Int), .bool false] TA (0, 0)) ∧ w'.heap[b.tb]? = some (.cells #[two b.ba, two b.bl, two b.bu, two b.bk, .bool x.bad] 46 (0, 0)) ∧ w'.heap[b.bk]? = some (.cells #[nm x.k0, nm x.k1] 3 (0, 0)))) (by kernel_rfl) ⟨hac3, H6.out.blk, H6.out.k⟩ (fun hHeld => ?_)
      refine' tk 0 ⟨some 59, .fieldAddr 56 (.tmp 8) 0, 0, "law.go:143", #[], none⟩ ?_
      simp only [Act.put, z1', z2', z3']
      refine' tv 1 ⟨some 60, .load 9 (.tmp 59), 9, "law.go:143", #[⟨0, .data⟩], none⟩ ?hy153 ?hr153
      case hy153 => (intro _ hSw; (try dsimp only at hSw); obtain ⟨⟨y0, y1, y2, y3⟩, -⟩ := cells4 hSw.1; go_simp <;> with_reducible rfl)
      simp only [Act.put, z1', z2', z3']
      refine' tk 2 ⟨some 61, .move (.tmp 0), 40, "law.go:143", #[], none⟩ ?_
      simp only [Act.put, z1', z2', z3']
      refine' tk 3 ⟨some 62, .nilCheck (.tmp 61), 0, "law.go:143", #[⟨2, .data⟩], none⟩ ?_
      simp only [Act.put, z1', z2', z3']
      refine' tk 4 ⟨some 63, .fieldAddr 46 (.tmp 62) 3, 0, "law.go:143", #[⟨3, .data⟩], none⟩ ?_
      simp only [Act.put, z1', z2', z3']
      refine' tv 5 ⟨some 64, .load 44 (.tmp 63), 44, "law.go:143", #[⟨4, .data⟩], none⟩ ?hy157 ?hr157
      case hy157 => (intro _ hSw; (try dsimp only at hSw); have hc := cell_of (i := 3) (v := two b.bk) hSw.2.1 rfl; go_simp <;> with_reducible rfl)
      simp only [Act.put, z1', z2', z3']
      refine' tk 6 ⟨some 65, .move (.tmp 1), 3, "law.go:143", #[], none⟩ ?_
      simp only [Act.put, z1', z2', z3']
      refine' tk 7 ⟨some 66, .indexAddr 44 (.tmp 64) (.tmp 65), 0, "law.go:143", #[⟨5, .data⟩, ⟨6, .data⟩], none⟩ ?_
      simp only [Act.put, z1', z2', z3']
      refine' tv 8 ⟨some 67, .load 3 (.tmp 66), 3, "law.go:143", #[⟨7, .data⟩], none⟩ ?hy160 ?hr160
      case hy160 => (intro _ hSw; (try dsimp only at hSw); have hc := cell_of (i := 0) (v := nm x.k0) hSw.2.2 rfl; go_simp <;> with_reducible rfl)
      simp only [Act.put, z1', z2', z3']
      clear hHeld
      generalize w5.drew = w6 at H6 hac3 ⊢
      refine ry [9] ?_
      refine AllReadyH.cons rfl (fun K hK => ?_) AllReadyH.nil
      go_simp
      refine (finf x.k0 HKB.out _).mono ?_
      rintro _ w7 ⟨rfl, hb⟩
      have H7 := Lib.hid (H6.out.on hb)
      have hac7 := stays hac3 hb
      clear hb hac3 H6
      go_wp2_with fail
      refine hK.out _ _ ⟨hac7, H7.out.blk, H7.out.k⟩ (fun hNext => ?_)
      clear hK K
      have hHeld := hNext
      clear hNext
      (try simp only [Act.put, z1', z2', z3'])
      subst hmi
      have b1 : ((inf x.k0).toList == (inf x.k0).toList) = true := by simp
      have b2 : ((inf x.k0).toList != (inf x.k0).toList) = false := by simp
      generalize inf x.k0 = st at b1 b2 hHeld hac7 ⊢
      refine' tk 10 ⟨some 69, .binOp .neq 9 (.tmp 60) (.tmp 68) 9, 4, "law.go:143", #[⟨1, .data⟩, ⟨9, .data⟩], none⟩ ?_
      simp only [Act.put, z1', z2', z3']
      refine wpAnyH_done (by kernel_rfl) ?_ _
      clear hHeld
      have c3 : w7.cell? ⟨b.tb, 3, none⟩ = some (two b.bk) := cell_of H7.out.blk rfl
      have ck : w7.cell? ⟨b.bk, 0, none⟩ = some (nm x.k0) := cell_of H7.out.k rfl
      have fk2 : ∀ i, w7.frozen? ⟨b.bk, i, none⟩ = false := fun _ => free_of H7.out.k
      have vk : IntKind.i64.wrap ((x.k0 : Int) + 1) = ((x.k0 + 1 : Nat) : Int) := by have := HKB.out; rw [IntKind.wrap_i64]; omega
      have H8 := Lib.hid (H7.out.put_k (x.k0 + 1) x.k1 (chg_cell w7 b.bk 0 (nm (x.k0 + 1))) (block_set (i := 0) H7.out.k _))
      clear H7 hac7
      obtain ⟨kn, hkn⟩ : ∃ kn, x.k0 + 1 = kn := ⟨_, rfl⟩
      rw [hkn] at vk H8
      have HKN := Lib.hid hkn
      clear hkn
      go_wp2
      go_ret
      have hkn := HKN.out
      clear HKN
      subst hkn
      exact ⟨rfl, _, _, _, _, _, H8.out⟩
set_option maxHeartbeats 2000000 in
theorem fhand1_none (w0 w : World) (b : Bk) (x : Pr) (lost : Bool) (h : PrE w0 b x w) (hL : x.L1 = []) :
    Calls Try.prog 38 #[ptr b.tb, .int .i64 1, .bool lost] w fun e w' => e = .returned (.bool false) ∧ w = w' := by
  obtain ⟨q0, q1, v0, v1, tag, h⟩ := h
  have c1 : w.cell? ⟨b.tb, 1, none⟩ = some (two b.bl) := cell_of h.blk rfl
  obtain ⟨oa, cap, hv⟩ := h.l1.form
  rw [hL, List.map_nil, List.length_nil] at hv
  have cl : w.cell? ⟨b.bl, 1, none⟩ = some (.slice oa 0 cap) := by rw [← hv]; exact cell_of h.l rfl
  clear h hL hv
  go_enter Try.func38, Try.ntmps38
  go_wp2
  go_ret
  exact ⟨rfl, rfl⟩
set_option maxHeartbeats 4000000 in
set_option maxRecDepth 100000 in
theorem fhand1_lost (w0 w : World) (b : Bk) (x : Pr) (h : PrE w0 b x w) (fc : Bool) (fk : Nat) (fpf : Bool) (fns fnr : Nat) (fi : ByteArray) (j rr : Nat) (r : List Gf) (hL : x.L1 = ⟨⟨fc, fk, fpf, fns, fnr, fi⟩, j, rr⟩ :: r) :
    Calls Try.prog 38 #[ptr b.tb, .int .i64 1, .bool true] w fun e w' => e = .returned (.bool true) ∧ PrE w0 b { x with L1 := r } w' := by
  obtain ⟨q0, q1, v0, v1, tag, h⟩ := h
  have c1 : w.cell? ⟨b.tb, 1, none⟩ = some (two b.bl) := cell_of h.blk rfl
  obtain ⟨oa, cap, hv⟩ := h.l1.form
  have hql : Qz 7 fcF w w0.heap.size v1 ((⟨fc, fk, fpf, fns, fnr, fi⟩ : Fm) :: r.map Gf.f) := by have := h.l1; rw [hL] at this; exact this
  rw [hL, List.map_cons, List.length_cons, List.length_map] at hv
  rw [hv] at hql
  obtain ⟨g, off, ho, hn, hcap, hmax, hbg, hgw, ⟨e0, e1, e2, e3, e4, e5, e6⟩, hq⟩ := qz7_cons hql
  subst ho
  dsimp only at e1 e2 e3 e4 e5 e6
  have cl : w.cell? ⟨b.bl, 1, none⟩ = some (.slice (some ⟨g, off, none⟩) (r.length + 1) cap) := by rw [← hv]; exact cell_of h.l rfl
  obtain ⟨z, hz⟩ : ∃ z, r.length = z := ⟨_, rfl⟩
  rw [List.length_map] at hq
  rw [hz] at hcap hq cl hv
  have HV := Lib.hid hv
  have HQ := Lib.hid hq
  have HX := Lib.hid h
  have z0 : ((z + 1 : Nat) : Int) = (z : Int) + 1 := by omega
  have z1 : ¬ (z : Int) + 1 = 0 := by omega
  have z2 : decide ((0 : Int) < (z : Int) + 1) = true := decide_eq_true (by omega)
  have z3 : (((z : Int) + 1) == 0) = false := beq_false (by omega)
  have z4 : (0 : Int) < (z : Int) + 1 := by omega
  have z5 : (1 : Int) ≤ (z : Int) + 1 := by omega
  have hbl := lt_heap h.l
  have htb := lt_heap h.blk
  have hne : b.tb ≠ b.bl := fun e => by have := h.t0; have := h.tl; rw [e] at *; omega
  clear h hL hv hq hql hn hz
  go_enter Try.func38, Try.ntmps38
  go_wp2_with fail
  have H1 : Hid (PrAt w0 b x q0 q1 v0 v1 tag (w.alloc (.cells #[.int .u8 0, .bool fc, .int .u8 (fk : Int), .bool fpf, .int .u8 (fns : Int), .int .u8 (fnr : Int), .string fi] TF (0, 0))).drew) := Lib.hid (HX.out.on ((show Below w.heap.size w (w.alloc (.cells #[.int .u8 0, .bool fc, .int .u8 (fk : Int), .bool fpf, .int .u8 (fns : Int), .int .u8 (fnr : Int), .string fi] TF (0, 0))) from nest_below w [_]).drew))
  have HQ1 : Hid (Qz 7 fcF (w.alloc (.cells #[.int .u8 0, .bool fc, .int .u8 (fk : Int), .bool fpf, .int .u8 (fns : Int), .int .u8 (fnr : Int), .string fi] TF (0, 0))).drew w0.heap.size (.slice (if cap = 1 then some ⟨g, off, none⟩ else some ⟨g, off + 7, none⟩) z (cap - 1)) (r.map Gf.f)) := Lib.hid (HQ.out.below ((show Below w.heap.size w (w.alloc (.cells #[.int .u8 0, .bool fc, .int .u8 (fk : Int), .bool fpf, .int .u8 (fns : Int), .int .u8 (fnr : Int), .string fi] TF (0, 0))) from nest_below w [_]).drew))
  have hA1 : (w.alloc (.cells #[.int .u8 0, .bool fc, .int .u8 (fk : Int), .bool fpf, .int .u8 (fns : Int), .int .u8 (fnr : Int), .string fi] TF (0, 0))).drew.heap[w.heap.size]? = some (.cells #[.int .u8 0, .bool fc, .int .u8 (fk : Int), .bool fpf, .int .u8 (fns : Int), .int .u8 (fnr : Int), .string fi] TF (0, 0)) := nest w [_] 0 _ rfl
  obtain ⟨fb, hfb⟩ : ∃ n, n = w.heap.size := ⟨_, rfl⟩
  have HFB := Lib.hid hfb
  rw [← hfb] at hA1 hbl htb
  simp only [← hfb]
  clear hfb e0 e1 e2 e3 e4 e5 e6 hgw HQ c1 cl
  generalize hw1 : (w.alloc (.cells #[.int .u8 0, .bool fc, .int .u8 (fk : Int), .bool fpf, .int .u8 (fns : Int), .int .u8 (fnr : Int), .string fi] TF (0, 0))).drew = w1 at H1 HQ1 hA1
  have b2 : w1.cell? ⟨b.bl, 1, none⟩ = some (.slice (some ⟨g, off, none⟩) (z + 1) cap) := by rw [← HV.out]; exact cell_of H1.out.l rfl
  have f2 : ∀ i, w1.frozen? ⟨b.bl, i, none⟩ = false := fun _ => free_of H1.out.l
  have HTB := Lib.hid H1.out.blk
  refine wp_region_held_drew (S := (fun w' => w'.heap[b.tb]? = some (.cells #[two b.ba, two b.bl, two b.bu, two b.bk, .bool x.bad] 46 (0, 0)))) (by kernel_rfl) (hw1 ▸ HTB.out) (fun hHeld => ?_)
  refine' tk 0 ⟨some 27, .move (.tmp 0), 40, "law.go:134", #[], none⟩ ?_
  simp only [Act.put, z1', z2', z3']
  refine' tk 1 ⟨some 28, .nilCheck (.tmp 27), 0, "law.go:134", #[⟨0, .data⟩], none⟩ ?_
  simp only [Act.put, z1', z2', z3']
  refine' tk 2 ⟨some 29, .fieldAddr 46 (.tmp 28) 1, 0, "law.go:134", #[⟨1, .data⟩], none⟩ ?_
  simp only [Act.put, z1', z2', z3']
  refine' tv 3 ⟨some 30, .load 43 (.tmp 29), 43, "law.go:134", #[⟨2, .data⟩], none⟩ ?hy165 ?hr165
  case hy165 => (intro _ hSw; (try dsimp only at hSw); have hc := cell_of (i := 1) (v := two b.bl) hSw rfl; go_simp <;> with_reducible rfl)
  simp only [Act.put, z1', z2', z3']
  refine' tk 4 ⟨some 31, .move (.tmp 1), 3, "law.go:134", #[], none⟩ ?_
  simp only [Act.put, z1', z2', z3']
  refine' tk 5 ⟨some 32, .move (.tmp 0), 40, "law.go:134", #[], none⟩ ?_
  simp only [Act.put, z1', z2', z3']
  refine' tk 6 ⟨some 33, .nilCheck (.tmp 32), 0, "law.go:134", #[⟨5, .data⟩], none⟩ ?_
  simp only [Act.put, z1', z2', z3']
  refine' tk 7 ⟨some 34, .fieldAddr 46 (.tmp 33) 1, 0, "law.go:134", #[⟨6, .data⟩], none⟩ ?_
  simp only [Act.put, z1', z2', z3']
  refine' tv 8 ⟨some 35, .load 43 (.tmp 34), 43, "law.go:134", #[⟨7, .data⟩], none⟩ ?hy170 ?hr170
  case hy170 => (intro _ hSw; (try dsimp only at hSw); have hc := cell_of (i := 1) (v := two b.bl) hSw rfl; go_simp <;> with_reducible rfl)
  simp only [Act.put, z1', z2', z3']
  refine' tk 9 ⟨some 36, .move (.tmp 1), 3, "law.go:134", #[], none⟩ ?_
  simp only [Act.put, z1', z2', z3']
  refine' tk 10 ⟨some 37, .indexAddr 43 (.tmp 35) (.tmp 36), 0, "law.go:134", #[⟨8, .data⟩, ⟨9, .data⟩], none⟩ ?_
  simp only [Act.put, z1', z2', z3']
  rw [hw1]
  clear hw1
  refine ry [11] ?_
  refine AllReadyH.cons rfl (fun K hK => ?_) AllReadyH.nil
  go_simp
  refine hK.out _ _ HTB.out (fun hNext => ?_)
  clear hHeld
  clear hK K
  have hHeld := hNext
  clear hNext
  (try simp only [Act.put, z1', z2', z3'])
  by_cases hc1 : cap = 1
  · rw [if_pos hc1] at HQ1
    subst hc1
    obtain rfl : z = 0 := by omega
    refine' tk 12 ⟨some 39, .slice 88 (.tmp 38) (some (.const (.int .i64 1))) none none, 88, "law.go:134", #[⟨11, .data⟩], none⟩ ?_
    simp only [Act.put, z1', z2', z3']
    refine' tk 13 ⟨some 40, .indexAddr 43 (.tmp 30) (.tmp 31), 0, "law.go:134", #[⟨3, .data⟩, ⟨4, .data⟩, ⟨0, .phase⟩, ⟨1, .phase⟩, ⟨2, .phase⟩, ⟨3, .phase⟩, ⟨4, .phase⟩, ⟨5, .phase⟩, ⟨6, .phase⟩, ⟨7, .phase⟩, ⟨8, .phase⟩, ⟨9, .phase⟩, ⟨10, .phase⟩, ⟨11, .phase⟩, ⟨12, .phase⟩], none⟩ ?_
    simp only [Act.put, z1', z2', z3']
    refine ry [14] ?_
    refine AllReadyH.cons rfl (fun K hK => ?_) AllReadyH.nil
    go_simp
    refine hK.out _ _ ((set_other hne _).trans HTB.out) (fun hNext => ?_)
    clear hNext hHeld
    refine wpAnyH_done (by kernel_rfl) ?_ _
    clear hK K
    have hgr : w1.grownBy w1 v1.ownBlock := ⟨rfl, rfl, rfl, Nat.le_refl _, fun _ _ _ => rfl⟩
    have how : (Value.ownBlock (.slice (some ⟨g, off, none⟩) 0 0)) = v1.ownBlock := by rw [HV.out]; rfl
    have H2 := Lib.hid (H1.out.put1 hgr HQ1.out (Or.inl how))
    have hA2 : (w1.setCell ⟨b.bl, 1, none⟩ (.slice (some ⟨g, off, none⟩) 0 0)).heap[fb]? = some (.cells #[.int .u8 0, .bool fc, .int .u8 (fk : Int), .bool fpf, .int .u8 (fns : Int), .int .u8 (fnr : Int), .string fi] TF (0, 0)) := (set_other (by omega) _).trans hA1
    clear HQ1 H1 hA1 b2 f2 HTB hgr how
    generalize w1.setCell ⟨b.bl, 1, none⟩ (.slice (some ⟨g, off, none⟩) 0 0) = w2 at H2 hA2 ⊢
    generalize retag w1 tag 8 = tag2 at H2
    go_wp2
    go_ret
    exact ⟨rfl, _, _, _, _, _, H2.out⟩
  · rw [if_neg hc1] at HQ1
    refine' tk 12 ⟨some 39, .slice 88 (.tmp 38) (some (.const (.int .i64 1))) none none, 88, "law.go:134", #[⟨11, .data⟩], none⟩ ?_
    simp only [Act.put, z1', z2', z3']
    refine' tk 13 ⟨some 40, .indexAddr 43 (.tmp 30) (.tmp 31), 0, "law.go:134", #[⟨3, .data⟩, ⟨4, .data⟩, ⟨0, .phase⟩, ⟨1, .phase⟩, ⟨2, .phase⟩, ⟨3, .phase⟩, ⟨4, .phase⟩, ⟨5, .phase⟩, ⟨6, .phase⟩, ⟨7, .phase⟩, ⟨8, .phase⟩, ⟨9, .phase⟩, ⟨10, .phase⟩, ⟨11, .phase⟩, ⟨12, .phase⟩], none⟩ ?_
    simp only [Act.put, z1', z2', z3']
    refine ry [14] ?_
    refine AllReadyH.cons rfl (fun K hK => ?_) AllReadyH.nil
    go_simp
    refine hK.out _ _ ((set_other hne _).trans HTB.out) (fun hNext => ?_)
    clear hNext hHeld
    refine wpAnyH_done (by kernel_rfl) ?_ _
    clear hK K
    have hgr : w1.grownBy w1 v1.ownBlock := ⟨rfl, rfl, rfl, Nat.le_refl _, fun _ _ _ => rfl⟩
    have how : (Value.ownBlock (.slice (some ⟨g, off + 7, none⟩) z (cap - 1))) = v1.ownBlock := by rw [HV.out]; rfl
    have H2 := Lib.hid (H1.out.put1 hgr HQ1.out (Or.inl how))
    have hA2 : (w1.setCell ⟨b.bl, 1, none⟩ (.slice (some ⟨g, off + 7, none⟩) z (cap - 1))).heap[fb]? = some (.cells #[.int .u8 0, .bool fc, .int .u8 (fk : Int), .bool fpf, .int .u8 (fns : Int), .int .u8 (fnr : Int), .string fi] TF (0, 0)) := (set_other (by omega) _).trans hA1
    clear HQ1 H1 hA1 b2 f2 HTB hgr how
    generalize w1.setCell ⟨b.bl, 1, none⟩ (.slice (some ⟨g, off + 7, none⟩) z (cap - 1)) = w2 at H2 hA2 ⊢
    generalize retag w1 tag 8 = tag2 at H2
    go_wp2
    go_ret
    exact ⟨rfl, _, _, _, _, _, H2.out⟩
set_option maxHeartbeats 16000000 in
set_option maxRecDepth 100000 in
theorem fhand1_no (w0 w : World) (b : Bk) (x : Pr) (N : Nat) (h : PrE w0 b x w) (hI : Inv N x.A) (fc : Bool) (fk : Nat) (fpf : Bool) (fns fnr : Nat) (fi : ByteArray) (j rr : Nat) (r : List Gf) (hL : x.L1 = ⟨⟨fc, fk, fpf, fns, fnr, fi⟩, j, rr⟩ :: r) (hns : fns < 256) (hnr : fnr < 256) (X2 : Sd) (mi : ByteArray) (ma : Nat) (hh : hear ⟨fc, fk, fpf, fns, fnr, fi⟩ x.A = (X2, ⟨mi, false, ma, false⟩)) (hkb : x.k1 ≤ 1000000) :
    Calls Try.prog 38 #[ptr b.tb, .int .i64 1, .bool false] w fun e w' => e = .returned (.bool true) ∧ PrE w0 b { x with A := X2, L1 := r } w' := by
  have HKB := Lib.hid hkb
  have HCH : Hid (∀ (w' : World) (u : Value), PAt w' b.p0 (Ps.of x.A) u → Calls Try.prog 24 #[ptr b.p0, fmvd 0 ⟨fc, fk, fpf, fns, fnr, fi⟩] w' fun e w'' => e = .returned (.agg #[.string mi, .bool false, .int .i64 (ma : Int), .bool false]) ∧ ∃ u', QDo b.p0 (Ps.of X2) u u' w' w'') := Lib.hid fun w' u h' => by
    have := fhear w' b.p0 0 (Ps.of x.A) u ⟨fc, fk, fpf, fns, fnr, fi⟩ h' hI.pfit hns hnr
    rw [hear_of _ x.A hI.ord, hh] at this
    exact this
  have vw0 : IntKind.i64.wrap 0 = 0 := by decide
  have vw1 : IntKind.i64.wrap 1 = 1 := by decide
  clear hI hns hnr hh hkb
  obtain ⟨q0, q1, v0, v1, tag, h⟩ := h
  have CH : Hid (∀ w' : World, PAt w' b.p0 (Ps.of x.A) q0 → Calls Try.prog 24 #[ptr b.p0, fmvd 0 ⟨fc, fk, fpf, fns, fnr, fi⟩] w' fun e w'' => e = .returned (.agg #[.string mi, .bool false, .int .i64 (ma : Int), .bool false]) ∧ ∃ u', QDo b.p0 (Ps.of X2) q0 u' w' w'') := Lib.hid fun w' => HCH.out w' q0
  clear HCH
  have c1 : w.cell? ⟨b.tb, 1, none⟩ = some (two b.bl) := cell_of h.blk rfl
  obtain ⟨oa, cap, hv⟩ := h.l1.form
  have hql : Qz 7 fcF w w0.heap.size v1 ((⟨fc, fk, fpf, fns, fnr, fi⟩ : Fm) :: r.map Gf.f) := by have := h.l1; rw [hL] at this; exact this
  rw [hL, List.map_cons, List.length_cons, List.length_map] at hv
  rw [hv] at hql
  obtain ⟨g, off, ho, hn, hcap, hmax, hbg, hgw, ⟨e0, e1, e2, e3, e4, e5, e6⟩, hq⟩ := qz7_cons hql
  subst ho
  dsimp only at e1 e2 e3 e4 e5 e6
  have cl : w.cell? ⟨b.bl, 1, none⟩ = some (.slice (some ⟨g, off, none⟩) (r.length + 1) cap) := by rw [← hv]; exact cell_of h.l rfl
  obtain ⟨z, hz⟩ : ∃ z, r.length = z := ⟨_, rfl⟩
  rw [List.length_map] at hq
  rw [hz] at hcap hq cl hv
  have HV := Lib.hid hv
  have HQ := Lib.hid hq
  have HX := Lib.hid h
  have z0 : ((z + 1 : Nat) : Int) = (z : Int) + 1 := by omega
  have z1 : ¬ (z : Int) + 1 = 0 := by omega
  have z2 : decide ((0 : Int) < (z : Int) + 1) = true := decide_eq_true (by omega)
  have z3 : (((z : Int) + 1) == 0) = false := beq_false (by omega)
  have z4 : (0 : Int) < (z : Int) + 1 := by omega
  have z5 : (1 : Int) ≤ (z : Int) + 1 := by omega
  have hbl := lt_heap h.l
  have htb := lt_heap h.blk
  have hne : b.tb ≠ b.bl := fun e => by have := h.t0; have := h.tl; rw [e] at *; omega
  clear h hL hv hq hql hn hz
  go_enter Try.func38, Try.ntmps38
  go_wp2_with fail
  have H1 : Hid (PrAt w0 b x q0 q1 v0 v1 tag (w.alloc (.cells #[.int .u8 0, .bool fc, .int .u8 (fk : Int), .bool fpf, .int .u8 (fns : Int), .int .u8 (fnr : Int), .string fi] TF (0, 0))).drew) := Lib.hid (HX.out.on ((show Below w.heap.size w (w.alloc (.cells #[.int .u8 0, .bool fc, .int .u8 (fk : Int), .bool fpf, .int .u8 (fns : Int), .int .u8 (fnr : Int), .string fi] TF (0, 0))) from nest_below w [_]).drew))
  have HQ1 : Hid (Qz 7 fcF (w.alloc (.cells #[.int .u8 0, .bool fc, .int .u8 (fk : Int), .bool fpf, .int .u8 (fns : Int), .int .u8 (fnr : Int), .string fi] TF (0, 0))).drew w0.heap.size (.slice (if cap = 1 then some ⟨g, off, none⟩ else some ⟨g, off + 7, none⟩) z (cap - 1)) (r.map Gf.f)) := Lib.hid (HQ.out.below ((show Below w.heap.size w (w.alloc (.cells #[.int .u8 0, .bool fc, .int .u8 (fk : Int), .bool fpf, .int .u8 (fns : Int), .int .u8 (fnr : Int), .string fi] TF (0, 0))) from nest_below w [_]).drew))
  have hA1 : (w.alloc (.cells #[.int .u8 0, .bool fc, .int .u8 (fk : Int), .bool fpf, .int .u8 (fns : Int), .int .u8 (fnr : Int), .string fi] TF (0, 0))).drew.heap[w.heap.size]? = some (.cells #[.int .u8 0, .bool fc, .int .u8 (fk : Int), .bool fpf, .int .u8 (fns : Int), .int .u8 (fnr : Int), .string fi] TF (0, 0)) := nest w [_] 0 _ rfl
  obtain ⟨fb, hfb⟩ : ∃ n, n = w.heap.size := ⟨_, rfl⟩
  have HFB := Lib.hid hfb
  rw [← hfb] at hA1 hbl htb
  simp only [← hfb]
  clear hfb e0 e1 e2 e3 e4 e5 e6 hgw HQ c1 cl
  generalize hw1 : (w.alloc (.cells #[.int .u8 0, .bool fc, .int .u8 (fk : Int), .bool fpf, .int .u8 (fns : Int), .int .u8 (fnr : Int), .string fi] TF (0, 0))).drew = w1 at H1 HQ1 hA1
  have b2 : w1.cell? ⟨b.bl, 1, none⟩ = some (.slice (some ⟨g, off, none⟩) (z + 1) cap) := by rw [← HV.out]; exact cell_of H1.out.l rfl
  have f2 : ∀ i, w1.frozen? ⟨b.bl, i, none⟩ = false := fun _ => free_of H1.out.l
  have HTB := Lib.hid H1.out.blk
  refine wp_region_held_drew (S := (fun w' => w'.heap[b.tb]? = some (.cells #[two b.ba, two b.bl, two b.bu, two b.bk, .bool x.bad] 46 (0, 0)))) (by kernel_rfl) (hw1 ▸ HTB.out) (fun hHeld => ?_)
  refine' tk 0 ⟨some 27, .move (.tmp 0), 40, "law.go:134", #[], none⟩ ?_
  simp only [Act.put, z1', z2', z3']
  refine' tk 1 ⟨some 28, .nilCheck (.tmp 27), 0, "law.go:134", #[⟨0, .data⟩], none⟩ ?_
  simp only [Act.put, z1', z2', z3']
  refine' tk 2 ⟨some 29, .fieldAddr 46 (.tmp 28) 1, 0, "law.go:134", #[⟨1, .data⟩], none⟩ ?_
  simp only [Act.put, z1', z2', z3']
  refine' tv 3 ⟨some 30, .load 43 (.tmp 29), 43, "law.go:134", #[⟨2, .data⟩], none⟩ ?hy180 ?hr180
  case hy180 => (intro _ hSw; (try dsimp only at hSw); have hc := cell_of (i := 1) (v := two b.bl) hSw rfl; go_simp <;> with_reducible rfl)
  simp only [Act.put, z1', z2', z3']
  refine' tk 4 ⟨some 31, .move (.tmp 1), 3, "law.go:134", #[], none⟩ ?_
  simp only [Act.put, z1', z2', z3']
  refine' tk 5 ⟨some 32, .move (.tmp 0), 40, "law.go:134", #[], none⟩ ?_
  simp only [Act.put, z1', z2', z3']
  refine' tk 6 ⟨some 33, .nilCheck (.tmp 32), 0, "law.go:134", #[⟨5, .data⟩], none⟩ ?_
  simp only [Act.put, z1', z2', z3']
  refine' tk 7 ⟨some 34, .fieldAddr 46 (.tmp 33) 1, 0, "law.go:134", #[⟨6, .data⟩], none⟩ ?_
  simp only [Act.put, z1', z2', z3']
  refine' tv 8 ⟨some 35, .load 43 (.tmp 34), 43, "law.go:134", #[⟨7, .data⟩], none⟩ ?hy185 ?hr185
  case hy185 => (intro _ hSw; (try dsimp only at hSw); have hc := cell_of (i := 1) (v := two b.bl) hSw rfl; go_simp <;> with_reducible rfl)
  simp only [Act.put, z1', z2', z3']
  refine' tk 9 ⟨some 36, .move (.tmp 1), 3, "law.go:134", #[], none⟩ ?_
  simp only [Act.put, z1', z2', z3']
  refine' tk 10 ⟨some 37, .indexAddr 43 (.tmp 35) (.tmp 36), 0, "law.go:134", #[⟨8, .data⟩, ⟨9, .data⟩], none⟩ ?_
  simp only [Act.put, z1', z2', z3']
  rw [hw1]
  clear hw1
  refine ry [11] ?_
  refine AllReadyH.cons rfl (fun K hK => ?_) AllReadyH.nil
  go_simp
  refine hK.out _ _ HTB.out (fun hNext => ?_)
  clear hHeld
  clear hK K
  have hHeld := hNext
  clear hNext
  (try simp only [Act.put, z1', z2', z3'])
  by_cases hc1 : cap = 1
  · rw [if_pos hc1] at HQ1
    subst hc1
    obtain rfl : z = 0 := by omega
    refine' tk 12 ⟨some 39, .slice 88 (.tmp 38) (some (.const (.int .i64 1))) none none, 88, "law.go:134", #[⟨11, .data⟩], none⟩ ?_
    simp only [Act.put, z1', z2', z3']
    refine' tk 13 ⟨some 40, .indexAddr 43 (.tmp 30) (.tmp 31), 0, "law.go:134", #[⟨3, .data⟩, ⟨4, .data⟩, ⟨0, .phase⟩, ⟨1, .phase⟩, ⟨2, .phase⟩, ⟨3, .phase⟩, ⟨4, .phase⟩, ⟨5, .phase⟩, ⟨6, .phase⟩, ⟨7, .phase⟩, ⟨8, .phase⟩, ⟨9, .phase⟩, ⟨10, .phase⟩, ⟨11, .phase⟩, ⟨12, .phase⟩], none⟩ ?_
    simp only [Act.put, z1', z2', z3']
    refine ry [14] ?_
    refine AllReadyH.cons rfl (fun K hK => ?_) AllReadyH.nil
    go_simp
    refine hK.out _ _ ((set_other hne _).trans HTB.out) (fun hNext => ?_)
    clear hNext hHeld
    refine wpAnyH_done (by kernel_rfl) ?_ _
    clear hK K
    have hgr : w1.grownBy w1 v1.ownBlock := ⟨rfl, rfl, rfl, Nat.le_refl _, fun _ _ _ => rfl⟩
    have how : (Value.ownBlock (.slice (some ⟨g, off, none⟩) 0 0)) = v1.ownBlock := by rw [HV.out]; rfl
    have H2 := Lib.hid (H1.out.put1 hgr HQ1.out (Or.inl how))
    have hA2 : (w1.setCell ⟨b.bl, 1, none⟩ (.slice (some ⟨g, off, none⟩) 0 0)).heap[fb]? = some (.cells #[.int .u8 0, .bool fc, .int .u8 (fk : Int), .bool fpf, .int .u8 (fns : Int), .int .u8 (fnr : Int), .string fi] TF (0, 0)) := (set_other (by omega) _).trans hA1
    clear HQ1 H1 hA1 b2 f2 HTB hgr how
    generalize w1.setCell ⟨b.bl, 1, none⟩ (.slice (some ⟨g, off, none⟩) 0 0) = w2 at H2 hA2 ⊢
    generalize retag w1 tag 8 = tag2 at H2
    go_wp2_with fail
    have H3 := Lib.hid (H2.out.on (w' := w2.drew) ⟨rfl, rfl, rfl, Nat.le_refl _, fun _ _ => rfl⟩)
    have hA3 : w2.drew.heap[fb]? = some (.cells #[.int .u8 0, .bool fc, .int .u8 (fk : Int), .bool fpf, .int .u8 (fns : Int), .int .u8 (fnr : Int), .string fi] TF (0, 0)) := hA2
    clear H2 hA2
    refine wp_region_held_drew (S := (fun w' => w'.heap[fb]? = some (.cells #[.int .u8 0, .bool fc, .int .u8 (fk : Int), .bool fpf, .int .u8 (fns : Int), .int .u8 (fnr : Int), .string fi] TF (0, 0)) ∧ w'.heap[b.tb]? = some (.cells #[two b.ba, two b.bl, two b.bu, two b.bk, .bool x.bad] 46 (0, 0)) ∧ w'.heap[b.ba]? = some (.cells #[ptr b.p0, ptr b.p1] 28 (0, 0)))) (by kernel_rfl) ⟨hA3, H3.out.blk, H3.out.a⟩ (fun hHeld => ?_)
    refine' tk 0 ⟨some 42, .move (.tmp 0), 40, "law.go:138", #[], none⟩ ?_
    simp only [Act.put, z1', z2', z3']
    refine' tk 1 ⟨some 43, .nilCheck (.tmp 42), 0, "law.go:138", #[⟨0, .data⟩], none⟩ ?_
    simp only [Act.put, z1', z2', z3']
    refine' tk 2 ⟨some 44, .fieldAddr 46 (.tmp 43) 0, 0, "law.go:138", #[⟨1, .data⟩], none⟩ ?_
    simp only [Act.put, z1', z2', z3']
    refine' tv 3 ⟨some 45, .load 42 (.tmp 44), 42, "law.go:138", #[⟨2, .data⟩], none⟩ ?hy193 ?hr193
    case hy193 => (intro _ hSw; (try dsimp only at hSw); have hc := cell_of (i := 0) (v := two b.ba) hSw.2.1 rfl; go_simp <;> with_reducible rfl)
    simp only [Act.put, z1', z2', z3']
    refine' tk 4 ⟨some 46, .move (.tmp 1), 3, "law.go:138", #[], none⟩ ?_
    simp only [Act.put, z1', z2', z3']
    refine' tk 5 ⟨some 47, .binOp .sub 3 (.const (.int .i64 1)) (.tmp 46) 3, 3, "law.go:138", #[⟨4, .data⟩], none⟩ ?_
    simp only [Act.put, z1', z2', z3']
    refine' tk 6 ⟨some 48, .indexAddr 42 (.tmp 45) (.tmp 47), 0, "law.go:138", #[⟨3, .data⟩, ⟨5, .data⟩], none⟩ ?_
    simp only [Act.put, z1', z2', z3']
    refine' tv 7 ⟨some 49, .load 28 (.tmp 48), 28, "law.go:138", #[⟨6, .data⟩], none⟩ ?hy197 ?hr197
    case hy197 => (intro _ hSw; (try dsimp only at hSw); have hc := cell_of (i := 0) (v := ptr b.p0) hSw.2.2 rfl; go_simp <;> with_reducible rfl)
    simp only [Act.put, z1', z2', z3']
    refine' tv 8 ⟨some 50, .load 25 (.tmp 7), 25, "law.go:138", #[], none⟩ ?hy198 ?hr198
    case hy198 => (intro _ hSw; (try dsimp only at hSw); obtain ⟨⟨y0, y1, y2, y3, y4, y5, y6⟩, -⟩ := cells7 hSw.1; go_simp <;> with_reducible rfl)
    simp only [Act.put, z1', z2', z3']
    clear hHeld
    have hA4 : w2.drew.heap[fb]? = some (.cells #[.int .u8 0, .bool fc, .int .u8 (fk : Int), .bool fpf, .int .u8 (fns : Int), .int .u8 (fnr : Int), .string fi] TF (0, 0)) := hA3
    clear hA3
    generalize w2.drew = w3 at H3 hA4 ⊢
    have HS3 := Lib.hid (show w3.heap[fb]? = some (.cells #[.int .u8 0, .bool fc, .int .u8 (fk : Int), .bool fpf, .int .u8 (fns : Int), .int .u8 (fnr : Int), .string fi] TF (0, 0)) ∧ w3.heap[b.tb]? = some (.cells #[two b.ba, two b.bl, two b.bu, two b.bk, .bool x.bad] 46 (0, 0)) ∧ w3.heap[b.ba]? = some (.cells #[ptr b.p0, ptr b.p1] 28 (0, 0)) from ⟨hA4, H3.out.blk, H3.out.a⟩)
    have HF3 := Lib.hid (show b.p0 ≠ fb ∧ b.p1 ≠ fb ∧ (∀ g, q0.ownBlock = some g → g ≠ fb) from ⟨fun e => by have := HX.out.s0.lt; have := HFB.out; omega, fun e => by have := HX.out.s1.lt; have := HFB.out; omega, fun g hg e => by have := (HX.out.s0.q.lt g hg).2; have := HFB.out; omega⟩)
    clear hA4
    refine ry [9, 10] ?_
    refine AllReadyH.cons rfl (fun K hK => ?_) (AllReadyH.cons rfl (fun K hK => ?_) AllReadyH.nil)
    · go_simp
      refine (CH.out _ H3.out.s0).mono ?_
      rintro _ w4 ⟨rfl, u, hd⟩
      have HN := Lib.hid (H3.out.doA hd)
      have HS4 := Lib.hid (show w4.heap[fb]? = some (.cells #[.int .u8 0, .bool fc, .int .u8 (fk : Int), .bool fpf, .int .u8 (fns : Int), .int .u8 (fnr : Int), .string fi] TF (0, 0)) ∧ w4.heap[b.tb]? = some (.cells #[two b.ba, two b.bl, two b.bu, two b.bk, .bool x.bad] 46 (0, 0)) ∧ w4.heap[b.ba]? = some (.cells #[ptr b.p0, ptr b.p1] 28 (0, 0)) from ⟨hd.chg.stays HS3.out.1 (fun e => by rcases e with e | e; exact HF3.out.1 e.symm; exact HF3.out.2.2 _ e rfl), HN.out.blk, HN.out.a⟩)
      go_wp2_with fail
      refine hK.out _ _ HS4.out (fun hNext => ?_)
      clear hd CH H3 HS3 HF3
      clear hK K
      have hHeld := hNext
      clear hNext
      (try simp only [Act.put, z1', z2', z3'])
      refine ry [10] ?_
      refine AllReadyH.cons rfl (fun K hK => ?_) AllReadyH.nil
      go_simp
      refine hK.out _ _ ⟨stays HS4.out.1 (nest_below w4 [noM TA]), stays HS4.out.2.1 (nest_below w4 [noM TA]), stays HS4.out.2.2 (nest_below w4 [noM TA])⟩ (fun hNext => ?_)
      clear hHeld
      clear hK K
      have hHeld := hNext
      clear hNext
      (try simp only [Act.put, z1', z2', z3'])
      have H5 := Lib.hid (HN.out.on (show Below w4.heap.size w4 (w4.alloc (.cells #[.string mi, .bool false, .int .i64 (ma : Int), .bool false] TA (0, 0))) from nest_below w4 [_]))
      have hac : (w4.alloc (.cells #[.string mi, .bool false, .int .i64 (ma : Int), .bool false] TA (0, 0))).heap[w4.heap.size]? = some (.cells #[.string mi, .bool false, .int .i64 (ma : Int), .bool false] TA (0, 0)) := nest w4 [_] 0 _ rfl
      refine ry [11] ?_
      refine AllReadyH.cons rfl (fun K hK => ?_) AllReadyH.nil
      go_simp
      go_wp2_with fail
      refine hK.out _ _ ⟨stays HS4.out.1 (nest_below w4 [(.cells #[.string mi, .bool false, .int .i64 (ma : Int), .bool false] TA (0, 0))]), H5.out.blk, H5.out.a⟩ (fun hNext => ?_)
      clear hHeld
      clear hK K
      have hHeld := hNext
      clear hNext
      (try simp only [Act.put, z1', z2', z3'])
      refine wpAnyH_done (by kernel_rfl) ?_ _
      clear hHeld
      have HK2 := Lib.hid (show b.bk ≠ w4.heap.size from fun e => by have := lt_heap HN.out.k; omega)
      clear HS4 HN
      generalize w4.alloc (.cells #[.string mi, .bool false, .int .i64 (ma : Int), .bool false] TA (0, 0)) = w5 at H5 hac ⊢
      generalize w4.heap.size = ab at hac HK2 ⊢
      generalize retag w3 tag2 5 = tag5 at H5
      obtain ⟨⟨a0, a1, a2, a3⟩, af⟩ := cells4 hac
      go_wp2
      go_ret
      exact ⟨rfl, _, _, _, _, _, H5.out⟩
    · go_simp
      refine hK.out _ _ ⟨stays HS3.out.1 (nest_below w3 [noM TA]), stays HS3.out.2.1 (nest_below w3 [noM TA]), stays HS3.out.2.2 (nest_below w3 [noM TA])⟩ (fun hNext => ?_)
      clear hK K
      have hHeld := hNext
      clear hNext
      (try simp only [Act.put, z1', z2', z3'])
      have H4 := Lib.hid ((H3.out.mark 9).on (show Below w3.heap.size w3 (w3.alloc (noM TA)) from nest_below w3 [_]))
      have HT4 := Lib.hid (show retag w3 tag2 9 w3.heap.size = 9 from retag_new (Nat.le_refl _))
      generalize retag w3 tag2 9 = tag4 at H4 HT4
      have hn4 : (w3.alloc (noM TA)).heap[w3.heap.size]? = some (noM TA) := nest w3 [_] 0 _ rfl
      have hs4 := size_alloc w3 (noM TA)
      have HS4 := Lib.hid (show (w3.alloc (noM TA)).heap[fb]? = some (.cells #[.int .u8 0, .bool fc, .int .u8 (fk : Int), .bool fpf, .int .u8 (fns : Int), .int .u8 (fnr : Int), .string fi] TF (0, 0)) from stays HS3.out.1 (nest_below w3 [noM TA]))
      refine ry [9] ?_
      refine AllReadyH.cons rfl (fun K hK => ?_) AllReadyH.nil
      go_simp
      refine (CH.out _ H4.out.s0).mono ?_
      rintro _ w4 ⟨rfl, u, hd⟩
      have HN := Lib.hid (H4.out.doA hd)
      have hn5 : w4.heap[w3.heap.size]? = some (noM TA) := hd.chg.stays hn4 (fun e => by
        rcases e with e | e
        · have := H4.out.t5; have := HT4.out; rw [e] at this; omega
        · have := H4.out.o0 _ e; have := HT4.out; omega)
      have hf5 : w4.heap[fb]? = some (.cells #[.int .u8 0, .bool fc, .int .u8 (fk : Int), .bool fpf, .int .u8 (fns : Int), .int .u8 (fnr : Int), .string fi] TF (0, 0)) := hd.chg.stays HS4.out (fun e => by
        rcases e with e | e
        · exact HF3.out.1 e.symm
        · exact HF3.out.2.2 _ e rfl)
      have htn : retag (w3.alloc (noM TA)) tag4 5 w3.heap.size = 9 := by rw [retag_old (by omega)]; exact HT4.out
      go_wp2_with fail
      refine hK.out _ _ ⟨hf5, HN.out.blk, HN.out.a⟩ (fun hNext => ?_)
      clear hd CH hHeld hn4
      clear hK K
      have hHeld := hNext
      clear hNext
      (try simp only [Act.put, z1', z2', z3'])
      obtain ⟨⟨y0, y1, y2, y3⟩, yf⟩ := cells4 hn5
      have hac : ((((w4.setCell ⟨w3.heap.size, 0, none⟩ (.string mi)).setCell ⟨w3.heap.size, 1, none⟩ (.bool false)).setCell ⟨w3.heap.size, 2, none⟩ (.int .i64 (ma : Int))).setCell ⟨w3.heap.size, 3, none⟩ (.bool false)).heap[w3.heap.size]? = some (.cells #[.string mi, .bool false, .int .i64 (ma : Int), .bool false] TA (0, 0)) := set4_at hn5 (.string mi) (.bool false) (.int .i64 (ma : Int)) (.bool false)
      have hcc : Chg (fun k => k = w3.heap.size) w4 ((((w4.setCell ⟨w3.heap.size, 0, none⟩ (.string mi)).setCell ⟨w3.heap.size, 1, none⟩ (.bool false)).setCell ⟨w3.heap.size, 2, none⟩ (.int .i64 (ma : Int))).setCell ⟨w3.heap.size, 3, none⟩ (.bool false)) := chg_set4 (S := fun k => k = w3.heap.size) (Chg.refl _ w4) (fun _ => rfl) _ _ _ _
      have H5 := Lib.hid (HN.out.other hcc htn H3.out.below.size)
      refine ry [11] ?_
      refine AllReadyH.cons rfl (fun K hK => ?_) AllReadyH.nil
      go_simp
      go_wp2_with fail
      refine hK.out _ _ ⟨hcc.stays hf5 (fun e => by have := lt_heap HS3.out.1; omega), H5.out.blk, H5.out.a⟩ (fun hNext => ?_)
      clear hHeld
      clear hK K
      have hHeld := hNext
      clear hNext
      (try simp only [Act.put, z1', z2', z3'])
      refine wpAnyH_done (by kernel_rfl) ?_ _
      clear hHeld
      have HK2 := Lib.hid (show b.bk ≠ w3.heap.size from fun e => by have := lt_heap H3.out.k; omega)
      clear HS3 HF3 HS4 HN H4 HT4 hn5 hf5 htn hcc y0 y1 y2 y3 yf hs4 H3
      generalize ((((w4.setCell ⟨w3.heap.size, 0, none⟩ (.string mi)).setCell ⟨w3.heap.size, 1, none⟩ (.bool false)).setCell ⟨w3.heap.size, 2, none⟩ (.int .i64 (ma : Int))).setCell ⟨w3.heap.size, 3, none⟩ (.bool false)) = w5 at H5 hac ⊢
      generalize w3.heap.size = ab at hac HK2 ⊢
      generalize retag (w3.alloc (noM TA)) tag4 5 = tag5 at H5
      obtain ⟨⟨a0, a1, a2, a3⟩, af⟩ := cells4 hac
      go_wp2
      go_ret
      exact ⟨rfl, _, _, _, _, _, H5.out⟩
  · rw [if_neg hc1] at HQ1
    refine' tk 12 ⟨some 39, .slice 88 (.tmp 38) (some (.const (.int .i64 1))) none none, 88, "law.go:134", #[⟨11, .data⟩], none⟩ ?_
    simp only [Act.put, z1', z2', z3']
    refine' tk 13 ⟨some 40, .indexAddr 43 (.tmp 30) (.tmp 31), 0, "law.go:134", #[⟨3, .data⟩, ⟨4, .data⟩, ⟨0, .phase⟩, ⟨1, .phase⟩, ⟨2, .phase⟩, ⟨3, .phase⟩, ⟨4, .phase⟩, ⟨5, .phase⟩, ⟨6, .phase⟩, ⟨7, .phase⟩, ⟨8, .phase⟩, ⟨9, .phase⟩, ⟨10, .phase⟩, ⟨11, .phase⟩, ⟨12, .phase⟩], none⟩ ?_
    simp only [Act.put, z1', z2', z3']
    refine ry [14] ?_
    refine AllReadyH.cons rfl (fun K hK => ?_) AllReadyH.nil
    go_simp
    refine hK.out _ _ ((set_other hne _).trans HTB.out) (fun hNext => ?_)
    clear hNext hHeld
    refine wpAnyH_done (by kernel_rfl) ?_ _
    clear hK K
    have hgr : w1.grownBy w1 v1.ownBlock := ⟨rfl, rfl, rfl, Nat.le_refl _, fun _ _ _ => rfl⟩
    have how : (Value.ownBlock (.slice (some ⟨g, off + 7, none⟩) z (cap - 1))) = v1.ownBlock := by rw [HV.out]; rfl
    have H2 := Lib.hid (H1.out.put1 hgr HQ1.out (Or.inl how))
    have hA2 : (w1.setCell ⟨b.bl, 1, none⟩ (.slice (some ⟨g, off + 7, none⟩) z (cap - 1))).heap[fb]? = some (.cells #[.int .u8 0, .bool fc, .int .u8 (fk : Int), .bool fpf, .int .u8 (fns : Int), .int .u8 (fnr : Int), .string fi] TF (0, 0)) := (set_other (by omega) _).trans hA1
    clear HQ1 H1 hA1 b2 f2 HTB hgr how
    generalize w1.setCell ⟨b.bl, 1, none⟩ (.slice (some ⟨g, off + 7, none⟩) z (cap - 1)) = w2 at H2 hA2 ⊢
    generalize retag w1 tag 8 = tag2 at H2
    go_wp2_with fail
    have H3 := Lib.hid (H2.out.on (w' := w2.drew) ⟨rfl, rfl, rfl, Nat.le_refl _, fun _ _ => rfl⟩)
    have hA3 : w2.drew.heap[fb]? = some (.cells #[.int .u8 0, .bool fc, .int .u8 (fk : Int), .bool fpf, .int .u8 (fns : Int), .int .u8 (fnr : Int), .string fi] TF (0, 0)) := hA2
    clear H2 hA2
    refine wp_region_held_drew (S := (fun w' => w'.heap[fb]? = some (.cells #[.int .u8 0, .bool fc, .int .u8 (fk : Int), .bool fpf, .int .u8 (fns : Int), .int .u8 (fnr : Int), .string fi] TF (0, 0)) ∧ w'.heap[b.tb]? = some (.cells #[two b.ba, two b.bl, two b.bu, two b.bk, .bool x.bad] 46 (0, 0)) ∧ w'.heap[b.ba]? = some (.cells #[ptr b.p0, ptr b.p1] 28 (0, 0)))) (by kernel_rfl) ⟨hA3, H3.out.blk, H3.out.a⟩ (fun hHeld => ?_)
    refine' tk 0 ⟨some 42, .move (.tmp 0), 40, "law.go:138", #[], none⟩ ?_
    simp only [Act.put, z1', z2', z3']
    refine' tk 1 ⟨some 43, .nilCheck (.tmp 42), 0, "law.go:138", #[⟨0, .data⟩], none⟩ ?_
    simp only [Act.put, z1', z2', z3']
    refine' tk 2 ⟨some 44, .fieldAddr 46 (.tmp 43) 0, 0, "law.go:138", #[⟨1, .data⟩], none⟩ ?_
    simp only [Act.put, z1', z2', z3']
    refine' tv 3 ⟨some 45, .load 42 (.tmp 44), 42, "law.go:138", #[⟨2, .data⟩], none⟩ ?hy224 ?hr224
    case hy224 => (intro _ hSw; (try dsimp only at hSw); have hc := cell_of (i := 0) (v := two b.ba) hSw.2.1 rfl; go_simp <;> with_reducible rfl)
    simp only [Act.put, z1', z2', z3']
    refine' tk 4 ⟨some 46, .move (.tmp 1), 3, "law.go:138", #[], none⟩ ?_
    simp only [Act.put, z1', z2', z3']
    refine' tk 5 ⟨some 47, .binOp .sub 3 (.const (.int .i64 1)) (.tmp 46) 3, 3, "law.go:138", #[⟨4, .data⟩], none⟩ ?_
    simp only [Act.put, z1', z2', z3']
    refine' tk 6 ⟨some 48, .indexAddr 42 (.tmp 45) (.tmp 47), 0, "law.go:138", #[⟨3, .data⟩, ⟨5, .data⟩], none⟩ ?_
    simp only [Act.put, z1', z2', z3']
    refine' tv 7 ⟨some 49, .load 28 (.tmp 48), 28, "law.go:138", #[⟨6, .data⟩], none⟩ ?hy228 ?hr228
    case hy228 => (intro _ hSw; (try dsimp only at hSw); have hc := cell_of (i := 0) (v := ptr b.p0) hSw.2.2 rfl; go_simp <;> with_reducible rfl)
    simp only [Act.put, z1', z2', z3']
    refine' tv 8 ⟨some 50, .load 25 (.tmp 7), 25, "law.go:138", #[], none⟩ ?hy229 ?hr229
    case hy229 => (intro _ hSw; (try dsimp only at hSw); obtain ⟨⟨y0, y1, y2, y3, y4, y5, y6⟩, -⟩ := cells7 hSw.1; go_simp <;> with_reducible rfl)
    simp only [Act.put, z1', z2', z3']
    clear hHeld
    have hA4 : w2.drew.heap[fb]? = some (.cells #[.int .u8 0, .bool fc, .int .u8 (fk : Int), .bool fpf, .int .u8 (fns : Int), .int .u8 (fnr : Int), .string fi] TF (0, 0)) := hA3
    clear hA3
    generalize w2.drew = w3 at H3 hA4 ⊢
    have HS3 := Lib.hid (show w3.heap[fb]? = some (.cells #[.int .u8 0, .bool fc, .int .u8 (fk : Int), .bool fpf, .int .u8 (fns : Int), .int .u8 (fnr : Int), .string fi] TF (0, 0)) ∧ w3.heap[b.tb]? = some (.cells #[two b.ba, two b.bl, two b.bu, two b.bk, .bool x.bad] 46 (0, 0)) ∧ w3.heap[b.ba]? = some (.cells #[ptr b.p0, ptr b.p1] 28 (0, 0)) from ⟨hA4, H3.out.blk, H3.out.a⟩)
    have HF3 := Lib.hid (show b.p0 ≠ fb ∧ b.p1 ≠ fb ∧ (∀ g, q0.ownBlock = some g → g ≠ fb) from ⟨fun e => by have := HX.out.s0.lt; have := HFB.out; omega, fun e => by have := HX.out.s1.lt; have := HFB.out; omega, fun g hg e => by have := (HX.out.s0.q.lt g hg).2; have := HFB.out; omega⟩)
    clear hA4
    refine ry [9, 10] ?_
    refine AllReadyH.cons rfl (fun K hK => ?_) (AllReadyH.cons rfl (fun K hK => ?_) AllReadyH.nil)
    · go_simp
      refine (CH.out _ H3.out.s0).mono ?_
      rintro _ w4 ⟨rfl, u, hd⟩
      have HN := Lib.hid (H3.out.doA hd)
      have HS4 := Lib.hid (show w4.heap[fb]? = some (.cells #[.int .u8 0, .bool fc, .int .u8 (fk : Int), .bool fpf, .int .u8 (fns : Int), .int .u8 (fnr : Int), .string fi] TF (0, 0)) ∧ w4.heap[b.tb]? = some (.cells #[two b.ba, two b.bl, two b.bu, two b.bk, .bool x.bad] 46 (0, 0)) ∧ w4.heap[b.ba]? = some (.cells #[ptr b.p0, ptr b.p1] 28 (0, 0)) from ⟨hd.chg.stays HS3.out.1 (fun e => by rcases e with e | e; exact HF3.out.1 e.symm; exact HF3.out.2.2 _ e rfl), HN.out.blk, HN.out.a⟩)
      go_wp2_with fail
      refine hK.out _ _ HS4.out (fun hNext => ?_)
      clear hd CH H3 HS3 HF3
      clear hK K
      have hHeld := hNext
      clear hNext
      (try simp only [Act.put, z1', z2', z3'])
      refine ry [10] ?_
      refine AllReadyH.cons rfl (fun K hK => ?_) AllReadyH.nil
      go_simp
      refine hK.out _ _ ⟨stays HS4.out.1 (nest_below w4 [noM TA]), stays HS4.out.2.1 (nest_below w4 [noM TA]), stays HS4.out.2.2 (nest_below w4 [noM TA])⟩ (fun hNext => ?_)
      clear hHeld
      clear hK K
      have hHeld := hNext
      clear hNext
      (try simp only [Act.put, z1', z2', z3'])
      have H5 := Lib.hid (HN.out.on (show Below w4.heap.size w4 (w4.alloc (.cells #[.string mi, .bool false, .int .i64 (ma : Int), .bool false] TA (0, 0))) from nest_below w4 [_]))
      have hac : (w4.alloc (.cells #[.string mi, .bool false, .int .i64 (ma : Int), .bool false] TA (0, 0))).heap[w4.heap.size]? = some (.cells #[.string mi, .bool false, .int .i64 (ma : Int), .bool false] TA (0, 0)) := nest w4 [_] 0 _ rfl
      refine ry [11] ?_
      refine AllReadyH.cons rfl (fun K hK => ?_) AllReadyH.nil
      go_simp
      go_wp2_with fail
      refine hK.out _ _ ⟨stays HS4.out.1 (nest_below w4 [(.cells #[.string mi, .bool false, .int .i64 (ma : Int), .bool false] TA (0, 0))]), H5.out.blk, H5.out.a⟩ (fun hNext => ?_)
      clear hHeld
      clear hK K
      have hHeld := hNext
      clear hNext
      (try simp only [Act.put, z1', z2', z3'])
      refine wpAnyH_done (by kernel_rfl) ?_ _
      clear hHeld
      have HK2 := Lib.hid (show b.bk ≠ w4.heap.size from fun e => by have := lt_heap HN.out.k; omega)
      clear HS4 HN
      generalize w4.alloc (.cells #[.string mi, .bool false, .int .i64 (ma : Int), .bool false] TA (0, 0)) = w5 at H5 hac ⊢
      generalize w4.heap.size = ab at hac HK2 ⊢
      generalize retag w3 tag2 5 = tag5 at H5
      obtain ⟨⟨a0, a1, a2, a3⟩, af⟩ := cells4 hac
      go_wp2
      go_ret
      exact ⟨rfl, _, _, _, _, _, H5.out⟩
    · go_simp
      refine hK.out _ _ ⟨stays HS3.out.1 (nest_below w3 [noM TA]), stays HS3.out.2.1 (nest_below w3 [noM TA]), stays HS3.out.2.2 (nest_below w3 [noM TA])⟩ (fun hNext => ?_)
      clear hK K
      have hHeld := hNext
      clear hNext
      (try simp only [Act.put, z1', z2', z3'])
      have H4 := Lib.hid ((H3.out.mark 9).on (show Below w3.heap.size w3 (w3.alloc (noM TA)) from nest_below w3 [_]))
      have HT4 := Lib.hid (show retag w3 tag2 9 w3.heap.size = 9 from retag_new (Nat.le_refl _))
      generalize retag w3 tag2 9 = tag4 at H4 HT4
      have hn4 : (w3.alloc (noM TA)).heap[w3.heap.size]? = some (noM TA) := nest w3 [_] 0 _ rfl
      have hs4 := size_alloc w3 (noM TA)
      have HS4 := Lib.hid (show (w3.alloc (noM TA)).heap[fb]? = some (.cells #[.int .u8 0, .bool fc, .int .u8 (fk : Int), .bool fpf, .int .u8 (fns : Int), .int .u8 (fnr : Int), .string fi] TF (0, 0)) from stays HS3.out.1 (nest_below w3 [noM TA]))
      refine ry [9] ?_
      refine AllReadyH.cons rfl (fun K hK => ?_) AllReadyH.nil
      go_simp
      refine (CH.out _ H4.out.s0).mono ?_
      rintro _ w4 ⟨rfl, u, hd⟩
      have HN := Lib.hid (H4.out.doA hd)
      have hn5 : w4.heap[w3.heap.size]? = some (noM TA) := hd.chg.stays hn4 (fun e => by
        rcases e with e | e
        · have := H4.out.t5; have := HT4.out; rw [e] at this; omega
        · have := H4.out.o0 _ e; have := HT4.out; omega)
      have hf5 : w4.heap[fb]? = some (.cells #[.int .u8 0, .bool fc, .int .u8 (fk : Int), .bool fpf, .int .u8 (fns : Int), .int .u8 (fnr : Int), .string fi] TF (0, 0)) := hd.chg.stays HS4.out (fun e => by
        rcases e with e | e
        · exact HF3.out.1 e.symm
        · exact HF3.out.2.2 _ e rfl)
      have htn : retag (w3.alloc (noM TA)) tag4 5 w3.heap.size = 9 := by rw [retag_old (by omega)]; exact HT4.out
      go_wp2_with fail
      refine hK.out _ _ ⟨hf5, HN.out.blk, HN.out.a⟩ (fun hNext => ?_)
      clear hd CH hHeld hn4
      clear hK K
      have hHeld := hNext
      clear hNext
      (try simp only [Act.put, z1', z2', z3'])
      obtain ⟨⟨y0, y1, y2, y3⟩, yf⟩ := cells4 hn5
      have hac : ((((w4.setCell ⟨w3.heap.size, 0, none⟩ (.string mi)).setCell ⟨w3.heap.size, 1, none⟩ (.bool false)).setCell ⟨w3.heap.size, 2, none⟩ (.int .i64 (ma : Int))).setCell ⟨w3.heap.size, 3, none⟩ (.bool false)).heap[w3.heap.size]? = some (.cells #[.string mi, .bool false, .int .i64 (ma : Int), .bool false] TA (0, 0)) := set4_at hn5 (.string mi) (.bool false) (.int .i64 (ma : Int)) (.bool false)
      have hcc : Chg (fun k => k = w3.heap.size) w4 ((((w4.setCell ⟨w3.heap.size, 0, none⟩ (.string mi)).setCell ⟨w3.heap.size, 1, none⟩ (.bool false)).setCell ⟨w3.heap.size, 2, none⟩ (.int .i64 (ma : Int))).setCell ⟨w3.heap.size, 3, none⟩ (.bool false)) := chg_set4 (S := fun k => k = w3.heap.size) (Chg.refl _ w4) (fun _ => rfl) _ _ _ _
      have H5 := Lib.hid (HN.out.other hcc htn H3.out.below.size)
      refine ry [11] ?_
      refine AllReadyH.cons rfl (fun K hK => ?_) AllReadyH.nil
      go_simp
      go_wp2_with fail
      refine hK.out _ _ ⟨hcc.stays hf5 (fun e => by have := lt_heap HS3.out.1; omega), H5.out.blk, H5.out.a⟩ (fun hNext => ?_)
      clear hHeld
      clear hK K
      have hHeld := hNext
      clear hNext
      (try simp only [Act.put, z1', z2', z3'])
      refine wpAnyH_done (by kernel_rfl) ?_ _
      clear hHeld
      have HK2 := Lib.hid (show b.bk ≠ w3.heap.size from fun e => by have := lt_heap H3.out.k; omega)
      clear HS3 HF3 HS4 HN H4 HT4 hn5 hf5 htn hcc y0 y1 y2 y3 yf hs4 H3
      generalize ((((w4.setCell ⟨w3.heap.size, 0, none⟩ (.string mi)).setCell ⟨w3.heap.size, 1, none⟩ (.bool false)).setCell ⟨w3.heap.size, 2, none⟩ (.int .i64 (ma : Int))).setCell ⟨w3.heap.size, 3, none⟩ (.bool false)) = w5 at H5 hac ⊢
      generalize w3.heap.size = ab at hac HK2 ⊢
      generalize retag (w3.alloc (noM TA)) tag4 5 = tag5 at H5
      obtain ⟨⟨a0, a1, a2, a3⟩, af⟩ := cells4 hac
      go_wp2
      go_ret
      exact ⟨rfl, _, _, _, _, _, H5.out⟩
set_option maxHeartbeats 16000000 in
set_option maxRecDepth 100000 in
theorem fhand1_yes (w0 w : World) (b : Bk) (x : Pr) (N : Nat) (h : PrE w0 b x w) (hI : Inv N x.A) (fc : Bool) (fk : Nat) (fpf : Bool) (fns fnr : Nat) (fi : ByteArray) (j rr : Nat) (r : List Gf) (hL : x.L1 = ⟨⟨fc, fk, fpf, fns, fnr, fi⟩, j, rr⟩ :: r) (hns : fns < 256) (hnr : fnr < 256) (X2 : Sd) (mi : ByteArray) (ma : Nat) (hh : hear ⟨fc, fk, fpf, fns, fnr, fi⟩ x.A = (X2, ⟨mi, true, ma, false⟩)) (hm : mi = inf x.k1) (hkb : x.k1 ≤ 1000000) :
    Calls Try.prog 38 #[ptr b.tb, .int .i64 1, .bool false] w fun e w' => e = .returned (.bool true) ∧ PrE w0 b { x with A := X2, L1 := r, k1 := x.k1 + 1 } w' := by
  have HM := Lib.hid hm
  have HKB := Lib.hid hkb
  have HCH : Hid (∀ (w' : World) (u : Value), PAt w' b.p0 (Ps.of x.A) u → Calls Try.prog 24 #[ptr b.p0, fmvd 0 ⟨fc, fk, fpf, fns, fnr, fi⟩] w' fun e w'' => e = .returned (.agg #[.string mi, .bool true, .int .i64 (ma : Int), .bool false]) ∧ ∃ u', QDo b.p0 (Ps.of X2) u u' w' w'') := Lib.hid fun w' u h' => by
    have := fhear w' b.p0 0 (Ps.of x.A) u ⟨fc, fk, fpf, fns, fnr, fi⟩ h' hI.pfit hns hnr
    rw [hear_of _ x.A hI.ord, hh] at this
    exact this
  have vw0 : IntKind.i64.wrap 0 = 0 := by decide
  have vw1 : IntKind.i64.wrap 1 = 1 := by decide
  clear hI hns hnr hh hm hkb
  obtain ⟨q0, q1, v0, v1, tag, h⟩ := h
  have CH : Hid (∀ w' : World, PAt w' b.p0 (Ps.of x.A) q0 → Calls Try.prog 24 #[ptr b.p0, fmvd 0 ⟨fc, fk, fpf, fns, fnr, fi⟩] w' fun e w'' => e = .returned (.agg #[.string mi, .bool true, .int .i64 (ma : Int), .bool false]) ∧ ∃ u', QDo b.p0 (Ps.of X2) q0 u' w' w'') := Lib.hid fun w' => HCH.out w' q0
  clear HCH
  have c1 : w.cell? ⟨b.tb, 1, none⟩ = some (two b.bl) := cell_of h.blk rfl
  obtain ⟨oa, cap, hv⟩ := h.l1.form
  have hql : Qz 7 fcF w w0.heap.size v1 ((⟨fc, fk, fpf, fns, fnr, fi⟩ : Fm) :: r.map Gf.f) := by have := h.l1; rw [hL] at this; exact this
  rw [hL, List.map_cons, List.length_cons, List.length_map] at hv
  rw [hv] at hql
  obtain ⟨g, off, ho, hn, hcap, hmax, hbg, hgw, ⟨e0, e1, e2, e3, e4, e5, e6⟩, hq⟩ := qz7_cons hql
  subst ho
  dsimp only at e1 e2 e3 e4 e5 e6
  have cl : w.cell? ⟨b.bl, 1, none⟩ = some (.slice (some ⟨g, off, none⟩) (r.length + 1) cap) := by rw [← hv]; exact cell_of h.l rfl
  obtain ⟨z, hz⟩ : ∃ z, r.length = z := ⟨_, rfl⟩
  rw [List.length_map] at hq
  rw [hz] at hcap hq cl hv
  have HV := Lib.hid hv
  have HQ := Lib.hid hq
  have HX := Lib.hid h
  have z0 : ((z + 1 : Nat) : Int) = (z : Int) + 1 := by omega
  have z1 : ¬ (z : Int) + 1 = 0 := by omega
  have z2 : decide ((0 : Int) < (z : Int) + 1) = true := decide_eq_true (by omega)
  have z3 : (((z : Int) + 1) == 0) = false := beq_false (by omega)
  have z4 : (0 : Int) < (z : Int) + 1 := by omega
  have z5 : (1 : Int) ≤ (z : Int) + 1 := by omega
  have hbl := lt_heap h.l
  have htb := lt_heap h.blk
  have hne : b.tb ≠ b.bl := fun e => by have := h.t0; have := h.tl; rw [e] at *; omega
  clear h hL hv hq hql hn hz
  go_enter Try.func38, Try.ntmps38
  go_wp2_with fail
  have H1 : Hid (PrAt w0 b x q0 q1 v0 v1 tag (w.alloc (.cells #[.int .u8 0, .bool fc, .int .u8 (fk : Int), .bool fpf, .int .u8 (fns : Int), .int .u8 (fnr : Int), .string fi] TF (0, 0))).drew) := Lib.hid (HX.out.on ((show Below w.heap.size w (w.alloc (.cells #[.int .u8 0, .bool fc, .int .u8 (fk : Int), .bool fpf, .int .u8 (fns : Int), .int .u8 (fnr : Int), .string fi] TF (0, 0))) from nest_below w [_]).drew))
  have HQ1 : Hid (Qz 7 fcF (w.alloc (.cells #[.int .u8 0, .bool fc, .int .u8 (fk : Int), .bool fpf, .int .u8 (fns : Int), .int .u8 (fnr : Int), .string fi] TF (0, 0))).drew w0.heap.size (.slice (if cap = 1 then some ⟨g, off, none⟩ else some ⟨g, off + 7, none⟩) z (cap - 1)) (r.map Gf.f)) := Lib.hid (HQ.out.below ((show Below w.heap.size w (w.alloc (.cells #[.int .u8 0, .bool fc, .int .u8 (fk : Int), .bool fpf, .int .u8 (fns : Int), .int .u8 (fnr : Int), .string fi] TF (0, 0))) from nest_below w [_]).drew))
  have hA1 : (w.alloc (.cells #[.int .u8 0, .bool fc, .int .u8 (fk : Int), .bool fpf, .int .u8 (fns : Int), .int .u8 (fnr : Int), .string fi] TF (0, 0))).drew.heap[w.heap.size]? = some (.cells #[.int .u8 0, .bool fc, .int .u8 (fk : Int), .bool fpf, .int .u8 (fns : Int), .int .u8 (fnr : Int), .string fi] TF (0, 0)) := nest w [_] 0 _ rfl
  obtain ⟨fb, hfb⟩ : ∃ n, n = w.heap.size := ⟨_, rfl⟩
  have HFB := Lib.hid hfb
  rw [← hfb] at hA1 hbl htb
  simp only [← hfb]
  clear hfb e0 e1 e2 e3 e4 e5 e6 hgw HQ c1 cl
  generalize hw1 : (w.alloc (.cells #[.int .u8 0, .bool fc, .int .u8 (fk : Int), .bool fpf, .int .u8 (fns : Int), .int .u8 (fnr : Int), .string fi] TF (0, 0))).drew = w1 at H1 HQ1 hA1
  have b2 : w1.cell? ⟨b.bl, 1, none⟩ = some (.slice (some ⟨g, off, none⟩) (z + 1) cap) := by rw [← HV.out]; exact cell_of H1.out.l rfl
  have f2 : ∀ i, w1.frozen? ⟨b.bl, i, none⟩ = false := fun _ => free_of H1.out.l
  have HTB := Lib.hid H1.out.blk
  refine wp_region_held_drew (S := (fun w' => w'.heap[b.tb]? = some (.cells #[two b.ba, two b.bl, two b.bu, two b.bk, .bool x.bad] 46 (0, 0)))) (by kernel_rfl) (hw1 ▸ HTB.out) (fun hHeld => ?_)
  refine' tk 0 ⟨some 27, .move (.tmp 0), 40, "law.go:134", #[], none⟩ ?_
  simp only [Act.put, z1', z2', z3']
  refine' tk 1 ⟨some 28, .nilCheck (.tmp 27), 0, "law.go:134", #[⟨0, .data⟩], none⟩ ?_
  simp only [Act.put, z1', z2', z3']
  refine' tk 2 ⟨some 29, .fieldAddr 46 (.tmp 28) 1, 0, "law.go:134", #[⟨1, .data⟩], none⟩ ?_
  simp only [Act.put, z1', z2', z3']
  refine' tv 3 ⟨some 30, .load 43 (.tmp 29), 43, "law.go:134", #[⟨2, .data⟩], none⟩ ?hy253 ?hr253
  case hy253 => (intro _ hSw; (try dsimp only at hSw); have hc := cell_of (i := 1) (v := two b.bl) hSw rfl; go_simp <;> with_reducible rfl)
  simp only [Act.put, z1', z2', z3']
  refine' tk 4 ⟨some 31, .move (.tmp 1), 3, "law.go:134", #[], none⟩ ?_
  simp only [Act.put, z1', z2', z3']
  refine' tk 5 ⟨some 32, .move (.tmp 0), 40, "law.go:134", #[], none⟩ ?_
  simp only [Act.put, z1', z2', z3']
  refine' tk 6 ⟨some 33, .nilCheck (.tmp 32), 0, "law.go:134", #[⟨5, .data⟩], none⟩ ?_
  simp only [Act.put, z1', z2', z3']
  refine' tk 7 ⟨some 34, .fieldAddr 46 (.tmp 33) 1, 0, "law.go:134", #[⟨6, .data⟩], none⟩ ?_
  simp only [Act.put, z1', z2', z3']
  refine' tv 8 ⟨some 35, .load 43 (.tmp 34), 43, "law.go:134", #[⟨7, .data⟩], none⟩ ?hy258 ?hr258
  case hy258 => (intro _ hSw; (try dsimp only at hSw); have hc := cell_of (i := 1) (v := two b.bl) hSw rfl; go_simp <;> with_reducible rfl)
  simp only [Act.put, z1', z2', z3']
  refine' tk 9 ⟨some 36, .move (.tmp 1), 3, "law.go:134", #[], none⟩ ?_
  simp only [Act.put, z1', z2', z3']
  refine' tk 10 ⟨some 37, .indexAddr 43 (.tmp 35) (.tmp 36), 0, "law.go:134", #[⟨8, .data⟩, ⟨9, .data⟩], none⟩ ?_
  simp only [Act.put, z1', z2', z3']
  rw [hw1]
  clear hw1
  refine ry [11] ?_
  refine AllReadyH.cons rfl (fun K hK => ?_) AllReadyH.nil
  go_simp
  refine hK.out _ _ HTB.out (fun hNext => ?_)
  clear hHeld
  clear hK K
  have hHeld := hNext
  clear hNext
  (try simp only [Act.put, z1', z2', z3'])
  by_cases hc1 : cap = 1
  · rw [if_pos hc1] at HQ1
    subst hc1
    obtain rfl : z = 0 := by omega
    refine' tk 12 ⟨some 39, .slice 88 (.tmp 38) (some (.const (.int .i64 1))) none none, 88, "law.go:134", #[⟨11, .data⟩], none⟩ ?_
    simp only [Act.put, z1', z2', z3']
    refine' tk 13 ⟨some 40, .indexAddr 43 (.tmp 30) (.tmp 31), 0, "law.go:134", #[⟨3, .data⟩, ⟨4, .data⟩, ⟨0, .phase⟩, ⟨1, .phase⟩, ⟨2, .phase⟩, ⟨3, .phase⟩, ⟨4, .phase⟩, ⟨5, .phase⟩, ⟨6, .phase⟩, ⟨7, .phase⟩, ⟨8, .phase⟩, ⟨9, .phase⟩, ⟨10, .phase⟩, ⟨11, .phase⟩, ⟨12, .phase⟩], none⟩ ?_
    simp only [Act.put, z1', z2', z3']
    refine ry [14] ?_
    refine AllReadyH.cons rfl (fun K hK => ?_) AllReadyH.nil
    go_simp
    refine hK.out _ _ ((set_other hne _).trans HTB.out) (fun hNext => ?_)
    clear hNext hHeld
    refine wpAnyH_done (by kernel_rfl) ?_ _
    clear hK K
    have hgr : w1.grownBy w1 v1.ownBlock := ⟨rfl, rfl, rfl, Nat.le_refl _, fun _ _ _ => rfl⟩
    have how : (Value.ownBlock (.slice (some ⟨g, off, none⟩) 0 0)) = v1.ownBlock := by rw [HV.out]; rfl
    have H2 := Lib.hid (H1.out.put1 hgr HQ1.out (Or.inl how))
    have hA2 : (w1.setCell ⟨b.bl, 1, none⟩ (.slice (some ⟨g, off, none⟩) 0 0)).heap[fb]? = some (.cells #[.int .u8 0, .bool fc, .int .u8 (fk : Int), .bool fpf, .int .u8 (fns : Int), .int .u8 (fnr : Int), .string fi] TF (0, 0)) := (set_other (by omega) _).trans hA1
    clear HQ1 H1 hA1 b2 f2 HTB hgr how
    generalize w1.setCell ⟨b.bl, 1, none⟩ (.slice (some ⟨g, off, none⟩) 0 0) = w2 at H2 hA2 ⊢
    generalize retag w1 tag 8 = tag2 at H2
    go_wp2_with fail
    have H3 := Lib.hid (H2.out.on (w' := w2.drew) ⟨rfl, rfl, rfl, Nat.le_refl _, fun _ _ => rfl⟩)
    have hA3 : w2.drew.heap[fb]? = some (.cells #[.int .u8 0, .bool fc, .int .u8 (fk : Int), .bool fpf, .int .u8 (fns : Int), .int .u8 (fnr : Int), .string fi] TF (0, 0)) := hA2
    clear H2 hA2
    refine wp_region_held_drew (S := (fun w' => w'.heap[fb]? = some (.cells #[.int .u8 0, .bool fc, .int .u8 (fk : Int), .bool fpf, .int .u8 (fns : Int), .int .u8 (fnr : Int), .string fi] TF (0, 0)) ∧ w'.heap[b.tb]? = some (.cells #[two b.ba, two b.bl, two b.bu, two b.bk, .bool x.bad] 46 (0, 0)) ∧ w'.heap[b.ba]? = some (.cells #[ptr b.p0, ptr b.p1] 28 (0, 0)))) (by kernel_rfl) ⟨hA3, H3.out.blk, H3.out.a⟩ (fun hHeld => ?_)
    refine' tk 0 ⟨some 42, .move (.tmp 0), 40, "law.go:138", #[], none⟩ ?_
    simp only [Act.put, z1', z2', z3']
    refine' tk 1 ⟨some 43, .nilCheck (.tmp 42), 0, "law.go:138", #[⟨0, .data⟩], none⟩ ?_
    simp only [Act.put, z1', z2', z3']
    refine' tk 2 ⟨some 44, .fieldAddr 46 (.tmp 43) 0, 0, "law.go:138", #[⟨1, .data⟩], none⟩ ?_
    simp only [Act.put, z1', z2', z3']
    refine' tv 3 ⟨some 45, .load 42 (.tmp 44), 42, "law.go:138", #[⟨2, .data⟩], none⟩ ?hy266 ?hr266
    case hy266 => (intro _ hSw; (try dsimp only at hSw); have hc := cell_of (i := 0) (v := two b.ba) hSw.2.1 rfl; go_simp <;> with_reducible rfl)
    simp only [Act.put, z1', z2', z3']
    refine' tk 4 ⟨some 46, .move (.tmp 1), 3, "law.go:138", #[], none⟩ ?_
    simp only [Act.put, z1', z2', z3']
    refine' tk 5 ⟨some 47, .binOp .sub 3 (.const (.int .i64 1)) (.tmp 46) 3, 3, "law.go:138", #[⟨4, .data⟩], none⟩ ?_
    simp only [Act.put, z1', z2', z3']
    refine' tk 6 ⟨some 48, .indexAddr 42 (.tmp 45) (.tmp 47), 0, "law.go:138", #[⟨3, .data⟩, ⟨5, .data⟩], none⟩ ?_
    simp only [Act.put, z1', z2', z3']
    refine' tv 7 ⟨some 49, .load 28 (.tmp 48), 28, "law.go:138", #[⟨6, .data⟩], none⟩ ?hy270 ?hr270
    case hy270 => (intro _ hSw; (try dsimp only at hSw); have hc := cell_of (i := 0) (v := ptr b.p0) hSw.2.2 rfl; go_simp <;> with_reducible rfl)
    simp only [Act.put, z1', z2', z3']
    refine' tv 8 ⟨some 50, .load 25 (.tmp 7), 25, "law.go:138", #[], none⟩ ?hy271 ?hr271
    case hy271 => (intro _ hSw; (try dsimp only at hSw); obtain ⟨⟨y0, y1, y2, y3, y4, y5, y6⟩, -⟩ := cells7 hSw.1; go_simp <;> with_reducible rfl)
    simp only [Act.put, z1', z2', z3']
    clear hHeld
    have hA4 : w2.drew.heap[fb]? = some (.cells #[.int .u8 0, .bool fc, .int .u8 (fk : Int), .bool fpf, .int .u8 (fns : Int), .int .u8 (fnr : Int), .string fi] TF (0, 0)) := hA3
    clear hA3
    generalize w2.drew = w3 at H3 hA4 ⊢
    have HS3 := Lib.hid (show w3.heap[fb]? = some (.cells #[.int .u8 0, .bool fc, .int .u8 (fk : Int), .bool fpf, .int .u8 (fns : Int), .int .u8 (fnr : Int), .string fi] TF (0, 0)) ∧ w3.heap[b.tb]? = some (.cells #[two b.ba, two b.bl, two b.bu, two b.bk, .bool x.bad] 46 (0, 0)) ∧ w3.heap[b.ba]? = some (.cells #[ptr b.p0, ptr b.p1] 28 (0, 0)) from ⟨hA4, H3.out.blk, H3.out.a⟩)
    have HF3 := Lib.hid (show b.p0 ≠ fb ∧ b.p1 ≠ fb ∧ (∀ g, q0.ownBlock = some g → g ≠ fb) from ⟨fun e => by have := HX.out.s0.lt; have := HFB.out; omega, fun e => by have := HX.out.s1.lt; have := HFB.out; omega, fun g hg e => by have := (HX.out.s0.q.lt g hg).2; have := HFB.out; omega⟩)
    clear hA4
    refine ry [9, 10] ?_
    refine AllReadyH.cons rfl (fun K hK => ?_) (AllReadyH.cons rfl (fun K hK => ?_) AllReadyH.nil)
    · go_simp
      refine (CH.out _ H3.out.s0).mono ?_
      rintro _ w4 ⟨rfl, u, hd⟩
      have HN := Lib.hid (H3.out.doA hd)
      have HS4 := Lib.hid (show w4.heap[fb]? = some (.cells #[.int .u8 0, .bool fc, .int .u8 (fk : Int), .bool fpf, .int .u8 (fns : Int), .int .u8 (fnr : Int), .string fi] TF (0, 0)) ∧ w4.heap[b.tb]? = some (.cells #[two b.ba, two b.bl, two b.bu, two b.bk, .bool x.bad] 46 (0, 0)) ∧ w4.heap[b.ba]? = some (.cells #[ptr b.p0, ptr b.p1] 28 (0, 0)) from ⟨hd.chg.stays HS3.out.1 (fun e => by rcases e with e | e; exact HF3.out.1 e.symm; exact HF3.out.2.2 _ e rfl), HN.out.blk, HN.out.a⟩)
      go_wp2_with fail
      refine hK.out _ _ HS4.out (fun hNext => ?_)
      clear hd CH H3 HS3 HF3
      clear hK K
      have hHeld := hNext
      clear hNext
      (try simp only [Act.put, z1', z2', z3'])
      refine ry [10] ?_
      refine AllReadyH.cons rfl (fun K hK => ?_) AllReadyH.nil
      go_simp
      refine hK.out _ _ ⟨stays HS4.out.1 (nest_below w4 [noM TA]), stays HS4.out.2.1 (nest_below w4 [noM TA]), stays HS4.out.2.2 (nest_below w4 [noM TA])⟩ (fun hNext => ?_)
      clear hHeld
      clear hK K
      have hHeld := hNext
      clear hNext
      (try simp only [Act.put, z1', z2', z3'])
      have H5 := Lib.hid (HN.out.on (show Below w4.heap.size w4 (w4.alloc (.cells #[.string mi, .bool true, .int .i64 (ma : Int), .bool false] TA (0, 0))) from nest_below w4 [_]))
      have hac : (w4.alloc (.cells #[.string mi, .bool true, .int .i64 (ma : Int), .bool false] TA (0, 0))).heap[w4.heap.size]? = some (.cells #[.string mi, .bool true, .int .i64 (ma : Int), .bool false] TA (0, 0)) := nest w4 [_] 0 _ rfl
      refine ry [11] ?_
      refine AllReadyH.cons rfl (fun K hK => ?_) AllReadyH.nil
      go_simp
      go_wp2_with fail
      refine hK.out _ _ ⟨stays HS4.out.1 (nest_below w4 [(.cells #[.string mi, .bool true, .int .i64 (ma : Int), .bool false] TA (0, 0))]), H5.out.blk, H5.out.a⟩ (fun hNext => ?_)
      clear hHeld
      clear hK K
      have hHeld := hNext
      clear hNext
      (try simp only [Act.put, z1', z2', z3'])
      refine wpAnyH_done (by kernel_rfl) ?_ _
      clear hHeld
      have HK2 := Lib.hid (show b.bk ≠ w4.heap.size from fun e => by have := lt_heap HN.out.k; omega)
      clear HS4 HN
      generalize w4.alloc (.cells #[.string mi, .bool true, .int .i64 (ma : Int), .bool false] TA (0, 0)) = w5 at H5 hac ⊢
      generalize w4.heap.size = ab at hac HK2 ⊢
      generalize retag w3 tag2 5 = tag5 at H5
      obtain ⟨⟨a0, a1, a2, a3⟩, af⟩ := cells4 hac
      have hmi := HM.out
      go_wp2_with fail
      have H6 := Lib.hid (H5.out.on (w' := w5.drew) ⟨rfl, rfl, rfl, Nat.le_refl _, fun _ _ => rfl⟩)
      have hac3 : w5.drew.heap[ab]? = some (.cells #[.string mi, .bool true, .int .i64 (ma : Int), .bool false] TA (0, 0)) := hac
      clear a0 a1 a2 a3 af hac H5
      refine wp_region_held_drew (S := (fun w' => w'.heap[ab]? = some (.cells #[.string mi, .bool true, .int .i64 (ma : Int), .bool false] TA (0, 0)) ∧ w'.heap[b.tb]? = some (.cells #[two b.ba, two b.bl, two b.bu, two b.bk, .bool x.bad] 46 (0, 0)) ∧ w'.heap[b.bk]? = some (.cells #[nm x.k0, nm x.k1] 3 (0, 0)))) (by kernel_rfl) ⟨hac3, H6.out.blk, H6.out.k⟩ (fun hHeld => ?_)
      refine' tk 0 ⟨some 59, .fieldAddr 56 (.tmp 8) 0, 0, "law.go:143", #[], none⟩ ?_
      simp only [Act.put, z1', z2', z3']
      refine' tv 1 ⟨some 60, .load 9 (.tmp 59), 9, "law.go:143", #[⟨0, .data⟩], none⟩ ?hy273 ?hr273
      case hy273 => (intro _ hSw; (try dsimp only at hSw); obtain ⟨⟨y0, y1, y2, y3⟩, -⟩ := cells4 hSw.1; go_simp <;> with_reducible rfl)
      simp only [Act.put, z1', z2', z3']
      refine' tk 2 ⟨some 61, .move (.tmp 0), 40, "law.go:143", #[], none⟩ ?_
      simp only [Act.put, z1', z2', z3']
      refine' tk 3 ⟨some 62, .nilCheck (.tmp 61), 0, "law.go:143", #[⟨2, .data⟩], none⟩ ?_
      simp only [Act.put, z1', z2', z3']
      refine' tk 4 ⟨some 63, .fieldAddr 46 (.tmp 62) 3, 0, "law.go:143", #[⟨3, .data⟩], none⟩ ?_
      simp only [Act.put, z1', z2', z3']
      refine' tv 5 ⟨some 64, .load 44 (.tmp 63), 44, "law.go:143", #[⟨4, .data⟩], none⟩ ?hy277 ?hr277
      case hy277 => (intro _ hSw; (try dsimp only at hSw); have hc := cell_of (i := 3) (v := two b.bk) hSw.2.1 rfl; go_simp <;> with_reducible rfl)
      simp only [Act.put, z1', z2', z3']
      refine' tk 6 ⟨some 65, .move (.tmp 1), 3, "law.go:143", #[], none⟩ ?_
      simp only [Act.put, z1', z2', z3']
      refine' tk 7 ⟨some 66, .indexAddr 44 (.tmp 64) (.tmp 65), 0, "law.go:143", #[⟨5, .data⟩, ⟨6, .data⟩], none⟩ ?_
      simp only [Act.put, z1', z2', z3']
      refine' tv 8 ⟨some 67, .load 3 (.tmp 66), 3, "law.go:143", #[⟨7, .data⟩], none⟩ ?hy280 ?hr280
      case hy280 => (intro _ hSw; (try dsimp only at hSw); have hc := cell_of (i := 1) (v := nm x.k1) hSw.2.2 rfl; go_simp <;> with_reducible rfl)
      simp only [Act.put, z1', z2', z3']
      clear hHeld
      generalize w5.drew = w6 at H6 hac3 ⊢
      refine ry [9] ?_
      refine AllReadyH.cons rfl (fun K hK => ?_) AllReadyH.nil
      go_simp
      refine (finf x.k1 HKB.out _).mono ?_
      rintro _ w7 ⟨rfl, hb⟩
      have H7 := Lib.hid (H6.out.on hb)
      have hac7 := stays hac3 hb
      clear hb hac3 H6
      go_wp2_with fail
      refine hK.out _ _ ⟨hac7, H7.out.blk, H7.out.k⟩ (fun hNext => ?_)
      clear hK K
      have hHeld := hNext
      clear hNext
      (try simp only [Act.put, z1', z2', z3'])
      subst hmi
      have b1 : ((inf x.k1).toList == (inf x.k1).toList) = true := by simp
      have b2 : ((inf x.k1).toList != (inf x.k1).toList) = false := by simp
      generalize inf x.k1 = st at b1 b2 hHeld hac7 ⊢
      refine' tk 10 ⟨some 69, .binOp .neq 9 (.tmp 60) (.tmp 68) 9, 4, "law.go:143", #[⟨1, .data⟩, ⟨9, .data⟩], none⟩ ?_
      simp only [Act.put, z1', z2', z3']
      refine wpAnyH_done (by kernel_rfl) ?_ _
      clear hHeld
      have c3 : w7.cell? ⟨b.tb, 3, none⟩ = some (two b.bk) := cell_of H7.out.blk rfl
      have ck : w7.cell? ⟨b.bk, 1, none⟩ = some (nm x.k1) := cell_of H7.out.k rfl
      have fk2 : ∀ i, w7.frozen? ⟨b.bk, i, none⟩ = false := fun _ => free_of H7.out.k
      have vk : IntKind.i64.wrap ((x.k1 : Int) + 1) = ((x.k1 + 1 : Nat) : Int) := by have := HKB.out; rw [IntKind.wrap_i64]; omega
      have H8 := Lib.hid (H7.out.put_k x.k0 (x.k1 + 1) (chg_cell w7 b.bk 1 (nm (x.k1 + 1))) (block_set (i := 1) H7.out.k _))
      clear H7 hac7
      obtain ⟨kn, hkn⟩ : ∃ kn, x.k1 + 1 = kn := ⟨_, rfl⟩
      rw [hkn] at vk H8
      have HKN := Lib.hid hkn
      clear hkn
      go_wp2
      go_ret
      have hkn := HKN.out
      clear HKN
      subst hkn
      exact ⟨rfl, _, _, _, _, _, H8.out⟩
    · go_simp
      refine hK.out _ _ ⟨stays HS3.out.1 (nest_below w3 [noM TA]), stays HS3.out.2.1 (nest_below w3 [noM TA]), stays HS3.out.2.2 (nest_below w3 [noM TA])⟩ (fun hNext => ?_)
      clear hK K
      have hHeld := hNext
      clear hNext
      (try simp only [Act.put, z1', z2', z3'])
      have H4 := Lib.hid ((H3.out.mark 9).on (show Below w3.heap.size w3 (w3.alloc (noM TA)) from nest_below w3 [_]))
      have HT4 := Lib.hid (show retag w3 tag2 9 w3.heap.size = 9 from retag_new (Nat.le_refl _))
      generalize retag w3 tag2 9 = tag4 at H4 HT4
      have hn4 : (w3.alloc (noM TA)).heap[w3.heap.size]? = some (noM TA) := nest w3 [_] 0 _ rfl
      have hs4 := size_alloc w3 (noM TA)
      have HS4 := Lib.hid (show (w3.alloc (noM TA)).heap[fb]? = some (.cells #[.int .u8 0, .bool fc, .int .u8 (fk : Int), .bool fpf, .int .u8 (fns : Int), .int .u8 (fnr : Int), .string fi] TF (0, 0)) from stays HS3.out.1 (nest_below w3 [noM TA]))
      refine ry [9] ?_
      refine AllReadyH.cons rfl (fun K hK => ?_) AllReadyH.nil
      go_simp
      refine (CH.out _ H4.out.s0).mono ?_
      rintro _ w4 ⟨rfl, u, hd⟩
      have HN := Lib.hid (H4.out.doA hd)
      have hn5 : w4.heap[w3.heap.size]? = some (noM TA) := hd.chg.stays hn4 (fun e => by
        rcases e with e | e
        · have := H4.out.t5; have := HT4.out; rw [e] at this; omega
        · have := H4.out.o0 _ e; have := HT4.out; omega)
      have hf5 : w4.heap[fb]? = some (.cells #[.int .u8 0, .bool fc, .int .u8 (fk : Int), .bool fpf, .int .u8 (fns : Int), .int .u8 (fnr : Int), .string fi] TF (0, 0)) := hd.chg.stays HS4.out (fun e => by
        rcases e with e | e
        · exact HF3.out.1 e.symm
        · exact HF3.out.2.2 _ e rfl)
      have htn : retag (w3.alloc (noM TA)) tag4 5 w3.heap.size = 9 := by rw [retag_old (by omega)]; exact HT4.out
      go_wp2_with fail
      refine hK.out _ _ ⟨hf5, HN.out.blk, HN.out.a⟩ (fun hNext => ?_)
      clear hd CH hHeld hn4
      clear hK K
      have hHeld := hNext
      clear hNext
      (try simp only [Act.put, z1', z2', z3'])
      obtain ⟨⟨y0, y1, y2, y3⟩, yf⟩ := cells4 hn5
      have hac : ((((w4.setCell ⟨w3.heap.size, 0, none⟩ (.string mi)).setCell ⟨w3.heap.size, 1, none⟩ (.bool true)).setCell ⟨w3.heap.size, 2, none⟩ (.int .i64 (ma : Int))).setCell ⟨w3.heap.size, 3, none⟩ (.bool false)).heap[w3.heap.size]? = some (.cells #[.string mi, .bool true, .int .i64 (ma : Int), .bool false] TA (0, 0)) := set4_at hn5 (.string mi) (.bool true) (.int .i64 (ma : Int)) (.bool false)
      have hcc : Chg (fun k => k = w3.heap.size) w4 ((((w4.setCell ⟨w3.heap.size, 0, none⟩ (.string mi)).setCell ⟨w3.heap.size, 1, none⟩ (.bool true)).setCell ⟨w3.heap.size, 2, none⟩ (.int .i64 (ma : Int))).setCell ⟨w3.heap.size, 3, none⟩ (.bool false)) := chg_set4 (S := fun k => k = w3.heap.size) (Chg.refl _ w4) (fun _ => rfl) _ _ _ _
      have H5 := Lib.hid (HN.out.other hcc htn H3.out.below.size)
      refine ry [11] ?_
      refine AllReadyH.cons rfl (fun K hK => ?_) AllReadyH.nil
      go_simp
      go_wp2_with fail
      refine hK.out _ _ ⟨hcc.stays hf5 (fun e => by have := lt_heap HS3.out.1; omega), H5.out.blk, H5.out.a⟩ (fun hNext => ?_)
      clear hHeld
      clear hK K
      have hHeld := hNext
      clear hNext
      (try simp only [Act.put, z1', z2', z3'])
      refine wpAnyH_done (by kernel_rfl) ?_ _
      clear hHeld
      have HK2 := Lib.hid (show b.bk ≠ w3.heap.size from fun e => by have := lt_heap H3.out.k; omega)
      clear HS3 HF3 HS4 HN H4 HT4 hn5 hf5 htn hcc y0 y1 y2 y3 yf hs4 H3
      generalize ((((w4.setCell ⟨w3.heap.size, 0, none⟩ (.string mi)).setCell ⟨w3.heap.size, 1, none⟩ (.bool true)).setCell ⟨w3.heap.size, 2, none⟩ (.int .i64 (ma : Int))).setCell ⟨w3.heap.size, 3, none⟩ (.bool false)) = w5 at H5 hac ⊢
      generalize w3.heap.size = ab at hac HK2 ⊢
      generalize retag (w3.alloc (noM TA)) tag4 5 = tag5 at H5
      obtain ⟨⟨a0, a1, a2, a3⟩, af⟩ := cells4 hac
      have hmi := HM.out
      go_wp2_with fail
      have H6 := Lib.hid (H5.out.on (w' := w5.drew) ⟨rfl, rfl, rfl, Nat.le_refl _, fun _ _ => rfl⟩)
      have hac3 : w5.drew.heap[ab]? = some (.cells #[.string mi, .bool true, .int .i64 (ma : Int), .bool false] TA (0, 0)) := hac
      clear a0 a1 a2 a3 af hac H5
      refine wp_region_held_drew (S := (fun w' => w'.heap[ab]? = some (.cells #[.string mi, .bool true, .int .i64 (ma : Int), .bool false] TA (0, 0)) ∧ w'.heap[b.tb]? = some (.cells #[two b.ba, two b.bl, two b.bu, two b.bk, .bool x.bad] 46 (0, 0)) ∧ w'.heap[b.bk]? = some (.cells #[nm x.k0, nm x.k1] 3 (0, 0)))) (by kernel_rfl) ⟨hac3, H6.out.blk, H6.out.k⟩ (fun hHeld => ?_)
      refine' tk 0 ⟨some 59, .fieldAddr 56 (.tmp 8) 0, 0, "law.go:143", #[], none⟩ ?_
      simp only [Act.put, z1', z2', z3']
      refine' tv 1 ⟨some 60, .load 9 (.tmp 59), 9, "law.go:143", #[⟨0, .data⟩], none⟩ ?hy283 ?hr283
      case hy283 => (intro _ hSw; (try dsimp only at hSw); obtain ⟨⟨y0, y1, y2, y3⟩, -⟩ := cells4 hSw.1; go_simp <;> with_reducible rfl)
      simp only [Act.put, z1', z2', z3']
      refine' tk 2 ⟨some 61, .move (.tmp 0), 40, "law.go:143", #[], none⟩ ?_
      simp only [Act.put, z1', z2', z3']
      refine' tk 3 ⟨some 62, .nilCheck (.tmp 61), 0, "law.go:143", #[⟨2, .data⟩], none⟩ ?_
      simp only [Act.put, z1', z2', z3']
      refine' tk 4 ⟨some 63, .fieldAddr 46 (.tmp 62) 3, 0, "law.go:143", #[⟨3, .data⟩], none⟩ ?_
      simp only [Act.put, z1', z2', z3']
      refine' tv 5 ⟨some 64, .load 44 (.tmp 63), 44, "law.go:143", #[⟨4, .data⟩], none⟩ ?hy287 ?hr287
      case hy287 => (intro _ hSw; (try dsimp only at hSw); have hc := cell_of (i := 3) (v := two b.bk) hSw.2.1 rfl; go_simp <;> with_reducible rfl)
      simp only [Act.put, z1', z2', z3']
      refine' tk 6 ⟨some 65, .move (.tmp 1), 3, "law.go:143", #[], none⟩ ?_
      simp only [Act.put, z1', z2', z3']
      refine' tk 7 ⟨some 66, .indexAddr 44 (.tmp 64) (.tmp 65), 0, "law.go:143", #[⟨5, .data⟩, ⟨6, .data⟩], none⟩ ?_
      simp only [Act.put, z1', z2', z3']
      refine' tv 8 ⟨some 67, .load 3 (.tmp 66), 3, "law.go:143", #[⟨7, .data⟩], none⟩ ?hy290 ?hr290
      case hy290 => (intro _ hSw; (try dsimp only at hSw); have hc := cell_of (i := 1) (v := nm x.k1) hSw.2.2 rfl; go_simp <;> with_reducible rfl)
      simp only [Act.put, z1', z2', z3']
      clear hHeld
      generalize w5.drew = w6 at H6 hac3 ⊢
      refine ry [9] ?_
      refine AllReadyH.cons rfl (fun K hK => ?_) AllReadyH.nil
      go_simp
      refine (finf x.k1 HKB.out _).mono ?_
      rintro _ w7 ⟨rfl, hb⟩
      have H7 := Lib.hid (H6.out.on hb)
      have hac7 := stays hac3 hb
      clear hb hac3 H6
      go_wp2_with fail
      refine hK.out _ _ ⟨hac7, H7.out.blk, H7.out.k⟩ (fun hNext => ?_)
      clear hK K
      have hHeld := hNext
      clear hNext
      (try simp only [Act.put, z1', z2', z3'])
      subst hmi
      have b1 : ((inf x.k1).toList == (inf x.k1).toList) = true := by simp
      have b2 : ((inf x.k1).toList != (inf x.k1).toList) = false := by simp
      generalize inf x.k1 = st at b1 b2 hHeld hac7 ⊢
      refine' tk 10 ⟨some 69, .binOp .neq 9 (.tmp 60) (.tmp 68) 9, 4, "law.go:143", #[⟨1, .data⟩, ⟨9, .data⟩], none⟩ ?_
      simp only [Act.put, z1', z2', z3']
      refine wpAnyH_done (by kernel_rfl) ?_ _
      clear hHeld
      have c3 : w7.cell? ⟨b.tb, 3, none⟩ = some (two b.bk) := cell_of H7.out.blk rfl
      have ck : w7.cell? ⟨b.bk, 1, none⟩ = some (nm x.k1) := cell_of H7.out.k rfl
      have fk2 : ∀ i, w7.frozen? ⟨b.bk, i, none⟩ = false := fun _ => free_of H7.out.k
      have vk : IntKind.i64.wrap ((x.k1 : Int) + 1) = ((x.k1 + 1 : Nat) : Int) := by have := HKB.out; rw [IntKind.wrap_i64]; omega
      have H8 := Lib.hid (H7.out.put_k x.k0 (x.k1 + 1) (chg_cell w7 b.bk 1 (nm (x.k1 + 1))) (block_set (i := 1) H7.out.k _))
      clear H7 hac7
      obtain ⟨kn, hkn⟩ : ∃ kn, x.k1 + 1 = kn := ⟨_, rfl⟩
      rw [hkn] at vk H8
      have HKN := Lib.hid hkn
      clear hkn
      go_wp2
      go_ret
      have hkn := HKN.out
      clear HKN
      subst hkn
      exact ⟨rfl, _, _, _, _, _, H8.out⟩
  · rw [if_neg hc1] at HQ1
    refine' tk 12 ⟨some 39, .slice 88 (.tmp 38) (some (.const (.int .i64 1))) none none, 88, "law.go:134", #[⟨11, .data⟩], none⟩ ?_
    simp only [Act.put, z1', z2', z3']
    refine' tk 13 ⟨some 40, .indexAddr 43 (.tmp 30) (.tmp 31), 0, "law.go:134", #[⟨3, .data⟩, ⟨4, .data⟩, ⟨0, .phase⟩, ⟨1, .phase⟩, ⟨2, .phase⟩, ⟨3, .phase⟩, ⟨4, .phase⟩, ⟨5, .phase⟩, ⟨6, .phase⟩, ⟨7, .phase⟩, ⟨8, .phase⟩, ⟨9, .phase⟩, ⟨10, .phase⟩, ⟨11, .phase⟩, ⟨12, .phase⟩], none⟩ ?_
    simp only [Act.put, z1', z2', z3']
    refine ry [14] ?_
    refine AllReadyH.cons rfl (fun K hK => ?_) AllReadyH.nil
    go_simp
    refine hK.out _ _ ((set_other hne _).trans HTB.out) (fun hNext => ?_)
    clear hNext hHeld
    refine wpAnyH_done (by kernel_rfl) ?_ _
    clear hK K
    have hgr : w1.grownBy w1 v1.ownBlock := ⟨rfl, rfl, rfl, Nat.le_refl _, fun _ _ _ => rfl⟩
    have how : (Value.ownBlock (.slice (some ⟨g, off + 7, none⟩) z (cap - 1))) = v1.ownBlock := by rw [HV.out]; rfl
    have H2 := Lib.hid (H1.out.put1 hgr HQ1.out (Or.inl how))
    have hA2 : (w1.setCell ⟨b.bl, 1, none⟩ (.slice (some ⟨g, off + 7, none⟩) z (cap - 1))).heap[fb]? = some (.cells #[.int .u8 0, .bool fc, .int .u8 (fk : Int), .bool fpf, .int .u8 (fns : Int), .int .u8 (fnr : Int), .string fi] TF (0, 0)) := (set_other (by omega) _).trans hA1
    clear HQ1 H1 hA1 b2 f2 HTB hgr how
    generalize w1.setCell ⟨b.bl, 1, none⟩ (.slice (some ⟨g, off + 7, none⟩) z (cap - 1)) = w2 at H2 hA2 ⊢
    generalize retag w1 tag 8 = tag2 at H2
    go_wp2_with fail
    have H3 := Lib.hid (H2.out.on (w' := w2.drew) ⟨rfl, rfl, rfl, Nat.le_refl _, fun _ _ => rfl⟩)
    have hA3 : w2.drew.heap[fb]? = some (.cells #[.int .u8 0, .bool fc, .int .u8 (fk : Int), .bool fpf, .int .u8 (fns : Int), .int .u8 (fnr : Int), .string fi] TF (0, 0)) := hA2
    clear H2 hA2
    refine wp_region_held_drew (S := (fun w' => w'.heap[fb]? = some (.cells #[.int .u8 0, .bool fc, .int .u8 (fk : Int), .bool fpf, .int .u8 (fns : Int), .int .u8 (fnr : Int), .string fi] TF (0, 0)) ∧ w'.heap[b.tb]? = some (.cells #[two b.ba, two b.bl, two b.bu, two b.bk, .bool x.bad] 46 (0, 0)) ∧ w'.heap[b.ba]? = some (.cells #[ptr b.p0, ptr b.p1] 28 (0, 0)))) (by kernel_rfl) ⟨hA3, H3.out.blk, H3.out.a⟩ (fun hHeld => ?_)
    refine' tk 0 ⟨some 42, .move (.tmp 0), 40, "law.go:138", #[], none⟩ ?_
    simp only [Act.put, z1', z2', z3']
    refine' tk 1 ⟨some 43, .nilCheck (.tmp 42), 0, "law.go:138", #[⟨0, .data⟩], none⟩ ?_
    simp only [Act.put, z1', z2', z3']
    refine' tk 2 ⟨some 44, .fieldAddr 46 (.tmp 43) 0, 0, "law.go:138", #[⟨1, .data⟩], none⟩ ?_
    simp only [Act.put, z1', z2', z3']
    refine' tv 3 ⟨some 45, .load 42 (.tmp 44), 42, "law.go:138", #[⟨2, .data⟩], none⟩ ?hy297 ?hr297
    case hy297 => (intro _ hSw; (try dsimp only at hSw); have hc := cell_of (i := 0) (v := two b.ba) hSw.2.1 rfl; go_simp <;> with_reducible rfl)
    simp only [Act.put, z1', z2', z3']
    refine' tk 4 ⟨some 46, .move (.tmp 1), 3, "law.go:138", #[], none⟩ ?_
    simp only [Act.put, z1', z2', z3']
    refine' tk 5 ⟨some 47, .binOp .sub 3 (.const (.int .i64 1)) (.tmp 46) 3, 3, "law.go:138", #[⟨4, .data⟩], none⟩ ?_
    simp only [Act.put, z1', z2', z3']
    refine' tk 6 ⟨some 48, .indexAddr 42 (.tmp 45) (.tmp 47), 0, "law.go:138", #[⟨3, .data⟩, ⟨5, .data⟩], none⟩ ?_
    simp only [Act.put, z1', z2', z3']
    refine' tv 7 ⟨some 49, .load 28 (.tmp 48), 28, "law.go:138", #[⟨6, .data⟩], none⟩ ?hy301 ?hr301
    case hy301 => (intro _ hSw; (try dsimp only at hSw); have hc := cell_of (i := 0) (v := ptr b.p0) hSw.2.2 rfl; go_simp <;> with_reducible rfl)
    simp only [Act.put, z1', z2', z3']
    refine' tv 8 ⟨some 50, .load 25 (.tmp 7), 25, "law.go:138", #[], none⟩ ?hy302 ?hr302
    case hy302 => (intro _ hSw; (try dsimp only at hSw); obtain ⟨⟨y0, y1, y2, y3, y4, y5, y6⟩, -⟩ := cells7 hSw.1; go_simp <;> with_reducible rfl)
    simp only [Act.put, z1', z2', z3']
    clear hHeld
    have hA4 : w2.drew.heap[fb]? = some (.cells #[.int .u8 0, .bool fc, .int .u8 (fk : Int), .bool fpf, .int .u8 (fns : Int), .int .u8 (fnr : Int), .string fi] TF (0, 0)) := hA3
    clear hA3
    generalize w2.drew = w3 at H3 hA4 ⊢
    have HS3 := Lib.hid (show w3.heap[fb]? = some (.cells #[.int .u8 0, .bool fc, .int .u8 (fk : Int), .bool fpf, .int .u8 (fns : Int), .int .u8 (fnr : Int), .string fi] TF (0, 0)) ∧ w3.heap[b.tb]? = some (.cells #[two b.ba, two b.bl, two b.bu, two b.bk, .bool x.bad] 46 (0, 0)) ∧ w3.heap[b.ba]? = some (.cells #[ptr b.p0, ptr b.p1] 28 (0, 0)) from ⟨hA4, H3.out.blk, H3.out.a⟩)
    have HF3 := Lib.hid (show b.p0 ≠ fb ∧ b.p1 ≠ fb ∧ (∀ g, q0.ownBlock = some g → g ≠ fb) from ⟨fun e => by have := HX.out.s0.lt; have := HFB.out; omega, fun e => by have := HX.out.s1.lt; have := HFB.out; omega, fun g hg e => by have := (HX.out.s0.q.lt g hg).2; have := HFB.out; omega⟩)
    clear hA4
    refine ry [9, 10] ?_
    refine AllReadyH.cons rfl (fun K hK => ?_) (AllReadyH.cons rfl (fun K hK => ?_) AllReadyH.nil)
    · go_simp
      refine (CH.out _ H3.out.s0).mono ?_
      rintro _ w4 ⟨rfl, u, hd⟩
      have HN := Lib.hid (H3.out.doA hd)
      have HS4 := Lib.hid (show w4.heap[fb]? = some (.cells #[.int .u8 0, .bool fc, .int .u8 (fk : Int), .bool fpf, .int .u8 (fns : Int), .int .u8 (fnr : Int), .string fi] TF (0, 0)) ∧ w4.heap[b.tb]? = some (.cells #[two b.ba, two b.bl, two b.bu, two b.bk, .bool x.bad] 46 (0, 0)) ∧ w4.heap[b.ba]? = some (.cells #[ptr b.p0, ptr b.p1] 28 (0, 0)) from ⟨hd.chg.stays HS3.out.1 (fun e => by rcases e with e | e; exact HF3.out.1 e.symm; exact HF3.out.2.2 _ e rfl), HN.out.blk, HN.out.a⟩)
      go_wp2_with fail
      refine hK.out _ _ HS4.out (fun hNext => ?_)
      clear hd CH H3 HS3 HF3
      clear hK K
      have hHeld := hNext
      clear hNext
      (try simp only [Act.put, z1', z2', z3'])
      refine ry [10] ?_
      refine AllReadyH.cons rfl (fun K hK => ?_) AllReadyH.nil
      go_simp
      refine hK.out _ _ ⟨stays HS4.out.1 (nest_below w4 [noM TA]), stays HS4.out.2.1 (nest_below w4 [noM TA]), stays HS4.out.2.2 (nest_below w4 [noM TA])⟩ (fun hNext => ?_)
      clear hHeld
      clear hK K
      have hHeld := hNext
      clear hNext
      (try simp only [Act.put, z1', z2', z3'])
      have H5 := Lib.hid (HN.out.on (show Below w4.heap.size w4 (w4.alloc (.cells #[.string mi, .bool true, .int .i64 (ma : Int), .bool false] TA (0, 0))) from nest_below w4 [_]))
      have hac : (w4.alloc (.cells #[.string mi, .bool true, .int .i64 (ma : Int), .bool false] TA (0, 0))).heap[w4.heap.size]? = some (.cells #[.string mi, .bool true, .int .i64 (ma : Int), .bool false] TA (0, 0)) := nest w4 [_] 0 _ rfl
      refine ry [11] ?_
      refine AllReadyH.cons rfl (fun K hK => ?_) AllReadyH.nil
      go_simp
      go_wp2_with fail
      refine hK.out _ _ ⟨stays HS4.out.1 (nest_below w4 [(.cells #[.string mi, .bool true, .int .i64 (ma : Int), .bool false] TA (0, 0))]), H5.out.blk, H5.out.a⟩ (fun hNext => ?_)
      clear hHeld
      clear hK K
      have hHeld := hNext
      clear hNext
      (try simp only [Act.put, z1', z2', z3'])
      refine wpAnyH_done (by kernel_rfl) ?_ _
      clear hHeld
      have HK2 := Lib.hid (show b.bk ≠ w4.heap.size from fun e => by have := lt_heap HN.out.k; omega)
      clear HS4 HN
      generalize w4.alloc (.cells #[.string mi, .bool true, .int .i64 (ma : Int), .bool false] TA (0, 0)) = w5 at H5 hac ⊢
      generalize w4.heap.size = ab at hac HK2 ⊢
      generalize retag w3 tag2 5 = tag5 at H5
      obtain ⟨⟨a0, a1, a2, a3⟩, af⟩ := cells4 hac
      have hmi := HM.out
      go_wp2_with fail
      have H6 := Lib.hid (H5.out.on (w' := w5.drew) ⟨rfl, rfl, rfl, Nat.le_refl _, fun _ _ => rfl⟩)
      have hac3 : w5.drew.heap[ab]? = some (.cells #[.string mi, .bool true, .int .i64 (ma : Int), .bool false] TA (0, 0)) := hac
      clear a0 a1 a2 a3 af hac H5
      refine wp_region_held_drew (S := (fun w' => w'.heap[ab]? = some (.cells #[.string mi, .bool true, .int .i64 (ma : Int), .bool false] TA (0, 0)) ∧ w'.heap[b.tb]? = some (.cells #[two b.ba, two b.bl, two b.bu, two b.bk, .bool x.bad] 46 (0, 0)) ∧ w'.heap[b.bk]? = some (.cells #[nm x.k0, nm x.k1] 3 (0, 0)))) (by kernel_rfl) ⟨hac3, H6.out.blk, H6.out.k⟩ (fun hHeld => ?_)
      refine' tk 0 ⟨some 59, .fieldAddr 56 (.tmp 8) 0, 0, "law.go:143", #[], none⟩ ?_
      simp only [Act.put, z1', z2', z3']
      refine' tv 1 ⟨some 60, .load 9 (.tmp 59), 9, "law.go:143", #[⟨0, .data⟩], none⟩ ?hy304 ?hr304
      case hy304 => (intro _ hSw; (try dsimp only at hSw); obtain ⟨⟨y0, y1, y2, y3⟩, -⟩ := cells4 hSw.1; go_simp <;> with_reducible rfl)
      simp only [Act.put, z1', z2', z3']
      refine' tk 2 ⟨some 61, .move (.tmp 0), 40, "law.go:143", #[], none⟩ ?_
      simp only [Act.put, z1', z2', z3']
      refine' tk 3 ⟨some 62, .nilCheck (.tmp 61), 0, "law.go:143", #[⟨2, .data⟩], none⟩ ?_
      simp only [Act.put, z1', z2', z3']
      refine' tk 4 ⟨some 63, .fieldAddr 46 (.tmp 62) 3, 0, "law.go:143", #[⟨3, .data⟩], none⟩ ?_
      simp only [Act.put, z1', z2', z3']
      refine' tv 5 ⟨some 64, .load 44 (.tmp 63), 44, "law.go:143", #[⟨4, .data⟩], none⟩ ?hy308 ?hr308
      case hy308 => (intro _ hSw; (try dsimp only at hSw); have hc := cell_of (i := 3) (v := two b.bk) hSw.2.1 rfl; go_simp <;> with_reducible rfl)
      simp only [Act.put, z1', z2', z3']
      refine' tk 6 ⟨some 65, .move (.tmp 1), 3, "law.go:143", #[], none⟩ ?_
      simp only [Act.put, z1', z2', z3']
      refine' tk 7 ⟨some 66, .indexAddr 44 (.tmp 64) (.tmp 65), 0, "law.go:143", #[⟨5, .data⟩, ⟨6, .data⟩], none⟩ ?_
      simp only [Act.put, z1', z2', z3']
      refine' tv 8 ⟨some 67, .load 3 (.tmp 66), 3, "law.go:143", #[⟨7, .data⟩], none⟩ ?hy311 ?hr311
      case hy311 => (intro _ hSw; (try dsimp only at hSw); have hc := cell_of (i := 1) (v := nm x.k1) hSw.2.2 rfl; go_simp <;> with_reducible rfl)
      simp only [Act.put, z1', z2', z3']
      clear hHeld
      generalize w5.drew = w6 at H6 hac3 ⊢
      refine ry [9] ?_
      refine AllReadyH.cons rfl (fun K hK => ?_) AllReadyH.nil
      go_simp
      refine (finf x.k1 HKB.out _).mono ?_
      rintro _ w7 ⟨rfl, hb⟩
      have H7 := Lib.hid (H6.out.on hb)
      have hac7 := stays hac3 hb
      clear hb hac3 H6
      go_wp2_with fail
      refine hK.out _ _ ⟨hac7, H7.out.blk, H7.out.k⟩ (fun hNext => ?_)
      clear hK K
      have hHeld := hNext
      clear hNext
      (try simp only [Act.put, z1', z2', z3'])
      subst hmi
      have b1 : ((inf x.k1).toList == (inf x.k1).toList) = true := by simp
      have b2 : ((inf x.k1).toList != (inf x.k1).toList) = false := by simp
      generalize inf x.k1 = st at b1 b2 hHeld hac7 ⊢
      refine' tk 10 ⟨some 69, .binOp .neq 9 (.tmp 60) (.tmp 68) 9, 4, "law.go:143", #[⟨1, .data⟩, ⟨9, .data⟩], none⟩ ?_
      simp only [Act.put, z1', z2', z3']
      refine wpAnyH_done (by kernel_rfl) ?_ _
      clear hHeld
      have c3 : w7.cell? ⟨b.tb, 3, none⟩ = some (two b.bk) := cell_of H7.out.blk rfl
      have ck : w7.cell? ⟨b.bk, 1, none⟩ = some (nm x.k1) := cell_of H7.out.k rfl
      have fk2 : ∀ i, w7.frozen? ⟨b.bk, i, none⟩ = false := fun _ => free_of H7.out.k
      have vk : IntKind.i64.wrap ((x.k1 : Int) + 1) = ((x.k1 + 1 : Nat) : Int) := by have := HKB.out; rw [IntKind.wrap_i64]; omega
      have H8 := Lib.hid (H7.out.put_k x.k0 (x.k1 + 1) (chg_cell w7 b.bk 1 (nm (x.k1 + 1))) (block_set (i := 1) H7.out.k _))
      clear H7 hac7
      obtain ⟨kn, hkn⟩ : ∃ kn, x.k1 + 1 = kn := ⟨_, rfl⟩
      rw [hkn] at vk H8
      have HKN := Lib.hid hkn
      clear hkn
      go_wp2
      go_ret
      have hkn := HKN.out
      clear HKN
      subst hkn
      exact ⟨rfl, _, _, _, _, _, H8.out⟩
    · go_simp
      refine hK.out _ _ ⟨stays HS3.out.1 (nest_below w3 [noM TA]), stays HS3.out.2.1 (nest_below w3 [noM TA]), stays HS3.out.2.2 (nest_below w3 [noM TA])⟩ (fun hNext => ?_)
      clear hK K
      have hHeld := hNext
      clear hNext
      (try simp only [Act.put, z1', z2', z3'])
      have H4 := Lib.hid ((H3.out.mark 9).on (show Below w3.heap.size w3 (w3.alloc (noM TA)) from nest_below w3 [_]))
      have HT4 := Lib.hid (show retag w3 tag2 9 w3.heap.size = 9 from retag_new (Nat.le_refl _))
      generalize retag w3 tag2 9 = tag4 at H4 HT4
      have hn4 : (w3.alloc (noM TA)).heap[w3.heap.size]? = some (noM TA) := nest w3 [_] 0 _ rfl
      have hs4 := size_alloc w3 (noM TA)
      have HS4 := Lib.hid (show (w3.alloc (noM TA)).heap[fb]? = some (.cells #[.int .u8 0, .bool fc, .int .u8 (fk : Int), .bool fpf, .int .u8 (fns : Int), .int .u8 (fnr : Int), .string fi] TF (0, 0)) from stays HS3.out.1 (nest_below w3 [noM TA]))
      refine ry [9] ?_
      refine AllReadyH.cons rfl (fun K hK => ?_) AllReadyH.nil
      go_simp
      refine (CH.out _ H4.out.s0).mono ?_
      rintro _ w4 ⟨rfl, u, hd⟩
      have HN := Lib.hid (H4.out.doA hd)
      have hn5 : w4.heap[w3.heap.size]? = some (noM TA) := hd.chg.stays hn4 (fun e => by
        rcases e with e | e
        · have := H4.out.t5; have := HT4.out; rw [e] at this; omega
        · have := H4.out.o0 _ e; have := HT4.out; omega)
      have hf5 : w4.heap[fb]? = some (.cells #[.int .u8 0, .bool fc, .int .u8 (fk : Int), .bool fpf, .int .u8 (fns : Int), .int .u8 (fnr : Int), .string fi] TF (0, 0)) := hd.chg.stays HS4.out (fun e => by
        rcases e with e | e
        · exact HF3.out.1 e.symm
        · exact HF3.out.2.2 _ e rfl)
      have htn : retag (w3.alloc (noM TA)) tag4 5 w3.heap.size = 9 := by rw [retag_old (by omega)]; exact HT4.out
      go_wp2_with fail
      refine hK.out _ _ ⟨hf5, HN.out.blk, HN.out.a⟩ (fun hNext => ?_)
      clear hd CH hHeld hn4
      clear hK K
      have hHeld := hNext
      clear hNext
      (try simp only [Act.put, z1', z2', z3'])
      obtain ⟨⟨y0, y1, y2, y3⟩, yf⟩ := cells4 hn5
      have hac : ((((w4.setCell ⟨w3.heap.size, 0, none⟩ (.string mi)).setCell ⟨w3.heap.size, 1, none⟩ (.bool true)).setCell ⟨w3.heap.size, 2, none⟩ (.int .i64 (ma : Int))).setCell ⟨w3.heap.size, 3, none⟩ (.bool false)).heap[w3.heap.size]? = some (.cells #[.string mi, .bool true, .int .i64 (ma : Int), .bool false] TA (0, 0)) := set4_at hn5 (.string mi) (.bool true) (.int .i64 (ma : Int)) (.bool false)
      have hcc : Chg (fun k => k = w3.heap.size) w4 ((((w4.setCell ⟨w3.heap.size, 0, none⟩ (.string mi)).setCell ⟨w3.heap.size, 1, none⟩ (.bool true)).setCell ⟨w3.heap.size, 2, none⟩ (.int .i64 (ma : Int))).setCell ⟨w3.heap.size, 3, none⟩ (.bool false)) := chg_set4 (S := fun k => k = w3.heap.size) (Chg.refl _ w4) (fun _ => rfl) _ _ _ _
      have H5 := Lib.hid (HN.out.other hcc htn H3.out.below.size)
      refine ry [11] ?_
      refine AllReadyH.cons rfl (fun K hK => ?_) AllReadyH.nil
      go_simp
      go_wp2_with fail
      refine hK.out _ _ ⟨hcc.stays hf5 (fun e => by have := lt_heap HS3.out.1; omega), H5.out.blk, H5.out.a⟩ (fun hNext => ?_)
      clear hHeld
      clear hK K
      have hHeld := hNext
      clear hNext
      (try simp only [Act.put, z1', z2', z3'])
      refine wpAnyH_done (by kernel_rfl) ?_ _
      clear hHeld
      have HK2 := Lib.hid (show b.bk ≠ w3.heap.size from fun e => by have := lt_heap H3.out.k; omega)
      clear HS3 HF3 HS4 HN H4 HT4 hn5 hf5 htn hcc y0 y1 y2 y3 yf hs4 H3
      generalize ((((w4.setCell ⟨w3.heap.size, 0, none⟩ (.string mi)).setCell ⟨w3.heap.size, 1, none⟩ (.bool true)).setCell ⟨w3.heap.size, 2, none⟩ (.int .i64 (ma : Int))).setCell ⟨w3.heap.size, 3, none⟩ (.bool false)) = w5 at H5 hac ⊢
      generalize w3.heap.size = ab at hac HK2 ⊢
      generalize retag (w3.alloc (noM TA)) tag4 5 = tag5 at H5
      obtain ⟨⟨a0, a1, a2, a3⟩, af⟩ := cells4 hac
      have hmi := HM.out
      go_wp2_with fail
      have H6 := Lib.hid (H5.out.on (w' := w5.drew) ⟨rfl, rfl, rfl, Nat.le_refl _, fun _ _ => rfl⟩)
      have hac3 : w5.drew.heap[ab]? = some (.cells #[.string mi, .bool true, .int .i64 (ma : Int), .bool false] TA (0, 0)) := hac
      clear a0 a1 a2 a3 af hac H5
      refine wp_region_held_drew (S := (fun w' => w'.heap[ab]? = some (.cells #[.string mi, .bool true, .int .i64 (ma : Int), .bool false] TA (0, 0)) ∧ w'.heap[b.tb]? = some (.cells #[two b.ba, two b.bl, two b.bu, two b.bk, .bool x.bad] 46 (0, 0)) ∧ w'.heap[b.bk]? = some (.cells #[nm x.k0, nm x.k1] 3 (0, 0)))) (by kernel_rfl) ⟨hac3, H6.out.blk, H6.out.k⟩ (fun hHeld => ?_)
      refine' tk 0 ⟨some 59, .fieldAddr 56 (.tmp 8) 0, 0, "law.go:143", #[], none⟩ ?_
      simp only [Act.put, z1', z2', z3']
      refine' tv 1 ⟨some 60, .load 9 (.tmp 59), 9, "law.go:143", #[⟨0, .data⟩], none⟩ ?hy314 ?hr314
      case hy314 => (intro _ hSw; (try dsimp only at hSw); obtain ⟨⟨y0, y1, y2, y3⟩, -⟩ := cells4 hSw.1; go_simp <;> with_reducible rfl)
      simp only [Act.put, z1', z2', z3']
      refine' tk 2 ⟨some 61, .move (.tmp 0), 40, "law.go:143", #[], none⟩ ?_
      simp only [Act.put, z1', z2', z3']
      refine' tk 3 ⟨some 62, .nilCheck (.tmp 61), 0, "law.go:143", #[⟨2, .data⟩], none⟩ ?_
      simp only [Act.put, z1', z2', z3']
      refine' tk 4 ⟨some 63, .fieldAddr 46 (.tmp 62) 3, 0, "law.go:143", #[⟨3, .data⟩], none⟩ ?_
      simp only [Act.put, z1', z2', z3']
      refine' tv 5 ⟨some 64, .load 44 (.tmp 63), 44, "law.go:143", #[⟨4, .data⟩], none⟩ ?hy318 ?hr318
      case hy318 => (intro _ hSw; (try dsimp only at hSw); have hc := cell_of (i := 3) (v := two b.bk) hSw.2.1 rfl; go_simp <;> with_reducible rfl)
      simp only [Act.put, z1', z2', z3']
      refine' tk 6 ⟨some 65, .move (.tmp 1), 3, "law.go:143", #[], none⟩ ?_
      simp only [Act.put, z1', z2', z3']
      refine' tk 7 ⟨some 66, .indexAddr 44 (.tmp 64) (.tmp 65), 0, "law.go:143", #[⟨5, .data⟩, ⟨6, .data⟩], none⟩ ?_
      simp only [Act.put, z1', z2', z3']
      refine' tv 8 ⟨some 67, .load 3 (.tmp 66), 3, "law.go:143", #[⟨7, .data⟩], none⟩ ?hy321 ?hr321
      case hy321 => (intro _ hSw; (try dsimp only at hSw); have hc := cell_of (i := 1) (v := nm x.k1) hSw.2.2 rfl; go_simp <;> with_reducible rfl)
      simp only [Act.put, z1', z2', z3']
      clear hHeld
      generalize w5.drew = w6 at H6 hac3 ⊢
      refine ry [9] ?_
      refine AllReadyH.cons rfl (fun K hK => ?_) AllReadyH.nil
      go_simp
      refine (finf x.k1 HKB.out _).mono ?_
      rintro _ w7 ⟨rfl, hb⟩
      have H7 := Lib.hid (H6.out.on hb)
      have hac7 := stays hac3 hb
      clear hb hac3 H6
      go_wp2_with fail
      refine hK.out _ _ ⟨hac7, H7.out.blk, H7.out.k⟩ (fun hNext => ?_)
      clear hK K
      have hHeld := hNext
      clear hNext
      (try simp only [Act.put, z1', z2', z3'])
      subst hmi
      have b1 : ((inf x.k1).toList == (inf x.k1).toList) = true := by simp
      have b2 : ((inf x.k1).toList != (inf x.k1).toList) = false := by simp
      generalize inf x.k1 = st at b1 b2 hHeld hac7 ⊢
      refine' tk 10 ⟨some 69, .binOp .neq 9 (.tmp 60) (.tmp 68) 9, 4, "law.go:143", #[⟨1, .data⟩, ⟨9, .data⟩], none⟩ ?_
      simp only [Act.put, z1', z2', z3']
      refine wpAnyH_done (by kernel_rfl) ?_ _
      clear hHeld
      have c3 : w7.cell? ⟨b.tb, 3, none⟩ = some (two b.bk) := cell_of H7.out.blk rfl
      have ck : w7.cell? ⟨b.bk, 1, none⟩ = some (nm x.k1) := cell_of H7.out.k rfl
      have fk2 : ∀ i, w7.frozen? ⟨b.bk, i, none⟩ = false := fun _ => free_of H7.out.k
      have vk : IntKind.i64.wrap ((x.k1 : Int) + 1) = ((x.k1 + 1 : Nat) : Int) := by have := HKB.out; rw [IntKind.wrap_i64]; omega
      have H8 := Lib.hid (H7.out.put_k x.k0 (x.k1 + 1) (chg_cell w7 b.bk 1 (nm (x.k1 + 1))) (block_set (i := 1) H7.out.k _))
      clear H7 hac7
      obtain ⟨kn, hkn⟩ : ∃ kn, x.k1 + 1 = kn := ⟨_, rfl⟩
      rw [hkn] at vk H8
      have HKN := Lib.hid hkn
      clear hkn
      go_wp2
      go_ret
      have hkn := HKN.out
      clear HKN
      subst hkn
      exact ⟨rfl, _, _, _, _, _, H8.out⟩
end Go.Proofs.Ytkoaplmlabagnaa.Aq
