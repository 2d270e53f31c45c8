/-
  The law's n-th information; a side's next frame goes onto its line. Condition: they lie where they say; at most a thousand frames wait.
-/
import Derived.Test.YtkoaplmlabagnaaTk
import Derived.Test.YtkoaplmlabagnaaAqPr
import Derived.Deep.RegionHeld
namespace Go.Proofs.Ytkoaplmlabagnaa.Aq
open Go.RowKit Go.Proofs.Ytkoaplmlabagnaa.Base Go.Proofs.Ytkoaplmlabagnaa.Mem
/-- A pair lies in memory, wherever its parts are. -/
def PrE (w0 : World) (b : Bk) (x : Pr) (w : World) : Prop := ∃ q0 q1 v0 v1 tag, PrAt w0 b x q0 q1 v0 v1 tag w
theorem PrE.on {w0 w w' : World} {b : Bk} {x : Pr} (h : PrE w0 b x w) (hb : Below w.heap.size w w') : PrE w0 b x w' := by
  obtain ⟨q0, q1, v0, v1, tag, h⟩ := h
  exact ⟨q0, q1, v0, v1, tag, h.on hb⟩
set_option maxHeartbeats 2000000 in
theorem finf (n : Nat) (hn : n ≤ 1000000) (w : World) : Calls Try.prog 36 #[.int .i64 (n : Int)] w fun e w' => e = .returned (.string (inf n)) ∧ Below w.heap.size w w' := by
  obtain ⟨x, hx⟩ : ∃ x, (n / 256) % 256 = x := ⟨_, rfl⟩
  obtain ⟨y, hy⟩ : ∃ y, n % 256 = y := ⟨_, rfl⟩
  obtain ⟨z, hz⟩ : ∃ z, n / 256 = z := ⟨_, rfl⟩
  have q0 : (n : Int) / 256 = (z : Int) := by omega
  have q1 : IntKind.u8.wrap (z : Int) = (x : Int) := by rw [IntKind.wrap_u8]; omega
  have q2 : IntKind.u8.wrap (n : Int) = (y : Int) := by rw [IntKind.wrap_u8]; omega
  have hb : (w.alloc (.cells #[.int .u8 (x : Int), .int .u8 (y : Int)] 5)).heap[w.heap.size]? = some (.cells #[.int .u8 (x : Int), .int .u8 (y : Int)] 5 (0, 0)) := nest w [_] 0 _ rfl
  have hc := conv_at2 (w.alloc (.cells #[.int .u8 (x : Int), .int .u8 (y : Int)] 5)) w.heap.size (x : Int) (y : Int) (cell_of hb rfl) (cell_of hb rfl)
  have hr : (⟨#[UInt8.ofNat (x : Int).toNat, UInt8.ofNat (y : Int).toNat]⟩ : ByteArray) = inf n := by
    unfold inf
    rw [Int.toNat_natCast, Int.toNat_natCast, ← hx, ← hy]
    congr 2
    have e1 : UInt8.ofNat (n / 256 % 256) = UInt8.ofNat (n / 256) := by apply UInt8.toNat_inj.1; simp
    have e2 : UInt8.ofNat (n % 256) = UInt8.ofNat n := by apply UInt8.toNat_inj.1; simp
    rw [e1, e2]
  have HR := Lib.hid hr
  have HB : Hid (Below w.heap.size w (w.alloc (.cells #[.int .u8 (x : Int), .int .u8 (y : Int)] 5))) := Lib.hid (nest_below w [_])
  clear hx hy hz hb hr
  go_enter Try.func36, Try.ntmps36
  go_wp2
  go_ret
  exact ⟨by rw [← HR.out]; rfl, HB.out⟩
set_option maxHeartbeats 8000000 in
set_option maxRecDepth 100000 in
theorem fsend0_of (w0 w : World) (b : Bk) (x : Pr) (N : Nat) (h : PrE w0 b x w) (hI : Inv N x.A) (hL : x.L0.length ≤ 1000) (A2 : Sd) (fc : Bool) (fk : Nat) (fpf : Bool) (fns fnr : Nat) (fi : ByteArray) (ok : Bool) (hr : next x.A = (A2, ⟨fc, fk, fpf, fns, fnr, fi⟩, ok)) :
    Calls Try.prog 37 #[ptr b.tb, .int .i64 0] w fun e w' => e = .returned (.bool ok) ∧ PrE w0 b { x with A := A2, L0 := if ok = true then x.L0 ++ [⟨⟨fc, fk, fpf, fns, fnr, fi⟩, x.A.s, x.A.g⟩] else x.L0 } w' := by
  obtain ⟨q0, q1, v0, v1, tag, h⟩ := h
  have HX := Lib.hid h
  have CN : Hid (Calls Try.prog 19 #[ptr b.p0] w fun e w' => e = .returned (.tuple #[.agg #[.int .u8 0, .bool fc, .int .u8 (fk : Int), .bool fpf, .int .u8 (fns : Int), .int .u8 (fnr : Int), .string fi], .bool ok]) ∧ ADo b.p0 (Ps.of A2) q0 w w') := by
    have := fnext w b.p0 (Ps.of x.A) q0 h.s0 hI.pfit
    rw [next_of x.A hI.ord, hr] at this
    exact Lib.hid this
  have c0 : w.cell? ⟨b.tb, 0, none⟩ = some (two b.ba) := cell_of h.blk rfl
  have e0 : w.cell? ⟨b.ba, 0, none⟩ = some (ptr b.p0) := cell_of h.a rfl
  have HL := Lib.hid hL
  clear h hI hr hL
  go_enter Try.func37, Try.ntmps37
  go_wp2_with fail
  refine CN.out.mono ?_
  rintro _ w1 ⟨rfl, hd⟩
  have H1 := Lib.hid (HX.out.doA (QDo.of hd))
  clear hd CN HX c0 e0
  generalize retag w tag 5 = tag1 at H1
  have H2 := Lib.hid (H1.out.on (show Below w1.heap.size w1 (w1.alloc (.cells #[.int .u8 0, .bool fc, .int .u8 (fk : Int), .bool fpf, .int .u8 (fns : Int), .int .u8 (fnr : Int), .string fi] TF (0, 0))) from nest_below w1 [_]))
  have hf0 : (w1.alloc (.cells #[.int .u8 0, .bool fc, .int .u8 (fk : Int), .bool fpf, .int .u8 (fns : Int), .int .u8 (fnr : Int), .string fi] TF (0, 0))).heap[w1.heap.size]? = some (.cells #[.int .u8 0, .bool fc, .int .u8 (fk : Int), .bool fpf, .int .u8 (fns : Int), .int .u8 (fnr : Int), .string fi] TF (0, 0)) := nest w1 [_] 0 _ rfl
  have hfb := (lt_heap H1.out.blk)
  cases ok
  · go_wp2
    go_ret
    exact ⟨rfl, _, _, _, _, _, H2.out⟩
  · obtain ⟨oa, cap, hv⟩ := H1.out.l0.form
    rw [List.length_map] at hv
    have HV := Lib.hid hv
    clear hv
    go_wp2_with fail
    generalize hfn : w1.heap.size = fb at hf0 hfb ⊢
    have HFN := Lib.hid hfn
    clear hfn
    generalize w1.alloc (.cells #[.int .u8 0, .bool fc, .int .u8 (fk : Int), .bool fpf, .int .u8 (fns : Int), .int .u8 (fnr : Int), .string fi] TF (0, 0)) = w2 at H2 hf0 ⊢
    have H3 := Lib.hid (H2.out.on (w' := w2.drew) ⟨rfl, rfl, rfl, Nat.le_refl _, fun _ _ => rfl⟩)
    have hf3 : w2.drew.heap[fb]? = some (.cells #[.int .u8 0, .bool fc, .int .u8 (fk : Int), .bool fpf, .int .u8 (fns : Int), .int .u8 (fnr : Int), .string fi] TF (0, 0)) := hf0
    clear H2 hf0
    refine wp_region_held_drew (S := (fun w' => w'.heap[fb]? = some (.cells #[.int .u8 0, .bool fc, .int .u8 (fk : Int), .bool fpf, .int .u8 (fns : Int), .int .u8 (fnr : Int), .string fi] TF (0, 0)) ∧ w'.heap[b.tb]? = some (.cells #[two b.ba, two b.bl, two b.bu, two b.bk, .bool x.bad] 46 (0, 0)))) (by kernel_rfl) ⟨hf3, H3.out.blk⟩ (fun hHeld => ?_)
    refine' tk 0 ⟨some 19, .move (.tmp 0), 40, "law.go:123", #[], none⟩ ?_
    simp only [Act.put, z1', z2', z3']
    refine' tk 1 ⟨some 20, .nilCheck (.tmp 19), 0, "law.go:123", #[⟨0, .data⟩], none⟩ ?_
    simp only [Act.put, z1', z2', z3']
    refine' tk 2 ⟨some 21, .fieldAddr 46 (.tmp 20) 1, 0, "law.go:123", #[⟨1, .data⟩], none⟩ ?_
    simp only [Act.put, z1', z2', z3']
    refine' tv 3 ⟨some 22, .load 43 (.tmp 21), 43, "law.go:123", #[⟨2, .data⟩], none⟩ ?hy4 ?hr4
    case hy4 => (intro _ hSw; (try dsimp only at hSw); have hc := cell_of (i := 1) (v := two b.bl) hSw.2 rfl; go_simp <;> with_reducible rfl)
    simp only [Act.put, z1', z2', z3']
    refine' tk 4 ⟨some 23, .move (.tmp 1), 3, "law.go:123", #[], none⟩ ?_
    simp only [Act.put, z1', z2', z3']
    refine' tk 5 ⟨some 24, .move (.tmp 0), 40, "law.go:123", #[], none⟩ ?_
    simp only [Act.put, z1', z2', z3']
    refine' tk 6 ⟨some 25, .nilCheck (.tmp 24), 0, "law.go:123", #[⟨5, .data⟩], none⟩ ?_
    simp only [Act.put, z1', z2', z3']
    refine' tk 7 ⟨some 26, .fieldAddr 46 (.tmp 25) 1, 0, "law.go:123", #[⟨6, .data⟩], none⟩ ?_
    simp only [Act.put, z1', z2', z3']
    refine' tv 8 ⟨some 27, .load 43 (.tmp 26), 43, "law.go:123", #[⟨7, .data⟩], none⟩ ?hy9 ?hr9
    case hy9 => (intro _ hSw; (try dsimp only at hSw); have hc := cell_of (i := 1) (v := two b.bl) hSw.2 rfl; go_simp <;> with_reducible rfl)
    simp only [Act.put, z1', z2', z3']
    refine' tk 9 ⟨some 28, .move (.tmp 1), 3, "law.go:123", #[], none⟩ ?_
    simp only [Act.put, z1', z2', z3']
    refine' tk 10 ⟨some 29, .indexAddr 43 (.tmp 27) (.tmp 28), 0, "law.go:123", #[⟨8, .data⟩, ⟨9, .data⟩], none⟩ ?_
    simp only [Act.put, z1', z2', z3']
    refine' tv 12 ⟨some 31, .load 25 (.tmp 5), 25, "law.go:123", #[], none⟩ ?hy12 ?hr12
    case hy12 => (intro _ hSw; (try dsimp only at hSw); obtain ⟨⟨z0, z1, z2, z3, z4, z5, z6⟩, -⟩ := cells7 hSw.1; go_simp <;> with_reducible rfl)
    simp only [Act.put, z1', z2', z3']
    clear hHeld
    have hf4 : w2.drew.heap[fb]? = some (.cells #[.int .u8 0, .bool fc, .int .u8 (fk : Int), .bool fpf, .int .u8 (fns : Int), .int .u8 (fnr : Int), .string fi] TF (0, 0)) := hf3
    clear hf3
    generalize w2.drew = w3 at H3 hf4 ⊢
    have HS3 := Lib.hid (show w3.heap[fb]? = some (.cells #[.int .u8 0, .bool fc, .int .u8 (fk : Int), .bool fpf, .int .u8 (fns : Int), .int .u8 (fnr : Int), .string fi] TF (0, 0)) ∧ w3.heap[b.tb]? = some (.cells #[two b.ba, two b.bl, two b.bu, two b.bk, .bool x.bad] 46 (0, 0)) from ⟨hf4, H3.out.blk⟩)
    have HF4 := Lib.hid hf4
    have cl : w3.cell? ⟨b.bl, 0, none⟩ = some (.slice oa x.L0.length cap) := by rw [← HV.out]; exact cell_of H3.out.l rfl
    clear hf4
    refine ry [11, 13] ?_
    refine AllReadyH.cons rfl (fun K hK => ?_) (AllReadyH.cons rfl (fun K hK => ?_) AllReadyH.nil)
    · go_simp
      refine hK.out _ _ HS3.out (fun hNext => ?_)
      clear hK K
      have hHeld := hNext
      clear hNext
      (try simp only [Act.put, z1', z2', z3'])
      refine ry [13] ?_
      refine AllReadyH.cons rfl (fun K hK => ?_) AllReadyH.nil
      go_simp
      refine hK.out _ _ ⟨stays HS3.out.1 (nest_below w3 [(.cells #[.int .u8 0, .bool fc, .int .u8 (fk : Int), .bool fpf, .int .u8 (fns : Int), .int .u8 (fnr : Int), .string fi] TF (0, 0))]), stays HS3.out.2 (nest_below w3 [(.cells #[.int .u8 0, .bool fc, .int .u8 (fk : Int), .bool fpf, .int .u8 (fns : Int), .int .u8 (fnr : Int), .string fi] TF (0, 0))])⟩ (fun hNext => ?_)
      clear hHeld
      clear hK K
      have hHeld := hNext
      clear hNext
      (try simp only [Act.put, z1', z2', z3'])
      have H4 := Lib.hid (H3.out.on (show Below w3.heap.size w3 (w3.alloc (.cells #[.int .u8 0, .bool fc, .int .u8 (fk : Int), .bool fpf, .int .u8 (fns : Int), .int .u8 (fnr : Int), .string fi] TF (0, 0))) from nest_below w3 [_]))
      have HSR : Hid (Src Try.prog 7 88 (.slice (some ⟨w3.heap.size, 0, none⟩) 1 1) 1 ([(⟨fc, fk, fpf, fns, fnr, fi⟩ : Fm)].flatMap fcF) (w3.alloc (.cells #[.int .u8 0, .bool fc, .int .u8 (fk : Int), .bool fpf, .int .u8 (fns : Int), .int .u8 (fnr : Int), .string fi] TF (0, 0)))) := by
        refine srcz_at eltF _ w3.heap.size 0 1 1 [_] rfl (fun j y hj k hk => ?_)
        have hlt := (List.getElem?_eq_some_iff.1 hj).1
        simp only [List.length_cons, List.length_nil] at hlt
        obtain rfl : j = 0 := by omega
        have hy := (Option.some.inj hj).symm
        rw [hy]
        have hb : (w3.alloc (.cells #[.int .u8 0, .bool fc, .int .u8 (fk : Int), .bool fpf, .int .u8 (fns : Int), .int .u8 (fnr : Int), .string fi] TF (0, 0))).heap[w3.heap.size]? = some (.cells #[.int .u8 0, .bool fc, .int .u8 (fk : Int), .bool fpf, .int .u8 (fns : Int), .int .u8 (fnr : Int), .string fi] TF (0, 0)) := nest w3 [_] 0 _ rfl
        match k, hk with
        | 0, _ => exact cell_of hb rfl
        | 1, _ => exact cell_of hb rfl
        | 2, _ => exact cell_of hb rfl
        | 3, _ => exact cell_of hb rfl
        | 4, _ => exact cell_of hb rfl
        | 5, _ => exact cell_of hb rfl
        | 6, _ => exact cell_of hb rfl
      obtain ⟨u, w4, hr, hq, hg, ho⟩ := run_append_q eltF (w3.alloc (.cells #[.int .u8 0, .bool fc, .int .u8 (fk : Int), .bool fpf, .int .u8 (fns : Int), .int .u8 (fnr : Int), .string fi] TF (0, 0))) 88 w0.heap.size v0 (x.L0.map Gf.f) H4.out.l0 _ 1 [(⟨fc, fk, fpf, fns, fnr, fi⟩ : Fm)] rfl HSR.out (by decide) (by rw [List.length_map]; have := HL.out; omega) H4.out.below.size
      rw [HV.out] at hr
      have hq2 : Qz 7 fcF w4 w0.heap.size u ((x.L0 ++ [(⟨⟨fc, fk, fpf, fns, fnr, fi⟩, x.A.s, x.A.g⟩ : Gf)]).map Gf.f) := by rw [List.map_append]; exact hq
      have HP := Lib.hid (H4.out.put0 hg hq2 (ho.imp id fun e => Or.inr ⟨_, e, Nat.le_refl _⟩))
      have hb4 : w4.heap[b.bl]? = some (.cells #[v0, v1] 88 (0, 0)) := (hg.block _ (lt_heap H4.out.l) (fun e => by have := (H4.out.o7 _ e.symm).symm.trans H4.out.tl; omega)).trans H4.out.l
      have hS4 : w4.heap[fb]? = some (.cells #[.int .u8 0, .bool fc, .int .u8 (fk : Int), .bool fpf, .int .u8 (fns : Int), .int .u8 (fnr : Int), .string fi] TF (0, 0)) ∧ w4.heap[b.tb]? = some (.cells #[two b.ba, two b.bl, two b.bu, two b.bk, .bool x.bad] 46 (0, 0)) := ⟨(hg.block _ (lt_heap (stays HF4.out (nest_below w3 [(.cells #[.int .u8 0, .bool fc, .int .u8 (fk : Int), .bool fpf, .int .u8 (fns : Int), .int .u8 (fnr : Int), .string fi] TF (0, 0))]))) (fun e => by have := (H1.out.l0.lt _ e.symm).2; have := HFN.out; omega)).trans (stays HF4.out (nest_below w3 [(.cells #[.int .u8 0, .bool fc, .int .u8 (fk : Int), .bool fpf, .int .u8 (fns : Int), .int .u8 (fnr : Int), .string fi] TF (0, 0))])), (hg.block _ (lt_heap H4.out.blk) (fun e => by have := (H4.out.o7 _ e.symm).symm.trans H4.out.t0; omega)).trans H4.out.blk⟩
      obtain ⟨ob, ucap, hu⟩ := hq.form
      rw [List.length_append, List.length_map, List.length_singleton] at hu
      refine ry [14] ?_
      refine AllReadyH.cons (o := ⟨some 33, .call ⟨.builtin .append, #[.tmp 30, .tmp 32], #[88, 88]⟩, 88, "law.go:123", #[⟨11, .data⟩, ⟨13, .data⟩], none⟩) rfl (fun K hK => ?_) AllReadyH.nil
      refine step_append_known rfl _ _ _ _ rfl rfl rfl hr ?_
      refine hK.out _ _ hS4 (fun hNext => ?_)
      clear hr HSR hq hq2 hg ho hHeld
      clear hK K
      have hHeld := hNext
      clear hNext
      (try simp only [Act.put, z1', z2', z3'])
      refine' tk 15 ⟨some 34, .indexAddr 43 (.tmp 22) (.tmp 23), 0, "law.go:123", #[⟨3, .data⟩, ⟨4, .data⟩, ⟨0, .phase⟩, ⟨1, .phase⟩, ⟨2, .phase⟩, ⟨3, .phase⟩, ⟨4, .phase⟩, ⟨5, .phase⟩, ⟨6, .phase⟩, ⟨7, .phase⟩, ⟨8, .phase⟩, ⟨9, .phase⟩, ⟨10, .phase⟩, ⟨11, .phase⟩, ⟨12, .phase⟩, ⟨13, .phase⟩, ⟨14, .phase⟩], none⟩ ?_
      simp only [Act.put, z1', z2', z3']
      have HS4 := Lib.hid hS4
      have hbl : b.tb ≠ b.bl := fun e => by have := H1.out.t0; have := H1.out.tl; rw [e] at *; omega
      have hfl : fb ≠ b.bl := fun e => by have := lt_heap H1.out.l; have := HFN.out; omega
      have f0 : ∀ j, w4.frozen? ⟨b.bl, j, none⟩ = false := fun _ => free_of hb4
      have d0 : w4.cell? ⟨b.bl, 0, none⟩ = some v0 := cell_of hb4 rfl
      clear hS4 hHeld hb4 cl
      rw [hu] at HP ⊢
      rw [HV.out] at d0
      refine ry [16] ?_
      refine AllReadyH.cons rfl (fun K hK => ?_) AllReadyH.nil
      go_simp
      refine hK.out _ _ ⟨(set_other hfl _).trans HS4.out.1, (set_other hbl _).trans HS4.out.2⟩ (fun hNext => ?_)
      clear hNext hK K f0 d0
      refine wpAnyH_done (by kernel_rfl) ?_ _
      go_wp2
      go_ret
      exact ⟨rfl, _, _, _, _, _, HP.out⟩
    · go_simp
      have clb : (w3.alloc (.cells #[.int .u8 0, .bool fc, .int .u8 (fk : Int), .bool fpf, .int .u8 (fns : Int), .int .u8 (fnr : Int), .string fi] TF (0, 0))).cell? ⟨b.bl, 0, none⟩ = some (.slice oa x.L0.length cap) := cell_below cl (nest_below w3 [_])
      refine hK.out _ _ ⟨stays HS3.out.1 (nest_below w3 [(.cells #[.int .u8 0, .bool fc, .int .u8 (fk : Int), .bool fpf, .int .u8 (fns : Int), .int .u8 (fnr : Int), .string fi] TF (0, 0))]), stays HS3.out.2 (nest_below w3 [(.cells #[.int .u8 0, .bool fc, .int .u8 (fk : Int), .bool fpf, .int .u8 (fns : Int), .int .u8 (fnr : Int), .string fi] TF (0, 0))])⟩ (fun hNext => ?_)
      clear hK K
      have hHeld := hNext
      clear hNext
      (try simp only [Act.put, z1', z2', z3'])
      refine ry [11] ?_
      refine AllReadyH.cons rfl (fun K hK => ?_) AllReadyH.nil
      go_simp
      refine hK.out _ _ hHeld (fun hNext => ?_)
      clear hHeld clb
      clear hK K
      have hHeld := hNext
      clear hNext
      (try simp only [Act.put, z1', z2', z3'])
      have H4 := Lib.hid (H3.out.on (show Below w3.heap.size w3 (w3.alloc (.cells #[.int .u8 0, .bool fc, .int .u8 (fk : Int), .bool fpf, .int .u8 (fns : Int), .int .u8 (fnr : Int), .string fi] TF (0, 0))) from nest_below w3 [_]))
      have HSR : Hid (Src Try.prog 7 88 (.slice (some ⟨w3.heap.size, 0, none⟩) 1 1) 1 ([(⟨fc, fk, fpf, fns, fnr, fi⟩ : Fm)].flatMap fcF) (w3.alloc (.cells #[.int .u8 0, .bool fc, .int .u8 (fk : Int), .bool fpf, .int .u8 (fns : Int), .int .u8 (fnr : Int), .string fi] TF (0, 0)))) := by
        refine srcz_at eltF _ w3.heap.size 0 1 1 [_] rfl (fun j y hj k hk => ?_)
        have hlt := (List.getElem?_eq_some_iff.1 hj).1
        simp only [List.length_cons, List.length_nil] at hlt
        obtain rfl : j = 0 := by omega
        have hy := (Option.some.inj hj).symm
        rw [hy]
        have hb : (w3.alloc (.cells #[.int .u8 0, .bool fc, .int .u8 (fk : Int), .bool fpf, .int .u8 (fns : Int), .int .u8 (fnr : Int), .string fi] TF (0, 0))).heap[w3.heap.size]? = some (.cells #[.int .u8 0, .bool fc, .int .u8 (fk : Int), .bool fpf, .int .u8 (fns : Int), .int .u8 (fnr : Int), .string fi] TF (0, 0)) := nest w3 [_] 0 _ rfl
        match k, hk with
        | 0, _ => exact cell_of hb rfl
        | 1, _ => exact cell_of hb rfl
        | 2, _ => exact cell_of hb rfl
        | 3, _ => exact cell_of hb rfl
        | 4, _ => exact cell_of hb rfl
        | 5, _ => exact cell_of hb rfl
        | 6, _ => exact cell_of hb rfl
      obtain ⟨u, w4, hr, hq, hg, ho⟩ := run_append_q eltF (w3.alloc (.cells #[.int .u8 0, .bool fc, .int .u8 (fk : Int), .bool fpf, .int .u8 (fns : Int), .int .u8 (fnr : Int), .string fi] TF (0, 0))) 88 w0.heap.size v0 (x.L0.map Gf.f) H4.out.l0 _ 1 [(⟨fc, fk, fpf, fns, fnr, fi⟩ : Fm)] rfl HSR.out (by decide) (by rw [List.length_map]; have := HL.out; omega) H4.out.below.size
      rw [HV.out] at hr
      have hq2 : Qz 7 fcF w4 w0.heap.size u ((x.L0 ++ [(⟨⟨fc, fk, fpf, fns, fnr, fi⟩, x.A.s, x.A.g⟩ : Gf)]).map Gf.f) := by rw [List.map_append]; exact hq
      have HP := Lib.hid (H4.out.put0 hg hq2 (ho.imp id fun e => Or.inr ⟨_, e, Nat.le_refl _⟩))
      have hb4 : w4.heap[b.bl]? = some (.cells #[v0, v1] 88 (0, 0)) := (hg.block _ (lt_heap H4.out.l) (fun e => by have := (H4.out.o7 _ e.symm).symm.trans H4.out.tl; omega)).trans H4.out.l
      have hS4 : w4.heap[fb]? = some (.cells #[.int .u8 0, .bool fc, .int .u8 (fk : Int), .bool fpf, .int .u8 (fns : Int), .int .u8 (fnr : Int), .string fi] TF (0, 0)) ∧ w4.heap[b.tb]? = some (.cells #[two b.ba, two b.bl, two b.bu, two b.bk, .bool x.bad] 46 (0, 0)) := ⟨(hg.block _ (lt_heap (stays HF4.out (nest_below w3 [(.cells #[.int .u8 0, .bool fc, .int .u8 (fk : Int), .bool fpf, .int .u8 (fns : Int), .int .u8 (fnr : Int), .string fi] TF (0, 0))]))) (fun e => by have := (H1.out.l0.lt _ e.symm).2; have := HFN.out; omega)).trans (stays HF4.out (nest_below w3 [(.cells #[.int .u8 0, .bool fc, .int .u8 (fk : Int), .bool fpf, .int .u8 (fns : Int), .int .u8 (fnr : Int), .string fi] TF (0, 0))])), (hg.block _ (lt_heap H4.out.blk) (fun e => by have := (H4.out.o7 _ e.symm).symm.trans H4.out.t0; omega)).trans H4.out.blk⟩
      obtain ⟨ob, ucap, hu⟩ := hq.form
      rw [List.length_append, List.length_map, List.length_singleton] at hu
      refine ry [14] ?_
      refine AllReadyH.cons (o := ⟨some 33, .call ⟨.builtin .append, #[.tmp 30, .tmp 32], #[88, 88]⟩, 88, "law.go:123", #[⟨11, .data⟩, ⟨13, .data⟩], none⟩) rfl (fun K hK => ?_) AllReadyH.nil
      refine step_append_known rfl _ _ _ _ rfl rfl rfl hr ?_
      refine hK.out _ _ hS4 (fun hNext => ?_)
      clear hr HSR hq hq2 hg ho hHeld
      clear hK K
      have hHeld := hNext
      clear hNext
      (try simp only [Act.put, z1', z2', z3'])
      refine' tk 15 ⟨some 34, .indexAddr 43 (.tmp 22) (.tmp 23), 0, "law.go:123", #[⟨3, .data⟩, ⟨4, .data⟩, ⟨0, .phase⟩, ⟨1, .phase⟩, ⟨2, .phase⟩, ⟨3, .phase⟩, ⟨4, .phase⟩, ⟨5, .phase⟩, ⟨6, .phase⟩, ⟨7, .phase⟩, ⟨8, .phase⟩, ⟨9, .phase⟩, ⟨10, .phase⟩, ⟨11, .phase⟩, ⟨12, .phase⟩, ⟨13, .phase⟩, ⟨14, .phase⟩], none⟩ ?_
      simp only [Act.put, z1', z2', z3']
      have HS4 := Lib.hid hS4
      have hbl : b.tb ≠ b.bl := fun e => by have := H1.out.t0; have := H1.out.tl; rw [e] at *; omega
      have hfl : fb ≠ b.bl := fun e => by have := lt_heap H1.out.l; have := HFN.out; omega
      have f0 : ∀ j, w4.frozen? ⟨b.bl, j, none⟩ = false := fun _ => free_of hb4
      have d0 : w4.cell? ⟨b.bl, 0, none⟩ = some v0 := cell_of hb4 rfl
      clear hS4 hHeld hb4 cl
      rw [hu] at HP ⊢
      rw [HV.out] at d0
      refine ry [16] ?_
      refine AllReadyH.cons rfl (fun K hK => ?_) AllReadyH.nil
      go_simp
      refine hK.out _ _ ⟨(set_other hfl _).trans HS4.out.1, (set_other hbl _).trans HS4.out.2⟩ (fun hNext => ?_)
      clear hNext hK K f0 d0
      refine wpAnyH_done (by kernel_rfl) ?_ _
      go_wp2
      go_ret
      exact ⟨rfl, _, _, _, _, _, HP.out⟩
set_option maxHeartbeats 8000000 in
set_option maxRecDepth 100000 in
theorem fsend1_of (w0 w : World) (b : Bk) (x : Pr) (N : Nat) (h : PrE w0 b x w) (hI : Inv N x.B) (hL : x.L1.length ≤ 1000) (A2 : Sd) (fc : Bool) (fk : Nat) (fpf : Bool) (fns fnr : Nat) (fi : ByteArray) (ok : Bool) (hr : next x.B = (A2, ⟨fc, fk, fpf, fns, fnr, fi⟩, ok)) :
    Calls Try.prog 37 #[ptr b.tb, .int .i64 1] w fun e w' => e = .returned (.bool ok) ∧ PrE w0 b { x with B := A2, L1 := if ok = true then x.L1 ++ [⟨⟨fc, fk, fpf, fns, fnr, fi⟩, x.B.s, x.B.g⟩] else x.L1 } w' := by
  obtain ⟨q0, q1, v0, v1, tag, h⟩ := h
  have HX := Lib.hid h
  have CN : Hid (Calls Try.prog 19 #[ptr b.p1] w fun e w' => e = .returned (.tuple #[.agg #[.int .u8 0, .bool fc, .int .u8 (fk : Int), .bool fpf, .int .u8 (fns : Int), .int .u8 (fnr : Int), .string fi], .bool ok]) ∧ ADo b.p1 (Ps.of A2) q1 w w') := by
    have := fnext w b.p1 (Ps.of x.B) q1 h.s1 hI.pfit
    rw [next_of x.B hI.ord, hr] at this
    exact Lib.hid this
  have c0 : w.cell? ⟨b.tb, 0, none⟩ = some (two b.ba) := cell_of h.blk rfl
  have e1 : w.cell? ⟨b.ba, 1, none⟩ = some (ptr b.p1) := cell_of h.a rfl
  have HL := Lib.hid hL
  clear h hI hr hL
  go_enter Try.func37, Try.ntmps37
  go_wp2_with fail
  refine CN.out.mono ?_
  rintro _ w1 ⟨rfl, hd⟩
  have H1 := Lib.hid (HX.out.doB (QDo.of hd))
  clear hd CN HX c0 e1
  generalize retag w tag 6 = tag1 at H1
  have H2 := Lib.hid (H1.out.on (show Below w1.heap.size w1 (w1.alloc (.cells #[.int .u8 0, .bool fc, .int .u8 (fk : Int), .bool fpf, .int .u8 (fns : Int), .int .u8 (fnr : Int), .string fi] TF (0, 0))) from nest_below w1 [_]))
  have hf0 : (w1.alloc (.cells #[.int .u8 0, .bool fc, .int .u8 (fk : Int), .bool fpf, .int .u8 (fns : Int), .int .u8 (fnr : Int), .string fi] TF (0, 0))).heap[w1.heap.size]? = some (.cells #[.int .u8 0, .bool fc, .int .u8 (fk : Int), .bool fpf, .int .u8 (fns : Int), .int .u8 (fnr : Int), .string fi] TF (0, 0)) := nest w1 [_] 0 _ rfl
  have hfb := (lt_heap H1.out.blk)
  cases ok
  · go_wp2
    go_ret
    exact ⟨rfl, _, _, _, _, _, H2.out⟩
  · obtain ⟨oa, cap, hv⟩ := H1.out.l1.form
    rw [List.length_map] at hv
    have HV := Lib.hid hv
    clear hv
    go_wp2_with fail
    generalize hfn : w1.heap.size = fb at hf0 hfb ⊢
    have HFN := Lib.hid hfn
    clear hfn
    generalize w1.alloc (.cells #[.int .u8 0, .bool fc, .int .u8 (fk : Int), .bool fpf, .int .u8 (fns : Int), .int .u8 (fnr : Int), .string fi] TF (0, 0)) = w2 at H2 hf0 ⊢
    have H3 := Lib.hid (H2.out.on (w' := w2.drew) ⟨rfl, rfl, rfl, Nat.le_refl _, fun _ _ => rfl⟩)
    have hf3 : w2.drew.heap[fb]? = some (.cells #[.int .u8 0, .bool fc, .int .u8 (fk : Int), .bool fpf, .int .u8 (fns : Int), .int .u8 (fnr : Int), .string fi] TF (0, 0)) := hf0
    clear H2 hf0
    refine wp_region_held_drew (S := (fun w' => w'.heap[fb]? = some (.cells #[.int .u8 0, .bool fc, .int .u8 (fk : Int), .bool fpf, .int .u8 (fns : Int), .int .u8 (fnr : Int), .string fi] TF (0, 0)) ∧ w'.heap[b.tb]? = some (.cells #[two b.ba, two b.bl, two b.bu, two b.bk, .bool x.bad] 46 (0, 0)))) (by kernel_rfl) ⟨hf3, H3.out.blk⟩ (fun hHeld => ?_)
    refine' tk 0 ⟨some 19, .move (.tmp 0), 40, "law.go:123", #[], none⟩ ?_
    simp only [Act.put, z1', z2', z3']
    refine' tk 1 ⟨some 20, .nilCheck (.tmp 19), 0, "law.go:123", #[⟨0, .data⟩], none⟩ ?_
    simp only [Act.put, z1', z2', z3']
    refine' tk 2 ⟨some 21, .fieldAddr 46 (.tmp 20) 1, 0, "law.go:123", #[⟨1, .data⟩], none⟩ ?_
    simp only [Act.put, z1', z2', z3']
    refine' tv 3 ⟨some 22, .load 43 (.tmp 21), 43, "law.go:123", #[⟨2, .data⟩], none⟩ ?hy18 ?hr18
    case hy18 => (intro _ hSw; (try dsimp only at hSw); have hc := cell_of (i := 1) (v := two b.bl) hSw.2 rfl; go_simp <;> with_reducible rfl)
    simp only [Act.put, z1', z2', z3']
    refine' tk 4 ⟨some 23, .move (.tmp 1), 3, "law.go:123", #[], none⟩ ?_
    simp only [Act.put, z1', z2', z3']
    refine' tk 5 ⟨some 24, .move (.tmp 0), 40, "law.go:123", #[], none⟩ ?_
    simp only [Act.put, z1', z2', z3']
    refine' tk 6 ⟨some 25, .nilCheck (.tmp 24), 0, "law.go:123", #[⟨5, .data⟩], none⟩ ?_
    simp only [Act.put, z1', z2', z3']
    refine' tk 7 ⟨some 26, .fieldAddr 46 (.tmp 25) 1, 0, "law.go:123", #[⟨6, .data⟩], none⟩ ?_
    simp only [Act.put, z1', z2', z3']
    refine' tv 8 ⟨some 27, .load 43 (.tmp 26), 43, "law.go:123", #[⟨7, .data⟩], none⟩ ?hy23 ?hr23
    case hy23 => (intro _ hSw; (try dsimp only at hSw); have hc := cell_of (i := 1) (v := two b.bl) hSw.2 rfl; go_simp <;> with_reducible rfl)
    simp only [Act.put, z1', z2', z3']
    refine' tk 9 ⟨some 28, .move (.tmp 1), 3, "law.go:123", #[], none⟩ ?_
    simp only [Act.put, z1', z2', z3']
    refine' tk 10 ⟨some 29, .indexAddr 43 (.tmp 27) (.tmp 28), 0, "law.go:123", #[⟨8, .data⟩, ⟨9, .data⟩], none⟩ ?_
    simp only [Act.put, z1', z2', z3']
    refine' tv 12 ⟨some 31, .load 25 (.tmp 5), 25, "law.go:123", #[], none⟩ ?hy26 ?hr26
    case hy26 => (intro _ hSw; (try dsimp only at hSw); obtain ⟨⟨z0, z1, z2, z3, z4, z5, z6⟩, -⟩ := cells7 hSw.1; go_simp <;> with_reducible rfl)
    simp only [Act.put, z1', z2', z3']
    clear hHeld
    have hf4 : w2.drew.heap[fb]? = some (.cells #[.int .u8 0, .bool fc, .int .u8 (fk : Int), .bool fpf, .int .u8 (fns : Int), .int .u8 (fnr : Int), .string fi] TF (0, 0)) := hf3
    clear hf3
    generalize w2.drew = w3 at H3 hf4 ⊢
    have HS3 := Lib.hid (show w3.heap[fb]? = some (.cells #[.int .u8 0, .bool fc, .int .u8 (fk : Int), .bool fpf, .int .u8 (fns : Int), .int .u8 (fnr : Int), .string fi] TF (0, 0)) ∧ w3.heap[b.tb]? = some (.cells #[two b.ba, two b.bl, two b.bu, two b.bk, .bool x.bad] 46 (0, 0)) from ⟨hf4, H3.out.blk⟩)
    have HF4 := Lib.hid hf4
    have cl : w3.cell? ⟨b.bl, 1, none⟩ = some (.slice oa x.L1.length cap) := by rw [← HV.out]; exact cell_of H3.out.l rfl
    clear hf4
    refine ry [11, 13] ?_
    refine AllReadyH.cons rfl (fun K hK => ?_) (AllReadyH.cons rfl (fun K hK => ?_) AllReadyH.nil)
    · go_simp
      refine hK.out _ _ HS3.out (fun hNext => ?_)
      clear hK K
      have hHeld := hNext
      clear hNext
      (try simp only [Act.put, z1', z2', z3'])
      refine ry [13] ?_
      refine AllReadyH.cons rfl (fun K hK => ?_) AllReadyH.nil
      go_simp
      refine hK.out _ _ ⟨stays HS3.out.1 (nest_below w3 [(.cells #[.int .u8 0, .bool fc, .int .u8 (fk : Int), .bool fpf, .int .u8 (fns : Int), .int .u8 (fnr : Int), .string fi] TF (0, 0))]), stays HS3.out.2 (nest_below w3 [(.cells #[.int .u8 0, .bool fc, .int .u8 (fk : Int), .bool fpf, .int .u8 (fns : Int), .int .u8 (fnr : Int), .string fi] TF (0, 0))])⟩ (fun hNext => ?_)
      clear hHeld
      clear hK K
      have hHeld := hNext
      clear hNext
      (try simp only [Act.put, z1', z2', z3'])
      have H4 := Lib.hid (H3.out.on (show Below w3.heap.size w3 (w3.alloc (.cells #[.int .u8 0, .bool fc, .int .u8 (fk : Int), .bool fpf, .int .u8 (fns : Int), .int .u8 (fnr : Int), .string fi] TF (0, 0))) from nest_below w3 [_]))
      have HSR : Hid (Src Try.prog 7 88 (.slice (some ⟨w3.heap.size, 0, none⟩) 1 1) 1 ([(⟨fc, fk, fpf, fns, fnr, fi⟩ : Fm)].flatMap fcF) (w3.alloc (.cells #[.int .u8 0, .bool fc, .int .u8 (fk : Int), .bool fpf, .int .u8 (fns : Int), .int .u8 (fnr : Int), .string fi] TF (0, 0)))) := by
        refine srcz_at eltF _ w3.heap.size 0 1 1 [_] rfl (fun j y hj k hk => ?_)
        have hlt := (List.getElem?_eq_some_iff.1 hj).1
        simp only [List.length_cons, List.length_nil] at hlt
        obtain rfl : j = 0 := by omega
        have hy := (Option.some.inj hj).symm
        rw [hy]
        have hb : (w3.alloc (.cells #[.int .u8 0, .bool fc, .int .u8 (fk : Int), .bool fpf, .int .u8 (fns : Int), .int .u8 (fnr : Int), .string fi] TF (0, 0))).heap[w3.heap.size]? = some (.cells #[.int .u8 0, .bool fc, .int .u8 (fk : Int), .bool fpf, .int .u8 (fns : Int), .int .u8 (fnr : Int), .string fi] TF (0, 0)) := nest w3 [_] 0 _ rfl
        match k, hk with
        | 0, _ => exact cell_of hb rfl
        | 1, _ => exact cell_of hb rfl
        | 2, _ => exact cell_of hb rfl
        | 3, _ => exact cell_of hb rfl
        | 4, _ => exact cell_of hb rfl
        | 5, _ => exact cell_of hb rfl
        | 6, _ => exact cell_of hb rfl
      obtain ⟨u, w4, hr, hq, hg, ho⟩ := run_append_q eltF (w3.alloc (.cells #[.int .u8 0, .bool fc, .int .u8 (fk : Int), .bool fpf, .int .u8 (fns : Int), .int .u8 (fnr : Int), .string fi] TF (0, 0))) 88 w0.heap.size v1 (x.L1.map Gf.f) H4.out.l1 _ 1 [(⟨fc, fk, fpf, fns, fnr, fi⟩ : Fm)] rfl HSR.out (by decide) (by rw [List.length_map]; have := HL.out; omega) H4.out.below.size
      rw [HV.out] at hr
      have hq2 : Qz 7 fcF w4 w0.heap.size u ((x.L1 ++ [(⟨⟨fc, fk, fpf, fns, fnr, fi⟩, x.B.s, x.B.g⟩ : Gf)]).map Gf.f) := by rw [List.map_append]; exact hq
      have HP := Lib.hid (H4.out.put1 hg hq2 (ho.imp id fun e => Or.inr ⟨_, e, Nat.le_refl _⟩))
      have hb4 : w4.heap[b.bl]? = some (.cells #[v0, v1] 88 (0, 0)) := (hg.block _ (lt_heap H4.out.l) (fun e => by have := (H4.out.o8 _ e.symm).symm.trans H4.out.tl; omega)).trans H4.out.l
      have hS4 : w4.heap[fb]? = some (.cells #[.int .u8 0, .bool fc, .int .u8 (fk : Int), .bool fpf, .int .u8 (fns : Int), .int .u8 (fnr : Int), .string fi] TF (0, 0)) ∧ w4.heap[b.tb]? = some (.cells #[two b.ba, two b.bl, two b.bu, two b.bk, .bool x.bad] 46 (0, 0)) := ⟨(hg.block _ (lt_heap (stays HF4.out (nest_below w3 [(.cells #[.int .u8 0, .bool fc, .int .u8 (fk : Int), .bool fpf, .int .u8 (fns : Int), .int .u8 (fnr : Int), .string fi] TF (0, 0))]))) (fun e => by have := (H1.out.l1.lt _ e.symm).2; have := HFN.out; omega)).trans (stays HF4.out (nest_below w3 [(.cells #[.int .u8 0, .bool fc, .int .u8 (fk : Int), .bool fpf, .int .u8 (fns : Int), .int .u8 (fnr : Int), .string fi] TF (0, 0))])), (hg.block _ (lt_heap H4.out.blk) (fun e => by have := (H4.out.o8 _ e.symm).symm.trans H4.out.t0; omega)).trans H4.out.blk⟩
      obtain ⟨ob, ucap, hu⟩ := hq.form
      rw [List.length_append, List.length_map, List.length_singleton] at hu
      refine ry [14] ?_
      refine AllReadyH.cons (o := ⟨some 33, .call ⟨.builtin .append, #[.tmp 30, .tmp 32], #[88, 88]⟩, 88, "law.go:123", #[⟨11, .data⟩, ⟨13, .data⟩], none⟩) rfl (fun K hK => ?_) AllReadyH.nil
      refine step_append_known rfl _ _ _ _ rfl rfl rfl hr ?_
      refine hK.out _ _ hS4 (fun hNext => ?_)
      clear hr HSR hq hq2 hg ho hHeld
      clear hK K
      have hHeld := hNext
      clear hNext
      (try simp only [Act.put, z1', z2', z3'])
      refine' tk 15 ⟨some 34, .indexAddr 43 (.tmp 22) (.tmp 23), 0, "law.go:123", #[⟨3, .data⟩, ⟨4, .data⟩, ⟨0, .phase⟩, ⟨1, .phase⟩, ⟨2, .phase⟩, ⟨3, .phase⟩, ⟨4, .phase⟩, ⟨5, .phase⟩, ⟨6, .phase⟩, ⟨7, .phase⟩, ⟨8, .phase⟩, ⟨9, .phase⟩, ⟨10, .phase⟩, ⟨11, .phase⟩, ⟨12, .phase⟩, ⟨13, .phase⟩, ⟨14, .phase⟩], none⟩ ?_
      simp only [Act.put, z1', z2', z3']
      have HS4 := Lib.hid hS4
      have hbl : b.tb ≠ b.bl := fun e => by have := H1.out.t0; have := H1.out.tl; rw [e] at *; omega
      have hfl : fb ≠ b.bl := fun e => by have := lt_heap H1.out.l; have := HFN.out; omega
      have f0 : ∀ j, w4.frozen? ⟨b.bl, j, none⟩ = false := fun _ => free_of hb4
      have d0 : w4.cell? ⟨b.bl, 1, none⟩ = some v1 := cell_of hb4 rfl
      clear hS4 hHeld hb4 cl
      rw [hu] at HP ⊢
      rw [HV.out] at d0
      refine ry [16] ?_
      refine AllReadyH.cons rfl (fun K hK => ?_) AllReadyH.nil
      go_simp
      refine hK.out _ _ ⟨(set_other hfl _).trans HS4.out.1, (set_other hbl _).trans HS4.out.2⟩ (fun hNext => ?_)
      clear hNext hK K f0 d0
      refine wpAnyH_done (by kernel_rfl) ?_ _
      go_wp2
      go_ret
      exact ⟨rfl, _, _, _, _, _, HP.out⟩
    · go_simp
      have clb : (w3.alloc (.cells #[.int .u8 0, .bool fc, .int .u8 (fk : Int), .bool fpf, .int .u8 (fns : Int), .int .u8 (fnr : Int), .string fi] TF (0, 0))).cell? ⟨b.bl, 1, none⟩ = some (.slice oa x.L1.length cap) := cell_below cl (nest_below w3 [_])
      refine hK.out _ _ ⟨stays HS3.out.1 (nest_below w3 [(.cells #[.int .u8 0, .bool fc, .int .u8 (fk : Int), .bool fpf, .int .u8 (fns : Int), .int .u8 (fnr : Int), .string fi] TF (0, 0))]), stays HS3.out.2 (nest_below w3 [(.cells #[.int .u8 0, .bool fc, .int .u8 (fk : Int), .bool fpf, .int .u8 (fns : Int), .int .u8 (fnr : Int), .string fi] TF (0, 0))])⟩ (fun hNext => ?_)
      clear hK K
      have hHeld := hNext
      clear hNext
      (try simp only [Act.put, z1', z2', z3'])
      refine ry [11] ?_
      refine AllReadyH.cons rfl (fun K hK => ?_) AllReadyH.nil
      go_simp
      refine hK.out _ _ hHeld (fun hNext => ?_)
      clear hHeld clb
      clear hK K
      have hHeld := hNext
      clear hNext
      (try simp only [Act.put, z1', z2', z3'])
      have H4 := Lib.hid (H3.out.on (show Below w3.heap.size w3 (w3.alloc (.cells #[.int .u8 0, .bool fc, .int .u8 (fk : Int), .bool fpf, .int .u8 (fns : Int), .int .u8 (fnr : Int), .string fi] TF (0, 0))) from nest_below w3 [_]))
      have HSR : Hid (Src Try.prog 7 88 (.slice (some ⟨w3.heap.size, 0, none⟩) 1 1) 1 ([(⟨fc, fk, fpf, fns, fnr, fi⟩ : Fm)].flatMap fcF) (w3.alloc (.cells #[.int .u8 0, .bool fc, .int .u8 (fk : Int), .bool fpf, .int .u8 (fns : Int), .int .u8 (fnr : Int), .string fi] TF (0, 0)))) := by
        refine srcz_at eltF _ w3.heap.size 0 1 1 [_] rfl (fun j y hj k hk => ?_)
        have hlt := (List.getElem?_eq_some_iff.1 hj).1
        simp only [List.length_cons, List.length_nil] at hlt
        obtain rfl : j = 0 := by omega
        have hy := (Option.some.inj hj).symm
        rw [hy]
        have hb : (w3.alloc (.cells #[.int .u8 0, .bool fc, .int .u8 (fk : Int), .bool fpf, .int .u8 (fns : Int), .int .u8 (fnr : Int), .string fi] TF (0, 0))).heap[w3.heap.size]? = some (.cells #[.int .u8 0, .bool fc, .int .u8 (fk : Int), .bool fpf, .int .u8 (fns : Int), .int .u8 (fnr : Int), .string fi] TF (0, 0)) := nest w3 [_] 0 _ rfl
        match k, hk with
        | 0, _ => exact cell_of hb rfl
        | 1, _ => exact cell_of hb rfl
        | 2, _ => exact cell_of hb rfl
        | 3, _ => exact cell_of hb rfl
        | 4, _ => exact cell_of hb rfl
        | 5, _ => exact cell_of hb rfl
        | 6, _ => exact cell_of hb rfl
      obtain ⟨u, w4, hr, hq, hg, ho⟩ := run_append_q eltF (w3.alloc (.cells #[.int .u8 0, .bool fc, .int .u8 (fk : Int), .bool fpf, .int .u8 (fns : Int), .int .u8 (fnr : Int), .string fi] TF (0, 0))) 88 w0.heap.size v1 (x.L1.map Gf.f) H4.out.l1 _ 1 [(⟨fc, fk, fpf, fns, fnr, fi⟩ : Fm)] rfl HSR.out (by decide) (by rw [List.length_map]; have := HL.out; omega) H4.out.below.size
      rw [HV.out] at hr
      have hq2 : Qz 7 fcF w4 w0.heap.size u ((x.L1 ++ [(⟨⟨fc, fk, fpf, fns, fnr, fi⟩, x.B.s, x.B.g⟩ : Gf)]).map Gf.f) := by rw [List.map_append]; exact hq
      have HP := Lib.hid (H4.out.put1 hg hq2 (ho.imp id fun e => Or.inr ⟨_, e, Nat.le_refl _⟩))
      have hb4 : w4.heap[b.bl]? = some (.cells #[v0, v1] 88 (0, 0)) := (hg.block _ (lt_heap H4.out.l) (fun e => by have := (H4.out.o8 _ e.symm).symm.trans H4.out.tl; omega)).trans H4.out.l
      have hS4 : w4.heap[fb]? = some (.cells #[.int .u8 0, .bool fc, .int .u8 (fk : Int), .bool fpf, .int .u8 (fns : Int), .int .u8 (fnr : Int), .string fi] TF (0, 0)) ∧ w4.heap[b.tb]? = some (.cells #[two b.ba, two b.bl, two b.bu, two b.bk, .bool x.bad] 46 (0, 0)) := ⟨(hg.block _ (lt_heap (stays HF4.out (nest_below w3 [(.cells #[.int .u8 0, .bool fc, .int .u8 (fk : Int), .bool fpf, .int .u8 (fns : Int), .int .u8 (fnr : Int), .string fi] TF (0, 0))]))) (fun e => by have := (H1.out.l1.lt _ e.symm).2; have := HFN.out; omega)).trans (stays HF4.out (nest_below w3 [(.cells #[.int .u8 0, .bool fc, .int .u8 (fk : Int), .bool fpf, .int .u8 (fns : Int), .int .u8 (fnr : Int), .string fi] TF (0, 0))])), (hg.block _ (lt_heap H4.out.blk) (fun e => by have := (H4.out.o8 _ e.symm).symm.trans H4.out.t0; omega)).trans H4.out.blk⟩
      obtain ⟨ob, ucap, hu⟩ := hq.form
      rw [List.length_append, List.length_map, List.length_singleton] at hu
      refine ry [14] ?_
      refine AllReadyH.cons (o := ⟨some 33, .call ⟨.builtin .append, #[.tmp 30, .tmp 32], #[88, 88]⟩, 88, "law.go:123", #[⟨11, .data⟩, ⟨13, .data⟩], none⟩) rfl (fun K hK => ?_) AllReadyH.nil
      refine step_append_known rfl _ _ _ _ rfl rfl rfl hr ?_
      refine hK.out _ _ hS4 (fun hNext => ?_)
      clear hr HSR hq hq2 hg ho hHeld
      clear hK K
      have hHeld := hNext
      clear hNext
      (try simp only [Act.put, z1', z2', z3'])
      refine' tk 15 ⟨some 34, .indexAddr 43 (.tmp 22) (.tmp 23), 0, "law.go:123", #[⟨3, .data⟩, ⟨4, .data⟩, ⟨0, .phase⟩, ⟨1, .phase⟩, ⟨2, .phase⟩, ⟨3, .phase⟩, ⟨4, .phase⟩, ⟨5, .phase⟩, ⟨6, .phase⟩, ⟨7, .phase⟩, ⟨8, .phase⟩, ⟨9, .phase⟩, ⟨10, .phase⟩, ⟨11, .phase⟩, ⟨12, .phase⟩, ⟨13, .phase⟩, ⟨14, .phase⟩], none⟩ ?_
      simp only [Act.put, z1', z2', z3']
      have HS4 := Lib.hid hS4
      have hbl : b.tb ≠ b.bl := fun e => by have := H1.out.t0; have := H1.out.tl; rw [e] at *; omega
      have hfl : fb ≠ b.bl := fun e => by have := lt_heap H1.out.l; have := HFN.out; omega
      have f0 : ∀ j, w4.frozen? ⟨b.bl, j, none⟩ = false := fun _ => free_of hb4
      have d0 : w4.cell? ⟨b.bl, 1, none⟩ = some v1 := cell_of hb4 rfl
      clear hS4 hHeld hb4 cl
      rw [hu] at HP ⊢
      rw [HV.out] at d0
      refine ry [16] ?_
      refine AllReadyH.cons rfl (fun K hK => ?_) AllReadyH.nil
      go_simp
      refine hK.out _ _ ⟨(set_other hfl _).trans HS4.out.1, (set_other hbl _).trans HS4.out.2⟩ (fun hNext => ?_)
      clear hNext hK K f0 d0
      refine wpAnyH_done (by kernel_rfl) ?_ _
      go_wp2
      go_ret
      exact ⟨rfl, _, _, _, _, _, HP.out⟩
end Go.Proofs.Ytkoaplmlabagnaa.Aq
