/-
  The program's own side: takeInfo, takeDue, Next. Condition: it lies where it says; its numbers are small.
  The program's own side: takeDue, Next. Condition: it lies where it says; its numbers are small.
-/
import Derived.Test.YtkoaplmlabagnaaTk
import Derived.Test.YtkoaplmlabagnaaAqPm5
namespace Go.Proofs.Ytkoaplmlabagnaa.Aq
open Go.RowKit Go.Proofs.Ytkoaplmlabagnaa.Base Go.Proofs.Ytkoaplmlabagnaa.Mem
theorem drewN_below {w w' : World} (h : ∃ m, w' = w.drewN m) : Below w.heap.size w w' := by
  obtain ⟨m, rfl⟩ := h
  exact ⟨rfl, rfl, rfl, Nat.le_refl _, fun _ _ => rfl⟩
set_option maxHeartbeats 4000000 in
set_option maxRecDepth 100000 in
theorem ftakeInfo (w : World) (pb : Nat) (y : Ps) (v : Value) (h : PAt w pb y v) (hf : PFit y) (hm : y.out < y.q.length) :
    Calls Try.prog 55 #[ptr pb] w fun e w' => e = .returned (fmv (Ps.takeInfo y).2) ∧ ADo pb (Ps.takeInfo y).1 v w w' := by
  rcases h.q with ⟨_, hq⟩ | ⟨gb, go, cap, rfl, hgl, hR⟩
  · rw [hq] at hm; exact absurd hm (Nat.not_lt_zero _)
  have H1 : Hid (AIn [(w.heap.size, noF)] pb y (.slice (some ⟨gb, go, none⟩) y.q.length cap) w (w.alloc noF)) := Lib.hid (AIn.first h _)
  have HF := Lib.hid hf
  obtain ⟨n, hn⟩ : ∃ n, y.q.length = n := ⟨_, rfl⟩
  obtain ⟨o, ho⟩ : ∃ o, y.out = o := ⟨_, rfl⟩
  obtain ⟨s, hs⟩ : ∃ s, y.q.getD o bE = s := ⟨_, rfl⟩
  have hx : y.q[o]? = some s := by
    rw [← hs, List.getD_eq_getElem?_getD, List.getElem?_eq_getElem (by omega)]; rfl
  have hgs : w.cell? ⟨gb, go + o, none⟩ = some (.string s) := by
    have := hR.cell o s hx 0 (by decide)
    rwa [show go + (1 * o + 0) = go + o by omega] at this
  have HG : Hid (∀ w', Below w.heap.size w w' → w'.cell? ⟨gb, go + o, none⟩ = some (.string s)) := Lib.hid fun w' hb => cell_below hgs hb
  obtain ⟨r, hr⟩ : ∃ r, (y.va + o) % 8 = r := ⟨_, rfl⟩
  have H55 : Hid (Ps.takeInfo y = ({ y with out := o + 1, hi := max y.hi (o + 1) }, ⟨true, 7, false, r, y.vr, s⟩)) := by
    show _ = _
    unfold Ps.takeInfo
    rw [ho, hs, hr]
  have hon : o < n := by omega
  have hon2 : (o : Int) < (n : Int) := by omega
  have j0 : (0 : Int) ≤ (o : Int) := by omega
  rw [hn] at H1 ⊢
  have HO := Lib.hid ho
  have hgw := hR.lt
  have HRV := Lib.hid hr
  rw [H55.out]
  have hn7 : n ≤ 7 := by have := hf.q; omega
  obtain ⟨oi, hoi⟩ : ∃ k, y.hi = k := ⟨_, rfl⟩
  have hhi := hf.hi
  rw [hoi, hn] at hhi
  obtain ⟨o1, ho1⟩ : ∃ k, o + 1 = k := ⟨_, rfl⟩
  obtain ⟨mx, hmx⟩ : ∃ k, max oi o1 = k := ⟨_, rfl⟩
  have q1 : IntKind.i64.wrap ((o : Int) + 1) = (o1 : Int) := by rw [IntKind.wrap_i64]; omega
  have q2 : max (oi : Int) (o1 : Int) = (mx : Int) := by omega
  have q3 : max oi o1 = mx := hmx
  rw [hoi, ho1, hmx]
  have HOI := Lib.hid hoi
  clear h hf hm hR hn ho hs hx hgs hr hoi ho1 hmx H55 hgl
  go_enter Try.func55, Try.ntmps55
  go_wp2_with fail
  have hg1 := HG.out _ (nest_below w [noF])
  rw [show [noF].foldl World.alloc w = w.alloc noF from rfl] at hg1
  generalize w.alloc noF = w1 at H1 hg1 ⊢
  have hg2 : w1.drew.cell? ⟨gb, go + o, none⟩ = some (.string s) := hg1
  have H2 := Lib.hid H1.out.drew
  clear H1
  refine wp_region_held_drew (S := (fun w' => AIn [(w.heap.size, noF)] pb y (.slice (some ⟨gb, go, none⟩) n cap) w w' ∧ w'.cell? ⟨gb, go + o, none⟩ = some (.string s))) (by kernel_rfl) ⟨H2.out, hg2⟩ (fun hHeld => ?_)
  refine' tk 0 ⟨some 4, .move (.tmp 0), 28, "arq.go:211", #[], none⟩ ?_
  simp only [Act.put, z1', z2', z3']
  refine' tk 2 ⟨some 6, .move (.tmp 0), 28, "arq.go:211", #[], none⟩ ?_
  simp only [Act.put, z1', z2', z3']
  refine' tk 3 ⟨some 7, .nilCheck (.tmp 6), 0, "arq.go:211", #[⟨2, .data⟩], none⟩ ?_
  simp only [Act.put, z1', z2', z3']
  refine' tk 4 ⟨some 8, .fieldAddr 67 (.tmp 7) 0, 0, "arq.go:211", #[⟨3, .data⟩], none⟩ ?_
  simp only [Act.put, z1', z2', z3']
  refine' tk 5 ⟨some 9, .fieldAddr 62 (.tmp 8) 1, 0, "arq.go:211", #[⟨4, .data⟩], none⟩ ?_
  simp only [Act.put, z1', z2', z3']
  refine' tv 6 ⟨some 10, .load 5 (.tmp 9), 5, "arq.go:211", #[⟨5, .data⟩], none⟩ ?hy6 ?hr6
  case hy6 => (intro _ hSw; (try dsimp only at hSw); have hc := hSw.1.does.at_.cell 1 (.int .u8 (y.vr : Int)) rfl; go_simp <;> with_reducible rfl)
  simp only [Act.put, z1', z2', z3']
  refine' tk 7 ⟨some 11, .move (.tmp 0), 28, "arq.go:211", #[], none⟩ ?_
  simp only [Act.put, z1', z2', z3']
  refine' tk 8 ⟨some 12, .nilCheck (.tmp 11), 0, "arq.go:211", #[⟨7, .data⟩], none⟩ ?_
  simp only [Act.put, z1', z2', z3']
  refine' tk 9 ⟨some 13, .fieldAddr 67 (.tmp 12) 4, 0, "arq.go:211", #[⟨8, .data⟩], none⟩ ?_
  simp only [Act.put, z1', z2', z3']
  refine' tv 10 ⟨some 14, .load 63 (.tmp 13), 63, "arq.go:211", #[⟨9, .data⟩], none⟩ ?hy10 ?hr10
  case hy10 => (intro _ hSw; (try dsimp only at hSw); have hc := hSw.1.does.at_.cell 14 (.slice (some ⟨gb, go, none⟩) n cap) rfl; go_simp <;> with_reducible rfl)
  simp only [Act.put, z1', z2', z3']
  refine' tk 11 ⟨some 15, .move (.tmp 0), 28, "arq.go:211", #[], none⟩ ?_
  simp only [Act.put, z1', z2', z3']
  refine' tk 12 ⟨some 16, .nilCheck (.tmp 15), 0, "arq.go:211", #[⟨11, .data⟩], none⟩ ?_
  simp only [Act.put, z1', z2', z3']
  refine' tk 13 ⟨some 17, .fieldAddr 67 (.tmp 16) 0, 0, "arq.go:211", #[⟨12, .data⟩], none⟩ ?_
  simp only [Act.put, z1', z2', z3']
  refine' tk 14 ⟨some 18, .fieldAddr 62 (.tmp 17) 2, 0, "arq.go:211", #[⟨13, .data⟩], none⟩ ?_
  simp only [Act.put, z1', z2', z3']
  refine' tv 15 ⟨some 19, .load 3 (.tmp 18), 3, "arq.go:211", #[⟨14, .data⟩], none⟩ ?hy15 ?hr15
  case hy15 => (intro _ hSw; (try dsimp only at hSw); have hc := hSw.1.does.at_.cell 2 (.int .i64 (y.out : Int)) rfl; rw [HO.out] at hc; go_simp <;> with_reducible rfl)
  simp only [Act.put, z1', z2', z3']
  refine' tk 16 ⟨some 20, .indexAddr 63 (.tmp 14) (.tmp 19), 0, "arq.go:211", #[⟨10, .data⟩, ⟨15, .data⟩], none⟩ ?_
  simp only [Act.put, z1', z2', z3']
  refine' tv 17 ⟨some 21, .load 9 (.tmp 20), 9, "arq.go:211", #[⟨16, .data⟩], none⟩ ?hy17 ?hr17
  case hy17 => (intro _ hSw; (try dsimp only at hSw); have hc := hSw.2; go_simp <;> with_reducible rfl)
  simp only [Act.put, z1', z2', z3']
  clear hHeld
  have hg2 : w1.drew.cell? ⟨gb, go + o, none⟩ = some (.string s) := hg1
  clear hg1
  generalize w1.drew = w2 at H2 hg2 ⊢
  have CRa := Lib.hid (fvs _ pb _ (.slice (some ⟨gb, go, none⟩) n cap) H2.out.does.at_ HF.out)
  have CRb := Lib.hid (fvs _ pb _ (.slice (some ⟨gb, go, none⟩) n cap) (H2.out.alloc noF).does.at_ HF.out)
  rw [HO.out, HRV.out] at CRa CRb
  have hlb : w.heap.size < w2.heap.size := lt_heap H2.out.at0
  have HLB := Lib.hid hlb
  have HGL : Hid (gb < w2.heap.size) := Lib.hid (by omega)
  refine ry [1, 19] ?_
  refine AllReadyH.cons rfl (fun K hK => ?_) (AllReadyH.cons rfl (fun K hK => ?_) AllReadyH.nil)
  · go_simp
    (with_reducible refine CRa.out.mono ?_)
    rintro e wc ⟨rfl, hb⟩
    go_wp2_with fail
    have H3 := Lib.hid (H2.out.below (drewN_below hb))
    have hg3 := cell_below hg2 (drewN_below hb)
    refine hK.out _ _ ⟨H3.out, hg3⟩ (fun hNext => ?_)
    clear hK K
    have hHeld := hNext
    clear hNext
    (try simp only [Act.put, z1', z2', z3'])
    refine' tk 18 ⟨some 22, .build 25 #[(1, .const (.bool true)), (2, .const (.int .u8 7)), (4, .tmp 5), (5, .tmp 10), (6, .tmp 21)], 25, "arq.go:211", #[⟨1, .data⟩, ⟨6, .data⟩, ⟨17, .data⟩], none⟩ ?_
    simp only [Act.put, z1', z2', z3']
    refine ry [19] ?_
    refine AllReadyH.cons rfl (fun K hK => ?_) AllReadyH.nil
    go_simp
    refine hK.out _ _ ⟨(H3.out.alloc noF).tail, cell_below hg3 (nest_below wc [noF])⟩ (fun hNext => ?_)
    clear hHeld
    clear hK K
    have hHeld := hNext
    clear hNext
    (try simp only [Act.put, z1', z2', z3'])
    have hlb2 : w.heap.size < wc.heap.size := lt_heap H3.out.at0
    have HE : Hid (AIn [(wc.heap.size, fmO ⟨true, 7, false, r, y.vr, s⟩), (w.heap.size, noF)] pb y (.slice (some ⟨gb, go, none⟩) n cap) w (wc.alloc (.cells #[.int .u8 0, .bool true, .int .u8 7, .bool false, .int .u8 (r : Int), .int .u8 (y.vr : Int), .string s] TF (0, 0)))) := Lib.hid (H3.out.alloc _)
    refine ry [20] ?_
    refine AllReadyH.cons rfl (fun K hK => ?_) AllReadyH.nil
    go_simp
    go_wp2_with fail
    refine hK.out _ _ ⟨HE.out.tail, cell_below hg3 (nest_below wc [(.cells #[.int .u8 0, .bool true, .int .u8 7, .bool false, .int .u8 (r : Int), .int .u8 (y.vr : Int), .string s] TF (0, 0))])⟩ (fun hNext => ?_)
    clear hHeld
    clear hK K
    have hHeld := hNext
    clear hNext
    (try simp only [Act.put, z1', z2', z3'])
    refine wpAnyH_done (by kernel_rfl) ?_ _
    clear CRa CRb H2 H3 hHeld hb hg2 hg3
    generalize wc.alloc (.cells #[.int .u8 0, .bool true, .int .u8 7, .bool false, .int .u8 (r : Int), .int .u8 (y.vr : Int), .string s] TF (0, 0)) = w3 at HE ⊢
    generalize wc.heap.size = lb at HE hlb2 ⊢
    have hpf := HE.out.does.at_.free
    have hpl := HE.out.lt
    have c2 := HE.out.does.at_.cell 2 (.int .i64 (y.out : Int)) rfl
    rw [HO.out] at c2
    have HM := Lib.hid (HE.out.set 2 (.int .i64 (o1 : Int)) { y with out := o1 } rfl rfl)
    go_wp2_with fail
    generalize w3.setCell ⟨pb, 2, none⟩ (.int .i64 (o1 : Int)) = w4 at HM ⊢
    clear c2 hpf HE
    have HN := Lib.hid HM.out.drew
    have d2 := HM.out.does.at_.cell 2 (.int .i64 (o1 : Int)) rfl
    have d15 := HM.out.does.at_.cell 15 (.int .i64 (y.hi : Int)) rfl
    rw [HOI.out] at d15
    have hpf := HM.out.does.at_.free
    have hd2 : w4.drew.cell? ⟨pb, 2, none⟩ = some (.int .i64 (o1 : Int)) := d2
    refine wp_region_held_drew (S := (fun w' => w'.cell? ⟨pb, 2, none⟩ = some (.int .i64 (o1 : Int)))) (by kernel_rfl) hd2 (fun hHeld => ?_)
    refine' tk 0 ⟨some 32, .move (.tmp 0), 28, "arq.go:213", #[], none⟩ ?_
    simp only [Act.put, z1', z2', z3']
    refine' tk 1 ⟨some 33, .move (.tmp 0), 28, "arq.go:213", #[], none⟩ ?_
    simp only [Act.put, z1', z2', z3']
    refine' tk 2 ⟨some 34, .nilCheck (.tmp 33), 0, "arq.go:213", #[⟨1, .data⟩], none⟩ ?_
    simp only [Act.put, z1', z2', z3']
    refine' tk 3 ⟨some 35, .fieldAddr 67 (.tmp 34) 5, 0, "arq.go:213", #[⟨2, .data⟩], none⟩ ?_
    simp only [Act.put, z1', z2', z3']
    refine' tk 5 ⟨some 37, .move (.tmp 0), 28, "arq.go:213", #[], none⟩ ?_
    simp only [Act.put, z1', z2', z3']
    refine' tk 6 ⟨some 38, .nilCheck (.tmp 37), 0, "arq.go:213", #[⟨5, .data⟩], none⟩ ?_
    simp only [Act.put, z1', z2', z3']
    refine' tk 7 ⟨some 39, .fieldAddr 67 (.tmp 38) 0, 0, "arq.go:213", #[⟨6, .data⟩], none⟩ ?_
    simp only [Act.put, z1', z2', z3']
    refine' tk 8 ⟨some 40, .fieldAddr 62 (.tmp 39) 2, 0, "arq.go:213", #[⟨7, .data⟩], none⟩ ?_
    simp only [Act.put, z1', z2', z3']
    refine' tv 9 ⟨some 41, .load 3 (.tmp 40), 3, "arq.go:213", #[⟨8, .data⟩], none⟩ ?hy27 ?hr27
    case hy27 => (intro _ hSw; (try dsimp only at hSw); have hc := hSw; go_simp <;> with_reducible rfl)
    simp only [Act.put, z1', z2', z3']
    refine ry [4] ?_
    refine AllReadyH.cons rfl (fun K hK => ?_) AllReadyH.nil
    go_simp
    go_wp2_with fail
    refine hK.out _ _ hd2 (fun hNext => ?_)
    clear hHeld
    clear hK K
    have hHeld := hNext
    clear hNext
    (try simp only [Act.put, z1', z2', z3'])
    refine ry [10] ?_
    refine AllReadyH.cons rfl (fun K hK => ?_) AllReadyH.nil
    go_simp
    go_wp2_with fail
    refine hK.out _ _ hd2 (fun hNext => ?_)
    clear hHeld
    clear hK K
    have hHeld := hNext
    clear hNext
    (try simp only [Act.put, z1', z2', z3'])
    refine' tk 11 ⟨some 43, .nilCheck (.tmp 32), 0, "arq.go:213", #[⟨0, .data⟩, ⟨0, .phase⟩, ⟨1, .phase⟩, ⟨2, .phase⟩, ⟨3, .phase⟩, ⟨4, .phase⟩, ⟨5, .phase⟩, ⟨6, .phase⟩, ⟨7, .phase⟩, ⟨8, .phase⟩, ⟨9, .phase⟩, ⟨10, .phase⟩], none⟩ ?_
    simp only [Act.put, z1', z2', z3']
    refine' tk 12 ⟨some 44, .fieldAddr 67 (.tmp 43) 5, 0, "arq.go:213", #[⟨11, .data⟩, ⟨0, .phase⟩, ⟨1, .phase⟩, ⟨2, .phase⟩, ⟨3, .phase⟩, ⟨4, .phase⟩, ⟨5, .phase⟩, ⟨6, .phase⟩, ⟨7, .phase⟩, ⟨8, .phase⟩, ⟨9, .phase⟩, ⟨10, .phase⟩], none⟩ ?_
    simp only [Act.put, z1', z2', z3']
    have HP := Lib.hid (HM.out.set 15 (.int .i64 (mx : Int)) { y with out := o1, hi := mx } rfl rfl).drew
    refine ry [13] ?_
    refine AllReadyH.cons rfl (fun K hK => ?_) AllReadyH.nil
    go_simp
    go_wp2_with fail
    refine hK.out _ _ (HP.out.does.at_.cell 2 (.int .i64 (o1 : Int)) rfl) (fun hNext => ?_)
    clear hHeld
    clear hK K
    have hHeld := hNext
    clear hNext
    (try simp only [Act.put, z1', z2', z3'])
    refine wpAnyH_done (by kernel_rfl) ?_ _
    clear hHeld HM HN d2 d15 hpf hd2
    generalize (w4.setCell ⟨pb, 15, none⟩ (.int .i64 (mx : Int))).drew = w5 at HP ⊢
    obtain ⟨⟨l0, l1, l2, l3, l4, l5, l6⟩, lf⟩ := cells7 (show w5.heap[lb]? = some (.cells #[.int .u8 0, .bool true, .int .u8 7, .bool false, .int .u8 (r : Int), .int .u8 (y.vr : Int), .string s] TF (0, 0)) from HP.out.at0)
    obtain ⟨⟨k0, k1, k2, k3, k4, k5, k6⟩, kf⟩ := cells7 HP.out.tail.at0
    have HZ := Lib.hid (HP.out.swap.put7 (one_ne (by omega)) (.int .u8 0) (.bool true) (.int .u8 7) (.bool false) (.int .u8 (r : Int)) (.int .u8 (y.vr : Int)) (.string s))
    go_wp2
    exact bodyPost_ret (res_fm rfl rfl _ _ _ ⟨true, 7, false, r, y.vr, s⟩ HZ.out.at0 rfl) rfl ⟨rfl, HZ.out.does⟩
  · go_simp
    have hg4 := cell_below hg2 (nest_below w2 [noF])
    refine hK.out _ _ ⟨(H2.out.alloc noF).tail, hg4⟩ (fun hNext => ?_)
    clear hK K
    have hHeld := hNext
    clear hNext
    (try simp only [Act.put, z1', z2', z3'])
    refine ry [1] ?_
    refine AllReadyH.cons rfl (fun K hK => ?_) AllReadyH.nil
    go_simp
    (with_reducible refine (CRb.out).mono ?_)
    rintro e wc ⟨rfl, hb⟩
    go_wp2_with fail
    have H3 := Lib.hid ((H2.out.alloc noF).below (drewN_below hb))
    have hg3 := cell_below hg4 (drewN_below hb)
    have hlb2 : w.heap.size < w2.heap.size := hlb
    refine hK.out _ _ ⟨H3.out.tail, hg3⟩ (fun hNext => ?_)
    clear hHeld
    clear hK K
    have hHeld := hNext
    clear hNext
    (try simp only [Act.put, z1', z2', z3'])
    refine' tk 18 ⟨some 22, .build 25 #[(1, .const (.bool true)), (2, .const (.int .u8 7)), (4, .tmp 5), (5, .tmp 10), (6, .tmp 21)], 25, "arq.go:211", #[⟨1, .data⟩, ⟨6, .data⟩, ⟨17, .data⟩], none⟩ ?_
    simp only [Act.put, z1', z2', z3']
    obtain ⟨⟨z0, z1, z2, z3, z4, z5, z6⟩, zf⟩ := cells7 H3.out.at0
    have HE : Hid (AIn [(w2.heap.size, fmO ⟨true, 7, false, r, y.vr, s⟩), (w.heap.size, noF)] pb y (.slice (some ⟨gb, go, none⟩) n cap) w (((((((wc.setCell ⟨w2.heap.size, 0, none⟩ (.int .u8 0)).setCell ⟨w2.heap.size, 1, none⟩ (.bool true)).setCell ⟨w2.heap.size, 2, none⟩ (.int .u8 7)).setCell ⟨w2.heap.size, 3, none⟩ (.bool false)).setCell ⟨w2.heap.size, 4, none⟩ (.int .u8 (r : Int))).setCell ⟨w2.heap.size, 5, none⟩ (.int .u8 (y.vr : Int))).setCell ⟨w2.heap.size, 6, none⟩ (.string s))) := Lib.hid (H3.out.put7 (one_ne (by omega)) _ _ _ _ _ _ _)
    have hne : gb ≠ w2.heap.size := by have := HGL.out; omega
    have hg5 : (((((((wc.setCell ⟨w2.heap.size, 0, none⟩ (.int .u8 0)).setCell ⟨w2.heap.size, 1, none⟩ (.bool true)).setCell ⟨w2.heap.size, 2, none⟩ (.int .u8 7)).setCell ⟨w2.heap.size, 3, none⟩ (.bool false)).setCell ⟨w2.heap.size, 4, none⟩ (.int .u8 (r : Int))).setCell ⟨w2.heap.size, 5, none⟩ (.int .u8 (y.vr : Int))).setCell ⟨w2.heap.size, 6, none⟩ (.string s)).cell? ⟨gb, go + o, none⟩ = some (.string s) := (World.cell?_of_block (a := ⟨gb, go + o, none⟩) ((chg_set7 (S := fun k => k = w2.heap.size) (Chg.refl _ wc) (fun _ => rfl) _ _ _ _ _ _ _).block gb (World.block_lt_of_cell? wc ⟨gb, go + o, none⟩ hg3) hne)).trans hg3
    refine ry [20] ?_
    refine AllReadyH.cons rfl (fun K hK => ?_) AllReadyH.nil
    go_simp
    go_wp2_with fail
    refine hK.out _ _ ⟨HE.out.tail, hg5⟩ (fun hNext => ?_)
    clear hHeld
    clear hK K
    have hHeld := hNext
    clear hNext
    (try simp only [Act.put, z1', z2', z3'])
    refine wpAnyH_done (by kernel_rfl) ?_ _
    clear CRa CRb H2 H3 hHeld hb hg2 hg3 hg4 hg5 hne z0 z1 z2 z3 z4 z5 z6 zf hlb HLB HGL
    generalize (((((((wc.setCell ⟨w2.heap.size, 0, none⟩ (.int .u8 0)).setCell ⟨w2.heap.size, 1, none⟩ (.bool true)).setCell ⟨w2.heap.size, 2, none⟩ (.int .u8 7)).setCell ⟨w2.heap.size, 3, none⟩ (.bool false)).setCell ⟨w2.heap.size, 4, none⟩ (.int .u8 (r : Int))).setCell ⟨w2.heap.size, 5, none⟩ (.int .u8 (y.vr : Int))).setCell ⟨w2.heap.size, 6, none⟩ (.string s)) = w3 at HE ⊢
    generalize w2.heap.size = lb at HE hlb2 ⊢
    have hpf := HE.out.does.at_.free
    have hpl := HE.out.lt
    have c2 := HE.out.does.at_.cell 2 (.int .i64 (y.out : Int)) rfl
    rw [HO.out] at c2
    have HM := Lib.hid (HE.out.set 2 (.int .i64 (o1 : Int)) { y with out := o1 } rfl rfl)
    go_wp2_with fail
    generalize w3.setCell ⟨pb, 2, none⟩ (.int .i64 (o1 : Int)) = w4 at HM ⊢
    clear c2 hpf HE
    have HN := Lib.hid HM.out.drew
    have d2 := HM.out.does.at_.cell 2 (.int .i64 (o1 : Int)) rfl
    have d15 := HM.out.does.at_.cell 15 (.int .i64 (y.hi : Int)) rfl
    rw [HOI.out] at d15
    have hpf := HM.out.does.at_.free
    have hd2 : w4.drew.cell? ⟨pb, 2, none⟩ = some (.int .i64 (o1 : Int)) := d2
    refine wp_region_held_drew (S := (fun w' => w'.cell? ⟨pb, 2, none⟩ = some (.int .i64 (o1 : Int)))) (by kernel_rfl) hd2 (fun hHeld => ?_)
    refine' tk 0 ⟨some 32, .move (.tmp 0), 28, "arq.go:213", #[], none⟩ ?_
    simp only [Act.put, z1', z2', z3']
    refine' tk 1 ⟨some 33, .move (.tmp 0), 28, "arq.go:213", #[], none⟩ ?_
    simp only [Act.put, z1', z2', z3']
    refine' tk 2 ⟨some 34, .nilCheck (.tmp 33), 0, "arq.go:213", #[⟨1, .data⟩], none⟩ ?_
    simp only [Act.put, z1', z2', z3']
    refine' tk 3 ⟨some 35, .fieldAddr 67 (.tmp 34) 5, 0, "arq.go:213", #[⟨2, .data⟩], none⟩ ?_
    simp only [Act.put, z1', z2', z3']
    refine' tk 5 ⟨some 37, .move (.tmp 0), 28, "arq.go:213", #[], none⟩ ?_
    simp only [Act.put, z1', z2', z3']
    refine' tk 6 ⟨some 38, .nilCheck (.tmp 37), 0, "arq.go:213", #[⟨5, .data⟩], none⟩ ?_
    simp only [Act.put, z1', z2', z3']
    refine' tk 7 ⟨some 39, .fieldAddr 67 (.tmp 38) 0, 0, "arq.go:213", #[⟨6, .data⟩], none⟩ ?_
    simp only [Act.put, z1', z2', z3']
    refine' tk 8 ⟨some 40, .fieldAddr 62 (.tmp 39) 2, 0, "arq.go:213", #[⟨7, .data⟩], none⟩ ?_
    simp only [Act.put, z1', z2', z3']
    refine' tv 9 ⟨some 41, .load 3 (.tmp 40), 3, "arq.go:213", #[⟨8, .data⟩], none⟩ ?hy39 ?hr39
    case hy39 => (intro _ hSw; (try dsimp only at hSw); have hc := hSw; go_simp <;> with_reducible rfl)
    simp only [Act.put, z1', z2', z3']
    refine ry [4] ?_
    refine AllReadyH.cons rfl (fun K hK => ?_) AllReadyH.nil
    go_simp
    go_wp2_with fail
    refine hK.out _ _ hd2 (fun hNext => ?_)
    clear hHeld
    clear hK K
    have hHeld := hNext
    clear hNext
    (try simp only [Act.put, z1', z2', z3'])
    refine ry [10] ?_
    refine AllReadyH.cons rfl (fun K hK => ?_) AllReadyH.nil
    go_simp
    go_wp2_with fail
    refine hK.out _ _ hd2 (fun hNext => ?_)
    clear hHeld
    clear hK K
    have hHeld := hNext
    clear hNext
    (try simp only [Act.put, z1', z2', z3'])
    refine' tk 11 ⟨some 43, .nilCheck (.tmp 32), 0, "arq.go:213", #[⟨0, .data⟩, ⟨0, .phase⟩, ⟨1, .phase⟩, ⟨2, .phase⟩, ⟨3, .phase⟩, ⟨4, .phase⟩, ⟨5, .phase⟩, ⟨6, .phase⟩, ⟨7, .phase⟩, ⟨8, .phase⟩, ⟨9, .phase⟩, ⟨10, .phase⟩], none⟩ ?_
    simp only [Act.put, z1', z2', z3']
    refine' tk 12 ⟨some 44, .fieldAddr 67 (.tmp 43) 5, 0, "arq.go:213", #[⟨11, .data⟩, ⟨0, .phase⟩, ⟨1, .phase⟩, ⟨2, .phase⟩, ⟨3, .phase⟩, ⟨4, .phase⟩, ⟨5, .phase⟩, ⟨6, .phase⟩, ⟨7, .phase⟩, ⟨8, .phase⟩, ⟨9, .phase⟩, ⟨10, .phase⟩], none⟩ ?_
    simp only [Act.put, z1', z2', z3']
    have HP := Lib.hid (HM.out.set 15 (.int .i64 (mx : Int)) { y with out := o1, hi := mx } rfl rfl).drew
    refine ry [13] ?_
    refine AllReadyH.cons rfl (fun K hK => ?_) AllReadyH.nil
    go_simp
    go_wp2_with fail
    refine hK.out _ _ (HP.out.does.at_.cell 2 (.int .i64 (o1 : Int)) rfl) (fun hNext => ?_)
    clear hHeld
    clear hK K
    have hHeld := hNext
    clear hNext
    (try simp only [Act.put, z1', z2', z3'])
    refine wpAnyH_done (by kernel_rfl) ?_ _
    clear hHeld HM HN d2 d15 hpf hd2
    generalize (w4.setCell ⟨pb, 15, none⟩ (.int .i64 (mx : Int))).drew = w5 at HP ⊢
    obtain ⟨⟨l0, l1, l2, l3, l4, l5, l6⟩, lf⟩ := cells7 (show w5.heap[lb]? = some (.cells #[.int .u8 0, .bool true, .int .u8 7, .bool false, .int .u8 (r : Int), .int .u8 (y.vr : Int), .string s] TF (0, 0)) from HP.out.at0)
    obtain ⟨⟨k0, k1, k2, k3, k4, k5, k6⟩, kf⟩ := cells7 HP.out.tail.at0
    have HZ := Lib.hid (HP.out.swap.put7 (one_ne (by omega)) (.int .u8 0) (.bool true) (.int .u8 7) (.bool false) (.int .u8 (r : Int)) (.int .u8 (y.vr : Int)) (.string s))
    go_wp2
    exact bodyPost_ret (res_fm rfl rfl _ _ _ ⟨true, 7, false, r, y.vr, s⟩ HZ.out.at0 rfl) rfl ⟨rfl, HZ.out.does⟩
set_option maxHeartbeats 2000000 in
theorem ftakeDue_due (w : World) (pb : Nat) (y : Ps) (v : Value) (h : PAt w pb y v) (hd : y.due = true) :
    Calls Try.prog 41 #[ptr pb] w fun e w' => e = .returned (fmv (Ps.takeAnswer y).2) ∧ ADo pb (Ps.takeAnswer y).1 v w w' := by
  have H1 : Hid (AIn [(w.heap.size, noF)] pb y v w (w.alloc noF)) := Lib.hid (AIn.first h _)
  have CT := Lib.hid (ftakeAnswer _ pb y v H1.out.does.at_)
  have hlt := h.lt
  have hfr := h.free
  have c16 := h.cell 16 (.bool y.due) rfl
  have c19 := h.cell 19 (.bool y.poll) rfl
  rw [hd] at c16
  generalize hr : Ps.takeAnswer y = r at CT ⊢
  obtain ⟨y2, f⟩ := r
  clear h hr
  go_enter Try.func41, Try.ntmps41
  go_wp2_with fail
  refine CT.out.mono ?_
  rintro _ w2 ⟨rfl, hd2⟩
  have H2 := Lib.hid (H1.out.next hd2)
  clear hd2 CT H1 c16 c19 hfr
  obtain ⟨⟨k0, k1, k2, k3, k4, k5, k6⟩, kf⟩ := cells7 H2.out.at0
  have HZ := Lib.hid (H2.out.put7 nil_ne (.int .u8 0) (.bool f.c) (.int .u8 (f.k : Int)) (.bool f.pf) (.int .u8 (f.ns : Int)) (.int .u8 (f.nr : Int)) (.string f.i))
  go_wp2
  exact bodyPost_ret (res_fm rfl rfl _ _ _ f HZ.out.at0 rfl) rfl ⟨rfl, HZ.out.does⟩
set_option maxHeartbeats 2000000 in
theorem ftakeDue_poll (w : World) (pb : Nat) (y : Ps) (v : Value) (h : PAt w pb y v) (hd : y.due = false) (hp : y.poll = true) :
    Calls Try.prog 41 #[ptr pb] w fun e w' => e = .returned (fmv (Ps.takePoll y).2) ∧ ADo pb (Ps.takePoll y).1 v w w' := by
  have H1 : Hid (AIn [(w.heap.size, noF)] pb y v w (w.alloc noF)) := Lib.hid (AIn.first h _)
  have CT := Lib.hid (ftakePoll _ pb y v H1.out.does.at_)
  have hlt := h.lt
  have hfr := h.free
  have c16 := h.cell 16 (.bool y.due) rfl
  have c19 := h.cell 19 (.bool y.poll) rfl
  rw [hd] at c16
  rw [hp] at c19
  generalize hr : Ps.takePoll y = r at CT ⊢
  obtain ⟨y2, f⟩ := r
  clear h hr
  go_enter Try.func41, Try.ntmps41
  go_wp2_with fail
  refine CT.out.mono ?_
  rintro _ w2 ⟨rfl, hd2⟩
  have H2 := Lib.hid (H1.out.next hd2)
  clear hd2 CT H1 c16 c19 hfr
  obtain ⟨⟨k0, k1, k2, k3, k4, k5, k6⟩, kf⟩ := cells7 H2.out.at0
  have HZ := Lib.hid (H2.out.put7 nil_ne (.int .u8 0) (.bool f.c) (.int .u8 (f.k : Int)) (.bool f.pf) (.int .u8 (f.ns : Int)) (.int .u8 (f.nr : Int)) (.string f.i))
  go_wp2
  exact bodyPost_ret (res_fm rfl rfl _ _ _ f HZ.out.at0 rfl) rfl ⟨rfl, HZ.out.does⟩
set_option maxHeartbeats 2000000 in
theorem ftakeDue_info (w : World) (pb : Nat) (y : Ps) (v : Value) (h : PAt w pb y v) (hd : y.due = false) (hp : y.poll = false) (hf : PFit y) (hm : y.out < y.q.length) :
    Calls Try.prog 41 #[ptr pb] w fun e w' => e = .returned (fmv (Ps.takeInfo y).2) ∧ ADo pb (Ps.takeInfo y).1 v w w' := by
  have H1 : Hid (AIn [(w.heap.size, noF)] pb y v w (w.alloc noF)) := Lib.hid (AIn.first h _)
  have CT := Lib.hid (ftakeInfo _ pb y v H1.out.does.at_ hf hm)
  have hlt := h.lt
  have hfr := h.free
  have c16 := h.cell 16 (.bool y.due) rfl
  have c19 := h.cell 19 (.bool y.poll) rfl
  rw [hd] at c16
  rw [hp] at c19
  generalize hr : Ps.takeInfo y = r at CT ⊢
  obtain ⟨y2, f⟩ := r
  clear h hr hm hf
  go_enter Try.func41, Try.ntmps41
  go_wp2_with fail
  refine CT.out.mono ?_
  rintro _ w2 ⟨rfl, hd2⟩
  have H2 := Lib.hid (H1.out.next hd2)
  clear hd2 CT H1 c16 c19 hfr
  obtain ⟨⟨k0, k1, k2, k3, k4, k5, k6⟩, kf⟩ := cells7 H2.out.at0
  have HZ := Lib.hid (H2.out.put7 nil_ne (.int .u8 0) (.bool f.c) (.int .u8 (f.k : Int)) (.bool f.pf) (.int .u8 (f.ns : Int)) (.int .u8 (f.nr : Int)) (.string f.i))
  go_wp2
  exact bodyPost_ret (res_fm rfl rfl _ _ _ f HZ.out.at0 rfl) rfl ⟨rfl, HZ.out.does⟩
theorem ftakeDue (w : World) (pb : Nat) (y : Ps) (v : Value) (h : PAt w pb y v) (hf : PFit y) (hh : Ps.has y = true) :
    Calls Try.prog 41 #[ptr pb] w fun e w' => e = .returned (fmv (Ps.takeDue y).2) ∧ ADo pb (Ps.takeDue y).1 v w w' := by
  unfold Ps.takeDue
  by_cases hd : y.due = true
  · rw [if_pos hd]; exact ftakeDue_due w pb y v h hd
  rw [if_neg hd]
  have hd : y.due = false := by simpa using hd
  by_cases hp : y.poll = true
  · rw [if_pos hp]; exact ftakeDue_poll w pb y v h hd hp
  rw [if_neg hp]
  have hp : y.poll = false := by simpa using hp
  have hm : y.out < y.q.length := by
    unfold Ps.has Ps.may at hh
    simp [hd, hp] at hh
    exact hh.2.2
  exact ftakeDue_info w pb y v h hd hp hf hm
set_option maxHeartbeats 2000000 in
theorem fnext_no (w : World) (p : Value) (CH : ∀ w1, Below w.heap.size w w1 → Calls Try.prog 13 #[p] w1 fun e w' => e = .returned (.bool false) ∧ ∃ m, w' = w1.drewN m) :
    Calls Try.prog 19 #[p] w fun e w' => e = .returned (.tuple #[fmv noFm, .bool false]) ∧ Below w.heap.size w w' := by
  have C := Lib.hid (CH _ (nest_below w [noF]))
  rw [show [noF].foldl World.alloc w = w.alloc noF from rfl] at C
  have HB : Hid (Below w.heap.size w (w.alloc noF)) := Lib.hid (nest_below w [noF])
  have hn : (w.alloc noF).heap[w.heap.size]? = some noF := nest w [noF] 0 _ rfl
  have HN := Lib.hid hn
  clear CH hn
  go_enter Try.func19, Try.ntmps19
  go_wp2_with fail
  refine C.out.mono ?_
  rintro _ w2 ⟨rfl, hd⟩
  have HB2 := Lib.hid (below_on HB.out (drewN_below hd))
  have hn2 := stays HN.out (drewN_below hd)
  obtain ⟨⟨k0, k1, k2, k3, k4, k5, k6⟩, kf⟩ := cells7 hn2
  have HZ := Lib.hid (set7_at hn2 (.int .u8 0) (.bool false) (.int .u8 0) (.bool false) (.int .u8 0) (.int .u8 0) (.string ⟨#[]⟩))
  have HB3 : Hid (Below w.heap.size w (set7 w2 w.heap.size (.int .u8 0) (.bool false) (.int .u8 0) (.bool false) (.int .u8 0) (.int .u8 0) (.string ⟨#[]⟩))) := Lib.hid (((((((HB2.out.setCell (p := ⟨w.heap.size, 0, none⟩) (Nat.le_refl _) _).setCell (p := ⟨w.heap.size, 1, none⟩) (Nat.le_refl _) _).setCell (p := ⟨w.heap.size, 2, none⟩) (Nat.le_refl _) _).setCell (p := ⟨w.heap.size, 3, none⟩) (Nat.le_refl _) _).setCell (p := ⟨w.heap.size, 4, none⟩) (Nat.le_refl _) _).setCell (p := ⟨w.heap.size, 5, none⟩) (Nat.le_refl _) _).setCell (p := ⟨w.heap.size, 6, none⟩) (Nat.le_refl _) _)
  clear hn2 hd C HB HN HB2
  go_wp2
  exact bodyPost_ret (res_fmb rfl rfl _ _ _ noFm false HZ.out rfl rfl) rfl ⟨rfl, HB3.out⟩
set_option maxHeartbeats 2000000 in
theorem fnext_do (w : World) (pb : Nat) (y : Ps) (v : Value) (h : PAt w pb y v) (hf : PFit y) (hh : Ps.has y = true) :
    Calls Try.prog 19 #[ptr pb] w fun e w' => e = .returned (.tuple #[fmv (Ps.takeDue y).2, .bool true]) ∧ ADo pb (Ps.count false (Ps.takeDue y).1) v w w' := by
  have H1 : Hid (AIn [(w.heap.size, noF)] pb y v w (w.alloc noF)) := Lib.hid (AIn.first h _)
  have C1 := Lib.hid (fhas _ pb y v H1.out.does.at_)
  rw [hh] at C1
  have CT : Hid (∀ w1, PAt w1 pb y v → Calls Try.prog 41 #[ptr pb] w1 fun e w' => e = .returned (fmv (Ps.takeDue y).2) ∧ ADo pb (Ps.takeDue y).1 v w1 w') := Lib.hid fun w1 h1 => ftakeDue w1 pb y v h1 hf hh
  generalize hr : Ps.takeDue y = r at CT ⊢
  obtain ⟨y2, f⟩ := r
  clear h hr hf hh
  go_enter Try.func19, Try.ntmps19
  go_wp2_with fail
  refine C1.out.mono ?_
  rintro _ w2 ⟨rfl, hd⟩
  have H2 := Lib.hid (H1.out.below (drewN_below hd))
  clear H1 C1 hd
  go_wp2_with fail
  refine (CT.out _ H2.out.does.at_).mono ?_
  rintro _ w3 ⟨rfl, hd⟩
  have H3 := Lib.hid (H2.out.next hd)
  clear CT hd H2
  have hlb : w.heap.size < w3.heap.size := lt_heap H3.out.at0
  have HE : Hid (AIn [(w3.heap.size, fmO f), (w.heap.size, noF)] pb y2 v w (w3.alloc (.cells #[.int .u8 0, .bool f.c, .int .u8 (f.k : Int), .bool f.pf, .int .u8 (f.ns : Int), .int .u8 (f.nr : Int), .string f.i] TF (0, 0)))) := Lib.hid (H3.out.alloc _)
  have CN := Lib.hid (fcount _ pb y2 v false HE.out.does.at_)
  clear H3
  go_wp2_with fail
  refine CN.out.mono ?_
  rintro _ w4 ⟨rfl, hd⟩
  have H4 := Lib.hid (HE.out.next hd)
  clear CN hd HE
  generalize w3.heap.size = lb at H4 hlb ⊢
  obtain ⟨⟨l0, l1, l2, l3, l4, l5, l6⟩, lf⟩ := cells7 (show w4.heap[lb]? = some (.cells #[.int .u8 0, .bool f.c, .int .u8 (f.k : Int), .bool f.pf, .int .u8 (f.ns : Int), .int .u8 (f.nr : Int), .string f.i] TF (0, 0)) from H4.out.at0)
  obtain ⟨⟨k0, k1, k2, k3, k4, k5, k6⟩, kf⟩ := cells7 H4.out.tail.at0
  have HZ := Lib.hid (H4.out.swap.put7 (one_ne (by omega)) (.int .u8 0) (.bool f.c) (.int .u8 (f.k : Int)) (.bool f.pf) (.int .u8 (f.ns : Int)) (.int .u8 (f.nr : Int)) (.string f.i))
  go_wp2
  exact bodyPost_ret (res_fmb rfl rfl _ _ _ f true HZ.out.at0 rfl rfl) rfl ⟨rfl, HZ.out.does⟩
theorem fnext (w : World) (pb : Nat) (y : Ps) (v : Value) (h : PAt w pb y v) (hf : PFit y) :
    Calls Try.prog 19 #[ptr pb] w fun e w' => e = .returned (.tuple #[fmv (Ps.next y).2.1, .bool (Ps.next y).2.2]) ∧ ADo pb (Ps.next y).1 v w w' := by
  unfold Ps.next
  by_cases hh : Ps.has y = true
  · rw [if_pos hh]; exact fnext_do w pb y v h hf hh
  · rw [if_neg hh]
    have hh : Ps.has y = false := by simpa using hh
    exact (fnext_no w (ptr pb) fun w1 hb => by rw [← hh]; exact fhas w1 pb y v (h.below hb)).mono fun e w' ⟨h1, h2⟩ => ⟨h1, (ADo.refl h).on h2⟩
theorem fnext_nil (w : World) : Calls Try.prog 19 #[.pointer none] w fun e w' => e = .returned (.tuple #[fmv noFm, .bool false]) ∧ Below w.heap.size w w' :=
  fnext_no w _ fun w1 _ => (fhas_nil w1).mono fun _ _ ⟨h1, h2⟩ => ⟨h1, 0, h2.symm⟩
end Go.Proofs.Ytkoaplmlabagnaa.Aq
