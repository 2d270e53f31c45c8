/-
  The program's own side: the frames that it takes. Condition: it lies where it says; its numbers are small.
-/
import Derived.Test.YtkoaplmlabagnaaTk
import Derived.Test.YtkoaplmlabagnaaAqPm2
import Derived.Deep.RegionHeld
import Derived.Lib.MinMax
namespace Go.Proofs.Ytkoaplmlabagnaa.Aq
open Go.RowKit Go.Proofs.Ytkoaplmlabagnaa.Base Go.Proofs.Ytkoaplmlabagnaa.Mem
set_option maxHeartbeats 2000000 in
theorem ftakePoll (w : World) (pb : Nat) (y : Ps) (v : Value) (h : PAt w pb y v) :
    Calls Try.prog 54 #[ptr pb] w fun e w' => e = .returned (fmv (Ps.takePoll y).2) ∧ ADo pb (Ps.takePoll y).1 v w w' := by
  have hfr := h.free
  have hlt := h.lt
  have c19 := h.cell 19 (.bool y.poll) rfl
  have H1 : Hid (AIn [(w.heap.size, noF)] pb { y with poll := false } v w ((w.setCell ⟨pb, 19, none⟩ (.bool false)).alloc noF)) := Lib.hid (AIn.made h ((ADo.refl h).set 19 (.bool false) { y with poll := false } rfl rfl) (by simp) _)
  clear h
  go_enter Try.func54, Try.ntmps54
  go_wp2_with fail
  generalize (w.setCell ⟨pb, 19, none⟩ (.bool false)).alloc noF = w1 at H1 ⊢
  clear hfr c19
  have H2 := Lib.hid H1.out.drew
  have CR := Lib.hid (fready _ pb _ v H2.out.does.at_)
  rw [show Ps.kind { y with poll := false } = Ps.kind y from rfl] at CR
  obtain ⟨⟨k0, k1, k2, k3, k4, k5, k6⟩, kf⟩ := cells7 H1.out.at0
  have HE := Lib.hid (H1.out.put7 nil_ne (.int .u8 0) (.bool true) (.int .u8 (Ps.kind y : Int)) (.bool true) (.int .u8 0) (.int .u8 (y.vr : Int)) (.string ⟨#[]⟩)).drew
  refine wp_region_held_drew (S := (fun w' => ADo pb { y with poll := false } v w w')) (by kernel_rfl) H2.out.does (fun hHeld => ?_)
  refine' tk 0 ⟨some 6, .move (.tmp 0), 28, "arq.go:207", #[], none⟩ ?_
  simp only [Act.put, z1', z2', z3']
  refine' tk 2 ⟨some 8, .move (.tmp 0), 28, "arq.go:207", #[], none⟩ ?_
  simp only [Act.put, z1', z2', z3']
  refine' tk 3 ⟨some 9, .nilCheck (.tmp 8), 0, "arq.go:207", #[⟨2, .data⟩], none⟩ ?_
  simp only [Act.put, z1', z2', z3']
  refine' tk 4 ⟨some 10, .fieldAddr 67 (.tmp 9) 0, 0, "arq.go:207", #[⟨3, .data⟩], none⟩ ?_
  simp only [Act.put, z1', z2', z3']
  refine' tk 5 ⟨some 11, .fieldAddr 62 (.tmp 10) 1, 0, "arq.go:207", #[⟨4, .data⟩], none⟩ ?_
  simp only [Act.put, z1', z2', z3']
  refine' tv 6 ⟨some 12, .load 5 (.tmp 11), 5, "arq.go:207", #[⟨5, .data⟩], none⟩ ?hy6 ?hr6
  case hy6 => (intro _ hSw; (try dsimp only at hSw); have hc := hSw.at_.cell 1 (.int .u8 (y.vr : Int)) rfl; go_simp <;> with_reducible rfl)
  simp only [Act.put, z1', z2', z3']
  refine ry [1] ?_
  refine AllReadyH.cons rfl (fun K hK => ?_) AllReadyH.nil
  go_simp
  (with_reducible refine (CR.out).mono ?_)
  rintro e wc ⟨rfl, rfl⟩
  go_wp2_with fail
  refine hK.out _ _ H2.out.does (fun hNext => ?_)
  clear hK K hHeld
  have hHeld := hNext
  clear hNext
  (try simp only [Act.put, z1', z2', z3'])
  refine' tk 7 ⟨some 13, .build 25 #[(1, .const (.bool true)), (2, .tmp 7), (3, .const (.bool true)), (5, .tmp 12)], 25, "arq.go:207", #[⟨1, .data⟩, ⟨6, .data⟩], none⟩ ?_
  simp only [Act.put, z1', z2', z3']
  refine ry [8] ?_
  refine AllReadyH.cons rfl (fun K hK => ?_) AllReadyH.nil
  go_simp
  go_wp2_with fail
  refine hK.out _ _ HE.out.does (fun hNext => ?_)
  clear hK K hHeld
  have hHeld := hNext
  clear hNext
  (try simp only [Act.put, z1', z2', z3'])
  refine wpAnyH_done (by kernel_rfl) ?_ _
  go_wp2
  exact bodyPost_ret (res_fm rfl rfl _ _ _ ⟨true, Ps.kind y, true, 0, y.vr, bE⟩ HE.out.at0 rfl) rfl ⟨rfl, HE.out.does⟩
theorem AIn.putk {m : List (Nat × Obj)} {pb b : Nat} {y : Ps} {v : Value} {w w1 : World} {f : Fm} (h : AIn ((b, fmO f) :: m) pb y v w w1) (k2 : Nat) (hm : ∀ x ∈ m, x.1 ≠ b) : AIn ((b, fmO { f with k := k2 }) :: m) pb y v w (w1.setCell ⟨b, 2, none⟩ (.int .u8 (k2 : Int))) :=
  h.put (Chg.set (S := fun k => k = b) b 2 _ rfl w1) (block_set (i := 2) h.at0 _) hm
theorem one_ne {a b : Nat} {o : Obj} (h : a ≠ b) : ∀ x ∈ [(a, o)], x.1 ≠ b := fun x hx => by
  obtain rfl := List.mem_singleton.1 hx
  exact h
set_option maxHeartbeats 4000000 in
set_option maxRecDepth 100000 in
theorem ftakeAnswer_no (w : World) (pb : Nat) (y : Ps) (v : Value) (h : PAt w pb y v) (hr : y.rej = false) :
    Calls Try.prog 53 #[ptr pb] w fun e w' => e = .returned (fmv ⟨false, Ps.kind y, y.fin, 0, y.vr, bE⟩) ∧ ADo pb (Ps.takeAnswer y).1 v w w' := by
  have H1 : Hid (AIn [(w.heap.size, noF)] pb y v w (w.alloc noF)) := Lib.hid (AIn.first h _)
  clear h
  go_enter Try.func53, Try.ntmps53
  go_wp2_with fail
  generalize w.alloc noF = w1 at H1 ⊢
  have H2 := Lib.hid H1.out.drew
  clear H1
  refine wp_region_held_drew (S := (fun w' => AIn [(w.heap.size, noF)] pb y v w w')) (by kernel_rfl) H2.out (fun hHeld => ?_)
  refine' tk 0 ⟨some 4, .move (.tmp 0), 28, "arq.go:197", #[], none⟩ ?_
  simp only [Act.put, z1', z2', z3']
  refine' tk 2 ⟨some 6, .move (.tmp 0), 28, "arq.go:197", #[], none⟩ ?_
  simp only [Act.put, z1', z2', z3']
  refine' tk 3 ⟨some 7, .nilCheck (.tmp 6), 0, "arq.go:197", #[⟨2, .data⟩], none⟩ ?_
  simp only [Act.put, z1', z2', z3']
  refine' tk 4 ⟨some 8, .fieldAddr 67 (.tmp 7) 6, 0, "arq.go:197", #[⟨3, .data⟩], none⟩ ?_
  simp only [Act.put, z1', z2', z3']
  refine' tk 5 ⟨some 9, .fieldAddr 65 (.tmp 8) 1, 0, "arq.go:197", #[⟨4, .data⟩], none⟩ ?_
  simp only [Act.put, z1', z2', z3']
  refine' tv 6 ⟨some 10, .load 4 (.tmp 9), 4, "arq.go:197", #[⟨5, .data⟩], none⟩ ?hy13 ?hr13
  case hy13 => (intro _ hSw; (try dsimp only at hSw); have hc := hSw.does.at_.cell 17 (.bool y.fin) rfl; go_simp <;> with_reducible rfl)
  simp only [Act.put, z1', z2', z3']
  refine' tk 7 ⟨some 11, .move (.tmp 0), 28, "arq.go:197", #[], none⟩ ?_
  simp only [Act.put, z1', z2', z3']
  refine' tk 8 ⟨some 12, .nilCheck (.tmp 11), 0, "arq.go:197", #[⟨7, .data⟩], none⟩ ?_
  simp only [Act.put, z1', z2', z3']
  refine' tk 9 ⟨some 13, .fieldAddr 67 (.tmp 12) 0, 0, "arq.go:197", #[⟨8, .data⟩], none⟩ ?_
  simp only [Act.put, z1', z2', z3']
  refine' tk 10 ⟨some 14, .fieldAddr 62 (.tmp 13) 1, 0, "arq.go:197", #[⟨9, .data⟩], none⟩ ?_
  simp only [Act.put, z1', z2', z3']
  refine' tv 11 ⟨some 15, .load 5 (.tmp 14), 5, "arq.go:197", #[⟨10, .data⟩], none⟩ ?hy18 ?hr18
  case hy18 => (intro _ hSw; (try dsimp only at hSw); have hc := hSw.does.at_.cell 1 (.int .u8 (y.vr : Int)) rfl; go_simp <;> with_reducible rfl)
  simp only [Act.put, z1', z2', z3']
  clear hHeld
  generalize w1.drew = w2 at H2 ⊢
  have CRa := Lib.hid (fready _ pb _ v H2.out.does.at_)
  have CRb := Lib.hid (fready _ pb _ v (H2.out.alloc noF).does.at_)
  have hlb : w.heap.size < w2.heap.size := lt_heap H2.out.at0
  have HLB := Lib.hid hlb
  have HE : Hid (AIn [(w2.heap.size, fmO ⟨false, Ps.kind y, y.fin, 0, y.vr, bE⟩), (w.heap.size, noF)] pb y v w (w2.alloc (.cells #[.int .u8 0, .bool false, .int .u8 (Ps.kind y : Int), .bool y.fin, .int .u8 0, .int .u8 (y.vr : Int), .string ⟨#[]⟩] TF (0, 0)))) := Lib.hid (H2.out.alloc _)
  refine ry [1, 13] ?_
  refine AllReadyH.cons rfl (fun K hK => ?_) (AllReadyH.cons rfl (fun K hK => ?_) AllReadyH.nil)
  · go_simp
    (with_reducible refine (CRa.out).mono ?_)
    rintro e wc ⟨rfl, rfl⟩
    go_wp2_with fail
    refine hK.out _ _ H2.out (fun hNext => ?_)
    clear hK K
    have hHeld := hNext
    clear hNext
    (try simp only [Act.put, z1', z2', z3'])
    refine' tk 12 ⟨some 16, .build 25 #[(2, .tmp 5), (3, .tmp 10), (5, .tmp 15)], 25, "arq.go:197", #[⟨1, .data⟩, ⟨6, .data⟩, ⟨11, .data⟩], none⟩ ?_
    simp only [Act.put, z1', z2', z3']
    refine ry [13] ?_
    refine AllReadyH.cons rfl (fun K hK => ?_) AllReadyH.nil
    go_simp
    refine hK.out _ _ (H2.out.alloc noF).tail (fun hNext => ?_)
    clear hHeld
    clear hK K
    have hHeld := hNext
    clear hNext
    (try simp only [Act.put, z1', z2', z3'])
    refine ry [14] ?_
    refine AllReadyH.cons rfl (fun K hK => ?_) AllReadyH.nil
    go_simp
    go_wp2_with fail
    refine hK.out _ _ HE.out.tail (fun hNext => ?_)
    clear hK K hHeld
    have hHeld := hNext
    clear hNext
    (try simp only [Act.put, z1', z2', z3'])
    refine wpAnyH_done (by kernel_rfl) ?_ _
    clear CRa CRb H2 hHeld
    generalize w2.alloc (.cells #[.int .u8 0, .bool false, .int .u8 (Ps.kind y : Int), .bool y.fin, .int .u8 0, .int .u8 (y.vr : Int), .string ⟨#[]⟩] TF (0, 0)) = w3 at HE ⊢
    generalize w2.heap.size = lb at HE HLB hlb ⊢
    have c6 := HE.out.does.at_.cell 6 (.bool y.bu) rfl
    have c16 := HE.out.does.at_.cell 16 (.bool y.due) rfl
    have c17 := HE.out.does.at_.cell 17 (.bool y.fin) rfl
    have c18 := HE.out.does.at_.cell 18 (.bool y.rej) rfl
    rw [hr] at c18
    have hpf := HE.out.does.at_.free
    have hpl := HE.out.lt
    obtain ⟨⟨l0, l1, l2, l3, l4, l5, l6⟩, lf⟩ := cells7 (show w3.heap[lb]? = some (.cells #[.int .u8 0, .bool false, .int .u8 (Ps.kind y : Int), .bool y.fin, .int .u8 0, .int .u8 (y.vr : Int), .string ⟨#[]⟩] TF (0, 0)) from HE.out.at0)
    obtain ⟨⟨k0, k1, k2, k3, k4, k5, k6⟩, kf⟩ := cells7 HE.out.tail.at0
    have HZ := Lib.hid ((((((HE.out).set 16 (.bool false) { y with due := false } rfl rfl).set 17 (.bool false) { y with due := false, fin := false } rfl rfl).set 18 (.bool false) { y with due := false, fin := false, rej := false } rfl rfl).swap).put7 (one_ne (by omega)) (.int .u8 0) (.bool false) (.int .u8 (Ps.kind y : Nat)) (.bool y.fin) (.int .u8 0) (.int .u8 (y.vr : Int)) (.string ⟨#[]⟩))
    go_wp2
    exact bodyPost_ret (res_fm rfl rfl _ _ _ ⟨false, Ps.kind y, y.fin, 0, y.vr, bE⟩ HZ.out.at0 rfl) rfl ⟨rfl, HZ.out.does⟩
  · go_simp
    refine hK.out _ _ (H2.out.alloc noF).tail (fun hNext => ?_)
    clear hK K
    have hHeld := hNext
    clear hNext
    (try simp only [Act.put, z1', z2', z3'])
    refine ry [1] ?_
    refine AllReadyH.cons rfl (fun K hK => ?_) AllReadyH.nil
    go_simp
    (with_reducible refine (CRb.out).mono ?_)
    rintro e wc ⟨rfl, rfl⟩
    go_wp2_with fail
    refine hK.out _ _ (H2.out.alloc noF).tail (fun hNext => ?_)
    clear hK K hHeld
    have hHeld := hNext
    clear hNext
    (try simp only [Act.put, z1', z2', z3'])
    refine' tk 12 ⟨some 16, .build 25 #[(2, .tmp 5), (3, .tmp 10), (5, .tmp 15)], 25, "arq.go:197", #[⟨1, .data⟩, ⟨6, .data⟩, ⟨11, .data⟩], none⟩ ?_
    simp only [Act.put, z1', z2', z3']
    refine ry [14] ?_
    refine AllReadyH.cons rfl (fun K hK => ?_) AllReadyH.nil
    go_simp
    go_wp2_with fail
    refine hK.out _ _ HE.out.tail (fun hNext => ?_)
    clear hK K hHeld
    have hHeld := hNext
    clear hNext
    (try simp only [Act.put, z1', z2', z3'])
    refine wpAnyH_done (by kernel_rfl) ?_ _
    clear CRa CRb H2 hHeld
    generalize w2.alloc (.cells #[.int .u8 0, .bool false, .int .u8 (Ps.kind y : Int), .bool y.fin, .int .u8 0, .int .u8 (y.vr : Int), .string ⟨#[]⟩] TF (0, 0)) = w3 at HE ⊢
    generalize w2.heap.size = lb at HE HLB hlb ⊢
    have c6 := HE.out.does.at_.cell 6 (.bool y.bu) rfl
    have c16 := HE.out.does.at_.cell 16 (.bool y.due) rfl
    have c17 := HE.out.does.at_.cell 17 (.bool y.fin) rfl
    have c18 := HE.out.does.at_.cell 18 (.bool y.rej) rfl
    rw [hr] at c18
    have hpf := HE.out.does.at_.free
    have hpl := HE.out.lt
    obtain ⟨⟨l0, l1, l2, l3, l4, l5, l6⟩, lf⟩ := cells7 (show w3.heap[lb]? = some (.cells #[.int .u8 0, .bool false, .int .u8 (Ps.kind y : Int), .bool y.fin, .int .u8 0, .int .u8 (y.vr : Int), .string ⟨#[]⟩] TF (0, 0)) from HE.out.at0)
    obtain ⟨⟨k0, k1, k2, k3, k4, k5, k6⟩, kf⟩ := cells7 HE.out.tail.at0
    have HZ := Lib.hid ((((((HE.out).set 16 (.bool false) { y with due := false } rfl rfl).set 17 (.bool false) { y with due := false, fin := false } rfl rfl).set 18 (.bool false) { y with due := false, fin := false, rej := false } rfl rfl).swap).put7 (one_ne (by omega)) (.int .u8 0) (.bool false) (.int .u8 (Ps.kind y : Nat)) (.bool y.fin) (.int .u8 0) (.int .u8 (y.vr : Int)) (.string ⟨#[]⟩))
    go_wp2
    exact bodyPost_ret (res_fm rfl rfl _ _ _ ⟨false, Ps.kind y, y.fin, 0, y.vr, bE⟩ HZ.out.at0 rfl) rfl ⟨rfl, HZ.out.does⟩
set_option maxHeartbeats 4000000 in
set_option maxRecDepth 100000 in
theorem ftakeAnswer_busy (w : World) (pb : Nat) (y : Ps) (v : Value) (h : PAt w pb y v) (hr : y.rej = true) (hb : y.bu = true) :
    Calls Try.prog 53 #[ptr pb] w fun e w' => e = .returned (fmv ⟨false, Ps.kind y, y.fin, 0, y.vr, bE⟩) ∧ ADo pb (Ps.takeAnswer y).1 v w w' := by
  have H1 : Hid (AIn [(w.heap.size, noF)] pb y v w (w.alloc noF)) := Lib.hid (AIn.first h _)
  clear h
  go_enter Try.func53, Try.ntmps53
  go_wp2_with fail
  generalize w.alloc noF = w1 at H1 ⊢
  have H2 := Lib.hid H1.out.drew
  clear H1
  refine wp_region_held_drew (S := (fun w' => AIn [(w.heap.size, noF)] pb y v w w')) (by kernel_rfl) H2.out (fun hHeld => ?_)
  refine' tk 0 ⟨some 4, .move (.tmp 0), 28, "arq.go:197", #[], none⟩ ?_
  simp only [Act.put, z1', z2', z3']
  refine' tk 2 ⟨some 6, .move (.tmp 0), 28, "arq.go:197", #[], none⟩ ?_
  simp only [Act.put, z1', z2', z3']
  refine' tk 3 ⟨some 7, .nilCheck (.tmp 6), 0, "arq.go:197", #[⟨2, .data⟩], none⟩ ?_
  simp only [Act.put, z1', z2', z3']
  refine' tk 4 ⟨some 8, .fieldAddr 67 (.tmp 7) 6, 0, "arq.go:197", #[⟨3, .data⟩], none⟩ ?_
  simp only [Act.put, z1', z2', z3']
  refine' tk 5 ⟨some 9, .fieldAddr 65 (.tmp 8) 1, 0, "arq.go:197", #[⟨4, .data⟩], none⟩ ?_
  simp only [Act.put, z1', z2', z3']
  refine' tv 6 ⟨some 10, .load 4 (.tmp 9), 4, "arq.go:197", #[⟨5, .data⟩], none⟩ ?hy26 ?hr26
  case hy26 => (intro _ hSw; (try dsimp only at hSw); have hc := hSw.does.at_.cell 17 (.bool y.fin) rfl; go_simp <;> with_reducible rfl)
  simp only [Act.put, z1', z2', z3']
  refine' tk 7 ⟨some 11, .move (.tmp 0), 28, "arq.go:197", #[], none⟩ ?_
  simp only [Act.put, z1', z2', z3']
  refine' tk 8 ⟨some 12, .nilCheck (.tmp 11), 0, "arq.go:197", #[⟨7, .data⟩], none⟩ ?_
  simp only [Act.put, z1', z2', z3']
  refine' tk 9 ⟨some 13, .fieldAddr 67 (.tmp 12) 0, 0, "arq.go:197", #[⟨8, .data⟩], none⟩ ?_
  simp only [Act.put, z1', z2', z3']
  refine' tk 10 ⟨some 14, .fieldAddr 62 (.tmp 13) 1, 0, "arq.go:197", #[⟨9, .data⟩], none⟩ ?_
  simp only [Act.put, z1', z2', z3']
  refine' tv 11 ⟨some 15, .load 5 (.tmp 14), 5, "arq.go:197", #[⟨10, .data⟩], none⟩ ?hy31 ?hr31
  case hy31 => (intro _ hSw; (try dsimp only at hSw); have hc := hSw.does.at_.cell 1 (.int .u8 (y.vr : Int)) rfl; go_simp <;> with_reducible rfl)
  simp only [Act.put, z1', z2', z3']
  clear hHeld
  generalize w1.drew = w2 at H2 ⊢
  have CRa := Lib.hid (fready _ pb _ v H2.out.does.at_)
  have CRb := Lib.hid (fready _ pb _ v (H2.out.alloc noF).does.at_)
  have hlb : w.heap.size < w2.heap.size := lt_heap H2.out.at0
  have HLB := Lib.hid hlb
  have HE : Hid (AIn [(w2.heap.size, fmO ⟨false, Ps.kind y, y.fin, 0, y.vr, bE⟩), (w.heap.size, noF)] pb y v w (w2.alloc (.cells #[.int .u8 0, .bool false, .int .u8 (Ps.kind y : Int), .bool y.fin, .int .u8 0, .int .u8 (y.vr : Int), .string ⟨#[]⟩] TF (0, 0)))) := Lib.hid (H2.out.alloc _)
  refine ry [1, 13] ?_
  refine AllReadyH.cons rfl (fun K hK => ?_) (AllReadyH.cons rfl (fun K hK => ?_) AllReadyH.nil)
  · go_simp
    (with_reducible refine (CRa.out).mono ?_)
    rintro e wc ⟨rfl, rfl⟩
    go_wp2_with fail
    refine hK.out _ _ H2.out (fun hNext => ?_)
    clear hK K
    have hHeld := hNext
    clear hNext
    (try simp only [Act.put, z1', z2', z3'])
    refine' tk 12 ⟨some 16, .build 25 #[(2, .tmp 5), (3, .tmp 10), (5, .tmp 15)], 25, "arq.go:197", #[⟨1, .data⟩, ⟨6, .data⟩, ⟨11, .data⟩], none⟩ ?_
    simp only [Act.put, z1', z2', z3']
    refine ry [13] ?_
    refine AllReadyH.cons rfl (fun K hK => ?_) AllReadyH.nil
    go_simp
    refine hK.out _ _ (H2.out.alloc noF).tail (fun hNext => ?_)
    clear hHeld
    clear hK K
    have hHeld := hNext
    clear hNext
    (try simp only [Act.put, z1', z2', z3'])
    refine ry [14] ?_
    refine AllReadyH.cons rfl (fun K hK => ?_) AllReadyH.nil
    go_simp
    go_wp2_with fail
    refine hK.out _ _ HE.out.tail (fun hNext => ?_)
    clear hK K hHeld
    have hHeld := hNext
    clear hNext
    (try simp only [Act.put, z1', z2', z3'])
    refine wpAnyH_done (by kernel_rfl) ?_ _
    clear CRa CRb H2 hHeld
    generalize w2.alloc (.cells #[.int .u8 0, .bool false, .int .u8 (Ps.kind y : Int), .bool y.fin, .int .u8 0, .int .u8 (y.vr : Int), .string ⟨#[]⟩] TF (0, 0)) = w3 at HE ⊢
    generalize w2.heap.size = lb at HE HLB hlb ⊢
    have c6 := HE.out.does.at_.cell 6 (.bool y.bu) rfl
    have c16 := HE.out.does.at_.cell 16 (.bool y.due) rfl
    have c17 := HE.out.does.at_.cell 17 (.bool y.fin) rfl
    have c18 := HE.out.does.at_.cell 18 (.bool y.rej) rfl
    rw [hr] at c18
    rw [hb] at c6
    have hpf := HE.out.does.at_.free
    have hpl := HE.out.lt
    obtain ⟨⟨l0, l1, l2, l3, l4, l5, l6⟩, lf⟩ := cells7 (show w3.heap[lb]? = some (.cells #[.int .u8 0, .bool false, .int .u8 (Ps.kind y : Int), .bool y.fin, .int .u8 0, .int .u8 (y.vr : Int), .string ⟨#[]⟩] TF (0, 0)) from HE.out.at0)
    obtain ⟨⟨k0, k1, k2, k3, k4, k5, k6⟩, kf⟩ := cells7 HE.out.tail.at0
    have HZ := Lib.hid ((((((HE.out).set 16 (.bool false) { y with due := false } rfl rfl).set 17 (.bool false) { y with due := false, fin := false } rfl rfl).set 18 (.bool false) { y with due := false, fin := false, rej := false } rfl rfl).swap).put7 (one_ne (by omega)) (.int .u8 0) (.bool false) (.int .u8 (Ps.kind y : Nat)) (.bool y.fin) (.int .u8 0) (.int .u8 (y.vr : Int)) (.string ⟨#[]⟩))
    go_wp2
    exact bodyPost_ret (res_fm rfl rfl _ _ _ ⟨false, Ps.kind y, y.fin, 0, y.vr, bE⟩ HZ.out.at0 rfl) rfl ⟨rfl, HZ.out.does⟩
  · go_simp
    refine hK.out _ _ (H2.out.alloc noF).tail (fun hNext => ?_)
    clear hK K
    have hHeld := hNext
    clear hNext
    (try simp only [Act.put, z1', z2', z3'])
    refine ry [1] ?_
    refine AllReadyH.cons rfl (fun K hK => ?_) AllReadyH.nil
    go_simp
    (with_reducible refine (CRb.out).mono ?_)
    rintro e wc ⟨rfl, rfl⟩
    go_wp2_with fail
    refine hK.out _ _ (H2.out.alloc noF).tail (fun hNext => ?_)
    clear hK K hHeld
    have hHeld := hNext
    clear hNext
    (try simp only [Act.put, z1', z2', z3'])
    refine' tk 12 ⟨some 16, .build 25 #[(2, .tmp 5), (3, .tmp 10), (5, .tmp 15)], 25, "arq.go:197", #[⟨1, .data⟩, ⟨6, .data⟩, ⟨11, .data⟩], none⟩ ?_
    simp only [Act.put, z1', z2', z3']
    refine ry [14] ?_
    refine AllReadyH.cons rfl (fun K hK => ?_) AllReadyH.nil
    go_simp
    go_wp2_with fail
    refine hK.out _ _ HE.out.tail (fun hNext => ?_)
    clear hK K hHeld
    have hHeld := hNext
    clear hNext
    (try simp only [Act.put, z1', z2', z3'])
    refine wpAnyH_done (by kernel_rfl) ?_ _
    clear CRa CRb H2 hHeld
    generalize w2.alloc (.cells #[.int .u8 0, .bool false, .int .u8 (Ps.kind y : Int), .bool y.fin, .int .u8 0, .int .u8 (y.vr : Int), .string ⟨#[]⟩] TF (0, 0)) = w3 at HE ⊢
    generalize w2.heap.size = lb at HE HLB hlb ⊢
    have c6 := HE.out.does.at_.cell 6 (.bool y.bu) rfl
    have c16 := HE.out.does.at_.cell 16 (.bool y.due) rfl
    have c17 := HE.out.does.at_.cell 17 (.bool y.fin) rfl
    have c18 := HE.out.does.at_.cell 18 (.bool y.rej) rfl
    rw [hr] at c18
    rw [hb] at c6
    have hpf := HE.out.does.at_.free
    have hpl := HE.out.lt
    obtain ⟨⟨l0, l1, l2, l3, l4, l5, l6⟩, lf⟩ := cells7 (show w3.heap[lb]? = some (.cells #[.int .u8 0, .bool false, .int .u8 (Ps.kind y : Int), .bool y.fin, .int .u8 0, .int .u8 (y.vr : Int), .string ⟨#[]⟩] TF (0, 0)) from HE.out.at0)
    obtain ⟨⟨k0, k1, k2, k3, k4, k5, k6⟩, kf⟩ := cells7 HE.out.tail.at0
    have HZ := Lib.hid ((((((HE.out).set 16 (.bool false) { y with due := false } rfl rfl).set 17 (.bool false) { y with due := false, fin := false } rfl rfl).set 18 (.bool false) { y with due := false, fin := false, rej := false } rfl rfl).swap).put7 (one_ne (by omega)) (.int .u8 0) (.bool false) (.int .u8 (Ps.kind y : Nat)) (.bool y.fin) (.int .u8 0) (.int .u8 (y.vr : Int)) (.string ⟨#[]⟩))
    go_wp2
    exact bodyPost_ret (res_fm rfl rfl _ _ _ ⟨false, Ps.kind y, y.fin, 0, y.vr, bE⟩ HZ.out.at0 rfl) rfl ⟨rfl, HZ.out.does⟩
set_option maxHeartbeats 4000000 in
set_option maxRecDepth 100000 in
theorem ftakeAnswer_rej (w : World) (pb : Nat) (y : Ps) (v : Value) (h : PAt w pb y v) (hr : y.rej = true) (hb : y.bu = false) :
    Calls Try.prog 53 #[ptr pb] w fun e w' => e = .returned (fmv ⟨false, 10, y.fin, 0, y.vr, bE⟩) ∧ ADo pb (Ps.takeAnswer y).1 v w w' := by
  have H1 : Hid (AIn [(w.heap.size, noF)] pb y v w (w.alloc noF)) := Lib.hid (AIn.first h _)
  clear h
  go_enter Try.func53, Try.ntmps53
  go_wp2_with fail
  generalize w.alloc noF = w1 at H1 ⊢
  have H2 := Lib.hid H1.out.drew
  clear H1
  refine wp_region_held_drew (S := (fun w' => AIn [(w.heap.size, noF)] pb y v w w')) (by kernel_rfl) H2.out (fun hHeld => ?_)
  refine' tk 0 ⟨some 4, .move (.tmp 0), 28, "arq.go:197", #[], none⟩ ?_
  simp only [Act.put, z1', z2', z3']
  refine' tk 2 ⟨some 6, .move (.tmp 0), 28, "arq.go:197", #[], none⟩ ?_
  simp only [Act.put, z1', z2', z3']
  refine' tk 3 ⟨some 7, .nilCheck (.tmp 6), 0, "arq.go:197", #[⟨2, .data⟩], none⟩ ?_
  simp only [Act.put, z1', z2', z3']
  refine' tk 4 ⟨some 8, .fieldAddr 67 (.tmp 7) 6, 0, "arq.go:197", #[⟨3, .data⟩], none⟩ ?_
  simp only [Act.put, z1', z2', z3']
  refine' tk 5 ⟨some 9, .fieldAddr 65 (.tmp 8) 1, 0, "arq.go:197", #[⟨4, .data⟩], none⟩ ?_
  simp only [Act.put, z1', z2', z3']
  refine' tv 6 ⟨some 10, .load 4 (.tmp 9), 4, "arq.go:197", #[⟨5, .data⟩], none⟩ ?hy39 ?hr39
  case hy39 => (intro _ hSw; (try dsimp only at hSw); have hc := hSw.does.at_.cell 17 (.bool y.fin) rfl; go_simp <;> with_reducible rfl)
  simp only [Act.put, z1', z2', z3']
  refine' tk 7 ⟨some 11, .move (.tmp 0), 28, "arq.go:197", #[], none⟩ ?_
  simp only [Act.put, z1', z2', z3']
  refine' tk 8 ⟨some 12, .nilCheck (.tmp 11), 0, "arq.go:197", #[⟨7, .data⟩], none⟩ ?_
  simp only [Act.put, z1', z2', z3']
  refine' tk 9 ⟨some 13, .fieldAddr 67 (.tmp 12) 0, 0, "arq.go:197", #[⟨8, .data⟩], none⟩ ?_
  simp only [Act.put, z1', z2', z3']
  refine' tk 10 ⟨some 14, .fieldAddr 62 (.tmp 13) 1, 0, "arq.go:197", #[⟨9, .data⟩], none⟩ ?_
  simp only [Act.put, z1', z2', z3']
  refine' tv 11 ⟨some 15, .load 5 (.tmp 14), 5, "arq.go:197", #[⟨10, .data⟩], none⟩ ?hy44 ?hr44
  case hy44 => (intro _ hSw; (try dsimp only at hSw); have hc := hSw.does.at_.cell 1 (.int .u8 (y.vr : Int)) rfl; go_simp <;> with_reducible rfl)
  simp only [Act.put, z1', z2', z3']
  clear hHeld
  generalize w1.drew = w2 at H2 ⊢
  have CRa := Lib.hid (fready _ pb _ v H2.out.does.at_)
  have CRb := Lib.hid (fready _ pb _ v (H2.out.alloc noF).does.at_)
  have hlb : w.heap.size < w2.heap.size := lt_heap H2.out.at0
  have HLB := Lib.hid hlb
  have HE : Hid (AIn [(w2.heap.size, fmO ⟨false, Ps.kind y, y.fin, 0, y.vr, bE⟩), (w.heap.size, noF)] pb y v w (w2.alloc (.cells #[.int .u8 0, .bool false, .int .u8 (Ps.kind y : Int), .bool y.fin, .int .u8 0, .int .u8 (y.vr : Int), .string ⟨#[]⟩] TF (0, 0)))) := Lib.hid (H2.out.alloc _)
  refine ry [1, 13] ?_
  refine AllReadyH.cons rfl (fun K hK => ?_) (AllReadyH.cons rfl (fun K hK => ?_) AllReadyH.nil)
  · go_simp
    (with_reducible refine (CRa.out).mono ?_)
    rintro e wc ⟨rfl, rfl⟩
    go_wp2_with fail
    refine hK.out _ _ H2.out (fun hNext => ?_)
    clear hK K
    have hHeld := hNext
    clear hNext
    (try simp only [Act.put, z1', z2', z3'])
    refine' tk 12 ⟨some 16, .build 25 #[(2, .tmp 5), (3, .tmp 10), (5, .tmp 15)], 25, "arq.go:197", #[⟨1, .data⟩, ⟨6, .data⟩, ⟨11, .data⟩], none⟩ ?_
    simp only [Act.put, z1', z2', z3']
    refine ry [13] ?_
    refine AllReadyH.cons rfl (fun K hK => ?_) AllReadyH.nil
    go_simp
    refine hK.out _ _ (H2.out.alloc noF).tail (fun hNext => ?_)
    clear hHeld
    clear hK K
    have hHeld := hNext
    clear hNext
    (try simp only [Act.put, z1', z2', z3'])
    refine ry [14] ?_
    refine AllReadyH.cons rfl (fun K hK => ?_) AllReadyH.nil
    go_simp
    go_wp2_with fail
    refine hK.out _ _ HE.out.tail (fun hNext => ?_)
    clear hK K hHeld
    have hHeld := hNext
    clear hNext
    (try simp only [Act.put, z1', z2', z3'])
    refine wpAnyH_done (by kernel_rfl) ?_ _
    clear CRa CRb H2 hHeld
    generalize w2.alloc (.cells #[.int .u8 0, .bool false, .int .u8 (Ps.kind y : Int), .bool y.fin, .int .u8 0, .int .u8 (y.vr : Int), .string ⟨#[]⟩] TF (0, 0)) = w3 at HE ⊢
    generalize w2.heap.size = lb at HE HLB hlb ⊢
    have c6 := HE.out.does.at_.cell 6 (.bool y.bu) rfl
    have c16 := HE.out.does.at_.cell 16 (.bool y.due) rfl
    have c17 := HE.out.does.at_.cell 17 (.bool y.fin) rfl
    have c18 := HE.out.does.at_.cell 18 (.bool y.rej) rfl
    rw [hr] at c18
    rw [hb] at c6
    have hpf := HE.out.does.at_.free
    have hpl := HE.out.lt
    obtain ⟨⟨l0, l1, l2, l3, l4, l5, l6⟩, lf⟩ := cells7 (show w3.heap[lb]? = some (.cells #[.int .u8 0, .bool false, .int .u8 (Ps.kind y : Int), .bool y.fin, .int .u8 0, .int .u8 (y.vr : Int), .string ⟨#[]⟩] TF (0, 0)) from HE.out.at0)
    obtain ⟨⟨k0, k1, k2, k3, k4, k5, k6⟩, kf⟩ := cells7 HE.out.tail.at0
    have HZ := Lib.hid ((((((HE.out.putk 10 (one_ne (by omega))).set 16 (.bool false) { y with due := false } rfl rfl).set 17 (.bool false) { y with due := false, fin := false } rfl rfl).set 18 (.bool false) { y with due := false, fin := false, rej := false } rfl rfl).swap).put7 (one_ne (by omega)) (.int .u8 0) (.bool false) (.int .u8 (10 : Nat)) (.bool y.fin) (.int .u8 0) (.int .u8 (y.vr : Int)) (.string ⟨#[]⟩))
    go_wp2
    exact bodyPost_ret (res_fm rfl rfl _ _ _ ⟨false, 10, y.fin, 0, y.vr, bE⟩ HZ.out.at0 rfl) rfl ⟨rfl, HZ.out.does⟩
  · go_simp
    refine hK.out _ _ (H2.out.alloc noF).tail (fun hNext => ?_)
    clear hK K
    have hHeld := hNext
    clear hNext
    (try simp only [Act.put, z1', z2', z3'])
    refine ry [1] ?_
    refine AllReadyH.cons rfl (fun K hK => ?_) AllReadyH.nil
    go_simp
    (with_reducible refine (CRb.out).mono ?_)
    rintro e wc ⟨rfl, rfl⟩
    go_wp2_with fail
    refine hK.out _ _ (H2.out.alloc noF).tail (fun hNext => ?_)
    clear hK K hHeld
    have hHeld := hNext
    clear hNext
    (try simp only [Act.put, z1', z2', z3'])
    refine' tk 12 ⟨some 16, .build 25 #[(2, .tmp 5), (3, .tmp 10), (5, .tmp 15)], 25, "arq.go:197", #[⟨1, .data⟩, ⟨6, .data⟩, ⟨11, .data⟩], none⟩ ?_
    simp only [Act.put, z1', z2', z3']
    refine ry [14] ?_
    refine AllReadyH.cons rfl (fun K hK => ?_) AllReadyH.nil
    go_simp
    go_wp2_with fail
    refine hK.out _ _ HE.out.tail (fun hNext => ?_)
    clear hK K hHeld
    have hHeld := hNext
    clear hNext
    (try simp only [Act.put, z1', z2', z3'])
    refine wpAnyH_done (by kernel_rfl) ?_ _
    clear CRa CRb H2 hHeld
    generalize w2.alloc (.cells #[.int .u8 0, .bool false, .int .u8 (Ps.kind y : Int), .bool y.fin, .int .u8 0, .int .u8 (y.vr : Int), .string ⟨#[]⟩] TF (0, 0)) = w3 at HE ⊢
    generalize w2.heap.size = lb at HE HLB hlb ⊢
    have c6 := HE.out.does.at_.cell 6 (.bool y.bu) rfl
    have c16 := HE.out.does.at_.cell 16 (.bool y.due) rfl
    have c17 := HE.out.does.at_.cell 17 (.bool y.fin) rfl
    have c18 := HE.out.does.at_.cell 18 (.bool y.rej) rfl
    rw [hr] at c18
    rw [hb] at c6
    have hpf := HE.out.does.at_.free
    have hpl := HE.out.lt
    obtain ⟨⟨l0, l1, l2, l3, l4, l5, l6⟩, lf⟩ := cells7 (show w3.heap[lb]? = some (.cells #[.int .u8 0, .bool false, .int .u8 (Ps.kind y : Int), .bool y.fin, .int .u8 0, .int .u8 (y.vr : Int), .string ⟨#[]⟩] TF (0, 0)) from HE.out.at0)
    obtain ⟨⟨k0, k1, k2, k3, k4, k5, k6⟩, kf⟩ := cells7 HE.out.tail.at0
    have HZ := Lib.hid ((((((HE.out.putk 10 (one_ne (by omega))).set 16 (.bool false) { y with due := false } rfl rfl).set 17 (.bool false) { y with due := false, fin := false } rfl rfl).set 18 (.bool false) { y with due := false, fin := false, rej := false } rfl rfl).swap).put7 (one_ne (by omega)) (.int .u8 0) (.bool false) (.int .u8 (10 : Nat)) (.bool y.fin) (.int .u8 0) (.int .u8 (y.vr : Int)) (.string ⟨#[]⟩))
    go_wp2
    exact bodyPost_ret (res_fm rfl rfl _ _ _ ⟨false, 10, y.fin, 0, y.vr, bE⟩ HZ.out.at0 rfl) rfl ⟨rfl, HZ.out.does⟩
theorem ftakeAnswer (w : World) (pb : Nat) (y : Ps) (v : Value) (h : PAt w pb y v) :
    Calls Try.prog 53 #[ptr pb] w fun e w' => e = .returned (fmv (Ps.takeAnswer y).2) ∧ ADo pb (Ps.takeAnswer y).1 v w w' := by
  by_cases hr : y.rej = true
  · by_cases hb : y.bu = true
    · rw [show (Ps.takeAnswer y).2 = ⟨false, Ps.kind y, y.fin, 0, y.vr, bE⟩ by unfold Ps.takeAnswer; simp [hb]]
      exact ftakeAnswer_busy w pb y v h hr hb
    · have hb : y.bu = false := by simpa using hb
      rw [show (Ps.takeAnswer y).2 = ⟨false, 10, y.fin, 0, y.vr, bE⟩ by unfold Ps.takeAnswer; simp [hr, hb]]
      exact ftakeAnswer_rej w pb y v h hr hb
  · have hr : y.rej = false := by simpa using hr
    rw [show (Ps.takeAnswer y).2 = ⟨false, Ps.kind y, y.fin, 0, y.vr, bE⟩ by unfold Ps.takeAnswer; simp [hr]]
    exact ftakeAnswer_no w pb y v h hr
end Go.Proofs.Ytkoaplmlabagnaa.Aq
