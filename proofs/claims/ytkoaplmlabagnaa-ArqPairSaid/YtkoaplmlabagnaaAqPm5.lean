/-
  The program's own side: the frames that it takes. Condition: it lies where it says; its numbers are small.
-/
import Derived.Test.YtkoaplmlabagnaaAqPm2
import Derived.Deep.RegionHeld
import Derived.Lib.MinMax
namespace Go.Proofs.Ytkoaplmlabagnaa.Aq
open Go.RowKit Go.Proofs.Ytkoaplmlabagnaa.Base Go.Proofs.Ytkoaplmlabagnaa.Mem
set_option maxHeartbeats 2000000 in
theorem ftakePoll (w : World) (pb : Nat) (y : Ps) (v : Value) (h : PAt w pb y v) :
    Calls Try.prog 54 #[ptr pb] w fun e w' => e = .returned (fmv (Ps.takePoll y).2) ∧ ADo pb (Ps.takePoll y).1 v w w' := by
  have hfr := h.free
  have hlt := h.lt
  have c19 := h.cell 19 (.bool y.poll) rfl
  have H1 : Hid (AIn [(w.heap.size, noF)] pb { y with poll := false } v w ((w.setCell ⟨pb, 19, none⟩ (.bool false)).alloc noF)) := Lib.hid (AIn.made h ((ADo.refl h).set 19 (.bool false) { y with poll := false } rfl rfl) (by simp) _)
  clear h
  go_enter Try.func54, Try.ntmps54
  go_wp2_with fail
  generalize (w.setCell ⟨pb, 19, none⟩ (.bool false)).alloc noF = w1 at H1 ⊢
  clear hfr c19
  have H2 := Lib.hid H1.out.drew
  have CR := Lib.hid (fready _ pb _ v H2.out.does.at_)
  rw [show Ps.kind { y with poll := false } = Ps.kind y from rfl] at CR
  obtain ⟨⟨k0, k1, k2, k3, k4, k5, k6⟩, kf⟩ := cells7 H1.out.at0
  have HE := Lib.hid (H1.out.put7 nil_ne (.int .u8 0) (.bool true) (.int .u8 (Ps.kind y : Int)) (.bool true) (.int .u8 0) (.int .u8 (y.vr : Int)) (.string ⟨#[]⟩)).drew
  refine wp_region_held_drew (S := (fun w' => ADo pb { y with poll := false } v w w')) (by kernel_rfl) H2.out.does (fun hHeld => ?_)
  refine' wpAnyH_take (i := 0) (oi := { dst := some 6, op := Go.Op.move (Go.Operand.tmp 0), type := 28, pos := "arq.go:207", after := #[], guard := none }) (v := _) rfl (by kernel_rfl) (by kernel_rfl) (by kernel_rfl) (fun _ _ _ h => h) (Or.inl ⟨by rfl, ?hy1⟩) (by assumption) ?hr1
  case hy1 => (intro _ hSw; (try dsimp only at hSw); go_simp <;> with_reducible rfl)
  simp only [Act.put, List.setIfInBounds_toArray, List.set_cons_zero, List.set_cons_succ]
  refine' wpAnyH_take (i := 2) (oi := { dst := some 8, op := Go.Op.move (Go.Operand.tmp 0), type := 28, pos := "arq.go:207", after := #[], guard := none }) (v := _) rfl (by kernel_rfl) (by kernel_rfl) (by kernel_rfl) (fun _ _ _ h => h) (Or.inl ⟨by rfl, ?hy2⟩) (by assumption) ?hr2
  case hy2 => (intro _ hSw; (try dsimp only at hSw); go_simp <;> with_reducible rfl)
  simp only [Act.put, List.setIfInBounds_toArray, List.set_cons_zero, List.set_cons_succ]
  refine' wpAnyH_take (i := 3) (oi := { dst := some 9, op := Go.Op.nilCheck (Go.Operand.tmp 8), type := 0, pos := "arq.go:207", after := #[{ on := 2, ground := Go.Ground.data }], guard := none }) (v := _) rfl (by kernel_rfl) (by kernel_rfl) (by kernel_rfl) (fun _ _ _ h => h) (Or.inl ⟨by rfl, ?hy3⟩) (by assumption) ?hr3
  case hy3 => (intro _ hSw; (try dsimp only at hSw); go_simp <;> with_reducible rfl)
  simp only [Act.put, List.setIfInBounds_toArray, List.set_cons_zero, List.set_cons_succ]
  refine' wpAnyH_take (i := 4) (oi := { dst := some 10, op := Go.Op.fieldAddr 67 (Go.Operand.tmp 9) 0, type := 0, pos := "arq.go:207", after := #[{ on := 3, ground := Go.Ground.data }], guard := none }) (v := _) rfl (by kernel_rfl) (by kernel_rfl) (by kernel_rfl) (fun _ _ _ h => h) (Or.inl ⟨by rfl, ?hy4⟩) (by assumption) ?hr4
  case hy4 => (intro _ hSw; (try dsimp only at hSw); go_simp <;> with_reducible rfl)
  simp only [Act.put, List.setIfInBounds_toArray, List.set_cons_zero, List.set_cons_succ]
  refine' wpAnyH_take (i := 5) (oi := { dst := some 11, op := Go.Op.fieldAddr 62 (Go.Operand.tmp 10) 1, type := 0, pos := "arq.go:207", after := #[{ on := 4, ground := Go.Ground.data }], guard := none }) (v := _) rfl (by kernel_rfl) (by kernel_rfl) (by kernel_rfl) (fun _ _ _ h => h) (Or.inl ⟨by rfl, ?hy5⟩) (by assumption) ?hr5
  case hy5 => (intro _ hSw; (try dsimp only at hSw); go_simp <;> with_reducible rfl)
  simp only [Act.put, List.setIfInBounds_toArray, List.set_cons_zero, List.set_cons_succ]
  refine' wpAnyH_take (i := 6) (oi := { dst := some 12, op := Go.Op.load 5 (Go.Operand.tmp 11), type := 5, pos := "arq.go:207", after := #[{ on := 5, ground := Go.Ground.data }], guard := none }) (v := _) rfl (by kernel_rfl) (by kernel_rfl) (by kernel_rfl) (fun _ _ _ h => h) (Or.inl ⟨by rfl, ?hy6⟩) (by assumption) ?hr6
  case hy6 => (intro _ hSw; (try dsimp only at hSw); have hc := hSw.at_.cell 1 (.int .u8 (y.vr : Int)) rfl; go_simp <;> with_reducible rfl)
  simp only [Act.put, List.setIfInBounds_toArray, List.set_cons_zero, List.set_cons_succ]
  refine wpAnyH_ready (rs := [1]) (by kernel_rfl) (by simp) ?_
  refine AllReadyH.cons (o := { dst := some 7, op := Go.Op.call { callee := Go.Callee.value (Go.Operand.func 61), args := #[Go.Operand.tmp 6], argTypes := #[28] }, type := 5, pos := "arq.go:207", after := #[{ on := 0, ground := Go.Ground.data }], guard := none }) rfl (fun K hK => ?_) AllReadyH.nil
  go_simp
  (with_reducible refine (CR.out).mono ?_)
  rintro e wc ⟨rfl, rfl⟩
  go_wp2_with fail
  refine hK.out _ _ H2.out.does (fun hNext => ?_)
  clear hK K hHeld
  have hHeld := hNext
  clear hNext
  (try simp only [Act.put, List.setIfInBounds_toArray, List.set_cons_zero, List.set_cons_succ])
  refine' wpAnyH_take (i := 7) (oi := { dst := some 13, op := Go.Op.build 25 #[(1, Go.Operand.const (Go.Value.bool true)), (2, Go.Operand.tmp 7), (3, Go.Operand.const (Go.Value.bool true)), (5, Go.Operand.tmp 12)], type := 25, pos := "arq.go:207", after := #[{ on := 1, ground := Go.Ground.data }, { on := 6, ground := Go.Ground.data }], guard := none }) (v := _) rfl (by kernel_rfl) (by kernel_rfl) (by kernel_rfl) (fun _ _ _ h => h) (Or.inl ⟨by rfl, ?hy7⟩) (by assumption) ?hr7
  case hy7 => (intro _ hSw; (try dsimp only at hSw); go_simp <;> with_reducible rfl)
  simp only [Act.put, List.setIfInBounds_toArray, List.set_cons_zero, List.set_cons_succ]
  refine wpAnyH_ready (rs := [8]) (by kernel_rfl) (by simp) ?_
  refine AllReadyH.cons (o := { dst := none, op := Go.Op.store 25 (Go.Operand.tmp 2) (Go.Operand.tmp 13), type := 0, pos := "arq.go:207", after := #[{ on := 7, ground := Go.Ground.data }, { on := 1, ground := Go.Ground.chain }, { on := 0, ground := Go.Ground.phase }, { on := 1, ground := Go.Ground.phase }, { on := 2, ground := Go.Ground.phase }, { on := 3, ground := Go.Ground.phase }, { on := 4, ground := Go.Ground.phase }, { on := 5, ground := Go.Ground.phase }, { on := 6, ground := Go.Ground.phase }, { on := 7, ground := Go.Ground.phase }], guard := none }) rfl (fun K hK => ?_) AllReadyH.nil
  go_simp
  go_wp2_with fail
  refine hK.out _ _ HE.out.does (fun hNext => ?_)
  clear hK K hHeld
  have hHeld := hNext
  clear hNext
  (try simp only [Act.put, List.setIfInBounds_toArray, List.set_cons_zero, List.set_cons_succ])
  refine wpAnyH_done (by kernel_rfl) ?_ _
  go_wp2
  exact bodyPost_ret (res_fm rfl rfl _ _ _ ⟨true, Ps.kind y, true, 0, y.vr, bE⟩ HE.out.at0 rfl) rfl ⟨rfl, HE.out.does⟩
theorem AIn.putk {m : List (Nat × Obj)} {pb b : Nat} {y : Ps} {v : Value} {w w1 : World} {f : Fm} (h : AIn ((b, fmO f) :: m) pb y v w w1) (k2 : Nat) (hm : ∀ x ∈ m, x.1 ≠ b) : AIn ((b, fmO { f with k := k2 }) :: m) pb y v w (w1.setCell ⟨b, 2, none⟩ (.int .u8 (k2 : Int))) :=
  h.put (Chg.set (S := fun k => k = b) b 2 _ rfl w1) (block_set (i := 2) h.at0 _) hm
theorem one_ne {a b : Nat} {o : Obj} (h : a ≠ b) : ∀ x ∈ [(a, o)], x.1 ≠ b := fun x hx => by
  obtain rfl := List.mem_singleton.1 hx
  exact h
set_option maxHeartbeats 4000000 in
set_option maxRecDepth 100000 in
theorem ftakeAnswer_no (w : World) (pb : Nat) (y : Ps) (v : Value) (h : PAt w pb y v) (hr : y.rej = false) :
    Calls Try.prog 53 #[ptr pb] w fun e w' => e = .returned (fmv ⟨false, Ps.kind y, y.fin, 0, y.vr, bE⟩) ∧ ADo pb (Ps.takeAnswer y).1 v w w' := by
  have H1 : Hid (AIn [(w.heap.size, noF)] pb y v w (w.alloc noF)) := Lib.hid (AIn.first h _)
  clear h
  go_enter Try.func53, Try.ntmps53
  go_wp2_with fail
  generalize w.alloc noF = w1 at H1 ⊢
  have H2 := Lib.hid H1.out.drew
  clear H1
  refine wp_region_held_drew (S := (fun w' => AIn [(w.heap.size, noF)] pb y v w w')) (by kernel_rfl) H2.out (fun hHeld => ?_)
  refine' wpAnyH_take (i := 0) (oi := { dst := some 4, op := Go.Op.move (Go.Operand.tmp 0), type := 28, pos := "arq.go:197", after := #[], guard := none }) (v := _) rfl (by kernel_rfl) (by kernel_rfl) (by kernel_rfl) (fun _ _ _ h => h) (Or.inl ⟨by rfl, ?hy8⟩) (by assumption) ?hr8
  case hy8 => (intro _ hSw; (try dsimp only at hSw); go_simp <;> with_reducible rfl)
  simp only [Act.put, List.setIfInBounds_toArray, List.set_cons_zero, List.set_cons_succ]
  refine' wpAnyH_take (i := 2) (oi := { dst := some 6, op := Go.Op.move (Go.Operand.tmp 0), type := 28, pos := "arq.go:197", after := #[], guard := none }) (v := _) rfl (by kernel_rfl) (by kernel_rfl) (by kernel_rfl) (fun _ _ _ h => h) (Or.inl ⟨by rfl, ?hy9⟩) (by assumption) ?hr9
  case hy9 => (intro _ hSw; (try dsimp only at hSw); go_simp <;> with_reducible rfl)
  simp only [Act.put, List.setIfInBounds_toArray, List.set_cons_zero, List.set_cons_succ]
  refine' wpAnyH_take (i := 3) (oi := { dst := some 7, op := Go.Op.nilCheck (Go.Operand.tmp 6), type := 0, pos := "arq.go:197", after := #[{ on := 2, ground := Go.Ground.data }], guard := none }) (v := _) rfl (by kernel_rfl) (by kernel_rfl) (by kernel_rfl) (fun _ _ _ h => h) (Or.inl ⟨by rfl, ?hy10⟩) (by assumption) ?hr10
  case hy10 => (intro _ hSw; (try dsimp only at hSw); go_simp <;> with_reducible rfl)
  simp only [Act.put, List.setIfInBounds_toArray, List.set_cons_zero, List.set_cons_succ]
  refine' wpAnyH_take (i := 4) (oi := { dst := some 8, op := Go.Op.fieldAddr 67 (Go.Operand.tmp 7) 6, type := 0, pos := "arq.go:197", after := #[{ on := 3, ground := Go.Ground.data }], guard := none }) (v := _) rfl (by kernel_rfl) (by kernel_rfl) (by kernel_rfl) (fun _ _ _ h => h) (Or.inl ⟨by rfl, ?hy11⟩) (by assumption) ?hr11
  case hy11 => (intro _ hSw; (try dsimp only at hSw); go_simp <;> with_reducible rfl)
  simp only [Act.put, List.setIfInBounds_toArray, List.set_cons_zero, List.set_cons_succ]
  refine' wpAnyH_take (i := 5) (oi := { dst := some 9, op := Go.Op.fieldAddr 65 (Go.Operand.tmp 8) 1, type := 0, pos := "arq.go:197", after := #[{ on := 4, ground := Go.Ground.data }], guard := none }) (v := _) rfl (by kernel_rfl) (by kernel_rfl) (by kernel_rfl) (fun _ _ _ h => h) (Or.inl ⟨by rfl, ?hy12⟩) (by assumption) ?hr12
  case hy12 => (intro _ hSw; (try dsimp only at hSw); go_simp <;> with_reducible rfl)
  simp only [Act.put, List.setIfInBounds_toArray, List.set_cons_zero, List.set_cons_succ]
  refine' wpAnyH_take (i := 6) (oi := { dst := some 10, op := Go.Op.load 4 (Go.Operand.tmp 9), type := 4, pos := "arq.go:197", after := #[{ on := 5, ground := Go.Ground.data }], guard := none }) (v := _) rfl (by kernel_rfl) (by kernel_rfl) (by kernel_rfl) (fun _ _ _ h => h) (Or.inl ⟨by rfl, ?hy13⟩) (by assumption) ?hr13
  case hy13 => (intro _ hSw; (try dsimp only at hSw); have hc := hSw.does.at_.cell 17 (.bool y.fin) rfl; go_simp <;> with_reducible rfl)
  simp only [Act.put, List.setIfInBounds_toArray, List.set_cons_zero, List.set_cons_succ]
  refine' wpAnyH_take (i := 7) (oi := { dst := some 11, op := Go.Op.move (Go.Operand.tmp 0), type := 28, pos := "arq.go:197", after := #[], guard := none }) (v := _) rfl (by kernel_rfl) (by kernel_rfl) (by kernel_rfl) (fun _ _ _ h => h) (Or.inl ⟨by rfl, ?hy14⟩) (by assumption) ?hr14
  case hy14 => (intro _ hSw; (try dsimp only at hSw); go_simp <;> with_reducible rfl)
  simp only [Act.put, List.setIfInBounds_toArray, List.set_cons_zero, List.set_cons_succ]
  refine' wpAnyH_take (i := 8) (oi := { dst := some 12, op := Go.Op.nilCheck (Go.Operand.tmp 11), type := 0, pos := "arq.go:197", after := #[{ on := 7, ground := Go.Ground.data }], guard := none }) (v := _) rfl (by kernel_rfl) (by kernel_rfl) (by kernel_rfl) (fun _ _ _ h => h) (Or.inl ⟨by rfl, ?hy15⟩) (by assumption) ?hr15
  case hy15 => (intro _ hSw; (try dsimp only at hSw); go_simp <;> with_reducible rfl)
  simp only [Act.put, List.setIfInBounds_toArray, List.set_cons_zero, List.set_cons_succ]
  refine' wpAnyH_take (i := 9) (oi := { dst := some 13, op := Go.Op.fieldAddr 67 (Go.Operand.tmp 12) 0, type := 0, pos := "arq.go:197", after := #[{ on := 8, ground := Go.Ground.data }], guard := none }) (v := _) rfl (by kernel_rfl) (by kernel_rfl) (by kernel_rfl) (fun _ _ _ h => h) (Or.inl ⟨by rfl, ?hy16⟩) (by assumption) ?hr16
  case hy16 => (intro _ hSw; (try dsimp only at hSw); go_simp <;> with_reducible rfl)
  simp only [Act.put, List.setIfInBounds_toArray, List.set_cons_zero, List.set_cons_succ]
  refine' wpAnyH_take (i := 10) (oi := { dst := some 14, op := Go.Op.fieldAddr 62 (Go.Operand.tmp 13) 1, type := 0, pos := "arq.go:197", after := #[{ on := 9, ground := Go.Ground.data }], guard := none }) (v := _) rfl (by kernel_rfl) (by kernel_rfl) (by kernel_rfl) (fun _ _ _ h => h) (Or.inl ⟨by rfl, ?hy17⟩) (by assumption) ?hr17
  case hy17 => (intro _ hSw; (try dsimp only at hSw); go_simp <;> with_reducible rfl)
  simp only [Act.put, List.setIfInBounds_toArray, List.set_cons_zero, List.set_cons_succ]
  refine' wpAnyH_take (i := 11) (oi := { dst := some 15, op := Go.Op.load 5 (Go.Operand.tmp 14), type := 5, pos := "arq.go:197", after := #[{ on := 10, ground := Go.Ground.data }], guard := none }) (v := _) rfl (by kernel_rfl) (by kernel_rfl) (by kernel_rfl) (fun _ _ _ h => h) (Or.inl ⟨by rfl, ?hy18⟩) (by assumption) ?hr18
  case hy18 => (intro _ hSw; (try dsimp only at hSw); have hc := hSw.does.at_.cell 1 (.int .u8 (y.vr : Int)) rfl; go_simp <;> with_reducible rfl)
  simp only [Act.put, List.setIfInBounds_toArray, List.set_cons_zero, List.set_cons_succ]
  clear hHeld
  generalize w1.drew = w2 at H2 ⊢
  have CRa := Lib.hid (fready _ pb _ v H2.out.does.at_)
  have CRb := Lib.hid (fready _ pb _ v (H2.out.alloc noF).does.at_)
  have hlb : w.heap.size < w2.heap.size := lt_heap H2.out.at0
  have HLB := Lib.hid hlb
  have HE : Hid (AIn [(w2.heap.size, fmO ⟨false, Ps.kind y, y.fin, 0, y.vr, bE⟩), (w.heap.size, noF)] pb y v w (w2.alloc (.cells #[.int .u8 0, .bool false, .int .u8 (Ps.kind y : Int), .bool y.fin, .int .u8 0, .int .u8 (y.vr : Int), .string ⟨#[]⟩] TF (0, 0)))) := Lib.hid (H2.out.alloc _)
  refine wpAnyH_ready (rs := [1, 13]) (by kernel_rfl) (by simp) ?_
  refine AllReadyH.cons (o := { dst := some 5, op := Go.Op.call { callee := Go.Callee.value (Go.Operand.func 61), args := #[Go.Operand.tmp 4], argTypes := #[28] }, type := 5, pos := "arq.go:197", after := #[{ on := 0, ground := Go.Ground.data }], guard := none }) rfl (fun K hK => ?_) (AllReadyH.cons (o := { dst := some 3, op := Go.Op.alloc 25, type := 0, pos := "arq.go:197", after := #[], guard := none }) rfl (fun K hK => ?_) AllReadyH.nil)
  · go_simp
    (with_reducible refine (CRa.out).mono ?_)
    rintro e wc ⟨rfl, rfl⟩
    go_wp2_with fail
    refine hK.out _ _ H2.out (fun hNext => ?_)
    clear hK K
    have hHeld := hNext
    clear hNext
    (try simp only [Act.put, List.setIfInBounds_toArray, List.set_cons_zero, List.set_cons_succ])
    refine' wpAnyH_take (i := 12) (oi := { dst := some 16, op := Go.Op.build 25 #[(2, Go.Operand.tmp 5), (3, Go.Operand.tmp 10), (5, Go.Operand.tmp 15)], type := 25, pos := "arq.go:197", after := #[{ on := 1, ground := Go.Ground.data }, { on := 6, ground := Go.Ground.data }, { on := 11, ground := Go.Ground.data }], guard := none }) (v := _) rfl (by kernel_rfl) (by kernel_rfl) (by kernel_rfl) (fun _ _ _ h => h) (Or.inl ⟨by rfl, ?hy19⟩) (by assumption) ?hr19
    case hy19 => (intro _ hSw; (try dsimp only at hSw); go_simp <;> with_reducible rfl)
    simp only [Act.put, List.setIfInBounds_toArray, List.set_cons_zero, List.set_cons_succ]
    refine wpAnyH_ready (rs := [13]) (by kernel_rfl) (by simp) ?_
    refine AllReadyH.cons (o := { dst := some 3, op := Go.Op.alloc 25, type := 0, pos := "arq.go:197", after := #[], guard := none }) rfl (fun K hK => ?_) AllReadyH.nil
    go_simp
    refine hK.out _ _ (H2.out.alloc noF).tail (fun hNext => ?_)
    clear hHeld
    clear hK K
    have hHeld := hNext
    clear hNext
    (try simp only [Act.put, List.setIfInBounds_toArray, List.set_cons_zero, List.set_cons_succ])
    refine wpAnyH_ready (rs := [14]) (by kernel_rfl) (by simp) ?_
    refine AllReadyH.cons (o := { dst := none, op := Go.Op.store 25 (Go.Operand.tmp 3) (Go.Operand.tmp 16), type := 0, pos := "arq.go:197", after := #[{ on := 13, ground := Go.Ground.data }, { on := 12, ground := Go.Ground.data }, { on := 1, ground := Go.Ground.chain }, { on := 0, ground := Go.Ground.phase }, { on := 1, ground := Go.Ground.phase }, { on := 2, ground := Go.Ground.phase }, { on := 3, ground := Go.Ground.phase }, { on := 4, ground := Go.Ground.phase }, { on := 5, ground := Go.Ground.phase }, { on := 6, ground := Go.Ground.phase }, { on := 7, ground := Go.Ground.phase }, { on := 8, ground := Go.Ground.phase }, { on := 9, ground := Go.Ground.phase }, { on := 10, ground := Go.Ground.phase }, { on := 11, ground := Go.Ground.phase }, { on := 12, ground := Go.Ground.phase }, { on := 13, ground := Go.Ground.phase }], guard := none }) rfl (fun K hK => ?_) AllReadyH.nil
    go_simp
    go_wp2_with fail
    refine hK.out _ _ HE.out.tail (fun hNext => ?_)
    clear hK K hHeld
    have hHeld := hNext
    clear hNext
    (try simp only [Act.put, List.setIfInBounds_toArray, List.set_cons_zero, List.set_cons_succ])
    refine wpAnyH_done (by kernel_rfl) ?_ _
    clear CRa CRb H2 hHeld
    generalize w2.alloc (.cells #[.int .u8 0, .bool false, .int .u8 (Ps.kind y : Int), .bool y.fin, .int .u8 0, .int .u8 (y.vr : Int), .string ⟨#[]⟩] TF (0, 0)) = w3 at HE ⊢
    generalize w2.heap.size = lb at HE HLB hlb ⊢
    have c6 := HE.out.does.at_.cell 6 (.bool y.bu) rfl
    have c16 := HE.out.does.at_.cell 16 (.bool y.due) rfl
    have c17 := HE.out.does.at_.cell 17 (.bool y.fin) rfl
    have c18 := HE.out.does.at_.cell 18 (.bool y.rej) rfl
    rw [hr] at c18
    have hpf := HE.out.does.at_.free
    have hpl := HE.out.lt
    obtain ⟨⟨l0, l1, l2, l3, l4, l5, l6⟩, lf⟩ := cells7 (show w3.heap[lb]? = some (.cells #[.int .u8 0, .bool false, .int .u8 (Ps.kind y : Int), .bool y.fin, .int .u8 0, .int .u8 (y.vr : Int), .string ⟨#[]⟩] TF (0, 0)) from HE.out.at0)
    obtain ⟨⟨k0, k1, k2, k3, k4, k5, k6⟩, kf⟩ := cells7 HE.out.tail.at0
    have HZ := Lib.hid ((((((HE.out).set 16 (.bool false) { y with due := false } rfl rfl).set 17 (.bool false) { y with due := false, fin := false } rfl rfl).set 18 (.bool false) { y with due := false, fin := false, rej := false } rfl rfl).swap).put7 (one_ne (by omega)) (.int .u8 0) (.bool false) (.int .u8 (Ps.kind y : Nat)) (.bool y.fin) (.int .u8 0) (.int .u8 (y.vr : Int)) (.string ⟨#[]⟩))
    go_wp2
    exact bodyPost_ret (res_fm rfl rfl _ _ _ ⟨false, Ps.kind y, y.fin, 0, y.vr, bE⟩ HZ.out.at0 rfl) rfl ⟨rfl, HZ.out.does⟩
  · go_simp
    refine hK.out _ _ (H2.out.alloc noF).tail (fun hNext => ?_)
    clear hK K
    have hHeld := hNext
    clear hNext
    (try simp only [Act.put, List.setIfInBounds_toArray, List.set_cons_zero, List.set_cons_succ])
    refine wpAnyH_ready (rs := [1]) (by kernel_rfl) (by simp) ?_
    refine AllReadyH.cons (o := { dst := some 5, op := Go.Op.call { callee := Go.Callee.value (Go.Operand.func 61), args := #[Go.Operand.tmp 4], argTypes := #[28] }, type := 5, pos := "arq.go:197", after := #[{ on := 0, ground := Go.Ground.data }], guard := none }) rfl (fun K hK => ?_) AllReadyH.nil
    go_simp
    (with_reducible refine (CRb.out).mono ?_)
    rintro e wc ⟨rfl, rfl⟩
    go_wp2_with fail
    refine hK.out _ _ (H2.out.alloc noF).tail (fun hNext => ?_)
    clear hK K hHeld
    have hHeld := hNext
    clear hNext
    (try simp only [Act.put, List.setIfInBounds_toArray, List.set_cons_zero, List.set_cons_succ])
    refine' wpAnyH_take (i := 12) (oi := { dst := some 16, op := Go.Op.build 25 #[(2, Go.Operand.tmp 5), (3, Go.Operand.tmp 10), (5, Go.Operand.tmp 15)], type := 25, pos := "arq.go:197", after := #[{ on := 1, ground := Go.Ground.data }, { on := 6, ground := Go.Ground.data }, { on := 11, ground := Go.Ground.data }], guard := none }) (v := _) rfl (by kernel_rfl) (by kernel_rfl) (by kernel_rfl) (fun _ _ _ h => h) (Or.inl ⟨by rfl, ?hy20⟩) (by assumption) ?hr20
    case hy20 => (intro _ hSw; (try dsimp only at hSw); go_simp <;> with_reducible rfl)
    simp only [Act.put, List.setIfInBounds_toArray, List.set_cons_zero, List.set_cons_succ]
    refine wpAnyH_ready (rs := [14]) (by kernel_rfl) (by simp) ?_
    refine AllReadyH.cons (o := { dst := none, op := Go.Op.store 25 (Go.Operand.tmp 3) (Go.Operand.tmp 16), type := 0, pos := "arq.go:197", after := #[{ on := 13, ground := Go.Ground.data }, { on := 12, ground := Go.Ground.data }, { on := 1, ground := Go.Ground.chain }, { on := 0, ground := Go.Ground.phase }, { on := 1, ground := Go.Ground.phase }, { on := 2, ground := Go.Ground.phase }, { on := 3, ground := Go.Ground.phase }, { on := 4, ground := Go.Ground.phase }, { on := 5, ground := Go.Ground.phase }, { on := 6, ground := Go.Ground.phase }, { on := 7, ground := Go.Ground.phase }, { on := 8, ground := Go.Ground.phase }, { on := 9, ground := Go.Ground.phase }, { on := 10, ground := Go.Ground.phase }, { on := 11, ground := Go.Ground.phase }, { on := 12, ground := Go.Ground.phase }, { on := 13, ground := Go.Ground.phase }], guard := none }) rfl (fun K hK => ?_) AllReadyH.nil
    go_simp
    go_wp2_with fail
    refine hK.out _ _ HE.out.tail (fun hNext => ?_)
    clear hK K hHeld
    have hHeld := hNext
    clear hNext
    (try simp only [Act.put, List.setIfInBounds_toArray, List.set_cons_zero, List.set_cons_succ])
    refine wpAnyH_done (by kernel_rfl) ?_ _
    clear CRa CRb H2 hHeld
    generalize w2.alloc (.cells #[.int .u8 0, .bool false, .int .u8 (Ps.kind y : Int), .bool y.fin, .int .u8 0, .int .u8 (y.vr : Int), .string ⟨#[]⟩] TF (0, 0)) = w3 at HE ⊢
    generalize w2.heap.size = lb at HE HLB hlb ⊢
    have c6 := HE.out.does.at_.cell 6 (.bool y.bu) rfl
    have c16 := HE.out.does.at_.cell 16 (.bool y.due) rfl
    have c17 := HE.out.does.at_.cell 17 (.bool y.fin) rfl
    have c18 := HE.out.does.at_.cell 18 (.bool y.rej) rfl
    rw [hr] at c18
    have hpf := HE.out.does.at_.free
    have hpl := HE.out.lt
    obtain ⟨⟨l0, l1, l2, l3, l4, l5, l6⟩, lf⟩ := cells7 (show w3.heap[lb]? = some (.cells #[.int .u8 0, .bool false, .int .u8 (Ps.kind y : Int), .bool y.fin, .int .u8 0, .int .u8 (y.vr : Int), .string ⟨#[]⟩] TF (0, 0)) from HE.out.at0)
    obtain ⟨⟨k0, k1, k2, k3, k4, k5, k6⟩, kf⟩ := cells7 HE.out.tail.at0
    have HZ := Lib.hid ((((((HE.out).set 16 (.bool false) { y with due := false } rfl rfl).set 17 (.bool false) { y with due := false, fin := false } rfl rfl).set 18 (.bool false) { y with due := false, fin := false, rej := false } rfl rfl).swap).put7 (one_ne (by omega)) (.int .u8 0) (.bool false) (.int .u8 (Ps.kind y : Nat)) (.bool y.fin) (.int .u8 0) (.int .u8 (y.vr : Int)) (.string ⟨#[]⟩))
    go_wp2
    exact bodyPost_ret (res_fm rfl rfl _ _ _ ⟨false, Ps.kind y, y.fin, 0, y.vr, bE⟩ HZ.out.at0 rfl) rfl ⟨rfl, HZ.out.does⟩
set_option maxHeartbeats 4000000 in
set_option maxRecDepth 100000 in
theorem ftakeAnswer_busy (w : World) (pb : Nat) (y : Ps) (v : Value) (h : PAt w pb y v) (hr : y.rej = true) (hb : y.bu = true) :
    Calls Try.prog 53 #[ptr pb] w fun e w' => e = .returned (fmv ⟨false, Ps.kind y, y.fin, 0, y.vr, bE⟩) ∧ ADo pb (Ps.takeAnswer y).1 v w w' := by
  have H1 : Hid (AIn [(w.heap.size, noF)] pb y v w (w.alloc noF)) := Lib.hid (AIn.first h _)
  clear h
  go_enter Try.func53, Try.ntmps53
  go_wp2_with fail
  generalize w.alloc noF = w1 at H1 ⊢
  have H2 := Lib.hid H1.out.drew
  clear H1
  refine wp_region_held_drew (S := (fun w' => AIn [(w.heap.size, noF)] pb y v w w')) (by kernel_rfl) H2.out (fun hHeld => ?_)
  refine' wpAnyH_take (i := 0) (oi := { dst := some 4, op := Go.Op.move (Go.Operand.tmp 0), type := 28, pos := "arq.go:197", after := #[], guard := none }) (v := _) rfl (by kernel_rfl) (by kernel_rfl) (by kernel_rfl) (fun _ _ _ h => h) (Or.inl ⟨by rfl, ?hy21⟩) (by assumption) ?hr21
  case hy21 => (intro _ hSw; (try dsimp only at hSw); go_simp <;> with_reducible rfl)
  simp only [Act.put, List.setIfInBounds_toArray, List.set_cons_zero, List.set_cons_succ]
  refine' wpAnyH_take (i := 2) (oi := { dst := some 6, op := Go.Op.move (Go.Operand.tmp 0), type := 28, pos := "arq.go:197", after := #[], guard := none }) (v := _) rfl (by kernel_rfl) (by kernel_rfl) (by kernel_rfl) (fun _ _ _ h => h) (Or.inl ⟨by rfl, ?hy22⟩) (by assumption) ?hr22
  case hy22 => (intro _ hSw; (try dsimp only at hSw); go_simp <;> with_reducible rfl)
  simp only [Act.put, List.setIfInBounds_toArray, List.set_cons_zero, List.set_cons_succ]
  refine' wpAnyH_take (i := 3) (oi := { dst := some 7, op := Go.Op.nilCheck (Go.Operand.tmp 6), type := 0, pos := "arq.go:197", after := #[{ on := 2, ground := Go.Ground.data }], guard := none }) (v := _) rfl (by kernel_rfl) (by kernel_rfl) (by kernel_rfl) (fun _ _ _ h => h) (Or.inl ⟨by rfl, ?hy23⟩) (by assumption) ?hr23
  case hy23 => (intro _ hSw; (try dsimp only at hSw); go_simp <;> with_reducible rfl)
  simp only [Act.put, List.setIfInBounds_toArray, List.set_cons_zero, List.set_cons_succ]
  refine' wpAnyH_take (i := 4) (oi := { dst := some 8, op := Go.Op.fieldAddr 67 (Go.Operand.tmp 7) 6, type := 0, pos := "arq.go:197", after := #[{ on := 3, ground := Go.Ground.data }], guard := none }) (v := _) rfl (by kernel_rfl) (by kernel_rfl) (by kernel_rfl) (fun _ _ _ h => h) (Or.inl ⟨by rfl, ?hy24⟩) (by assumption) ?hr24
  case hy24 => (intro _ hSw; (try dsimp only at hSw); go_simp <;> with_reducible rfl)
  simp only [Act.put, List.setIfInBounds_toArray, List.set_cons_zero, List.set_cons_succ]
  refine' wpAnyH_take (i := 5) (oi := { dst := some 9, op := Go.Op.fieldAddr 65 (Go.Operand.tmp 8) 1, type := 0, pos := "arq.go:197", after := #[{ on := 4, ground := Go.Ground.data }], guard := none }) (v := _) rfl (by kernel_rfl) (by kernel_rfl) (by kernel_rfl) (fun _ _ _ h => h) (Or.inl ⟨by rfl, ?hy25⟩) (by assumption) ?hr25
  case hy25 => (intro _ hSw; (try dsimp only at hSw); go_simp <;> with_reducible rfl)
  simp only [Act.put, List.setIfInBounds_toArray, List.set_cons_zero, List.set_cons_succ]
  refine' wpAnyH_take (i := 6) (oi := { dst := some 10, op := Go.Op.load 4 (Go.Operand.tmp 9), type := 4, pos := "arq.go:197", after := #[{ on := 5, ground := Go.Ground.data }], guard := none }) (v := _) rfl (by kernel_rfl) (by kernel_rfl) (by kernel_rfl) (fun _ _ _ h => h) (Or.inl ⟨by rfl, ?hy26⟩) (by assumption) ?hr26
  case hy26 => (intro _ hSw; (try dsimp only at hSw); have hc := hSw.does.at_.cell 17 (.bool y.fin) rfl; go_simp <;> with_reducible rfl)
  simp only [Act.put, List.setIfInBounds_toArray, List.set_cons_zero, List.set_cons_succ]
  refine' wpAnyH_take (i := 7) (oi := { dst := some 11, op := Go.Op.move (Go.Operand.tmp 0), type := 28, pos := "arq.go:197", after := #[], guard := none }) (v := _) rfl (by kernel_rfl) (by kernel_rfl) (by kernel_rfl) (fun _ _ _ h => h) (Or.inl ⟨by rfl, ?hy27⟩) (by assumption) ?hr27
  case hy27 => (intro _ hSw; (try dsimp only at hSw); go_simp <;> with_reducible rfl)
  simp only [Act.put, List.setIfInBounds_toArray, List.set_cons_zero, List.set_cons_succ]
  refine' wpAnyH_take (i := 8) (oi := { dst := some 12, op := Go.Op.nilCheck (Go.Operand.tmp 11), type := 0, pos := "arq.go:197", after := #[{ on := 7, ground := Go.Ground.data }], guard := none }) (v := _) rfl (by kernel_rfl) (by kernel_rfl) (by kernel_rfl) (fun _ _ _ h => h) (Or.inl ⟨by rfl, ?hy28⟩) (by assumption) ?hr28
  case hy28 => (intro _ hSw; (try dsimp only at hSw); go_simp <;> with_reducible rfl)
  simp only [Act.put, List.setIfInBounds_toArray, List.set_cons_zero, List.set_cons_succ]
  refine' wpAnyH_take (i := 9) (oi := { dst := some 13, op := Go.Op.fieldAddr 67 (Go.Operand.tmp 12) 0, type := 0, pos := "arq.go:197", after := #[{ on := 8, ground := Go.Ground.data }], guard := none }) (v := _) rfl (by kernel_rfl) (by kernel_rfl) (by kernel_rfl) (fun _ _ _ h => h) (Or.inl ⟨by rfl, ?hy29⟩) (by assumption) ?hr29
  case hy29 => (intro _ hSw; (try dsimp only at hSw); go_simp <;> with_reducible rfl)
  simp only [Act.put, List.setIfInBounds_toArray, List.set_cons_zero, List.set_cons_succ]
  refine' wpAnyH_take (i := 10) (oi := { dst := some 14, op := Go.Op.fieldAddr 62 (Go.Operand.tmp 13) 1, type := 0, pos := "arq.go:197", after := #[{ on := 9, ground := Go.Ground.data }], guard := none }) (v := _) rfl (by kernel_rfl) (by kernel_rfl) (by kernel_rfl) (fun _ _ _ h => h) (Or.inl ⟨by rfl, ?hy30⟩) (by assumption) ?hr30
  case hy30 => (intro _ hSw; (try dsimp only at hSw); go_simp <;> with_reducible rfl)
  simp only [Act.put, List.setIfInBounds_toArray, List.set_cons_zero, List.set_cons_succ]
  refine' wpAnyH_take (i := 11) (oi := { dst := some 15, op := Go.Op.load 5 (Go.Operand.tmp 14), type := 5, pos := "arq.go:197", after := #[{ on := 10, ground := Go.Ground.data }], guard := none }) (v := _) rfl (by kernel_rfl) (by kernel_rfl) (by kernel_rfl) (fun _ _ _ h => h) (Or.inl ⟨by rfl, ?hy31⟩) (by assumption) ?hr31
  case hy31 => (intro _ hSw; (try dsimp only at hSw); have hc := hSw.does.at_.cell 1 (.int .u8 (y.vr : Int)) rfl; go_simp <;> with_reducible rfl)
  simp only [Act.put, List.setIfInBounds_toArray, List.set_cons_zero, List.set_cons_succ]
  clear hHeld
  generalize w1.drew = w2 at H2 ⊢
  have CRa := Lib.hid (fready _ pb _ v H2.out.does.at_)
  have CRb := Lib.hid (fready _ pb _ v (H2.out.alloc noF).does.at_)
  have hlb : w.heap.size < w2.heap.size := lt_heap H2.out.at0
  have HLB := Lib.hid hlb
  have HE : Hid (AIn [(w2.heap.size, fmO ⟨false, Ps.kind y, y.fin, 0, y.vr, bE⟩), (w.heap.size, noF)] pb y v w (w2.alloc (.cells #[.int .u8 0, .bool false, .int .u8 (Ps.kind y : Int), .bool y.fin, .int .u8 0, .int .u8 (y.vr : Int), .string ⟨#[]⟩] TF (0, 0)))) := Lib.hid (H2.out.alloc _)
  refine wpAnyH_ready (rs := [1, 13]) (by kernel_rfl) (by simp) ?_
  refine AllReadyH.cons (o := { dst := some 5, op := Go.Op.call { callee := Go.Callee.value (Go.Operand.func 61), args := #[Go.Operand.tmp 4], argTypes := #[28] }, type := 5, pos := "arq.go:197", after := #[{ on := 0, ground := Go.Ground.data }], guard := none }) rfl (fun K hK => ?_) (AllReadyH.cons (o := { dst := some 3, op := Go.Op.alloc 25, type := 0, pos := "arq.go:197", after := #[], guard := none }) rfl (fun K hK => ?_) AllReadyH.nil)
  · go_simp
    (with_reducible refine (CRa.out).mono ?_)
    rintro e wc ⟨rfl, rfl⟩
    go_wp2_with fail
    refine hK.out _ _ H2.out (fun hNext => ?_)
    clear hK K
    have hHeld := hNext
    clear hNext
    (try simp only [Act.put, List.setIfInBounds_toArray, List.set_cons_zero, List.set_cons_succ])
    refine' wpAnyH_take (i := 12) (oi := { dst := some 16, op := Go.Op.build 25 #[(2, Go.Operand.tmp 5), (3, Go.Operand.tmp 10), (5, Go.Operand.tmp 15)], type := 25, pos := "arq.go:197", after := #[{ on := 1, ground := Go.Ground.data }, { on := 6, ground := Go.Ground.data }, { on := 11, ground := Go.Ground.data }], guard := none }) (v := _) rfl (by kernel_rfl) (by kernel_rfl) (by kernel_rfl) (fun _ _ _ h => h) (Or.inl ⟨by rfl, ?hy32⟩) (by assumption) ?hr32
    case hy32 => (intro _ hSw; (try dsimp only at hSw); go_simp <;> with_reducible rfl)
    simp only [Act.put, List.setIfInBounds_toArray, List.set_cons_zero, List.set_cons_succ]
    refine wpAnyH_ready (rs := [13]) (by kernel_rfl) (by simp) ?_
    refine AllReadyH.cons (o := { dst := some 3, op := Go.Op.alloc 25, type := 0, pos := "arq.go:197", after := #[], guard := none }) rfl (fun K hK => ?_) AllReadyH.nil
    go_simp
    refine hK.out _ _ (H2.out.alloc noF).tail (fun hNext => ?_)
    clear hHeld
    clear hK K
    have hHeld := hNext
    clear hNext
    (try simp only [Act.put, List.setIfInBounds_toArray, List.set_cons_zero, List.set_cons_succ])
    refine wpAnyH_ready (rs := [14]) (by kernel_rfl) (by simp) ?_
    refine AllReadyH.cons (o := { dst := none, op := Go.Op.store 25 (Go.Operand.tmp 3) (Go.Operand.tmp 16), type := 0, pos := "arq.go:197", after := #[{ on := 13, ground := Go.Ground.data }, { on := 12, ground := Go.Ground.data }, { on := 1, ground := Go.Ground.chain }, { on := 0, ground := Go.Ground.phase }, { on := 1, ground := Go.Ground.phase }, { on := 2, ground := Go.Ground.phase }, { on := 3, ground := Go.Ground.phase }, { on := 4, ground := Go.Ground.phase }, { on := 5, ground := Go.Ground.phase }, { on := 6, ground := Go.Ground.phase }, { on := 7, ground := Go.Ground.phase }, { on := 8, ground := Go.Ground.phase }, { on := 9, ground := Go.Ground.phase }, { on := 10, ground := Go.Ground.phase }, { on := 11, ground := Go.Ground.phase }, { on := 12, ground := Go.Ground.phase }, { on := 13, ground := Go.Ground.phase }], guard := none }) rfl (fun K hK => ?_) AllReadyH.nil
    go_simp
    go_wp2_with fail
    refine hK.out _ _ HE.out.tail (fun hNext => ?_)
    clear hK K hHeld
    have hHeld := hNext
    clear hNext
    (try simp only [Act.put, List.setIfInBounds_toArray, List.set_cons_zero, List.set_cons_succ])
    refine wpAnyH_done (by kernel_rfl) ?_ _
    clear CRa CRb H2 hHeld
    generalize w2.alloc (.cells #[.int .u8 0, .bool false, .int .u8 (Ps.kind y : Int), .bool y.fin, .int .u8 0, .int .u8 (y.vr : Int), .string ⟨#[]⟩] TF (0, 0)) = w3 at HE ⊢
    generalize w2.heap.size = lb at HE HLB hlb ⊢
    have c6 := HE.out.does.at_.cell 6 (.bool y.bu) rfl
    have c16 := HE.out.does.at_.cell 16 (.bool y.due) rfl
    have c17 := HE.out.does.at_.cell 17 (.bool y.fin) rfl
    have c18 := HE.out.does.at_.cell 18 (.bool y.rej) rfl
    rw [hr] at c18
    rw [hb] at c6
    have hpf := HE.out.does.at_.free
    have hpl := HE.out.lt
    obtain ⟨⟨l0, l1, l2, l3, l4, l5, l6⟩, lf⟩ := cells7 (show w3.heap[lb]? = some (.cells #[.int .u8 0, .bool false, .int .u8 (Ps.kind y : Int), .bool y.fin, .int .u8 0, .int .u8 (y.vr : Int), .string ⟨#[]⟩] TF (0, 0)) from HE.out.at0)
    obtain ⟨⟨k0, k1, k2, k3, k4, k5, k6⟩, kf⟩ := cells7 HE.out.tail.at0
    have HZ := Lib.hid ((((((HE.out).set 16 (.bool false) { y with due := false } rfl rfl).set 17 (.bool false) { y with due := false, fin := false } rfl rfl).set 18 (.bool false) { y with due := false, fin := false, rej := false } rfl rfl).swap).put7 (one_ne (by omega)) (.int .u8 0) (.bool false) (.int .u8 (Ps.kind y : Nat)) (.bool y.fin) (.int .u8 0) (.int .u8 (y.vr : Int)) (.string ⟨#[]⟩))
    go_wp2
    exact bodyPost_ret (res_fm rfl rfl _ _ _ ⟨false, Ps.kind y, y.fin, 0, y.vr, bE⟩ HZ.out.at0 rfl) rfl ⟨rfl, HZ.out.does⟩
  · go_simp
    refine hK.out _ _ (H2.out.alloc noF).tail (fun hNext => ?_)
    clear hK K
    have hHeld := hNext
    clear hNext
    (try simp only [Act.put, List.setIfInBounds_toArray, List.set_cons_zero, List.set_cons_succ])
    refine wpAnyH_ready (rs := [1]) (by kernel_rfl) (by simp) ?_
    refine AllReadyH.cons (o := { dst := some 5, op := Go.Op.call { callee := Go.Callee.value (Go.Operand.func 61), args := #[Go.Operand.tmp 4], argTypes := #[28] }, type := 5, pos := "arq.go:197", after := #[{ on := 0, ground := Go.Ground.data }], guard := none }) rfl (fun K hK => ?_) AllReadyH.nil
    go_simp
    (with_reducible refine (CRb.out).mono ?_)
    rintro e wc ⟨rfl, rfl⟩
    go_wp2_with fail
    refine hK.out _ _ (H2.out.alloc noF).tail (fun hNext => ?_)
    clear hK K hHeld
    have hHeld := hNext
    clear hNext
    (try simp only [Act.put, List.setIfInBounds_toArray, List.set_cons_zero, List.set_cons_succ])
    refine' wpAnyH_take (i := 12) (oi := { dst := some 16, op := Go.Op.build 25 #[(2, Go.Operand.tmp 5), (3, Go.Operand.tmp 10), (5, Go.Operand.tmp 15)], type := 25, pos := "arq.go:197", after := #[{ on := 1, ground := Go.Ground.data }, { on := 6, ground := Go.Ground.data }, { on := 11, ground := Go.Ground.data }], guard := none }) (v := _) rfl (by kernel_rfl) (by kernel_rfl) (by kernel_rfl) (fun _ _ _ h => h) (Or.inl ⟨by rfl, ?hy33⟩) (by assumption) ?hr33
    case hy33 => (intro _ hSw; (try dsimp only at hSw); go_simp <;> with_reducible rfl)
    simp only [Act.put, List.setIfInBounds_toArray, List.set_cons_zero, List.set_cons_succ]
    refine wpAnyH_ready (rs := [14]) (by kernel_rfl) (by simp) ?_
    refine AllReadyH.cons (o := { dst := none, op := Go.Op.store 25 (Go.Operand.tmp 3) (Go.Operand.tmp 16), type := 0, pos := "arq.go:197", after := #[{ on := 13, ground := Go.Ground.data }, { on := 12, ground := Go.Ground.data }, { on := 1, ground := Go.Ground.chain }, { on := 0, ground := Go.Ground.phase }, { on := 1, ground := Go.Ground.phase }, { on := 2, ground := Go.Ground.phase }, { on := 3, ground := Go.Ground.phase }, { on := 4, ground := Go.Ground.phase }, { on := 5, ground := Go.Ground.phase }, { on := 6, ground := Go.Ground.phase }, { on := 7, ground := Go.Ground.phase }, { on := 8, ground := Go.Ground.phase }, { on := 9, ground := Go.Ground.phase }, { on := 10, ground := Go.Ground.phase }, { on := 11, ground := Go.Ground.phase }, { on := 12, ground := Go.Ground.phase }, { on := 13, ground := Go.Ground.phase }], guard := none }) rfl (fun K hK => ?_) AllReadyH.nil
    go_simp
    go_wp2_with fail
    refine hK.out _ _ HE.out.tail (fun hNext => ?_)
    clear hK K hHeld
    have hHeld := hNext
    clear hNext
    (try simp only [Act.put, List.setIfInBounds_toArray, List.set_cons_zero, List.set_cons_succ])
    refine wpAnyH_done (by kernel_rfl) ?_ _
    clear CRa CRb H2 hHeld
    generalize w2.alloc (.cells #[.int .u8 0, .bool false, .int .u8 (Ps.kind y : Int), .bool y.fin, .int .u8 0, .int .u8 (y.vr : Int), .string ⟨#[]⟩] TF (0, 0)) = w3 at HE ⊢
    generalize w2.heap.size = lb at HE HLB hlb ⊢
    have c6 := HE.out.does.at_.cell 6 (.bool y.bu) rfl
    have c16 := HE.out.does.at_.cell 16 (.bool y.due) rfl
    have c17 := HE.out.does.at_.cell 17 (.bool y.fin) rfl
    have c18 := HE.out.does.at_.cell 18 (.bool y.rej) rfl
    rw [hr] at c18
    rw [hb] at c6
    have hpf := HE.out.does.at_.free
    have hpl := HE.out.lt
    obtain ⟨⟨l0, l1, l2, l3, l4, l5, l6⟩, lf⟩ := cells7 (show w3.heap[lb]? = some (.cells #[.int .u8 0, .bool false, .int .u8 (Ps.kind y : Int), .bool y.fin, .int .u8 0, .int .u8 (y.vr : Int), .string ⟨#[]⟩] TF (0, 0)) from HE.out.at0)
    obtain ⟨⟨k0, k1, k2, k3, k4, k5, k6⟩, kf⟩ := cells7 HE.out.tail.at0
    have HZ := Lib.hid ((((((HE.out).set 16 (.bool false) { y with due := false } rfl rfl).set 17 (.bool false) { y with due := false, fin := false } rfl rfl).set 18 (.bool false) { y with due := false, fin := false, rej := false } rfl rfl).swap).put7 (one_ne (by omega)) (.int .u8 0) (.bool false) (.int .u8 (Ps.kind y : Nat)) (.bool y.fin) (.int .u8 0) (.int .u8 (y.vr : Int)) (.string ⟨#[]⟩))
    go_wp2
    exact bodyPost_ret (res_fm rfl rfl _ _ _ ⟨false, Ps.kind y, y.fin, 0, y.vr, bE⟩ HZ.out.at0 rfl) rfl ⟨rfl, HZ.out.does⟩
set_option maxHeartbeats 4000000 in
set_option maxRecDepth 100000 in
theorem ftakeAnswer_rej (w : World) (pb : Nat) (y : Ps) (v : Value) (h : PAt w pb y v) (hr : y.rej = true) (hb : y.bu = false) :
    Calls Try.prog 53 #[ptr pb] w fun e w' => e = .returned (fmv ⟨false, 10, y.fin, 0, y.vr, bE⟩) ∧ ADo pb (Ps.takeAnswer y).1 v w w' := by
  have H1 : Hid (AIn [(w.heap.size, noF)] pb y v w (w.alloc noF)) := Lib.hid (AIn.first h _)
  clear h
  go_enter Try.func53, Try.ntmps53
  go_wp2_with fail
  generalize w.alloc noF = w1 at H1 ⊢
  have H2 := Lib.hid H1.out.drew
  clear H1
  refine wp_region_held_drew (S := (fun w' => AIn [(w.heap.size, noF)] pb y v w w')) (by kernel_rfl) H2.out (fun hHeld => ?_)
  refine' wpAnyH_take (i := 0) (oi := { dst := some 4, op := Go.Op.move (Go.Operand.tmp 0), type := 28, pos := "arq.go:197", after := #[], guard := none }) (v := _) rfl (by kernel_rfl) (by kernel_rfl) (by kernel_rfl) (fun _ _ _ h => h) (Or.inl ⟨by rfl, ?hy34⟩) (by assumption) ?hr34
  case hy34 => (intro _ hSw; (try dsimp only at hSw); go_simp <;> with_reducible rfl)
  simp only [Act.put, List.setIfInBounds_toArray, List.set_cons_zero, List.set_cons_succ]
  refine' wpAnyH_take (i := 2) (oi := { dst := some 6, op := Go.Op.move (Go.Operand.tmp 0), type := 28, pos := "arq.go:197", after := #[], guard := none }) (v := _) rfl (by kernel_rfl) (by kernel_rfl) (by kernel_rfl) (fun _ _ _ h => h) (Or.inl ⟨by rfl, ?hy35⟩) (by assumption) ?hr35
  case hy35 => (intro _ hSw; (try dsimp only at hSw); go_simp <;> with_reducible rfl)
  simp only [Act.put, List.setIfInBounds_toArray, List.set_cons_zero, List.set_cons_succ]
  refine' wpAnyH_take (i := 3) (oi := { dst := some 7, op := Go.Op.nilCheck (Go.Operand.tmp 6), type := 0, pos := "arq.go:197", after := #[{ on := 2, ground := Go.Ground.data }], guard := none }) (v := _) rfl (by kernel_rfl) (by kernel_rfl) (by kernel_rfl) (fun _ _ _ h => h) (Or.inl ⟨by rfl, ?hy36⟩) (by assumption) ?hr36
  case hy36 => (intro _ hSw; (try dsimp only at hSw); go_simp <;> with_reducible rfl)
  simp only [Act.put, List.setIfInBounds_toArray, List.set_cons_zero, List.set_cons_succ]
  refine' wpAnyH_take (i := 4) (oi := { dst := some 8, op := Go.Op.fieldAddr 67 (Go.Operand.tmp 7) 6, type := 0, pos := "arq.go:197", after := #[{ on := 3, ground := Go.Ground.data }], guard := none }) (v := _) rfl (by kernel_rfl) (by kernel_rfl) (by kernel_rfl) (fun _ _ _ h => h) (Or.inl ⟨by rfl, ?hy37⟩) (by assumption) ?hr37
  case hy37 => (intro _ hSw; (try dsimp only at hSw); go_simp <;> with_reducible rfl)
  simp only [Act.put, List.setIfInBounds_toArray, List.set_cons_zero, List.set_cons_succ]
  refine' wpAnyH_take (i := 5) (oi := { dst := some 9, op := Go.Op.fieldAddr 65 (Go.Operand.tmp 8) 1, type := 0, pos := "arq.go:197", after := #[{ on := 4, ground := Go.Ground.data }], guard := none }) (v := _) rfl (by kernel_rfl) (by kernel_rfl) (by kernel_rfl) (fun _ _ _ h => h) (Or.inl ⟨by rfl, ?hy38⟩) (by assumption) ?hr38
  case hy38 => (intro _ hSw; (try dsimp only at hSw); go_simp <;> with_reducible rfl)
  simp only [Act.put, List.setIfInBounds_toArray, List.set_cons_zero, List.set_cons_succ]
  refine' wpAnyH_take (i := 6) (oi := { dst := some 10, op := Go.Op.load 4 (Go.Operand.tmp 9), type := 4, pos := "arq.go:197", after := #[{ on := 5, ground := Go.Ground.data }], guard := none }) (v := _) rfl (by kernel_rfl) (by kernel_rfl) (by kernel_rfl) (fun _ _ _ h => h) (Or.inl ⟨by rfl, ?hy39⟩) (by assumption) ?hr39
  case hy39 => (intro _ hSw; (try dsimp only at hSw); have hc := hSw.does.at_.cell 17 (.bool y.fin) rfl; go_simp <;> with_reducible rfl)
  simp only [Act.put, List.setIfInBounds_toArray, List.set_cons_zero, List.set_cons_succ]
  refine' wpAnyH_take (i := 7) (oi := { dst := some 11, op := Go.Op.move (Go.Operand.tmp 0), type := 28, pos := "arq.go:197", after := #[], guard := none }) (v := _) rfl (by kernel_rfl) (by kernel_rfl) (by kernel_rfl) (fun _ _ _ h => h) (Or.inl ⟨by rfl, ?hy40⟩) (by assumption) ?hr40
  case hy40 => (intro _ hSw; (try dsimp only at hSw); go_simp <;> with_reducible rfl)
  simp only [Act.put, List.setIfInBounds_toArray, List.set_cons_zero, List.set_cons_succ]
  refine' wpAnyH_take (i := 8) (oi := { dst := some 12, op := Go.Op.nilCheck (Go.Operand.tmp 11), type := 0, pos := "arq.go:197", after := #[{ on := 7, ground := Go.Ground.data }], guard := none }) (v := _) rfl (by kernel_rfl) (by kernel_rfl) (by kernel_rfl) (fun _ _ _ h => h) (Or.inl ⟨by rfl, ?hy41⟩) (by assumption) ?hr41
  case hy41 => (intro _ hSw; (try dsimp only at hSw); go_simp <;> with_reducible rfl)
  simp only [Act.put, List.setIfInBounds_toArray, List.set_cons_zero, List.set_cons_succ]
  refine' wpAnyH_take (i := 9) (oi := { dst := some 13, op := Go.Op.fieldAddr 67 (Go.Operand.tmp 12) 0, type := 0, pos := "arq.go:197", after := #[{ on := 8, ground := Go.Ground.data }], guard := none }) (v := _) rfl (by kernel_rfl) (by kernel_rfl) (by kernel_rfl) (fun _ _ _ h => h) (Or.inl ⟨by rfl, ?hy42⟩) (by assumption) ?hr42
  case hy42 => (intro _ hSw; (try dsimp only at hSw); go_simp <;> with_reducible rfl)
  simp only [Act.put, List.setIfInBounds_toArray, List.set_cons_zero, List.set_cons_succ]
  refine' wpAnyH_take (i := 10) (oi := { dst := some 14, op := Go.Op.fieldAddr 62 (Go.Operand.tmp 13) 1, type := 0, pos := "arq.go:197", after := #[{ on := 9, ground := Go.Ground.data }], guard := none }) (v := _) rfl (by kernel_rfl) (by kernel_rfl) (by kernel_rfl) (fun _ _ _ h => h) (Or.inl ⟨by rfl, ?hy43⟩) (by assumption) ?hr43
  case hy43 => (intro _ hSw; (try dsimp only at hSw); go_simp <;> with_reducible rfl)
  simp only [Act.put, List.setIfInBounds_toArray, List.set_cons_zero, List.set_cons_succ]
  refine' wpAnyH_take (i := 11) (oi := { dst := some 15, op := Go.Op.load 5 (Go.Operand.tmp 14), type := 5, pos := "arq.go:197", after := #[{ on := 10, ground := Go.Ground.data }], guard := none }) (v := _) rfl (by kernel_rfl) (by kernel_rfl) (by kernel_rfl) (fun _ _ _ h => h) (Or.inl ⟨by rfl, ?hy44⟩) (by assumption) ?hr44
  case hy44 => (intro _ hSw; (try dsimp only at hSw); have hc := hSw.does.at_.cell 1 (.int .u8 (y.vr : Int)) rfl; go_simp <;> with_reducible rfl)
  simp only [Act.put, List.setIfInBounds_toArray, List.set_cons_zero, List.set_cons_succ]
  clear hHeld
  generalize w1.drew = w2 at H2 ⊢
  have CRa := Lib.hid (fready _ pb _ v H2.out.does.at_)
  have CRb := Lib.hid (fready _ pb _ v (H2.out.alloc noF).does.at_)
  have hlb : w.heap.size < w2.heap.size := lt_heap H2.out.at0
  have HLB := Lib.hid hlb
  have HE : Hid (AIn [(w2.heap.size, fmO ⟨false, Ps.kind y, y.fin, 0, y.vr, bE⟩), (w.heap.size, noF)] pb y v w (w2.alloc (.cells #[.int .u8 0, .bool false, .int .u8 (Ps.kind y : Int), .bool y.fin, .int .u8 0, .int .u8 (y.vr : Int), .string ⟨#[]⟩] TF (0, 0)))) := Lib.hid (H2.out.alloc _)
  refine wpAnyH_ready (rs := [1, 13]) (by kernel_rfl) (by simp) ?_
  refine AllReadyH.cons (o := { dst := some 5, op := Go.Op.call { callee := Go.Callee.value (Go.Operand.func 61), args := #[Go.Operand.tmp 4], argTypes := #[28] }, type := 5, pos := "arq.go:197", after := #[{ on := 0, ground := Go.Ground.data }], guard := none }) rfl (fun K hK => ?_) (AllReadyH.cons (o := { dst := some 3, op := Go.Op.alloc 25, type := 0, pos := "arq.go:197", after := #[], guard := none }) rfl (fun K hK => ?_) AllReadyH.nil)
  · go_simp
    (with_reducible refine (CRa.out).mono ?_)
    rintro e wc ⟨rfl, rfl⟩
    go_wp2_with fail
    refine hK.out _ _ H2.out (fun hNext => ?_)
    clear hK K
    have hHeld := hNext
    clear hNext
    (try simp only [Act.put, List.setIfInBounds_toArray, List.set_cons_zero, List.set_cons_succ])
    refine' wpAnyH_take (i := 12) (oi := { dst := some 16, op := Go.Op.build 25 #[(2, Go.Operand.tmp 5), (3, Go.Operand.tmp 10), (5, Go.Operand.tmp 15)], type := 25, pos := "arq.go:197", after := #[{ on := 1, ground := Go.Ground.data }, { on := 6, ground := Go.Ground.data }, { on := 11, ground := Go.Ground.data }], guard := none }) (v := _) rfl (by kernel_rfl) (by kernel_rfl) (by kernel_rfl) (fun _ _ _ h => h) (Or.inl ⟨by rfl, ?hy45⟩) (by assumption) ?hr45
    case hy45 => (intro _ hSw; (try dsimp only at hSw); go_simp <;> with_reducible rfl)
    simp only [Act.put, List.setIfInBounds_toArray, List.set_cons_zero, List.set_cons_succ]
    refine wpAnyH_ready (rs := [13]) (by kernel_rfl) (by simp) ?_
    refine AllReadyH.cons (o := { dst := some 3, op := Go.Op.alloc 25, type := 0, pos := "arq.go:197", after := #[], guard := none }) rfl (fun K hK => ?_) AllReadyH.nil
    go_simp
    refine hK.out _ _ (H2.out.alloc noF).tail (fun hNext => ?_)
    clear hHeld
    clear hK K
    have hHeld := hNext
    clear hNext
    (try simp only [Act.put, List.setIfInBounds_toArray, List.set_cons_zero, List.set_cons_succ])
    refine wpAnyH_ready (rs := [14]) (by kernel_rfl) (by simp) ?_
    refine AllReadyH.cons (o := { dst := none, op := Go.Op.store 25 (Go.Operand.tmp 3) (Go.Operand.tmp 16), type := 0, pos := "arq.go:197", after := #[{ on := 13, ground := Go.Ground.data }, { on := 12, ground := Go.Ground.data }, { on := 1, ground := Go.Ground.chain }, { on := 0, ground := Go.Ground.phase }, { on := 1, ground := Go.Ground.phase }, { on := 2, ground := Go.Ground.phase }, { on := 3, ground := Go.Ground.phase }, { on := 4, ground := Go.Ground.phase }, { on := 5, ground := Go.Ground.phase }, { on := 6, ground := Go.Ground.phase }, { on := 7, ground := Go.Ground.phase }, { on := 8, ground := Go.Ground.phase }, { on := 9, ground := Go.Ground.phase }, { on := 10, ground := Go.Ground.phase }, { on := 11, ground := Go.Ground.phase }, { on := 12, ground := Go.Ground.phase }, { on := 13, ground := Go.Ground.phase }], guard := none }) rfl (fun K hK => ?_) AllReadyH.nil
    go_simp
    go_wp2_with fail
    refine hK.out _ _ HE.out.tail (fun hNext => ?_)
    clear hK K hHeld
    have hHeld := hNext
    clear hNext
    (try simp only [Act.put, List.setIfInBounds_toArray, List.set_cons_zero, List.set_cons_succ])
    refine wpAnyH_done (by kernel_rfl) ?_ _
    clear CRa CRb H2 hHeld
    generalize w2.alloc (.cells #[.int .u8 0, .bool false, .int .u8 (Ps.kind y : Int), .bool y.fin, .int .u8 0, .int .u8 (y.vr : Int), .string ⟨#[]⟩] TF (0, 0)) = w3 at HE ⊢
    generalize w2.heap.size = lb at HE HLB hlb ⊢
    have c6 := HE.out.does.at_.cell 6 (.bool y.bu) rfl
    have c16 := HE.out.does.at_.cell 16 (.bool y.due) rfl
    have c17 := HE.out.does.at_.cell 17 (.bool y.fin) rfl
    have c18 := HE.out.does.at_.cell 18 (.bool y.rej) rfl
    rw [hr] at c18
    rw [hb] at c6
    have hpf := HE.out.does.at_.free
    have hpl := HE.out.lt
    obtain ⟨⟨l0, l1, l2, l3, l4, l5, l6⟩, lf⟩ := cells7 (show w3.heap[lb]? = some (.cells #[.int .u8 0, .bool false, .int .u8 (Ps.kind y : Int), .bool y.fin, .int .u8 0, .int .u8 (y.vr : Int), .string ⟨#[]⟩] TF (0, 0)) from HE.out.at0)
    obtain ⟨⟨k0, k1, k2, k3, k4, k5, k6⟩, kf⟩ := cells7 HE.out.tail.at0
    have HZ := Lib.hid ((((((HE.out.putk 10 (one_ne (by omega))).set 16 (.bool false) { y with due := false } rfl rfl).set 17 (.bool false) { y with due := false, fin := false } rfl rfl).set 18 (.bool false) { y with due := false, fin := false, rej := false } rfl rfl).swap).put7 (one_ne (by omega)) (.int .u8 0) (.bool false) (.int .u8 (10 : Nat)) (.bool y.fin) (.int .u8 0) (.int .u8 (y.vr : Int)) (.string ⟨#[]⟩))
    go_wp2
    exact bodyPost_ret (res_fm rfl rfl _ _ _ ⟨false, 10, y.fin, 0, y.vr, bE⟩ HZ.out.at0 rfl) rfl ⟨rfl, HZ.out.does⟩
  · go_simp
    refine hK.out _ _ (H2.out.alloc noF).tail (fun hNext => ?_)
    clear hK K
    have hHeld := hNext
    clear hNext
    (try simp only [Act.put, List.setIfInBounds_toArray, List.set_cons_zero, List.set_cons_succ])
    refine wpAnyH_ready (rs := [1]) (by kernel_rfl) (by simp) ?_
    refine AllReadyH.cons (o := { dst := some 5, op := Go.Op.call { callee := Go.Callee.value (Go.Operand.func 61), args := #[Go.Operand.tmp 4], argTypes := #[28] }, type := 5, pos := "arq.go:197", after := #[{ on := 0, ground := Go.Ground.data }], guard := none }) rfl (fun K hK => ?_) AllReadyH.nil
    go_simp
    (with_reducible refine (CRb.out).mono ?_)
    rintro e wc ⟨rfl, rfl⟩
    go_wp2_with fail
    refine hK.out _ _ (H2.out.alloc noF).tail (fun hNext => ?_)
    clear hK K hHeld
    have hHeld := hNext
    clear hNext
    (try simp only [Act.put, List.setIfInBounds_toArray, List.set_cons_zero, List.set_cons_succ])
    refine' wpAnyH_take (i := 12) (oi := { dst := some 16, op := Go.Op.build 25 #[(2, Go.Operand.tmp 5), (3, Go.Operand.tmp 10), (5, Go.Operand.tmp 15)], type := 25, pos := "arq.go:197", after := #[{ on := 1, ground := Go.Ground.data }, { on := 6, ground := Go.Ground.data }, { on := 11, ground := Go.Ground.data }], guard := none }) (v := _) rfl (by kernel_rfl) (by kernel_rfl) (by kernel_rfl) (fun _ _ _ h => h) (Or.inl ⟨by rfl, ?hy46⟩) (by assumption) ?hr46
    case hy46 => (intro _ hSw; (try dsimp only at hSw); go_simp <;> with_reducible rfl)
    simp only [Act.put, List.setIfInBounds_toArray, List.set_cons_zero, List.set_cons_succ]
    refine wpAnyH_ready (rs := [14]) (by kernel_rfl) (by simp) ?_
    refine AllReadyH.cons (o := { dst := none, op := Go.Op.store 25 (Go.Operand.tmp 3) (Go.Operand.tmp 16), type := 0, pos := "arq.go:197", after := #[{ on := 13, ground := Go.Ground.data }, { on := 12, ground := Go.Ground.data }, { on := 1, ground := Go.Ground.chain }, { on := 0, ground := Go.Ground.phase }, { on := 1, ground := Go.Ground.phase }, { on := 2, ground := Go.Ground.phase }, { on := 3, ground := Go.Ground.phase }, { on := 4, ground := Go.Ground.phase }, { on := 5, ground := Go.Ground.phase }, { on := 6, ground := Go.Ground.phase }, { on := 7, ground := Go.Ground.phase }, { on := 8, ground := Go.Ground.phase }, { on := 9, ground := Go.Ground.phase }, { on := 10, ground := Go.Ground.phase }, { on := 11, ground := Go.Ground.phase }, { on := 12, ground := Go.Ground.phase }, { on := 13, ground := Go.Ground.phase }], guard := none }) rfl (fun K hK => ?_) AllReadyH.nil
    go_simp
    go_wp2_with fail
    refine hK.out _ _ HE.out.tail (fun hNext => ?_)
    clear hK K hHeld
    have hHeld := hNext
    clear hNext
    (try simp only [Act.put, List.setIfInBounds_toArray, List.set_cons_zero, List.set_cons_succ])
    refine wpAnyH_done (by kernel_rfl) ?_ _
    clear CRa CRb H2 hHeld
    generalize w2.alloc (.cells #[.int .u8 0, .bool false, .int .u8 (Ps.kind y : Int), .bool y.fin, .int .u8 0, .int .u8 (y.vr : Int), .string ⟨#[]⟩] TF (0, 0)) = w3 at HE ⊢
    generalize w2.heap.size = lb at HE HLB hlb ⊢
    have c6 := HE.out.does.at_.cell 6 (.bool y.bu) rfl
    have c16 := HE.out.does.at_.cell 16 (.bool y.due) rfl
    have c17 := HE.out.does.at_.cell 17 (.bool y.fin) rfl
    have c18 := HE.out.does.at_.cell 18 (.bool y.rej) rfl
    rw [hr] at c18
    rw [hb] at c6
    have hpf := HE.out.does.at_.free
    have hpl := HE.out.lt
    obtain ⟨⟨l0, l1, l2, l3, l4, l5, l6⟩, lf⟩ := cells7 (show w3.heap[lb]? = some (.cells #[.int .u8 0, .bool false, .int .u8 (Ps.kind y : Int), .bool y.fin, .int .u8 0, .int .u8 (y.vr : Int), .string ⟨#[]⟩] TF (0, 0)) from HE.out.at0)
    obtain ⟨⟨k0, k1, k2, k3, k4, k5, k6⟩, kf⟩ := cells7 HE.out.tail.at0
    have HZ := Lib.hid ((((((HE.out.putk 10 (one_ne (by omega))).set 16 (.bool false) { y with due := false } rfl rfl).set 17 (.bool false) { y with due := false, fin := false } rfl rfl).set 18 (.bool false) { y with due := false, fin := false, rej := false } rfl rfl).swap).put7 (one_ne (by omega)) (.int .u8 0) (.bool false) (.int .u8 (10 : Nat)) (.bool y.fin) (.int .u8 0) (.int .u8 (y.vr : Int)) (.string ⟨#[]⟩))
    go_wp2
    exact bodyPost_ret (res_fm rfl rfl _ _ _ ⟨false, 10, y.fin, 0, y.vr, bE⟩ HZ.out.at0 rfl) rfl ⟨rfl, HZ.out.does⟩
theorem ftakeAnswer (w : World) (pb : Nat) (y : Ps) (v : Value) (h : PAt w pb y v) :
    Calls Try.prog 53 #[ptr pb] w fun e w' => e = .returned (fmv (Ps.takeAnswer y).2) ∧ ADo pb (Ps.takeAnswer y).1 v w w' := by
  by_cases hr : y.rej = true
  · by_cases hb : y.bu = true
    · rw [show (Ps.takeAnswer y).2 = ⟨false, Ps.kind y, y.fin, 0, y.vr, bE⟩ by unfold Ps.takeAnswer; simp [hb]]
      exact ftakeAnswer_busy w pb y v h hr hb
    · have hb : y.bu = false := by simpa using hb
      rw [show (Ps.takeAnswer y).2 = ⟨false, 10, y.fin, 0, y.vr, bE⟩ by unfold Ps.takeAnswer; simp [hr, hb]]
      exact ftakeAnswer_rej w pb y v h hr hb
  · have hr : y.rej = false := by simpa using hr
    rw [show (Ps.takeAnswer y).2 = ⟨false, Ps.kind y, y.fin, 0, y.vr, bE⟩ by unfold Ps.takeAnswer; simp [hr]]
    exact ftakeAnswer_no w pb y v h hr
end Go.Proofs.Ytkoaplmlabagnaa.Aq
