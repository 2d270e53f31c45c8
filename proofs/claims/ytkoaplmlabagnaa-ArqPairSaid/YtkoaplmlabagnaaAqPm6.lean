/-
  The program's own side: takeInfo, takeDue, Next. Condition: it lies where it says; its numbers are small.
-/
import Derived.Test.YtkoaplmlabagnaaAqPm5
namespace Go.Proofs.Ytkoaplmlabagnaa.Aq
open Go.RowKit Go.Proofs.Ytkoaplmlabagnaa.Base Go.Proofs.Ytkoaplmlabagnaa.Mem
theorem drewN_below {w w' : World} (h : ∃ m, w' = w.drewN m) : Below w.heap.size w w' := by
  obtain ⟨m, rfl⟩ := h
  exact ⟨rfl, rfl, rfl, Nat.le_refl _, fun _ _ => rfl⟩
set_option maxHeartbeats 4000000 in
set_option maxRecDepth 100000 in
theorem ftakeInfo (w : World) (pb : Nat) (y : Ps) (v : Value) (h : PAt w pb y v) (hf : PFit y) (hm : y.out < y.q.length) :
    Calls Try.prog 55 #[ptr pb] w fun e w' => e = .returned (fmv (Ps.takeInfo y).2) ∧ ADo pb (Ps.takeInfo y).1 v w w' := by
  rcases h.q with ⟨_, hq⟩ | ⟨gb, go, cap, rfl, hgl, hR⟩
  · rw [hq] at hm; exact absurd hm (Nat.not_lt_zero _)
  have H1 : Hid (AIn [(w.heap.size, noF)] pb y (.slice (some ⟨gb, go, none⟩) y.q.length cap) w (w.alloc noF)) := Lib.hid (AIn.first h _)
  have HF := Lib.hid hf
  obtain ⟨n, hn⟩ : ∃ n, y.q.length = n := ⟨_, rfl⟩
  obtain ⟨o, ho⟩ : ∃ o, y.out = o := ⟨_, rfl⟩
  obtain ⟨s, hs⟩ : ∃ s, y.q.getD o bE = s := ⟨_, rfl⟩
  have hx : y.q[o]? = some s := by
    rw [← hs, List.getD_eq_getElem?_getD, List.getElem?_eq_getElem (by omega)]; rfl
  have hgs : w.cell? ⟨gb, go + o, none⟩ = some (.string s) := by
    have := hR.cell o s hx 0 (by decide)
    rwa [show go + (1 * o + 0) = go + o by omega] at this
  have HG : Hid (∀ w', Below w.heap.size w w' → w'.cell? ⟨gb, go + o, none⟩ = some (.string s)) := Lib.hid fun w' hb => cell_below hgs hb
  obtain ⟨r, hr⟩ : ∃ r, (y.va + o) % 8 = r := ⟨_, rfl⟩
  have H55 : Hid (Ps.takeInfo y = ({ y with out := o + 1, hi := max y.hi (o + 1) }, ⟨true, 7, false, r, y.vr, s⟩)) := by
    show _ = _
    unfold Ps.takeInfo
    rw [ho, hs, hr]
  have hon : o < n := by omega
  have hon2 : (o : Int) < (n : Int) := by omega
  have j0 : (0 : Int) ≤ (o : Int) := by omega
  rw [hn] at H1 ⊢
  have HO := Lib.hid ho
  have hgw := hR.lt
  have HRV := Lib.hid hr
  rw [H55.out]
  have hn7 : n ≤ 7 := by have := hf.q; omega
  obtain ⟨oi, hoi⟩ : ∃ k, y.hi = k := ⟨_, rfl⟩
  have hhi := hf.hi
  rw [hoi, hn] at hhi
  obtain ⟨o1, ho1⟩ : ∃ k, o + 1 = k := ⟨_, rfl⟩
  obtain ⟨mx, hmx⟩ : ∃ k, max oi o1 = k := ⟨_, rfl⟩
  have q1 : IntKind.i64.wrap ((o : Int) + 1) = (o1 : Int) := by rw [IntKind.wrap_i64]; omega
  have q2 : max (oi : Int) (o1 : Int) = (mx : Int) := by omega
  have q3 : max oi o1 = mx := hmx
  rw [hoi, ho1, hmx]
  have HOI := Lib.hid hoi
  clear h hf hm hR hn ho hs hx hgs hr hoi ho1 hmx H55 hgl
  go_enter Try.func55, Try.ntmps55
  go_wp2_with fail
  have hg1 := HG.out _ (nest_below w [noF])
  rw [show [noF].foldl World.alloc w = w.alloc noF from rfl] at hg1
  generalize w.alloc noF = w1 at H1 hg1 ⊢
  have hg2 : w1.drew.cell? ⟨gb, go + o, none⟩ = some (.string s) := hg1
  have H2 := Lib.hid H1.out.drew
  clear H1
  refine wp_region_held_drew (S := (fun w' => AIn [(w.heap.size, noF)] pb y (.slice (some ⟨gb, go, none⟩) n cap) w w' ∧ w'.cell? ⟨gb, go + o, none⟩ = some (.string s))) (by kernel_rfl) ⟨H2.out, hg2⟩ (fun hHeld => ?_)
  refine' wpAnyH_take (i := 0) (oi := { dst := some 4, op := Go.Op.move (Go.Operand.tmp 0), type := 28, pos := "arq.go:211", after := #[], guard := none }) (v := _) rfl (by kernel_rfl) (by kernel_rfl) (by kernel_rfl) (fun _ _ _ h => h) (Or.inl ⟨by rfl, ?hy1⟩) (by assumption) ?hr1
  case hy1 => (intro _ hSw; (try dsimp only at hSw); go_simp <;> with_reducible rfl)
  simp only [Act.put, List.setIfInBounds_toArray, List.set_cons_zero, List.set_cons_succ]
  refine' wpAnyH_take (i := 2) (oi := { dst := some 6, op := Go.Op.move (Go.Operand.tmp 0), type := 28, pos := "arq.go:211", after := #[], guard := none }) (v := _) rfl (by kernel_rfl) (by kernel_rfl) (by kernel_rfl) (fun _ _ _ h => h) (Or.inl ⟨by rfl, ?hy2⟩) (by assumption) ?hr2
  case hy2 => (intro _ hSw; (try dsimp only at hSw); go_simp <;> with_reducible rfl)
  simp only [Act.put, List.setIfInBounds_toArray, List.set_cons_zero, List.set_cons_succ]
  refine' wpAnyH_take (i := 3) (oi := { dst := some 7, op := Go.Op.nilCheck (Go.Operand.tmp 6), type := 0, pos := "arq.go:211", after := #[{ on := 2, ground := Go.Ground.data }], guard := none }) (v := _) rfl (by kernel_rfl) (by kernel_rfl) (by kernel_rfl) (fun _ _ _ h => h) (Or.inl ⟨by rfl, ?hy3⟩) (by assumption) ?hr3
  case hy3 => (intro _ hSw; (try dsimp only at hSw); go_simp <;> with_reducible rfl)
  simp only [Act.put, List.setIfInBounds_toArray, List.set_cons_zero, List.set_cons_succ]
  refine' wpAnyH_take (i := 4) (oi := { dst := some 8, op := Go.Op.fieldAddr 67 (Go.Operand.tmp 7) 0, type := 0, pos := "arq.go:211", after := #[{ on := 3, ground := Go.Ground.data }], guard := none }) (v := _) rfl (by kernel_rfl) (by kernel_rfl) (by kernel_rfl) (fun _ _ _ h => h) (Or.inl ⟨by rfl, ?hy4⟩) (by assumption) ?hr4
  case hy4 => (intro _ hSw; (try dsimp only at hSw); go_simp <;> with_reducible rfl)
  simp only [Act.put, List.setIfInBounds_toArray, List.set_cons_zero, List.set_cons_succ]
  refine' wpAnyH_take (i := 5) (oi := { dst := some 9, op := Go.Op.fieldAddr 62 (Go.Operand.tmp 8) 1, type := 0, pos := "arq.go:211", after := #[{ on := 4, ground := Go.Ground.data }], guard := none }) (v := _) rfl (by kernel_rfl) (by kernel_rfl) (by kernel_rfl) (fun _ _ _ h => h) (Or.inl ⟨by rfl, ?hy5⟩) (by assumption) ?hr5
  case hy5 => (intro _ hSw; (try dsimp only at hSw); go_simp <;> with_reducible rfl)
  simp only [Act.put, List.setIfInBounds_toArray, List.set_cons_zero, List.set_cons_succ]
  refine' wpAnyH_take (i := 6) (oi := { dst := some 10, op := Go.Op.load 5 (Go.Operand.tmp 9), type := 5, pos := "arq.go:211", after := #[{ on := 5, ground := Go.Ground.data }], guard := none }) (v := _) rfl (by kernel_rfl) (by kernel_rfl) (by kernel_rfl) (fun _ _ _ h => h) (Or.inl ⟨by rfl, ?hy6⟩) (by assumption) ?hr6
  case hy6 => (intro _ hSw; (try dsimp only at hSw); have hc := hSw.1.does.at_.cell 1 (.int .u8 (y.vr : Int)) rfl; go_simp <;> with_reducible rfl)
  simp only [Act.put, List.setIfInBounds_toArray, List.set_cons_zero, List.set_cons_succ]
  refine' wpAnyH_take (i := 7) (oi := { dst := some 11, op := Go.Op.move (Go.Operand.tmp 0), type := 28, pos := "arq.go:211", after := #[], guard := none }) (v := _) rfl (by kernel_rfl) (by kernel_rfl) (by kernel_rfl) (fun _ _ _ h => h) (Or.inl ⟨by rfl, ?hy7⟩) (by assumption) ?hr7
  case hy7 => (intro _ hSw; (try dsimp only at hSw); go_simp <;> with_reducible rfl)
  simp only [Act.put, List.setIfInBounds_toArray, List.set_cons_zero, List.set_cons_succ]
  refine' wpAnyH_take (i := 8) (oi := { dst := some 12, op := Go.Op.nilCheck (Go.Operand.tmp 11), type := 0, pos := "arq.go:211", after := #[{ on := 7, ground := Go.Ground.data }], guard := none }) (v := _) rfl (by kernel_rfl) (by kernel_rfl) (by kernel_rfl) (fun _ _ _ h => h) (Or.inl ⟨by rfl, ?hy8⟩) (by assumption) ?hr8
  case hy8 => (intro _ hSw; (try dsimp only at hSw); go_simp <;> with_reducible rfl)
  simp only [Act.put, List.setIfInBounds_toArray, List.set_cons_zero, List.set_cons_succ]
  refine' wpAnyH_take (i := 9) (oi := { dst := some 13, op := Go.Op.fieldAddr 67 (Go.Operand.tmp 12) 4, type := 0, pos := "arq.go:211", after := #[{ on := 8, ground := Go.Ground.data }], guard := none }) (v := _) rfl (by kernel_rfl) (by kernel_rfl) (by kernel_rfl) (fun _ _ _ h => h) (Or.inl ⟨by rfl, ?hy9⟩) (by assumption) ?hr9
  case hy9 => (intro _ hSw; (try dsimp only at hSw); go_simp <;> with_reducible rfl)
  simp only [Act.put, List.setIfInBounds_toArray, List.set_cons_zero, List.set_cons_succ]
  refine' wpAnyH_take (i := 10) (oi := { dst := some 14, op := Go.Op.load 63 (Go.Operand.tmp 13), type := 63, pos := "arq.go:211", after := #[{ on := 9, ground := Go.Ground.data }], guard := none }) (v := _) rfl (by kernel_rfl) (by kernel_rfl) (by kernel_rfl) (fun _ _ _ h => h) (Or.inl ⟨by rfl, ?hy10⟩) (by assumption) ?hr10
  case hy10 => (intro _ hSw; (try dsimp only at hSw); have hc := hSw.1.does.at_.cell 14 (.slice (some ⟨gb, go, none⟩) n cap) rfl; go_simp <;> with_reducible rfl)
  simp only [Act.put, List.setIfInBounds_toArray, List.set_cons_zero, List.set_cons_succ]
  refine' wpAnyH_take (i := 11) (oi := { dst := some 15, op := Go.Op.move (Go.Operand.tmp 0), type := 28, pos := "arq.go:211", after := #[], guard := none }) (v := _) rfl (by kernel_rfl) (by kernel_rfl) (by kernel_rfl) (fun _ _ _ h => h) (Or.inl ⟨by rfl, ?hy11⟩) (by assumption) ?hr11
  case hy11 => (intro _ hSw; (try dsimp only at hSw); go_simp <;> with_reducible rfl)
  simp only [Act.put, List.setIfInBounds_toArray, List.set_cons_zero, List.set_cons_succ]
  refine' wpAnyH_take (i := 12) (oi := { dst := some 16, op := Go.Op.nilCheck (Go.Operand.tmp 15), type := 0, pos := "arq.go:211", after := #[{ on := 11, ground := Go.Ground.data }], guard := none }) (v := _) rfl (by kernel_rfl) (by kernel_rfl) (by kernel_rfl) (fun _ _ _ h => h) (Or.inl ⟨by rfl, ?hy12⟩) (by assumption) ?hr12
  case hy12 => (intro _ hSw; (try dsimp only at hSw); go_simp <;> with_reducible rfl)
  simp only [Act.put, List.setIfInBounds_toArray, List.set_cons_zero, List.set_cons_succ]
  refine' wpAnyH_take (i := 13) (oi := { dst := some 17, op := Go.Op.fieldAddr 67 (Go.Operand.tmp 16) 0, type := 0, pos := "arq.go:211", after := #[{ on := 12, ground := Go.Ground.data }], guard := none }) (v := _) rfl (by kernel_rfl) (by kernel_rfl) (by kernel_rfl) (fun _ _ _ h => h) (Or.inl ⟨by rfl, ?hy13⟩) (by assumption) ?hr13
  case hy13 => (intro _ hSw; (try dsimp only at hSw); go_simp <;> with_reducible rfl)
  simp only [Act.put, List.setIfInBounds_toArray, List.set_cons_zero, List.set_cons_succ]
  refine' wpAnyH_take (i := 14) (oi := { dst := some 18, op := Go.Op.fieldAddr 62 (Go.Operand.tmp 17) 2, type := 0, pos := "arq.go:211", after := #[{ on := 13, ground := Go.Ground.data }], guard := none }) (v := _) rfl (by kernel_rfl) (by kernel_rfl) (by kernel_rfl) (fun _ _ _ h => h) (Or.inl ⟨by rfl, ?hy14⟩) (by assumption) ?hr14
  case hy14 => (intro _ hSw; (try dsimp only at hSw); go_simp <;> with_reducible rfl)
  simp only [Act.put, List.setIfInBounds_toArray, List.set_cons_zero, List.set_cons_succ]
  refine' wpAnyH_take (i := 15) (oi := { dst := some 19, op := Go.Op.load 3 (Go.Operand.tmp 18), type := 3, pos := "arq.go:211", after := #[{ on := 14, ground := Go.Ground.data }], guard := none }) (v := _) rfl (by kernel_rfl) (by kernel_rfl) (by kernel_rfl) (fun _ _ _ h => h) (Or.inl ⟨by rfl, ?hy15⟩) (by assumption) ?hr15
  case hy15 => (intro _ hSw; (try dsimp only at hSw); have hc := hSw.1.does.at_.cell 2 (.int .i64 (y.out : Int)) rfl; rw [HO.out] at hc; go_simp <;> with_reducible rfl)
  simp only [Act.put, List.setIfInBounds_toArray, List.set_cons_zero, List.set_cons_succ]
  refine' wpAnyH_take (i := 16) (oi := { dst := some 20, op := Go.Op.indexAddr 63 (Go.Operand.tmp 14) (Go.Operand.tmp 19), type := 0, pos := "arq.go:211", after := #[{ on := 10, ground := Go.Ground.data }, { on := 15, ground := Go.Ground.data }], guard := none }) (v := _) rfl (by kernel_rfl) (by kernel_rfl) (by kernel_rfl) (fun _ _ _ h => h) (Or.inl ⟨by rfl, ?hy16⟩) (by assumption) ?hr16
  case hy16 => (intro _ hSw; (try dsimp only at hSw); go_simp <;> with_reducible rfl)
  simp only [Act.put, List.setIfInBounds_toArray, List.set_cons_zero, List.set_cons_succ]
  refine' wpAnyH_take (i := 17) (oi := { dst := some 21, op := Go.Op.load 9 (Go.Operand.tmp 20), type := 9, pos := "arq.go:211", after := #[{ on := 16, ground := Go.Ground.data }], guard := none }) (v := _) rfl (by kernel_rfl) (by kernel_rfl) (by kernel_rfl) (fun _ _ _ h => h) (Or.inl ⟨by rfl, ?hy17⟩) (by assumption) ?hr17
  case hy17 => (intro _ hSw; (try dsimp only at hSw); have hc := hSw.2; go_simp <;> with_reducible rfl)
  simp only [Act.put, List.setIfInBounds_toArray, List.set_cons_zero, List.set_cons_succ]
  clear hHeld
  have hg2 : w1.drew.cell? ⟨gb, go + o, none⟩ = some (.string s) := hg1
  clear hg1
  generalize w1.drew = w2 at H2 hg2 ⊢
  have CRa := Lib.hid (fvs _ pb _ (.slice (some ⟨gb, go, none⟩) n cap) H2.out.does.at_ HF.out)
  have CRb := Lib.hid (fvs _ pb _ (.slice (some ⟨gb, go, none⟩) n cap) (H2.out.alloc noF).does.at_ HF.out)
  rw [HO.out, HRV.out] at CRa CRb
  have hlb : w.heap.size < w2.heap.size := lt_heap H2.out.at0
  have HLB := Lib.hid hlb
  have HGL : Hid (gb < w2.heap.size) := Lib.hid (by omega)
  refine wpAnyH_ready (rs := [1, 19]) (by kernel_rfl) (by simp) ?_
  refine AllReadyH.cons (o := { dst := some 5, op := Go.Op.call { callee := Go.Callee.value (Go.Operand.func 33), args := #[Go.Operand.tmp 4], argTypes := #[28] }, type := 5, pos := "arq.go:211", after := #[{ on := 0, ground := Go.Ground.data }], guard := none }) rfl (fun K hK => ?_) (AllReadyH.cons (o := { dst := some 3, op := Go.Op.alloc 25, type := 0, pos := "arq.go:211", after := #[], guard := none }) rfl (fun K hK => ?_) AllReadyH.nil)
  · go_simp
    (with_reducible refine CRa.out.mono ?_)
    rintro e wc ⟨rfl, hb⟩
    go_wp2_with fail
    have H3 := Lib.hid (H2.out.below (drewN_below hb))
    have hg3 := cell_below hg2 (drewN_below hb)
    refine hK.out _ _ ⟨H3.out, hg3⟩ (fun hNext => ?_)
    clear hK K
    have hHeld := hNext
    clear hNext
    (try simp only [Act.put, List.setIfInBounds_toArray, List.set_cons_zero, List.set_cons_succ])
    refine' wpAnyH_take (i := 18) (oi := { dst := some 22, op := Go.Op.build 25 #[(1, Go.Operand.const (Go.Value.bool true)), (2, Go.Operand.const (Go.Value.int Go.IntKind.u8 7)), (4, Go.Operand.tmp 5), (5, Go.Operand.tmp 10), (6, Go.Operand.tmp 21)], type := 25, pos := "arq.go:211", after := #[{ on := 1, ground := Go.Ground.data }, { on := 6, ground := Go.Ground.data }, { on := 17, ground := Go.Ground.data }], guard := none }) (v := _) rfl (by kernel_rfl) (by kernel_rfl) (by kernel_rfl) (fun _ _ _ h => h) (Or.inl ⟨by rfl, ?hy18⟩) (by assumption) ?hr18
    case hy18 => (intro _ hSw; (try dsimp only at hSw); go_simp <;> with_reducible rfl)
    simp only [Act.put, List.setIfInBounds_toArray, List.set_cons_zero, List.set_cons_succ]
    refine wpAnyH_ready (rs := [19]) (by kernel_rfl) (by simp) ?_
    refine AllReadyH.cons (o := { dst := some 3, op := Go.Op.alloc 25, type := 0, pos := "arq.go:211", after := #[], guard := none }) rfl (fun K hK => ?_) AllReadyH.nil
    go_simp
    refine hK.out _ _ ⟨(H3.out.alloc noF).tail, cell_below hg3 (nest_below wc [noF])⟩ (fun hNext => ?_)
    clear hHeld
    clear hK K
    have hHeld := hNext
    clear hNext
    (try simp only [Act.put, List.setIfInBounds_toArray, List.set_cons_zero, List.set_cons_succ])
    have hlb2 : w.heap.size < wc.heap.size := lt_heap H3.out.at0
    have HE : Hid (AIn [(wc.heap.size, fmO ⟨true, 7, false, r, y.vr, s⟩), (w.heap.size, noF)] pb y (.slice (some ⟨gb, go, none⟩) n cap) w (wc.alloc (.cells #[.int .u8 0, .bool true, .int .u8 7, .bool false, .int .u8 (r : Int), .int .u8 (y.vr : Int), .string s] TF (0, 0)))) := Lib.hid (H3.out.alloc _)
    refine wpAnyH_ready (rs := [20]) (by kernel_rfl) (by simp) ?_
    refine AllReadyH.cons (o := { dst := none, op := Go.Op.store 25 (Go.Operand.tmp 3) (Go.Operand.tmp 22), type := 0, pos := "arq.go:211", after := #[{ on := 19, ground := Go.Ground.data }, { on := 18, ground := Go.Ground.data }, { on := 1, ground := Go.Ground.chain }, { on := 0, ground := Go.Ground.phase }, { on := 1, ground := Go.Ground.phase }, { on := 2, ground := Go.Ground.phase }, { on := 3, ground := Go.Ground.phase }, { on := 4, ground := Go.Ground.phase }, { on := 5, ground := Go.Ground.phase }, { on := 6, ground := Go.Ground.phase }, { on := 7, ground := Go.Ground.phase }, { on := 8, ground := Go.Ground.phase }, { on := 9, ground := Go.Ground.phase }, { on := 10, ground := Go.Ground.phase }, { on := 11, ground := Go.Ground.phase }, { on := 12, ground := Go.Ground.phase }, { on := 13, ground := Go.Ground.phase }, { on := 14, ground := Go.Ground.phase }, { on := 15, ground := Go.Ground.phase }, { on := 16, ground := Go.Ground.phase }, { on := 17, ground := Go.Ground.phase }, { on := 18, ground := Go.Ground.phase }, { on := 19, ground := Go.Ground.phase }], guard := none }) rfl (fun K hK => ?_) AllReadyH.nil
    go_simp
    go_wp2_with fail
    refine hK.out _ _ ⟨HE.out.tail, cell_below hg3 (nest_below wc [(.cells #[.int .u8 0, .bool true, .int .u8 7, .bool false, .int .u8 (r : Int), .int .u8 (y.vr : Int), .string s] TF (0, 0))])⟩ (fun hNext => ?_)
    clear hHeld
    clear hK K
    have hHeld := hNext
    clear hNext
    (try simp only [Act.put, List.setIfInBounds_toArray, List.set_cons_zero, List.set_cons_succ])
    refine wpAnyH_done (by kernel_rfl) ?_ _
    clear CRa CRb H2 H3 hHeld hb hg2 hg3
    generalize wc.alloc (.cells #[.int .u8 0, .bool true, .int .u8 7, .bool false, .int .u8 (r : Int), .int .u8 (y.vr : Int), .string s] TF (0, 0)) = w3 at HE ⊢
    generalize wc.heap.size = lb at HE hlb2 ⊢
    have hpf := HE.out.does.at_.free
    have hpl := HE.out.lt
    have c2 := HE.out.does.at_.cell 2 (.int .i64 (y.out : Int)) rfl
    rw [HO.out] at c2
    have HM := Lib.hid (HE.out.set 2 (.int .i64 (o1 : Int)) { y with out := o1 } rfl rfl)
    go_wp2_with fail
    generalize w3.setCell ⟨pb, 2, none⟩ (.int .i64 (o1 : Int)) = w4 at HM ⊢
    clear c2 hpf HE
    have HN := Lib.hid HM.out.drew
    have d2 := HM.out.does.at_.cell 2 (.int .i64 (o1 : Int)) rfl
    have d15 := HM.out.does.at_.cell 15 (.int .i64 (y.hi : Int)) rfl
    rw [HOI.out] at d15
    have hpf := HM.out.does.at_.free
    have hd2 : w4.drew.cell? ⟨pb, 2, none⟩ = some (.int .i64 (o1 : Int)) := d2
    refine wp_region_held_drew (S := (fun w' => w'.cell? ⟨pb, 2, none⟩ = some (.int .i64 (o1 : Int)))) (by kernel_rfl) hd2 (fun hHeld => ?_)
    refine' wpAnyH_take (i := 0) (oi := { dst := some 32, op := Go.Op.move (Go.Operand.tmp 0), type := 28, pos := "arq.go:213", after := #[], guard := none }) (v := _) rfl (by kernel_rfl) (by kernel_rfl) (by kernel_rfl) (fun _ _ _ h => h) (Or.inl ⟨by rfl, ?hy19⟩) (by assumption) ?hr19
    case hy19 => (intro _ hSw; (try dsimp only at hSw); go_simp <;> with_reducible rfl)
    simp only [Act.put, List.setIfInBounds_toArray, List.set_cons_zero, List.set_cons_succ]
    refine' wpAnyH_take (i := 1) (oi := { dst := some 33, op := Go.Op.move (Go.Operand.tmp 0), type := 28, pos := "arq.go:213", after := #[], guard := none }) (v := _) rfl (by kernel_rfl) (by kernel_rfl) (by kernel_rfl) (fun _ _ _ h => h) (Or.inl ⟨by rfl, ?hy20⟩) (by assumption) ?hr20
    case hy20 => (intro _ hSw; (try dsimp only at hSw); go_simp <;> with_reducible rfl)
    simp only [Act.put, List.setIfInBounds_toArray, List.set_cons_zero, List.set_cons_succ]
    refine' wpAnyH_take (i := 2) (oi := { dst := some 34, op := Go.Op.nilCheck (Go.Operand.tmp 33), type := 0, pos := "arq.go:213", after := #[{ on := 1, ground := Go.Ground.data }], guard := none }) (v := _) rfl (by kernel_rfl) (by kernel_rfl) (by kernel_rfl) (fun _ _ _ h => h) (Or.inl ⟨by rfl, ?hy21⟩) (by assumption) ?hr21
    case hy21 => (intro _ hSw; (try dsimp only at hSw); go_simp <;> with_reducible rfl)
    simp only [Act.put, List.setIfInBounds_toArray, List.set_cons_zero, List.set_cons_succ]
    refine' wpAnyH_take (i := 3) (oi := { dst := some 35, op := Go.Op.fieldAddr 67 (Go.Operand.tmp 34) 5, type := 0, pos := "arq.go:213", after := #[{ on := 2, ground := Go.Ground.data }], guard := none }) (v := _) rfl (by kernel_rfl) (by kernel_rfl) (by kernel_rfl) (fun _ _ _ h => h) (Or.inl ⟨by rfl, ?hy22⟩) (by assumption) ?hr22
    case hy22 => (intro _ hSw; (try dsimp only at hSw); go_simp <;> with_reducible rfl)
    simp only [Act.put, List.setIfInBounds_toArray, List.set_cons_zero, List.set_cons_succ]
    refine' wpAnyH_take (i := 5) (oi := { dst := some 37, op := Go.Op.move (Go.Operand.tmp 0), type := 28, pos := "arq.go:213", after := #[], guard := none }) (v := _) rfl (by kernel_rfl) (by kernel_rfl) (by kernel_rfl) (fun _ _ _ h => h) (Or.inl ⟨by rfl, ?hy23⟩) (by assumption) ?hr23
    case hy23 => (intro _ hSw; (try dsimp only at hSw); go_simp <;> with_reducible rfl)
    simp only [Act.put, List.setIfInBounds_toArray, List.set_cons_zero, List.set_cons_succ]
    refine' wpAnyH_take (i := 6) (oi := { dst := some 38, op := Go.Op.nilCheck (Go.Operand.tmp 37), type := 0, pos := "arq.go:213", after := #[{ on := 5, ground := Go.Ground.data }], guard := none }) (v := _) rfl (by kernel_rfl) (by kernel_rfl) (by kernel_rfl) (fun _ _ _ h => h) (Or.inl ⟨by rfl, ?hy24⟩) (by assumption) ?hr24
    case hy24 => (intro _ hSw; (try dsimp only at hSw); go_simp <;> with_reducible rfl)
    simp only [Act.put, List.setIfInBounds_toArray, List.set_cons_zero, List.set_cons_succ]
    refine' wpAnyH_take (i := 7) (oi := { dst := some 39, op := Go.Op.fieldAddr 67 (Go.Operand.tmp 38) 0, type := 0, pos := "arq.go:213", after := #[{ on := 6, ground := Go.Ground.data }], guard := none }) (v := _) rfl (by kernel_rfl) (by kernel_rfl) (by kernel_rfl) (fun _ _ _ h => h) (Or.inl ⟨by rfl, ?hy25⟩) (by assumption) ?hr25
    case hy25 => (intro _ hSw; (try dsimp only at hSw); go_simp <;> with_reducible rfl)
    simp only [Act.put, List.setIfInBounds_toArray, List.set_cons_zero, List.set_cons_succ]
    refine' wpAnyH_take (i := 8) (oi := { dst := some 40, op := Go.Op.fieldAddr 62 (Go.Operand.tmp 39) 2, type := 0, pos := "arq.go:213", after := #[{ on := 7, ground := Go.Ground.data }], guard := none }) (v := _) rfl (by kernel_rfl) (by kernel_rfl) (by kernel_rfl) (fun _ _ _ h => h) (Or.inl ⟨by rfl, ?hy26⟩) (by assumption) ?hr26
    case hy26 => (intro _ hSw; (try dsimp only at hSw); go_simp <;> with_reducible rfl)
    simp only [Act.put, List.setIfInBounds_toArray, List.set_cons_zero, List.set_cons_succ]
    refine' wpAnyH_take (i := 9) (oi := { dst := some 41, op := Go.Op.load 3 (Go.Operand.tmp 40), type := 3, pos := "arq.go:213", after := #[{ on := 8, ground := Go.Ground.data }], guard := none }) (v := _) rfl (by kernel_rfl) (by kernel_rfl) (by kernel_rfl) (fun _ _ _ h => h) (Or.inl ⟨by rfl, ?hy27⟩) (by assumption) ?hr27
    case hy27 => (intro _ hSw; (try dsimp only at hSw); have hc := hSw; go_simp <;> with_reducible rfl)
    simp only [Act.put, List.setIfInBounds_toArray, List.set_cons_zero, List.set_cons_succ]
    refine wpAnyH_ready (rs := [4]) (by kernel_rfl) (by simp) ?_
    refine AllReadyH.cons (o := { dst := some 36, op := Go.Op.load 3 (Go.Operand.tmp 35), type := 3, pos := "arq.go:213", after := #[{ on := 3, ground := Go.Ground.data }], guard := none }) rfl (fun K hK => ?_) AllReadyH.nil
    go_simp
    go_wp2_with fail
    refine hK.out _ _ hd2 (fun hNext => ?_)
    clear hHeld
    clear hK K
    have hHeld := hNext
    clear hNext
    (try simp only [Act.put, List.setIfInBounds_toArray, List.set_cons_zero, List.set_cons_succ])
    refine wpAnyH_ready (rs := [10]) (by kernel_rfl) (by simp) ?_
    refine AllReadyH.cons (o := { dst := some 42, op := Go.Op.call { callee := Go.Callee.builtin Go.Builtin.max, args := #[Go.Operand.tmp 36, Go.Operand.tmp 41], argTypes := #[3, 3] }, type := 3, pos := "arq.go:213", after := #[{ on := 4, ground := Go.Ground.data }, { on := 9, ground := Go.Ground.data }], guard := none }) rfl (fun K hK => ?_) AllReadyH.nil
    go_simp
    go_wp2_with fail
    refine hK.out _ _ hd2 (fun hNext => ?_)
    clear hHeld
    clear hK K
    have hHeld := hNext
    clear hNext
    (try simp only [Act.put, List.setIfInBounds_toArray, List.set_cons_zero, List.set_cons_succ])
    refine' wpAnyH_take (i := 11) (oi := { dst := some 43, op := Go.Op.nilCheck (Go.Operand.tmp 32), type := 0, pos := "arq.go:213", after := #[{ on := 0, ground := Go.Ground.data }, { on := 0, ground := Go.Ground.phase }, { on := 1, ground := Go.Ground.phase }, { on := 2, ground := Go.Ground.phase }, { on := 3, ground := Go.Ground.phase }, { on := 4, ground := Go.Ground.phase }, { on := 5, ground := Go.Ground.phase }, { on := 6, ground := Go.Ground.phase }, { on := 7, ground := Go.Ground.phase }, { on := 8, ground := Go.Ground.phase }, { on := 9, ground := Go.Ground.phase }, { on := 10, ground := Go.Ground.phase }], guard := none }) (v := _) rfl (by kernel_rfl) (by kernel_rfl) (by kernel_rfl) (fun _ _ _ h => h) (Or.inl ⟨by rfl, ?hy28⟩) (by assumption) ?hr28
    case hy28 => (intro _ hSw; (try dsimp only at hSw); go_simp <;> with_reducible rfl)
    simp only [Act.put, List.setIfInBounds_toArray, List.set_cons_zero, List.set_cons_succ]
    refine' wpAnyH_take (i := 12) (oi := { dst := some 44, op := Go.Op.fieldAddr 67 (Go.Operand.tmp 43) 5, type := 0, pos := "arq.go:213", after := #[{ on := 11, ground := Go.Ground.data }, { on := 0, ground := Go.Ground.phase }, { on := 1, ground := Go.Ground.phase }, { on := 2, ground := Go.Ground.phase }, { on := 3, ground := Go.Ground.phase }, { on := 4, ground := Go.Ground.phase }, { on := 5, ground := Go.Ground.phase }, { on := 6, ground := Go.Ground.phase }, { on := 7, ground := Go.Ground.phase }, { on := 8, ground := Go.Ground.phase }, { on := 9, ground := Go.Ground.phase }, { on := 10, ground := Go.Ground.phase }], guard := none }) (v := _) rfl (by kernel_rfl) (by kernel_rfl) (by kernel_rfl) (fun _ _ _ h => h) (Or.inl ⟨by rfl, ?hy29⟩) (by assumption) ?hr29
    case hy29 => (intro _ hSw; (try dsimp only at hSw); go_simp <;> with_reducible rfl)
    simp only [Act.put, List.setIfInBounds_toArray, List.set_cons_zero, List.set_cons_succ]
    have HP := Lib.hid (HM.out.set 15 (.int .i64 (mx : Int)) { y with out := o1, hi := mx } rfl rfl).drew
    refine wpAnyH_ready (rs := [13]) (by kernel_rfl) (by simp) ?_
    refine AllReadyH.cons (o := { dst := none, op := Go.Op.store 3 (Go.Operand.tmp 44) (Go.Operand.tmp 42), type := 0, pos := "arq.go:213", after := #[{ on := 12, ground := Go.Ground.data }, { on := 10, ground := Go.Ground.data }, { on := 0, ground := Go.Ground.phase }, { on := 1, ground := Go.Ground.phase }, { on := 2, ground := Go.Ground.phase }, { on := 3, ground := Go.Ground.phase }, { on := 4, ground := Go.Ground.phase }, { on := 5, ground := Go.Ground.phase }, { on := 6, ground := Go.Ground.phase }, { on := 7, ground := Go.Ground.phase }, { on := 8, ground := Go.Ground.phase }, { on := 9, ground := Go.Ground.phase }, { on := 10, ground := Go.Ground.phase }], guard := none }) rfl (fun K hK => ?_) AllReadyH.nil
    go_simp
    go_wp2_with fail
    refine hK.out _ _ (HP.out.does.at_.cell 2 (.int .i64 (o1 : Int)) rfl) (fun hNext => ?_)
    clear hHeld
    clear hK K
    have hHeld := hNext
    clear hNext
    (try simp only [Act.put, List.setIfInBounds_toArray, List.set_cons_zero, List.set_cons_succ])
    refine wpAnyH_done (by kernel_rfl) ?_ _
    clear hHeld HM HN d2 d15 hpf hd2
    generalize (w4.setCell ⟨pb, 15, none⟩ (.int .i64 (mx : Int))).drew = w5 at HP ⊢
    obtain ⟨⟨l0, l1, l2, l3, l4, l5, l6⟩, lf⟩ := cells7 (show w5.heap[lb]? = some (.cells #[.int .u8 0, .bool true, .int .u8 7, .bool false, .int .u8 (r : Int), .int .u8 (y.vr : Int), .string s] TF (0, 0)) from HP.out.at0)
    obtain ⟨⟨k0, k1, k2, k3, k4, k5, k6⟩, kf⟩ := cells7 HP.out.tail.at0
    have HZ := Lib.hid (HP.out.swap.put7 (one_ne (by omega)) (.int .u8 0) (.bool true) (.int .u8 7) (.bool false) (.int .u8 (r : Int)) (.int .u8 (y.vr : Int)) (.string s))
    go_wp2
    exact bodyPost_ret (res_fm rfl rfl _ _ _ ⟨true, 7, false, r, y.vr, s⟩ HZ.out.at0 rfl) rfl ⟨rfl, HZ.out.does⟩
  · go_simp
    have hg4 := cell_below hg2 (nest_below w2 [noF])
    refine hK.out _ _ ⟨(H2.out.alloc noF).tail, hg4⟩ (fun hNext => ?_)
    clear hK K
    have hHeld := hNext
    clear hNext
    (try simp only [Act.put, List.setIfInBounds_toArray, List.set_cons_zero, List.set_cons_succ])
    refine wpAnyH_ready (rs := [1]) (by kernel_rfl) (by simp) ?_
    refine AllReadyH.cons (o := { dst := some 5, op := Go.Op.call { callee := Go.Callee.value (Go.Operand.func 33), args := #[Go.Operand.tmp 4], argTypes := #[28] }, type := 5, pos := "arq.go:211", after := #[{ on := 0, ground := Go.Ground.data }], guard := none }) rfl (fun K hK => ?_) AllReadyH.nil
    go_simp
    (with_reducible refine (CRb.out).mono ?_)
    rintro e wc ⟨rfl, hb⟩
    go_wp2_with fail
    have H3 := Lib.hid ((H2.out.alloc noF).below (drewN_below hb))
    have hg3 := cell_below hg4 (drewN_below hb)
    have hlb2 : w.heap.size < w2.heap.size := hlb
    refine hK.out _ _ ⟨H3.out.tail, hg3⟩ (fun hNext => ?_)
    clear hHeld
    clear hK K
    have hHeld := hNext
    clear hNext
    (try simp only [Act.put, List.setIfInBounds_toArray, List.set_cons_zero, List.set_cons_succ])
    refine' wpAnyH_take (i := 18) (oi := { dst := some 22, op := Go.Op.build 25 #[(1, Go.Operand.const (Go.Value.bool true)), (2, Go.Operand.const (Go.Value.int Go.IntKind.u8 7)), (4, Go.Operand.tmp 5), (5, Go.Operand.tmp 10), (6, Go.Operand.tmp 21)], type := 25, pos := "arq.go:211", after := #[{ on := 1, ground := Go.Ground.data }, { on := 6, ground := Go.Ground.data }, { on := 17, ground := Go.Ground.data }], guard := none }) (v := _) rfl (by kernel_rfl) (by kernel_rfl) (by kernel_rfl) (fun _ _ _ h => h) (Or.inl ⟨by rfl, ?hy30⟩) (by assumption) ?hr30
    case hy30 => (intro _ hSw; (try dsimp only at hSw); go_simp <;> with_reducible rfl)
    simp only [Act.put, List.setIfInBounds_toArray, List.set_cons_zero, List.set_cons_succ]
    obtain ⟨⟨z0, z1, z2, z3, z4, z5, z6⟩, zf⟩ := cells7 H3.out.at0
    have HE : Hid (AIn [(w2.heap.size, fmO ⟨true, 7, false, r, y.vr, s⟩), (w.heap.size, noF)] pb y (.slice (some ⟨gb, go, none⟩) n cap) w (((((((wc.setCell ⟨w2.heap.size, 0, none⟩ (.int .u8 0)).setCell ⟨w2.heap.size, 1, none⟩ (.bool true)).setCell ⟨w2.heap.size, 2, none⟩ (.int .u8 7)).setCell ⟨w2.heap.size, 3, none⟩ (.bool false)).setCell ⟨w2.heap.size, 4, none⟩ (.int .u8 (r : Int))).setCell ⟨w2.heap.size, 5, none⟩ (.int .u8 (y.vr : Int))).setCell ⟨w2.heap.size, 6, none⟩ (.string s))) := Lib.hid (H3.out.put7 (one_ne (by omega)) _ _ _ _ _ _ _)
    have hne : gb ≠ w2.heap.size := by have := HGL.out; omega
    have hg5 : (((((((wc.setCell ⟨w2.heap.size, 0, none⟩ (.int .u8 0)).setCell ⟨w2.heap.size, 1, none⟩ (.bool true)).setCell ⟨w2.heap.size, 2, none⟩ (.int .u8 7)).setCell ⟨w2.heap.size, 3, none⟩ (.bool false)).setCell ⟨w2.heap.size, 4, none⟩ (.int .u8 (r : Int))).setCell ⟨w2.heap.size, 5, none⟩ (.int .u8 (y.vr : Int))).setCell ⟨w2.heap.size, 6, none⟩ (.string s)).cell? ⟨gb, go + o, none⟩ = some (.string s) := (World.cell?_of_block (a := ⟨gb, go + o, none⟩) ((chg_set7 (S := fun k => k = w2.heap.size) (Chg.refl _ wc) (fun _ => rfl) _ _ _ _ _ _ _).block gb (World.block_lt_of_cell? wc ⟨gb, go + o, none⟩ hg3) hne)).trans hg3
    refine wpAnyH_ready (rs := [20]) (by kernel_rfl) (by simp) ?_
    refine AllReadyH.cons (o := { dst := none, op := Go.Op.store 25 (Go.Operand.tmp 3) (Go.Operand.tmp 22), type := 0, pos := "arq.go:211", after := #[{ on := 19, ground := Go.Ground.data }, { on := 18, ground := Go.Ground.data }, { on := 1, ground := Go.Ground.chain }, { on := 0, ground := Go.Ground.phase }, { on := 1, ground := Go.Ground.phase }, { on := 2, ground := Go.Ground.phase }, { on := 3, ground := Go.Ground.phase }, { on := 4, ground := Go.Ground.phase }, { on := 5, ground := Go.Ground.phase }, { on := 6, ground := Go.Ground.phase }, { on := 7, ground := Go.Ground.phase }, { on := 8, ground := Go.Ground.phase }, { on := 9, ground := Go.Ground.phase }, { on := 10, ground := Go.Ground.phase }, { on := 11, ground := Go.Ground.phase }, { on := 12, ground := Go.Ground.phase }, { on := 13, ground := Go.Ground.phase }, { on := 14, ground := Go.Ground.phase }, { on := 15, ground := Go.Ground.phase }, { on := 16, ground := Go.Ground.phase }, { on := 17, ground := Go.Ground.phase }, { on := 18, ground := Go.Ground.phase }, { on := 19, ground := Go.Ground.phase }], guard := none }) rfl (fun K hK => ?_) AllReadyH.nil
    go_simp
    go_wp2_with fail
    refine hK.out _ _ ⟨HE.out.tail, hg5⟩ (fun hNext => ?_)
    clear hHeld
    clear hK K
    have hHeld := hNext
    clear hNext
    (try simp only [Act.put, List.setIfInBounds_toArray, List.set_cons_zero, List.set_cons_succ])
    refine wpAnyH_done (by kernel_rfl) ?_ _
    clear CRa CRb H2 H3 hHeld hb hg2 hg3 hg4 hg5 hne z0 z1 z2 z3 z4 z5 z6 zf hlb HLB HGL
    generalize (((((((wc.setCell ⟨w2.heap.size, 0, none⟩ (.int .u8 0)).setCell ⟨w2.heap.size, 1, none⟩ (.bool true)).setCell ⟨w2.heap.size, 2, none⟩ (.int .u8 7)).setCell ⟨w2.heap.size, 3, none⟩ (.bool false)).setCell ⟨w2.heap.size, 4, none⟩ (.int .u8 (r : Int))).setCell ⟨w2.heap.size, 5, none⟩ (.int .u8 (y.vr : Int))).setCell ⟨w2.heap.size, 6, none⟩ (.string s)) = w3 at HE ⊢
    generalize w2.heap.size = lb at HE hlb2 ⊢
    have hpf := HE.out.does.at_.free
    have hpl := HE.out.lt
    have c2 := HE.out.does.at_.cell 2 (.int .i64 (y.out : Int)) rfl
    rw [HO.out] at c2
    have HM := Lib.hid (HE.out.set 2 (.int .i64 (o1 : Int)) { y with out := o1 } rfl rfl)
    go_wp2_with fail
    generalize w3.setCell ⟨pb, 2, none⟩ (.int .i64 (o1 : Int)) = w4 at HM ⊢
    clear c2 hpf HE
    have HN := Lib.hid HM.out.drew
    have d2 := HM.out.does.at_.cell 2 (.int .i64 (o1 : Int)) rfl
    have d15 := HM.out.does.at_.cell 15 (.int .i64 (y.hi : Int)) rfl
    rw [HOI.out] at d15
    have hpf := HM.out.does.at_.free
    have hd2 : w4.drew.cell? ⟨pb, 2, none⟩ = some (.int .i64 (o1 : Int)) := d2
    refine wp_region_held_drew (S := (fun w' => w'.cell? ⟨pb, 2, none⟩ = some (.int .i64 (o1 : Int)))) (by kernel_rfl) hd2 (fun hHeld => ?_)
    refine' wpAnyH_take (i := 0) (oi := { dst := some 32, op := Go.Op.move (Go.Operand.tmp 0), type := 28, pos := "arq.go:213", after := #[], guard := none }) (v := _) rfl (by kernel_rfl) (by kernel_rfl) (by kernel_rfl) (fun _ _ _ h => h) (Or.inl ⟨by rfl, ?hy31⟩) (by assumption) ?hr31
    case hy31 => (intro _ hSw; (try dsimp only at hSw); go_simp <;> with_reducible rfl)
    simp only [Act.put, List.setIfInBounds_toArray, List.set_cons_zero, List.set_cons_succ]
    refine' wpAnyH_take (i := 1) (oi := { dst := some 33, op := Go.Op.move (Go.Operand.tmp 0), type := 28, pos := "arq.go:213", after := #[], guard := none }) (v := _) rfl (by kernel_rfl) (by kernel_rfl) (by kernel_rfl) (fun _ _ _ h => h) (Or.inl ⟨by rfl, ?hy32⟩) (by assumption) ?hr32
    case hy32 => (intro _ hSw; (try dsimp only at hSw); go_simp <;> with_reducible rfl)
    simp only [Act.put, List.setIfInBounds_toArray, List.set_cons_zero, List.set_cons_succ]
    refine' wpAnyH_take (i := 2) (oi := { dst := some 34, op := Go.Op.nilCheck (Go.Operand.tmp 33), type := 0, pos := "arq.go:213", after := #[{ on := 1, ground := Go.Ground.data }], guard := none }) (v := _) rfl (by kernel_rfl) (by kernel_rfl) (by kernel_rfl) (fun _ _ _ h => h) (Or.inl ⟨by rfl, ?hy33⟩) (by assumption) ?hr33
    case hy33 => (intro _ hSw; (try dsimp only at hSw); go_simp <;> with_reducible rfl)
    simp only [Act.put, List.setIfInBounds_toArray, List.set_cons_zero, List.set_cons_succ]
    refine' wpAnyH_take (i := 3) (oi := { dst := some 35, op := Go.Op.fieldAddr 67 (Go.Operand.tmp 34) 5, type := 0, pos := "arq.go:213", after := #[{ on := 2, ground := Go.Ground.data }], guard := none }) (v := _) rfl (by kernel_rfl) (by kernel_rfl) (by kernel_rfl) (fun _ _ _ h => h) (Or.inl ⟨by rfl, ?hy34⟩) (by assumption) ?hr34
    case hy34 => (intro _ hSw; (try dsimp only at hSw); go_simp <;> with_reducible rfl)
    simp only [Act.put, List.setIfInBounds_toArray, List.set_cons_zero, List.set_cons_succ]
    refine' wpAnyH_take (i := 5) (oi := { dst := some 37, op := Go.Op.move (Go.Operand.tmp 0), type := 28, pos := "arq.go:213", after := #[], guard := none }) (v := _) rfl (by kernel_rfl) (by kernel_rfl) (by kernel_rfl) (fun _ _ _ h => h) (Or.inl ⟨by rfl, ?hy35⟩) (by assumption) ?hr35
    case hy35 => (intro _ hSw; (try dsimp only at hSw); go_simp <;> with_reducible rfl)
    simp only [Act.put, List.setIfInBounds_toArray, List.set_cons_zero, List.set_cons_succ]
    refine' wpAnyH_take (i := 6) (oi := { dst := some 38, op := Go.Op.nilCheck (Go.Operand.tmp 37), type := 0, pos := "arq.go:213", after := #[{ on := 5, ground := Go.Ground.data }], guard := none }) (v := _) rfl (by kernel_rfl) (by kernel_rfl) (by kernel_rfl) (fun _ _ _ h => h) (Or.inl ⟨by rfl, ?hy36⟩) (by assumption) ?hr36
    case hy36 => (intro _ hSw; (try dsimp only at hSw); go_simp <;> with_reducible rfl)
    simp only [Act.put, List.setIfInBounds_toArray, List.set_cons_zero, List.set_cons_succ]
    refine' wpAnyH_take (i := 7) (oi := { dst := some 39, op := Go.Op.fieldAddr 67 (Go.Operand.tmp 38) 0, type := 0, pos := "arq.go:213", after := #[{ on := 6, ground := Go.Ground.data }], guard := none }) (v := _) rfl (by kernel_rfl) (by kernel_rfl) (by kernel_rfl) (fun _ _ _ h => h) (Or.inl ⟨by rfl, ?hy37⟩) (by assumption) ?hr37
    case hy37 => (intro _ hSw; (try dsimp only at hSw); go_simp <;> with_reducible rfl)
    simp only [Act.put, List.setIfInBounds_toArray, List.set_cons_zero, List.set_cons_succ]
    refine' wpAnyH_take (i := 8) (oi := { dst := some 40, op := Go.Op.fieldAddr 62 (Go.Operand.tmp 39) 2, type := 0, pos := "arq.go:213", after := #[{ on := 7, ground := Go.Ground.data }], guard := none }) (v := _) rfl (by kernel_rfl) (by kernel_rfl) (by kernel_rfl) (fun _ _ _ h => h) (Or.inl ⟨by rfl, ?hy38⟩) (by assumption) ?hr38
    case hy38 => (intro _ hSw; (try dsimp only at hSw); go_simp <;> with_reducible rfl)
    simp only [Act.put, List.setIfInBounds_toArray, List.set_cons_zero, List.set_cons_succ]
    refine' wpAnyH_take (i := 9) (oi := { dst := some 41, op := Go.Op.load 3 (Go.Operand.tmp 40), type := 3, pos := "arq.go:213", after := #[{ on := 8, ground := Go.Ground.data }], guard := none }) (v := _) rfl (by kernel_rfl) (by kernel_rfl) (by kernel_rfl) (fun _ _ _ h => h) (Or.inl ⟨by rfl, ?hy39⟩) (by assumption) ?hr39
    case hy39 => (intro _ hSw; (try dsimp only at hSw); have hc := hSw; go_simp <;> with_reducible rfl)
    simp only [Act.put, List.setIfInBounds_toArray, List.set_cons_zero, List.set_cons_succ]
    refine wpAnyH_ready (rs := [4]) (by kernel_rfl) (by simp) ?_
    refine AllReadyH.cons (o := { dst := some 36, op := Go.Op.load 3 (Go.Operand.tmp 35), type := 3, pos := "arq.go:213", after := #[{ on := 3, ground := Go.Ground.data }], guard := none }) rfl (fun K hK => ?_) AllReadyH.nil
    go_simp
    go_wp2_with fail
    refine hK.out _ _ hd2 (fun hNext => ?_)
    clear hHeld
    clear hK K
    have hHeld := hNext
    clear hNext
    (try simp only [Act.put, List.setIfInBounds_toArray, List.set_cons_zero, List.set_cons_succ])
    refine wpAnyH_ready (rs := [10]) (by kernel_rfl) (by simp) ?_
    refine AllReadyH.cons (o := { dst := some 42, op := Go.Op.call { callee := Go.Callee.builtin Go.Builtin.max, args := #[Go.Operand.tmp 36, Go.Operand.tmp 41], argTypes := #[3, 3] }, type := 3, pos := "arq.go:213", after := #[{ on := 4, ground := Go.Ground.data }, { on := 9, ground := Go.Ground.data }], guard := none }) rfl (fun K hK => ?_) AllReadyH.nil
    go_simp
    go_wp2_with fail
    refine hK.out _ _ hd2 (fun hNext => ?_)
    clear hHeld
    clear hK K
    have hHeld := hNext
    clear hNext
    (try simp only [Act.put, List.setIfInBounds_toArray, List.set_cons_zero, List.set_cons_succ])
    refine' wpAnyH_take (i := 11) (oi := { dst := some 43, op := Go.Op.nilCheck (Go.Operand.tmp 32), type := 0, pos := "arq.go:213", after := #[{ on := 0, ground := Go.Ground.data }, { on := 0, ground := Go.Ground.phase }, { on := 1, ground := Go.Ground.phase }, { on := 2, ground := Go.Ground.phase }, { on := 3, ground := Go.Ground.phase }, { on := 4, ground := Go.Ground.phase }, { on := 5, ground := Go.Ground.phase }, { on := 6, ground := Go.Ground.phase }, { on := 7, ground := Go.Ground.phase }, { on := 8, ground := Go.Ground.phase }, { on := 9, ground := Go.Ground.phase }, { on := 10, ground := Go.Ground.phase }], guard := none }) (v := _) rfl (by kernel_rfl) (by kernel_rfl) (by kernel_rfl) (fun _ _ _ h => h) (Or.inl ⟨by rfl, ?hy40⟩) (by assumption) ?hr40
    case hy40 => (intro _ hSw; (try dsimp only at hSw); go_simp <;> with_reducible rfl)
    simp only [Act.put, List.setIfInBounds_toArray, List.set_cons_zero, List.set_cons_succ]
    refine' wpAnyH_take (i := 12) (oi := { dst := some 44, op := Go.Op.fieldAddr 67 (Go.Operand.tmp 43) 5, type := 0, pos := "arq.go:213", after := #[{ on := 11, ground := Go.Ground.data }, { on := 0, ground := Go.Ground.phase }, { on := 1, ground := Go.Ground.phase }, { on := 2, ground := Go.Ground.phase }, { on := 3, ground := Go.Ground.phase }, { on := 4, ground := Go.Ground.phase }, { on := 5, ground := Go.Ground.phase }, { on := 6, ground := Go.Ground.phase }, { on := 7, ground := Go.Ground.phase }, { on := 8, ground := Go.Ground.phase }, { on := 9, ground := Go.Ground.phase }, { on := 10, ground := Go.Ground.phase }], guard := none }) (v := _) rfl (by kernel_rfl) (by kernel_rfl) (by kernel_rfl) (fun _ _ _ h => h) (Or.inl ⟨by rfl, ?hy41⟩) (by assumption) ?hr41
    case hy41 => (intro _ hSw; (try dsimp only at hSw); go_simp <;> with_reducible rfl)
    simp only [Act.put, List.setIfInBounds_toArray, List.set_cons_zero, List.set_cons_succ]
    have HP := Lib.hid (HM.out.set 15 (.int .i64 (mx : Int)) { y with out := o1, hi := mx } rfl rfl).drew
    refine wpAnyH_ready (rs := [13]) (by kernel_rfl) (by simp) ?_
    refine AllReadyH.cons (o := { dst := none, op := Go.Op.store 3 (Go.Operand.tmp 44) (Go.Operand.tmp 42), type := 0, pos := "arq.go:213", after := #[{ on := 12, ground := Go.Ground.data }, { on := 10, ground := Go.Ground.data }, { on := 0, ground := Go.Ground.phase }, { on := 1, ground := Go.Ground.phase }, { on := 2, ground := Go.Ground.phase }, { on := 3, ground := Go.Ground.phase }, { on := 4, ground := Go.Ground.phase }, { on := 5, ground := Go.Ground.phase }, { on := 6, ground := Go.Ground.phase }, { on := 7, ground := Go.Ground.phase }, { on := 8, ground := Go.Ground.phase }, { on := 9, ground := Go.Ground.phase }, { on := 10, ground := Go.Ground.phase }], guard := none }) rfl (fun K hK => ?_) AllReadyH.nil
    go_simp
    go_wp2_with fail
    refine hK.out _ _ (HP.out.does.at_.cell 2 (.int .i64 (o1 : Int)) rfl) (fun hNext => ?_)
    clear hHeld
    clear hK K
    have hHeld := hNext
    clear hNext
    (try simp only [Act.put, List.setIfInBounds_toArray, List.set_cons_zero, List.set_cons_succ])
    refine wpAnyH_done (by kernel_rfl) ?_ _
    clear hHeld HM HN d2 d15 hpf hd2
    generalize (w4.setCell ⟨pb, 15, none⟩ (.int .i64 (mx : Int))).drew = w5 at HP ⊢
    obtain ⟨⟨l0, l1, l2, l3, l4, l5, l6⟩, lf⟩ := cells7 (show w5.heap[lb]? = some (.cells #[.int .u8 0, .bool true, .int .u8 7, .bool false, .int .u8 (r : Int), .int .u8 (y.vr : Int), .string s] TF (0, 0)) from HP.out.at0)
    obtain ⟨⟨k0, k1, k2, k3, k4, k5, k6⟩, kf⟩ := cells7 HP.out.tail.at0
    have HZ := Lib.hid (HP.out.swap.put7 (one_ne (by omega)) (.int .u8 0) (.bool true) (.int .u8 7) (.bool false) (.int .u8 (r : Int)) (.int .u8 (y.vr : Int)) (.string s))
    go_wp2
    exact bodyPost_ret (res_fm rfl rfl _ _ _ ⟨true, 7, false, r, y.vr, s⟩ HZ.out.at0 rfl) rfl ⟨rfl, HZ.out.does⟩
end Go.Proofs.Ytkoaplmlabagnaa.Aq
