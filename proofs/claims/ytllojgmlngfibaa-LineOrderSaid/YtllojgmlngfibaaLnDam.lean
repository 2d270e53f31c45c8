/-
  What a damage leaves of a slice of bytes, whatever its kind. Condition: at most a hundred thousand bytes.
-/
import Derived.Test.YtllojgmlngfibaaLnPut
import Derived.Laws.EntriesVeiled
import Derived.Deep.Grids
import Derived.Deep.RegionHeld
namespace Go.Proofs.Ytllojgmlngfibaa.Ln
open Go.RowKit Go.Proofs.Ytllojgmlngfibaa.Base Go.Proofs.Ytllojgmlngfibaa.Mem
theorem dmg_else (d : Dm) (l : List UInt8) (h1 : d.k ≠ 1) (h2 : d.k ≠ 2) (h3 : d.k ≠ 3) (h4 : d.k ≠ 4) : dmg d l = l := by
  unfold dmg
  rw [if_neg h1, if_neg h2, if_neg h3, if_neg h4]
section
variable (w : World) (base : Nat) (v : Value) (l : List UInt8) (i : Int) (b : Nat) (n : Int)
set_option maxHeartbeats 4000000 in
set_option maxRecDepth 100000 in
theorem fdam0 (h : SlB w base v l) (hb : base ≤ w.heap.size) (_ : b < 256) (_ : l.length ≤ 100000) :
    Calls Try.prog 16 #[v, .agg #[.int .u8 0, .int .i64 i, .int .u8 (b : Int), .int .i64 n]] w (Ins w base v (dmg ⟨0, i, b, n⟩ l)) := by
  have H := Lib.hid h
  obtain ⟨m, hm1⟩ : ∃ m, Hid (cnt n = m) := ⟨_, Lib.hid rfl⟩
  have hm : min (max n 0) 255 = ((m : Nat) : Int) := by rw [← hm1.out]; exact (cnt_eq n).symm
  have hm2 : Hid (m ≤ 255) := by show m ≤ 255; rw [← hm1.out]; exact cnt_le n
  obtain ⟨l2, HL⟩ : ∃ l2, Hid (dmg ⟨0, i, b, n⟩ l = l2) := ⟨_, Lib.hid rfl⟩
  rw [HL.out]
  have CF : Hid (∀ W : World, SlB W base v l → base ≤ W.heap.size → Calls Try.prog 18 #[v, .agg #[.int .u8 0, .int .i64 i, .int .u8 (b : Int), .int .i64 (m : Int)]] W (Ins W base v l2)) := fun W h _ => by
    have HE : dmg ⟨0, i, b, n⟩ l = l := dmg_else _ l (show (0 : Nat) ≠ 1 by decide) (show (0 : Nat) ≠ 2 by decide) (show (0 : Nat) ≠ 3 by decide) (show (0 : Nat) ≠ 4 by decide)
    rw [← HL.out, HE]
    exact fstay W base v l 0 i b (m : Int) h
  clear h
  go_enter Try.func16, Try.ntmps16
  go_wp2_with fail
  generalize hwx : (w.alloc (.cells #[.int .u8 0, .int .i64 i, .int .u8 (b : Int), .int .i64 (m : Int)] 33)).alloc (.cells #[.func (.func 18) #[] #[], .func (.func 19) #[] #[], .func (.func 20) #[] #[], .func (.func 21) #[] #[], .func (.func 22) #[] #[]] 45) = wx
  have HB : Hid (Below w.heap.size w wx) := by rw [← hwx]; exact nest_below w [_, _]
  have FX : Hid (wx.heap[w.heap.size]? = some (.cells #[.int .u8 0, .int .i64 i, .int .u8 (b : Int), .int .i64 (m : Int)] 33)) := by rw [← hwx]; exact nest w [_, _] 0 _ rfl
  have FA : Hid (wx.heap[w.heap.size + 1]? = some (.cells #[.func (.func 18) #[] #[], .func (.func 19) #[] #[], .func (.func 20) #[] #[], .func (.func 21) #[] #[], .func (.func 22) #[] #[]] 45)) := by rw [← hwx]; exact nest w [_, _] 1 _ rfl
  clear hwx hm
  refine wp_region_held_drew (S := (fun w' => w'.heap[w.heap.size]? = some (.cells #[.int .u8 0, .int .i64 i, .int .u8 (b : Int), .int .i64 (m : Int)] 33) ∧ w'.heap[w.heap.size + 1]? = some (.cells #[.func (.func 18) #[] #[], .func (.func 19) #[] #[], .func (.func 20) #[] #[], .func (.func 21) #[] #[], .func (.func 22) #[] #[]] 45) ∧ w.grownBy w' v.ownBlock)) (by kernel_rfl) ⟨FX.out, FA.out, gr_end (gr_below HB.out)⟩ (fun hHeld => ?_)
  refine' wpAnyH_take (i := 0) (oi := { dst := some 17, op := Go.Op.fieldAddr 33 (Go.Operand.tmp 3) 0, type := 0, pos := "line.go:105", after := #[], guard := none }) (v := _) rfl (by kernel_rfl) (by kernel_rfl) (by kernel_rfl) (fun _ _ _ h => h) (Or.inl ⟨by rfl, ?hy1⟩) (by assumption) ?hr1
  case hy1 => (intro _ hSw; (try dsimp only at hSw); go_simp <;> with_reducible rfl)
  simp only [Act.put, List.setIfInBounds_toArray, List.set_cons_zero, List.set_cons_succ]
  refine' wpAnyH_take (i := 1) (oi := { dst := some 18, op := Go.Op.load 5 (Go.Operand.tmp 17), type := 5, pos := "line.go:105", after := #[{ on := 0, ground := Go.Ground.data }], guard := none }) (v := _) rfl (by kernel_rfl) (by kernel_rfl) (by kernel_rfl) (fun _ _ _ h => h) (Or.inl ⟨by rfl, ?hy2⟩) (by assumption) ?hr2
  case hy2 => (intro _ hSw; (try dsimp only at hSw); have c0 := cell_of (i := 0) hSw.1 rfl; have c1 := cell_of (i := 1) hSw.1 rfl; have c2 := cell_of (i := 2) hSw.1 rfl; have c3 := cell_of (i := 3) hSw.1 rfl; go_simp <;> with_reducible rfl)
  simp only [Act.put, List.setIfInBounds_toArray, List.set_cons_zero, List.set_cons_succ]
  refine' wpAnyH_take (i := 2) (oi := { dst := some 19, op := Go.Op.indexAddr 45 (Go.Operand.tmp 5) (Go.Operand.tmp 18), type := 0, pos := "line.go:105", after := #[{ on := 1, ground := Go.Ground.data }], guard := none }) (v := _) rfl (by kernel_rfl) (by kernel_rfl) (by kernel_rfl) (fun _ _ _ h => h) (Or.inl ⟨by rfl, ?hy3⟩) (by assumption) ?hr3
  case hy3 => (intro _ hSw; (try dsimp only at hSw); go_simp <;> with_reducible rfl)
  simp only [Act.put, List.setIfInBounds_toArray, List.set_cons_zero, List.set_cons_succ]
  refine' wpAnyH_take (i := 3) (oi := { dst := some 20, op := Go.Op.load 44 (Go.Operand.tmp 19), type := 44, pos := "line.go:105", after := #[{ on := 2, ground := Go.Ground.data }], guard := none }) (v := _) rfl (by kernel_rfl) (by kernel_rfl) (by kernel_rfl) (fun _ _ _ h => h) (Or.inl ⟨by rfl, ?hy4⟩) (by assumption) ?hr4
  case hy4 => (intro _ hSw; (try dsimp only at hSw); have c4 := cell_of (i := 0) hSw.2.1 rfl; go_simp <;> with_reducible rfl)
  simp only [Act.put, List.setIfInBounds_toArray, List.set_cons_zero, List.set_cons_succ]
  refine' wpAnyH_take (i := 4) (oi := { dst := some 21, op := Go.Op.move (Go.Operand.tmp 0), type := 43, pos := "line.go:105", after := #[], guard := none }) (v := _) rfl (by kernel_rfl) (by kernel_rfl) (by kernel_rfl) (fun _ _ _ h => h) (Or.inl ⟨by rfl, ?hy5⟩) (by assumption) ?hr5
  case hy5 => (intro _ hSw; (try dsimp only at hSw); go_simp <;> with_reducible rfl)
  simp only [Act.put, List.setIfInBounds_toArray, List.set_cons_zero, List.set_cons_succ]
  refine' wpAnyH_take (i := 5) (oi := { dst := some 22, op := Go.Op.load 33 (Go.Operand.tmp 3), type := 33, pos := "line.go:105", after := #[], guard := none }) (v := _) rfl (by kernel_rfl) (by kernel_rfl) (by kernel_rfl) (fun _ _ _ h => h) (Or.inl ⟨by rfl, ?hy6⟩) (by assumption) ?hr6
  case hy6 => (intro _ hSw; (try dsimp only at hSw); have c0 := cell_of (i := 0) hSw.1 rfl; have c1 := cell_of (i := 1) hSw.1 rfl; have c2 := cell_of (i := 2) hSw.1 rfl; have c3 := cell_of (i := 3) hSw.1 rfl; go_simp <;> with_reducible rfl)
  simp only [Act.put, List.setIfInBounds_toArray, List.set_cons_zero, List.set_cons_succ]
  have CD := Lib.hid (CF.out wx.drew (H.out.below (HB.out.drew)) (Nat.le_trans hb HB.out.size))
  clear CF
  refine wpAnyH_ready (rs := [6]) (by kernel_rfl) (by simp) ?_
  refine AllReadyH.cons (o := { dst := some 23, op := Go.Op.call { callee := Go.Callee.value (Go.Operand.tmp 20), args := #[Go.Operand.tmp 21, Go.Operand.tmp 22], argTypes := #[43, 33] }, type := 43, pos := "line.go:105", after := #[{ on := 3, ground := Go.Ground.data }, { on := 4, ground := Go.Ground.data }, { on := 5, ground := Go.Ground.data }], guard := none }) rfl (fun K hK => ?_) AllReadyH.nil
  go_simp
  (with_reducible refine CD.out.mono ?_)
  rintro e w3 ⟨v', rfl, hs3, hg3⟩
  have HS3 := Lib.hid hs3
  have HG3 : Hid (w.grownBy w3 v.ownBlock) := gr_then (gr_below (HB.out.drew)) hg3
  have HX3 : Hid (w3.heap[w.heap.size]? = some (.cells #[.int .u8 0, .int .i64 i, .int .u8 (b : Int), .int .i64 (m : Int)] 33)) := gr_stays hg3 FX.out (fun e => by have := (H.out.base w.heap.size e.symm).2; omega)
  have HA3 : Hid (w3.heap[w.heap.size + 1]? = some (.cells #[.func (.func 18) #[] #[], .func (.func 19) #[] #[], .func (.func 20) #[] #[], .func (.func 21) #[] #[], .func (.func 22) #[] #[]] 45)) := gr_stays hg3 FA.out (fun e => by have := (H.out.base (w.heap.size + 1) e.symm).2; omega)
  clear hs3 hg3 CD
  go_wp2_with fail
  refine hK.out _ _ ⟨HX3.out, HA3.out, HG3.out⟩ (fun hNext => ?_)
  clear hK K hHeld
  have hHeld := hNext
  clear hNext
  (try simp only [Act.put, List.setIfInBounds_toArray, List.set_cons_zero, List.set_cons_succ])
  refine' wpAnyH_take (i := 7) (oi := { dst := some 4, op := Go.Op.assign (Go.Operand.tmp 23), type := 43, pos := "line.go:105", after := #[{ on := 6, ground := Go.Ground.data }, { on := 6, ground := Go.Ground.chain }, { on := 0, ground := Go.Ground.phase }, { on := 1, ground := Go.Ground.phase }, { on := 2, ground := Go.Ground.phase }, { on := 3, ground := Go.Ground.phase }, { on := 4, ground := Go.Ground.phase }, { on := 5, ground := Go.Ground.phase }, { on := 6, ground := Go.Ground.phase }], guard := none }) (v := _) rfl (by kernel_rfl) (by kernel_rfl) (by kernel_rfl) (fun _ _ _ h => h) (Or.inl ⟨by rfl, ?hy7⟩) (by assumption) ?hr7
  case hy7 => (intro _ hSw; (try dsimp only at hSw); go_simp <;> with_reducible rfl)
  simp only [Act.put, List.setIfInBounds_toArray, List.set_cons_zero, List.set_cons_succ]
  refine wpAnyH_done (by kernel_rfl) ?_ _
  go_wp2
  go_ret
  exact ⟨v', rfl, HS3.out, HG3.out⟩
set_option maxHeartbeats 4000000 in
set_option maxRecDepth 100000 in
theorem fdam1 (h : SlB w base v l) (hb : base ≤ w.heap.size) (_ : b < 256) (hl : l.length ≤ 100000) :
    Calls Try.prog 16 #[v, .agg #[.int .u8 1, .int .i64 i, .int .u8 (b : Int), .int .i64 n]] w (Ins w base v (dmg ⟨1, i, b, n⟩ l)) := by
  have H := Lib.hid h
  obtain ⟨m, hm1⟩ : ∃ m, Hid (cnt n = m) := ⟨_, Lib.hid rfl⟩
  have hm : min (max n 0) 255 = ((m : Nat) : Int) := by rw [← hm1.out]; exact (cnt_eq n).symm
  have hm2 : Hid (m ≤ 255) := by show m ≤ 255; rw [← hm1.out]; exact cnt_le n
  obtain ⟨l2, HL⟩ : ∃ l2, Hid (dmg ⟨1, i, b, n⟩ l = l2) := ⟨_, Lib.hid rfl⟩
  rw [HL.out]
  have CF : Hid (∀ W : World, SlB W base v l → base ≤ W.heap.size → Calls Try.prog 19 #[v, .agg #[.int .u8 1, .int .i64 i, .int .u8 (b : Int), .int .i64 (m : Int)]] W (Ins W base v l2)) := fun W h _ => by
    have HE : dmg ⟨1, i, b, n⟩ l = (if i < 0 ∨ (l.length : Int) ≤ i then l else cut l i.toNat (min (cnt n) (l.length - i.toNat))) := if_pos rfl
    rw [← HL.out, HE]
    rw [hm1.out]; exact fdrop W base v l 1 i b h m hm2.out (by omega)
  clear h hl
  go_enter Try.func16, Try.ntmps16
  go_wp2_with fail
  generalize hwx : (w.alloc (.cells #[.int .u8 1, .int .i64 i, .int .u8 (b : Int), .int .i64 (m : Int)] 33)).alloc (.cells #[.func (.func 18) #[] #[], .func (.func 19) #[] #[], .func (.func 20) #[] #[], .func (.func 21) #[] #[], .func (.func 22) #[] #[]] 45) = wx
  have HB : Hid (Below w.heap.size w wx) := by rw [← hwx]; exact nest_below w [_, _]
  have FX : Hid (wx.heap[w.heap.size]? = some (.cells #[.int .u8 1, .int .i64 i, .int .u8 (b : Int), .int .i64 (m : Int)] 33)) := by rw [← hwx]; exact nest w [_, _] 0 _ rfl
  have FA : Hid (wx.heap[w.heap.size + 1]? = some (.cells #[.func (.func 18) #[] #[], .func (.func 19) #[] #[], .func (.func 20) #[] #[], .func (.func 21) #[] #[], .func (.func 22) #[] #[]] 45)) := by rw [← hwx]; exact nest w [_, _] 1 _ rfl
  clear hwx hm
  refine wp_region_held_drew (S := (fun w' => w'.heap[w.heap.size]? = some (.cells #[.int .u8 1, .int .i64 i, .int .u8 (b : Int), .int .i64 (m : Int)] 33) ∧ w'.heap[w.heap.size + 1]? = some (.cells #[.func (.func 18) #[] #[], .func (.func 19) #[] #[], .func (.func 20) #[] #[], .func (.func 21) #[] #[], .func (.func 22) #[] #[]] 45) ∧ w.grownBy w' v.ownBlock)) (by kernel_rfl) ⟨FX.out, FA.out, gr_end (gr_below HB.out)⟩ (fun hHeld => ?_)
  refine' wpAnyH_take (i := 0) (oi := { dst := some 17, op := Go.Op.fieldAddr 33 (Go.Operand.tmp 3) 0, type := 0, pos := "line.go:105", after := #[], guard := none }) (v := _) rfl (by kernel_rfl) (by kernel_rfl) (by kernel_rfl) (fun _ _ _ h => h) (Or.inl ⟨by rfl, ?hy8⟩) (by assumption) ?hr8
  case hy8 => (intro _ hSw; (try dsimp only at hSw); go_simp <;> with_reducible rfl)
  simp only [Act.put, List.setIfInBounds_toArray, List.set_cons_zero, List.set_cons_succ]
  refine' wpAnyH_take (i := 1) (oi := { dst := some 18, op := Go.Op.load 5 (Go.Operand.tmp 17), type := 5, pos := "line.go:105", after := #[{ on := 0, ground := Go.Ground.data }], guard := none }) (v := _) rfl (by kernel_rfl) (by kernel_rfl) (by kernel_rfl) (fun _ _ _ h => h) (Or.inl ⟨by rfl, ?hy9⟩) (by assumption) ?hr9
  case hy9 => (intro _ hSw; (try dsimp only at hSw); have c0 := cell_of (i := 0) hSw.1 rfl; have c1 := cell_of (i := 1) hSw.1 rfl; have c2 := cell_of (i := 2) hSw.1 rfl; have c3 := cell_of (i := 3) hSw.1 rfl; go_simp <;> with_reducible rfl)
  simp only [Act.put, List.setIfInBounds_toArray, List.set_cons_zero, List.set_cons_succ]
  refine' wpAnyH_take (i := 2) (oi := { dst := some 19, op := Go.Op.indexAddr 45 (Go.Operand.tmp 5) (Go.Operand.tmp 18), type := 0, pos := "line.go:105", after := #[{ on := 1, ground := Go.Ground.data }], guard := none }) (v := _) rfl (by kernel_rfl) (by kernel_rfl) (by kernel_rfl) (fun _ _ _ h => h) (Or.inl ⟨by rfl, ?hy10⟩) (by assumption) ?hr10
  case hy10 => (intro _ hSw; (try dsimp only at hSw); go_simp <;> with_reducible rfl)
  simp only [Act.put, List.setIfInBounds_toArray, List.set_cons_zero, List.set_cons_succ]
  refine' wpAnyH_take (i := 3) (oi := { dst := some 20, op := Go.Op.load 44 (Go.Operand.tmp 19), type := 44, pos := "line.go:105", after := #[{ on := 2, ground := Go.Ground.data }], guard := none }) (v := _) rfl (by kernel_rfl) (by kernel_rfl) (by kernel_rfl) (fun _ _ _ h => h) (Or.inl ⟨by rfl, ?hy11⟩) (by assumption) ?hr11
  case hy11 => (intro _ hSw; (try dsimp only at hSw); have c4 := cell_of (i := 1) hSw.2.1 rfl; go_simp <;> with_reducible rfl)
  simp only [Act.put, List.setIfInBounds_toArray, List.set_cons_zero, List.set_cons_succ]
  refine' wpAnyH_take (i := 4) (oi := { dst := some 21, op := Go.Op.move (Go.Operand.tmp 0), type := 43, pos := "line.go:105", after := #[], guard := none }) (v := _) rfl (by kernel_rfl) (by kernel_rfl) (by kernel_rfl) (fun _ _ _ h => h) (Or.inl ⟨by rfl, ?hy12⟩) (by assumption) ?hr12
  case hy12 => (intro _ hSw; (try dsimp only at hSw); go_simp <;> with_reducible rfl)
  simp only [Act.put, List.setIfInBounds_toArray, List.set_cons_zero, List.set_cons_succ]
  refine' wpAnyH_take (i := 5) (oi := { dst := some 22, op := Go.Op.load 33 (Go.Operand.tmp 3), type := 33, pos := "line.go:105", after := #[], guard := none }) (v := _) rfl (by kernel_rfl) (by kernel_rfl) (by kernel_rfl) (fun _ _ _ h => h) (Or.inl ⟨by rfl, ?hy13⟩) (by assumption) ?hr13
  case hy13 => (intro _ hSw; (try dsimp only at hSw); have c0 := cell_of (i := 0) hSw.1 rfl; have c1 := cell_of (i := 1) hSw.1 rfl; have c2 := cell_of (i := 2) hSw.1 rfl; have c3 := cell_of (i := 3) hSw.1 rfl; go_simp <;> with_reducible rfl)
  simp only [Act.put, List.setIfInBounds_toArray, List.set_cons_zero, List.set_cons_succ]
  have CD := Lib.hid (CF.out wx.drew (H.out.below (HB.out.drew)) (Nat.le_trans hb HB.out.size))
  clear CF
  refine wpAnyH_ready (rs := [6]) (by kernel_rfl) (by simp) ?_
  refine AllReadyH.cons (o := { dst := some 23, op := Go.Op.call { callee := Go.Callee.value (Go.Operand.tmp 20), args := #[Go.Operand.tmp 21, Go.Operand.tmp 22], argTypes := #[43, 33] }, type := 43, pos := "line.go:105", after := #[{ on := 3, ground := Go.Ground.data }, { on := 4, ground := Go.Ground.data }, { on := 5, ground := Go.Ground.data }], guard := none }) rfl (fun K hK => ?_) AllReadyH.nil
  go_simp
  (with_reducible refine CD.out.mono ?_)
  rintro e w3 ⟨v', rfl, hs3, hg3⟩
  have HS3 := Lib.hid hs3
  have HG3 : Hid (w.grownBy w3 v.ownBlock) := gr_then (gr_below (HB.out.drew)) hg3
  have HX3 : Hid (w3.heap[w.heap.size]? = some (.cells #[.int .u8 1, .int .i64 i, .int .u8 (b : Int), .int .i64 (m : Int)] 33)) := gr_stays hg3 FX.out (fun e => by have := (H.out.base w.heap.size e.symm).2; omega)
  have HA3 : Hid (w3.heap[w.heap.size + 1]? = some (.cells #[.func (.func 18) #[] #[], .func (.func 19) #[] #[], .func (.func 20) #[] #[], .func (.func 21) #[] #[], .func (.func 22) #[] #[]] 45)) := gr_stays hg3 FA.out (fun e => by have := (H.out.base (w.heap.size + 1) e.symm).2; omega)
  clear hs3 hg3 CD
  go_wp2_with fail
  refine hK.out _ _ ⟨HX3.out, HA3.out, HG3.out⟩ (fun hNext => ?_)
  clear hK K hHeld
  have hHeld := hNext
  clear hNext
  (try simp only [Act.put, List.setIfInBounds_toArray, List.set_cons_zero, List.set_cons_succ])
  refine' wpAnyH_take (i := 7) (oi := { dst := some 4, op := Go.Op.assign (Go.Operand.tmp 23), type := 43, pos := "line.go:105", after := #[{ on := 6, ground := Go.Ground.data }, { on := 6, ground := Go.Ground.chain }, { on := 0, ground := Go.Ground.phase }, { on := 1, ground := Go.Ground.phase }, { on := 2, ground := Go.Ground.phase }, { on := 3, ground := Go.Ground.phase }, { on := 4, ground := Go.Ground.phase }, { on := 5, ground := Go.Ground.phase }, { on := 6, ground := Go.Ground.phase }], guard := none }) (v := _) rfl (by kernel_rfl) (by kernel_rfl) (by kernel_rfl) (fun _ _ _ h => h) (Or.inl ⟨by rfl, ?hy14⟩) (by assumption) ?hr14
  case hy14 => (intro _ hSw; (try dsimp only at hSw); go_simp <;> with_reducible rfl)
  simp only [Act.put, List.setIfInBounds_toArray, List.set_cons_zero, List.set_cons_succ]
  refine wpAnyH_done (by kernel_rfl) ?_ _
  go_wp2
  go_ret
  exact ⟨v', rfl, HS3.out, HG3.out⟩
set_option maxHeartbeats 4000000 in
set_option maxRecDepth 100000 in
theorem fdam2 (h : SlB w base v l) (hb : base ≤ w.heap.size) (hb8 : b < 256) (_ : l.length ≤ 100000) :
    Calls Try.prog 16 #[v, .agg #[.int .u8 2, .int .i64 i, .int .u8 (b : Int), .int .i64 n]] w (Ins w base v (dmg ⟨2, i, b, n⟩ l)) := by
  have H := Lib.hid h
  obtain ⟨m, hm1⟩ : ∃ m, Hid (cnt n = m) := ⟨_, Lib.hid rfl⟩
  have hm : min (max n 0) 255 = ((m : Nat) : Int) := by rw [← hm1.out]; exact (cnt_eq n).symm
  have hm2 : Hid (m ≤ 255) := by show m ≤ 255; rw [← hm1.out]; exact cnt_le n
  obtain ⟨l2, HL⟩ : ∃ l2, Hid (dmg ⟨2, i, b, n⟩ l = l2) := ⟨_, Lib.hid rfl⟩
  rw [HL.out]
  have CF : Hid (∀ W : World, SlB W base v l → base ≤ W.heap.size → Calls Try.prog 20 #[v, .agg #[.int .u8 2, .int .i64 i, .int .u8 (b : Int), .int .i64 (m : Int)]] W (Ins W base v l2)) := fun W h _ => by
    have HE : dmg ⟨2, i, b, n⟩ l = (if 0 ≤ i ∧ i < (l.length : Int) then turn l i.toNat b else l) := (if_neg (show ¬ (2 : Nat) = 1 by decide)).trans (if_pos rfl)
    rw [← HL.out, HE]
    exact fflip W base v l 2 i b (m : Int) h hb8
  clear h hb8
  go_enter Try.func16, Try.ntmps16
  go_wp2_with fail
  generalize hwx : (w.alloc (.cells #[.int .u8 2, .int .i64 i, .int .u8 (b : Int), .int .i64 (m : Int)] 33)).alloc (.cells #[.func (.func 18) #[] #[], .func (.func 19) #[] #[], .func (.func 20) #[] #[], .func (.func 21) #[] #[], .func (.func 22) #[] #[]] 45) = wx
  have HB : Hid (Below w.heap.size w wx) := by rw [← hwx]; exact nest_below w [_, _]
  have FX : Hid (wx.heap[w.heap.size]? = some (.cells #[.int .u8 2, .int .i64 i, .int .u8 (b : Int), .int .i64 (m : Int)] 33)) := by rw [← hwx]; exact nest w [_, _] 0 _ rfl
  have FA : Hid (wx.heap[w.heap.size + 1]? = some (.cells #[.func (.func 18) #[] #[], .func (.func 19) #[] #[], .func (.func 20) #[] #[], .func (.func 21) #[] #[], .func (.func 22) #[] #[]] 45)) := by rw [← hwx]; exact nest w [_, _] 1 _ rfl
  clear hwx hm
  refine wp_region_held_drew (S := (fun w' => w'.heap[w.heap.size]? = some (.cells #[.int .u8 2, .int .i64 i, .int .u8 (b : Int), .int .i64 (m : Int)] 33) ∧ w'.heap[w.heap.size + 1]? = some (.cells #[.func (.func 18) #[] #[], .func (.func 19) #[] #[], .func (.func 20) #[] #[], .func (.func 21) #[] #[], .func (.func 22) #[] #[]] 45) ∧ w.grownBy w' v.ownBlock)) (by kernel_rfl) ⟨FX.out, FA.out, gr_end (gr_below HB.out)⟩ (fun hHeld => ?_)
  refine' wpAnyH_take (i := 0) (oi := { dst := some 17, op := Go.Op.fieldAddr 33 (Go.Operand.tmp 3) 0, type := 0, pos := "line.go:105", after := #[], guard := none }) (v := _) rfl (by kernel_rfl) (by kernel_rfl) (by kernel_rfl) (fun _ _ _ h => h) (Or.inl ⟨by rfl, ?hy15⟩) (by assumption) ?hr15
  case hy15 => (intro _ hSw; (try dsimp only at hSw); go_simp <;> with_reducible rfl)
  simp only [Act.put, List.setIfInBounds_toArray, List.set_cons_zero, List.set_cons_succ]
  refine' wpAnyH_take (i := 1) (oi := { dst := some 18, op := Go.Op.load 5 (Go.Operand.tmp 17), type := 5, pos := "line.go:105", after := #[{ on := 0, ground := Go.Ground.data }], guard := none }) (v := _) rfl (by kernel_rfl) (by kernel_rfl) (by kernel_rfl) (fun _ _ _ h => h) (Or.inl ⟨by rfl, ?hy16⟩) (by assumption) ?hr16
  case hy16 => (intro _ hSw; (try dsimp only at hSw); have c0 := cell_of (i := 0) hSw.1 rfl; have c1 := cell_of (i := 1) hSw.1 rfl; have c2 := cell_of (i := 2) hSw.1 rfl; have c3 := cell_of (i := 3) hSw.1 rfl; go_simp <;> with_reducible rfl)
  simp only [Act.put, List.setIfInBounds_toArray, List.set_cons_zero, List.set_cons_succ]
  refine' wpAnyH_take (i := 2) (oi := { dst := some 19, op := Go.Op.indexAddr 45 (Go.Operand.tmp 5) (Go.Operand.tmp 18), type := 0, pos := "line.go:105", after := #[{ on := 1, ground := Go.Ground.data }], guard := none }) (v := _) rfl (by kernel_rfl) (by kernel_rfl) (by kernel_rfl) (fun _ _ _ h => h) (Or.inl ⟨by rfl, ?hy17⟩) (by assumption) ?hr17
  case hy17 => (intro _ hSw; (try dsimp only at hSw); go_simp <;> with_reducible rfl)
  simp only [Act.put, List.setIfInBounds_toArray, List.set_cons_zero, List.set_cons_succ]
  refine' wpAnyH_take (i := 3) (oi := { dst := some 20, op := Go.Op.load 44 (Go.Operand.tmp 19), type := 44, pos := "line.go:105", after := #[{ on := 2, ground := Go.Ground.data }], guard := none }) (v := _) rfl (by kernel_rfl) (by kernel_rfl) (by kernel_rfl) (fun _ _ _ h => h) (Or.inl ⟨by rfl, ?hy18⟩) (by assumption) ?hr18
  case hy18 => (intro _ hSw; (try dsimp only at hSw); have c4 := cell_of (i := 2) hSw.2.1 rfl; go_simp <;> with_reducible rfl)
  simp only [Act.put, List.setIfInBounds_toArray, List.set_cons_zero, List.set_cons_succ]
  refine' wpAnyH_take (i := 4) (oi := { dst := some 21, op := Go.Op.move (Go.Operand.tmp 0), type := 43, pos := "line.go:105", after := #[], guard := none }) (v := _) rfl (by kernel_rfl) (by kernel_rfl) (by kernel_rfl) (fun _ _ _ h => h) (Or.inl ⟨by rfl, ?hy19⟩) (by assumption) ?hr19
  case hy19 => (intro _ hSw; (try dsimp only at hSw); go_simp <;> with_reducible rfl)
  simp only [Act.put, List.setIfInBounds_toArray, List.set_cons_zero, List.set_cons_succ]
  refine' wpAnyH_take (i := 5) (oi := { dst := some 22, op := Go.Op.load 33 (Go.Operand.tmp 3), type := 33, pos := "line.go:105", after := #[], guard := none }) (v := _) rfl (by kernel_rfl) (by kernel_rfl) (by kernel_rfl) (fun _ _ _ h => h) (Or.inl ⟨by rfl, ?hy20⟩) (by assumption) ?hr20
  case hy20 => (intro _ hSw; (try dsimp only at hSw); have c0 := cell_of (i := 0) hSw.1 rfl; have c1 := cell_of (i := 1) hSw.1 rfl; have c2 := cell_of (i := 2) hSw.1 rfl; have c3 := cell_of (i := 3) hSw.1 rfl; go_simp <;> with_reducible rfl)
  simp only [Act.put, List.setIfInBounds_toArray, List.set_cons_zero, List.set_cons_succ]
  have CD := Lib.hid (CF.out wx.drew (H.out.below (HB.out.drew)) (Nat.le_trans hb HB.out.size))
  clear CF
  refine wpAnyH_ready (rs := [6]) (by kernel_rfl) (by simp) ?_
  refine AllReadyH.cons (o := { dst := some 23, op := Go.Op.call { callee := Go.Callee.value (Go.Operand.tmp 20), args := #[Go.Operand.tmp 21, Go.Operand.tmp 22], argTypes := #[43, 33] }, type := 43, pos := "line.go:105", after := #[{ on := 3, ground := Go.Ground.data }, { on := 4, ground := Go.Ground.data }, { on := 5, ground := Go.Ground.data }], guard := none }) rfl (fun K hK => ?_) AllReadyH.nil
  go_simp
  (with_reducible refine CD.out.mono ?_)
  rintro e w3 ⟨v', rfl, hs3, hg3⟩
  have HS3 := Lib.hid hs3
  have HG3 : Hid (w.grownBy w3 v.ownBlock) := gr_then (gr_below (HB.out.drew)) hg3
  have HX3 : Hid (w3.heap[w.heap.size]? = some (.cells #[.int .u8 2, .int .i64 i, .int .u8 (b : Int), .int .i64 (m : Int)] 33)) := gr_stays hg3 FX.out (fun e => by have := (H.out.base w.heap.size e.symm).2; omega)
  have HA3 : Hid (w3.heap[w.heap.size + 1]? = some (.cells #[.func (.func 18) #[] #[], .func (.func 19) #[] #[], .func (.func 20) #[] #[], .func (.func 21) #[] #[], .func (.func 22) #[] #[]] 45)) := gr_stays hg3 FA.out (fun e => by have := (H.out.base (w.heap.size + 1) e.symm).2; omega)
  clear hs3 hg3 CD
  go_wp2_with fail
  refine hK.out _ _ ⟨HX3.out, HA3.out, HG3.out⟩ (fun hNext => ?_)
  clear hK K hHeld
  have hHeld := hNext
  clear hNext
  (try simp only [Act.put, List.setIfInBounds_toArray, List.set_cons_zero, List.set_cons_succ])
  refine' wpAnyH_take (i := 7) (oi := { dst := some 4, op := Go.Op.assign (Go.Operand.tmp 23), type := 43, pos := "line.go:105", after := #[{ on := 6, ground := Go.Ground.data }, { on := 6, ground := Go.Ground.chain }, { on := 0, ground := Go.Ground.phase }, { on := 1, ground := Go.Ground.phase }, { on := 2, ground := Go.Ground.phase }, { on := 3, ground := Go.Ground.phase }, { on := 4, ground := Go.Ground.phase }, { on := 5, ground := Go.Ground.phase }, { on := 6, ground := Go.Ground.phase }], guard := none }) (v := _) rfl (by kernel_rfl) (by kernel_rfl) (by kernel_rfl) (fun _ _ _ h => h) (Or.inl ⟨by rfl, ?hy21⟩) (by assumption) ?hr21
  case hy21 => (intro _ hSw; (try dsimp only at hSw); go_simp <;> with_reducible rfl)
  simp only [Act.put, List.setIfInBounds_toArray, List.set_cons_zero, List.set_cons_succ]
  refine wpAnyH_done (by kernel_rfl) ?_ _
  go_wp2
  go_ret
  exact ⟨v', rfl, HS3.out, HG3.out⟩
set_option maxHeartbeats 4000000 in
set_option maxRecDepth 100000 in
theorem fdam3 (h : SlB w base v l) (hb : base ≤ w.heap.size) (hb8 : b < 256) (hl : l.length ≤ 100000) :
    Calls Try.prog 16 #[v, .agg #[.int .u8 3, .int .i64 i, .int .u8 (b : Int), .int .i64 n]] w (Ins w base v (dmg ⟨3, i, b, n⟩ l)) := by
  have H := Lib.hid h
  obtain ⟨m, hm1⟩ : ∃ m, Hid (cnt n = m) := ⟨_, Lib.hid rfl⟩
  have hm : min (max n 0) 255 = ((m : Nat) : Int) := by rw [← hm1.out]; exact (cnt_eq n).symm
  have hm2 : Hid (m ≤ 255) := by show m ≤ 255; rw [← hm1.out]; exact cnt_le n
  obtain ⟨l2, HL⟩ : ∃ l2, Hid (dmg ⟨3, i, b, n⟩ l = l2) := ⟨_, Lib.hid rfl⟩
  rw [HL.out]
  have CF : Hid (∀ W : World, SlB W base v l → base ≤ W.heap.size → Calls Try.prog 21 #[v, .agg #[.int .u8 3, .int .i64 i, .int .u8 (b : Int), .int .i64 (m : Int)]] W (Ins W base v l2)) := fun W h hbW => by
    have HE : dmg ⟨3, i, b, n⟩ l = (if i < 0 ∨ (l.length : Int) < i then l else put l i.toNat (List.replicate (cnt n) (UInt8.ofNat b))) := (if_neg (show ¬ (3 : Nat) = 1 by decide)).trans ((if_neg (show ¬ (3 : Nat) = 2 by decide)).trans (if_pos rfl))
    rw [← HL.out, HE]
    rw [hm1.out]; exact fput W base v l 3 i b h hbW m hm2.out hb8 hl
  clear h hb8 hl
  go_enter Try.func16, Try.ntmps16
  go_wp2_with fail
  generalize hwx : (w.alloc (.cells #[.int .u8 3, .int .i64 i, .int .u8 (b : Int), .int .i64 (m : Int)] 33)).alloc (.cells #[.func (.func 18) #[] #[], .func (.func 19) #[] #[], .func (.func 20) #[] #[], .func (.func 21) #[] #[], .func (.func 22) #[] #[]] 45) = wx
  have HB : Hid (Below w.heap.size w wx) := by rw [← hwx]; exact nest_below w [_, _]
  have FX : Hid (wx.heap[w.heap.size]? = some (.cells #[.int .u8 3, .int .i64 i, .int .u8 (b : Int), .int .i64 (m : Int)] 33)) := by rw [← hwx]; exact nest w [_, _] 0 _ rfl
  have FA : Hid (wx.heap[w.heap.size + 1]? = some (.cells #[.func (.func 18) #[] #[], .func (.func 19) #[] #[], .func (.func 20) #[] #[], .func (.func 21) #[] #[], .func (.func 22) #[] #[]] 45)) := by rw [← hwx]; exact nest w [_, _] 1 _ rfl
  clear hwx hm
  refine wp_region_held_drew (S := (fun w' => w'.heap[w.heap.size]? = some (.cells #[.int .u8 3, .int .i64 i, .int .u8 (b : Int), .int .i64 (m : Int)] 33) ∧ w'.heap[w.heap.size + 1]? = some (.cells #[.func (.func 18) #[] #[], .func (.func 19) #[] #[], .func (.func 20) #[] #[], .func (.func 21) #[] #[], .func (.func 22) #[] #[]] 45) ∧ w.grownBy w' v.ownBlock)) (by kernel_rfl) ⟨FX.out, FA.out, gr_end (gr_below HB.out)⟩ (fun hHeld => ?_)
  refine' wpAnyH_take (i := 0) (oi := { dst := some 17, op := Go.Op.fieldAddr 33 (Go.Operand.tmp 3) 0, type := 0, pos := "line.go:105", after := #[], guard := none }) (v := _) rfl (by kernel_rfl) (by kernel_rfl) (by kernel_rfl) (fun _ _ _ h => h) (Or.inl ⟨by rfl, ?hy22⟩) (by assumption) ?hr22
  case hy22 => (intro _ hSw; (try dsimp only at hSw); go_simp <;> with_reducible rfl)
  simp only [Act.put, List.setIfInBounds_toArray, List.set_cons_zero, List.set_cons_succ]
  refine' wpAnyH_take (i := 1) (oi := { dst := some 18, op := Go.Op.load 5 (Go.Operand.tmp 17), type := 5, pos := "line.go:105", after := #[{ on := 0, ground := Go.Ground.data }], guard := none }) (v := _) rfl (by kernel_rfl) (by kernel_rfl) (by kernel_rfl) (fun _ _ _ h => h) (Or.inl ⟨by rfl, ?hy23⟩) (by assumption) ?hr23
  case hy23 => (intro _ hSw; (try dsimp only at hSw); have c0 := cell_of (i := 0) hSw.1 rfl; have c1 := cell_of (i := 1) hSw.1 rfl; have c2 := cell_of (i := 2) hSw.1 rfl; have c3 := cell_of (i := 3) hSw.1 rfl; go_simp <;> with_reducible rfl)
  simp only [Act.put, List.setIfInBounds_toArray, List.set_cons_zero, List.set_cons_succ]
  refine' wpAnyH_take (i := 2) (oi := { dst := some 19, op := Go.Op.indexAddr 45 (Go.Operand.tmp 5) (Go.Operand.tmp 18), type := 0, pos := "line.go:105", after := #[{ on := 1, ground := Go.Ground.data }], guard := none }) (v := _) rfl (by kernel_rfl) (by kernel_rfl) (by kernel_rfl) (fun _ _ _ h => h) (Or.inl ⟨by rfl, ?hy24⟩) (by assumption) ?hr24
  case hy24 => (intro _ hSw; (try dsimp only at hSw); go_simp <;> with_reducible rfl)
  simp only [Act.put, List.setIfInBounds_toArray, List.set_cons_zero, List.set_cons_succ]
  refine' wpAnyH_take (i := 3) (oi := { dst := some 20, op := Go.Op.load 44 (Go.Operand.tmp 19), type := 44, pos := "line.go:105", after := #[{ on := 2, ground := Go.Ground.data }], guard := none }) (v := _) rfl (by kernel_rfl) (by kernel_rfl) (by kernel_rfl) (fun _ _ _ h => h) (Or.inl ⟨by rfl, ?hy25⟩) (by assumption) ?hr25
  case hy25 => (intro _ hSw; (try dsimp only at hSw); have c4 := cell_of (i := 3) hSw.2.1 rfl; go_simp <;> with_reducible rfl)
  simp only [Act.put, List.setIfInBounds_toArray, List.set_cons_zero, List.set_cons_succ]
  refine' wpAnyH_take (i := 4) (oi := { dst := some 21, op := Go.Op.move (Go.Operand.tmp 0), type := 43, pos := "line.go:105", after := #[], guard := none }) (v := _) rfl (by kernel_rfl) (by kernel_rfl) (by kernel_rfl) (fun _ _ _ h => h) (Or.inl ⟨by rfl, ?hy26⟩) (by assumption) ?hr26
  case hy26 => (intro _ hSw; (try dsimp only at hSw); go_simp <;> with_reducible rfl)
  simp only [Act.put, List.setIfInBounds_toArray, List.set_cons_zero, List.set_cons_succ]
  refine' wpAnyH_take (i := 5) (oi := { dst := some 22, op := Go.Op.load 33 (Go.Operand.tmp 3), type := 33, pos := "line.go:105", after := #[], guard := none }) (v := _) rfl (by kernel_rfl) (by kernel_rfl) (by kernel_rfl) (fun _ _ _ h => h) (Or.inl ⟨by rfl, ?hy27⟩) (by assumption) ?hr27
  case hy27 => (intro _ hSw; (try dsimp only at hSw); have c0 := cell_of (i := 0) hSw.1 rfl; have c1 := cell_of (i := 1) hSw.1 rfl; have c2 := cell_of (i := 2) hSw.1 rfl; have c3 := cell_of (i := 3) hSw.1 rfl; go_simp <;> with_reducible rfl)
  simp only [Act.put, List.setIfInBounds_toArray, List.set_cons_zero, List.set_cons_succ]
  have CD := Lib.hid (CF.out wx.drew (H.out.below (HB.out.drew)) (Nat.le_trans hb HB.out.size))
  clear CF
  refine wpAnyH_ready (rs := [6]) (by kernel_rfl) (by simp) ?_
  refine AllReadyH.cons (o := { dst := some 23, op := Go.Op.call { callee := Go.Callee.value (Go.Operand.tmp 20), args := #[Go.Operand.tmp 21, Go.Operand.tmp 22], argTypes := #[43, 33] }, type := 43, pos := "line.go:105", after := #[{ on := 3, ground := Go.Ground.data }, { on := 4, ground := Go.Ground.data }, { on := 5, ground := Go.Ground.data }], guard := none }) rfl (fun K hK => ?_) AllReadyH.nil
  go_simp
  (with_reducible refine CD.out.mono ?_)
  rintro e w3 ⟨v', rfl, hs3, hg3⟩
  have HS3 := Lib.hid hs3
  have HG3 : Hid (w.grownBy w3 v.ownBlock) := gr_then (gr_below (HB.out.drew)) hg3
  have HX3 : Hid (w3.heap[w.heap.size]? = some (.cells #[.int .u8 3, .int .i64 i, .int .u8 (b : Int), .int .i64 (m : Int)] 33)) := gr_stays hg3 FX.out (fun e => by have := (H.out.base w.heap.size e.symm).2; omega)
  have HA3 : Hid (w3.heap[w.heap.size + 1]? = some (.cells #[.func (.func 18) #[] #[], .func (.func 19) #[] #[], .func (.func 20) #[] #[], .func (.func 21) #[] #[], .func (.func 22) #[] #[]] 45)) := gr_stays hg3 FA.out (fun e => by have := (H.out.base (w.heap.size + 1) e.symm).2; omega)
  clear hs3 hg3 CD
  go_wp2_with fail
  refine hK.out _ _ ⟨HX3.out, HA3.out, HG3.out⟩ (fun hNext => ?_)
  clear hK K hHeld
  have hHeld := hNext
  clear hNext
  (try simp only [Act.put, List.setIfInBounds_toArray, List.set_cons_zero, List.set_cons_succ])
  refine' wpAnyH_take (i := 7) (oi := { dst := some 4, op := Go.Op.assign (Go.Operand.tmp 23), type := 43, pos := "line.go:105", after := #[{ on := 6, ground := Go.Ground.data }, { on := 6, ground := Go.Ground.chain }, { on := 0, ground := Go.Ground.phase }, { on := 1, ground := Go.Ground.phase }, { on := 2, ground := Go.Ground.phase }, { on := 3, ground := Go.Ground.phase }, { on := 4, ground := Go.Ground.phase }, { on := 5, ground := Go.Ground.phase }, { on := 6, ground := Go.Ground.phase }], guard := none }) (v := _) rfl (by kernel_rfl) (by kernel_rfl) (by kernel_rfl) (fun _ _ _ h => h) (Or.inl ⟨by rfl, ?hy28⟩) (by assumption) ?hr28
  case hy28 => (intro _ hSw; (try dsimp only at hSw); go_simp <;> with_reducible rfl)
  simp only [Act.put, List.setIfInBounds_toArray, List.set_cons_zero, List.set_cons_succ]
  refine wpAnyH_done (by kernel_rfl) ?_ _
  go_wp2
  go_ret
  exact ⟨v', rfl, HS3.out, HG3.out⟩
set_option maxHeartbeats 4000000 in
set_option maxRecDepth 100000 in
theorem fdam4 (h : SlB w base v l) (hb : base ≤ w.heap.size) (_ : b < 256) (_ : l.length ≤ 100000) :
    Calls Try.prog 16 #[v, .agg #[.int .u8 4, .int .i64 i, .int .u8 (b : Int), .int .i64 n]] w (Ins w base v (dmg ⟨4, i, b, n⟩ l)) := by
  have H := Lib.hid h
  obtain ⟨m, hm1⟩ : ∃ m, Hid (cnt n = m) := ⟨_, Lib.hid rfl⟩
  have hm : min (max n 0) 255 = ((m : Nat) : Int) := by rw [← hm1.out]; exact (cnt_eq n).symm
  have hm2 : Hid (m ≤ 255) := by show m ≤ 255; rw [← hm1.out]; exact cnt_le n
  obtain ⟨l2, HL⟩ : ∃ l2, Hid (dmg ⟨4, i, b, n⟩ l = l2) := ⟨_, Lib.hid rfl⟩
  rw [HL.out]
  have CF : Hid (∀ W : World, SlB W base v l → base ≤ W.heap.size → Calls Try.prog 22 #[v, .agg #[.int .u8 4, .int .i64 i, .int .u8 (b : Int), .int .i64 (m : Int)]] W (Ins W base v l2)) := fun W h _ => by
    have HE : dmg ⟨4, i, b, n⟩ l = [] := (if_neg (show ¬ (4 : Nat) = 1 by decide)).trans ((if_neg (show ¬ (4 : Nat) = 2 by decide)).trans ((if_neg (show ¬ (4 : Nat) = 3 by decide)).trans (if_pos rfl)))
    rw [← HL.out, HE]
    exact flose W base v 4 i b (m : Int)
  clear h
  go_enter Try.func16, Try.ntmps16
  go_wp2_with fail
  generalize hwx : (w.alloc (.cells #[.int .u8 4, .int .i64 i, .int .u8 (b : Int), .int .i64 (m : Int)] 33)).alloc (.cells #[.func (.func 18) #[] #[], .func (.func 19) #[] #[], .func (.func 20) #[] #[], .func (.func 21) #[] #[], .func (.func 22) #[] #[]] 45) = wx
  have HB : Hid (Below w.heap.size w wx) := by rw [← hwx]; exact nest_below w [_, _]
  have FX : Hid (wx.heap[w.heap.size]? = some (.cells #[.int .u8 4, .int .i64 i, .int .u8 (b : Int), .int .i64 (m : Int)] 33)) := by rw [← hwx]; exact nest w [_, _] 0 _ rfl
  have FA : Hid (wx.heap[w.heap.size + 1]? = some (.cells #[.func (.func 18) #[] #[], .func (.func 19) #[] #[], .func (.func 20) #[] #[], .func (.func 21) #[] #[], .func (.func 22) #[] #[]] 45)) := by rw [← hwx]; exact nest w [_, _] 1 _ rfl
  clear hwx hm
  refine wp_region_held_drew (S := (fun w' => w'.heap[w.heap.size]? = some (.cells #[.int .u8 4, .int .i64 i, .int .u8 (b : Int), .int .i64 (m : Int)] 33) ∧ w'.heap[w.heap.size + 1]? = some (.cells #[.func (.func 18) #[] #[], .func (.func 19) #[] #[], .func (.func 20) #[] #[], .func (.func 21) #[] #[], .func (.func 22) #[] #[]] 45) ∧ w.grownBy w' v.ownBlock)) (by kernel_rfl) ⟨FX.out, FA.out, gr_end (gr_below HB.out)⟩ (fun hHeld => ?_)
  refine' wpAnyH_take (i := 0) (oi := { dst := some 17, op := Go.Op.fieldAddr 33 (Go.Operand.tmp 3) 0, type := 0, pos := "line.go:105", after := #[], guard := none }) (v := _) rfl (by kernel_rfl) (by kernel_rfl) (by kernel_rfl) (fun _ _ _ h => h) (Or.inl ⟨by rfl, ?hy29⟩) (by assumption) ?hr29
  case hy29 => (intro _ hSw; (try dsimp only at hSw); go_simp <;> with_reducible rfl)
  simp only [Act.put, List.setIfInBounds_toArray, List.set_cons_zero, List.set_cons_succ]
  refine' wpAnyH_take (i := 1) (oi := { dst := some 18, op := Go.Op.load 5 (Go.Operand.tmp 17), type := 5, pos := "line.go:105", after := #[{ on := 0, ground := Go.Ground.data }], guard := none }) (v := _) rfl (by kernel_rfl) (by kernel_rfl) (by kernel_rfl) (fun _ _ _ h => h) (Or.inl ⟨by rfl, ?hy30⟩) (by assumption) ?hr30
  case hy30 => (intro _ hSw; (try dsimp only at hSw); have c0 := cell_of (i := 0) hSw.1 rfl; have c1 := cell_of (i := 1) hSw.1 rfl; have c2 := cell_of (i := 2) hSw.1 rfl; have c3 := cell_of (i := 3) hSw.1 rfl; go_simp <;> with_reducible rfl)
  simp only [Act.put, List.setIfInBounds_toArray, List.set_cons_zero, List.set_cons_succ]
  refine' wpAnyH_take (i := 2) (oi := { dst := some 19, op := Go.Op.indexAddr 45 (Go.Operand.tmp 5) (Go.Operand.tmp 18), type := 0, pos := "line.go:105", after := #[{ on := 1, ground := Go.Ground.data }], guard := none }) (v := _) rfl (by kernel_rfl) (by kernel_rfl) (by kernel_rfl) (fun _ _ _ h => h) (Or.inl ⟨by rfl, ?hy31⟩) (by assumption) ?hr31
  case hy31 => (intro _ hSw; (try dsimp only at hSw); go_simp <;> with_reducible rfl)
  simp only [Act.put, List.setIfInBounds_toArray, List.set_cons_zero, List.set_cons_succ]
  refine' wpAnyH_take (i := 3) (oi := { dst := some 20, op := Go.Op.load 44 (Go.Operand.tmp 19), type := 44, pos := "line.go:105", after := #[{ on := 2, ground := Go.Ground.data }], guard := none }) (v := _) rfl (by kernel_rfl) (by kernel_rfl) (by kernel_rfl) (fun _ _ _ h => h) (Or.inl ⟨by rfl, ?hy32⟩) (by assumption) ?hr32
  case hy32 => (intro _ hSw; (try dsimp only at hSw); have c4 := cell_of (i := 4) hSw.2.1 rfl; go_simp <;> with_reducible rfl)
  simp only [Act.put, List.setIfInBounds_toArray, List.set_cons_zero, List.set_cons_succ]
  refine' wpAnyH_take (i := 4) (oi := { dst := some 21, op := Go.Op.move (Go.Operand.tmp 0), type := 43, pos := "line.go:105", after := #[], guard := none }) (v := _) rfl (by kernel_rfl) (by kernel_rfl) (by kernel_rfl) (fun _ _ _ h => h) (Or.inl ⟨by rfl, ?hy33⟩) (by assumption) ?hr33
  case hy33 => (intro _ hSw; (try dsimp only at hSw); go_simp <;> with_reducible rfl)
  simp only [Act.put, List.setIfInBounds_toArray, List.set_cons_zero, List.set_cons_succ]
  refine' wpAnyH_take (i := 5) (oi := { dst := some 22, op := Go.Op.load 33 (Go.Operand.tmp 3), type := 33, pos := "line.go:105", after := #[], guard := none }) (v := _) rfl (by kernel_rfl) (by kernel_rfl) (by kernel_rfl) (fun _ _ _ h => h) (Or.inl ⟨by rfl, ?hy34⟩) (by assumption) ?hr34
  case hy34 => (intro _ hSw; (try dsimp only at hSw); have c0 := cell_of (i := 0) hSw.1 rfl; have c1 := cell_of (i := 1) hSw.1 rfl; have c2 := cell_of (i := 2) hSw.1 rfl; have c3 := cell_of (i := 3) hSw.1 rfl; go_simp <;> with_reducible rfl)
  simp only [Act.put, List.setIfInBounds_toArray, List.set_cons_zero, List.set_cons_succ]
  have CD := Lib.hid (CF.out wx.drew (H.out.below (HB.out.drew)) (Nat.le_trans hb HB.out.size))
  clear CF
  refine wpAnyH_ready (rs := [6]) (by kernel_rfl) (by simp) ?_
  refine AllReadyH.cons (o := { dst := some 23, op := Go.Op.call { callee := Go.Callee.value (Go.Operand.tmp 20), args := #[Go.Operand.tmp 21, Go.Operand.tmp 22], argTypes := #[43, 33] }, type := 43, pos := "line.go:105", after := #[{ on := 3, ground := Go.Ground.data }, { on := 4, ground := Go.Ground.data }, { on := 5, ground := Go.Ground.data }], guard := none }) rfl (fun K hK => ?_) AllReadyH.nil
  go_simp
  (with_reducible refine CD.out.mono ?_)
  rintro e w3 ⟨v', rfl, hs3, hg3⟩
  have HS3 := Lib.hid hs3
  have HG3 : Hid (w.grownBy w3 v.ownBlock) := gr_then (gr_below (HB.out.drew)) hg3
  have HX3 : Hid (w3.heap[w.heap.size]? = some (.cells #[.int .u8 4, .int .i64 i, .int .u8 (b : Int), .int .i64 (m : Int)] 33)) := gr_stays hg3 FX.out (fun e => by have := (H.out.base w.heap.size e.symm).2; omega)
  have HA3 : Hid (w3.heap[w.heap.size + 1]? = some (.cells #[.func (.func 18) #[] #[], .func (.func 19) #[] #[], .func (.func 20) #[] #[], .func (.func 21) #[] #[], .func (.func 22) #[] #[]] 45)) := gr_stays hg3 FA.out (fun e => by have := (H.out.base (w.heap.size + 1) e.symm).2; omega)
  clear hs3 hg3 CD
  go_wp2_with fail
  refine hK.out _ _ ⟨HX3.out, HA3.out, HG3.out⟩ (fun hNext => ?_)
  clear hK K hHeld
  have hHeld := hNext
  clear hNext
  (try simp only [Act.put, List.setIfInBounds_toArray, List.set_cons_zero, List.set_cons_succ])
  refine' wpAnyH_take (i := 7) (oi := { dst := some 4, op := Go.Op.assign (Go.Operand.tmp 23), type := 43, pos := "line.go:105", after := #[{ on := 6, ground := Go.Ground.data }, { on := 6, ground := Go.Ground.chain }, { on := 0, ground := Go.Ground.phase }, { on := 1, ground := Go.Ground.phase }, { on := 2, ground := Go.Ground.phase }, { on := 3, ground := Go.Ground.phase }, { on := 4, ground := Go.Ground.phase }, { on := 5, ground := Go.Ground.phase }, { on := 6, ground := Go.Ground.phase }], guard := none }) (v := _) rfl (by kernel_rfl) (by kernel_rfl) (by kernel_rfl) (fun _ _ _ h => h) (Or.inl ⟨by rfl, ?hy35⟩) (by assumption) ?hr35
  case hy35 => (intro _ hSw; (try dsimp only at hSw); go_simp <;> with_reducible rfl)
  simp only [Act.put, List.setIfInBounds_toArray, List.set_cons_zero, List.set_cons_succ]
  refine wpAnyH_done (by kernel_rfl) ?_ _
  go_wp2
  go_ret
  exact ⟨v', rfl, HS3.out, HG3.out⟩
set_option maxHeartbeats 1000000 in
theorem fdam5 (k : Nat) (hk : 5 ≤ k) (hk8 : k < 256) (h : SlB w base v l) :
    Calls Try.prog 16 #[v, .agg #[.int .u8 (k : Int), .int .i64 i, .int .u8 (b : Int), .int .i64 n]] w (Ins w base v (dmg ⟨k, i, b, n⟩ l)) := by
  have H := Lib.hid h
  rw [dmg_else ⟨k, i, b, n⟩ l (by show k ≠ 1; omega) (by show k ≠ 2; omega) (by show k ≠ 3; omega) (by show k ≠ 4; omega)]
  have g1 : (5 : Int) ≤ (k : Int) := by omega
  have g2 : decide ((5 : Int) ≤ (k : Int)) = true := decide_eq_true g1
  have g3 : IntKind.i64.wrap (k : Int) = (k : Int) := by rw [IntKind.wrap_i64]; omega
  clear h
  go_enter Try.func16, Try.ntmps16
  go_wp2
  go_ret
  exact ⟨v, rfl, H.out.below (nest_below w [_, _]), gr_below (nest_below w [_, _])⟩
/-- Whatever the kind. -/
theorem fdamage (k : Nat) (hk8 : k < 256) (h : SlB w base v l) (hb : base ≤ w.heap.size) (hb8 : b < 256) (hl : l.length ≤ 100000) :
    Calls Try.prog 16 #[v, .agg #[.int .u8 (k : Int), .int .i64 i, .int .u8 (b : Int), .int .i64 n]] w (Ins w base v (dmg ⟨k, i, b, n⟩ l)) := by
  match k, hk8 with
  | 0, _ => exact fdam0 w base v l i b n h hb hb8 hl
  | 1, _ => exact fdam1 w base v l i b n h hb hb8 hl
  | 2, _ => exact fdam2 w base v l i b n h hb hb8 hl
  | 3, _ => exact fdam3 w base v l i b n h hb hb8 hl
  | 4, _ => exact fdam4 w base v l i b n h hb hb8 hl
  | k + 5, hk8 => exact fdam5 w base v l i b n (k + 5) (by omega) hk8 h
end
end Go.Proofs.Ytllojgmlngfibaa.Ln
