/-
  What the document's own Get of layer 10 answers. Condition: a string is no longer than a machine has room for.
-/
import Derived.Test.YtffahjlboakakaaDoorMsgsRead
import Derived.Test.YtffahjlboakakaaDoorTlvRef
import Derived.Test.YtffahjlboakakaaDoorPnRget
import Derived.Test.YtffahjlboakakaaDoorMscRget
namespace Go.Proofs.YtffahjlboakakaaDoor.Msgs
open Go.RowKit Go.Proofs.YtffahjlboakakaaDoor.Base Go.Proofs.YtffahjlboakakaaDoor.Mem
set_option maxRecDepth 20000
theorem zeroI : (Tryd.prog.info? 69).map (·.zero) = some (some (.agg #[.int .u8 0, .bool false, .string ⟨#[]⟩])) := by kernel_rfl
theorem isI : IsRow 69 3 := ⟨⟨_, Tryd.underlying69⟩, by kernel_rfl⟩
theorem rget_err (s v : ByteArray) (k n : Nat) (c : Bool) (E : Int) (hE : (E != 0) = true) (CG : ∀ w, Calls Tryd.prog 30 #[.string s] w fun e w' => e = .returned (.tuple #[.agg #[.int .u8 (k : Int), .bool c, .string v], .int .i64 (n : Int), .int .i64 E]) ∧ Below w.heap.size w w') (w : World) :
    Calls Tryd.prog 16 #[.string s] w fun e w' => e = .returned (.tuple #[mv zero, .int .i64 0, .int .i64 E]) ∧ Below w.heap.size w w' := by
  have CGh := Lib.hid CG
  clear CG
  go_enter Tryd.func16, Tryd.ntmps16
  go_wp2_with (first
    | ((with_reducible refine alm zeroR ?_); intro b1 w1 h1 F1; have HR := Lib.hid h1; have L1 := Lib.hid (Nat.le_of_eq F1.eq.symm); have HB := Lib.hid F1.below; clear h1 F1)
    | (go_at_call 30; ((with_reducible refine (CGh.out _).mono ?_); rintro e w2 ⟨rfl, hb⟩; replace HR := Lib.hid (stays HR.out hb); replace HB := Lib.hid (below_on HB.out hb); clear hb))
    | ((with_reducible refine alr zeroI ?_); intro b2 w3 h3 F3; have N12 := Lib.hid (F3.ne HR.out); replace HR := Lib.hid (F3.stays HR.out); have L2 := Lib.hid (F3.le HB.out); replace HB := Lib.hid (F3.on HB.out); have HI0 := Lib.hid h3; clear h3 F3)
    | ((with_reducible refine str #[.int .u8 (k : Int), .bool c, .string v] isI HI0.out ?h0 ?h1 ?hc ?hx ?hy ?_); (case h0 => rfl); (case h1 => rfl); (case hc => (simp [Value.oneCell'])); (case hx => rfl); (case hy => rfl); intro wx h4 M4; have HI := Lib.hid h4; replace HR := Lib.hid (M4.other N12.out HR.out); replace HB := Lib.hid (M4.below HB.out L2.out); clear h4 M4 HI0)
    | ((with_reducible refine bdm (T := 36) (parts := #[]) zero ?hb ?_); (case hb => kernel_rfl))
    | ((with_reducible refine stm (m := zero) isR HR.out ?hx ?hy ?_); (case hx => rfl); (case hy => rfl); intro w9 h9 M9; replace HR := Lib.hid h9; replace HB := Lib.hid (M9.below HB.out L1.out); clear h9 M9))
  exact bodyPost_ret (rget_results _ _ b1 _ _ _ _ HR.out rfl rfl rfl) rfl ⟨rfl, HB.out⟩
theorem item {w : World} {b : Nat} {k : Nat} {c : Bool} {v : ByteArray} {t : TypeId} (h : w.heap[b]? = some (.cells #[.int .u8 (k : Int), .bool c, .string v] t (0, 0))) : w.cell? ⟨b, 0, none⟩ = some (.int .u8 (k : Int)) ∧ w.cell? ⟨b, 1, none⟩ = some (.bool c) ∧ w.cell? ⟨b, 2, none⟩ = some (.string v) := ⟨cell_of h rfl, cell_of h rfl, cell_of h rfl⟩
set_option maxHeartbeats 800000 in
theorem rget_1_yes (s v : ByteArray) (k n : Nat) (c : Bool) (p : Pn.Pr) (E : Int) (hE : (E != 0) = false) (CP : ∀ w, Calls Tryd.prog 31 #[.string v] w fun e w' => e = .returned (.tuple #[Pn.pv p, .int .i64 E]) ∧ Below w.heap.size w w') (CG : ∀ w, Calls Tryd.prog 30 #[.string s] w fun e w' => e = .returned (.tuple #[.agg #[.int .u8 (k : Int), .bool c, .string v], .int .i64 (n : Int), .int .i64 0]) ∧ Below w.heap.size w w') (CK : ∀ w, Calls Tryd.prog 27 #[.int .u8 (k : Int)] w fun e w' => e = .returned (.int .u8 1) ∧ Below w.heap.size w w') (w : World) :
    Calls Tryd.prog 16 #[.string s] w fun e w' => e = .returned (.tuple #[mv ⟨1, c, p, Msc.zero, 0, no⟩, .int .i64 (n : Int), .int .i64 0]) ∧ Below w.heap.size w w' := by
  have CGh := Lib.hid CG
  have CKh := Lib.hid CK
  clear CG CK
  have CPh := Lib.hid CP
  clear CP
  go_enter Tryd.func16, Tryd.ntmps16
  go_wp2_with (first
    | ((with_reducible refine alm zeroR ?_); intro b1 w1 h1 F1; have HR := Lib.hid h1; have L1 := Lib.hid (Nat.le_of_eq F1.eq.symm); have HB := Lib.hid F1.below; clear h1 F1)
    | (go_at_call 30; ((with_reducible refine (CGh.out _).mono ?_); rintro e w2 ⟨rfl, hb⟩; replace HR := Lib.hid (stays HR.out hb); replace HB := Lib.hid (below_on HB.out hb); clear hb))
    | ((with_reducible refine alr zeroI ?_); intro b2 w3 h3 F3; have N12 := Lib.hid (F3.ne HR.out); replace HR := Lib.hid (F3.stays HR.out); have L2 := Lib.hid (F3.le HB.out); replace HB := Lib.hid (F3.on HB.out); have HI0 := Lib.hid h3; clear h3 F3)
    | ((with_reducible refine str #[.int .u8 (k : Int), .bool c, .string v] isI HI0.out ?h0 ?h1 ?hc ?hx ?hy ?_); (case h0 => rfl); (case h1 => rfl); (case hc => (simp [Value.oneCell'])); (case hx => rfl); (case hy => rfl); intro wx h4 M4; have HI := Lib.hid h4; replace HR := Lib.hid (M4.other N12.out HR.out); replace HB := Lib.hid (M4.below HB.out L2.out); clear h4 M4 HI0))
  refine wp_region_held_drew (S := fun w' => Below wx.heap.size wx w') (by kernel_rfl) (Below.refl _ _).drew (fun hHeld => ?_)
  refine' wpAnyH_take (i := 0) (oi := { dst := some 19, op := Go.Op.fieldAddr 69 (Go.Operand.tmp 5) 0, type := 0, pos := "ref.go:91", after := #[], guard := none }) (v := _) rfl (by kernel_rfl) (by kernel_rfl) (by kernel_rfl) (fun _ _ _ h => h) (Or.inl ⟨by rfl, ?hy1⟩) (by assumption) ?hr1
  case hy1 => (intro _ hSw; (try dsimp only at hSw); go_simp <;> with_reducible rfl)
  simp only [Act.put, List.setIfInBounds_toArray, List.set_cons_zero, List.set_cons_succ]
  refine' wpAnyH_take (i := 1) (oi := { dst := some 20, op := Go.Op.load 5 (Go.Operand.tmp 19), type := 5, pos := "ref.go:91", after := #[{ on := 0, ground := Go.Ground.data }], guard := none }) (v := _) rfl (by kernel_rfl) (by kernel_rfl) (by kernel_rfl) (fun _ _ _ h => h) (Or.inl ⟨by rfl, ?hy2⟩) (by assumption) ?hr2
  case hy2 => (intro _ hSw; (try dsimp only at hSw); obtain ⟨i0, i1, i2⟩ := item (stays HI.out hSw); go_simp <;> with_reducible rfl)
  simp only [Act.put, List.setIfInBounds_toArray, List.set_cons_zero, List.set_cons_succ]
  refine' wpAnyH_take (i := 3) (oi := { dst := some 22, op := Go.Op.fieldAddr 69 (Go.Operand.tmp 5) 1, type := 0, pos := "ref.go:91", after := #[], guard := none }) (v := _) rfl (by kernel_rfl) (by kernel_rfl) (by kernel_rfl) (fun _ _ _ h => h) (Or.inl ⟨by rfl, ?hy3⟩) (by assumption) ?hr3
  case hy3 => (intro _ hSw; (try dsimp only at hSw); go_simp <;> with_reducible rfl)
  simp only [Act.put, List.setIfInBounds_toArray, List.set_cons_zero, List.set_cons_succ]
  refine' wpAnyH_take (i := 4) (oi := { dst := some 23, op := Go.Op.load 4 (Go.Operand.tmp 22), type := 4, pos := "ref.go:91", after := #[{ on := 3, ground := Go.Ground.data }], guard := none }) (v := _) rfl (by kernel_rfl) (by kernel_rfl) (by kernel_rfl) (fun _ _ _ h => h) (Or.inl ⟨by rfl, ?hy4⟩) (by assumption) ?hr4
  case hy4 => (intro _ hSw; (try dsimp only at hSw); obtain ⟨i0, i1, i2⟩ := item (stays HI.out hSw); go_simp <;> with_reducible rfl)
  simp only [Act.put, List.setIfInBounds_toArray, List.set_cons_zero, List.set_cons_succ]
  refine wpAnyH_ready (rs := [2, 6]) (by kernel_rfl) (by simp) ?_
  refine AllReadyH.cons (o := { dst := some 21, op := Go.Op.call { callee := Go.Callee.value (Go.Operand.func 27), args := #[Go.Operand.tmp 20], argTypes := #[5] }, type := 5, pos := "ref.go:91", after := #[{ on := 1, ground := Go.Ground.data }], guard := none }) rfl (fun K hK => ?_) (AllReadyH.cons (o := { dst := some 8, op := Go.Op.alloc 36, type := 0, pos := "ref.go:91", after := #[], guard := none }) rfl (fun K hK => ?_) AllReadyH.nil)
  · go_simp
    (with_reducible refine (CKh.out _).mono ?_)
    rintro e wc ⟨rfl, hb⟩
    go_wp2_with fail
    refine hK.out _ _ (below_on hHeld hb) (fun hNext => ?_)
    clear hK K
    replace hHeld := hNext
    clear hNext
    (try simp only [Act.put, List.setIfInBounds_toArray, List.set_cons_zero, List.set_cons_succ])
    clear hb
    refine' wpAnyH_take (i := 5) (oi := { dst := some 24, op := Go.Op.build 36 #[(0, Go.Operand.tmp 21), (1, Go.Operand.tmp 23)], type := 36, pos := "ref.go:91", after := #[{ on := 2, ground := Go.Ground.data }, { on := 4, ground := Go.Ground.data }], guard := none }) (v := _) rfl (by kernel_rfl) (by kernel_rfl) (by kernel_rfl) (fun _ _ _ h => h) (Or.inl ⟨by rfl, ?hy5⟩) (by assumption) ?hr5
    case hy5 => (intro _ hSw; (try dsimp only at hSw); refine ex_bd ⟨1, c, Pn.zero, Msc.zero, 0, no⟩ ?_; kernel_rfl)
    simp only [Act.put, List.setIfInBounds_toArray, List.set_cons_zero, List.set_cons_succ]
    refine wpAnyH_ready (rs := [6]) (by kernel_rfl) (by simp) ?_
    refine AllReadyH.cons (o := { dst := some 8, op := Go.Op.alloc 36, type := 0, pos := "ref.go:91", after := #[], guard := none }) rfl (fun K hK => ?_) AllReadyH.nil
    rw [if_pos (by rfl)]
    refine wp_al zeroR ?_
    intro b3 u3 h3 F3
    have Lb3 := F3.le hHeld
    refine hK.out _ _ (F3.on hHeld) (fun hNext => ?_)
    clear hK K
    replace hHeld := hNext
    clear hNext
    (try simp only [Act.put, List.setIfInBounds_toArray, List.set_cons_zero, List.set_cons_succ])
    clear F3
    refine wpAnyH_ready (rs := [7]) (by kernel_rfl) (by simp) ?_
    refine AllReadyH.cons (o := { dst := none, op := Go.Op.store 36 (Go.Operand.tmp 8) (Go.Operand.tmp 24), type := 0, pos := "ref.go:91", after := #[{ on := 6, ground := Go.Ground.data }, { on := 5, ground := Go.Ground.data }, { on := 2, ground := Go.Ground.chain }, { on := 0, ground := Go.Ground.phase }, { on := 1, ground := Go.Ground.phase }, { on := 2, ground := Go.Ground.phase }, { on := 3, ground := Go.Ground.phase }, { on := 4, ground := Go.Ground.phase }, { on := 5, ground := Go.Ground.phase }, { on := 6, ground := Go.Ground.phase }], guard := none }) rfl (fun K hK => ?_) AllReadyH.nil
    rw [if_pos (by rfl)]
    refine wp_row (cs := mc ⟨1, c, Pn.zero, Msc.zero, 0, no⟩) isR h3 rfl rfl (one_all _) rfl rfl ?_
    intro u4 h4 M4
    refine hK.out _ _ (M4.below hHeld Lb3) (fun hNext => ?_)
    clear hK K
    replace hHeld := hNext
    clear hNext
    (try simp only [Act.put])
    clear M4 h3
    refine wpAnyH_done (by kernel_rfl) ?_ _
    have N13 : Hid (b1 ≠ b3) := Lib.hid (by have := lt_heap HR.out; omega)
    have N23 : Hid (b2 ≠ b3) := Lib.hid (by have := lt_heap HI.out; omega)
    have HN := Lib.hid h4
    have L3 : Hid (w.heap.size ≤ b3) := Lib.hid (by have := HB.out.size; omega)
    clear h4 Lb3
    replace HI := Lib.hid (stays HI.out hHeld)
    replace HR := Lib.hid (stays HR.out hHeld)
    replace HB := Lib.hid (below_on HB.out hHeld)
    clear hHeld
    obtain ⟨n0, n1, n18, n19⟩ := flds HN.out
    obtain ⟨i0, i1, i2⟩ := item HI.out
    go_wp2_with (first
      | (go_at_call 31; ((with_reducible refine (CPh.out _).mono ?_); rintro e w5 ⟨rfl, hb⟩; replace HI := Lib.hid (stays HI.out hb); replace HN := Lib.hid (stays HN.out hb); replace HR := Lib.hid (stays HR.out hb); replace HB := Lib.hid (below_on HB.out hb); clear hb n0 n1 n18 n19; obtain ⟨n0, n1, n18, n19⟩ := flds HN.out))
      | ((with_reducible refine stp (p := p) isPr HN.out ?hx ?hy ?_); (case hx => rfl); (case hy => rfl); intro w6 h6 M6; replace HI := Lib.hid (M6.other N23.out HI.out); replace HN := Lib.hid h6; replace HR := Lib.hid (M6.other N13.out HR.out); replace HB := Lib.hid (M6.below HB.out L3.out); clear n0 n1 n18 n19 i0 i1 i2 h6 M6; obtain ⟨i0, i1, i2⟩ := item HI.out)
      | ((with_reducible refine ldm isR HN.out ?hx ?_); (case hx => rfl))
      | ((with_reducible refine stm (m := ⟨1, c, p, Msc.zero, 0, no⟩) isR HR.out ?hx ?hy ?_); (case hx => rfl); (case hy => rfl); intro w9 h9 M9; replace HR := Lib.hid h9; replace HB := Lib.hid (M9.below HB.out L1.out); clear h9 M9))
    exact bodyPost_ret (rget_results _ _ b1 _ _ _ _ HR.out rfl rfl rfl) rfl ⟨rfl, HB.out⟩
  · rw [if_pos (by rfl)]
    refine wp_al zeroR ?_
    intro b3 u3 h3 F3
    have Lb3 := F3.le hHeld
    refine hK.out _ _ (F3.on hHeld) (fun hNext => ?_)
    clear hK K
    replace hHeld := hNext
    clear hNext
    (try simp only [Act.put, List.setIfInBounds_toArray, List.set_cons_zero, List.set_cons_succ])
    clear F3
    refine wpAnyH_ready (rs := [2]) (by kernel_rfl) (by simp) ?_
    refine AllReadyH.cons (o := { dst := some 21, op := Go.Op.call { callee := Go.Callee.value (Go.Operand.func 27), args := #[Go.Operand.tmp 20], argTypes := #[5] }, type := 5, pos := "ref.go:91", after := #[{ on := 1, ground := Go.Ground.data }], guard := none }) rfl (fun K hK => ?_) AllReadyH.nil
    go_simp
    (with_reducible refine (CKh.out _).mono ?_)
    rintro e wc ⟨rfl, hb⟩
    go_wp2_with fail
    replace h3 := stays h3 hb
    refine hK.out _ _ (below_on hHeld hb) (fun hNext => ?_)
    clear hK K
    replace hHeld := hNext
    clear hNext
    (try simp only [Act.put, List.setIfInBounds_toArray, List.set_cons_zero, List.set_cons_succ])
    clear hb
    refine' wpAnyH_take (i := 5) (oi := { dst := some 24, op := Go.Op.build 36 #[(0, Go.Operand.tmp 21), (1, Go.Operand.tmp 23)], type := 36, pos := "ref.go:91", after := #[{ on := 2, ground := Go.Ground.data }, { on := 4, ground := Go.Ground.data }], guard := none }) (v := _) rfl (by kernel_rfl) (by kernel_rfl) (by kernel_rfl) (fun _ _ _ h => h) (Or.inl ⟨by rfl, ?hy6⟩) (by assumption) ?hr6
    case hy6 => (intro _ hSw; (try dsimp only at hSw); refine ex_bd ⟨1, c, Pn.zero, Msc.zero, 0, no⟩ ?_; kernel_rfl)
    simp only [Act.put, List.setIfInBounds_toArray, List.set_cons_zero, List.set_cons_succ]
    refine wpAnyH_ready (rs := [7]) (by kernel_rfl) (by simp) ?_
    refine AllReadyH.cons (o := { dst := none, op := Go.Op.store 36 (Go.Operand.tmp 8) (Go.Operand.tmp 24), type := 0, pos := "ref.go:91", after := #[{ on := 6, ground := Go.Ground.data }, { on := 5, ground := Go.Ground.data }, { on := 2, ground := Go.Ground.chain }, { on := 0, ground := Go.Ground.phase }, { on := 1, ground := Go.Ground.phase }, { on := 2, ground := Go.Ground.phase }, { on := 3, ground := Go.Ground.phase }, { on := 4, ground := Go.Ground.phase }, { on := 5, ground := Go.Ground.phase }, { on := 6, ground := Go.Ground.phase }], guard := none }) rfl (fun K hK => ?_) AllReadyH.nil
    rw [if_pos (by rfl)]
    refine wp_row (cs := mc ⟨1, c, Pn.zero, Msc.zero, 0, no⟩) isR h3 rfl rfl (one_all _) rfl rfl ?_
    intro u4 h4 M4
    refine hK.out _ _ (M4.below hHeld Lb3) (fun hNext => ?_)
    clear hK K
    replace hHeld := hNext
    clear hNext
    (try simp only [Act.put])
    clear M4 h3
    refine wpAnyH_done (by kernel_rfl) ?_ _
    have N13 : Hid (b1 ≠ b3) := Lib.hid (by have := lt_heap HR.out; omega)
    have N23 : Hid (b2 ≠ b3) := Lib.hid (by have := lt_heap HI.out; omega)
    have HN := Lib.hid h4
    have L3 : Hid (w.heap.size ≤ b3) := Lib.hid (by have := HB.out.size; omega)
    clear h4 Lb3
    replace HI := Lib.hid (stays HI.out hHeld)
    replace HR := Lib.hid (stays HR.out hHeld)
    replace HB := Lib.hid (below_on HB.out hHeld)
    clear hHeld
    obtain ⟨n0, n1, n18, n19⟩ := flds HN.out
    obtain ⟨i0, i1, i2⟩ := item HI.out
    go_wp2_with (first
      | (go_at_call 31; ((with_reducible refine (CPh.out _).mono ?_); rintro e w5 ⟨rfl, hb⟩; replace HI := Lib.hid (stays HI.out hb); replace HN := Lib.hid (stays HN.out hb); replace HR := Lib.hid (stays HR.out hb); replace HB := Lib.hid (below_on HB.out hb); clear hb n0 n1 n18 n19; obtain ⟨n0, n1, n18, n19⟩ := flds HN.out))
      | ((with_reducible refine stp (p := p) isPr HN.out ?hx ?hy ?_); (case hx => rfl); (case hy => rfl); intro w6 h6 M6; replace HI := Lib.hid (M6.other N23.out HI.out); replace HN := Lib.hid h6; replace HR := Lib.hid (M6.other N13.out HR.out); replace HB := Lib.hid (M6.below HB.out L3.out); clear n0 n1 n18 n19 i0 i1 i2 h6 M6; obtain ⟨i0, i1, i2⟩ := item HI.out)
      | ((with_reducible refine ldm isR HN.out ?hx ?_); (case hx => rfl))
      | ((with_reducible refine stm (m := ⟨1, c, p, Msc.zero, 0, no⟩) isR HR.out ?hx ?hy ?_); (case hx => rfl); (case hy => rfl); intro w9 h9 M9; replace HR := Lib.hid h9; replace HB := Lib.hid (M9.below HB.out L1.out); clear h9 M9))
    exact bodyPost_ret (rget_results _ _ b1 _ _ _ _ HR.out rfl rfl rfl) rfl ⟨rfl, HB.out⟩
set_option maxHeartbeats 800000 in
theorem rget_1_no (s v : ByteArray) (k n : Nat) (c : Bool) (p : Pn.Pr) (E : Int) (hE : (E != 0) = true) (CP : ∀ w, Calls Tryd.prog 31 #[.string v] w fun e w' => e = .returned (.tuple #[Pn.pv p, .int .i64 E]) ∧ Below w.heap.size w w') (CG : ∀ w, Calls Tryd.prog 30 #[.string s] w fun e w' => e = .returned (.tuple #[.agg #[.int .u8 (k : Int), .bool c, .string v], .int .i64 (n : Int), .int .i64 0]) ∧ Below w.heap.size w w') (CK : ∀ w, Calls Tryd.prog 27 #[.int .u8 (k : Int)] w fun e w' => e = .returned (.int .u8 1) ∧ Below w.heap.size w w') (w : World) :
    Calls Tryd.prog 16 #[.string s] w fun e w' => e = .returned (.tuple #[mv zero, .int .i64 0, .int .i64 70]) ∧ Below w.heap.size w w' := by
  have CGh := Lib.hid CG
  have CKh := Lib.hid CK
  clear CG CK
  have CPh := Lib.hid CP
  clear CP
  go_enter Tryd.func16, Tryd.ntmps16
  go_wp2_with (first
    | ((with_reducible refine alm zeroR ?_); intro b1 w1 h1 F1; have HR := Lib.hid h1; have L1 := Lib.hid (Nat.le_of_eq F1.eq.symm); have HB := Lib.hid F1.below; clear h1 F1)
    | (go_at_call 30; ((with_reducible refine (CGh.out _).mono ?_); rintro e w2 ⟨rfl, hb⟩; replace HR := Lib.hid (stays HR.out hb); replace HB := Lib.hid (below_on HB.out hb); clear hb))
    | ((with_reducible refine alr zeroI ?_); intro b2 w3 h3 F3; have N12 := Lib.hid (F3.ne HR.out); replace HR := Lib.hid (F3.stays HR.out); have L2 := Lib.hid (F3.le HB.out); replace HB := Lib.hid (F3.on HB.out); have HI0 := Lib.hid h3; clear h3 F3)
    | ((with_reducible refine str #[.int .u8 (k : Int), .bool c, .string v] isI HI0.out ?h0 ?h1 ?hc ?hx ?hy ?_); (case h0 => rfl); (case h1 => rfl); (case hc => (simp [Value.oneCell'])); (case hx => rfl); (case hy => rfl); intro wx h4 M4; have HI := Lib.hid h4; replace HR := Lib.hid (M4.other N12.out HR.out); replace HB := Lib.hid (M4.below HB.out L2.out); clear h4 M4 HI0))
  refine wp_region_held_drew (S := fun w' => Below wx.heap.size wx w') (by kernel_rfl) (Below.refl _ _).drew (fun hHeld => ?_)
  refine' wpAnyH_take (i := 0) (oi := { dst := some 19, op := Go.Op.fieldAddr 69 (Go.Operand.tmp 5) 0, type := 0, pos := "ref.go:91", after := #[], guard := none }) (v := _) rfl (by kernel_rfl) (by kernel_rfl) (by kernel_rfl) (fun _ _ _ h => h) (Or.inl ⟨by rfl, ?hy7⟩) (by assumption) ?hr7
  case hy7 => (intro _ hSw; (try dsimp only at hSw); go_simp <;> with_reducible rfl)
  simp only [Act.put, List.setIfInBounds_toArray, List.set_cons_zero, List.set_cons_succ]
  refine' wpAnyH_take (i := 1) (oi := { dst := some 20, op := Go.Op.load 5 (Go.Operand.tmp 19), type := 5, pos := "ref.go:91", after := #[{ on := 0, ground := Go.Ground.data }], guard := none }) (v := _) rfl (by kernel_rfl) (by kernel_rfl) (by kernel_rfl) (fun _ _ _ h => h) (Or.inl ⟨by rfl, ?hy8⟩) (by assumption) ?hr8
  case hy8 => (intro _ hSw; (try dsimp only at hSw); obtain ⟨i0, i1, i2⟩ := item (stays HI.out hSw); go_simp <;> with_reducible rfl)
  simp only [Act.put, List.setIfInBounds_toArray, List.set_cons_zero, List.set_cons_succ]
  refine' wpAnyH_take (i := 3) (oi := { dst := some 22, op := Go.Op.fieldAddr 69 (Go.Operand.tmp 5) 1, type := 0, pos := "ref.go:91", after := #[], guard := none }) (v := _) rfl (by kernel_rfl) (by kernel_rfl) (by kernel_rfl) (fun _ _ _ h => h) (Or.inl ⟨by rfl, ?hy9⟩) (by assumption) ?hr9
  case hy9 => (intro _ hSw; (try dsimp only at hSw); go_simp <;> with_reducible rfl)
  simp only [Act.put, List.setIfInBounds_toArray, List.set_cons_zero, List.set_cons_succ]
  refine' wpAnyH_take (i := 4) (oi := { dst := some 23, op := Go.Op.load 4 (Go.Operand.tmp 22), type := 4, pos := "ref.go:91", after := #[{ on := 3, ground := Go.Ground.data }], guard := none }) (v := _) rfl (by kernel_rfl) (by kernel_rfl) (by kernel_rfl) (fun _ _ _ h => h) (Or.inl ⟨by rfl, ?hy10⟩) (by assumption) ?hr10
  case hy10 => (intro _ hSw; (try dsimp only at hSw); obtain ⟨i0, i1, i2⟩ := item (stays HI.out hSw); go_simp <;> with_reducible rfl)
  simp only [Act.put, List.setIfInBounds_toArray, List.set_cons_zero, List.set_cons_succ]
  refine wpAnyH_ready (rs := [2, 6]) (by kernel_rfl) (by simp) ?_
  refine AllReadyH.cons (o := { dst := some 21, op := Go.Op.call { callee := Go.Callee.value (Go.Operand.func 27), args := #[Go.Operand.tmp 20], argTypes := #[5] }, type := 5, pos := "ref.go:91", after := #[{ on := 1, ground := Go.Ground.data }], guard := none }) rfl (fun K hK => ?_) (AllReadyH.cons (o := { dst := some 8, op := Go.Op.alloc 36, type := 0, pos := "ref.go:91", after := #[], guard := none }) rfl (fun K hK => ?_) AllReadyH.nil)
  · go_simp
    (with_reducible refine (CKh.out _).mono ?_)
    rintro e wc ⟨rfl, hb⟩
    go_wp2_with fail
    refine hK.out _ _ (below_on hHeld hb) (fun hNext => ?_)
    clear hK K
    replace hHeld := hNext
    clear hNext
    (try simp only [Act.put, List.setIfInBounds_toArray, List.set_cons_zero, List.set_cons_succ])
    clear hb
    refine' wpAnyH_take (i := 5) (oi := { dst := some 24, op := Go.Op.build 36 #[(0, Go.Operand.tmp 21), (1, Go.Operand.tmp 23)], type := 36, pos := "ref.go:91", after := #[{ on := 2, ground := Go.Ground.data }, { on := 4, ground := Go.Ground.data }], guard := none }) (v := _) rfl (by kernel_rfl) (by kernel_rfl) (by kernel_rfl) (fun _ _ _ h => h) (Or.inl ⟨by rfl, ?hy11⟩) (by assumption) ?hr11
    case hy11 => (intro _ hSw; (try dsimp only at hSw); refine ex_bd ⟨1, c, Pn.zero, Msc.zero, 0, no⟩ ?_; kernel_rfl)
    simp only [Act.put, List.setIfInBounds_toArray, List.set_cons_zero, List.set_cons_succ]
    refine wpAnyH_ready (rs := [6]) (by kernel_rfl) (by simp) ?_
    refine AllReadyH.cons (o := { dst := some 8, op := Go.Op.alloc 36, type := 0, pos := "ref.go:91", after := #[], guard := none }) rfl (fun K hK => ?_) AllReadyH.nil
    rw [if_pos (by rfl)]
    refine wp_al zeroR ?_
    intro b3 u3 h3 F3
    have Lb3 := F3.le hHeld
    refine hK.out _ _ (F3.on hHeld) (fun hNext => ?_)
    clear hK K
    replace hHeld := hNext
    clear hNext
    (try simp only [Act.put, List.setIfInBounds_toArray, List.set_cons_zero, List.set_cons_succ])
    clear F3
    refine wpAnyH_ready (rs := [7]) (by kernel_rfl) (by simp) ?_
    refine AllReadyH.cons (o := { dst := none, op := Go.Op.store 36 (Go.Operand.tmp 8) (Go.Operand.tmp 24), type := 0, pos := "ref.go:91", after := #[{ on := 6, ground := Go.Ground.data }, { on := 5, ground := Go.Ground.data }, { on := 2, ground := Go.Ground.chain }, { on := 0, ground := Go.Ground.phase }, { on := 1, ground := Go.Ground.phase }, { on := 2, ground := Go.Ground.phase }, { on := 3, ground := Go.Ground.phase }, { on := 4, ground := Go.Ground.phase }, { on := 5, ground := Go.Ground.phase }, { on := 6, ground := Go.Ground.phase }], guard := none }) rfl (fun K hK => ?_) AllReadyH.nil
    rw [if_pos (by rfl)]
    refine wp_row (cs := mc ⟨1, c, Pn.zero, Msc.zero, 0, no⟩) isR h3 rfl rfl (one_all _) rfl rfl ?_
    intro u4 h4 M4
    refine hK.out _ _ (M4.below hHeld Lb3) (fun hNext => ?_)
    clear hK K
    replace hHeld := hNext
    clear hNext
    (try simp only [Act.put])
    clear M4 h3
    refine wpAnyH_done (by kernel_rfl) ?_ _
    have N13 : Hid (b1 ≠ b3) := Lib.hid (by have := lt_heap HR.out; omega)
    have N23 : Hid (b2 ≠ b3) := Lib.hid (by have := lt_heap HI.out; omega)
    have HN := Lib.hid h4
    have L3 : Hid (w.heap.size ≤ b3) := Lib.hid (by have := HB.out.size; omega)
    clear h4 Lb3
    replace HI := Lib.hid (stays HI.out hHeld)
    replace HR := Lib.hid (stays HR.out hHeld)
    replace HB := Lib.hid (below_on HB.out hHeld)
    clear hHeld
    obtain ⟨n0, n1, n18, n19⟩ := flds HN.out
    obtain ⟨i0, i1, i2⟩ := item HI.out
    go_wp2_with (first
      | (go_at_call 31; ((with_reducible refine (CPh.out _).mono ?_); rintro e w5 ⟨rfl, hb⟩; replace HI := Lib.hid (stays HI.out hb); replace HN := Lib.hid (stays HN.out hb); replace HR := Lib.hid (stays HR.out hb); replace HB := Lib.hid (below_on HB.out hb); clear hb n0 n1 n18 n19; obtain ⟨n0, n1, n18, n19⟩ := flds HN.out))
      | ((with_reducible refine stp (p := p) isPr HN.out ?hx ?hy ?_); (case hx => rfl); (case hy => rfl); intro w6 h6 M6; replace HI := Lib.hid (M6.other N23.out HI.out); replace HN := Lib.hid h6; replace HR := Lib.hid (M6.other N13.out HR.out); replace HB := Lib.hid (M6.below HB.out L3.out); clear n0 n1 n18 n19 i0 i1 i2 h6 M6; obtain ⟨i0, i1, i2⟩ := item HI.out)
      | ((with_reducible refine bdm (T := 36) (parts := #[]) zero ?hb ?_); (case hb => kernel_rfl))
      | ((with_reducible refine stm (m := zero) isR HR.out ?hx ?hy ?_); (case hx => rfl); (case hy => rfl); intro w9 h9 M9; replace HR := Lib.hid h9; replace HB := Lib.hid (M9.below HB.out L1.out); clear h9 M9))
    exact bodyPost_ret (rget_results _ _ b1 _ _ _ _ HR.out rfl rfl rfl) rfl ⟨rfl, HB.out⟩
  · rw [if_pos (by rfl)]
    refine wp_al zeroR ?_
    intro b3 u3 h3 F3
    have Lb3 := F3.le hHeld
    refine hK.out _ _ (F3.on hHeld) (fun hNext => ?_)
    clear hK K
    replace hHeld := hNext
    clear hNext
    (try simp only [Act.put, List.setIfInBounds_toArray, List.set_cons_zero, List.set_cons_succ])
    clear F3
    refine wpAnyH_ready (rs := [2]) (by kernel_rfl) (by simp) ?_
    refine AllReadyH.cons (o := { dst := some 21, op := Go.Op.call { callee := Go.Callee.value (Go.Operand.func 27), args := #[Go.Operand.tmp 20], argTypes := #[5] }, type := 5, pos := "ref.go:91", after := #[{ on := 1, ground := Go.Ground.data }], guard := none }) rfl (fun K hK => ?_) AllReadyH.nil
    go_simp
    (with_reducible refine (CKh.out _).mono ?_)
    rintro e wc ⟨rfl, hb⟩
    go_wp2_with fail
    replace h3 := stays h3 hb
    refine hK.out _ _ (below_on hHeld hb) (fun hNext => ?_)
    clear hK K
    replace hHeld := hNext
    clear hNext
    (try simp only [Act.put, List.setIfInBounds_toArray, List.set_cons_zero, List.set_cons_succ])
    clear hb
    refine' wpAnyH_take (i := 5) (oi := { dst := some 24, op := Go.Op.build 36 #[(0, Go.Operand.tmp 21), (1, Go.Operand.tmp 23)], type := 36, pos := "ref.go:91", after := #[{ on := 2, ground := Go.Ground.data }, { on := 4, ground := Go.Ground.data }], guard := none }) (v := _) rfl (by kernel_rfl) (by kernel_rfl) (by kernel_rfl) (fun _ _ _ h => h) (Or.inl ⟨by rfl, ?hy12⟩) (by assumption) ?hr12
    case hy12 => (intro _ hSw; (try dsimp only at hSw); refine ex_bd ⟨1, c, Pn.zero, Msc.zero, 0, no⟩ ?_; kernel_rfl)
    simp only [Act.put, List.setIfInBounds_toArray, List.set_cons_zero, List.set_cons_succ]
    refine wpAnyH_ready (rs := [7]) (by kernel_rfl) (by simp) ?_
    refine AllReadyH.cons (o := { dst := none, op := Go.Op.store 36 (Go.Operand.tmp 8) (Go.Operand.tmp 24), type := 0, pos := "ref.go:91", after := #[{ on := 6, ground := Go.Ground.data }, { on := 5, ground := Go.Ground.data }, { on := 2, ground := Go.Ground.chain }, { on := 0, ground := Go.Ground.phase }, { on := 1, ground := Go.Ground.phase }, { on := 2, ground := Go.Ground.phase }, { on := 3, ground := Go.Ground.phase }, { on := 4, ground := Go.Ground.phase }, { on := 5, ground := Go.Ground.phase }, { on := 6, ground := Go.Ground.phase }], guard := none }) rfl (fun K hK => ?_) AllReadyH.nil
    rw [if_pos (by rfl)]
    refine wp_row (cs := mc ⟨1, c, Pn.zero, Msc.zero, 0, no⟩) isR h3 rfl rfl (one_all _) rfl rfl ?_
    intro u4 h4 M4
    refine hK.out _ _ (M4.below hHeld Lb3) (fun hNext => ?_)
    clear hK K
    replace hHeld := hNext
    clear hNext
    (try simp only [Act.put])
    clear M4 h3
    refine wpAnyH_done (by kernel_rfl) ?_ _
    have N13 : Hid (b1 ≠ b3) := Lib.hid (by have := lt_heap HR.out; omega)
    have N23 : Hid (b2 ≠ b3) := Lib.hid (by have := lt_heap HI.out; omega)
    have HN := Lib.hid h4
    have L3 : Hid (w.heap.size ≤ b3) := Lib.hid (by have := HB.out.size; omega)
    clear h4 Lb3
    replace HI := Lib.hid (stays HI.out hHeld)
    replace HR := Lib.hid (stays HR.out hHeld)
    replace HB := Lib.hid (below_on HB.out hHeld)
    clear hHeld
    obtain ⟨n0, n1, n18, n19⟩ := flds HN.out
    obtain ⟨i0, i1, i2⟩ := item HI.out
    go_wp2_with (first
      | (go_at_call 31; ((with_reducible refine (CPh.out _).mono ?_); rintro e w5 ⟨rfl, hb⟩; replace HI := Lib.hid (stays HI.out hb); replace HN := Lib.hid (stays HN.out hb); replace HR := Lib.hid (stays HR.out hb); replace HB := Lib.hid (below_on HB.out hb); clear hb n0 n1 n18 n19; obtain ⟨n0, n1, n18, n19⟩ := flds HN.out))
      | ((with_reducible refine stp (p := p) isPr HN.out ?hx ?hy ?_); (case hx => rfl); (case hy => rfl); intro w6 h6 M6; replace HI := Lib.hid (M6.other N23.out HI.out); replace HN := Lib.hid h6; replace HR := Lib.hid (M6.other N13.out HR.out); replace HB := Lib.hid (M6.below HB.out L3.out); clear n0 n1 n18 n19 i0 i1 i2 h6 M6; obtain ⟨i0, i1, i2⟩ := item HI.out)
      | ((with_reducible refine bdm (T := 36) (parts := #[]) zero ?hb ?_); (case hb => kernel_rfl))
      | ((with_reducible refine stm (m := zero) isR HR.out ?hx ?hy ?_); (case hx => rfl); (case hy => rfl); intro w9 h9 M9; replace HR := Lib.hid h9; replace HB := Lib.hid (M9.below HB.out L1.out); clear h9 M9))
    exact bodyPost_ret (rget_results _ _ b1 _ _ _ _ HR.out rfl rfl rfl) rfl ⟨rfl, HB.out⟩
set_option maxHeartbeats 800000 in
theorem rget_2_yes (s v : ByteArray) (k n : Nat) (c : Bool) (p : Msc.St) (E : Int) (hE : (E != 0) = false) (CP : ∀ w, Calls Tryd.prog 32 #[.string v] w fun e w' => e = .returned (.tuple #[Msc.sv p, .int .i64 E]) ∧ Below w.heap.size w w') (CG : ∀ w, Calls Tryd.prog 30 #[.string s] w fun e w' => e = .returned (.tuple #[.agg #[.int .u8 (k : Int), .bool c, .string v], .int .i64 (n : Int), .int .i64 0]) ∧ Below w.heap.size w w') (CK : ∀ w, Calls Tryd.prog 27 #[.int .u8 (k : Int)] w fun e w' => e = .returned (.int .u8 2) ∧ Below w.heap.size w w') (w : World) :
    Calls Tryd.prog 16 #[.string s] w fun e w' => e = .returned (.tuple #[mv ⟨2, c, Pn.zero, p, 0, no⟩, .int .i64 (n : Int), .int .i64 0]) ∧ Below w.heap.size w w' := by
  have CGh := Lib.hid CG
  have CKh := Lib.hid CK
  clear CG CK
  have CPh := Lib.hid CP
  clear CP
  go_enter Tryd.func16, Tryd.ntmps16
  go_wp2_with (first
    | ((with_reducible refine alm zeroR ?_); intro b1 w1 h1 F1; have HR := Lib.hid h1; have L1 := Lib.hid (Nat.le_of_eq F1.eq.symm); have HB := Lib.hid F1.below; clear h1 F1)
    | (go_at_call 30; ((with_reducible refine (CGh.out _).mono ?_); rintro e w2 ⟨rfl, hb⟩; replace HR := Lib.hid (stays HR.out hb); replace HB := Lib.hid (below_on HB.out hb); clear hb))
    | ((with_reducible refine alr zeroI ?_); intro b2 w3 h3 F3; have N12 := Lib.hid (F3.ne HR.out); replace HR := Lib.hid (F3.stays HR.out); have L2 := Lib.hid (F3.le HB.out); replace HB := Lib.hid (F3.on HB.out); have HI0 := Lib.hid h3; clear h3 F3)
    | ((with_reducible refine str #[.int .u8 (k : Int), .bool c, .string v] isI HI0.out ?h0 ?h1 ?hc ?hx ?hy ?_); (case h0 => rfl); (case h1 => rfl); (case hc => (simp [Value.oneCell'])); (case hx => rfl); (case hy => rfl); intro wx h4 M4; have HI := Lib.hid h4; replace HR := Lib.hid (M4.other N12.out HR.out); replace HB := Lib.hid (M4.below HB.out L2.out); clear h4 M4 HI0))
  refine wp_region_held_drew (S := fun w' => Below wx.heap.size wx w') (by kernel_rfl) (Below.refl _ _).drew (fun hHeld => ?_)
  refine' wpAnyH_take (i := 0) (oi := { dst := some 19, op := Go.Op.fieldAddr 69 (Go.Operand.tmp 5) 0, type := 0, pos := "ref.go:91", after := #[], guard := none }) (v := _) rfl (by kernel_rfl) (by kernel_rfl) (by kernel_rfl) (fun _ _ _ h => h) (Or.inl ⟨by rfl, ?hy13⟩) (by assumption) ?hr13
  case hy13 => (intro _ hSw; (try dsimp only at hSw); go_simp <;> with_reducible rfl)
  simp only [Act.put, List.setIfInBounds_toArray, List.set_cons_zero, List.set_cons_succ]
  refine' wpAnyH_take (i := 1) (oi := { dst := some 20, op := Go.Op.load 5 (Go.Operand.tmp 19), type := 5, pos := "ref.go:91", after := #[{ on := 0, ground := Go.Ground.data }], guard := none }) (v := _) rfl (by kernel_rfl) (by kernel_rfl) (by kernel_rfl) (fun _ _ _ h => h) (Or.inl ⟨by rfl, ?hy14⟩) (by assumption) ?hr14
  case hy14 => (intro _ hSw; (try dsimp only at hSw); obtain ⟨i0, i1, i2⟩ := item (stays HI.out hSw); go_simp <;> with_reducible rfl)
  simp only [Act.put, List.setIfInBounds_toArray, List.set_cons_zero, List.set_cons_succ]
  refine' wpAnyH_take (i := 3) (oi := { dst := some 22, op := Go.Op.fieldAddr 69 (Go.Operand.tmp 5) 1, type := 0, pos := "ref.go:91", after := #[], guard := none }) (v := _) rfl (by kernel_rfl) (by kernel_rfl) (by kernel_rfl) (fun _ _ _ h => h) (Or.inl ⟨by rfl, ?hy15⟩) (by assumption) ?hr15
  case hy15 => (intro _ hSw; (try dsimp only at hSw); go_simp <;> with_reducible rfl)
  simp only [Act.put, List.setIfInBounds_toArray, List.set_cons_zero, List.set_cons_succ]
  refine' wpAnyH_take (i := 4) (oi := { dst := some 23, op := Go.Op.load 4 (Go.Operand.tmp 22), type := 4, pos := "ref.go:91", after := #[{ on := 3, ground := Go.Ground.data }], guard := none }) (v := _) rfl (by kernel_rfl) (by kernel_rfl) (by kernel_rfl) (fun _ _ _ h => h) (Or.inl ⟨by rfl, ?hy16⟩) (by assumption) ?hr16
  case hy16 => (intro _ hSw; (try dsimp only at hSw); obtain ⟨i0, i1, i2⟩ := item (stays HI.out hSw); go_simp <;> with_reducible rfl)
  simp only [Act.put, List.setIfInBounds_toArray, List.set_cons_zero, List.set_cons_succ]
  refine wpAnyH_ready (rs := [2, 6]) (by kernel_rfl) (by simp) ?_
  refine AllReadyH.cons (o := { dst := some 21, op := Go.Op.call { callee := Go.Callee.value (Go.Operand.func 27), args := #[Go.Operand.tmp 20], argTypes := #[5] }, type := 5, pos := "ref.go:91", after := #[{ on := 1, ground := Go.Ground.data }], guard := none }) rfl (fun K hK => ?_) (AllReadyH.cons (o := { dst := some 8, op := Go.Op.alloc 36, type := 0, pos := "ref.go:91", after := #[], guard := none }) rfl (fun K hK => ?_) AllReadyH.nil)
  · go_simp
    (with_reducible refine (CKh.out _).mono ?_)
    rintro e wc ⟨rfl, hb⟩
    go_wp2_with fail
    refine hK.out _ _ (below_on hHeld hb) (fun hNext => ?_)
    clear hK K
    replace hHeld := hNext
    clear hNext
    (try simp only [Act.put, List.setIfInBounds_toArray, List.set_cons_zero, List.set_cons_succ])
    clear hb
    refine' wpAnyH_take (i := 5) (oi := { dst := some 24, op := Go.Op.build 36 #[(0, Go.Operand.tmp 21), (1, Go.Operand.tmp 23)], type := 36, pos := "ref.go:91", after := #[{ on := 2, ground := Go.Ground.data }, { on := 4, ground := Go.Ground.data }], guard := none }) (v := _) rfl (by kernel_rfl) (by kernel_rfl) (by kernel_rfl) (fun _ _ _ h => h) (Or.inl ⟨by rfl, ?hy17⟩) (by assumption) ?hr17
    case hy17 => (intro _ hSw; (try dsimp only at hSw); refine ex_bd ⟨2, c, Pn.zero, Msc.zero, 0, no⟩ ?_; kernel_rfl)
    simp only [Act.put, List.setIfInBounds_toArray, List.set_cons_zero, List.set_cons_succ]
    refine wpAnyH_ready (rs := [6]) (by kernel_rfl) (by simp) ?_
    refine AllReadyH.cons (o := { dst := some 8, op := Go.Op.alloc 36, type := 0, pos := "ref.go:91", after := #[], guard := none }) rfl (fun K hK => ?_) AllReadyH.nil
    rw [if_pos (by rfl)]
    refine wp_al zeroR ?_
    intro b3 u3 h3 F3
    have Lb3 := F3.le hHeld
    refine hK.out _ _ (F3.on hHeld) (fun hNext => ?_)
    clear hK K
    replace hHeld := hNext
    clear hNext
    (try simp only [Act.put, List.setIfInBounds_toArray, List.set_cons_zero, List.set_cons_succ])
    clear F3
    refine wpAnyH_ready (rs := [7]) (by kernel_rfl) (by simp) ?_
    refine AllReadyH.cons (o := { dst := none, op := Go.Op.store 36 (Go.Operand.tmp 8) (Go.Operand.tmp 24), type := 0, pos := "ref.go:91", after := #[{ on := 6, ground := Go.Ground.data }, { on := 5, ground := Go.Ground.data }, { on := 2, ground := Go.Ground.chain }, { on := 0, ground := Go.Ground.phase }, { on := 1, ground := Go.Ground.phase }, { on := 2, ground := Go.Ground.phase }, { on := 3, ground := Go.Ground.phase }, { on := 4, ground := Go.Ground.phase }, { on := 5, ground := Go.Ground.phase }, { on := 6, ground := Go.Ground.phase }], guard := none }) rfl (fun K hK => ?_) AllReadyH.nil
    rw [if_pos (by rfl)]
    refine wp_row (cs := mc ⟨2, c, Pn.zero, Msc.zero, 0, no⟩) isR h3 rfl rfl (one_all _) rfl rfl ?_
    intro u4 h4 M4
    refine hK.out _ _ (M4.below hHeld Lb3) (fun hNext => ?_)
    clear hK K
    replace hHeld := hNext
    clear hNext
    (try simp only [Act.put])
    clear M4 h3
    refine wpAnyH_done (by kernel_rfl) ?_ _
    have N13 : Hid (b1 ≠ b3) := Lib.hid (by have := lt_heap HR.out; omega)
    have N23 : Hid (b2 ≠ b3) := Lib.hid (by have := lt_heap HI.out; omega)
    have HN := Lib.hid h4
    have L3 : Hid (w.heap.size ≤ b3) := Lib.hid (by have := HB.out.size; omega)
    clear h4 Lb3
    replace HI := Lib.hid (stays HI.out hHeld)
    replace HR := Lib.hid (stays HR.out hHeld)
    replace HB := Lib.hid (below_on HB.out hHeld)
    clear hHeld
    obtain ⟨n0, n1, n18, n19⟩ := flds HN.out
    obtain ⟨i0, i1, i2⟩ := item HI.out
    go_wp2_with (first
      | (go_at_call 32; ((with_reducible refine (CPh.out _).mono ?_); rintro e w5 ⟨rfl, hb⟩; replace HI := Lib.hid (stays HI.out hb); replace HN := Lib.hid (stays HN.out hb); replace HR := Lib.hid (stays HR.out hb); replace HB := Lib.hid (below_on HB.out hb); clear hb n0 n1 n18 n19; obtain ⟨n0, n1, n18, n19⟩ := flds HN.out))
      | ((with_reducible refine sts (s := p) isSr HN.out ?hx ?hy ?_); (case hx => rfl); (case hy => rfl); intro w6 h6 M6; replace HI := Lib.hid (M6.other N23.out HI.out); replace HN := Lib.hid h6; replace HR := Lib.hid (M6.other N13.out HR.out); replace HB := Lib.hid (M6.below HB.out L3.out); clear n0 n1 n18 n19 i0 i1 i2 h6 M6; obtain ⟨i0, i1, i2⟩ := item HI.out)
      | ((with_reducible refine ldm isR HN.out ?hx ?_); (case hx => rfl))
      | ((with_reducible refine stm (m := ⟨2, c, Pn.zero, p, 0, no⟩) isR HR.out ?hx ?hy ?_); (case hx => rfl); (case hy => rfl); intro w9 h9 M9; replace HR := Lib.hid h9; replace HB := Lib.hid (M9.below HB.out L1.out); clear h9 M9))
    exact bodyPost_ret (rget_results _ _ b1 _ _ _ _ HR.out rfl rfl rfl) rfl ⟨rfl, HB.out⟩
  · rw [if_pos (by rfl)]
    refine wp_al zeroR ?_
    intro b3 u3 h3 F3
    have Lb3 := F3.le hHeld
    refine hK.out _ _ (F3.on hHeld) (fun hNext => ?_)
    clear hK K
    replace hHeld := hNext
    clear hNext
    (try simp only [Act.put, List.setIfInBounds_toArray, List.set_cons_zero, List.set_cons_succ])
    clear F3
    refine wpAnyH_ready (rs := [2]) (by kernel_rfl) (by simp) ?_
    refine AllReadyH.cons (o := { dst := some 21, op := Go.Op.call { callee := Go.Callee.value (Go.Operand.func 27), args := #[Go.Operand.tmp 20], argTypes := #[5] }, type := 5, pos := "ref.go:91", after := #[{ on := 1, ground := Go.Ground.data }], guard := none }) rfl (fun K hK => ?_) AllReadyH.nil
    go_simp
    (with_reducible refine (CKh.out _).mono ?_)
    rintro e wc ⟨rfl, hb⟩
    go_wp2_with fail
    replace h3 := stays h3 hb
    refine hK.out _ _ (below_on hHeld hb) (fun hNext => ?_)
    clear hK K
    replace hHeld := hNext
    clear hNext
    (try simp only [Act.put, List.setIfInBounds_toArray, List.set_cons_zero, List.set_cons_succ])
    clear hb
    refine' wpAnyH_take (i := 5) (oi := { dst := some 24, op := Go.Op.build 36 #[(0, Go.Operand.tmp 21), (1, Go.Operand.tmp 23)], type := 36, pos := "ref.go:91", after := #[{ on := 2, ground := Go.Ground.data }, { on := 4, ground := Go.Ground.data }], guard := none }) (v := _) rfl (by kernel_rfl) (by kernel_rfl) (by kernel_rfl) (fun _ _ _ h => h) (Or.inl ⟨by rfl, ?hy18⟩) (by assumption) ?hr18
    case hy18 => (intro _ hSw; (try dsimp only at hSw); refine ex_bd ⟨2, c, Pn.zero, Msc.zero, 0, no⟩ ?_; kernel_rfl)
    simp only [Act.put, List.setIfInBounds_toArray, List.set_cons_zero, List.set_cons_succ]
    refine wpAnyH_ready (rs := [7]) (by kernel_rfl) (by simp) ?_
    refine AllReadyH.cons (o := { dst := none, op := Go.Op.store 36 (Go.Operand.tmp 8) (Go.Operand.tmp 24), type := 0, pos := "ref.go:91", after := #[{ on := 6, ground := Go.Ground.data }, { on := 5, ground := Go.Ground.data }, { on := 2, ground := Go.Ground.chain }, { on := 0, ground := Go.Ground.phase }, { on := 1, ground := Go.Ground.phase }, { on := 2, ground := Go.Ground.phase }, { on := 3, ground := Go.Ground.phase }, { on := 4, ground := Go.Ground.phase }, { on := 5, ground := Go.Ground.phase }, { on := 6, ground := Go.Ground.phase }], guard := none }) rfl (fun K hK => ?_) AllReadyH.nil
    rw [if_pos (by rfl)]
    refine wp_row (cs := mc ⟨2, c, Pn.zero, Msc.zero, 0, no⟩) isR h3 rfl rfl (one_all _) rfl rfl ?_
    intro u4 h4 M4
    refine hK.out _ _ (M4.below hHeld Lb3) (fun hNext => ?_)
    clear hK K
    replace hHeld := hNext
    clear hNext
    (try simp only [Act.put])
    clear M4 h3
    refine wpAnyH_done (by kernel_rfl) ?_ _
    have N13 : Hid (b1 ≠ b3) := Lib.hid (by have := lt_heap HR.out; omega)
    have N23 : Hid (b2 ≠ b3) := Lib.hid (by have := lt_heap HI.out; omega)
    have HN := Lib.hid h4
    have L3 : Hid (w.heap.size ≤ b3) := Lib.hid (by have := HB.out.size; omega)
    clear h4 Lb3
    replace HI := Lib.hid (stays HI.out hHeld)
    replace HR := Lib.hid (stays HR.out hHeld)
    replace HB := Lib.hid (below_on HB.out hHeld)
    clear hHeld
    obtain ⟨n0, n1, n18, n19⟩ := flds HN.out
    obtain ⟨i0, i1, i2⟩ := item HI.out
    go_wp2_with (first
      | (go_at_call 32; ((with_reducible refine (CPh.out _).mono ?_); rintro e w5 ⟨rfl, hb⟩; replace HI := Lib.hid (stays HI.out hb); replace HN := Lib.hid (stays HN.out hb); replace HR := Lib.hid (stays HR.out hb); replace HB := Lib.hid (below_on HB.out hb); clear hb n0 n1 n18 n19; obtain ⟨n0, n1, n18, n19⟩ := flds HN.out))
      | ((with_reducible refine sts (s := p) isSr HN.out ?hx ?hy ?_); (case hx => rfl); (case hy => rfl); intro w6 h6 M6; replace HI := Lib.hid (M6.other N23.out HI.out); replace HN := Lib.hid h6; replace HR := Lib.hid (M6.other N13.out HR.out); replace HB := Lib.hid (M6.below HB.out L3.out); clear n0 n1 n18 n19 i0 i1 i2 h6 M6; obtain ⟨i0, i1, i2⟩ := item HI.out)
      | ((with_reducible refine ldm isR HN.out ?hx ?_); (case hx => rfl))
      | ((with_reducible refine stm (m := ⟨2, c, Pn.zero, p, 0, no⟩) isR HR.out ?hx ?hy ?_); (case hx => rfl); (case hy => rfl); intro w9 h9 M9; replace HR := Lib.hid h9; replace HB := Lib.hid (M9.below HB.out L1.out); clear h9 M9))
    exact bodyPost_ret (rget_results _ _ b1 _ _ _ _ HR.out rfl rfl rfl) rfl ⟨rfl, HB.out⟩
set_option maxHeartbeats 800000 in
theorem rget_2_no (s v : ByteArray) (k n : Nat) (c : Bool) (p : Msc.St) (E : Int) (hE : (E != 0) = true) (CP : ∀ w, Calls Tryd.prog 32 #[.string v] w fun e w' => e = .returned (.tuple #[Msc.sv p, .int .i64 E]) ∧ Below w.heap.size w w') (CG : ∀ w, Calls Tryd.prog 30 #[.string s] w fun e w' => e = .returned (.tuple #[.agg #[.int .u8 (k : Int), .bool c, .string v], .int .i64 (n : Int), .int .i64 0]) ∧ Below w.heap.size w w') (CK : ∀ w, Calls Tryd.prog 27 #[.int .u8 (k : Int)] w fun e w' => e = .returned (.int .u8 2) ∧ Below w.heap.size w w') (w : World) :
    Calls Tryd.prog 16 #[.string s] w fun e w' => e = .returned (.tuple #[mv zero, .int .i64 0, .int .i64 70]) ∧ Below w.heap.size w w' := by
  have CGh := Lib.hid CG
  have CKh := Lib.hid CK
  clear CG CK
  have CPh := Lib.hid CP
  clear CP
  go_enter Tryd.func16, Tryd.ntmps16
  go_wp2_with (first
    | ((with_reducible refine alm zeroR ?_); intro b1 w1 h1 F1; have HR := Lib.hid h1; have L1 := Lib.hid (Nat.le_of_eq F1.eq.symm); have HB := Lib.hid F1.below; clear h1 F1)
    | (go_at_call 30; ((with_reducible refine (CGh.out _).mono ?_); rintro e w2 ⟨rfl, hb⟩; replace HR := Lib.hid (stays HR.out hb); replace HB := Lib.hid (below_on HB.out hb); clear hb))
    | ((with_reducible refine alr zeroI ?_); intro b2 w3 h3 F3; have N12 := Lib.hid (F3.ne HR.out); replace HR := Lib.hid (F3.stays HR.out); have L2 := Lib.hid (F3.le HB.out); replace HB := Lib.hid (F3.on HB.out); have HI0 := Lib.hid h3; clear h3 F3)
    | ((with_reducible refine str #[.int .u8 (k : Int), .bool c, .string v] isI HI0.out ?h0 ?h1 ?hc ?hx ?hy ?_); (case h0 => rfl); (case h1 => rfl); (case hc => (simp [Value.oneCell'])); (case hx => rfl); (case hy => rfl); intro wx h4 M4; have HI := Lib.hid h4; replace HR := Lib.hid (M4.other N12.out HR.out); replace HB := Lib.hid (M4.below HB.out L2.out); clear h4 M4 HI0))
  refine wp_region_held_drew (S := fun w' => Below wx.heap.size wx w') (by kernel_rfl) (Below.refl _ _).drew (fun hHeld => ?_)
  refine' wpAnyH_take (i := 0) (oi := { dst := some 19, op := Go.Op.fieldAddr 69 (Go.Operand.tmp 5) 0, type := 0, pos := "ref.go:91", after := #[], guard := none }) (v := _) rfl (by kernel_rfl) (by kernel_rfl) (by kernel_rfl) (fun _ _ _ h => h) (Or.inl ⟨by rfl, ?hy19⟩) (by assumption) ?hr19
  case hy19 => (intro _ hSw; (try dsimp only at hSw); go_simp <;> with_reducible rfl)
  simp only [Act.put, List.setIfInBounds_toArray, List.set_cons_zero, List.set_cons_succ]
  refine' wpAnyH_take (i := 1) (oi := { dst := some 20, op := Go.Op.load 5 (Go.Operand.tmp 19), type := 5, pos := "ref.go:91", after := #[{ on := 0, ground := Go.Ground.data }], guard := none }) (v := _) rfl (by kernel_rfl) (by kernel_rfl) (by kernel_rfl) (fun _ _ _ h => h) (Or.inl ⟨by rfl, ?hy20⟩) (by assumption) ?hr20
  case hy20 => (intro _ hSw; (try dsimp only at hSw); obtain ⟨i0, i1, i2⟩ := item (stays HI.out hSw); go_simp <;> with_reducible rfl)
  simp only [Act.put, List.setIfInBounds_toArray, List.set_cons_zero, List.set_cons_succ]
  refine' wpAnyH_take (i := 3) (oi := { dst := some 22, op := Go.Op.fieldAddr 69 (Go.Operand.tmp 5) 1, type := 0, pos := "ref.go:91", after := #[], guard := none }) (v := _) rfl (by kernel_rfl) (by kernel_rfl) (by kernel_rfl) (fun _ _ _ h => h) (Or.inl ⟨by rfl, ?hy21⟩) (by assumption) ?hr21
  case hy21 => (intro _ hSw; (try dsimp only at hSw); go_simp <;> with_reducible rfl)
  simp only [Act.put, List.setIfInBounds_toArray, List.set_cons_zero, List.set_cons_succ]
  refine' wpAnyH_take (i := 4) (oi := { dst := some 23, op := Go.Op.load 4 (Go.Operand.tmp 22), type := 4, pos := "ref.go:91", after := #[{ on := 3, ground := Go.Ground.data }], guard := none }) (v := _) rfl (by kernel_rfl) (by kernel_rfl) (by kernel_rfl) (fun _ _ _ h => h) (Or.inl ⟨by rfl, ?hy22⟩) (by assumption) ?hr22
  case hy22 => (intro _ hSw; (try dsimp only at hSw); obtain ⟨i0, i1, i2⟩ := item (stays HI.out hSw); go_simp <;> with_reducible rfl)
  simp only [Act.put, List.setIfInBounds_toArray, List.set_cons_zero, List.set_cons_succ]
  refine wpAnyH_ready (rs := [2, 6]) (by kernel_rfl) (by simp) ?_
  refine AllReadyH.cons (o := { dst := some 21, op := Go.Op.call { callee := Go.Callee.value (Go.Operand.func 27), args := #[Go.Operand.tmp 20], argTypes := #[5] }, type := 5, pos := "ref.go:91", after := #[{ on := 1, ground := Go.Ground.data }], guard := none }) rfl (fun K hK => ?_) (AllReadyH.cons (o := { dst := some 8, op := Go.Op.alloc 36, type := 0, pos := "ref.go:91", after := #[], guard := none }) rfl (fun K hK => ?_) AllReadyH.nil)
  · go_simp
    (with_reducible refine (CKh.out _).mono ?_)
    rintro e wc ⟨rfl, hb⟩
    go_wp2_with fail
    refine hK.out _ _ (below_on hHeld hb) (fun hNext => ?_)
    clear hK K
    replace hHeld := hNext
    clear hNext
    (try simp only [Act.put, List.setIfInBounds_toArray, List.set_cons_zero, List.set_cons_succ])
    clear hb
    refine' wpAnyH_take (i := 5) (oi := { dst := some 24, op := Go.Op.build 36 #[(0, Go.Operand.tmp 21), (1, Go.Operand.tmp 23)], type := 36, pos := "ref.go:91", after := #[{ on := 2, ground := Go.Ground.data }, { on := 4, ground := Go.Ground.data }], guard := none }) (v := _) rfl (by kernel_rfl) (by kernel_rfl) (by kernel_rfl) (fun _ _ _ h => h) (Or.inl ⟨by rfl, ?hy23⟩) (by assumption) ?hr23
    case hy23 => (intro _ hSw; (try dsimp only at hSw); refine ex_bd ⟨2, c, Pn.zero, Msc.zero, 0, no⟩ ?_; kernel_rfl)
    simp only [Act.put, List.setIfInBounds_toArray, List.set_cons_zero, List.set_cons_succ]
    refine wpAnyH_ready (rs := [6]) (by kernel_rfl) (by simp) ?_
    refine AllReadyH.cons (o := { dst := some 8, op := Go.Op.alloc 36, type := 0, pos := "ref.go:91", after := #[], guard := none }) rfl (fun K hK => ?_) AllReadyH.nil
    rw [if_pos (by rfl)]
    refine wp_al zeroR ?_
    intro b3 u3 h3 F3
    have Lb3 := F3.le hHeld
    refine hK.out _ _ (F3.on hHeld) (fun hNext => ?_)
    clear hK K
    replace hHeld := hNext
    clear hNext
    (try simp only [Act.put, List.setIfInBounds_toArray, List.set_cons_zero, List.set_cons_succ])
    clear F3
    refine wpAnyH_ready (rs := [7]) (by kernel_rfl) (by simp) ?_
    refine AllReadyH.cons (o := { dst := none, op := Go.Op.store 36 (Go.Operand.tmp 8) (Go.Operand.tmp 24), type := 0, pos := "ref.go:91", after := #[{ on := 6, ground := Go.Ground.data }, { on := 5, ground := Go.Ground.data }, { on := 2, ground := Go.Ground.chain }, { on := 0, ground := Go.Ground.phase }, { on := 1, ground := Go.Ground.phase }, { on := 2, ground := Go.Ground.phase }, { on := 3, ground := Go.Ground.phase }, { on := 4, ground := Go.Ground.phase }, { on := 5, ground := Go.Ground.phase }, { on := 6, ground := Go.Ground.phase }], guard := none }) rfl (fun K hK => ?_) AllReadyH.nil
    rw [if_pos (by rfl)]
    refine wp_row (cs := mc ⟨2, c, Pn.zero, Msc.zero, 0, no⟩) isR h3 rfl rfl (one_all _) rfl rfl ?_
    intro u4 h4 M4
    refine hK.out _ _ (M4.below hHeld Lb3) (fun hNext => ?_)
    clear hK K
    replace hHeld := hNext
    clear hNext
    (try simp only [Act.put])
    clear M4 h3
    refine wpAnyH_done (by kernel_rfl) ?_ _
    have N13 : Hid (b1 ≠ b3) := Lib.hid (by have := lt_heap HR.out; omega)
    have N23 : Hid (b2 ≠ b3) := Lib.hid (by have := lt_heap HI.out; omega)
    have HN := Lib.hid h4
    have L3 : Hid (w.heap.size ≤ b3) := Lib.hid (by have := HB.out.size; omega)
    clear h4 Lb3
    replace HI := Lib.hid (stays HI.out hHeld)
    replace HR := Lib.hid (stays HR.out hHeld)
    replace HB := Lib.hid (below_on HB.out hHeld)
    clear hHeld
    obtain ⟨n0, n1, n18, n19⟩ := flds HN.out
    obtain ⟨i0, i1, i2⟩ := item HI.out
    go_wp2_with (first
      | (go_at_call 32; ((with_reducible refine (CPh.out _).mono ?_); rintro e w5 ⟨rfl, hb⟩; replace HI := Lib.hid (stays HI.out hb); replace HN := Lib.hid (stays HN.out hb); replace HR := Lib.hid (stays HR.out hb); replace HB := Lib.hid (below_on HB.out hb); clear hb n0 n1 n18 n19; obtain ⟨n0, n1, n18, n19⟩ := flds HN.out))
      | ((with_reducible refine sts (s := p) isSr HN.out ?hx ?hy ?_); (case hx => rfl); (case hy => rfl); intro w6 h6 M6; replace HI := Lib.hid (M6.other N23.out HI.out); replace HN := Lib.hid h6; replace HR := Lib.hid (M6.other N13.out HR.out); replace HB := Lib.hid (M6.below HB.out L3.out); clear n0 n1 n18 n19 i0 i1 i2 h6 M6; obtain ⟨i0, i1, i2⟩ := item HI.out)
      | ((with_reducible refine bdm (T := 36) (parts := #[]) zero ?hb ?_); (case hb => kernel_rfl))
      | ((with_reducible refine stm (m := zero) isR HR.out ?hx ?hy ?_); (case hx => rfl); (case hy => rfl); intro w9 h9 M9; replace HR := Lib.hid h9; replace HB := Lib.hid (M9.below HB.out L1.out); clear h9 M9))
    exact bodyPost_ret (rget_results _ _ b1 _ _ _ _ HR.out rfl rfl rfl) rfl ⟨rfl, HB.out⟩
  · rw [if_pos (by rfl)]
    refine wp_al zeroR ?_
    intro b3 u3 h3 F3
    have Lb3 := F3.le hHeld
    refine hK.out _ _ (F3.on hHeld) (fun hNext => ?_)
    clear hK K
    replace hHeld := hNext
    clear hNext
    (try simp only [Act.put, List.setIfInBounds_toArray, List.set_cons_zero, List.set_cons_succ])
    clear F3
    refine wpAnyH_ready (rs := [2]) (by kernel_rfl) (by simp) ?_
    refine AllReadyH.cons (o := { dst := some 21, op := Go.Op.call { callee := Go.Callee.value (Go.Operand.func 27), args := #[Go.Operand.tmp 20], argTypes := #[5] }, type := 5, pos := "ref.go:91", after := #[{ on := 1, ground := Go.Ground.data }], guard := none }) rfl (fun K hK => ?_) AllReadyH.nil
    go_simp
    (with_reducible refine (CKh.out _).mono ?_)
    rintro e wc ⟨rfl, hb⟩
    go_wp2_with fail
    replace h3 := stays h3 hb
    refine hK.out _ _ (below_on hHeld hb) (fun hNext => ?_)
    clear hK K
    replace hHeld := hNext
    clear hNext
    (try simp only [Act.put, List.setIfInBounds_toArray, List.set_cons_zero, List.set_cons_succ])
    clear hb
    refine' wpAnyH_take (i := 5) (oi := { dst := some 24, op := Go.Op.build 36 #[(0, Go.Operand.tmp 21), (1, Go.Operand.tmp 23)], type := 36, pos := "ref.go:91", after := #[{ on := 2, ground := Go.Ground.data }, { on := 4, ground := Go.Ground.data }], guard := none }) (v := _) rfl (by kernel_rfl) (by kernel_rfl) (by kernel_rfl) (fun _ _ _ h => h) (Or.inl ⟨by rfl, ?hy24⟩) (by assumption) ?hr24
    case hy24 => (intro _ hSw; (try dsimp only at hSw); refine ex_bd ⟨2, c, Pn.zero, Msc.zero, 0, no⟩ ?_; kernel_rfl)
    simp only [Act.put, List.setIfInBounds_toArray, List.set_cons_zero, List.set_cons_succ]
    refine wpAnyH_ready (rs := [7]) (by kernel_rfl) (by simp) ?_
    refine AllReadyH.cons (o := { dst := none, op := Go.Op.store 36 (Go.Operand.tmp 8) (Go.Operand.tmp 24), type := 0, pos := "ref.go:91", after := #[{ on := 6, ground := Go.Ground.data }, { on := 5, ground := Go.Ground.data }, { on := 2, ground := Go.Ground.chain }, { on := 0, ground := Go.Ground.phase }, { on := 1, ground := Go.Ground.phase }, { on := 2, ground := Go.Ground.phase }, { on := 3, ground := Go.Ground.phase }, { on := 4, ground := Go.Ground.phase }, { on := 5, ground := Go.Ground.phase }, { on := 6, ground := Go.Ground.phase }], guard := none }) rfl (fun K hK => ?_) AllReadyH.nil
    rw [if_pos (by rfl)]
    refine wp_row (cs := mc ⟨2, c, Pn.zero, Msc.zero, 0, no⟩) isR h3 rfl rfl (one_all _) rfl rfl ?_
    intro u4 h4 M4
    refine hK.out _ _ (M4.below hHeld Lb3) (fun hNext => ?_)
    clear hK K
    replace hHeld := hNext
    clear hNext
    (try simp only [Act.put])
    clear M4 h3
    refine wpAnyH_done (by kernel_rfl) ?_ _
    have N13 : Hid (b1 ≠ b3) := Lib.hid (by have := lt_heap HR.out; omega)
    have N23 : Hid (b2 ≠ b3) := Lib.hid (by have := lt_heap HI.out; omega)
    have HN := Lib.hid h4
    have L3 : Hid (w.heap.size ≤ b3) := Lib.hid (by have := HB.out.size; omega)
    clear h4 Lb3
    replace HI := Lib.hid (stays HI.out hHeld)
    replace HR := Lib.hid (stays HR.out hHeld)
    replace HB := Lib.hid (below_on HB.out hHeld)
    clear hHeld
    obtain ⟨n0, n1, n18, n19⟩ := flds HN.out
    obtain ⟨i0, i1, i2⟩ := item HI.out
    go_wp2_with (first
      | (go_at_call 32; ((with_reducible refine (CPh.out _).mono ?_); rintro e w5 ⟨rfl, hb⟩; replace HI := Lib.hid (stays HI.out hb); replace HN := Lib.hid (stays HN.out hb); replace HR := Lib.hid (stays HR.out hb); replace HB := Lib.hid (below_on HB.out hb); clear hb n0 n1 n18 n19; obtain ⟨n0, n1, n18, n19⟩ := flds HN.out))
      | ((with_reducible refine sts (s := p) isSr HN.out ?hx ?hy ?_); (case hx => rfl); (case hy => rfl); intro w6 h6 M6; replace HI := Lib.hid (M6.other N23.out HI.out); replace HN := Lib.hid h6; replace HR := Lib.hid (M6.other N13.out HR.out); replace HB := Lib.hid (M6.below HB.out L3.out); clear n0 n1 n18 n19 i0 i1 i2 h6 M6; obtain ⟨i0, i1, i2⟩ := item HI.out)
      | ((with_reducible refine bdm (T := 36) (parts := #[]) zero ?hb ?_); (case hb => kernel_rfl))
      | ((with_reducible refine stm (m := zero) isR HR.out ?hx ?hy ?_); (case hx => rfl); (case hy => rfl); intro w9 h9 M9; replace HR := Lib.hid h9; replace HB := Lib.hid (M9.below HB.out L1.out); clear h9 M9))
    exact bodyPost_ret (rget_results _ _ b1 _ _ _ _ HR.out rfl rfl rfl) rfl ⟨rfl, HB.out⟩
set_option maxHeartbeats 800000 in
theorem rget_5 (s v : ByteArray) (k n : Nat) (c : Bool) (CG : ∀ w, Calls Tryd.prog 30 #[.string s] w fun e w' => e = .returned (.tuple #[.agg #[.int .u8 (k : Int), .bool c, .string v], .int .i64 (n : Int), .int .i64 0]) ∧ Below w.heap.size w w') (CK : ∀ w, Calls Tryd.prog 27 #[.int .u8 (k : Int)] w fun e w' => e = .returned (.int .u8 5) ∧ Below w.heap.size w w') (w : World) :
    Calls Tryd.prog 16 #[.string s] w fun e w' => e = .returned (.tuple #[mv ⟨5, c, Pn.zero, Msc.zero, 0, v⟩, .int .i64 (n : Int), .int .i64 0]) ∧ Below w.heap.size w w' := by
  have CGh := Lib.hid CG
  have CKh := Lib.hid CK
  clear CG CK
  go_enter Tryd.func16, Tryd.ntmps16
  go_wp2_with (first
    | ((with_reducible refine alm zeroR ?_); intro b1 w1 h1 F1; have HR := Lib.hid h1; have L1 := Lib.hid (Nat.le_of_eq F1.eq.symm); have HB := Lib.hid F1.below; clear h1 F1)
    | (go_at_call 30; ((with_reducible refine (CGh.out _).mono ?_); rintro e w2 ⟨rfl, hb⟩; replace HR := Lib.hid (stays HR.out hb); replace HB := Lib.hid (below_on HB.out hb); clear hb))
    | ((with_reducible refine alr zeroI ?_); intro b2 w3 h3 F3; have N12 := Lib.hid (F3.ne HR.out); replace HR := Lib.hid (F3.stays HR.out); have L2 := Lib.hid (F3.le HB.out); replace HB := Lib.hid (F3.on HB.out); have HI0 := Lib.hid h3; clear h3 F3)
    | ((with_reducible refine str #[.int .u8 (k : Int), .bool c, .string v] isI HI0.out ?h0 ?h1 ?hc ?hx ?hy ?_); (case h0 => rfl); (case h1 => rfl); (case hc => (simp [Value.oneCell'])); (case hx => rfl); (case hy => rfl); intro wx h4 M4; have HI := Lib.hid h4; replace HR := Lib.hid (M4.other N12.out HR.out); replace HB := Lib.hid (M4.below HB.out L2.out); clear h4 M4 HI0))
  refine wp_region_held_drew (S := fun w' => Below wx.heap.size wx w') (by kernel_rfl) (Below.refl _ _).drew (fun hHeld => ?_)
  refine' wpAnyH_take (i := 0) (oi := { dst := some 19, op := Go.Op.fieldAddr 69 (Go.Operand.tmp 5) 0, type := 0, pos := "ref.go:91", after := #[], guard := none }) (v := _) rfl (by kernel_rfl) (by kernel_rfl) (by kernel_rfl) (fun _ _ _ h => h) (Or.inl ⟨by rfl, ?hy25⟩) (by assumption) ?hr25
  case hy25 => (intro _ hSw; (try dsimp only at hSw); go_simp <;> with_reducible rfl)
  simp only [Act.put, List.setIfInBounds_toArray, List.set_cons_zero, List.set_cons_succ]
  refine' wpAnyH_take (i := 1) (oi := { dst := some 20, op := Go.Op.load 5 (Go.Operand.tmp 19), type := 5, pos := "ref.go:91", after := #[{ on := 0, ground := Go.Ground.data }], guard := none }) (v := _) rfl (by kernel_rfl) (by kernel_rfl) (by kernel_rfl) (fun _ _ _ h => h) (Or.inl ⟨by rfl, ?hy26⟩) (by assumption) ?hr26
  case hy26 => (intro _ hSw; (try dsimp only at hSw); obtain ⟨i0, i1, i2⟩ := item (stays HI.out hSw); go_simp <;> with_reducible rfl)
  simp only [Act.put, List.setIfInBounds_toArray, List.set_cons_zero, List.set_cons_succ]
  refine' wpAnyH_take (i := 3) (oi := { dst := some 22, op := Go.Op.fieldAddr 69 (Go.Operand.tmp 5) 1, type := 0, pos := "ref.go:91", after := #[], guard := none }) (v := _) rfl (by kernel_rfl) (by kernel_rfl) (by kernel_rfl) (fun _ _ _ h => h) (Or.inl ⟨by rfl, ?hy27⟩) (by assumption) ?hr27
  case hy27 => (intro _ hSw; (try dsimp only at hSw); go_simp <;> with_reducible rfl)
  simp only [Act.put, List.setIfInBounds_toArray, List.set_cons_zero, List.set_cons_succ]
  refine' wpAnyH_take (i := 4) (oi := { dst := some 23, op := Go.Op.load 4 (Go.Operand.tmp 22), type := 4, pos := "ref.go:91", after := #[{ on := 3, ground := Go.Ground.data }], guard := none }) (v := _) rfl (by kernel_rfl) (by kernel_rfl) (by kernel_rfl) (fun _ _ _ h => h) (Or.inl ⟨by rfl, ?hy28⟩) (by assumption) ?hr28
  case hy28 => (intro _ hSw; (try dsimp only at hSw); obtain ⟨i0, i1, i2⟩ := item (stays HI.out hSw); go_simp <;> with_reducible rfl)
  simp only [Act.put, List.setIfInBounds_toArray, List.set_cons_zero, List.set_cons_succ]
  refine wpAnyH_ready (rs := [2, 6]) (by kernel_rfl) (by simp) ?_
  refine AllReadyH.cons (o := { dst := some 21, op := Go.Op.call { callee := Go.Callee.value (Go.Operand.func 27), args := #[Go.Operand.tmp 20], argTypes := #[5] }, type := 5, pos := "ref.go:91", after := #[{ on := 1, ground := Go.Ground.data }], guard := none }) rfl (fun K hK => ?_) (AllReadyH.cons (o := { dst := some 8, op := Go.Op.alloc 36, type := 0, pos := "ref.go:91", after := #[], guard := none }) rfl (fun K hK => ?_) AllReadyH.nil)
  · go_simp
    (with_reducible refine (CKh.out _).mono ?_)
    rintro e wc ⟨rfl, hb⟩
    go_wp2_with fail
    refine hK.out _ _ (below_on hHeld hb) (fun hNext => ?_)
    clear hK K
    replace hHeld := hNext
    clear hNext
    (try simp only [Act.put, List.setIfInBounds_toArray, List.set_cons_zero, List.set_cons_succ])
    clear hb
    refine' wpAnyH_take (i := 5) (oi := { dst := some 24, op := Go.Op.build 36 #[(0, Go.Operand.tmp 21), (1, Go.Operand.tmp 23)], type := 36, pos := "ref.go:91", after := #[{ on := 2, ground := Go.Ground.data }, { on := 4, ground := Go.Ground.data }], guard := none }) (v := _) rfl (by kernel_rfl) (by kernel_rfl) (by kernel_rfl) (fun _ _ _ h => h) (Or.inl ⟨by rfl, ?hy29⟩) (by assumption) ?hr29
    case hy29 => (intro _ hSw; (try dsimp only at hSw); refine ex_bd ⟨5, c, Pn.zero, Msc.zero, 0, no⟩ ?_; kernel_rfl)
    simp only [Act.put, List.setIfInBounds_toArray, List.set_cons_zero, List.set_cons_succ]
    refine wpAnyH_ready (rs := [6]) (by kernel_rfl) (by simp) ?_
    refine AllReadyH.cons (o := { dst := some 8, op := Go.Op.alloc 36, type := 0, pos := "ref.go:91", after := #[], guard := none }) rfl (fun K hK => ?_) AllReadyH.nil
    rw [if_pos (by rfl)]
    refine wp_al zeroR ?_
    intro b3 u3 h3 F3
    have Lb3 := F3.le hHeld
    refine hK.out _ _ (F3.on hHeld) (fun hNext => ?_)
    clear hK K
    replace hHeld := hNext
    clear hNext
    (try simp only [Act.put, List.setIfInBounds_toArray, List.set_cons_zero, List.set_cons_succ])
    clear F3
    refine wpAnyH_ready (rs := [7]) (by kernel_rfl) (by simp) ?_
    refine AllReadyH.cons (o := { dst := none, op := Go.Op.store 36 (Go.Operand.tmp 8) (Go.Operand.tmp 24), type := 0, pos := "ref.go:91", after := #[{ on := 6, ground := Go.Ground.data }, { on := 5, ground := Go.Ground.data }, { on := 2, ground := Go.Ground.chain }, { on := 0, ground := Go.Ground.phase }, { on := 1, ground := Go.Ground.phase }, { on := 2, ground := Go.Ground.phase }, { on := 3, ground := Go.Ground.phase }, { on := 4, ground := Go.Ground.phase }, { on := 5, ground := Go.Ground.phase }, { on := 6, ground := Go.Ground.phase }], guard := none }) rfl (fun K hK => ?_) AllReadyH.nil
    rw [if_pos (by rfl)]
    refine wp_row (cs := mc ⟨5, c, Pn.zero, Msc.zero, 0, no⟩) isR h3 rfl rfl (one_all _) rfl rfl ?_
    intro u4 h4 M4
    refine hK.out _ _ (M4.below hHeld Lb3) (fun hNext => ?_)
    clear hK K
    replace hHeld := hNext
    clear hNext
    (try simp only [Act.put])
    clear M4 h3
    refine wpAnyH_done (by kernel_rfl) ?_ _
    have N13 : Hid (b1 ≠ b3) := Lib.hid (by have := lt_heap HR.out; omega)
    have N23 : Hid (b2 ≠ b3) := Lib.hid (by have := lt_heap HI.out; omega)
    have HN := Lib.hid h4
    have L3 : Hid (w.heap.size ≤ b3) := Lib.hid (by have := HB.out.size; omega)
    clear h4 Lb3
    replace HI := Lib.hid (stays HI.out hHeld)
    replace HR := Lib.hid (stays HR.out hHeld)
    replace HB := Lib.hid (below_on HB.out hHeld)
    clear hHeld
    obtain ⟨n0, n1, n18, n19⟩ := flds HN.out
    obtain ⟨i0, i1, i2⟩ := item HI.out
    go_wp2_with (first
      | ((with_reducible refine stb (z := v) HN.out ?hx ?hy ?_); (case hx => rfl); (case hy => rfl); intro w6 h6 M6; replace HI := Lib.hid (M6.other N23.out HI.out); replace HN := Lib.hid h6; replace HR := Lib.hid (M6.other N13.out HR.out); replace HB := Lib.hid (M6.below HB.out L3.out); clear n0 n1 n18 n19 i0 i1 i2 h6 M6; obtain ⟨i0, i1, i2⟩ := item HI.out)
      | ((with_reducible refine ldm isR HN.out ?hx ?_); (case hx => rfl))
      | ((with_reducible refine stm (m := ⟨5, c, Pn.zero, Msc.zero, 0, v⟩) isR HR.out ?hx ?hy ?_); (case hx => rfl); (case hy => rfl); intro w9 h9 M9; replace HR := Lib.hid h9; replace HB := Lib.hid (M9.below HB.out L1.out); clear h9 M9))
    exact bodyPost_ret (rget_results _ _ b1 _ _ _ _ HR.out rfl rfl rfl) rfl ⟨rfl, HB.out⟩
  · rw [if_pos (by rfl)]
    refine wp_al zeroR ?_
    intro b3 u3 h3 F3
    have Lb3 := F3.le hHeld
    refine hK.out _ _ (F3.on hHeld) (fun hNext => ?_)
    clear hK K
    replace hHeld := hNext
    clear hNext
    (try simp only [Act.put, List.setIfInBounds_toArray, List.set_cons_zero, List.set_cons_succ])
    clear F3
    refine wpAnyH_ready (rs := [2]) (by kernel_rfl) (by simp) ?_
    refine AllReadyH.cons (o := { dst := some 21, op := Go.Op.call { callee := Go.Callee.value (Go.Operand.func 27), args := #[Go.Operand.tmp 20], argTypes := #[5] }, type := 5, pos := "ref.go:91", after := #[{ on := 1, ground := Go.Ground.data }], guard := none }) rfl (fun K hK => ?_) AllReadyH.nil
    go_simp
    (with_reducible refine (CKh.out _).mono ?_)
    rintro e wc ⟨rfl, hb⟩
    go_wp2_with fail
    replace h3 := stays h3 hb
    refine hK.out _ _ (below_on hHeld hb) (fun hNext => ?_)
    clear hK K
    replace hHeld := hNext
    clear hNext
    (try simp only [Act.put, List.setIfInBounds_toArray, List.set_cons_zero, List.set_cons_succ])
    clear hb
    refine' wpAnyH_take (i := 5) (oi := { dst := some 24, op := Go.Op.build 36 #[(0, Go.Operand.tmp 21), (1, Go.Operand.tmp 23)], type := 36, pos := "ref.go:91", after := #[{ on := 2, ground := Go.Ground.data }, { on := 4, ground := Go.Ground.data }], guard := none }) (v := _) rfl (by kernel_rfl) (by kernel_rfl) (by kernel_rfl) (fun _ _ _ h => h) (Or.inl ⟨by rfl, ?hy30⟩) (by assumption) ?hr30
    case hy30 => (intro _ hSw; (try dsimp only at hSw); refine ex_bd ⟨5, c, Pn.zero, Msc.zero, 0, no⟩ ?_; kernel_rfl)
    simp only [Act.put, List.setIfInBounds_toArray, List.set_cons_zero, List.set_cons_succ]
    refine wpAnyH_ready (rs := [7]) (by kernel_rfl) (by simp) ?_
    refine AllReadyH.cons (o := { dst := none, op := Go.Op.store 36 (Go.Operand.tmp 8) (Go.Operand.tmp 24), type := 0, pos := "ref.go:91", after := #[{ on := 6, ground := Go.Ground.data }, { on := 5, ground := Go.Ground.data }, { on := 2, ground := Go.Ground.chain }, { on := 0, ground := Go.Ground.phase }, { on := 1, ground := Go.Ground.phase }, { on := 2, ground := Go.Ground.phase }, { on := 3, ground := Go.Ground.phase }, { on := 4, ground := Go.Ground.phase }, { on := 5, ground := Go.Ground.phase }, { on := 6, ground := Go.Ground.phase }], guard := none }) rfl (fun K hK => ?_) AllReadyH.nil
    rw [if_pos (by rfl)]
    refine wp_row (cs := mc ⟨5, c, Pn.zero, Msc.zero, 0, no⟩) isR h3 rfl rfl (one_all _) rfl rfl ?_
    intro u4 h4 M4
    refine hK.out _ _ (M4.below hHeld Lb3) (fun hNext => ?_)
    clear hK K
    replace hHeld := hNext
    clear hNext
    (try simp only [Act.put])
    clear M4 h3
    refine wpAnyH_done (by kernel_rfl) ?_ _
    have N13 : Hid (b1 ≠ b3) := Lib.hid (by have := lt_heap HR.out; omega)
    have N23 : Hid (b2 ≠ b3) := Lib.hid (by have := lt_heap HI.out; omega)
    have HN := Lib.hid h4
    have L3 : Hid (w.heap.size ≤ b3) := Lib.hid (by have := HB.out.size; omega)
    clear h4 Lb3
    replace HI := Lib.hid (stays HI.out hHeld)
    replace HR := Lib.hid (stays HR.out hHeld)
    replace HB := Lib.hid (below_on HB.out hHeld)
    clear hHeld
    obtain ⟨n0, n1, n18, n19⟩ := flds HN.out
    obtain ⟨i0, i1, i2⟩ := item HI.out
    go_wp2_with (first
      | ((with_reducible refine stb (z := v) HN.out ?hx ?hy ?_); (case hx => rfl); (case hy => rfl); intro w6 h6 M6; replace HI := Lib.hid (M6.other N23.out HI.out); replace HN := Lib.hid h6; replace HR := Lib.hid (M6.other N13.out HR.out); replace HB := Lib.hid (M6.below HB.out L3.out); clear n0 n1 n18 n19 i0 i1 i2 h6 M6; obtain ⟨i0, i1, i2⟩ := item HI.out)
      | ((with_reducible refine ldm isR HN.out ?hx ?_); (case hx => rfl))
      | ((with_reducible refine stm (m := ⟨5, c, Pn.zero, Msc.zero, 0, v⟩) isR HR.out ?hx ?hy ?_); (case hx => rfl); (case hy => rfl); intro w9 h9 M9; replace HR := Lib.hid h9; replace HB := Lib.hid (M9.below HB.out L1.out); clear h9 M9))
    exact bodyPost_ret (rget_results _ _ b1 _ _ _ _ HR.out rfl rfl rfl) rfl ⟨rfl, HB.out⟩
set_option maxHeartbeats 800000 in
theorem rget_7 (s v : ByteArray) (k n : Nat) (c : Bool) (z : Nat) (j0 : ∀ W, (Instr.index 9 (.string v) (.int .i64 0)).run Tryd.prog W = .ok (.int .u8 (z : Int)) W) (hz : ((v.size : Int) == 1) = true) (CG : ∀ w, Calls Tryd.prog 30 #[.string s] w fun e w' => e = .returned (.tuple #[.agg #[.int .u8 (k : Int), .bool c, .string v], .int .i64 (n : Int), .int .i64 0]) ∧ Below w.heap.size w w') (CK : ∀ w, Calls Tryd.prog 27 #[.int .u8 (k : Int)] w fun e w' => e = .returned (.int .u8 7) ∧ Below w.heap.size w w') (w : World) :
    Calls Tryd.prog 16 #[.string s] w fun e w' => e = .returned (.tuple #[mv ⟨7, c, Pn.zero, Msc.zero, z, no⟩, .int .i64 (n : Int), .int .i64 0]) ∧ Below w.heap.size w w' := by
  have CGh := Lib.hid CG
  have CKh := Lib.hid CK
  clear CG CK
  go_enter Tryd.func16, Tryd.ntmps16
  go_wp2_with (first
    | ((with_reducible refine alm zeroR ?_); intro b1 w1 h1 F1; have HR := Lib.hid h1; have L1 := Lib.hid (Nat.le_of_eq F1.eq.symm); have HB := Lib.hid F1.below; clear h1 F1)
    | (go_at_call 30; ((with_reducible refine (CGh.out _).mono ?_); rintro e w2 ⟨rfl, hb⟩; replace HR := Lib.hid (stays HR.out hb); replace HB := Lib.hid (below_on HB.out hb); clear hb))
    | ((with_reducible refine alr zeroI ?_); intro b2 w3 h3 F3; have N12 := Lib.hid (F3.ne HR.out); replace HR := Lib.hid (F3.stays HR.out); have L2 := Lib.hid (F3.le HB.out); replace HB := Lib.hid (F3.on HB.out); have HI0 := Lib.hid h3; clear h3 F3)
    | ((with_reducible refine str #[.int .u8 (k : Int), .bool c, .string v] isI HI0.out ?h0 ?h1 ?hc ?hx ?hy ?_); (case h0 => rfl); (case h1 => rfl); (case hc => (simp [Value.oneCell'])); (case hx => rfl); (case hy => rfl); intro wx h4 M4; have HI := Lib.hid h4; replace HR := Lib.hid (M4.other N12.out HR.out); replace HB := Lib.hid (M4.below HB.out L2.out); clear h4 M4 HI0))
  refine wp_region_held_drew (S := fun w' => Below wx.heap.size wx w') (by kernel_rfl) (Below.refl _ _).drew (fun hHeld => ?_)
  refine' wpAnyH_take (i := 0) (oi := { dst := some 19, op := Go.Op.fieldAddr 69 (Go.Operand.tmp 5) 0, type := 0, pos := "ref.go:91", after := #[], guard := none }) (v := _) rfl (by kernel_rfl) (by kernel_rfl) (by kernel_rfl) (fun _ _ _ h => h) (Or.inl ⟨by rfl, ?hy31⟩) (by assumption) ?hr31
  case hy31 => (intro _ hSw; (try dsimp only at hSw); go_simp <;> with_reducible rfl)
  simp only [Act.put, List.setIfInBounds_toArray, List.set_cons_zero, List.set_cons_succ]
  refine' wpAnyH_take (i := 1) (oi := { dst := some 20, op := Go.Op.load 5 (Go.Operand.tmp 19), type := 5, pos := "ref.go:91", after := #[{ on := 0, ground := Go.Ground.data }], guard := none }) (v := _) rfl (by kernel_rfl) (by kernel_rfl) (by kernel_rfl) (fun _ _ _ h => h) (Or.inl ⟨by rfl, ?hy32⟩) (by assumption) ?hr32
  case hy32 => (intro _ hSw; (try dsimp only at hSw); obtain ⟨i0, i1, i2⟩ := item (stays HI.out hSw); go_simp <;> with_reducible rfl)
  simp only [Act.put, List.setIfInBounds_toArray, List.set_cons_zero, List.set_cons_succ]
  refine' wpAnyH_take (i := 3) (oi := { dst := some 22, op := Go.Op.fieldAddr 69 (Go.Operand.tmp 5) 1, type := 0, pos := "ref.go:91", after := #[], guard := none }) (v := _) rfl (by kernel_rfl) (by kernel_rfl) (by kernel_rfl) (fun _ _ _ h => h) (Or.inl ⟨by rfl, ?hy33⟩) (by assumption) ?hr33
  case hy33 => (intro _ hSw; (try dsimp only at hSw); go_simp <;> with_reducible rfl)
  simp only [Act.put, List.setIfInBounds_toArray, List.set_cons_zero, List.set_cons_succ]
  refine' wpAnyH_take (i := 4) (oi := { dst := some 23, op := Go.Op.load 4 (Go.Operand.tmp 22), type := 4, pos := "ref.go:91", after := #[{ on := 3, ground := Go.Ground.data }], guard := none }) (v := _) rfl (by kernel_rfl) (by kernel_rfl) (by kernel_rfl) (fun _ _ _ h => h) (Or.inl ⟨by rfl, ?hy34⟩) (by assumption) ?hr34
  case hy34 => (intro _ hSw; (try dsimp only at hSw); obtain ⟨i0, i1, i2⟩ := item (stays HI.out hSw); go_simp <;> with_reducible rfl)
  simp only [Act.put, List.setIfInBounds_toArray, List.set_cons_zero, List.set_cons_succ]
  refine wpAnyH_ready (rs := [2, 6]) (by kernel_rfl) (by simp) ?_
  refine AllReadyH.cons (o := { dst := some 21, op := Go.Op.call { callee := Go.Callee.value (Go.Operand.func 27), args := #[Go.Operand.tmp 20], argTypes := #[5] }, type := 5, pos := "ref.go:91", after := #[{ on := 1, ground := Go.Ground.data }], guard := none }) rfl (fun K hK => ?_) (AllReadyH.cons (o := { dst := some 8, op := Go.Op.alloc 36, type := 0, pos := "ref.go:91", after := #[], guard := none }) rfl (fun K hK => ?_) AllReadyH.nil)
  · go_simp
    (with_reducible refine (CKh.out _).mono ?_)
    rintro e wc ⟨rfl, hb⟩
    go_wp2_with fail
    refine hK.out _ _ (below_on hHeld hb) (fun hNext => ?_)
    clear hK K
    replace hHeld := hNext
    clear hNext
    (try simp only [Act.put, List.setIfInBounds_toArray, List.set_cons_zero, List.set_cons_succ])
    clear hb
    refine' wpAnyH_take (i := 5) (oi := { dst := some 24, op := Go.Op.build 36 #[(0, Go.Operand.tmp 21), (1, Go.Operand.tmp 23)], type := 36, pos := "ref.go:91", after := #[{ on := 2, ground := Go.Ground.data }, { on := 4, ground := Go.Ground.data }], guard := none }) (v := _) rfl (by kernel_rfl) (by kernel_rfl) (by kernel_rfl) (fun _ _ _ h => h) (Or.inl ⟨by rfl, ?hy35⟩) (by assumption) ?hr35
    case hy35 => (intro _ hSw; (try dsimp only at hSw); refine ex_bd ⟨7, c, Pn.zero, Msc.zero, 0, no⟩ ?_; kernel_rfl)
    simp only [Act.put, List.setIfInBounds_toArray, List.set_cons_zero, List.set_cons_succ]
    refine wpAnyH_ready (rs := [6]) (by kernel_rfl) (by simp) ?_
    refine AllReadyH.cons (o := { dst := some 8, op := Go.Op.alloc 36, type := 0, pos := "ref.go:91", after := #[], guard := none }) rfl (fun K hK => ?_) AllReadyH.nil
    rw [if_pos (by rfl)]
    refine wp_al zeroR ?_
    intro b3 u3 h3 F3
    have Lb3 := F3.le hHeld
    refine hK.out _ _ (F3.on hHeld) (fun hNext => ?_)
    clear hK K
    replace hHeld := hNext
    clear hNext
    (try simp only [Act.put, List.setIfInBounds_toArray, List.set_cons_zero, List.set_cons_succ])
    clear F3
    refine wpAnyH_ready (rs := [7]) (by kernel_rfl) (by simp) ?_
    refine AllReadyH.cons (o := { dst := none, op := Go.Op.store 36 (Go.Operand.tmp 8) (Go.Operand.tmp 24), type := 0, pos := "ref.go:91", after := #[{ on := 6, ground := Go.Ground.data }, { on := 5, ground := Go.Ground.data }, { on := 2, ground := Go.Ground.chain }, { on := 0, ground := Go.Ground.phase }, { on := 1, ground := Go.Ground.phase }, { on := 2, ground := Go.Ground.phase }, { on := 3, ground := Go.Ground.phase }, { on := 4, ground := Go.Ground.phase }, { on := 5, ground := Go.Ground.phase }, { on := 6, ground := Go.Ground.phase }], guard := none }) rfl (fun K hK => ?_) AllReadyH.nil
    rw [if_pos (by rfl)]
    refine wp_row (cs := mc ⟨7, c, Pn.zero, Msc.zero, 0, no⟩) isR h3 rfl rfl (one_all _) rfl rfl ?_
    intro u4 h4 M4
    refine hK.out _ _ (M4.below hHeld Lb3) (fun hNext => ?_)
    clear hK K
    replace hHeld := hNext
    clear hNext
    (try simp only [Act.put])
    clear M4 h3
    refine wpAnyH_done (by kernel_rfl) ?_ _
    have N13 : Hid (b1 ≠ b3) := Lib.hid (by have := lt_heap HR.out; omega)
    have N23 : Hid (b2 ≠ b3) := Lib.hid (by have := lt_heap HI.out; omega)
    have HN := Lib.hid h4
    have L3 : Hid (w.heap.size ≤ b3) := Lib.hid (by have := HB.out.size; omega)
    clear h4 Lb3
    replace HI := Lib.hid (stays HI.out hHeld)
    replace HR := Lib.hid (stays HR.out hHeld)
    replace HB := Lib.hid (below_on HB.out hHeld)
    clear hHeld
    obtain ⟨n0, n1, n18, n19⟩ := flds HN.out
    obtain ⟨i0, i1, i2⟩ := item HI.out
    go_wp2_with (first
      | ((with_reducible refine stt (z := z) HN.out ?hx ?hy ?_); (case hx => rfl); (case hy => rfl); intro w5 h5 M5; replace HI := Lib.hid (M5.other N23.out HI.out); replace HN := Lib.hid h5; replace HR := Lib.hid (M5.other N13.out HR.out); replace HB := Lib.hid (M5.below HB.out L3.out); clear n0 n1 n18 n19 i0 i1 i2 h5 M5; obtain ⟨i0, i1, i2⟩ := item HI.out; obtain ⟨n0, n1, n18, n19⟩ := flds HN.out)
      | ((with_reducible refine ldm isR HN.out ?hx ?_); (case hx => rfl))
      | ((with_reducible refine stm (m := ⟨7, c, Pn.zero, Msc.zero, z, no⟩) isR HR.out ?hx ?hy ?_); (case hx => rfl); (case hy => rfl); intro w9 h9 M9; replace HR := Lib.hid h9; replace HB := Lib.hid (M9.below HB.out L1.out); clear h9 M9))
    exact bodyPost_ret (rget_results _ _ b1 _ _ _ _ HR.out rfl rfl rfl) rfl ⟨rfl, HB.out⟩
  · rw [if_pos (by rfl)]
    refine wp_al zeroR ?_
    intro b3 u3 h3 F3
    have Lb3 := F3.le hHeld
    refine hK.out _ _ (F3.on hHeld) (fun hNext => ?_)
    clear hK K
    replace hHeld := hNext
    clear hNext
    (try simp only [Act.put, List.setIfInBounds_toArray, List.set_cons_zero, List.set_cons_succ])
    clear F3
    refine wpAnyH_ready (rs := [2]) (by kernel_rfl) (by simp) ?_
    refine AllReadyH.cons (o := { dst := some 21, op := Go.Op.call { callee := Go.Callee.value (Go.Operand.func 27), args := #[Go.Operand.tmp 20], argTypes := #[5] }, type := 5, pos := "ref.go:91", after := #[{ on := 1, ground := Go.Ground.data }], guard := none }) rfl (fun K hK => ?_) AllReadyH.nil
    go_simp
    (with_reducible refine (CKh.out _).mono ?_)
    rintro e wc ⟨rfl, hb⟩
    go_wp2_with fail
    replace h3 := stays h3 hb
    refine hK.out _ _ (below_on hHeld hb) (fun hNext => ?_)
    clear hK K
    replace hHeld := hNext
    clear hNext
    (try simp only [Act.put, List.setIfInBounds_toArray, List.set_cons_zero, List.set_cons_succ])
    clear hb
    refine' wpAnyH_take (i := 5) (oi := { dst := some 24, op := Go.Op.build 36 #[(0, Go.Operand.tmp 21), (1, Go.Operand.tmp 23)], type := 36, pos := "ref.go:91", after := #[{ on := 2, ground := Go.Ground.data }, { on := 4, ground := Go.Ground.data }], guard := none }) (v := _) rfl (by kernel_rfl) (by kernel_rfl) (by kernel_rfl) (fun _ _ _ h => h) (Or.inl ⟨by rfl, ?hy36⟩) (by assumption) ?hr36
    case hy36 => (intro _ hSw; (try dsimp only at hSw); refine ex_bd ⟨7, c, Pn.zero, Msc.zero, 0, no⟩ ?_; kernel_rfl)
    simp only [Act.put, List.setIfInBounds_toArray, List.set_cons_zero, List.set_cons_succ]
    refine wpAnyH_ready (rs := [7]) (by kernel_rfl) (by simp) ?_
    refine AllReadyH.cons (o := { dst := none, op := Go.Op.store 36 (Go.Operand.tmp 8) (Go.Operand.tmp 24), type := 0, pos := "ref.go:91", after := #[{ on := 6, ground := Go.Ground.data }, { on := 5, ground := Go.Ground.data }, { on := 2, ground := Go.Ground.chain }, { on := 0, ground := Go.Ground.phase }, { on := 1, ground := Go.Ground.phase }, { on := 2, ground := Go.Ground.phase }, { on := 3, ground := Go.Ground.phase }, { on := 4, ground := Go.Ground.phase }, { on := 5, ground := Go.Ground.phase }, { on := 6, ground := Go.Ground.phase }], guard := none }) rfl (fun K hK => ?_) AllReadyH.nil
    rw [if_pos (by rfl)]
    refine wp_row (cs := mc ⟨7, c, Pn.zero, Msc.zero, 0, no⟩) isR h3 rfl rfl (one_all _) rfl rfl ?_
    intro u4 h4 M4
    refine hK.out _ _ (M4.below hHeld Lb3) (fun hNext => ?_)
    clear hK K
    replace hHeld := hNext
    clear hNext
    (try simp only [Act.put])
    clear M4 h3
    refine wpAnyH_done (by kernel_rfl) ?_ _
    have N13 : Hid (b1 ≠ b3) := Lib.hid (by have := lt_heap HR.out; omega)
    have N23 : Hid (b2 ≠ b3) := Lib.hid (by have := lt_heap HI.out; omega)
    have HN := Lib.hid h4
    have L3 : Hid (w.heap.size ≤ b3) := Lib.hid (by have := HB.out.size; omega)
    clear h4 Lb3
    replace HI := Lib.hid (stays HI.out hHeld)
    replace HR := Lib.hid (stays HR.out hHeld)
    replace HB := Lib.hid (below_on HB.out hHeld)
    clear hHeld
    obtain ⟨n0, n1, n18, n19⟩ := flds HN.out
    obtain ⟨i0, i1, i2⟩ := item HI.out
    go_wp2_with (first
      | ((with_reducible refine stt (z := z) HN.out ?hx ?hy ?_); (case hx => rfl); (case hy => rfl); intro w5 h5 M5; replace HI := Lib.hid (M5.other N23.out HI.out); replace HN := Lib.hid h5; replace HR := Lib.hid (M5.other N13.out HR.out); replace HB := Lib.hid (M5.below HB.out L3.out); clear n0 n1 n18 n19 i0 i1 i2 h5 M5; obtain ⟨i0, i1, i2⟩ := item HI.out; obtain ⟨n0, n1, n18, n19⟩ := flds HN.out)
      | ((with_reducible refine ldm isR HN.out ?hx ?_); (case hx => rfl))
      | ((with_reducible refine stm (m := ⟨7, c, Pn.zero, Msc.zero, z, no⟩) isR HR.out ?hx ?hy ?_); (case hx => rfl); (case hy => rfl); intro w9 h9 M9; replace HR := Lib.hid h9; replace HB := Lib.hid (M9.below HB.out L1.out); clear h9 M9))
    exact bodyPost_ret (rget_results _ _ b1 _ _ _ _ HR.out rfl rfl rfl) rfl ⟨rfl, HB.out⟩
set_option maxHeartbeats 800000 in
theorem rget_7no (s v : ByteArray) (k n : Nat) (c : Bool) (hz : ((v.size : Int) == 1) = false) (CG : ∀ w, Calls Tryd.prog 30 #[.string s] w fun e w' => e = .returned (.tuple #[.agg #[.int .u8 (k : Int), .bool c, .string v], .int .i64 (n : Int), .int .i64 0]) ∧ Below w.heap.size w w') (CK : ∀ w, Calls Tryd.prog 27 #[.int .u8 (k : Int)] w fun e w' => e = .returned (.int .u8 7) ∧ Below w.heap.size w w') (w : World) :
    Calls Tryd.prog 16 #[.string s] w fun e w' => e = .returned (.tuple #[mv zero, .int .i64 0, .int .i64 70]) ∧ Below w.heap.size w w' := by
  have CGh := Lib.hid CG
  have CKh := Lib.hid CK
  clear CG CK
  go_enter Tryd.func16, Tryd.ntmps16
  go_wp2_with (first
    | ((with_reducible refine alm zeroR ?_); intro b1 w1 h1 F1; have HR := Lib.hid h1; have L1 := Lib.hid (Nat.le_of_eq F1.eq.symm); have HB := Lib.hid F1.below; clear h1 F1)
    | (go_at_call 30; ((with_reducible refine (CGh.out _).mono ?_); rintro e w2 ⟨rfl, hb⟩; replace HR := Lib.hid (stays HR.out hb); replace HB := Lib.hid (below_on HB.out hb); clear hb))
    | ((with_reducible refine alr zeroI ?_); intro b2 w3 h3 F3; have N12 := Lib.hid (F3.ne HR.out); replace HR := Lib.hid (F3.stays HR.out); have L2 := Lib.hid (F3.le HB.out); replace HB := Lib.hid (F3.on HB.out); have HI0 := Lib.hid h3; clear h3 F3)
    | ((with_reducible refine str #[.int .u8 (k : Int), .bool c, .string v] isI HI0.out ?h0 ?h1 ?hc ?hx ?hy ?_); (case h0 => rfl); (case h1 => rfl); (case hc => (simp [Value.oneCell'])); (case hx => rfl); (case hy => rfl); intro wx h4 M4; have HI := Lib.hid h4; replace HR := Lib.hid (M4.other N12.out HR.out); replace HB := Lib.hid (M4.below HB.out L2.out); clear h4 M4 HI0))
  refine wp_region_held_drew (S := fun w' => Below wx.heap.size wx w') (by kernel_rfl) (Below.refl _ _).drew (fun hHeld => ?_)
  refine' wpAnyH_take (i := 0) (oi := { dst := some 19, op := Go.Op.fieldAddr 69 (Go.Operand.tmp 5) 0, type := 0, pos := "ref.go:91", after := #[], guard := none }) (v := _) rfl (by kernel_rfl) (by kernel_rfl) (by kernel_rfl) (fun _ _ _ h => h) (Or.inl ⟨by rfl, ?hy37⟩) (by assumption) ?hr37
  case hy37 => (intro _ hSw; (try dsimp only at hSw); go_simp <;> with_reducible rfl)
  simp only [Act.put, List.setIfInBounds_toArray, List.set_cons_zero, List.set_cons_succ]
  refine' wpAnyH_take (i := 1) (oi := { dst := some 20, op := Go.Op.load 5 (Go.Operand.tmp 19), type := 5, pos := "ref.go:91", after := #[{ on := 0, ground := Go.Ground.data }], guard := none }) (v := _) rfl (by kernel_rfl) (by kernel_rfl) (by kernel_rfl) (fun _ _ _ h => h) (Or.inl ⟨by rfl, ?hy38⟩) (by assumption) ?hr38
  case hy38 => (intro _ hSw; (try dsimp only at hSw); obtain ⟨i0, i1, i2⟩ := item (stays HI.out hSw); go_simp <;> with_reducible rfl)
  simp only [Act.put, List.setIfInBounds_toArray, List.set_cons_zero, List.set_cons_succ]
  refine' wpAnyH_take (i := 3) (oi := { dst := some 22, op := Go.Op.fieldAddr 69 (Go.Operand.tmp 5) 1, type := 0, pos := "ref.go:91", after := #[], guard := none }) (v := _) rfl (by kernel_rfl) (by kernel_rfl) (by kernel_rfl) (fun _ _ _ h => h) (Or.inl ⟨by rfl, ?hy39⟩) (by assumption) ?hr39
  case hy39 => (intro _ hSw; (try dsimp only at hSw); go_simp <;> with_reducible rfl)
  simp only [Act.put, List.setIfInBounds_toArray, List.set_cons_zero, List.set_cons_succ]
  refine' wpAnyH_take (i := 4) (oi := { dst := some 23, op := Go.Op.load 4 (Go.Operand.tmp 22), type := 4, pos := "ref.go:91", after := #[{ on := 3, ground := Go.Ground.data }], guard := none }) (v := _) rfl (by kernel_rfl) (by kernel_rfl) (by kernel_rfl) (fun _ _ _ h => h) (Or.inl ⟨by rfl, ?hy40⟩) (by assumption) ?hr40
  case hy40 => (intro _ hSw; (try dsimp only at hSw); obtain ⟨i0, i1, i2⟩ := item (stays HI.out hSw); go_simp <;> with_reducible rfl)
  simp only [Act.put, List.setIfInBounds_toArray, List.set_cons_zero, List.set_cons_succ]
  refine wpAnyH_ready (rs := [2, 6]) (by kernel_rfl) (by simp) ?_
  refine AllReadyH.cons (o := { dst := some 21, op := Go.Op.call { callee := Go.Callee.value (Go.Operand.func 27), args := #[Go.Operand.tmp 20], argTypes := #[5] }, type := 5, pos := "ref.go:91", after := #[{ on := 1, ground := Go.Ground.data }], guard := none }) rfl (fun K hK => ?_) (AllReadyH.cons (o := { dst := some 8, op := Go.Op.alloc 36, type := 0, pos := "ref.go:91", after := #[], guard := none }) rfl (fun K hK => ?_) AllReadyH.nil)
  · go_simp
    (with_reducible refine (CKh.out _).mono ?_)
    rintro e wc ⟨rfl, hb⟩
    go_wp2_with fail
    refine hK.out _ _ (below_on hHeld hb) (fun hNext => ?_)
    clear hK K
    replace hHeld := hNext
    clear hNext
    (try simp only [Act.put, List.setIfInBounds_toArray, List.set_cons_zero, List.set_cons_succ])
    clear hb
    refine' wpAnyH_take (i := 5) (oi := { dst := some 24, op := Go.Op.build 36 #[(0, Go.Operand.tmp 21), (1, Go.Operand.tmp 23)], type := 36, pos := "ref.go:91", after := #[{ on := 2, ground := Go.Ground.data }, { on := 4, ground := Go.Ground.data }], guard := none }) (v := _) rfl (by kernel_rfl) (by kernel_rfl) (by kernel_rfl) (fun _ _ _ h => h) (Or.inl ⟨by rfl, ?hy41⟩) (by assumption) ?hr41
    case hy41 => (intro _ hSw; (try dsimp only at hSw); refine ex_bd ⟨7, c, Pn.zero, Msc.zero, 0, no⟩ ?_; kernel_rfl)
    simp only [Act.put, List.setIfInBounds_toArray, List.set_cons_zero, List.set_cons_succ]
    refine wpAnyH_ready (rs := [6]) (by kernel_rfl) (by simp) ?_
    refine AllReadyH.cons (o := { dst := some 8, op := Go.Op.alloc 36, type := 0, pos := "ref.go:91", after := #[], guard := none }) rfl (fun K hK => ?_) AllReadyH.nil
    rw [if_pos (by rfl)]
    refine wp_al zeroR ?_
    intro b3 u3 h3 F3
    have Lb3 := F3.le hHeld
    refine hK.out _ _ (F3.on hHeld) (fun hNext => ?_)
    clear hK K
    replace hHeld := hNext
    clear hNext
    (try simp only [Act.put, List.setIfInBounds_toArray, List.set_cons_zero, List.set_cons_succ])
    clear F3
    refine wpAnyH_ready (rs := [7]) (by kernel_rfl) (by simp) ?_
    refine AllReadyH.cons (o := { dst := none, op := Go.Op.store 36 (Go.Operand.tmp 8) (Go.Operand.tmp 24), type := 0, pos := "ref.go:91", after := #[{ on := 6, ground := Go.Ground.data }, { on := 5, ground := Go.Ground.data }, { on := 2, ground := Go.Ground.chain }, { on := 0, ground := Go.Ground.phase }, { on := 1, ground := Go.Ground.phase }, { on := 2, ground := Go.Ground.phase }, { on := 3, ground := Go.Ground.phase }, { on := 4, ground := Go.Ground.phase }, { on := 5, ground := Go.Ground.phase }, { on := 6, ground := Go.Ground.phase }], guard := none }) rfl (fun K hK => ?_) AllReadyH.nil
    rw [if_pos (by rfl)]
    refine wp_row (cs := mc ⟨7, c, Pn.zero, Msc.zero, 0, no⟩) isR h3 rfl rfl (one_all _) rfl rfl ?_
    intro u4 h4 M4
    refine hK.out _ _ (M4.below hHeld Lb3) (fun hNext => ?_)
    clear hK K
    replace hHeld := hNext
    clear hNext
    (try simp only [Act.put])
    clear M4 h3
    refine wpAnyH_done (by kernel_rfl) ?_ _
    have N13 : Hid (b1 ≠ b3) := Lib.hid (by have := lt_heap HR.out; omega)
    have N23 : Hid (b2 ≠ b3) := Lib.hid (by have := lt_heap HI.out; omega)
    have HN := Lib.hid h4
    have L3 : Hid (w.heap.size ≤ b3) := Lib.hid (by have := HB.out.size; omega)
    clear h4 Lb3
    replace HI := Lib.hid (stays HI.out hHeld)
    replace HR := Lib.hid (stays HR.out hHeld)
    replace HB := Lib.hid (below_on HB.out hHeld)
    clear hHeld
    obtain ⟨n0, n1, n18, n19⟩ := flds HN.out
    obtain ⟨i0, i1, i2⟩ := item HI.out
    go_wp2_with (first
      | ((with_reducible refine bdm (T := 36) (parts := #[]) zero ?hb ?_); (case hb => kernel_rfl))
      | ((with_reducible refine stm (m := zero) isR HR.out ?hx ?hy ?_); (case hx => rfl); (case hy => rfl); intro w9 h9 M9; replace HR := Lib.hid h9; replace HB := Lib.hid (M9.below HB.out L1.out); clear h9 M9))
    exact bodyPost_ret (rget_results _ _ b1 _ _ _ _ HR.out rfl rfl rfl) rfl ⟨rfl, HB.out⟩
  · rw [if_pos (by rfl)]
    refine wp_al zeroR ?_
    intro b3 u3 h3 F3
    have Lb3 := F3.le hHeld
    refine hK.out _ _ (F3.on hHeld) (fun hNext => ?_)
    clear hK K
    replace hHeld := hNext
    clear hNext
    (try simp only [Act.put, List.setIfInBounds_toArray, List.set_cons_zero, List.set_cons_succ])
    clear F3
    refine wpAnyH_ready (rs := [2]) (by kernel_rfl) (by simp) ?_
    refine AllReadyH.cons (o := { dst := some 21, op := Go.Op.call { callee := Go.Callee.value (Go.Operand.func 27), args := #[Go.Operand.tmp 20], argTypes := #[5] }, type := 5, pos := "ref.go:91", after := #[{ on := 1, ground := Go.Ground.data }], guard := none }) rfl (fun K hK => ?_) AllReadyH.nil
    go_simp
    (with_reducible refine (CKh.out _).mono ?_)
    rintro e wc ⟨rfl, hb⟩
    go_wp2_with fail
    replace h3 := stays h3 hb
    refine hK.out _ _ (below_on hHeld hb) (fun hNext => ?_)
    clear hK K
    replace hHeld := hNext
    clear hNext
    (try simp only [Act.put, List.setIfInBounds_toArray, List.set_cons_zero, List.set_cons_succ])
    clear hb
    refine' wpAnyH_take (i := 5) (oi := { dst := some 24, op := Go.Op.build 36 #[(0, Go.Operand.tmp 21), (1, Go.Operand.tmp 23)], type := 36, pos := "ref.go:91", after := #[{ on := 2, ground := Go.Ground.data }, { on := 4, ground := Go.Ground.data }], guard := none }) (v := _) rfl (by kernel_rfl) (by kernel_rfl) (by kernel_rfl) (fun _ _ _ h => h) (Or.inl ⟨by rfl, ?hy42⟩) (by assumption) ?hr42
    case hy42 => (intro _ hSw; (try dsimp only at hSw); refine ex_bd ⟨7, c, Pn.zero, Msc.zero, 0, no⟩ ?_; kernel_rfl)
    simp only [Act.put, List.setIfInBounds_toArray, List.set_cons_zero, List.set_cons_succ]
    refine wpAnyH_ready (rs := [7]) (by kernel_rfl) (by simp) ?_
    refine AllReadyH.cons (o := { dst := none, op := Go.Op.store 36 (Go.Operand.tmp 8) (Go.Operand.tmp 24), type := 0, pos := "ref.go:91", after := #[{ on := 6, ground := Go.Ground.data }, { on := 5, ground := Go.Ground.data }, { on := 2, ground := Go.Ground.chain }, { on := 0, ground := Go.Ground.phase }, { on := 1, ground := Go.Ground.phase }, { on := 2, ground := Go.Ground.phase }, { on := 3, ground := Go.Ground.phase }, { on := 4, ground := Go.Ground.phase }, { on := 5, ground := Go.Ground.phase }, { on := 6, ground := Go.Ground.phase }], guard := none }) rfl (fun K hK => ?_) AllReadyH.nil
    rw [if_pos (by rfl)]
    refine wp_row (cs := mc ⟨7, c, Pn.zero, Msc.zero, 0, no⟩) isR h3 rfl rfl (one_all _) rfl rfl ?_
    intro u4 h4 M4
    refine hK.out _ _ (M4.below hHeld Lb3) (fun hNext => ?_)
    clear hK K
    replace hHeld := hNext
    clear hNext
    (try simp only [Act.put])
    clear M4 h3
    refine wpAnyH_done (by kernel_rfl) ?_ _
    have N13 : Hid (b1 ≠ b3) := Lib.hid (by have := lt_heap HR.out; omega)
    have N23 : Hid (b2 ≠ b3) := Lib.hid (by have := lt_heap HI.out; omega)
    have HN := Lib.hid h4
    have L3 : Hid (w.heap.size ≤ b3) := Lib.hid (by have := HB.out.size; omega)
    clear h4 Lb3
    replace HI := Lib.hid (stays HI.out hHeld)
    replace HR := Lib.hid (stays HR.out hHeld)
    replace HB := Lib.hid (below_on HB.out hHeld)
    clear hHeld
    obtain ⟨n0, n1, n18, n19⟩ := flds HN.out
    obtain ⟨i0, i1, i2⟩ := item HI.out
    go_wp2_with (first
      | ((with_reducible refine bdm (T := 36) (parts := #[]) zero ?hb ?_); (case hb => kernel_rfl))
      | ((with_reducible refine stm (m := zero) isR HR.out ?hx ?hy ?_); (case hx => rfl); (case hy => rfl); intro w9 h9 M9; replace HR := Lib.hid h9; replace HB := Lib.hid (M9.below HB.out L1.out); clear h9 M9))
    exact bodyPost_ret (rget_results _ _ b1 _ _ _ _ HR.out rfl rfl rfl) rfl ⟨rfl, HB.out⟩
set_option maxHeartbeats 800000 in
theorem rget_8 (s v : ByteArray) (k n : Nat) (c : Bool) (CG : ∀ w, Calls Tryd.prog 30 #[.string s] w fun e w' => e = .returned (.tuple #[.agg #[.int .u8 (k : Int), .bool c, .string v], .int .i64 (n : Int), .int .i64 0]) ∧ Below w.heap.size w w') (CK : ∀ w, Calls Tryd.prog 27 #[.int .u8 (k : Int)] w fun e w' => e = .returned (.int .u8 8) ∧ Below w.heap.size w w') (w : World) :
    Calls Tryd.prog 16 #[.string s] w fun e w' => e = .returned (.tuple #[mv ⟨8, c, Pn.zero, Msc.zero, k, v⟩, .int .i64 (n : Int), .int .i64 0]) ∧ Below w.heap.size w w' := by
  have CGh := Lib.hid CG
  have CKh := Lib.hid CK
  clear CG CK
  go_enter Tryd.func16, Tryd.ntmps16
  go_wp2_with (first
    | ((with_reducible refine alm zeroR ?_); intro b1 w1 h1 F1; have HR := Lib.hid h1; have L1 := Lib.hid (Nat.le_of_eq F1.eq.symm); have HB := Lib.hid F1.below; clear h1 F1)
    | (go_at_call 30; ((with_reducible refine (CGh.out _).mono ?_); rintro e w2 ⟨rfl, hb⟩; replace HR := Lib.hid (stays HR.out hb); replace HB := Lib.hid (below_on HB.out hb); clear hb))
    | ((with_reducible refine alr zeroI ?_); intro b2 w3 h3 F3; have N12 := Lib.hid (F3.ne HR.out); replace HR := Lib.hid (F3.stays HR.out); have L2 := Lib.hid (F3.le HB.out); replace HB := Lib.hid (F3.on HB.out); have HI0 := Lib.hid h3; clear h3 F3)
    | ((with_reducible refine str #[.int .u8 (k : Int), .bool c, .string v] isI HI0.out ?h0 ?h1 ?hc ?hx ?hy ?_); (case h0 => rfl); (case h1 => rfl); (case hc => (simp [Value.oneCell'])); (case hx => rfl); (case hy => rfl); intro wx h4 M4; have HI := Lib.hid h4; replace HR := Lib.hid (M4.other N12.out HR.out); replace HB := Lib.hid (M4.below HB.out L2.out); clear h4 M4 HI0))
  refine wp_region_held_drew (S := fun w' => Below wx.heap.size wx w') (by kernel_rfl) (Below.refl _ _).drew (fun hHeld => ?_)
  refine' wpAnyH_take (i := 0) (oi := { dst := some 19, op := Go.Op.fieldAddr 69 (Go.Operand.tmp 5) 0, type := 0, pos := "ref.go:91", after := #[], guard := none }) (v := _) rfl (by kernel_rfl) (by kernel_rfl) (by kernel_rfl) (fun _ _ _ h => h) (Or.inl ⟨by rfl, ?hy43⟩) (by assumption) ?hr43
  case hy43 => (intro _ hSw; (try dsimp only at hSw); go_simp <;> with_reducible rfl)
  simp only [Act.put, List.setIfInBounds_toArray, List.set_cons_zero, List.set_cons_succ]
  refine' wpAnyH_take (i := 1) (oi := { dst := some 20, op := Go.Op.load 5 (Go.Operand.tmp 19), type := 5, pos := "ref.go:91", after := #[{ on := 0, ground := Go.Ground.data }], guard := none }) (v := _) rfl (by kernel_rfl) (by kernel_rfl) (by kernel_rfl) (fun _ _ _ h => h) (Or.inl ⟨by rfl, ?hy44⟩) (by assumption) ?hr44
  case hy44 => (intro _ hSw; (try dsimp only at hSw); obtain ⟨i0, i1, i2⟩ := item (stays HI.out hSw); go_simp <;> with_reducible rfl)
  simp only [Act.put, List.setIfInBounds_toArray, List.set_cons_zero, List.set_cons_succ]
  refine' wpAnyH_take (i := 3) (oi := { dst := some 22, op := Go.Op.fieldAddr 69 (Go.Operand.tmp 5) 1, type := 0, pos := "ref.go:91", after := #[], guard := none }) (v := _) rfl (by kernel_rfl) (by kernel_rfl) (by kernel_rfl) (fun _ _ _ h => h) (Or.inl ⟨by rfl, ?hy45⟩) (by assumption) ?hr45
  case hy45 => (intro _ hSw; (try dsimp only at hSw); go_simp <;> with_reducible rfl)
  simp only [Act.put, List.setIfInBounds_toArray, List.set_cons_zero, List.set_cons_succ]
  refine' wpAnyH_take (i := 4) (oi := { dst := some 23, op := Go.Op.load 4 (Go.Operand.tmp 22), type := 4, pos := "ref.go:91", after := #[{ on := 3, ground := Go.Ground.data }], guard := none }) (v := _) rfl (by kernel_rfl) (by kernel_rfl) (by kernel_rfl) (fun _ _ _ h => h) (Or.inl ⟨by rfl, ?hy46⟩) (by assumption) ?hr46
  case hy46 => (intro _ hSw; (try dsimp only at hSw); obtain ⟨i0, i1, i2⟩ := item (stays HI.out hSw); go_simp <;> with_reducible rfl)
  simp only [Act.put, List.setIfInBounds_toArray, List.set_cons_zero, List.set_cons_succ]
  refine wpAnyH_ready (rs := [2, 6]) (by kernel_rfl) (by simp) ?_
  refine AllReadyH.cons (o := { dst := some 21, op := Go.Op.call { callee := Go.Callee.value (Go.Operand.func 27), args := #[Go.Operand.tmp 20], argTypes := #[5] }, type := 5, pos := "ref.go:91", after := #[{ on := 1, ground := Go.Ground.data }], guard := none }) rfl (fun K hK => ?_) (AllReadyH.cons (o := { dst := some 8, op := Go.Op.alloc 36, type := 0, pos := "ref.go:91", after := #[], guard := none }) rfl (fun K hK => ?_) AllReadyH.nil)
  · go_simp
    (with_reducible refine (CKh.out _).mono ?_)
    rintro e wc ⟨rfl, hb⟩
    go_wp2_with fail
    refine hK.out _ _ (below_on hHeld hb) (fun hNext => ?_)
    clear hK K
    replace hHeld := hNext
    clear hNext
    (try simp only [Act.put, List.setIfInBounds_toArray, List.set_cons_zero, List.set_cons_succ])
    clear hb
    refine' wpAnyH_take (i := 5) (oi := { dst := some 24, op := Go.Op.build 36 #[(0, Go.Operand.tmp 21), (1, Go.Operand.tmp 23)], type := 36, pos := "ref.go:91", after := #[{ on := 2, ground := Go.Ground.data }, { on := 4, ground := Go.Ground.data }], guard := none }) (v := _) rfl (by kernel_rfl) (by kernel_rfl) (by kernel_rfl) (fun _ _ _ h => h) (Or.inl ⟨by rfl, ?hy47⟩) (by assumption) ?hr47
    case hy47 => (intro _ hSw; (try dsimp only at hSw); refine ex_bd ⟨8, c, Pn.zero, Msc.zero, 0, no⟩ ?_; kernel_rfl)
    simp only [Act.put, List.setIfInBounds_toArray, List.set_cons_zero, List.set_cons_succ]
    refine wpAnyH_ready (rs := [6]) (by kernel_rfl) (by simp) ?_
    refine AllReadyH.cons (o := { dst := some 8, op := Go.Op.alloc 36, type := 0, pos := "ref.go:91", after := #[], guard := none }) rfl (fun K hK => ?_) AllReadyH.nil
    rw [if_pos (by rfl)]
    refine wp_al zeroR ?_
    intro b3 u3 h3 F3
    have Lb3 := F3.le hHeld
    refine hK.out _ _ (F3.on hHeld) (fun hNext => ?_)
    clear hK K
    replace hHeld := hNext
    clear hNext
    (try simp only [Act.put, List.setIfInBounds_toArray, List.set_cons_zero, List.set_cons_succ])
    clear F3
    refine wpAnyH_ready (rs := [7]) (by kernel_rfl) (by simp) ?_
    refine AllReadyH.cons (o := { dst := none, op := Go.Op.store 36 (Go.Operand.tmp 8) (Go.Operand.tmp 24), type := 0, pos := "ref.go:91", after := #[{ on := 6, ground := Go.Ground.data }, { on := 5, ground := Go.Ground.data }, { on := 2, ground := Go.Ground.chain }, { on := 0, ground := Go.Ground.phase }, { on := 1, ground := Go.Ground.phase }, { on := 2, ground := Go.Ground.phase }, { on := 3, ground := Go.Ground.phase }, { on := 4, ground := Go.Ground.phase }, { on := 5, ground := Go.Ground.phase }, { on := 6, ground := Go.Ground.phase }], guard := none }) rfl (fun K hK => ?_) AllReadyH.nil
    rw [if_pos (by rfl)]
    refine wp_row (cs := mc ⟨8, c, Pn.zero, Msc.zero, 0, no⟩) isR h3 rfl rfl (one_all _) rfl rfl ?_
    intro u4 h4 M4
    refine hK.out _ _ (M4.below hHeld Lb3) (fun hNext => ?_)
    clear hK K
    replace hHeld := hNext
    clear hNext
    (try simp only [Act.put])
    clear M4 h3
    refine wpAnyH_done (by kernel_rfl) ?_ _
    have N13 : Hid (b1 ≠ b3) := Lib.hid (by have := lt_heap HR.out; omega)
    have N23 : Hid (b2 ≠ b3) := Lib.hid (by have := lt_heap HI.out; omega)
    have HN := Lib.hid h4
    have L3 : Hid (w.heap.size ≤ b3) := Lib.hid (by have := HB.out.size; omega)
    clear h4 Lb3
    replace HI := Lib.hid (stays HI.out hHeld)
    replace HR := Lib.hid (stays HR.out hHeld)
    replace HB := Lib.hid (below_on HB.out hHeld)
    clear hHeld
    obtain ⟨n0, n1, n18, n19⟩ := flds HN.out
    obtain ⟨i0, i1, i2⟩ := item HI.out
    go_wp2_with (first
      | ((with_reducible refine stt (z := k) HN.out ?hx ?hy ?_); (case hx => rfl); (case hy => rfl); intro w5 h5 M5; replace HI := Lib.hid (M5.other N23.out HI.out); replace HN := Lib.hid h5; replace HR := Lib.hid (M5.other N13.out HR.out); replace HB := Lib.hid (M5.below HB.out L3.out); clear n0 n1 n18 n19 i0 i1 i2 h5 M5; obtain ⟨i0, i1, i2⟩ := item HI.out; obtain ⟨n0, n1, n18, n19⟩ := flds HN.out)
      | ((with_reducible refine stb (z := v) HN.out ?hx ?hy ?_); (case hx => rfl); (case hy => rfl); intro w6 h6 M6; replace HI := Lib.hid (M6.other N23.out HI.out); replace HN := Lib.hid h6; replace HR := Lib.hid (M6.other N13.out HR.out); replace HB := Lib.hid (M6.below HB.out L3.out); clear n0 n1 n18 n19 i0 i1 i2 h6 M6; obtain ⟨i0, i1, i2⟩ := item HI.out)
      | ((with_reducible refine ldm isR HN.out ?hx ?_); (case hx => rfl))
      | ((with_reducible refine stm (m := ⟨8, c, Pn.zero, Msc.zero, k, v⟩) isR HR.out ?hx ?hy ?_); (case hx => rfl); (case hy => rfl); intro w9 h9 M9; replace HR := Lib.hid h9; replace HB := Lib.hid (M9.below HB.out L1.out); clear h9 M9))
    exact bodyPost_ret (rget_results _ _ b1 _ _ _ _ HR.out rfl rfl rfl) rfl ⟨rfl, HB.out⟩
  · rw [if_pos (by rfl)]
    refine wp_al zeroR ?_
    intro b3 u3 h3 F3
    have Lb3 := F3.le hHeld
    refine hK.out _ _ (F3.on hHeld) (fun hNext => ?_)
    clear hK K
    replace hHeld := hNext
    clear hNext
    (try simp only [Act.put, List.setIfInBounds_toArray, List.set_cons_zero, List.set_cons_succ])
    clear F3
    refine wpAnyH_ready (rs := [2]) (by kernel_rfl) (by simp) ?_
    refine AllReadyH.cons (o := { dst := some 21, op := Go.Op.call { callee := Go.Callee.value (Go.Operand.func 27), args := #[Go.Operand.tmp 20], argTypes := #[5] }, type := 5, pos := "ref.go:91", after := #[{ on := 1, ground := Go.Ground.data }], guard := none }) rfl (fun K hK => ?_) AllReadyH.nil
    go_simp
    (with_reducible refine (CKh.out _).mono ?_)
    rintro e wc ⟨rfl, hb⟩
    go_wp2_with fail
    replace h3 := stays h3 hb
    refine hK.out _ _ (below_on hHeld hb) (fun hNext => ?_)
    clear hK K
    replace hHeld := hNext
    clear hNext
    (try simp only [Act.put, List.setIfInBounds_toArray, List.set_cons_zero, List.set_cons_succ])
    clear hb
    refine' wpAnyH_take (i := 5) (oi := { dst := some 24, op := Go.Op.build 36 #[(0, Go.Operand.tmp 21), (1, Go.Operand.tmp 23)], type := 36, pos := "ref.go:91", after := #[{ on := 2, ground := Go.Ground.data }, { on := 4, ground := Go.Ground.data }], guard := none }) (v := _) rfl (by kernel_rfl) (by kernel_rfl) (by kernel_rfl) (fun _ _ _ h => h) (Or.inl ⟨by rfl, ?hy48⟩) (by assumption) ?hr48
    case hy48 => (intro _ hSw; (try dsimp only at hSw); refine ex_bd ⟨8, c, Pn.zero, Msc.zero, 0, no⟩ ?_; kernel_rfl)
    simp only [Act.put, List.setIfInBounds_toArray, List.set_cons_zero, List.set_cons_succ]
    refine wpAnyH_ready (rs := [7]) (by kernel_rfl) (by simp) ?_
    refine AllReadyH.cons (o := { dst := none, op := Go.Op.store 36 (Go.Operand.tmp 8) (Go.Operand.tmp 24), type := 0, pos := "ref.go:91", after := #[{ on := 6, ground := Go.Ground.data }, { on := 5, ground := Go.Ground.data }, { on := 2, ground := Go.Ground.chain }, { on := 0, ground := Go.Ground.phase }, { on := 1, ground := Go.Ground.phase }, { on := 2, ground := Go.Ground.phase }, { on := 3, ground := Go.Ground.phase }, { on := 4, ground := Go.Ground.phase }, { on := 5, ground := Go.Ground.phase }, { on := 6, ground := Go.Ground.phase }], guard := none }) rfl (fun K hK => ?_) AllReadyH.nil
    rw [if_pos (by rfl)]
    refine wp_row (cs := mc ⟨8, c, Pn.zero, Msc.zero, 0, no⟩) isR h3 rfl rfl (one_all _) rfl rfl ?_
    intro u4 h4 M4
    refine hK.out _ _ (M4.below hHeld Lb3) (fun hNext => ?_)
    clear hK K
    replace hHeld := hNext
    clear hNext
    (try simp only [Act.put])
    clear M4 h3
    refine wpAnyH_done (by kernel_rfl) ?_ _
    have N13 : Hid (b1 ≠ b3) := Lib.hid (by have := lt_heap HR.out; omega)
    have N23 : Hid (b2 ≠ b3) := Lib.hid (by have := lt_heap HI.out; omega)
    have HN := Lib.hid h4
    have L3 : Hid (w.heap.size ≤ b3) := Lib.hid (by have := HB.out.size; omega)
    clear h4 Lb3
    replace HI := Lib.hid (stays HI.out hHeld)
    replace HR := Lib.hid (stays HR.out hHeld)
    replace HB := Lib.hid (below_on HB.out hHeld)
    clear hHeld
    obtain ⟨n0, n1, n18, n19⟩ := flds HN.out
    obtain ⟨i0, i1, i2⟩ := item HI.out
    go_wp2_with (first
      | ((with_reducible refine stt (z := k) HN.out ?hx ?hy ?_); (case hx => rfl); (case hy => rfl); intro w5 h5 M5; replace HI := Lib.hid (M5.other N23.out HI.out); replace HN := Lib.hid h5; replace HR := Lib.hid (M5.other N13.out HR.out); replace HB := Lib.hid (M5.below HB.out L3.out); clear n0 n1 n18 n19 i0 i1 i2 h5 M5; obtain ⟨i0, i1, i2⟩ := item HI.out; obtain ⟨n0, n1, n18, n19⟩ := flds HN.out)
      | ((with_reducible refine stb (z := v) HN.out ?hx ?hy ?_); (case hx => rfl); (case hy => rfl); intro w6 h6 M6; replace HI := Lib.hid (M6.other N23.out HI.out); replace HN := Lib.hid h6; replace HR := Lib.hid (M6.other N13.out HR.out); replace HB := Lib.hid (M6.below HB.out L3.out); clear n0 n1 n18 n19 i0 i1 i2 h6 M6; obtain ⟨i0, i1, i2⟩ := item HI.out)
      | ((with_reducible refine ldm isR HN.out ?hx ?_); (case hx => rfl))
      | ((with_reducible refine stm (m := ⟨8, c, Pn.zero, Msc.zero, k, v⟩) isR HR.out ?hx ?hy ?_); (case hx => rfl); (case hy => rfl); intro w9 h9 M9; replace HR := Lib.hid h9; replace HB := Lib.hid (M9.below HB.out L1.out); clear h9 M9))
    exact bodyPost_ret (rget_results _ _ b1 _ _ _ _ HR.out rfl rfl rfl) rfl ⟨rfl, HB.out⟩
set_option maxHeartbeats 800000 in
theorem rget_3_yes (s v : ByteArray) (k n : Nat) (c : Bool) (hx : v.toList.isEmpty = true) (CG : ∀ w, Calls Tryd.prog 30 #[.string s] w fun e w' => e = .returned (.tuple #[.agg #[.int .u8 (k : Int), .bool c, .string v], .int .i64 (n : Int), .int .i64 0]) ∧ Below w.heap.size w w') (CK : ∀ w, Calls Tryd.prog 27 #[.int .u8 (k : Int)] w fun e w' => e = .returned (.int .u8 3) ∧ Below w.heap.size w w') (w : World) :
    Calls Tryd.prog 16 #[.string s] w fun e w' => e = .returned (.tuple #[mv ⟨3, c, Pn.zero, Msc.zero, 0, no⟩, .int .i64 (n : Int), .int .i64 0]) ∧ Below w.heap.size w w' := by
  have CGh := Lib.hid CG
  have CKh := Lib.hid CK
  clear CG CK
  go_enter Tryd.func16, Tryd.ntmps16
  go_wp2_with (first
    | ((with_reducible refine alm zeroR ?_); intro b1 w1 h1 F1; have HR := Lib.hid h1; have L1 := Lib.hid (Nat.le_of_eq F1.eq.symm); have HB := Lib.hid F1.below; clear h1 F1)
    | (go_at_call 30; ((with_reducible refine (CGh.out _).mono ?_); rintro e w2 ⟨rfl, hb⟩; replace HR := Lib.hid (stays HR.out hb); replace HB := Lib.hid (below_on HB.out hb); clear hb))
    | ((with_reducible refine alr zeroI ?_); intro b2 w3 h3 F3; have N12 := Lib.hid (F3.ne HR.out); replace HR := Lib.hid (F3.stays HR.out); have L2 := Lib.hid (F3.le HB.out); replace HB := Lib.hid (F3.on HB.out); have HI0 := Lib.hid h3; clear h3 F3)
    | ((with_reducible refine str #[.int .u8 (k : Int), .bool c, .string v] isI HI0.out ?h0 ?h1 ?hc ?hx ?hy ?_); (case h0 => rfl); (case h1 => rfl); (case hc => (simp [Value.oneCell'])); (case hx => rfl); (case hy => rfl); intro wx h4 M4; have HI := Lib.hid h4; replace HR := Lib.hid (M4.other N12.out HR.out); replace HB := Lib.hid (M4.below HB.out L2.out); clear h4 M4 HI0))
  refine wp_region_held_drew (S := fun w' => Below wx.heap.size wx w') (by kernel_rfl) (Below.refl _ _).drew (fun hHeld => ?_)
  refine' wpAnyH_take (i := 0) (oi := { dst := some 19, op := Go.Op.fieldAddr 69 (Go.Operand.tmp 5) 0, type := 0, pos := "ref.go:91", after := #[], guard := none }) (v := _) rfl (by kernel_rfl) (by kernel_rfl) (by kernel_rfl) (fun _ _ _ h => h) (Or.inl ⟨by rfl, ?hy49⟩) (by assumption) ?hr49
  case hy49 => (intro _ hSw; (try dsimp only at hSw); go_simp <;> with_reducible rfl)
  simp only [Act.put, List.setIfInBounds_toArray, List.set_cons_zero, List.set_cons_succ]
  refine' wpAnyH_take (i := 1) (oi := { dst := some 20, op := Go.Op.load 5 (Go.Operand.tmp 19), type := 5, pos := "ref.go:91", after := #[{ on := 0, ground := Go.Ground.data }], guard := none }) (v := _) rfl (by kernel_rfl) (by kernel_rfl) (by kernel_rfl) (fun _ _ _ h => h) (Or.inl ⟨by rfl, ?hy50⟩) (by assumption) ?hr50
  case hy50 => (intro _ hSw; (try dsimp only at hSw); obtain ⟨i0, i1, i2⟩ := item (stays HI.out hSw); go_simp <;> with_reducible rfl)
  simp only [Act.put, List.setIfInBounds_toArray, List.set_cons_zero, List.set_cons_succ]
  refine' wpAnyH_take (i := 3) (oi := { dst := some 22, op := Go.Op.fieldAddr 69 (Go.Operand.tmp 5) 1, type := 0, pos := "ref.go:91", after := #[], guard := none }) (v := _) rfl (by kernel_rfl) (by kernel_rfl) (by kernel_rfl) (fun _ _ _ h => h) (Or.inl ⟨by rfl, ?hy51⟩) (by assumption) ?hr51
  case hy51 => (intro _ hSw; (try dsimp only at hSw); go_simp <;> with_reducible rfl)
  simp only [Act.put, List.setIfInBounds_toArray, List.set_cons_zero, List.set_cons_succ]
  refine' wpAnyH_take (i := 4) (oi := { dst := some 23, op := Go.Op.load 4 (Go.Operand.tmp 22), type := 4, pos := "ref.go:91", after := #[{ on := 3, ground := Go.Ground.data }], guard := none }) (v := _) rfl (by kernel_rfl) (by kernel_rfl) (by kernel_rfl) (fun _ _ _ h => h) (Or.inl ⟨by rfl, ?hy52⟩) (by assumption) ?hr52
  case hy52 => (intro _ hSw; (try dsimp only at hSw); obtain ⟨i0, i1, i2⟩ := item (stays HI.out hSw); go_simp <;> with_reducible rfl)
  simp only [Act.put, List.setIfInBounds_toArray, List.set_cons_zero, List.set_cons_succ]
  refine wpAnyH_ready (rs := [2, 6]) (by kernel_rfl) (by simp) ?_
  refine AllReadyH.cons (o := { dst := some 21, op := Go.Op.call { callee := Go.Callee.value (Go.Operand.func 27), args := #[Go.Operand.tmp 20], argTypes := #[5] }, type := 5, pos := "ref.go:91", after := #[{ on := 1, ground := Go.Ground.data }], guard := none }) rfl (fun K hK => ?_) (AllReadyH.cons (o := { dst := some 8, op := Go.Op.alloc 36, type := 0, pos := "ref.go:91", after := #[], guard := none }) rfl (fun K hK => ?_) AllReadyH.nil)
  · go_simp
    (with_reducible refine (CKh.out _).mono ?_)
    rintro e wc ⟨rfl, hb⟩
    go_wp2_with fail
    refine hK.out _ _ (below_on hHeld hb) (fun hNext => ?_)
    clear hK K
    replace hHeld := hNext
    clear hNext
    (try simp only [Act.put, List.setIfInBounds_toArray, List.set_cons_zero, List.set_cons_succ])
    clear hb
    refine' wpAnyH_take (i := 5) (oi := { dst := some 24, op := Go.Op.build 36 #[(0, Go.Operand.tmp 21), (1, Go.Operand.tmp 23)], type := 36, pos := "ref.go:91", after := #[{ on := 2, ground := Go.Ground.data }, { on := 4, ground := Go.Ground.data }], guard := none }) (v := _) rfl (by kernel_rfl) (by kernel_rfl) (by kernel_rfl) (fun _ _ _ h => h) (Or.inl ⟨by rfl, ?hy53⟩) (by assumption) ?hr53
    case hy53 => (intro _ hSw; (try dsimp only at hSw); refine ex_bd ⟨3, c, Pn.zero, Msc.zero, 0, no⟩ ?_; kernel_rfl)
    simp only [Act.put, List.setIfInBounds_toArray, List.set_cons_zero, List.set_cons_succ]
    refine wpAnyH_ready (rs := [6]) (by kernel_rfl) (by simp) ?_
    refine AllReadyH.cons (o := { dst := some 8, op := Go.Op.alloc 36, type := 0, pos := "ref.go:91", after := #[], guard := none }) rfl (fun K hK => ?_) AllReadyH.nil
    rw [if_pos (by rfl)]
    refine wp_al zeroR ?_
    intro b3 u3 h3 F3
    have Lb3 := F3.le hHeld
    refine hK.out _ _ (F3.on hHeld) (fun hNext => ?_)
    clear hK K
    replace hHeld := hNext
    clear hNext
    (try simp only [Act.put, List.setIfInBounds_toArray, List.set_cons_zero, List.set_cons_succ])
    clear F3
    refine wpAnyH_ready (rs := [7]) (by kernel_rfl) (by simp) ?_
    refine AllReadyH.cons (o := { dst := none, op := Go.Op.store 36 (Go.Operand.tmp 8) (Go.Operand.tmp 24), type := 0, pos := "ref.go:91", after := #[{ on := 6, ground := Go.Ground.data }, { on := 5, ground := Go.Ground.data }, { on := 2, ground := Go.Ground.chain }, { on := 0, ground := Go.Ground.phase }, { on := 1, ground := Go.Ground.phase }, { on := 2, ground := Go.Ground.phase }, { on := 3, ground := Go.Ground.phase }, { on := 4, ground := Go.Ground.phase }, { on := 5, ground := Go.Ground.phase }, { on := 6, ground := Go.Ground.phase }], guard := none }) rfl (fun K hK => ?_) AllReadyH.nil
    rw [if_pos (by rfl)]
    refine wp_row (cs := mc ⟨3, c, Pn.zero, Msc.zero, 0, no⟩) isR h3 rfl rfl (one_all _) rfl rfl ?_
    intro u4 h4 M4
    refine hK.out _ _ (M4.below hHeld Lb3) (fun hNext => ?_)
    clear hK K
    replace hHeld := hNext
    clear hNext
    (try simp only [Act.put])
    clear M4 h3
    refine wpAnyH_done (by kernel_rfl) ?_ _
    have N13 : Hid (b1 ≠ b3) := Lib.hid (by have := lt_heap HR.out; omega)
    have N23 : Hid (b2 ≠ b3) := Lib.hid (by have := lt_heap HI.out; omega)
    have HN := Lib.hid h4
    have L3 : Hid (w.heap.size ≤ b3) := Lib.hid (by have := HB.out.size; omega)
    clear h4 Lb3
    replace HI := Lib.hid (stays HI.out hHeld)
    replace HR := Lib.hid (stays HR.out hHeld)
    replace HB := Lib.hid (below_on HB.out hHeld)
    clear hHeld
    obtain ⟨n0, n1, n18, n19⟩ := flds HN.out
    obtain ⟨i0, i1, i2⟩ := item HI.out
    go_wp2_with (first
      | ((with_reducible refine ldm isR HN.out ?hx ?_); (case hx => rfl))
      | ((with_reducible refine stm (m := ⟨3, c, Pn.zero, Msc.zero, 0, no⟩) isR HR.out ?hx ?hy ?_); (case hx => rfl); (case hy => rfl); intro w9 h9 M9; replace HR := Lib.hid h9; replace HB := Lib.hid (M9.below HB.out L1.out); clear h9 M9))
    exact bodyPost_ret (rget_results _ _ b1 _ _ _ _ HR.out rfl rfl rfl) rfl ⟨rfl, HB.out⟩
  · rw [if_pos (by rfl)]
    refine wp_al zeroR ?_
    intro b3 u3 h3 F3
    have Lb3 := F3.le hHeld
    refine hK.out _ _ (F3.on hHeld) (fun hNext => ?_)
    clear hK K
    replace hHeld := hNext
    clear hNext
    (try simp only [Act.put, List.setIfInBounds_toArray, List.set_cons_zero, List.set_cons_succ])
    clear F3
    refine wpAnyH_ready (rs := [2]) (by kernel_rfl) (by simp) ?_
    refine AllReadyH.cons (o := { dst := some 21, op := Go.Op.call { callee := Go.Callee.value (Go.Operand.func 27), args := #[Go.Operand.tmp 20], argTypes := #[5] }, type := 5, pos := "ref.go:91", after := #[{ on := 1, ground := Go.Ground.data }], guard := none }) rfl (fun K hK => ?_) AllReadyH.nil
    go_simp
    (with_reducible refine (CKh.out _).mono ?_)
    rintro e wc ⟨rfl, hb⟩
    go_wp2_with fail
    replace h3 := stays h3 hb
    refine hK.out _ _ (below_on hHeld hb) (fun hNext => ?_)
    clear hK K
    replace hHeld := hNext
    clear hNext
    (try simp only [Act.put, List.setIfInBounds_toArray, List.set_cons_zero, List.set_cons_succ])
    clear hb
    refine' wpAnyH_take (i := 5) (oi := { dst := some 24, op := Go.Op.build 36 #[(0, Go.Operand.tmp 21), (1, Go.Operand.tmp 23)], type := 36, pos := "ref.go:91", after := #[{ on := 2, ground := Go.Ground.data }, { on := 4, ground := Go.Ground.data }], guard := none }) (v := _) rfl (by kernel_rfl) (by kernel_rfl) (by kernel_rfl) (fun _ _ _ h => h) (Or.inl ⟨by rfl, ?hy54⟩) (by assumption) ?hr54
    case hy54 => (intro _ hSw; (try dsimp only at hSw); refine ex_bd ⟨3, c, Pn.zero, Msc.zero, 0, no⟩ ?_; kernel_rfl)
    simp only [Act.put, List.setIfInBounds_toArray, List.set_cons_zero, List.set_cons_succ]
    refine wpAnyH_ready (rs := [7]) (by kernel_rfl) (by simp) ?_
    refine AllReadyH.cons (o := { dst := none, op := Go.Op.store 36 (Go.Operand.tmp 8) (Go.Operand.tmp 24), type := 0, pos := "ref.go:91", after := #[{ on := 6, ground := Go.Ground.data }, { on := 5, ground := Go.Ground.data }, { on := 2, ground := Go.Ground.chain }, { on := 0, ground := Go.Ground.phase }, { on := 1, ground := Go.Ground.phase }, { on := 2, ground := Go.Ground.phase }, { on := 3, ground := Go.Ground.phase }, { on := 4, ground := Go.Ground.phase }, { on := 5, ground := Go.Ground.phase }, { on := 6, ground := Go.Ground.phase }], guard := none }) rfl (fun K hK => ?_) AllReadyH.nil
    rw [if_pos (by rfl)]
    refine wp_row (cs := mc ⟨3, c, Pn.zero, Msc.zero, 0, no⟩) isR h3 rfl rfl (one_all _) rfl rfl ?_
    intro u4 h4 M4
    refine hK.out _ _ (M4.below hHeld Lb3) (fun hNext => ?_)
    clear hK K
    replace hHeld := hNext
    clear hNext
    (try simp only [Act.put])
    clear M4 h3
    refine wpAnyH_done (by kernel_rfl) ?_ _
    have N13 : Hid (b1 ≠ b3) := Lib.hid (by have := lt_heap HR.out; omega)
    have N23 : Hid (b2 ≠ b3) := Lib.hid (by have := lt_heap HI.out; omega)
    have HN := Lib.hid h4
    have L3 : Hid (w.heap.size ≤ b3) := Lib.hid (by have := HB.out.size; omega)
    clear h4 Lb3
    replace HI := Lib.hid (stays HI.out hHeld)
    replace HR := Lib.hid (stays HR.out hHeld)
    replace HB := Lib.hid (below_on HB.out hHeld)
    clear hHeld
    obtain ⟨n0, n1, n18, n19⟩ := flds HN.out
    obtain ⟨i0, i1, i2⟩ := item HI.out
    go_wp2_with (first
      | ((with_reducible refine ldm isR HN.out ?hx ?_); (case hx => rfl))
      | ((with_reducible refine stm (m := ⟨3, c, Pn.zero, Msc.zero, 0, no⟩) isR HR.out ?hx ?hy ?_); (case hx => rfl); (case hy => rfl); intro w9 h9 M9; replace HR := Lib.hid h9; replace HB := Lib.hid (M9.below HB.out L1.out); clear h9 M9))
    exact bodyPost_ret (rget_results _ _ b1 _ _ _ _ HR.out rfl rfl rfl) rfl ⟨rfl, HB.out⟩
set_option maxHeartbeats 800000 in
theorem rget_3_no (s v : ByteArray) (k n : Nat) (c : Bool) (hx : v.toList.isEmpty = false) (CG : ∀ w, Calls Tryd.prog 30 #[.string s] w fun e w' => e = .returned (.tuple #[.agg #[.int .u8 (k : Int), .bool c, .string v], .int .i64 (n : Int), .int .i64 0]) ∧ Below w.heap.size w w') (CK : ∀ w, Calls Tryd.prog 27 #[.int .u8 (k : Int)] w fun e w' => e = .returned (.int .u8 3) ∧ Below w.heap.size w w') (w : World) :
    Calls Tryd.prog 16 #[.string s] w fun e w' => e = .returned (.tuple #[mv zero, .int .i64 0, .int .i64 70]) ∧ Below w.heap.size w w' := by
  have CGh := Lib.hid CG
  have CKh := Lib.hid CK
  clear CG CK
  go_enter Tryd.func16, Tryd.ntmps16
  go_wp2_with (first
    | ((with_reducible refine alm zeroR ?_); intro b1 w1 h1 F1; have HR := Lib.hid h1; have L1 := Lib.hid (Nat.le_of_eq F1.eq.symm); have HB := Lib.hid F1.below; clear h1 F1)
    | (go_at_call 30; ((with_reducible refine (CGh.out _).mono ?_); rintro e w2 ⟨rfl, hb⟩; replace HR := Lib.hid (stays HR.out hb); replace HB := Lib.hid (below_on HB.out hb); clear hb))
    | ((with_reducible refine alr zeroI ?_); intro b2 w3 h3 F3; have N12 := Lib.hid (F3.ne HR.out); replace HR := Lib.hid (F3.stays HR.out); have L2 := Lib.hid (F3.le HB.out); replace HB := Lib.hid (F3.on HB.out); have HI0 := Lib.hid h3; clear h3 F3)
    | ((with_reducible refine str #[.int .u8 (k : Int), .bool c, .string v] isI HI0.out ?h0 ?h1 ?hc ?hx ?hy ?_); (case h0 => rfl); (case h1 => rfl); (case hc => (simp [Value.oneCell'])); (case hx => rfl); (case hy => rfl); intro wx h4 M4; have HI := Lib.hid h4; replace HR := Lib.hid (M4.other N12.out HR.out); replace HB := Lib.hid (M4.below HB.out L2.out); clear h4 M4 HI0))
  refine wp_region_held_drew (S := fun w' => Below wx.heap.size wx w') (by kernel_rfl) (Below.refl _ _).drew (fun hHeld => ?_)
  refine' wpAnyH_take (i := 0) (oi := { dst := some 19, op := Go.Op.fieldAddr 69 (Go.Operand.tmp 5) 0, type := 0, pos := "ref.go:91", after := #[], guard := none }) (v := _) rfl (by kernel_rfl) (by kernel_rfl) (by kernel_rfl) (fun _ _ _ h => h) (Or.inl ⟨by rfl, ?hy55⟩) (by assumption) ?hr55
  case hy55 => (intro _ hSw; (try dsimp only at hSw); go_simp <;> with_reducible rfl)
  simp only [Act.put, List.setIfInBounds_toArray, List.set_cons_zero, List.set_cons_succ]
  refine' wpAnyH_take (i := 1) (oi := { dst := some 20, op := Go.Op.load 5 (Go.Operand.tmp 19), type := 5, pos := "ref.go:91", after := #[{ on := 0, ground := Go.Ground.data }], guard := none }) (v := _) rfl (by kernel_rfl) (by kernel_rfl) (by kernel_rfl) (fun _ _ _ h => h) (Or.inl ⟨by rfl, ?hy56⟩) (by assumption) ?hr56
  case hy56 => (intro _ hSw; (try dsimp only at hSw); obtain ⟨i0, i1, i2⟩ := item (stays HI.out hSw); go_simp <;> with_reducible rfl)
  simp only [Act.put, List.setIfInBounds_toArray, List.set_cons_zero, List.set_cons_succ]
  refine' wpAnyH_take (i := 3) (oi := { dst := some 22, op := Go.Op.fieldAddr 69 (Go.Operand.tmp 5) 1, type := 0, pos := "ref.go:91", after := #[], guard := none }) (v := _) rfl (by kernel_rfl) (by kernel_rfl) (by kernel_rfl) (fun _ _ _ h => h) (Or.inl ⟨by rfl, ?hy57⟩) (by assumption) ?hr57
  case hy57 => (intro _ hSw; (try dsimp only at hSw); go_simp <;> with_reducible rfl)
  simp only [Act.put, List.setIfInBounds_toArray, List.set_cons_zero, List.set_cons_succ]
  refine' wpAnyH_take (i := 4) (oi := { dst := some 23, op := Go.Op.load 4 (Go.Operand.tmp 22), type := 4, pos := "ref.go:91", after := #[{ on := 3, ground := Go.Ground.data }], guard := none }) (v := _) rfl (by kernel_rfl) (by kernel_rfl) (by kernel_rfl) (fun _ _ _ h => h) (Or.inl ⟨by rfl, ?hy58⟩) (by assumption) ?hr58
  case hy58 => (intro _ hSw; (try dsimp only at hSw); obtain ⟨i0, i1, i2⟩ := item (stays HI.out hSw); go_simp <;> with_reducible rfl)
  simp only [Act.put, List.setIfInBounds_toArray, List.set_cons_zero, List.set_cons_succ]
  refine wpAnyH_ready (rs := [2, 6]) (by kernel_rfl) (by simp) ?_
  refine AllReadyH.cons (o := { dst := some 21, op := Go.Op.call { callee := Go.Callee.value (Go.Operand.func 27), args := #[Go.Operand.tmp 20], argTypes := #[5] }, type := 5, pos := "ref.go:91", after := #[{ on := 1, ground := Go.Ground.data }], guard := none }) rfl (fun K hK => ?_) (AllReadyH.cons (o := { dst := some 8, op := Go.Op.alloc 36, type := 0, pos := "ref.go:91", after := #[], guard := none }) rfl (fun K hK => ?_) AllReadyH.nil)
  · go_simp
    (with_reducible refine (CKh.out _).mono ?_)
    rintro e wc ⟨rfl, hb⟩
    go_wp2_with fail
    refine hK.out _ _ (below_on hHeld hb) (fun hNext => ?_)
    clear hK K
    replace hHeld := hNext
    clear hNext
    (try simp only [Act.put, List.setIfInBounds_toArray, List.set_cons_zero, List.set_cons_succ])
    clear hb
    refine' wpAnyH_take (i := 5) (oi := { dst := some 24, op := Go.Op.build 36 #[(0, Go.Operand.tmp 21), (1, Go.Operand.tmp 23)], type := 36, pos := "ref.go:91", after := #[{ on := 2, ground := Go.Ground.data }, { on := 4, ground := Go.Ground.data }], guard := none }) (v := _) rfl (by kernel_rfl) (by kernel_rfl) (by kernel_rfl) (fun _ _ _ h => h) (Or.inl ⟨by rfl, ?hy59⟩) (by assumption) ?hr59
    case hy59 => (intro _ hSw; (try dsimp only at hSw); refine ex_bd ⟨3, c, Pn.zero, Msc.zero, 0, no⟩ ?_; kernel_rfl)
    simp only [Act.put, List.setIfInBounds_toArray, List.set_cons_zero, List.set_cons_succ]
    refine wpAnyH_ready (rs := [6]) (by kernel_rfl) (by simp) ?_
    refine AllReadyH.cons (o := { dst := some 8, op := Go.Op.alloc 36, type := 0, pos := "ref.go:91", after := #[], guard := none }) rfl (fun K hK => ?_) AllReadyH.nil
    rw [if_pos (by rfl)]
    refine wp_al zeroR ?_
    intro b3 u3 h3 F3
    have Lb3 := F3.le hHeld
    refine hK.out _ _ (F3.on hHeld) (fun hNext => ?_)
    clear hK K
    replace hHeld := hNext
    clear hNext
    (try simp only [Act.put, List.setIfInBounds_toArray, List.set_cons_zero, List.set_cons_succ])
    clear F3
    refine wpAnyH_ready (rs := [7]) (by kernel_rfl) (by simp) ?_
    refine AllReadyH.cons (o := { dst := none, op := Go.Op.store 36 (Go.Operand.tmp 8) (Go.Operand.tmp 24), type := 0, pos := "ref.go:91", after := #[{ on := 6, ground := Go.Ground.data }, { on := 5, ground := Go.Ground.data }, { on := 2, ground := Go.Ground.chain }, { on := 0, ground := Go.Ground.phase }, { on := 1, ground := Go.Ground.phase }, { on := 2, ground := Go.Ground.phase }, { on := 3, ground := Go.Ground.phase }, { on := 4, ground := Go.Ground.phase }, { on := 5, ground := Go.Ground.phase }, { on := 6, ground := Go.Ground.phase }], guard := none }) rfl (fun K hK => ?_) AllReadyH.nil
    rw [if_pos (by rfl)]
    refine wp_row (cs := mc ⟨3, c, Pn.zero, Msc.zero, 0, no⟩) isR h3 rfl rfl (one_all _) rfl rfl ?_
    intro u4 h4 M4
    refine hK.out _ _ (M4.below hHeld Lb3) (fun hNext => ?_)
    clear hK K
    replace hHeld := hNext
    clear hNext
    (try simp only [Act.put])
    clear M4 h3
    refine wpAnyH_done (by kernel_rfl) ?_ _
    have N13 : Hid (b1 ≠ b3) := Lib.hid (by have := lt_heap HR.out; omega)
    have N23 : Hid (b2 ≠ b3) := Lib.hid (by have := lt_heap HI.out; omega)
    have HN := Lib.hid h4
    have L3 : Hid (w.heap.size ≤ b3) := Lib.hid (by have := HB.out.size; omega)
    clear h4 Lb3
    replace HI := Lib.hid (stays HI.out hHeld)
    replace HR := Lib.hid (stays HR.out hHeld)
    replace HB := Lib.hid (below_on HB.out hHeld)
    clear hHeld
    obtain ⟨n0, n1, n18, n19⟩ := flds HN.out
    obtain ⟨i0, i1, i2⟩ := item HI.out
    go_wp2_with (first
      | ((with_reducible refine bdm (T := 36) (parts := #[]) zero ?hb ?_); (case hb => kernel_rfl))
      | ((with_reducible refine stm (m := zero) isR HR.out ?hx ?hy ?_); (case hx => rfl); (case hy => rfl); intro w9 h9 M9; replace HR := Lib.hid h9; replace HB := Lib.hid (M9.below HB.out L1.out); clear h9 M9))
    exact bodyPost_ret (rget_results _ _ b1 _ _ _ _ HR.out rfl rfl rfl) rfl ⟨rfl, HB.out⟩
  · rw [if_pos (by rfl)]
    refine wp_al zeroR ?_
    intro b3 u3 h3 F3
    have Lb3 := F3.le hHeld
    refine hK.out _ _ (F3.on hHeld) (fun hNext => ?_)
    clear hK K
    replace hHeld := hNext
    clear hNext
    (try simp only [Act.put, List.setIfInBounds_toArray, List.set_cons_zero, List.set_cons_succ])
    clear F3
    refine wpAnyH_ready (rs := [2]) (by kernel_rfl) (by simp) ?_
    refine AllReadyH.cons (o := { dst := some 21, op := Go.Op.call { callee := Go.Callee.value (Go.Operand.func 27), args := #[Go.Operand.tmp 20], argTypes := #[5] }, type := 5, pos := "ref.go:91", after := #[{ on := 1, ground := Go.Ground.data }], guard := none }) rfl (fun K hK => ?_) AllReadyH.nil
    go_simp
    (with_reducible refine (CKh.out _).mono ?_)
    rintro e wc ⟨rfl, hb⟩
    go_wp2_with fail
    replace h3 := stays h3 hb
    refine hK.out _ _ (below_on hHeld hb) (fun hNext => ?_)
    clear hK K
    replace hHeld := hNext
    clear hNext
    (try simp only [Act.put, List.setIfInBounds_toArray, List.set_cons_zero, List.set_cons_succ])
    clear hb
    refine' wpAnyH_take (i := 5) (oi := { dst := some 24, op := Go.Op.build 36 #[(0, Go.Operand.tmp 21), (1, Go.Operand.tmp 23)], type := 36, pos := "ref.go:91", after := #[{ on := 2, ground := Go.Ground.data }, { on := 4, ground := Go.Ground.data }], guard := none }) (v := _) rfl (by kernel_rfl) (by kernel_rfl) (by kernel_rfl) (fun _ _ _ h => h) (Or.inl ⟨by rfl, ?hy60⟩) (by assumption) ?hr60
    case hy60 => (intro _ hSw; (try dsimp only at hSw); refine ex_bd ⟨3, c, Pn.zero, Msc.zero, 0, no⟩ ?_; kernel_rfl)
    simp only [Act.put, List.setIfInBounds_toArray, List.set_cons_zero, List.set_cons_succ]
    refine wpAnyH_ready (rs := [7]) (by kernel_rfl) (by simp) ?_
    refine AllReadyH.cons (o := { dst := none, op := Go.Op.store 36 (Go.Operand.tmp 8) (Go.Operand.tmp 24), type := 0, pos := "ref.go:91", after := #[{ on := 6, ground := Go.Ground.data }, { on := 5, ground := Go.Ground.data }, { on := 2, ground := Go.Ground.chain }, { on := 0, ground := Go.Ground.phase }, { on := 1, ground := Go.Ground.phase }, { on := 2, ground := Go.Ground.phase }, { on := 3, ground := Go.Ground.phase }, { on := 4, ground := Go.Ground.phase }, { on := 5, ground := Go.Ground.phase }, { on := 6, ground := Go.Ground.phase }], guard := none }) rfl (fun K hK => ?_) AllReadyH.nil
    rw [if_pos (by rfl)]
    refine wp_row (cs := mc ⟨3, c, Pn.zero, Msc.zero, 0, no⟩) isR h3 rfl rfl (one_all _) rfl rfl ?_
    intro u4 h4 M4
    refine hK.out _ _ (M4.below hHeld Lb3) (fun hNext => ?_)
    clear hK K
    replace hHeld := hNext
    clear hNext
    (try simp only [Act.put])
    clear M4 h3
    refine wpAnyH_done (by kernel_rfl) ?_ _
    have N13 : Hid (b1 ≠ b3) := Lib.hid (by have := lt_heap HR.out; omega)
    have N23 : Hid (b2 ≠ b3) := Lib.hid (by have := lt_heap HI.out; omega)
    have HN := Lib.hid h4
    have L3 : Hid (w.heap.size ≤ b3) := Lib.hid (by have := HB.out.size; omega)
    clear h4 Lb3
    replace HI := Lib.hid (stays HI.out hHeld)
    replace HR := Lib.hid (stays HR.out hHeld)
    replace HB := Lib.hid (below_on HB.out hHeld)
    clear hHeld
    obtain ⟨n0, n1, n18, n19⟩ := flds HN.out
    obtain ⟨i0, i1, i2⟩ := item HI.out
    go_wp2_with (first
      | ((with_reducible refine bdm (T := 36) (parts := #[]) zero ?hb ?_); (case hb => kernel_rfl))
      | ((with_reducible refine stm (m := zero) isR HR.out ?hx ?hy ?_); (case hx => rfl); (case hy => rfl); intro w9 h9 M9; replace HR := Lib.hid h9; replace HB := Lib.hid (M9.below HB.out L1.out); clear h9 M9))
    exact bodyPost_ret (rget_results _ _ b1 _ _ _ _ HR.out rfl rfl rfl) rfl ⟨rfl, HB.out⟩
set_option maxHeartbeats 800000 in
theorem rget_4_yes (s v : ByteArray) (k n : Nat) (c : Bool) (hx : v.toList.isEmpty = true) (CG : ∀ w, Calls Tryd.prog 30 #[.string s] w fun e w' => e = .returned (.tuple #[.agg #[.int .u8 (k : Int), .bool c, .string v], .int .i64 (n : Int), .int .i64 0]) ∧ Below w.heap.size w w') (CK : ∀ w, Calls Tryd.prog 27 #[.int .u8 (k : Int)] w fun e w' => e = .returned (.int .u8 4) ∧ Below w.heap.size w w') (w : World) :
    Calls Tryd.prog 16 #[.string s] w fun e w' => e = .returned (.tuple #[mv ⟨4, c, Pn.zero, Msc.zero, 0, no⟩, .int .i64 (n : Int), .int .i64 0]) ∧ Below w.heap.size w w' := by
  have CGh := Lib.hid CG
  have CKh := Lib.hid CK
  clear CG CK
  go_enter Tryd.func16, Tryd.ntmps16
  go_wp2_with (first
    | ((with_reducible refine alm zeroR ?_); intro b1 w1 h1 F1; have HR := Lib.hid h1; have L1 := Lib.hid (Nat.le_of_eq F1.eq.symm); have HB := Lib.hid F1.below; clear h1 F1)
    | (go_at_call 30; ((with_reducible refine (CGh.out _).mono ?_); rintro e w2 ⟨rfl, hb⟩; replace HR := Lib.hid (stays HR.out hb); replace HB := Lib.hid (below_on HB.out hb); clear hb))
    | ((with_reducible refine alr zeroI ?_); intro b2 w3 h3 F3; have N12 := Lib.hid (F3.ne HR.out); replace HR := Lib.hid (F3.stays HR.out); have L2 := Lib.hid (F3.le HB.out); replace HB := Lib.hid (F3.on HB.out); have HI0 := Lib.hid h3; clear h3 F3)
    | ((with_reducible refine str #[.int .u8 (k : Int), .bool c, .string v] isI HI0.out ?h0 ?h1 ?hc ?hx ?hy ?_); (case h0 => rfl); (case h1 => rfl); (case hc => (simp [Value.oneCell'])); (case hx => rfl); (case hy => rfl); intro wx h4 M4; have HI := Lib.hid h4; replace HR := Lib.hid (M4.other N12.out HR.out); replace HB := Lib.hid (M4.below HB.out L2.out); clear h4 M4 HI0))
  refine wp_region_held_drew (S := fun w' => Below wx.heap.size wx w') (by kernel_rfl) (Below.refl _ _).drew (fun hHeld => ?_)
  refine' wpAnyH_take (i := 0) (oi := { dst := some 19, op := Go.Op.fieldAddr 69 (Go.Operand.tmp 5) 0, type := 0, pos := "ref.go:91", after := #[], guard := none }) (v := _) rfl (by kernel_rfl) (by kernel_rfl) (by kernel_rfl) (fun _ _ _ h => h) (Or.inl ⟨by rfl, ?hy61⟩) (by assumption) ?hr61
  case hy61 => (intro _ hSw; (try dsimp only at hSw); go_simp <;> with_reducible rfl)
  simp only [Act.put, List.setIfInBounds_toArray, List.set_cons_zero, List.set_cons_succ]
  refine' wpAnyH_take (i := 1) (oi := { dst := some 20, op := Go.Op.load 5 (Go.Operand.tmp 19), type := 5, pos := "ref.go:91", after := #[{ on := 0, ground := Go.Ground.data }], guard := none }) (v := _) rfl (by kernel_rfl) (by kernel_rfl) (by kernel_rfl) (fun _ _ _ h => h) (Or.inl ⟨by rfl, ?hy62⟩) (by assumption) ?hr62
  case hy62 => (intro _ hSw; (try dsimp only at hSw); obtain ⟨i0, i1, i2⟩ := item (stays HI.out hSw); go_simp <;> with_reducible rfl)
  simp only [Act.put, List.setIfInBounds_toArray, List.set_cons_zero, List.set_cons_succ]
  refine' wpAnyH_take (i := 3) (oi := { dst := some 22, op := Go.Op.fieldAddr 69 (Go.Operand.tmp 5) 1, type := 0, pos := "ref.go:91", after := #[], guard := none }) (v := _) rfl (by kernel_rfl) (by kernel_rfl) (by kernel_rfl) (fun _ _ _ h => h) (Or.inl ⟨by rfl, ?hy63⟩) (by assumption) ?hr63
  case hy63 => (intro _ hSw; (try dsimp only at hSw); go_simp <;> with_reducible rfl)
  simp only [Act.put, List.setIfInBounds_toArray, List.set_cons_zero, List.set_cons_succ]
  refine' wpAnyH_take (i := 4) (oi := { dst := some 23, op := Go.Op.load 4 (Go.Operand.tmp 22), type := 4, pos := "ref.go:91", after := #[{ on := 3, ground := Go.Ground.data }], guard := none }) (v := _) rfl (by kernel_rfl) (by kernel_rfl) (by kernel_rfl) (fun _ _ _ h => h) (Or.inl ⟨by rfl, ?hy64⟩) (by assumption) ?hr64
  case hy64 => (intro _ hSw; (try dsimp only at hSw); obtain ⟨i0, i1, i2⟩ := item (stays HI.out hSw); go_simp <;> with_reducible rfl)
  simp only [Act.put, List.setIfInBounds_toArray, List.set_cons_zero, List.set_cons_succ]
  refine wpAnyH_ready (rs := [2, 6]) (by kernel_rfl) (by simp) ?_
  refine AllReadyH.cons (o := { dst := some 21, op := Go.Op.call { callee := Go.Callee.value (Go.Operand.func 27), args := #[Go.Operand.tmp 20], argTypes := #[5] }, type := 5, pos := "ref.go:91", after := #[{ on := 1, ground := Go.Ground.data }], guard := none }) rfl (fun K hK => ?_) (AllReadyH.cons (o := { dst := some 8, op := Go.Op.alloc 36, type := 0, pos := "ref.go:91", after := #[], guard := none }) rfl (fun K hK => ?_) AllReadyH.nil)
  · go_simp
    (with_reducible refine (CKh.out _).mono ?_)
    rintro e wc ⟨rfl, hb⟩
    go_wp2_with fail
    refine hK.out _ _ (below_on hHeld hb) (fun hNext => ?_)
    clear hK K
    replace hHeld := hNext
    clear hNext
    (try simp only [Act.put, List.setIfInBounds_toArray, List.set_cons_zero, List.set_cons_succ])
    clear hb
    refine' wpAnyH_take (i := 5) (oi := { dst := some 24, op := Go.Op.build 36 #[(0, Go.Operand.tmp 21), (1, Go.Operand.tmp 23)], type := 36, pos := "ref.go:91", after := #[{ on := 2, ground := Go.Ground.data }, { on := 4, ground := Go.Ground.data }], guard := none }) (v := _) rfl (by kernel_rfl) (by kernel_rfl) (by kernel_rfl) (fun _ _ _ h => h) (Or.inl ⟨by rfl, ?hy65⟩) (by assumption) ?hr65
    case hy65 => (intro _ hSw; (try dsimp only at hSw); refine ex_bd ⟨4, c, Pn.zero, Msc.zero, 0, no⟩ ?_; kernel_rfl)
    simp only [Act.put, List.setIfInBounds_toArray, List.set_cons_zero, List.set_cons_succ]
    refine wpAnyH_ready (rs := [6]) (by kernel_rfl) (by simp) ?_
    refine AllReadyH.cons (o := { dst := some 8, op := Go.Op.alloc 36, type := 0, pos := "ref.go:91", after := #[], guard := none }) rfl (fun K hK => ?_) AllReadyH.nil
    rw [if_pos (by rfl)]
    refine wp_al zeroR ?_
    intro b3 u3 h3 F3
    have Lb3 := F3.le hHeld
    refine hK.out _ _ (F3.on hHeld) (fun hNext => ?_)
    clear hK K
    replace hHeld := hNext
    clear hNext
    (try simp only [Act.put, List.setIfInBounds_toArray, List.set_cons_zero, List.set_cons_succ])
    clear F3
    refine wpAnyH_ready (rs := [7]) (by kernel_rfl) (by simp) ?_
    refine AllReadyH.cons (o := { dst := none, op := Go.Op.store 36 (Go.Operand.tmp 8) (Go.Operand.tmp 24), type := 0, pos := "ref.go:91", after := #[{ on := 6, ground := Go.Ground.data }, { on := 5, ground := Go.Ground.data }, { on := 2, ground := Go.Ground.chain }, { on := 0, ground := Go.Ground.phase }, { on := 1, ground := Go.Ground.phase }, { on := 2, ground := Go.Ground.phase }, { on := 3, ground := Go.Ground.phase }, { on := 4, ground := Go.Ground.phase }, { on := 5, ground := Go.Ground.phase }, { on := 6, ground := Go.Ground.phase }], guard := none }) rfl (fun K hK => ?_) AllReadyH.nil
    rw [if_pos (by rfl)]
    refine wp_row (cs := mc ⟨4, c, Pn.zero, Msc.zero, 0, no⟩) isR h3 rfl rfl (one_all _) rfl rfl ?_
    intro u4 h4 M4
    refine hK.out _ _ (M4.below hHeld Lb3) (fun hNext => ?_)
    clear hK K
    replace hHeld := hNext
    clear hNext
    (try simp only [Act.put])
    clear M4 h3
    refine wpAnyH_done (by kernel_rfl) ?_ _
    have N13 : Hid (b1 ≠ b3) := Lib.hid (by have := lt_heap HR.out; omega)
    have N23 : Hid (b2 ≠ b3) := Lib.hid (by have := lt_heap HI.out; omega)
    have HN := Lib.hid h4
    have L3 : Hid (w.heap.size ≤ b3) := Lib.hid (by have := HB.out.size; omega)
    clear h4 Lb3
    replace HI := Lib.hid (stays HI.out hHeld)
    replace HR := Lib.hid (stays HR.out hHeld)
    replace HB := Lib.hid (below_on HB.out hHeld)
    clear hHeld
    obtain ⟨n0, n1, n18, n19⟩ := flds HN.out
    obtain ⟨i0, i1, i2⟩ := item HI.out
    go_wp2_with (first
      | ((with_reducible refine ldm isR HN.out ?hx ?_); (case hx => rfl))
      | ((with_reducible refine stm (m := ⟨4, c, Pn.zero, Msc.zero, 0, no⟩) isR HR.out ?hx ?hy ?_); (case hx => rfl); (case hy => rfl); intro w9 h9 M9; replace HR := Lib.hid h9; replace HB := Lib.hid (M9.below HB.out L1.out); clear h9 M9))
    exact bodyPost_ret (rget_results _ _ b1 _ _ _ _ HR.out rfl rfl rfl) rfl ⟨rfl, HB.out⟩
  · rw [if_pos (by rfl)]
    refine wp_al zeroR ?_
    intro b3 u3 h3 F3
    have Lb3 := F3.le hHeld
    refine hK.out _ _ (F3.on hHeld) (fun hNext => ?_)
    clear hK K
    replace hHeld := hNext
    clear hNext
    (try simp only [Act.put, List.setIfInBounds_toArray, List.set_cons_zero, List.set_cons_succ])
    clear F3
    refine wpAnyH_ready (rs := [2]) (by kernel_rfl) (by simp) ?_
    refine AllReadyH.cons (o := { dst := some 21, op := Go.Op.call { callee := Go.Callee.value (Go.Operand.func 27), args := #[Go.Operand.tmp 20], argTypes := #[5] }, type := 5, pos := "ref.go:91", after := #[{ on := 1, ground := Go.Ground.data }], guard := none }) rfl (fun K hK => ?_) AllReadyH.nil
    go_simp
    (with_reducible refine (CKh.out _).mono ?_)
    rintro e wc ⟨rfl, hb⟩
    go_wp2_with fail
    replace h3 := stays h3 hb
    refine hK.out _ _ (below_on hHeld hb) (fun hNext => ?_)
    clear hK K
    replace hHeld := hNext
    clear hNext
    (try simp only [Act.put, List.setIfInBounds_toArray, List.set_cons_zero, List.set_cons_succ])
    clear hb
    refine' wpAnyH_take (i := 5) (oi := { dst := some 24, op := Go.Op.build 36 #[(0, Go.Operand.tmp 21), (1, Go.Operand.tmp 23)], type := 36, pos := "ref.go:91", after := #[{ on := 2, ground := Go.Ground.data }, { on := 4, ground := Go.Ground.data }], guard := none }) (v := _) rfl (by kernel_rfl) (by kernel_rfl) (by kernel_rfl) (fun _ _ _ h => h) (Or.inl ⟨by rfl, ?hy66⟩) (by assumption) ?hr66
    case hy66 => (intro _ hSw; (try dsimp only at hSw); refine ex_bd ⟨4, c, Pn.zero, Msc.zero, 0, no⟩ ?_; kernel_rfl)
    simp only [Act.put, List.setIfInBounds_toArray, List.set_cons_zero, List.set_cons_succ]
    refine wpAnyH_ready (rs := [7]) (by kernel_rfl) (by simp) ?_
    refine AllReadyH.cons (o := { dst := none, op := Go.Op.store 36 (Go.Operand.tmp 8) (Go.Operand.tmp 24), type := 0, pos := "ref.go:91", after := #[{ on := 6, ground := Go.Ground.data }, { on := 5, ground := Go.Ground.data }, { on := 2, ground := Go.Ground.chain }, { on := 0, ground := Go.Ground.phase }, { on := 1, ground := Go.Ground.phase }, { on := 2, ground := Go.Ground.phase }, { on := 3, ground := Go.Ground.phase }, { on := 4, ground := Go.Ground.phase }, { on := 5, ground := Go.Ground.phase }, { on := 6, ground := Go.Ground.phase }], guard := none }) rfl (fun K hK => ?_) AllReadyH.nil
    rw [if_pos (by rfl)]
    refine wp_row (cs := mc ⟨4, c, Pn.zero, Msc.zero, 0, no⟩) isR h3 rfl rfl (one_all _) rfl rfl ?_
    intro u4 h4 M4
    refine hK.out _ _ (M4.below hHeld Lb3) (fun hNext => ?_)
    clear hK K
    replace hHeld := hNext
    clear hNext
    (try simp only [Act.put])
    clear M4 h3
    refine wpAnyH_done (by kernel_rfl) ?_ _
    have N13 : Hid (b1 ≠ b3) := Lib.hid (by have := lt_heap HR.out; omega)
    have N23 : Hid (b2 ≠ b3) := Lib.hid (by have := lt_heap HI.out; omega)
    have HN := Lib.hid h4
    have L3 : Hid (w.heap.size ≤ b3) := Lib.hid (by have := HB.out.size; omega)
    clear h4 Lb3
    replace HI := Lib.hid (stays HI.out hHeld)
    replace HR := Lib.hid (stays HR.out hHeld)
    replace HB := Lib.hid (below_on HB.out hHeld)
    clear hHeld
    obtain ⟨n0, n1, n18, n19⟩ := flds HN.out
    obtain ⟨i0, i1, i2⟩ := item HI.out
    go_wp2_with (first
      | ((with_reducible refine ldm isR HN.out ?hx ?_); (case hx => rfl))
      | ((with_reducible refine stm (m := ⟨4, c, Pn.zero, Msc.zero, 0, no⟩) isR HR.out ?hx ?hy ?_); (case hx => rfl); (case hy => rfl); intro w9 h9 M9; replace HR := Lib.hid h9; replace HB := Lib.hid (M9.below HB.out L1.out); clear h9 M9))
    exact bodyPost_ret (rget_results _ _ b1 _ _ _ _ HR.out rfl rfl rfl) rfl ⟨rfl, HB.out⟩
set_option maxHeartbeats 800000 in
theorem rget_4_no (s v : ByteArray) (k n : Nat) (c : Bool) (hx : v.toList.isEmpty = false) (CG : ∀ w, Calls Tryd.prog 30 #[.string s] w fun e w' => e = .returned (.tuple #[.agg #[.int .u8 (k : Int), .bool c, .string v], .int .i64 (n : Int), .int .i64 0]) ∧ Below w.heap.size w w') (CK : ∀ w, Calls Tryd.prog 27 #[.int .u8 (k : Int)] w fun e w' => e = .returned (.int .u8 4) ∧ Below w.heap.size w w') (w : World) :
    Calls Tryd.prog 16 #[.string s] w fun e w' => e = .returned (.tuple #[mv zero, .int .i64 0, .int .i64 70]) ∧ Below w.heap.size w w' := by
  have CGh := Lib.hid CG
  have CKh := Lib.hid CK
  clear CG CK
  go_enter Tryd.func16, Tryd.ntmps16
  go_wp2_with (first
    | ((with_reducible refine alm zeroR ?_); intro b1 w1 h1 F1; have HR := Lib.hid h1; have L1 := Lib.hid (Nat.le_of_eq F1.eq.symm); have HB := Lib.hid F1.below; clear h1 F1)
    | (go_at_call 30; ((with_reducible refine (CGh.out _).mono ?_); rintro e w2 ⟨rfl, hb⟩; replace HR := Lib.hid (stays HR.out hb); replace HB := Lib.hid (below_on HB.out hb); clear hb))
    | ((with_reducible refine alr zeroI ?_); intro b2 w3 h3 F3; have N12 := Lib.hid (F3.ne HR.out); replace HR := Lib.hid (F3.stays HR.out); have L2 := Lib.hid (F3.le HB.out); replace HB := Lib.hid (F3.on HB.out); have HI0 := Lib.hid h3; clear h3 F3)
    | ((with_reducible refine str #[.int .u8 (k : Int), .bool c, .string v] isI HI0.out ?h0 ?h1 ?hc ?hx ?hy ?_); (case h0 => rfl); (case h1 => rfl); (case hc => (simp [Value.oneCell'])); (case hx => rfl); (case hy => rfl); intro wx h4 M4; have HI := Lib.hid h4; replace HR := Lib.hid (M4.other N12.out HR.out); replace HB := Lib.hid (M4.below HB.out L2.out); clear h4 M4 HI0))
  refine wp_region_held_drew (S := fun w' => Below wx.heap.size wx w') (by kernel_rfl) (Below.refl _ _).drew (fun hHeld => ?_)
  refine' wpAnyH_take (i := 0) (oi := { dst := some 19, op := Go.Op.fieldAddr 69 (Go.Operand.tmp 5) 0, type := 0, pos := "ref.go:91", after := #[], guard := none }) (v := _) rfl (by kernel_rfl) (by kernel_rfl) (by kernel_rfl) (fun _ _ _ h => h) (Or.inl ⟨by rfl, ?hy67⟩) (by assumption) ?hr67
  case hy67 => (intro _ hSw; (try dsimp only at hSw); go_simp <;> with_reducible rfl)
  simp only [Act.put, List.setIfInBounds_toArray, List.set_cons_zero, List.set_cons_succ]
  refine' wpAnyH_take (i := 1) (oi := { dst := some 20, op := Go.Op.load 5 (Go.Operand.tmp 19), type := 5, pos := "ref.go:91", after := #[{ on := 0, ground := Go.Ground.data }], guard := none }) (v := _) rfl (by kernel_rfl) (by kernel_rfl) (by kernel_rfl) (fun _ _ _ h => h) (Or.inl ⟨by rfl, ?hy68⟩) (by assumption) ?hr68
  case hy68 => (intro _ hSw; (try dsimp only at hSw); obtain ⟨i0, i1, i2⟩ := item (stays HI.out hSw); go_simp <;> with_reducible rfl)
  simp only [Act.put, List.setIfInBounds_toArray, List.set_cons_zero, List.set_cons_succ]
  refine' wpAnyH_take (i := 3) (oi := { dst := some 22, op := Go.Op.fieldAddr 69 (Go.Operand.tmp 5) 1, type := 0, pos := "ref.go:91", after := #[], guard := none }) (v := _) rfl (by kernel_rfl) (by kernel_rfl) (by kernel_rfl) (fun _ _ _ h => h) (Or.inl ⟨by rfl, ?hy69⟩) (by assumption) ?hr69
  case hy69 => (intro _ hSw; (try dsimp only at hSw); go_simp <;> with_reducible rfl)
  simp only [Act.put, List.setIfInBounds_toArray, List.set_cons_zero, List.set_cons_succ]
  refine' wpAnyH_take (i := 4) (oi := { dst := some 23, op := Go.Op.load 4 (Go.Operand.tmp 22), type := 4, pos := "ref.go:91", after := #[{ on := 3, ground := Go.Ground.data }], guard := none }) (v := _) rfl (by kernel_rfl) (by kernel_rfl) (by kernel_rfl) (fun _ _ _ h => h) (Or.inl ⟨by rfl, ?hy70⟩) (by assumption) ?hr70
  case hy70 => (intro _ hSw; (try dsimp only at hSw); obtain ⟨i0, i1, i2⟩ := item (stays HI.out hSw); go_simp <;> with_reducible rfl)
  simp only [Act.put, List.setIfInBounds_toArray, List.set_cons_zero, List.set_cons_succ]
  refine wpAnyH_ready (rs := [2, 6]) (by kernel_rfl) (by simp) ?_
  refine AllReadyH.cons (o := { dst := some 21, op := Go.Op.call { callee := Go.Callee.value (Go.Operand.func 27), args := #[Go.Operand.tmp 20], argTypes := #[5] }, type := 5, pos := "ref.go:91", after := #[{ on := 1, ground := Go.Ground.data }], guard := none }) rfl (fun K hK => ?_) (AllReadyH.cons (o := { dst := some 8, op := Go.Op.alloc 36, type := 0, pos := "ref.go:91", after := #[], guard := none }) rfl (fun K hK => ?_) AllReadyH.nil)
  · go_simp
    (with_reducible refine (CKh.out _).mono ?_)
    rintro e wc ⟨rfl, hb⟩
    go_wp2_with fail
    refine hK.out _ _ (below_on hHeld hb) (fun hNext => ?_)
    clear hK K
    replace hHeld := hNext
    clear hNext
    (try simp only [Act.put, List.setIfInBounds_toArray, List.set_cons_zero, List.set_cons_succ])
    clear hb
    refine' wpAnyH_take (i := 5) (oi := { dst := some 24, op := Go.Op.build 36 #[(0, Go.Operand.tmp 21), (1, Go.Operand.tmp 23)], type := 36, pos := "ref.go:91", after := #[{ on := 2, ground := Go.Ground.data }, { on := 4, ground := Go.Ground.data }], guard := none }) (v := _) rfl (by kernel_rfl) (by kernel_rfl) (by kernel_rfl) (fun _ _ _ h => h) (Or.inl ⟨by rfl, ?hy71⟩) (by assumption) ?hr71
    case hy71 => (intro _ hSw; (try dsimp only at hSw); refine ex_bd ⟨4, c, Pn.zero, Msc.zero, 0, no⟩ ?_; kernel_rfl)
    simp only [Act.put, List.setIfInBounds_toArray, List.set_cons_zero, List.set_cons_succ]
    refine wpAnyH_ready (rs := [6]) (by kernel_rfl) (by simp) ?_
    refine AllReadyH.cons (o := { dst := some 8, op := Go.Op.alloc 36, type := 0, pos := "ref.go:91", after := #[], guard := none }) rfl (fun K hK => ?_) AllReadyH.nil
    rw [if_pos (by rfl)]
    refine wp_al zeroR ?_
    intro b3 u3 h3 F3
    have Lb3 := F3.le hHeld
    refine hK.out _ _ (F3.on hHeld) (fun hNext => ?_)
    clear hK K
    replace hHeld := hNext
    clear hNext
    (try simp only [Act.put, List.setIfInBounds_toArray, List.set_cons_zero, List.set_cons_succ])
    clear F3
    refine wpAnyH_ready (rs := [7]) (by kernel_rfl) (by simp) ?_
    refine AllReadyH.cons (o := { dst := none, op := Go.Op.store 36 (Go.Operand.tmp 8) (Go.Operand.tmp 24), type := 0, pos := "ref.go:91", after := #[{ on := 6, ground := Go.Ground.data }, { on := 5, ground := Go.Ground.data }, { on := 2, ground := Go.Ground.chain }, { on := 0, ground := Go.Ground.phase }, { on := 1, ground := Go.Ground.phase }, { on := 2, ground := Go.Ground.phase }, { on := 3, ground := Go.Ground.phase }, { on := 4, ground := Go.Ground.phase }, { on := 5, ground := Go.Ground.phase }, { on := 6, ground := Go.Ground.phase }], guard := none }) rfl (fun K hK => ?_) AllReadyH.nil
    rw [if_pos (by rfl)]
    refine wp_row (cs := mc ⟨4, c, Pn.zero, Msc.zero, 0, no⟩) isR h3 rfl rfl (one_all _) rfl rfl ?_
    intro u4 h4 M4
    refine hK.out _ _ (M4.below hHeld Lb3) (fun hNext => ?_)
    clear hK K
    replace hHeld := hNext
    clear hNext
    (try simp only [Act.put])
    clear M4 h3
    refine wpAnyH_done (by kernel_rfl) ?_ _
    have N13 : Hid (b1 ≠ b3) := Lib.hid (by have := lt_heap HR.out; omega)
    have N23 : Hid (b2 ≠ b3) := Lib.hid (by have := lt_heap HI.out; omega)
    have HN := Lib.hid h4
    have L3 : Hid (w.heap.size ≤ b3) := Lib.hid (by have := HB.out.size; omega)
    clear h4 Lb3
    replace HI := Lib.hid (stays HI.out hHeld)
    replace HR := Lib.hid (stays HR.out hHeld)
    replace HB := Lib.hid (below_on HB.out hHeld)
    clear hHeld
    obtain ⟨n0, n1, n18, n19⟩ := flds HN.out
    obtain ⟨i0, i1, i2⟩ := item HI.out
    go_wp2_with (first
      | ((with_reducible refine bdm (T := 36) (parts := #[]) zero ?hb ?_); (case hb => kernel_rfl))
      | ((with_reducible refine stm (m := zero) isR HR.out ?hx ?hy ?_); (case hx => rfl); (case hy => rfl); intro w9 h9 M9; replace HR := Lib.hid h9; replace HB := Lib.hid (M9.below HB.out L1.out); clear h9 M9))
    exact bodyPost_ret (rget_results _ _ b1 _ _ _ _ HR.out rfl rfl rfl) rfl ⟨rfl, HB.out⟩
  · rw [if_pos (by rfl)]
    refine wp_al zeroR ?_
    intro b3 u3 h3 F3
    have Lb3 := F3.le hHeld
    refine hK.out _ _ (F3.on hHeld) (fun hNext => ?_)
    clear hK K
    replace hHeld := hNext
    clear hNext
    (try simp only [Act.put, List.setIfInBounds_toArray, List.set_cons_zero, List.set_cons_succ])
    clear F3
    refine wpAnyH_ready (rs := [2]) (by kernel_rfl) (by simp) ?_
    refine AllReadyH.cons (o := { dst := some 21, op := Go.Op.call { callee := Go.Callee.value (Go.Operand.func 27), args := #[Go.Operand.tmp 20], argTypes := #[5] }, type := 5, pos := "ref.go:91", after := #[{ on := 1, ground := Go.Ground.data }], guard := none }) rfl (fun K hK => ?_) AllReadyH.nil
    go_simp
    (with_reducible refine (CKh.out _).mono ?_)
    rintro e wc ⟨rfl, hb⟩
    go_wp2_with fail
    replace h3 := stays h3 hb
    refine hK.out _ _ (below_on hHeld hb) (fun hNext => ?_)
    clear hK K
    replace hHeld := hNext
    clear hNext
    (try simp only [Act.put, List.setIfInBounds_toArray, List.set_cons_zero, List.set_cons_succ])
    clear hb
    refine' wpAnyH_take (i := 5) (oi := { dst := some 24, op := Go.Op.build 36 #[(0, Go.Operand.tmp 21), (1, Go.Operand.tmp 23)], type := 36, pos := "ref.go:91", after := #[{ on := 2, ground := Go.Ground.data }, { on := 4, ground := Go.Ground.data }], guard := none }) (v := _) rfl (by kernel_rfl) (by kernel_rfl) (by kernel_rfl) (fun _ _ _ h => h) (Or.inl ⟨by rfl, ?hy72⟩) (by assumption) ?hr72
    case hy72 => (intro _ hSw; (try dsimp only at hSw); refine ex_bd ⟨4, c, Pn.zero, Msc.zero, 0, no⟩ ?_; kernel_rfl)
    simp only [Act.put, List.setIfInBounds_toArray, List.set_cons_zero, List.set_cons_succ]
    refine wpAnyH_ready (rs := [7]) (by kernel_rfl) (by simp) ?_
    refine AllReadyH.cons (o := { dst := none, op := Go.Op.store 36 (Go.Operand.tmp 8) (Go.Operand.tmp 24), type := 0, pos := "ref.go:91", after := #[{ on := 6, ground := Go.Ground.data }, { on := 5, ground := Go.Ground.data }, { on := 2, ground := Go.Ground.chain }, { on := 0, ground := Go.Ground.phase }, { on := 1, ground := Go.Ground.phase }, { on := 2, ground := Go.Ground.phase }, { on := 3, ground := Go.Ground.phase }, { on := 4, ground := Go.Ground.phase }, { on := 5, ground := Go.Ground.phase }, { on := 6, ground := Go.Ground.phase }], guard := none }) rfl (fun K hK => ?_) AllReadyH.nil
    rw [if_pos (by rfl)]
    refine wp_row (cs := mc ⟨4, c, Pn.zero, Msc.zero, 0, no⟩) isR h3 rfl rfl (one_all _) rfl rfl ?_
    intro u4 h4 M4
    refine hK.out _ _ (M4.below hHeld Lb3) (fun hNext => ?_)
    clear hK K
    replace hHeld := hNext
    clear hNext
    (try simp only [Act.put])
    clear M4 h3
    refine wpAnyH_done (by kernel_rfl) ?_ _
    have N13 : Hid (b1 ≠ b3) := Lib.hid (by have := lt_heap HR.out; omega)
    have N23 : Hid (b2 ≠ b3) := Lib.hid (by have := lt_heap HI.out; omega)
    have HN := Lib.hid h4
    have L3 : Hid (w.heap.size ≤ b3) := Lib.hid (by have := HB.out.size; omega)
    clear h4 Lb3
    replace HI := Lib.hid (stays HI.out hHeld)
    replace HR := Lib.hid (stays HR.out hHeld)
    replace HB := Lib.hid (below_on HB.out hHeld)
    clear hHeld
    obtain ⟨n0, n1, n18, n19⟩ := flds HN.out
    obtain ⟨i0, i1, i2⟩ := item HI.out
    go_wp2_with (first
      | ((with_reducible refine bdm (T := 36) (parts := #[]) zero ?hb ?_); (case hb => kernel_rfl))
      | ((with_reducible refine stm (m := zero) isR HR.out ?hx ?hy ?_); (case hx => rfl); (case hy => rfl); intro w9 h9 M9; replace HR := Lib.hid h9; replace HB := Lib.hid (M9.below HB.out L1.out); clear h9 M9))
    exact bodyPost_ret (rget_results _ _ b1 _ _ _ _ HR.out rfl rfl rfl) rfl ⟨rfl, HB.out⟩
set_option maxHeartbeats 800000 in
theorem rget_6_yes (s v : ByteArray) (k n : Nat) (c : Bool) (hx : v.toList.isEmpty = true) (CG : ∀ w, Calls Tryd.prog 30 #[.string s] w fun e w' => e = .returned (.tuple #[.agg #[.int .u8 (k : Int), .bool c, .string v], .int .i64 (n : Int), .int .i64 0]) ∧ Below w.heap.size w w') (CK : ∀ w, Calls Tryd.prog 27 #[.int .u8 (k : Int)] w fun e w' => e = .returned (.int .u8 6) ∧ Below w.heap.size w w') (w : World) :
    Calls Tryd.prog 16 #[.string s] w fun e w' => e = .returned (.tuple #[mv ⟨6, c, Pn.zero, Msc.zero, 0, no⟩, .int .i64 (n : Int), .int .i64 0]) ∧ Below w.heap.size w w' := by
  have CGh := Lib.hid CG
  have CKh := Lib.hid CK
  clear CG CK
  go_enter Tryd.func16, Tryd.ntmps16
  go_wp2_with (first
    | ((with_reducible refine alm zeroR ?_); intro b1 w1 h1 F1; have HR := Lib.hid h1; have L1 := Lib.hid (Nat.le_of_eq F1.eq.symm); have HB := Lib.hid F1.below; clear h1 F1)
    | (go_at_call 30; ((with_reducible refine (CGh.out _).mono ?_); rintro e w2 ⟨rfl, hb⟩; replace HR := Lib.hid (stays HR.out hb); replace HB := Lib.hid (below_on HB.out hb); clear hb))
    | ((with_reducible refine alr zeroI ?_); intro b2 w3 h3 F3; have N12 := Lib.hid (F3.ne HR.out); replace HR := Lib.hid (F3.stays HR.out); have L2 := Lib.hid (F3.le HB.out); replace HB := Lib.hid (F3.on HB.out); have HI0 := Lib.hid h3; clear h3 F3)
    | ((with_reducible refine str #[.int .u8 (k : Int), .bool c, .string v] isI HI0.out ?h0 ?h1 ?hc ?hx ?hy ?_); (case h0 => rfl); (case h1 => rfl); (case hc => (simp [Value.oneCell'])); (case hx => rfl); (case hy => rfl); intro wx h4 M4; have HI := Lib.hid h4; replace HR := Lib.hid (M4.other N12.out HR.out); replace HB := Lib.hid (M4.below HB.out L2.out); clear h4 M4 HI0))
  refine wp_region_held_drew (S := fun w' => Below wx.heap.size wx w') (by kernel_rfl) (Below.refl _ _).drew (fun hHeld => ?_)
  refine' wpAnyH_take (i := 0) (oi := { dst := some 19, op := Go.Op.fieldAddr 69 (Go.Operand.tmp 5) 0, type := 0, pos := "ref.go:91", after := #[], guard := none }) (v := _) rfl (by kernel_rfl) (by kernel_rfl) (by kernel_rfl) (fun _ _ _ h => h) (Or.inl ⟨by rfl, ?hy73⟩) (by assumption) ?hr73
  case hy73 => (intro _ hSw; (try dsimp only at hSw); go_simp <;> with_reducible rfl)
  simp only [Act.put, List.setIfInBounds_toArray, List.set_cons_zero, List.set_cons_succ]
  refine' wpAnyH_take (i := 1) (oi := { dst := some 20, op := Go.Op.load 5 (Go.Operand.tmp 19), type := 5, pos := "ref.go:91", after := #[{ on := 0, ground := Go.Ground.data }], guard := none }) (v := _) rfl (by kernel_rfl) (by kernel_rfl) (by kernel_rfl) (fun _ _ _ h => h) (Or.inl ⟨by rfl, ?hy74⟩) (by assumption) ?hr74
  case hy74 => (intro _ hSw; (try dsimp only at hSw); obtain ⟨i0, i1, i2⟩ := item (stays HI.out hSw); go_simp <;> with_reducible rfl)
  simp only [Act.put, List.setIfInBounds_toArray, List.set_cons_zero, List.set_cons_succ]
  refine' wpAnyH_take (i := 3) (oi := { dst := some 22, op := Go.Op.fieldAddr 69 (Go.Operand.tmp 5) 1, type := 0, pos := "ref.go:91", after := #[], guard := none }) (v := _) rfl (by kernel_rfl) (by kernel_rfl) (by kernel_rfl) (fun _ _ _ h => h) (Or.inl ⟨by rfl, ?hy75⟩) (by assumption) ?hr75
  case hy75 => (intro _ hSw; (try dsimp only at hSw); go_simp <;> with_reducible rfl)
  simp only [Act.put, List.setIfInBounds_toArray, List.set_cons_zero, List.set_cons_succ]
  refine' wpAnyH_take (i := 4) (oi := { dst := some 23, op := Go.Op.load 4 (Go.Operand.tmp 22), type := 4, pos := "ref.go:91", after := #[{ on := 3, ground := Go.Ground.data }], guard := none }) (v := _) rfl (by kernel_rfl) (by kernel_rfl) (by kernel_rfl) (fun _ _ _ h => h) (Or.inl ⟨by rfl, ?hy76⟩) (by assumption) ?hr76
  case hy76 => (intro _ hSw; (try dsimp only at hSw); obtain ⟨i0, i1, i2⟩ := item (stays HI.out hSw); go_simp <;> with_reducible rfl)
  simp only [Act.put, List.setIfInBounds_toArray, List.set_cons_zero, List.set_cons_succ]
  refine wpAnyH_ready (rs := [2, 6]) (by kernel_rfl) (by simp) ?_
  refine AllReadyH.cons (o := { dst := some 21, op := Go.Op.call { callee := Go.Callee.value (Go.Operand.func 27), args := #[Go.Operand.tmp 20], argTypes := #[5] }, type := 5, pos := "ref.go:91", after := #[{ on := 1, ground := Go.Ground.data }], guard := none }) rfl (fun K hK => ?_) (AllReadyH.cons (o := { dst := some 8, op := Go.Op.alloc 36, type := 0, pos := "ref.go:91", after := #[], guard := none }) rfl (fun K hK => ?_) AllReadyH.nil)
  · go_simp
    (with_reducible refine (CKh.out _).mono ?_)
    rintro e wc ⟨rfl, hb⟩
    go_wp2_with fail
    refine hK.out _ _ (below_on hHeld hb) (fun hNext => ?_)
    clear hK K
    replace hHeld := hNext
    clear hNext
    (try simp only [Act.put, List.setIfInBounds_toArray, List.set_cons_zero, List.set_cons_succ])
    clear hb
    refine' wpAnyH_take (i := 5) (oi := { dst := some 24, op := Go.Op.build 36 #[(0, Go.Operand.tmp 21), (1, Go.Operand.tmp 23)], type := 36, pos := "ref.go:91", after := #[{ on := 2, ground := Go.Ground.data }, { on := 4, ground := Go.Ground.data }], guard := none }) (v := _) rfl (by kernel_rfl) (by kernel_rfl) (by kernel_rfl) (fun _ _ _ h => h) (Or.inl ⟨by rfl, ?hy77⟩) (by assumption) ?hr77
    case hy77 => (intro _ hSw; (try dsimp only at hSw); refine ex_bd ⟨6, c, Pn.zero, Msc.zero, 0, no⟩ ?_; kernel_rfl)
    simp only [Act.put, List.setIfInBounds_toArray, List.set_cons_zero, List.set_cons_succ]
    refine wpAnyH_ready (rs := [6]) (by kernel_rfl) (by simp) ?_
    refine AllReadyH.cons (o := { dst := some 8, op := Go.Op.alloc 36, type := 0, pos := "ref.go:91", after := #[], guard := none }) rfl (fun K hK => ?_) AllReadyH.nil
    rw [if_pos (by rfl)]
    refine wp_al zeroR ?_
    intro b3 u3 h3 F3
    have Lb3 := F3.le hHeld
    refine hK.out _ _ (F3.on hHeld) (fun hNext => ?_)
    clear hK K
    replace hHeld := hNext
    clear hNext
    (try simp only [Act.put, List.setIfInBounds_toArray, List.set_cons_zero, List.set_cons_succ])
    clear F3
    refine wpAnyH_ready (rs := [7]) (by kernel_rfl) (by simp) ?_
    refine AllReadyH.cons (o := { dst := none, op := Go.Op.store 36 (Go.Operand.tmp 8) (Go.Operand.tmp 24), type := 0, pos := "ref.go:91", after := #[{ on := 6, ground := Go.Ground.data }, { on := 5, ground := Go.Ground.data }, { on := 2, ground := Go.Ground.chain }, { on := 0, ground := Go.Ground.phase }, { on := 1, ground := Go.Ground.phase }, { on := 2, ground := Go.Ground.phase }, { on := 3, ground := Go.Ground.phase }, { on := 4, ground := Go.Ground.phase }, { on := 5, ground := Go.Ground.phase }, { on := 6, ground := Go.Ground.phase }], guard := none }) rfl (fun K hK => ?_) AllReadyH.nil
    rw [if_pos (by rfl)]
    refine wp_row (cs := mc ⟨6, c, Pn.zero, Msc.zero, 0, no⟩) isR h3 rfl rfl (one_all _) rfl rfl ?_
    intro u4 h4 M4
    refine hK.out _ _ (M4.below hHeld Lb3) (fun hNext => ?_)
    clear hK K
    replace hHeld := hNext
    clear hNext
    (try simp only [Act.put])
    clear M4 h3
    refine wpAnyH_done (by kernel_rfl) ?_ _
    have N13 : Hid (b1 ≠ b3) := Lib.hid (by have := lt_heap HR.out; omega)
    have N23 : Hid (b2 ≠ b3) := Lib.hid (by have := lt_heap HI.out; omega)
    have HN := Lib.hid h4
    have L3 : Hid (w.heap.size ≤ b3) := Lib.hid (by have := HB.out.size; omega)
    clear h4 Lb3
    replace HI := Lib.hid (stays HI.out hHeld)
    replace HR := Lib.hid (stays HR.out hHeld)
    replace HB := Lib.hid (below_on HB.out hHeld)
    clear hHeld
    obtain ⟨n0, n1, n18, n19⟩ := flds HN.out
    obtain ⟨i0, i1, i2⟩ := item HI.out
    go_wp2_with (first
      | ((with_reducible refine ldm isR HN.out ?hx ?_); (case hx => rfl))
      | ((with_reducible refine stm (m := ⟨6, c, Pn.zero, Msc.zero, 0, no⟩) isR HR.out ?hx ?hy ?_); (case hx => rfl); (case hy => rfl); intro w9 h9 M9; replace HR := Lib.hid h9; replace HB := Lib.hid (M9.below HB.out L1.out); clear h9 M9))
    exact bodyPost_ret (rget_results _ _ b1 _ _ _ _ HR.out rfl rfl rfl) rfl ⟨rfl, HB.out⟩
  · rw [if_pos (by rfl)]
    refine wp_al zeroR ?_
    intro b3 u3 h3 F3
    have Lb3 := F3.le hHeld
    refine hK.out _ _ (F3.on hHeld) (fun hNext => ?_)
    clear hK K
    replace hHeld := hNext
    clear hNext
    (try simp only [Act.put, List.setIfInBounds_toArray, List.set_cons_zero, List.set_cons_succ])
    clear F3
    refine wpAnyH_ready (rs := [2]) (by kernel_rfl) (by simp) ?_
    refine AllReadyH.cons (o := { dst := some 21, op := Go.Op.call { callee := Go.Callee.value (Go.Operand.func 27), args := #[Go.Operand.tmp 20], argTypes := #[5] }, type := 5, pos := "ref.go:91", after := #[{ on := 1, ground := Go.Ground.data }], guard := none }) rfl (fun K hK => ?_) AllReadyH.nil
    go_simp
    (with_reducible refine (CKh.out _).mono ?_)
    rintro e wc ⟨rfl, hb⟩
    go_wp2_with fail
    replace h3 := stays h3 hb
    refine hK.out _ _ (below_on hHeld hb) (fun hNext => ?_)
    clear hK K
    replace hHeld := hNext
    clear hNext
    (try simp only [Act.put, List.setIfInBounds_toArray, List.set_cons_zero, List.set_cons_succ])
    clear hb
    refine' wpAnyH_take (i := 5) (oi := { dst := some 24, op := Go.Op.build 36 #[(0, Go.Operand.tmp 21), (1, Go.Operand.tmp 23)], type := 36, pos := "ref.go:91", after := #[{ on := 2, ground := Go.Ground.data }, { on := 4, ground := Go.Ground.data }], guard := none }) (v := _) rfl (by kernel_rfl) (by kernel_rfl) (by kernel_rfl) (fun _ _ _ h => h) (Or.inl ⟨by rfl, ?hy78⟩) (by assumption) ?hr78
    case hy78 => (intro _ hSw; (try dsimp only at hSw); refine ex_bd ⟨6, c, Pn.zero, Msc.zero, 0, no⟩ ?_; kernel_rfl)
    simp only [Act.put, List.setIfInBounds_toArray, List.set_cons_zero, List.set_cons_succ]
    refine wpAnyH_ready (rs := [7]) (by kernel_rfl) (by simp) ?_
    refine AllReadyH.cons (o := { dst := none, op := Go.Op.store 36 (Go.Operand.tmp 8) (Go.Operand.tmp 24), type := 0, pos := "ref.go:91", after := #[{ on := 6, ground := Go.Ground.data }, { on := 5, ground := Go.Ground.data }, { on := 2, ground := Go.Ground.chain }, { on := 0, ground := Go.Ground.phase }, { on := 1, ground := Go.Ground.phase }, { on := 2, ground := Go.Ground.phase }, { on := 3, ground := Go.Ground.phase }, { on := 4, ground := Go.Ground.phase }, { on := 5, ground := Go.Ground.phase }, { on := 6, ground := Go.Ground.phase }], guard := none }) rfl (fun K hK => ?_) AllReadyH.nil
    rw [if_pos (by rfl)]
    refine wp_row (cs := mc ⟨6, c, Pn.zero, Msc.zero, 0, no⟩) isR h3 rfl rfl (one_all _) rfl rfl ?_
    intro u4 h4 M4
    refine hK.out _ _ (M4.below hHeld Lb3) (fun hNext => ?_)
    clear hK K
    replace hHeld := hNext
    clear hNext
    (try simp only [Act.put])
    clear M4 h3
    refine wpAnyH_done (by kernel_rfl) ?_ _
    have N13 : Hid (b1 ≠ b3) := Lib.hid (by have := lt_heap HR.out; omega)
    have N23 : Hid (b2 ≠ b3) := Lib.hid (by have := lt_heap HI.out; omega)
    have HN := Lib.hid h4
    have L3 : Hid (w.heap.size ≤ b3) := Lib.hid (by have := HB.out.size; omega)
    clear h4 Lb3
    replace HI := Lib.hid (stays HI.out hHeld)
    replace HR := Lib.hid (stays HR.out hHeld)
    replace HB := Lib.hid (below_on HB.out hHeld)
    clear hHeld
    obtain ⟨n0, n1, n18, n19⟩ := flds HN.out
    obtain ⟨i0, i1, i2⟩ := item HI.out
    go_wp2_with (first
      | ((with_reducible refine ldm isR HN.out ?hx ?_); (case hx => rfl))
      | ((with_reducible refine stm (m := ⟨6, c, Pn.zero, Msc.zero, 0, no⟩) isR HR.out ?hx ?hy ?_); (case hx => rfl); (case hy => rfl); intro w9 h9 M9; replace HR := Lib.hid h9; replace HB := Lib.hid (M9.below HB.out L1.out); clear h9 M9))
    exact bodyPost_ret (rget_results _ _ b1 _ _ _ _ HR.out rfl rfl rfl) rfl ⟨rfl, HB.out⟩
set_option maxHeartbeats 800000 in
theorem rget_6_no (s v : ByteArray) (k n : Nat) (c : Bool) (hx : v.toList.isEmpty = false) (CG : ∀ w, Calls Tryd.prog 30 #[.string s] w fun e w' => e = .returned (.tuple #[.agg #[.int .u8 (k : Int), .bool c, .string v], .int .i64 (n : Int), .int .i64 0]) ∧ Below w.heap.size w w') (CK : ∀ w, Calls Tryd.prog 27 #[.int .u8 (k : Int)] w fun e w' => e = .returned (.int .u8 6) ∧ Below w.heap.size w w') (w : World) :
    Calls Tryd.prog 16 #[.string s] w fun e w' => e = .returned (.tuple #[mv zero, .int .i64 0, .int .i64 70]) ∧ Below w.heap.size w w' := by
  have CGh := Lib.hid CG
  have CKh := Lib.hid CK
  clear CG CK
  go_enter Tryd.func16, Tryd.ntmps16
  go_wp2_with (first
    | ((with_reducible refine alm zeroR ?_); intro b1 w1 h1 F1; have HR := Lib.hid h1; have L1 := Lib.hid (Nat.le_of_eq F1.eq.symm); have HB := Lib.hid F1.below; clear h1 F1)
    | (go_at_call 30; ((with_reducible refine (CGh.out _).mono ?_); rintro e w2 ⟨rfl, hb⟩; replace HR := Lib.hid (stays HR.out hb); replace HB := Lib.hid (below_on HB.out hb); clear hb))
    | ((with_reducible refine alr zeroI ?_); intro b2 w3 h3 F3; have N12 := Lib.hid (F3.ne HR.out); replace HR := Lib.hid (F3.stays HR.out); have L2 := Lib.hid (F3.le HB.out); replace HB := Lib.hid (F3.on HB.out); have HI0 := Lib.hid h3; clear h3 F3)
    | ((with_reducible refine str #[.int .u8 (k : Int), .bool c, .string v] isI HI0.out ?h0 ?h1 ?hc ?hx ?hy ?_); (case h0 => rfl); (case h1 => rfl); (case hc => (simp [Value.oneCell'])); (case hx => rfl); (case hy => rfl); intro wx h4 M4; have HI := Lib.hid h4; replace HR := Lib.hid (M4.other N12.out HR.out); replace HB := Lib.hid (M4.below HB.out L2.out); clear h4 M4 HI0))
  refine wp_region_held_drew (S := fun w' => Below wx.heap.size wx w') (by kernel_rfl) (Below.refl _ _).drew (fun hHeld => ?_)
  refine' wpAnyH_take (i := 0) (oi := { dst := some 19, op := Go.Op.fieldAddr 69 (Go.Operand.tmp 5) 0, type := 0, pos := "ref.go:91", after := #[], guard := none }) (v := _) rfl (by kernel_rfl) (by kernel_rfl) (by kernel_rfl) (fun _ _ _ h => h) (Or.inl ⟨by rfl, ?hy79⟩) (by assumption) ?hr79
  case hy79 => (intro _ hSw; (try dsimp only at hSw); go_simp <;> with_reducible rfl)
  simp only [Act.put, List.setIfInBounds_toArray, List.set_cons_zero, List.set_cons_succ]
  refine' wpAnyH_take (i := 1) (oi := { dst := some 20, op := Go.Op.load 5 (Go.Operand.tmp 19), type := 5, pos := "ref.go:91", after := #[{ on := 0, ground := Go.Ground.data }], guard := none }) (v := _) rfl (by kernel_rfl) (by kernel_rfl) (by kernel_rfl) (fun _ _ _ h => h) (Or.inl ⟨by rfl, ?hy80⟩) (by assumption) ?hr80
  case hy80 => (intro _ hSw; (try dsimp only at hSw); obtain ⟨i0, i1, i2⟩ := item (stays HI.out hSw); go_simp <;> with_reducible rfl)
  simp only [Act.put, List.setIfInBounds_toArray, List.set_cons_zero, List.set_cons_succ]
  refine' wpAnyH_take (i := 3) (oi := { dst := some 22, op := Go.Op.fieldAddr 69 (Go.Operand.tmp 5) 1, type := 0, pos := "ref.go:91", after := #[], guard := none }) (v := _) rfl (by kernel_rfl) (by kernel_rfl) (by kernel_rfl) (fun _ _ _ h => h) (Or.inl ⟨by rfl, ?hy81⟩) (by assumption) ?hr81
  case hy81 => (intro _ hSw; (try dsimp only at hSw); go_simp <;> with_reducible rfl)
  simp only [Act.put, List.setIfInBounds_toArray, List.set_cons_zero, List.set_cons_succ]
  refine' wpAnyH_take (i := 4) (oi := { dst := some 23, op := Go.Op.load 4 (Go.Operand.tmp 22), type := 4, pos := "ref.go:91", after := #[{ on := 3, ground := Go.Ground.data }], guard := none }) (v := _) rfl (by kernel_rfl) (by kernel_rfl) (by kernel_rfl) (fun _ _ _ h => h) (Or.inl ⟨by rfl, ?hy82⟩) (by assumption) ?hr82
  case hy82 => (intro _ hSw; (try dsimp only at hSw); obtain ⟨i0, i1, i2⟩ := item (stays HI.out hSw); go_simp <;> with_reducible rfl)
  simp only [Act.put, List.setIfInBounds_toArray, List.set_cons_zero, List.set_cons_succ]
  refine wpAnyH_ready (rs := [2, 6]) (by kernel_rfl) (by simp) ?_
  refine AllReadyH.cons (o := { dst := some 21, op := Go.Op.call { callee := Go.Callee.value (Go.Operand.func 27), args := #[Go.Operand.tmp 20], argTypes := #[5] }, type := 5, pos := "ref.go:91", after := #[{ on := 1, ground := Go.Ground.data }], guard := none }) rfl (fun K hK => ?_) (AllReadyH.cons (o := { dst := some 8, op := Go.Op.alloc 36, type := 0, pos := "ref.go:91", after := #[], guard := none }) rfl (fun K hK => ?_) AllReadyH.nil)
  · go_simp
    (with_reducible refine (CKh.out _).mono ?_)
    rintro e wc ⟨rfl, hb⟩
    go_wp2_with fail
    refine hK.out _ _ (below_on hHeld hb) (fun hNext => ?_)
    clear hK K
    replace hHeld := hNext
    clear hNext
    (try simp only [Act.put, List.setIfInBounds_toArray, List.set_cons_zero, List.set_cons_succ])
    clear hb
    refine' wpAnyH_take (i := 5) (oi := { dst := some 24, op := Go.Op.build 36 #[(0, Go.Operand.tmp 21), (1, Go.Operand.tmp 23)], type := 36, pos := "ref.go:91", after := #[{ on := 2, ground := Go.Ground.data }, { on := 4, ground := Go.Ground.data }], guard := none }) (v := _) rfl (by kernel_rfl) (by kernel_rfl) (by kernel_rfl) (fun _ _ _ h => h) (Or.inl ⟨by rfl, ?hy83⟩) (by assumption) ?hr83
    case hy83 => (intro _ hSw; (try dsimp only at hSw); refine ex_bd ⟨6, c, Pn.zero, Msc.zero, 0, no⟩ ?_; kernel_rfl)
    simp only [Act.put, List.setIfInBounds_toArray, List.set_cons_zero, List.set_cons_succ]
    refine wpAnyH_ready (rs := [6]) (by kernel_rfl) (by simp) ?_
    refine AllReadyH.cons (o := { dst := some 8, op := Go.Op.alloc 36, type := 0, pos := "ref.go:91", after := #[], guard := none }) rfl (fun K hK => ?_) AllReadyH.nil
    rw [if_pos (by rfl)]
    refine wp_al zeroR ?_
    intro b3 u3 h3 F3
    have Lb3 := F3.le hHeld
    refine hK.out _ _ (F3.on hHeld) (fun hNext => ?_)
    clear hK K
    replace hHeld := hNext
    clear hNext
    (try simp only [Act.put, List.setIfInBounds_toArray, List.set_cons_zero, List.set_cons_succ])
    clear F3
    refine wpAnyH_ready (rs := [7]) (by kernel_rfl) (by simp) ?_
    refine AllReadyH.cons (o := { dst := none, op := Go.Op.store 36 (Go.Operand.tmp 8) (Go.Operand.tmp 24), type := 0, pos := "ref.go:91", after := #[{ on := 6, ground := Go.Ground.data }, { on := 5, ground := Go.Ground.data }, { on := 2, ground := Go.Ground.chain }, { on := 0, ground := Go.Ground.phase }, { on := 1, ground := Go.Ground.phase }, { on := 2, ground := Go.Ground.phase }, { on := 3, ground := Go.Ground.phase }, { on := 4, ground := Go.Ground.phase }, { on := 5, ground := Go.Ground.phase }, { on := 6, ground := Go.Ground.phase }], guard := none }) rfl (fun K hK => ?_) AllReadyH.nil
    rw [if_pos (by rfl)]
    refine wp_row (cs := mc ⟨6, c, Pn.zero, Msc.zero, 0, no⟩) isR h3 rfl rfl (one_all _) rfl rfl ?_
    intro u4 h4 M4
    refine hK.out _ _ (M4.below hHeld Lb3) (fun hNext => ?_)
    clear hK K
    replace hHeld := hNext
    clear hNext
    (try simp only [Act.put])
    clear M4 h3
    refine wpAnyH_done (by kernel_rfl) ?_ _
    have N13 : Hid (b1 ≠ b3) := Lib.hid (by have := lt_heap HR.out; omega)
    have N23 : Hid (b2 ≠ b3) := Lib.hid (by have := lt_heap HI.out; omega)
    have HN := Lib.hid h4
    have L3 : Hid (w.heap.size ≤ b3) := Lib.hid (by have := HB.out.size; omega)
    clear h4 Lb3
    replace HI := Lib.hid (stays HI.out hHeld)
    replace HR := Lib.hid (stays HR.out hHeld)
    replace HB := Lib.hid (below_on HB.out hHeld)
    clear hHeld
    obtain ⟨n0, n1, n18, n19⟩ := flds HN.out
    obtain ⟨i0, i1, i2⟩ := item HI.out
    go_wp2_with (first
      | ((with_reducible refine bdm (T := 36) (parts := #[]) zero ?hb ?_); (case hb => kernel_rfl))
      | ((with_reducible refine stm (m := zero) isR HR.out ?hx ?hy ?_); (case hx => rfl); (case hy => rfl); intro w9 h9 M9; replace HR := Lib.hid h9; replace HB := Lib.hid (M9.below HB.out L1.out); clear h9 M9))
    exact bodyPost_ret (rget_results _ _ b1 _ _ _ _ HR.out rfl rfl rfl) rfl ⟨rfl, HB.out⟩
  · rw [if_pos (by rfl)]
    refine wp_al zeroR ?_
    intro b3 u3 h3 F3
    have Lb3 := F3.le hHeld
    refine hK.out _ _ (F3.on hHeld) (fun hNext => ?_)
    clear hK K
    replace hHeld := hNext
    clear hNext
    (try simp only [Act.put, List.setIfInBounds_toArray, List.set_cons_zero, List.set_cons_succ])
    clear F3
    refine wpAnyH_ready (rs := [2]) (by kernel_rfl) (by simp) ?_
    refine AllReadyH.cons (o := { dst := some 21, op := Go.Op.call { callee := Go.Callee.value (Go.Operand.func 27), args := #[Go.Operand.tmp 20], argTypes := #[5] }, type := 5, pos := "ref.go:91", after := #[{ on := 1, ground := Go.Ground.data }], guard := none }) rfl (fun K hK => ?_) AllReadyH.nil
    go_simp
    (with_reducible refine (CKh.out _).mono ?_)
    rintro e wc ⟨rfl, hb⟩
    go_wp2_with fail
    replace h3 := stays h3 hb
    refine hK.out _ _ (below_on hHeld hb) (fun hNext => ?_)
    clear hK K
    replace hHeld := hNext
    clear hNext
    (try simp only [Act.put, List.setIfInBounds_toArray, List.set_cons_zero, List.set_cons_succ])
    clear hb
    refine' wpAnyH_take (i := 5) (oi := { dst := some 24, op := Go.Op.build 36 #[(0, Go.Operand.tmp 21), (1, Go.Operand.tmp 23)], type := 36, pos := "ref.go:91", after := #[{ on := 2, ground := Go.Ground.data }, { on := 4, ground := Go.Ground.data }], guard := none }) (v := _) rfl (by kernel_rfl) (by kernel_rfl) (by kernel_rfl) (fun _ _ _ h => h) (Or.inl ⟨by rfl, ?hy84⟩) (by assumption) ?hr84
    case hy84 => (intro _ hSw; (try dsimp only at hSw); refine ex_bd ⟨6, c, Pn.zero, Msc.zero, 0, no⟩ ?_; kernel_rfl)
    simp only [Act.put, List.setIfInBounds_toArray, List.set_cons_zero, List.set_cons_succ]
    refine wpAnyH_ready (rs := [7]) (by kernel_rfl) (by simp) ?_
    refine AllReadyH.cons (o := { dst := none, op := Go.Op.store 36 (Go.Operand.tmp 8) (Go.Operand.tmp 24), type := 0, pos := "ref.go:91", after := #[{ on := 6, ground := Go.Ground.data }, { on := 5, ground := Go.Ground.data }, { on := 2, ground := Go.Ground.chain }, { on := 0, ground := Go.Ground.phase }, { on := 1, ground := Go.Ground.phase }, { on := 2, ground := Go.Ground.phase }, { on := 3, ground := Go.Ground.phase }, { on := 4, ground := Go.Ground.phase }, { on := 5, ground := Go.Ground.phase }, { on := 6, ground := Go.Ground.phase }], guard := none }) rfl (fun K hK => ?_) AllReadyH.nil
    rw [if_pos (by rfl)]
    refine wp_row (cs := mc ⟨6, c, Pn.zero, Msc.zero, 0, no⟩) isR h3 rfl rfl (one_all _) rfl rfl ?_
    intro u4 h4 M4
    refine hK.out _ _ (M4.below hHeld Lb3) (fun hNext => ?_)
    clear hK K
    replace hHeld := hNext
    clear hNext
    (try simp only [Act.put])
    clear M4 h3
    refine wpAnyH_done (by kernel_rfl) ?_ _
    have N13 : Hid (b1 ≠ b3) := Lib.hid (by have := lt_heap HR.out; omega)
    have N23 : Hid (b2 ≠ b3) := Lib.hid (by have := lt_heap HI.out; omega)
    have HN := Lib.hid h4
    have L3 : Hid (w.heap.size ≤ b3) := Lib.hid (by have := HB.out.size; omega)
    clear h4 Lb3
    replace HI := Lib.hid (stays HI.out hHeld)
    replace HR := Lib.hid (stays HR.out hHeld)
    replace HB := Lib.hid (below_on HB.out hHeld)
    clear hHeld
    obtain ⟨n0, n1, n18, n19⟩ := flds HN.out
    obtain ⟨i0, i1, i2⟩ := item HI.out
    go_wp2_with (first
      | ((with_reducible refine bdm (T := 36) (parts := #[]) zero ?hb ?_); (case hb => kernel_rfl))
      | ((with_reducible refine stm (m := zero) isR HR.out ?hx ?hy ?_); (case hx => rfl); (case hy => rfl); intro w9 h9 M9; replace HR := Lib.hid h9; replace HB := Lib.hid (M9.below HB.out L1.out); clear h9 M9))
    exact bodyPost_ret (rget_results _ _ b1 _ _ _ _ HR.out rfl rfl rfl) rfl ⟨rfl, HB.out⟩
end Go.Proofs.YtffahjlboakakaaDoor.Msgs
