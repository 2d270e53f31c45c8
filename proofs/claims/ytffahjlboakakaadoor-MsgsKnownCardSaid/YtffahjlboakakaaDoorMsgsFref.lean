/-
  What the law's ref answers: the message as it is. No condition.
-/
import Derived.Test.YtffahjlboakakaaDoorMsgsVal
namespace Go.Proofs.YtffahjlboakakaaDoor.Msgs
open Go.RowKit Go.Proofs.YtffahjlboakakaaDoor.Base Go.Proofs.YtffahjlboakakaaDoor.Mem
set_option maxRecDepth 20000
set_option maxHeartbeats 800000 in
theorem fref (m : Ms) (w : World) :
    Calls Tryd.prog 10 #[mv m] w fun e w' => e = .returned (mv m) ∧ Below w.heap.size w w' := by
  go_enter Tryd.func10, Tryd.ntmps10
  go_wp2_with (first
    | ((with_reducible refine bxm (m := m) ?hx ?_); (case hx => rfl); intro b1 w1 h1 F1; have HM := Lib.hid h1; have HB := Lib.hid F1.below; clear h1 F1)
    | ((with_reducible refine alm zeroR ?_); intro b2 wx h2 F2; replace HM := Lib.hid (F2.stays HM.out); have HR := Lib.hid h2; have L2 := Lib.hid (F2.le HB.out); replace HB := Lib.hid (F2.on HB.out); clear h2 F2))
  refine wp_region_held_drew (S := fun w' => Below wx.heap.size wx w') (by kernel_rfl) (Below.refl _ _).drew (fun hHeld => ?_)
  refine' wpAnyH_take (i := 0) (oi := { dst := some 5, op := Go.Op.fieldAddr 27 (Go.Operand.tmp 1) 2, type := 0, pos := "law.go:16", after := #[], guard := none }) (v := _) rfl (by kernel_rfl) (by kernel_rfl) (by kernel_rfl) (fun _ _ _ h => h) (Or.inl ⟨by rfl, ?hy1⟩) (by assumption) ?hr1
  case hy1 => (intro _ hSw; (try dsimp only at hSw); go_simp <;> with_reducible rfl)
  simp only [Act.put, List.setIfInBounds_toArray, List.set_cons_zero, List.set_cons_succ]
  refine' wpAnyH_take (i := 1) (oi := { dst := some 6, op := Go.Op.load 23 (Go.Operand.tmp 5), type := 23, pos := "law.go:16", after := #[{ on := 0, ground := Go.Ground.data }], guard := none }) (v := _) rfl (by kernel_rfl) (by kernel_rfl) (by kernel_rfl) (fun _ _ _ h => h) (Or.inl ⟨by rfl, ?hy2⟩) (by assumption) ?hr2
  case hy2 => (intro _ hSw; (try dsimp only at hSw); refine ex_ldp isP (stays HM.out hSw) ?_; rfl)
  simp only [Act.put, List.setIfInBounds_toArray, List.set_cons_zero, List.set_cons_succ]
  refine' wpAnyH_take (i := 2) (oi := { dst := some 7, op := Go.Op.fieldAddr 27 (Go.Operand.tmp 1) 3, type := 0, pos := "law.go:16", after := #[{ on := 6, ground := Go.Ground.gcOnly Go.Departure.lateStores }], guard := none }) (v := _) rfl (by kernel_rfl) (by kernel_rfl) (by kernel_rfl) (fun _ _ _ h => h) (Or.inl ⟨by rfl, ?hy3⟩) (by assumption) ?hr3
  case hy3 => (intro _ hSw; (try dsimp only at hSw); go_simp <;> with_reducible rfl)
  simp only [Act.put, List.setIfInBounds_toArray, List.set_cons_zero, List.set_cons_succ]
  refine' wpAnyH_take (i := 3) (oi := { dst := some 8, op := Go.Op.load 25 (Go.Operand.tmp 7), type := 25, pos := "law.go:16", after := #[{ on := 2, ground := Go.Ground.data }, { on := 6, ground := Go.Ground.gcOnly Go.Departure.lateStores }], guard := none }) (v := _) rfl (by kernel_rfl) (by kernel_rfl) (by kernel_rfl) (fun _ _ _ h => h) (Or.inl ⟨by rfl, ?hy4⟩) (by assumption) ?hr4
  case hy4 => (intro _ hSw; (try dsimp only at hSw); refine ex_lds isS (stays HM.out hSw) ?_; rfl)
  simp only [Act.put, List.setIfInBounds_toArray, List.set_cons_zero, List.set_cons_succ]
  refine wpAnyH_ready (rs := [4, 5]) (by kernel_rfl) (by simp) ?_
  refine AllReadyH.cons (o := { dst := some 3, op := Go.Op.alloc 23, type := 0, pos := "law.go:16", after := #[], guard := none }) rfl (fun K hK => ?_) (AllReadyH.cons (o := { dst := some 4, op := Go.Op.alloc 25, type := 0, pos := "law.go:16", after := #[], guard := none }) rfl (fun K hK => ?_) AllReadyH.nil)
  · rw [if_pos (by rfl)]
    refine wp_al zeroP ?_
    intro b3 u3 h3 F3
    have Lb3 := F3.le hHeld
    refine hK.out _ _ (F3.on hHeld) (fun hNext => ?_)
    clear hK K
    replace hHeld := hNext
    clear hNext
    (try simp only [Act.put, List.setIfInBounds_toArray, List.set_cons_zero, List.set_cons_succ])
    refine wpAnyH_ready (rs := [5]) (by kernel_rfl) (by simp) ?_
    refine AllReadyH.cons (o := { dst := some 4, op := Go.Op.alloc 25, type := 0, pos := "law.go:16", after := #[], guard := none }) rfl (fun K hK => ?_) AllReadyH.nil
    rw [if_pos (by rfl)]
    refine wp_al zeroS ?_
    intro b4 u4 h4 F4
    have Lb4 := F4.le hHeld
    refine hK.out _ _ (F4.on hHeld) (fun hNext => ?_)
    clear hK K
    replace hHeld := hNext
    clear hNext
    (try simp only [Act.put, List.setIfInBounds_toArray, List.set_cons_zero, List.set_cons_succ])
    have n34 := F4.ne h3
    have n43 := n34.symm
    replace h3 := F4.stays h3
    refine wpAnyH_ready (rs := [6]) (by kernel_rfl) (by simp) ?_
    refine AllReadyH.cons (o := { dst := none, op := Go.Op.store 23 (Go.Operand.tmp 3) (Go.Operand.tmp 6), type := 0, pos := "law.go:16", after := #[{ on := 4, ground := Go.Ground.data }, { on := 1, ground := Go.Ground.data }, { on := 0, ground := Go.Ground.phase }, { on := 1, ground := Go.Ground.phase }, { on := 2, ground := Go.Ground.textOnly Go.Departure.lateStores }, { on := 3, ground := Go.Ground.textOnly Go.Departure.lateStores }, { on := 4, ground := Go.Ground.phase }, { on := 5, ground := Go.Ground.phase }], guard := none }) rfl (fun K hK => ?_) AllReadyH.nil
    rw [if_pos (by rfl)]
    refine wp_row (cs := #[.int .u8 m.p.d, .int .u8 m.p.f, .int .u8 m.p.c, .int .u8 m.p.r, .int .i64 m.p.t, .int .i64 m.p.n, .int .i64 m.p.z, .int .i64 m.p.k]) isP h3 rfl rfl (by simp [Value.oneCell']) rfl rfl ?_
    intro u5 h5 M5
    replace h4 := M5.other n43 h4
    refine hK.out _ _ (M5.below hHeld Lb3) (fun hNext => ?_)
    clear hK K
    replace hHeld := hNext
    clear hNext
    (try simp only [Act.put])
    refine wpAnyH_ready (rs := [7]) (by kernel_rfl) (by simp) ?_
    refine AllReadyH.cons (o := { dst := none, op := Go.Op.store 25 (Go.Operand.tmp 4) (Go.Operand.tmp 8), type := 0, pos := "law.go:16", after := #[{ on := 5, ground := Go.Ground.data }, { on := 3, ground := Go.Ground.data }, { on := 6, ground := Go.Ground.chain }, { on := 0, ground := Go.Ground.phase }, { on := 1, ground := Go.Ground.phase }, { on := 2, ground := Go.Ground.phase }, { on := 3, ground := Go.Ground.phase }, { on := 4, ground := Go.Ground.phase }, { on := 5, ground := Go.Ground.phase }, { on := 6, ground := Go.Ground.phase }], guard := none }) rfl (fun K hK => ?_) AllReadyH.nil
    rw [if_pos (by rfl)]
    refine wp_row (cs := #[.int .u8 (m.s.d : Int), .bool m.s.f, .bool m.s.c, .bool m.s.r, .bool m.s.i, .bool m.s.v, .bool m.s.b, .int .u8 (m.s.k : Int)]) isS h4 rfl rfl (by simp [Value.oneCell']) rfl rfl ?_
    intro u6 h6 M6
    replace h5 := M6.other n34 h5
    refine hK.out _ _ (M6.below hHeld Lb4) (fun hNext => ?_)
    clear hK K
    replace hHeld := hNext
    clear hNext
    (try simp only [Act.put])
    refine wpAnyH_done (by kernel_rfl) ?_ _
    have HP := Lib.hid h5
    have HS := Lib.hid h6
    replace HM := Lib.hid (stays HM.out hHeld)
    replace HR := Lib.hid (stays HR.out hHeld)
    replace HB := Lib.hid (below_on HB.out hHeld)
    obtain ⟨c0, c1, c18, c19⟩ := flds HM.out
    obtain ⟨g0, g1, g2, g3, g4, g5, g6, g7⟩ := Pn.cells_of (p := m.p) HP.out
    obtain ⟨s0, s1, s2, s3, s4, s5, s6, s7⟩ := Msc.cells_of (p := m.s) HS.out
    go_wp2_with (first
      | ((with_reducible refine bdm (T := 36) m ?hb ?_); (case hb => kernel_rfl))
      | ((with_reducible refine stm (m := m) isR HR.out ?hx ?hy ?_); (case hx => rfl); (case hy => rfl); intro w9 h9 M9; replace HR := Lib.hid h9; replace HB := Lib.hid (M9.below HB.out L2.out); clear h9 M9))
    exact bodyPost_ret (ref_results _ _ b2 m _ HR.out rfl) rfl ⟨rfl, HB.out⟩
  · rw [if_pos (by rfl)]
    refine wp_al zeroS ?_
    intro b4 u4 h4 F4
    have Lb4 := F4.le hHeld
    refine hK.out _ _ (F4.on hHeld) (fun hNext => ?_)
    clear hK K
    replace hHeld := hNext
    clear hNext
    (try simp only [Act.put, List.setIfInBounds_toArray, List.set_cons_zero, List.set_cons_succ])
    refine wpAnyH_ready (rs := [4]) (by kernel_rfl) (by simp) ?_
    refine AllReadyH.cons (o := { dst := some 3, op := Go.Op.alloc 23, type := 0, pos := "law.go:16", after := #[], guard := none }) rfl (fun K hK => ?_) AllReadyH.nil
    rw [if_pos (by rfl)]
    refine wp_al zeroP ?_
    intro b3 u3 h3 F3
    have Lb3 := F3.le hHeld
    refine hK.out _ _ (F3.on hHeld) (fun hNext => ?_)
    clear hK K
    replace hHeld := hNext
    clear hNext
    (try simp only [Act.put, List.setIfInBounds_toArray, List.set_cons_zero, List.set_cons_succ])
    have n43 := F3.ne h4
    have n34 := n43.symm
    replace h4 := F3.stays h4
    refine wpAnyH_ready (rs := [6]) (by kernel_rfl) (by simp) ?_
    refine AllReadyH.cons (o := { dst := none, op := Go.Op.store 23 (Go.Operand.tmp 3) (Go.Operand.tmp 6), type := 0, pos := "law.go:16", after := #[{ on := 4, ground := Go.Ground.data }, { on := 1, ground := Go.Ground.data }, { on := 0, ground := Go.Ground.phase }, { on := 1, ground := Go.Ground.phase }, { on := 2, ground := Go.Ground.textOnly Go.Departure.lateStores }, { on := 3, ground := Go.Ground.textOnly Go.Departure.lateStores }, { on := 4, ground := Go.Ground.phase }, { on := 5, ground := Go.Ground.phase }], guard := none }) rfl (fun K hK => ?_) AllReadyH.nil
    rw [if_pos (by rfl)]
    refine wp_row (cs := #[.int .u8 m.p.d, .int .u8 m.p.f, .int .u8 m.p.c, .int .u8 m.p.r, .int .i64 m.p.t, .int .i64 m.p.n, .int .i64 m.p.z, .int .i64 m.p.k]) isP h3 rfl rfl (by simp [Value.oneCell']) rfl rfl ?_
    intro u5 h5 M5
    replace h4 := M5.other n43 h4
    refine hK.out _ _ (M5.below hHeld Lb3) (fun hNext => ?_)
    clear hK K
    replace hHeld := hNext
    clear hNext
    (try simp only [Act.put])
    refine wpAnyH_ready (rs := [7]) (by kernel_rfl) (by simp) ?_
    refine AllReadyH.cons (o := { dst := none, op := Go.Op.store 25 (Go.Operand.tmp 4) (Go.Operand.tmp 8), type := 0, pos := "law.go:16", after := #[{ on := 5, ground := Go.Ground.data }, { on := 3, ground := Go.Ground.data }, { on := 6, ground := Go.Ground.chain }, { on := 0, ground := Go.Ground.phase }, { on := 1, ground := Go.Ground.phase }, { on := 2, ground := Go.Ground.phase }, { on := 3, ground := Go.Ground.phase }, { on := 4, ground := Go.Ground.phase }, { on := 5, ground := Go.Ground.phase }, { on := 6, ground := Go.Ground.phase }], guard := none }) rfl (fun K hK => ?_) AllReadyH.nil
    rw [if_pos (by rfl)]
    refine wp_row (cs := #[.int .u8 (m.s.d : Int), .bool m.s.f, .bool m.s.c, .bool m.s.r, .bool m.s.i, .bool m.s.v, .bool m.s.b, .int .u8 (m.s.k : Int)]) isS h4 rfl rfl (by simp [Value.oneCell']) rfl rfl ?_
    intro u6 h6 M6
    replace h5 := M6.other n34 h5
    refine hK.out _ _ (M6.below hHeld Lb4) (fun hNext => ?_)
    clear hK K
    replace hHeld := hNext
    clear hNext
    (try simp only [Act.put])
    refine wpAnyH_done (by kernel_rfl) ?_ _
    have HP := Lib.hid h5
    have HS := Lib.hid h6
    replace HM := Lib.hid (stays HM.out hHeld)
    replace HR := Lib.hid (stays HR.out hHeld)
    replace HB := Lib.hid (below_on HB.out hHeld)
    obtain ⟨c0, c1, c18, c19⟩ := flds HM.out
    obtain ⟨g0, g1, g2, g3, g4, g5, g6, g7⟩ := Pn.cells_of (p := m.p) HP.out
    obtain ⟨s0, s1, s2, s3, s4, s5, s6, s7⟩ := Msc.cells_of (p := m.s) HS.out
    go_wp2_with (first
      | ((with_reducible refine bdm (T := 36) m ?hb ?_); (case hb => kernel_rfl))
      | ((with_reducible refine stm (m := m) isR HR.out ?hx ?hy ?_); (case hx => rfl); (case hy => rfl); intro w9 h9 M9; replace HR := Lib.hid h9; replace HB := Lib.hid (M9.below HB.out L2.out); clear h9 M9))
    exact bodyPost_ret (ref_results _ _ b2 m _ HR.out rfl) rfl ⟨rfl, HB.out⟩
end Go.Proofs.YtffahjlboakakaaDoor.Msgs
