/-
  Layer 22, put together: PnRget, PnWorks. Conditions: as each theorem names them.
-/
import Derived.Test.YtakkhdammmcjcaaGreatDoorK10
import Derived.Test.YtakkhdammmcjcaaGreatDoorK01
import Derived.Deep.RegionHeld
namespace Go.Proofs.YtakkhdammmcjcaaGreatDoor.Pn
open Go.RowKit Base Mem
theorem rget_results (tmps : Array Value) (W : World) (b : Nat) (p : Pr) (e : Int) (h : Cells W b p) (p2 : tmps[2]?.getD undef = ptr b) (p3 : tmps[3]?.getD undef = .int .i64 e) :
 (results Tryz.f101 tmps).run Tryz.prog W = .ok (.tuple #[pv p, .int .i64 e]) W := by
 obtain ⟨g0, g1, g2, g3, g4, g5, g6, g7⟩ := h
 simp [results, Tryz.results101, go_sem, p2, p3, g0, g1, g2, g3, g4, g5, g6, g7]
theorem rget_short (s : ByteArray) (h : s.size < 8) (w : World) :
 Calls Tryz.prog 101 #[.string s] w fun x w' => x = .returned (.tuple #[pv zero, .int .i64 20]) ∧ Below w.heap.size w w' := by
 have h' : (s.size : Int) < 8 := by omega
 go_enter Tryz.func101, Tryz.ntmps101
 go_wp2
 exact bodyPost_ret (rget_results _ _ w.heap.size zero 20 (cells_of (nest w [_] 0 _ rfl)) rfl rfl) rfl ⟨rfl, nest_below w [_]⟩
set_option maxHeartbeats 1000000 in
set_option maxRecDepth 100000 in
theorem rget_long (s : ByteArray) (h : 8 < s.size) (x0 x1 x2 x3 x4 x5 x6 x7 : Int)
 (i0 : ∀ W, (Instr.index 9 (.string s) (.int .i64 0)).run Tryz.prog W = .ok (.int .u8 x0) W)
 (i1 : ∀ W, (Instr.index 9 (.string s) (.int .i64 1)).run Tryz.prog W = .ok (.int .u8 x1) W)
 (i2 : ∀ W, (Instr.index 9 (.string s) (.int .i64 2)).run Tryz.prog W = .ok (.int .u8 x2) W)
 (i3 : ∀ W, (Instr.index 9 (.string s) (.int .i64 3)).run Tryz.prog W = .ok (.int .u8 x3) W)
 (i4 : ∀ W, (Instr.index 9 (.string s) (.int .i64 4)).run Tryz.prog W = .ok (.int .u8 x4) W)
 (i5 : ∀ W, (Instr.index 9 (.string s) (.int .i64 5)).run Tryz.prog W = .ok (.int .u8 x5) W)
 (i6 : ∀ W, (Instr.index 9 (.string s) (.int .i64 6)).run Tryz.prog W = .ok (.int .u8 x6) W)
 (i7 : ∀ W, (Instr.index 9 (.string s) (.int .i64 7)).run Tryz.prog W = .ok (.int .u8 x7) W)
 (h1 : 0 ≤ x1) (k1 : x1 < 256) (h3 : 0 ≤ x3) (k3 : x3 < 256) (h4 : 0 ≤ x4) (k4 : x4 < 256) (h5 : 0 ≤ x5) (k5 : x5 < 256) (h6 : 0 ≤ x6) (k6 : x6 < 256) (h7 : 0 ≤ x7) (k7 : x7 < 256) (w : World) :
 Calls Tryz.prog 101 #[.string s] w fun x w' => x = .returned (.tuple #[pv zero, .int .i64 70]) ∧ Below w.heap.size w w' := by
 have q1 : x1.tmod 16 = x1 % 16 := Int.tmod_eq_emod_of_nonneg h1
 have q2 : x1.tdiv 16 = x1 / 16 := Int.tdiv_eq_ediv_of_nonneg h1
 have a1 : IntKind.u8.wrap (x1 / 16) = x1 / 16 := by rw [IntKind.wrap_u8]; omega
 have a3 : IntKind.i64.wrap x3 = x3 := wraps_i64 _ (by omega) (by omega)
 have a4 : IntKind.i64.wrap x4 = x4 := wraps_i64 _ (by omega) (by omega)
 have a5 : IntKind.i64.wrap x5 = x5 := wraps_i64 _ (by omega) (by omega)
 have a6 : IntKind.i64.wrap x6 = x6 := wraps_i64 _ (by omega) (by omega)
 have a7 : IntKind.i64.wrap x7 = x7 := wraps_i64 _ (by omega) (by omega)
 have a8 : IntKind.i64.wrap (256 * x5) = 256 * x5 := wraps_i64 _ (by omega) (by omega)
 have a9 : IntKind.i64.wrap (x4 + 256 * x5) = x4 + 256 * x5 := wraps_i64 _ (by omega) (by omega)
 have HA := Lib.hid a1
 have h' : ¬ (s.size : Int) < 8 := by omega
 have h'' : (8 : Int) < s.size := by omega
 clear h
 go_enter Tryz.func101, Tryz.ntmps101
 go_wp2
 have HB0 : Hid (Below w.heap.size w (w.alloc (noO 44))) := Lib.hid (nest_below w [_])
 have HP : Hid ((w.alloc (noO 44)).heap[w.heap.size]? = some (noO 44)) := Lib.hid (nest w [_] 0 _ rfl)
 have hlt : w.heap.size < (w.alloc (noO 44)).heap.size := by simp
 generalize w.alloc (noO 44) = W at *
 refine wp_region_held_drew (S := fun w' => Below W.heap.size W w') (by kernel_rfl) (Below.refl _ _).drew (fun hHeld => ?_)
 refine' tk9 0 rfl ?_
 refine' tk9 1 rfl ?_
 refine' tk9 2 rfl ?_
 refine' tk9 3 rfl ?_
 refine' tk9 4 rfl ?_
 refine' tk9 5 rfl ?_
 refine' tk9 6 rfl ?_
 refine' tk9 7 rfl ?_
 refine' tk9 8 rfl ?_
 refine' tk9 9 rfl ?_
 refine' tk9 10 rfl ?_
 refine' tk9 11 rfl ?_
 refine' tk9 12 rfl ?_
 refine' tk9 13 rfl ?_
 refine' tk9 14 rfl ?_
 refine' tk9 15 rfl ?_
 refine' tk9 16 rfl ?_
 refine' tk9 17 rfl ?_
 refine' tk9 18 rfl ?_
 refine' tk9 19 rfl ?_
 refine' tk9 20 rfl ?_
 refine' tk9 21 rfl ?_
 refine' tk9 22 rfl ?_
 refine' tk9 23 rfl ?_
 refine' tk9 24 rfl ?_
 refine' tk9 25 rfl ?_
 refine' tk9 26 rfl ?_
 refine' tk9 27 rfl ?_
 refine ry [28] (.cons rfl (fun K hK => ?_) .nil)
 go_simp
 refine hK.out _ _ ((Below.refl W.heap.size W).drew.alloc (Nat.le_refl _) _) (fun hHeld => ?_)
 clear hK K
 (try simp only [Act.put, z1', z2', z3'])
 refine ry [29] (.cons rfl (fun K hK => ?_) .nil)
 go_simp
 refine hK.out _ _ ?_ (fun hHeld => ?_)
 clear hK K
 (try simp only [Act.put, z1', z2', z3'])
 · exact ((Below.refl W.heap.size W).alloc (Nat.le_refl _) _).drew
 refine wpAnyH_done (by kernel_rfl) ?_ _
 have HB1 : Hid (Below W.heap.size W ((W.alloc (pO ⟨x0, x1 % 16, x1 / 16, x2, x3, x4 + 256 * x5, x6, x7⟩ 44)).drew)) := Lib.hid ((Below.refl W.heap.size W).alloc (Nat.le_refl _) _).drew
 have hg : ((W.alloc (pO ⟨x0, x1 % 16, x1 / 16, x2, x3, x4 + 256 * x5, x6, x7⟩ 44)).drew).heap[W.heap.size]? = some (pO ⟨x0, x1 % 16, x1 / 16, x2, x3, x4 + 256 * x5, x6, x7⟩ 44) := nest W [_] 0 _ rfl
 clear hHeld
 generalize (W.alloc (pO ⟨x0, x1 % 16, x1 / 16, x2, x3, x4 + 256 * x5, x6, x7⟩ 44)).drew = V at *
 have HF := Lib.hid (stays HP.out HB1.out)
 have HG := Lib.hid hg
 have HB := Lib.hid (below_on HB0.out (HB1.out.mono (Nat.le_refl _)))
 clear hg a1 a3 a4 a5 a6 a7 a8 a9
 obtain ⟨f0, f1, f2, f3, f4, f5, f6, f7⟩ := no_frees HF.out
 obtain ⟨d0, d1, d2, d3, d4, d5, d6, d7⟩ := no_cells HF.out
 go_wp2
 exact bodyPost_ret (rget_results _ _ w.heap.size zero 70 (cells_of (set8_at HF.out _ _ _ _ _ _ _ _)) rfl rfl) rfl ⟨rfl, set8 HB.out (Nat.le_refl _) _ _ _ _ _ _ _ _⟩
set_option maxHeartbeats 1000000 in
set_option maxRecDepth 100000 in
theorem rget_bad (s : ByteArray) (h : s.size = 8) (x0 x1 x2 x3 x4 x5 x6 x7 : Int)
 (i0 : ∀ W, (Instr.index 9 (.string s) (.int .i64 0)).run Tryz.prog W = .ok (.int .u8 x0) W)
 (i1 : ∀ W, (Instr.index 9 (.string s) (.int .i64 1)).run Tryz.prog W = .ok (.int .u8 x1) W)
 (i2 : ∀ W, (Instr.index 9 (.string s) (.int .i64 2)).run Tryz.prog W = .ok (.int .u8 x2) W)
 (i3 : ∀ W, (Instr.index 9 (.string s) (.int .i64 3)).run Tryz.prog W = .ok (.int .u8 x3) W)
 (i4 : ∀ W, (Instr.index 9 (.string s) (.int .i64 4)).run Tryz.prog W = .ok (.int .u8 x4) W)
 (i5 : ∀ W, (Instr.index 9 (.string s) (.int .i64 5)).run Tryz.prog W = .ok (.int .u8 x5) W)
 (i6 : ∀ W, (Instr.index 9 (.string s) (.int .i64 6)).run Tryz.prog W = .ok (.int .u8 x6) W)
 (i7 : ∀ W, (Instr.index 9 (.string s) (.int .i64 7)).run Tryz.prog W = .ok (.int .u8 x7) W)
 (h1 : 0 ≤ x1) (k1 : x1 < 256) (h3 : 0 ≤ x3) (k3 : x3 < 256) (h4 : 0 ≤ x4) (k4 : x4 < 256) (h5 : 0 ≤ x5) (k5 : x5 < 256) (h6 : 0 ≤ x6) (k6 : x6 < 256) (h7 : 0 ≤ x7) (k7 : x7 < 256) (CM : ∀ w, Calls Tryz.prog 73 #[pv ⟨x0, x1 % 16, x1 / 16, x2, x3, x4 + 256 * x5, x6, x7⟩] w fun x w' => x = .returned (.bool false) ∧ Below w.heap.size w w') (w : World) :
 Calls Tryz.prog 101 #[.string s] w fun x w' => x = .returned (.tuple #[pv zero, .int .i64 70]) ∧ Below w.heap.size w w' := by
 have q1 : x1.tmod 16 = x1 % 16 := Int.tmod_eq_emod_of_nonneg h1
 have q2 : x1.tdiv 16 = x1 / 16 := Int.tdiv_eq_ediv_of_nonneg h1
 have a1 : IntKind.u8.wrap (x1 / 16) = x1 / 16 := by rw [IntKind.wrap_u8]; omega
 have a3 : IntKind.i64.wrap x3 = x3 := wraps_i64 _ (by omega) (by omega)
 have a4 : IntKind.i64.wrap x4 = x4 := wraps_i64 _ (by omega) (by omega)
 have a5 : IntKind.i64.wrap x5 = x5 := wraps_i64 _ (by omega) (by omega)
 have a6 : IntKind.i64.wrap x6 = x6 := wraps_i64 _ (by omega) (by omega)
 have a7 : IntKind.i64.wrap x7 = x7 := wraps_i64 _ (by omega) (by omega)
 have a8 : IntKind.i64.wrap (256 * x5) = 256 * x5 := wraps_i64 _ (by omega) (by omega)
 have a9 : IntKind.i64.wrap (x4 + 256 * x5) = x4 + 256 * x5 := wraps_i64 _ (by omega) (by omega)
 have HA := Lib.hid a1
 have h' : ¬ (s.size : Int) < 8 := by omega
 have h'' : ¬ (8 : Int) < s.size := by omega
 clear h
 go_enter Tryz.func101, Tryz.ntmps101
 go_wp2
 have HB0 : Hid (Below w.heap.size w (w.alloc (noO 44))) := Lib.hid (nest_below w [_])
 have HP : Hid ((w.alloc (noO 44)).heap[w.heap.size]? = some (noO 44)) := Lib.hid (nest w [_] 0 _ rfl)
 have hlt : w.heap.size < (w.alloc (noO 44)).heap.size := by simp
 generalize w.alloc (noO 44) = W at *
 refine wp_region_held_drew (S := fun w' => Below W.heap.size W w') (by kernel_rfl) (Below.refl _ _).drew (fun hHeld => ?_)
 refine' tk9 0 rfl ?_
 refine' tk9 1 rfl ?_
 refine' tk9 2 rfl ?_
 refine' tk9 3 rfl ?_
 refine' tk9 4 rfl ?_
 refine' tk9 5 rfl ?_
 refine' tk9 6 rfl ?_
 refine' tk9 7 rfl ?_
 refine' tk9 8 rfl ?_
 refine' tk9 9 rfl ?_
 refine' tk9 10 rfl ?_
 refine' tk9 11 rfl ?_
 refine' tk9 12 rfl ?_
 refine' tk9 13 rfl ?_
 refine' tk9 14 rfl ?_
 refine' tk9 15 rfl ?_
 refine' tk9 16 rfl ?_
 refine' tk9 17 rfl ?_
 refine' tk9 18 rfl ?_
 refine' tk9 19 rfl ?_
 refine' tk9 20 rfl ?_
 refine' tk9 21 rfl ?_
 refine' tk9 22 rfl ?_
 refine' tk9 23 rfl ?_
 refine' tk9 24 rfl ?_
 refine' tk9 25 rfl ?_
 refine' tk9 26 rfl ?_
 refine' tk9 27 rfl ?_
 refine ry [28] (.cons rfl (fun K hK => ?_) .nil)
 go_simp
 refine hK.out _ _ ((Below.refl W.heap.size W).drew.alloc (Nat.le_refl _) _) (fun hHeld => ?_)
 clear hK K
 (try simp only [Act.put, z1', z2', z3'])
 refine ry [29] (.cons rfl (fun K hK => ?_) .nil)
 go_simp
 refine hK.out _ _ ?_ (fun hHeld => ?_)
 clear hK K
 (try simp only [Act.put, z1', z2', z3'])
 · exact ((Below.refl W.heap.size W).alloc (Nat.le_refl _) _).drew
 refine wpAnyH_done (by kernel_rfl) ?_ _
 have HB1 : Hid (Below W.heap.size W ((W.alloc (pO ⟨x0, x1 % 16, x1 / 16, x2, x3, x4 + 256 * x5, x6, x7⟩ 44)).drew)) := Lib.hid ((Below.refl W.heap.size W).alloc (Nat.le_refl _) _).drew
 have hg : ((W.alloc (pO ⟨x0, x1 % 16, x1 / 16, x2, x3, x4 + 256 * x5, x6, x7⟩ 44)).drew).heap[W.heap.size]? = some (pO ⟨x0, x1 % 16, x1 / 16, x2, x3, x4 + 256 * x5, x6, x7⟩ 44) := nest W [_] 0 _ rfl
 clear hHeld
 generalize (W.alloc (pO ⟨x0, x1 % 16, x1 / 16, x2, x3, x4 + 256 * x5, x6, x7⟩ 44)).drew = V at *
 have HF := Lib.hid (stays HP.out HB1.out)
 have HG := Lib.hid hg
 have HB := Lib.hid (below_on HB0.out (HB1.out.mono (Nat.le_refl _)))
 clear hg a1 a3 a4 a5 a6 a7 a8 a9
 have CMh := Lib.hid CM
 clear CM
 obtain ⟨g0, g1, g2, g3, g4, g5, g6, g7⟩ := cells_of HG.out
 go_wp2_with (go_at_call 73; ((with_reducible refine (CMh.out _).mono ?_); rintro e w2 ⟨rfl, hb⟩; have HF2 := Lib.hid (stays HF.out hb); have HG2 := Lib.hid (stays HG.out hb); have HB2 := Lib.hid (below_on HB.out hb); clear g0 g1 g2 g3 g4 g5 g6 g7; obtain ⟨f0, f1, f2, f3, f4, f5, f6, f7⟩ := no_frees HF2.out; obtain ⟨d0, d1, d2, d3, d4, d5, d6, d7⟩ := no_cells HF2.out; obtain ⟨g0, g1, g2, g3, g4, g5, g6, g7⟩ := cells_of HG2.out; clear hb))
 exact bodyPost_ret (rget_results _ _ w.heap.size zero 70 (cells_of (set8_at HF2.out _ _ _ _ _ _ _ _)) rfl rfl) rfl ⟨rfl, set8 HB2.out (Nat.le_refl _) _ _ _ _ _ _ _ _⟩
set_option maxHeartbeats 1000000 in
set_option maxRecDepth 100000 in
theorem rget_ok (s : ByteArray) (h : s.size = 8) (x0 x1 x2 x3 x4 x5 x6 x7 : Int)
 (i0 : ∀ W, (Instr.index 9 (.string s) (.int .i64 0)).run Tryz.prog W = .ok (.int .u8 x0) W)
 (i1 : ∀ W, (Instr.index 9 (.string s) (.int .i64 1)).run Tryz.prog W = .ok (.int .u8 x1) W)
 (i2 : ∀ W, (Instr.index 9 (.string s) (.int .i64 2)).run Tryz.prog W = .ok (.int .u8 x2) W)
 (i3 : ∀ W, (Instr.index 9 (.string s) (.int .i64 3)).run Tryz.prog W = .ok (.int .u8 x3) W)
 (i4 : ∀ W, (Instr.index 9 (.string s) (.int .i64 4)).run Tryz.prog W = .ok (.int .u8 x4) W)
 (i5 : ∀ W, (Instr.index 9 (.string s) (.int .i64 5)).run Tryz.prog W = .ok (.int .u8 x5) W)
 (i6 : ∀ W, (Instr.index 9 (.string s) (.int .i64 6)).run Tryz.prog W = .ok (.int .u8 x6) W)
 (i7 : ∀ W, (Instr.index 9 (.string s) (.int .i64 7)).run Tryz.prog W = .ok (.int .u8 x7) W)
 (h1 : 0 ≤ x1) (k1 : x1 < 256) (h3 : 0 ≤ x3) (k3 : x3 < 256) (h4 : 0 ≤ x4) (k4 : x4 < 256) (h5 : 0 ≤ x5) (k5 : x5 < 256) (h6 : 0 ≤ x6) (k6 : x6 < 256) (h7 : 0 ≤ x7) (k7 : x7 < 256) (CM : ∀ w, Calls Tryz.prog 73 #[pv ⟨x0, x1 % 16, x1 / 16, x2, x3, x4 + 256 * x5, x6, x7⟩] w fun x w' => x = .returned (.bool true) ∧ Below w.heap.size w w') (w : World) :
 Calls Tryz.prog 101 #[.string s] w fun x w' => x = .returned (.tuple #[pv ⟨x0, x1 % 16, x1 / 16, x2, x3, x4 + 256 * x5, x6, x7⟩, .int .i64 0]) ∧ Below w.heap.size w w' := by
 have q1 : x1.tmod 16 = x1 % 16 := Int.tmod_eq_emod_of_nonneg h1
 have q2 : x1.tdiv 16 = x1 / 16 := Int.tdiv_eq_ediv_of_nonneg h1
 have a1 : IntKind.u8.wrap (x1 / 16) = x1 / 16 := by rw [IntKind.wrap_u8]; omega
 have a3 : IntKind.i64.wrap x3 = x3 := wraps_i64 _ (by omega) (by omega)
 have a4 : IntKind.i64.wrap x4 = x4 := wraps_i64 _ (by omega) (by omega)
 have a5 : IntKind.i64.wrap x5 = x5 := wraps_i64 _ (by omega) (by omega)
 have a6 : IntKind.i64.wrap x6 = x6 := wraps_i64 _ (by omega) (by omega)
 have a7 : IntKind.i64.wrap x7 = x7 := wraps_i64 _ (by omega) (by omega)
 have a8 : IntKind.i64.wrap (256 * x5) = 256 * x5 := wraps_i64 _ (by omega) (by omega)
 have a9 : IntKind.i64.wrap (x4 + 256 * x5) = x4 + 256 * x5 := wraps_i64 _ (by omega) (by omega)
 have HA := Lib.hid a1
 have h' : ¬ (s.size : Int) < 8 := by omega
 have h'' : ¬ (8 : Int) < s.size := by omega
 clear h
 go_enter Tryz.func101, Tryz.ntmps101
 go_wp2
 have HB0 : Hid (Below w.heap.size w (w.alloc (noO 44))) := Lib.hid (nest_below w [_])
 have HP : Hid ((w.alloc (noO 44)).heap[w.heap.size]? = some (noO 44)) := Lib.hid (nest w [_] 0 _ rfl)
 have hlt : w.heap.size < (w.alloc (noO 44)).heap.size := by simp
 generalize w.alloc (noO 44) = W at *
 refine wp_region_held_drew (S := fun w' => Below W.heap.size W w') (by kernel_rfl) (Below.refl _ _).drew (fun hHeld => ?_)
 refine' tk9 0 rfl ?_
 refine' tk9 1 rfl ?_
 refine' tk9 2 rfl ?_
 refine' tk9 3 rfl ?_
 refine' tk9 4 rfl ?_
 refine' tk9 5 rfl ?_
 refine' tk9 6 rfl ?_
 refine' tk9 7 rfl ?_
 refine' tk9 8 rfl ?_
 refine' tk9 9 rfl ?_
 refine' tk9 10 rfl ?_
 refine' tk9 11 rfl ?_
 refine' tk9 12 rfl ?_
 refine' tk9 13 rfl ?_
 refine' tk9 14 rfl ?_
 refine' tk9 15 rfl ?_
 refine' tk9 16 rfl ?_
 refine' tk9 17 rfl ?_
 refine' tk9 18 rfl ?_
 refine' tk9 19 rfl ?_
 refine' tk9 20 rfl ?_
 refine' tk9 21 rfl ?_
 refine' tk9 22 rfl ?_
 refine' tk9 23 rfl ?_
 refine' tk9 24 rfl ?_
 refine' tk9 25 rfl ?_
 refine' tk9 26 rfl ?_
 refine' tk9 27 rfl ?_
 refine ry [28] (.cons rfl (fun K hK => ?_) .nil)
 go_simp
 refine hK.out _ _ ((Below.refl W.heap.size W).drew.alloc (Nat.le_refl _) _) (fun hHeld => ?_)
 clear hK K
 (try simp only [Act.put, z1', z2', z3'])
 refine ry [29] (.cons rfl (fun K hK => ?_) .nil)
 go_simp
 refine hK.out _ _ ?_ (fun hHeld => ?_)
 clear hK K
 (try simp only [Act.put, z1', z2', z3'])
 · exact ((Below.refl W.heap.size W).alloc (Nat.le_refl _) _).drew
 refine wpAnyH_done (by kernel_rfl) ?_ _
 have HB1 : Hid (Below W.heap.size W ((W.alloc (pO ⟨x0, x1 % 16, x1 / 16, x2, x3, x4 + 256 * x5, x6, x7⟩ 44)).drew)) := Lib.hid ((Below.refl W.heap.size W).alloc (Nat.le_refl _) _).drew
 have hg : ((W.alloc (pO ⟨x0, x1 % 16, x1 / 16, x2, x3, x4 + 256 * x5, x6, x7⟩ 44)).drew).heap[W.heap.size]? = some (pO ⟨x0, x1 % 16, x1 / 16, x2, x3, x4 + 256 * x5, x6, x7⟩ 44) := nest W [_] 0 _ rfl
 clear hHeld
 generalize (W.alloc (pO ⟨x0, x1 % 16, x1 / 16, x2, x3, x4 + 256 * x5, x6, x7⟩ 44)).drew = V at *
 have HF := Lib.hid (stays HP.out HB1.out)
 have HG := Lib.hid hg
 have HB := Lib.hid (below_on HB0.out (HB1.out.mono (Nat.le_refl _)))
 clear hg a1 a3 a4 a5 a6 a7 a8 a9
 have CMh := Lib.hid CM
 clear CM
 obtain ⟨g0, g1, g2, g3, g4, g5, g6, g7⟩ := cells_of HG.out
 go_wp2_with (go_at_call 73; ((with_reducible refine (CMh.out _).mono ?_); rintro e w2 ⟨rfl, hb⟩; have HF2 := Lib.hid (stays HF.out hb); have HG2 := Lib.hid (stays HG.out hb); have HB2 := Lib.hid (below_on HB.out hb); clear g0 g1 g2 g3 g4 g5 g6 g7; obtain ⟨f0, f1, f2, f3, f4, f5, f6, f7⟩ := no_frees HF2.out; obtain ⟨d0, d1, d2, d3, d4, d5, d6, d7⟩ := no_cells HF2.out; obtain ⟨g0, g1, g2, g3, g4, g5, g6, g7⟩ := cells_of HG2.out; clear hb))
 exact bodyPost_ret (rget_results _ _ w.heap.size ⟨x0, x1 % 16, x1 / 16, x2, x3, x4 + 256 * x5, x6, x7⟩ 0 (cells_of (set8_at HF2.out _ _ _ _ _ _ _ _)) rfl rfl) rfl ⟨rfl, set8 HB2.out (Nat.le_refl _) _ _ _ _ _ _ _ _⟩
theorem rget (s : ByteArray) (w : World) :
 Calls Tryz.prog 101 #[.string s] w fun x w' => x = .returned (.tuple #[pv (gotP s), .int .i64 (gotE s)]) ∧ Below w.heap.size w w' := by
 rcases Nat.lt_or_ge s.size 8 with h | h
 · obtain ⟨e1, e2⟩ := got_short h
   rw [e1, e2]; exact rget_short s h w
 have b0 := oct_lt s[0]
 have b1 := oct_lt s[1]
 have b2 := oct_lt s[2]
 have b3 := oct_lt s[3]
 have b4 := oct_lt s[4]
 have b5 := oct_lt s[5]
 have b6 := oct_lt s[6]
 have b7 := oct_lt s[7]
 by_cases h8 : s.size = 8
 · have CM := fun w => rmay (read s h) (read_in s h) w
   cases hm : may (read s h)
   · obtain ⟨e1, e2⟩ := got_no h (.inr hm)
     rw [hm] at CM
     rw [e1, e2]
     exact rget_bad s h8 _ _ _ _ _ _ _ _ (at_string s 0 (by omega) _ rfl) (at_string s 1 (by omega) _ rfl) (at_string s 2 (by omega) _ rfl) (at_string s 3 (by omega) _ rfl) (at_string s 4 (by omega) _ rfl) (at_string s 5 (by omega) _ rfl) (at_string s 6 (by omega) _ rfl) (at_string s 7 (by omega) _ rfl) (by omega) (by omega) (by omega) (by omega) (by omega) (by omega) (by omega) (by omega) (by omega) (by omega) (by omega) (by omega) CM w
   · obtain ⟨e1, e2⟩ := got_ok h h8 hm
     rw [hm] at CM
     rw [e1, e2]
     exact rget_ok s h8 _ _ _ _ _ _ _ _ (at_string s 0 (by omega) _ rfl) (at_string s 1 (by omega) _ rfl) (at_string s 2 (by omega) _ rfl) (at_string s 3 (by omega) _ rfl) (at_string s 4 (by omega) _ rfl) (at_string s 5 (by omega) _ rfl) (at_string s 6 (by omega) _ rfl) (at_string s 7 (by omega) _ rfl) (by omega) (by omega) (by omega) (by omega) (by omega) (by omega) (by omega) (by omega) (by omega) (by omega) (by omega) (by omega) CM w
 · obtain ⟨e1, e2⟩ := got_no h (.inl (by omega))
   rw [e1, e2]
   exact rget_long s (by omega) _ _ _ _ _ _ _ _ (at_string s 0 (by omega) _ rfl) (at_string s 1 (by omega) _ rfl) (at_string s 2 (by omega) _ rfl) (at_string s 3 (by omega) _ rfl) (at_string s 4 (by omega) _ rfl) (at_string s 5 (by omega) _ rfl) (at_string s 6 (by omega) _ rfl) (at_string s 7 (by omega) _ rfl) (by omega) (by omega) (by omega) (by omega) (by omega) (by omega) (by omega) (by omega) (by omega) (by omega) (by omega) (by omega) w
end Go.Proofs.YtakkhdammmcjcaaGreatDoor.Pn
namespace Go.Proofs.YtakkhdammmcjcaaGreatDoor.Pn
open Go.RowKit Base Mem
theorem flowers (p a : Pr) (w : World) :
 Calls Tryz.prog 121 #[pv p, pv a] w fun x w' => x = .returned (.bool (lowers p a)) ∧ Below w.heap.size w w' := by
 have CB := Lib.hid (fun w => fagree p a w)
 have HE : ∀ w, (binOp .eql 25 (pv p) (pv (agree p a))).run Tryz.prog w = .ok (.bool (lowers p a)) w := fun w => by rw [run_eqP, lowers_agree]
 generalize agree p a = q at CB HE
 generalize lowers p a = b at HE
 go_enter Tryz.func121, Tryz.ntmps121
 go_wp2
 have HB0 : Hid (Below w.heap.size w ((w.alloc (pO p 25)).alloc (pO a 25))) := Lib.hid (nest_below w [pO p 25, pO a 25])
 have GS : Cells ((w.alloc (pO p 25)).alloc (pO a 25)) w.heap.size p := cells_of (nest w [_, _] 0 _ rfl)
 have GT : Cells ((w.alloc (pO p 25)).alloc (pO a 25)) (w.heap.size + 1) a := cells_of (nest w [_, _] 1 _ rfl)
 generalize (w.alloc (pO p 25)).alloc (pO a 25) = W at *
 obtain ⟨g0, g1, g2, g3, g4, g5, g6, g7⟩ := GS
 obtain ⟨j0, j1, j2, j3, j4, j5, j6, j7⟩ := GT
 go_region_held3 (fun w' => w'.cell? ⟨w.heap.size, 0, none⟩ = some (.int .u8 p.d) ∧ w'.cell? ⟨w.heap.size, 1, none⟩ = some (.int .u8 p.f) ∧ w'.cell? ⟨w.heap.size, 2, none⟩ = some (.int .u8 p.c) ∧ w'.cell? ⟨w.heap.size, 3, none⟩ = some (.int .u8 p.r) ∧ w'.cell? ⟨w.heap.size, 4, none⟩ = some (.int .i64 p.t) ∧ w'.cell? ⟨w.heap.size, 5, none⟩ = some (.int .i64 p.n) ∧ w'.cell? ⟨w.heap.size, 6, none⟩ = some (.int .i64 p.z) ∧ w'.cell? ⟨w.heap.size, 7, none⟩ = some (.int .i64 p.k) ∧ w'.cell? ⟨w.heap.size + 1, 0, none⟩ = some (.int .u8 a.d) ∧ w'.cell? ⟨w.heap.size + 1, 1, none⟩ = some (.int .u8 a.f) ∧ w'.cell? ⟨w.heap.size + 1, 2, none⟩ = some (.int .u8 a.c) ∧ w'.cell? ⟨w.heap.size + 1, 3, none⟩ = some (.int .u8 a.r) ∧ w'.cell? ⟨w.heap.size + 1, 4, none⟩ = some (.int .i64 a.t) ∧ w'.cell? ⟨w.heap.size + 1, 5, none⟩ = some (.int .i64 a.n) ∧ w'.cell? ⟨w.heap.size + 1, 6, none⟩ = some (.int .i64 a.z) ∧ w'.cell? ⟨w.heap.size + 1, 7, none⟩ = some (.int .i64 a.k) ∧ Below W.heap.size W w')
  (first | exact ⟨g0, g1, g2, g3, g4, g5, g6, g7, j0, j1, j2, j3, j4, j5, j6, j7, (Below.refl _ _).drew⟩ | exact ⟨cell_below g0 HB1.out, cell_below g1 HB1.out, cell_below g2 HB1.out, cell_below g3 HB1.out, cell_below g4 HB1.out, cell_below g5 HB1.out, cell_below g6 HB1.out, cell_below g7 HB1.out, cell_below j0 HB1.out, cell_below j1 HB1.out, cell_below j2 HB1.out, cell_below j3 HB1.out, cell_below j4 HB1.out, cell_below j5 HB1.out, cell_below j6 HB1.out, cell_below j7 HB1.out, HB1.out⟩)
  ((go_at_call 89; ((with_reducible refine (CB.out _).mono ?_); rintro e w1 ⟨rfl, hb⟩; have HB1 := Lib.hid (below_on ((Below.refl W.heap.size W).drew) hb); clear hb)))
 rename_i hX
 go_wp2
 go_ret
 exact ⟨rfl, below_on HB0.out hX.2.2.2.2.2.2.2.2.2.2.2.2.2.2.2.2⟩
theorem k1 (w : World) : Calls Tryz.prog 68 #[.agg #[.int .u8 5, .int .u8 2, .int .u8 3, .int .u8 7, .int .i64 10, .int .i64 300, .int .i64 3, .int .i64 2]] w fun e w' => e = .returned (.tuple #[.string ⟨#[5, 50, 7, 10, 44, 1, 3, 2]⟩, .int .i64 0]) ∧ Below w.heap.size w w' := by
 have h := fput ⟨5, 2, 3, 7, 10, 300, 3, 2⟩ (by refine ⟨?_, ?_, ?_, ?_⟩ <;> decide) w
 exact h
theorem k2 (w : World) : Calls Tryz.prog 107 #[.string ⟨#[5, 50, 7, 10, 44, 1, 3]⟩] w fun e w' => e = .returned (.tuple #[.agg #[.int .u8 0, .int .u8 0, .int .u8 0, .int .u8 0, .int .i64 0, .int .i64 0, .int .i64 0, .int .i64 0], .int .i64 20]) ∧ Below w.heap.size w w' := by
 have h := fget ⟨#[5, 50, 7, 10, 44, 1, 3]⟩ w
 obtain ⟨e1, e2⟩ := got_short (s := ⟨#[5, 50, 7, 10, 44, 1, 3]⟩) (by decide)
 rw [e1, e2] at h
 exact h
theorem k3 (w : World) : Calls Tryz.prog 107 #[.string ⟨#[5, 50, 7, 10, 44, 1, 3, 8]⟩] w fun e w' => e = .returned (.tuple #[.agg #[.int .u8 0, .int .u8 0, .int .u8 0, .int .u8 0, .int .i64 0, .int .i64 0, .int .i64 0, .int .i64 0], .int .i64 70]) ∧ Below w.heap.size w w' := by
 have h := fget ⟨#[5, 50, 7, 10, 44, 1, 3, 8]⟩ w
 obtain ⟨e1, e2⟩ := got_no (s := ⟨#[5, 50, 7, 10, 44, 1, 3, 8]⟩) (by decide) (.inr (by decide +kernel))
 rw [e1, e2] at h
 exact h
theorem k4 (w : World) : Calls Tryz.prog 89 #[.agg #[.int .u8 0, .int .u8 0, .int .u8 0, .int .u8 0, .int .i64 0, .int .i64 64, .int .i64 0, .int .i64 4], .agg #[.int .u8 5, .int .u8 2, .int .u8 3, .int .u8 7, .int .i64 10, .int .i64 300, .int .i64 3, .int .i64 2]] w fun e w' => e = .returned (.agg #[.int .u8 5, .int .u8 2, .int .u8 3, .int .u8 7, .int .i64 10, .int .i64 64, .int .i64 3, .int .i64 2]) ∧ Below w.heap.size w w' := fagree ⟨0, 0, 0, 0, 0, 64, 0, 4⟩ ⟨5, 2, 3, 7, 10, 300, 3, 2⟩ w
theorem k5 (w : World) : Calls Tryz.prog 121 #[.agg #[.int .u8 5, .int .u8 2, .int .u8 3, .int .u8 7, .int .i64 10, .int .i64 64, .int .i64 3, .int .i64 2], .agg #[.int .u8 5, .int .u8 2, .int .u8 3, .int .u8 7, .int .i64 10, .int .i64 300, .int .i64 3, .int .i64 2]] w fun e w' => e = .returned (.bool true) ∧ Below w.heap.size w w' := flowers ⟨5, 2, 3, 7, 10, 64, 3, 2⟩ ⟨5, 2, 3, 7, 10, 300, 3, 2⟩ w
theorem k6 (w : World) : Calls Tryz.prog 121 #[.agg #[.int .u8 5, .int .u8 2, .int .u8 3, .int .u8 7, .int .i64 10, .int .i64 300, .int .i64 3, .int .i64 2], .agg #[.int .u8 5, .int .u8 2, .int .u8 3, .int .u8 7, .int .i64 10, .int .i64 64, .int .i64 3, .int .i64 2]] w fun e w' => e = .returned (.bool false) ∧ Below w.heap.size w w' := flowers ⟨5, 2, 3, 7, 10, 300, 3, 2⟩ ⟨5, 2, 3, 7, 10, 64, 3, 2⟩ w
theorem k7 (w : World) : (binOp .eql 25 (.agg #[.int .u8 5, .int .u8 2, .int .u8 3, .int .u8 7, .int .i64 10, .int .i64 64, .int .i64 3, .int .i64 2]) (.agg #[.int .u8 5, .int .u8 2, .int .u8 3, .int .u8 7, .int .i64 10, .int .i64 64, .int .i64 3, .int .i64 2])).run Tryz.prog w = .ok (.bool true) w := (run_eqP ⟨5, 2, 3, 7, 10, 64, 3, 2⟩ ⟨5, 2, 3, 7, 10, 64, 3, 2⟩ w).trans (by rw [eqP_self])
end Go.Proofs.YtakkhdammmcjcaaGreatDoor.Pn
