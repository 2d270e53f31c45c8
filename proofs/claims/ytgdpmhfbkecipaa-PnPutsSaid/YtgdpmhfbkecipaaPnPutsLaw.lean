/-
  PnPuts answers true for everything, and turns nothing that was there. No condition.
-/
import Derived.Test.YtgdpmhfbkecipaaPnWorks
import Derived.Deep.DeepCutAuto
namespace Go.Proofs.Ytgdpmhfbkecipaa.pnPuts
open Go.RowKit Go.Proofs.Ytgdpmhfbkecipaa.Base Go.Proofs.Ytgdpmhfbkecipaa.Mem Go.Proofs.Ytgdpmhfbkecipaa.Pn
set_option maxHeartbeats 1000000 in
set_option maxRecDepth 100000 in
theorem law (p : Pr) (hp : p.In) (v : ByteArray) (hv : v.size ≤ maxLen) (w : World) :
    Calls Try.prog 3 #[pv p, .string v] w fun e w' => e = .returned (.bool true) ∧ Below w.heap.size w w' := by
  unfold maxLen at hv
  by_cases h : 100 < v.size
  · clear hp
    go_enter Try.func3, Try.ntmps3
    go_wp2_with (go_at_call 7; ((with_reducible refine (works _).mono ?_); rintro e w1 ⟨rfl, hb⟩; have HB1 : Hid (Below w.heap.size w w1) := Lib.hid (on_new (Below.refl _ _) hb); clear hb))
    go_ret
    exact ⟨rfl, HB1.out⟩
  · have CP := Lib.hid (fun w => fput p hp w)
    have CRP := Lib.hid (fun w => rput p hp w)
    have CG := Lib.hid (fun w => fget v w)
    have CRG := Lib.hid (fun w => rget v w)
    have CM := Lib.hid (fun w => fmay p w)
    have CRM := Lib.hid (fun w => rmay p hp w)
    have CF := Lib.hid (fun w => fref p w)
    have CQ := Lib.hid (fun w => fref (gotP v) w)
    have CW := Lib.hid (fun w => works w)
    have HE : ∀ w, (binOp .eql 29 (pv (gotP v)) (pv (gotP v))).run Try.prog w = .ok (.bool true) w := fun w => by rw [run_rqP, eqP_self]
    generalize gotP v = q at *
    generalize gotE v = g at *
    generalize putS p = S at *
    generalize putE p = E at *
    generalize may p = b at *
    clear hp
    go_enter Try.func3, Try.ntmps3
    go_upto_region 7 with (first
      | (go_at_call 8; ((with_reducible refine (CP.out _).mono ?_); rintro e w1 ⟨rfl, hb⟩; have HB1 : Hid (Below w.heap.size w w1) := Lib.hid (on_new (Below.refl _ _) hb); have HF1 : Hid (w1.heap[w.heap.size]? = some (pO p 23)) := Lib.hid (fresh hb); clear hb; obtain ⟨g0, g1, g2, g3, g4, g5, g6, g7⟩ := cells_of HF1.out))
      | (go_at_call 10; ((with_reducible refine (CF.out _).mono ?_); rintro e w2 ⟨rfl, hb⟩; have HB2 : Hid (Below w.heap.size w w2) := Lib.hid (below_on HB1.out hb); have HF2 := Lib.hid (stays HF1.out hb); clear hb g0 g1 g2 g3 g4 g5 g6 g7))
      | (go_at_call 9; ((with_reducible refine (CRP.out _).mono ?_); rintro e w3 ⟨rfl, hb⟩; have HB3 : Hid (Below w.heap.size w w3) := Lib.hid (below_on HB2.out hb); have HF3 := Lib.hid (stays HF2.out hb); clear hb))
      | (go_at_call 11; ((with_reducible refine (CG.out _).mono ?_); rintro e w4 ⟨rfl, hb⟩; have HB4 : Hid (Below w.heap.size w w4) := Lib.hid (below_on HB3.out hb); have HF4 := Lib.hid (stays HF3.out hb); clear hb))
      | (go_at_call 12; ((with_reducible refine (CRG.out _).mono ?_); rintro e w5 ⟨rfl, hb⟩; have HB5 : Hid (Below w.heap.size w w5) := Lib.hid (on_new HB4.out hb); have HF5 : Hid (w5.heap[w.heap.size]? = some (pO p 23)) := Lib.hid (stays HF4.out (on_new (Below.refl _ _) hb)); have HG5 : Hid (w5.heap[w4.heap.size]? = some (pO q 23)) := Lib.hid (fresh hb); clear hb)))
    have HB : Hid (Below w.heap.size w (w5.alloc (pO q 29))) := Lib.hid (HB5.out.alloc HB5.out.size _)
    have hf : (w5.alloc (pO q 29)).heap[w.heap.size]? = some (pO p 23) := stays HF5.out ((Below.refl _ _).alloc (Nat.le_refl _) _)
    have hg : (w5.alloc (pO q 29)).heap[w4.heap.size]? = some (pO q 23) := stays HG5.out ((Below.refl _ _).alloc (Nat.le_refl _) _)
    have hh : (w5.alloc (pO q 29)).heap[w5.heap.size]? = some (pO q 29) := nest w5 [_] 0 _ rfl
    generalize w5.alloc (pO q 29) = W at *
    obtain ⟨g0, g1, g2, g3, g4, g5, g6, g7⟩ := cells_of hf
    obtain ⟨j0, j1, j2, j3, j4, j5, j6, j7⟩ := cells_of hg
    obtain ⟨m0, m1, m2, m3, m4, m5, m6, m7⟩ := cells_of hh
    clear hf hg hh
    have HSt : Hid (∀ wa wb : World, (wa.cell? ⟨w.heap.size, 0, none⟩ = some (.int .u8 p.d) ∧ wa.cell? ⟨w.heap.size, 1, none⟩ = some (.int .u8 p.f) ∧ wa.cell? ⟨w.heap.size, 2, none⟩ = some (.int .u8 p.c) ∧ wa.cell? ⟨w.heap.size, 3, none⟩ = some (.int .u8 p.r) ∧ wa.cell? ⟨w.heap.size, 4, none⟩ = some (.int .i64 p.t) ∧ wa.cell? ⟨w.heap.size, 5, none⟩ = some (.int .i64 p.n) ∧ wa.cell? ⟨w.heap.size, 6, none⟩ = some (.int .i64 p.z) ∧ wa.cell? ⟨w.heap.size, 7, none⟩ = some (.int .i64 p.k) ∧ wa.cell? ⟨w4.heap.size, 0, none⟩ = some (.int .u8 q.d) ∧ wa.cell? ⟨w4.heap.size, 1, none⟩ = some (.int .u8 q.f) ∧ wa.cell? ⟨w4.heap.size, 2, none⟩ = some (.int .u8 q.c) ∧ wa.cell? ⟨w4.heap.size, 3, none⟩ = some (.int .u8 q.r) ∧ wa.cell? ⟨w4.heap.size, 4, none⟩ = some (.int .i64 q.t) ∧ wa.cell? ⟨w4.heap.size, 5, none⟩ = some (.int .i64 q.n) ∧ wa.cell? ⟨w4.heap.size, 6, none⟩ = some (.int .i64 q.z) ∧ wa.cell? ⟨w4.heap.size, 7, none⟩ = some (.int .i64 q.k) ∧ wa.cell? ⟨w5.heap.size, 0, none⟩ = some (.int .u8 q.d) ∧ wa.cell? ⟨w5.heap.size, 1, none⟩ = some (.int .u8 q.f) ∧ wa.cell? ⟨w5.heap.size, 2, none⟩ = some (.int .u8 q.c) ∧ wa.cell? ⟨w5.heap.size, 3, none⟩ = some (.int .u8 q.r) ∧ wa.cell? ⟨w5.heap.size, 4, none⟩ = some (.int .i64 q.t) ∧ wa.cell? ⟨w5.heap.size, 5, none⟩ = some (.int .i64 q.n) ∧ wa.cell? ⟨w5.heap.size, 6, none⟩ = some (.int .i64 q.z) ∧ wa.cell? ⟨w5.heap.size, 7, none⟩ = some (.int .i64 q.k) ∧ Below W.heap.size W wa) → Below wa.heap.size wa wb → (wb.cell? ⟨w.heap.size, 0, none⟩ = some (.int .u8 p.d) ∧ wb.cell? ⟨w.heap.size, 1, none⟩ = some (.int .u8 p.f) ∧ wb.cell? ⟨w.heap.size, 2, none⟩ = some (.int .u8 p.c) ∧ wb.cell? ⟨w.heap.size, 3, none⟩ = some (.int .u8 p.r) ∧ wb.cell? ⟨w.heap.size, 4, none⟩ = some (.int .i64 p.t) ∧ wb.cell? ⟨w.heap.size, 5, none⟩ = some (.int .i64 p.n) ∧ wb.cell? ⟨w.heap.size, 6, none⟩ = some (.int .i64 p.z) ∧ wb.cell? ⟨w.heap.size, 7, none⟩ = some (.int .i64 p.k) ∧ wb.cell? ⟨w4.heap.size, 0, none⟩ = some (.int .u8 q.d) ∧ wb.cell? ⟨w4.heap.size, 1, none⟩ = some (.int .u8 q.f) ∧ wb.cell? ⟨w4.heap.size, 2, none⟩ = some (.int .u8 q.c) ∧ wb.cell? ⟨w4.heap.size, 3, none⟩ = some (.int .u8 q.r) ∧ wb.cell? ⟨w4.heap.size, 4, none⟩ = some (.int .i64 q.t) ∧ wb.cell? ⟨w4.heap.size, 5, none⟩ = some (.int .i64 q.n) ∧ wb.cell? ⟨w4.heap.size, 6, none⟩ = some (.int .i64 q.z) ∧ wb.cell? ⟨w4.heap.size, 7, none⟩ = some (.int .i64 q.k) ∧ wb.cell? ⟨w5.heap.size, 0, none⟩ = some (.int .u8 q.d) ∧ wb.cell? ⟨w5.heap.size, 1, none⟩ = some (.int .u8 q.f) ∧ wb.cell? ⟨w5.heap.size, 2, none⟩ = some (.int .u8 q.c) ∧ wb.cell? ⟨w5.heap.size, 3, none⟩ = some (.int .u8 q.r) ∧ wb.cell? ⟨w5.heap.size, 4, none⟩ = some (.int .i64 q.t) ∧ wb.cell? ⟨w5.heap.size, 5, none⟩ = some (.int .i64 q.n) ∧ wb.cell? ⟨w5.heap.size, 6, none⟩ = some (.int .i64 q.z) ∧ wb.cell? ⟨w5.heap.size, 7, none⟩ = some (.int .i64 q.k) ∧ Below W.heap.size W wb)) := Lib.hid (fun wa wb ⟨y00, y01, y02, y03, y04, y05, y06, y07, y10, y11, y12, y13, y14, y15, y16, y17, y20, y21, y22, y23, y24, y25, y26, y27, hz⟩ hb => ⟨cell_below y00 hb, cell_below y01 hb, cell_below y02 hb, cell_below y03 hb, cell_below y04 hb, cell_below y05 hb, cell_below y06 hb, cell_below y07 hb, cell_below y10 hb, cell_below y11 hb, cell_below y12 hb, cell_below y13 hb, cell_below y14 hb, cell_below y15 hb, cell_below y16 hb, cell_below y17 hb, cell_below y20 hb, cell_below y21 hb, cell_below y22 hb, cell_below y23 hb, cell_below y24 hb, cell_below y25 hb, cell_below y26 hb, cell_below y27 hb, below_on hz hb⟩)
    go_region_held3 (fun w' => w'.cell? ⟨w.heap.size, 0, none⟩ = some (.int .u8 p.d) ∧ w'.cell? ⟨w.heap.size, 1, none⟩ = some (.int .u8 p.f) ∧ w'.cell? ⟨w.heap.size, 2, none⟩ = some (.int .u8 p.c) ∧ w'.cell? ⟨w.heap.size, 3, none⟩ = some (.int .u8 p.r) ∧ w'.cell? ⟨w.heap.size, 4, none⟩ = some (.int .i64 p.t) ∧ w'.cell? ⟨w.heap.size, 5, none⟩ = some (.int .i64 p.n) ∧ w'.cell? ⟨w.heap.size, 6, none⟩ = some (.int .i64 p.z) ∧ w'.cell? ⟨w.heap.size, 7, none⟩ = some (.int .i64 p.k) ∧ w'.cell? ⟨w4.heap.size, 0, none⟩ = some (.int .u8 q.d) ∧ w'.cell? ⟨w4.heap.size, 1, none⟩ = some (.int .u8 q.f) ∧ w'.cell? ⟨w4.heap.size, 2, none⟩ = some (.int .u8 q.c) ∧ w'.cell? ⟨w4.heap.size, 3, none⟩ = some (.int .u8 q.r) ∧ w'.cell? ⟨w4.heap.size, 4, none⟩ = some (.int .i64 q.t) ∧ w'.cell? ⟨w4.heap.size, 5, none⟩ = some (.int .i64 q.n) ∧ w'.cell? ⟨w4.heap.size, 6, none⟩ = some (.int .i64 q.z) ∧ w'.cell? ⟨w4.heap.size, 7, none⟩ = some (.int .i64 q.k) ∧ w'.cell? ⟨w5.heap.size, 0, none⟩ = some (.int .u8 q.d) ∧ w'.cell? ⟨w5.heap.size, 1, none⟩ = some (.int .u8 q.f) ∧ w'.cell? ⟨w5.heap.size, 2, none⟩ = some (.int .u8 q.c) ∧ w'.cell? ⟨w5.heap.size, 3, none⟩ = some (.int .u8 q.r) ∧ w'.cell? ⟨w5.heap.size, 4, none⟩ = some (.int .i64 q.t) ∧ w'.cell? ⟨w5.heap.size, 5, none⟩ = some (.int .i64 q.n) ∧ w'.cell? ⟨w5.heap.size, 6, none⟩ = some (.int .i64 q.z) ∧ w'.cell? ⟨w5.heap.size, 7, none⟩ = some (.int .i64 q.k) ∧ Below W.heap.size W w')
      (first | exact ⟨g0, g1, g2, g3, g4, g5, g6, g7, j0, j1, j2, j3, j4, j5, j6, j7, m0, m1, m2, m3, m4, m5, m6, m7, (Below.refl _ _).drew⟩ | exact HS.out)
      ((first
        | (go_at_call 10; ((with_reducible refine (CQ.out _).mono ?_); rintro e w' ⟨rfl, hb⟩; have HS := Lib.hid (HSt.out _ _ (by assumption) hb); clear hb))
        | (go_at_call 10; ((with_reducible refine (CF.out _).mono ?_); rintro e w' ⟨rfl, hb⟩; have HS := Lib.hid (HSt.out _ _ (by assumption) hb); clear hb))
        | (go_at_call 13; ((with_reducible refine (CM.out _).mono ?_); rintro e w' ⟨rfl, hb⟩; have HS := Lib.hid (HSt.out _ _ (by assumption) hb); clear hb))
        | (go_at_call 14; ((with_reducible refine (CRM.out _).mono ?_); rintro e w' ⟨rfl, hb⟩; have HS := Lib.hid (HSt.out _ _ (by assumption) hb); clear hb))
        | (go_at_call 7; ((with_reducible refine (CW.out _).mono ?_); rintro e w' ⟨rfl, hb⟩; have HS := Lib.hid (HSt.out _ _ (by assumption) hb); clear hb))))
    rename_i hX
    have HX := Lib.hid (below_on HB.out hX.2.2.2.2.2.2.2.2.2.2.2.2.2.2.2.2.2.2.2.2.2.2.2.2)
    go_wp2
    go_ret
    exact ⟨rfl, HX.out⟩
end Go.Proofs.Ytgdpmhfbkecipaa.pnPuts
