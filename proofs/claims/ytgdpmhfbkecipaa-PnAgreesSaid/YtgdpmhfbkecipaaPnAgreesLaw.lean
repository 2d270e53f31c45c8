/-
  PnAgrees answers true for everything, and turns nothing that was there. No condition.
-/
import Derived.Test.YtgdpmhfbkecipaaPnWorks
namespace Go.Proofs.Ytgdpmhfbkecipaa.pnAgrees
open Go.RowKit Go.Proofs.Ytgdpmhfbkecipaa.Base Go.Proofs.Ytgdpmhfbkecipaa.Mem Go.Proofs.Ytgdpmhfbkecipaa.Pn
set_option maxHeartbeats 1000000 in
set_option maxRecDepth 100000 in
theorem law (o : Pr) (_ : o.In) (a : Pr) (_ : a.In) (w : World) :
    Calls Try.prog 4 #[pv o, pv a] w fun e w' => e = .returned (.bool true) ∧ Below w.heap.size w w' := by
  have CA := Lib.hid (fun w => fagree o a w)
  have CRA := Lib.hid (fun w => ragree o a w)
  have CL := Lib.hid (fun w => flowers o a w)
  have CRL := Lib.hid (fun w => rlowers o a w)
  have CO := Lib.hid (fun w => fref o w)
  have CF := Lib.hid (fun w => fref a w)
  have CQ := Lib.hid (fun w => fref (agree o a) w)
  have CW := Lib.hid (fun w => works w)
  have HE : ∀ w, (binOp .eql 29 (pv (agree o a)) (pv (agree o a))).run Try.prog w = .ok (.bool true) w := fun w => by rw [run_rqP, eqP_self]
  generalize agree o a = q at *
  generalize lowers o a = b at *
  go_enter Try.func4, Try.ntmps4
  go_wp2
  have HB : Hid (Below w.heap.size w ((w.alloc (pO o 23)).alloc (pO a 23))) := Lib.hid (nest_below w [pO o 23, pO a 23])
  have hf : ((w.alloc (pO o 23)).alloc (pO a 23)).heap[w.heap.size]? = some (pO o 23) := nest w [_, _] 0 _ rfl
  have hg : ((w.alloc (pO o 23)).alloc (pO a 23)).heap[w.heap.size + 1]? = some (pO a 23) := nest w [_, _] 1 _ rfl
  generalize (w.alloc (pO o 23)).alloc (pO a 23) = W at *
  obtain ⟨g0, g1, g2, g3, g4, g5, g6, g7⟩ := cells_of hf
  obtain ⟨j0, j1, j2, j3, j4, j5, j6, j7⟩ := cells_of hg
  clear hf hg
  have HSt : Hid (∀ wa wb : World, (wa.cell? ⟨w.heap.size, 0, none⟩ = some (.int .u8 o.d) ∧ wa.cell? ⟨w.heap.size, 1, none⟩ = some (.int .u8 o.f) ∧ wa.cell? ⟨w.heap.size, 2, none⟩ = some (.int .u8 o.c) ∧ wa.cell? ⟨w.heap.size, 3, none⟩ = some (.int .u8 o.r) ∧ wa.cell? ⟨w.heap.size, 4, none⟩ = some (.int .i64 o.t) ∧ wa.cell? ⟨w.heap.size, 5, none⟩ = some (.int .i64 o.n) ∧ wa.cell? ⟨w.heap.size, 6, none⟩ = some (.int .i64 o.z) ∧ wa.cell? ⟨w.heap.size, 7, none⟩ = some (.int .i64 o.k) ∧ wa.cell? ⟨w.heap.size + 1, 0, none⟩ = some (.int .u8 a.d) ∧ wa.cell? ⟨w.heap.size + 1, 1, none⟩ = some (.int .u8 a.f) ∧ wa.cell? ⟨w.heap.size + 1, 2, none⟩ = some (.int .u8 a.c) ∧ wa.cell? ⟨w.heap.size + 1, 3, none⟩ = some (.int .u8 a.r) ∧ wa.cell? ⟨w.heap.size + 1, 4, none⟩ = some (.int .i64 a.t) ∧ wa.cell? ⟨w.heap.size + 1, 5, none⟩ = some (.int .i64 a.n) ∧ wa.cell? ⟨w.heap.size + 1, 6, none⟩ = some (.int .i64 a.z) ∧ wa.cell? ⟨w.heap.size + 1, 7, none⟩ = some (.int .i64 a.k) ∧ Below W.heap.size W wa) → Below wa.heap.size wa wb → (wb.cell? ⟨w.heap.size, 0, none⟩ = some (.int .u8 o.d) ∧ wb.cell? ⟨w.heap.size, 1, none⟩ = some (.int .u8 o.f) ∧ wb.cell? ⟨w.heap.size, 2, none⟩ = some (.int .u8 o.c) ∧ wb.cell? ⟨w.heap.size, 3, none⟩ = some (.int .u8 o.r) ∧ wb.cell? ⟨w.heap.size, 4, none⟩ = some (.int .i64 o.t) ∧ wb.cell? ⟨w.heap.size, 5, none⟩ = some (.int .i64 o.n) ∧ wb.cell? ⟨w.heap.size, 6, none⟩ = some (.int .i64 o.z) ∧ wb.cell? ⟨w.heap.size, 7, none⟩ = some (.int .i64 o.k) ∧ wb.cell? ⟨w.heap.size + 1, 0, none⟩ = some (.int .u8 a.d) ∧ wb.cell? ⟨w.heap.size + 1, 1, none⟩ = some (.int .u8 a.f) ∧ wb.cell? ⟨w.heap.size + 1, 2, none⟩ = some (.int .u8 a.c) ∧ wb.cell? ⟨w.heap.size + 1, 3, none⟩ = some (.int .u8 a.r) ∧ wb.cell? ⟨w.heap.size + 1, 4, none⟩ = some (.int .i64 a.t) ∧ wb.cell? ⟨w.heap.size + 1, 5, none⟩ = some (.int .i64 a.n) ∧ wb.cell? ⟨w.heap.size + 1, 6, none⟩ = some (.int .i64 a.z) ∧ wb.cell? ⟨w.heap.size + 1, 7, none⟩ = some (.int .i64 a.k) ∧ Below W.heap.size W wb)) := Lib.hid (fun wa wb ⟨y00, y01, y02, y03, y04, y05, y06, y07, y10, y11, y12, y13, y14, y15, y16, y17, hz⟩ hb => ⟨cell_below y00 hb, cell_below y01 hb, cell_below y02 hb, cell_below y03 hb, cell_below y04 hb, cell_below y05 hb, cell_below y06 hb, cell_below y07 hb, cell_below y10 hb, cell_below y11 hb, cell_below y12 hb, cell_below y13 hb, cell_below y14 hb, cell_below y15 hb, cell_below y16 hb, cell_below y17 hb, below_on hz hb⟩)
  go_region_held3 (fun w' => w'.cell? ⟨w.heap.size, 0, none⟩ = some (.int .u8 o.d) ∧ w'.cell? ⟨w.heap.size, 1, none⟩ = some (.int .u8 o.f) ∧ w'.cell? ⟨w.heap.size, 2, none⟩ = some (.int .u8 o.c) ∧ w'.cell? ⟨w.heap.size, 3, none⟩ = some (.int .u8 o.r) ∧ w'.cell? ⟨w.heap.size, 4, none⟩ = some (.int .i64 o.t) ∧ w'.cell? ⟨w.heap.size, 5, none⟩ = some (.int .i64 o.n) ∧ w'.cell? ⟨w.heap.size, 6, none⟩ = some (.int .i64 o.z) ∧ w'.cell? ⟨w.heap.size, 7, none⟩ = some (.int .i64 o.k) ∧ w'.cell? ⟨w.heap.size + 1, 0, none⟩ = some (.int .u8 a.d) ∧ w'.cell? ⟨w.heap.size + 1, 1, none⟩ = some (.int .u8 a.f) ∧ w'.cell? ⟨w.heap.size + 1, 2, none⟩ = some (.int .u8 a.c) ∧ w'.cell? ⟨w.heap.size + 1, 3, none⟩ = some (.int .u8 a.r) ∧ w'.cell? ⟨w.heap.size + 1, 4, none⟩ = some (.int .i64 a.t) ∧ w'.cell? ⟨w.heap.size + 1, 5, none⟩ = some (.int .i64 a.n) ∧ w'.cell? ⟨w.heap.size + 1, 6, none⟩ = some (.int .i64 a.z) ∧ w'.cell? ⟨w.heap.size + 1, 7, none⟩ = some (.int .i64 a.k) ∧ Below W.heap.size W w')
    (first | exact ⟨g0, g1, g2, g3, g4, g5, g6, g7, j0, j1, j2, j3, j4, j5, j6, j7, (Below.refl _ _).drew⟩ | exact HS.out)
    ((first
      | (go_at_call 15; ((with_reducible refine (CA.out _).mono ?_); rintro e w' ⟨rfl, hb⟩; have HS := Lib.hid (HSt.out _ _ (by assumption) hb); clear hb))
      | (go_at_call 16; ((with_reducible refine (CRA.out _).mono ?_); rintro e w' ⟨rfl, hb⟩; have HS := Lib.hid (HSt.out _ _ (by assumption) hb); clear hb))
      | (go_at_call 10; ((with_reducible refine (CQ.out _).mono ?_); rintro e w' ⟨rfl, hb⟩; have HS := Lib.hid (HSt.out _ _ (by assumption) hb); clear hb))
      | (go_at_call 10; ((with_reducible refine (CO.out _).mono ?_); rintro e w' ⟨rfl, hb⟩; have HS := Lib.hid (HSt.out _ _ (by assumption) hb); clear hb))
      | (go_at_call 10; ((with_reducible refine (CF.out _).mono ?_); rintro e w' ⟨rfl, hb⟩; have HS := Lib.hid (HSt.out _ _ (by assumption) hb); clear hb))
      | (go_at_call 17; ((with_reducible refine (CL.out _).mono ?_); rintro e w' ⟨rfl, hb⟩; have HS := Lib.hid (HSt.out _ _ (by assumption) hb); clear hb))
      | (go_at_call 18; ((with_reducible refine (CRL.out _).mono ?_); rintro e w' ⟨rfl, hb⟩; have HS := Lib.hid (HSt.out _ _ (by assumption) hb); clear hb))
      | (go_at_call 7; ((with_reducible refine (CW.out _).mono ?_); rintro e w' ⟨rfl, hb⟩; have HS := Lib.hid (HSt.out _ _ (by assumption) hb); clear hb))))
  rename_i hX
  have HX := Lib.hid (below_on HB.out hX.2.2.2.2.2.2.2.2.2.2.2.2.2.2.2.2)
  go_wp2
  go_ret
  exact ⟨rfl, HX.out⟩
end Go.Proofs.Ytgdpmhfbkecipaa.pnAgrees
