/-
  What Lowers of layer 8 answers; the chapter's examples hold. No condition.
-/
import Derived.Test.YtgdpmhfbkecipaaPnRget
namespace Go.Proofs.Ytgdpmhfbkecipaa.Pn
open Go.RowKit Go.Proofs.Ytgdpmhfbkecipaa.Base Go.Proofs.Ytgdpmhfbkecipaa.Mem
theorem flowers (p a : Pr) (w : World) :
    Calls Try.prog 17 #[pv p, pv a] w fun x w' => x = .returned (.bool (lowers p a)) ∧ Below w.heap.size w w' := by
  have CB := Lib.hid (fun w => fagree p a w)
  have HE : ∀ w, (binOp .eql 23 (pv p) (pv (agree p a))).run Try.prog w = .ok (.bool (lowers p a)) w := fun w => by rw [run_eqP, lowers_agree]
  generalize agree p a = q at CB HE
  generalize lowers p a = b at HE
  go_enter Try.func17, Try.ntmps17
  go_wp2
  have HB0 : Hid (Below w.heap.size w ((w.alloc (pO p 23)).alloc (pO a 23))) := Lib.hid (nest_below w [pO p 23, pO a 23])
  have GS : Cells ((w.alloc (pO p 23)).alloc (pO a 23)) w.heap.size p := cells_of (nest w [_, _] 0 _ rfl)
  have GT : Cells ((w.alloc (pO p 23)).alloc (pO a 23)) (w.heap.size + 1) a := cells_of (nest w [_, _] 1 _ rfl)
  generalize (w.alloc (pO p 23)).alloc (pO a 23) = W at *
  obtain ⟨g0, g1, g2, g3, g4, g5, g6, g7⟩ := GS
  obtain ⟨j0, j1, j2, j3, j4, j5, j6, j7⟩ := GT
  go_region_held3 (fun w' => w'.cell? ⟨w.heap.size, 0, none⟩ = some (.int .u8 p.d) ∧ w'.cell? ⟨w.heap.size, 1, none⟩ = some (.int .u8 p.f) ∧ w'.cell? ⟨w.heap.size, 2, none⟩ = some (.int .u8 p.c) ∧ w'.cell? ⟨w.heap.size, 3, none⟩ = some (.int .u8 p.r) ∧ w'.cell? ⟨w.heap.size, 4, none⟩ = some (.int .i64 p.t) ∧ w'.cell? ⟨w.heap.size, 5, none⟩ = some (.int .i64 p.n) ∧ w'.cell? ⟨w.heap.size, 6, none⟩ = some (.int .i64 p.z) ∧ w'.cell? ⟨w.heap.size, 7, none⟩ = some (.int .i64 p.k) ∧ w'.cell? ⟨w.heap.size + 1, 0, none⟩ = some (.int .u8 a.d) ∧ w'.cell? ⟨w.heap.size + 1, 1, none⟩ = some (.int .u8 a.f) ∧ w'.cell? ⟨w.heap.size + 1, 2, none⟩ = some (.int .u8 a.c) ∧ w'.cell? ⟨w.heap.size + 1, 3, none⟩ = some (.int .u8 a.r) ∧ w'.cell? ⟨w.heap.size + 1, 4, none⟩ = some (.int .i64 a.t) ∧ w'.cell? ⟨w.heap.size + 1, 5, none⟩ = some (.int .i64 a.n) ∧ w'.cell? ⟨w.heap.size + 1, 6, none⟩ = some (.int .i64 a.z) ∧ w'.cell? ⟨w.heap.size + 1, 7, none⟩ = some (.int .i64 a.k) ∧ Below W.heap.size W w')
    (first | exact ⟨g0, g1, g2, g3, g4, g5, g6, g7, j0, j1, j2, j3, j4, j5, j6, j7, (Below.refl _ _).drew⟩ | exact ⟨cell_below g0 HB1.out, cell_below g1 HB1.out, cell_below g2 HB1.out, cell_below g3 HB1.out, cell_below g4 HB1.out, cell_below g5 HB1.out, cell_below g6 HB1.out, cell_below g7 HB1.out, cell_below j0 HB1.out, cell_below j1 HB1.out, cell_below j2 HB1.out, cell_below j3 HB1.out, cell_below j4 HB1.out, cell_below j5 HB1.out, cell_below j6 HB1.out, cell_below j7 HB1.out, HB1.out⟩)
    ((go_at_call 15; ((with_reducible refine (CB.out _).mono ?_); rintro e w1 ⟨rfl, hb⟩; have HB1 := Lib.hid (below_on ((Below.refl W.heap.size W).drew) hb); clear hb)))
  rename_i hX
  go_wp2
  go_ret
  exact ⟨rfl, below_on HB0.out hX.2.2.2.2.2.2.2.2.2.2.2.2.2.2.2.2⟩
theorem k1 (w : World) : Calls Try.prog 8 #[.agg #[.int .u8 5, .int .u8 2, .int .u8 3, .int .u8 7, .int .i64 10, .int .i64 300, .int .i64 3, .int .i64 2]] w fun e w' => e = .returned (.tuple #[.string ⟨#[5, 50, 7, 10, 44, 1, 3, 2]⟩, .int .i64 0]) ∧ Below w.heap.size w w' := by
  have h := fput ⟨5, 2, 3, 7, 10, 300, 3, 2⟩ (by refine ⟨?_, ?_, ?_, ?_⟩ <;> decide) w
  exact h
theorem k2 (w : World) : Calls Try.prog 11 #[.string ⟨#[5, 50, 7, 10, 44, 1, 3]⟩] w fun e w' => e = .returned (.tuple #[.agg #[.int .u8 0, .int .u8 0, .int .u8 0, .int .u8 0, .int .i64 0, .int .i64 0, .int .i64 0, .int .i64 0], .int .i64 20]) ∧ Below w.heap.size w w' := by
  have h := fget ⟨#[5, 50, 7, 10, 44, 1, 3]⟩ w
  obtain ⟨e1, e2⟩ := got_short (s := ⟨#[5, 50, 7, 10, 44, 1, 3]⟩) (by decide)
  rw [e1, e2] at h
  exact h
theorem k3 (w : World) : Calls Try.prog 11 #[.string ⟨#[5, 50, 7, 10, 44, 1, 3, 8]⟩] w fun e w' => e = .returned (.tuple #[.agg #[.int .u8 0, .int .u8 0, .int .u8 0, .int .u8 0, .int .i64 0, .int .i64 0, .int .i64 0, .int .i64 0], .int .i64 70]) ∧ Below w.heap.size w w' := by
  have h := fget ⟨#[5, 50, 7, 10, 44, 1, 3, 8]⟩ w
  obtain ⟨e1, e2⟩ := got_no (s := ⟨#[5, 50, 7, 10, 44, 1, 3, 8]⟩) (by decide) (.inr (by decide +kernel))
  rw [e1, e2] at h
  exact h
theorem k4 (w : World) : Calls Try.prog 15 #[.agg #[.int .u8 0, .int .u8 0, .int .u8 0, .int .u8 0, .int .i64 0, .int .i64 64, .int .i64 0, .int .i64 4], .agg #[.int .u8 5, .int .u8 2, .int .u8 3, .int .u8 7, .int .i64 10, .int .i64 300, .int .i64 3, .int .i64 2]] w fun e w' => e = .returned (.agg #[.int .u8 5, .int .u8 2, .int .u8 3, .int .u8 7, .int .i64 10, .int .i64 64, .int .i64 3, .int .i64 2]) ∧ Below w.heap.size w w' := fagree ⟨0, 0, 0, 0, 0, 64, 0, 4⟩ ⟨5, 2, 3, 7, 10, 300, 3, 2⟩ w
theorem k5 (w : World) : Calls Try.prog 17 #[.agg #[.int .u8 5, .int .u8 2, .int .u8 3, .int .u8 7, .int .i64 10, .int .i64 64, .int .i64 3, .int .i64 2], .agg #[.int .u8 5, .int .u8 2, .int .u8 3, .int .u8 7, .int .i64 10, .int .i64 300, .int .i64 3, .int .i64 2]] w fun e w' => e = .returned (.bool true) ∧ Below w.heap.size w w' := flowers ⟨5, 2, 3, 7, 10, 64, 3, 2⟩ ⟨5, 2, 3, 7, 10, 300, 3, 2⟩ w
theorem k6 (w : World) : Calls Try.prog 17 #[.agg #[.int .u8 5, .int .u8 2, .int .u8 3, .int .u8 7, .int .i64 10, .int .i64 300, .int .i64 3, .int .i64 2], .agg #[.int .u8 5, .int .u8 2, .int .u8 3, .int .u8 7, .int .i64 10, .int .i64 64, .int .i64 3, .int .i64 2]] w fun e w' => e = .returned (.bool false) ∧ Below w.heap.size w w' := flowers ⟨5, 2, 3, 7, 10, 300, 3, 2⟩ ⟨5, 2, 3, 7, 10, 64, 3, 2⟩ w
theorem k7 (w : World) : (binOp .eql 23 (.agg #[.int .u8 5, .int .u8 2, .int .u8 3, .int .u8 7, .int .i64 10, .int .i64 64, .int .i64 3, .int .i64 2]) (.agg #[.int .u8 5, .int .u8 2, .int .u8 3, .int .u8 7, .int .i64 10, .int .i64 64, .int .i64 3, .int .i64 2])).run Try.prog w = .ok (.bool true) w := (run_eqP ⟨5, 2, 3, 7, 10, 64, 3, 2⟩ ⟨5, 2, 3, 7, 10, 64, 3, 2⟩ w).trans (by rw [eqP_self])
set_option maxRecDepth 100000 in
theorem works (w : World) : Calls Try.prog 7 #[] w fun e w' => e = .returned (.bool true) ∧ Below w.heap.size w w' := by
  have HE : ∀ w, (binOp .eql 23 (.agg #[.int .u8 5, .int .u8 2, .int .u8 3, .int .u8 7, .int .i64 10, .int .i64 64, .int .i64 3, .int .i64 2]) (.agg #[.int .u8 5, .int .u8 2, .int .u8 3, .int .u8 7, .int .i64 10, .int .i64 64, .int .i64 3, .int .i64 2])).run Try.prog w = .ok (.bool true) w := k7
  go_enter Try.func7, Try.ntmps7
  go_wp2_with (first
    | (go_at_call 8; ((with_reducible refine (k1 _).mono ?_); rintro e w1 ⟨rfl, hb⟩; have HB1 : Hid (Below w.heap.size w w1) := Lib.hid (on_new (Below.refl _ _) hb); have HF1 : Hid (w1.heap[w.heap.size]? = some (pO ⟨5, 2, 3, 7, 10, 300, 3, 2⟩ 23)) := Lib.hid (fresh hb); clear hb))
    | (go_at_call 11; (first
        | ((with_reducible refine (k2 _).mono ?_); rintro e w2 ⟨rfl, hb⟩; have HB2 : Hid (Below w.heap.size w w2) := Lib.hid (below_on HB1.out hb); have HF2 : Hid (w2.heap[w.heap.size]? = some (pO ⟨5, 2, 3, 7, 10, 300, 3, 2⟩ 23)) := Lib.hid (stays HF1.out hb); clear hb)
        | ((with_reducible refine (k3 _).mono ?_); rintro e w3 ⟨rfl, hb⟩; have HB3 : Hid (Below w.heap.size w w3) := Lib.hid (on_new HB2.out hb); have HF3 : Hid (w3.heap[w.heap.size]? = some (pO ⟨5, 2, 3, 7, 10, 300, 3, 2⟩ 23)) := Lib.hid (stays HF2.out (on_new (Below.refl _ _) hb)); have hlt := lt_heap HF3.out; clear hb; have GS := cells_of HF3.out; have g0 : w3.cell? ⟨w.heap.size, 0, none⟩ = some (.int .u8 5) := GS.c0; have g1 : w3.cell? ⟨w.heap.size, 1, none⟩ = some (.int .u8 2) := GS.c1; have g2 : w3.cell? ⟨w.heap.size, 2, none⟩ = some (.int .u8 3) := GS.c2; have g3 : w3.cell? ⟨w.heap.size, 3, none⟩ = some (.int .u8 7) := GS.c3; have g4 : w3.cell? ⟨w.heap.size, 4, none⟩ = some (.int .i64 10) := GS.c4; have g5 : w3.cell? ⟨w.heap.size, 5, none⟩ = some (.int .i64 300) := GS.c5; have g6 : w3.cell? ⟨w.heap.size, 6, none⟩ = some (.int .i64 3) := GS.c6; have g7 : w3.cell? ⟨w.heap.size, 7, none⟩ = some (.int .i64 2) := GS.c7; clear GS)))
    | (go_at_call 15; ((with_reducible refine (k4 _).mono ?_); rintro e w4 ⟨rfl, hb⟩; have HB4 : Hid (Below w.heap.size w w4) := Lib.hid (on_new HB3.out hb); have HF4 : Hid (w4.heap[w.heap.size]? = some (pO ⟨5, 2, 3, 7, 10, 300, 3, 2⟩ 23)) := Lib.hid (stays HF3.out (on_new (Below.refl _ _) hb)); clear hb; have hl4 := lt_heap HF4.out; clear g0 g1 g2 g3 g4 g5 g6 g7; have GS := cells_of HF4.out; have g0 : w4.cell? ⟨w.heap.size, 0, none⟩ = some (.int .u8 5) := GS.c0; have g1 : w4.cell? ⟨w.heap.size, 1, none⟩ = some (.int .u8 2) := GS.c1; have g2 : w4.cell? ⟨w.heap.size, 2, none⟩ = some (.int .u8 3) := GS.c2; have g3 : w4.cell? ⟨w.heap.size, 3, none⟩ = some (.int .u8 7) := GS.c3; have g4 : w4.cell? ⟨w.heap.size, 4, none⟩ = some (.int .i64 10) := GS.c4; have g5 : w4.cell? ⟨w.heap.size, 5, none⟩ = some (.int .i64 300) := GS.c5; have g6 : w4.cell? ⟨w.heap.size, 6, none⟩ = some (.int .i64 3) := GS.c6; have g7 : w4.cell? ⟨w.heap.size, 7, none⟩ = some (.int .i64 2) := GS.c7; clear GS))
    | (go_at_call 17; (first
        | ((with_reducible refine (k5 _).mono ?_); rintro e w5 ⟨rfl, hb⟩; have HB5 : Hid (Below w.heap.size w w5) := Lib.hid (on_new HB4.out hb); have HF5 : Hid (w5.heap[w.heap.size]? = some (pO ⟨5, 2, 3, 7, 10, 300, 3, 2⟩ 23)) := Lib.hid (stays HF4.out (on_new (Below.refl _ _) hb)); have HG5 : Hid (w5.heap[w4.heap.size]? = some (pO ⟨5, 2, 3, 7, 10, 64, 3, 2⟩ 23)) := Lib.hid (fresh hb); clear hb; clear g0 g1 g2 g3 g4 g5 g6 g7; have GS := cells_of HF5.out; have g0 : w5.cell? ⟨w.heap.size, 0, none⟩ = some (.int .u8 5) := GS.c0; have g1 : w5.cell? ⟨w.heap.size, 1, none⟩ = some (.int .u8 2) := GS.c1; have g2 : w5.cell? ⟨w.heap.size, 2, none⟩ = some (.int .u8 3) := GS.c2; have g3 : w5.cell? ⟨w.heap.size, 3, none⟩ = some (.int .u8 7) := GS.c3; have g4 : w5.cell? ⟨w.heap.size, 4, none⟩ = some (.int .i64 10) := GS.c4; have g5 : w5.cell? ⟨w.heap.size, 5, none⟩ = some (.int .i64 300) := GS.c5; have g6 : w5.cell? ⟨w.heap.size, 6, none⟩ = some (.int .i64 3) := GS.c6; have g7 : w5.cell? ⟨w.heap.size, 7, none⟩ = some (.int .i64 2) := GS.c7; clear GS; have GS := cells_of HG5.out; have j0 : w5.cell? ⟨w4.heap.size, 0, none⟩ = some (.int .u8 5) := GS.c0; have j1 : w5.cell? ⟨w4.heap.size, 1, none⟩ = some (.int .u8 2) := GS.c1; have j2 : w5.cell? ⟨w4.heap.size, 2, none⟩ = some (.int .u8 3) := GS.c2; have j3 : w5.cell? ⟨w4.heap.size, 3, none⟩ = some (.int .u8 7) := GS.c3; have j4 : w5.cell? ⟨w4.heap.size, 4, none⟩ = some (.int .i64 10) := GS.c4; have j5 : w5.cell? ⟨w4.heap.size, 5, none⟩ = some (.int .i64 64) := GS.c5; have j6 : w5.cell? ⟨w4.heap.size, 6, none⟩ = some (.int .i64 3) := GS.c6; have j7 : w5.cell? ⟨w4.heap.size, 7, none⟩ = some (.int .i64 2) := GS.c7; clear GS)
        | ((with_reducible refine (k6 _).mono ?_); rintro e w6 ⟨rfl, hb⟩; have HB6 : Hid (Below w.heap.size w w6) := Lib.hid (below_on HB5.out hb); clear hb))))
  go_ret
  exact ⟨rfl, HB6.out⟩
end Go.Proofs.Ytgdpmhfbkecipaa.Pn
