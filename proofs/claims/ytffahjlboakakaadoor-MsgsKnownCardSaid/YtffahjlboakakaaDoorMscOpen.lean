/-
  A status that came in as an argument, opened to its parts and shut again. No condition of its own.
-/
import Derived.Test.YtffahjlboakakaaDoorRows
import Derived.Test.YtffahjlboakakaaDoorMscMem
import Derived.ProofKit
import Derived.OpenShut
namespace Go.Proofs.YtffahjlboakakaaDoor.Msc
set_option maxRecDepth 20000
open Go.ChangeShapes Go.WideShapes Go.ChangeAt Go.ChangeMaps Go.RowKit
/-- The datum. -/
abbrev sd {H : Type} (s : St) : DataW H := .agg [.lit (.int .u8 (s.d : Int)), .lit (.bool s.f), .lit (.bool s.c), .lit (.bool s.r), .lit (.bool s.i), .lit (.bool s.v), .lit (.bool s.b), .lit (.int .u8 (s.k : Int))]
/-- Its numbers are Go's. -/
structure St.Wf (s : St) : Prop where
  d : (Lit.int .u8 (s.d : Int)).wf = true
  k : (Lit.int .u8 (s.k : Int)).wf = true
theorem cellsS : Tryd.prog.cellsOf 25 = 8 := by kernel_rfl
theorem cells_u8 : Tryd.prog.cellsOf 5 = 1 := by kernel_rfl
theorem cells_bool : Tryd.prog.cellsOf 4 = 1 := by kernel_rfl
section
variable {H : Type} {enc : TypeId × Value → H} {w : World} {base : Nat} {spare : Nat → Bool} {held : Bool}
theorem open_status {r : Reach} {b0 : Nat} {v : Value} {d : DataW H} {p : List MemPlace} (hv : Value.okWide Tryd.prog w r b0 25 v) (h : DataW.Trod enc Tryd.prog w base spare held 25 v d p) :
    ∃ q : St, v = sv q ∧ d = sd q ∧ p = [] ∧ q.In ∧ q.Wf := by
  obtain ⟨⟨cs⟩, rfl, hz⟩ := okWide_struct Tryd.underlying25 hv
  rw [cellsS] at hz
  obtain ⟨fuel, hf⟩ := h
  obtain ⟨ys, n, _, hx, _, hlen, hg⟩ := DataW.trod_struct Tryd.underlying25 hf
  match cs, hz, ys, hlen with
  | [c0, c1, c2, c3, c4, c5, c6, c7], _, [y0, y1, y2, y3, y4, y5, y6, y7], _ =>
    have g0 : DataW.trod enc Tryd.prog w base spare held n 5 ((([c0, c1, c2, c3, c4, c5, c6, c7] : List Value).drop 0).take (Tryd.prog.cellsOf 5)) = some y0 := hg 0 _ rfl
    rw [cells_u8] at g0
    have g1 : DataW.trod enc Tryd.prog w base spare held n 4 ((([c0, c1, c2, c3, c4, c5, c6, c7] : List Value).drop 1).take (Tryd.prog.cellsOf 4)) = some y1 := hg 1 _ rfl
    rw [cells_bool] at g1
    have g2 : DataW.trod enc Tryd.prog w base spare held n 4 ((([c0, c1, c2, c3, c4, c5, c6, c7] : List Value).drop 2).take (Tryd.prog.cellsOf 4)) = some y2 := hg 2 _ rfl
    rw [cells_bool] at g2
    have g3 : DataW.trod enc Tryd.prog w base spare held n 4 ((([c0, c1, c2, c3, c4, c5, c6, c7] : List Value).drop 3).take (Tryd.prog.cellsOf 4)) = some y3 := hg 3 _ rfl
    rw [cells_bool] at g3
    have g4 : DataW.trod enc Tryd.prog w base spare held n 4 ((([c0, c1, c2, c3, c4, c5, c6, c7] : List Value).drop 4).take (Tryd.prog.cellsOf 4)) = some y4 := hg 4 _ rfl
    rw [cells_bool] at g4
    have g5 : DataW.trod enc Tryd.prog w base spare held n 4 ((([c0, c1, c2, c3, c4, c5, c6, c7] : List Value).drop 5).take (Tryd.prog.cellsOf 4)) = some y5 := hg 5 _ rfl
    rw [cells_bool] at g5
    have g6 : DataW.trod enc Tryd.prog w base spare held n 4 ((([c0, c1, c2, c3, c4, c5, c6, c7] : List Value).drop 6).take (Tryd.prog.cellsOf 4)) = some y6 := hg 6 _ rfl
    rw [cells_bool] at g6
    have g7 : DataW.trod enc Tryd.prog w base spare held n 5 ((([c0, c1, c2, c3, c4, c5, c6, c7] : List Value).drop 7).take (Tryd.prog.cellsOf 5)) = some y7 := hg 7 _ rfl
    rw [cells_u8] at g7
    obtain ⟨n0, e0, rfl, k0⟩ := DataW.trod_int Tryd.underlying5 g0
    obtain ⟨n1, e1, rfl⟩ := DataW.trod_bool Tryd.underlying4 g1
    obtain ⟨n2, e2, rfl⟩ := DataW.trod_bool Tryd.underlying4 g2
    obtain ⟨n3, e3, rfl⟩ := DataW.trod_bool Tryd.underlying4 g3
    obtain ⟨n4, e4, rfl⟩ := DataW.trod_bool Tryd.underlying4 g4
    obtain ⟨n5, e5, rfl⟩ := DataW.trod_bool Tryd.underlying4 g5
    obtain ⟨n6, e6, rfl⟩ := DataW.trod_bool Tryd.underlying4 g6
    obtain ⟨n7, e7, rfl, k7⟩ := DataW.trod_int Tryd.underlying5 g7
    obtain rfl : c0 = _ := List.head_eq_of_cons_eq e0
    obtain rfl : c1 = _ := List.head_eq_of_cons_eq e1
    obtain rfl : c2 = _ := List.head_eq_of_cons_eq e2
    obtain rfl : c3 = _ := List.head_eq_of_cons_eq e3
    obtain rfl : c4 = _ := List.head_eq_of_cons_eq e4
    obtain rfl : c5 = _ := List.head_eq_of_cons_eq e5
    obtain rfl : c6 = _ := List.head_eq_of_cons_eq e6
    obtain rfl : c7 = _ := List.head_eq_of_cons_eq e7
    obtain ⟨m0, rfl, l0⟩ := Base.wf_u8 k0
    obtain ⟨m7, rfl, l7⟩ := Base.wf_u8 k7
    simp only [Prod.mk.injEq] at hx
    exact ⟨⟨m0, n1, n2, n3, n4, n5, n6, m7⟩, rfl, hx.1, hx.2, ⟨l0, l7⟩, ⟨k0, k7⟩⟩
theorem shut_status (s : St) (h : s.Wf) : DataW.Trod enc Tryd.prog w base spare held 25 (sv s) (sd s) [] := by
  refine ⟨3, ?_⟩
  obtain ⟨h0, h7⟩ := h
  simp [DataW.trod, Value.cells, Tryd.underlying25, Tryd.underlying5, Tryd.underlying4, cellsS, cells_u8, cells_bool, h0, h7]
end
end Go.Proofs.YtffahjlboakakaaDoor.Msc
