/-
  Parameters that came in as an argument, opened to their parts and shut again. No condition of its own.
-/
import Derived.Test.YtffahjlboakakaaDoorRows
import Derived.Test.YtffahjlboakakaaDoorPnMem
import Derived.ProofKit
import Derived.OpenShut
namespace Go.Proofs.YtffahjlboakakaaDoor.Pn
set_option maxRecDepth 20000
open Go.ChangeShapes Go.WideShapes Go.ChangeAt Go.ChangeMaps Go.RowKit
/-- The datum. -/
abbrev pd {H : Type} (p : Pr) : DataW H := .agg [.lit (.int .u8 p.d), .lit (.int .u8 p.f), .lit (.int .u8 p.c), .lit (.int .u8 p.r), .lit (.int .i64 p.t), .lit (.int .i64 p.n), .lit (.int .i64 p.z), .lit (.int .i64 p.k)]
/-- Its numbers are Go's. -/
structure Pr.Wf (p : Pr) : Prop where
  d : (Lit.int .u8 p.d).wf = true
  f : (Lit.int .u8 p.f).wf = true
  c : (Lit.int .u8 p.c).wf = true
  r : (Lit.int .u8 p.r).wf = true
  t : (Lit.int .i64 p.t).wf = true
  n : (Lit.int .i64 p.n).wf = true
  z : (Lit.int .i64 p.z).wf = true
  k : (Lit.int .i64 p.k).wf = true
theorem cellsP : Tryd.prog.cellsOf 23 = 8 := by kernel_rfl
theorem cellsU : Tryd.prog.cellsOf 5 = 1 := by kernel_rfl
theorem cellsI : Tryd.prog.cellsOf 3 = 1 := by kernel_rfl
section
variable {H : Type} {enc : TypeId × Value → H} {w : World} {base : Nat} {spare : Nat → Bool} {held : Bool}
theorem open_params {r : Reach} {b0 : Nat} {v : Value} {d : DataW H} {p : List MemPlace} (hv : Value.okWide Tryd.prog w r b0 23 v) (h : DataW.Trod enc Tryd.prog w base spare held 23 v d p) :
    ∃ q : Pr, v = pv q ∧ d = pd q ∧ p = [] ∧ q.In ∧ q.Wf := by
  obtain ⟨⟨cs⟩, rfl, hz⟩ := okWide_struct Tryd.underlying23 hv
  rw [cellsP] at hz
  obtain ⟨fuel, hf⟩ := h
  obtain ⟨ys, n, _, hx, _, hlen, hg⟩ := DataW.trod_struct Tryd.underlying23 hf
  match cs, hz, ys, hlen with
  | [c0, c1, c2, c3, c4, c5, c6, c7], _, [y0, y1, y2, y3, y4, y5, y6, y7], _ =>
    have g0 : DataW.trod enc Tryd.prog w base spare held n 5 ((([c0, c1, c2, c3, c4, c5, c6, c7] : List Value).drop 0).take (Tryd.prog.cellsOf 5)) = some y0 := hg 0 _ rfl
    rw [cellsU] at g0
    have g1 : DataW.trod enc Tryd.prog w base spare held n 5 ((([c0, c1, c2, c3, c4, c5, c6, c7] : List Value).drop 1).take (Tryd.prog.cellsOf 5)) = some y1 := hg 1 _ rfl
    rw [cellsU] at g1
    have g2 : DataW.trod enc Tryd.prog w base spare held n 5 ((([c0, c1, c2, c3, c4, c5, c6, c7] : List Value).drop 2).take (Tryd.prog.cellsOf 5)) = some y2 := hg 2 _ rfl
    rw [cellsU] at g2
    have g3 : DataW.trod enc Tryd.prog w base spare held n 5 ((([c0, c1, c2, c3, c4, c5, c6, c7] : List Value).drop 3).take (Tryd.prog.cellsOf 5)) = some y3 := hg 3 _ rfl
    rw [cellsU] at g3
    have g4 : DataW.trod enc Tryd.prog w base spare held n 3 ((([c0, c1, c2, c3, c4, c5, c6, c7] : List Value).drop 4).take (Tryd.prog.cellsOf 3)) = some y4 := hg 4 _ rfl
    rw [cellsI] at g4
    have g5 : DataW.trod enc Tryd.prog w base spare held n 3 ((([c0, c1, c2, c3, c4, c5, c6, c7] : List Value).drop 5).take (Tryd.prog.cellsOf 3)) = some y5 := hg 5 _ rfl
    rw [cellsI] at g5
    have g6 : DataW.trod enc Tryd.prog w base spare held n 3 ((([c0, c1, c2, c3, c4, c5, c6, c7] : List Value).drop 6).take (Tryd.prog.cellsOf 3)) = some y6 := hg 6 _ rfl
    rw [cellsI] at g6
    have g7 : DataW.trod enc Tryd.prog w base spare held n 3 ((([c0, c1, c2, c3, c4, c5, c6, c7] : List Value).drop 7).take (Tryd.prog.cellsOf 3)) = some y7 := hg 7 _ rfl
    rw [cellsI] at g7
    obtain ⟨n0, e0, rfl, k0⟩ := DataW.trod_int Tryd.underlying5 g0
    obtain ⟨n1, e1, rfl, k1⟩ := DataW.trod_int Tryd.underlying5 g1
    obtain ⟨n2, e2, rfl, k2⟩ := DataW.trod_int Tryd.underlying5 g2
    obtain ⟨n3, e3, rfl, k3⟩ := DataW.trod_int Tryd.underlying5 g3
    obtain ⟨n4, e4, rfl, k4⟩ := DataW.trod_int Tryd.underlying3 g4
    obtain ⟨n5, e5, rfl, k5⟩ := DataW.trod_int Tryd.underlying3 g5
    obtain ⟨n6, e6, rfl, k6⟩ := DataW.trod_int Tryd.underlying3 g6
    obtain ⟨n7, e7, rfl, k7⟩ := DataW.trod_int Tryd.underlying3 g7
    obtain rfl : c0 = _ := List.head_eq_of_cons_eq e0
    obtain rfl : c1 = _ := List.head_eq_of_cons_eq e1
    obtain rfl : c2 = _ := List.head_eq_of_cons_eq e2
    obtain rfl : c3 = _ := List.head_eq_of_cons_eq e3
    obtain rfl : c4 = _ := List.head_eq_of_cons_eq e4
    obtain rfl : c5 = _ := List.head_eq_of_cons_eq e5
    obtain rfl : c6 = _ := List.head_eq_of_cons_eq e6
    obtain rfl : c7 = _ := List.head_eq_of_cons_eq e7
    obtain ⟨m0, r0, l0⟩ := Base.wf_u8 k0
    obtain ⟨m1, r1, l1⟩ := Base.wf_u8 k1
    obtain ⟨m2, r2, l2⟩ := Base.wf_u8 k2
    obtain ⟨m3, r3, l3⟩ := Base.wf_u8 k3
    simp only [Prod.mk.injEq] at hx
    exact ⟨⟨n0, n1, n2, n3, n4, n5, n6, n7⟩, rfl, hx.1, hx.2, ⟨by show 0 ≤ n0 ∧ n0 < 256; omega, by show 0 ≤ n1 ∧ n1 < 256; omega, by show 0 ≤ n2 ∧ n2 < 256; omega, by show 0 ≤ n3 ∧ n3 < 256; omega⟩, ⟨k0, k1, k2, k3, k4, k5, k6, k7⟩⟩
theorem shut_params (p : Pr) (h : p.Wf) : DataW.Trod enc Tryd.prog w base spare held 23 (pv p) (pd p) [] := by
  refine ⟨3, ?_⟩
  obtain ⟨h0, h1, h2, h3, h4, h5, h6, h7⟩ := h
  simp [DataW.trod, Value.cells, Tryd.underlying23, Tryd.underlying5, Tryd.underlying3, cellsP, cellsU, cellsI, h0, h1, h2, h3, h4, h5, h6, h7]
end
end Go.Proofs.YtffahjlboakakaaDoor.Pn
