/-
  An event that came in as an argument, opened to its parts and shut again. No condition of its own.
-/
import Derived.Test.YtfflbaiddiahnaaRows
import Derived.Test.YtfflbaiddiahnaaLkDoes
import Derived.ProofKit
import Derived.OpenShut
namespace Go.Proofs.Ytfflbaiddiahnaa.Lk
open Go.ChangeShapes Go.WideShapes Go.ChangeAt Go.ChangeMaps Go.RowKit
/-- The datum. -/
abbrev sd {H : Type} (s : Et) : DataW H := .agg [.lit (.int .i64 s.kind), .lit (.int .u8 s.fr), .lit (.bool s.pf), .lit (.bool s.c)]
/-- Its numbers are Go's. -/
structure Et.Wf (s : Et) : Prop where
  kind : (Lit.int .i64 s.kind).wf = true
  fr : (Lit.int .u8 s.fr).wf = true
theorem cellsS : Try.prog.cellsOf 33 = 4 := by kernel_rfl
theorem cells_i64 : Try.prog.cellsOf 3 = 1 := by kernel_rfl
theorem cells_o8 : Try.prog.cellsOf 5 = 1 := by kernel_rfl
theorem cells_bool : Try.prog.cellsOf 4 = 1 := by kernel_rfl
section
variable {H : Type} {enc : TypeId × Value → H} {w : World} {base : Nat} {spare : Nat → Bool} {held : Bool}
theorem open_status {r : Reach} {b0 : Nat} {v : Value} {d : DataW H} {p : List MemPlace} (hv : Value.okWide Try.prog w r b0 33 v) (h : DataW.Trod enc Try.prog w base spare held 33 v d p) :
    ∃ q : Et, v = ev q ∧ d = sd q ∧ p = [] ∧ q.In ∧ q.Wf := by
  obtain ⟨⟨cs⟩, rfl, hz⟩ := okWide_struct Try.underlying33 hv
  rw [cellsS] at hz
  obtain ⟨fuel, hf⟩ := h
  obtain ⟨ys, n, _, hx, _, hlen, hg⟩ := DataW.trod_struct Try.underlying33 hf
  match cs, hz, ys, hlen with
  | [c0, c1, c2, c3], _, [y0, y1, y2, y3], _ =>
    have g0 : DataW.trod enc Try.prog w base spare held n 3 ((([c0, c1, c2, c3] : List Value).drop 0).take (Try.prog.cellsOf 3)) = some y0 := hg 0 _ rfl
    rw [cells_i64] at g0
    have g1 : DataW.trod enc Try.prog w base spare held n 5 ((([c0, c1, c2, c3] : List Value).drop 1).take (Try.prog.cellsOf 5)) = some y1 := hg 1 _ rfl
    rw [cells_o8] at g1
    have g2 : DataW.trod enc Try.prog w base spare held n 4 ((([c0, c1, c2, c3] : List Value).drop 2).take (Try.prog.cellsOf 4)) = some y2 := hg 2 _ rfl
    rw [cells_bool] at g2
    have g3 : DataW.trod enc Try.prog w base spare held n 4 ((([c0, c1, c2, c3] : List Value).drop 3).take (Try.prog.cellsOf 4)) = some y3 := hg 3 _ rfl
    rw [cells_bool] at g3
    obtain ⟨n0, e0, rfl, k0⟩ := DataW.trod_int Try.underlying3 g0
    obtain ⟨n1, e1, rfl, k1⟩ := DataW.trod_int Try.underlying5 g1
    obtain ⟨n2, e2, rfl⟩ := DataW.trod_bool Try.underlying4 g2
    obtain ⟨n3, e3, rfl⟩ := DataW.trod_bool Try.underlying4 g3
    obtain rfl : c0 = _ := List.head_eq_of_cons_eq e0
    obtain rfl : c1 = _ := List.head_eq_of_cons_eq e1
    obtain rfl : c2 = _ := List.head_eq_of_cons_eq e2
    obtain rfl : c3 = _ := List.head_eq_of_cons_eq e3
    simp only [Prod.mk.injEq] at hx
    exact ⟨⟨n0, n1, n2, n3⟩, rfl, hx.1, hx.2, ⟨⟩, ⟨k0, k1⟩⟩
theorem shut_status (s : Et) (h : s.Wf) : DataW.Trod enc Try.prog w base spare held 33 (ev s) (sd s) [] := by
  refine ⟨3, ?_⟩
  obtain ⟨h0, h1⟩ := h
  simp [DataW.trod, Value.cells, Try.underlying33, Try.underlying3, Try.underlying5, Try.underlying4, cellsS, cells_i64, cells_o8, cells_bool, h0, h1]
end
end Go.Proofs.Ytfflbaiddiahnaa.Lk
