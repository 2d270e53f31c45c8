/-
  A deframer's row that came in as an argument, opened to its parts and shut again. No condition of its own.
-/
import Derived.Test.YthlciaomfpephaaDoorBasicOpen
import Derived.Test.YthlciaomfpephaaDoorDfWorks
namespace Go.Proofs.YthlciaomfpephaaDoor.Df
open Go.ChangeShapes Go.WideShapes Go.ChangeAt Go.ChangeMaps Go.RowKit Go.Proofs.YthlciaomfpephaaDoor.Basic
theorem cellsR : Tryd.prog.cellsOf 23 = 3 := by kernel_rfl
theorem cellsI : Tryd.prog.cellsOf 3 = 1 := by kernel_rfl
/-- A row's datum. -/
abbrev rd {H : Type} (adv ini : Bool) (n1 : Int) : DataW H := .agg [.lit (.bool adv), .lit (.bool ini), .lit (.int .i64 n1)]
section
variable {H : Type} {enc : TypeId × Value → H} {w : World} {base : Nat} {spare : Nat → Bool} {held : Bool}
theorem open_row {r : Reach} {b0 : Nat} {v : Value} {d : DataW H} {p : List MemPlace} (hv : Value.okWide Tryd.prog w r b0 23 v) (h : DataW.Trod enc Tryd.prog w base spare held 23 v d p) :
    ∃ (adv ini : Bool) (n1 : Int), v = rowV adv ini n1 ∧ d = rd adv ini n1 ∧ p = [] ∧ (Lit.int .i64 n1).wf = true := by
  obtain ⟨⟨cs⟩, rfl, hz⟩ := okWide_struct Tryd.underlying23 hv
  rw [cellsR] at hz
  obtain ⟨fuel, hf⟩ := h
  obtain ⟨ys, n, _, hx, _, hlen, hg⟩ := DataW.trod_struct Tryd.underlying23 hf
  match cs, hz, ys, hlen with
  | [c0, c1, c2], _, [y0, y1, y2], _ =>
    have g0 : DataW.trod enc Tryd.prog w base spare held n 4 ((([c0, c1, c2] : List Value).drop 0).take (Tryd.prog.cellsOf 4)) = some y0 := hg 0 _ rfl
    rw [cellsB] at g0
    have g1 : DataW.trod enc Tryd.prog w base spare held n 4 ((([c0, c1, c2] : List Value).drop 1).take (Tryd.prog.cellsOf 4)) = some y1 := hg 1 _ rfl
    rw [cellsB] at g1
    have g2 : DataW.trod enc Tryd.prog w base spare held n 3 ((([c0, c1, c2] : List Value).drop 2).take (Tryd.prog.cellsOf 3)) = some y2 := hg 2 _ rfl
    rw [cellsI] at g2
    obtain ⟨b0, e0, rfl⟩ := DataW.trod_bool Tryd.underlying4 g0
    obtain ⟨b1, e1, rfl⟩ := DataW.trod_bool Tryd.underlying4 g1
    obtain ⟨n2, e2, rfl, k2⟩ := DataW.trod_int Tryd.underlying3 g2
    obtain rfl : c0 = _ := List.head_eq_of_cons_eq e0
    obtain rfl : c1 = _ := List.head_eq_of_cons_eq e1
    obtain rfl : c2 = _ := List.head_eq_of_cons_eq e2
    simp only [Prod.mk.injEq] at hx
    exact ⟨b0, b1, n2, rfl, hx.1, hx.2, k2⟩
theorem shut_row (adv ini : Bool) (n1 : Int) (h : (Lit.int .i64 n1).wf = true) : DataW.Trod enc Tryd.prog w base spare held 23 (rowV adv ini n1) (rd adv ini n1) [] := by
  refine ⟨3, ?_⟩
  simp [DataW.trod, Value.cells, Tryd.underlying23, Tryd.underlying3, Tryd.underlying4, cellsR, cellsB, cellsI, h]
end
end Go.Proofs.YthlciaomfpephaaDoor.Df
