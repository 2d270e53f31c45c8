/-
  A frame that came in as an argument, opened to its parts and shut again; the two tables out of what the rows list. No condition of its own.
-/
import Derived.Test.YthlciaomfpephaaDoorRows
import Derived.Test.YthlciaomfpephaaDoorFrame
import Derived.ProofKit
import Derived.OpenShut
import Derived.Lib.LaidTab
import Derived.Stop.LaidErr
namespace Go.Proofs.YthlciaomfpephaaDoor.Basic
open Go.ChangeShapes Go.WideShapes Go.ChangeAt Go.ChangeMaps Go.RowKit
/-- A frame's datum. -/
abbrev fd {H : Type} (f : Fr) : DataW H := .agg [.lit (.int .u8 (f.d : Int)), .lit (.bool f.c), .lit (.int .u8 (f.k : Int)), .lit (.bool f.pf), .lit (.int .u8 (f.ns : Int)), .lit (.int .u8 (f.nr : Int)), .lit (.string f.info.data.toList)]
theorem cellsF : Tryd.prog.cellsOf 30 = 7 := by kernel_rfl
theorem cellsU : Tryd.prog.cellsOf 5 = 1 := by kernel_rfl
theorem cellsB : Tryd.prog.cellsOf 4 = 1 := by kernel_rfl
theorem cellsS : Tryd.prog.cellsOf 9 = 1 := by kernel_rfl
section
variable {H : Type} {enc : TypeId × Value → H} {w : World} {base : Nat} {spare : Nat → Bool} {held : Bool}
theorem open_frame {r : Reach} {b0 : Nat} {v : Value} {d : DataW H} {p : List MemPlace} (hv : Value.okWide Tryd.prog w r b0 30 v) (h : DataW.Trod enc Tryd.prog w base spare held 30 v d p) :
    ∃ f : Fr, v = fv f ∧ d = fd f ∧ p = [] ∧ f.In ∧ f.info.size ≤ maxLen := by
  obtain ⟨⟨cs⟩, rfl, hz⟩ := okWide_struct Tryd.underlying30 hv
  rw [cellsF] at hz
  obtain ⟨fuel, hf⟩ := h
  obtain ⟨ys, n, _, hx, _, hlen, hg⟩ := DataW.trod_struct Tryd.underlying30 hf
  match cs, hz, ys, hlen with
  | [c0, c1, c2, c3, c4, c5, c6], _, [y0, y1, y2, y3, y4, y5, y6], _ =>
    have g0 : DataW.trod enc Tryd.prog w base spare held n 5 ((([c0, c1, c2, c3, c4, c5, c6] : List Value).drop 0).take (Tryd.prog.cellsOf 5)) = some y0 := hg 0 _ rfl
    rw [cellsU] at g0
    have g1 : DataW.trod enc Tryd.prog w base spare held n 4 ((([c0, c1, c2, c3, c4, c5, c6] : List Value).drop 1).take (Tryd.prog.cellsOf 4)) = some y1 := hg 1 _ rfl
    rw [cellsB] at g1
    have g2 : DataW.trod enc Tryd.prog w base spare held n 5 ((([c0, c1, c2, c3, c4, c5, c6] : List Value).drop 2).take (Tryd.prog.cellsOf 5)) = some y2 := hg 2 _ rfl
    rw [cellsU] at g2
    have g3 : DataW.trod enc Tryd.prog w base spare held n 4 ((([c0, c1, c2, c3, c4, c5, c6] : List Value).drop 3).take (Tryd.prog.cellsOf 4)) = some y3 := hg 3 _ rfl
    rw [cellsB] at g3
    have g4 : DataW.trod enc Tryd.prog w base spare held n 5 ((([c0, c1, c2, c3, c4, c5, c6] : List Value).drop 4).take (Tryd.prog.cellsOf 5)) = some y4 := hg 4 _ rfl
    rw [cellsU] at g4
    have g5 : DataW.trod enc Tryd.prog w base spare held n 5 ((([c0, c1, c2, c3, c4, c5, c6] : List Value).drop 5).take (Tryd.prog.cellsOf 5)) = some y5 := hg 5 _ rfl
    rw [cellsU] at g5
    have g6 : DataW.trod enc Tryd.prog w base spare held n 9 ((([c0, c1, c2, c3, c4, c5, c6] : List Value).drop 6).take (Tryd.prog.cellsOf 9)) = some y6 := hg 6 _ rfl
    rw [cellsS] at g6
    obtain ⟨n0, e0, rfl, k0⟩ := DataW.trod_int Tryd.underlying5 g0
    obtain ⟨b1, e1, rfl⟩ := DataW.trod_bool Tryd.underlying4 g1
    obtain ⟨n2, e2, rfl, k2⟩ := DataW.trod_int Tryd.underlying5 g2
    obtain ⟨b3, e3, rfl⟩ := DataW.trod_bool Tryd.underlying4 g3
    obtain ⟨n4, e4, rfl, k4⟩ := DataW.trod_int Tryd.underlying5 g4
    obtain ⟨n5, e5, rfl, k5⟩ := DataW.trod_int Tryd.underlying5 g5
    obtain ⟨s6, e6, rfl, k6⟩ := DataW.trod_string Tryd.underlying9 g6
    obtain ⟨m0, rfl, l0⟩ := Base.wf_u8 k0
    obtain ⟨m2, rfl, l2⟩ := Base.wf_u8 k2
    obtain ⟨m4, rfl, l4⟩ := Base.wf_u8 k4
    obtain ⟨m5, rfl, l5⟩ := Base.wf_u8 k5
    obtain rfl : c0 = _ := List.head_eq_of_cons_eq e0
    obtain rfl : c1 = _ := List.head_eq_of_cons_eq e1
    obtain rfl : c2 = _ := List.head_eq_of_cons_eq e2
    obtain rfl : c3 = _ := List.head_eq_of_cons_eq e3
    obtain rfl : c4 = _ := List.head_eq_of_cons_eq e4
    obtain rfl : c5 = _ := List.head_eq_of_cons_eq e5
    obtain rfl : c6 = _ := List.head_eq_of_cons_eq e6
    simp only [Prod.mk.injEq] at hx
    exact ⟨⟨m0, b1, m2, b3, m4, m5, s6⟩, rfl, hx.1, hx.2, ⟨l0, l2, l4, l5⟩, k6⟩
theorem wf_oct {m : Nat} (h : m < 256) : (Lit.int .u8 (m : Int)).wf = true := by
  show (decide ((0 : Int) ≤ (m : Int)) && decide ((m : Int) ≤ 255)) = true
  simp; omega
theorem shut_frame (f : Fr) (hf : f.In) (hl : f.info.size ≤ maxLen) : DataW.Trod enc Tryd.prog w base spare held 30 (fv f) (fd f) [] := by
  refine ⟨3, ?_⟩
  have w0 := wf_oct hf.d
  have w2 := wf_oct hf.k
  have w4 := wf_oct hf.ns
  have w5 := wf_oct hf.nr
  simp [DataW.trod, Value.cells, Tryd.underlying30, Tryd.underlying5, Tryd.underlying4, Tryd.underlying9, cellsF, cellsU, cellsB, cellsS, w0, w2, w4, w5, hl]
end
theorem gHalf : Tryd.prog.globalNamed "partyline/fcs.half" = some 1 := by kernel_rfl
theorem gHalfType : (Tryd.prog.globals[1]?).map (·.type) = some 84 := by kernel_rfl
theorem cellsHalf : Tryd.prog.cellsOf 84 = 16 := by kernel_rfl
theorem gBare : Tryd.prog.globalNamed "partyline/field.bare" = some 0 := by kernel_rfl
theorem gBareType : (Tryd.prog.globals[0]?).map (·.type) = some 68 := by kernel_rfl
theorem cellsBare : Tryd.prog.cellsOf 68 = 11 := by kernel_rfl
def bareI : List Int := [0, 47, 99, 15, 67, 239, 3, 0, 1, 5, 9]
theorem bareI_getD (i : Nat) (h : i < 11) : bareI.getD i 0 = (Field.bareN i : Int) := by
  have : ∀ j : Fin 11, bareI.getD j.val 0 = (Field.bareN j.val : Int) := by decide
  exact this ⟨i, h⟩
/-- What the rows' list gives. -/
theorem tables {W : World} (h : laidMetH Tryd.prog [("partyline/fcs.half", Rows.laid_partyline_fcs_half), ("partyline/field.bare", Rows.laid_partyline_field_bare)] W) : Tabs W := by
  have h0 : laidMet Tryd.prog [("partyline/fcs.half", Rows.laid_partyline_fcs_half), ("partyline/field.bare", Rows.laid_partyline_field_bare)] W := h
  have h1 : Lib.TabIs Tryd.prog W "partyline/fcs.half" .u8 Fcs.tab := Lib.tabIs_of_head gHalf gHalfType Tryd.underlying84 Tryd.underlying5 cellsU cellsHalf h0
  have h2 : Lib.TabIs Tryd.prog W "partyline/field.bare" .u8 bareI := Lib.tabIs_of_head gBare gBareType Tryd.underlying68 Tryd.underlying5 cellsU cellsBare h0.tail
  refine ⟨fun i hi => ?_, fun i hi => ?_⟩
  · rw [← bareI_getD i hi]
    exact h2.cell gBare i hi
  · rw [← Fcs.tab_getD i hi]
    exact h1.cell gHalf i hi
end Go.Proofs.YthlciaomfpephaaDoor.Basic
