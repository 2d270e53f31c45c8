/-
  A slice of calls that came in as an argument, opened at every index. No condition of its own.
-/
import Derived.Test.YtcadeoolacoidaaArgs
import Derived.Test.YtcadeoolacoidaaWhDoes
namespace Go.Proofs.Ytcadeoolacoidaa.Wh
open Go.ChangeShapes Go.WideShapes Go.ChangeAt Go.ChangeMaps Go.RowKit Go.Proofs.Ytcadeoolacoidaa.Mem
/-- A call. -/
structure Cl where
  d : Nat
  i : Nat
  N : Int
/-- Its cells. -/
def cc (x : Cl) : List Value := [.int .u8 (x.d : Int), .int .u8 (x.i : Int), .int .i64 x.N]
def Fits (x : Cl) : Prop := x.d < 256 ∧ x.i < 256
section
variable {H : Type} {enc : TypeId × Value → H} {w : World}
theorem cellsC : Try.prog.cellsOf 30 = 3 := by kernel_rfl
theorem open_cc {n : Nat} {cs : List Value} {x : DataW H × List MemPlace} (hz : cs.length = 3) (hf : DataW.trod enc Try.prog w 0 (fun _ => true) true n 30 cs = some x) : ∃ f : Cl, cs = cc f ∧ Fits f := by
  obtain ⟨ys, n, _, hx, _, hlen, hg⟩ := DataW.trod_struct Try.underlying30 hf
  match cs, hz, ys, hlen with
  | [c0, c1, c2], _, [y0, y1, y2], _ =>
    have g0 : DataW.trod enc Try.prog w 0 (fun _ => true) true n 5 ((([c0, c1, c2] : List Value).drop 0).take (Try.prog.cellsOf 5)) = some y0 := hg 0 _ rfl
    rw [cellsU] at g0
    have g1 : DataW.trod enc Try.prog w 0 (fun _ => true) true n 5 ((([c0, c1, c2] : List Value).drop 1).take (Try.prog.cellsOf 5)) = some y1 := hg 1 _ rfl
    rw [cellsU] at g1
    have g2 : DataW.trod enc Try.prog w 0 (fun _ => true) true n 3 ((([c0, c1, c2] : List Value).drop 2).take (Try.prog.cellsOf 3)) = some y2 := hg 2 _ rfl
    rw [cellsI] at g2
    obtain ⟨n0, e0, rfl, k0⟩ := DataW.trod_int Try.underlying5 g0
    obtain ⟨n1, e1, rfl, k1⟩ := DataW.trod_int Try.underlying5 g1
    obtain ⟨n2, e2, rfl, k2⟩ := DataW.trod_int Try.underlying3 g2
    obtain ⟨m0, rfl, l0⟩ := Base.wf_u8 k0
    obtain ⟨m1, rfl, l1⟩ := Base.wf_u8 k1
    obtain rfl : c0 = _ := List.head_eq_of_cons_eq e0
    obtain rfl : c1 = _ := List.head_eq_of_cons_eq e1
    obtain rfl : c2 = _ := List.head_eq_of_cons_eq e2
    exact ⟨⟨m0, m1, n2⟩, rfl, l0, l1⟩
theorem open_calls {r : Reach} {b0 : Nat} {v : Value} {d : DataW H} {p : List MemPlace} (hv : Value.okWide Try.prog w r b0 22 v) (h : DataW.Trod enc Try.prog w 0 (fun _ => true) true 22 v d p) :
    ∃ (oa : Option Addr) (n cap : Nat) (F : Nat → Cl), v = .slice oa n cap ∧ n ≤ maxLen ∧ ArgS 3 cc Fits w oa n F :=
  open_any Try.underlying22 cellsC (by decide) (fun _ => rfl) ⟨0, 0, 0⟩ (fun _ _ _ hz hf => open_cc hz hf) hv h
end
end Go.Proofs.Ytcadeoolacoidaa.Wh
