/-
  A slice of messages that came in as an argument, opened at every index. No condition of its own.
-/
import Derived.Test.YtlmfnjdbknfkjaaArgs
import Derived.Test.YtlmfnjdbknfkjaaTlvRowsLaw
namespace Go.Proofs.Ytlmfnjdbknfkjaa.tlvRows
open Go.ChangeShapes Go.WideShapes Go.ChangeAt Go.ChangeMaps Go.RowKit Go.Proofs.Ytlmfnjdbknfkjaa.Tlv Go.Proofs.Ytlmfnjdbknfkjaa.Mem
section
variable {H : Type} {enc : TypeId × Value → H} {w : World}
theorem cellsT : Try.prog.cellsOf 32 = 3 := by kernel_rfl
theorem open_ic {n : Nat} {cs : List Value} {x : DataW H × List MemPlace} (hz : cs.length = 3) (hf : DataW.trod enc Try.prog w 0 (fun _ => true) true n 32 cs = some x) : ∃ f : It, cs = ic f ∧ Fits f := by
  obtain ⟨ys, n, _, hx, _, hlen, hg⟩ := DataW.trod_struct Try.underlying32 hf
  match cs, hz, ys, hlen with
  | [c0, c1, c2], _, [y0, y1, y2], _ =>
    have g0 : DataW.trod enc Try.prog w 0 (fun _ => true) true n 5 ((([c0, c1, c2] : List Value).drop 0).take (Try.prog.cellsOf 5)) = some y0 := hg 0 _ rfl
    rw [cellsU] at g0
    have g1 : DataW.trod enc Try.prog w 0 (fun _ => true) true n 4 ((([c0, c1, c2] : List Value).drop 1).take (Try.prog.cellsOf 4)) = some y1 := hg 1 _ rfl
    rw [cellsB] at g1
    have g2 : DataW.trod enc Try.prog w 0 (fun _ => true) true n 9 ((([c0, c1, c2] : List Value).drop 2).take (Try.prog.cellsOf 9)) = some y2 := hg 2 _ rfl
    rw [cellsS] at g2
    obtain ⟨n0, e0, rfl, k0⟩ := DataW.trod_int Try.underlying5 g0
    obtain ⟨b1, e1, rfl⟩ := DataW.trod_bool Try.underlying4 g1
    obtain ⟨s2, e2, rfl, k2⟩ := DataW.trod_string Try.underlying9 g2
    obtain ⟨m0, rfl, l0⟩ := Base.wf_u8 k0
    obtain rfl : c0 = _ := List.head_eq_of_cons_eq e0
    obtain rfl : c1 = _ := List.head_eq_of_cons_eq e1
    obtain rfl : c2 = _ := List.head_eq_of_cons_eq e2
    exact ⟨⟨m0, b1, s2⟩, rfl, l0, k2⟩
theorem open_items {r : Reach} {b0 : Nat} {v : Value} {d : DataW H} {p : List MemPlace} (hv : Value.okWide Try.prog w r b0 30 v) (h : DataW.Trod enc Try.prog w 0 (fun _ => true) true 30 v d p) :
    ∃ (oa : Option Addr) (n cap : Nat) (F : Nat → It), v = .slice oa n cap ∧ n ≤ maxLen ∧ ArgS 3 ic Fits w oa n F :=
  open_any Try.underlying30 cellsT (by decide) (fun _ => rfl) ⟨0, false, ⟨#[]⟩⟩ (fun _ _ _ hz hf => open_ic hz hf) hv h
end
theorem lawR (oa : Option Addr) (n cap : Nat) (F : Nat → It) (_ : n ≤ maxLen) (w : World) (hA : ArgS 3 ic Fits w oa n F) :
    Calls Try.prog 5 #[.slice oa n cap] w fun e w' => e = .returned (.bool true) ∧ Below w.heap.size w w' := law oa n cap F w hA
end Go.Proofs.Ytlmfnjdbknfkjaa.tlvRows
