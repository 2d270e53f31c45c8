/-
  A slice of calls that came in as an argument, opened at every index. No condition of its own.
-/
import Derived.Test.YtaeinccehkofgaaArgs
import Derived.Test.YtaeinccehkofgaaCrMath
namespace Go.Proofs.Ytaeinccehkofgaa.Cr
open Go.ChangeShapes Go.WideShapes Go.ChangeAt Go.ChangeMaps Go.RowKit Go.Proofs.Ytaeinccehkofgaa.Mem
/-- A call: its kind, its number. -/
structure Ct where
  k : Int
  n : Int
/-- A call's cells. -/
def cc (x : Ct) : List Value := [im x.k, im x.n]
def CFit (_ : Ct) : Prop := True
section
variable {H : Type} {enc : TypeId × Value → H} {w : World}
theorem cellsC : Try.prog.cellsOf 33 = 2 := by kernel_rfl
theorem open_cc {n : Nat} {cs : List Value} {x : DataW H × List MemPlace} (hz : cs.length = 2) (hf : DataW.trod enc Try.prog w 0 (fun _ => true) true n 33 cs = some x) : ∃ f : Ct, cs = cc f ∧ CFit f := by
  obtain ⟨ys, n, _, hx, _, hlen, hg⟩ := DataW.trod_struct Try.underlying33 hf
  match cs, hz, ys, hlen with
  | [c0, c1], _, [y0, y1], _ =>
    have g0 : DataW.trod enc Try.prog w 0 (fun _ => true) true n 3 ((([c0, c1] : List Value).drop 0).take (Try.prog.cellsOf 3)) = some y0 := hg 0 _ rfl
    rw [cellsI] at g0
    have g1 : DataW.trod enc Try.prog w 0 (fun _ => true) true n 3 ((([c0, c1] : List Value).drop 1).take (Try.prog.cellsOf 3)) = some y1 := hg 1 _ rfl
    rw [cellsI] at g1
    obtain ⟨n0, e0, rfl, k0⟩ := DataW.trod_int Try.underlying3 g0
    obtain ⟨n1, e1, rfl, k1⟩ := DataW.trod_int Try.underlying3 g1
    obtain rfl : c0 = _ := List.head_eq_of_cons_eq e0
    obtain rfl : c1 = _ := List.head_eq_of_cons_eq e1
    exact ⟨⟨n0, n1⟩, rfl, trivial⟩
theorem open_calls {r : Reach} {b0 : Nat} {v : Value} {d : DataW H} {p : List MemPlace} (hv : Value.okWide Try.prog w r b0 22 v) (h : DataW.Trod enc Try.prog w 0 (fun _ => true) true 22 v d p) :
    ∃ (oa : Option Addr) (n cap : Nat) (F : Nat → Ct), v = .slice oa n cap ∧ n ≤ maxLen ∧ ArgS 2 cc CFit w oa n F :=
  open_any Try.underlying22 cellsC (by decide) (fun _ => rfl) ⟨0, 0⟩ (fun _ _ _ hz hf => open_cc hz hf) hv h
end
/-- An element that came in, at some world since. -/
theorem arg_at {w : World} {oa : Option Addr} {n : Nat} {F : Nat → Ct} (h : ArgS 2 cc CFit w oa n F) {k : Nat} (hk : k < n) : ∃ a gb go, oa = some a ∧ a.add (k * 2) = ⟨gb, go, none⟩ ∧ gb < w.heap.size ∧
    ∀ w', Below w.heap.size w w' → w'.cell? ⟨gb, go, none⟩ = some (im (F k).k) ∧ w'.cell? ⟨gb, go + 1, none⟩ = some (im (F k).n) := by
  obtain ⟨a, rfl, gb, go, ha, hgb, hrw⟩ := ArgS.at' (z := 2) (fc := cc) (by decide) (fun _ => rfl) h hk
  exact ⟨a, gb, go, rfl, ha, hgb, fun w' hb => ⟨(hb.cell (p := ⟨gb, go, none⟩) hgb).trans (hrw 0 (by decide)), (hb.cell (p := ⟨gb, go + 1, none⟩) hgb).trans (hrw 1 (by decide))⟩⟩
end Go.Proofs.Ytaeinccehkofgaa.Cr
