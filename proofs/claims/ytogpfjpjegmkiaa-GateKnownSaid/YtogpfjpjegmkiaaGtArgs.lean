/-
  A slice of calls that came in as an argument, opened at every index. No condition of its own.
-/
import Derived.Test.YtogpfjpjegmkiaaArgs
import Derived.Test.YtogpfjpjegmkiaaGtMath
import Derived.Deep.LoopGhost
namespace Go.Proofs.Ytogpfjpjegmkiaa.Gt
open Go.ChangeShapes Go.WideShapes Go.ChangeAt Go.ChangeMaps Go.RowKit Go.Proofs.Ytogpfjpjegmkiaa.Mem Go.Proofs.Ytogpfjpjegmkiaa.Cr
/-- A call's cells. -/
def cc (x : Ct) : List Value := [.bool x.a, .int .u8 (x.d : Int), .bool x.y]
def CFit (x : Ct) : Prop := x.d < 256
section
variable {H : Type} {enc : TypeId × Value → H} {w : World}
theorem cellsC : Try.prog.cellsOf 35 = 3 := by kernel_rfl
theorem open_cc {n : Nat} {cs : List Value} {x : DataW H × List MemPlace} (hz : cs.length = 3) (hf : DataW.trod enc Try.prog w 0 (fun _ => true) true n 35 cs = some x) : ∃ f : Ct, cs = cc f ∧ CFit f := by
  obtain ⟨ys, n, _, hx, _, hlen, hg⟩ := DataW.trod_struct Try.underlying35 hf
  match cs, hz, ys, hlen with
  | [c0, c1, c2], _, [y0, y1, y2], _ =>
    have g0 : DataW.trod enc Try.prog w 0 (fun _ => true) true n 4 ((([c0, c1, c2] : List Value).drop 0).take (Try.prog.cellsOf 4)) = some y0 := hg 0 _ rfl
    rw [cellsB] at g0
    have g1 : DataW.trod enc Try.prog w 0 (fun _ => true) true n 5 ((([c0, c1, c2] : List Value).drop 1).take (Try.prog.cellsOf 5)) = some y1 := hg 1 _ rfl
    rw [cellsU] at g1
    have g2 : DataW.trod enc Try.prog w 0 (fun _ => true) true n 4 ((([c0, c1, c2] : List Value).drop 2).take (Try.prog.cellsOf 4)) = some y2 := hg 2 _ rfl
    rw [cellsB] at g2
    obtain ⟨b0, e0, rfl⟩ := DataW.trod_bool Try.underlying4 g0
    obtain ⟨n1, e1, rfl, k1⟩ := DataW.trod_int Try.underlying5 g1
    obtain ⟨b2, e2, rfl⟩ := DataW.trod_bool Try.underlying4 g2
    obtain ⟨m1, rfl, l1⟩ := Base.wf_u8 k1
    obtain rfl : c0 = _ := List.head_eq_of_cons_eq e0
    obtain rfl : c1 = _ := List.head_eq_of_cons_eq e1
    obtain rfl : c2 = _ := List.head_eq_of_cons_eq e2
    exact ⟨⟨b0, m1, b2⟩, rfl, l1⟩
theorem open_calls {r : Reach} {b0 : Nat} {v : Value} {d : DataW H} {p : List MemPlace} (hv : Value.okWide Try.prog w r b0 22 v) (h : DataW.Trod enc Try.prog w 0 (fun _ => true) true 22 v d p) :
    ∃ (oa : Option Addr) (n cap : Nat) (F : Nat → Ct), v = .slice oa n cap ∧ n ≤ maxLen ∧ ArgS 3 cc CFit w oa n F :=
  open_any Try.underlying22 cellsC (by decide) (fun _ => rfl) ⟨false, 0, false⟩ (fun _ _ _ hz hf => open_cc hz hf) hv h
end
/-- An element that came in, at some world since. -/
theorem arg_at {w : World} {oa : Option Addr} {n : Nat} {F : Nat → Ct} (h : ArgS 3 cc CFit w oa n F) {k : Nat} (hk : k < n) : ∃ a gb go, oa = some a ∧ a.add (k * 3) = ⟨gb, go, none⟩ ∧ gb < w.heap.size ∧
    ∀ w', Below w.heap.size w w' → w'.cell? ⟨gb, go, none⟩ = some (.bool (F k).a) ∧ w'.cell? ⟨gb, go + 1, none⟩ = some (.int .u8 ((F k).d : Int)) ∧ w'.cell? ⟨gb, go + 2, none⟩ = some (.bool (F k).y) := by
  obtain ⟨a, rfl, gb, go, ha, hgb, hrw⟩ := ArgS.at' (z := 3) (fc := cc) (by decide) (fun _ => rfl) h hk
  exact ⟨a, gb, go, rfl, ha, hgb, fun w' hb => ⟨(hb.cell (p := ⟨gb, go, none⟩) hgb).trans (hrw 0 (by decide)), (hb.cell (p := ⟨gb, go + 1, none⟩) hgb).trans (hrw 1 (by decide)), (hb.cell (p := ⟨gb, go + 2, none⟩) hgb).trans (hrw 2 (by decide))⟩⟩
end Go.Proofs.Ytogpfjpjegmkiaa.Gt
