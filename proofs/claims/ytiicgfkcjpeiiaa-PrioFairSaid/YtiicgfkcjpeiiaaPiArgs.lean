/-
  A slice of calls that came in as an argument, opened at every index. No condition of its own.
-/
import Derived.Test.YtiicgfkcjpeiiaaArgs
import Derived.Test.YtiicgfkcjpeiiaaPiMath
import Derived.Deep.LoopGhost
namespace Go.Proofs.Ytiicgfkcjpeiiaa.Pi
open Go.ChangeShapes Go.WideShapes Go.ChangeAt Go.ChangeMaps Go.RowKit Go.Proofs.Ytiicgfkcjpeiiaa.Mem Go.Proofs.Ytiicgfkcjpeiiaa.Cr
/-- A call's cells. -/
def cc (x : Ct) : List Value := [.int .u8 (x.k : Int), .int .u8 (x.d : Int), .int .u8 (x.c : Int), .bool x.o]
def CFit (x : Ct) : Prop := x.k < 256 ∧ x.d < 256 ∧ x.c < 256
section
variable {H : Type} {enc : TypeId × Value → H} {w : World}
theorem cellsC : Try.prog.cellsOf 30 = 4 := by kernel_rfl
theorem open_cc {n : Nat} {cs : List Value} {x : DataW H × List MemPlace} (hz : cs.length = 4) (hf : DataW.trod enc Try.prog w 0 (fun _ => true) true n 30 cs = some x) : ∃ f : Ct, cs = cc f ∧ CFit f := by
  obtain ⟨ys, n, _, hx, _, hlen, hg⟩ := DataW.trod_struct Try.underlying30 hf
  match cs, hz, ys, hlen with
  | [c0, c1, c2, c3], _, [y0, y1, y2, y3], _ =>
    have g0 : DataW.trod enc Try.prog w 0 (fun _ => true) true n 5 ((([c0, c1, c2, c3] : List Value).drop 0).take (Try.prog.cellsOf 5)) = some y0 := hg 0 _ rfl
    rw [cellsU] at g0
    have g1 : DataW.trod enc Try.prog w 0 (fun _ => true) true n 5 ((([c0, c1, c2, c3] : List Value).drop 1).take (Try.prog.cellsOf 5)) = some y1 := hg 1 _ rfl
    rw [cellsU] at g1
    have g2 : DataW.trod enc Try.prog w 0 (fun _ => true) true n 5 ((([c0, c1, c2, c3] : List Value).drop 2).take (Try.prog.cellsOf 5)) = some y2 := hg 2 _ rfl
    rw [cellsU] at g2
    have g3 : DataW.trod enc Try.prog w 0 (fun _ => true) true n 4 ((([c0, c1, c2, c3] : List Value).drop 3).take (Try.prog.cellsOf 4)) = some y3 := hg 3 _ rfl
    rw [cellsB] at g3
    obtain ⟨n0, e0, rfl, k0⟩ := DataW.trod_int Try.underlying5 g0
    obtain ⟨n1, e1, rfl, k1⟩ := DataW.trod_int Try.underlying5 g1
    obtain ⟨n2, e2, rfl, k2⟩ := DataW.trod_int Try.underlying5 g2
    obtain ⟨b3, e3, rfl⟩ := DataW.trod_bool Try.underlying4 g3
    obtain ⟨m0, rfl, l0⟩ := Base.wf_u8 k0
    obtain ⟨m1, rfl, l1⟩ := Base.wf_u8 k1
    obtain ⟨m2, rfl, l2⟩ := Base.wf_u8 k2
    obtain rfl : c0 = _ := List.head_eq_of_cons_eq e0
    obtain rfl : c1 = _ := List.head_eq_of_cons_eq e1
    obtain rfl : c2 = _ := List.head_eq_of_cons_eq e2
    obtain rfl : c3 = _ := List.head_eq_of_cons_eq e3
    exact ⟨⟨m0, m1, m2, b3⟩, rfl, l0, l1, l2⟩
theorem open_calls {r : Reach} {b0 : Nat} {v : Value} {d : DataW H} {p : List MemPlace} (hv : Value.okWide Try.prog w r b0 22 v) (h : DataW.Trod enc Try.prog w 0 (fun _ => true) true 22 v d p) :
    ∃ (oa : Option Addr) (n cap : Nat) (F : Nat → Ct), v = .slice oa n cap ∧ n ≤ maxLen ∧ ArgS 4 cc CFit w oa n F :=
  open_any Try.underlying22 cellsC (by decide) (fun _ => rfl) ⟨0, 0, 0, false⟩ (fun _ _ _ hz hf => open_cc hz hf) hv h
end
/-- An element that came in, at some world since. -/
theorem arg_at {w : World} {oa : Option Addr} {n : Nat} {F : Nat → Ct} (h : ArgS 4 cc CFit w oa n F) {k : Nat} (hk : k < n) : ∃ a gb go, oa = some a ∧ a.add (k * 4) = ⟨gb, go, none⟩ ∧ gb < w.heap.size ∧
    ∀ w', Below w.heap.size w w' → w'.cell? ⟨gb, go, none⟩ = some (.int .u8 ((F k).k : Int)) ∧ w'.cell? ⟨gb, go + 1, none⟩ = some (.int .u8 ((F k).d : Int)) ∧ w'.cell? ⟨gb, go + 2, none⟩ = some (.int .u8 ((F k).c : Int)) ∧ w'.cell? ⟨gb, go + 3, none⟩ = some (.bool (F k).o) := by
  obtain ⟨a, rfl, gb, go, ha, hgb, hrw⟩ := ArgS.at' (z := 4) (fc := cc) (by decide) (fun _ => rfl) h hk
  exact ⟨a, gb, go, rfl, ha, hgb, fun w' hb => ⟨(hb.cell (p := ⟨gb, go, none⟩) hgb).trans (hrw 0 (by decide)), (hb.cell (p := ⟨gb, go + 1, none⟩) hgb).trans (hrw 1 (by decide)), (hb.cell (p := ⟨gb, go + 2, none⟩) hgb).trans (hrw 2 (by decide)), (hb.cell (p := ⟨gb, go + 3, none⟩) hgb).trans (hrw 3 (by decide))⟩⟩
theorem wrap_nat (n : Nat) (h : n ≤ 9223372036854775807) : IntKind.i64.wrap (n : Int) = (n : Int) := by rw [IntKind.wrap_i64]; omega
end Go.Proofs.Ytiicgfkcjpeiiaa.Pi
