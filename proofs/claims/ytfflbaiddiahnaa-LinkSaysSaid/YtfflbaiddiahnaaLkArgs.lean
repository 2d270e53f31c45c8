/-
  A slice of events that came in as an argument, opened at every index. No condition of its own.
-/
import Derived.Test.YtfflbaiddiahnaaArgs
import Derived.Test.YtfflbaiddiahnaaLkDoes
namespace Go.Proofs.Ytfflbaiddiahnaa.Lk
open Go.ChangeShapes Go.WideShapes Go.ChangeAt Go.ChangeMaps Go.RowKit Go.Proofs.Ytfflbaiddiahnaa.Mem
/-- An event's cells. -/
def ec (x : Et) : List Value := [.int .i64 x.kind, .int .u8 x.fr, .bool x.pf, .bool x.c]
section
variable {H : Type} {enc : TypeId × Value → H} {w : World}
theorem cellsE : Try.prog.cellsOf 33 = 4 := by kernel_rfl
theorem open_ec {n : Nat} {cs : List Value} {x : DataW H × List MemPlace} (hz : cs.length = 4) (hf : DataW.trod enc Try.prog w 0 (fun _ => true) true n 33 cs = some x) : ∃ f : Et, cs = ec f ∧ Fits f := by
  obtain ⟨ys, n, _, hx, _, hlen, hg⟩ := DataW.trod_struct Try.underlying33 hf
  match cs, hz, ys, hlen with
  | [c0, c1, c2, c3], _, [y0, y1, y2, y3], _ =>
    have g0 : DataW.trod enc Try.prog w 0 (fun _ => true) true n 3 ((([c0, c1, c2, c3] : List Value).drop 0).take (Try.prog.cellsOf 3)) = some y0 := hg 0 _ rfl
    rw [cellsI] at g0
    have g1 : DataW.trod enc Try.prog w 0 (fun _ => true) true n 5 ((([c0, c1, c2, c3] : List Value).drop 1).take (Try.prog.cellsOf 5)) = some y1 := hg 1 _ rfl
    rw [cellsU] at g1
    have g2 : DataW.trod enc Try.prog w 0 (fun _ => true) true n 4 ((([c0, c1, c2, c3] : List Value).drop 2).take (Try.prog.cellsOf 4)) = some y2 := hg 2 _ rfl
    rw [cellsB] at g2
    have g3 : DataW.trod enc Try.prog w 0 (fun _ => true) true n 4 ((([c0, c1, c2, c3] : List Value).drop 3).take (Try.prog.cellsOf 4)) = some y3 := hg 3 _ rfl
    rw [cellsB] at g3
    obtain ⟨n0, e0, rfl, k0⟩ := DataW.trod_int Try.underlying3 g0
    obtain ⟨n1, e1, rfl, k1⟩ := DataW.trod_int Try.underlying5 g1
    obtain ⟨n2, e2, rfl⟩ := DataW.trod_bool Try.underlying4 g2
    obtain ⟨n3, e3, rfl⟩ := DataW.trod_bool Try.underlying4 g3
    obtain ⟨m1, rfl, l1⟩ := Base.wf_u8 k1
    obtain rfl : c0 = _ := List.head_eq_of_cons_eq e0
    obtain rfl : c1 = _ := List.head_eq_of_cons_eq e1
    obtain rfl : c2 = _ := List.head_eq_of_cons_eq e2
    obtain rfl : c3 = _ := List.head_eq_of_cons_eq e3
    exact ⟨⟨n0, m1, n2, n3⟩, rfl, by dsimp only; omega, by dsimp only; omega⟩
theorem open_events {r : Reach} {b0 : Nat} {v : Value} {d : DataW H} {p : List MemPlace} (hv : Value.okWide Try.prog w r b0 22 v) (h : DataW.Trod enc Try.prog w 0 (fun _ => true) true 22 v d p) :
    ∃ (oa : Option Addr) (n cap : Nat) (F : Nat → Et), v = .slice oa n cap ∧ n ≤ maxLen ∧ ArgS 4 ec Fits w oa n F :=
  open_any Try.underlying22 cellsE (by decide) (fun _ => rfl) ⟨0, 0, false, false⟩ (fun _ _ _ hz hf => open_ec hz hf) hv h
end
/-- An element that came in, at some world since. -/
theorem arg_at {w : World} {oa : Option Addr} {n : Nat} {F : Nat → Et} (h : ArgS 4 ec Fits w oa n F) {k : Nat} (hk : k < n) : ∃ a gb go, oa = some a ∧ a.add (k * 4) = ⟨gb, go, none⟩ ∧ gb < w.heap.size ∧
    ∀ w', Below w.heap.size w w' → w'.cell? ⟨gb, go, none⟩ = some (.int .i64 (F k).kind) ∧ w'.cell? ⟨gb, go + 1, none⟩ = some (.int .u8 (F k).fr) ∧ w'.cell? ⟨gb, go + 2, none⟩ = some (.bool (F k).pf) ∧ w'.cell? ⟨gb, go + 3, none⟩ = some (.bool (F k).c) := by
  obtain ⟨a, rfl, gb, go, ha, hgb, hrw⟩ := ArgS.at' (z := 4) (fc := ec) (by decide) (fun _ => rfl) h hk
  exact ⟨a, gb, go, rfl, ha, hgb, fun w' hb => ⟨(hb.cell (p := ⟨gb, go, none⟩) hgb).trans (hrw 0 (by decide)), (hb.cell (p := ⟨gb, go + 1, none⟩) hgb).trans (hrw 1 (by decide)), (hb.cell (p := ⟨gb, go + 2, none⟩) hgb).trans (hrw 2 (by decide)), (hb.cell (p := ⟨gb, go + 3, none⟩) hgb).trans (hrw 3 (by decide))⟩⟩
end Go.Proofs.Ytfflbaiddiahnaa.Lk
