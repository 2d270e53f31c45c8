/-
  A slice of calls that came in as an argument, opened at every index. No condition of its own.
-/
import Derived.Test.YtkoaplmlabagnaaArgs
import Derived.Test.YtkoaplmlabagnaaAqBo
namespace Go.Proofs.Ytkoaplmlabagnaa.Aq
open Go.ChangeShapes Go.WideShapes Go.ChangeAt Go.ChangeMaps Go.RowKit Go.Proofs.Ytkoaplmlabagnaa.Base Go.Proofs.Ytkoaplmlabagnaa.Mem
/-- A call's cells. -/
def cc (x : Ct) : List Value := [.int .u8 (x.o : Int), .int .u8 (x.d : Int), .bool x.f.c, .int .u8 (x.f.k : Int), .bool x.f.pf, .int .u8 (x.f.ns : Int), .int .u8 (x.f.nr : Int), .string x.f.i]
def CFit (x : Ct) : Prop := x.o < 256 ∧ x.f.ns < 256 ∧ x.f.nr < 256 ∧ x.f.i.size ≤ maxLen
section
variable {H : Type} {enc : TypeId × Value → H} {w : World}
theorem cellsC : Try.prog.cellsOf 27 = 8 := by kernel_rfl
theorem cellsFr : Try.prog.cellsOf 25 = 7 := by kernel_rfl
theorem cellsStr : Try.prog.cellsOf 9 = 1 := by kernel_rfl
theorem open_frame {n : Nat} {cs : List Value} {x : DataW H × List MemPlace} (hz : cs.length = 7) (hf : DataW.trod enc Try.prog w 0 (fun _ => true) true n 25 cs = some x) : ∃ (d : Nat) (f : Fm), cs = [.int .u8 (d : Int), .bool f.c, .int .u8 (f.k : Int), .bool f.pf, .int .u8 (f.ns : Int), .int .u8 (f.nr : Int), .string f.i] ∧ f.ns < 256 ∧ f.nr < 256 ∧ f.i.size ≤ maxLen := by
  obtain ⟨ys, n, _, hx, _, hlen, hg⟩ := DataW.trod_struct Try.underlying25 hf
  match cs, hz, ys, hlen with
  | [c0, c1, c2, c3, c4, c5, c6], _, [y0, y1, y2, y3, y4, y5, y6], _ =>
    have g0 : DataW.trod enc Try.prog w 0 (fun _ => true) true n 5 ((([c0, c1, c2, c3, c4, c5, c6] : List Value).drop 0).take (Try.prog.cellsOf 5)) = some y0 := hg 0 _ rfl
    rw [cellsU] at g0
    have g1 : DataW.trod enc Try.prog w 0 (fun _ => true) true n 4 ((([c0, c1, c2, c3, c4, c5, c6] : List Value).drop 1).take (Try.prog.cellsOf 4)) = some y1 := hg 1 _ rfl
    rw [cellsB] at g1
    have g2 : DataW.trod enc Try.prog w 0 (fun _ => true) true n 5 ((([c0, c1, c2, c3, c4, c5, c6] : List Value).drop 2).take (Try.prog.cellsOf 5)) = some y2 := hg 2 _ rfl
    rw [cellsU] at g2
    have g3 : DataW.trod enc Try.prog w 0 (fun _ => true) true n 4 ((([c0, c1, c2, c3, c4, c5, c6] : List Value).drop 3).take (Try.prog.cellsOf 4)) = some y3 := hg 3 _ rfl
    rw [cellsB] at g3
    have g4 : DataW.trod enc Try.prog w 0 (fun _ => true) true n 5 ((([c0, c1, c2, c3, c4, c5, c6] : List Value).drop 4).take (Try.prog.cellsOf 5)) = some y4 := hg 4 _ rfl
    rw [cellsU] at g4
    have g5 : DataW.trod enc Try.prog w 0 (fun _ => true) true n 5 ((([c0, c1, c2, c3, c4, c5, c6] : List Value).drop 5).take (Try.prog.cellsOf 5)) = some y5 := hg 5 _ rfl
    rw [cellsU] at g5
    have g6 : DataW.trod enc Try.prog w 0 (fun _ => true) true n 9 ((([c0, c1, c2, c3, c4, c5, c6] : List Value).drop 6).take (Try.prog.cellsOf 9)) = some y6 := hg 6 _ rfl
    rw [cellsStr] at g6
    obtain ⟨n0, e0, rfl, k0⟩ := DataW.trod_int Try.underlying5 g0
    obtain ⟨b1, e1, rfl⟩ := DataW.trod_bool Try.underlying4 g1
    obtain ⟨n2, e2, rfl, k2⟩ := DataW.trod_int Try.underlying5 g2
    obtain ⟨b3, e3, rfl⟩ := DataW.trod_bool Try.underlying4 g3
    obtain ⟨n4, e4, rfl, k4⟩ := DataW.trod_int Try.underlying5 g4
    obtain ⟨n5, e5, rfl, k5⟩ := DataW.trod_int Try.underlying5 g5
    obtain ⟨s6, e6, rfl, k6⟩ := DataW.trod_string Try.underlying9 g6
    obtain ⟨m0, rfl, l0⟩ := Base.wf_u8 k0
    obtain ⟨m2, rfl, l2⟩ := Base.wf_u8 k2
    obtain ⟨m4, rfl, l4⟩ := Base.wf_u8 k4
    obtain ⟨m5, rfl, l5⟩ := Base.wf_u8 k5
    obtain rfl : c0 = _ := List.head_eq_of_cons_eq e0
    obtain rfl : c1 = _ := List.head_eq_of_cons_eq e1
    obtain rfl : c2 = _ := List.head_eq_of_cons_eq e2
    obtain rfl : c3 = _ := List.head_eq_of_cons_eq e3
    obtain rfl : c4 = _ := List.head_eq_of_cons_eq e4
    obtain rfl : c5 = _ := List.head_eq_of_cons_eq e5
    obtain rfl : c6 = _ := List.head_eq_of_cons_eq e6
    exact ⟨m0, ⟨b1, m2, b3, m4, m5, s6⟩, rfl, l4, l5, k6⟩
theorem open_cc {n : Nat} {cs : List Value} {x : DataW H × List MemPlace} (hz : cs.length = 8) (hf : DataW.trod enc Try.prog w 0 (fun _ => true) true n 27 cs = some x) : ∃ f : Ct, cs = cc f ∧ CFit f := by
  obtain ⟨ys, n, _, hx, _, hlen, hg⟩ := DataW.trod_struct Try.underlying27 hf
  match cs, hz, ys, hlen with
  | [c0, c1, c2, c3, c4, c5, c6, c7], _, [y0, y1], _ =>
    have g0 : DataW.trod enc Try.prog w 0 (fun _ => true) true n 5 ((([c0, c1, c2, c3, c4, c5, c6, c7] : List Value).drop 0).take (Try.prog.cellsOf 5)) = some y0 := hg 0 _ rfl
    rw [cellsU] at g0
    have g1 : DataW.trod enc Try.prog w 0 (fun _ => true) true n 25 ((([c0, c1, c2, c3, c4, c5, c6, c7] : List Value).drop 1).take (Try.prog.cellsOf 25)) = some y1 := hg 1 _ rfl
    rw [cellsFr] at g1
    obtain ⟨n0, e0, rfl, k0⟩ := DataW.trod_int Try.underlying5 g0
    obtain ⟨m0, rfl, l0⟩ := Base.wf_u8 k0
    obtain rfl : c0 = _ := List.head_eq_of_cons_eq e0
    obtain ⟨d, f, ef, h4, h5, h6⟩ := open_frame rfl g1
    have ef2 : [c1, c2, c3, c4, c5, c6, c7] = _ := ef
    simp only [List.cons.injEq, and_true] at ef2
    obtain ⟨rfl, rfl, rfl, rfl, rfl, rfl, rfl⟩ := ef2
    exact ⟨⟨m0, d, f⟩, rfl, l0, h4, h5, h6⟩
theorem open_calls {r : Reach} {b0 : Nat} {v : Value} {d : DataW H} {p : List MemPlace} (hv : Value.okWide Try.prog w r b0 22 v) (h : DataW.Trod enc Try.prog w 0 (fun _ => true) true 22 v d p) :
    ∃ (oa : Option Addr) (n cap : Nat) (F : Nat → Ct), v = .slice oa n cap ∧ n ≤ maxLen ∧ ArgS 8 cc CFit w oa n F :=
  open_any Try.underlying22 cellsC (by decide) (fun _ => rfl) ⟨0, 0, noFm⟩ (fun _ _ _ hz hf => open_cc hz hf) hv h
end
/-- An element that came in, at some world since. -/
theorem arg_at {w : World} {oa : Option Addr} {n : Nat} {F : Nat → Ct} (h : ArgS 8 cc CFit w oa n F) {k : Nat} (hk : k < n) : ∃ a gb go, oa = some a ∧ a.add (k * 8) = ⟨gb, go, none⟩ ∧ gb < w.heap.size ∧
    ∀ w', Below w.heap.size w w' → w'.cell? ⟨gb, go, none⟩ = some (.int .u8 ((F k).o : Int)) ∧ w'.cell? ⟨gb, go + 1, none⟩ = some (.int .u8 ((F k).d : Int)) ∧ w'.cell? ⟨gb, go + 2, none⟩ = some (.bool (F k).f.c) ∧ w'.cell? ⟨gb, go + 3, none⟩ = some (.int .u8 ((F k).f.k : Int)) ∧ w'.cell? ⟨gb, go + 4, none⟩ = some (.bool (F k).f.pf) ∧ w'.cell? ⟨gb, go + 5, none⟩ = some (.int .u8 ((F k).f.ns : Int)) ∧ w'.cell? ⟨gb, go + 6, none⟩ = some (.int .u8 ((F k).f.nr : Int)) ∧ w'.cell? ⟨gb, go + 7, none⟩ = some (.string (F k).f.i) := by
  obtain ⟨a, rfl, gb, go, ha, hgb, hrw⟩ := ArgS.at' (z := 8) (fc := cc) (by decide) (fun _ => rfl) h hk
  exact ⟨a, gb, go, rfl, ha, hgb, fun w' hb => ⟨(hb.cell (p := ⟨gb, go, none⟩) hgb).trans (hrw 0 (by decide)), (hb.cell (p := ⟨gb, go + 1, none⟩) hgb).trans (hrw 1 (by decide)), (hb.cell (p := ⟨gb, go + 2, none⟩) hgb).trans (hrw 2 (by decide)), (hb.cell (p := ⟨gb, go + 3, none⟩) hgb).trans (hrw 3 (by decide)), (hb.cell (p := ⟨gb, go + 4, none⟩) hgb).trans (hrw 4 (by decide)), (hb.cell (p := ⟨gb, go + 5, none⟩) hgb).trans (hrw 5 (by decide)), (hb.cell (p := ⟨gb, go + 6, none⟩) hgb).trans (hrw 6 (by decide)), (hb.cell (p := ⟨gb, go + 7, none⟩) hgb).trans (hrw 7 (by decide))⟩⟩
end Go.Proofs.Ytkoaplmlabagnaa.Aq
