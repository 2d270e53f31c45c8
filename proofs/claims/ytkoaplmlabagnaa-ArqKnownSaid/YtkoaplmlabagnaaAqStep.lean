/-
  A slice of a pair's steps that came in as an argument, opened at every index; no step turns a window. No condition of its own.
-/
import Derived.Test.YtkoaplmlabagnaaArgs
import Derived.Test.YtkoaplmlabagnaaAqPr7
namespace Go.Proofs.Ytkoaplmlabagnaa.Aq
open Go.ChangeShapes Go.WideShapes Go.ChangeAt Go.ChangeMaps Go.RowKit Go.Proofs.Ytkoaplmlabagnaa.Base Go.Proofs.Ytkoaplmlabagnaa.Mem
/-- A step's cells. -/
def sc (x : Sp) : List Value := [.int .u8 (x.d : Int), .bool x.side, .bool x.on]
def SpFit (x : Sp) : Prop := x.d < 256
section
variable {H : Type} {enc : TypeId × Value → H} {w : World}
theorem cellsSp : Try.prog.cellsOf 49 = 3 := by kernel_rfl
theorem open_sc {n : Nat} {cs : List Value} {x : DataW H × List MemPlace} (hz : cs.length = 3) (hf : DataW.trod enc Try.prog w 0 (fun _ => true) true n 49 cs = some x) : ∃ f : Sp, cs = sc f ∧ SpFit f := by
  obtain ⟨ys, n, _, hx, _, hlen, hg⟩ := DataW.trod_struct Try.underlying49 hf
  match cs, hz, ys, hlen with
  | [c0, c1, c2], _, [y0, y1, y2], _ =>
    have g0 : DataW.trod enc Try.prog w 0 (fun _ => true) true n 5 ((([c0, c1, c2] : List Value).drop 0).take (Try.prog.cellsOf 5)) = some y0 := hg 0 _ rfl
    rw [cellsU] at g0
    have g1 : DataW.trod enc Try.prog w 0 (fun _ => true) true n 4 ((([c0, c1, c2] : List Value).drop 1).take (Try.prog.cellsOf 4)) = some y1 := hg 1 _ rfl
    rw [cellsB] at g1
    have g2 : DataW.trod enc Try.prog w 0 (fun _ => true) true n 4 ((([c0, c1, c2] : List Value).drop 2).take (Try.prog.cellsOf 4)) = some y2 := hg 2 _ rfl
    rw [cellsB] at g2
    obtain ⟨n0, e0, rfl, k0⟩ := DataW.trod_int Try.underlying5 g0
    obtain ⟨b1, e1, rfl⟩ := DataW.trod_bool Try.underlying4 g1
    obtain ⟨b2, e2, rfl⟩ := DataW.trod_bool Try.underlying4 g2
    obtain ⟨m0, rfl, l0⟩ := Base.wf_u8 k0
    obtain rfl : c0 = _ := List.head_eq_of_cons_eq e0
    obtain rfl : c1 = _ := List.head_eq_of_cons_eq e1
    obtain rfl : c2 = _ := List.head_eq_of_cons_eq e2
    exact ⟨⟨m0, b1, b2⟩, rfl, l0⟩
theorem open_steps {r : Reach} {b0 : Nat} {v : Value} {d : DataW H} {p : List MemPlace} (hv : Value.okWide Try.prog w r b0 38 v) (h : DataW.Trod enc Try.prog w 0 (fun _ => true) true 38 v d p) :
    ∃ (oa : Option Addr) (n cap : Nat) (F : Nat → Sp), v = .slice oa n cap ∧ n ≤ maxLen ∧ ArgS 3 sc SpFit w oa n F :=
  open_any Try.underlying38 cellsSp (by decide) (fun _ => rfl) ⟨0, false, false⟩ (fun _ _ _ hz hf => open_sc hz hf) hv h
end
/-- An element that came in, at some world since. -/
theorem step_at {w : World} {oa : Option Addr} {n : Nat} {F : Nat → Sp} (h : ArgS 3 sc SpFit w oa n F) {k : Nat} (hk : k < n) : ∃ a gb go, oa = some a ∧ a.add (k * 3) = ⟨gb, go, none⟩ ∧ gb < w.heap.size ∧
    ∀ w', Below w.heap.size w w' → w'.cell? ⟨gb, go, none⟩ = some (.int .u8 ((F k).d : Int)) ∧ w'.cell? ⟨gb, go + 1, none⟩ = some (.bool (F k).side) ∧ w'.cell? ⟨gb, go + 2, none⟩ = some (.bool (F k).on) := by
  obtain ⟨a, rfl, gb, go, ha, hgb, hrw⟩ := ArgS.at' (z := 3) (fc := sc) (by decide) (fun _ => rfl) h hk
  exact ⟨a, gb, go, rfl, ha, hgb, fun w' hb => ⟨(hb.cell (p := ⟨gb, go, none⟩) hgb).trans (hrw 0 (by decide)), (hb.cell (p := ⟨gb, go + 1, none⟩) hgb).trans (hrw 1 (by decide)), (hb.cell (p := ⟨gb, go + 2, none⟩) hgb).trans (hrw 2 (by decide))⟩⟩
theorem push_k (i : ByteArray) (x : Sd) : (push i x).1.k = x.k := by
  unfold push
  split
  · rfl
  split
  · rfl
  · exact (cnt_same _ _).k
theorem next_k (x : Sd) : (next x).1.k = x.k := by
  rcases next_cases x with ⟨_, h2⟩ | ⟨_, _, _, h4⟩ | ⟨_, _, _, h4⟩
  · rw [h2]
  · exact h4.k
  · exact h4.k
theorem hear_k (f : Fm) (x : Sd) : (hear f x).1.k = x.k := by
  unfold hear
  split
  · rfl
  · split
    · rfl
    · dsimp only
      rw [(cnt_same _ _).k, (hear5_same f _).k]
      have : ∀ n, (hear4 f (hear3 f (hear2 f (hear1 n x)))).k = x.k := fun n => by
        unfold hear4 hear3 hear2 hear1
        repeat' split
        all_goals rfl
      split
      · rw [(take_rest f _ _).1]; exact this _
      · exact this _
/-- Both windows are k. -/
def Win (k : Nat) (x : Pr) : Prop := x.A.k = k ∧ x.B.k = k
theorem Win.op {k : Nat} {x : Pr} (h : Win k x) (d : Nat) (on : Bool) : Win k (pOp d on x) := by
  unfold pOp
  split
  · exact ⟨(push_k _ _).trans h.1, h.2⟩
  split
  · exact ⟨(next_k _).trans h.1, h.2⟩
  split
  · rcases hL : x.L0 with _ | ⟨f, r⟩
    · rw [pHand_nil hL]; exact h
    · rw [pHand_cons hL]; exact ⟨h.1, (hear_k _ _).trans h.2⟩
  split
  · exact h
  split
  · exact ⟨(tick_same _).k.trans h.1, (tick_same _).k.trans h.2⟩
  · exact ⟨(setBusy_same _ _).k.trans h.1, h.2⟩
theorem Win.step {k : Nat} {x : Pr} (h : Win k x) (s : Sp) : Win k (pStep s x) := by
  unfold pStep
  split
  · have := Win.op (x := swp x) ⟨h.2, h.1⟩ s.d s.on
    exact ⟨this.2, this.1⟩
  · exact h.op s.d s.on
/-- No more than the window wait. -/
theorem Pok.waits {N M k : Nat} {x : Pr} (h : Pok N M x) (hw : Win k x) : x.A.p.length - x.A.a ≤ k ∧ x.B.p.length - x.B.a ≤ k := by
  have h1 := h.g.right.2.1
  have h2 := h.g.swp.right.2.1
  rw [hw.1] at h1
  have e : (Aq.swp x).A.k = k := hw.2
  rw [e] at h2
  exact ⟨h1, h2⟩
end Go.Proofs.Ytkoaplmlabagnaa.Aq
