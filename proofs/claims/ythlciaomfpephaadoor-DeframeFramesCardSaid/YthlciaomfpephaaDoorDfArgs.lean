/-
  A slice of frames and a slice of bools that came in as arguments, opened at every index. No condition of its own.
-/
import Derived.Test.YthlciaomfpephaaDoorDfOpen
import Derived.Test.YthlciaomfpephaaDoorOwnF
import Derived.Deep.Grids
import Derived.Carry
namespace Go.Proofs.YthlciaomfpephaaDoor.Df
open Go.ChangeShapes Go.WideShapes Go.ChangeAt Go.ChangeMaps Go.RowKit Go.Proofs.YthlciaomfpephaaDoor.Basic Go.Deep
/-- Frames lie at an address, one behind the other. -/
structure ArgF (w : World) (oa : Option Addr) (n : Nat) (F : Nat → Fr) : Prop where
  has : 0 < n → ∃ a, oa = some a ∧ a.block < w.heap.size
  inb : ∀ k, k < n → (F k).In ∧ (F k).info.size ≤ maxLen
  cell : ∀ a, oa = Option.some a → ∀ k, k < n → ∀ j, j < 7 → w.cell? ((a.add (k * 7)).add j) = (fc (F k))[j]?
/-- Bools lie at an address. -/
structure ArgB (w : World) (oa : Option Addr) (n : Nat) (B : Nat → Bool) : Prop where
  has : 0 < n → ∃ a, oa = Option.some a ∧ a.block < w.heap.size
  cell : ∀ a, oa = Option.some a → ∀ k, k < n → w.cell? (a.add k) = Option.some (.bool (B k))
instance : Inhabited Fr := ⟨fr0⟩
section
variable {H : Type} {enc : TypeId × Value → H} {w : World} {base : Nat} {spare : Nat → Bool} {held : Bool}
theorem open_fc {n : Nat} {cs : List Value} {x : DataW H × List MemPlace} (hz : cs.length = 7) (hf : DataW.trod enc Tryd.prog w base spare held n 30 cs = some x) :
    ∃ f : Fr, cs = fc f ∧ f.In ∧ f.info.size ≤ maxLen := by
  obtain ⟨ys, n, _, hx, _, hlen, hg⟩ := DataW.trod_struct Tryd.underlying30 hf
  match cs, hz, ys, hlen with
  | [c0, c1, c2, c3, c4, c5, c6], _, [y0, y1, y2, y3, y4, y5, y6], _ =>
    have g0 : DataW.trod enc Tryd.prog w base spare held n 5 ((([c0, c1, c2, c3, c4, c5, c6] : List Value).drop 0).take (Tryd.prog.cellsOf 5)) = some y0 := hg 0 _ rfl
    rw [cellsU] at g0
    have g1 : DataW.trod enc Tryd.prog w base spare held n 4 ((([c0, c1, c2, c3, c4, c5, c6] : List Value).drop 1).take (Tryd.prog.cellsOf 4)) = some y1 := hg 1 _ rfl
    rw [cellsB] at g1
    have g2 : DataW.trod enc Tryd.prog w base spare held n 5 ((([c0, c1, c2, c3, c4, c5, c6] : List Value).drop 2).take (Tryd.prog.cellsOf 5)) = some y2 := hg 2 _ rfl
    rw [cellsU] at g2
    have g3 : DataW.trod enc Tryd.prog w base spare held n 4 ((([c0, c1, c2, c3, c4, c5, c6] : List Value).drop 3).take (Tryd.prog.cellsOf 4)) = some y3 := hg 3 _ rfl
    rw [cellsB] at g3
    have g4 : DataW.trod enc Tryd.prog w base spare held n 5 ((([c0, c1, c2, c3, c4, c5, c6] : List Value).drop 4).take (Tryd.prog.cellsOf 5)) = some y4 := hg 4 _ rfl
    rw [cellsU] at g4
    have g5 : DataW.trod enc Tryd.prog w base spare held n 5 ((([c0, c1, c2, c3, c4, c5, c6] : List Value).drop 5).take (Tryd.prog.cellsOf 5)) = some y5 := hg 5 _ rfl
    rw [cellsU] at g5
    have g6 : DataW.trod enc Tryd.prog w base spare held n 9 ((([c0, c1, c2, c3, c4, c5, c6] : List Value).drop 6).take (Tryd.prog.cellsOf 9)) = some y6 := hg 6 _ rfl
    rw [cellsS] at g6
    obtain ⟨n0, e0, rfl, k0⟩ := DataW.trod_int Tryd.underlying5 g0
    obtain ⟨b1, e1, rfl⟩ := DataW.trod_bool Tryd.underlying4 g1
    obtain ⟨n2, e2, rfl, k2⟩ := DataW.trod_int Tryd.underlying5 g2
    obtain ⟨b3, e3, rfl⟩ := DataW.trod_bool Tryd.underlying4 g3
    obtain ⟨n4, e4, rfl, k4⟩ := DataW.trod_int Tryd.underlying5 g4
    obtain ⟨n5, e5, rfl, k5⟩ := DataW.trod_int Tryd.underlying5 g5
    obtain ⟨s6, e6, rfl, k6⟩ := DataW.trod_string Tryd.underlying9 g6
    obtain ⟨m0, rfl, l0⟩ := Base.wf_u8 k0
    obtain ⟨m2, rfl, l2⟩ := Base.wf_u8 k2
    obtain ⟨m4, rfl, l4⟩ := Base.wf_u8 k4
    obtain ⟨m5, rfl, l5⟩ := Base.wf_u8 k5
    obtain rfl : c0 = _ := List.head_eq_of_cons_eq e0
    obtain rfl : c1 = _ := List.head_eq_of_cons_eq e1
    obtain rfl : c2 = _ := List.head_eq_of_cons_eq e2
    obtain rfl : c3 = _ := List.head_eq_of_cons_eq e3
    obtain rfl : c4 = _ := List.head_eq_of_cons_eq e4
    obtain rfl : c5 = _ := List.head_eq_of_cons_eq e5
    obtain rfl : c6 = _ := List.head_eq_of_cons_eq e6
    exact ⟨⟨m0, b1, m2, b3, m4, m5, s6⟩, rfl, ⟨l0, l2, l4, l5⟩, k6⟩
theorem add_block (a : Addr) (n : Nat) : (a.add n).block = a.block := by unfold Addr.add; split <;> rfl
theorem open_frames {r : Reach} {b0 : Nat} {v : Value} {d : DataW H} {p : List MemPlace} (hv : Value.okWide Tryd.prog w r b0 24 v) (h : DataW.Trod enc Tryd.prog w 0 (fun _ => true) true 24 v d p) :
    ∃ (oa : Option Addr) (n cap : Nat) (F : Nat → Fr), v = .slice oa n cap ∧ n ≤ maxLen ∧ ArgF w oa n F := by
  obtain ⟨oa, n, cap, rfl⟩ := okWide_slice Tryd.underlying24 hv
  obtain ⟨fuel, hf⟩ := h
  rcases open_slice Tryd.underlying24 hf with ⟨e, _⟩ | ⟨a, len, cap', m, n', D, Pl, e, hb, hl, hm, hmm, _, hx⟩
  · simp only [Value.cells, List.cons.injEq, and_true] at e
    injection e with e1 e2 e3
    subst e1 e2 e3
    exact ⟨none, 0, 0, fun _ => fr0, rfl, Nat.zero_le _, fun h => absurd h (by decide), fun k hk => absurd hk (by omega), fun a h => by cases h⟩
  · simp only [Value.cells, List.cons.injEq, and_true] at e
    injection e with e1 e2 e3
    subst e1 e2 e3
    have hnm : n ≤ m := by rw [hmm]; simp; omega
    rw [cellsF] at hx
    obtain ⟨F, hF⟩ := choose_lt (α := Fr) (p := fun i f => f.In ∧ f.info.size ≤ maxLen ∧ ∀ j, j < 7 → w.cell? ((a.add (i * 7)).add j) = (fc f)[j]?) (fun i hi => by
      obtain ⟨cs', h1, h2⟩ := hx i hi
      obtain ⟨_, hz, hc⟩ := World.cells?_some h1
      obtain ⟨f, rfl, f1, f2⟩ := open_fc hz h2
      exact ⟨f, f1, f2, fun j hj => hc j hj⟩)
    refine ⟨some a, n, cap, F, rfl, Nat.le_trans hl hm, fun h0 => ⟨a, rfl, ?_⟩, fun k hk => ⟨(hF k (by omega)).1, (hF k (by omega)).2.1⟩, fun a' e k hk j hj => ?_⟩
    · have h7 := (hF 0 (by omega)).2.2 0 (by decide)
      have hs : (fc (F 0))[0]? = some (.int .u8 ((F 0).d : Int)) := rfl
      rw [hs] at h7
      have := World.block_lt_of_cell? w _ h7
      rw [add_block, add_block] at this
      exact this
    · injection e with e
      subst e
      exact (hF k (by omega)).2.2 j hj
theorem open_bits {r : Reach} {b0 : Nat} {v : Value} {d : DataW H} {p : List MemPlace} (hv : Value.okWide Tryd.prog w r b0 25 v) (h : DataW.Trod enc Tryd.prog w 0 (fun _ => true) true 25 v d p) :
    ∃ (oa : Option Addr) (n cap : Nat) (B : Nat → Bool), v = .slice oa n cap ∧ n ≤ maxLen ∧ ArgB w oa n B := by
  obtain ⟨oa, n, cap, rfl⟩ := okWide_slice Tryd.underlying25 hv
  obtain ⟨fuel, hf⟩ := h
  rcases open_bools Tryd.underlying25 Tryd.underlying4 cellsB hf with ⟨e, _⟩ | ⟨a, len, cap', B, e, hb, hl, hm, _, hx⟩
  · simp only [Value.cells, List.cons.injEq, and_true] at e
    injection e with e1 e2 e3
    subst e1 e2 e3
    exact ⟨none, 0, 0, fun _ => false, rfl, Nat.zero_le _, fun h => absurd h (by decide), fun a h => by cases h⟩
  · simp only [Value.cells, List.cons.injEq, and_true] at e
    injection e with e1 e2 e3
    subst e1 e2 e3
    refine ⟨some a, n, cap, B, rfl, Nat.le_trans hl hm, fun h0 => ⟨a, rfl, ?_⟩, fun a' e k hk => ?_⟩
    · have := World.block_lt_of_cell? w _ (hx 0 (by omega))
      rw [add_block] at this
      exact this
    · injection e with e
      subst e
      exact hx k (by omega)
end
end Go.Proofs.YthlciaomfpephaaDoor.Df
