/-
  A slice of values of one type that came in as an argument, opened at every index, whatever the type. Condition: how one element is opened.
-/
import Derived.Test.YtogpfjpjegmkiaaOwnS
import Derived.Test.YtogpfjpjegmkiaaBase
import Derived.ProofKit
import Derived.OpenShut
namespace Go.Proofs.Ytogpfjpjegmkiaa.Mem
set_option maxRecDepth 20000
open Go.ChangeShapes Go.WideShapes Go.ChangeAt Go.ChangeMaps Go.RowKit Go.Deep
theorem cellsU : Try.prog.cellsOf 5 = 1 := by kernel_rfl
theorem cellsB : Try.prog.cellsOf 4 = 1 := by kernel_rfl
theorem cellsS : Try.prog.cellsOf 9 = 1 := by kernel_rfl
theorem cellsI : Try.prog.cellsOf 3 = 1 := by kernel_rfl
theorem open_any {H : Type} {enc : TypeId × Value → H} {α : Type} {E S z : Nat} {fc : α → List Value} {P : α → Prop} {w : World} (hu : Try.prog.underlying S = some (.slice E)) (hc : Try.prog.cellsOf E = z) (hz : 0 < z) (hl : ∀ x, (fc x).length = z) (a0 : α)
    (h1 : ∀ (n : Nat) (cs : List Value) (x : DataW H × List MemPlace), cs.length = z → DataW.trod enc Try.prog w 0 (fun _ => true) true n E cs = some x → ∃ a : α, cs = fc a ∧ P a)
    {r : Reach} {b0 : Nat} {v : Value} {d : DataW H} {p : List MemPlace} (hv : Value.okWide Try.prog w r b0 S v) (h : DataW.Trod enc Try.prog w 0 (fun _ => true) true S v d p) :
    ∃ (oa : Option Addr) (n cap : Nat) (F : Nat → α), v = .slice oa n cap ∧ n ≤ maxLen ∧ ArgS z fc P w oa n F := by
  obtain ⟨oa, n, cap, rfl⟩ := okWide_slice hu hv
  obtain ⟨fuel, hf⟩ := h
  rcases open_slice hu hf with ⟨e, _⟩ | ⟨a, len, cap', m, n', D, Pl, e, hb, hle, hm, hmm, _, hx⟩
  · simp only [Value.cells, List.cons.injEq, and_true] at e
    injection e with e1 e2 e3
    subst e1 e2 e3
    exact ⟨none, 0, 0, fun _ => a0, rfl, Nat.zero_le _, fun h => absurd h (by decide), fun k hk => absurd hk (by omega), fun a h => by cases h⟩
  · simp only [Value.cells, List.cons.injEq, and_true] at e
    injection e with e1 e2 e3
    subst e1 e2 e3
    have hnm : n ≤ m := by rw [hmm]; simp; omega
    rw [hc] at hx
    haveI : Inhabited α := ⟨a0⟩
    obtain ⟨F, hF⟩ := choose_lt (α := α) (p := fun i f => P f ∧ ∀ j, j < z → w.cell? ((a.add (i * z)).add j) = (fc f)[j]?) (fun i hi => by
      obtain ⟨cs', g1, g2⟩ := hx i hi
      obtain ⟨_, hz', hc'⟩ := World.cells?_some g1
      obtain ⟨f, rfl, f1⟩ := h1 _ _ _ hz' g2
      exact ⟨f, f1, fun j hj => hc' j hj⟩)
    refine ⟨some a, n, cap, F, rfl, Nat.le_trans hle hm, fun h0 => ⟨a, rfl, ?_⟩, fun k hk => (hF k (by omega)).1, fun a' e k hk j hj => ?_⟩
    · have h7 := (hF 0 (by omega)).2 0 hz
      rw [List.getElem?_eq_getElem (by rw [hl]; exact hz)] at h7
      have := World.block_lt_of_cell? w _ h7
      rw [add_block, add_block] at this
      exact this
    · injection e with e
      subst e
      exact (hF k (by omega)).2 j hj
end Go.Proofs.Ytogpfjpjegmkiaa.Mem
