/-
  A slice of strings, and one of octets, that came in as an argument, opened at every index. No condition of its own.
-/
import Derived.Test.YtidcoodmlgmcjaaArgs
import Derived.Test.YtidcoodmlgmcjaaClMath
namespace Go.Proofs.Ytidcoodmlgmcjaa.Cl
open Go.ChangeShapes Go.WideShapes Go.ChangeAt Go.ChangeMaps Go.RowKit Go.Proofs.Ytidcoodmlgmcjaa.Mem
abbrev octV (n : Nat) : List Value := [.int .u8 (n : Int)]
abbrev ArgT (w : World) (oa : Option Addr) (n : Nat) (F : Nat → ByteArray) : Prop := ArgS 1 strV (fun x => x.size ≤ maxLen) w oa n F
abbrev ArgO (w : World) (oa : Option Addr) (n : Nat) (F : Nat → Nat) : Prop := ArgS 1 octV (fun x => x < 256) w oa n F
section
variable {H : Type} {enc : TypeId × Value → H} {w : World}
theorem open_texts {r : Reach} {b0 : Nat} {v : Value} {d : DataW H} {p : List MemPlace} (hv : Value.okWide Try.prog w r b0 23 v) (h : DataW.Trod enc Try.prog w 0 (fun _ => true) true 23 v d p) :
    ∃ (oa : Option Addr) (n cap : Nat) (F : Nat → ByteArray), v = .slice oa n cap ∧ n ≤ maxLen ∧ ArgT w oa n F :=
  open_any Try.underlying23 cellsS Nat.one_pos (fun _ => rfl) ⟨#[]⟩ (fun _ _ _ _ hf => by
    obtain ⟨s, e, _, k⟩ := DataW.trod_string Try.underlying9 hf
    exact ⟨s, e, k⟩) hv h
theorem open_octets {r : Reach} {b0 : Nat} {v : Value} {d : DataW H} {p : List MemPlace} (hv : Value.okWide Try.prog w r b0 37 v) (h : DataW.Trod enc Try.prog w 0 (fun _ => true) true 37 v d p) :
    ∃ (oa : Option Addr) (n cap : Nat) (F : Nat → Nat), v = .slice oa n cap ∧ n ≤ maxLen ∧ ArgO w oa n F :=
  open_any Try.underlying37 cellsU Nat.one_pos (fun _ => rfl) 0 (fun _ _ _ _ hf => by
    obtain ⟨n0, e0, _, k0⟩ := DataW.trod_int Try.underlying5 hf
    obtain ⟨m0, rfl, l0⟩ := Base.wf_u8 k0
    exact ⟨m0, e0, l0⟩) hv h
end
theorem ArgT.at1 {w wr : World} {oa : Option Addr} {n : Nat} {F : Nat → ByteArray} (h : ArgT w oa n F) (hb : Below w.heap.size w wr) {k : Nat} (hk : k < n) : ∃ a, oa = some a ∧ ∃ gb go, a.add k = ⟨gb, go, none⟩ ∧ gb < w.heap.size ∧ wr.cell? ⟨gb, go, none⟩ = some (.string (F k)) := by
  obtain ⟨a, ha, gb, go, h1, h2, h3⟩ := ArgS.at' (z := 1) (fc := strV) Nat.one_pos (fun _ => rfl) h hk
  rw [Nat.mul_one] at h1
  exact ⟨a, ha, gb, go, h1, h2, (hb.cell (p := ⟨gb, go, none⟩) h2).trans (h3 0 Nat.one_pos)⟩
theorem ArgO.at1 {w wr : World} {oa : Option Addr} {n : Nat} {F : Nat → Nat} (h : ArgO w oa n F) (hb : Below w.heap.size w wr) {k : Nat} (hk : k < n) : ∃ a, oa = some a ∧ ∃ gb go, a.add k = ⟨gb, go, none⟩ ∧ gb < w.heap.size ∧ wr.cell? ⟨gb, go, none⟩ = some (.int .u8 (F k : Int)) := by
  obtain ⟨a, ha, gb, go, h1, h2, h3⟩ := ArgS.at' (z := 1) (fc := octV) Nat.one_pos (fun _ => rfl) h hk
  rw [Nat.mul_one] at h1
  exact ⟨a, ha, gb, go, h1, h2, (hb.cell (p := ⟨gb, go, none⟩) h2).trans (h3 0 Nat.one_pos)⟩
end Go.Proofs.Ytidcoodmlgmcjaa.Cl
