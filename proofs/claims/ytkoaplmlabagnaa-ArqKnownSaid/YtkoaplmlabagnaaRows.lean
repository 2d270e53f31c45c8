/-
  No cell of these rows narrows 'for every input' (looked for: loops, veiled, ifaces, maps, wideKeys, modest, calm, conditions, laid).
  DERIVED. THE GIVEN ROWS OF THIS SEAT. 4 by the template 'for every input the law returns true; each argument reads behind the call as it read before'; 0 by the template 'total and deterministic' (their statements: YtkoaplmlabagnaaTotals.lean).
  GIVEN WITH THE SEED: the statements are not yours to turn. If you find one false, say at which input.
  Laid BY PROGRAM, IN A SANDBOX (cutbox-rows.mjs): the forced cells as the released guide's own fill.sh prints them over the translation 6d50d2b2dfddb9c4… (all of the seat's roots in one cut). By AI agents, Wed Nov 11 2026. No macro, syntax, notation, axiom, sorry.
-/
import Derived.Test.YtkoaplmlabagnaaChecked
import GoSem.Claim
import GoSem.ClaimJoined
import GoSem.ClaimMapViews
import Derived.JoinedTies
import Derived.KernelRfl
namespace Go.Proofs.Ytkoaplmlabagnaa
/- THE CELL 'sum', in the pinned program and in every row, IS THE sha256 OF THE DUMP (.gsa) THAT YtkoaplmlabagnaaProg.lean LOADS. Nothing in Lean hashes anything: it is a label: what it is worth is what the hold of that sum in a sandbox is worth. -/
noncomputable def Try.pinned : Pinned := { name := "ytkoaplmlabagnaa", sum := "6d50d2b2dfddb9c44a9a1748ebe488729527098f2073b0c492ef37aba2c0dc10", checked := Try.checked }
namespace Rows
def none {H : Type} : Left H := { results := [], args := [] }

/-- 'partylinelaw15.ArqPlays': WHATEVER THE INPUT: true; the input reads as it did. -/
def arqPlaysSpec : ChangeSpec := { name := "arqPlays", fn := fun _ => fun
  | [d1, d2, d3, d4] => { results := [.lit (.bool true)], args := [d1, d2, d3, d4] }
  | _ => none }
def arqPlaysRow : OpenClaim := { program := "ytkoaplmlabagnaa", sum := "6d50d2b2dfddb9c44a9a1748ebe488729527098f2073b0c492ef37aba2c0dc10", func := "partyline/partylinelaw15.ArqPlays", spec := "arqPlays", apart := false }
def ArqPlaysSaid : Prop := arqPlaysRow.holds Try.pinned (OpenSpec.ofChange arqPlaysSpec)

/-- ITS FALSE NEIGHBOUR: 'it returns false'. Refute it at one input. -/
def arqPlaysWrong : ChangeSpec := { name := "arqPlays", fn := fun _ => fun
  | [d1, d2, d3, d4] => { results := [.lit (.bool false)], args := [d1, d2, d3, d4] }
  | _ => none }
def ArqPlaysWrongFalsely : Prop := arqPlaysRow.holds Try.pinned (OpenSpec.ofChange arqPlaysWrong)

/-- 'partylinelaw15.ArqPair': WHATEVER THE INPUT: true; the input reads as it did. -/
def arqPairSpec : ChangeSpec := { name := "arqPair", fn := fun _ => fun
  | [d1, d2, d3, d4] => { results := [.lit (.bool true)], args := [d1, d2, d3, d4] }
  | _ => none }
def arqPairRow : OpenClaim := { program := "ytkoaplmlabagnaa", sum := "6d50d2b2dfddb9c44a9a1748ebe488729527098f2073b0c492ef37aba2c0dc10", func := "partyline/partylinelaw15.ArqPair", spec := "arqPair", apart := false }
def ArqPairSaid : Prop := arqPairRow.holds Try.pinned (OpenSpec.ofChange arqPairSpec)

/-- ITS FALSE NEIGHBOUR: 'it returns false'. Refute it at one input. -/
def arqPairWrong : ChangeSpec := { name := "arqPair", fn := fun _ => fun
  | [d1, d2, d3, d4] => { results := [.lit (.bool false)], args := [d1, d2, d3, d4] }
  | _ => none }
def ArqPairWrongFalsely : Prop := arqPairRow.holds Try.pinned (OpenSpec.ofChange arqPairWrong)

/-- 'partylinelaw15.ArqFails': WHATEVER THE INPUT: true; the input reads as it did. -/
def arqFailsSpec : ChangeSpec := { name := "arqFails", fn := fun _ => fun
  | [d1, d2] => { results := [.lit (.bool true)], args := [d1, d2] }
  | _ => none }
def arqFailsRow : OpenClaim := { program := "ytkoaplmlabagnaa", sum := "6d50d2b2dfddb9c44a9a1748ebe488729527098f2073b0c492ef37aba2c0dc10", func := "partyline/partylinelaw15.ArqFails", spec := "arqFails", apart := false }
def ArqFailsSaid : Prop := arqFailsRow.holds Try.pinned (OpenSpec.ofChange arqFailsSpec)

/-- ITS FALSE NEIGHBOUR: 'it returns false'. Refute it at one input. -/
def arqFailsWrong : ChangeSpec := { name := "arqFails", fn := fun _ => fun
  | [d1, d2] => { results := [.lit (.bool false)], args := [d1, d2] }
  | _ => none }
def ArqFailsWrongFalsely : Prop := arqFailsRow.holds Try.pinned (OpenSpec.ofChange arqFailsWrong)

/-- 'partylinelaw15.ArqKnown': WHATEVER THE INPUT: true; the input reads as it did. -/
def arqKnownSpec : ChangeSpec := { name := "arqKnown", fn := fun _ => fun
  | [] => { results := [.lit (.bool true)], args := [] }
  | _ => none }
def arqKnownRow : OpenClaim := { program := "ytkoaplmlabagnaa", sum := "6d50d2b2dfddb9c44a9a1748ebe488729527098f2073b0c492ef37aba2c0dc10", func := "partyline/partylinelaw15.ArqKnown", spec := "arqKnown", apart := false }
def ArqKnownSaid : Prop := arqKnownRow.holds Try.pinned (OpenSpec.ofChange arqKnownSpec)

/-- ITS FALSE NEIGHBOUR: 'it returns false'. Refute it at one input. -/
def arqKnownWrong : ChangeSpec := { name := "arqKnown", fn := fun _ => fun
  | [] => { results := [.lit (.bool false)], args := [] }
  | _ => none }
def ArqKnownWrongFalsely : Prop := arqKnownRow.holds Try.pinned (OpenSpec.ofChange arqKnownWrong)

/- THE SECOND FORM. 'bulk': how many values and letters a reading holds, each counted each time it is reached (what is shared counts as often as it is met; a slice's spare places count too). A statement '..UptoSaid' is the law's where the arguments, and the package variables that the reading takes, are together of bulk at most 1048576: NARROWER than '..Said'. Prove '..Said' where nothing that the law and all that it calls make is longer than what came in: it says more and counts as full. Else prove '..UptoSaid'. A law counts once. -/
mutual
def uptoBulk {H : Type} : DataW H → Nat
  | .lit (.string bytes) => bytes.length + 1
  | .lit _ => 1
  | .nil => 1
  | .ptr d => uptoBulk d + 1
  | .slice elems spare => uptoBulkAll elems + uptoBulkAll spare + 1
  | .agg parts => uptoBulkAll parts + 1
  | .iface _ d => uptoBulk d + 1
  | .map entries => uptoBulkEntries entries + 1
  | .held _ => 1
def uptoBulkAll {H : Type} : List (DataW H) → Nat
  | [] => 0
  | d :: r => uptoBulk d + uptoBulkAll r
def uptoBulkEntries {H : Type} : List (Lit × DataW H) → Nat
  | [] => 0
  | x :: r => uptoBulkEntry x + uptoBulkEntries r
def uptoBulkEntry {H : Type} : Lit × DataW H → Nat
  | (.string bytes, d) => bytes.length + uptoBulk d + 1
  | (_, d) => uptoBulk d + 1
 end
def uptoSmall : (H : Type) → List (DataW H) → Bool := fun _ ds => decide (uptoBulkAll ds ≤ 1048576)
def OpenSpec.upto (s : _root_.Go.ChangeSpec) : _root_.Go.OpenSpec := { _root_.Go.OpenSpec.ofChange s with cond := some uptoSmall }

/-- 'partylinelaw15.ArqPlays', WHERE WHAT IT READS IS OF BULK AT MOST 1048576: true; the input reads as it did. -/
def arqPlaysUptoRow : OpenClaim := { program := "ytkoaplmlabagnaa", sum := "6d50d2b2dfddb9c44a9a1748ebe488729527098f2073b0c492ef37aba2c0dc10", func := "partyline/partylinelaw15.ArqPlays", spec := "arqPlays", apart := false, narrowed := true }
def ArqPlaysUptoSaid : Prop := arqPlaysUptoRow.holds Try.pinned (OpenSpec.upto arqPlaysSpec)

/-- 'partylinelaw15.ArqPair', WHERE WHAT IT READS IS OF BULK AT MOST 1048576: true; the input reads as it did. -/
def arqPairUptoRow : OpenClaim := { program := "ytkoaplmlabagnaa", sum := "6d50d2b2dfddb9c44a9a1748ebe488729527098f2073b0c492ef37aba2c0dc10", func := "partyline/partylinelaw15.ArqPair", spec := "arqPair", apart := false, narrowed := true }
def ArqPairUptoSaid : Prop := arqPairUptoRow.holds Try.pinned (OpenSpec.upto arqPairSpec)

/-- 'partylinelaw15.ArqFails', WHERE WHAT IT READS IS OF BULK AT MOST 1048576: true; the input reads as it did. -/
def arqFailsUptoRow : OpenClaim := { program := "ytkoaplmlabagnaa", sum := "6d50d2b2dfddb9c44a9a1748ebe488729527098f2073b0c492ef37aba2c0dc10", func := "partyline/partylinelaw15.ArqFails", spec := "arqFails", apart := false, narrowed := true }
def ArqFailsUptoSaid : Prop := arqFailsUptoRow.holds Try.pinned (OpenSpec.upto arqFailsSpec)

/-- 'partylinelaw15.ArqKnown', WHERE WHAT IT READS IS OF BULK AT MOST 1048576: true; the input reads as it did. -/
def arqKnownUptoRow : OpenClaim := { program := "ytkoaplmlabagnaa", sum := "6d50d2b2dfddb9c44a9a1748ebe488729527098f2073b0c492ef37aba2c0dc10", func := "partyline/partylinelaw15.ArqKnown", spec := "arqKnown", apart := false, narrowed := true }
def ArqKnownUptoSaid : Prop := arqKnownUptoRow.holds Try.pinned (OpenSpec.upto arqKnownSpec)

end Rows
end Go.Proofs.Ytkoaplmlabagnaa
