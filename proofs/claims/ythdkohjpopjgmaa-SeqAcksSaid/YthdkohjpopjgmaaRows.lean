/-
  No cell of these rows narrows 'for every input' (looked for: loops, veiled, ifaces, maps, wideKeys, modest, calm, conditions, laid).
  DERIVED. THE GIVEN ROWS OF THIS SEAT. 5 by the template 'for every input the law returns true; each argument reads behind the call as it read before'; 0 by the template 'total and deterministic' (their statements: YthdkohjpopjgmaaTotals.lean).
  GIVEN WITH THE SEED: the statements are not yours to turn. If you find one false, say at which input.
  Laid BY PROGRAM, IN A SANDBOX (cutbox-rows.mjs): the forced cells as the released guide's own fill.sh prints them over the translation c0eefe73f53def1b… (all of the seat's roots in one cut). By AI agents, Wed Nov 11 2026. No macro, syntax, notation, axiom, sorry.
-/
import Derived.Test.YthdkohjpopjgmaaChecked
import GoSem.Claim
import GoSem.ClaimJoined
import GoSem.ClaimMapViews
import Derived.JoinedTies
import Derived.KernelRfl
namespace Go.Proofs.Ythdkohjpopjgmaa
/- THE CELL 'sum', in the pinned program and in every row, IS THE sha256 OF THE DUMP (.gsa) THAT YthdkohjpopjgmaaProg.lean LOADS. Nothing in Lean hashes anything: it is a label: what it is worth is what the hold of that sum in a sandbox is worth. -/
noncomputable def Try.pinned : Pinned := { name := "ythdkohjpopjgmaa", sum := "c0eefe73f53def1b7c17c8479a0b0dafee73afb281a1ceadcd648463bf9c0f29", checked := Try.checked }
namespace Rows
def none {H : Type} : Left H := { results := [], args := [] }

/-- 'partylinelaw13.SeqAdd': WHATEVER THE INPUT: true; the input reads as it did. -/
def seqAddSpec : ChangeSpec := { name := "seqAdd", fn := fun _ => fun
  | [d1, d2, d3] => { results := [.lit (.bool true)], args := [d1, d2, d3] }
  | _ => none }
def seqAddRow : OpenClaim := { program := "ythdkohjpopjgmaa", sum := "c0eefe73f53def1b7c17c8479a0b0dafee73afb281a1ceadcd648463bf9c0f29", func := "partyline/partylinelaw13.SeqAdd", spec := "seqAdd", apart := false }
def SeqAddSaid : Prop := seqAddRow.holds Try.pinned (OpenSpec.ofChange seqAddSpec)

/-- ITS FALSE NEIGHBOUR: 'it returns false'. Refute it at one input. -/
def seqAddWrong : ChangeSpec := { name := "seqAdd", fn := fun _ => fun
  | [d1, d2, d3] => { results := [.lit (.bool false)], args := [d1, d2, d3] }
  | _ => none }
def SeqAddWrongFalsely : Prop := seqAddRow.holds Try.pinned (OpenSpec.ofChange seqAddWrong)

/-- 'partylinelaw13.SeqWindow': WHATEVER THE INPUT: true; the input reads as it did. -/
def seqWindowSpec : ChangeSpec := { name := "seqWindow", fn := fun _ => fun
  | [d1, d2, d3] => { results := [.lit (.bool true)], args := [d1, d2, d3] }
  | _ => none }
def seqWindowRow : OpenClaim := { program := "ythdkohjpopjgmaa", sum := "c0eefe73f53def1b7c17c8479a0b0dafee73afb281a1ceadcd648463bf9c0f29", func := "partyline/partylinelaw13.SeqWindow", spec := "seqWindow", apart := false }
def SeqWindowSaid : Prop := seqWindowRow.holds Try.pinned (OpenSpec.ofChange seqWindowSpec)

/-- ITS FALSE NEIGHBOUR: 'it returns false'. Refute it at one input. -/
def seqWindowWrong : ChangeSpec := { name := "seqWindow", fn := fun _ => fun
  | [d1, d2, d3] => { results := [.lit (.bool false)], args := [d1, d2, d3] }
  | _ => none }
def SeqWindowWrongFalsely : Prop := seqWindowRow.holds Try.pinned (OpenSpec.ofChange seqWindowWrong)

/-- 'partylinelaw13.SeqAcks': WHATEVER THE INPUT: true; the input reads as it did. -/
def seqAcksSpec : ChangeSpec := { name := "seqAcks", fn := fun _ => fun
  | [d1, d2, d3] => { results := [.lit (.bool true)], args := [d1, d2, d3] }
  | _ => none }
def seqAcksRow : OpenClaim := { program := "ythdkohjpopjgmaa", sum := "c0eefe73f53def1b7c17c8479a0b0dafee73afb281a1ceadcd648463bf9c0f29", func := "partyline/partylinelaw13.SeqAcks", spec := "seqAcks", apart := false }
def SeqAcksSaid : Prop := seqAcksRow.holds Try.pinned (OpenSpec.ofChange seqAcksSpec)

/-- ITS FALSE NEIGHBOUR: 'it returns false'. Refute it at one input. -/
def seqAcksWrong : ChangeSpec := { name := "seqAcks", fn := fun _ => fun
  | [d1, d2, d3] => { results := [.lit (.bool false)], args := [d1, d2, d3] }
  | _ => none }
def SeqAcksWrongFalsely : Prop := seqAcksRow.holds Try.pinned (OpenSpec.ofChange seqAcksWrong)

/-- 'partylinelaw13.SeqWays': WHATEVER THE INPUT: true; the input reads as it did. -/
def seqWaysSpec : ChangeSpec := { name := "seqWays", fn := fun _ => fun
  | [d1, d2, d3] => { results := [.lit (.bool true)], args := [d1, d2, d3] }
  | _ => none }
def seqWaysRow : OpenClaim := { program := "ythdkohjpopjgmaa", sum := "c0eefe73f53def1b7c17c8479a0b0dafee73afb281a1ceadcd648463bf9c0f29", func := "partyline/partylinelaw13.SeqWays", spec := "seqWays", apart := false }
def SeqWaysSaid : Prop := seqWaysRow.holds Try.pinned (OpenSpec.ofChange seqWaysSpec)

/-- ITS FALSE NEIGHBOUR: 'it returns false'. Refute it at one input. -/
def seqWaysWrong : ChangeSpec := { name := "seqWays", fn := fun _ => fun
  | [d1, d2, d3] => { results := [.lit (.bool false)], args := [d1, d2, d3] }
  | _ => none }
def SeqWaysWrongFalsely : Prop := seqWaysRow.holds Try.pinned (OpenSpec.ofChange seqWaysWrong)

/-- 'partylinelaw13.SeqKnown': WHATEVER THE INPUT: true; the input reads as it did. -/
def seqKnownSpec : ChangeSpec := { name := "seqKnown", fn := fun _ => fun
  | [] => { results := [.lit (.bool true)], args := [] }
  | _ => none }
def seqKnownRow : OpenClaim := { program := "ythdkohjpopjgmaa", sum := "c0eefe73f53def1b7c17c8479a0b0dafee73afb281a1ceadcd648463bf9c0f29", func := "partyline/partylinelaw13.SeqKnown", spec := "seqKnown", apart := false }
def SeqKnownSaid : Prop := seqKnownRow.holds Try.pinned (OpenSpec.ofChange seqKnownSpec)

/-- ITS FALSE NEIGHBOUR: 'it returns false'. Refute it at one input. -/
def seqKnownWrong : ChangeSpec := { name := "seqKnown", fn := fun _ => fun
  | [] => { results := [.lit (.bool false)], args := [] }
  | _ => none }
def SeqKnownWrongFalsely : Prop := seqKnownRow.holds Try.pinned (OpenSpec.ofChange seqKnownWrong)

/- THE SECOND FORM. 'bulk': how many values and letters a reading holds, each counted each time it is reached (what is shared counts as often as it is met; a slice's spare places count too). A statement '..UptoSaid' is the law's where the arguments, and the package variables that the reading takes, are together of bulk at most 1048576: NARROWER than '..Said'. Prove '..Said' where nothing that the law and all that it calls make is longer than what came in: it says more and counts as full. Else prove '..UptoSaid'. A law counts once. -/
mutual
def uptoBulk {H : Type} : DataW H → Nat
  | .lit (.string bytes) => bytes.length + 1
  | .lit _ => 1
  | .nil => 1
  | .ptr d => uptoBulk d + 1
  | .slice elems spare => uptoBulkAll elems + uptoBulkAll spare + 1
  | .agg parts => uptoBulkAll parts + 1
  | .iface _ d => uptoBulk d + 1
  | .map entries => uptoBulkEntries entries + 1
  | .held _ => 1
def uptoBulkAll {H : Type} : List (DataW H) → Nat
  | [] => 0
  | d :: r => uptoBulk d + uptoBulkAll r
def uptoBulkEntries {H : Type} : List (Lit × DataW H) → Nat
  | [] => 0
  | x :: r => uptoBulkEntry x + uptoBulkEntries r
def uptoBulkEntry {H : Type} : Lit × DataW H → Nat
  | (.string bytes, d) => bytes.length + uptoBulk d + 1
  | (_, d) => uptoBulk d + 1
 end
def uptoSmall : (H : Type) → List (DataW H) → Bool := fun _ ds => decide (uptoBulkAll ds ≤ 1048576)
def OpenSpec.upto (s : _root_.Go.ChangeSpec) : _root_.Go.OpenSpec := { _root_.Go.OpenSpec.ofChange s with cond := some uptoSmall }

/-- 'partylinelaw13.SeqAdd', WHERE WHAT IT READS IS OF BULK AT MOST 1048576: true; the input reads as it did. -/
def seqAddUptoRow : OpenClaim := { program := "ythdkohjpopjgmaa", sum := "c0eefe73f53def1b7c17c8479a0b0dafee73afb281a1ceadcd648463bf9c0f29", func := "partyline/partylinelaw13.SeqAdd", spec := "seqAdd", apart := false, narrowed := true }
def SeqAddUptoSaid : Prop := seqAddUptoRow.holds Try.pinned (OpenSpec.upto seqAddSpec)

/-- 'partylinelaw13.SeqWindow', WHERE WHAT IT READS IS OF BULK AT MOST 1048576: true; the input reads as it did. -/
def seqWindowUptoRow : OpenClaim := { program := "ythdkohjpopjgmaa", sum := "c0eefe73f53def1b7c17c8479a0b0dafee73afb281a1ceadcd648463bf9c0f29", func := "partyline/partylinelaw13.SeqWindow", spec := "seqWindow", apart := false, narrowed := true }
def SeqWindowUptoSaid : Prop := seqWindowUptoRow.holds Try.pinned (OpenSpec.upto seqWindowSpec)

/-- 'partylinelaw13.SeqAcks', WHERE WHAT IT READS IS OF BULK AT MOST 1048576: true; the input reads as it did. -/
def seqAcksUptoRow : OpenClaim := { program := "ythdkohjpopjgmaa", sum := "c0eefe73f53def1b7c17c8479a0b0dafee73afb281a1ceadcd648463bf9c0f29", func := "partyline/partylinelaw13.SeqAcks", spec := "seqAcks", apart := false, narrowed := true }
def SeqAcksUptoSaid : Prop := seqAcksUptoRow.holds Try.pinned (OpenSpec.upto seqAcksSpec)

/-- 'partylinelaw13.SeqWays', WHERE WHAT IT READS IS OF BULK AT MOST 1048576: true; the input reads as it did. -/
def seqWaysUptoRow : OpenClaim := { program := "ythdkohjpopjgmaa", sum := "c0eefe73f53def1b7c17c8479a0b0dafee73afb281a1ceadcd648463bf9c0f29", func := "partyline/partylinelaw13.SeqWays", spec := "seqWays", apart := false, narrowed := true }
def SeqWaysUptoSaid : Prop := seqWaysUptoRow.holds Try.pinned (OpenSpec.upto seqWaysSpec)

/-- 'partylinelaw13.SeqKnown', WHERE WHAT IT READS IS OF BULK AT MOST 1048576: true; the input reads as it did. -/
def seqKnownUptoRow : OpenClaim := { program := "ythdkohjpopjgmaa", sum := "c0eefe73f53def1b7c17c8479a0b0dafee73afb281a1ceadcd648463bf9c0f29", func := "partyline/partylinelaw13.SeqKnown", spec := "seqKnown", apart := false, narrowed := true }
def SeqKnownUptoSaid : Prop := seqKnownUptoRow.holds Try.pinned (OpenSpec.upto seqKnownSpec)

end Rows
end Go.Proofs.Ythdkohjpopjgmaa
