/-
  No cell of these rows narrows 'for every input' (looked for: loops, veiled, ifaces, maps, wideKeys, modest, calm, conditions, laid).
  DERIVED. THE GIVEN ROWS OF THIS SEAT. 4 by the template 'for every input the law returns true; each argument reads behind the call as it read before'; 0 by the template 'total and deterministic' (their statements: YtgdpmhfbkecipaaTotals.lean).
  GIVEN WITH THE SEED: the statements are not yours to turn. If you find one false, say at which input.
  Laid BY PROGRAM, IN A SANDBOX (cutbox-rows.mjs): the forced cells as the released guide's own fill.sh prints them over the translation 4c9d3ee2011193a9… (all of the seat's roots in one cut). By AI agents, Wed Nov 11 2026. No macro, syntax, notation, axiom, sorry.
-/
import Derived.Test.YtgdpmhfbkecipaaChecked
import GoSem.Claim
import GoSem.ClaimJoined
import GoSem.ClaimMapViews
import Derived.JoinedTies
import Derived.KernelRfl
namespace Go.Proofs.Ytgdpmhfbkecipaa
/- THE CELL 'sum', in the pinned program and in every row, IS THE sha256 OF THE DUMP (.gsa) THAT YtgdpmhfbkecipaaProg.lean LOADS. Nothing in Lean hashes anything: it is a label: what it is worth is what the hold of that sum in a sandbox is worth. -/
noncomputable def Try.pinned : Pinned := { name := "ytgdpmhfbkecipaa", sum := "4c9d3ee2011193a9bd06931dccb2bb2a56d2fc139eafaac74ff6e56d3bd2c66c", checked := Try.checked }
namespace Rows
def none {H : Type} : Left H := { results := [], args := [] }

/-- 'partylinelaw08.PnPuts': WHATEVER THE INPUT: true; the input reads as it did. -/
def pnPutsSpec : ChangeSpec := { name := "pnPuts", fn := fun _ => fun
  | [d1, d2] => { results := [.lit (.bool true)], args := [d1, d2] }
  | _ => none }
def pnPutsRow : OpenClaim := { program := "ytgdpmhfbkecipaa", sum := "4c9d3ee2011193a9bd06931dccb2bb2a56d2fc139eafaac74ff6e56d3bd2c66c", func := "partyline/partylinelaw08.PnPuts", spec := "pnPuts", apart := false }
def PnPutsSaid : Prop := pnPutsRow.holds Try.pinned (OpenSpec.ofChange pnPutsSpec)

/-- ITS FALSE NEIGHBOUR: 'it returns false'. Refute it at one input. -/
def pnPutsWrong : ChangeSpec := { name := "pnPuts", fn := fun _ => fun
  | [d1, d2] => { results := [.lit (.bool false)], args := [d1, d2] }
  | _ => none }
def PnPutsWrongFalsely : Prop := pnPutsRow.holds Try.pinned (OpenSpec.ofChange pnPutsWrong)

/-- 'partylinelaw08.PnAgrees': WHATEVER THE INPUT: true; the input reads as it did. -/
def pnAgreesSpec : ChangeSpec := { name := "pnAgrees", fn := fun _ => fun
  | [d1, d2] => { results := [.lit (.bool true)], args := [d1, d2] }
  | _ => none }
def pnAgreesRow : OpenClaim := { program := "ytgdpmhfbkecipaa", sum := "4c9d3ee2011193a9bd06931dccb2bb2a56d2fc139eafaac74ff6e56d3bd2c66c", func := "partyline/partylinelaw08.PnAgrees", spec := "pnAgrees", apart := false }
def PnAgreesSaid : Prop := pnAgreesRow.holds Try.pinned (OpenSpec.ofChange pnAgreesSpec)

/-- ITS FALSE NEIGHBOUR: 'it returns false'. Refute it at one input. -/
def pnAgreesWrong : ChangeSpec := { name := "pnAgrees", fn := fun _ => fun
  | [d1, d2] => { results := [.lit (.bool false)], args := [d1, d2] }
  | _ => none }
def PnAgreesWrongFalsely : Prop := pnAgreesRow.holds Try.pinned (OpenSpec.ofChange pnAgreesWrong)

/-- 'partylinelaw08.PnBack': WHATEVER THE INPUT: true; the input reads as it did. -/
def pnBackSpec : ChangeSpec := { name := "pnBack", fn := fun _ => fun
  | [d1, d2, d3] => { results := [.lit (.bool true)], args := [d1, d2, d3] }
  | _ => none }
def pnBackRow : OpenClaim := { program := "ytgdpmhfbkecipaa", sum := "4c9d3ee2011193a9bd06931dccb2bb2a56d2fc139eafaac74ff6e56d3bd2c66c", func := "partyline/partylinelaw08.PnBack", spec := "pnBack", apart := false }
def PnBackSaid : Prop := pnBackRow.holds Try.pinned (OpenSpec.ofChange pnBackSpec)

/-- ITS FALSE NEIGHBOUR: 'it returns false'. Refute it at one input. -/
def pnBackWrong : ChangeSpec := { name := "pnBack", fn := fun _ => fun
  | [d1, d2, d3] => { results := [.lit (.bool false)], args := [d1, d2, d3] }
  | _ => none }
def PnBackWrongFalsely : Prop := pnBackRow.holds Try.pinned (OpenSpec.ofChange pnBackWrong)

/-- 'partylinelaw08.PnKnown': WHATEVER THE INPUT: true; the input reads as it did. -/
def pnKnownSpec : ChangeSpec := { name := "pnKnown", fn := fun _ => fun
  | [] => { results := [.lit (.bool true)], args := [] }
  | _ => none }
def pnKnownRow : OpenClaim := { program := "ytgdpmhfbkecipaa", sum := "4c9d3ee2011193a9bd06931dccb2bb2a56d2fc139eafaac74ff6e56d3bd2c66c", func := "partyline/partylinelaw08.PnKnown", spec := "pnKnown", apart := false }
def PnKnownSaid : Prop := pnKnownRow.holds Try.pinned (OpenSpec.ofChange pnKnownSpec)

/-- ITS FALSE NEIGHBOUR: 'it returns false'. Refute it at one input. -/
def pnKnownWrong : ChangeSpec := { name := "pnKnown", fn := fun _ => fun
  | [] => { results := [.lit (.bool false)], args := [] }
  | _ => none }
def PnKnownWrongFalsely : Prop := pnKnownRow.holds Try.pinned (OpenSpec.ofChange pnKnownWrong)

/- THE SECOND FORM. 'bulk': how many values and letters a reading holds, each counted each time it is reached (what is shared counts as often as it is met; a slice's spare places count too). A statement '..UptoSaid' is the law's where the arguments, and the package variables that the reading takes, are together of bulk at most 1048576: NARROWER than '..Said'. Prove '..Said' where nothing that the law and all that it calls make is longer than what came in: it says more and counts as full. Else prove '..UptoSaid'. A law counts once. -/
mutual
def uptoBulk {H : Type} : DataW H → Nat
  | .lit (.string bytes) => bytes.length + 1
  | .lit _ => 1
  | .nil => 1
  | .ptr d => uptoBulk d + 1
  | .slice elems spare => uptoBulkAll elems + uptoBulkAll spare + 1
  | .agg parts => uptoBulkAll parts + 1
  | .iface _ d => uptoBulk d + 1
  | .map entries => uptoBulkEntries entries + 1
  | .held _ => 1
def uptoBulkAll {H : Type} : List (DataW H) → Nat
  | [] => 0
  | d :: r => uptoBulk d + uptoBulkAll r
def uptoBulkEntries {H : Type} : List (Lit × DataW H) → Nat
  | [] => 0
  | x :: r => uptoBulkEntry x + uptoBulkEntries r
def uptoBulkEntry {H : Type} : Lit × DataW H → Nat
  | (.string bytes, d) => bytes.length + uptoBulk d + 1
  | (_, d) => uptoBulk d + 1
 end
def uptoSmall : (H : Type) → List (DataW H) → Bool := fun _ ds => decide (uptoBulkAll ds ≤ 1048576)
def OpenSpec.upto (s : _root_.Go.ChangeSpec) : _root_.Go.OpenSpec := { _root_.Go.OpenSpec.ofChange s with cond := some uptoSmall }

/-- 'partylinelaw08.PnPuts', WHERE WHAT IT READS IS OF BULK AT MOST 1048576: true; the input reads as it did. -/
def pnPutsUptoRow : OpenClaim := { program := "ytgdpmhfbkecipaa", sum := "4c9d3ee2011193a9bd06931dccb2bb2a56d2fc139eafaac74ff6e56d3bd2c66c", func := "partyline/partylinelaw08.PnPuts", spec := "pnPuts", apart := false, narrowed := true }
def PnPutsUptoSaid : Prop := pnPutsUptoRow.holds Try.pinned (OpenSpec.upto pnPutsSpec)

/-- 'partylinelaw08.PnAgrees', WHERE WHAT IT READS IS OF BULK AT MOST 1048576: true; the input reads as it did. -/
def pnAgreesUptoRow : OpenClaim := { program := "ytgdpmhfbkecipaa", sum := "4c9d3ee2011193a9bd06931dccb2bb2a56d2fc139eafaac74ff6e56d3bd2c66c", func := "partyline/partylinelaw08.PnAgrees", spec := "pnAgrees", apart := false, narrowed := true }
def PnAgreesUptoSaid : Prop := pnAgreesUptoRow.holds Try.pinned (OpenSpec.upto pnAgreesSpec)

/-- 'partylinelaw08.PnBack', WHERE WHAT IT READS IS OF BULK AT MOST 1048576: true; the input reads as it did. -/
def pnBackUptoRow : OpenClaim := { program := "ytgdpmhfbkecipaa", sum := "4c9d3ee2011193a9bd06931dccb2bb2a56d2fc139eafaac74ff6e56d3bd2c66c", func := "partyline/partylinelaw08.PnBack", spec := "pnBack", apart := false, narrowed := true }
def PnBackUptoSaid : Prop := pnBackUptoRow.holds Try.pinned (OpenSpec.upto pnBackSpec)

/-- 'partylinelaw08.PnKnown', WHERE WHAT IT READS IS OF BULK AT MOST 1048576: true; the input reads as it did. -/
def pnKnownUptoRow : OpenClaim := { program := "ytgdpmhfbkecipaa", sum := "4c9d3ee2011193a9bd06931dccb2bb2a56d2fc139eafaac74ff6e56d3bd2c66c", func := "partyline/partylinelaw08.PnKnown", spec := "pnKnown", apart := false, narrowed := true }
def PnKnownUptoSaid : Prop := pnKnownUptoRow.holds Try.pinned (OpenSpec.upto pnKnownSpec)

end Rows
end Go.Proofs.Ytgdpmhfbkecipaa
