/-
  No cell of these rows narrows 'for every input' (looked for: loops, veiled, ifaces, maps, wideKeys, modest, calm, conditions, laid).
  DERIVED. THE GIVEN ROWS OF THIS SEAT. 4 by the template 'for every input the law returns true; each argument reads behind the call as it read before'; 0 by the template 'total and deterministic' (their statements: YtaeinccehkofgaaTotals.lean).
  GIVEN WITH THE SEED: the statements are not yours to turn. If you find one false, say at which input.
  Laid BY PROGRAM, IN A SANDBOX (cutbox-rows.mjs): the forced cells as the released guide's own fill.sh prints them over the translation fd8a34b37c31ed5b… (all of the seat's roots in one cut). By AI agents, Wed Nov 11 2026. No macro, syntax, notation, axiom, sorry.
-/
import Derived.Test.YtaeinccehkofgaaChecked
import GoSem.Claim
import GoSem.ClaimJoined
import GoSem.ClaimMapViews
import Derived.JoinedTies
import Derived.KernelRfl
namespace Go.Proofs.Ytaeinccehkofgaa
/- THE CELL 'sum', in the pinned program and in every row, IS THE sha256 OF THE DUMP (.gsa) THAT YtaeinccehkofgaaProg.lean LOADS. Nothing in Lean hashes anything: it is a label: what it is worth is what the hold of that sum in a sandbox is worth. -/
noncomputable def Try.pinned : Pinned := { name := "ytaeinccehkofgaa", sum := "fd8a34b37c31ed5bedde988c670ea0c923fc7acb972a758842f680b94dd7ee87", checked := Try.checked }
namespace Rows
def none {H : Type} : Left H := { results := [], args := [] }

/-- 'partylinelaw17.CreditPlays': WHATEVER THE INPUT: true; the input reads as it did. -/
def creditPlaysSpec : ChangeSpec := { name := "creditPlays", fn := fun _ => fun
  | [d1, d2] => { results := [.lit (.bool true)], args := [d1, d2] }
  | _ => none }
def creditPlaysRow : OpenClaim := { program := "ytaeinccehkofgaa", sum := "fd8a34b37c31ed5bedde988c670ea0c923fc7acb972a758842f680b94dd7ee87", func := "partyline/partylinelaw17.CreditPlays", spec := "creditPlays", apart := false }
def CreditPlaysSaid : Prop := creditPlaysRow.holds Try.pinned (OpenSpec.ofChange creditPlaysSpec)

/-- ITS FALSE NEIGHBOUR: 'it returns false'. Refute it at one input. -/
def creditPlaysWrong : ChangeSpec := { name := "creditPlays", fn := fun _ => fun
  | [d1, d2] => { results := [.lit (.bool false)], args := [d1, d2] }
  | _ => none }
def CreditPlaysWrongFalsely : Prop := creditPlaysRow.holds Try.pinned (OpenSpec.ofChange creditPlaysWrong)

/-- 'partylinelaw17.CreditWhole': WHATEVER THE INPUT: true; the input reads as it did. -/
def creditWholeSpec : ChangeSpec := { name := "creditWhole", fn := fun _ => fun
  | [d1, d2] => { results := [.lit (.bool true)], args := [d1, d2] }
  | _ => none }
def creditWholeRow : OpenClaim := { program := "ytaeinccehkofgaa", sum := "fd8a34b37c31ed5bedde988c670ea0c923fc7acb972a758842f680b94dd7ee87", func := "partyline/partylinelaw17.CreditWhole", spec := "creditWhole", apart := false }
def CreditWholeSaid : Prop := creditWholeRow.holds Try.pinned (OpenSpec.ofChange creditWholeSpec)

/-- ITS FALSE NEIGHBOUR: 'it returns false'. Refute it at one input. -/
def creditWholeWrong : ChangeSpec := { name := "creditWhole", fn := fun _ => fun
  | [d1, d2] => { results := [.lit (.bool false)], args := [d1, d2] }
  | _ => none }
def CreditWholeWrongFalsely : Prop := creditWholeRow.holds Try.pinned (OpenSpec.ofChange creditWholeWrong)

/-- 'partylinelaw17.CreditNone': WHATEVER THE INPUT: true; the input reads as it did. -/
def creditNoneSpec : ChangeSpec := { name := "creditNone", fn := fun _ => fun
  | [d] => { results := [.lit (.bool true)], args := [d] }
  | _ => none }
def creditNoneRow : OpenClaim := { program := "ytaeinccehkofgaa", sum := "fd8a34b37c31ed5bedde988c670ea0c923fc7acb972a758842f680b94dd7ee87", func := "partyline/partylinelaw17.CreditNone", spec := "creditNone", apart := false }
def CreditNoneSaid : Prop := creditNoneRow.holds Try.pinned (OpenSpec.ofChange creditNoneSpec)

/-- ITS FALSE NEIGHBOUR: 'it returns false'. Refute it at one input. -/
def creditNoneWrong : ChangeSpec := { name := "creditNone", fn := fun _ => fun
  | [d] => { results := [.lit (.bool false)], args := [d] }
  | _ => none }
def CreditNoneWrongFalsely : Prop := creditNoneRow.holds Try.pinned (OpenSpec.ofChange creditNoneWrong)

/-- 'partylinelaw17.CreditKnown': WHATEVER THE INPUT: true; the input reads as it did. -/
def creditKnownSpec : ChangeSpec := { name := "creditKnown", fn := fun _ => fun
  | [] => { results := [.lit (.bool true)], args := [] }
  | _ => none }
def creditKnownRow : OpenClaim := { program := "ytaeinccehkofgaa", sum := "fd8a34b37c31ed5bedde988c670ea0c923fc7acb972a758842f680b94dd7ee87", func := "partyline/partylinelaw17.CreditKnown", spec := "creditKnown", apart := false }
def CreditKnownSaid : Prop := creditKnownRow.holds Try.pinned (OpenSpec.ofChange creditKnownSpec)

/-- ITS FALSE NEIGHBOUR: 'it returns false'. Refute it at one input. -/
def creditKnownWrong : ChangeSpec := { name := "creditKnown", fn := fun _ => fun
  | [] => { results := [.lit (.bool false)], args := [] }
  | _ => none }
def CreditKnownWrongFalsely : Prop := creditKnownRow.holds Try.pinned (OpenSpec.ofChange creditKnownWrong)

/- THE SECOND FORM. 'bulk': how many values and letters a reading holds, each counted each time it is reached (what is shared counts as often as it is met; a slice's spare places count too). A statement '..UptoSaid' is the law's where the arguments, and the package variables that the reading takes, are together of bulk at most 1048576: NARROWER than '..Said'. Prove '..Said' where nothing that the law and all that it calls make is longer than what came in: it says more and counts as full. Else prove '..UptoSaid'. A law counts once. -/
mutual
def uptoBulk {H : Type} : DataW H → Nat
  | .lit (.string bytes) => bytes.length + 1
  | .lit _ => 1
  | .nil => 1
  | .ptr d => uptoBulk d + 1
  | .slice elems spare => uptoBulkAll elems + uptoBulkAll spare + 1
  | .agg parts => uptoBulkAll parts + 1
  | .iface _ d => uptoBulk d + 1
  | .map entries => uptoBulkEntries entries + 1
  | .held _ => 1
def uptoBulkAll {H : Type} : List (DataW H) → Nat
  | [] => 0
  | d :: r => uptoBulk d + uptoBulkAll r
def uptoBulkEntries {H : Type} : List (Lit × DataW H) → Nat
  | [] => 0
  | x :: r => uptoBulkEntry x + uptoBulkEntries r
def uptoBulkEntry {H : Type} : Lit × DataW H → Nat
  | (.string bytes, d) => bytes.length + uptoBulk d + 1
  | (_, d) => uptoBulk d + 1
 end
def uptoSmall : (H : Type) → List (DataW H) → Bool := fun _ ds => decide (uptoBulkAll ds ≤ 1048576)
def OpenSpec.upto (s : _root_.Go.ChangeSpec) : _root_.Go.OpenSpec := { _root_.Go.OpenSpec.ofChange s with cond := some uptoSmall }

/-- 'partylinelaw17.CreditPlays', WHERE WHAT IT READS IS OF BULK AT MOST 1048576: true; the input reads as it did. -/
def creditPlaysUptoRow : OpenClaim := { program := "ytaeinccehkofgaa", sum := "fd8a34b37c31ed5bedde988c670ea0c923fc7acb972a758842f680b94dd7ee87", func := "partyline/partylinelaw17.CreditPlays", spec := "creditPlays", apart := false, narrowed := true }
def CreditPlaysUptoSaid : Prop := creditPlaysUptoRow.holds Try.pinned (OpenSpec.upto creditPlaysSpec)

/-- 'partylinelaw17.CreditWhole', WHERE WHAT IT READS IS OF BULK AT MOST 1048576: true; the input reads as it did. -/
def creditWholeUptoRow : OpenClaim := { program := "ytaeinccehkofgaa", sum := "fd8a34b37c31ed5bedde988c670ea0c923fc7acb972a758842f680b94dd7ee87", func := "partyline/partylinelaw17.CreditWhole", spec := "creditWhole", apart := false, narrowed := true }
def CreditWholeUptoSaid : Prop := creditWholeUptoRow.holds Try.pinned (OpenSpec.upto creditWholeSpec)

/-- 'partylinelaw17.CreditNone', WHERE WHAT IT READS IS OF BULK AT MOST 1048576: true; the input reads as it did. -/
def creditNoneUptoRow : OpenClaim := { program := "ytaeinccehkofgaa", sum := "fd8a34b37c31ed5bedde988c670ea0c923fc7acb972a758842f680b94dd7ee87", func := "partyline/partylinelaw17.CreditNone", spec := "creditNone", apart := false, narrowed := true }
def CreditNoneUptoSaid : Prop := creditNoneUptoRow.holds Try.pinned (OpenSpec.upto creditNoneSpec)

/-- 'partylinelaw17.CreditKnown', WHERE WHAT IT READS IS OF BULK AT MOST 1048576: true; the input reads as it did. -/
def creditKnownUptoRow : OpenClaim := { program := "ytaeinccehkofgaa", sum := "fd8a34b37c31ed5bedde988c670ea0c923fc7acb972a758842f680b94dd7ee87", func := "partyline/partylinelaw17.CreditKnown", spec := "creditKnown", apart := false, narrowed := true }
def CreditKnownUptoSaid : Prop := creditKnownUptoRow.holds Try.pinned (OpenSpec.upto creditKnownSpec)

end Rows
end Go.Proofs.Ytaeinccehkofgaa
