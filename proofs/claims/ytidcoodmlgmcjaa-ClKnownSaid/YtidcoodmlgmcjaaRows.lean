/-
  No cell of these rows narrows 'for every input' (looked for: loops, veiled, ifaces, maps, wideKeys, modest, calm, conditions, laid).
  DERIVED. THE GIVEN ROWS OF THIS SEAT. 5 by the template 'for every input the law returns true; each argument reads behind the call as it read before'; 0 by the template 'total and deterministic' (their statements: YtidcoodmlgmcjaaTotals.lean).
  GIVEN WITH THE SEED: the statements are not yours to turn. If you find one false, say at which input.
  Laid BY PROGRAM, IN A SANDBOX (cutbox-rows.mjs): the forced cells as the released guide's own fill.sh prints them over the translation 74afb3c98d42851b… (all of the seat's roots in one cut). By AI agents, Wed Nov 11 2026. No macro, syntax, notation, axiom, sorry.
-/
import Derived.Test.YtidcoodmlgmcjaaChecked
import GoSem.Claim
import GoSem.ClaimJoined
import GoSem.ClaimMapViews
import Derived.JoinedTies
import Derived.KernelRfl
namespace Go.Proofs.Ytidcoodmlgmcjaa
/- THE CELL 'sum', in the pinned program and in every row, IS THE sha256 OF THE DUMP (.gsa) THAT YtidcoodmlgmcjaaProg.lean LOADS. Nothing in Lean hashes anything: it is a label: what it is worth is what the hold of that sum in a sandbox is worth. -/
noncomputable def Try.pinned : Pinned := { name := "ytidcoodmlgmcjaa", sum := "74afb3c98d42851b576ac273e48a0d6d71139fcfb006b643bad68a25f6c3dcc9", checked := Try.checked }
namespace Rows
def none {H : Type} : Left H := { results := [], args := [] }

/-- 'partylinelaw16.ClSplit': WHATEVER THE INPUT: true; the input reads as it did. -/
def clSplitSpec : ChangeSpec := { name := "clSplit", fn := fun _ => fun
  | [d1, d2] => { results := [.lit (.bool true)], args := [d1, d2] }
  | _ => none }
def clSplitRow : OpenClaim := { program := "ytidcoodmlgmcjaa", sum := "74afb3c98d42851b576ac273e48a0d6d71139fcfb006b643bad68a25f6c3dcc9", func := "partyline/partylinelaw16.ClSplit", spec := "clSplit", inPlace := ["internal/abi.NoEscape", "internal/bytealg.MakeNoZero"], unfollowed := true, recurses := true, apart := false }
def ClSplitSaid : Prop := clSplitRow.holds Try.pinned (OpenSpec.ofChange clSplitSpec)

/-- ITS FALSE NEIGHBOUR: 'it returns false'. Refute it at one input. -/
def clSplitWrong : ChangeSpec := { name := "clSplit", fn := fun _ => fun
  | [d1, d2] => { results := [.lit (.bool false)], args := [d1, d2] }
  | _ => none }
def ClSplitWrongFalsely : Prop := clSplitRow.holds Try.pinned (OpenSpec.ofChange clSplitWrong)

/-- 'partylinelaw16.ClJoin': WHATEVER THE INPUT: true; the input reads as it did. -/
def clJoinSpec : ChangeSpec := { name := "clJoin", fn := fun _ => fun
  | [d] => { results := [.lit (.bool true)], args := [d] }
  | _ => none }
def clJoinRow : OpenClaim := { program := "ytidcoodmlgmcjaa", sum := "74afb3c98d42851b576ac273e48a0d6d71139fcfb006b643bad68a25f6c3dcc9", func := "partyline/partylinelaw16.ClJoin", spec := "clJoin", inPlace := ["internal/abi.NoEscape", "internal/bytealg.MakeNoZero"], unfollowed := true, recurses := true, apart := false }
def ClJoinSaid : Prop := clJoinRow.holds Try.pinned (OpenSpec.ofChange clJoinSpec)

/-- ITS FALSE NEIGHBOUR: 'it returns false'. Refute it at one input. -/
def clJoinWrong : ChangeSpec := { name := "clJoin", fn := fun _ => fun
  | [d] => { results := [.lit (.bool false)], args := [d] }
  | _ => none }
def ClJoinWrongFalsely : Prop := clJoinRow.holds Try.pinned (OpenSpec.ofChange clJoinWrong)

/-- 'partylinelaw16.ClBack': WHATEVER THE INPUT: true; the input reads as it did. -/
def clBackSpec : ChangeSpec := { name := "clBack", fn := fun _ => fun
  | [d1, d2] => { results := [.lit (.bool true)], args := [d1, d2] }
  | _ => none }
def clBackRow : OpenClaim := { program := "ytidcoodmlgmcjaa", sum := "74afb3c98d42851b576ac273e48a0d6d71139fcfb006b643bad68a25f6c3dcc9", func := "partyline/partylinelaw16.ClBack", spec := "clBack", inPlace := ["internal/abi.NoEscape", "internal/bytealg.MakeNoZero"], unfollowed := true, recurses := true, apart := false }
def ClBackSaid : Prop := clBackRow.holds Try.pinned (OpenSpec.ofChange clBackSpec)

/-- ITS FALSE NEIGHBOUR: 'it returns false'. Refute it at one input. -/
def clBackWrong : ChangeSpec := { name := "clBack", fn := fun _ => fun
  | [d1, d2] => { results := [.lit (.bool false)], args := [d1, d2] }
  | _ => none }
def ClBackWrongFalsely : Prop := clBackRow.holds Try.pinned (OpenSpec.ofChange clBackWrong)

/-- 'partylinelaw16.ClFew': WHATEVER THE INPUT: true; the input reads as it did. -/
def clFewSpec : ChangeSpec := { name := "clFew", fn := fun _ => fun
  | [d1, d2] => { results := [.lit (.bool true)], args := [d1, d2] }
  | _ => none }
def clFewRow : OpenClaim := { program := "ytidcoodmlgmcjaa", sum := "74afb3c98d42851b576ac273e48a0d6d71139fcfb006b643bad68a25f6c3dcc9", func := "partyline/partylinelaw16.ClFew", spec := "clFew", inPlace := ["internal/abi.NoEscape", "internal/bytealg.MakeNoZero"], unfollowed := true, recurses := true, apart := false }
def ClFewSaid : Prop := clFewRow.holds Try.pinned (OpenSpec.ofChange clFewSpec)

/-- ITS FALSE NEIGHBOUR: 'it returns false'. Refute it at one input. -/
def clFewWrong : ChangeSpec := { name := "clFew", fn := fun _ => fun
  | [d1, d2] => { results := [.lit (.bool false)], args := [d1, d2] }
  | _ => none }
def ClFewWrongFalsely : Prop := clFewRow.holds Try.pinned (OpenSpec.ofChange clFewWrong)

/-- 'partylinelaw16.ClKnown': WHATEVER THE INPUT: true; the input reads as it did. -/
def clKnownSpec : ChangeSpec := { name := "clKnown", fn := fun _ => fun
  | [] => { results := [.lit (.bool true)], args := [] }
  | _ => none }
def clKnownRow : OpenClaim := { program := "ytidcoodmlgmcjaa", sum := "74afb3c98d42851b576ac273e48a0d6d71139fcfb006b643bad68a25f6c3dcc9", func := "partyline/partylinelaw16.ClKnown", spec := "clKnown", inPlace := ["internal/abi.NoEscape", "internal/bytealg.MakeNoZero"], unfollowed := true, recurses := true, apart := false }
def ClKnownSaid : Prop := clKnownRow.holds Try.pinned (OpenSpec.ofChange clKnownSpec)

/-- ITS FALSE NEIGHBOUR: 'it returns false'. Refute it at one input. -/
def clKnownWrong : ChangeSpec := { name := "clKnown", fn := fun _ => fun
  | [] => { results := [.lit (.bool false)], args := [] }
  | _ => none }
def ClKnownWrongFalsely : Prop := clKnownRow.holds Try.pinned (OpenSpec.ofChange clKnownWrong)

/- THE SECOND FORM. 'bulk': how many values and letters a reading holds, each counted each time it is reached (what is shared counts as often as it is met; a slice's spare places count too). A statement '..UptoSaid' is the law's where the arguments, and the package variables that the reading takes, are together of bulk at most 1048576: NARROWER than '..Said'. Prove '..Said' where nothing that the law and all that it calls make is longer than what came in: it says more and counts as full. Else prove '..UptoSaid'. A law counts once. -/
mutual
def uptoBulk {H : Type} : DataW H → Nat
  | .lit (.string bytes) => bytes.length + 1
  | .lit _ => 1
  | .nil => 1
  | .ptr d => uptoBulk d + 1
  | .slice elems spare => uptoBulkAll elems + uptoBulkAll spare + 1
  | .agg parts => uptoBulkAll parts + 1
  | .iface _ d => uptoBulk d + 1
  | .map entries => uptoBulkEntries entries + 1
  | .held _ => 1
def uptoBulkAll {H : Type} : List (DataW H) → Nat
  | [] => 0
  | d :: r => uptoBulk d + uptoBulkAll r
def uptoBulkEntries {H : Type} : List (Lit × DataW H) → Nat
  | [] => 0
  | x :: r => uptoBulkEntry x + uptoBulkEntries r
def uptoBulkEntry {H : Type} : Lit × DataW H → Nat
  | (.string bytes, d) => bytes.length + uptoBulk d + 1
  | (_, d) => uptoBulk d + 1
 end
def uptoSmall : (H : Type) → List (DataW H) → Bool := fun _ ds => decide (uptoBulkAll ds ≤ 1048576)
def OpenSpec.upto (s : _root_.Go.ChangeSpec) : _root_.Go.OpenSpec := { _root_.Go.OpenSpec.ofChange s with cond := some uptoSmall }

/-- 'partylinelaw16.ClSplit', WHERE WHAT IT READS IS OF BULK AT MOST 1048576: true; the input reads as it did. -/
def clSplitUptoRow : OpenClaim := { program := "ytidcoodmlgmcjaa", sum := "74afb3c98d42851b576ac273e48a0d6d71139fcfb006b643bad68a25f6c3dcc9", func := "partyline/partylinelaw16.ClSplit", spec := "clSplit", inPlace := ["internal/abi.NoEscape", "internal/bytealg.MakeNoZero"], unfollowed := true, recurses := true, apart := false, narrowed := true }
def ClSplitUptoSaid : Prop := clSplitUptoRow.holds Try.pinned (OpenSpec.upto clSplitSpec)

/-- 'partylinelaw16.ClJoin', WHERE WHAT IT READS IS OF BULK AT MOST 1048576: true; the input reads as it did. -/
def clJoinUptoRow : OpenClaim := { program := "ytidcoodmlgmcjaa", sum := "74afb3c98d42851b576ac273e48a0d6d71139fcfb006b643bad68a25f6c3dcc9", func := "partyline/partylinelaw16.ClJoin", spec := "clJoin", inPlace := ["internal/abi.NoEscape", "internal/bytealg.MakeNoZero"], unfollowed := true, recurses := true, apart := false, narrowed := true }
def ClJoinUptoSaid : Prop := clJoinUptoRow.holds Try.pinned (OpenSpec.upto clJoinSpec)

/-- 'partylinelaw16.ClBack', WHERE WHAT IT READS IS OF BULK AT MOST 1048576: true; the input reads as it did. -/
def clBackUptoRow : OpenClaim := { program := "ytidcoodmlgmcjaa", sum := "74afb3c98d42851b576ac273e48a0d6d71139fcfb006b643bad68a25f6c3dcc9", func := "partyline/partylinelaw16.ClBack", spec := "clBack", inPlace := ["internal/abi.NoEscape", "internal/bytealg.MakeNoZero"], unfollowed := true, recurses := true, apart := false, narrowed := true }
def ClBackUptoSaid : Prop := clBackUptoRow.holds Try.pinned (OpenSpec.upto clBackSpec)

/-- 'partylinelaw16.ClFew', WHERE WHAT IT READS IS OF BULK AT MOST 1048576: true; the input reads as it did. -/
def clFewUptoRow : OpenClaim := { program := "ytidcoodmlgmcjaa", sum := "74afb3c98d42851b576ac273e48a0d6d71139fcfb006b643bad68a25f6c3dcc9", func := "partyline/partylinelaw16.ClFew", spec := "clFew", inPlace := ["internal/abi.NoEscape", "internal/bytealg.MakeNoZero"], unfollowed := true, recurses := true, apart := false, narrowed := true }
def ClFewUptoSaid : Prop := clFewUptoRow.holds Try.pinned (OpenSpec.upto clFewSpec)

/-- 'partylinelaw16.ClKnown', WHERE WHAT IT READS IS OF BULK AT MOST 1048576: true; the input reads as it did. -/
def clKnownUptoRow : OpenClaim := { program := "ytidcoodmlgmcjaa", sum := "74afb3c98d42851b576ac273e48a0d6d71139fcfb006b643bad68a25f6c3dcc9", func := "partyline/partylinelaw16.ClKnown", spec := "clKnown", inPlace := ["internal/abi.NoEscape", "internal/bytealg.MakeNoZero"], unfollowed := true, recurses := true, apart := false, narrowed := true }
def ClKnownUptoSaid : Prop := clKnownUptoRow.holds Try.pinned (OpenSpec.upto clKnownSpec)

end Rows
end Go.Proofs.Ytidcoodmlgmcjaa
