/-
  No cell of these rows narrows 'for every input' (looked for: loops, veiled, ifaces, maps, wideKeys, modest, calm, conditions, laid).
  DERIVED. THE GIVEN ROWS OF THIS SEAT. 4 by the template 'for every input the law returns true; each argument reads behind the call as it read before'; 0 by the template 'total and deterministic' (their statements: YtiicgfkcjpeiiaaTotals.lean).
  GIVEN WITH THE SEED: the statements are not yours to turn. If you find one false, say at which input.
  Laid BY PROGRAM, IN A SANDBOX (cutbox-rows.mjs): the forced cells as the released guide's own fill.sh prints them over the translation 56dd4d4b42e347e4… (all of the seat's roots in one cut). By AI agents, Wed Nov 11 2026. No macro, syntax, notation, axiom, sorry.
-/
import Derived.Test.YtiicgfkcjpeiiaaChecked
import GoSem.Claim
import GoSem.ClaimJoined
import GoSem.ClaimMapViews
import Derived.JoinedTies
import Derived.KernelRfl
namespace Go.Proofs.Ytiicgfkcjpeiiaa
/- THE CELL 'sum', in the pinned program and in every row, IS THE sha256 OF THE DUMP (.gsa) THAT YtiicgfkcjpeiiaaProg.lean LOADS. Nothing in Lean hashes anything: it is a label: what it is worth is what the hold of that sum in a sandbox is worth. -/
noncomputable def Try.pinned : Pinned := { name := "ytiicgfkcjpeiiaa", sum := "56dd4d4b42e347e4b1dcdecef213ebb9e2960da713408c589dfa924e8bf6d813", checked := Try.checked }
namespace Rows
def none {H : Type} : Left H := { results := [], args := [] }

/-- 'partylinelaw20.PrioPlays': WHATEVER THE INPUT: true; the input reads as it did. -/
def prioPlaysSpec : ChangeSpec := { name := "prioPlays", fn := fun _ => fun
  | [d] => { results := [.lit (.bool true)], args := [d] }
  | _ => none }
def prioPlaysRow : OpenClaim := { program := "ytiicgfkcjpeiiaa", sum := "56dd4d4b42e347e4b1dcdecef213ebb9e2960da713408c589dfa924e8bf6d813", func := "partyline/partylinelaw20.PrioPlays", spec := "prioPlays", unfollowed := true, recurses := true, apart := false }
def PrioPlaysSaid : Prop := prioPlaysRow.holds Try.pinned (OpenSpec.ofChange prioPlaysSpec)

/-- ITS FALSE NEIGHBOUR: 'it returns false'. Refute it at one input. -/
def prioPlaysWrong : ChangeSpec := { name := "prioPlays", fn := fun _ => fun
  | [d] => { results := [.lit (.bool false)], args := [d] }
  | _ => none }
def PrioPlaysWrongFalsely : Prop := prioPlaysRow.holds Try.pinned (OpenSpec.ofChange prioPlaysWrong)

/-- 'partylinelaw20.PrioFair': WHATEVER THE INPUT: true; the input reads as it did. -/
def prioFairSpec : ChangeSpec := { name := "prioFair", fn := fun _ => fun
  | [d] => { results := [.lit (.bool true)], args := [d] }
  | _ => none }
def prioFairRow : OpenClaim := { program := "ytiicgfkcjpeiiaa", sum := "56dd4d4b42e347e4b1dcdecef213ebb9e2960da713408c589dfa924e8bf6d813", func := "partyline/partylinelaw20.PrioFair", spec := "prioFair", unfollowed := true, recurses := true, apart := false }
def PrioFairSaid : Prop := prioFairRow.holds Try.pinned (OpenSpec.ofChange prioFairSpec)

/-- ITS FALSE NEIGHBOUR: 'it returns false'. Refute it at one input. -/
def prioFairWrong : ChangeSpec := { name := "prioFair", fn := fun _ => fun
  | [d] => { results := [.lit (.bool false)], args := [d] }
  | _ => none }
def PrioFairWrongFalsely : Prop := prioFairRow.holds Try.pinned (OpenSpec.ofChange prioFairWrong)

/-- 'partylinelaw20.PrioApart': WHATEVER THE INPUT: true; the input reads as it did. -/
def prioApartSpec : ChangeSpec := { name := "prioApart", fn := fun _ => fun
  | [d1, d2] => { results := [.lit (.bool true)], args := [d1, d2] }
  | _ => none }
def prioApartRow : OpenClaim := { program := "ytiicgfkcjpeiiaa", sum := "56dd4d4b42e347e4b1dcdecef213ebb9e2960da713408c589dfa924e8bf6d813", func := "partyline/partylinelaw20.PrioApart", spec := "prioApart", unfollowed := true, recurses := true, apart := false }
def PrioApartSaid : Prop := prioApartRow.holds Try.pinned (OpenSpec.ofChange prioApartSpec)

/-- ITS FALSE NEIGHBOUR: 'it returns false'. Refute it at one input. -/
def prioApartWrong : ChangeSpec := { name := "prioApart", fn := fun _ => fun
  | [d1, d2] => { results := [.lit (.bool false)], args := [d1, d2] }
  | _ => none }
def PrioApartWrongFalsely : Prop := prioApartRow.holds Try.pinned (OpenSpec.ofChange prioApartWrong)

/-- 'partylinelaw20.PrioKnown': WHATEVER THE INPUT: true; the input reads as it did. -/
def prioKnownSpec : ChangeSpec := { name := "prioKnown", fn := fun _ => fun
  | [] => { results := [.lit (.bool true)], args := [] }
  | _ => none }
def prioKnownRow : OpenClaim := { program := "ytiicgfkcjpeiiaa", sum := "56dd4d4b42e347e4b1dcdecef213ebb9e2960da713408c589dfa924e8bf6d813", func := "partyline/partylinelaw20.PrioKnown", spec := "prioKnown", unfollowed := true, recurses := true, apart := false }
def PrioKnownSaid : Prop := prioKnownRow.holds Try.pinned (OpenSpec.ofChange prioKnownSpec)

/-- ITS FALSE NEIGHBOUR: 'it returns false'. Refute it at one input. -/
def prioKnownWrong : ChangeSpec := { name := "prioKnown", fn := fun _ => fun
  | [] => { results := [.lit (.bool false)], args := [] }
  | _ => none }
def PrioKnownWrongFalsely : Prop := prioKnownRow.holds Try.pinned (OpenSpec.ofChange prioKnownWrong)

/- THE SECOND FORM. 'bulk': how many values and letters a reading holds, each counted each time it is reached (what is shared counts as often as it is met; a slice's spare places count too). A statement '..UptoSaid' is the law's where the arguments, and the package variables that the reading takes, are together of bulk at most 1048576: NARROWER than '..Said'. Prove '..Said' where nothing that the law and all that it calls make is longer than what came in: it says more and counts as full. Else prove '..UptoSaid'. A law counts once. -/
mutual
def uptoBulk {H : Type} : DataW H → Nat
  | .lit (.string bytes) => bytes.length + 1
  | .lit _ => 1
  | .nil => 1
  | .ptr d => uptoBulk d + 1
  | .slice elems spare => uptoBulkAll elems + uptoBulkAll spare + 1
  | .agg parts => uptoBulkAll parts + 1
  | .iface _ d => uptoBulk d + 1
  | .map entries => uptoBulkEntries entries + 1
  | .held _ => 1
def uptoBulkAll {H : Type} : List (DataW H) → Nat
  | [] => 0
  | d :: r => uptoBulk d + uptoBulkAll r
def uptoBulkEntries {H : Type} : List (Lit × DataW H) → Nat
  | [] => 0
  | x :: r => uptoBulkEntry x + uptoBulkEntries r
def uptoBulkEntry {H : Type} : Lit × DataW H → Nat
  | (.string bytes, d) => bytes.length + uptoBulk d + 1
  | (_, d) => uptoBulk d + 1
 end
def uptoSmall : (H : Type) → List (DataW H) → Bool := fun _ ds => decide (uptoBulkAll ds ≤ 1048576)
def OpenSpec.upto (s : _root_.Go.ChangeSpec) : _root_.Go.OpenSpec := { _root_.Go.OpenSpec.ofChange s with cond := some uptoSmall }

/-- 'partylinelaw20.PrioPlays', WHERE WHAT IT READS IS OF BULK AT MOST 1048576: true; the input reads as it did. -/
def prioPlaysUptoRow : OpenClaim := { program := "ytiicgfkcjpeiiaa", sum := "56dd4d4b42e347e4b1dcdecef213ebb9e2960da713408c589dfa924e8bf6d813", func := "partyline/partylinelaw20.PrioPlays", spec := "prioPlays", unfollowed := true, recurses := true, apart := false, narrowed := true }
def PrioPlaysUptoSaid : Prop := prioPlaysUptoRow.holds Try.pinned (OpenSpec.upto prioPlaysSpec)

/-- 'partylinelaw20.PrioFair', WHERE WHAT IT READS IS OF BULK AT MOST 1048576: true; the input reads as it did. -/
def prioFairUptoRow : OpenClaim := { program := "ytiicgfkcjpeiiaa", sum := "56dd4d4b42e347e4b1dcdecef213ebb9e2960da713408c589dfa924e8bf6d813", func := "partyline/partylinelaw20.PrioFair", spec := "prioFair", unfollowed := true, recurses := true, apart := false, narrowed := true }
def PrioFairUptoSaid : Prop := prioFairUptoRow.holds Try.pinned (OpenSpec.upto prioFairSpec)

/-- 'partylinelaw20.PrioApart', WHERE WHAT IT READS IS OF BULK AT MOST 1048576: true; the input reads as it did. -/
def prioApartUptoRow : OpenClaim := { program := "ytiicgfkcjpeiiaa", sum := "56dd4d4b42e347e4b1dcdecef213ebb9e2960da713408c589dfa924e8bf6d813", func := "partyline/partylinelaw20.PrioApart", spec := "prioApart", unfollowed := true, recurses := true, apart := false, narrowed := true }
def PrioApartUptoSaid : Prop := prioApartUptoRow.holds Try.pinned (OpenSpec.upto prioApartSpec)

/-- 'partylinelaw20.PrioKnown', WHERE WHAT IT READS IS OF BULK AT MOST 1048576: true; the input reads as it did. -/
def prioKnownUptoRow : OpenClaim := { program := "ytiicgfkcjpeiiaa", sum := "56dd4d4b42e347e4b1dcdecef213ebb9e2960da713408c589dfa924e8bf6d813", func := "partyline/partylinelaw20.PrioKnown", spec := "prioKnown", unfollowed := true, recurses := true, apart := false, narrowed := true }
def PrioKnownUptoSaid : Prop := prioKnownUptoRow.holds Try.pinned (OpenSpec.upto prioKnownSpec)

end Rows
end Go.Proofs.Ytiicgfkcjpeiiaa
