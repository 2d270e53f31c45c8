/-
  No cell of these rows narrows 'for every input' (looked for: loops, veiled, ifaces, maps, wideKeys, modest, calm, conditions, laid).
  DERIVED. THE GIVEN ROWS OF THIS SEAT. 6 by the template 'for every input the law returns true; each argument reads behind the call as it read before'; 0 by the template 'total and deterministic' (their statements: YtfflbaiddiahnaaTotals.lean).
  GIVEN WITH THE SEED: the statements are not yours to turn. If you find one false, say at which input.
  Laid BY PROGRAM, IN A SANDBOX (cutbox-rows.mjs): the forced cells as the released guide's own fill.sh prints them over the translation 37a0e01e26def9c7… (all of the seat's roots in one cut). By AI agents, Wed Nov 11 2026. No macro, syntax, notation, axiom, sorry.
-/
import Derived.Test.YtfflbaiddiahnaaChecked
import GoSem.Claim
import GoSem.ClaimJoined
import GoSem.ClaimMapViews
import Derived.JoinedTies
import Derived.KernelRfl
namespace Go.Proofs.Ytfflbaiddiahnaa
/- THE CELL 'sum', in the pinned program and in every row, IS THE sha256 OF THE DUMP (.gsa) THAT YtfflbaiddiahnaaProg.lean LOADS. Nothing in Lean hashes anything: it is a label: what it is worth is what the hold of that sum in a sandbox is worth. -/
noncomputable def Try.pinned : Pinned := { name := "ytfflbaiddiahnaa", sum := "37a0e01e26def9c7e9919bdf8730093e450cdecda8954fe63d7a8abc1a95b6b3", checked := Try.checked }
namespace Rows
def none {H : Type} : Left H := { results := [], args := [] }

/-- 'partylinelaw14.LinkPlays': WHATEVER THE INPUT: true; the input reads as it did. -/
def linkPlaysSpec : ChangeSpec := { name := "linkPlays", fn := fun _ => fun
  | [d1, d2] => { results := [.lit (.bool true)], args := [d1, d2] }
  | _ => none }
def linkPlaysRow : OpenClaim := { program := "ytfflbaiddiahnaa", sum := "37a0e01e26def9c7e9919bdf8730093e450cdecda8954fe63d7a8abc1a95b6b3", func := "partyline/partylinelaw14.LinkPlays", spec := "linkPlays", unfollowed := true, recurses := true, apart := false }
def LinkPlaysSaid : Prop := linkPlaysRow.holds Try.pinned (OpenSpec.ofChange linkPlaysSpec)

/-- ITS FALSE NEIGHBOUR: 'it returns false'. Refute it at one input. -/
def linkPlaysWrong : ChangeSpec := { name := "linkPlays", fn := fun _ => fun
  | [d1, d2] => { results := [.lit (.bool false)], args := [d1, d2] }
  | _ => none }
def LinkPlaysWrongFalsely : Prop := linkPlaysRow.holds Try.pinned (OpenSpec.ofChange linkPlaysWrong)

/-- 'partylinelaw14.LinkMeets': WHATEVER THE INPUT: true; the input reads as it did. -/
def linkMeetsSpec : ChangeSpec := { name := "linkMeets", fn := fun _ => fun
  | [d1, d2, d3, d4, d5] => { results := [.lit (.bool true)], args := [d1, d2, d3, d4, d5] }
  | _ => none }
def linkMeetsRow : OpenClaim := { program := "ytfflbaiddiahnaa", sum := "37a0e01e26def9c7e9919bdf8730093e450cdecda8954fe63d7a8abc1a95b6b3", func := "partyline/partylinelaw14.LinkMeets", spec := "linkMeets", unfollowed := true, recurses := true, apart := false }
def LinkMeetsSaid : Prop := linkMeetsRow.holds Try.pinned (OpenSpec.ofChange linkMeetsSpec)

/-- ITS FALSE NEIGHBOUR: 'it returns false'. Refute it at one input. -/
def linkMeetsWrong : ChangeSpec := { name := "linkMeets", fn := fun _ => fun
  | [d1, d2, d3, d4, d5] => { results := [.lit (.bool false)], args := [d1, d2, d3, d4, d5] }
  | _ => none }
def LinkMeetsWrongFalsely : Prop := linkMeetsRow.holds Try.pinned (OpenSpec.ofChange linkMeetsWrong)

/-- 'partylinelaw14.LinkGives': WHATEVER THE INPUT: true; the input reads as it did. -/
def linkGivesSpec : ChangeSpec := { name := "linkGives", fn := fun _ => fun
  | [d1, d2] => { results := [.lit (.bool true)], args := [d1, d2] }
  | _ => none }
def linkGivesRow : OpenClaim := { program := "ytfflbaiddiahnaa", sum := "37a0e01e26def9c7e9919bdf8730093e450cdecda8954fe63d7a8abc1a95b6b3", func := "partyline/partylinelaw14.LinkGives", spec := "linkGives", unfollowed := true, recurses := true, apart := false }
def LinkGivesSaid : Prop := linkGivesRow.holds Try.pinned (OpenSpec.ofChange linkGivesSpec)

/-- ITS FALSE NEIGHBOUR: 'it returns false'. Refute it at one input. -/
def linkGivesWrong : ChangeSpec := { name := "linkGives", fn := fun _ => fun
  | [d1, d2] => { results := [.lit (.bool false)], args := [d1, d2] }
  | _ => none }
def LinkGivesWrongFalsely : Prop := linkGivesRow.holds Try.pinned (OpenSpec.ofChange linkGivesWrong)

/-- 'partylinelaw14.LinkSays': WHATEVER THE INPUT: true; the input reads as it did. -/
def linkSaysSpec : ChangeSpec := { name := "linkSays", fn := fun _ => fun
  | [d1, d2] => { results := [.lit (.bool true)], args := [d1, d2] }
  | _ => none }
def linkSaysRow : OpenClaim := { program := "ytfflbaiddiahnaa", sum := "37a0e01e26def9c7e9919bdf8730093e450cdecda8954fe63d7a8abc1a95b6b3", func := "partyline/partylinelaw14.LinkSays", spec := "linkSays", unfollowed := true, recurses := true, apart := false }
def LinkSaysSaid : Prop := linkSaysRow.holds Try.pinned (OpenSpec.ofChange linkSaysSpec)

/-- ITS FALSE NEIGHBOUR: 'it returns false'. Refute it at one input. -/
def linkSaysWrong : ChangeSpec := { name := "linkSays", fn := fun _ => fun
  | [d1, d2] => { results := [.lit (.bool false)], args := [d1, d2] }
  | _ => none }
def LinkSaysWrongFalsely : Prop := linkSaysRow.holds Try.pinned (OpenSpec.ofChange linkSaysWrong)

/-- 'partylinelaw14.LinkNone': WHATEVER THE INPUT: true; the input reads as it did. -/
def linkNoneSpec : ChangeSpec := { name := "linkNone", fn := fun _ => fun
  | [d] => { results := [.lit (.bool true)], args := [d] }
  | _ => none }
def linkNoneRow : OpenClaim := { program := "ytfflbaiddiahnaa", sum := "37a0e01e26def9c7e9919bdf8730093e450cdecda8954fe63d7a8abc1a95b6b3", func := "partyline/partylinelaw14.LinkNone", spec := "linkNone", unfollowed := true, recurses := true, apart := false }
def LinkNoneSaid : Prop := linkNoneRow.holds Try.pinned (OpenSpec.ofChange linkNoneSpec)

/-- ITS FALSE NEIGHBOUR: 'it returns false'. Refute it at one input. -/
def linkNoneWrong : ChangeSpec := { name := "linkNone", fn := fun _ => fun
  | [d] => { results := [.lit (.bool false)], args := [d] }
  | _ => none }
def LinkNoneWrongFalsely : Prop := linkNoneRow.holds Try.pinned (OpenSpec.ofChange linkNoneWrong)

/-- 'partylinelaw14.LinkKnown': WHATEVER THE INPUT: true; the input reads as it did. -/
def linkKnownSpec : ChangeSpec := { name := "linkKnown", fn := fun _ => fun
  | [] => { results := [.lit (.bool true)], args := [] }
  | _ => none }
def linkKnownRow : OpenClaim := { program := "ytfflbaiddiahnaa", sum := "37a0e01e26def9c7e9919bdf8730093e450cdecda8954fe63d7a8abc1a95b6b3", func := "partyline/partylinelaw14.LinkKnown", spec := "linkKnown", unfollowed := true, recurses := true, apart := false }
def LinkKnownSaid : Prop := linkKnownRow.holds Try.pinned (OpenSpec.ofChange linkKnownSpec)

/-- ITS FALSE NEIGHBOUR: 'it returns false'. Refute it at one input. -/
def linkKnownWrong : ChangeSpec := { name := "linkKnown", fn := fun _ => fun
  | [] => { results := [.lit (.bool false)], args := [] }
  | _ => none }
def LinkKnownWrongFalsely : Prop := linkKnownRow.holds Try.pinned (OpenSpec.ofChange linkKnownWrong)

/- THE SECOND FORM. 'bulk': how many values and letters a reading holds, each counted each time it is reached (what is shared counts as often as it is met; a slice's spare places count too). A statement '..UptoSaid' is the law's where the arguments, and the package variables that the reading takes, are together of bulk at most 1048576: NARROWER than '..Said'. Prove '..Said' where nothing that the law and all that it calls make is longer than what came in: it says more and counts as full. Else prove '..UptoSaid'. A law counts once. -/
mutual
def uptoBulk {H : Type} : DataW H → Nat
  | .lit (.string bytes) => bytes.length + 1
  | .lit _ => 1
  | .nil => 1
  | .ptr d => uptoBulk d + 1
  | .slice elems spare => uptoBulkAll elems + uptoBulkAll spare + 1
  | .agg parts => uptoBulkAll parts + 1
  | .iface _ d => uptoBulk d + 1
  | .map entries => uptoBulkEntries entries + 1
  | .held _ => 1
def uptoBulkAll {H : Type} : List (DataW H) → Nat
  | [] => 0
  | d :: r => uptoBulk d + uptoBulkAll r
def uptoBulkEntries {H : Type} : List (Lit × DataW H) → Nat
  | [] => 0
  | x :: r => uptoBulkEntry x + uptoBulkEntries r
def uptoBulkEntry {H : Type} : Lit × DataW H → Nat
  | (.string bytes, d) => bytes.length + uptoBulk d + 1
  | (_, d) => uptoBulk d + 1
 end
def uptoSmall : (H : Type) → List (DataW H) → Bool := fun _ ds => decide (uptoBulkAll ds ≤ 1048576)
def OpenSpec.upto (s : _root_.Go.ChangeSpec) : _root_.Go.OpenSpec := { _root_.Go.OpenSpec.ofChange s with cond := some uptoSmall }

/-- 'partylinelaw14.LinkPlays', WHERE WHAT IT READS IS OF BULK AT MOST 1048576: true; the input reads as it did. -/
def linkPlaysUptoRow : OpenClaim := { program := "ytfflbaiddiahnaa", sum := "37a0e01e26def9c7e9919bdf8730093e450cdecda8954fe63d7a8abc1a95b6b3", func := "partyline/partylinelaw14.LinkPlays", spec := "linkPlays", unfollowed := true, recurses := true, apart := false, narrowed := true }
def LinkPlaysUptoSaid : Prop := linkPlaysUptoRow.holds Try.pinned (OpenSpec.upto linkPlaysSpec)

/-- 'partylinelaw14.LinkMeets', WHERE WHAT IT READS IS OF BULK AT MOST 1048576: true; the input reads as it did. -/
def linkMeetsUptoRow : OpenClaim := { program := "ytfflbaiddiahnaa", sum := "37a0e01e26def9c7e9919bdf8730093e450cdecda8954fe63d7a8abc1a95b6b3", func := "partyline/partylinelaw14.LinkMeets", spec := "linkMeets", unfollowed := true, recurses := true, apart := false, narrowed := true }
def LinkMeetsUptoSaid : Prop := linkMeetsUptoRow.holds Try.pinned (OpenSpec.upto linkMeetsSpec)

/-- 'partylinelaw14.LinkGives', WHERE WHAT IT READS IS OF BULK AT MOST 1048576: true; the input reads as it did. -/
def linkGivesUptoRow : OpenClaim := { program := "ytfflbaiddiahnaa", sum := "37a0e01e26def9c7e9919bdf8730093e450cdecda8954fe63d7a8abc1a95b6b3", func := "partyline/partylinelaw14.LinkGives", spec := "linkGives", unfollowed := true, recurses := true, apart := false, narrowed := true }
def LinkGivesUptoSaid : Prop := linkGivesUptoRow.holds Try.pinned (OpenSpec.upto linkGivesSpec)

/-- 'partylinelaw14.LinkSays', WHERE WHAT IT READS IS OF BULK AT MOST 1048576: true; the input reads as it did. -/
def linkSaysUptoRow : OpenClaim := { program := "ytfflbaiddiahnaa", sum := "37a0e01e26def9c7e9919bdf8730093e450cdecda8954fe63d7a8abc1a95b6b3", func := "partyline/partylinelaw14.LinkSays", spec := "linkSays", unfollowed := true, recurses := true, apart := false, narrowed := true }
def LinkSaysUptoSaid : Prop := linkSaysUptoRow.holds Try.pinned (OpenSpec.upto linkSaysSpec)

/-- 'partylinelaw14.LinkNone', WHERE WHAT IT READS IS OF BULK AT MOST 1048576: true; the input reads as it did. -/
def linkNoneUptoRow : OpenClaim := { program := "ytfflbaiddiahnaa", sum := "37a0e01e26def9c7e9919bdf8730093e450cdecda8954fe63d7a8abc1a95b6b3", func := "partyline/partylinelaw14.LinkNone", spec := "linkNone", unfollowed := true, recurses := true, apart := false, narrowed := true }
def LinkNoneUptoSaid : Prop := linkNoneUptoRow.holds Try.pinned (OpenSpec.upto linkNoneSpec)

/-- 'partylinelaw14.LinkKnown', WHERE WHAT IT READS IS OF BULK AT MOST 1048576: true; the input reads as it did. -/
def linkKnownUptoRow : OpenClaim := { program := "ytfflbaiddiahnaa", sum := "37a0e01e26def9c7e9919bdf8730093e450cdecda8954fe63d7a8abc1a95b6b3", func := "partyline/partylinelaw14.LinkKnown", spec := "linkKnown", unfollowed := true, recurses := true, apart := false, narrowed := true }
def LinkKnownUptoSaid : Prop := linkKnownUptoRow.holds Try.pinned (OpenSpec.upto linkKnownSpec)

end Rows
end Go.Proofs.Ytfflbaiddiahnaa
