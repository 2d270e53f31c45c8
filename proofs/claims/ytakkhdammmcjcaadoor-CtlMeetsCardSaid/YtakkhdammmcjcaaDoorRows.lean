/-
  NARROWER THAN 'FOR EVERY INPUT', by the rows' own cells (each row's printed sentence says how): CtlMeets: laid · CtlGives: laid · CtlNone: laid.
  DERIVED. THE GIVEN ROWS OF THIS SEAT. 3 by the template 'for every input the law returns true; each argument reads behind the call as it read before'; 0 by the template 'total and deterministic' (their statements: YtakkhdammmcjcaaDoorTotals.lean).
  GIVEN WITH THE SEED: the statements are not yours to turn. If you find one false, say at which input.
  Laid BY PROGRAM, IN A SANDBOX (cutbox-rows.mjs): the forced cells as the released guide's own fill.sh prints them over the translation 91e27994a397fa44… (all of the seat's roots in one cut). By AI agents, Wed Nov 11 2026. No macro, syntax, notation, axiom, sorry.
-/
import Derived.Test.YtakkhdammmcjcaaDoorChecked
import GoSem.Claim
import GoSem.ClaimJoined
import GoSem.ClaimMapViews
import Derived.JoinedTies
import Derived.KernelRfl
namespace Go.Proofs.YtakkhdammmcjcaaDoor
/- THE CELL 'sum', in the pinned program and in every row, IS THE sha256 OF THE DUMP (.gsa) THAT YtakkhdammmcjcaaDoorProg.lean LOADS. Nothing in Lean hashes anything: it is a label: what it is worth is what the hold of that sum in a sandbox is worth. -/
noncomputable def Tryd.pinned : Pinned := { name := "ytakkhdammmcjcaadoor", sum := "91e27994a397fa443c0121747d385a957b708b2d81fa4de053521d05c218ff86", checked := Tryd.checked }
namespace Rows
def none {H : Type} : Left H := { results := [], args := [] }

/- WHAT THE LISTED PACKAGE-LEVEL VARIABLES READ AS WHEN THE CALL BEGINS. Each datum BY PROGRAM (the guide's laid-datum.mjs) off the statement by which the dump's own 'gosem.cut.vars' lays the variable. In a bare row this is a premise. The card (YtakkhdammmcjcaaDoorCards.lean) ties it to the program's text. -/
def laid_partyline_msgs_types {H : Type} : DataW H := .agg [.lit (.int .u8 0), .lit (.int .u8 32), .lit (.int .u8 56), .lit (.int .u8 40), .lit (.int .u8 24), .lit (.int .u8 8), .lit (.int .u8 48), .lit (.int .u8 4)]

/-- 'partylinelaw22.CtlMeets': WHATEVER THE INPUT: true; the input reads as it did. -/
def ctlMeetsSpec : ChangeSpec := { name := "ctlMeets", fn := fun _ => fun
  | [d1, d2, d3, d4] => { results := [.lit (.bool true)], args := [d1, d2, d3, d4] }
  | _ => none }
def ctlMeetsRow : OpenClaim := { program := "ytakkhdammmcjcaadoor", sum := "91e27994a397fa443c0121747d385a957b708b2d81fa4de053521d05c218ff86", func := "partyline/partylinelaw22.CtlMeets", spec := "ctlMeets", unfollowed := true, recurses := true, named := ["partyline/msgs.types"], apart := false, laid := [("partyline/msgs.types", laid_partyline_msgs_types)] }
def CtlMeetsSaid : Prop := ctlMeetsRow.holds Tryd.pinned (OpenSpec.ofChange ctlMeetsSpec)

/-- ITS FALSE NEIGHBOUR: 'it returns false'. Refute it at one input. -/
def ctlMeetsWrong : ChangeSpec := { name := "ctlMeets", fn := fun _ => fun
  | [d1, d2, d3, d4] => { results := [.lit (.bool false)], args := [d1, d2, d3, d4] }
  | _ => none }
def CtlMeetsWrongFalsely : Prop := ctlMeetsRow.holds Tryd.pinned (OpenSpec.ofChange ctlMeetsWrong)

/-- 'partylinelaw22.CtlGives': WHATEVER THE INPUT: true; the input reads as it did. -/
def ctlGivesSpec : ChangeSpec := { name := "ctlGives", fn := fun _ => fun
  | [d1, d2, d3, d4] => { results := [.lit (.bool true)], args := [d1, d2, d3, d4] }
  | _ => none }
def ctlGivesRow : OpenClaim := { program := "ytakkhdammmcjcaadoor", sum := "91e27994a397fa443c0121747d385a957b708b2d81fa4de053521d05c218ff86", func := "partyline/partylinelaw22.CtlGives", spec := "ctlGives", unfollowed := true, recurses := true, named := ["partyline/msgs.types"], apart := false, laid := [("partyline/msgs.types", laid_partyline_msgs_types)] }
def CtlGivesSaid : Prop := ctlGivesRow.holds Tryd.pinned (OpenSpec.ofChange ctlGivesSpec)

/-- ITS FALSE NEIGHBOUR: 'it returns false'. Refute it at one input. -/
def ctlGivesWrong : ChangeSpec := { name := "ctlGives", fn := fun _ => fun
  | [d1, d2, d3, d4] => { results := [.lit (.bool false)], args := [d1, d2, d3, d4] }
  | _ => none }
def CtlGivesWrongFalsely : Prop := ctlGivesRow.holds Tryd.pinned (OpenSpec.ofChange ctlGivesWrong)

/-- 'partylinelaw22.CtlNone': WHATEVER THE INPUT: true; the input reads as it did. -/
def ctlNoneSpec : ChangeSpec := { name := "ctlNone", fn := fun _ => fun
  | [d1, d2] => { results := [.lit (.bool true)], args := [d1, d2] }
  | _ => none }
def ctlNoneRow : OpenClaim := { program := "ytakkhdammmcjcaadoor", sum := "91e27994a397fa443c0121747d385a957b708b2d81fa4de053521d05c218ff86", func := "partyline/partylinelaw22.CtlNone", spec := "ctlNone", unfollowed := true, recurses := true, named := ["partyline/msgs.types"], apart := false, laid := [("partyline/msgs.types", laid_partyline_msgs_types)] }
def CtlNoneSaid : Prop := ctlNoneRow.holds Tryd.pinned (OpenSpec.ofChange ctlNoneSpec)

/-- ITS FALSE NEIGHBOUR: 'it returns false'. Refute it at one input. -/
def ctlNoneWrong : ChangeSpec := { name := "ctlNone", fn := fun _ => fun
  | [d1, d2] => { results := [.lit (.bool false)], args := [d1, d2] }
  | _ => none }
def CtlNoneWrongFalsely : Prop := ctlNoneRow.holds Tryd.pinned (OpenSpec.ofChange ctlNoneWrong)

/- THE SECOND FORM. 'bulk': how many values and letters a reading holds, each counted each time it is reached (what is shared counts as often as it is met; a slice's spare places count too). A statement '..UptoSaid' is the law's where the arguments, and the package variables that the reading takes, are together of bulk at most 1048576: NARROWER than '..Said'. Prove '..Said' where nothing that the law and all that it calls make is longer than what came in: it says more and counts as full. Else prove '..UptoSaid'. A law counts once. -/
mutual
def uptoBulk {H : Type} : DataW H → Nat
  | .lit (.string bytes) => bytes.length + 1
  | .lit _ => 1
  | .nil => 1
  | .ptr d => uptoBulk d + 1
  | .slice elems spare => uptoBulkAll elems + uptoBulkAll spare + 1
  | .agg parts => uptoBulkAll parts + 1
  | .iface _ d => uptoBulk d + 1
  | .map entries => uptoBulkEntries entries + 1
  | .held _ => 1
def uptoBulkAll {H : Type} : List (DataW H) → Nat
  | [] => 0
  | d :: r => uptoBulk d + uptoBulkAll r
def uptoBulkEntries {H : Type} : List (Lit × DataW H) → Nat
  | [] => 0
  | x :: r => uptoBulkEntry x + uptoBulkEntries r
def uptoBulkEntry {H : Type} : Lit × DataW H → Nat
  | (.string bytes, d) => bytes.length + uptoBulk d + 1
  | (_, d) => uptoBulk d + 1
 end
def uptoSmall : (H : Type) → List (DataW H) → Bool := fun _ ds => decide (uptoBulkAll ds ≤ 1048576)
def OpenSpec.upto (s : _root_.Go.ChangeSpec) : _root_.Go.OpenSpec := { _root_.Go.OpenSpec.ofChange s with cond := some uptoSmall }

/-- 'partylinelaw22.CtlMeets', WHERE WHAT IT READS IS OF BULK AT MOST 1048576: true; the input reads as it did. -/
def ctlMeetsUptoRow : OpenClaim := { program := "ytakkhdammmcjcaadoor", sum := "91e27994a397fa443c0121747d385a957b708b2d81fa4de053521d05c218ff86", func := "partyline/partylinelaw22.CtlMeets", spec := "ctlMeets", unfollowed := true, recurses := true, named := ["partyline/msgs.types"], apart := false, laid := [("partyline/msgs.types", laid_partyline_msgs_types)], narrowed := true }
def CtlMeetsUptoSaid : Prop := ctlMeetsUptoRow.holds Tryd.pinned (OpenSpec.upto ctlMeetsSpec)

/-- 'partylinelaw22.CtlGives', WHERE WHAT IT READS IS OF BULK AT MOST 1048576: true; the input reads as it did. -/
def ctlGivesUptoRow : OpenClaim := { program := "ytakkhdammmcjcaadoor", sum := "91e27994a397fa443c0121747d385a957b708b2d81fa4de053521d05c218ff86", func := "partyline/partylinelaw22.CtlGives", spec := "ctlGives", unfollowed := true, recurses := true, named := ["partyline/msgs.types"], apart := false, laid := [("partyline/msgs.types", laid_partyline_msgs_types)], narrowed := true }
def CtlGivesUptoSaid : Prop := ctlGivesUptoRow.holds Tryd.pinned (OpenSpec.upto ctlGivesSpec)

/-- 'partylinelaw22.CtlNone', WHERE WHAT IT READS IS OF BULK AT MOST 1048576: true; the input reads as it did. -/
def ctlNoneUptoRow : OpenClaim := { program := "ytakkhdammmcjcaadoor", sum := "91e27994a397fa443c0121747d385a957b708b2d81fa4de053521d05c218ff86", func := "partyline/partylinelaw22.CtlNone", spec := "ctlNone", unfollowed := true, recurses := true, named := ["partyline/msgs.types"], apart := false, laid := [("partyline/msgs.types", laid_partyline_msgs_types)], narrowed := true }
def CtlNoneUptoSaid : Prop := ctlNoneUptoRow.holds Tryd.pinned (OpenSpec.upto ctlNoneSpec)

end Rows
end Go.Proofs.YtakkhdammmcjcaaDoor
