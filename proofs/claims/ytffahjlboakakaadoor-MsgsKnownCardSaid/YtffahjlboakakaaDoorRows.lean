/-
  NARROWER THAN 'FOR EVERY INPUT', by the rows' own cells (each row's printed sentence says how): MsgsPuts: laid · MsgsGets: laid · MsgsBack: laid · MsgsKnown: laid.
  DERIVED. THE GIVEN ROWS OF THIS SEAT. 4 by the template 'for every input the law returns true; each argument reads behind the call as it read before'; 0 by the template 'total and deterministic' (their statements: YtffahjlboakakaaDoorTotals.lean).
  GIVEN WITH THE SEED: the statements are not yours to turn. If you find one false, say at which input.
  Laid BY PROGRAM, IN A SANDBOX (cutbox-rows.mjs): the forced cells as the released guide's own fill.sh prints them over the translation e8773615b795f5b1… (all of the seat's roots in one cut). By AI agents, Wed Nov 11 2026. No macro, syntax, notation, axiom, sorry.
-/
import Derived.Test.YtffahjlboakakaaDoorChecked
import GoSem.Claim
import GoSem.ClaimJoined
import GoSem.ClaimMapViews
import Derived.JoinedTies
import Derived.KernelRfl
namespace Go.Proofs.YtffahjlboakakaaDoor
/- THE CELL 'sum', in the pinned program and in every row, IS THE sha256 OF THE DUMP (.gsa) THAT YtffahjlboakakaaDoorProg.lean LOADS. Nothing in Lean hashes anything: it is a label: what it is worth is what the hold of that sum in a sandbox is worth. -/
noncomputable def Tryd.pinned : Pinned := { name := "ytffahjlboakakaadoor", sum := "e8773615b795f5b18ee9d7ad65cfa22c58da62c8d6c650e8f4c7023c74fc81e1", checked := Tryd.checked }
namespace Rows
def none {H : Type} : Left H := { results := [], args := [] }

/- WHAT THE LISTED PACKAGE-LEVEL VARIABLES READ AS WHEN THE CALL BEGINS. Each datum BY PROGRAM (the guide's laid-datum.mjs) off the statement by which the dump's own 'gosem.cut.vars' lays the variable. In a bare row this is a premise. The card (YtffahjlboakakaaDoorCards.lean) ties it to the program's text. -/
def laid_partyline_msgs_types {H : Type} : DataW H := .agg [.lit (.int .u8 0), .lit (.int .u8 32), .lit (.int .u8 56), .lit (.int .u8 40), .lit (.int .u8 24), .lit (.int .u8 8), .lit (.int .u8 48), .lit (.int .u8 4)]

/-- 'partylinelaw10.MsgsPuts': WHATEVER THE INPUT: true; the input reads as it did. -/
def msgsPutsSpec : ChangeSpec := { name := "msgsPuts", fn := fun _ => fun
  | [d] => { results := [.lit (.bool true)], args := [d] }
  | _ => none }
def msgsPutsRow : OpenClaim := { program := "ytffahjlboakakaadoor", sum := "e8773615b795f5b18ee9d7ad65cfa22c58da62c8d6c650e8f4c7023c74fc81e1", func := "partyline/partylinelaw10.MsgsPuts", spec := "msgsPuts", unfollowed := true, recurses := true, named := ["partyline/msgs.types"], apart := false, laid := [("partyline/msgs.types", laid_partyline_msgs_types)] }
def MsgsPutsSaid : Prop := msgsPutsRow.holds Tryd.pinned (OpenSpec.ofChange msgsPutsSpec)

/-- ITS FALSE NEIGHBOUR: 'it returns false'. Refute it at one input. -/
def msgsPutsWrong : ChangeSpec := { name := "msgsPuts", fn := fun _ => fun
  | [d] => { results := [.lit (.bool false)], args := [d] }
  | _ => none }
def MsgsPutsWrongFalsely : Prop := msgsPutsRow.holds Tryd.pinned (OpenSpec.ofChange msgsPutsWrong)

/-- 'partylinelaw10.MsgsGets': WHATEVER THE INPUT: true; the input reads as it did. -/
def msgsGetsSpec : ChangeSpec := { name := "msgsGets", fn := fun _ => fun
  | [d] => { results := [.lit (.bool true)], args := [d] }
  | _ => none }
def msgsGetsRow : OpenClaim := { program := "ytffahjlboakakaadoor", sum := "e8773615b795f5b18ee9d7ad65cfa22c58da62c8d6c650e8f4c7023c74fc81e1", func := "partyline/partylinelaw10.MsgsGets", spec := "msgsGets", unfollowed := true, recurses := true, named := ["partyline/msgs.types"], apart := false, laid := [("partyline/msgs.types", laid_partyline_msgs_types)] }
def MsgsGetsSaid : Prop := msgsGetsRow.holds Tryd.pinned (OpenSpec.ofChange msgsGetsSpec)

/-- ITS FALSE NEIGHBOUR: 'it returns false'. Refute it at one input. -/
def msgsGetsWrong : ChangeSpec := { name := "msgsGets", fn := fun _ => fun
  | [d] => { results := [.lit (.bool false)], args := [d] }
  | _ => none }
def MsgsGetsWrongFalsely : Prop := msgsGetsRow.holds Tryd.pinned (OpenSpec.ofChange msgsGetsWrong)

/-- 'partylinelaw10.MsgsBack': WHATEVER THE INPUT: true; the input reads as it did. -/
def msgsBackSpec : ChangeSpec := { name := "msgsBack", fn := fun _ => fun
  | [d1, d2] => { results := [.lit (.bool true)], args := [d1, d2] }
  | _ => none }
def msgsBackRow : OpenClaim := { program := "ytffahjlboakakaadoor", sum := "e8773615b795f5b18ee9d7ad65cfa22c58da62c8d6c650e8f4c7023c74fc81e1", func := "partyline/partylinelaw10.MsgsBack", spec := "msgsBack", unfollowed := true, recurses := true, named := ["partyline/msgs.types"], apart := false, laid := [("partyline/msgs.types", laid_partyline_msgs_types)] }
def MsgsBackSaid : Prop := msgsBackRow.holds Tryd.pinned (OpenSpec.ofChange msgsBackSpec)

/-- ITS FALSE NEIGHBOUR: 'it returns false'. Refute it at one input. -/
def msgsBackWrong : ChangeSpec := { name := "msgsBack", fn := fun _ => fun
  | [d1, d2] => { results := [.lit (.bool false)], args := [d1, d2] }
  | _ => none }
def MsgsBackWrongFalsely : Prop := msgsBackRow.holds Tryd.pinned (OpenSpec.ofChange msgsBackWrong)

/-- 'partylinelaw10.MsgsKnown': WHATEVER THE INPUT: true; the input reads as it did. -/
def msgsKnownSpec : ChangeSpec := { name := "msgsKnown", fn := fun _ => fun
  | [] => { results := [.lit (.bool true)], args := [] }
  | _ => none }
def msgsKnownRow : OpenClaim := { program := "ytffahjlboakakaadoor", sum := "e8773615b795f5b18ee9d7ad65cfa22c58da62c8d6c650e8f4c7023c74fc81e1", func := "partyline/partylinelaw10.MsgsKnown", spec := "msgsKnown", unfollowed := true, recurses := true, named := ["partyline/msgs.types"], apart := false, laid := [("partyline/msgs.types", laid_partyline_msgs_types)] }
def MsgsKnownSaid : Prop := msgsKnownRow.holds Tryd.pinned (OpenSpec.ofChange msgsKnownSpec)

/-- ITS FALSE NEIGHBOUR: 'it returns false'. Refute it at one input. -/
def msgsKnownWrong : ChangeSpec := { name := "msgsKnown", fn := fun _ => fun
  | [] => { results := [.lit (.bool false)], args := [] }
  | _ => none }
def MsgsKnownWrongFalsely : Prop := msgsKnownRow.holds Tryd.pinned (OpenSpec.ofChange msgsKnownWrong)

/- THE SECOND FORM. 'bulk': how many values and letters a reading holds, each counted each time it is reached (what is shared counts as often as it is met; a slice's spare places count too). A statement '..UptoSaid' is the law's where the arguments, and the package variables that the reading takes, are together of bulk at most 1048576: NARROWER than '..Said'. Prove '..Said' where nothing that the law and all that it calls make is longer than what came in: it says more and counts as full. Else prove '..UptoSaid'. A law counts once. -/
mutual
def uptoBulk {H : Type} : DataW H → Nat
  | .lit (.string bytes) => bytes.length + 1
  | .lit _ => 1
  | .nil => 1
  | .ptr d => uptoBulk d + 1
  | .slice elems spare => uptoBulkAll elems + uptoBulkAll spare + 1
  | .agg parts => uptoBulkAll parts + 1
  | .iface _ d => uptoBulk d + 1
  | .map entries => uptoBulkEntries entries + 1
  | .held _ => 1
def uptoBulkAll {H : Type} : List (DataW H) → Nat
  | [] => 0
  | d :: r => uptoBulk d + uptoBulkAll r
def uptoBulkEntries {H : Type} : List (Lit × DataW H) → Nat
  | [] => 0
  | x :: r => uptoBulkEntry x + uptoBulkEntries r
def uptoBulkEntry {H : Type} : Lit × DataW H → Nat
  | (.string bytes, d) => bytes.length + uptoBulk d + 1
  | (_, d) => uptoBulk d + 1
 end
def uptoSmall : (H : Type) → List (DataW H) → Bool := fun _ ds => decide (uptoBulkAll ds ≤ 1048576)
def OpenSpec.upto (s : _root_.Go.ChangeSpec) : _root_.Go.OpenSpec := { _root_.Go.OpenSpec.ofChange s with cond := some uptoSmall }

/-- 'partylinelaw10.MsgsPuts', WHERE WHAT IT READS IS OF BULK AT MOST 1048576: true; the input reads as it did. -/
def msgsPutsUptoRow : OpenClaim := { program := "ytffahjlboakakaadoor", sum := "e8773615b795f5b18ee9d7ad65cfa22c58da62c8d6c650e8f4c7023c74fc81e1", func := "partyline/partylinelaw10.MsgsPuts", spec := "msgsPuts", unfollowed := true, recurses := true, named := ["partyline/msgs.types"], apart := false, laid := [("partyline/msgs.types", laid_partyline_msgs_types)], narrowed := true }
def MsgsPutsUptoSaid : Prop := msgsPutsUptoRow.holds Tryd.pinned (OpenSpec.upto msgsPutsSpec)

/-- 'partylinelaw10.MsgsGets', WHERE WHAT IT READS IS OF BULK AT MOST 1048576: true; the input reads as it did. -/
def msgsGetsUptoRow : OpenClaim := { program := "ytffahjlboakakaadoor", sum := "e8773615b795f5b18ee9d7ad65cfa22c58da62c8d6c650e8f4c7023c74fc81e1", func := "partyline/partylinelaw10.MsgsGets", spec := "msgsGets", unfollowed := true, recurses := true, named := ["partyline/msgs.types"], apart := false, laid := [("partyline/msgs.types", laid_partyline_msgs_types)], narrowed := true }
def MsgsGetsUptoSaid : Prop := msgsGetsUptoRow.holds Tryd.pinned (OpenSpec.upto msgsGetsSpec)

/-- 'partylinelaw10.MsgsBack', WHERE WHAT IT READS IS OF BULK AT MOST 1048576: true; the input reads as it did. -/
def msgsBackUptoRow : OpenClaim := { program := "ytffahjlboakakaadoor", sum := "e8773615b795f5b18ee9d7ad65cfa22c58da62c8d6c650e8f4c7023c74fc81e1", func := "partyline/partylinelaw10.MsgsBack", spec := "msgsBack", unfollowed := true, recurses := true, named := ["partyline/msgs.types"], apart := false, laid := [("partyline/msgs.types", laid_partyline_msgs_types)], narrowed := true }
def MsgsBackUptoSaid : Prop := msgsBackUptoRow.holds Tryd.pinned (OpenSpec.upto msgsBackSpec)

/-- 'partylinelaw10.MsgsKnown', WHERE WHAT IT READS IS OF BULK AT MOST 1048576: true; the input reads as it did. -/
def msgsKnownUptoRow : OpenClaim := { program := "ytffahjlboakakaadoor", sum := "e8773615b795f5b18ee9d7ad65cfa22c58da62c8d6c650e8f4c7023c74fc81e1", func := "partyline/partylinelaw10.MsgsKnown", spec := "msgsKnown", unfollowed := true, recurses := true, named := ["partyline/msgs.types"], apart := false, laid := [("partyline/msgs.types", laid_partyline_msgs_types)], narrowed := true }
def MsgsKnownUptoSaid : Prop := msgsKnownUptoRow.holds Tryd.pinned (OpenSpec.upto msgsKnownSpec)

end Rows
end Go.Proofs.YtffahjlboakakaaDoor
