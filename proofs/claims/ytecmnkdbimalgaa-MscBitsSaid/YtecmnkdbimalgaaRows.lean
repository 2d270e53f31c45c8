/-
  No cell of these rows narrows 'for every input' (looked for: loops, veiled, ifaces, maps, wideKeys, modest, calm, conditions, laid).
  DERIVED. THE GIVEN ROWS OF THIS SEAT. 5 by the template 'for every input the law returns true; each argument reads behind the call as it read before'; 0 by the template 'total and deterministic' (their statements: YtecmnkdbimalgaaTotals.lean).
  GIVEN WITH THE SEED: the statements are not yours to turn. If you find one false, say at which input.
  Laid BY PROGRAM, IN A SANDBOX (cutbox-rows.mjs): the forced cells as the released guide's own fill.sh prints them over the translation 9fbf5e7a6955acc8… (all of the seat's roots in one cut). By AI agents, Wed Nov 11 2026. No macro, syntax, notation, axiom, sorry.
-/
import Derived.Test.YtecmnkdbimalgaaChecked
import GoSem.Claim
import GoSem.ClaimJoined
import GoSem.ClaimMapViews
import Derived.JoinedTies
import Derived.KernelRfl
namespace Go.Proofs.Ytecmnkdbimalgaa
/- THE CELL 'sum', in the pinned program and in every row, IS THE sha256 OF THE DUMP (.gsa) THAT YtecmnkdbimalgaaProg.lean LOADS. Nothing in Lean hashes anything: it is a label: what it is worth is what the hold of that sum in a sandbox is worth. -/
noncomputable def Try.pinned : Pinned := { name := "ytecmnkdbimalgaa", sum := "9fbf5e7a6955acc8400e8d14eef9b6a47fcbb650885e7fc8c6866df90e2eee39", checked := Try.checked }
namespace Rows
def none {H : Type} : Left H := { results := [], args := [] }

/-- 'partylinelaw09.MscPut': WHATEVER THE INPUT: true; the input reads as it did. -/
def mscPutSpec : ChangeSpec := { name := "mscPut", fn := fun _ => fun
  | [d] => { results := [.lit (.bool true)], args := [d] }
  | _ => none }
def mscPutRow : OpenClaim := { program := "ytecmnkdbimalgaa", sum := "9fbf5e7a6955acc8400e8d14eef9b6a47fcbb650885e7fc8c6866df90e2eee39", func := "partyline/partylinelaw09.MscPut", spec := "mscPut", apart := false }
def MscPutSaid : Prop := mscPutRow.holds Try.pinned (OpenSpec.ofChange mscPutSpec)

/-- ITS FALSE NEIGHBOUR: 'it returns false'. Refute it at one input. -/
def mscPutWrong : ChangeSpec := { name := "mscPut", fn := fun _ => fun
  | [d] => { results := [.lit (.bool false)], args := [d] }
  | _ => none }
def MscPutWrongFalsely : Prop := mscPutRow.holds Try.pinned (OpenSpec.ofChange mscPutWrong)

/-- 'partylinelaw09.MscGet': WHATEVER THE INPUT: true; the input reads as it did. -/
def mscGetSpec : ChangeSpec := { name := "mscGet", fn := fun _ => fun
  | [d] => { results := [.lit (.bool true)], args := [d] }
  | _ => none }
def mscGetRow : OpenClaim := { program := "ytecmnkdbimalgaa", sum := "9fbf5e7a6955acc8400e8d14eef9b6a47fcbb650885e7fc8c6866df90e2eee39", func := "partyline/partylinelaw09.MscGet", spec := "mscGet", apart := false }
def MscGetSaid : Prop := mscGetRow.holds Try.pinned (OpenSpec.ofChange mscGetSpec)

/-- ITS FALSE NEIGHBOUR: 'it returns false'. Refute it at one input. -/
def mscGetWrong : ChangeSpec := { name := "mscGet", fn := fun _ => fun
  | [d] => { results := [.lit (.bool false)], args := [d] }
  | _ => none }
def MscGetWrongFalsely : Prop := mscGetRow.holds Try.pinned (OpenSpec.ofChange mscGetWrong)

/-- 'partylinelaw09.MscBack': WHATEVER THE INPUT: true; the input reads as it did. -/
def mscBackSpec : ChangeSpec := { name := "mscBack", fn := fun _ => fun
  | [d1, d2, d3] => { results := [.lit (.bool true)], args := [d1, d2, d3] }
  | _ => none }
def mscBackRow : OpenClaim := { program := "ytecmnkdbimalgaa", sum := "9fbf5e7a6955acc8400e8d14eef9b6a47fcbb650885e7fc8c6866df90e2eee39", func := "partyline/partylinelaw09.MscBack", spec := "mscBack", apart := false }
def MscBackSaid : Prop := mscBackRow.holds Try.pinned (OpenSpec.ofChange mscBackSpec)

/-- ITS FALSE NEIGHBOUR: 'it returns false'. Refute it at one input. -/
def mscBackWrong : ChangeSpec := { name := "mscBack", fn := fun _ => fun
  | [d1, d2, d3] => { results := [.lit (.bool false)], args := [d1, d2, d3] }
  | _ => none }
def MscBackWrongFalsely : Prop := mscBackRow.holds Try.pinned (OpenSpec.ofChange mscBackWrong)

/-- 'partylinelaw09.MscBits': WHATEVER THE INPUT: true; the input reads as it did. -/
def mscBitsSpec : ChangeSpec := { name := "mscBits", fn := fun _ => fun
  | [d] => { results := [.lit (.bool true)], args := [d] }
  | _ => none }
def mscBitsRow : OpenClaim := { program := "ytecmnkdbimalgaa", sum := "9fbf5e7a6955acc8400e8d14eef9b6a47fcbb650885e7fc8c6866df90e2eee39", func := "partyline/partylinelaw09.MscBits", spec := "mscBits", apart := false }
def MscBitsSaid : Prop := mscBitsRow.holds Try.pinned (OpenSpec.ofChange mscBitsSpec)

/-- ITS FALSE NEIGHBOUR: 'it returns false'. Refute it at one input. -/
def mscBitsWrong : ChangeSpec := { name := "mscBits", fn := fun _ => fun
  | [d] => { results := [.lit (.bool false)], args := [d] }
  | _ => none }
def MscBitsWrongFalsely : Prop := mscBitsRow.holds Try.pinned (OpenSpec.ofChange mscBitsWrong)

/-- 'partylinelaw09.MscKnown': WHATEVER THE INPUT: true; the input reads as it did. -/
def mscKnownSpec : ChangeSpec := { name := "mscKnown", fn := fun _ => fun
  | [] => { results := [.lit (.bool true)], args := [] }
  | _ => none }
def mscKnownRow : OpenClaim := { program := "ytecmnkdbimalgaa", sum := "9fbf5e7a6955acc8400e8d14eef9b6a47fcbb650885e7fc8c6866df90e2eee39", func := "partyline/partylinelaw09.MscKnown", spec := "mscKnown", apart := false }
def MscKnownSaid : Prop := mscKnownRow.holds Try.pinned (OpenSpec.ofChange mscKnownSpec)

/-- ITS FALSE NEIGHBOUR: 'it returns false'. Refute it at one input. -/
def mscKnownWrong : ChangeSpec := { name := "mscKnown", fn := fun _ => fun
  | [] => { results := [.lit (.bool false)], args := [] }
  | _ => none }
def MscKnownWrongFalsely : Prop := mscKnownRow.holds Try.pinned (OpenSpec.ofChange mscKnownWrong)

/- THE SECOND FORM. 'bulk': how many values and letters a reading holds, each counted each time it is reached (what is shared counts as often as it is met; a slice's spare places count too). A statement '..UptoSaid' is the law's where the arguments, and the package variables that the reading takes, are together of bulk at most 1048576: NARROWER than '..Said'. Prove '..Said' where nothing that the law and all that it calls make is longer than what came in: it says more and counts as full. Else prove '..UptoSaid'. A law counts once. -/
mutual
def uptoBulk {H : Type} : DataW H → Nat
  | .lit (.string bytes) => bytes.length + 1
  | .lit _ => 1
  | .nil => 1
  | .ptr d => uptoBulk d + 1
  | .slice elems spare => uptoBulkAll elems + uptoBulkAll spare + 1
  | .agg parts => uptoBulkAll parts + 1
  | .iface _ d => uptoBulk d + 1
  | .map entries => uptoBulkEntries entries + 1
  | .held _ => 1
def uptoBulkAll {H : Type} : List (DataW H) → Nat
  | [] => 0
  | d :: r => uptoBulk d + uptoBulkAll r
def uptoBulkEntries {H : Type} : List (Lit × DataW H) → Nat
  | [] => 0
  | x :: r => uptoBulkEntry x + uptoBulkEntries r
def uptoBulkEntry {H : Type} : Lit × DataW H → Nat
  | (.string bytes, d) => bytes.length + uptoBulk d + 1
  | (_, d) => uptoBulk d + 1
 end
def uptoSmall : (H : Type) → List (DataW H) → Bool := fun _ ds => decide (uptoBulkAll ds ≤ 1048576)
def OpenSpec.upto (s : _root_.Go.ChangeSpec) : _root_.Go.OpenSpec := { _root_.Go.OpenSpec.ofChange s with cond := some uptoSmall }

/-- 'partylinelaw09.MscPut', WHERE WHAT IT READS IS OF BULK AT MOST 1048576: true; the input reads as it did. -/
def mscPutUptoRow : OpenClaim := { program := "ytecmnkdbimalgaa", sum := "9fbf5e7a6955acc8400e8d14eef9b6a47fcbb650885e7fc8c6866df90e2eee39", func := "partyline/partylinelaw09.MscPut", spec := "mscPut", apart := false, narrowed := true }
def MscPutUptoSaid : Prop := mscPutUptoRow.holds Try.pinned (OpenSpec.upto mscPutSpec)

/-- 'partylinelaw09.MscGet', WHERE WHAT IT READS IS OF BULK AT MOST 1048576: true; the input reads as it did. -/
def mscGetUptoRow : OpenClaim := { program := "ytecmnkdbimalgaa", sum := "9fbf5e7a6955acc8400e8d14eef9b6a47fcbb650885e7fc8c6866df90e2eee39", func := "partyline/partylinelaw09.MscGet", spec := "mscGet", apart := false, narrowed := true }
def MscGetUptoSaid : Prop := mscGetUptoRow.holds Try.pinned (OpenSpec.upto mscGetSpec)

/-- 'partylinelaw09.MscBack', WHERE WHAT IT READS IS OF BULK AT MOST 1048576: true; the input reads as it did. -/
def mscBackUptoRow : OpenClaim := { program := "ytecmnkdbimalgaa", sum := "9fbf5e7a6955acc8400e8d14eef9b6a47fcbb650885e7fc8c6866df90e2eee39", func := "partyline/partylinelaw09.MscBack", spec := "mscBack", apart := false, narrowed := true }
def MscBackUptoSaid : Prop := mscBackUptoRow.holds Try.pinned (OpenSpec.upto mscBackSpec)

/-- 'partylinelaw09.MscBits', WHERE WHAT IT READS IS OF BULK AT MOST 1048576: true; the input reads as it did. -/
def mscBitsUptoRow : OpenClaim := { program := "ytecmnkdbimalgaa", sum := "9fbf5e7a6955acc8400e8d14eef9b6a47fcbb650885e7fc8c6866df90e2eee39", func := "partyline/partylinelaw09.MscBits", spec := "mscBits", apart := false, narrowed := true }
def MscBitsUptoSaid : Prop := mscBitsUptoRow.holds Try.pinned (OpenSpec.upto mscBitsSpec)

/-- 'partylinelaw09.MscKnown', WHERE WHAT IT READS IS OF BULK AT MOST 1048576: true; the input reads as it did. -/
def mscKnownUptoRow : OpenClaim := { program := "ytecmnkdbimalgaa", sum := "9fbf5e7a6955acc8400e8d14eef9b6a47fcbb650885e7fc8c6866df90e2eee39", func := "partyline/partylinelaw09.MscKnown", spec := "mscKnown", apart := false, narrowed := true }
def MscKnownUptoSaid : Prop := mscKnownUptoRow.holds Try.pinned (OpenSpec.upto mscKnownSpec)

end Rows
end Go.Proofs.Ytecmnkdbimalgaa
