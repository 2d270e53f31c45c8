/-
  No cell of these rows narrows 'for every input' (looked for: loops, veiled, ifaces, maps, wideKeys, modest, calm, conditions, laid).
  DERIVED. THE GIVEN ROWS OF THIS SEAT. 4 by the template 'for every input the law returns true; each argument reads behind the call as it read before'; 0 by the template 'total and deterministic' (their statements: YtlmfnjdbknfkjaaTotals.lean).
  GIVEN WITH THE SEED: the statements are not yours to turn. If you find one false, say at which input.
  Laid BY PROGRAM, IN A SANDBOX (cutbox-rows.mjs): the forced cells as the released guide's own fill.sh prints them over the translation 99ea01cfc37e8914… (all of the seat's roots in one cut). By AI agents, Wed Nov 11 2026. No macro, syntax, notation, axiom, sorry.
-/
import Derived.Test.YtlmfnjdbknfkjaaChecked
import GoSem.Claim
import GoSem.ClaimJoined
import GoSem.ClaimMapViews
import Derived.JoinedTies
import Derived.KernelRfl
namespace Go.Proofs.Ytlmfnjdbknfkjaa
/- THE CELL 'sum', in the pinned program and in every row, IS THE sha256 OF THE DUMP (.gsa) THAT YtlmfnjdbknfkjaaProg.lean LOADS. Nothing in Lean hashes anything: it is a label: what it is worth is what the hold of that sum in a sandbox is worth. -/
noncomputable def Try.pinned : Pinned := { name := "ytlmfnjdbknfkjaa", sum := "99ea01cfc37e891461d26ee32751eb65d041574cacce1d94042249cb82177a23", checked := Try.checked }
namespace Rows
def none {H : Type} : Left H := { results := [], args := [] }

/-- 'partylinelaw07.TlvPut': WHATEVER THE INPUT: true; the input reads as it did. -/
def tlvPutSpec : ChangeSpec := { name := "tlvPut", fn := fun _ => fun
  | [d1, d2, d3] => { results := [.lit (.bool true)], args := [d1, d2, d3] }
  | _ => none }
def tlvPutRow : OpenClaim := { program := "ytlmfnjdbknfkjaa", sum := "99ea01cfc37e891461d26ee32751eb65d041574cacce1d94042249cb82177a23", func := "partyline/partylinelaw07.TlvPut", spec := "tlvPut", unfollowed := true, recurses := true, apart := false }
def TlvPutSaid : Prop := tlvPutRow.holds Try.pinned (OpenSpec.ofChange tlvPutSpec)

/-- ITS FALSE NEIGHBOUR: 'it returns false'. Refute it at one input. -/
def tlvPutWrong : ChangeSpec := { name := "tlvPut", fn := fun _ => fun
  | [d1, d2, d3] => { results := [.lit (.bool false)], args := [d1, d2, d3] }
  | _ => none }
def TlvPutWrongFalsely : Prop := tlvPutRow.holds Try.pinned (OpenSpec.ofChange tlvPutWrong)

/-- 'partylinelaw07.TlvBack': WHATEVER THE INPUT: true; the input reads as it did. -/
def tlvBackSpec : ChangeSpec := { name := "tlvBack", fn := fun _ => fun
  | [d1, d2, d3, d4] => { results := [.lit (.bool true)], args := [d1, d2, d3, d4] }
  | _ => none }
def tlvBackRow : OpenClaim := { program := "ytlmfnjdbknfkjaa", sum := "99ea01cfc37e891461d26ee32751eb65d041574cacce1d94042249cb82177a23", func := "partyline/partylinelaw07.TlvBack", spec := "tlvBack", unfollowed := true, recurses := true, apart := false }
def TlvBackSaid : Prop := tlvBackRow.holds Try.pinned (OpenSpec.ofChange tlvBackSpec)

/-- ITS FALSE NEIGHBOUR: 'it returns false'. Refute it at one input. -/
def tlvBackWrong : ChangeSpec := { name := "tlvBack", fn := fun _ => fun
  | [d1, d2, d3, d4] => { results := [.lit (.bool false)], args := [d1, d2, d3, d4] }
  | _ => none }
def TlvBackWrongFalsely : Prop := tlvBackRow.holds Try.pinned (OpenSpec.ofChange tlvBackWrong)

/-- 'partylinelaw07.TlvRows': WHATEVER THE INPUT: true; the input reads as it did. -/
def tlvRowsSpec : ChangeSpec := { name := "tlvRows", fn := fun _ => fun
  | [d] => { results := [.lit (.bool true)], args := [d] }
  | _ => none }
def tlvRowsRow : OpenClaim := { program := "ytlmfnjdbknfkjaa", sum := "99ea01cfc37e891461d26ee32751eb65d041574cacce1d94042249cb82177a23", func := "partyline/partylinelaw07.TlvRows", spec := "tlvRows", unfollowed := true, recurses := true, apart := false }
def TlvRowsSaid : Prop := tlvRowsRow.holds Try.pinned (OpenSpec.ofChange tlvRowsSpec)

/-- ITS FALSE NEIGHBOUR: 'it returns false'. Refute it at one input. -/
def tlvRowsWrong : ChangeSpec := { name := "tlvRows", fn := fun _ => fun
  | [d] => { results := [.lit (.bool false)], args := [d] }
  | _ => none }
def TlvRowsWrongFalsely : Prop := tlvRowsRow.holds Try.pinned (OpenSpec.ofChange tlvRowsWrong)

/-- 'partylinelaw07.TlvKnown': WHATEVER THE INPUT: true; the input reads as it did. -/
def tlvKnownSpec : ChangeSpec := { name := "tlvKnown", fn := fun _ => fun
  | [] => { results := [.lit (.bool true)], args := [] }
  | _ => none }
def tlvKnownRow : OpenClaim := { program := "ytlmfnjdbknfkjaa", sum := "99ea01cfc37e891461d26ee32751eb65d041574cacce1d94042249cb82177a23", func := "partyline/partylinelaw07.TlvKnown", spec := "tlvKnown", unfollowed := true, recurses := true, apart := false }
def TlvKnownSaid : Prop := tlvKnownRow.holds Try.pinned (OpenSpec.ofChange tlvKnownSpec)

/-- ITS FALSE NEIGHBOUR: 'it returns false'. Refute it at one input. -/
def tlvKnownWrong : ChangeSpec := { name := "tlvKnown", fn := fun _ => fun
  | [] => { results := [.lit (.bool false)], args := [] }
  | _ => none }
def TlvKnownWrongFalsely : Prop := tlvKnownRow.holds Try.pinned (OpenSpec.ofChange tlvKnownWrong)

/- THE SECOND FORM. 'bulk': how many values and letters a reading holds, each counted each time it is reached (what is shared counts as often as it is met; a slice's spare places count too). A statement '..UptoSaid' is the law's where the arguments, and the package variables that the reading takes, are together of bulk at most 1048576: NARROWER than '..Said'. Prove '..Said' where nothing that the law and all that it calls make is longer than what came in: it says more and counts as full. Else prove '..UptoSaid'. A law counts once. -/
mutual
def uptoBulk {H : Type} : DataW H → Nat
  | .lit (.string bytes) => bytes.length + 1
  | .lit _ => 1
  | .nil => 1
  | .ptr d => uptoBulk d + 1
  | .slice elems spare => uptoBulkAll elems + uptoBulkAll spare + 1
  | .agg parts => uptoBulkAll parts + 1
  | .iface _ d => uptoBulk d + 1
  | .map entries => uptoBulkEntries entries + 1
  | .held _ => 1
def uptoBulkAll {H : Type} : List (DataW H) → Nat
  | [] => 0
  | d :: r => uptoBulk d + uptoBulkAll r
def uptoBulkEntries {H : Type} : List (Lit × DataW H) → Nat
  | [] => 0
  | x :: r => uptoBulkEntry x + uptoBulkEntries r
def uptoBulkEntry {H : Type} : Lit × DataW H → Nat
  | (.string bytes, d) => bytes.length + uptoBulk d + 1
  | (_, d) => uptoBulk d + 1
 end
def uptoSmall : (H : Type) → List (DataW H) → Bool := fun _ ds => decide (uptoBulkAll ds ≤ 1048576)
def OpenSpec.upto (s : _root_.Go.ChangeSpec) : _root_.Go.OpenSpec := { _root_.Go.OpenSpec.ofChange s with cond := some uptoSmall }

/-- 'partylinelaw07.TlvPut', WHERE WHAT IT READS IS OF BULK AT MOST 1048576: true; the input reads as it did. -/
def tlvPutUptoRow : OpenClaim := { program := "ytlmfnjdbknfkjaa", sum := "99ea01cfc37e891461d26ee32751eb65d041574cacce1d94042249cb82177a23", func := "partyline/partylinelaw07.TlvPut", spec := "tlvPut", unfollowed := true, recurses := true, apart := false, narrowed := true }
def TlvPutUptoSaid : Prop := tlvPutUptoRow.holds Try.pinned (OpenSpec.upto tlvPutSpec)

/-- 'partylinelaw07.TlvBack', WHERE WHAT IT READS IS OF BULK AT MOST 1048576: true; the input reads as it did. -/
def tlvBackUptoRow : OpenClaim := { program := "ytlmfnjdbknfkjaa", sum := "99ea01cfc37e891461d26ee32751eb65d041574cacce1d94042249cb82177a23", func := "partyline/partylinelaw07.TlvBack", spec := "tlvBack", unfollowed := true, recurses := true, apart := false, narrowed := true }
def TlvBackUptoSaid : Prop := tlvBackUptoRow.holds Try.pinned (OpenSpec.upto tlvBackSpec)

/-- 'partylinelaw07.TlvRows', WHERE WHAT IT READS IS OF BULK AT MOST 1048576: true; the input reads as it did. -/
def tlvRowsUptoRow : OpenClaim := { program := "ytlmfnjdbknfkjaa", sum := "99ea01cfc37e891461d26ee32751eb65d041574cacce1d94042249cb82177a23", func := "partyline/partylinelaw07.TlvRows", spec := "tlvRows", unfollowed := true, recurses := true, apart := false, narrowed := true }
def TlvRowsUptoSaid : Prop := tlvRowsUptoRow.holds Try.pinned (OpenSpec.upto tlvRowsSpec)

/-- 'partylinelaw07.TlvKnown', WHERE WHAT IT READS IS OF BULK AT MOST 1048576: true; the input reads as it did. -/
def tlvKnownUptoRow : OpenClaim := { program := "ytlmfnjdbknfkjaa", sum := "99ea01cfc37e891461d26ee32751eb65d041574cacce1d94042249cb82177a23", func := "partyline/partylinelaw07.TlvKnown", spec := "tlvKnown", unfollowed := true, recurses := true, apart := false, narrowed := true }
def TlvKnownUptoSaid : Prop := tlvKnownUptoRow.holds Try.pinned (OpenSpec.upto tlvKnownSpec)

end Rows
end Go.Proofs.Ytlmfnjdbknfkjaa
