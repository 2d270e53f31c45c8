/-
  DERIVED. GIVEN WITH THE SEED: THE CARDS: each row of YtakkhdammmcjcaaGreatDoorRows.lean that lists a variable, with what it lists TIED to the program's text (the seventh form; the later family's looks); each row that meets fmt, with fmt's text TOLD by the authors' own Lean function (tested against real Go, not proved from fmt's source: count such statements apart). THE CARD IS WHAT COUNTS. Prove the row's statement (the work); the ties are given (YtakkhdammmcjcaaGreatDoorTie.lean); close each card by the builder's one call (the guide's Derived/Test/ToyasCard.lean, 'card_holds'). Laid BY PROGRAM, IN A SANDBOX (cutbox-door.mjs). By AI agents, Wed Nov 11 2026. No macro, syntax, notation, axiom, sorry.
-/
import Derived.Test.YtakkhdammmcjcaaGreatDoorRows
import GoSem.ClaimSeven
namespace Go.Proofs.YtakkhdammmcjcaaGreatDoor
namespace Rows

/-- THE TIED CARD OF 'partylinelaw22.CtlKnown'. -/
def ctlKnownCard : Claim7 := { stood := { row := ctlKnownRow, standIns := [], harness := (true, "14f224a05b009931e0732088a81e8972b6f81529fdbf3106d4de3c63d036043f"), looks := false }, kinds := [], alts := [], laidByText := true, laidKinds := [.data], laidTests := true, laidLooks := .later }
def CtlKnownCardSaid : Prop := Claim7.holds Tryz.pinned (.plain (OpenSpec.ofChange ctlKnownSpec)) ctlKnownCard

/-- THE SECOND FORM's CARD OF 'partylinelaw22.CtlKnown'. -/
def ctlKnownUptoCard : Claim7 := { stood := { row := ctlKnownUptoRow, standIns := [], harness := (true, "14f224a05b009931e0732088a81e8972b6f81529fdbf3106d4de3c63d036043f"), looks := false }, kinds := [], alts := [], laidByText := true, laidKinds := [.data], laidTests := true, laidLooks := .later }
def CtlKnownUptoCardSaid : Prop := Claim7.holds Tryz.pinned (.plain (OpenSpec.upto ctlKnownSpec)) ctlKnownUptoCard
end Rows
end Go.Proofs.YtakkhdammmcjcaaGreatDoor
