/-
  DERIVED. GIVEN WITH THE SEED: THE CARDS: each row of YtakkhdammmcjcaaDoorRows.lean that lists a variable, with what it lists TIED to the program's text (the seventh form; the later family's looks); each row that meets fmt, with fmt's text TOLD by the authors' own Lean function (tested against real Go, not proved from fmt's source: count such statements apart). THE CARD IS WHAT COUNTS. Prove the row's statement (the work); the ties are given (YtakkhdammmcjcaaDoorTie.lean); close each card by the builder's one call (the guide's Derived/Test/ToyasCard.lean, 'card_holds'). Laid BY PROGRAM, IN A SANDBOX (cutbox-door.mjs). By AI agents, Wed Nov 11 2026. No macro, syntax, notation, axiom, sorry.
-/
import Derived.Test.YtakkhdammmcjcaaDoorRows
import GoSem.ClaimSeven
namespace Go.Proofs.YtakkhdammmcjcaaDoor
namespace Rows

/-- THE TIED CARD OF 'partylinelaw22.CtlMeets'. -/
def ctlMeetsCard : Claim7 := { stood := { row := ctlMeetsRow, standIns := [], harness := (true, "1996113ff554e2ec0ade1f05ca06b7ad6dda3190b87e4546cdbf3117bfd5c010"), looks := false }, kinds := [], alts := [], laidByText := true, laidKinds := [.data], laidTests := true, laidLooks := .later }
def CtlMeetsCardSaid : Prop := Claim7.holds Tryd.pinned (.plain (OpenSpec.ofChange ctlMeetsSpec)) ctlMeetsCard

/-- THE TIED CARD OF 'partylinelaw22.CtlGives'. -/
def ctlGivesCard : Claim7 := { stood := { row := ctlGivesRow, standIns := [], harness := (true, "1996113ff554e2ec0ade1f05ca06b7ad6dda3190b87e4546cdbf3117bfd5c010"), looks := false }, kinds := [], alts := [], laidByText := true, laidKinds := [.data], laidTests := true, laidLooks := .later }
def CtlGivesCardSaid : Prop := Claim7.holds Tryd.pinned (.plain (OpenSpec.ofChange ctlGivesSpec)) ctlGivesCard

/-- THE TIED CARD OF 'partylinelaw22.CtlNone'. -/
def ctlNoneCard : Claim7 := { stood := { row := ctlNoneRow, standIns := [], harness := (true, "1996113ff554e2ec0ade1f05ca06b7ad6dda3190b87e4546cdbf3117bfd5c010"), looks := false }, kinds := [], alts := [], laidByText := true, laidKinds := [.data], laidTests := true, laidLooks := .later }
def CtlNoneCardSaid : Prop := Claim7.holds Tryd.pinned (.plain (OpenSpec.ofChange ctlNoneSpec)) ctlNoneCard

/-- THE SECOND FORM's CARD OF 'partylinelaw22.CtlMeets'. -/
def ctlMeetsUptoCard : Claim7 := { stood := { row := ctlMeetsUptoRow, standIns := [], harness := (true, "1996113ff554e2ec0ade1f05ca06b7ad6dda3190b87e4546cdbf3117bfd5c010"), looks := false }, kinds := [], alts := [], laidByText := true, laidKinds := [.data], laidTests := true, laidLooks := .later }
def CtlMeetsUptoCardSaid : Prop := Claim7.holds Tryd.pinned (.plain (OpenSpec.upto ctlMeetsSpec)) ctlMeetsUptoCard

/-- THE SECOND FORM's CARD OF 'partylinelaw22.CtlGives'. -/
def ctlGivesUptoCard : Claim7 := { stood := { row := ctlGivesUptoRow, standIns := [], harness := (true, "1996113ff554e2ec0ade1f05ca06b7ad6dda3190b87e4546cdbf3117bfd5c010"), looks := false }, kinds := [], alts := [], laidByText := true, laidKinds := [.data], laidTests := true, laidLooks := .later }
def CtlGivesUptoCardSaid : Prop := Claim7.holds Tryd.pinned (.plain (OpenSpec.upto ctlGivesSpec)) ctlGivesUptoCard

/-- THE SECOND FORM's CARD OF 'partylinelaw22.CtlNone'. -/
def ctlNoneUptoCard : Claim7 := { stood := { row := ctlNoneUptoRow, standIns := [], harness := (true, "1996113ff554e2ec0ade1f05ca06b7ad6dda3190b87e4546cdbf3117bfd5c010"), looks := false }, kinds := [], alts := [], laidByText := true, laidKinds := [.data], laidTests := true, laidLooks := .later }
def CtlNoneUptoCardSaid : Prop := Claim7.holds Tryd.pinned (.plain (OpenSpec.upto ctlNoneSpec)) ctlNoneUptoCard
end Rows
end Go.Proofs.YtakkhdammmcjcaaDoor
