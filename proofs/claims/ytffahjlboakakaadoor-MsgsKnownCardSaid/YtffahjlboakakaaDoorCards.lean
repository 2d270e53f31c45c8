/-
  DERIVED. GIVEN WITH THE SEED: THE CARDS: each row of YtffahjlboakakaaDoorRows.lean that lists a variable, with what it lists TIED to the program's text (the seventh form; the later family's looks); each row that meets fmt, with fmt's text TOLD by the authors' own Lean function (tested against real Go, not proved from fmt's source: count such statements apart). THE CARD IS WHAT COUNTS. Prove the row's statement (the work); the ties are given (YtffahjlboakakaaDoorTie.lean); close each card by the builder's one call (the guide's Derived/Test/ToyasCard.lean, 'card_holds'). Laid BY PROGRAM, IN A SANDBOX (cutbox-door.mjs). By AI agents, Wed Nov 11 2026. No macro, syntax, notation, axiom, sorry.
-/
import Derived.Test.YtffahjlboakakaaDoorRows
import GoSem.ClaimSeven
namespace Go.Proofs.YtffahjlboakakaaDoor
namespace Rows

/-- THE TIED CARD OF 'partylinelaw10.MsgsPuts'. -/
def msgsPutsCard : Claim7 := { stood := { row := msgsPutsRow, standIns := [], harness := (true, "c34b0c584c178597aec4a04b89067f90c0749759ce33e7a46ede7f84ea2e4e35"), looks := false }, kinds := [], alts := [], laidByText := true, laidKinds := [.data], laidTests := true, laidLooks := .later }
def MsgsPutsCardSaid : Prop := Claim7.holds Tryd.pinned (.plain (OpenSpec.ofChange msgsPutsSpec)) msgsPutsCard

/-- THE TIED CARD OF 'partylinelaw10.MsgsGets'. -/
def msgsGetsCard : Claim7 := { stood := { row := msgsGetsRow, standIns := [], harness := (true, "c34b0c584c178597aec4a04b89067f90c0749759ce33e7a46ede7f84ea2e4e35"), looks := false }, kinds := [], alts := [], laidByText := true, laidKinds := [.data], laidTests := true, laidLooks := .later }
def MsgsGetsCardSaid : Prop := Claim7.holds Tryd.pinned (.plain (OpenSpec.ofChange msgsGetsSpec)) msgsGetsCard

/-- THE TIED CARD OF 'partylinelaw10.MsgsBack'. -/
def msgsBackCard : Claim7 := { stood := { row := msgsBackRow, standIns := [], harness := (true, "c34b0c584c178597aec4a04b89067f90c0749759ce33e7a46ede7f84ea2e4e35"), looks := false }, kinds := [], alts := [], laidByText := true, laidKinds := [.data], laidTests := true, laidLooks := .later }
def MsgsBackCardSaid : Prop := Claim7.holds Tryd.pinned (.plain (OpenSpec.ofChange msgsBackSpec)) msgsBackCard

/-- THE TIED CARD OF 'partylinelaw10.MsgsKnown'. -/
def msgsKnownCard : Claim7 := { stood := { row := msgsKnownRow, standIns := [], harness := (true, "c34b0c584c178597aec4a04b89067f90c0749759ce33e7a46ede7f84ea2e4e35"), looks := false }, kinds := [], alts := [], laidByText := true, laidKinds := [.data], laidTests := true, laidLooks := .later }
def MsgsKnownCardSaid : Prop := Claim7.holds Tryd.pinned (.plain (OpenSpec.ofChange msgsKnownSpec)) msgsKnownCard

/-- THE SECOND FORM's CARD OF 'partylinelaw10.MsgsPuts'. -/
def msgsPutsUptoCard : Claim7 := { stood := { row := msgsPutsUptoRow, standIns := [], harness := (true, "c34b0c584c178597aec4a04b89067f90c0749759ce33e7a46ede7f84ea2e4e35"), looks := false }, kinds := [], alts := [], laidByText := true, laidKinds := [.data], laidTests := true, laidLooks := .later }
def MsgsPutsUptoCardSaid : Prop := Claim7.holds Tryd.pinned (.plain (OpenSpec.upto msgsPutsSpec)) msgsPutsUptoCard

/-- THE SECOND FORM's CARD OF 'partylinelaw10.MsgsGets'. -/
def msgsGetsUptoCard : Claim7 := { stood := { row := msgsGetsUptoRow, standIns := [], harness := (true, "c34b0c584c178597aec4a04b89067f90c0749759ce33e7a46ede7f84ea2e4e35"), looks := false }, kinds := [], alts := [], laidByText := true, laidKinds := [.data], laidTests := true, laidLooks := .later }
def MsgsGetsUptoCardSaid : Prop := Claim7.holds Tryd.pinned (.plain (OpenSpec.upto msgsGetsSpec)) msgsGetsUptoCard

/-- THE SECOND FORM's CARD OF 'partylinelaw10.MsgsBack'. -/
def msgsBackUptoCard : Claim7 := { stood := { row := msgsBackUptoRow, standIns := [], harness := (true, "c34b0c584c178597aec4a04b89067f90c0749759ce33e7a46ede7f84ea2e4e35"), looks := false }, kinds := [], alts := [], laidByText := true, laidKinds := [.data], laidTests := true, laidLooks := .later }
def MsgsBackUptoCardSaid : Prop := Claim7.holds Tryd.pinned (.plain (OpenSpec.upto msgsBackSpec)) msgsBackUptoCard

/-- THE SECOND FORM's CARD OF 'partylinelaw10.MsgsKnown'. -/
def msgsKnownUptoCard : Claim7 := { stood := { row := msgsKnownUptoRow, standIns := [], harness := (true, "c34b0c584c178597aec4a04b89067f90c0749759ce33e7a46ede7f84ea2e4e35"), looks := false }, kinds := [], alts := [], laidByText := true, laidKinds := [.data], laidTests := true, laidLooks := .later }
def MsgsKnownUptoCardSaid : Prop := Claim7.holds Tryd.pinned (.plain (OpenSpec.upto msgsKnownSpec)) msgsKnownUptoCard
end Rows
end Go.Proofs.YtffahjlboakakaaDoor
