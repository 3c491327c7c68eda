/-
  DERIVED. GIVEN WITH THE SEED: THE CARDS: each row of YtnfemheabikolaaGreatDoorRows.lean that lists a variable, with what it lists TIED to the program's text (the seventh form; the later family's looks); each row that meets fmt, with fmt's text TOLD by the authors' own Lean function (tested against real Go, not proved from fmt's source: count such statements apart). THE CARD IS WHAT COUNTS. Prove the row's statement (the work); the ties are given (YtnfemheabikolaaGreatDoorTie.lean); close each card by the builder's one call (the guide's Derived/Test/ToyasCard.lean, 'card_holds'). Laid BY PROGRAM, IN A SANDBOX (cutbox-door.mjs). By AI agents, Wed Nov 11 2026. No macro, syntax, notation, axiom, sorry.
-/
import Derived.Test.YtnfemheabikolaaGreatDoorRows
import GoSem.ClaimSeven
namespace Go.Proofs.YtnfemheabikolaaGreatDoor
namespace Rows

/-- THE TIED CARD OF 'slackwaterlaw14.PortNames'. -/
def portNamesCard : Claim7 := { stood := { row := portNamesRow, standIns := [], harness := (true, "c02a2cec1d4c5e867b45a6845befda8feece5b093552ca84e6cd0cdabf80a110"), looks := true }, kinds := [], alts := [], laidByText := true, laidKinds := [.data, .data, .data, .sentinel, .sentinel], laidTests := true, laidLooks := .later }
def PortNamesCardSaid : Prop := Claim7.holds Tryz.pinned (.plain (OpenSpec.ofChange portNamesSpec)) portNamesCard

/-- THE TIED CARD OF 'slackwaterlaw14.PortChecks'. -/
def portChecksCard : Claim7 := { stood := { row := portChecksRow, standIns := [], harness := (true, "c02a2cec1d4c5e867b45a6845befda8feece5b093552ca84e6cd0cdabf80a110"), looks := true }, kinds := [], alts := [], laidByText := true, laidKinds := [.data, .data, .data], laidTests := true, laidLooks := .later }
def PortChecksCardSaid : Prop := Claim7.holds Tryz.pinned (.plain (OpenSpec.ofChange portChecksSpec)) portChecksCard

/-- THE TIED CARD OF 'slackwaterlaw14.PortCalls'. -/
def portCallsCard : Claim7 := { stood := { row := portCallsRow, standIns := [], harness := (true, "c02a2cec1d4c5e867b45a6845befda8feece5b093552ca84e6cd0cdabf80a110"), looks := true }, kinds := [], alts := [], laidByText := true, laidKinds := [.data, .data, .data], laidTests := true, laidLooks := .later }
def PortCallsCardSaid : Prop := Claim7.holds Tryz.pinned (.plain (OpenSpec.ofChange portCallsSpec)) portCallsCard

/-- THE TIED CARD OF 'slackwaterlaw14.PortTexts'. -/
def portTextsCard : Claim7 := { stood := { row := portTextsRow, standIns := [], harness := (true, "c02a2cec1d4c5e867b45a6845befda8feece5b093552ca84e6cd0cdabf80a110"), looks := true }, kinds := [], alts := [], laidByText := true, laidKinds := [.data, .data, .data, .sentinel, .sentinel], laidTests := true, laidLooks := .later }
def PortTextsCardSaid : Prop := Claim7.holds Tryz.pinned (.plain (OpenSpec.ofChange portTextsSpec)) portTextsCard

/-- THE TIED CARD OF 'slackwaterlaw14.PortMoves'. -/
def portMovesCard : Claim7 := { stood := { row := portMovesRow, standIns := [], harness := (true, "c02a2cec1d4c5e867b45a6845befda8feece5b093552ca84e6cd0cdabf80a110"), looks := true }, kinds := [], alts := [], laidByText := true, laidKinds := [.data, .data, .data], laidTests := true, laidLooks := .later }
def PortMovesCardSaid : Prop := Claim7.holds Tryz.pinned (.plain (OpenSpec.ofChange portMovesSpec)) portMovesCard

/-- THE TIED CARD OF 'slackwaterlaw14.PortReal'. -/
def portRealCard : Claim7 := { stood := { row := portRealRow, standIns := [], harness := (true, "c02a2cec1d4c5e867b45a6845befda8feece5b093552ca84e6cd0cdabf80a110"), looks := true }, kinds := [], alts := [], laidByText := true, laidKinds := [.data, .data, .data], laidTests := true, laidLooks := .later }
def PortRealCardSaid : Prop := Claim7.holds Tryz.pinned (.plain (OpenSpec.ofChange portRealSpec)) portRealCard

/-- THE SECOND FORM's CARD OF 'slackwaterlaw14.PortNames'. -/
def portNamesUptoCard : Claim7 := { stood := { row := portNamesUptoRow, standIns := [], harness := (true, "c02a2cec1d4c5e867b45a6845befda8feece5b093552ca84e6cd0cdabf80a110"), looks := true }, kinds := [], alts := [], laidByText := true, laidKinds := [.data, .data, .data, .sentinel, .sentinel], laidTests := true, laidLooks := .later }
def PortNamesUptoCardSaid : Prop := Claim7.holds Tryz.pinned (.plain (OpenSpec.upto portNamesSpec)) portNamesUptoCard

/-- THE SECOND FORM's CARD OF 'slackwaterlaw14.PortChecks'. -/
def portChecksUptoCard : Claim7 := { stood := { row := portChecksUptoRow, standIns := [], harness := (true, "c02a2cec1d4c5e867b45a6845befda8feece5b093552ca84e6cd0cdabf80a110"), looks := true }, kinds := [], alts := [], laidByText := true, laidKinds := [.data, .data, .data], laidTests := true, laidLooks := .later }
def PortChecksUptoCardSaid : Prop := Claim7.holds Tryz.pinned (.plain (OpenSpec.upto portChecksSpec)) portChecksUptoCard

/-- THE SECOND FORM's CARD OF 'slackwaterlaw14.PortCalls'. -/
def portCallsUptoCard : Claim7 := { stood := { row := portCallsUptoRow, standIns := [], harness := (true, "c02a2cec1d4c5e867b45a6845befda8feece5b093552ca84e6cd0cdabf80a110"), looks := true }, kinds := [], alts := [], laidByText := true, laidKinds := [.data, .data, .data], laidTests := true, laidLooks := .later }
def PortCallsUptoCardSaid : Prop := Claim7.holds Tryz.pinned (.plain (OpenSpec.upto portCallsSpec)) portCallsUptoCard

/-- THE SECOND FORM's CARD OF 'slackwaterlaw14.PortTexts'. -/
def portTextsUptoCard : Claim7 := { stood := { row := portTextsUptoRow, standIns := [], harness := (true, "c02a2cec1d4c5e867b45a6845befda8feece5b093552ca84e6cd0cdabf80a110"), looks := true }, kinds := [], alts := [], laidByText := true, laidKinds := [.data, .data, .data, .sentinel, .sentinel], laidTests := true, laidLooks := .later }
def PortTextsUptoCardSaid : Prop := Claim7.holds Tryz.pinned (.plain (OpenSpec.upto portTextsSpec)) portTextsUptoCard

/-- THE SECOND FORM's CARD OF 'slackwaterlaw14.PortMoves'. -/
def portMovesUptoCard : Claim7 := { stood := { row := portMovesUptoRow, standIns := [], harness := (true, "c02a2cec1d4c5e867b45a6845befda8feece5b093552ca84e6cd0cdabf80a110"), looks := true }, kinds := [], alts := [], laidByText := true, laidKinds := [.data, .data, .data], laidTests := true, laidLooks := .later }
def PortMovesUptoCardSaid : Prop := Claim7.holds Tryz.pinned (.plain (OpenSpec.upto portMovesSpec)) portMovesUptoCard

/-- THE SECOND FORM's CARD OF 'slackwaterlaw14.PortReal'. -/
def portRealUptoCard : Claim7 := { stood := { row := portRealUptoRow, standIns := [], harness := (true, "c02a2cec1d4c5e867b45a6845befda8feece5b093552ca84e6cd0cdabf80a110"), looks := true }, kinds := [], alts := [], laidByText := true, laidKinds := [.data, .data, .data], laidTests := true, laidLooks := .later }
def PortRealUptoCardSaid : Prop := Claim7.holds Tryz.pinned (.plain (OpenSpec.upto portRealSpec)) portRealUptoCard
end Rows
end Go.Proofs.YtnfemheabikolaaGreatDoor
