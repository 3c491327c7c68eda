/-
  DERIVED. GIVEN WITH THE SEED: THE CARDS: each row of YtnhmaijmmkplkaaGreatDoorRows.lean that lists a variable, with what it lists TIED to the program's text (the seventh form; the later family's looks); each row that meets fmt, with fmt's text TOLD by the authors' own Lean function (tested against real Go, not proved from fmt's source: count such statements apart). THE CARD IS WHAT COUNTS. Prove the row's statement (the work); the ties are given (YtnhmaijmmkplkaaGreatDoorTie.lean); close each card by the builder's one call (the guide's Derived/Test/ToyasCard.lean, 'card_holds'). Laid BY PROGRAM, IN A SANDBOX (cutbox-door.mjs). By AI agents, Wed Nov 11 2026. No macro, syntax, notation, axiom, sorry.
-/
import Derived.Test.YtnhmaijmmkplkaaGreatDoorRows
import GoSem.ClaimSeven
namespace Go.Proofs.YtnhmaijmmkplkaaGreatDoor
namespace Rows

/-- THE TIED CARD OF 'slackwaterlaw14.PortNames'. -/
def portNamesCard : Claim7 := { stood := { row := portNamesRow, standIns := [], harness := (true, "0f334ffb11201bc401f6200dbe090e53597f0dd515ae49d2b2196b77dcc9f02a"), looks := true }, kinds := [], alts := [], laidByText := true, laidKinds := [.data, .data, .data, .sentinel, .sentinel], laidTests := true, laidLooks := .later }
def PortNamesCardSaid : Prop := Claim7.holds Tryz.pinned (.plain (OpenSpec.ofChange portNamesSpec)) portNamesCard

/-- THE TIED CARD OF 'slackwaterlaw14.PortChecks'. -/
def portChecksCard : Claim7 := { stood := { row := portChecksRow, standIns := [], harness := (true, "0f334ffb11201bc401f6200dbe090e53597f0dd515ae49d2b2196b77dcc9f02a"), looks := true }, kinds := [], alts := [], laidByText := true, laidKinds := [.data, .data, .data], laidTests := true, laidLooks := .later }
def PortChecksCardSaid : Prop := Claim7.holds Tryz.pinned (.plain (OpenSpec.ofChange portChecksSpec)) portChecksCard

/-- THE TIED CARD OF 'slackwaterlaw14.PortCalls'. -/
def portCallsCard : Claim7 := { stood := { row := portCallsRow, standIns := [], harness := (true, "0f334ffb11201bc401f6200dbe090e53597f0dd515ae49d2b2196b77dcc9f02a"), looks := true }, kinds := [], alts := [], laidByText := true, laidKinds := [.data, .data, .data], laidTests := true, laidLooks := .later }
def PortCallsCardSaid : Prop := Claim7.holds Tryz.pinned (.plain (OpenSpec.ofChange portCallsSpec)) portCallsCard

/-- THE TIED CARD OF 'slackwaterlaw14.PortTexts'. -/
def portTextsCard : Claim7 := { stood := { row := portTextsRow, standIns := [], harness := (true, "0f334ffb11201bc401f6200dbe090e53597f0dd515ae49d2b2196b77dcc9f02a"), looks := true }, kinds := [], alts := [], laidByText := true, laidKinds := [.data, .data, .data, .sentinel, .sentinel], laidTests := true, laidLooks := .later }
def PortTextsCardSaid : Prop := Claim7.holds Tryz.pinned (.plain (OpenSpec.ofChange portTextsSpec)) portTextsCard

/-- THE SECOND FORM's CARD OF 'slackwaterlaw14.PortNames'. -/
def portNamesUptoCard : Claim7 := { stood := { row := portNamesUptoRow, standIns := [], harness := (true, "0f334ffb11201bc401f6200dbe090e53597f0dd515ae49d2b2196b77dcc9f02a"), looks := true }, kinds := [], alts := [], laidByText := true, laidKinds := [.data, .data, .data, .sentinel, .sentinel], laidTests := true, laidLooks := .later }
def PortNamesUptoCardSaid : Prop := Claim7.holds Tryz.pinned (.plain (OpenSpec.upto portNamesSpec)) portNamesUptoCard

/-- THE SECOND FORM's CARD OF 'slackwaterlaw14.PortChecks'. -/
def portChecksUptoCard : Claim7 := { stood := { row := portChecksUptoRow, standIns := [], harness := (true, "0f334ffb11201bc401f6200dbe090e53597f0dd515ae49d2b2196b77dcc9f02a"), looks := true }, kinds := [], alts := [], laidByText := true, laidKinds := [.data, .data, .data], laidTests := true, laidLooks := .later }
def PortChecksUptoCardSaid : Prop := Claim7.holds Tryz.pinned (.plain (OpenSpec.upto portChecksSpec)) portChecksUptoCard

/-- THE SECOND FORM's CARD OF 'slackwaterlaw14.PortCalls'. -/
def portCallsUptoCard : Claim7 := { stood := { row := portCallsUptoRow, standIns := [], harness := (true, "0f334ffb11201bc401f6200dbe090e53597f0dd515ae49d2b2196b77dcc9f02a"), looks := true }, kinds := [], alts := [], laidByText := true, laidKinds := [.data, .data, .data], laidTests := true, laidLooks := .later }
def PortCallsUptoCardSaid : Prop := Claim7.holds Tryz.pinned (.plain (OpenSpec.upto portCallsSpec)) portCallsUptoCard

/-- THE SECOND FORM's CARD OF 'slackwaterlaw14.PortTexts'. -/
def portTextsUptoCard : Claim7 := { stood := { row := portTextsUptoRow, standIns := [], harness := (true, "0f334ffb11201bc401f6200dbe090e53597f0dd515ae49d2b2196b77dcc9f02a"), looks := true }, kinds := [], alts := [], laidByText := true, laidKinds := [.data, .data, .data, .sentinel, .sentinel], laidTests := true, laidLooks := .later }
def PortTextsUptoCardSaid : Prop := Claim7.holds Tryz.pinned (.plain (OpenSpec.upto portTextsSpec)) portTextsUptoCard
end Rows
end Go.Proofs.YtnhmaijmmkplkaaGreatDoor
