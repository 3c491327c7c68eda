/-
  DERIVED. GIVEN WITH THE SEED: THE CARDS: each row of YtldeiapikkebgaaGreatDoorRows.lean that lists a variable, with what it lists TIED to the program's text (the seventh form; the later family's looks); each row that meets fmt, with fmt's text TOLD by the authors' own Lean function (tested against real Go, not proved from fmt's source: count such statements apart). THE CARD IS WHAT COUNTS. Prove the row's statement (the work); the ties are given (YtldeiapikkebgaaGreatDoorTie.lean); close each card by the builder's one call (the guide's Derived/Test/ToyasCard.lean, 'card_holds'). Laid BY PROGRAM, IN A SANDBOX (cutbox-door.mjs). By AI agents, Wed Nov 11 2026. No macro, syntax, notation, axiom, sorry.
-/
import Derived.Test.YtldeiapikkebgaaGreatDoorRows
import GoSem.ClaimSeven
namespace Go.Proofs.YtldeiapikkebgaaGreatDoor
namespace Rows

/-- THE TIED CARD OF 'slackwaterlaw13.TideTexts'. -/
def tideTextsCard : Claim7 := { stood := { row := tideTextsRow, standIns := [], harness := (true, "82d9f1f521d70142b7f0387f336436843e69e127b2ec18cf39934839a982e26a"), looks := true }, kinds := [], alts := [], laidByText := true, laidKinds := [.data, .data, .data, .sentinel, .sentinel], laidTests := true, laidLooks := .later }
def TideTextsCardSaid : Prop := Claim7.holds Tryz.pinned (.plain (OpenSpec.ofChange tideTextsSpec)) tideTextsCard

/-- THE SECOND FORM's CARD OF 'slackwaterlaw13.TideTexts'. -/
def tideTextsUptoCard : Claim7 := { stood := { row := tideTextsUptoRow, standIns := [], harness := (true, "82d9f1f521d70142b7f0387f336436843e69e127b2ec18cf39934839a982e26a"), looks := true }, kinds := [], alts := [], laidByText := true, laidKinds := [.data, .data, .data, .sentinel, .sentinel], laidTests := true, laidLooks := .later }
def TideTextsUptoCardSaid : Prop := Claim7.holds Tryz.pinned (.plain (OpenSpec.upto tideTextsSpec)) tideTextsUptoCard
end Rows
end Go.Proofs.YtldeiapikkebgaaGreatDoor
