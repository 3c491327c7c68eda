/-
  DERIVED. GIVEN WITH THE SEED: THE CARDS: each row of YtakeolfaamnkkaaGreatDoorRows.lean that lists a variable, with what it lists TIED to the program's text (the seventh form; the later family's looks); each row that meets fmt, with fmt's text TOLD by the authors' own Lean function (tested against real Go, not proved from fmt's source: count such statements apart). THE CARD IS WHAT COUNTS. Prove the row's statement (the work); the ties are given (YtakeolfaamnkkaaGreatDoorTie.lean); close each card by the builder's one call (the guide's Derived/Test/ToyasCard.lean, 'card_holds'). Laid BY PROGRAM, IN A SANDBOX (cutbox-door.mjs). By AI agents, Wed Nov 11 2026. No macro, syntax, notation, axiom, sorry.
-/
import Derived.Test.YtakeolfaamnkkaaGreatDoorRows
import GoSem.ClaimSeven
namespace Go.Proofs.YtakeolfaamnkkaaGreatDoor
namespace Rows

/-- THE TIED CARD OF 'slackwaterlaw04.GaussKnown'. -/
def gaussKnownCard : Claim7 := { stood := { row := gaussKnownRow, standIns := [], harness := (true, "91338f50c29810c9f8a73950e029cec525e1a029172380084b2600020158ed85"), looks := false }, kinds := [], alts := [], laidByText := true, laidKinds := [.data, .data, .data], laidTests := true, laidLooks := .later }
def GaussKnownCardSaid : Prop := Claim7.holds Tryz.pinned (.plain (OpenSpec.ofChange gaussKnownSpec)) gaussKnownCard

/-- THE SECOND FORM's CARD OF 'slackwaterlaw04.GaussKnown'. -/
def gaussKnownUptoCard : Claim7 := { stood := { row := gaussKnownUptoRow, standIns := [], harness := (true, "91338f50c29810c9f8a73950e029cec525e1a029172380084b2600020158ed85"), looks := false }, kinds := [], alts := [], laidByText := true, laidKinds := [.data, .data, .data], laidTests := true, laidLooks := .later }
def GaussKnownUptoCardSaid : Prop := Claim7.holds Tryz.pinned (.plain (OpenSpec.upto gaussKnownSpec)) gaussKnownUptoCard
end Rows
end Go.Proofs.YtakeolfaamnkkaaGreatDoor
