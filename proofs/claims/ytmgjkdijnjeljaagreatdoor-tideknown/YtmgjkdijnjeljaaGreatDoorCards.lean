/-
  DERIVED. GIVEN WITH THE SEED: THE CARDS: each row of YtmgjkdijnjeljaaGreatDoorRows.lean that lists a variable, with what it lists TIED to the program's text (the seventh form; the later family's looks); each row that meets fmt, with fmt's text TOLD by the authors' own Lean function (tested against real Go, not proved from fmt's source: count such statements apart). THE CARD IS WHAT COUNTS. Prove the row's statement (the work); the ties are given (YtmgjkdijnjeljaaGreatDoorTie.lean); close each card by the builder's one call (the guide's Derived/Test/ToyasCard.lean, 'card_holds'). Laid BY PROGRAM, IN A SANDBOX (cutbox-door.mjs). By AI agents, Wed Nov 11 2026. No macro, syntax, notation, axiom, sorry.
-/
import Derived.Test.YtmgjkdijnjeljaaGreatDoorRows
import GoSem.ClaimSeven
namespace Go.Proofs.YtmgjkdijnjeljaaGreatDoor
namespace Rows

/-- THE TIED CARD OF 'slackwaterlaw13.TideNames'. -/
def tideNamesCard : Claim7 := { stood := { row := tideNamesRow, standIns := [], harness := (true, "8113c14a77a1e2fa7b58506aa246a303abdf9d0f37dea8b6478d6d9a4c990b80"), looks := true }, kinds := [], alts := [], laidByText := true, laidKinds := [.data, .data, .data, .sentinel, .sentinel], laidTests := true, laidLooks := .later }
def TideNamesCardSaid : Prop := Claim7.holds Tryz.pinned (.plain (OpenSpec.ofChange tideNamesSpec)) tideNamesCard

/-- THE TIED CARD OF 'slackwaterlaw13.TideKnown'. -/
def tideKnownCard : Claim7 := { stood := { row := tideKnownRow, standIns := [], harness := (true, "8113c14a77a1e2fa7b58506aa246a303abdf9d0f37dea8b6478d6d9a4c990b80"), looks := true }, kinds := [], alts := [], laidByText := true, laidKinds := [.data, .data, .data, .sentinel, .sentinel], laidTests := true, laidLooks := .later }
def TideKnownCardSaid : Prop := Claim7.holds Tryz.pinned (.plain (OpenSpec.ofChange tideKnownSpec)) tideKnownCard

/-- THE SECOND FORM's CARD OF 'slackwaterlaw13.TideNames'. -/
def tideNamesUptoCard : Claim7 := { stood := { row := tideNamesUptoRow, standIns := [], harness := (true, "8113c14a77a1e2fa7b58506aa246a303abdf9d0f37dea8b6478d6d9a4c990b80"), looks := true }, kinds := [], alts := [], laidByText := true, laidKinds := [.data, .data, .data, .sentinel, .sentinel], laidTests := true, laidLooks := .later }
def TideNamesUptoCardSaid : Prop := Claim7.holds Tryz.pinned (.plain (OpenSpec.upto tideNamesSpec)) tideNamesUptoCard

/-- THE SECOND FORM's CARD OF 'slackwaterlaw13.TideKnown'. -/
def tideKnownUptoCard : Claim7 := { stood := { row := tideKnownUptoRow, standIns := [], harness := (true, "8113c14a77a1e2fa7b58506aa246a303abdf9d0f37dea8b6478d6d9a4c990b80"), looks := true }, kinds := [], alts := [], laidByText := true, laidKinds := [.data, .data, .data, .sentinel, .sentinel], laidTests := true, laidLooks := .later }
def TideKnownUptoCardSaid : Prop := Claim7.holds Tryz.pinned (.plain (OpenSpec.upto tideKnownSpec)) tideKnownUptoCard
end Rows
end Go.Proofs.YtmgjkdijnjeljaaGreatDoor
