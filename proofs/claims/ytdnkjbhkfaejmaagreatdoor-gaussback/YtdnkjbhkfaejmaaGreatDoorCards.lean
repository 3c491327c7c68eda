/-
  DERIVED. GIVEN WITH THE SEED: THE CARDS: each row of YtdnkjbhkfaejmaaGreatDoorRows.lean that lists a variable, with what it lists TIED to the program's text (the seventh form; the later family's looks); each row that meets fmt, with fmt's text TOLD by the authors' own Lean function (tested against real Go, not proved from fmt's source: count such statements apart). THE CARD IS WHAT COUNTS. Prove the row's statement (the work); the ties are given (YtdnkjbhkfaejmaaGreatDoorTie.lean); close each card by the builder's one call (the guide's Derived/Test/ToyasCard.lean, 'card_holds'). Laid BY PROGRAM, IN A SANDBOX (cutbox-door.mjs). By AI agents, Wed Nov 11 2026. No macro, syntax, notation, axiom, sorry.
-/
import Derived.Test.YtdnkjbhkfaejmaaGreatDoorRows
import GoSem.ClaimSeven
namespace Go.Proofs.YtdnkjbhkfaejmaaGreatDoor
namespace Rows

/-- THE TIED CARD OF 'slackwaterlaw04.GaussBack'. -/
def gaussBackCard : Claim7 := { stood := { row := gaussBackRow, standIns := [], harness := (true, "dd193de6eac584132bddf10b23bc66f45f46809fe472caeea23ce9c4ecb2c195"), looks := false }, kinds := [], alts := [], laidByText := true, laidKinds := [.data, .data, .data], laidTests := true, laidLooks := .later }
def GaussBackCardSaid : Prop := Claim7.holds Tryz.pinned (.plain (OpenSpec.ofChange gaussBackSpec)) gaussBackCard

/-- THE TIED CARD OF 'slackwaterlaw04.GaussKnown'. -/
def gaussKnownCard : Claim7 := { stood := { row := gaussKnownRow, standIns := [], harness := (true, "dd193de6eac584132bddf10b23bc66f45f46809fe472caeea23ce9c4ecb2c195"), looks := false }, kinds := [], alts := [], laidByText := true, laidKinds := [.data, .data, .data], laidTests := true, laidLooks := .later }
def GaussKnownCardSaid : Prop := Claim7.holds Tryz.pinned (.plain (OpenSpec.ofChange gaussKnownSpec)) gaussKnownCard

/-- THE SECOND FORM's CARD OF 'slackwaterlaw04.GaussBack'. -/
def gaussBackUptoCard : Claim7 := { stood := { row := gaussBackUptoRow, standIns := [], harness := (true, "dd193de6eac584132bddf10b23bc66f45f46809fe472caeea23ce9c4ecb2c195"), looks := false }, kinds := [], alts := [], laidByText := true, laidKinds := [.data, .data, .data], laidTests := true, laidLooks := .later }
def GaussBackUptoCardSaid : Prop := Claim7.holds Tryz.pinned (.plain (OpenSpec.upto gaussBackSpec)) gaussBackUptoCard

/-- THE SECOND FORM's CARD OF 'slackwaterlaw04.GaussKnown'. -/
def gaussKnownUptoCard : Claim7 := { stood := { row := gaussKnownUptoRow, standIns := [], harness := (true, "dd193de6eac584132bddf10b23bc66f45f46809fe472caeea23ce9c4ecb2c195"), looks := false }, kinds := [], alts := [], laidByText := true, laidKinds := [.data, .data, .data], laidTests := true, laidLooks := .later }
def GaussKnownUptoCardSaid : Prop := Claim7.holds Tryz.pinned (.plain (OpenSpec.upto gaussKnownSpec)) gaussKnownUptoCard
end Rows
end Go.Proofs.YtdnkjbhkfaejmaaGreatDoor
