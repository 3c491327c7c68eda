/-
  DERIVED. GIVEN WITH THE SEED: THE CARDS: each row of YtfppimlmebnaeaaGreatDoorRows.lean that lists a variable, with what it lists TIED to the program's text (the seventh form; the later family's looks); each row that meets fmt, with fmt's text TOLD by the authors' own Lean function (tested against real Go, not proved from fmt's source: count such statements apart). THE CARD IS WHAT COUNTS. Prove the row's statement (the work); the ties are given (YtfppimlmebnaeaaGreatDoorTie.lean); close each card by the builder's one call (the guide's Derived/Test/ToyasCard.lean, 'card_holds'). Laid BY PROGRAM, IN A SANDBOX (cutbox-door.mjs). By AI agents, Wed Nov 11 2026. No macro, syntax, notation, axiom, sorry.
-/
import Derived.Test.YtfppimlmebnaeaaGreatDoorRows
import GoSem.ClaimSeven
namespace Go.Proofs.YtfppimlmebnaeaaGreatDoor
namespace Rows

/-- THE TIED CARD OF 'slackwaterlaw06.RealNames'. -/
def realNamesCard : Claim7 := { stood := { row := realNamesRow, standIns := [], harness := (true, "d62b4a3d6a7ac1c0048f836d4c3b4dd08bf0add74c6fd52282304be458d948dc"), looks := false }, kinds := [], alts := [], laidByText := true, laidKinds := [.data], laidTests := true, laidLooks := .later }
def RealNamesCardSaid : Prop := Claim7.holds Tryz.pinned (.plain (OpenSpec.ofChange realNamesSpec)) realNamesCard

/-- THE SECOND FORM's CARD OF 'slackwaterlaw06.RealNames'. -/
def realNamesUptoCard : Claim7 := { stood := { row := realNamesUptoRow, standIns := [], harness := (true, "d62b4a3d6a7ac1c0048f836d4c3b4dd08bf0add74c6fd52282304be458d948dc"), looks := false }, kinds := [], alts := [], laidByText := true, laidKinds := [.data], laidTests := true, laidLooks := .later }
def RealNamesUptoCardSaid : Prop := Claim7.holds Tryz.pinned (.plain (OpenSpec.upto realNamesSpec)) realNamesUptoCard
end Rows
end Go.Proofs.YtfppimlmebnaeaaGreatDoor
