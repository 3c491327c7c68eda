/-
  DERIVED. GIVEN WITH THE SEED: THE CARDS: each row of YtcjfbmehibhkbaaGreatDoorRows.lean that lists a variable, with what it lists TIED to the program's text (the seventh form; the later family's looks); each row that meets fmt, with fmt's text TOLD by the authors' own Lean function (tested against real Go, not proved from fmt's source: count such statements apart). THE CARD IS WHAT COUNTS. Prove the row's statement (the work); the ties are given (YtcjfbmehibhkbaaGreatDoorTie.lean); close each card by the builder's one call (the guide's Derived/Test/ToyasCard.lean, 'card_holds'). Laid BY PROGRAM, IN A SANDBOX (cutbox-door.mjs). By AI agents, Wed Nov 11 2026. No macro, syntax, notation, axiom, sorry.
-/
import Derived.Test.YtcjfbmehibhkbaaGreatDoorRows
import GoSem.ClaimSeven
namespace Go.Proofs.YtcjfbmehibhkbaaGreatDoor
namespace Rows

/-- THE TIED CARD OF 'slackwaterlaw05.RotorNames'. -/
def rotorNamesCard : Claim7 := { stood := { row := rotorNamesRow, standIns := [], harness := (true, "e5f6e65d1df36c9d4854d1b963302bd28a29215643a44fa82e0cb2d8c837f54b"), looks := false }, kinds := [], alts := [], laidByText := true, laidKinds := [.data, .data, .data], laidTests := true, laidLooks := .later }
def RotorNamesCardSaid : Prop := Claim7.holds Tryz.pinned (.plain (OpenSpec.ofChange rotorNamesSpec)) rotorNamesCard

/-- THE SECOND FORM's CARD OF 'slackwaterlaw05.RotorNames'. -/
def rotorNamesUptoCard : Claim7 := { stood := { row := rotorNamesUptoRow, standIns := [], harness := (true, "e5f6e65d1df36c9d4854d1b963302bd28a29215643a44fa82e0cb2d8c837f54b"), looks := false }, kinds := [], alts := [], laidByText := true, laidKinds := [.data, .data, .data], laidTests := true, laidLooks := .later }
def RotorNamesUptoCardSaid : Prop := Claim7.holds Tryz.pinned (.plain (OpenSpec.upto rotorNamesSpec)) rotorNamesUptoCard
end Rows
end Go.Proofs.YtcjfbmehibhkbaaGreatDoor
