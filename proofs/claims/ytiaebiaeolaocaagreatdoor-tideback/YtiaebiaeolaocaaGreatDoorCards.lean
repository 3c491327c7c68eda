/-
  DERIVED. GIVEN WITH THE SEED: THE CARDS: each row of YtiaebiaeolaocaaGreatDoorRows.lean that lists a variable, with what it lists TIED to the program's text (the seventh form; the later family's looks); each row that meets fmt, with fmt's text TOLD by the authors' own Lean function (tested against real Go, not proved from fmt's source: count such statements apart). THE CARD IS WHAT COUNTS. Prove the row's statement (the work); the ties are given (YtiaebiaeolaocaaGreatDoorTie.lean); close each card by the builder's one call (the guide's Derived/Test/ToyasCard.lean, 'card_holds'). Laid BY PROGRAM, IN A SANDBOX (cutbox-door.mjs). By AI agents, Wed Nov 11 2026. No macro, syntax, notation, axiom, sorry.
-/
import Derived.Test.YtiaebiaeolaocaaGreatDoorRows
import GoSem.ClaimSeven
namespace Go.Proofs.YtiaebiaeolaocaaGreatDoor
namespace Rows

/-- THE TIED CARD OF 'slackwaterlaw13.TideBack'. -/
def tideBackCard : Claim7 := { stood := { row := tideBackRow, standIns := [], harness := (true, "16706e742b723061afcb9ff576c09c0e79074a85790d17849f2e2fa4800b9aeb"), looks := true }, kinds := [], alts := [], laidByText := true, laidKinds := [.data, .data, .data, .sentinel, .sentinel], laidTests := true, laidLooks := .later }
def TideBackCardSaid : Prop := Claim7.holds Tryz.pinned (.plain (OpenSpec.ofChange tideBackSpec)) tideBackCard

/-- THE SECOND FORM's CARD OF 'slackwaterlaw13.TideBack'. -/
def tideBackUptoCard : Claim7 := { stood := { row := tideBackUptoRow, standIns := [], harness := (true, "16706e742b723061afcb9ff576c09c0e79074a85790d17849f2e2fa4800b9aeb"), looks := true }, kinds := [], alts := [], laidByText := true, laidKinds := [.data, .data, .data, .sentinel, .sentinel], laidTests := true, laidLooks := .later }
def TideBackUptoCardSaid : Prop := Claim7.holds Tryz.pinned (.plain (OpenSpec.upto tideBackSpec)) tideBackUptoCard
end Rows
end Go.Proofs.YtiaebiaeolaocaaGreatDoor
