/-
  DERIVED. GIVEN WITH THE SEED: THE CARDS: each row of YthaggppcbaeokaaGreatDoorRows.lean that lists a variable, with what it lists TIED to the program's text (the seventh form; the later family's looks); each row that meets fmt, with fmt's text TOLD by the authors' own Lean function (tested against real Go, not proved from fmt's source: count such statements apart). THE CARD IS WHAT COUNTS. Prove the row's statement (the work); the ties are given (YthaggppcbaeokaaGreatDoorTie.lean); close each card by the builder's one call (the guide's Derived/Test/ToyasCard.lean, 'card_holds'). Laid BY PROGRAM, IN A SANDBOX (cutbox-door.mjs). By AI agents, Wed Nov 11 2026. No macro, syntax, notation, axiom, sorry.
-/
import Derived.Test.YthaggppcbaeokaaGreatDoorRows
import GoSem.ClaimSeven
namespace Go.Proofs.YthaggppcbaeokaaGreatDoor
namespace Rows

/-- THE TIED CARD OF 'slackwaterlaw14.PortBack'. -/
def portBackCard : Claim7 := { stood := { row := portBackRow, standIns := [], harness := (true, "097e68f9326275aae540d49a3de35f7b307e4267f343c41c2bebf1e40569c499"), looks := true }, kinds := [], alts := [], laidByText := true, laidKinds := [.data, .data, .data, .sentinel, .sentinel], laidTests := true, laidLooks := .later }
def PortBackCardSaid : Prop := Claim7.holds Tryz.pinned (.plain (OpenSpec.ofChange portBackSpec)) portBackCard

/-- THE SECOND FORM's CARD OF 'slackwaterlaw14.PortBack'. -/
def portBackUptoCard : Claim7 := { stood := { row := portBackUptoRow, standIns := [], harness := (true, "097e68f9326275aae540d49a3de35f7b307e4267f343c41c2bebf1e40569c499"), looks := true }, kinds := [], alts := [], laidByText := true, laidKinds := [.data, .data, .data, .sentinel, .sentinel], laidTests := true, laidLooks := .later }
def PortBackUptoCardSaid : Prop := Claim7.holds Tryz.pinned (.plain (OpenSpec.upto portBackSpec)) portBackUptoCard
end Rows
end Go.Proofs.YthaggppcbaeokaaGreatDoor
