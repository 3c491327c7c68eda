/-
  DERIVED. GIVEN WITH THE SEED: THE CARDS: each row of YtoigpodamciehaaGreatDoorRows.lean that lists a variable, with what it lists TIED to the program's text (the seventh form; the later family's looks); each row that meets fmt, with fmt's text TOLD by the authors' own Lean function (tested against real Go, not proved from fmt's source: count such statements apart). THE CARD IS WHAT COUNTS. Prove the row's statement (the work); the ties are given (YtoigpodamciehaaGreatDoorTie.lean); close each card by the builder's one call (the guide's Derived/Test/ToyasCard.lean, 'card_holds'). Laid BY PROGRAM, IN A SANDBOX (cutbox-door.mjs). By AI agents, Wed Nov 11 2026. No macro, syntax, notation, axiom, sorry.
-/
import Derived.Test.YtoigpodamciehaaGreatDoorRows
import GoSem.ClaimSeven
namespace Go.Proofs.YtoigpodamciehaaGreatDoor
namespace Rows

/-- THE TIED CARD OF 'slackwaterlaw06.RealNearest'. -/
def realNearestCard : Claim7 := { stood := { row := realNearestRow, standIns := [], harness := (true, "c86ee2d13632eb560d9d429c135318879a0acd0927b4e9f122d1ec9d1960cbad"), looks := false }, kinds := [], alts := [], laidByText := true, laidKinds := [.data], laidTests := true, laidLooks := .later }
def RealNearestCardSaid : Prop := Claim7.holds Tryz.pinned (.plain (OpenSpec.ofChange realNearestSpec)) realNearestCard

/-- THE SECOND FORM's CARD OF 'slackwaterlaw06.RealNearest'. -/
def realNearestUptoCard : Claim7 := { stood := { row := realNearestUptoRow, standIns := [], harness := (true, "c86ee2d13632eb560d9d429c135318879a0acd0927b4e9f122d1ec9d1960cbad"), looks := false }, kinds := [], alts := [], laidByText := true, laidKinds := [.data], laidTests := true, laidLooks := .later }
def RealNearestUptoCardSaid : Prop := Claim7.holds Tryz.pinned (.plain (OpenSpec.upto realNearestSpec)) realNearestUptoCard
end Rows
end Go.Proofs.YtoigpodamciehaaGreatDoor
