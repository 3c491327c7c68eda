/-
  DERIVED. GIVEN WITH THE SEED: THE CARDS: each row of YtalapdhdlboknaaGreatDoorRows.lean that lists a variable, with what it lists TIED to the program's text (the seventh form; the later family's looks); each row that meets fmt, with fmt's text TOLD by the authors' own Lean function (tested against real Go, not proved from fmt's source: count such statements apart). THE CARD IS WHAT COUNTS. Prove the row's statement (the work); the ties are given (YtalapdhdlboknaaGreatDoorTie.lean); close each card by the builder's one call (the guide's Derived/Test/ToyasCard.lean, 'card_holds'). Laid BY PROGRAM, IN A SANDBOX (cutbox-door.mjs). By AI agents, Wed Nov 11 2026. No macro, syntax, notation, axiom, sorry.
-/
import Derived.Test.YtalapdhdlboknaaGreatDoorRows
import GoSem.ClaimSeven
namespace Go.Proofs.YtalapdhdlboknaaGreatDoor
namespace Rows

/-- THE TIED CARD OF 'slackwaterlaw04.GaussField'. -/
def gaussFieldCard : Claim7 := { stood := { row := gaussFieldRow, standIns := [], harness := (true, "b391aaddb22ae4f7e8d1e55426cd78c79beb7aa7f5b46eccf0972431af0e4b7c"), looks := false }, kinds := [], alts := [], laidByText := true, laidKinds := [.data, .data, .data], laidTests := true, laidLooks := .later }
def GaussFieldCardSaid : Prop := Claim7.holds Tryz.pinned (.plain (OpenSpec.ofChange gaussFieldSpec)) gaussFieldCard

/-- THE TIED CARD OF 'slackwaterlaw04.GaussConj'. -/
def gaussConjCard : Claim7 := { stood := { row := gaussConjRow, standIns := [], harness := (true, "b391aaddb22ae4f7e8d1e55426cd78c79beb7aa7f5b46eccf0972431af0e4b7c"), looks := false }, kinds := [], alts := [], laidByText := true, laidKinds := [.data, .data, .data], laidTests := true, laidLooks := .later }
def GaussConjCardSaid : Prop := Claim7.holds Tryz.pinned (.plain (OpenSpec.ofChange gaussConjSpec)) gaussConjCard

/-- THE SECOND FORM's CARD OF 'slackwaterlaw04.GaussField'. -/
def gaussFieldUptoCard : Claim7 := { stood := { row := gaussFieldUptoRow, standIns := [], harness := (true, "b391aaddb22ae4f7e8d1e55426cd78c79beb7aa7f5b46eccf0972431af0e4b7c"), looks := false }, kinds := [], alts := [], laidByText := true, laidKinds := [.data, .data, .data], laidTests := true, laidLooks := .later }
def GaussFieldUptoCardSaid : Prop := Claim7.holds Tryz.pinned (.plain (OpenSpec.upto gaussFieldSpec)) gaussFieldUptoCard

/-- THE SECOND FORM's CARD OF 'slackwaterlaw04.GaussConj'. -/
def gaussConjUptoCard : Claim7 := { stood := { row := gaussConjUptoRow, standIns := [], harness := (true, "b391aaddb22ae4f7e8d1e55426cd78c79beb7aa7f5b46eccf0972431af0e4b7c"), looks := false }, kinds := [], alts := [], laidByText := true, laidKinds := [.data, .data, .data], laidTests := true, laidLooks := .later }
def GaussConjUptoCardSaid : Prop := Claim7.holds Tryz.pinned (.plain (OpenSpec.upto gaussConjSpec)) gaussConjUptoCard
end Rows
end Go.Proofs.YtalapdhdlboknaaGreatDoor
