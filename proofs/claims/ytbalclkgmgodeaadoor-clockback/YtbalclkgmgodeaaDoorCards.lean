/-
  DERIVED. GIVEN WITH THE SEED: THE CARDS: each row of YtbalclkgmgodeaaDoorRows.lean that lists a variable, with what it lists TIED to the program's text (the seventh form; the later family's looks); each row that meets fmt, with fmt's text TOLD by the authors' own Lean function (tested against real Go, not proved from fmt's source: count such statements apart). THE CARD IS WHAT COUNTS. Prove the row's statement (the work); the ties are given (YtbalclkgmgodeaaDoorTie.lean); close each card by the builder's one call (the guide's Derived/Test/ToyasCard.lean, 'card_holds'). Laid BY PROGRAM, IN A SANDBOX (cutbox-door.mjs). By AI agents, Wed Nov 11 2026. No macro, syntax, notation, axiom, sorry.
-/
import Derived.Test.YtbalclkgmgodeaaDoorRows
import GoSem.ClaimSeven
namespace Go.Proofs.YtbalclkgmgodeaaDoor
namespace Rows

/-- THE TIED CARD OF 'slackwaterlaw09.ClockRises'. -/
def clockRisesCard : Claim7 := { stood := { row := clockRisesRow, standIns := [], harness := (true, "e875d8320140d76b099ddb3dd24341c56ae93a1473a4b4af7f9c98deef679566"), looks := true }, kinds := [], alts := [], laidByText := true, laidKinds := [.data, .data, .data, .sentinel, .sentinel], laidTests := true, laidLooks := .later }
def ClockRisesCardSaid : Prop := Claim7.holds Tryd.pinned (.plain (OpenSpec.ofChange clockRisesSpec)) clockRisesCard

/-- THE TIED CARD OF 'slackwaterlaw09.ClockBack'. -/
def clockBackCard : Claim7 := { stood := { row := clockBackRow, standIns := [], harness := (true, "e875d8320140d76b099ddb3dd24341c56ae93a1473a4b4af7f9c98deef679566"), looks := true }, kinds := [], alts := [], laidByText := true, laidKinds := [.data, .data, .data, .sentinel, .sentinel], laidTests := true, laidLooks := .later }
def ClockBackCardSaid : Prop := Claim7.holds Tryd.pinned (.plain (OpenSpec.ofChange clockBackSpec)) clockBackCard

/-- THE SECOND FORM's CARD OF 'slackwaterlaw09.ClockRises'. -/
def clockRisesUptoCard : Claim7 := { stood := { row := clockRisesUptoRow, standIns := [], harness := (true, "e875d8320140d76b099ddb3dd24341c56ae93a1473a4b4af7f9c98deef679566"), looks := true }, kinds := [], alts := [], laidByText := true, laidKinds := [.data, .data, .data, .sentinel, .sentinel], laidTests := true, laidLooks := .later }
def ClockRisesUptoCardSaid : Prop := Claim7.holds Tryd.pinned (.plain (OpenSpec.upto clockRisesSpec)) clockRisesUptoCard

/-- THE SECOND FORM's CARD OF 'slackwaterlaw09.ClockBack'. -/
def clockBackUptoCard : Claim7 := { stood := { row := clockBackUptoRow, standIns := [], harness := (true, "e875d8320140d76b099ddb3dd24341c56ae93a1473a4b4af7f9c98deef679566"), looks := true }, kinds := [], alts := [], laidByText := true, laidKinds := [.data, .data, .data, .sentinel, .sentinel], laidTests := true, laidLooks := .later }
def ClockBackUptoCardSaid : Prop := Claim7.holds Tryd.pinned (.plain (OpenSpec.upto clockBackSpec)) clockBackUptoCard
end Rows
end Go.Proofs.YtbalclkgmgodeaaDoor
