/-
  DERIVED. GIVEN WITH THE SEED: THE CARDS: each row of YtglocbmkcklklaaDoorRows.lean that lists a variable, with what it lists TIED to the program's text (the seventh form; the later family's looks); each row that meets fmt, with fmt's text TOLD by the authors' own Lean function (tested against real Go, not proved from fmt's source: count such statements apart). THE CARD IS WHAT COUNTS. Prove the row's statement (the work); the ties are given (YtglocbmkcklklaaDoorTie.lean); close each card by the builder's one call (the guide's Derived/Test/ToyasCard.lean, 'card_holds'). Laid BY PROGRAM, IN A SANDBOX (cutbox-door.mjs). By AI agents, Wed Nov 11 2026. No macro, syntax, notation, axiom, sorry.
-/
import Derived.Test.YtglocbmkcklklaaDoorRows
import GoSem.ClaimSeven
namespace Go.Proofs.YtglocbmkcklklaaDoor
namespace Rows

/-- THE TIED CARD OF 'slackwaterlaw09.ClockTells'. -/
def clockTellsCard : Claim7 := { stood := { row := clockTellsRow, standIns := [], harness := (true, "9c0d287d5cc453abf58f2e828c95d7bfe7cc26ec6c841fc2900d13792f293b1a"), looks := true }, kinds := [], alts := [], laidByText := true, laidKinds := [.data, .data, .data, .sentinel, .sentinel], laidTests := true, laidLooks := .later }
def ClockTellsCardSaid : Prop := Claim7.holds Tryd.pinned (.plain (OpenSpec.ofChange clockTellsSpec)) clockTellsCard

/-- THE TIED CARD OF 'slackwaterlaw09.ClockNames'. -/
def clockNamesCard : Claim7 := { stood := { row := clockNamesRow, standIns := [], harness := (true, "9c0d287d5cc453abf58f2e828c95d7bfe7cc26ec6c841fc2900d13792f293b1a"), looks := true }, kinds := [], alts := [], laidByText := true, laidKinds := [.data, .data, .data, .sentinel, .sentinel], laidTests := true, laidLooks := .later }
def ClockNamesCardSaid : Prop := Claim7.holds Tryd.pinned (.plain (OpenSpec.ofChange clockNamesSpec)) clockNamesCard

/-- THE TIED CARD OF 'slackwaterlaw09.ClockSpans'. -/
def clockSpansCard : Claim7 := { stood := { row := clockSpansRow, standIns := [], harness := (true, "9c0d287d5cc453abf58f2e828c95d7bfe7cc26ec6c841fc2900d13792f293b1a"), looks := true }, kinds := [], alts := [], laidByText := true, laidKinds := [.data, .data, .data, .sentinel, .sentinel], laidTests := true, laidLooks := .later }
def ClockSpansCardSaid : Prop := Claim7.holds Tryd.pinned (.plain (OpenSpec.ofChange clockSpansSpec)) clockSpansCard

/-- THE SECOND FORM's CARD OF 'slackwaterlaw09.ClockTells'. -/
def clockTellsUptoCard : Claim7 := { stood := { row := clockTellsUptoRow, standIns := [], harness := (true, "9c0d287d5cc453abf58f2e828c95d7bfe7cc26ec6c841fc2900d13792f293b1a"), looks := true }, kinds := [], alts := [], laidByText := true, laidKinds := [.data, .data, .data, .sentinel, .sentinel], laidTests := true, laidLooks := .later }
def ClockTellsUptoCardSaid : Prop := Claim7.holds Tryd.pinned (.plain (OpenSpec.upto clockTellsSpec)) clockTellsUptoCard

/-- THE SECOND FORM's CARD OF 'slackwaterlaw09.ClockNames'. -/
def clockNamesUptoCard : Claim7 := { stood := { row := clockNamesUptoRow, standIns := [], harness := (true, "9c0d287d5cc453abf58f2e828c95d7bfe7cc26ec6c841fc2900d13792f293b1a"), looks := true }, kinds := [], alts := [], laidByText := true, laidKinds := [.data, .data, .data, .sentinel, .sentinel], laidTests := true, laidLooks := .later }
def ClockNamesUptoCardSaid : Prop := Claim7.holds Tryd.pinned (.plain (OpenSpec.upto clockNamesSpec)) clockNamesUptoCard

/-- THE SECOND FORM's CARD OF 'slackwaterlaw09.ClockSpans'. -/
def clockSpansUptoCard : Claim7 := { stood := { row := clockSpansUptoRow, standIns := [], harness := (true, "9c0d287d5cc453abf58f2e828c95d7bfe7cc26ec6c841fc2900d13792f293b1a"), looks := true }, kinds := [], alts := [], laidByText := true, laidKinds := [.data, .data, .data, .sentinel, .sentinel], laidTests := true, laidLooks := .later }
def ClockSpansUptoCardSaid : Prop := Claim7.holds Tryd.pinned (.plain (OpenSpec.upto clockSpansSpec)) clockSpansUptoCard
end Rows
end Go.Proofs.YtglocbmkcklklaaDoor
