/-
  DERIVED. GIVEN WITH THE SEED: THE CARDS: each row of YtfapekhmdhkioaaDoorRows.lean that lists a variable, with what it lists TIED to the program's text (the seventh form; the later family's looks); each row that meets fmt, with fmt's text TOLD by the authors' own Lean function (tested against real Go, not proved from fmt's source: count such statements apart). THE CARD IS WHAT COUNTS. Prove the row's statement (the work); the ties are given (YtfapekhmdhkioaaDoorTie.lean); close each card by the builder's one call (the guide's Derived/Test/ToyasCard.lean, 'card_holds'). Laid BY PROGRAM, IN A SANDBOX (cutbox-door.mjs). By AI agents, Wed Nov 11 2026. No macro, syntax, notation, axiom, sorry.
-/
import Derived.Test.YtfapekhmdhkioaaDoorRows
import GoSem.ClaimSeven
namespace Go.Proofs.YtfapekhmdhkioaaDoor
namespace Rows

/-- THE TIED CARD OF 'slackwaterlaw09.ClockSpans'. -/
def clockSpansCard : Claim7 := { stood := { row := clockSpansRow, standIns := [], harness := (true, "55560719b392bff6d10800b0f582a902249ab5fc9814e8928a2a0dcde7bb0f60"), looks := true }, kinds := [], alts := [], laidByText := true, laidKinds := [.data, .data, .data, .sentinel, .sentinel], laidTests := true, laidLooks := .later }
def ClockSpansCardSaid : Prop := Claim7.holds Tryd.pinned (.plain (OpenSpec.ofChange clockSpansSpec)) clockSpansCard

/-- THE TIED CARD OF 'slackwaterlaw09.ClockNames'. -/
def clockNamesCard : Claim7 := { stood := { row := clockNamesRow, standIns := [], harness := (true, "55560719b392bff6d10800b0f582a902249ab5fc9814e8928a2a0dcde7bb0f60"), looks := true }, kinds := [], alts := [], laidByText := true, laidKinds := [.data, .data, .data, .sentinel, .sentinel], laidTests := true, laidLooks := .later }
def ClockNamesCardSaid : Prop := Claim7.holds Tryd.pinned (.plain (OpenSpec.ofChange clockNamesSpec)) clockNamesCard

/-- THE SECOND FORM's CARD OF 'slackwaterlaw09.ClockSpans'. -/
def clockSpansUptoCard : Claim7 := { stood := { row := clockSpansUptoRow, standIns := [], harness := (true, "55560719b392bff6d10800b0f582a902249ab5fc9814e8928a2a0dcde7bb0f60"), looks := true }, kinds := [], alts := [], laidByText := true, laidKinds := [.data, .data, .data, .sentinel, .sentinel], laidTests := true, laidLooks := .later }
def ClockSpansUptoCardSaid : Prop := Claim7.holds Tryd.pinned (.plain (OpenSpec.upto clockSpansSpec)) clockSpansUptoCard

/-- THE SECOND FORM's CARD OF 'slackwaterlaw09.ClockNames'. -/
def clockNamesUptoCard : Claim7 := { stood := { row := clockNamesUptoRow, standIns := [], harness := (true, "55560719b392bff6d10800b0f582a902249ab5fc9814e8928a2a0dcde7bb0f60"), looks := true }, kinds := [], alts := [], laidByText := true, laidKinds := [.data, .data, .data, .sentinel, .sentinel], laidTests := true, laidLooks := .later }
def ClockNamesUptoCardSaid : Prop := Claim7.holds Tryd.pinned (.plain (OpenSpec.upto clockNamesSpec)) clockNamesUptoCard
end Rows
end Go.Proofs.YtfapekhmdhkioaaDoor
