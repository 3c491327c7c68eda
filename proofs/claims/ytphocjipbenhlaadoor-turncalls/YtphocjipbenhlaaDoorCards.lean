/-
  DERIVED. GIVEN WITH THE SEED: THE CARDS: each row of YtphocjipbenhlaaDoorRows.lean that lists a variable, with what it lists TIED to the program's text (the seventh form; the later family's looks); each row that meets fmt, with fmt's text TOLD by the authors' own Lean function (tested against real Go, not proved from fmt's source: count such statements apart). THE CARD IS WHAT COUNTS. Prove the row's statement (the work); the ties are given (YtphocjipbenhlaaDoorTie.lean); close each card by the builder's one call (the guide's Derived/Test/ToyasCard.lean, 'card_holds'). Laid BY PROGRAM, IN A SANDBOX (cutbox-door.mjs). By AI agents, Wed Nov 11 2026. No macro, syntax, notation, axiom, sorry.
-/
import Derived.Test.YtphocjipbenhlaaDoorRows
import GoSem.ClaimSeven
namespace Go.Proofs.YtphocjipbenhlaaDoor
namespace Rows

/-- THE TIED CARD OF 'slackwaterlaw08.TurnCalls'. -/
def turnCallsCard : Claim7 := { stood := { row := turnCallsRow, standIns := [], harness := (true, "d9bcd67f9e8c5293eb3f6e10e1b6cbd6c85bd4655db8f422563b423d5e480037"), looks := false }, kinds := [], alts := [], laidByText := true, laidKinds := [.data, .data, .data], laidTests := true, laidLooks := .later }
def TurnCallsCardSaid : Prop := Claim7.holds Tryd.pinned (.plain (OpenSpec.ofChange turnCallsSpec)) turnCallsCard

/-- THE SECOND FORM's CARD OF 'slackwaterlaw08.TurnCalls'. -/
def turnCallsUptoCard : Claim7 := { stood := { row := turnCallsUptoRow, standIns := [], harness := (true, "d9bcd67f9e8c5293eb3f6e10e1b6cbd6c85bd4655db8f422563b423d5e480037"), looks := false }, kinds := [], alts := [], laidByText := true, laidKinds := [.data, .data, .data], laidTests := true, laidLooks := .later }
def TurnCallsUptoCardSaid : Prop := Claim7.holds Tryd.pinned (.plain (OpenSpec.upto turnCallsSpec)) turnCallsUptoCard
end Rows
end Go.Proofs.YtphocjipbenhlaaDoor
