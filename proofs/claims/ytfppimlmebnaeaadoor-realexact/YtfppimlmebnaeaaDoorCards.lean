/-
  DERIVED. GIVEN WITH THE SEED: THE CARDS: each row of YtfppimlmebnaeaaDoorRows.lean that lists a variable, with what it lists TIED to the program's text (the seventh form; the later family's looks); each row that meets fmt, with fmt's text TOLD by the authors' own Lean function (tested against real Go, not proved from fmt's source: count such statements apart). THE CARD IS WHAT COUNTS. Prove the row's statement (the work); the ties are given (YtfppimlmebnaeaaDoorTie.lean); close each card by the builder's one call (the guide's Derived/Test/ToyasCard.lean, 'card_holds'). Laid BY PROGRAM, IN A SANDBOX (cutbox-door.mjs). By AI agents, Wed Nov 11 2026. No macro, syntax, notation, axiom, sorry.
-/
import Derived.Test.YtfppimlmebnaeaaDoorRows
import GoSem.ClaimSeven
namespace Go.Proofs.YtfppimlmebnaeaaDoor
namespace Rows

/-- THE TIED CARD OF 'slackwaterlaw06.RealExact'. -/
def realExactCard : Claim7 := { stood := { row := realExactRow, standIns := [], harness := (true, "2096b9f4ee107a86dac1ea95e4c1b76244f0d2b86445eacd62db4b312cab65d6"), looks := false }, kinds := [], alts := [], laidByText := true, laidKinds := [.data], laidTests := true, laidLooks := .later }
def RealExactCardSaid : Prop := Claim7.holds Tryd.pinned (.plain (OpenSpec.ofChange realExactSpec)) realExactCard

/-- THE SECOND FORM's CARD OF 'slackwaterlaw06.RealExact'. -/
def realExactUptoCard : Claim7 := { stood := { row := realExactUptoRow, standIns := [], harness := (true, "2096b9f4ee107a86dac1ea95e4c1b76244f0d2b86445eacd62db4b312cab65d6"), looks := false }, kinds := [], alts := [], laidByText := true, laidKinds := [.data], laidTests := true, laidLooks := .later }
def RealExactUptoCardSaid : Prop := Claim7.holds Tryd.pinned (.plain (OpenSpec.upto realExactSpec)) realExactUptoCard
end Rows
end Go.Proofs.YtfppimlmebnaeaaDoor
