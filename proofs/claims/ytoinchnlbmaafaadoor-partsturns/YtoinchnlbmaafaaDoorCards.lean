/-
  DERIVED. GIVEN WITH THE SEED: THE CARDS: each row of YtoinchnlbmaafaaDoorRows.lean that lists a variable, with what it lists TIED to the program's text (the seventh form; the later family's looks); each row that meets fmt, with fmt's text TOLD by the authors' own Lean function (tested against real Go, not proved from fmt's source: count such statements apart). THE CARD IS WHAT COUNTS. Prove the row's statement (the work); the ties are given (YtoinchnlbmaafaaDoorTie.lean); close each card by the builder's one call (the guide's Derived/Test/ToyasCard.lean, 'card_holds'). Laid BY PROGRAM, IN A SANDBOX (cutbox-door.mjs). By AI agents, Wed Nov 11 2026. No macro, syntax, notation, axiom, sorry.
-/
import Derived.Test.YtoinchnlbmaafaaDoorRows
import GoSem.ClaimSeven
namespace Go.Proofs.YtoinchnlbmaafaaDoor
namespace Rows

/-- THE TIED CARD OF 'slackwaterlaw07.PartsTurns'. -/
def partsTurnsCard : Claim7 := { stood := { row := partsTurnsRow, standIns := [], harness := (true, "d0cb3d86b36019147693dc1b49b21f013d28dbf62b97f4258ffde1f038e1f2d3"), looks := false }, kinds := [], alts := [], laidByText := true, laidKinds := [.data], laidTests := true, laidLooks := .later }
def PartsTurnsCardSaid : Prop := Claim7.holds Tryd.pinned (.plain (OpenSpec.ofChange partsTurnsSpec)) partsTurnsCard

/-- THE TIED CARD OF 'slackwaterlaw07.PartsBack'. -/
def partsBackCard : Claim7 := { stood := { row := partsBackRow, standIns := [], harness := (true, "d0cb3d86b36019147693dc1b49b21f013d28dbf62b97f4258ffde1f038e1f2d3"), looks := false }, kinds := [], alts := [], laidByText := true, laidKinds := [.data], laidTests := true, laidLooks := .later }
def PartsBackCardSaid : Prop := Claim7.holds Tryd.pinned (.plain (OpenSpec.ofChange partsBackSpec)) partsBackCard

/-- THE TIED CARD OF 'slackwaterlaw07.PartsKnown'. -/
def partsKnownCard : Claim7 := { stood := { row := partsKnownRow, standIns := [], harness := (true, "d0cb3d86b36019147693dc1b49b21f013d28dbf62b97f4258ffde1f038e1f2d3"), looks := false }, kinds := [], alts := [], laidByText := true, laidKinds := [.data], laidTests := true, laidLooks := .later }
def PartsKnownCardSaid : Prop := Claim7.holds Tryd.pinned (.plain (OpenSpec.ofChange partsKnownSpec)) partsKnownCard

/-- THE SECOND FORM's CARD OF 'slackwaterlaw07.PartsTurns'. -/
def partsTurnsUptoCard : Claim7 := { stood := { row := partsTurnsUptoRow, standIns := [], harness := (true, "d0cb3d86b36019147693dc1b49b21f013d28dbf62b97f4258ffde1f038e1f2d3"), looks := false }, kinds := [], alts := [], laidByText := true, laidKinds := [.data], laidTests := true, laidLooks := .later }
def PartsTurnsUptoCardSaid : Prop := Claim7.holds Tryd.pinned (.plain (OpenSpec.upto partsTurnsSpec)) partsTurnsUptoCard

/-- THE SECOND FORM's CARD OF 'slackwaterlaw07.PartsBack'. -/
def partsBackUptoCard : Claim7 := { stood := { row := partsBackUptoRow, standIns := [], harness := (true, "d0cb3d86b36019147693dc1b49b21f013d28dbf62b97f4258ffde1f038e1f2d3"), looks := false }, kinds := [], alts := [], laidByText := true, laidKinds := [.data], laidTests := true, laidLooks := .later }
def PartsBackUptoCardSaid : Prop := Claim7.holds Tryd.pinned (.plain (OpenSpec.upto partsBackSpec)) partsBackUptoCard

/-- THE SECOND FORM's CARD OF 'slackwaterlaw07.PartsKnown'. -/
def partsKnownUptoCard : Claim7 := { stood := { row := partsKnownUptoRow, standIns := [], harness := (true, "d0cb3d86b36019147693dc1b49b21f013d28dbf62b97f4258ffde1f038e1f2d3"), looks := false }, kinds := [], alts := [], laidByText := true, laidKinds := [.data], laidTests := true, laidLooks := .later }
def PartsKnownUptoCardSaid : Prop := Claim7.holds Tryd.pinned (.plain (OpenSpec.upto partsKnownSpec)) partsKnownUptoCard
end Rows
end Go.Proofs.YtoinchnlbmaafaaDoor
