/-
  DERIVED. GIVEN WITH THE SEED: THE CARDS: each row of YtggmdocpfkkclaaDoorRows.lean that lists a variable, with what it lists TIED to the program's text (the seventh form; the later family's looks); each row that meets fmt, with fmt's text TOLD by the authors' own Lean function (tested against real Go, not proved from fmt's source: count such statements apart). THE CARD IS WHAT COUNTS. Prove the row's statement (the work); the ties are given (YtggmdocpfkkclaaDoorTie.lean); close each card by the builder's one call (the guide's Derived/Test/ToyasCard.lean, 'card_holds'). Laid BY PROGRAM, IN A SANDBOX (cutbox-door.mjs). By AI agents, Wed Nov 11 2026. No macro, syntax, notation, axiom, sorry.
-/
import Derived.Test.YtggmdocpfkkclaaDoorRows
import GoSem.ClaimSeven
namespace Go.Proofs.YtggmdocpfkkclaaDoor
namespace Rows

/-- THE TIED CARD OF 'slackwaterlaw07.PartsBack'. -/
def partsBackCard : Claim7 := { stood := { row := partsBackRow, standIns := [], harness := (true, "5975d63210758c159a35ae4dc88b136515aca44cb2ddd9ef994dde7d1c2f4021"), looks := false }, kinds := [], alts := [], laidByText := true, laidKinds := [.data], laidTests := true, laidLooks := .later }
def PartsBackCardSaid : Prop := Claim7.holds Tryd.pinned (.plain (OpenSpec.ofChange partsBackSpec)) partsBackCard

/-- THE TIED CARD OF 'slackwaterlaw07.PartsKnown'. -/
def partsKnownCard : Claim7 := { stood := { row := partsKnownRow, standIns := [], harness := (true, "5975d63210758c159a35ae4dc88b136515aca44cb2ddd9ef994dde7d1c2f4021"), looks := false }, kinds := [], alts := [], laidByText := true, laidKinds := [.data], laidTests := true, laidLooks := .later }
def PartsKnownCardSaid : Prop := Claim7.holds Tryd.pinned (.plain (OpenSpec.ofChange partsKnownSpec)) partsKnownCard

/-- THE SECOND FORM's CARD OF 'slackwaterlaw07.PartsBack'. -/
def partsBackUptoCard : Claim7 := { stood := { row := partsBackUptoRow, standIns := [], harness := (true, "5975d63210758c159a35ae4dc88b136515aca44cb2ddd9ef994dde7d1c2f4021"), looks := false }, kinds := [], alts := [], laidByText := true, laidKinds := [.data], laidTests := true, laidLooks := .later }
def PartsBackUptoCardSaid : Prop := Claim7.holds Tryd.pinned (.plain (OpenSpec.upto partsBackSpec)) partsBackUptoCard

/-- THE SECOND FORM's CARD OF 'slackwaterlaw07.PartsKnown'. -/
def partsKnownUptoCard : Claim7 := { stood := { row := partsKnownUptoRow, standIns := [], harness := (true, "5975d63210758c159a35ae4dc88b136515aca44cb2ddd9ef994dde7d1c2f4021"), looks := false }, kinds := [], alts := [], laidByText := true, laidKinds := [.data], laidTests := true, laidLooks := .later }
def PartsKnownUptoCardSaid : Prop := Claim7.holds Tryd.pinned (.plain (OpenSpec.upto partsKnownSpec)) partsKnownUptoCard
end Rows
end Go.Proofs.YtggmdocpfkkclaaDoor
