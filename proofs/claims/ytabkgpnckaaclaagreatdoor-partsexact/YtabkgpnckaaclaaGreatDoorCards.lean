/-
  DERIVED. GIVEN WITH THE SEED: THE CARDS: each row of YtabkgpnckaaclaaGreatDoorRows.lean that lists a variable, with what it lists TIED to the program's text (the seventh form; the later family's looks); each row that meets fmt, with fmt's text TOLD by the authors' own Lean function (tested against real Go, not proved from fmt's source: count such statements apart). THE CARD IS WHAT COUNTS. Prove the row's statement (the work); the ties are given (YtabkgpnckaaclaaGreatDoorTie.lean); close each card by the builder's one call (the guide's Derived/Test/ToyasCard.lean, 'card_holds'). Laid BY PROGRAM, IN A SANDBOX (cutbox-door.mjs). By AI agents, Wed Nov 11 2026. No macro, syntax, notation, axiom, sorry.
-/
import Derived.Test.YtabkgpnckaaclaaGreatDoorRows
import GoSem.ClaimSeven
namespace Go.Proofs.YtabkgpnckaaclaaGreatDoor
namespace Rows

/-- THE TIED CARD OF 'slackwaterlaw06.RealTells'. -/
def realTellsCard : Claim7 := { stood := { row := realTellsRow, standIns := [], harness := (true, "b89e29c9ec03c00c743da669c52c04b7bebc2ca2a8066bdf5df06a777172cfa4"), looks := false }, kinds := [], alts := [], laidByText := true, laidKinds := [.data], laidTests := true, laidLooks := .later }
def RealTellsCardSaid : Prop := Claim7.holds Tryz.pinned (.plain (OpenSpec.ofChange realTellsSpec)) realTellsCard

/-- THE TIED CARD OF 'slackwaterlaw07.PartsExact'. -/
def partsExactCard : Claim7 := { stood := { row := partsExactRow, standIns := [], harness := (true, "b89e29c9ec03c00c743da669c52c04b7bebc2ca2a8066bdf5df06a777172cfa4"), looks := false }, kinds := [], alts := [], laidByText := true, laidKinds := [.data], laidTests := true, laidLooks := .later }
def PartsExactCardSaid : Prop := Claim7.holds Tryz.pinned (.plain (OpenSpec.ofChange partsExactSpec)) partsExactCard

/-- THE SECOND FORM's CARD OF 'slackwaterlaw06.RealTells'. -/
def realTellsUptoCard : Claim7 := { stood := { row := realTellsUptoRow, standIns := [], harness := (true, "b89e29c9ec03c00c743da669c52c04b7bebc2ca2a8066bdf5df06a777172cfa4"), looks := false }, kinds := [], alts := [], laidByText := true, laidKinds := [.data], laidTests := true, laidLooks := .later }
def RealTellsUptoCardSaid : Prop := Claim7.holds Tryz.pinned (.plain (OpenSpec.upto realTellsSpec)) realTellsUptoCard

/-- THE SECOND FORM's CARD OF 'slackwaterlaw07.PartsExact'. -/
def partsExactUptoCard : Claim7 := { stood := { row := partsExactUptoRow, standIns := [], harness := (true, "b89e29c9ec03c00c743da669c52c04b7bebc2ca2a8066bdf5df06a777172cfa4"), looks := false }, kinds := [], alts := [], laidByText := true, laidKinds := [.data], laidTests := true, laidLooks := .later }
def PartsExactUptoCardSaid : Prop := Claim7.holds Tryz.pinned (.plain (OpenSpec.upto partsExactSpec)) partsExactUptoCard
end Rows
end Go.Proofs.YtabkgpnckaaclaaGreatDoor
