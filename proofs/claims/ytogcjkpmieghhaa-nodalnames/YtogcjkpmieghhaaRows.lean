/-
  No cell of these rows narrows 'for every input' (looked for: loops, veiled, ifaces, maps, wideKeys, modest, calm, conditions, laid).
  DERIVED. THE GIVEN ROWS OF THIS SEAT. 3 by the template 'for every input the law returns true; each argument reads behind the call as it read before'; 0 by the template 'total and deterministic' (their statements: YtogcjkpmieghhaaTotals.lean).
  GIVEN WITH THE SEED: the statements are not yours to turn. If you find one false, say at which input.
  Laid BY PROGRAM, IN A SANDBOX (cutbox-rows.mjs): the forced cells as the released guide's own fill.sh prints them over the translation 1aa7ddc6d0afdc77… (all of the seat's roots in one cut). By AI agents, Wed Nov 11 2026. No macro, syntax, notation, axiom, sorry.
-/
import Derived.Test.YtogcjkpmieghhaaChecked
import GoSem.Claim
import GoSem.ClaimJoined
import GoSem.ClaimMapViews
import Derived.JoinedTies
import Derived.KernelRfl
namespace Go.Proofs.Ytogcjkpmieghhaa
/- THE CELL 'sum', in the pinned program and in every row, IS THE sha256 OF THE DUMP (.gsa) THAT YtogcjkpmieghhaaProg.lean LOADS. Nothing in Lean hashes anything: it is a label: what it is worth is what the hold of that sum in a sandbox is worth. -/
noncomputable def Try.pinned : Pinned := { name := "ytogcjkpmieghhaa", sum := "1aa7ddc6d0afdc777536560887335594c997cb7674c69dcd789799da4486ebb0", checked := Try.checked }
namespace Rows
def none {H : Type} : Left H := { results := [], args := [] }

/-- 'slackwaterlaw12.NodalBounds': WHATEVER THE INPUT: true; the input reads as it did. -/
def nodalBoundsSpec : ChangeSpec := { name := "nodalBounds", fn := fun _ => fun
  | [d] => { results := [.lit (.bool true)], args := [d] }
  | _ => none }
def nodalBoundsRow : OpenClaim := { program := "ytogcjkpmieghhaa", sum := "1aa7ddc6d0afdc777536560887335594c997cb7674c69dcd789799da4486ebb0", func := "slackwater/slackwaterlaw12.NodalBounds", spec := "nodalBounds", inPlace := ["math.Float64frombits", "math.RoundToEven"], apart := false }
def NodalBoundsSaid : Prop := nodalBoundsRow.holds Try.pinned (OpenSpec.ofChange nodalBoundsSpec)

/-- ITS FALSE NEIGHBOUR: 'it returns false'. Refute it at one input. -/
def nodalBoundsWrong : ChangeSpec := { name := "nodalBounds", fn := fun _ => fun
  | [d] => { results := [.lit (.bool false)], args := [d] }
  | _ => none }
def NodalBoundsWrongFalsely : Prop := nodalBoundsRow.holds Try.pinned (OpenSpec.ofChange nodalBoundsWrong)

/-- 'slackwaterlaw12.NodalParts': WHATEVER THE INPUT: true; the input reads as it did. -/
def nodalPartsSpec : ChangeSpec := { name := "nodalParts", fn := fun _ => fun
  | [d1, d2] => { results := [.lit (.bool true)], args := [d1, d2] }
  | _ => none }
def nodalPartsRow : OpenClaim := { program := "ytogcjkpmieghhaa", sum := "1aa7ddc6d0afdc777536560887335594c997cb7674c69dcd789799da4486ebb0", func := "slackwater/slackwaterlaw12.NodalParts", spec := "nodalParts", inPlace := ["math.Float64frombits", "math.RoundToEven"], apart := false }
def NodalPartsSaid : Prop := nodalPartsRow.holds Try.pinned (OpenSpec.ofChange nodalPartsSpec)

/-- ITS FALSE NEIGHBOUR: 'it returns false'. Refute it at one input. -/
def nodalPartsWrong : ChangeSpec := { name := "nodalParts", fn := fun _ => fun
  | [d1, d2] => { results := [.lit (.bool false)], args := [d1, d2] }
  | _ => none }
def NodalPartsWrongFalsely : Prop := nodalPartsRow.holds Try.pinned (OpenSpec.ofChange nodalPartsWrong)

/-- 'slackwaterlaw12.NodalNames': WHATEVER THE INPUT: true; the input reads as it did. -/
def nodalNamesSpec : ChangeSpec := { name := "nodalNames", fn := fun _ => fun
  | [] => { results := [.lit (.bool true)], args := [] }
  | _ => none }
def nodalNamesRow : OpenClaim := { program := "ytogcjkpmieghhaa", sum := "1aa7ddc6d0afdc777536560887335594c997cb7674c69dcd789799da4486ebb0", func := "slackwater/slackwaterlaw12.NodalNames", spec := "nodalNames", inPlace := ["math.Float64frombits", "math.RoundToEven"], unfollowed := true, recurses := true, apart := false }
def NodalNamesSaid : Prop := nodalNamesRow.holds Try.pinned (OpenSpec.ofChange nodalNamesSpec)

/-- ITS FALSE NEIGHBOUR: 'it returns false'. Refute it at one input. -/
def nodalNamesWrong : ChangeSpec := { name := "nodalNames", fn := fun _ => fun
  | [] => { results := [.lit (.bool false)], args := [] }
  | _ => none }
def NodalNamesWrongFalsely : Prop := nodalNamesRow.holds Try.pinned (OpenSpec.ofChange nodalNamesWrong)

/- THE SECOND FORM. 'bulk': how many values and letters a reading holds, each counted each time it is reached (what is shared counts as often as it is met; a slice's spare places count too). A statement '..UptoSaid' is the law's where the arguments, and the package variables that the reading takes, are together of bulk at most 1048576: NARROWER than '..Said'. Prove '..Said' where nothing that the law and all that it calls make is longer than what came in: it says more and counts as full. Else prove '..UptoSaid'. A law counts once. -/
mutual
def uptoBulk {H : Type} : DataW H → Nat
  | .lit (.string bytes) => bytes.length + 1
  | .lit _ => 1
  | .nil => 1
  | .ptr d => uptoBulk d + 1
  | .slice elems spare => uptoBulkAll elems + uptoBulkAll spare + 1
  | .agg parts => uptoBulkAll parts + 1
  | .iface _ d => uptoBulk d + 1
  | .map entries => uptoBulkEntries entries + 1
  | .held _ => 1
def uptoBulkAll {H : Type} : List (DataW H) → Nat
  | [] => 0
  | d :: r => uptoBulk d + uptoBulkAll r
def uptoBulkEntries {H : Type} : List (Lit × DataW H) → Nat
  | [] => 0
  | x :: r => uptoBulkEntry x + uptoBulkEntries r
def uptoBulkEntry {H : Type} : Lit × DataW H → Nat
  | (.string bytes, d) => bytes.length + uptoBulk d + 1
  | (_, d) => uptoBulk d + 1
 end
def uptoSmall : (H : Type) → List (DataW H) → Bool := fun _ ds => decide (uptoBulkAll ds ≤ 1048576)
def OpenSpec.upto (s : _root_.Go.ChangeSpec) : _root_.Go.OpenSpec := { _root_.Go.OpenSpec.ofChange s with cond := some uptoSmall }

/-- 'slackwaterlaw12.NodalBounds', WHERE WHAT IT READS IS OF BULK AT MOST 1048576: true; the input reads as it did. -/
def nodalBoundsUptoRow : OpenClaim := { program := "ytogcjkpmieghhaa", sum := "1aa7ddc6d0afdc777536560887335594c997cb7674c69dcd789799da4486ebb0", func := "slackwater/slackwaterlaw12.NodalBounds", spec := "nodalBounds", inPlace := ["math.Float64frombits", "math.RoundToEven"], apart := false, narrowed := true }
def NodalBoundsUptoSaid : Prop := nodalBoundsUptoRow.holds Try.pinned (OpenSpec.upto nodalBoundsSpec)

/-- 'slackwaterlaw12.NodalParts', WHERE WHAT IT READS IS OF BULK AT MOST 1048576: true; the input reads as it did. -/
def nodalPartsUptoRow : OpenClaim := { program := "ytogcjkpmieghhaa", sum := "1aa7ddc6d0afdc777536560887335594c997cb7674c69dcd789799da4486ebb0", func := "slackwater/slackwaterlaw12.NodalParts", spec := "nodalParts", inPlace := ["math.Float64frombits", "math.RoundToEven"], apart := false, narrowed := true }
def NodalPartsUptoSaid : Prop := nodalPartsUptoRow.holds Try.pinned (OpenSpec.upto nodalPartsSpec)

/-- 'slackwaterlaw12.NodalNames', WHERE WHAT IT READS IS OF BULK AT MOST 1048576: true; the input reads as it did. -/
def nodalNamesUptoRow : OpenClaim := { program := "ytogcjkpmieghhaa", sum := "1aa7ddc6d0afdc777536560887335594c997cb7674c69dcd789799da4486ebb0", func := "slackwater/slackwaterlaw12.NodalNames", spec := "nodalNames", inPlace := ["math.Float64frombits", "math.RoundToEven"], unfollowed := true, recurses := true, apart := false, narrowed := true }
def NodalNamesUptoSaid : Prop := nodalNamesUptoRow.holds Try.pinned (OpenSpec.upto nodalNamesSpec)

end Rows
end Go.Proofs.Ytogcjkpmieghhaa
