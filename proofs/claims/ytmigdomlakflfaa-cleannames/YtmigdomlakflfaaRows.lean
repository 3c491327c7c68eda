/-
  No cell of these rows narrows 'for every input' (looked for: loops, veiled, ifaces, maps, wideKeys, modest, calm, conditions, laid).
  DERIVED. THE GIVEN ROWS OF THIS SEAT. 3 by the template 'for every input the law returns true; each argument reads behind the call as it read before'; 0 by the template 'total and deterministic' (their statements: YtmigdomlakflfaaTotals.lean).
  GIVEN WITH THE SEED: the statements are not yours to turn. If you find one false, say at which input.
  Laid BY PROGRAM, IN A SANDBOX (cutbox-rows.mjs): the forced cells as the released guide's own fill.sh prints them over the translation 3f2e42c3d0665463… (all of the seat's roots in one cut). By AI agents, Wed Nov 11 2026. No macro, syntax, notation, axiom, sorry.
-/
import Derived.Test.YtmigdomlakflfaaChecked
import GoSem.Claim
import GoSem.ClaimJoined
import GoSem.ClaimMapViews
import Derived.JoinedTies
import Derived.KernelRfl
namespace Go.Proofs.Ytmigdomlakflfaa
/- THE CELL 'sum', in the pinned program and in every row, IS THE sha256 OF THE DUMP (.gsa) THAT YtmigdomlakflfaaProg.lean LOADS. Nothing in Lean hashes anything: it is a label: what it is worth is what the hold of that sum in a sandbox is worth. -/
noncomputable def Try.pinned : Pinned := { name := "ytmigdomlakflfaa", sum := "3f2e42c3d0665463726fbf88a3d90faee4030e60759b98d1205e30d5bf78f5d9", checked := Try.checked }
namespace Rows
def none {H : Type} : Left H := { results := [], args := [] }

/-- 'slackwaterlaw20.CleanNames': WHATEVER THE INPUT: true; the input reads as it did. -/
def cleanNamesSpec : ChangeSpec := { name := "cleanNames", fn := fun _ => fun
  | [] => { results := [.lit (.bool true)], args := [] }
  | _ => none }
def cleanNamesRow : OpenClaim := { program := "ytmigdomlakflfaa", sum := "3f2e42c3d0665463726fbf88a3d90faee4030e60759b98d1205e30d5bf78f5d9", func := "slackwater/slackwaterlaw20.CleanNames", spec := "cleanNames", inPlace := ["math.Float64frombits", "math.Float64bits"], unfollowed := true, recurses := true, apart := false }
def CleanNamesSaid : Prop := cleanNamesRow.holds Try.pinned (OpenSpec.ofChange cleanNamesSpec)

/-- ITS FALSE NEIGHBOUR: 'it returns false'. Refute it at one input. -/
def cleanNamesWrong : ChangeSpec := { name := "cleanNames", fn := fun _ => fun
  | [] => { results := [.lit (.bool false)], args := [] }
  | _ => none }
def CleanNamesWrongFalsely : Prop := cleanNamesRow.holds Try.pinned (OpenSpec.ofChange cleanNamesWrong)

/-- 'slackwaterlaw20.CleanMerge': WHATEVER THE INPUT: true; the input reads as it did. -/
def cleanMergeSpec : ChangeSpec := { name := "cleanMerge", fn := fun _ => fun
  | [d] => { results := [.lit (.bool true)], args := [d] }
  | _ => none }
def cleanMergeRow : OpenClaim := { program := "ytmigdomlakflfaa", sum := "3f2e42c3d0665463726fbf88a3d90faee4030e60759b98d1205e30d5bf78f5d9", func := "slackwater/slackwaterlaw20.CleanMerge", spec := "cleanMerge", inPlace := ["math.Float64bits", "math.Float64frombits"], unfollowed := true, recurses := true, apart := false }
def CleanMergeSaid : Prop := cleanMergeRow.holds Try.pinned (OpenSpec.ofChange cleanMergeSpec)

/-- ITS FALSE NEIGHBOUR: 'it returns false'. Refute it at one input. -/
def cleanMergeWrong : ChangeSpec := { name := "cleanMerge", fn := fun _ => fun
  | [d] => { results := [.lit (.bool false)], args := [d] }
  | _ => none }
def CleanMergeWrongFalsely : Prop := cleanMergeRow.holds Try.pinned (OpenSpec.ofChange cleanMergeWrong)

/-- 'slackwaterlaw20.CleanOrder': WHATEVER THE INPUT: true; the input reads as it did. -/
def cleanOrderSpec : ChangeSpec := { name := "cleanOrder", fn := fun _ => fun
  | [d1, d2] => { results := [.lit (.bool true)], args := [d1, d2] }
  | _ => none }
def cleanOrderRow : OpenClaim := { program := "ytmigdomlakflfaa", sum := "3f2e42c3d0665463726fbf88a3d90faee4030e60759b98d1205e30d5bf78f5d9", func := "slackwater/slackwaterlaw20.CleanOrder", spec := "cleanOrder", inPlace := ["math.Float64bits", "math.Float64frombits"], unfollowed := true, recurses := true, apart := false }
def CleanOrderSaid : Prop := cleanOrderRow.holds Try.pinned (OpenSpec.ofChange cleanOrderSpec)

/-- ITS FALSE NEIGHBOUR: 'it returns false'. Refute it at one input. -/
def cleanOrderWrong : ChangeSpec := { name := "cleanOrder", fn := fun _ => fun
  | [d1, d2] => { results := [.lit (.bool false)], args := [d1, d2] }
  | _ => none }
def CleanOrderWrongFalsely : Prop := cleanOrderRow.holds Try.pinned (OpenSpec.ofChange cleanOrderWrong)

/- THE SECOND FORM. 'bulk': how many values and letters a reading holds, each counted each time it is reached (what is shared counts as often as it is met; a slice's spare places count too). A statement '..UptoSaid' is the law's where the arguments, and the package variables that the reading takes, are together of bulk at most 1048576: NARROWER than '..Said'. Prove '..Said' where nothing that the law and all that it calls make is longer than what came in: it says more and counts as full. Else prove '..UptoSaid'. A law counts once. -/
mutual
def uptoBulk {H : Type} : DataW H → Nat
  | .lit (.string bytes) => bytes.length + 1
  | .lit _ => 1
  | .nil => 1
  | .ptr d => uptoBulk d + 1
  | .slice elems spare => uptoBulkAll elems + uptoBulkAll spare + 1
  | .agg parts => uptoBulkAll parts + 1
  | .iface _ d => uptoBulk d + 1
  | .map entries => uptoBulkEntries entries + 1
  | .held _ => 1
def uptoBulkAll {H : Type} : List (DataW H) → Nat
  | [] => 0
  | d :: r => uptoBulk d + uptoBulkAll r
def uptoBulkEntries {H : Type} : List (Lit × DataW H) → Nat
  | [] => 0
  | x :: r => uptoBulkEntry x + uptoBulkEntries r
def uptoBulkEntry {H : Type} : Lit × DataW H → Nat
  | (.string bytes, d) => bytes.length + uptoBulk d + 1
  | (_, d) => uptoBulk d + 1
 end
def uptoSmall : (H : Type) → List (DataW H) → Bool := fun _ ds => decide (uptoBulkAll ds ≤ 1048576)
def OpenSpec.upto (s : _root_.Go.ChangeSpec) : _root_.Go.OpenSpec := { _root_.Go.OpenSpec.ofChange s with cond := some uptoSmall }

/-- 'slackwaterlaw20.CleanNames', WHERE WHAT IT READS IS OF BULK AT MOST 1048576: true; the input reads as it did. -/
def cleanNamesUptoRow : OpenClaim := { program := "ytmigdomlakflfaa", sum := "3f2e42c3d0665463726fbf88a3d90faee4030e60759b98d1205e30d5bf78f5d9", func := "slackwater/slackwaterlaw20.CleanNames", spec := "cleanNames", inPlace := ["math.Float64frombits", "math.Float64bits"], unfollowed := true, recurses := true, apart := false, narrowed := true }
def CleanNamesUptoSaid : Prop := cleanNamesUptoRow.holds Try.pinned (OpenSpec.upto cleanNamesSpec)

/-- 'slackwaterlaw20.CleanMerge', WHERE WHAT IT READS IS OF BULK AT MOST 1048576: true; the input reads as it did. -/
def cleanMergeUptoRow : OpenClaim := { program := "ytmigdomlakflfaa", sum := "3f2e42c3d0665463726fbf88a3d90faee4030e60759b98d1205e30d5bf78f5d9", func := "slackwater/slackwaterlaw20.CleanMerge", spec := "cleanMerge", inPlace := ["math.Float64bits", "math.Float64frombits"], unfollowed := true, recurses := true, apart := false, narrowed := true }
def CleanMergeUptoSaid : Prop := cleanMergeUptoRow.holds Try.pinned (OpenSpec.upto cleanMergeSpec)

/-- 'slackwaterlaw20.CleanOrder', WHERE WHAT IT READS IS OF BULK AT MOST 1048576: true; the input reads as it did. -/
def cleanOrderUptoRow : OpenClaim := { program := "ytmigdomlakflfaa", sum := "3f2e42c3d0665463726fbf88a3d90faee4030e60759b98d1205e30d5bf78f5d9", func := "slackwater/slackwaterlaw20.CleanOrder", spec := "cleanOrder", inPlace := ["math.Float64bits", "math.Float64frombits"], unfollowed := true, recurses := true, apart := false, narrowed := true }
def CleanOrderUptoSaid : Prop := cleanOrderUptoRow.holds Try.pinned (OpenSpec.upto cleanOrderSpec)

end Rows
end Go.Proofs.Ytmigdomlakflfaa
