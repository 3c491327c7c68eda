/-
  No cell of these rows narrows 'for every input' (looked for: loops, veiled, ifaces, maps, wideKeys, modest, calm, conditions, laid).
  DERIVED. THE GIVEN ROWS OF THIS SEAT. 6 by the template 'for every input the law returns true; each argument reads behind the call as it read before'; 0 by the template 'total and deterministic' (their statements: YtblfemmhhijeeaaTotals.lean).
  GIVEN WITH THE SEED: the statements are not yours to turn. If you find one false, say at which input.
  Laid BY PROGRAM, IN A SANDBOX (cutbox-rows.mjs): the forced cells as the released guide's own fill.sh prints them over the translation e84cd0ecfdcf90e1… (all of the seat's roots in one cut). By AI agents, Wed Nov 11 2026. No macro, syntax, notation, axiom, sorry.
-/
import Derived.Test.YtblfemmhhijeeaaChecked
import GoSem.Claim
import GoSem.ClaimJoined
import GoSem.ClaimMapViews
import Derived.JoinedTies
import Derived.KernelRfl
namespace Go.Proofs.Ytblfemmhhijeeaa
/- THE CELL 'sum', in the pinned program and in every row, IS THE sha256 OF THE DUMP (.gsa) THAT YtblfemmhhijeeaaProg.lean LOADS. Nothing in Lean hashes anything: it is a label: what it is worth is what the hold of that sum in a sandbox is worth. -/
noncomputable def Try.pinned : Pinned := { name := "ytblfemmhhijeeaa", sum := "e84cd0ecfdcf90e1fa23a8347f9bf5a4bec6abca64f69f8afcbe3c490ea0dd4a", checked := Try.checked }
namespace Rows
def none {H : Type} : Left H := { results := [], args := [] }

/-- 'slackwaterlaw19.RecordScript': WHATEVER THE INPUT: true; the input reads as it did. -/
def recordScriptSpec : ChangeSpec := { name := "recordScript", fn := fun _ => fun
  | [d] => { results := [.lit (.bool true)], args := [d] }
  | _ => none }
def recordScriptRow : OpenClaim := { program := "ytblfemmhhijeeaa", sum := "e84cd0ecfdcf90e1fa23a8347f9bf5a4bec6abca64f69f8afcbe3c490ea0dd4a", func := "slackwater/slackwaterlaw19.RecordScript", spec := "recordScript", inPlace := ["math.Float64frombits", "math.Float64bits"], unfollowed := true, recurses := true, apart := false }
def RecordScriptSaid : Prop := recordScriptRow.holds Try.pinned (OpenSpec.ofChange recordScriptSpec)

/-- ITS FALSE NEIGHBOUR: 'it returns false'. Refute it at one input. -/
def recordScriptWrong : ChangeSpec := { name := "recordScript", fn := fun _ => fun
  | [d] => { results := [.lit (.bool false)], args := [d] }
  | _ => none }
def RecordScriptWrongFalsely : Prop := recordScriptRow.holds Try.pinned (OpenSpec.ofChange recordScriptWrong)

/-- 'slackwaterlaw20.CleanNames': WHATEVER THE INPUT: true; the input reads as it did. -/
def cleanNamesSpec : ChangeSpec := { name := "cleanNames", fn := fun _ => fun
  | [] => { results := [.lit (.bool true)], args := [] }
  | _ => none }
def cleanNamesRow : OpenClaim := { program := "ytblfemmhhijeeaa", sum := "e84cd0ecfdcf90e1fa23a8347f9bf5a4bec6abca64f69f8afcbe3c490ea0dd4a", func := "slackwater/slackwaterlaw20.CleanNames", spec := "cleanNames", inPlace := ["math.Float64frombits", "math.Float64bits"], unfollowed := true, recurses := true, apart := false }
def CleanNamesSaid : Prop := cleanNamesRow.holds Try.pinned (OpenSpec.ofChange cleanNamesSpec)

/-- ITS FALSE NEIGHBOUR: 'it returns false'. Refute it at one input. -/
def cleanNamesWrong : ChangeSpec := { name := "cleanNames", fn := fun _ => fun
  | [] => { results := [.lit (.bool false)], args := [] }
  | _ => none }
def CleanNamesWrongFalsely : Prop := cleanNamesRow.holds Try.pinned (OpenSpec.ofChange cleanNamesWrong)

/-- 'slackwaterlaw20.CleanMeans': WHATEVER THE INPUT: true; the input reads as it did. -/
def cleanMeansSpec : ChangeSpec := { name := "cleanMeans", fn := fun _ => fun
  | [d] => { results := [.lit (.bool true)], args := [d] }
  | _ => none }
def cleanMeansRow : OpenClaim := { program := "ytblfemmhhijeeaa", sum := "e84cd0ecfdcf90e1fa23a8347f9bf5a4bec6abca64f69f8afcbe3c490ea0dd4a", func := "slackwater/slackwaterlaw20.CleanMeans", spec := "cleanMeans", inPlace := ["math.Float64bits", "math.Float64frombits"], unfollowed := true, recurses := true, apart := false }
def CleanMeansSaid : Prop := cleanMeansRow.holds Try.pinned (OpenSpec.ofChange cleanMeansSpec)

/-- ITS FALSE NEIGHBOUR: 'it returns false'. Refute it at one input. -/
def cleanMeansWrong : ChangeSpec := { name := "cleanMeans", fn := fun _ => fun
  | [d] => { results := [.lit (.bool false)], args := [d] }
  | _ => none }
def CleanMeansWrongFalsely : Prop := cleanMeansRow.holds Try.pinned (OpenSpec.ofChange cleanMeansWrong)

/-- 'slackwaterlaw20.CleanMerge': WHATEVER THE INPUT: true; the input reads as it did. -/
def cleanMergeSpec : ChangeSpec := { name := "cleanMerge", fn := fun _ => fun
  | [d] => { results := [.lit (.bool true)], args := [d] }
  | _ => none }
def cleanMergeRow : OpenClaim := { program := "ytblfemmhhijeeaa", sum := "e84cd0ecfdcf90e1fa23a8347f9bf5a4bec6abca64f69f8afcbe3c490ea0dd4a", func := "slackwater/slackwaterlaw20.CleanMerge", spec := "cleanMerge", inPlace := ["math.Float64bits", "math.Float64frombits"], unfollowed := true, recurses := true, apart := false }
def CleanMergeSaid : Prop := cleanMergeRow.holds Try.pinned (OpenSpec.ofChange cleanMergeSpec)

/-- ITS FALSE NEIGHBOUR: 'it returns false'. Refute it at one input. -/
def cleanMergeWrong : ChangeSpec := { name := "cleanMerge", fn := fun _ => fun
  | [d] => { results := [.lit (.bool false)], args := [d] }
  | _ => none }
def CleanMergeWrongFalsely : Prop := cleanMergeRow.holds Try.pinned (OpenSpec.ofChange cleanMergeWrong)

/-- 'slackwaterlaw20.CleanSpikes': WHATEVER THE INPUT: true; the input reads as it did. -/
def cleanSpikesSpec : ChangeSpec := { name := "cleanSpikes", fn := fun _ => fun
  | [d1, d2, d3] => { results := [.lit (.bool true)], args := [d1, d2, d3] }
  | _ => none }
def cleanSpikesRow : OpenClaim := { program := "ytblfemmhhijeeaa", sum := "e84cd0ecfdcf90e1fa23a8347f9bf5a4bec6abca64f69f8afcbe3c490ea0dd4a", func := "slackwater/slackwaterlaw20.CleanSpikes", spec := "cleanSpikes", inPlace := ["math.Float64bits", "math.Float64frombits"], unfollowed := true, recurses := true, apart := false }
def CleanSpikesSaid : Prop := cleanSpikesRow.holds Try.pinned (OpenSpec.ofChange cleanSpikesSpec)

/-- ITS FALSE NEIGHBOUR: 'it returns false'. Refute it at one input. -/
def cleanSpikesWrong : ChangeSpec := { name := "cleanSpikes", fn := fun _ => fun
  | [d1, d2, d3] => { results := [.lit (.bool false)], args := [d1, d2, d3] }
  | _ => none }
def CleanSpikesWrongFalsely : Prop := cleanSpikesRow.holds Try.pinned (OpenSpec.ofChange cleanSpikesWrong)

/-- 'slackwaterlaw20.CleanFill': WHATEVER THE INPUT: true; the input reads as it did. -/
def cleanFillSpec : ChangeSpec := { name := "cleanFill", fn := fun _ => fun
  | [d1, d2] => { results := [.lit (.bool true)], args := [d1, d2] }
  | _ => none }
def cleanFillRow : OpenClaim := { program := "ytblfemmhhijeeaa", sum := "e84cd0ecfdcf90e1fa23a8347f9bf5a4bec6abca64f69f8afcbe3c490ea0dd4a", func := "slackwater/slackwaterlaw20.CleanFill", spec := "cleanFill", inPlace := ["math.Float64bits", "math.Float64frombits"], unfollowed := true, recurses := true, apart := false }
def CleanFillSaid : Prop := cleanFillRow.holds Try.pinned (OpenSpec.ofChange cleanFillSpec)

/-- ITS FALSE NEIGHBOUR: 'it returns false'. Refute it at one input. -/
def cleanFillWrong : ChangeSpec := { name := "cleanFill", fn := fun _ => fun
  | [d1, d2] => { results := [.lit (.bool false)], args := [d1, d2] }
  | _ => none }
def CleanFillWrongFalsely : Prop := cleanFillRow.holds Try.pinned (OpenSpec.ofChange cleanFillWrong)

/- THE SECOND FORM. 'bulk': how many values and letters a reading holds, each counted each time it is reached (what is shared counts as often as it is met; a slice's spare places count too). A statement '..UptoSaid' is the law's where the arguments, and the package variables that the reading takes, are together of bulk at most 1048576: NARROWER than '..Said'. Prove '..Said' where nothing that the law and all that it calls make is longer than what came in: it says more and counts as full. Else prove '..UptoSaid'. A law counts once. -/
mutual
def uptoBulk {H : Type} : DataW H → Nat
  | .lit (.string bytes) => bytes.length + 1
  | .lit _ => 1
  | .nil => 1
  | .ptr d => uptoBulk d + 1
  | .slice elems spare => uptoBulkAll elems + uptoBulkAll spare + 1
  | .agg parts => uptoBulkAll parts + 1
  | .iface _ d => uptoBulk d + 1
  | .map entries => uptoBulkEntries entries + 1
  | .held _ => 1
def uptoBulkAll {H : Type} : List (DataW H) → Nat
  | [] => 0
  | d :: r => uptoBulk d + uptoBulkAll r
def uptoBulkEntries {H : Type} : List (Lit × DataW H) → Nat
  | [] => 0
  | x :: r => uptoBulkEntry x + uptoBulkEntries r
def uptoBulkEntry {H : Type} : Lit × DataW H → Nat
  | (.string bytes, d) => bytes.length + uptoBulk d + 1
  | (_, d) => uptoBulk d + 1
 end
def uptoSmall : (H : Type) → List (DataW H) → Bool := fun _ ds => decide (uptoBulkAll ds ≤ 1048576)
def OpenSpec.upto (s : _root_.Go.ChangeSpec) : _root_.Go.OpenSpec := { _root_.Go.OpenSpec.ofChange s with cond := some uptoSmall }

/-- 'slackwaterlaw19.RecordScript', WHERE WHAT IT READS IS OF BULK AT MOST 1048576: true; the input reads as it did. -/
def recordScriptUptoRow : OpenClaim := { program := "ytblfemmhhijeeaa", sum := "e84cd0ecfdcf90e1fa23a8347f9bf5a4bec6abca64f69f8afcbe3c490ea0dd4a", func := "slackwater/slackwaterlaw19.RecordScript", spec := "recordScript", inPlace := ["math.Float64frombits", "math.Float64bits"], unfollowed := true, recurses := true, apart := false, narrowed := true }
def RecordScriptUptoSaid : Prop := recordScriptUptoRow.holds Try.pinned (OpenSpec.upto recordScriptSpec)

/-- 'slackwaterlaw20.CleanNames', WHERE WHAT IT READS IS OF BULK AT MOST 1048576: true; the input reads as it did. -/
def cleanNamesUptoRow : OpenClaim := { program := "ytblfemmhhijeeaa", sum := "e84cd0ecfdcf90e1fa23a8347f9bf5a4bec6abca64f69f8afcbe3c490ea0dd4a", func := "slackwater/slackwaterlaw20.CleanNames", spec := "cleanNames", inPlace := ["math.Float64frombits", "math.Float64bits"], unfollowed := true, recurses := true, apart := false, narrowed := true }
def CleanNamesUptoSaid : Prop := cleanNamesUptoRow.holds Try.pinned (OpenSpec.upto cleanNamesSpec)

/-- 'slackwaterlaw20.CleanMeans', WHERE WHAT IT READS IS OF BULK AT MOST 1048576: true; the input reads as it did. -/
def cleanMeansUptoRow : OpenClaim := { program := "ytblfemmhhijeeaa", sum := "e84cd0ecfdcf90e1fa23a8347f9bf5a4bec6abca64f69f8afcbe3c490ea0dd4a", func := "slackwater/slackwaterlaw20.CleanMeans", spec := "cleanMeans", inPlace := ["math.Float64bits", "math.Float64frombits"], unfollowed := true, recurses := true, apart := false, narrowed := true }
def CleanMeansUptoSaid : Prop := cleanMeansUptoRow.holds Try.pinned (OpenSpec.upto cleanMeansSpec)

/-- 'slackwaterlaw20.CleanMerge', WHERE WHAT IT READS IS OF BULK AT MOST 1048576: true; the input reads as it did. -/
def cleanMergeUptoRow : OpenClaim := { program := "ytblfemmhhijeeaa", sum := "e84cd0ecfdcf90e1fa23a8347f9bf5a4bec6abca64f69f8afcbe3c490ea0dd4a", func := "slackwater/slackwaterlaw20.CleanMerge", spec := "cleanMerge", inPlace := ["math.Float64bits", "math.Float64frombits"], unfollowed := true, recurses := true, apart := false, narrowed := true }
def CleanMergeUptoSaid : Prop := cleanMergeUptoRow.holds Try.pinned (OpenSpec.upto cleanMergeSpec)

/-- 'slackwaterlaw20.CleanSpikes', WHERE WHAT IT READS IS OF BULK AT MOST 1048576: true; the input reads as it did. -/
def cleanSpikesUptoRow : OpenClaim := { program := "ytblfemmhhijeeaa", sum := "e84cd0ecfdcf90e1fa23a8347f9bf5a4bec6abca64f69f8afcbe3c490ea0dd4a", func := "slackwater/slackwaterlaw20.CleanSpikes", spec := "cleanSpikes", inPlace := ["math.Float64bits", "math.Float64frombits"], unfollowed := true, recurses := true, apart := false, narrowed := true }
def CleanSpikesUptoSaid : Prop := cleanSpikesUptoRow.holds Try.pinned (OpenSpec.upto cleanSpikesSpec)

/-- 'slackwaterlaw20.CleanFill', WHERE WHAT IT READS IS OF BULK AT MOST 1048576: true; the input reads as it did. -/
def cleanFillUptoRow : OpenClaim := { program := "ytblfemmhhijeeaa", sum := "e84cd0ecfdcf90e1fa23a8347f9bf5a4bec6abca64f69f8afcbe3c490ea0dd4a", func := "slackwater/slackwaterlaw20.CleanFill", spec := "cleanFill", inPlace := ["math.Float64bits", "math.Float64frombits"], unfollowed := true, recurses := true, apart := false, narrowed := true }
def CleanFillUptoSaid : Prop := cleanFillUptoRow.holds Try.pinned (OpenSpec.upto cleanFillSpec)

end Rows
end Go.Proofs.Ytblfemmhhijeeaa
