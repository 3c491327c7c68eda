/-
  No cell of these rows narrows 'for every input' (looked for: loops, veiled, ifaces, maps, wideKeys, modest, calm, conditions, laid).
  DERIVED. THE GIVEN ROWS OF THIS SEAT. 3 by the template 'for every input the law returns true; each argument reads behind the call as it read before'; 0 by the template 'total and deterministic' (their statements: YtcfcjnlobpoglaaGreatTotals.lean).
  GIVEN WITH THE SEED: the statements are not yours to turn. If you find one false, say at which input.
  Laid BY PROGRAM, IN A SANDBOX (cutbox-rows.mjs): the forced cells as the released guide's own fill.sh prints them over the translation 10eccc074fc747d7… (all of the seat's roots in one cut). By AI agents, Wed Nov 11 2026. No macro, syntax, notation, axiom, sorry.
-/
import Derived.Test.YtcfcjnlobpoglaaGreatChecked
import GoSem.Claim
import GoSem.ClaimJoined
import GoSem.ClaimMapViews
import Derived.JoinedTies
import Derived.KernelRfl
namespace Go.Proofs.YtcfcjnlobpoglaaGreat
/- THE CELL 'sum', in the pinned program and in every row, IS THE sha256 OF THE DUMP (.gsa) THAT YtcfcjnlobpoglaaGreatProg.lean LOADS. Nothing in Lean hashes anything: it is a label: what it is worth is what the hold of that sum in a sandbox is worth. -/
noncomputable def Tryz.pinned : Pinned := { name := "ytcfcjnlobpoglaagreat", sum := "10eccc074fc747d72a33dc13ba6ae0a9df416f95b70b269e6d45fae0a4575996", checked := Tryz.checked }
namespace Rows
def none {H : Type} : Left H := { results := [], args := [] }

/-- 'slackwaterlaw05.RotorCalls': WHATEVER THE INPUT: true; the input reads as it did. -/
def rotorCallsSpec : ChangeSpec := { name := "rotorCalls", fn := fun _ => fun
  | [d1, d2, d3] => { results := [.lit (.bool true)], args := [d1, d2, d3] }
  | _ => none }
def rotorCallsRow : OpenClaim := { program := "ytcfcjnlobpoglaagreat", sum := "10eccc074fc747d72a33dc13ba6ae0a9df416f95b70b269e6d45fae0a4575996", func := "slackwater/slackwaterlaw05.RotorCalls", spec := "rotorCalls", unfollowed := true, recurses := true, apart := false }
def RotorCallsSaid : Prop := rotorCallsRow.holds Tryz.pinned (OpenSpec.ofChange rotorCallsSpec)

/-- ITS FALSE NEIGHBOUR: 'it returns false'. Refute it at one input. -/
def rotorCallsWrong : ChangeSpec := { name := "rotorCalls", fn := fun _ => fun
  | [d1, d2, d3] => { results := [.lit (.bool false)], args := [d1, d2, d3] }
  | _ => none }
def RotorCallsWrongFalsely : Prop := rotorCallsRow.holds Tryz.pinned (OpenSpec.ofChange rotorCallsWrong)

/-- 'slackwaterlaw05.RotorSteps': WHATEVER THE INPUT: true; the input reads as it did. -/
def rotorStepsSpec : ChangeSpec := { name := "rotorSteps", fn := fun _ => fun
  | [d1, d2] => { results := [.lit (.bool true)], args := [d1, d2] }
  | _ => none }
def rotorStepsRow : OpenClaim := { program := "ytcfcjnlobpoglaagreat", sum := "10eccc074fc747d72a33dc13ba6ae0a9df416f95b70b269e6d45fae0a4575996", func := "slackwater/slackwaterlaw05.RotorSteps", spec := "rotorSteps", unfollowed := true, recurses := true, apart := false }
def RotorStepsSaid : Prop := rotorStepsRow.holds Tryz.pinned (OpenSpec.ofChange rotorStepsSpec)

/-- ITS FALSE NEIGHBOUR: 'it returns false'. Refute it at one input. -/
def rotorStepsWrong : ChangeSpec := { name := "rotorSteps", fn := fun _ => fun
  | [d1, d2] => { results := [.lit (.bool false)], args := [d1, d2] }
  | _ => none }
def RotorStepsWrongFalsely : Prop := rotorStepsRow.holds Tryz.pinned (OpenSpec.ofChange rotorStepsWrong)

/-- 'slackwaterlaw05.RotorFinds': WHATEVER THE INPUT: true; the input reads as it did. -/
def rotorFindsSpec : ChangeSpec := { name := "rotorFinds", fn := fun _ => fun
  | [d] => { results := [.lit (.bool true)], args := [d] }
  | _ => none }
def rotorFindsRow : OpenClaim := { program := "ytcfcjnlobpoglaagreat", sum := "10eccc074fc747d72a33dc13ba6ae0a9df416f95b70b269e6d45fae0a4575996", func := "slackwater/slackwaterlaw05.RotorFinds", spec := "rotorFinds", apart := false }
def RotorFindsSaid : Prop := rotorFindsRow.holds Tryz.pinned (OpenSpec.ofChange rotorFindsSpec)

/-- ITS FALSE NEIGHBOUR: 'it returns false'. Refute it at one input. -/
def rotorFindsWrong : ChangeSpec := { name := "rotorFinds", fn := fun _ => fun
  | [d] => { results := [.lit (.bool false)], args := [d] }
  | _ => none }
def RotorFindsWrongFalsely : Prop := rotorFindsRow.holds Tryz.pinned (OpenSpec.ofChange rotorFindsWrong)

/- THE SECOND FORM. 'bulk': how many values and letters a reading holds, each counted each time it is reached (what is shared counts as often as it is met; a slice's spare places count too). A statement '..UptoSaid' is the law's where the arguments, and the package variables that the reading takes, are together of bulk at most 1048576: NARROWER than '..Said'. Prove '..Said' where nothing that the law and all that it calls make is longer than what came in: it says more and counts as full. Else prove '..UptoSaid'. A law counts once. -/
mutual
def uptoBulk {H : Type} : DataW H → Nat
  | .lit (.string bytes) => bytes.length + 1
  | .lit _ => 1
  | .nil => 1
  | .ptr d => uptoBulk d + 1
  | .slice elems spare => uptoBulkAll elems + uptoBulkAll spare + 1
  | .agg parts => uptoBulkAll parts + 1
  | .iface _ d => uptoBulk d + 1
  | .map entries => uptoBulkEntries entries + 1
  | .held _ => 1
def uptoBulkAll {H : Type} : List (DataW H) → Nat
  | [] => 0
  | d :: r => uptoBulk d + uptoBulkAll r
def uptoBulkEntries {H : Type} : List (Lit × DataW H) → Nat
  | [] => 0
  | x :: r => uptoBulkEntry x + uptoBulkEntries r
def uptoBulkEntry {H : Type} : Lit × DataW H → Nat
  | (.string bytes, d) => bytes.length + uptoBulk d + 1
  | (_, d) => uptoBulk d + 1
 end
def uptoSmall : (H : Type) → List (DataW H) → Bool := fun _ ds => decide (uptoBulkAll ds ≤ 1048576)
def OpenSpec.upto (s : _root_.Go.ChangeSpec) : _root_.Go.OpenSpec := { _root_.Go.OpenSpec.ofChange s with cond := some uptoSmall }

/-- 'slackwaterlaw05.RotorCalls', WHERE WHAT IT READS IS OF BULK AT MOST 1048576: true; the input reads as it did. -/
def rotorCallsUptoRow : OpenClaim := { program := "ytcfcjnlobpoglaagreat", sum := "10eccc074fc747d72a33dc13ba6ae0a9df416f95b70b269e6d45fae0a4575996", func := "slackwater/slackwaterlaw05.RotorCalls", spec := "rotorCalls", unfollowed := true, recurses := true, apart := false, narrowed := true }
def RotorCallsUptoSaid : Prop := rotorCallsUptoRow.holds Tryz.pinned (OpenSpec.upto rotorCallsSpec)

/-- 'slackwaterlaw05.RotorSteps', WHERE WHAT IT READS IS OF BULK AT MOST 1048576: true; the input reads as it did. -/
def rotorStepsUptoRow : OpenClaim := { program := "ytcfcjnlobpoglaagreat", sum := "10eccc074fc747d72a33dc13ba6ae0a9df416f95b70b269e6d45fae0a4575996", func := "slackwater/slackwaterlaw05.RotorSteps", spec := "rotorSteps", unfollowed := true, recurses := true, apart := false, narrowed := true }
def RotorStepsUptoSaid : Prop := rotorStepsUptoRow.holds Tryz.pinned (OpenSpec.upto rotorStepsSpec)

/-- 'slackwaterlaw05.RotorFinds', WHERE WHAT IT READS IS OF BULK AT MOST 1048576: true; the input reads as it did. -/
def rotorFindsUptoRow : OpenClaim := { program := "ytcfcjnlobpoglaagreat", sum := "10eccc074fc747d72a33dc13ba6ae0a9df416f95b70b269e6d45fae0a4575996", func := "slackwater/slackwaterlaw05.RotorFinds", spec := "rotorFinds", apart := false, narrowed := true }
def RotorFindsUptoSaid : Prop := rotorFindsUptoRow.holds Tryz.pinned (OpenSpec.upto rotorFindsSpec)

end Rows
end Go.Proofs.YtcfcjnlobpoglaaGreat
