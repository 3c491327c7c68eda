/-
  No cell of these rows narrows 'for every input' (looked for: loops, veiled, ifaces, maps, wideKeys, modest, calm, conditions, laid).
  DERIVED. THE GIVEN ROWS OF THIS SEAT. 2 by the template 'for every input the law returns true; each argument reads behind the call as it read before'; 0 by the template 'total and deterministic' (their statements: YtphipjpdjimpgaaTotals.lean).
  GIVEN WITH THE SEED: the statements are not yours to turn. If you find one false, say at which input.
  Laid BY PROGRAM, IN A SANDBOX (cutbox-rows.mjs): the forced cells as the released guide's own fill.sh prints them over the translation 21b6c5c6cc0b0810… (all of the seat's roots in one cut). By AI agents, Wed Nov 11 2026. No macro, syntax, notation, axiom, sorry.
-/
import Derived.Test.YtphipjpdjimpgaaChecked
import GoSem.Claim
import GoSem.ClaimJoined
import GoSem.ClaimMapViews
import Derived.JoinedTies
import Derived.KernelRfl
namespace Go.Proofs.Ytphipjpdjimpgaa
/- THE CELL 'sum', in the pinned program and in every row, IS THE sha256 OF THE DUMP (.gsa) THAT YtphipjpdjimpgaaProg.lean LOADS. Nothing in Lean hashes anything: it is a label: what it is worth is what the hold of that sum in a sandbox is worth. -/
noncomputable def Try.pinned : Pinned := { name := "ytphipjpdjimpgaa", sum := "21b6c5c6cc0b0810aca5ff53a69037b293578e782d43250e6471f89e69d1d147", checked := Try.checked }
namespace Rows
def none {H : Type} : Left H := { results := [], args := [] }

/-- 'slackwaterlaw11.DoodsonCalls': WHATEVER THE INPUT: true; the input reads as it did. -/
def doodsonCallsSpec : ChangeSpec := { name := "doodsonCalls", fn := fun _ => fun
  | [d1, d2, d3] => { results := [.lit (.bool true)], args := [d1, d2, d3] }
  | _ => none }
def doodsonCallsRow : OpenClaim := { program := "ytphipjpdjimpgaa", sum := "21b6c5c6cc0b0810aca5ff53a69037b293578e782d43250e6471f89e69d1d147", func := "slackwater/slackwaterlaw11.DoodsonCalls", spec := "doodsonCalls", inPlace := ["math/bits.Add64"], unfollowed := true, recurses := true, named := ["math/bits.divideError", "math/bits.overflowError"], apart := false }
def DoodsonCallsSaid : Prop := doodsonCallsRow.holds Try.pinned (OpenSpec.ofChange doodsonCallsSpec)

/-- ITS FALSE NEIGHBOUR: 'it returns false'. Refute it at one input. -/
def doodsonCallsWrong : ChangeSpec := { name := "doodsonCalls", fn := fun _ => fun
  | [d1, d2, d3] => { results := [.lit (.bool false)], args := [d1, d2, d3] }
  | _ => none }
def DoodsonCallsWrongFalsely : Prop := doodsonCallsRow.holds Try.pinned (OpenSpec.ofChange doodsonCallsWrong)

/-- 'slackwaterlaw11.DoodsonGroup': WHATEVER THE INPUT: true; the input reads as it did. -/
def doodsonGroupSpec : ChangeSpec := { name := "doodsonGroup", fn := fun _ => fun
  | [d1, d2, d3] => { results := [.lit (.bool true)], args := [d1, d2, d3] }
  | _ => none }
def doodsonGroupRow : OpenClaim := { program := "ytphipjpdjimpgaa", sum := "21b6c5c6cc0b0810aca5ff53a69037b293578e782d43250e6471f89e69d1d147", func := "slackwater/slackwaterlaw11.DoodsonGroup", spec := "doodsonGroup", unfollowed := true, recurses := true, apart := false }
def DoodsonGroupSaid : Prop := doodsonGroupRow.holds Try.pinned (OpenSpec.ofChange doodsonGroupSpec)

/-- ITS FALSE NEIGHBOUR: 'it returns false'. Refute it at one input. -/
def doodsonGroupWrong : ChangeSpec := { name := "doodsonGroup", fn := fun _ => fun
  | [d1, d2, d3] => { results := [.lit (.bool false)], args := [d1, d2, d3] }
  | _ => none }
def DoodsonGroupWrongFalsely : Prop := doodsonGroupRow.holds Try.pinned (OpenSpec.ofChange doodsonGroupWrong)

/- THE SECOND FORM. 'bulk': how many values and letters a reading holds, each counted each time it is reached (what is shared counts as often as it is met; a slice's spare places count too). A statement '..UptoSaid' is the law's where the arguments, and the package variables that the reading takes, are together of bulk at most 1048576: NARROWER than '..Said'. Prove '..Said' where nothing that the law and all that it calls make is longer than what came in: it says more and counts as full. Else prove '..UptoSaid'. A law counts once. -/
mutual
def uptoBulk {H : Type} : DataW H → Nat
  | .lit (.string bytes) => bytes.length + 1
  | .lit _ => 1
  | .nil => 1
  | .ptr d => uptoBulk d + 1
  | .slice elems spare => uptoBulkAll elems + uptoBulkAll spare + 1
  | .agg parts => uptoBulkAll parts + 1
  | .iface _ d => uptoBulk d + 1
  | .map entries => uptoBulkEntries entries + 1
  | .held _ => 1
def uptoBulkAll {H : Type} : List (DataW H) → Nat
  | [] => 0
  | d :: r => uptoBulk d + uptoBulkAll r
def uptoBulkEntries {H : Type} : List (Lit × DataW H) → Nat
  | [] => 0
  | x :: r => uptoBulkEntry x + uptoBulkEntries r
def uptoBulkEntry {H : Type} : Lit × DataW H → Nat
  | (.string bytes, d) => bytes.length + uptoBulk d + 1
  | (_, d) => uptoBulk d + 1
 end
def uptoSmall : (H : Type) → List (DataW H) → Bool := fun _ ds => decide (uptoBulkAll ds ≤ 1048576)
def OpenSpec.upto (s : _root_.Go.ChangeSpec) : _root_.Go.OpenSpec := { _root_.Go.OpenSpec.ofChange s with cond := some uptoSmall }

/-- 'slackwaterlaw11.DoodsonCalls', WHERE WHAT IT READS IS OF BULK AT MOST 1048576: true; the input reads as it did. -/
def doodsonCallsUptoRow : OpenClaim := { program := "ytphipjpdjimpgaa", sum := "21b6c5c6cc0b0810aca5ff53a69037b293578e782d43250e6471f89e69d1d147", func := "slackwater/slackwaterlaw11.DoodsonCalls", spec := "doodsonCalls", inPlace := ["math/bits.Add64"], unfollowed := true, recurses := true, named := ["math/bits.divideError", "math/bits.overflowError"], apart := false, narrowed := true }
def DoodsonCallsUptoSaid : Prop := doodsonCallsUptoRow.holds Try.pinned (OpenSpec.upto doodsonCallsSpec)

/-- 'slackwaterlaw11.DoodsonGroup', WHERE WHAT IT READS IS OF BULK AT MOST 1048576: true; the input reads as it did. -/
def doodsonGroupUptoRow : OpenClaim := { program := "ytphipjpdjimpgaa", sum := "21b6c5c6cc0b0810aca5ff53a69037b293578e782d43250e6471f89e69d1d147", func := "slackwater/slackwaterlaw11.DoodsonGroup", spec := "doodsonGroup", unfollowed := true, recurses := true, apart := false, narrowed := true }
def DoodsonGroupUptoSaid : Prop := doodsonGroupUptoRow.holds Try.pinned (OpenSpec.upto doodsonGroupSpec)

end Rows
end Go.Proofs.Ytphipjpdjimpgaa
