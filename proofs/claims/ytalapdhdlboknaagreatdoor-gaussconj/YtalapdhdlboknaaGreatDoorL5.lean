/- My texts on the way to GaussConj, one behind the other: contracts of the program and of the document's answers. -/
import Derived.Test.YtalapdhdlboknaaGreatDoorL1
import Derived.Test.YtalapdhdlboknaaGreatDoorL4
import Derived.Test.YtalapdhdlboknaaGreatDoorChecked
import Derived.Handy
import Derived.RegionTactic
import Derived.ChangeAlike
import Derived.Deep.RegionHeld3
import Derived.Deep.QuietTactic
import Derived.BigQuiet
/- Boxes made one behind the other; drawing keeps what is below. -/
namespace Go.Proofs.YtalapdhdlboknaaGreatDoor
open Go.RowKit
set_option linter.unusedVariables false

theorem boxes1 (w : World) (t : Nat) (u : Array Value) : FBox (w.alloc (.cells u t)) w.heap.size t u ∧ Below w.heap.size w (w.alloc (.cells u t)) :=
  ⟨FBox.made _ _ _, (Below.refl _ _).alloc (Nat.le_refl _) _⟩
theorem boxes2 (w : World) (t : Nat) (u v : Array Value) : FBox ((w.alloc (.cells u t)).alloc (.cells v t)) w.heap.size t u ∧ FBox ((w.alloc (.cells u t)).alloc (.cells v t)) (w.heap.size + 1) t v ∧ Below w.heap.size w ((w.alloc (.cells u t)).alloc (.cells v t)) := by
  have a := boxes1 w t u
  have b := boxes1 (w.alloc (.cells u t)) t v
  have es : (w.alloc (.cells u t)).heap.size = w.heap.size + 1 := World.size_alloc _ _
  exact ⟨a.1.later b.2 a.1.lt, es ▸ b.1, b2 a.2 b.2⟩
theorem boxes3 (w : World) (t : Nat) (u v z : Array Value) : FBox (((w.alloc (.cells u t)).alloc (.cells v t)).alloc (.cells z t)) w.heap.size t u ∧ FBox (((w.alloc (.cells u t)).alloc (.cells v t)).alloc (.cells z t)) (w.heap.size + 1) t v ∧ FBox (((w.alloc (.cells u t)).alloc (.cells v t)).alloc (.cells z t)) (w.heap.size + 1 + 1) t z ∧ Below w.heap.size w (((w.alloc (.cells u t)).alloc (.cells v t)).alloc (.cells z t)) := by
  have a := boxes2 w t u v
  have b := boxes1 ((w.alloc (.cells u t)).alloc (.cells v t)) t z
  have es : ((w.alloc (.cells u t)).alloc (.cells v t)).heap.size = w.heap.size + 1 + 1 := by rw [World.size_alloc, World.size_alloc]
  exact ⟨a.1.later b.2 a.1.lt, a.2.1.later b.2 a.2.1.lt, es ▸ b.1, b2 a.2.2 b.2⟩
theorem bdrewN {B : Nat} {a w : World} (h : Below B a w) (n : Nat) : Below B a (w.drewN n) := by
  induction n with
  | zero => exact h
  | succ n ih => exact ih.drew
end Go.Proofs.YtalapdhdlboknaaGreatDoor

