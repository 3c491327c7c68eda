/- A struct's memory: a block of its cells. -/
import Derived.Test.YtbcangblmadnpacDoorHelp0
namespace Go.Proofs.YtbcangblmadnpacDoor
open Go.RowKit
set_option linter.unusedVariables false

/-- A struct's memory. -/
def Box (w : World) (b t : Nat) (vs : Array Value) : Prop := w.heap[b]? = some (.cells vs t (0, 0))
theorem Box.cell {w : World} {b t : Nat} {vs : Array Value} (h : Box w b t vs) (j : Nat) : w.cell? ⟨b, j, none⟩ = vs[j]? := by
  unfold Box at h
  simp [World.cell?, h]
theorem Box.free {w : World} {b t : Nat} {vs : Array Value} (h : Box w b t vs) (j : Nat) : w.frozen? ⟨b, j, none⟩ = false := by
  unfold Box at h
  simp [World.frozen?, h]
theorem Box.later {w w' : World} {B b t : Nat} {vs : Array Value} (h : Box w b t vs) (hb : Below B w w') (hlt : b < B) : Box w' b t vs := by
  unfold Box at *
  rw [hb.block b hlt]; exact h
theorem Box.lt {w : World} {b t : Nat} {vs : Array Value} (h : Box w b t vs) : b < w.heap.size := by
  unfold Box at h
  have : w.heap[b]?.isSome := by rw [h]; rfl
  simpa using this
theorem Box.made (w : World) (t : Nat) (vs : Array Value) : Box (w.alloc (.cells vs t)) w.heap.size t vs := by
  unfold Box
  show (w.heap.push _)[w.heap.size]? = _
  rw [Array.getElem?_push, if_pos rfl]
theorem Box.other {w : World} {b t : Nat} {vs : Array Value} (h : Box w b t vs) (p : Addr) (v : Value) (hne : b ≠ p.block) : Box (w.setCell p v) b t vs := by
  unfold Box at *
  rw [Below.heap_setCell w p v b hne]; exact h
theorem Box.drewN {w : World} {b t : Nat} {vs : Array Value} (h : Box w b t vs) (n : Nat) : Box (w.drewN n) b t vs := h
theorem Box.set {w : World} {b t : Nat} {vs : Array Value} (h : Box w b t vs) (j : Nat) (v : Value) : Box (w.setCell ⟨b, j, none⟩ v) b t (vs.setIfInBounds j v) := by
  unfold Box at *
  simp only [World.setCell, Array.getElem?_modify, if_pos, h]
  simp
end Go.Proofs.YtbcangblmadnpacDoor
