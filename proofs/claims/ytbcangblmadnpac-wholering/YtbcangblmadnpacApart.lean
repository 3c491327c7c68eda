/- slackwaterkit.ApartWords answers true of lists that lie in blocks of their own, each in another one; below them nothing is written. -/
import Derived.Test.YtbcangblmadnpacSl
import Derived.Deep.RegionWith
namespace Go.Proofs.Ytbcangblmadnpac
open Go.RowKit
set_option linter.unusedVariables false

theorem Try.infoL : (Try.prog.info? 22).map (fun i => (i.zero, i.size, i.bytes)) = some (some (.slice none 0 0), 1, 24) := by kernel_rfl

/-- A list of lists that lie apart from each other, from block number 'base' on; 'bl': the block of the list itself. -/
structure Lists (w : World) (base bl m : Nat) (V : Nat → Value) (X : Nat → List Int) : Prop where
  wd : ∀ j, j < m → Wd (X j)
  len : ∀ j, j < m → (X j).length ≤ 1099511627776
  own : ∀ j, j < m → w.ownsRow base 35 1 (V j) (X j).length ((X j).map (Value.int .u32))
  apart : ∀ i j, i < m → j < m → i ≠ j → (V i).ownBlock = none ∨ (V i).ownBlock ≠ (V j).ownBlock
  row : ∃ cl : Array Value, w.heap[bl]? = some (.cells cl 22 (0, 0)) ∧ ∀ j, j < m → cl[j]? = some (V j)

theorem block_lt {w : World} {g : Nat} {o : Obj} (h : w.heap[g]? = some o) : g < w.heap.size := by
  have : w.heap[g]?.isSome := by rw [h]; rfl
  simpa using this

/-- The first loop: of the first k lists a copy lies in 'was' (block gw). -/
def I1 (w : World) (m : Nat) (X : Nat → List Int) (k : Nat) (wr : World) : Prop :=
  ∃ us : List Value, us.length = m ∧ wr.heap[w.heap.size]? = some (.cells us.toArray 22 (0, 0)) ∧
    (∀ j, j < k → ∃ u, us[j]? = some u ∧ wr.ownsRow (w.heap.size + 1) 35 1 u (X j).length ((X j).map (Value.int .u32))) ∧ Below w.heap.size w wr

theorem I1.step {w wr w1 : World} {m k : Nat} {X : Nat → List Int} {v : Value} (h : I1 w m X k wr) (hk : k < m)
    (ho : w1.ownsRow wr.heap.size 35 1 v (X k).length ((X k).map (Value.int .u32))) (hb : Below wr.heap.size wr w1) : I1 w m X (k + 1) (w1.setCell ⟨w.heap.size, k, none⟩ v) := by
  obtain ⟨us, hl, hg, hu, hbel⟩ := h
  have hgw := block_lt hg
  have hg1 : w1.heap[w.heap.size]? = some (.cells us.toArray 22 (0, 0)) := (hb.block _ hgw).trans hg
  refine ⟨us.set k v, by simpa using hl, ?_, ?_, (hbel.trans (hb.mono hbel.size)).setCell (Nat.le_refl _) _⟩
  · rw [heap_setCell_same w1 w.heap.size k us.toArray 22 v hg1]
    simp
  · intro j hj
    by_cases e : j = k
    · subst e
      exact ⟨v, by simp [hl, hk], ownsRow_setCell_below (owns_base ho (by omega)) (by simp) _⟩
    · obtain ⟨u, h1, h2⟩ := hu j (by omega)
      exact ⟨u, by rw [List.getElem?_set, if_neg (by omega)]; exact h1, ownsRow_setCell_below (owns_later h2 hb) (by simp) _⟩

/-- The second loop: the first k lists are written over; the copies are as they were. -/
structure I2 (w : World) (base bl gw m : Nat) (V U : Nat → Value) (X : Nat → List Int) (k : Nat) (wr : World) : Prop where
  lists : ∀ j, j < m → wr.ownsRow base 35 1 (V j) (X j).length ((if j < k then compl (X j) else X j).map (Value.int .u32))
  was : ∀ j, j < m → wr.ownsRow (gw + 1) 35 1 (U j) (X j).length ((X j).map (Value.int .u32))
  low : ∀ j, j < m → ∀ g, (V j).ownBlock = some g → g < gw
  rowL : ∃ cl : Array Value, wr.heap[bl]? = some (.cells cl 22 (0, 0)) ∧ ∀ j, j < m → cl[j]? = some (V j)
  rowW : ∃ cl : Array Value, wr.heap[gw]? = some (.cells cl 22 (0, 0)) ∧ ∀ j, j < m → cl[j]? = some (U j)
  below : Below base w wr

theorem I2.later {w wr wa : World} {base bl gw m k : Nat} {V U : Nat → Value} {X : Nat → List Int} (h : I2 w base bl gw m V U X k wr) (hb : Below wr.heap.size wr wa) (hbs : base ≤ wr.heap.size) : I2 w base bl gw m V U X k wa where
  lists j hj := owns_later (h.lists j hj) hb
  was j hj := owns_later (h.was j hj) hb
  low := h.low
  rowL := by
    obtain ⟨cl, h1, h2⟩ := h.rowL
    exact ⟨cl, (hb.block _ (block_lt h1)).trans h1, h2⟩
  rowW := by
    obtain ⟨cl, h1, h2⟩ := h.rowW
    exact ⟨cl, (hb.block _ (block_lt h1)).trans h1, h2⟩
  below := h.below.trans (hb.mono hbs)

theorem I2.step {w wa wb : World} {base bl gw m k : Nat} {V U : Nat → Value} {X : Nat → List Int} (h : I2 w base bl gw m V U X k wa) (hk : k < m) (hbs : base ≤ wa.heap.size)
    (ap : ∀ i j, i < m → j < m → i ≠ j → (V i).ownBlock = none ∨ (V i).ownBlock ≠ (V j).ownBlock)
    (ho : wb.ownsRow base 35 1 (V k) (X k).length ((compl (X k)).map (Value.int .u32))) (hg : wa.grownBy wb (V k).ownBlock) : I2 w base bl gw m V U X (k + 1) wb where
  lists j hj := by
    by_cases e : j = k
    · subst e; rw [if_pos (by omega)]; exact ho
    · have := (h.lists j hj).kept hg (ap j k hj hk e)
      by_cases e2 : j < k
      · rw [if_pos e2] at this; rw [if_pos (by omega)]; exact this
      · rw [if_neg e2] at this; rw [if_neg (by omega)]; exact this
  was j hj := by
    refine (h.was j hj).kept hg ?_
    cases hv : (U j).ownBlock with
    | none => exact .inl rfl
    | some g =>
      right
      intro e
      have h1 := ((h.was j hj).lt g hv).1
      have h2 := h.low k hk g e.symm
      omega
  low := h.low
  rowL := by
    obtain ⟨cl, h1, h2⟩ := h.rowL
    refine ⟨cl, ?_, h2⟩
    rw [hg.block bl (block_lt h1) (fun e => ?_)]
    · exact h1
    · rcases (h.lists k hk).2 with ⟨hv, _⟩ | ⟨g, cap, cur, hv, _, hgc, _⟩
      · rw [hv] at e; simp [Value.ownBlock] at e
      · rw [hv] at e
        simp [Value.ownBlock] at e
        subst e
        rw [h1] at hgc
        simp at hgc
  rowW := by
    obtain ⟨cl, h1, h2⟩ := h.rowW
    refine ⟨cl, ?_, h2⟩
    rw [hg.block gw (block_lt h1) (fun e => ?_)]
    · exact h1
    · have := h.low k hk gw e.symm
      omega
  below := h.below.grown hg hbs (fun g e => ((h.lists k hk).lt g e).1)

theorem row_cell {w : World} {g m e : Nat} {V : Nat → Value} (h : ∃ cl : Array Value, w.heap[g]? = some (.cells cl e (0, 0)) ∧ ∀ j, j < m → cl[j]? = some (V j)) (j : Nat) (hj : j < m) : w.cell? ⟨g, j, none⟩ = some (V j) := by
  obtain ⟨cl, h1, h2⟩ := h
  rw [cell_of_row w g j cl e (0, 0) h1]; exact h2 j hj

end Go.Proofs.Ytbcangblmadnpac
