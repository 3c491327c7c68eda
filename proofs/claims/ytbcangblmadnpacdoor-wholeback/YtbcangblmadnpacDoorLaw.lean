/- What the laws share: a slice that came in is read; lists made one behind the other lie apart. -/
import Derived.Test.YtbcangblmadnpacDoorApart
namespace Go.Proofs.YtbcangblmadnpacDoor
open Go.RowKit
set_option linter.unusedVariables false

theorem bt {a b c : World} (h : Below a.heap.size a b) (g : Below b.heap.size b c) : Below a.heap.size a c := h.trans (g.mono h.size)

theorem cell_block {w : World} {b o : Nat} {v : Value} (h : w.cell? ⟨b, o, none⟩ = some v) : b < w.heap.size := by
  by_cases hb : b < w.heap.size
  · exact hb
  · have : w.heap[b]? = none := by simp; omega
    simp [World.cell?, this] at h

/-- A slice of words that came in is read. -/
theorem reads_of_row {w : World} {a : Option Addr} {len cap : Nat} {zs : List Int}
    (h : (a = none ∧ len = 0 ∧ cap = 0 ∧ zs = []) ∨ ∃ x, a = some x ∧ len ≤ cap ∧ cap ≤ maxLen ∧ zs.length = cap ∧ (∀ i, i < zs.length → w.cell? (x.add i) = some (.int .u32 (zs.getD i 0))) ∧ ∀ n ∈ zs, (Lit.int .u32 n).wf = true) :
    Reads w w.heap.size a len cap (zs.take len) := by
  rcases h with ⟨rfl, rfl, rfl, rfl⟩ | ⟨x, rfl, hl, hm, hz, hc, hw⟩
  · exact ⟨rfl, Wd.nil, .inl rfl, Nat.le_refl _, Nat.zero_le _, fun _ => rfl⟩
  · refine ⟨by rw [List.length_take]; omega, fun z hz' => ?_, ?_, hl, hm, fun h => by simp at h⟩
    · have := hw z (List.mem_of_mem_take hz')
      have h1 : IntKind.u32.min = 0 := rfl
      have h2 : IntKind.u32.max = 4294967295 := rfl
      simp only [Lit.wf, Bool.and_eq_true, decide_eq_true_eq] at this
      omega
    · by_cases h0 : len = 0
      · exact .inl h0
      · right
        obtain ⟨b, o, spot⟩ := x
        have hc0 := hc 0 (by omega)
        have hs : spot = none := by simpa [Addr.add] using World.cell?_spot hc0
        subst hs
        refine ⟨b, o, rfl, cell_block (by simpa [Addr.add] using hc0), fun j hj => ?_⟩
        have := hc j (by omega)
        rw [Addr.add_lit] at this
        rw [this, List.getElem?_take, if_pos hj]
        rfl

/-- The blocks of a value lie between two numbers. -/
def Within (v : Value) (lo hi : Nat) : Prop := ∀ g, v.ownBlock = some g → lo ≤ g ∧ g < hi
theorem Within.own {w : World} {base e n : Nat} {v : Value} {xs : List Value} (h : w.ownsRow base e 1 v n xs) {hi : Nat} (hh : w.heap.size ≤ hi) : Within v base hi := fun g hg => by
  have := h.lt g hg; omega

theorem apart_of {m : Nat} {V : Nat → Value} (c : Nat → Nat) (hc : ∀ k, k < m → c k ≤ c (k + 1)) (hv : ∀ k, k < m → Within (V k) (c k) (c (k + 1))) :
    ∀ i j, i < m → j < m → i ≠ j → (V i).ownBlock = none ∨ (V i).ownBlock ≠ (V j).ownBlock := by
  have mono : ∀ d i, i + d ≤ m → c i ≤ c (i + d) := by
    intro d
    induction d with
    | zero => intro i _; exact Nat.le_refl _
    | succ d ih =>
      intro i h
      have h1 := ih i (by omega)
      have h2 := hc (i + d) (by omega)
      show c i ≤ c (i + d + 1)
      omega
  intro i j hi hj hij
  cases e1 : (V i).ownBlock with
  | none => exact .inl rfl
  | some g =>
    right
    intro e2
    have a1 := hv i hi g e1
    have a2 := hv j hj g e2.symm
    rcases Nat.lt_or_gt_of_ne hij with h | h
    · have := mono (j - (i + 1)) (i + 1) (by omega)
      rw [show i + 1 + (j - (i + 1)) = j by omega] at this
      omega
    · have := mono (i - (j + 1)) (j + 1) (by omega)
      rw [show j + 1 + (i - (j + 1)) = i by omega] at this
      omega
end Go.Proofs.YtbcangblmadnpacDoor
