/- The contracts so far, at a slice value of which it is known only that it reads as a list of words. -/
import Derived.Test.YtbcangblmadnpacDoorComp
import Derived.Test.YtbcangblmadnpacDoorComp2
import Derived.Test.YtbcangblmadnpacDoorOf
import Derived.Test.YtbcangblmadnpacDoorBits
import Derived.Test.YtbcangblmadnpacDoorOver
namespace Go.Proofs.YtbcangblmadnpacDoor
open Go.RowKit
set_option linter.unusedVariables false

/-- The value is a slice that reads as these words. -/
def Sl (w : World) (v : Value) (xs : List Int) : Prop := ∃ a cap, v = .slice a xs.length cap ∧ Reads w w.heap.size a xs.length cap xs

theorem Sl.wd {w : World} {v : Value} {xs : List Int} (h : Sl w v xs) : Wd xs := h.choose_spec.choose_spec.2.2.1
theorem Sl.later {w w' : World} {v : Value} {xs : List Int} (h : Sl w v xs) (hb : Below w.heap.size w w') : Sl w' v xs := by
  obtain ⟨a, cap, rfl, hr⟩ := h
  exact ⟨a, cap, rfl, hr.later hb hb.size⟩
theorem Sl.own {w : World} {base e n : Nat} {v : Value} {xs : List Int} (h : w.ownsRow base e 1 v n (xs.map (Value.int .u32))) (hw : Wd xs) : Sl w v xs := by
  have hl : xs.length = n := by have := h.1; simpa using this
  obtain ⟨a, cap, rfl, hr⟩ := Reads.own h hw
  subst hl
  exact ⟨a, cap, rfl, hr⟩

theorem same_sl (v u : Value) (xs ys : List Int) (w : World) (h : Sl w v xs) (g : Sl w u ys) (hn : xs.length ≤ 281474976710656) (hm : ys.length ≤ 281474976710656) :
    Calls Tryd.prog 34 #[v, u] w fun e w' => e = .returned (.bool (decide (xs = ys))) ∧ Below w.heap.size w w' := by
  obtain ⟨a, cap, rfl, hr⟩ := h
  obtain ⟨b, cap', rfl, gr⟩ := g
  exact same_any a _ cap xs b _ cap' ys w hr gr hn hm
theorem copyWords_sl (v : Value) (xs : List Int) (w : World) (h : Sl w v xs) (hn : xs.length ≤ 1099511627776) :
    Calls Tryd.prog 33 #[v] w fun e w' => ∃ v, e = .returned v ∧ w'.ownsRow w.heap.size 40 1 v xs.length (xs.map (Value.int .u32)) ∧ Below w.heap.size w w' := by
  obtain ⟨a, cap, rfl, hr⟩ := h
  exact copyWords_any a _ cap xs w hr hn
theorem lentWords_sl (v : Value) (xs : List Int) (w : World) (h : Sl w v xs) (hn : xs.length ≤ 549755813888) :
    Calls Tryd.prog 21 #[v] w fun e w' => ∃ v, e = .returned v ∧ w'.ownsRow w.heap.size 40 1 v (xs.length + 3) ((xs ++ marks 3).map (Value.int .u32)) ∧ Below w.heap.size w w' := by
  obtain ⟨a, cap, rfl, hr⟩ := h
  exact lentWords_any a _ cap xs w hr hn
theorem keptWords_sl (v u : Value) (xs ys : List Int) (w : World) (h : Sl w v xs) (g : Sl w u ys) (hn : xs.length ≤ 549755813888) (hm : ys.length ≤ 274877906944) :
    Calls Tryd.prog 32 #[v, u] w fun e w' => e = .returned (.bool (decide (xs = ys ++ marks 3))) ∧ Below w.heap.size w w' := by
  obtain ⟨a, cap, rfl, hr⟩ := h
  obtain ⟨b, cap', rfl, gr⟩ := g
  exact keptWords_any a _ cap xs b _ cap' ys w hr gr hn hm
theorem trim_sl (v : Value) (xs : List Int) (w : World) (h : Sl w v xs) (hn : xs.length ≤ 1099511627776) :
    Calls Tryd.prog 64 #[v] w fun e w' => ∃ v, e = .returned v ∧ w'.ownsRow w.heap.size 40 1 v (sz xs) ((trimmed xs).map (Value.int .u32)) ∧ Below w.heap.size w w' := by
  obtain ⟨a, cap, rfl, hr⟩ := h
  exact trim_any a _ cap xs w hr hn
theorem refTrim_sl (v : Value) (xs : List Int) (w : World) (h : Sl w v xs) (hn : xs.length ≤ 1099511627776) :
    Calls Tryd.prog 55 #[v] w fun e w' => ∃ v, e = .returned v ∧ w'.ownsRow w.heap.size 40 1 v (sz xs) ((trimmed xs).map (Value.int .u32)) ∧ Below w.heap.size w w' := by
  obtain ⟨a, cap, rfl, hr⟩ := h
  exact refTrim_any a _ cap xs w hr hn
theorem compare_sl (v u : Value) (xs ys : List Int) (w : World) (h : Sl w v xs) (g : Sl w u ys) (hn : xs.length ≤ 281474976710656) (hm : ys.length ≤ 281474976710656) :
    Calls Tryd.prog 56 #[v, u] w fun e w' => e = .returned (.int .i64 (cmpI (val xs) (val ys))) ∧ Below w.heap.size w w' := by
  obtain ⟨a, cap, rfl, hr⟩ := h
  obtain ⟨b, cap', rfl, gr⟩ := g
  exact compare_any a _ cap xs b _ cap' ys w hr gr hn hm
theorem check_sl (v : Value) (xs : List Int) (w : World) (h : Sl w v xs) (hn : xs.length ≤ 281474976710656) :
    Calls Tryd.prog 44 #[v] w fun e w' => e = .returned (.int .i64 (chk xs)) ∧ w = w' := by
  obtain ⟨a, cap, rfl, hr⟩ := h
  exact check_any a _ cap xs w hr hn
theorem uint64_sl (v : Value) (xs : List Int) (w : World) (h : Sl w v xs) (hn : xs.length ≤ 281474976710656) :
    Calls Tryd.prog 62 #[v] w fun e w' => e = .returned (.tuple #[.int .u64 (u64of xs), .bool (decide (sz xs ≤ 2))]) ∧ Below w.heap.size w w' := by
  obtain ⟨a, cap, rfl, hr⟩ := h
  exact uint64_any a _ cap xs w hr hn
set_option maxHeartbeats 400000 in
set_option maxRecDepth 100000 in
theorem over_sl (base n : Nat) (v : Value) (xs : List Int) (w : World) (hw : Wd xs) (h : w.ownsRow base 40 1 v n (xs.map (Value.int .u32))) :
    Calls Tryd.prog 35 #[v] w fun e w' => e = .returned (.tuple #[]) ∧ w'.ownsRow base 40 1 v n ((compl xs).map (Value.int .u32)) ∧ w.grownBy w' v.ownBlock := by
  rcases h.2 with ⟨rfl, rfl⟩ | ⟨g, cap, cur, rfl, hrest⟩
  · have hx : xs = [] := List.eq_nil_of_length_eq_zero (by have := h.1; simpa using this)
    subst hx
    have HH := hid h
    clear h
    go_enter Tryd.func35, Tryd.ntmps35
    go_wp2
    refine wp_loop_rounds 1 ?_
    rw [rounds_succ]
    go_wp2
    refine wp_loop_rounds 1 ?_
    rw [rounds_succ]
    go_wp2
    go_end0
    exact ⟨rfl, HH.out, World.grownBy.refl _ _⟩
  · exact over_own base g n cap xs w hw h
end Go.Proofs.YtbcangblmadnpacDoor
