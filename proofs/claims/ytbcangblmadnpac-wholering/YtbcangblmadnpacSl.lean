/- The contracts so far, at a slice value of which it is known only that it reads as a list of words. -/
import Derived.Test.YtbcangblmadnpacComp
import Derived.Test.YtbcangblmadnpacComp2
import Derived.Test.YtbcangblmadnpacOf
import Derived.Test.YtbcangblmadnpacBits
import Derived.Test.YtbcangblmadnpacOver
namespace Go.Proofs.Ytbcangblmadnpac
open Go.RowKit
set_option linter.unusedVariables false

/-- The value is a slice that reads as these words. -/
def Sl (w : World) (v : Value) (xs : List Int) : Prop := ∃ a cap, v = .slice a xs.length cap ∧ Reads w w.heap.size a xs.length cap xs

theorem Sl.wd {w : World} {v : Value} {xs : List Int} (h : Sl w v xs) : Wd xs := h.choose_spec.choose_spec.2.2.1
theorem Sl.later {w w' : World} {v : Value} {xs : List Int} (h : Sl w v xs) (hb : Below w.heap.size w w') : Sl w' v xs := by
  obtain ⟨a, cap, rfl, hr⟩ := h
  exact ⟨a, cap, rfl, hr.later hb hb.size⟩
theorem Sl.own {w : World} {base e n : Nat} {v : Value} {xs : List Int} (h : w.ownsRow base e 1 v n (xs.map (Value.int .u32))) (hw : Wd xs) : Sl w v xs := by
  have hl : xs.length = n := by have := h.1; simpa using this
  obtain ⟨a, cap, rfl, hr⟩ := Reads.own h hw
  subst hl
  exact ⟨a, cap, rfl, hr⟩

theorem same_sl (v u : Value) (xs ys : List Int) (w : World) (h : Sl w v xs) (g : Sl w u ys) (hn : xs.length ≤ 281474976710656) (hm : ys.length ≤ 281474976710656) :
    Calls Try.prog 27 #[v, u] w fun e w' => e = .returned (.bool (decide (xs = ys))) ∧ Below w.heap.size w w' := by
  obtain ⟨a, cap, rfl, hr⟩ := h
  obtain ⟨b, cap', rfl, gr⟩ := g
  exact same_any a _ cap xs b _ cap' ys w hr gr hn hm
theorem trim_sl (v : Value) (xs : List Int) (w : World) (h : Sl w v xs) (hn : xs.length ≤ 1099511627776) :
    Calls Try.prog 35 #[v] w fun e w' => ∃ v, e = .returned v ∧ w'.ownsRow w.heap.size 35 1 v (sz xs) ((trimmed xs).map (Value.int .u32)) ∧ Below w.heap.size w w' := by
  obtain ⟨a, cap, rfl, hr⟩ := h
  exact trim_any a _ cap xs w hr hn
theorem compare_sl (v u : Value) (xs ys : List Int) (w : World) (h : Sl w v xs) (g : Sl w u ys) (hn : xs.length ≤ 281474976710656) (hm : ys.length ≤ 281474976710656) :
    Calls Try.prog 30 #[v, u] w fun e w' => e = .returned (.int .i64 (cmpI (val xs) (val ys))) ∧ Below w.heap.size w w' := by
  obtain ⟨a, cap, rfl, hr⟩ := h
  obtain ⟨b, cap', rfl, gr⟩ := g
  exact compare_any a _ cap xs b _ cap' ys w hr gr hn hm
theorem check_sl (v : Value) (xs : List Int) (w : World) (h : Sl w v xs) (hn : xs.length ≤ 281474976710656) :
    Calls Try.prog 16 #[v] w fun e w' => e = .returned (.int .i64 (chk xs)) ∧ w = w' := by
  obtain ⟨a, cap, rfl, hr⟩ := h
  exact check_any a _ cap xs w hr hn
theorem uint64_sl (v : Value) (xs : List Int) (w : World) (h : Sl w v xs) (hn : xs.length ≤ 281474976710656) :
    Calls Try.prog 40 #[v] w fun e w' => e = .returned (.tuple #[.int .u64 (u64of xs), .bool (decide (sz xs ≤ 2))]) ∧ Below w.heap.size w w' := by
  obtain ⟨a, cap, rfl, hr⟩ := h
  exact uint64_any a _ cap xs w hr hn
end Go.Proofs.Ytbcangblmadnpac
