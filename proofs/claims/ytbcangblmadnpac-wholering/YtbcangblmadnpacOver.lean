/- slackwaterkit.KeptWords: does a list still hold the words and the marks behind them; slackwaterkit.OverWords writes over a list's words and its spare room, and over nothing else. -/
import Derived.Test.YtbcangblmadnpacCopy
namespace Go.Proofs.Ytbcangblmadnpac
open Go.RowKit
set_option linter.unusedVariables false

/-- Each word turned over. -/
def compl (xs : List Int) : List Int := xs.map (fun x => 4294967295 - x)
theorem compl_get (xs : List Int) (j : Nat) (h : j < xs.length) : (compl xs)[j]?.getD 0 = 4294967295 - xs[j]?.getD 0 := by simp [compl, h]
theorem compl_len (xs : List Int) : (compl xs).length = xs.length := by simp [compl]
theorem Wd.compl {xs : List Int} (h : Wd xs) : Wd (compl xs) := by
  intro z hz
  obtain ⟨x, hx, rfl⟩ := List.mem_map.1 hz
  have := h x hx
  omega
/-- The first k words turned over, the others as they were. -/
def part (xs : List Int) (k : Nat) : List Int := compl (xs.take k) ++ xs.drop k
theorem part_zero (xs : List Int) : part xs 0 = xs := by simp [part, compl]
theorem part_len (xs : List Int) (k : Nat) : (part xs k).length = xs.length := by simp [part, compl]; omega
theorem part_all (xs : List Int) (k : Nat) (h : xs.length ≤ k) : part xs k = compl xs := by
  simp [part, List.take_of_length_le h, List.drop_eq_nil_of_le h]
theorem part_at (xs : List Int) (k : Nat) (h : k < xs.length) : (part xs k)[k]? = some (xs[k]?.getD 0) := by
  simp [part, compl, List.getElem?_append, h]
  rw [if_neg (by omega)]
  rw [show k - min k xs.length = 0 by omega]
  simp [h]
theorem part_succ (xs : List Int) (k : Nat) (h : k < xs.length) : part xs (k + 1) = (part xs k).set k (4294967295 - xs[k]?.getD 0) := by
  refine List.ext_getElem? fun j => ?_
  rw [List.getElem?_set]
  simp only [part_len]
  by_cases e : k = j
  · subst e
    rw [if_pos rfl, if_pos h]
    simp [part, compl, List.getElem?_append, h]
    omega
  · rw [if_neg e]
    simp only [part, compl, List.getElem?_append, List.length_map, List.length_take, List.getElem?_map, List.getElem?_take, List.getElem?_drop]
    by_cases e2 : j < k
    · rw [if_pos (by omega), if_pos (by omega), if_pos (by omega), if_pos (by omega)]
    · rw [if_neg (by omega), if_neg (by omega)]
      congr 1
      omega

/-- A prefix of what is owned is owned. -/
theorem owns_front {w : World} {base e g n k cap : Nat} {xs ys : List Value} (h : w.ownsRow base e 1 (.slice (some ⟨g, 0, none⟩) (n + k) cap) (n + k) (xs ++ ys)) (hx : xs.length = n) : w.ownsRow base e 1 (.slice (some ⟨g, 0, none⟩) n cap) n xs := by
  rcases h.2 with ⟨h', _⟩ | ⟨g', cap', cur, h', hb, hg, h1, h2, h3, h4⟩
  · simp at h'
  · simp only [Value.slice.injEq, Option.some.injEq, Addr.mk.injEq, and_true, true_and] at h'
    obtain ⟨rfl, rfl⟩ := h'
    refine ⟨by omega, .inr ⟨g, cap, cur, rfl, hb, hg, by omega, h2, h3, ?_⟩⟩
    have := congrArg (List.take n) h4
    rw [List.take_take, List.take_append_of_le_length (by omega), List.take_of_length_le (l := xs) (by omega), Nat.mul_one, Nat.min_eq_left (by omega)] at this
    rw [Nat.mul_one]; exact this

theorem not_nat (n : Nat) (h : n < 4294967296) : 4294967295 ^^^ n = 4294967295 - n := by
  refine Nat.eq_of_testBit_eq fun i => ?_
  have e1 : (4294967295 : Nat) = 2 ^ 32 - 1 := by decide
  have e2 : 4294967295 - n = 2 ^ 32 - (n + 1) := by omega
  rw [e2, Nat.testBit_two_pow_sub_succ (by omega), Nat.testBit_xor, e1, Nat.testBit_two_pow_sub_one]
  by_cases hi : i < 32
  · simp [hi]
  · have : n.testBit i = false := Nat.testBit_lt_two_pow (Nat.lt_of_lt_of_le h (by
      have := Nat.pow_le_pow_right (n := 2) (by omega) (show 32 ≤ i by omega)
      omega))
    simp [hi, this]
theorem not_u32 (x : Int) (h0 : 0 ≤ x) (h1 : x ≤ 4294967295) : bits BinOp.xor IntKind.u32 (if IntKind.u32.signed = true then -1 else IntKind.u32.max) x = 4294967295 - x := by
  have e : (if IntKind.u32.signed = true then (-1 : Int) else IntKind.u32.max) = 4294967295 := by decide
  rw [e, u32_xor _ _ (by omega) (by omega) h0 (by omega)]
  have := not_nat x.toNat (by omega)
  have e2 : Int.toNat 4294967295 = 4294967295 := rfl
  rw [e2, this]
  omega

theorem grown_trans {a b c : World} {r : Option Nat} (h : a.grownBy b r) (g : b.grownBy c r) : a.grownBy c r :=
  ⟨g.os.trans h.os, g.tape.trans h.tape, g.output.trans h.output, Nat.le_trans h.size g.size, fun k hk hr => (g.block k (Nat.lt_of_lt_of_le hk h.size) hr).trans (h.block k hk hr)⟩

end Go.Proofs.Ytbcangblmadnpac
