/- nat.commonDivisor, nat.Gcd: the greatest common divisor of every two numbers, in new memory. -/
import Derived.Test.YtbcangblmadnpacDoorRepl
import Derived.Deep.LoopGhost
import Derived.Deep.Cut
namespace Go.Proofs.YtbcangblmadnpacDoor
open Go.RowKit
set_option linter.unusedVariables false

theorem val_take {zs : List Int} (k : Nat) (h : sz zs ≤ k) : val (zs.take k) = val zs := val_eq_of fun j => by
  rw [List.getElem?_take]
  split
  · rfl
  · rw [sz_behind zs j (by omega)]; rfl
theorem sz_mono {us vs : List Int} (wu : Wd us) (wv : Wd vs) (h : val vs ≤ val us) : sz vs ≤ sz us := by
  have := len_le_of_val wu.trimmed wv.trimmed (Trimmed.trimmed vs) (by rw [val_trimmed, val_trimmed]; exact h)
  rwa [length_trimmed, length_trimmed] at this
theorem list_same {us xs : List Int} (hl : us.length = xs.length) (h : ∀ j : Nat, us[j]?.getD 0 = xs[j]?.getD 0) : us = xs := by
  refine List.ext_getElem hl (fun j h1 h2 => ?_)
  have := h j
  rwa [List.getElem?_eq_getElem h1, List.getElem?_eq_getElem h2] at this

/-- Two new rows of noughts. -/
theorem two_made (wc : World) (base n : Nat) (M : Array Value) (hb : base ≤ wc.heap.size) (hn : n ≤ 8192) (hM : M = ((List.replicate n (0 : Int)).map (Value.int .u32)).toArray) :
    OwnC ((wc.alloc (.cells M 40)).alloc (.cells M 40)).drew base wc.heap.size n n (List.replicate n 0) ∧ OwnC ((wc.alloc (.cells M 40)).alloc (.cells M 40)).drew base (wc.heap.size + 1) n n (List.replicate n 0) ∧ Below wc.heap.size wc ((wc.alloc (.cells M 40)).alloc (.cells M 40)).drew := by
  subst hM
  have m : n ≤ maxLen := by unfold maxLen; omega
  have h1 : OwnC (wc.alloc (.cells ((List.replicate n (0 : Int)).map (Value.int .u32)).toArray 40)) base wc.heap.size n n (List.replicate n 0) := whole_row (Box.made wc _ _) (by simp) hb m
  have h2 : OwnC ((wc.alloc (.cells ((List.replicate n (0 : Int)).map (Value.int .u32)).toArray 40)).alloc (.cells ((List.replicate n (0 : Int)).map (Value.int .u32)).toArray 40)) base (wc.heap.size + 1) n n (List.replicate n 0) := by
    have := Box.made (wc.alloc (.cells ((List.replicate n (0 : Int)).map (Value.int .u32)).toArray 40)) 40 ((List.replicate n (0 : Int)).map (Value.int .u32)).toArray
    rw [show (wc.alloc (.cells ((List.replicate n (0 : Int)).map (Value.int .u32)).toArray 40)).heap.size = wc.heap.size + 1 by simp] at this
    exact whole_row this (by simp) (by omega) m
  exact ⟨owns_later h1 (alloc_later _ _).drew, h2, (bt (alloc_later _ _) (alloc_later _ _)).drew⟩

theorem gcdI_le {x y : Int} (hx : 0 ≤ x) (hy : 0 ≤ y) : gcdI x y ≤ x ∨ gcdI x y ≤ y := by
  by_cases h : x = 0
  · subst h; right; rw [gcdI_comm, gcdI_zero y hy]; exact Int.le_refl _
  · left; exact Int.le_of_dvd (by omega) (Int.gcd_dvd_left ..)
theorem gcdI_nonneg (x y : Int) : 0 ≤ gcdI x y := by unfold gcdI; omega

end Go.Proofs.YtbcangblmadnpacDoor
