/- nat.addTimes, nat.product: the words of a product, in new memory: of every two lists that can be read. -/
import Derived.Test.YtbcangblmadnpacDoorSum
namespace Go.Proofs.YtbcangblmadnpacDoor
open Go.RowKit
set_option linter.unusedVariables false

/-- The value of k words from place i on. -/
def segTo (ys : List Int) (i : Nat) : Nat → Int
  | 0 => 0
  | k + 1 => segTo ys i k + ys[i + k]?.getD 0 * 4294967296 ^ k
theorem segTo_succ (ys : List Int) (i k : Nat) : segTo ys i (k + 1) = segTo ys i k + ys[i + k]?.getD 0 * 4294967296 ^ k := rfl
theorem segTo_congr (xs ys : List Int) (i : Nat) : ∀ k, (∀ j, j < k → xs[i + j]?.getD 0 = ys[i + j]?.getD 0) → segTo xs i k = segTo ys i k
  | 0, _ => rfl
  | k + 1, h => by rw [segTo_succ, segTo_succ, segTo_congr xs ys i k (fun j hj => h j (by omega)), h k (by omega)]
theorem segTo_set (ys : List Int) (i k : Nat) (z : Int) (h : i + k < ys.length) : segTo (ys.set (i + k) z) i (k + 1) = segTo ys i k + z * 4294967296 ^ k := by
  rw [segTo_succ, segTo_congr (ys.set (i + k) z) ys i k (fun j hj => by rw [List.getElem?_set, if_neg (by omega)]), List.getElem?_set, if_pos rfl, if_pos h]
  rfl
theorem valTo_seg (ys : List Int) (i : Nat) : ∀ k, valTo ys (i + k) = valTo ys i + segTo ys i k * 4294967296 ^ i
  | 0 => by simp [segTo]
  | k + 1 => by
    rw [← Nat.add_assoc, valTo_succ, valTo_seg ys i k, segTo_succ, Int.add_mul, Int.mul_assoc, ← Int.pow_add, Nat.add_comm k i, Int.add_assoc]

theorem mul_step (zs ys : List Int) (i k : Nat) (s x c t : Int) (hk : i + k < ys.length) (ht : c + (x * zs[k]?.getD 0 + ys[i + k]?.getD 0) = t) (s0 : Int)
    (h : segTo ys i k + c * 4294967296 ^ k = s0 + x * valTo zs k) :
    segTo (ys.set (i + k) (t % 4294967296)) i (k + 1) + t / 4294967296 * 4294967296 ^ (k + 1) = s0 + ys[i + k]?.getD 0 * 4294967296 ^ k + x * valTo zs (k + 1) := by
  rw [segTo_set ys i k _ hk, valTo_succ, pw_succ, Int.mul_add]
  have e := carry_step (4294967296 ^ k) (t % 4294967296) (t / 4294967296) t (by omega)
  have e2 : t * 4294967296 ^ k = c * 4294967296 ^ k + (x * (zs[k]?.getD 0 * 4294967296 ^ k) + ys[i + k]?.getD 0 * 4294967296 ^ k) := by
    rw [← ht, Int.add_mul, Int.add_mul, Int.mul_assoc]
  omega

theorem prod_word (x y : Int) (hx : 0 ≤ x ∧ x ≤ 4294967295) (hy : 0 ≤ y ∧ y ≤ 4294967295) : 0 ≤ x * y ∧ x * y ≤ 18446744065119617025 := by
  refine ⟨Int.mul_nonneg hx.1 hy.1, ?_⟩
  have h1 : x * y ≤ 4294967295 * y := Int.mul_le_mul_of_nonneg_right hx.2 hy.1
  omega

end Go.Proofs.YtbcangblmadnpacDoor
