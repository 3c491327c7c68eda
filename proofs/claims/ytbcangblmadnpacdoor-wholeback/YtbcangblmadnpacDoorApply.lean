/- (nat.leap).apply: two numbers in own memory become two sums of multiples of them. -/
import Derived.Test.YtbcangblmadnpacDoorLeap
import Derived.Test.YtbcangblmadnpacDoorHigh
import Derived.Test.YtbcangblmadnpacDoorBox
import Derived.BigQuiet
namespace Go.Proofs.YtbcangblmadnpacDoor
open Go.RowKit
set_option linter.unusedVariables false

theorem OwnC.drewN {w : World} {base g n cap : Nat} {ys : List Int} (h : OwnC w base g n cap ys) (m : Nat) : OwnC (w.drewN m) base g n cap ys := h

theorem OwnC.base {w : World} {base g n cap : Nat} {ys : List Int} (h : OwnC w base g n cap ys) : base ≤ g ∧ g < w.heap.size := World.ownsRow.lt h g rfl

theorem apply_step (xs ys us : List Int) (k : Nat) (a b c p1 p2 T : Int) (hk : k < us.length) (h1 : a * xs[k]?.getD 0 = p1) (h2 : b * ys[k]?.getD 0 = p2) (hT : c + (p1 + p2) = T)
    (h : valTo us k + c * 4294967296 ^ k = a * valTo xs k + b * valTo ys k) :
    valTo (us.set k (T % 4294967296)) (k + 1) + T / 4294967296 * 4294967296 ^ (k + 1) = a * valTo xs (k + 1) + b * valTo ys (k + 1) := by
  rw [valTo_set us k _ hk, valTo_succ xs, valTo_succ ys, pw_succ, Int.mul_add, Int.mul_add, ← Int.mul_assoc a, ← Int.mul_assoc b, h1, h2]
  have e := carry_step (4294967296 ^ k) (T % 4294967296) (T / 4294967296) T (by omega)
  have e2 : T * 4294967296 ^ k = c * 4294967296 ^ k + (p1 * 4294967296 ^ k + p2 * 4294967296 ^ k) := by
    rw [← hT, Int.add_mul, Int.add_mul]
  omega

/-- Two factors of unlike signs, below 2^31 in size. -/
def Coef (a b : Int) : Prop := (0 ≤ a ∧ a ≤ 2147483647 ∧ -2147483647 ≤ b ∧ b ≤ 0) ∨ (-2147483647 ≤ a ∧ a ≤ 0 ∧ 0 ≤ b ∧ b ≤ 2147483647)
theorem coef_pos (a v : Int) (h0 : 0 ≤ a) (h1 : a ≤ 2147483647) (v0 : 0 ≤ v) (v1 : v ≤ 4294967295) : 0 ≤ a * v ∧ a * v ≤ 9223372030412324865 := by
  have e1 := Int.mul_nonneg h0 v0
  have e2 : a * v ≤ 2147483647 * v := Int.mul_le_mul_of_nonneg_right h1 v0
  omega
theorem coef_neg (a v : Int) (h0 : -2147483647 ≤ a) (h1 : a ≤ 0) (v0 : 0 ≤ v) (v1 : v ≤ 4294967295) : -9223372030412324865 ≤ a * v ∧ a * v ≤ 0 := by
  have := coef_pos (-a) v (by omega) (by omega) v0 v1
  rw [Int.neg_mul] at this
  omega
theorem Coef.bounds {a b : Int} (h : Coef a b) {v w p1 p2 : Int} (v0 : 0 ≤ v ∧ v ≤ 4294967295) (w0 : 0 ≤ w ∧ w ≤ 4294967295) (h1 : a * v = p1) (h2 : b * w = p2) :
    (-9223372030412324865 ≤ p1 ∧ p1 ≤ 9223372030412324865) ∧ (-9223372030412324865 ≤ p2 ∧ p2 ≤ 9223372030412324865) ∧ (-9223372030412324865 ≤ p1 + p2 ∧ p1 + p2 ≤ 9223372030412324865) := by
  rcases h with ⟨a0, a1, b0, b1⟩ | ⟨a0, a1, b0, b1⟩
  · have e1 := coef_pos a v a0 a1 v0.1 v0.2
    have e2 := coef_neg b w b0 b1 w0.1 w0.2
    omega
  · have e1 := coef_neg a v a0 a1 v0.1 v0.2
    have e2 := coef_pos b w b0 b1 w0.1 w0.2
    omega
theorem Coef.wide {a b : Int} (h : Coef a b) : (-2147483647 ≤ a ∧ a ≤ 2147483647) ∧ (-2147483647 ≤ b ∧ b ≤ 2147483647) := by
  rcases h with h | h <;> omega

/-- What is left of a number when nothing is carried out. -/
theorem apply_end {us : List Int} (hw : Wd us) (n : Nat) (c V : Int) (hl : us.length = n) (h0 : 0 ≤ V) (h1 : V < 4294967296 ^ n) (h : valTo us n + c * 4294967296 ^ n = V) : val us = V := by
  have b := valTo_bounds hw n
  have hp := pw_pos n
  have hc : c = 0 := by
    have e1 : c * 4294967296 ^ n < 1 * 4294967296 ^ n := by omega
    have e2 : (-1) * 4294967296 ^ n < c * 4294967296 ^ n := by omega
    have e3 := Int.lt_of_mul_lt_mul_right e1 (by omega)
    have e4 := Int.lt_of_mul_lt_mul_right e2 (by omega)
    omega
  rw [hc] at h
  rw [← valTo_stable us n (by omega)]
  omega

end Go.Proofs.YtbcangblmadnpacDoor
