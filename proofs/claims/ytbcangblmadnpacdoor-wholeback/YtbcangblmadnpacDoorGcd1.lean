/- nat.smallDivisor: the greatest common divisor where the second number has at most two words, in new memory. -/
import Derived.Test.YtbcangblmadnpacDoorDivAny
import Derived.Test.YtbcangblmadnpacDoorOf
import Derived.BigQuiet
namespace Go.Proofs.YtbcangblmadnpacDoor
open Go.RowKit
set_option linter.unusedVariables false

/-- The greatest common divisor, as a whole number. -/
def gcdI (x y : Int) : Int := (Int.gcd x y : Int)
theorem gcdI_zero (x : Int) (h : 0 ≤ x) : gcdI x 0 = x := by unfold gcdI; rw [Int.gcd_zero_right]; omega
theorem gcdI_comm (x y : Int) : gcdI x y = gcdI y x := by unfold gcdI; rw [Int.gcd_comm]
theorem gcdI_mod (x y : Int) : gcdI x y = gcdI y (x % y) := by
  unfold gcdI
  congr 1
  have e := Int.mul_ediv_add_emod x y
  have h : Int.gcd y x = Int.gcd y (x % y) := by
    have h2 : Int.gcd y (x / y * y + x % y) = Int.gcd y (x % y) := Int.gcd_mul_right_add_right y (x % y) (x / y)
    rw [Int.mul_comm, e] at h2
    exact h2
  rw [Int.gcd_comm, h]
theorem gcdI_rest {x y q r : Int} (h : x = q * y + r) : gcdI x y = gcdI y r := by
  unfold gcdI
  congr 1
  rw [Int.gcd_comm, h]
  exact Int.gcd_mul_right_add_right y r q

/-- One number, in new memory. -/
def Told1 (w : World) (t : Int) (x : Ending) (w' : World) : Prop := ∃ v zs, x = .returned v ∧ w'.ownsRow w.heap.size 40 1 v zs.length (zs.map (Value.int .u32)) ∧ Wd zs ∧ Trimmed zs ∧ val zs = t ∧ Below w.heap.size w w'

theorem val_le2 {ys : List Int} (hw : Wd ys) (h : ys.length ≤ 2) : val ys ≤ 18446744073709551615 := by
  have h1 := val_lt hw
  have h2 : (4294967296 : Int) ^ ys.length ≤ 4294967296 ^ 2 := pw_le h
  omega
theorem u64of_eq {ys : List Int} (h : ys.length ≤ 2) : u64of ys = val ys := by
  unfold u64of
  rw [if_pos (by have := sz_le ys; omega)]

end Go.Proofs.YtbcangblmadnpacDoor
