/- nat.highest: the highest 62 bits of three words or more, moved up by the first one's noughts. -/
import Derived.Test.YtbcangblmadnpacDoorGcd1
import Derived.BigQuiet
namespace Go.Proofs.YtbcangblmadnpacDoor
open Go.RowKit
set_option linter.unusedVariables false

theorem val_three (xs : List Int) (e : Nat) (h : xs.length = e + 3) : val xs = valTo xs e + (xs[e]?.getD 0 + (xs[e + 1]?.getD 0 + xs[e + 2]?.getD 0 * 4294967296) * 4294967296) * 4294967296 ^ e := by
  have := seg_three xs 0 e
  rw [segTo_zero, segTo_zero] at this
  simp only [Nat.zero_add] at this
  unfold val
  rw [h]
  exact this
/-- The top three words, moved down. -/
theorem high_value (h2 h1 h0 : Int) (s : Nat) (hs : s ≤ 31) (b0 : 0 ≤ h0) : ((h1 + h2 * 4294967296) * 2 ^ s + h0 / 2 ^ (32 - s)) / 4 = (h0 + (h1 + h2 * 4294967296) * 4294967296) / 2 ^ (34 - s) := by
  have p := two_pos (32 - s)
  have e1 : (2 : Int) ^ (34 - s) = 2 ^ (32 - s) * 4 := by rw [show 34 - s = (32 - s) + 2 by omega, Int.pow_add]; rfl
  have e2 : (4294967296 : Int) = 2 ^ s * 2 ^ (32 - s) := two_split s (by omega)
  have e3 : (h0 + (h1 + h2 * 4294967296) * 4294967296) / 2 ^ (32 - s) = (h1 + h2 * 4294967296) * 2 ^ s + h0 / 2 ^ (32 - s) := by
    have : (h1 + h2 * 4294967296) * 4294967296 = (h1 + h2 * 4294967296) * 2 ^ s * 2 ^ (32 - s) := by rw [Int.mul_assoc, ← e2]
    rw [this, Int.add_mul_ediv_right _ _ (by omega)]
    omega
  rw [e1, ← Int.ediv_ediv_of_nonneg (by omega), e3]

theorem or_shl (c x : Int) (t : Nat) (c0 : 0 ≤ c) (c1 : c < 2 ^ t) (x0 : 0 ≤ x) (hp : x * 2 ^ t + c ≤ 18446744073709551615) : bits BinOp.or IntKind.u64 (x * 2 ^ t) c = x * 2 ^ t + c := by
  have h1 := two_pos t
  have h3 : 0 ≤ x * 2 ^ t := Int.mul_nonneg x0 (Int.le_of_lt h1)
  obtain ⟨C, rfl⟩ := Int.eq_ofNat_of_zero_le c0
  obtain ⟨X, rfl⟩ := Int.eq_ofNat_of_zero_le x0
  have e1 : (X : Int) * 2 ^ t = ((X * 2 ^ t : Nat) : Int) := by rw [Int.natCast_mul, Int.natCast_pow]; rfl
  have e2 : ((2 ^ t : Nat) : Int) = 2 ^ t := by rw [Int.natCast_pow]; rfl
  rw [e1] at hp ⊢
  rw [← e2] at c1
  rw [u64_or _ _ (by omega) (by omega) (by omega) (by omega), Int.toNat_natCast, Int.toNat_natCast, nat_join t _ _ (Nat.mul_mod_left _ _) (Int.ofNat_lt.1 c1)]
  omega

end Go.Proofs.YtbcangblmadnpacDoor
