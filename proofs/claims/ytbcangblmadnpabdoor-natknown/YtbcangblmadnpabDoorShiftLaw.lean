/- The law NatShifts answers true, and writes nothing that was there: whatever list and number come in, where the library's table of powers of ten stands as its text lays it. -/
import Derived.Test.YtbcangblmadnpabDoorDivAny
import Derived.Test.YtbcangblmadnpabDoorHelp
import Derived.Test.YtbcangblmadnpabDoorLaw
namespace Go.Proofs.YtbcangblmadnpabDoor
open Go.RowKit
set_option linter.unusedVariables false

theorem shl_lt {x : Int} {L K M : Nat} (h0 : 0 ≤ x) (h : x < 4294967296 ^ L) (hK : K ≤ 32 * M) : x * 2 ^ K < 4294967296 ^ (L + M) := by
  rw [Int.pow_add]
  have p := two_pos K
  have e1 : (2 : Int) ^ K ≤ 4294967296 ^ M := by rw [pw_two]; exact two_le hK
  have e2 : x * 2 ^ K < 4294967296 ^ L * 2 ^ K := Int.mul_lt_mul_of_pos_right h p
  have e3 : (4294967296 : Int) ^ L * 2 ^ K ≤ 4294967296 ^ L * 4294967296 ^ M := Int.mul_le_mul_of_nonneg_left e1 (Int.le_of_lt (pw_pos L))
  omega
theorem shr_lt {x : Int} {L K : Nat} (h0 : 0 ≤ x) (h : x < 4294967296 ^ L) : x / 2 ^ K < 4294967296 ^ L := by
  have : x / 2 ^ K ≤ x := Int.ediv_le_self _ h0
  omega
theorem bits_shl {zA zU : List Int} {K : Nat} (wA : Wd zA) (wU : Wd zU) (hp : 0 < sz zA) (h : val zU = val zA * 2 ^ K) : bitsOf zU = bitsOf zA + K := by
  obtain ⟨b1, b2, b3, _, _⟩ := bits_bounds wA hp
  have p := two_pos K
  refine bits_is wU _ (by omega) ?_ ?_
  · have e : (2 : Int) ^ (bitsOf zA - 1) * 2 ^ K ≤ val zA * 2 ^ K := Int.mul_le_mul_of_nonneg_right b2 (Int.le_of_lt p)
    rw [← Int.pow_add] at e
    rw [h, show bitsOf zA + K - 1 = bitsOf zA - 1 + K by omega]; exact e
  · have e : val zA * 2 ^ K < 2 ^ bitsOf zA * 2 ^ K := Int.mul_lt_mul_of_pos_right b3 p
    rw [← Int.pow_add] at e
    rw [h]; exact e

end Go.Proofs.YtbcangblmadnpabDoor
