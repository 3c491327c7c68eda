/- math/bits.Len32, nat.Bits and slackwaterref01.Bits tell how many bits a number has: of every word, of every list that can be read. -/
import Derived.Test.YtbcangblmadnpacDoorCopy
import Derived.Lib.BitFns
namespace Go.Proofs.YtbcangblmadnpacDoor
open Go.RowKit
set_option linter.unusedVariables false

set_option maxHeartbeats 800000 in
set_option maxRecDepth 100000 in
theorem len32_any (x : Int) (w : World) (h0 : 0 ≤ x) (h1 : x ≤ 4294967295) :
    Calls Tryd.prog 100 #[.int .u32 x] w fun e w' => e = .returned (.int .i64 (Lib.bitLen x.toNat)) ∧ w = w' := by
  by_cases p1 : 65536 ≤ x
  · by_cases p2 : 256 ≤ x / 65536
    · have q0 : 0 ≤ x / 65536 / 256 := by omega
      have q1 : x / 65536 / 256 ≤ 255 := by omega
      have g8 := Lib.bitLen_le8' (x / 65536 / 256) q0 q1
      have l8 := Lib.len8_of (x / 65536 / 256) q0 q1
      have HG : Hid ((24 : Int) + (Lib.bitLen (x / 65536 / 256).toNat : Int) = (Lib.bitLen x.toNat : Int)) := by
        have e1 := Lib.bitLen_shift16 x.toNat (by omega) (by omega)
        have e2 := Lib.bitLen_shift8 (x.toNat / 65536) (by omega) (by omega)
        have e3 : x.toNat / 65536 / 256 = (x / 65536 / 256).toNat := by omega
        rw [e3] at e2
        show _ = _
        omega
      go_enter Tryd.func100, Tryd.ntmps100
      go_wp2
      go_ret
      exact ⟨ret_int HG.out, rfl⟩
    · have q0 : 0 ≤ x / 65536 := by omega
      have q1 : x / 65536 ≤ 255 := by omega
      have g8 := Lib.bitLen_le8' (x / 65536) q0 q1
      have l8 := Lib.len8_of (x / 65536) q0 q1
      have HG : Hid ((16 : Int) + (Lib.bitLen (x / 65536).toNat : Int) = (Lib.bitLen x.toNat : Int)) := by
        have e1 := Lib.bitLen_shift16 x.toNat (by omega) (by omega)
        have e3 : x.toNat / 65536 = (x / 65536).toNat := by omega
        rw [e3] at e1
        show _ = _
        omega
      go_enter Tryd.func100, Tryd.ntmps100
      go_wp2
      go_ret
      exact ⟨ret_int HG.out, rfl⟩
  · by_cases p2 : 256 ≤ x
    · have q0 : 0 ≤ x / 256 := by omega
      have q1 : x / 256 ≤ 255 := by omega
      have g8 := Lib.bitLen_le8' (x / 256) q0 q1
      have l8 := Lib.len8_of (x / 256) q0 q1
      have HG : Hid ((8 : Int) + (Lib.bitLen (x / 256).toNat : Int) = (Lib.bitLen x.toNat : Int)) := by
        have e1 := Lib.bitLen_shift8 x.toNat (by omega) (by omega)
        have e3 : x.toNat / 256 = (x / 256).toNat := by omega
        rw [e3] at e1
        show _ = _
        omega
      go_enter Tryd.func100, Tryd.ntmps100
      go_wp2
      go_ret
      exact ⟨ret_int HG.out, rfl⟩
    · have q1 : x ≤ 255 := by omega
      have g8 := Lib.bitLen_le8' x h0 q1
      have l8 := Lib.len8_of x h0 q1
      go_enter Tryd.func100, Tryd.ntmps100
      go_wp2
      go_ret
      exact ⟨rfl, rfl⟩

/-- How many bits a list's value has. -/
def bitsOf (xs : List Int) : Nat := if sz xs = 0 then 0 else (sz xs - 1) * 32 + Lib.bitLen (xs[sz xs - 1]?.getD 0).toNat

theorem bitLen_le32 (x : Int) (h : x ≤ 4294967295) : Lib.bitLen x.toNat ≤ 32 := Lib.bitLen_le x.toNat 32 (by omega) (by omega)

end Go.Proofs.YtbcangblmadnpacDoor
