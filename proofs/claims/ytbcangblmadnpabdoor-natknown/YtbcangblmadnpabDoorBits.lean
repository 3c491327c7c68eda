/- math/bits.Len32, nat.Bits and slackwaterref01.Bits tell how many bits a number has: of every word, of every list that can be read. -/
import Derived.Test.YtbcangblmadnpabDoorCopy
import Derived.Lib.BitFns
namespace Go.Proofs.YtbcangblmadnpabDoor
open Go.RowKit
set_option linter.unusedVariables false

set_option maxHeartbeats 800000 in
set_option maxRecDepth 100000 in
theorem len32_any (x : Int) (w : World) (h0 : 0 ≤ x) (h1 : x ≤ 4294967295) :
    Calls Tryd.prog 36 #[.int .u32 x] w fun e w' => e = .returned (.int .i64 (Lib.bitLen x.toNat)) ∧ w = w' := by
  by_cases p1 : 65536 ≤ x
  · by_cases p2 : 256 ≤ x / 65536
    · have q0 : 0 ≤ x / 65536 / 256 := by omega
      have q1 : x / 65536 / 256 ≤ 255 := by omega
      have g8 := Lib.bitLen_le8' (x / 65536 / 256) q0 q1
      have l8 := Lib.len8_of (x / 65536 / 256) q0 q1
      have HG : Hid ((24 : Int) + (Lib.bitLen (x / 65536 / 256).toNat : Int) = (Lib.bitLen x.toNat : Int)) := by
        have e1 := Lib.bitLen_shift16 x.toNat (by omega) (by omega)
        have e2 := Lib.bitLen_shift8 (x.toNat / 65536) (by omega) (by omega)
        have e3 : x.toNat / 65536 / 256 = (x / 65536 / 256).toNat := by omega
        rw [e3] at e2
        show _ = _
        omega
      go_enter Tryd.func36, Tryd.ntmps36
      go_wp2
      go_ret
      exact ⟨ret_int HG.out, rfl⟩
    · have q0 : 0 ≤ x / 65536 := by omega
      have q1 : x / 65536 ≤ 255 := by omega
      have g8 := Lib.bitLen_le8' (x / 65536) q0 q1
      have l8 := Lib.len8_of (x / 65536) q0 q1
      have HG : Hid ((16 : Int) + (Lib.bitLen (x / 65536).toNat : Int) = (Lib.bitLen x.toNat : Int)) := by
        have e1 := Lib.bitLen_shift16 x.toNat (by omega) (by omega)
        have e3 : x.toNat / 65536 = (x / 65536).toNat := by omega
        rw [e3] at e1
        show _ = _
        omega
      go_enter Tryd.func36, Tryd.ntmps36
      go_wp2
      go_ret
      exact ⟨ret_int HG.out, rfl⟩
  · by_cases p2 : 256 ≤ x
    · have q0 : 0 ≤ x / 256 := by omega
      have q1 : x / 256 ≤ 255 := by omega
      have g8 := Lib.bitLen_le8' (x / 256) q0 q1
      have l8 := Lib.len8_of (x / 256) q0 q1
      have HG : Hid ((8 : Int) + (Lib.bitLen (x / 256).toNat : Int) = (Lib.bitLen x.toNat : Int)) := by
        have e1 := Lib.bitLen_shift8 x.toNat (by omega) (by omega)
        have e3 : x.toNat / 256 = (x / 256).toNat := by omega
        rw [e3] at e1
        show _ = _
        omega
      go_enter Tryd.func36, Tryd.ntmps36
      go_wp2
      go_ret
      exact ⟨ret_int HG.out, rfl⟩
    · have q1 : x ≤ 255 := by omega
      have g8 := Lib.bitLen_le8' x h0 q1
      have l8 := Lib.len8_of x h0 q1
      go_enter Tryd.func36, Tryd.ntmps36
      go_wp2
      go_ret
      exact ⟨rfl, rfl⟩

/-- How many bits a list's value has. -/
def bitsOf (xs : List Int) : Nat := if sz xs = 0 then 0 else (sz xs - 1) * 32 + Lib.bitLen (xs[sz xs - 1]?.getD 0).toNat

theorem bitLen_le32 (x : Int) (h : x ≤ 4294967295) : Lib.bitLen x.toNat ≤ 32 := Lib.bitLen_le x.toNat 32 (by omega) (by omega)

set_option maxHeartbeats 800000 in
set_option maxRecDepth 100000 in
theorem bits_any (a : Option Addr) (n cap : Nat) (xs : List Int) (w : World) (h : Reads w w.heap.size a n cap xs) (hn : n ≤ 1099511627776) :
    Calls Tryd.prog 18 #[.slice a n cap] w fun e w' => e = .returned (.int .i64 (bitsOf xs)) ∧ w = w' := by
  have hx := size_any a n cap xs _ w h (by omega)
  have sx := sz_le xs
  rw [h.1] at sx
  have HU : Hid (bitsOf xs = if sz xs = 0 then 0 else (sz xs - 1) * 32 + Lib.bitLen (xs[sz xs - 1]?.getD 0).toNat) := rfl
  obtain ⟨s, hs⟩ : ∃ s, s = sz xs := ⟨_, rfl⟩
  rw [← hs] at hx sx HU
  clear hs
  rcases s with _ | s
  · have HX := hid hx
    clear hx h
    go_enter Tryd.func18, Tryd.ntmps18
    go_wp2_with fail
    refine Calls.mono HX.out ?_
    rintro e w' ⟨rfl, rfl⟩
    go_wp2
    go_ret
    exact ⟨ret_int (by rw [HU.out]; rfl), rfl⟩
  · rcases h.2.2.1 with h0 | ⟨b, o, rfl, hb, hc⟩
    · omega
    · have hcx := hc s (by omega)
      have hbd := h.2.1.at s
      have h32 := bitLen_le32 _ hbd.2
      have HX := hid hx
      have hne : (((s + 1 : Nat) : Int) == 0) = false := by simp; omega
      have HU' : Hid ((bitsOf xs : Int) = (s : Int) * 32 + (Lib.bitLen (xs[s]?.getD 0).toNat : Int)) := by
        have e := HU.out
        rw [if_neg (by omega), Nat.add_sub_cancel] at e
        show _ = _
        omega
      clear hx h HU
      go_enter Tryd.func18, Tryd.ntmps18
      go_wp2_with fail
      refine Calls.mono HX.out ?_
      rintro e w' ⟨rfl, rfl⟩
      go_wp2_with fail
      refine (len32_any _ _ hbd.1 hbd.2).mono ?_
      rintro e w' ⟨rfl, rfl⟩
      go_wp2
      go_ret
      exact ⟨ret_int (by rw [HU'.out]), rfl⟩

end Go.Proofs.YtbcangblmadnpabDoor
