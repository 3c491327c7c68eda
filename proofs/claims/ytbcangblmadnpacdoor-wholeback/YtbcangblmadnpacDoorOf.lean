/- nat.Of, slackwaterref01.Of, nat.Uint64, slackwaterref01.Uint64: from numbers of 64 bits to words and back: of every number and of every list that can be read. -/
import Derived.Test.YtbcangblmadnpacDoorCopy
namespace Go.Proofs.YtbcangblmadnpacDoor
open Go.RowKit
set_option linter.unusedVariables false

theorem of_wd (x : Int) (h0 : 0 ≤ x) (h1 : x ≤ 18446744073709551615) : Wd [x % 4294967296, x / 4294967296] := Wd.cons (by omega) (Wd.one (by omega))

set_option maxHeartbeats 800000 in
set_option maxRecDepth 100000 in
theorem of_any (x : Int) (w : World) (h0 : 0 ≤ x) (h1 : x ≤ 18446744073709551615) :
    Calls Tryd.prog 59 #[.int .u64 x] w fun e w' => ∃ v, e = .returned v ∧ w'.ownsRow w.heap.size 40 1 v (sz [x % 4294967296, x / 4294967296]) ((trimmed [x % 4294967296, x / 4294967296]).map (Value.int .u32)) ∧ Below w.heap.size w w' := by
  have hr := Reads.lit w 40 _ (of_wd x h0 h1) (by simp [maxLen])
  have HR := hid hr
  clear hr
  go_enter Tryd.func59, Tryd.ntmps59
  go_wp2_with fail
  refine (trim_any _ _ _ [x % 4294967296, x / 4294967296] _ HR.out (by simp)).mono ?_
  rintro e w1 ⟨v, rfl, hown, hbel⟩
  have hb : Below w.heap.size w w1 := ((Below.refl _ _).alloc (Nat.le_refl _) _).trans (hbel.mono (by simp))
  go_wp2
  go_ret
  exact ⟨_, rfl, owns_base hown (by simp), hb⟩

/-- What Uint64 tells. -/
def u64of (xs : List Int) : Int := if sz xs ≤ 2 then val xs else 0
theorem ret_two {a b : Int} {p q : Bool} (h : a = b) (g : p = q) : Ending.returned (.tuple #[.int .u64 a, .bool p]) = .returned (.tuple #[.int .u64 b, .bool q]) := by rw [h, g]

set_option maxHeartbeats 1600000 in
set_option maxRecDepth 100000 in
theorem uint64_any (a : Option Addr) (n cap : Nat) (xs : List Int) (w : World) (h : Reads w w.heap.size a n cap xs) (hn : n ≤ 281474976710656) :
    Calls Tryd.prog 62 #[.slice a n cap] w fun e w' => e = .returned (.tuple #[.int .u64 (u64of xs), .bool (decide (sz xs ≤ 2))]) ∧ Below w.heap.size w w' := by
  have hx := size_any a n cap xs _ w h hn
  have hs := val_sz xs
  have sx := sz_le xs
  obtain ⟨hl, hw, hc, hcap⟩ := h
  rw [hl] at sx
  have b0 := hw.at 0
  have b1 := hw.at 1
  have cells : 0 < sz xs → ∃ b o, a = some ⟨b, o, none⟩ ∧ w.cell? ⟨b, o, none⟩ = some (.int .u32 (xs[0]?.getD 0)) ∧ (1 < sz xs → w.cell? ⟨b, o + 1, none⟩ = some (.int .u32 (xs[1]?.getD 0))) := fun hp => by
    rcases hc with h0 | ⟨b, o, rfl, hb, hc⟩
    · omega
    · exact ⟨b, o, rfl, by simpa using hc 0 (by omega), fun h => hc 1 (by omega)⟩
  clear hc hcap
  by_cases s0 : sz xs = 0
  · have HV : Hid (0 = u64of xs ∧ true = decide (sz xs ≤ 2)) := ⟨by unfold u64of; rw [if_pos (by omega), hs, s0]; rfl, (decide_eq_true (by omega)).symm⟩
    rw [s0] at hx
    have HX := hid hx
    clear hx hl s0 cells hs sx
    go_enter Tryd.func62, Tryd.ntmps62
    go_wp2_with fail
    refine Calls.mono HX.out ?_
    rintro e w' ⟨rfl, rfl⟩
    go_wp2
    go_ret2
    exact ⟨ret_two HV.out.1 HV.out.2, Below.refl _ _⟩
  · obtain ⟨b, o, rfl, c0, c1⟩ := cells (by omega)
    by_cases s1 : sz xs = 1
    · have HV : Hid (xs[0]?.getD 0 = u64of xs ∧ true = decide (sz xs ≤ 2)) := ⟨by unfold u64of; rw [if_pos (by omega), hs, s1]; simp [valTo], (decide_eq_true (by omega)).symm⟩
      rw [s1] at hx
      have hn1 : 1 ≤ n := by omega
      have HX := hid hx
      clear hx hl s0 s1 cells hs sx c1 hw b1
      go_enter Tryd.func62, Tryd.ntmps62
      go_wp2_with fail
      refine Calls.mono HX.out ?_
      rintro e w' ⟨rfl, rfl⟩
      go_wp2
      go_ret2
      exact ⟨ret_two HV.out.1 HV.out.2, Below.refl _ _⟩
    · by_cases s2 : sz xs = 2
      · have HV : Hid (xs[0]?.getD 0 + xs[1]?.getD 0 * 4294967296 = u64of xs ∧ true = decide (sz xs ≤ 2)) := ⟨by unfold u64of; rw [if_pos (by omega), hs, s2]; simp [valTo], (decide_eq_true (by omega)).symm⟩
        have c1 := c1 (by omega)
        have c0d : w.drew.cell? ⟨b, o, none⟩ = some (.int .u32 (xs[0]?.getD 0)) := c0
        have c1d : w.drew.cell? ⟨b, o + 1, none⟩ = some (.int .u32 (xs[1]?.getD 0)) := c1
        rw [s2] at hx
        have hn1 : 2 ≤ n := by omega
        have HX := hid hx
        clear hx hl s0 s1 s2 cells hs sx hw
        go_enter Tryd.func62, Tryd.ntmps62
        go_wp2_with fail
        refine Calls.mono HX.out ?_
        rintro e w' ⟨rfl, rfl⟩
        go_wp2
        go_region
        all_goals go_wp2
        all_goals
          go_ret2
          exact ⟨ret_two ((or_join _ _ b1.1 b1.2 b0.1 b0.2).trans HV.out.1) HV.out.2, (Below.refl _ _).drew⟩
      · have HV : Hid (0 = u64of xs ∧ false = decide (sz xs ≤ 2)) := ⟨by unfold u64of; rw [if_neg (by omega)], (decide_eq_false (by omega)).symm⟩
        have e0 : ((sz xs : Int) == 0) = false := by simp; omega
        have e1 : ((sz xs : Int) == 1) = false := by simp; omega
        have e2 : ((sz xs : Int) == 2) = false := by simp; omega
        have HX := hid hx
        clear hx hl s0 s1 s2 cells hs sx hw
        go_enter Tryd.func62, Tryd.ntmps62
        go_wp2_with fail
        refine Calls.mono HX.out ?_
        rintro e w' ⟨rfl, rfl⟩
        go_wp2
        go_ret2
        exact ⟨ret_two HV.out.1 HV.out.2, Below.refl _ _⟩

end Go.Proofs.YtbcangblmadnpacDoor
