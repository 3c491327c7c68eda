/- nat.Shift: of every list that can be read and every number the list moved up or down, or the error, in new memory. -/
import Derived.Test.YtbcangblmadnpabDoorShift
import Derived.Test.YtbcangblmadnpabDoorBits
import Derived.Test.YtbcangblmadnpabDoorOps
import Derived.Test.YtbcangblmadnpabDoorHelp0
import Derived.Lib.ItoaNum
namespace Go.Proofs.YtbcangblmadnpabDoor
open Go.RowKit
set_option linter.unusedVariables false

theorem pw_two (k : Nat) : (4294967296 : Int) ^ k = 2 ^ (32 * k) := by
  rw [Int.pow_mul]; rfl
theorem pw_two_le {K e : Nat} (h : 32 * K ≤ e) : (4294967296 : Int) ^ K ≤ 2 ^ e := by rw [pw_two]; exact two_le h
theorem bitLen_bounds (x : Int) (h0 : 1 ≤ x) (h1 : x ≤ 4294967295) : 1 ≤ Lib.bitLen x.toNat ∧ (2 : Int) ^ (Lib.bitLen x.toNat - 1) ≤ x ∧ x < 2 ^ Lib.bitLen x.toNat := by
  obtain ⟨a, b, c⟩ := Lib.bitLenAux_bounds 64 x.toNat (by omega) (by omega)
  refine ⟨a, ?_, ?_⟩
  · have := Int.ofNat_le.2 b
    rw [Int.natCast_pow, Int.toNat_of_nonneg (by omega)] at this
    exact this
  · have := Int.ofNat_lt.2 c
    rw [Int.natCast_pow, Int.toNat_of_nonneg (by omega)] at this
    exact this
theorem bits_bounds {xs : List Int} (hw : Wd xs) (hp : 0 < sz xs) : 1 ≤ bitsOf xs ∧ (2 : Int) ^ (bitsOf xs - 1) ≤ val xs ∧ val xs < 2 ^ bitsOf xs ∧ bitsOf xs ≤ 32 * sz xs ∧ 32 * (sz xs - 1) < bitsOf xs := by
  obtain ⟨m, hm⟩ : ∃ m, sz xs = m + 1 := ⟨sz xs - 1, by omega⟩
  have ht := sz_top xs hp
  have hb := hw.at m
  have h32 := bitLen_le32 (xs[m]?.getD 0) hb.2
  rw [hm, Nat.add_sub_cancel] at ht
  obtain ⟨b1, b2, b3⟩ := bitLen_bounds (xs[m]?.getD 0) (by omega) hb.2
  have e : bitsOf xs = m * 32 + Lib.bitLen (xs[m]?.getD 0).toNat := by unfold bitsOf; rw [hm, if_neg (by omega), Nat.add_sub_cancel]
  have hv : val xs = valTo xs m + xs[m]?.getD 0 * 4294967296 ^ m := by rw [val_sz, hm, valTo_succ]
  have vb := valTo_bounds hw m
  rw [e, hv]
  generalize Lib.bitLen (xs[m]?.getD 0).toNat = L at *
  have hpw := pw_pos m
  refine ⟨by omega, ?_, ?_, by omega, by omega⟩
  · have e1 : (2 : Int) ^ (m * 32 + L - 1) = 2 ^ (L - 1) * 4294967296 ^ m := by rw [pw_two, ← Int.pow_add]; congr 1; omega
    have e2 : (2 : Int) ^ (L - 1) * 4294967296 ^ m ≤ xs[m]?.getD 0 * 4294967296 ^ m := Int.mul_le_mul_of_nonneg_right b2 (Int.le_of_lt hpw)
    rw [e1]; omega
  · have e1 : (2 : Int) ^ (m * 32 + L) = 2 ^ L * 4294967296 ^ m := by rw [pw_two, ← Int.pow_add]; congr 1; omega
    have e2 : (xs[m]?.getD 0 + 1) * 4294967296 ^ m ≤ (2 : Int) ^ L * 4294967296 ^ m := Int.mul_le_mul_of_nonneg_right (by omega) (Int.le_of_lt hpw)
    rw [Int.add_mul] at e2
    rw [e1]; omega

set_option maxHeartbeats 1600000 in
set_option maxRecDepth 100000 in
theorem shift_up (v : Value) (xs : List Int) (n : Nat) (w : World) (h : Sl w v xs) (hl : xs.length ≤ 8192) (hx : Trimmed xs) (hn : n ≤ 262144) :
    Calls Tryd.prog 17 #[v, .int .i64 n] w (Told w 0 (val xs * 2 ^ n)) := by
  have HC := hid (check_sl v xs w h (by omega))
  rw [chk_good hl hx] at HC
  have wx := h.wd
  by_cases h0 : xs.length = 0
  · have hxe : xs = [] := List.eq_nil_of_length_eq_zero h0
    subst hxe
    have HT : Hid (Tells 0 (val [] * 2 ^ n) [] 0) := Tells.ok Wd.nil Trimmed.nil (by rw [val_nil]; simp) (by rw [val_nil]; have := pw_pos 8192; unfold wide; omega)
    obtain ⟨a, cap, rfl, hr⟩ := h
    clear h0 hr
    go_enter Tryd.func17, Tryd.ntmps17
    go_wp2_with fail
    refine Calls.mono HC.out ?_
    rintro e w' ⟨rfl, rfl⟩
    go_wp2_with fail
    go_ret2
    exact ⟨_, [], _, rfl, World.ownsRow_nil _ _ _ _, HT.out, Below.refl _ _⟩
  · obtain ⟨b1, b2, b3, b4, b5⟩ := bits_bounds wx (by rw [hx]; omega)
    rw [hx] at b4 b5
    have HB := hid (bits_sl v xs w h (by omega))
    obtain ⟨b, hb⟩ : ∃ b, bitsOf xs = b := ⟨_, rfl⟩
    rw [hb] at HB b1 b2 b3 b4 b5
    clear hb
    have hz : ((xs.length : Int) == 0) = false := by simp; exact fun e => h0 (by simp [e])
    have n1 : ¬ (b : Int) + (n : Int) ≤ 0 := by omega
    by_cases hlong : 262144 < b + n
    · have HT : Hid (Tells 0 (val xs * 2 ^ n) [] 3) := Tells.tooLong (by
        have e1 : (2 : Int) ^ (b - 1) * 2 ^ n ≤ val xs * 2 ^ n := Int.mul_le_mul_of_nonneg_right b2 (Int.le_of_lt (two_pos n))
        rw [← Int.pow_add] at e1
        have e2 : (4294967296 : Int) ^ 8192 ≤ 2 ^ (b - 1 + n) := pw_two_le (K := 8192) (by omega)
        unfold wide
        omega)
      have hli : (262144 : Int) < (b : Int) + (n : Int) := by omega
      obtain ⟨a, cap, rfl, hr⟩ := h
      clear b2 b3 hr h0
      go_enter Tryd.func17, Tryd.ntmps17
      go_wp2_with fail
      refine Calls.mono HC.out ?_
      rintro e w' ⟨rfl, rfl⟩
      go_wp2_with fail
      refine Calls.mono HB.out ?_
      rintro e w' ⟨rfl, rfl⟩
      go_wp2_with fail
      refine Calls.mono HB.out ?_
      rintro e w' ⟨rfl, rfl⟩
      go_wp2_with fail
      go_ret2
      exact ⟨_, [], _, rfl, World.ownsRow_nil _ _ _ _, HT.out, Below.refl _ _⟩
    · have hli : ¬ (262144 : Int) < (b : Int) + (n : Int) := by omega
      obtain ⟨a, cap, rfl, hr⟩ := h
      obtain ⟨W, hW⟩ : ∃ W : Nat, (n : Int) / 32 = (W : Int) := ⟨n / 32, by omega⟩
      obtain ⟨t, ht⟩ : ∃ t : Nat, (n : Int) % 32 = (t : Int) := ⟨n % 32, by omega⟩
      have hwt : n = t + 32 * W := by omega
      have HR := hid (raise_any a xs.length cap xs W t w hr (by omega) (by omega) (by omega) (by omega))
      have HE : Hid (∀ y : Int, y = val xs * 2 ^ t * 4294967296 ^ W → y = val xs * 2 ^ n) := fun y hy => by
        rw [hy, pw_two, Int.mul_assoc, ← Int.pow_add, ← hwt]
      clear b2 b3 hr h0 hwt
      go_enter Tryd.func17, Tryd.ntmps17
      go_wp2_with fail
      refine Calls.mono HC.out ?_
      rintro e w' ⟨rfl, rfl⟩
      go_wp2_with fail
      refine Calls.mono HB.out ?_
      rintro e w' ⟨rfl, rfl⟩
      go_wp2_with fail
      refine Calls.mono HB.out ?_
      rintro e w' ⟨rfl, rfl⟩
      go_wp2_with fail
      refine Calls.mono HR.out ?_
      rintro e w1 ⟨ys, rfl, oy, wy, hvy, hb1⟩
      have HTT := hid (told_any _ _ _ ys w1 oy wy (by omega))
      rw [HE.out _ hvy] at HTT
      clear oy hvy
      go_wp2_with fail
      refine Calls.mono HTT.out ?_
      rintro e w2 ⟨v2, zs, code, rfl, ho2, ht2, rfl⟩
      go_wp2_with fail
      go_ret2
      exact ⟨_, zs, code, rfl, ho2, ht2, hb1⟩

set_option maxHeartbeats 1600000 in
set_option maxRecDepth 100000 in
theorem shift_down (v : Value) (xs : List Int) (m : Nat) (w : World) (h : Sl w v xs) (hl : xs.length ≤ 8192) (hx : Trimmed xs) (hm1 : 1 ≤ m) (hm : m ≤ 262144) :
    Calls Tryd.prog 17 #[v, .int .i64 (-(m : Int))] w (Told w 0 (val xs / 2 ^ m)) := by
  have HC := hid (check_sl v xs w h (by omega))
  rw [chk_good hl hx] at HC
  have wx := h.wd
  by_cases h0 : xs.length = 0
  · have hxe : xs = [] := List.eq_nil_of_length_eq_zero h0
    subst hxe
    have HT : Hid (Tells 0 (val [] / 2 ^ m) [] 0) := Tells.ok Wd.nil Trimmed.nil (by rw [val_nil]; simp) (by rw [val_nil, Int.zero_ediv]; exact pw_pos 8192)
    obtain ⟨a, cap, rfl, hr⟩ := h
    clear h0 hr
    go_enter Tryd.func17, Tryd.ntmps17
    go_wp2_with fail
    refine Calls.mono HC.out ?_
    rintro e w' ⟨rfl, rfl⟩
    go_wp2_with fail
    go_ret2
    exact ⟨_, [], _, rfl, World.ownsRow_nil _ _ _ _, HT.out, Below.refl _ _⟩
  · obtain ⟨b1, b2, b3, b4, b5⟩ := bits_bounds wx (by rw [hx]; omega)
    rw [hx] at b4 b5
    have HB := hid (bits_sl v xs w h (by omega))
    obtain ⟨b, hb⟩ : ∃ b, bitsOf xs = b := ⟨_, rfl⟩
    rw [hb] at HB b1 b2 b3 b4 b5
    clear hb
    have hz : ((xs.length : Int) == 0) = false := by simp; exact fun e => h0 (by simp [e])
    have vn := val_nonneg wx
    by_cases hgone : b ≤ m
    · have HT : Hid (Tells 0 (val xs / 2 ^ m) [] 0) := by
        have e : val xs / 2 ^ m = 0 := Int.ediv_eq_zero_of_lt vn (by have := two_le hgone; omega)
        rw [e]
        exact Tells.ok Wd.nil Trimmed.nil val_nil (by have := pw_pos 8192; unfold wide; omega)
      have hli : (b : Int) + -(m : Int) ≤ 0 := by omega
      obtain ⟨a, cap, rfl, hr⟩ := h
      clear b2 b3 hr h0
      go_enter Tryd.func17, Tryd.ntmps17
      go_wp2_with fail
      refine Calls.mono HC.out ?_
      rintro e w' ⟨rfl, rfl⟩
      go_wp2_with fail
      refine Calls.mono HB.out ?_
      rintro e w' ⟨rfl, rfl⟩
      go_wp2_with fail
      go_ret2
      exact ⟨_, [], _, rfl, World.ownsRow_nil _ _ _ _, HT.out, Below.refl _ _⟩
    · have hli : ¬ (b : Int) + -(m : Int) ≤ 0 := by omega
      have hlj : ¬ (262144 : Int) < (b : Int) + -(m : Int) := by omega
      obtain ⟨a, cap, rfl, hr⟩ := h
      obtain ⟨W, hW⟩ : ∃ W : Nat, (m : Int) / 32 = (W : Int) := ⟨m / 32, by omega⟩
      obtain ⟨t, ht⟩ : ∃ t : Nat, (m : Int) % 32 = (t : Int) := ⟨m % 32, by omega⟩
      have hwt : m = t + 32 * W := by omega
      have HR := hid (lower_any a xs.length cap xs W t w hr (by omega) (by omega) (by omega))
      have HE : Hid (∀ y : Int, y = val xs / 4294967296 ^ W / 2 ^ t → y = val xs / 2 ^ m) := fun y hy => by
        rw [hy, pw_two, Int.ediv_ediv_of_nonneg (Int.le_of_lt (two_pos _)), ← Int.pow_add, hwt, Nat.add_comm]
      clear b2 b3 hr h0 hwt
      go_enter Tryd.func17, Tryd.ntmps17
      go_wp2_with fail
      refine Calls.mono HC.out ?_
      rintro e w' ⟨rfl, rfl⟩
      go_wp2_with fail
      refine Calls.mono HB.out ?_
      rintro e w' ⟨rfl, rfl⟩
      go_wp2_with fail
      refine Calls.mono HB.out ?_
      rintro e w' ⟨rfl, rfl⟩
      go_wp2_with fail
      refine Calls.mono HR.out ?_
      rintro e w1 ⟨ys, rfl, oy, wy, hvy, hb1⟩
      have HTT := hid (told_any _ _ _ ys w1 oy wy (by omega))
      rw [HE.out _ hvy] at HTT
      clear oy hvy
      go_wp2_with fail
      refine Calls.mono HTT.out ?_
      rintro e w2 ⟨v2, zs, code, rfl, ho2, ht2, rfl⟩
      go_wp2_with fail
      go_ret2
      exact ⟨_, zs, code, rfl, ho2, ht2, hb1⟩
end Go.Proofs.YtbcangblmadnpabDoor
