/- The law NatDivides answers true, and writes nothing that was there: whatever lists come in, where the library's table of powers of ten stands as its text lays it. -/
import Derived.Test.YtbcangblmadnpabDoorGcd2
import Derived.Test.YtbcangblmadnpabDoorShiftLaw
namespace Go.Proofs.YtbcangblmadnpabDoor
open Go.RowKit
set_option linter.unusedVariables false

theorem quot_le {a q b r : Int} (h : a = q * b + r) (hb : 1 ≤ b) (hr : 0 ≤ r) (hq : 0 ≤ q) : q ≤ a := by
  have : q * 1 ≤ q * b := Int.mul_le_mul_of_nonneg_left hb hq
  omega
theorem rest_none {a g x s : Int} (hd : g ∣ a) (h : a = x * g + s) (h0 : 0 ≤ s) (h1 : s < g) : s = 0 := by
  obtain ⟨k, rfl⟩ := hd
  have e : s = (k - x) * g := by rw [Int.sub_mul, Int.mul_comm k g]; omega
  have hx : k - x < 1 := Int.lt_of_mul_lt_mul_right (show (k - x) * g < 1 * g by omega) (by omega)
  have hx0 : 0 ≤ k - x := by
    by_cases c : 0 ≤ k - x
    · exact c
    · have : (k - x) * g < 0 * g := Int.mul_lt_mul_of_pos_right (by omega) (by omega)
      omega
  have : k - x = 0 := by omega
  rw [e, this, Int.zero_mul]
theorem gcd_parts {a b x y : Int} (hg : 0 < gcdI a b) (hx : a = x * gcdI a b) (hy : b = y * gcdI a b) : gcdI x y = 1 := by
  have e : gcdI (x * gcdI a b) (y * gcdI a b) = gcdI x y * gcdI a b := by
    have h0 := gcdI_nonneg a b
    generalize gcdI a b = g at *
    show ((Int.gcd (x * g) (y * g) : Nat) : Int) = (Int.gcd x y : Int) * g
    rw [Int.gcd_mul_right, Int.natCast_mul]
    congr 1
    omega
  rw [← hx, ← hy] at e
  have e2 : gcdI a b * 1 = gcdI a b * gcdI x y := by rw [Int.mul_one, Int.mul_comm]; exact e
  exact (Int.eq_of_mul_eq_mul_left (by omega) e2).symm
theorem gcd_times {a b c : Int} (hc : 0 ≤ c) : gcdI (a * c) (b * c) = gcdI a b * c := by
  show ((Int.gcd (a * c) (b * c) : Nat) : Int) = (Int.gcd a b : Int) * c
  rw [Int.gcd_mul_right, Int.natCast_mul]
  congr 1
  omega
theorem gcdI_pos {a b : Int} (h : a ≠ 0 ∨ b ≠ 0) : 0 < gcdI a b := by
  have := Int.gcd_pos_iff.2 h
  unfold gcdI
  omega
theorem val_pos {zs : List Int} (hw : Wd zs) (ht : Trimmed zs) (h : 0 < zs.length) : 1 ≤ val zs := by
  have := (trimmed_zero hw ht)
  have n := val_nonneg hw
  by_cases c : val zs = 0
  · have := this.2 c; omega
  · omega
theorem lt60 {zs : List Int} (hw : Wd zs) (h : zs.length ≤ 60) : val zs < 4294967296 ^ 60 := by
  have h1 := val_lt hw
  have h2 : (4294967296 : Int) ^ zs.length ≤ 4294967296 ^ 60 := pw_le h
  omega

theorem one60 : (1 : Int) < 4294967296 ^ 60 := by
  have := lt60 (zs := [1]) (Wd.one (by omega)) (by simp)
  rwa [val_one] at this

set_option maxHeartbeats 800000 in
set_option maxRecDepth 100000 in
theorem divMod_zero (v u : Value) (xs : List Int) (w : World) (h : Sl w v xs) (g : Sl w u []) (lx : xs.length ≤ 8192) (tx : Trimmed xs) :
    Calls Tryd.prog 15 #[v, u] w fun e w' => e = .returned (.tuple #[.slice none 0 0, .slice none 0 0, .int .i64 7]) ∧ Below w.heap.size w w' := by
  have HB := hid (checkBoth_sl v u xs [] w h g (by omega) (by simp))
  rw [both_good (chk_good lx tx) (chk_good (by simp) Trimmed.nil)] at HB
  obtain ⟨b, cap', rfl, gr⟩ := g
  clear gr h
  go_enter Tryd.func15, Tryd.ntmps15
  go_wp2_with fail
  refine Calls.mono HB.out ?_
  rintro e w' ⟨rfl, rfl⟩
  go_wp2_with fail
  go_ret3
  exact ⟨rfl, Below.refl _ _⟩

end Go.Proofs.YtbcangblmadnpabDoor
