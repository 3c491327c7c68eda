/- nat.divideLong: quotient and rest by two words or more, in new memory. -/
import Derived.Test.YtbcangblmadnpacDoorLong4
import Derived.Test.YtbcangblmadnpacDoorShift2
import Derived.Test.YtbcangblmadnpacDoorDiv1
import Derived.BigQuiet
namespace Go.Proofs.YtbcangblmadnpacDoor
open Go.RowKit
set_option linter.unusedVariables false

theorem lead_any (x : Int) (w : World) (h0 : 1 ≤ x) (h1 : x ≤ 4294967295) :
    Calls Tryd.prog 94 #[.int .u32 x] w fun e w' => e = .returned (.int .i64 ((32 - Lib.bitLen x.toNat : Nat) : Int)) ∧ w = w' := by
  have h2 := bitLen_le32 x h1
  have HL := hid (len32_any x w (by omega) h1)
  obtain ⟨L, hL⟩ : ∃ L, Lib.bitLen x.toNat = L := ⟨_, rfl⟩
  rw [hL] at HL h2 ⊢
  clear hL
  go_enter Tryd.func94, Tryd.ntmps94
  go_wp2_with fail
  refine Calls.mono HL.out ?_
  rintro e w' ⟨rfl, rfl⟩
  go_wp2_with fail
  go_ret
  exact ⟨ret_int (by omega), rfl⟩

theorem raise_zero (a : Option Addr) (n cap : Nat) (xs : List Int) (t : Nat) (w : World) (h : Reads w w.heap.size a n cap xs) (hn : n ≤ 274877906944) (hn0 : 0 < n) (ht : t ≤ 31) :
    Calls Tryd.prog 95 #[.slice a n cap, .int .i64 0, .int .i64 t] w fun e w' => ∃ (ys : List Int), e = .returned (.slice (some ⟨w.heap.size, 0, none⟩) (n + 1) (n + 1)) ∧ OwnW w' w.heap.size w.heap.size (n + 1) ys ∧ Wd ys ∧ val ys = val xs * 2 ^ t ∧ Below w.heap.size w w' := by
  refine Calls.mono (raise_any a n cap xs 0 t w h hn hn0 (by omega) ht) ?_
  rintro e w' ⟨ys, rfl, oy, wy, hv, hb⟩
  exact ⟨ys, rfl, oy, wy, by rw [hv, Int.pow_zero, Int.mul_one], hb⟩
theorem lower_zero (a : Option Addr) (n cap : Nat) (xs : List Int) (t : Nat) (w : World) (h : Reads w w.heap.size a n cap xs) (hn : n ≤ 274877906944) (hn0 : 0 < n) (ht : t ≤ 31) :
    Calls Tryd.prog 97 #[.slice a n cap, .int .i64 0, .int .i64 t] w fun e w' => ∃ (ys : List Int), e = .returned (.slice (some ⟨w.heap.size, 0, none⟩) n n) ∧ OwnW w' w.heap.size w.heap.size n ys ∧ Wd ys ∧ val ys = val xs / 2 ^ t ∧ Below w.heap.size w w' := by
  refine Calls.mono (lower_any a n cap xs 0 t w h hn hn0 ht) ?_
  rintro e w' ⟨ys, rfl, oy, wy, hv, hb⟩
  exact ⟨ys, rfl, oy, wy, by rw [hv, Int.pow_zero, Int.ediv_one], hb⟩

/-- The divisor, moved up until its highest bit is set. -/
theorem normal {ys : List Int} (hw : Wd ys) (ht : Trimmed ys) (e : Nat) (hl : ys.length = e + 2) : 1 ≤ ys[e + 1]?.getD 0 ∧ ys[e + 1]?.getD 0 ≤ 4294967295 ∧ 32 - Lib.bitLen (ys[e + 1]?.getD 0).toNat ≤ 31 ∧
    val ys * 2 ^ (32 - Lib.bitLen (ys[e + 1]?.getD 0).toNat) < 4294967296 ^ (e + 2) ∧ (4294967296 : Int) ^ (e + 2) ≤ 2 * (val ys * 2 ^ (32 - Lib.bitLen (ys[e + 1]?.getD 0).toNat)) := by
  have hs : sz ys = e + 2 := by rw [ht]; exact hl
  have tp := sz_top ys (by omega)
  rw [hs, show e + 2 - 1 = e + 1 by omega] at tp
  have b := hw.at (e + 1)
  obtain ⟨l1, l2, l3⟩ := bitLen_bounds (ys[e + 1]?.getD 0) (by omega) b.2
  have l4 := bitLen_le32 (ys[e + 1]?.getD 0) b.2
  obtain ⟨b1, b2, b3, b4, b5⟩ := bits_bounds hw (by omega)
  have hb : bitsOf ys = (e + 1) * 32 + Lib.bitLen (ys[e + 1]?.getD 0).toNat := by unfold bitsOf; rw [hs, if_neg (by omega), show e + 2 - 1 = e + 1 by omega]
  rw [hb] at b1 b2 b3
  generalize Lib.bitLen (ys[e + 1]?.getD 0).toNat = L at *
  have p := two_pos (32 - L)
  refine ⟨by omega, b.2, by omega, ?_, ?_⟩
  · have e1 : val ys * 2 ^ (32 - L) < 2 ^ ((e + 1) * 32 + L) * 2 ^ (32 - L) := Int.mul_lt_mul_of_pos_right b3 p
    rw [← Int.pow_add] at e1
    rw [pw_two, show 32 * (e + 2) = (e + 1) * 32 + L + (32 - L) by omega]
    exact e1
  · have e1 : (2 : Int) ^ ((e + 1) * 32 + L - 1) * 2 ^ (32 - L) ≤ val ys * 2 ^ (32 - L) := Int.mul_le_mul_of_nonneg_right b2 (Int.le_of_lt p)
    rw [← Int.pow_add] at e1
    have e2 : (2 : Int) ^ (32 * (e + 2)) = 2 * 2 ^ ((e + 1) * 32 + L - 1 + (32 - L)) := by
      rw [show 32 * (e + 2) = ((e + 1) * 32 + L - 1 + (32 - L)) + 1 by omega, Int.pow_succ, Int.mul_comm]
    rw [pw_two, e2]
    omega
theorem top_nought {ds : List Int} (hw : Wd ds) (m : Nat) (hl : ds.length = m + 1) (h : val ds < 4294967296 ^ m) : val (ds.take m) = val ds := by
  have e : val ds = valTo ds m + ds[m]?.getD 0 * 4294967296 ^ m := by unfold val; rw [hl, valTo_succ]
  have b := (valTo_bounds hw m).1
  have hz : ds[m]?.getD 0 = 0 := by
    have hb := hw.at m
    by_cases c : ds[m]?.getD 0 = 0
    · exact c
    · have : 1 * (4294967296 : Int) ^ m ≤ ds[m]?.getD 0 * 4294967296 ^ m := Int.mul_le_mul_of_nonneg_right (by omega) (Int.le_of_lt (pw_pos m))
      omega
  rw [e, hz]
  unfold val
  rw [List.length_take, hl, Nat.min_eq_left (by omega), valTo_congr (ds.take m) ds m (fun j hj => by rw [List.getElem?_take, if_pos hj])]
  omega
theorem top_one {ds : List Int} (hw : Wd ds) (e : Nat) (hl : ds.length = e + 2) (h : (4294967296 : Int) ^ (e + 2) ≤ 2 * val ds) : 1 ≤ ds[e + 1]?.getD 0 := by
  have hb := hw.at (e + 1)
  by_cases c : ds[e + 1]?.getD 0 = 0
  · have e1 : val ds = valTo ds (e + 1) + ds[e + 1]?.getD 0 * 4294967296 ^ (e + 1) := by unfold val; rw [hl, valTo_succ]
    rw [c] at e1
    have b := (valTo_bounds hw (e + 1)).2
    have := pw_succ (e + 1)
    have hp := pw_pos (e + 1)
    rw [show e + 2 = e + 1 + 1 from rfl] at h
    omega
  · omega
/-- The number, moved up by as many bits, is below the divisor moved up by all words that the quotient may have. -/
theorem long_start (A D : Int) (n m K : Nat) (X : Int) (t : Nat) (ht : t ≤ 31) (hn : m + K = n + 1) (hX : X < 4294967296 ^ n) (hX0 : 0 ≤ X) (hA : A = X * 2 ^ t) (hD : (4294967296 : Int) ^ m ≤ 2 * D) : A < D * 4294967296 ^ K := by
  have p := two_pos t
  have e1 : X * 2 ^ t < 4294967296 ^ n * 2 ^ t := Int.mul_lt_mul_of_pos_right hX p
  have e2 : (4294967296 : Int) ^ n * 2 ^ t ≤ 4294967296 ^ n * 2 ^ 31 := Int.mul_le_mul_of_nonneg_left (two_le ht) (Int.le_of_lt (pw_pos n))
  have e3 : (4294967296 : Int) ^ m * 4294967296 ^ K ≤ 2 * D * 4294967296 ^ K := Int.mul_le_mul_of_nonneg_right hD (Int.le_of_lt (pw_pos K))
  rw [← Int.pow_add, hn, pw_succ, Int.mul_assoc] at e3
  rw [hA]
  omega
/-- One word of the quotient: what is left, and what was taken. -/
theorem long_step (us vs qs : List Int) (m K k : Nat) (A D q : Int) (hk : k < K) (hlq : qs.length = K) (wv : Wd vs) (hDm : D < 4294967296 ^ m)
    (hA : A = valTo us (k + 1 + m) + segTo qs (k + 1) (K - (k + 1)) * D * 4294967296 ^ (k + 1))
    (hlow : ∀ j, j < k → vs[j]?.getD 0 = us[j]?.getD 0) (hseg : segTo vs k (m + 1) = segTo us k (m + 1) - q * D) (hlt : segTo vs k (m + 1) < D) :
    A = valTo vs (k + m) + segTo (qs.set k q) k (K - k) * D * 4294967296 ^ k ∧ segTo vs k m < D := by
  have hz : vs[k + m]?.getD 0 = 0 := by
    have hb := wv.at (k + m)
    have sb := segTo_nonneg wv k m
    by_cases c : vs[k + m]?.getD 0 = 0
    · exact c
    · have : 1 * (4294967296 : Int) ^ m ≤ vs[k + m]?.getD 0 * 4294967296 ^ m := Int.mul_le_mul_of_nonneg_right (by omega) (Int.le_of_lt (pw_pos m))
      rw [segTo_succ] at hlt
      omega
  have hs : segTo vs k (m + 1) = segTo vs k m := by rw [segTo_succ, hz]; omega
  refine ⟨?_, by rw [← hs]; exact hlt⟩
  obtain ⟨d, hd⟩ : ∃ d, K - k = d + 1 := ⟨K - k - 1, by omega⟩
  rw [show k + 1 + m = k + (m + 1) by omega, valTo_seg us k (m + 1), show K - (k + 1) = d by omega, pw_succ k] at hA
  rw [valTo_seg vs k m, ← hs, hseg, hd, segTo_cons (qs.set k q) d k, List.getElem?_set, if_pos rfl, if_pos (by omega), segTo_congr (qs.set k q) qs (k + 1) d (fun j hj => by rw [List.getElem?_set, if_neg (by omega)]),
    valTo_congr vs us k hlow, hA]
  show _ = valTo us k + (segTo us k (m + 1) - q * D) * 4294967296 ^ k + (q + _) * D * 4294967296 ^ k
  rw [Int.sub_mul, Int.add_mul, Int.add_mul, Int.mul_comm (4294967296 ^ k) 4294967296, ← Int.mul_assoc, Int.mul_assoc (segTo qs (k + 1) d) D 4294967296, Int.mul_comm D 4294967296, ← Int.mul_assoc]
  omega
end Go.Proofs.YtbcangblmadnpacDoor
