/- My texts on the way to RealTells, one behind the other: contracts of the program and of the document's answers. -/
import Derived.Test.YtabkgpnckaaclaaGreatDoorJ1
import Derived.Test.YtabkgpnckaaclaaGreatDoorJ3
import Derived.Deep.Cut
/- Rounding to the nearest float: where the rung that is told stands to the number. Nothing here speaks of the program. -/
namespace Go.Proofs.YtabkgpnckaaclaaGreatDoor

theorem dbl_frac : Ieee.double.fractionBits = 52 := rfl

/-- Half-even of n / 2^k: twice the error is at most a unit. -/
theorem cut_even (neg : Bool) (n k : Nat) (hn : n ≠ 0) :
    2 * n ≤ (2 * Ieee.Toward.even.cut neg n k + 1) * 2 ^ k ∧ (2 * Ieee.Toward.even.cut neg n k) * 2 ^ k ≤ 2 * n + 2 ^ k ∧
    (2 * n = (2 * Ieee.Toward.even.cut neg n k + 1) * 2 ^ k → Ieee.Toward.even.cut neg n k % 2 = 0) ∧ ((2 * Ieee.Toward.even.cut neg n k) * 2 ^ k = 2 * n + 2 ^ k → Ieee.Toward.even.cut neg n k % 2 = 0) := by
  unfold Ieee.Toward.cut
  simp only [Nat.shiftLeft_eq, Nat.one_mul]
  by_cases hk : k ≤ n.log2 + 2
  · rw [Nat.min_eq_left hk]
    have hp : 0 < 2 ^ k := Nat.two_pow_pos k
    generalize 2 ^ k = G at hp
    have hd := Nat.div_add_mod n G
    have hm := Nat.mod_lt n hp
    generalize n / G = q at hd
    generalize n % G = r at hd hm
    subst hd
    by_cases h1 : G < 2 * r
    · have e : (decide (G < 2 * r) || G == 2 * r && q % 2 == 1).toNat = 1 := by simp [h1]
      rw [e]
      have a1 : (2 * (q + 1) + 1) * G = 2 * (G * q) + 3 * G := by rw [Nat.add_mul, Nat.mul_comm (2 * (q + 1)), Nat.mul_add, Nat.mul_add, Nat.mul_left_comm]; omega
      have a2 : (2 * (q + 1)) * G = 2 * (G * q) + 2 * G := by rw [Nat.mul_comm (2 * (q + 1)), Nat.mul_add, Nat.mul_add, Nat.mul_left_comm]; omega
      rw [a1, a2]
      refine ⟨by omega, by omega, by omega, by omega⟩
    · by_cases h2 : G = 2 * r
      · by_cases h3 : q % 2 = 1
        · have e : (decide (G < 2 * r) || G == 2 * r && q % 2 == 1).toNat = 1 := by simp [h2, h3]
          rw [e]
          have a1 : (2 * (q + 1) + 1) * G = 2 * (G * q) + 3 * G := by rw [Nat.add_mul, Nat.mul_comm (2 * (q + 1)), Nat.mul_add, Nat.mul_add, Nat.mul_left_comm]; omega
          have a2 : (2 * (q + 1)) * G = 2 * (G * q) + 2 * G := by rw [Nat.mul_comm (2 * (q + 1)), Nat.mul_add, Nat.mul_add, Nat.mul_left_comm]; omega
          rw [a1, a2]
          refine ⟨by omega, by omega, by omega, by omega⟩
        · have e : (decide (G < 2 * r) || G == 2 * r && q % 2 == 1).toNat = 0 := by simp [h1, h3]
          rw [e]
          have a1 : (2 * (q + 0) + 1) * G = 2 * (G * q) + G := by rw [Nat.add_mul, Nat.mul_comm (2 * (q + 0)), Nat.add_zero, Nat.mul_left_comm]; omega
          have a2 : (2 * (q + 0)) * G = 2 * (G * q) := by rw [Nat.mul_comm (2 * (q + 0)), Nat.add_zero, Nat.mul_left_comm]
          rw [a1, a2]
          refine ⟨by omega, by omega, by omega, by omega⟩
      · have e : (decide (G < 2 * r) || G == 2 * r && q % 2 == 1).toNat = 0 := by simp [h1, h2]
        rw [e]
        have a1 : (2 * (q + 0) + 1) * G = 2 * (G * q) + G := by rw [Nat.add_mul, Nat.mul_comm (2 * (q + 0)), Nat.add_zero, Nat.mul_left_comm]; omega
        have a2 : (2 * (q + 0)) * G = 2 * (G * q) := by rw [Nat.mul_comm (2 * (q + 0)), Nat.add_zero, Nat.mul_left_comm]
        rw [a1, a2]
        refine ⟨by omega, by omega, by omega, by omega⟩
  · rw [Nat.min_eq_right (by omega)]
    have hl : n < 2 ^ (n.log2 + 1) := Nat.lt_log2_self
    have e2 : 2 ^ (n.log2 + 2) = 2 ^ (n.log2 + 1) * 2 := Nat.pow_succ ..
    have hle : 2 ^ (n.log2 + 2) ≤ 2 ^ k := Nat.pow_le_pow_right (by decide) (by omega)
    have hdiv : n / 2 ^ (n.log2 + 2) = 0 := Nat.div_eq_of_lt (by omega)
    have hmod : n % 2 ^ (n.log2 + 2) = n := Nat.mod_eq_of_lt (by omega)
    rw [hdiv, hmod]
    have e : (decide (2 ^ (n.log2 + 2) < 2 * n) || 2 ^ (n.log2 + 2) == 2 * n && 0 % 2 == 1).toNat = 0 := by
      have h1 : ¬ 2 ^ (n.log2 + 2) < 2 * n := by omega
      simp [h1]
    rw [e]
    simp only [Nat.add_zero, Nat.mul_zero, Nat.zero_mul, Nat.zero_add, Nat.one_mul]
    refine ⟨by omega, by omega, by omega, fun _ => trivial⟩

/-- The rung that nearest tells, of a number above 0, and what is known ahead of the least and the greatest. -/
theorem near_core (neg : Bool) (mag : Nat) (place : Int) (h0 : mag ≠ 0) :
    ∃ E kept, Ieee.double.nearest neg mag place = Ieee.double.word neg (min (E * 4503599627370496 + kept) 9218868437227405312) ∧ kept ≤ 9007199254740992 ∧ (0 < E → 4503599627370496 ≤ kept) ∧
      2 * (mag * 2 ^ (place + 1074).toNat) ≤ (2 * kept + 1) * 2 ^ E * 2 ^ (-(place + 1074)).toNat ∧
      (2 * kept) * 2 ^ E * 2 ^ (-(place + 1074)).toNat ≤ 2 * (mag * 2 ^ (place + 1074).toNat) + 2 ^ E * 2 ^ (-(place + 1074)).toNat ∧
      (0 < E → 4503599627370496 * 2 ^ E * 2 ^ (-(place + 1074)).toNat ≤ mag * 2 ^ (place + 1074).toNat) ∧
      (2 * (mag * 2 ^ (place + 1074).toNat) = (2 * kept + 1) * 2 ^ E * 2 ^ (-(place + 1074)).toNat → kept % 2 = 0) ∧
      ((2 * kept) * 2 ^ E * 2 ^ (-(place + 1074)).toNat = 2 * (mag * 2 ^ (place + 1074).toNat) + 2 ^ E * 2 ^ (-(place + 1074)).toNat → kept % 2 = 0) := by
  unfold Ieee.Format.nearest
  rw [if_neg h0]
  simp only [dbl_inf, dbl_binade, dbl_least, dbl_frac]
  generalize hL : mag.log2 = L
  have hlo : 2 ^ L ≤ mag := by rw [← hL]; exact Nat.log2_self_le h0
  have hhi : mag < 2 ^ (L + 1) := by rw [← hL]; exact Nat.lt_log2_self
  generalize hlast : max (place + (L : Int) - ((52 : Nat) : Int)) (-1074) = last
  have hle : -1074 ≤ last := by omega
  refine ⟨(last - -1074).toNat, _, rfl, ?_⟩
  obtain ⟨E, hE⟩ : ∃ E : Nat, last = -1074 + (E : Int) := ⟨(last + 1074).toNat, by omega⟩
  have eE : (last - -1074).toNat = E := by omega
  rw [eE]
  by_cases hd : last ≤ place
  · -- nothing is dropped
    obtain ⟨u, hu⟩ : ∃ u : Nat, place = last + (u : Int) := ⟨(place - last).toNat, by omega⟩
    have e1 : (place - last).toNat = u := by omega
    have e2 : (last - place).toNat = 0 := by omega
    have e3 : (place + 1074).toNat = E + u := by omega
    have e4 : (-(place + 1074)).toNat = 0 := by omega
    rw [e1, e2, e3, e4]
    have hk : Ieee.Toward.even.cut neg (mag <<< u) 0 = mag * 2 ^ u := by
      have hm : mag <<< u ≠ 0 := by rw [Nat.shiftLeft_eq]; exact Nat.mul_ne_zero h0 (Nat.ne_of_gt (Nat.two_pow_pos u))
      obtain ⟨c1, c2, _⟩ := cut_even neg (mag <<< u) 0 hm
      rw [Nat.shiftLeft_eq] at *
      simp only [Nat.pow_zero, Nat.mul_one] at c1 c2
      omega
    rw [hk]
    have hp : 2 ^ (E + u) = 2 ^ u * 2 ^ E := by rw [Nat.add_comm, Nat.pow_add]
    have hv : mag * 2 ^ (E + u) = mag * 2 ^ u * 2 ^ E := by rw [hp, Nat.mul_assoc]
    rw [hv]
    have hpE : 0 < 2 ^ E := Nat.two_pow_pos E
    have hub : mag * 2 ^ u ≤ 9007199254740992 := by
      have : L + u ≤ 52 := by omega
      have h1 : mag * 2 ^ u ≤ 2 ^ (L + 1) * 2 ^ u := Nat.mul_le_mul_right _ (Nat.le_of_lt hhi)
      have h2 : 2 ^ (L + 1) * 2 ^ u = 2 ^ (L + 1 + u) := (Nat.pow_add ..).symm
      have h3 : 2 ^ (L + 1 + u) ≤ 2 ^ 53 := Nat.pow_le_pow_right (by decide) (by omega)
      have h4 : (2 : Nat) ^ 53 = 9007199254740992 := by decide
      omega
    have hlb : 0 < E → 4503599627370496 ≤ mag * 2 ^ u := by
      intro hE0
      have h1 : 2 ^ L * 2 ^ u ≤ mag * 2 ^ u := Nat.mul_le_mul_right _ hlo
      have h2 : 2 ^ L * 2 ^ u = 2 ^ (L + u) := (Nat.pow_add ..).symm
      have h3 : L + u = 52 := by omega
      have h4 : (2 : Nat) ^ 52 = 4503599627370496 := by decide
      rw [h3] at h2
      omega
    generalize mag * 2 ^ u = K at *
    generalize 2 ^ E = P at *
    simp only [Nat.pow_zero, Nat.mul_one]
    have a1 : 2 * (K * P) = 2 * K * P := (Nat.mul_assoc ..).symm
    have a2 : (2 * K + 1) * P = 2 * K * P + P := by rw [Nat.add_mul, Nat.one_mul]
    rw [a1, a2]
    refine ⟨hub, hlb, by omega, by omega, fun h => Nat.mul_le_mul_right _ (hlb h), fun h => ?_, fun h => ?_⟩
    · omega
    · omega
  · -- some bits are dropped
    obtain ⟨k, hk⟩ : ∃ k : Nat, last = place + (k : Int) := ⟨(last - place).toNat, by omega⟩
    have e1 : (place - last).toNat = 0 := by omega
    have e2 : (last - place).toNat = k := by omega
    rw [e1, e2, Nat.shiftLeft_zero]
    obtain ⟨c1, c2, c3, c4⟩ := cut_even neg mag k h0
    generalize hK : Ieee.Toward.even.cut neg mag k = K at *
    -- the place's part
    have key : 2 ^ k * 2 ^ (place + 1074).toNat = 2 ^ E * 2 ^ (-(place + 1074)).toNat := by
      rw [← Nat.pow_add, ← Nat.pow_add]
      congr 1
      omega
    generalize hA : 2 ^ (place + 1074).toNat = A at *
    generalize hB : 2 ^ (-(place + 1074)).toNat = B at *
    have hA0 : 0 < A := by rw [← hA]; exact Nat.two_pow_pos _
    have hkp : 0 < 2 ^ k := Nat.two_pow_pos k
    have m1 : (2 * K + 1) * 2 ^ E * B = (2 * K + 1) * 2 ^ k * A := by rw [Nat.mul_assoc (2 * K + 1) (2 ^ E) B, ← key, Nat.mul_assoc (2 * K + 1) (2 ^ k) A]
    have m2 : (2 * K) * 2 ^ E * B = (2 * K) * 2 ^ k * A := by rw [Nat.mul_assoc (2 * K) (2 ^ E) B, ← key, Nat.mul_assoc (2 * K) (2 ^ k) A]
    have m3 : 2 ^ E * B = 2 ^ k * A := key.symm
    have m4 : 2 * (mag * A) = 2 * mag * A := (Nat.mul_assoc ..).symm
    rw [m1, m2, m3, m4]
    have m5 : 2 * mag * A + 2 ^ k * A = (2 * mag + 2 ^ k) * A := (Nat.add_mul ..).symm
    rw [m5]
    have b52 : (2 : Nat) ^ 52 = 4503599627370496 := by decide
    have b53 : (2 : Nat) ^ 53 = 9007199254740992 := by decide
    refine ⟨?_, ?_, Nat.mul_le_mul_right _ c1, Nat.mul_le_mul_right _ c2, ?_, fun h => c3 (Nat.eq_of_mul_eq_mul_right hA0 h), fun h => c4 (Nat.eq_of_mul_eq_mul_right hA0 h)⟩
    · -- the count is at most 2^53
      have hlk : L ≤ 52 + k := by omega
      have h1 : mag < 9007199254740992 * 2 ^ k := by
        have h2 : 2 ^ (L + 1) ≤ 2 ^ (53 + k) := Nat.pow_le_pow_right (by decide) (by omega)
        rw [Nat.pow_add 2 53 k, b53] at h2
        omega
      have h3 : 2 * K * 2 ^ k < (2 * 9007199254740992 + 1) * 2 ^ k := by
        have : 2 * mag + 2 ^ k < 2 * (9007199254740992 * 2 ^ k) + 2 ^ k := by omega
        have e : (2 * 9007199254740992 + 1) * 2 ^ k = 2 * (9007199254740992 * 2 ^ k) + 2 ^ k := by rw [Nat.add_mul, Nat.one_mul, Nat.mul_assoc]
        omega
      have := Nat.lt_of_mul_lt_mul_right h3
      omega
    · intro hE0
      have hlk : L = 52 + k := by omega
      have h1 : 4503599627370496 * 2 ^ k ≤ mag := by
        have h2 := hlo
        rw [hlk, Nat.pow_add, b52] at h2
        exact h2
      have h3 : 2 * 4503599627370496 * 2 ^ k ≤ (2 * K + 1) * 2 ^ k := by
        have e : 2 * 4503599627370496 * 2 ^ k = 2 * (4503599627370496 * 2 ^ k) := Nat.mul_assoc ..
        omega
      have := Nat.le_of_mul_le_mul_right h3 hkp
      omega
    · intro hE0
      have hlk : L = 52 + k := by omega
      have h1 : 4503599627370496 * 2 ^ k ≤ mag := by
        have h2 := hlo
        rw [hlk, Nat.pow_add, b52] at h2
        exact h2
      have e : 4503599627370496 * 2 ^ E * B = 4503599627370496 * 2 ^ k * A := by rw [Nat.mul_assoc, ← key, Nat.mul_assoc]
      rw [e]
      exact Nat.mul_le_mul_right _ h1

/-- The number at a rung that is told by a unit and a count. -/
theorem rungVal_count {E K : Nat} (hK : K ≤ 9007199254740992) (hE : 0 < E → 4503599627370496 ≤ K) : rungVal (E * 4503599627370496 + K) = K * 2 ^ E := by
  unfold rungVal
  by_cases h0 : E = 0 ∧ K < 4503599627370496
  · obtain ⟨rfl, h⟩ := h0
    rw [if_pos (by omega)]
    simp
  · have hK2 : 4503599627370496 ≤ K := by
      by_cases hz : 0 < E
      · exact hE hz
      · omega
    rw [if_neg (by omega)]
    by_cases h53 : K = 9007199254740992
    · subst h53
      have e1 : (E * 4503599627370496 + 9007199254740992) % 4503599627370496 = 0 := by omega
      have e2 : (E * 4503599627370496 + 9007199254740992) / 4503599627370496 - 1 = E + 1 := by omega
      rw [e1, e2, Nat.pow_succ]
      omega
    · have e1 : (E * 4503599627370496 + K) % 4503599627370496 = K - 4503599627370496 := by omega
      have e2 : (E * 4503599627370496 + K) / 4503599627370496 - 1 = E := by omega
      rw [e1, e2, show 4503599627370496 + (K - 4503599627370496) = K by omega]

theorem rungVal_step {E K : Nat} (hK : K ≤ 9007199254740992) (hE : 0 < E → 4503599627370496 ≤ K) : K * 2 ^ E + 2 ^ E ≤ rungVal (E * 4503599627370496 + K + 1) := by
  by_cases h53 : K = 9007199254740992
  · subst h53
    have e0 : E * 4503599627370496 + 9007199254740992 + 1 = (E + 1) * 4503599627370496 + (4503599627370496 + 1) := by omega
    rw [e0, rungVal_count (by omega) (fun _ => by omega), Nat.pow_succ]
    have := Nat.two_pow_pos E
    omega
  · rw [Nat.add_assoc, rungVal_count (by omega) (fun h => by have := hE h; omega), Nat.add_mul, Nat.one_mul]
    exact Nat.le_refl _

/-- Where the rung stands to the number mag * 2 ^ place: between the midpoints below and above it; at a midpoint it is even. -/
theorem near_mid (neg : Bool) (mag : Nat) (place : Int) (h0 : mag ≠ 0) :
    ∃ s, Ieee.double.nearest neg mag place = Ieee.double.word neg s ∧ s ≤ 9218868437227405312 ∧
      (s < 9218868437227405312 → 2 * (mag * 2 ^ (place + 1074).toNat) ≤ (rungVal s + rungVal (s + 1)) * 2 ^ (-(place + 1074)).toNat) ∧
      (1 ≤ s → (rungVal (s - 1) + rungVal s) * 2 ^ (-(place + 1074)).toNat ≤ 2 * (mag * 2 ^ (place + 1074).toNat)) := by
  obtain ⟨E, K, h1, hK, hE, b1, b2, b3, _, _⟩ := near_core neg mag place h0
  refine ⟨_, h1, Nat.min_le_right _ _, fun hs => ?_, fun hs => ?_⟩
  · have e : min (E * 4503599627370496 + K) 9218868437227405312 = E * 4503599627370496 + K := by omega
    rw [e, rungVal_count hK hE]
    refine Nat.le_trans b1 (Nat.mul_le_mul_right _ ?_)
    have := rungVal_step hK hE
    have e2 : (2 * K + 1) * 2 ^ E = K * 2 ^ E + (K * 2 ^ E + 2 ^ E) := by rw [Nat.add_mul, Nat.mul_assoc, Nat.one_mul]; omega
    omega
  · -- first at the rung ahead of the cut at infinity
    have hr : 1 ≤ E * 4503599627370496 + K := by omega
    have main : (rungVal (E * 4503599627370496 + K - 1) + rungVal (E * 4503599627370496 + K)) * 2 ^ (-(place + 1074)).toNat ≤ 2 * (mag * 2 ^ (place + 1074).toNat) := by
      by_cases hc : 0 < E ∧ K = 4503599627370496
      · have hv := b3 hc.1
        have hle : rungVal (E * 4503599627370496 + K - 1) ≤ rungVal (E * 4503599627370496 + K) := rungVal_le (by omega)
        have hval := rungVal_count hK hE
        rw [hc.2] at hval hle
        rw [hc.2]
        have : (rungVal (E * 4503599627370496 + 4503599627370496 - 1) + rungVal (E * 4503599627370496 + 4503599627370496)) * 2 ^ (-(place + 1074)).toNat ≤ (2 * (4503599627370496 * 2 ^ E)) * 2 ^ (-(place + 1074)).toNat := Nat.mul_le_mul_right _ (by omega)
        rw [Nat.mul_assoc 2] at this
        omega
      · have hK1 : 1 ≤ K := by
          by_cases hz : 0 < E
          · have := hE hz; omega
          · omega
        have e1 : rungVal (E * 4503599627370496 + K - 1) = (K - 1) * 2 ^ E := by
          rw [show E * 4503599627370496 + K - 1 = E * 4503599627370496 + (K - 1) by omega]
          exact rungVal_count (by omega) (fun h => by have := hE h; omega)
        rw [e1, rungVal_count hK hE]
        have e2 : ((K - 1) * 2 ^ E + K * 2 ^ E) * 2 ^ (-(place + 1074)).toNat + 2 ^ E * 2 ^ (-(place + 1074)).toNat = (2 * K) * 2 ^ E * 2 ^ (-(place + 1074)).toNat := by
          have e3 : (K - 1) * 2 ^ E + 2 ^ E = K * 2 ^ E := by
            have e4 : (K - 1 + 1) * 2 ^ E = (K - 1) * 2 ^ E + 2 ^ E := Nat.succ_mul _ _
            rw [Nat.sub_add_cancel hK1] at e4
            exact e4.symm
          have e5 : (K - 1) * 2 ^ E + K * 2 ^ E + 2 ^ E = 2 * K * 2 ^ E := by rw [Nat.mul_assoc 2]; omega
          rw [← Nat.add_mul, e5]
        omega
    by_cases hi : E * 4503599627370496 + K ≤ 9218868437227405312
    · have e : min (E * 4503599627370496 + K) 9218868437227405312 = E * 4503599627370496 + K := by omega
      rw [e]; exact main
    · have e : min (E * 4503599627370496 + K) 9218868437227405312 = 9218868437227405312 := by omega
      rw [e]
      refine Nat.le_trans (Nat.mul_le_mul_right _ (Nat.add_le_add (rungVal_le ?_) (rungVal_le ?_))) main <;> omega

/-- Not below a float, so the nearest is not below it. -/
theorem near_ge (neg : Bool) (mag : Nat) (place : Int) (r : Nat) (hr : r ≤ 9218868437227405312) (h : rungVal r * 2 ^ (-(place + 1074)).toNat ≤ mag * 2 ^ (place + 1074).toNat) :
    ∃ s, Ieee.double.nearest neg mag place = Ieee.double.word neg s ∧ s ≤ 9218868437227405312 ∧ r ≤ s := by
  by_cases h0 : mag = 0
  · subst h0
    have : r = 0 := by
      rw [Nat.zero_mul] at h
      have hp : 0 < 2 ^ (-(place + 1074)).toNat := Nat.two_pow_pos _
      have : rungVal r = 0 := by
        rcases Nat.mul_eq_zero.1 (Nat.eq_zero_of_le_zero h) with e | e
        · exact e
        · omega
      by_cases hz : r = 0
      · exact hz
      · have := rungVal_lt (r := 0) (s := r) (by omega)
        omega
    subst this
    exact ⟨0, by simp [Ieee.Format.nearest], by omega, Nat.le_refl _⟩
  · obtain ⟨s, e, hs, m1, m2⟩ := near_mid neg mag place h0
    refine ⟨s, e, hs, ?_⟩
    by_cases hlt : r ≤ s
    · exact hlt
    · exfalso
      have m := m1 (by omega)
      have hB : 0 < 2 ^ (-(place + 1074)).toNat := Nat.two_pow_pos _
      have g1 : rungVal s < rungVal r := rungVal_lt (by omega)
      have g2 : rungVal (s + 1) ≤ rungVal r := rungVal_le (by omega)
      have g3 : (rungVal s + rungVal (s + 1)) * 2 ^ (-(place + 1074)).toNat < (2 * rungVal r) * 2 ^ (-(place + 1074)).toNat := Nat.mul_lt_mul_of_pos_right (by omega) hB
      rw [Nat.mul_assoc 2] at g3
      omega
/-- Not above a float, so the nearest is not above it. -/
theorem near_le (neg : Bool) (mag : Nat) (place : Int) (r : Nat) (h : mag * 2 ^ (place + 1074).toNat ≤ rungVal r * 2 ^ (-(place + 1074)).toNat) :
    ∃ s, Ieee.double.nearest neg mag place = Ieee.double.word neg s ∧ s ≤ 9218868437227405312 ∧ s ≤ r := by
  by_cases h0 : mag = 0
  · subst h0
    exact ⟨0, by simp [Ieee.Format.nearest], by omega, Nat.zero_le _⟩
  · obtain ⟨s, e, hs, m1, m2⟩ := near_mid neg mag place h0
    refine ⟨s, e, hs, ?_⟩
    by_cases hlt : s ≤ r
    · exact hlt
    · exfalso
      have m := m2 (by omega)
      have hB : 0 < 2 ^ (-(place + 1074)).toNat := Nat.two_pow_pos _
      have g1 : rungVal r < rungVal s := rungVal_lt (by omega)
      have g2 : rungVal r ≤ rungVal (s - 1) := rungVal_le (by omega)
      have g3 : (2 * rungVal r) * 2 ^ (-(place + 1074)).toNat < (rungVal (s - 1) + rungVal s) * 2 ^ (-(place + 1074)).toNat := Nat.mul_lt_mul_of_pos_right (by omega) hB
      rw [Nat.mul_assoc 2] at g3
      omega

end Go.Proofs.YtabkgpnckaaclaaGreatDoor

/- The nearest float is the only one: between the midpoints, the even one at a tie. Nothing here speaks of the program. -/
namespace Go.Proofs.YtabkgpnckaaclaaGreatDoor

/-- A rung is the nearest to A / D: it lies between the midpoints, and is even where it is at one. -/
structure Mid (A D s : Nat) : Prop where
  top : s ≤ 9218868437227405312
  up : s < 9218868437227405312 → 2 * A ≤ (rungVal s + rungVal (s + 1)) * D
  down : 1 ≤ s → (rungVal (s - 1) + rungVal s) * D ≤ 2 * A
  tieUp : s < 9218868437227405312 → 2 * A = (rungVal s + rungVal (s + 1)) * D → s % 2 = 0
  tieDown : 1 ≤ s → (rungVal (s - 1) + rungVal s) * D = 2 * A → s % 2 = 0

theorem Mid.lt_no {A D s t : Nat} (hD : 0 < D) (h : Mid A D s) (g : Mid A D t) : ¬ s < t := by
  intro hlt
  have h1 := h.up (by have := g.top; omega)
  have g1 := g.down (by omega)
  by_cases c : s + 1 = t
  · subst c
    have e : s + 1 - 1 = s := by omega
    rw [e] at g1
    have e2 : 2 * A = (rungVal s + rungVal (s + 1)) * D := by omega
    have p1 := h.tieUp (by have := g.top; omega) e2
    have p2 := g.tieDown (by omega) (by rw [e]; exact e2.symm)
    omega
  · have v1 : rungVal s < rungVal (t - 1) := rungVal_lt (by omega)
    have v2 : rungVal (s + 1) < rungVal t := rungVal_lt (by omega)
    have : (rungVal s + rungVal (s + 1)) * D < (rungVal (t - 1) + rungVal t) * D := Nat.mul_lt_mul_of_pos_right (by omega) hD
    omega
theorem Mid.unique {A D s t : Nat} (hD : 0 < D) (h : Mid A D s) (g : Mid A D t) : s = t := by
  have h1 := h.lt_no hD g
  have h2 := g.lt_no hD h
  omega
/-- It hangs on the number alone. -/
theorem Mid.scale {A D s : Nat} (k : Nat) (hk : 0 < k) (h : Mid A D s) : Mid (A * k) (D * k) s where
  top := h.top
  up hs := by have := Nat.mul_le_mul_right k (h.up hs); rw [Nat.mul_assoc 2, Nat.mul_assoc] at this; exact this
  down hs := by have := Nat.mul_le_mul_right k (h.down hs); rw [Nat.mul_assoc 2, Nat.mul_assoc] at this; exact this
  tieUp hs e := h.tieUp hs (by rw [← Nat.mul_assoc, ← Nat.mul_assoc] at e; exact Nat.eq_of_mul_eq_mul_right hk e)
  tieDown hs e := h.tieDown hs (by rw [← Nat.mul_assoc, ← Nat.mul_assoc] at e; exact Nat.eq_of_mul_eq_mul_right hk e)
theorem Mid.back {A D s : Nat} (k : Nat) (hk : 0 < k) (h : Mid (A * k) (D * k) s) : Mid A D s where
  top := h.top
  up hs := by have := h.up hs; rw [← Nat.mul_assoc, ← Nat.mul_assoc] at this; exact Nat.le_of_mul_le_mul_right this hk
  down hs := by have := h.down hs; rw [← Nat.mul_assoc, ← Nat.mul_assoc] at this; exact Nat.le_of_mul_le_mul_right this hk
  tieUp hs e := h.tieUp hs (by rw [← Nat.mul_assoc, ← Nat.mul_assoc, e])
  tieDown hs e := h.tieDown hs (by rw [← Nat.mul_assoc, ← Nat.mul_assoc, e])

theorem min_low {a b : Nat} (h : min a b < b) : min a b = a := by omega
theorem mod_even (E K : Nat) (h : K % 2 = 0) : (E * 4503599627370496 + K) % 2 = 0 := by omega
/-- A unit and a count that are the number, rounded to a whole count: the rung is the nearest. -/
theorem mid_of_count {A D E K : Nat} (hD : 0 < D) (hK : K ≤ 9007199254740992) (hE : 0 < E → 4503599627370496 ≤ K)
    (b1 : 2 * A ≤ (2 * K + 1) * 2 ^ E * D) (b2 : (2 * K) * 2 ^ E * D ≤ 2 * A + 2 ^ E * D) (b3 : 0 < E → 4503599627370496 * 2 ^ E * D ≤ A)
    (t1 : 2 * A = (2 * K + 1) * 2 ^ E * D → K % 2 = 0) (t2 : (2 * K) * 2 ^ E * D = 2 * A + 2 ^ E * D → K % 2 = 0) :
    Mid A D (min (E * 4503599627370496 + K) 9218868437227405312) := by
  have hP := Nat.two_pow_pos E
  have hv := rungVal_count hK hE
  have hst := rungVal_step hK hE
  -- below: of the rung ahead of the cut
  have low : 1 ≤ E * 4503599627370496 + K → (rungVal (E * 4503599627370496 + K - 1) + rungVal (E * 4503599627370496 + K)) * D ≤ 2 * A ∧ ((rungVal (E * 4503599627370496 + K - 1) + rungVal (E * 4503599627370496 + K)) * D = 2 * A → K % 2 = 0) := by
    intro hs
    by_cases hc : 0 < E ∧ K = 4503599627370496
    · have k3 := b3 hc.1
      have hl : rungVal (E * 4503599627370496 + K - 1) < rungVal (E * 4503599627370496 + K) := rungVal_lt (by omega)
      rw [hv] at hl ⊢
      generalize rungVal (E * 4503599627370496 + K - 1) = V0 at *
      clear hv hst
      rw [hc.2] at hl ⊢
      have m1 : (V0 + 4503599627370496 * 2 ^ E) * D < (2 * (4503599627370496 * 2 ^ E)) * D := Nat.mul_lt_mul_of_pos_right (by omega) hD
      rw [Nat.mul_assoc 2] at m1
      exact ⟨by omega, fun e => by omega⟩
    · have hK1 : 1 ≤ K := by
        by_cases hz : 0 < E
        · have := hE hz; omega
        · omega
      have e1 : rungVal (E * 4503599627370496 + K - 1) = (K - 1) * 2 ^ E := by
        rw [show E * 4503599627370496 + K - 1 = E * 4503599627370496 + (K - 1) by omega]
        exact rungVal_count (by omega) (fun h => by have := hE h; omega)
      rw [e1, hv]
      clear e1 hv hst
      have e3 : (K - 1) * 2 ^ E + 2 ^ E = K * 2 ^ E := by
        have e4 : (K - 1 + 1) * 2 ^ E = (K - 1) * 2 ^ E + 2 ^ E := Nat.succ_mul _ _
        rw [Nat.sub_add_cancel hK1] at e4
        exact e4.symm
      have e2 : ((K - 1) * 2 ^ E + K * 2 ^ E) * D + 2 ^ E * D = (2 * K) * 2 ^ E * D := by
        have e5 : (K - 1) * 2 ^ E + K * 2 ^ E + 2 ^ E = 2 * K * 2 ^ E := by rw [Nat.mul_assoc 2]; omega
        rw [← Nat.add_mul, e5]
      exact ⟨by omega, fun e => t2 (by omega)⟩
  have e2 : (2 * K + 1) * 2 ^ E = K * 2 ^ E + (K * 2 ^ E + 2 ^ E) := by rw [Nat.add_mul, Nat.mul_assoc, Nat.one_mul]; omega
  have hup : (K * 2 ^ E + (K * 2 ^ E + 2 ^ E)) * D ≤ (K * 2 ^ E + rungVal (E * 4503599627370496 + K + 1)) * D := Nat.mul_le_mul_right _ (Nat.add_le_add_left hst _)
  clear hst
  rw [e2] at b1 t1
  clear e2
  refine ⟨Nat.min_le_right _ _, fun hs => ?_, fun hs => ?_, fun hs e => ?_, fun hs e => ?_⟩
  · rw [min_low hs, hv]
    exact Nat.le_trans b1 hup
  · by_cases hi : E * 4503599627370496 + K ≤ 9218868437227405312
    · rw [Nat.min_eq_left hi] at hs ⊢
      exact (low hs).1
    · have hi2 : 9218868437227405312 ≤ E * 4503599627370496 + K := Nat.le_of_lt (Nat.lt_of_not_le hi)
      rw [Nat.min_eq_right hi2] at hs ⊢
      exact Nat.le_trans (Nat.mul_le_mul_right _ (Nat.add_le_add (rungVal_le (Nat.sub_le_sub_right hi2 1)) (rungVal_le hi2))) (low (Nat.le_trans hs hi2)).1
  · rw [min_low hs] at e ⊢
    rw [hv] at e
    exact mod_even E K (t1 (Nat.le_antisymm b1 (Nat.le_trans hup (Nat.le_of_eq e.symm))))
  · by_cases hi : E * 4503599627370496 + K ≤ 9218868437227405312
    · rw [Nat.min_eq_left hi] at hs e ⊢
      exact mod_even E K ((low hs).2 e)
    · rw [Nat.min_eq_right (Nat.le_of_lt (Nat.lt_of_not_le hi))]

/-- IEEE's nearest is it. -/
theorem near_is_mid (neg : Bool) (mag : Nat) (place : Int) (h0 : mag ≠ 0) : ∃ s, Ieee.double.nearest neg mag place = Ieee.double.word neg s ∧ Mid (mag * 2 ^ (place + 1074).toNat) (2 ^ (-(place + 1074)).toNat) s := by
  obtain ⟨E, K, h1, hK, hE, b1, b2, b3, t1, t2⟩ := near_core neg mag place h0
  exact ⟨_, h1, mid_of_count (Nat.two_pow_pos _) hK hE b1 b2 b3 t1 t2⟩

end Go.Proofs.YtabkgpnckaaclaaGreatDoor

/- From a quotient made bit by bit, and what is left of it, to the nearest float. Nothing here speaks of the program. -/
namespace Go.Proofs.YtabkgpnckaaclaaGreatDoor

/-- How a count is rounded: by what is left against half a unit; the even one at a tie. -/
def RndK (S V q K : Nat) : Prop := (V < S ∧ K = q + 1) ∨ (S = V ∧ K = q + q % 2) ∨ (S < V ∧ K = q)

theorem rnd_scale {S V q K P : Nat} (hP : 0 < P) (h : RndK S V q K) : RndK (S * P) (V * P) q K := by
  rcases h with ⟨h, k⟩ | ⟨h, k⟩ | ⟨h, k⟩
  · exact .inl ⟨Nat.mul_lt_mul_of_pos_right h hP, k⟩
  · exact .inr (.inl ⟨by rw [h], k⟩)
  · exact .inr (.inr ⟨Nat.mul_lt_mul_of_pos_right h hP, k⟩)
theorem rnd_le {S V q K : Nat} (h : RndK S V q K) : q ≤ K ∧ K ≤ q + 1 := by
  rcases h with ⟨h, k⟩ | ⟨h, k⟩ | ⟨h, k⟩ <;> omega

theorem round_core {A U T q S K : Nat} (hT : 0 < T) (h : 2 * A * T = 2 * (q * (U * T)) + S) (hS : S < 2 * (U * T)) (hK : RndK S (U * T) q K) :
    2 * A ≤ (2 * K + 1) * U ∧ 2 * K * U ≤ 2 * A + U ∧ (2 * A = (2 * K + 1) * U → K % 2 = 0) ∧ (2 * K * U = 2 * A + U → K % 2 = 0) := by
  have e1 : (2 * K + 1) * U * T = 2 * (K * (U * T)) + U * T := by rw [Nat.mul_assoc, Nat.add_mul, Nat.mul_assoc 2, Nat.one_mul]
  have e2 : 2 * K * U * T = 2 * (K * (U * T)) := by rw [Nat.mul_assoc, Nat.mul_assoc]
  have e3 : (2 * A + U) * T = 2 * A * T + U * T := Nat.add_mul _ _ _
  have r1 : 2 * A * T ≤ (2 * K + 1) * U * T → 2 * A ≤ (2 * K + 1) * U := fun e => Nat.le_of_mul_le_mul_right e hT
  have r2 : 2 * K * U * T ≤ (2 * A + U) * T → 2 * K * U ≤ 2 * A + U := fun e => Nat.le_of_mul_le_mul_right e hT
  have r3 : 2 * A = (2 * K + 1) * U → 2 * A * T = (2 * K + 1) * U * T := fun e => by rw [e]
  have r4 : 2 * K * U = 2 * A + U → 2 * K * U * T = (2 * A + U) * T := fun e => by rw [e]
  rw [e1] at r1 r3
  rw [e2, e3] at r2 r4
  rw [h] at r1 r2 r3 r4
  clear e1 e2 e3 h
  generalize U * T = V at *
  have k1 : (q + 1) * V = q * V + V := by rw [Nat.add_mul, Nat.one_mul]
  rcases hK with ⟨hs, rfl⟩ | ⟨hs, hk⟩ | ⟨hs, rfl⟩
  · rw [k1] at r1 r2 r3 r4
    exact ⟨r1 (by omega), r2 (by omega), fun e => by have := r3 e; omega, fun e => by have := r4 e; omega⟩
  · rcases Nat.mod_two_eq_zero_or_one q with g | g
    · obtain rfl : K = q := by omega
      exact ⟨r1 (by omega), r2 (by omega), fun e => g, fun e => g⟩
    · obtain rfl : K = q + 1 := by omega
      rw [k1] at r1 r2 r3 r4
      exact ⟨r1 (by omega), r2 (by omega), fun e => by omega, fun e => by omega⟩
  · exact ⟨r1 (by omega), r2 (by omega), fun e => by have := r3 e; omega, fun e => by have := r4 e; omega⟩

theorem npow_split {a b c d : Nat} (h : a + b = c + d) : 2 ^ a * 2 ^ b = 2 ^ c * 2 ^ d := by rw [← Nat.pow_add, ← Nat.pow_add, h]

/-- A quotient of c bits, what is left of it, and the count rounded by that: the nearest float's rung. -/
theorem near_of_take {X Y i j c q R0 R' B E Z K : Nat} (hR0 : R0 = X * 2 ^ i) (hB : B = Y * 2 ^ j) (hlow : B ≤ R0) (hup : R0 < 2 * B)
    (ht : R0 * 2 ^ c = q * (2 * B) + R') (hr : R' < 2 * B) (hE : E + (i + c) = j + (Z + 1)) (hc : c ≤ 53) (hc1 : 0 < E → c = 53) (hK : RndK R' B q K) :
    Mid (X * 2 ^ Z) Y (min (E * 4503599627370496 + K) 9218868437227405312) ∧ K ≤ 9007199254740992 := by
  have hBp : 0 < B := by omega
  have hY : 0 < Y := by
    rcases Nat.eq_zero_or_pos Y with g | g
    · subst g; rw [Nat.zero_mul] at hB; omega
    · exact g
  have hT : 0 < 2 ^ (i + c) := Nat.two_pow_pos _
  have hP : 0 < 2 ^ (Z + 1) := Nat.two_pow_pos _
  have hUT : (2 ^ E * Y) * 2 ^ (i + c) = B * 2 ^ (Z + 1) := by
    rw [hB, Nat.mul_comm (2 ^ E) Y, Nat.mul_assoc, Nat.mul_assoc, npow_split hE]
  have hA : 2 * (X * 2 ^ Z) * 2 ^ (i + c) = 2 * (q * ((2 ^ E * Y) * 2 ^ (i + c))) + R' * 2 ^ (Z + 1) := by
    rw [hUT]
    have e1 : 2 * (X * 2 ^ Z) * 2 ^ (i + c) = (R0 * 2 ^ c) * 2 ^ (Z + 1) := by
      rw [hR0, Nat.pow_add 2 i c, Nat.pow_succ 2 Z]
      generalize 2 ^ Z = a; generalize 2 ^ i = b; generalize 2 ^ c = d
      grind
    rw [e1, ht, Nat.add_mul]
    generalize 2 ^ (Z + 1) = P
    grind
  have hq : q < 2 ^ c := by
    rcases Nat.lt_or_ge q (2 ^ c) with g | g
    · exact g
    · exfalso
      have k1 : 2 ^ c * (2 * B) ≤ q * (2 * B) := Nat.mul_le_mul_right _ g
      have k2 : R0 * 2 ^ c < (2 * B) * 2 ^ c := Nat.mul_lt_mul_of_pos_right hup (Nat.two_pow_pos _)
      rw [Nat.mul_comm (2 * B)] at k2
      omega
  have hq53 : q < 9007199254740992 := by
    have : 2 ^ c ≤ 2 ^ 53 := Nat.pow_le_pow_right (by decide) hc
    have e : (2 : Nat) ^ 53 = 9007199254740992 := by decide
    omega
  have hkk := rnd_le hK
  have hq52 : 0 < E → 4503599627370496 ≤ q := fun g => by
    have c53 := hc1 g
    subst c53
    have e : (2 : Nat) ^ 53 = 4503599627370496 * 2 := by decide
    rw [e] at ht
    rcases Nat.lt_or_ge q 4503599627370496 with g | g
    · exfalso
      have k1 : (q + 1) * (2 * B) ≤ 4503599627370496 * (2 * B) := Nat.mul_le_mul_right _ g
      have k2 : B * (4503599627370496 * 2) ≤ R0 * (4503599627370496 * 2) := Nat.mul_le_mul_right _ hlow
      rw [Nat.add_mul, Nat.one_mul] at k1
      omega
    · exact g
  have hS : R' * 2 ^ (Z + 1) < 2 * ((2 ^ E * Y) * 2 ^ (i + c)) := by
    rw [hUT, ← Nat.mul_assoc]
    exact Nat.mul_lt_mul_of_pos_right hr hP
  have hRn : RndK (R' * 2 ^ (Z + 1)) ((2 ^ E * Y) * 2 ^ (i + c)) q K := by
    rw [hUT]; exact rnd_scale hP hK
  obtain ⟨b1, b2, t1, t2⟩ := round_core hT hA hS hRn
  refine ⟨mid_of_count hY (by omega) (fun g => by have := hq52 g; omega) ?_ ?_ ?_ ?_ ?_, by omega⟩
  · rw [Nat.mul_assoc]; exact b1
  · rw [Nat.mul_assoc (2 * K)]; exact b2
  · intro g
    have k := hq52 g
    have k1 : 4503599627370496 * ((2 ^ E * Y) * 2 ^ (i + c)) ≤ q * ((2 ^ E * Y) * 2 ^ (i + c)) := Nat.mul_le_mul_right _ k
    rw [Nat.mul_assoc 4503599627370496]
    refine Nat.le_of_mul_le_mul_right (c := 2 ^ (i + c)) ?_ hT
    rw [Nat.mul_assoc 2] at hA
    rw [Nat.mul_assoc 4503599627370496]
    omega
  · intro e; exact t1 (by rw [Nat.mul_assoc] at e; exact e)
  · intro e; exact t2 (by rw [Nat.mul_assoc (2 * K)] at e; exact e)

/-- So small that nothing is the nearest. -/
theorem near_none {X Y i j Z : Nat} (hup : X * 2 ^ i < 2 * (Y * 2 ^ j)) (h : j + (Z + 2) ≤ i) : Mid (X * 2 ^ Z) Y 0 := by
  have k0 : X * 2 ^ (j + (Z + 2)) ≤ X * 2 ^ i := Nat.mul_le_mul_left _ (Nat.pow_le_pow_right (by decide) h)
  have k1 : X * 2 ^ (j + (Z + 2)) < 2 * (Y * 2 ^ j) := by omega
  have e1 : X * 2 ^ (j + (Z + 2)) = (2 * (2 * (X * 2 ^ Z))) * 2 ^ j := by
    rw [Nat.pow_add, Nat.pow_succ, Nat.pow_succ]
    generalize 2 ^ Z = a; generalize 2 ^ j = b
    grind
  rw [e1, ← Nat.mul_assoc 2 Y] at k1
  have k2 : 2 * (2 * (X * 2 ^ Z)) < 2 * Y := Nat.lt_of_mul_lt_mul_right k1
  have r0 : rungVal 0 = 0 := by decide
  have r1 : rungVal (0 + 1) = 1 := by decide
  refine ⟨by decide, fun _ => ?_, fun g => by omega, fun _ _ => rfl, fun g => by omega⟩
  rw [r0, r1, Nat.zero_add, Nat.one_mul]
  omega

theorem turn3 (a b y : Nat) : (2 * (a * b)) * y = 2 * (y * a * b) := by grind
/-- So large that there is none. -/
theorem near_over {X Y i j Z F : Nat} (hZ : Z = 1074) (hF : F = 2046) (hlow : Y * 2 ^ j ≤ X * 2 ^ i) (h : i + 1024 ≤ j) : Mid (X * 2 ^ Z) Y 9218868437227405312 := by
  have k0 : Y * 2 ^ (i + 1024) ≤ Y * 2 ^ j := Nat.mul_le_mul_left _ (Nat.pow_le_pow_right (by decide) h)
  obtain ⟨G, hG⟩ : ∃ G, G = 1024 := ⟨_, rfl⟩
  rw [← hG] at k0
  have k1 : Y * 2 ^ (i + G) ≤ X * 2 ^ i := Nat.le_trans k0 hlow
  rw [Nat.pow_add, Nat.mul_comm (2 ^ i), ← Nat.mul_assoc] at k1
  have k2 := Nat.le_of_mul_le_mul_right k1 (Nat.two_pow_pos _)
  have rv : rungVal 9218868437227405312 = 4503599627370496 * 2 ^ F := by
    have := rungVal_count (E := F) (K := 4503599627370496) (by decide) (fun _ => Nat.le_refl _)
    rw [hF] at this ⊢
    exact this
  have e52 : (4503599627370496 : Nat) = 2 ^ 52 := by decide
  have hv : rungVal 9218868437227405312 = 2 ^ G * 2 ^ Z := by
    rw [rv, e52]; exact npow_split (by omega)
  have k3 : Y * 2 ^ G * 2 ^ Z ≤ X * 2 ^ Z := Nat.mul_le_mul_right _ k2
  have k4 : rungVal (9218868437227405312 - 1) ≤ rungVal 9218868437227405312 := rungVal_le (by decide)
  refine ⟨Nat.le_refl _, fun g => by omega, fun _ => ?_, fun g => by omega, fun _ _ => by decide⟩
  have k5 : (rungVal (9218868437227405312 - 1) + rungVal 9218868437227405312) * Y ≤ (2 * (2 ^ G * 2 ^ Z)) * Y := Nat.mul_le_mul_right _ (by rw [hv] at k4 ⊢; rw [Nat.two_mul]; exact Nat.add_le_add_right k4 _)
  have e6 : (2 * (2 ^ G * 2 ^ Z)) * Y = 2 * (Y * 2 ^ G * 2 ^ Z) := turn3 _ _ _
  rw [e6] at k5
  exact Nat.le_trans k5 (Nat.mul_le_mul_left 2 k3)

end Go.Proofs.YtabkgpnckaaclaaGreatDoor

/- real.nearestSize: the float nearest to the size of a fraction that is not 0. -/
namespace Go.Proofs.YtabkgpnckaaclaaGreatDoor
open Go.RowKit
set_option linter.unusedVariables false

theorem u64_and1 (q : Nat) (h : q < 18446744073709551616) : bits .and .u64 (q : Int) 1 = ((q % 2 : Nat) : Int) := by
  have e1 := u64_and_nat q 1 h (by omega)
  have e2 : q &&& 1 = q % 2 := Nat.and_one_is_mod q
  rw [e2] at e1
  exact e1
/-- What is taken, as natural numbers. -/
theorem take_nat {R B R' : List Int} {q : Int} {c X Y i j : Nat} (wR : Wd R') (hq : 0 ≤ q) (hR : val R = (X : Int) * 2 ^ i) (hB : val B = (Y : Int) * 2 ^ j) (hlow : val B ≤ val R) (hup : val R < 2 * val B) (ht : val R * 2 ^ c = q * (2 * val B) + val R') (hr : val R' < 2 * val B) :
    ∃ Q S : Nat, q = Q ∧ val R' = S ∧ Y * 2 ^ j ≤ X * 2 ^ i ∧ X * 2 ^ i < 2 * (Y * 2 ^ j) ∧ X * 2 ^ i * 2 ^ c = Q * (2 * (Y * 2 ^ j)) + S ∧ S < 2 * (Y * 2 ^ j) := by
  obtain ⟨Q, rfl⟩ := Int.eq_ofNat_of_zero_le hq
  obtain ⟨S, hS⟩ := Int.eq_ofNat_of_zero_le (val_nonneg wR)
  rw [hS] at ht hr
  have e1 : (X : Int) * 2 ^ i = ((X * 2 ^ i : Nat) : Int) := by rw [Int.natCast_mul, Int.natCast_pow]; rfl
  have e2 : (Y : Int) * 2 ^ j = ((Y * 2 ^ j : Nat) : Int) := by rw [Int.natCast_mul, Int.natCast_pow]; rfl
  have e3 : (2 : Int) ^ c = ((2 ^ c : Nat) : Int) := by rw [Int.natCast_pow]; rfl
  rw [hR, e1] at hlow hup ht
  rw [hB, e2] at hlow hup ht hr
  rw [e3] at ht
  refine ⟨Q, S, rfl, hS, by omega, by omega, ?_, by omega⟩
  generalize X * 2 ^ i = A at *
  generalize Y * 2 ^ j = D at *
  generalize 2 ^ c = C at *
  have e4 : ((A * C : Nat) : Int) = ((Q * (2 * D) + S : Nat) : Int) := by
    rw [Int.natCast_mul, ht]; simp
  exact Int.ofNat.inj e4

theorem box_made_drew (W : World) (t : Nat) (vs : Array Value) : Box (W.alloc (.cells vs t)).drew W.heap.size t vs := Box.made W t vs
theorem nrwrap {x : Int} (h0 : -9223372036854775808 ≤ x) (h1 : x ≤ 9223372036854775807) : IntKind.i64.wrap x = x := by
  rw [IntKind.wrap_i64]; omega
theorem cell_alloc {V : World} {b j : Nat} {v : Value} (h : V.cell? ⟨b, j, none⟩ = some v) (o : Obj) : (V.alloc o).cell? ⟨b, j, none⟩ = some v := by
  have hlt : b < V.heap.size := by
    rcases Nat.lt_or_ge b V.heap.size with g | g
    · exact g
    · exfalso
      have e : V.heap[b]? = none := Array.getElem?_eq_none g
      simp [World.cell?, e] at h
  exact ((alloc_later V o).cell (p := ⟨b, j, none⟩) hlt).trans h
theorem cell_far3 {V : World} {b j b' : Nat} {v : Value} (h : V.cell? ⟨b, j, none⟩ = some v) (hne : b ≠ b') (v0 v1 v2 : Value) : (((V.setCell ⟨b', 0, none⟩ v0).setCell ⟨b', 1, none⟩ v1).setCell ⟨b', 2, none⟩ v2).cell? ⟨b, j, none⟩ = some v := by
  unfold World.cell? at *
  rw [Below.heap_setCell _ ⟨b', 2, none⟩ v2 b hne, Below.heap_setCell _ ⟨b', 1, none⟩ v1 b hne, Below.heap_setCell _ ⟨b', 0, none⟩ v0 b hne]
  exact h
/-- What stands when the quotient was taken. -/
structure NearCut (w : World) (base pd g1 g2 N c1 c2 : Nat) (p u : Int) (R B : List Int) (c : Nat) (s : Value) (wx : World) : Prop where
  ex : ∃ (pb : Nat) (q : Int) (R' : List Int), s = .pointer (some ⟨pb, 0, none⟩) ∧ Box wx pb 65 #[.bool false, .int .u64 q, .int .i64 u] ∧ OwnC wx base g1 N c1 R' ∧ OwnC wx base g2 N c2 B ∧ Box wx pd 96 #[.slice (some ⟨g1, 0, none⟩) N c1, .slice (some ⟨g2, 0, none⟩) N c2, .int .i64 p] ∧ 0 ≤ q ∧ Wd R' ∧ val R * 2 ^ c = q * (2 * val B) + val R' ∧ val R' < 2 * val B ∧ pb ≠ pd ∧ w.heap.size ≤ pb
  bel : Below w.heap.size w wx
/-- What is known behind the call of take, in whatever world it was made. -/
structure NearTake (W3 : World) (base pd g1 g2 N c1 c2 : Nat) (p : Int) (R B : List Int) (c : Nat) (q : Int) (R' : List Int) (w4 : World) : Prop where
  o1 : OwnC w4 base g1 N c1 R'
  o2 : OwnC w4 base g2 N c2 B
  bx : Box w4 pd 96 #[.slice (some ⟨g1, 0, none⟩) N c1, .slice (some ⟨g2, 0, none⟩) N c2, .int .i64 p]
  q0 : 0 ≤ q
  wd : Wd R'
  eq : val R * 2 ^ c = q * (2 * val B) + val R'
  lt : val R' < 2 * val B
  gr : W3.grownBy w4 (some g1)
theorem near_new {w W3 w4 : World} {base pd g1 g2 N c1 c2 : Nat} {p u : Int} {R B : List Int} {c : Nat} {q : Int} {R' : List Int} (h : NearTake W3 base pd g1 g2 N c1 c2 p R B c q R' w4) (hw : Below w.heap.size w W3) (hg : w.heap.size ≤ g1) :
    NearCut w base pd g1 g2 N c1 c2 p u R B c (.pointer (some ⟨w4.heap.size, 0, none⟩)) (w4.alloc (.cells #[.bool false, .int .u64 q, .int .i64 u] 65)) := by
  have hb := alloc_later w4 (.cells #[.bool false, .int .u64 q, .int .i64 u] 65)
  have s1 := hw.size
  have s2 := h.gr.size
  have s3 := h.bx.lt
  exact ⟨⟨_, q, R', rfl, Box.made w4 _ _, owns_later h.o1 hb, owns_later h.o2 hb, h.bx.later hb s3, h.q0, h.wd, h.eq, h.lt, by omega, by omega⟩, bt (hw.grown h.gr (by omega) (fun k hk => by cases hk; exact hg)) hb⟩
theorem near_old {w W3 w4 : World} {base pd g1 g2 N c1 c2 pb : Nat} {p u : Int} {R B : List Int} {c : Nat} {q : Int} {R' : List Int} {v0 v1 v2 : Value} (h : NearTake W3 base pd g1 g2 N c1 c2 p R B c q R' w4) (hw : Below w.heap.size w W3) (hg : w.heap.size ≤ g1) (hpb : Box w4 pb 65 #[v0, v1, v2]) (n1 : g1 ≠ pb) (n2 : g2 ≠ pb) (n3 : pb ≠ pd) (hl : w.heap.size ≤ pb) :
    NearCut w base pd g1 g2 N c1 c2 p u R B c (.pointer (some ⟨pb, 0, none⟩)) (((w4.setCell ⟨pb, 0, none⟩ (.bool false)).setCell ⟨pb, 1, none⟩ (.int .u64 q)).setCell ⟨pb, 2, none⟩ (.int .i64 u)) := by
  have s1 := hw.size
  have s2 := h.gr.size
  exact ⟨⟨_, q, R', rfl, ((hpb.set 0 _).set 1 _).set 2 _, own_set (own_set (own_set h.o1 n1) n1) n1, own_set (own_set (own_set h.o2 n2) n2) n2, ((h.bx.other ⟨pb, 0, none⟩ _ (Ne.symm n3)).other ⟨pb, 1, none⟩ _ (Ne.symm n3)).other ⟨pb, 2, none⟩ _ (Ne.symm n3), h.q0, h.wd, h.eq, h.lt, n3, hl⟩,
    (((hw.grown h.gr (by omega) (fun k hk => by cases hk; exact hg)).setCell (p := ⟨pb, 0, none⟩) hl _).setCell (p := ⟨pb, 1, none⟩) hl _).setCell (p := ⟨pb, 2, none⟩) hl _⟩
theorem take_near (W3 : World) (base pd g1 g2 N c1 c2 c : Nat) (p : Int) (R B : List Int) (hbx : Box W3 pd 96 #[.slice (some ⟨g1, 0, none⟩) N c1, .slice (some ⟨g2, 0, none⟩) N c2, .int .i64 p]) (h1 : OwnC W3 base g1 N c1 R) (h2 : OwnC W3 base g2 N c2 B) (w1 : Wd R) (w2 : Wd B) (hne : g1 ≠ g2) (hn : N ≤ 1048576) (hc : c ≤ 60) (hR : val R < 2 * val B) (hB : 2 * val B < 4294967296 ^ N) (V : World) (hv : Below W3.heap.size W3 V) :
    Calls Tryz.prog 73 #[.pointer (some ⟨pd, 0, none⟩), .int .i64 c] V fun e w' => ∃ (q : Int) (R' : List Int), e = .returned (.int .u64 q) ∧ w'.cell? ⟨pd, 2, none⟩ = some (.int .i64 p) ∧ Hid (NearTake W3 base pd g1 g2 N c1 c2 p R B c q R' w') ∧ Hid (∀ b t vs, b ≠ g1 → Box V b t vs → Box w' b t vs) ∧ (∀ b j, b < V.heap.size → b ≠ g1 → w'.cell? ⟨b, j, none⟩ = V.cell? ⟨b, j, none⟩) ∧ (∀ b j, b < V.heap.size → b ≠ g1 → w'.frozen? ⟨b, j, none⟩ = V.frozen? ⟨b, j, none⟩) ∧ V.heap.size ≤ w'.heap.size := by
  have hp1 : g1 ≠ pd := own_ne_box h1 hbx (by decide) g1 rfl
  have hx := hbx.later hv hbx.lt
  refine Calls.mono (take_any base base pd g1 g2 N c1 c2 c p R B V hx (owns_later h1 hv) (owns_later h2 hv) w1 w2 hne hn hc hR hB) ?_
  rintro e w' ⟨q, R', rfl, q0, o1, wd, ht, hr, hg⟩
  have hx' := hx.keptBy hg (Ne.symm hp1)
  refine ⟨q, R', rfl, hx'.cell 2, ⟨o1, OwnC.keptBy (owns_later h2 hv) hg (Ne.symm hne), hx', q0, wd, ht, hr, grown_trans (grown_of_below hv _) hg⟩, fun b t vs hb h => h.keptBy hg hb, fun b j hb hn => grown_cell hg hb hn, fun b j hb hn => ?_, hg.size⟩
  unfold World.frozen?
  rw [hg.block b hb (fun e => hn (Option.some.inj e))]

set_option maxHeartbeats 1600000 in
set_option maxRecDepth 100000 in
theorem nearestSize_any (neg : Bool) (a : Option Addr) (n cap : Nat) (xs : List Int) (b : Option Addr) (m cap' : Nat) (ys : List Int) (w : World) (h : Reads w w.heap.size a (n + 1) cap xs) (g : Reads w w.heap.size b (m + 1) cap' ys) (hn : n ≤ 2048) (hm : m ≤ 2048) (tx : Trimmed xs) (ty : Trimmed ys) (X Y Z : Nat) (hXv : val xs = (X : Int)) (hYv : val ys = (Y : Int)) (hZ : Z = 1074) :
    Calls Tryz.prog 41 #[.agg #[.bool neg, .slice a (n + 1) cap, .slice b (m + 1) cap']] w fun e w' => ∃ s, e = .returned (.float .f64 s) ∧ Mid (X * 2 ^ Z) Y s ∧ Below w.heap.size w w' := by
  obtain ⟨X1, hX1⟩ : ∃ X1, w.alloc (.cells #[.bool neg, .slice a (n + 1) cap, .slice b (m + 1) cap'] 25) = X1 := ⟨_, rfl⟩
  have b1 : Below w.heap.size w X1 := by rw [← hX1]; exact alloc_later _ _
  have hB1 : Box X1 w.heap.size 25 #[.bool neg, .slice a (n + 1) cap, .slice b (m + 1) cap'] := by rw [← hX1]; exact Box.made w _ _
  have e1 : X1.cell? ⟨w.heap.size, 1, none⟩ = some (.slice a (n + 1) cap) := hB1.cell 1
  have e2 : X1.cell? ⟨w.heap.size, 2, none⟩ = some (.slice b (m + 1) cap') := hB1.cell 2
  have HBG := hid (begin_any a n cap xs b m cap' ys X1 (h.later b1 b1.size) (g.later b1 b1.size) hn hm tx ty)
  have HB1 := hid b1
  have hs1x : w.heap.size ≤ X1.heap.size := b1.size
  have HZ := hid hZ
  have HXY := hid (And.intro hXv hYv)
  clear h g tx ty b1 hB1 hZ hXv hYv
  go_enter Tryz.func41, Tryz.ntmps41
  go_wp2_with fail
  clear hX1
  refine Calls.mono HBG.out ?_
  rintro e w2 ⟨g1, g2, N, c1, c2, R, B, i, j, rfl, o1, o2, wR, wB, hne, hN, hi, hj, vR, vB, k1, k2, k3, b2⟩
  generalize hp : (j : Int) - (i : Int) = p at *
  have p0 : -65601 ≤ p := by omega
  have p1 : p ≤ 65600 := by omega
  rw [HXY.out.1] at vR
  rw [HXY.out.2] at vB
  have HV := hid (And.intro vR (And.intro vB (And.intro k1 (And.intro k2 k3))))
  obtain ⟨W3, hW3⟩ : ∃ W3, w2.alloc (.cells #[.slice (some ⟨g1, 0, none⟩) N c1, .slice (some ⟨g2, 0, none⟩) N c2, .int .i64 p] 96) = W3 := ⟨_, rfl⟩
  have b3 : Below w2.heap.size w2 W3 := by rw [← hW3]; exact alloc_later _ _
  have HX3 : Hid (Box W3 w2.heap.size 96 #[.slice (some ⟨g1, 0, none⟩) N c1, .slice (some ⟨g2, 0, none⟩) N c2, .int .i64 p]) := by rw [← hW3]; exact Box.made w2 _ _
  have HO1 : Hid (OwnC W3 X1.heap.size g1 N c1 R) := owns_later o1 b3
  have HO2 : Hid (OwnC W3 X1.heap.size g2 N c2 B) := owns_later o2 b3
  have HBB := hid (bt HB1.out (bt b2 b3))
  have HWW := hid (And.intro wR wB)
  have HP := hid hp
  have u2 : W3.cell? ⟨w2.heap.size, 2, none⟩ = some (.int .i64 p) := HX3.out.cell 2
  clear HBG e1 e2 HB1 o1 o2 wR wB vR vB k1 k2 k3 b2 b3 hp
  obtain ⟨r, hr⟩ : ∃ r, p - -1074 = r := ⟨_, rfl⟩
  obtain ⟨r1, hr1⟩ : ∃ r1, r + 1 = r1 := ⟨_, rfl⟩
  have HRR : Hid (r1 = p + 1075) := by show _ = _; omega
  have r0 : -70000 ≤ r := by omega
  have r2 : r ≤ 70000 := by omega
  obtain ⟨cI, hcI⟩ : ∃ cI : Int, (if r1 < 53 then r1 else 53) = cI := ⟨_, rfl⟩
  have hmn : ∀ (ts : Array TypeId) (t : TypeId) (P : Program) (W : World), (Builtin.min_ ts t #[.int .i64 53, .int .i64 r1]).run P W = .ok (.int .i64 cI) W := fun ts t P W => by rw [run_min_int2, ← hcI]
  have HCI : Hid (cI ≤ 53 ∧ (cI = 53 ∨ cI = p + 1075) ∧ cI ≤ p + 1075) := by
    have e := HRR.out
    by_cases hc : r1 < 53
    · rw [if_pos hc] at hcI; exact ⟨by omega, by omega, by omega⟩
    · rw [if_neg hc] at hcI; exact ⟨by omega, by omega, by omega⟩
  clear hcI
  by_cases hbig : 1023 < p
  · have HM : Hid (Mid (X * 2 ^ Z) Y 9218868437227405312) := near_over HZ.out (F := 2046) rfl (i := i) (j := j) (by
      have e1 := HV.out.1
      have e2 := HV.out.2.1
      have e3 := HV.out.2.2.1
      rw [e1, e2] at e3
      have f1 : (X : Int) * 2 ^ i = ((X * 2 ^ i : Nat) : Int) := by rw [Int.natCast_mul, Int.natCast_pow]; rfl
      have f2 : (Y : Int) * 2 ^ j = ((Y * 2 ^ j : Nat) : Int) := by rw [Int.natCast_mul, Int.natCast_pow]; rfl
      omega) (by have := HP.out; omega)
    have HI := hid (fun V => mInf_any V)
    go_wp2_with fail
    refine Calls.mono (HI.out _) ?_
    rintro e w4 ⟨rfl, rfl⟩
    go_wp2_with fail
    go_ret
    exact ⟨_, rfl, HM.out, HBB.out⟩
  · by_cases hsm : cI < 0
    · have HM : Hid (Mid (X * 2 ^ Z) Y 0) := near_none (i := i) (j := j) (by
        have e1 := HV.out.1
        have e2 := HV.out.2.1
        have e3 := HV.out.2.2.2.1
        rw [e1, e2] at e3
        have f1 : (X : Int) * 2 ^ i = ((X * 2 ^ i : Nat) : Int) := by rw [Int.natCast_mul, Int.natCast_pow]; rfl
        have f2 : (Y : Int) * 2 ^ j = ((Y * 2 ^ j : Nat) : Int) := by rw [Int.natCast_mul, Int.natCast_pow]; rfl
        omega) (by have := HP.out; have := HCI.out; have := HZ.out; omega)
      go_wp2_with fail
      go_ret
      exact ⟨_, rfl, HM.out, HBB.out⟩
    · obtain ⟨c, rfl⟩ := Int.eq_ofNat_of_zero_le (show 0 ≤ cI by omega)
      have hc53 : c ≤ 53 := by have := HCI.out.1; omega
      obtain ⟨u, hu⟩ : ∃ u, p - (c : Int) + 1 = u := ⟨_, rfl⟩
      obtain ⟨E, hE⟩ : ∃ E : Nat, u = (E : Int) - 1074 := ⟨(u + 1074).toNat, by have := HCI.out; omega⟩
      have HE : Hid (E + (i + c) = j + (Z + 1) ∧ E ≤ 2045 ∧ (0 < E → c = 53)) := by
        have e1 := HCI.out
        have e2 := HP.out
        have e3 := HZ.out
        refine ⟨by omega, by omega, fun h => by omega⟩
      have HUE := hid hE
      have HT := hid (take_near W3 X1.heap.size w2.heap.size g1 g2 N c1 c2 c p R B HX3.out HO1.out HO2.out HWW.out.1 HWW.out.2 hne (by omega) (by omega) HV.out.2.2.2.1 HV.out.2.2.2.2)
      have hgw : w.heap.size ≤ g1 := by have := (OwnC.base HO1.out).1; omega
      have n1 : g1 ≠ W3.heap.size := Nat.ne_of_lt (OwnC.base HO1.out).2
      have n1' := Ne.symm n1
      have n2 : g2 ≠ W3.heap.size := Nat.ne_of_lt (OwnC.base HO2.out).2
      have n3 : w2.heap.size < W3.heap.size := HX3.out.lt
      have n3' := Nat.ne_of_lt n3
      have hlW : w.heap.size ≤ W3.heap.size := HBB.out.size
      have hs0 : W3.drew.cell? ⟨w2.heap.size, 2, none⟩ = some (.int .i64 p) := u2
      have HD0 := hid (Below.drew (Below.refl W3.heap.size W3))
      have HWR : Hid (IntKind.i64.wrap (IntKind.i64.wrap (p - (c : Int)) + 1) = u) := by
        show _ = _
        have e1 : IntKind.i64.wrap (p - (c : Int)) = p - (c : Int) := nrwrap (by omega) (by omega)
        rw [e1, hu]
        exact nrwrap (by omega) (by omega)
      go_upto_region 7 with fail
      clear hW3
      go_cut [5] from 24 (fun s wx => Hid (NearCut w X1.heap.size w2.heap.size g1 g2 N c1 c2 p u R B c s wx))
      case first =>
        go_region_held3 (fun V : World => V.cell? ⟨w2.heap.size, 2, none⟩ = some (.int .i64 p)) (first | exact hs1 | exact hs0 | exact cell_alloc hs1 _ | exact cell_alloc hs0 _ | exact cell_alloc u2 _ | exact cell_far3 hs1 n3' _ _ _)
          (first | (go_at_call 73; (with_reducible refine Calls.mono (HT.out _ (by first | exact HD0.out | exact below_alloc1 HD0.out _ | exact Below.drew (below_alloc1 (Below.refl _ _) _))) ?_); rintro e w4 ⟨q, R', rfl, hs1, HNT, HBK, hcl, hfr, hsz⟩))
        all_goals
          go_wp2_with fail
          go_meet
        all_goals rw [HWR.out]
        all_goals first | with_reducible exact hid (near_new HNT.out HBB.out hgw) | with_reducible exact hid (near_old HNT.out HBB.out hgw (HBK.out _ _ _ n1' (box_made_drew _ _ _)) n1 n2 (Ne.symm n3') hlW)
      case rest =>
        obtain ⟨pb, q, R', rfl, hpb, o1, o2, hbx, q0, wd, heq, hlt, n4, hl⟩ := hcut.out.ex
        have HBEL := hid hcut.out.bel
        obtain ⟨Q, S, hQ, hS, f1, f2, f3, f4⟩ := take_nat wd q0 HV.out.1 HV.out.2.1 HV.out.2.2.1 HV.out.2.2.2.1 heq hlt
        subst hQ
        have HCM := hid (rcompare_any (some ⟨g1, 0, none⟩) N c1 R' (some ⟨g2, 0, none⟩) c2 B wc (readsC o1 wd) (readsC o2 HWW.out.2) (by omega))
        have hD : (Y : Int) * 2 ^ j = ((Y * 2 ^ j : Nat) : Int) := by rw [Int.natCast_mul, Int.natCast_pow]; rfl
        rw [hS, HV.out.2.1, hD] at HCM
        have HFIN : Hid (∀ K, RndK S (Y * 2 ^ j) Q K → Mid (X * 2 ^ Z) Y (E * 4503599627370496 + K) ∧ K ≤ 9007199254740992) := fun K hK => by
          have h := near_of_take (E := E) (Z := Z) rfl rfl f1 f2 f3 f4 HE.out.1 hc53 HE.out.2.2 hK
          have e := HE.out.2.1
          rw [Nat.min_eq_left (by omega)] at h
          exact h
        have HQ53 : Hid (∀ K, RndK S (Y * 2 ^ j) Q K → Q ≤ 9007199254740992) := fun K hK => by have := (HFIN.out K hK).2; have := rnd_le hK; omega
        have HPB := hid hpb
        have d0 : wc.cell? ⟨w2.heap.size, 0, none⟩ = some (.slice (some ⟨g1, 0, none⟩) N c1) := hbx.cell 0
        have d1 : wc.cell? ⟨w2.heap.size, 1, none⟩ = some (.slice (some ⟨g2, 0, none⟩) N c2) := hbx.cell 1
        have hPb : pb < wc.heap.size := hpb.lt
        have HUP := hid (And.intro HUE.out HE.out.2.1)
        clear hcut HT HX3 HO1 HO2 HBB HD0 hs0 u2 n1 n1' n2 n3 n3' hlW o1 o2 hbx heq hlt hS f1 f2 f3 f4 hD hmn hr hr1 hu hE HE
        rcases Nat.lt_trichotomy S (Y * 2 ^ j) with hc | hc | hc
        · have HR := hid (HFIN.out Q (.inr (.inr ⟨hc, rfl⟩)))
          have hcc : cmpI (S : Int) ((Y * 2 ^ j : Nat) : Int) = -1 := cmpI_lt (by omega)
          rw [hcc] at HCM
          clear hcc hc HFIN
          go_wp2_with fail
          refine Calls.mono HCM.out ?_
          rintro e w4 ⟨rfl, b4⟩
          have HPT := hid (putTogether_any false Q E u w4 HUP.out.1 (by have := HUP.out.2; omega) HR.out.2)
          have HB4 := hid (bt HBEL.out b4)
          have B4 := HPB.out.later b4 hPb
          have m0 : w4.cell? ⟨pb, 0, none⟩ = some (.bool false) := B4.cell 0
          have m1 : w4.cell? ⟨pb, 1, none⟩ = some (.int .u64 (Q : Int)) := B4.cell 1
          have m2 : w4.cell? ⟨pb, 2, none⟩ = some (.int .i64 u) := B4.cell 2
          clear HCM b4 B4 d0 d1
          go_wp2_with fail
          refine Calls.mono HPT.out ?_
          rintro e w5 ⟨rfl, b5⟩
          go_wp2_with fail
          go_ret
          exact ⟨_, rfl, HR.out.1, bt HB4.out b5⟩
        · have hRK : RndK S (Y * 2 ^ j) Q (Q + Q % 2) := .inr (.inl ⟨hc, rfl⟩)
          have HR := hid (HFIN.out _ hRK)
          have hq53 := HQ53.out _ hRK
          have hcc : cmpI (S : Int) ((Y * 2 ^ j : Nat) : Int) = 0 := cmpI_eq (by omega)
          rw [hcc] at HCM
          have han := u64_and1 Q (by omega)
          have hsum : (Q : Int) + ((Q % 2 : Nat) : Int) = ((Q + Q % 2 : Nat) : Int) := by omega
          obtain ⟨t, ht⟩ : ∃ t, Q % 2 = t := ⟨_, rfl⟩
          have ht1 : t ≤ 1 := by omega
          rw [ht] at HR han hsum
          obtain ⟨K, hK⟩ : ∃ K, Q + t = K := ⟨_, rfl⟩
          rw [hK] at HR hsum
          have HKK := hid hK
          have hK53 : K ≤ 9007199254740993 := by omega
          clear hcc hc HFIN hRK ht hK
          go_wp2_with fail
          refine Calls.mono HCM.out ?_
          rintro e w4 ⟨rfl, b4⟩
          have HPT := hid (fun V => putTogether_any false K E u V HUP.out.1 (by have := HUP.out.2; omega) HR.out.2)
          have HB4 := hid (bt HBEL.out b4)
          have B4 := HPB.out.later b4 hPb
          have m0 : w4.cell? ⟨pb, 0, none⟩ = some (.bool false) := B4.cell 0
          have m1 : w4.cell? ⟨pb, 1, none⟩ = some (.int .u64 (Q : Int)) := B4.cell 1
          have m2 : w4.cell? ⟨pb, 2, none⟩ = some (.int .i64 u) := B4.cell 2
          have m3 := B4.free 1
          clear HCM b4 B4 d0 d1
          go_wp2_with fail
          refine Calls.mono (HPT.out _) ?_
          rintro e w5 ⟨rfl, b5⟩
          go_wp2_with fail
          go_ret
          exact ⟨_, rfl, HR.out.1, bt (HB4.out.setCell (p := ⟨pb, 1, none⟩) hl _) b5⟩
        · have hRK : RndK S (Y * 2 ^ j) Q (Q + 1) := .inl ⟨hc, rfl⟩
          have HR := hid (HFIN.out _ hRK)
          have hq53 := HQ53.out _ hRK
          have hcc : cmpI (S : Int) ((Y * 2 ^ j : Nat) : Int) = 1 := cmpI_gt (by omega)
          rw [hcc] at HCM
          obtain ⟨K, hK⟩ : ∃ K, Q + 1 = K := ⟨_, rfl⟩
          rw [hK] at HR
          have hsum : (Q : Int) + 1 = (K : Int) := by omega
          have hK53 : K ≤ 9007199254740993 := by omega
          clear hcc hc HFIN hRK hK
          go_wp2_with fail
          refine Calls.mono HCM.out ?_
          rintro e w4 ⟨rfl, b4⟩
          have HPT := hid (fun V => putTogether_any false K E u V HUP.out.1 (by have := HUP.out.2; omega) HR.out.2)
          have HB4 := hid (bt HBEL.out b4)
          have B4 := HPB.out.later b4 hPb
          have m0 : w4.cell? ⟨pb, 0, none⟩ = some (.bool false) := B4.cell 0
          have m1 : w4.cell? ⟨pb, 1, none⟩ = some (.int .u64 (Q : Int)) := B4.cell 1
          have m2 : w4.cell? ⟨pb, 2, none⟩ = some (.int .i64 u) := B4.cell 2
          have m3 := B4.free 1
          clear HCM b4 B4 d0 d1
          go_wp2_with fail
          refine Calls.mono (HPT.out _) ?_
          rintro e w5 ⟨rfl, b5⟩
          go_wp2_with fail
          go_ret
          exact ⟨_, rfl, HR.out.1, bt (HB4.out.setCell (p := ⟨pb, 1, none⟩) hl _) b5⟩

end Go.Proofs.YtabkgpnckaaclaaGreatDoor

/- Quotients, products, sums and roots of sizes, against floats that bound them. Nothing here speaks of the program. -/
namespace Go.Proofs.YtabkgpnckaaclaaGreatDoor

/-- What a size below infinity stands for. -/
theorem read_size {x : Nat} (h : x < 9218868437227405312) : ∃ m a, Ieee.double.read x = .number false m (-1074 + (a : Nat)) ∧ m * 2 ^ a = rungVal x := by
  have e : x % 9223372036854775808 = x := Nat.mod_eq_of_lt (by omega)
  obtain ⟨m, a, e1, e2⟩ := read_num (x := x) (by rw [e]; exact h)
  rw [e] at e2
  rw [Nat.div_eq_of_lt (by omega)] at e1
  exact ⟨m, a, e1, e2⟩

theorem word_pos (s : Nat) : Ieee.double.word false s = s := rfl

theorem FN.eq {op : BinOp} {x y r s : Nat} (h : FN op x y r) (g : floatBits op .f64 x y = .some s) : r = s := by
  rcases h.2 with h | ⟨h, _⟩
  · rw [h] at g; exact Option.some.inj g
  · rw [h] at g; cases g
theorem FQ.eq {x r s : Nat} (h : FQ x r) (g : Ieee.double.sqrt x = .some s) : r = s := by
  rcases h.2 with h | ⟨h, _⟩
  · rw [h] at g; exact Option.some.inj g
  · rw [h] at g; cases g

/-- The product of two sizes. -/
theorem mul_bits {x y : Nat} (E : Nat) (hE : E = 1074) (hx : x < 9218868437227405312) (hy : y < 9218868437227405312) : ∃ mag place, floatBits .mul .f64 x y = some (Ieee.double.nearest false mag place) ∧ mag * 2 ^ (place + 1074).toNat * 2 ^ E = rungVal x * rungVal y * 2 ^ (-(place + 1074)).toNat ∧ (mag = 0 ↔ rungVal x * rungVal y = 0) := by
  obtain ⟨m, a, e1, v1⟩ := read_size hx
  obtain ⟨n, b, e2, v2⟩ := read_size hy
  refine ⟨m * n, -1074 + (a : Int) + (-1074 + (b : Int)), ?_, ?_, ?_⟩
  · show (((Ieee.double.read x).product (Ieee.double.read y)).map Ieee.double.write) = _
    rw [e1, e2]
    rfl
  · rw [← v1, ← v2]
    by_cases h : 1074 ≤ a + b
    · have t1 : (-1074 + (a : Int) + (-1074 + (b : Int)) + 1074).toNat = a + b - 1074 := by omega
      have t2 : (-(-1074 + (a : Int) + (-1074 + (b : Int)) + 1074)).toNat = 0 := by omega
      rw [t1, t2, Nat.mul_assoc (m * n), ← Nat.pow_add, show a + b - 1074 + E = a + b by omega, Nat.pow_add, Nat.pow_zero, Nat.mul_one]
      rw [Nat.mul_assoc, Nat.mul_assoc, Nat.mul_left_comm n]
    · have t1 : (-1074 + (a : Int) + (-1074 + (b : Int)) + 1074).toNat = 0 := by omega
      have t2 : (-(-1074 + (a : Int) + (-1074 + (b : Int)) + 1074)).toNat = E - (a + b) := by omega
      rw [t1, t2, Nat.pow_zero, Nat.mul_one]
      have e : 2 ^ E = 2 ^ a * 2 ^ b * 2 ^ (E - (a + b)) := by rw [← Nat.pow_add, ← Nat.pow_add]; congr 1; omega
      rw [e]
      generalize 2 ^ a = A
      generalize 2 ^ b = B
      generalize 2 ^ (E - (a + b)) = C
      rw [← Nat.mul_assoc, ← Nat.mul_assoc]
      congr 1
      rw [Nat.mul_assoc m A, Nat.mul_left_comm A n B, ← Nat.mul_assoc m n, Nat.mul_assoc (m * n)]
  · rw [← v1, ← v2]
    have hA := Nat.two_pow_pos a
    have hB := Nat.two_pow_pos b
    simp only [Nat.mul_eq_zero]
    constructor
    · rintro (h | h)
      · exact .inl (.inl h)
      · exact .inr (.inl h)
    · rintro ((h | h) | (h | h))
      · exact .inl h
      · omega
      · exact .inr h
      · omega

/-- The sum of two sizes. -/
theorem add_bits {x y : Nat} (hx : x < 9218868437227405312) (hy : y < 9218868437227405312) : ∃ mag place, floatBits .add .f64 x y = some (Ieee.double.nearest false mag place) ∧ mag * 2 ^ (place + 1074).toNat = (rungVal x + rungVal y) ∧ (-(place + 1074)).toNat = 0 := by
  obtain ⟨m, a, e1, v1⟩ := read_size hx
  obtain ⟨n, b, e2, v2⟩ := read_size hy
  have t1 : (-1074 + (a : Int) - min (-1074 + (a : Int)) (-1074 + (b : Int))).toNat = a - min a b := by omega
  have t2 : (-1074 + (b : Int) - min (-1074 + (a : Int)) (-1074 + (b : Int))).toNat = b - min a b := by omega
  have t3 : Ieee.signed false m (a - min a b) + Ieee.signed false n (b - min a b) = ((m * 2 ^ (a - min a b) + n * 2 ^ (b - min a b) : Nat) : Int) := by
    simp only [Ieee.signed, Nat.shiftLeft_eq, Bool.false_eq_true, if_false]; omega
  refine ⟨m * 2 ^ (a - min a b) + n * 2 ^ (b - min a b), min (-1074 + (a : Int)) (-1074 + (b : Int)), ?_, ?_, by omega⟩
  · show (((Ieee.double.read x).sum (Ieee.double.read y)).map Ieee.double.write) = _
    rw [e1, e2]
    simp only [Ieee.Datum.sum, t1, t2, t3]
    simp only [Option.map, Ieee.Format.write]
    generalize m * 2 ^ (a - min a b) + n * 2 ^ (b - min a b) = T
    congr 2
    · by_cases hz : (T : Int) = 0
      · rw [if_pos hz]; rfl
      · rw [if_neg hz]; exact decide_eq_false (by omega)
  · have t4 : (min (-1074 + (a : Int)) (-1074 + (b : Int)) + 1074).toNat = min a b := by omega
    rw [t4, ← v1, ← v2, Nat.add_mul, Nat.mul_assoc, Nat.mul_assoc, ← Nat.pow_add, ← Nat.pow_add, show a - min a b + min a b = a by omega, show b - min a b + min a b = b by omega]

theorem val_one_f (E : Nat) (hE : E = 1074) : rungVal 4607182418800017408 = 2 ^ E := by subst hE; decide +kernel
theorem val_half3 (E : Nat) (hE : E = 1074) : rungVal 4609434218613702656 * 2 = 3 * 2 ^ E := by subst hE; decide +kernel
theorem val_two_f (E : Nat) (hE : E = 1074) : rungVal 4611686018427387904 = 2 * 2 ^ E := by subst hE; decide +kernel

/-- A product by what is 1 or above is not below. -/
theorem mul_ge {x y r : Nat} (hx : x < 9218868437227405312) (hy : y < 9218868437227405312) (h1 : 4607182418800017408 ≤ y) (h : FN .mul x y r) : x ≤ r ∧ r ≤ 9218868437227405312 := by
  obtain ⟨E, hE⟩ : ∃ E : Nat, E = 1074 := ⟨_, rfl⟩
  obtain ⟨mag, place, e, v, _⟩ := mul_bits E hE hx hy
  have hv : 2 ^ E ≤ rungVal y := by rw [← val_one_f E hE]; exact rungVal_le h1
  have hp : 0 < 2 ^ E := Nat.two_pow_pos E
  generalize (2 : Nat) ^ E = P at *
  obtain ⟨s, e2, s1, s2⟩ := near_ge false mag place x (by omega) (by
    have g : rungVal x * 2 ^ (-(place + 1074)).toNat * P ≤ mag * 2 ^ (place + 1074).toNat * P := by
      rw [v, Nat.mul_assoc, Nat.mul_comm (2 ^ (-(place + 1074)).toNat) P, ← Nat.mul_assoc]
      exact Nat.mul_le_mul_right _ (Nat.mul_le_mul_left _ hv)
    exact Nat.le_of_mul_le_mul_right g hp)
  rw [e2, word_pos] at e
  have := h.eq e
  omega

/-- A product of two that are at most 1. -/
theorem mul_le_one {x y r : Nat} (hx : x ≤ 4607182418800017408) (hy : y ≤ 4607182418800017408) (h : FN .mul x y r) : r ≤ 4607182418800017408 := by
  obtain ⟨E, hE⟩ : ∃ E : Nat, E = 1074 := ⟨_, rfl⟩
  obtain ⟨mag, place, e, v, _⟩ := mul_bits (x := x) (y := y) E hE (by omega) (by omega)
  have h1 : rungVal x ≤ 2 ^ E := by rw [← val_one_f E hE]; exact rungVal_le hx
  have h2 : rungVal y ≤ 2 ^ E := by rw [← val_one_f E hE]; exact rungVal_le hy
  have h3 := val_one_f E hE
  have hp : 0 < 2 ^ E := Nat.two_pow_pos E
  generalize (2 : Nat) ^ E = P at *
  obtain ⟨s, e2, s1, s2⟩ := near_le false mag place 4607182418800017408 (by
    have g : mag * 2 ^ (place + 1074).toNat * P ≤ rungVal 4607182418800017408 * 2 ^ (-(place + 1074)).toNat * P := by
      rw [v, h3, Nat.mul_right_comm P]
      exact Nat.mul_le_mul_right _ (Nat.mul_le_mul h1 h2)
    exact Nat.le_of_mul_le_mul_right g hp)
  rw [e2, word_pos] at e
  have := h.eq e
  omega

/-- 1 and what is at most 1. -/
theorem one_add {p r : Nat} (hp : p ≤ 4607182418800017408) (h : FN .add 4607182418800017408 p r) : 4607182418800017408 ≤ r ∧ r ≤ 4611686018427387904 := by
  obtain ⟨E, hE⟩ : ∃ E : Nat, E = 1074 := ⟨_, rfl⟩
  obtain ⟨mag, place, e, v, z⟩ := add_bits (x := 4607182418800017408) (y := p) (by omega) (by omega)
  have h1 : rungVal p ≤ 2 ^ E := by rw [← val_one_f E hE]; exact rungVal_le hp
  have h2 := val_one_f E hE
  have h3 := val_two_f E hE
  generalize (2 : Nat) ^ E = P at *
  rw [h2] at v
  obtain ⟨s, e2, s1, s2⟩ := near_ge false mag place 4607182418800017408 (by omega) (by rw [z, v, h2]; omega)
  obtain ⟨t, e3, t1, t2⟩ := near_le false mag place 4611686018427387904 (by rw [z, v, h3]; omega)
  rw [e3] at e2
  rw [word_pos, word_pos] at e2
  subst e2
  rw [e3, word_pos] at e
  have := h.eq e
  omega

/-- A quotient of a size by one that is not below it. -/
theorem quo_le {n m r : Nat} (hm : m < 9218868437227405312) (h0 : m ≠ 0) (hn : n ≤ m) (h : FN .quo n m r) : r ≤ 4607182418800017408 := by
  obtain ⟨E, hE⟩ : ∃ E : Nat, E = 1074 := ⟨_, rfl⟩
  obtain ⟨N, a, e1, v1⟩ := read_size (x := n) (by omega)
  obtain ⟨M, b, e2, v2⟩ := read_size hm
  have hle := rungVal_le hn
  have hM : M ≠ 0 := by
    intro e
    have := rungVal_lt (r := 0) (s := m) (by omega)
    rw [← v2, e] at this
    omega
  have hM0 : 0 < M := Nat.pos_of_ne_zero hM
  by_cases hN : N = 0
  · -- nought
    have e : floatBits .quo .f64 n m = some 0 := by
      show (((Ieee.double.read n).quotient _ (Ieee.double.read m)).map Ieee.double.write) = _
      rw [e1, e2, hN]
      simp only [Ieee.Datum.quotient, if_neg hM]
      simp [Ieee.Format.write, Ieee.Format.nearest, Ieee.Format.word]
    have := h.eq e
    omega
  · generalize hmore : 54 + M.log2 - N.log2 = more
    have e : floatBits .quo .f64 n m = some (Ieee.double.nearest false (2 * (N <<< more / M) + (N <<< more % M != 0).toNat) (-1074 + (a : Int) - (-1074 + (b : Int)) - (more : Int) - 1)) := by
      show (((Ieee.double.read n).quotient (52 + 2) (Ieee.double.read m)).map Ieee.double.write) = _
      rw [e1, e2]
      simp only [Ieee.Datum.quotient, if_neg hM]
      rw [hmore]
      rfl
    -- N 2^a is at most M 2^b, so there are bits enough
    rw [← v1, ← v2] at hle
    have lN : 2 ^ N.log2 ≤ N := Nat.log2_self_le hN
    have lM : M < 2 ^ (M.log2 + 1) := Nat.lt_log2_self
    have hlog : N.log2 + a < M.log2 + 1 + b := by
      have g1 : 2 ^ (N.log2 + a) ≤ N * 2 ^ a := by rw [Nat.pow_add]; exact Nat.mul_le_mul_right _ lN
      have g2 : M * 2 ^ b < 2 ^ (M.log2 + 1 + b) := by rw [Nat.pow_add]; exact Nat.mul_lt_mul_of_pos_right lM (Nat.two_pow_pos b)
      exact (Nat.pow_lt_pow_iff_right (by decide)).1 (Nat.lt_of_le_of_lt g1 (Nat.lt_of_lt_of_le (Nat.lt_of_le_of_lt hle g2) (Nat.le_refl _)))
    obtain ⟨c, hc⟩ : ∃ c : Nat, more + b = c + a := ⟨more + b - a, by omega⟩
    have hND : N <<< more ≤ M * 2 ^ c := by
      rw [Nat.shiftLeft_eq]
      have g : N * 2 ^ more * 2 ^ a ≤ M * 2 ^ c * 2 ^ a := by
        have e3 : N * 2 ^ more * 2 ^ a = N * 2 ^ a * 2 ^ more := Nat.mul_right_comm _ _ _
        have e4 : M * 2 ^ c * 2 ^ a = M * 2 ^ b * 2 ^ more := by rw [Nat.mul_assoc, Nat.mul_assoc, ← Nat.pow_add, ← Nat.pow_add, ← hc, Nat.add_comm b]
        rw [e3, e4]
        exact Nat.mul_le_mul_right _ hle
      exact Nat.le_of_mul_le_mul_right g (Nat.two_pow_pos a)
    have hq : 2 * (N <<< more / M) + (N <<< more % M != 0).toNat ≤ 2 * 2 ^ c := by
      have hdm := Nat.div_add_mod (N <<< more) M
      have hml := Nat.mod_lt (N <<< more) hM0
      generalize N <<< more = D at *
      generalize D / M = Q at *
      generalize D % M = R at *
      generalize 2 ^ c = C at *
      have hQ : Q ≤ C := by
        have : M * Q ≤ M * C := by omega
        exact Nat.le_of_mul_le_mul_left this hM0
      by_cases hR : R = 0
      · have : (R != 0).toNat = 0 := by simp [hR]
        omega
      · have hQ2 : Q < C := by
          rcases Nat.lt_or_eq_of_le hQ with g | g
          · exact g
          · exfalso; rw [g] at hdm; omega
        have : (R != 0).toNat = 1 := by simp [hR]
        omega
    obtain ⟨s, e5, s1, s2⟩ := near_le false (2 * (N <<< more / M) + (N <<< more % M != 0).toNat) (-1074 + (a : Int) - (-1074 + (b : Int)) - (more : Int) - 1) 4607182418800017408 (by
      rw [val_one_f E hE]
      generalize 2 * (N <<< more / M) + (N <<< more % M != 0).toNat = Z at hq
      by_cases hs : 1073 ≤ c
      · have t1 : (-1074 + (a : Int) - (-1074 + (b : Int)) - (more : Int) - 1 + 1074).toNat = 0 := by omega
        have t2 : (-(-1074 + (a : Int) - (-1074 + (b : Int)) - (more : Int) - 1 + 1074)).toNat = c - 1073 := by omega
        rw [t1, t2, Nat.pow_zero, Nat.mul_one, ← Nat.pow_add, show E + (c - 1073) = c + 1 by omega, Nat.pow_succ]
        omega
      · have t1 : (-1074 + (a : Int) - (-1074 + (b : Int)) - (more : Int) - 1 + 1074).toNat = 1073 - c := by omega
        have t2 : (-(-1074 + (a : Int) - (-1074 + (b : Int)) - (more : Int) - 1 + 1074)).toNat = 0 := by omega
        rw [t1, t2, Nat.pow_zero, Nat.mul_one]
        have e6 : (2 : Nat) ^ E = 2 * 2 ^ c * 2 ^ (1073 - c) := by
          rw [Nat.mul_assoc, ← Nat.pow_add, ← Nat.pow_succ']
          congr 1
          omega
        rw [e6]
        exact Nat.mul_le_mul_right _ hq)
    rw [e5, word_pos] at e
    have := h.eq e
    omega

end Go.Proofs.YtabkgpnckaaclaaGreatDoor

/- The root of what lies from 1 to 2; products by at most one and a half; products in the other order, of opposites. Nothing here speaks of the program. -/
namespace Go.Proofs.YtabkgpnckaaclaaGreatDoor

theorem rootFrom_spec (n : Nat) : ∀ (todo root : Nat), root * root ≤ n → n < (root + 2 ^ todo) * (root + 2 ^ todo) → Ieee.Datum.rootFrom n todo root * Ieee.Datum.rootFrom n todo root ≤ n ∧ n < (Ieee.Datum.rootFrom n todo root + 1) * (Ieee.Datum.rootFrom n todo root + 1)
  | 0, root, h1, h2 => ⟨h1, by simpa [Ieee.Datum.rootFrom] using h2⟩
  | todo + 1, root, h1, h2 => by
    have e : 2 ^ (todo + 1) = 2 ^ todo + 2 ^ todo := by rw [Nat.pow_succ]; omega
    unfold Ieee.Datum.rootFrom
    simp only [Nat.shiftLeft_eq, Nat.one_mul]
    by_cases h : (root + 2 ^ todo) * (root + 2 ^ todo) ≤ n
    · rw [if_pos h]
      exact rootFrom_spec n todo _ h (by rw [e, ← Nat.add_assoc] at h2; exact h2)
    · rw [if_neg h]
      exact rootFrom_spec n todo _ h1 (by omega)

theorem root_spec (n : Nat) (_h0 : n ≠ 0) : ∃ r, Ieee.Datum.rootFrom n (n.log2 / 2 + 1) 0 = r ∧ r * r ≤ n ∧ n < (r + 1) * (r + 1) := by
  refine ⟨_, rfl, rootFrom_spec n _ 0 (by omega) ?_⟩
  rw [Nat.zero_add, ← Nat.pow_add]
  have h1 : n < 2 ^ (n.log2 + 1) := Nat.lt_log2_self
  have h2 : 2 ^ (n.log2 + 1) ≤ 2 ^ (n.log2 / 2 + 1 + (n.log2 / 2 + 1)) := Nat.pow_le_pow_right (by decide) (by omega)
  omega

theorem sqrt_between {s t : Nat} (h1 : 4607182418800017408 ≤ s) (h2 : s ≤ 4611686018427387904) (h : FQ s t) : 4607182418800017408 ≤ t ∧ t ≤ 4609434218613702656 := by
  obtain ⟨E, hE⟩ : ∃ E : Nat, E = 1074 := ⟨_, rfl⟩
  obtain ⟨m, a, e1, v1⟩ := read_size (x := s) (by omega)
  have g1 : 2 ^ E ≤ m * 2 ^ a := by rw [v1, ← val_one_f E hE]; exact rungVal_le h1
  have g2 : m * 2 ^ a ≤ 2 * 2 ^ E := by rw [v1, ← val_two_f E hE]; exact rungVal_le h2
  have hm : m ≠ 0 := by
    rintro rfl
    have := Nat.two_pow_pos E
    omega
  have hlo : 2 ^ m.log2 ≤ m := Nat.log2_self_le hm
  have hal : m.log2 + a ≤ E + 1 := by
    have k1 : 2 ^ (m.log2 + a) ≤ 2 ^ (E + 1) := by
      rw [Nat.pow_add, Nat.pow_succ, Nat.mul_comm (2 ^ E) 2]
      exact Nat.le_trans (Nat.mul_le_mul_right _ hlo) g2
    exact (Nat.pow_le_pow_iff_right (by decide)).1 k1
  obtain ⟨more, hmore⟩ : ∃ more : Nat, 108 - m.log2 + ((-1074 + (a : Int) - ((108 - m.log2 : Nat) : Int)) % 2).toNat = more := ⟨_, rfl⟩
  obtain ⟨hh, hhh⟩ : ∃ hh : Nat, more + E = 2 * hh + a := ⟨(more + E - a) / 2, by omega⟩
  have hn0 : m <<< more ≠ 0 := by rw [Nat.shiftLeft_eq]; exact Nat.mul_ne_zero hm (Nat.ne_of_gt (Nat.two_pow_pos more))
  obtain ⟨r, er, r1, r2⟩ := root_spec (m <<< more) hn0
  have e : Ieee.double.sqrt s = some (Ieee.double.nearest false (2 * r + (r * r != m <<< more).toNat) (-(hh : Int) - 1)) := by
    show ((Ieee.double.read s).root (52 + 2)).map Ieee.double.write = _
    rw [e1]
    simp only [Ieee.Datum.root, if_neg hm, Bool.false_eq_true, if_false]
    rw [show 2 * (52 + 2) = 108 from rfl, hmore, er]
    simp only [Option.map, Ieee.Format.write]
    congr 2
    omega
  -- the shifted number lies from 4^hh to twice that
  have n1 : 2 ^ (2 * hh) ≤ m <<< more := by
    rw [Nat.shiftLeft_eq]
    have k : 2 ^ (2 * hh) * 2 ^ a ≤ m * 2 ^ more * 2 ^ a := by
      rw [← Nat.pow_add, ← hhh, Nat.pow_add, Nat.mul_right_comm m, Nat.mul_comm (2 ^ more)]
      exact Nat.mul_le_mul_right _ g1
    exact Nat.le_of_mul_le_mul_right k (Nat.two_pow_pos a)
  have n2 : m <<< more ≤ 2 * 2 ^ (2 * hh) := by
    rw [Nat.shiftLeft_eq]
    have k : m * 2 ^ more * 2 ^ a ≤ 2 * 2 ^ (2 * hh) * 2 ^ a := by
      rw [Nat.mul_assoc 2, ← Nat.pow_add, ← hhh, Nat.pow_add, Nat.mul_right_comm m, Nat.mul_comm (2 ^ more), ← Nat.mul_assoc]
      exact Nat.mul_le_mul_right _ g2
    exact Nat.le_of_mul_le_mul_right k (Nat.two_pow_pos a)
  have hq : 2 ^ (2 * hh) = 2 ^ hh * 2 ^ hh := by rw [← Nat.pow_add]; congr 1; omega
  have hC := Nat.two_pow_pos hh
  generalize m <<< more = n at *
  rw [hq] at n1 n2
  have q1 : 2 ^ hh ≤ r := by
    by_cases c : 2 ^ hh ≤ r
    · exact c
    · exfalso
      have : (r + 1) * (r + 1) ≤ 2 ^ hh * 2 ^ hh := Nat.mul_le_mul (by omega) (by omega)
      omega
  have q2 : 2 * r + 1 ≤ 3 * 2 ^ hh := by
    by_cases c : 2 * r + 1 ≤ 3 * 2 ^ hh
    · exact c
    · exfalso
      generalize 2 ^ hh = C at *
      have k1 : (3 * C) * (3 * C) ≤ (2 * r) * (2 * r) := Nat.mul_le_mul (by omega) (by omega)
      have k2 : (3 * C) * (3 * C) = 9 * (C * C) := by rw [Nat.mul_mul_mul_comm]
      have k3 : (2 * r) * (2 * r) = 4 * (r * r) := by rw [Nat.mul_mul_mul_comm]
      have k4 : 0 < C * C := Nat.mul_pos hC hC
      omega
  obtain ⟨Z, hZ⟩ : ∃ Z, 2 * r + (r * r != n).toNat = Z := ⟨_, rfl⟩
  have z1 : 2 * 2 ^ hh ≤ Z := by omega
  have z2 : Z ≤ 3 * 2 ^ hh := by
    have : (r * r != n).toNat ≤ 1 := by cases (r * r != n) <;> decide
    omega
  rw [hZ] at e
  have place : ∀ P Q : Nat, (-(hh : Int) - 1 + 1074).toNat = P → (-(-(hh : Int) - 1 + 1074)).toNat = Q → 2 ^ E * 2 ^ Q = 2 * 2 ^ hh * 2 ^ P := by
    intro P Q hP hQ
    rw [← Nat.pow_succ', ← Nat.pow_add, ← Nat.pow_add]
    congr 1
    omega
  have pl := place _ _ rfl rfl
  have hone := val_one_f E hE
  have hhalf := val_half3 E hE
  obtain ⟨u, e2, u1, u2⟩ := near_ge false Z (-(hh : Int) - 1) 4607182418800017408 (by decide) (by
    have k := Nat.mul_le_mul_right (2 ^ (-(hh : Int) - 1 + 1074).toNat) z1
    rw [← pl, ← hone] at k
    exact k)
  clear hone
  obtain ⟨x, e3, x1, x2⟩ := near_le false Z (-(hh : Int) - 1) 4609434218613702656 (by
    generalize 2 ^ (-(hh : Int) - 1 + 1074).toNat = P at *
    generalize 2 ^ (-(-(hh : Int) - 1 + 1074)).toNat = Q at *
    generalize 2 ^ E = F at *
    generalize 2 ^ hh = C at *
    have k1 : Z * P ≤ 3 * C * P := Nat.mul_le_mul_right _ z2
    have k2 : rungVal 4609434218613702656 * Q * 2 = 3 * (F * Q) := by rw [Nat.mul_right_comm, hhalf, Nat.mul_assoc]
    rw [pl] at k2
    have k3 : 3 * (2 * C * P) = 3 * C * P * 2 := by ac_rfl
    generalize rungVal 4609434218613702656 * Q = TQ at *
    clear hhalf
    omega)
  clear hhalf
  rw [e3] at e2
  rw [word_pos, word_pos] at e2
  subst e2
  rw [e3, word_pos] at e
  have := h.eq e
  omega

/-- What is less is not rounded to more. -/
theorem near_mono (n1 n2 : Bool) (m1 : Nat) (p1 : Int) (m2 : Nat) (p2 : Int) (h1 : m1 ≠ 0) (h2 : m2 ≠ 0)
    (h : m1 * 2 ^ (p1 + 1074).toNat * 2 ^ (-(p2 + 1074)).toNat < m2 * 2 ^ (p2 + 1074).toNat * 2 ^ (-(p1 + 1074)).toNat) :
    ∃ s1 s2, Ieee.double.nearest n1 m1 p1 = Ieee.double.word n1 s1 ∧ Ieee.double.nearest n2 m2 p2 = Ieee.double.word n2 s2 ∧ s1 ≤ s2 ∧ s2 ≤ 9218868437227405312 := by
  obtain ⟨s1, e1, l1, _, b1⟩ := near_mid n1 m1 p1 h1
  obtain ⟨s2, e2, l2, a2, _⟩ := near_mid n2 m2 p2 h2
  refine ⟨s1, s2, e1, e2, ?_, l2⟩
  by_cases c : s1 ≤ s2
  · exact c
  · exfalso
    have b := b1 (by omega)
    have a := a2 (by omega)
    have k1 : rungVal s2 + rungVal (s2 + 1) ≤ rungVal (s1 - 1) + rungVal s1 := Nat.add_le_add (rungVal_le (by omega)) (rungVal_le (by omega))
    generalize rungVal s2 + rungVal (s2 + 1) = X at *
    generalize rungVal (s1 - 1) + rungVal s1 = Y at *
    generalize m1 * 2 ^ (p1 + 1074).toNat = A1 at *
    generalize m2 * 2 ^ (p2 + 1074).toNat = A2 at *
    have hB1 := Nat.two_pow_pos (-(p1 + 1074)).toNat
    generalize 2 ^ (-(p1 + 1074)).toNat = B1 at *
    generalize 2 ^ (-(p2 + 1074)).toNat = B2 at *
    have k2 : 2 * A2 * B1 ≤ X * B2 * B1 := Nat.mul_le_mul_right _ a
    have k3 : X * B2 * B1 ≤ Y * B2 * B1 := Nat.mul_le_mul_right _ (Nat.mul_le_mul_right _ k1)
    have k4 : Y * B1 * B2 ≤ 2 * A1 * B2 := Nat.mul_le_mul_right _ b
    have k5 : Y * B2 * B1 = Y * B1 * B2 := Nat.mul_right_comm _ _ _
    rw [Nat.mul_assoc 2] at k2 k4
    omega

theorem product_comm (d c : Ieee.Datum) : d.product c = c.product d := by
  cases d <;> cases c <;> simp [Ieee.Datum.product, Bool.xor_comm, Nat.mul_comm, Int.add_comm]
theorem mul_comm_bits (x y : Nat) : floatBits .mul .f64 x y = floatBits .mul .f64 y x := by
  show ((Ieee.double.read x).product (Ieee.double.read y)).map _ = ((Ieee.double.read y).product (Ieee.double.read x)).map _
  rw [product_comm]
theorem sum_comm (d c : Ieee.Datum) : d.sum c = c.sum d := by
  cases d with
  | nan s f => cases c <;> rfl
  | infinity s =>
    cases c with
    | nan t f => rfl
    | infinity t =>
      simp only [Ieee.Datum.sum]
      by_cases h : s = t
      · subst h; rfl
      · rw [if_neg h, if_neg (fun e => h e.symm)]
    | number t m i => rfl
  | number s m i =>
    cases c with
    | nan t f => rfl
    | infinity t => rfl
    | number t n j => simp only [Ieee.Datum.sum]; rw [Int.min_comm j i, Int.add_comm (Ieee.signed t n _), Bool.and_comm t s]
theorem add_comm_bits (x y : Nat) : floatBits .add .f64 x y = floatBits .add .f64 y x := by
  show ((Ieee.double.read x).sum (Ieee.double.read y)).map _ = ((Ieee.double.read y).sum (Ieee.double.read x)).map _
  rw [sum_comm]
theorem FN.mulComm {x y r : Nat} (h : FN .mul x y r) : FN .mul y x r := ⟨h.1, by rw [mul_comm_bits]; exact h.2⟩
theorem FN.addComm {x y r : Nat} (h : FN .add x y r) : FN .add y x r := ⟨h.1, by rw [add_comm_bits]; exact h.2⟩

/-- At most one and a half times. -/
theorem mul_le_half3 {m t r r' : Nat} (hm : m < 9218868437227405312) (h1 : 4607182418800017408 ≤ t) (h2 : t ≤ 4609434218613702656) (h : FN .mul m t r) (h' : FN .mul 4609434218613702656 m r') : r ≤ r' ∧ r' ≤ 9218868437227405312 := by
  obtain ⟨E, hE⟩ : ∃ E : Nat, E = 1074 := ⟨_, rfl⟩
  obtain ⟨m2, p2, e2, v2, z2⟩ := mul_bits (x := 4609434218613702656) (y := m) E hE (by omega) hm
  by_cases ht : t = 4609434218613702656
  · subst ht
    rcases h.al h'.mulComm (.refl _) (.refl _) with rfl | ⟨n1, n2⟩
    · refine ⟨Nat.le_refl _, ?_⟩
      have e3 := h'.eq e2
      obtain ⟨s, e4, s1, _⟩ := near_ge false m2 p2 0 (by omega) (by rw [show rungVal 0 = 0 from rfl]; omega)
      rw [e4, word_pos] at e3
      omega
    · have e3 := h'.eq e2
      obtain ⟨s, e4, s1, _⟩ := near_ge false m2 p2 0 (by omega) (by rw [show rungVal 0 = 0 from rfl]; omega)
      rw [e4, word_pos] at e3
      subst e3
      rw [isnan_iff] at n2
      omega
  · obtain ⟨m1, p1, e1, v1, z1⟩ := mul_bits (x := m) (y := t) E hE hm (by omega)
    have r1 := h.eq e1
    have r2 := h'.eq e2
    have hvt : rungVal t < rungVal 4609434218613702656 := rungVal_lt (by omega)
    have hvt0 : 0 < rungVal t := Nat.lt_of_le_of_lt (Nat.zero_le _) (rungVal_lt (r := 0) (s := t) (by omega))
    by_cases h0 : m = 0
    · have q : m1 = 0 := z1.2 (by rw [h0]; show rungVal 0 * _ = 0; rw [show rungVal 0 = 0 from rfl, Nat.zero_mul])
      rw [q] at r1
      simp [Ieee.Format.nearest, word_pos] at r1
      obtain ⟨s, e4, s1, _⟩ := near_ge false m2 p2 0 (by omega) (by rw [show rungVal 0 = 0 from rfl]; omega)
      rw [e4, word_pos] at r2
      omega
    · have hvm : 0 < rungVal m := Nat.lt_of_le_of_lt (Nat.zero_le _) (rungVal_lt (r := 0) (s := m) (by omega))
      have q1 : m1 ≠ 0 := fun e => by have := z1.1 e; have := Nat.mul_pos hvm hvt0; omega
      have q2 : m2 ≠ 0 := fun e => by have := z2.1 e; have := Nat.mul_pos (Nat.lt_of_lt_of_le hvt0 (Nat.le_of_lt hvt)) hvm; omega
      obtain ⟨s1, s2, f1, f2, hs, hi⟩ := near_mono false false m1 p1 m2 p2 q1 q2 (by
        have hP := Nat.two_pow_pos E
        have hB1 := Nat.two_pow_pos (-(p1 + 1074)).toNat
        have hB2 := Nat.two_pow_pos (-(p2 + 1074)).toNat
        generalize m1 * 2 ^ (p1 + 1074).toNat = A1 at *
        generalize m2 * 2 ^ (p2 + 1074).toNat = A2 at *
        generalize 2 ^ (-(p1 + 1074)).toNat = B1 at *
        generalize 2 ^ (-(p2 + 1074)).toNat = B2 at *
        generalize 2 ^ E = P at *
        generalize rungVal 4609434218613702656 = T at *
        generalize rungVal t = X at *
        generalize rungVal m = M at *
        have k : A1 * B2 * P < A2 * B1 * P := by
          rw [Nat.mul_right_comm A1, v1, Nat.mul_right_comm A2, v2, Nat.mul_comm T M, Nat.mul_right_comm (M * T)]
          exact Nat.mul_lt_mul_of_pos_right (Nat.mul_lt_mul_of_pos_right (Nat.mul_lt_mul_of_pos_left hvt hvm) hB1) hB2
        exact Nat.lt_of_mul_lt_mul_right k)
      rw [f1, word_pos] at r1
      rw [f2, word_pos] at r2
      omega

theorem MulR_swap {a b c d x y u v re im x' y' u' v' re' im' : Nat} (h1 : FN .mul a c x) (h2 : FN .mul b d y) (h3 : FN .sub x y re) (h4 : FN .mul a d u) (h5 : FN .mul b c v) (h6 : FN .add u v im)
    (g1 : FN .mul c a x') (g2 : FN .mul d b y') (g3 : FN .sub x' y' re') (g4 : FN .mul c b u') (g5 : FN .mul d a v') (g6 : FN .add u' v' im') : Al re re' ∧ Al im im' :=
  ⟨h3.al g3 (h1.al g1.mulComm (.refl _) (.refl _)) (h2.al g2.mulComm (.refl _) (.refl _)), h6.al g6.addComm (h4.al g5.mulComm (.refl _) (.refl _)) (h5.al g4.mulComm (.refl _) (.refl _))⟩

end Go.Proofs.YtabkgpnckaaclaaGreatDoor

/- Opposites: of products, of sums; the conjugate of a product. Nothing here speaks of the program. -/
namespace Go.Proofs.YtabkgpnckaaclaaGreatDoor

/-- The other sign, by the bits. -/
def fopp (x : Nat) : Nat := x ^^^ 9223372036854775808
theorem fopp_low {x : Nat} (h : x < 9223372036854775808) : fopp x = 9223372036854775808 + x := by
  have e := nat_join 63 9223372036854775808 x (by decide) h
  unfold fopp
  have e2 : x ^^^ 9223372036854775808 = 9223372036854775808 ||| x := by
    apply Nat.eq_of_testBit_eq
    intro i
    rw [Nat.testBit_xor, Nat.testBit_or, show (9223372036854775808 : Nat) = 2 ^ 63 from rfl, Nat.testBit_two_pow]
    by_cases hi : 63 = i
    · subst hi
      rw [Nat.testBit_lt_two_pow h]; simp
    · simp [hi]
  rw [e2, e]
theorem fopp_fopp (x : Nat) : fopp (fopp x) = x := by unfold fopp; rw [Nat.xor_assoc, Nat.xor_self, Nat.xor_zero]
theorem fopp_high {x : Nat} (h : x < 18446744073709551616) (h1 : 9223372036854775808 ≤ x) : fopp x = x - 9223372036854775808 := by
  have e := fopp_low (x := x - 9223372036854775808) (by omega)
  rw [show 9223372036854775808 + (x - 9223372036854775808) = x by omega] at e
  rw [← e, fopp_fopp]
  omega
theorem fopp_mod {x : Nat} (h : x < 18446744073709551616) : fopp x % 9223372036854775808 = x % 9223372036854775808 ∧ fopp x < 18446744073709551616 := by
  by_cases h1 : x < 9223372036854775808
  · rw [fopp_low h1]; omega
  · rw [fopp_high h (by omega)]; omega
theorem isnan_fopp {x : Nat} (h : x < 18446744073709551616) : isnan (fopp x) = isnan x := by unfold isnan; rw [(fopp_mod h).1]

theorem read_fopp {x : Nat} (h : x < 18446744073709551616) : Ieee.double.read (fopp x) = (Ieee.double.read x).opposite := by
  have hm := (fopp_mod h).1
  have hs : (fopp x / 9223372036854775808 % 2 == 1) = !(x / 9223372036854775808 % 2 == 1) := by
    by_cases h1 : x < 9223372036854775808
    · rw [fopp_low h1, show (9223372036854775808 + x) / 9223372036854775808 = 1 by omega, show x / 9223372036854775808 = 0 by omega]; rfl
    · rw [fopp_high h (by omega), show (x - 9223372036854775808) / 9223372036854775808 = 0 by omega, show x / 9223372036854775808 = 1 by omega]; rfl
  unfold Ieee.Format.read
  simp only [dbl_sign, dbl_inf, dbl_binade]
  rw [hm, hs]
  split
  · rfl
  split
  · rfl
  split
  · rfl
  · rfl

theorem word_opp (s : Bool) (r : Nat) (h : r ≤ 9218868437227405312) : Ieee.double.word (!s) r = fopp (Ieee.double.word s r) := by
  have e := fopp_low (x := r) (by omega)
  cases s
  · show Ieee.double.signWeight + r = fopp r
    rw [dbl_sign, e]
  · show r = fopp (Ieee.double.signWeight + r)
    rw [dbl_sign, ← e, fopp_fopp]
theorem nearest_opp (s : Bool) (m : Nat) (i : Int) : Ieee.double.nearest (!s) m i = fopp (Ieee.double.nearest s m i) := by
  by_cases h0 : m = 0
  · subst h0
    simp only [Ieee.Format.nearest, if_true]
    exact word_opp s 0 (by omega)
  · unfold Ieee.Format.nearest
    rw [if_neg h0, if_neg h0]
    have hc : ∀ n d, Ieee.Toward.even.cut (!s) n d = Ieee.Toward.even.cut s n d := fun n d => rfl
    simp only [hc]
    refine word_opp s _ ?_
    rw [dbl_inf]
    exact Nat.min_le_right _ _
theorem write_opp (d : Ieee.Datum) (h : d.isNaN = false) : Ieee.double.write d.opposite = fopp (Ieee.double.write d) := by
  cases d with
  | nan s f => cases h
  | infinity s => exact word_opp s _ (by rw [dbl_inf]; omega)
  | number s m i => exact nearest_opp s m i

theorem product_opp_r (d c : Ieee.Datum) : d.product c.opposite = (d.product c).map Ieee.Datum.opposite := by
  cases d with
  | nan s f => cases c <;> rfl
  | infinity s =>
    cases c with
    | nan t f => rfl
    | infinity t => cases s <;> cases t <;> rfl
    | number t n j =>
      simp only [Ieee.Datum.opposite, Ieee.Datum.product]
      by_cases h : n = 0
      · rw [if_pos h, if_pos h]; rfl
      · rw [if_neg h, if_neg h]; cases s <;> cases t <;> rfl
  | number s m i =>
    cases c with
    | nan t f => rfl
    | infinity t =>
      simp only [Ieee.Datum.opposite, Ieee.Datum.product]
      by_cases h : m = 0
      · rw [if_pos h, if_pos h]; rfl
      · rw [if_neg h, if_neg h]; cases s <;> cases t <;> rfl
    | number t n j => cases s <;> cases t <;> rfl
theorem product_notnan {d c p : Ieee.Datum} (h : d.product c = some p) : p.isNaN = false := by
  cases d with
  | nan s f => cases c <;> cases h
  | infinity s =>
    cases c with
    | nan t f => cases h
    | infinity t => cases h; rfl
    | number t n j =>
      simp only [Ieee.Datum.product] at h
      split at h
      · cases h
      · cases h; rfl
  | number s m i =>
    cases c with
    | nan t f => cases h
    | infinity t =>
      simp only [Ieee.Datum.product] at h
      split at h
      · cases h
      · cases h; rfl
    | number t n j => cases h; rfl
theorem mul_opp_r (a : Nat) {d : Nat} (hd : d < 18446744073709551616) : floatBits .mul .f64 a (fopp d) = (floatBits .mul .f64 a d).map fopp := by
  show ((Ieee.double.read a).product (Ieee.double.read (fopp d))).map Ieee.double.write = (((Ieee.double.read a).product (Ieee.double.read d)).map Ieee.double.write).map fopp
  rw [read_fopp hd, product_opp_r]
  cases h : (Ieee.double.read a).product (Ieee.double.read d) with
  | none => rfl
  | some p => show some _ = some _; rw [write_opp p (product_notnan h)]
theorem mul_opp_two {b d : Nat} (hb : b < 18446744073709551616) (hd : d < 18446744073709551616) : floatBits .mul .f64 (fopp b) (fopp d) = floatBits .mul .f64 b d := by
  rw [mul_opp_r _ hd, mul_comm_bits, mul_opp_r _ hb, mul_comm_bits d b]
  cases floatBits .mul .f64 b d with
  | none => rfl
  | some r => show some _ = some _; rw [fopp_fopp]

/-- Opposites, or both NaN. -/
def Ng (x y : Nat) : Prop := y = fopp x ∨ (isnan x = true ∧ isnan y = true)
theorem mul_ng {a d u u' : Nat} (hd : d < 18446744073709551616) (h : FN .mul a d u) (h' : FN .mul a (fopp d) u') : Ng u u' := by
  have e := mul_opp_r a hd
  rcases h.2 with g | ⟨g, k⟩
  · rw [g] at e
    exact .inl (h'.eq e)
  · rw [g] at e
    rcases h'.2 with g' | ⟨_, k'⟩
    · rw [e] at g'; cases g'
    · exact .inr ⟨k, k'⟩

theorem zero_eq (s t : Bool) : FloatKind.f64.format.order (Ieee.double.word s 0) (Ieee.double.word t 0) = some .eq := by cases s <;> cases t <;> decide
theorem signed_not (s : Bool) (m k : Nat) : Ieee.signed (!s) m k = -Ieee.signed s m k := by
  cases s
  · rfl
  · simp [Ieee.signed]
theorem add_ng {u v u' v' r r' : Nat} (hu : u < 18446744073709551616) (hv : v < 18446744073709551616) (h : FN .add u v r) (h' : FN .add u' v' r') (n1 : Ng u u') (n2 : Ng v v') (k : isnan r = false) (k' : isnan r' = false) :
    (FloatKind.f64.format.order (fopp r) r' == some .eq) = true := by
  have none_bad : floatBits .add .f64 u v = none → False := fun e => by
    rcases h.2 with g | ⟨_, g⟩
    · rw [e] at g; cases g
    · rw [k] at g; cases g
  rcases n1 with rfl | ⟨m1, _⟩
  · rcases n2 with rfl | ⟨m2, _⟩
    · have same : ∀ _z : Nat, r' = fopp r → (FloatKind.f64.format.order (fopp r) r' == some .eq) = true := fun _ e => by
        rw [e, order_refl (by rw [← e]; exact k')]; rfl
      have er : ∃ d, (Ieee.double.read u).sum (Ieee.double.read v) = some d ∧ r = Ieee.double.write d := by
        cases hd : (Ieee.double.read u).sum (Ieee.double.read v) with
        | none => exact absurd (show floatBits .add .f64 u v = none from (by show ((Ieee.double.read u).sum (Ieee.double.read v)).map _ = none; rw [hd]; rfl)) none_bad
        | some d => exact ⟨d, rfl, h.eq (show ((Ieee.double.read u).sum (Ieee.double.read v)).map _ = _ by rw [hd]; rfl)⟩
      obtain ⟨d, hd, er⟩ := er
      have ef : ∀ d', (Ieee.double.read u).opposite.sum (Ieee.double.read v).opposite = some d' → r' = Ieee.double.write d' := fun d' e => h'.eq (show ((Ieee.double.read (fopp u)).sum (Ieee.double.read (fopp v))).map _ = _ by rw [read_fopp hu, read_fopp hv, e]; rfl)
      cases hx : Ieee.double.read u with
      | nan s f => rw [hx] at hd; cases hy : Ieee.double.read v <;> rw [hy] at hd <;> cases hd
      | infinity s =>
        cases hy : Ieee.double.read v with
        | nan t f => rw [hx, hy] at hd; cases hd
        | infinity t =>
          rw [hx, hy] at hd ef
          simp only [Ieee.Datum.sum] at hd
          split at hd
          · rename_i hst
            subst hst
            cases hd
            exact same 0 (by rw [ef (.infinity (!s)) (by simp [Ieee.Datum.opposite, Ieee.Datum.sum]), er]; exact write_opp (.infinity s) rfl)
          · cases hd
        | number t n j =>
          rw [hx, hy] at hd ef
          cases hd
          exact same 0 (by rw [ef (.infinity (!s)) rfl, er]; exact write_opp (.infinity s) rfl)
      | number s m i =>
        cases hy : Ieee.double.read v with
        | nan t f => rw [hx, hy] at hd; cases hd
        | infinity t =>
          rw [hx, hy] at hd ef
          cases hd
          exact same 0 (by rw [ef (.infinity (!t)) rfl, er]; exact write_opp (.infinity t) rfl)
        | number t n j =>
          rw [hx, hy] at hd ef
          simp only [Ieee.Datum.sum] at hd
          have ef2 := ef _ rfl
          simp only [signed_not] at ef2
          cases hd
          generalize Ieee.signed s m (i - min i j).toNat = S at *
          generalize Ieee.signed t n (j - min i j).toNat = T at *
          by_cases hz : S + T = 0
          · have hz2 : -S + -T = 0 := by omega
            rw [hz, if_pos rfl] at er
            rw [hz2, if_pos rfl] at ef2
            have w0 : ∀ b : Bool, Ieee.double.write (.number b (Int.natAbs 0) (min i j)) = Ieee.double.word b 0 := fun b => by simp [Ieee.Format.write, Ieee.Format.nearest]
            rw [w0] at er ef2
            rw [er, ef2, ← word_opp _ 0 (by omega), zero_eq]
            rfl
          · have hz2 : ¬ (-S + -T = 0) := by omega
            rw [if_neg hz] at er
            rw [if_neg hz2] at ef2
            have e1 : (-S + -T).natAbs = (S + T).natAbs := by omega
            have e2 : decide (-S + -T < 0) = !decide (S + T < 0) := by
              by_cases hp : S + T < 0
              · rw [decide_eq_true hp, decide_eq_false (by omega)]; rfl
              · rw [decide_eq_false hp, decide_eq_true (by omega)]; rfl
            rw [e1, e2] at ef2
            exact same 0 (by rw [ef2, er]; exact nearest_opp _ _ _)
    · exact absurd (fb_nan_r m2) none_bad
  · exact absurd (fb_nan_l m1) none_bad

end Go.Proofs.YtabkgpnckaaclaaGreatDoor

/- real.Nearest, of every fraction. -/
namespace Go.Proofs.YtabkgpnckaaclaaGreatDoor
open Go.RowKit
set_option linter.unusedVariables false

/-- The least float is 2 to the power -zP. -/
def zP : Nat := 1074
/-- What Nearest tells of a fraction: its float and the error. -/
def NrT (n : Bool) (xs ys : List Int) (x : Nat) (code : Int) : Prop :=
  (rchk n xs ys ≠ 0 ∧ x = 0 ∧ code = rchk n xs ys) ∨ (rchk n xs ys = 0 ∧ ∃ X Y s : Nat, val xs = X ∧ val ys = Y ∧ 0 < Y ∧ Mid (X * 2 ^ zP) Y s ∧ ((s = 9218868437227405312 ∧ x = 0 ∧ code = 9) ∨ (s < 9218868437227405312 ∧ code = 0 ∧ x = (if n = true ∧ 0 < s then s + 9223372036854775808 else s))))

theorem mid_nought {Y : Nat} (hY : 0 < Y) : Mid (0 * 2 ^ zP) Y 0 := by
  rw [Nat.zero_mul]
  refine ⟨by decide, fun _ => by omega, fun g => by omega, fun _ _ => rfl, fun g => by omega⟩
theorem inf_not_fin : fin 9218868437227405312 = false := by decide
theorem mid_fin {A D s : Nat} (h : Mid A D s) (hs : s ≠ 9218868437227405312) : fin s = true ∧ s < 9218868437227405312 := by
  have := h.top
  exact ⟨(fin_iff s).2 (by omega), by omega⟩
theorem order_above {s : Nat} (h : s < 9218868437227405312) : FloatKind.f64.format.order s 0 = some (compare s 0) := order_pos (by omega) (by omega)
theorem f_gt_zero (s : Nat) (h : s < 9218868437227405312) : (FloatKind.f64.format.order s 0 == some .gt) = decide (0 < s) := by
  rw [order_above h]
  rcases Nat.eq_zero_or_pos s with g | g
  · subst g; decide
  · have : compare s 0 = .gt := Nat.compare_eq_gt.2 g
    rw [this]; simp [g]

theorem fneg_pos {s : Nat} (h : s < 9223372036854775808) : fneg s = s + 9223372036854775808 := by
  have e : fneg s = fopp s := rfl
  rw [e, fopp_low h]; omega

set_option maxHeartbeats 1600000 in
set_option maxRecDepth 100000 in
theorem nearest_any (n : Bool) (v : Value) (xs : List Int) (u : Value) (ys : List Int) (w : World) (h1 : Sl w v xs) (h2 : Sl w u ys) :
    Calls Tryz.prog 9 #[.agg #[.bool n, v, u]] w fun e w' => ∃ x code, e = .returned (.tuple #[.float .f64 x, .int .i64 code]) ∧ NrT n xs ys x code ∧ Below w.heap.size w w' := by
  obtain ⟨a, cap, rfl, hrx⟩ := h1
  obtain ⟨b, cap', rfl, hry⟩ := h2
  obtain ⟨X1, hX1⟩ : ∃ X1, w.alloc (.cells #[.bool n, .slice a xs.length cap, .slice b ys.length cap'] 25) = X1 := ⟨_, rfl⟩
  have b1 : Below w.heap.size w X1 := by rw [← hX1]; exact alloc_later _ _
  have hB1 : Box X1 w.heap.size 25 #[.bool n, .slice a xs.length cap, .slice b ys.length cap'] := by rw [← hX1]; exact Box.made w _ _
  have e0 : X1.cell? ⟨w.heap.size, 0, none⟩ = some (.bool n) := hB1.cell 0
  have e1 : X1.cell? ⟨w.heap.size, 1, none⟩ = some (.slice a xs.length cap) := hB1.cell 1
  have e2 : X1.cell? ⟨w.heap.size, 2, none⟩ = some (.slice b ys.length cap') := hB1.cell 2
  have HB1 := hid b1
  have HBX := hid hB1
  have HCK := hid (rcheck_any n _ xs _ ys X1 ⟨a, cap, rfl, hrx.later b1 b1.size⟩ ⟨b, cap', rfl, hry.later b1 b1.size⟩)
  have HRX := hid hrx
  have HRY := hid hry
  obtain ⟨ck, hck⟩ : ∃ ck, rchk n xs ys = ck := ⟨_, rfl⟩
  have HK := hid hck
  rw [hck] at HCK
  clear hrx hry b1 hB1 hck
  by_cases hz : ck = 0
  · subst hz
    obtain ⟨lx, ly, tx, ty, hy0, hs, hg⟩ := rchk_ok HK.out
    have hYv : 0 < val ys := by
      have e : 0 < sz ys := by rw [show sz ys = ys.length from ty]; exact hy0
      have h := (bits_bounds HRY.out.2.1 e).2.1
      have := two_pos (bitsOf ys - 1)
      omega
    obtain ⟨Y, hY⟩ := Int.eq_ofNat_of_zero_le (Int.le_of_lt hYv)
    have hY0 : 0 < Y := by omega
    by_cases hx : xs = []
    · subst hx
      have HN : Hid (NrT n [] ys 0 0) := .inr ⟨HK.out, 0, Y, 0, by rw [val_nil]; rfl, hY, hY0, mid_nought hY0, .inr ⟨by decide, rfl, by simp⟩⟩
      have el : ([] : List Int).length = 0 := rfl
      rw [el] at e1 hX1 ⊢
      go_enter Tryz.func9, Tryz.ntmps9
      go_wp2_with fail
      clear hX1
      refine Calls.mono HCK.out ?_
      rintro e w2 ⟨rfl, b2⟩
      have hB2 := HBX.out.later b2 HBX.out.lt
      have e1' : w2.cell? ⟨w.heap.size, 1, none⟩ = some (.slice a 0 cap) := hB2.cell 1
      go_wp2_with fail
      go_returns
      exact ⟨_, _, rfl, HN.out, bt HB1.out b2⟩
    · obtain ⟨k, hk⟩ : ∃ k, xs.length = k + 1 := ⟨xs.length - 1, by have : xs.length ≠ 0 := fun e => hx (List.eq_nil_of_length_eq_zero e); omega⟩
      obtain ⟨l, hl⟩ : ∃ l, ys.length = l + 1 := ⟨ys.length - 1, by omega⟩
      obtain ⟨X, hX⟩ := Int.eq_ofNat_of_zero_le (val_nonneg HRX.out.2.1)
      rw [hk] at HRX lx e1 hX1 HBX HCK ⊢
      rw [hl] at HRY ly e2 hX1 HBX HCK ⊢
      have HNS := hid (fun V (hv : Below X1.heap.size X1 V) => nearestSize_any n a k cap xs b l cap' ys V (HRX.out.later (bt HB1.out hv) (bt HB1.out hv).size) (HRY.out.later (bt HB1.out hv) (bt HB1.out hv).size) (by omega) (by omega) tx ty X Y zP hX hY rfl)
      have HT : Hid (∀ s, Mid (X * 2 ^ zP) Y s → (s = 9218868437227405312 → NrT n xs ys 0 9) ∧ (s < 9218868437227405312 → NrT n xs ys (if n = true ∧ 0 < s then s + 9223372036854775808 else s) 0)) := fun s hm =>
        ⟨fun e => .inr ⟨HK.out, X, Y, s, hX, hY, hY0, hm, .inl ⟨e, rfl, rfl⟩⟩, fun e => .inr ⟨HK.out, X, Y, s, hX, hY, hY0, hm, .inr ⟨e, rfl, rfl⟩⟩⟩
      have hk1 : ¬ (k + 1 = 0) := by omega
      have HFF := hid (fun s V (hs : s < 18446744073709551616) => finite_any s V hs)
      clear tx ty hs hg hy0 hYv hX hY hk hl hx
      go_enter Tryz.func9, Tryz.ntmps9
      go_wp2_with fail
      clear hX1
      refine Calls.mono HCK.out ?_
      rintro e w2 ⟨rfl, b2⟩
      have hB2 := HBX.out.later b2 HBX.out.lt
      have e0' : w2.cell? ⟨w.heap.size, 0, none⟩ = some (.bool n) := hB2.cell 0
      have e1' : w2.cell? ⟨w.heap.size, 1, none⟩ = some (.slice a (k + 1) cap) := hB2.cell 1
      have e2' : w2.cell? ⟨w.heap.size, 2, none⟩ = some (.slice b (l + 1) cap') := hB2.cell 2
      have HB2 := hid hB2
      have HBL := hid b2
      have HN2 := hid (HNS.out w2 b2)
      clear e0 e1 e2 HCK HNS HBX hB2 b2
      go_wp2_with fail
      refine Calls.mono HN2.out ?_
      rintro e w3 ⟨s, rfl, hm, b3⟩
      have hB3 := HB2.out.later b3 HB2.out.lt
      have e0'' : w3.cell? ⟨w.heap.size, 0, none⟩ = some (.bool n) := hB3.cell 0
      have HM := hid hm
      have HBB := hid (bt HB1.out (bt HBL.out b3))
      have hneg : ∀ x, Op.unary .neg (.float .f64 x) = pure (.float .f64 (fneg x)) := fun x => rfl
      clear e0' e1' e2' HB2 HBL HN2 hB3 b3 hm
      by_cases hi : s = 9218868437227405312
      · have HN := hid ((HT.out s HM.out).1 hi)
        have HF1 := hid (HFF.out s w3 (by have := HM.out.top; omega))
        rw [hi, inf_not_fin] at HF1
        subst hi
        go_wp2_with fail
        refine Calls.mono HF1.out ?_
        rintro e w4 ⟨rfl, rfl⟩
        go_wp2_with fail
        go_returns
        exact ⟨_, _, rfl, HN.out, HBB.out⟩
      · obtain ⟨hf, hlt⟩ := mid_fin HM.out hi
        have HN := hid ((HT.out s HM.out).2 hlt)
        have HF1 := hid (HFF.out s w3 (by have := HM.out.top; omega))
        rw [hf] at HF1
        have hgt := f_gt_zero s hlt
        by_cases hn : n = true
        · subst hn
          by_cases h0 : 0 < s
          · have hd : decide (0 < s) = true := by simp [h0]
            rw [hd] at hgt
            have hfn : fneg s = s + 9223372036854775808 := fneg_pos (by omega)
            rw [if_pos ⟨rfl, h0⟩, ← hfn] at HN
            clear hd hi hf hlt HT HFF HM h0 hfn
            go_wp2_with fail
            refine Calls.mono HF1.out ?_
            rintro e w4 ⟨rfl, rfl⟩
            go_wp2_with fail
            go_returns
            exact ⟨_, _, rfl, HN.out, HBB.out⟩
          · have hd : decide (0 < s) = false := by simp [h0]
            rw [hd] at hgt
            rw [if_neg (by intro h; exact h0 h.2)] at HN
            clear hd hi hf hlt HT HFF HM h0
            go_wp2_with fail
            refine Calls.mono HF1.out ?_
            rintro e w4 ⟨rfl, rfl⟩
            go_wp2_with fail
            go_returns
            exact ⟨_, _, rfl, HN.out, HBB.out⟩
        · obtain rfl : n = false := by cases n <;> simp_all
          rw [if_neg (by intro h; cases h.1)] at HN
          clear hgt hi hf hlt HT HFF HM hn
          go_wp2_with fail
          refine Calls.mono HF1.out ?_
          rintro e w4 ⟨rfl, rfl⟩
          go_wp2_with fail
          go_returns
          exact ⟨_, _, rfl, HN.out, HBB.out⟩
  · have HN : Hid (NrT n xs ys 0 ck) := .inl ⟨by rw [HK.out]; exact hz, rfl, HK.out.symm⟩
    have hz' : (ck == 0) = false := by simp [hz]
    go_enter Tryz.func9, Tryz.ntmps9
    go_wp2_with fail
    refine Calls.mono HCK.out ?_
    rintro e w2 ⟨rfl, b2⟩
    go_wp2_with fail
    go_returns
    exact ⟨_, _, rfl, HN.out, bt HB1.out b2⟩

end Go.Proofs.YtabkgpnckaaclaaGreatDoor

/- The nearest float by a count that is rounded to a whole one, as the document makes it: the unit by the fraction's own size. Nothing here speaks of the program. -/
namespace Go.Proofs.YtabkgpnckaaclaaGreatDoor
open Go.RowKit
set_option linter.unusedVariables false

/-- R is the whole number nearest to A / P; of two the even one. -/
structure Ev (A P R : Nat) : Prop where
  up : 2 * A ≤ (2 * R + 1) * P
  down : 2 * R * P ≤ 2 * A + P
  tieUp : 2 * A = (2 * R + 1) * P → R % 2 = 0
  tieDown : 2 * R * P = 2 * A + P → R % 2 = 0
theorem ev_le {x y c : Nat} (hc : 0 < c) (h : x * c ≤ y * c) : x ≤ y := Nat.le_of_mul_le_mul_right h hc
/-- The same fraction, otherwise said. -/
theorem Ev.scale {X Y a b P Q n : Nat} (hb : 0 < b) (hP : 0 < P) (h : P * a = Q * b) (v : Ev (X * a) (Y * b) n) : Ev (X * Q) (Y * P) n := by
  have e1 : 2 * (X * Q) * b = 2 * (X * a) * P := by
    rw [Nat.mul_assoc 2, Nat.mul_assoc X, ← h, Nat.mul_assoc 2, Nat.mul_assoc X, Nat.mul_comm P a]
  have e2 : ∀ k, k * (Y * P) * b = k * (Y * b) * P := fun k => by
    rw [Nat.mul_assoc k, Nat.mul_assoc k, Nat.mul_right_comm Y P b]
  have e3 : Y * P * b = Y * b * P := Nat.mul_right_comm Y P b
  refine ⟨ev_le hb ?_, ev_le hb ?_, fun g => v.tieUp ?_, fun g => v.tieDown ?_⟩
  · rw [e1, e2]; exact Nat.mul_le_mul_right P v.up
  · rw [e2, Nat.add_mul, e1, e3, ← Nat.add_mul]; exact Nat.mul_le_mul_right P v.down
  · refine Nat.eq_of_mul_eq_mul_right hP ?_
    rw [← e1, g, e2]
  · refine Nat.eq_of_mul_eq_mul_right hP ?_
    rw [← e2, g, Nat.add_mul, Nat.add_mul, e1, e3]
theorem ev_up {X Y Q P n K : Nat} (hY : 0 < Y * P) (v : Ev (X * Q) (Y * P) n) (h : X * Q < K * (Y * P)) : n ≤ K := by
  have d := v.down
  by_cases hc : n ≤ K
  · exact hc
  · exfalso
    have h1 : (K + 1) * (Y * P) ≤ n * (Y * P) := Nat.mul_le_mul_right _ (by omega)
    rw [Nat.add_mul, Nat.one_mul] at h1
    rw [Nat.mul_assoc] at d
    omega
theorem ev_down {X Y Q P n K : Nat} (hY : 0 < Y * P) (v : Ev (X * Q) (Y * P) n) (h : K * (Y * P) ≤ X * Q) : K ≤ n := by
  have u := v.up
  by_cases hc : K ≤ n
  · exact hc
  · exfalso
    have h1 : (n + 1) * (Y * P) ≤ K * (Y * P) := Nat.mul_le_mul_right _ (by omega)
    rw [Nat.add_mul, Nat.one_mul] at h1
    rw [Nat.add_mul, Nat.mul_assoc, Nat.one_mul] at u
    omega
/-- The rung of the rounded count is the nearest. -/
theorem ev_mid {X Y Z E n : Nat} (hY : 0 < Y) (v : Ev (X * 2 ^ Z) (Y * 2 ^ E) n) (hhi : X * 2 ^ Z < 9007199254740992 * (Y * 2 ^ E)) (hlo : 0 < E → 4503599627370496 * (Y * 2 ^ E) ≤ X * 2 ^ Z) :
    n ≤ 9007199254740992 ∧ (0 < E → 4503599627370496 ≤ n) ∧ Mid (X * 2 ^ Z) Y (min (E * 4503599627370496 + n) 9218868437227405312) := by
  have hP := Nat.two_pow_pos E
  have hYP : 0 < Y * 2 ^ E := Nat.mul_pos hY hP
  have k1 := ev_up hYP v hhi
  have k2 : 0 < E → 4503599627370496 ≤ n := fun h => ev_down hYP v (hlo h)
  have a1 : ∀ k, k * 2 ^ E * Y = k * (Y * 2 ^ E) := fun k => by rw [Nat.mul_assoc, Nat.mul_comm (2 ^ E) Y]
  refine ⟨k1, k2, mid_of_count hY k1 k2 ?_ ?_ ?_ ?_ ?_⟩
  · rw [a1]; exact v.up
  · rw [a1, Nat.mul_comm (2 ^ E) Y]; exact v.down
  · intro h; rw [a1]; exact hlo h
  · rw [a1]; exact v.tieUp
  · rw [a1, Nat.mul_comm (2 ^ E) Y]; exact v.tieDown
end Go.Proofs.YtabkgpnckaaclaaGreatDoor

/- The document's own floats (slackwaterref06): even. -/
namespace Go.Proofs.YtabkgpnckaaclaaGreatDoor
open Go.RowKit
set_option linter.unusedVariables false

theorem ev_of {A D q r K : Nat} (h : A = q * D + r) (hr : r < D) (hK : (D < 2 * r ∧ K = q + 1) ∨ (2 * r = D ∧ K = q + q % 2) ∨ (2 * r < D ∧ K = q)) : Ev A D K := by
  have e1 : ∀ k, (2 * k + 1) * D = 2 * (k * D) + D := fun k => by rw [Nat.add_mul, Nat.mul_assoc, Nat.one_mul]
  have e2 : ∀ k, 2 * k * D = 2 * (k * D) := fun k => Nat.mul_assoc _ _ _
  have e3 : (q + 1) * D = q * D + D := by rw [Nat.add_mul, Nat.one_mul]
  rcases hK with ⟨h1, rfl⟩ | ⟨h1, h2⟩ | ⟨h1, rfl⟩
  · refine ⟨?_, ?_, fun g => ?_, fun g => ?_⟩ <;> (try rw [e1] at *) <;> (try rw [e2] at *) <;> rw [e3] at * <;> generalize q * D = T at * <;> omega
  · rcases Nat.mod_two_eq_zero_or_one q with hq | hq
    · have hk : K = q := by omega
      subst hk
      refine ⟨?_, ?_, fun g => ?_, fun g => ?_⟩ <;> (try rw [e1] at *) <;> (try rw [e2] at *) <;> generalize K * D = T at * <;> omega
    · have hk : K = q + 1 := by omega
      subst hk
      refine ⟨?_, ?_, fun g => ?_, fun g => ?_⟩ <;> (try rw [e1] at *) <;> (try rw [e2] at *) <;> rw [e3] at * <;> generalize q * D = T at * <;> omega
  · refine ⟨?_, ?_, fun g => ?_, fun g => ?_⟩ <;> (try rw [e1] at *) <;> (try rw [e2] at *) <;> generalize K * D = T at * <;> omega

set_option maxHeartbeats 1600000 in
set_option maxRecDepth 100000 in
theorem ndEven_any (a : Option Addr) (ca : Nat) (xs : List Int) (b : Option Addr) (cb : Nat) (ys : List Int) (w : World) (A D : Nat) (h : Sl w (.slice a xs.length ca) xs) (g : Sl w (.slice b ys.length cb) ys) (wx : Wd xs) (tx : Trimmed xs) (wy : Wd ys) (ty : Trimmed ys) (lx : xs.length ≤ 8192) (ly : ys.length ≤ 4400) (hA : val xs = A) (hD : val ys = D) (h0 : 0 < D) (hq : A < 9223372036854775808 * D) :
    Calls Tryz.prog 83 #[.slice a xs.length ca, .slice b ys.length cb] w fun e w' => ∃ n : Nat, e = .returned (.int .u64 (n : Int)) ∧ Ev A D n ∧ Below w.heap.size w w' := by
  have y0 : 0 < ys.length := by
    rcases Nat.eq_zero_or_pos ys.length with z | z
    · have : ys = [] := List.length_eq_zero_iff.1 z
      subst this
      have e : val [] = 0 := rfl
      omega
    · exact z
  have HH := hid (refDivMod_any _ _ xs ys w h g lx (by omega) tx ty y0)
  have HG := hid (And.intro g (And.intro wy (And.intro ty ly)))
  have HN := hid (And.intro hA (And.intro hD (And.intro h0 hq)))
  clear h g wx tx wy ty lx ly hA hD h0 hq y0
  go_enter Tryz.func83, Tryz.ntmps83
  go_wp2_with fail
  refine Calls.mono HH.out ?_
  rintro e w1 ⟨v1, v2, q, r, rfl, o1, o2, wq, wr, tq, tr, hqr, hlt, hb1⟩
  obtain ⟨gg, wy, ty, ly⟩ := HG.out
  obtain ⟨hA, hD, h0, hbig⟩ := HN.out
  obtain ⟨Q, hQ⟩ := Int.eq_ofNat_of_zero_le (val_nonneg wq)
  obtain ⟨R, hR⟩ := Int.eq_ofNat_of_zero_le (val_nonneg wr)
  rw [hA, hD, hQ, hR] at hqr
  rw [hR, hD] at hlt
  have hE : A = Q * D + R := by exact_mod_cast hqr
  have hRD : R < D := by exact_mod_cast hlt
  have hQb : Q < 9223372036854775808 := by
    rcases Nat.lt_or_ge Q 9223372036854775808 with z | z
    · exact z
    · have := Nat.mul_le_mul_right D z
      omega
  have lq : q.length ≤ 2 := len_of_lt wq tq (nd_two (by rw [hQ]; omega))
  have lr : r.length ≤ ys.length := len_le_of_val wy wr tr (by rw [hR, hD]; omega)
  have HU := hid (refUint64_sl v1 q w1 (Sl.own o1 wq) (by omega))
  rw [u64of_eq lq, hQ] at HU
  have HS := hid (fun V (hv : Below w1.heap.size w1 V) => ndShifted_any v2 r 1 V ((Sl.own o2 wr).later hv) wr tr (by omega) (by omega))
  rw [hR] at HS
  have HB1 := hid hb1
  have HV : Hid (∀ V, Below w1.heap.size w1 V → Sl V (.slice b ys.length cb) ys) := fun V hv => (gg.later hb1).later hv
  have HK := hid (And.intro hE (And.intro hRD (And.intro hQb (And.intro hD (And.intro ly wy)))))
  obtain ⟨a1, c1, hs1⟩ := own_slice' o1
  subst hs1
  obtain ⟨a2, c2, hs2⟩ := own_slice' o2
  subst hs2
  clear o1 o2 wq wr tq tr hqr hlt hb1 HH HG gg wy ty ly hA hD h0 hbig hE hRD hQb lq lr hR HN hQ
  go_wp2_with fail
  refine Calls.mono HU.out ?_
  rintro e w2 ⟨rfl, hb2⟩
  have HS2 := hid (HS.out w2 hb2)
  clear HU HS
  go_wp2_with fail
  refine Calls.mono HS2.out ?_
  rintro e w3 ⟨v3, zs, rfl, o3, wz, tz, hz, hb3⟩
  have lz : zs.length ≤ 281474976710656 := by
    have hl := val_lt (HK.out.2.2.2.2.2)
    have e1 : val zs < 4294967296 ^ (ys.length + 1) := by
      rw [hz]
      have e2 := HK.out.2.1
      have e3 := HK.out.2.2.2.1
      rw [e3] at hl
      have hp := pw_pos ys.length
      rw [Int.pow_succ]
      have e4 : (2 : Int) ^ 1 = 2 := rfl
      omega
    have := len_of_lt wz tz e1
    have := HK.out.2.2.2.2.1
    omega
  have HC := hid (refCompare_sl v3 (.slice b ys.length cb) zs ys w3 (Sl.own o3 wz) (HV.out w3 (bt hb2 hb3)) lz (by have := HK.out.2.2.2.2.1; omega))
  rw [hz, HK.out.2.2.2.1] at HC
  have HB3 := hid (bt HB1.out (bt hb2 hb3))
  obtain ⟨a3, c3, hs3⟩ := own_slice' o3
  subst hs3
  clear o3 wz tz hz hb2 hb3 HS2 HB1 HV lz
  go_wp2_with fail
  refine Calls.mono HC.out ?_
  rintro e w4 ⟨rfl, rfl⟩
  clear HC
  obtain ⟨hE, hRD, hQb, _⟩ := HK.out
  clear HK
  have hp1 : (R : Int) * 2 ^ 1 = 2 * (R : Int) := by omega
  rw [hp1]
  have HEv := hid (fun K hK => ev_of (K := K) hE hRD hK)
  have hw : IntKind.u64.wrap ((Q : Int) + 1) = ((Q + 1 : Nat) : Int) := by rw [IntKind.wrap_u64]; omega
  rcases Nat.lt_trichotomy (2 * R) D with hc | hc | hc
  · rw [cmpI_lt (by omega)]
    have HX := hid (HEv.out Q (.inr (.inr ⟨hc, rfl⟩)))
    clear hE hRD hQb hp1 HEv hw hc
    go_wp2_with fail
    go_ret
    exact ⟨Q, rfl, HX.out, HB3.out⟩
  · rw [cmpI_eq (by omega)]
    rcases Nat.mod_two_eq_zero_or_one Q with z | z
    · have HX := hid (HEv.out Q (.inr (.inl ⟨hc, by omega⟩)))
      have z' : (Q : Int) % 2 = 0 := by omega
      clear hE hRD hp1 HEv hw hc z
      go_wp2_with fail
      go_ret
      exact ⟨Q, rfl, HX.out, HB3.out⟩
    · have HX := hid (HEv.out (Q + 1) (.inr (.inl ⟨hc, by omega⟩)))
      have z' : (Q : Int) % 2 = 1 := by omega
      clear hE hRD hp1 HEv hc z
      go_wp2_with fail
      go_ret
      exact ⟨Q + 1, rfl, HX.out, HB3.out⟩
  · rw [cmpI_gt (by omega)]
    have HX := hid (HEv.out (Q + 1) (.inl ⟨hc, rfl⟩))
    clear hE hRD hQb hp1 HEv hc
    go_wp2_with fail
    go_ret
    exact ⟨Q + 1, rfl, HX.out, HB3.out⟩

end Go.Proofs.YtabkgpnckaaclaaGreatDoor

/- The unit that the document takes, by the fraction's size; what its count is, and the nearest float. Nothing here speaks of the program. -/
namespace Go.Proofs.YtabkgpnckaaclaaGreatDoor
open Go.RowKit
set_option linter.unusedVariables false

theorem ln_hi {X Y S Z E : Nat} {e : Int} {u : Nat} (hu : (u : Int) = e + 1 + S) (h : X * 2 ^ S < Y * 2 ^ u) (hE : e + 1 + Z ≤ 53 + E) : X * 2 ^ Z < 9007199254740992 * (Y * 2 ^ E) := by
  have hS := Nat.two_pow_pos S
  have hZ := Nat.two_pow_pos Z
  refine Nat.lt_of_mul_lt_mul_right (a := 2 ^ S) ?_
  have h1 : X * 2 ^ S * 2 ^ Z < Y * 2 ^ u * 2 ^ Z := Nat.mul_lt_mul_of_pos_right h hZ
  have h2 : Y * 2 ^ u * 2 ^ Z ≤ Y * 2 ^ (53 + E + S) := by
    rw [Nat.mul_assoc, ← Nat.pow_add]
    exact Nat.mul_le_mul_left _ (Nat.pow_le_pow_right (by decide) (by omega))
  have h3 : 9007199254740992 * (Y * 2 ^ E) * 2 ^ S = Y * 2 ^ (53 + E + S) := by
    rw [Nat.pow_add, Nat.pow_add, show (2 : Nat) ^ 53 = 9007199254740992 by decide, Nat.mul_left_comm, Nat.mul_assoc]
  rw [h3, Nat.mul_right_comm]
  exact Nat.lt_of_lt_of_le h1 h2
theorem ln_lo {X Y S Z E : Nat} {e : Int} {u : Nat} (hu : (u : Int) = e + S) (h : Y * 2 ^ u ≤ X * 2 ^ S) (hE : (52 + E : Int) = e + Z) : 4503599627370496 * (Y * 2 ^ E) ≤ X * 2 ^ Z := by
  have hS := Nat.two_pow_pos S
  refine ev_le (c := 2 ^ S) hS ?_
  have h1 : Y * 2 ^ u * 2 ^ Z ≤ X * 2 ^ S * 2 ^ Z := Nat.mul_le_mul_right _ h
  have h3 : 4503599627370496 * (Y * 2 ^ E) * 2 ^ S = Y * 2 ^ u * 2 ^ Z := by
    rw [Nat.mul_assoc Y, ← Nat.pow_add, show u + Z = 52 + E + S by omega, Nat.pow_add, Nat.pow_add, show (2 : Nat) ^ 52 = 4503599627370496 by decide, Nat.mul_left_comm, Nat.mul_assoc]
  rw [h3, Nat.mul_right_comm X (2 ^ Z) (2 ^ S)]
  exact h1
/-- The document's count and unit tell the nearest float. -/
theorem ln_mid {X Y S Z n : Nat} {e p : Int} {u v a b : Nat} (hZ : Z = 1074) (hY : 0 < Y) (hu : (u : Int) = e + S) (hv : (v : Int) = e + 1 + S) (hl : Y * 2 ^ u ≤ X * 2 ^ S) (hh : X * 2 ^ S < Y * 2 ^ v) (hp : p = max (e - 52) (-1074)) (ha : (a : Int) = max (-p) 0) (hb : (b : Int) = max p 0) (ev : Ev (X * 2 ^ a) (Y * 2 ^ b) n) :
    n ≤ 9007199254740992 ∧ (-1074 < p → 4503599627370496 ≤ n) ∧ Mid (X * 2 ^ Z) Y (min ((p + 1074).toNat * 4503599627370496 + n) 9218868437227405312) := by
  obtain ⟨E, hE⟩ : ∃ E : Nat, (p + 1074).toNat = E := ⟨_, rfl⟩
  rw [hE]
  have hEp : (E : Int) = p + 1074 := by omega
  have sc : 2 ^ E * 2 ^ a = 2 ^ Z * 2 ^ b := by rw [← Nat.pow_add, ← Nat.pow_add, show E + a = Z + b by omega]
  have ev2 := Ev.scale (Nat.two_pow_pos b) (Nat.two_pow_pos E) sc ev
  obtain ⟨k1, k2, k3⟩ := ev_mid hY ev2 (ln_hi hv hh (by omega)) (fun h => ln_lo hu hl (by omega))
  exact ⟨k1, fun h => k2 (by omega), k3⟩
end Go.Proofs.YtabkgpnckaaclaaGreatDoor

/- real.fraction: what a float that was taken apart is, in lowest terms, in new memory. -/
namespace Go.Proofs.YtabkgpnckaaclaaGreatDoor
open Go.RowKit
set_option linter.unusedVariables false

theorem one_wd : Wd [1] := Wd.one (by omega)
theorem one_trimmed : Trimmed [1] := rfl
theorem reads_of {W : World} {b g n : Nat} {ys : List Int} (h : OwnW W b g n ys) (hw : Wd ys) : Reads W W.heap.size (some ⟨g, 0, none⟩) n n ys := by
  obtain ⟨a, cap, hv, hr⟩ := Reads.own h hw
  cases hv
  exact hr

theorem len_succ {ys : List Int} {d : Nat} (h : val ys = d) (h0 : d ≠ 0) : ∃ l, ys.length = l + 1 := by
  cases ys with
  | nil => rw [val_nil] at h; omega
  | cons a b => exact ⟨b.length, rfl⟩
theorem end_own {V : World} {b g n p r j : Nat} {ys : List Int} {vs : Array Value} (h : OwnW V b g n ys) (hp : Box V p 25 vs) (hr : Box V r 25 #[.bool false, .slice none 0 0, .slice none 0 0]) (hne : p ≠ r) (x v0 v1 v2 : Value) (_u : Unit) : OwnW ((((V.setCell ⟨p, j, none⟩ x).setCell ⟨r, 0, none⟩ v0).setCell ⟨r, 1, none⟩ v1).setCell ⟨r, 2, none⟩ v2) b g n ys :=
  own_put3 (own_put1 h p (own_ne_box h hp (by decide)) j x) r (own_ne_box (own_put1 h p (own_ne_box h hp (by decide)) j x) (hr.other ⟨p, j, none⟩ x (Ne.symm hne)) (by decide)) v0 v1 v2
theorem end_below {B : Nat} {w V : World} {p r j : Nat} (h : Below B w V) (hp : B ≤ p) (hr : B ≤ r) (x v0 v1 v2 : Value) (_u : Unit) : Below B w ((((V.setCell ⟨p, j, none⟩ x).setCell ⟨r, 0, none⟩ v0).setCell ⟨r, 1, none⟩ v1).setCell ⟨r, 2, none⟩ v2) :=
  below_put3 (h.setCell (p := ⟨p, j, none⟩) hp x) r hr v0 v1 v2

set_option maxHeartbeats 3200000 in
set_option maxRecDepth 100000 in
theorem fraction_any (s : Bool) (m : Nat) (u : Int) (w : World) (hm : m < 18446744073709551616) (h0 : m ≠ 0) (u0 : -1074 ≤ u) (u1 : u ≤ 972) (hT : TabB w) :
    Calls Tryz.prog 36 #[.agg #[.bool s, .int .u64 (m : Int), .int .i64 u]] w fun e w' => ∃ a ca b cb zs ds, e = .returned (.agg #[.bool s, .slice a zs.length ca, .slice b ds.length cb]) ∧ w'.ownsRow w.heap.size 88 1 (.slice a zs.length ca) zs.length (zs.map (Value.int .u32)) ∧ w'.ownsRow w.heap.size 88 1 (.slice b ds.length cb) ds.length (ds.map (Value.int .u32)) ∧ Wd zs ∧ Trimmed zs ∧ Wd ds ∧ Trimmed ds ∧
      val zs = ((m / 2 ^ Lib.ctz 64 m : Nat) : Int) * 2 ^ (u + (Lib.ctz 64 m : Int)).toNat ∧ val ds = 2 ^ (-(u + (Lib.ctz 64 m : Int))).toNat ∧ a ≠ b ∧ Below w.heap.size w w' := by
  obtain ⟨hlow, hk⟩ := Lib.lowest_bit 64 m h0 hm
  have HTZ := hid (fun V hV => tz_any m V hm h0 hV)
  have hm0 : ((m : Int) == 0) = false := beq_eq_false_iff_ne.2 (by omega)
  have HXp := hid ((Box.made w 65 #[.bool s, .int .u64 (m : Int), .int .i64 u]).later (alloc_later _ (.cells #[.bool false, .slice none 0 0, .slice none 0 0] 25)) (by simp))
  have HXr : Hid (Box ((w.alloc (.cells #[.bool s, .int .u64 (m : Int), .int .i64 u] 65)).alloc (.cells #[.bool false, .slice none 0 0, .slice none 0 0] 25)) (w.heap.size + 1) 25 #[.bool false, .slice none 0 0, .slice none 0 0]) := by
    have e := Box.made (w.alloc (.cells #[.bool s, .int .u64 (m : Int), .int .i64 u] 65)) 25 #[.bool false, .slice none 0 0, .slice none 0 0]
    rw [World.size_alloc] at e
    exact e
  have HB := hid (bt (alloc_later w (.cells #[.bool s, .int .u64 (m : Int), .int .i64 u] 65)) (alloc_later _ (.cells #[.bool false, .slice none 0 0, .slice none 0 0] 25)))
  have HTX := hid (hT.later HB.out)
  have HB0 := hid HB.out
  clear hlow hT
  go_enter Tryz.func36, Tryz.ntmps36
  go_wp2_with fail
  refine Calls.mono (HTZ.out _ HTX.out) ?_
  generalize (w.alloc (.cells #[.bool s, .int .u64 (m : Int), .int .i64 u] 65)).alloc (.cells #[.bool false, .slice none 0 0, .slice none 0 0] 25) = X at *
  generalize hkk : Lib.ctz 64 m = k at *
  rintro e w1 ⟨rfl, rfl⟩
  have x0 : w1.cell? ⟨w.heap.size, 0, none⟩ = some (.bool s) := HXp.out.cell 0
  have x1 : w1.cell? ⟨w.heap.size, 1, none⟩ = some (.int .u64 (m : Int)) := HXp.out.cell 1
  have x2 : w1.cell? ⟨w.heap.size, 2, none⟩ = some (.int .i64 u) := HXp.out.cell 2
  obtain ⟨d, hd⟩ : ∃ d : Nat, m / 2 ^ k = d := ⟨_, rfl⟩
  have hsh : (m : Int) / 2 ^ k = (d : Int) := by rw [← hd]; exact cast_div_two m k
  have HD : Hid (d < 18446744073709551616 ∧ d ≠ 0) := div_odd hm h0 hkk hd
  have HK : Hid (∀ V, Below w1.heap.size w1 V → V.cell? ⟨w.heap.size, 0, none⟩ = some (.bool s) ∧ V.cell? ⟨w.heap.size, 1, none⟩ = some (.int .u64 (m : Int))) := fun V hb => by
    have hx := HXp.out.later hb HXp.out.lt
    exact ⟨hx.cell 0, hx.cell 1⟩
  have hs0 := HK.out _ (Below.drew (Below.refl _ w1))
  have HBR := hid (Below.drew (Below.refl w1.heap.size w1))
  have H1 : Hid (∀ ww, Below w1.heap.size w1 ww → Calls Tryz.prog 64 #[.int .u64 (d : Int)] ww fun e w' => ∃ ys : List Int, e = .returned (.slice (some ⟨ww.heap.size, 0, none⟩) ys.length ys.length) ∧ Hid (WordsE ww w' d ys) ∧ Below w1.heap.size w1 w' ∧ w1.heap.size ≤ w'.heap.size ∧ ww.heap.size < w'.heap.size ∧ (w1.heap.size ≠ w'.heap.size ∧ w1.heap.size < w'.heap.size) ∧ (∀ b j, b < ww.heap.size → w'.cell? ⟨b, j, none⟩ = ww.cell? ⟨b, j, none⟩) ∧ (∀ b j, b < ww.heap.size → w'.frozen? ⟨b, j, none⟩ = ww.frozen? ⟨b, j, none⟩) ∧ (w'.cell? ⟨w.heap.size, 0, none⟩ = some (.bool s) ∧ w'.cell? ⟨w.heap.size, 1, none⟩ = some (.int .u64 (m : Int)))) := fun ww hv => by
    refine Calls.mono (rwords64_any d ww HD.out.1 HD.out.2) ?_
    rintro e w' ⟨ys, rfl, a1, a2, a3, a4, a5, a6⟩
    exact ⟨ys, rfl, ⟨a1, a2, a3, a4, a5, a6⟩, bt hv a6, (bt hv a6).size, a1.base.2, ⟨by have h1 := a1.base.2; have h2 := hv.size; omega, by have h1 := a1.base.2; have h2 := hv.size; omega⟩, fun b j h => a6.cell (p := ⟨b, j, none⟩) h, fun b j h => below_frozen a6 h, HK.out _ (bt hv a6)⟩
  go_wp2_with fail
  have hku : ((k : Nat) : Int) ≤ 63 := by omega
  rename_i K hK
  have cont : Hid (∀ (W : World) (p g1 g2 : Nat) (ys : List Int), Hid (FinF w1 W s d p g1 g2 ys) → K { tmps := #[.agg #[.bool s, .int .u64 (m : Int), .int .i64 u], .pointer (some ⟨w.heap.size, 0, none⟩), .pointer (some ⟨w.heap.size + 1, 0, none⟩), .int .i64 (k : Int), .pointer (some ⟨p, 0, none⟩), undef, .pointer (some ⟨w.heap.size, 1, none⟩), .int .u64 (m : Int), .bool false, undef, undef, .pointer (some ⟨w.heap.size, 1, none⟩), .int .u64 (m : Int), .int .i64 (k : Int), .pointer (some ⟨w.heap.size, 0, none⟩), .bool s, .pointer (some ⟨w.heap.size, 1, none⟩), .int .u64 (m : Int), .int .i64 (k : Int), .int .u64 (d : Int), .slice (some ⟨g1, 0, none⟩) ys.length ys.length, .slice (some ⟨g2, 0, none⟩) 1 1, .agg #[.bool s, .slice (some ⟨g1, 0, none⟩) ys.length ys.length, .slice (some ⟨g2, 0, none⟩) 1 1], undef, undef, undef, undef, undef, undef, undef, undef, undef, undef, undef, undef, undef, undef, undef, undef, undef, undef], defers := [] } W) := fun W p g1 g2 ys HF => by
    clear H1 HK hs0 HBR
    refine hK _ _ ?_
    have hxp := HXp.out.later HF.out.2.2.2.2.2.2 HXp.out.lt
    have x2 : W.cell? ⟨w.heap.size, 2, none⟩ = some (.int .i64 u) := hxp.cell 2
    obtain ⟨r0, r1, r2, r3, r4, r5⟩ := res_box3 HF.out.1 (Below.refl _ _)
    by_cases hu : u + (k : Int) < 0
    · obtain ⟨q, t, ht, hqt⟩ : ∃ q t : Nat, t ≤ 31 ∧ -(u + (k : Int)) = 32 * q + t := ⟨(-(u + (k : Int))).toNat / 32, (-(u + (k : Int))).toNat % 32, by omega, by omega⟩
      have HSH := hid (rshifted_any (some ⟨g2, 0, none⟩) 0 1 [1] q t (32 * q + t) W (reads_of HF.out.2.2.1 one_wd) (by omega) one_trimmed (by omega) ht rfl)
      have HQT := hid hqt
      clear HTZ HTX hsh hm h0 hm0
      go_wp2_with fail
      refine Calls.mono HSH.out ?_
      rintro e w3 ⟨zs, rfl, o3, z2, z3, z4, hb3⟩
      have hbx := HF.out.1.later hb3 HF.out.1.lt
      have HBX := hid hbx
      have HRX := hid (HXr.out.later (bt HF.out.2.2.2.2.2.2 hb3) HXr.out.lt)
      have hpne : w.heap.size + 1 ≠ p := by have e1 := HXr.out.lt; have e2 := HF.out.2.2.2.2.2.1; omega
      have hpne2 : p ≠ w.heap.size + 1 := Ne.symm hpne
      obtain ⟨s0, s1, s2, s3, s4, s5⟩ := res_box3 hbx (Below.refl _ _)
      obtain ⟨y0, y1, y2, f0, f1, f2⟩ := res_box3 HRX.out (Below.refl _ _)
      have HO3 := hid o3
      have HZ := hid (And.intro z2 (And.intro z3 z4))
      have HB3 := hid hb3
      clear HSH r0 r1 r2 r3 r4 r5 o3 z2 z3 z4 hb3 hbx hxp x2 x0 x1
      go_wp2_with fail
      refine bodyPost_ret (v := .agg #[.bool s, .slice (some ⟨g1, 0, none⟩) ys.length ys.length, .slice (some ⟨W.heap.size, 0, none⟩) zs.length zs.length]) (by simp [results, Tryz.results36, go_sem, y0, y1, y2]) rfl ?_
      have e0 : w.heap.size ≤ w1.heap.size := HB.out.size
      have e1 := HXr.out.lt
      have e2 := HF.out.2.2.2.2.2.1
      refine ⟨some ⟨g1, 0, none⟩, ys.length, some ⟨W.heap.size, 0, none⟩, zs.length, ys, zs, rfl, owns_base (end_own (owns_later HF.out.2.1 HB3.out) HBX.out HRX.out hpne2 _ _ _ _ ()) e0, owns_base (end_own HO3.out HBX.out HRX.out hpne2 _ _ _ _ ()) (Nat.le_trans e0 HF.out.2.2.2.2.2.2.size), HF.out.2.2.2.1.1, HF.out.2.2.2.1.2.1, HZ.out.1, HZ.out.2.1, ?_, ?_, ?_, end_below (bt HB.out (bt HF.out.2.2.2.2.2.2 HB3.out)) (by omega) (by omega) _ _ _ _ ()⟩
      · rw [hkk, hd, HF.out.2.2.2.1.2.2.1, show (u + (k : Int)).toNat = 0 by omega]; simp
      · rw [hkk, HZ.out.2.2, val_one, show (-(u + (k : Int))).toNat = t + 32 * q by have := HQT.out; omega, Int.pow_add, ← pw_two, Int.one_mul]
      · have e3 := HF.out.2.1.base.2
        intro e4
        injection e4 with e5
        injection e5 with e6
        omega
    · obtain ⟨q, t, ht, hqt⟩ : ∃ q t : Nat, t ≤ 31 ∧ u + (k : Int) = 32 * q + t := ⟨(u + (k : Int)).toNat / 32, (u + (k : Int)).toNat % 32, by omega, by omega⟩
      obtain ⟨l, hl⟩ := len_succ HF.out.2.2.2.1.2.2.1 HD.out.2
      have HLL : Hid (l ≤ 1) := by have := HF.out.2.2.2.1.2.2.2; show _ ≤ _; omega
      have HSH : Hid (Calls Tryz.prog 65 #[.slice (some ⟨g1, 0, none⟩) ys.length ys.length, .int .i64 (32 * q + t)] W fun e w' => ∃ zs : List Int, e = .returned (.slice (some ⟨W.heap.size, 0, none⟩) zs.length zs.length) ∧ OwnW w' W.heap.size W.heap.size zs.length zs ∧ Wd zs ∧ Trimmed zs ∧ val zs = val ys * 2 ^ t * 4294967296 ^ q ∧ Below W.heap.size W w') := by
        have e := rshifted_any (some ⟨g1, 0, none⟩) l ys.length ys q t (32 * q + t) W (by have e := reads_of HF.out.2.1 HF.out.2.2.2.1.1; rw [← hl]; exact e) (by have := HLL.out; omega) HF.out.2.2.2.1.2.1 (by omega) ht rfl
        rw [← hl] at e
        exact e
      clear hl HLL
      have HQT := hid hqt
      clear HTZ HTX hsh hm h0 hm0
      go_wp2_with fail
      refine Calls.mono HSH.out ?_
      rintro e w3 ⟨zs, rfl, o3, z2, z3, z4, hb3⟩
      have hbx := HF.out.1.later hb3 HF.out.1.lt
      have HBX := hid hbx
      have HRX := hid (HXr.out.later (bt HF.out.2.2.2.2.2.2 hb3) HXr.out.lt)
      have hpne : w.heap.size + 1 ≠ p := by have e1 := HXr.out.lt; have e2 := HF.out.2.2.2.2.2.1; omega
      have hpne2 : p ≠ w.heap.size + 1 := Ne.symm hpne
      obtain ⟨s0, s1, s2, s3, s4, s5⟩ := res_box3 hbx (Below.refl _ _)
      obtain ⟨y0, y1, y2, f0, f1, f2⟩ := res_box3 HRX.out (Below.refl _ _)
      have HO3 := hid o3
      have HZ := hid (And.intro z2 (And.intro z3 z4))
      have HB3 := hid hb3
      clear HSH r0 r1 r2 r3 r4 r5 o3 z2 z3 z4 hb3 hbx hxp x2 x0 x1
      go_wp2_with fail
      refine bodyPost_ret (v := .agg #[.bool s, .slice (some ⟨W.heap.size, 0, none⟩) zs.length zs.length, .slice (some ⟨g2, 0, none⟩) 1 1]) (by simp [results, Tryz.results36, go_sem, y0, y1, y2]) rfl ?_
      have e0 : w.heap.size ≤ w1.heap.size := HB.out.size
      have e1 := HXr.out.lt
      have e2 := HF.out.2.2.2.2.2.1
      refine ⟨some ⟨W.heap.size, 0, none⟩, zs.length, some ⟨g2, 0, none⟩, 1, zs, [1], rfl, owns_base (end_own HO3.out HBX.out HRX.out hpne2 _ _ _ _ ()) (Nat.le_trans e0 HF.out.2.2.2.2.2.2.size), owns_base (end_own (owns_later HF.out.2.2.1 HB3.out) HBX.out HRX.out hpne2 _ _ _ _ ()) e0, HZ.out.1, HZ.out.2.1, one_wd, one_trimmed, ?_, ?_, ?_, end_below (bt HB.out (bt HF.out.2.2.2.2.2.2 HB3.out)) (by omega) (by omega) _ _ _ _ ()⟩
      · rw [hkk, hd, HZ.out.2.2, HF.out.2.2.2.1.2.2.1, show (u + (k : Int)).toNat = t + 32 * q by have := HQT.out; omega, Int.pow_add, ← pw_two, Int.mul_assoc]
      · rw [hkk, val_one, show (-(u + (k : Int))).toNat = 0 by omega]; simp
      · have e3 := HF.out.2.2.1.base.2
        intro e4
        injection e4 with e5
        injection e5 with e6
        omega
  clear x0 x1
  go_region_held3 (fun V : World => V.cell? ⟨w.heap.size, 0, none⟩ = some (.bool s) ∧ V.cell? ⟨w.heap.size, 1, none⟩ = some (.int .u64 (m : Int))) (first | exact hs1 | exact hs0 | (refine HK.out _ ?_; repeat' first | exact hb1 | exact HBR.out | exact Below.refl _ _ | refine below_alloc1 ?_ _ | refine Below.drew ?_ | refine below_put3 ?_ _ ?_ _ _ _ | omega | (simp only [World.size_alloc]; omega)))
    (first
      | (go_at_call 64; with_reducible refine Calls.mono (H1.out _ (by first | exact HBR.out | exact bt HBR.out (alloc_later _ _) | exact bt (bt HBR.out (alloc_later _ _)) (alloc_later _ _))) ?_; rintro e w2 ⟨ys, rfl, HE, hb1, hz1, hz2, ⟨hn1, hn2⟩, hcf, hff, hs1⟩))
  · exact cont.out _ _ _ _ ys (fin1 (undrew HE.out))
  · exact cont.out _ _ _ _ ys (fin2 (undrew HE.out))
  · exact cont.out _ _ _ _ ys (fin3 (undrew HE.out))
  · exact cont.out _ _ _ _ ys (fin4 (undrew HE.out))
  · exact cont.out _ _ _ _ ys (fin5 (undrew HE.out))
  · exact cont.out _ _ _ _ ys (fin6 (undrew HE.out))

end Go.Proofs.YtabkgpnckaaclaaGreatDoor

/- Same, Equal, Finite, Abs of parts and of the document's answers, of any complex numbers, by their parts' bits. -/
namespace Go.Proofs.YtabkgpnckaaclaaGreatDoor
open Go.RowKit
set_option linter.unusedVariables false

/-- Equal, of reals. -/
def feq (x y : Nat) : Bool := FloatKind.f64.format.order x y == some .eq

theorem fin_parts (x : Nat) : fin x = (!isinf (x % 9223372036854775808) && !isnan x) := by
  cases h : fin x
  · have h' : ¬ x % 9223372036854775808 < 9218868437227405312 := fun g => by rw [(fin_iff x).2 g] at h; cases h
    cases n : isnan x
    · have n' : ¬ 9218868437227405312 < x % 9223372036854775808 := fun g => by rw [(isnan_iff x).2 g] at n; cases n
      have e : x % 9223372036854775808 = 9218868437227405312 := by omega
      rw [e]; rfl
    · simp
  · rw [fin_iff] at h
    have n : isnan x = false := by
      cases n : isnan x
      · rfl
      · rw [isnan_iff] at n; omega
    have e : isinf (x % 9223372036854775808) = false := by
      simp only [isinf, beq_eq_false_iff_ne]; omega
    rw [n, e]; rfl

/-- A float less itself. -/
theorem less_self {x r : Nat} (h : FN .sub x x r) : (FloatKind.f64.format.order r 0 == some .eq) = fin x := by
  cases f : fin x
  · have e : floatBits .sub .f64 x x = none := by
      show (((Ieee.double.read x).sum (Ieee.double.read x).opposite).map _) = none
      rcases read_not f with ⟨s, e⟩ | ⟨s, t, e⟩ <;> rw [e]
      · cases s <;> rfl
      · rfl
    rcases h.2 with g | ⟨_, g⟩
    · rw [e] at g; cases g
    · rw [order_nan_l g]; rfl
  · obtain ⟨s, m, i, e⟩ := read_fin f
    have g : floatBits .sub .f64 x x = some 0 := by
      show (((Ieee.double.read x).sum (Ieee.double.read x).opposite).map _) = some 0
      rw [e]
      have z : Ieee.signed s m (i - min i i).toNat + Ieee.signed (!s) m (i - min i i).toNat = 0 := by
        cases s <;> simp [Ieee.signed] <;> omega
      simp only [Ieee.Datum.opposite, Ieee.Datum.sum, z]
      cases s <;> simp [Ieee.Format.write, Ieee.Format.nearest, Ieee.Format.word]
    rcases h.2 with k | ⟨k, _⟩
    · rw [g] at k; cases k; decide
    · rw [g] at k; cases k

set_option maxHeartbeats 800000 in
set_option maxRecDepth 100000 in
theorem zdFinite1_any (x : Nat) (w : World) :
    Calls Tryz.prog 96 #[.float .f64 x] w fun e w' => e = .returned (.bool (fin x)) ∧ Below w.heap.size w w' := by
  have rS := fsub_run Tryz.prog 26
  have hl := less_self (fval_fn .sub w x x)
  go_enter Tryz.func96, Tryz.ntmps96
  go_wp2
  go_ret
  exact ⟨rfl, fwld_below _ _ _ (Below.refl _ _)⟩

set_option maxHeartbeats 800000 in
set_option maxRecDepth 100000 in
theorem zdFinite_any (a b : Nat) (w : World) :
    Calls Tryz.prog 60 #[.complex .f64 a b] w fun e w' => e = .returned (.bool (fin a && fin b)) ∧ Below w.heap.size w w' := by
  have HX := hid (zdFinite1_any a w)
  have HY := hid (fun V => zdFinite1_any b V)
  cases e : fin a <;> rw [e] at HX <;> clear e
  · rw [Bool.false_and]
    go_enter Tryz.func60, Tryz.ntmps60
    go_wp2_with fail
    refine Calls.mono HX.out ?_
    rintro e w2 ⟨rfl, hb⟩
    go_wp2_with fail
    go_ret
    exact ⟨rfl, hb⟩
  · rw [Bool.true_and]
    go_enter Tryz.func60, Tryz.ntmps60
    go_wp2_with fail
    refine Calls.mono HX.out ?_
    rintro e w2 ⟨rfl, hb⟩
    go_wp2_with fail
    refine Calls.mono (HY.out w2) ?_
    rintro e w3 ⟨rfl, hb3⟩
    go_wp2_with fail
    go_ret
    exact ⟨rfl, hb.trans (hb3.mono hb.size)⟩

end Go.Proofs.YtabkgpnckaaclaaGreatDoor

/- real.Exact and parts.Exact, of finite floats that are not 0. -/
namespace Go.Proofs.YtabkgpnckaaclaaGreatDoor
open Go.RowKit
set_option linter.unusedVariables false

/-- The numerator's and the denominator's value of a float that is not 0. -/
def fnum (x : Nat) : Int := ((fcount x / 2 ^ Lib.ctz 64 (fcount x) : Nat) : Int) * 2 ^ (funit x + (Lib.ctz 64 (fcount x) : Int)).toNat
def fden (x : Nat) : Int := 2 ^ (-(funit x + (Lib.ctz 64 (fcount x) : Int))).toNat
/-- A fraction in memory of the call's own. -/
def OwnR (w : World) (base : Nat) (a : Option Addr) (ca : Nat) (zs : List Int) (b : Option Addr) (cb : Nat) (ds : List Int) : Prop :=
  w.ownsRow base 88 1 (.slice a zs.length ca) zs.length (zs.map (Value.int .u32)) ∧ w.ownsRow base 88 1 (.slice b ds.length cb) ds.length (ds.map (Value.int .u32)) ∧ Wd zs ∧ Trimmed zs ∧ Wd ds ∧ Trimmed ds ∧ a ≠ b
theorem OwnR.later {w w' : World} {base : Nat} {a : Option Addr} {ca : Nat} {zs : List Int} {b : Option Addr} {cb : Nat} {ds : List Int} (h : OwnR w base a ca zs b cb ds) (hb : Below w.heap.size w w') : OwnR w' base a ca zs b cb ds := ⟨owns_later h.1 hb, owns_later h.2.1 hb, h.2.2⟩
theorem OwnR.base {w : World} {base base' : Nat} {a : Option Addr} {ca : Nat} {zs : List Int} {b : Option Addr} {cb : Nat} {ds : List Int} (h : OwnR w base a ca zs b cb ds) (hb : base' ≤ base) : OwnR w base' a ca zs b cb ds := ⟨owns_base h.1 hb, owns_base h.2.1 hb, h.2.2⟩
theorem OwnR.put3 {w : World} {base p t : Nat} {a : Option Addr} {ca : Nat} {zs : List Int} {b : Option Addr} {cb : Nat} {ds : List Int} {vs : Array Value} (h : OwnR w base a ca zs b cb ds) (hb : Box w p t vs) (hne : 88 ≠ t) (v0 v1 v2 : Value) : OwnR (((w.setCell ⟨p, 0, none⟩ v0).setCell ⟨p, 1, none⟩ v1).setCell ⟨p, 2, none⟩ v2) base a ca zs b cb ds :=
  ⟨own_put3 h.1 p (own_ne_box h.1 hb hne) _ _ _, own_put3 h.2.1 p (own_ne_box h.2.1 hb hne) _ _ _, h.2.2⟩

set_option maxHeartbeats 1600000 in
set_option maxRecDepth 100000 in
theorem exact_nz (x : Nat) (w : World) (hx : x < 18446744073709551616) (hf : fin x = true) (h0 : fcount x ≠ 0) (hT : TabB w) :
    Calls Tryz.prog 7 #[.float .f64 x] w fun e w' => ∃ a ca b cb zs ds, e = .returned (.tuple #[.agg #[.bool (x / 9223372036854775808 == 1), .slice a zs.length ca, .slice b ds.length cb], .int .i64 0]) ∧ OwnR w' w.heap.size a ca zs b cb ds ∧ val zs = fnum x ∧ val ds = fden x ∧ Below w.heap.size w w' := by
  have HZ := hid (Box.made w 25 #[.bool false, .slice none 0 0, .slice none 0 0])
  have HB := hid (alloc_later w (.cells #[.bool false, .slice none 0 0, .slice none 0 0] 25))
  have HF := hid (fun V => finite_any x V hx)
  rw [hf] at HF
  have HA := hid (fun V => takeApart_any x V hx)
  have hT2 := hT.later HB.out
  have HTT := hid hT2
  have HU := hid (funit_le x)
  have HC := hid (fcount_lt x)
  have HN := hid h0
  have HV : Hid (fnum x = ((fcount x / 2 ^ Lib.ctz 64 (fcount x) : Nat) : Int) * 2 ^ (funit x + (Lib.ctz 64 (fcount x) : Int)).toNat ∧ fden x = 2 ^ (-(funit x + (Lib.ctz 64 (fcount x) : Int))).toNat) := ⟨rfl, rfl⟩
  generalize fnum x = fN at *
  generalize fden x = fD at *
  generalize (x / 9223372036854775808 == 1) = s at *
  generalize fcount x = m at *
  generalize funit x = u at *
  clear hf h0 hT hT2 hx
  go_enter Tryz.func7, Tryz.ntmps7
  go_wp2_with fail
  generalize w.alloc (.cells #[.bool false, .slice none 0 0, .slice none 0 0] 25) = X at *
  refine Calls.mono (HF.out _) ?_
  rintro e w1 ⟨rfl, rfl⟩
  go_wp2_with fail
  refine Calls.mono (HA.out _) ?_
  rintro e w2 ⟨rfl, hb2⟩
  have HB2 := hid hb2
  have HTT2 := hid (HTT.out.later hb2)
  have HFR := hid (fraction_any s m u w2 (by have := HC.out; omega) HN.out HU.out.1 (by have := HU.out.2; omega) HTT2.out)
  clear hb2
  go_wp2_with fail
  refine Calls.mono HFR.out ?_
  rintro e w3 ⟨a, ca, b, cb, zs, ds, rfl, o1, o2, q1, q2, q3, q4, q5, q6, q7, hb3⟩
  have HO : Hid (OwnR w3 w2.heap.size a ca zs b cb ds) := ⟨o1, o2, q1, q2, q3, q4, q7⟩
  have HQ := hid (And.intro q5 q6)
  have HB3 := hid (bt HB2.out hb3)
  have HZ3 := hid (HZ.out.later HB3.out HZ.out.lt)
  obtain ⟨y0, y1, y2, f0, f1, f2⟩ := res_box3 HZ3.out (Below.refl _ _)
  clear o1 o2 q1 q2 q3 q4 q5 q6 q7 hb3 HFR HTT2 HTT
  go_wp2_with fail
  refine bodyPost_ret (v := .tuple #[.agg #[.bool s, .slice a zs.length ca, .slice b ds.length cb], .int .i64 0]) (by simp [results, Tryz.results7, go_sem, y0, y1, y2]) rfl ?_
  exact ⟨a, ca, b, cb, zs, ds, rfl, (HO.out.put3 HZ3.out (by decide) _ _ _).base (Nat.le_trans HB.out.size HB2.out.size), by rw [HV.out.1]; exact HQ.out.1, by rw [HV.out.2]; exact HQ.out.2, below_put3 (bt HB.out HB3.out) _ (Nat.le_refl _) _ _ _⟩

end Go.Proofs.YtabkgpnckaaclaaGreatDoor

/- real.fraction of nothing; real.Exact of 0, of what is not finite. -/
namespace Go.Proofs.YtabkgpnckaaclaaGreatDoor
open Go.RowKit
set_option linter.unusedVariables false

set_option maxHeartbeats 800000 in
set_option maxRecDepth 100000 in
theorem fraction_zero (s : Bool) (u : Int) (w : World) :
    Calls Tryz.prog 36 #[.agg #[.bool s, .int .u64 0, .int .i64 u]] w fun e w' => ∃ g, e = .returned (.agg #[.bool false, .slice none 0 0, .slice (some ⟨g, 0, none⟩) 1 1]) ∧ OwnW w' w.heap.size g 1 [1] ∧ Below w.heap.size w w' := by
  go_enter Tryz.func36, Tryz.ntmps36
  go_wp2_with fail
  go_returns
  have r := one_row ((w.alloc (.cells #[.bool s, .int .u64 0, .int .i64 u] 65)).alloc (.cells #[.bool false, .slice none 0 0, .slice (some ⟨w.heap.size + 1 + 1, 0, none⟩) 1 1] 25)) (b := w.heap.size) (by rw [World.size_alloc, World.size_alloc]; omega)
  rw [World.size_alloc, World.size_alloc] at r
  exact ⟨_, rfl, r, bt (bt (alloc_later _ _) (alloc_later _ _)) (alloc_later _ _)⟩

set_option maxHeartbeats 800000 in
set_option maxRecDepth 100000 in
theorem exact_bad (x : Nat) (w : World) (hx : x < 18446744073709551616) (hf : fin x = false) :
    Calls Tryz.prog 7 #[.float .f64 x] w fun e w' => e = .returned (.tuple #[.agg #[.bool false, .slice none 0 0, .slice none 0 0], .int .i64 8]) ∧ Below w.heap.size w w' := by
  have HF := hid (fun V => finite_any x V hx)
  rw [hf] at HF
  clear hf hx
  go_enter Tryz.func7, Tryz.ntmps7
  go_wp2_with fail
  refine Calls.mono (HF.out _) ?_
  rintro e w1 ⟨rfl, rfl⟩
  go_wp2_with fail
  go_returns
  exact ⟨rfl, alloc_later _ _⟩

set_option maxHeartbeats 800000 in
set_option maxRecDepth 100000 in
theorem exact_zero (x : Nat) (w : World) (hx : x < 18446744073709551616) (hf : fin x = true) (h0 : fcount x = 0) :
    Calls Tryz.prog 7 #[.float .f64 x] w fun e w' => ∃ g, e = .returned (.tuple #[.agg #[.bool false, .slice none 0 0, .slice (some ⟨g, 0, none⟩) 1 1], .int .i64 0]) ∧ OwnW w' w.heap.size g 1 [1] ∧ Below w.heap.size w w' := by
  have HZ := hid (Box.made w 25 #[.bool false, .slice none 0 0, .slice none 0 0])
  have HB := hid (alloc_later w (.cells #[.bool false, .slice none 0 0, .slice none 0 0] 25))
  have HF := hid (fun V => finite_any x V hx)
  rw [hf] at HF
  have HA := hid (fun V => takeApart_any x V hx)
  rw [h0] at HA
  generalize (x / 9223372036854775808 == 1) = s at *
  generalize funit x = u at *
  clear hf h0 hx
  go_enter Tryz.func7, Tryz.ntmps7
  go_wp2_with fail
  generalize w.alloc (.cells #[.bool false, .slice none 0 0, .slice none 0 0] 25) = X at *
  refine Calls.mono (HF.out _) ?_
  rintro e w1 ⟨rfl, rfl⟩
  go_wp2_with fail
  refine Calls.mono (HA.out _) ?_
  rintro e w2 ⟨rfl, hb2⟩
  have HB2 := hid hb2
  have HFR := hid (fraction_zero s u w2)
  clear hb2
  go_wp2_with fail
  refine Calls.mono HFR.out ?_
  rintro e w3 ⟨g, rfl, o1, hb3⟩
  have HO := hid o1
  have HB3 := hid (bt HB2.out hb3)
  have HZ3 := hid (HZ.out.later HB3.out HZ.out.lt)
  obtain ⟨y0, y1, y2, f0, f1, f2⟩ := res_box3 HZ3.out (Below.refl _ _)
  clear o1 hb3 HFR
  go_wp2_with fail
  refine bodyPost_ret (v := .tuple #[.agg #[.bool false, .slice none 0 0, .slice (some ⟨g, 0, none⟩) 1 1], .int .i64 0]) (by simp [results, Tryz.results7, go_sem, y0, y1, y2]) rfl ?_
  exact ⟨g, rfl, owns_base (own_put3 HO.out w.heap.size (own_ne_box HO.out HZ3.out (by decide)) _ _ _) (Nat.le_trans HB.out.size HB2.out.size), below_put3 (bt HB.out HB3.out) _ (Nat.le_refl _) _ _ _⟩

end Go.Proofs.YtabkgpnckaaclaaGreatDoor

/- real.Exact, of every float: the fraction that it is, in its one form, or the error. -/
namespace Go.Proofs.YtabkgpnckaaclaaGreatDoor
open Go.RowKit
set_option linter.unusedVariables false

/-- The fraction that a finite float is. -/
def fq (x : Nat) : Rat := Rat.divInt (sg (x / 9223372036854775808 == 1) ((fcount x : Int) * 2 ^ (funit x).toNat)) (2 ^ (-(funit x)).toNat)

/-- A fraction told in new memory, Num and Den apart, whichever was made first. -/
def RToldB (w : World) (e : Int) (q : Rat) (x : Ending) (w' : World) : Prop :=
  ∃ n a ca b cb xs ys code, x = .returned (.tuple #[.agg #[.bool n, .slice a (List.length xs) ca, .slice b (List.length ys) cb], .int .i64 code]) ∧ w'.ownsRow w.heap.size 88 1 (.slice a xs.length ca) xs.length (xs.map (Value.int .u32)) ∧ w'.ownsRow w.heap.size 88 1 (.slice b ys.length cb) ys.length (ys.map (Value.int .u32)) ∧ RTells e q n xs ys code ∧ (a = none ∨ a ≠ b) ∧ Below w.heap.size w w'

theorem odd_pow (j e : Nat) : Nat.gcd (2 * j + 1) (2 ^ e) = 1 := by
  have h : Nat.Coprime (2 * j + 1) 2 := by
    unfold Nat.Coprime
    rw [Nat.gcd_comm, Nat.gcd_rec, show (2 * j + 1) % 2 = 1 by omega]
    rfl
  exact Nat.Coprime.pow_right e h

theorem count_odd {m : Nat} (h0 : m ≠ 0) (hm : m < 18446744073709551616) : ∃ j, m = 2 ^ Lib.ctz 64 m * (2 * j + 1) ∧ m / 2 ^ Lib.ctz 64 m = 2 * j + 1 ∧ Lib.ctz 64 m < 64 := by
  obtain ⟨j, hj, hk⟩ := Lib.ctzFrom_spec 64 m (by omega) hm
  have e : Lib.ctz 64 m = Lib.ctzFrom 64 m := by unfold Lib.ctz; rw [if_neg h0]
  rw [e]
  clear e
  generalize Lib.ctzFrom 64 m = k at *
  exact ⟨j, hj, by rw [hj]; exact Nat.mul_div_cancel_left _ (Nat.two_pow_pos _), hk⟩

theorem rtells_self {n : Bool} {xs ys : List Int} (wx : Wd xs) (wy : Wd ys) (h : rchk n xs ys = 0) : RTells 0 (rq n xs ys) n xs ys 0 := by
  obtain ⟨lx, ly, tx, ty, y0, s0, g⟩ := rchk_ok h
  obtain ⟨m, us, vs, c, e1, e2, e3, r⟩ := rtells_of (n := n) wx tx wy ty (val_pos' wy ty y0) g
  have e4 := e1 none 0 none 0
  unfold rtoldV at e4
  rw [if_neg (by omega)] at e4
  have hc : c = 0 := by
    simp at e4
    exact e4.2.symm
  subst hc
  have hm : (n && decide (0 < xs.length)) = n := by
    rcases s0 with rfl | s0
    · rfl
    · rw [decide_eq_true s0, Bool.and_true]
  rw [hm] at e4
  have hn : n = m := by simp at e4; exact e4
  subst hn
  rw [if_pos rfl] at e2 e3
  subst e2 e3
  exact r

/-- In lowest terms, of not too many words, and the float's value. -/
theorem frac_good {x : Nat} {zs ds : List Int} (h0 : fcount x ≠ 0) (wz : Wd zs) (tz : Trimmed zs) (wd : Wd ds) (td : Trimmed ds) (hz : val zs = fnum x) (hd : val ds = fden x) :
    RTells 0 (fq x) (x / 9223372036854775808 == 1) zs ds 0 := by
  have hc := fcount_lt x
  have hu := funit_le x
  obtain ⟨j, hj, hq, hk⟩ := count_odd h0 (by omega)
  unfold fnum at hz
  unfold fden at hd
  rw [hq] at hz
  have hfq : fq x = Rat.divInt (sg (x / 9223372036854775808 == 1) ((fcount x : Int) * 2 ^ (funit x).toNat)) (2 ^ (-(funit x)).toNat) := rfl
  generalize (x / 9223372036854775808 == 1) = n at *
  generalize fcount x = m at *
  generalize funit x = u at *
  generalize Lib.ctz 64 m = k at *
  have hjb : 2 * j + 1 ≤ m := by
    rw [hj]
    exact Nat.le_mul_of_pos_left _ (Nat.two_pow_pos k)
  have hpz := two_pos (u + (k : Int)).toNat
  have hpd := two_pos (-(u + (k : Int))).toNat
  have hz1 : val zs < 4294967296 ^ 40 := by
    have e1 : (2 : Int) ^ (u + (k : Int)).toNat ≤ 2 ^ 1200 := two_le (by omega)
    have e2 : val zs ≤ 9007199254740992 * 2 ^ (u + (k : Int)).toNat := by rw [hz]; exact Int.mul_le_mul_of_nonneg_right (by omega) (Int.le_of_lt hpz)
    have e3 : (9007199254740992 : Int) = 2 ^ 53 := by decide
    have e4 : (9007199254740992 : Int) * 2 ^ (u + (k : Int)).toNat ≤ 2 ^ 1253 := by
      rw [e3, ← Int.pow_add]; exact two_le (by omega)
    have e5 : (2 : Int) ^ 1253 < 4294967296 ^ 40 := by
      rw [pw_two]
      have : (2 : Int) ^ 1254 ≤ 2 ^ (32 * 40) := two_le (by omega)
      have e6 : (2 : Int) ^ 1254 = 2 ^ 1253 * 2 := Int.pow_succ 2 1253
      have e7 := two_pos 1253
      generalize (2 : Int) ^ 1253 = P at *
      omega
    generalize (2 : Int) ^ 1253 = P at *
    generalize (4294967296 : Int) ^ 40 = Q at *
    omega
  have hd1 : val ds < 4294967296 ^ 40 := by
    rw [hd, pw_two]
    have e1 : (2 : Int) ^ (-(u + (k : Int))).toNat ≤ 2 ^ 1074 := two_le (by omega)
    have e2 : (2 : Int) ^ 1075 ≤ 2 ^ (32 * 40) := two_le (by omega)
    have e3 : (2 : Int) ^ 1075 = 2 ^ 1074 * 2 := Int.pow_succ 2 1074
    have e4 := two_pos 1074
    generalize (2 : Int) ^ 1074 = P at *
    generalize (2 : Int) ^ (32 * 40) = Q at *
    omega
  have lz := len_of_lt wz tz hz1
  have ld := len_of_lt wd td hd1
  have zpos : 0 < val zs := by rw [hz]; exact Int.mul_pos (by omega) hpz
  have dpos : 0 < val ds := by rw [hd]; exact hpd
  have zl : 0 < zs.length := by
    cases zs with
    | nil => rw [val_nil] at zpos; omega
    | cons a b => simp
  have dl : 0 < ds.length := by
    cases ds with
    | nil => rw [val_nil] at dpos; omega
    | cons a b => simp
  have hg : gcdI (val zs) (val ds) = 1 := by
    unfold gcdI
    by_cases hU : 0 ≤ u + (k : Int)
    · rw [hd, show (-(u + (k : Int))).toNat = 0 by omega, Int.pow_zero, Int.gcd_one_right]; rfl
    · rw [hz, hd, show (u + (k : Int)).toNat = 0 by omega, Int.pow_zero, Int.mul_one]
      have e : (2 : Int) ^ (-(u + (k : Int))).toNat = ((2 ^ (-(u + (k : Int))).toNat : Nat) : Int) := by rw [Int.natCast_pow]; rfl
      rw [e, Int.gcd_natCast_natCast, odd_pow]; rfl
  have hk0 : rchk n zs ds = 0 := rchk_good (by omega) (by omega) tz td dl (.inr zl) hg
  have hr : rq n zs ds = fq x := by
    rw [hfq]
    show Rat.divInt (sg n (val zs)) (val ds) = _
    rw [Rat.divInt_eq_divInt_iff (by omega) (by have := two_pos (-u).toNat; omega), ← sg_mul, ← sg_mul, hz, hd]
    congr 1
    rw [hj, Int.natCast_mul, Int.natCast_pow]
    have e : (2 : Int) ^ (u + (k : Int)).toNat * 2 ^ (-u).toNat = 2 ^ k * 2 ^ u.toNat * 2 ^ (-(u + (k : Int))).toNat := by
      rw [← Int.pow_add, ← Int.pow_add, ← Int.pow_add]
      congr 1
      omega
    rw [Int.mul_assoc, e]
    show _ = ((2 : Int) ^ k * _ * _) * _
    generalize ((2 * j + 1 : Nat) : Int) = O
    ac_rfl
  rw [← hr]
  exact rtells_self wz wd hk0

theorem zero_good {x : Nat} (h0 : fcount x = 0) : RTells 0 (fq x) false [] [1] 0 := by
  have hk0 : rchk false [] [1] = 0 := by decide
  have hr : rq false [] [1] = fq x := by
    unfold fq
    rw [h0]
    show Rat.divInt 0 1 = _
    have e : sg (x / 9223372036854775808 == 1) (((0 : Nat) : Int) * 2 ^ (funit x).toNat) = 0 := by
      rw [Int.natCast_zero, Int.zero_mul]
      cases (x / 9223372036854775808 == 1) <;> rfl
    rw [e, Rat.zero_divInt, Rat.zero_divInt]
  rw [← hr]
  exact rtells_self Wd.nil one_wd hk0

theorem exact_any (x : Nat) (w : World) (hx : x < 18446744073709551616) (hT : TabB w) :
    Calls Tryz.prog 7 #[.float .f64 x] w (RToldB w (if fin x then 0 else 8) (fq x)) := by
  cases hf : fin x
  · refine Calls.mono (exact_bad x w hx hf) ?_
    rintro e w' ⟨rfl, hb⟩
    exact ⟨false, none, 0, none, 0, [], [], 8, rfl, World.ownsRow_nil _ _ _ _, World.ownsRow_nil _ _ _ _, RTells.err (by decide), .inl rfl, hb⟩
  · by_cases h0 : fcount x = 0
    · refine Calls.mono (exact_zero x w hx hf h0) ?_
      rintro e w' ⟨g, rfl, o, hb⟩
      exact ⟨false, none, 0, some ⟨g, 0, none⟩, 1, [], [1], 0, rfl, World.ownsRow_nil _ _ _ _, o, zero_good h0, .inl rfl, hb⟩
    · refine Calls.mono (exact_nz x w hx hf h0 hT) ?_
      rintro e w' ⟨a, ca, b, cb, zs, ds, rfl, o, vz, vd, hb⟩
      exact ⟨_, a, ca, b, cb, zs, ds, 0, rfl, o.1, o.2.1, frac_good h0 o.2.2.1 o.2.2.2.1 o.2.2.2.2.1 o.2.2.2.2.2.1 vz vd, .inr o.2.2.2.2.2.2, hb⟩

end Go.Proofs.YtabkgpnckaaclaaGreatDoor

/- Finite floats as whole numbers of 2^-1074: what sums, differences and products tell, and bounds that go with them. Nothing here speaks of the program. -/
namespace Go.Proofs.YtabkgpnckaaclaaGreatDoor

/-- Finite, by the bits. -/
def Fi (x : Nat) : Prop := x < 18446744073709551616 ∧ x % 9223372036854775808 < 9218868437227405312
/-- The number that finite bits stand for, in units of 2^-1074. -/
def sv (x : Nat) : Int := if (x / 9223372036854775808 % 2 == 1) = true then -(rungVal (x % 9223372036854775808) : Int) else (rungVal (x % 9223372036854775808) : Int)

theorem sv_low {x : Nat} (h : x < 9223372036854775808) : sv x = (rungVal x : Int) := by
  unfold sv
  rw [Nat.div_eq_of_lt h, Nat.mod_eq_of_lt h]; rfl
theorem sv_high {x : Nat} (h : x < 9223372036854775808) : sv (9223372036854775808 + x) = -(rungVal x : Int) := by
  unfold sv
  rw [show (9223372036854775808 + x) / 9223372036854775808 = 1 by omega, show (9223372036854775808 + x) % 9223372036854775808 = x by omega]; rfl
theorem sv_word (neg : Bool) (s : Nat) (h : s ≤ 9218868437227405312) : sv (Ieee.double.word neg s) = if neg = true then -(rungVal s : Int) else (rungVal s : Int) := by
  cases neg
  · exact sv_low (x := s) (by omega)
  · show sv (Ieee.double.signWeight + s) = _
    rw [dbl_sign]; exact sv_high (by omega)
theorem sv_abs (x : Nat) : (sv x).natAbs = rungVal (x % 9223372036854775808) := by
  unfold sv; split <;> omega
theorem Fi.opp {x : Nat} (h : Fi x) : Fi (fopp x) := ⟨(fopp_mod h.1).2, by rw [(fopp_mod h.1).1]; exact h.2⟩
theorem sv_opp {x : Nat} (h : x < 18446744073709551616) : sv (fopp x) = -sv x := by
  by_cases h1 : x < 9223372036854775808
  · rw [fopp_low h1, sv_high h1, sv_low h1]
  · have e : x = 9223372036854775808 + (x - 9223372036854775808) := by omega
    rw [fopp_high h (by omega), sv_low (by omega)]
    rw [e, sv_high (by omega)]
    simp
theorem Fi.notnan {x : Nat} (h : Fi x) : isnan x = false := by
  unfold isnan; exact decide_eq_false (by have := h.2; omega)
theorem rungVal_zero {r : Nat} : rungVal r = 0 ↔ r = 0 := by
  constructor
  · intro h
    by_cases hz : r = 0
    · exact hz
    · have h1 := rungVal_lt (r := 0) (s := r) (by omega)
      omega
  · intro h; subst h; rfl

/-- r is the float nearest to A / D. -/
def RN (A : Int) (D r : Nat) : Prop := ∃ neg s, r = Ieee.double.word neg s ∧ (A < 0 → neg = true) ∧ (0 < A → neg = false) ∧ Mid A.natAbs D s

theorem mid_zero (D : Nat) : Mid 0 D 0 := ⟨by omega, fun _ => by omega, fun h => by omega, fun _ _ => rfl, fun h => by omega⟩

theorem near_rn {neg : Bool} {mag : Nat} {place : Int} {A : Int} {D : Nat} (hD : 0 < D) (e : mag * 2 ^ (place + 1074).toNat * D = A.natAbs * 2 ^ (-(place + 1074)).toNat) (h1 : A < 0 → neg = true) (h2 : 0 < A → neg = false) :
    RN A D (Ieee.double.nearest neg mag place) := by
  have hB : 0 < 2 ^ (-(place + 1074)).toNat := Nat.two_pow_pos _
  by_cases h0 : mag = 0
  · subst h0
    rw [Nat.zero_mul, Nat.zero_mul] at e
    have hA : A.natAbs = 0 := by
      rcases Nat.mul_eq_zero.1 e.symm with h | h
      · exact h
      · omega
    exact ⟨neg, 0, by simp [Ieee.Format.nearest], h1, h2, by rw [hA]; exact mid_zero D⟩
  · obtain ⟨s, e1, m⟩ := near_is_mid neg mag place h0
    refine ⟨neg, s, e1, h1, h2, ?_⟩
    have m2 := m.scale D hD
    rw [e, Nat.mul_comm (2 ^ (-(place + 1074)).toNat) D] at m2
    exact m2.back _ hB

theorem FN.bits {op : BinOp} {x y r s : Nat} (h : FN op x y r) (g : floatBits op .f64 x y = .some s) : r = s := by
  rcases h.2 with h | ⟨h, _⟩
  · rw [h] at g; exact Option.some.inj g
  · rw [h] at g; cases g

theorem sv_sign {x : Nat} {s : Bool} (hs : (x / 9223372036854775808 % 2 == 1) = s) : sv x = if s = true then -(rungVal (x % 9223372036854775808) : Int) else (rungVal (x % 9223372036854775808) : Int) := by
  unfold sv; rw [hs]

theorem pow_join (E a b m n : Nat) (hE : E = 1074) : m * n * 2 ^ (-1074 + (a : Int) + (-1074 + (b : Int)) + 1074).toNat * 2 ^ E = (m * 2 ^ a) * (n * 2 ^ b) * 2 ^ (-(-1074 + (a : Int) + (-1074 + (b : Int)) + 1074)).toNat := by
  by_cases h : 1074 ≤ a + b
  · have t1 : (-1074 + (a : Int) + (-1074 + (b : Int)) + 1074).toNat = a + b - 1074 := by omega
    have t2 : (-(-1074 + (a : Int) + (-1074 + (b : Int)) + 1074)).toNat = 0 := by omega
    rw [t1, t2, Nat.mul_assoc (m * n), ← Nat.pow_add, show a + b - 1074 + E = a + b by omega, Nat.pow_add, Nat.pow_zero, Nat.mul_one]
    rw [Nat.mul_assoc, Nat.mul_assoc, Nat.mul_left_comm n]
  · have t1 : (-1074 + (a : Int) + (-1074 + (b : Int)) + 1074).toNat = 0 := by omega
    have t2 : (-(-1074 + (a : Int) + (-1074 + (b : Int)) + 1074)).toNat = E - (a + b) := by omega
    rw [t1, t2, Nat.pow_zero, Nat.mul_one]
    have e : 2 ^ E = 2 ^ a * 2 ^ b * 2 ^ (E - (a + b)) := by rw [← Nat.pow_add, ← Nat.pow_add]; congr 1; omega
    rw [e]
    generalize 2 ^ a = A
    generalize 2 ^ b = B
    generalize 2 ^ (E - (a + b)) = C
    rw [← Nat.mul_assoc, ← Nat.mul_assoc]
    congr 1
    rw [Nat.mul_assoc m A, Nat.mul_left_comm A n B, ← Nat.mul_assoc m n, Nat.mul_assoc (m * n)]

/-- A product. -/
theorem mul_rn {x y r : Nat} (E : Nat) (hE : E = 1074) (hx : Fi x) (hy : Fi y) (h : FN .mul x y r) : RN (sv x * sv y) (2 ^ E) r := by
  obtain ⟨m, a, e1, v1⟩ := read_num hx.2
  obtain ⟨n, b, e2, v2⟩ := read_num hy.2
  generalize hs : (x / 9223372036854775808 % 2 == 1) = s at e1
  generalize ht : (y / 9223372036854775808 % 2 == 1) = t at e2
  have hb : floatBits .mul .f64 x y = some (Ieee.double.nearest (s ^^ t) (m * n) (-1074 + (a : Int) + (-1074 + (b : Int)))) := by
    show (((Ieee.double.read x).product (Ieee.double.read y)).map Ieee.double.write) = _
    rw [e1, e2]; rfl
  rw [h.bits hb]
  have hX := sv_sign hs
  have hY := sv_sign ht
  refine near_rn (Nat.two_pow_pos _) ?_ ?_ ?_
  · rw [Int.natAbs_mul, sv_abs, sv_abs, ← v1, ← v2]
    exact pow_join E a b m n hE
  · intro hA
    cases s <;> cases t <;> simp only [Bool.false_eq_true, if_false, if_true] at hX hY <;> rw [hX, hY] at hA
    · exfalso
      have := Int.mul_nonneg (Int.natCast_nonneg (rungVal (x % 9223372036854775808))) (Int.natCast_nonneg (rungVal (y % 9223372036854775808)))
      omega
    · rfl
    · rfl
    · exfalso
      rw [Int.neg_mul_neg] at hA
      have := Int.mul_nonneg (Int.natCast_nonneg (rungVal (x % 9223372036854775808))) (Int.natCast_nonneg (rungVal (y % 9223372036854775808)))
      omega
  · intro hA
    cases s <;> cases t <;> simp only [Bool.false_eq_true, if_false, if_true] at hX hY <;> rw [hX, hY] at hA
    · rfl
    · exfalso
      rw [Int.mul_neg] at hA
      have := Int.mul_nonneg (Int.natCast_nonneg (rungVal (x % 9223372036854775808))) (Int.natCast_nonneg (rungVal (y % 9223372036854775808)))
      omega
    · exfalso
      rw [Int.neg_mul] at hA
      have := Int.mul_nonneg (Int.natCast_nonneg (rungVal (x % 9223372036854775808))) (Int.natCast_nonneg (rungVal (y % 9223372036854775808)))
      omega
    · rfl

theorem signed_pow (s : Bool) (m a c : Nat) (h : c ≤ a) : Ieee.signed s m (a - c) * ((2 ^ c : Nat) : Int) = if s = true then -((m * 2 ^ a : Nat) : Int) else ((m * 2 ^ a : Nat) : Int) := by
  have e : m * 2 ^ a = m * 2 ^ (a - c) * 2 ^ c := by rw [Nat.mul_assoc, ← Nat.pow_add, show a - c + c = a by omega]
  rw [e]
  unfold Ieee.signed
  rw [Nat.shiftLeft_eq]
  generalize m * 2 ^ (a - c) = u
  generalize 2 ^ c = p
  cases s
  · simp
  · simp only [if_true]; rw [Int.neg_mul, Int.natCast_mul]

/-- A sum. -/
theorem add_rn {x y r : Nat} (hx : Fi x) (hy : Fi y) (h : FN .add x y r) : RN (sv x + sv y) 1 r := by
  obtain ⟨m, a, e1, v1⟩ := read_num hx.2
  obtain ⟨n, b, e2, v2⟩ := read_num hy.2
  generalize hs : (x / 9223372036854775808 % 2 == 1) = s at e1
  generalize ht : (y / 9223372036854775808 % 2 == 1) = t at e2
  have t1 : (-1074 + (a : Int) - min (-1074 + (a : Int)) (-1074 + (b : Int))).toNat = a - min a b := by omega
  have t2 : (-1074 + (b : Int) - min (-1074 + (a : Int)) (-1074 + (b : Int))).toNat = b - min a b := by omega
  obtain ⟨T, hT⟩ : ∃ T, Ieee.signed s m (a - min a b) + Ieee.signed t n (b - min a b) = T := ⟨_, rfl⟩
  have hb : floatBits .add .f64 x y = some (Ieee.double.nearest (if T = 0 then s && t else decide (T < 0)) T.natAbs (min (-1074 + (a : Int)) (-1074 + (b : Int)))) := by
    show (((Ieee.double.read x).sum (Ieee.double.read y)).map Ieee.double.write) = _
    rw [e1, e2]
    simp only [Ieee.Datum.sum, t1, t2, hT]
    rfl
  rw [h.bits hb]
  have hp : 0 < 2 ^ min a b := Nat.two_pow_pos _
  have key : sv x + sv y = T * ((2 ^ min a b : Nat) : Int) := by
    rw [← hT, Int.add_mul, signed_pow s m a _ (Nat.min_le_left ..), signed_pow t n b _ (Nat.min_le_right ..), v1, v2, sv_sign hs, sv_sign ht]
  rw [key]
  have hp' : (0 : Int) < ((2 ^ min a b : Nat) : Int) := by omega
  refine near_rn (by omega) ?_ ?_ ?_
  · rw [Int.natAbs_mul, Int.natAbs_natCast, show (min (-1074 + (a : Int)) (-1074 + (b : Int)) + 1074).toNat = min a b by omega, show (-(min (-1074 + (a : Int)) (-1074 + (b : Int)) + 1074)).toNat = 0 by omega, Nat.pow_zero]
  · intro hA
    have h0 : T < 0 := by
      by_cases hz : T < 0
      · exact hz
      · have := Int.mul_nonneg (show 0 ≤ T by omega) (Int.le_of_lt hp'); omega
    rw [if_neg (by omega)]; exact decide_eq_true h0
  · intro hA
    have h0 : 0 < T := by
      by_cases hz : 0 < T
      · exact hz
      · have := Int.mul_nonneg (show 0 ≤ -T by omega) (Int.le_of_lt hp'); rw [Int.neg_mul] at this; omega
    rw [if_neg (by omega)]; exact decide_eq_false (by omega)

theorem sub_fopp {x y r : Nat} (hy : y < 18446744073709551616) (h : FN .sub x y r) : FN .add x (fopp y) r := by
  have e : floatBits .sub .f64 x y = floatBits .add .f64 x (fopp y) := by
    show (((Ieee.double.read x).sum (Ieee.double.read y).opposite).map Ieee.double.write) = (((Ieee.double.read x).sum (Ieee.double.read (fopp y))).map Ieee.double.write)
    rw [read_fopp hy]
  exact ⟨h.1, by rw [← e]; exact h.2⟩
/-- A difference. -/
theorem sub_rn {x y r : Nat} (hx : Fi x) (hy : Fi y) (h : FN .sub x y r) : RN (sv x - sv y) 1 r := by
  have := add_rn hx hy.opp (sub_fopp hy.1 h)
  rw [sv_opp hy.1] at this
  exact this

/-- Not above a float: so is the nearest. -/
theorem Mid.le {A D s r : Nat} (hD : 0 < D) (h : Mid A D s) (g : A ≤ rungVal r * D) : s ≤ r := by
  by_cases hlt : s ≤ r
  · exact hlt
  · exfalso
    have m := h.down (by omega)
    have g1 : rungVal r < rungVal s := rungVal_lt (by omega)
    have g2 : rungVal r ≤ rungVal (s - 1) := rungVal_le (by omega)
    have g3 : (2 * rungVal r) * D < (rungVal (s - 1) + rungVal s) * D := Nat.mul_lt_mul_of_pos_right (by omega) hD
    rw [Nat.mul_assoc 2] at g3
    omega
theorem Mid.ge {A D s r : Nat} (hD : 0 < D) (h : Mid A D s) (hr : r ≤ 9218868437227405312) (g : rungVal r * D ≤ A) : r ≤ s := by
  by_cases hlt : r ≤ s
  · exact hlt
  · exfalso
    have m := h.up (by omega)
    have g1 : rungVal s < rungVal r := rungVal_lt (by omega)
    have g2 : rungVal (s + 1) ≤ rungVal r := rungVal_le (by omega)
    have g3 : (rungVal s + rungVal (s + 1)) * D < (2 * rungVal r) * D := Nat.mul_lt_mul_of_pos_right (by omega) hD
    rw [Nat.mul_assoc 2] at g3
    omega

/-- A whole number of at most 2^53 in some unit is a float. -/
theorem rep (m k : Nat) (hm : m ≤ 9007199254740992) (h1 : 53 ≤ k) (h2 : k ≤ 2044) : ∃ r, r < 9218868437227405312 ∧ rungVal r = m * 2 ^ k := by
  by_cases h0 : m = 0
  · subst h0; exact ⟨0, by omega, by rw [Nat.zero_mul]; rfl⟩
  by_cases hb : 4503599627370496 ≤ m
  · exact ⟨k * 4503599627370496 + m, by omega, rungVal_count hm (fun _ => hb)⟩
  · have hlo := Nat.log2_self_le h0
    have hhi : m < 2 ^ (m.log2 + 1) := Nat.lt_log2_self
    generalize m.log2 = L at hlo hhi
    have b52 : (2 : Nat) ^ 52 = 4503599627370496 := by decide
    have hL : L < 52 := by
      by_cases hc : L < 52
      · exact hc
      · have := Nat.pow_le_pow_right (show 0 < 2 by decide) (show 52 ≤ L by omega); omega
    have e1 : 2 ^ L * 2 ^ (52 - L) = 4503599627370496 := by rw [← Nat.pow_add, ← b52]; congr 1; omega
    have e2 : 2 ^ (L + 1) * 2 ^ (52 - L) = 9007199254740992 := by rw [← Nat.pow_add, show L + 1 + (52 - L) = 53 by omega]
    have k1 := Nat.mul_le_mul_right (2 ^ (52 - L)) hlo
    have k2 := Nat.mul_le_mul_right (2 ^ (52 - L)) (Nat.le_of_lt hhi)
    rw [e1] at k1
    rw [e2] at k2
    refine ⟨(k - (52 - L)) * 4503599627370496 + m * 2 ^ (52 - L), by omega, ?_⟩
    rw [rungVal_count k2 (fun _ => k1), Nat.mul_assoc, ← Nat.pow_add, show 52 - L + (k - (52 - L)) = k by omega]

/-- From lo to hi units of 2^(k - 1074). -/
def In (k : Nat) (lo hi : Int) (x : Nat) : Prop := Fi x ∧ lo * ((2 ^ k : Nat) : Int) ≤ sv x ∧ sv x ≤ hi * ((2 ^ k : Nat) : Int)

theorem word_fi (neg : Bool) {s : Nat} (h : s < 9218868437227405312) : Fi (Ieee.double.word neg s) := by
  cases neg
  · exact ⟨by show s < _; omega, by show s % _ < _; rw [Nat.mod_eq_of_lt (by omega)]; exact h⟩
  · have e : Ieee.double.word true s = 9223372036854775808 + s := by show Ieee.double.signWeight + s = _; rw [dbl_sign]
    rw [e]; exact ⟨by omega, by omega⟩

theorem mulD_le {a b : Int} {D : Nat} (hD : 0 < D) (h : a * (D : Int) ≤ b * (D : Int)) : a ≤ b := Int.le_of_mul_le_mul_right h (by omega)

/-- Bounds that are floats hold for the nearest too. -/
theorem RN.bounds {A : Int} {D r : Nat} (h : RN A D r) (hD : 0 < D) {k : Nat} {lo hi : Int} (k1 : 53 ≤ k) (k2 : k ≤ 2044) (b1 : -9007199254740992 ≤ lo) (b2 : hi ≤ 9007199254740992)
    (hl : lo * ((2 ^ k : Nat) : Int) * (D : Int) ≤ A) (hh : A ≤ hi * ((2 ^ k : Nat) : Int) * (D : Int)) : In k lo hi r := by
  obtain ⟨neg, s, rfl, n1, n2, m⟩ := h
  have hP : 0 < 2 ^ k := Nat.two_pow_pos k
  have hlh : lo ≤ hi := mulD_le hP (mulD_le hD (Int.le_trans hl hh))
  have hPD : 0 < 2 ^ k * D := Nat.mul_pos hP hD
  have hl' : lo * ((2 ^ k * D : Nat) : Int) ≤ A := by rw [Int.natCast_mul, ← Int.mul_assoc]; exact hl
  have hh' : A ≤ hi * ((2 ^ k * D : Nat) : Int) := by rw [Int.natCast_mul, ← Int.mul_assoc]; exact hh
  -- a whole number c of units, not below 0
  have up : ∀ c : Nat, c ≤ 9007199254740992 → (A.natAbs : Int) ≤ (c : Int) * ((2 ^ k * D : Nat) : Int) → s < 9218868437227405312 ∧ (rungVal s : Int) ≤ (c : Int) * ((2 ^ k : Nat) : Int) := by
    intro c hc hA
    obtain ⟨r, hr, hv⟩ := rep c k hc k1 k2
    have g : A.natAbs ≤ rungVal r * D := by
      rw [hv, Nat.mul_assoc]
      rw [← Int.natCast_mul] at hA
      exact Int.ofNat_le.1 hA
    have hs := m.le hD g
    refine ⟨by omega, ?_⟩
    have := rungVal_le hs
    rw [hv] at this
    rw [← Int.natCast_mul]
    exact Int.ofNat_le.2 this
  have down : ∀ c : Nat, c ≤ 9007199254740992 → (c : Int) * ((2 ^ k * D : Nat) : Int) ≤ (A.natAbs : Int) → (c : Int) * ((2 ^ k : Nat) : Int) ≤ (rungVal s : Int) := by
    intro c hc hA
    obtain ⟨r, hr, hv⟩ := rep c k hc k1 k2
    have g : rungVal r * D ≤ A.natAbs := by
      rw [hv, Nat.mul_assoc]
      rw [← Int.natCast_mul] at hA
      exact Int.ofNat_le.1 hA
    have hs := m.ge hD (by omega) g
    have := rungVal_le hs
    rw [hv] at this
    rw [← Int.natCast_mul]
    exact Int.ofNat_le.2 this
  unfold In
  generalize hQ : 2 ^ k * D = Q at *
  generalize 2 ^ k = P at *
  have key : ∀ n c : Int, n ≤ c → n * (P : Int) ≤ c * (P : Int) := fun n c h => Int.mul_le_mul_of_nonneg_right h (by omega)
  have hrv : (0 : Int) ≤ (rungVal s : Int) := by omega
  cases neg with
  | false =>
    have hA : 0 ≤ A := by
      by_cases hz : A < 0
      · cases n1 hz
      · omega
    have hi0 : 0 ≤ hi := by
      by_cases hz : 0 ≤ hi
      · exact hz
      · have := Int.mul_le_mul_of_nonneg_right (show hi ≤ -1 by omega) (show (0 : Int) ≤ (Q : Int) by omega)
        omega
    obtain ⟨u1, u2⟩ := up hi.toNat (by omega) (by rw [Int.toNat_of_nonneg hi0]; omega)
    rw [Int.toNat_of_nonneg hi0] at u2
    refine ⟨word_fi _ u1, ?_, ?_⟩
    · rw [sv_word _ _ (by omega)]
      simp only [Bool.false_eq_true, if_false]
      by_cases hz : 0 ≤ lo
      · have := down lo.toNat (by omega) (by rw [Int.toNat_of_nonneg hz]; omega)
        rw [Int.toNat_of_nonneg hz] at this
        exact this
      · have := key lo 0 (by omega); omega
    · rw [sv_word _ _ (by omega)]
      simp only [Bool.false_eq_true, if_false]
      exact u2
  | true =>
    have hA : A ≤ 0 := by
      by_cases hz : 0 < A
      · cases n2 hz
      · omega
    have lo0 : 0 ≤ -lo := by
      by_cases hz : 0 ≤ -lo
      · exact hz
      · have := Int.mul_le_mul_of_nonneg_right (show 1 ≤ lo by omega) (show (0 : Int) ≤ (Q : Int) by omega)
        omega
    obtain ⟨u1, u2⟩ := up (-lo).toNat (by omega) (by rw [Int.toNat_of_nonneg lo0, Int.neg_mul]; omega)
    rw [Int.toNat_of_nonneg lo0, Int.neg_mul] at u2
    refine ⟨word_fi _ u1, ?_, ?_⟩
    · rw [sv_word _ _ (by omega)]
      simp only [if_true]
      omega
    · rw [sv_word _ _ (by omega)]
      simp only [if_true]
      by_cases hz : 0 ≤ -hi
      · have := down (-hi).toNat (by omega) (by rw [Int.toNat_of_nonneg hz, Int.neg_mul]; omega)
        rw [Int.toNat_of_nonneg hz, Int.neg_mul] at this
        omega
      · have := key 0 hi (by omega); omega

/-- A product lies between the least and the greatest of the corners. -/
theorem corner_ge {a b c d x y M : Int} (h1 : a ≤ x) (h2 : x ≤ b) (h3 : c ≤ y) (h4 : y ≤ d) (k1 : M ≤ a * c) (k2 : M ≤ a * d) (k3 : M ≤ b * c) (k4 : M ≤ b * d) : M ≤ x * y := by
  have side : ∀ u : Int, M ≤ u * c → M ≤ u * d → M ≤ u * y := by
    intro u g1 g2
    by_cases hu : 0 ≤ u
    · have := Int.mul_le_mul_of_nonneg_left h3 hu; omega
    · have := Int.mul_le_mul_of_nonneg_left h4 (show 0 ≤ -u by omega)
      rw [Int.neg_mul, Int.neg_mul] at this; omega
  have ga := side a k1 k2
  have gb := side b k3 k4
  by_cases hy : 0 ≤ y
  · have := Int.mul_le_mul_of_nonneg_right h1 hy; omega
  · have := Int.mul_le_mul_of_nonneg_right h2 (show 0 ≤ -y by omega)
    rw [Int.mul_neg, Int.mul_neg] at this; omega
theorem corner_le {a b c d x y M : Int} (h1 : a ≤ x) (h2 : x ≤ b) (h3 : c ≤ y) (h4 : y ≤ d) (k1 : a * c ≤ M) (k2 : a * d ≤ M) (k3 : b * c ≤ M) (k4 : b * d ≤ M) : x * y ≤ M := by
  have := corner_ge (a := -b) (b := -a) (c := c) (d := d) (x := -x) (y := y) (M := -M) (by omega) (by omega) h3 h4 (by rw [Int.neg_mul]; omega) (by rw [Int.neg_mul]; omega) (by rw [Int.neg_mul]; omega) (by rw [Int.neg_mul]; omega)
  rw [Int.neg_mul] at this
  omega

theorem In.mul {k k' k'' s x y r : Nat} {a b c d L U : Int} (hx : In k a b x) (hy : In k' c d y) (h : FN .mul x y r) (e : k + k' + s = k'' + 1074) (k1 : 53 ≤ k'') (k2 : k'' ≤ 2044) (b1 : -9007199254740992 ≤ L) (b2 : U ≤ 9007199254740992)
    (l1 : L * ((2 ^ s : Nat) : Int) ≤ a * c) (l2 : L * ((2 ^ s : Nat) : Int) ≤ a * d) (l3 : L * ((2 ^ s : Nat) : Int) ≤ b * c) (l4 : L * ((2 ^ s : Nat) : Int) ≤ b * d)
    (u1 : a * c ≤ U * ((2 ^ s : Nat) : Int)) (u2 : a * d ≤ U * ((2 ^ s : Nat) : Int)) (u3 : b * c ≤ U * ((2 ^ s : Nat) : Int)) (u4 : b * d ≤ U * ((2 ^ s : Nat) : Int)) : In k'' L U r := by
  obtain ⟨fx, x1, x2⟩ := hx
  obtain ⟨fy, y1, y2⟩ := hy
  obtain ⟨E, hE⟩ : ∃ E, E = 1074 := ⟨_, rfl⟩
  have R := mul_rn E hE fx fy h
  have ep : 2 ^ k'' * 2 ^ E = 2 ^ s * (2 ^ k * 2 ^ k') := by
    rw [← Nat.pow_add, ← Nat.pow_add, ← Nat.pow_add]; congr 1; omega
  refine R.bounds (Nat.two_pow_pos _) k1 k2 b1 b2 ?_ ?_
  · have g : L * ((2 ^ k'' : Nat) : Int) * ((2 ^ E : Nat) : Int) = L * ((2 ^ s : Nat) : Int) * (((2 ^ k : Nat) : Int) * ((2 ^ k' : Nat) : Int)) := by
      rw [Int.mul_assoc, ← Int.natCast_mul, ep, Int.natCast_mul, Int.natCast_mul, Int.mul_assoc]
    rw [g]
    have hp : (0 : Int) ≤ ((2 ^ k : Nat) : Int) * ((2 ^ k' : Nat) : Int) := Int.mul_nonneg (Int.natCast_nonneg _) (Int.natCast_nonneg _)
    have sh : ∀ u v : Int, u * ((2 ^ k : Nat) : Int) * (v * ((2 ^ k' : Nat) : Int)) = u * v * (((2 ^ k : Nat) : Int) * ((2 ^ k' : Nat) : Int)) := fun u v => by
      rw [Int.mul_assoc, Int.mul_left_comm ((2 ^ k : Nat) : Int) v, ← Int.mul_assoc u v]
    refine corner_ge x1 x2 y1 y2 ?_ ?_ ?_ ?_ <;> rw [sh] <;> exact Int.mul_le_mul_of_nonneg_right (by assumption) hp
  · have g : U * ((2 ^ k'' : Nat) : Int) * ((2 ^ E : Nat) : Int) = U * ((2 ^ s : Nat) : Int) * (((2 ^ k : Nat) : Int) * ((2 ^ k' : Nat) : Int)) := by
      rw [Int.mul_assoc, ← Int.natCast_mul, ep, Int.natCast_mul, Int.natCast_mul, Int.mul_assoc]
    rw [g]
    have hp : (0 : Int) ≤ ((2 ^ k : Nat) : Int) * ((2 ^ k' : Nat) : Int) := Int.mul_nonneg (Int.natCast_nonneg _) (Int.natCast_nonneg _)
    have sh : ∀ u v : Int, u * ((2 ^ k : Nat) : Int) * (v * ((2 ^ k' : Nat) : Int)) = u * v * (((2 ^ k : Nat) : Int) * ((2 ^ k' : Nat) : Int)) := fun u v => by
      rw [Int.mul_assoc, Int.mul_left_comm ((2 ^ k : Nat) : Int) v, ← Int.mul_assoc u v]
    refine corner_le x1 x2 y1 y2 ?_ ?_ ?_ ?_ <;> rw [sh] <;> exact Int.mul_le_mul_of_nonneg_right (by assumption) hp
theorem In.add {k x y r : Nat} {a b c d L U : Int} (hx : In k a b x) (hy : In k c d y) (h : FN .add x y r) (k1 : 53 ≤ k) (k2 : k ≤ 2044) (b1 : -9007199254740992 ≤ L) (b2 : U ≤ 9007199254740992) (l : L ≤ a + c) (u : b + d ≤ U) : In k L U r := by
  obtain ⟨fx, x1, x2⟩ := hx
  obtain ⟨fy, y1, y2⟩ := hy
  have hp : (0 : Int) ≤ ((2 ^ k : Nat) : Int) := Int.natCast_nonneg _
  refine (add_rn fx fy h).bounds (by decide) k1 k2 b1 b2 ?_ ?_
  · have := Int.mul_le_mul_of_nonneg_right l hp
    rw [Int.add_mul] at this
    omega
  · have := Int.mul_le_mul_of_nonneg_right u hp
    rw [Int.add_mul] at this
    omega
theorem In.opp {k x : Nat} {a b : Int} (h : In k a b x) : In k (-b) (-a) (fopp x) := by
  obtain ⟨f, h1, h2⟩ := h
  refine ⟨f.opp, ?_, ?_⟩ <;> rw [sv_opp f.1, Int.neg_mul] <;> omega
theorem In.wide {k x : Nat} {a b c d : Int} (h : In k a b x) (h1 : c ≤ a) (h2 : b ≤ d) : In k c d x := by
  obtain ⟨f, g1, g2⟩ := h
  have hp : (0 : Int) ≤ ((2 ^ k : Nat) : Int) := Int.natCast_nonneg _
  exact ⟨f, Int.le_trans (Int.mul_le_mul_of_nonneg_right h1 hp) g1, Int.le_trans g2 (Int.mul_le_mul_of_nonneg_right h2 hp)⟩
end Go.Proofs.YtabkgpnckaaclaaGreatDoor

/- Fractions: ratio.add: sums of fractions that may be; what is told is new memory, Num and Den apart. -/
namespace Go.Proofs.YtabkgpnckaaclaaGreatDoor
open Go.RowKit
set_option linter.unusedVariables false

theorem bel_al {a w : World} (h : Below a.heap.size a w) (o : Obj) : Below a.heap.size a (w.alloc o) := h.alloc h.size o
theorem bel_undrew {w V : World} (hb : Below w.drew.heap.size w.drew V) : Below w.heap.size w V := bt (Below.drew (Below.refl _ w)) hb
theorem bel_unal {w V : World} {o : Obj} (hb : Below (w.alloc o).heap.size (w.alloc o) V) : Below w.heap.size w V := bt (alloc_later _ _) hb
theorem zbw {w V : World} (hb : Below (w.alloc (.cells #[.bool false, .slice none 0 0] 136)).heap.size (w.alloc (.cells #[.bool false, .slice none 0 0] 136)) V) : Box V w.heap.size 136 #[.bool false, .slice none 0 0] := (Box.made w 136 _).later hb (by simp)
theorem new_ne' {w : World} {g t : Nat} {vs : Array Value} (h : Box w g t vs) : g < w.heap.size ∧ ¬ w.heap.size = g := by
  have := h.lt
  omega
theorem nes3 {p q : Nat} (h : p + 1 + 1 < q) : ¬ p = q ∧ ¬ q = p ∧ ¬ p + 1 = q ∧ ¬ q = p + 1 := by omega
/-- A whole number in a box, behind what was there. -/
def Num (X U F : World) (p : Nat) (k : Bool) (a : Option Addr) (c : Nat) (z : List Int) (T : Int) : Prop := Box F p 136 #[.bool k, .slice a z.length c] ∧ One X F (.slice a z.length c) z T ∧ Below U.heap.size U F
theorem num_old {X U W : World} {p : Nat} {k : Bool} {a : Option Addr} {c : Nat} {z : List Int} {T : Int} (o : One X W (.slice a z.length c) z T) (hb : Below U.heap.size U W) (h : Box W p 136 #[.bool false, .slice none 0 0]) (lp : U.heap.size ≤ p) : Num X U ((W.setCell ⟨p, 0, none⟩ (.bool k)).setCell ⟨p, 1, none⟩ (.slice a z.length c)) p k a c z T :=
  ⟨h.put2 _ _, ⟨own_put2 o.1 p (own_ne_box o.1 h (by decide)) _ _, o.2⟩, below_put2 hb p lp _ _⟩
theorem num_new {X U W : World} {k : Bool} {a : Option Addr} {c : Nat} {z : List Int} {T : Int} (o : One X W (.slice a z.length c) z T) (hb : Below U.heap.size U W) : Num X U (W.alloc (.cells #[.bool k, .slice a z.length c] 136)) W.heap.size k a c z T :=
  ⟨Box.made W _ _, o.later (alloc_later _ _), bt hb (alloc_later _ _)⟩

theorem lies_low {v : Value} {lo lo' hi : Nat} (h : Lies v lo hi) (hl : lo' ≤ lo) : Lies v lo' hi := fun g hg => ⟨Nat.le_trans hl (h g hg).1, (h g hg).2⟩
theorem sum_4097 {k n m : Bool} {T p1 p2 : Int} (h : sg k T = sg n p1 + sg m p2) (h0 : 0 ≤ T) (q0 : 0 ≤ p1) (q1 : p1 < 4294967296 ^ 4096) (r0 : 0 ≤ p2) (r1 : p2 < 4294967296 ^ 4096) : T < 4294967296 ^ 4097 := by
  have e : (4294967296 : Int) ^ 4097 = 4294967296 ^ 4096 * 4294967296 := Int.pow_succ _ 4096
  rw [e]
  generalize (4294967296 : Int) ^ 4096 = Y at *
  cases k <;> cases n <;> cases m <;> simp [sg] at h <;> omega
theorem at7 {X w7 ww : World} {f : Nat} {args : Array Value} {t : Int} {S : World → Prop} (hS : ∀ V, Below w7.heap.size w7 V → S V) (hw : Below w7.heap.size w7 ww) (C : Calls Tryz.prog f args ww (fun e w' => ∃ a2 zs c2, e = .returned (.slice a2 (List.length zs) c2) ∧ Hid (One X w' (.slice a2 (List.length zs) c2) zs t ∧ Lies (.slice a2 (List.length zs) c2) ww.heap.size w'.heap.size) ∧ True ∧ Below X.heap.size X w' ∧ Hid (Below ww.heap.size ww w'))) :
    Calls Tryz.prog f args ww fun e w' => ∃ a2 zs c2, e = .returned (.slice a2 (List.length zs) c2) ∧ Hid (One X w' (.slice a2 (List.length zs) c2) zs t ∧ Lies (.slice a2 (List.length zs) c2) ww.heap.size w'.heap.size ∧ True ∧ Below w7.heap.size w7 w') ∧ S w' ∧ Hid (Below ww.heap.size ww w') :=
  Calls.mono C fun e w' ⟨a2, zs, c2, h1, h2, _, _, h5⟩ => ⟨a2, zs, c2, h1, ⟨h2.out.1, h2.out.2, trivial, bt hw h5.out⟩, hS w' (bt hw h5.out), h5⟩
theorem rtold_cut2 {U ww : World} {n : Bool} {a : Option Addr} {ca : Nat} {zs : List Int} {b : Option Addr} {cb : Nat} {ds : List Int} {s t : Int} {q : Rat} (hb : Below U.heap.size U ww) (h1 : One U ww (.slice a zs.length ca) zs s) (h2 : One U ww (.slice b ds.length cb) ds t) (hc : Cut U (.slice a zs.length ca) (.slice b ds.length cb) ww) (hd : 0 < t) (hg : gcdI s t = 1) (hq : Rat.divInt (sg n s) t = q) :
    Calls Tryz.prog 135 #[.bool n, .slice a zs.length ca, .slice b ds.length cb] ww fun e w' => ∃ k a8 z8 c8 a9 z9 c9 code, e = .returned (.tuple #[.agg #[.bool k, .slice a8 (List.length z8) c8, .slice a9 (List.length z9) c9], .int .i64 code]) ∧ Hid (w'.ownsRow U.heap.size 88 1 (.slice a8 (List.length z8) c8) z8.length (z8.map (Value.int .u32)) ∧ w'.ownsRow U.heap.size 88 1 (.slice a9 (List.length z9) c9) z9.length (z9.map (Value.int .u32)) ∧ RTells 0 q k z8 z9 code ∧ Cut U (.slice a8 (List.length z8) c8) (.slice a9 (List.length z9) c9) w') ∧ Below U.heap.size U w' ∧ Hid (Below ww.heap.size ww w') := by
  obtain ⟨o1, w1, t1, v1⟩ := h1
  obtain ⟨o2, w2, t2, v2⟩ := h2
  obtain ⟨k, us, vs, c, e1, e2, e3, r⟩ := rtells_of (n := n) w1 t1 w2 t2 (by rw [v2]; exact hd) (by rw [v1, v2]; exact hg)
  rw [v1, v2, hq] at r
  refine Calls.mono (rtold_any n a zs.length ca b ds.length cb ww) fun e w' h => ?_
  obtain ⟨rfl, hb2⟩ := h
  rw [e1]
  by_cases z : c = 0
  · rw [if_pos z] at e2 e3
    subst e2; subst e3
    refine ⟨k, a, us, ca, b, vs, cb, c, by rw [if_pos z, if_pos z], ⟨owns_later o1 hb2, owns_later o2 hb2, r, hc.up (Nat.le_refl _) hb2.size⟩, bt hb hb2, hb2⟩
  · rw [if_neg z] at e2 e3
    subst e2; subst e3
    exact ⟨k, none, [], 0, none, [], 0, c, by rw [if_neg z, if_neg z]; rfl, ⟨World.ownsRow_nil _ _ _ _, World.ownsRow_nil _ _ _ _, r, ⟨U.heap.size, Nat.le_refl _, (bt hb hb2).size, fun g hg => by simp [Value.ownBlock] at hg, fun g hg => by simp [Value.ownBlock] at hg⟩⟩, bt hb hb2, hb2⟩

set_option maxHeartbeats 6400000 in
set_option maxRecDepth 100000 in
theorem radd_any (n : Bool) (a : Option Addr) (ca : Nat) (xs : List Int) (b : Option Addr) (cb : Nat) (ys : List Int) (m : Bool) (c : Option Addr) (cc : Nat) (us : List Int) (d : Option Addr) (cd : Nat) (vs : List Int) (w : World)
    (sx : Sl w (.slice a xs.length ca) xs) (sy : Sl w (.slice b ys.length cb) ys) (su : Sl w (.slice c us.length cc) us) (sv : Sl w (.slice d vs.length cd) vs) (lx : xs.length ≤ 2048) (ly : ys.length ≤ 2048) (lu : us.length ≤ 2048) (lv : vs.length ≤ 2048) (tx : Trimmed xs) (ty : Trimmed ys) (tu : Trimmed us) (tv : Trimmed vs) (hy : 0 < val ys) (hv : 0 < val vs) (h1 : gcdI (val xs) (val ys) = 1) (h2 : gcdI (val us) (val vs) = 1) :
    Calls Tryz.prog 113 #[.agg #[.bool n, .slice a xs.length ca, .slice b ys.length cb], .agg #[.bool m, .slice c us.length cc, .slice d vs.length cd]] w (RToldA w 0 (rq n xs ys + rq m us vs)) := by
  have wx := sx.wd
  have wy := sy.wd
  have wu := su.wd
  have wv := sv.wd
  have HB : Hid (Below w.heap.size w (((w.alloc (.cells #[.bool n, .slice a xs.length ca, .slice b ys.length cb] 25)).alloc (.cells #[.bool m, .slice c us.length cc, .slice d vs.length cd] 25)).alloc (.cells #[.bool false, .slice none 0 0, .slice none 0 0] 25))) := bt (bt (alloc_later _ _) (alloc_later _ _)) (alloc_later _ _)
  have HZ : Hid (Box (((w.alloc (.cells #[.bool n, .slice a xs.length ca, .slice b ys.length cb] 25)).alloc (.cells #[.bool m, .slice c us.length cc, .slice d vs.length cd] 25)).alloc (.cells #[.bool false, .slice none 0 0, .slice none 0 0] 25)) (w.heap.size + 1 + 1) 25 #[.bool false, .slice none 0 0, .slice none 0 0]) := by
    have e := Box.made ((w.alloc (.cells #[.bool n, .slice a xs.length ca, .slice b ys.length cb] 25)).alloc (.cells #[.bool m, .slice c us.length cc, .slice d vs.length cd] 25)) 25 #[.bool false, .slice none 0 0, .slice none 0 0]
    simp at e
    exact e
  have HN : Hid (Box (((w.alloc (.cells #[.bool n, .slice a xs.length ca, .slice b ys.length cb] 25)).alloc (.cells #[.bool m, .slice c us.length cc, .slice d vs.length cd] 25)).alloc (.cells #[.bool false, .slice none 0 0, .slice none 0 0] 25)) w.heap.size 25 #[.bool n, .slice a xs.length ca, .slice b ys.length cb]) := Box.later (Box.made w _ _) (bt (alloc_later _ _) (alloc_later _ _)) (by simp)
  have HM : Hid (Box (((w.alloc (.cells #[.bool n, .slice a xs.length ca, .slice b ys.length cb] 25)).alloc (.cells #[.bool m, .slice c us.length cc, .slice d vs.length cd] 25)).alloc (.cells #[.bool false, .slice none 0 0, .slice none 0 0] 25)) (w.heap.size + 1) 25 #[.bool m, .slice c us.length cc, .slice d vs.length cd]) := by
    have e := Box.later (Box.made (w.alloc (.cells #[.bool n, .slice a xs.length ca, .slice b ys.length cb] 25)) 25 #[.bool m, .slice c us.length cc, .slice d vs.length cd]) (alloc_later ((w.alloc (.cells #[.bool n, .slice a xs.length ca, .slice b ys.length cb] 25)).alloc (.cells #[.bool m, .slice c us.length cc, .slice d vs.length cd] 25)) (.cells #[.bool false, .slice none 0 0, .slice none 0 0] 25)) (by simp)
    simp at e
    exact e
  have HXS : Hid (w.heap.size + 1 + 1 < (((w.alloc (.cells #[.bool n, .slice a xs.length ca, .slice b ys.length cb] 25)).alloc (.cells #[.bool m, .slice c us.length cc, .slice d vs.length cd] 25)).alloc (.cells #[.bool false, .slice none 0 0, .slice none 0 0] 25)).heap.size) := HZ.out.lt
  have HSL := hid (And.intro (sx.later HB.out) (And.intro (sy.later HB.out) (And.intro (su.later HB.out) (sv.later HB.out))))
  have HP := hid (And.intro hy (And.intro hv (And.intro h1 h2)))
  have HTT := hid (And.intro tx (And.intro ty (And.intro tu tv)))
  have HF0 : Hid (0 < gcdI (val ys) (val vs) ∧ gcdI (val ys) (val vs) ≤ val vs) := ⟨gcd_pos_right hv, gcd_le_right hv⟩
  have HL : Hid (val xs < 4294967296 ^ 2048 ∧ val ys < 4294967296 ^ 2048 ∧ val us < 4294967296 ^ 2048 ∧ val vs < 4294967296 ^ 2048) := ⟨below2048 wx lx, below2048 wy ly, below2048 wu lu, below2048 wv lv⟩
  have HNN : Hid (0 ≤ val xs ∧ 0 ≤ val us ∧ 0 ≤ val ys ∧ 0 ≤ val vs) := ⟨val_nonneg wx, val_nonneg wu, val_nonneg wy, val_nonneg wv⟩
  have HD : Hid (val ys / gcdI (val ys) (val vs) < 4294967296 ^ 2048 ∧ val vs / gcdI (val ys) (val vs) < 4294967296 ^ 2048 ∧ 0 ≤ val ys / gcdI (val ys) (val vs) ∧ 0 ≤ val vs / gcdI (val ys) (val vs)) := by
    have q3 := Int.ediv_le_self (a := val ys) (gcdI (val ys) (val vs)) (by omega)
    have q4 := Int.ediv_le_self (a := val vs) (gcdI (val ys) (val vs)) (by omega)
    have q5 := HF0.out
    have := HL.out
    exact ⟨by omega, by omega, Int.ediv_nonneg (by omega) (by omega), Int.ediv_nonneg (by omega) (by omega)⟩
  have HPL : Hid (val xs * (val vs / gcdI (val ys) (val vs)) < 4294967296 ^ 4096 ∧ val us * (val ys / gcdI (val ys) (val vs)) < 4294967296 ^ 4096) := ⟨mul_4096 HNN.out.1 HL.out.1 HD.out.2.2.2 HD.out.2.1, mul_4096 HNN.out.2.1 HL.out.2.2.1 HD.out.2.2.1 HD.out.1⟩
  have HC1 := hid (rcommon_any _ _ ys vs (((w.alloc (.cells #[.bool n, .slice a xs.length ca, .slice b ys.length cb] 25)).alloc (.cells #[.bool m, .slice c us.length cc, .slice d vs.length cd] 25)).alloc (.cells #[.bool false, .slice none 0 0, .slice none 0 0] 25)) HSL.out.2.1 HSL.out.2.2.2 (by omega) (by omega) ty tv)
  obtain ⟨G, hG⟩ : ∃ G, G = gcdI (val ys) (val vs) := ⟨_, rfl⟩
  rw [← hG] at HC1 HF0 HD HPL
  obtain ⟨rA, hA⟩ : ∃ rA, rA = val ys / G := ⟨_, rfl⟩
  obtain ⟨rB, hB⟩ : ∃ rB, rB = val vs / G := ⟨_, rfl⟩
  rw [← hA, ← hB] at HD HPL
  have HEQ := hid (And.intro hG (And.intro hA hB))
  clear sx sy su sv tx ty tu tv hy hv h1 h2 wx wy wu wv hG hA hB
  go_enter Tryz.func113, Tryz.ntmps113
  go_wp2_with fail
  refine Calls.mono HC1.out ?_
  generalize (((w.alloc (.cells #[.bool n, .slice a xs.length ca, .slice b ys.length cb] 25)).alloc (.cells #[.bool m, .slice c us.length cc, .slice d vs.length cd] 25)).alloc (.cells #[.bool false, .slice none 0 0, .slice none 0 0] 25)) = X at *
  rintro e w1 ⟨v1, z1, rfl, o1, wd1, t1, hv1, hb1⟩
  obtain ⟨a1, c1, hs1⟩ := own_slice' o1
  subst hs1
  have HK : Hid (∀ V, Below X.heap.size X V → V.cell? ⟨w.heap.size, 0, none⟩ = some (.bool n) ∧ V.cell? ⟨w.heap.size, 1, none⟩ = some (.slice a xs.length ca) ∧ V.cell? ⟨w.heap.size, 2, none⟩ = some (.slice b ys.length cb) ∧ V.cell? ⟨w.heap.size + 1, 0, none⟩ = some (.bool m) ∧ V.cell? ⟨w.heap.size + 1, 1, none⟩ = some (.slice c us.length cc) ∧ V.cell? ⟨w.heap.size + 1, 2, none⟩ = some (.slice d vs.length cd)) := fun V hb => by
    obtain ⟨p0, p1, p2, _⟩ := res_box3 HN.out hb
    obtain ⟨q0, q1, q2, _⟩ := res_box3 HM.out hb
    exact ⟨p0, p1, p2, q0, q1, q2⟩
  have HO1 : Hid (One X w1.drew (.slice a1 z1.length c1) z1 G) := One.later ⟨o1, wd1, t1, hv1⟩ (Below.drew (Below.refl _ w1))
  have hb1d : Below X.heap.size X w1.drew := hb1.drew
  have hs0 := HK.out _ hb1d
  clear o1 wd1 t1 hv1 hb1 HC1
  have HQY := hid (fun ww (hv' : Below X.heap.size X ww) (h : One X ww (.slice a1 z1.length c1) z1 G) => quot_in _ HK.out hv' (HSL.out.2.1.later hv') (by omega) HTT.out.2.1 h HF0.out.1 (by have := HF0.out; have := HL.out; omega))
  have HQV := hid (fun ww (hv' : Below X.heap.size X ww) (h : One X ww (.slice a1 z1.length c1) z1 G) => quot_in _ HK.out hv' (HSL.out.2.2.2.later hv') (by omega) HTT.out.2.2.2 h HF0.out.1 (by have := HF0.out; have := HL.out; omega))
  rw [← HEQ.out.2.1] at HQY
  rw [← HEQ.out.2.2] at HQV
  go_wp2_with fail
  go_region_held3 (fun V : World => V.cell? ⟨w.heap.size, 0, none⟩ = some (.bool n) ∧ V.cell? ⟨w.heap.size, 1, none⟩ = some (.slice a xs.length ca) ∧ V.cell? ⟨w.heap.size, 2, none⟩ = some (.slice b ys.length cb) ∧ V.cell? ⟨w.heap.size + 1, 0, none⟩ = some (.bool m) ∧ V.cell? ⟨w.heap.size + 1, 1, none⟩ = some (.slice c us.length cc) ∧ V.cell? ⟨w.heap.size + 1, 2, none⟩ = some (.slice d vs.length cd)) (first | exact hs3 | exact hs2 | exact hs0)
    (first
      | (go_at_call 133; with_reducible refine Calls.mono (HQV.out _ hb2 (HO1.out.later HS2.out)) ?_; rintro e w3 ⟨a3, z3, c3, rfl, HE3, hs3, hb3, HS3⟩)
      | (go_at_call 133; with_reducible refine Calls.mono (HQY.out _ hb1d HO1.out) ?_; rintro e w2 ⟨a2, z2, c2, rfl, HE2, hs2, hb2, HS2⟩))
  have HO3 := hid (And.intro ((HO1.out.later HS2.out).later HS3.out) (And.intro (HE2.out.1.later HS3.out) HE3.out.1))
  have HB3 := hid hb3
  clear hs0 hs2 hs3 hb1d hb2 hb3 HE2 HE3 HS2 HS3 HO1 HQY HQV
  go_upto_region 5 with fail
  have HU : Hid (∀ V, Below w3.heap.size w3 V → Below X.heap.size X V) := fun V hb => bt HB3.out hb
  have HBR := hid (Below.refl w3.heap.size w3)
  have HP1 : Hid (∀ V, Below w3.heap.size w3 V → Calls Tryz.prog 112 #[.slice a xs.length ca, .slice a3 z3.length c3] V fun e V' => ∃ a2 zs c2, e = .returned (.slice a2 (List.length zs) c2) ∧ Hid (One X V' (.slice a2 (List.length zs) c2) zs (val xs * rB) ∧ Below V.heap.size V V' ∧ Below w3.heap.size w3 V') ∧ V'.cell? ⟨w.heap.size, 0, none⟩ = some (.bool n) ∧ V'.cell? ⟨w.heap.size, 1, none⟩ = some (.slice a xs.length ca) ∧ V'.cell? ⟨w.heap.size, 2, none⟩ = some (.slice b ys.length cb) ∧ V'.cell? ⟨w.heap.size + 1, 0, none⟩ = some (.bool m) ∧ V'.cell? ⟨w.heap.size + 1, 1, none⟩ = some (.slice c us.length cc) ∧ V'.cell? ⟨w.heap.size + 1, 2, none⟩ = some (.slice d vs.length cd)) := fun V hb => by
    have hx := HU.out V hb
    have on := HO3.out.2.2.later hb
    have e := rprod_any _ _ xs z3 V (HSL.out.1.later hx) on.sl (by have := own_len on HD.out.2.1; omega) HTT.out.1 on.2.2.1
    rw [on.2.2.2] at e
    refine Calls.mono e ?_
    rintro e V' ⟨v2, zs, rfl, o2, wd2, t2, hv2, hb2⟩
    obtain ⟨a2, c2, hs2⟩ := own_slice' o2
    subst hs2
    exact ⟨a2, zs, c2, rfl, ⟨⟨owns_base o2 hx.size, wd2, t2, hv2⟩, hb2, bt hb hb2⟩, HK.out V' (bt hx hb2)⟩
  have HP2 : Hid (∀ V, Below w3.heap.size w3 V → Calls Tryz.prog 112 #[.slice c us.length cc, .slice a2 z2.length c2] V fun e V' => ∃ a2 zs c2, e = .returned (.slice a2 (List.length zs) c2) ∧ Hid (One X V' (.slice a2 (List.length zs) c2) zs (val us * rA) ∧ Below V.heap.size V V' ∧ Below w3.heap.size w3 V') ∧ V'.cell? ⟨w.heap.size, 0, none⟩ = some (.bool n) ∧ V'.cell? ⟨w.heap.size, 1, none⟩ = some (.slice a xs.length ca) ∧ V'.cell? ⟨w.heap.size, 2, none⟩ = some (.slice b ys.length cb) ∧ V'.cell? ⟨w.heap.size + 1, 0, none⟩ = some (.bool m) ∧ V'.cell? ⟨w.heap.size + 1, 1, none⟩ = some (.slice c us.length cc) ∧ V'.cell? ⟨w.heap.size + 1, 2, none⟩ = some (.slice d vs.length cd)) := fun V hb => by
    have hx := HU.out V hb
    have on := HO3.out.2.1.later hb
    have e := rprod_any _ _ us z2 V (HSL.out.2.2.1.later hx) on.sl (by have := own_len on HD.out.1; omega) HTT.out.2.2.1 on.2.2.1
    rw [on.2.2.2] at e
    refine Calls.mono e ?_
    rintro e V' ⟨v2, zs, rfl, o2, wd2, t2, hv2, hb2⟩
    obtain ⟨a2, c2, hs2⟩ := own_slice' o2
    subst hs2
    exact ⟨a2, zs, c2, rfl, ⟨⟨owns_base o2 hx.size, wd2, t2, hv2⟩, hb2, bt hb hb2⟩, HK.out V' (bt hx hb2)⟩
  have HSG : Hid (∀ V, Below w3.heap.size w3 V → ∀ a4 z4 c4 a5 z5 c5, One X V (.slice a4 (List.length z4) c4) z4 (val xs * rB) → One X V (.slice a5 (List.length z5) c5) z5 (val us * rA) → Calls Tryz.prog 134 #[.agg #[.bool n, .slice a4 z4.length c4], .agg #[.bool m, .slice a5 z5.length c5]] V fun e V' => ∃ k a2 zs c2, e = .returned (.agg #[.bool k, .slice a2 (List.length zs) c2]) ∧ Hid ((∃ T, One X V' (.slice a2 (List.length zs) c2) zs T ∧ sg k T = (sg n (val xs * rB) + sg m (val us * rA))) ∧ Below V.heap.size V V' ∧ Below w3.heap.size w3 V') ∧ V'.cell? ⟨w.heap.size, 0, none⟩ = some (.bool n) ∧ V'.cell? ⟨w.heap.size, 1, none⟩ = some (.slice a xs.length ca) ∧ V'.cell? ⟨w.heap.size, 2, none⟩ = some (.slice b ys.length cb) ∧ V'.cell? ⟨w.heap.size + 1, 0, none⟩ = some (.bool m) ∧ V'.cell? ⟨w.heap.size + 1, 1, none⟩ = some (.slice c us.length cc) ∧ V'.cell? ⟨w.heap.size + 1, 2, none⟩ = some (.slice d vs.length cd)) := fun V hb a4 z4 c4 a5 z5 c5 h4 h5 => by
    have hx := HU.out V hb
    have e := rsigned_any n _ z4 m _ z5 V h4.sl h5.sl (by have := own_len h4 HPL.out.1; omega) (by have := own_len h5 HPL.out.2; omega) h4.2.2.1 h5.2.2.1
    rw [show wval n z4 = sg n (val z4) from rfl, show wval m z5 = sg m (val z5) from rfl, h4.2.2.2, h5.2.2.2] at e
    refine Calls.mono e ?_
    rintro e V' ⟨k, v, zs, rfl, o, h1, h2, h3, hb2⟩
    obtain ⟨a2, c2, hs2⟩ := own_slice' o
    subst hs2
    exact ⟨k, a2, zs, c2, rfl, ⟨⟨val zs, ⟨owns_base o hx.size, h1, h2, rfl⟩, h3⟩, hb2, bt hb hb2⟩, HK.out V' (bt hx hb2)⟩
  have HW2 := hid (Nat.lt_of_lt_of_le HXS.out HB3.out.size)
  obtain ⟨m1, m2, m3, m4⟩ := nes3 HW2.out
  go_cut [9] from 11 (fun s9 wx => ∃ p k a6 c6 z6 T, s9 = .pointer (some ⟨p, 0, none⟩) ∧ Hid (Num X w3 wx p k a6 c6 z6 T ∧ sg k T = sg n (val xs * rB) + sg m (val us * rA) ∧ w3.heap.size ≤ p))
  case first =>
    have hs0 := HK.out _ (HU.out _ HBR.out.drew)
    go_region_held3 (fun V : World => V.cell? ⟨w.heap.size, 0, none⟩ = some (.bool n) ∧ V.cell? ⟨w.heap.size, 1, none⟩ = some (.slice a xs.length ca) ∧ V.cell? ⟨w.heap.size, 2, none⟩ = some (.slice b ys.length cb) ∧ V.cell? ⟨w.heap.size + 1, 0, none⟩ = some (.bool m) ∧ V.cell? ⟨w.heap.size + 1, 1, none⟩ = some (.slice c us.length cc) ∧ V.cell? ⟨w.heap.size + 1, 2, none⟩ = some (.slice d vs.length cd)) (first | exact hs6 | exact hs5 | exact hs4 | exact hs0 | with_reducible exact HK.out _ (HU.out _ (bel_al HE6.out.2.2 _)) | with_reducible exact HK.out _ (HU.out _ (bel_al HE5.out.2.2 _)) | with_reducible exact HK.out _ (HU.out _ (bel_al HE4.out.2.2 _)) | with_reducible exact HK.out _ (HU.out _ (bel_al HBR.out _).drew) | with_reducible exact HK.out _ (HU.out _ (below_put2 HE6.out.2.2 _ (by omega) _ _)) | go_keep)
      (first
        | (go_at_call 134; with_reducible refine Calls.mono (HSG.out _ (by first | exact HE5.out.2.2 | exact bel_al HE5.out.2.2 _) _ _ _ _ _ _ (by first | exact HE4.out.1.later HL5.out | exact (HE4.out.1.later HL5.out).later (alloc_later _ _)) (by first | exact HE5.out.1 | exact HE5.out.1.later (alloc_later _ _))) ?_; rintro e w6 ⟨k6, a6, z6, c6, rfl, HE6, hs6⟩; (first | (have HL6 := hid (bel_unal (w := w5) HE6.out.2.1)) | (have HL6 := hid HE6.out.2.1)); (first | (have HY1 := hid ((HZ1.out.later HL5.out HZ1.out.lt).later HL6.out (HZ1.out.later HL5.out HZ1.out.lt).lt); clear y0 y1 y2 y3; obtain ⟨j0, j1, j2, j3⟩ := HY1.out.c2; obtain ⟨j4, j5⟩ := new_ne' HY1.out) | skip); (first | (have HY2 := hid (HZ2.out.later HL6.out HZ2.out.lt); clear u0 u1 u2 u3; obtain ⟨j0, j1, j2, j3⟩ := HY2.out.c2; obtain ⟨j4, j5⟩ := new_ne' HY2.out) | skip); (first | (have HY3 := hid (zbw HE6.out.2.1); obtain ⟨j0, j1, j2, j3⟩ := HY3.out.c2; obtain ⟨j4, j5⟩ := new_ne' HY3.out) | skip))
        | (go_at_call 112; with_reducible refine Calls.mono (HP2.out _ (by first | exact HE4.out.2.2 | exact bel_al HE4.out.2.2 _)) ?_; rintro e w5 ⟨a5, z5, c5, rfl, HE5, hs5⟩; have hz5 := HE5.out.2.2.size; (first | (have HL5 := hid (bel_unal (w := w4) HE5.out.2.1)) | (have HL5 := hid HE5.out.2.1)); (first | (have HZ2 := hid (zbw HE5.out.2.1); obtain ⟨u0, u1, u2, u3⟩ := HZ2.out.c2; obtain ⟨u4, u5⟩ := new_ne' HZ2.out) | skip))
        | (go_at_call 112; with_reducible refine Calls.mono (HP1.out _ (by first | exact HBR.out.drew | exact (bel_al HBR.out _).drew)) ?_; rintro e w4 ⟨a4, z4, c4, rfl, HE4, hs4⟩; have hz4 := HE4.out.2.2.size; obtain ⟨l1, l2, l3, l4⟩ := nes3 (Nat.lt_of_lt_of_le HW2.out HE4.out.2.2.size); (first | (have HZ1 := hid (zbw (bel_undrew HE4.out.2.1)); obtain ⟨y0, y1, y2, y3⟩ := HZ1.out.c2; obtain ⟨y4, y5⟩ := new_ne' HZ1.out) | skip)))
    all_goals
      have hz6 := HE6.out.2.2.size
      have hz45 := HL5.out.size
      obtain ⟨T, oT, hT⟩ := HE6.out.1
      have HOT := hid oT
      have HHT := hid hT
      clear oT hT
      go_wp2_with fail
      go_meet
    all_goals (first | with_reducible exact ⟨_, k6, a6, c6, z6, T, rfl, hid (And.intro (num_old HOT.out HE6.out.2.2 HY1.out (by omega)) (And.intro HHT.out (by omega)))⟩ | with_reducible exact ⟨_, k6, a6, c6, z6, T, rfl, hid (And.intro (num_old HOT.out HE6.out.2.2 HY2.out (by omega)) (And.intro HHT.out (by omega)))⟩ | with_reducible exact ⟨_, k6, a6, c6, z6, T, rfl, hid (And.intro (num_old HOT.out HE6.out.2.2 HY3.out (by omega)) (And.intro HHT.out (by omega)))⟩ | with_reducible exact ⟨_, k6, a6, c6, z6, T, rfl, hid (And.intro (num_new HOT.out HE6.out.2.2) (And.intro HHT.out (by omega)))⟩)
  case rest =>
    obtain ⟨p, k6, a6, c6, z6, T, rfl, HNm⟩ := hcut
    have HBc := hid (bt HB3.out HNm.out.1.2.2)
    have HOc := hid (And.intro (HO3.out.1.later HNm.out.1.2.2) (And.intro (HO3.out.2.1.later HNm.out.1.2.2) HNm.out.1.2.1))
    have HBX := hid HNm.out.1.1
    have HTS := hid HNm.out.2.1
    have HPW := hid (Nat.lt_of_lt_of_le (Nat.lt_of_lt_of_le HXS.out HB3.out.size) HNm.out.2.2)
    have HT0 : Hid (0 ≤ T) := by rw [← HOc.out.2.2.2.2.2]; exact val_nonneg HOc.out.2.2.2.1
    have HTL : Hid (T < 4294967296 ^ 4097) := sum_4097 HTS.out HT0.out (Int.mul_nonneg HNN.out.1 HD.out.2.2.2) HPL.out.1 (Int.mul_nonneg HNN.out.2.1 HD.out.2.2.1) HPL.out.2
    have l6 : z6.length ≤ 4097 := own_len HOc.out.2.2 HTL.out
    have l1 : z1.length ≤ 2048 := own_len HOc.out.1 (by have := HF0.out; have := HL.out; omega)
    have l2 : z2.length ≤ 2048 := own_len HOc.out.2.1 HD.out.1
    have HC4 := hid (rcommon_any _ _ z6 z1 wc HOc.out.2.2.sl HOc.out.1.sl (by omega) (by omega) HOc.out.2.2.2.2.1 HOc.out.1.2.2.1)
    rw [HOc.out.2.2.2.2.2, HOc.out.1.2.2.2] at HC4
    have HSS : Hid (0 < gcdI T G ∧ gcdI T G ≤ G ∧ G < 4294967296 ^ 2048) := ⟨gcd_pos_right HF0.out.1, gcd_le_right HF0.out.1, by have := HF0.out; have := HL.out; omega⟩
    have HAP := hid (add_parts (n := n) (m := m) (nn := k6) (xs := xs) (ys := ys) (us := us) (vs := vs) HP.out.1 HP.out.2.1 HP.out.2.2.1 HP.out.2.2.2 HEQ.out.1 HEQ.out.2.1 HEQ.out.2.2 rfl rfl HTS.out (s := gcdI T G) rfl (q1 := T / gcdI T G) rfl (e := val vs / gcdI T G) rfl (den := rA * (val vs / gcdI T G)) rfl)
    clear HNm HP1 HP2 HSG HU HBR HB3 HO3 m1 m2 m3 m4 HW2
    obtain ⟨p0, p1, _, _⟩ := HBX.out.c2
    go_wp2_with fail
    refine Calls.mono HC4.out ?_
    rintro e w7 ⟨v7, z7, rfl, o7, wd7, t7, hv7, hb7⟩
    obtain ⟨a7, c7, hs7⟩ := own_slice' o7
    subst hs7
    have HB7 := hid (bt HBc.out hb7)
    have HBX7 := hid (HBX.out.later hb7 HBX.out.lt)
    have HO7 : Hid (One X w7.drew (.slice a7 z7.length c7) z7 (gcdI T G) ∧ One X w7.drew (.slice a2 z2.length c2) z2 rA ∧ One X w7.drew (.slice a6 z6.length c6) z6 T) := ⟨One.later ⟨owns_base o7 HBc.out.size, wd7, t7, hv7⟩ (Below.drew (Below.refl _ w7)), (HOc.out.2.1.later hb7).later (Below.drew (Below.refl _ w7)), (HOc.out.2.2.later hb7).later (Below.drew (Below.refl _ w7))⟩
    have hb7d : Below X.heap.size X w7.drew := HB7.out.drew
    clear o7 wd7 t7 hv7 hb7 HC4 p0 p1 HOc
    obtain ⟨SP, hSP⟩ : ∃ SP : World → Prop, SP = fun V => (V.cell? ⟨w.heap.size, 0, none⟩ = some (.bool n) ∧ V.cell? ⟨w.heap.size, 1, none⟩ = some (.slice a xs.length ca) ∧ V.cell? ⟨w.heap.size, 2, none⟩ = some (.slice b ys.length cb) ∧ V.cell? ⟨w.heap.size + 1, 0, none⟩ = some (.bool m) ∧ V.cell? ⟨w.heap.size + 1, 1, none⟩ = some (.slice c us.length cc) ∧ V.cell? ⟨w.heap.size + 1, 2, none⟩ = some (.slice d vs.length cd)) ∧ V.cell? ⟨p, 0, none⟩ = some (.bool k6) ∧ V.cell? ⟨p, 1, none⟩ = some (.slice a6 z6.length c6) := ⟨_, rfl⟩
    have HK7 : Hid (∀ V, Below w7.heap.size w7 V → (V.cell? ⟨w.heap.size, 0, none⟩ = some (.bool n) ∧ V.cell? ⟨w.heap.size, 1, none⟩ = some (.slice a xs.length ca) ∧ V.cell? ⟨w.heap.size, 2, none⟩ = some (.slice b ys.length cb) ∧ V.cell? ⟨w.heap.size + 1, 0, none⟩ = some (.bool m) ∧ V.cell? ⟨w.heap.size + 1, 1, none⟩ = some (.slice c us.length cc) ∧ V.cell? ⟨w.heap.size + 1, 2, none⟩ = some (.slice d vs.length cd)) ∧ V.cell? ⟨p, 0, none⟩ = some (.bool k6) ∧ V.cell? ⟨p, 1, none⟩ = some (.slice a6 z6.length c6)) := fun V hb => by
      obtain ⟨q0, q1, _, _⟩ := (HBX7.out.later hb HBX7.out.lt).c2
      exact ⟨HK.out V (bt HB7.out hb), q0, q1⟩
    clear hSP SP
    have HBR := hid (Below.refl w7.heap.size w7)
    have hs0 := HK7.out _ HBR.out.drew
    have HQ6 := hid (fun (ww : World) (hw : Below w7.heap.size w7 ww) (h : One X ww (.slice a7 z7.length c7) z7 (gcdI T G)) (h6 : One X ww (.slice a6 z6.length c6) z6 T) => (by have e := quot_in (U := X) (fun _ => True) (fun _ _ => trivial) (bt HB7.out hw) h6.sl (by omega) h6.2.2.1 h HSS.out.1 (by have := HSS.out; omega); rw [h6.2.2.2] at e; exact at7 HK7.out hw e : Calls Tryz.prog 133 #[.slice a6 z6.length c6, .slice a7 z7.length c7] ww _))
    have HQV := hid (fun (ww : World) (hw : Below w7.heap.size w7 ww) (h : One X ww (.slice a7 z7.length c7) z7 (gcdI T G)) => (by have e := quot_in (U := X) (fun _ => True) (fun _ _ => trivial) (bt HB7.out hw) (HSL.out.2.2.2.later (bt HB7.out hw)) (by omega) HTT.out.2.2.2 h HSS.out.1 (by have := HSS.out; omega); exact at7 HK7.out hw e : Calls Tryz.prog 133 #[.slice d vs.length cd, .slice a7 z7.length c7] ww _))
    have HPR := hid (fun (ww : World) (hw : Below w7.heap.size w7 ww) (a9 : Option Addr) (z9 : List Int) (c9 : Nat) (h2 : One X ww (.slice a2 z2.length c2) z2 rA) (h9 : One X ww (.slice a9 z9.length c9) z9 (val vs / gcdI T G)) => (by have e := told1_in (U := X) (fun _ => True) (fun _ _ => trivial) ww (bt HB7.out hw) (rprod_any _ _ z2 z9 ww h2.sl h9.sl (by have := own_len h9 (L := 2048) (by have q := Int.ediv_le_self (a := val vs) (gcdI T G) HNN.out.2.2.2; have := HL.out; omega); omega) h2.2.2.1 h9.2.2.1); rw [h2.2.2.2, h9.2.2.2] at e; exact at7 HK7.out hw e : Calls Tryz.prog 112 #[.slice a2 z2.length c2, .slice a9 z9.length c9] ww _))
    have HTL2 := hid (fun (ww : World) (hb : Below X.heap.size X ww) (a8 : Option Addr) (z8 : List Int) (c8 : Nat) (a10 : Option Addr) (z10 : List Int) (c10 : Nat) (g1 : One X ww (.slice a8 z8.length c8) z8 (T / gcdI T G)) (g2 : One X ww (.slice a10 z10.length c10) z10 (rA * (val vs / gcdI T G))) (hc : Cut X (.slice a8 z8.length c8) (.slice a10 z10.length c10) ww) => rtold_cut2 (n := k6) (q := rq n xs ys + rq m us vs) hb g1 g2 hc HAP.out.1 HAP.out.2.1 HAP.out.2.2)
    have hq0 : w.heap.size + 1 + 1 ≠ w.heap.size := by omega
    have hq2 : ¬ w.heap.size + 1 + 1 = p := by have := HPW.out; omega
    go_wp2_with fail
    go_region_held3 (fun V : World => (V.cell? ⟨w.heap.size, 0, none⟩ = some (.bool n) ∧ V.cell? ⟨w.heap.size, 1, none⟩ = some (.slice a xs.length ca) ∧ V.cell? ⟨w.heap.size, 2, none⟩ = some (.slice b ys.length cb) ∧ V.cell? ⟨w.heap.size + 1, 0, none⟩ = some (.bool m) ∧ V.cell? ⟨w.heap.size + 1, 1, none⟩ = some (.slice c us.length cc) ∧ V.cell? ⟨w.heap.size + 1, 2, none⟩ = some (.slice d vs.length cd)) ∧ V.cell? ⟨p, 0, none⟩ = some (.bool k6) ∧ V.cell? ⟨p, 1, none⟩ = some (.slice a6 z6.length c6)) (first | exact hs11 | exact hs10 | exact hs9 | exact hs8 | exact hs0 | (simp [hs11, World.cell?_setCell_far, hq0, hq2]))
      (first
        | (go_at_call 135; with_reducible refine Calls.mono (HTL2.out _ (bt HB7.out HE10.out.2.2.2) _ _ _ _ _ _ ((HE8.out.1.later HS9.out).later HS10.out) HE10.out.1 (cut_two hb7d.size HS8.out.size (Nat.le_trans HS9.out.size HS10.out.size) HE8.out.2.1 (lies_low HE10.out.2.1 HS9.out.size))) ?_; rintro e w11 ⟨k9, a11, z11, c11, a12, z12, c12, code, rfl, HE11, hb11, HS11⟩; obtain ⟨y0, y1, y2, f0, f1, f2⟩ := res_box3 HZ.out hb11; have hs11 := HK7.out w11 (bt HE10.out.2.2.2 HS11.out))
        | (go_at_call 112; with_reducible refine Calls.mono (HPR.out _ HE9.out.2.2.2 _ _ _ ((HO7.out.2.1.later HS8.out).later HS9.out) HE9.out.1) ?_; rintro e w10 ⟨a10, z10, c10, rfl, HE10, hs10, HS10⟩)
        | (go_at_call 133; with_reducible refine Calls.mono (HQV.out _ HE8.out.2.2.2 (HO7.out.1.later HS8.out)) ?_; rintro e w9 ⟨a9, z9, c9, rfl, HE9, hs9, HS9⟩)
        | (go_at_call 133; with_reducible refine Calls.mono (HQ6.out _ HBR.out.drew HO7.out.1 HO7.out.2.2) ?_; rintro e w8 ⟨a8, z8, c8, rfl, HE8, hs8, HS8⟩))
    all_goals
      have HBW := hid (bt HB.out hb11)
      have HR := hid HE11.out
      clear HK HK7 HQ6 HQV HPR HTL2 HE8 HE9 HE10 HE11 HS8 HS9 HS10 HS11 HO7 hs0 hs8 hs9 hs10 hs11 hb7d hb11 HAP HBX HBX7 HBR HB7 HBc
      go_wp2_with fail
      refine bodyPost_ret (v := .tuple #[.agg #[.bool k9, .slice a11 z11.length c11, .slice a12 z12.length c12], .int .i64 code]) (by simp [results, Tryz.results113, go_sem, y0, y1, y2]) rfl ?_
      exact RToldA.put HR.out (w.heap.size + 1 + 1) HXS.out (by omega) HBW.out _ _ _
end Go.Proofs.YtabkgpnckaaclaaGreatDoor

/- Fractions: ratio.Add, Mul, Sub: of any fractions, good or refused; what is told is new memory. -/
namespace Go.Proofs.YtabkgpnckaaclaaGreatDoor
open Go.RowKit
set_option linter.unusedVariables false

theorem rq_less {n m : Bool} {xs ys us vs : List Int} : rq n xs ys + rq (!m) us vs = rq n xs ys - rq m us vs := by
  rw [Rat.sub_eq_add_neg]
  congr 1
  unfold rq
  rw [Rat.neg_divInt]
  congr 1
  cases m <;> simp [wval]

set_option maxHeartbeats 3200000 in
set_option maxRecDepth 100000 in
theorem rAdd_err (n : Bool) (a : Option Addr) (ca : Nat) (xs : List Int) (b : Option Addr) (cb : Nat) (ys : List Int) (m : Bool) (c : Option Addr) (cc : Nat) (us : List Int) (d : Option Addr) (cd : Nat) (vs : List Int) (w : World) (sx : Sl w (.slice a xs.length ca) xs) (sy : Sl w (.slice b ys.length cb) ys) (su : Sl w (.slice c us.length cc) us) (sv : Sl w (.slice d vs.length cd) vs) (he : rboth n xs ys m us vs ≠ 0) (q : Rat) :
    Calls Tryz.prog 88 #[.agg #[.bool n, .slice a xs.length ca, .slice b ys.length cb], .agg #[.bool m, .slice c us.length cc, .slice d vs.length cd]] w (RToldA w (rboth n xs ys m us vs) q) := by
  have HB : Hid (Below w.heap.size w (((w.alloc (.cells #[.bool n, .slice a xs.length ca, .slice b ys.length cb] 25)).alloc (.cells #[.bool m, .slice c us.length cc, .slice d vs.length cd] 25)).alloc (.cells #[.bool false, .slice none 0 0, .slice none 0 0] 25))) := bt (bt (alloc_later _ _) (alloc_later _ _)) (alloc_later _ _)
  have HZ : Hid (Box (((w.alloc (.cells #[.bool n, .slice a xs.length ca, .slice b ys.length cb] 25)).alloc (.cells #[.bool m, .slice c us.length cc, .slice d vs.length cd] 25)).alloc (.cells #[.bool false, .slice none 0 0, .slice none 0 0] 25)) (w.heap.size + 1 + 1) 25 #[.bool false, .slice none 0 0, .slice none 0 0]) := by
    have e := Box.made ((w.alloc (.cells #[.bool n, .slice a xs.length ca, .slice b ys.length cb] 25)).alloc (.cells #[.bool m, .slice c us.length cc, .slice d vs.length cd] 25)) 25 #[.bool false, .slice none 0 0, .slice none 0 0]
    simp at e
    exact e
  have HN : Hid (Box (((w.alloc (.cells #[.bool n, .slice a xs.length ca, .slice b ys.length cb] 25)).alloc (.cells #[.bool m, .slice c us.length cc, .slice d vs.length cd] 25)).alloc (.cells #[.bool false, .slice none 0 0, .slice none 0 0] 25)) w.heap.size 25 #[.bool n, .slice a xs.length ca, .slice b ys.length cb]) := Box.later (Box.made w _ _) (bt (alloc_later _ _) (alloc_later _ _)) (by simp)
  have HM : Hid (Box (((w.alloc (.cells #[.bool n, .slice a xs.length ca, .slice b ys.length cb] 25)).alloc (.cells #[.bool m, .slice c us.length cc, .slice d vs.length cd] 25)).alloc (.cells #[.bool false, .slice none 0 0, .slice none 0 0] 25)) (w.heap.size + 1) 25 #[.bool m, .slice c us.length cc, .slice d vs.length cd]) := by
    have e := Box.later (Box.made (w.alloc (.cells #[.bool n, .slice a xs.length ca, .slice b ys.length cb] 25)) 25 #[.bool m, .slice c us.length cc, .slice d vs.length cd]) (alloc_later ((w.alloc (.cells #[.bool n, .slice a xs.length ca, .slice b ys.length cb] 25)).alloc (.cells #[.bool m, .slice c us.length cc, .slice d vs.length cd] 25)) (.cells #[.bool false, .slice none 0 0, .slice none 0 0] 25)) (by simp)
    simp at e
    exact e
  have HXS : Hid (w.heap.size + 1 + 1 < (((w.alloc (.cells #[.bool n, .slice a xs.length ca, .slice b ys.length cb] 25)).alloc (.cells #[.bool m, .slice c us.length cc, .slice d vs.length cd] 25)).alloc (.cells #[.bool false, .slice none 0 0, .slice none 0 0] 25)).heap.size) := HZ.out.lt
  have HSL := hid (And.intro (sx.later HB.out) (And.intro (sy.later HB.out) (And.intro (su.later HB.out) (sv.later HB.out))))
  have HC := hid (rcheckBoth_any n _ xs _ ys m _ us _ vs (((w.alloc (.cells #[.bool n, .slice a xs.length ca, .slice b ys.length cb] 25)).alloc (.cells #[.bool m, .slice c us.length cc, .slice d vs.length cd] 25)).alloc (.cells #[.bool false, .slice none 0 0, .slice none 0 0] 25)) HSL.out.1 HSL.out.2.1 HSL.out.2.2.1 HSL.out.2.2.2)
  obtain ⟨E, hE⟩ : ∃ E, rboth n xs ys m us vs = E := ⟨_, rfl⟩
  rw [hE] at HC he ⊢
  have he' : (E == 0) = false := beq_eq_false_iff_ne.2 he
  have HE := hid he
  clear he hE sx sy su sv
  go_enter Tryz.func88, Tryz.ntmps88
  go_wp2_with fail
  refine Calls.mono HC.out ?_
  generalize (((w.alloc (.cells #[.bool n, .slice a xs.length ca, .slice b ys.length cb] 25)).alloc (.cells #[.bool m, .slice c us.length cc, .slice d vs.length cd] 25)).alloc (.cells #[.bool false, .slice none 0 0, .slice none 0 0] 25)) = X at *
  rintro e w1 ⟨rfl, hb1⟩
  obtain ⟨y0, y1, y2, f0, f1, f2⟩ := res_box3 HZ.out hb1
  have HBN := hid (below_put3 (bt HB.out hb1) (w.heap.size + 1 + 1) (by omega) (.bool false) (.slice none 0 0) (.slice none 0 0))
  clear hb1 HC HN HM HZ HSL
  go_wp2_with fail
  refine bodyPost_ret (v := .tuple #[.agg #[.bool false, .slice none 0 0, .slice none 0 0], .int .i64 E]) (by simp [results, Tryz.results88, go_sem, y0, y1, y2]) rfl ?_
  exact ⟨false, _, [], _, [], _, rfl, World.ownsRow_nil _ _ _ _, World.ownsRow_nil _ _ _ _, RTells.err HE.out, HBN.out, ⟨w.heap.size, Nat.le_refl _, HBN.out.size, fun g hg => by simp [Value.ownBlock] at hg, fun g hg => by simp [Value.ownBlock] at hg⟩⟩

set_option maxHeartbeats 3200000 in
set_option maxRecDepth 100000 in
theorem rAdd_ok (n : Bool) (a : Option Addr) (ca : Nat) (xs : List Int) (b : Option Addr) (cb : Nat) (ys : List Int) (m : Bool) (c : Option Addr) (cc : Nat) (us : List Int) (d : Option Addr) (cd : Nat) (vs : List Int) (w : World) (sx : Sl w (.slice a xs.length ca) xs) (sy : Sl w (.slice b ys.length cb) ys) (su : Sl w (.slice c us.length cc) us) (sv : Sl w (.slice d vs.length cd) vs) (hx : rchk n xs ys = 0) (hy : rchk m us vs = 0) :
    Calls Tryz.prog 88 #[.agg #[.bool n, .slice a xs.length ca, .slice b ys.length cb], .agg #[.bool m, .slice c us.length cc, .slice d vs.length cd]] w (RToldA w 0 (rq n xs ys + rq m us vs)) := by
  obtain ⟨lx, ly, tx, ty, y0', _, g1⟩ := rchk_ok hx
  obtain ⟨lu, lv, tu, tv, v0', _, g2⟩ := rchk_ok hy
  have py := val_pos' sy.wd ty y0'
  have pv := val_pos' sv.wd tv v0'
  have HB : Hid (Below w.heap.size w (((w.alloc (.cells #[.bool n, .slice a xs.length ca, .slice b ys.length cb] 25)).alloc (.cells #[.bool m, .slice c us.length cc, .slice d vs.length cd] 25)).alloc (.cells #[.bool false, .slice none 0 0, .slice none 0 0] 25))) := bt (bt (alloc_later _ _) (alloc_later _ _)) (alloc_later _ _)
  have HZ : Hid (Box (((w.alloc (.cells #[.bool n, .slice a xs.length ca, .slice b ys.length cb] 25)).alloc (.cells #[.bool m, .slice c us.length cc, .slice d vs.length cd] 25)).alloc (.cells #[.bool false, .slice none 0 0, .slice none 0 0] 25)) (w.heap.size + 1 + 1) 25 #[.bool false, .slice none 0 0, .slice none 0 0]) := by
    have e := Box.made ((w.alloc (.cells #[.bool n, .slice a xs.length ca, .slice b ys.length cb] 25)).alloc (.cells #[.bool m, .slice c us.length cc, .slice d vs.length cd] 25)) 25 #[.bool false, .slice none 0 0, .slice none 0 0]
    simp at e
    exact e
  have HN : Hid (Box (((w.alloc (.cells #[.bool n, .slice a xs.length ca, .slice b ys.length cb] 25)).alloc (.cells #[.bool m, .slice c us.length cc, .slice d vs.length cd] 25)).alloc (.cells #[.bool false, .slice none 0 0, .slice none 0 0] 25)) w.heap.size 25 #[.bool n, .slice a xs.length ca, .slice b ys.length cb]) := Box.later (Box.made w _ _) (bt (alloc_later _ _) (alloc_later _ _)) (by simp)
  have HM : Hid (Box (((w.alloc (.cells #[.bool n, .slice a xs.length ca, .slice b ys.length cb] 25)).alloc (.cells #[.bool m, .slice c us.length cc, .slice d vs.length cd] 25)).alloc (.cells #[.bool false, .slice none 0 0, .slice none 0 0] 25)) (w.heap.size + 1) 25 #[.bool m, .slice c us.length cc, .slice d vs.length cd]) := by
    have e := Box.later (Box.made (w.alloc (.cells #[.bool n, .slice a xs.length ca, .slice b ys.length cb] 25)) 25 #[.bool m, .slice c us.length cc, .slice d vs.length cd]) (alloc_later ((w.alloc (.cells #[.bool n, .slice a xs.length ca, .slice b ys.length cb] 25)).alloc (.cells #[.bool m, .slice c us.length cc, .slice d vs.length cd] 25)) (.cells #[.bool false, .slice none 0 0, .slice none 0 0] 25)) (by simp)
    simp at e
    exact e
  have HXS : Hid (w.heap.size + 1 + 1 < (((w.alloc (.cells #[.bool n, .slice a xs.length ca, .slice b ys.length cb] 25)).alloc (.cells #[.bool m, .slice c us.length cc, .slice d vs.length cd] 25)).alloc (.cells #[.bool false, .slice none 0 0, .slice none 0 0] 25)).heap.size) := HZ.out.lt
  have HSL := hid (And.intro (sx.later HB.out) (And.intro (sy.later HB.out) (And.intro (su.later HB.out) (sv.later HB.out))))
  have HC := hid (rcheckBoth_any n _ xs _ ys m _ us _ vs (((w.alloc (.cells #[.bool n, .slice a xs.length ca, .slice b ys.length cb] 25)).alloc (.cells #[.bool m, .slice c us.length cc, .slice d vs.length cd] 25)).alloc (.cells #[.bool false, .slice none 0 0, .slice none 0 0] 25)) HSL.out.1 HSL.out.2.1 HSL.out.2.2.1 HSL.out.2.2.2)
  rw [rboth_good hx hy] at HC
  have HA := hid (fun ww (hb : Below (((w.alloc (.cells #[.bool n, .slice a xs.length ca, .slice b ys.length cb] 25)).alloc (.cells #[.bool m, .slice c us.length cc, .slice d vs.length cd] 25)).alloc (.cells #[.bool false, .slice none 0 0, .slice none 0 0] 25)).heap.size (((w.alloc (.cells #[.bool n, .slice a xs.length ca, .slice b ys.length cb] 25)).alloc (.cells #[.bool m, .slice c us.length cc, .slice d vs.length cd] 25)).alloc (.cells #[.bool false, .slice none 0 0, .slice none 0 0] 25)) ww) => radd_any n a ca xs b cb ys m c cc us d cd vs ww (HSL.out.1.later hb) (HSL.out.2.1.later hb) (HSL.out.2.2.1.later hb) (HSL.out.2.2.2.later hb) lx ly lu lv tx ty tu tv (by omega) (by omega) g1 g2)
  clear sx sy su sv hx hy tx ty tu tv g1 g2 py pv
  go_enter Tryz.func88, Tryz.ntmps88
  go_wp2_with fail
  refine Calls.mono HC.out ?_
  generalize (((w.alloc (.cells #[.bool n, .slice a xs.length ca, .slice b ys.length cb] 25)).alloc (.cells #[.bool m, .slice c us.length cc, .slice d vs.length cd] 25)).alloc (.cells #[.bool false, .slice none 0 0, .slice none 0 0] 25)) = X at *
  rintro e w1 ⟨rfl, hb1⟩
  have HCA := hid (HA.out w1 hb1)
  obtain ⟨p0, p1, p2, _⟩ := res_box3 HN.out hb1
  obtain ⟨q0, q1, q2, _⟩ := res_box3 HM.out hb1
  have HB1 := hid hb1
  clear hb1 HC HA
  go_wp2_with fail
  refine Calls.mono HCA.out ?_
  rintro e w2 ⟨k2, v2, z2, u2, r2, code, rfl, o2, o3, t2, hb2, hc2⟩
  obtain ⟨a2, c2, hs2⟩ := own_slice' o2
  subst hs2
  obtain ⟨a3, c3, hs3⟩ := own_slice' o3
  subst hs3
  have HR := hid (And.intro o2 (And.intro o3 (And.intro t2 hc2)))
  obtain ⟨y0, y1, y2, f0, f1, f2⟩ := res_box3 HZ.out (bt HB1.out hb2)
  have HBW := hid (bt HB.out (bt HB1.out hb2))
  have HLT : Hid (w.heap.size + 1 + 1 < w1.heap.size) := Nat.lt_of_lt_of_le HXS.out HB1.out.size
  clear o2 o3 t2 hb2 hc2 HCA p0 p1 p2 q0 q1 q2
  go_wp2_with fail
  refine bodyPost_ret (v := .tuple #[.agg #[.bool k2, .slice a2 z2.length c2, .slice a3 r2.length c3], .int .i64 code]) (by simp [results, Tryz.results88, go_sem, y0, y1, y2]) rfl ?_
  exact RToldA.put HR.out (w.heap.size + 1 + 1) HLT.out (by omega) HBW.out _ _ _
theorem rAdd_full (n : Bool) (a : Option Addr) (ca : Nat) (xs : List Int) (b : Option Addr) (cb : Nat) (ys : List Int) (m : Bool) (c : Option Addr) (cc : Nat) (us : List Int) (d : Option Addr) (cd : Nat) (vs : List Int) (w : World) (sx : Sl w (.slice a xs.length ca) xs) (sy : Sl w (.slice b ys.length cb) ys) (su : Sl w (.slice c us.length cc) us) (sv : Sl w (.slice d vs.length cd) vs) :
    Calls Tryz.prog 88 #[.agg #[.bool n, .slice a xs.length ca, .slice b ys.length cb], .agg #[.bool m, .slice c us.length cc, .slice d vs.length cd]] w (RToldA w (rboth n xs ys m us vs) (rq n xs ys + rq m us vs)) := by
  by_cases he : rboth n xs ys m us vs = 0
  · rw [he]
    exact rAdd_ok n a ca xs b cb ys m c cc us d cd vs w sx sy su sv (rboth_ok he).1 (rboth_ok he).2
  · exact rAdd_err n a ca xs b cb ys m c cc us d cd vs w sx sy su sv he _

set_option maxHeartbeats 3200000 in
set_option maxRecDepth 100000 in
theorem rSub_err (n : Bool) (a : Option Addr) (ca : Nat) (xs : List Int) (b : Option Addr) (cb : Nat) (ys : List Int) (m : Bool) (c : Option Addr) (cc : Nat) (us : List Int) (d : Option Addr) (cd : Nat) (vs : List Int) (w : World) (sx : Sl w (.slice a xs.length ca) xs) (sy : Sl w (.slice b ys.length cb) ys) (su : Sl w (.slice c us.length cc) us) (sv : Sl w (.slice d vs.length cd) vs) (he : rboth n xs ys m us vs ≠ 0) (q : Rat) :
    Calls Tryz.prog 87 #[.agg #[.bool n, .slice a xs.length ca, .slice b ys.length cb], .agg #[.bool m, .slice c us.length cc, .slice d vs.length cd]] w (RToldA w (rboth n xs ys m us vs) q) := by
  have HB : Hid (Below w.heap.size w (((w.alloc (.cells #[.bool n, .slice a xs.length ca, .slice b ys.length cb] 25)).alloc (.cells #[.bool m, .slice c us.length cc, .slice d vs.length cd] 25)).alloc (.cells #[.bool false, .slice none 0 0, .slice none 0 0] 25))) := bt (bt (alloc_later _ _) (alloc_later _ _)) (alloc_later _ _)
  have HZ : Hid (Box (((w.alloc (.cells #[.bool n, .slice a xs.length ca, .slice b ys.length cb] 25)).alloc (.cells #[.bool m, .slice c us.length cc, .slice d vs.length cd] 25)).alloc (.cells #[.bool false, .slice none 0 0, .slice none 0 0] 25)) (w.heap.size + 1 + 1) 25 #[.bool false, .slice none 0 0, .slice none 0 0]) := by
    have e := Box.made ((w.alloc (.cells #[.bool n, .slice a xs.length ca, .slice b ys.length cb] 25)).alloc (.cells #[.bool m, .slice c us.length cc, .slice d vs.length cd] 25)) 25 #[.bool false, .slice none 0 0, .slice none 0 0]
    simp at e
    exact e
  have HN : Hid (Box (((w.alloc (.cells #[.bool n, .slice a xs.length ca, .slice b ys.length cb] 25)).alloc (.cells #[.bool m, .slice c us.length cc, .slice d vs.length cd] 25)).alloc (.cells #[.bool false, .slice none 0 0, .slice none 0 0] 25)) w.heap.size 25 #[.bool n, .slice a xs.length ca, .slice b ys.length cb]) := Box.later (Box.made w _ _) (bt (alloc_later _ _) (alloc_later _ _)) (by simp)
  have HM : Hid (Box (((w.alloc (.cells #[.bool n, .slice a xs.length ca, .slice b ys.length cb] 25)).alloc (.cells #[.bool m, .slice c us.length cc, .slice d vs.length cd] 25)).alloc (.cells #[.bool false, .slice none 0 0, .slice none 0 0] 25)) (w.heap.size + 1) 25 #[.bool m, .slice c us.length cc, .slice d vs.length cd]) := by
    have e := Box.later (Box.made (w.alloc (.cells #[.bool n, .slice a xs.length ca, .slice b ys.length cb] 25)) 25 #[.bool m, .slice c us.length cc, .slice d vs.length cd]) (alloc_later ((w.alloc (.cells #[.bool n, .slice a xs.length ca, .slice b ys.length cb] 25)).alloc (.cells #[.bool m, .slice c us.length cc, .slice d vs.length cd] 25)) (.cells #[.bool false, .slice none 0 0, .slice none 0 0] 25)) (by simp)
    simp at e
    exact e
  have HXS : Hid (w.heap.size + 1 + 1 < (((w.alloc (.cells #[.bool n, .slice a xs.length ca, .slice b ys.length cb] 25)).alloc (.cells #[.bool m, .slice c us.length cc, .slice d vs.length cd] 25)).alloc (.cells #[.bool false, .slice none 0 0, .slice none 0 0] 25)).heap.size) := HZ.out.lt
  have HSL := hid (And.intro (sx.later HB.out) (And.intro (sy.later HB.out) (And.intro (su.later HB.out) (sv.later HB.out))))
  have HC := hid (rcheckBoth_any n _ xs _ ys m _ us _ vs (((w.alloc (.cells #[.bool n, .slice a xs.length ca, .slice b ys.length cb] 25)).alloc (.cells #[.bool m, .slice c us.length cc, .slice d vs.length cd] 25)).alloc (.cells #[.bool false, .slice none 0 0, .slice none 0 0] 25)) HSL.out.1 HSL.out.2.1 HSL.out.2.2.1 HSL.out.2.2.2)
  obtain ⟨E, hE⟩ : ∃ E, rboth n xs ys m us vs = E := ⟨_, rfl⟩
  rw [hE] at HC he ⊢
  have he' : (E == 0) = false := beq_eq_false_iff_ne.2 he
  have HE := hid he
  clear he hE sx sy su sv
  go_enter Tryz.func87, Tryz.ntmps87
  go_wp2_with fail
  refine Calls.mono HC.out ?_
  generalize (((w.alloc (.cells #[.bool n, .slice a xs.length ca, .slice b ys.length cb] 25)).alloc (.cells #[.bool m, .slice c us.length cc, .slice d vs.length cd] 25)).alloc (.cells #[.bool false, .slice none 0 0, .slice none 0 0] 25)) = X at *
  rintro e w1 ⟨rfl, hb1⟩
  obtain ⟨y0, y1, y2, f0, f1, f2⟩ := res_box3 HZ.out hb1
  have HBN := hid (below_put3 (bt HB.out hb1) (w.heap.size + 1 + 1) (by omega) (.bool false) (.slice none 0 0) (.slice none 0 0))
  clear hb1 HC HN HM HZ HSL
  go_wp2_with fail
  refine bodyPost_ret (v := .tuple #[.agg #[.bool false, .slice none 0 0, .slice none 0 0], .int .i64 E]) (by simp [results, Tryz.results87, go_sem, y0, y1, y2]) rfl ?_
  exact ⟨false, _, [], _, [], _, rfl, World.ownsRow_nil _ _ _ _, World.ownsRow_nil _ _ _ _, RTells.err HE.out, HBN.out, ⟨w.heap.size, Nat.le_refl _, HBN.out.size, fun g hg => by simp [Value.ownBlock] at hg, fun g hg => by simp [Value.ownBlock] at hg⟩⟩

set_option maxHeartbeats 3200000 in
set_option maxRecDepth 100000 in
theorem rSub_ok (n : Bool) (a : Option Addr) (ca : Nat) (xs : List Int) (b : Option Addr) (cb : Nat) (ys : List Int) (m : Bool) (c : Option Addr) (cc : Nat) (us : List Int) (d : Option Addr) (cd : Nat) (vs : List Int) (w : World) (sx : Sl w (.slice a xs.length ca) xs) (sy : Sl w (.slice b ys.length cb) ys) (su : Sl w (.slice c us.length cc) us) (sv : Sl w (.slice d vs.length cd) vs) (hx : rchk n xs ys = 0) (hy : rchk m us vs = 0) :
    Calls Tryz.prog 87 #[.agg #[.bool n, .slice a xs.length ca, .slice b ys.length cb], .agg #[.bool m, .slice c us.length cc, .slice d vs.length cd]] w (RToldA w 0 (rq n xs ys - rq m us vs)) := by
  obtain ⟨lx, ly, tx, ty, y0', _, g1⟩ := rchk_ok hx
  obtain ⟨lu, lv, tu, tv, v0', _, g2⟩ := rchk_ok hy
  have py := val_pos' sy.wd ty y0'
  have pv := val_pos' sv.wd tv v0'
  have HB : Hid (Below w.heap.size w (((w.alloc (.cells #[.bool n, .slice a xs.length ca, .slice b ys.length cb] 25)).alloc (.cells #[.bool m, .slice c us.length cc, .slice d vs.length cd] 25)).alloc (.cells #[.bool false, .slice none 0 0, .slice none 0 0] 25))) := bt (bt (alloc_later _ _) (alloc_later _ _)) (alloc_later _ _)
  have HZ : Hid (Box (((w.alloc (.cells #[.bool n, .slice a xs.length ca, .slice b ys.length cb] 25)).alloc (.cells #[.bool m, .slice c us.length cc, .slice d vs.length cd] 25)).alloc (.cells #[.bool false, .slice none 0 0, .slice none 0 0] 25)) (w.heap.size + 1 + 1) 25 #[.bool false, .slice none 0 0, .slice none 0 0]) := by
    have e := Box.made ((w.alloc (.cells #[.bool n, .slice a xs.length ca, .slice b ys.length cb] 25)).alloc (.cells #[.bool m, .slice c us.length cc, .slice d vs.length cd] 25)) 25 #[.bool false, .slice none 0 0, .slice none 0 0]
    simp at e
    exact e
  have HN : Hid (Box (((w.alloc (.cells #[.bool n, .slice a xs.length ca, .slice b ys.length cb] 25)).alloc (.cells #[.bool m, .slice c us.length cc, .slice d vs.length cd] 25)).alloc (.cells #[.bool false, .slice none 0 0, .slice none 0 0] 25)) w.heap.size 25 #[.bool n, .slice a xs.length ca, .slice b ys.length cb]) := Box.later (Box.made w _ _) (bt (alloc_later _ _) (alloc_later _ _)) (by simp)
  have HM : Hid (Box (((w.alloc (.cells #[.bool n, .slice a xs.length ca, .slice b ys.length cb] 25)).alloc (.cells #[.bool m, .slice c us.length cc, .slice d vs.length cd] 25)).alloc (.cells #[.bool false, .slice none 0 0, .slice none 0 0] 25)) (w.heap.size + 1) 25 #[.bool m, .slice c us.length cc, .slice d vs.length cd]) := by
    have e := Box.later (Box.made (w.alloc (.cells #[.bool n, .slice a xs.length ca, .slice b ys.length cb] 25)) 25 #[.bool m, .slice c us.length cc, .slice d vs.length cd]) (alloc_later ((w.alloc (.cells #[.bool n, .slice a xs.length ca, .slice b ys.length cb] 25)).alloc (.cells #[.bool m, .slice c us.length cc, .slice d vs.length cd] 25)) (.cells #[.bool false, .slice none 0 0, .slice none 0 0] 25)) (by simp)
    simp at e
    exact e
  have HXS : Hid (w.heap.size + 1 + 1 < (((w.alloc (.cells #[.bool n, .slice a xs.length ca, .slice b ys.length cb] 25)).alloc (.cells #[.bool m, .slice c us.length cc, .slice d vs.length cd] 25)).alloc (.cells #[.bool false, .slice none 0 0, .slice none 0 0] 25)).heap.size) := HZ.out.lt
  have HSL := hid (And.intro (sx.later HB.out) (And.intro (sy.later HB.out) (And.intro (su.later HB.out) (sv.later HB.out))))
  have HC := hid (rcheckBoth_any n _ xs _ ys m _ us _ vs (((w.alloc (.cells #[.bool n, .slice a xs.length ca, .slice b ys.length cb] 25)).alloc (.cells #[.bool m, .slice c us.length cc, .slice d vs.length cd] 25)).alloc (.cells #[.bool false, .slice none 0 0, .slice none 0 0] 25)) HSL.out.1 HSL.out.2.1 HSL.out.2.2.1 HSL.out.2.2.2)
  rw [rboth_good hx hy] at HC
  have HT := hid (And.intro lx (And.intro ly (And.intro lu (And.intro lv (And.intro tx (And.intro ty (And.intro tu (And.intro tv (And.intro g1 g2)))))))))
  have HS0 := hid (And.intro sx (And.intro sy (And.intro su sv)))
  have HPY := hid (And.intro py pv)
  clear sx sy su sv hx hy tx ty tu tv g1 g2 py pv lx ly lu lv
  go_enter Tryz.func87, Tryz.ntmps87
  go_wp2_with fail
  refine Calls.mono HC.out ?_
  generalize (((w.alloc (.cells #[.bool n, .slice a xs.length ca, .slice b ys.length cb] 25)).alloc (.cells #[.bool m, .slice c us.length cc, .slice d vs.length cd] 25)).alloc (.cells #[.bool false, .slice none 0 0, .slice none 0 0] 25)) = X at *
  rintro e w1 ⟨rfl, hb1⟩
  have HB1 := hid (bt HB.out hb1)
  have HN1 := hid (HN.out.later hb1 HN.out.lt)
  have HM1 := hid (HM.out.later hb1 HM.out.lt)
  have HZ1 := hid (HZ.out.later hb1 HZ.out.lt)
  have HL1 : Hid (w.heap.size + 1 + 1 < w1.heap.size) := Nat.lt_of_lt_of_le HXS.out hb1.size
  have HMp := hid (HM1.out.set 0 (.bool (!m)))
  have HNp := hid (HN1.out.other ⟨w.heap.size + 1, 0, none⟩ (.bool (!m)) (by simp))
  have HZp := hid (HZ1.out.other ⟨w.heap.size + 1, 0, none⟩ (.bool (!m)) (by simp))
  have HBs : Hid (Below w.heap.size w (w1.setCell ⟨w.heap.size + 1, 0, none⟩ (.bool (!m)))) := HB1.out.setCell (p := ⟨w.heap.size + 1, 0, none⟩) (by simp) _
  have HLs : Hid (w.heap.size + 1 + 1 < (w1.setCell ⟨w.heap.size + 1, 0, none⟩ (.bool (!m))).heap.size) := HZp.out.lt
  have HCA := hid (radd_any n a ca xs b cb ys (!m) c cc us d cd vs (w1.setCell ⟨w.heap.size + 1, 0, none⟩ (.bool (!m))) (HS0.out.1.later HBs.out) (HS0.out.2.1.later HBs.out) (HS0.out.2.2.1.later HBs.out) (HS0.out.2.2.2.later HBs.out) HT.out.1 HT.out.2.1 HT.out.2.2.1 HT.out.2.2.2.1 HT.out.2.2.2.2.1 HT.out.2.2.2.2.2.1 HT.out.2.2.2.2.2.2.1 HT.out.2.2.2.2.2.2.2.1 (by have := HPY.out; omega) (by have := HPY.out; omega) HT.out.2.2.2.2.2.2.2.2.1 HT.out.2.2.2.2.2.2.2.2.2)
  rw [rq_less] at HCA
  obtain ⟨p0, p1, p2, _⟩ := res_box3 HN1.out (Below.refl _ w1)
  obtain ⟨q0, q1, q2, g0, g1, g2⟩ := res_box3 HM1.out (Below.refl _ w1)
  have r0 : (w1.setCell ⟨w.heap.size + 1, 0, none⟩ (.bool (!m))).cell? ⟨w.heap.size, 0, none⟩ = some (.bool n) := HNp.out.cell 0
  have r1 : (w1.setCell ⟨w.heap.size + 1, 0, none⟩ (.bool (!m))).cell? ⟨w.heap.size, 1, none⟩ = some (.slice a xs.length ca) := HNp.out.cell 1
  have r2 : (w1.setCell ⟨w.heap.size + 1, 0, none⟩ (.bool (!m))).cell? ⟨w.heap.size, 2, none⟩ = some (.slice b ys.length cb) := HNp.out.cell 2
  have t0 : (w1.setCell ⟨w.heap.size + 1, 0, none⟩ (.bool (!m))).cell? ⟨w.heap.size + 1, 0, none⟩ = some (.bool (!m)) := HMp.out.cell 0
  have t1 : (w1.setCell ⟨w.heap.size + 1, 0, none⟩ (.bool (!m))).cell? ⟨w.heap.size + 1, 1, none⟩ = some (.slice c us.length cc) := HMp.out.cell 1
  have t2 : (w1.setCell ⟨w.heap.size + 1, 0, none⟩ (.bool (!m))).cell? ⟨w.heap.size + 1, 2, none⟩ = some (.slice d vs.length cd) := HMp.out.cell 2
  clear hb1 HC
  go_wp2_with fail
  refine Calls.mono HCA.out ?_
  generalize w1.setCell ⟨w.heap.size + 1, 0, none⟩ (.bool (!m)) = V at *
  rintro e w2 ⟨k2, v2, z2, u2, r2', code, rfl, o2, o3, tt2, hb2, hc2⟩
  obtain ⟨a2, c2, hs2⟩ := own_slice' o2
  subst hs2
  obtain ⟨a3, c3, hs3⟩ := own_slice' o3
  subst hs3
  have HR := hid (And.intro o2 (And.intro o3 (And.intro tt2 hc2)))
  obtain ⟨y0, y1, y2, f0, f1, f2⟩ := res_box3 HZp.out hb2
  have HBW := hid (bt HBs.out hb2)
  clear o2 o3 tt2 hb2 hc2 HCA p0 p1 p2 q0 q1 q2 g0 g1 g2 r0 r1 r2 t0 t1 t2
  go_wp2_with fail
  refine bodyPost_ret (v := .tuple #[.agg #[.bool k2, .slice a2 z2.length c2, .slice a3 r2'.length c3], .int .i64 code]) (by simp [results, Tryz.results87, go_sem, y0, y1, y2]) rfl ?_
  exact RToldA.put HR.out (w.heap.size + 1 + 1) HLs.out (by omega) HBW.out _ _ _
theorem rSub_full (n : Bool) (a : Option Addr) (ca : Nat) (xs : List Int) (b : Option Addr) (cb : Nat) (ys : List Int) (m : Bool) (c : Option Addr) (cc : Nat) (us : List Int) (d : Option Addr) (cd : Nat) (vs : List Int) (w : World) (sx : Sl w (.slice a xs.length ca) xs) (sy : Sl w (.slice b ys.length cb) ys) (su : Sl w (.slice c us.length cc) us) (sv : Sl w (.slice d vs.length cd) vs) :
    Calls Tryz.prog 87 #[.agg #[.bool n, .slice a xs.length ca, .slice b ys.length cb], .agg #[.bool m, .slice c us.length cc, .slice d vs.length cd]] w (RToldA w (rboth n xs ys m us vs) (rq n xs ys - rq m us vs)) := by
  by_cases he : rboth n xs ys m us vs = 0
  · rw [he]
    exact rSub_ok n a ca xs b cb ys m c cc us d cd vs w sx sy su sv (rboth_ok he).1 (rboth_ok he).2
  · exact rSub_err n a ca xs b cb ys m c cc us d cd vs w sx sy su sv he _
end Go.Proofs.YtabkgpnckaaclaaGreatDoor

/- Fractions: ratio.Quo, Neg, Sign: of any fractions, good or refused; what is told is new memory. -/
namespace Go.Proofs.YtabkgpnckaaclaaGreatDoor
open Go.RowKit
set_option linter.unusedVariables false

theorem gcd_comm' (x y : Int) : gcdI x y = gcdI y x := by unfold gcdI; rw [Int.gcd_comm]
theorem rq_over {n m : Bool} {xs ys us vs : List Int} : rq n xs ys * rq m vs us = rq n xs ys / rq m us vs := by
  rw [Rat.div_def]
  congr 1
  unfold rq
  rw [Rat.inv_divInt]
  cases m
  · rfl
  · show Rat.divInt (-(val vs)) (val us) = Rat.divInt (val vs) (-(val us))
    rw [Rat.divInt_neg']

/-- The error of Quo. -/
def qErr (n : Bool) (xs ys : List Int) (m : Bool) (us vs : List Int) : Int := if rboth n xs ys m us vs = 0 then (if us.length = 0 then 7 else 0) else rboth n xs ys m us vs
end Go.Proofs.YtabkgpnckaaclaaGreatDoor

/- Fractions: ratio.Neg, Sign: of any fraction, good or refused. -/
namespace Go.Proofs.YtabkgpnckaaclaaGreatDoor
open Go.RowKit
set_option linter.unusedVariables false

theorem trim1_any (v : Value) (xs : List Int) (w : World) (h : Sl w v xs) (hn : xs.length ≤ 1099511627776) : Calls Tryz.prog 156 #[v] w (Told1 w (val xs)) := by
  have wx := h.wd
  refine Calls.mono (trim_sl v xs w h hn) ?_
  rintro e w' ⟨v', rfl, o, hb⟩
  exact ⟨v', trimmed xs, rfl, owns_len o, wx.trimmed, Trimmed.trimmed _, val_trimmed xs, hb⟩
theorem rq_neg {n : Bool} {xs ys : List Int} : Rat.divInt (sg (!n) (val xs)) (val ys) = -(rq n xs ys) := by
  unfold rq
  rw [Rat.neg_divInt]
  congr 1
  cases n <;> simp [sg, wval]

end Go.Proofs.YtabkgpnckaaclaaGreatDoor

/- Fractions: Same, Sign; slices.Equal of words. -/
namespace Go.Proofs.YtabkgpnckaaclaaGreatDoor
open Go.RowKit
set_option linter.unusedVariables false

/-- What Sign tells. -/
def rsgn (n : Bool) (xs ys : List Int) : Int := if rchk n xs ys = 0 then (if xs.length = 0 then 0 else if n then -1 else 1) else 0

end Go.Proofs.YtabkgpnckaaclaaGreatDoor

