/- Euclid's steps, many at once: plain arithmetic, nothing of the program. -/
import Derived.Test.YtbcangblmadnpacDoorApply
namespace Go.Proofs.YtbcangblmadnpacDoor
open Go.RowKit
set_option linter.unusedVariables false

/-- The sizes of a leap's four factors and its sign, after s steps. -/
structure Lp (s g A B C D : Int) : Prop where
  a0 : 0 ≤ A
  b0 : 0 ≤ B
  c0 : 0 ≤ C
  cd : C ≤ D
  d1 : 1 ≤ D
  det : A * D - B * C = g
  sgn : g = 1 ∨ g = -1
  way : (s = 0 ∧ A = 1 ∧ B = 0 ∧ C = 0 ∧ D = 1) ∨ (1 ≤ s ∧ A ≤ B ∧ 1 ≤ B ∧ B ≤ D ∧ 1 ≤ C)

theorem Lp.first : Lp 0 1 1 0 0 1 := ⟨by omega, by omega, by omega, by omega, by omega, by omega, .inl rfl, .inl ⟨rfl, rfl, rfl, rfl, rfl⟩⟩

theorem Lp.step {s g A B C D Q : Int} (h : Lp s g A B C D) (hQ : 1 ≤ Q) : Lp (s + 1) (-g) C D (A + Q * C) (B + Q * D) := by
  obtain ⟨a0, b0, c0, cd, d1, det, sgn, way⟩ := h
  have q1 : 0 ≤ Q * C := Int.mul_nonneg (by omega) c0
  have q2 : Q * C ≤ Q * D := Int.mul_le_mul_of_nonneg_left cd (by omega)
  have q3 : 1 * D ≤ Q * D := Int.mul_le_mul_of_nonneg_right hQ (by omega)
  have q4 : 1 * C ≤ Q * C := Int.mul_le_mul_of_nonneg_right hQ c0
  rw [Int.one_mul] at q3 q4
  have hdet : C * (B + Q * D) - D * (A + Q * C) = -g := by
    rw [Int.mul_add, Int.mul_add, Int.mul_comm C B, Int.mul_comm D A, ← Int.mul_assoc C, ← Int.mul_assoc D, Int.mul_comm C Q, Int.mul_comm D Q, Int.mul_assoc Q C, Int.mul_assoc Q D, Int.mul_comm D C]
    omega
  rcases way with ⟨e0, e1, e2, e3, e4⟩ | ⟨w1, w2, w3, w4, w5⟩
  · subst e1 e2 e3 e4
    refine ⟨by omega, by omega, by omega, by omega, by omega, hdet, by omega, .inr ⟨by omega, by omega, by omega, by omega, by omega⟩⟩
  · refine ⟨by omega, by omega, by omega, by omega, by omega, hdet, by omega, .inr ⟨by omega, by omega, by omega, by omega, by omega⟩⟩

/-- One step of the division: the first pair out of the later one. -/
theorem pair_step {A B C D Q p q r p0 q0 : Int} (hp : p = Q * q + r) (h1 : p0 = D * p + B * q) (h2 : q0 = C * p + A * q) :
    p0 = (B + Q * D) * q + D * r ∧ q0 = (A + Q * C) * q + C * r := by
  subst hp
  constructor
  · rw [h1, Int.mul_add, Int.add_mul, ← Int.mul_assoc, Int.mul_comm D Q]; omega
  · rw [h2, Int.mul_add, Int.add_mul, ← Int.mul_assoc, Int.mul_comm C Q]; omega

/-- The later pair out of the first one. -/
theorem pair_back {g A B C D p q p0 q0 : Int} (det : A * D - B * C = g) (sgn : g = 1 ∨ g = -1) (h1 : p0 = D * p + B * q) (h2 : q0 = C * p + A * q) :
    p = g * A * p0 + -(g * B) * q0 ∧ q = -(g * C) * p0 + g * D * q0 := by
  have e1 : A * p0 - B * q0 = g * p := by
    rw [h1, h2, Int.mul_add, Int.mul_add, ← Int.mul_assoc A D, ← Int.mul_assoc B C, ← Int.mul_assoc A B, ← Int.mul_assoc B A, Int.mul_comm B A, ← det, Int.sub_mul]; omega
  have e2 : D * q0 - C * p0 = g * q := by
    rw [h1, h2, Int.mul_add, Int.mul_add, ← Int.mul_assoc D C, ← Int.mul_assoc C D, ← Int.mul_assoc D A, ← Int.mul_assoc C B, Int.mul_comm D A, Int.mul_comm C B, Int.mul_comm D C, ← det, Int.sub_mul]; omega
  rcases sgn with rfl | rfl
  · simp only [Int.one_mul, Int.neg_mul] at *
    omega
  · simp only [Int.neg_mul, Int.one_mul, Int.neg_neg] at *
    omega

/-- What is below the highest bits changes a sum of two multiples with unlike signs by less than the greater one. -/
theorem low_part {C D K xl yl : Int} (c0 : 0 ≤ C) (cd : C ≤ D) (x0 : 0 ≤ xl) (x1 : xl < K) (y0 : 0 ≤ yl) (y1 : yl < K) : -(D * (K - 1)) ≤ D * yl - C * xl ∧ D * yl - C * xl ≤ D * (K - 1) ∧ -(D * (K - 1)) ≤ C * xl - D * yl := by
  have e1 : D * yl ≤ D * (K - 1) := Int.mul_le_mul_of_nonneg_left (by omega) (by omega)
  have e2 : C * xl ≤ C * (K - 1) := Int.mul_le_mul_of_nonneg_left (by omega) c0
  have e3 : C * (K - 1) ≤ D * (K - 1) := Int.mul_le_mul_of_nonneg_right cd (by omega)
  have e4 : 0 ≤ D * yl := Int.mul_nonneg (by omega) y0
  have e5 : 0 ≤ C * xl := Int.mul_nonneg c0 x0
  omega

/-- What a leap does to two numbers whose highest bits it was found by. -/
structure Leaps (X Y a b c d : Int) : Prop where
  ab : Coef a b
  cd : Coef c d
  pos : 0 ≤ c * X + d * Y
  lt : c * X + d * Y < a * X + b * Y
  le : a * X + b * Y ≤ X
  less : (a * X + b * Y) + (c * X + d * Y) < X + Y
  same : gcdI (a * X + b * Y) (c * X + d * Y) = gcdI X Y

theorem gcd_dvd_of {x y u v a b c d : Int} (h1 : u = a * x + b * y) (h2 : v = c * x + d * y) : Int.gcd x y ∣ Int.gcd u v := by
  rw [← Int.ofNat_dvd]
  exact Int.dvd_coe_gcd (by rw [h1]; exact Int.dvd_add (Int.dvd_mul_of_dvd_right (Int.gcd_dvd_left ..)) (Int.dvd_mul_of_dvd_right (Int.gcd_dvd_right ..))) (by rw [h2]; exact Int.dvd_add (Int.dvd_mul_of_dvd_right (Int.gcd_dvd_left ..)) (Int.dvd_mul_of_dvd_right (Int.gcd_dvd_right ..)))

theorem leaps_of {s g A B C D p q K xl yl X Y : Int} (h : Lp s g A B C D) (hs : 1 ≤ s) (hK : 1 ≤ K) (x0 : 0 ≤ xl) (x1 : xl < K) (y0 : 0 ≤ yl) (y1 : yl < K)
    (hX : X = (D * p + B * q) * K + xl) (hY : Y = (C * p + A * q) * K + yl) (hD : D ≤ 2147483647) (hq : D ≤ q) (hpq : B + D ≤ p - q) : Leaps X Y (g * A) (-(g * B)) (-(g * C)) (g * D) := by
  obtain ⟨a0, b0, c0, cd, d1, det, sgn, way⟩ := h
  obtain ⟨_, w2, w3, w4, w5⟩ : 1 ≤ s ∧ A ≤ B ∧ 1 ≤ B ∧ B ≤ D ∧ 1 ≤ C := by
    rcases way with ⟨e, _⟩ | h
    · omega
    · exact h
  have hcoef : Coef (g * A) (-(g * B)) ∧ Coef (-(g * C)) (g * D) := by
    rcases sgn with rfl | rfl
    · simp only [Int.one_mul]; exact ⟨.inl ⟨by omega, by omega, by omega, by omega⟩, .inr ⟨by omega, by omega, by omega, by omega⟩⟩
    · simp only [Int.neg_mul, Int.one_mul, Int.neg_neg]; exact ⟨.inr ⟨by omega, by omega, by omega, by omega⟩, .inl ⟨by omega, by omega, by omega, by omega⟩⟩
  -- the two sums, by the highest bits and by what is below
  obtain ⟨u, hu⟩ : ∃ u, g * A * X + -(g * B) * Y = u := ⟨_, rfl⟩
  obtain ⟨v, hv⟩ : ∃ v, -(g * C) * X + g * D * Y = v := ⟨_, rfl⟩
  have pb := pair_back (p := p) (q := q) det sgn rfl rfl
  have hue : u = p * K + g * (A * xl - B * yl) := by
    rw [← hu, hX, hY]
    have e := pb.1
    generalize D * p + B * q = P at *
    generalize C * p + A * q = R at *
    rw [e, Int.mul_add, Int.mul_add, Int.add_mul, ← Int.mul_assoc, ← Int.mul_assoc, Int.mul_sub, ← Int.mul_assoc g A, ← Int.mul_assoc g B, Int.neg_mul (g * B) yl]
    omega
  have hve : v = q * K + g * (D * yl - C * xl) := by
    rw [← hv, hX, hY]
    have e := pb.2
    generalize D * p + B * q = P at *
    generalize C * p + A * q = R at *
    rw [e, Int.mul_add, Int.mul_add, Int.add_mul, ← Int.mul_assoc, ← Int.mul_assoc, Int.mul_sub, ← Int.mul_assoc g D, ← Int.mul_assoc g C, Int.neg_mul (g * C) xl]
    omega
  have hXe : X = D * u + B * v := by
    have e : g * g = 1 := by rcases sgn with rfl | rfl <;> rfl
    have e1 : D * u + B * v = g * (A * D - B * C) * X := by
      rw [← hu, ← hv, Int.mul_add, Int.mul_add, Int.mul_sub, Int.sub_mul]
      have f1 : D * (g * A * X) = g * (A * D) * X := by rw [← Int.mul_assoc, Int.mul_comm D, Int.mul_assoc g A D]
      have f2 : D * (-(g * B) * Y) = -(g * B * D * Y) := by rw [Int.neg_mul, Int.mul_neg, ← Int.mul_assoc, Int.mul_comm D (g * B)]
      have f3 : B * (-(g * C) * X) = -(g * (B * C) * X) := by rw [Int.neg_mul, Int.mul_neg, ← Int.mul_assoc, Int.mul_comm B (g * C), Int.mul_assoc g C B, Int.mul_comm C B]
      have f4 : B * (g * D * Y) = g * B * D * Y := by rw [← Int.mul_assoc, ← Int.mul_assoc, Int.mul_comm B g]
      rw [f1, f2, f3, f4]
      omega
    rw [e1, det, e, Int.one_mul]
  have hYe : Y = C * u + A * v := by
    have e : g * g = 1 := by rcases sgn with rfl | rfl <;> rfl
    have e1 : C * u + A * v = g * (A * D - B * C) * Y := by
      rw [← hu, ← hv, Int.mul_add, Int.mul_add, Int.mul_sub, Int.sub_mul]
      have f1 : C * (g * A * X) = g * A * C * X := by rw [← Int.mul_assoc, Int.mul_comm C (g * A)]
      have f2 : C * (-(g * B) * Y) = -(g * (B * C) * Y) := by rw [Int.neg_mul, Int.mul_neg, ← Int.mul_assoc, Int.mul_comm C (g * B), Int.mul_assoc g B C]
      have f3 : A * (-(g * C) * X) = -(g * A * C * X) := by rw [Int.neg_mul, Int.mul_neg, ← Int.mul_assoc, ← Int.mul_assoc, Int.mul_comm A g]
      have f4 : A * (g * D * Y) = g * (A * D) * Y := by rw [← Int.mul_assoc, ← Int.mul_assoc, Int.mul_comm A g, Int.mul_assoc g A D]
      rw [f1, f2, f3, f4]
      omega
    rw [e1, det, e, Int.one_mul]
  have l1 := low_part (C := C) (D := D) (K := K) c0 cd x0 x1 y0 y1
  have l2 := low_part (C := A + C) (D := B + D) (K := K) (xl := xl) (yl := yl) (by omega) (by omega) x0 x1 y0 y1
  have k1 : D * K ≤ q * K := Int.mul_le_mul_of_nonneg_right hq (by omega)
  have k2 : (B + D) * K ≤ (p - q) * K := Int.mul_le_mul_of_nonneg_right hpq (by omega)
  rw [Int.mul_sub, Int.mul_one] at l1 l2
  rw [Int.sub_mul] at k2
  rw [Int.add_mul (A) C xl, Int.add_mul B D yl] at l2
  have v0 : 0 ≤ v := by
    rw [hve]
    rcases sgn with rfl | rfl
    · rw [Int.one_mul]; omega
    · rw [Int.neg_mul, Int.one_mul]; omega
  have uv : v < u := by
    rw [hve, hue]
    rcases sgn with rfl | rfl
    · rw [Int.one_mul, Int.one_mul]; omega
    · rw [Int.neg_mul, Int.one_mul, Int.neg_mul, Int.one_mul]; omega
  have m1 : 1 * u ≤ D * u := Int.mul_le_mul_of_nonneg_right d1 (by omega)
  have m2 : 0 ≤ B * v := Int.mul_nonneg b0 v0
  have m2' : 1 * v ≤ B * v := Int.mul_le_mul_of_nonneg_right w3 v0
  have m3 : 1 * u ≤ C * u := Int.mul_le_mul_of_nonneg_right w5 (by omega)
  have m4 : 0 ≤ A * v := Int.mul_nonneg a0 v0
  refine ⟨hcoef.1, hcoef.2, ?_, ?_, ?_, ?_, ?_⟩
  · rw [hv]; exact v0
  · rw [hu, hv]; exact uv
  · rw [hu]; omega
  · rw [hu, hv]; omega
  · rw [hu, hv]
    unfold gcdI
    congr 1
    exact Nat.dvd_antisymm (gcd_dvd_of (x := u) (y := v) hXe hYe) (gcd_dvd_of (x := X) (y := Y) hu.symm hv.symm)

/-- How great the factors of a step are, whether it holds or not. -/
theorem Lp.small {s g A B C D p q P0 : Int} (h : Lp s g A B C D) (hp : 1 ≤ p) (hq : 0 ≤ q) (h1 : P0 = D * p + B * q) (hP : P0 ≤ 4611686018427387903) : D ≤ 4611686018427387903 := by
  have e1 : D * 1 ≤ D * p := Int.mul_le_mul_of_nonneg_left hp (by have := h.d1; omega)
  have e2 : 0 ≤ B * q := Int.mul_nonneg h.b0 hq
  omega
theorem Lp.held {s g A B C D p q P0 : Int} (h : Lp s g A B C D) (hq : D ≤ q) (hpq : B + D ≤ p - q) (h1 : P0 = D * p + B * q) (hP : P0 ≤ 4611686018427387903) : D ≤ 2147483647 := by
  by_cases c : D ≤ 2147483647
  · exact c
  · have hb := h.b0
    have e1 : D * 2147483648 ≤ D * p := Int.mul_le_mul_of_nonneg_left (by omega) (by omega)
    have e2 : 0 ≤ B * q := Int.mul_nonneg h.b0 (by omega)
    omega
end Go.Proofs.YtbcangblmadnpacDoor
