/- Carrying: plain arithmetic of words, nothing of the program. -/
import Derived.Test.YtbcangblmadnpacDoorVal
namespace Go.Proofs.YtbcangblmadnpacDoor
open Go.RowKit

theorem valTo_set_low (ys : List Int) (j : Nat) (z : Int) : ∀ k, k ≤ j → valTo (ys.set j z) k = valTo ys k := fun k hk =>
  valTo_congr _ _ _ (fun i hi => by rw [List.getElem?_set, if_neg (by omega)])
theorem valTo_set (ys : List Int) (k : Nat) (z : Int) (h : k < ys.length) : valTo (ys.set k z) (k + 1) = valTo ys k + z * 4294967296 ^ k := by
  show valTo (ys.set k z) k + _ = _
  rw [valTo_set_low ys k z k (Nat.le_refl _), List.getElem?_set, if_pos rfl, if_pos h]
  rfl
theorem valTo_succ (xs : List Int) (k : Nat) : valTo xs (k + 1) = valTo xs k + xs[k]?.getD 0 * 4294967296 ^ k := rfl

/-- One word of a sum with its carry. -/
theorem carry_step (P z c t : Int) (h : z + c * 4294967296 = t) : z * P + c * (P * 4294967296) = t * P := by
  rw [← h, Int.add_mul, Int.mul_comm P, ← Int.mul_assoc]

theorem sum_step (xs bs ys : List Int) (k : Nat) (c t : Int) (hk : k < ys.length) (ht : c + xs[k]?.getD 0 + bs[k]?.getD 0 = t)
    (h : valTo ys k + c * 4294967296 ^ k = valTo xs k + valTo bs k) :
    valTo (ys.set k (t % 4294967296)) (k + 1) + t / 4294967296 * 4294967296 ^ (k + 1) = valTo xs (k + 1) + valTo bs (k + 1) := by
  rw [valTo_set ys k _ hk, valTo_succ, valTo_succ, pw_succ]
  have e := carry_step (4294967296 ^ k) (t % 4294967296) (t / 4294967296) t (by omega)
  have e2 : t * 4294967296 ^ k = c * 4294967296 ^ k + xs[k]?.getD 0 * 4294967296 ^ k + bs[k]?.getD 0 * 4294967296 ^ k := by
    rw [← ht, Int.add_mul, Int.add_mul]
  omega

theorem diff_step (xs bs ys : List Int) (k : Nat) (c t : Int) (hk : k < ys.length) (ht : c + xs[k]?.getD 0 - bs[k]?.getD 0 = t)
    (h : valTo ys k + c * 4294967296 ^ k = valTo xs k - valTo bs k) :
    valTo (ys.set k (t % 4294967296)) (k + 1) + t / 4294967296 * 4294967296 ^ (k + 1) = valTo xs (k + 1) - valTo bs (k + 1) := by
  rw [valTo_set ys k _ hk, valTo_succ, valTo_succ, pw_succ]
  have e := carry_step (4294967296 ^ k) (t % 4294967296) (t / 4294967296) t (by omega)
  have e2 : t * 4294967296 ^ k = c * 4294967296 ^ k + xs[k]?.getD 0 * 4294967296 ^ k - bs[k]?.getD 0 * 4294967296 ^ k := by
    rw [← ht, Int.sub_mul, Int.add_mul]
  omega

/-- What a number of at most 8,192 words is below. -/
def wide : Int := 4294967296 ^ 8192

theorem pw_le {a b : Nat} (h : a ≤ b) : (4294967296 : Int) ^ a ≤ 4294967296 ^ b := by
  obtain ⟨d, rfl⟩ : ∃ d, b = a + d := ⟨b - a, by omega⟩
  induction d with
  | zero => exact Int.le_refl _
  | succ d ih =>
    have h1 := ih (by omega)
    have e : (4294967296 : Int) ^ (a + (d + 1)) = 4294967296 ^ (a + d) * 4294967296 := Int.pow_succ _ _
    have h2 := pw_pos (a + d)
    omega

/-- A number has more than 8,192 words just where its value is not below that. -/
theorem wide_iff {xs : List Int} (hw : Wd xs) : 8192 < sz xs ↔ wide ≤ val xs := by
  constructor
  · intro h
    have t := sz_top xs (by omega)
    have b := hw.at (sz xs - 1)
    obtain ⟨m, hm⟩ : ∃ m, sz xs = m + 1 := ⟨sz xs - 1, by omega⟩
    rw [val_sz, hm, valTo_succ]
    rw [hm, Nat.add_sub_cancel] at t b
    have b2 := (valTo_bounds hw m).1
    have h1 : (4294967296 : Int) ^ 8192 ≤ 4294967296 ^ m := pw_le (by omega)
    have h2 : 1 * (4294967296 : Int) ^ m ≤ xs[m]?.getD 0 * 4294967296 ^ m := Int.mul_le_mul_of_nonneg_right (by omega) (Int.le_of_lt (pw_pos m))
    unfold wide
    omega
  · intro h
    by_cases hs : sz xs ≤ 8192
    · have h1 := (valTo_bounds hw (sz xs)).2
      rw [← val_sz] at h1
      have h2 : (4294967296 : Int) ^ sz xs ≤ 4294967296 ^ 8192 := pw_le hs
      unfold wide at h
      omega
    · omega

/-- What a call tells: the error e; or the value t, trimmed, where it is not too long. -/
structure Tells (e t : Int) (zs : List Int) (code : Int) : Prop where
  wd : Wd zs
  trim : Trimmed zs
  bad : e ≠ 0 → code = e ∧ zs = []
  long : e = 0 → wide ≤ t → code = 3 ∧ zs = []
  good : e = 0 → t < wide → code = 0 ∧ val zs = t

theorem Tells.same {e t : Int} {zs ys : List Int} {c d : Int} (h : Tells e t zs c) (g : Tells e t ys d) : zs = ys ∧ c = d := by
  by_cases he : e = 0
  · by_cases ht : t < wide
    · have h1 := h.good he ht
      have g1 := g.good he ht
      exact ⟨trimmed_eq h.wd g.wd h.trim g.trim (h1.2.trans g1.2.symm), h1.1.trans g1.1.symm⟩
    · have h1 := h.long he (by omega)
      have g1 := g.long he (by omega)
      exact ⟨h1.2.trans g1.2.symm, h1.1.trans g1.1.symm⟩
  · have h1 := h.bad he
    have g1 := g.bad he
    exact ⟨h1.2.trans g1.2.symm, h1.1.trans g1.1.symm⟩
theorem Tells.err {e t : Int} (he : e ≠ 0) : Tells e t [] e := ⟨Wd.nil, Trimmed.nil, fun _ => ⟨rfl, rfl⟩, fun h => absurd h he, fun h => absurd h he⟩
theorem Tells.tooLong {t : Int} (h : wide ≤ t) : Tells 0 t [] 3 := ⟨Wd.nil, Trimmed.nil, fun h => absurd rfl h, fun _ _ => ⟨rfl, rfl⟩, fun _ h' => by omega⟩
theorem Tells.ok {t : Int} {zs : List Int} (hw : Wd zs) (ht : Trimmed zs) (hv : val zs = t) (h : t < wide) : Tells 0 t zs 0 := ⟨hw, ht, fun h => absurd rfl h, fun _ h' => by omega, fun _ _ => ⟨rfl, hv⟩⟩

/-- What is told of words that were made, trimmed or refused. -/
theorem Tells.told {ys : List Int} (hw : Wd ys) : Tells 0 (val ys) (if 8192 < sz ys then [] else trimmed ys) (if 8192 < sz ys then 3 else 0) := by
  by_cases h : 8192 < sz ys
  · rw [if_pos h, if_pos h]; exact Tells.tooLong ((wide_iff hw).1 h)
  · rw [if_neg h, if_neg h]
    refine Tells.ok hw.trimmed (Trimmed.trimmed ys) (val_trimmed ys) ?_
    by_cases h2 : val ys < wide
    · exact h2
    · exact absurd ((wide_iff hw).2 (by omega)) h
end Go.Proofs.YtbcangblmadnpacDoor
