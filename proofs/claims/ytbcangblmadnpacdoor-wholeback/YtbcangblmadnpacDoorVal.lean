/- The value of a list of 32-bit words, and its order: plain arithmetic, nothing of the program. -/
import Derived.Test.YtbcangblmadnpacDoorPlain
namespace Go.Proofs.YtbcangblmadnpacDoor
open Go.RowKit

/-- The value of the first k words. -/
def valTo (xs : List Int) : Nat → Int
  | 0 => 0
  | k + 1 => valTo xs k + xs[k]?.getD 0 * 4294967296 ^ k
def val (xs : List Int) : Int := valTo xs xs.length

theorem pw_pos (k : Nat) : (0 : Int) < 4294967296 ^ k := Int.pow_pos (by decide)
theorem pw_succ (k : Nat) : (4294967296 : Int) ^ (k + 1) = 4294967296 ^ k * 4294967296 := Int.pow_succ _ _

theorem valTo_stable (xs : List Int) : ∀ N, xs.length ≤ N → valTo xs N = val xs
  | N, h => by
    by_cases e : N = xs.length
    · rw [e]; rfl
    · obtain ⟨m, rfl⟩ : ∃ m, N = m + 1 := ⟨N - 1, by omega⟩
      have ih := valTo_stable xs m (by omega)
      show valTo xs m + xs[m]?.getD 0 * 4294967296 ^ m = _
      rw [ih, List.getElem?_eq_none (by omega)]; simp

theorem valTo_congr (xs ys : List Int) : ∀ N, (∀ j, j < N → xs[j]?.getD 0 = ys[j]?.getD 0) → valTo xs N = valTo ys N
  | 0, _ => rfl
  | N + 1, h => by
    show valTo xs N + _ = valTo ys N + _
    rw [valTo_congr xs ys N (fun j hj => h j (by omega)), h N (by omega)]

theorem valTo_bounds {xs : List Int} (hw : Wd xs) : ∀ k, 0 ≤ valTo xs k ∧ valTo xs k < 4294967296 ^ k
  | 0 => ⟨Int.le_refl _, by simp [valTo]⟩
  | k + 1 => by
    obtain ⟨h0, h1⟩ := valTo_bounds hw k
    obtain ⟨z0, z1⟩ := hw.at k
    have hp := pw_pos k
    show 0 ≤ valTo xs k + _ ∧ valTo xs k + _ < _
    rw [pw_succ]
    have e1 : 0 ≤ xs[k]?.getD 0 * 4294967296 ^ k := Int.mul_nonneg z0 (Int.le_of_lt hp)
    have e2 : xs[k]?.getD 0 * 4294967296 ^ k ≤ 4294967295 * 4294967296 ^ k := Int.mul_le_mul_of_nonneg_right z1 (Int.le_of_lt hp)
    omega

theorem val_nonneg {xs : List Int} (hw : Wd xs) : 0 ≤ val xs := (valTo_bounds hw _).1
theorem val_lt {xs : List Int} (hw : Wd xs) : val xs < 4294967296 ^ xs.length := (valTo_bounds hw _).2

/-- All that stands above place k is one: the words at k tell the order. -/
theorem valTo_lt {xs ys : List Int} (hx : Wd xs) (hy : Wd ys) (k : Nat) (hk : xs[k]?.getD 0 < ys[k]?.getD 0) : ∀ N, k < N → (∀ j, k < j → j < N → xs[j]?.getD 0 = ys[j]?.getD 0) → valTo xs N < valTo ys N
  | 0, h, _ => by omega
  | N + 1, h, hj => by
    show valTo xs N + _ < valTo ys N + _
    by_cases e : k = N
    · subst e
      have b1 := (valTo_bounds hx k).2
      have b2 := (valTo_bounds hy k).1
      have hp := pw_pos k
      have e2 : (xs[k]?.getD 0 + 1) * 4294967296 ^ k ≤ ys[k]?.getD 0 * 4294967296 ^ k := Int.mul_le_mul_of_nonneg_right hk (Int.le_of_lt hp)
      rw [Int.add_mul] at e2
      omega
    · have ih := valTo_lt hx hy k hk N (by omega) (fun j h1 h2 => hj j h1 (by omega))
      rw [hj N (by omega) (by omega)]
      omega

theorem val_lt_of {xs ys : List Int} (hx : Wd xs) (hy : Wd ys) (k : Nat) (hk : xs[k]?.getD 0 < ys[k]?.getD 0) (hj : ∀ j : Nat, k < j → xs[j]?.getD 0 = ys[j]?.getD 0) : val xs < val ys := by
  have h := valTo_lt hx hy k hk (xs.length + ys.length + k + 1) (by omega) (fun j h1 _ => hj j h1)
  rwa [valTo_stable xs _ (by omega), valTo_stable ys _ (by omega)] at h

theorem val_eq_of {xs ys : List Int} (hj : ∀ j : Nat, xs[j]?.getD 0 = ys[j]?.getD 0) : val xs = val ys := by
  have h := valTo_congr xs ys (xs.length + ys.length) (fun j _ => hj j)
  rwa [valTo_stable xs _ (by omega), valTo_stable ys _ (by omega)] at h

/-- Which of two numbers is less: -1, 0 or 1. -/
def cmpI (x y : Int) : Int := if x < y then -1 else if y < x then 1 else 0
theorem cmpI_lt {x y : Int} (h : x < y) : cmpI x y = -1 := by simp [cmpI, h]
theorem cmpI_gt {x y : Int} (h : y < x) : cmpI x y = 1 := by rw [cmpI, if_neg (by omega), if_pos h]
theorem cmpI_eq {x y : Int} (h : x = y) : cmpI x y = 0 := by rw [cmpI, if_neg (by omega), if_neg (by omega)]

/-- Words that are one from place k on: whether the values below are one is what is left; a difference has a topmost place. -/
theorem same_words {xs ys : List Int} (hx : Wd xs) (hy : Wd ys) (h : val xs = val ys) : ∀ j : Nat, xs[j]?.getD 0 = ys[j]?.getD 0 := by
  have main : ∀ d k : Nat, xs.length + ys.length ≤ k + d → (∀ j : Nat, k + d ≤ j → xs[j]?.getD 0 = ys[j]?.getD 0) → ∀ j : Nat, k ≤ j → xs[j]?.getD 0 = ys[j]?.getD 0 := by
    intro d
    induction d with
    | zero => intro k _ h2 j hj; exact h2 j (by omega)
    | succ d ih =>
      intro k h1 h2 j hj
      by_cases e : j = k
      · have up := ih (k + 1) (by omega) (fun j hj => h2 j (by omega))
        subst e
        by_cases h3 : xs[j]?.getD 0 < ys[j]?.getD 0
        · have := val_lt_of hx hy j h3 (fun i hi => up i (by omega)); omega
        · by_cases h4 : ys[j]?.getD 0 < xs[j]?.getD 0
          · have := val_lt_of hy hx j h4 (fun i hi => (up i (by omega)).symm); omega
          · omega
      · exact ih (k + 1) (by omega) (fun j hj => h2 j (by omega)) j (by omega)
  intro j
  refine main (xs.length + ys.length) 0 (by omega) (fun i hi => ?_) j (Nat.zero_le _)
  rw [List.getElem?_eq_none (by omega), List.getElem?_eq_none (by omega)]

/-- A trimmed list: no nought at its end. -/
def Trimmed (xs : List Int) : Prop := sz xs = xs.length

theorem trimmed_eq {xs ys : List Int} (hx : Wd xs) (hy : Wd ys) (tx : Trimmed xs) (ty : Trimmed ys) (h : val xs = val ys) : xs = ys := by
  have hs := same_words hx hy h
  have hl : xs.length = ys.length := by
    rcases Nat.lt_trichotomy xs.length ys.length with hl | hl | hl
    · have := sz_top ys (by rw [ty]; omega)
      rw [ty, ← hs, List.getElem?_eq_none (by omega)] at this; simp at this
    · exact hl
    · have := sz_top xs (by rw [tx]; omega)
      rw [tx, hs, List.getElem?_eq_none (by omega)] at this; simp at this
  refine List.ext_getElem hl (fun j h1 h2 => ?_)
  have := hs j
  rwa [List.getElem?_eq_getElem h1, List.getElem?_eq_getElem h2] at this

theorem trimmed_get (xs : List Int) (j : Nat) : (trimmed xs)[j]?.getD 0 = xs[j]?.getD 0 := by
  unfold trimmed
  rw [List.getElem?_take]
  split
  · rfl
  · rw [sz_behind xs j (by omega)]; rfl
theorem val_trimmed (xs : List Int) : val (trimmed xs) = val xs := val_eq_of (trimmed_get xs)
theorem Trimmed.trimmed (xs : List Int) : Trimmed (trimmed xs) := by
  unfold Trimmed
  rw [sz_eq_iff, length_trimmed]
  by_cases h : sz xs = 0
  · exact .inl h
  · right; rw [trimmed_get]; exact sz_top xs (by omega)
theorem trimmed_of {xs : List Int} (h : Trimmed xs) : trimmed xs = xs := by
  unfold Go.Proofs.YtbcangblmadnpacDoor.trimmed; rw [h]; exact List.take_length
theorem Trimmed.nil : Trimmed [] := rfl

theorem val_sz (xs : List Int) : val xs = valTo xs (sz xs) := by
  rw [← val_trimmed]
  unfold val
  rw [length_trimmed]
  exact valTo_congr _ _ _ (fun j _ => trimmed_get xs j)
theorem valTo_sz (xs : List Int) (N : Nat) (h : sz xs ≤ N) : valTo xs N = val xs := by
  rw [← val_trimmed, ← valTo_stable (trimmed xs) N (by rw [length_trimmed]; exact h)]
  exact (valTo_congr _ _ _ (fun j _ => trimmed_get xs j)).symm
theorem val_nil : val [] = 0 := rfl
theorem val_one (x : Int) : val [x] = x := by simp [val, valTo]
theorem val_two (x y : Int) : val [x, y] = x + y * 4294967296 := by simp [val, valTo]
end Go.Proofs.YtbcangblmadnpacDoor
