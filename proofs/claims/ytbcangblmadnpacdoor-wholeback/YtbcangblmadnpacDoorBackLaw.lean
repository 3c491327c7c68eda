/- The law NatBack answers true, and writes nothing that was there: whatever list and text come in, where the library's table of powers of ten stands as its text lays it. -/
import Derived.Test.YtbcangblmadnpacDoorParse3
import Derived.Test.YtbcangblmadnpacDoorHelp
namespace Go.Proofs.YtbcangblmadnpacDoor
open Go.RowKit Go.Lib
set_option linter.unusedVariables false

theorem numTo_snoc (l : List UInt8) (c : UInt8) : numTo (l ++ [c]) (l.length + 1) = numTo l l.length * 10 + ((c.toNat : Int) - 48) := by
  show numTo (l ++ [c]) l.length * 10 + _ = _
  rw [numTo_congr (l ++ [c]) l l.length (fun j hj => by rw [List.getElem?_append_left hj])]
  simp
theorem toNat_digit (d : Nat) (h : d < 10) : (UInt8.ofNat (48 + d)).toNat = 48 + d := by
  rw [UInt8.toNat_ofNat']; omega
theorem Dg.snoc {l : List UInt8} (h : Dg l) {c : UInt8} (hc : 48 ≤ (c.toNat : Int) ∧ (c.toNat : Int) ≤ 57) : Dg (l ++ [c]) := fun x hx => by
  rcases List.mem_append.1 hx with hx | hx
  · exact h x hx
  · simp at hx; rw [hx]; exact hc
theorem isNum_dec : ∀ n : Nat, IsNum (decDigits n) ∧ numTo (decDigits n) (decDigits n).length = n ∧ (0 < n → ¬ (decDigits n)[0]?.getD 0 = 48)
  | n => by
    by_cases h : n < 10
    · rw [decDigits_one h]
      have e := toNat_digit n h
      refine ⟨⟨by simp, fun _ => by simp, fun c hc => ?_⟩, ?_, fun h0 => ?_⟩
      · rw [List.mem_singleton.1 hc, e]; omega
      · show (0 : Int) * 10 + (((UInt8.ofNat (48 + n)).toNat : Int) - 48) = n
        rw [e]; omega
      · intro e2
        have e2 : UInt8.ofNat (48 + n) = 48 := e2
        rw [e2] at e
        have : (48 : UInt8).toNat = 48 := rfl
        omega
    · obtain ⟨⟨h1, h2, h3⟩, h4, h5⟩ := isNum_dec (n / 10)
      have e := toNat_digit (n % 10) (by omega)
      rw [decDigits, dif_neg h]
      have h6 := h5 (by omega)
      have hz : (decDigits (n / 10) ++ [UInt8.ofNat (48 + n % 10)])[0]?.getD 0 = (decDigits (n / 10))[0]?.getD 0 := by rw [List.getElem?_append_left h1]
      refine ⟨⟨by simp, fun e2 => ?_, h3.snoc (by rw [e]; omega)⟩, ?_, fun _ => by rw [hz]; exact h6⟩
      · rw [hz] at e2; exact absurd e2 h6
      · rw [List.length_append, List.length_singleton, numTo_snoc, h4, e]; omega
theorem num_pos (l : List UInt8) (hd : Dg l) (h0 : ¬ l[0]?.getD 0 = 48) (hp : 0 < l.length) : ∀ k, 1 ≤ numTo l (k + 1)
  | 0 => by
    show 1 ≤ (0 : Int) * 10 + (((l[0]?.getD 48).toNat : Int) - 48)
    rw [List.getElem?_eq_getElem hp] at h0 ⊢
    have h1 := hd _ (List.getElem_mem hp)
    have h2 : ¬ (l[0].toNat : Int) = 48 := fun e => h0 (UInt8.toNat_inj.1 (by show l[0].toNat = 48; omega))
    simp only [Option.getD_some]
    omega
  | k + 1 => by
    have ih := num_pos l hd h0 hp k
    have hb := numTo_bounds hd (k + 1)
    show 1 ≤ numTo l (k + 1) * 10 + (((l[k + 1]?.getD 48).toNat : Int) - 48)
    have hc : 48 ≤ ((l[k + 1]?.getD 48).toNat : Int) := by
      by_cases hk : k + 1 < l.length
      · rw [List.getElem?_eq_getElem hk]; exact (hd _ (List.getElem_mem hk)).1
      · rw [List.getElem?_eq_none (by omega)]; decide
    omega
theorem dec_num : ∀ (k : Nat) (l : List UInt8), l.length = k + 1 → IsNum l → decDigits (numTo l l.length).toNat = l
  | 0, l, hl, h => by
    obtain ⟨c, rfl⟩ := List.length_eq_one_iff.1 hl
    have hc := h.2.2 c (by simp)
    have e : numTo [c] [c].length = (c.toNat : Int) - 48 := by simp [numTo]
    rw [e, decDigits_one (by omega)]
    congr 1
    refine UInt8.toNat_inj.1 ?_
    rw [toNat_digit _ (by omega)]; omega
  | k + 1, l, hl, h => by
    have hne : l ≠ [] := fun e => by rw [e] at hl; simp at hl
    obtain ⟨l', c, rfl⟩ : ∃ l' c, l = l' ++ [c] := ⟨l.dropLast, l.getLast hne, (List.dropLast_concat_getLast hne).symm⟩
    have hl' : l'.length = k + 1 := by simp at hl; exact hl
    have hd' : Dg l' := fun x hx => h.2.2 x (List.mem_append_left _ hx)
    have hc := h.2.2 c (by simp)
    have h0 : ¬ l'[0]?.getD 0 = 48 := fun e => by
      have := h.2.1 (by rw [List.getElem?_append_left (by omega)]; exact e)
      omega
    have hn : IsNum l' := ⟨by omega, fun e => absurd e h0, hd'⟩
    have ih := dec_num k l' hl' hn
    have hp := num_pos l' hd' h0 (by omega) k
    rw [← hl'] at hp
    rw [List.length_append, List.length_singleton, numTo_snoc]
    obtain ⟨q, hq⟩ : ∃ q : Nat, numTo l' l'.length = q := ⟨(numTo l' l'.length).toNat, by omega⟩
    rw [hq] at ih hp ⊢
    rw [decDigits, dif_neg (by omega)]
    have e1 : ((q : Int) * 10 + ((c.toNat : Int) - 48)).toNat / 10 = q := by omega
    have e2 : ((q : Int) * 10 + ((c.toNat : Int) - 48)).toNat % 10 = c.toNat - 48 := by omega
    rw [e1, e2]
    have ih : decDigits q = l' := ih
    rw [ih]
    congr 2
    refine UInt8.toNat_inj.1 ?_
    rw [toNat_digit _ (by omega)]; omega
theorem nDigits_le : ∀ (k n : Nat), n < 10 ^ (k + 1) → nDigits n ≤ k + 1
  | k, n, h => (pad_eq k n h).2
theorem digits_few {x : Int} {L : Nat} (h0 : 0 ≤ x) (h : x < 4294967296 ^ L) : nDigits x.toNat ≤ 10 * L + 1 := by
  refine nDigits_le _ _ ?_
  have h1 : (4294967296 : Int) ^ L ≤ 10 ^ (10 * L) := by
    have e : (4294967296 : Nat) ^ L ≤ (10 ^ 10) ^ L := Nat.pow_le_pow_left (by decide) _
    rw [← Nat.pow_mul] at e
    have := Int.ofNat_le.2 e
    rw [Int.natCast_pow, Int.natCast_pow] at this
    exact this
  have h2 : x < 10 ^ (10 * L) := by omega
  have h3 : (x.toNat : Int) < ((10 ^ (10 * L) : Nat) : Int) := by rw [Int.natCast_pow]; rw [Int.toNat_of_nonneg h0]; exact h2
  have h4 := Int.ofNat_lt.1 h3
  have h5 : (10 : Nat) ^ (10 * L) ≤ 10 ^ (10 * L + 1) := Nat.pow_le_pow_right (by decide) (by omega)
  omega

open Classical in
/-- Whether the first k signs are digits, the text not being empty, and without a nought ahead. -/
noncomputable def rightTo (l : List UInt8) (k : Nat) : Bool := decide (0 < l.length ∧ (l[0]?.getD 0 = 48 → l.length ≤ 1) ∧ ∀ j : Nat, j < k → 48 ≤ ((l[j]?.getD 0).toNat : Int) ∧ ((l[j]?.getD 0).toNat : Int) ≤ 57)
open Classical in
theorem rightTo_all (l : List UInt8) : rightTo l l.length = decide (IsNum l) := by
  unfold rightTo
  by_cases h : IsNum l
  · rw [decide_eq_true h]
    refine decide_eq_true ⟨h.1, h.2.1, fun j hj => ?_⟩
    rw [List.getElem?_eq_getElem hj]; exact h.2.2 _ (List.getElem_mem hj)
  · rw [decide_eq_false h]
    refine decide_eq_false (fun g => h ⟨g.1, g.2.1, fun c hc => ?_⟩)
    obtain ⟨j, hj, e⟩ := mem_at hc
    have := g.2.2 j hj
    rw [e] at this
    exact this
theorem rightTo_no {l : List UInt8} {k : Nat} (h : rightTo l k = false) : rightTo l (k + 1) = false := by
  unfold rightTo at h ⊢
  have := of_decide_eq_false h
  exact decide_eq_false (fun g => this ⟨g.1, g.2.1, fun j hj => g.2.2 j (by omega)⟩)
theorem rightTo_bad {l : List UInt8} {k : Nat} {c : UInt8} (h : l[k]? = some c) (hc : ¬ (48 ≤ (c.toNat : Int) ∧ (c.toNat : Int) ≤ 57)) : rightTo l (k + 1) = false := by
  unfold rightTo
  refine decide_eq_false (fun g => hc ?_)
  have := g.2.2 k (by omega)
  rw [h] at this
  exact this
theorem rightTo_good {l : List UInt8} {k : Nat} {c : UInt8} (hr : rightTo l k = true) (h : l[k]? = some c) (hc : 48 ≤ (c.toNat : Int) ∧ (c.toNat : Int) ≤ 57) : rightTo l (k + 1) = true := by
  unfold rightTo at hr ⊢
  have g := of_decide_eq_true hr
  refine decide_eq_true ⟨g.1, g.2.1, fun j hj => ?_⟩
  by_cases e : j = k
  · rw [e, h]; exact hc
  · exact g.2.2 j (by omega)
end Go.Proofs.YtbcangblmadnpacDoor
