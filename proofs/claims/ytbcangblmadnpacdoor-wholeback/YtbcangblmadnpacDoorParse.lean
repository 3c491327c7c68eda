/- nat.Parse reads decimal digits, or tells the error: of every text. -/
import Derived.Test.YtbcangblmadnpacDoorOps
import Derived.Test.YtbcangblmadnpacDoorWord
import Derived.Test.YtbcangblmadnpacDoorDiv1
import Derived.Test.YtbcangblmadnpacDoorPrint
import Derived.Deep.LoopGhost
namespace Go.Proofs.YtbcangblmadnpacDoor
open Go.RowKit
set_option linter.unusedVariables false

/-- Digits alone. -/
def Dg (l : List UInt8) : Prop := ∀ c ∈ l, 48 ≤ (c.toNat : Int) ∧ (c.toNat : Int) ≤ 57
/-- The text of a number: digits alone, no nought ahead. -/
def IsNum (l : List UInt8) : Prop := 0 < l.length ∧ (l[0]?.getD 0 = 48 → l.length ≤ 1) ∧ Dg l

theorem byte_at (s : ByteArray) (k : Nat) (h : k < s.size) : s.data.toList[k]? = some s[k] := by
  have : k < s.data.toList.length := by simpa using h
  rw [List.getElem?_eq_getElem this]; rfl
theorem size_list (s : ByteArray) : s.data.toList.length = s.size := Array.length_toList
theorem mem_at {l : List UInt8} {c : UInt8} (h : c ∈ l) : ∃ k : Nat, k < l.length ∧ l[k]? = some c := by
  obtain ⟨k, hk, e⟩ := List.getElem_of_mem h
  exact ⟨k, hk, by rw [List.getElem?_eq_getElem hk, e]⟩

open Classical in
set_option maxHeartbeats 1600000 in
set_option maxRecDepth 100000 in
theorem isNumber_loop (s : ByteArray) (w : World) (hs : s.size ≤ 65536) (hp : 0 < s.size) (hem : s.toList.isEmpty = false) (hz : ((s[0].toNat : Int) = 48 ∧ s.size = 1) ∨ ¬ (s[0].toNat : Int) = 48) (H1 : Hid (s.data.toList[0]?.getD 0 = 48 → s.data.toList.length ≤ 1)) :
    Calls Tryd.prog 52 #[.string s] w fun e w' => e = .returned (.bool (decide (IsNum s.data.toList))) ∧ w = w' := by
  have hl := size_list s
  have HL := hid hl
  have hen : ¬ s.toList = [] := fun e => by rw [e] at hem; simp at hem
  have hb : ((s[0].toNat : Int) == 48) = true ∧ ¬ 1 < s.size ∨ ((s[0].toNat : Int) == 48) = false := by
    rcases hz with ⟨h1, h2⟩ | h1
    · left; exact ⟨by simp [h1], by omega⟩
    · right; simp [h1]
  clear hl hz
  rcases hb with ⟨c0b, c1⟩ | c0b
  all_goals
    go_enter Tryd.func52, Tryd.ntmps52
    go_wp2_with fail
    go_loop [18] (fun t => ∃ k : Nat, k ≤ s.size ∧ t = .int .i64 k ∧ Hid (∀ j : Nat, j < k → 48 ≤ ((s.data.toList[j]?.getD 0).toNat : Int) ∧ ((s.data.toList[j]?.getD 0).toNat : Int) ≤ 57)) (fun t => s.size - (intOf t).toNat)
    case atStart => exact ⟨0, by omega, rfl, fun j hj => by omega⟩
    case round =>
      obtain ⟨k, hk, rfl, HJ⟩ := hrel
      by_cases hlt : k < s.size
      · have bk := byte_at s k hlt
        by_cases d1 : (s[k].toNat : Int) < 48
        · have HF : Hid (decide (IsNum s.data.toList) = false) := decide_eq_false (fun h => by
            have := h.2.2 _ (List.mem_of_getElem? bk)
            omega)
          clear bk
          go_wp2_with fail
          go_ret
          exact ⟨ret_bool HF.out.symm, rfl⟩
        · by_cases d2 : 57 < (s[k].toNat : Int)
          · have HF : Hid (decide (IsNum s.data.toList) = false) := decide_eq_false (fun h => by
              have := h.2.2 _ (List.mem_of_getElem? bk)
              omega)
            clear bk
            go_wp2_with fail
            go_ret
            exact ⟨ret_bool HF.out.symm, rfl⟩
          · have HJ' : Hid (∀ j : Nat, j < k + 1 → 48 ≤ ((s.data.toList[j]?.getD 0).toNat : Int) ∧ ((s.data.toList[j]?.getD 0).toNat : Int) ≤ 57) := fun j hj => by
              by_cases e : j = k
              · rw [e, bk]; show 48 ≤ (s[k].toNat : Int) ∧ (s[k].toNat : Int) ≤ 57; omega
              · exact HJ.out j (by omega)
            clear bk
            go_wp2_with fail
            go_round
            case rel => exact ⟨k + 1, by omega, by go_num, HJ'⟩
            case measure => simp [intOf]; omega
      · have HF : Hid (decide (IsNum s.data.toList) = true) := decide_eq_true (by
          refine ⟨by have := HL.out; omega, H1.out, fun c hc => ?_⟩
          obtain ⟨j, hj, e⟩ := mem_at hc
          have := HJ.out j (by have := HL.out; omega)
          rw [e] at this
          exact this)
        go_wp2_with fail
        go_ret
        exact ⟨ret_bool HF.out.symm, rfl⟩

open Classical in
set_option maxHeartbeats 1600000 in
set_option maxRecDepth 100000 in
theorem isNumber_any (s : ByteArray) (w : World) (hs : s.size ≤ 65536) :
    Calls Tryd.prog 52 #[.string s] w fun e w' => e = .returned (.bool (decide (IsNum s.data.toList))) ∧ w = w' := by
  have hl := size_list s
  by_cases h0 : s.size = 0
  · have HF : Hid (decide (IsNum s.data.toList) = false) := decide_eq_false (fun h => by have := h.1; omega)
    have hse : s = ⟨#[]⟩ := by
      obtain ⟨d⟩ := s
      have : d = #[] := Array.eq_empty_of_size_eq_zero h0
      rw [this]
    subst hse
    clear h0 hl
    go_enter Tryd.func52, Tryd.ntmps52
    go_wp2
    go_ret
    exact ⟨ret_bool HF.out.symm, rfl⟩
  · have hp : 0 < s.size := by omega
    have b0 := byte_at s 0 hp
    have hem : s.toList.isEmpty = false := by
      rw [ByteArray.toList_eq]
      cases hx : s.data.toList with
      | nil => rw [hx] at hl; simp at hl; omega
      | cons _ _ => rfl
    have hen : ¬ s.toList = [] := fun e => by rw [e] at hem; simp at hem
    by_cases c0 : (s[0].toNat : Int) = 48
    · have c0b : ((s[0].toNat : Int) == 48) = true := by simp [c0]
      have hc48 : s[0] = 48 := UInt8.toNat_inj.1 (by show s[0].toNat = 48; omega)
      by_cases c1 : 1 < s.size
      · have HF : Hid (decide (IsNum s.data.toList) = false) := decide_eq_false (fun h => by
          have := h.2.1 (by rw [b0, hc48]; rfl)
          omega)
        clear hl h0 b0 hen hc48
        go_enter Tryd.func52, Tryd.ntmps52
        go_wp2_with fail
        go_ret
        exact ⟨ret_bool HF.out.symm, rfl⟩
      · have H1 : Hid (s.data.toList[0]?.getD 0 = 48 → s.data.toList.length ≤ 1) := fun _ => by omega
        exact isNumber_loop s w hs hp hem (.inl ⟨c0, by omega⟩) H1
    · have H1 : Hid (s.data.toList[0]?.getD 0 = 48 → s.data.toList.length ≤ 1) := fun e => by
        rw [b0] at e
        have e : s[0] = 48 := e
        exact absurd (by rw [e]; rfl) c0
      exact isNumber_loop s w hs hp hem (.inr c0) H1

/-- The number of the first k digits. -/
def numTo (l : List UInt8) : Nat → Int
  | 0 => 0
  | k + 1 => numTo l k * 10 + (((l[k]?.getD 48).toNat : Int) - 48)
theorem numTo_bounds {l : List UInt8} (hd : Dg l) : ∀ k, 0 ≤ numTo l k ∧ numTo l k < 10 ^ k
  | 0 => ⟨Int.le_refl _, by simp [numTo]⟩
  | k + 1 => by
    obtain ⟨h0, h1⟩ := numTo_bounds hd k
    have hc : 48 ≤ ((l[k]?.getD 48).toNat : Int) ∧ ((l[k]?.getD 48).toNat : Int) ≤ 57 := by
      by_cases hk : k < l.length
      · rw [List.getElem?_eq_getElem hk]; exact hd _ (List.getElem_mem hk)
      · rw [List.getElem?_eq_none (by omega)]; decide
    show 0 ≤ numTo l k * 10 + _ ∧ numTo l k * 10 + _ < _
    rw [Int.pow_succ]
    omega
theorem numTo_congr (l l' : List UInt8) : ∀ k, (∀ j, j < k → l[j]?.getD 48 = l'[j]?.getD 48) → numTo l k = numTo l' k
  | 0, _ => rfl
  | k + 1, h => by
    show numTo l k * 10 + _ = numTo l' k * 10 + _
    rw [numTo_congr l l' k (fun j hj => h j (by omega)), h k (by omega)]
theorem numTo_add (l : List UInt8) (m : Nat) : ∀ n, numTo l (m + n) = numTo l m * 10 ^ n + numTo (l.drop m) n
  | 0 => by simp [numTo]
  | n + 1 => by
    have ih := numTo_add l m n
    show numTo l (m + n) * 10 + _ = numTo l m * 10 ^ (n + 1) + (numTo (l.drop m) n * 10 + _)
    rw [ih, Int.pow_succ, List.getElem?_drop, Int.add_mul, Int.mul_assoc, Int.add_assoc]
    rfl
theorem Dg.drop {l : List UInt8} (h : Dg l) (k : Nat) : Dg (l.drop k) := fun c hc => h c (List.mem_of_mem_drop hc)
theorem Dg.take {l : List UInt8} (h : Dg l) (k : Nat) : Dg (l.take k) := fun c hc => h c (List.mem_of_mem_take hc)

set_option maxHeartbeats 1600000 in
set_option maxRecDepth 100000 in
theorem wordOf_any (s : ByteArray) (w : World) (hs : s.size ≤ 9) (hd : Dg s.data.toList) :
    Calls Tryd.prog 74 #[.string s] w fun e w' => e = .returned (.int .u32 (numTo s.data.toList s.size)) ∧ w = w' := by
  have HD := hid hd
  clear hd
  go_enter Tryd.func74, Tryd.ntmps74
  go_wp2_with fail
  go_loop [3, 7] (fun x t => ∃ (k : Nat) (y : Int), k ≤ s.size ∧ t = .int .i64 k ∧ x = .int .u32 y ∧ Hid (y = numTo s.data.toList k)) (fun _ t => s.size - (intOf t).toNat)
  case atStart => exact ⟨0, 0, by omega, rfl, rfl, rfl⟩
  case round =>
    obtain ⟨k, y, hk, rfl, rfl, HY⟩ := hrel
    by_cases hlt : k < s.size
    · have bk := byte_at s k hlt
      have hb : 48 ≤ (s[k].toNat : Int) ∧ (s[k].toNat : Int) ≤ 57 := HD.out _ (List.mem_of_getElem? bk)
      have hy := numTo_bounds HD.out k
      rw [← HY.out] at hy
      have hp : (10 : Int) ^ k ≤ 10 ^ 8 := by
        obtain ⟨d, hd⟩ : ∃ d, 8 = k + d := ⟨8 - k, by omega⟩
        rw [hd, Int.pow_add]
        have h1 : (0 : Int) < 10 ^ k := Int.pow_pos (by decide)
        have h2 : (0 : Int) < 10 ^ d := Int.pow_pos (by decide)
        have h3 : (10 : Int) ^ k * 1 ≤ 10 ^ k * 10 ^ d := Int.mul_le_mul_of_nonneg_left (by omega) (by omega)
        omega
      have hy0 : 0 ≤ y := hy.1
      have hy1 : y < 100000000 := by have := hy.2; omega
      have hb0 := hb.1
      have hb1 := hb.2
      have HY' : Hid (y * 10 + ((s[k].toNat : Int) - 48) = numTo s.data.toList (k + 1)) := by
        show _ = numTo s.data.toList k * 10 + _
        rw [bk, ← HY.out]; rfl
      clear hy hp hb bk HY
      go_wp2
      go_round
      case rel => exact ⟨k + 1, _, by omega, by go_num, rfl, HY'.out⟩
      case measure => simp [intOf]; omega
    · have hkn : k = s.size := by omega
      go_wp2
      go_ret
      exact ⟨ret_int (by rw [HY.out, hkn]), rfl⟩
end Go.Proofs.YtbcangblmadnpacDoor
