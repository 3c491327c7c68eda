/- slackwaterref01.Compare tells the order of the values; nat.Check and slackwaterref01.Check the error of a list; the law's own 'heavy': of every list that can be read. -/
import Derived.Test.YtepbacikhmagpaaLook
namespace Go.Proofs.Ytepbacikhmagpaa
open Go.RowKit
set_option linter.unusedVariables false

set_option maxHeartbeats 1600000 in
theorem refCompare_any (a : Option Addr) (n cap : Nat) (xs : List Int) (b : Option Addr) (m cap' : Nat) (ys : List Int) (w : World) (h : Reads w w.heap.size a n cap xs) (g : Reads w w.heap.size b m cap' ys) (hn : n ≤ 281474976710656) (hm : m ≤ 281474976710656) :
    Calls Try.prog 14 #[.slice a n cap, .slice b m cap'] w fun e w' => e = .returned (.int .i64 (cmpI (val xs) (val ys))) ∧ w = w' := by
  have UX : Hid (∀ j : Nat, n ≤ j → m ≤ j → xs[j]?.getD 0 = ys[j]?.getD 0) := fun j hj hj' => by
    have h1 := h.1
    have g1 := g.1
    rw [List.getElem?_eq_none (by omega), List.getElem?_eq_none (by omega)]
  have WX : Hid (Wd xs ∧ Wd ys) := ⟨h.2.1, g.2.1⟩
  have HX : Hid (Reads w w.heap.size a n cap xs) := h
  have HY : Hid (Reads w w.heap.size b m cap' ys) := g
  clear h g
  by_cases hnm : n < m
  all_goals
    go_enter Try.func14, Try.ntmps14
    go_wp2_with fail
    go_loop [6] (fun t => ∃ k : Nat, k ≤ n + m ∧ t = .int .i64 ((k : Int) - 1) ∧ Hid (∀ j : Nat, k ≤ j → xs[j]?.getD 0 = ys[j]?.getD 0)) (fun t => (intOf t + 1).toNat)
    case atStart => first | exact ⟨m, by omega, by go_num, fun j hj => UX.out j (by omega) (by omega)⟩ | exact ⟨n, by omega, by go_num, fun j hj => UX.out j (by omega) (by omega)⟩
    case round =>
      obtain ⟨k, hk, rfl, HS⟩ := hrel
      rcases k with _ | k
      · go_wp2_with fail
        go_ret
        exact ⟨ret_int (cmpI_eq (val_eq_of fun j => HS.out j (Nat.zero_le _))).symm, rfl⟩
      · have ek : (((k + 1 : Nat) : Int) - 1) = (k : Int) := by omega
        rw [ek]
        clear ek
        go_wp2_with fail
        refine (word_any _ _ _ xs _ _ _ HX.out hn (by omega)).mono ?_
        rintro e w' ⟨rfl, rfl⟩
        rw [Int.toNat_natCast]
        go_wp2_with fail
        refine (word_any _ _ _ ys _ _ _ HY.out hm (by omega)).mono ?_
        rintro e w' ⟨rfl, rfl⟩
        rw [Int.toNat_natCast]
        by_cases p1 : xs[k]?.getD 0 < ys[k]?.getD 0
        · go_wp2
          go_ret
          exact ⟨ret_int (cmpI_lt (val_lt_of WX.out.1 WX.out.2 k p1 (fun j hj => HS.out j (by omega)))).symm, rfl⟩
        · by_cases p2 : ys[k]?.getD 0 < xs[k]?.getD 0
          · go_wp2
            go_ret
            exact ⟨ret_int (cmpI_gt (val_lt_of WX.out.2 WX.out.1 k p2 (fun j hj => (HS.out j (by omega)).symm))).symm, rfl⟩
          · have HE : Hid (xs[k]?.getD 0 = ys[k]?.getD 0) := show _ = _ by omega
            go_wp2
            go_round
            case rel => exact ⟨k, by omega, by go_num, fun j hj => (by
              by_cases e : j = k
              · rw [e]; exact HE.out
              · exact HS.out j (by omega))⟩
            case measure => simp [intOf]

/-- The error of a list: 3: too long; 11: not trimmed; 0: none. -/
def chk (xs : List Int) : Int := if 8192 < xs.length then 3 else if sz xs = xs.length then 0 else 11

set_option maxHeartbeats 800000 in
theorem check_any (a : Option Addr) (n cap : Nat) (xs : List Int) (w : World) (h : Reads w w.heap.size a n cap xs) (hn : n ≤ 281474976710656) :
    Calls Try.prog 11 #[.slice a n cap] w fun e w' => e = .returned (.int .i64 (chk xs)) ∧ w = w' := by
  have hl := h.1
  by_cases h1 : 8192 < n
  · have HC : Hid (chk xs = 3) := by unfold chk; rw [if_pos (by omega)]; rfl
    clear hl h
    go_enter Try.func11, Try.ntmps11
    go_wp2_with fail
    go_ret
    exact ⟨ret_int HC.out.symm, rfl⟩
  · by_cases h2 : sz xs = n
    · have HC : Hid (chk xs = 0) := by unfold chk; rw [if_neg (by omega), if_pos (by omega)]; rfl
      have hx := size_any a n cap xs _ w h hn
      rw [h2] at hx
      have hne : ((n : Int) != (n : Int)) = false := by simp
      have HX := hid hx
      clear hl h h2 hx
      go_enter Try.func11, Try.ntmps11
      go_wp2_with fail
      refine Calls.mono HX.out ?_
      rintro e w' ⟨rfl, rfl⟩
      go_wp2
      go_ret
      exact ⟨ret_int HC.out.symm, rfl⟩
    · have HC : Hid (chk xs = 11) := by unfold chk; rw [if_neg (by omega), if_neg (by omega)]; rfl
      have hne : ((sz xs : Int) != (n : Int)) = true := by simp; omega
      clear hl h2
      go_enter Try.func11, Try.ntmps11
      go_wp2_with fail
      refine (size_any _ _ _ xs _ _ h hn).mono ?_
      rintro e w' ⟨rfl, rfl⟩
      go_wp2
      go_ret
      exact ⟨ret_int HC.out.symm, rfl⟩

set_option maxHeartbeats 800000 in
theorem refCheck_any (a : Option Addr) (n cap : Nat) (xs : List Int) (w : World) (h : Reads w w.heap.size a n cap xs) (hn : n ≤ 281474976710656) :
    Calls Try.prog 12 #[.slice a n cap] w fun e w' => e = .returned (.int .i64 (chk xs)) ∧ w = w' := by
  have hl := h.1
  by_cases h1 : 8192 < n
  · have HC : Hid (chk xs = 3) := by unfold chk; rw [if_pos (by omega)]; rfl
    clear hl h
    go_enter Try.func12, Try.ntmps12
    go_wp2_with fail
    go_ret
    exact ⟨ret_int HC.out.symm, rfl⟩
  · rcases h.2.2.1 with h0 | ⟨b, o, rfl, hb, hc⟩
    · subst h0
      have HC : Hid (chk xs = 0) := by unfold chk; rw [if_neg (by omega), if_pos (by have := sz_le xs; omega)]; rfl
      clear hl h
      go_enter Try.func12, Try.ntmps12
      go_wp2
      go_ret
      exact ⟨ret_int HC.out.symm, rfl⟩
    · by_cases h0 : n = 0
      · subst h0
        have HC : Hid (chk xs = 0) := by unfold chk; rw [if_neg (by omega), if_pos (by have := sz_le xs; omega)]; rfl
        clear hl h
        go_enter Try.func12, Try.ntmps12
        go_wp2
        go_ret
        exact ⟨ret_int HC.out.symm, rfl⟩
      · have hcx := hc (n - 1) (by omega)
        have hpos : 0 < n := by omega
        have hiff := sz_eq_iff xs
        rw [hl] at hiff
        by_cases hz : xs[n - 1]?.getD 0 = 0
        · have HC : Hid (chk xs = 11) := by
            unfold chk; rw [if_neg (by omega), if_neg (fun e => by
              rw [hl] at e
              rcases hiff.1 e with e | e
              · omega
              · exact e (by simpa using hz))]; rfl
          have hzb : (xs[n - 1]?.getD 0 == 0) = true := by simp [hz]
          clear hl h hz hiff hc h0 hb
          go_enter Try.func12, Try.ntmps12
          go_wp2
          go_ret
          exact ⟨ret_int HC.out.symm, rfl⟩
        · have HC : Hid (chk xs = 0) := by
            unfold chk; rw [if_neg (by omega), if_pos (by rw [hl]; exact hiff.2 (.inr (by simpa using hz)))]; rfl
          have hzb : (xs[n - 1]?.getD 0 == 0) = false := by simp [hz]
          clear hl h hz hiff hc h0 hb
          go_enter Try.func12, Try.ntmps12
          go_wp2
          go_ret
          exact ⟨ret_int HC.out.symm, rfl⟩

/-- Is a list more than the laws go through? -/
def heavy (n : Nat) : Bool := decide (300 < n ∧ n ≤ 8192 ∨ 8201 < n)
theorem heavy_any (a : Option Addr) (n cap : Nat) (w : World) (hn : n ≤ 9223372036854775807) :
    Calls Try.prog 5 #[.slice a n cap] w fun e w' => e = .returned (.bool (heavy n)) ∧ w = w' := by
  by_cases h1 : 300 < n
  · by_cases h2 : n ≤ 8192
    · have HC : Hid (heavy n = true) := by unfold heavy; exact decide_eq_true (by omega)
      go_enter Try.func5, Try.ntmps5
      go_wp2
      go_ret
      exact ⟨ret_bool HC.out.symm, rfl⟩
    · by_cases h3 : 8201 < n
      · have HC : Hid (heavy n = true) := by unfold heavy; exact decide_eq_true (by omega)
        have d1 : decide ((n : Int) ≤ 8192) = false := by simp; omega
        have d2 : decide (8201 < (n : Int)) = true := by simp; omega
        go_enter Try.func5, Try.ntmps5
        go_wp2
        go_ret
        exact ⟨ret_bool HC.out.symm, rfl⟩
      · have HC : Hid (heavy n = false) := by unfold heavy; exact decide_eq_false (by omega)
        have d1 : decide ((n : Int) ≤ 8192) = false := by simp; omega
        have d2 : decide (8201 < (n : Int)) = false := by simp; omega
        go_enter Try.func5, Try.ntmps5
        go_wp2
        go_ret
        exact ⟨ret_bool HC.out.symm, rfl⟩
  · have HC : Hid (heavy n = false) := by unfold heavy; exact decide_eq_false (by omega)
    have d2 : decide (8201 < (n : Int)) = false := by simp; omega
    go_enter Try.func5, Try.ntmps5
    go_wp2
    go_ret
    exact ⟨ret_bool HC.out.symm, rfl⟩
end Go.Proofs.Ytepbacikhmagpaa
