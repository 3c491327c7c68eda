/- slackwaterref01.Compare tells the order of the values; nat.Check and slackwaterref01.Check the error of a list; the law's own 'heavy': of every list that can be read. -/
import Derived.Test.YtbcangblmadnpaaDoorLook
namespace Go.Proofs.YtbcangblmadnpaaDoor
open Go.RowKit
set_option linter.unusedVariables false

/-- The error of a list: 3: too long; 11: not trimmed; 0: none. -/
def chk (xs : List Int) : Int := if 8192 < xs.length then 3 else if sz xs = xs.length then 0 else 11

set_option maxHeartbeats 800000 in
set_option maxRecDepth 100000 in
theorem check_any (a : Option Addr) (n cap : Nat) (xs : List Int) (w : World) (h : Reads w w.heap.size a n cap xs) (hn : n ≤ 281474976710656) :
    Calls Tryd.prog 29 #[.slice a n cap] w fun e w' => e = .returned (.int .i64 (chk xs)) ∧ w = w' := by
  have hl := h.1
  by_cases h1 : 8192 < n
  · have HC : Hid (chk xs = 3) := by unfold chk; rw [if_pos (by omega)]; rfl
    clear hl h
    go_enter Tryd.func29, Tryd.ntmps29
    go_wp2_with fail
    go_ret
    exact ⟨ret_int HC.out.symm, rfl⟩
  · by_cases h2 : sz xs = n
    · have HC : Hid (chk xs = 0) := by unfold chk; rw [if_neg (by omega), if_pos (by omega)]; rfl
      have hx := size_any a n cap xs _ w h hn
      rw [h2] at hx
      have hne : ((n : Int) != (n : Int)) = false := by simp
      have HX := hid hx
      clear hl h h2 hx
      go_enter Tryd.func29, Tryd.ntmps29
      go_wp2_with fail
      refine Calls.mono HX.out ?_
      rintro e w' ⟨rfl, rfl⟩
      go_wp2
      go_ret
      exact ⟨ret_int HC.out.symm, rfl⟩
    · have HC : Hid (chk xs = 11) := by unfold chk; rw [if_neg (by omega), if_neg (by omega)]; rfl
      have hne : ((sz xs : Int) != (n : Int)) = true := by simp; omega
      clear hl h2
      go_enter Tryd.func29, Tryd.ntmps29
      go_wp2_with fail
      refine (size_any _ _ _ xs _ _ h hn).mono ?_
      rintro e w' ⟨rfl, rfl⟩
      go_wp2
      go_ret
      exact ⟨ret_int HC.out.symm, rfl⟩

set_option maxHeartbeats 800000 in
set_option maxRecDepth 100000 in
theorem refCheck_any (a : Option Addr) (n cap : Nat) (xs : List Int) (w : World) (h : Reads w w.heap.size a n cap xs) (hn : n ≤ 281474976710656) :
    Calls Tryd.prog 33 #[.slice a n cap] w fun e w' => e = .returned (.int .i64 (chk xs)) ∧ w = w' := by
  have hl := h.1
  by_cases h1 : 8192 < n
  · have HC : Hid (chk xs = 3) := by unfold chk; rw [if_pos (by omega)]; rfl
    clear hl h
    go_enter Tryd.func33, Tryd.ntmps33
    go_wp2_with fail
    go_ret
    exact ⟨ret_int HC.out.symm, rfl⟩
  · rcases h.2.2.1 with h0 | ⟨b, o, rfl, hb, hc⟩
    · subst h0
      have HC : Hid (chk xs = 0) := by unfold chk; rw [if_neg (by omega), if_pos (by have := sz_le xs; omega)]; rfl
      clear hl h
      go_enter Tryd.func33, Tryd.ntmps33
      go_wp2
      go_ret
      exact ⟨ret_int HC.out.symm, rfl⟩
    · by_cases h0 : n = 0
      · subst h0
        have HC : Hid (chk xs = 0) := by unfold chk; rw [if_neg (by omega), if_pos (by have := sz_le xs; omega)]; rfl
        clear hl h
        go_enter Tryd.func33, Tryd.ntmps33
        go_wp2
        go_ret
        exact ⟨ret_int HC.out.symm, rfl⟩
      · have hcx := hc (n - 1) (by omega)
        have hpos : 0 < n := by omega
        have hiff := sz_eq_iff xs
        rw [hl] at hiff
        by_cases hz : xs[n - 1]?.getD 0 = 0
        · have HC : Hid (chk xs = 11) := by
            unfold chk; rw [if_neg (by omega), if_neg (fun e => by
              rw [hl] at e
              rcases hiff.1 e with e | e
              · omega
              · exact e (by simpa using hz))]; rfl
          have hzb : (xs[n - 1]?.getD 0 == 0) = true := by simp [hz]
          clear hl h hz hiff hc h0 hb
          go_enter Tryd.func33, Tryd.ntmps33
          go_wp2
          go_ret
          exact ⟨ret_int HC.out.symm, rfl⟩
        · have HC : Hid (chk xs = 0) := by
            unfold chk; rw [if_neg (by omega), if_pos (by rw [hl]; exact hiff.2 (.inr (by simpa using hz)))]; rfl
          have hzb : (xs[n - 1]?.getD 0 == 0) = false := by simp [hz]
          clear hl h hz hiff hc h0 hb
          go_enter Tryd.func33, Tryd.ntmps33
          go_wp2
          go_ret
          exact ⟨ret_int HC.out.symm, rfl⟩

/-- Is a list more than the laws go through? -/
def heavy (n : Nat) : Bool := decide (300 < n ∧ n ≤ 8192 ∨ 8201 < n)
theorem heavy_any (a : Option Addr) (n cap : Nat) (w : World) (hn : n ≤ 9223372036854775807) :
    Calls Tryd.prog 7 #[.slice a n cap] w fun e w' => e = .returned (.bool (heavy n)) ∧ w = w' := by
  by_cases h1 : 300 < n
  · by_cases h2 : n ≤ 8192
    · have HC : Hid (heavy n = true) := by unfold heavy; exact decide_eq_true (by omega)
      go_enter Tryd.func7, Tryd.ntmps7
      go_wp2
      go_ret
      exact ⟨ret_bool HC.out.symm, rfl⟩
    · by_cases h3 : 8201 < n
      · have HC : Hid (heavy n = true) := by unfold heavy; exact decide_eq_true (by omega)
        have d1 : decide ((n : Int) ≤ 8192) = false := by simp; omega
        have d2 : decide (8201 < (n : Int)) = true := by simp; omega
        go_enter Tryd.func7, Tryd.ntmps7
        go_wp2
        go_ret
        exact ⟨ret_bool HC.out.symm, rfl⟩
      · have HC : Hid (heavy n = false) := by unfold heavy; exact decide_eq_false (by omega)
        have d1 : decide ((n : Int) ≤ 8192) = false := by simp; omega
        have d2 : decide (8201 < (n : Int)) = false := by simp; omega
        go_enter Tryd.func7, Tryd.ntmps7
        go_wp2
        go_ret
        exact ⟨ret_bool HC.out.symm, rfl⟩
  · have HC : Hid (heavy n = false) := by unfold heavy; exact decide_eq_false (by omega)
    have d2 : decide (8201 < (n : Int)) = false := by simp; omega
    go_enter Tryd.func7, Tryd.ntmps7
    go_wp2
    go_ret
    exact ⟨ret_bool HC.out.symm, rfl⟩
end Go.Proofs.YtbcangblmadnpaaDoor
