/- slackwaterref01.Compare tells the order of the values; nat.Check and slackwaterref01.Check the error of a list; the law's own 'heavy': of every list that can be read. -/
import Derived.Test.YtbcangblmadnpacDoorLook
namespace Go.Proofs.YtbcangblmadnpacDoor
open Go.RowKit
set_option linter.unusedVariables false

/-- The error of a list: 3: too long; 11: not trimmed; 0: none. -/
def chk (xs : List Int) : Int := if 8192 < xs.length then 3 else if sz xs = xs.length then 0 else 11

set_option maxHeartbeats 800000 in
set_option maxRecDepth 100000 in
theorem check_any (a : Option Addr) (n cap : Nat) (xs : List Int) (w : World) (h : Reads w w.heap.size a n cap xs) (hn : n ≤ 281474976710656) :
    Calls Tryd.prog 44 #[.slice a n cap] w fun e w' => e = .returned (.int .i64 (chk xs)) ∧ w = w' := by
  have hl := h.1
  by_cases h1 : 8192 < n
  · have HC : Hid (chk xs = 3) := by unfold chk; rw [if_pos (by omega)]; rfl
    clear hl h
    go_enter Tryd.func44, Tryd.ntmps44
    go_wp2_with fail
    go_ret
    exact ⟨ret_int HC.out.symm, rfl⟩
  · by_cases h2 : sz xs = n
    · have HC : Hid (chk xs = 0) := by unfold chk; rw [if_neg (by omega), if_pos (by omega)]; rfl
      have hx := size_any a n cap xs _ w h hn
      rw [h2] at hx
      have hne : ((n : Int) != (n : Int)) = false := by simp
      have HX := hid hx
      clear hl h h2 hx
      go_enter Tryd.func44, Tryd.ntmps44
      go_wp2_with fail
      refine Calls.mono HX.out ?_
      rintro e w' ⟨rfl, rfl⟩
      go_wp2
      go_ret
      exact ⟨ret_int HC.out.symm, rfl⟩
    · have HC : Hid (chk xs = 11) := by unfold chk; rw [if_neg (by omega), if_neg (by omega)]; rfl
      have hne : ((sz xs : Int) != (n : Int)) = true := by simp; omega
      clear hl h2
      go_enter Tryd.func44, Tryd.ntmps44
      go_wp2_with fail
      refine (size_any _ _ _ xs _ _ h hn).mono ?_
      rintro e w' ⟨rfl, rfl⟩
      go_wp2
      go_ret
      exact ⟨ret_int HC.out.symm, rfl⟩

/-- Is a list more than the laws go through? -/
def heavy (n : Nat) : Bool := decide (300 < n ∧ n ≤ 8192 ∨ 8201 < n)
end Go.Proofs.YtbcangblmadnpacDoor
