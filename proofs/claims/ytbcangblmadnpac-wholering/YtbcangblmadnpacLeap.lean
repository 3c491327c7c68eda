/- nat.leap: one more of Euclid's steps, and whether it holds. -/
import Derived.Test.YtbcangblmadnpacGcd1
import Derived.BigQuiet
import Derived.Handy
namespace Go.Proofs.Ytbcangblmadnpac
open Go.RowKit
set_option linter.unusedVariables false

set_option maxHeartbeats 400000 in
set_option maxRecDepth 100000 in
theorem sizeOf_any (x : Int) (w : World) (h0 : -4611686018427387904 ≤ x) (h1 : x ≤ 4611686018427387904) :
    Calls Try.prog 64 #[.int .i64 x] w fun e w' => e = .returned (.int .i64 (x.natAbs : Int)) ∧ w = w' := by
  by_cases h : x < 0
  · go_enter Try.func64, Try.ntmps64
    go_wp2_with fail
    go_ret
    exact ⟨ret_int (by omega), rfl⟩
  · go_enter Try.func64, Try.ntmps64
    go_wp2_with fail
    go_ret
    exact ⟨ret_int (by omega), rfl⟩

/-- A leap's value. -/
def leapV (s a b c d : Int) : Value := .agg #[.int .i64 s, .int .i64 a, .int .i64 b, .int .i64 c, .int .i64 d]

set_option maxHeartbeats 800000 in
set_option maxRecDepth 100000 in
theorem step_any (s a b c d q : Int) (w : World) (hs : 0 ≤ s ∧ s ≤ 4611686018427387904) (h1 : IntKind.i64.wrap (q * c) = q * c) (h2 : IntKind.i64.wrap (q * d) = q * d) (h3 : IntKind.i64.wrap (a - q * c) = a - q * c) (h4 : IntKind.i64.wrap (b - q * d) = b - q * d) :
    Calls Try.prog 58 #[.agg #[.int .i64 s, .int .i64 a, .int .i64 b, .int .i64 c, .int .i64 d], .int .i64 q] w fun e w' => e = .returned (.agg #[.int .i64 (s + 1), .int .i64 c, .int .i64 d, .int .i64 (a - q * c), .int .i64 (b - q * d)]) ∧ Below w.heap.size w w' := by
  go_enter Try.func58, Try.ntmps58
  go_wp2_with fail
  go_returns
  exact ⟨rfl, bt (alloc_later _ _) (alloc_later _ _)⟩

set_option maxHeartbeats 800000 in
set_option maxRecDepth 100000 in
theorem holds_any (s a b c d p q : Int) (w : World) (hb : -4611686018427387904 ≤ b ∧ b ≤ 4611686018427387904) (hd : -4611686018427387904 ≤ d ∧ d ≤ 4611686018427387904) (hp : 0 ≤ p ∧ p ≤ 4611686018427387904) (hq : 0 ≤ q ∧ q ≤ 4611686018427387904)
    (hsum : (b.natAbs : Int) + (d.natAbs : Int) ≤ 9223372036854775807) :
    Calls Try.prog 59 #[.agg #[.int .i64 s, .int .i64 a, .int .i64 b, .int .i64 c, .int .i64 d], .int .i64 p, .int .i64 q] w fun e w' => e = .returned (.bool (decide ((d.natAbs : Int) ≤ q ∧ (b.natAbs : Int) + (d.natAbs : Int) ≤ p - q))) ∧ Below w.heap.size w w' := by
  have HB := hid (fun ww => Calls.mono (sizeOf_any b ww hb.1 hb.2) (R' := fun e w' => e = .returned (.int .i64 (b.natAbs : Int)) ∧ w' = ww) (fun _ _ h => ⟨h.1, h.2.symm⟩))
  have HD := hid (fun ww => Calls.mono (sizeOf_any d ww hd.1 hd.2) (R' := fun e w' => e = .returned (.int .i64 (d.natAbs : Int)) ∧ w' = ww) (fun _ _ h => ⟨h.1, h.2.symm⟩))
  have f0 : 0 ≤ (b.natAbs : Int) := by omega
  have s0 : 0 ≤ (d.natAbs : Int) := by omega
  obtain ⟨F, hF⟩ : ∃ F : Int, (b.natAbs : Int) = F := ⟨_, rfl⟩
  obtain ⟨S, hS⟩ : ∃ S : Int, (d.natAbs : Int) = S := ⟨_, rfl⟩
  rw [hF] at HB f0 hsum ⊢
  rw [hS] at HD s0 hsum ⊢
  clear hF hS hb hd
  by_cases c1 : S ≤ q
  · by_cases c2 : F + S ≤ p - q
    · have HR : Hid (decide (S ≤ q ∧ F + S ≤ p - q) = true) := decide_eq_true ⟨c1, c2⟩
      go_enter Try.func59, Try.ntmps59
      go_wp2_with fail
      go_quiet ((go_at_call 64; first | exact Calls.quiet_of_same (HB.out _) | exact Calls.quiet_of_same (HD.out _)))
      go_wp2_with fail
      go_returns
      exact ⟨ret_bool (by first | exact HR.out.symm | (simp; omega)), bdn (alloc_later _ _) _⟩
    · have HR : Hid (decide (S ≤ q ∧ F + S ≤ p - q) = false) := decide_eq_false (fun h => c2 h.2)
      go_enter Try.func59, Try.ntmps59
      go_wp2_with fail
      go_quiet ((go_at_call 64; first | exact Calls.quiet_of_same (HB.out _) | exact Calls.quiet_of_same (HD.out _)))
      go_wp2_with fail
      go_returns
      exact ⟨ret_bool (by first | exact HR.out.symm | (simp; omega)), bdn (alloc_later _ _) _⟩
  · have HR : Hid (decide (S ≤ q ∧ F + S ≤ p - q) = false) := decide_eq_false (fun h => c1 h.1)
    go_enter Try.func59, Try.ntmps59
    go_wp2_with fail
    go_quiet ((go_at_call 64; first | exact Calls.quiet_of_same (HB.out _) | exact Calls.quiet_of_same (HD.out _)))
    go_wp2_with fail
    go_returns
    exact ⟨ret_bool (by first | exact HR.out.symm | (simp; omega)), bdn (alloc_later _ _) _⟩
end Go.Proofs.Ytbcangblmadnpac
