/- nat.size tells how many words a list has without the noughts at its end: of every list that can be read. -/
import Derived.Test.YtbcangblmadnpacDoorRows
import Derived.Test.YtbcangblmadnpacDoorPlain
namespace Go.Proofs.YtbcangblmadnpacDoor
open Go.RowKit
set_option linter.unusedVariables false

set_option maxHeartbeats 400000 in
set_option maxRecDepth 100000 in
theorem size_any (a : Option Addr) (n cap : Nat) (zs : List Int) (B : Nat) (w : World) (h : Reads w B a n cap zs) (hn : n ≤ 281474976710656) :
    Calls Tryd.prog 63 #[.slice a n cap] w fun e w' => e = .returned (.int .i64 (sz zs)) ∧ w = w' := by
  obtain ⟨hl, hw, hc, hcap⟩ := h
  rcases hc with h0 | ⟨b, o, rfl, hb, hc⟩
  · subst h0
    have hz : zs = [] := List.eq_nil_of_length_eq_zero hl
    subst hz
    go_enter Tryd.func63, Tryd.ntmps63
    go_wp2
    refine wp_loop_rounds 1 ?_
    rw [rounds_succ]
    go_wp2
    go_ret
    exact ⟨rfl, rfl⟩
  · go_enter Tryd.func63, Tryd.ntmps63
    go_wp2
    go_loop [3] (fun t => ∃ k : Nat, k ≤ n ∧ t = .int .i64 k ∧ szTo zs k = sz zs) (fun t => (intOf t).toNat)
    case atStart => exact ⟨n, Nat.le_refl _, rfl, by rw [sz, hl]⟩
    case round =>
      obtain ⟨k, hk, rfl, hs⟩ := hrel
      rcases k with _ | k
      · go_wp2
        go_ret
        exact ⟨ret_int (by rw [← hs]; rfl), rfl⟩
      · have hcx := hc k (by omega)
        by_cases hz : zs[k]?.getD 0 = 0
        · have hzb : (zs[k]?.getD 0 == 0) = true := by simp [hz]
          have HS : Hid (szTo zs k = sz zs) := by rw [← hs, szTo_zero zs k hz]; rfl
          clear hs hz
          go_wp2
          go_round
          case rel => exact ⟨k, by omega, by go_num, HS.out⟩
          case measure => simp [intOf]
        · have hzb : (zs[k]?.getD 0 == 0) = false := by simp [hz]
          have HS : Hid (k + 1 = sz zs) := by rw [← hs, szTo_keep zs k hz]; rfl
          clear hs hz
          go_wp2
          go_ret
          exact ⟨ret_int (by rw [← HS.out]; omega), rfl⟩
end Go.Proofs.YtbcangblmadnpacDoor
