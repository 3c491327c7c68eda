/- nat.Compare and slackwaterref01.Compare tell the order of the values; nat.Check and slackwaterref01.Check the error of a list: of every list that can be read. -/
import Derived.Test.YtbcangblmadnpacDoorLook
namespace Go.Proofs.YtbcangblmadnpacDoor
open Go.RowKit
set_option linter.unusedVariables false

set_option maxHeartbeats 1600000 in
set_option maxRecDepth 100000 in
theorem compare_any (a : Option Addr) (n cap : Nat) (xs : List Int) (b : Option Addr) (m cap' : Nat) (ys : List Int) (w : World) (h : Reads w w.heap.size a n cap xs) (g : Reads w w.heap.size b m cap' ys) (hn : n ≤ 281474976710656) (hm : m ≤ 281474976710656) :
    Calls Tryd.prog 56 #[.slice a n cap, .slice b m cap'] w fun e w' => e = .returned (.int .i64 (cmpI (val xs) (val ys))) ∧ Below w.heap.size w w' := by
  have hl := h.1
  have gl := g.1
  have sx := sz_le xs
  have sy := sz_le ys
  rw [hl] at sx
  rw [gl] at sy
  by_cases h1 : sz xs < sz ys
  · have HV : Hid (val xs < val ys) := val_lt_of h.2.1 g.2.1 (sz ys - 1) (by
      have t := sz_top ys (by omega)
      have b := g.2.1.at (sz ys - 1)
      rw [sz_behind xs (sz ys - 1) (by omega)]; omega) (fun j hj => by rw [sz_behind xs j (by omega), sz_behind ys j (by omega)])
    have hi : ((sz xs : Nat) : Int) < (sz ys : Int) := by omega
    clear hl gl
    go_enter Tryd.func56, Tryd.ntmps56
    go_wp2_with fail
    refine (size_any _ _ _ xs _ _ h hn).mono ?_
    rintro e w' ⟨rfl, rfl⟩
    go_wp2_with fail
    refine (size_any _ _ _ ys _ _ g hm).mono ?_
    rintro e w' ⟨rfl, rfl⟩
    go_wp2
    go_ret
    exact ⟨ret_int (cmpI_lt HV.out).symm, Below.refl _ _⟩
  · by_cases h2 : sz ys < sz xs
    · have HV : Hid (val ys < val xs) := val_lt_of g.2.1 h.2.1 (sz xs - 1) (by
        have t := sz_top xs (by omega)
        have b := h.2.1.at (sz xs - 1)
        rw [sz_behind ys (sz xs - 1) (by omega)]; omega) (fun j hj => by rw [sz_behind xs j (by omega), sz_behind ys j (by omega)])
      have hi : ((sz ys : Nat) : Int) < (sz xs : Int) := by omega
      clear hl gl
      go_enter Tryd.func56, Tryd.ntmps56
      go_wp2_with fail
      refine (size_any _ _ _ xs _ _ h hn).mono ?_
      rintro e w' ⟨rfl, rfl⟩
      go_wp2_with fail
      refine (size_any _ _ _ ys _ _ g hm).mono ?_
      rintro e w' ⟨rfl, rfl⟩
      go_wp2
      go_ret
      exact ⟨ret_int (cmpI_gt HV.out).symm, Below.refl _ _⟩
    · have e3 : sz ys = sz xs := by omega
      obtain ⟨s, hs⟩ : ∃ s, s = sz xs := ⟨_, rfl⟩
      have ux : ∀ j : Nat, s ≤ j → xs[j]?.getD 0 = ys[j]?.getD 0 := fun j hj => by rw [sz_behind xs j (by omega), sz_behind ys j (by omega)]
      have hx0 := size_any a n cap xs _ w h hn
      have hy0 := size_any b m cap' ys _ w g hm
      rw [e3] at hy0
      rw [← hs] at hx0 hy0
      have hsn : s ≤ n := by omega
      have hsm : s ≤ m := by omega
      have HX := hx0
      have UX : Hid (∀ j : Nat, s ≤ j → xs[j]?.getD 0 = ys[j]?.getD 0) := ux
      have WX : Hid (Wd xs ∧ Wd ys) := ⟨h.2.1, g.2.1⟩
      have hcx : s = 0 ∨ ∃ b1 o1 b2 o2, a = some ⟨b1, o1, none⟩ ∧ b = some ⟨b2, o2, none⟩ ∧ b1 < w.heap.size ∧ b2 < w.heap.size ∧
          (∀ j, j < n → w.cell? ⟨b1, o1 + j, none⟩ = some (.int .u32 (xs[j]?.getD 0))) ∧ (∀ j, j < m → w.cell? ⟨b2, o2 + j, none⟩ = some (.int .u32 (ys[j]?.getD 0))) := by
        by_cases s0 : s = 0
        · exact .inl s0
        · rcases h.2.2.1 with h0 | ⟨b1, o1, e1, l1, c1⟩
          · omega
          · rcases g.2.2.1 with g0 | ⟨b2, o2, e2, l2, c2⟩
            · omega
            · exact .inr ⟨b1, o1, b2, o2, e1, e2, l1, l2, c1, c2⟩
      have HXc := hid hx0
      have HYc := hid hy0
      clear hl gl h g hx0 hy0 HX ux e3 hs h1 h2 sx sy
      rcases hcx with rfl | ⟨b1, o1, b2, o2, rfl, rfl, hb1, hb2, hc, gc⟩
      · go_enter Tryd.func56, Tryd.ntmps56
        go_wp2_with fail
        refine Calls.mono HXc.out ?_
        rintro e w' ⟨rfl, rfl⟩
        go_wp2_with fail
        refine Calls.mono HYc.out ?_
        rintro e w' ⟨rfl, rfl⟩
        go_wp2
        refine wp_loop_rounds 1 ?_
        rw [rounds_succ]
        go_wp2
        go_ret
        exact ⟨ret_int (cmpI_eq (val_eq_of fun j => UX.out j (Nat.zero_le _))).symm, Below.refl _ _⟩
      · go_enter Tryd.func56, Tryd.ntmps56
        go_wp2_with fail
        refine Calls.mono HXc.out ?_
        rintro e w' ⟨rfl, rfl⟩
        go_wp2_with fail
        refine Calls.mono HYc.out ?_
        rintro e w' ⟨rfl, rfl⟩
        go_wp2
        go_loopw [7] (fun t wr => ∃ k : Nat, k ≤ s ∧ t = .int .i64 ((k : Int) - 1) ∧ Hid (∀ j : Nat, k ≤ j → xs[j]?.getD 0 = ys[j]?.getD 0) ∧ Below w.heap.size w wr) (fun t _ => (intOf t + 1).toNat)
        case atStart => exact ⟨s, Nat.le_refl _, rfl, UX, Below.refl _ _⟩
        case round =>
          obtain ⟨k, hk, rfl, HS, hbel⟩ := hrel
          rcases k with _ | k
          · go_wp2
            go_ret
            exact ⟨ret_int (cmpI_eq (val_eq_of fun j => HS.out j (Nat.zero_le _))).symm, hbel⟩
          · have ek : (((k + 1 : Nat) : Int) - 1) = (k : Int) := by omega
            rw [ek]
            clear ek
            have c1 : wr.cell? ⟨b1, o1 + k, none⟩ = some (.int .u32 (xs[k]?.getD 0)) := (hbel.cell (p := ⟨b1, o1 + k, none⟩) hb1).trans (hc k (by omega))
            have c2 : wr.cell? ⟨b2, o2 + k, none⟩ = some (.int .u32 (ys[k]?.getD 0)) := (hbel.cell (p := ⟨b2, o2 + k, none⟩) hb2).trans (gc k (by omega))
            have c1d : wr.drew.cell? ⟨b1, o1 + k, none⟩ = some (.int .u32 (xs[k]?.getD 0)) := c1
            have c2d : wr.drew.cell? ⟨b2, o2 + k, none⟩ = some (.int .u32 (ys[k]?.getD 0)) := c2
            by_cases p1 : xs[k]?.getD 0 < ys[k]?.getD 0
            · go_wp2
              go_region
              all_goals go_wp2
              all_goals
                go_ret
                exact ⟨ret_int (cmpI_lt (val_lt_of WX.out.1 WX.out.2 k p1 (fun j hj => HS.out j (by omega)))).symm, hbel.drew⟩
            · by_cases p2 : ys[k]?.getD 0 < xs[k]?.getD 0
              · go_wp2
                go_region
                all_goals go_wp2
                all_goals go_region
                all_goals go_wp2
                all_goals
                  go_ret
                  exact ⟨ret_int (cmpI_gt (val_lt_of WX.out.2 WX.out.1 k p2 (fun j hj => (HS.out j (by omega)).symm))).symm, hbel.drew.drew⟩
              · have HE : Hid (xs[k]?.getD 0 = ys[k]?.getD 0) := show _ = _ by omega
                go_wp2
                go_region
                all_goals go_wp2
                all_goals go_region
                all_goals go_wp2
                all_goals
                  go_roundw
                  case rel => exact ⟨k, by omega, by go_num, fun j hj => (by
                    by_cases e : j = k
                    · rw [e]; exact HE.out
                    · exact HS.out j (by omega)), hbel.drew.drew⟩
                  case measure => simp [intOf]
end Go.Proofs.YtbcangblmadnpacDoor
