/- The law WholeOf answers true, and writes nothing that was there: whatever number comes in. -/
import Derived.Test.YtbcangblmadnpabWh8
namespace Go.Proofs.Ytbcangblmadnpab
open Go.RowKit
set_option linter.unusedVariables false

theorem wsame {n m : Bool} {xs ys : List Int} (wx : Wd xs) (wy : Wd ys) (tx : Trimmed xs) (ty : Trimmed ys) (nx : n = false ∨ 0 < xs.length) (ny : m = false ∨ 0 < ys.length) (h : wval n xs = wval m ys) : n = m ∧ xs = ys := by
  have x0 := val_nonneg wx
  have y0 := val_nonneg wy
  cases n <;> cases m
  · exact ⟨rfl, trimmed_eq wx wy tx ty h⟩
  · have e : val xs = -(val ys) := h
    have := val_pos' wy ty (ny.elim (fun e => by cases e) id)
    omega
  · have e : -(val xs) = val ys := h
    have := val_pos' wx tx (nx.elim (fun e => by cases e) id)
    omega
  · have e : -(val xs) = -(val ys) := h
    exact ⟨rfl, trimmed_eq wx wy tx ty (by omega)⟩

set_option maxHeartbeats 3200000 in
set_option maxRecDepth 100000 in
theorem wholeOf_walk (x : Int) (w : World) (h0 : -9223372036854775808 ≤ x) (h1 : x ≤ 9223372036854775807) :
    Calls Try.prog 3 #[.int .i64 x] w fun e w' => e = .returned (.bool true) ∧ Below w.heap.size w w' := by
  have HO := hid (wof_any x w h0 h1)
  go_enter Try.func3, Try.ntmps3
  go_wp2_with fail
  refine Calls.mono HO.out ?_
  rintro e w1 ⟨nA, vA, zA, rfl, oA, wA, tA, lA, ngA, hvA, hb1⟩
  obtain ⟨aA, cA, hsA⟩ := own_slice' oA
  subst hsA
  have HXB := hid (Box.made w1 24 #[.bool nA, .slice aA zA.length cA])
  have HSA := hid ((Sl.own oA wA).later (alloc_later w1 (.cells #[.bool nA, .slice aA zA.length cA] 24)))
  have HB1 := hid (bt hb1 (alloc_later w1 (.cells #[.bool nA, .slice aA zA.length cA] 24)))
  have HRO := hid (fun ww (hb : Below (w1.alloc (.cells #[.bool nA, .slice aA zA.length cA] 24)).heap.size (w1.alloc (.cells #[.bool nA, .slice aA zA.length cA] 24)) ww) => Calls.mono (refOf2_any x ww h0 h1)
    (R' := fun e w' => ∃ c2, ∃ a2, e = .returned (.agg #[.bool nA, .slice a2 zA.length c2]) ∧ Sl w' (.slice a2 zA.length c2) zA ∧ w'.cell? ⟨w1.heap.size, 0, none⟩ = some (.bool nA) ∧ w'.cell? ⟨w1.heap.size, 1, none⟩ = some (.slice aA zA.length cA) ∧ Below (w1.alloc (.cells #[.bool nA, .slice aA zA.length cA] 24)).heap.size (w1.alloc (.cells #[.bool nA, .slice aA zA.length cA] 24)) w')
    (fun e w' h => by
      obtain ⟨n2, v2, z2, rfl, o2, wd2, tr2, l2, ng2, hv2, hb2⟩ := h
      obtain ⟨e1, e2⟩ := wsame wA wd2 tA tr2 ngA ng2 (hvA.trans hv2.symm)
      subst e1
      subst e2
      obtain ⟨a2, c2, hs2⟩ := own_slice' o2
      subst hs2
      have hbb := bt hb hb2
      obtain ⟨r0, r1, _, _⟩ := res_box HXB.out hbb
      exact ⟨c2, a2, rfl, Sl.own o2 wA, r0, r1, hbb⟩))
  have HIS : Hid (decide (i64of nA zA = (x, true)) = true) := by
    have := i64of_yes (n := nA) (xs := zA) ⟨wchk_good (by omega) tA ngA, by omega, by omega⟩
    rw [hvA] at this
    exact decide_eq_true this
  have HSM := hid (fun a2 c2 ww (hb : Below (w1.alloc (.cells #[.bool nA, .slice aA zA.length cA] 24)).heap.size (w1.alloc (.cells #[.bool nA, .slice aA zA.length cA] 24)) ww) (s2 : Sl ww (.slice a2 zA.length c2) zA) => Calls.mono (sameWhole_any nA _ zA nA _ zA ww (HSA.out.later hb) s2 (by omega) (by omega))
    (R' := fun e w' => e = .returned (.bool true) ∧ w'.cell? ⟨w1.heap.size, 0, none⟩ = some (.bool nA) ∧ w'.cell? ⟨w1.heap.size, 1, none⟩ = some (.slice aA zA.length cA) ∧ Below (w1.alloc (.cells #[.bool nA, .slice aA zA.length cA] 24)).heap.size (w1.alloc (.cells #[.bool nA, .slice aA zA.length cA] 24)) w')
    (fun e w' h => by
      have hbb := bt hb h.2
      obtain ⟨r0, r1, _, _⟩ := res_box HXB.out hbb
      refine ⟨?_, r0, r1, hbb⟩
      rw [h.1, show decide (nA = nA ∧ zA = zA) = true from decide_eq_true ⟨rfl, rfl⟩]))
  have HI := hid (fun ww (hb : Below (w1.alloc (.cells #[.bool nA, .slice aA zA.length cA] 24)).heap.size (w1.alloc (.cells #[.bool nA, .slice aA zA.length cA] 24)) ww) => Calls.mono (lawIs_any nA _ zA x ww (HSA.out.later hb) (by omega))
    (R' := fun e w' => e = .returned (.bool true) ∧ Below (w1.alloc (.cells #[.bool nA, .slice aA zA.length cA] 24)).heap.size (w1.alloc (.cells #[.bool nA, .slice aA zA.length cA] 24)) w')
    (fun e w' h => ⟨by rw [h.1, HIS.out], bt hb h.2⟩))
  have HLV := hid (fun ww (hb : Below (w1.alloc (.cells #[.bool nA, .slice aA zA.length cA] 24)).heap.size (w1.alloc (.cells #[.bool nA, .slice aA zA.length cA] 24)) ww) => Calls.mono (lives_any ww)
    (R' := fun e w' => e = .returned (.bool true) ∧ Below (w1.alloc (.cells #[.bool nA, .slice aA zA.length cA] 24)).heap.size (w1.alloc (.cells #[.bool nA, .slice aA zA.length cA] 24)) w')
    (fun e w' h => ⟨h.1, bt hb h.2⟩))
  clear oA hb1 hvA tA ngA HO
  go_wp2_with fail
  go_region_with (first
    | (go_at_call 7; refine Calls.mono (HRO.out _ (Below.drew (Below.refl _ _))) ?_; rintro e w2 ⟨c2, a2, rfl, s2, r0, r1, hb2⟩)
    | (go_at_call 6; refine Calls.mono (HSM.out _ _ _ hb2 s2) ?_; rintro e w3 ⟨rfl, r2, r3, hb3⟩)
    | (go_at_call 8; refine Calls.mono (HI.out _ hb3) ?_; rintro e w4 ⟨rfl, hb4⟩)
    | (go_at_call 9; refine Calls.mono (HLV.out _ hb4) ?_; rintro e w5 ⟨rfl, hb5⟩))
  all_goals
    go_wp2_with fail
    go_ret
    exact ⟨rfl, bt HB1.out hb5⟩
end Go.Proofs.Ytbcangblmadnpab
