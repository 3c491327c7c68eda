/- The laws of layer 2: lives (two of the chapter's examples hold); the document's own made, Of. -/
import Derived.Test.YtbcangblmadnpacDoorWh6
namespace Go.Proofs.YtbcangblmadnpacDoor
open Go.RowKit
set_option linter.unusedVariables false

theorem wlim_big : (18446744073709551616 : Int) ≤ wlim := by
  have : (4294967296 : Int) ^ 2 ≤ 4294967296 ^ 2048 := pw_le (by omega)
  unfold wlim
  have e : (4294967296 : Int) ^ 2 = 18446744073709551616 := by decide
  rw [e] at this
  exact this
theorem WTells.num {t : Int} {n : Bool} {zs : List Int} {code : Int} (h : WTells 0 t n zs code) (h0 : -18446744073709551616 < t) (h1 : t < 18446744073709551616) : code = 0 ∧ wval n zs = t := by
  have := wlim_big
  exact h.good rfl (by omega) (by omega)
theorem wval_pos {n : Bool} {zs : List Int} (hw : Wd zs) (h : 0 < wval n zs) : n = false ∧ val zs = wval n zs := by
  have := val_nonneg hw
  cases n with
  | false => exact ⟨rfl, rfl⟩
  | true => have e : wval true zs = -(val zs) := rfl; omega

set_option maxHeartbeats 3200000 in
set_option maxRecDepth 100000 in
theorem lives_any (w : World) : Calls Tryd.prog 5 #[] w fun e w' => e = .returned (.bool true) ∧ Below w.heap.size w w' := by
  have t1 : Trimmed [4294967295] := rfl
  have t4 : Trimmed [0, 1] := rfl
  have w1' : Wd [4294967295] := Wd.one (by omega)
  have w4' : Wd [0, 1] := Wd.cons (by omega) (Wd.one (by omega))
  have k1 := wchk_good (n := false) (xs := [4294967295]) (by simp) t1 (.inl rfl)
  have S0 := hid (Sl.lit' w _ [4294967295] #[.int .u32 4294967295] 1 rfl w1' (by unfold maxLen; simp) rfl rfl)
  have hb0 := alloc_later w (.cells #[.int .u32 4294967295] 40)
  have HO := hid (lawOf_any 1 (w.alloc (.cells #[.int .u32 4294967295] 40)) (by omega) (by omega))
  have HB0 := hid hb0
  clear hb0
  go_enter Tryd.func5, Tryd.ntmps5
  go_wp2_with fail
  refine Calls.mono HO.out ?_
  rintro e w1 ⟨n1, v1, z1, rfl, o1, wd1, tr1, l1, ng1, hv1, hb1⟩
  have k2 := wchk_good (n := n1) (xs := z1) (by omega) tr1 ng1
  have HA := hid (wadd_any false _ [4294967295] n1 _ z1 w1 (S0.out.later hb1) (Sl.own o1 wd1) (by simp) (by omega))
  rw [wboth_good k1 k2, hv1, show wval false [4294967295] + 1 = 4294967296 by simp [wval, val, valTo]] at HA
  have HB1 := hid (bt HB0.out hb1)
  obtain ⟨a1, c1, hs1⟩ := own_slice' o1
  subst hs1
  clear o1 hb1 hv1 HO S0
  go_wp2_with fail
  refine Calls.mono HA.out ?_
  rintro e w2 ⟨n2, v2, z2, cc, rfl, o2, wt, hb2⟩
  obtain ⟨rfl, hv2⟩ := wt.num (by omega) (by omega)
  obtain ⟨rfl, hv2'⟩ := wval_pos wt.wd (by rw [hv2]; omega)
  have hz2 : z2 = [0, 1] := trimmed_eq wt.wd w4' wt.trim t4 (by rw [hv2', hv2, val_two]; omega)
  subst hz2
  obtain ⟨a2, c2, hs2⟩ := own_slice' o2
  subst hs2
  have HS2 := hid (Sl.own o2 w4')
  have HB2 := hid (bt HB1.out hb2)
  clear o2 wt hb2 hv2 hv2' HA
  -- the second example
  have hbA := alloc_later w2 (.cells #[.bool false, .slice a2 [0, 1].length c2] 24)
  have HX2 := hid (Box.made w2 24 #[.bool false, .slice a2 [0, 1].length c2])
  have HO3 := hid (lawOf_any (-7) (w2.alloc (.cells #[.bool false, .slice a2 [0, 1].length c2] 24)) (by omega) (by omega))
  have HBA := hid hbA
  clear hbA
  go_wp2_with fail
  refine Calls.mono HO3.out ?_
  rintro e w3 ⟨n3, v3, z3, rfl, o3, wd3, tr3, l3, ng3, hv3, hb3⟩
  have k3 := wchk_good (n := n3) (xs := z3) (by omega) tr3 ng3
  have HO4 := hid (lawOf_any 2 w3 (by omega) (by omega))
  obtain ⟨a3, c3, hs3⟩ := own_slice' o3
  subst hs3
  have HS3 := hid (Sl.own o3 wd3)
  have HB3 := hid (bt HBA.out hb3)
  have HV3 := hid hv3
  have HW3 := hid hb3
  clear o3 hb3 hv3 HO3
  go_wp2_with fail
  refine Calls.mono HO4.out ?_
  rintro e w4 ⟨n4, v4, z4, rfl, o4, wd4, tr4, l4, ng4, hv4, hb4⟩
  have k4 := wchk_good (n := n4) (xs := z4) (by omega) tr4 ng4
  have hz4 : 0 < z4.length := by
    by_cases c : 0 < z4.length
    · exact c
    · have e0 := trimmed_zero' (us := z4) (by omega)
      exfalso
      revert hv4
      unfold wval
      rw [e0]
      cases n4 <;> simp
  have HD := hid (wdivMod_any n3 _ z3 n4 _ z4 w4 (HS3.out.later hb4) (Sl.own o4 wd4) k3 k4 hz4)
  rw [HV3.out, hv4] at HD
  obtain ⟨a4, c4, hs4⟩ := own_slice' o4
  subst hs4
  have HB4 := hid (bt HB3.out hb4)
  have HW4 := hid (bt HW3.out hb4)
  clear o4 hb4 hv4 HO4 HS3 HV3
  go_wp2_with fail
  refine Calls.mono HD.out ?_
  rintro e w5 ⟨nq, vq, zq, vr, zr, rfl, oq, orr, wq, wr, tq, tr, lq, lr, ngq, hX, hY, hb5⟩
  have r0 := val_nonneg wr
  have hr1 : val zr = 1 := by simp at hY; omega
  have hq4 : wval nq zq = -4 := by omega
  obtain ⟨aq, cq, hsq⟩ := own_slice' oq
  obtain ⟨ar, cr, hsr⟩ := own_slice' orr
  subst hsq
  subst hsr
  have hbC : Below w5.heap.size w5 (((w5.alloc (.cells #[.bool nq, .slice aq zq.length cq] 24)).alloc (.cells #[.bool false, .slice ar zr.length cr] 24)).alloc (.cells #[.int .u32 0, .int .u32 1] 40)) := bt (bt (alloc_later _ _) (alloc_later _ _)) (alloc_later _ _)
  have HSQ := hid ((Sl.own oq wq).later hbC)
  have HSR := hid ((Sl.own orr wr).later hbC)
  have HIQ : Hid (i64of nq zq = (-4, true)) := by
    have := i64of_yes (n := nq) (xs := zq) ⟨wchk_good (by omega) tq ngq, by omega, by omega⟩
    rw [hq4] at this
    exact this
  have HIR : Hid (i64of false zr = (1, true)) := by
    have e1 : wval false zr = 1 := hr1
    have := i64of_yes (n := false) (xs := zr) ⟨wchk_good (by omega) tr (.inl rfl), by omega, by omega⟩
    rw [e1] at this
    exact this
  obtain ⟨m0, m1, _, _⟩ := res_box HX2.out (bt (bt HW4.out hb5) hbC)
  have L6 := Sl.lit' ((w5.alloc (.cells #[.bool nq, .slice aq zq.length cq] 24)).alloc (.cells #[.bool false, .slice ar zr.length cr] 24)) (w5.heap.size + 1 + 1) [0, 1] #[.int .u32 0, .int .u32 1] 2 (by simp) w4' (by unfold maxLen; simp) rfl rfl
  have HSM := hid (sameWhole_any false _ [0, 1] false _ [0, 1] _ (HS2.out.later (bt (bt (bt HBA.out HW4.out) hb5) hbC)) L6 (by simp) (by simp))
  rw [show decide (false = false ∧ [0, 1] = ([0, 1] : List Int)) = true from decide_eq_true ⟨rfl, rfl⟩] at HSM
  have HXQ := hid (Box.later (Box.made w5 24 #[.bool nq, .slice aq zq.length cq]) (bt (alloc_later _ (.cells #[.bool false, .slice ar zr.length cr] 24)) (alloc_later _ (.cells #[.int .u32 0, .int .u32 1] 40))) (by simp))
  have HXR : Hid (Box (((w5.alloc (.cells #[.bool nq, .slice aq zq.length cq] 24)).alloc (.cells #[.bool false, .slice ar zr.length cr] 24)).alloc (.cells #[.int .u32 0, .int .u32 1] 40)) (w5.heap.size + 1) 24 #[.bool false, .slice ar zr.length cr]) := by
    have e := Box.later (Box.made (w5.alloc (.cells #[.bool nq, .slice aq zq.length cq] 24)) 24 #[.bool false, .slice ar zr.length cr]) (alloc_later _ (.cells #[.int .u32 0, .int .u32 1] 40)) (by simp)
    simp at e
    exact e
  have m0' : w5.cell? ⟨w2.heap.size, 0, none⟩ = some (.bool false) := (res_box HX2.out (bt HW4.out hb5)).1
  have m1' : w5.cell? ⟨w2.heap.size, 1, none⟩ = some (.slice a2 [0, 1].length c2) := (res_box HX2.out (bt HW4.out hb5)).2.1
  have hne5 : w2.heap.size < w5.heap.size := by have := HX2.out.lt; have := HW4.out.size; have := hb5.size; omega
  have HBE := hid (bt (bt (bt HB2.out HB4.out) hb5) hbC)
  clear oq orr wq wr tq tr hX hY hb5 r0 hr1 hq4 hbC L6 HD HB4 HW4
  go_wp2_with fail
  refine Calls.mono HSM.out ?_
  rintro e w6 ⟨rfl, hb6⟩
  obtain ⟨x0, x1, _, _⟩ := res_box HXQ.out hb6
  have HI1 := hid (lawIs_any nq _ zq (-4) w6 (HSQ.out.later hb6) (by omega))
  rw [decide_eq_true HIQ.out] at HI1
  have HB6 := hid hb6
  clear hb6 HSM
  go_wp2_with fail
  refine Calls.mono HI1.out ?_
  rintro e w7 ⟨rfl, hb7⟩
  obtain ⟨y0, y1, _, _⟩ := res_box HXR.out (bt HB6.out hb7)
  have HI2 := hid (lawIs_any false _ zr 1 w7 ((HSR.out.later HB6.out).later hb7) (by omega))
  rw [decide_eq_true HIR.out] at HI2
  have HB7 := hid (bt HB6.out hb7)
  clear hb7 HI1 x0 x1
  go_wp2_with fail
  refine Calls.mono HI2.out ?_
  rintro e w8 ⟨rfl, hb8⟩
  have hbF := bt HBE.out (bt HB7.out hb8)
  clear hb8 HI2
  go_wp2_with fail
  go_ret
  exact ⟨rfl, hbF⟩
end Go.Proofs.YtbcangblmadnpacDoor
