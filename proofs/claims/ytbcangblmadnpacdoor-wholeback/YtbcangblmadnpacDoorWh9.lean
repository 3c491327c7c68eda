/- Whole numbers: whole.Compare, Abs: of every two numbers whose words can be read. -/
import Derived.Test.YtbcangblmadnpacDoorWh6
namespace Go.Proofs.YtbcangblmadnpacDoor
open Go.RowKit
set_option linter.unusedVariables false

theorem cmp_neg (x y : Int) : cmpI (-x) (-y) = cmpI y x := by
  unfold cmpI
  by_cases h1 : y < x
  · rw [if_pos (by omega), if_pos h1]
  · rw [if_neg (by omega), if_neg h1]
    by_cases h2 : x < y
    · rw [if_pos (by omega), if_pos h2]
    · rw [if_neg (by omega), if_neg (by omega)]
theorem ret_cmp {a b c d : Int} (h : a = b) (g : c = d) : Ending.returned (.tuple #[.int .i64 a, .int .i64 c]) = .returned (.tuple #[.int .i64 b, .int .i64 d]) := by rw [h, g]

set_option maxHeartbeats 3200000 in
set_option maxRecDepth 100000 in
theorem wcompare_any (n : Bool) (v : Value) (xs : List Int) (m0 : Bool) (u : Value) (ys : List Int) (w : World) (h : Sl w v xs) (g : Sl w u ys) (hx : wchk n xs = 0) (hy : wchk m0 ys = 0) :
    Calls Tryd.prog 36 #[.agg #[.bool n, v], .agg #[.bool m0, u]] w fun e w' => e = .returned (.tuple #[.int .i64 (cmpI (wval n xs) (wval m0 ys)), .int .i64 0]) ∧ Below w.heap.size w w' := by
  obtain ⟨lx, tx, sx⟩ := wchk_ok hx
  obtain ⟨ly, ty, sy⟩ := wchk_ok hy
  have wx := h.wd
  have wy := g.wd
  have nx := val_nonneg wx
  have ny := val_nonneg wy
  obtain ⟨a, cap, rfl, hr⟩ := h
  obtain ⟨b, cap', rfl, gr⟩ := g
  have h : Sl w (.slice a xs.length cap) xs := ⟨a, cap, rfl, hr⟩
  have g : Sl w (.slice b ys.length cap') ys := ⟨b, cap', rfl, gr⟩
  clear hr gr
  have HB : Hid (Below w.heap.size w ((w.alloc (.cells #[.bool n, .slice a xs.length cap] 24)).alloc (.cells #[.bool m0, .slice b ys.length cap'] 24))) := bt (alloc_later _ _) (alloc_later _ _)
  have HN : Hid (Box ((w.alloc (.cells #[.bool n, .slice a xs.length cap] 24)).alloc (.cells #[.bool m0, .slice b ys.length cap'] 24)) w.heap.size 24 #[.bool n, .slice a xs.length cap]) := Box.later (Box.made w _ _) (alloc_later _ _) (by simp)
  have HM : Hid (Box ((w.alloc (.cells #[.bool n, .slice a xs.length cap] 24)).alloc (.cells #[.bool m0, .slice b ys.length cap'] 24)) (w.heap.size + 1) 24 #[.bool m0, .slice b ys.length cap']) := by
    have e := Box.made (w.alloc (.cells #[.bool n, .slice a xs.length cap] 24)) 24 #[.bool m0, .slice b ys.length cap']
    simp at e
    exact e
  have HCB := hid (wcheckBoth_any n _ xs m0 _ ys _ (h.later HB.out) (g.later HB.out) (by omega) (by omega))
  rw [wboth_good hx hy] at HCB
  have HSL := hid (And.intro (h.later HB.out) (g.later HB.out))
  clear h g hx hy
  cases n with
  | false =>
    cases m0 with
    | false =>
      have HR : Hid (cmpI (wval false xs) (wval false ys) = cmpI (val xs) (val ys)) := rfl
      go_enter Tryd.func36, Tryd.ntmps36
      go_wp2_with fail
      refine Calls.mono HCB.out ?_
      rintro e w1 ⟨rfl, hb1⟩
      obtain ⟨p0, p1, _, _⟩ := res_box HN.out hb1
      obtain ⟨q0, q1, _, _⟩ := res_box HM.out hb1
      have HCM := hid (compare_sl _ _ xs ys w1 (HSL.out.1.later hb1) (HSL.out.2.later hb1) (by omega) (by omega))
      have hbA := bt HB.out hb1
      clear hb1
      go_wp2_with fail
      refine Calls.mono HCM.out ?_
      rintro e w2 ⟨rfl, hb2⟩
      have hbB := bt hbA hb2
      clear hb2
      go_wp2_with fail
      go_ret2
      exact ⟨ret_cmp HR.out.symm rfl, hbB⟩
    | true =>
      have HR : Hid (cmpI (wval false xs) (wval true ys) = 1) := by show _ = _; have := val_pos' wy ty (sy.elim (fun e => by cases e) id); rw [cmpI_gt]; show -(val ys) < val xs; omega
      go_enter Tryd.func36, Tryd.ntmps36
      go_wp2_with fail
      refine Calls.mono HCB.out ?_
      rintro e w1 ⟨rfl, hb1⟩
      obtain ⟨p0, p1, _, _⟩ := res_box HN.out hb1
      obtain ⟨q0, q1, _, _⟩ := res_box HM.out hb1
      have hbA := bt HB.out hb1
      clear hb1
      go_wp2_with fail
      go_ret2
      exact ⟨ret_cmp HR.out.symm rfl, hbA⟩
  | true =>
    cases m0 with
    | false =>
      have HR : Hid (cmpI (wval true xs) (wval false ys) = (-1)) := by show _ = _; have := val_pos' wx tx (sx.elim (fun e => by cases e) id); rw [cmpI_lt]; show -(val xs) < val ys; omega
      go_enter Tryd.func36, Tryd.ntmps36
      go_wp2_with fail
      refine Calls.mono HCB.out ?_
      rintro e w1 ⟨rfl, hb1⟩
      obtain ⟨p0, p1, _, _⟩ := res_box HN.out hb1
      obtain ⟨q0, q1, _, _⟩ := res_box HM.out hb1
      have hbA := bt HB.out hb1
      clear hb1
      go_wp2_with fail
      go_ret2
      exact ⟨ret_cmp HR.out.symm rfl, hbA⟩
    | true =>
      have HR : Hid (cmpI (wval true xs) (wval true ys) = cmpI (val ys) (val xs)) := cmp_neg (val xs) (val ys)
      go_enter Tryd.func36, Tryd.ntmps36
      go_wp2_with fail
      refine Calls.mono HCB.out ?_
      rintro e w1 ⟨rfl, hb1⟩
      obtain ⟨p0, p1, _, _⟩ := res_box HN.out hb1
      obtain ⟨q0, q1, _, _⟩ := res_box HM.out hb1
      have HCM := hid (compare_sl _ _ ys xs w1 (HSL.out.2.later hb1) (HSL.out.1.later hb1) (by omega) (by omega))
      have hbA := bt HB.out hb1
      clear hb1
      go_wp2_with fail
      refine Calls.mono HCM.out ?_
      rintro e w2 ⟨rfl, hb2⟩
      have hbB := bt hbA hb2
      clear hb2
      go_wp2_with fail
      go_ret2
      exact ⟨ret_cmp HR.out.symm rfl, hbB⟩

end Go.Proofs.YtbcangblmadnpacDoor
