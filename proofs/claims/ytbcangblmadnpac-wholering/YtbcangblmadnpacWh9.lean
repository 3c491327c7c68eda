/- Whole numbers: whole.Compare, Gcd, Abs, Sub: of every two numbers whose words can be read. -/
import Derived.Test.YtbcangblmadnpacWh6
import Derived.Test.YtbcangblmadnpacGcd2
namespace Go.Proofs.Ytbcangblmadnpac
open Go.RowKit
set_option linter.unusedVariables false

theorem cmp_neg (x y : Int) : cmpI (-x) (-y) = cmpI y x := by
  unfold cmpI
  by_cases h1 : y < x
  · rw [if_pos (by omega), if_pos h1]
  · rw [if_neg (by omega), if_neg h1]
    by_cases h2 : x < y
    · rw [if_pos (by omega), if_pos h2]
    · rw [if_neg (by omega), if_neg (by omega)]
theorem ret_cmp {a b c d : Int} (h : a = b) (g : c = d) : Ending.returned (.tuple #[.int .i64 a, .int .i64 c]) = .returned (.tuple #[.int .i64 b, .int .i64 d]) := by rw [h, g]

set_option maxHeartbeats 3200000 in
set_option maxRecDepth 100000 in
theorem wcompare_any (n : Bool) (v : Value) (xs : List Int) (m0 : Bool) (u : Value) (ys : List Int) (w : World) (h : Sl w v xs) (g : Sl w u ys) (hx : wchk n xs = 0) (hy : wchk m0 ys = 0) :
    Calls Try.prog 17 #[.agg #[.bool n, v], .agg #[.bool m0, u]] w fun e w' => e = .returned (.tuple #[.int .i64 (cmpI (wval n xs) (wval m0 ys)), .int .i64 0]) ∧ Below w.heap.size w w' := by
  obtain ⟨lx, tx, sx⟩ := wchk_ok hx
  obtain ⟨ly, ty, sy⟩ := wchk_ok hy
  have wx := h.wd
  have wy := g.wd
  have nx := val_nonneg wx
  have ny := val_nonneg wy
  obtain ⟨a, cap, rfl, hr⟩ := h
  obtain ⟨b, cap', rfl, gr⟩ := g
  have h : Sl w (.slice a xs.length cap) xs := ⟨a, cap, rfl, hr⟩
  have g : Sl w (.slice b ys.length cap') ys := ⟨b, cap', rfl, gr⟩
  clear hr gr
  have HB : Hid (Below w.heap.size w ((w.alloc (.cells #[.bool n, .slice a xs.length cap] 24)).alloc (.cells #[.bool m0, .slice b ys.length cap'] 24))) := bt (alloc_later _ _) (alloc_later _ _)
  have HN : Hid (Box ((w.alloc (.cells #[.bool n, .slice a xs.length cap] 24)).alloc (.cells #[.bool m0, .slice b ys.length cap'] 24)) w.heap.size 24 #[.bool n, .slice a xs.length cap]) := Box.later (Box.made w _ _) (alloc_later _ _) (by simp)
  have HM : Hid (Box ((w.alloc (.cells #[.bool n, .slice a xs.length cap] 24)).alloc (.cells #[.bool m0, .slice b ys.length cap'] 24)) (w.heap.size + 1) 24 #[.bool m0, .slice b ys.length cap']) := by
    have e := Box.made (w.alloc (.cells #[.bool n, .slice a xs.length cap] 24)) 24 #[.bool m0, .slice b ys.length cap']
    simp at e
    exact e
  have HCB := hid (wcheckBoth_any n _ xs m0 _ ys _ (h.later HB.out) (g.later HB.out) (by omega) (by omega))
  rw [wboth_good hx hy] at HCB
  have HSL := hid (And.intro (h.later HB.out) (g.later HB.out))
  clear h g hx hy
  cases n with
  | false =>
    cases m0 with
    | false =>
      have HR : Hid (cmpI (wval false xs) (wval false ys) = cmpI (val xs) (val ys)) := rfl
      go_enter Try.func17, Try.ntmps17
      go_wp2_with fail
      refine Calls.mono HCB.out ?_
      rintro e w1 ⟨rfl, hb1⟩
      obtain ⟨p0, p1, _, _⟩ := res_box HN.out hb1
      obtain ⟨q0, q1, _, _⟩ := res_box HM.out hb1
      have HCM := hid (compare_sl _ _ xs ys w1 (HSL.out.1.later hb1) (HSL.out.2.later hb1) (by omega) (by omega))
      have hbA := bt HB.out hb1
      clear hb1
      go_wp2_with fail
      refine Calls.mono HCM.out ?_
      rintro e w2 ⟨rfl, hb2⟩
      have hbB := bt hbA hb2
      clear hb2
      go_wp2_with fail
      go_ret2
      exact ⟨ret_cmp HR.out.symm rfl, hbB⟩
    | true =>
      have HR : Hid (cmpI (wval false xs) (wval true ys) = 1) := by show _ = _; have := val_pos' wy ty (sy.elim (fun e => by cases e) id); rw [cmpI_gt]; show -(val ys) < val xs; omega
      go_enter Try.func17, Try.ntmps17
      go_wp2_with fail
      refine Calls.mono HCB.out ?_
      rintro e w1 ⟨rfl, hb1⟩
      obtain ⟨p0, p1, _, _⟩ := res_box HN.out hb1
      obtain ⟨q0, q1, _, _⟩ := res_box HM.out hb1
      have hbA := bt HB.out hb1
      clear hb1
      go_wp2_with fail
      go_ret2
      exact ⟨ret_cmp HR.out.symm rfl, hbA⟩
  | true =>
    cases m0 with
    | false =>
      have HR : Hid (cmpI (wval true xs) (wval false ys) = (-1)) := by show _ = _; have := val_pos' wx tx (sx.elim (fun e => by cases e) id); rw [cmpI_lt]; show -(val xs) < val ys; omega
      go_enter Try.func17, Try.ntmps17
      go_wp2_with fail
      refine Calls.mono HCB.out ?_
      rintro e w1 ⟨rfl, hb1⟩
      obtain ⟨p0, p1, _, _⟩ := res_box HN.out hb1
      obtain ⟨q0, q1, _, _⟩ := res_box HM.out hb1
      have hbA := bt HB.out hb1
      clear hb1
      go_wp2_with fail
      go_ret2
      exact ⟨ret_cmp HR.out.symm rfl, hbA⟩
    | true =>
      have HR : Hid (cmpI (wval true xs) (wval true ys) = cmpI (val ys) (val xs)) := cmp_neg (val xs) (val ys)
      go_enter Try.func17, Try.ntmps17
      go_wp2_with fail
      refine Calls.mono HCB.out ?_
      rintro e w1 ⟨rfl, hb1⟩
      obtain ⟨p0, p1, _, _⟩ := res_box HN.out hb1
      obtain ⟨q0, q1, _, _⟩ := res_box HM.out hb1
      have HCM := hid (compare_sl _ _ ys xs w1 (HSL.out.2.later hb1) (HSL.out.1.later hb1) (by omega) (by omega))
      have hbA := bt HB.out hb1
      clear hb1
      go_wp2_with fail
      refine Calls.mono HCM.out ?_
      rintro e w2 ⟨rfl, hb2⟩
      have hbB := bt hbA hb2
      clear hb2
      go_wp2_with fail
      go_ret2
      exact ⟨ret_cmp HR.out.symm rfl, hbB⟩

set_option maxHeartbeats 3200000 in
set_option maxRecDepth 100000 in
theorem wgcd_any (n : Bool) (v : Value) (xs : List Int) (m0 : Bool) (u : Value) (ys : List Int) (w : World) (h : Sl w v xs) (g : Sl w u ys) (hx : wchk n xs = 0) (hy : wchk m0 ys = 0) :
    Calls Try.prog 23 #[.agg #[.bool n, v], .agg #[.bool m0, u]] w (WTold w 0 (gcdI (val xs) (val ys))) := by
  obtain ⟨lx, tx, _⟩ := wchk_ok hx
  obtain ⟨ly, ty, _⟩ := wchk_ok hy
  obtain ⟨a, cap, rfl, hr⟩ := h
  obtain ⟨b, cap', rfl, gr⟩ := g
  have h : Sl w (.slice a xs.length cap) xs := ⟨a, cap, rfl, hr⟩
  have g : Sl w (.slice b ys.length cap') ys := ⟨b, cap', rfl, gr⟩
  clear hr gr
  have HB : Hid (Below w.heap.size w (((w.alloc (.cells #[.bool n, .slice a xs.length cap] 24)).alloc (.cells #[.bool m0, .slice b ys.length cap'] 24)).alloc (.cells #[.bool false, .slice none 0 0] 24))) := bt (bt (alloc_later _ _) (alloc_later _ _)) (alloc_later _ _)
  have HXB : Hid (Box (((w.alloc (.cells #[.bool n, .slice a xs.length cap] 24)).alloc (.cells #[.bool m0, .slice b ys.length cap'] 24)).alloc (.cells #[.bool false, .slice none 0 0] 24)) (w.heap.size + 1 + 1) 24 #[.bool false, .slice none 0 0]) := by
    have e := Box.made ((w.alloc (.cells #[.bool n, .slice a xs.length cap] 24)).alloc (.cells #[.bool m0, .slice b ys.length cap'] 24)) 24 #[.bool false, .slice none 0 0]
    simp at e
    exact e
  have HXR : Hid (w.heap.size ≤ w.heap.size + 1 + 1 ∧ w.heap.size + 1 + 1 < (((w.alloc (.cells #[.bool n, .slice a xs.length cap] 24)).alloc (.cells #[.bool m0, .slice b ys.length cap'] 24)).alloc (.cells #[.bool false, .slice none 0 0] 24)).heap.size) := ⟨by omega, HXB.out.lt⟩
  have HN : Hid (Box (((w.alloc (.cells #[.bool n, .slice a xs.length cap] 24)).alloc (.cells #[.bool m0, .slice b ys.length cap'] 24)).alloc (.cells #[.bool false, .slice none 0 0] 24)) w.heap.size 24 #[.bool n, .slice a xs.length cap]) := Box.later (Box.made w _ _) (bt (alloc_later _ _) (alloc_later _ _)) (by simp)
  have HM : Hid (Box (((w.alloc (.cells #[.bool n, .slice a xs.length cap] 24)).alloc (.cells #[.bool m0, .slice b ys.length cap'] 24)).alloc (.cells #[.bool false, .slice none 0 0] 24)) (w.heap.size + 1) 24 #[.bool m0, .slice b ys.length cap']) := by
    have e := Box.later (Box.made (w.alloc (.cells #[.bool n, .slice a xs.length cap] 24)) 24 #[.bool m0, .slice b ys.length cap']) (alloc_later ((w.alloc (.cells #[.bool n, .slice a xs.length cap] 24)).alloc (.cells #[.bool m0, .slice b ys.length cap'] 24)) (.cells #[.bool false, .slice none 0 0] 24)) (by simp)
    simp at e
    exact e
  have HCB := hid (wcheckBoth_any n _ xs m0 _ ys _ (h.later HB.out) (g.later HB.out) (by omega) (by omega))
  rw [wboth_good hx hy] at HCB
  have HSL := hid (And.intro (h.later HB.out) (g.later HB.out))
  have HT : Hid (0 ≤ gcdI (val xs) (val ys) ∧ sg false (gcdI (val xs) (val ys)) = gcdI (val xs) (val ys)) := ⟨gcdI_nonneg _ _, rfl⟩
  clear h g hx hy
  go_enter Try.func23, Try.ntmps23
  go_wp2_with fail
  refine Calls.mono HCB.out ?_
  rintro e w1 ⟨rfl, hb1⟩
  obtain ⟨p0, p1, _, _⟩ := res_box HN.out hb1
  obtain ⟨q0, q1, _, _⟩ := res_box HM.out hb1
  have HS := hid (gcd_sl _ _ xs ys w1 (HSL.out.1.later hb1) (HSL.out.2.later hb1) (by omega) (by omega))
  rw [both_good (chk_good (by omega) tx) (chk_good (by omega) ty)] at HS
  have HB1 := hid hb1
  clear hb1
  go_wp2_with fail
  refine Calls.mono HS.out ?_
  rintro e w2 ⟨v2, zs, code, rfl, o2, t2, hb2⟩
  obtain ⟨a2, c2, hv2⟩ := own_slice' o2
  subst hv2
  obtain ⟨m3, us, cc, e1, e2, wt⟩ := wtells_of (n := false) t2 HT.out.1
  rw [HT.out.2] at wt
  have HTD := hid (wtold_any false a2 zs.length c2 code w2 (tells_code t2))
  rw [e1 a2 c2] at HTD
  have HO2 := hid (owns_base o2 HB1.out.size)
  have HB2 := hid (bt HB1.out hb2)
  have HWT := hid wt
  have HE2 := hid e2
  clear o2 t2 hb2 e1 e2 wt p0 p1 q0 q1
  go_wp2_with fail
  refine Calls.mono HTD.out ?_
  rintro e w3 ⟨rfl, hb3⟩
  obtain ⟨r0, r1, f0, f1⟩ := res_box HXB.out (bt HB2.out hb3)
  have HO3 := hid (wtold_cut HWT.out HE2.out (owns_later HO2.out hb3))
  obtain ⟨a3, k3, c3, e3⟩ := cut_slice cc a2 zs.length c2
  rw [e3] at HO3 ⊢
  have HBC := hid (bt HB.out (bt HB2.out hb3))
  have HGE : Hid (∀ g, (Value.slice a3 k3 c3).ownBlock = some g → g ≠ w.heap.size + 1 + 1) := fun g hg => by
    have h1 := (World.ownsRow.lt HO3.out g hg).1
    have h2 := HXR.out
    omega
  clear hb3 e3
  go_wp2_with fail
  refine bodyPost_ret (v := .tuple #[.agg #[.bool m3, .slice a3 k3 c3], .int .i64 cc]) (by simp [results, Try.results23, go_sem, r0, r1]) rfl ?_
  exact ⟨m3, _, us, cc, rfl, owns_base (own_put2 HO3.out _ HGE.out _ _) (by have := HXR.out; omega), HWT.out, below_put2 HBC.out _ (by have := HXR.out; omega) _ _⟩

set_option maxHeartbeats 3200000 in
set_option maxRecDepth 100000 in
theorem wabs_any (n : Bool) (v : Value) (xs : List Int) (w : World) (h : Sl w v xs) (hx : wchk n xs = 0) :
    Calls Try.prog 22 #[.agg #[.bool n, v]] w (WTold w 0 (val xs)) := by
  obtain ⟨lx, tx, _⟩ := wchk_ok hx
  have wx := h.wd
  obtain ⟨a, cap, rfl, hr⟩ := h
  have h : Sl w (.slice a xs.length cap) xs := ⟨a, cap, rfl, hr⟩
  clear hr
  have HB : Hid (Below w.heap.size w ((w.alloc (.cells #[.bool n, .slice a xs.length cap] 24)).alloc (.cells #[.bool false, .slice none 0 0] 24))) := bt (alloc_later _ _) (alloc_later _ _)
  have HN : Hid (Box ((w.alloc (.cells #[.bool n, .slice a xs.length cap] 24)).alloc (.cells #[.bool false, .slice none 0 0] 24)) w.heap.size 24 #[.bool n, .slice a xs.length cap]) := Box.later (Box.made w _ _) (alloc_later _ _) (by simp)
  have HXB : Hid (Box ((w.alloc (.cells #[.bool n, .slice a xs.length cap] 24)).alloc (.cells #[.bool false, .slice none 0 0] 24)) (w.heap.size + 1) 24 #[.bool false, .slice none 0 0]) := by
    have e := Box.made (w.alloc (.cells #[.bool n, .slice a xs.length cap] 24)) 24 #[.bool false, .slice none 0 0]
    simp at e
    exact e
  have HXR : Hid (w.heap.size ≤ w.heap.size + 1 ∧ w.heap.size + 1 < ((w.alloc (.cells #[.bool n, .slice a xs.length cap] 24)).alloc (.cells #[.bool false, .slice none 0 0] 24)).heap.size) := ⟨by omega, HXB.out.lt⟩
  have HC := hid (wcheck_any n _ xs _ (h.later HB.out) (by omega))
  rw [hx] at HC
  have HSL := hid (h.later HB.out)
  have HWT : Hid (WTells 0 (val xs) false xs 0) := ⟨wx, tx, .inl rfl, lx, fun h => absurd rfl h, fun _ h => by have h1 := below2048 wx lx; have h2 := val_nonneg wx; have h3 := wlim_pos; omega, fun _ _ _ => ⟨rfl, rfl⟩⟩
  clear h hx
  go_enter Try.func22, Try.ntmps22
  go_wp2_with fail
  refine Calls.mono HC.out ?_
  rintro e w1 ⟨rfl, hb1⟩
  obtain ⟨p0, p1, _, _⟩ := res_box HN.out hb1
  have HT := hid (trim_sl _ xs w1 (HSL.out.later hb1) (by omega))
  rw [show sz xs = xs.length from tx, trimmed_of tx] at HT
  have HB1 := hid hb1
  clear hb1 HC
  go_wp2_with fail
  refine Calls.mono HT.out ?_
  rintro e w2 ⟨v2, rfl, o2, hb2⟩
  obtain ⟨a2, c2, hv2⟩ := own_slice' o2
  subst hv2
  have HF := hid (formed_any false a2 xs.length c2 w2)
  rw [Bool.false_and] at HF
  have HO2 := hid (owns_base o2 HB1.out.size)
  have HB2 := hid (bt HB1.out hb2)
  clear o2 hb2 p0 p1 HT
  go_wp2_with fail
  refine Calls.mono HF.out ?_
  rintro e w3 ⟨rfl, hb3⟩
  obtain ⟨r0, r1, f0, f1⟩ := res_box HXB.out (bt HB2.out hb3)
  have HO3 := hid (owns_later HO2.out hb3)
  have HBC := hid (bt HB.out (bt HB2.out hb3))
  have HGE : Hid (∀ g, (Value.slice a2 xs.length c2).ownBlock = some g → g ≠ w.heap.size + 1) := fun g hg => by
    have h1 := (World.ownsRow.lt HO3.out g hg).1
    have h2 := HXR.out
    omega
  clear hb3 HF
  go_wp2_with fail
  refine bodyPost_ret (v := .tuple #[.agg #[.bool false, .slice a2 xs.length c2], .int .i64 0]) (by simp [results, Try.results22, go_sem, r0, r1]) rfl ?_
  exact ⟨false, _, xs, 0, rfl, owns_base (own_put2 HO3.out _ HGE.out _ _) (by have := HXR.out; omega), HWT.out, below_put2 HBC.out _ (by have := HXR.out; omega) _ _⟩
end Go.Proofs.Ytbcangblmadnpac
