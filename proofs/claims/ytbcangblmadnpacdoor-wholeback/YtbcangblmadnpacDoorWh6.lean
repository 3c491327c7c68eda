/- Whole numbers: whole.divide, DivMod: quotient and rest, the rest never below 0. -/
import Derived.Test.YtbcangblmadnpacDoorWh5
import Derived.Test.YtbcangblmadnpacDoorDivAny
namespace Go.Proofs.YtbcangblmadnpacDoor
open Go.RowKit
set_option linter.unusedVariables false

set_option maxHeartbeats 800000 in
set_option maxRecDepth 100000 in
theorem divMod_own (v u : Value) (xs ys : List Int) (w : World) (h : Sl w v xs) (g : Sl w u ys) (lx : xs.length ≤ 8192) (ly : ys.length ≤ 8192) (tx : Trimmed xs) (ty : Trimmed ys) (h0 : 0 < ys.length) :
    Calls Tryd.prog 60 #[v, u] w fun e w' => ∃ v1 u1 q r, e = .returned (.tuple #[v1, u1, .int .i64 0]) ∧ w'.ownsRow w.heap.size 40 1 v1 q.length (q.map (Value.int .u32)) ∧ w'.ownsRow w.heap.size 40 1 u1 r.length (r.map (Value.int .u32)) ∧ Wd q ∧ Wd r ∧ Trimmed q ∧ Trimmed r ∧ val xs = val q * val ys + val r ∧ val r < val ys ∧ Below w.heap.size w w' := by
  have HB := hid (checkBoth_sl v u xs ys w h g (by omega) (by omega))
  rw [both_good (chk_good lx tx) (chk_good ly ty)] at HB
  have HD : Hid (Calls Tryd.prog 77 #[v, u] w (Divided w xs ys)) := divide_any v u xs ys w h g lx ly tx ty h0
  obtain ⟨b, cap', rfl, gr⟩ := g
  have hz : ((ys.length : Int) == 0) = false := by simp; exact fun e => by rw [e] at h0; simp at h0
  clear gr h ty
  go_enter Tryd.func60, Tryd.ntmps60
  go_wp2_with fail
  refine Calls.mono HB.out ?_
  rintro e w' ⟨rfl, rfl⟩
  go_wp2_with fail
  refine Calls.mono HD.out ?_
  rintro e w1 ⟨v1, u1, q, r, c, rfl, oq, orr, _, _, _, _, wq, wr, tq, tr, hv, hlt, hbel⟩
  have HQ := hid oq
  have HR := hid orr
  have HV := hid hv
  have HLT := hid hlt
  clear oq orr hv hlt
  go_wp2
  go_ret3
  exact ⟨v1, u1, q, r, rfl, HQ.out, HR.out, wq, wr, tq, tr, HV.out, HLT.out, hbel⟩

/-- A size and a rest, in new memory. -/
def WParts (w : World) (n : Bool) (xs ys : List Int) (x : Ending) (w' : World) : Prop := ∃ v1 u1 q r, x = .returned (.tuple #[v1, u1]) ∧ w'.ownsRow w.heap.size 40 1 v1 q.length (q.map (Value.int .u32)) ∧ w'.ownsRow w.heap.size 40 1 u1 r.length (r.map (Value.int .u32)) ∧ Wd q ∧ Wd r ∧ Trimmed q ∧ Trimmed r ∧ q.length ≤ 2048 ∧ r.length ≤ 2048 ∧
  val xs = val q * val ys + sg n (val r) ∧ val r < val ys ∧ Below w.heap.size w w'
theorem q_le {x q y r : Int} (h : x = q * y + r) (hy : 1 ≤ y) (hq : 0 ≤ q) (hr : 0 ≤ r) : q ≤ x - r := by
  have : q * 1 ≤ q * y := Int.mul_le_mul_of_nonneg_left hy hq
  omega
theorem val_pos' {zs : List Int} (hw : Wd zs) (ht : Trimmed zs) (h : 0 < zs.length) : 1 ≤ val zs := by
  have h1 := val_ge hw ht h
  have h2 := pw_pos (zs.length - 1)
  omega
theorem below2048 {zs : List Int} (hw : Wd zs) (hl : zs.length ≤ 2048) : val zs < wlim := by
  have h1 := val_lt hw
  have h2 : (4294967296 : Int) ^ zs.length ≤ 4294967296 ^ 2048 := pw_le hl
  unfold wlim
  exact Int.lt_of_lt_of_le h1 h2
theorem short2048 {zs : List Int} (hw : Wd zs) (ht : Trimmed zs) (h : val zs < wlim) : zs.length ≤ 2048 := by
  by_cases c : 2048 < zs.length
  · have := (len2048 hw ht).1 c; omega
  · omega

set_option maxHeartbeats 3200000 in
set_option maxRecDepth 100000 in
theorem wdivide_any (n : Bool) (v : Value) (xs : List Int) (m0 : Bool) (u : Value) (ys : List Int) (w : World) (h : Sl w v xs) (g : Sl w u ys) (lx : xs.length ≤ 2048) (ly : ys.length ≤ 2048) (tx : Trimmed xs) (ty : Trimmed ys) (h0 : 0 < ys.length) :
    Calls Tryd.prog 40 #[.agg #[.bool n, v], .agg #[.bool m0, u]] w (WParts w n xs ys) := by
  have wx := h.wd
  have wy := g.wd
  have HY1 := hid (val_pos' wy ty h0)
  have HXL := hid (below2048 wx lx)
  have HYL := hid (below2048 wy ly)
  obtain ⟨a, cap, rfl, hr⟩ := h
  obtain ⟨b, cap', rfl, gr⟩ := g
  have h : Sl w (.slice a xs.length cap) xs := ⟨a, cap, rfl, hr⟩
  have g : Sl w (.slice b ys.length cap') ys := ⟨b, cap', rfl, gr⟩
  clear hr gr
  have HB : Hid (Below w.heap.size w ((w.alloc (.cells #[.bool n, .slice a xs.length cap] 24)).alloc (.cells #[.bool m0, .slice b ys.length cap'] 24))) := bt (alloc_later _ _) (alloc_later _ _)
  have HN : Hid (Box ((w.alloc (.cells #[.bool n, .slice a xs.length cap] 24)).alloc (.cells #[.bool m0, .slice b ys.length cap'] 24)) w.heap.size 24 #[.bool n, .slice a xs.length cap]) := Box.later (Box.made w _ _) (alloc_later _ _) (by simp)
  have HM : Hid (Box ((w.alloc (.cells #[.bool n, .slice a xs.length cap] 24)).alloc (.cells #[.bool m0, .slice b ys.length cap'] 24)) (w.heap.size + 1) 24 #[.bool m0, .slice b ys.length cap']) := by
    have e := Box.made (w.alloc (.cells #[.bool n, .slice a xs.length cap] 24)) 24 #[.bool m0, .slice b ys.length cap']
    simp at e
    exact e
  have HXS : Hid (w.heap.size ≤ ((w.alloc (.cells #[.bool n, .slice a xs.length cap] 24)).alloc (.cells #[.bool m0, .slice b ys.length cap'] 24)).heap.size) := HB.out.size
  have HD := hid (divMod_own _ _ xs ys _ (h.later HB.out) (g.later HB.out) (by omega) (by omega) tx ty h0)
  have HG := hid (g.later HB.out)
  clear h g
  cases n with
  | false =>
    go_enter Tryd.func40, Tryd.ntmps40
    go_wp2_with fail
    refine Calls.mono HD.out ?_
    rintro e w1 ⟨v1, u1, q, r, rfl, oq, orr, wq, wr, tq, tr, hv, hlt, hb1⟩
    obtain ⟨p0, p1, _, _⟩ := res_box HN.out hb1
    obtain ⟨q0, q1, _, _⟩ := res_box HM.out hb1
    have hq := q_le hv HY1.out (val_nonneg wq) (val_nonneg wr)
    have hr0 := val_nonneg wr
    have HF : Hid (WParts w false xs ys (.returned (.tuple #[v1, u1])) w1) := ⟨v1, u1, q, r, rfl, owns_base oq HXS.out, owns_base orr HXS.out, wq, wr, tq, tr, short2048 wq tq (by have := HXL.out; omega), short2048 wr tr (by have := HYL.out; omega), hv, hlt, bt HB.out hb1⟩
    obtain ⟨a1, k1, hv1⟩ := own_slice' oq
    obtain ⟨a2, k2, hv2⟩ := own_slice' orr
    subst hv1
    subst hv2
    clear oq orr hv hlt hb1 hq hr0
    go_wp2_with fail
    go_ret2
    exact HF.out
  | true =>
    go_enter Tryd.func40, Tryd.ntmps40
    go_wp2_with fail
    refine Calls.mono HD.out ?_
    rintro e w1 ⟨v1, u1, q, r, rfl, oq, orr, wq, wr, tq, tr, hv, hlt, hb1⟩
    obtain ⟨p0, p1, _, _⟩ := res_box HN.out hb1
    obtain ⟨q0, q1, _, _⟩ := res_box HM.out hb1
    have hq := q_le hv HY1.out (val_nonneg wq) (val_nonneg wr)
    have hr0 := val_nonneg wr
    have hq0 := val_nonneg wq
    by_cases hr : r.length = 0
    · have hrn : r = [] := List.eq_nil_of_length_eq_zero hr
      subst hrn
      have HF : Hid (WParts w true xs ys (.returned (.tuple #[v1, u1])) w1) := ⟨v1, u1, q, [], rfl, owns_base oq HXS.out, owns_base orr HXS.out, wq, wr, tq, tr, short2048 wq tq (by have := HXL.out; omega), by simp, by rw [hv]; rfl, hlt, bt HB.out hb1⟩
      obtain ⟨a1, k1, hv1⟩ := own_slice' oq
      obtain ⟨a2, k2, hv2⟩ := own_slice' orr
      subst hv1
      subst hv2
      clear oq orr hv hlt hb1 hq hr0 hr
      go_wp2_with fail
      go_ret2
      exact HF.out
    · have hr1 := val_pos' wr tr (by omega)
      have hrb : ((r.length : Int) == 0) = false := by simp; exact fun e => hr (by rw [e]; rfl)
      have lq : q.length ≤ 2048 := short2048 wq tq (by have := HXL.out; omega)
      have lr : r.length ≤ 2048 := short2048 wr tr (by have := HYL.out; omega)
      have HQ := hid (Sl.own oq wq)
      have HR := hid (Sl.own orr wr)
      obtain ⟨a1, k1, hv1⟩ := own_slice' oq
      obtain ⟨a2, k2, hv2⟩ := own_slice' orr
      subst hv1
      subst hv2
      have HOF := hid (of_any 1 w1 (by omega) (by omega))
      have HB1 := hid hb1
      have HVL := hid (And.intro hv (And.intro hlt (And.intro hq (And.intro hr0 (And.intro hq0 hr1)))))
      clear oq orr hv hlt hb1 hq hr0 hq0 hr1 hr HD
      go_wp2_with fail
      refine Calls.mono HOF.out ?_
      rintro e w2 ⟨v2, rfl, o2, hb2⟩
      have s2 := Sl.own (owns_len o2) (of_wd 1 (by omega) (by omega)).trimmed
      have e2 : trimmed [1 % 4294967296, 1 / 4294967296] = [1] := by decide
      rw [e2] at s2
      have HAD := hid (add_sl _ _ q [1] w2 (HQ.out.later hb2) s2 (by omega) (by simp))
      rw [both_good (chk_good (by omega) tq) (chk_good (by simp) (show Trimmed [1] from rfl)), val_one] at HAD
      have HB2 := hid (bt HB1.out hb2)
      have HR2 := hid (HR.out.later hb2)
      clear o2 hb2 s2 e2 HOF HR HQ p0 p1 q0 q1
      go_wp2_with fail
      refine Calls.mono HAD.out ?_
      rintro e w3 ⟨v3, z3, c3, rfl, o3, t3, hb3⟩
      have hw3 : val q + 1 < wide := by have := HVL.out; have := HXL.out; have := wide2048; omega
      obtain ⟨rfl, hv3⟩ := t3.good rfl hw3
      have w3' := t3.wd
      have tt3 := t3.trim
      obtain ⟨a3, k3, hs3⟩ := own_slice' o3
      subst hs3
      obtain ⟨q0, q1, _, _⟩ := res_box HM.out (bt HB2.out hb3)
      have HSB := hid (sub_sl _ _ ys r w3 ((HG.out.later HB2.out).later hb3) (HR2.out.later hb3) (by omega) (by omega))
      rw [if_pos (both_good (chk_good (by omega) ty) (chk_good (by omega) tr)), if_neg (by have := HVL.out.2.1; omega)] at HSB
      have HB3 := hid (bt HB2.out hb3)
      have HO3 := hid o3
      have HV3 := hid hv3
      clear o3 t3 hb3 hv3 hw3 HAD HR2
      go_wp2_with fail
      refine Calls.mono HSB.out ?_
      rintro e w4 ⟨v4, z4, c4, rfl, o4, t4, hb4⟩
      have hw4 : val ys - val r < wide := by have := HVL.out; have := HYL.out; have := wide2048; omega
      obtain ⟨rfl, hv4⟩ := t4.good rfl hw4
      have w4' := t4.wd
      have tt4 := t4.trim
      obtain ⟨a4, k4, hs4⟩ := own_slice' o4
      subst hs4
      have HF : Hid (WParts w true xs ys (.returned (.tuple #[.slice a3 z3.length k3, .slice a4 z4.length k4])) w4) := by
        obtain ⟨g1, g2, g3, g4, g5, g6⟩ := HVL.out
        refine ⟨_, _, z3, z4, rfl, owns_base (owns_later HO3.out hb4) (by have := HXS.out; have := HB2.out.size; omega), owns_base o4 (by have := HXS.out; have := HB3.out.size; omega), w3', w4', tt3, tt4, short2048 w3' tt3 (by rw [HV3.out]; have := HXL.out; omega), short2048 w4' tt4 (by rw [hv4]; have := HYL.out; omega), ?_, by rw [hv4]; omega, bt HB.out (bt HB3.out hb4)⟩
        rw [HV3.out, hv4, Int.add_mul, Int.one_mul]
        show _ = _ + -(val ys - val r)
        omega
      clear o4 t4 hb4 hv4 hw4 HSB q0 q1
      go_wp2_with fail
      go_ret2
      exact HF.out

/-- Quotient and rest of whole numbers, in new memory. -/
def WDiv (w : World) (X Y : Int) (x : Ending) (w' : World) : Prop := ∃ nq vq zq vr zr, x = .returned (.tuple #[.agg #[.bool nq, vq], .agg #[.bool false, vr], .int .i64 0]) ∧ w'.ownsRow w.heap.size 40 1 vq zq.length (zq.map (Value.int .u32)) ∧ w'.ownsRow w.heap.size 40 1 vr zr.length (zr.map (Value.int .u32)) ∧ Wd zq ∧ Wd zr ∧ Trimmed zq ∧ Trimmed zr ∧ zq.length ≤ 2048 ∧ zr.length ≤ 2048 ∧ (nq = false ∨ 0 < zq.length) ∧
  X = wval nq zq * Y + val zr ∧ val zr < (Y.natAbs : Int) ∧ Below w.heap.size w w'
theorem div_sign {n m : Bool} {x y q r : Int} (h : x = q * y + sg n r) : sg n x = sg (n != m) q * sg m y + r := by
  cases n <;> cases m <;> simp [sg, Int.neg_mul, Int.mul_neg] at * <;> omega

set_option maxHeartbeats 3200000 in
set_option maxRecDepth 100000 in
theorem wdivMod_any (n : Bool) (v : Value) (xs : List Int) (m0 : Bool) (u : Value) (ys : List Int) (w : World) (h : Sl w v xs) (g : Sl w u ys) (hx : wchk n xs = 0) (hy : wchk m0 ys = 0) (h0 : 0 < ys.length) :
    Calls Tryd.prog 19 #[.agg #[.bool n, v], .agg #[.bool m0, u]] w (WDiv w (wval n xs) (wval m0 ys)) := by
  obtain ⟨lx, tx, _⟩ := wchk_ok hx
  obtain ⟨ly, ty, _⟩ := wchk_ok hy
  have wx := h.wd
  have wy := g.wd
  obtain ⟨a, cap, rfl, hr⟩ := h
  obtain ⟨b, cap', rfl, gr⟩ := g
  have h : Sl w (.slice a xs.length cap) xs := ⟨a, cap, rfl, hr⟩
  have g : Sl w (.slice b ys.length cap') ys := ⟨b, cap', rfl, gr⟩
  clear hr gr
  have HB : Hid (Below w.heap.size w ((((w.alloc (.cells #[.bool n, .slice a xs.length cap] 24)).alloc (.cells #[.bool m0, .slice b ys.length cap'] 24)).alloc (.cells #[.bool false, .slice none 0 0] 24)).alloc (.cells #[.bool false, .slice none 0 0] 24))) := bt (bt (bt (alloc_later _ _) (alloc_later _ _)) (alloc_later _ _)) (alloc_later _ _)
  have HN : Hid (Box ((((w.alloc (.cells #[.bool n, .slice a xs.length cap] 24)).alloc (.cells #[.bool m0, .slice b ys.length cap'] 24)).alloc (.cells #[.bool false, .slice none 0 0] 24)).alloc (.cells #[.bool false, .slice none 0 0] 24)) w.heap.size 24 #[.bool n, .slice a xs.length cap]) := Box.later (Box.made w _ _) (bt (bt (alloc_later _ _) (alloc_later _ _)) (alloc_later _ _)) (by simp)
  have HM : Hid (Box ((((w.alloc (.cells #[.bool n, .slice a xs.length cap] 24)).alloc (.cells #[.bool m0, .slice b ys.length cap'] 24)).alloc (.cells #[.bool false, .slice none 0 0] 24)).alloc (.cells #[.bool false, .slice none 0 0] 24)) (w.heap.size + 1) 24 #[.bool m0, .slice b ys.length cap']) := by
    have e := Box.later (Box.made (w.alloc (.cells #[.bool n, .slice a xs.length cap] 24)) 24 #[.bool m0, .slice b ys.length cap']) (bt (alloc_later ((w.alloc (.cells #[.bool n, .slice a xs.length cap] 24)).alloc (.cells #[.bool m0, .slice b ys.length cap'] 24)) (.cells #[.bool false, .slice none 0 0] 24)) (alloc_later _ (.cells #[.bool false, .slice none 0 0] 24))) (by simp)
    simp at e
    exact e
  have HZ1 : Hid (Box ((((w.alloc (.cells #[.bool n, .slice a xs.length cap] 24)).alloc (.cells #[.bool m0, .slice b ys.length cap'] 24)).alloc (.cells #[.bool false, .slice none 0 0] 24)).alloc (.cells #[.bool false, .slice none 0 0] 24)) (w.heap.size + 1 + 1) 24 #[.bool false, .slice none 0 0]) := by
    have e := Box.later (Box.made ((w.alloc (.cells #[.bool n, .slice a xs.length cap] 24)).alloc (.cells #[.bool m0, .slice b ys.length cap'] 24)) 24 #[.bool false, .slice none 0 0]) (alloc_later (((w.alloc (.cells #[.bool n, .slice a xs.length cap] 24)).alloc (.cells #[.bool m0, .slice b ys.length cap'] 24)).alloc (.cells #[.bool false, .slice none 0 0] 24)) (.cells #[.bool false, .slice none 0 0] 24)) (by simp)
    simp at e
    exact e
  have HZ2 : Hid (Box ((((w.alloc (.cells #[.bool n, .slice a xs.length cap] 24)).alloc (.cells #[.bool m0, .slice b ys.length cap'] 24)).alloc (.cells #[.bool false, .slice none 0 0] 24)).alloc (.cells #[.bool false, .slice none 0 0] 24)) (w.heap.size + 1 + 1 + 1) 24 #[.bool false, .slice none 0 0]) := by
    have e := Box.made (((w.alloc (.cells #[.bool n, .slice a xs.length cap] 24)).alloc (.cells #[.bool m0, .slice b ys.length cap'] 24)).alloc (.cells #[.bool false, .slice none 0 0] 24)) 24 #[.bool false, .slice none 0 0]
    simp at e
    exact e
  have HXS : Hid (w.heap.size + 1 + 1 + 1 < ((((w.alloc (.cells #[.bool n, .slice a xs.length cap] 24)).alloc (.cells #[.bool m0, .slice b ys.length cap'] 24)).alloc (.cells #[.bool false, .slice none 0 0] 24)).alloc (.cells #[.bool false, .slice none 0 0] 24)).heap.size) := HZ2.out.lt
  have HCB := hid (wcheckBoth_any n _ xs m0 _ ys _ (h.later HB.out) (g.later HB.out) (by omega) (by omega))
  rw [wboth_good hx hy] at HCB
  have HIN := hid (fun w1 (hb : Below _ ((((w.alloc (.cells #[.bool n, .slice a xs.length cap] 24)).alloc (.cells #[.bool m0, .slice b ys.length cap'] 24)).alloc (.cells #[.bool false, .slice none 0 0] 24)).alloc (.cells #[.bool false, .slice none 0 0] 24)) w1) => wdivide_any n _ xs m0 _ ys w1 ((h.later HB.out).later hb) ((g.later HB.out).later hb) lx ly tx ty h0)
  have hyb : ((ys.length : Int) == 0) = false := by simp; exact fun e => by rw [e] at h0; simp at h0
  clear h g hx hy
  go_enter Tryd.func19, Tryd.ntmps19
  go_wp2_with fail
  refine Calls.mono HCB.out ?_
  rintro e w1 ⟨rfl, hb1⟩
  obtain ⟨p0, p1, _, _⟩ := res_box HN.out hb1
  obtain ⟨q0, q1, _, _⟩ := res_box HM.out hb1
  have HIN1 := hid (HIN.out w1 hb1)
  have HB1 := hid hb1
  clear hb1 HIN
  go_wp2_with fail
  refine Calls.mono HIN1.out ?_
  rintro e w2 ⟨v1, u1, q, r, rfl, oq, orr, wq, wr, tq, tr, lq, lr, hv, hlt, hb2⟩
  obtain ⟨a1, k1, hs1⟩ := own_slice' oq
  obtain ⟨a2, k2, hs2⟩ := own_slice' orr
  subst hs1
  subst hs2
  have HB2 := hid (bt HB1.out hb2)
  obtain ⟨p0, p1, _, _⟩ := res_box HN.out HB2.out
  obtain ⟨q0, q1, _, _⟩ := res_box HM.out HB2.out
  have HU := hid (wunlike_any n a xs.length cap m0 b ys.length cap' w2)
  have HOQ := hid (owns_base oq HB1.out.size)
  have HOR := hid (owns_base orr HB1.out.size)
  have HVV := hid (And.intro hv hlt)
  obtain ⟨sn, hsn⟩ : ∃ sn, (n != m0) = sn := ⟨_, rfl⟩
  rw [hsn] at HU
  have HSN := hid hsn
  clear oq orr hv hlt hb2 hsn HIN1
  go_wp2_with fail
  refine Calls.mono HU.out ?_
  rintro e w3 ⟨rfl, hb3⟩
  have HF1 := hid (formed_any sn a1 q.length k1 w3)
  have HB3 := hid (bt HB2.out hb3)
  have HOQ3 := hid (owns_later HOQ.out hb3)
  have HOR3 := hid (owns_later HOR.out hb3)
  obtain ⟨nb, hnb⟩ : ∃ nb, (sn && decide (0 < q.length)) = nb := ⟨_, rfl⟩
  rw [hnb] at HF1
  have HNB := hid hnb
  clear hb3 hnb p0 p1 q0 q1 HU HOQ HOR
  go_wp2_with fail
  refine Calls.mono HF1.out ?_
  rintro e w4 ⟨rfl, hb4⟩
  have HF2 := hid (formed_any false a2 r.length k2 w4)
  have HB4 := hid (bt HB3.out hb4)
  have HOQ4 := hid (owns_later HOQ3.out hb4)
  have HOR4 := hid (owns_later HOR3.out hb4)
  rw [Bool.false_and] at HF2
  clear hb4 HF1 HOQ3 HOR3
  go_wp2_with fail
  refine Calls.mono HF2.out ?_
  rintro e w5 ⟨rfl, hb5⟩
  obtain ⟨r0, r1, f0, f1⟩ := res_box HZ1.out (bt HB4.out hb5)
  obtain ⟨s0, s1, g0, g1⟩ := res_box HZ2.out (bt HB4.out hb5)
  have HOQ5 := hid (owns_later HOQ4.out hb5)
  have HOR5 := hid (owns_later HOR4.out hb5)
  have HB5 := hid (bt HB.out (bt HB4.out hb5))
  clear hb5 HF2 HOQ4 HOR4
  go_wp2_with fail
  refine bodyPost_ret (v := .tuple #[.agg #[.bool nb, .slice a1 q.length k1], .agg #[.bool false, .slice a2 r.length k2], .int .i64 0]) (by simp [results, Tryd.results19, go_sem, r0, r1, s0, s1]) rfl ?_
  have hge : ∀ (z : Value) (zs : List Int), w5.ownsRow ((((w.alloc (.cells #[.bool n, .slice a xs.length cap] 24)).alloc (.cells #[.bool m0, .slice b ys.length cap'] 24)).alloc (.cells #[.bool false, .slice none 0 0] 24)).alloc (.cells #[.bool false, .slice none 0 0] 24)).heap.size 40 1 z zs.length (zs.map (Value.int .u32)) → ∀ g, z.ownBlock = some g → g ≠ w.heap.size + 1 + 1 ∧ g ≠ w.heap.size + 1 + 1 + 1 := fun z zs ho g hg => by
    have h1 := (World.ownsRow.lt ho g hg).1
    have h2 := HXS.out
    omega
  have hwn : wval nb q = sg sn (val q) := by
    rw [← HNB.out]
    unfold wval sg
    cases sn with
    | false => rfl
    | true =>
      by_cases c : 0 < q.length
      · simp [c]
      · have e0 : val q = 0 := trimmed_zero' (by omega)
        simp [c, e0]
  refine ⟨nb, _, q, _, r, rfl, owns_base (own_put2 (own_put2 HOQ5.out _ (fun g hg => (hge _ q HOQ5.out g hg).1) _ _) _ (fun g hg => (hge _ q HOQ5.out g hg).2) _ _) (by have := HXS.out; omega), owns_base (own_put2 (own_put2 HOR5.out _ (fun g hg => (hge _ r HOR5.out g hg).1) _ _) _ (fun g hg => (hge _ r HOR5.out g hg).2) _ _) (by have := HXS.out; omega), wq, wr, tq, tr, lq, lr, ?_, ?_, ?_, below_put2 (below_put2 HB5.out _ (by omega) _ _) _ (by omega) _ _⟩
  · rw [← HNB.out]
    by_cases c : 0 < q.length
    · exact .inr c
    · left; simp [c]
  · rw [hwn, ← HSN.out]
    exact div_sign HVV.out.1
  · have e1 := HVV.out.2
    have e2 := val_nonneg wy
    unfold wval
    cases m0 <;> simp <;> omega
end Go.Proofs.YtbcangblmadnpacDoor
