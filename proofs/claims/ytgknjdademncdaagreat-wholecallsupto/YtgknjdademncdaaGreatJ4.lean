/- My texts on the way to WholeCalls, one behind the other: contracts of the program and of the document's answers. -/
import Derived.Test.YtgknjdademncdaaGreatJ3
import Derived.Deep.RegionHeld3
/- The document's DivMod of whole numbers, where no time more is taken: of a number not below 0, or with no rest. -/
namespace Go.Proofs.YtgknjdademncdaaGreat
open Go.RowKit
set_option linter.unusedVariables false

theorem no_sign {k : Bool} {z : List Int} {t : Int} (wz : Wd z) (tz : Trimmed z) (s : k = false ∨ 0 < z.length) (h : wval k z = t) (h0 : 0 ≤ t) : k = false ∧ val z = t := by
  cases k with
  | false => exact ⟨rfl, h⟩
  | true =>
    have := val_pos' wz tz (by rcases s with e | e; · cases e
                               · exact e)
    simp [wval] at h
    omega
theorem rest_mod {x y q r : Int} (h : x = q * y + r) (h0 : 0 ≤ r) (h1 : r < y) : r = x % y := by
  rw [h, Int.add_comm, Int.add_mul_emod_self_right, Int.emod_eq_of_lt h0 h1]

theorem wlen5 {k s : Bool} {z z3 : List Int} (w3 : Wd z3) (l3 : z3.length ≤ 2048) (wz : Wd z) (tz : Trimmed z) (h : wval k z = wval s z3) : z.length ≤ 2048 := by
  have h1 := wval_lim (n := s) w3 l3
  exact wnum_short wz tz h h1.1 h1.2
theorem div_f {m : Bool} {xs ys zs rs z3 : List Int} (h : val xs = val zs * val ys + val rs) (h3 : val z3 = val zs) : wval false xs = wval m z3 * wval m ys + val rs := by
  cases m <;> simp [wval, h3, h, Int.neg_mul_neg]
theorem div_t {m : Bool} {xs ys zs rs z3 : List Int} (h : val xs = val zs * val ys + val rs) (h3 : val z3 = val zs) (h0 : val rs = 0) : wval true xs = wval (!m) z3 * wval m ys + val rs := by
  cases m <;> simp [wval, h3, h, h0, Int.neg_mul, Int.mul_neg]
theorem le_trans' {x y z : Nat} (h : x ≤ y) (g : y ≤ z) : x ≤ z := Nat.le_trans h g
theorem quot_lt {xs ys zs rs : List Int} (hv : val xs = val zs * val ys + val rs) (wx : Wd xs) (wz : Wd zs) (wr : Wd rs) (wy : Wd ys) (hlt : val rs < val ys) : val zs < 4294967296 ^ xs.length := by
  have h1 := val_lt wx
  have h2 := val_nonneg wz
  have h3 := val_nonneg wr
  have h4 : val zs * 1 ≤ val zs * val ys := Int.mul_le_mul_of_nonneg_left (by omega) h2
  omega

set_option maxHeartbeats 12800000 in
set_option maxRecDepth 100000 in
theorem refWDivMod_plain (n : Bool) (a : Option Addr) (ca : Nat) (xs : List Int) (m : Bool) (b : Option Addr) (cb : Nat) (ys : List Int) (w : World) (h : Sl w (.slice a xs.length ca) xs) (g : Sl w (.slice b ys.length cb) ys) (hx : wchk n xs = 0) (hy : wchk m ys = 0) (h0 : 0 < ys.length) (hp : n = false ∨ val xs % val ys = 0) :
    Calls Tryz.prog 24 #[.agg #[.bool n, .slice a xs.length ca], .agg #[.bool m, .slice b ys.length cb]] w (WDiv w (wval n xs) (wval m ys)) := by
  obtain ⟨lx, tx, _⟩ := wchk_ok hx
  obtain ⟨ly, ty, _⟩ := wchk_ok hy
  have wx := h.wd
  have wy := g.wd
  have HB : Hid (Below w.heap.size w ((((w.alloc (.cells #[.bool n, .slice a xs.length ca] 24)).alloc (.cells #[.bool m, .slice b ys.length cb] 24)).alloc (.cells #[.bool false, .slice none 0 0] 24)).alloc (.cells #[.bool false, .slice none 0 0] 24))) := bt (bt (bt (alloc_later _ _) (alloc_later _ _)) (alloc_later _ _)) (alloc_later _ _)
  have HN : Hid (Box ((((w.alloc (.cells #[.bool n, .slice a xs.length ca] 24)).alloc (.cells #[.bool m, .slice b ys.length cb] 24)).alloc (.cells #[.bool false, .slice none 0 0] 24)).alloc (.cells #[.bool false, .slice none 0 0] 24)) w.heap.size 24 #[.bool n, .slice a xs.length ca]) := Box.later (Box.made w _ _) (bt (bt (alloc_later _ _) (alloc_later _ _)) (alloc_later _ _)) (by simp)
  have HM : Hid (Box ((((w.alloc (.cells #[.bool n, .slice a xs.length ca] 24)).alloc (.cells #[.bool m, .slice b ys.length cb] 24)).alloc (.cells #[.bool false, .slice none 0 0] 24)).alloc (.cells #[.bool false, .slice none 0 0] 24)) (w.heap.size + 1) 24 #[.bool m, .slice b ys.length cb]) := by
    have e := Box.later (Box.made (w.alloc (.cells #[.bool n, .slice a xs.length ca] 24)) 24 #[.bool m, .slice b ys.length cb]) (bt (alloc_later ((w.alloc (.cells #[.bool n, .slice a xs.length ca] 24)).alloc (.cells #[.bool m, .slice b ys.length cb] 24)) (.cells #[.bool false, .slice none 0 0] 24)) (alloc_later _ (.cells #[.bool false, .slice none 0 0] 24))) (by simp)
    simp at e
    exact e
  have HZ1 : Hid (Box ((((w.alloc (.cells #[.bool n, .slice a xs.length ca] 24)).alloc (.cells #[.bool m, .slice b ys.length cb] 24)).alloc (.cells #[.bool false, .slice none 0 0] 24)).alloc (.cells #[.bool false, .slice none 0 0] 24)) (w.heap.size + 1 + 1) 24 #[.bool false, .slice none 0 0]) := by
    have e := Box.later (Box.made ((w.alloc (.cells #[.bool n, .slice a xs.length ca] 24)).alloc (.cells #[.bool m, .slice b ys.length cb] 24)) 24 #[.bool false, .slice none 0 0]) (alloc_later (((w.alloc (.cells #[.bool n, .slice a xs.length ca] 24)).alloc (.cells #[.bool m, .slice b ys.length cb] 24)).alloc (.cells #[.bool false, .slice none 0 0] 24)) (.cells #[.bool false, .slice none 0 0] 24)) (by simp)
    simp at e
    exact e
  have HZ2 : Hid (Box ((((w.alloc (.cells #[.bool n, .slice a xs.length ca] 24)).alloc (.cells #[.bool m, .slice b ys.length cb] 24)).alloc (.cells #[.bool false, .slice none 0 0] 24)).alloc (.cells #[.bool false, .slice none 0 0] 24)) (w.heap.size + 1 + 1 + 1) 24 #[.bool false, .slice none 0 0]) := by
    have e := Box.made (((w.alloc (.cells #[.bool n, .slice a xs.length ca] 24)).alloc (.cells #[.bool m, .slice b ys.length cb] 24)).alloc (.cells #[.bool false, .slice none 0 0] 24)) 24 #[.bool false, .slice none 0 0]
    simp at e
    exact e
  have hXs : ((((w.alloc (.cells #[.bool n, .slice a xs.length ca] 24)).alloc (.cells #[.bool m, .slice b ys.length cb] 24)).alloc (.cells #[.bool false, .slice none 0 0] 24)).alloc (.cells #[.bool false, .slice none 0 0] 24)).heap.size = w.heap.size + 4 := by simp
  have HS := hid (And.intro (h.later HB.out) (g.later HB.out))
  have HC := hid (refWBoth_any n _ xs m _ ys _ HS.out.1 HS.out.2 (by omega) (by omega))
  rw [wboth_good hx hy] at HC
  have h0' : ((ys.length : Int) == 0) = false := beq_eq_false_iff_ne.2 (by omega)
  have HT := hid (And.intro tx (And.intro ty (And.intro wx (And.intro wy (And.intro h0 hp)))))
  have hnc : n = false ∨ n = true := by cases n <;> simp
  clear h g hx hy tx ty wx wy hp h0
  rcases hnc with rfl | rfl
  · go_enter Tryz.func24, Tryz.ntmps24
    go_wp2_with fail
    refine Calls.mono HC.out ?_
    generalize ((((w.alloc (.cells #[.bool false, .slice a xs.length ca] 24)).alloc (.cells #[.bool m, .slice b ys.length cb] 24)).alloc (.cells #[.bool false, .slice none 0 0] 24)).alloc (.cells #[.bool false, .slice none 0 0] 24)) = X at *
    rintro e w1 ⟨rfl, hb1⟩
    have HX3 : Hid (w.heap.size ≤ X.heap.size) := HB.out.size
    obtain ⟨p0, p1, _, _⟩ := (HN.out.later hb1 HN.out.lt).c2
    obtain ⟨q0, q1, _, _⟩ := (HM.out.later hb1 HM.out.lt).c2
    have HO := hid (refOver_any _ _ xs ys w1 (HS.out.1.later hb1) (HS.out.2.later hb1) (by omega) (by omega) HT.out.1 HT.out.2.1 HT.out.2.2.2.2.1)
    have HB1 := hid hb1
    clear hb1 HC HS
    go_wp2_with fail
    refine Calls.mono HO.out ?_
    rintro e w2 ⟨v1, zs, v2, rs, rfl, o1, o2, wz, wr, tz, tr, hv, hlt, hb2⟩
    obtain ⟨a1, c1, hs1⟩ := own_slice' o1
    subst hs1
    obtain ⟨a2, c2, hs2⟩ := own_slice' o2
    subst hs2
    have HVV := hid (And.intro hv (And.intro hlt (And.intro wz (And.intro wr (And.intro tz tr)))))
    have lz : zs.length ≤ 2048 := le_trans' (len_of_lt wz tz (quot_lt hv HT.out.2.2.1 wz wr HT.out.2.2.2.1 hlt)) (by omega)
    have lr : rs.length ≤ 2048 := le_trans' (len_of_lt wr tr (Int.lt_trans hlt (val_lt HT.out.2.2.2.1))) (by omega)
    have HMD1 := hid (made_num false _ zs w2 (Sl.own o1 wz) (by omega))
    have HO2 := hid o2
    have HB2 := hid (bt HB1.out hb2)
    clear o1 o2 wz wr tz tr hv hlt hb2 HO p0 p1 q0 q1 HB1
    go_wp2_with fail
    refine Calls.mono HMD1.out ?_
    rintro e w3 ⟨k3, v3, z3, rfl, o3, wz3, tz3, s3, vz3, hb3⟩
    obtain ⟨a3, c3, hs3⟩ := own_slice' o3
    subst hs3
    obtain ⟨hk3, hz3⟩ := no_sign wz3 tz3 s3 vz3 (val_nonneg HVV.out.2.2.1)
    subst hk3
    have HMD2 := hid (made_num false _ rs w3 (Sl.own (owns_later HO2.out hb3) HVV.out.2.2.2.1) (by omega))
    have HO3 := hid (And.intro o3 (And.intro wz3 (And.intro tz3 hz3)))
    have HB3 := hid (bt HB2.out hb3)
    have HW3 : Hid (w.heap.size ≤ w3.heap.size) := Nat.le_trans HX3.out HB3.out.size
    clear o3 wz3 tz3 s3 vz3 hz3 hb3 HMD1 HO2 HB2
    go_wp2_with fail
    refine Calls.mono HMD2.out ?_
    rintro e w4 ⟨k4, v4, z4, rfl, o4, wz4, tz4, s4, vz4, hb4⟩
    obtain ⟨a4, c4, hs4⟩ := own_slice' o4
    subst hs4
    obtain ⟨hk4, hz4⟩ := no_sign wz4 tz4 s4 vz4 (val_nonneg HVV.out.2.2.2.1)
    subst hk4
    have HO4 := hid (And.intro (owns_later HO3.out.1 hb4) (And.intro o4 (And.intro wz4 (And.intro tz4 hz4))))
    have HB4 := hid (bt HB3.out hb4)
    have l3 : z3.length ≤ 2048 := le_trans' (len_of_lt HO3.out.2.1 HO3.out.2.2.1 (by rw [HO3.out.2.2.2]; exact val_lt HVV.out.2.2.1)) lz
    have l4 : z4.length ≤ 2048 := le_trans' (len_of_lt wz4 tz4 (by rw [hz4]; exact val_lt HVV.out.2.2.2.1)) lr
    have HVb : Hid (Below w4.heap.size w4 ((w4.alloc (.cells #[.bool false, .slice a3 z3.length c3] 24)).alloc (.cells #[.bool false, .slice a4 z4.length c4] 24))) := bt (alloc_later _ _) (alloc_later _ _)
    have HQb : Hid (Box ((w4.alloc (.cells #[.bool false, .slice a3 z3.length c3] 24)).alloc (.cells #[.bool false, .slice a4 z4.length c4] 24)) w4.heap.size 24 #[.bool false, .slice a3 z3.length c3]) := Box.later (Box.made w4 _ _) (alloc_later _ _) (by simp)
    have HRb : Hid (Box ((w4.alloc (.cells #[.bool false, .slice a3 z3.length c3] 24)).alloc (.cells #[.bool false, .slice a4 z4.length c4] 24)) (w4.heap.size + 1) 24 #[.bool false, .slice a4 z4.length c4]) := by
      have e := Box.made (w4.alloc (.cells #[.bool false, .slice a3 z3.length c3] 24)) 24 #[.bool false, .slice a4 z4.length c4]
      simp at e
      exact e
    have HBV := hid (bt HB4.out HVb.out)
    have HNV := hid (HN.out.later HBV.out HN.out.lt)
    have HMV := hid (HM.out.later HBV.out HM.out.lt)
    have HZ1V := hid (HZ1.out.later HBV.out HZ1.out.lt)
    have HZ2V := hid (HZ2.out.later HBV.out HZ2.out.lt)
    have HOV := hid (And.intro (owns_later HO4.out.1 HVb.out) (owns_later HO4.out.2.1 HVb.out))
    have HMD3 := hid (made_num m _ z3 ((w4.alloc (.cells #[.bool false, .slice a3 z3.length c3] 24)).alloc (.cells #[.bool false, .slice a4 z4.length c4] 24)) (Sl.own HOV.out.1 HO3.out.2.1) (by omega))
    have HX4 := hid (HB4.out.size)
    have HR4 := hid (And.intro HO4.out.2.2.1 (And.intro HO4.out.2.2.2.1 HO4.out.2.2.2.2))
    obtain ⟨g0, g1, _, _⟩ := (HN.out.later HB4.out HN.out.lt).c2
    obtain ⟨g2, g3, _, _⟩ := (HM.out.later HB4.out HM.out.lt).c2
    clear o4 wz4 tz4 s4 vz4 hz4 hb4 HMD2 HB3 HB4 HO4 HVb HN HM HZ1 HZ2
    obtain ⟨p0, p1, _, _⟩ := HNV.out.c2
    obtain ⟨q0, q1, _, _⟩ := HMV.out.c2
    go_wp2_with fail
    refine Calls.mono HMD3.out ?_
    generalize ((w4.alloc (.cells #[.bool false, .slice a3 z3.length c3] 24)).alloc (.cells #[.bool false, .slice a4 z4.length c4] 24)) = U at *
    rintro e w5 ⟨k5, v5, z5, rfl, o5, wz5, tz5, s5, vz5, hb5⟩
    obtain ⟨a5, c5, hs5⟩ := own_slice' o5
    subst hs5
    have HQ5 := hid (HQb.out.later hb5 HQb.out.lt)
    have HR5 := hid (HRb.out.later hb5 HRb.out.lt)
    have HZ15 := hid (HZ1V.out.later hb5 HZ1V.out.lt)
    have HZ25 := hid (HZ2V.out.later hb5 HZ2V.out.lt)
    have HO5 := hid (owns_base o5 (Nat.le_trans HX3.out HBV.out.size))
    have HP5 := hid (owns_base (owns_later HOV.out.2 hb5) HW3.out)
    have HB5 := hid (bt HB.out (bt HBV.out hb5))
    have l5 : z5.length ≤ 2048 := wlen5 HO3.out.2.1 l3 wz5 tz5 vz5
    have hl5 : ¬ (2048 : Int) < (z5.length : Int) := by omega
    have HV5 := hid (And.intro wz5 (And.intro tz5 (And.intro s5 vz5)))
    obtain ⟨y0, y1, yf0, yf1⟩ := HQ5.out.c2
    have HBp := hid (HQ5.out.put2 (.bool k5) (.slice a5 z5.length c5))
    obtain ⟨u0, u1, uf0, uf1⟩ := HBp.out.c2
    have hn1 : w4.heap.size + 1 ≠ w4.heap.size := by omega
    have hn2 : w.heap.size + 1 + 1 ≠ w4.heap.size := by have := HX4.out; omega
    have hn3 : w.heap.size + 1 + 1 + 1 ≠ w4.heap.size := by have := HX4.out; omega
    have HRp := hid (HR5.out.far2 hn1 (.bool k5) (.slice a5 z5.length c5))
    obtain ⟨t0, t1, tf0, tf1⟩ := HRp.out.c2
    have HZ1p := hid (HZ15.out.far2 hn2 (.bool k5) (.slice a5 z5.length c5))
    obtain ⟨r0, r1, rf0, rf1⟩ := HZ1p.out.c2
    have HZ2p := hid (HZ25.out.far2 hn3 (.bool k5) (.slice a5 z5.length c5))
    obtain ⟨s0, s1, sf0, sf1⟩ := HZ2p.out.c2
    have HOF := hid (own_put2 (own_put2 (own_put2 HO5.out w4.heap.size (own_ne_box HO5.out HQ5.out (by decide)) (.bool k5) (.slice a5 z5.length c5)) (w.heap.size + 1 + 1) (own_ne_box HO5.out HZ15.out (by decide)) (.bool k5) (.slice a5 z5.length c5)) (w.heap.size + 1 + 1 + 1) (own_ne_box HO5.out HZ25.out (by decide)) (.bool false) (.slice a4 z4.length c4))
    have HPF := hid (own_put2 (own_put2 (own_put2 HP5.out w4.heap.size (own_ne_box HP5.out HQ5.out (by decide)) (.bool k5) (.slice a5 z5.length c5)) (w.heap.size + 1 + 1) (own_ne_box HP5.out HZ15.out (by decide)) (.bool k5) (.slice a5 z5.length c5)) (w.heap.size + 1 + 1 + 1) (own_ne_box HP5.out HZ25.out (by decide)) (.bool false) (.slice a4 z4.length c4))
    have HBF := hid (below_put2 (below_put2 (below_put2 HB5.out w4.heap.size (by have := HX4.out; omega) (.bool k5) (.slice a5 z5.length c5)) (w.heap.size + 1 + 1) (by omega) (.bool k5) (.slice a5 z5.length c5)) (w.heap.size + 1 + 1 + 1) (by omega) (.bool false) (.slice a4 z4.length c4))
    clear o5 wz5 tz5 s5 vz5 hb5 HMD3 HQ5 HR5 HZ15 HZ25 HO5 HP5 HB5 HBp HRp HZ1p HZ2p HQb HRb HBV HNV HMV HZ1V HZ2V HOV p0 p1 q0 q1 g0 g1 g2 g3
    have hn4 : w4.heap.size + 1 ≠ w.heap.size + 1 + 1 := by have := HX4.out; omega
    have hn5 : w.heap.size + 1 + 1 ≠ w4.heap.size + 1 := by have := HX4.out; omega
    go_wp2_with fail
    go_region
    go_wp2_with fail
    refine bodyPost_ret (v := .tuple #[.agg #[.bool k5, .slice a5 z5.length c5], .agg #[.bool false, .slice a4 z4.length c4], .int .i64 0]) (by simp [results, Tryz.results24, go_sem, r0, r1, s0, s1]) rfl ?_
    refine ⟨k5, _, z5, _, z4, rfl, owns_later HOF.out (Below.drew (Below.refl _ _)), owns_later HPF.out (Below.drew (Below.refl _ _)), HV5.out.1, HR4.out.1, HV5.out.2.1, HR4.out.2.1, l5, l4, HV5.out.2.2.1, ?_, ?_, HBF.out.drew⟩
    · have e1 := HVV.out.1
      have e2 := HR4.out.2.2
      have e3 := HO3.out.2.2.2
      rw [HV5.out.2.2.2, e2]
      exact div_f e1 e3
    · have e1 := HVV.out.2.1
      have e2 := val_nonneg HT.out.2.2.2.1
      rw [HR4.out.2.2]
      unfold wval
      cases m <;> simp <;> omega
  · go_enter Tryz.func24, Tryz.ntmps24
    go_wp2_with fail
    refine Calls.mono HC.out ?_
    generalize ((((w.alloc (.cells #[.bool true, .slice a xs.length ca] 24)).alloc (.cells #[.bool m, .slice b ys.length cb] 24)).alloc (.cells #[.bool false, .slice none 0 0] 24)).alloc (.cells #[.bool false, .slice none 0 0] 24)) = X at *
    rintro e w1 ⟨rfl, hb1⟩
    have HX3 : Hid (w.heap.size ≤ X.heap.size) := HB.out.size
    obtain ⟨p0, p1, _, _⟩ := (HN.out.later hb1 HN.out.lt).c2
    obtain ⟨q0, q1, _, _⟩ := (HM.out.later hb1 HM.out.lt).c2
    have HO := hid (refOver_any _ _ xs ys w1 (HS.out.1.later hb1) (HS.out.2.later hb1) (by omega) (by omega) HT.out.1 HT.out.2.1 HT.out.2.2.2.2.1)
    have HB1 := hid hb1
    clear hb1 HC HS
    go_wp2_with fail
    refine Calls.mono HO.out ?_
    rintro e w2 ⟨v1, zs, v2, rs, rfl, o1, o2, wz, wr, tz, tr, hv, hlt, hb2⟩
    obtain ⟨a1, c1, hs1⟩ := own_slice' o1
    subst hs1
    obtain ⟨a2, c2, hs2⟩ := own_slice' o2
    subst hs2
    have HVV := hid (And.intro hv (And.intro hlt (And.intro wz (And.intro wr (And.intro tz tr)))))
    have lz : zs.length ≤ 2048 := le_trans' (len_of_lt wz tz (quot_lt hv HT.out.2.2.1 wz wr HT.out.2.2.2.1 hlt)) (by omega)
    have lr : rs.length ≤ 2048 := le_trans' (len_of_lt wr tr (Int.lt_trans hlt (val_lt HT.out.2.2.2.1))) (by omega)
    have HMD1 := hid (made_num false _ zs w2 (Sl.own o1 wz) (by omega))
    have HO2 := hid o2
    have HB2 := hid (bt HB1.out hb2)
    clear o1 o2 wz wr tz tr hv hlt hb2 HO p0 p1 q0 q1 HB1
    go_wp2_with fail
    refine Calls.mono HMD1.out ?_
    rintro e w3 ⟨k3, v3, z3, rfl, o3, wz3, tz3, s3, vz3, hb3⟩
    obtain ⟨a3, c3, hs3⟩ := own_slice' o3
    subst hs3
    obtain ⟨hk3, hz3⟩ := no_sign wz3 tz3 s3 vz3 (val_nonneg HVV.out.2.2.1)
    subst hk3
    have HMD2 := hid (made_num false _ rs w3 (Sl.own (owns_later HO2.out hb3) HVV.out.2.2.2.1) (by omega))
    have HO3 := hid (And.intro o3 (And.intro wz3 (And.intro tz3 hz3)))
    have HB3 := hid (bt HB2.out hb3)
    have HW3 : Hid (w.heap.size ≤ w3.heap.size) := Nat.le_trans HX3.out HB3.out.size
    clear o3 wz3 tz3 s3 vz3 hz3 hb3 HMD1 HO2 HB2
    go_wp2_with fail
    refine Calls.mono HMD2.out ?_
    rintro e w4 ⟨k4, v4, z4, rfl, o4, wz4, tz4, s4, vz4, hb4⟩
    obtain ⟨a4, c4, hs4⟩ := own_slice' o4
    subst hs4
    obtain ⟨hk4, hz4⟩ := no_sign wz4 tz4 s4 vz4 (val_nonneg HVV.out.2.2.2.1)
    subst hk4
    have HO4 := hid (And.intro (owns_later HO3.out.1 hb4) (And.intro o4 (And.intro wz4 (And.intro tz4 hz4))))
    have HB4 := hid (bt HB3.out hb4)
    have hr0 : ¬ (0 : Int) < (z4.length : Int) := by
      have e0 : val rs = val xs % val ys := rest_mod HVV.out.1 (val_nonneg HVV.out.2.2.2.1) HVV.out.2.1
      have e1 : val xs % val ys = 0 := HT.out.2.2.2.2.2.elim (fun e => by cases e) id
      rw [e1] at e0
      have hz4' : val z4 = val rs := hz4
      by_cases c : 0 < z4.length
      · have := val_pos' wz4 tz4 c
        omega
      · omega
    have l3 : z3.length ≤ 2048 := le_trans' (len_of_lt HO3.out.2.1 HO3.out.2.2.1 (by rw [HO3.out.2.2.2]; exact val_lt HVV.out.2.2.1)) lz
    have l4 : z4.length ≤ 2048 := le_trans' (len_of_lt wz4 tz4 (by rw [hz4]; exact val_lt HVV.out.2.2.2.1)) lr
    have HVb : Hid (Below w4.heap.size w4 ((w4.alloc (.cells #[.bool false, .slice a3 z3.length c3] 24)).alloc (.cells #[.bool false, .slice a4 z4.length c4] 24))) := bt (alloc_later _ _) (alloc_later _ _)
    have HQb : Hid (Box ((w4.alloc (.cells #[.bool false, .slice a3 z3.length c3] 24)).alloc (.cells #[.bool false, .slice a4 z4.length c4] 24)) w4.heap.size 24 #[.bool false, .slice a3 z3.length c3]) := Box.later (Box.made w4 _ _) (alloc_later _ _) (by simp)
    have HRb : Hid (Box ((w4.alloc (.cells #[.bool false, .slice a3 z3.length c3] 24)).alloc (.cells #[.bool false, .slice a4 z4.length c4] 24)) (w4.heap.size + 1) 24 #[.bool false, .slice a4 z4.length c4]) := by
      have e := Box.made (w4.alloc (.cells #[.bool false, .slice a3 z3.length c3] 24)) 24 #[.bool false, .slice a4 z4.length c4]
      simp at e
      exact e
    have HBV := hid (bt HB4.out HVb.out)
    have HNV := hid (HN.out.later HBV.out HN.out.lt)
    have HMV := hid (HM.out.later HBV.out HM.out.lt)
    have HZ1V := hid (HZ1.out.later HBV.out HZ1.out.lt)
    have HZ2V := hid (HZ2.out.later HBV.out HZ2.out.lt)
    have HOV := hid (And.intro (owns_later HO4.out.1 HVb.out) (owns_later HO4.out.2.1 HVb.out))
    have HMD3 := hid (made_num (!m) _ z3 ((w4.alloc (.cells #[.bool false, .slice a3 z3.length c3] 24)).alloc (.cells #[.bool false, .slice a4 z4.length c4] 24)) (Sl.own HOV.out.1 HO3.out.2.1) (by omega))
    have HX4 := hid (HB4.out.size)
    have HR4 := hid (And.intro HO4.out.2.2.1 (And.intro HO4.out.2.2.2.1 HO4.out.2.2.2.2))
    obtain ⟨g0, g1, _, _⟩ := (HN.out.later HB4.out HN.out.lt).c2
    obtain ⟨g2, g3, _, _⟩ := (HM.out.later HB4.out HM.out.lt).c2
    clear o4 wz4 tz4 s4 vz4 hz4 hb4 HMD2 HB3 HB4 HO4 HVb HN HM HZ1 HZ2
    obtain ⟨p0, p1, _, _⟩ := HNV.out.c2
    obtain ⟨q0, q1, _, _⟩ := HMV.out.c2
    go_wp2_with fail
    refine Calls.mono HMD3.out ?_
    generalize ((w4.alloc (.cells #[.bool false, .slice a3 z3.length c3] 24)).alloc (.cells #[.bool false, .slice a4 z4.length c4] 24)) = U at *
    rintro e w5 ⟨k5, v5, z5, rfl, o5, wz5, tz5, s5, vz5, hb5⟩
    obtain ⟨a5, c5, hs5⟩ := own_slice' o5
    subst hs5
    have HQ5 := hid (HQb.out.later hb5 HQb.out.lt)
    have HR5 := hid (HRb.out.later hb5 HRb.out.lt)
    have HZ15 := hid (HZ1V.out.later hb5 HZ1V.out.lt)
    have HZ25 := hid (HZ2V.out.later hb5 HZ2V.out.lt)
    have HO5 := hid (owns_base o5 (Nat.le_trans HX3.out HBV.out.size))
    have HP5 := hid (owns_base (owns_later HOV.out.2 hb5) HW3.out)
    have HB5 := hid (bt HB.out (bt HBV.out hb5))
    have l5 : z5.length ≤ 2048 := wlen5 HO3.out.2.1 l3 wz5 tz5 vz5
    have hl5 : ¬ (2048 : Int) < (z5.length : Int) := by omega
    have HV5 := hid (And.intro wz5 (And.intro tz5 (And.intro s5 vz5)))
    obtain ⟨y0, y1, yf0, yf1⟩ := HQ5.out.c2
    have HBp := hid (HQ5.out.put2 (.bool k5) (.slice a5 z5.length c5))
    obtain ⟨u0, u1, uf0, uf1⟩ := HBp.out.c2
    have hn1 : w4.heap.size + 1 ≠ w4.heap.size := by omega
    have hn2 : w.heap.size + 1 + 1 ≠ w4.heap.size := by have := HX4.out; omega
    have hn3 : w.heap.size + 1 + 1 + 1 ≠ w4.heap.size := by have := HX4.out; omega
    have HRp := hid (HR5.out.far2 hn1 (.bool k5) (.slice a5 z5.length c5))
    obtain ⟨t0, t1, tf0, tf1⟩ := HRp.out.c2
    have HZ1p := hid (HZ15.out.far2 hn2 (.bool k5) (.slice a5 z5.length c5))
    obtain ⟨r0, r1, rf0, rf1⟩ := HZ1p.out.c2
    have HZ2p := hid (HZ25.out.far2 hn3 (.bool k5) (.slice a5 z5.length c5))
    obtain ⟨s0, s1, sf0, sf1⟩ := HZ2p.out.c2
    have HOF := hid (own_put2 (own_put2 (own_put2 HO5.out w4.heap.size (own_ne_box HO5.out HQ5.out (by decide)) (.bool k5) (.slice a5 z5.length c5)) (w.heap.size + 1 + 1) (own_ne_box HO5.out HZ15.out (by decide)) (.bool k5) (.slice a5 z5.length c5)) (w.heap.size + 1 + 1 + 1) (own_ne_box HO5.out HZ25.out (by decide)) (.bool false) (.slice a4 z4.length c4))
    have HPF := hid (own_put2 (own_put2 (own_put2 HP5.out w4.heap.size (own_ne_box HP5.out HQ5.out (by decide)) (.bool k5) (.slice a5 z5.length c5)) (w.heap.size + 1 + 1) (own_ne_box HP5.out HZ15.out (by decide)) (.bool k5) (.slice a5 z5.length c5)) (w.heap.size + 1 + 1 + 1) (own_ne_box HP5.out HZ25.out (by decide)) (.bool false) (.slice a4 z4.length c4))
    have HBF := hid (below_put2 (below_put2 (below_put2 HB5.out w4.heap.size (by have := HX4.out; omega) (.bool k5) (.slice a5 z5.length c5)) (w.heap.size + 1 + 1) (by omega) (.bool k5) (.slice a5 z5.length c5)) (w.heap.size + 1 + 1 + 1) (by omega) (.bool false) (.slice a4 z4.length c4))
    clear o5 wz5 tz5 s5 vz5 hb5 HMD3 HQ5 HR5 HZ15 HZ25 HO5 HP5 HB5 HBp HRp HZ1p HZ2p HQb HRb HBV HNV HMV HZ1V HZ2V HOV p0 p1 q0 q1 g0 g1 g2 g3
    have hn4 : w4.heap.size + 1 ≠ w.heap.size + 1 + 1 := by have := HX4.out; omega
    have hn5 : w.heap.size + 1 + 1 ≠ w4.heap.size + 1 := by have := HX4.out; omega
    go_wp2_with fail
    go_region
    go_wp2_with fail
    refine bodyPost_ret (v := .tuple #[.agg #[.bool k5, .slice a5 z5.length c5], .agg #[.bool false, .slice a4 z4.length c4], .int .i64 0]) (by simp [results, Tryz.results24, go_sem, r0, r1, s0, s1]) rfl ?_
    refine ⟨k5, _, z5, _, z4, rfl, owns_later HOF.out (Below.drew (Below.refl _ _)), owns_later HPF.out (Below.drew (Below.refl _ _)), HV5.out.1, HR4.out.1, HV5.out.2.1, HR4.out.2.1, l5, l4, HV5.out.2.2.1, ?_, ?_, HBF.out.drew⟩
    · have e1 := HVV.out.1
      have e2 := HR4.out.2.2
      have e3 := HO3.out.2.2.2
      rw [HV5.out.2.2.2, e2]
      exact div_t e1 e3 (by have e0 : val rs = val xs % val ys := rest_mod HVV.out.1 (val_nonneg HVV.out.2.2.2.1) HVV.out.2.1; have e5 : val xs % val ys = 0 := HT.out.2.2.2.2.2.elim (fun e => by cases e) id; rw [e5] at e0; exact e0)
    · have e1 := HVV.out.2.1
      have e2 := val_nonneg HT.out.2.2.2.1
      rw [HR4.out.2.2]
      unfold wval
      cases m <;> simp <;> omega
end Go.Proofs.YtgknjdademncdaaGreat

/- The document's DivMod of a whole number below 0, where a rest is left: one time more is taken. -/
namespace Go.Proofs.YtgknjdademncdaaGreat
open Go.RowKit
set_option linter.unusedVariables false

theorem div_r {m : Bool} {xs ys zs rs z6 z8 : List Int} (h : val xs = val zs * val ys + val rs) (h6 : val z6 = val zs + 1) (h8 : val z8 = val ys - val rs) : wval true xs = wval (!m) z6 * wval m ys + val z8 := by
  cases m <;> simp [wval, h, h6, h8, Int.neg_mul, Int.mul_neg, Int.add_mul] <;> omega

set_option maxHeartbeats 12800000 in
set_option maxRecDepth 100000 in
theorem refWDivMod_rest (n : Bool) (a : Option Addr) (ca : Nat) (xs : List Int) (m : Bool) (b : Option Addr) (cb : Nat) (ys : List Int) (w : World) (h : Sl w (.slice a xs.length ca) xs) (g : Sl w (.slice b ys.length cb) ys) (hx : wchk n xs = 0) (hy : wchk m ys = 0) (h0 : 0 < ys.length) (hn : n = true) (hp : val xs % val ys ≠ 0) :
    Calls Tryz.prog 24 #[.agg #[.bool n, .slice a xs.length ca], .agg #[.bool m, .slice b ys.length cb]] w (WDiv w (wval n xs) (wval m ys)) := by
  obtain ⟨lx, tx, _⟩ := wchk_ok hx
  obtain ⟨ly, ty, _⟩ := wchk_ok hy
  have wx := h.wd
  have wy := g.wd
  have HB : Hid (Below w.heap.size w ((((w.alloc (.cells #[.bool n, .slice a xs.length ca] 24)).alloc (.cells #[.bool m, .slice b ys.length cb] 24)).alloc (.cells #[.bool false, .slice none 0 0] 24)).alloc (.cells #[.bool false, .slice none 0 0] 24))) := bt (bt (bt (alloc_later _ _) (alloc_later _ _)) (alloc_later _ _)) (alloc_later _ _)
  have HN : Hid (Box ((((w.alloc (.cells #[.bool n, .slice a xs.length ca] 24)).alloc (.cells #[.bool m, .slice b ys.length cb] 24)).alloc (.cells #[.bool false, .slice none 0 0] 24)).alloc (.cells #[.bool false, .slice none 0 0] 24)) w.heap.size 24 #[.bool n, .slice a xs.length ca]) := Box.later (Box.made w _ _) (bt (bt (alloc_later _ _) (alloc_later _ _)) (alloc_later _ _)) (by simp)
  have HM : Hid (Box ((((w.alloc (.cells #[.bool n, .slice a xs.length ca] 24)).alloc (.cells #[.bool m, .slice b ys.length cb] 24)).alloc (.cells #[.bool false, .slice none 0 0] 24)).alloc (.cells #[.bool false, .slice none 0 0] 24)) (w.heap.size + 1) 24 #[.bool m, .slice b ys.length cb]) := by
    have e := Box.later (Box.made (w.alloc (.cells #[.bool n, .slice a xs.length ca] 24)) 24 #[.bool m, .slice b ys.length cb]) (bt (alloc_later ((w.alloc (.cells #[.bool n, .slice a xs.length ca] 24)).alloc (.cells #[.bool m, .slice b ys.length cb] 24)) (.cells #[.bool false, .slice none 0 0] 24)) (alloc_later _ (.cells #[.bool false, .slice none 0 0] 24))) (by simp)
    simp at e
    exact e
  have HZ1 : Hid (Box ((((w.alloc (.cells #[.bool n, .slice a xs.length ca] 24)).alloc (.cells #[.bool m, .slice b ys.length cb] 24)).alloc (.cells #[.bool false, .slice none 0 0] 24)).alloc (.cells #[.bool false, .slice none 0 0] 24)) (w.heap.size + 1 + 1) 24 #[.bool false, .slice none 0 0]) := by
    have e := Box.later (Box.made ((w.alloc (.cells #[.bool n, .slice a xs.length ca] 24)).alloc (.cells #[.bool m, .slice b ys.length cb] 24)) 24 #[.bool false, .slice none 0 0]) (alloc_later (((w.alloc (.cells #[.bool n, .slice a xs.length ca] 24)).alloc (.cells #[.bool m, .slice b ys.length cb] 24)).alloc (.cells #[.bool false, .slice none 0 0] 24)) (.cells #[.bool false, .slice none 0 0] 24)) (by simp)
    simp at e
    exact e
  have HZ2 : Hid (Box ((((w.alloc (.cells #[.bool n, .slice a xs.length ca] 24)).alloc (.cells #[.bool m, .slice b ys.length cb] 24)).alloc (.cells #[.bool false, .slice none 0 0] 24)).alloc (.cells #[.bool false, .slice none 0 0] 24)) (w.heap.size + 1 + 1 + 1) 24 #[.bool false, .slice none 0 0]) := by
    have e := Box.made (((w.alloc (.cells #[.bool n, .slice a xs.length ca] 24)).alloc (.cells #[.bool m, .slice b ys.length cb] 24)).alloc (.cells #[.bool false, .slice none 0 0] 24)) 24 #[.bool false, .slice none 0 0]
    simp at e
    exact e
  have hXs : ((((w.alloc (.cells #[.bool n, .slice a xs.length ca] 24)).alloc (.cells #[.bool m, .slice b ys.length cb] 24)).alloc (.cells #[.bool false, .slice none 0 0] 24)).alloc (.cells #[.bool false, .slice none 0 0] 24)).heap.size = w.heap.size + 4 := by simp
  have HS := hid (And.intro (h.later HB.out) (g.later HB.out))
  have HC := hid (refWBoth_any n _ xs m _ ys _ HS.out.1 HS.out.2 (by omega) (by omega))
  rw [wboth_good hx hy] at HC
  have h0' : ((ys.length : Int) == 0) = false := beq_eq_false_iff_ne.2 (by omega)
  have HT := hid (And.intro tx (And.intro ty (And.intro wx (And.intro wy (And.intro h0 hp)))))
  clear h g hx hy tx ty wx wy hp h0
  subst hn
  go_enter Tryz.func24, Tryz.ntmps24
  go_wp2_with fail
  refine Calls.mono HC.out ?_
  generalize ((((w.alloc (.cells #[.bool true, .slice a xs.length ca] 24)).alloc (.cells #[.bool m, .slice b ys.length cb] 24)).alloc (.cells #[.bool false, .slice none 0 0] 24)).alloc (.cells #[.bool false, .slice none 0 0] 24)) = X at *
  rintro e w1 ⟨rfl, hb1⟩
  have HX3 : Hid (w.heap.size ≤ X.heap.size) := HB.out.size
  obtain ⟨p0, p1, _, _⟩ := (HN.out.later hb1 HN.out.lt).c2
  obtain ⟨q0, q1, _, _⟩ := (HM.out.later hb1 HM.out.lt).c2
  have HO := hid (refOver_any _ _ xs ys w1 (HS.out.1.later hb1) (HS.out.2.later hb1) (by omega) (by omega) HT.out.1 HT.out.2.1 HT.out.2.2.2.2.1)
  have HB1 := hid hb1
  have HSY := hid HS.out.2
  clear hb1 HC HS
  go_wp2_with fail
  refine Calls.mono HO.out ?_
  rintro e w2 ⟨v1, zs, v2, rs, rfl, o1, o2, wz, wr, tz, tr, hv, hlt, hb2⟩
  obtain ⟨a1, c1, hs1⟩ := own_slice' o1
  subst hs1
  obtain ⟨a2, c2, hs2⟩ := own_slice' o2
  subst hs2
  have HVV := hid (And.intro hv (And.intro hlt (And.intro wz (And.intro wr (And.intro tz tr)))))
  have lz : zs.length ≤ 2048 := le_trans' (len_of_lt wz tz (quot_lt hv HT.out.2.2.1 wz wr HT.out.2.2.2.1 hlt)) (by omega)
  have lr : rs.length ≤ 2048 := le_trans' (len_of_lt wr tr (Int.lt_trans hlt (val_lt HT.out.2.2.2.1))) (by omega)
  have HMD1 := hid (made_num false _ zs w2 (Sl.own o1 wz) (by omega))
  have HO2 := hid o2
  have HB2 := hid (bt HB1.out hb2)
  clear o1 o2 wz wr tz tr hv hlt hb2 HO p0 p1 q0 q1 HB1
  go_wp2_with fail
  refine Calls.mono HMD1.out ?_
  rintro e w3 ⟨k3, v3, z3, rfl, o3, wz3, tz3, s3, vz3, hb3⟩
  obtain ⟨a3, c3, hs3⟩ := own_slice' o3
  subst hs3
  obtain ⟨hk3, hz3⟩ := no_sign wz3 tz3 s3 vz3 (val_nonneg HVV.out.2.2.1)
  subst hk3
  have HMD2 := hid (made_num false _ rs w3 (Sl.own (owns_later HO2.out hb3) HVV.out.2.2.2.1) (by omega))
  have HO3 := hid (And.intro o3 (And.intro wz3 (And.intro tz3 hz3)))
  have HB3 := hid (bt HB2.out hb3)
  have HW3 : Hid (w.heap.size ≤ w3.heap.size) := Nat.le_trans HX3.out HB3.out.size
  clear o3 wz3 tz3 s3 vz3 hz3 hb3 HMD1 HO2 HB2
  go_wp2_with fail
  refine Calls.mono HMD2.out ?_
  rintro e w4 ⟨k4, v4, z4, rfl, o4, wz4, tz4, s4, vz4, hb4⟩
  obtain ⟨a4, c4, hs4⟩ := own_slice' o4
  subst hs4
  obtain ⟨hk4, hz4⟩ := no_sign wz4 tz4 s4 vz4 (val_nonneg HVV.out.2.2.2.1)
  subst hk4
  have HO4 := hid (And.intro (owns_later HO3.out.1 hb4) (And.intro o4 (And.intro wz4 (And.intro tz4 hz4))))
  have HB4 := hid (bt HB3.out hb4)
  have hr0 : (0 : Int) < (z4.length : Int) := by
    have e0 : val rs = val xs % val ys := rest_mod HVV.out.1 (val_nonneg HVV.out.2.2.2.1) HVV.out.2.1
    have hz4' : val z4 = val rs := hz4
    by_cases c : z4.length = 0
    · rw [List.length_eq_zero_iff] at c
      subst c
      rw [val_nil] at hz4'
      exact absurd (e0 ▸ hz4').symm HT.out.2.2.2.2.2
    · omega
  have l3 : z3.length ≤ 2048 := le_trans' (len_of_lt HO3.out.2.1 HO3.out.2.2.1 (by rw [HO3.out.2.2.2]; exact val_lt HVV.out.2.2.1)) lz
  have l4 : z4.length ≤ 2048 := le_trans' (len_of_lt wz4 tz4 (by rw [hz4]; exact val_lt HVV.out.2.2.2.1)) lr
  have HVb : Hid (Below w4.heap.size w4 ((w4.alloc (.cells #[.bool false, .slice a3 z3.length c3] 24)).alloc (.cells #[.bool false, .slice a4 z4.length c4] 24))) := bt (alloc_later _ _) (alloc_later _ _)
  have HQb : Hid (Box ((w4.alloc (.cells #[.bool false, .slice a3 z3.length c3] 24)).alloc (.cells #[.bool false, .slice a4 z4.length c4] 24)) w4.heap.size 24 #[.bool false, .slice a3 z3.length c3]) := Box.later (Box.made w4 _ _) (alloc_later _ _) (by simp)
  have HRb : Hid (Box ((w4.alloc (.cells #[.bool false, .slice a3 z3.length c3] 24)).alloc (.cells #[.bool false, .slice a4 z4.length c4] 24)) (w4.heap.size + 1) 24 #[.bool false, .slice a4 z4.length c4]) := by
    have e := Box.made (w4.alloc (.cells #[.bool false, .slice a3 z3.length c3] 24)) 24 #[.bool false, .slice a4 z4.length c4]
    simp at e
    exact e
  have HBV := hid (bt HB4.out HVb.out)
  have HNV := hid (HN.out.later HBV.out HN.out.lt)
  have HMV := hid (HM.out.later HBV.out HM.out.lt)
  have HZ1V := hid (HZ1.out.later HBV.out HZ1.out.lt)
  have HZ2V := hid (HZ2.out.later HBV.out HZ2.out.lt)
  have HOV := hid (And.intro (owns_later HO4.out.1 HVb.out) (owns_later HO4.out.2.1 HVb.out))
  have HX4 := hid (HB4.out.size)
  have HR4 := hid (And.intro HO4.out.2.2.1 (And.intro HO4.out.2.2.2.1 HO4.out.2.2.2.2))
  obtain ⟨g0, g1, _, _⟩ := (HN.out.later HB4.out HN.out.lt).c2
  obtain ⟨g2, g3, _, _⟩ := (HM.out.later HB4.out HM.out.lt).c2
  clear o4 wz4 tz4 s4 vz4 hz4 hb4 HMD2 HB3 HB4 HO4 HVb
  obtain ⟨p0, p1, _, _⟩ := HNV.out.c2
  obtain ⟨q0, q1, _, _⟩ := HMV.out.c2
  clear q0 q1 g0 g1 g2 g3
  have HPS : Hid (1 ≤ val rs) := by
    have e0 : val rs = val xs % val ys := rest_mod HVV.out.1 (val_nonneg HVV.out.2.2.2.1) HVV.out.2.1
    have e1 := HT.out.2.2.2.2.2
    have e2 := val_nonneg HVV.out.2.2.2.1
    show _ ≤ _
    omega
  go_wp2_with fail
  generalize ((w4.alloc (.cells #[.bool false, .slice a3 z3.length c3] 24)).alloc (.cells #[.bool false, .slice a4 z4.length c4] 24)) = U at *
  have HK : Hid (∀ V, Below U.heap.size U V → V.cell? ⟨w4.heap.size, 0, none⟩ = some (.bool false) ∧ V.cell? ⟨w4.heap.size, 1, none⟩ = some (.slice a3 (List.length z3) c3)) := fun V hb => by
    obtain ⟨p0, p1, _, _⟩ := (HQb.out.later hb HQb.out.lt).c2
    exact ⟨p0, p1⟩
  have hs0 := HK.out _ (Below.drew (Below.refl _ U))
  have HT1 : Hid (Calls Tryz.prog 57 #[.int .i64 1] U.drew fun e w5 => ∃ k5 a5 c5 z5, e = .returned (.agg #[.bool k5, .slice a5 (List.length z5) c5]) ∧ Hid (Sl w5 (.slice a5 (List.length z5) c5) z5 ∧ wval k5 z5 = 1 ∧ z5.length ≤ 1000000 ∧ Below U.heap.size U w5) ∧ w5.cell? ⟨w4.heap.size, 0, none⟩ = some (.bool false) ∧ w5.cell? ⟨w4.heap.size, 1, none⟩ = some (.slice a3 (List.length z3) c3)) := by
    have hbd : Below U.heap.size U U.drew := Below.drew (Below.refl _ U)
    refine Calls.mono (refOf2_any 1 _ (by omega) (by omega)) ?_
    rintro e w1 ⟨k1, v1, z1, rfl, o1, wz, tz, lz1, sz1, vz, hb1⟩
    obtain ⟨a1, c1, hs⟩ := own_slice' o1
    subst hs
    have hbX : Below U.heap.size U w1 := bt hbd hb1
    exact ⟨k1, a1, c1, z1, rfl, ⟨Sl.own o1 wz, vz, by omega, hbX⟩, HK.out w1 hbX⟩
  have HP1 : Hid (∀ w5 k5 a5 c5 z5, Sl w5 (.slice a5 (List.length z5) c5) z5 → wval k5 z5 = 1 → z5.length ≤ 1000000 → Below U.heap.size U w5 → Calls Tryz.prog 53 #[.agg #[.bool false, .slice a3 z3.length c3], .agg #[.bool k5, .slice a5 z5.length c5]] w5 fun e w6 => ∃ a6 c6 z6, e = .returned (.agg #[.bool false, .slice a6 (List.length z6) c6]) ∧ Hid (w6.ownsRow U.heap.size 44 1 (.slice a6 (List.length z6) c6) (List.length z6) (z6.map (Value.int .u32)) ∧ Wd z6 ∧ Trimmed z6 ∧ val z6 = val z3 + 1 ∧ Below U.heap.size U w6) ∧ (w6.cell? ⟨w4.heap.size, 0, none⟩ = some (.bool false) ∧ w6.cell? ⟨w4.heap.size, 1, none⟩ = some (.slice a3 (List.length z3) c3)) ∧ w6.frozen? ⟨w4.heap.size, 0, none⟩ = false ∧ w6.frozen? ⟨w4.heap.size, 1, none⟩ = false) := fun w1 k1 a1 c1 z1 s1 v1 l1 hb1 => by
    refine Calls.mono (refWPlus_any false a3 c3 z3 k1 a1 c1 z1 w1 (Sl.own (owns_later HOV.out.1 hb1) HO3.out.2.1) s1 (by omega) l1) ?_
    rintro e w2 ⟨k, v2, z2, rfl, o2, wz, tz, sz2, vz, hb2⟩
    obtain ⟨a2, c2, hs⟩ := own_slice' o2
    subst hs
    obtain ⟨_, _, f0, f1⟩ := (HQb.out.later (bt hb1 hb2) HQb.out.lt).c2
    have vz' : wval k z2 = val z3 + 1 := by rw [vz, v1]; rfl
    obtain ⟨rfl, hv⟩ := no_sign wz tz sz2 vz' (by have := val_nonneg HO3.out.2.1; omega)
    exact ⟨a2, c2, z2, rfl, ⟨owns_base o2 hb1.size, wz, tz, hv, bt hb1 hb2⟩, HK.out w2 (bt hb1 hb2), f0, f1⟩
  go_region_with
    (first
      | (go_at_call 53; with_reducible refine Calls.mono (HP1.out _ _ _ _ _ HE5.out.1 HE5.out.2.1 HE5.out.2.2.1 HE5.out.2.2.2) ?_; rintro e w6 ⟨a6, c6, z6, rfl, HE6, hs6, f0, f1⟩)
      | (go_at_call 57; with_reducible refine Calls.mono HT1.out ?_; rintro e w5 ⟨k5, a5, c5, z5, rfl, HE5, hs5⟩))
  all_goals
    have HQ6 := hid (HQb.out.later HE6.out.2.2.2.2 HQb.out.lt)
    have HR6 := hid (HRb.out.later HE6.out.2.2.2.2 HRb.out.lt)
    have hn1 : w4.heap.size + 1 ≠ w4.heap.size := by omega
    have HQY := hid (HQ6.out.put2 (.bool false) (.slice a6 z6.length c6))
    have HRY := hid (HR6.out.far2 hn1 (.bool false) (.slice a6 z6.length c6))
    have HBY := hid (below_put2 (bt HBV.out HE6.out.2.2.2.2) w4.heap.size HX4.out (.bool false) (.slice a6 z6.length c6))
    have HO6 := hid (own_put2 HE6.out.1 w4.heap.size (own_ne_box HE6.out.1 HQ6.out (by decide)) (.bool false) (.slice a6 z6.length c6))
    have HPV := hid (owns_later HOV.out.2 HE6.out.2.2.2.2)
    have HO8 := hid (own_put2 HPV.out w4.heap.size (own_ne_box HPV.out HQ6.out (by decide)) (.bool false) (.slice a6 z6.length c6))
    have HV6 := hid (And.intro HE6.out.2.1 (And.intro HE6.out.2.2.1 HE6.out.2.2.2.1))
    have HUS : Hid (w.heap.size ≤ U.heap.size) := Nat.le_trans HX3.out HBV.out.size
    have hXU : Hid (w4.heap.size + 1 < U.heap.size) := HRb.out.lt
    have hU6 := hid (show U.heap.size ≤ ((w6.setCell ⟨w4.heap.size, 0, none⟩ (.bool false)).setCell ⟨w4.heap.size, 1, none⟩ (.slice a6 z6.length c6)).heap.size by simpa using HE6.out.2.2.2.2.size)
    clear HK HT1 HP1 HE5 HE6 hs0 hs5 hs6 HQb HRb HNV HMV HZ1V HZ2V HOV HQ6 HR6 HBV HPV p0 p1 f0 f1
    generalize ((w6.setCell ⟨w4.heap.size, 0, none⟩ (.bool false)).setCell ⟨w4.heap.size, 1, none⟩ (.slice a6 z6.length c6)) = Y at *
    have HNY := hid (HN.out.later HBY.out HN.out.lt)
    have HMY := hid (HM.out.later HBY.out HM.out.lt)
    obtain ⟨q0, q1, _, _⟩ := HMY.out.c2
    obtain ⟨t0, t1, tf0, tf1⟩ := HRY.out.c2
    have HSYY := hid (HSY.out.later HBY.out)
    have HK : Hid (∀ V, Below Y.heap.size Y V → (V.cell? ⟨w4.heap.size + 1, 0, none⟩ = some (.bool false) ∧ V.cell? ⟨w4.heap.size + 1, 1, none⟩ = some (.slice a4 z4.length c4)) ∧ V.cell? ⟨w.heap.size + 1, 0, none⟩ = some (.bool m) ∧ V.cell? ⟨w.heap.size + 1, 1, none⟩ = some (.slice b ys.length cb)) := fun V hb => by
      obtain ⟨p0, p1, _, _⟩ := (HRY.out.later hb HRY.out.lt).c2
      obtain ⟨p2, p3, _, _⟩ := (HMY.out.later hb HMY.out.lt).c2
      exact ⟨⟨p0, p1⟩, p2, p3⟩
    have hs0 := HK.out _ (Below.drew (Below.refl _ Y))
    have HT2 : Hid (Calls Tryz.prog 50 #[.bool false, .slice b ys.length cb] Y.drew fun e w7 => ∃ k7 a7 c7 z7, e = .returned (.agg #[.bool k7, .slice a7 (List.length z7) c7]) ∧ Hid (Sl w7 (.slice a7 (List.length z7) c7) z7 ∧ wval k7 z7 = val ys ∧ z7.length ≤ 1000000 ∧ Below Y.heap.size Y w7) ∧ (w7.cell? ⟨w4.heap.size + 1, 0, none⟩ = some (.bool false) ∧ w7.cell? ⟨w4.heap.size + 1, 1, none⟩ = some (.slice a4 z4.length c4)) ∧ w7.cell? ⟨w.heap.size + 1, 0, none⟩ = some (.bool m) ∧ w7.cell? ⟨w.heap.size + 1, 1, none⟩ = some (.slice b ys.length cb)) := by
      have hbd : Below Y.heap.size Y Y.drew := Below.drew (Below.refl _ Y)
      refine Calls.mono (made_num false _ ys _ (HSYY.out.later hbd) (by omega)) ?_
      rintro e w1 ⟨k1, v1, z1, rfl, o1, wz, tz, sz1, vz, hb1⟩
      obtain ⟨a1, c1, hs⟩ := own_slice' o1
      subst hs
      have hbX : Below Y.heap.size Y w1 := bt hbd hb1
      have hl : z1.length ≤ ys.length := by
        obtain ⟨_, hv⟩ := no_sign wz tz sz1 vz (val_nonneg HSYY.out.wd)
        exact len_of_lt wz tz (by rw [hv]; exact val_lt HSYY.out.wd)
      exact ⟨k1, a1, c1, z1, rfl, ⟨Sl.own o1 wz, vz, by omega, hbX⟩, HK.out w1 hbX⟩
    have HP2 : Hid (∀ w7 k7 a7 c7 z7, Sl w7 (.slice a7 (List.length z7) c7) z7 → wval k7 z7 = val ys → z7.length ≤ 1000000 → Below Y.heap.size Y w7 → Calls Tryz.prog 54 #[.agg #[.bool k7, .slice a7 z7.length c7], .agg #[.bool false, .slice a4 z4.length c4]] w7 fun e w8 => ∃ a8 c8 z8, e = .returned (.agg #[.bool false, .slice a8 (List.length z8) c8]) ∧ Hid (w8.ownsRow Y.heap.size 44 1 (.slice a8 (List.length z8) c8) (List.length z8) (z8.map (Value.int .u32)) ∧ Wd z8 ∧ Trimmed z8 ∧ val z8 = val ys - val z4 ∧ Below Y.heap.size Y w8) ∧ ((w8.cell? ⟨w4.heap.size + 1, 0, none⟩ = some (.bool false) ∧ w8.cell? ⟨w4.heap.size + 1, 1, none⟩ = some (.slice a4 z4.length c4)) ∧ w8.cell? ⟨w.heap.size + 1, 0, none⟩ = some (.bool m) ∧ w8.cell? ⟨w.heap.size + 1, 1, none⟩ = some (.slice b ys.length cb)) ∧ w8.frozen? ⟨w4.heap.size + 1, 0, none⟩ = false ∧ w8.frozen? ⟨w4.heap.size + 1, 1, none⟩ = false) := fun w1 k1 a1 c1 z1 s1 v1 l1 hb1 => by
      refine Calls.mono (refWLess_any k1 a1 c1 z1 false a4 c4 z4 w1 s1 (Sl.own (owns_later HO8.out hb1) HR4.out.1) l1 (by omega)) ?_
      rintro e w2 ⟨k, v2, z2, rfl, o2, wz, tz, sz2, vz, hb2⟩
      obtain ⟨a2, c2, hs⟩ := own_slice' o2
      subst hs
      obtain ⟨_, _, f0, f1⟩ := (HRY.out.later (bt hb1 hb2) HRY.out.lt).c2
      have vz' : wval k z2 = val ys - val z4 := by rw [vz, v1]; rfl
      obtain ⟨rfl, hv⟩ := no_sign wz tz sz2 vz' (by have e1 := HVV.out.2.1; have e2 : val z4 = val rs := HR4.out.2.2; omega)
      exact ⟨a2, c2, z2, rfl, ⟨owns_base o2 hb1.size, wz, tz, hv, bt hb1 hb2⟩, HK.out w2 (bt hb1 hb2), f0, f1⟩
    go_wp2_with fail
    go_region_with
      (first
        | (go_at_call 54; with_reducible refine Calls.mono (HP2.out _ _ _ _ _ HE7.out.1 HE7.out.2.1 HE7.out.2.2.1 HE7.out.2.2.2) ?_; rintro e w8 ⟨a8, c8, z8, rfl, HE8, hs8, f0, f1⟩)
        | (go_at_call 50; with_reducible refine Calls.mono HT2.out ?_; rintro e w7 ⟨k7, a7, c7, z7, rfl, HE7, hs7⟩))
    all_goals
      have HQ8 := hid (HQY.out.later HE8.out.2.2.2.2 HQY.out.lt)
      have HR8 := hid (HRY.out.later HE8.out.2.2.2.2 HRY.out.lt)
      have hn2 : w4.heap.size ≠ w4.heap.size + 1 := by omega
      have HQb := hid (HQ8.out.far2 hn2 (.bool false) (.slice a8 z8.length c8))
      have HRb := hid (HR8.out.put2 (.bool false) (.slice a8 z8.length c8))
      have HBV := hid (below_put2 (bt HBY.out HE8.out.2.2.2.2) (w4.heap.size + 1) (Nat.le_trans HX4.out (Nat.le_succ _)) (.bool false) (.slice a8 z8.length c8))
      have HPo := hid (owns_later HO6.out HE8.out.2.2.2.2)
      have HOV := hid (And.intro (own_put2 HPo.out (w4.heap.size + 1) (own_ne_box HPo.out HR8.out (by decide)) (.bool false) (.slice a8 z8.length c8)) (own_put2 HE8.out.1 (w4.heap.size + 1) (own_ne_box HE8.out.1 HR8.out (by decide)) (.bool false) (.slice a8 z8.length c8)))
      have HR8v := hid (And.intro HE8.out.2.1 (And.intro HE8.out.2.2.1 HE8.out.2.2.2.1))
      have HWY : Hid (w.heap.size ≤ Y.heap.size) := Nat.le_trans HUS.out hU6.out
      clear HK HT2 HP2 HE7 HE8 hs0 hs7 hs8 HQY HRY HNY HMY HSYY HBY HO6 HO8 HQ8 HR8 HPo q0 q1 t0 t1 tf0 tf1 f0 f1 hn1 hn2
      generalize ((w8.setCell ⟨w4.heap.size + 1, 0, none⟩ (.bool false)).setCell ⟨w4.heap.size + 1, 1, none⟩ (.slice a8 z8.length c8)) = T at *
      have l6 : z6.length ≤ 2048 := by
        refine le_trans' (len_of_lt HV6.out.1 HV6.out.2.1 (L := xs.length) ?_) lx
        have e1 := HVV.out.1
        have e2 := HVV.out.2.1
        have e3 := HPS.out
        have e4 := HV6.out.2.2
        have e5 : val z3 = val zs := HO3.out.2.2.2
        have e6 := val_nonneg HVV.out.2.2.1
        have e7 := val_lt HT.out.2.2.1
        have e8 : val zs * 2 ≤ val zs * val ys := Int.mul_le_mul_of_nonneg_left (by omega) e6
        omega
      have l8 : z8.length ≤ 2048 := by
        refine le_trans' (len_of_lt HR8v.out.1 HR8v.out.2.1 (L := ys.length) ?_) ly
        have e1 := HR8v.out.2.2
        have e2 := val_lt HT.out.2.2.2.1
        have e3 := val_nonneg HR4.out.1
        omega
      have HNV := hid (HN.out.later HBV.out HN.out.lt)
      have HMV := hid (HM.out.later HBV.out HM.out.lt)
      have HZ1V := hid (HZ1.out.later HBV.out HZ1.out.lt)
      have HZ2V := hid (HZ2.out.later HBV.out HZ2.out.lt)
      have HW3 := HWY
      have HMD3 := hid (made_num (!m) _ z6 T (Sl.own HOV.out.1 HV6.out.1) (by omega))
      obtain ⟨p0, p1, _, _⟩ := HNV.out.c2
      obtain ⟨q0, q1, _, _⟩ := HMV.out.c2
      obtain ⟨x0, x1, _, _⟩ := HQb.out.c2
      clear HN HM HZ1 HZ2
      go_wp2_with fail
      refine Calls.mono HMD3.out ?_
      rintro e w9 ⟨k9, v9, z9, rfl, o9, wz9, tz9, s9, vz9, hb9⟩
      obtain ⟨a9, c9, hs9⟩ := own_slice' o9
      subst hs9
      have HQ9 := hid (HQb.out.later hb9 HQb.out.lt)
      have HR9 := hid (HRb.out.later hb9 HRb.out.lt)
      have HZ15 := hid (HZ1V.out.later hb9 HZ1V.out.lt)
      have HZ25 := hid (HZ2V.out.later hb9 HZ2V.out.lt)
      have HO9 := hid (owns_base o9 (Nat.le_trans HX3.out HBV.out.size))
      have HP9 := hid (owns_base (owns_later HOV.out.2 hb9) HW3.out)
      have HB9 := hid (bt HB.out (bt HBV.out hb9))
      have l9 : z9.length ≤ 2048 := wlen5 HV6.out.1 l6 wz9 tz9 vz9
      have hl9 : ¬ (2048 : Int) < (z9.length : Int) := by omega
      have HV9 := hid (And.intro wz9 (And.intro tz9 (And.intro s9 vz9)))
      obtain ⟨y0, y1, yf0, yf1⟩ := HQ9.out.c2
      have HBp := hid (HQ9.out.put2 (.bool k9) (.slice a9 z9.length c9))
      obtain ⟨u0, u1, uf0, uf1⟩ := HBp.out.c2
      have hn1 : w4.heap.size + 1 ≠ w4.heap.size := by omega
      have hn2 : w.heap.size + 1 + 1 ≠ w4.heap.size := by have := HX4.out; omega
      have hn3 : w.heap.size + 1 + 1 + 1 ≠ w4.heap.size := by have := HX4.out; omega
      have HRp := hid (HR9.out.far2 hn1 (.bool k9) (.slice a9 z9.length c9))
      obtain ⟨t0, t1, tf0, tf1⟩ := HRp.out.c2
      have HZ1p := hid (HZ15.out.far2 hn2 (.bool k9) (.slice a9 z9.length c9))
      obtain ⟨r0, r1, rf0, rf1⟩ := HZ1p.out.c2
      have HZ2p := hid (HZ25.out.far2 hn3 (.bool k9) (.slice a9 z9.length c9))
      obtain ⟨s0, s1, sf0, sf1⟩ := HZ2p.out.c2
      have HOF := hid (own_put2 (own_put2 (own_put2 HO9.out w4.heap.size (own_ne_box HO9.out HQ9.out (by decide)) (.bool k9) (.slice a9 z9.length c9)) (w.heap.size + 1 + 1) (own_ne_box HO9.out HZ15.out (by decide)) (.bool k9) (.slice a9 z9.length c9)) (w.heap.size + 1 + 1 + 1) (own_ne_box HO9.out HZ25.out (by decide)) (.bool false) (.slice a8 z8.length c8))
      have HPF := hid (own_put2 (own_put2 (own_put2 HP9.out w4.heap.size (own_ne_box HP9.out HQ9.out (by decide)) (.bool k9) (.slice a9 z9.length c9)) (w.heap.size + 1 + 1) (own_ne_box HP9.out HZ15.out (by decide)) (.bool k9) (.slice a9 z9.length c9)) (w.heap.size + 1 + 1 + 1) (own_ne_box HP9.out HZ25.out (by decide)) (.bool false) (.slice a8 z8.length c8))
      have HBF := hid (below_put2 (below_put2 (below_put2 HB9.out w4.heap.size (by have := HX4.out; omega) (.bool k9) (.slice a9 z9.length c9)) (w.heap.size + 1 + 1) (by omega) (.bool k9) (.slice a9 z9.length c9)) (w.heap.size + 1 + 1 + 1) (by omega) (.bool false) (.slice a8 z8.length c8))
      clear o9 wz9 tz9 s9 vz9 hb9 HMD3 HQ9 HR9 HZ15 HZ25 HO9 HP9 HB9 HBp HRp HZ1p HZ2p HQb HRb HBV HNV HMV HZ1V HZ2V HOV p0 p1 q0 q1 x0 x1
      have hn4 : w4.heap.size + 1 ≠ w.heap.size + 1 + 1 := by have := HX4.out; omega
      have hn5 : w.heap.size + 1 + 1 ≠ w4.heap.size + 1 := by have := HX4.out; omega
      go_wp2_with fail
      go_region
      go_wp2_with fail
      refine bodyPost_ret (v := .tuple #[.agg #[.bool k9, .slice a9 z9.length c9], .agg #[.bool false, .slice a8 z8.length c8], .int .i64 0]) (by simp [results, Tryz.results24, go_sem, r0, r1, s0, s1]) rfl ?_
      refine ⟨k9, _, z9, _, z8, rfl, owns_later HOF.out (Below.drew (Below.refl _ _)), owns_later HPF.out (Below.drew (Below.refl _ _)), HV9.out.1, HR8v.out.1, HV9.out.2.1, HR8v.out.2.1, l9, l8, HV9.out.2.2.1, ?_, ?_, HBF.out.drew⟩
      · have e1 := HVV.out.1
        have e2 := HR8v.out.2.2
        have e3 := HV6.out.2.2
        have e4 : val z3 = val zs := HO3.out.2.2.2
        have e5 : val z4 = val rs := HR4.out.2.2
        rw [HV9.out.2.2.2]
        exact div_r e1 (by rw [e3, e4]) (by rw [e2, e5])
      · have e1 := HVV.out.2.1
        have e2 := HPS.out
        have e3 := HR8v.out.2.2
        have e5 : val z4 = val rs := HR4.out.2.2
        have e6 := val_nonneg HT.out.2.2.2.1
        unfold wval
        cases m <;> simp <;> omega
end Go.Proofs.YtgknjdademncdaaGreat

/- Whole numbers: whole.divide, DivMod as in Wh6, and besides: quotient and rest lie apart. -/
namespace Go.Proofs.YtgknjdademncdaaGreat
open Go.RowKit
set_option linter.unusedVariables false

/-- The first lies below a cut, the second from it on: both new. -/
def Cut (w : World) (v u : Value) (w' : World) : Prop := ∃ c, w.heap.size ≤ c ∧ c ≤ w'.heap.size ∧ Lies v w.heap.size c ∧ Lies u c w'.heap.size
theorem Cut.up {w w' W W' : World} {v u : Value} (h : Cut w v u w') (h0 : W.heap.size ≤ w.heap.size) (h1 : w'.heap.size ≤ W'.heap.size) : Cut W v u W' := by
  obtain ⟨c, c0, c1, l0, l1⟩ := h
  exact ⟨c, Nat.le_trans h0 c0, Nat.le_trans c1 h1, fun g hg => ⟨Nat.le_trans h0 (l0 g hg).1, (l0 g hg).2⟩, fun g hg => ⟨(l1 g hg).1, Nat.lt_of_lt_of_le (l1 g hg).2 h1⟩⟩

set_option maxHeartbeats 800000 in
set_option maxRecDepth 100000 in
theorem divMod_cut (v u : Value) (xs ys : List Int) (w : World) (h : Sl w v xs) (g : Sl w u ys) (lx : xs.length ≤ 8192) (ly : ys.length ≤ 8192) (tx : Trimmed xs) (ty : Trimmed ys) (h0 : 0 < ys.length) :
    Calls Tryz.prog 67 #[v, u] w fun e w' => ∃ v1 u1 q r, e = .returned (.tuple #[v1, u1, .int .i64 0]) ∧ w'.ownsRow w.heap.size 44 1 v1 q.length (q.map (Value.int .u32)) ∧ w'.ownsRow w.heap.size 44 1 u1 r.length (r.map (Value.int .u32)) ∧ Wd q ∧ Wd r ∧ Trimmed q ∧ Trimmed r ∧ val xs = val q * val ys + val r ∧ val r < val ys ∧ Below w.heap.size w w' ∧ Cut w v1 u1 w' := by
  have HB := hid (checkBoth_sl v u xs ys w h g (by omega) (by omega))
  rw [both_good (chk_good lx tx) (chk_good ly ty)] at HB
  have HD : Hid (Calls Tryz.prog 86 #[v, u] w (Divided w xs ys)) := divide_any v u xs ys w h g lx ly tx ty h0
  obtain ⟨b, cap', rfl, gr⟩ := g
  have hz : ((ys.length : Int) == 0) = false := by simp; exact fun e => by rw [e] at h0; simp at h0
  clear gr h ty
  go_enter Tryz.func67, Tryz.ntmps67
  go_wp2_with fail
  refine Calls.mono HB.out ?_
  rintro e w' ⟨rfl, rfl⟩
  go_wp2_with fail
  refine Calls.mono HD.out ?_
  rintro e w1 ⟨v1, u1, q, r, c, rfl, oq, orr, i1, i2, i3, i4, wq, wr, tq, tr, hv, hlt, hbel⟩
  have HCU : Hid (Cut w v1 u1 w1) := ⟨c, i3, i4, i1, i2⟩
  have HQ := hid oq
  have HR := hid orr
  have HV := hid hv
  have HLT := hid hlt
  clear oq orr hv hlt i1 i2 i3 i4
  go_wp2
  go_ret3
  exact ⟨v1, u1, q, r, rfl, HQ.out, HR.out, wq, wr, tq, tr, HV.out, HLT.out, hbel, HCU.out⟩

/-- A size and a rest, in new memory, apart. -/
def WPartsA (w : World) (n : Bool) (xs ys : List Int) (x : Ending) (w' : World) : Prop := ∃ v1 u1 q r, x = .returned (.tuple #[v1, u1]) ∧ w'.ownsRow w.heap.size 44 1 v1 q.length (q.map (Value.int .u32)) ∧ w'.ownsRow w.heap.size 44 1 u1 r.length (r.map (Value.int .u32)) ∧ Wd q ∧ Wd r ∧ Trimmed q ∧ Trimmed r ∧ q.length ≤ 2048 ∧ r.length ≤ 2048 ∧
  val xs = val q * val ys + sg n (val r) ∧ val r < val ys ∧ Below w.heap.size w w' ∧ Cut w v1 u1 w'
set_option maxHeartbeats 3200000 in
set_option maxRecDepth 100000 in
theorem wdivide_cut (n : Bool) (v : Value) (xs : List Int) (m0 : Bool) (u : Value) (ys : List Int) (w : World) (h : Sl w v xs) (g : Sl w u ys) (lx : xs.length ≤ 2048) (ly : ys.length ≤ 2048) (tx : Trimmed xs) (ty : Trimmed ys) (h0 : 0 < ys.length) :
    Calls Tryz.prog 41 #[.agg #[.bool n, v], .agg #[.bool m0, u]] w (WPartsA w n xs ys) := by
  have wx := h.wd
  have wy := g.wd
  have HY1 := hid (val_pos' wy ty h0)
  have HXL := hid (below2048 wx lx)
  have HYL := hid (below2048 wy ly)
  obtain ⟨a, cap, rfl, hr⟩ := h
  obtain ⟨b, cap', rfl, gr⟩ := g
  have h : Sl w (.slice a xs.length cap) xs := ⟨a, cap, rfl, hr⟩
  have g : Sl w (.slice b ys.length cap') ys := ⟨b, cap', rfl, gr⟩
  clear hr gr
  have HB : Hid (Below w.heap.size w ((w.alloc (.cells #[.bool n, .slice a xs.length cap] 24)).alloc (.cells #[.bool m0, .slice b ys.length cap'] 24))) := bt (alloc_later _ _) (alloc_later _ _)
  have HN : Hid (Box ((w.alloc (.cells #[.bool n, .slice a xs.length cap] 24)).alloc (.cells #[.bool m0, .slice b ys.length cap'] 24)) w.heap.size 24 #[.bool n, .slice a xs.length cap]) := Box.later (Box.made w _ _) (alloc_later _ _) (by simp)
  have HM : Hid (Box ((w.alloc (.cells #[.bool n, .slice a xs.length cap] 24)).alloc (.cells #[.bool m0, .slice b ys.length cap'] 24)) (w.heap.size + 1) 24 #[.bool m0, .slice b ys.length cap']) := by
    have e := Box.made (w.alloc (.cells #[.bool n, .slice a xs.length cap] 24)) 24 #[.bool m0, .slice b ys.length cap']
    simp at e
    exact e
  have HXS : Hid (w.heap.size ≤ ((w.alloc (.cells #[.bool n, .slice a xs.length cap] 24)).alloc (.cells #[.bool m0, .slice b ys.length cap'] 24)).heap.size) := HB.out.size
  have HD := hid (divMod_cut _ _ xs ys _ (h.later HB.out) (g.later HB.out) (by omega) (by omega) tx ty h0)
  have HG := hid (g.later HB.out)
  clear h g
  cases n with
  | false =>
    go_enter Tryz.func41, Tryz.ntmps41
    go_wp2_with fail
    refine Calls.mono HD.out ?_
    rintro e w1 ⟨v1, u1, q, r, rfl, oq, orr, wq, wr, tq, tr, hv, hlt, hb1, hcu⟩
    obtain ⟨p0, p1, _, _⟩ := res_box HN.out hb1
    obtain ⟨q0, q1, _, _⟩ := res_box HM.out hb1
    have hq := q_le hv HY1.out (val_nonneg wq) (val_nonneg wr)
    have hr0 := val_nonneg wr
    have HF : Hid (WPartsA w false xs ys (.returned (.tuple #[v1, u1])) w1) := ⟨v1, u1, q, r, rfl, owns_base oq HXS.out, owns_base orr HXS.out, wq, wr, tq, tr, short2048 wq tq (by have := HXL.out; omega), short2048 wr tr (by have := HYL.out; omega), hv, hlt, bt HB.out hb1, hcu.up HXS.out (Nat.le_refl _)⟩
    obtain ⟨a1, k1, hv1⟩ := own_slice' oq
    obtain ⟨a2, k2, hv2⟩ := own_slice' orr
    subst hv1
    subst hv2
    clear oq orr hv hlt hb1 hcu hq hr0
    go_wp2_with fail
    go_ret2
    exact HF.out
  | true =>
    go_enter Tryz.func41, Tryz.ntmps41
    go_wp2_with fail
    refine Calls.mono HD.out ?_
    rintro e w1 ⟨v1, u1, q, r, rfl, oq, orr, wq, wr, tq, tr, hv, hlt, hb1, hcu⟩
    obtain ⟨p0, p1, _, _⟩ := res_box HN.out hb1
    obtain ⟨q0, q1, _, _⟩ := res_box HM.out hb1
    have hq := q_le hv HY1.out (val_nonneg wq) (val_nonneg wr)
    have hr0 := val_nonneg wr
    have hq0 := val_nonneg wq
    by_cases hr : r.length = 0
    · have hrn : r = [] := List.eq_nil_of_length_eq_zero hr
      subst hrn
      have HF : Hid (WPartsA w true xs ys (.returned (.tuple #[v1, u1])) w1) := ⟨v1, u1, q, [], rfl, owns_base oq HXS.out, owns_base orr HXS.out, wq, wr, tq, tr, short2048 wq tq (by have := HXL.out; omega), by simp, by rw [hv]; rfl, hlt, bt HB.out hb1, hcu.up HXS.out (Nat.le_refl _)⟩
      obtain ⟨a1, k1, hv1⟩ := own_slice' oq
      obtain ⟨a2, k2, hv2⟩ := own_slice' orr
      subst hv1
      subst hv2
      clear oq orr hv hlt hb1 hcu hq hr0 hr
      go_wp2_with fail
      go_ret2
      exact HF.out
    · have hr1 := val_pos' wr tr (by omega)
      have hrb : ((r.length : Int) == 0) = false := by simp; exact fun e => hr (by rw [e]; rfl)
      have lq : q.length ≤ 2048 := short2048 wq tq (by have := HXL.out; omega)
      have lr : r.length ≤ 2048 := short2048 wr tr (by have := HYL.out; omega)
      have HQ := hid (Sl.own oq wq)
      have HR := hid (Sl.own orr wr)
      obtain ⟨a1, k1, hv1⟩ := own_slice' oq
      obtain ⟨a2, k2, hv2⟩ := own_slice' orr
      subst hv1
      subst hv2
      have HOF := hid (of_any 1 w1 (by omega) (by omega))
      have HB1 := hid hb1
      have HVL := hid (And.intro hv (And.intro hlt (And.intro hq (And.intro hr0 (And.intro hq0 hr1)))))
      clear oq orr hv hlt hb1 hcu hq hr0 hq0 hr1 hr HD
      go_wp2_with fail
      refine Calls.mono HOF.out ?_
      rintro e w2 ⟨v2, rfl, o2, hb2⟩
      have s2 := Sl.own (owns_len o2) (of_wd 1 (by omega) (by omega)).trimmed
      have e2 : trimmed [1 % 4294967296, 1 / 4294967296] = [1] := by decide
      rw [e2] at s2
      have HAD := hid (add_sl _ _ q [1] w2 (HQ.out.later hb2) s2 (by omega) (by simp))
      rw [both_good (chk_good (by omega) tq) (chk_good (by simp) (show Trimmed [1] from rfl)), val_one] at HAD
      have HB2 := hid (bt HB1.out hb2)
      have HR2 := hid (HR.out.later hb2)
      clear o2 hb2 s2 e2 HOF HR HQ p0 p1 q0 q1
      go_wp2_with fail
      refine Calls.mono HAD.out ?_
      rintro e w3 ⟨v3, z3, c3, rfl, o3, t3, hb3⟩
      have hw3 : val q + 1 < wide := by have := HVL.out; have := HXL.out; have := wide2048; omega
      obtain ⟨rfl, hv3⟩ := t3.good rfl hw3
      have w3' := t3.wd
      have tt3 := t3.trim
      obtain ⟨a3, k3, hs3⟩ := own_slice' o3
      subst hs3
      obtain ⟨q0, q1, _, _⟩ := res_box HM.out (bt HB2.out hb3)
      have HSB := hid (sub_sl _ _ ys r w3 ((HG.out.later HB2.out).later hb3) (HR2.out.later hb3) (by omega) (by omega))
      rw [if_pos (both_good (chk_good (by omega) ty) (chk_good (by omega) tr)), if_neg (by have := HVL.out.2.1; omega)] at HSB
      have HB3 := hid (bt HB2.out hb3)
      have HO3 := hid o3
      have HV3 := hid hv3
      clear o3 t3 hb3 hv3 hw3 HAD HR2
      go_wp2_with fail
      refine Calls.mono HSB.out ?_
      rintro e w4 ⟨v4, z4, c4, rfl, o4, t4, hb4⟩
      have hw4 : val ys - val r < wide := by have := HVL.out; have := HYL.out; have := wide2048; omega
      obtain ⟨rfl, hv4⟩ := t4.good rfl hw4
      have w4' := t4.wd
      have tt4 := t4.trim
      obtain ⟨a4, k4, hs4⟩ := own_slice' o4
      subst hs4
      have HF : Hid (WPartsA w true xs ys (.returned (.tuple #[.slice a3 z3.length k3, .slice a4 z4.length k4])) w4) := by
        obtain ⟨g1, g2, g3, g4, g5, g6⟩ := HVL.out
        refine ⟨_, _, z3, z4, rfl, owns_base (owns_later HO3.out hb4) (by have := HXS.out; have := HB2.out.size; omega), owns_base o4 (by have := HXS.out; have := HB3.out.size; omega), w3', w4', tt3, tt4, short2048 w3' tt3 (by rw [HV3.out]; have := HXL.out; omega), short2048 w4' tt4 (by rw [hv4]; have := HYL.out; omega), ?_, by rw [hv4]; omega, bt HB.out (bt HB3.out hb4), ⟨w3.heap.size, Nat.le_trans HXS.out HB3.out.size, hb4.size, fun g hg => ⟨Nat.le_trans (Nat.le_trans HXS.out HB2.out.size) (HO3.out.lt g hg).1, (HO3.out.lt g hg).2⟩, fun g hg => o4.lt g hg⟩⟩
        rw [HV3.out, hv4, Int.add_mul, Int.one_mul]
        show _ = _ + -(val ys - val r)
        omega
      clear o4 t4 hb4 hv4 hw4 HSB q0 q1
      go_wp2_with fail
      go_ret2
      exact HF.out

/-- Quotient and rest of whole numbers, in new memory, apart. -/
def WDivA (w : World) (X Y : Int) (x : Ending) (w' : World) : Prop := ∃ nq vq zq vr zr, x = .returned (.tuple #[.agg #[.bool nq, vq], .agg #[.bool false, vr], .int .i64 0]) ∧ w'.ownsRow w.heap.size 44 1 vq zq.length (zq.map (Value.int .u32)) ∧ w'.ownsRow w.heap.size 44 1 vr zr.length (zr.map (Value.int .u32)) ∧ Wd zq ∧ Wd zr ∧ Trimmed zq ∧ Trimmed zr ∧ zq.length ≤ 2048 ∧ zr.length ≤ 2048 ∧ (nq = false ∨ 0 < zq.length) ∧
  X = wval nq zq * Y + val zr ∧ val zr < (Y.natAbs : Int) ∧ Below w.heap.size w w' ∧ Cut w vq vr w'
set_option maxHeartbeats 3200000 in
set_option maxRecDepth 100000 in
theorem wdivMod_cut (n : Bool) (v : Value) (xs : List Int) (m0 : Bool) (u : Value) (ys : List Int) (w : World) (h : Sl w v xs) (g : Sl w u ys) (hx : wchk n xs = 0) (hy : wchk m0 ys = 0) (h0 : 0 < ys.length) :
    Calls Tryz.prog 12 #[.agg #[.bool n, v], .agg #[.bool m0, u]] w (WDivA w (wval n xs) (wval m0 ys)) := by
  obtain ⟨lx, tx, _⟩ := wchk_ok hx
  obtain ⟨ly, ty, _⟩ := wchk_ok hy
  have wx := h.wd
  have wy := g.wd
  obtain ⟨a, cap, rfl, hr⟩ := h
  obtain ⟨b, cap', rfl, gr⟩ := g
  have h : Sl w (.slice a xs.length cap) xs := ⟨a, cap, rfl, hr⟩
  have g : Sl w (.slice b ys.length cap') ys := ⟨b, cap', rfl, gr⟩
  clear hr gr
  have HB : Hid (Below w.heap.size w ((((w.alloc (.cells #[.bool n, .slice a xs.length cap] 24)).alloc (.cells #[.bool m0, .slice b ys.length cap'] 24)).alloc (.cells #[.bool false, .slice none 0 0] 24)).alloc (.cells #[.bool false, .slice none 0 0] 24))) := bt (bt (bt (alloc_later _ _) (alloc_later _ _)) (alloc_later _ _)) (alloc_later _ _)
  have HN : Hid (Box ((((w.alloc (.cells #[.bool n, .slice a xs.length cap] 24)).alloc (.cells #[.bool m0, .slice b ys.length cap'] 24)).alloc (.cells #[.bool false, .slice none 0 0] 24)).alloc (.cells #[.bool false, .slice none 0 0] 24)) w.heap.size 24 #[.bool n, .slice a xs.length cap]) := Box.later (Box.made w _ _) (bt (bt (alloc_later _ _) (alloc_later _ _)) (alloc_later _ _)) (by simp)
  have HM : Hid (Box ((((w.alloc (.cells #[.bool n, .slice a xs.length cap] 24)).alloc (.cells #[.bool m0, .slice b ys.length cap'] 24)).alloc (.cells #[.bool false, .slice none 0 0] 24)).alloc (.cells #[.bool false, .slice none 0 0] 24)) (w.heap.size + 1) 24 #[.bool m0, .slice b ys.length cap']) := by
    have e := Box.later (Box.made (w.alloc (.cells #[.bool n, .slice a xs.length cap] 24)) 24 #[.bool m0, .slice b ys.length cap']) (bt (alloc_later ((w.alloc (.cells #[.bool n, .slice a xs.length cap] 24)).alloc (.cells #[.bool m0, .slice b ys.length cap'] 24)) (.cells #[.bool false, .slice none 0 0] 24)) (alloc_later _ (.cells #[.bool false, .slice none 0 0] 24))) (by simp)
    simp at e
    exact e
  have HZ1 : Hid (Box ((((w.alloc (.cells #[.bool n, .slice a xs.length cap] 24)).alloc (.cells #[.bool m0, .slice b ys.length cap'] 24)).alloc (.cells #[.bool false, .slice none 0 0] 24)).alloc (.cells #[.bool false, .slice none 0 0] 24)) (w.heap.size + 1 + 1) 24 #[.bool false, .slice none 0 0]) := by
    have e := Box.later (Box.made ((w.alloc (.cells #[.bool n, .slice a xs.length cap] 24)).alloc (.cells #[.bool m0, .slice b ys.length cap'] 24)) 24 #[.bool false, .slice none 0 0]) (alloc_later (((w.alloc (.cells #[.bool n, .slice a xs.length cap] 24)).alloc (.cells #[.bool m0, .slice b ys.length cap'] 24)).alloc (.cells #[.bool false, .slice none 0 0] 24)) (.cells #[.bool false, .slice none 0 0] 24)) (by simp)
    simp at e
    exact e
  have HZ2 : Hid (Box ((((w.alloc (.cells #[.bool n, .slice a xs.length cap] 24)).alloc (.cells #[.bool m0, .slice b ys.length cap'] 24)).alloc (.cells #[.bool false, .slice none 0 0] 24)).alloc (.cells #[.bool false, .slice none 0 0] 24)) (w.heap.size + 1 + 1 + 1) 24 #[.bool false, .slice none 0 0]) := by
    have e := Box.made (((w.alloc (.cells #[.bool n, .slice a xs.length cap] 24)).alloc (.cells #[.bool m0, .slice b ys.length cap'] 24)).alloc (.cells #[.bool false, .slice none 0 0] 24)) 24 #[.bool false, .slice none 0 0]
    simp at e
    exact e
  have HXS : Hid (w.heap.size + 1 + 1 + 1 < ((((w.alloc (.cells #[.bool n, .slice a xs.length cap] 24)).alloc (.cells #[.bool m0, .slice b ys.length cap'] 24)).alloc (.cells #[.bool false, .slice none 0 0] 24)).alloc (.cells #[.bool false, .slice none 0 0] 24)).heap.size) := HZ2.out.lt
  have HCB := hid (wcheckBoth_any n _ xs m0 _ ys _ (h.later HB.out) (g.later HB.out) (by omega) (by omega))
  rw [wboth_good hx hy] at HCB
  have HIN := hid (fun w1 (hb : Below _ ((((w.alloc (.cells #[.bool n, .slice a xs.length cap] 24)).alloc (.cells #[.bool m0, .slice b ys.length cap'] 24)).alloc (.cells #[.bool false, .slice none 0 0] 24)).alloc (.cells #[.bool false, .slice none 0 0] 24)) w1) => wdivide_cut n _ xs m0 _ ys w1 ((h.later HB.out).later hb) ((g.later HB.out).later hb) lx ly tx ty h0)
  have hyb : ((ys.length : Int) == 0) = false := by simp; exact fun e => by rw [e] at h0; simp at h0
  clear h g hx hy
  go_enter Tryz.func12, Tryz.ntmps12
  go_wp2_with fail
  refine Calls.mono HCB.out ?_
  rintro e w1 ⟨rfl, hb1⟩
  obtain ⟨p0, p1, _, _⟩ := res_box HN.out hb1
  obtain ⟨q0, q1, _, _⟩ := res_box HM.out hb1
  have HIN1 := hid (HIN.out w1 hb1)
  have HB1 := hid hb1
  clear hb1 HIN
  go_wp2_with fail
  refine Calls.mono HIN1.out ?_
  rintro e w2 ⟨v1, u1, q, r, rfl, oq, orr, wq, wr, tq, tr, lq, lr, hv, hlt, hb2, hcu⟩
  obtain ⟨a1, k1, hs1⟩ := own_slice' oq
  obtain ⟨a2, k2, hs2⟩ := own_slice' orr
  subst hs1
  subst hs2
  have HB2 := hid (bt HB1.out hb2)
  obtain ⟨p0, p1, _, _⟩ := res_box HN.out HB2.out
  obtain ⟨q0, q1, _, _⟩ := res_box HM.out HB2.out
  have HU := hid (wunlike_any n a xs.length cap m0 b ys.length cap' w2)
  have HOQ := hid (owns_base oq HB1.out.size)
  have HOR := hid (owns_base orr HB1.out.size)
  have HVV := hid (And.intro hv hlt)
  have HCU := hid (hcu.up (Nat.le_trans HB.out.size HB1.out.size) (Nat.le_refl w2.heap.size))
  clear hcu
  obtain ⟨sn, hsn⟩ : ∃ sn, (n != m0) = sn := ⟨_, rfl⟩
  rw [hsn] at HU
  have HSN := hid hsn
  clear oq orr hv hlt hb2 hsn HIN1
  go_wp2_with fail
  refine Calls.mono HU.out ?_
  rintro e w3 ⟨rfl, hb3⟩
  have HF1 := hid (formed_any sn a1 q.length k1 w3)
  have HB3 := hid (bt HB2.out hb3)
  have HS3 := hid hb3.size
  have HOQ3 := hid (owns_later HOQ.out hb3)
  have HOR3 := hid (owns_later HOR.out hb3)
  obtain ⟨nb, hnb⟩ : ∃ nb, (sn && decide (0 < q.length)) = nb := ⟨_, rfl⟩
  rw [hnb] at HF1
  have HNB := hid hnb
  clear hb3 hnb p0 p1 q0 q1 HU HOQ HOR
  go_wp2_with fail
  refine Calls.mono HF1.out ?_
  rintro e w4 ⟨rfl, hb4⟩
  have HF2 := hid (formed_any false a2 r.length k2 w4)
  have HB4 := hid (bt HB3.out hb4)
  have HS4 := hid (Nat.le_trans HS3.out hb4.size)
  have HOQ4 := hid (owns_later HOQ3.out hb4)
  have HOR4 := hid (owns_later HOR3.out hb4)
  rw [Bool.false_and] at HF2
  clear hb4 HF1 HOQ3 HOR3
  go_wp2_with fail
  refine Calls.mono HF2.out ?_
  rintro e w5 ⟨rfl, hb5⟩
  obtain ⟨r0, r1, f0, f1⟩ := res_box HZ1.out (bt HB4.out hb5)
  obtain ⟨s0, s1, g0, g1⟩ := res_box HZ2.out (bt HB4.out hb5)
  have HOQ5 := hid (owns_later HOQ4.out hb5)
  have HOR5 := hid (owns_later HOR4.out hb5)
  have HB5 := hid (bt HB.out (bt HB4.out hb5))
  have HS5 := hid (Nat.le_trans HS4.out hb5.size)
  clear hb5 HF2 HOQ4 HOR4
  go_wp2_with fail
  refine bodyPost_ret (v := .tuple #[.agg #[.bool nb, .slice a1 q.length k1], .agg #[.bool false, .slice a2 r.length k2], .int .i64 0]) (by simp [results, Tryz.results12, go_sem, r0, r1, s0, s1]) rfl ?_
  have hge : ∀ (z : Value) (zs : List Int), w5.ownsRow ((((w.alloc (.cells #[.bool n, .slice a xs.length cap] 24)).alloc (.cells #[.bool m0, .slice b ys.length cap'] 24)).alloc (.cells #[.bool false, .slice none 0 0] 24)).alloc (.cells #[.bool false, .slice none 0 0] 24)).heap.size 44 1 z zs.length (zs.map (Value.int .u32)) → ∀ g, z.ownBlock = some g → g ≠ w.heap.size + 1 + 1 ∧ g ≠ w.heap.size + 1 + 1 + 1 := fun z zs ho g hg => by
    have h1 := (World.ownsRow.lt ho g hg).1
    have h2 := HXS.out
    omega
  have hwn : wval nb q = sg sn (val q) := by
    rw [← HNB.out]
    unfold wval sg
    cases sn with
    | false => rfl
    | true =>
      by_cases c : 0 < q.length
      · simp [c]
      · have e0 : val q = 0 := trimmed_zero' (by omega)
        simp [c, e0]
  refine ⟨nb, _, q, _, r, rfl, owns_base (own_put2 (own_put2 HOQ5.out _ (fun g hg => (hge _ q HOQ5.out g hg).1) _ _) _ (fun g hg => (hge _ q HOQ5.out g hg).2) _ _) (by have := HXS.out; omega), owns_base (own_put2 (own_put2 HOR5.out _ (fun g hg => (hge _ r HOR5.out g hg).1) _ _) _ (fun g hg => (hge _ r HOR5.out g hg).2) _ _) (by have := HXS.out; omega), wq, wr, tq, tr, lq, lr, ?_, ?_, ?_, below_put2 (below_put2 HB5.out _ (by omega) _ _) _ (by omega) _ _, HCU.out.up (Nat.le_refl _) (by simpa using HS5.out)⟩
  · rw [← HNB.out]
    by_cases c : 0 < q.length
    · exact .inr c
    · left; simp [c]
  · rw [hwn, ← HSN.out]
    exact div_sign HVV.out.1
  · have e1 := HVV.out.2
    have e2 := val_nonneg wy
    unfold wval
    cases m0 <;> simp <;> omega
end Go.Proofs.YtgknjdademncdaaGreat

/- Whole numbers: DivMod by nothing; a struct in memory. -/
namespace Go.Proofs.YtgknjdademncdaaGreat
open Go.RowKit
set_option linter.unusedVariables false

/-- A whole number in memory, and its words. -/
structure Vr (U : World) (b : Nat) (n : Bool) (a : Option Addr) (c : Nat) (xs : List Int) : Prop where
  box : Box U b 24 #[.bool n, .slice a xs.length c]
  sl : Sl U (.slice a xs.length c) xs
theorem Vr.later {U V : World} {b : Nat} {n : Bool} {a : Option Addr} {c : Nat} {xs : List Int} (h : Vr U b n a c xs) (hb : Below U.heap.size U V) : Vr V b n a c xs := ⟨h.box.later hb h.box.lt, h.sl.later hb⟩
theorem Vr.c0 {U : World} {b : Nat} {n : Bool} {a : Option Addr} {c : Nat} {xs : List Int} (h : Vr U b n a c xs) : U.cell? ⟨b, 0, none⟩ = some (.bool n) := h.box.cell 0
theorem Vr.c1 {U : World} {b : Nat} {n : Bool} {a : Option Addr} {c : Nat} {xs : List Int} (h : Vr U b n a c xs) : U.cell? ⟨b, 1, none⟩ = some (.slice a xs.length c) := h.box.cell 1
theorem Vr.new {U V : World} {n : Bool} {a : Option Addr} {c : Nat} {xs : List Int} (h : Sl U (.slice a xs.length c) xs) (hb : Below (U.alloc (.cells #[.bool n, .slice a xs.length c] 24)).heap.size (U.alloc (.cells #[.bool n, .slice a xs.length c] 24)) V) : Vr V U.heap.size n a c xs :=
  Vr.later ⟨Box.made U _ _, h.later (alloc_later _ _)⟩ hb

set_option maxHeartbeats 3200000 in
set_option maxRecDepth 100000 in
theorem wdivMod_zero (n : Bool) (v : Value) (xs : List Int) (m0 : Bool) (u : Value) (w : World) (h : Sl w v xs) (g : Sl w u []) (hx : wchk n xs = 0) (hy : wchk m0 [] = 0) :
    Calls Tryz.prog 12 #[.agg #[.bool n, v], .agg #[.bool m0, u]] w fun e w' => e = .returned (.tuple #[.agg #[.bool false, .slice none 0 0], .agg #[.bool false, .slice none 0 0], .int .i64 7]) ∧ Below w.heap.size w w' := by
  obtain ⟨lx, tx, _⟩ := wchk_ok hx
  obtain ⟨ys, hys⟩ : ∃ ys : List Int, ys = [] := ⟨_, rfl⟩
  rw [← hys] at g hy
  obtain ⟨a, cap, rfl, hr⟩ := h
  obtain ⟨b, cap', rfl, gr⟩ := g
  have h : Sl w (.slice a xs.length cap) xs := ⟨a, cap, rfl, hr⟩
  have g : Sl w (.slice b ys.length cap') ys := ⟨b, cap', rfl, gr⟩
  clear hr gr
  have HB : Hid (Below w.heap.size w ((((w.alloc (.cells #[.bool n, .slice a xs.length cap] 24)).alloc (.cells #[.bool m0, .slice b ys.length cap'] 24)).alloc (.cells #[.bool false, .slice none 0 0] 24)).alloc (.cells #[.bool false, .slice none 0 0] 24))) := bt (bt (bt (alloc_later _ _) (alloc_later _ _)) (alloc_later _ _)) (alloc_later _ _)
  have HM : Hid (Box ((((w.alloc (.cells #[.bool n, .slice a xs.length cap] 24)).alloc (.cells #[.bool m0, .slice b ys.length cap'] 24)).alloc (.cells #[.bool false, .slice none 0 0] 24)).alloc (.cells #[.bool false, .slice none 0 0] 24)) (w.heap.size + 1) 24 #[.bool m0, .slice b ys.length cap']) := by
    have e := Box.later (Box.made (w.alloc (.cells #[.bool n, .slice a xs.length cap] 24)) 24 #[.bool m0, .slice b ys.length cap']) (bt (alloc_later ((w.alloc (.cells #[.bool n, .slice a xs.length cap] 24)).alloc (.cells #[.bool m0, .slice b ys.length cap'] 24)) (.cells #[.bool false, .slice none 0 0] 24)) (alloc_later _ (.cells #[.bool false, .slice none 0 0] 24))) (by simp)
    simp at e
    exact e
  have HZ1 : Hid (Box ((((w.alloc (.cells #[.bool n, .slice a xs.length cap] 24)).alloc (.cells #[.bool m0, .slice b ys.length cap'] 24)).alloc (.cells #[.bool false, .slice none 0 0] 24)).alloc (.cells #[.bool false, .slice none 0 0] 24)) (w.heap.size + 1 + 1) 24 #[.bool false, .slice none 0 0]) := by
    have e := Box.later (Box.made ((w.alloc (.cells #[.bool n, .slice a xs.length cap] 24)).alloc (.cells #[.bool m0, .slice b ys.length cap'] 24)) 24 #[.bool false, .slice none 0 0]) (alloc_later (((w.alloc (.cells #[.bool n, .slice a xs.length cap] 24)).alloc (.cells #[.bool m0, .slice b ys.length cap'] 24)).alloc (.cells #[.bool false, .slice none 0 0] 24)) (.cells #[.bool false, .slice none 0 0] 24)) (by simp)
    simp at e
    exact e
  have HZ2 : Hid (Box ((((w.alloc (.cells #[.bool n, .slice a xs.length cap] 24)).alloc (.cells #[.bool m0, .slice b ys.length cap'] 24)).alloc (.cells #[.bool false, .slice none 0 0] 24)).alloc (.cells #[.bool false, .slice none 0 0] 24)) (w.heap.size + 1 + 1 + 1) 24 #[.bool false, .slice none 0 0]) := by
    have e := Box.made (((w.alloc (.cells #[.bool n, .slice a xs.length cap] 24)).alloc (.cells #[.bool m0, .slice b ys.length cap'] 24)).alloc (.cells #[.bool false, .slice none 0 0] 24)) 24 #[.bool false, .slice none 0 0]
    simp at e
    exact e
  have HCB := hid (wcheckBoth_any n _ xs m0 _ ys _ (h.later HB.out) (g.later HB.out) (by omega) (by rw [hys]; simp))
  rw [wboth_good hx hy] at HCB
  have hyl : ys.length = 0 := by rw [hys]; rfl
  rw [hyl] at HB HM HZ1 HZ2 HCB ⊢
  clear h g hx hy hyl hys
  go_enter Tryz.func12, Tryz.ntmps12
  go_wp2_with fail
  refine Calls.mono HCB.out ?_
  rintro e w1 ⟨rfl, hb1⟩
  obtain ⟨q0, q1, _, _⟩ := res_box HM.out hb1
  obtain ⟨r0, r1, f0, f1⟩ := res_box HZ1.out hb1
  obtain ⟨s0, s1, g0, g1⟩ := res_box HZ2.out hb1
  have HBW := hid (bt HB.out hb1)
  clear hb1
  go_wp2_with fail
  go_region
  all_goals
    go_wp2_with fail
    refine bodyPost_ret (v := .tuple #[.agg #[.bool false, .slice none 0 0], .agg #[.bool false, .slice none 0 0], .int .i64 7]) (by simp [results, Tryz.results12, go_sem, r0, r1, s0, s1]) rfl ?_
    first
      | exact ⟨rfl, (below_put2 (below_put2 HBW.out _ (by omega) _ _) _ (by omega) _ _).drew⟩
      | exact ⟨rfl, below_put2 (below_put2 HBW.out.drew _ (by omega) _ _) _ (by omega) _ _⟩

/-- What a number of at most 40 words is below. -/
def lim40 : Int := 4294967296 ^ 40
theorem lim40_pos : 0 < lim40 := pw_pos 40
theorem lim40_le : 2 * lim40 ≤ wlim := by
  unfold lim40 wlim
  have e : (4294967296 : Int) ^ (40 + 1) ≤ 4294967296 ^ 2048 := pw_le (by omega)
  rw [pw_succ] at e
  have := pw_pos 40
  generalize (4294967296 : Int) ^ 40 = P at *
  generalize (4294967296 : Int) ^ 2048 = Q at *
  omega
theorem below40 {n : Bool} {zs : List Int} (hw : Wd zs) (hl : zs.length ≤ 40) : -lim40 < wval n zs ∧ wval n zs < lim40 := by
  have h1 := val_lt hw
  have h2 : (4294967296 : Int) ^ zs.length ≤ 4294967296 ^ 40 := pw_le hl
  have h3 := val_nonneg hw
  have h4 : val zs < lim40 := Int.lt_of_lt_of_le h1 h2
  have h5 := lim40_pos
  cases n <;> simp [wval] <;> omega
theorem abs_wval (n : Bool) {xs : List Int} (hw : Wd xs) : ((wval n xs).natAbs : Int) = val xs := by
  have := val_nonneg hw
  cases n <;> simp [wval] <;> omega
/-- A rest below the divisor's size leaves the product no greater than the number and that size. -/
theorem prod_small {X Y Q R : Int} (h : X = Q * Y + R) (hr : R < (Y.natAbs : Int)) (h0 : 0 ≤ R) (hX : -lim40 < X ∧ X < lim40) (hB : -lim40 < Y ∧ Y < lim40) : -wlim < Q * Y ∧ Q * Y < wlim := by
  have := lim40_le
  omega
end Go.Proofs.YtgknjdademncdaaGreat

/- Whole numbers: whole.Gcd: of every two numbers that may be. -/
namespace Go.Proofs.YtgknjdademncdaaGreat
open Go.RowKit
set_option linter.unusedVariables false

set_option maxHeartbeats 3200000 in
set_option maxRecDepth 100000 in
theorem wgcd_any (n : Bool) (v : Value) (xs : List Int) (m0 : Bool) (u : Value) (ys : List Int) (w : World) (h : Sl w v xs) (g : Sl w u ys) (hx : wchk n xs = 0) (hy : wchk m0 ys = 0) :
    Calls Tryz.prog 13 #[.agg #[.bool n, v], .agg #[.bool m0, u]] w (WTold w 0 (gcdI (val xs) (val ys))) := by
  obtain ⟨lx, tx, _⟩ := wchk_ok hx
  obtain ⟨ly, ty, _⟩ := wchk_ok hy
  obtain ⟨a, cap, rfl, hr⟩ := h
  obtain ⟨b, cap', rfl, gr⟩ := g
  have h : Sl w (.slice a xs.length cap) xs := ⟨a, cap, rfl, hr⟩
  have g : Sl w (.slice b ys.length cap') ys := ⟨b, cap', rfl, gr⟩
  clear hr gr
  have HB : Hid (Below w.heap.size w (((w.alloc (.cells #[.bool n, .slice a xs.length cap] 24)).alloc (.cells #[.bool m0, .slice b ys.length cap'] 24)).alloc (.cells #[.bool false, .slice none 0 0] 24))) := bt (bt (alloc_later _ _) (alloc_later _ _)) (alloc_later _ _)
  have HXB : Hid (Box (((w.alloc (.cells #[.bool n, .slice a xs.length cap] 24)).alloc (.cells #[.bool m0, .slice b ys.length cap'] 24)).alloc (.cells #[.bool false, .slice none 0 0] 24)) (w.heap.size + 1 + 1) 24 #[.bool false, .slice none 0 0]) := by
    have e := Box.made ((w.alloc (.cells #[.bool n, .slice a xs.length cap] 24)).alloc (.cells #[.bool m0, .slice b ys.length cap'] 24)) 24 #[.bool false, .slice none 0 0]
    simp at e
    exact e
  have HXR : Hid (w.heap.size ≤ w.heap.size + 1 + 1 ∧ w.heap.size + 1 + 1 < (((w.alloc (.cells #[.bool n, .slice a xs.length cap] 24)).alloc (.cells #[.bool m0, .slice b ys.length cap'] 24)).alloc (.cells #[.bool false, .slice none 0 0] 24)).heap.size) := ⟨by omega, HXB.out.lt⟩
  have HN : Hid (Box (((w.alloc (.cells #[.bool n, .slice a xs.length cap] 24)).alloc (.cells #[.bool m0, .slice b ys.length cap'] 24)).alloc (.cells #[.bool false, .slice none 0 0] 24)) w.heap.size 24 #[.bool n, .slice a xs.length cap]) := Box.later (Box.made w _ _) (bt (alloc_later _ _) (alloc_later _ _)) (by simp)
  have HM : Hid (Box (((w.alloc (.cells #[.bool n, .slice a xs.length cap] 24)).alloc (.cells #[.bool m0, .slice b ys.length cap'] 24)).alloc (.cells #[.bool false, .slice none 0 0] 24)) (w.heap.size + 1) 24 #[.bool m0, .slice b ys.length cap']) := by
    have e := Box.later (Box.made (w.alloc (.cells #[.bool n, .slice a xs.length cap] 24)) 24 #[.bool m0, .slice b ys.length cap']) (alloc_later ((w.alloc (.cells #[.bool n, .slice a xs.length cap] 24)).alloc (.cells #[.bool m0, .slice b ys.length cap'] 24)) (.cells #[.bool false, .slice none 0 0] 24)) (by simp)
    simp at e
    exact e
  have HCB := hid (wcheckBoth_any n _ xs m0 _ ys _ (h.later HB.out) (g.later HB.out) (by omega) (by omega))
  rw [wboth_good hx hy] at HCB
  have HSL := hid (And.intro (h.later HB.out) (g.later HB.out))
  have HT : Hid (0 ≤ gcdI (val xs) (val ys) ∧ sg false (gcdI (val xs) (val ys)) = gcdI (val xs) (val ys)) := ⟨gcdI_nonneg _ _, rfl⟩
  clear h g hx hy
  go_enter Tryz.func13, Tryz.ntmps13
  go_wp2_with fail
  refine Calls.mono HCB.out ?_
  rintro e w1 ⟨rfl, hb1⟩
  obtain ⟨p0, p1, _, _⟩ := res_box HN.out hb1
  obtain ⟨q0, q1, _, _⟩ := res_box HM.out hb1
  have HS := hid (gcd_sl _ _ xs ys w1 (HSL.out.1.later hb1) (HSL.out.2.later hb1) (by omega) (by omega))
  rw [both_good (chk_good (by omega) tx) (chk_good (by omega) ty)] at HS
  have HB1 := hid hb1
  clear hb1
  go_wp2_with fail
  refine Calls.mono HS.out ?_
  rintro e w2 ⟨v2, zs, code, rfl, o2, t2, hb2⟩
  obtain ⟨a2, c2, hv2⟩ := own_slice' o2
  subst hv2
  obtain ⟨m3, us, cc, e1, e2, wt⟩ := wtells_of (n := false) t2 HT.out.1
  rw [HT.out.2] at wt
  have HTD := hid (wtold_any false a2 zs.length c2 code w2 (tells_code t2))
  rw [e1 a2 c2] at HTD
  have HO2 := hid (owns_base o2 HB1.out.size)
  have HB2 := hid (bt HB1.out hb2)
  have HWT := hid wt
  have HE2 := hid e2
  clear o2 t2 hb2 e1 e2 wt p0 p1 q0 q1
  go_wp2_with fail
  refine Calls.mono HTD.out ?_
  rintro e w3 ⟨rfl, hb3⟩
  obtain ⟨r0, r1, f0, f1⟩ := res_box HXB.out (bt HB2.out hb3)
  have HO3 := hid (wtold_cut HWT.out HE2.out (owns_later HO2.out hb3))
  obtain ⟨a3, k3, c3, e3⟩ := cut_slice cc a2 zs.length c2
  rw [e3] at HO3 ⊢
  have HBC := hid (bt HB.out (bt HB2.out hb3))
  have HGE : Hid (∀ g, (Value.slice a3 k3 c3).ownBlock = some g → g ≠ w.heap.size + 1 + 1) := fun g hg => by
    have h1 := (World.ownsRow.lt HO3.out g hg).1
    have h2 := HXR.out
    omega
  clear hb3 e3
  go_wp2_with fail
  refine bodyPost_ret (v := .tuple #[.agg #[.bool m3, .slice a3 k3 c3], .int .i64 cc]) (by simp [results, Tryz.results13, go_sem, r0, r1]) rfl ?_
  exact ⟨m3, _, us, cc, rfl, owns_base (own_put2 HO3.out _ HGE.out _ _) (by have := HXR.out; omega), HWT.out, below_put2 HBC.out _ (by have := HXR.out; omega) _ _⟩
end Go.Proofs.YtgknjdademncdaaGreat

/- Whole numbers: DivMod refuses: the program's and the document's. -/
namespace Go.Proofs.YtgknjdademncdaaGreat
open Go.RowKit
set_option linter.unusedVariables false

set_option maxHeartbeats 3200000 in
set_option maxRecDepth 100000 in
theorem wdivMod_err (n : Bool) (v : Value) (xs : List Int) (m0 : Bool) (u : Value) (ys : List Int) (w : World) (h : Sl w v xs) (g : Sl w u ys) (hn : xs.length ≤ 281474976710656) (hm : ys.length ≤ 281474976710656) (hz : wboth n xs m0 ys ≠ 0) :
    Calls Tryz.prog 12 #[.agg #[.bool n, v], .agg #[.bool m0, u]] w fun e w' => e = .returned (.tuple #[.agg #[.bool false, .slice none 0 0], .agg #[.bool false, .slice none 0 0], .int .i64 (wboth n xs m0 ys)]) ∧ Below w.heap.size w w' := by
  obtain ⟨a, cap, rfl, hr⟩ := h
  obtain ⟨b, cap', rfl, gr⟩ := g
  have h : Sl w (.slice a xs.length cap) xs := ⟨a, cap, rfl, hr⟩
  have g : Sl w (.slice b ys.length cap') ys := ⟨b, cap', rfl, gr⟩
  clear hr gr
  have HB : Hid (Below w.heap.size w ((((w.alloc (.cells #[.bool n, .slice a xs.length cap] 24)).alloc (.cells #[.bool m0, .slice b ys.length cap'] 24)).alloc (.cells #[.bool false, .slice none 0 0] 24)).alloc (.cells #[.bool false, .slice none 0 0] 24))) := bt (bt (bt (alloc_later _ _) (alloc_later _ _)) (alloc_later _ _)) (alloc_later _ _)
  have HM : Hid (Box ((((w.alloc (.cells #[.bool n, .slice a xs.length cap] 24)).alloc (.cells #[.bool m0, .slice b ys.length cap'] 24)).alloc (.cells #[.bool false, .slice none 0 0] 24)).alloc (.cells #[.bool false, .slice none 0 0] 24)) (w.heap.size + 1) 24 #[.bool m0, .slice b ys.length cap']) := by
    have e := Box.later (Box.made (w.alloc (.cells #[.bool n, .slice a xs.length cap] 24)) 24 #[.bool m0, .slice b ys.length cap']) (bt (alloc_later ((w.alloc (.cells #[.bool n, .slice a xs.length cap] 24)).alloc (.cells #[.bool m0, .slice b ys.length cap'] 24)) (.cells #[.bool false, .slice none 0 0] 24)) (alloc_later _ (.cells #[.bool false, .slice none 0 0] 24))) (by simp)
    simp at e
    exact e
  have HZ1 : Hid (Box ((((w.alloc (.cells #[.bool n, .slice a xs.length cap] 24)).alloc (.cells #[.bool m0, .slice b ys.length cap'] 24)).alloc (.cells #[.bool false, .slice none 0 0] 24)).alloc (.cells #[.bool false, .slice none 0 0] 24)) (w.heap.size + 1 + 1) 24 #[.bool false, .slice none 0 0]) := by
    have e := Box.later (Box.made ((w.alloc (.cells #[.bool n, .slice a xs.length cap] 24)).alloc (.cells #[.bool m0, .slice b ys.length cap'] 24)) 24 #[.bool false, .slice none 0 0]) (alloc_later (((w.alloc (.cells #[.bool n, .slice a xs.length cap] 24)).alloc (.cells #[.bool m0, .slice b ys.length cap'] 24)).alloc (.cells #[.bool false, .slice none 0 0] 24)) (.cells #[.bool false, .slice none 0 0] 24)) (by simp)
    simp at e
    exact e
  have HZ2 : Hid (Box ((((w.alloc (.cells #[.bool n, .slice a xs.length cap] 24)).alloc (.cells #[.bool m0, .slice b ys.length cap'] 24)).alloc (.cells #[.bool false, .slice none 0 0] 24)).alloc (.cells #[.bool false, .slice none 0 0] 24)) (w.heap.size + 1 + 1 + 1) 24 #[.bool false, .slice none 0 0]) := by
    have e := Box.made (((w.alloc (.cells #[.bool n, .slice a xs.length cap] 24)).alloc (.cells #[.bool m0, .slice b ys.length cap'] 24)).alloc (.cells #[.bool false, .slice none 0 0] 24)) 24 #[.bool false, .slice none 0 0]
    simp at e
    exact e
  have HCB := hid (wcheckBoth_any n _ xs m0 _ ys _ (h.later HB.out) (g.later HB.out) hn hm)
  have hne : (wboth n xs m0 ys != 0) = true := by simp [hz]
  obtain ⟨ec, he⟩ : ∃ ec, wboth n xs m0 ys = ec := ⟨_, rfl⟩
  rw [he] at HCB hne hz ⊢
  clear h g he
  go_enter Tryz.func12, Tryz.ntmps12
  go_wp2_with fail
  refine Calls.mono HCB.out ?_
  rintro e w1 ⟨rfl, hb1⟩
  obtain ⟨q0, q1, _, _⟩ := res_box HM.out hb1
  obtain ⟨r0, r1, f0, f1⟩ := res_box HZ1.out hb1
  obtain ⟨s0, s1, g0, g1⟩ := res_box HZ2.out hb1
  have HBW := hid (bt HB.out hb1)
  clear hb1
  go_wp2_with fail
  go_region
  all_goals
    go_wp2_with fail
    refine bodyPost_ret (v := .tuple #[.agg #[.bool false, .slice none 0 0], .agg #[.bool false, .slice none 0 0], .int .i64 ec]) (by simp [results, Tryz.results12, go_sem, r0, r1, s0, s1]) rfl ?_
    first
      | exact ⟨rfl, (below_put2 (below_put2 HBW.out _ (by omega) _ _) _ (by omega) _ _).drew⟩
      | exact ⟨rfl, below_put2 (below_put2 HBW.out.drew _ (by omega) _ _) _ (by omega) _ _⟩

set_option maxHeartbeats 3200000 in
set_option maxRecDepth 100000 in
theorem refWDivMod_err (n : Bool) (v : Value) (xs : List Int) (m0 : Bool) (u : Value) (ys : List Int) (w : World) (h : Sl w v xs) (g : Sl w u ys) (hn : xs.length ≤ 281474976710656) (hm : ys.length ≤ 281474976710656) (hz : wboth n xs m0 ys ≠ 0) :
    Calls Tryz.prog 24 #[.agg #[.bool n, v], .agg #[.bool m0, u]] w fun e w' => e = .returned (.tuple #[.agg #[.bool false, .slice none 0 0], .agg #[.bool false, .slice none 0 0], .int .i64 (wboth n xs m0 ys)]) ∧ Below w.heap.size w w' := by
  obtain ⟨a, cap, rfl, hr⟩ := h
  obtain ⟨b, cap', rfl, gr⟩ := g
  have h : Sl w (.slice a xs.length cap) xs := ⟨a, cap, rfl, hr⟩
  have g : Sl w (.slice b ys.length cap') ys := ⟨b, cap', rfl, gr⟩
  clear hr gr
  have HB : Hid (Below w.heap.size w ((((w.alloc (.cells #[.bool n, .slice a xs.length cap] 24)).alloc (.cells #[.bool m0, .slice b ys.length cap'] 24)).alloc (.cells #[.bool false, .slice none 0 0] 24)).alloc (.cells #[.bool false, .slice none 0 0] 24))) := bt (bt (bt (alloc_later _ _) (alloc_later _ _)) (alloc_later _ _)) (alloc_later _ _)
  have HM : Hid (Box ((((w.alloc (.cells #[.bool n, .slice a xs.length cap] 24)).alloc (.cells #[.bool m0, .slice b ys.length cap'] 24)).alloc (.cells #[.bool false, .slice none 0 0] 24)).alloc (.cells #[.bool false, .slice none 0 0] 24)) (w.heap.size + 1) 24 #[.bool m0, .slice b ys.length cap']) := by
    have e := Box.later (Box.made (w.alloc (.cells #[.bool n, .slice a xs.length cap] 24)) 24 #[.bool m0, .slice b ys.length cap']) (bt (alloc_later ((w.alloc (.cells #[.bool n, .slice a xs.length cap] 24)).alloc (.cells #[.bool m0, .slice b ys.length cap'] 24)) (.cells #[.bool false, .slice none 0 0] 24)) (alloc_later _ (.cells #[.bool false, .slice none 0 0] 24))) (by simp)
    simp at e
    exact e
  have HZ1 : Hid (Box ((((w.alloc (.cells #[.bool n, .slice a xs.length cap] 24)).alloc (.cells #[.bool m0, .slice b ys.length cap'] 24)).alloc (.cells #[.bool false, .slice none 0 0] 24)).alloc (.cells #[.bool false, .slice none 0 0] 24)) (w.heap.size + 1 + 1) 24 #[.bool false, .slice none 0 0]) := by
    have e := Box.later (Box.made ((w.alloc (.cells #[.bool n, .slice a xs.length cap] 24)).alloc (.cells #[.bool m0, .slice b ys.length cap'] 24)) 24 #[.bool false, .slice none 0 0]) (alloc_later (((w.alloc (.cells #[.bool n, .slice a xs.length cap] 24)).alloc (.cells #[.bool m0, .slice b ys.length cap'] 24)).alloc (.cells #[.bool false, .slice none 0 0] 24)) (.cells #[.bool false, .slice none 0 0] 24)) (by simp)
    simp at e
    exact e
  have HZ2 : Hid (Box ((((w.alloc (.cells #[.bool n, .slice a xs.length cap] 24)).alloc (.cells #[.bool m0, .slice b ys.length cap'] 24)).alloc (.cells #[.bool false, .slice none 0 0] 24)).alloc (.cells #[.bool false, .slice none 0 0] 24)) (w.heap.size + 1 + 1 + 1) 24 #[.bool false, .slice none 0 0]) := by
    have e := Box.made (((w.alloc (.cells #[.bool n, .slice a xs.length cap] 24)).alloc (.cells #[.bool m0, .slice b ys.length cap'] 24)).alloc (.cells #[.bool false, .slice none 0 0] 24)) 24 #[.bool false, .slice none 0 0]
    simp at e
    exact e
  have HCB := hid (refWBoth_any n _ xs m0 _ ys _ (h.later HB.out) (g.later HB.out) hn hm)
  have hne : (wboth n xs m0 ys != 0) = true := by simp [hz]
  obtain ⟨ec, he⟩ : ∃ ec, wboth n xs m0 ys = ec := ⟨_, rfl⟩
  rw [he] at HCB hne hz ⊢
  clear h g he
  go_enter Tryz.func24, Tryz.ntmps24
  go_wp2_with fail
  refine Calls.mono HCB.out ?_
  rintro e w1 ⟨rfl, hb1⟩
  obtain ⟨q0, q1, _, _⟩ := res_box HM.out hb1
  obtain ⟨r0, r1, f0, f1⟩ := res_box HZ1.out hb1
  obtain ⟨s0, s1, g0, g1⟩ := res_box HZ2.out hb1
  have HBW := hid (bt HB.out hb1)
  clear hb1
  go_wp2_with fail
  refine bodyPost_ret (v := .tuple #[.agg #[.bool false, .slice none 0 0], .agg #[.bool false, .slice none 0 0], .int .i64 ec]) (by simp [results, Tryz.results24, go_sem, r0, r1, s0, s1]) rfl ?_
  first
    | exact ⟨rfl, below_put2 (below_put2 HBW.out _ (by omega) _ _) _ (by omega) _ _⟩
    | exact ⟨rfl, (below_put2 (below_put2 HBW.out _ (by omega) _ _) _ (by omega) _ _).drew⟩
    | exact ⟨rfl, below_put2 (below_put2 HBW.out.drew _ (by omega) _ _) _ (by omega) _ _⟩

set_option maxHeartbeats 3200000 in
set_option maxRecDepth 100000 in
theorem refWDivMod_zero (n : Bool) (v : Value) (xs : List Int) (m0 : Bool) (u : Value) (w : World) (h : Sl w v xs) (g : Sl w u []) (hx : wchk n xs = 0) (hy : wchk m0 [] = 0) :
    Calls Tryz.prog 24 #[.agg #[.bool n, v], .agg #[.bool m0, u]] w fun e w' => e = .returned (.tuple #[.agg #[.bool false, .slice none 0 0], .agg #[.bool false, .slice none 0 0], .int .i64 7]) ∧ Below w.heap.size w w' := by
  obtain ⟨lx, tx, _⟩ := wchk_ok hx
  obtain ⟨ys, hys⟩ : ∃ ys : List Int, ys = [] := ⟨_, rfl⟩
  rw [← hys] at g hy
  obtain ⟨a, cap, rfl, hr⟩ := h
  obtain ⟨b, cap', rfl, gr⟩ := g
  have h : Sl w (.slice a xs.length cap) xs := ⟨a, cap, rfl, hr⟩
  have g : Sl w (.slice b ys.length cap') ys := ⟨b, cap', rfl, gr⟩
  clear hr gr
  have HB : Hid (Below w.heap.size w ((((w.alloc (.cells #[.bool n, .slice a xs.length cap] 24)).alloc (.cells #[.bool m0, .slice b ys.length cap'] 24)).alloc (.cells #[.bool false, .slice none 0 0] 24)).alloc (.cells #[.bool false, .slice none 0 0] 24))) := bt (bt (bt (alloc_later _ _) (alloc_later _ _)) (alloc_later _ _)) (alloc_later _ _)
  have HM : Hid (Box ((((w.alloc (.cells #[.bool n, .slice a xs.length cap] 24)).alloc (.cells #[.bool m0, .slice b ys.length cap'] 24)).alloc (.cells #[.bool false, .slice none 0 0] 24)).alloc (.cells #[.bool false, .slice none 0 0] 24)) (w.heap.size + 1) 24 #[.bool m0, .slice b ys.length cap']) := by
    have e := Box.later (Box.made (w.alloc (.cells #[.bool n, .slice a xs.length cap] 24)) 24 #[.bool m0, .slice b ys.length cap']) (bt (alloc_later ((w.alloc (.cells #[.bool n, .slice a xs.length cap] 24)).alloc (.cells #[.bool m0, .slice b ys.length cap'] 24)) (.cells #[.bool false, .slice none 0 0] 24)) (alloc_later _ (.cells #[.bool false, .slice none 0 0] 24))) (by simp)
    simp at e
    exact e
  have HZ1 : Hid (Box ((((w.alloc (.cells #[.bool n, .slice a xs.length cap] 24)).alloc (.cells #[.bool m0, .slice b ys.length cap'] 24)).alloc (.cells #[.bool false, .slice none 0 0] 24)).alloc (.cells #[.bool false, .slice none 0 0] 24)) (w.heap.size + 1 + 1) 24 #[.bool false, .slice none 0 0]) := by
    have e := Box.later (Box.made ((w.alloc (.cells #[.bool n, .slice a xs.length cap] 24)).alloc (.cells #[.bool m0, .slice b ys.length cap'] 24)) 24 #[.bool false, .slice none 0 0]) (alloc_later (((w.alloc (.cells #[.bool n, .slice a xs.length cap] 24)).alloc (.cells #[.bool m0, .slice b ys.length cap'] 24)).alloc (.cells #[.bool false, .slice none 0 0] 24)) (.cells #[.bool false, .slice none 0 0] 24)) (by simp)
    simp at e
    exact e
  have HZ2 : Hid (Box ((((w.alloc (.cells #[.bool n, .slice a xs.length cap] 24)).alloc (.cells #[.bool m0, .slice b ys.length cap'] 24)).alloc (.cells #[.bool false, .slice none 0 0] 24)).alloc (.cells #[.bool false, .slice none 0 0] 24)) (w.heap.size + 1 + 1 + 1) 24 #[.bool false, .slice none 0 0]) := by
    have e := Box.made (((w.alloc (.cells #[.bool n, .slice a xs.length cap] 24)).alloc (.cells #[.bool m0, .slice b ys.length cap'] 24)).alloc (.cells #[.bool false, .slice none 0 0] 24)) 24 #[.bool false, .slice none 0 0]
    simp at e
    exact e
  have HCB := hid (refWBoth_any n _ xs m0 _ ys _ (h.later HB.out) (g.later HB.out) (by omega) (by rw [hys]; simp))
  rw [wboth_good hx hy] at HCB
  have hyl : ys.length = 0 := by rw [hys]; rfl
  rw [hyl] at HB HM HZ1 HZ2 HCB ⊢
  clear h g hx hy hyl hys
  go_enter Tryz.func24, Tryz.ntmps24
  go_wp2_with fail
  refine Calls.mono HCB.out ?_
  rintro e w1 ⟨rfl, hb1⟩
  obtain ⟨q0, q1, _, _⟩ := res_box HM.out hb1
  obtain ⟨r0, r1, f0, f1⟩ := res_box HZ1.out hb1
  obtain ⟨s0, s1, g0, g1⟩ := res_box HZ2.out hb1
  have HBW := hid (bt HB.out hb1)
  clear hb1
  go_wp2_with fail
  refine bodyPost_ret (v := .tuple #[.agg #[.bool false, .slice none 0 0], .agg #[.bool false, .slice none 0 0], .int .i64 7]) (by simp [results, Tryz.results24, go_sem, r0, r1, s0, s1]) rfl ?_
  first
    | exact ⟨rfl, below_put2 (below_put2 HBW.out _ (by omega) _ _) _ (by omega) _ _⟩
    | exact ⟨rfl, (below_put2 (below_put2 HBW.out _ (by omega) _ _) _ (by omega) _ _).drew⟩
    | exact ⟨rfl, below_put2 (below_put2 HBW.out.drew _ (by omega) _ _) _ (by omega) _ _⟩
end Go.Proofs.YtgknjdademncdaaGreat

/- Each call of whole numbers, and the document's, as one contract: of any numbers, good or refused. -/
namespace Go.Proofs.YtgknjdademncdaaGreat
open Go.RowKit
set_option linter.unusedVariables false

theorem wneg_full (n : Bool) (v : Value) (xs : List Int) (w : World) (h : Sl w v xs) (hn : xs.length ≤ 281474976710656) :
    Calls Tryz.prog 7 #[.agg #[.bool n, v]] w (WTold w (wchk n xs) (-(wval n xs))) := by
  by_cases c : wchk n xs = 0
  · rw [c]; exact wneg_any n v xs w h c
  · exact wneg_err n v xs w h hn c _
theorem refWNeg_full (n : Bool) (v : Value) (xs : List Int) (w : World) (h : Sl w v xs) (hn : xs.length ≤ 281474976710656) :
    Calls Tryz.prog 19 #[.agg #[.bool n, v]] w (WTold w (wchk n xs) (-(wval n xs))) := by
  by_cases c : wchk n xs = 0
  · rw [c]; exact refWNeg_any n v xs w h c
  · exact refWNeg_err n v xs w h hn c _
theorem wabs_full (n : Bool) (v : Value) (xs : List Int) (w : World) (h : Sl w v xs) (hn : xs.length ≤ 281474976710656) :
    Calls Tryz.prog 8 #[.agg #[.bool n, v]] w (WTold w (wchk n xs) (val xs)) := by
  by_cases c : wchk n xs = 0
  · rw [c]; exact wabs_any n v xs w h c
  · exact wabs_err n v xs w h hn c _
theorem refWAbs_full (n : Bool) (v : Value) (xs : List Int) (w : World) (h : Sl w v xs) (hn : xs.length ≤ 281474976710656) :
    Calls Tryz.prog 20 #[.agg #[.bool n, v]] w (WTold w (wchk n xs) (val xs)) := by
  by_cases c : wchk n xs = 0
  · rw [c]; exact refWAbs_any n v xs w h c
  · exact refWAbs_err n v xs w h hn c _
theorem wsub_full (n : Bool) (v : Value) (xs : List Int) (m : Bool) (u : Value) (ys : List Int) (w : World) (h : Sl w v xs) (g : Sl w u ys) (hn : xs.length ≤ 281474976710656) (hm : ys.length ≤ 281474976710656) :
    Calls Tryz.prog 10 #[.agg #[.bool n, v], .agg #[.bool m, u]] w (WTold w (wboth n xs m ys) (wval n xs - wval m ys)) := by
  by_cases c : wboth n xs m ys = 0
  · rw [c]; exact wsub_any n v xs m u ys w h g (wboth_ok c).1 (wboth_ok c).2
  · exact wsub_err n v xs m u ys w h g hn hm c _
theorem wgcd_full (n : Bool) (v : Value) (xs : List Int) (m : Bool) (u : Value) (ys : List Int) (w : World) (h : Sl w v xs) (g : Sl w u ys) (hn : xs.length ≤ 281474976710656) (hm : ys.length ≤ 281474976710656) :
    Calls Tryz.prog 13 #[.agg #[.bool n, v], .agg #[.bool m, u]] w (WTold w (wboth n xs m ys) (gcdI (val xs) (val ys))) := by
  by_cases c : wboth n xs m ys = 0
  · rw [c]; exact wgcd_any n v xs m u ys w h g (wboth_ok c).1 (wboth_ok c).2
  · exact wgcd_err n v xs m u ys w h g hn hm c _
theorem refWAdd_full (n : Bool) (a : Option Addr) (ca : Nat) (xs : List Int) (m : Bool) (b : Option Addr) (cb : Nat) (ys : List Int) (w : World) (h : Sl w (.slice a xs.length ca) xs) (g : Sl w (.slice b ys.length cb) ys) (hn : xs.length ≤ 281474976710656) (hm : ys.length ≤ 281474976710656) :
    Calls Tryz.prog 21 #[.agg #[.bool n, .slice a xs.length ca], .agg #[.bool m, .slice b ys.length cb]] w (WTold w (wboth n xs m ys) (wval n xs + wval m ys)) := by
  by_cases c : wboth n xs m ys = 0
  · rw [c]; exact refWAdd_any n a ca xs m b cb ys w h g (wboth_ok c).1 (wboth_ok c).2
  · exact refWAdd_err n _ xs m _ ys w h g hn hm c _
theorem refWSub_full (n : Bool) (a : Option Addr) (ca : Nat) (xs : List Int) (m : Bool) (b : Option Addr) (cb : Nat) (ys : List Int) (w : World) (h : Sl w (.slice a xs.length ca) xs) (g : Sl w (.slice b ys.length cb) ys) (hn : xs.length ≤ 281474976710656) (hm : ys.length ≤ 281474976710656) :
    Calls Tryz.prog 22 #[.agg #[.bool n, .slice a xs.length ca], .agg #[.bool m, .slice b ys.length cb]] w (WTold w (wboth n xs m ys) (wval n xs - wval m ys)) := by
  by_cases c : wboth n xs m ys = 0
  · rw [c]; exact refWSub_any n a ca xs m b cb ys w h g (wboth_ok c).1 (wboth_ok c).2
  · exact refWSub_err n _ xs m _ ys w h g hn hm c _
theorem refWMul_full (n : Bool) (a : Option Addr) (ca : Nat) (xs : List Int) (m : Bool) (b : Option Addr) (cb : Nat) (ys : List Int) (w : World) (h : Sl w (.slice a xs.length ca) xs) (g : Sl w (.slice b ys.length cb) ys) (hn : xs.length ≤ 281474976710656) (hm : ys.length ≤ 281474976710656) :
    Calls Tryz.prog 23 #[.agg #[.bool n, .slice a xs.length ca], .agg #[.bool m, .slice b ys.length cb]] w (WTold w (wboth n xs m ys) (wval n xs * wval m ys)) := by
  by_cases c : wboth n xs m ys = 0
  · rw [c]; exact refWMul_any n a ca xs m b cb ys w h g (wboth_ok c).1 (wboth_ok c).2
  · exact refWMul_err n _ xs m _ ys w h g hn hm c _
theorem refWGcd_full (n : Bool) (a : Option Addr) (ca : Nat) (xs : List Int) (m : Bool) (b : Option Addr) (cb : Nat) (ys : List Int) (w : World) (h : Sl w (.slice a xs.length ca) xs) (g : Sl w (.slice b ys.length cb) ys) (hn : xs.length ≤ 281474976710656) (hm : ys.length ≤ 281474976710656) :
    Calls Tryz.prog 25 #[.agg #[.bool n, .slice a xs.length ca], .agg #[.bool m, .slice b ys.length cb]] w (WTold w (wboth n xs m ys) (gcdI (val xs) (val ys))) := by
  by_cases c : wboth n xs m ys = 0
  · rw [c]; exact refWGcd_any n a ca xs m b cb ys w h g (wboth_ok c).1 (wboth_ok c).2
  · exact refWGcd_err n _ xs m _ ys w h g hn hm c _
/-- What Compare tells. -/
def wcmp (n : Bool) (xs : List Int) (m : Bool) (ys : List Int) : Int := if wboth n xs m ys = 0 then cmpI (wval n xs) (wval m ys) else 0
theorem wcompare_full (n : Bool) (a : Option Addr) (ca : Nat) (xs : List Int) (m : Bool) (b : Option Addr) (cb : Nat) (ys : List Int) (w : World) (h : Sl w (.slice a xs.length ca) xs) (g : Sl w (.slice b ys.length cb) ys) (hn : xs.length ≤ 281474976710656) (hm : ys.length ≤ 281474976710656) :
    Calls Tryz.prog 15 #[.agg #[.bool n, .slice a xs.length ca], .agg #[.bool m, .slice b ys.length cb]] w fun e w' => e = .returned (.tuple #[.int .i64 (wcmp n xs m ys), .int .i64 (wboth n xs m ys)]) ∧ Below w.heap.size w w' := by
  by_cases c : wboth n xs m ys = 0
  · unfold wcmp
    rw [if_pos c, c]; exact wcompare_any n _ xs m _ ys w h g (wboth_ok c).1 (wboth_ok c).2
  · unfold wcmp
    rw [if_neg c]; exact wcompare_err n a ca xs m b cb ys w h g hn hm c
theorem refWCompare_full (n : Bool) (a : Option Addr) (ca : Nat) (xs : List Int) (m : Bool) (b : Option Addr) (cb : Nat) (ys : List Int) (w : World) (h : Sl w (.slice a xs.length ca) xs) (g : Sl w (.slice b ys.length cb) ys) (hn : xs.length ≤ 281474976710656) (hm : ys.length ≤ 281474976710656) (hx : ¬ (40 < xs.length ∧ xs.length ≤ 2048)) (hy : ¬ (40 < ys.length ∧ ys.length ≤ 2048)) :
    Calls Tryz.prog 27 #[.agg #[.bool n, .slice a xs.length ca], .agg #[.bool m, .slice b ys.length cb]] w fun e w' => e = .returned (.tuple #[.int .i64 (wcmp n xs m ys), .int .i64 (wboth n xs m ys)]) ∧ Below w.heap.size w w' := by
  by_cases c : wboth n xs m ys = 0
  · have k1 := (wchk_ok (wboth_ok c).1).1
    have k2 := (wchk_ok (wboth_ok c).2).1
    unfold wcmp
    rw [if_pos c, c]; exact refWCompare_any n a ca xs m b cb ys w h g (by omega) (by omega) (wboth_ok c).1 (wboth_ok c).2
  · unfold wcmp
    rw [if_neg c]; exact refWCompare_err n a ca xs m b cb ys w h g hn hm c

/-- What DivMod tells. -/
structure WDT (n : Bool) (xs : List Int) (m : Bool) (ys : List Int) (nq : Bool) (zq zr : List Int) (code : Int) : Prop where
  wq : Wd zq
  wr : Wd zr
  tq : Trimmed zq
  tr : Trimmed zr
  lq : zq.length ≤ 2048
  lr : zr.length ≤ 2048
  sq : nq = false ∨ 0 < zq.length
  bad : wboth n xs m ys ≠ 0 → nq = false ∧ zq = [] ∧ zr = [] ∧ code = wboth n xs m ys
  zero : wboth n xs m ys = 0 → ys.length = 0 → nq = false ∧ zq = [] ∧ zr = [] ∧ code = 7
  good : wboth n xs m ys = 0 → 0 < ys.length → code = 0 ∧ wval n xs = wval nq zq * wval m ys + val zr ∧ val zr < ((wval m ys).natAbs : Int)
theorem quot_one {q r q' r' y : Int} (h : q * y + r = q' * y + r') (r0 : 0 ≤ r) (r1 : 0 ≤ r') (h0 : r < y) (h1 : r' < y) : q = q' ∧ r = r' := by
  have y0 : 0 < y := by omega
  have e1 := (Int.ediv_emod_unique y0 (a := q * y + r) (r := r) (q := q)).2 ⟨by rw [Int.mul_comm y]; omega, r0, h0⟩
  have e2 := (Int.ediv_emod_unique y0 (a := q * y + r) (r := r') (q := q')).2 ⟨by rw [Int.mul_comm y]; omega, r1, h1⟩
  exact ⟨by rw [← e1.1, ← e2.1], by rw [← e1.2, ← e2.2]⟩
theorem wquot_one {q r q' r' y : Int} (h : q * y + r = q' * y + r') (r0 : 0 ≤ r) (r1 : 0 ≤ r') (h0 : r < (y.natAbs : Int)) (h1 : r' < (y.natAbs : Int)) : q = q' ∧ r = r' := by
  by_cases c : 0 ≤ y
  · exact quot_one h r0 r1 (by omega) (by omega)
  · have e := quot_one (q := -q) (q' := -q') (y := -y) (by rw [Int.neg_mul_neg, Int.neg_mul_neg]; exact h) r0 r1 (by omega) (by omega)
    exact ⟨by omega, e.2⟩
theorem WDT.same {n m : Bool} {xs ys : List Int} {nq nq' : Bool} {zq zr zq' zr' : List Int} {c d : Int} (h : WDT n xs m ys nq zq zr c) (g : WDT n xs m ys nq' zq' zr' d) : nq = nq' ∧ zq = zq' ∧ zr = zr' ∧ c = d := by
  by_cases hb : wboth n xs m ys = 0
  · by_cases h0 : ys.length = 0
    · obtain ⟨a1, a2, a3, a4⟩ := h.zero hb h0
      obtain ⟨b1, b2, b3, b4⟩ := g.zero hb h0
      exact ⟨by rw [a1, b1], by rw [a2, b2], by rw [a3, b3], by rw [a4, b4]⟩
    · obtain ⟨a1, a2, a3⟩ := h.good hb (by omega)
      obtain ⟨b1, b2, b3⟩ := g.good hb (by omega)
      obtain ⟨e1, e2⟩ := wquot_one (a2.symm.trans b2) (val_nonneg h.wr) (val_nonneg g.wr) a3 b3
      obtain ⟨f1, f2⟩ := wsame' h.wq g.wq h.tq g.tq h.sq g.sq e1
      exact ⟨f1, f2, trimmed_eq h.wr g.wr h.tr g.tr e2, by rw [a1, b1]⟩
  · obtain ⟨a1, a2, a3, a4⟩ := h.bad hb
    obtain ⟨b1, b2, b3, b4⟩ := g.bad hb
    exact ⟨by rw [a1, b1], by rw [a2, b2], by rw [a3, b3], by rw [a4, b4]⟩
theorem WDT.err {n m : Bool} {xs ys : List Int} (h : wboth n xs m ys ≠ 0) : WDT n xs m ys false [] [] (wboth n xs m ys) := ⟨Wd.nil, Wd.nil, Trimmed.nil, Trimmed.nil, by simp, by simp, .inl rfl, fun _ => ⟨rfl, rfl, rfl, rfl⟩, fun h' => absurd h' h, fun h' => absurd h' h⟩
theorem WDT.none {n m : Bool} {xs : List Int} (h : wboth n xs m [] = 0) : WDT n xs m [] false [] [] 7 := ⟨Wd.nil, Wd.nil, Trimmed.nil, Trimmed.nil, by simp, by simp, .inl rfl, fun h' => absurd h h', fun _ _ => ⟨rfl, rfl, rfl, rfl⟩, fun _ h' => by simp at h'⟩
/-- Quotient and rest in new memory, or the error. -/
def WDTold (w : World) (n : Bool) (xs : List Int) (m : Bool) (ys : List Int) (x : Ending) (w' : World) : Prop :=
  ∃ nq vq zq vr zr code, x = .returned (.tuple #[.agg #[.bool nq, vq], .agg #[.bool false, vr], .int .i64 code]) ∧ w'.ownsRow w.heap.size 44 1 vq zq.length (zq.map (Value.int .u32)) ∧ w'.ownsRow w.heap.size 44 1 vr zr.length (zr.map (Value.int .u32)) ∧ WDT n xs m ys nq zq zr code ∧ Below w.heap.size w w' ∧ Cut w vq vr w'
def WDTold0 (w : World) (n : Bool) (xs : List Int) (m : Bool) (ys : List Int) (x : Ending) (w' : World) : Prop :=
  ∃ nq vq zq vr zr code, x = .returned (.tuple #[.agg #[.bool nq, vq], .agg #[.bool false, vr], .int .i64 code]) ∧ w'.ownsRow w.heap.size 44 1 vq zq.length (zq.map (Value.int .u32)) ∧ w'.ownsRow w.heap.size 44 1 vr zr.length (zr.map (Value.int .u32)) ∧ WDT n xs m ys nq zq zr code ∧ Below w.heap.size w w'
theorem cut_nil {w w' : World} (h : w.heap.size ≤ w'.heap.size) : Cut w (.slice none 0 0) (.slice none 0 0) w' := ⟨w.heap.size, Nat.le_refl _, h, fun g hg => by simp [Value.ownBlock] at hg, fun g hg => by simp [Value.ownBlock] at hg⟩
theorem wdivMod_full (n : Bool) (v : Value) (xs : List Int) (m : Bool) (u : Value) (ys : List Int) (w : World) (h : Sl w v xs) (g : Sl w u ys) (hn : xs.length ≤ 281474976710656) (hm : ys.length ≤ 281474976710656) :
    Calls Tryz.prog 12 #[.agg #[.bool n, v], .agg #[.bool m, u]] w (WDTold w n xs m ys) := by
  by_cases c : wboth n xs m ys = 0
  · obtain ⟨hx, hy⟩ := wboth_ok c
    by_cases h0 : ys.length = 0
    · obtain rfl : ys = [] := List.eq_nil_of_length_eq_zero h0
      refine Calls.mono (wdivMod_zero n v xs m u w h g hx hy) ?_
      rintro e w' ⟨rfl, hb⟩
      exact ⟨false, _, [], _, [], 7, rfl, World.ownsRow_nil _ _ _ _, World.ownsRow_nil _ _ _ _, WDT.none c, hb, cut_nil hb.size⟩
    · refine Calls.mono (wdivMod_cut n v xs m u ys w h g hx hy (by omega)) ?_
      rintro e w' ⟨nq, vq, zq, vr, zr, rfl, o1, o2, wq, wr, tq, tr, lq, lr, sq, hv, hlt, hb, hcu⟩
      exact ⟨nq, vq, zq, vr, zr, 0, rfl, o1, o2, ⟨wq, wr, tq, tr, lq, lr, sq, fun h' => absurd c h', fun _ h' => absurd h' h0, fun _ _ => ⟨rfl, hv, hlt⟩⟩, hb, hcu⟩
  · refine Calls.mono (wdivMod_err n v xs m u ys w h g hn hm c) ?_
    rintro e w' ⟨rfl, hb⟩
    exact ⟨false, _, [], _, [], _, rfl, World.ownsRow_nil _ _ _ _, World.ownsRow_nil _ _ _ _, WDT.err c, hb, cut_nil hb.size⟩
theorem refWDivMod_full (n : Bool) (a : Option Addr) (ca : Nat) (xs : List Int) (m : Bool) (b : Option Addr) (cb : Nat) (ys : List Int) (w : World) (h : Sl w (.slice a xs.length ca) xs) (g : Sl w (.slice b ys.length cb) ys) (hn : xs.length ≤ 281474976710656) (hm : ys.length ≤ 281474976710656) :
    Calls Tryz.prog 24 #[.agg #[.bool n, .slice a xs.length ca], .agg #[.bool m, .slice b ys.length cb]] w (WDTold0 w n xs m ys) := by
  by_cases c : wboth n xs m ys = 0
  · obtain ⟨hx, hy⟩ := wboth_ok c
    by_cases h0 : ys.length = 0
    · obtain rfl : ys = [] := List.eq_nil_of_length_eq_zero h0
      refine Calls.mono (refWDivMod_zero n _ xs m _ w h g hx hy) ?_
      rintro e w' ⟨rfl, hb⟩
      exact ⟨false, _, [], _, [], 7, rfl, World.ownsRow_nil _ _ _ _, World.ownsRow_nil _ _ _ _, WDT.none c, hb⟩
    · have hd : Calls Tryz.prog 24 #[.agg #[.bool n, .slice a xs.length ca], .agg #[.bool m, .slice b ys.length cb]] w (WDiv w (wval n xs) (wval m ys)) := by
        by_cases hp : n = false ∨ val xs % val ys = 0
        · exact refWDivMod_plain n a ca xs m b cb ys w h g hx hy (by omega) hp
        · exact refWDivMod_rest n a ca xs m b cb ys w h g hx hy (by omega) (by cases n <;> simp_all) (fun e => hp (.inr e))
      refine Calls.mono hd ?_
      rintro e w' ⟨nq, vq, zq, vr, zr, rfl, o1, o2, wq, wr, tq, tr, lq, lr, sq, hv, hlt, hb⟩
      exact ⟨nq, vq, zq, vr, zr, 0, rfl, o1, o2, ⟨wq, wr, tq, tr, lq, lr, sq, fun h' => absurd c h', fun _ h' => absurd h' h0, fun _ _ => ⟨rfl, hv, hlt⟩⟩, hb⟩
  · refine Calls.mono (refWDivMod_err n _ xs m _ ys w h g hn hm c) ?_
    rintro e w' ⟨rfl, hb⟩
    exact ⟨false, _, [], _, [], _, rfl, World.ownsRow_nil _ _ _ _, World.ownsRow_nil _ _ _ _, WDT.err c, hb⟩
end Go.Proofs.YtgknjdademncdaaGreat

/- Whole numbers that are lent to a call: slackwaterkit.LentWhole, KeptWhole; the law's own comparison. -/
namespace Go.Proofs.YtgknjdademncdaaGreat
open Go.RowKit
set_option linter.unusedVariables false

theorem own_room {w : World} {base e n : Nat} {v : Value} {xs : List Value} (h : w.ownsRow base e 1 v n xs) (hn : 0 < n) : ∃ g cap, v = .slice (some ⟨g, 0, none⟩) n cap ∧ n ≤ cap ∧ cap ≤ 9223372036854775807 := by
  obtain ⟨g, cap, rfl, h1, h2⟩ := own_shape' h hn
  exact ⟨g, cap, rfl, h1, by unfold maxLen at h2; omega⟩

set_option maxHeartbeats 3200000 in
set_option maxRecDepth 100000 in
theorem lentWhole_any (n : Bool) (v : Value) (xs : List Int) (w : World) (h : Sl w v xs) (hl : xs.length ≤ 549755813888) :
    Calls Tryz.prog 6 #[.agg #[.bool n, v]] w fun e w' => ∃ g cap, e = .returned (.agg #[.bool n, .slice (some ⟨g, 0, none⟩) xs.length cap]) ∧ w'.ownsRow w.heap.size 44 1 (.slice (some ⟨g, 0, none⟩) (xs.length + 3) cap) (xs.length + 3) ((xs ++ marks 3).map (Value.int .u32)) ∧ Below w.heap.size w w' := by
  have HS := hid h
  obtain ⟨a, c, rfl, hr⟩ := h
  clear hr
  have HB : Hid (Below w.heap.size w ((w.alloc (.cells #[.bool n, .slice a xs.length c] 24)).alloc (.cells #[.bool false, .slice none 0 0] 24))) := bt (alloc_later _ _) (alloc_later _ _)
  have HA : Hid (Box ((w.alloc (.cells #[.bool n, .slice a xs.length c] 24)).alloc (.cells #[.bool false, .slice none 0 0] 24)) w.heap.size 24 #[.bool n, .slice a xs.length c]) := Box.later (Box.made w _ _) (alloc_later _ _) (by simp)
  have HZ : Hid (Box ((w.alloc (.cells #[.bool n, .slice a xs.length c] 24)).alloc (.cells #[.bool false, .slice none 0 0] 24)) (w.heap.size + 1) 24 #[.bool false, .slice none 0 0]) := by
    have e := Box.made (w.alloc (.cells #[.bool n, .slice a xs.length c] 24)) 24 #[.bool false, .slice none 0 0]
    simp at e
    exact e
  go_enter Tryz.func6, Tryz.ntmps6
  go_wp2_with fail
  generalize ((w.alloc (.cells #[.bool n, .slice a xs.length c] 24)).alloc (.cells #[.bool false, .slice none 0 0] 24)) = X at *
  have HK : Hid (∀ V, Below X.heap.size X V → V.cell? ⟨w.heap.size, 0, none⟩ = some (.bool n) ∧ V.cell? ⟨w.heap.size, 1, none⟩ = some (.slice a xs.length c)) := fun V hb => by
    obtain ⟨p0, p1, _, _⟩ := (HA.out.later hb HA.out.lt).c2
    exact ⟨p0, p1⟩
  have hs0 := HK.out _ (Below.drew (Below.refl _ X))
  have HL : Hid (Calls Tryz.prog 35 #[.slice a xs.length c] X.drew fun e w1 => ∃ g cap, e = .returned (.slice (some ⟨g, 0, none⟩) (xs.length + 3) cap) ∧ xs.length + 3 ≤ cap ∧ cap ≤ 9223372036854775807 ∧ (xs.length : Int) ≤ (cap : Int) ∧ Hid (w1.ownsRow X.heap.size 44 1 (.slice (some ⟨g, 0, none⟩) (xs.length + 3) cap) (xs.length + 3) ((xs ++ marks 3).map (Value.int .u32)) ∧ Below X.heap.size X w1) ∧ (w1.cell? ⟨w.heap.size, 0, none⟩ = some (.bool n) ∧ w1.cell? ⟨w.heap.size, 1, none⟩ = some (.slice a xs.length c)) ∧ w1.cell? ⟨w.heap.size + 1, 0, none⟩ = some (.bool false) ∧ w1.cell? ⟨w.heap.size + 1, 1, none⟩ = some (.slice none 0 0) ∧ w1.frozen? ⟨w.heap.size + 1, 0, none⟩ = false ∧ w1.frozen? ⟨w.heap.size + 1, 1, none⟩ = false) := by
    refine Calls.mono (lentWords_sl _ xs _ ((HS.out.later HB.out).later (Below.drew (Below.refl _ X))) hl) ?_
    rintro e w1 ⟨v1, rfl, o1, hb1⟩
    obtain ⟨g, cap, hv, h1, h2⟩ := own_room o1 (by omega)
    subst hv
    have hbX : Below X.heap.size X w1 := bt (Below.drew (Below.refl _ X)) hb1
    exact ⟨g, cap, rfl, h1, h2, by omega, ⟨o1, hbX⟩, HK.out w1 hbX, (HZ.out.later hbX HZ.out.lt).c2⟩
  have hx0 : (0 : Int) ≤ (xs.length : Int) := by omega
  have hlx : xs.length ≤ 9223372036854775807 := by omega
  clear HS HA
  go_region_held3 (fun V : World => V.cell? ⟨w.heap.size, 0, none⟩ = some (.bool n) ∧ V.cell? ⟨w.heap.size, 1, none⟩ = some (.slice a xs.length c)) (first | exact hs1 | exact hs0 | (simp [hs1, World.cell?_setCell_far]))
    (first
      | (go_at_call 35; with_reducible refine Calls.mono HL.out ?_; rintro e w1 ⟨g, cap, rfl, hc1, hc2, hc3, HE, hs1, r0, r1, f0, f1⟩))
  all_goals
    have HZ2 := hid (HZ.out.later HE.out.2 HZ.out.lt)
    have HO := hid (own_put2 (owns_base HE.out.1 HB.out.size) (w.heap.size + 1) (own_ne_box HE.out.1 HZ2.out (by decide)) (.bool n) (.slice (some ⟨g, 0, none⟩) xs.length cap))
    have HBN := hid (below_put2 (bt HB.out HE.out.2) (w.heap.size + 1) (by omega) (.bool n) (.slice (some ⟨g, 0, none⟩) xs.length cap))
    clear HK HL HE HZ HB HZ2 hs0 hs1
    go_wp2_with fail
    refine bodyPost_ret (v := .agg #[.bool n, .slice (some ⟨g, 0, none⟩) xs.length cap]) (by simp [results, Tryz.results6, go_sem, r0, r1]) rfl ?_
    exact ⟨g, cap, rfl, HO.out, HBN.out⟩

set_option maxHeartbeats 3200000 in
set_option maxRecDepth 100000 in
theorem keptWhole_any (n : Bool) (v : Value) (xs : List Int) (g cap base : Nat) (w : World) (h : Sl w v xs) (hl : xs.length ≤ 274877906944) (ho : w.ownsRow base 44 1 (.slice (some ⟨g, 0, none⟩) (xs.length + 3) cap) (xs.length + 3) ((xs ++ marks 3).map (Value.int .u32))) :
    Calls Tryz.prog 18 #[.agg #[.bool n, .slice (some ⟨g, 0, none⟩) xs.length cap], .agg #[.bool n, v]] w fun e w' => e = .returned (.bool true) ∧ Below w.heap.size w w' := by
  have HS := hid h
  obtain ⟨a, c, rfl, hr⟩ := h
  clear hr
  have hcap : xs.length + 3 ≤ cap ∧ cap ≤ 9223372036854775807 := by
    obtain ⟨g', cap', hv, h1, h2⟩ := own_room ho (by omega)
    simp only [Value.slice.injEq, Option.some.injEq, Addr.mk.injEq, and_true, true_and] at hv
    obtain ⟨rfl, rfl⟩ := hv
    exact ⟨h1, h2⟩
  have wf : Wd (xs ++ marks 3) := HS.out.wd.append (Wd.marks 3)
  have lf : (xs ++ marks 3).length = xs.length + 3 := by rw [List.length_append, marks_len 3 (by omega)]
  have HO := hid (Sl.own ho wf)
  have HB : Hid (Below w.heap.size w ((w.alloc (.cells #[.bool n, .slice (some ⟨g, 0, none⟩) xs.length cap] 24)).alloc (.cells #[.bool n, .slice a xs.length c] 24))) := bt (alloc_later _ _) (alloc_later _ _)
  have HA : Hid (Box ((w.alloc (.cells #[.bool n, .slice (some ⟨g, 0, none⟩) xs.length cap] 24)).alloc (.cells #[.bool n, .slice a xs.length c] 24)) w.heap.size 24 #[.bool n, .slice (some ⟨g, 0, none⟩) xs.length cap]) := Box.later (Box.made w _ _) (alloc_later _ _) (by simp)
  have HZ : Hid (Box ((w.alloc (.cells #[.bool n, .slice (some ⟨g, 0, none⟩) xs.length cap] 24)).alloc (.cells #[.bool n, .slice a xs.length c] 24)) (w.heap.size + 1) 24 #[.bool n, .slice a xs.length c]) := by
    have e := Box.made (w.alloc (.cells #[.bool n, .slice (some ⟨g, 0, none⟩) xs.length cap] 24)) 24 #[.bool n, .slice a xs.length c]
    simp at e
    exact e
  have HK0 := hid (fun ww (hb : Below w.heap.size w ww) => keptWords_sl _ _ (xs ++ marks 3) xs ww (HO.out.later hb) (HS.out.later hb) (by omega) hl)
  rw [decide_eq_true rfl] at HK0
  have hcc := hcap.1
  have hcm := hcap.2
  have hnn : (n == n) = true := by simp
  have hll : ((xs.length : Int) == (xs.length : Int)) = true := by simp
  have hx0 : (0 : Int) ≤ (xs.length : Int) + 3 := by omega
  have hxc : (xs.length : Int) + 3 ≤ (cap : Int) := by omega
  have hwr : IntKind.i64.wrap ((xs.length : Int) + 3) = (xs.length : Int) + 3 := by rw [IntKind.wrap_i64]; omega
  have htn : ((xs.length : Int) + 3).toNat = xs.length + 3 := by omega
  clear ho hcap wf lf HS HO
  go_enter Tryz.func18, Tryz.ntmps18
  go_wp2_with fail
  generalize ((w.alloc (.cells #[.bool n, .slice (some ⟨g, 0, none⟩) xs.length cap] 24)).alloc (.cells #[.bool n, .slice a xs.length c] 24)) = X at *
  have HK : Hid (∀ V, Below X.heap.size X V → V.cell? ⟨w.heap.size, 0, none⟩ = some (.bool n) ∧ V.cell? ⟨w.heap.size, 1, none⟩ = some (.slice (some ⟨g, 0, none⟩) xs.length cap) ∧ V.cell? ⟨w.heap.size + 1, 0, none⟩ = some (.bool n) ∧ V.cell? ⟨w.heap.size + 1, 1, none⟩ = some (.slice a xs.length c)) := fun V hb => by
    obtain ⟨p0, p1, _, _⟩ := (HA.out.later hb HA.out.lt).c2
    obtain ⟨q0, q1, _, _⟩ := (HZ.out.later hb HZ.out.lt).c2
    exact ⟨p0, p1, q0, q1⟩
  have hs0 := HK.out _ (Below.drew (Below.refl _ X))
  have HL : Hid (Calls Tryz.prog 48 #[.slice (some ⟨g, 0, none⟩) (xs.length + 3) cap, .slice a xs.length c] X.drew fun e w1 => e = .returned (.bool true) ∧ Hid (Below X.heap.size X w1) ∧ (w1.cell? ⟨w.heap.size, 0, none⟩ = some (.bool n) ∧ w1.cell? ⟨w.heap.size, 1, none⟩ = some (.slice (some ⟨g, 0, none⟩) xs.length cap) ∧ w1.cell? ⟨w.heap.size + 1, 0, none⟩ = some (.bool n) ∧ w1.cell? ⟨w.heap.size + 1, 1, none⟩ = some (.slice a xs.length c))) := by
    refine Calls.mono (HK0.out X.drew (HB.out.drew)) ?_
    rintro e w1 ⟨rfl, hb1⟩
    have hbX : Below X.heap.size X w1 := bt (Below.drew (Below.refl _ X)) hb1
    exact ⟨rfl, hbX, HK.out w1 hbX⟩
  clear HA HZ HK0
  go_region_held3 (fun V : World => V.cell? ⟨w.heap.size, 0, none⟩ = some (.bool n) ∧ V.cell? ⟨w.heap.size, 1, none⟩ = some (.slice (some ⟨g, 0, none⟩) xs.length cap) ∧ V.cell? ⟨w.heap.size + 1, 0, none⟩ = some (.bool n) ∧ V.cell? ⟨w.heap.size + 1, 1, none⟩ = some (.slice a xs.length c)) (first | exact hs1 | exact hs0)
    (first
      | (go_at_call 48; with_reducible refine Calls.mono HL.out ?_; rintro e w1 ⟨rfl, HE, hs1⟩))
  all_goals
    have HBN := hid (bt HB.out HE.out)
    clear HK HL HE HB hs0 hs1
    go_wp2_with fail
    go_ret
    exact ⟨rfl, HBN.out⟩

set_option maxHeartbeats 1600000 in
set_option maxRecDepth 100000 in
theorem lawOne2_any (n : Bool) (v u : Value) (xs : List Int) (c : Int) (w : World) (h : Sl w v xs) (g : Sl w u xs) (hl : xs.length ≤ 281474976710656) :
    Calls Tryz.prog 29 #[.agg #[.bool n, v], .int .i64 c, .agg #[.bool n, u], .int .i64 c] w fun e w' => e = .returned (.bool true) ∧ Below w.heap.size w w' := by
  have HB : Hid (Below w.heap.size w ((w.alloc (.cells #[.bool n, v] 24)).alloc (.cells #[.bool n, u] 24))) := bt (alloc_later _ _) (alloc_later _ _)
  have HS := hid (sameWhole_any n v xs n u xs _ (h.later HB.out) (g.later HB.out) hl hl)
  rw [decide_eq_true (show n = n ∧ xs = xs from ⟨rfl, rfl⟩)] at HS
  obtain ⟨a, ca, rfl, hr⟩ := h
  obtain ⟨b, cb, rfl, gr⟩ := g
  clear hr gr
  go_enter Tryz.func29, Tryz.ntmps29
  go_wp2_with fail
  refine Calls.mono HS.out ?_
  rintro e w1 ⟨rfl, hb1⟩
  have HBN := hid (bt HB.out hb1)
  clear hb1 HS
  go_wp2_with fail
  go_ret
  exact ⟨rfl, HBN.out⟩
end Go.Proofs.YtgknjdademncdaaGreat

/- The law WholeCalls: 'a, b := LentWhole(x), LentWhole(y)', in whatever order its parts are done, for whatever follows. -/
namespace Go.Proofs.YtgknjdademncdaaGreat
open Go.RowKit
set_option linter.unusedVariables false

/-- Boxes that hold whole numbers; rows of the call's own. -/
def Boxes (W : World) (l : List (Nat × Array Value)) : Prop := ∀ p ∈ l, Box W p.1 24 p.2
theorem Boxes.later {W W' : World} {l : List (Nat × Array Value)} (h : Boxes W l) (hb : Below W.heap.size W W') : Boxes W' l := fun p hp => (h p hp).later hb (h p hp).lt
theorem Boxes.put {W : World} {l : List (Nat × Array Value)} (h : Boxes W l) (n : Bool) (v : Value) : Boxes (W.alloc (.cells #[.bool n, v] 24)) ((W.heap.size, #[.bool n, v]) :: l) := fun p hp => by
  cases hp with
  | head => exact Box.made W _ _
  | tail _ hp => exact (h p hp).later (alloc_later _ _) (h p hp).lt
theorem Boxes.get {W : World} {l : List (Nat × Array Value)} (h : Boxes W l) {g : Nat} {n : Bool} {v : Value} (hm : (g, #[.bool n, v]) ∈ l) : W.cell? ⟨g, 0, none⟩ = some (.bool n) ∧ W.cell? ⟨g, 1, none⟩ = some v := by
  obtain ⟨h0, h1, _, _⟩ := (h _ hm).c2
  exact ⟨h0, h1⟩
theorem Boxes.cons {W : World} {l : List (Nat × Array Value)} (h : Boxes W l) {g : Nat} {vs : Array Value} (b : Box W g 24 vs) : Boxes W ((g, vs) :: l) := fun p hp => by
  cases hp with
  | head => exact b
  | tail _ hp => exact h p hp
def Rows' (W : World) (l : List (Nat × Value × List Int)) : Prop := ∀ p ∈ l, W.ownsRow p.1 44 1 p.2.1 p.2.2.length (p.2.2.map (Value.int .u32))
theorem Rows'.later {W W' : World} {l : List (Nat × Value × List Int)} (h : Rows' W l) (hb : Below W.heap.size W W') : Rows' W' l := fun p hp => owns_later (h p hp) hb
theorem Rows'.put {W : World} {l : List (Nat × Value × List Int)} (h : Rows' W l) {base : Nat} {v : Value} {zs : List Int} (o : W.ownsRow base 44 1 v zs.length (zs.map (Value.int .u32))) : Rows' W ((base, v, zs) :: l) := fun p hp => by
  cases hp with
  | head => exact o
  | tail _ hp => exact h p hp
theorem Rows'.get {W : World} {l : List (Nat × Value × List Int)} (h : Rows' W l) {base : Nat} {v : Value} {zs : List Int} (hm : (base, v, zs) ∈ l) : W.ownsRow base 44 1 v zs.length (zs.map (Value.int .u32)) := h _ hm
theorem Rows'.sl {W : World} {l : List (Nat × Value × List Int)} (h : Rows' W l) {base : Nat} {v : Value} {zs : List Int} (wd : Wd zs) (hm : (base, v, zs) ∈ l) : Sl W v zs := Sl.own (h _ hm) wd
theorem below_al {a w : World} (h : Below a.heap.size a w) (o : Obj) : Below a.heap.size a (w.alloc o) := h.alloc h.size o
theorem zb1 {w V : World} (hb : Below (w.alloc (.cells #[.bool false, .slice none 0 0] 24)).heap.size (w.alloc (.cells #[.bool false, .slice none 0 0] 24)) V) : Box V w.heap.size 24 #[.bool false, .slice none 0 0] := (Box.made w 24 _).later hb (by simp)
theorem zb2 {w V : World} (hb : Below ((w.alloc (.cells #[.bool false, .slice none 0 0] 24)).alloc (.cells #[.bool false, .slice none 0 0] 24)).heap.size ((w.alloc (.cells #[.bool false, .slice none 0 0] 24)).alloc (.cells #[.bool false, .slice none 0 0] 24)) V) : Box V w.heap.size 24 #[.bool false, .slice none 0 0] ∧ Box V (w.heap.size + 1) 24 #[.bool false, .slice none 0 0] := by
  refine ⟨((Box.made w 24 _).later (alloc_later _ _) (by simp)).later hb (by simp; omega), ?_⟩
  have e := (Box.made (w.alloc (.cells #[.bool false, .slice none 0 0] 24)) 24 #[.bool false, .slice none 0 0]).later hb (by simp)
  simp at e
  exact e
theorem ne_new {w : World} {g t : Nat} {vs : Array Value} (h : Box w g t vs) : g < w.heap.size ∧ ¬ w.heap.size = g := by
  have := h.lt
  omega
theorem unal1 {w V : World} {o : Obj} (hb : Below (w.alloc o).heap.size (w.alloc o) V) : Below w.heap.size w V := bt (alloc_later _ _) hb
theorem unal2 {w V : World} {o p : Obj} (hb : Below ((w.alloc o).alloc p).heap.size ((w.alloc o).alloc p) V) : Below w.heap.size w V := bt (bt (alloc_later _ _) (alloc_later _ _)) hb
theorem nes {p q : Nat} (h : p + 1 < q) : ¬ p = q ∧ ¬ q = p ∧ ¬ p + 1 = q ∧ ¬ q = p + 1 ∧ ¬ p = q + 1 ∧ ¬ q + 1 = p := by omega
theorem undrew {w V : World} (hb : Below w.drew.heap.size w.drew V) : Below w.heap.size w V := bt (Below.drew (Below.refl _ w)) hb
/-- Two boxes made, two rows of the call's own. -/
def Fin (W F : World) (n m : Bool) (xs ys : List Int) (pa pb ga ca gb cb : Nat) : Prop := Box F pa 24 #[.bool n, (.slice (some ⟨ga, 0, none⟩) xs.length ca)] ∧ Box F pb 24 #[.bool m, (.slice (some ⟨gb, 0, none⟩) ys.length cb)] ∧ (F.ownsRow W.heap.size 44 1 (.slice (some ⟨ga, 0, none⟩) (xs.length + 3) ca) (xs.length + 3) ((xs ++ marks 3).map (Value.int .u32))) ∧ (F.ownsRow W.heap.size 44 1 (.slice (some ⟨gb, 0, none⟩) (ys.length + 3) cb) (ys.length + 3) ((ys ++ marks 3).map (Value.int .u32))) ∧ Below W.heap.size W F
theorem fin_oo {W w4 : World} {n m : Bool} {xs ys : List Int} {ga ca gb cb : Nat} (oa : w4.ownsRow W.heap.size 44 1 (.slice (some ⟨ga, 0, none⟩) (xs.length + 3) ca) (xs.length + 3) ((xs ++ marks 3).map (Value.int .u32))) (ob : w4.ownsRow W.heap.size 44 1 (.slice (some ⟨gb, 0, none⟩) (ys.length + 3) cb) (ys.length + 3) ((ys ++ marks 3).map (Value.int .u32))) (hb : Below W.heap.size W w4) {pa pb : Nat} (ha : Box w4 pa 24 #[.bool false, .slice none 0 0]) (hz : Box w4 pb 24 #[.bool false, .slice none 0 0]) (hne : pa ≠ pb) (la : W.heap.size ≤ pa) (lb : W.heap.size ≤ pb) :
    Fin W ((((w4.setCell ⟨pa, 0, none⟩ (.bool n)).setCell ⟨pa, 1, none⟩ (.slice (some ⟨ga, 0, none⟩) xs.length ca)).setCell ⟨pb, 0, none⟩ (.bool m)).setCell ⟨pb, 1, none⟩ (.slice (some ⟨gb, 0, none⟩) ys.length cb)) n m xs ys pa pb ga ca gb cb := by
  have h1 := ha.put2 (.bool n) (.slice (some ⟨ga, 0, none⟩) xs.length ca)
  have h2 := hz.far2 (Ne.symm hne) (.bool n) (.slice (some ⟨ga, 0, none⟩) xs.length ca)
  have o1 := own_put2 oa pa (own_ne_box oa ha (by decide)) (.bool n) (.slice (some ⟨ga, 0, none⟩) xs.length ca)
  have o2 := own_put2 ob pa (own_ne_box ob ha (by decide)) (.bool n) (.slice (some ⟨ga, 0, none⟩) xs.length ca)
  exact ⟨h1.far2 hne _ _, h2.put2 _ _, own_put2 o1 pb (own_ne_box o1 h2 (by decide)) _ _, own_put2 o2 pb (own_ne_box o2 h2 (by decide)) _ _, below_put2 (below_put2 hb _ la _ _) _ lb _ _⟩
theorem fin_on {W w4 : World} {n m : Bool} {xs ys : List Int} {ga ca gb cb : Nat} (oa : w4.ownsRow W.heap.size 44 1 (.slice (some ⟨ga, 0, none⟩) (xs.length + 3) ca) (xs.length + 3) ((xs ++ marks 3).map (Value.int .u32))) (ob : w4.ownsRow W.heap.size 44 1 (.slice (some ⟨gb, 0, none⟩) (ys.length + 3) cb) (ys.length + 3) ((ys ++ marks 3).map (Value.int .u32))) (hb : Below W.heap.size W w4) {pa : Nat} (ha : Box w4 pa 24 #[.bool false, .slice none 0 0]) (la : W.heap.size ≤ pa) :
    Fin W (((w4.setCell ⟨pa, 0, none⟩ (.bool n)).setCell ⟨pa, 1, none⟩ (.slice (some ⟨ga, 0, none⟩) xs.length ca)).alloc (.cells #[.bool m, (.slice (some ⟨gb, 0, none⟩) ys.length cb)] 24)) n m xs ys pa w4.heap.size ga ca gb cb := by
  have h1 := ha.put2 (.bool n) (.slice (some ⟨ga, 0, none⟩) xs.length ca)
  have o1 := own_put2 oa pa (own_ne_box oa ha (by decide)) (.bool n) (.slice (some ⟨ga, 0, none⟩) xs.length ca)
  have o2 := own_put2 ob pa (own_ne_box ob ha (by decide)) (.bool n) (.slice (some ⟨ga, 0, none⟩) xs.length ca)
  have h2 := Box.made ((w4.setCell ⟨pa, 0, none⟩ (.bool n)).setCell ⟨pa, 1, none⟩ (.slice (some ⟨ga, 0, none⟩) xs.length ca)) 24 #[.bool m, (.slice (some ⟨gb, 0, none⟩) ys.length cb)]
  have e : ((w4.setCell ⟨pa, 0, none⟩ (.bool n)).setCell ⟨pa, 1, none⟩ (.slice (some ⟨ga, 0, none⟩) xs.length ca)).heap.size = w4.heap.size := by simp
  rw [e] at h2
  exact ⟨h1.later (alloc_later _ _) h1.lt, h2, owns_later o1 (alloc_later _ _), owns_later o2 (alloc_later _ _), bt (below_put2 hb _ la _ _) (alloc_later _ _)⟩
theorem fin_no {W w4 : World} {n m : Bool} {xs ys : List Int} {ga ca gb cb : Nat} (oa : w4.ownsRow W.heap.size 44 1 (.slice (some ⟨ga, 0, none⟩) (xs.length + 3) ca) (xs.length + 3) ((xs ++ marks 3).map (Value.int .u32))) (ob : w4.ownsRow W.heap.size 44 1 (.slice (some ⟨gb, 0, none⟩) (ys.length + 3) cb) (ys.length + 3) ((ys ++ marks 3).map (Value.int .u32))) (hb : Below W.heap.size W w4) {pb : Nat} (hz : Box w4 pb 24 #[.bool false, .slice none 0 0]) (lb : W.heap.size ≤ pb) :
    Fin W (((w4.setCell ⟨pb, 0, none⟩ (.bool m)).setCell ⟨pb, 1, none⟩ (.slice (some ⟨gb, 0, none⟩) ys.length cb)).alloc (.cells #[.bool n, (.slice (some ⟨ga, 0, none⟩) xs.length ca)] 24)) n m xs ys w4.heap.size pb ga ca gb cb := by
  have h1 := hz.put2 (.bool m) (.slice (some ⟨gb, 0, none⟩) ys.length cb)
  have o1 := own_put2 oa pb (own_ne_box oa hz (by decide)) (.bool m) (.slice (some ⟨gb, 0, none⟩) ys.length cb)
  have o2 := own_put2 ob pb (own_ne_box ob hz (by decide)) (.bool m) (.slice (some ⟨gb, 0, none⟩) ys.length cb)
  have h2 := Box.made ((w4.setCell ⟨pb, 0, none⟩ (.bool m)).setCell ⟨pb, 1, none⟩ (.slice (some ⟨gb, 0, none⟩) ys.length cb)) 24 #[.bool n, (.slice (some ⟨ga, 0, none⟩) xs.length ca)]
  have e : ((w4.setCell ⟨pb, 0, none⟩ (.bool m)).setCell ⟨pb, 1, none⟩ (.slice (some ⟨gb, 0, none⟩) ys.length cb)).heap.size = w4.heap.size := by simp
  rw [e] at h2
  exact ⟨h2, h1.later (alloc_later _ _) h1.lt, owns_later o1 (alloc_later _ _), owns_later o2 (alloc_later _ _), bt (below_put2 hb _ lb _ _) (alloc_later _ _)⟩
theorem fin_nn {W w4 : World} {n m : Bool} {xs ys : List Int} {ga ca gb cb : Nat} (oa : w4.ownsRow W.heap.size 44 1 (.slice (some ⟨ga, 0, none⟩) (xs.length + 3) ca) (xs.length + 3) ((xs ++ marks 3).map (Value.int .u32))) (ob : w4.ownsRow W.heap.size 44 1 (.slice (some ⟨gb, 0, none⟩) (ys.length + 3) cb) (ys.length + 3) ((ys ++ marks 3).map (Value.int .u32))) (hb : Below W.heap.size W w4) : Fin W ((w4.alloc (.cells #[.bool n, (.slice (some ⟨ga, 0, none⟩) xs.length ca)] 24)).alloc (.cells #[.bool m, (.slice (some ⟨gb, 0, none⟩) ys.length cb)] 24)) n m xs ys w4.heap.size (w4.heap.size + 1) ga ca gb cb := by
  have h1 := (Box.made w4 24 #[.bool n, (.slice (some ⟨ga, 0, none⟩) xs.length ca)])
  have h2 := Box.made (w4.alloc (.cells #[.bool n, (.slice (some ⟨ga, 0, none⟩) xs.length ca)] 24)) 24 #[.bool m, (.slice (some ⟨gb, 0, none⟩) ys.length cb)]
  have e : (w4.alloc (.cells #[.bool n, (.slice (some ⟨ga, 0, none⟩) xs.length ca)] 24)).heap.size = w4.heap.size + 1 := by simp
  rw [e] at h2
  have l2 := bt (alloc_later w4 (.cells #[.bool n, (.slice (some ⟨ga, 0, none⟩) xs.length ca)] 24)) (alloc_later (w4.alloc (.cells #[.bool n, (.slice (some ⟨ga, 0, none⟩) xs.length ca)] 24)) (.cells #[.bool m, (.slice (some ⟨gb, 0, none⟩) ys.length cb)] 24))
  exact ⟨h1.later (alloc_later _ _) h1.lt, h2, owns_later oa l2, owns_later ob l2, bt hb l2⟩
theorem fin_nn' {W w4 : World} {n m : Bool} {xs ys : List Int} {ga ca gb cb : Nat} (oa : w4.ownsRow W.heap.size 44 1 (.slice (some ⟨ga, 0, none⟩) (xs.length + 3) ca) (xs.length + 3) ((xs ++ marks 3).map (Value.int .u32))) (ob : w4.ownsRow W.heap.size 44 1 (.slice (some ⟨gb, 0, none⟩) (ys.length + 3) cb) (ys.length + 3) ((ys ++ marks 3).map (Value.int .u32))) (hb : Below W.heap.size W w4) : Fin W ((w4.alloc (.cells #[.bool m, (.slice (some ⟨gb, 0, none⟩) ys.length cb)] 24)).alloc (.cells #[.bool n, (.slice (some ⟨ga, 0, none⟩) xs.length ca)] 24)) n m xs ys (w4.heap.size + 1) w4.heap.size ga ca gb cb := by
  have h1 := (Box.made w4 24 #[.bool m, (.slice (some ⟨gb, 0, none⟩) ys.length cb)])
  have h2 := Box.made (w4.alloc (.cells #[.bool m, (.slice (some ⟨gb, 0, none⟩) ys.length cb)] 24)) 24 #[.bool n, (.slice (some ⟨ga, 0, none⟩) xs.length ca)]
  have e : (w4.alloc (.cells #[.bool m, (.slice (some ⟨gb, 0, none⟩) ys.length cb)] 24)).heap.size = w4.heap.size + 1 := by simp
  rw [e] at h2
  have l2 := bt (alloc_later w4 (.cells #[.bool m, (.slice (some ⟨gb, 0, none⟩) ys.length cb)] 24)) (alloc_later (w4.alloc (.cells #[.bool m, (.slice (some ⟨gb, 0, none⟩) ys.length cb)] 24)) (.cells #[.bool n, (.slice (some ⟨ga, 0, none⟩) xs.length ca)] 24))
  exact ⟨h2, h1.later (alloc_later _ _) h1.lt, owns_later oa l2, owns_later ob l2, bt hb l2⟩
theorem lent_front {W : World} {base g cap : Nat} {xs : List Int} (ho : W.ownsRow base 44 1 (.slice (some ⟨g, 0, none⟩) (xs.length + 3) cap) (xs.length + 3) ((xs ++ marks 3).map (Value.int .u32))) : W.ownsRow base 44 1 (.slice (some ⟨g, 0, none⟩) xs.length cap) xs.length (xs.map (Value.int .u32)) := by
  rw [List.map_append] at ho
  exact owns_front (k := 3) ho (by simp)


set_option maxHeartbeats 25600000 in
set_option maxRecDepth 100000 in
theorem wc_region (n : Bool) (a : Option Addr) (c : Nat) (xs : List Int) (m : Bool) (b : Option Addr) (d : Nat) (ys : List Int) (w w2 : World) (hk : xs.length ≤ 1048576) (hl : ys.length ≤ 1048576)
    (HX : Hid (Boxes w2 [(w.heap.size + 1, #[.bool m, .slice b ys.length d]), (w.heap.size, #[.bool n, .slice a xs.length c])])) (HS : Hid (Sl w2 (.slice a xs.length c) xs ∧ Sl w2 (.slice b ys.length d) ys))
    (t0 t1 t4 t5 t6 t7 t8 t9 t10 t11 t12 t13 t14 t15 t16 t17 t18 t19 t20 t21 t22 t23 t24 t25 t26 t27 t28 t29 t30 t31 t32 t33 t34 t35 t36 t37 t38 t39 t40 t41 t42 t43 t44 t45 t46 t47 t48 t49 t50 t51 t52 t53 t54 t55 t56 t57 t58 t59 t60 t61 t62 t63 : Value) (rest : List Value) (Q : Exit → Act → World → Prop)
    (hQ : ∀ pa pb ga ca gb cb F, Hid (Fin w2 F n m xs ys pa pb ga ca gb cb ∧ w2.heap.size ≤ ga ∧ ga < gb ∧ gb < F.heap.size) → Q .normal { tmps := (List.toArray (t0 :: t1 :: (.pointer (some ⟨w.heap.size, 0, none⟩)) :: (.pointer (some ⟨w.heap.size + 1, 0, none⟩)) :: t4 :: (.pointer (some ⟨pa, 0, none⟩)) :: (.pointer (some ⟨pb, 0, none⟩)) :: t7 :: t8 :: t9 :: t10 :: t11 :: t12 :: t13 :: t14 :: t15 :: t16 :: t17 :: t18 :: t19 :: t20 :: t21 :: t22 :: t23 :: t24 :: t25 :: t26 :: t27 :: t28 :: t29 :: t30 :: t31 :: t32 :: t33 :: t34 :: t35 :: t36 :: t37 :: t38 :: t39 :: t40 :: t41 :: t42 :: t43 :: t44 :: t45 :: t46 :: t47 :: t48 :: t49 :: t50 :: t51 :: t52 :: t53 :: t54 :: t55 :: t56 :: t57 :: t58 :: t59 :: (.agg #[.bool n, .slice a xs.length c]) :: (.agg #[.bool n, .slice (some ⟨ga, 0, none⟩) xs.length ca]) :: (.agg #[.bool m, .slice b ys.length d]) :: (.agg #[.bool m, .slice (some ⟨gb, 0, none⟩) ys.length cb]) :: rest)), defers := [] } F) :
    Code.wp Tryz.prog (Code.region 5 #[{ dst := some 60, op := Op.load 24 (Operand.tmp 2), type := 24, pos := "law.go:46", after := #[], guard := none }, { dst := some 61, op := Op.call { callee := Callee.value (Operand.func 6), args := #[Operand.tmp 60], argTypes := #[24] }, type := 24, pos := "law.go:46", after := #[{ on := 0, ground := Ground.data }], guard := none }, { dst := some 62, op := Op.load 24 (Operand.tmp 3), type := 24, pos := "law.go:46", after := #[], guard := none }, { dst := some 63, op := Op.call { callee := Callee.value (Operand.func 6), args := #[Operand.tmp 62], argTypes := #[24] }, type := 24, pos := "law.go:46", after := #[{ on := 2, ground := Ground.data }, { on := 1, ground := Ground.chain }], guard := none }, { dst := some 5, op := Op.alloc 24, type := 0, pos := "law.go:46", after := #[], guard := none }, { dst := some 6, op := Op.alloc 24, type := 0, pos := "law.go:46", after := #[], guard := none }, { dst := none, op := Op.store 24 (Operand.tmp 5) (Operand.tmp 61), type := 0, pos := "law.go:46", after := #[{ on := 4, ground := Ground.data }, { on := 1, ground := Ground.data }, { on := 3, ground := Ground.chain }, { on := 0, ground := Ground.phase }, { on := 1, ground := Ground.phase }, { on := 2, ground := Ground.textOnly Departure.lateStores }, { on := 3, ground := Ground.textOnly Departure.lateStoresUnsure }, { on := 4, ground := Ground.phase }, { on := 5, ground := Ground.phase }], guard := none }, { dst := none, op := Op.store 24 (Operand.tmp 6) (Operand.tmp 63), type := 0, pos := "law.go:46", after := #[{ on := 5, ground := Ground.data }, { on := 3, ground := Ground.data }, { on := 6, ground := Ground.chain }, { on := 0, ground := Ground.phase }, { on := 1, ground := Ground.phase }, { on := 2, ground := Ground.phase }, { on := 3, ground := Ground.phase }, { on := 4, ground := Ground.phase }, { on := 5, ground := Ground.phase }, { on := 6, ground := Ground.phase }], guard := none }] true) Q { tmps := (List.toArray (t0 :: t1 :: (.pointer (some ⟨w.heap.size, 0, none⟩)) :: (.pointer (some ⟨w.heap.size + 1, 0, none⟩)) :: t4 :: t5 :: t6 :: t7 :: t8 :: t9 :: t10 :: t11 :: t12 :: t13 :: t14 :: t15 :: t16 :: t17 :: t18 :: t19 :: t20 :: t21 :: t22 :: t23 :: t24 :: t25 :: t26 :: t27 :: t28 :: t29 :: t30 :: t31 :: t32 :: t33 :: t34 :: t35 :: t36 :: t37 :: t38 :: t39 :: t40 :: t41 :: t42 :: t43 :: t44 :: t45 :: t46 :: t47 :: t48 :: t49 :: t50 :: t51 :: t52 :: t53 :: t54 :: t55 :: t56 :: t57 :: t58 :: t59 :: t60 :: t61 :: t62 :: t63 :: rest)), defers := [] } w2 := by
  have HQ := hid hQ
  clear hQ
  have HK : Hid (∀ V, Below w2.heap.size w2 V → V.cell? ⟨w.heap.size, 0, none⟩ = some (.bool n) ∧ V.cell? ⟨w.heap.size, 1, none⟩ = some (.slice a xs.length c) ∧ V.cell? ⟨w.heap.size + 1, 0, none⟩ = some (.bool m) ∧ V.cell? ⟨w.heap.size + 1, 1, none⟩ = some (.slice b ys.length d)) := fun V hb => by
    obtain ⟨p0, p1⟩ := (HX.out.later hb).get (.tail _ (.head _))
    obtain ⟨q0, q1⟩ := (HX.out.later hb).get (.head _)
    exact ⟨p0, p1, q0, q1⟩
  have HCx : Hid (∀ V, Below w2.heap.size w2 V → Calls Tryz.prog 6 #[.agg #[.bool n, .slice a xs.length c]] V fun e V' => ∃ g1 c1, e = .returned (.agg #[.bool n, (.slice (some ⟨g1, 0, none⟩) xs.length c1)]) ∧ Hid (V'.ownsRow w2.heap.size 44 1 (.slice (some ⟨g1, 0, none⟩) (xs.length + 3) c1) (xs.length + 3) ((xs ++ marks 3).map (Value.int .u32)) ∧ Below V.heap.size V V' ∧ Below w2.heap.size w2 V' ∧ V.heap.size ≤ g1 ∧ g1 < V'.heap.size) ∧ V'.cell? ⟨w.heap.size, 0, none⟩ = some (.bool n) ∧ V'.cell? ⟨w.heap.size, 1, none⟩ = some (.slice a xs.length c) ∧ V'.cell? ⟨w.heap.size + 1, 0, none⟩ = some (.bool m) ∧ V'.cell? ⟨w.heap.size + 1, 1, none⟩ = some (.slice b ys.length d)) := fun V hb => by
    refine Calls.mono (lentWhole_any n _ xs V (HS.out.1.later hb) (by omega)) ?_
    rintro e V' ⟨g, c, rfl, o, hb'⟩
    exact ⟨g, c, rfl, ⟨owns_base o hb.size, hb', bt hb hb', (o.lt g rfl).1, (o.lt g rfl).2⟩, HK.out V' (bt hb hb')⟩
  have HCy : Hid (∀ V, Below w2.heap.size w2 V → Calls Tryz.prog 6 #[.agg #[.bool m, .slice b ys.length d]] V fun e V' => ∃ g1 c1, e = .returned (.agg #[.bool m, (.slice (some ⟨g1, 0, none⟩) ys.length c1)]) ∧ Hid (V'.ownsRow w2.heap.size 44 1 (.slice (some ⟨g1, 0, none⟩) (ys.length + 3) c1) (ys.length + 3) ((ys ++ marks 3).map (Value.int .u32)) ∧ Below V.heap.size V V' ∧ Below w2.heap.size w2 V' ∧ V.heap.size ≤ g1 ∧ g1 < V'.heap.size) ∧ V'.cell? ⟨w.heap.size, 0, none⟩ = some (.bool n) ∧ V'.cell? ⟨w.heap.size, 1, none⟩ = some (.slice a xs.length c) ∧ V'.cell? ⟨w.heap.size + 1, 0, none⟩ = some (.bool m) ∧ V'.cell? ⟨w.heap.size + 1, 1, none⟩ = some (.slice b ys.length d)) := fun V hb => by
    refine Calls.mono (lentWhole_any m _ ys V (HS.out.2.later hb) (by omega)) ?_
    rintro e V' ⟨g, c, rfl, o, hb'⟩
    exact ⟨g, c, rfl, ⟨owns_base o hb.size, hb', bt hb hb', (o.lt g rfl).1, (o.lt g rfl).2⟩, HK.out V' (bt hb hb')⟩
  have HBR := hid (Below.refl w2.heap.size w2)
  obtain ⟨p00, p01⟩ := HX.out.get (.tail _ (.head _))
  obtain ⟨p10, p11⟩ := HX.out.get (.head _)
  have HW2 := hid (show w.heap.size + 1 < w2.heap.size from (HX.out _ (.head _)).lt)
  obtain ⟨m1, m2, m3, m4, m5, m6⟩ := nes HW2.out
  have hs0 := HK.out _ HBR.out.drew
  go_region_held3 (fun V : World => V.cell? ⟨w.heap.size, 0, none⟩ = some (.bool n) ∧ V.cell? ⟨w.heap.size, 1, none⟩ = some (.slice a xs.length c) ∧ V.cell? ⟨w.heap.size + 1, 0, none⟩ = some (.bool m) ∧ V.cell? ⟨w.heap.size + 1, 1, none⟩ = some (.slice b ys.length d)) (first | exact hs4 | exact hs3 | exact hs0 | with_reducible exact HK.out _ (below_al HE4.out.2.2.1 _) | with_reducible exact HK.out _ (below_al (below_al HE4.out.2.2.1 _) _) | with_reducible exact HK.out _ (below_al HE3.out.2.2.1 _) | with_reducible exact HK.out _ (below_al (below_al HE3.out.2.2.1 _) _) | with_reducible exact HK.out _ (below_al HBR.out _).drew | with_reducible exact HK.out _ (below_al (below_al HBR.out _) _).drew | with_reducible exact HK.out _ (below_put2 HE4.out.2.2.1 _ (by omega) _ _) | with_reducible exact HK.out _ (below_al (below_put2 HE4.out.2.2.1 _ (by omega) _ _) _) | with_reducible exact HK.out _ (below_put2 (below_put2 HE4.out.2.2.1 _ (by omega) _ _) _ (by omega) _ _) | go_keep)
    (first
      | (go_at_call 6; with_reducible refine Calls.mono (HCx.out _ (by first | exact HBR.out.drew | exact (below_al HBR.out _).drew | exact (below_al (below_al HBR.out _) _).drew)) ?_; rintro e w3 ⟨ga, ca, rfl, HE3, hs3⟩; obtain ⟨l1, l2, l3, l4, l5, l6⟩ := nes (Nat.lt_of_lt_of_le HW2.out HE3.out.2.2.1.size); first | (have HZ := hid (zb2 (undrew HE3.out.2.1)); have HZ1 := hid HZ.out.1; have HZ2 := hid HZ.out.2; clear HZ; obtain ⟨y0, y1, y2, y3⟩ := HZ1.out.c2; obtain ⟨u0, u1, u2, u3⟩ := HZ2.out.c2; obtain ⟨n1, n2⟩ := ne_new HZ1.out; obtain ⟨n3, n4⟩ := ne_new HZ2.out) | (have HZ1 := hid (zb1 (undrew HE3.out.2.1)); obtain ⟨y0, y1, y2, y3⟩ := HZ1.out.c2; obtain ⟨n1, n2⟩ := ne_new HZ1.out) | skip)
      | (go_at_call 6; with_reducible refine Calls.mono (HCy.out _ (by first | exact HE3.out.2.2.1 | exact below_al HE3.out.2.2.1 _ | exact below_al (below_al HE3.out.2.2.1 _) _)) ?_; rintro e w4 ⟨gb, cb, rfl, HE4, hs4⟩; (first | (have HL4 := hid (unal2 (w := w3) HE4.out.2.1)) | (have HL4 := hid (unal1 (w := w3) HE4.out.2.1)) | (have HL4 := hid HE4.out.2.1)); (first | (have HY1 := hid (HZ1.out.later HL4.out HZ1.out.lt); clear y0 y1 y2 y3; have n0 : ¬ w2.heap.size = w3.heap.size := Nat.ne_of_lt n1; obtain ⟨y0, y1, y2, y3⟩ := HY1.out.c2; obtain ⟨k1, k2⟩ := ne_new HY1.out) | skip); (first | (have HY2 := hid (HZ2.out.later HL4.out HZ2.out.lt); clear u0 u1 u2 u3; obtain ⟨u0, u1, u2, u3⟩ := HY2.out.c2; obtain ⟨k3, k4⟩ := ne_new HY2.out) | skip); (first | (have HZ := hid (zb2 HE4.out.2.1); have HZ3 := hid HZ.out.1; have HZ4 := hid HZ.out.2; clear HZ; obtain ⟨v0, v1, v2, v3⟩ := HZ3.out.c2; obtain ⟨t0, t1, t2, t3⟩ := HZ4.out.c2; obtain ⟨n5, n6⟩ := ne_new HZ3.out; obtain ⟨n7, n8⟩ := ne_new HZ4.out) | (have HZ3 := hid (zb1 HE4.out.2.1); obtain ⟨v0, v1, v2, v3⟩ := HZ3.out.c2; obtain ⟨n5, n6⟩ := ne_new HZ3.out) | skip)))
  all_goals
    have HOa := hid (owns_later HE3.out.1 HL4.out)
    have hz23 := HE3.out.2.2.1.size
    have HG : Hid (w2.heap.size ≤ ga ∧ ga < gb ∧ ∀ s, w4.heap.size ≤ s → gb < s) := by
      have e1 := HE3.out.2.2.2.1
      have e2 := HE3.out.2.2.2.2
      have e3 := HE4.out.2.2.2.1
      have e4 := HE4.out.2.2.2.2
      simp only [World.size_alloc, World.size_drew] at e1 e3
      exact ⟨by omega, by omega, fun s hs => by omega⟩
    try go_wp2_with fail
  all_goals (try refine NoPanic.normal ?_)
  all_goals (first | with_reducible exact HQ.out _ _ ga ca gb cb _ (hid (And.intro (fin_oo HOa.out HE4.out.1 HE4.out.2.2.1 HY1.out HY2.out (by omega) (by omega) (by omega)) (And.intro HG.out.1 (And.intro HG.out.2.1 (HG.out.2.2 _ (by simp <;> omega)))))) | with_reducible exact HQ.out _ _ ga ca gb cb _ (hid (And.intro (fin_oo HOa.out HE4.out.1 HE4.out.2.2.1 HY2.out HY1.out (by omega) (by omega) (by omega)) (And.intro HG.out.1 (And.intro HG.out.2.1 (HG.out.2.2 _ (by simp <;> omega)))))) | with_reducible exact HQ.out _ _ ga ca gb cb _ (hid (And.intro (fin_oo HOa.out HE4.out.1 HE4.out.2.2.1 HY1.out HZ3.out (by omega) (by omega) (by omega)) (And.intro HG.out.1 (And.intro HG.out.2.1 (HG.out.2.2 _ (by simp <;> omega)))))) | with_reducible exact HQ.out _ _ ga ca gb cb _ (hid (And.intro (fin_oo HOa.out HE4.out.1 HE4.out.2.2.1 HZ3.out HY1.out (by omega) (by omega) (by omega)) (And.intro HG.out.1 (And.intro HG.out.2.1 (HG.out.2.2 _ (by simp <;> omega)))))) | with_reducible exact HQ.out _ _ ga ca gb cb _ (hid (And.intro (fin_oo HOa.out HE4.out.1 HE4.out.2.2.1 HZ3.out HZ4.out (by omega) (by omega) (by omega)) (And.intro HG.out.1 (And.intro HG.out.2.1 (HG.out.2.2 _ (by simp <;> omega)))))) | with_reducible exact HQ.out _ _ ga ca gb cb _ (hid (And.intro (fin_oo HOa.out HE4.out.1 HE4.out.2.2.1 HZ4.out HZ3.out (by omega) (by omega) (by omega)) (And.intro HG.out.1 (And.intro HG.out.2.1 (HG.out.2.2 _ (by simp <;> omega)))))) | with_reducible exact HQ.out _ _ ga ca gb cb _ (hid (And.intro (fin_on HOa.out HE4.out.1 HE4.out.2.2.1 HY1.out (by omega)) (And.intro HG.out.1 (And.intro HG.out.2.1 (HG.out.2.2 _ (by simp <;> omega)))))) | with_reducible exact HQ.out _ _ ga ca gb cb _ (hid (And.intro (fin_on HOa.out HE4.out.1 HE4.out.2.2.1 HZ3.out (by omega)) (And.intro HG.out.1 (And.intro HG.out.2.1 (HG.out.2.2 _ (by simp <;> omega)))))) | with_reducible exact HQ.out _ _ ga ca gb cb _ (hid (And.intro (fin_no HOa.out HE4.out.1 HE4.out.2.2.1 HY1.out (by omega)) (And.intro HG.out.1 (And.intro HG.out.2.1 (HG.out.2.2 _ (by simp <;> omega)))))) | with_reducible exact HQ.out _ _ ga ca gb cb _ (hid (And.intro (fin_no HOa.out HE4.out.1 HE4.out.2.2.1 HZ3.out (by omega)) (And.intro HG.out.1 (And.intro HG.out.2.1 (HG.out.2.2 _ (by simp <;> omega)))))) | with_reducible exact HQ.out _ _ ga ca gb cb _ (hid (And.intro (fin_nn HOa.out HE4.out.1 HE4.out.2.2.1 ) (And.intro HG.out.1 (And.intro HG.out.2.1 (HG.out.2.2 _ (by simp <;> omega)))))) | with_reducible exact HQ.out _ _ ga ca gb cb _ (hid (And.intro (fin_nn' HOa.out HE4.out.1 HE4.out.2.2.1 ) (And.intro HG.out.1 (And.intro HG.out.2.1 (HG.out.2.2 _ (by simp <;> omega)))))))
end Go.Proofs.YtgknjdademncdaaGreat

/- The law WholeCalls answers true, and writes nothing that was there: whatever two numbers come in. -/
namespace Go.Proofs.YtgknjdademncdaaGreat
open Go.RowKit
set_option linter.unusedVariables false

theorem wsame2 {n m : Bool} {xs ys : List Int} (wx : Wd xs) (wy : Wd ys) (tx : Trimmed xs) (ty : Trimmed ys) (nx : n = false ∨ 0 < xs.length) (ny : m = false ∨ 0 < ys.length) (h : wval n xs = wval m ys) : n = m ∧ xs = ys := by
  have x0 := val_nonneg wx
  have y0 := val_nonneg wy
  cases n <;> cases m
  · exact ⟨rfl, trimmed_eq wx wy tx ty h⟩
  · have e : val xs = -(val ys) := h
    have := val_pos' wy ty (ny.elim (fun e => by cases e) id)
    omega
  · have e : -(val xs) = val ys := h
    have := val_pos' wx tx (nx.elim (fun e => by cases e) id)
    omega
  · have e : -(val xs) = -(val ys) := h
    exact ⟨rfl, trimmed_eq wx wy tx ty (by omega)⟩
theorem WTells.same {e t : Int} {n m : Bool} {zs ys : List Int} {c d : Int} (h : WTells e t n zs c) (g : WTells e t m ys d) : n = m ∧ zs = ys ∧ c = d := by
  by_cases he : e = 0
  · by_cases hl : wlim ≤ t ∨ t ≤ -wlim
    · obtain ⟨a1, a2, a3⟩ := h.long he hl
      obtain ⟨b1, b2, b3⟩ := g.long he hl
      exact ⟨by rw [a1, b1], by rw [a2, b2], by rw [a3, b3]⟩
    · obtain ⟨a1, a2⟩ := h.good he (by omega) (by omega)
      obtain ⟨b1, b2⟩ := g.good he (by omega) (by omega)
      obtain ⟨r1, r2⟩ := wsame2 h.wd g.wd h.trim g.trim h.sign g.sign (by rw [a2, b2])
      exact ⟨r1, r2, by rw [a1, b1]⟩
  · obtain ⟨a1, a2, a3⟩ := h.bad he
    obtain ⟨b1, b2, b3⟩ := g.bad he
    exact ⟨by rw [a1, b1], by rw [a2, b2], by rw [a3, b3]⟩
set_option maxHeartbeats 1600000 in
set_option maxRecDepth 100000 in
theorem large2_any (n : Bool) (a : Option Addr) (k c : Nat) (w : World) (hk : k ≤ 9223372036854775807) :
    Calls Tryz.prog 5 #[.agg #[.bool n, .slice a k c]] w fun e w' => e = .returned (.bool (decide (40 < k ∧ k ≤ 2048))) ∧ Below w.heap.size w w' := by
  have HB := hid (alloc_later w (.cells #[.bool n, .slice a k c] 24))
  by_cases h1 : 40 < k
  · have h1' : (40 : Int) < (k : Int) := by omega
    by_cases h2 : k ≤ 2048
    · have h2' : (k : Int) ≤ 2048 := by omega
      rw [decide_eq_true ⟨h1, h2⟩]
      clear h1 h2
      go_enter Tryz.func5, Tryz.ntmps5
      go_wp2_with fail
      go_ret
      exact ⟨rfl, HB.out⟩
    · have h2' : ¬ (k : Int) ≤ 2048 := by omega
      rw [decide_eq_false (fun h => h2 h.2)]
      clear h1 h2
      go_enter Tryz.func5, Tryz.ntmps5
      go_wp2_with fail
      go_ret
      exact ⟨rfl, HB.out⟩
  · have h1' : ¬ (40 : Int) < (k : Int) := by omega
    rw [decide_eq_false (fun h => h1 h.1)]
    clear h1
    go_enter Tryz.func5, Tryz.ntmps5
    go_wp2_with fail
    go_ret
    exact ⟨rfl, HB.out⟩


/-- 10 lists of the call's own, made one behind the other, in a list of lists. -/
theorem ten_apart {w : World} {b b1 b2 b3 b4 b5 b6 b7 b8 b9 b10 n1 n2 n3 n4 n5 n6 n7 n8 n9 n10 : Nat} {v1 v2 v3 v4 v5 v6 v7 v8 v9 v10 : Value} {x1 x2 x3 x4 x5 x6 x7 x8 x9 x10 : List Int} (c1 c2 c3 c4 c5 c6 c7 c8 c9 c10 c11 : Nat) (hm : c1 ≤ c2 ∧ c2 ≤ c3 ∧ c3 ≤ c4 ∧ c4 ≤ c5 ∧ c5 ≤ c6 ∧ c6 ≤ c7 ∧ c7 ≤ c8 ∧ c8 ≤ c9 ∧ c9 ≤ c10 ∧ c10 ≤ c11)
    (o1 : w.ownsRow b1 44 1 v1 n1 (x1.map (Value.int .u32))) (d1 : Wd x1) (l1 : x1.length ≤ 2000000) (e1 : b ≤ b1)
    (o2 : w.ownsRow b2 44 1 v2 n2 (x2.map (Value.int .u32))) (d2 : Wd x2) (l2 : x2.length ≤ 2000000) (e2 : b ≤ b2)
    (o3 : w.ownsRow b3 44 1 v3 n3 (x3.map (Value.int .u32))) (d3 : Wd x3) (l3 : x3.length ≤ 2000000) (e3 : b ≤ b3)
    (o4 : w.ownsRow b4 44 1 v4 n4 (x4.map (Value.int .u32))) (d4 : Wd x4) (l4 : x4.length ≤ 2000000) (e4 : b ≤ b4)
    (o5 : w.ownsRow b5 44 1 v5 n5 (x5.map (Value.int .u32))) (d5 : Wd x5) (l5 : x5.length ≤ 2000000) (e5 : b ≤ b5)
    (o6 : w.ownsRow b6 44 1 v6 n6 (x6.map (Value.int .u32))) (d6 : Wd x6) (l6 : x6.length ≤ 2000000) (e6 : b ≤ b6)
    (o7 : w.ownsRow b7 44 1 v7 n7 (x7.map (Value.int .u32))) (d7 : Wd x7) (l7 : x7.length ≤ 2000000) (e7 : b ≤ b7)
    (o8 : w.ownsRow b8 44 1 v8 n8 (x8.map (Value.int .u32))) (d8 : Wd x8) (l8 : x8.length ≤ 2000000) (e8 : b ≤ b8)
    (o9 : w.ownsRow b9 44 1 v9 n9 (x9.map (Value.int .u32))) (d9 : Wd x9) (l9 : x9.length ≤ 2000000) (e9 : b ≤ b9)
    (o10 : w.ownsRow b10 44 1 v10 n10 (x10.map (Value.int .u32))) (d10 : Wd x10) (l10 : x10.length ≤ 2000000) (e10 : b ≤ b10)
    (i1 : Within v1 c1 c2) (i2 : Within v2 c2 c3) (i3 : Within v3 c3 c4) (i4 : Within v4 c4 c5) (i5 : Within v5 c5 c6) (i6 : Within v6 c6 c7) (i7 : Within v7 c7 c8) (i8 : Within v8 c8 c9) (i9 : Within v9 c9 c10) (i10 : Within v10 c10 c11) :
    Lists (w.alloc (.cells #[v1, v2, v3, v4, v5, v6, v7, v8, v9, v10] 22)) b w.heap.size 10 (fun j => [v1, v2, v3, v4, v5, v6, v7, v8, v9, v10][j]?.getD undef) (fun j => [x1, x2, x3, x4, x5, x6, x7, x8, x9, x10][j]?.getD []) := by
  have k1 : x1.length = n1 := by have := o1.1; simpa using this
  have k2 : x2.length = n2 := by have := o2.1; simpa using this
  have k3 : x3.length = n3 := by have := o3.1; simpa using this
  have k4 : x4.length = n4 := by have := o4.1; simpa using this
  have k5 : x5.length = n5 := by have := o5.1; simpa using this
  have k6 : x6.length = n6 := by have := o6.1; simpa using this
  have k7 : x7.length = n7 := by have := o7.1; simpa using this
  have k8 : x8.length = n8 := by have := o8.1; simpa using this
  have k9 : x9.length = n9 := by have := o9.1; simpa using this
  have k10 : x10.length = n10 := by have := o10.1; simpa using this
  subst k1; subst k2; subst k3; subst k4; subst k5; subst k6; subst k7; subst k8; subst k9; subst k10
  obtain ⟨m1, m2, m3, m4, m5, m6, m7, m8, m9, m10⟩ := hm
  refine ⟨fun j hj => ?_, fun j hj => ?_, fun j hj => ?_, apart_perm (fun j => [c1, c2, c3, c4, c5, c6, c7, c8, c9, c10, c11][j]?.getD 0) (fun j => ([0, 1, 2, 3, 4, 5, 6, 7, 8, 9] : List Nat)[j]?.getD 0) (fun j hj => ?_) (by decide) (by decide) (fun j hj => ?_), ⟨_, heap_alloc_new w _, fun j hj => ?_⟩⟩
  · match j, hj with
    | 0, _ => exact d1
    | 1, _ => exact d2
    | 2, _ => exact d3
    | 3, _ => exact d4
    | 4, _ => exact d5
    | 5, _ => exact d6
    | 6, _ => exact d7
    | 7, _ => exact d8
    | 8, _ => exact d9
    | 9, _ => exact d10
  · match j, hj with
    | 0, _ => show x1.length ≤ _; omega
    | 1, _ => show x2.length ≤ _; omega
    | 2, _ => show x3.length ≤ _; omega
    | 3, _ => show x4.length ≤ _; omega
    | 4, _ => show x5.length ≤ _; omega
    | 5, _ => show x6.length ≤ _; omega
    | 6, _ => show x7.length ≤ _; omega
    | 7, _ => show x8.length ≤ _; omega
    | 8, _ => show x9.length ≤ _; omega
    | 9, _ => show x10.length ≤ _; omega
  · match j, hj with
    | 0, _ => exact owns_base (o1.alloc _) e1
    | 1, _ => exact owns_base (o2.alloc _) e2
    | 2, _ => exact owns_base (o3.alloc _) e3
    | 3, _ => exact owns_base (o4.alloc _) e4
    | 4, _ => exact owns_base (o5.alloc _) e5
    | 5, _ => exact owns_base (o6.alloc _) e6
    | 6, _ => exact owns_base (o7.alloc _) e7
    | 7, _ => exact owns_base (o8.alloc _) e8
    | 8, _ => exact owns_base (o9.alloc _) e9
    | 9, _ => exact owns_base (o10.alloc _) e10
  · match j, hj with
    | 0, _ => exact m1
    | 1, _ => exact m2
    | 2, _ => exact m3
    | 3, _ => exact m4
    | 4, _ => exact m5
    | 5, _ => exact m6
    | 6, _ => exact m7
    | 7, _ => exact m8
    | 8, _ => exact m9
    | 9, _ => exact m10
  · match j, hj with
    | 0, _ => exact i1
    | 1, _ => exact i2
    | 2, _ => exact i3
    | 3, _ => exact i4
    | 4, _ => exact i5
    | 5, _ => exact i6
    | 6, _ => exact i7
    | 7, _ => exact i8
    | 8, _ => exact i9
    | 9, _ => exact i10
  · match j, hj with
    | 0, _ => rfl
    | 1, _ => rfl
    | 2, _ => rfl
    | 3, _ => rfl
    | 4, _ => rfl
    | 5, _ => rfl
    | 6, _ => rfl
    | 7, _ => rfl
    | 8, _ => rfl
    | 9, _ => rfl

set_option maxHeartbeats 25600000 in
set_option maxRecDepth 100000 in
theorem wholeCalls_walk (n : Bool) (a : Option Addr) (k c : Nat) (xs : List Int) (m : Bool) (b : Option Addr) (l d : Nat) (ys : List Int) (w : World) (h : Reads w w.heap.size a k c xs) (g : Reads w w.heap.size b l d ys) (hk : k ≤ 1048576) (hl : l ≤ 1048576) :
    Calls Tryz.prog 3 #[.agg #[.bool n, .slice a k c], .agg #[.bool m, .slice b l d]] w fun e w' => e = .returned (.bool true) ∧ Below w.heap.size w w' := by
  have hlx := h.1
  subst hlx
  have hly := g.1
  subst hly
  have hs : Sl w (.slice a xs.length c) xs := ⟨a, c, rfl, h⟩
  have gs : Sl w (.slice b ys.length d) ys := ⟨b, d, rfl, g⟩
  have wx := h.2.1
  have wy := g.2.1
  clear h g
  have HB : Hid (Below w.heap.size w ((w.alloc (.cells #[.bool n, .slice a xs.length c] 24)).alloc (.cells #[.bool m, .slice b ys.length d] 24))) := bt (alloc_later _ _) (alloc_later _ _)
  have HX : Hid (Boxes ((w.alloc (.cells #[.bool n, .slice a xs.length c] 24)).alloc (.cells #[.bool m, .slice b ys.length d] 24)) [((w.alloc (.cells #[.bool n, .slice a xs.length c] 24)).heap.size, #[.bool m, .slice b ys.length d]), (w.heap.size, #[.bool n, .slice a xs.length c])]) := Boxes.put (Boxes.put (l := []) (fun p hp => by cases hp) n _) m _
  have hws : (w.alloc (.cells #[.bool n, .slice a xs.length c] 24)).heap.size = w.heap.size + 1 := by simp
  rw [hws] at HX
  clear hws
  have HS := hid (And.intro (hs.later HB.out) (gs.later HB.out))
  have HL := hid (lives_any ((w.alloc (.cells #[.bool n, .slice a xs.length c] 24)).alloc (.cells #[.bool m, .slice b ys.length d] 24)))
  have HLX := hid (fun ww => large2_any n a xs.length c ww (by omega))
  have HLY := hid (fun ww => large2_any m b ys.length d ww (by omega))
  clear hs gs
  by_cases h1 : 40 < xs.length ∧ xs.length ≤ 2048
  · rw [decide_eq_true h1] at HLX
    clear h1
    go_enter Tryz.func3, Tryz.ntmps3
    go_wp2_with fail
    refine Calls.mono HL.out ?_
    generalize ((w.alloc (.cells #[.bool n, .slice a xs.length c] 24)).alloc (.cells #[.bool m, .slice b ys.length d] 24)) = X at *
    rintro e w0 ⟨rfl, hb0⟩
    have HX0 := hid (HX.out.later hb0)
    have HB0 := hid (bt HB.out hb0)
    obtain ⟨x0, x1⟩ := HX0.out.get (.tail _ (.head _))
    clear hb0 HL
    go_wp2_with fail
    refine Calls.mono (HLX.out _) ?_
    rintro e w1 ⟨rfl, hb1⟩
    have HX1 := hid (HX0.out.later hb1)
    have HB1 := hid (bt HB0.out hb1)
    clear hb1
    go_wp2_with fail
    go_ret
    exact ⟨rfl, HB1.out⟩
  rw [decide_eq_false h1] at HLX
  by_cases h2 : 40 < ys.length ∧ ys.length ≤ 2048
  · rw [decide_eq_true h2] at HLY
    clear h1 h2
    go_enter Tryz.func3, Tryz.ntmps3
    go_wp2_with fail
    refine Calls.mono HL.out ?_
    generalize ((w.alloc (.cells #[.bool n, .slice a xs.length c] 24)).alloc (.cells #[.bool m, .slice b ys.length d] 24)) = X at *
    rintro e w0 ⟨rfl, hb0⟩
    have HX0 := hid (HX.out.later hb0)
    have HB0 := hid (bt HB.out hb0)
    obtain ⟨x0, x1⟩ := HX0.out.get (.tail _ (.head _))
    clear hb0 HL
    go_wp2_with fail
    refine Calls.mono (HLX.out _) ?_
    rintro e w1 ⟨rfl, hb1⟩
    have HX1 := hid (HX0.out.later hb1)
    have HB1 := hid (bt HB0.out hb1)
    clear x0 x1
    obtain ⟨x0, x1⟩ := HX1.out.get (.head _)
    clear hb1
    go_wp2_with fail
    refine Calls.mono (HLY.out _) ?_
    rintro e w2 ⟨rfl, hb2⟩
    have HB2 := hid (bt HB1.out hb2)
    clear hb2
    go_wp2_with fail
    go_ret
    exact ⟨rfl, HB2.out⟩
  rw [decide_eq_false h2] at HLY
  have HSH := hid (And.intro h1 h2)
  clear h1 h2
  go_enter Tryz.func3, Tryz.ntmps3
  go_wp2_with fail
  refine Calls.mono HL.out ?_
  generalize ((w.alloc (.cells #[.bool n, .slice a xs.length c] 24)).alloc (.cells #[.bool m, .slice b ys.length d] 24)) = X at *
  have hszX := HB.out.size
  rintro e w0 ⟨rfl, hb⟩
  have hsw0 := hb.size
  replace HX := hid (HX.out.later hb)
  replace HS := hid (And.intro (HS.out.1.later hb) (HS.out.2.later hb))
  replace HB := hid (bt HB.out hb)
  clear hb HL
  have HC1 := hid (HLX.out w0)
  obtain ⟨p00, p01⟩ := HX.out.get (.tail _ (.head _))
  go_wp2_with fail
  refine Calls.mono HC1.out ?_
  rintro e w1 ⟨rfl, hb⟩
  clear p00 p01
  clear HC1
  have hsw1 := hb.size
  replace HX := hid (HX.out.later hb)
  replace HS := hid (And.intro (HS.out.1.later hb) (HS.out.2.later hb))
  replace HB := hid (bt HB.out hb)
  clear hb
  have HC2 := hid (HLY.out w1)
  obtain ⟨p00, p01⟩ := HX.out.get (.head _)
  go_wp2_with fail
  refine Calls.mono HC2.out ?_
  rintro e w2 ⟨rfl, hb⟩
  clear p00 p01
  clear HC2
  have hsw2 := hb.size
  replace HX := hid (HX.out.later hb)
  replace HS := hid (And.intro (HS.out.1.later hb) (HS.out.2.later hb))
  replace HB := hid (bt HB.out hb)
  clear hb
  go_upto_region 5 with fail
  refine wc_region n a c xs m b d ys w w2 hk hl HX HS _ _ _ _ _ _ _ _ _ _ _ _ _ _ _ _ _ _ _ _ _ _ _ _ _ _ _ _ _ _ _ _ _ _ _ _ _ _ _ _ _ _ _ _ _ _ _ _ _ _ _ _ _ _ _ _ _ _ _ _ _ _ _ _ (fun pa pb ga ca gb cb F HF => ?_)
  have hsC := HF.out.1.2.2.2.2.size
  have HG := hid HF.out.2
  have HLA := hid HF.out.1.2.2.1
  have HLB := hid HF.out.1.2.2.2.1
  replace HX := hid (((HX.out.later HF.out.1.2.2.2.2).cons HF.out.1.1).cons HF.out.1.2.1)
  replace HS := hid (And.intro (HS.out.1.later HF.out.1.2.2.2.2) (HS.out.2.later HF.out.1.2.2.2.2))
  replace HB := hid (bt HB.out HF.out.1.2.2.2.2)
  have HO : Hid (Rows' F []) := fun p hp => by cases hp
  clear HF HLX HLY
  have HC := hid (wneg_full n _ xs _ (Sl.own (lent_front HLA.out) wx) (by omega))
  obtain ⟨p00, p01⟩ := HX.out.get (.tail _ (.head _))
  go_wp2_with fail
  refine Calls.mono HC.out ?_
  rintro e w11 ⟨N1, U1, Z1, C1, rfl, o1, t1, hb⟩
  clear p00 p01
  clear HC
  have hsw11 := hb.size
  obtain ⟨A1, K1, hs⟩ := own_slice' o1
  subst hs
  have HI1 := hid (Within.own o1 (Nat.le_refl _))
  have HT1 := hid t1
  clear t1
  replace HX := hid (HX.out.later hb)
  replace HO := hid (HO.out.later hb)
  replace HS := hid (And.intro (HS.out.1.later hb) (HS.out.2.later hb))
  replace HLA := hid (owns_later HLA.out hb)
  replace HLB := hid (owns_later HLB.out hb)
  replace HB := hid (bt HB.out hb)
  clear hb
  replace HO := hid (HO.out.put o1)
  clear o1
  replace HX := hid (HX.out.put N1 (.slice A1 Z1.length K1))
  replace HO := hid (HO.out.later (alloc_later w11 (.cells #[.bool N1, .slice A1 Z1.length K1] 24)))
  replace HS := hid (And.intro (HS.out.1.later (alloc_later w11 (.cells #[.bool N1, .slice A1 Z1.length K1] 24))) (HS.out.2.later (alloc_later w11 (.cells #[.bool N1, .slice A1 Z1.length K1] 24))))
  replace HLA := hid (owns_later HLA.out (alloc_later w11 (.cells #[.bool N1, .slice A1 Z1.length K1] 24)))
  replace HLB := hid (owns_later HLB.out (alloc_later w11 (.cells #[.bool N1, .slice A1 Z1.length K1] 24)))
  replace HB := hid (bt HB.out (alloc_later w11 (.cells #[.bool N1, .slice A1 Z1.length K1] 24)))
  have hzV11n1 := (alloc_later w11 (.cells #[.bool N1, .slice A1 Z1.length K1] 24)).size
  have HC := hid (wabs_full n _ xs _ (Sl.own (lent_front HLA.out) wx) (by omega))
  obtain ⟨p00, p01⟩ := HX.out.get (.tail _ (.tail _ (.head _)))
  go_wp2_with fail
  refine Calls.mono HC.out ?_
  generalize (w11.alloc (.cells #[.bool N1, .slice A1 Z1.length K1] 24)) = V11 at *
  rintro e w12 ⟨N2, U2, Z2, C2, rfl, o2, t2, hb⟩
  clear p00 p01
  clear HC
  have hsw12 := hb.size
  obtain ⟨A2, K2, hs⟩ := own_slice' o2
  subst hs
  have HI2 := hid (Within.own o2 (Nat.le_refl _))
  have HT2 := hid t2
  clear t2
  replace HX := hid (HX.out.later hb)
  replace HO := hid (HO.out.later hb)
  replace HS := hid (And.intro (HS.out.1.later hb) (HS.out.2.later hb))
  replace HLA := hid (owns_later HLA.out hb)
  replace HLB := hid (owns_later HLB.out hb)
  replace HB := hid (bt HB.out hb)
  clear hb
  replace HO := hid (HO.out.put o2)
  clear o2
  replace HX := hid (HX.out.put N2 (.slice A2 Z2.length K2))
  replace HO := hid (HO.out.later (alloc_later w12 (.cells #[.bool N2, .slice A2 Z2.length K2] 24)))
  replace HS := hid (And.intro (HS.out.1.later (alloc_later w12 (.cells #[.bool N2, .slice A2 Z2.length K2] 24))) (HS.out.2.later (alloc_later w12 (.cells #[.bool N2, .slice A2 Z2.length K2] 24))))
  replace HLA := hid (owns_later HLA.out (alloc_later w12 (.cells #[.bool N2, .slice A2 Z2.length K2] 24)))
  replace HLB := hid (owns_later HLB.out (alloc_later w12 (.cells #[.bool N2, .slice A2 Z2.length K2] 24)))
  replace HB := hid (bt HB.out (alloc_later w12 (.cells #[.bool N2, .slice A2 Z2.length K2] 24)))
  have hzV12n2 := (alloc_later w12 (.cells #[.bool N2, .slice A2 Z2.length K2] 24)).size
  have HC := hid (wadd_any n _ xs m _ ys _ (Sl.own (lent_front HLA.out) wx) (Sl.own (lent_front HLB.out) wy) (by omega) (by omega))
  obtain ⟨p00, p01⟩ := HX.out.get (.tail _ (.tail _ (.tail _ (.head _))))
  obtain ⟨p10, p11⟩ := HX.out.get (.tail _ (.tail _ (.head _)))
  go_wp2_with fail
  refine Calls.mono HC.out ?_
  generalize (w12.alloc (.cells #[.bool N2, .slice A2 Z2.length K2] 24)) = V12 at *
  rintro e w13 ⟨N3, U3, Z3, C3, rfl, o3, t3, hb⟩
  clear p00 p01 p10 p11
  clear HC
  have hsw13 := hb.size
  obtain ⟨A3, K3, hs⟩ := own_slice' o3
  subst hs
  have HI3 := hid (Within.own o3 (Nat.le_refl _))
  have HT3 := hid t3
  clear t3
  replace HX := hid (HX.out.later hb)
  replace HO := hid (HO.out.later hb)
  replace HS := hid (And.intro (HS.out.1.later hb) (HS.out.2.later hb))
  replace HLA := hid (owns_later HLA.out hb)
  replace HLB := hid (owns_later HLB.out hb)
  replace HB := hid (bt HB.out hb)
  clear hb
  replace HO := hid (HO.out.put o3)
  clear o3
  replace HX := hid (HX.out.put N3 (.slice A3 Z3.length K3))
  replace HO := hid (HO.out.later (alloc_later w13 (.cells #[.bool N3, .slice A3 Z3.length K3] 24)))
  replace HS := hid (And.intro (HS.out.1.later (alloc_later w13 (.cells #[.bool N3, .slice A3 Z3.length K3] 24))) (HS.out.2.later (alloc_later w13 (.cells #[.bool N3, .slice A3 Z3.length K3] 24))))
  replace HLA := hid (owns_later HLA.out (alloc_later w13 (.cells #[.bool N3, .slice A3 Z3.length K3] 24)))
  replace HLB := hid (owns_later HLB.out (alloc_later w13 (.cells #[.bool N3, .slice A3 Z3.length K3] 24)))
  replace HB := hid (bt HB.out (alloc_later w13 (.cells #[.bool N3, .slice A3 Z3.length K3] 24)))
  have hzV13n3 := (alloc_later w13 (.cells #[.bool N3, .slice A3 Z3.length K3] 24)).size
  have HC := hid (wsub_full n _ xs m _ ys _ (Sl.own (lent_front HLA.out) wx) (Sl.own (lent_front HLB.out) wy) (by omega) (by omega))
  obtain ⟨p00, p01⟩ := HX.out.get (.tail _ (.tail _ (.tail _ (.tail _ (.head _)))))
  obtain ⟨p10, p11⟩ := HX.out.get (.tail _ (.tail _ (.tail _ (.head _))))
  go_wp2_with fail
  refine Calls.mono HC.out ?_
  generalize (w13.alloc (.cells #[.bool N3, .slice A3 Z3.length K3] 24)) = V13 at *
  rintro e w14 ⟨N4, U4, Z4, C4, rfl, o4, t4, hb⟩
  clear p00 p01 p10 p11
  clear HC
  have hsw14 := hb.size
  obtain ⟨A4, K4, hs⟩ := own_slice' o4
  subst hs
  have HI4 := hid (Within.own o4 (Nat.le_refl _))
  have HT4 := hid t4
  clear t4
  replace HX := hid (HX.out.later hb)
  replace HO := hid (HO.out.later hb)
  replace HS := hid (And.intro (HS.out.1.later hb) (HS.out.2.later hb))
  replace HLA := hid (owns_later HLA.out hb)
  replace HLB := hid (owns_later HLB.out hb)
  replace HB := hid (bt HB.out hb)
  clear hb
  replace HO := hid (HO.out.put o4)
  clear o4
  replace HX := hid (HX.out.put N4 (.slice A4 Z4.length K4))
  replace HO := hid (HO.out.later (alloc_later w14 (.cells #[.bool N4, .slice A4 Z4.length K4] 24)))
  replace HS := hid (And.intro (HS.out.1.later (alloc_later w14 (.cells #[.bool N4, .slice A4 Z4.length K4] 24))) (HS.out.2.later (alloc_later w14 (.cells #[.bool N4, .slice A4 Z4.length K4] 24))))
  replace HLA := hid (owns_later HLA.out (alloc_later w14 (.cells #[.bool N4, .slice A4 Z4.length K4] 24)))
  replace HLB := hid (owns_later HLB.out (alloc_later w14 (.cells #[.bool N4, .slice A4 Z4.length K4] 24)))
  replace HB := hid (bt HB.out (alloc_later w14 (.cells #[.bool N4, .slice A4 Z4.length K4] 24)))
  have hzV14n4 := (alloc_later w14 (.cells #[.bool N4, .slice A4 Z4.length K4] 24)).size
  have HC := hid (wmul_any n _ xs m _ ys _ (Sl.own (lent_front HLA.out) wx) (Sl.own (lent_front HLB.out) wy) (by omega) (by omega))
  obtain ⟨p00, p01⟩ := HX.out.get (.tail _ (.tail _ (.tail _ (.tail _ (.tail _ (.head _))))))
  obtain ⟨p10, p11⟩ := HX.out.get (.tail _ (.tail _ (.tail _ (.tail _ (.head _)))))
  go_wp2_with fail
  refine Calls.mono HC.out ?_
  generalize (w14.alloc (.cells #[.bool N4, .slice A4 Z4.length K4] 24)) = V14 at *
  rintro e w15 ⟨N5, U5, Z5, C5, rfl, o5, t5, hb⟩
  clear p00 p01 p10 p11
  clear HC
  have hsw15 := hb.size
  obtain ⟨A5, K5, hs⟩ := own_slice' o5
  subst hs
  have HI5 := hid (Within.own o5 (Nat.le_refl _))
  have HT5 := hid t5
  clear t5
  replace HX := hid (HX.out.later hb)
  replace HO := hid (HO.out.later hb)
  replace HS := hid (And.intro (HS.out.1.later hb) (HS.out.2.later hb))
  replace HLA := hid (owns_later HLA.out hb)
  replace HLB := hid (owns_later HLB.out hb)
  replace HB := hid (bt HB.out hb)
  clear hb
  replace HO := hid (HO.out.put o5)
  clear o5
  replace HX := hid (HX.out.put N5 (.slice A5 Z5.length K5))
  replace HO := hid (HO.out.later (alloc_later w15 (.cells #[.bool N5, .slice A5 Z5.length K5] 24)))
  replace HS := hid (And.intro (HS.out.1.later (alloc_later w15 (.cells #[.bool N5, .slice A5 Z5.length K5] 24))) (HS.out.2.later (alloc_later w15 (.cells #[.bool N5, .slice A5 Z5.length K5] 24))))
  replace HLA := hid (owns_later HLA.out (alloc_later w15 (.cells #[.bool N5, .slice A5 Z5.length K5] 24)))
  replace HLB := hid (owns_later HLB.out (alloc_later w15 (.cells #[.bool N5, .slice A5 Z5.length K5] 24)))
  replace HB := hid (bt HB.out (alloc_later w15 (.cells #[.bool N5, .slice A5 Z5.length K5] 24)))
  have hzV15n5 := (alloc_later w15 (.cells #[.bool N5, .slice A5 Z5.length K5] 24)).size
  have HC := hid (wdivMod_full n _ xs m _ ys _ (Sl.own (lent_front HLA.out) wx) (Sl.own (lent_front HLB.out) wy) (by omega) (by omega))
  obtain ⟨p00, p01⟩ := HX.out.get (.tail _ (.tail _ (.tail _ (.tail _ (.tail _ (.tail _ (.head _)))))))
  obtain ⟨p10, p11⟩ := HX.out.get (.tail _ (.tail _ (.tail _ (.tail _ (.tail _ (.head _))))))
  go_wp2_with fail
  refine Calls.mono HC.out ?_
  generalize (w15.alloc (.cells #[.bool N5, .slice A5 Z5.length K5] 24)) = V15 at *
  rintro e w16 ⟨N6, U6, Z6, UR, ZR, C6, rfl, o6, oR, t6, hb, hcut6⟩
  clear p00 p01 p10 p11
  clear HC
  have hsw16 := hb.size
  obtain ⟨A6, K6, hs⟩ := own_slice' o6
  subst hs
  obtain ⟨AR, KR, hs⟩ := own_slice' oR
  subst hs
  obtain ⟨cc, hc0, hc1, li6, liR⟩ := hcut6
  have HI6 := hid li6
  have HIR := hid liR
  have HT6 := hid t6
  clear t6 li6 liR
  replace HX := hid (HX.out.later hb)
  replace HO := hid (HO.out.later hb)
  replace HS := hid (And.intro (HS.out.1.later hb) (HS.out.2.later hb))
  replace HLA := hid (owns_later HLA.out hb)
  replace HLB := hid (owns_later HLB.out hb)
  replace HB := hid (bt HB.out hb)
  clear hb
  replace HO := hid (HO.out.put o6)
  clear o6
  replace HO := hid (HO.out.put oR)
  clear oR
  replace HX := hid (HX.out.put N6 (.slice A6 Z6.length K6))
  replace HO := hid (HO.out.later (alloc_later w16 (.cells #[.bool N6, .slice A6 Z6.length K6] 24)))
  replace HS := hid (And.intro (HS.out.1.later (alloc_later w16 (.cells #[.bool N6, .slice A6 Z6.length K6] 24))) (HS.out.2.later (alloc_later w16 (.cells #[.bool N6, .slice A6 Z6.length K6] 24))))
  replace HLA := hid (owns_later HLA.out (alloc_later w16 (.cells #[.bool N6, .slice A6 Z6.length K6] 24)))
  replace HLB := hid (owns_later HLB.out (alloc_later w16 (.cells #[.bool N6, .slice A6 Z6.length K6] 24)))
  replace HB := hid (bt HB.out (alloc_later w16 (.cells #[.bool N6, .slice A6 Z6.length K6] 24)))
  have hzV16q := (alloc_later w16 (.cells #[.bool N6, .slice A6 Z6.length K6] 24)).size
  replace HX := hid (HX.out.put false (.slice AR ZR.length KR))
  rw [show (w16.alloc (.cells #[.bool N6, .slice A6 Z6.length K6] 24)).heap.size = w16.heap.size + 1 by simp] at HX
  replace HO := hid (HO.out.later (alloc_later (w16.alloc (.cells #[.bool N6, .slice A6 Z6.length K6] 24)) (.cells #[.bool false, .slice AR ZR.length KR] 24)))
  replace HS := hid (And.intro (HS.out.1.later (alloc_later (w16.alloc (.cells #[.bool N6, .slice A6 Z6.length K6] 24)) (.cells #[.bool false, .slice AR ZR.length KR] 24))) (HS.out.2.later (alloc_later (w16.alloc (.cells #[.bool N6, .slice A6 Z6.length K6] 24)) (.cells #[.bool false, .slice AR ZR.length KR] 24))))
  replace HLA := hid (owns_later HLA.out (alloc_later (w16.alloc (.cells #[.bool N6, .slice A6 Z6.length K6] 24)) (.cells #[.bool false, .slice AR ZR.length KR] 24)))
  replace HLB := hid (owns_later HLB.out (alloc_later (w16.alloc (.cells #[.bool N6, .slice A6 Z6.length K6] 24)) (.cells #[.bool false, .slice AR ZR.length KR] 24)))
  replace HB := hid (bt HB.out (alloc_later (w16.alloc (.cells #[.bool N6, .slice A6 Z6.length K6] 24)) (.cells #[.bool false, .slice AR ZR.length KR] 24)))
  have hzV16r := (alloc_later (w16.alloc (.cells #[.bool N6, .slice A6 Z6.length K6] 24)) (.cells #[.bool false, .slice AR ZR.length KR] 24)).size
  have HC := hid (wgcd_full n _ xs m _ ys _ (Sl.own (lent_front HLA.out) wx) (Sl.own (lent_front HLB.out) wy) (by omega) (by omega))
  obtain ⟨p00, p01⟩ := HX.out.get (.tail _ (.tail _ (.tail _ (.tail _ (.tail _ (.tail _ (.tail _ (.tail _ (.head _)))))))))
  obtain ⟨p10, p11⟩ := HX.out.get (.tail _ (.tail _ (.tail _ (.tail _ (.tail _ (.tail _ (.tail _ (.head _))))))))
  go_wp2_with fail
  refine Calls.mono HC.out ?_
  generalize ((w16.alloc (.cells #[.bool N6, .slice A6 Z6.length K6] 24)).alloc (.cells #[.bool false, .slice AR ZR.length KR] 24)) = V16 at *
  rintro e w17 ⟨N7, U7, Z7, C7, rfl, o7, t7, hb⟩
  clear p00 p01 p10 p11
  clear HC
  have hsw17 := hb.size
  obtain ⟨A7, K7, hs⟩ := own_slice' o7
  subst hs
  have HI7 := hid (Within.own o7 (Nat.le_refl _))
  have HT7 := hid t7
  clear t7
  replace HX := hid (HX.out.later hb)
  replace HO := hid (HO.out.later hb)
  replace HS := hid (And.intro (HS.out.1.later hb) (HS.out.2.later hb))
  replace HLA := hid (owns_later HLA.out hb)
  replace HLB := hid (owns_later HLB.out hb)
  replace HB := hid (bt HB.out hb)
  clear hb
  replace HO := hid (HO.out.put o7)
  clear o7
  replace HX := hid (HX.out.put N7 (.slice A7 Z7.length K7))
  replace HO := hid (HO.out.later (alloc_later w17 (.cells #[.bool N7, .slice A7 Z7.length K7] 24)))
  replace HS := hid (And.intro (HS.out.1.later (alloc_later w17 (.cells #[.bool N7, .slice A7 Z7.length K7] 24))) (HS.out.2.later (alloc_later w17 (.cells #[.bool N7, .slice A7 Z7.length K7] 24))))
  replace HLA := hid (owns_later HLA.out (alloc_later w17 (.cells #[.bool N7, .slice A7 Z7.length K7] 24)))
  replace HLB := hid (owns_later HLB.out (alloc_later w17 (.cells #[.bool N7, .slice A7 Z7.length K7] 24)))
  replace HB := hid (bt HB.out (alloc_later w17 (.cells #[.bool N7, .slice A7 Z7.length K7] 24)))
  have hzV17n7 := (alloc_later w17 (.cells #[.bool N7, .slice A7 Z7.length K7] 24)).size
  have HC := hid (wsign_any n _ _ xs _ (Sl.own (lent_front HLA.out) wx) (by omega))
  obtain ⟨p00, p01⟩ := HX.out.get (.tail _ (.tail _ (.tail _ (.tail _ (.tail _ (.tail _ (.tail _ (.tail _ (.tail _ (.head _))))))))))
  go_wp2_with fail
  refine Calls.mono HC.out ?_
  generalize (w17.alloc (.cells #[.bool N7, .slice A7 Z7.length K7] 24)) = V17 at *
  rintro e w18 ⟨rfl, hb⟩
  clear p00 p01
  clear HC
  have hsw18 := hb.size
  replace HX := hid (HX.out.later hb)
  replace HO := hid (HO.out.later hb)
  replace HS := hid (And.intro (HS.out.1.later hb) (HS.out.2.later hb))
  replace HLA := hid (owns_later HLA.out hb)
  replace HLB := hid (owns_later HLB.out hb)
  replace HB := hid (bt HB.out hb)
  clear hb
  have HC := hid (wcompare_full n _ _ xs m _ _ ys _ (Sl.own (lent_front HLA.out) wx) (Sl.own (lent_front HLB.out) wy) (by omega) (by omega))
  obtain ⟨p00, p01⟩ := HX.out.get (.tail _ (.tail _ (.tail _ (.tail _ (.tail _ (.tail _ (.tail _ (.tail _ (.tail _ (.head _))))))))))
  obtain ⟨p10, p11⟩ := HX.out.get (.tail _ (.tail _ (.tail _ (.tail _ (.tail _ (.tail _ (.tail _ (.tail _ (.head _)))))))))
  go_wp2_with fail
  refine Calls.mono HC.out ?_
  rintro e w19 ⟨rfl, hb⟩
  clear p00 p01 p10 p11
  clear HC
  have hsw19 := hb.size
  replace HX := hid (HX.out.later hb)
  replace HO := hid (HO.out.later hb)
  replace HS := hid (And.intro (HS.out.1.later hb) (HS.out.2.later hb))
  replace HLA := hid (owns_later HLA.out hb)
  replace HLB := hid (owns_later HLB.out hb)
  replace HB := hid (bt HB.out hb)
  clear hb
  have HC := hid (wint64_any n _ xs _ (Sl.own (lent_front HLA.out) wx) (by omega))
  obtain ⟨p00, p01⟩ := HX.out.get (.tail _ (.tail _ (.tail _ (.tail _ (.tail _ (.tail _ (.tail _ (.tail _ (.tail _ (.head _))))))))))
  go_wp2_with fail
  refine Calls.mono HC.out ?_
  rintro e w20 ⟨rfl, hb⟩
  clear p00 p01
  clear HC
  have hsw20 := hb.size
  replace HX := hid (HX.out.later hb)
  replace HO := hid (HO.out.later hb)
  replace HS := hid (And.intro (HS.out.1.later hb) (HS.out.2.later hb))
  replace HLA := hid (owns_later HLA.out hb)
  replace HLB := hid (owns_later HLB.out hb)
  replace HB := hid (bt HB.out hb)
  clear hb
  have HC := hid (wcheck_any n _ xs _ (Sl.own (lent_front HLA.out) wx) (by omega))
  obtain ⟨p00, p01⟩ := HX.out.get (.tail _ (.tail _ (.tail _ (.tail _ (.tail _ (.tail _ (.tail _ (.tail _ (.tail _ (.head _))))))))))
  go_wp2_with fail
  refine Calls.mono HC.out ?_
  rintro e w21 ⟨rfl, hb⟩
  clear p00 p01
  clear HC
  have hsw21 := hb.size
  replace HX := hid (HX.out.later hb)
  replace HO := hid (HO.out.later hb)
  replace HS := hid (And.intro (HS.out.1.later hb) (HS.out.2.later hb))
  replace HLA := hid (owns_later HLA.out hb)
  replace HLB := hid (owns_later HLB.out hb)
  replace HB := hid (bt HB.out hb)
  clear hb
  have HC := hid (keptWhole_any n _ xs ga ca _ _ HS.out.1 (by omega) HLA.out)
  obtain ⟨p00, p01⟩ := HX.out.get (.tail _ (.tail _ (.tail _ (.tail _ (.tail _ (.tail _ (.tail _ (.tail _ (.tail _ (.head _))))))))))
  obtain ⟨p10, p11⟩ := HX.out.get (.tail _ (.tail _ (.tail _ (.tail _ (.tail _ (.tail _ (.tail _ (.tail _ (.tail _ (.tail _ (.tail _ (.head _))))))))))))
  go_wp2_with fail
  refine Calls.mono HC.out ?_
  rintro e w22 ⟨rfl, hb⟩
  clear p00 p01 p10 p11
  clear HC
  have hsw22 := hb.size
  replace HX := hid (HX.out.later hb)
  replace HO := hid (HO.out.later hb)
  replace HS := hid (And.intro (HS.out.1.later hb) (HS.out.2.later hb))
  replace HLA := hid (owns_later HLA.out hb)
  replace HLB := hid (owns_later HLB.out hb)
  replace HB := hid (bt HB.out hb)
  clear hb
  have HC := hid (keptWhole_any m _ ys gb cb _ _ HS.out.2 (by omega) HLB.out)
  obtain ⟨p00, p01⟩ := HX.out.get (.tail _ (.tail _ (.tail _ (.tail _ (.tail _ (.tail _ (.tail _ (.tail _ (.head _)))))))))
  obtain ⟨p10, p11⟩ := HX.out.get (.tail _ (.tail _ (.tail _ (.tail _ (.tail _ (.tail _ (.tail _ (.tail _ (.tail _ (.tail _ (.head _)))))))))))
  go_wp2_with fail
  refine Calls.mono HC.out ?_
  rintro e w23 ⟨rfl, hb⟩
  clear p00 p01 p10 p11
  clear HC
  have hsw23 := hb.size
  replace HX := hid (HX.out.later hb)
  replace HO := hid (HO.out.later hb)
  replace HS := hid (And.intro (HS.out.1.later hb) (HS.out.2.later hb))
  replace HLA := hid (owns_later HLA.out hb)
  replace HLB := hid (owns_later HLB.out hb)
  replace HB := hid (bt HB.out hb)
  clear hb
  have HC := hid (refWNeg_full n _ xs _ HS.out.1 (by omega))
  obtain ⟨p00, p01⟩ := HX.out.get (.tail _ (.tail _ (.tail _ (.tail _ (.tail _ (.tail _ (.tail _ (.tail _ (.tail _ (.tail _ (.tail _ (.head _))))))))))))
  go_wp2_with fail
  refine Calls.mono HC.out ?_
  rintro e w24 ⟨M1, U, Y1, D1, rfl, o1, t1, hb⟩
  clear p00 p01
  clear HC
  have hsw24 := hb.size
  obtain ⟨rfl, rfl, rfl⟩ := HT1.out.same t1
  obtain ⟨B1, L1, hs⟩ := own_slice' o1
  subst hs
  clear t1
  replace HX := hid (HX.out.later hb)
  replace HO := hid (HO.out.later hb)
  replace HS := hid (And.intro (HS.out.1.later hb) (HS.out.2.later hb))
  replace HLA := hid (owns_later HLA.out hb)
  replace HLB := hid (owns_later HLB.out hb)
  replace HB := hid (bt HB.out hb)
  clear hb
  replace HO := hid (HO.out.put o1)
  clear o1
  replace HX := hid (HX.out.put N1 (.slice B1 Z1.length L1))
  replace HO := hid (HO.out.later (alloc_later w24 (.cells #[.bool N1, .slice B1 Z1.length L1] 24)))
  replace HS := hid (And.intro (HS.out.1.later (alloc_later w24 (.cells #[.bool N1, .slice B1 Z1.length L1] 24))) (HS.out.2.later (alloc_later w24 (.cells #[.bool N1, .slice B1 Z1.length L1] 24))))
  replace HLA := hid (owns_later HLA.out (alloc_later w24 (.cells #[.bool N1, .slice B1 Z1.length L1] 24)))
  replace HLB := hid (owns_later HLB.out (alloc_later w24 (.cells #[.bool N1, .slice B1 Z1.length L1] 24)))
  replace HB := hid (bt HB.out (alloc_later w24 (.cells #[.bool N1, .slice B1 Z1.length L1] 24)))
  have hzV24m1 := (alloc_later w24 (.cells #[.bool N1, .slice B1 Z1.length L1] 24)).size
  have HC := hid (refWAbs_full n _ xs _ HS.out.1 (by omega))
  obtain ⟨p00, p01⟩ := HX.out.get (.tail _ (.tail _ (.tail _ (.tail _ (.tail _ (.tail _ (.tail _ (.tail _ (.tail _ (.tail _ (.tail _ (.tail _ (.head _)))))))))))))
  go_wp2_with fail
  refine Calls.mono HC.out ?_
  generalize (w24.alloc (.cells #[.bool N1, .slice B1 Z1.length L1] 24)) = V24 at *
  rintro e w25 ⟨M2, U, Y2, D2, rfl, o2, t2, hb⟩
  clear p00 p01
  clear HC
  have hsw25 := hb.size
  obtain ⟨rfl, rfl, rfl⟩ := HT2.out.same t2
  obtain ⟨B2, L2, hs⟩ := own_slice' o2
  subst hs
  clear t2
  replace HX := hid (HX.out.later hb)
  replace HO := hid (HO.out.later hb)
  replace HS := hid (And.intro (HS.out.1.later hb) (HS.out.2.later hb))
  replace HLA := hid (owns_later HLA.out hb)
  replace HLB := hid (owns_later HLB.out hb)
  replace HB := hid (bt HB.out hb)
  clear hb
  replace HO := hid (HO.out.put o2)
  clear o2
  replace HX := hid (HX.out.put N2 (.slice B2 Z2.length L2))
  replace HO := hid (HO.out.later (alloc_later w25 (.cells #[.bool N2, .slice B2 Z2.length L2] 24)))
  replace HS := hid (And.intro (HS.out.1.later (alloc_later w25 (.cells #[.bool N2, .slice B2 Z2.length L2] 24))) (HS.out.2.later (alloc_later w25 (.cells #[.bool N2, .slice B2 Z2.length L2] 24))))
  replace HLA := hid (owns_later HLA.out (alloc_later w25 (.cells #[.bool N2, .slice B2 Z2.length L2] 24)))
  replace HLB := hid (owns_later HLB.out (alloc_later w25 (.cells #[.bool N2, .slice B2 Z2.length L2] 24)))
  replace HB := hid (bt HB.out (alloc_later w25 (.cells #[.bool N2, .slice B2 Z2.length L2] 24)))
  have hzV25m2 := (alloc_later w25 (.cells #[.bool N2, .slice B2 Z2.length L2] 24)).size
  have HC := hid (refWAdd_full n _ _ xs m _ _ ys _ HS.out.1 HS.out.2 (by omega) (by omega))
  obtain ⟨p00, p01⟩ := HX.out.get (.tail _ (.tail _ (.tail _ (.tail _ (.tail _ (.tail _ (.tail _ (.tail _ (.tail _ (.tail _ (.tail _ (.tail _ (.tail _ (.head _))))))))))))))
  obtain ⟨p10, p11⟩ := HX.out.get (.tail _ (.tail _ (.tail _ (.tail _ (.tail _ (.tail _ (.tail _ (.tail _ (.tail _ (.tail _ (.tail _ (.tail _ (.head _)))))))))))))
  go_wp2_with fail
  refine Calls.mono HC.out ?_
  generalize (w25.alloc (.cells #[.bool N2, .slice B2 Z2.length L2] 24)) = V25 at *
  rintro e w26 ⟨M3, U, Y3, D3, rfl, o3, t3, hb⟩
  clear p00 p01 p10 p11
  clear HC
  have hsw26 := hb.size
  obtain ⟨rfl, rfl, rfl⟩ := HT3.out.same t3
  obtain ⟨B3, L3, hs⟩ := own_slice' o3
  subst hs
  clear t3
  replace HX := hid (HX.out.later hb)
  replace HO := hid (HO.out.later hb)
  replace HS := hid (And.intro (HS.out.1.later hb) (HS.out.2.later hb))
  replace HLA := hid (owns_later HLA.out hb)
  replace HLB := hid (owns_later HLB.out hb)
  replace HB := hid (bt HB.out hb)
  clear hb
  replace HO := hid (HO.out.put o3)
  clear o3
  replace HX := hid (HX.out.put N3 (.slice B3 Z3.length L3))
  replace HO := hid (HO.out.later (alloc_later w26 (.cells #[.bool N3, .slice B3 Z3.length L3] 24)))
  replace HS := hid (And.intro (HS.out.1.later (alloc_later w26 (.cells #[.bool N3, .slice B3 Z3.length L3] 24))) (HS.out.2.later (alloc_later w26 (.cells #[.bool N3, .slice B3 Z3.length L3] 24))))
  replace HLA := hid (owns_later HLA.out (alloc_later w26 (.cells #[.bool N3, .slice B3 Z3.length L3] 24)))
  replace HLB := hid (owns_later HLB.out (alloc_later w26 (.cells #[.bool N3, .slice B3 Z3.length L3] 24)))
  replace HB := hid (bt HB.out (alloc_later w26 (.cells #[.bool N3, .slice B3 Z3.length L3] 24)))
  have hzV26m3 := (alloc_later w26 (.cells #[.bool N3, .slice B3 Z3.length L3] 24)).size
  have HC := hid (refWSub_full n _ _ xs m _ _ ys _ HS.out.1 HS.out.2 (by omega) (by omega))
  obtain ⟨p00, p01⟩ := HX.out.get (.tail _ (.tail _ (.tail _ (.tail _ (.tail _ (.tail _ (.tail _ (.tail _ (.tail _ (.tail _ (.tail _ (.tail _ (.tail _ (.tail _ (.head _)))))))))))))))
  obtain ⟨p10, p11⟩ := HX.out.get (.tail _ (.tail _ (.tail _ (.tail _ (.tail _ (.tail _ (.tail _ (.tail _ (.tail _ (.tail _ (.tail _ (.tail _ (.tail _ (.head _))))))))))))))
  go_wp2_with fail
  refine Calls.mono HC.out ?_
  generalize (w26.alloc (.cells #[.bool N3, .slice B3 Z3.length L3] 24)) = V26 at *
  rintro e w27 ⟨M4, U, Y4, D4, rfl, o4, t4, hb⟩
  clear p00 p01 p10 p11
  clear HC
  have hsw27 := hb.size
  obtain ⟨rfl, rfl, rfl⟩ := HT4.out.same t4
  obtain ⟨B4, L4, hs⟩ := own_slice' o4
  subst hs
  clear t4
  replace HX := hid (HX.out.later hb)
  replace HO := hid (HO.out.later hb)
  replace HS := hid (And.intro (HS.out.1.later hb) (HS.out.2.later hb))
  replace HLA := hid (owns_later HLA.out hb)
  replace HLB := hid (owns_later HLB.out hb)
  replace HB := hid (bt HB.out hb)
  clear hb
  replace HO := hid (HO.out.put o4)
  clear o4
  replace HX := hid (HX.out.put N4 (.slice B4 Z4.length L4))
  replace HO := hid (HO.out.later (alloc_later w27 (.cells #[.bool N4, .slice B4 Z4.length L4] 24)))
  replace HS := hid (And.intro (HS.out.1.later (alloc_later w27 (.cells #[.bool N4, .slice B4 Z4.length L4] 24))) (HS.out.2.later (alloc_later w27 (.cells #[.bool N4, .slice B4 Z4.length L4] 24))))
  replace HLA := hid (owns_later HLA.out (alloc_later w27 (.cells #[.bool N4, .slice B4 Z4.length L4] 24)))
  replace HLB := hid (owns_later HLB.out (alloc_later w27 (.cells #[.bool N4, .slice B4 Z4.length L4] 24)))
  replace HB := hid (bt HB.out (alloc_later w27 (.cells #[.bool N4, .slice B4 Z4.length L4] 24)))
  have hzV27m4 := (alloc_later w27 (.cells #[.bool N4, .slice B4 Z4.length L4] 24)).size
  have HC := hid (refWMul_full n _ _ xs m _ _ ys _ HS.out.1 HS.out.2 (by omega) (by omega))
  obtain ⟨p00, p01⟩ := HX.out.get (.tail _ (.tail _ (.tail _ (.tail _ (.tail _ (.tail _ (.tail _ (.tail _ (.tail _ (.tail _ (.tail _ (.tail _ (.tail _ (.tail _ (.tail _ (.head _))))))))))))))))
  obtain ⟨p10, p11⟩ := HX.out.get (.tail _ (.tail _ (.tail _ (.tail _ (.tail _ (.tail _ (.tail _ (.tail _ (.tail _ (.tail _ (.tail _ (.tail _ (.tail _ (.tail _ (.head _)))))))))))))))
  go_wp2_with fail
  refine Calls.mono HC.out ?_
  generalize (w27.alloc (.cells #[.bool N4, .slice B4 Z4.length L4] 24)) = V27 at *
  rintro e w28 ⟨M5, U, Y5, D5, rfl, o5, t5, hb⟩
  clear p00 p01 p10 p11
  clear HC
  have hsw28 := hb.size
  obtain ⟨rfl, rfl, rfl⟩ := HT5.out.same t5
  obtain ⟨B5, L5, hs⟩ := own_slice' o5
  subst hs
  clear t5
  replace HX := hid (HX.out.later hb)
  replace HO := hid (HO.out.later hb)
  replace HS := hid (And.intro (HS.out.1.later hb) (HS.out.2.later hb))
  replace HLA := hid (owns_later HLA.out hb)
  replace HLB := hid (owns_later HLB.out hb)
  replace HB := hid (bt HB.out hb)
  clear hb
  replace HO := hid (HO.out.put o5)
  clear o5
  replace HX := hid (HX.out.put N5 (.slice B5 Z5.length L5))
  replace HO := hid (HO.out.later (alloc_later w28 (.cells #[.bool N5, .slice B5 Z5.length L5] 24)))
  replace HS := hid (And.intro (HS.out.1.later (alloc_later w28 (.cells #[.bool N5, .slice B5 Z5.length L5] 24))) (HS.out.2.later (alloc_later w28 (.cells #[.bool N5, .slice B5 Z5.length L5] 24))))
  replace HLA := hid (owns_later HLA.out (alloc_later w28 (.cells #[.bool N5, .slice B5 Z5.length L5] 24)))
  replace HLB := hid (owns_later HLB.out (alloc_later w28 (.cells #[.bool N5, .slice B5 Z5.length L5] 24)))
  replace HB := hid (bt HB.out (alloc_later w28 (.cells #[.bool N5, .slice B5 Z5.length L5] 24)))
  have hzV28m5 := (alloc_later w28 (.cells #[.bool N5, .slice B5 Z5.length L5] 24)).size
  have HC := hid (refWDivMod_full n _ _ xs m _ _ ys _ HS.out.1 HS.out.2 (by omega) (by omega))
  obtain ⟨p00, p01⟩ := HX.out.get (.tail _ (.tail _ (.tail _ (.tail _ (.tail _ (.tail _ (.tail _ (.tail _ (.tail _ (.tail _ (.tail _ (.tail _ (.tail _ (.tail _ (.tail _ (.tail _ (.head _)))))))))))))))))
  obtain ⟨p10, p11⟩ := HX.out.get (.tail _ (.tail _ (.tail _ (.tail _ (.tail _ (.tail _ (.tail _ (.tail _ (.tail _ (.tail _ (.tail _ (.tail _ (.tail _ (.tail _ (.tail _ (.head _))))))))))))))))
  go_wp2_with fail
  refine Calls.mono HC.out ?_
  generalize (w28.alloc (.cells #[.bool N5, .slice B5 Z5.length L5] 24)) = V28 at *
  rintro e w29 ⟨M6, U, Y6, UU, YR, D6, rfl, o6, oR, t6, hb⟩
  clear p00 p01 p10 p11
  clear HC
  have hsw29 := hb.size
  obtain ⟨rfl, rfl, rfl, rfl⟩ := HT6.out.same t6
  obtain ⟨B6, L6, hs⟩ := own_slice' o6
  subst hs
  obtain ⟨BR, LR, hs⟩ := own_slice' oR
  subst hs
  clear t6
  replace HX := hid (HX.out.later hb)
  replace HO := hid (HO.out.later hb)
  replace HS := hid (And.intro (HS.out.1.later hb) (HS.out.2.later hb))
  replace HLA := hid (owns_later HLA.out hb)
  replace HLB := hid (owns_later HLB.out hb)
  replace HB := hid (bt HB.out hb)
  clear hb
  replace HO := hid (HO.out.put o6)
  clear o6
  replace HO := hid (HO.out.put oR)
  clear oR
  replace HX := hid (HX.out.put N6 (.slice B6 Z6.length L6))
  replace HO := hid (HO.out.later (alloc_later w29 (.cells #[.bool N6, .slice B6 Z6.length L6] 24)))
  replace HS := hid (And.intro (HS.out.1.later (alloc_later w29 (.cells #[.bool N6, .slice B6 Z6.length L6] 24))) (HS.out.2.later (alloc_later w29 (.cells #[.bool N6, .slice B6 Z6.length L6] 24))))
  replace HLA := hid (owns_later HLA.out (alloc_later w29 (.cells #[.bool N6, .slice B6 Z6.length L6] 24)))
  replace HLB := hid (owns_later HLB.out (alloc_later w29 (.cells #[.bool N6, .slice B6 Z6.length L6] 24)))
  replace HB := hid (bt HB.out (alloc_later w29 (.cells #[.bool N6, .slice B6 Z6.length L6] 24)))
  have hzV29p := (alloc_later w29 (.cells #[.bool N6, .slice B6 Z6.length L6] 24)).size
  replace HX := hid (HX.out.put false (.slice BR ZR.length LR))
  rw [show (w29.alloc (.cells #[.bool N6, .slice B6 Z6.length L6] 24)).heap.size = w29.heap.size + 1 by simp] at HX
  replace HO := hid (HO.out.later (alloc_later (w29.alloc (.cells #[.bool N6, .slice B6 Z6.length L6] 24)) (.cells #[.bool false, .slice BR ZR.length LR] 24)))
  replace HS := hid (And.intro (HS.out.1.later (alloc_later (w29.alloc (.cells #[.bool N6, .slice B6 Z6.length L6] 24)) (.cells #[.bool false, .slice BR ZR.length LR] 24))) (HS.out.2.later (alloc_later (w29.alloc (.cells #[.bool N6, .slice B6 Z6.length L6] 24)) (.cells #[.bool false, .slice BR ZR.length LR] 24))))
  replace HLA := hid (owns_later HLA.out (alloc_later (w29.alloc (.cells #[.bool N6, .slice B6 Z6.length L6] 24)) (.cells #[.bool false, .slice BR ZR.length LR] 24)))
  replace HLB := hid (owns_later HLB.out (alloc_later (w29.alloc (.cells #[.bool N6, .slice B6 Z6.length L6] 24)) (.cells #[.bool false, .slice BR ZR.length LR] 24)))
  replace HB := hid (bt HB.out (alloc_later (w29.alloc (.cells #[.bool N6, .slice B6 Z6.length L6] 24)) (.cells #[.bool false, .slice BR ZR.length LR] 24)))
  have hzV29t := (alloc_later (w29.alloc (.cells #[.bool N6, .slice B6 Z6.length L6] 24)) (.cells #[.bool false, .slice BR ZR.length LR] 24)).size
  have HC := hid (refWGcd_full n _ _ xs m _ _ ys _ HS.out.1 HS.out.2 (by omega) (by omega))
  obtain ⟨p00, p01⟩ := HX.out.get (.tail _ (.tail _ (.tail _ (.tail _ (.tail _ (.tail _ (.tail _ (.tail _ (.tail _ (.tail _ (.tail _ (.tail _ (.tail _ (.tail _ (.tail _ (.tail _ (.tail _ (.tail _ (.head _)))))))))))))))))))
  obtain ⟨p10, p11⟩ := HX.out.get (.tail _ (.tail _ (.tail _ (.tail _ (.tail _ (.tail _ (.tail _ (.tail _ (.tail _ (.tail _ (.tail _ (.tail _ (.tail _ (.tail _ (.tail _ (.tail _ (.tail _ (.head _))))))))))))))))))
  go_wp2_with fail
  refine Calls.mono HC.out ?_
  generalize ((w29.alloc (.cells #[.bool N6, .slice B6 Z6.length L6] 24)).alloc (.cells #[.bool false, .slice BR ZR.length LR] 24)) = V29 at *
  rintro e w30 ⟨M7, U, Y7, D7, rfl, o7, t7, hb⟩
  clear p00 p01 p10 p11
  clear HC
  have hsw30 := hb.size
  obtain ⟨rfl, rfl, rfl⟩ := HT7.out.same t7
  obtain ⟨B7, L7, hs⟩ := own_slice' o7
  subst hs
  clear t7
  replace HX := hid (HX.out.later hb)
  replace HO := hid (HO.out.later hb)
  replace HS := hid (And.intro (HS.out.1.later hb) (HS.out.2.later hb))
  replace HLA := hid (owns_later HLA.out hb)
  replace HLB := hid (owns_later HLB.out hb)
  replace HB := hid (bt HB.out hb)
  clear hb
  replace HO := hid (HO.out.put o7)
  clear o7
  replace HX := hid (HX.out.put N7 (.slice B7 Z7.length L7))
  replace HO := hid (HO.out.later (alloc_later w30 (.cells #[.bool N7, .slice B7 Z7.length L7] 24)))
  replace HS := hid (And.intro (HS.out.1.later (alloc_later w30 (.cells #[.bool N7, .slice B7 Z7.length L7] 24))) (HS.out.2.later (alloc_later w30 (.cells #[.bool N7, .slice B7 Z7.length L7] 24))))
  replace HLA := hid (owns_later HLA.out (alloc_later w30 (.cells #[.bool N7, .slice B7 Z7.length L7] 24)))
  replace HLB := hid (owns_later HLB.out (alloc_later w30 (.cells #[.bool N7, .slice B7 Z7.length L7] 24)))
  replace HB := hid (bt HB.out (alloc_later w30 (.cells #[.bool N7, .slice B7 Z7.length L7] 24)))
  have hzV30m7 := (alloc_later w30 (.cells #[.bool N7, .slice B7 Z7.length L7] 24)).size
  have HC := hid (refWSign_any n _ _ xs _ HS.out.1 (by omega))
  obtain ⟨p00, p01⟩ := HX.out.get (.tail _ (.tail _ (.tail _ (.tail _ (.tail _ (.tail _ (.tail _ (.tail _ (.tail _ (.tail _ (.tail _ (.tail _ (.tail _ (.tail _ (.tail _ (.tail _ (.tail _ (.tail _ (.tail _ (.head _))))))))))))))))))))
  go_wp2_with fail
  refine Calls.mono HC.out ?_
  generalize (w30.alloc (.cells #[.bool N7, .slice B7 Z7.length L7] 24)) = V30 at *
  rintro e w31 ⟨rfl, hb⟩
  clear p00 p01
  clear HC
  have hsw31 := hb.size
  replace HX := hid (HX.out.later hb)
  replace HO := hid (HO.out.later hb)
  replace HS := hid (And.intro (HS.out.1.later hb) (HS.out.2.later hb))
  replace HLA := hid (owns_later HLA.out hb)
  replace HLB := hid (owns_later HLB.out hb)
  replace HB := hid (bt HB.out hb)
  clear hb
  have HC := hid (refWCompare_full n _ _ xs m _ _ ys _ HS.out.1 HS.out.2 (by omega) (by omega) HSH.out.1 HSH.out.2)
  obtain ⟨p00, p01⟩ := HX.out.get (.tail _ (.tail _ (.tail _ (.tail _ (.tail _ (.tail _ (.tail _ (.tail _ (.tail _ (.tail _ (.tail _ (.tail _ (.tail _ (.tail _ (.tail _ (.tail _ (.tail _ (.tail _ (.tail _ (.head _))))))))))))))))))))
  obtain ⟨p10, p11⟩ := HX.out.get (.tail _ (.tail _ (.tail _ (.tail _ (.tail _ (.tail _ (.tail _ (.tail _ (.tail _ (.tail _ (.tail _ (.tail _ (.tail _ (.tail _ (.tail _ (.tail _ (.tail _ (.tail _ (.head _)))))))))))))))))))
  go_wp2_with fail
  refine Calls.mono HC.out ?_
  rintro e w32 ⟨rfl, hb⟩
  clear p00 p01 p10 p11
  clear HC
  have hsw32 := hb.size
  replace HX := hid (HX.out.later hb)
  replace HO := hid (HO.out.later hb)
  replace HS := hid (And.intro (HS.out.1.later hb) (HS.out.2.later hb))
  replace HLA := hid (owns_later HLA.out hb)
  replace HLB := hid (owns_later HLB.out hb)
  replace HB := hid (bt HB.out hb)
  clear hb
  have HC := hid (refWInt64_any n _ _ xs _ HS.out.1 (by omega))
  obtain ⟨p00, p01⟩ := HX.out.get (.tail _ (.tail _ (.tail _ (.tail _ (.tail _ (.tail _ (.tail _ (.tail _ (.tail _ (.tail _ (.tail _ (.tail _ (.tail _ (.tail _ (.tail _ (.tail _ (.tail _ (.tail _ (.tail _ (.head _))))))))))))))))))))
  go_wp2_with fail
  refine Calls.mono HC.out ?_
  rintro e w33 ⟨rfl, hb⟩
  clear p00 p01
  clear HC
  have hsw33 := hb.size
  replace HX := hid (HX.out.later hb)
  replace HO := hid (HO.out.later hb)
  replace HS := hid (And.intro (HS.out.1.later hb) (HS.out.2.later hb))
  replace HLA := hid (owns_later HLA.out hb)
  replace HLB := hid (owns_later HLB.out hb)
  replace HB := hid (bt HB.out hb)
  clear hb
  have wz1 := HT1.out.wd
  have lz1 := HT1.out.len
  have wz2 := HT2.out.wd
  have lz2 := HT2.out.len
  have wz3 := HT3.out.wd
  have lz3 := HT3.out.len
  have wz4 := HT4.out.wd
  have lz4 := HT4.out.len
  have wz5 := HT5.out.wd
  have lz5 := HT5.out.len
  have wz7 := HT7.out.wd
  have lz7 := HT7.out.len
  have wz6 := HT6.out.wq
  have lz6 := HT6.out.lq
  have wzR := HT6.out.wr
  have lzR := HT6.out.lr
  have HC := hid (lawOne2_any N1 _ _ Z1 C1 _ (HO.out.sl wz1 (.tail _ (.tail _ (.tail _ (.tail _ (.tail _ (.tail _ (.tail _ (.tail _ (.tail _ (.tail _ (.tail _ (.tail _ (.tail _ (.tail _ (.tail _ (.head _))))))))))))))))) (HO.out.sl wz1 (.tail _ (.tail _ (.tail _ (.tail _ (.tail _ (.tail _ (.tail _ (.head _))))))))) (by omega))
  obtain ⟨p00, p01⟩ := HX.out.get (.tail _ (.tail _ (.tail _ (.tail _ (.tail _ (.tail _ (.tail _ (.tail _ (.tail _ (.tail _ (.tail _ (.tail _ (.tail _ (.tail _ (.tail _ (.head _))))))))))))))))
  obtain ⟨p10, p11⟩ := HX.out.get (.tail _ (.tail _ (.tail _ (.tail _ (.tail _ (.tail _ (.tail _ (.head _))))))))
  go_wp2_with fail
  refine Calls.mono HC.out ?_
  rintro e w34 ⟨rfl, hb⟩
  clear p00 p01 p10 p11
  clear HC
  have hsw34 := hb.size
  replace HX := hid (HX.out.later hb)
  replace HO := hid (HO.out.later hb)
  replace HS := hid (And.intro (HS.out.1.later hb) (HS.out.2.later hb))
  replace HLA := hid (owns_later HLA.out hb)
  replace HLB := hid (owns_later HLB.out hb)
  replace HB := hid (bt HB.out hb)
  clear hb
  have HC := hid (lawOne2_any N2 _ _ Z2 C2 _ (HO.out.sl wz2 (.tail _ (.tail _ (.tail _ (.tail _ (.tail _ (.tail _ (.tail _ (.tail _ (.tail _ (.tail _ (.tail _ (.tail _ (.tail _ (.tail _ (.head _)))))))))))))))) (HO.out.sl wz2 (.tail _ (.tail _ (.tail _ (.tail _ (.tail _ (.tail _ (.head _)))))))) (by omega))
  obtain ⟨p00, p01⟩ := HX.out.get (.tail _ (.tail _ (.tail _ (.tail _ (.tail _ (.tail _ (.tail _ (.tail _ (.tail _ (.tail _ (.tail _ (.tail _ (.tail _ (.tail _ (.head _)))))))))))))))
  obtain ⟨p10, p11⟩ := HX.out.get (.tail _ (.tail _ (.tail _ (.tail _ (.tail _ (.tail _ (.head _)))))))
  go_wp2_with fail
  refine Calls.mono HC.out ?_
  rintro e w35 ⟨rfl, hb⟩
  clear p00 p01 p10 p11
  clear HC
  have hsw35 := hb.size
  replace HX := hid (HX.out.later hb)
  replace HO := hid (HO.out.later hb)
  replace HS := hid (And.intro (HS.out.1.later hb) (HS.out.2.later hb))
  replace HLA := hid (owns_later HLA.out hb)
  replace HLB := hid (owns_later HLB.out hb)
  replace HB := hid (bt HB.out hb)
  clear hb
  have HC := hid (lawOne2_any N3 _ _ Z3 C3 _ (HO.out.sl wz3 (.tail _ (.tail _ (.tail _ (.tail _ (.tail _ (.tail _ (.tail _ (.tail _ (.tail _ (.tail _ (.tail _ (.tail _ (.tail _ (.head _))))))))))))))) (HO.out.sl wz3 (.tail _ (.tail _ (.tail _ (.tail _ (.tail _ (.head _))))))) (by omega))
  obtain ⟨p00, p01⟩ := HX.out.get (.tail _ (.tail _ (.tail _ (.tail _ (.tail _ (.tail _ (.tail _ (.tail _ (.tail _ (.tail _ (.tail _ (.tail _ (.tail _ (.head _))))))))))))))
  obtain ⟨p10, p11⟩ := HX.out.get (.tail _ (.tail _ (.tail _ (.tail _ (.tail _ (.head _))))))
  go_wp2_with fail
  refine Calls.mono HC.out ?_
  rintro e w36 ⟨rfl, hb⟩
  clear p00 p01 p10 p11
  clear HC
  have hsw36 := hb.size
  replace HX := hid (HX.out.later hb)
  replace HO := hid (HO.out.later hb)
  replace HS := hid (And.intro (HS.out.1.later hb) (HS.out.2.later hb))
  replace HLA := hid (owns_later HLA.out hb)
  replace HLB := hid (owns_later HLB.out hb)
  replace HB := hid (bt HB.out hb)
  clear hb
  have HC := hid (lawOne2_any N4 _ _ Z4 C4 _ (HO.out.sl wz4 (.tail _ (.tail _ (.tail _ (.tail _ (.tail _ (.tail _ (.tail _ (.tail _ (.tail _ (.tail _ (.tail _ (.tail _ (.head _)))))))))))))) (HO.out.sl wz4 (.tail _ (.tail _ (.tail _ (.tail _ (.head _)))))) (by omega))
  obtain ⟨p00, p01⟩ := HX.out.get (.tail _ (.tail _ (.tail _ (.tail _ (.tail _ (.tail _ (.tail _ (.tail _ (.tail _ (.tail _ (.tail _ (.tail _ (.head _)))))))))))))
  obtain ⟨p10, p11⟩ := HX.out.get (.tail _ (.tail _ (.tail _ (.tail _ (.head _)))))
  go_wp2_with fail
  refine Calls.mono HC.out ?_
  rintro e w37 ⟨rfl, hb⟩
  clear p00 p01 p10 p11
  clear HC
  have hsw37 := hb.size
  replace HX := hid (HX.out.later hb)
  replace HO := hid (HO.out.later hb)
  replace HS := hid (And.intro (HS.out.1.later hb) (HS.out.2.later hb))
  replace HLA := hid (owns_later HLA.out hb)
  replace HLB := hid (owns_later HLB.out hb)
  replace HB := hid (bt HB.out hb)
  clear hb
  have HC := hid (lawOne2_any N5 _ _ Z5 C5 _ (HO.out.sl wz5 (.tail _ (.tail _ (.tail _ (.tail _ (.tail _ (.tail _ (.tail _ (.tail _ (.tail _ (.tail _ (.tail _ (.head _))))))))))))) (HO.out.sl wz5 (.tail _ (.tail _ (.tail _ (.head _))))) (by omega))
  obtain ⟨p00, p01⟩ := HX.out.get (.tail _ (.tail _ (.tail _ (.tail _ (.tail _ (.tail _ (.tail _ (.tail _ (.tail _ (.tail _ (.tail _ (.head _))))))))))))
  obtain ⟨p10, p11⟩ := HX.out.get (.tail _ (.tail _ (.tail _ (.head _))))
  go_wp2_with fail
  refine Calls.mono HC.out ?_
  rintro e w38 ⟨rfl, hb⟩
  clear p00 p01 p10 p11
  clear HC
  have hsw38 := hb.size
  replace HX := hid (HX.out.later hb)
  replace HO := hid (HO.out.later hb)
  replace HS := hid (And.intro (HS.out.1.later hb) (HS.out.2.later hb))
  replace HLA := hid (owns_later HLA.out hb)
  replace HLB := hid (owns_later HLB.out hb)
  replace HB := hid (bt HB.out hb)
  clear hb
  have HC := hid (lawOne2_any N6 _ _ Z6 C6 _ (HO.out.sl wz6 (.tail _ (.tail _ (.tail _ (.tail _ (.tail _ (.tail _ (.tail _ (.tail _ (.tail _ (.tail _ (.head _)))))))))))) (HO.out.sl wz6 (.tail _ (.tail _ (.head _)))) (by omega))
  obtain ⟨p00, p01⟩ := HX.out.get (.tail _ (.tail _ (.tail _ (.tail _ (.tail _ (.tail _ (.tail _ (.tail _ (.tail _ (.tail _ (.head _)))))))))))
  obtain ⟨p10, p11⟩ := HX.out.get (.tail _ (.tail _ (.head _)))
  go_wp2_with fail
  refine Calls.mono HC.out ?_
  rintro e w39 ⟨rfl, hb⟩
  clear p00 p01 p10 p11
  clear HC
  have hsw39 := hb.size
  replace HX := hid (HX.out.later hb)
  replace HO := hid (HO.out.later hb)
  replace HS := hid (And.intro (HS.out.1.later hb) (HS.out.2.later hb))
  replace HLA := hid (owns_later HLA.out hb)
  replace HLB := hid (owns_later HLB.out hb)
  replace HB := hid (bt HB.out hb)
  clear hb
  have HSW := hid (sameWhole_any false _ ZR false _ ZR w39 (HO.out.sl wzR (.tail _ (.tail _ (.tail _ (.tail _ (.tail _ (.tail _ (.tail _ (.tail _ (.tail _ (.head _))))))))))) (HO.out.sl wzR (.tail _ (.head _))) (by omega) (by omega))
  rw [decide_eq_true ⟨rfl, rfl⟩] at HSW
  have HC := hid (HSW.out)
  obtain ⟨p00, p01⟩ := HX.out.get (.tail _ (.tail _ (.tail _ (.tail _ (.tail _ (.tail _ (.tail _ (.tail _ (.tail _ (.head _))))))))))
  obtain ⟨p10, p11⟩ := HX.out.get (.tail _ (.head _))
  go_wp2_with fail
  refine Calls.mono HC.out ?_
  rintro e w40 ⟨rfl, hb⟩
  clear p00 p01 p10 p11
  clear HC
  have hsw40 := hb.size
  replace HX := hid (HX.out.later hb)
  replace HO := hid (HO.out.later hb)
  replace HS := hid (And.intro (HS.out.1.later hb) (HS.out.2.later hb))
  replace HLA := hid (owns_later HLA.out hb)
  replace HLB := hid (owns_later HLB.out hb)
  replace HB := hid (bt HB.out hb)
  clear hb
  clear HSW
  have HC := hid (lawOne2_any N7 _ _ Z7 C7 _ (HO.out.sl wz7 (.tail _ (.tail _ (.tail _ (.tail _ (.tail _ (.tail _ (.tail _ (.tail _ (.head _)))))))))) (HO.out.sl wz7 (.head _)) (by omega))
  obtain ⟨p00, p01⟩ := HX.out.get (.tail _ (.tail _ (.tail _ (.tail _ (.tail _ (.tail _ (.tail _ (.tail _ (.head _)))))))))
  obtain ⟨p10, p11⟩ := HX.out.get (.head _)
  go_wp2_with fail
  refine Calls.mono HC.out ?_
  rintro e w41 ⟨rfl, hb⟩
  clear p00 p01 p10 p11
  clear HC
  have hsw41 := hb.size
  replace HX := hid (HX.out.later hb)
  replace HO := hid (HO.out.later hb)
  replace HS := hid (And.intro (HS.out.1.later hb) (HS.out.2.later hb))
  replace HLA := hid (owns_later HLA.out hb)
  replace HLB := hid (owns_later HLB.out hb)
  replace HB := hid (bt HB.out hb)
  clear hb
  have HC := hid (refWCheck_any n _ xs _ HS.out.1 (by omega))
  obtain ⟨p00, p01⟩ := HX.out.get (.tail _ (.tail _ (.tail _ (.tail _ (.tail _ (.tail _ (.tail _ (.tail _ (.tail _ (.tail _ (.tail _ (.tail _ (.tail _ (.tail _ (.tail _ (.tail _ (.tail _ (.tail _ (.tail _ (.head _))))))))))))))))))))
  go_wp2_with fail
  refine Calls.mono HC.out ?_
  rintro e w42 ⟨rfl, hb⟩
  clear p00 p01
  clear HC
  have hsw42 := hb.size
  replace HX := hid (HX.out.later hb)
  replace HO := hid (HO.out.later hb)
  replace HS := hid (And.intro (HS.out.1.later hb) (HS.out.2.later hb))
  replace HLA := hid (owns_later HLA.out hb)
  replace HLB := hid (owns_later HLB.out hb)
  replace HB := hid (bt HB.out hb)
  clear hb
  have hszB := HB.out.size
  have HIA : Hid (Within (.slice (some ⟨ga, 0, none⟩) xs.length ca) w2.heap.size (ga + 1)) := fun g hg => by have h1 := HG.out; simp [Value.ownBlock] at hg; omega
  have HIB : Hid (Within (.slice (some ⟨gb, 0, none⟩) ys.length cb) (ga + 1) F.heap.size) := fun g hg => by have h1 := HG.out; simp [Value.ownBlock] at hg; omega
  have hg1 := HG.out.1
  have hg2 := HG.out.2.1
  have hg3 := HG.out.2.2
  have HL := hid (ten_apart (b := w.heap.size) w2.heap.size (ga + 1) F.heap.size V11.heap.size V12.heap.size V13.heap.size V14.heap.size V15.heap.size cc V16.heap.size w17.heap.size (by omega) (lent_front HLA.out) wx (by omega) (by omega) (lent_front HLB.out) wy (by omega) (by omega) ((HO.out.get (.tail _ (.tail _ (.tail _ (.tail _ (.tail _ (.tail _ (.tail _ (.tail _ (.tail _ (.tail _ (.tail _ (.tail _ (.tail _ (.tail _ (.tail _ (.head _)))))))))))))))))) wz1 (by omega) (by omega) ((HO.out.get (.tail _ (.tail _ (.tail _ (.tail _ (.tail _ (.tail _ (.tail _ (.tail _ (.tail _ (.tail _ (.tail _ (.tail _ (.tail _ (.tail _ (.head _))))))))))))))))) wz2 (by omega) (by omega) ((HO.out.get (.tail _ (.tail _ (.tail _ (.tail _ (.tail _ (.tail _ (.tail _ (.tail _ (.tail _ (.tail _ (.tail _ (.tail _ (.tail _ (.head _)))))))))))))))) wz3 (by omega) (by omega) ((HO.out.get (.tail _ (.tail _ (.tail _ (.tail _ (.tail _ (.tail _ (.tail _ (.tail _ (.tail _ (.tail _ (.tail _ (.tail _ (.head _))))))))))))))) wz4 (by omega) (by omega) ((HO.out.get (.tail _ (.tail _ (.tail _ (.tail _ (.tail _ (.tail _ (.tail _ (.tail _ (.tail _ (.tail _ (.tail _ (.head _)))))))))))))) wz5 (by omega) (by omega) ((HO.out.get (.tail _ (.tail _ (.tail _ (.tail _ (.tail _ (.tail _ (.tail _ (.tail _ (.tail _ (.tail _ (.head _))))))))))))) wz6 (by omega) (by omega) ((HO.out.get (.tail _ (.tail _ (.tail _ (.tail _ (.tail _ (.tail _ (.tail _ (.tail _ (.tail _ (.head _)))))))))))) wzR (by omega) (by omega) ((HO.out.get (.tail _ (.tail _ (.tail _ (.tail _ (.tail _ (.tail _ (.tail _ (.tail _ (.head _))))))))))) wz7 (by omega) (by omega) HIA.out HIB.out (HI1.out.up (by omega)) (HI2.out.up (by omega)) (HI3.out.up (by omega)) (HI4.out.up (by omega)) (HI5.out.up (by omega)) HI6.out (Within.up HIR.out (by omega)) HI7.out)
  have HAP := hid (apart_any _ _ _ _ _ _ HL.out (by omega) (by simp; omega))
  obtain ⟨p00, p01⟩ := HX.out.get (.tail _ (.tail _ (.tail _ (.tail _ (.tail _ (.tail _ (.tail _ (.tail _ (.tail _ (.tail _ (.tail _ (.tail _ (.tail _ (.tail _ (.tail _ (.tail _ (.tail _ (.head _))))))))))))))))))
  obtain ⟨p10, p11⟩ := HX.out.get (.tail _ (.tail _ (.tail _ (.tail _ (.tail _ (.tail _ (.tail _ (.tail _ (.tail _ (.tail _ (.tail _ (.tail _ (.tail _ (.tail _ (.tail _ (.tail _ (.head _)))))))))))))))))
  obtain ⟨p20, p21⟩ := HX.out.get (.tail _ (.tail _ (.tail _ (.tail _ (.tail _ (.tail _ (.tail _ (.tail _ (.tail _ (.tail _ (.tail _ (.tail _ (.tail _ (.tail _ (.tail _ (.head _))))))))))))))))
  obtain ⟨p30, p31⟩ := HX.out.get (.tail _ (.tail _ (.tail _ (.tail _ (.tail _ (.tail _ (.tail _ (.tail _ (.tail _ (.tail _ (.tail _ (.tail _ (.tail _ (.tail _ (.head _)))))))))))))))
  obtain ⟨p40, p41⟩ := HX.out.get (.tail _ (.tail _ (.tail _ (.tail _ (.tail _ (.tail _ (.tail _ (.tail _ (.tail _ (.tail _ (.tail _ (.tail _ (.tail _ (.head _))))))))))))))
  obtain ⟨p50, p51⟩ := HX.out.get (.tail _ (.tail _ (.tail _ (.tail _ (.tail _ (.tail _ (.tail _ (.tail _ (.tail _ (.tail _ (.tail _ (.tail _ (.head _)))))))))))))
  obtain ⟨p60, p61⟩ := HX.out.get (.tail _ (.tail _ (.tail _ (.tail _ (.tail _ (.tail _ (.tail _ (.tail _ (.tail _ (.tail _ (.tail _ (.head _))))))))))))
  obtain ⟨p70, p71⟩ := HX.out.get (.tail _ (.tail _ (.tail _ (.tail _ (.tail _ (.tail _ (.tail _ (.tail _ (.tail _ (.tail _ (.head _)))))))))))
  obtain ⟨p80, p81⟩ := HX.out.get (.tail _ (.tail _ (.tail _ (.tail _ (.tail _ (.tail _ (.tail _ (.tail _ (.tail _ (.head _))))))))))
  obtain ⟨p90, p91⟩ := HX.out.get (.tail _ (.tail _ (.tail _ (.tail _ (.tail _ (.tail _ (.tail _ (.tail _ (.head _)))))))))
  clear HL HIA HIB HI1 HT1 HI2 HT2 HI3 HT3 HI4 HT4 HI5 HT5 HI6 HT6 HI7 HT7 HIR HO HLA HLB HS hg1 hg2 hg3
  have HBB := hid HB.out
  go_wp2_with fail
  refine Calls.mono HAP.out ?_
  rintro e wE ⟨rfl, hbE⟩
  have HBE := hid (bt_alloc HBB.out hbE)
  clear hbE HAP
  go_wp2_with fail
  go_ret
  exact ⟨rfl, HBE.out⟩
end Go.Proofs.YtgknjdademncdaaGreat

