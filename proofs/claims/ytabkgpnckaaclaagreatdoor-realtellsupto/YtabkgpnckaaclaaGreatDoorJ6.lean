/- My texts on the way to RealTells, one behind the other: contracts of the program and of the document's answers. -/
import Derived.Test.YtabkgpnckaaclaaGreatDoorJ1
import Derived.Test.YtabkgpnckaaclaaGreatDoorJ2
import Derived.Test.YtabkgpnckaaclaaGreatDoorJ3
import Derived.Test.YtabkgpnckaaclaaGreatDoorJ4
import Derived.Test.YtabkgpnckaaclaaGreatDoorJ5
import Derived.Deep.RegionHeld3
import Derived.Laws.CopyOwn
import Derived.Deep.RegionLaw
import Derived.LoopN
import Derived.Lib.LaidTab
/- The document's own fractions: times, Signed. -/
namespace Go.Proofs.YtabkgpnckaaclaaGreatDoor
open Go.RowKit
set_option linter.unusedVariables false

set_option maxHeartbeats 800000 in
set_option maxRecDepth 100000 in
theorem times3_any (v u : Value) (xs ys : List Int) (w : World) (h : Sl w v xs) (g : Sl w u ys) (hl : xs.length + ys.length ≤ 8192) (tx : Trimmed xs) (ty : Trimmed ys) :
    Calls Tryz.prog 92 #[v, u] w (Told1 w (val xs * val ys)) := by
  have HT := hid (prod_wide h.wd g.wd hl)
  have HH := hid (refMul_sl v u xs ys w h g (by omega) (by omega))
  rw [both_good (chk_good (by omega) tx) (chk_good (by omega) ty)] at HH
  obtain ⟨a, cap, rfl, hr⟩ := h
  obtain ⟨b, cap', rfl, gr⟩ := g
  clear hr gr
  go_enter Tryz.func92, Tryz.ntmps92
  go_wp2_with fail
  refine Calls.mono HH.out ?_
  rintro e w1 ⟨v1, zs, code, rfl, o1, t1, hb1⟩
  obtain ⟨rfl, hv1⟩ := t1.good rfl HT.out
  obtain ⟨a1, c1, hs1⟩ := own_slice' o1
  subst hs1
  have HE := hid (And.intro o1 (And.intro t1.wd (And.intro t1.trim (And.intro hv1 hb1))))
  clear o1 t1 hv1 hb1 HH
  go_wp2_with fail
  go_ret
  exact ⟨_, zs, rfl, HE.out.1, HE.out.2.1, HE.out.2.2.1, HE.out.2.2.2.1, HE.out.2.2.2.2⟩

/-- A sign and a size, in new memory. -/
def SgNum (w : World) (t : Int) (x : Ending) (w' : World) : Prop := ∃ k v zs, x = .returned (.tuple #[.bool k, v]) ∧ w'.ownsRow w.heap.size 88 1 v zs.length (zs.map (Value.int .u32)) ∧ Wd zs ∧ Trimmed zs ∧ sg k (val zs) = t ∧ Below w.heap.size w w'

set_option maxHeartbeats 1600000 in
set_option maxRecDepth 100000 in
theorem signed3_any (n : Bool) (v : Value) (xs : List Int) (m : Bool) (u : Value) (ys : List Int) (w : World) (h : Sl w v xs) (g : Sl w u ys) (lx : xs.length ≤ 8191) (ly : ys.length ≤ 8191) (tx : Trimmed xs) (ty : Trimmed ys) :
    Calls Tryz.prog 91 #[.bool n, v, .bool m, u] w (SgNum w (sg n (val xs) + sg m (val ys))) := by
  have wx := h.wd
  have wy := g.wd
  have x0 := val_nonneg wx
  have y0 := val_nonneg wy
  have hb0 := both_good (chk_good (by omega) tx) (chk_good (by omega) ty)
  have hb1 := both_good (chk_good (by omega) ty) (chk_good (by omega) tx)
  by_cases hnm : n = m
  · subst hnm
    have HT : Hid (val xs + val ys < wide) := sum_wide wx wy lx ly
    have HH := hid (refAdd_sl v u xs ys w h g (by omega) (by omega))
    rw [hb0] at HH
    have hnn : (n == n) = true := by simp
    obtain ⟨a, cap, rfl, hr⟩ := h
    obtain ⟨b, cap', rfl, gr⟩ := g
    clear hr gr
    go_enter Tryz.func91, Tryz.ntmps91
    go_wp2_with fail
    refine Calls.mono HH.out ?_
    rintro e w1 ⟨v1, zs, code, rfl, o1, t1, hb1⟩
    obtain ⟨rfl, hv1⟩ := t1.good rfl HT.out
    obtain ⟨a1, c1, hs1⟩ := own_slice' o1
    subst hs1
    have HE := hid (And.intro o1 (And.intro t1.wd (And.intro t1.trim (And.intro hv1 hb1))))
    clear o1 t1 hv1 hb1 HH
    go_wp2_with fail
    go_ret2
    exact ⟨n, _, zs, rfl, HE.out.1, HE.out.2.1, HE.out.2.2.1, by rw [HE.out.2.2.2.1]; cases n <;> simp [sg] <;> omega, HE.out.2.2.2.2⟩
  · have hnn : (n == m) = false := by simp [hnm]
    have HM : Hid (m = !n) := by show _ = _; cases n <;> cases m <;> simp_all
    have HC := hid (refCompare_sl v u xs ys w h g (by omega) (by omega))
    have HW : Hid (val xs < wide ∧ val ys < wide) := ⟨Int.lt_of_lt_of_le (val_lt wx) (pw_le (by omega)), Int.lt_of_lt_of_le (val_lt wy) (pw_le (by omega))⟩
    by_cases hlt : val xs < val ys
    · have HH := hid (refSub_sl u v ys xs w g h (by omega) (by omega))
      rw [hb1, if_pos rfl, if_neg (by omega)] at HH
      rw [cmpI_lt hlt] at HC
      have HLT := hid hlt
      obtain ⟨a, cap, rfl, hr⟩ := h
      obtain ⟨b, cap', rfl, gr⟩ := g
      clear hr gr hnm hlt
      go_enter Tryz.func91, Tryz.ntmps91
      go_wp2_with fail
      refine Calls.mono HC.out ?_
      rintro e w0 ⟨rfl, rfl⟩
      go_wp2_with fail
      refine Calls.mono HH.out ?_
      rintro e w1 ⟨v1, zs, code, rfl, o1, t1, hb1⟩
      obtain ⟨rfl, hv1⟩ := t1.good rfl (by have := HW.out; omega)
      obtain ⟨a1, c1, hs1⟩ := own_slice' o1
      subst hs1
      have HE := hid (And.intro o1 (And.intro t1.wd (And.intro t1.trim (And.intro hv1 hb1))))
      clear o1 t1 hv1 hb1 HH
      go_wp2_with fail
      go_ret2
      exact ⟨m, _, zs, rfl, HE.out.1, HE.out.2.1, HE.out.2.2.1, by rw [HE.out.2.2.2.1, HM.out]; cases n <;> simp [sg] <;> omega, HE.out.2.2.2.2⟩
    · have HH := hid (refSub_sl v u xs ys w h g (by omega) (by omega))
      rw [hb0, if_pos rfl, if_neg (by omega)] at HH
      have hc : ¬ (cmpI (val xs) (val ys)) < 0 := by unfold cmpI; rw [if_neg hlt]; split <;> omega
      obtain ⟨R, hR⟩ : ∃ R, cmpI (val xs) (val ys) = R := ⟨_, rfl⟩
      rw [hR] at HC hc
      obtain ⟨a, cap, rfl, hr⟩ := h
      obtain ⟨b, cap', rfl, gr⟩ := g
      clear hr gr hnm hR
      have HLT := hid hlt
      clear hlt
      cases n with
      | false =>
        go_enter Tryz.func91, Tryz.ntmps91
        go_wp2_with fail
        refine Calls.mono HC.out ?_
        rintro e w0 ⟨rfl, rfl⟩
        go_wp2_with fail
        refine Calls.mono HH.out ?_
        rintro e w1 ⟨v1, zs, code, rfl, o1, t1, hb1⟩
        obtain ⟨rfl, hv1⟩ := t1.good rfl (by have := HW.out; omega)
        obtain ⟨a1, c1, hs1⟩ := own_slice' o1
        subst hs1
        have HE := hid (And.intro o1 (And.intro t1.wd (And.intro t1.trim (And.intro hv1 hb1))))
        clear o1 t1 hv1 hb1 HH
        go_wp2_with fail
        go_ret2
        exact ⟨false, _, zs, rfl, HE.out.1, HE.out.2.1, HE.out.2.2.1, by rw [HE.out.2.2.2.1, HM.out]; simp [sg]; omega, HE.out.2.2.2.2⟩
      | true =>
        go_enter Tryz.func91, Tryz.ntmps91
        go_wp2_with fail
        refine Calls.mono HC.out ?_
        rintro e w0 ⟨rfl, rfl⟩
        go_wp2_with fail
        refine Calls.mono HH.out ?_
        rintro e w1 ⟨v1, zs, code, rfl, o1, t1, hb1⟩
        obtain ⟨rfl, hv1⟩ := t1.good rfl (by have := HW.out; omega)
        obtain ⟨a1, c1, hs1⟩ := own_slice' o1
        subst hs1
        have HE := hid (And.intro o1 (And.intro t1.wd (And.intro t1.trim (And.intro hv1 hb1))))
        have HV : Hid (sg (decide (0 < zs.length)) (val zs) = sg true (val xs) + sg m (val ys)) := by
          show _ = _
          rw [HM.out]
          by_cases hz : 0 < zs.length
          · rw [decide_eq_true hz]; simp [sg]; omega
          · have e0 : val zs = 0 := trimmed_zero' (by omega)
            rw [decide_eq_false hz]; simp [sg]; omega
        clear o1 t1 hv1 hb1 HH
        go_wp2_with fail
        go_ret2
        exact ⟨decide (0 < zs.length), _, zs, rfl, HE.out.1, HE.out.2.1, HE.out.2.2.1, HV.out, HE.out.2.2.2.2⟩
end Go.Proofs.YtabkgpnckaaclaaGreatDoor

/- The document's own fractions: add: of fractions that may be, but for the sign of 0. -/
namespace Go.Proofs.YtabkgpnckaaclaaGreatDoor
open Go.RowKit
set_option linter.unusedVariables false

theorem rq_sum {n m k : Bool} {xs ys us vs : List Int} {T D : Int} (hy : 0 < val ys) (hv : 0 < val vs) (hT : sg k T = sg n (val xs * val vs) + sg m (val us * val ys)) (hD : D = val ys * val vs) : Rat.divInt (sg k T) D = rq n xs ys + rq m us vs := by
  unfold rq
  rw [Rat.divInt_add_divInt _ _ (by omega) (by omega), hD, hT, sg_mul, sg_mul]
  rfl

set_option maxHeartbeats 6400000 in
set_option maxRecDepth 100000 in
theorem add3_any (n : Bool) (a : Option Addr) (ca : Nat) (xs : List Int) (b : Option Addr) (cb : Nat) (ys : List Int) (m : Bool) (c : Option Addr) (cc : Nat) (us : List Int) (d : Option Addr) (cd : Nat) (vs : List Int) (w : World) (sx : Sl w (.slice a xs.length ca) xs) (sy : Sl w (.slice b ys.length cb) ys) (su : Sl w (.slice c us.length cc) us) (sv : Sl w (.slice d vs.length cd) vs) (lx : xs.length ≤ 2048) (ly : ys.length ≤ 2048) (lu : us.length ≤ 2048) (lv : vs.length ≤ 2048) (tx : Trimmed xs) (ty : Trimmed ys) (tu : Trimmed us) (tv : Trimmed vs) (hy : 0 < val ys) (hv : 0 < val vs) :
    Calls Tryz.prog 89 #[.agg #[.bool n, .slice a xs.length ca, .slice b ys.length cb], .agg #[.bool m, .slice c us.length cc, .slice d vs.length cd]] w (RTold w 0 (rq n xs ys + rq m us vs)) := by
  have wx := sx.wd
  have wy := sy.wd
  have wu := su.wd
  have wv := sv.wd
  have HB : Hid (Below w.heap.size w (((w.alloc (.cells #[.bool n, .slice a xs.length ca, .slice b ys.length cb] 25)).alloc (.cells #[.bool m, .slice c us.length cc, .slice d vs.length cd] 25)).alloc (.cells #[.bool false, .slice none 0 0, .slice none 0 0] 25))) := bt (bt (alloc_later _ _) (alloc_later _ _)) (alloc_later _ _)
  have HZ : Hid (Box (((w.alloc (.cells #[.bool n, .slice a xs.length ca, .slice b ys.length cb] 25)).alloc (.cells #[.bool m, .slice c us.length cc, .slice d vs.length cd] 25)).alloc (.cells #[.bool false, .slice none 0 0, .slice none 0 0] 25)) (w.heap.size + 1 + 1) 25 #[.bool false, .slice none 0 0, .slice none 0 0]) := by
    have e := Box.made ((w.alloc (.cells #[.bool n, .slice a xs.length ca, .slice b ys.length cb] 25)).alloc (.cells #[.bool m, .slice c us.length cc, .slice d vs.length cd] 25)) 25 #[.bool false, .slice none 0 0, .slice none 0 0]
    simp at e
    exact e
  have HN : Hid (Box (((w.alloc (.cells #[.bool n, .slice a xs.length ca, .slice b ys.length cb] 25)).alloc (.cells #[.bool m, .slice c us.length cc, .slice d vs.length cd] 25)).alloc (.cells #[.bool false, .slice none 0 0, .slice none 0 0] 25)) w.heap.size 25 #[.bool n, .slice a xs.length ca, .slice b ys.length cb]) := Box.later (Box.made w _ _) (bt (alloc_later _ _) (alloc_later _ _)) (by simp)
  have HM : Hid (Box (((w.alloc (.cells #[.bool n, .slice a xs.length ca, .slice b ys.length cb] 25)).alloc (.cells #[.bool m, .slice c us.length cc, .slice d vs.length cd] 25)).alloc (.cells #[.bool false, .slice none 0 0, .slice none 0 0] 25)) (w.heap.size + 1) 25 #[.bool m, .slice c us.length cc, .slice d vs.length cd]) := by
    have e := Box.later (Box.made (w.alloc (.cells #[.bool n, .slice a xs.length ca, .slice b ys.length cb] 25)) 25 #[.bool m, .slice c us.length cc, .slice d vs.length cd]) (alloc_later ((w.alloc (.cells #[.bool n, .slice a xs.length ca, .slice b ys.length cb] 25)).alloc (.cells #[.bool m, .slice c us.length cc, .slice d vs.length cd] 25)) (.cells #[.bool false, .slice none 0 0, .slice none 0 0] 25)) (by simp)
    simp at e
    exact e
  have HXS : Hid (w.heap.size + 1 + 1 < (((w.alloc (.cells #[.bool n, .slice a xs.length ca, .slice b ys.length cb] 25)).alloc (.cells #[.bool m, .slice c us.length cc, .slice d vs.length cd] 25)).alloc (.cells #[.bool false, .slice none 0 0, .slice none 0 0] 25)).heap.size) := HZ.out.lt
  have HSL := hid (And.intro (sx.later HB.out) (And.intro (sy.later HB.out) (And.intro (su.later HB.out) (sv.later HB.out))))
  have HP := hid (And.intro hy hv)
  have HTT := hid (And.intro tx (And.intro ty (And.intro tu tv)))
  have HNN : Hid (0 ≤ val xs ∧ 0 ≤ val us ∧ 0 ≤ val ys ∧ 0 ≤ val vs) := ⟨val_nonneg wx, val_nonneg wu, val_nonneg wy, val_nonneg wv⟩
  have HPL : Hid (val xs * val vs < 4294967296 ^ 4096 ∧ val us * val ys < 4294967296 ^ 4096 ∧ val ys * val vs < 4294967296 ^ 4096) := ⟨mul_4096 (val_nonneg wx) (below2048 wx lx) (val_nonneg wv) (below2048 wv lv), mul_4096 (val_nonneg wu) (below2048 wu lu) (val_nonneg wy) (below2048 wy ly), mul_4096 (val_nonneg wy) (below2048 wy ly) (val_nonneg wv) (below2048 wv lv)⟩
  clear sx sy su sv tx ty tu tv hy hv wx wy wu wv
  go_enter Tryz.func89, Tryz.ntmps89
  go_wp2_with fail
  generalize (((w.alloc (.cells #[.bool n, .slice a xs.length ca, .slice b ys.length cb] 25)).alloc (.cells #[.bool m, .slice c us.length cc, .slice d vs.length cd] 25)).alloc (.cells #[.bool false, .slice none 0 0, .slice none 0 0] 25)) = X at *
  have HK : Hid (∀ V, Below X.heap.size X V → V.cell? ⟨w.heap.size, 0, none⟩ = some (.bool n) ∧ V.cell? ⟨w.heap.size, 1, none⟩ = some (.slice a xs.length ca) ∧ V.cell? ⟨w.heap.size, 2, none⟩ = some (.slice b ys.length cb) ∧ V.cell? ⟨w.heap.size + 1, 0, none⟩ = some (.bool m) ∧ V.cell? ⟨w.heap.size + 1, 1, none⟩ = some (.slice c us.length cc) ∧ V.cell? ⟨w.heap.size + 1, 2, none⟩ = some (.slice d vs.length cd)) := fun V hb => by
    obtain ⟨p0, p1, p2, _⟩ := res_box3 HN.out hb
    obtain ⟨q0, q1, q2, _⟩ := res_box3 HM.out hb
    exact ⟨p0, p1, p2, q0, q1, q2⟩
  have hs0 := HK.out _ (Below.drew (Below.refl _ X))
  have HBR := hid (Below.drew (Below.refl X.heap.size X))
  have H1 := hid (fun ww (hv : Below X.heap.size X ww) => told1_in _ HK.out ww hv (times3_any _ _ xs vs ww (HSL.out.1.later hv) (HSL.out.2.2.2.later hv) (by omega) HTT.out.1 HTT.out.2.2.2))
  have H2 := hid (fun ww (hv : Below X.heap.size X ww) => told1_in _ HK.out ww hv (times3_any _ _ us ys ww (HSL.out.2.2.1.later hv) (HSL.out.2.1.later hv) (by omega) HTT.out.2.2.1 HTT.out.2.1))
  have H3 : Hid (∀ ww, Below X.heap.size X ww → ∀ a4 z4 c4 a5 z5 c5, One X ww (.slice a4 (List.length z4) c4) z4 (val xs * val vs) → One X ww (.slice a5 (List.length z5) c5) z5 (val us * val ys) → Calls Tryz.prog 91 #[.bool n, .slice a4 z4.length c4, .bool m, .slice a5 z5.length c5] ww fun e w' => ∃ k a6 z6 c6, e = .returned (.tuple #[.bool k, .slice a6 (List.length z6) c6]) ∧ Hid (∃ T, One X w' (.slice a6 (List.length z6) c6) z6 T ∧ sg k T = sg n (val xs * val vs) + sg m (val us * val ys)) ∧ (w'.cell? ⟨w.heap.size, 0, none⟩ = some (.bool n) ∧ w'.cell? ⟨w.heap.size, 1, none⟩ = some (.slice a xs.length ca) ∧ w'.cell? ⟨w.heap.size, 2, none⟩ = some (.slice b ys.length cb) ∧ w'.cell? ⟨w.heap.size + 1, 0, none⟩ = some (.bool m) ∧ w'.cell? ⟨w.heap.size + 1, 1, none⟩ = some (.slice c us.length cc) ∧ w'.cell? ⟨w.heap.size + 1, 2, none⟩ = some (.slice d vs.length cd)) ∧ Below X.heap.size X w') := fun ww hv a4 z4 c4 a5 z5 c5 h4 h5 => by
    have e := signed3_any n _ z4 m _ z5 ww h4.sl h5.sl (by have := own_len h4 HPL.out.1; omega) (by have := own_len h5 HPL.out.2.1; omega) h4.2.2.1 h5.2.2.1
    rw [h4.2.2.2, h5.2.2.2] at e
    refine Calls.mono e ?_
    rintro e w' ⟨k, v, zs, rfl, o, h1, h2, h3, hb⟩
    obtain ⟨a6, c6, hs⟩ := own_slice' o
    subst hs
    exact ⟨k, a6, zs, c6, rfl, ⟨val zs, ⟨owns_base o hv.size, h1, h2, rfl⟩, h3⟩, HK.out w' (bt hv hb), bt hv hb⟩
  go_region_held3 (fun V : World => V.cell? ⟨w.heap.size, 0, none⟩ = some (.bool n) ∧ V.cell? ⟨w.heap.size, 1, none⟩ = some (.slice a xs.length ca) ∧ V.cell? ⟨w.heap.size, 2, none⟩ = some (.slice b ys.length cb) ∧ V.cell? ⟨w.heap.size + 1, 0, none⟩ = some (.bool m) ∧ V.cell? ⟨w.heap.size + 1, 1, none⟩ = some (.slice c us.length cc) ∧ V.cell? ⟨w.heap.size + 1, 2, none⟩ = some (.slice d vs.length cd)) (first | exact hs6 | exact hs5 | exact hs4 | exact hs0)
    (first
      | (go_at_call 91; with_reducible refine Calls.mono (H3.out _ hb5 _ _ _ _ _ _ (HE4.out.1.later HS5.out) HE5.out.1) ?_; rintro e w6 ⟨k6, a6, z6, c6, rfl, HE6, hs6, hb6⟩)
      | (go_at_call 92; with_reducible refine Calls.mono (H2.out _ hb4) ?_; rintro e w5 ⟨a5, z5, c5, rfl, HE5, hs5, hb5, HS5⟩)
      | (go_at_call 92; with_reducible refine Calls.mono (H1.out _ HBR.out) ?_; rintro e w4 ⟨a4, z4, c4, rfl, HE4, hs4, hb4, HS4⟩))
  all_goals
    obtain ⟨T, oT, hT⟩ := HE6.out
    have HT0 : Hid (0 ≤ T) := by rw [← oT.2.2.2]; exact val_nonneg oT.2.1
    have HTL : Hid (T < 4294967296 ^ 4097) := sum_4097 hT HT0.out (Int.mul_nonneg HNN.out.1 HNN.out.2.2.2) HPL.out.1 (Int.mul_nonneg HNN.out.2.1 HNN.out.2.2.1) HPL.out.2.1
    have HO6 := hid oT
    have HHT := hid hT
    have HB6 := hid hb6
    have l6 : z6.length ≤ 4097 := own_len oT HTL.out
    clear H1 H2 H3 HE4 HE5 HE6 HS4 HS5 hs0 hs4 hs5 hs6 hb4 hb5 oT hT HBR
    obtain ⟨r0, r1, r2, r3, r4, r5⟩ := HK.out w6 hb6
    clear hb6
    have H4 := hid (fun ww (hv : Below X.heap.size X ww) => told1_in _ HK.out ww hv (times3_any _ _ ys vs ww (HSL.out.2.1.later hv) (HSL.out.2.2.2.later hv) (by omega) HTT.out.2.1 HTT.out.2.2.2))
    have H5 : Hid (∀ ww, Below X.heap.size X ww → ∀ a7 z7 c7, One X ww (.slice a6 (List.length z6) c6) z6 T → One X ww (.slice a7 (List.length z7) c7) z7 (val ys * val vs) → Calls Tryz.prog 68 #[.bool k6, .slice a6 z6.length c6, .slice a7 z7.length c7] ww fun e w' => ∃ k a8 z8 c8 a9 z9 c9 code, e = .returned (.tuple #[.agg #[.bool k, .slice a8 (List.length z8) c8, .slice a9 (List.length z9) c9], .int .i64 code]) ∧ Hid (w'.ownsRow X.heap.size 88 1 (.slice a8 (List.length z8) c8) z8.length (z8.map (Value.int .u32)) ∧ w'.ownsRow X.heap.size 88 1 (.slice a9 (List.length z9) c9) z9.length (z9.map (Value.int .u32)) ∧ RTells 0 (rq n xs ys + rq m us vs) k z8 z9 code) ∧ (w'.cell? ⟨w.heap.size, 0, none⟩ = some (.bool n) ∧ w'.cell? ⟨w.heap.size, 1, none⟩ = some (.slice a xs.length ca) ∧ w'.cell? ⟨w.heap.size, 2, none⟩ = some (.slice b ys.length cb) ∧ w'.cell? ⟨w.heap.size + 1, 0, none⟩ = some (.bool m) ∧ w'.cell? ⟨w.heap.size + 1, 1, none⟩ = some (.slice c us.length cc) ∧ w'.cell? ⟨w.heap.size + 1, 2, none⟩ = some (.slice d vs.length cd)) ∧ Below X.heap.size X w') := fun ww hv a7 z7 c7 h6 h7 => by
      have hp : 0 < val ys * val vs := Int.mul_pos HP.out.1 HP.out.2
      have e := of3_any k6 a6 c6 z6 a7 c7 z7 ww h6.sl h7.sl (by omega) (by have := own_len h7 HPL.out.2.2; omega) h6.2.2.1 h7.2.2.1 (own_pos h7 hp)
      rw [h6.2.2.2, h7.2.2.2, rq_sum (n := n) (m := m) (xs := xs) (ys := ys) (us := us) (vs := vs) HP.out.1 HP.out.2 HHT.out rfl] at e
      refine Calls.mono e ?_
      rintro e w' ⟨k, v, zs, u, ds, code, rfl, o1, o2, t, hb⟩
      obtain ⟨a8, c8, hs⟩ := own_slice' o1
      subst hs
      obtain ⟨a9, c9, hs⟩ := own_slice' o2
      subst hs
      exact ⟨k, a8, zs, c8, a9, ds, c9, code, rfl, ⟨owns_base o1 hv.size, owns_base o2 hv.size, t⟩, HK.out w' (bt hv hb), bt hv hb⟩
    go_wp2_with fail
    refine Calls.mono (H4.out w6 HB6.out) ?_
    rintro e w7 ⟨a7, z7, c7, rfl, HE7, _, hb7, HS7⟩
    have H5c := hid (H5.out w7 hb7 a7 z7 c7 (HO6.out.later HS7.out) HE7.out.1)
    clear hb7 HE7 HS7 HO6 H4 H5 r0 r1 r2 r3 r4 r5
    go_wp2_with fail
    refine Calls.mono H5c.out ?_
    rintro e w9 ⟨k9, a8, z8, c8, a9, z9, c9, code, rfl, HE9, _, hb9⟩
    obtain ⟨y0, y1, y2, f0, f1, f2⟩ := res_box3 HZ.out hb9
    have HBW := hid (bt HB.out hb9)
    have HR := hid HE9.out
    clear HK HE9 hb9 H5c HB6
    go_wp2_with fail
    refine bodyPost_ret (v := .tuple #[.agg #[.bool k9, .slice a8 z8.length c8, .slice a9 z9.length c9], .int .i64 code]) (by simp [results, Tryz.results89, go_sem, y0, y1, y2]) rfl ?_
    exact RTold.put HR.out (w.heap.size + 1 + 1) HXS.out (by omega) HBW.out _ _ _
end Go.Proofs.YtabkgpnckaaclaaGreatDoor

/- The document's own fractions: both, Add: of any fractions, good or refused. -/
namespace Go.Proofs.YtabkgpnckaaclaaGreatDoor
open Go.RowKit
set_option linter.unusedVariables false

set_option maxHeartbeats 1600000 in
set_option maxRecDepth 100000 in
theorem both3_any (n : Bool) (a : Option Addr) (ca : Nat) (xs : List Int) (b : Option Addr) (cb : Nat) (ys : List Int) (m : Bool) (c : Option Addr) (cc : Nat) (us : List Int) (d : Option Addr) (cd : Nat) (vs : List Int) (w : World) (sx : Sl w (.slice a xs.length ca) xs) (sy : Sl w (.slice b ys.length cb) ys) (su : Sl w (.slice c us.length cc) us) (sv : Sl w (.slice d vs.length cd) vs) (hlx : xs.length ≤ 281474976710656) (hly : ys.length ≤ 281474976710656) (hlu : us.length ≤ 281474976710656) (hlv : vs.length ≤ 281474976710656) :
    Calls Tryz.prog 86 #[.agg #[.bool n, .slice a xs.length ca, .slice b ys.length cb], .agg #[.bool m, .slice c us.length cc, .slice d vs.length cd]] w fun e w' => e = .returned (.int .i64 (rboth n xs ys m us vs)) ∧ Below w.heap.size w w' := by
  have HB : Hid (Below w.heap.size w ((w.alloc (.cells #[.bool n, .slice a xs.length ca, .slice b ys.length cb] 25)).alloc (.cells #[.bool m, .slice c us.length cc, .slice d vs.length cd] 25))) := bt (alloc_later _ _) (alloc_later _ _)
  have HN : Hid (Box ((w.alloc (.cells #[.bool n, .slice a xs.length ca, .slice b ys.length cb] 25)).alloc (.cells #[.bool m, .slice c us.length cc, .slice d vs.length cd] 25)) w.heap.size 25 #[.bool n, .slice a xs.length ca, .slice b ys.length cb]) := Box.later (Box.made w _ _) (alloc_later _ _) (by simp)
  have HM : Hid (Box ((w.alloc (.cells #[.bool n, .slice a xs.length ca, .slice b ys.length cb] 25)).alloc (.cells #[.bool m, .slice c us.length cc, .slice d vs.length cd] 25)) (w.heap.size + 1) 25 #[.bool m, .slice c us.length cc, .slice d vs.length cd]) := by
    have e := Box.made (w.alloc (.cells #[.bool n, .slice a xs.length ca, .slice b ys.length cb] 25)) 25 #[.bool m, .slice c us.length cc, .slice d vs.length cd]
    simp at e
    exact e
  have HC1 := hid (check3_any n a ca xs b cb ys ((w.alloc (.cells #[.bool n, .slice a xs.length ca, .slice b ys.length cb] 25)).alloc (.cells #[.bool m, .slice c us.length cc, .slice d vs.length cd] 25)) (sx.later HB.out) (sy.later HB.out) hlx hly)
  have HC2 := hid (fun ww (hb : Below ((w.alloc (.cells #[.bool n, .slice a xs.length ca, .slice b ys.length cb] 25)).alloc (.cells #[.bool m, .slice c us.length cc, .slice d vs.length cd] 25)).heap.size ((w.alloc (.cells #[.bool n, .slice a xs.length ca, .slice b ys.length cb] 25)).alloc (.cells #[.bool m, .slice c us.length cc, .slice d vs.length cd] 25)) ww) => check3_any m c cc us d cd vs ww ((su.later HB.out).later hb) ((sv.later HB.out).later hb) hlu hlv)
  clear sx sy su sv
  by_cases he : rchk n xs ys = 0
  · rw [show rboth n xs ys m us vs = rchk m us vs by unfold rboth; rw [if_pos he]]
    rw [he] at HC1
    clear he
    go_enter Tryz.func86, Tryz.ntmps86
    go_wp2_with fail
    refine Calls.mono HC1.out ?_
    generalize ((w.alloc (.cells #[.bool n, .slice a xs.length ca, .slice b ys.length cb] 25)).alloc (.cells #[.bool m, .slice c us.length cc, .slice d vs.length cd] 25)) = X at *
    rintro e w1 ⟨rfl, hb1⟩
    obtain ⟨q0, q1, q2, _⟩ := res_box3 HM.out hb1
    have HC := hid (HC2.out w1 hb1)
    have HB1 := hid (bt HB.out hb1)
    clear hb1
    go_wp2_with fail
    refine Calls.mono HC.out ?_
    rintro e w2 ⟨rfl, hb2⟩
    have HBN := hid (bt HB1.out hb2)
    clear hb2
    go_wp2_with fail
    go_ret
    exact ⟨rfl, HBN.out⟩
  · rw [show rboth n xs ys m us vs = rchk n xs ys by unfold rboth; rw [if_neg he]]
    obtain ⟨E, hE⟩ : ∃ E, rchk n xs ys = E := ⟨_, rfl⟩
    rw [hE] at HC1 he ⊢
    have he' : (E == 0) = false := beq_eq_false_iff_ne.2 he
    clear he hE
    go_enter Tryz.func86, Tryz.ntmps86
    go_wp2_with fail
    refine Calls.mono HC1.out ?_
    rintro e w1 ⟨rfl, hb1⟩
    have HBN := hid (bt HB.out hb1)
    clear hb1
    go_wp2_with fail
    go_ret
    exact ⟨rfl, HBN.out⟩

set_option maxHeartbeats 3200000 in
set_option maxRecDepth 100000 in
theorem dAdd_err (n : Bool) (a : Option Addr) (ca : Nat) (xs : List Int) (b : Option Addr) (cb : Nat) (ys : List Int) (m : Bool) (c : Option Addr) (cc : Nat) (us : List Int) (d : Option Addr) (cd : Nat) (vs : List Int) (w : World) (sx : Sl w (.slice a xs.length ca) xs) (sy : Sl w (.slice b ys.length cb) ys) (su : Sl w (.slice c us.length cc) us) (sv : Sl w (.slice d vs.length cd) vs) (hlx : xs.length ≤ 281474976710656) (hly : ys.length ≤ 281474976710656) (hlu : us.length ≤ 281474976710656) (hlv : vs.length ≤ 281474976710656) (he : rboth n xs ys m us vs ≠ 0) (q : Rat) :
    Calls Tryz.prog 48 #[.agg #[.bool n, .slice a xs.length ca, .slice b ys.length cb], .agg #[.bool m, .slice c us.length cc, .slice d vs.length cd]] w (RTold w (rboth n xs ys m us vs) q) := by
  have HB : Hid (Below w.heap.size w (((w.alloc (.cells #[.bool n, .slice a xs.length ca, .slice b ys.length cb] 25)).alloc (.cells #[.bool m, .slice c us.length cc, .slice d vs.length cd] 25)).alloc (.cells #[.bool false, .slice none 0 0, .slice none 0 0] 25))) := bt (bt (alloc_later _ _) (alloc_later _ _)) (alloc_later _ _)
  have HZ : Hid (Box (((w.alloc (.cells #[.bool n, .slice a xs.length ca, .slice b ys.length cb] 25)).alloc (.cells #[.bool m, .slice c us.length cc, .slice d vs.length cd] 25)).alloc (.cells #[.bool false, .slice none 0 0, .slice none 0 0] 25)) (w.heap.size + 1 + 1) 25 #[.bool false, .slice none 0 0, .slice none 0 0]) := by
    have e := Box.made ((w.alloc (.cells #[.bool n, .slice a xs.length ca, .slice b ys.length cb] 25)).alloc (.cells #[.bool m, .slice c us.length cc, .slice d vs.length cd] 25)) 25 #[.bool false, .slice none 0 0, .slice none 0 0]
    simp at e
    exact e
  have HN : Hid (Box (((w.alloc (.cells #[.bool n, .slice a xs.length ca, .slice b ys.length cb] 25)).alloc (.cells #[.bool m, .slice c us.length cc, .slice d vs.length cd] 25)).alloc (.cells #[.bool false, .slice none 0 0, .slice none 0 0] 25)) w.heap.size 25 #[.bool n, .slice a xs.length ca, .slice b ys.length cb]) := Box.later (Box.made w _ _) (bt (alloc_later _ _) (alloc_later _ _)) (by simp)
  have HM : Hid (Box (((w.alloc (.cells #[.bool n, .slice a xs.length ca, .slice b ys.length cb] 25)).alloc (.cells #[.bool m, .slice c us.length cc, .slice d vs.length cd] 25)).alloc (.cells #[.bool false, .slice none 0 0, .slice none 0 0] 25)) (w.heap.size + 1) 25 #[.bool m, .slice c us.length cc, .slice d vs.length cd]) := by
    have e := Box.later (Box.made (w.alloc (.cells #[.bool n, .slice a xs.length ca, .slice b ys.length cb] 25)) 25 #[.bool m, .slice c us.length cc, .slice d vs.length cd]) (alloc_later ((w.alloc (.cells #[.bool n, .slice a xs.length ca, .slice b ys.length cb] 25)).alloc (.cells #[.bool m, .slice c us.length cc, .slice d vs.length cd] 25)) (.cells #[.bool false, .slice none 0 0, .slice none 0 0] 25)) (by simp)
    simp at e
    exact e
  have HXS : Hid (w.heap.size + 1 + 1 < (((w.alloc (.cells #[.bool n, .slice a xs.length ca, .slice b ys.length cb] 25)).alloc (.cells #[.bool m, .slice c us.length cc, .slice d vs.length cd] 25)).alloc (.cells #[.bool false, .slice none 0 0, .slice none 0 0] 25)).heap.size) := HZ.out.lt
  have HSL := hid (And.intro (sx.later HB.out) (And.intro (sy.later HB.out) (And.intro (su.later HB.out) (sv.later HB.out))))
  have HC := hid (both3_any n _ _ xs _ _ ys m _ _ us _ _ vs (((w.alloc (.cells #[.bool n, .slice a xs.length ca, .slice b ys.length cb] 25)).alloc (.cells #[.bool m, .slice c us.length cc, .slice d vs.length cd] 25)).alloc (.cells #[.bool false, .slice none 0 0, .slice none 0 0] 25)) HSL.out.1 HSL.out.2.1 HSL.out.2.2.1 HSL.out.2.2.2 hlx hly hlu hlv)
  obtain ⟨E, hE⟩ : ∃ E, rboth n xs ys m us vs = E := ⟨_, rfl⟩
  rw [hE] at HC he ⊢
  have he' : (E == 0) = false := beq_eq_false_iff_ne.2 he
  have HE := hid he
  clear he hE sx sy su sv
  go_enter Tryz.func48, Tryz.ntmps48
  go_wp2_with fail
  refine Calls.mono HC.out ?_
  generalize (((w.alloc (.cells #[.bool n, .slice a xs.length ca, .slice b ys.length cb] 25)).alloc (.cells #[.bool m, .slice c us.length cc, .slice d vs.length cd] 25)).alloc (.cells #[.bool false, .slice none 0 0, .slice none 0 0] 25)) = X at *
  rintro e w1 ⟨rfl, hb1⟩
  obtain ⟨y0, y1, y2, f0, f1, f2⟩ := res_box3 HZ.out hb1
  have HBN := hid (below_put3 (bt HB.out hb1) (w.heap.size + 1 + 1) (by omega) (.bool false) (.slice none 0 0) (.slice none 0 0))
  clear hb1 HC HN HM HZ HSL
  go_wp2_with fail
  refine bodyPost_ret (v := .tuple #[.agg #[.bool false, .slice none 0 0, .slice none 0 0], .int .i64 E]) (by simp [results, Tryz.results48, go_sem, y0, y1, y2]) rfl ?_
  exact ⟨false, _, [], _, [], _, rfl, World.ownsRow_nil _ _ _ _, World.ownsRow_nil _ _ _ _, RTells.err HE.out, HBN.out⟩

set_option maxHeartbeats 3200000 in
set_option maxRecDepth 100000 in
theorem dAdd_ok (n : Bool) (a : Option Addr) (ca : Nat) (xs : List Int) (b : Option Addr) (cb : Nat) (ys : List Int) (m : Bool) (c : Option Addr) (cc : Nat) (us : List Int) (d : Option Addr) (cd : Nat) (vs : List Int) (w : World) (sx : Sl w (.slice a xs.length ca) xs) (sy : Sl w (.slice b ys.length cb) ys) (su : Sl w (.slice c us.length cc) us) (sv : Sl w (.slice d vs.length cd) vs) (hlx : xs.length ≤ 281474976710656) (hly : ys.length ≤ 281474976710656) (hlu : us.length ≤ 281474976710656) (hlv : vs.length ≤ 281474976710656) (hx : rchk n xs ys = 0) (hy : rchk m us vs = 0) :
    Calls Tryz.prog 48 #[.agg #[.bool n, .slice a xs.length ca, .slice b ys.length cb], .agg #[.bool m, .slice c us.length cc, .slice d vs.length cd]] w (RTold w 0 (rq n xs ys + rq m us vs)) := by
  obtain ⟨lx, ly, tx, ty, y0', _, g1⟩ := rchk_ok hx
  obtain ⟨lu, lv, tu, tv, v0', _, g2⟩ := rchk_ok hy
  have py := val_pos' sy.wd ty y0'
  have pv := val_pos' sv.wd tv v0'
  have HB : Hid (Below w.heap.size w (((w.alloc (.cells #[.bool n, .slice a xs.length ca, .slice b ys.length cb] 25)).alloc (.cells #[.bool m, .slice c us.length cc, .slice d vs.length cd] 25)).alloc (.cells #[.bool false, .slice none 0 0, .slice none 0 0] 25))) := bt (bt (alloc_later _ _) (alloc_later _ _)) (alloc_later _ _)
  have HZ : Hid (Box (((w.alloc (.cells #[.bool n, .slice a xs.length ca, .slice b ys.length cb] 25)).alloc (.cells #[.bool m, .slice c us.length cc, .slice d vs.length cd] 25)).alloc (.cells #[.bool false, .slice none 0 0, .slice none 0 0] 25)) (w.heap.size + 1 + 1) 25 #[.bool false, .slice none 0 0, .slice none 0 0]) := by
    have e := Box.made ((w.alloc (.cells #[.bool n, .slice a xs.length ca, .slice b ys.length cb] 25)).alloc (.cells #[.bool m, .slice c us.length cc, .slice d vs.length cd] 25)) 25 #[.bool false, .slice none 0 0, .slice none 0 0]
    simp at e
    exact e
  have HN : Hid (Box (((w.alloc (.cells #[.bool n, .slice a xs.length ca, .slice b ys.length cb] 25)).alloc (.cells #[.bool m, .slice c us.length cc, .slice d vs.length cd] 25)).alloc (.cells #[.bool false, .slice none 0 0, .slice none 0 0] 25)) w.heap.size 25 #[.bool n, .slice a xs.length ca, .slice b ys.length cb]) := Box.later (Box.made w _ _) (bt (alloc_later _ _) (alloc_later _ _)) (by simp)
  have HM : Hid (Box (((w.alloc (.cells #[.bool n, .slice a xs.length ca, .slice b ys.length cb] 25)).alloc (.cells #[.bool m, .slice c us.length cc, .slice d vs.length cd] 25)).alloc (.cells #[.bool false, .slice none 0 0, .slice none 0 0] 25)) (w.heap.size + 1) 25 #[.bool m, .slice c us.length cc, .slice d vs.length cd]) := by
    have e := Box.later (Box.made (w.alloc (.cells #[.bool n, .slice a xs.length ca, .slice b ys.length cb] 25)) 25 #[.bool m, .slice c us.length cc, .slice d vs.length cd]) (alloc_later ((w.alloc (.cells #[.bool n, .slice a xs.length ca, .slice b ys.length cb] 25)).alloc (.cells #[.bool m, .slice c us.length cc, .slice d vs.length cd] 25)) (.cells #[.bool false, .slice none 0 0, .slice none 0 0] 25)) (by simp)
    simp at e
    exact e
  have HXS : Hid (w.heap.size + 1 + 1 < (((w.alloc (.cells #[.bool n, .slice a xs.length ca, .slice b ys.length cb] 25)).alloc (.cells #[.bool m, .slice c us.length cc, .slice d vs.length cd] 25)).alloc (.cells #[.bool false, .slice none 0 0, .slice none 0 0] 25)).heap.size) := HZ.out.lt
  have HSL := hid (And.intro (sx.later HB.out) (And.intro (sy.later HB.out) (And.intro (su.later HB.out) (sv.later HB.out))))
  have HC := hid (both3_any n _ _ xs _ _ ys m _ _ us _ _ vs (((w.alloc (.cells #[.bool n, .slice a xs.length ca, .slice b ys.length cb] 25)).alloc (.cells #[.bool m, .slice c us.length cc, .slice d vs.length cd] 25)).alloc (.cells #[.bool false, .slice none 0 0, .slice none 0 0] 25)) HSL.out.1 HSL.out.2.1 HSL.out.2.2.1 HSL.out.2.2.2 hlx hly hlu hlv)
  rw [rboth_good hx hy] at HC
  have HA := hid (fun ww (hb : Below (((w.alloc (.cells #[.bool n, .slice a xs.length ca, .slice b ys.length cb] 25)).alloc (.cells #[.bool m, .slice c us.length cc, .slice d vs.length cd] 25)).alloc (.cells #[.bool false, .slice none 0 0, .slice none 0 0] 25)).heap.size (((w.alloc (.cells #[.bool n, .slice a xs.length ca, .slice b ys.length cb] 25)).alloc (.cells #[.bool m, .slice c us.length cc, .slice d vs.length cd] 25)).alloc (.cells #[.bool false, .slice none 0 0, .slice none 0 0] 25)) ww) => add3_any n a ca xs b cb ys m c cc us d cd vs ww (HSL.out.1.later hb) (HSL.out.2.1.later hb) (HSL.out.2.2.1.later hb) (HSL.out.2.2.2.later hb) lx ly lu lv tx ty tu tv (by omega) (by omega))
  clear sx sy su sv hx hy tx ty tu tv g1 g2 py pv
  go_enter Tryz.func48, Tryz.ntmps48
  go_wp2_with fail
  refine Calls.mono HC.out ?_
  generalize (((w.alloc (.cells #[.bool n, .slice a xs.length ca, .slice b ys.length cb] 25)).alloc (.cells #[.bool m, .slice c us.length cc, .slice d vs.length cd] 25)).alloc (.cells #[.bool false, .slice none 0 0, .slice none 0 0] 25)) = X at *
  rintro e w1 ⟨rfl, hb1⟩
  have HCA := hid (HA.out w1 hb1)
  obtain ⟨p0, p1, p2, _⟩ := res_box3 HN.out hb1
  obtain ⟨q0, q1, q2, _⟩ := res_box3 HM.out hb1
  have HB1 := hid hb1
  clear hb1 HC HA
  go_wp2_with fail
  refine Calls.mono HCA.out ?_
  rintro e w2 ⟨k2, v2, z2, u2, r2, code, rfl, o2, o3, t2, hb2⟩
  obtain ⟨a2, c2, hs2⟩ := own_slice' o2
  subst hs2
  obtain ⟨a3, c3, hs3⟩ := own_slice' o3
  subst hs3
  have HR := hid (And.intro o2 (And.intro o3 t2))
  obtain ⟨y0, y1, y2, f0, f1, f2⟩ := res_box3 HZ.out (bt HB1.out hb2)
  have HBW := hid (bt HB.out (bt HB1.out hb2))
  have HLT : Hid (w.heap.size + 1 + 1 < w1.heap.size) := Nat.lt_of_lt_of_le HXS.out HB1.out.size
  clear o2 o3 t2 hb2 HCA p0 p1 p2 q0 q1 q2
  go_wp2_with fail
  refine bodyPost_ret (v := .tuple #[.agg #[.bool k2, .slice a2 z2.length c2, .slice a3 r2.length c3], .int .i64 code]) (by simp [results, Tryz.results48, go_sem, y0, y1, y2]) rfl ?_
  exact RTold.put HR.out (w.heap.size + 1 + 1) HLT.out (by omega) HBW.out _ _ _
theorem dAdd_full (n : Bool) (a : Option Addr) (ca : Nat) (xs : List Int) (b : Option Addr) (cb : Nat) (ys : List Int) (m : Bool) (c : Option Addr) (cc : Nat) (us : List Int) (d : Option Addr) (cd : Nat) (vs : List Int) (w : World) (sx : Sl w (.slice a xs.length ca) xs) (sy : Sl w (.slice b ys.length cb) ys) (su : Sl w (.slice c us.length cc) us) (sv : Sl w (.slice d vs.length cd) vs) (hlx : xs.length ≤ 281474976710656) (hly : ys.length ≤ 281474976710656) (hlu : us.length ≤ 281474976710656) (hlv : vs.length ≤ 281474976710656) :
    Calls Tryz.prog 48 #[.agg #[.bool n, .slice a xs.length ca, .slice b ys.length cb], .agg #[.bool m, .slice c us.length cc, .slice d vs.length cd]] w (RTold w (rboth n xs ys m us vs) (rq n xs ys + rq m us vs)) := by
  by_cases he : rboth n xs ys m us vs = 0
  · rw [he]
    exact dAdd_ok n a ca xs b cb ys m c cc us d cd vs w sx sy su sv hlx hly hlu hlv (rboth_ok he).1 (rboth_ok he).2
  · exact dAdd_err n a ca xs b cb ys m c cc us d cd vs w sx sy su sv hlx hly hlu hlv he _
end Go.Proofs.YtabkgpnckaaclaaGreatDoor

/- The document's own fractions: Order, Compare: of any fractions, good or refused. -/
namespace Go.Proofs.YtabkgpnckaaclaaGreatDoor
open Go.RowKit
set_option linter.unusedVariables false

theorem sg_not (m : Bool) (x : Int) : sg (!m) x = -(sg m x) := by cases m <;> simp [sg]
theorem order_of {k : Bool} {zs : List Int} {X U : Int} (wz : Wd zs) (tz : Trimmed zs) (h : sg k (val zs) = X - U) : cmpI X U = if zs.length = 0 then 0 else if k then -1 else 1 := by
  by_cases c : zs.length = 0
  · rw [if_pos c]
    obtain rfl := List.length_eq_zero_iff.1 c
    have e : sg k (val []) = 0 := by cases k <;> simp [sg, val, valTo]
    rw [e] at h
    exact cmpI_eq (by omega)
  · rw [if_neg c]
    have hp := val_pos' wz tz (by omega)
    cases k
    · rw [if_neg (by decide)]
      exact cmpI_gt (by have e : sg false (val zs) = val zs := rfl; omega)
    · rw [if_pos rfl]
      exact cmpI_lt (by have e : sg true (val zs) = -val zs := rfl; omega)

set_option maxHeartbeats 6400000 in
set_option maxRecDepth 100000 in
theorem order3_any (n : Bool) (a : Option Addr) (ca : Nat) (xs : List Int) (b : Option Addr) (cb : Nat) (ys : List Int) (m : Bool) (c : Option Addr) (cc : Nat) (us : List Int) (d : Option Addr) (cd : Nat) (vs : List Int) (w : World) (sx : Sl w (.slice a xs.length ca) xs) (sy : Sl w (.slice b ys.length cb) ys) (su : Sl w (.slice c us.length cc) us) (sv : Sl w (.slice d vs.length cd) vs) (hx : rchk n xs ys = 0) (hy : rchk m us vs = 0) :
    Calls Tryz.prog 49 #[.agg #[.bool n, .slice a xs.length ca, .slice b ys.length cb], .agg #[.bool m, .slice c us.length cc, .slice d vs.length cd]] w fun e w' => e = .returned (.int .i64 (cmpI (wval n xs * val vs) (wval m us * val ys))) ∧ Below w.heap.size w w' := by
  obtain ⟨lx, ly, tx, ty, yp, _, _⟩ := rchk_ok hx
  obtain ⟨lu, lv, tu, tv, vp, _, _⟩ := rchk_ok hy
  have wx := sx.wd
  have wy := sy.wd
  have wu := su.wd
  have wv := sv.wd
  have HB : Hid (Below w.heap.size w ((w.alloc (.cells #[.bool n, .slice a xs.length ca, .slice b ys.length cb] 25)).alloc (.cells #[.bool m, .slice c us.length cc, .slice d vs.length cd] 25))) := bt (alloc_later _ _) (alloc_later _ _)
  have HN : Hid (Box ((w.alloc (.cells #[.bool n, .slice a xs.length ca, .slice b ys.length cb] 25)).alloc (.cells #[.bool m, .slice c us.length cc, .slice d vs.length cd] 25)) w.heap.size 25 #[.bool n, .slice a xs.length ca, .slice b ys.length cb]) := Box.later (Box.made w _ _) (alloc_later _ _) (by simp)
  have HM : Hid (Box ((w.alloc (.cells #[.bool n, .slice a xs.length ca, .slice b ys.length cb] 25)).alloc (.cells #[.bool m, .slice c us.length cc, .slice d vs.length cd] 25)) (w.heap.size + 1) 25 #[.bool m, .slice c us.length cc, .slice d vs.length cd]) := by
    have e := Box.made (w.alloc (.cells #[.bool n, .slice a xs.length ca, .slice b ys.length cb] 25)) 25 #[.bool m, .slice c us.length cc, .slice d vs.length cd]
    simp at e
    exact e
  have HSL := hid (And.intro (sx.later HB.out) (And.intro (sy.later HB.out) (And.intro (su.later HB.out) (sv.later HB.out))))
  have HTT := hid (And.intro tx (And.intro ty (And.intro tu tv)))
  have HPL : Hid (val xs * val vs < 4294967296 ^ 4096 ∧ val us * val ys < 4294967296 ^ 4096) := ⟨mul_4096 (val_nonneg wx) (below2048 wx lx) (val_nonneg wv) (below2048 wv lv), mul_4096 (val_nonneg wu) (below2048 wu lu) (val_nonneg wy) (below2048 wy ly)⟩
  have HX : Hid (wval n xs * val vs = sg n (val xs * val vs) ∧ wval m us * val ys = sg m (val us * val ys)) := by
    refine ⟨?_, ?_⟩
    · show sg n (val xs) * val vs = _; rw [sg_mul]
    · show sg m (val us) * val ys = _; rw [sg_mul]
  rw [HX.out.1, HX.out.2]
  obtain ⟨mm, hmm⟩ : ∃ k, (!m) = k := ⟨_, rfl⟩
  have HMM : Hid ((!m) = mm) := hmm
  obtain ⟨cc0, hcc0⟩ : ∃ c, cmpI (sg n (val xs * val vs)) (sg m (val us * val ys)) = c := ⟨_, rfl⟩
  rw [hcc0]
  have HCC := hid hcc0
  clear sx sy su sv tx ty tu tv wx wy wu wv hx hy yp vp hcc0
  go_enter Tryz.func49, Tryz.ntmps49
  go_wp2_with fail
  generalize ((w.alloc (.cells #[.bool n, .slice a xs.length ca, .slice b ys.length cb] 25)).alloc (.cells #[.bool m, .slice c us.length cc, .slice d vs.length cd] 25)) = X at *
  have HK : Hid (∀ V, Below X.heap.size X V → V.cell? ⟨w.heap.size, 0, none⟩ = some (.bool n) ∧ V.cell? ⟨w.heap.size, 1, none⟩ = some (.slice a xs.length ca) ∧ V.cell? ⟨w.heap.size, 2, none⟩ = some (.slice b ys.length cb) ∧ V.cell? ⟨w.heap.size + 1, 0, none⟩ = some (.bool m) ∧ V.cell? ⟨w.heap.size + 1, 1, none⟩ = some (.slice c us.length cc) ∧ V.cell? ⟨w.heap.size + 1, 2, none⟩ = some (.slice d vs.length cd)) := fun V hb => by
    obtain ⟨p0, p1, p2, _⟩ := res_box3 HN.out hb
    obtain ⟨q0, q1, q2, _⟩ := res_box3 HM.out hb
    exact ⟨p0, p1, p2, q0, q1, q2⟩
  have hs0 := HK.out _ (Below.drew (Below.refl _ X))
  have HBR := hid (Below.drew (Below.refl X.heap.size X))
  have H1 := hid (fun ww (hv : Below X.heap.size X ww) => told1_in _ HK.out ww hv (times3_any _ _ xs vs ww (HSL.out.1.later hv) (HSL.out.2.2.2.later hv) (by omega) HTT.out.1 HTT.out.2.2.2))
  have H2 := hid (fun ww (hv : Below X.heap.size X ww) => told1_in _ HK.out ww hv (times3_any _ _ us ys ww (HSL.out.2.2.1.later hv) (HSL.out.2.1.later hv) (by omega) HTT.out.2.2.1 HTT.out.2.1))
  have H3 : Hid (∀ ww, Below X.heap.size X ww → ∀ a4 z4 c4 a5 z5 c5, One X ww (.slice a4 (List.length z4) c4) z4 (val xs * val vs) → One X ww (.slice a5 (List.length z5) c5) z5 (val us * val ys) → Calls Tryz.prog 91 #[.bool n, .slice a4 z4.length c4, .bool mm, .slice a5 z5.length c5] ww fun e w' => ∃ k a6 z6 c6, e = .returned (.tuple #[.bool k, .slice a6 (List.length z6) c6]) ∧ Hid (cc0 = (if z6.length = 0 then 0 else if k then -1 else 1) ∧ Below X.heap.size X w') ∧ (w'.cell? ⟨w.heap.size, 0, none⟩ = some (.bool n) ∧ w'.cell? ⟨w.heap.size, 1, none⟩ = some (.slice a xs.length ca) ∧ w'.cell? ⟨w.heap.size, 2, none⟩ = some (.slice b ys.length cb) ∧ w'.cell? ⟨w.heap.size + 1, 0, none⟩ = some (.bool m) ∧ w'.cell? ⟨w.heap.size + 1, 1, none⟩ = some (.slice c us.length cc) ∧ w'.cell? ⟨w.heap.size + 1, 2, none⟩ = some (.slice d vs.length cd))) := fun ww hv a4 z4 c4 a5 z5 c5 h4 h5 => by
    have e := signed3_any n _ z4 mm _ z5 ww h4.sl h5.sl (by have := own_len h4 HPL.out.1; omega) (by have := own_len h5 HPL.out.2; omega) h4.2.2.1 h5.2.2.1
    rw [h4.2.2.2, h5.2.2.2] at e
    refine Calls.mono e ?_
    rintro e w' ⟨k, v, zs, rfl, o, h1, h2, h3, hb⟩
    obtain ⟨a6, c6, hs⟩ := own_slice' o
    subst hs
    refine ⟨k, a6, zs, c6, rfl, ⟨?_, bt hv hb⟩, HK.out w' (bt hv hb)⟩
    rw [← HCC.out]
    exact order_of h1 h2 (by rw [h3, ← HMM.out, sg_not]; omega)
  go_region_held3 (fun V : World => V.cell? ⟨w.heap.size, 0, none⟩ = some (.bool n) ∧ V.cell? ⟨w.heap.size, 1, none⟩ = some (.slice a xs.length ca) ∧ V.cell? ⟨w.heap.size, 2, none⟩ = some (.slice b ys.length cb) ∧ V.cell? ⟨w.heap.size + 1, 0, none⟩ = some (.bool m) ∧ V.cell? ⟨w.heap.size + 1, 1, none⟩ = some (.slice c us.length cc) ∧ V.cell? ⟨w.heap.size + 1, 2, none⟩ = some (.slice d vs.length cd)) (first | exact hs6 | exact hs5 | exact hs4 | exact hs0)
    (first
      | (go_at_call 91; with_reducible refine Calls.mono (H3.out _ hb5 _ _ _ _ _ _ (HE4.out.1.later HS5.out) HE5.out.1) ?_; rintro e w6 ⟨k6, a6, z6, c6, rfl, HE6, hs6⟩)
      | (go_at_call 92; with_reducible refine Calls.mono (H2.out _ hb4) ?_; rintro e w5 ⟨a5, z5, c5, rfl, HE5, hs5, hb5, HS5⟩)
      | (go_at_call 92; with_reducible refine Calls.mono (H1.out _ HBR.out) ?_; rintro e w4 ⟨a4, z4, c4, rfl, HE4, hs4, hb4, HS4⟩))
  all_goals
    have HBW := hid (bt HB.out HE6.out.2)
    have HR := hid HE6.out.1
    clear HK H1 H2 H3 HE4 HE5 HE6 HS4 HS5 hs0 hs4 hs5 hs6 hb4 hb5 HBR hmm
    by_cases c6z : z6.length = 0
    · have c6b : ((z6.length : Int) == 0) = true := beq_iff_eq.2 (by omega)
      have HV : Hid (cc0 = 0) := by have e := HR.out; rw [if_pos c6z] at e; exact e
      clear c6z HR
      go_wp2_with fail
      go_ret
      exact ⟨by rw [HV.out]; rfl, HBW.out⟩
    · have c6b : ((z6.length : Int) == 0) = false := beq_eq_false_iff_ne.2 (by omega)
      cases k6 with
      | true =>
        have HV : Hid (cc0 = -1) := by have e := HR.out; rw [if_neg c6z, if_pos rfl] at e; exact e
        clear HR
        go_wp2_with fail
        go_ret
        exact ⟨by rw [HV.out]; rfl, HBW.out⟩
      | false =>
        have HV : Hid (cc0 = 1) := by have e := HR.out; rw [if_neg c6z, if_neg (by decide)] at e; exact e
        clear HR
        go_wp2_with fail
        go_ret
        exact ⟨by rw [HV.out]; rfl, HBW.out⟩

set_option maxHeartbeats 3200000 in
set_option maxRecDepth 100000 in
theorem dCompare_full (n : Bool) (a : Option Addr) (ca : Nat) (xs : List Int) (b : Option Addr) (cb : Nat) (ys : List Int) (m : Bool) (c : Option Addr) (cc : Nat) (us : List Int) (d : Option Addr) (cd : Nat) (vs : List Int) (w : World) (sx : Sl w (.slice a xs.length ca) xs) (sy : Sl w (.slice b ys.length cb) ys) (su : Sl w (.slice c us.length cc) us) (sv : Sl w (.slice d vs.length cd) vs) (hlx : xs.length ≤ 281474976710656) (hly : ys.length ≤ 281474976710656) (hlu : us.length ≤ 281474976710656) (hlv : vs.length ≤ 281474976710656) :
    Calls Tryz.prog 45 #[.agg #[.bool n, .slice a xs.length ca, .slice b ys.length cb], .agg #[.bool m, .slice c us.length cc, .slice d vs.length cd]] w fun e w' => e = .returned (.tuple #[.int .i64 (rcmp n xs ys m us vs), .int .i64 (rboth n xs ys m us vs)]) ∧ Below w.heap.size w w' := by
  have HB : Hid (Below w.heap.size w ((w.alloc (.cells #[.bool n, .slice a xs.length ca, .slice b ys.length cb] 25)).alloc (.cells #[.bool m, .slice c us.length cc, .slice d vs.length cd] 25))) := bt (alloc_later _ _) (alloc_later _ _)
  have HN : Hid (Box ((w.alloc (.cells #[.bool n, .slice a xs.length ca, .slice b ys.length cb] 25)).alloc (.cells #[.bool m, .slice c us.length cc, .slice d vs.length cd] 25)) w.heap.size 25 #[.bool n, .slice a xs.length ca, .slice b ys.length cb]) := Box.later (Box.made w _ _) (alloc_later _ _) (by simp)
  have HM : Hid (Box ((w.alloc (.cells #[.bool n, .slice a xs.length ca, .slice b ys.length cb] 25)).alloc (.cells #[.bool m, .slice c us.length cc, .slice d vs.length cd] 25)) (w.heap.size + 1) 25 #[.bool m, .slice c us.length cc, .slice d vs.length cd]) := by
    have e := Box.made (w.alloc (.cells #[.bool n, .slice a xs.length ca, .slice b ys.length cb] 25)) 25 #[.bool m, .slice c us.length cc, .slice d vs.length cd]
    simp at e
    exact e
  have HSL := hid (And.intro (sx.later HB.out) (And.intro (sy.later HB.out) (And.intro (su.later HB.out) (sv.later HB.out))))
  have HC := hid (both3_any n _ _ xs _ _ ys m _ _ us _ _ vs ((w.alloc (.cells #[.bool n, .slice a xs.length ca, .slice b ys.length cb] 25)).alloc (.cells #[.bool m, .slice c us.length cc, .slice d vs.length cd] 25)) HSL.out.1 HSL.out.2.1 HSL.out.2.2.1 HSL.out.2.2.2 hlx hly hlu hlv)
  unfold rcmp
  by_cases he : rboth n xs ys m us vs = 0
  · rw [if_pos he, he]
    rw [he] at HC
    have HKO := hid (rboth_ok he)
    obtain ⟨cc0, hcc0⟩ : ∃ c, cmpI (wval n xs * val vs) (wval m us * val ys) = c := ⟨_, rfl⟩
    rw [hcc0]
    have HCC := hid hcc0
    clear sx sy su sv he hcc0
    go_enter Tryz.func45, Tryz.ntmps45
    go_wp2_with fail
    refine Calls.mono HC.out ?_
    generalize ((w.alloc (.cells #[.bool n, .slice a xs.length ca, .slice b ys.length cb] 25)).alloc (.cells #[.bool m, .slice c us.length cc, .slice d vs.length cd] 25)) = X at *
    rintro e w1 ⟨rfl, hb1⟩
    obtain ⟨p0, p1, p2, _⟩ := res_box3 HN.out hb1
    obtain ⟨q0, q1, q2, _⟩ := res_box3 HM.out hb1
    have HO := order3_any n _ _ xs _ _ ys m _ _ us _ _ vs w1 (HSL.out.1.later hb1) (HSL.out.2.1.later hb1) (HSL.out.2.2.1.later hb1) (HSL.out.2.2.2.later hb1) HKO.out.1 HKO.out.2
    rw [HCC.out] at HO
    have HH := hid HO
    have HB1 := hid (bt HB.out hb1)
    clear hb1 HC HO
    go_wp2_with fail
    refine Calls.mono HH.out ?_
    rintro e w2 ⟨rfl, hb2⟩
    have HBN := hid (bt HB1.out hb2)
    clear hb2 HH
    go_wp2_with fail
    go_ret2
    exact ⟨rfl, HBN.out⟩
  · rw [if_neg he]
    obtain ⟨E, hE⟩ : ∃ E, rboth n xs ys m us vs = E := ⟨_, rfl⟩
    rw [hE] at HC he ⊢
    have he' : (E == 0) = false := beq_eq_false_iff_ne.2 he
    have he2 : (E != 0) = true := bne_iff_ne.2 he
    clear sx sy su sv he hE
    go_enter Tryz.func45, Tryz.ntmps45
    go_wp2_with fail
    refine Calls.mono HC.out ?_
    rintro e w1 ⟨rfl, hb1⟩
    have HBN := hid (bt HB.out hb1)
    clear hb1 HC
    go_wp2_with fail
    go_ret2
    exact ⟨rfl, HBN.out⟩
end Go.Proofs.YtabkgpnckaaclaaGreatDoor

/- The document's own floats (slackwaterref06): Exact, Compare. -/
namespace Go.Proofs.YtabkgpnckaaclaaGreatDoor
open Go.RowKit
set_option linter.unusedVariables false

theorem RTells.short {e : Int} {q : Rat} {n : Bool} {xs ys : List Int} {code : Int} (h : RTells e q n xs ys code) : xs.length ≤ 281474976710656 ∧ ys.length ≤ 281474976710656 := by
  by_cases he : e = 0
  · by_cases hl : rlong q
    · obtain ⟨_, h1, h2, _⟩ := h.long he hl
      subst h1; subst h2
      exact ⟨by simp, by simp⟩
    · obtain ⟨_, h1, _⟩ := h.good he hl
      obtain ⟨l1, l2, _⟩ := rchk_ok h1
      omega
  · obtain ⟨_, h1, h2, _⟩ := h.bad he
    subst h1; subst h2
    exact ⟨by simp, by simp⟩

set_option maxHeartbeats 800000 in
set_option maxRecDepth 100000 in
theorem ndExact_bad (x : Nat) (w : World) (hx : x < 18446744073709551616) (hf : fin x = false) :
    Calls Tryz.prog 8 #[.float .f64 x] w fun e w' => e = .returned (.tuple #[.agg #[.bool false, .slice none 0 0, .slice none 0 0], .int .i64 8]) ∧ Below w.heap.size w w' := by
  have HF := hid (fun V => refFinite_any x V hx)
  rw [hf] at HF
  clear hf hx
  go_enter Tryz.func8, Tryz.ntmps8
  go_wp2_with fail
  refine Calls.mono (HF.out _) ?_
  rintro e w1 ⟨rfl, rfl⟩
  go_wp2_with fail
  go_returns
  exact ⟨rfl, alloc_later _ _⟩

set_option maxHeartbeats 800000 in
set_option maxRecDepth 100000 in
theorem ndExact_fin (x : Nat) (w : World) (hx : x < 18446744073709551616) (hf : fin x = true) :
    Calls Tryz.prog 8 #[.float .f64 x] w fun e w' => ∃ n a ca b cb zs ds code, e = .returned (.tuple #[.agg #[.bool n, .slice a (List.length zs) ca, .slice b (List.length ds) cb], .int .i64 0]) ∧ w'.ownsRow w.heap.size 88 1 (.slice a zs.length ca) zs.length (zs.map (Value.int .u32)) ∧ w'.ownsRow w.heap.size 88 1 (.slice b ds.length cb) ds.length (ds.map (Value.int .u32)) ∧ RTells 0 (fq x) n zs ds code ∧ Below w.heap.size w w' := by
  have HF := hid (fun V => refFinite_any x V hx)
  rw [hf] at HF
  obtain ⟨P, hP⟩ : ∃ P, w.alloc (.cells #[.bool false, .slice none 0 0, .slice none 0 0] 25) = P := ⟨_, rfl⟩
  have HB1 : Hid (Below w.heap.size w P) := by rw [← hP]; exact alloc_later _ _
  have HPX : Hid (Box P w.heap.size 25 #[.bool false, .slice none 0 0, .slice none 0 0]) := by rw [← hP]; exact Box.made w _ _
  have HE := hid (ndexact_any x P hx)
  clear hf hx
  go_enter Tryz.func8, Tryz.ntmps8
  go_wp2_with fail
  refine Calls.mono (HF.out _) ?_
  rintro e w1 ⟨rfl, rfl⟩
  go_wp2_with fail
  clear hP
  refine Calls.mono HE.out ?_
  rintro e w2 ⟨n, a, ca, b, cb, zs, ds, code, rfl, o1, o2, ht, hb2⟩
  have hBX := HPX.out.later hb2 HPX.out.lt
  have hlt : w.heap.size < w1.heap.size := HPX.out.lt
  obtain ⟨Z, hZ⟩ : ∃ Z, ((w2.setCell ⟨w.heap.size, 0, none⟩ (.bool n)).setCell ⟨w.heap.size, 1, none⟩ (.slice a zs.length ca)).setCell ⟨w.heap.size, 2, none⟩ (.slice b ds.length cb) = Z := ⟨_, rfl⟩
  have hBZ : Box Z w.heap.size 25 #[.bool n, .slice a zs.length ca, .slice b ds.length cb] := by rw [← hZ]; exact put3_box hBX _ _ _
  have hBe : Below w.heap.size w Z := by rw [← hZ]; exact below_put3 (bt HB1.out hb2) _ (Nat.le_refl _) _ _ _
  have r5 : Z.ownsRow w.heap.size 88 1 (.slice a zs.length ca) zs.length (zs.map (Value.int .u32)) := by rw [← hZ]; exact owns_base (put3_row o1 hBX (by decide) _ _ _) (by omega)
  have r6 : Z.ownsRow w.heap.size 88 1 (.slice b ds.length cb) ds.length (ds.map (Value.int .u32)) := by rw [← hZ]; exact owns_base (put3_row o2 hBX (by decide) _ _ _) (by omega)
  have g0 : w2.cell? ⟨w.heap.size, 0, none⟩ = some (.bool false) := hBX.cell 0
  have g1 : w2.cell? ⟨w.heap.size, 1, none⟩ = some (.slice none 0 0) := hBX.cell 1
  have g2 : w2.cell? ⟨w.heap.size, 2, none⟩ = some (.slice none 0 0) := hBX.cell 2
  have f0 := hBX.free 0
  have f1 := hBX.free 1
  have f2 := hBX.free 2
  have p0 : Z.cell? ⟨w.heap.size, 0, none⟩ = some (.bool n) := hBZ.cell 0
  have p1 : Z.cell? ⟨w.heap.size, 1, none⟩ = some (.slice a zs.length ca) := hBZ.cell 1
  have p2 : Z.cell? ⟨w.heap.size, 2, none⟩ = some (.slice b ds.length cb) := hBZ.cell 2
  have HR := hid (And.intro r5 (And.intro r6 (And.intro ht hBe)))
  clear o1 o2 ht hb2 hBX hlt hBZ hBe r5 r6 HPX HB1 HE HF
  go_wp2_with fail
  refine bodyPost_ret (v := .tuple #[.agg #[.bool n, .slice a zs.length ca, .slice b ds.length cb], .int .i64 0]) (by simp [results, Tryz.results8, go_sem, p0, p1, p2]) rfl ?_
  exact ⟨n, a, ca, b, cb, zs, ds, code, rfl, HR.out.1, HR.out.2.1, HR.out.2.2.1, HR.out.2.2.2⟩

set_option maxHeartbeats 800000 in
set_option maxRecDepth 100000 in
theorem ndCompare_bad (x : Nat) (v : Value) (n : Bool) (a : Option Addr) (la ca : Nat) (b : Option Addr) (lb cb : Nat) (w : World) (hx : x < 18446744073709551616) (hf : fin x = false) :
    Calls Tryz.prog 12 #[.float .f64 x, .agg #[.bool n, .slice a la ca, .slice b lb cb]] w fun e w' => e = .returned (.tuple #[.int .i64 0, .int .i64 8]) ∧ Below w.heap.size w w' := by
  have HF := hid (fun V => refFinite_any x V hx)
  rw [hf] at HF
  clear hf hx
  go_enter Tryz.func12, Tryz.ntmps12
  go_wp2_with fail
  refine Calls.mono (HF.out _) ?_
  rintro e w1 ⟨rfl, rfl⟩
  go_wp2_with fail
  go_returns
  exact ⟨rfl, alloc_later _ _⟩

set_option maxHeartbeats 1600000 in
set_option maxRecDepth 100000 in
theorem ndCompare_fin (x : Nat) (n : Bool) (a : Option Addr) (ca : Nat) (xs : List Int) (b : Option Addr) (cb : Nat) (ys : List Int) (w : World) (hx : x < 18446744073709551616) (hf : fin x = true) (sx : Sl w (.slice a xs.length ca) xs) (sy : Sl w (.slice b ys.length cb) ys) (lx : xs.length ≤ 281474976710656) (ly : ys.length ≤ 281474976710656) :
    Calls Tryz.prog 12 #[.float .f64 x, .agg #[.bool n, .slice a xs.length ca, .slice b ys.length cb]] w fun e w' => ∃ k zs ds code, e = .returned (.tuple #[.int .i64 (rcmp k zs ds n xs ys), .int .i64 (rboth k zs ds n xs ys)]) ∧ RTells 0 (fq x) k zs ds code ∧ Below w.heap.size w w' := by
  have HF := hid (fun V => refFinite_any x V hx)
  rw [hf] at HF
  obtain ⟨P, hP⟩ : ∃ P, w.alloc (.cells #[.bool n, .slice a xs.length ca, .slice b ys.length cb] 25) = P := ⟨_, rfl⟩
  have b1 : Below w.heap.size w P := by rw [← hP]; exact alloc_later _ _
  have HPX : Hid (Box P w.heap.size 25 #[.bool n, .slice a xs.length ca, .slice b ys.length cb]) := by rw [← hP]; exact Box.made w _ _
  have HS := hid (And.intro (sx.later b1) (sy.later b1))
  have HB1 := hid b1
  clear hf sx sy b1
  go_enter Tryz.func12, Tryz.ntmps12
  go_wp2_with fail
  refine Calls.mono (HF.out _) ?_
  rintro e w1 ⟨rfl, rfl⟩
  have HFc : Hid (∀ V, Below w1.heap.size w1 V → V.cell? ⟨w.heap.size, 0, none⟩ = some (.bool n) ∧ V.cell? ⟨w.heap.size, 1, none⟩ = some (.slice a xs.length ca) ∧ V.cell? ⟨w.heap.size, 2, none⟩ = some (.slice b ys.length cb)) := fun V hv => by
    have h := HPX.out.later hv HPX.out.lt
    exact ⟨h.cell 0, h.cell 1, h.cell 2⟩
  have HEx : Hid (∀ V, Below w1.heap.size w1 V → Calls Tryz.prog 39 #[.float .f64 x] V fun e w' => ∃ k a' ca' b' cb' zs ds, e = .returned (.agg #[.bool k, .slice a' (List.length zs) ca', .slice b' (List.length ds) cb']) ∧ Hid (Sl w' (.slice a' zs.length ca') zs ∧ Sl w' (.slice b' ds.length cb') ds ∧ (∃ code, RTells 0 (fq x) k zs ds code)) ∧ (w'.cell? ⟨w.heap.size, 0, none⟩ = some (.bool n) ∧ w'.cell? ⟨w.heap.size, 1, none⟩ = some (.slice a xs.length ca) ∧ w'.cell? ⟨w.heap.size, 2, none⟩ = some (.slice b ys.length cb)) ∧ Below w1.heap.size w1 w') := fun V hv => by
    refine Calls.mono (ndexact_any x V hx) ?_
    rintro e w' ⟨k, a', ca', b', cb', zs, ds, code, rfl, o1, o2, ht, hb⟩
    exact ⟨k, a', ca', b', cb', zs, ds, rfl, ⟨Sl.own o1 ht.wx, Sl.own o2 ht.wy, code, ht⟩, HFc.out _ (bt hv hb), bt hv hb⟩
  have HCm : Hid (∀ V k a' ca' zs b' cb' ds, Below w1.heap.size w1 V → Hid (Sl V (.slice a' (List.length zs) ca') zs ∧ Sl V (.slice b' (List.length ds) cb') ds ∧ (∃ code, RTells 0 (fq x) k zs ds code)) → Calls Tryz.prog 45 #[.agg #[.bool k, .slice a' zs.length ca', .slice b' ds.length cb'], .agg #[.bool n, .slice a xs.length ca, .slice b ys.length cb]] V fun e w' => e = .returned (.tuple #[.int .i64 (rcmp k zs ds n xs ys), .int .i64 (rboth k zs ds n xs ys)]) ∧ (w'.cell? ⟨w.heap.size, 0, none⟩ = some (.bool n) ∧ w'.cell? ⟨w.heap.size, 1, none⟩ = some (.slice a xs.length ca) ∧ w'.cell? ⟨w.heap.size, 2, none⟩ = some (.slice b ys.length cb)) ∧ Below w1.heap.size w1 w') := fun V k a' ca' zs b' cb' ds hv hs => by
    obtain ⟨s1, s2, code, ht⟩ := hs.out
    refine Calls.mono (dCompare_full k a' ca' zs b' cb' ds n a ca xs b cb ys V s1 s2 (HS.out.1.later hv) (HS.out.2.later hv) (ht.short).1 (ht.short).2 lx ly) ?_
    rintro e w' ⟨rfl, hb⟩
    exact ⟨rfl, HFc.out _ (bt hv hb), bt hv hb⟩
  have hs0 := HFc.out _ (Below.refl _ w1).drew
  have hd0 := hid (Below.refl w1.heap.size w1).drew
  obtain ⟨f0, f1, f2⟩ := HFc.out _ (Below.refl _ w1)
  go_wp2_with fail
  clear hP
  go_region_held3 (fun V : World => V.cell? ⟨w.heap.size, 0, none⟩ = some (.bool n) ∧ V.cell? ⟨w.heap.size, 1, none⟩ = some (.slice a xs.length ca) ∧ V.cell? ⟨w.heap.size, 2, none⟩ = some (.slice b ys.length cb)) (first | exact hs2 | exact hs1 | exact hs0)
    (first
      | (go_at_call 45; with_reducible refine Calls.mono (HCm.out _ k a' ca' zs b' cb' ds hb1 hz1) ?_; rintro e wo ⟨rfl, hs2, hb2⟩)
      | (go_at_call 39; with_reducible refine Calls.mono (HEx.out _ hd0.out) ?_; rintro e wn ⟨k, a', ca', b', cb', zs, ds, rfl, hz1, hs1, hb1⟩))
  all_goals
    have HBE := hid (bt HB1.out hb2)
    obtain ⟨_, _, code, ht⟩ := hz1.out
    have HT := hid ht
    clear hs0 hs1 hs2 hb1 hb2 hd0 HEx HCm ht hz1 f0 f1 f2
    go_wp2_with fail
    go_returns
    exact ⟨k, zs, ds, code, rfl, HT.out, HBE.out⟩
end Go.Proofs.YtabkgpnckaaclaaGreatDoor

/- The document's own fractions: Mul, Quo: of any fractions, good or refused. -/
namespace Go.Proofs.YtabkgpnckaaclaaGreatDoor
open Go.RowKit
set_option linter.unusedVariables false

theorem sg_two (n m : Bool) (x y : Int) : sg n x * sg m y = sg (n != m) (x * y) := by
  cases n <;> cases m <;> simp [sg, Int.neg_mul, Int.mul_neg]
theorem mul_q {n m : Bool} {xs ys us vs : List Int} : Rat.divInt (sg (n != m) (val xs * val us)) (val ys * val vs) = rq n xs ys * rq m us vs := by
  unfold rq
  rw [Rat.divInt_mul_divInt]
  show _ = Rat.divInt (sg n (val xs) * sg m (val us)) _
  rw [sg_two]
theorem quo_q {n m : Bool} {xs ys us vs : List Int} : Rat.divInt (sg (n != m) (val xs * val vs)) (val ys * val us) = rq n xs ys / rq m us vs := by
  rw [← rq_over]
  exact mul_q

end Go.Proofs.YtabkgpnckaaclaaGreatDoor

/- Whole numbers that are lent to a call: slackwaterkit.LentWhole, KeptWhole; the law's own comparison. -/
namespace Go.Proofs.YtabkgpnckaaclaaGreatDoor
open Go.RowKit
set_option linter.unusedVariables false

theorem own_room {w : World} {base e n : Nat} {v : Value} {xs : List Value} (h : w.ownsRow base e 1 v n xs) (hn : 0 < n) : ∃ g cap, v = .slice (some ⟨g, 0, none⟩) n cap ∧ n ≤ cap ∧ cap ≤ 9223372036854775807 := by
  obtain ⟨g, cap, rfl, h1, h2⟩ := own_shape' h hn
  exact ⟨g, cap, rfl, h1, by unfold maxLen at h2; omega⟩

end Go.Proofs.YtabkgpnckaaclaaGreatDoor

/- Fractions that are lent to a call: slackwaterkit.LentRatio, KeptRatio. -/
namespace Go.Proofs.YtabkgpnckaaclaaGreatDoor
open Go.RowKit
set_option linter.unusedVariables false

set_option maxHeartbeats 6400000 in
set_option maxRecDepth 100000 in
theorem lentRatio_any (n : Bool) (a : Option Addr) (ca : Nat) (xs : List Int) (b : Option Addr) (cb : Nat) (ys : List Int) (w : World) (sx : Sl w (.slice a xs.length ca) xs) (sy : Sl w (.slice b ys.length cb) ys) (lx : xs.length ≤ 549755813888) (ly : ys.length ≤ 549755813888) :
    Calls Tryz.prog 6 #[.agg #[.bool n, .slice a xs.length ca, .slice b ys.length cb]] w fun e w' => ∃ g1 c1 g2 c2, e = .returned (.agg #[.bool n, .slice (some ⟨g1, 0, none⟩) xs.length c1, .slice (some ⟨g2, 0, none⟩) ys.length c2]) ∧ w'.ownsRow w.heap.size 88 1 (.slice (some ⟨g1, 0, none⟩) (xs.length + 3) c1) (xs.length + 3) ((xs ++ marks 3).map (Value.int .u32)) ∧ w'.ownsRow w.heap.size 88 1 (.slice (some ⟨g2, 0, none⟩) (ys.length + 3) c2) (ys.length + 3) ((ys ++ marks 3).map (Value.int .u32)) ∧ g1 < g2 ∧ Below w.heap.size w w' := by
  have HB : Hid (Below w.heap.size w ((w.alloc (.cells #[.bool n, .slice a xs.length ca, .slice b ys.length cb] 25)).alloc (.cells #[.bool false, .slice none 0 0, .slice none 0 0] 25))) := bt (alloc_later _ _) (alloc_later _ _)
  have HA : Hid (Box ((w.alloc (.cells #[.bool n, .slice a xs.length ca, .slice b ys.length cb] 25)).alloc (.cells #[.bool false, .slice none 0 0, .slice none 0 0] 25)) w.heap.size 25 #[.bool n, .slice a xs.length ca, .slice b ys.length cb]) := Box.later (Box.made w _ _) (alloc_later _ _) (by simp)
  have HZ : Hid (Box ((w.alloc (.cells #[.bool n, .slice a xs.length ca, .slice b ys.length cb] 25)).alloc (.cells #[.bool false, .slice none 0 0, .slice none 0 0] 25)) (w.heap.size + 1) 25 #[.bool false, .slice none 0 0, .slice none 0 0]) := by
    have e := Box.made (w.alloc (.cells #[.bool n, .slice a xs.length ca, .slice b ys.length cb] 25)) 25 #[.bool false, .slice none 0 0, .slice none 0 0]
    simp at e
    exact e
  have HS := hid (And.intro (sx.later HB.out) (sy.later HB.out))
  clear sx sy
  go_enter Tryz.func6, Tryz.ntmps6
  go_wp2_with fail
  generalize ((w.alloc (.cells #[.bool n, .slice a xs.length ca, .slice b ys.length cb] 25)).alloc (.cells #[.bool false, .slice none 0 0, .slice none 0 0] 25)) = X at *
  have HK : Hid (∀ V, Below X.heap.size X V → (V.cell? ⟨w.heap.size, 0, none⟩ = some (.bool n) ∧ V.cell? ⟨w.heap.size, 1, none⟩ = some (.slice a xs.length ca) ∧ V.cell? ⟨w.heap.size, 2, none⟩ = some (.slice b ys.length cb))) := fun V hb => by
    obtain ⟨p0, p1, p2, _, _, _⟩ := res_box3 HA.out hb
    exact ⟨p0, p1, p2⟩
  have hs0 := HK.out _ (Below.drew (Below.refl _ X))
  have HL1 : Hid (∀ V, Below X.heap.size X V → Calls Tryz.prog 34 #[.slice a xs.length ca] V fun e V' => ∃ g cap, e = .returned (.slice (some ⟨g, 0, none⟩) (xs.length + 3) cap) ∧ xs.length + 3 ≤ cap ∧ cap ≤ 9223372036854775807 ∧ (xs.length : Int) ≤ (cap : Int) ∧ Hid (V'.ownsRow X.heap.size 88 1 (.slice (some ⟨g, 0, none⟩) (xs.length + 3) cap) (xs.length + 3) ((xs ++ marks 3).map (Value.int .u32)) ∧ Below V.heap.size V V' ∧ Below X.heap.size X V' ∧ V.heap.size ≤ g ∧ g < V'.heap.size) ∧ (V'.cell? ⟨w.heap.size, 0, none⟩ = some (.bool n) ∧ V'.cell? ⟨w.heap.size, 1, none⟩ = some (.slice a xs.length ca) ∧ V'.cell? ⟨w.heap.size, 2, none⟩ = some (.slice b ys.length cb)) ∧ V'.cell? ⟨w.heap.size + 1, 0, none⟩ = some (.bool false) ∧ V'.cell? ⟨w.heap.size + 1, 1, none⟩ = some (.slice none 0 0) ∧ V'.cell? ⟨w.heap.size + 1, 2, none⟩ = some (.slice none 0 0) ∧ V'.frozen? ⟨w.heap.size + 1, 0, none⟩ = false ∧ V'.frozen? ⟨w.heap.size + 1, 1, none⟩ = false ∧ V'.frozen? ⟨w.heap.size + 1, 2, none⟩ = false) := fun V hb => by
    refine Calls.mono (lentWords_sl _ xs _ (HS.out.1.later hb) lx) ?_
    rintro e V' ⟨v1, rfl, o1, hb1⟩
    obtain ⟨g, cap, hv, h1, h2⟩ := own_room o1 (by omega)
    subst hv
    have hbX : Below X.heap.size X V' := bt hb hb1
    exact ⟨g, cap, rfl, h1, h2, by omega, ⟨owns_base o1 hb.size, hb1, hbX, (o1.lt g rfl).1, (o1.lt g rfl).2⟩, HK.out V' hbX, res_box3 HZ.out hbX⟩
  have HL2 : Hid (∀ V, Below X.heap.size X V → Calls Tryz.prog 34 #[.slice b ys.length cb] V fun e V' => ∃ g cap, e = .returned (.slice (some ⟨g, 0, none⟩) (ys.length + 3) cap) ∧ ys.length + 3 ≤ cap ∧ cap ≤ 9223372036854775807 ∧ (ys.length : Int) ≤ (cap : Int) ∧ Hid (V'.ownsRow X.heap.size 88 1 (.slice (some ⟨g, 0, none⟩) (ys.length + 3) cap) (ys.length + 3) ((ys ++ marks 3).map (Value.int .u32)) ∧ Below V.heap.size V V' ∧ Below X.heap.size X V' ∧ V.heap.size ≤ g ∧ g < V'.heap.size) ∧ (V'.cell? ⟨w.heap.size, 0, none⟩ = some (.bool n) ∧ V'.cell? ⟨w.heap.size, 1, none⟩ = some (.slice a xs.length ca) ∧ V'.cell? ⟨w.heap.size, 2, none⟩ = some (.slice b ys.length cb)) ∧ V'.cell? ⟨w.heap.size + 1, 0, none⟩ = some (.bool false) ∧ V'.cell? ⟨w.heap.size + 1, 1, none⟩ = some (.slice none 0 0) ∧ V'.cell? ⟨w.heap.size + 1, 2, none⟩ = some (.slice none 0 0) ∧ V'.frozen? ⟨w.heap.size + 1, 0, none⟩ = false ∧ V'.frozen? ⟨w.heap.size + 1, 1, none⟩ = false ∧ V'.frozen? ⟨w.heap.size + 1, 2, none⟩ = false) := fun V hb => by
    refine Calls.mono (lentWords_sl _ ys _ (HS.out.2.later hb) ly) ?_
    rintro e V' ⟨v1, rfl, o1, hb1⟩
    obtain ⟨g, cap, hv, h1, h2⟩ := own_room o1 (by omega)
    subst hv
    have hbX : Below X.heap.size X V' := bt hb hb1
    exact ⟨g, cap, rfl, h1, h2, by omega, ⟨owns_base o1 hb.size, hb1, hbX, (o1.lt g rfl).1, (o1.lt g rfl).2⟩, HK.out V' hbX, res_box3 HZ.out hbX⟩
  have hx0 : (0 : Int) ≤ (xs.length : Int) := by omega
  have hlx : xs.length ≤ 9223372036854775807 := by omega
  have hy0 : (0 : Int) ≤ (ys.length : Int) := by omega
  have hly : ys.length ≤ 9223372036854775807 := by omega
  clear HS HA
  go_region_held3 (fun V : World => (V.cell? ⟨w.heap.size, 0, none⟩ = some (.bool n) ∧ V.cell? ⟨w.heap.size, 1, none⟩ = some (.slice a xs.length ca) ∧ V.cell? ⟨w.heap.size, 2, none⟩ = some (.slice b ys.length cb))) (first | exact hs2 | exact hs1 | exact hs0 | (simp [hs2, World.cell?_setCell_far]))
    (first
      | (go_at_call 34; with_reducible refine Calls.mono (HL2.out _ HE1.out.2.2.1) ?_; rintro e w2 ⟨g2, c2, rfl, hd1, hd2, hd3, HE2, hs2, r0, r1, r2, f0, f1, f2⟩)
      | (go_at_call 34; with_reducible refine Calls.mono (HL1.out _ (Below.drew (Below.refl _ X))) ?_; rintro e w1 ⟨g1, c1, rfl, hc1, hc2, hc3, HE1, hs1, y0, y1, y2, z0, z1, z2⟩))
  all_goals
    have HZ2 := hid (HZ.out.later HE2.out.2.2.1 HZ.out.lt)
    have HO1 := hid (own_put3 (owns_base (owns_later HE1.out.1 HE2.out.2.1) HB.out.size) (w.heap.size + 1) (own_ne_box (owns_later HE1.out.1 HE2.out.2.1) HZ2.out (by decide)) (.bool n) (.slice (some ⟨g1, 0, none⟩) xs.length c1) (.slice (some ⟨g2, 0, none⟩) ys.length c2))
    have HO2 := hid (own_put3 (owns_base HE2.out.1 HB.out.size) (w.heap.size + 1) (own_ne_box HE2.out.1 HZ2.out (by decide)) (.bool n) (.slice (some ⟨g1, 0, none⟩) xs.length c1) (.slice (some ⟨g2, 0, none⟩) ys.length c2))
    have HBN := hid (below_put3 (bt HB.out HE2.out.2.2.1) (w.heap.size + 1) (by omega) (.bool n) (.slice (some ⟨g1, 0, none⟩) xs.length c1) (.slice (some ⟨g2, 0, none⟩) ys.length c2))
    have HG : Hid (g1 < g2) := by have e1 := HE1.out.2.2.2.2; have e2 := HE2.out.2.2.2.1; show _ < _; omega
    clear HK HL1 HL2 HE1 HE2 HZ HB HZ2 hs0 hs1 hs2 y0 y1 y2 z0 z1 z2
    go_wp2_with fail
    refine bodyPost_ret (v := .agg #[.bool n, .slice (some ⟨g1, 0, none⟩) xs.length c1, .slice (some ⟨g2, 0, none⟩) ys.length c2]) (by simp [results, Tryz.results6, go_sem, r0, r1, r2]) rfl ?_
    exact ⟨g1, c1, g2, c2, rfl, HO1.out, HO2.out, HG.out, HBN.out⟩

set_option maxHeartbeats 6400000 in
set_option maxRecDepth 100000 in
theorem keptRatio_any (n : Bool) (a : Option Addr) (ca : Nat) (xs : List Int) (b : Option Addr) (cb : Nat) (ys : List Int) (g1 c1 g2 c2 base : Nat) (w : World) (sx : Sl w (.slice a xs.length ca) xs) (sy : Sl w (.slice b ys.length cb) ys) (lx : xs.length ≤ 274877906944) (ly : ys.length ≤ 274877906944) (o1 : w.ownsRow base 88 1 (.slice (some ⟨g1, 0, none⟩) (xs.length + 3) c1) (xs.length + 3) ((xs ++ marks 3).map (Value.int .u32))) (o2 : w.ownsRow base 88 1 (.slice (some ⟨g2, 0, none⟩) (ys.length + 3) c2) (ys.length + 3) ((ys ++ marks 3).map (Value.int .u32))) :
    Calls Tryz.prog 21 #[.agg #[.bool n, .slice (some ⟨g1, 0, none⟩) xs.length c1, .slice (some ⟨g2, 0, none⟩) ys.length c2], .agg #[.bool n, .slice a xs.length ca, .slice b ys.length cb]] w fun e w' => e = .returned (.bool true) ∧ Below w.heap.size w w' := by
  have hcap1 : xs.length + 3 ≤ c1 ∧ c1 ≤ 9223372036854775807 := by
    obtain ⟨g', cap', hv, h1, h2⟩ := own_room o1 (by omega)
    simp only [Value.slice.injEq, Option.some.injEq, Addr.mk.injEq, and_true, true_and] at hv
    obtain ⟨rfl, rfl⟩ := hv
    exact ⟨h1, h2⟩
  have wf1 : Wd (xs ++ marks 3) := sx.wd.append (Wd.marks 3)
  have lf1 : (xs ++ marks 3).length = xs.length + 3 := by rw [List.length_append, marks_len 3 (by omega)]
  have hcap2 : ys.length + 3 ≤ c2 ∧ c2 ≤ 9223372036854775807 := by
    obtain ⟨g', cap', hv, h1, h2⟩ := own_room o2 (by omega)
    simp only [Value.slice.injEq, Option.some.injEq, Addr.mk.injEq, and_true, true_and] at hv
    obtain ⟨rfl, rfl⟩ := hv
    exact ⟨h1, h2⟩
  have wf2 : Wd (ys ++ marks 3) := sy.wd.append (Wd.marks 3)
  have lf2 : (ys ++ marks 3).length = ys.length + 3 := by rw [List.length_append, marks_len 3 (by omega)]
  have HO := hid (And.intro (Sl.own o1 wf1) (Sl.own o2 wf2))
  have HS := hid (And.intro sx sy)
  have HB : Hid (Below w.heap.size w ((w.alloc (.cells #[.bool n, .slice (some ⟨g1, 0, none⟩) xs.length c1, .slice (some ⟨g2, 0, none⟩) ys.length c2] 25)).alloc (.cells #[.bool n, .slice a xs.length ca, .slice b ys.length cb] 25))) := bt (alloc_later _ _) (alloc_later _ _)
  have HA : Hid (Box ((w.alloc (.cells #[.bool n, .slice (some ⟨g1, 0, none⟩) xs.length c1, .slice (some ⟨g2, 0, none⟩) ys.length c2] 25)).alloc (.cells #[.bool n, .slice a xs.length ca, .slice b ys.length cb] 25)) w.heap.size 25 #[.bool n, .slice (some ⟨g1, 0, none⟩) xs.length c1, .slice (some ⟨g2, 0, none⟩) ys.length c2]) := Box.later (Box.made w _ _) (alloc_later _ _) (by simp)
  have HZ : Hid (Box ((w.alloc (.cells #[.bool n, .slice (some ⟨g1, 0, none⟩) xs.length c1, .slice (some ⟨g2, 0, none⟩) ys.length c2] 25)).alloc (.cells #[.bool n, .slice a xs.length ca, .slice b ys.length cb] 25)) (w.heap.size + 1) 25 #[.bool n, .slice a xs.length ca, .slice b ys.length cb]) := by
    have e := Box.made (w.alloc (.cells #[.bool n, .slice (some ⟨g1, 0, none⟩) xs.length c1, .slice (some ⟨g2, 0, none⟩) ys.length c2] 25)) 25 #[.bool n, .slice a xs.length ca, .slice b ys.length cb]
    simp at e
    exact e
  have hc1 := hcap1.1
  have hm1 := hcap1.2
  have hll1 : ((xs.length : Int) == (xs.length : Int)) = true := by simp
  have hx1 : (0 : Int) ≤ (xs.length : Int) + 3 := by omega
  have hxc1 : (xs.length : Int) + 3 ≤ (c1 : Int) := by omega
  have hwr1 : IntKind.i64.wrap ((xs.length : Int) + 3) = (xs.length : Int) + 3 := by rw [IntKind.wrap_i64]; omega
  have htn1 : ((xs.length : Int) + 3).toNat = xs.length + 3 := by omega
  have hc2 := hcap2.1
  have hm2 := hcap2.2
  have hll2 : ((ys.length : Int) == (ys.length : Int)) = true := by simp
  have hx2 : (0 : Int) ≤ (ys.length : Int) + 3 := by omega
  have hxc2 : (ys.length : Int) + 3 ≤ (c2 : Int) := by omega
  have hwr2 : IntKind.i64.wrap ((ys.length : Int) + 3) = (ys.length : Int) + 3 := by rw [IntKind.wrap_i64]; omega
  have htn2 : ((ys.length : Int) + 3).toNat = ys.length + 3 := by omega
  have hnn : (n == n) = true := by simp
  clear o1 o2 hcap1 hcap2 sx sy
  go_enter Tryz.func21, Tryz.ntmps21
  go_wp2_with fail
  generalize ((w.alloc (.cells #[.bool n, .slice (some ⟨g1, 0, none⟩) xs.length c1, .slice (some ⟨g2, 0, none⟩) ys.length c2] 25)).alloc (.cells #[.bool n, .slice a xs.length ca, .slice b ys.length cb] 25)) = X at *
  have HK : Hid (∀ V, Below X.heap.size X V → (V.cell? ⟨w.heap.size, 0, none⟩ = some (.bool n) ∧ V.cell? ⟨w.heap.size, 1, none⟩ = some (.slice (some ⟨g1, 0, none⟩) xs.length c1) ∧ V.cell? ⟨w.heap.size, 2, none⟩ = some (.slice (some ⟨g2, 0, none⟩) ys.length c2) ∧ V.cell? ⟨w.heap.size + 1, 0, none⟩ = some (.bool n) ∧ V.cell? ⟨w.heap.size + 1, 1, none⟩ = some (.slice a xs.length ca) ∧ V.cell? ⟨w.heap.size + 1, 2, none⟩ = some (.slice b ys.length cb))) := fun V hb => by
    obtain ⟨p0, p1, p2, _, _, _⟩ := res_box3 HA.out hb
    obtain ⟨q0, q1, q2, _, _, _⟩ := res_box3 HZ.out hb
    exact ⟨p0, p1, p2, q0, q1, q2⟩
  have hs0 := HK.out _ (Below.drew (Below.refl _ X))
  have HL1 : Hid (∀ V, Below X.heap.size X V → Calls Tryz.prog 55 #[.slice (some ⟨g1, 0, none⟩) (xs.length + 3) c1, .slice a xs.length ca] V fun e V' => e = .returned (.bool true) ∧ Hid (Below X.heap.size X V') ∧ (V'.cell? ⟨w.heap.size, 0, none⟩ = some (.bool n) ∧ V'.cell? ⟨w.heap.size, 1, none⟩ = some (.slice (some ⟨g1, 0, none⟩) xs.length c1) ∧ V'.cell? ⟨w.heap.size, 2, none⟩ = some (.slice (some ⟨g2, 0, none⟩) ys.length c2) ∧ V'.cell? ⟨w.heap.size + 1, 0, none⟩ = some (.bool n) ∧ V'.cell? ⟨w.heap.size + 1, 1, none⟩ = some (.slice a xs.length ca) ∧ V'.cell? ⟨w.heap.size + 1, 2, none⟩ = some (.slice b ys.length cb))) := fun V hb => by
    have e := keptWords_sl _ _ (xs ++ marks 3) xs V (HO.out.1.later (bt HB.out hb)) (HS.out.1.later (bt HB.out hb)) (by omega) lx
    rw [decide_eq_true rfl] at e
    refine Calls.mono e ?_
    rintro e V' ⟨rfl, hb1⟩
    have hbX : Below X.heap.size X V' := bt hb hb1
    exact ⟨rfl, hbX, HK.out V' hbX⟩
  have HL2 : Hid (∀ V, Below X.heap.size X V → Calls Tryz.prog 55 #[.slice (some ⟨g2, 0, none⟩) (ys.length + 3) c2, .slice b ys.length cb] V fun e V' => e = .returned (.bool true) ∧ Hid (Below X.heap.size X V') ∧ (V'.cell? ⟨w.heap.size, 0, none⟩ = some (.bool n) ∧ V'.cell? ⟨w.heap.size, 1, none⟩ = some (.slice (some ⟨g1, 0, none⟩) xs.length c1) ∧ V'.cell? ⟨w.heap.size, 2, none⟩ = some (.slice (some ⟨g2, 0, none⟩) ys.length c2) ∧ V'.cell? ⟨w.heap.size + 1, 0, none⟩ = some (.bool n) ∧ V'.cell? ⟨w.heap.size + 1, 1, none⟩ = some (.slice a xs.length ca) ∧ V'.cell? ⟨w.heap.size + 1, 2, none⟩ = some (.slice b ys.length cb))) := fun V hb => by
    have e := keptWords_sl _ _ (ys ++ marks 3) ys V (HO.out.2.later (bt HB.out hb)) (HS.out.2.later (bt HB.out hb)) (by omega) ly
    rw [decide_eq_true rfl] at e
    refine Calls.mono e ?_
    rintro e V' ⟨rfl, hb1⟩
    have hbX : Below X.heap.size X V' := bt hb hb1
    exact ⟨rfl, hbX, HK.out V' hbX⟩
  clear HA HZ wf1 wf2 lf1 lf2 HO HS
  go_region_held3 (fun V : World => (V.cell? ⟨w.heap.size, 0, none⟩ = some (.bool n) ∧ V.cell? ⟨w.heap.size, 1, none⟩ = some (.slice (some ⟨g1, 0, none⟩) xs.length c1) ∧ V.cell? ⟨w.heap.size, 2, none⟩ = some (.slice (some ⟨g2, 0, none⟩) ys.length c2) ∧ V.cell? ⟨w.heap.size + 1, 0, none⟩ = some (.bool n) ∧ V.cell? ⟨w.heap.size + 1, 1, none⟩ = some (.slice a xs.length ca) ∧ V.cell? ⟨w.heap.size + 1, 2, none⟩ = some (.slice b ys.length cb))) (first | exact hs2 | exact hs1 | exact hs0 | exact HK.out _ (Below.drew HE1.out))
    (first
      | (go_at_call 55; with_reducible refine Calls.mono (HL2.out _ (by first | exact HE1.out | exact Below.drew HE1.out)) ?_; rintro e w2 ⟨rfl, HE2, hs2⟩)
      | (go_at_call 55; with_reducible refine Calls.mono (HL1.out _ (Below.drew (Below.refl _ X))) ?_; rintro e w1 ⟨rfl, HE1, hs1⟩))
  all_goals
    have HBN := hid (bt HB.out HE2.out)
    clear HK HL1 HL2 HE1 HE2 HB hs0 hs1 hs2
    go_wp2_with fail
    go_ret
    exact ⟨rfl, HBN.out⟩
end Go.Proofs.YtabkgpnckaaclaaGreatDoor

/- The document's own fractions: copied, opposite. -/
namespace Go.Proofs.YtabkgpnckaaclaaGreatDoor
open Go.RowKit
set_option linter.unusedVariables false

set_option maxHeartbeats 800000 in
set_option maxRecDepth 100000 in
theorem copied3_any (a : Option Addr) (n cap : Nat) (xs : List Int) (w : World) (h : Reads w w.heap.size a n cap xs) (hn : n ≤ 1099511627776) :
    Calls Tryz.prog 114 #[.slice a n cap] w fun e w' => ∃ v, e = .returned v ∧ w'.ownsRow w.heap.size 88 1 v n (xs.map (Value.int .u32)) ∧ Below w.heap.size w w' := by
  obtain ⟨i0, hi, hz0, hz1, hz2⟩ := info_parts Tryz.infoW
  have hl := h.1
  have HL : Hid (xs.length = n) := hl
  have hown : w.ownsRow w.heap.size 88 1 (.slice none 0 0) 0 [] := World.ownsRow_nil _ _ _ _
  have hbel : Below w.heap.size w w := Below.refl _ _
  cases a with
  | none =>
    have h0 : cap = 0 := h.2.2.2.2.2 rfl
    subst h0
    have h1 : n = 0 := by have := h.2.2.2.1; omega
    subst h1
    have hx : xs = [] := List.eq_nil_of_length_eq_zero hl
    subst hx
    clear h hl
    go_enter Tryz.func114, Tryz.ntmps114
    go_wp2_with (at_builtin; refine wpList_append_own_none rfl _ _ 23 rfl w.heap.size 88 i0 1 Tryz.underlying23 hi _ 0 [] rfl hown rfl ?_)
    go_ret
    exact ⟨_, rfl, hown, hbel⟩
  | some ad =>
    have hnews := copy_news (h.later hbel (Nat.le_refl _))
    have HN : Hid (∀ j v, (xs.map (Value.int .u32))[j]? = some v → w.cell? (ad.add j) = some v) := hnews
    have HLn : Hid ((xs.map (Value.int .u32)).length = n * 1) := by show _ = _; simp [hl]
    clear hnews h hl
    go_enter Tryz.func114, Tryz.ntmps114
    go_wp2_with (at_builtin; refine wpList_append_own _ rfl _ _ 23 rfl w.heap.size 88 i0 (.int .u32 0) 1 4 Tryz.underlying23 hi hz0 hz1 hz2 rfl (by decide) _ 0 [] rfl hown ad n cap (xs.map (Value.int .u32)) rfl HLn.out HN.out (ints_oneCell _ _) (by unfold maxLen; omega) (by omega) (by simp) ?_)
    intro v' w1 hown' hgrow _
    have hb2 : Below w.heap.size w w1 := hbel.grown hgrow (Nat.le_refl _) (fun k hk => by simp [Value.ownBlock] at hk)
    go_wp2
    go_ret
    exact ⟨_, rfl, hown', hb2⟩


theorem copied3_sl (v : Value) (xs : List Int) (w : World) (h : Sl w v xs) (hn : xs.length ≤ 1099511627776) :
    Calls Tryz.prog 114 #[v] w fun e w' => ∃ v', e = .returned v' ∧ w'.ownsRow w.heap.size 88 1 v' xs.length (xs.map (Value.int .u32)) ∧ Below w.heap.size w w' := by
  obtain ⟨a, cap, rfl, hr⟩ := h
  exact copied3_any a xs.length cap xs w hr hn

set_option maxHeartbeats 6400000 in
set_option maxRecDepth 100000 in
theorem opposite_p (a : Option Addr) (ca : Nat) (xs : List Int) (b : Option Addr) (cb : Nat) (ys : List Int) (w : World) (sx : Sl w (.slice a xs.length ca) xs) (sy : Sl w (.slice b ys.length cb) ys) (lx : xs.length ≤ 1099511627776) (ly : ys.length ≤ 1099511627776)  :
    Calls Tryz.prog 90 #[.agg #[.bool false, .slice a xs.length ca, .slice b ys.length cb]] w fun e w' => ∃ g1 c1 g2 c2, e = .returned (.agg #[.bool (decide (0 < xs.length)), .slice g1 xs.length c1, .slice g2 ys.length c2]) ∧ w'.ownsRow w.heap.size 88 1 (.slice g1 xs.length c1) xs.length (xs.map (Value.int .u32)) ∧ w'.ownsRow w.heap.size 88 1 (.slice g2 ys.length c2) ys.length (ys.map (Value.int .u32)) ∧ Below w.heap.size w w' := by
  have HB : Hid (Below w.heap.size w ((w.alloc (.cells #[.bool false, .slice a xs.length ca, .slice b ys.length cb] 25)).alloc (.cells #[.bool false, .slice none 0 0, .slice none 0 0] 25))) := bt (alloc_later _ _) (alloc_later _ _)
  have HA : Hid (Box ((w.alloc (.cells #[.bool false, .slice a xs.length ca, .slice b ys.length cb] 25)).alloc (.cells #[.bool false, .slice none 0 0, .slice none 0 0] 25)) w.heap.size 25 #[.bool false, .slice a xs.length ca, .slice b ys.length cb]) := Box.later (Box.made w _ _) (alloc_later _ _) (by simp)
  have HZ : Hid (Box ((w.alloc (.cells #[.bool false, .slice a xs.length ca, .slice b ys.length cb] 25)).alloc (.cells #[.bool false, .slice none 0 0, .slice none 0 0] 25)) (w.heap.size + 1) 25 #[.bool false, .slice none 0 0, .slice none 0 0]) := by
    have e := Box.made (w.alloc (.cells #[.bool false, .slice a xs.length ca, .slice b ys.length cb] 25)) 25 #[.bool false, .slice none 0 0, .slice none 0 0]
    simp at e
    exact e
  have HS := hid (And.intro (sx.later HB.out) (sy.later HB.out))
  clear sx sy
  go_enter Tryz.func90, Tryz.ntmps90
  go_wp2_with fail
  generalize ((w.alloc (.cells #[.bool false, .slice a xs.length ca, .slice b ys.length cb] 25)).alloc (.cells #[.bool false, .slice none 0 0, .slice none 0 0] 25)) = X at *
  have HK : Hid (∀ V, Below X.heap.size X V → (V.cell? ⟨w.heap.size, 0, none⟩ = some (.bool false) ∧ V.cell? ⟨w.heap.size, 1, none⟩ = some (.slice a xs.length ca) ∧ V.cell? ⟨w.heap.size, 2, none⟩ = some (.slice b ys.length cb))) := fun V hb => by
    obtain ⟨p0, p1, p2, _, _, _⟩ := res_box3 HA.out hb
    exact ⟨p0, p1, p2⟩
  have hs0 := HK.out _ (Below.drew (Below.refl _ X))
  have HL1 : Hid (∀ V, Below X.heap.size X V → Calls Tryz.prog 114 #[.slice a xs.length ca] V fun e V' => ∃ g cap, e = .returned (.slice g xs.length cap) ∧ Hid (V'.ownsRow X.heap.size 88 1 (.slice g xs.length cap) xs.length (xs.map (Value.int .u32)) ∧ Below V.heap.size V V' ∧ Below X.heap.size X V') ∧ (V'.cell? ⟨w.heap.size, 0, none⟩ = some (.bool false) ∧ V'.cell? ⟨w.heap.size, 1, none⟩ = some (.slice a xs.length ca) ∧ V'.cell? ⟨w.heap.size, 2, none⟩ = some (.slice b ys.length cb)) ∧ V'.cell? ⟨w.heap.size + 1, 0, none⟩ = some (.bool false) ∧ V'.cell? ⟨w.heap.size + 1, 1, none⟩ = some (.slice none 0 0) ∧ V'.cell? ⟨w.heap.size + 1, 2, none⟩ = some (.slice none 0 0) ∧ V'.frozen? ⟨w.heap.size + 1, 0, none⟩ = false ∧ V'.frozen? ⟨w.heap.size + 1, 1, none⟩ = false ∧ V'.frozen? ⟨w.heap.size + 1, 2, none⟩ = false) := fun V hb => by
    refine Calls.mono (copied3_sl _ xs _ (HS.out.1.later hb) lx) ?_
    rintro e V' ⟨v1, rfl, o1, hb1⟩
    obtain ⟨g, cap, hv⟩ := own_slice' o1
    subst hv
    have hbX : Below X.heap.size X V' := bt hb hb1
    exact ⟨g, cap, rfl, ⟨owns_base o1 hb.size, hb1, hbX⟩, HK.out V' hbX, res_box3 HZ.out hbX⟩
  have HL2 : Hid (∀ V, Below X.heap.size X V → Calls Tryz.prog 114 #[.slice b ys.length cb] V fun e V' => ∃ g cap, e = .returned (.slice g ys.length cap) ∧ Hid (V'.ownsRow X.heap.size 88 1 (.slice g ys.length cap) ys.length (ys.map (Value.int .u32)) ∧ Below V.heap.size V V' ∧ Below X.heap.size X V') ∧ (V'.cell? ⟨w.heap.size, 0, none⟩ = some (.bool false) ∧ V'.cell? ⟨w.heap.size, 1, none⟩ = some (.slice a xs.length ca) ∧ V'.cell? ⟨w.heap.size, 2, none⟩ = some (.slice b ys.length cb)) ∧ V'.cell? ⟨w.heap.size + 1, 0, none⟩ = some (.bool false) ∧ V'.cell? ⟨w.heap.size + 1, 1, none⟩ = some (.slice none 0 0) ∧ V'.cell? ⟨w.heap.size + 1, 2, none⟩ = some (.slice none 0 0) ∧ V'.frozen? ⟨w.heap.size + 1, 0, none⟩ = false ∧ V'.frozen? ⟨w.heap.size + 1, 1, none⟩ = false ∧ V'.frozen? ⟨w.heap.size + 1, 2, none⟩ = false) := fun V hb => by
    refine Calls.mono (copied3_sl _ ys _ (HS.out.2.later hb) ly) ?_
    rintro e V' ⟨v1, rfl, o1, hb1⟩
    obtain ⟨g, cap, hv⟩ := own_slice' o1
    subst hv
    have hbX : Below X.heap.size X V' := bt hb hb1
    exact ⟨g, cap, rfl, ⟨owns_base o1 hb.size, hb1, hbX⟩, HK.out V' hbX, res_box3 HZ.out hbX⟩
  clear HS HA
  go_region_held3 (fun V : World => (V.cell? ⟨w.heap.size, 0, none⟩ = some (.bool false) ∧ V.cell? ⟨w.heap.size, 1, none⟩ = some (.slice a xs.length ca) ∧ V.cell? ⟨w.heap.size, 2, none⟩ = some (.slice b ys.length cb))) (first | exact hs2 | exact hs1 | exact hs0 | (simp [hs2, World.cell?_setCell_far]))
    (first
      | (go_at_call 114; with_reducible refine Calls.mono (HL2.out _ HE1.out.2.2) ?_; rintro e w2 ⟨g2, c2, rfl, HE2, hs2, r0, r1, r2, f0, f1, f2⟩)
      | (go_at_call 114; with_reducible refine Calls.mono (HL1.out _ (Below.drew (Below.refl _ X))) ?_; rintro e w1 ⟨g1, c1, rfl, HE1, hs1, y0, y1, y2, z0, z1, z2⟩))
  all_goals
    have HZ2 := hid (HZ.out.later HE2.out.2.2 HZ.out.lt)
    have HO1 := hid (own_put3 (owns_base (owns_later HE1.out.1 HE2.out.2.1) HB.out.size) (w.heap.size + 1) (own_ne_box (owns_later HE1.out.1 HE2.out.2.1) HZ2.out (by decide)) (.bool (decide (0 < xs.length))) (.slice g1 xs.length c1) (.slice g2 ys.length c2))
    have HO2 := hid (own_put3 (owns_base HE2.out.1 HB.out.size) (w.heap.size + 1) (own_ne_box HE2.out.1 HZ2.out (by decide)) (.bool (decide (0 < xs.length))) (.slice g1 xs.length c1) (.slice g2 ys.length c2))
    have HBN := hid (below_put3 (bt HB.out HE2.out.2.2) (w.heap.size + 1) (by omega) (.bool (decide (0 < xs.length))) (.slice g1 xs.length c1) (.slice g2 ys.length c2))
    clear HK HL1 HL2 HE1 HE2 HZ HB HZ2 hs0 hs1 hs2 y0 y1 y2 z0 z1 z2
    go_wp2_with fail
    refine bodyPost_ret (v := .agg #[.bool (decide (0 < xs.length)), .slice g1 xs.length c1, .slice g2 ys.length c2]) (by simp [results, Tryz.results90, go_sem, r0, r1, r2]) rfl ?_
    exact ⟨g1, c1, g2, c2, rfl, HO1.out, HO2.out, HBN.out⟩

/-- The sign of the opposite. -/
def oneg (n : Bool) (xs : List Int) : Bool := !n && decide (0 < xs.length)
theorem opp_chk {n : Bool} {xs ys : List Int} (h : rchk n xs ys = 0) : rchk (oneg n xs) xs ys = 0 := by
  obtain ⟨lx, ly, tx, ty, y0, s0, g⟩ := rchk_ok h
  refine rchk_good lx ly tx ty y0 ?_ g
  unfold oneg
  by_cases c : 0 < xs.length
  · exact .inr c
  · left; rw [decide_eq_false c, Bool.and_false]
theorem opp_q {n : Bool} {xs ys : List Int} : rq (oneg n xs) xs ys = -(rq n xs ys) := by
  rw [← rq_neg]
  unfold rq oneg
  by_cases c : 0 < xs.length
  · rw [decide_eq_true c, Bool.and_true]; rfl
  · have e : xs = [] := List.length_eq_zero_iff.1 (by omega)
    subst e
    congr 1
    cases n <;> simp [wval, sg, val, valTo]
end Go.Proofs.YtabkgpnckaaclaaGreatDoor

/- The document's opposite of a fraction below 0. -/
namespace Go.Proofs.YtabkgpnckaaclaaGreatDoor
open Go.RowKit
set_option linter.unusedVariables false

set_option maxHeartbeats 6400000 in
set_option maxRecDepth 100000 in
theorem opposite_n (a : Option Addr) (ca : Nat) (xs : List Int) (b : Option Addr) (cb : Nat) (ys : List Int) (w : World) (sx : Sl w (.slice a xs.length ca) xs) (sy : Sl w (.slice b ys.length cb) ys) (lx : xs.length ≤ 1099511627776) (ly : ys.length ≤ 1099511627776)  :
    Calls Tryz.prog 90 #[.agg #[.bool true, .slice a xs.length ca, .slice b ys.length cb]] w fun e w' => ∃ g1 c1 g2 c2, e = .returned (.agg #[.bool false, .slice g1 xs.length c1, .slice g2 ys.length c2]) ∧ w'.ownsRow w.heap.size 88 1 (.slice g1 xs.length c1) xs.length (xs.map (Value.int .u32)) ∧ w'.ownsRow w.heap.size 88 1 (.slice g2 ys.length c2) ys.length (ys.map (Value.int .u32)) ∧ Below w.heap.size w w' := by
  have HB : Hid (Below w.heap.size w ((w.alloc (.cells #[.bool true, .slice a xs.length ca, .slice b ys.length cb] 25)).alloc (.cells #[.bool false, .slice none 0 0, .slice none 0 0] 25))) := bt (alloc_later _ _) (alloc_later _ _)
  have HA : Hid (Box ((w.alloc (.cells #[.bool true, .slice a xs.length ca, .slice b ys.length cb] 25)).alloc (.cells #[.bool false, .slice none 0 0, .slice none 0 0] 25)) w.heap.size 25 #[.bool true, .slice a xs.length ca, .slice b ys.length cb]) := Box.later (Box.made w _ _) (alloc_later _ _) (by simp)
  have HZ : Hid (Box ((w.alloc (.cells #[.bool true, .slice a xs.length ca, .slice b ys.length cb] 25)).alloc (.cells #[.bool false, .slice none 0 0, .slice none 0 0] 25)) (w.heap.size + 1) 25 #[.bool false, .slice none 0 0, .slice none 0 0]) := by
    have e := Box.made (w.alloc (.cells #[.bool true, .slice a xs.length ca, .slice b ys.length cb] 25)) 25 #[.bool false, .slice none 0 0, .slice none 0 0]
    simp at e
    exact e
  have HS := hid (And.intro (sx.later HB.out) (sy.later HB.out))
  clear sx sy
  go_enter Tryz.func90, Tryz.ntmps90
  go_wp2_with fail
  generalize ((w.alloc (.cells #[.bool true, .slice a xs.length ca, .slice b ys.length cb] 25)).alloc (.cells #[.bool false, .slice none 0 0, .slice none 0 0] 25)) = X at *
  have HK : Hid (∀ V, Below X.heap.size X V → (V.cell? ⟨w.heap.size, 0, none⟩ = some (.bool true) ∧ V.cell? ⟨w.heap.size, 1, none⟩ = some (.slice a xs.length ca) ∧ V.cell? ⟨w.heap.size, 2, none⟩ = some (.slice b ys.length cb))) := fun V hb => by
    obtain ⟨p0, p1, p2, _, _, _⟩ := res_box3 HA.out hb
    exact ⟨p0, p1, p2⟩
  have hs0 := HK.out _ (Below.drew (Below.refl _ X))
  have HL1 : Hid (∀ V, Below X.heap.size X V → Calls Tryz.prog 114 #[.slice a xs.length ca] V fun e V' => ∃ g cap, e = .returned (.slice g xs.length cap) ∧ Hid (V'.ownsRow X.heap.size 88 1 (.slice g xs.length cap) xs.length (xs.map (Value.int .u32)) ∧ Below V.heap.size V V' ∧ Below X.heap.size X V') ∧ (V'.cell? ⟨w.heap.size, 0, none⟩ = some (.bool true) ∧ V'.cell? ⟨w.heap.size, 1, none⟩ = some (.slice a xs.length ca) ∧ V'.cell? ⟨w.heap.size, 2, none⟩ = some (.slice b ys.length cb)) ∧ V'.cell? ⟨w.heap.size + 1, 0, none⟩ = some (.bool false) ∧ V'.cell? ⟨w.heap.size + 1, 1, none⟩ = some (.slice none 0 0) ∧ V'.cell? ⟨w.heap.size + 1, 2, none⟩ = some (.slice none 0 0) ∧ V'.frozen? ⟨w.heap.size + 1, 0, none⟩ = false ∧ V'.frozen? ⟨w.heap.size + 1, 1, none⟩ = false ∧ V'.frozen? ⟨w.heap.size + 1, 2, none⟩ = false) := fun V hb => by
    refine Calls.mono (copied3_sl _ xs _ (HS.out.1.later hb) lx) ?_
    rintro e V' ⟨v1, rfl, o1, hb1⟩
    obtain ⟨g, cap, hv⟩ := own_slice' o1
    subst hv
    have hbX : Below X.heap.size X V' := bt hb hb1
    exact ⟨g, cap, rfl, ⟨owns_base o1 hb.size, hb1, hbX⟩, HK.out V' hbX, res_box3 HZ.out hbX⟩
  have HL2 : Hid (∀ V, Below X.heap.size X V → Calls Tryz.prog 114 #[.slice b ys.length cb] V fun e V' => ∃ g cap, e = .returned (.slice g ys.length cap) ∧ Hid (V'.ownsRow X.heap.size 88 1 (.slice g ys.length cap) ys.length (ys.map (Value.int .u32)) ∧ Below V.heap.size V V' ∧ Below X.heap.size X V') ∧ (V'.cell? ⟨w.heap.size, 0, none⟩ = some (.bool true) ∧ V'.cell? ⟨w.heap.size, 1, none⟩ = some (.slice a xs.length ca) ∧ V'.cell? ⟨w.heap.size, 2, none⟩ = some (.slice b ys.length cb)) ∧ V'.cell? ⟨w.heap.size + 1, 0, none⟩ = some (.bool false) ∧ V'.cell? ⟨w.heap.size + 1, 1, none⟩ = some (.slice none 0 0) ∧ V'.cell? ⟨w.heap.size + 1, 2, none⟩ = some (.slice none 0 0) ∧ V'.frozen? ⟨w.heap.size + 1, 0, none⟩ = false ∧ V'.frozen? ⟨w.heap.size + 1, 1, none⟩ = false ∧ V'.frozen? ⟨w.heap.size + 1, 2, none⟩ = false) := fun V hb => by
    refine Calls.mono (copied3_sl _ ys _ (HS.out.2.later hb) ly) ?_
    rintro e V' ⟨v1, rfl, o1, hb1⟩
    obtain ⟨g, cap, hv⟩ := own_slice' o1
    subst hv
    have hbX : Below X.heap.size X V' := bt hb hb1
    exact ⟨g, cap, rfl, ⟨owns_base o1 hb.size, hb1, hbX⟩, HK.out V' hbX, res_box3 HZ.out hbX⟩
  clear HS HA
  refine wp_region_noPanic ?_
  refine wp_region_held_drew (S := (fun V : World => (V.cell? ⟨w.heap.size, 0, none⟩ = some (.bool true) ∧ V.cell? ⟨w.heap.size, 1, none⟩ = some (.slice a xs.length ca) ∧ V.cell? ⟨w.heap.size, 2, none⟩ = some (.slice b ys.length cb)))) (by kernel_rfl) ?_ (fun hHeld => ?_)
  · exact hs0
  refine wpAnyH_take (i := 0) (oi := { dst := some 3, op := Op.fieldAddr 25 (Operand.tmp 1) 0, type := 0, pos := "ref.go:162", after := #[], guard := none }) (v := ?_) rfl (by kernel_rfl) (by kernel_rfl) (by kernel_rfl) (fun _ _ _ h => h) (Or.inl ⟨by rfl, ?_⟩) (by assumption) ?_
  rotate_left 1
  · intro V hSw
    try dsimp only at hSw
    go_simp
    try with_reducible rfl
  try simp only [Act.put, List.setIfInBounds_toArray, List.set_cons_zero, List.set_cons_succ]
  refine wpAnyH_take (i := 1) (oi := { dst := some 4, op := Op.load 4 (Operand.tmp 3), type := 4, pos := "ref.go:162", after := #[{ on := 0, ground := Ground.data }], guard := none }) (v := ?_) rfl (by kernel_rfl) (by kernel_rfl) (by kernel_rfl) (fun _ _ _ h => h) (Or.inl ⟨by rfl, ?_⟩) (by assumption) ?_
  rotate_left 1
  · intro V hSw
    try dsimp only at hSw
    go_simp
    try with_reducible rfl
  try simp only [Act.put, List.setIfInBounds_toArray, List.set_cons_zero, List.set_cons_succ]
  refine wpAnyH_take (i := 2) (oi := { dst := some 5, op := Op.unOp UnOp.not 4 (Operand.tmp 4), type := 4, pos := "ref.go:162", after := #[{ on := 1, ground := Ground.data }], guard := none }) (v := ?_) rfl (by kernel_rfl) (by kernel_rfl) (by kernel_rfl) (fun _ _ _ h => h) (Or.inl ⟨by rfl, ?_⟩) (by assumption) ?_
  rotate_left 1
  · intro V hSw
    try dsimp only at hSw
    go_simp
    try with_reducible rfl
  try simp only [Act.put, List.setIfInBounds_toArray, List.set_cons_zero, List.set_cons_succ]
  refine wpAnyH_take (i := 3) (oi := { dst := some 6, op := Op.move (Operand.tmp 5), type := 4, pos := "ref.go:162", after := #[{ on := 2, ground := Ground.data }], guard := none }) (v := ?_) rfl (by kernel_rfl) (by kernel_rfl) (by kernel_rfl) (fun _ _ _ h => h) (Or.inl ⟨by rfl, ?_⟩) (by assumption) ?_
  rotate_left 1
  · intro V hSw
    try dsimp only at hSw
    go_simp
    try with_reducible rfl
  try simp only [Act.put, List.setIfInBounds_toArray, List.set_cons_zero, List.set_cons_succ]
  refine wpAnyH_take (i := 4) (oi := { dst := some 7, op := Op.fieldAddr 25 (Operand.tmp 1) 1, type := 0, pos := "ref.go:162", after := #[{ on := 3, ground := Ground.guard }], guard := some (3, true) }) (v := undef) rfl (by kernel_rfl) (by kernel_rfl) (by kernel_rfl) (fun _ _ _ h => h) (Or.inr ⟨by rfl, rfl⟩) (by assumption) ?_
  try simp only [Act.put, List.setIfInBounds_toArray, List.set_cons_zero, List.set_cons_succ]
  refine wpAnyH_take (i := 5) (oi := { dst := some 8, op := Op.load 23 (Operand.tmp 7), type := 23, pos := "ref.go:162", after := #[{ on := 4, ground := Ground.data }, { on := 3, ground := Ground.guard }], guard := some (3, true) }) (v := undef) rfl (by kernel_rfl) (by kernel_rfl) (by kernel_rfl) (fun _ _ _ h => h) (Or.inr ⟨by rfl, rfl⟩) (by assumption) ?_
  try simp only [Act.put, List.setIfInBounds_toArray, List.set_cons_zero, List.set_cons_succ]
  refine wpAnyH_take (i := 6) (oi := { dst := some 9, op := Op.call { callee := Callee.builtin Builtin.len, args := #[Operand.tmp 8], argTypes := #[23] }, type := 3, pos := "ref.go:162", after := #[{ on := 5, ground := Ground.data }, { on := 3, ground := Ground.guard }], guard := some (3, true) }) (v := undef) rfl (by kernel_rfl) (by kernel_rfl) (by kernel_rfl) (fun _ _ _ h => h) (Or.inr ⟨by rfl, rfl⟩) (by assumption) ?_
  try simp only [Act.put, List.setIfInBounds_toArray, List.set_cons_zero, List.set_cons_succ]
  refine wpAnyH_take (i := 7) (oi := { dst := some 10, op := Op.binOp BinOp.gtr 3 (Operand.tmp 9) (Operand.const (Value.int IntKind.i64 0)) 3, type := 4, pos := "ref.go:162", after := #[{ on := 6, ground := Ground.data }, { on := 3, ground := Ground.guard }], guard := some (3, true) }) (v := undef) rfl (by kernel_rfl) (by kernel_rfl) (by kernel_rfl) (fun _ _ _ h => h) (Or.inr ⟨by rfl, rfl⟩) (by assumption) ?_
  try simp only [Act.put, List.setIfInBounds_toArray, List.set_cons_zero, List.set_cons_succ]
  refine wpAnyH_take (i := 8) (oi := { dst := some 11, op := Op.pick (Operand.tmp 6) (Operand.tmp 10) (Operand.const (Value.bool false)), type := 4, pos := "ref.go:162", after := #[{ on := 3, ground := Ground.data }, { on := 7, ground := Ground.data }], guard := none }) (v := ?_) rfl (by kernel_rfl) (by kernel_rfl) (by kernel_rfl) (fun _ _ _ h => h) (Or.inl ⟨by rfl, ?_⟩) (by assumption) ?_
  rotate_left 1
  · intro V hSw
    try dsimp only at hSw
    go_simp
    try with_reducible rfl
  try simp only [Act.put, List.setIfInBounds_toArray, List.set_cons_zero, List.set_cons_succ]
  refine wpAnyH_take (i := 9) (oi := { dst := some 12, op := Op.fieldAddr 25 (Operand.tmp 1) 1, type := 0, pos := "ref.go:162", after := #[], guard := none }) (v := ?_) rfl (by kernel_rfl) (by kernel_rfl) (by kernel_rfl) (fun _ _ _ h => h) (Or.inl ⟨by rfl, ?_⟩) (by assumption) ?_
  rotate_left 1
  · intro V hSw
    try dsimp only at hSw
    go_simp
    try with_reducible rfl
  try simp only [Act.put, List.setIfInBounds_toArray, List.set_cons_zero, List.set_cons_succ]
  refine wpAnyH_take (i := 10) (oi := { dst := some 13, op := Op.load 23 (Operand.tmp 12), type := 23, pos := "ref.go:162", after := #[{ on := 9, ground := Ground.data }], guard := none }) (v := ?_) rfl (by kernel_rfl) (by kernel_rfl) (by kernel_rfl) (fun _ _ _ h => h) (Or.inl ⟨by rfl, ?_⟩) (by assumption) ?_
  rotate_left 1
  · intro V hSw
    try dsimp only at hSw
    go_simp
    try with_reducible rfl
  try simp only [Act.put, List.setIfInBounds_toArray, List.set_cons_zero, List.set_cons_succ]
  refine wpAnyH_take (i := 12) (oi := { dst := some 15, op := Op.fieldAddr 25 (Operand.tmp 1) 2, type := 0, pos := "ref.go:162", after := #[], guard := none }) (v := ?_) rfl (by kernel_rfl) (by kernel_rfl) (by kernel_rfl) (fun _ _ _ h => h) (Or.inl ⟨by rfl, ?_⟩) (by assumption) ?_
  rotate_left 1
  · intro V hSw
    try dsimp only at hSw
    go_simp
    try with_reducible rfl
  try simp only [Act.put, List.setIfInBounds_toArray, List.set_cons_zero, List.set_cons_succ]
  refine wpAnyH_take (i := 13) (oi := { dst := some 16, op := Op.load 23 (Operand.tmp 15), type := 23, pos := "ref.go:162", after := #[{ on := 12, ground := Ground.data }], guard := none }) (v := ?_) rfl (by kernel_rfl) (by kernel_rfl) (by kernel_rfl) (fun _ _ _ h => h) (Or.inl ⟨by rfl, ?_⟩) (by assumption) ?_
  rotate_left 1
  · intro V hSw
    try dsimp only at hSw
    go_simp
    try with_reducible rfl
  try simp only [Act.put, List.setIfInBounds_toArray, List.set_cons_zero, List.set_cons_succ]
  refine wpAnyH_ready (rs := [11]) (by kernel_rfl) (by simp) ?_
  refine AllReadyH.cons (o := { dst := some 14, op := Op.call { callee := Callee.value (Operand.func 114), args := #[Operand.tmp 13], argTypes := #[23] }, type := 23, pos := "ref.go:162", after := #[{ on := 10, ground := Ground.data }, { on := 3, ground := Ground.chain }], guard := none }) rfl (fun K hK => ?_) AllReadyH.nil
  go_simp
  refine Calls.mono (HL1.out _ (Below.drew (Below.refl _ X))) ?_
  rintro e w1 ⟨g1, c1, rfl, HE1, hs1, y0, y1, y2, z0, z1, z2⟩
  dsimp only
  refine hK.out _ _ ?_ (fun hHeld => ?_)
  · exact hs1
  clear hK K
  try simp only [Act.put, List.setIfInBounds_toArray, List.set_cons_zero, List.set_cons_succ]
  refine wpAnyH_ready (rs := [14]) (by kernel_rfl) (by simp) ?_
  refine AllReadyH.cons (o := { dst := some 17, op := Op.call { callee := Callee.value (Operand.func 114), args := #[Operand.tmp 16], argTypes := #[23] }, type := 23, pos := "ref.go:162", after := #[{ on := 13, ground := Ground.data }, { on := 11, ground := Ground.chain }], guard := none }) rfl (fun K hK => ?_) AllReadyH.nil
  go_simp
  refine Calls.mono (HL2.out _ HE1.out.2.2) ?_
  rintro e w2 ⟨g2, c2, rfl, HE2, hs2, r0, r1, r2, f0, f1, f2⟩
  dsimp only
  refine hK.out _ _ ?_ (fun hHeld => ?_)
  · exact hs2
  clear hK K
  try simp only [Act.put, List.setIfInBounds_toArray, List.set_cons_zero, List.set_cons_succ]
  refine wpAnyH_take (i := 15) (oi := { dst := some 18, op := Op.build 25 #[(0, Operand.tmp 11), (1, Operand.tmp 14), (2, Operand.tmp 17)], type := 25, pos := "ref.go:162", after := #[{ on := 8, ground := Ground.data }, { on := 11, ground := Ground.data }, { on := 14, ground := Ground.data }], guard := none }) (v := ?_) rfl (by kernel_rfl) (by kernel_rfl) (by kernel_rfl) (fun _ _ _ h => h) (Or.inl ⟨by rfl, ?_⟩) (by assumption) ?_
  rotate_left 1
  · intro V hSw
    try dsimp only at hSw
    go_simp
    try with_reducible rfl
  try simp only [Act.put, List.setIfInBounds_toArray, List.set_cons_zero, List.set_cons_succ]
  refine wpAnyH_ready (rs := [16]) (by kernel_rfl) (by simp) ?_
  refine AllReadyH.cons (o := { dst := none, op := Op.store 25 (Operand.tmp 2) (Operand.tmp 18), type := 0, pos := "ref.go:162", after := #[{ on := 15, ground := Ground.data }, { on := 14, ground := Ground.chain }, { on := 0, ground := Ground.phase }, { on := 1, ground := Ground.phase }, { on := 2, ground := Ground.phase }, { on := 3, ground := Ground.phase }, { on := 4, ground := Ground.phase }, { on := 5, ground := Ground.phase }, { on := 6, ground := Ground.phase }, { on := 7, ground := Ground.phase }, { on := 8, ground := Ground.phase }, { on := 9, ground := Ground.phase }, { on := 10, ground := Ground.phase }, { on := 11, ground := Ground.phase }, { on := 12, ground := Ground.phase }, { on := 13, ground := Ground.phase }, { on := 14, ground := Ground.phase }, { on := 15, ground := Ground.phase }], guard := none }) rfl (fun K hK => ?_) AllReadyH.nil
  go_simp
  refine hK.out _ _ ?_ (fun hHeld => ?_)
  · simp [hs2, World.cell?_setCell_far]
  clear hK K
  try simp only [Act.put, List.setIfInBounds_toArray, List.set_cons_zero, List.set_cons_succ]
  refine wpAnyH_done (by kernel_rfl) ?_ _
  refine NoPanic.normal ?_
  all_goals
    have HZ2 := hid (HZ.out.later HE2.out.2.2 HZ.out.lt)
    have HO1 := hid (own_put3 (owns_base (owns_later HE1.out.1 HE2.out.2.1) HB.out.size) (w.heap.size + 1) (own_ne_box (owns_later HE1.out.1 HE2.out.2.1) HZ2.out (by decide)) (.bool false) (.slice g1 xs.length c1) (.slice g2 ys.length c2))
    have HO2 := hid (own_put3 (owns_base HE2.out.1 HB.out.size) (w.heap.size + 1) (own_ne_box HE2.out.1 HZ2.out (by decide)) (.bool false) (.slice g1 xs.length c1) (.slice g2 ys.length c2))
    have HBN := hid (below_put3 (bt HB.out HE2.out.2.2) (w.heap.size + 1) (by omega) (.bool false) (.slice g1 xs.length c1) (.slice g2 ys.length c2))
    clear HK HL1 HL2 HE1 HE2 HZ HB HZ2 hs0 hs1 hs2 y0 y1 y2 z0 z1 z2
    go_wp2_with fail
    refine bodyPost_ret (v := .agg #[.bool false, .slice g1 xs.length c1, .slice g2 ys.length c2]) (by simp [results, Tryz.results90, go_sem, r0, r1, r2]) rfl ?_
    exact ⟨g1, c1, g2, c2, rfl, HO1.out, HO2.out, HBN.out⟩


theorem opposite3_any (n : Bool) (a : Option Addr) (ca : Nat) (xs : List Int) (b : Option Addr) (cb : Nat) (ys : List Int) (w : World) (sx : Sl w (.slice a xs.length ca) xs) (sy : Sl w (.slice b ys.length cb) ys) (lx : xs.length ≤ 1099511627776) (ly : ys.length ≤ 1099511627776) :
    Calls Tryz.prog 90 #[.agg #[.bool n, .slice a xs.length ca, .slice b ys.length cb]] w fun e w' => ∃ g1 c1 g2 c2, e = .returned (.agg #[.bool (oneg n xs), .slice g1 xs.length c1, .slice g2 ys.length c2]) ∧ w'.ownsRow w.heap.size 88 1 (.slice g1 xs.length c1) xs.length (xs.map (Value.int .u32)) ∧ w'.ownsRow w.heap.size 88 1 (.slice g2 ys.length c2) ys.length (ys.map (Value.int .u32)) ∧ Below w.heap.size w w' := by
  cases n with
  | true => exact opposite_n a ca xs b cb ys w sx sy lx ly
  | false => exact opposite_p a ca xs b cb ys w sx sy lx ly

end Go.Proofs.YtabkgpnckaaclaaGreatDoor

/- The document's own fractions: Neg, Sub: of any fractions, good or refused. -/
namespace Go.Proofs.YtabkgpnckaaclaaGreatDoor
open Go.RowKit
set_option linter.unusedVariables false

theorem rtells_own {n : Bool} {xs ys : List Int} (wx : Wd xs) (wy : Wd ys) (h : rchk n xs ys = 0) : RTells 0 (rq n xs ys) n xs ys 0 := by
  obtain ⟨lx, ly, tx, ty, y0, s0, g⟩ := rchk_ok h
  obtain ⟨m, us, vs, c, e1, e2, e3, r⟩ := rtells_of (n := n) wx tx wy ty (val_pos' wy ty y0) g
  have e4 := e1 none 0 none 0
  unfold rtoldV at e4
  rw [if_neg (by omega)] at e4
  have hc : c = 0 := by
    simp at e4
    exact e4.2.symm
  subst hc
  have hm : (n && decide (0 < xs.length)) = n := by
    rcases s0 with rfl | s0
    · rfl
    · rw [decide_eq_true s0, Bool.and_true]
  rw [hm] at e4
  have hn : n = m := by simp at e4; exact e4
  subst hn
  rw [if_pos rfl] at e2 e3
  subst e2 e3
  exact r

set_option maxHeartbeats 3200000 in
set_option maxRecDepth 100000 in
theorem dSub_err (n : Bool) (a : Option Addr) (ca : Nat) (xs : List Int) (b : Option Addr) (cb : Nat) (ys : List Int) (m : Bool) (c : Option Addr) (cc : Nat) (us : List Int) (d : Option Addr) (cd : Nat) (vs : List Int) (w : World) (sx : Sl w (.slice a xs.length ca) xs) (sy : Sl w (.slice b ys.length cb) ys) (su : Sl w (.slice c us.length cc) us) (sv : Sl w (.slice d vs.length cd) vs) (hlx : xs.length ≤ 281474976710656) (hly : ys.length ≤ 281474976710656) (hlu : us.length ≤ 281474976710656) (hlv : vs.length ≤ 281474976710656) (he : rboth n xs ys m us vs ≠ 0) (q : Rat) :
    Calls Tryz.prog 47 #[.agg #[.bool n, .slice a xs.length ca, .slice b ys.length cb], .agg #[.bool m, .slice c us.length cc, .slice d vs.length cd]] w (RTold w (rboth n xs ys m us vs) q) := by
  have HB : Hid (Below w.heap.size w (((w.alloc (.cells #[.bool n, .slice a xs.length ca, .slice b ys.length cb] 25)).alloc (.cells #[.bool m, .slice c us.length cc, .slice d vs.length cd] 25)).alloc (.cells #[.bool false, .slice none 0 0, .slice none 0 0] 25))) := bt (bt (alloc_later _ _) (alloc_later _ _)) (alloc_later _ _)
  have HZ : Hid (Box (((w.alloc (.cells #[.bool n, .slice a xs.length ca, .slice b ys.length cb] 25)).alloc (.cells #[.bool m, .slice c us.length cc, .slice d vs.length cd] 25)).alloc (.cells #[.bool false, .slice none 0 0, .slice none 0 0] 25)) (w.heap.size + 1 + 1) 25 #[.bool false, .slice none 0 0, .slice none 0 0]) := by
    have e := Box.made ((w.alloc (.cells #[.bool n, .slice a xs.length ca, .slice b ys.length cb] 25)).alloc (.cells #[.bool m, .slice c us.length cc, .slice d vs.length cd] 25)) 25 #[.bool false, .slice none 0 0, .slice none 0 0]
    simp at e
    exact e
  have HN : Hid (Box (((w.alloc (.cells #[.bool n, .slice a xs.length ca, .slice b ys.length cb] 25)).alloc (.cells #[.bool m, .slice c us.length cc, .slice d vs.length cd] 25)).alloc (.cells #[.bool false, .slice none 0 0, .slice none 0 0] 25)) w.heap.size 25 #[.bool n, .slice a xs.length ca, .slice b ys.length cb]) := Box.later (Box.made w _ _) (bt (alloc_later _ _) (alloc_later _ _)) (by simp)
  have HM : Hid (Box (((w.alloc (.cells #[.bool n, .slice a xs.length ca, .slice b ys.length cb] 25)).alloc (.cells #[.bool m, .slice c us.length cc, .slice d vs.length cd] 25)).alloc (.cells #[.bool false, .slice none 0 0, .slice none 0 0] 25)) (w.heap.size + 1) 25 #[.bool m, .slice c us.length cc, .slice d vs.length cd]) := by
    have e := Box.later (Box.made (w.alloc (.cells #[.bool n, .slice a xs.length ca, .slice b ys.length cb] 25)) 25 #[.bool m, .slice c us.length cc, .slice d vs.length cd]) (alloc_later ((w.alloc (.cells #[.bool n, .slice a xs.length ca, .slice b ys.length cb] 25)).alloc (.cells #[.bool m, .slice c us.length cc, .slice d vs.length cd] 25)) (.cells #[.bool false, .slice none 0 0, .slice none 0 0] 25)) (by simp)
    simp at e
    exact e
  have HXS : Hid (w.heap.size + 1 + 1 < (((w.alloc (.cells #[.bool n, .slice a xs.length ca, .slice b ys.length cb] 25)).alloc (.cells #[.bool m, .slice c us.length cc, .slice d vs.length cd] 25)).alloc (.cells #[.bool false, .slice none 0 0, .slice none 0 0] 25)).heap.size) := HZ.out.lt
  have HSL := hid (And.intro (sx.later HB.out) (And.intro (sy.later HB.out) (And.intro (su.later HB.out) (sv.later HB.out))))
  have HC := hid (both3_any n _ _ xs _ _ ys m _ _ us _ _ vs (((w.alloc (.cells #[.bool n, .slice a xs.length ca, .slice b ys.length cb] 25)).alloc (.cells #[.bool m, .slice c us.length cc, .slice d vs.length cd] 25)).alloc (.cells #[.bool false, .slice none 0 0, .slice none 0 0] 25)) HSL.out.1 HSL.out.2.1 HSL.out.2.2.1 HSL.out.2.2.2 hlx hly hlu hlv)
  obtain ⟨E, hE⟩ : ∃ E, rboth n xs ys m us vs = E := ⟨_, rfl⟩
  rw [hE] at HC he ⊢
  have he' : (E == 0) = false := beq_eq_false_iff_ne.2 he
  have HE := hid he
  clear he hE sx sy su sv
  go_enter Tryz.func47, Tryz.ntmps47
  go_wp2_with fail
  refine Calls.mono HC.out ?_
  generalize (((w.alloc (.cells #[.bool n, .slice a xs.length ca, .slice b ys.length cb] 25)).alloc (.cells #[.bool m, .slice c us.length cc, .slice d vs.length cd] 25)).alloc (.cells #[.bool false, .slice none 0 0, .slice none 0 0] 25)) = X at *
  rintro e w1 ⟨rfl, hb1⟩
  obtain ⟨y0, y1, y2, f0, f1, f2⟩ := res_box3 HZ.out hb1
  have HBN := hid (below_put3 (bt HB.out hb1) (w.heap.size + 1 + 1) (by omega) (.bool false) (.slice none 0 0) (.slice none 0 0))
  clear hb1 HC HN HM HZ HSL
  go_wp2_with fail
  refine bodyPost_ret (v := .tuple #[.agg #[.bool false, .slice none 0 0, .slice none 0 0], .int .i64 E]) (by simp [results, Tryz.results47, go_sem, y0, y1, y2]) rfl ?_
  exact ⟨false, _, [], _, [], _, rfl, World.ownsRow_nil _ _ _ _, World.ownsRow_nil _ _ _ _, RTells.err HE.out, HBN.out⟩


set_option maxHeartbeats 6400000 in
set_option maxRecDepth 100000 in
theorem dSub_ok (n : Bool) (a : Option Addr) (ca : Nat) (xs : List Int) (b : Option Addr) (cb : Nat) (ys : List Int) (m : Bool) (c : Option Addr) (cc : Nat) (us : List Int) (d : Option Addr) (cd : Nat) (vs : List Int) (w : World) (sx : Sl w (.slice a xs.length ca) xs) (sy : Sl w (.slice b ys.length cb) ys) (su : Sl w (.slice c us.length cc) us) (sv : Sl w (.slice d vs.length cd) vs) (hlx : xs.length ≤ 281474976710656) (hly : ys.length ≤ 281474976710656) (hlu : us.length ≤ 281474976710656) (hlv : vs.length ≤ 281474976710656) (hx : rchk n xs ys = 0) (hy : rchk m us vs = 0) :
    Calls Tryz.prog 47 #[.agg #[.bool n, .slice a xs.length ca, .slice b ys.length cb], .agg #[.bool m, .slice c us.length cc, .slice d vs.length cd]] w (RTold w 0 (rq n xs ys - rq m us vs)) := by
  obtain ⟨lx, ly, tx, ty, yp, _, _⟩ := rchk_ok hx
  obtain ⟨lu, lv, tu, tv, vp, _, _⟩ := rchk_ok hy
  have wx := sx.wd
  have wy := sy.wd
  have wu := su.wd
  have wv := sv.wd
  have HB : Hid (Below w.heap.size w (((w.alloc (.cells #[.bool n, .slice a xs.length ca, .slice b ys.length cb] 25)).alloc (.cells #[.bool m, .slice c us.length cc, .slice d vs.length cd] 25)).alloc (.cells #[.bool false, .slice none 0 0, .slice none 0 0] 25))) := bt (bt (alloc_later _ _) (alloc_later _ _)) (alloc_later _ _)
  have HZ : Hid (Box (((w.alloc (.cells #[.bool n, .slice a xs.length ca, .slice b ys.length cb] 25)).alloc (.cells #[.bool m, .slice c us.length cc, .slice d vs.length cd] 25)).alloc (.cells #[.bool false, .slice none 0 0, .slice none 0 0] 25)) (w.heap.size + 1 + 1) 25 #[.bool false, .slice none 0 0, .slice none 0 0]) := by
    have e := Box.made ((w.alloc (.cells #[.bool n, .slice a xs.length ca, .slice b ys.length cb] 25)).alloc (.cells #[.bool m, .slice c us.length cc, .slice d vs.length cd] 25)) 25 #[.bool false, .slice none 0 0, .slice none 0 0]
    simp at e
    exact e
  have HN : Hid (Box (((w.alloc (.cells #[.bool n, .slice a xs.length ca, .slice b ys.length cb] 25)).alloc (.cells #[.bool m, .slice c us.length cc, .slice d vs.length cd] 25)).alloc (.cells #[.bool false, .slice none 0 0, .slice none 0 0] 25)) w.heap.size 25 #[.bool n, .slice a xs.length ca, .slice b ys.length cb]) := Box.later (Box.made w _ _) (bt (alloc_later _ _) (alloc_later _ _)) (by simp)
  have HM : Hid (Box (((w.alloc (.cells #[.bool n, .slice a xs.length ca, .slice b ys.length cb] 25)).alloc (.cells #[.bool m, .slice c us.length cc, .slice d vs.length cd] 25)).alloc (.cells #[.bool false, .slice none 0 0, .slice none 0 0] 25)) (w.heap.size + 1) 25 #[.bool m, .slice c us.length cc, .slice d vs.length cd]) := by
    have e := Box.later (Box.made (w.alloc (.cells #[.bool n, .slice a xs.length ca, .slice b ys.length cb] 25)) 25 #[.bool m, .slice c us.length cc, .slice d vs.length cd]) (alloc_later ((w.alloc (.cells #[.bool n, .slice a xs.length ca, .slice b ys.length cb] 25)).alloc (.cells #[.bool m, .slice c us.length cc, .slice d vs.length cd] 25)) (.cells #[.bool false, .slice none 0 0, .slice none 0 0] 25)) (by simp)
    simp at e
    exact e
  have HXS : Hid (w.heap.size + 1 + 1 < (((w.alloc (.cells #[.bool n, .slice a xs.length ca, .slice b ys.length cb] 25)).alloc (.cells #[.bool m, .slice c us.length cc, .slice d vs.length cd] 25)).alloc (.cells #[.bool false, .slice none 0 0, .slice none 0 0] 25)).heap.size) := HZ.out.lt
  have HSL := hid (And.intro (sx.later HB.out) (And.intro (sy.later HB.out) (And.intro (su.later HB.out) (sv.later HB.out))))
  have HTT := hid (And.intro tx (And.intro ty (And.intro tu tv)))
  have HWD := hid (And.intro wu wv)
  have HPP := hid (And.intro (val_pos' wy ty yp) (val_pos' wv tv vp))
  have HC := hid (both3_any n _ _ xs _ _ ys m _ _ us _ _ vs (((w.alloc (.cells #[.bool n, .slice a xs.length ca, .slice b ys.length cb] 25)).alloc (.cells #[.bool m, .slice c us.length cc, .slice d vs.length cd] 25)).alloc (.cells #[.bool false, .slice none 0 0, .slice none 0 0] 25)) HSL.out.1 HSL.out.2.1 HSL.out.2.2.1 HSL.out.2.2.2 hlx hly hlu hlv)
  rw [rboth_good hx hy] at HC
  have HQ : Hid (rq n xs ys + rq (oneg m us) us vs = rq n xs ys - rq m us vs) := by show _ = _; rw [opp_q, Rat.sub_eq_add_neg]
  obtain ⟨k, hk⟩ : ∃ k, oneg m us = k := ⟨_, rfl⟩
  rw [hk] at HQ
  have HKK := hid hk
  clear sx sy su sv tx ty tu tv wx wy wu wv hx hy yp vp hk
  go_enter Tryz.func47, Tryz.ntmps47
  go_wp2_with fail
  refine Calls.mono HC.out ?_
  generalize (((w.alloc (.cells #[.bool n, .slice a xs.length ca, .slice b ys.length cb] 25)).alloc (.cells #[.bool m, .slice c us.length cc, .slice d vs.length cd] 25)).alloc (.cells #[.bool false, .slice none 0 0, .slice none 0 0] 25)) = X at *
  rintro e w1 ⟨rfl, hb1⟩
  have HB1 := hid hb1
  clear hb1 HC
  have HK : Hid (∀ V, Below X.heap.size X V → V.cell? ⟨w.heap.size, 0, none⟩ = some (.bool n) ∧ V.cell? ⟨w.heap.size, 1, none⟩ = some (.slice a xs.length ca) ∧ V.cell? ⟨w.heap.size, 2, none⟩ = some (.slice b ys.length cb) ∧ V.cell? ⟨w.heap.size + 1, 0, none⟩ = some (.bool m) ∧ V.cell? ⟨w.heap.size + 1, 1, none⟩ = some (.slice c us.length cc) ∧ V.cell? ⟨w.heap.size + 1, 2, none⟩ = some (.slice d vs.length cd)) := fun V hb => by
    obtain ⟨p0, p1, p2, _⟩ := res_box3 HN.out hb
    obtain ⟨q0, q1, q2, _⟩ := res_box3 HM.out hb
    exact ⟨p0, p1, p2, q0, q1, q2⟩
  have hs0 := HK.out _ HB1.out.drew
  have HBR := hid HB1.out.drew
  have H1 : Hid (∀ ww, Below X.heap.size X ww → Calls Tryz.prog 90 #[.agg #[.bool m, .slice c us.length cc, .slice d vs.length cd]] ww fun e w' => ∃ g1 c1 g2 c2, e = .returned (.agg #[.bool k, .slice g1 us.length c1, .slice g2 vs.length c2]) ∧ Hid (w'.ownsRow X.heap.size 88 1 (.slice g1 us.length c1) us.length (us.map (Value.int .u32)) ∧ w'.ownsRow X.heap.size 88 1 (.slice g2 vs.length c2) vs.length (vs.map (Value.int .u32)) ∧ Below X.heap.size X w') ∧ (w'.cell? ⟨w.heap.size, 0, none⟩ = some (.bool n) ∧ w'.cell? ⟨w.heap.size, 1, none⟩ = some (.slice a xs.length ca) ∧ w'.cell? ⟨w.heap.size, 2, none⟩ = some (.slice b ys.length cb) ∧ w'.cell? ⟨w.heap.size + 1, 0, none⟩ = some (.bool m) ∧ w'.cell? ⟨w.heap.size + 1, 1, none⟩ = some (.slice c us.length cc) ∧ w'.cell? ⟨w.heap.size + 1, 2, none⟩ = some (.slice d vs.length cd))) := fun ww hv => by
    have e := opposite3_any m _ _ us _ _ vs ww (HSL.out.2.2.1.later hv) (HSL.out.2.2.2.later hv) (by omega) (by omega)
    rw [HKK.out] at e
    refine Calls.mono e ?_
    rintro e w' ⟨g1, c1, g2, c2, rfl, o1, o2, hb⟩
    exact ⟨g1, c1, g2, c2, rfl, ⟨owns_base o1 hv.size, owns_base o2 hv.size, bt hv hb⟩, HK.out w' (bt hv hb)⟩
  have H2 : Hid (∀ ww, Below X.heap.size X ww → ∀ g1 c1 g2 c2, ww.ownsRow X.heap.size 88 1 (.slice g1 us.length c1) us.length (us.map (Value.int .u32)) → ww.ownsRow X.heap.size 88 1 (.slice g2 vs.length c2) vs.length (vs.map (Value.int .u32)) → Calls Tryz.prog 89 #[.agg #[.bool n, .slice a xs.length ca, .slice b ys.length cb], .agg #[.bool k, .slice g1 us.length c1, .slice g2 vs.length c2]] ww fun e w' => ∃ k a8 z8 c8 a9 z9 c9 code, e = .returned (.tuple #[.agg #[.bool k, .slice a8 (List.length z8) c8, .slice a9 (List.length z9) c9], .int .i64 code]) ∧ Hid (w'.ownsRow X.heap.size 88 1 (.slice a8 (List.length z8) c8) z8.length (z8.map (Value.int .u32)) ∧ w'.ownsRow X.heap.size 88 1 (.slice a9 (List.length z9) c9) z9.length (z9.map (Value.int .u32)) ∧ RTells 0 (rq n xs ys - rq m us vs) k z8 z9 code) ∧ (w'.cell? ⟨w.heap.size, 0, none⟩ = some (.bool n) ∧ w'.cell? ⟨w.heap.size, 1, none⟩ = some (.slice a xs.length ca) ∧ w'.cell? ⟨w.heap.size, 2, none⟩ = some (.slice b ys.length cb) ∧ w'.cell? ⟨w.heap.size + 1, 0, none⟩ = some (.bool m) ∧ w'.cell? ⟨w.heap.size + 1, 1, none⟩ = some (.slice c us.length cc) ∧ w'.cell? ⟨w.heap.size + 1, 2, none⟩ = some (.slice d vs.length cd)) ∧ Below X.heap.size X w') := fun ww hv g1 c1 g2 c2 o1 o2 => by
    have e := add3_any n _ _ xs _ _ ys k _ _ us _ _ vs ww (HSL.out.1.later hv) (HSL.out.2.1.later hv) (Sl.own o1 HWD.out.1) (Sl.own o2 HWD.out.2) lx ly lu lv HTT.out.1 HTT.out.2.1 HTT.out.2.2.1 HTT.out.2.2.2 HPP.out.1 HPP.out.2
    rw [HQ.out] at e
    refine Calls.mono e ?_
    rintro e w' ⟨k, v, zs, u, ds, code, rfl, o1, o2, t, hb⟩
    obtain ⟨a8, c8, hs⟩ := own_slice' o1
    subst hs
    obtain ⟨a9, c9, hs⟩ := own_slice' o2
    subst hs
    exact ⟨k, a8, zs, c8, a9, ds, c9, code, rfl, ⟨owns_base o1 hv.size, owns_base o2 hv.size, t⟩, HK.out w' (bt hv hb), bt hv hb⟩
  have hq0 : w.heap.size + 1 + 1 ≠ w.heap.size := by omega
  have hq1 : w.heap.size + 1 + 1 ≠ w.heap.size + 1 := by omega
  go_wp2_with fail
  go_region_held3 (fun V : World => V.cell? ⟨w.heap.size, 0, none⟩ = some (.bool n) ∧ V.cell? ⟨w.heap.size, 1, none⟩ = some (.slice a xs.length ca) ∧ V.cell? ⟨w.heap.size, 2, none⟩ = some (.slice b ys.length cb) ∧ V.cell? ⟨w.heap.size + 1, 0, none⟩ = some (.bool m) ∧ V.cell? ⟨w.heap.size + 1, 1, none⟩ = some (.slice c us.length cc) ∧ V.cell? ⟨w.heap.size + 1, 2, none⟩ = some (.slice d vs.length cd)) (first | exact hs9 | exact hs4 | exact hs0 | (simp [hs9, World.cell?_setCell_far, hq0]))
    (first
      | (go_at_call 89; with_reducible refine Calls.mono (H2.out _ HE4.out.2.2 _ _ _ _ HE4.out.1 HE4.out.2.1) ?_; rintro e w9 ⟨k9, a8, z8, c8, a9, z9, c9, code, rfl, HE9, hs9, hb9⟩; obtain ⟨y0, y1, y2, f0, f1, f2⟩ := res_box3 HZ.out hb9)
      | (go_at_call 90; with_reducible refine Calls.mono (H1.out _ HBR.out) ?_; rintro e w4 ⟨g1, c1, g2, c2, rfl, HE4, hs4⟩))
  all_goals
    have HBW := hid (bt HB.out hb9)
    have HR := hid HE9.out
    clear HK H1 H2 HE4 HE9 hs0 hs4 hs9 hb9 HBR
    go_wp2_with fail
    refine bodyPost_ret (v := .tuple #[.agg #[.bool k9, .slice a8 z8.length c8, .slice a9 z9.length c9], .int .i64 code]) (by simp [results, Tryz.results47, go_sem, y0, y1, y2]) rfl ?_
    exact RTold.put HR.out (w.heap.size + 1 + 1) HXS.out (by omega) HBW.out _ _ _

theorem dSub_full (n : Bool) (a : Option Addr) (ca : Nat) (xs : List Int) (b : Option Addr) (cb : Nat) (ys : List Int) (m : Bool) (c : Option Addr) (cc : Nat) (us : List Int) (d : Option Addr) (cd : Nat) (vs : List Int) (w : World) (sx : Sl w (.slice a xs.length ca) xs) (sy : Sl w (.slice b ys.length cb) ys) (su : Sl w (.slice c us.length cc) us) (sv : Sl w (.slice d vs.length cd) vs) (hlx : xs.length ≤ 281474976710656) (hly : ys.length ≤ 281474976710656) (hlu : us.length ≤ 281474976710656) (hlv : vs.length ≤ 281474976710656) :
    Calls Tryz.prog 47 #[.agg #[.bool n, .slice a xs.length ca, .slice b ys.length cb], .agg #[.bool m, .slice c us.length cc, .slice d vs.length cd]] w (RTold w (rboth n xs ys m us vs) (rq n xs ys - rq m us vs)) := by
  by_cases he : rboth n xs ys m us vs = 0
  · rw [he]
    exact dSub_ok n a ca xs b cb ys m c cc us d cd vs w sx sy su sv hlx hly hlu hlv (rboth_ok he).1 (rboth_ok he).2
  · exact dSub_err n a ca xs b cb ys m c cc us d cd vs w sx sy su sv hlx hly hlu hlv he _
end Go.Proofs.YtabkgpnckaaclaaGreatDoor

/- Fractions that are not too long, by how many bits they have. Nothing here speaks of the program. -/
namespace Go.Proofs.YtabkgpnckaaclaaGreatDoor
open Go.RowKit
set_option linter.unusedVariables false

theorem te_divInt {n : Int} {d : Nat} {k : Nat} (hd : d ≠ 0) (h1 : n.natAbs ≤ k) (h2 : d ≤ k) : (Rat.divInt n d).num.natAbs ≤ k ∧ (Rat.divInt n d).den ≤ k := by
  have e : Rat.divInt n d = mkRat n d := Rat.divInt_ofNat n d
  rw [e]
  have e2 := Rat.normalize_eq_mkRat (num := n) (den := d) hd
  rw [← e2, Rat.normalize_eq]
  exact ⟨by
    show (n / _).natAbs ≤ k
    exact Nat.le_trans (by rw [Int.natAbs_ediv_of_dvd (Int.ofNat_dvd_left.2 (Nat.gcd_dvd_left _ _)), Int.natAbs_natCast]; exact Nat.div_le_self _ _) h1, Nat.le_trans (Nat.div_le_self _ _) h2⟩
theorem te_ppw (m : Nat) : (4294967296 : Int) ^ m = ((2 ^ (32 * m) : Nat) : Int) := by rw [Nat.pow_mul, Int.natCast_pow]; rfl
theorem te_pshort {q : Rat} {k : Nat} (h1 : q.num.natAbs ≤ 2 ^ k) (h2 : q.den ≤ 2 ^ k) (hk : k < 65536) : ¬ rlong q := by
  have e0 : ∀ m, m = 2048 → wlim = ((2 ^ (32 * m) : Nat) : Int) := fun m hm => by rw [← te_ppw, hm]; rfl
  obtain ⟨m, hm⟩ : ∃ m : Nat, m = 2048 := ⟨_, rfl⟩
  have e1 := e0 m hm
  have e3 : 2 ^ k < 2 ^ (32 * m) := Nat.pow_lt_pow_right (by omega) (by omega)
  generalize 2 ^ (32 * m) = M at e1 e3
  generalize 2 ^ k = K at e3 h1 h2
  unfold rlong
  rw [e1]
  rintro (h | h) <;> omega
end Go.Proofs.YtabkgpnckaaclaaGreatDoor

/- real.Within of any finite float and bound: both ends, and the two comparisons. -/
namespace Go.Proofs.YtabkgpnckaaclaaGreatDoor
open Go.RowKit
set_option linter.unusedVariables false

set_option maxHeartbeats 1600000 in
set_option maxRecDepth 100000 in
theorem ends_fin (x y : Nat) (w : World) (hx : Fi x) (hy : Fi y) (hT : TabB w) :
    Calls Tryz.prog 46 #[.float .f64 x, .float .f64 y] w fun e w' => ∃ k1 a ca b cb xs1 ys1 e1 k2 c cc d cd xs2 ys2 e2, e = .returned (.tuple #[.agg #[.bool k1, .slice a (List.length xs1) ca, .slice b (List.length ys1) cb], .agg #[.bool k2, .slice c (List.length xs2) cc, .slice d (List.length ys2) cd], .int .i64 0]) ∧ Sl w' (.slice a xs1.length ca) xs1 ∧ Sl w' (.slice b ys1.length cb) ys1 ∧ Sl w' (.slice c xs2.length cc) xs2 ∧ Sl w' (.slice d ys2.length cd) ys2 ∧ RTells 0 (fq x - fq y) k1 xs1 ys1 e1 ∧ RTells 0 (fq x + fq y) k2 xs2 ys2 e2 ∧ Below w.heap.size w w' := by
  obtain ⟨X, hX⟩ : ∃ X, (w.alloc (.cells #[.bool false, .slice none 0 0, .slice none 0 0] 25)).alloc (.cells #[.bool false, .slice none 0 0, .slice none 0 0] 25) = X := ⟨_, rfl⟩
  have b1 : Below w.heap.size w X := by rw [← hX]; exact bt (alloc_later _ _) (alloc_later _ _)
  have HP : Hid (Box X w.heap.size 25 #[.bool false, .slice none 0 0, .slice none 0 0]) := by rw [← hX]; exact (Box.made w _ _).later (alloc_later _ _) (Box.made w _ _).lt
  have HQ : Hid (Box X (w.heap.size + 1) 25 #[.bool false, .slice none 0 0, .slice none 0 0]) := by
    have h := Box.made (w.alloc (.cells #[.bool false, .slice none 0 0, .slice none 0 0] 25)) 25 #[.bool false, .slice none 0 0, .slice none 0 0]
    rw [show (w.alloc (.cells #[.bool false, .slice none 0 0, .slice none 0 0] 25)).heap.size = w.heap.size + 1 by simp, hX] at h
    exact h
  have HE := hid (exact_fin x X hx (hT.later b1))
  have HB1 := hid b1
  have HT1 := hid (hT.later b1)
  have H0 := hid hy
  clear b1 hT hx hy
  go_enter Tryz.func46, Tryz.ntmps46
  go_wp2_with fail
  clear hX
  refine Calls.mono HE.out ?_
  rintro e w2 ⟨n', a1, ca1, b1', cb1, xs', ys', rfl, o1, o2, wx', wy', he', b2⟩
  have HEX := hid he'
  have HW := hid (And.intro wx' wy')
  obtain ⟨Y, hY⟩ : ∃ Y, w2.alloc (.cells #[.bool n', .slice a1 xs'.length ca1, .slice b1' ys'.length cb1] 25) = Y := ⟨_, rfl⟩
  have b3 : Below w2.heap.size w2 Y := by rw [← hY]; exact alloc_later _ _
  have HBY : Hid (Box Y w2.heap.size 25 #[.bool n', .slice a1 xs'.length ca1, .slice b1' ys'.length cb1]) := by rw [← hY]; exact Box.made w2 _ _
  have HO1 := hid (owns_later o1 b3)
  have HO2 := hid (owns_later o2 b3)
  have HE0 := hid (exact_fin y Y H0.out (HT1.out.later (bt b2 b3)))
  have HBB := hid (bt b2 b3)
  have hsz : X.heap.size ≤ w2.heap.size := b2.size
  clear HE o1 o2 wx' wy' he' b2 b3
  go_wp2_with fail
  clear hY
  refine Calls.mono HE0.out ?_
  rintro e w4 ⟨m, a2, ca2, b2', cb2, us, vs, rfl, p1, p2, wu, wv, he0, b4⟩
  obtain ⟨Z, hZ⟩ : ∃ Z, w4.alloc (.cells #[.bool m, .slice a2 us.length ca2, .slice b2' vs.length cb2] 25) = Z := ⟨_, rfl⟩
  have b5 : Below w4.heap.size w4 Z := by rw [← hZ]; exact alloc_later _ _
  have hBZ : Box Z w4.heap.size 25 #[.bool m, .slice a2 us.length ca2, .slice b2' vs.length cb2] := by rw [← hZ]; exact Box.made w4 _ _
  have b45 := bt b4 b5
  have hBY := HBY.out.later b45 HBY.out.lt
  have s1 := Sl.own (owns_later HO1.out b45) HW.out.1
  have s2 := Sl.own (owns_later HO2.out b45) HW.out.2
  have s3 := Sl.own (owns_later p1 b5) wu
  have s4 := Sl.own (owns_later p2 b5) wv
  have hq : rq n' xs' ys' - rq m us vs = fq x - fq y := by rw [HEX.out.2.2, he0.2.2]
  have hq2 : rq n' xs' ys' + rq m us vs = fq x + fq y := by rw [HEX.out.2.2, he0.2.2]
  have HS := hid (rSub_ok n' a1 ca1 xs' b1' cb1 ys' m a2 ca2 us b2' cb2 vs Z s1 s2 s3 s4 HEX.out.1 he0.1)
  rw [hq] at HS
  have HA : Hid (∀ V, V.ownsRow X.heap.size 88 1 (.slice a1 xs'.length ca1) xs'.length (xs'.map (Value.int .u32)) → V.ownsRow X.heap.size 88 1 (.slice b1' ys'.length cb1) ys'.length (ys'.map (Value.int .u32)) → V.ownsRow Y.heap.size 88 1 (.slice a2 us.length ca2) us.length (us.map (Value.int .u32)) → V.ownsRow Y.heap.size 88 1 (.slice b2' vs.length cb2) vs.length (vs.map (Value.int .u32)) → Calls Tryz.prog 88 #[.agg #[.bool n', .slice a1 xs'.length ca1, .slice b1' ys'.length cb1], .agg #[.bool m, .slice a2 us.length ca2, .slice b2' vs.length cb2]] V (RToldA V 0 (fq x + fq y))) := fun V q1 q2 q3 q4 => by
    rw [← hq2]
    exact rAdd_ok n' a1 ca1 xs' b1' cb1 ys' m a2 ca2 us b2' cb2 vs V (Sl.own q1 HW.out.1) (Sl.own q2 HW.out.2) (Sl.own q3 wu) (Sl.own q4 wv) HEX.out.1 he0.1
  have HRW := hid (And.intro (owns_later HO1.out b45) (And.intro (owns_later HO2.out b45) (And.intro (owns_later p1 b5) (owns_later p2 b5))))
  have y0 : Z.cell? ⟨w2.heap.size, 0, none⟩ = some (.bool n') := hBY.cell 0
  have y1 : Z.cell? ⟨w2.heap.size, 1, none⟩ = some (.slice a1 xs'.length ca1) := hBY.cell 1
  have y2 : Z.cell? ⟨w2.heap.size, 2, none⟩ = some (.slice b1' ys'.length cb1) := hBY.cell 2
  have z0 : Z.cell? ⟨w4.heap.size, 0, none⟩ = some (.bool m) := hBZ.cell 0
  have z1 : Z.cell? ⟨w4.heap.size, 1, none⟩ = some (.slice a2 us.length ca2) := hBZ.cell 1
  have z2 : Z.cell? ⟨w4.heap.size, 2, none⟩ = some (.slice b2' vs.length cb2) := hBZ.cell 2
  have HXZ := hid (bt HBB.out b45)
  have HYZ := hid hBY
  have HZZ := hid hBZ
  have hs4 : w2.heap.size < w4.heap.size := Nat.lt_of_lt_of_le HBY.out.lt b4.size
  clear HE0 HBY HO1 HO2 p1 p2 wu wv he0 b4 b5 b45 hBY hBZ s1 s2 s3 s4 hq hq2 HBB
  go_wp2_with fail
  clear hZ
  refine Calls.mono HS.out ?_
  rintro e w5 ⟨k1, v1, xs1, u1, ys1, code1, rfl, r1, r2, t1, b6, _⟩
  have HT5 := hid t1
  obtain ⟨a3, c3, rfl⟩ := own_slice' r1
  obtain ⟨a4, c4, rfl⟩ := own_slice' r2
  have hP5 := HP.out.later (bt HXZ.out b6) HP.out.lt
  have hQ5 := HQ.out.later (bt HXZ.out b6) HQ.out.lt
  have hY5 := HYZ.out.later b6 HYZ.out.lt
  have hZ5 := HZZ.out.later b6 HZZ.out.lt
  obtain ⟨V5, hV5⟩ : ∃ V5, ((w5.setCell ⟨w.heap.size, 0, none⟩ (.bool k1)).setCell ⟨w.heap.size, 1, none⟩ (.slice a3 xs1.length c3)).setCell ⟨w.heap.size, 2, none⟩ (.slice a4 ys1.length c4) = V5 := ⟨_, rfl⟩
  have hsX : w.heap.size + 1 < X.heap.size := HQ.out.lt
  have hne1 : w.heap.size + 1 ≠ w.heap.size := by omega
  have P5 : Box V5 w.heap.size 25 #[.bool k1, .slice a3 xs1.length c3, .slice a4 ys1.length c4] := by rw [← hV5]; exact put3_box hP5 _ _ _
  have Q5 : Box V5 (w.heap.size + 1) 25 #[.bool false, .slice none 0 0, .slice none 0 0] := by rw [← hV5]; exact put3_far hQ5 hne1 _ _ _
  have Y5 : Box V5 w2.heap.size 25 #[.bool n', .slice a1 xs'.length ca1, .slice b1' ys'.length cb1] := by rw [← hV5]; exact put3_far hY5 (by omega) _ _ _
  have Z5 : Box V5 w4.heap.size 25 #[.bool m, .slice a2 us.length ca2, .slice b2' vs.length cb2] := by rw [← hV5]; exact put3_far hZ5 (by omega) _ _ _
  have r1' : V5.ownsRow Z.heap.size 88 1 (.slice a3 xs1.length c3) xs1.length (xs1.map (Value.int .u32)) := by rw [← hV5]; exact put3_row r1 hP5 (by decide) _ _ _
  have r2' : V5.ownsRow Z.heap.size 88 1 (.slice a4 ys1.length c4) ys1.length (ys1.map (Value.int .u32)) := by rw [← hV5]; exact put3_row r2 hP5 (by decide) _ _ _
  have HA5 := hid (HA.out V5 (by rw [← hV5]; exact put3_row (owns_later HRW.out.1 b6) hP5 (by decide) _ _ _) (by rw [← hV5]; exact put3_row (owns_later HRW.out.2.1 b6) hP5 (by decide) _ _ _) (by rw [← hV5]; exact put3_row (owns_later HRW.out.2.2.1 b6) hP5 (by decide) _ _ _) (by rw [← hV5]; exact put3_row (owns_later HRW.out.2.2.2 b6) hP5 (by decide) _ _ _))
  have HB5 : Hid (Below w.heap.size w V5) := by rw [← hV5]; exact below_put3 (bt HB1.out (bt HXZ.out b6)) w.heap.size (Nat.le_refl _) _ _ _
  have f0 := hP5.free 0
  have f1 := hP5.free 1
  have f2 := hP5.free 2
  have g0 : w5.cell? ⟨w.heap.size, 0, none⟩ = some (.bool false) := hP5.cell 0
  have g1 : w5.cell? ⟨w.heap.size, 1, none⟩ = some (.slice none 0 0) := hP5.cell 1
  have g2 : w5.cell? ⟨w.heap.size, 2, none⟩ = some (.slice none 0 0) := hP5.cell 2
  have y0' : V5.cell? ⟨w2.heap.size, 0, none⟩ = some (.bool n') := Y5.cell 0
  have y1' : V5.cell? ⟨w2.heap.size, 1, none⟩ = some (.slice a1 xs'.length ca1) := Y5.cell 1
  have y2' : V5.cell? ⟨w2.heap.size, 2, none⟩ = some (.slice b1' ys'.length cb1) := Y5.cell 2
  have z0' : V5.cell? ⟨w4.heap.size, 0, none⟩ = some (.bool m) := Z5.cell 0
  have z1' : V5.cell? ⟨w4.heap.size, 1, none⟩ = some (.slice a2 us.length ca2) := Z5.cell 1
  have z2' : V5.cell? ⟨w4.heap.size, 2, none⟩ = some (.slice b2' vs.length cb2) := Z5.cell 2
  have HPQ := hid (And.intro P5 (And.intro Q5 (And.intro r1' r2')))
  clear HS HA HRW hP5 hQ5 hY5 hZ5 P5 Q5 Y5 Z5 r1 r2 r1' r2' t1 b6 y0 y1 y2 z0 z1 z2 HP HQ HXZ HYZ HZZ hsz hs4
  go_wp2_with fail
  clear hV5 g0 g1 g2 f0 f1 f2
  refine Calls.mono HA5.out ?_
  rintro e w6 ⟨k2, v2, xs2, u2, ys2, code2, rfl, r3, r4, t2, b7, _⟩
  have HT6 := hid t2
  obtain ⟨a5, c5, rfl⟩ := own_slice' r3
  obtain ⟨a6, c6, rfl⟩ := own_slice' r4
  have hP6 := HPQ.out.1.later b7 HPQ.out.1.lt
  have hQ6 := HPQ.out.2.1.later b7 HPQ.out.2.1.lt
  obtain ⟨V6, hV6⟩ : ∃ V6, ((w6.setCell ⟨w.heap.size + 1, 0, none⟩ (.bool k2)).setCell ⟨w.heap.size + 1, 1, none⟩ (.slice a5 xs2.length c5)).setCell ⟨w.heap.size + 1, 2, none⟩ (.slice a6 ys2.length c6) = V6 := ⟨_, rfl⟩
  have P6 : Box V6 w.heap.size 25 #[.bool k1, .slice a3 xs1.length c3, .slice a4 ys1.length c4] := by rw [← hV6]; exact put3_far hP6 (by omega) _ _ _
  have Q6 : Box V6 (w.heap.size + 1) 25 #[.bool k2, .slice a5 xs2.length c5, .slice a6 ys2.length c6] := by rw [← hV6]; exact put3_box hQ6 _ _ _
  have HF : Hid (Sl V6 (.slice a3 xs1.length c3) xs1 ∧ Sl V6 (.slice a4 ys1.length c4) ys1 ∧ Sl V6 (.slice a5 xs2.length c5) xs2 ∧ Sl V6 (.slice a6 ys2.length c6) ys2) := by
    rw [← hV6]
    exact ⟨Sl.own (put3_row (owns_later HPQ.out.2.2.1 b7) hQ6 (by decide) _ _ _) HT5.out.wx, Sl.own (put3_row (owns_later HPQ.out.2.2.2 b7) hQ6 (by decide) _ _ _) HT5.out.wy, Sl.own (put3_row r3 hQ6 (by decide) _ _ _) HT6.out.wx, Sl.own (put3_row r4 hQ6 (by decide) _ _ _) HT6.out.wy⟩
  have HB6 : Hid (Below w.heap.size w V6) := by rw [← hV6]; exact below_put3 (bt HB5.out b7) (w.heap.size + 1) (by omega) _ _ _
  have f0 := hQ6.free 0
  have f1 := hQ6.free 1
  have f2 := hQ6.free 2
  have g0 : w6.cell? ⟨w.heap.size + 1, 0, none⟩ = some (.bool false) := hQ6.cell 0
  have g1 : w6.cell? ⟨w.heap.size + 1, 1, none⟩ = some (.slice none 0 0) := hQ6.cell 1
  have g2 : w6.cell? ⟨w.heap.size + 1, 2, none⟩ = some (.slice none 0 0) := hQ6.cell 2
  have p0 : V6.cell? ⟨w.heap.size, 0, none⟩ = some (.bool k1) := P6.cell 0
  have p1 : V6.cell? ⟨w.heap.size, 1, none⟩ = some (.slice a3 xs1.length c3) := P6.cell 1
  have p2 : V6.cell? ⟨w.heap.size, 2, none⟩ = some (.slice a4 ys1.length c4) := P6.cell 2
  have q0 : V6.cell? ⟨w.heap.size + 1, 0, none⟩ = some (.bool k2) := Q6.cell 0
  have q1 : V6.cell? ⟨w.heap.size + 1, 1, none⟩ = some (.slice a5 xs2.length c5) := Q6.cell 1
  have q2 : V6.cell? ⟨w.heap.size + 1, 2, none⟩ = some (.slice a6 ys2.length c6) := Q6.cell 2
  have j0 := P6.free 0
  have j1 := P6.free 1
  have j2 := P6.free 2
  have i0 := Q6.free 0
  have i1 := Q6.free 1
  have i2 := Q6.free 2
  have HPB := hid (And.intro P6 Q6)
  clear HA5 r3 r4 t2 b7 hP6 hQ6 P6 Q6 HPQ y0' y1' y2' z0' z1' z2'
  go_wp2_with fail
  clear hV6 g0 g1 g2 f0 f1 f2
  have D6 : Box V6.drew w.heap.size 25 #[.bool k1, .slice a3 xs1.length c3, .slice a4 ys1.length c4] := HPB.out.1
  have E6 : Box V6.drew (w.heap.size + 1) 25 #[.bool k2, .slice a5 xs2.length c5, .slice a6 ys2.length c6] := HPB.out.2
  have m0 : V6.drew.setCell ⟨w.heap.size, 0, none⟩ (.bool k1) = V6.drew := D6.same rfl
  have m1 : V6.drew.setCell ⟨w.heap.size, 1, none⟩ (.slice a3 xs1.length c3) = V6.drew := D6.same rfl
  have m2 : V6.drew.setCell ⟨w.heap.size, 2, none⟩ (.slice a4 ys1.length c4) = V6.drew := D6.same rfl
  have m3 : V6.drew.setCell ⟨w.heap.size + 1, 0, none⟩ (.bool k2) = V6.drew := E6.same rfl
  have m4 : V6.drew.setCell ⟨w.heap.size + 1, 1, none⟩ (.slice a5 xs2.length c5) = V6.drew := E6.same rfl
  have m5 : V6.drew.setCell ⟨w.heap.size + 1, 2, none⟩ (.slice a6 ys2.length c6) = V6.drew := E6.same rfl
  go_region
  all_goals
    go_wp2_with fail
    refine bodyPost_ret (v := .tuple #[.agg #[.bool k1, .slice a3 xs1.length c3, .slice a4 ys1.length c4], .agg #[.bool k2, .slice a5 xs2.length c5, .slice a6 ys2.length c6], .int .i64 0]) (by simp [results, Tryz.results46, go_sem, p0, p1, p2, q0, q1, q2]) rfl ?_
    have hbd := Below.drew (Below.refl V6.heap.size V6)
    exact ⟨k1, a3, c3, a4, c4, xs1, ys1, _, k2, a5, c5, a6, c6, xs2, ys2, _, rfl, HF.out.1.later hbd, HF.out.2.1.later hbd, HF.out.2.2.1.later hbd, HF.out.2.2.2.later hbd, HT5.out, HT6.out, bt HB6.out hbd⟩

/-- What real.Within tells of two finite floats. -/
def WiT (x y : Nat) (n : Bool) (xs ys : List Int) (B : Bool) (c : Int) : Prop :=
  ∃ k1 xs1 ys1 e1 k2 xs2 ys2 e2, RTells 0 (fq x - fq y) k1 xs1 ys1 e1 ∧ RTells 0 (fq x + fq y) k2 xs2 ys2 e2 ∧ ((rboth k1 xs1 ys1 n xs ys ≠ 0 ∧ B = false ∧ c = rboth k1 xs1 ys1 n xs ys) ∨ (rboth k1 xs1 ys1 n xs ys = 0 ∧ rboth n xs ys k2 xs2 ys2 ≠ 0 ∧ B = false ∧ c = rboth n xs ys k2 xs2 ys2) ∨ (rboth k1 xs1 ys1 n xs ys = 0 ∧ rboth n xs ys k2 xs2 ys2 = 0 ∧ c = 0 ∧ B = (decide (rcmp k1 xs1 ys1 n xs ys ≤ 0) && decide (rcmp n xs ys k2 xs2 ys2 ≤ 0))))

set_option maxHeartbeats 1600000 in
set_option maxRecDepth 100000 in
theorem within_fin (x y : Nat) (n : Bool) (a : Option Addr) (ca : Nat) (xs : List Int) (b : Option Addr) (cb : Nat) (ys : List Int) (w : World) (hx : Fi x) (hy : Fi y) (hT : TabB w) (sx : Sl w (.slice a xs.length ca) xs) (sy : Sl w (.slice b ys.length cb) ys) :
    Calls Tryz.prog 13 #[.float .f64 x, .agg #[.bool n, .slice a xs.length ca, .slice b ys.length cb], .float .f64 y] w fun e w' => ∃ B c, e = .returned (.tuple #[.bool B, .int .i64 c]) ∧ WiT x y n xs ys B c ∧ Below w.heap.size w w' := by
  obtain ⟨X, hX⟩ : ∃ X, w.alloc (.cells #[.bool n, .slice a xs.length ca, .slice b ys.length cb] 25) = X := ⟨_, rfl⟩
  have b1 : Below w.heap.size w X := by rw [← hX]; exact alloc_later _ _
  have HBX : Hid (Box X w.heap.size 25 #[.bool n, .slice a xs.length ca, .slice b ys.length cb]) := by rw [← hX]; exact Box.made w _ _
  have HE := hid (ends_fin x y X hx hy (hT.later b1))
  have HSX := hid (sx.later b1)
  have HSY := hid (sy.later b1)
  have HB1 := hid b1
  clear sx sy b1 hT hx hy
  go_enter Tryz.func13, Tryz.ntmps13
  go_wp2_with fail
  clear hX
  refine Calls.mono HE.out ?_
  rintro e w2 ⟨k1, a1, c1, a2, c2, xs1, ys1, e1, k2, a3, c3, a4, c4, xs2, ys2, e2, rfl, s1, s2, s3, s4, t1, t2, b2⟩
  have HTT := hid (And.intro t1 t2)
  obtain ⟨Y, hY⟩ : ∃ Y, (w2.alloc (.cells #[.bool k1, .slice a1 xs1.length c1, .slice a2 ys1.length c2] 25)).alloc (.cells #[.bool k2, .slice a3 xs2.length c3, .slice a4 ys2.length c4] 25) = Y := ⟨_, rfl⟩
  have b3 : Below w2.heap.size w2 Y := by rw [← hY]; exact bt (alloc_later _ _) (alloc_later _ _)
  have hP : Box Y w2.heap.size 25 #[.bool k1, .slice a1 xs1.length c1, .slice a2 ys1.length c2] := by rw [← hY]; exact (Box.made w2 _ _).later (alloc_later _ _) (Box.made w2 _ _).lt
  have hQ : Box Y (w2.heap.size + 1) 25 #[.bool k2, .slice a3 xs2.length c3, .slice a4 ys2.length c4] := by
    have h := Box.made (w2.alloc (.cells #[.bool k1, .slice a1 xs1.length c1, .slice a2 ys1.length c2] 25)) 25 #[.bool k2, .slice a3 xs2.length c3, .slice a4 ys2.length c4]
    rw [show (w2.alloc (.cells #[.bool k1, .slice a1 xs1.length c1, .slice a2 ys1.length c2] 25)).heap.size = w2.heap.size + 1 by simp, hY] at h
    exact h
  have hBX := HBX.out.later (bt b2 b3) HBX.out.lt
  have HC1 := hid (rCompare_full k1 a1 c1 xs1 a2 c2 ys1 n a ca xs b cb ys Y (s1.later b3) (s2.later b3) ((HSX.out.later b2).later b3) ((HSY.out.later b2).later b3))
  obtain ⟨v1, hv1⟩ : ∃ v, rcmp k1 xs1 ys1 n xs ys = v := ⟨_, rfl⟩
  obtain ⟨r1, hr1⟩ : ∃ r, rboth k1 xs1 ys1 n xs ys = r := ⟨_, rfl⟩
  obtain ⟨v2, hv2⟩ : ∃ v, rcmp n xs ys k2 xs2 ys2 = v := ⟨_, rfl⟩
  obtain ⟨r2, hr2⟩ : ∃ r, rboth n xs ys k2 xs2 ys2 = r := ⟨_, rfl⟩
  rw [hv1, hr1] at HC1
  have HC2 : Hid (∀ V, Below Y.heap.size Y V → Calls Tryz.prog 44 #[.agg #[.bool n, .slice a xs.length ca, .slice b ys.length cb], .agg #[.bool k2, .slice a3 xs2.length c3, .slice a4 ys2.length c4]] V fun e w' => e = .returned (.tuple #[.int .i64 v2, .int .i64 r2]) ∧ Below V.heap.size V w') := fun V hv => by
    have h := rCompare_full n a ca xs b cb ys k2 a3 c3 xs2 a4 c4 ys2 V ((HSX.out.later b2).later (bt b3 hv)) ((HSY.out.later b2).later (bt b3 hv)) (s3.later (bt b3 hv)) (s4.later (bt b3 hv))
    rw [hv2, hr2] at h
    exact h
  have HBB := hid (bt HB1.out (bt b2 b3))
  have p0 : Y.cell? ⟨w2.heap.size, 0, none⟩ = some (.bool k1) := hP.cell 0
  have p1 : Y.cell? ⟨w2.heap.size, 1, none⟩ = some (.slice a1 xs1.length c1) := hP.cell 1
  have p2 : Y.cell? ⟨w2.heap.size, 2, none⟩ = some (.slice a2 ys1.length c2) := hP.cell 2
  have d0 : Y.cell? ⟨w.heap.size, 0, none⟩ = some (.bool n) := hBX.cell 0
  have d1 : Y.cell? ⟨w.heap.size, 1, none⟩ = some (.slice a xs.length ca) := hBX.cell 1
  have d2 : Y.cell? ⟨w.heap.size, 2, none⟩ = some (.slice b ys.length cb) := hBX.cell 2
  have HBQ := hid (And.intro hBX hQ)
  clear HE s1 s2 s3 s4 b2 b3 hBX hP hQ HSX HSY HB1 t1 t2
  go_wp2_with fail
  clear hY
  refine Calls.mono HC1.out ?_
  rintro e w3 ⟨rfl, b4⟩
  have hx3 := HBQ.out.1.later b4 HBQ.out.1.lt
  have hq3 := HBQ.out.2.later b4 HBQ.out.2.lt
  have HC3 := hid (HC2.out w3 b4)
  have HB4 := hid (bt HBB.out b4)
  have d0' : w3.cell? ⟨w.heap.size, 0, none⟩ = some (.bool n) := hx3.cell 0
  have d1' : w3.cell? ⟨w.heap.size, 1, none⟩ = some (.slice a xs.length ca) := hx3.cell 1
  have d2' : w3.cell? ⟨w.heap.size, 2, none⟩ = some (.slice b ys.length cb) := hx3.cell 2
  have q0' : w3.cell? ⟨w2.heap.size + 1, 0, none⟩ = some (.bool k2) := hq3.cell 0
  have q1' : w3.cell? ⟨w2.heap.size + 1, 1, none⟩ = some (.slice a3 xs2.length c3) := hq3.cell 1
  have q2' : w3.cell? ⟨w2.heap.size + 1, 2, none⟩ = some (.slice a4 ys2.length c4) := hq3.cell 2
  clear HC1 HC2 b4 p0 p1 p2 d0 d1 d2 hx3 hq3
  by_cases h1 : r1 = 0
  · have h1' : (r1 == 0) = true := by simp [h1]
    go_wp2_with fail
    refine Calls.mono HC3.out ?_
    rintro e w5 ⟨rfl, b5⟩
    have HB5 := hid (bt HB4.out b5)
    clear HC3 b5 d0' d1' d2' q0' q1' q2'
    by_cases h2 : r2 = 0
    · have h2' : (r2 == 0) = true := by simp [h2]
      by_cases h3 : v1 ≤ 0
      · have h3' : decide (v1 ≤ 0) = true := decide_eq_true h3
        go_wp2_with fail
        go_returns
        refine ⟨decide (v2 ≤ 0), 0, rfl, ⟨k1, xs1, ys1, e1, k2, xs2, ys2, e2, HTT.out.1, HTT.out.2, .inr (.inr ⟨hr1.trans h1, hr2.trans h2, rfl, ?_⟩)⟩, HB5.out⟩
        rw [hv1, hv2, h3', Bool.true_and]
      · have h3' : decide (v1 ≤ 0) = false := decide_eq_false h3
        go_wp2_with fail
        go_returns
        refine ⟨false, 0, rfl, ⟨k1, xs1, ys1, e1, k2, xs2, ys2, e2, HTT.out.1, HTT.out.2, .inr (.inr ⟨hr1.trans h1, hr2.trans h2, rfl, ?_⟩)⟩, HB5.out⟩
        rw [hv1, h3', Bool.false_and]
    · have h2' : (r2 == 0) = false := by simp [h2]
      go_wp2_with fail
      go_returns
      exact ⟨false, r2, rfl, ⟨k1, xs1, ys1, e1, k2, xs2, ys2, e2, HTT.out.1, HTT.out.2, .inr (.inl ⟨hr1.trans h1, fun h => h2 (hr2.symm.trans h), rfl, hr2.symm⟩)⟩, HB5.out⟩
  · have h1' : (r1 == 0) = false := by simp [h1]
    go_wp2_with fail
    go_returns
    exact ⟨false, r1, rfl, ⟨k1, xs1, ys1, e1, k2, xs2, ys2, e2, HTT.out.1, HTT.out.2, .inl ⟨fun h => h1 (hr1.symm.trans h), rfl, hr1.symm⟩⟩, HB4.out⟩

end Go.Proofs.YtabkgpnckaaclaaGreatDoor

/- The document's own floats (slackwaterref06): Within; sums of floats are not too long. -/
namespace Go.Proofs.YtabkgpnckaaclaaGreatDoor
open Go.RowKit
set_option linter.unusedVariables false

theorem nd_svb {x : Nat} (hx : Fi x) {E : Nat} (hE : E = 2098) : (sv x).natAbs ≤ 2 ^ E := by
  have key : ∀ r, r < 9218868437227405312 → rungVal r ≤ 2 ^ E := fun r hr => by
    have h1 := rungVal_lt hr
    obtain ⟨M, hM⟩ : ∃ M, M = 2045 := ⟨_, rfl⟩
    have h2 := rungVal_count (E := M) (K := 9007199254740992) (by omega) (fun _ => by omega)
    rw [show M * 4503599627370496 + 9007199254740992 = 9218868437227405312 by omega] at h2
    rw [h2, show (9007199254740992 : Nat) = 2 ^ 53 by decide, ← Nat.pow_add, show 53 + M = E by omega] at h1
    omega
  have h := hx.2
  rcases sv_at hx.1 with ⟨g, e⟩ | ⟨t, rfl, g, e⟩
  · rw [e]
    have := key x (by omega)
    omega
  · rw [e]
    have := key t (by omega)
    omega
theorem nd_shortA {A : Int} {E : Nat} (hE : E = 2099) (h : A.natAbs ≤ 2 ^ E) : ¬ rlong (Rat.divInt A (2 ^ zP)) := by
  obtain ⟨Z, hZ⟩ : ∃ Z, Z = 1074 := ⟨_, rfl⟩
  have hzP : zP = Z := by rw [hZ]; rfl
  rw [hzP]
  have e : (2 : Int) ^ Z = ((2 ^ Z : Nat) : Int) := by rw [Int.natCast_pow]; rfl
  rw [e]
  have h0 := Nat.two_pow_pos Z
  obtain ⟨h1, h2⟩ := te_divInt (k := 2 ^ E) (show 2 ^ Z ≠ 0 by omega) h (Nat.pow_le_pow_right (by decide) (by omega))
  exact te_pshort h1 h2 (by omega)
theorem nd_short1 {x : Nat} (hx : Fi x) : ¬ rlong (fq x) := by
  rw [fq_sv hx.1]
  obtain ⟨E, hE⟩ : ∃ E : Nat, E = 2098 := ⟨_, rfl⟩
  have := nd_svb hx hE
  exact nd_shortA (E := E + 1) (by omega) (by rw [Nat.pow_succ]; omega)
theorem nd_short2 {x y : Nat} (hx : Fi x) (hy : Fi y) : ¬ rlong (fq x + fq y) := by
  have hp := two_pos zP
  have e : fq x + fq y = Rat.divInt (sv x + sv y) (2 ^ zP) := by
    rw [fq_sv hx.1, fq_sv hy.1, Rat.divInt_add_divInt _ _ (by omega) (by omega), Rat.divInt_eq_divInt_iff (by have := Int.mul_pos hp hp; omega) (by omega)]
    generalize (2 : Int) ^ zP = Z
    grind
  rw [e]
  obtain ⟨E, hE⟩ : ∃ E : Nat, E = 2098 := ⟨_, rfl⟩
  have h1 := nd_svb hx hE
  have h2 := nd_svb hy hE
  exact nd_shortA (E := E + 1) (by omega) (by rw [Nat.pow_succ]; omega)
theorem nd_short3 {x y : Nat} (hx : Fi x) (hy : Fi y) : ¬ rlong (fq x - fq y) := by
  have hp := two_pos zP
  have e : fq x - fq y = Rat.divInt (sv x - sv y) (2 ^ zP) := by
    rw [fq_sv hx.1, fq_sv hy.1, Rat.sub_eq_add_neg, Rat.neg_divInt, Rat.divInt_add_divInt _ _ (by omega) (by omega), Rat.divInt_eq_divInt_iff (by have := Int.mul_pos hp hp; omega) (by omega)]
    generalize (2 : Int) ^ zP = Z
    grind
  rw [e]
  obtain ⟨E, hE⟩ : ∃ E : Nat, E = 2098 := ⟨_, rfl⟩
  have h1 := nd_svb hx hE
  have h2 := nd_svb hy hE
  exact nd_shortA (E := E + 1) (by omega) (by rw [Nat.pow_succ]; omega)

/-- What the document's Within tells of finite floats. -/
def WdT (x y : Nat) (n : Bool) (xs ys : List Int) (B : Bool) (c : Int) : Prop :=
  (rchk n xs ys ≠ 0 ∧ B = false ∧ c = rchk n xs ys) ∨ (rchk n xs ys = 0 ∧ c = 0 ∧ ∃ k1 xs1 ys1 e1 k2 xs2 ys2 e2, RTells 0 (fq x - fq y) k1 xs1 ys1 e1 ∧ RTells 0 (fq x + fq y) k2 xs2 ys2 e2 ∧ B = (decide (rcmp k1 xs1 ys1 n xs ys ≤ 0) && decide (rcmp n xs ys k2 xs2 ys2 ≤ 0)))

set_option maxHeartbeats 1600000 in
set_option maxRecDepth 100000 in
theorem ndWithin_good (x y : Nat) (n : Bool) (a : Option Addr) (ca : Nat) (xs : List Int) (b : Option Addr) (cb : Nat) (ys : List Int) (w : World) (hx : Fi x) (hy : Fi y) (sx : Sl w (.slice a xs.length ca) xs) (sy : Sl w (.slice b ys.length cb) ys) (hr : rchk n xs ys = 0) :
    Calls Tryz.prog 14 #[.float .f64 x, .agg #[.bool n, .slice a xs.length ca, .slice b ys.length cb], .float .f64 y] w fun e w' => ∃ B c, e = .returned (.tuple #[.bool B, .int .i64 c]) ∧ WdT x y n xs ys B c ∧ Below w.heap.size w w' := by
  obtain ⟨lx, ly, _⟩ := rchk_ok hr
  have HFx := hid (fun V => refFinite_any x V hx.1)
  have HFy := hid (fun V => refFinite_any y V hy.1)
  rw [(fi_fin hx.1).2 hx] at HFx
  rw [(fi_fin hy.1).2 hy] at HFy
  obtain ⟨P, hP⟩ : ∃ P, w.alloc (.cells #[.bool n, .slice a xs.length ca, .slice b ys.length cb] 25) = P := ⟨_, rfl⟩
  have b1 : Below w.heap.size w P := by rw [← hP]; exact alloc_later _ _
  have HPX : Hid (Box P w.heap.size 25 #[.bool n, .slice a xs.length ca, .slice b ys.length cb]) := by rw [← hP]; exact Box.made w _ _
  have HS := hid (And.intro (sx.later b1) (sy.later b1))
  have HC := hid (check3_any n a ca xs b cb ys P (sx.later b1) (sy.later b1) (by omega) (by omega))
  rw [hr] at HC
  have HB1 := hid b1
  have HR := hid hr
  have HXY := hid (And.intro hx hy)
  have f0 : P.cell? ⟨w.heap.size, 0, none⟩ = some (.bool n) := HPX.out.cell 0
  have f1 : P.cell? ⟨w.heap.size, 1, none⟩ = some (.slice a xs.length ca) := HPX.out.cell 1
  have f2 : P.cell? ⟨w.heap.size, 2, none⟩ = some (.slice b ys.length cb) := HPX.out.cell 2
  clear sx sy b1 hr hx hy
  go_enter Tryz.func14, Tryz.ntmps14
  go_wp2_with fail
  clear hP
  refine Calls.mono (HFx.out _) ?_
  rintro e w1 ⟨rfl, rfl⟩
  go_wp2_with fail
  refine Calls.mono (HFy.out _) ?_
  rintro e w1 ⟨rfl, rfl⟩
  go_wp2_with fail
  refine Calls.mono HC.out ?_
  rintro e w2 ⟨rfl, hb2⟩
  clear HC HFx HFy
  go_wp2_with fail
  refine Calls.mono (ndexact_any x _ HXY.out.1.1) ?_
  rintro e w3 ⟨pk, pa, pc, pb, pd, px, py, pe, rfl, po, pp, pt, ph⟩
  obtain ⟨_, pr, pq⟩ := pt.good rfl (nd_short1 HXY.out.1)
  obtain ⟨pl, pm, _⟩ := rchk_ok pr
  have Hp := hid (And.intro (Sl.own po pt.wx) (And.intro (Sl.own pp pt.wy) (And.intro pr (And.intro pq (And.intro pl (And.intro pm ph))))))
  clear po pp pt ph pr pq pl pm
  go_wp2_with fail
  refine Calls.mono (ndexact_any y _ HXY.out.2.1) ?_
  rintro e w4 ⟨qk, qa, qc, qb, qd, qx, qy, qe, rfl, qo, qp, qt, qh⟩
  obtain ⟨_, qr, qq⟩ := qt.good rfl (nd_short1 HXY.out.2)
  obtain ⟨ql, qm, _⟩ := rchk_ok qr
  have Hq := hid (And.intro (Sl.own qo qt.wx) (And.intro (Sl.own qp qt.wy) (And.intro qr (And.intro qq (And.intro ql (And.intro qm qh))))))
  clear qo qp qt qh qr qq ql qm
  go_wp2_with fail
  refine Calls.mono (dSub_ok pk pa pc px pb pd py qk qa qc qx qb qd qy w4 (Hp.out.1.later Hq.out.2.2.2.2.2.2) (Hp.out.2.1.later Hq.out.2.2.2.2.2.2) Hq.out.1 Hq.out.2.1 (by have := Hp.out.2.2.2.2.1; omega) (by have := Hp.out.2.2.2.2.2.1; omega) (by have := Hq.out.2.2.2.2.1; omega) (by have := Hq.out.2.2.2.2.2.1; omega) Hp.out.2.2.1 Hq.out.2.2.1) ?_
  rintro e w5 ⟨k1, v5, xs1, u5, ys1, e1, rfl, o5, p5, t1, hb5⟩
  rw [Hp.out.2.2.2.1, Hq.out.2.2.2.1] at t1
  obtain ⟨a5, c5, hs5⟩ := own_slice' o5
  subst hs5
  obtain ⟨a6, c6, hs6⟩ := own_slice' p5
  subst hs6
  obtain ⟨V5, hV5⟩ : ∃ V, w5.alloc (.cells #[.bool k1, .slice a5 xs1.length c5, .slice a6 ys1.length c6] 25) = V := ⟨_, rfl⟩
  have hbV5 : Below w5.heap.size w5 V5 := by rw [← hV5]; exact alloc_later _ _
  have HL : Hid (Box V5 w5.heap.size 25 #[.bool k1, .slice a5 xs1.length c5, .slice a6 ys1.length c6] ∧ Sl V5 (.slice a5 xs1.length c5) xs1 ∧ Sl V5 (.slice a6 ys1.length c6) ys1 ∧ RTells 0 (fq x - fq y) k1 xs1 ys1 e1) := ⟨by rw [← hV5]; exact Box.made w5 _ _, (Sl.own o5 t1.wx).later hbV5, (Sl.own p5 t1.wy).later hbV5, t1⟩
  have HB5 := hid (bt hb2 (bt Hp.out.2.2.2.2.2.2 (bt Hq.out.2.2.2.2.2.2 (bt hb5 hbV5))))
  clear o5 p5 t1 hb5 hbV5 hb2 Hp Hq f0 f1 f2
  go_wp2_with fail
  clear hV5
  refine Calls.mono (ndexact_any x _ HXY.out.1.1) ?_
  rintro e w6 ⟨sk, sa, sc, sb, sd, sx, sy, se, rfl, so, sp, st, sh⟩
  obtain ⟨_, sr, sq⟩ := st.good rfl (nd_short1 HXY.out.1)
  obtain ⟨sl, sm, _⟩ := rchk_ok sr
  have Hs := hid (And.intro (Sl.own so st.wx) (And.intro (Sl.own sp st.wy) (And.intro sr (And.intro sq (And.intro sl (And.intro sm sh))))))
  clear so sp st sh sr sq sl sm
  go_wp2_with fail
  refine Calls.mono (ndexact_any y _ HXY.out.2.1) ?_
  rintro e w7 ⟨zk, za, zc, zb, zd, zx, zy, ze, rfl, zo, zp, zt, zh⟩
  obtain ⟨_, zr, zq⟩ := zt.good rfl (nd_short1 HXY.out.2)
  obtain ⟨zl, zm, _⟩ := rchk_ok zr
  have Hz := hid (And.intro (Sl.own zo zt.wx) (And.intro (Sl.own zp zt.wy) (And.intro zr (And.intro zq (And.intro zl (And.intro zm zh))))))
  clear zo zp zt zh zr zq zl zm
  go_wp2_with fail
  refine Calls.mono (dAdd_ok sk sa sc sx sb sd sy zk za zc zx zb zd zy w7 (Hs.out.1.later Hz.out.2.2.2.2.2.2) (Hs.out.2.1.later Hz.out.2.2.2.2.2.2) Hz.out.1 Hz.out.2.1 (by have := Hs.out.2.2.2.2.1; omega) (by have := Hs.out.2.2.2.2.2.1; omega) (by have := Hz.out.2.2.2.2.1; omega) (by have := Hz.out.2.2.2.2.2.1; omega) Hs.out.2.2.1 Hz.out.2.2.1) ?_
  rintro e w8 ⟨k2, v8, xs2, u8, ys2, e2, rfl, o8, p8, t2, hb8⟩
  rw [Hs.out.2.2.2.1, Hz.out.2.2.2.1] at t2
  obtain ⟨a7, c7, hs7⟩ := own_slice' o8
  subst hs7
  obtain ⟨a8, c8, hs8⟩ := own_slice' p8
  subst hs8
  obtain ⟨V8, hV8⟩ : ∃ V, w8.alloc (.cells #[.bool k2, .slice a7 xs2.length c7, .slice a8 ys2.length c8] 25) = V := ⟨_, rfl⟩
  have hbV8 : Below w8.heap.size w8 V8 := by rw [← hV8]; exact alloc_later _ _
  have hb85 : Below V5.heap.size V5 V8 := bt Hs.out.2.2.2.2.2.2 (bt Hz.out.2.2.2.2.2.2 (bt hb8 hbV8))
  obtain ⟨hBL, hL1, hL2, t1⟩ := HL.out
  have hBH : Box V8 w8.heap.size 25 #[.bool k2, .slice a7 xs2.length c7, .slice a8 ys2.length c8] := by rw [← hV8]; exact Box.made w8 _ _
  have hBR := HPX.out.later (bt HB5.out hb85) HPX.out.lt
  have hBL8 := hBL.later hb85 hBL.lt
  have sH1 := (Sl.own o8 t2.wx).later hbV8
  have sH2 := (Sl.own p8 t2.wy).later hbV8
  have sL1 := hL1.later hb85
  have sL2 := hL2.later hb85
  have sR1 := HS.out.1.later (bt HB5.out hb85)
  have sR2 := HS.out.2.later (bt HB5.out hb85)
  obtain ⟨_, rL, _⟩ := t1.good rfl (nd_short3 HXY.out.1 HXY.out.2)
  obtain ⟨_, rH, _⟩ := t2.good rfl (nd_short2 HXY.out.1 HXY.out.2)
  have HB8 := hid (bt HB1.out (bt HB5.out hb85))
  have HFc : Hid (∀ V, Below V8.heap.size V8 V → (V.cell? ⟨w.heap.size, 0, none⟩ = some (.bool n) ∧ V.cell? ⟨w.heap.size, 1, none⟩ = some (.slice a xs.length ca) ∧ V.cell? ⟨w.heap.size, 2, none⟩ = some (.slice b ys.length cb)) ∧ (V.cell? ⟨w5.heap.size, 0, none⟩ = some (.bool k1) ∧ V.cell? ⟨w5.heap.size, 1, none⟩ = some (.slice a5 xs1.length c5) ∧ V.cell? ⟨w5.heap.size, 2, none⟩ = some (.slice a6 ys1.length c6)) ∧ (V.cell? ⟨w8.heap.size, 0, none⟩ = some (.bool k2) ∧ V.cell? ⟨w8.heap.size, 1, none⟩ = some (.slice a7 xs2.length c7) ∧ V.cell? ⟨w8.heap.size, 2, none⟩ = some (.slice a8 ys2.length c8))) := fun V hv => by
    have h1 := hBR.later hv hBR.lt
    have h2 := hBL8.later hv hBL8.lt
    have h3 := hBH.later hv hBH.lt
    exact ⟨⟨h1.cell 0, h1.cell 1, h1.cell 2⟩, ⟨h2.cell 0, h2.cell 1, h2.cell 2⟩, ⟨h3.cell 0, h3.cell 1, h3.cell 2⟩⟩
  obtain ⟨D1, hD1⟩ : ∃ D, cmpI (wval k1 xs1 * val ys) (wval n xs * val ys1) = D := ⟨_, rfl⟩
  obtain ⟨D2, hD2⟩ : ∃ D, cmpI (wval n xs * val ys2) (wval k2 xs2 * val ys) = D := ⟨_, rfl⟩
  have HO1 : Hid (∀ V, Below V8.heap.size V8 V → Calls Tryz.prog 49 #[.agg #[.bool k1, .slice a5 xs1.length c5, .slice a6 ys1.length c6], .agg #[.bool n, .slice a xs.length ca, .slice b ys.length cb]] V fun e w' => e = .returned (.int .i64 D1) ∧ Hid (Below V8.heap.size V8 w') ∧ ((w'.cell? ⟨w.heap.size, 0, none⟩ = some (.bool n) ∧ w'.cell? ⟨w.heap.size, 1, none⟩ = some (.slice a xs.length ca) ∧ w'.cell? ⟨w.heap.size, 2, none⟩ = some (.slice b ys.length cb)) ∧ (w'.cell? ⟨w5.heap.size, 0, none⟩ = some (.bool k1) ∧ w'.cell? ⟨w5.heap.size, 1, none⟩ = some (.slice a5 xs1.length c5) ∧ w'.cell? ⟨w5.heap.size, 2, none⟩ = some (.slice a6 ys1.length c6)) ∧ (w'.cell? ⟨w8.heap.size, 0, none⟩ = some (.bool k2) ∧ w'.cell? ⟨w8.heap.size, 1, none⟩ = some (.slice a7 xs2.length c7) ∧ w'.cell? ⟨w8.heap.size, 2, none⟩ = some (.slice a8 ys2.length c8)))) := fun V hv => by
    refine Calls.mono (order3_any k1 a5 c5 xs1 a6 c6 ys1 n a ca xs b cb ys V (sL1.later hv) (sL2.later hv) (sR1.later hv) (sR2.later hv) rL HR.out) ?_
    rintro e w' ⟨rfl, hb⟩
    exact ⟨by rw [hD1], bt hv hb, HFc.out _ (bt hv hb)⟩
  have HO2 : Hid (∀ V, Below V8.heap.size V8 V → Calls Tryz.prog 49 #[.agg #[.bool n, .slice a xs.length ca, .slice b ys.length cb], .agg #[.bool k2, .slice a7 xs2.length c7, .slice a8 ys2.length c8]] V fun e w' => e = .returned (.int .i64 D2) ∧ Hid (Below V8.heap.size V8 w') ∧ ((w'.cell? ⟨w.heap.size, 0, none⟩ = some (.bool n) ∧ w'.cell? ⟨w.heap.size, 1, none⟩ = some (.slice a xs.length ca) ∧ w'.cell? ⟨w.heap.size, 2, none⟩ = some (.slice b ys.length cb)) ∧ (w'.cell? ⟨w5.heap.size, 0, none⟩ = some (.bool k1) ∧ w'.cell? ⟨w5.heap.size, 1, none⟩ = some (.slice a5 xs1.length c5) ∧ w'.cell? ⟨w5.heap.size, 2, none⟩ = some (.slice a6 ys1.length c6)) ∧ (w'.cell? ⟨w8.heap.size, 0, none⟩ = some (.bool k2) ∧ w'.cell? ⟨w8.heap.size, 1, none⟩ = some (.slice a7 xs2.length c7) ∧ w'.cell? ⟨w8.heap.size, 2, none⟩ = some (.slice a8 ys2.length c8)))) := fun V hv => by
    refine Calls.mono (order3_any n a ca xs b cb ys k2 a7 c7 xs2 a8 c8 ys2 V (sR1.later hv) (sR2.later hv) (sH1.later hv) (sH2.later hv) HR.out rH) ?_
    rintro e w' ⟨rfl, hb⟩
    exact ⟨by rw [hD2], bt hv hb, HFc.out _ (bt hv hb)⟩
  have HE : Hid (WdT x y n xs ys (decide (D1 ≤ 0) && decide (D2 ≤ 0)) 0) := by
    refine .inr ⟨HR.out, rfl, k1, xs1, ys1, e1, k2, xs2, ys2, e2, t1, t2, ?_⟩
    unfold rcmp
    rw [if_pos (rboth_good rL HR.out), if_pos (rboth_good HR.out rH), hD1, hD2]
  clear o8 p8 t2 hb8 hbV8 hb85 hBL hL1 hL2 t1 hBH hBR hBL8 sH1 sH2 sL1 sL2 sR1 sR2 rL rH hD1 hD2 HL HB5 Hs Hz
  obtain ⟨⟨f0, f1, f2⟩, ⟨g0, g1, g2⟩, ⟨h0, h1, h2⟩⟩ := HFc.out V8 (Below.refl _ _)
  go_wp2_with fail
  clear hV8
  refine Calls.mono (HO1.out V8 (Below.refl _ _)) ?_
  rintro e w9 ⟨rfl, hb9, hc9⟩
  clear f0 f1 f2 g0 g1 g2 h0 h1 h2 HFc
  obtain ⟨⟨f0, f1, f2⟩, ⟨g0, g1, g2⟩, ⟨h0, h1, h2⟩⟩ := hc9
  by_cases hd : D1 ≤ 0
  · have hd' : decide (D1 ≤ 0) = true := decide_eq_true hd
    rw [hd', Bool.true_and] at HE
    have HO3 := hid (HO2.out w9 hb9.out)
    clear HO1 HO2 hb9
    go_wp2_with fail
    refine Calls.mono HO3.out ?_
    rintro e w10 ⟨rfl, hb10, hc10⟩
    have HBE := hid (bt HB8.out hb10.out)
    clear hb10 hc10 f0 f1 f2 g0 g1 g2 h0 h1 h2
    go_wp2_with fail
    go_returns
    exact ⟨_, 0, rfl, HE.out, HBE.out⟩
  · have hd' : decide (D1 ≤ 0) = false := decide_eq_false hd
    rw [hd', Bool.false_and] at HE
    have HBE := hid (bt HB8.out hb9.out)
    clear HO1 HO2 hb9 f0 f1 f2 g0 g1 g2 h0 h1 h2
    go_wp2_with fail
    go_returns
    exact ⟨_, 0, rfl, HE.out, HBE.out⟩

set_option maxHeartbeats 800000 in
set_option maxRecDepth 100000 in
theorem ndWithin_ref (x y : Nat) (n : Bool) (a : Option Addr) (ca : Nat) (xs : List Int) (b : Option Addr) (cb : Nat) (ys : List Int) (w : World) (hx : Fi x) (hy : Fi y) (sx : Sl w (.slice a xs.length ca) xs) (sy : Sl w (.slice b ys.length cb) ys) (lx : xs.length ≤ 281474976710656) (ly : ys.length ≤ 281474976710656) (hr : rchk n xs ys ≠ 0) :
    Calls Tryz.prog 14 #[.float .f64 x, .agg #[.bool n, .slice a xs.length ca, .slice b ys.length cb], .float .f64 y] w fun e w' => ∃ B c, e = .returned (.tuple #[.bool B, .int .i64 c]) ∧ WdT x y n xs ys B c ∧ Below w.heap.size w w' := by
  have HFx := hid (fun V => refFinite_any x V hx.1)
  have HFy := hid (fun V => refFinite_any y V hy.1)
  rw [(fi_fin hx.1).2 hx] at HFx
  rw [(fi_fin hy.1).2 hy] at HFy
  obtain ⟨P, hP⟩ : ∃ P, w.alloc (.cells #[.bool n, .slice a xs.length ca, .slice b ys.length cb] 25) = P := ⟨_, rfl⟩
  have b1 : Below w.heap.size w P := by rw [← hP]; exact alloc_later _ _
  have HPX : Hid (Box P w.heap.size 25 #[.bool n, .slice a xs.length ca, .slice b ys.length cb]) := by rw [← hP]; exact Box.made w _ _
  have HC := hid (check3_any n a ca xs b cb ys P (sx.later b1) (sy.later b1) lx ly)
  obtain ⟨R, hR⟩ : ∃ R, rchk n xs ys = R := ⟨_, rfl⟩
  have HE : Hid (WdT x y n xs ys false R) := .inl ⟨hr, rfl, hR.symm⟩
  rw [hR] at HC hr
  have hR' : (R != 0) = true := by simpa using hr
  have HB1 := hid b1
  have f0 : P.cell? ⟨w.heap.size, 0, none⟩ = some (.bool n) := HPX.out.cell 0
  have f1 : P.cell? ⟨w.heap.size, 1, none⟩ = some (.slice a xs.length ca) := HPX.out.cell 1
  have f2 : P.cell? ⟨w.heap.size, 2, none⟩ = some (.slice b ys.length cb) := HPX.out.cell 2
  clear sx sy b1 hr hx hy hR lx ly
  go_enter Tryz.func14, Tryz.ntmps14
  go_wp2_with fail
  clear hP
  refine Calls.mono (HFx.out _) ?_
  rintro e w1 ⟨rfl, rfl⟩
  go_wp2_with fail
  refine Calls.mono (HFy.out _) ?_
  rintro e w1 ⟨rfl, rfl⟩
  go_wp2_with fail
  refine Calls.mono HC.out ?_
  rintro e w2 ⟨rfl, hb2⟩
  have HBE := hid (bt HB1.out hb2)
  clear HC HFx HFy hb2 f0 f1 f2
  go_wp2_with fail
  go_returns
  exact ⟨false, R, rfl, HE.out, HBE.out⟩

theorem ndWithin_fin (x y : Nat) (n : Bool) (a : Option Addr) (ca : Nat) (xs : List Int) (b : Option Addr) (cb : Nat) (ys : List Int) (w : World) (hx : Fi x) (hy : Fi y) (sx : Sl w (.slice a xs.length ca) xs) (sy : Sl w (.slice b ys.length cb) ys) (lx : xs.length ≤ 281474976710656) (ly : ys.length ≤ 281474976710656) :
    Calls Tryz.prog 14 #[.float .f64 x, .agg #[.bool n, .slice a xs.length ca, .slice b ys.length cb], .float .f64 y] w fun e w' => ∃ B c, e = .returned (.tuple #[.bool B, .int .i64 c]) ∧ WdT x y n xs ys B c ∧ Below w.heap.size w w' := by
  by_cases hr : rchk n xs ys = 0
  · exact ndWithin_good x y n a ca xs b cb ys w hx hy sx sy hr
  · exact ndWithin_ref x y n a ca xs b cb ys w hx hy sx sy lx ly hr

set_option maxHeartbeats 800000 in
set_option maxRecDepth 100000 in
theorem ndWithin_bad (x y : Nat) (n : Bool) (a : Option Addr) (la ca : Nat) (b : Option Addr) (lb cb : Nat) (w : World) (hx : x < 18446744073709551616) (hy : y < 18446744073709551616) (hf : fin x = false ∨ fin y = false) :
    Calls Tryz.prog 14 #[.float .f64 x, .agg #[.bool n, .slice a la ca, .slice b lb cb], .float .f64 y] w fun e w' => e = .returned (.tuple #[.bool false, .int .i64 8]) ∧ Below w.heap.size w w' := by
  have HFx := hid (fun V => refFinite_any x V hx)
  have HFy := hid (fun V => refFinite_any y V hy)
  have HB := hid (alloc_later w (.cells #[.bool n, .slice a la ca, .slice b lb cb] 25))
  clear hx hy
  cases h1 : fin x
  · rw [h1] at HFx
    clear hf h1 HFy
    go_enter Tryz.func14, Tryz.ntmps14
    go_wp2_with fail
    refine Calls.mono (HFx.out _) ?_
    rintro e w1 ⟨rfl, rfl⟩
    go_wp2_with fail
    go_returns
    exact ⟨rfl, HB.out⟩
  · rw [h1] at HFx
    have h2 : fin y = false := hf.resolve_left (by rw [h1]; simp)
    rw [h2] at HFy
    clear hf h1 h2
    go_enter Tryz.func14, Tryz.ntmps14
    go_wp2_with fail
    refine Calls.mono (HFx.out _) ?_
    rintro e w1 ⟨rfl, rfl⟩
    go_wp2_with fail
    refine Calls.mono (HFy.out _) ?_
    rintro e w1 ⟨rfl, rfl⟩
    go_wp2_with fail
    go_returns
    exact ⟨rfl, HB.out⟩

/-- The program's Within and the document's tell the same. -/
theorem within_same {x y : Nat} (hx : Fi x) (hy : Fi y) {n : Bool} {xs ys : List Int} {B D : Bool} {c d : Int} (h : WiT x y n xs ys B c) (g : WdT x y n xs ys D d) : B = D ∧ c = d := by
  obtain ⟨k1, xs1, ys1, e1, k2, xs2, ys2, e2, t1, t2, h⟩ := h
  obtain ⟨_, r1, _⟩ := t1.good rfl (nd_short3 hx hy)
  obtain ⟨_, r2, _⟩ := t2.good rfl (nd_short2 hx hy)
  have q1 : rboth k1 xs1 ys1 n xs ys = rchk n xs ys := by unfold rboth; rw [if_pos r1]
  have q2 : rchk n xs ys = 0 → rboth n xs ys k2 xs2 ys2 = 0 := fun hr => rboth_good hr r2
  rcases g with ⟨g1, g2, g3⟩ | ⟨g1, g2, k3, xs3, ys3, e3, k4, xs4, ys4, e4, t3, t4, g3⟩
  · rcases h with ⟨h1, h2, h3⟩ | ⟨h1, _⟩ | ⟨h1, _⟩
    · exact ⟨by rw [h2, g2], by rw [h3, g3, q1]⟩
    · rw [q1] at h1; exact absurd h1 g1
    · rw [q1] at h1; exact absurd h1 g1
  · rcases h with ⟨h1, h2, h3⟩ | ⟨h1, h2, _⟩ | ⟨h1, h2, h3, h4⟩
    · rw [q1] at h1; exact absurd g1 h1
    · exact absurd (q2 g1) h2
    · obtain ⟨rfl, rfl, rfl, _⟩ := t1.same t3
      obtain ⟨rfl, rfl, rfl, _⟩ := t2.same t4
      exact ⟨by rw [h4, g3], by rw [h3, g2]⟩
end Go.Proofs.YtabkgpnckaaclaaGreatDoor

/- The document's own floats (slackwaterref06): next, Next, Gap; the program's Gap by its value, Gap, Compare, Within refused; Compare of any finite float. -/
namespace Go.Proofs.YtabkgpnckaaclaaGreatDoor
open Go.RowKit
set_option linter.unusedVariables false

set_option maxHeartbeats 400000 in
set_option maxRecDepth 100000 in
theorem ndnext_any (x : Nat) (w : World) (h : x < 18446744073709551615) :
    Calls Tryz.prog 52 #[.float .f64 x] w fun e w' => e = .returned (.float .f64 (x + 1)) ∧ w' = w := by
  have HB := bits_run x
  have HR := from_run (x + 1)
  have hc : ((x + 1 : Nat) : Int) = (x : Int) + 1 := by omega
  rw [hc] at HR
  have h1 : (x : Int) < 18446744073709551615 := by omega
  go_enter Tryz.func52, Tryz.ntmps52
  go_wp2_with fail
  go_ret
  exact ⟨rfl, rfl⟩

theorem ord_ge {x : Nat} (hx : Fi x) : FloatKind.f64.format.order x 0 = some (compare (sv x) 0) := by
  have h0 : Fi 0 := ⟨by decide, by decide⟩
  have hz : sv 0 = 0 := by decide
  rw [ordsv hx h0, hz]

set_option maxHeartbeats 1600000 in
set_option maxRecDepth 100000 in
theorem ndNext_any (x : Nat) (w : World) (hx : x < 18446744073709551616) :
    Calls Tryz.prog 16 #[.float .f64 x] w fun e w' => e = .returned (.tuple #[.float .f64 (nxt x).1, .int .i64 (nxt x).2]) ∧ Below w.heap.size w w' := by
  have HF := hid (fun V => refFinite_any x V hx)
  have hneg : ∀ x, Op.unary .neg (.float .f64 x) = pure (.float .f64 (fneg x)) := fun _ => rfl
  by_cases hf : fin x = true
  · rw [hf] at HF
    have hfi := (fi_fin hx).1 hf
    have hz : sv 0 = 0 := by decide
    have q2 := ord_ge hfi
    by_cases hn : 9223372036854775808 < x
    · obtain ⟨s, rfl⟩ : ∃ s, x = 9223372036854775808 + (s + 1) := ⟨x - 9223372036854775809, by omega⟩
      have hs : s + 1 < 9218868437227405312 := by have := hfi.2; omega
      have hlt : sv (9223372036854775808 + (s + 1)) < 0 := by
        rw [sv_high (by omega)]
        have := rungVal_lt (r := 0) (s := s + 1) (by omega)
        omega
      rw [Int.compare_eq_lt.2 hlt] at q2
      have e : nxt (9223372036854775808 + (s + 1)) = ((if s = 0 then 0 else 9223372036854775808 + s), 0) := by
        unfold nxt
        rw [if_pos hf, if_neg (by omega), if_pos hn]
        by_cases g : s = 0
        · subst g; rfl
        · rw [if_neg (by omega), if_neg g]; rfl
      have hfn : fneg (9223372036854775808 + (s + 1)) = s + 1 := by
        have e2 : fneg (9223372036854775808 + (s + 1)) = fopp (9223372036854775808 + (s + 1)) := rfl
        rw [e2, fopp_high (by omega) (by omega)]; omega
      have HB := fun V => bits_run (s + 1) V
      have HR := fun V => from_run s V
      have hcast : ((s + 1 : Nat) : Int) = (s : Int) + 1 := by omega
      rw [hcast] at HB
      have hs2 : (s : Int) < 9218868437227405312 := by omega
      have oz := nd_zero (x := s) (by omega)
      rw [e]
      by_cases g : s = 0
      · subst g
        rw [if_pos rfl]
        have oz' : (FloatKind.f64.format.order 0 0 == some .eq) = true := by decide
        have HB0 := fun V => bits_run 1 V
        have HR0 := fun V => from_run 0 V
        have hc1 : ((1 : Nat) : Int) = 1 := rfl
        have hc0 : ((0 : Nat) : Int) = 0 := rfl
        rw [hc1] at HB0
        rw [hc0] at HR0
        have hfn0 : fneg (9223372036854775808 + (0 + 1)) = 1 := hfn
        clear HB HR hfn hc1 hc0 hs2
        generalize 9223372036854775808 + (0 + 1) = X at *
        clear e hf hfi hz hx hs hlt hn oz hcast
        go_enter Tryz.func16, Tryz.ntmps16
        go_wp2_with fail
        refine Calls.mono (HF.out _) ?_
        rintro e w1 ⟨rfl, rfl⟩
        go_wp2_with fail
        go_returns
        exact ⟨rfl, Below.refl _ _⟩
      · rw [if_neg g]
        rw [decide_eq_false g] at oz
        have hfs : fneg s = 9223372036854775808 + s := by rw [fneg_pos (by omega)]; omega
        generalize 9223372036854775808 + (s + 1) = X at *
        clear e hf hfi hz hx hs hlt hn hcast g
        go_enter Tryz.func16, Tryz.ntmps16
        go_wp2_with fail
        refine Calls.mono (HF.out _) ?_
        rintro e w1 ⟨rfl, rfl⟩
        go_wp2_with fail
        go_returns
        exact ⟨rfl, Below.refl _ _⟩
    · have hge : 0 ≤ sv x := by
        rcases sv_at hx with ⟨_, e⟩ | ⟨t, ht, _, e⟩
        · rw [e]; omega
        · have : t = 0 := by omega
          rw [e, this]
          have : rungVal 0 = 0 := by decide
          omega
      have q3 : (compare (sv x) 0 == .gt || compare (sv x) 0 == .eq) = true := by
        rcases Int.lt_or_eq_of_le hge with g | g
        · rw [Int.compare_eq_gt.2 g]; rfl
        · rw [Int.compare_eq_eq.2 g.symm]; rfl
      have HA := hid (fun V => mAbs_any x V hx)
      have ha : x % 9223372036854775808 < 9218868437227405312 := hfi.2
      have HX := hid (fun V => ndnext_any (x % 9223372036854775808) V (by omega))
      have HG := hid (fun V => refFinite_any (x % 9223372036854775808 + 1) V (by omega))
      by_cases hm : x = 9218868437227405311
      · have e : nxt x = (0, 9) := by unfold nxt; rw [if_pos hf, if_pos hm]
        have hfn : fin (x % 9223372036854775808 + 1) = false := by rw [hm]; decide
        rw [hfn] at HG
        rw [e]
        generalize x % 9223372036854775808 = A at *
        clear e hm hfi hz hf hx hge ha hfn hn
        go_enter Tryz.func16, Tryz.ntmps16
        go_wp2_with fail
        refine Calls.mono (HF.out _) ?_
        rintro e w1 ⟨rfl, rfl⟩
        go_wp2_with fail
        refine Calls.mono (HA.out _) ?_
        rintro e w1 ⟨rfl, rfl⟩
        go_wp2_with fail
        refine Calls.mono (HX.out _) ?_
        rintro e w1 ⟨rfl, rfl⟩
        go_wp2_with fail
        refine Calls.mono (HG.out _) ?_
        rintro e w1 ⟨rfl, rfl⟩
        go_wp2_with fail
        go_returns
        exact ⟨rfl, Below.refl _ _⟩
      · have e : nxt x = (x % 9223372036854775808 + 1, 0) := by unfold nxt; rw [if_pos hf, if_neg hm, if_neg hn]
        have hfn : fin (x % 9223372036854775808 + 1) = true := (fin_iff _).2 (by omega)
        rw [hfn] at HG
        rw [e]
        generalize x % 9223372036854775808 = A at *
        clear e hm hfi hz hf hx hge ha hfn hn
        go_enter Tryz.func16, Tryz.ntmps16
        go_wp2_with fail
        refine Calls.mono (HF.out _) ?_
        rintro e w1 ⟨rfl, rfl⟩
        go_wp2_with fail
        refine Calls.mono (HA.out _) ?_
        rintro e w1 ⟨rfl, rfl⟩
        go_wp2_with fail
        refine Calls.mono (HX.out _) ?_
        rintro e w1 ⟨rfl, rfl⟩
        go_wp2_with fail
        refine Calls.mono (HG.out _) ?_
        rintro e w1 ⟨rfl, rfl⟩
        go_wp2_with fail
        refine Calls.mono (HA.out _) ?_
        rintro e w1 ⟨rfl, rfl⟩
        go_wp2_with fail
        refine Calls.mono (HX.out _) ?_
        rintro e w1 ⟨rfl, rfl⟩
        go_wp2_with fail
        go_returns
        exact ⟨rfl, Below.refl _ _⟩
  · have hf' : fin x = false := by simpa using hf
    have e : nxt x = (0, 8) := by unfold nxt; rw [if_neg hf]
    rw [hf'] at HF
    rw [e]
    clear e hf hf' hx hneg
    go_enter Tryz.func16, Tryz.ntmps16
    go_wp2_with fail
    refine Calls.mono (HF.out _) ?_
    rintro e w1 ⟨rfl, rfl⟩
    go_wp2_with fail
    go_returns
    exact ⟨rfl, Below.refl _ _⟩

set_option maxHeartbeats 800000 in
set_option maxRecDepth 100000 in
theorem gap_val (x : Nat) (w : World) (hx : Fi x) :
    Calls Tryz.prog 17 #[.float .f64 x] w fun e w' => e = .returned (.tuple #[.float .f64 (pow2 (funit x)), .int .i64 0]) ∧ Below w.heap.size w w' := by
  have hu := funit_le x
  have hu2 : funit x ≤ 1000 := by omega
  have HF := hid (finite_any x w hx.1)
  rw [(fi_fin hx.1).2 hx] at HF
  have HT := hid (takeApart_any x w hx.1)
  have HL := hid (fun V => Ldexp_one (funit x) V hu.1 hu2)
  generalize pow2 (funit x) = G at *
  clear hx hu2
  go_enter Tryz.func17, Tryz.ntmps17
  go_wp2_with fail
  refine Calls.mono HF.out ?_
  rintro e w1 ⟨rfl, rfl⟩
  go_wp2_with fail
  refine Calls.mono HT.out ?_
  rintro e w2 ⟨rfl, b2⟩
  have HB2 := hid b2
  have HL2 := hid (HL.out w2)
  have hfl : ∀ V, (Instr.field 65 (.agg #[.bool (x / 9223372036854775808 == 1), .int .u64 (fcount x : Int), .int .i64 (funit x)]) 2).run Tryz.prog V = .ok (.int .i64 (funit x)) V := fun V => field_two _ _ _ V
  clear HT HL b2 HF
  go_wp2_with fail
  refine Calls.mono HL2.out ?_
  rintro e w3 ⟨rfl, rfl⟩
  go_wp2_with fail
  go_returns
  exact ⟨rfl, HB2.out⟩

set_option maxHeartbeats 800000 in
set_option maxRecDepth 100000 in
theorem gap_bad (x : Nat) (w : World) (hx : x < 18446744073709551616) (hf : fin x = false) :
    Calls Tryz.prog 17 #[.float .f64 x] w fun e w' => e = .returned (.tuple #[.float .f64 0, .int .i64 8]) ∧ Below w.heap.size w w' := by
  have HF := hid (finite_any x w hx)
  rw [hf] at HF
  go_enter Tryz.func17, Tryz.ntmps17
  go_wp2_with fail
  refine Calls.mono HF.out ?_
  rintro e w1 ⟨rfl, rfl⟩
  go_wp2_with fail
  go_returns
  exact ⟨rfl, Below.refl _ _⟩

set_option maxHeartbeats 800000 in
set_option maxRecDepth 100000 in
theorem ndGap_bad (x : Nat) (w : World) (hx : x < 18446744073709551616) (hf : fin x = false) :
    Calls Tryz.prog 18 #[.float .f64 x] w fun e w' => e = .returned (.tuple #[.float .f64 0, .int .i64 8]) ∧ Below w.heap.size w w' := by
  have HF := hid (refFinite_any x w hx)
  rw [hf] at HF
  go_enter Tryz.func18, Tryz.ntmps18
  go_wp2_with fail
  refine Calls.mono HF.out ?_
  rintro e w1 ⟨rfl, rfl⟩
  go_wp2_with fail
  go_returns
  exact ⟨rfl, Below.refl _ _⟩

set_option maxHeartbeats 800000 in
set_option maxRecDepth 100000 in
theorem ndGap_val (x : Nat) (w : World) (hx : Fi x) :
    Calls Tryz.prog 18 #[.float .f64 x] w fun e w' => e = .returned (.tuple #[.float .f64 (pow2 (funit x)), .int .i64 0]) ∧ Below w.heap.size w w' := by
  have hu := funit_le x
  have hu2 : funit x ≤ 1000 := by omega
  have HF := hid (refFinite_any x w hx.1)
  rw [(fi_fin hx.1).2 hx] at HF
  have HB := bits_run x
  have h2 := and2047 x hx.1
  have HL := hid (fun V => Ldexp_one (funit x) V hu.1 hu2)
  generalize pow2 (funit x) = G at *
  by_cases hz : x / 4503599627370496 % 2048 = 0
  · have eu : funit x = -1074 := by unfold funit; rw [if_pos hz]
    rw [hz] at h2
    rw [eu] at HL
    clear hx hu2 hu hz eu
    go_enter Tryz.func18, Tryz.ntmps18
    go_wp2_with fail
    refine Calls.mono HF.out ?_
    rintro e w1 ⟨rfl, rfl⟩
    go_wp2_with fail
    refine Calls.mono (HL.out _) ?_
    rintro e w3 ⟨rfl, rfl⟩
    go_wp2_with fail
    go_returns
    exact ⟨rfl, Below.refl _ _⟩
  · have eu : funit x = -1074 + ((x / 4503599627370496 % 2048 : Nat) : Int) - 1 := by unfold funit; rw [if_neg hz]
    have hEq : ((x / 4503599627370496 % 2048 : Nat) : Int) = funit x + 1075 := by omega
    rw [hEq] at h2
    have hz' : (funit x + 1075 == 0) = false := beq_eq_false_iff_ne.2 (by omega)
    generalize funit x = f at *
    clear hx hu2 hz eu hEq
    go_enter Tryz.func18, Tryz.ntmps18
    go_wp2_with fail
    refine Calls.mono HF.out ?_
    rintro e w1 ⟨rfl, rfl⟩
    go_wp2_with fail
    refine Calls.mono (HL.out _) ?_
    rintro e w3 ⟨rfl, rfl⟩
    go_wp2_with fail
    go_returns
    exact ⟨rfl, Below.refl _ _⟩
end Go.Proofs.YtabkgpnckaaclaaGreatDoor

/- real.Compare of any float and fraction; real.Within refused; both beside the document's. -/
namespace Go.Proofs.YtabkgpnckaaclaaGreatDoor
open Go.RowKit
set_option linter.unusedVariables false

set_option maxHeartbeats 800000 in
set_option maxRecDepth 100000 in
theorem compare_fin (x : Nat) (n : Bool) (a : Option Addr) (ca : Nat) (xs : List Int) (b : Option Addr) (cb : Nat) (ys : List Int) (w : World) (hx : Fi x) (hT : TabB w) (sx : Sl w (.slice a xs.length ca) xs) (sy : Sl w (.slice b ys.length cb) ys) :
    Calls Tryz.prog 11 #[.float .f64 x, .agg #[.bool n, .slice a xs.length ca, .slice b ys.length cb]] w fun e w' => ∃ k zs ds code, e = .returned (.tuple #[.int .i64 (rcmp k zs ds n xs ys), .int .i64 (rboth k zs ds n xs ys)]) ∧ RTells 0 (fq x) k zs ds code ∧ Below w.heap.size w w' := by
  obtain ⟨X, hX⟩ : ∃ X, w.alloc (.cells #[.bool n, .slice a xs.length ca, .slice b ys.length cb] 25) = X := ⟨_, rfl⟩
  have b1 : Below w.heap.size w X := by rw [← hX]; exact alloc_later _ _
  have HBX : Hid (Box X w.heap.size 25 #[.bool n, .slice a xs.length ca, .slice b ys.length cb]) := by rw [← hX]; exact Box.made w _ _
  have HE := hid (exact_fin x X hx (hT.later b1))
  have HSX := hid (sx.later b1)
  have HSY := hid (sy.later b1)
  have HB1 := hid b1
  clear sx sy b1 hT hx
  go_enter Tryz.func11, Tryz.ntmps11
  go_wp2_with fail
  clear hX
  refine Calls.mono HE.out ?_
  rintro e w2 ⟨n', a', ca', b', cb', xs', ys', rfl, o1, o2, wx, wy, he', b2⟩
  have ht := rtells_self wx wy he'.1
  rw [he'.2.2] at ht
  have HT := hid ht
  obtain ⟨Y, hY⟩ : ∃ Y, w2.alloc (.cells #[.bool n', .slice a' xs'.length ca', .slice b' ys'.length cb'] 25) = Y := ⟨_, rfl⟩
  have b3 : Below w2.heap.size w2 Y := by rw [← hY]; exact alloc_later _ _
  have hBY : Box Y w2.heap.size 25 #[.bool n', .slice a' xs'.length ca', .slice b' ys'.length cb'] := by rw [← hY]; exact Box.made w2 _ _
  have hBX := HBX.out.later (bt b2 b3) HBX.out.lt
  have HC := hid (rCompare_full n' a' ca' xs' b' cb' ys' n a ca xs b cb ys Y (Sl.own (owns_later o1 b3) wx) (Sl.own (owns_later o2 b3) wy) ((HSX.out.later b2).later b3) ((HSY.out.later b2).later b3))
  have HBB := hid (bt HB1.out (bt b2 b3))
  have c0 : Y.cell? ⟨w2.heap.size, 0, none⟩ = some (.bool n') := hBY.cell 0
  have c1 : Y.cell? ⟨w2.heap.size, 1, none⟩ = some (.slice a' xs'.length ca') := hBY.cell 1
  have c2 : Y.cell? ⟨w2.heap.size, 2, none⟩ = some (.slice b' ys'.length cb') := hBY.cell 2
  have d0 : Y.cell? ⟨w.heap.size, 0, none⟩ = some (.bool n) := hBX.cell 0
  have d1 : Y.cell? ⟨w.heap.size, 1, none⟩ = some (.slice a xs.length ca) := hBX.cell 1
  have d2 : Y.cell? ⟨w.heap.size, 2, none⟩ = some (.slice b ys.length cb) := hBX.cell 2
  clear HE o1 o2 wx wy he' b2 b3 hBX hBY HSX HSY HB1 ht
  go_wp2_with fail
  refine Calls.mono HC.out ?_
  rintro e w3 ⟨rfl, b4⟩
  have HB4 := hid (bt HBB.out b4)
  clear HC b4 c0 c1 c2 d0 d1 d2 hY
  go_wp2_with fail
  go_returns
  exact ⟨n', xs', ys', 0, rfl, HT.out, HB4.out⟩

set_option maxHeartbeats 800000 in
set_option maxRecDepth 100000 in
theorem compare_bad (x : Nat) (n : Bool) (a : Option Addr) (la ca : Nat) (b : Option Addr) (lb cb : Nat) (w : World) (hx : x < 18446744073709551616) (hf : fin x = false) :
    Calls Tryz.prog 11 #[.float .f64 x, .agg #[.bool n, .slice a la ca, .slice b lb cb]] w fun e w' => e = .returned (.tuple #[.int .i64 0, .int .i64 8]) ∧ Below w.heap.size w w' := by
  obtain ⟨X, hX⟩ : ∃ X, w.alloc (.cells #[.bool n, .slice a la ca, .slice b lb cb] 25) = X := ⟨_, rfl⟩
  have HB1 : Hid (Below w.heap.size w X) := by rw [← hX]; exact alloc_later _ _
  have HE := hid (exact_bad x X hx hf)
  clear hx hf
  go_enter Tryz.func11, Tryz.ntmps11
  go_wp2_with fail
  clear hX
  refine Calls.mono HE.out ?_
  rintro e w2 ⟨rfl, b2⟩
  have HB2 : Hid (Below w.heap.size w (w2.alloc (.cells #[.bool false, .slice none 0 0, .slice none 0 0] 25))) := bt HB1.out (bt b2 (alloc_later _ _))
  clear HE b2
  go_wp2_with fail
  go_returns
  exact ⟨rfl, HB2.out⟩

set_option maxHeartbeats 1600000 in
set_option maxRecDepth 100000 in
theorem ends_bad (x y : Nat) (w : World) (hx : x < 18446744073709551616) (hy : y < 18446744073709551616) (hT : TabB w) (hf : fin x = false ∨ fin y = false) :
    Calls Tryz.prog 46 #[.float .f64 x, .float .f64 y] w fun e w' => e = .returned (.tuple #[.agg #[.bool false, .slice none 0 0, .slice none 0 0], .agg #[.bool false, .slice none 0 0, .slice none 0 0], .int .i64 8]) ∧ Below w.heap.size w w' := by
  obtain ⟨X, hX⟩ : ∃ X, (w.alloc (.cells #[.bool false, .slice none 0 0, .slice none 0 0] 25)).alloc (.cells #[.bool false, .slice none 0 0, .slice none 0 0] 25) = X := ⟨_, rfl⟩
  have b1 : Below w.heap.size w X := by rw [← hX]; exact bt (alloc_later _ _) (alloc_later _ _)
  have HB1 := hid b1
  have HP : Hid (Box X w.heap.size 25 #[.bool false, .slice none 0 0, .slice none 0 0]) := by rw [← hX]; exact (Box.made w _ _).later (alloc_later _ _) (Box.made w _ _).lt
  have HQ : Hid (Box X (w.heap.size + 1) 25 #[.bool false, .slice none 0 0, .slice none 0 0]) := by
    have h := Box.made (w.alloc (.cells #[.bool false, .slice none 0 0, .slice none 0 0] 25)) 25 #[.bool false, .slice none 0 0, .slice none 0 0]
    rw [show (w.alloc (.cells #[.bool false, .slice none 0 0, .slice none 0 0] 25)).heap.size = w.heap.size + 1 by simp, hX] at h
    exact h
  cases h1 : fin x
  · have HE := hid (exact_bad x X hx h1)
    clear hf h1 hx hy hT b1
    go_enter Tryz.func46, Tryz.ntmps46
    go_wp2_with fail
    clear hX
    refine Calls.mono HE.out ?_
    rintro e w2 ⟨rfl, b2⟩
    clear HE
    have bV : Below X.heap.size X (w2.alloc (.cells #[.bool false, .slice none 0 0, .slice none 0 0] 25)) := bt b2 (alloc_later _ _)
    clear b2
    have hPV := HP.out.later bV HP.out.lt
    have hQV := HQ.out.later bV HQ.out.lt
    have HBE := hid (bt HB1.out bV)
    have p0 : (w2.alloc (.cells #[.bool false, .slice none 0 0, .slice none 0 0] 25)).cell? ⟨w.heap.size, 0, none⟩ = some (.bool false) := hPV.cell 0
    have p1 : (w2.alloc (.cells #[.bool false, .slice none 0 0, .slice none 0 0] 25)).cell? ⟨w.heap.size, 1, none⟩ = some (.slice none 0 0) := hPV.cell 1
    have p2 : (w2.alloc (.cells #[.bool false, .slice none 0 0, .slice none 0 0] 25)).cell? ⟨w.heap.size, 2, none⟩ = some (.slice none 0 0) := hPV.cell 2
    have q0 : (w2.alloc (.cells #[.bool false, .slice none 0 0, .slice none 0 0] 25)).cell? ⟨w.heap.size + 1, 0, none⟩ = some (.bool false) := hQV.cell 0
    have q1 : (w2.alloc (.cells #[.bool false, .slice none 0 0, .slice none 0 0] 25)).cell? ⟨w.heap.size + 1, 1, none⟩ = some (.slice none 0 0) := hQV.cell 1
    have q2 : (w2.alloc (.cells #[.bool false, .slice none 0 0, .slice none 0 0] 25)).cell? ⟨w.heap.size + 1, 2, none⟩ = some (.slice none 0 0) := hQV.cell 2
    have j0 := hPV.free 0
    have j1 := hPV.free 1
    have j2 := hPV.free 2
    have i0 := hQV.free 0
    have i1 := hQV.free 1
    have i2 := hQV.free 2
    have m0 : (w2.alloc (.cells #[.bool false, .slice none 0 0, .slice none 0 0] 25)).setCell ⟨w.heap.size, 0, none⟩ (.bool false) = (w2.alloc (.cells #[.bool false, .slice none 0 0, .slice none 0 0] 25)) := hPV.same rfl
    have m1 : (w2.alloc (.cells #[.bool false, .slice none 0 0, .slice none 0 0] 25)).setCell ⟨w.heap.size, 1, none⟩ (.slice none 0 0) = (w2.alloc (.cells #[.bool false, .slice none 0 0, .slice none 0 0] 25)) := hPV.same rfl
    have m2 : (w2.alloc (.cells #[.bool false, .slice none 0 0, .slice none 0 0] 25)).setCell ⟨w.heap.size, 2, none⟩ (.slice none 0 0) = (w2.alloc (.cells #[.bool false, .slice none 0 0, .slice none 0 0] 25)) := hPV.same rfl
    have m3 : (w2.alloc (.cells #[.bool false, .slice none 0 0, .slice none 0 0] 25)).setCell ⟨w.heap.size + 1, 0, none⟩ (.bool false) = (w2.alloc (.cells #[.bool false, .slice none 0 0, .slice none 0 0] 25)) := hQV.same rfl
    have m4 : (w2.alloc (.cells #[.bool false, .slice none 0 0, .slice none 0 0] 25)).setCell ⟨w.heap.size + 1, 1, none⟩ (.slice none 0 0) = (w2.alloc (.cells #[.bool false, .slice none 0 0, .slice none 0 0] 25)) := hQV.same rfl
    have m5 : (w2.alloc (.cells #[.bool false, .slice none 0 0, .slice none 0 0] 25)).setCell ⟨w.heap.size + 1, 2, none⟩ (.slice none 0 0) = (w2.alloc (.cells #[.bool false, .slice none 0 0, .slice none 0 0] 25)) := hQV.same rfl
    clear hPV hQV bV
    go_wp2_with fail
    refine bodyPost_ret (v := .tuple #[.agg #[.bool false, .slice none 0 0, .slice none 0 0], .agg #[.bool false, .slice none 0 0, .slice none 0 0], .int .i64 8]) (by simp [results, Tryz.results46, go_sem, p0, p1, p2, q0, q1, q2]) rfl ?_
    exact ⟨rfl, HBE.out⟩
  · have h2 : fin y = false := hf.resolve_left (by rw [h1]; simp)
    have HE := hid (exact_fin x X ((fi_fin hx).1 h1) (hT.later b1))
    have HY := hid (fun U => exact_bad y U hy h2)
    clear hf h1 h2 hx hy hT b1
    go_enter Tryz.func46, Tryz.ntmps46
    go_wp2_with fail
    clear hX
    refine Calls.mono HE.out ?_
    rintro e w2 ⟨n', a', ca', b', cb', xs', ys', rfl, o1, o2, wx, wy, he', b2⟩
    clear HE o1 o2 wx wy he'
    obtain ⟨U, hU⟩ : ∃ U, w2.alloc (.cells #[.bool n', .slice a' xs'.length ca', .slice b' ys'.length cb'] 25) = U := ⟨_, rfl⟩
    have bU : Below X.heap.size X U := bt b2 (by rw [← hU]; exact alloc_later _ _)
    have HY2 := hid (HY.out U)
    clear b2 HY
    go_wp2_with fail
    clear hU
    refine Calls.mono HY2.out ?_
    rintro e w3 ⟨rfl, b3⟩
    have bV : Below X.heap.size X (w3.alloc (.cells #[.bool false, .slice none 0 0, .slice none 0 0] 25)) := bt bU (bt b3 (alloc_later _ _))
    clear b3 bU HY2
    have hPV := HP.out.later bV HP.out.lt
    have hQV := HQ.out.later bV HQ.out.lt
    have HBE := hid (bt HB1.out bV)
    have p0 : (w3.alloc (.cells #[.bool false, .slice none 0 0, .slice none 0 0] 25)).cell? ⟨w.heap.size, 0, none⟩ = some (.bool false) := hPV.cell 0
    have p1 : (w3.alloc (.cells #[.bool false, .slice none 0 0, .slice none 0 0] 25)).cell? ⟨w.heap.size, 1, none⟩ = some (.slice none 0 0) := hPV.cell 1
    have p2 : (w3.alloc (.cells #[.bool false, .slice none 0 0, .slice none 0 0] 25)).cell? ⟨w.heap.size, 2, none⟩ = some (.slice none 0 0) := hPV.cell 2
    have q0 : (w3.alloc (.cells #[.bool false, .slice none 0 0, .slice none 0 0] 25)).cell? ⟨w.heap.size + 1, 0, none⟩ = some (.bool false) := hQV.cell 0
    have q1 : (w3.alloc (.cells #[.bool false, .slice none 0 0, .slice none 0 0] 25)).cell? ⟨w.heap.size + 1, 1, none⟩ = some (.slice none 0 0) := hQV.cell 1
    have q2 : (w3.alloc (.cells #[.bool false, .slice none 0 0, .slice none 0 0] 25)).cell? ⟨w.heap.size + 1, 2, none⟩ = some (.slice none 0 0) := hQV.cell 2
    have j0 := hPV.free 0
    have j1 := hPV.free 1
    have j2 := hPV.free 2
    have i0 := hQV.free 0
    have i1 := hQV.free 1
    have i2 := hQV.free 2
    have m0 : (w3.alloc (.cells #[.bool false, .slice none 0 0, .slice none 0 0] 25)).setCell ⟨w.heap.size, 0, none⟩ (.bool false) = (w3.alloc (.cells #[.bool false, .slice none 0 0, .slice none 0 0] 25)) := hPV.same rfl
    have m1 : (w3.alloc (.cells #[.bool false, .slice none 0 0, .slice none 0 0] 25)).setCell ⟨w.heap.size, 1, none⟩ (.slice none 0 0) = (w3.alloc (.cells #[.bool false, .slice none 0 0, .slice none 0 0] 25)) := hPV.same rfl
    have m2 : (w3.alloc (.cells #[.bool false, .slice none 0 0, .slice none 0 0] 25)).setCell ⟨w.heap.size, 2, none⟩ (.slice none 0 0) = (w3.alloc (.cells #[.bool false, .slice none 0 0, .slice none 0 0] 25)) := hPV.same rfl
    have m3 : (w3.alloc (.cells #[.bool false, .slice none 0 0, .slice none 0 0] 25)).setCell ⟨w.heap.size + 1, 0, none⟩ (.bool false) = (w3.alloc (.cells #[.bool false, .slice none 0 0, .slice none 0 0] 25)) := hQV.same rfl
    have m4 : (w3.alloc (.cells #[.bool false, .slice none 0 0, .slice none 0 0] 25)).setCell ⟨w.heap.size + 1, 1, none⟩ (.slice none 0 0) = (w3.alloc (.cells #[.bool false, .slice none 0 0, .slice none 0 0] 25)) := hQV.same rfl
    have m5 : (w3.alloc (.cells #[.bool false, .slice none 0 0, .slice none 0 0] 25)).setCell ⟨w.heap.size + 1, 2, none⟩ (.slice none 0 0) = (w3.alloc (.cells #[.bool false, .slice none 0 0, .slice none 0 0] 25)) := hQV.same rfl
    clear hPV hQV bV
    go_wp2_with fail
    refine bodyPost_ret (v := .tuple #[.agg #[.bool false, .slice none 0 0, .slice none 0 0], .agg #[.bool false, .slice none 0 0, .slice none 0 0], .int .i64 8]) (by simp [results, Tryz.results46, go_sem, p0, p1, p2, q0, q1, q2]) rfl ?_
    exact ⟨rfl, HBE.out⟩

set_option maxHeartbeats 800000 in
set_option maxRecDepth 100000 in
theorem within_bad (x y : Nat) (n : Bool) (a : Option Addr) (la ca : Nat) (b : Option Addr) (lb cb : Nat) (w : World) (hx : x < 18446744073709551616) (hy : y < 18446744073709551616) (hT : TabB w) (hf : fin x = false ∨ fin y = false) :
    Calls Tryz.prog 13 #[.float .f64 x, .agg #[.bool n, .slice a la ca, .slice b lb cb], .float .f64 y] w fun e w' => e = .returned (.tuple #[.bool false, .int .i64 8]) ∧ Below w.heap.size w w' := by
  obtain ⟨X, hX⟩ : ∃ X, w.alloc (.cells #[.bool n, .slice a la ca, .slice b lb cb] 25) = X := ⟨_, rfl⟩
  have b1 : Below w.heap.size w X := by rw [← hX]; exact alloc_later _ _
  have HE := hid (ends_bad x y X hx hy (hT.later b1) hf)
  have HB1 := hid b1
  clear hx hy hf hT b1
  go_enter Tryz.func13, Tryz.ntmps13
  go_wp2_with fail
  clear hX
  refine Calls.mono HE.out ?_
  rintro e w2 ⟨rfl, b2⟩
  have HB2 : Hid (Below w.heap.size w ((w2.alloc (.cells #[.bool false, .slice none 0 0, .slice none 0 0] 25)).alloc (.cells #[.bool false, .slice none 0 0, .slice none 0 0] 25))) := bt HB1.out (bt b2 (bt (alloc_later _ _) (alloc_later _ _)))
  clear HE b2
  go_wp2_with fail
  go_returns
  exact ⟨rfl, HB2.out⟩
end Go.Proofs.YtabkgpnckaaclaaGreatDoor

/- real's calls and the document's, each beside the other, of any float: Exact, Compare, Within, Gap. -/
namespace Go.Proofs.YtabkgpnckaaclaaGreatDoor
open Go.RowKit
set_option linter.unusedVariables false

/-- A fraction told, as slices. -/
def RTl (w : World) (e : Int) (q : Rat) (x : Ending) (w' : World) : Prop :=
  ∃ n a ca b cb xs ys code, x = .returned (.tuple #[.agg #[.bool n, .slice a (List.length xs) ca, .slice b (List.length ys) cb], .int .i64 code]) ∧ w'.ownsRow w.heap.size 88 1 (.slice a xs.length ca) xs.length (xs.map (Value.int .u32)) ∧ w'.ownsRow w.heap.size 88 1 (.slice b ys.length cb) ys.length (ys.map (Value.int .u32)) ∧ RTells e q n xs ys code ∧ Below w.heap.size w w'

theorem ndExact_all (x : Nat) (w : World) (hx : x < 18446744073709551616) : Calls Tryz.prog 8 #[.float .f64 x] w (RTl w (if fin x then 0 else 8) (fq x)) := by
  cases hf : fin x
  · refine Calls.mono (ndExact_bad x w hx hf) ?_
    rintro e w' ⟨rfl, hb⟩
    exact ⟨false, none, 0, none, 0, [], [], 8, rfl, World.ownsRow_nil _ _ _ _, World.ownsRow_nil _ _ _ _, RTells.err (by decide), hb⟩
  · refine Calls.mono (ndExact_fin x w hx hf) ?_
    rintro e w' ⟨n, a, ca, b, cb, zs, ds, code, rfl, o1, o2, ht, hb⟩
    have hc := (ht.good rfl (nd_short1 ((fi_fin hx).1 hf))).1
    subst hc
    exact ⟨n, a, ca, b, cb, zs, ds, 0, rfl, o1, o2, ht, hb⟩

/-- What Compare tells. -/
def CmpT (x : Nat) (n : Bool) (xs ys : List Int) (v e : Int) : Prop :=
  (fin x = false ∧ v = 0 ∧ e = 8) ∨ (fin x = true ∧ ∃ k zs ds code, RTells 0 (fq x) k zs ds code ∧ v = rcmp k zs ds n xs ys ∧ e = rboth k zs ds n xs ys)
theorem CmpT.one {x : Nat} {n : Bool} {xs ys : List Int} {v e u f : Int} (h : CmpT x n xs ys v e) (g : CmpT x n xs ys u f) : v = u ∧ e = f := by
  rcases h with ⟨h1, h2, h3⟩ | ⟨h1, k, zs, ds, c, ht, h2, h3⟩
  · rcases g with ⟨g1, g2, g3⟩ | ⟨g1, _⟩
    · exact ⟨by rw [h2, g2], by rw [h3, g3]⟩
    · rw [h1] at g1; cases g1
  · rcases g with ⟨g1, _⟩ | ⟨g1, k', zs', ds', c', gt, g2, g3⟩
    · rw [h1] at g1; cases g1
    · obtain ⟨rfl, rfl, rfl, _⟩ := ht.same gt
      exact ⟨by rw [h2, g2], by rw [h3, g3]⟩
theorem compare_all (x : Nat) (n : Bool) (a : Option Addr) (ca : Nat) (xs : List Int) (b : Option Addr) (cb : Nat) (ys : List Int) (w : World) (hx : x < 18446744073709551616) (hT : TabB w) (sx : Sl w (.slice a xs.length ca) xs) (sy : Sl w (.slice b ys.length cb) ys) :
    Calls Tryz.prog 11 #[.float .f64 x, .agg #[.bool n, .slice a xs.length ca, .slice b ys.length cb]] w fun e w' => ∃ v c, e = .returned (.tuple #[.int .i64 v, .int .i64 c]) ∧ CmpT x n xs ys v c ∧ Below w.heap.size w w' := by
  cases hf : fin x
  · refine Calls.mono (compare_bad x n a _ ca b _ cb w hx hf) ?_
    rintro e w' ⟨rfl, hb⟩
    exact ⟨0, 8, rfl, .inl ⟨hf, rfl, rfl⟩, hb⟩
  · refine Calls.mono (compare_fin x n a ca xs b cb ys w ((fi_fin hx).1 hf) hT sx sy) ?_
    rintro e w' ⟨k, zs, ds, code, rfl, ht, hb⟩
    exact ⟨_, _, rfl, .inr ⟨hf, k, zs, ds, code, ht, rfl, rfl⟩, hb⟩
theorem ndCompare_all (x : Nat) (n : Bool) (a : Option Addr) (ca : Nat) (xs : List Int) (b : Option Addr) (cb : Nat) (ys : List Int) (w : World) (hx : x < 18446744073709551616) (sx : Sl w (.slice a xs.length ca) xs) (sy : Sl w (.slice b ys.length cb) ys) (lx : xs.length ≤ 281474976710656) (ly : ys.length ≤ 281474976710656) :
    Calls Tryz.prog 12 #[.float .f64 x, .agg #[.bool n, .slice a xs.length ca, .slice b ys.length cb]] w fun e w' => ∃ v c, e = .returned (.tuple #[.int .i64 v, .int .i64 c]) ∧ CmpT x n xs ys v c ∧ Below w.heap.size w w' := by
  cases hf : fin x
  · refine Calls.mono (ndCompare_bad x undef n a _ ca b _ cb w hx hf) ?_
    rintro e w' ⟨rfl, hb⟩
    exact ⟨0, 8, rfl, .inl ⟨hf, rfl, rfl⟩, hb⟩
  · refine Calls.mono (ndCompare_fin x n a ca xs b cb ys w hx hf sx sy lx ly) ?_
    rintro e w' ⟨k, zs, ds, code, rfl, ht, hb⟩
    exact ⟨_, _, rfl, .inr ⟨hf, k, zs, ds, code, ht, rfl, rfl⟩, hb⟩

/-- What Within tells: the program's, the document's. -/
def WpT (x y : Nat) (n : Bool) (xs ys : List Int) (B : Bool) (c : Int) : Prop := ((fin x = false ∨ fin y = false) ∧ B = false ∧ c = 8) ∨ (Fi x ∧ Fi y ∧ WiT x y n xs ys B c)
def WqT (x y : Nat) (n : Bool) (xs ys : List Int) (B : Bool) (c : Int) : Prop := ((fin x = false ∨ fin y = false) ∧ B = false ∧ c = 8) ∨ (Fi x ∧ Fi y ∧ WdT x y n xs ys B c)
theorem within_one {x y : Nat} {n : Bool} {xs ys : List Int} {B D : Bool} {c d : Int} (h : WpT x y n xs ys B c) (g : WqT x y n xs ys D d) : B = D ∧ c = d := by
  have no : Fi x → Fi y → ¬ (fin x = false ∨ fin y = false) := fun fx fy h => by
    rcases h with h | h
    · rw [(fi_fin fx.1).2 fx] at h; cases h
    · rw [(fi_fin fy.1).2 fy] at h; cases h
  rcases h with ⟨h1, h2, h3⟩ | ⟨h1, h2, h3⟩
  · rcases g with ⟨g1, g2, g3⟩ | ⟨g1, g2, g3⟩
    · exact ⟨by rw [h2, g2], by rw [h3, g3]⟩
    · exact absurd h1 (no g1 g2)
  · rcases g with ⟨g1, g2, g3⟩ | ⟨g1, g2, g3⟩
    · exact absurd g1 (no h1 h2)
    · exact within_same h1 h2 h3 g3
theorem within_all (x y : Nat) (n : Bool) (a : Option Addr) (ca : Nat) (xs : List Int) (b : Option Addr) (cb : Nat) (ys : List Int) (w : World) (hx : x < 18446744073709551616) (hy : y < 18446744073709551616) (hT : TabB w) (sx : Sl w (.slice a xs.length ca) xs) (sy : Sl w (.slice b ys.length cb) ys) :
    Calls Tryz.prog 13 #[.float .f64 x, .agg #[.bool n, .slice a xs.length ca, .slice b ys.length cb], .float .f64 y] w fun e w' => ∃ B c, e = .returned (.tuple #[.bool B, .int .i64 c]) ∧ WpT x y n xs ys B c ∧ Below w.heap.size w w' := by
  by_cases hf : fin x = false ∨ fin y = false
  · refine Calls.mono (within_bad x y n a _ ca b _ cb w hx hy hT hf) ?_
    rintro e w' ⟨rfl, hb⟩
    exact ⟨false, 8, rfl, .inl ⟨hf, rfl, rfl⟩, hb⟩
  · have f1 : fin x = true := by cases h : fin x; exact absurd (.inl h) hf; rfl
    have f2 : fin y = true := by cases h : fin y; exact absurd (.inr h) hf; rfl
    have g1 := (fi_fin hx).1 f1
    have g2 := (fi_fin hy).1 f2
    refine Calls.mono (within_fin x y n a ca xs b cb ys w g1 g2 hT sx sy) ?_
    rintro e w' ⟨B, c, rfl, h, hb⟩
    exact ⟨B, c, rfl, .inr ⟨g1, g2, h⟩, hb⟩
theorem ndWithin_all (x y : Nat) (n : Bool) (a : Option Addr) (ca : Nat) (xs : List Int) (b : Option Addr) (cb : Nat) (ys : List Int) (w : World) (hx : x < 18446744073709551616) (hy : y < 18446744073709551616) (sx : Sl w (.slice a xs.length ca) xs) (sy : Sl w (.slice b ys.length cb) ys) (lx : xs.length ≤ 281474976710656) (ly : ys.length ≤ 281474976710656) :
    Calls Tryz.prog 14 #[.float .f64 x, .agg #[.bool n, .slice a xs.length ca, .slice b ys.length cb], .float .f64 y] w fun e w' => ∃ B c, e = .returned (.tuple #[.bool B, .int .i64 c]) ∧ WqT x y n xs ys B c ∧ Below w.heap.size w w' := by
  by_cases hf : fin x = false ∨ fin y = false
  · refine Calls.mono (ndWithin_bad x y n a _ ca b _ cb w hx hy hf) ?_
    rintro e w' ⟨rfl, hb⟩
    exact ⟨false, 8, rfl, .inl ⟨hf, rfl, rfl⟩, hb⟩
  · have f1 : fin x = true := by cases h : fin x; exact absurd (.inl h) hf; rfl
    have f2 : fin y = true := by cases h : fin y; exact absurd (.inr h) hf; rfl
    have g1 := (fi_fin hx).1 f1
    have g2 := (fi_fin hy).1 f2
    refine Calls.mono (ndWithin_fin x y n a ca xs b cb ys w g1 g2 sx sy lx ly) ?_
    rintro e w' ⟨B, c, rfl, h, hb⟩
    exact ⟨B, c, rfl, .inr ⟨g1, g2, h⟩, hb⟩

/-- What Gap tells. -/
def gapV (x : Nat) : Nat × Int := if fin x then (pow2 (funit x), 0) else (0, 8)
theorem gap_all (x : Nat) (w : World) (hx : x < 18446744073709551616) : Calls Tryz.prog 17 #[.float .f64 x] w fun e w' => e = .returned (.tuple #[.float .f64 (gapV x).1, .int .i64 (gapV x).2]) ∧ Below w.heap.size w w' := by
  unfold gapV
  cases hf : fin x
  · exact gap_bad x w hx hf
  · exact gap_val x w ((fi_fin hx).1 hf)
theorem ndGap_all (x : Nat) (w : World) (hx : x < 18446744073709551616) : Calls Tryz.prog 18 #[.float .f64 x] w fun e w' => e = .returned (.tuple #[.float .f64 (gapV x).1, .int .i64 (gapV x).2]) ∧ Below w.heap.size w w' := by
  unfold gapV
  cases hf : fin x
  · exact ndGap_bad x w hx hf
  · exact ndGap_val x w ((fi_fin hx).1 hf)

/-- Two lists that lie apart. -/
def Ap (v u : Value) : Prop := v.ownBlock = none ∨ v.ownBlock ≠ u.ownBlock
theorem Ap.far {v u : Value} {a b c d : Nat} (h : Within v a b) (g : Within u c d) (hd : b ≤ c ∨ d ≤ a) : Ap v u := by
  cases e : v.ownBlock with
  | none => exact .inl e
  | some k =>
    refine .inr ?_
    intro f
    rw [e] at f
    have h1 := h k e
    have h2 := g k f.symm
    omega
theorem Ap.turn {v u : Value} (h : Ap v u) : Ap u v := by
  cases e : u.ownBlock with
  | none => exact .inl e
  | some k =>
    refine .inr ?_
    intro f
    rcases h with h | h
    · rw [e] at f; rw [h] at f; cases f
    · exact h f.symm
theorem Ap.rows {w : World} {base n m c d : Nat} {a b : Option Addr} {xs ys : List Value} (h : w.ownsRow base 88 1 (.slice a n c) n xs) (g : w.ownsRow base 88 1 (.slice b m d) m ys) (hab : a = none ∨ a ≠ b) : Ap (.slice a n c) (.slice b m d) := by
  rcases h.2 with ⟨h1, _⟩ | ⟨k, cap, cur, hv, _⟩
  · cases h1; exact .inl rfl
  · rcases g.2 with ⟨g1, _⟩ | ⟨l, cap', cur', gv, _⟩
    · cases g1
      cases hv
      exact .inr (by simp [Value.ownBlock])
    · cases hv
      cases gv
      refine .inr ?_
      rcases hab with hab | hab
      · cases hab
      · intro e
        simp [Value.ownBlock] at e
        exact hab (by rw [e])
/-- Six lists, two by two in three places. -/
theorem ap_six {v : Nat → Value} (a0 a1 b0 b1 c0 c1 : Nat) (i0 : Within (v 0) a0 a1) (i1 : Within (v 1) a0 a1) (i2 : Within (v 2) b0 b1) (i3 : Within (v 3) b0 b1) (i4 : Within (v 4) c0 c1) (i5 : Within (v 5) c0 c1) (h1 : c1 ≤ a0) (h2 : a1 ≤ b0) (h3 : a0 ≤ a1) (p0 : Ap (v 0) (v 1)) (p2 : Ap (v 2) (v 3)) (p4 : Ap (v 4) (v 5)) :
    ∀ i j, i < 6 → j < 6 → i ≠ j → (v i).ownBlock = none ∨ (v i).ownBlock ≠ (v j).ownBlock := by
  intro i j hi hj hne
  match i, hi, j, hj with
  | 0, _, 0, _ => omega
  | 0, _, 1, _ => exact p0
  | 0, _, 2, _ => exact Ap.far i0 i2 (by omega)
  | 0, _, 3, _ => exact Ap.far i0 i3 (by omega)
  | 0, _, 4, _ => exact Ap.far i0 i4 (by omega)
  | 0, _, 5, _ => exact Ap.far i0 i5 (by omega)
  | 1, _, 0, _ => exact p0.turn
  | 1, _, 1, _ => omega
  | 1, _, 2, _ => exact Ap.far i1 i2 (by omega)
  | 1, _, 3, _ => exact Ap.far i1 i3 (by omega)
  | 1, _, 4, _ => exact Ap.far i1 i4 (by omega)
  | 1, _, 5, _ => exact Ap.far i1 i5 (by omega)
  | 2, _, 0, _ => exact Ap.far i2 i0 (by omega)
  | 2, _, 1, _ => exact Ap.far i2 i1 (by omega)
  | 2, _, 2, _ => omega
  | 2, _, 3, _ => exact p2
  | 2, _, 4, _ => exact Ap.far i2 i4 (by omega)
  | 2, _, 5, _ => exact Ap.far i2 i5 (by omega)
  | 3, _, 0, _ => exact Ap.far i3 i0 (by omega)
  | 3, _, 1, _ => exact Ap.far i3 i1 (by omega)
  | 3, _, 2, _ => exact p2.turn
  | 3, _, 3, _ => omega
  | 3, _, 4, _ => exact Ap.far i3 i4 (by omega)
  | 3, _, 5, _ => exact Ap.far i3 i5 (by omega)
  | 4, _, 0, _ => exact Ap.far i4 i0 (by omega)
  | 4, _, 1, _ => exact Ap.far i4 i1 (by omega)
  | 4, _, 2, _ => exact Ap.far i4 i2 (by omega)
  | 4, _, 3, _ => exact Ap.far i4 i3 (by omega)
  | 4, _, 4, _ => omega
  | 4, _, 5, _ => exact p4
  | 5, _, 0, _ => exact Ap.far i5 i0 (by omega)
  | 5, _, 1, _ => exact Ap.far i5 i1 (by omega)
  | 5, _, 2, _ => exact Ap.far i5 i2 (by omega)
  | 5, _, 3, _ => exact Ap.far i5 i3 (by omega)
  | 5, _, 4, _ => exact p4.turn
  | 5, _, 5, _ => omega
theorem Within.owns {w : World} {base n : Nat} {v : Value} {xs : List Value} (h : w.ownsRow base 88 1 v n xs) : Within v base w.heap.size := fun g hg => h.lt g hg
end Go.Proofs.YtabkgpnckaaclaaGreatDoor

/- Lists that lie apart: the kit's ApartWords, for a list of lists with room behind it. -/
namespace Go.Proofs.YtabkgpnckaaclaaGreatDoor
open Go.RowKit
set_option linter.unusedVariables false

set_option maxHeartbeats 3200000 in
set_option maxRecDepth 100000 in
theorem apart_cap (base bl m cp : Nat) (V : Nat → Value) (X : Nat → List Int) (w : World) (h : Lists w base bl m V X) (hm : m ≤ 1000) (hbs : base ≤ w.heap.size) (hcp : m ≤ cp) :
    Calls Tryz.prog 56 #[.slice (some ⟨bl, 0, none⟩) m cp] w fun e w' => e = .returned (.bool true) ∧ Below base w w' := by
  obtain ⟨i0, hi, hz0, hz1, hz2⟩ := info_parts Tryz.infoL
  obtain ⟨hwd, hlen, hown, hap, hrow⟩ := h
  have hbl : bl < w.heap.size := by obtain ⟨cl, h1, _⟩ := hrow; exact block_lt h1
  have HO := hid hown
  have HA := hid hap
  have HR := hid hrow
  have HW := hid hwd
  have HN := hid hlen
  clear hown hap hrow hwd hlen
  go_enter Tryz.func56, Tryz.ntmps56
  go_wp2_with (at_make; refine wpList_make_full _ rfl _ _ 82 rfl w.heap.size 23 i0 (.slice none 0 0) 1 Tryz.underlying82 hi hz0 hz1 _ _ _ _ m rfl rfl (by omega) (by omega) (by rw [hz2]; omega) (by unfold maxLen; omega) (Nat.le_refl _) ?_)
  intro w1 hown1 hgrow1
  have H1 : Hid (I1 w m X 0 w1) := ⟨_, by have := hown1.1; omega, row_whole hown1, fun j hj => by omega, (Below.refl _ _).grown hgrow1 (Nat.le_refl _) (fun k hk => by simp at hk)⟩
  clear hown1 hgrow1
  go_wp2_with fail
  go_loopw [4] (fun t wr => ∃ k : Nat, k ≤ m ∧ t = .int .i64 k ∧ Hid (I1 w m X k wr)) (fun t _ => m - (intOf t).toNat)
  case atStart => exact ⟨0, by omega, rfl, H1⟩
  case round =>
    obtain ⟨k, hk, rfl, HI⟩ := hrel
    by_cases hlt : k < m
    · obtain ⟨us, ul, ug, uu, ub⟩ := HI.out
      have hgw := block_lt ug
      have ubs := ub.size
      have hcl : wr.cell? ⟨bl, k, none⟩ = some (V k) := (ub.cell (p := ⟨bl, k, none⟩) hbl).trans (row_cell HR.out k hlt)
      have hsl : Sl wr (V k) (X k) := (Sl.own (HO.out k hlt) (HW.out k hlt)).later ub
      have hX := HN.out k hlt
      have HS := hid hsl
      obtain ⟨a1, c1, hv, hr⟩ := hsl
      rw [hv] at hcl
      clear uu ub hr
      go_wp2_with fail
      rw [← hv]
      refine (copyWords_sl _ (X k) _ HS.out hX).mono ?_
      rintro e w2 ⟨v, rfl, ho2, hb2⟩
      have HI2 := hid (HI.out.step hlt ho2 hb2)
      have hc2 : w2.cell? ⟨w.heap.size, k, none⟩ = some (us.toArray[k]?.getD undef) := by
        rw [cell_of_row w2 w.heap.size k us.toArray 23 (0, 0) ((hb2.block _ hgw).trans ug)]
        simp [ul, hlt]
      have hf2 : w2.frozen? ⟨w.heap.size, k, none⟩ = false := frozen_of_row w2 w.heap.size k us.toArray 23 ((hb2.block _ hgw).trans ug)
      obtain ⟨a3, c3, hv3, _⟩ := Sl.own ho2 (HW.out k hlt)
      rw [hv3] at HI2 ⊢
      clear ho2 hb2 ug
      go_wp2_with fail
      go_roundw
      case rel => exact ⟨k + 1, by omega, by go_num, HI2⟩
      case measure => simp [intOf]; omega
    · have hkm : k = m := by omega
      subst hkm
      obtain ⟨us, ul, ug, uu, ub⟩ := HI.out
      obtain ⟨w2, hw2⟩ : ∃ w2 : World, w2 = wr := ⟨_, rfl⟩
      subst hw2
      obtain ⟨gw, hgw⟩ : ∃ gw, gw = w.heap.size := ⟨_, rfl⟩
      have H2 : Hid (I2 w base bl gw k V (fun j => us[j]?.getD undef) X 0 w2) := by
        subst hgw
        refine ⟨fun j hj => ?_, fun j hj => ?_, fun j hj g e => ((HO.out j hj).lt g e).2, ?_, ⟨us.toArray, ug, fun j hj => ?_⟩, ub.mono hbs⟩
        · rw [if_neg (by omega)]; exact owns_later (HO.out j hj) ub
        · obtain ⟨u, h1, h2⟩ := uu j hj
          simp only [h1]; exact h2
        · obtain ⟨cl, h1, h2⟩ := HR.out
          exact ⟨cl, (ub.block _ (block_lt h1)).trans h1, h2⟩
        · simp [ul, hj]
      obtain ⟨U, hU⟩ : ∃ U : Nat → Value, U = fun j => us[j]?.getD undef := ⟨_, rfl⟩
      rw [← hU] at H2
      have hgwl : gw < w2.heap.size := by rw [hgw]; exact block_lt ug
      have hb2 : base ≤ w2.heap.size := by omega
      rw [← hgw]
      clear hU ug uu ub HI ul hgw HO HR H1
      go_wp2_with fail
      go_loopw [5] (fun t wr => ∃ i : Nat, i ≤ k ∧ t = .int .i64 i ∧ Hid (I2 w base bl gw k V U X i wr) ∧ w2.heap.size ≤ wr.heap.size) (fun t _ => k - (intOf t).toNat)
      case atStart => exact ⟨0, by omega, rfl, H2, Nat.le_refl _⟩
      case round =>
        obtain ⟨i, hi', rfl, HJ, hws⟩ := hrel
        by_cases hlt : i < k
        · have hcl : wr.cell? ⟨bl, i, none⟩ = some (V i) := row_cell HJ.out.rowL i hlt
          have hcw : wr.cell? ⟨gw, i, none⟩ = some (U i) := row_cell HJ.out.rowW i hlt
          have sv : Sl wr (V i) (X i) := by
            have := HJ.out.lists i hlt
            rw [if_neg (by omega)] at this
            exact Sl.own this (HW.out i hlt)
          have su : Sl wr (U i) (X i) := Sl.own (HJ.out.was i hlt) (HW.out i hlt)
          have hX := HN.out i hlt
          obtain ⟨a1, c1, hv1, hr1⟩ := sv
          obtain ⟨a2, c2, hv2, hr2⟩ := su
          rw [hv1] at hcl
          rw [hv2] at hcw
          have hcld : wr.drew.cell? ⟨bl, i, none⟩ = some (.slice a1 (X i).length c1) := hcl
          have hcwd : wr.drew.cell? ⟨gw, i, none⟩ = some (.slice a2 (X i).length c2) := hcw
          have HC := hid (same_any a1 _ c1 (X i) a2 _ c2 (X i) wr.drew hr1 hr2 (by omega) (by omega))
          clear hr1 hr2
          go_wp2_with fail
          go_region_with (go_at_call 54; refine Calls.mono HC.out ?_; rintro e wa ⟨rfl, hba⟩)
          all_goals
            have hbw : Below wr.heap.size wr wa := ((Below.refl _ wr).drew).trans hba
            have HJ2 := hid (HJ.out.later hbw (by omega))
            have hsz2 := hbw.size
            have hcl2 : wa.cell? ⟨bl, i, none⟩ = some (V i) := row_cell HJ2.out.rowL i hlt
            rw [hv1] at hcl2
            have hown : wa.ownsRow base 88 1 (V i) (X i).length ((X i).map (Value.int .u32)) := by
              have := HJ2.out.lists i hlt
              rwa [if_neg (by omega)] at this
            have HOV := hid (over_sl base _ _ (X i) wa (HW.out i hlt) hown)
            have hdd : decide (X i = X i) = true := by simp
            clear hba hbw hown hcl hcw hcld hcwd HC
            go_wp2_with fail
            rw [← hv1]
            refine Calls.mono HOV.out ?_
            rintro e wb ⟨rfl, hob, hgb⟩
            have HJ3 := hid (HJ2.out.step hlt (by omega) HA.out hob hgb)
            have hs3 := hgb.size
            rw [hv1]
            clear hob hgb
            go_wp2_with fail
            go_roundw
            case rel => exact ⟨i + 1, by omega, by go_num, HJ3, by omega⟩
            case measure => simp [intOf]; omega
        · have hik : i = k := by omega
          subst hik
          obtain ⟨w3, hw3⟩ : ∃ w3 : World, w3 = wr := ⟨_, rfl⟩
          subst hw3
          have hws3 := hws
          have facts : ∀ wr, Below w3.heap.size w3 wr → ∀ c, c < i → ∃ a1 c1 a2 c2, wr.cell? ⟨bl, c, none⟩ = some (.slice a1 (X c).length c1) ∧ wr.cell? ⟨gw, c, none⟩ = some (.slice a2 (X c).length c2) ∧
              ((X c).length = 0 ∨ ∃ b1 o1 b2 o2, a1 = some ⟨b1, o1, none⟩ ∧ a2 = some ⟨b2, o2, none⟩ ∧ (∀ j, j < (X c).length → wr.cell? ⟨b1, o1 + j, none⟩ = some (.int .u32 (4294967295 - (X c)[j]?.getD 0))) ∧
                (∀ j, j < (X c).length → wr.cell? ⟨b2, o2 + j, none⟩ = some (.int .u32 ((X c)[j]?.getD 0)))) := by
            intro wr hb c hc
            have HJ' := HJ.out.later hb (by omega)
            have hcl : wr.cell? ⟨bl, c, none⟩ = some (V c) := row_cell HJ'.rowL c hc
            have hcw : wr.cell? ⟨gw, c, none⟩ = some (U c) := row_cell HJ'.rowW c hc
            have hl := HJ'.lists c hc
            rw [if_pos hc] at hl
            obtain ⟨a1, c1, hv1, r1⟩ := Reads.own hl (HW.out c hc).compl
            obtain ⟨a2, c2, hv2, r2⟩ := Reads.own (HJ'.was c hc) (HW.out c hc)
            refine ⟨a1, c1, a2, c2, by rw [hcl, hv1], by rw [hcw, hv2], ?_⟩
            by_cases h0 : (X c).length = 0
            · exact .inl h0
            · right
              rcases r1.2.2.1 with e | ⟨b1, o1, e1, _, g1⟩
              · omega
              · rcases r2.2.2.1 with e | ⟨b2, o2, e2, _, g2⟩
                · omega
                · exact ⟨b1, o1, b2, o2, e1, e2, fun j hj => by rw [g1 j hj, compl_get _ j hj], g2⟩
          have HB := hid HJ.out.below
          have HF := hid facts
          clear facts HJ H2 hi'
          go_wp2_with fail
          go_loopw [6] (fun t wr => ∃ c : Nat, c ≤ i ∧ t = .int .i64 c ∧ Below w3.heap.size w3 wr) (fun t _ => i - (intOf t).toNat)
          case atStart => exact ⟨0, by omega, rfl, Below.refl _ _⟩
          case round =>
            obtain ⟨c, hc, rfl, hb3⟩ := hrel
            by_cases hlt : c < i
            · obtain ⟨w4, hw4⟩ : ∃ w4 : World, w4 = wr := ⟨_, rfl⟩
              subst hw4
              have hX := HN.out c hlt
              have hwc := HW.out c hlt
              obtain ⟨n, hn⟩ : ∃ n, n = (X c).length := ⟨_, rfl⟩
              rw [← hn] at hX
              have HNN := hid hn
              clear hn
              go_wp2_with fail
              go_loopw [7] (fun t wr => ∃ k : Nat, k ≤ n ∧ t = .int .i64 k ∧ Below w3.heap.size w3 wr) (fun t _ => n - (intOf t).toNat)
              case atStart => exact ⟨0, by omega, rfl, hb3⟩
              case round =>
                obtain ⟨k, hk, rfl, hb4⟩ := hrel
                obtain ⟨a1, c1, a2, c2, f1, f2, f3⟩ := HF.out wr hb4 c hlt
                rw [← HNN.out] at f1 f2 f3
                by_cases hkn : k < n
                · rcases f3 with f3 | ⟨b1, o1, b2, o2, e1, e2, g1, g2⟩
                  · omega
                  · have x1 := g1 k hkn
                    have x2 := g2 k hkn
                    rw [e1] at f1
                    rw [e2] at f2
                    have hbd := hwc.at k
                    obtain ⟨z, hz⟩ : ∃ z, z = (X c)[k]?.getD 0 := ⟨_, rfl⟩
                    rw [← hz] at x1 x2 hbd
                    have hnot := not_u32 z hbd.1 hbd.2
                    have f1d : wr.drew.cell? ⟨bl, c, none⟩ = some (.slice (some ⟨b1, o1, none⟩) n c1) := f1
                    have f2d : wr.drew.cell? ⟨gw, c, none⟩ = some (.slice (some ⟨b2, o2, none⟩) n c2) := f2
                    have x1d : wr.drew.cell? ⟨b1, o1 + k, none⟩ = some (.int .u32 (4294967295 - z)) := x1
                    have x2d : wr.drew.cell? ⟨b2, o2 + k, none⟩ = some (.int .u32 z) := x2
                    have hne : (4294967295 - z != 4294967295 - z) = false := by simp
                    clear hz e1 e2 g1 g2
                    go_wp2
                    go_region
                    all_goals go_wp2
                    all_goals
                      go_roundw
                      case rel => exact ⟨k + 1, by omega, by go_num, hb4.drew⟩
                      case measure => simp [intOf]; omega
                · clear f3
                  go_wp2
                  go_roundw
                  case rel => exact ⟨c + 1, by omega, by go_num, hb4⟩
                  case measure => simp [intOf]; omega
            · go_wp2
              go_ret
              exact ⟨rfl, HB.out.trans (hb3.mono (by omega))⟩
end Go.Proofs.YtabkgpnckaaclaaGreatDoor

/- What the laws of layer 1 share: two answers beside the document's; lists that lie apart. -/
namespace Go.Proofs.YtabkgpnckaaclaaGreatDoor
open Go.RowKit
set_option linter.unusedVariables false

theorem own_slice {w : World} {base e n : Nat} {v : Value} {xs : List Value} (h : w.ownsRow base e 1 v n xs) : ∃ a cap, v = .slice a n cap := by
  rcases h.2 with ⟨h1, h0⟩ | ⟨g, cap, cur, hv, _⟩
  · subst h0; exact ⟨_, _, h1⟩
  · exact ⟨_, _, hv⟩
theorem own_shape {w : World} {base e n : Nat} {v : Value} {xs : List Value} (h : w.ownsRow base e 1 v n xs) (hn : 0 < n) : ∃ g cap, v = .slice (some ⟨g, 0, none⟩) n cap ∧ n ≤ cap ∧ cap ≤ maxLen := by
  rcases h.2 with ⟨_, h0⟩ | ⟨g, cap, cur, hv, _, _, h1, h2, _⟩
  · omega
  · exact ⟨g, cap, hv, h1, h2⟩

theorem Within.up {v : Value} {lo hi hi' : Nat} (h : Within v lo hi) (hh : hi ≤ hi') : Within v lo hi' := fun g hg => by have := h g hg; omega
theorem bt_alloc {a w w' : World} {o : Obj} (h : Below a.heap.size a w) (hb : Below a.heap.size (w.alloc o) w') : Below a.heap.size a w' := (h.alloc h.size _).trans hb
theorem apart_perm {m : Nat} {V : Nat → Value} (c p : Nat → Nat) (hc : ∀ k, k < m → c k ≤ c (k + 1)) (hp : ∀ k, k < m → p k < m) (hi : ∀ i, i < m → ∀ j, j < m → p i = p j → i = j) (hv : ∀ k, k < m → Within (V k) (c (p k)) (c (p k + 1))) :
    ∀ i j, i < m → j < m → i ≠ j → (V i).ownBlock = none ∨ (V i).ownBlock ≠ (V j).ownBlock := by
  have mono : ∀ d i, i + d ≤ m → c i ≤ c (i + d) := by
    intro d
    induction d with
    | zero => intro i _; exact Nat.le_refl _
    | succ d ih =>
      intro i h
      have h1 := ih i (by omega)
      have h2 := hc (i + d) (by omega)
      show c i ≤ c (i + d + 1)
      omega
  intro i j hi' hj' hij
  cases e1 : (V i).ownBlock with
  | none => exact .inl rfl
  | some g =>
    right
    intro e2
    have a1 := hv i hi' g e1
    have a2 := hv j hj' g e2.symm
    have pi := hp i hi'
    have pj := hp j hj'
    have hne : p i ≠ p j := fun e => hij (hi i hi' j hj' e)
    rcases Nat.lt_or_gt_of_ne hne with h | h
    · have := mono (p j - (p i + 1)) (p i + 1) (by omega)
      rw [show p i + 1 + (p j - (p i + 1)) = p j by omega] at this
      omega
    · have := mono (p i - (p j + 1)) (p j + 1) (by omega)
      rw [show p j + 1 + (p i - (p j + 1)) = p i by omega] at this
      omega
theorem Tells.len {e t : Int} {zs : List Int} {c : Int} (h : Tells e t zs c) : zs.length ≤ 8192 := by
  by_cases he : e = 0
  · by_cases hl : wide ≤ t
    · rw [(h.long he hl).2]; simp
    · have e1 := (h.good he (by omega)).2
      exact len_of_lt h.wd h.trim (by rw [e1]; exact Int.not_le.1 hl)
  · rw [(h.bad he).2]; simp
end Go.Proofs.YtabkgpnckaaclaaGreatDoor

/- The kit's ApartRatios of three fractions. -/
namespace Go.Proofs.YtabkgpnckaaclaaGreatDoor
open Go.RowKit
set_option linter.unusedVariables false

/-- append to a row of the call's own, as one step of a region. -/
theorem step_append_own {P : Program} {ops : Array Oper} {o : Oper} {a : Act} {w : World} {K : Act → World → Prop} {Q : Exit → Act → World → Prop} {E : Prop}
    (hg : o.guard = none) (s x : Operand) (t : TypeId) (hop : o.op = Op.call { callee := Callee.builtin Builtin.append, args := #[s, x], argTypes := #[t, t] })
    (base : Nat) (e : TypeId) (i : TypeInfo) (z : Value) (size bytes : Nat) (h1 : P.underlying t = some (.slice e)) (h2 : P.info? e = some i) (h3 : i.zero = some z) (h4 : i.size = size) (h5 : i.bytes = bytes) (h6 : z.cells.size = size) (h7 : 0 < size)
    (v : Value) (n : Nat) (xs : List Value) (hs : a.eval s = v) (hown : w.ownsRow base e size v n xs)
    (ad : Addr) (m c : Nat) (news : List Value) (hx : a.eval x = .slice (some ad) m c) (hn : news.length = m * size) (hc : ∀ j u, news[j]? = some u → w.cell? (ad.add j) = some u) (h1c : ∀ u ∈ news, u.oneCell' = true)
    (b1 : n + m ≤ maxLen) (b2 : (n + m) * bytes ≤ 140737488355328) (hbase : base ≤ w.heap.size)
    (hK : ∀ v' w', w'.ownsRow base e size v' (n + m) (xs ++ news) → w.grownBy w' v.ownBlock → K (a.put o.dst v') w') :
    if Region.wanted o (yielded ops a.tmps) = true then Oper.wp P o a w K Q else E := by
  have hw : Region.wanted o (yielded ops a.tmps) = true := by simp [Region.wanted, hg]
  rw [if_pos hw]
  obtain ⟨v', w', hrun, r1, r2, _⟩ := run_append_own (P := P) w base t o.type e i z size bytes h1 h2 h3 h4 h5 h6 h7 v n xs hown ad m c news hn hc h1c b1 b2 hbase
  unfold Oper.wp
  simp [execOp, hop, resolve, invoke, builtin, hs, hx, hrun, Result.andThen]
  exact hK v' w' r1 r2
theorem two_cells (w : World) (u0 u1 : Value) (t : Nat) : ∀ j u, [u0, u1][j]? = some u → ((w.alloc (.cells #[u0, u1] t)).drew).cell? ((⟨w.heap.size, 0, none⟩ : Addr).add j) = some u := by
  intro j u h
  have hb := Box.made w t #[u0, u1]
  match j, h with
  | 0, h => obtain rfl : u0 = u := by simpa using h
            exact hb.cell 0
  | 1, h => obtain rfl : u1 = u := by simpa using h
            exact hb.cell 1
  | n + 2, h => simp at h

theorem own_row {w : World} {base e n g cap : Nat} {xs : List Value} (h : w.ownsRow base e 1 (.slice (some ⟨g, 0, none⟩) n cap) n xs) : ∃ cl : Array Value, w.heap[g]? = some (.cells cl e (0, 0)) ∧ ∀ j, j < n → cl[j]? = xs[j]? := by
  rcases h.2 with ⟨h1, _⟩ | ⟨g', cap', cur, hv, _, hg, _, _, _, ht⟩
  · cases h1
  · cases hv
    refine ⟨cur, hg, fun j hj => ?_⟩
    rw [← ht, List.getElem?_take, if_pos (by omega), Array.getElem?_toList]

set_option maxHeartbeats 1600000 in
set_option maxRecDepth 100000 in
theorem apartRatios3 (base : Nat) (b0 b1 b2 : Bool) (a0 a1 a2 a3 a4 a5 : Option Addr) (k0 k1 k2 k3 k4 k5 c0 c1 c2 c3 c4 c5 : Nat) (g : Nat) (X : Nat → List Int) (w : World) (hbx : Box w g 25 #[.bool b0, .slice a0 k0 c0, .slice a1 k1 c1, .bool b1, .slice a2 k2 c2, .slice a3 k3 c3, .bool b2, .slice a4 k4 c4, .slice a5 k5 c5]) (hbs : base ≤ w.heap.size)
    (hwd : ∀ j, j < 6 → Wd (X j)) (hlen : ∀ j, j < 6 → (X j).length ≤ 1099511627776) (hown : ∀ j, j < 6 → w.ownsRow base 88 1 (([.slice a0 k0 c0, .slice a1 k1 c1, .slice a2 k2 c2, .slice a3 k3 c3, .slice a4 k4 c4, .slice a5 k5 c5] : List Value)[j]?.getD undef) (X j).length ((X j).map (Value.int .u32)))
    (hap : ∀ i j, i < 6 → j < 6 → i ≠ j → (([.slice a0 k0 c0, .slice a1 k1 c1, .slice a2 k2 c2, .slice a3 k3 c3, .slice a4 k4 c4, .slice a5 k5 c5] : List Value)[i]?.getD undef).ownBlock = none ∨ (([.slice a0 k0 c0, .slice a1 k1 c1, .slice a2 k2 c2, .slice a3 k3 c3, .slice a4 k4 c4, .slice a5 k5 c5] : List Value)[i]?.getD undef).ownBlock ≠ (([.slice a0 k0 c0, .slice a1 k1 c1, .slice a2 k2 c2, .slice a3 k3 c3, .slice a4 k4 c4, .slice a5 k5 c5] : List Value)[j]?.getD undef).ownBlock) :
    Calls Tryz.prog 22 #[.slice (some ⟨g, 0, none⟩) 3 3] w fun e w' => e = .returned (.bool true) ∧ Below base w w' := by
  obtain ⟨i0, hi, hz0, hz1, hz2⟩ := info_parts Tryz.infoL
  have HBX := hid hbx
  have HF := hid (And.intro hwd (And.intro hlen (And.intro hown hap)))
  have HK : Hid (∀ V, Below w.heap.size w V → V.cell? ⟨g, 1, none⟩ = some (.slice a0 k0 c0) ∧ V.cell? ⟨g, 2, none⟩ = some (.slice a1 k1 c1) ∧ V.cell? ⟨g, 4, none⟩ = some (.slice a2 k2 c2) ∧ V.cell? ⟨g, 5, none⟩ = some (.slice a3 k3 c3) ∧ V.cell? ⟨g, 7, none⟩ = some (.slice a4 k4 c4) ∧ V.cell? ⟨g, 8, none⟩ = some (.slice a5 k5 c5)) := fun V hb => by
    have h := HBX.out.later hb HBX.out.lt
    exact ⟨h.cell 1, h.cell 2, h.cell 4, h.cell 5, h.cell 7, h.cell 8⟩
  clear hbx hwd hlen hown hap
  go_enter Tryz.func22, Tryz.ntmps22
  go_wp2_with fail
  refine wp_loop_rounds 4 ?_
  have HO : Hid (w.ownsRow w.heap.size 23 1 (.slice none 0 0) 0 []) := World.ownsRow_nil _ _ _ _
  have hb : Below w.heap.size w w := Below.refl _ _
  rw [rounds_succ]
  have hs0 := HK.out w hb
  obtain ⟨e0, e1, e2, e3, e4, e5⟩ := hs0
  have hs0 := HK.out _ hb.drew
  have HOA : Hid ((w.alloc (.cells #[.slice a0 k0 c0, .slice a1 k1 c1] 23)).drew.ownsRow w.heap.size 23 1 (.slice none 0 0) 0 []) := owns_later HO.out (bt (alloc_later w (.cells #[.slice a0 k0 c0, .slice a1 k1 c1] 23)) (Below.drew (Below.refl _ _)))
  have hbA : Below w.heap.size w (w.alloc (.cells #[.slice a0 k0 c0, .slice a1 k1 c1] 23)).drew := (bt hb (alloc_later w (.cells #[.slice a0 k0 c0, .slice a1 k1 c1] 23))).drew
  have hsA := HK.out _ hbA
  have hsz := hb.size
  go_wp2_with fail
  go_region_held3 (fun V : World => V.cell? ⟨g, 1, none⟩ = some (.slice a0 k0 c0) ∧ V.cell? ⟨g, 2, none⟩ = some (.slice a1 k1 c1) ∧ V.cell? ⟨g, 4, none⟩ = some (.slice a2 k2 c2) ∧ V.cell? ⟨g, 5, none⟩ = some (.slice a3 k3 c3) ∧ V.cell? ⟨g, 7, none⟩ = some (.slice a4 k4 c4) ∧ V.cell? ⟨g, 8, none⟩ = some (.slice a5 k5 c5)) (first | exact hs0 | exact hsA | exact hs1 | go_keep)
    (first | (refine step_append_own rfl (.tmp 11) (.tmp 22) 82 rfl w.heap.size 23 i0 (.slice none 0 0) 1 24 Tryz.underlying82 hi hz0 hz1 hz2 rfl (by decide) (.slice none 0 0) 0 [] rfl HOA.out ⟨w.heap.size, 0, none⟩ 2 2 [.slice a0 k0 c0, .slice a1 k1 c1] rfl rfl (two_cells w _ _ _) (by simp [Value.oneCell']) (by unfold maxLen; omega) (by omega) hbA.size ?_; intro v1 w1 o1 gr1; have hs1 := HK.out w1 (hbA.grown gr1 hbA.size (fun k hk => (HOA.out.lt k hk).1))))
  have hb1 : Below w.heap.size w w1 := hbA.grown gr1 hbA.size (fun k hk => (HOA.out.lt k hk).1)
  obtain ⟨q1, d1, hv1⟩ := own_slice o1
  subst hv1
  replace HO := hid o1
  replace hb := hb1
  clear o1 gr1 hb1 HOA hbA hsA hs0 hs1 e0 e1 e2 e3 e4 e5 hsz
  go_wp2_with fail
  rw [rounds_succ]
  have hs0 := HK.out w1 hb
  obtain ⟨e0, e1, e2, e3, e4, e5⟩ := hs0
  have hs0 := HK.out _ hb.drew
  have HOA : Hid ((w1.alloc (.cells #[.slice a2 k2 c2, .slice a3 k3 c3] 23)).drew.ownsRow w.heap.size 23 1 (.slice q1 2 d1) 2 ([] ++ [.slice a0 k0 c0, .slice a1 k1 c1])) := owns_later HO.out (bt (alloc_later w1 (.cells #[.slice a2 k2 c2, .slice a3 k3 c3] 23)) (Below.drew (Below.refl _ _)))
  have hbA : Below w.heap.size w (w1.alloc (.cells #[.slice a2 k2 c2, .slice a3 k3 c3] 23)).drew := (bt hb (alloc_later w1 (.cells #[.slice a2 k2 c2, .slice a3 k3 c3] 23))).drew
  have hsA := HK.out _ hbA
  have hsz := hb.size
  go_wp2_with fail
  go_region_held3 (fun V : World => V.cell? ⟨g, 1, none⟩ = some (.slice a0 k0 c0) ∧ V.cell? ⟨g, 2, none⟩ = some (.slice a1 k1 c1) ∧ V.cell? ⟨g, 4, none⟩ = some (.slice a2 k2 c2) ∧ V.cell? ⟨g, 5, none⟩ = some (.slice a3 k3 c3) ∧ V.cell? ⟨g, 7, none⟩ = some (.slice a4 k4 c4) ∧ V.cell? ⟨g, 8, none⟩ = some (.slice a5 k5 c5)) (first | exact hs0 | exact hsA | exact hs2 | go_keep)
    (first | (refine step_append_own rfl (.tmp 11) (.tmp 22) 82 rfl w.heap.size 23 i0 (.slice none 0 0) 1 24 Tryz.underlying82 hi hz0 hz1 hz2 rfl (by decide) (.slice q1 2 d1) 2 ([] ++ [.slice a0 k0 c0, .slice a1 k1 c1]) rfl HOA.out ⟨w1.heap.size, 0, none⟩ 2 2 [.slice a2 k2 c2, .slice a3 k3 c3] rfl rfl (two_cells w1 _ _ _) (by simp [Value.oneCell']) (by unfold maxLen; omega) (by omega) hbA.size ?_; intro v2 w2 o2 gr2; have hs2 := HK.out w2 (hbA.grown gr2 hbA.size (fun k hk => (HOA.out.lt k hk).1))))
  have hb2 : Below w.heap.size w w2 := hbA.grown gr2 hbA.size (fun k hk => (HOA.out.lt k hk).1)
  obtain ⟨q2, d2, hv2⟩ := own_slice o2
  subst hv2
  replace HO := hid o2
  replace hb := hb2
  clear o2 gr2 hb2 HOA hbA hsA hs0 hs2 e0 e1 e2 e3 e4 e5 hsz
  go_wp2_with fail
  rw [rounds_succ]
  have hs0 := HK.out w2 hb
  obtain ⟨e0, e1, e2, e3, e4, e5⟩ := hs0
  have hs0 := HK.out _ hb.drew
  have HOA : Hid ((w2.alloc (.cells #[.slice a4 k4 c4, .slice a5 k5 c5] 23)).drew.ownsRow w.heap.size 23 1 (.slice q2 4 d2) 4 (([] ++ [.slice a0 k0 c0, .slice a1 k1 c1]) ++ [.slice a2 k2 c2, .slice a3 k3 c3])) := owns_later HO.out (bt (alloc_later w2 (.cells #[.slice a4 k4 c4, .slice a5 k5 c5] 23)) (Below.drew (Below.refl _ _)))
  have hbA : Below w.heap.size w (w2.alloc (.cells #[.slice a4 k4 c4, .slice a5 k5 c5] 23)).drew := (bt hb (alloc_later w2 (.cells #[.slice a4 k4 c4, .slice a5 k5 c5] 23))).drew
  have hsA := HK.out _ hbA
  have hsz := hb.size
  go_wp2_with fail
  go_region_held3 (fun V : World => V.cell? ⟨g, 1, none⟩ = some (.slice a0 k0 c0) ∧ V.cell? ⟨g, 2, none⟩ = some (.slice a1 k1 c1) ∧ V.cell? ⟨g, 4, none⟩ = some (.slice a2 k2 c2) ∧ V.cell? ⟨g, 5, none⟩ = some (.slice a3 k3 c3) ∧ V.cell? ⟨g, 7, none⟩ = some (.slice a4 k4 c4) ∧ V.cell? ⟨g, 8, none⟩ = some (.slice a5 k5 c5)) (first | exact hs0 | exact hsA | exact hs3 | go_keep)
    (first | (refine step_append_own rfl (.tmp 11) (.tmp 22) 82 rfl w.heap.size 23 i0 (.slice none 0 0) 1 24 Tryz.underlying82 hi hz0 hz1 hz2 rfl (by decide) (.slice q2 4 d2) 4 (([] ++ [.slice a0 k0 c0, .slice a1 k1 c1]) ++ [.slice a2 k2 c2, .slice a3 k3 c3]) rfl HOA.out ⟨w2.heap.size, 0, none⟩ 2 2 [.slice a4 k4 c4, .slice a5 k5 c5] rfl rfl (two_cells w2 _ _ _) (by simp [Value.oneCell']) (by unfold maxLen; omega) (by omega) hbA.size ?_; intro v3 w3 o3 gr3; have hs3 := HK.out w3 (hbA.grown gr3 hbA.size (fun k hk => (HOA.out.lt k hk).1))))
  have hb3 : Below w.heap.size w w3 := hbA.grown gr3 hbA.size (fun k hk => (HOA.out.lt k hk).1)
  obtain ⟨q3, d3, hv3⟩ := own_slice o3
  subst hv3
  replace HO := hid o3
  replace hb := hb3
  clear o3 gr3 hb3 HOA hbA hsA hs0 hs3 e0 e1 e2 e3 e4 e5 hsz
  go_wp2_with fail
  rw [rounds_succ]
  obtain ⟨gl, cap, hv, hcap, _⟩ := own_shape HO.out (by omega)
  obtain ⟨rfl, rfl⟩ : q3 = some ⟨gl, 0, none⟩ ∧ d3 = cap := by simpa using hv
  clear hv
  have HLs : Hid (Lists w3 base gl 6 (fun j => ([.slice a0 k0 c0, .slice a1 k1 c1, .slice a2 k2 c2, .slice a3 k3 c3, .slice a4 k4 c4, .slice a5 k5 c5] : List Value)[j]?.getD undef) X) := by
    obtain ⟨cl, hg, hcl⟩ := own_row HO.out
    refine ⟨HF.out.1, HF.out.2.1, fun j hj => owns_later (HF.out.2.2.1 j hj) hb, HF.out.2.2.2, ⟨cl, hg, fun j hj => ?_⟩⟩
    rw [hcl j hj]
    match j, hj with
    | 0, _ => rfl
    | 1, _ => rfl
    | 2, _ => rfl
    | 3, _ => rfl
    | 4, _ => rfl
    | 5, _ => rfl
  have HAP := hid (apart_cap base gl 6 d3 _ X w3 HLs.out (by omega) (by have := hb.size; omega) hcap)
  have HBB := hid (hb.mono hbs)
  clear HLs HO hb hcap
  clear HK HF HBX
  go_wp2_with fail
  refine Calls.mono HAP.out ?_
  rintro e wE ⟨rfl, hbE⟩
  have HBE := hid (HBB.out.trans hbE)
  clear hbE HAP
  go_wp2_with fail
  go_ret
  exact ⟨rfl, HBE.out⟩
end Go.Proofs.YtabkgpnckaaclaaGreatDoor

/- The document's own fractions: Make, size, Small. -/
namespace Go.Proofs.YtabkgpnckaaclaaGreatDoor
open Go.RowKit
set_option linter.unusedVariables false

theorem div_sg {n m : Bool} {xs ys : List Int} : Rat.divInt (sg (n != m) (val xs)) (val ys) = Rat.divInt (wval n xs) (wval m ys) := by
  cases n <;> cases m <;> simp [sg, wval, Rat.divInt_neg', ← Rat.neg_divInt]

end Go.Proofs.YtabkgpnckaaclaaGreatDoor

/- The document's own fractions: Small; two fractions with the same words. -/
namespace Go.Proofs.YtabkgpnckaaclaaGreatDoor
open Go.RowKit
set_option linter.unusedVariables false

theorem small_sg {x y : Int} {s : Bool} (h : (decide (x < 0) != decide (y < 0)) = s) : Rat.divInt (sg s (x.natAbs : Int)) (y.natAbs : Int) = Rat.divInt x y := by
  subst h
  by_cases hx : x < 0 <;> by_cases hy : y < 0
  · have e1 : (x.natAbs : Int) = -x := by omega
    have e2 : (y.natAbs : Int) = -y := by omega
    rw [e1, e2]; simp [hx, hy, sg, Rat.neg_divInt_neg]
  · have e1 : (x.natAbs : Int) = -x := by omega
    have e2 : (y.natAbs : Int) = y := by omega
    rw [e1, e2]; simp [hx, hy, sg]
  · have e1 : (x.natAbs : Int) = x := by omega
    have e2 : (y.natAbs : Int) = -y := by omega
    rw [e1, e2]; simp [hx, hy, sg, Rat.divInt_neg']
  · have e1 : (x.natAbs : Int) = x := by omega
    have e2 : (y.natAbs : Int) = y := by omega
    rw [e1, e2]; simp [hx, hy, sg]

set_option maxHeartbeats 1600000 in
set_option maxRecDepth 100000 in
theorem sameRatio_eq (n : Bool) (v u v' u' : Value) (xs ys : List Int) (w : World) (h : Sl w v xs) (g : Sl w u ys) (h' : Sl w v' xs) (g' : Sl w u' ys) (lx : xs.length ≤ 281474976710656) (ly : ys.length ≤ 281474976710656) :
    Calls Tryz.prog 19 #[.agg #[.bool n, v, u], .agg #[.bool n, v', u']] w fun e w' => e = .returned (.bool true) ∧ Below w.heap.size w w' := by
  have HB : Hid (Below w.heap.size w ((w.alloc (.cells #[.bool n, v, u] 25)).alloc (.cells #[.bool n, v', u'] 25))) := bt (alloc_later _ _) (alloc_later _ _)
  have HN : Hid (Box ((w.alloc (.cells #[.bool n, v, u] 25)).alloc (.cells #[.bool n, v', u'] 25)) w.heap.size 25 #[.bool n, v, u]) := Box.later (Box.made w _ _) (alloc_later _ _) (by simp)
  have HM : Hid (Box ((w.alloc (.cells #[.bool n, v, u] 25)).alloc (.cells #[.bool n, v', u'] 25)) (w.heap.size + 1) 25 #[.bool n, v', u']) := by
    have e := Box.made (w.alloc (.cells #[.bool n, v, u] 25)) 25 #[.bool n, v', u']
    simp at e
    exact e
  have H1 := hid (same_sl v v' xs xs _ (h.later HB.out) (h'.later HB.out) lx lx)
  rw [decide_eq_true rfl] at H1
  have H2 := hid (fun ww (hb : Below _ ((w.alloc (.cells #[.bool n, v, u] 25)).alloc (.cells #[.bool n, v', u'] 25)) ww) => same_sl u u' ys ys ww ((g.later HB.out).later hb) ((g'.later HB.out).later hb) ly ly)
  rw [decide_eq_true rfl] at H2
  have hbb : (n == n) = true := by simp
  obtain ⟨a, ca, rfl, hr⟩ := h
  obtain ⟨b, cb, rfl, gr⟩ := g
  obtain ⟨a', ca', rfl, hr'⟩ := h'
  obtain ⟨b', cb', rfl, gr'⟩ := g'
  clear hr gr hr' gr'
  go_enter Tryz.func19, Tryz.ntmps19
  go_wp2_with fail
  refine Calls.mono H1.out ?_
  generalize ((w.alloc (.cells #[.bool n, .slice a xs.length ca, .slice b ys.length cb] 25)).alloc (.cells #[.bool n, .slice a' xs.length ca', .slice b' ys.length cb'] 25)) = X at *
  rintro e w1 ⟨rfl, hb1⟩
  obtain ⟨p0, p1, p2, _, _, _⟩ := res_box3 HN.out hb1
  obtain ⟨q0, q1, q2, _, _, _⟩ := res_box3 HM.out hb1
  have HC := hid (H2.out w1 hb1)
  have HB1 := hid (bt HB.out hb1)
  clear hb1 H1 H2
  go_wp2_with fail
  refine Calls.mono HC.out ?_
  rintro e w2 ⟨rfl, hb2⟩
  have HBN := hid (bt HB1.out hb2)
  clear hb2 HC
  go_wp2_with fail
  go_ret
  exact ⟨rfl, HBN.out⟩
end Go.Proofs.YtabkgpnckaaclaaGreatDoor

/- The table of places, from what the card lays. -/
namespace Go.Proofs.YtabkgpnckaaclaaGreatDoor
open Go.RowKit
set_option linter.unusedVariables false

theorem tabB_of {W : World} {cs : List Value} (hv : W.var? Tryz.prog "math/bits.deBruijn64tab" = some cs.toArray) (e1 : Tryz.prog.globalNamed "math/bits.deBruijn64tab" = some 1) (hcs : cs = (Lib.deBruijn64tab.map fun (n : Nat) => (n : Int)).map fun z => Value.int .u8 z) : TabB W := fun j hj => by
  unfold World.var? at hv
  rw [e1] at hv
  simp only [Option.bind_some] at hv
  unfold World.cell?
  cases hh : W.heap[(1 : Nat)]? with
  | none => rw [hh] at hv; cases hv
  | some o =>
    rw [hh] at hv
    cases o with
    | cells c t m =>
      simp only [Option.some.injEq] at hv
      subst hv
      rw [hcs]
      have hl : j < Lib.deBruijn64tab.length := hj
      simp [List.getElem?_eq_getElem hl, List.getD_eq_getElem?_getD]
    | _ => simp at hv

end Go.Proofs.YtabkgpnckaaclaaGreatDoor

