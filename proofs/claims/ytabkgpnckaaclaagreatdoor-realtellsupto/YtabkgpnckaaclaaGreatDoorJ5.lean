/- My texts on the way to RealTells, one behind the other: contracts of the program and of the document's answers. -/
import Derived.Test.YtabkgpnckaaclaaGreatDoorJ1
import Derived.Test.YtabkgpnckaaclaaGreatDoorJ2
import Derived.Test.YtabkgpnckaaclaaGreatDoorJ3
import Derived.Test.YtabkgpnckaaclaaGreatDoorJ4
import Derived.Deep.RegionHeld3
/- Fractions: ratio.compareSizes, Compare: of any fractions, good or refused. -/
namespace Go.Proofs.YtabkgpnckaaclaaGreatDoor
open Go.RowKit
set_option linter.unusedVariables false

theorem cmp_negs (x y : Int) : cmpI y x = cmpI (-x) (-y) := by
  by_cases h1 : y < x
  · rw [cmpI_lt h1, cmpI_lt (by omega)]
  · by_cases h2 : x < y
    · rw [cmpI_gt h2, cmpI_gt (by omega)]
    · obtain rfl : x = y := by omega
      unfold cmpI
      simp

set_option maxHeartbeats 3200000 in
set_option maxRecDepth 100000 in
theorem rsizes_any (n : Bool) (a : Option Addr) (ca : Nat) (xs : List Int) (b : Option Addr) (cb : Nat) (ys : List Int) (m : Bool) (c : Option Addr) (cc : Nat) (us : List Int) (d : Option Addr) (cd : Nat) (vs : List Int) (w : World) (sx : Sl w (.slice a xs.length ca) xs) (sy : Sl w (.slice b ys.length cb) ys) (su : Sl w (.slice c us.length cc) us) (sv : Sl w (.slice d vs.length cd) vs) (lx : xs.length ≤ 2048) (ly : ys.length ≤ 2048) (lu : us.length ≤ 2048) (lv : vs.length ≤ 2048) (tx : Trimmed xs) (ty : Trimmed ys) (tu : Trimmed us) (tv : Trimmed vs) :
    Calls Tryz.prog 85 #[.agg #[.bool n, .slice a xs.length ca, .slice b ys.length cb], .agg #[.bool m, .slice c us.length cc, .slice d vs.length cd]] w fun e w' => e = .returned (.int .i64 (cmpI (val xs * val vs) (val us * val ys))) ∧ Below w.heap.size w w' := by
  have wx := sx.wd
  have wy := sy.wd
  have wu := su.wd
  have wv := sv.wd
  have HB : Hid (Below w.heap.size w ((w.alloc (.cells #[.bool n, .slice a xs.length ca, .slice b ys.length cb] 25)).alloc (.cells #[.bool m, .slice c us.length cc, .slice d vs.length cd] 25))) := bt (alloc_later _ _) (alloc_later _ _)
  have HN : Hid (Box ((w.alloc (.cells #[.bool n, .slice a xs.length ca, .slice b ys.length cb] 25)).alloc (.cells #[.bool m, .slice c us.length cc, .slice d vs.length cd] 25)) w.heap.size 25 #[.bool n, .slice a xs.length ca, .slice b ys.length cb]) := Box.later (Box.made w _ _) (alloc_later _ _) (by simp)
  have HM : Hid (Box ((w.alloc (.cells #[.bool n, .slice a xs.length ca, .slice b ys.length cb] 25)).alloc (.cells #[.bool m, .slice c us.length cc, .slice d vs.length cd] 25)) (w.heap.size + 1) 25 #[.bool m, .slice c us.length cc, .slice d vs.length cd]) := by
    have e := Box.made (w.alloc (.cells #[.bool n, .slice a xs.length ca, .slice b ys.length cb] 25)) 25 #[.bool m, .slice c us.length cc, .slice d vs.length cd]
    simp at e
    exact e
  have HSL := hid (And.intro (sx.later HB.out) (And.intro (sy.later HB.out) (And.intro (su.later HB.out) (sv.later HB.out))))
  have HL : Hid (val xs * val vs < 4294967296 ^ 4096 ∧ val us * val ys < 4294967296 ^ 4096) := ⟨mul_4096 (val_nonneg wx) (below2048 wx lx) (val_nonneg wv) (below2048 wv lv), mul_4096 (val_nonneg wu) (below2048 wu lu) (val_nonneg wy) (below2048 wy ly)⟩
  have HTT := hid (And.intro tx (And.intro ty (And.intro tu tv)))
  obtain ⟨R, hR⟩ : ∃ R, cmpI (val xs * val vs) (val us * val ys) = R := ⟨_, rfl⟩
  rw [hR]
  have HR := hid hR
  clear sx sy su sv tx ty tu tv wx wy wu wv hR
  go_enter Tryz.func85, Tryz.ntmps85
  go_wp2_with fail
  generalize ((w.alloc (.cells #[.bool n, .slice a xs.length ca, .slice b ys.length cb] 25)).alloc (.cells #[.bool m, .slice c us.length cc, .slice d vs.length cd] 25)) = X at *
  have HK : Hid (∀ V, Below X.heap.size X V → V.cell? ⟨w.heap.size, 0, none⟩ = some (.bool n) ∧ V.cell? ⟨w.heap.size, 1, none⟩ = some (.slice a xs.length ca) ∧ V.cell? ⟨w.heap.size, 2, none⟩ = some (.slice b ys.length cb) ∧ V.cell? ⟨w.heap.size + 1, 0, none⟩ = some (.bool m) ∧ V.cell? ⟨w.heap.size + 1, 1, none⟩ = some (.slice c us.length cc) ∧ V.cell? ⟨w.heap.size + 1, 2, none⟩ = some (.slice d vs.length cd)) := fun V hb => by
    obtain ⟨p0, p1, p2, _⟩ := res_box3 HN.out hb
    obtain ⟨q0, q1, q2, _⟩ := res_box3 HM.out hb
    exact ⟨p0, p1, p2, q0, q1, q2⟩
  have hs0 := HK.out _ (Below.drew (Below.refl _ X))
  have HBR := hid (Below.drew (Below.refl X.heap.size X))
  have H1 := hid (fun ww (hv : Below X.heap.size X ww) => told1_in _ HK.out ww hv (rprod_any _ _ xs vs ww (HSL.out.1.later hv) (HSL.out.2.2.2.later hv) (by omega) HTT.out.1 HTT.out.2.2.2))
  have H2 := hid (fun ww (hv : Below X.heap.size X ww) => told1_in _ HK.out ww hv (rprod_any _ _ us ys ww (HSL.out.2.2.1.later hv) (HSL.out.2.1.later hv) (by omega) HTT.out.2.2.1 HTT.out.2.1))
  have H3 : Hid (∀ ww, Below X.heap.size X ww → ∀ a4 z4 c4 a5 z5 c5, One X ww (.slice a4 (List.length z4) c4) z4 (val xs * val vs) → One X ww (.slice a5 (List.length z5) c5) z5 (val us * val ys) → Calls Tryz.prog 111 #[.slice a4 z4.length c4, .slice a5 z5.length c5] ww fun e w' => e = .returned (.int .i64 R) ∧ Hid (Below X.heap.size X w') ∧ w'.cell? ⟨w.heap.size, 0, none⟩ = some (.bool n) ∧ w'.cell? ⟨w.heap.size, 1, none⟩ = some (.slice a xs.length ca) ∧ w'.cell? ⟨w.heap.size, 2, none⟩ = some (.slice b ys.length cb) ∧ w'.cell? ⟨w.heap.size + 1, 0, none⟩ = some (.bool m) ∧ w'.cell? ⟨w.heap.size + 1, 1, none⟩ = some (.slice c us.length cc) ∧ w'.cell? ⟨w.heap.size + 1, 2, none⟩ = some (.slice d vs.length cd)) := fun ww hv a4 z4 c4 a5 z5 c5 h4 h5 => by
    have e := compare_sl _ _ z4 z5 ww h4.sl h5.sl (by have := own_len h4 HL.out.1; omega) (by have := own_len h5 HL.out.2; omega)
    rw [h4.2.2.2, h5.2.2.2, HR.out] at e
    refine Calls.mono e ?_
    rintro e w' ⟨rfl, hb⟩
    exact ⟨rfl, (bt hv hb), HK.out w' (bt hv hb)⟩
  clear HSL HTT HL HR
  go_region_held3 (fun V : World => V.cell? ⟨w.heap.size, 0, none⟩ = some (.bool n) ∧ V.cell? ⟨w.heap.size, 1, none⟩ = some (.slice a xs.length ca) ∧ V.cell? ⟨w.heap.size, 2, none⟩ = some (.slice b ys.length cb) ∧ V.cell? ⟨w.heap.size + 1, 0, none⟩ = some (.bool m) ∧ V.cell? ⟨w.heap.size + 1, 1, none⟩ = some (.slice c us.length cc) ∧ V.cell? ⟨w.heap.size + 1, 2, none⟩ = some (.slice d vs.length cd)) (first | exact hs9 | exact hs5 | exact hs4 | exact hs0)
    (first
      | (go_at_call 111; with_reducible refine Calls.mono (H3.out _ hb5 _ _ _ _ _ _ (HE4.out.1.later HS5.out) HE5.out.1) ?_; rintro e w9 ⟨rfl, HE9, hs9⟩)
      | (go_at_call 112; with_reducible refine Calls.mono (H2.out _ hb4) ?_; rintro e w5 ⟨a5, z5, c5, rfl, HE5, hs5, hb5, HS5⟩)
      | (go_at_call 112; with_reducible refine Calls.mono (H1.out _ HBR.out) ?_; rintro e w4 ⟨a4, z4, c4, rfl, HE4, hs4, hb4, HS4⟩))
  all_goals
    have HBN := hid (bt HB.out HE9.out)
    clear HK H1 H2 H3 HE4 HE5 HE9 HS4 HS5 hs0 hs4 hs5 hs9 hb4 hb5 HBR
    go_wp2_with fail
    go_ret
    exact ⟨rfl, HBN.out⟩
/-- What Compare tells. -/
def rcmp (n : Bool) (xs ys : List Int) (m : Bool) (us vs : List Int) : Int := if rboth n xs ys m us vs = 0 then cmpI (wval n xs * val vs) (wval m us * val ys) else 0

set_option maxHeartbeats 3200000 in
set_option maxRecDepth 100000 in
theorem rCompare_ff (a : Option Addr) (ca : Nat) (xs : List Int) (b : Option Addr) (cb : Nat) (ys : List Int) (c : Option Addr) (cc : Nat) (us : List Int) (d : Option Addr) (cd : Nat) (vs : List Int) (w : World) (sx : Sl w (.slice a xs.length ca) xs) (sy : Sl w (.slice b ys.length cb) ys) (su : Sl w (.slice c us.length cc) us) (sv : Sl w (.slice d vs.length cd) vs) (hx : rchk false xs ys = 0) (hy : rchk false us vs = 0) :
    Calls Tryz.prog 44 #[.agg #[.bool false, .slice a xs.length ca, .slice b ys.length cb], .agg #[.bool false, .slice c us.length cc, .slice d vs.length cd]] w fun e w' => e = .returned (.tuple #[.int .i64 (cmpI (wval false xs * val vs) (wval false us * val ys)), .int .i64 0]) ∧ Below w.heap.size w w' := by
  obtain ⟨lx, ly, tx, ty, y0, nx, _⟩ := rchk_ok hx
  obtain ⟨lu, lv, tu, tv, v0, nu, _⟩ := rchk_ok hy
  have wx := sx.wd
  have wu := su.wd
  have py := val_pos' sy.wd ty y0
  have pv := val_pos' sv.wd tv v0
  have HB : Hid (Below w.heap.size w ((w.alloc (.cells #[.bool false, .slice a xs.length ca, .slice b ys.length cb] 25)).alloc (.cells #[.bool false, .slice c us.length cc, .slice d vs.length cd] 25))) := bt (alloc_later _ _) (alloc_later _ _)
  have HN : Hid (Box ((w.alloc (.cells #[.bool false, .slice a xs.length ca, .slice b ys.length cb] 25)).alloc (.cells #[.bool false, .slice c us.length cc, .slice d vs.length cd] 25)) w.heap.size 25 #[.bool false, .slice a xs.length ca, .slice b ys.length cb]) := Box.later (Box.made w _ _) (alloc_later _ _) (by simp)
  have HM : Hid (Box ((w.alloc (.cells #[.bool false, .slice a xs.length ca, .slice b ys.length cb] 25)).alloc (.cells #[.bool false, .slice c us.length cc, .slice d vs.length cd] 25)) (w.heap.size + 1) 25 #[.bool false, .slice c us.length cc, .slice d vs.length cd]) := by
    have e := Box.made (w.alloc (.cells #[.bool false, .slice a xs.length ca, .slice b ys.length cb] 25)) 25 #[.bool false, .slice c us.length cc, .slice d vs.length cd]
    simp at e
    exact e
  have HSL := hid (And.intro (sx.later HB.out) (And.intro (sy.later HB.out) (And.intro (su.later HB.out) (sv.later HB.out))))
  have HC := hid (rcheckBoth_any false _ xs _ ys false _ us _ vs ((w.alloc (.cells #[.bool false, .slice a xs.length ca, .slice b ys.length cb] 25)).alloc (.cells #[.bool false, .slice c us.length cc, .slice d vs.length cd] 25)) HSL.out.1 HSL.out.2.1 HSL.out.2.2.1 HSL.out.2.2.2)
  rw [rboth_good hx hy] at HC
  have HA := hid (fun ww (hb : Below ((w.alloc (.cells #[.bool false, .slice a xs.length ca, .slice b ys.length cb] 25)).alloc (.cells #[.bool false, .slice c us.length cc, .slice d vs.length cd] 25)).heap.size ((w.alloc (.cells #[.bool false, .slice a xs.length ca, .slice b ys.length cb] 25)).alloc (.cells #[.bool false, .slice c us.length cc, .slice d vs.length cd] 25)) ww) => rsizes_any false a ca xs b cb ys false c cc us d cd vs ww (HSL.out.1.later hb) (HSL.out.2.1.later hb) (HSL.out.2.2.1.later hb) (HSL.out.2.2.2.later hb) lx ly lu lv tx ty tu tv)
  have heq : cmpI (val xs * val vs) (val us * val ys) = cmpI (wval false xs * val vs) (wval false us * val ys) := rfl
  rw [heq] at HA
  obtain ⟨R, hR⟩ : ∃ R, cmpI (wval false xs * val vs) (wval false us * val ys) = R := ⟨_, rfl⟩
  rw [hR] at HA ⊢
  clear sx sy su sv hx hy tx ty tu tv wx wu py pv heq hR lx ly lu lv y0 v0 nx nu
  go_enter Tryz.func44, Tryz.ntmps44
  go_wp2_with fail
  refine Calls.mono HC.out ?_
  generalize ((w.alloc (.cells #[.bool false, .slice a xs.length ca, .slice b ys.length cb] 25)).alloc (.cells #[.bool false, .slice c us.length cc, .slice d vs.length cd] 25)) = X at *
  rintro e w1 ⟨rfl, hb1⟩
  obtain ⟨p0, p1, p2, _⟩ := res_box3 HN.out hb1
  obtain ⟨q0, q1, q2, _⟩ := res_box3 HM.out hb1
  have HCA := hid (HA.out w1 hb1)
  have HB1 := hid (bt HB.out hb1)
  clear hb1 HC HA
  go_wp2_with fail
  refine Calls.mono HCA.out ?_
  rintro e w2 ⟨rfl, hb2⟩
  have HBN := hid (bt HB1.out hb2)
  clear hb2 HCA
  go_wp2_with fail
  go_ret2
  exact ⟨rfl, HBN.out⟩

set_option maxHeartbeats 3200000 in
set_option maxRecDepth 100000 in
theorem rCompare_tt (a : Option Addr) (ca : Nat) (xs : List Int) (b : Option Addr) (cb : Nat) (ys : List Int) (c : Option Addr) (cc : Nat) (us : List Int) (d : Option Addr) (cd : Nat) (vs : List Int) (w : World) (sx : Sl w (.slice a xs.length ca) xs) (sy : Sl w (.slice b ys.length cb) ys) (su : Sl w (.slice c us.length cc) us) (sv : Sl w (.slice d vs.length cd) vs) (hx : rchk true xs ys = 0) (hy : rchk true us vs = 0) :
    Calls Tryz.prog 44 #[.agg #[.bool true, .slice a xs.length ca, .slice b ys.length cb], .agg #[.bool true, .slice c us.length cc, .slice d vs.length cd]] w fun e w' => e = .returned (.tuple #[.int .i64 (cmpI (wval true xs * val vs) (wval true us * val ys)), .int .i64 0]) ∧ Below w.heap.size w w' := by
  obtain ⟨lx, ly, tx, ty, y0, nx, _⟩ := rchk_ok hx
  obtain ⟨lu, lv, tu, tv, v0, nu, _⟩ := rchk_ok hy
  have wx := sx.wd
  have wu := su.wd
  have py := val_pos' sy.wd ty y0
  have pv := val_pos' sv.wd tv v0
  have HB : Hid (Below w.heap.size w ((w.alloc (.cells #[.bool true, .slice a xs.length ca, .slice b ys.length cb] 25)).alloc (.cells #[.bool true, .slice c us.length cc, .slice d vs.length cd] 25))) := bt (alloc_later _ _) (alloc_later _ _)
  have HN : Hid (Box ((w.alloc (.cells #[.bool true, .slice a xs.length ca, .slice b ys.length cb] 25)).alloc (.cells #[.bool true, .slice c us.length cc, .slice d vs.length cd] 25)) w.heap.size 25 #[.bool true, .slice a xs.length ca, .slice b ys.length cb]) := Box.later (Box.made w _ _) (alloc_later _ _) (by simp)
  have HM : Hid (Box ((w.alloc (.cells #[.bool true, .slice a xs.length ca, .slice b ys.length cb] 25)).alloc (.cells #[.bool true, .slice c us.length cc, .slice d vs.length cd] 25)) (w.heap.size + 1) 25 #[.bool true, .slice c us.length cc, .slice d vs.length cd]) := by
    have e := Box.made (w.alloc (.cells #[.bool true, .slice a xs.length ca, .slice b ys.length cb] 25)) 25 #[.bool true, .slice c us.length cc, .slice d vs.length cd]
    simp at e
    exact e
  have HSL := hid (And.intro (sx.later HB.out) (And.intro (sy.later HB.out) (And.intro (su.later HB.out) (sv.later HB.out))))
  have HC := hid (rcheckBoth_any true _ xs _ ys true _ us _ vs ((w.alloc (.cells #[.bool true, .slice a xs.length ca, .slice b ys.length cb] 25)).alloc (.cells #[.bool true, .slice c us.length cc, .slice d vs.length cd] 25)) HSL.out.1 HSL.out.2.1 HSL.out.2.2.1 HSL.out.2.2.2)
  rw [rboth_good hx hy] at HC
  have HA := hid (fun ww (hb : Below ((w.alloc (.cells #[.bool true, .slice a xs.length ca, .slice b ys.length cb] 25)).alloc (.cells #[.bool true, .slice c us.length cc, .slice d vs.length cd] 25)).heap.size ((w.alloc (.cells #[.bool true, .slice a xs.length ca, .slice b ys.length cb] 25)).alloc (.cells #[.bool true, .slice c us.length cc, .slice d vs.length cd] 25)) ww) => rsizes_any true c cc us d cd vs true a ca xs b cb ys ww (HSL.out.2.2.1.later hb) (HSL.out.2.2.2.later hb) (HSL.out.1.later hb) (HSL.out.2.1.later hb) lu lv lx ly tu tv tx ty)
  have heq : cmpI (val us * val ys) (val xs * val vs) = cmpI (wval true xs * val vs) (wval true us * val ys) := by
    show _ = cmpI (-(val xs) * val vs) (-(val us) * val ys)
    rw [Int.neg_mul, Int.neg_mul]
    exact cmp_negs _ _
  rw [heq] at HA
  obtain ⟨R, hR⟩ : ∃ R, cmpI (wval true xs * val vs) (wval true us * val ys) = R := ⟨_, rfl⟩
  rw [hR] at HA ⊢
  clear sx sy su sv hx hy tx ty tu tv wx wu py pv heq hR lx ly lu lv y0 v0 nx nu
  go_enter Tryz.func44, Tryz.ntmps44
  go_wp2_with fail
  refine Calls.mono HC.out ?_
  generalize ((w.alloc (.cells #[.bool true, .slice a xs.length ca, .slice b ys.length cb] 25)).alloc (.cells #[.bool true, .slice c us.length cc, .slice d vs.length cd] 25)) = X at *
  rintro e w1 ⟨rfl, hb1⟩
  obtain ⟨p0, p1, p2, _⟩ := res_box3 HN.out hb1
  obtain ⟨q0, q1, q2, _⟩ := res_box3 HM.out hb1
  have HCA := hid (HA.out w1 hb1)
  have HB1 := hid (bt HB.out hb1)
  clear hb1 HC HA
  go_wp2_with fail
  refine Calls.mono HCA.out ?_
  rintro e w2 ⟨rfl, hb2⟩
  have HBN := hid (bt HB1.out hb2)
  clear hb2 HCA
  go_wp2_with fail
  go_ret2
  exact ⟨rfl, HBN.out⟩

set_option maxHeartbeats 3200000 in
set_option maxRecDepth 100000 in
theorem rCompare_tf (a : Option Addr) (ca : Nat) (xs : List Int) (b : Option Addr) (cb : Nat) (ys : List Int) (c : Option Addr) (cc : Nat) (us : List Int) (d : Option Addr) (cd : Nat) (vs : List Int) (w : World) (sx : Sl w (.slice a xs.length ca) xs) (sy : Sl w (.slice b ys.length cb) ys) (su : Sl w (.slice c us.length cc) us) (sv : Sl w (.slice d vs.length cd) vs) (hx : rchk true xs ys = 0) (hy : rchk false us vs = 0) :
    Calls Tryz.prog 44 #[.agg #[.bool true, .slice a xs.length ca, .slice b ys.length cb], .agg #[.bool false, .slice c us.length cc, .slice d vs.length cd]] w fun e w' => e = .returned (.tuple #[.int .i64 (cmpI (wval true xs * val vs) (wval false us * val ys)), .int .i64 0]) ∧ Below w.heap.size w w' := by
  obtain ⟨lx, ly, tx, ty, y0, nx, _⟩ := rchk_ok hx
  obtain ⟨lu, lv, tu, tv, v0, nu, _⟩ := rchk_ok hy
  have wx := sx.wd
  have wu := su.wd
  have py := val_pos' sy.wd ty y0
  have pv := val_pos' sv.wd tv v0
  have HB : Hid (Below w.heap.size w ((w.alloc (.cells #[.bool true, .slice a xs.length ca, .slice b ys.length cb] 25)).alloc (.cells #[.bool false, .slice c us.length cc, .slice d vs.length cd] 25))) := bt (alloc_later _ _) (alloc_later _ _)
  have HN : Hid (Box ((w.alloc (.cells #[.bool true, .slice a xs.length ca, .slice b ys.length cb] 25)).alloc (.cells #[.bool false, .slice c us.length cc, .slice d vs.length cd] 25)) w.heap.size 25 #[.bool true, .slice a xs.length ca, .slice b ys.length cb]) := Box.later (Box.made w _ _) (alloc_later _ _) (by simp)
  have HM : Hid (Box ((w.alloc (.cells #[.bool true, .slice a xs.length ca, .slice b ys.length cb] 25)).alloc (.cells #[.bool false, .slice c us.length cc, .slice d vs.length cd] 25)) (w.heap.size + 1) 25 #[.bool false, .slice c us.length cc, .slice d vs.length cd]) := by
    have e := Box.made (w.alloc (.cells #[.bool true, .slice a xs.length ca, .slice b ys.length cb] 25)) 25 #[.bool false, .slice c us.length cc, .slice d vs.length cd]
    simp at e
    exact e
  have HSL := hid (And.intro (sx.later HB.out) (And.intro (sy.later HB.out) (And.intro (su.later HB.out) (sv.later HB.out))))
  have HC := hid (rcheckBoth_any true _ xs _ ys false _ us _ vs ((w.alloc (.cells #[.bool true, .slice a xs.length ca, .slice b ys.length cb] 25)).alloc (.cells #[.bool false, .slice c us.length cc, .slice d vs.length cd] 25)) HSL.out.1 HSL.out.2.1 HSL.out.2.2.1 HSL.out.2.2.2)
  rw [rboth_good hx hy] at HC
  have hR : cmpI (wval true xs * val vs) (wval false us * val ys) = -1 := by
    have h1 := val_pos' wx tx (nx.elim (fun e => by cases e) id)
    have h2 := val_nonneg wu
    have h3 := Int.mul_pos (a := val xs) (b := val vs) (by omega) (by omega)
    have h4 := Int.mul_nonneg h2 (show 0 ≤ val ys by omega)
    show cmpI (-(val xs) * val vs) (val us * val ys) = -1
    rw [Int.neg_mul]
    exact cmpI_lt (by omega)
  rw [hR]
  clear sx sy su sv hx hy tx ty tu tv wx wu py pv hR lx ly lu lv y0 v0 nx nu
  go_enter Tryz.func44, Tryz.ntmps44
  go_wp2_with fail
  refine Calls.mono HC.out ?_
  generalize ((w.alloc (.cells #[.bool true, .slice a xs.length ca, .slice b ys.length cb] 25)).alloc (.cells #[.bool false, .slice c us.length cc, .slice d vs.length cd] 25)) = X at *
  rintro e w1 ⟨rfl, hb1⟩
  obtain ⟨p0, p1, p2, _⟩ := res_box3 HN.out hb1
  obtain ⟨q0, q1, q2, _⟩ := res_box3 HM.out hb1
  have HBN := hid (bt HB.out hb1)
  clear hb1 HC
  go_wp2_with fail
  go_ret2
  exact ⟨rfl, HBN.out⟩

set_option maxHeartbeats 3200000 in
set_option maxRecDepth 100000 in
theorem rCompare_ft (a : Option Addr) (ca : Nat) (xs : List Int) (b : Option Addr) (cb : Nat) (ys : List Int) (c : Option Addr) (cc : Nat) (us : List Int) (d : Option Addr) (cd : Nat) (vs : List Int) (w : World) (sx : Sl w (.slice a xs.length ca) xs) (sy : Sl w (.slice b ys.length cb) ys) (su : Sl w (.slice c us.length cc) us) (sv : Sl w (.slice d vs.length cd) vs) (hx : rchk false xs ys = 0) (hy : rchk true us vs = 0) :
    Calls Tryz.prog 44 #[.agg #[.bool false, .slice a xs.length ca, .slice b ys.length cb], .agg #[.bool true, .slice c us.length cc, .slice d vs.length cd]] w fun e w' => e = .returned (.tuple #[.int .i64 (cmpI (wval false xs * val vs) (wval true us * val ys)), .int .i64 0]) ∧ Below w.heap.size w w' := by
  obtain ⟨lx, ly, tx, ty, y0, nx, _⟩ := rchk_ok hx
  obtain ⟨lu, lv, tu, tv, v0, nu, _⟩ := rchk_ok hy
  have wx := sx.wd
  have wu := su.wd
  have py := val_pos' sy.wd ty y0
  have pv := val_pos' sv.wd tv v0
  have HB : Hid (Below w.heap.size w ((w.alloc (.cells #[.bool false, .slice a xs.length ca, .slice b ys.length cb] 25)).alloc (.cells #[.bool true, .slice c us.length cc, .slice d vs.length cd] 25))) := bt (alloc_later _ _) (alloc_later _ _)
  have HN : Hid (Box ((w.alloc (.cells #[.bool false, .slice a xs.length ca, .slice b ys.length cb] 25)).alloc (.cells #[.bool true, .slice c us.length cc, .slice d vs.length cd] 25)) w.heap.size 25 #[.bool false, .slice a xs.length ca, .slice b ys.length cb]) := Box.later (Box.made w _ _) (alloc_later _ _) (by simp)
  have HM : Hid (Box ((w.alloc (.cells #[.bool false, .slice a xs.length ca, .slice b ys.length cb] 25)).alloc (.cells #[.bool true, .slice c us.length cc, .slice d vs.length cd] 25)) (w.heap.size + 1) 25 #[.bool true, .slice c us.length cc, .slice d vs.length cd]) := by
    have e := Box.made (w.alloc (.cells #[.bool false, .slice a xs.length ca, .slice b ys.length cb] 25)) 25 #[.bool true, .slice c us.length cc, .slice d vs.length cd]
    simp at e
    exact e
  have HSL := hid (And.intro (sx.later HB.out) (And.intro (sy.later HB.out) (And.intro (su.later HB.out) (sv.later HB.out))))
  have HC := hid (rcheckBoth_any false _ xs _ ys true _ us _ vs ((w.alloc (.cells #[.bool false, .slice a xs.length ca, .slice b ys.length cb] 25)).alloc (.cells #[.bool true, .slice c us.length cc, .slice d vs.length cd] 25)) HSL.out.1 HSL.out.2.1 HSL.out.2.2.1 HSL.out.2.2.2)
  rw [rboth_good hx hy] at HC
  have hR : cmpI (wval false xs * val vs) (wval true us * val ys) = 1 := by
    have h1 := val_pos' wu tu (nu.elim (fun e => by cases e) id)
    have h2 := val_nonneg wx
    have h3 := Int.mul_pos (a := val us) (b := val ys) (by omega) (by omega)
    have h4 := Int.mul_nonneg h2 (show 0 ≤ val vs by omega)
    show cmpI (val xs * val vs) (-(val us) * val ys) = 1
    rw [Int.neg_mul]
    exact cmpI_gt (by omega)
  rw [hR]
  clear sx sy su sv hx hy tx ty tu tv wx wu py pv hR lx ly lu lv y0 v0 nx nu
  go_enter Tryz.func44, Tryz.ntmps44
  go_wp2_with fail
  refine Calls.mono HC.out ?_
  generalize ((w.alloc (.cells #[.bool false, .slice a xs.length ca, .slice b ys.length cb] 25)).alloc (.cells #[.bool true, .slice c us.length cc, .slice d vs.length cd] 25)) = X at *
  rintro e w1 ⟨rfl, hb1⟩
  obtain ⟨p0, p1, p2, _⟩ := res_box3 HN.out hb1
  obtain ⟨q0, q1, q2, _⟩ := res_box3 HM.out hb1
  have HBN := hid (bt HB.out hb1)
  clear hb1 HC
  go_wp2_with fail
  go_ret2
  exact ⟨rfl, HBN.out⟩

set_option maxHeartbeats 1600000 in
set_option maxRecDepth 100000 in
theorem rCompare_err (n : Bool) (a : Option Addr) (ca : Nat) (xs : List Int) (b : Option Addr) (cb : Nat) (ys : List Int) (m : Bool) (c : Option Addr) (cc : Nat) (us : List Int) (d : Option Addr) (cd : Nat) (vs : List Int) (w : World) (sx : Sl w (.slice a xs.length ca) xs) (sy : Sl w (.slice b ys.length cb) ys) (su : Sl w (.slice c us.length cc) us) (sv : Sl w (.slice d vs.length cd) vs) (he : rboth n xs ys m us vs ≠ 0) :
    Calls Tryz.prog 44 #[.agg #[.bool n, .slice a xs.length ca, .slice b ys.length cb], .agg #[.bool m, .slice c us.length cc, .slice d vs.length cd]] w fun e w' => e = .returned (.tuple #[.int .i64 0, .int .i64 (rboth n xs ys m us vs)]) ∧ Below w.heap.size w w' := by
  have HB : Hid (Below w.heap.size w ((w.alloc (.cells #[.bool n, .slice a xs.length ca, .slice b ys.length cb] 25)).alloc (.cells #[.bool m, .slice c us.length cc, .slice d vs.length cd] 25))) := bt (alloc_later _ _) (alloc_later _ _)
  have HN : Hid (Box ((w.alloc (.cells #[.bool n, .slice a xs.length ca, .slice b ys.length cb] 25)).alloc (.cells #[.bool m, .slice c us.length cc, .slice d vs.length cd] 25)) w.heap.size 25 #[.bool n, .slice a xs.length ca, .slice b ys.length cb]) := Box.later (Box.made w _ _) (alloc_later _ _) (by simp)
  have HM : Hid (Box ((w.alloc (.cells #[.bool n, .slice a xs.length ca, .slice b ys.length cb] 25)).alloc (.cells #[.bool m, .slice c us.length cc, .slice d vs.length cd] 25)) (w.heap.size + 1) 25 #[.bool m, .slice c us.length cc, .slice d vs.length cd]) := by
    have e := Box.made (w.alloc (.cells #[.bool n, .slice a xs.length ca, .slice b ys.length cb] 25)) 25 #[.bool m, .slice c us.length cc, .slice d vs.length cd]
    simp at e
    exact e
  have HSL := hid (And.intro (sx.later HB.out) (And.intro (sy.later HB.out) (And.intro (su.later HB.out) (sv.later HB.out))))
  have HC := hid (rcheckBoth_any n _ xs _ ys m _ us _ vs ((w.alloc (.cells #[.bool n, .slice a xs.length ca, .slice b ys.length cb] 25)).alloc (.cells #[.bool m, .slice c us.length cc, .slice d vs.length cd] 25)) HSL.out.1 HSL.out.2.1 HSL.out.2.2.1 HSL.out.2.2.2)
  obtain ⟨E, hE⟩ : ∃ E, rboth n xs ys m us vs = E := ⟨_, rfl⟩
  rw [hE] at HC he ⊢
  have he' : (E == 0) = false := beq_eq_false_iff_ne.2 he
  clear he hE sx sy su sv
  go_enter Tryz.func44, Tryz.ntmps44
  go_wp2_with fail
  refine Calls.mono HC.out ?_
  rintro e w1 ⟨rfl, hb1⟩
  have HBN := hid (bt HB.out hb1)
  clear hb1 HC HN HM HSL
  go_wp2_with fail
  go_ret2
  exact ⟨rfl, HBN.out⟩
theorem rCompare_full (n : Bool) (a : Option Addr) (ca : Nat) (xs : List Int) (b : Option Addr) (cb : Nat) (ys : List Int) (m : Bool) (c : Option Addr) (cc : Nat) (us : List Int) (d : Option Addr) (cd : Nat) (vs : List Int) (w : World) (sx : Sl w (.slice a xs.length ca) xs) (sy : Sl w (.slice b ys.length cb) ys) (su : Sl w (.slice c us.length cc) us) (sv : Sl w (.slice d vs.length cd) vs) :
    Calls Tryz.prog 44 #[.agg #[.bool n, .slice a xs.length ca, .slice b ys.length cb], .agg #[.bool m, .slice c us.length cc, .slice d vs.length cd]] w fun e w' => e = .returned (.tuple #[.int .i64 (rcmp n xs ys m us vs), .int .i64 (rboth n xs ys m us vs)]) ∧ Below w.heap.size w w' := by
  unfold rcmp
  by_cases he : rboth n xs ys m us vs = 0
  · rw [if_pos he, he]
    obtain ⟨hx, hy⟩ := rboth_ok he
    cases n <;> cases m
    · exact rCompare_ff a ca xs b cb ys c cc us d cd vs w sx sy su sv hx hy
    · exact rCompare_ft a ca xs b cb ys c cc us d cd vs w sx sy su sv hx hy
    · exact rCompare_tf a ca xs b cb ys c cc us d cd vs w sx sy su sv hx hy
    · exact rCompare_tt a ca xs b cb ys c cc us d cd vs w sx sy su sv hx hy
  · rw [if_neg he]
    exact rCompare_err n a ca xs b cb ys m c cc us d cd vs w sx sy su sv he
end Go.Proofs.YtabkgpnckaaclaaGreatDoor

/- The nearest float: of a fraction that is a float it is that float; it keeps the order of fractions. The next float: no float lies between. -/
namespace Go.Proofs.YtabkgpnckaaclaaGreatDoor
open Go.RowKit
set_option linter.unusedVariables false

theorem Mid.mono {A1 D1 s1 A2 D2 s2 : Nat} (h1 : Mid A1 D1 s1) (h2 : Mid A2 D2 s2) (p1 : 0 < D1) (p2 : 0 < D2) (h : A1 * D2 ≤ A2 * D1) : s1 ≤ s2 := by
  rcases Nat.lt_or_ge s2 s1 with g | g
  · exfalso
    have t1 := h1.top
    have d := h1.down (by omega)
    have u := h2.up (by omega)
    have v1 : rungVal s2 ≤ rungVal (s1 - 1) := rungVal_le (by omega)
    have v2 : rungVal (s2 + 1) ≤ rungVal s1 := rungVal_le (by omega)
    have e1 : (rungVal (s1 - 1) + rungVal s1) * D1 * D2 ≤ 2 * A1 * D2 := Nat.mul_le_mul_right _ d
    have e2 : 2 * A2 * D1 ≤ (rungVal s2 + rungVal (s2 + 1)) * D2 * D1 := Nat.mul_le_mul_right _ u
    have e3 : (rungVal s2 + rungVal (s2 + 1)) * (D1 * D2) ≤ (rungVal (s1 - 1) + rungVal s1) * (D1 * D2) := Nat.mul_le_mul_right _ (by omega)
    have pp : 0 < D1 * D2 := Nat.mul_pos p1 p2
    rw [Nat.mul_assoc] at e1
    rw [Nat.mul_assoc (rungVal s2 + rungVal (s2 + 1)), Nat.mul_comm D2 D1] at e2
    rw [Nat.mul_assoc 2] at e1 e2
    have e4 : (rungVal s2 + rungVal (s2 + 1)) * (D1 * D2) = (rungVal (s1 - 1) + rungVal s1) * (D1 * D2) := by omega
    have e5 := Nat.eq_of_mul_eq_mul_right pp e4
    have e6 : s2 + 1 = s1 := by
      rcases Nat.lt_or_ge (s2 + 1) s1 with q | q
      · have := rungVal_lt (r := s2) (s := s1 - 1) (by omega)
        omega
      · omega
    subst e6
    have f1 : (rungVal (s2 + 1 - 1) + rungVal (s2 + 1)) * D1 = 2 * A1 := by
      refine Nat.le_antisymm d ?_
      refine Nat.le_of_mul_le_mul_right (c := D2) ?_ p2
      rw [Nat.mul_assoc, Nat.mul_assoc]
      omega
    have f2 : 2 * A2 = (rungVal s2 + rungVal (s2 + 1)) * D2 := by
      refine Nat.le_antisymm u ?_
      refine Nat.le_of_mul_le_mul_right (c := D1) ?_ p1
      rw [Nat.mul_assoc, Nat.mul_assoc, Nat.mul_comm D2 D1]
      omega
    have p := h1.tieDown (by omega) f1
    have q := h2.tieUp (by omega) f2
    omega
  · exact g
theorem mid_exact {D t : Nat} (hD : 0 < D) (ht : t < 9218868437227405312) : Mid (rungVal t * D) D t := by
  have hs : rungVal t < rungVal (t + 1) := rungVal_lt (by omega)
  have e0 : 2 * (rungVal t * D) = (rungVal t + rungVal t) * D := by rw [Nat.add_mul]; omega
  refine ⟨by omega, fun _ => ?_, fun h => ?_, fun _ e => ?_, fun h e => ?_⟩
  · rw [e0]; exact Nat.mul_le_mul_right _ (by omega)
  · have hd : rungVal (t - 1) < rungVal t := rungVal_lt (by omega)
    rw [e0]; exact Nat.mul_le_mul_right _ (by omega)
  · rw [e0] at e
    have := Nat.eq_of_mul_eq_mul_right hD e
    omega
  · have hd : rungVal (t - 1) < rungVal t := rungVal_lt (by omega)
    rw [e0] at e
    have := Nat.eq_of_mul_eq_mul_right hD e
    omega

/-- What Nearest's float is, where nothing is refused. -/
theorem nr_sv {n : Bool} {xs ys : List Int} {x : Nat} {code : Int} (h : NrT n xs ys x code) (hc : code = 0) :
    rchk n xs ys = 0 ∧ ∃ X Y s : Nat, val xs = X ∧ val ys = Y ∧ 0 < Y ∧ Mid (X * 2 ^ zP) Y s ∧ s < 9218868437227405312 ∧ Fi x ∧ sv x = sg n (rungVal s : Int) := by
  rcases h with ⟨h0, _, h1⟩ | ⟨h0, X, Y, s, hX, hY, hp, hm, h⟩
  · exact absurd (h1.symm.trans hc) h0
  · refine ⟨h0, X, Y, s, hX, hY, hp, hm, ?_⟩
    rcases h with ⟨_, _, h1⟩ | ⟨hs, _, hx⟩
    · rw [hc] at h1; exact absurd h1 (by decide)
    · refine ⟨hs, ?_⟩
      by_cases hn : n = true ∧ 0 < s
      · rw [if_pos hn] at hx
        rw [hx, hn.1, Nat.add_comm s, sv_high (by omega)]
        exact ⟨⟨by omega, by omega⟩, rfl⟩
      · rw [if_neg hn] at hx
        rw [hx, sv_low (by omega)]
        refine ⟨⟨by omega, by omega⟩, ?_⟩
        cases n
        · rfl
        · have : s = 0 := by
            rcases Nat.eq_zero_or_pos s with g | g
            · exact g
            · exact absurd ⟨rfl, g⟩ hn
          subst this
          decide
theorem wval_sg (n : Bool) (xs : List Int) : wval n xs = sg n (val xs) := rfl

theorem sg_mul' (n : Bool) (x y : Int) : sg n (x * y) = sg n x * y := sg_mul n x y
theorem sg_inj {n : Bool} {x y : Int} (h : sg n x = sg n y) : x = y := by
  cases n
  · exact h
  · have h' : -x = -y := h; omega
theorem nabs_two (k : Nat) : ((2 : Int) ^ k).natAbs = 2 ^ k := by rw [Int.natAbs_pow]; rfl
theorem ncast_two (X k : Nat) : ((X * 2 ^ k : Nat) : Int) = (X : Int) * 2 ^ k := by rw [Int.natCast_mul, Int.natCast_pow]; rfl
/-- A fraction that is a float has that float. -/
theorem nr_exact {n : Bool} {xs ys : List Int} {x v : Nat} {code : Int} (h : NrT n xs ys x code) (hc : code = 0) (hv : Fi v) (e : wval n xs * 2 ^ zP = sv v * val ys) : Fi x ∧ sv x = sv v := by
  obtain ⟨h0, X, Y, s, hX, hY, hp, hm, hs, hf, hsv⟩ := nr_sv h hc
  refine ⟨hf, ?_⟩
  rw [wval_sg, hX, hY] at e
  have e1 : (sg n (X : Int) * 2 ^ zP).natAbs = X * 2 ^ zP := by
    rw [Int.natAbs_mul]
    have a1 : (sg n (X : Int)).natAbs = X := by cases n <;> simp [sg]
    have a2 : ((2 : Int) ^ zP).natAbs = 2 ^ zP := nabs_two zP
    rw [a1, a2]
  have e2 : (sv v * (Y : Int)).natAbs = rungVal (v % 9223372036854775808) * Y := by
    rw [Int.natAbs_mul, sv_abs]; rfl
  have e3 : X * 2 ^ zP = rungVal (v % 9223372036854775808) * Y := by rw [← e1, e, e2]
  rw [e3] at hm
  have e4 := hm.unique hp (mid_exact hp hv.2)
  rw [hsv, e4]
  have e5 : sg n (rungVal (v % 9223372036854775808) : Int) * (Y : Int) = sv v * (Y : Int) := by
    have e7 : (rungVal (v % 9223372036854775808) : Int) * (Y : Int) = (X : Int) * 2 ^ zP := by rw [← ncast_two, e3, Int.natCast_mul]
    rw [← e, ← sg_mul', ← sg_mul', e7]
  exact Int.eq_of_mul_eq_mul_right (by omega) e5
theorem mid_nil {Y s : Nat} (hp : 0 < Y) (h : Mid (0 * 2 ^ zP) Y s) : s = 0 := h.unique hp (mid_nought hp)
/-- The order of fractions is kept. -/
theorem nr_mono {n : Bool} {xs ys : List Int} {x : Nat} {m : Bool} {us vs : List Int} {y : Nat} {c d : Int} (h : NrT n xs ys x c) (hc : c = 0) (g : NrT m us vs y d) (hd : d = 0) (hle : wval n xs * val vs ≤ wval m us * val ys) : Fi x ∧ Fi y ∧ sv x ≤ sv y := by
  obtain ⟨_, X, Y, s, hX, hY, hp, hm, hs, hf, hsv⟩ := nr_sv h hc
  obtain ⟨_, U, V, t, hU, hV, hq, hk, ht, hg, htv⟩ := nr_sv g hd
  refine ⟨hf, hg, ?_⟩
  rw [hsv, htv]
  rw [wval_sg, wval_sg, hX, hY, hU, hV] at hle
  have mono : ∀ {a b c d : Nat}, a * b ≤ c * d → a * 2 ^ zP * b ≤ c * 2 ^ zP * d := fun {a b c d} h => by
    rw [Nat.mul_right_comm, Nat.mul_right_comm c]; exact Nat.mul_le_mul_right _ h
  cases n <;> cases m
  · have h' : (X : Int) * (V : Int) ≤ (U : Int) * (Y : Int) := hle
    have hn : X * V ≤ U * Y := by rw [← Int.ofNat_le, Int.natCast_mul, Int.natCast_mul]; exact h'
    have := rungVal_le (hm.mono hk hp hq (mono hn))
    show (rungVal s : Int) ≤ (rungVal t : Int)
    omega
  · have h' : (X : Int) * (V : Int) ≤ -(U : Int) * (Y : Int) := hle
    rw [Int.neg_mul] at h'
    have p1 : 0 ≤ (X : Int) * (V : Int) := Int.mul_nonneg (by omega) (by omega)
    have p2 : 0 ≤ (U : Int) * (Y : Int) := Int.mul_nonneg (by omega) (by omega)
    have x0 : X = 0 := by
      have : (X : Int) * (V : Int) = 0 := by omega
      rcases Int.mul_eq_zero.1 this with h | h <;> omega
    have u0 : U = 0 := by
      have : (U : Int) * (Y : Int) = 0 := by omega
      rcases Int.mul_eq_zero.1 this with h | h <;> omega
    subst x0; subst u0
    rw [mid_nil hp hm, mid_nil hq hk]
    decide
  · show -(rungVal s : Int) ≤ (rungVal t : Int)
    omega
  · have h' : -(X : Int) * (V : Int) ≤ -(U : Int) * (Y : Int) := hle
    rw [Int.neg_mul, Int.neg_mul] at h'
    have hn : U * Y ≤ X * V := by rw [← Int.ofNat_le, Int.natCast_mul, Int.natCast_mul]; omega
    have := rungVal_le (hk.mono hm hq hp (mono hn))
    show -(rungVal s : Int) ≤ -(rungVal t : Int)
    omega

/-- The order of finite floats is that of their numbers. -/
theorem ocmp_scale (u v : Int) {p : Nat} (hp : 0 < p) : compare (u * (p : Int)) (v * (p : Int)) = compare u v := by
  have hp' : (0 : Int) < (p : Int) := by omega
  rcases Int.lt_trichotomy u v with h | rfl | h
  · rw [Int.compare_eq_lt.2 h, Int.compare_eq_lt.2 (Int.mul_lt_mul_of_pos_right h hp')]
  · simp
  · rw [Int.compare_eq_gt.2 h, Int.compare_eq_gt.2 (Int.mul_lt_mul_of_pos_right h hp')]
theorem ordsv {x y : Nat} (hx : Fi x) (hy : Fi y) : FloatKind.f64.format.order x y = some (compare (sv x) (sv y)) := by
  show (Ieee.double.read x).order (Ieee.double.read y) = _
  obtain ⟨m, a, e1, v1⟩ := read_num hx.2
  obtain ⟨n, b, e2, v2⟩ := read_num hy.2
  generalize hs : (x / 9223372036854775808 % 2 == 1) = s at e1
  generalize ht : (y / 9223372036854775808 % 2 == 1) = t at e2
  have t1 : (-1074 + (a : Int) - min (-1074 + (a : Int)) (-1074 + (b : Int))).toNat = a - min a b := by omega
  have t2 : (-1074 + (b : Int) - min (-1074 + (a : Int)) (-1074 + (b : Int))).toNat = b - min a b := by omega
  rw [e1, e2]
  simp only [Ieee.Datum.order, t1, t2]
  rw [← ocmp_scale _ _ (Nat.two_pow_pos (min a b)), signed_pow s m a _ (Nat.min_le_left ..), signed_pow t n b _ (Nat.min_le_right ..), v1, v2, sv_sign hs, sv_sign ht]
theorem RN.only {A : Int} {D v : Nat} (h : RN A 1 D) (f : Fi v) (e : A = sv v) : sv D = A ∧ Fi D := by
  obtain ⟨neg, s, rfl, n1, n2, m⟩ := h
  have hv := sv_abs v
  rw [← e] at hv
  have h1 := m.le (by decide) (r := v % 9223372036854775808) (by rw [← hv]; omega)
  have h2 := m.ge (by decide) (r := v % 9223372036854775808) (by have := f.2; omega) (by rw [← hv]; omega)
  have hs : s = v % 9223372036854775808 := by omega
  subst hs
  refine ⟨?_, word_fi _ f.2⟩
  rw [sv_word _ _ (by have := f.2; omega), ← hv]
  cases neg
  · simp only [Bool.false_eq_true, if_false]
    by_cases hz : A < 0
    · cases n1 hz
    · omega
  · simp only [if_true]
    by_cases hz : 0 < A
    · cases n2 hz
    · omega

theorem ord_gt {x y : Nat} (hx : Fi x) (hy : Fi y) : (FloatKind.f64.format.order x y == some .gt) = decide (sv y < sv x) := by
  rw [ordsv hx hy]
  rcases Int.lt_trichotomy (sv x) (sv y) with h | h | h
  · rw [show compare (sv x) (sv y) = .lt from Int.compare_eq_lt.2 h, decide_eq_false (by omega)]; rfl
  · rw [show compare (sv x) (sv y) = .eq from Int.compare_eq_eq.2 h, decide_eq_false (by omega)]; rfl
  · rw [show compare (sv x) (sv y) = .gt from Int.compare_eq_gt.2 h, decide_eq_true h]; rfl
theorem ord_lt {x y : Nat} (hx : Fi x) (hy : Fi y) : (FloatKind.f64.format.order x y == some .lt) = decide (sv x < sv y) := by
  rw [ordsv hx hy]
  rcases Int.lt_trichotomy (sv x) (sv y) with h | h | h
  · rw [show compare (sv x) (sv y) = .lt from Int.compare_eq_lt.2 h, decide_eq_true h]; rfl
  · rw [show compare (sv x) (sv y) = .eq from Int.compare_eq_eq.2 h, decide_eq_false (by omega)]; rfl
  · rw [show compare (sv x) (sv y) = .gt from Int.compare_eq_gt.2 h, decide_eq_false (by omega)]; rfl
theorem ord_eq {x y : Nat} (hx : Fi x) (hy : Fi y) : (FloatKind.f64.format.order x y == some .eq) = decide (sv x = sv y) := by
  rw [ordsv hx hy]
  rcases Int.lt_trichotomy (sv x) (sv y) with h | h | h
  · rw [show compare (sv x) (sv y) = .lt from Int.compare_eq_lt.2 h, decide_eq_false (by omega)]; rfl
  · rw [show compare (sv x) (sv y) = .eq from Int.compare_eq_eq.2 h, decide_eq_true h]; rfl
  · rw [show compare (sv x) (sv y) = .gt from Int.compare_eq_gt.2 h, decide_eq_false (by omega)]; rfl
/-- Of what is not finite: never between two finite ones. -/
theorem ord_between {a m b : Nat} (ha : Fi a) (hb : Fi b) (hm : m < 18446744073709551616) (hno : ∀ c, Fi c → ¬ (sv a < sv c ∧ sv c < sv b)) : ((FloatKind.f64.format.order m a == some .gt) && (FloatKind.f64.format.order m b == some .lt)) = false := by
  by_cases hf : Fi m
  · rw [ord_gt hf ha, ord_lt hf hb]
    by_cases h1 : sv a < sv m
    · by_cases h2 : sv m < sv b
      · exact absurd ⟨h1, h2⟩ (hno m hf)
      · rw [decide_eq_false h2, Bool.and_false]
    · rw [decide_eq_false h1, Bool.false_and]
  · by_cases hn : isnan m = true
    · rw [order_nan_l hn]; rfl
    · have hi : m = 9218868437227405312 ∨ m = 18442240474082181120 := by
        have : ¬ 9218868437227405312 < m % 9223372036854775808 := fun h => hn ((isnan_iff m).2 h)
        have h2 : ¬ m % 9223372036854775808 < 9218868437227405312 := fun h => hf ⟨hm, h⟩
        omega
      obtain ⟨k, p, ea, _⟩ := read_num ha.2
      obtain ⟨l, q, eb, _⟩ := read_num hb.2
      rcases hi with rfl | rfl
      · have e : Ieee.double.read 9218868437227405312 = .infinity false := by decide
        have : FloatKind.f64.format.order 9218868437227405312 b = some .gt := by
          show (Ieee.double.read 9218868437227405312).order (Ieee.double.read b) = _
          rw [e, eb]; rfl
        rw [this]; simp
      · have e : Ieee.double.read 18442240474082181120 = .infinity true := by decide
        have : FloatKind.f64.format.order 18442240474082181120 a = some .lt := by
          show (Ieee.double.read 18442240474082181120).order (Ieee.double.read a) = _
          rw [e, ea]; rfl
        rw [this]; rfl
/-- What Next tells. -/
def nxt (x : Nat) : Nat × Int := if fin x then (if x = 9218868437227405311 then (0, 9) else if 9223372036854775808 < x then ((if x = 9223372036854775809 then 0 else x - 1), 0) else (x % 9223372036854775808 + 1, 0)) else (0, 8)
theorem fi_fin {x : Nat} (h : x < 18446744073709551616) : fin x = true ↔ Fi x := ⟨fun g => ⟨h, (fin_iff x).1 g⟩, fun g => (fin_iff x).2 g.2⟩
theorem sv_at {x : Nat} (h : x < 18446744073709551616) : (x < 9223372036854775808 ∧ sv x = (rungVal x : Int)) ∨ (∃ t, x = 9223372036854775808 + t ∧ t < 9223372036854775808 ∧ sv x = -(rungVal t : Int)) := by
  rcases Nat.lt_or_ge x 9223372036854775808 with g | g
  · exact .inl ⟨g, sv_low g⟩
  · exact .inr ⟨x - 9223372036854775808, by omega, by omega, by
      have e := sv_high (x := x - 9223372036854775808) (by omega)
      rw [show 9223372036854775808 + (x - 9223372036854775808) = x by omega] at e
      exact e⟩
/-- The next float: above, and none between. -/
theorem nxt_next {x y : Nat} (hx : Fi x) (h : nxt x = (y, 0)) : Fi y ∧ sv x < sv y ∧ ∀ c, Fi c → ¬ (sv x < sv c ∧ sv c < sv y) := by
  unfold nxt at h
  rw [if_pos ((fi_fin hx.1).2 hx)] at h
  by_cases hm : x = 9218868437227405311
  · rw [if_pos hm] at h; simp at h
  rw [if_neg hm] at h
  have hx2 := hx.2
  have hx1 := hx.1
  by_cases hn : 9223372036854775808 < x
  · rw [if_pos hn] at h
    have hy : y = if x = 9223372036854775809 then 0 else x - 1 := by simpa using h.symm
    obtain ⟨s, rfl⟩ : ∃ s, x = 9223372036854775808 + (s + 1) := ⟨x - 9223372036854775809, by omega⟩
    have hs : s + 1 < 9218868437227405312 := by omega
    have ey : Fi y ∧ sv y = -(rungVal s : Int) := by
      by_cases h1 : s = 0
      · subst h1
        rw [if_pos rfl] at hy
        rw [hy]; exact ⟨⟨by decide, by decide⟩, by decide⟩
      · rw [if_neg (by omega)] at hy
        rw [hy, show 9223372036854775808 + (s + 1) - 1 = 9223372036854775808 + s by omega, sv_high (by omega)]
        exact ⟨⟨by omega, by omega⟩, rfl⟩
    have ex : sv (9223372036854775808 + (s + 1)) = -(rungVal (s + 1) : Int) := sv_high (by omega)
    have hl : rungVal s < rungVal (s + 1) := rungVal_lt (by omega)
    rw [ex, ey.2]
    refine ⟨ey.1, by omega, fun c hc hcc => ?_⟩
    rcases sv_at hc.1 with ⟨_, e⟩ | ⟨t, _, _, e⟩
    · rw [e] at hcc; omega
    · rw [e] at hcc
      rcases Nat.lt_or_ge t (s + 1) with g | g
      · have := rungVal_le (r := t) (s := s) (by omega); omega
      · have := rungVal_le g; omega
  · rw [if_neg hn] at h
    have hy : y = x % 9223372036854775808 + 1 := by simpa using h.symm
    have ex : sv x = (rungVal (x % 9223372036854775808) : Int) := by
      rcases sv_at hx.1 with ⟨g, e⟩ | ⟨t, g, _, e⟩
      · rw [e, Nat.mod_eq_of_lt g]
      · have : t = 0 := by omega
        subst this
        rw [e, g]
        decide
    have hs : x % 9223372036854775808 + 1 < 9218868437227405312 := by omega
    generalize x % 9223372036854775808 = s at *
    have hl : rungVal s < rungVal (s + 1) := rungVal_lt (by omega)
    have ey : Fi y ∧ sv y = (rungVal (s + 1) : Int) := by
      rw [hy, sv_low (by omega)]; exact ⟨⟨by omega, by omega⟩, rfl⟩
    rw [ex, ey.2]
    refine ⟨ey.1, by omega, fun c hc hcc => ?_⟩
    rcases sv_at hc.1 with ⟨_, e⟩ | ⟨t, _, _, e⟩
    · rw [e] at hcc
      rcases Nat.lt_or_ge c (s + 1) with g | g
      · have := rungVal_le (r := c) (s := s) (by omega); omega
      · have := rungVal_le g; omega
    · rw [e] at hcc; omega

end Go.Proofs.YtabkgpnckaaclaaGreatDoor

/- real.Exact of finite floats beside their numbers; real.Next; whether a float lies between two. -/
namespace Go.Proofs.YtabkgpnckaaclaaGreatDoor
open Go.RowKit
set_option linter.unusedVariables false

theorem rtells_ok {q : Rat} {n : Bool} {xs ys : List Int} (h : RTells 0 q n xs ys 0) : rchk n xs ys = 0 ∧ rq n xs ys = q := by
  by_cases hl : rlong q
  · exact absurd (h.long rfl hl).2.2.2 (by decide)
  · exact (h.good rfl hl).2
theorem rung_count (x : Nat) : rungVal (x % 9223372036854775808) = fcount x * 2 ^ (funit x + 1074).toNat := by
  unfold rungVal fcount funit
  by_cases h : x / 4503599627370496 % 2048 = 0
  · rw [if_pos h, if_pos h, if_pos (by omega), show ((-1074 : Int) + 1074).toNat = 0 by decide, Nat.pow_zero]
    omega
  · rw [if_neg h, if_neg h, if_neg (by omega)]
    have e1 : x % 9223372036854775808 % 4503599627370496 = x % 4503599627370496 := by omega
    have e2 : x % 9223372036854775808 / 4503599627370496 - 1 = (-1074 + ((x / 4503599627370496 % 2048 : Nat) : Int) - 1 + 1074).toNat := by omega
    rw [e1, e2]
theorem sv_sg {x : Nat} (h : x < 18446744073709551616) : sv x = sg (x / 9223372036854775808 == 1) (rungVal (x % 9223372036854775808) : Int) := by
  rcases sv_at h with ⟨g, e⟩ | ⟨t, g, g2, e⟩
  · rw [e, Nat.mod_eq_of_lt g, Nat.div_eq_of_lt g]; rfl
  · subst g
    rw [e, show (9223372036854775808 + t) / 9223372036854775808 = 1 by omega, show (9223372036854775808 + t) % 9223372036854775808 = t by omega]
    rfl
theorem pow_units (u : Int) (h : -1074 ≤ u) (Z : Nat) (hZ : Z = 1074) : (2 : Int) ^ u.toNat * 2 ^ Z = 2 ^ (u + 1074).toNat * 2 ^ (-u).toNat := by
  rw [← Int.pow_add, ← Int.pow_add, show u.toNat + Z = (u + 1074).toNat + (-u).toNat by omega]
/-- The fraction that a finite float is, beside its number. -/
def ExT (x : Nat) (n : Bool) (xs ys : List Int) : Prop := rchk n xs ys = 0 ∧ wval n xs * 2 ^ zP = sv x * val ys ∧ rq n xs ys = fq x
theorem ext_arith {w v s m P U Z D W : Int} (h : w * D = s * (m * P) * v) (hu : P * Z = U * D) (hD : 0 < D) : w * Z = s * (m * U) * v := by
  have e : w * Z * D = s * (m * U) * v * D := by
    have e1 : w * Z * D = (w * D) * Z := by grind
    have e2 : s * (m * U) * v * D = s * m * v * (U * D) := by grind
    rw [e1, h, e2, ← hu]
    grind
  exact Int.eq_of_mul_eq_mul_right (by omega) e
theorem sg_one (n : Bool) (t : Int) : sg n t = (if n then -1 else 1) * t := by cases n <;> simp [sg]
theorem ext_of {x : Nat} {n : Bool} {xs ys : List Int} (hx : x < 18446744073709551616) (wy : Wd ys) (h : RTells 0 (fq x) n xs ys 0) : ExT x n xs ys := by
  obtain ⟨h0, hq⟩ := rtells_ok h
  refine ⟨h0, ?_, hq⟩
  obtain ⟨_, _, _, ty, hy0, _, _⟩ := rchk_ok h0
  have hY : 0 < val ys := by
    have e : 0 < sz ys := by rw [show sz ys = ys.length from ty]; exact hy0
    have h := (bits_bounds wy e).2.1
    have := two_pos (bitsOf ys - 1)
    omega
  have hu := funit_le x
  have hD := two_pos (-(funit x)).toNat
  have e := hq
  unfold rq fq at e
  rw [Rat.divInt_eq_divInt_iff (by omega) (by omega)] at e
  have hP := pow_units (funit x) hu.1 zP rfl
  rw [sg_one] at e
  have hc : ((rungVal (x % 9223372036854775808) : Nat) : Int) = (fcount x : Int) * 2 ^ (funit x + 1074).toNat := by
    rw [rung_count]; exact ncast_two _ _
  rw [sv_sg hx, sg_one, hc]
  exact ext_arith (W := 0) e hP hD

set_option maxHeartbeats 400000 in
set_option maxRecDepth 100000 in
theorem exact_fin (x : Nat) (w : World) (hx : Fi x) (hT : TabB w) :
    Calls Tryz.prog 7 #[.float .f64 x] w fun e w' => ∃ n a ca b cb xs ys, e = .returned (.tuple #[.agg #[.bool n, .slice a (List.length xs) ca, .slice b (List.length ys) cb], .int .i64 0]) ∧ w'.ownsRow w.heap.size 88 1 (.slice a xs.length ca) xs.length (xs.map (Value.int .u32)) ∧ w'.ownsRow w.heap.size 88 1 (.slice b ys.length cb) ys.length (ys.map (Value.int .u32)) ∧ Wd xs ∧ Wd ys ∧ ExT x n xs ys ∧ Below w.heap.size w w' := by
  have hf := (fi_fin hx.1).2 hx
  by_cases h0 : fcount x = 0
  · refine Calls.mono (exact_zero x w hx.1 hf h0) ?_
    rintro e w' ⟨g, rfl, o, hb⟩
    exact ⟨false, none, 0, some ⟨g, 0, none⟩, 1, [], [1], rfl, World.ownsRow_nil _ _ _ _, o, Wd.nil, Wd.one (by omega), ext_of hx.1 (Wd.one (by omega)) (zero_good h0), hb⟩
  · refine Calls.mono (exact_nz x w hx.1 hf h0 hT) ?_
    rintro e w' ⟨a, ca, b, cb, zs, ds, rfl, o, vz, vd, hb⟩
    exact ⟨_, a, ca, b, cb, zs, ds, rfl, o.1, o.2.1, o.2.2.1, o.2.2.2.2.1, ext_of hx.1 o.2.2.2.2.1 (frac_good h0 o.2.2.1 o.2.2.2.1 o.2.2.2.2.1 o.2.2.2.2.2.1 vz vd), hb⟩

theorem sub_zero_from {s : Nat} (h : s < 9218868437227405312) : floatBits .sub .f64 0 s = some (if s = 0 then 0 else 9223372036854775808 + s) := by
  by_cases h0 : s = 0
  · subst h0; decide +kernel
  · rw [if_neg h0]
    have hs : Fi s := ⟨by omega, by omega⟩
    have f0 : Fi 0 := ⟨by decide, by decide⟩
    have e : floatBits .sub .f64 0 s = floatBits .add .f64 0 (fopp s) := by
      show (((Ieee.double.read 0).sum (Ieee.double.read s).opposite).map Ieee.double.write) = (((Ieee.double.read 0).sum (Ieee.double.read (fopp s))).map Ieee.double.write)
      rw [read_fopp (by omega)]
    obtain ⟨r, hr⟩ := add_some (x := 0) (y := fopp s) (by decide) ((fi_fin hs.opp.1).2 hs.opp)
    rw [e, hr]
    have rn := sub_rn f0 hs (FN.some (by rw [e, hr]))
    have hv : sv (9223372036854775808 + s) = -(rungVal s : Int) := sv_high (by omega)
    have hz : sv 0 = 0 := by decide
    have hl : sv s = (rungVal s : Int) := sv_low (by omega)
    obtain ⟨h1, h2⟩ := rn.only (v := 9223372036854775808 + s) ⟨by omega, by omega⟩ (by rw [hv, hz, hl]; omega)
    have hp : 0 < rungVal s := by
      rcases Nat.eq_zero_or_pos (rungVal s) with g | g
      · exact absurd (rungVal_zero.1 g) h0
      · exact g
    rw [hz, hl] at h1
    rcases sv_at h2.1 with ⟨_, e2⟩ | ⟨t, rfl, _, e2⟩
    · rw [e2] at h1; omega
    · rw [e2] at h1
      have : t = s := by
        rcases Nat.lt_trichotomy t s with g | g | g
        · have := rungVal_lt g; omega
        · exact g
        · have := rungVal_lt g; omega
      rw [this]

set_option maxHeartbeats 1600000 in
set_option maxRecDepth 100000 in
theorem next_any (x : Nat) (w : World) (hx : x < 18446744073709551616) :
    Calls Tryz.prog 15 #[.float .f64 x] w fun e w' => e = .returned (.tuple #[.float .f64 (nxt x).1, .int .i64 (nxt x).2]) ∧ Below w.heap.size w w' := by
  have HF := hid (finite_any x w hx)
  have hneg : ∀ x, Op.unary .neg (.float .f64 x) = pure (.float .f64 (fneg x)) := fun _ => rfl
  by_cases hf : fin x = true
  · rw [hf] at HF
    have hfi := (fi_fin hx).1 hf
    have hmx : Fi 9218868437227405311 := ⟨by decide, by decide⟩
    have h0 : Fi 0 := ⟨by decide, by decide⟩
    have q1 := ord_eq hfi hmx
    have q2 := ord_lt hfi h0
    have hz : sv 0 = 0 := by decide
    by_cases hm : x = 9218868437227405311
    · have e : nxt x = (0, 9) := by unfold nxt; rw [if_pos hf, if_pos hm]
      rw [decide_eq_true (by rw [hm])] at q1
      rw [e]
      clear e hm hfi hmx h0 q2 hz hf hx hneg
      go_enter Tryz.func15, Tryz.ntmps15
      go_wp2_with fail
      refine Calls.mono HF.out ?_
      rintro e w1 ⟨rfl, rfl⟩
      go_wp2_with fail
      go_returns
      exact ⟨rfl, Below.refl _ _⟩
    · have hne : sv x ≠ sv 9218868437227405311 := by
        have e1 : sv 9218868437227405311 = (rungVal 9218868437227405311 : Int) := sv_low (by decide)
        have hp : 0 < rungVal 9218868437227405311 := by
          rcases Nat.eq_zero_or_pos (rungVal 9218868437227405311) with g | g
          · exact absurd (rungVal_zero.1 g) (by decide)
          · exact g
        rw [e1]
        rcases sv_at hx with ⟨g, e⟩ | ⟨t, _, _, e⟩
        · rw [e]
          have hlt : x < 9218868437227405311 := by have := hfi.2; omega
          have := rungVal_lt hlt
          omega
        · rw [e]; omega
      rw [decide_eq_false hne] at q1
      by_cases hn : 9223372036854775808 < x
      · obtain ⟨s, rfl⟩ : ∃ s, x = 9223372036854775808 + (s + 1) := ⟨x - 9223372036854775809, by omega⟩
        have hs : s + 1 < 9218868437227405312 := by have := hfi.2; omega
        have hlt : sv (9223372036854775808 + (s + 1)) < sv 0 := by
          rw [hz, sv_high (by omega)]
          have := rungVal_lt (r := 0) (s := s + 1) (by omega)
          omega
        rw [decide_eq_true hlt] at q2
        have e : nxt (9223372036854775808 + (s + 1)) = ((if s = 0 then 0 else 9223372036854775808 + s), 0) := by
          unfold nxt
          rw [if_pos hf, if_neg hm, if_pos hn]
          by_cases g : s = 0
          · subst g; rfl
          · rw [if_neg (by omega), if_neg g]; rfl
        have hfn : fneg (9223372036854775808 + (s + 1)) = s + 1 := by
          have e2 : fneg (9223372036854775808 + (s + 1)) = fopp (9223372036854775808 + (s + 1)) := rfl
          rw [e2, fopp_high (by omega) (by omega)]; omega
        have HB := fun V => bits_run (s + 1) V
        have HR := fun V => from_run s V
        have hsub := sub_zero_from (s := s) (by omega)
        have hc : ((s + 1 : Nat) : Int) - 1 = (s : Int) := by omega
        have hcast : ((s + 1 : Nat) : Int) = (s : Int) + 1 := by omega
        rw [e]
        obtain ⟨r, hr⟩ : ∃ r, (if s = 0 then 0 else 9223372036854775808 + s) = r := ⟨_, rfl⟩
        rw [hr] at hsub ⊢
        have hs2 : (s : Int) < 9218868437227405312 := by omega
        have hsr : ∀ P t V, (binOp .sub t (.float .f64 0) (.float .f64 s)).run P V = .ok (.float .f64 r) V := fun P t V => by
          rw [fsub_run]; unfold fval fwld; rw [hsub]
        rw [hcast] at HB
        generalize 9223372036854775808 + (s + 1) = X at *
        clear e hr hm hn hlt hne hf hfi hmx h0 hz hx hs hc hcast
        go_enter Tryz.func15, Tryz.ntmps15
        go_wp2_with fail
        refine Calls.mono HF.out ?_
        rintro e w1 ⟨rfl, rfl⟩
        go_wp2_with fail
        go_returns
        exact ⟨rfl, Below.refl _ _⟩
      · have hge : ¬ sv x < sv 0 := by
          rw [hz]
          rcases sv_at hx with ⟨_, e⟩ | ⟨t, g, _, e⟩
          · rw [e]; omega
          · have : t = 0 := by omega
            subst this
            rw [e]; decide
        rw [decide_eq_false hge] at q2
        have e : nxt x = (x % 9223372036854775808 + 1, 0) := by unfold nxt; rw [if_pos hf, if_neg hm, if_neg hn]
        have HA := hid (mAbs_any x w hx)
        have hs : x % 9223372036854775808 < 9218868437227405312 := hfi.2
        rw [e]
        generalize x % 9223372036854775808 = s at *
        have HB := fun V => bits_run s V
        have HR := fun V => from_run (s + 1) V
        have hcast : ((s + 1 : Nat) : Int) = (s : Int) + 1 := by omega
        rw [hcast] at HR
        have hs2 : (s : Int) < 9218868437227405312 := by omega
        clear e hm hn hge hne hf hfi hmx h0 hz hx hcast hs hneg
        go_enter Tryz.func15, Tryz.ntmps15
        go_wp2_with fail
        refine Calls.mono HF.out ?_
        rintro e w1 ⟨rfl, rfl⟩
        go_wp2_with fail
        refine Calls.mono HA.out ?_
        rintro e w2 ⟨rfl, rfl⟩
        go_wp2_with fail
        go_returns
        exact ⟨rfl, Below.refl _ _⟩
  · obtain hf' : fin x = false := by cases h : fin x <;> simp_all
    rw [hf'] at HF
    have e : nxt x = (0, 8) := by unfold nxt; rw [if_neg hf]
    rw [e]
    clear e hf hf' hx hneg
    go_enter Tryz.func15, Tryz.ntmps15
    go_wp2_with fail
    refine Calls.mono HF.out ?_
    rintro e w1 ⟨rfl, rfl⟩
    go_wp2_with fail
    go_returns
    exact ⟨rfl, Below.refl _ _⟩

end Go.Proofs.YtabkgpnckaaclaaGreatDoor

/- No float is nearer than the nearest one, and it is at most half a gap away. Nothing here speaks of the program. -/
namespace Go.Proofs.YtabkgpnckaaclaaGreatDoor
open Go.RowKit
set_option linter.unusedVariables false

theorem near_best_pos {A Y s : Nat} (hm : Mid A Y s) (hs : s < 9218868437227405312) (t : Nat) :
    ((rungVal s : Int) * (Y : Int) - (A : Int)).natAbs ≤ ((rungVal t : Int) * (Y : Int) - (A : Int)).natAbs := by
  have c : ∀ r : Nat, (rungVal r : Int) * (Y : Int) = ((rungVal r * Y : Nat) : Int) := fun r => (Int.natCast_mul _ _).symm
  rw [c s, c t]
  rcases Nat.lt_trichotomy t s with h | h | h
  · have d := hm.down (by omega)
    rw [Nat.add_mul] at d
    have m1 : rungVal t * Y ≤ rungVal (s - 1) * Y := Nat.mul_le_mul_right _ (rungVal_le (by omega))
    have m2 : rungVal (s - 1) * Y ≤ rungVal s * Y := Nat.mul_le_mul_right _ (rungVal_le (by omega))
    generalize rungVal t * Y = Pt at *
    generalize rungVal (s - 1) * Y = P1 at *
    generalize rungVal s * Y = P at *
    omega
  · subst h; exact Nat.le_refl _
  · have d := hm.up hs
    rw [Nat.add_mul] at d
    have m1 : rungVal (s + 1) * Y ≤ rungVal t * Y := Nat.mul_le_mul_right _ (rungVal_le (by omega))
    have m2 : rungVal s * Y ≤ rungVal (s + 1) * Y := Nat.mul_le_mul_right _ (rungVal_le (by omega))
    generalize rungVal t * Y = Pt at *
    generalize rungVal (s + 1) * Y = P1 at *
    generalize rungVal s * Y = P at *
    omega
theorem sg_natAbs (n : Bool) (t : Int) : (sg n t).natAbs = t.natAbs := by cases n <;> simp [sg]
theorem sg_sub (n : Bool) (a b : Int) : sg n a - sg n b = sg n (a - b) := by cases n <;> simp [sg]; omega
theorem wval_pow {n : Bool} {xs : List Int} {X : Nat} (hX : val xs = X) (k : Nat) : wval n xs * 2 ^ k = sg n ((X * 2 ^ k : Nat) : Int) := by
  rw [wval_sg, hX, ← sg_mul', ncast_two]
theorem best_a {P T A : Int} (h0 : (P - A).natAbs ≤ (0 - A).natAbs) (hA : 0 ≤ A) (hT : 0 ≤ T) : (P - A).natAbs ≤ (-T - A).natAbs := by omega
theorem best_b {P T A : Int} (h0 : (P - A).natAbs ≤ (0 - A).natAbs) (hA : 0 ≤ A) (hT : 0 ≤ T) : (P - A).natAbs ≤ (T - -A).natAbs := by omega
theorem best_c {P T A : Int} (h0 : (P - A).natAbs ≤ (T - A).natAbs) : (P - A).natAbs ≤ (-T - -A).natAbs := by omega
theorem sg_f (t : Int) : sg false t = t := rfl
theorem sg_t (t : Int) : sg true t = -t := rfl
theorem sv_pm {y : Nat} (hy : y < 18446744073709551616) : sv y = (rungVal (y % 9223372036854775808) : Int) ∨ sv y = -(rungVal (y % 9223372036854775808) : Int) := by
  rw [sv_sg hy]
  cases (y / 9223372036854775808 == 1)
  · exact .inl (sg_f _)
  · exact .inr (sg_t _)
theorem rung_none : rungVal 0 = 0 := rungVal_zero.2 rfl
theorem near_best_sg {n : Bool} {A Y s t : Nat} {z : Int} (hm : Mid A Y s) (hs : s < 9218868437227405312) (hz : z = (rungVal t : Int) ∨ z = -(rungVal t : Int)) :
    (sg n (rungVal s : Int) * (Y : Int) - sg n (A : Int)).natAbs ≤ (z * (Y : Int) - sg n (A : Int)).natAbs := by
  rw [← sg_mul', sg_sub, sg_natAbs]
  have h0 := near_best_pos hm hs 0
  have ht := near_best_pos hm hs t
  rw [rung_none, Int.natCast_zero, Int.zero_mul] at h0
  have hn : 0 ≤ (rungVal t : Int) * (Y : Int) := Int.mul_nonneg (Int.natCast_nonneg _) (Int.natCast_nonneg _)
  have hA : 0 ≤ (A : Int) := Int.natCast_nonneg _
  cases n
  · rw [sg_f]
    rcases hz with e | e
    · rw [e]; exact ht
    · rw [e, Int.neg_mul]; exact best_a h0 hA hn
  · rw [sg_t]
    rcases hz with e | e
    · rw [e]; exact best_b h0 hA hn
    · rw [e, Int.neg_mul]; exact best_c ht
/-- Nothing is nearer. -/
theorem near_best {n : Bool} {xs ys : List Int} {x : Nat} {code : Int} (h : NrT n xs ys x code) (hc : code = 0) (y : Nat) (hy : Fi y) :
    (sv x * val ys - wval n xs * 2 ^ zP).natAbs ≤ (sv y * val ys - wval n xs * 2 ^ zP).natAbs := by
  obtain ⟨_, X, Y, s, hX, hY, hp, hm, hs, hf, hsv⟩ := nr_sv h hc
  rw [hsv, hY, wval_pow hX]
  exact near_best_sg hm hs (sv_pm hy.1)
theorem rung_gap (s : Nat) : rungVal (s + 1) = rungVal s + 2 ^ (s / 4503599627370496 - 1) := by
  rcases Nat.lt_or_ge s 4503599627370496 with h | h
  · have e1 : s / 4503599627370496 - 1 = 0 := by omega
    have a := rungVal_count (E := 0) (K := s) (by omega) (fun g => by omega)
    have b := rungVal_count (E := 0) (K := s + 1) (by omega) (fun g => by omega)
    rw [Nat.zero_mul, Nat.zero_add, Nat.pow_zero, Nat.mul_one] at a b
    rw [e1, a, b]
  · have a := rungVal_count (E := s / 4503599627370496 - 1) (K := 4503599627370496 + s % 4503599627370496) (by omega) (fun g => by omega)
    have b := rungVal_count (E := s / 4503599627370496 - 1) (K := 4503599627370496 + s % 4503599627370496 + 1) (by omega) (fun g => by omega)
    rw [show (s / 4503599627370496 - 1) * 4503599627370496 + (4503599627370496 + s % 4503599627370496) = s by omega] at a
    rw [show (s / 4503599627370496 - 1) * 4503599627370496 + (4503599627370496 + s % 4503599627370496 + 1) = s + 1 by omega] at b
    rw [a, b, Nat.add_mul _ 1, Nat.one_mul]
theorem unit_rung (x : Nat) : (funit x + 1074).toNat = x % 9223372036854775808 / 4503599627370496 - 1 := by
  unfold funit
  by_cases h : x / 4503599627370496 % 2048 = 0
  · rw [if_pos h]; omega
  · rw [if_neg h]; omega
theorem nr_mod {n : Bool} {xs ys : List Int} {x : Nat} {code : Int} (h : NrT n xs ys x code) (hc : code = 0) : ∃ X Y s : Nat, val xs = X ∧ val ys = Y ∧ 0 < Y ∧ Mid (X * 2 ^ zP) Y s ∧ s < 9218868437227405312 ∧ x % 9223372036854775808 = s ∧ sv x = sg n (rungVal s : Int) := by
  obtain ⟨_, X, Y, s, hX, hY, hp, hm, hs, hf, hsv⟩ := nr_sv h hc
  refine ⟨X, Y, s, hX, hY, hp, hm, hs, ?_, hsv⟩
  have e := congrArg Int.natAbs hsv
  rw [sv_abs, sg_natAbs] at e
  have e' : rungVal (x % 9223372036854775808) = rungVal s := by rw [e]; rfl
  rcases Nat.lt_trichotomy (x % 9223372036854775808) s with g | g | g
  · have := rungVal_lt g; omega
  · exact g
  · have := rungVal_lt g; omega
/-- It is within half a gap. -/
theorem near_gap {n : Bool} {xs ys : List Int} {x : Nat} {code : Int} (h : NrT n xs ys x code) (hc : code = 0) :
    2 * (sv x * val ys - wval n xs * 2 ^ zP).natAbs ≤ 2 ^ (funit x + 1074).toNat * (val ys).natAbs := by
  obtain ⟨X, Y, s, hX, hY, hp, hm, hs, hx, hsv⟩ := nr_mod h hc
  rw [hsv, hY, wval_pow hX, unit_rung, hx]
  generalize X * 2 ^ zP = A at *
  rw [← sg_mul', sg_sub, sg_natAbs, ← Int.natCast_mul]
  have u := hm.up hs
  rw [rung_gap s, Nat.add_mul, Nat.add_mul] at u
  rw [show ((Y : Int)).natAbs = Y from rfl]
  by_cases h0 : s = 0
  · subst h0
    have r0 : rungVal 0 = 0 := by decide
    rw [r0] at u ⊢
    rw [Nat.zero_mul] at u ⊢
    generalize 2 ^ (0 / 4503599627370496 - 1) * Y = G at *
    omega
  · have d := hm.down (by omega)
    have g1 := rung_gap (s - 1)
    rw [show s - 1 + 1 = s by omega] at g1
    have g2 : 2 ^ ((s - 1) / 4503599627370496 - 1) ≤ 2 ^ (s / 4503599627370496 - 1) := Nat.pow_le_pow_right (by decide) (by omega)
    have g3 : rungVal s * Y ≤ rungVal (s - 1) * Y + 2 ^ (s / 4503599627370496 - 1) * Y := by
      rw [← Nat.add_mul]; exact Nat.mul_le_mul_right _ (by omega)
    rw [Nat.add_mul] at d
    generalize 2 ^ (s / 4503599627370496 - 1) * Y = G at *
    generalize rungVal (s - 1) * Y = P1 at *
    generalize rungVal s * Y = P at *
    omega
/-- A finite float's fraction is its number over 2^zP. -/
theorem fq_sv {x : Nat} (hx : x < 18446744073709551616) : fq x = Rat.divInt (sv x) (2 ^ zP) := by
  have hu := funit_le x
  have hD := two_pos (-(funit x)).toNat
  have hZ := two_pos zP
  have hP := pow_units (funit x) hu.1 zP rfl
  have hc : ((rungVal (x % 9223372036854775808) : Nat) : Int) = (fcount x : Int) * 2 ^ (funit x + 1074).toNat := by
    rw [rung_count]; exact ncast_two _ _
  unfold fq
  rw [Rat.divInt_eq_divInt_iff (by omega) (by omega), sv_sg hx, hc, sg_one, sg_one]
  generalize (2 : Int) ^ zP = Z at *
  generalize (2 : Int) ^ (funit x).toNat = P at *
  generalize (2 : Int) ^ (funit x + 1074).toNat = U at *
  generalize (2 : Int) ^ (-(funit x)).toNat = D at *
  generalize (if (x / 9223372036854775808 == 1) = true then (-1 : Int) else 1) = s
  generalize (fcount x : Int) = m
  have e1 : s * (m * P) * Z = s * m * (P * Z) := by grind
  have e2 : s * (m * U) * D = s * m * (U * D) := by grind
  rw [e1, e2, hP]
/-- The difference of a float and a fraction. -/
theorem away_rat {x : Nat} {n : Bool} {xs ys : List Int} (hx : x < 18446744073709551616) (hY : 0 < val ys) : fq x - rq n xs ys = Rat.divInt (sv x * val ys - wval n xs * 2 ^ zP) (2 ^ zP * val ys) := by
  have hZ := two_pos zP
  rw [fq_sv hx]
  show Rat.divInt (sv x) (2 ^ zP) - Rat.divInt (wval n xs) (val ys) = _
  rw [Rat.divInt_sub_divInt _ _ (by omega) (by omega)]
/-- Fractions over the same number. -/
theorem over_le {n m : Bool} {xs ys us vs : List Int} {P Q M : Int} (hy : 0 < val ys) (hv : 0 < val vs) (hM : 0 < M) (h : rq n xs ys = Rat.divInt P M) (g : rq m us vs = Rat.divInt Q M) (hPQ : P ≤ Q) : wval n xs * val vs ≤ wval m us * val ys := by
  unfold rq at h g
  rw [Rat.divInt_eq_divInt_iff (by omega) (by omega)] at h g
  have e1 : wval n xs * val vs * M = P * (val ys * val vs) := by
    have : wval n xs * val vs * M = (wval n xs * M) * val vs := by grind
    rw [this, h]; grind
  have e2 : wval m us * val ys * M = Q * (val ys * val vs) := by
    have : wval m us * val ys * M = (wval m us * M) * val ys := by grind
    rw [this, g]; grind
  have e3 : P * (val ys * val vs) ≤ Q * (val ys * val vs) := Int.mul_le_mul_of_nonneg_right hPQ (Int.le_of_lt (Int.mul_pos hy hv))
  rw [← e1, ← e2] at e3
  exact Int.le_of_mul_le_mul_right e3 hM
/-- Its sign. -/
theorem over_sign {n : Bool} {xs ys : List Int} {P M : Int} (hy : 0 < val ys) (hM : 0 < M) (h : rq n xs ys = Rat.divInt P M) : (0 ≤ wval n xs → 0 ≤ P) ∧ (wval n xs ≤ 0 → P ≤ 0) := by
  unfold rq at h
  rw [Rat.divInt_eq_divInt_iff (by omega) (by omega)] at h
  constructor
  · intro h0
    have : 0 ≤ P * val ys := by rw [← h]; exact Int.mul_nonneg h0 (Int.le_of_lt hM)
    rcases Int.lt_or_le P 0 with g | g
    · have := Int.mul_neg_of_neg_of_pos g hy; omega
    · exact g
  · intro h0
    have : P * val ys ≤ 0 := by rw [← h]; exact Int.mul_nonpos_of_nonpos_of_nonneg h0 (Int.le_of_lt hM)
    rcases Int.lt_or_le 0 P with g | g
    · have := Int.mul_pos g hy; omega
    · exact g

end Go.Proofs.YtabkgpnckaaclaaGreatDoor

/- math.Ldexp of 1; real.Gap. -/
namespace Go.Proofs.YtabkgpnckaaclaaGreatDoor
open Go.RowKit
set_option linter.unusedVariables false

theorem mul_small : ∀ k : _root_.Fin 52, floatBits .mul .f64 4368491638549381120 ((k.val + 2) * 4503599627370496) = some (2 ^ k.val) := by decide +kernel
theorem mul_some {x y : Nat} (hx : fin x = true) (hy : fin y = true) : ∃ r, floatBits .mul .f64 x y = .some r := by
  obtain ⟨s, m, e, h1⟩ := read_fin hx
  obtain ⟨t, n, j, h2⟩ := read_fin hy
  exact ⟨_, show (((Ieee.double.read x).product (Ieee.double.read y)).map Ieee.double.write) = _ by rw [h1, h2]; rfl⟩
theorem one_sv (E : Nat) (hE : E = 1074) : sv 4607182418800017408 = ((2 ^ E : Nat) : Int) := by
  subst hE; decide +kernel
theorem mul_one_fl {y : Nat} (hy : y < 9218868437227405312) (h0 : 0 < y) : floatBits .mul .f64 4607182418800017408 y = some y := by
  have f1 : Fi 4607182418800017408 := ⟨by decide, by decide⟩
  have fy : Fi y := ⟨by omega, by omega⟩
  obtain ⟨r, hr⟩ := mul_some (x := 4607182418800017408) (y := y) (by decide) ((fi_fin fy.1).2 fy)
  rw [hr]
  obtain ⟨E, hE⟩ : ∃ E, E = 1074 := ⟨_, rfl⟩
  obtain ⟨neg, s, e1, n1, n2, hm⟩ := mul_rn E hE f1 fy (FN.some hr)
  have hl : sv y = (rungVal y : Int) := sv_low (by omega)
  have hp : 0 < rungVal y := by
    rcases Nat.eq_zero_or_pos (rungVal y) with g | g
    · exact absurd (rungVal_zero.1 g) (by omega)
    · exact g
  rw [one_sv E hE, hl, ← Int.natCast_mul] at n1 n2 hm
  have hD := Nat.two_pow_pos E
  have hpos : 0 < 2 ^ E * rungVal y := Nat.mul_pos hD hp
  have hneg : neg = false := n2 (by omega)
  have hab : ((2 ^ E * rungVal y : Nat) : Int).natAbs = rungVal y * 2 ^ E := by rw [Int.natAbs_natCast, Nat.mul_comm]
  rw [hab] at hm
  have hs := hm.unique hD (mid_exact hD hy)
  rw [e1, hneg, hs]
  congr 1

/-- The float that is 2 to the power e, e from -1074 to 1023. -/
def pow2 (e : Int) : Nat := if e < -1022 then 2 ^ (e + 1074).toNat else (e + 1023).toNat * 4503599627370496
theorem pow2_sv {e : Int} (h1 : -1074 ≤ e) (h2 : e ≤ 1000) : Fi (pow2 e) ∧ sv (pow2 e) = ((2 ^ (e + 1074).toNat : Nat) : Int) := by
  unfold pow2
  by_cases h : e < -1022
  · rw [if_pos h]
    have hk : (e + 1074).toNat < 52 := by omega
    generalize (e + 1074).toNat = k at *
    have hb : 2 ^ k < 2 ^ 52 := Nat.pow_lt_pow_right (by decide) hk
    have e52 : (2 : Nat) ^ 52 = 4503599627370496 := by decide
    rw [e52] at hb
    have hr := rungVal_count (E := 0) (K := 2 ^ k) (by omega) (fun g => by omega)
    rw [Nat.zero_mul, Nat.zero_add, Nat.pow_zero, Nat.mul_one] at hr
    rw [sv_low (by omega), hr]
    exact ⟨⟨by omega, by omega⟩, rfl⟩
  · rw [if_neg h]
    obtain ⟨j, hj⟩ : ∃ j : Nat, (e + 1023).toNat = j + 1 := ⟨(e + 1022).toNat, by omega⟩
    have hj2 : (e + 1074).toNat = 52 + j := by omega
    have hjl : j ≤ 2022 := by omega
    rw [hj, hj2]
    have hr := rungVal_count (E := j) (K := 4503599627370496) (by omega) (fun g => by omega)
    have e52 : (4503599627370496 : Nat) = 2 ^ 52 := by decide
    rw [show j * 4503599627370496 + 4503599627370496 = (j + 1) * 4503599627370496 by omega] at hr
    have hp : 4503599627370496 * 2 ^ j = 2 ^ (52 + j) := by rw [Nat.pow_add, ← e52]
    rw [hp] at hr
    rw [sv_low (by omega), hr]
    exact ⟨⟨by omega, by omega⟩, rfl⟩

set_option maxHeartbeats 800000 in
set_option maxRecDepth 100000 in
theorem normalize_one (w : World) :
    Calls Tryz.prog 120 #[.float .f64 4607182418800017408] w fun e w' => e = .returned (.tuple #[.float .f64 4607182418800017408, .int .i64 0]) ∧ w' = w := by
  have HA := hid (mAbs_any 4607182418800017408 w (by decide))
  rw [show 4607182418800017408 % 9223372036854775808 = 4607182418800017408 from rfl] at HA
  have q : (FloatKind.f64.format.order 4607182418800017408 4503599627370496 == some .lt) = false := by decide +kernel
  go_enter Tryz.func120, Tryz.ntmps120
  go_wp2_with fail
  refine Calls.mono HA.out ?_
  rintro e w1 ⟨rfl, rfl⟩
  go_wp2_with fail
  go_returns
  exact ⟨rfl, rfl⟩

theorem or_none (N : Nat) (h : N < 18446744073709551616) : bits .or .u64 0 (N : Int) = (N : Int) := by
  have h := u64_or_nat 0 N (by omega) h
  rw [Nat.zero_or] at h
  exact h
set_option maxHeartbeats 1600000 in
set_option maxRecDepth 100000 in
theorem ldexp_low (e f g : Int) (N R : Nat) (w : World) (h1 : -1074 ≤ e) (h2 : e ≤ 1000) (hd : e < -1022) (he1 : e + 53 = f) (he2 : f + 1023 = g) (he3 : g * 4503599627370496 = (N : Int)) (g0 : 0 ≤ g) (g1 : g ≤ 2046) (hN : N < 18446744073709551616) (hmul : floatBits .mul .f64 4368491638549381120 N = some R)
    (HI : Hid (Calls Tryz.prog 118 #[.float .f64 4607182418800017408, .int .i64 0] w fun x w' => x = .returned (.bool false) ∧ w' = w)) (HN : Hid (Calls Tryz.prog 119 #[.float .f64 4607182418800017408] w fun x w' => x = .returned (.bool false) ∧ w' = w)) (HB : ∀ V, (callFunc 50 #[.float .f64 4607182418800017408]).run Tryz.prog V = .ok (.value (.int .u64 4607182418800017408)) V) (ha : bits .and .i64 1023 2047 = 1023) (hn : bits .andNot .u64 4607182418800017408 9218868437227405312 = 0) (q0 : (FloatKind.f64.format.order 4607182418800017408 0 == some .eq) = false) :
    Calls Tryz.prog 94 #[.float .f64 4607182418800017408, .int .i64 e] w fun x w' => x = .returned (.float .f64 R) ∧ w' = w := by
  have HZ := hid (normalize_one w)
  have hmr : ∀ P t V, (binOp .mul t (.float .f64 4368491638549381120) (.float .f64 N)).run P V = .ok (.float .f64 R) V := fun P t V => by
    rw [fmul_run]; unfold fval fwld; rw [hmul]
  have HR := fun V => from_run N V
  have hor := or_none N hN
  clear hmul hN
  go_enter Tryz.func94, Tryz.ntmps94
  go_wp2_with fail
  refine Calls.mono HI.out ?_
  rintro e w1 ⟨rfl, rfl⟩
  go_wp2_with fail
  refine Calls.mono HN.out ?_
  rintro e w1 ⟨rfl, rfl⟩
  go_wp2_with fail
  refine Calls.mono HZ.out ?_
  rintro e w1 ⟨rfl, rfl⟩
  go_wp2_with fail
  go_ret
  exact ⟨rfl, rfl⟩

set_option maxHeartbeats 1600000 in
set_option maxRecDepth 100000 in
theorem ldexp_high (e  g : Int) (N R : Nat) (w : World) (h1 : -1074 ≤ e) (h2 : e ≤ 1000) (hd : ¬ e < -1022) (he2 : e + 1023 = g) (he3 : g * 4503599627370496 = (N : Int)) (g0 : 0 ≤ g) (g1 : g ≤ 2046) (hN : N < 18446744073709551616) (hmul : floatBits .mul .f64 4607182418800017408 N = some R)
    (HI : Hid (Calls Tryz.prog 118 #[.float .f64 4607182418800017408, .int .i64 0] w fun x w' => x = .returned (.bool false) ∧ w' = w)) (HN : Hid (Calls Tryz.prog 119 #[.float .f64 4607182418800017408] w fun x w' => x = .returned (.bool false) ∧ w' = w)) (HB : ∀ V, (callFunc 50 #[.float .f64 4607182418800017408]).run Tryz.prog V = .ok (.value (.int .u64 4607182418800017408)) V) (ha : bits .and .i64 1023 2047 = 1023) (hn : bits .andNot .u64 4607182418800017408 9218868437227405312 = 0) (q0 : (FloatKind.f64.format.order 4607182418800017408 0 == some .eq) = false) :
    Calls Tryz.prog 94 #[.float .f64 4607182418800017408, .int .i64 e] w fun x w' => x = .returned (.float .f64 R) ∧ w' = w := by
  have HZ := hid (normalize_one w)
  have hmr : ∀ P t V, (binOp .mul t (.float .f64 4607182418800017408) (.float .f64 N)).run P V = .ok (.float .f64 R) V := fun P t V => by
    rw [fmul_run]; unfold fval fwld; rw [hmul]
  have HR := fun V => from_run N V
  have hor := or_none N hN
  clear hmul hN
  go_enter Tryz.func94, Tryz.ntmps94
  go_wp2_with fail
  refine Calls.mono HI.out ?_
  rintro e w1 ⟨rfl, rfl⟩
  go_wp2_with fail
  refine Calls.mono HN.out ?_
  rintro e w1 ⟨rfl, rfl⟩
  go_wp2_with fail
  refine Calls.mono HZ.out ?_
  rintro e w1 ⟨rfl, rfl⟩
  go_wp2_with fail
  go_ret
  exact ⟨rfl, rfl⟩

theorem one_inf : isinf (4607182418800017408 % 9223372036854775808) = false := by decide
theorem one_nan : isnan 4607182418800017408 = false := by decide
theorem ldexp_one (e : Int) (w : World) (h1 : -1074 ≤ e) (h2 : e ≤ 1000) :
    Calls Tryz.prog 94 #[.float .f64 4607182418800017408, .int .i64 e] w fun x w' => x = .returned (.float .f64 (pow2 e)) ∧ w' = w := by
  have HI := mIsInf0_any 4607182418800017408 w (by decide)
  rw [one_inf] at HI
  have HN := mIsNaN_any 4607182418800017408 w
  rw [one_nan] at HN
  have q0 : (FloatKind.f64.format.order 4607182418800017408 0 == some .eq) = false := by decide +kernel
  have HB : ∀ V, (callFunc 50 #[.float .f64 4607182418800017408]).run Tryz.prog V = .ok (.value (.int .u64 4607182418800017408)) V := fun V => bits_run 4607182418800017408 V
  have ha : bits .and .i64 1023 2047 = 1023 := by decide
  have hn : bits .andNot .u64 4607182418800017408 9218868437227405312 = 0 := by decide
  by_cases hd : e < -1022
  · obtain ⟨k, hk⟩ : ∃ k : Nat, (e + 1074).toNat = k := ⟨_, rfl⟩
    have hk52 : k < 52 := by omega
    have hpw : pow2 e = 2 ^ k := by unfold pow2; rw [if_pos hd, hk]
    have hmul := mul_small ⟨k, hk52⟩
    rw [hpw]
    exact ldexp_low e (e + 53) (e + 53 + 1023) ((k + 2) * 4503599627370496) (2 ^ k) w h1 h2 hd rfl rfl (by omega) (by omega) (by omega) (by omega) hmul (hid HI) (hid HN) HB ha hn q0
  · have hpw : pow2 e = (e + 1023).toNat * 4503599627370496 := by unfold pow2; rw [if_neg hd]
    rw [hpw]
    exact ldexp_high e (e + 1023) ((e + 1023).toNat * 4503599627370496) _ w h1 h2 hd rfl (by omega) (by omega) (by omega) (by omega) (mul_one_fl (by omega) (by omega)) (hid HI) (hid HN) HB ha hn q0

set_option maxHeartbeats 800000 in
set_option maxRecDepth 100000 in
theorem Ldexp_one (e : Int) (w : World) (h1 : -1074 ≤ e) (h2 : e ≤ 1000) :
    Calls Tryz.prog 53 #[.float .f64 4607182418800017408, .int .i64 e] w fun x w' => x = .returned (.float .f64 (pow2 e)) ∧ w' = w := by
  have H := hid (ldexp_one e w h1 h2)
  clear h1 h2
  generalize pow2 e = R at *
  go_enter Tryz.func53, Tryz.ntmps53
  go_wp2_with fail
  refine Calls.mono H.out ?_
  rintro e w1 ⟨rfl, rfl⟩
  go_wp2_with fail
  go_ret
  exact ⟨rfl, rfl⟩

theorem field_two (s : Bool) (m u : Int) (V : World) : (Instr.field 65 (.agg #[.bool s, .int .u64 m, .int .i64 u]) 2).run Tryz.prog V = .ok (.int .i64 u) V := by kernel_rfl
set_option maxHeartbeats 800000 in
set_option maxRecDepth 100000 in
theorem gap_any (x : Nat) (w : World) (hx : Fi x) :
    Calls Tryz.prog 17 #[.float .f64 x] w fun e w' => ∃ G, e = .returned (.tuple #[.float .f64 G, .int .i64 0]) ∧ Fi G ∧ sv G = ((2 ^ (funit x + 1074).toNat : Nat) : Int) ∧ Below w.heap.size w w' := by
  have hu := funit_le x
  have hu2 : funit x ≤ 1000 := by omega
  have HF := hid (finite_any x w hx.1)
  rw [(fi_fin hx.1).2 hx] at HF
  have HT := hid (takeApart_any x w hx.1)
  have HL := hid (fun V => Ldexp_one (funit x) V hu.1 hu2)
  have HP := hid (pow2_sv hu.1 hu2)
  generalize pow2 (funit x) = G at *
  clear hx hu2
  go_enter Tryz.func17, Tryz.ntmps17
  go_wp2_with fail
  refine Calls.mono HF.out ?_
  rintro e w1 ⟨rfl, rfl⟩
  go_wp2_with fail
  refine Calls.mono HT.out ?_
  rintro e w2 ⟨rfl, b2⟩
  have HB2 := hid b2
  have HL2 := hid (HL.out w2)
  have hfl : ∀ V, (Instr.field 65 (.agg #[.bool (x / 9223372036854775808 == 1), .int .u64 (fcount x : Int), .int .i64 (funit x)]) 2).run Tryz.prog V = .ok (.int .i64 (funit x)) V := fun V => field_two _ _ _ V
  clear HT HL b2 HF
  go_wp2_with fail
  refine Calls.mono HL2.out ?_
  rintro e w3 ⟨rfl, rfl⟩
  go_wp2_with fail
  go_returns
  exact ⟨G, rfl, HP.out.1, HP.out.2, HB2.out⟩

end Go.Proofs.YtabkgpnckaaclaaGreatDoor

/- math.Ldexp of a float that is a whole number, not nothing, where the answer is a float. -/
namespace Go.Proofs.YtabkgpnckaaclaaGreatDoor
open Go.RowKit
set_option linter.unusedVariables false

theorem lx_or (g f : Nat) (hf : f < 4503599627370496) (hg : g ≤ 2046) : bits .or .u64 (f : Int) ((g * 4503599627370496 : Nat) : Int) = ((g * 4503599627370496 + f : Nat) : Int) := by
  have h := u64_or_nat f (g * 4503599627370496) (by omega) (by omega)
  have e : f ||| g * 4503599627370496 = g * 4503599627370496 + f := by
    have h2 := Nat.two_pow_add_eq_or_of_lt (i := 52) (b := f) (by omega) g
    rw [show (4503599627370496 : Nat) = 2 ^ 52 by decide, Nat.mul_comm g, Nat.or_comm]
    exact h2.symm
  rw [e] at h
  exact h
theorem lx_andNot (g f : Nat) (hf : f < 4503599627370496) (hg : g ≤ 2046) : bits .andNot .u64 ((g * 4503599627370496 + f : Nat) : Int) 9218868437227405312 = (f : Int) := by
  have h := u64_andNot_nat (g * 4503599627370496 + f) 9218868437227405312 (by omega) (by decide)
  have e : (g * 4503599627370496 + f) &&& (18446744073709551615 - 9218868437227405312) = f := by
    have hm : 18446744073709551615 - 9218868437227405312 = 2 ^ 63 ||| (2 ^ 52 - 1) := by decide
    have ht : (g * 4503599627370496 + f).testBit 63 = false := Nat.testBit_lt_two_pow (by omega)
    have hz : (g * 4503599627370496 + f) &&& 2 ^ 63 = 0 := by
      apply Nat.eq_of_testBit_eq
      intro i
      rw [Nat.testBit_and, Nat.testBit_two_pow, Nat.zero_testBit]
      by_cases h : 63 = i
      · subst h; rw [ht]; rfl
      · rw [decide_eq_false h, Bool.and_false]
    rw [hm, Nat.and_or_distrib_left, hz, Nat.zero_or, Nat.and_two_pow_sub_one_eq_mod]
    omega
  rw [e] at h
  exact h
theorem lx_and_all : ∀ K : _root_.Fin 2047, bits .and .i64 ((K.val : Nat) : Int) 2047 = ((K.val : Nat) : Int) := by decide +kernel
theorem lx_and (K : Nat) (h : K ≤ 2046) : bits .and .i64 (K : Int) 2047 = (K : Int) := lx_and_all ⟨K, by omega⟩
set_option maxHeartbeats 800000 in
set_option maxRecDepth 100000 in
theorem lx_normalize (F : Nat) (w : World) (hF : F < 9218868437227405312) (h1 : 4607182418800017408 ≤ F) :
    Calls Tryz.prog 120 #[.float .f64 F] w fun e w' => e = .returned (.tuple #[.float .f64 F, .int .i64 0]) ∧ w' = w := by
  have HA := hid (mAbs_any F w (by omega))
  rw [show F % 9223372036854775808 = F by omega] at HA
  have fF : Fi F := ⟨by omega, by omega⟩
  have q : (FloatKind.f64.format.order F 4503599627370496 == some .lt) = false := by
    rw [ord_lt fF ⟨by decide, by decide⟩]
    refine decide_eq_false ?_
    rw [sv_low (by omega), sv_low (by decide)]
    have := rungVal_le (r := 4503599627370496) (s := F) (by omega)
    omega
  clear hF h1 fF
  go_enter Tryz.func120, Tryz.ntmps120
  go_wp2_with fail
  refine Calls.mono HA.out ?_
  rintro e w1 ⟨rfl, rfl⟩
  go_wp2_with fail
  go_returns
  exact ⟨rfl, rfl⟩
set_option maxHeartbeats 1600000 in
set_option maxRecDepth 100000 in
theorem lx_low (F : Nat) (K e s x1 f g : Int) (m : Nat) (N R : Nat) (w : World) (hK : (F : Int) / 4503599627370496 = K) (h0 : 0 ≤ K) (h1 : K ≤ 2046) (hs : K - 1023 = s) (hx : e + s = x1) (h3 : -1075 ≤ x1) (hd : x1 < -1022) (hf : x1 + 53 = f) (hg : f + 1023 = g) (g0 : 0 ≤ g) (g1 : g ≤ 2046) (b0 : -5000 ≤ e) (b1 : e ≤ 5000) (hmul : floatBits .mul .f64 4368491638549381120 N = some R)
    (ha : bits .and .i64 K 2047 = K) (hn : bits .andNot .u64 (F : Int) 9218868437227405312 = (m : Int)) (hor : bits .or .u64 (m : Int) (g * 4503599627370496) = (N : Int)) (q0 : (FloatKind.f64.format.order F 0 == some .eq) = false)
    (HI : Hid (Calls Tryz.prog 118 #[.float .f64 F, .int .i64 0] w fun x w' => x = .returned (.bool false) ∧ w' = w)) (HN : Hid (Calls Tryz.prog 119 #[.float .f64 F] w fun x w' => x = .returned (.bool false) ∧ w' = w)) (HZ : Hid (Calls Tryz.prog 120 #[.float .f64 F] w fun e w' => e = .returned (.tuple #[.float .f64 F, .int .i64 0]) ∧ w' = w)) :
    Calls Tryz.prog 94 #[.float .f64 F, .int .i64 e] w fun x w' => x = .returned (.float .f64 R) ∧ w' = w := by
  have HB := fun V => bits_run F V
  have hmr : ∀ P t V, (binOp .mul t (.float .f64 4368491638549381120) (.float .f64 N)).run P V = .ok (.float .f64 R) V := fun P t V => by
    rw [fmul_run]; unfold fval fwld; rw [hmul]
  have HR := fun V => from_run N V
  clear hmul
  go_enter Tryz.func94, Tryz.ntmps94
  go_wp2_with fail
  refine Calls.mono HI.out ?_
  rintro e w1 ⟨rfl, rfl⟩
  go_wp2_with fail
  refine Calls.mono HN.out ?_
  rintro e w1 ⟨rfl, rfl⟩
  go_wp2_with fail
  refine Calls.mono HZ.out ?_
  rintro e w1 ⟨rfl, rfl⟩
  go_wp2_with fail
  go_ret
  exact ⟨rfl, rfl⟩
set_option maxHeartbeats 1600000 in
set_option maxRecDepth 100000 in
theorem lx_high (F : Nat) (K e s x1 g : Int) (m : Nat) (N R : Nat) (w : World) (hK : (F : Int) / 4503599627370496 = K) (h0 : 0 ≤ K) (h1 : K ≤ 2046) (hs : K - 1023 = s) (hx : e + s = x1) (h3 : x1 ≤ 1023) (hd : ¬ x1 < -1022) (hg : x1 + 1023 = g) (g0 : 0 ≤ g) (g1 : g ≤ 2046) (b0 : -5000 ≤ e) (b1 : e ≤ 5000) (hmul : floatBits .mul .f64 4607182418800017408 N = some R)
    (ha : bits .and .i64 K 2047 = K) (hn : bits .andNot .u64 (F : Int) 9218868437227405312 = (m : Int)) (hor : bits .or .u64 (m : Int) (g * 4503599627370496) = (N : Int)) (q0 : (FloatKind.f64.format.order F 0 == some .eq) = false)
    (HI : Hid (Calls Tryz.prog 118 #[.float .f64 F, .int .i64 0] w fun x w' => x = .returned (.bool false) ∧ w' = w)) (HN : Hid (Calls Tryz.prog 119 #[.float .f64 F] w fun x w' => x = .returned (.bool false) ∧ w' = w)) (HZ : Hid (Calls Tryz.prog 120 #[.float .f64 F] w fun e w' => e = .returned (.tuple #[.float .f64 F, .int .i64 0]) ∧ w' = w)) :
    Calls Tryz.prog 94 #[.float .f64 F, .int .i64 e] w fun x w' => x = .returned (.float .f64 R) ∧ w' = w := by
  have HB := fun V => bits_run F V
  have hmr : ∀ P t V, (binOp .mul t (.float .f64 4607182418800017408) (.float .f64 N)).run P V = .ok (.float .f64 R) V := fun P t V => by
    rw [fmul_run]; unfold fval fwld; rw [hmul]
  have HR := fun V => from_run N V
  clear hmul
  go_enter Tryz.func94, Tryz.ntmps94
  go_wp2_with fail
  refine Calls.mono HI.out ?_
  rintro e w1 ⟨rfl, rfl⟩
  go_wp2_with fail
  refine Calls.mono HN.out ?_
  rintro e w1 ⟨rfl, rfl⟩
  go_wp2_with fail
  refine Calls.mono HZ.out ?_
  rintro e w1 ⟨rfl, rfl⟩
  go_wp2_with fail
  go_ret
  exact ⟨rfl, rfl⟩
end Go.Proofs.YtabkgpnckaaclaaGreatDoor

/- A sum of two floats and what is lost of it, made by six rounded steps, are together the two, exactly. Nothing here speaks of the program. -/
namespace Go.Proofs.YtabkgpnckaaclaaGreatDoor
open Go.RowKit
set_option linter.unusedVariables false

/-- A finite float's number. -/
def Rp (n : Int) : Prop := ∃ v, Fi v ∧ sv v = n
theorem Rp.neg {n : Int} (h : Rp n) : Rp (-n) := by
  obtain ⟨v, f, e⟩ := h
  exact ⟨fopp v, f.opp, by rw [sv_opp f.1, e]⟩
theorem Rp.of {n m : Int} (h : Rp n) (e : n = m) : Rp m := e ▸ h
theorem rp_zero : Rp 0 := ⟨0, ⟨by decide, by decide⟩, by decide +kernel⟩

/-- A whole number of at most 2^53 in some unit is a float, in the least units too. -/
theorem te_rep (m k : Nat) (hm : m ≤ 9007199254740992) (h2 : k ≤ 2044) : ∃ r, r < 9218868437227405312 ∧ rungVal r = m * 2 ^ k := by
  by_cases h0 : m = 0
  · subst h0; exact ⟨0, by omega, by rw [Nat.zero_mul]; rfl⟩
  by_cases hb : 4503599627370496 ≤ m
  · exact ⟨k * 4503599627370496 + m, by omega, rungVal_count hm (fun _ => hb)⟩
  · have hlo := Nat.log2_self_le h0
    have hhi : m < 2 ^ (m.log2 + 1) := Nat.lt_log2_self
    generalize m.log2 = L at hlo hhi
    have b52 : (2 : Nat) ^ 52 = 4503599627370496 := by decide
    have hL : L < 52 := by
      by_cases hc : L < 52
      · exact hc
      · have := Nat.pow_le_pow_right (show 0 < 2 by decide) (show 52 ≤ L by omega); omega
    by_cases hk : 52 - L ≤ k
    · have e1 : 2 ^ L * 2 ^ (52 - L) = 4503599627370496 := by rw [← Nat.pow_add, ← b52]; congr 1; omega
      have e2 : 2 ^ (L + 1) * 2 ^ (52 - L) = 9007199254740992 := by rw [← Nat.pow_add, show L + 1 + (52 - L) = 53 by omega]
      have k1 := Nat.mul_le_mul_right (2 ^ (52 - L)) hlo
      have k2 := Nat.mul_le_mul_right (2 ^ (52 - L)) (Nat.le_of_lt hhi)
      rw [e1] at k1
      rw [e2] at k2
      refine ⟨(k - (52 - L)) * 4503599627370496 + m * 2 ^ (52 - L), by omega, ?_⟩
      rw [rungVal_count k2 (fun _ => k1), Nat.mul_assoc, ← Nat.pow_add, show 52 - L + (k - (52 - L)) = k by omega]
    · have h3 : m * 2 ^ k ≤ 2 ^ (L + 1) * 2 ^ k := Nat.mul_le_mul_right _ (Nat.le_of_lt hhi)
      have h4 : 2 ^ (L + 1) * 2 ^ k ≤ 2 ^ 52 := by rw [← Nat.pow_add]; exact Nat.pow_le_pow_right (by decide) (by omega)
      refine ⟨0 * 4503599627370496 + m * 2 ^ k, by omega, ?_⟩
      rw [rungVal_count (by omega) (fun h => absurd h (by decide)), Nat.pow_zero, Nat.mul_one]

theorem te_grid {n q : Int} {k : Nat} (hk : k ≤ 2044) (e : n = q * ((2 ^ k : Nat) : Int)) (hq : q.natAbs ≤ 9007199254740992) : Rp n := by
  obtain ⟨r, hr, hv⟩ := te_rep q.natAbs k hq hk
  generalize 2 ^ k = K at *
  refine ⟨Ieee.double.word (decide (q < 0)) r, word_fi _ hr, ?_⟩
  rw [sv_word _ _ (by omega), hv, e]
  by_cases h : q < 0
  · rw [decide_eq_true h, if_pos rfl, Int.natCast_mul, ← Int.neg_mul]
    congr 1; omega
  · rw [decide_eq_false h, if_neg (by decide), Int.natCast_mul]
    congr 1; omega

/-- The unit of a float. -/
theorem te_unit {y : Nat} (h : Fi y) : ∃ (q : Int) (k : Nat), sv y = q * ((2 ^ k : Nat) : Int) ∧ q.natAbs < 9007199254740992 ∧ (k = 0 ∨ 4503599627370496 ≤ q.natAbs) := by
  have hc : ∃ m k, rungVal (y % 9223372036854775808) = m * 2 ^ k ∧ m < 9007199254740992 ∧ (k = 0 ∨ 4503599627370496 ≤ m) := by
    generalize y % 9223372036854775808 = r
    unfold rungVal
    by_cases hr : r < 4503599627370496
    · rw [if_pos hr]; exact ⟨r, 0, by simp, by omega, .inl rfl⟩
    · rw [if_neg hr]
      have hm : r % 4503599627370496 < 4503599627370496 := Nat.mod_lt _ (by decide)
      exact ⟨_, _, rfl, by omega, .inr (by omega)⟩
  obtain ⟨m, k, e, h1, h2⟩ := hc
  have hs := sv_pm h.1
  rw [e, Int.natCast_mul] at hs
  rcases hs with hs | hs
  · exact ⟨m, k, hs, by omega, by omega⟩
  · exact ⟨-m, k, by rw [hs, Int.neg_mul], by omega, by omega⟩

theorem te_unit2 {y : Nat} (h : Fi y) {E : Nat} (hE : E = 2090) (hb : (sv y).natAbs ≤ 2 ^ E) : ∃ (q : Int) (k : Nat), sv y = q * ((2 ^ k : Nat) : Int) ∧ q.natAbs < 9007199254740992 ∧ (k = 0 ∨ 4503599627370496 ≤ q.natAbs) ∧ k ≤ 2043 := by
  obtain ⟨m, k, ey, hm, hk⟩ := te_unit h
  have hym : (sv y).natAbs = m.natAbs * 2 ^ k := by rw [ey, Int.natAbs_mul, Int.natAbs_natCast]
  refine ⟨m, k, ey, hm, hk, ?_⟩
  rcases hk with h | h
  · omega
  · have h1 : 2 ^ 52 * 2 ^ k ≤ m.natAbs * 2 ^ k := Nat.mul_le_mul_right _ (by omega)
    rw [← Nat.pow_add] at h1
    have h2 : 2 ^ (52 + k) ≤ 2 ^ E := by omega
    have := (Nat.pow_le_pow_iff_right (show 1 < 2 by decide)).1 h2
    omega

theorem te_rung {r e : Nat} (h : 2 ^ (52 + e) ≤ rungVal r) : ∃ q, rungVal r = q * 2 ^ e := by
  have b52 : (2 : Nat) ^ 52 = 4503599627370496 := by decide
  have hp := Nat.two_pow_pos e
  unfold rungVal at h ⊢
  by_cases hr : r < 4503599627370496
  · rw [if_pos hr] at h ⊢
    by_cases he : e = 0
    · subst he; exact ⟨r, by simp⟩
    · exfalso
      have h1 : 2 ^ 52 ≤ 2 ^ (52 + e) := Nat.pow_le_pow_right (by decide) (by omega)
      omega
  · rw [if_neg hr] at h ⊢
    have hm : r % 4503599627370496 < 4503599627370496 := Nat.mod_lt _ (by decide)
    generalize r % 4503599627370496 = fr at *
    generalize r / 4503599627370496 - 1 = E at *
    by_cases hE : e ≤ E
    · refine ⟨(4503599627370496 + fr) * 2 ^ (E - e), ?_⟩
      rw [Nat.mul_assoc, ← Nat.pow_add, show E - e + e = E by omega]
    · exfalso
      have b53 : (2 : Nat) ^ 53 = 9007199254740992 := by decide
      have h1 : (4503599627370496 + fr) * 2 ^ E < 2 ^ 53 * 2 ^ E := Nat.mul_lt_mul_of_pos_right (by omega) (Nat.two_pow_pos E)
      rw [← Nat.pow_add] at h1
      have h2 : 2 ^ (53 + E) ≤ 2 ^ (52 + e) := Nat.pow_le_pow_right (by decide) (by omega)
      omega
theorem te_dvd {u e : Nat} (f : Fi u) (h : e = 0 ∨ 4503599627370496 * 2 ^ e ≤ (sv u).natAbs) : ∃ q : Int, sv u = q * ((2 ^ e : Nat) : Int) := by
  rcases h with h | h
  · subst h; exact ⟨sv u, by simp⟩
  · have hv := sv_abs u
    rw [hv, show 4503599627370496 * 2 ^ e = 2 ^ (52 + e) by rw [Nat.pow_add]] at h
    obtain ⟨q, hq⟩ := te_rung h
    have hs := sv_pm f.1
    rw [hq, Int.natCast_mul] at hs
    rcases hs with hs | hs
    · exact ⟨q, hs⟩
    · exact ⟨-q, by rw [hs, Int.neg_mul]⟩

/-- What is known of a rounded whole number of the least units. -/
structure Rd (N : Int) (r : Nat) : Prop where
  fi : Fi r
  near : ∀ v, Fi v → (sv r - N).natAbs ≤ (sv v - N).natAbs
  up : ∀ v, Fi v → (sv v).natAbs ≤ N.natAbs → (sv v).natAbs ≤ (sv r).natAbs
  self : Rp N → sv r = N

theorem te_round {N : Int} {r : Nat} (h : RN N 1 r) {T : Nat} (hT : T = 2044) (hb : N.natAbs ≤ 9007199254740992 * 2 ^ T) : Rd N r := by
  obtain ⟨neg, s, hr, n1, n2, m⟩ := id h
  obtain ⟨t, ht, hv⟩ := te_rep 9007199254740992 T (Nat.le_refl _) (by omega)
  have hs := m.le (by decide) (r := t) (by rw [hv]; omega)
  have hs' : s < 9218868437227405312 := by omega
  have f : Fi r := by rw [hr]; exact word_fi _ hs'
  have hsg : sg neg (N.natAbs : Int) = N := by
    cases neg
    · rw [sg_f]
      by_cases hz : N < 0
      · cases n1 hz
      · omega
    · rw [sg_t]
      by_cases hz : 0 < N
      · cases n2 hz
      · omega
  have hsv : sv r = sg neg (rungVal s : Int) := by
    rw [hr, sv_word _ _ (by omega)]
    cases neg
    · rfl
    · rfl
  refine ⟨f, fun v fv => ?_, fun v fv hle => ?_, fun ⟨v, fv, e⟩ => (RN.only h fv e.symm).1⟩
  · have := near_best_sg (n := neg) m hs' (sv_pm fv.1)
    rw [hsg, ← hsv] at this
    simpa using this
  · have hab := sv_abs v
    have hge := m.ge (by decide) (r := v % 9223372036854775808) (by have := fv.2; omega) (by rw [← hab]; omega)
    have := rungVal_le hge
    rw [hab, hsv, sg_natAbs]
    omega

theorem te_le {a : Int} {b K : Nat} (hK : 0 < K) (h : (a * (K : Int)).natAbs ≤ b * K) : a.natAbs ≤ b := by
  rw [Int.natAbs_mul, Int.natAbs_natCast] at h
  exact Nat.le_of_mul_le_mul_right h hK
theorem te_tri {a b c : Int} {p q : Nat} (h1 : (a - b).natAbs ≤ p) (h2 : (b - c).natAbs ≤ q) : (a - c).natAbs ≤ p + q := by omega

/-- A rounded sum of two, the first not the smaller one: the sum less the first is a float, and so is what is lost. -/
theorem te_sum {x y s : Nat} (fx : Fi x) (fy : Fi y) {N : Int} (hN : N = sv x + sv y) (R : Rd N s) (hle : (sv y).natAbs ≤ (sv x).natAbs) {E : Nat} (hE : E = 2090) (hb : (sv x).natAbs ≤ 2 ^ E) :
    Rp (sv s - sv x) ∧ Rp (sv s - N) ∧ (sv s - N).natAbs ≤ (sv y).natAbs := by
  have hy := R.near x fx
  rw [show sv x - N = -sv y by omega, Int.natAbs_neg] at hy
  refine ⟨?_, ?_, hy⟩
  all_goals
    obtain ⟨m, k, ey, hm, hk, hkl⟩ := te_unit2 fy hE (Nat.le_trans hle hb)
    have hK0 := Nat.two_pow_pos k
    have hym : (sv y).natAbs = m.natAbs * 2 ^ k := by rw [ey, Int.natAbs_mul, Int.natAbs_natCast]
    obtain ⟨x', ex⟩ := te_dvd (e := k) fx (by
      rcases hk with h | h
      · exact .inl h
      · refine .inr (Nat.le_trans ?_ hle)
        rw [hym]; exact Nat.mul_le_mul_right _ h)
    have eN : N = (x' + m) * ((2 ^ k : Nat) : Int) := by rw [hN, ex, ey, Int.add_mul]
    by_cases hp : (x' + m).natAbs ≤ 9007199254740992
    · have eS := R.self (te_grid (by omega) eN hp)
      first
      | exact Rp.of rp_zero (show (0 : Int) = sv s - N by omega)
      | exact Rp.of (n := sv y) ⟨y, fy, rfl⟩ (show sv y = sv s - sv x by omega)
    · obtain ⟨v, fv, ev⟩ : Rp (9007199254740992 * ((2 ^ k : Nat) : Int)) := te_grid (k := k) (q := 9007199254740992) (by omega) rfl (by decide)
      have hvN : (sv v).natAbs = 9007199254740992 * 2 ^ k := by rw [ev, Int.natAbs_mul, Int.natAbs_natCast]; rfl
      have hNN : N.natAbs = (x' + m).natAbs * 2 ^ k := by rw [eN, Int.natAbs_mul, Int.natAbs_natCast]
      have hup := R.up v fv (by rw [hvN, hNN]; exact Nat.mul_le_mul_right _ (by omega))
      rw [hvN] at hup
      have e2K : 2 ^ (k + 1) = 2 * 2 ^ k := by rw [Nat.pow_succ, Nat.mul_comm]
      obtain ⟨u, eu⟩ := te_dvd (e := k + 1) R.fi (.inr (by rw [e2K]; omega))
      have e2 : ((2 ^ (k + 1) : Nat) : Int) = 2 * ((2 ^ k : Nat) : Int) := by rw [e2K, Int.natCast_mul]; rfl
      have eu1 : sv s = (2 * u) * ((2 ^ k : Nat) : Int) := by rw [eu, e2, ← Int.mul_assoc, Int.mul_comm u 2]
      have eSN : sv s - N = (2 * u - (x' + m)) * ((2 ^ k : Nat) : Int) := by rw [eu1, eN, ← Int.sub_mul]
      have hSN : (2 * u - (x' + m)).natAbs ≤ m.natAbs := by
        refine te_le hK0 ?_
        rw [← eSN, ← hym]; exact hy
      first
      | exact te_grid (k := k) (by omega) eSN (by omega)
      | (have eSX : sv s - sv x = (2 * u - x') * ((2 ^ k : Nat) : Int) := by rw [eu1, ex, ← Int.sub_mul]
         by_cases hx' : 9007199254740992 ≤ x'.natAbs
         · have hxa : (sv x).natAbs = x'.natAbs * 2 ^ k := by rw [ex, Int.natAbs_mul, Int.natAbs_natCast]
           obtain ⟨z, ez⟩ := te_dvd (e := k + 1) fx (.inr (by
             rw [e2K, hxa]
             have := Nat.mul_le_mul_right (2 ^ k) hx'
             omega))
           have ezx : x' = 2 * z := by
             rw [e2, ← Int.mul_assoc, Int.mul_comm z 2, ex] at ez
             exact Int.eq_of_mul_eq_mul_right (by omega) ez
           have e3 : sv s - sv x = (u - z) * ((2 ^ (k + 1) : Nat) : Int) := by rw [eu, ez, ← Int.sub_mul]
           exact te_grid (k := k + 1) (by omega) e3 (by omega)
         · have hnear : (2 * u - (x' + m)).natAbs ≤ 1 := by
             obtain ⟨v2, fv2, ev2⟩ : Rp (((x' + m) / 2) * ((2 ^ (k + 1) : Nat) : Int)) := te_grid (k := k + 1) (by omega) rfl (by omega)
             have h := R.near v2 fv2
             refine te_le hK0 ?_
             rw [← eSN]
             refine Nat.le_trans h ?_
             rw [ev2, e2, ← Int.mul_assoc, eN, ← Int.sub_mul, Int.natAbs_mul, Int.natAbs_natCast]
             exact Nat.mul_le_mul_right _ (by omega)
           exact te_grid (k := k) (by omega) eSX (by omega))

/-- The six steps. -/
theorem te_two {a b s t d p q e : Nat} (fa : Fi a) (fb : Fi b) {E : Nat} (hE : E = 2074) (ha : (sv a).natAbs ≤ 2 ^ E) (hb : (sv b).natAbs ≤ 2 ^ E)
    (h1 : Fi a → Fi b → RN (sv a + sv b) 1 s) (h2 : Fi s → Fi a → RN (sv s - sv a) 1 t) (h3 : Fi s → Fi t → RN (sv s - sv t) 1 d) (h4 : Fi a → Fi d → RN (sv a - sv d) 1 p) (h5 : Fi b → Fi t → RN (sv b - sv t) 1 q) (h6 : Fi p → Fi q → RN (sv p + sv q) 1 e) :
    Fi s ∧ Fi t ∧ Fi d ∧ Fi p ∧ Fi q ∧ Fi e ∧ sv s + sv e = sv a + sv b := by
  obtain ⟨T, hT⟩ : ∃ T, T = 2044 := ⟨_, rfl⟩
  obtain ⟨G, hG⟩ : ∃ G, G = 2090 := ⟨_, rfl⟩
  have pT : 9007199254740992 * 2 ^ T = 8388608 * 2 ^ E := by
    rw [show (9007199254740992 : Nat) = 2 ^ 53 by decide, show (8388608 : Nat) = 2 ^ 23 by decide, ← Nat.pow_add, ← Nat.pow_add]; congr 1; omega
  have pG : 2 ^ G = 65536 * 2 ^ E := by
    rw [show (65536 : Nat) = 2 ^ 16 by decide, ← Nat.pow_add]; congr 1; omega
  have rd : ∀ {N : Int} {r : Nat}, RN N 1 r → N.natAbs ≤ 8388608 * 2 ^ E → Rd N r := fun h hb => te_round h hT (by rw [pT]; exact hb)
  have sm : ∀ {x y s : Nat} {N : Int}, Fi x → Fi y → N = sv x + sv y → Rd N s → (sv y).natAbs ≤ (sv x).natAbs → (sv x).natAbs ≤ 65536 * 2 ^ E → Rp (sv s - sv x) ∧ Rp (sv s - N) ∧ (sv s - N).natAbs ≤ (sv y).natAbs := fun fx fy hN R hle hb => te_sum fx fy hN R hle hG (by rw [pG]; exact hb)
  have hun := te_unit2 fa hG (by rw [pG]; omega)
  clear pT pG
  generalize 2 ^ E = B at *
  have f0 : Fi 0 := ⟨by decide, by decide⟩
  have z0 : sv 0 = 0 := by decide +kernel
  have R1 := rd (h1 fa fb) (by omega)
  have bs : (sv s - (sv a + sv b)).natAbs ≤ 2 * B := by have := R1.near 0 f0; rw [z0] at this; omega
  have R2 := rd (h2 R1.fi fa) (by omega)
  have bt : (sv t - (sv s - sv a)).natAbs ≤ 5 * B := by have := R2.near 0 f0; rw [z0] at this; omega
  have R3 := rd (h3 R1.fi R2.fi) (by omega)
  have bd : (sv d - (sv s - sv t)).natAbs ≤ 20 * B := by have := R3.near 0 f0; rw [z0] at this; omega
  have R4 := rd (h4 fa R3.fi) (by omega)
  have bp : (sv p - (sv a - sv d)).natAbs ≤ 60 * B := by have := R4.near 0 f0; rw [z0] at this; omega
  have R5 := rd (h5 fb R2.fi) (by omega)
  have bq : (sv q - (sv b - sv t)).natAbs ≤ 20 * B := by have := R5.near 0 f0; rw [z0] at this; omega
  have R6 := rd (h6 R4.fi R5.fi) (by omega)
  refine ⟨R1.fi, R2.fi, R3.fi, R4.fi, R5.fi, R6.fi, ?_⟩
  -- what is wanted of t
  have fin : Rp (sv s - sv t) → Rp (sv t - (sv s - sv a)) → Rp (sv b - sv t) → Rp (sv s - (sv a + sv b)) → sv s + sv e = sv a + sv b := by
    intro g1 g2 g3 g4
    have e3 := R3.self g1
    have e4 := R4.self (g2.of (by omega))
    have e5 := R5.self g3
    have e6 := R6.self (g4.neg.of (by omega))
    omega
  have ra : Rp (sv a) := ⟨a, fa, rfl⟩
  have rb : Rp (sv b) := ⟨b, fb, rfl⟩
  by_cases hab : (sv b).natAbs ≤ (sv a).natAbs
  · obtain ⟨k1, k2, _⟩ := sm fa fb rfl R1 hab (by omega)
    have e2 := R2.self k1
    exact fin (ra.of (by omega)) (rp_zero.of (by omega)) (k2.neg.of (by omega)) k2
  · obtain ⟨k1, k2, k3⟩ := sm fb fa (Int.add_comm ..) R1 (by omega) (by omega)
    by_cases hs : (sv a).natAbs ≤ (sv s).natAbs
    · obtain ⟨l1, l2, _⟩ := sm (y := fopp a) R1.fi fa.opp (by rw [sv_opp fa.1]; omega) R2 (by rw [sv_opp fa.1]; omega) (by omega)
      obtain ⟨z, fz, ez⟩ := id k2
      obtain ⟨j1, _, _⟩ := sm (y := z) fb fz (by rw [ez]; omega) R2 (by rw [ez]; omega) (by omega)
      exact fin (l1.neg.of (by omega)) l2 (j1.neg.of (by omega)) k2
    · have hN : (sv a + sv b).natAbs < (sv a).natAbs := by
        by_cases h : (sv a + sv b).natAbs < (sv a).natAbs
        · exact h
        · have := R1.up a fa (by omega); omega
      have e1 : sv s = sv a + sv b := by
        exact R1.self (by
          obtain ⟨m, k, ea, hm, hk, hkl⟩ := hun
          obtain ⟨b', eb⟩ := te_dvd (e := k) fb (by
            rcases hk with h | h
            · exact .inl h
            · refine .inr (Nat.le_trans (Nat.mul_le_mul_right _ h) ?_)
              have : (sv a).natAbs = m.natAbs * 2 ^ k := by rw [ea, Int.natAbs_mul, Int.natAbs_natCast]
              omega)
          have hK0 := Nat.two_pow_pos k
          have hym : (sv a).natAbs = m.natAbs * 2 ^ k := by rw [ea, Int.natAbs_mul, Int.natAbs_natCast]
          have eN : sv a + sv b = (m + b') * ((2 ^ k : Nat) : Int) := by rw [ea, eb, Int.add_mul]
          have hq : (m + b').natAbs ≤ m.natAbs := te_le hK0 (by rw [← eN, ← hym]; omega)
          exact te_grid (by omega) eN (by omega))
      have e2 := R2.self (rb.of (by omega))
      exact fin (ra.of (by omega)) (rp_zero.of (by omega)) (rp_zero.of (by omega)) (rp_zero.of (by omega))
end Go.Proofs.YtabkgpnckaaclaaGreatDoor

/- math.Ldexp of a whole number from 1 to 2^53: that number times a power of two, exactly, where it is a float. -/
namespace Go.Proofs.YtabkgpnckaaclaaGreatDoor
open Go.RowKit
set_option linter.unusedVariables false

/-- A rounded fraction that is a whole number of the least units, and a float. -/
theorem lx_exact {T : Int} {D r : Nat} (hD : 0 < D) (h : RN (T * (D : Int)) D r) (g : Rp T) : sv r = T ∧ Fi r := by
  have h1 : RN T 1 r := by
    obtain ⟨neg, s, e, n1, n2, m⟩ := h
    have hD' : (0 : Int) < (D : Int) := by omega
    refine ⟨neg, s, e, fun ht => n1 (Int.mul_neg_of_neg_of_pos ht hD'), fun ht => n2 (Int.mul_pos ht hD'), ?_⟩
    rw [Int.natAbs_mul, Int.natAbs_natCast] at m
    have m2 : Mid (T.natAbs * D) (1 * D) s := by rw [Nat.one_mul]; exact m
    exact m2.back D hD
  obtain ⟨v, fv, ev⟩ := g
  exact RN.only h1 fv ev.symm
/-- What the bits of a whole number are. -/
theorem lx_bits {F n : Nat} {Z : Nat} (hZ : Z = 1074) (hF : F < 9218868437227405312) (hv : rungVal F = n * 2 ^ Z) (h1 : 1 ≤ n) (h2 : n ≤ 9007199254740992) : ∃ E f : Nat, F = (E + 1) * 4503599627370496 + f ∧ f < 4503599627370496 ∧ rungVal F = (4503599627370496 + f) * 2 ^ E ∧ 1022 ≤ E ∧ E ≤ 1075 := by
  have hge : 4503599627370496 ≤ F := by
    by_cases hc : 4503599627370496 ≤ F
    · exact hc
    · exfalso
      have e : rungVal F = F := by unfold rungVal; rw [if_pos (by omega)]
      have h3 : 2 ^ 60 ≤ 2 ^ Z := Nat.pow_le_pow_right (by decide) (by omega)
      have h4 : 1 * 2 ^ Z ≤ n * 2 ^ Z := Nat.mul_le_mul_right _ h1
      have h5 : (2 : Nat) ^ 60 = 1152921504606846976 := by decide
      omega
  have e : rungVal F = (4503599627370496 + F % 4503599627370496) * 2 ^ (F / 4503599627370496 - 1) := by unfold rungVal; rw [if_neg (by omega)]
  refine ⟨F / 4503599627370496 - 1, F % 4503599627370496, ?_, Nat.mod_lt _ (by decide), e, ?_, ?_⟩
  · have := Nat.div_add_mod F 4503599627370496
    have h3 : 1 ≤ F / 4503599627370496 := by omega
    rw [show F / 4503599627370496 - 1 + 1 = F / 4503599627370496 by omega]
    omega
  · have hm : F % 4503599627370496 < 4503599627370496 := Nat.mod_lt _ (by decide)
    generalize F % 4503599627370496 = fr at *
    generalize F / 4503599627370496 - 1 = E at *
    by_cases hc : 1022 ≤ E
    · exact hc
    · exfalso
      have h3 : (4503599627370496 + fr) * 2 ^ E < 2 ^ 53 * 2 ^ E := Nat.mul_lt_mul_of_pos_right (by omega) (Nat.two_pow_pos E)
      rw [← Nat.pow_add] at h3
      have h4 : 2 ^ (53 + E) ≤ 2 ^ Z := Nat.pow_le_pow_right (by decide) (by omega)
      have h5 : 1 * 2 ^ Z ≤ n * 2 ^ Z := Nat.mul_le_mul_right _ h1
      omega
  · generalize F % 4503599627370496 = fr at *
    generalize F / 4503599627370496 - 1 = E at *
    by_cases hc : E ≤ 1075
    · exact hc
    · exfalso
      have h3 : 2 ^ 52 * 2 ^ E ≤ (4503599627370496 + fr) * 2 ^ E := Nat.mul_le_mul_right _ (by omega)
      rw [← Nat.pow_add] at h3
      have h4 : 2 ^ (53 + Z + 1) ≤ 2 ^ (52 + E) := Nat.pow_le_pow_right (by decide) (by omega)
      have h5 : n * 2 ^ Z ≤ 2 ^ 53 * 2 ^ Z := Nat.mul_le_mul_right _ (by omega)
      rw [← Nat.pow_add] at h5
      have h6 : 2 ^ (53 + Z + 1) = 2 * 2 ^ (53 + Z) := by rw [Nat.pow_succ, Nat.mul_comm]
      have h7 := Nat.two_pow_pos (53 + Z)
      omega
end Go.Proofs.YtabkgpnckaaclaaGreatDoor

/- math.Ldexp of a whole number from 1 to 2^53: that number times a power of two, exactly, where it is a float. -/
namespace Go.Proofs.YtabkgpnckaaclaaGreatDoor
open Go.RowKit
set_option linter.unusedVariables false

theorem lx_m : Fi 4368491638549381120 ∧ sv 4368491638549381120 = ((2 ^ 1021 : Nat) : Int) := ⟨⟨by decide, by decide⟩, by decide +kernel⟩
/-- The bits that ldexp makes, and their number. -/
theorem lx_N {g f : Nat} (hf : f < 4503599627370496) (h0 : 1 ≤ g) (h1 : g ≤ 2046) : Fi (g * 4503599627370496 + f) ∧ sv (g * 4503599627370496 + f) = (((4503599627370496 + f) * 2 ^ (g - 1) : Nat) : Int) := by
  refine ⟨⟨by omega, by omega⟩, ?_⟩
  have h := rungVal_count (E := g - 1) (K := 4503599627370496 + f) (by omega) (fun _ => by omega)
  rw [show (g - 1) * 4503599627370496 + (4503599627370496 + f) = g * 4503599627370496 + f by omega] at h
  rw [sv_low (by omega), h]
theorem lx_highval {n c Z E : Nat} {p : Int} {j : Nat} (hZ : Z = 1074) (h : n * 2 ^ Z = c * 2 ^ E) (hj : (j : Int) = p + E) (p0 : -1074 ≤ p) : n * 2 ^ (p + 1074).toNat = c * 2 ^ j := by
  by_cases hp : 0 ≤ p
  · obtain ⟨q, rfl⟩ := Int.eq_ofNat_of_zero_le hp
    have e1 : ((q : Int) + 1074).toNat = Z + q := by omega
    have e2 : j = E + q := by omega
    rw [e1, e2, Nat.pow_add, Nat.pow_add, ← Nat.mul_assoc, h, Nat.mul_assoc]
  · obtain ⟨q, hq⟩ : ∃ q : Nat, p = -(q : Int) := ⟨(-p).toNat, by omega⟩
    subst hq
    have e1 : Z = (-(q : Int) + 1074).toNat + q := by omega
    have e2 : E = j + q := by omega
    rw [e2] at h
    generalize (-(q : Int) + 1074).toNat = t at *
    rw [e1, Nat.pow_add, Nat.pow_add, ← Nat.mul_assoc, ← Nat.mul_assoc] at h
    exact Nat.eq_of_mul_eq_mul_right (Nat.two_pow_pos q) h
theorem lx_lowval {m n c Z E t j : Nat} {p : Int} (hm : m = 1021) (hZ : Z = 1074) (h : n * 2 ^ Z = c * 2 ^ E) (ht : (t : Int) = p + 1074) (hj : (j : Int) = p + E + 53) : 2 ^ m * (c * 2 ^ j) = n * 2 ^ t * 2 ^ Z := by
  have e : 2 ^ m * (c * 2 ^ j) = c * 2 ^ (m + j) := by rw [Nat.pow_add, Nat.mul_left_comm]
  rw [e, Nat.mul_right_comm, h, Nat.mul_assoc, ← Nat.pow_add, show m + j = E + t by omega]

theorem lx_ldexp (F n : Nat) (p : Int) (Z : Nat) (hZ : Z = 1074) (w : World) (hF : F < 9218868437227405312) (hv : rungVal F = n * 2 ^ Z) (h1 : 1 ≤ n) (h2 : n ≤ 9007199254740992) (p0 : -1074 ≤ p) (p1 : p ≤ 971) (hx : n < 9007199254740992 ∨ p < 971) :
    Calls Tryz.prog 94 #[.float .f64 F, .int .i64 p] w fun x w' => ∃ R, x = .returned (.float .f64 R) ∧ Fi R ∧ sv R = ((n * 2 ^ (p + 1074).toNat : Nat) : Int) ∧ w' = w := by
  obtain ⟨E, f, hFe, hf, hval, hE0, hE1⟩ := lx_bits hZ hF hv h1 h2
  have fF : Fi F := ⟨by omega, by omega⟩
  have hc := hv.symm.trans hval
  have HI := mIsInf0_any F w (by omega)
  rw [show isinf (F % 9223372036854775808) = false by unfold isinf; simp; omega] at HI
  have HN := mIsNaN_any F w
  rw [fF.notnan] at HN
  have q0 : (FloatKind.f64.format.order F 0 == some .eq) = false := by
    rw [ord_eq fF ⟨by decide, by decide⟩]
    refine decide_eq_false ?_
    rw [sv_low (by omega), show sv 0 = 0 by decide +kernel, hv]
    have := Nat.mul_pos (show 0 < n by omega) (Nat.two_pow_pos Z)
    omega
  have HZ := lx_normalize F w hF (by omega)
  have hK : (F : Int) / 4503599627370496 = ((E + 1 : Nat) : Int) := by omega
  have ha := lx_and (E + 1) (by omega)
  have hn : bits .andNot .u64 (F : Int) 9218868437227405312 = (f : Int) := by
    have := lx_andNot (E + 1) f hf (by omega)
    rw [← hFe] at this
    exact this
  have hEx : E = 1075 → n = 9007199254740992 := by
    intro he
    rw [show E = Z + 1 by omega, Nat.pow_succ, Nat.mul_comm (2 ^ Z) 2, ← Nat.mul_assoc] at hc
    have := Nat.eq_of_mul_eq_mul_right (Nat.two_pow_pos Z) hc
    omega
  by_cases hd : p + (E : Int) < 0
  · obtain ⟨g, hg⟩ : ∃ g : Nat, (g : Int) = p + E + 54 := ⟨(p + E + 54).toNat, by omega⟩
    obtain ⟨t, ht⟩ : ∃ t : Nat, (t : Int) = p + 1074 := ⟨(p + 1074).toNat, by omega⟩
    obtain ⟨fN, vN⟩ := lx_N (g := g) hf (by omega) (by omega)
    obtain ⟨R, hR⟩ := mul_some (x := 4368491638549381120) (y := g * 4503599627370496 + f) (by decide) ((fi_fin fN.1).2 fN)
    have hrn := mul_rn Z hZ lx_m.1 fN (FN.some hR)
    rw [lx_m.2, vN, ← Int.natCast_mul, lx_lowval (p := p) rfl hZ hc ht (by omega : ((g - 1 : Nat) : Int) = p + E + 53), Int.natCast_mul] at hrn
    obtain ⟨r, hr, hrv⟩ := te_rep n t h2 (by omega)
    have hp : Rp ((n * 2 ^ t : Nat) : Int) := ⟨r, ⟨by omega, by omega⟩, by rw [sv_low (by omega), hrv]⟩
    obtain ⟨e1, e2⟩ := lx_exact (Nat.two_pow_pos Z) hrn hp
    have hor := lx_or g f hf (by omega)
    refine Calls.mono (lx_low F ((E + 1 : Nat) : Int) p ((E : Int) - 1022) (p + E - 1022) (p + E - 1022 + 53) ((g : Nat) : Int) f (g * 4503599627370496 + f) R w hK (by omega) (by omega) (by omega) (by omega) (by omega) (by omega) rfl (by omega) (by omega) (by omega) (by omega) (by omega) hR ha hn (by rw [← hor, Int.natCast_mul]; rfl) q0 (hid HI) (hid HN) (hid HZ)) ?_
    rintro x w' ⟨rfl, rfl⟩
    exact ⟨R, rfl, e2, by rw [e1, show (p + 1074).toNat = t by omega], rfl⟩
  · obtain ⟨g, hg⟩ : ∃ g : Nat, (g : Int) = p + E + 1 := ⟨(p + E + 1).toNat, by omega⟩
    have hg2 : g ≤ 2046 := by
      by_cases he : E = 1075
      · have := hEx he; omega
      · omega
    obtain ⟨fN, vN⟩ := lx_N (g := g) hf (by omega) hg2
    have hval2 := lx_highval (j := g - 1) (p := p) hZ hc (by omega) p0
    have hor := lx_or g f hf hg2
    refine Calls.mono (lx_high F ((E + 1 : Nat) : Int) p ((E : Int) - 1022) (p + E - 1022) ((g : Nat) : Int) f (g * 4503599627370496 + f) (g * 4503599627370496 + f) w hK (by omega) (by omega) (by omega) (by omega) (by omega) (by omega) (by omega) (by omega) (by omega) (by omega) (by omega) (mul_one_fl (by omega) (by omega)) ha hn (by rw [← hor, Int.natCast_mul]; rfl) q0 (hid HI) (hid HN) (hid HZ)) ?_
    rintro x w' ⟨rfl, rfl⟩
    exact ⟨_, rfl, fN, by rw [vN, hval2], rfl⟩
set_option maxHeartbeats 800000 in
set_option maxRecDepth 100000 in
theorem lx_Ldexp (F n : Nat) (p : Int) (Z : Nat) (hZ : Z = 1074) (w : World) (hF : F < 9218868437227405312) (hv : rungVal F = n * 2 ^ Z) (h1 : 1 ≤ n) (h2 : n ≤ 9007199254740992) (p0 : -1074 ≤ p) (p1 : p ≤ 971) (hx : n < 9007199254740992 ∨ p < 971) :
    Calls Tryz.prog 53 #[.float .f64 F, .int .i64 p] w fun x w' => ∃ R, x = .returned (.float .f64 R) ∧ Fi R ∧ sv R = ((n * 2 ^ (p + 1074).toNat : Nat) : Int) ∧ w' = w := by
  have H := hid (lx_ldexp F n p Z hZ w hF hv h1 h2 p0 p1 hx)
  clear hv h1 h2 p0 p1 hx hF hZ
  generalize (p + 1074).toNat = t at *
  go_enter Tryz.func53, Tryz.ntmps53
  go_wp2_with fail
  refine Calls.mono H.out ?_
  rintro e w1 ⟨R, rfl, fR, hR, rfl⟩
  have HR := hid (And.intro fR hR)
  clear fR hR H
  go_wp2_with fail
  go_ret
  exact ⟨R, rfl, HR.out.1, HR.out.2, rfl⟩
end Go.Proofs.YtabkgpnckaaclaaGreatDoor

/- Whole numbers as floats (as in Fv2, which wants turn's texts). Nothing here speaks of the program. -/
namespace Go.Proofs.YtabkgpnckaaclaaGreatDoor
open Go.RowKit
set_option linter.unusedVariables false

theorem In.ndof_eq {k x : Nat} {n : Int} (h : In k n n x) : sv x = n * ((2 ^ k : Nat) : Int) := Int.le_antisymm h.2.2 h.2.1
theorem In.ndfi {k x : Nat} {a b : Int} (h : In k a b x) : Fi x := h.1
/-- A whole number as a float. -/
theorem ndint_rn (E : Nat) (hE : E = 1074) (n : Int) : RN (n * ((2 ^ E : Nat) : Int)) 1 (floatOfInt .f64 n) := by
  have hp : (0 : Int) < ((2 ^ E : Nat) : Int) := by have := Nat.two_pow_pos E; omega
  show RN _ 1 (Ieee.double.nearest (decide (n < 0)) n.natAbs 0)
  refine near_rn (by decide) ?_ ?_ ?_
  · rw [Int.natAbs_mul, Int.natAbs_natCast, show ((0 : Int) + 1074).toNat = E by omega, show (-((0 : Int) + 1074)).toNat = 0 by omega]
  · intro h
    refine decide_eq_true ?_
    by_cases hz : n < 0
    · exact hz
    · have := Int.mul_nonneg (show 0 ≤ n by omega) (Int.le_of_lt hp); omega
  · intro h
    refine decide_eq_false ?_
    intro hz
    have := Int.mul_nonneg (show 0 ≤ -n by omega) (Int.le_of_lt hp); rw [Int.neg_mul] at this; omega
theorem ndint_in (n : Int) (h1 : -9007199254740992 ≤ n) (h2 : n ≤ 9007199254740992) : In 1074 n n (floatOfInt .f64 n) := by
  obtain ⟨E, hE⟩ : ∃ E, E = 1074 := ⟨_, rfl⟩
  have h := (ndint_rn E hE n).bounds (k := E) (lo := n) (hi := n) (by decide) (by omega) (by omega) h1 h2 (by simp) (by simp)
  rw [hE] at h; exact h
/-- Bits of numbers that are not below 0. -/
theorem ndsv_bits {x : Nat} (h : x < 9218868437227405312) : Fi x ∧ sv x = (rungVal x : Int) := ⟨⟨by omega, by rw [Nat.mod_eq_of_lt (by omega)]; exact h⟩, sv_low (by omega)⟩
theorem ndfloat_nonneg (n : Nat) (h : n ≤ 9007199254740992) : floatOfInt .f64 (n : Int) < 9218868437227405312 := by
  have hi := ndint_in (n : Int) (by omega) (by omega)
  have e : floatOfInt .f64 (n : Int) = Ieee.double.nearest false n 0 := by
    show Ieee.double.nearest (decide ((n : Int) < 0)) (n : Int).natAbs 0 = _
    rw [decide_eq_false (by omega), Int.natAbs_natCast]
  have hs : ∃ s, Ieee.double.nearest false n 0 = s ∧ s ≤ 9218868437227405312 := by
    by_cases h0 : n = 0
    · subst h0; exact ⟨0, by simp [Ieee.Format.nearest]; rfl, by omega⟩
    · obtain ⟨s, e1, m⟩ := near_is_mid false n 0 h0
      exact ⟨s, e1, m.top⟩
  obtain ⟨s, e1, h1⟩ := hs
  have f := hi.1.2
  rw [e, e1] at f ⊢
  rw [Nat.mod_eq_of_lt (by omega)] at f
  exact f
theorem ndfloat_val {n F : Nat} (h : n ≤ 9007199254740992) (hF : F = floatOfInt .f64 (n : Int)) (Z : Nat) (hZ : Z = 1074) : F < 9218868437227405312 ∧ rungVal F = n * 2 ^ Z := by
  subst hF
  have h1 := ndfloat_nonneg n h
  refine ⟨h1, ?_⟩
  have := (ndint_in (n : Int) (by omega) (by omega)).ndof_eq
  rw [sv_low (by omega), ← hZ, ← Int.natCast_mul] at this
  exact Int.ofNat.inj this
end Go.Proofs.YtabkgpnckaaclaaGreatDoor

/- The document's own fractions: Of: a fraction of a sign and two sizes, in its one form. -/
namespace Go.Proofs.YtabkgpnckaaclaaGreatDoor
open Go.RowKit
set_option linter.unusedVariables false

theorem rt_zero (n : Bool) (ys : List Int) : RTells 0 (Rat.divInt (sg n (val [])) (val ys)) false [] [1] 0 := by
  have e : Rat.divInt (sg n (val [])) (val ys) = Rat.divInt 0 1 := by cases n <;> simp [sg, val, valTo]
  rw [e]
  obtain ⟨e1, e2⟩ := fr_num (x := 0) (d := 1) (by omega) (by decide)
  have hk : rchk false [] [1] = 0 := rchk_good (by simp) (by simp) rfl rfl (by simp) (.inl rfl) (by decide)
  refine ⟨Wd.nil, Wd.one (by omega), fun h => absurd rfl h, fun _ hl => ?_, fun _ _ => ⟨rfl, hk, ?_⟩⟩
  · exfalso
    unfold rlong at hl
    rw [e1, e2] at hl
    have := wlim_big
    simp at hl
    omega
  · unfold rq
    rfl
theorem RTold.later {w W W' : World} {e : Int} {q : Rat} {x : Ending} (h : RTold w e q x W) (hb : Below W.heap.size W W') : RTold w e q x W' := by
  obtain ⟨n, v, xs, u, ys, code, rfl, o1, o2, t, hbw⟩ := h
  exact ⟨n, v, xs, u, ys, code, rfl, owns_later o1 hb, owns_later o2 hb, t, bt hbw hb⟩
theorem rt_rlong {n : Bool} {zs ds : List Int} (wz : Wd zs) (tz : Trimmed zs) (wd : Wd ds) (td : Trimmed ds) (hd : 0 < val ds) (hg : gcdI (val zs) (val ds) = 1) : rlong (Rat.divInt (sg n (val zs)) (val ds)) ↔ 2048 < max zs.length ds.length := by
  have hz0 := val_nonneg wz
  obtain ⟨e1, e2⟩ := fr_num (x := sg n (val zs)) hd (by rw [gcd_sg]; exact hg)
  unfold rlong
  rw [e1, e2, abs_sg n hz0, ← len2048 wz tz, ← len2048 wd td]
  omega
theorem rt_good {n : Bool} {zs ds : List Int} (wz : Wd zs) (tz : Trimmed zs) (wd : Wd ds) (td : Trimmed ds) (hz : 0 < zs.length) (hd : 0 < val ds) (hg : gcdI (val zs) (val ds) = 1) (l1 : zs.length ≤ 2048) (l2 : ds.length ≤ 2048) : RTells 0 (Rat.divInt (sg n (val zs)) (val ds)) n zs ds 0 := by
  have hl := rt_rlong (n := n) wz tz wd td hd hg
  have hd0 : 0 < ds.length := by
    by_cases c : 0 < ds.length
    · exact c
    · have := trimmed_zero' (us := ds) (by omega); omega
  exact ⟨wz, wd, fun h => absurd rfl h, fun _ h' => absurd (hl.1 h') (by omega), fun _ _ => ⟨rfl, rchk_good l1 l2 tz td hd0 (.inr hz) hg, rfl⟩⟩
theorem rt_long {n : Bool} {zs ds : List Int} (wz : Wd zs) (tz : Trimmed zs) (wd : Wd ds) (td : Trimmed ds) (hd : 0 < val ds) (hg : gcdI (val zs) (val ds) = 1) (h : 2048 < zs.length ∨ 2048 < ds.length) : RTells 0 (Rat.divInt (sg n (val zs)) (val ds)) false [] [] 3 := by
  have hl := rt_rlong (n := n) wz tz wd td hd hg
  exact ⟨Wd.nil, Wd.nil, fun h => absurd rfl h, fun _ _ => ⟨rfl, rfl, rfl, rfl⟩, fun _ h' => absurd (hl.2 (by omega)) h'⟩

set_option maxHeartbeats 3200000 in
set_option maxRecDepth 100000 in
theorem of3_any (n : Bool) (a : Option Addr) (ca : Nat) (xs : List Int) (b : Option Addr) (cb : Nat) (ys : List Int) (w : World) (h : Sl w (.slice a xs.length ca) xs) (g : Sl w (.slice b ys.length cb) ys) (lx : xs.length ≤ 8192) (ly : ys.length ≤ 8192) (tx : Trimmed xs) (ty : Trimmed ys) (h0 : 0 < ys.length) :
    Calls Tryz.prog 68 #[.bool n, .slice a xs.length ca, .slice b ys.length cb] w (RTold w 0 (Rat.divInt (sg n (val xs)) (val ys))) := by
  have wx := h.wd
  have wy := g.wd
  have HB : Hid (Below w.heap.size w (w.alloc (.cells #[.bool false, .slice none 0 0, .slice none 0 0] 25))) := alloc_later _ _
  have HZ : Hid (Box (w.alloc (.cells #[.bool false, .slice none 0 0, .slice none 0 0] 25)) w.heap.size 25 #[.bool false, .slice none 0 0, .slice none 0 0]) := Box.made w _ _
  have HLT : Hid (w.heap.size < (w.alloc (.cells #[.bool false, .slice none 0 0, .slice none 0 0] 25)).heap.size) := HZ.out.lt
  by_cases hx : xs.length = 0
  · obtain rfl : xs = [] := List.eq_nil_of_length_eq_zero hx
    obtain ⟨K, hK⟩ : ∃ K, K = ([] : List Int).length := ⟨_, rfl⟩
    have hK0 : ((K : Int) == 0) = true := by rw [hK]; rfl
    have HT := hid (rt_zero n ys)
    have HO := hid (one3_any (w.alloc (.cells #[.bool false, .slice none 0 0, .slice none 0 0] 25)))
    rw [← hK]
    obtain ⟨q, hq⟩ : ∃ q, q = Rat.divInt (sg n (val [])) (val ys) := ⟨_, rfl⟩
    rw [← hq] at HT ⊢
    clear hx hK h g hq
    go_enter Tryz.func68, Tryz.ntmps68
    go_wp2_with fail
    refine Calls.mono HO.out ?_
    generalize (w.alloc (.cells #[.bool false, .slice none 0 0, .slice none 0 0] 25)) = X at *
    rintro e w1 ⟨g1, rfl, o1, hb1⟩
    obtain ⟨y0, y1, y2, f0, f1, f2⟩ := res_box3 HZ.out hb1
    have HR : Hid (w1.ownsRow X.heap.size 88 1 (.slice none 0 0) ([] : List Int).length (([] : List Int).map (Value.int .u32)) ∧ w1.ownsRow X.heap.size 88 1 (.slice (some ⟨g1, 0, none⟩) 1 1) [(1 : Int)].length ([(1 : Int)].map (Value.int .u32)) ∧ RTells 0 q false [] [1] 0) := ⟨World.ownsRow_nil _ _ _ _, o1, HT.out⟩
    have HBW := hid (bt HB.out hb1)
    clear o1 hb1 HO
    go_wp2_with fail
    refine bodyPost_ret (v := .tuple #[.agg #[.bool false, .slice none 0 0, .slice (some ⟨g1, 0, none⟩) 1 1], .int .i64 0]) (by simp [results, Tryz.results68, go_sem, y0, y1, y2]) rfl ?_
    exact RTold.put HR.out w.heap.size HLT.out (Nat.le_refl _) HBW.out _ _ _
  · have hx' : ((xs.length : Int) == 0) = false := beq_eq_false_iff_ne.2 (by omega)
    have hz := both_good (chk_good lx tx) (chk_good ly ty)
    have HW := hid (gcd_wide wx wy hz)
    have HG := hid (refGcd_sl _ _ xs ys (w.alloc (.cells #[.bool false, .slice none 0 0, .slice none 0 0] 25)) (h.later HB.out) (g.later HB.out) (by omega) (by omega))
    rw [hz] at HG
    have HS := hid (And.intro (h.later HB.out) (g.later HB.out))
    have HPY : Hid (0 < val ys) := by have := val_pos' wy ty h0; show _ < _; omega
    have HPX : Hid (0 < val xs) := by have := val_pos' wx tx (by omega); show _ < _; omega
    have HMP := hid (make_parts (n := n) (m := false) (val_nonneg wx) HPY.out)
    have HGP : Hid (0 < gcdI (val xs) (val ys) ∧ gcdI (val xs) (val ys) ≤ val ys ∧ gcdI (val xs) (val ys) ≤ val xs) := ⟨gcd_pos_right HPY.out, gcd_le_right HPY.out, Int.le_of_dvd HPX.out (Int.gcd_dvd_left ..)⟩
    have hnf : (n != false) = n := by cases n <;> rfl
    rw [hnf] at HMP
    have HTT := hid (And.intro tx ty)
    have HWY := hid (And.intro wx wy)
    obtain ⟨q, hq⟩ : ∃ q, q = Rat.divInt (sg n (val xs)) (val ys) := ⟨_, rfl⟩
    rw [← hq]
    have HQ := hid hq
    clear hx hz h g hq hnf tx ty wx wy
    go_enter Tryz.func68, Tryz.ntmps68
    go_wp2_with fail
    refine Calls.mono HG.out ?_
    generalize (w.alloc (.cells #[.bool false, .slice none 0 0, .slice none 0 0] 25)) = X at *
    rintro e w1 ⟨v1, z1, c1, rfl, o1, t1, hb1⟩
    obtain ⟨rfl, hv1⟩ := t1.good rfl HW.out
    obtain ⟨a1, k1, hs1⟩ := own_slice' o1
    subst hs1
    have l1 : z1.length ≤ 8192 := by
      refine Nat.le_trans (len_of_lt t1.wd t1.trim (L := ys.length) ?_) ly
      rw [hv1]
      have := HGP.out
      have := val_lt HWY.out.2
      omega
    have p1 : 0 < z1.length := by
      by_cases c : 0 < z1.length
      · exact c
      · have := trimmed_zero' (us := z1) (by omega)
        have := HGP.out
        omega
    have HS1 := hid (Sl.own o1 t1.wd)
    have HO1 := hid (over3_any _ _ xs z1 w1 (HS.out.1.later hb1) HS1.out lx l1 HTT.out.1 t1.trim p1)
    have HO2 := hid (fun ww (hb : Below w1.heap.size w1 ww) => over3_any _ _ ys z1 ww ((HS.out.2.later hb1).later hb) (HS1.out.later hb) ly l1 HTT.out.2 t1.trim p1)
    rw [hv1] at HO1 HO2
    have HB1 := hid hb1
    clear o1 t1 hv1 hb1 HG
    go_wp2_with fail
    refine Calls.mono HO1.out ?_
    rintro e w2 ⟨v2, z2, rfl, o2, wd2, tr2, hv2, hb2⟩
    obtain ⟨a2, k2, hs2⟩ := own_slice' o2
    subst hs2
    have HC2 := hid (HO2.out w2 hb2)
    have HN2 := hid (And.intro (owns_base o2 HB1.out.size) (And.intro wd2 (And.intro tr2 hv2)))
    have HB2 := hid (bt HB1.out hb2)
    clear o2 wd2 tr2 hv2 hb2 HO1 HO2 HS1
    go_wp2_with fail
    refine Calls.mono HC2.out ?_
    rintro e w3 ⟨v3, z3, rfl, o3, wd3, tr3, hv3, hb3⟩
    obtain ⟨a3, k3, hs3⟩ := own_slice' o3
    subst hs3
    have HN3 := hid (And.intro (owns_later HN2.out.1 hb3) (And.intro (owns_base o3 HB2.out.size) (And.intro wd3 (And.intro tr3 hv3))))
    have HB3 := hid (bt HB2.out hb3)
    have HBR := hid (bt HB3.out (alloc_later w3 (.cells #[.bool n, .slice a2 z2.length k2, .slice a3 z3.length k3] 25)))
    obtain ⟨y0, y1, y2, f0, f1, f2⟩ := res_box3 HZ.out HB3.out
    have hlt : w.heap.size < w3.heap.size := Nat.lt_of_lt_of_le HLT.out HB3.out.size
    have HGZ : Hid (gcdI (val z2) (val z3) = 1 ∧ 0 < val z3 ∧ 0 < z2.length) := by
      refine ⟨by rw [HN2.out.2.2.2, hv3]; exact HMP.out.2.1, by rw [hv3]; exact HMP.out.1, ?_⟩
      by_cases c : 0 < z2.length
      · exact c
      · have e0 := trimmed_zero' (us := z2) (by omega)
        have e1 := HN2.out.2.2.2
        have e2 := HGP.out
        have e3 : 1 ≤ val xs / gcdI (val xs) (val ys) := Int.le_ediv_of_mul_le e2.1 (by omega)
        omega
    have HQQ : Hid (q = Rat.divInt (sg n (val z2)) (val z3)) := by
      show _ = _
      rw [HQ.out, HN2.out.2.2.2, hv3]
      exact HMP.out.2.2.symm
    clear o3 wd3 tr3 hv3 hb3 HC2
    by_cases hl2 : 2048 < z2.length
    · have hl2' : (2048 : Int) < (z2.length : Int) := by omega
      have HR : Hid (w3.ownsRow X.heap.size 88 1 (.slice none 0 0) ([] : List Int).length (([] : List Int).map (Value.int .u32)) ∧ w3.ownsRow X.heap.size 88 1 (.slice none 0 0) ([] : List Int).length (([] : List Int).map (Value.int .u32)) ∧ RTells 0 q false [] [] 3) := ⟨World.ownsRow_nil _ _ _ _, World.ownsRow_nil _ _ _ _, by rw [HQQ.out]; exact rt_long HN2.out.2.1 HN2.out.2.2.1 HN3.out.2.2.1 HN3.out.2.2.2.1 HGZ.out.2.1 HGZ.out.1 (.inl hl2)⟩
      clear hl2 HW HMP HGP HTT HWY HQ HS HPX HPY HN2 HN3 HGZ HQQ HBR l1 p1 lx ly h0
      go_wp2_with fail
      refine bodyPost_ret (v := .tuple #[.agg #[.bool false, .slice none 0 0, .slice none 0 0], .int .i64 3]) (by simp [results, Tryz.results68, go_sem, y0, y1, y2, hlt]) rfl ?_
      exact (RTold.put HR.out w.heap.size HLT.out (Nat.le_refl _) (bt HB.out HB3.out) _ _ _).later (alloc_later _ _)
    · have hl2' : ¬ (2048 : Int) < (z2.length : Int) := by omega
      by_cases hl3 : 2048 < z3.length
      · have hl3' : (2048 : Int) < (z3.length : Int) := by omega
        have HR : Hid (w3.ownsRow X.heap.size 88 1 (.slice none 0 0) ([] : List Int).length (([] : List Int).map (Value.int .u32)) ∧ w3.ownsRow X.heap.size 88 1 (.slice none 0 0) ([] : List Int).length (([] : List Int).map (Value.int .u32)) ∧ RTells 0 q false [] [] 3) := ⟨World.ownsRow_nil _ _ _ _, World.ownsRow_nil _ _ _ _, by rw [HQQ.out]; exact rt_long HN2.out.2.1 HN2.out.2.2.1 HN3.out.2.2.1 HN3.out.2.2.2.1 HGZ.out.2.1 HGZ.out.1 (.inr hl3)⟩
        clear hl2 hl3 HW HMP HGP HTT HWY HQ HS HPX HPY HN2 HN3 HGZ HQQ HBR l1 p1 lx ly h0
        go_wp2_with fail
        refine bodyPost_ret (v := .tuple #[.agg #[.bool false, .slice none 0 0, .slice none 0 0], .int .i64 3]) (by simp [results, Tryz.results68, go_sem, y0, y1, y2, hlt]) rfl ?_
        exact (RTold.put HR.out w.heap.size HLT.out (Nat.le_refl _) (bt HB.out HB3.out) _ _ _).later (alloc_later _ _)
      · have hl3' : ¬ (2048 : Int) < (z3.length : Int) := by omega
        have HR : Hid (w3.ownsRow X.heap.size 88 1 (.slice a2 z2.length k2) z2.length (z2.map (Value.int .u32)) ∧ w3.ownsRow X.heap.size 88 1 (.slice a3 z3.length k3) z3.length (z3.map (Value.int .u32)) ∧ RTells 0 q n z2 z3 0) := ⟨HN3.out.1, HN3.out.2.1, by rw [HQQ.out]; exact rt_good HN2.out.2.1 HN2.out.2.2.1 HN3.out.2.2.1 HN3.out.2.2.2.1 HGZ.out.2.2 HGZ.out.2.1 HGZ.out.1 (by omega) (by omega)⟩
        clear hl2 hl3 HW HMP HGP HTT HWY HQ HS HPX HPY HN2 HN3 HGZ HQQ HBR l1 p1 lx ly h0
        go_wp2_with fail
        refine bodyPost_ret (v := .tuple #[.agg #[.bool n, .slice a2 z2.length k2, .slice a3 z3.length k3], .int .i64 0]) (by simp [results, Tryz.results68, go_sem, y0, y1, y2, hlt]) rfl ?_
        exact (RTold.put HR.out w.heap.size HLT.out (Nat.le_refl _) (bt HB.out HB3.out) _ _ _).later (alloc_later _ _)
end Go.Proofs.YtabkgpnckaaclaaGreatDoor

/- The document's own fractions: same words; Check. -/
namespace Go.Proofs.YtabkgpnckaaclaaGreatDoor
open Go.RowKit
set_option linter.unusedVariables false

set_option maxHeartbeats 800000 in
set_option maxRecDepth 100000 in
theorem same3_any (a : Option Addr) (n cap : Nat) (xs : List Int) (b : Option Addr) (m cap' : Nat) (ys : List Int) (w : World) (h : Reads w w.heap.size a n cap xs) (g : Reads w w.heap.size b m cap' ys) (hn : n ≤ 281474976710656) (hm : m ≤ 281474976710656) :
    Calls Tryz.prog 78 #[.slice a n cap, .slice b m cap'] w fun e w' => e = .returned (.bool (decide (xs = ys))) ∧ Below w.heap.size w w' := by
  obtain ⟨hl, hw, hc, hcap⟩ := h
  obtain ⟨gl, gw, gc, gcap⟩ := g
  by_cases hnm : n = m
  · subst hnm
    have htt : ((n : Int) != (n : Int)) = false := by simp
    rcases hc with h0 | ⟨b1, o1, rfl, hb1, hc⟩
    · subst h0
      have hx : xs = [] := List.eq_nil_of_length_eq_zero hl
      have hy : ys = [] := List.eq_nil_of_length_eq_zero gl
      subst hx; subst hy
      go_enter Tryz.func78, Tryz.ntmps78
      go_wp2
      refine wp_loop_rounds 1 ?_
      rw [rounds_succ]
      go_wp2
      go_ret
      exact ⟨rfl, Below.refl _ _⟩
    · rcases gc with g0 | ⟨b2, o2, rfl, hb2, gc⟩
      · subst g0
        have hx : xs = [] := List.eq_nil_of_length_eq_zero hl
        have hy : ys = [] := List.eq_nil_of_length_eq_zero gl
        subst hx; subst hy
        go_enter Tryz.func78, Tryz.ntmps78
        go_wp2
        refine wp_loop_rounds 1 ?_
        rw [rounds_succ]
        go_wp2
        go_ret
        exact ⟨rfl, Below.refl _ _⟩
      · have HL : Hid (xs.length = n ∧ ys.length = n) := ⟨hl, gl⟩
        clear hl gl
        go_enter Tryz.func78, Tryz.ntmps78
        go_wp2
        go_loopw [5] (fun t wr => ∃ k : Nat, k ≤ n ∧ t = .int .i64 k ∧ xs.take k = ys.take k ∧ Below w.heap.size w wr) (fun t _ => n - (intOf t).toNat)
        case atStart => exact ⟨0, Nat.zero_le _, rfl, rfl, Below.refl _ _⟩
        case round =>
          obtain ⟨k, hk, rfl, hs, hbel⟩ := hrel
          have HS : Hid (xs.take k = ys.take k) := hs
          clear hs
          by_cases hlt : k < n
          · have hcx : wr.cell? ⟨b1, o1 + k, none⟩ = some (.int .u32 (xs[k]?.getD 0)) := (hbel.cell (p := ⟨b1, o1 + k, none⟩) hb1).trans (hc k hlt)
            have hcy : wr.cell? ⟨b2, o2 + k, none⟩ = some (.int .u32 (ys[k]?.getD 0)) := (hbel.cell (p := ⟨b2, o2 + k, none⟩) hb2).trans (gc k hlt)
            by_cases he : xs[k]?.getD 0 = ys[k]?.getD 0
            · have hne : (xs[k]?.getD 0 != ys[k]?.getD 0) = false := by simp [he]
              have HE : Hid (xs[k]?.getD 0 = ys[k]?.getD 0) := he
              clear he
              go_wp2
              go_region

              all_goals go_wp2

              all_goals
                go_roundw
                case rel => exact ⟨k + 1, by omega, by go_num, take_same HS.out (by have := HL.out; omega) (by have := HL.out; omega) HE.out, hbel.drew⟩
                case measure => simp [intOf]; omega
            · have hne : (xs[k]?.getD 0 != ys[k]?.getD 0) = true := by simp [he]
              have HE : Hid (¬ xs[k]?.getD 0 = ys[k]?.getD 0) := he
              clear he
              go_wp2
              go_region
              all_goals go_wp2
              all_goals
                go_ret
                exact ⟨ret_bool (decide_eq_false fun e => HE.out (by rw [e])).symm, hbel.drew⟩
          · have hkn : k = n := by omega
            subst hkn
            go_wp2
            go_ret
            exact ⟨ret_bool (decide_eq_true (by have := HS.out; have hl := HL.out; rwa [List.take_of_length_le (by omega), List.take_of_length_le (by omega)] at this)).symm, hbel⟩
  · have hne : ((n : Int) != (m : Int)) = true := by simp; omega
    have hd : decide (xs = ys) = false := decide_eq_false fun e => hnm (by rw [← hl, ← gl, e])
    have HD : Hid (decide (xs = ys) = false) := hd
    clear hd hc gc
    go_enter Tryz.func78, Tryz.ntmps78
    go_wp2
    go_ret
    exact ⟨ret_bool HD.out.symm, Below.refl _ _⟩

theorem same3_sl (v u : Value) (xs ys : List Int) (w : World) (h : Sl w v xs) (g : Sl w u ys) (hn : xs.length ≤ 281474976710656) (hm : ys.length ≤ 281474976710656) :
    Calls Tryz.prog 78 #[v, u] w fun e w' => e = .returned (.bool (decide (xs = ys))) ∧ Below w.heap.size w w' := by
  obtain ⟨a, ca, rfl, hr⟩ := h
  obtain ⟨b, cb, rfl, gr⟩ := g
  exact same3_any a _ ca xs b _ cb ys w hr gr hn hm
theorem rchk_long {n : Bool} {xs ys : List Int} (h : 2048 < xs.length ∨ 2048 < ys.length) : rchk n xs ys = 3 := by unfold rchk; rw [if_pos (by omega)]
theorem rchk_rough {n : Bool} {xs ys : List Int} (l1 : xs.length ≤ 2048) (l2 : ys.length ≤ 2048) (h : ¬ rform n xs ys) : rchk n xs ys = 11 := by unfold rchk; rw [if_neg (by omega), if_neg h]
theorem Tells.len' {e t : Int} {zs : List Int} {c : Int} (h : Tells e t zs c) : zs.length ≤ 8192 := by
  by_cases he : e = 0
  · by_cases hl : wide ≤ t
    · rw [(h.long he hl).2]; simp
    · have e1 := (h.good he (by omega)).2
      exact len_of_lt h.wd h.trim (by rw [e1]; exact Int.not_le.1 hl)
  · rw [(h.bad he).2]; simp
theorem rform_trim {n : Bool} {xs ys : List Int} (h : rform n xs ys) : sz xs = xs.length ∧ sz ys = ys.length := ⟨(chk_ok (both_ok h.1).1).2, (chk_ok (both_ok h.1).2).2⟩

set_option maxHeartbeats 1600000 in
set_option maxRecDepth 100000 in
theorem check3_any (n : Bool) (a : Option Addr) (ca : Nat) (xs : List Int) (b : Option Addr) (cb : Nat) (ys : List Int) (w : World) (sx : Sl w (.slice a xs.length ca) xs) (sy : Sl w (.slice b ys.length cb) ys) (lx : xs.length ≤ 281474976710656) (ly : ys.length ≤ 281474976710656) :
    Calls Tryz.prog 42 #[.agg #[.bool n, .slice a xs.length ca, .slice b ys.length cb]] w fun e w' => e = .returned (.int .i64 (rchk n xs ys)) ∧ Below w.heap.size w w' := by
  have wx := sx.wd
  have wy := sy.wd
  have HB := hid (alloc_later w (.cells #[.bool n, .slice a xs.length ca, .slice b ys.length cb] 25))
  have HN := hid (Box.made w 25 #[.bool n, .slice a xs.length ca, .slice b ys.length cb])
  have HS := hid (And.intro (sx.later HB.out) (sy.later HB.out))
  have HR := hid (Below.refl (w.alloc (.cells #[.bool n, .slice a xs.length ca, .slice b ys.length cb] 25)).heap.size (w.alloc (.cells #[.bool n, .slice a xs.length ca, .slice b ys.length cb] 25)))
  have HT1 := hid (fun ww (hb : Below (w.alloc (.cells #[.bool n, .slice a xs.length ca, .slice b ys.length cb] 25)).heap.size (w.alloc (.cells #[.bool n, .slice a xs.length ca, .slice b ys.length cb] 25)) ww) => trimmed3_any _ xs ww (HS.out.1.later hb) lx)
  have HT2 := hid (fun ww (hb : Below (w.alloc (.cells #[.bool n, .slice a xs.length ca, .slice b ys.length cb] 25)).heap.size (w.alloc (.cells #[.bool n, .slice a xs.length ca, .slice b ys.length cb] 25)) ww) => trimmed3_any _ ys ww (HS.out.2.later hb) ly)
  clear sx sy
  by_cases h1 : 2048 < xs.length
  · rw [rchk_long (.inl h1)]
    have h1' : (2048 : Int) < (xs.length : Int) := by omega
    clear h1
    go_enter Tryz.func42, Tryz.ntmps42
    go_wp2_with fail
    go_ret
    exact ⟨rfl, HB.out⟩
  · have h1' : ¬ (2048 : Int) < (xs.length : Int) := by omega
    by_cases h2 : 2048 < ys.length
    · rw [rchk_long (.inr h2)]
      have h2' : (2048 : Int) < (ys.length : Int) := by omega
      clear h1 h2
      go_enter Tryz.func42, Tryz.ntmps42
      go_wp2_with fail
      go_ret
      exact ⟨rfl, HB.out⟩
    · have h2' : ¬ (2048 : Int) < (ys.length : Int) := by omega
      have HL : Hid (xs.length ≤ 2048 ∧ ys.length ≤ 2048) := ⟨by omega, by omega⟩
      clear h1 h2
      by_cases h3 : sz xs = xs.length
      · rw [decide_eq_true h3] at HT1
        by_cases h4 : sz ys = ys.length
        · rw [decide_eq_true h4] at HT2
          by_cases h5 : ys.length = 0
          · rw [rchk_rough HL.out.1 HL.out.2 (fun h => by have := h.2.1; omega)]
            have h5' : ((ys.length : Int) == 0) = true := by rw [h5]; rfl
            clear h3 h4 h5
            go_enter Tryz.func42, Tryz.ntmps42
            go_wp2_with fail
            refine Calls.mono (HT1.out _ HR.out) ?_
            generalize (w.alloc (.cells #[.bool n, .slice a xs.length ca, .slice b ys.length cb] 25)) = X at *
            rintro e w1 ⟨rfl, hb1⟩
            obtain ⟨p0, p1, p2, _⟩ := res_box3 HN.out hb1
            have HC := hid (HT2.out w1 hb1)
            have HB1 := hid hb1
            clear hb1
            go_wp2_with fail
            refine Calls.mono HC.out ?_
            rintro e w2 ⟨rfl, hb2⟩
            have HB2 := hid (bt HB1.out hb2)
            clear hb2 p0 p1 p2
            obtain ⟨p0, p1, p2, _⟩ := res_box3 HN.out HB2.out
            go_wp2_with fail
            go_ret
            exact ⟨rfl, bt HB.out HB2.out⟩
          · have h5' : ((ys.length : Int) == 0) = false := beq_eq_false_iff_ne.2 (by omega)
            have HBO : Hid (both xs ys = 0) := both_good (chk_good (by have := HL.out; omega) h3) (chk_good (by have := HL.out; omega) h4)
            have HGW := hid (gcd_wide wx wy HBO.out)
            by_cases h6 : xs.length = 0
            · have h6' : ((xs.length : Int) == 0) = true := by rw [h6]; rfl
              cases n with
              | true =>
                rw [rchk_rough HL.out.1 HL.out.2 (fun h => h.2.2.1.elim (fun e => by cases e) (fun e => by omega))]
                clear h3 h4 h5 h6
                go_enter Tryz.func42, Tryz.ntmps42
                go_wp2_with fail
                refine Calls.mono (HT1.out _ HR.out) ?_
                generalize (w.alloc (.cells #[.bool true, .slice a xs.length ca, .slice b ys.length cb] 25)) = X at *
                rintro e w1 ⟨rfl, hb1⟩
                obtain ⟨p0, p1, p2, _⟩ := res_box3 HN.out hb1
                have HC := hid (HT2.out w1 hb1)
                have HB1 := hid hb1
                clear hb1
                go_wp2_with fail
                refine Calls.mono HC.out ?_
                rintro e w2 ⟨rfl, hb2⟩
                have HB2 := hid (bt HB1.out hb2)
                clear hb2 p0 p1 p2
                obtain ⟨p0, p1, p2, _⟩ := res_box3 HN.out HB2.out
                go_wp2_with fail
                go_ret
                exact ⟨rfl, bt HB.out HB2.out⟩
              | false =>
                by_cases hg : gcdI (val xs) (val ys) = 1
                · rw [show rchk false xs ys = 0 from rchk_good HL.out.1 HL.out.2 h3 h4 (by omega) (.inl rfl) hg]
                  have HGG : Hid (decide (gcdI (val xs) (val ys) = 1) = true) := decide_eq_true hg
                  clear h3 h4 h5 h6 hg
                  go_enter Tryz.func42, Tryz.ntmps42
                  go_wp2_with fail
                  refine Calls.mono (HT1.out _ HR.out) ?_
                  generalize (w.alloc (.cells #[.bool false, .slice a xs.length ca, .slice b ys.length cb] 25)) = X at *
                  rintro e w1 ⟨rfl, hb1⟩
                  obtain ⟨p0, p1, p2, _⟩ := res_box3 HN.out hb1
                  have HC := hid (HT2.out w1 hb1)
                  have HB1 := hid hb1
                  clear hb1
                  go_wp2_with fail
                  refine Calls.mono HC.out ?_
                  rintro e w2 ⟨rfl, hb2⟩
                  have HB2 := hid (bt HB1.out hb2)
                  clear hb2 p0 p1 p2
                  obtain ⟨p0, p1, p2, _⟩ := res_box3 HN.out HB2.out
                  have HG := hid (refGcd_sl _ _ xs ys w2 (HS.out.1.later HB2.out) (HS.out.2.later HB2.out) lx ly)
                  rw [HBO.out] at HG
                  go_wp2_with fail
                  refine Calls.mono HG.out ?_
                  rintro e w3 ⟨v3, z3, c3, rfl, o3, t3, hb3⟩
                  obtain ⟨rfl, hv3⟩ := t3.good rfl HGW.out
                  obtain ⟨a3, k3, hs3⟩ := own_slice' o3
                  subst hs3
                  have HZ3 := hid (And.intro (Sl.own o3 t3.wd) (And.intro t3.trim hv3))
                  have l3 : z3.length ≤ 8192 := t3.len'
                  have HB3 := hid (bt HB2.out hb3)
                  have HO := hid (one3_any w3)
                  clear o3 t3 hv3 hb3 HG HC p0 p1 p2
                  go_wp2_with fail
                  refine Calls.mono HO.out ?_
                  rintro e w4 ⟨g4, rfl, o4, hb4⟩
                  have HQ := hid (same3_sl _ _ z3 [1] w4 (HZ3.out.1.later hb4) (Sl.own o4 (Wd.one (by omega))) (by omega) (by simp))
                  have HEQ : Hid (decide (z3 = [1]) = decide (gcdI (val xs) (val ys) = 1)) := by
                    show _ = _
                    congr 1
                    rw [← HZ3.out.2.2]
                    exact propext (one_iff HZ3.out.1.wd HZ3.out.2.1)
                  rw [HEQ.out, HGG.out] at HQ
                  have HB4 := hid (bt HB3.out hb4)
                  clear o4 hb4 HO HEQ
                  go_wp2_with fail
                  refine Calls.mono HQ.out ?_
                  rintro e w5 ⟨rfl, hb5⟩
                  have HBN := hid (bt HB.out (bt HB4.out hb5))
                  clear hb5
                  go_wp2_with fail
                  go_ret
                  exact ⟨rfl, HBN.out⟩
                · rw [rchk_rough HL.out.1 HL.out.2 (fun h => hg h.2.2.2)]
                  have HGG : Hid (decide (gcdI (val xs) (val ys) = 1) = false) := decide_eq_false hg
                  clear h3 h4 h5 h6 hg
                  go_enter Tryz.func42, Tryz.ntmps42
                  go_wp2_with fail
                  refine Calls.mono (HT1.out _ HR.out) ?_
                  generalize (w.alloc (.cells #[.bool false, .slice a xs.length ca, .slice b ys.length cb] 25)) = X at *
                  rintro e w1 ⟨rfl, hb1⟩
                  obtain ⟨p0, p1, p2, _⟩ := res_box3 HN.out hb1
                  have HC := hid (HT2.out w1 hb1)
                  have HB1 := hid hb1
                  clear hb1
                  go_wp2_with fail
                  refine Calls.mono HC.out ?_
                  rintro e w2 ⟨rfl, hb2⟩
                  have HB2 := hid (bt HB1.out hb2)
                  clear hb2 p0 p1 p2
                  obtain ⟨p0, p1, p2, _⟩ := res_box3 HN.out HB2.out
                  have HG := hid (refGcd_sl _ _ xs ys w2 (HS.out.1.later HB2.out) (HS.out.2.later HB2.out) lx ly)
                  rw [HBO.out] at HG
                  go_wp2_with fail
                  refine Calls.mono HG.out ?_
                  rintro e w3 ⟨v3, z3, c3, rfl, o3, t3, hb3⟩
                  obtain ⟨rfl, hv3⟩ := t3.good rfl HGW.out
                  obtain ⟨a3, k3, hs3⟩ := own_slice' o3
                  subst hs3
                  have HZ3 := hid (And.intro (Sl.own o3 t3.wd) (And.intro t3.trim hv3))
                  have l3 : z3.length ≤ 8192 := t3.len'
                  have HB3 := hid (bt HB2.out hb3)
                  have HO := hid (one3_any w3)
                  clear o3 t3 hv3 hb3 HG HC p0 p1 p2
                  go_wp2_with fail
                  refine Calls.mono HO.out ?_
                  rintro e w4 ⟨g4, rfl, o4, hb4⟩
                  have HQ := hid (same3_sl _ _ z3 [1] w4 (HZ3.out.1.later hb4) (Sl.own o4 (Wd.one (by omega))) (by omega) (by simp))
                  have HEQ : Hid (decide (z3 = [1]) = decide (gcdI (val xs) (val ys) = 1)) := by
                    show _ = _
                    congr 1
                    rw [← HZ3.out.2.2]
                    exact propext (one_iff HZ3.out.1.wd HZ3.out.2.1)
                  rw [HEQ.out, HGG.out] at HQ
                  have HB4 := hid (bt HB3.out hb4)
                  clear o4 hb4 HO HEQ
                  go_wp2_with fail
                  refine Calls.mono HQ.out ?_
                  rintro e w5 ⟨rfl, hb5⟩
                  have HBN := hid (bt HB.out (bt HB4.out hb5))
                  clear hb5
                  go_wp2_with fail
                  go_ret
                  exact ⟨rfl, HBN.out⟩
            · have h6' : ((xs.length : Int) == 0) = false := beq_eq_false_iff_ne.2 (by omega)
              by_cases hg : gcdI (val xs) (val ys) = 1
              · rw [show rchk n xs ys = 0 from rchk_good HL.out.1 HL.out.2 h3 h4 (by omega) (.inr (by omega)) hg]
                have HGG : Hid (decide (gcdI (val xs) (val ys) = 1) = true) := decide_eq_true hg
                clear h3 h4 h5 h6 hg
                go_enter Tryz.func42, Tryz.ntmps42
                go_wp2_with fail
                refine Calls.mono (HT1.out _ HR.out) ?_
                generalize (w.alloc (.cells #[.bool n, .slice a xs.length ca, .slice b ys.length cb] 25)) = X at *
                rintro e w1 ⟨rfl, hb1⟩
                obtain ⟨p0, p1, p2, _⟩ := res_box3 HN.out hb1
                have HC := hid (HT2.out w1 hb1)
                have HB1 := hid hb1
                clear hb1
                go_wp2_with fail
                refine Calls.mono HC.out ?_
                rintro e w2 ⟨rfl, hb2⟩
                have HB2 := hid (bt HB1.out hb2)
                clear hb2 p0 p1 p2
                obtain ⟨p0, p1, p2, _⟩ := res_box3 HN.out HB2.out
                have HG := hid (refGcd_sl _ _ xs ys w2 (HS.out.1.later HB2.out) (HS.out.2.later HB2.out) lx ly)
                rw [HBO.out] at HG
                go_wp2_with fail
                refine Calls.mono HG.out ?_
                rintro e w3 ⟨v3, z3, c3, rfl, o3, t3, hb3⟩
                obtain ⟨rfl, hv3⟩ := t3.good rfl HGW.out
                obtain ⟨a3, k3, hs3⟩ := own_slice' o3
                subst hs3
                have HZ3 := hid (And.intro (Sl.own o3 t3.wd) (And.intro t3.trim hv3))
                have l3 : z3.length ≤ 8192 := t3.len'
                have HB3 := hid (bt HB2.out hb3)
                have HO := hid (one3_any w3)
                clear o3 t3 hv3 hb3 HG HC p0 p1 p2
                go_wp2_with fail
                refine Calls.mono HO.out ?_
                rintro e w4 ⟨g4, rfl, o4, hb4⟩
                have HQ := hid (same3_sl _ _ z3 [1] w4 (HZ3.out.1.later hb4) (Sl.own o4 (Wd.one (by omega))) (by omega) (by simp))
                have HEQ : Hid (decide (z3 = [1]) = decide (gcdI (val xs) (val ys) = 1)) := by
                  show _ = _
                  congr 1
                  rw [← HZ3.out.2.2]
                  exact propext (one_iff HZ3.out.1.wd HZ3.out.2.1)
                rw [HEQ.out, HGG.out] at HQ
                have HB4 := hid (bt HB3.out hb4)
                clear o4 hb4 HO HEQ
                go_wp2_with fail
                refine Calls.mono HQ.out ?_
                rintro e w5 ⟨rfl, hb5⟩
                have HBN := hid (bt HB.out (bt HB4.out hb5))
                clear hb5
                go_wp2_with fail
                go_ret
                exact ⟨rfl, HBN.out⟩
              · rw [rchk_rough HL.out.1 HL.out.2 (fun h => hg h.2.2.2)]
                have HGG : Hid (decide (gcdI (val xs) (val ys) = 1) = false) := decide_eq_false hg
                clear h3 h4 h5 h6 hg
                go_enter Tryz.func42, Tryz.ntmps42
                go_wp2_with fail
                refine Calls.mono (HT1.out _ HR.out) ?_
                generalize (w.alloc (.cells #[.bool n, .slice a xs.length ca, .slice b ys.length cb] 25)) = X at *
                rintro e w1 ⟨rfl, hb1⟩
                obtain ⟨p0, p1, p2, _⟩ := res_box3 HN.out hb1
                have HC := hid (HT2.out w1 hb1)
                have HB1 := hid hb1
                clear hb1
                go_wp2_with fail
                refine Calls.mono HC.out ?_
                rintro e w2 ⟨rfl, hb2⟩
                have HB2 := hid (bt HB1.out hb2)
                clear hb2 p0 p1 p2
                obtain ⟨p0, p1, p2, _⟩ := res_box3 HN.out HB2.out
                have HG := hid (refGcd_sl _ _ xs ys w2 (HS.out.1.later HB2.out) (HS.out.2.later HB2.out) lx ly)
                rw [HBO.out] at HG
                go_wp2_with fail
                refine Calls.mono HG.out ?_
                rintro e w3 ⟨v3, z3, c3, rfl, o3, t3, hb3⟩
                obtain ⟨rfl, hv3⟩ := t3.good rfl HGW.out
                obtain ⟨a3, k3, hs3⟩ := own_slice' o3
                subst hs3
                have HZ3 := hid (And.intro (Sl.own o3 t3.wd) (And.intro t3.trim hv3))
                have l3 : z3.length ≤ 8192 := t3.len'
                have HB3 := hid (bt HB2.out hb3)
                have HO := hid (one3_any w3)
                clear o3 t3 hv3 hb3 HG HC p0 p1 p2
                go_wp2_with fail
                refine Calls.mono HO.out ?_
                rintro e w4 ⟨g4, rfl, o4, hb4⟩
                have HQ := hid (same3_sl _ _ z3 [1] w4 (HZ3.out.1.later hb4) (Sl.own o4 (Wd.one (by omega))) (by omega) (by simp))
                have HEQ : Hid (decide (z3 = [1]) = decide (gcdI (val xs) (val ys) = 1)) := by
                  show _ = _
                  congr 1
                  rw [← HZ3.out.2.2]
                  exact propext (one_iff HZ3.out.1.wd HZ3.out.2.1)
                rw [HEQ.out, HGG.out] at HQ
                have HB4 := hid (bt HB3.out hb4)
                clear o4 hb4 HO HEQ
                go_wp2_with fail
                refine Calls.mono HQ.out ?_
                rintro e w5 ⟨rfl, hb5⟩
                have HBN := hid (bt HB.out (bt HB4.out hb5))
                clear hb5
                go_wp2_with fail
                go_ret
                exact ⟨rfl, HBN.out⟩
        · rw [decide_eq_false h4] at HT2
          rw [rchk_rough HL.out.1 HL.out.2 (fun h => h4 (rform_trim h).2)]
          clear h3 h4
          go_enter Tryz.func42, Tryz.ntmps42
          go_wp2_with fail
          refine Calls.mono (HT1.out _ HR.out) ?_
          generalize (w.alloc (.cells #[.bool n, .slice a xs.length ca, .slice b ys.length cb] 25)) = X at *
          rintro e w1 ⟨rfl, hb1⟩
          obtain ⟨p0, p1, p2, _⟩ := res_box3 HN.out hb1
          have HC := hid (HT2.out w1 hb1)
          have HB1 := hid (bt HB.out hb1)
          clear hb1
          go_wp2_with fail
          refine Calls.mono HC.out ?_
          rintro e w2 ⟨rfl, hb2⟩
          have HBN := hid (bt HB1.out hb2)
          clear hb2
          go_wp2_with fail
          go_ret
          exact ⟨rfl, HBN.out⟩
      · rw [decide_eq_false h3] at HT1
        rw [rchk_rough HL.out.1 HL.out.2 (fun h => h3 (rform_trim h).1)]
        clear h3
        go_enter Tryz.func42, Tryz.ntmps42
        go_wp2_with fail
        refine Calls.mono (HT1.out _ HR.out) ?_
        rintro e w1 ⟨rfl, hb1⟩
        have HBN := hid (bt HB.out hb1)
        clear hb1
        go_wp2_with fail
        go_ret
        exact ⟨rfl, HBN.out⟩
end Go.Proofs.YtabkgpnckaaclaaGreatDoor

/- The document's own floats (slackwaterref06): the unit of a fraction by its bits (no program); Ldexp of 0; Near of 0. -/
namespace Go.Proofs.YtabkgpnckaaclaaGreatDoor
open Go.RowKit
set_option linter.unusedVariables false

theorem nd_up {X Y bX bY S v : Nat} (hX : X < 2 ^ bX) (hY : 2 ^ (bY - 1) ≤ Y) (h1 : 1 ≤ bY) (hv : v + bY = bX + 1 + S) : X * 2 ^ S < Y * 2 ^ v := by
  have a1 : X * 2 ^ S < 2 ^ bX * 2 ^ S := Nat.mul_lt_mul_of_pos_right hX (Nat.two_pow_pos S)
  have a2 : 2 ^ (bY - 1) * 2 ^ v ≤ Y * 2 ^ v := Nat.mul_le_mul_right _ hY
  rw [← Nat.pow_add] at a1 a2
  rw [show bY - 1 + v = bX + S by omega] at a2
  omega
theorem nd_lo {X Y bX bY S u : Nat} (hX : 2 ^ (bX - 1) ≤ X) (hY : Y < 2 ^ bY) (h1 : 1 ≤ bX) (hu : u + bY + 1 = bX + S) : Y * 2 ^ u ≤ X * 2 ^ S := by
  have a1 : Y * 2 ^ u < 2 ^ bY * 2 ^ u := Nat.mul_lt_mul_of_pos_right hY (Nat.two_pow_pos u)
  have a2 : 2 ^ (bX - 1) * 2 ^ S ≤ X * 2 ^ S := Nat.mul_le_mul_right _ hX
  rw [← Nat.pow_add] at a1 a2
  rw [show bX - 1 + S = bY + u by omega] at a2
  omega
theorem nd_le {X Y a b S u : Nat} (h : Y * 2 ^ b ≤ X * 2 ^ a) (ha : a ≤ S) (hu : u + a = b + S) : Y * 2 ^ u ≤ X * 2 ^ S := by
  have := Nat.mul_le_mul_right (2 ^ (S - a)) h
  rw [Nat.mul_assoc, Nat.mul_assoc, ← Nat.pow_add, ← Nat.pow_add, show b + (S - a) = u by omega, show a + (S - a) = S by omega] at this
  exact this
theorem nd_lt {X Y a b S u : Nat} (h : X * 2 ^ a < Y * 2 ^ b) (ha : a ≤ S) (hu : u + a = b + S) : X * 2 ^ S < Y * 2 ^ u := by
  have := Nat.mul_lt_mul_of_pos_right h (Nat.two_pow_pos (S - a))
  rw [Nat.mul_assoc, Nat.mul_assoc, ← Nat.pow_add, ← Nat.pow_add, show b + (S - a) = u by omega, show a + (S - a) = S by omega] at this
  exact this

/-- e is the unit of X / Y: 2 ^ e is not above it, 2 ^ (e + 1) is. -/
def Unit2 (X Y : Nat) (e : Int) : Prop := ∃ u v : Nat, ∃ S : Nat, (u : Int) = e + S ∧ (v : Int) = e + 1 + S ∧ Y * 2 ^ u ≤ X * 2 ^ S ∧ X * 2 ^ S < Y * 2 ^ v

theorem unit_ge {X Y bX bY : Nat} (x1 : X < 2 ^ bX) (y0 : 2 ^ (bY - 1) ≤ Y) (h1 : 1 ≤ bY) (lx : bX ≤ 65536) (ly : bY ≤ 65536) (h : Y * 2 ^ ((bX : Int) - bY).toNat ≤ X * 2 ^ (-((bX : Int) - bY)).toNat) : Unit2 X Y ((bX : Int) - bY) := by
  obtain ⟨S, hS⟩ : ∃ S : Nat, S = 70000 := ⟨_, rfl⟩
  refine ⟨bX + S - bY, bX + 1 + S - bY, S, by omega, by omega, nd_le h (by omega) (by omega), nd_up x1 y0 h1 (by omega)⟩
theorem unit_lt {X Y bX bY : Nat} (x0 : 2 ^ (bX - 1) ≤ X) (y1 : Y < 2 ^ bY) (h1 : 1 ≤ bX) (lx : bX ≤ 65536) (ly : bY ≤ 65536) (h : X * 2 ^ (-((bX : Int) - bY)).toNat < Y * 2 ^ ((bX : Int) - bY).toNat) : Unit2 X Y ((bX : Int) - bY - 1) := by
  obtain ⟨S, hS⟩ : ∃ S : Nat, S = 70000 := ⟨_, rfl⟩
  refine ⟨bX + S - bY - 1, bX + S - bY, S, by omega, by omega, nd_lo x0 y1 h1 (by omega), nd_lt h (by omega) (by omega)⟩

/-- What Near tells of a fraction of X and Y. -/
def NdT (n : Bool) (X Y : Nat) (x : Nat) (fine : Bool) : Prop :=
  ∃ s, Mid (X * 2 ^ zP) Y s ∧ ((s = 9218868437227405312 ∧ x = 0 ∧ fine = false) ∨ (s < 9218868437227405312 ∧ fine = true ∧ x = (if n = true ∧ 0 < s then s + 9223372036854775808 else s)))

theorem nd_over {n : Bool} {X Y : Nat} {e : Int} (h : Unit2 X Y e) (he : 1024 ≤ e) : NdT n X Y 0 false := by
  obtain ⟨u, v, S, hu, hv, hl, hh⟩ := h
  exact ⟨_, near_over (F := 2046) rfl rfl hl (by omega), .inl ⟨rfl, rfl, rfl⟩⟩
theorem nd_none {n : Bool} {X Y : Nat} {e : Int} (h : Unit2 X Y e) (he : e < -1080) : NdT n X Y 0 true := by
  obtain ⟨u, v, S, hu, hv, hl, hh⟩ := h
  refine ⟨0, near_none (i := S) (j := v) ?_ (by have : zP = 1074 := rfl; omega), .inr ⟨by decide, rfl, by simp⟩⟩
  omega
/-- The count is rounded. -/
theorem nd_count {X Y N : Nat} {e p : Int} (hY : 0 < Y) (h : Unit2 X Y e) (hp : p = max (e - 52) (-1074)) (ev : Ev (X * 2 ^ (-p).toNat) (Y * 2 ^ p.toNat) N) :
    N ≤ 9007199254740992 ∧ (-1074 < p → 4503599627370496 ≤ N) ∧ Mid (X * 2 ^ zP) Y (min ((p + 1074).toNat * 4503599627370496 + N) 9218868437227405312) := by
  obtain ⟨u, v, S, hu, hv, hl, hh⟩ := h
  exact ln_mid (Z := zP) rfl hY hu hv hl hh hp (by omega) (by omega) ev
theorem nd_small {X Y : Nat} {e p : Int} (h : Unit2 X Y e) (hp : p = max (e - 52) (-1074)) : X * 2 ^ (-p).toNat < 9223372036854775808 * (Y * 2 ^ p.toNat) := by
  obtain ⟨u, v, S, hu, hv, hl, hh⟩ := h
  have := ln_hi (Z := (-p).toNat) (E := p.toNat) (e := e) hv hh (by omega)
  omega
theorem nd_top {n : Bool} {X Y N : Nat} {p : Int} (hp : p = 971) (hN : 9007199254740992 ≤ N) (m : Mid (X * 2 ^ zP) Y (min ((p + 1074).toNat * 4503599627370496 + N) 9218868437227405312)) : NdT n X Y 0 false := by
  subst hp
  rw [show min ((971 + 1074 : Int).toNat * 4503599627370496 + N) 9218868437227405312 = 9218868437227405312 by omega] at m
  exact ⟨_, m, .inl ⟨rfl, rfl, rfl⟩⟩
theorem rung_inj {x y : Nat} (h : rungVal x = rungVal y) : x = y := by
  rcases Nat.lt_trichotomy x y with g | g | g
  · have := rungVal_lt g; omega
  · exact g
  · have := rungVal_lt g; omega
/-- The float that Ldexp tells is the rung. -/
theorem nd_rung {N R : Nat} {p : Int} (p0 : -1074 ≤ p) (h2 : N ≤ 9007199254740992) (h3 : -1074 < p → 4503599627370496 ≤ N) (h1 : 1 ≤ N) (fR : Fi R) (hR : sv R = ((N * 2 ^ (p + 1074).toNat : Nat) : Int)) : R = (p + 1074).toNat * 4503599627370496 + N := by
  have hc := rungVal_count (E := (p + 1074).toNat) (K := N) h2 (fun h => h3 (by omega))
  have hpos : 0 < N * 2 ^ (p + 1074).toNat := Nat.mul_pos h1 (Nat.two_pow_pos _)
  have hlow : R < 9223372036854775808 := by
    rcases Nat.lt_or_ge R 9223372036854775808 with z | z
    · exact z
    · exfalso
      have f := fR.1
      obtain ⟨t, ht⟩ : ∃ t, R = 9223372036854775808 + t := ⟨R - 9223372036854775808, by omega⟩
      rw [ht, sv_high (by omega)] at hR
      omega
  rw [sv_low hlow] at hR
  exact rung_inj ((Int.ofNat.inj hR).trans hc.symm)
theorem nd_fine {n : Bool} {X Y N : Nat} {p : Int} (p0 : -1074 ≤ p) (p1 : p ≤ 971) (h2 : N ≤ 9007199254740992) (hx : N < 9007199254740992 ∨ p < 971) (m : Mid (X * 2 ^ zP) Y (min ((p + 1074).toNat * 4503599627370496 + N) 9218868437227405312)) : (p + 1074).toNat * 4503599627370496 + N < 9218868437227405312 ∧ NdT n X Y (if n = true ∧ 0 < (p + 1074).toNat * 4503599627370496 + N then (p + 1074).toNat * 4503599627370496 + N + 9223372036854775808 else (p + 1074).toNat * 4503599627370496 + N) true := by
  have hlt : (p + 1074).toNat * 4503599627370496 + N < 9218868437227405312 := by
    have : (p + 1074).toNat ≤ 2045 := by omega
    rcases hx with h | h
    · omega
    · have : (p + 1074).toNat ≤ 2044 := by omega
      omega
  rw [Nat.min_eq_left (by omega)] at m
  exact ⟨hlt, _, m, .inr ⟨hlt, rfl, rfl⟩⟩
theorem ev_nought {D N : Nat} (hD : 0 < D) (h : Ev 0 D N) : N = 0 := by
  have h1 := h.down
  rcases Nat.eq_zero_or_pos N with z | z
  · exact z
  · have h2 : 2 * 1 * D ≤ 2 * N * D := Nat.mul_le_mul_right _ (by omega)
    omega

set_option maxHeartbeats 800000 in
set_option maxRecDepth 100000 in
theorem nd_Ldexp0 (p : Int) (w : World) : Calls Tryz.prog 53 #[.float .f64 0, .int .i64 p] w fun x w' => x = .returned (.float .f64 0) ∧ w' = w := by
  have H : Hid (Calls Tryz.prog 94 #[.float .f64 0, .int .i64 p] w fun x w' => x = .returned (.float .f64 0) ∧ w' = w) := by
    show Calls _ _ _ _ _
    have hz : (FloatKind.f64.format.order 0 0 == some .eq) = true := by decide
    go_enter Tryz.func94, Tryz.ntmps94
    go_wp2_with fail
    go_ret
    exact ⟨rfl, rfl⟩
  go_enter Tryz.func53, Tryz.ntmps53
  go_wp2_with fail
  refine Calls.mono H.out ?_
  rintro e w1 ⟨rfl, rfl⟩
  clear H
  go_wp2_with fail
  go_ret
  exact ⟨rfl, rfl⟩
end Go.Proofs.YtabkgpnckaaclaaGreatDoor

/- The document's own floats (slackwaterref06): Near. (tools/mknd4.py) -/
namespace Go.Proofs.YtabkgpnckaaclaaGreatDoor
open Go.RowKit
set_option linter.unusedVariables false

theorem nd_shl {x : Int} {L K M : Nat} (h0 : 0 ≤ x) (h : x < 4294967296 ^ L) (hK : K ≤ 32 * M) : x * 2 ^ K < 4294967296 ^ (L + M) := by
  have h2 : (2 : Int) ^ K ≤ 4294967296 ^ M := by
    have h3 : 2 ^ K ≤ 2 ^ (32 * M) := Nat.pow_le_pow_right (by decide) hK
    rw [Nat.pow_mul] at h3
    have h4 := Int.ofNat_le.2 h3
    rw [Int.natCast_pow, Int.natCast_pow] at h4
    exact h4
  have hp : (0 : Int) < 2 ^ K := Int.pow_pos (by decide)
  rw [Int.pow_add]
  have a1 : x * 2 ^ K < 4294967296 ^ L * 2 ^ K := Int.mul_lt_mul_of_pos_right h hp
  have a2 : (4294967296 : Int) ^ L * 2 ^ K ≤ 4294967296 ^ L * 4294967296 ^ M := Int.mul_le_mul_of_nonneg_left h2 (Int.le_of_lt (pw_pos L))
  omega
theorem nd_den {ds ys : List Int} {Y k : Nat} (wd : Wd ds) (td : Trimmed ds) (vd : val ds = (Y : Int) * 2 ^ k) (hY : val ys = (Y : Int)) (wy : Wd ys) (ly : ys.length ≤ 2048) (hk : k ≤ 1024) : ds.length ≤ 4400 := by
  have h1 := val_lt wy
  have h2 := nd_shl (K := k) (M := 32) (val_nonneg wy) h1 (by omega)
  rw [hY, ← vd] at h2
  have := len_of_lt wd td h2
  omega
theorem nd_zero {x : Nat} (hx : x ≤ 9218868437227405312) : (FloatKind.f64.format.order x 0 == some .eq) = decide (x = 0) := by
  rw [order_pos hx (by decide)]
  by_cases h : x = 0
  · subst h; simp
  · have : compare x 0 = .gt := Nat.compare_eq_gt.2 (by omega)
    rw [this]; simp [h]
theorem nd_nil (w : World) : Sl (w.alloc (.cells #[] 88)).drew (.slice (some ⟨w.heap.size, 0, none⟩) 0 0) [] := by
  have HO : ((w.alloc (.cells #[] 88)).drew).ownsRow w.heap.size 88 1 (.slice (some ⟨w.heap.size, 0, none⟩) 0 0) 0 (([] : List Int).map (Value.int .u32)) := ⟨rfl, .inr ⟨w.heap.size, 0, #[], rfl, Nat.le_refl _, Box.made w _ _, Nat.le_refl _, by unfold maxLen; simp, rfl, rfl⟩⟩
  exact Sl.own HO Wd.nil

set_option maxHeartbeats 6400000 in
set_option maxRecDepth 100000 in
theorem ndNear_go (n : Bool) (a : Option Addr) (ca : Nat) (xs : List Int) (b : Option Addr) (cb : Nat) (ys : List Int) (w : World) (X Y : Nat) (sx : Sl w (.slice a xs.length ca) xs) (sy : Sl w (.slice b ys.length cb) ys) (tx : Trimmed xs) (ty : Trimmed ys) (lx : xs.length ≤ 2048) (ly : ys.length ≤ 2048) (x0 : 0 < xs.length) (y0 : 0 < ys.length) (hX : val xs = X) (hY : val ys = Y) :
    Calls Tryz.prog 43 #[.agg #[.bool n, .slice a xs.length ca, .slice b ys.length cb]] w fun e w' => ∃ x f, e = .returned (.tuple #[.float .f64 x, .bool f]) ∧ NdT n X Y x f ∧ Below w.heap.size w w' := by
  have wx := sx.wd
  have wy := sy.wd
  obtain ⟨bx1, bx2, bx3, bx4, _⟩ := bits_bounds wx (by have : sz xs = xs.length := tx; omega)
  obtain ⟨by1, by2, by3, by4, _⟩ := bits_bounds wy (by have : sz ys = ys.length := ty; omega)
  have sX : sz xs = xs.length := tx
  have sY : sz ys = ys.length := ty
  have x0' : ((xs.length : Int) == 0) = false := beq_eq_false_iff_ne.2 (by omega)
  have hYp : 0 < Y := by
    have := Int.pow_pos (n := 2) (m := bitsOf ys - 1) (by decide)
    omega
  have nx2 : 2 ^ (bitsOf xs - 1) ≤ X := by rw [hX] at bx2; exact_mod_cast bx2
  have nx3 : X < 2 ^ bitsOf xs := by rw [hX] at bx3; exact_mod_cast bx3
  have ny2 : 2 ^ (bitsOf ys - 1) ≤ Y := by rw [hY] at by2; exact_mod_cast by2
  have ny3 : Y < 2 ^ bitsOf ys := by rw [hY] at by3; exact_mod_cast by3
  obtain ⟨P, hP⟩ : ∃ P, w.alloc (.cells #[.bool n, .slice a xs.length ca, .slice b ys.length cb] 25) = P := ⟨_, rfl⟩
  have b1 : Below w.heap.size w P := by rw [← hP]; exact alloc_later _ _
  have HBX : Hid (Box P w.heap.size 25 #[.bool n, .slice a xs.length ca, .slice b ys.length cb]) := by rw [← hP]; exact Box.made w _ _
  have HS : Hid (∀ V, Below P.heap.size P V → Sl V (.slice a xs.length ca) xs ∧ Sl V (.slice b ys.length cb) ys) := fun V hv => ⟨(sx.later b1).later hv, (sy.later b1).later hv⟩
  have HB1 := hid b1
  have HF : Hid (∀ V, Below P.heap.size P V → V.cell? ⟨w.heap.size, 0, none⟩ = some (.bool n) ∧ V.cell? ⟨w.heap.size, 1, none⟩ = some (.slice a xs.length ca) ∧ V.cell? ⟨w.heap.size, 2, none⟩ = some (.slice b ys.length cb)) := fun V hv => by
    have h := HBX.out.later hv HBX.out.lt
    exact ⟨h.cell 0, h.cell 1, h.cell 2⟩
  have HBx : Hid (∀ ww, Below P.heap.size P ww → Calls Tryz.prog 80 #[.slice a xs.length ca] ww fun e w' => e = .returned (.int .i64 (bitsOf xs : Nat)) ∧ (w'.cell? ⟨w.heap.size, 0, none⟩ = some (.bool n) ∧ w'.cell? ⟨w.heap.size, 1, none⟩ = some (.slice a xs.length ca) ∧ w'.cell? ⟨w.heap.size, 2, none⟩ = some (.slice b ys.length cb)) ∧ Below P.heap.size P w') := fun ww hw => by
    refine Calls.mono (refBits_sl _ xs ww (HS.out ww hw).1 (by omega)) ?_
    rintro e w' ⟨rfl, hb⟩
    exact ⟨rfl, HF.out _ (bt hw hb), bt hw hb⟩
  have HBy : Hid (∀ ww, Below P.heap.size P ww → Calls Tryz.prog 80 #[.slice b ys.length cb] ww fun e w' => e = .returned (.int .i64 (bitsOf ys : Nat)) ∧ (w'.cell? ⟨w.heap.size, 0, none⟩ = some (.bool n) ∧ w'.cell? ⟨w.heap.size, 1, none⟩ = some (.slice a xs.length ca) ∧ w'.cell? ⟨w.heap.size, 2, none⟩ = some (.slice b ys.length cb)) ∧ Below P.heap.size P w') := fun ww hw => by
    refine Calls.mono (refBits_sl _ ys ww (HS.out ww hw).2 (by omega)) ?_
    rintro e w' ⟨rfl, hb⟩
    exact ⟨rfl, HF.out _ (bt hw hb), bt hw hb⟩
  have hq := HF.out P (Below.refl _ _)
  obtain ⟨f0, f1, f2⟩ := hq
  have hs0 := HF.out _ (Below.refl _ P).drew
  have hd0 := hid (Below.refl P.heap.size P).drew
  have lbx : bitsOf xs ≤ 65536 := by omega
  have lby : bitsOf ys ≤ 65536 := by omega
  have HW := hid (And.intro wx (And.intro tx (And.intro wy ty)))
  have HNm := hid (And.intro nx2 (And.intro nx3 (And.intro ny2 (And.intro ny3 (And.intro bx1 (And.intro by1 (And.intro hX (And.intro hY hYp))))))))
  clear sx sy bx1 bx2 bx3 bx4 by1 by2 by3 by4 sX sY wx wy tx ty nx2 nx3 ny2 ny3 b1 hX hY hYp
  generalize hBX : bitsOf xs = bX at *
  generalize hBY : bitsOf ys = bY at *
  clear hBX hBY
  go_enter Tryz.func43, Tryz.ntmps43
  go_wp2_with fail
  clear hP
  go_region_held3 (fun V : World => V.cell? ⟨w.heap.size, 0, none⟩ = some (.bool n) ∧ V.cell? ⟨w.heap.size, 1, none⟩ = some (.slice a xs.length ca) ∧ V.cell? ⟨w.heap.size, 2, none⟩ = some (.slice b ys.length cb)) (first | exact hs2 | exact hs1 | exact hs0)
    (first
      | (go_at_call 80; with_reducible refine Calls.mono (HBy.out _ hb1) ?_; rintro e wo ⟨rfl, hs2, hb2⟩)
      | (go_at_call 80; with_reducible refine Calls.mono (HBx.out _ hd0.out) ?_; rintro e wn ⟨rfl, hs1, hb1⟩))
  clear hs0 hs1 hb1 hd0 HBx HBy f0 f1 f2
  obtain ⟨f0, f1, f2⟩ := hs2
  have hw : IntKind.i64.wrap ((bX : Int) - (bY : Int)) = (bX : Int) - bY := by rw [IntKind.wrap_i64]; omega
  rw [hw]
  clear hw
  obtain ⟨nx2, nx3, ny2, ny3, nx1, ny1, hX, hY, hYp⟩ := HNm.out
  have HUa := hid (unit_ge nx3 ny2 ny1 lbx lby)
  have HUb := hid (unit_lt nx2 ny3 nx1 lbx lby)
  clear nx2 nx3 ny2 ny3 nx1 ny1 HNm
  have eb : -65536 ≤ (bX : Int) - bY ∧ (bX : Int) - bY ≤ 65536 := by omega
  generalize (bX : Int) - bY = E at *
  have HE0 := hid (ndScaled_any a ca xs b cb ys E wo (HS.out _ hb2).1 (HS.out _ hb2).2 HW.out.1 HW.out.2.1 HW.out.2.2.1 HW.out.2.2.2 (by omega) (by omega) (by omega) (by omega))
  rw [hX, hY] at HE0
  have HB2 := hid hb2
  have HXY := hid (And.intro hX (And.intro hY hYp))
  clear hb2 hX hY hYp lbx lby
  go_wp2_with fail
  refine Calls.mono HE0.out ?_
  rintro e w3 ⟨a1, c1, a2, c2, zs, ds, rfl, s1, s2, wz, wd, tz, td, vz, vd, lz, ld, hb3⟩
  have HC := hid (refCompare_sl _ _ zs ds w3 s1 s2 (by omega) (by omega))
  rw [vz, vd] at HC
  have HB3 := hid (bt HB2.out hb3)
  clear s1 s2 wz wd tz td vz vd lz ld hb3 HE0 f0 f1 f2 HB2
  obtain ⟨f0, f1, f2⟩ := HF.out _ HB3.out
  by_cases hc : X * 2 ^ (-E).toNat < Y * 2 ^ E.toNat
  · have hci : (X : Int) * 2 ^ (-E).toNat < (Y : Int) * 2 ^ E.toNat := by exact_mod_cast hc
    have U := hid (HUb.out hc)
    rw [cmpI_lt hci] at HC
    clear hc hci HUa HUb
    obtain ⟨F, rfl⟩ : ∃ F, E = F + 1 := ⟨E - 1, by omega⟩
    rw [show F + 1 - 1 = F by omega] at U
    go_wp2_with fail
    refine Calls.mono HC.out ?_
    rintro e w4 ⟨rfl, rfl⟩
    clear HC
    have HBe := hid (bt HB1.out HB3.out)
    by_cases c1 : 1024 ≤ F
    · have q1 : ¬ F - 52 < -1074 := by omega
      have q2 : 971 < F - 52 := by omega
      go_wp2_with fail
      go_ret2
      exact ⟨0, false, rfl, nd_over U.out c1, HBe.out⟩
    by_cases c2 : -1022 ≤ F
    · have q1 : ¬ F - 52 < -1074 := by omega
      have q2 : ¬ 971 < F - 52 := by omega
      have q3 : -1080 ≤ F := by omega
      have hbA : Below P.heap.size P (w3.alloc (.cells #[] 88)).drew := bt HB3.out (alloc_later w3 (.cells #[] 88)).drew
      obtain ⟨A0, A1, A2⟩ := HF.out _ hbA
      have HBA := hid hbA
      clear hbA
      go_wp2_with fail
      go_region
      go_wp2_with fail
      generalize (w3.alloc (.cells #[] 88)).drew = W4 at *
      have hp : Hid (F - 52 = max (F - 52) (-1074)) := by show _ = _; omega
      obtain ⟨hX, hY, hYp⟩ := HXY.out
      have HE1 := hid (ndScaled_any a ca xs b cb ys (F - 52) W4 (HS.out _ HBA.out).1 (HS.out _ HBA.out).2 HW.out.1 HW.out.2.1 HW.out.2.2.1 HW.out.2.2.2 (by omega) (by omega) (by omega) (by omega))
      rw [hX, hY] at HE1
      refine Calls.mono HE1.out ?_
      rintro e w5 ⟨a5, c5, a6, c6, z5, d5, rfl, s1, s2, wz, wd, tz, td, vz, vd, lz, ld, hb5⟩
      have ld5 : d5.length ≤ 4400 := nd_den wd td vd hY HW.out.2.2.1 ly (by omega)
      have HEV := hid (ndEven_any a5 c5 z5 a6 c6 d5 w5 (X * 2 ^ (-(F - 52)).toNat) (Y * 2 ^ (F - 52).toNat) s1 s2 wz tz wd td lz ld5 (by rw [vz, Int.natCast_mul, Int.natCast_pow]; rfl) (by rw [vd, Int.natCast_mul, Int.natCast_pow]; rfl) (Nat.mul_pos hYp (Nat.two_pow_pos _)) (nd_small U.out hp.out))
      have HB5 := hid (bt HBA.out hb5)
      clear HE1 s1 s2 wz wd tz td vz vd lz ld ld5 hb5 hX hY HBA A0 A1 A2 f0 f1 f2
      go_wp2_with fail
      refine Calls.mono HEV.out ?_
      rintro e w6 ⟨N, rfl, ev, hb6⟩
      obtain ⟨n2, n3, mid⟩ := nd_count hYp U.out hp.out ev
      have HM := hid mid
      have HB6 := hid (bt HB5.out hb6)
      obtain ⟨f0, f1, f2⟩ := HF.out _ HB6.out
      have HBe6 := hid (bt HB1.out HB6.out)
      clear HEV ev mid hb6 HB5 hYp
      by_cases t1 : F - 52 = 971 ∧ 9007199254740992 ≤ N
      · have q4 : (F - 52 == 971) = true := beq_iff_eq.2 t1.1
        have q5 : (9007199254740992 : Int) ≤ (N : Int) := by omega
        have HT := hid t1
        clear t1
        go_wp2_with fail
        go_ret2
        exact ⟨0, false, rfl, nd_top HT.out.1 HT.out.2 HM.out, HBe6.out⟩
      have hx : N < 9007199254740992 ∨ F - 52 < 971 := by omega
      by_cases t2 : F - 52 = 971
      · have q4 : (F - 52 == 971) = true := beq_iff_eq.2 t2
        have q5 : decide ((9007199254740992 : Int) ≤ (N : Int)) = false := decide_eq_false (by omega)
        clear t2
        by_cases z : N = 0
        · subst z
          have hz : floatOfInt .f64 0 = 0 := by decide
          have hm1 : (F - 52 : Int) = -1074 := by
            rcases Int.lt_or_le (-1074) (F - 52) with g | g
            · have := n3 g; omega
            · omega
          have HL := hid (nd_Ldexp0 (F - 52) w6)
          have HE : Hid (NdT n X Y 0 true) := by
            have h := (nd_fine (n := n) (p := F - 52) (by omega) (by omega) n2 hx HM.out).2
            rw [hm1] at h
            rw [if_neg (by simp)] at h
            exact h
          have oz : (FloatKind.f64.format.order 0 0 != some .eq) = false := by decide
          clear n3 hm1
          go_wp2_with fail
          try rw [hz]
          refine Calls.mono HL.out ?_
          rintro e w7 ⟨rfl, rfl⟩
          clear HL hz
          cases n
          · go_wp2_with fail
            go_ret2
            exact ⟨0, true, rfl, HE.out, HBe6.out⟩
          · go_wp2_with fail
            go_ret2
            exact ⟨0, true, rfl, HE.out, HBe6.out⟩
        obtain ⟨G, hG⟩ : ∃ G, floatOfInt .f64 (N : Int) = G := ⟨_, rfl⟩
        obtain ⟨g1, g2⟩ := ndfloat_val n2 hG.symm zP rfl
        have HL := hid (lx_Ldexp G N (F - 52) zP rfl w6 g1 g2 (by omega) n2 (by omega) (by omega) (by omega))
        obtain ⟨k1, k2⟩ := nd_fine (n := n) (p := F - 52) (by omega) (by omega) n2 hx HM.out
        have HN2 := hid (And.intro n2 (And.intro n3 (And.intro z (And.intro k1 k2))))
        clear n2 n3 k1 k2 g1 g2 hx z
        go_wp2_with fail
        try rw [hG]
        refine Calls.mono HL.out ?_
        rintro e w7 ⟨R, rfl, fR, hR, rfl⟩
        obtain ⟨n2, n3, z, k1, k2⟩ := HN2.out
        have hRs := nd_rung (p := F - 52) (by omega) n2 n3 (by omega) fR hR
        rw [← hRs] at k1 k2
        have oR : (FloatKind.f64.format.order R 0 != some .eq) = true := by
          have := nd_zero (x := R) (by omega)
          rw [bne, this, decide_eq_false (by omega)]
          rfl
        have HK := hid (And.intro k1 k2)
        have hRp : 0 < R := by omega
        clear HL n2 n3 z k1 k2 hRs fR hR HN2 hG HM
        cases n
        · go_wp2_with fail
          go_ret2
          have h := HK.out.2
          rw [if_neg (by simp)] at h
          exact ⟨R, true, rfl, h, HBe6.out⟩
        · have hn : fneg R = R + 9223372036854775808 := fneg_pos (by have := HK.out.1; omega)
          have h := HK.out.2
          rw [if_pos ⟨rfl, hRp⟩, ← hn] at h
          have HH := hid h
          clear h hn HK
          have hneg : ∀ x, Op.unary .neg (.float .f64 x) = pure (.float .f64 (fneg x)) := fun _ => rfl
          go_wp2_with fail
          go_ret2
          exact ⟨_, true, rfl, HH.out, HBe6.out⟩
      have q4 : (F - 52 == 971) = false := beq_eq_false_iff_ne.2 t2
      by_cases z : N = 0
      · subst z
        have hz : floatOfInt .f64 0 = 0 := by decide
        have hm1 : (F - 52 : Int) = -1074 := by
          rcases Int.lt_or_le (-1074) (F - 52) with g | g
          · have := n3 g; omega
          · omega
        have HL := hid (nd_Ldexp0 (F - 52) w6)
        have HE : Hid (NdT n X Y 0 true) := by
          have h := (nd_fine (n := n) (p := F - 52) (by omega) (by omega) n2 hx HM.out).2
          rw [hm1] at h
          rw [if_neg (by simp)] at h
          exact h
        have oz : (FloatKind.f64.format.order 0 0 != some .eq) = false := by decide
        clear n3 hm1
        go_wp2_with fail
        try rw [hz]
        refine Calls.mono HL.out ?_
        rintro e w7 ⟨rfl, rfl⟩
        clear HL hz
        cases n
        · go_wp2_with fail
          go_ret2
          exact ⟨0, true, rfl, HE.out, HBe6.out⟩
        · go_wp2_with fail
          go_ret2
          exact ⟨0, true, rfl, HE.out, HBe6.out⟩
      obtain ⟨G, hG⟩ : ∃ G, floatOfInt .f64 (N : Int) = G := ⟨_, rfl⟩
      obtain ⟨g1, g2⟩ := ndfloat_val n2 hG.symm zP rfl
      have HL := hid (lx_Ldexp G N (F - 52) zP rfl w6 g1 g2 (by omega) n2 (by omega) (by omega) (by omega))
      obtain ⟨k1, k2⟩ := nd_fine (n := n) (p := F - 52) (by omega) (by omega) n2 hx HM.out
      have HN2 := hid (And.intro n2 (And.intro n3 (And.intro z (And.intro k1 k2))))
      clear n2 n3 k1 k2 g1 g2 hx z
      go_wp2_with fail
      try rw [hG]
      refine Calls.mono HL.out ?_
      rintro e w7 ⟨R, rfl, fR, hR, rfl⟩
      obtain ⟨n2, n3, z, k1, k2⟩ := HN2.out
      have hRs := nd_rung (p := F - 52) (by omega) n2 n3 (by omega) fR hR
      rw [← hRs] at k1 k2
      have oR : (FloatKind.f64.format.order R 0 != some .eq) = true := by
        have := nd_zero (x := R) (by omega)
        rw [bne, this, decide_eq_false (by omega)]
        rfl
      have HK := hid (And.intro k1 k2)
      have hRp : 0 < R := by omega
      clear HL n2 n3 z k1 k2 hRs fR hR HN2 hG HM
      cases n
      · go_wp2_with fail
        go_ret2
        have h := HK.out.2
        rw [if_neg (by simp)] at h
        exact ⟨R, true, rfl, h, HBe6.out⟩
      · have hn : fneg R = R + 9223372036854775808 := fneg_pos (by have := HK.out.1; omega)
        have h := HK.out.2
        rw [if_pos ⟨rfl, hRp⟩, ← hn] at h
        have HH := hid h
        clear h hn HK
        have hneg : ∀ x, Op.unary .neg (.float .f64 x) = pure (.float .f64 (fneg x)) := fun _ => rfl
        go_wp2_with fail
        go_ret2
        exact ⟨_, true, rfl, HH.out, HBe6.out⟩
    by_cases c3 : -1080 ≤ F
    · have q1 : F - 52 < -1074 := by omega
      have q3 : -1080 ≤ F := by omega
      have hbA : Below P.heap.size P (w3.alloc (.cells #[] 88)).drew := bt HB3.out (alloc_later w3 (.cells #[] 88)).drew
      obtain ⟨A0, A1, A2⟩ := HF.out _ hbA
      have HBA := hid hbA
      clear hbA
      go_wp2_with fail
      go_region
      go_wp2_with fail
      generalize (w3.alloc (.cells #[] 88)).drew = W4 at *
      have hp : Hid (-1074 = max (F - 52) (-1074)) := by show _ = _; omega
      obtain ⟨hX, hY, hYp⟩ := HXY.out
      have HE1 := hid (ndScaled_any a ca xs b cb ys (-1074) W4 (HS.out _ HBA.out).1 (HS.out _ HBA.out).2 HW.out.1 HW.out.2.1 HW.out.2.2.1 HW.out.2.2.2 (by omega) (by omega) (by omega) (by omega))
      rw [hX, hY] at HE1
      refine Calls.mono HE1.out ?_
      rintro e w5 ⟨a5, c5, a6, c6, z5, d5, rfl, s1, s2, wz, wd, tz, td, vz, vd, lz, ld, hb5⟩
      have ld5 : d5.length ≤ 4400 := nd_den wd td vd hY HW.out.2.2.1 ly (by omega)
      have HEV := hid (ndEven_any a5 c5 z5 a6 c6 d5 w5 (X * 2 ^ (-(-1074)).toNat) (Y * 2 ^ (-1074).toNat) s1 s2 wz tz wd td lz ld5 (by rw [vz, Int.natCast_mul, Int.natCast_pow]; rfl) (by rw [vd, Int.natCast_mul, Int.natCast_pow]; rfl) (Nat.mul_pos hYp (Nat.two_pow_pos _)) (nd_small U.out hp.out))
      have HB5 := hid (bt HBA.out hb5)
      clear HE1 s1 s2 wz wd tz td vz vd lz ld ld5 hb5 hX hY HBA A0 A1 A2 f0 f1 f2
      go_wp2_with fail
      refine Calls.mono HEV.out ?_
      rintro e w6 ⟨N, rfl, ev, hb6⟩
      obtain ⟨n2, n3, mid⟩ := nd_count hYp U.out hp.out ev
      have HM := hid mid
      have HB6 := hid (bt HB5.out hb6)
      obtain ⟨f0, f1, f2⟩ := HF.out _ HB6.out
      have HBe6 := hid (bt HB1.out HB6.out)
      clear HEV ev mid hb6 HB5 hYp
      have hx : N < 9007199254740992 ∨ (-1074 : Int) < 971 := by omega
      by_cases z : N = 0
      · subst z
        have hz : floatOfInt .f64 0 = 0 := by decide
        have hm1 : (-1074 : Int) = -1074 := by
          rcases Int.lt_or_le (-1074) (-1074) with g | g
          · have := n3 g; omega
          · omega
        have HL := hid (nd_Ldexp0 (-1074) w6)
        have HE : Hid (NdT n X Y 0 true) := by
          have h := (nd_fine (n := n) (p := -1074) (by omega) (by omega) n2 hx HM.out).2
          rw [hm1] at h
          rw [if_neg (by simp)] at h
          exact h
        have oz : (FloatKind.f64.format.order 0 0 != some .eq) = false := by decide
        clear n3 hm1
        go_wp2_with fail
        try rw [hz]
        refine Calls.mono HL.out ?_
        rintro e w7 ⟨rfl, rfl⟩
        clear HL hz
        cases n
        · go_wp2_with fail
          go_ret2
          exact ⟨0, true, rfl, HE.out, HBe6.out⟩
        · go_wp2_with fail
          go_ret2
          exact ⟨0, true, rfl, HE.out, HBe6.out⟩
      obtain ⟨G, hG⟩ : ∃ G, floatOfInt .f64 (N : Int) = G := ⟨_, rfl⟩
      obtain ⟨g1, g2⟩ := ndfloat_val n2 hG.symm zP rfl
      have HL := hid (lx_Ldexp G N (-1074) zP rfl w6 g1 g2 (by omega) n2 (by omega) (by omega) (by omega))
      obtain ⟨k1, k2⟩ := nd_fine (n := n) (p := -1074) (by omega) (by omega) n2 hx HM.out
      have HN2 := hid (And.intro n2 (And.intro n3 (And.intro z (And.intro k1 k2))))
      clear n2 n3 k1 k2 g1 g2 hx z
      go_wp2_with fail
      try rw [hG]
      refine Calls.mono HL.out ?_
      rintro e w7 ⟨R, rfl, fR, hR, rfl⟩
      obtain ⟨n2, n3, z, k1, k2⟩ := HN2.out
      have hRs := nd_rung (p := -1074) (by omega) n2 n3 (by omega) fR hR
      rw [← hRs] at k1 k2
      have oR : (FloatKind.f64.format.order R 0 != some .eq) = true := by
        have := nd_zero (x := R) (by omega)
        rw [bne, this, decide_eq_false (by omega)]
        rfl
      have HK := hid (And.intro k1 k2)
      have hRp : 0 < R := by omega
      clear HL n2 n3 z k1 k2 hRs fR hR HN2 hG HM
      cases n
      · go_wp2_with fail
        go_ret2
        have h := HK.out.2
        rw [if_neg (by simp)] at h
        exact ⟨R, true, rfl, h, HBe6.out⟩
      · have hn : fneg R = R + 9223372036854775808 := fneg_pos (by have := HK.out.1; omega)
        have h := HK.out.2
        rw [if_pos ⟨rfl, hRp⟩, ← hn] at h
        have HH := hid h
        clear h hn HK
        have hneg : ∀ x, Op.unary .neg (.float .f64 x) = pure (.float .f64 (fneg x)) := fun _ => rfl
        go_wp2_with fail
        go_ret2
        exact ⟨_, true, rfl, HH.out, HBe6.out⟩
    have q1 : F - 52 < -1074 := by omega
    have q3 : ¬ -1080 ≤ F := by omega
    have hbA : Below P.heap.size P (w3.alloc (.cells #[] 88)).drew := bt HB3.out (alloc_later w3 (.cells #[] 88)).drew
    obtain ⟨A0, A1, A2⟩ := HF.out _ hbA
    have HBA := hid hbA
    clear hbA
    go_wp2_with fail
    go_region
    go_wp2_with fail
    have hbW : Below w3.heap.size w3 (w3.alloc (.cells #[] 88)).drew := (alloc_later w3 (.cells #[] 88)).drew
    have HNil : Hid (Sl (w3.alloc (.cells #[] 88)).drew (.slice (some ⟨w3.heap.size, 0, none⟩) 0 0) []) := nd_nil w3
    generalize (w3.alloc (.cells #[] 88)).drew = W4 at *
    obtain ⟨hX, hY, hYp⟩ := HXY.out
    have HEV := hid (ndEven_any (some ⟨w3.heap.size, 0, none⟩) 0 [] b cb ys W4 0 Y HNil.out (HS.out _ HBA.out).2 Wd.nil Trimmed.nil HW.out.2.2.1 HW.out.2.2.2 (by simp) (by omega) rfl hY hYp (by omega))
    have HYp := hid hYp
    clear hX hY hYp A0 A1 A2 f0 f1 f2 HNil hbW
    refine Calls.mono HEV.out ?_
    rintro e w6 ⟨N, rfl, ev, hb6⟩
    have hN := ev_nought HYp.out ev
    subst hN
    have HB6 := hid (bt HBA.out hb6)
    obtain ⟨f0, f1, f2⟩ := HF.out _ HB6.out
    have HBe6 := hid (bt HB1.out HB6.out)
    have hz : floatOfInt .f64 0 = 0 := by decide
    have HL := hid (nd_Ldexp0 (-1074) w6)
    have HE : Hid (NdT n X Y 0 true) := nd_none U.out (by omega)
    have oz : (FloatKind.f64.format.order 0 0 != some .eq) = false := by decide
    clear HEV ev hb6
    go_wp2_with fail
    try rw [hz]
    refine Calls.mono HL.out ?_
    rintro e w7 ⟨rfl, rfl⟩
    clear HL hz
    cases n
    · go_wp2_with fail
      go_ret2
      exact ⟨0, true, rfl, HE.out, HBe6.out⟩
    · go_wp2_with fail
      go_ret2
      exact ⟨0, true, rfl, HE.out, HBe6.out⟩
  · have hci : (Y : Int) * 2 ^ E.toNat ≤ (X : Int) * 2 ^ (-E).toNat := by exact_mod_cast Nat.le_of_not_lt hc
    have U := hid (HUa.out (Nat.le_of_not_lt hc))
    have hge : ¬ cmpI ((X : Int) * 2 ^ (-E).toNat) ((Y : Int) * 2 ^ E.toNat) < 0 := by
      unfold cmpI
      rw [if_neg (by omega)]
      split <;> omega
    generalize cmpI ((X : Int) * 2 ^ (-E).toNat) ((Y : Int) * 2 ^ E.toNat) = C at *
    clear hc hci HUa HUb
    obtain ⟨F, hF⟩ : ∃ F, F = E := ⟨E, rfl⟩
    subst hF
    go_wp2_with fail
    refine Calls.mono HC.out ?_
    rintro e w4 ⟨rfl, rfl⟩
    clear HC
    have HBe := hid (bt HB1.out HB3.out)
    by_cases c1 : 1024 ≤ F
    · have q1 : ¬ F - 52 < -1074 := by omega
      have q2 : 971 < F - 52 := by omega
      go_wp2_with fail
      go_ret2
      exact ⟨0, false, rfl, nd_over U.out c1, HBe.out⟩
    by_cases c2 : -1022 ≤ F
    · have q1 : ¬ F - 52 < -1074 := by omega
      have q2 : ¬ 971 < F - 52 := by omega
      have q3 : -1080 ≤ F := by omega
      have hbA : Below P.heap.size P (w3.alloc (.cells #[] 88)).drew := bt HB3.out (alloc_later w3 (.cells #[] 88)).drew
      obtain ⟨A0, A1, A2⟩ := HF.out _ hbA
      have HBA := hid hbA
      clear hbA
      go_wp2_with fail
      go_region
      go_wp2_with fail
      generalize (w3.alloc (.cells #[] 88)).drew = W4 at *
      have hp : Hid (F - 52 = max (F - 52) (-1074)) := by show _ = _; omega
      obtain ⟨hX, hY, hYp⟩ := HXY.out
      have HE1 := hid (ndScaled_any a ca xs b cb ys (F - 52) W4 (HS.out _ HBA.out).1 (HS.out _ HBA.out).2 HW.out.1 HW.out.2.1 HW.out.2.2.1 HW.out.2.2.2 (by omega) (by omega) (by omega) (by omega))
      rw [hX, hY] at HE1
      refine Calls.mono HE1.out ?_
      rintro e w5 ⟨a5, c5, a6, c6, z5, d5, rfl, s1, s2, wz, wd, tz, td, vz, vd, lz, ld, hb5⟩
      have ld5 : d5.length ≤ 4400 := nd_den wd td vd hY HW.out.2.2.1 ly (by omega)
      have HEV := hid (ndEven_any a5 c5 z5 a6 c6 d5 w5 (X * 2 ^ (-(F - 52)).toNat) (Y * 2 ^ (F - 52).toNat) s1 s2 wz tz wd td lz ld5 (by rw [vz, Int.natCast_mul, Int.natCast_pow]; rfl) (by rw [vd, Int.natCast_mul, Int.natCast_pow]; rfl) (Nat.mul_pos hYp (Nat.two_pow_pos _)) (nd_small U.out hp.out))
      have HB5 := hid (bt HBA.out hb5)
      clear HE1 s1 s2 wz wd tz td vz vd lz ld ld5 hb5 hX hY HBA A0 A1 A2 f0 f1 f2
      go_wp2_with fail
      refine Calls.mono HEV.out ?_
      rintro e w6 ⟨N, rfl, ev, hb6⟩
      obtain ⟨n2, n3, mid⟩ := nd_count hYp U.out hp.out ev
      have HM := hid mid
      have HB6 := hid (bt HB5.out hb6)
      obtain ⟨f0, f1, f2⟩ := HF.out _ HB6.out
      have HBe6 := hid (bt HB1.out HB6.out)
      clear HEV ev mid hb6 HB5 hYp
      by_cases t1 : F - 52 = 971 ∧ 9007199254740992 ≤ N
      · have q4 : (F - 52 == 971) = true := beq_iff_eq.2 t1.1
        have q5 : (9007199254740992 : Int) ≤ (N : Int) := by omega
        have HT := hid t1
        clear t1
        go_wp2_with fail
        go_ret2
        exact ⟨0, false, rfl, nd_top HT.out.1 HT.out.2 HM.out, HBe6.out⟩
      have hx : N < 9007199254740992 ∨ F - 52 < 971 := by omega
      by_cases t2 : F - 52 = 971
      · have q4 : (F - 52 == 971) = true := beq_iff_eq.2 t2
        have q5 : decide ((9007199254740992 : Int) ≤ (N : Int)) = false := decide_eq_false (by omega)
        clear t2
        by_cases z : N = 0
        · subst z
          have hz : floatOfInt .f64 0 = 0 := by decide
          have hm1 : (F - 52 : Int) = -1074 := by
            rcases Int.lt_or_le (-1074) (F - 52) with g | g
            · have := n3 g; omega
            · omega
          have HL := hid (nd_Ldexp0 (F - 52) w6)
          have HE : Hid (NdT n X Y 0 true) := by
            have h := (nd_fine (n := n) (p := F - 52) (by omega) (by omega) n2 hx HM.out).2
            rw [hm1] at h
            rw [if_neg (by simp)] at h
            exact h
          have oz : (FloatKind.f64.format.order 0 0 != some .eq) = false := by decide
          clear n3 hm1
          go_wp2_with fail
          try rw [hz]
          refine Calls.mono HL.out ?_
          rintro e w7 ⟨rfl, rfl⟩
          clear HL hz
          cases n
          · go_wp2_with fail
            go_ret2
            exact ⟨0, true, rfl, HE.out, HBe6.out⟩
          · go_wp2_with fail
            go_ret2
            exact ⟨0, true, rfl, HE.out, HBe6.out⟩
        obtain ⟨G, hG⟩ : ∃ G, floatOfInt .f64 (N : Int) = G := ⟨_, rfl⟩
        obtain ⟨g1, g2⟩ := ndfloat_val n2 hG.symm zP rfl
        have HL := hid (lx_Ldexp G N (F - 52) zP rfl w6 g1 g2 (by omega) n2 (by omega) (by omega) (by omega))
        obtain ⟨k1, k2⟩ := nd_fine (n := n) (p := F - 52) (by omega) (by omega) n2 hx HM.out
        have HN2 := hid (And.intro n2 (And.intro n3 (And.intro z (And.intro k1 k2))))
        clear n2 n3 k1 k2 g1 g2 hx z
        go_wp2_with fail
        try rw [hG]
        refine Calls.mono HL.out ?_
        rintro e w7 ⟨R, rfl, fR, hR, rfl⟩
        obtain ⟨n2, n3, z, k1, k2⟩ := HN2.out
        have hRs := nd_rung (p := F - 52) (by omega) n2 n3 (by omega) fR hR
        rw [← hRs] at k1 k2
        have oR : (FloatKind.f64.format.order R 0 != some .eq) = true := by
          have := nd_zero (x := R) (by omega)
          rw [bne, this, decide_eq_false (by omega)]
          rfl
        have HK := hid (And.intro k1 k2)
        have hRp : 0 < R := by omega
        clear HL n2 n3 z k1 k2 hRs fR hR HN2 hG HM
        cases n
        · go_wp2_with fail
          go_ret2
          have h := HK.out.2
          rw [if_neg (by simp)] at h
          exact ⟨R, true, rfl, h, HBe6.out⟩
        · have hn : fneg R = R + 9223372036854775808 := fneg_pos (by have := HK.out.1; omega)
          have h := HK.out.2
          rw [if_pos ⟨rfl, hRp⟩, ← hn] at h
          have HH := hid h
          clear h hn HK
          have hneg : ∀ x, Op.unary .neg (.float .f64 x) = pure (.float .f64 (fneg x)) := fun _ => rfl
          go_wp2_with fail
          go_ret2
          exact ⟨_, true, rfl, HH.out, HBe6.out⟩
      have q4 : (F - 52 == 971) = false := beq_eq_false_iff_ne.2 t2
      by_cases z : N = 0
      · subst z
        have hz : floatOfInt .f64 0 = 0 := by decide
        have hm1 : (F - 52 : Int) = -1074 := by
          rcases Int.lt_or_le (-1074) (F - 52) with g | g
          · have := n3 g; omega
          · omega
        have HL := hid (nd_Ldexp0 (F - 52) w6)
        have HE : Hid (NdT n X Y 0 true) := by
          have h := (nd_fine (n := n) (p := F - 52) (by omega) (by omega) n2 hx HM.out).2
          rw [hm1] at h
          rw [if_neg (by simp)] at h
          exact h
        have oz : (FloatKind.f64.format.order 0 0 != some .eq) = false := by decide
        clear n3 hm1
        go_wp2_with fail
        try rw [hz]
        refine Calls.mono HL.out ?_
        rintro e w7 ⟨rfl, rfl⟩
        clear HL hz
        cases n
        · go_wp2_with fail
          go_ret2
          exact ⟨0, true, rfl, HE.out, HBe6.out⟩
        · go_wp2_with fail
          go_ret2
          exact ⟨0, true, rfl, HE.out, HBe6.out⟩
      obtain ⟨G, hG⟩ : ∃ G, floatOfInt .f64 (N : Int) = G := ⟨_, rfl⟩
      obtain ⟨g1, g2⟩ := ndfloat_val n2 hG.symm zP rfl
      have HL := hid (lx_Ldexp G N (F - 52) zP rfl w6 g1 g2 (by omega) n2 (by omega) (by omega) (by omega))
      obtain ⟨k1, k2⟩ := nd_fine (n := n) (p := F - 52) (by omega) (by omega) n2 hx HM.out
      have HN2 := hid (And.intro n2 (And.intro n3 (And.intro z (And.intro k1 k2))))
      clear n2 n3 k1 k2 g1 g2 hx z
      go_wp2_with fail
      try rw [hG]
      refine Calls.mono HL.out ?_
      rintro e w7 ⟨R, rfl, fR, hR, rfl⟩
      obtain ⟨n2, n3, z, k1, k2⟩ := HN2.out
      have hRs := nd_rung (p := F - 52) (by omega) n2 n3 (by omega) fR hR
      rw [← hRs] at k1 k2
      have oR : (FloatKind.f64.format.order R 0 != some .eq) = true := by
        have := nd_zero (x := R) (by omega)
        rw [bne, this, decide_eq_false (by omega)]
        rfl
      have HK := hid (And.intro k1 k2)
      have hRp : 0 < R := by omega
      clear HL n2 n3 z k1 k2 hRs fR hR HN2 hG HM
      cases n
      · go_wp2_with fail
        go_ret2
        have h := HK.out.2
        rw [if_neg (by simp)] at h
        exact ⟨R, true, rfl, h, HBe6.out⟩
      · have hn : fneg R = R + 9223372036854775808 := fneg_pos (by have := HK.out.1; omega)
        have h := HK.out.2
        rw [if_pos ⟨rfl, hRp⟩, ← hn] at h
        have HH := hid h
        clear h hn HK
        have hneg : ∀ x, Op.unary .neg (.float .f64 x) = pure (.float .f64 (fneg x)) := fun _ => rfl
        go_wp2_with fail
        go_ret2
        exact ⟨_, true, rfl, HH.out, HBe6.out⟩
    by_cases c3 : -1080 ≤ F
    · have q1 : F - 52 < -1074 := by omega
      have q3 : -1080 ≤ F := by omega
      have hbA : Below P.heap.size P (w3.alloc (.cells #[] 88)).drew := bt HB3.out (alloc_later w3 (.cells #[] 88)).drew
      obtain ⟨A0, A1, A2⟩ := HF.out _ hbA
      have HBA := hid hbA
      clear hbA
      go_wp2_with fail
      go_region
      go_wp2_with fail
      generalize (w3.alloc (.cells #[] 88)).drew = W4 at *
      have hp : Hid (-1074 = max (F - 52) (-1074)) := by show _ = _; omega
      obtain ⟨hX, hY, hYp⟩ := HXY.out
      have HE1 := hid (ndScaled_any a ca xs b cb ys (-1074) W4 (HS.out _ HBA.out).1 (HS.out _ HBA.out).2 HW.out.1 HW.out.2.1 HW.out.2.2.1 HW.out.2.2.2 (by omega) (by omega) (by omega) (by omega))
      rw [hX, hY] at HE1
      refine Calls.mono HE1.out ?_
      rintro e w5 ⟨a5, c5, a6, c6, z5, d5, rfl, s1, s2, wz, wd, tz, td, vz, vd, lz, ld, hb5⟩
      have ld5 : d5.length ≤ 4400 := nd_den wd td vd hY HW.out.2.2.1 ly (by omega)
      have HEV := hid (ndEven_any a5 c5 z5 a6 c6 d5 w5 (X * 2 ^ (-(-1074)).toNat) (Y * 2 ^ (-1074).toNat) s1 s2 wz tz wd td lz ld5 (by rw [vz, Int.natCast_mul, Int.natCast_pow]; rfl) (by rw [vd, Int.natCast_mul, Int.natCast_pow]; rfl) (Nat.mul_pos hYp (Nat.two_pow_pos _)) (nd_small U.out hp.out))
      have HB5 := hid (bt HBA.out hb5)
      clear HE1 s1 s2 wz wd tz td vz vd lz ld ld5 hb5 hX hY HBA A0 A1 A2 f0 f1 f2
      go_wp2_with fail
      refine Calls.mono HEV.out ?_
      rintro e w6 ⟨N, rfl, ev, hb6⟩
      obtain ⟨n2, n3, mid⟩ := nd_count hYp U.out hp.out ev
      have HM := hid mid
      have HB6 := hid (bt HB5.out hb6)
      obtain ⟨f0, f1, f2⟩ := HF.out _ HB6.out
      have HBe6 := hid (bt HB1.out HB6.out)
      clear HEV ev mid hb6 HB5 hYp
      have hx : N < 9007199254740992 ∨ (-1074 : Int) < 971 := by omega
      by_cases z : N = 0
      · subst z
        have hz : floatOfInt .f64 0 = 0 := by decide
        have hm1 : (-1074 : Int) = -1074 := by
          rcases Int.lt_or_le (-1074) (-1074) with g | g
          · have := n3 g; omega
          · omega
        have HL := hid (nd_Ldexp0 (-1074) w6)
        have HE : Hid (NdT n X Y 0 true) := by
          have h := (nd_fine (n := n) (p := -1074) (by omega) (by omega) n2 hx HM.out).2
          rw [hm1] at h
          rw [if_neg (by simp)] at h
          exact h
        have oz : (FloatKind.f64.format.order 0 0 != some .eq) = false := by decide
        clear n3 hm1
        go_wp2_with fail
        try rw [hz]
        refine Calls.mono HL.out ?_
        rintro e w7 ⟨rfl, rfl⟩
        clear HL hz
        cases n
        · go_wp2_with fail
          go_ret2
          exact ⟨0, true, rfl, HE.out, HBe6.out⟩
        · go_wp2_with fail
          go_ret2
          exact ⟨0, true, rfl, HE.out, HBe6.out⟩
      obtain ⟨G, hG⟩ : ∃ G, floatOfInt .f64 (N : Int) = G := ⟨_, rfl⟩
      obtain ⟨g1, g2⟩ := ndfloat_val n2 hG.symm zP rfl
      have HL := hid (lx_Ldexp G N (-1074) zP rfl w6 g1 g2 (by omega) n2 (by omega) (by omega) (by omega))
      obtain ⟨k1, k2⟩ := nd_fine (n := n) (p := -1074) (by omega) (by omega) n2 hx HM.out
      have HN2 := hid (And.intro n2 (And.intro n3 (And.intro z (And.intro k1 k2))))
      clear n2 n3 k1 k2 g1 g2 hx z
      go_wp2_with fail
      try rw [hG]
      refine Calls.mono HL.out ?_
      rintro e w7 ⟨R, rfl, fR, hR, rfl⟩
      obtain ⟨n2, n3, z, k1, k2⟩ := HN2.out
      have hRs := nd_rung (p := -1074) (by omega) n2 n3 (by omega) fR hR
      rw [← hRs] at k1 k2
      have oR : (FloatKind.f64.format.order R 0 != some .eq) = true := by
        have := nd_zero (x := R) (by omega)
        rw [bne, this, decide_eq_false (by omega)]
        rfl
      have HK := hid (And.intro k1 k2)
      have hRp : 0 < R := by omega
      clear HL n2 n3 z k1 k2 hRs fR hR HN2 hG HM
      cases n
      · go_wp2_with fail
        go_ret2
        have h := HK.out.2
        rw [if_neg (by simp)] at h
        exact ⟨R, true, rfl, h, HBe6.out⟩
      · have hn : fneg R = R + 9223372036854775808 := fneg_pos (by have := HK.out.1; omega)
        have h := HK.out.2
        rw [if_pos ⟨rfl, hRp⟩, ← hn] at h
        have HH := hid h
        clear h hn HK
        have hneg : ∀ x, Op.unary .neg (.float .f64 x) = pure (.float .f64 (fneg x)) := fun _ => rfl
        go_wp2_with fail
        go_ret2
        exact ⟨_, true, rfl, HH.out, HBe6.out⟩
    have q1 : F - 52 < -1074 := by omega
    have q3 : ¬ -1080 ≤ F := by omega
    have hbA : Below P.heap.size P (w3.alloc (.cells #[] 88)).drew := bt HB3.out (alloc_later w3 (.cells #[] 88)).drew
    obtain ⟨A0, A1, A2⟩ := HF.out _ hbA
    have HBA := hid hbA
    clear hbA
    go_wp2_with fail
    go_region
    go_wp2_with fail
    have hbW : Below w3.heap.size w3 (w3.alloc (.cells #[] 88)).drew := (alloc_later w3 (.cells #[] 88)).drew
    have HNil : Hid (Sl (w3.alloc (.cells #[] 88)).drew (.slice (some ⟨w3.heap.size, 0, none⟩) 0 0) []) := nd_nil w3
    generalize (w3.alloc (.cells #[] 88)).drew = W4 at *
    obtain ⟨hX, hY, hYp⟩ := HXY.out
    have HEV := hid (ndEven_any (some ⟨w3.heap.size, 0, none⟩) 0 [] b cb ys W4 0 Y HNil.out (HS.out _ HBA.out).2 Wd.nil Trimmed.nil HW.out.2.2.1 HW.out.2.2.2 (by simp) (by omega) rfl hY hYp (by omega))
    have HYp := hid hYp
    clear hX hY hYp A0 A1 A2 f0 f1 f2 HNil hbW
    refine Calls.mono HEV.out ?_
    rintro e w6 ⟨N, rfl, ev, hb6⟩
    have hN := ev_nought HYp.out ev
    subst hN
    have HB6 := hid (bt HBA.out hb6)
    obtain ⟨f0, f1, f2⟩ := HF.out _ HB6.out
    have HBe6 := hid (bt HB1.out HB6.out)
    have hz : floatOfInt .f64 0 = 0 := by decide
    have HL := hid (nd_Ldexp0 (-1074) w6)
    have HE : Hid (NdT n X Y 0 true) := nd_none U.out (by omega)
    have oz : (FloatKind.f64.format.order 0 0 != some .eq) = false := by decide
    clear HEV ev hb6
    go_wp2_with fail
    try rw [hz]
    refine Calls.mono HL.out ?_
    rintro e w7 ⟨rfl, rfl⟩
    clear HL hz
    cases n
    · go_wp2_with fail
      go_ret2
      exact ⟨0, true, rfl, HE.out, HBe6.out⟩
    · go_wp2_with fail
      go_ret2
      exact ⟨0, true, rfl, HE.out, HBe6.out⟩
end Go.Proofs.YtabkgpnckaaclaaGreatDoor

/- Fractions: ratio.Small. -/
namespace Go.Proofs.YtabkgpnckaaclaaGreatDoor
open Go.RowKit
set_option linter.unusedVariables false

theorem small_err {n m : Bool} {zs us : List Int} {y : Int} (l1 : zs.length ≤ 2) (t1 : Trimmed zs) (s1 : n = false ∨ 0 < zs.length) (w2 : Wd us) (l2 : us.length ≤ 2) (t2 : Trimmed us) (s2 : m = false ∨ 0 < us.length) (v2 : wval m us = y) : mkErr n zs m us = if y = 0 then 7 else 0 := by
  unfold mkErr
  rw [wboth_good (wchk_good (by omega) t1 s1) (wchk_good (by omega) t2 s2), if_pos rfl]
  by_cases c : us.length = 0
  · have e0 : val us = 0 := trimmed_zero' c
    have : y = 0 := by rw [← v2]; cases m <;> simp [wval, e0]
    rw [if_pos c, if_pos this]
  · have e0 := val_pos' w2 t2 (by omega)
    have : ¬ y = 0 := by rw [← v2]; cases m <;> simp [wval] <;> omega
    rw [if_neg c, if_neg this]

end Go.Proofs.YtabkgpnckaaclaaGreatDoor

/- The laws' small; no float between a float and the next; real.Compare and real.Within of a float and the fraction that it is. -/
namespace Go.Proofs.YtabkgpnckaaclaaGreatDoor
open Go.RowKit
set_option linter.unusedVariables false

/-- A fraction told alone. -/
def RVal6 (w : World) (e : Int) (q : Rat) (x : Ending) (w' : World) : Prop :=
  ∃ n v xs u ys code, x = .returned (.agg #[.bool n, v, u]) ∧ w'.ownsRow w.heap.size 88 1 v xs.length (xs.map (Value.int .u32)) ∧ w'.ownsRow w.heap.size 88 1 u ys.length (ys.map (Value.int .u32)) ∧ RTells e q n xs ys code ∧ Below w.heap.size w w'
theorem RVal6.put {w U w3 : World} {e : Int} {q : Rat} {k : Bool} {v u : Value} {zs ds : List Int} {code : Int} (h : w3.ownsRow U.heap.size 88 1 v zs.length (zs.map (Value.int .u32)) ∧ w3.ownsRow U.heap.size 88 1 u ds.length (ds.map (Value.int .u32)) ∧ RTells e q k zs ds code) (b : Nat) (hb : b < U.heap.size) (hw : w.heap.size ≤ b) (hbw : Below w.heap.size w w3) (x y z : Value) :
    RVal6 w e q (.returned (.agg #[.bool k, v, u])) (((w3.setCell ⟨b, 0, none⟩ x).setCell ⟨b, 1, none⟩ y).setCell ⟨b, 2, none⟩ z) :=
  ⟨k, v, zs, u, ds, code, rfl, owns_base (own_put3 h.1 b (fun g hg => by have := (World.ownsRow.lt h.1 g hg).1; omega) _ _ _) (by omega), owns_base (own_put3 h.2.1 b (fun g hg => by have := (World.ownsRow.lt h.2.1 g hg).1; omega) _ _ _) (by omega), h.2.2, below_put3 hbw b hw _ _ _⟩
theorem ext_same {x : Nat} {n m : Bool} {xs ys us vs : List Int} (wx : Wd xs) (wy : Wd ys) (wu : Wd us) (wv : Wd vs) (h : ExT x n xs ys) (g : ExT x m us vs) : n = m ∧ xs = us ∧ ys = vs := by
  have t1 := rtells_self wx wy h.1
  have t2 := rtells_self wu wv g.1
  rw [h.2.2] at t1
  rw [g.2.2] at t2
  obtain ⟨a, b, c, _⟩ := t1.same t2
  exact ⟨a, b, c⟩
theorem rcmp_self {n : Bool} {xs ys : List Int} (h : rchk n xs ys = 0) : rcmp n xs ys n xs ys = 0 ∧ rboth n xs ys n xs ys = 0 := by
  have hb := rboth_good h h
  unfold rcmp
  rw [if_pos hb]
  exact ⟨cmpI_eq rfl, hb⟩

set_option maxHeartbeats 800000 in
set_option maxRecDepth 100000 in
theorem compare_self (x : Nat) (n : Bool) (a : Option Addr) (ca : Nat) (xs : List Int) (b : Option Addr) (cb : Nat) (ys : List Int) (w : World) (hx : Fi x) (hT : TabB w) (sx : Sl w (.slice a xs.length ca) xs) (sy : Sl w (.slice b ys.length cb) ys) (he : ExT x n xs ys) :
    Calls Tryz.prog 11 #[.float .f64 x, .agg #[.bool n, .slice a xs.length ca, .slice b ys.length cb]] w fun e w' => e = .returned (.tuple #[.int .i64 0, .int .i64 0]) ∧ Below w.heap.size w w' := by
  obtain ⟨X, hX⟩ : ∃ X, w.alloc (.cells #[.bool n, .slice a xs.length ca, .slice b ys.length cb] 25) = X := ⟨_, rfl⟩
  have b1 : Below w.heap.size w X := by rw [← hX]; exact alloc_later _ _
  have HBX : Hid (Box X w.heap.size 25 #[.bool n, .slice a xs.length ca, .slice b ys.length cb]) := by rw [← hX]; exact Box.made w _ _
  have HE := hid (exact_fin x X hx (hT.later b1))
  have HSX := hid (sx.later b1)
  have HSY := hid (sy.later b1)
  have HB1 := hid b1
  have HEX := hid he
  clear sx sy b1 he hT hx
  go_enter Tryz.func11, Tryz.ntmps11
  go_wp2_with fail
  clear hX
  refine Calls.mono HE.out ?_
  rintro e w2 ⟨n', a', ca', b', cb', xs', ys', rfl, o1, o2, wx, wy, he', b2⟩
  obtain ⟨rfl, rfl, rfl⟩ := ext_same wx wy HSX.out.wd HSY.out.wd he' HEX.out
  obtain ⟨Y, hY⟩ : ∃ Y, w2.alloc (.cells #[.bool n', .slice a' xs'.length ca', .slice b' ys'.length cb'] 25) = Y := ⟨_, rfl⟩
  have b3 : Below w2.heap.size w2 Y := by rw [← hY]; exact alloc_later _ _
  have hBY : Box Y w2.heap.size 25 #[.bool n', .slice a' xs'.length ca', .slice b' ys'.length cb'] := by rw [← hY]; exact Box.made w2 _ _
  have hBX := HBX.out.later (bt b2 b3) HBX.out.lt
  have HC := hid (rCompare_full n' a' ca' xs' b' cb' ys' n' a ca xs' b cb ys' Y (Sl.own (owns_later o1 b3) wx) (Sl.own (owns_later o2 b3) wy) ((HSX.out.later b2).later b3) ((HSY.out.later b2).later b3))
  rw [(rcmp_self HEX.out.1).1, (rcmp_self HEX.out.1).2] at HC
  have HBB := hid (bt HB1.out (bt b2 b3))
  have c0 : Y.cell? ⟨w2.heap.size, 0, none⟩ = some (.bool n') := hBY.cell 0
  have c1 : Y.cell? ⟨w2.heap.size, 1, none⟩ = some (.slice a' xs'.length ca') := hBY.cell 1
  have c2 : Y.cell? ⟨w2.heap.size, 2, none⟩ = some (.slice b' ys'.length cb') := hBY.cell 2
  have d0 : Y.cell? ⟨w.heap.size, 0, none⟩ = some (.bool n') := hBX.cell 0
  have d1 : Y.cell? ⟨w.heap.size, 1, none⟩ = some (.slice a xs'.length ca) := hBX.cell 1
  have d2 : Y.cell? ⟨w.heap.size, 2, none⟩ = some (.slice b ys'.length cb) := hBX.cell 2
  clear HE o1 o2 wx wy he' b2 b3 hBX hBY HSX HSY HB1
  go_wp2_with fail
  refine Calls.mono HC.out ?_
  rintro e w3 ⟨rfl, b4⟩
  have HB4 := hid (bt HBB.out b4)
  clear HC b4 c0 c1 c2 d0 d1 d2 hY
  go_wp2_with fail
  go_returns
  exact ⟨rfl, HB4.out⟩

end Go.Proofs.YtabkgpnckaaclaaGreatDoor

/- real.Within of a float, the fraction that it is, and nothing for the bound. -/
namespace Go.Proofs.YtabkgpnckaaclaaGreatDoor
open Go.RowKit
set_option linter.unusedVariables false

theorem fq_zero : fq 0 = 0 := by
  unfold fq
  have e : fcount 0 = 0 := by decide
  rw [e]
  simp [sg, Rat.zero_divInt]
theorem rat_less0 (q : Rat) : q - 0 = q := by grind
theorem rat_more0 (q : Rat) : q + 0 = q := by grind
/-- What is told of a fraction is the fraction that was told before. -/
theorem told_same {q : Rat} {n m : Bool} {xs ys us vs : List Int} {c : Int} (wx : Wd xs) (wy : Wd ys) (h : rchk n xs ys = 0) (hq : rq n xs ys = q) (g : RTells 0 q m us vs c) : m = n ∧ us = xs ∧ vs = ys ∧ c = 0 := by
  have t := rtells_self wx wy h
  rw [hq] at t
  exact g.same t
/-- Three cells of a box written: its own, another box, rows, what was there. -/
theorem put3_box {W : World} {b t : Nat} {u0 u1 u2 : Value} (h : Box W b t #[u0, u1, u2]) (v0 v1 v2 : Value) : Box (((W.setCell ⟨b, 0, none⟩ v0).setCell ⟨b, 1, none⟩ v1).setCell ⟨b, 2, none⟩ v2) b t #[v0, v1, v2] := ((h.set 0 v0).set 1 v1).set 2 v2
theorem put3_far {W : World} {b t b' : Nat} {vs : Array Value} (h : Box W b t vs) (hne : b ≠ b') (v0 v1 v2 : Value) : Box (((W.setCell ⟨b', 0, none⟩ v0).setCell ⟨b', 1, none⟩ v1).setCell ⟨b', 2, none⟩ v2) b t vs := ((h.other ⟨b', 0, none⟩ v0 hne).other ⟨b', 1, none⟩ v1 hne).other ⟨b', 2, none⟩ v2 hne
theorem put3_row {W : World} {base n b t : Nat} {v : Value} {xs : List Value} {vs : Array Value} (h : W.ownsRow base 88 1 v n xs) (hb : Box W b t vs) (hne : 88 ≠ t) (v0 v1 v2 : Value) : (((W.setCell ⟨b, 0, none⟩ v0).setCell ⟨b, 1, none⟩ v1).setCell ⟨b, 2, none⟩ v2).ownsRow base 88 1 v n xs := own_put3 h b (fun g hg => own_ne_box h hb hne g hg) v0 v1 v2

set_option maxHeartbeats 1600000 in
set_option maxRecDepth 100000 in
theorem ends_self (x : Nat) (w : World) (hx : Fi x) (hT : TabB w) (n : Bool) (xs ys : List Int) (wx : Wd xs) (wy : Wd ys) (he : ExT x n xs ys) :
    Calls Tryz.prog 46 #[.float .f64 x, .float .f64 0] w fun e w' => ∃ a ca b cb c cc d cd, e = .returned (.tuple #[.agg #[.bool n, .slice a xs.length ca, .slice b ys.length cb], .agg #[.bool n, .slice c xs.length cc, .slice d ys.length cd], .int .i64 0]) ∧ Sl w' (.slice a xs.length ca) xs ∧ Sl w' (.slice b ys.length cb) ys ∧ Sl w' (.slice c xs.length cc) xs ∧ Sl w' (.slice d ys.length cd) ys ∧ Below w.heap.size w w' := by
  obtain ⟨X, hX⟩ : ∃ X, (w.alloc (.cells #[.bool false, .slice none 0 0, .slice none 0 0] 25)).alloc (.cells #[.bool false, .slice none 0 0, .slice none 0 0] 25) = X := ⟨_, rfl⟩
  have b1 : Below w.heap.size w X := by rw [← hX]; exact bt (alloc_later _ _) (alloc_later _ _)
  have HP : Hid (Box X w.heap.size 25 #[.bool false, .slice none 0 0, .slice none 0 0]) := by rw [← hX]; exact (Box.made w _ _).later (alloc_later _ _) (Box.made w _ _).lt
  have HQ : Hid (Box X (w.heap.size + 1) 25 #[.bool false, .slice none 0 0, .slice none 0 0]) := by
    have h := Box.made (w.alloc (.cells #[.bool false, .slice none 0 0, .slice none 0 0] 25)) 25 #[.bool false, .slice none 0 0, .slice none 0 0]
    rw [show (w.alloc (.cells #[.bool false, .slice none 0 0, .slice none 0 0] 25)).heap.size = w.heap.size + 1 by simp, hX] at h
    exact h
  have HE := hid (exact_fin x X hx (hT.later b1))
  have HB1 := hid b1
  have HT1 := hid (hT.later b1)
  have HEX := hid he
  have HW := hid (And.intro wx wy)
  have H0 : Hid (Fi 0) := ⟨by decide, by decide⟩
  clear b1 he hT hx wx wy
  go_enter Tryz.func46, Tryz.ntmps46
  go_wp2_with fail
  clear hX
  refine Calls.mono HE.out ?_
  rintro e w2 ⟨n', a1, ca1, b1', cb1, xs', ys', rfl, o1, o2, wx', wy', he', b2⟩
  obtain ⟨rfl, rfl, rfl⟩ := ext_same wx' wy' HW.out.1 HW.out.2 he' HEX.out
  obtain ⟨Y, hY⟩ : ∃ Y, w2.alloc (.cells #[.bool n', .slice a1 xs'.length ca1, .slice b1' ys'.length cb1] 25) = Y := ⟨_, rfl⟩
  have b3 : Below w2.heap.size w2 Y := by rw [← hY]; exact alloc_later _ _
  have HBY : Hid (Box Y w2.heap.size 25 #[.bool n', .slice a1 xs'.length ca1, .slice b1' ys'.length cb1]) := by rw [← hY]; exact Box.made w2 _ _
  have HO1 := hid (owns_later o1 b3)
  have HO2 := hid (owns_later o2 b3)
  have HE0 := hid (exact_fin 0 Y H0.out (HT1.out.later (bt b2 b3)))
  have HBB := hid (bt b2 b3)
  have hsz : X.heap.size ≤ w2.heap.size := b2.size
  clear HE o1 o2 wx' wy' he' b2 b3
  go_wp2_with fail
  clear hY
  refine Calls.mono HE0.out ?_
  rintro e w4 ⟨m, a2, ca2, b2', cb2, us, vs, rfl, p1, p2, wu, wv, he0, b4⟩
  obtain ⟨Z, hZ⟩ : ∃ Z, w4.alloc (.cells #[.bool m, .slice a2 us.length ca2, .slice b2' vs.length cb2] 25) = Z := ⟨_, rfl⟩
  have b5 : Below w4.heap.size w4 Z := by rw [← hZ]; exact alloc_later _ _
  have hBZ : Box Z w4.heap.size 25 #[.bool m, .slice a2 us.length ca2, .slice b2' vs.length cb2] := by rw [← hZ]; exact Box.made w4 _ _
  have b45 := bt b4 b5
  have hBY := HBY.out.later b45 HBY.out.lt
  have s1 := Sl.own (owns_later HO1.out b45) HW.out.1
  have s2 := Sl.own (owns_later HO2.out b45) HW.out.2
  have s3 := Sl.own (owns_later p1 b5) wu
  have s4 := Sl.own (owns_later p2 b5) wv
  have hq : rq n' xs' ys' - rq m us vs = fq x := by rw [HEX.out.2.2, he0.2.2, fq_zero]; exact rat_less0 _
  have hq2 : rq n' xs' ys' + rq m us vs = fq x := by rw [HEX.out.2.2, he0.2.2, fq_zero]; exact rat_more0 _
  have HS := hid (rSub_ok n' a1 ca1 xs' b1' cb1 ys' m a2 ca2 us b2' cb2 vs Z s1 s2 s3 s4 HEX.out.1 he0.1)
  rw [hq] at HS
  have HA : Hid (∀ V, V.ownsRow X.heap.size 88 1 (.slice a1 xs'.length ca1) xs'.length (xs'.map (Value.int .u32)) → V.ownsRow X.heap.size 88 1 (.slice b1' ys'.length cb1) ys'.length (ys'.map (Value.int .u32)) → V.ownsRow Y.heap.size 88 1 (.slice a2 us.length ca2) us.length (us.map (Value.int .u32)) → V.ownsRow Y.heap.size 88 1 (.slice b2' vs.length cb2) vs.length (vs.map (Value.int .u32)) → Calls Tryz.prog 88 #[.agg #[.bool n', .slice a1 xs'.length ca1, .slice b1' ys'.length cb1], .agg #[.bool m, .slice a2 us.length ca2, .slice b2' vs.length cb2]] V (RToldA V 0 (fq x))) := fun V q1 q2 q3 q4 => by
    rw [← hq2]
    exact rAdd_ok n' a1 ca1 xs' b1' cb1 ys' m a2 ca2 us b2' cb2 vs V (Sl.own q1 HW.out.1) (Sl.own q2 HW.out.2) (Sl.own q3 wu) (Sl.own q4 wv) HEX.out.1 he0.1
  have HRW := hid (And.intro (owns_later HO1.out b45) (And.intro (owns_later HO2.out b45) (And.intro (owns_later p1 b5) (owns_later p2 b5))))
  have y0 : Z.cell? ⟨w2.heap.size, 0, none⟩ = some (.bool n') := hBY.cell 0
  have y1 : Z.cell? ⟨w2.heap.size, 1, none⟩ = some (.slice a1 xs'.length ca1) := hBY.cell 1
  have y2 : Z.cell? ⟨w2.heap.size, 2, none⟩ = some (.slice b1' ys'.length cb1) := hBY.cell 2
  have z0 : Z.cell? ⟨w4.heap.size, 0, none⟩ = some (.bool m) := hBZ.cell 0
  have z1 : Z.cell? ⟨w4.heap.size, 1, none⟩ = some (.slice a2 us.length ca2) := hBZ.cell 1
  have z2 : Z.cell? ⟨w4.heap.size, 2, none⟩ = some (.slice b2' vs.length cb2) := hBZ.cell 2
  have HXZ := hid (bt HBB.out b45)
  have HYZ := hid hBY
  have HZZ := hid hBZ
  have hs4 : w2.heap.size < w4.heap.size := Nat.lt_of_lt_of_le HBY.out.lt b4.size
  clear HE0 HBY HO1 HO2 p1 p2 wu wv he0 b4 b5 b45 hBY hBZ s1 s2 s3 s4 hq hq2 HBB
  go_wp2_with fail
  clear hZ
  refine Calls.mono HS.out ?_
  rintro e w5 ⟨k1, v1, xs1, u1, ys1, code1, rfl, r1, r2, t1, b6, _⟩
  obtain ⟨rfl, rfl, rfl, rfl⟩ := told_same HW.out.1 HW.out.2 HEX.out.1 HEX.out.2.2 t1
  obtain ⟨a3, c3, rfl⟩ := own_slice' r1
  obtain ⟨a4, c4, rfl⟩ := own_slice' r2
  have hP5 := HP.out.later (bt HXZ.out b6) HP.out.lt
  have hQ5 := HQ.out.later (bt HXZ.out b6) HQ.out.lt
  have hY5 := HYZ.out.later b6 HYZ.out.lt
  have hZ5 := HZZ.out.later b6 HZZ.out.lt
  obtain ⟨V5, hV5⟩ : ∃ V5, ((w5.setCell ⟨w.heap.size, 0, none⟩ (.bool k1)).setCell ⟨w.heap.size, 1, none⟩ (.slice a3 xs1.length c3)).setCell ⟨w.heap.size, 2, none⟩ (.slice a4 ys1.length c4) = V5 := ⟨_, rfl⟩
  have hsX : w.heap.size + 1 < X.heap.size := HQ.out.lt
  have hne1 : w.heap.size + 1 ≠ w.heap.size := by omega
  have P5 : Box V5 w.heap.size 25 #[.bool k1, .slice a3 xs1.length c3, .slice a4 ys1.length c4] := by rw [← hV5]; exact put3_box hP5 _ _ _
  have Q5 : Box V5 (w.heap.size + 1) 25 #[.bool false, .slice none 0 0, .slice none 0 0] := by rw [← hV5]; exact put3_far hQ5 hne1 _ _ _
  have Y5 : Box V5 w2.heap.size 25 #[.bool k1, .slice a1 xs1.length ca1, .slice b1' ys1.length cb1] := by rw [← hV5]; exact put3_far hY5 (by omega) _ _ _
  have Z5 : Box V5 w4.heap.size 25 #[.bool m, .slice a2 us.length ca2, .slice b2' vs.length cb2] := by rw [← hV5]; exact put3_far hZ5 (by omega) _ _ _
  have r1' : V5.ownsRow Z.heap.size 88 1 (.slice a3 xs1.length c3) xs1.length (xs1.map (Value.int .u32)) := by rw [← hV5]; exact put3_row r1 hP5 (by decide) _ _ _
  have r2' : V5.ownsRow Z.heap.size 88 1 (.slice a4 ys1.length c4) ys1.length (ys1.map (Value.int .u32)) := by rw [← hV5]; exact put3_row r2 hP5 (by decide) _ _ _
  have HA5 := hid (HA.out V5 (by rw [← hV5]; exact put3_row (owns_later HRW.out.1 b6) hP5 (by decide) _ _ _) (by rw [← hV5]; exact put3_row (owns_later HRW.out.2.1 b6) hP5 (by decide) _ _ _) (by rw [← hV5]; exact put3_row (owns_later HRW.out.2.2.1 b6) hP5 (by decide) _ _ _) (by rw [← hV5]; exact put3_row (owns_later HRW.out.2.2.2 b6) hP5 (by decide) _ _ _))
  have HB5 : Hid (Below w.heap.size w V5) := by rw [← hV5]; exact below_put3 (bt HB1.out (bt HXZ.out b6)) w.heap.size (Nat.le_refl _) _ _ _
  have f0 := hP5.free 0
  have f1 := hP5.free 1
  have f2 := hP5.free 2
  have g0 : w5.cell? ⟨w.heap.size, 0, none⟩ = some (.bool false) := hP5.cell 0
  have g1 : w5.cell? ⟨w.heap.size, 1, none⟩ = some (.slice none 0 0) := hP5.cell 1
  have g2 : w5.cell? ⟨w.heap.size, 2, none⟩ = some (.slice none 0 0) := hP5.cell 2
  have y0' : V5.cell? ⟨w2.heap.size, 0, none⟩ = some (.bool k1) := Y5.cell 0
  have y1' : V5.cell? ⟨w2.heap.size, 1, none⟩ = some (.slice a1 xs1.length ca1) := Y5.cell 1
  have y2' : V5.cell? ⟨w2.heap.size, 2, none⟩ = some (.slice b1' ys1.length cb1) := Y5.cell 2
  have z0' : V5.cell? ⟨w4.heap.size, 0, none⟩ = some (.bool m) := Z5.cell 0
  have z1' : V5.cell? ⟨w4.heap.size, 1, none⟩ = some (.slice a2 us.length ca2) := Z5.cell 1
  have z2' : V5.cell? ⟨w4.heap.size, 2, none⟩ = some (.slice b2' vs.length cb2) := Z5.cell 2
  have HPQ := hid (And.intro P5 (And.intro Q5 (And.intro r1' r2')))
  clear HS HA HRW hP5 hQ5 hY5 hZ5 P5 Q5 Y5 Z5 r1 r2 r1' r2' t1 b6 y0 y1 y2 z0 z1 z2 HP HQ HXZ HYZ HZZ hsz hs4
  go_wp2_with fail
  clear hV5 g0 g1 g2 f0 f1 f2
  refine Calls.mono HA5.out ?_
  rintro e w6 ⟨k2, v2, xs2, u2, ys2, code2, rfl, r3, r4, t2, b7, _⟩
  obtain ⟨rfl, rfl, rfl, rfl⟩ := told_same HW.out.1 HW.out.2 HEX.out.1 HEX.out.2.2 t2
  obtain ⟨a5, c5, rfl⟩ := own_slice' r3
  obtain ⟨a6, c6, rfl⟩ := own_slice' r4
  have hP6 := HPQ.out.1.later b7 HPQ.out.1.lt
  have hQ6 := HPQ.out.2.1.later b7 HPQ.out.2.1.lt
  obtain ⟨V6, hV6⟩ : ∃ V6, ((w6.setCell ⟨w.heap.size + 1, 0, none⟩ (.bool k2)).setCell ⟨w.heap.size + 1, 1, none⟩ (.slice a5 xs2.length c5)).setCell ⟨w.heap.size + 1, 2, none⟩ (.slice a6 ys2.length c6) = V6 := ⟨_, rfl⟩
  have P6 : Box V6 w.heap.size 25 #[.bool k2, .slice a3 xs2.length c3, .slice a4 ys2.length c4] := by rw [← hV6]; exact put3_far hP6 (by omega) _ _ _
  have Q6 : Box V6 (w.heap.size + 1) 25 #[.bool k2, .slice a5 xs2.length c5, .slice a6 ys2.length c6] := by rw [← hV6]; exact put3_box hQ6 _ _ _
  have HF : Hid (Sl V6 (.slice a3 xs2.length c3) xs2 ∧ Sl V6 (.slice a4 ys2.length c4) ys2 ∧ Sl V6 (.slice a5 xs2.length c5) xs2 ∧ Sl V6 (.slice a6 ys2.length c6) ys2) := by
    rw [← hV6]
    exact ⟨Sl.own (put3_row (owns_later HPQ.out.2.2.1 b7) hQ6 (by decide) _ _ _) HW.out.1, Sl.own (put3_row (owns_later HPQ.out.2.2.2 b7) hQ6 (by decide) _ _ _) HW.out.2, Sl.own (put3_row r3 hQ6 (by decide) _ _ _) HW.out.1, Sl.own (put3_row r4 hQ6 (by decide) _ _ _) HW.out.2⟩
  have HB6 : Hid (Below w.heap.size w V6) := by rw [← hV6]; exact below_put3 (bt HB5.out b7) (w.heap.size + 1) (by omega) _ _ _
  have f0 := hQ6.free 0
  have f1 := hQ6.free 1
  have f2 := hQ6.free 2
  have g0 : w6.cell? ⟨w.heap.size + 1, 0, none⟩ = some (.bool false) := hQ6.cell 0
  have g1 : w6.cell? ⟨w.heap.size + 1, 1, none⟩ = some (.slice none 0 0) := hQ6.cell 1
  have g2 : w6.cell? ⟨w.heap.size + 1, 2, none⟩ = some (.slice none 0 0) := hQ6.cell 2
  have p0 : V6.cell? ⟨w.heap.size, 0, none⟩ = some (.bool k2) := P6.cell 0
  have p1 : V6.cell? ⟨w.heap.size, 1, none⟩ = some (.slice a3 xs2.length c3) := P6.cell 1
  have p2 : V6.cell? ⟨w.heap.size, 2, none⟩ = some (.slice a4 ys2.length c4) := P6.cell 2
  have q0 : V6.cell? ⟨w.heap.size + 1, 0, none⟩ = some (.bool k2) := Q6.cell 0
  have q1 : V6.cell? ⟨w.heap.size + 1, 1, none⟩ = some (.slice a5 xs2.length c5) := Q6.cell 1
  have q2 : V6.cell? ⟨w.heap.size + 1, 2, none⟩ = some (.slice a6 ys2.length c6) := Q6.cell 2
  have j0 := P6.free 0
  have j1 := P6.free 1
  have j2 := P6.free 2
  have i0 := Q6.free 0
  have i1 := Q6.free 1
  have i2 := Q6.free 2
  have HPB := hid (And.intro P6 Q6)
  clear HA5 r3 r4 t2 b7 hP6 hQ6 P6 Q6 HPQ y0' y1' y2' z0' z1' z2'
  go_wp2_with fail
  clear hV6 g0 g1 g2 f0 f1 f2
  have D6 : Box V6.drew w.heap.size 25 #[.bool k2, .slice a3 xs2.length c3, .slice a4 ys2.length c4] := HPB.out.1
  have E6 : Box V6.drew (w.heap.size + 1) 25 #[.bool k2, .slice a5 xs2.length c5, .slice a6 ys2.length c6] := HPB.out.2
  have m0 : V6.drew.setCell ⟨w.heap.size, 0, none⟩ (.bool k2) = V6.drew := D6.same rfl
  have m1 : V6.drew.setCell ⟨w.heap.size, 1, none⟩ (.slice a3 xs2.length c3) = V6.drew := D6.same rfl
  have m2 : V6.drew.setCell ⟨w.heap.size, 2, none⟩ (.slice a4 ys2.length c4) = V6.drew := D6.same rfl
  have m3 : V6.drew.setCell ⟨w.heap.size + 1, 0, none⟩ (.bool k2) = V6.drew := E6.same rfl
  have m4 : V6.drew.setCell ⟨w.heap.size + 1, 1, none⟩ (.slice a5 xs2.length c5) = V6.drew := E6.same rfl
  have m5 : V6.drew.setCell ⟨w.heap.size + 1, 2, none⟩ (.slice a6 ys2.length c6) = V6.drew := E6.same rfl
  go_region
  all_goals
    go_wp2_with fail
    refine bodyPost_ret (v := .tuple #[.agg #[.bool k2, .slice a3 xs2.length c3, .slice a4 ys2.length c4], .agg #[.bool k2, .slice a5 xs2.length c5, .slice a6 ys2.length c6], .int .i64 0]) (by simp [results, Tryz.results46, go_sem, p0, p1, p2, q0, q1, q2]) rfl ?_
    have hbd := Below.drew (Below.refl V6.heap.size V6)
    exact ⟨a3, c3, a4, c4, a5, c5, a6, c6, rfl, HF.out.1.later hbd, HF.out.2.1.later hbd, HF.out.2.2.1.later hbd, HF.out.2.2.2.later hbd, bt HB6.out hbd⟩

set_option maxHeartbeats 1600000 in
set_option maxRecDepth 100000 in
theorem within_self (x : Nat) (n : Bool) (a : Option Addr) (ca : Nat) (xs : List Int) (b : Option Addr) (cb : Nat) (ys : List Int) (w : World) (hx : Fi x) (hT : TabB w) (sx : Sl w (.slice a xs.length ca) xs) (sy : Sl w (.slice b ys.length cb) ys) (he : ExT x n xs ys) :
    Calls Tryz.prog 13 #[.float .f64 x, .agg #[.bool n, .slice a xs.length ca, .slice b ys.length cb], .float .f64 0] w fun e w' => e = .returned (.tuple #[.bool true, .int .i64 0]) ∧ Below w.heap.size w w' := by
  obtain ⟨X, hX⟩ : ∃ X, w.alloc (.cells #[.bool n, .slice a xs.length ca, .slice b ys.length cb] 25) = X := ⟨_, rfl⟩
  have b1 : Below w.heap.size w X := by rw [← hX]; exact alloc_later _ _
  have HBX : Hid (Box X w.heap.size 25 #[.bool n, .slice a xs.length ca, .slice b ys.length cb]) := by rw [← hX]; exact Box.made w _ _
  have HE := hid (ends_self x X hx (hT.later b1) n xs ys sx.wd sy.wd he)
  have HSX := hid (sx.later b1)
  have HSY := hid (sy.later b1)
  have HB1 := hid b1
  have HEX := hid he
  clear sx sy b1 he hT hx
  go_enter Tryz.func13, Tryz.ntmps13
  go_wp2_with fail
  clear hX
  refine Calls.mono HE.out ?_
  rintro e w2 ⟨a1, c1, a2, c2, a3, c3, a4, c4, rfl, s1, s2, s3, s4, b2⟩
  obtain ⟨Y, hY⟩ : ∃ Y, (w2.alloc (.cells #[.bool n, .slice a1 xs.length c1, .slice a2 ys.length c2] 25)).alloc (.cells #[.bool n, .slice a3 xs.length c3, .slice a4 ys.length c4] 25) = Y := ⟨_, rfl⟩
  have b3 : Below w2.heap.size w2 Y := by rw [← hY]; exact bt (alloc_later _ _) (alloc_later _ _)
  have hP : Box Y w2.heap.size 25 #[.bool n, .slice a1 xs.length c1, .slice a2 ys.length c2] := by rw [← hY]; exact (Box.made w2 _ _).later (alloc_later _ _) (Box.made w2 _ _).lt
  have hQ : Box Y (w2.heap.size + 1) 25 #[.bool n, .slice a3 xs.length c3, .slice a4 ys.length c4] := by
    have h := Box.made (w2.alloc (.cells #[.bool n, .slice a1 xs.length c1, .slice a2 ys.length c2] 25)) 25 #[.bool n, .slice a3 xs.length c3, .slice a4 ys.length c4]
    rw [show (w2.alloc (.cells #[.bool n, .slice a1 xs.length c1, .slice a2 ys.length c2] 25)).heap.size = w2.heap.size + 1 by simp, hY] at h
    exact h
  have hBX := HBX.out.later (bt b2 b3) HBX.out.lt
  have HC1 := hid (rCompare_full n a1 c1 xs a2 c2 ys n a ca xs b cb ys Y (s1.later b3) (s2.later b3) ((HSX.out.later b2).later b3) ((HSY.out.later b2).later b3))
  rw [(rcmp_self HEX.out.1).1, (rcmp_self HEX.out.1).2] at HC1
  have HC2 : Hid (∀ V, Below Y.heap.size Y V → Calls Tryz.prog 44 #[.agg #[.bool n, .slice a xs.length ca, .slice b ys.length cb], .agg #[.bool n, .slice a3 xs.length c3, .slice a4 ys.length c4]] V fun e w' => e = .returned (.tuple #[.int .i64 0, .int .i64 0]) ∧ Below V.heap.size V w') := fun V hv => by
    have h := rCompare_full n a ca xs b cb ys n a3 c3 xs a4 c4 ys V ((HSX.out.later b2).later (bt b3 hv)) ((HSY.out.later b2).later (bt b3 hv)) (s3.later (bt b3 hv)) (s4.later (bt b3 hv))
    rw [(rcmp_self HEX.out.1).1, (rcmp_self HEX.out.1).2] at h
    exact h
  have HBB := hid (bt HB1.out (bt b2 b3))
  have p0 : Y.cell? ⟨w2.heap.size, 0, none⟩ = some (.bool n) := hP.cell 0
  have p1 : Y.cell? ⟨w2.heap.size, 1, none⟩ = some (.slice a1 xs.length c1) := hP.cell 1
  have p2 : Y.cell? ⟨w2.heap.size, 2, none⟩ = some (.slice a2 ys.length c2) := hP.cell 2
  have d0 : Y.cell? ⟨w.heap.size, 0, none⟩ = some (.bool n) := hBX.cell 0
  have d1 : Y.cell? ⟨w.heap.size, 1, none⟩ = some (.slice a xs.length ca) := hBX.cell 1
  have d2 : Y.cell? ⟨w.heap.size, 2, none⟩ = some (.slice b ys.length cb) := hBX.cell 2
  have HBQ := hid (And.intro hBX hQ)
  clear HE s1 s2 s3 s4 b2 b3 hBX hP hQ HSX HSY HB1
  go_wp2_with fail
  clear hY
  refine Calls.mono HC1.out ?_
  rintro e w3 ⟨rfl, b4⟩
  have hx3 := HBQ.out.1.later b4 HBQ.out.1.lt
  have hq3 := HBQ.out.2.later b4 HBQ.out.2.lt
  have HC3 := hid (HC2.out w3 b4)
  have HB4 := hid (bt HBB.out b4)
  have d0' : w3.cell? ⟨w.heap.size, 0, none⟩ = some (.bool n) := hx3.cell 0
  have d1' : w3.cell? ⟨w.heap.size, 1, none⟩ = some (.slice a xs.length ca) := hx3.cell 1
  have d2' : w3.cell? ⟨w.heap.size, 2, none⟩ = some (.slice b ys.length cb) := hx3.cell 2
  have q0' : w3.cell? ⟨w2.heap.size + 1, 0, none⟩ = some (.bool n) := hq3.cell 0
  have q1' : w3.cell? ⟨w2.heap.size + 1, 1, none⟩ = some (.slice a3 xs.length c3) := hq3.cell 1
  have q2' : w3.cell? ⟨w2.heap.size + 1, 2, none⟩ = some (.slice a4 ys.length c4) := hq3.cell 2
  clear HC1 HC2 b4 p0 p1 p2 d0 d1 d2 hx3 hq3
  go_wp2_with fail
  refine Calls.mono HC3.out ?_
  rintro e w5 ⟨rfl, b5⟩
  have HB5 := hid (bt HB4.out b5)
  clear HC3 b5 d0' d1' d2' q0' q1' q2'
  go_wp2_with fail
  go_returns
  exact ⟨rfl, HB5.out⟩

end Go.Proofs.YtabkgpnckaaclaaGreatDoor

/- The document's own floats (slackwaterref06): exact, Exact. (tools/mknd5.py) -/
namespace Go.Proofs.YtabkgpnckaaclaaGreatDoor
open Go.RowKit
set_option linter.unusedVariables false

set_option maxHeartbeats 800000 in
set_option maxRecDepth 100000 in
theorem ndexact_least (x : Nat) (w : World) (hx : x < 18446744073709551616) (hz : x / 4503599627370496 % 2048 = 0) :
    Calls Tryz.prog 39 #[.float .f64 x] w fun e w' => ∃ n a ca b cb zs ds code, e = .returned (.agg #[.bool n, .slice a (List.length zs) ca, .slice b (List.length ds) cb]) ∧ w'.ownsRow w.heap.size 88 1 (.slice a zs.length ca) zs.length (zs.map (Value.int .u32)) ∧ w'.ownsRow w.heap.size 88 1 (.slice b ds.length cb) ds.length (ds.map (Value.int .u32)) ∧ RTells 0 (fq x) n zs ds code ∧ Below w.heap.size w w' := by
  have HB := bits_run x
  have h1 := and52 x hx
  have h2 := and2047 x hx
  have h3 : (((x : Int) / 9223372036854775808) == 1) = (x / 9223372036854775808 == 1) := by
    have e0 : (x : Int) / 9223372036854775808 = ((x / 9223372036854775808 : Nat) : Int) := by omega
    rw [e0]
    exact natBeq (x / 9223372036854775808) 1
  rw [hz] at h2
  have ec : fcount x = x % 4503599627370496 := by unfold fcount; rw [if_pos hz]
  have eu : funit x = -1074 := by unfold funit; rw [if_pos hz]
  have hKK : ((-(funit x)).toNat : Int) = 1074 := by omega
  have hu := funit_le x
  have hcl := fcount_lt x
  obtain ⟨Q, hQ⟩ : ∃ Q, fq x = Q := ⟨_, rfl⟩
  have HQ := hid hQ
  unfold fq at hQ
  generalize hs : (x / 9223372036854775808 == 1) = sgn at *
  obtain ⟨P, hP⟩ : ∃ P, w.alloc (.cells #[.bool false, .slice none 0 0, .slice none 0 0] 25) = P := ⟨_, rfl⟩
  have HB1 : Hid (Below w.heap.size w P) := by rw [← hP]; exact alloc_later _ _
  have HPX : Hid (Box P w.heap.size 25 #[.bool false, .slice none 0 0, .slice none 0 0]) := by rw [← hP]; exact Box.made w _ _
  have HO := hid (refOf_val ((fcount x : Nat)) P (by omega) (by omega))
  rw [ec] at *
  go_enter Tryz.func39, Tryz.ntmps39
  go_wp2_with fail
  refine Calls.mono HO.out ?_
  rintro e w2 ⟨v2, zs, rfl, o2, wz, tz, vz, hb2⟩
  obtain ⟨a2, c2, hs2⟩ := own_slice' o2
  subst hs2
  obtain ⟨Y, hY⟩ : ∃ Y, w2.alloc (.cells #[.int .u32 1] 88) = Y := ⟨_, rfl⟩
  have hb3 : Below w2.heap.size w2 Y := by rw [← hY]; exact alloc_later _ _
  have hOne : Y.ownsRow w2.heap.size 88 1 (.slice (some ⟨w2.heap.size, 0, none⟩) 1 1) 1 ([(1 : Int)].map (Value.int .u32)) := by rw [← hY]; exact ⟨rfl, .inr ⟨w2.heap.size, 1, #[.int .u32 1], rfl, Nat.le_refl _, Box.made w2 _ _, Nat.le_refl _, by unfold maxLen; simp, rfl, rfl⟩⟩
  have sOne : Sl Y (.slice (some ⟨w2.heap.size, 0, none⟩) 1 1) [1] := Sl.own hOne (Wd.one (by omega))
  have sNum : Sl Y (.slice a2 zs.length c2) zs := (Sl.own o2 wz).later hb3
  have tOne : Trimmed [1] := rfl
  have lz : zs.length ≤ 2 := len_of_lt wz tz (nd_two (by rw [vz]; omega))
  have HB3 := hid (bt hb2 hb3)
  have HSH := hid (ndShifted_any _ [1] (-(funit x)).toNat Y sOne (Wd.one (by omega)) tOne (by simp) (by omega))
  rw [hKK] at HSH
  have HZ := hid (And.intro sNum (And.intro wz (And.intro tz (And.intro vz lz))))
  clear o2 wz tz vz hb2 hb3 hOne sOne sNum tOne lz
  go_wp2_with fail
  clear hP hY
  refine Calls.mono HSH.out ?_
  rintro e w4 ⟨v4, ds, rfl, o4, wd, td, vd, hb4⟩
  obtain ⟨a4, c4, hs4⟩ := own_slice' o4
  subst hs4
  have hv1 : val [1] = 1 := rfl
  rw [hv1, Int.one_mul] at vd
  have ld : ds.length ≤ 8192 := nd_len wd td (by have := nd_wide (xs := [1]) (n := (-(funit x)).toNat) (Wd.one (by omega)) (by simp) (by omega); rw [hv1, Int.one_mul] at this; rw [vd]; exact this)
  have d0 : 0 < ds.length := by
    rcases Nat.eq_zero_or_pos ds.length with z | z
    · have hn : ds = [] := List.eq_nil_of_length_eq_zero z
      subst hn
      have hv0 : val [] = 0 := rfl
      have := Int.pow_pos (n := 2) (m := (-(funit x)).toNat) (by decide)
      omega
    · exact z
  have HOF := hid (of3_any sgn a2 c2 zs a4 c4 ds w4 (HZ.out.1.later hb4) (Sl.own o4 wd) (by have := HZ.out.2.2.2.2; omega) ld HZ.out.2.2.1 td d0)
  have hval : Rat.divInt (sg sgn (val zs)) (val ds) = Q := by
    rw [HZ.out.2.2.2.1, vd, ← hQ, show (funit x).toNat = 0 by omega, Int.pow_zero, Int.mul_one]
  rw [hval] at HOF
  have HB4 := hid (bt HB3.out hb4)
  clear o4 wd td vd hb4 HSH HZ ld d0 hval
  go_wp2_with fail
  refine Calls.mono HOF.out ?_
  rintro e w5 ⟨n5, v5, xs5, v6, ys5, code, rfl, o5, o6, ht, hb5⟩
  obtain ⟨a5, c5, hs5⟩ := own_slice' o5
  subst hs5
  obtain ⟨a6, c6, hs6⟩ := own_slice' o6
  subst hs6
  obtain ⟨V, hV⟩ : ∃ V, w5.alloc (.cells #[.bool n5, .slice a5 xs5.length c5, .slice a6 ys5.length c6] 25) = V := ⟨_, rfl⟩
  have hb6 : Below w5.heap.size w5 V := by rw [← hV]; exact alloc_later _ _
  have hBX := HPX.out.later (bt HB4.out (bt hb5 hb6)) HPX.out.lt
  have hlt : w.heap.size < w4.heap.size := by
    have h1 := HPX.out.lt
    have h2 := HB4.out.size
    omega
  obtain ⟨Z, hZ⟩ : ∃ Z, ((V.setCell ⟨w.heap.size, 0, none⟩ (.bool n5)).setCell ⟨w.heap.size, 1, none⟩ (.slice a5 xs5.length c5)).setCell ⟨w.heap.size, 2, none⟩ (.slice a6 ys5.length c6) = Z := ⟨_, rfl⟩
  have hBZ : Box Z w.heap.size 25 #[.bool n5, .slice a5 xs5.length c5, .slice a6 ys5.length c6] := by rw [← hZ]; exact put3_box hBX _ _ _
  have hBe : Below w.heap.size w Z := by rw [← hZ]; exact below_put3 (bt HB1.out (bt HB4.out (bt hb5 hb6))) _ (Nat.le_refl _) _ _ _
  have r5 : Z.ownsRow w.heap.size 88 1 (.slice a5 xs5.length c5) xs5.length (xs5.map (Value.int .u32)) := by rw [← hZ]; exact owns_base (put3_row (owns_later o5 hb6) hBX (by decide) _ _ _) (by omega)
  have r6 : Z.ownsRow w.heap.size 88 1 (.slice a6 ys5.length c6) ys5.length (ys5.map (Value.int .u32)) := by rw [← hZ]; exact owns_base (put3_row (owns_later o6 hb6) hBX (by decide) _ _ _) (by omega)
  have g0 : V.cell? ⟨w.heap.size, 0, none⟩ = some (.bool false) := hBX.cell 0
  have g1 : V.cell? ⟨w.heap.size, 1, none⟩ = some (.slice none 0 0) := hBX.cell 1
  have g2 : V.cell? ⟨w.heap.size, 2, none⟩ = some (.slice none 0 0) := hBX.cell 2
  have f0 := hBX.free 0
  have f1 := hBX.free 1
  have f2 := hBX.free 2
  have hBR : Box V w5.heap.size 25 #[.bool n5, .slice a5 xs5.length c5, .slice a6 ys5.length c6] := by rw [← hV]; exact Box.made w5 _ _
  have k0 : V.cell? ⟨w5.heap.size, 0, none⟩ = some (.bool n5) := hBR.cell 0
  have k1 : V.cell? ⟨w5.heap.size, 1, none⟩ = some (.slice a5 xs5.length c5) := hBR.cell 1
  have k2 : V.cell? ⟨w5.heap.size, 2, none⟩ = some (.slice a6 ys5.length c6) := hBR.cell 2
  have p0 : Z.cell? ⟨w.heap.size, 0, none⟩ = some (.bool n5) := hBZ.cell 0
  have p1 : Z.cell? ⟨w.heap.size, 1, none⟩ = some (.slice a5 xs5.length c5) := hBZ.cell 1
  have p2 : Z.cell? ⟨w.heap.size, 2, none⟩ = some (.slice a6 ys5.length c6) := hBZ.cell 2
  have HR := hid (And.intro r5 (And.intro r6 (And.intro ht hBe)))
  clear o5 o6 ht hb5 hb6 hBX hlt hBZ hBR hBe r5 r6 HOF HPX HB1 HB3 HB4
  go_wp2_with fail
  refine bodyPost_ret (v := .agg #[.bool n5, .slice a5 xs5.length c5, .slice a6 ys5.length c6]) (by simp [results, Tryz.results39, go_sem, p0, p1, p2]) rfl ?_
  exact ⟨n5, a5, c5, a6, c6, xs5, ys5, code, rfl, HR.out.1, HR.out.2.1, by rw [HQ.out]; exact HR.out.2.2.1, HR.out.2.2.2⟩

set_option maxHeartbeats 800000 in
set_option maxRecDepth 100000 in
theorem ndexact_mid (x : Nat) (w : World) (hx : x < 18446744073709551616) (hz : ¬ x / 4503599627370496 % 2048 = 0) (hE : x / 4503599627370496 % 2048 < 1075) :
    Calls Tryz.prog 39 #[.float .f64 x] w fun e w' => ∃ n a ca b cb zs ds code, e = .returned (.agg #[.bool n, .slice a (List.length zs) ca, .slice b (List.length ds) cb]) ∧ w'.ownsRow w.heap.size 88 1 (.slice a zs.length ca) zs.length (zs.map (Value.int .u32)) ∧ w'.ownsRow w.heap.size 88 1 (.slice b ds.length cb) ds.length (ds.map (Value.int .u32)) ∧ RTells 0 (fq x) n zs ds code ∧ Below w.heap.size w w' := by
  have HB := bits_run x
  have h1 := and52 x hx
  have h2 := and2047 x hx
  have h3 : (((x : Int) / 9223372036854775808) == 1) = (x / 9223372036854775808 == 1) := by
    have e0 : (x : Int) / 9223372036854775808 = ((x / 9223372036854775808 : Nat) : Int) := by omega
    rw [e0]
    exact natBeq (x / 9223372036854775808) 1
  have ec : fcount x = 4503599627370496 + x % 4503599627370496 := by unfold fcount; rw [if_neg hz]
  have eu : funit x = -1074 + ((x / 4503599627370496 % 2048 : Nat) : Int) - 1 := by unfold funit; rw [if_neg hz]
  have hKK : ((-(funit x)).toNat : Int) = 1075 - (funit x + 1075) := by omega
  have hu := funit_le x
  have hcl := fcount_lt x
  obtain ⟨Q, hQ⟩ : ∃ Q, fq x = Q := ⟨_, rfl⟩
  have HQ := hid hQ
  unfold fq at hQ
  generalize hs : (x / 9223372036854775808 == 1) = sgn at *
  obtain ⟨P, hP⟩ : ∃ P, w.alloc (.cells #[.bool false, .slice none 0 0, .slice none 0 0] 25) = P := ⟨_, rfl⟩
  have HB1 : Hid (Below w.heap.size w P) := by rw [← hP]; exact alloc_later _ _
  have HPX : Hid (Box P w.heap.size 25 #[.bool false, .slice none 0 0, .slice none 0 0]) := by rw [← hP]; exact Box.made w _ _
  have hM : ((fcount x : Nat) : Int) = ((x % 4503599627370496 : Nat) : Int) + 4503599627370496 := by rw [ec]; omega
  rw [hM] at hQ
  have HO := hid (refOf_val (((x % 4503599627370496 : Nat) : Int) + 4503599627370496) P (by omega) (by omega))
  have hEq : ((x / 4503599627370496 % 2048 : Nat) : Int) = funit x + 1075 := by omega
  rw [hEq] at h2
  have hml : x % 4503599627370496 < 4503599627370496 := by omega
  generalize hmm : x % 4503599627370496 = m at *
  have hz' : (funit x + 1075 == 0) = false := beq_eq_false_iff_ne.2 (by omega)
  have hge : ¬ (1075 ≤ funit x + 1075) := by omega
  generalize hff : funit x = f at *
  clear hmm hM ec hz eu hEq hff
  go_enter Tryz.func39, Tryz.ntmps39
  go_wp2_with fail
  refine Calls.mono HO.out ?_
  rintro e w2 ⟨v2, zs, rfl, o2, wz, tz, vz, hb2⟩
  obtain ⟨a2, c2, hs2⟩ := own_slice' o2
  subst hs2
  obtain ⟨Y, hY⟩ : ∃ Y, w2.alloc (.cells #[.int .u32 1] 88) = Y := ⟨_, rfl⟩
  have hb3 : Below w2.heap.size w2 Y := by rw [← hY]; exact alloc_later _ _
  have hOne : Y.ownsRow w2.heap.size 88 1 (.slice (some ⟨w2.heap.size, 0, none⟩) 1 1) 1 ([(1 : Int)].map (Value.int .u32)) := by rw [← hY]; exact ⟨rfl, .inr ⟨w2.heap.size, 1, #[.int .u32 1], rfl, Nat.le_refl _, Box.made w2 _ _, Nat.le_refl _, by unfold maxLen; simp, rfl, rfl⟩⟩
  have sOne : Sl Y (.slice (some ⟨w2.heap.size, 0, none⟩) 1 1) [1] := Sl.own hOne (Wd.one (by omega))
  have sNum : Sl Y (.slice a2 zs.length c2) zs := (Sl.own o2 wz).later hb3
  have tOne : Trimmed [1] := rfl
  have lz : zs.length ≤ 2 := len_of_lt wz tz (nd_two (by rw [vz]; omega))
  have HB3 := hid (bt hb2 hb3)
  have HSH := hid (ndShifted_any _ [1] (-f).toNat Y sOne (Wd.one (by omega)) tOne (by simp) (by omega))
  rw [hKK] at HSH
  have HZ := hid (And.intro sNum (And.intro wz (And.intro tz (And.intro vz lz))))
  clear o2 wz tz vz hb2 hb3 hOne sOne sNum tOne lz
  go_wp2_with fail
  clear hP hY
  refine Calls.mono HSH.out ?_
  rintro e w4 ⟨v4, ds, rfl, o4, wd, td, vd, hb4⟩
  obtain ⟨a4, c4, hs4⟩ := own_slice' o4
  subst hs4
  have hv1 : val [1] = 1 := rfl
  rw [hv1, Int.one_mul] at vd
  have ld : ds.length ≤ 8192 := nd_len wd td (by have := nd_wide (xs := [1]) (n := (-f).toNat) (Wd.one (by omega)) (by simp) (by omega); rw [hv1, Int.one_mul] at this; rw [vd]; exact this)
  have d0 : 0 < ds.length := by
    rcases Nat.eq_zero_or_pos ds.length with z | z
    · have hn : ds = [] := List.eq_nil_of_length_eq_zero z
      subst hn
      have hv0 : val [] = 0 := rfl
      have := Int.pow_pos (n := 2) (m := (-f).toNat) (by decide)
      omega
    · exact z
  have HOF := hid (of3_any sgn a2 c2 zs a4 c4 ds w4 (HZ.out.1.later hb4) (Sl.own o4 wd) (by have := HZ.out.2.2.2.2; omega) ld HZ.out.2.2.1 td d0)
  have hval : Rat.divInt (sg sgn (val zs)) (val ds) = Q := by
    rw [HZ.out.2.2.2.1, vd, ← hQ, show f.toNat = 0 by omega, Int.pow_zero, Int.mul_one]
  rw [hval] at HOF
  have HB4 := hid (bt HB3.out hb4)
  clear o4 wd td vd hb4 HSH HZ ld d0 hval
  go_wp2_with fail
  refine Calls.mono HOF.out ?_
  rintro e w5 ⟨n5, v5, xs5, v6, ys5, code, rfl, o5, o6, ht, hb5⟩
  obtain ⟨a5, c5, hs5⟩ := own_slice' o5
  subst hs5
  obtain ⟨a6, c6, hs6⟩ := own_slice' o6
  subst hs6
  obtain ⟨V, hV⟩ : ∃ V, w5.alloc (.cells #[.bool n5, .slice a5 xs5.length c5, .slice a6 ys5.length c6] 25) = V := ⟨_, rfl⟩
  have hb6 : Below w5.heap.size w5 V := by rw [← hV]; exact alloc_later _ _
  have hBX := HPX.out.later (bt HB4.out (bt hb5 hb6)) HPX.out.lt
  have hlt : w.heap.size < w4.heap.size := by
    have h1 := HPX.out.lt
    have h2 := HB4.out.size
    omega
  obtain ⟨Z, hZ⟩ : ∃ Z, ((V.setCell ⟨w.heap.size, 0, none⟩ (.bool n5)).setCell ⟨w.heap.size, 1, none⟩ (.slice a5 xs5.length c5)).setCell ⟨w.heap.size, 2, none⟩ (.slice a6 ys5.length c6) = Z := ⟨_, rfl⟩
  have hBZ : Box Z w.heap.size 25 #[.bool n5, .slice a5 xs5.length c5, .slice a6 ys5.length c6] := by rw [← hZ]; exact put3_box hBX _ _ _
  have hBe : Below w.heap.size w Z := by rw [← hZ]; exact below_put3 (bt HB1.out (bt HB4.out (bt hb5 hb6))) _ (Nat.le_refl _) _ _ _
  have r5 : Z.ownsRow w.heap.size 88 1 (.slice a5 xs5.length c5) xs5.length (xs5.map (Value.int .u32)) := by rw [← hZ]; exact owns_base (put3_row (owns_later o5 hb6) hBX (by decide) _ _ _) (by omega)
  have r6 : Z.ownsRow w.heap.size 88 1 (.slice a6 ys5.length c6) ys5.length (ys5.map (Value.int .u32)) := by rw [← hZ]; exact owns_base (put3_row (owns_later o6 hb6) hBX (by decide) _ _ _) (by omega)
  have g0 : V.cell? ⟨w.heap.size, 0, none⟩ = some (.bool false) := hBX.cell 0
  have g1 : V.cell? ⟨w.heap.size, 1, none⟩ = some (.slice none 0 0) := hBX.cell 1
  have g2 : V.cell? ⟨w.heap.size, 2, none⟩ = some (.slice none 0 0) := hBX.cell 2
  have f0 := hBX.free 0
  have f1 := hBX.free 1
  have f2 := hBX.free 2
  have hBR : Box V w5.heap.size 25 #[.bool n5, .slice a5 xs5.length c5, .slice a6 ys5.length c6] := by rw [← hV]; exact Box.made w5 _ _
  have k0 : V.cell? ⟨w5.heap.size, 0, none⟩ = some (.bool n5) := hBR.cell 0
  have k1 : V.cell? ⟨w5.heap.size, 1, none⟩ = some (.slice a5 xs5.length c5) := hBR.cell 1
  have k2 : V.cell? ⟨w5.heap.size, 2, none⟩ = some (.slice a6 ys5.length c6) := hBR.cell 2
  have p0 : Z.cell? ⟨w.heap.size, 0, none⟩ = some (.bool n5) := hBZ.cell 0
  have p1 : Z.cell? ⟨w.heap.size, 1, none⟩ = some (.slice a5 xs5.length c5) := hBZ.cell 1
  have p2 : Z.cell? ⟨w.heap.size, 2, none⟩ = some (.slice a6 ys5.length c6) := hBZ.cell 2
  have HR := hid (And.intro r5 (And.intro r6 (And.intro ht hBe)))
  clear o5 o6 ht hb5 hb6 hBX hlt hBZ hBR hBe r5 r6 HOF HPX HB1 HB3 HB4
  go_wp2_with fail
  refine bodyPost_ret (v := .agg #[.bool n5, .slice a5 xs5.length c5, .slice a6 ys5.length c6]) (by simp [results, Tryz.results39, go_sem, p0, p1, p2]) rfl ?_
  exact ⟨n5, a5, c5, a6, c6, xs5, ys5, code, rfl, HR.out.1, HR.out.2.1, by rw [HQ.out]; exact HR.out.2.2.1, HR.out.2.2.2⟩

set_option maxHeartbeats 800000 in
set_option maxRecDepth 100000 in
theorem ndexact_great (x : Nat) (w : World) (hx : x < 18446744073709551616) (hE : 1075 ≤ x / 4503599627370496 % 2048) :
    Calls Tryz.prog 39 #[.float .f64 x] w fun e w' => ∃ n a ca b cb zs ds code, e = .returned (.agg #[.bool n, .slice a (List.length zs) ca, .slice b (List.length ds) cb]) ∧ w'.ownsRow w.heap.size 88 1 (.slice a zs.length ca) zs.length (zs.map (Value.int .u32)) ∧ w'.ownsRow w.heap.size 88 1 (.slice b ds.length cb) ds.length (ds.map (Value.int .u32)) ∧ RTells 0 (fq x) n zs ds code ∧ Below w.heap.size w w' := by
  have HB := bits_run x
  have h1 := and52 x hx
  have h2 := and2047 x hx
  have h3 : (((x : Int) / 9223372036854775808) == 1) = (x / 9223372036854775808 == 1) := by
    have e0 : (x : Int) / 9223372036854775808 = ((x / 9223372036854775808 : Nat) : Int) := by omega
    rw [e0]
    exact natBeq (x / 9223372036854775808) 1
  have hz : ¬ x / 4503599627370496 % 2048 = 0 := by omega
  have ec : fcount x = 4503599627370496 + x % 4503599627370496 := by unfold fcount; rw [if_neg hz]
  have eu : funit x = -1074 + ((x / 4503599627370496 % 2048 : Nat) : Int) - 1 := by unfold funit; rw [if_neg hz]
  have hKK : ((funit x).toNat : Int) = funit x := by omega
  have hu := funit_le x
  have hcl := fcount_lt x
  obtain ⟨Q, hQ⟩ : ∃ Q, fq x = Q := ⟨_, rfl⟩
  have HQ := hid hQ
  unfold fq at hQ
  generalize hs : (x / 9223372036854775808 == 1) = sgn at *
  obtain ⟨P, hP⟩ : ∃ P, w.alloc (.cells #[.bool false, .slice none 0 0, .slice none 0 0] 25) = P := ⟨_, rfl⟩
  have HB1 : Hid (Below w.heap.size w P) := by rw [← hP]; exact alloc_later _ _
  have HPX : Hid (Box P w.heap.size 25 #[.bool false, .slice none 0 0, .slice none 0 0]) := by rw [← hP]; exact Box.made w _ _
  have hM : ((fcount x : Nat) : Int) = ((x % 4503599627370496 : Nat) : Int) + 4503599627370496 := by rw [ec]; omega
  rw [hM] at hQ
  have HO := hid (refOf_val (((x % 4503599627370496 : Nat) : Int) + 4503599627370496) P (by omega) (by omega))
  have hEq : ((x / 4503599627370496 % 2048 : Nat) : Int) = funit x + 1075 := by omega
  rw [hEq] at h2
  have hml : x % 4503599627370496 < 4503599627370496 := by omega
  generalize hmm : x % 4503599627370496 = m at *
  have hz' : (funit x + 1075 == 0) = false := beq_eq_false_iff_ne.2 (by omega)
  have hge : 1075 ≤ funit x + 1075 := by omega
  generalize hff : funit x = f at *
  clear hmm hM ec hz eu hEq hff
  go_enter Tryz.func39, Tryz.ntmps39
  go_wp2_with fail
  refine Calls.mono HO.out ?_
  rintro e w2 ⟨v2, zs, rfl, o2, wz, tz, vz, hb2⟩
  obtain ⟨a2, c2, hs2⟩ := own_slice' o2
  subst hs2
  obtain ⟨Y, hY⟩ : ∃ Y, w2.alloc (.cells #[.int .u32 1] 88) = Y := ⟨_, rfl⟩
  have hb3 : Below w2.heap.size w2 Y := by rw [← hY]; exact alloc_later _ _
  have hOne : Y.ownsRow w2.heap.size 88 1 (.slice (some ⟨w2.heap.size, 0, none⟩) 1 1) 1 ([(1 : Int)].map (Value.int .u32)) := by rw [← hY]; exact ⟨rfl, .inr ⟨w2.heap.size, 1, #[.int .u32 1], rfl, Nat.le_refl _, Box.made w2 _ _, Nat.le_refl _, by unfold maxLen; simp, rfl, rfl⟩⟩
  have sOne : Sl Y (.slice (some ⟨w2.heap.size, 0, none⟩) 1 1) [1] := Sl.own hOne (Wd.one (by omega))
  have sNum : Sl Y (.slice a2 zs.length c2) zs := (Sl.own o2 wz).later hb3
  have tOne : Trimmed [1] := rfl
  have lz : zs.length ≤ 2 := len_of_lt wz tz (nd_two (by rw [vz]; omega))
  have HB3 := hid (bt hb2 hb3)
  have HSH := hid (ndShifted_any _ zs f.toNat Y sNum wz tz (by omega) (by omega))
  rw [hKK] at HSH
  have HZ := hid (And.intro sOne tOne)
  have HV := hid (And.intro vz (And.intro wz lz))
  clear o2 wz tz vz hb2 hb3 hOne sOne sNum tOne lz
  go_wp2_with fail
  clear hP hY
  refine Calls.mono HSH.out ?_
  rintro e w4 ⟨v4, ds, rfl, o4, wd, td, vd, hb4⟩
  obtain ⟨a4, c4, hs4⟩ := own_slice' o4
  subst hs4
  have ld : ds.length ≤ 8192 := nd_len wd td (by rw [vd]; exact nd_wide HV.out.2.1 (by have := HV.out.2.2; omega) (by omega))
  have HOF := hid (of3_any sgn a4 c4 ds (some ⟨w2.heap.size, 0, none⟩) 1 [1] w4 (Sl.own o4 wd) (HZ.out.1.later hb4) ld (by simp) td HZ.out.2 (by simp))
  have hval : Rat.divInt (sg sgn (val ds)) (val [1]) = Q := by
    have hv1 : val [1] = 1 := rfl
    rw [vd, HV.out.1, ← hQ, hv1, show (-f).toNat = 0 by omega, Int.pow_zero]
  rw [hval] at HOF
  have HB4 := hid (bt HB3.out hb4)
  clear o4 wd td vd hb4 HSH HZ HV ld hval
  go_wp2_with fail
  refine Calls.mono HOF.out ?_
  rintro e w5 ⟨n5, v5, xs5, v6, ys5, code, rfl, o5, o6, ht, hb5⟩
  obtain ⟨a5, c5, hs5⟩ := own_slice' o5
  subst hs5
  obtain ⟨a6, c6, hs6⟩ := own_slice' o6
  subst hs6
  obtain ⟨V, hV⟩ : ∃ V, w5.alloc (.cells #[.bool n5, .slice a5 xs5.length c5, .slice a6 ys5.length c6] 25) = V := ⟨_, rfl⟩
  have hb6 : Below w5.heap.size w5 V := by rw [← hV]; exact alloc_later _ _
  have hBX := HPX.out.later (bt HB4.out (bt hb5 hb6)) HPX.out.lt
  have hlt : w.heap.size < w4.heap.size := by
    have h1 := HPX.out.lt
    have h2 := HB4.out.size
    omega
  obtain ⟨Z, hZ⟩ : ∃ Z, ((V.setCell ⟨w.heap.size, 0, none⟩ (.bool n5)).setCell ⟨w.heap.size, 1, none⟩ (.slice a5 xs5.length c5)).setCell ⟨w.heap.size, 2, none⟩ (.slice a6 ys5.length c6) = Z := ⟨_, rfl⟩
  have hBZ : Box Z w.heap.size 25 #[.bool n5, .slice a5 xs5.length c5, .slice a6 ys5.length c6] := by rw [← hZ]; exact put3_box hBX _ _ _
  have hBe : Below w.heap.size w Z := by rw [← hZ]; exact below_put3 (bt HB1.out (bt HB4.out (bt hb5 hb6))) _ (Nat.le_refl _) _ _ _
  have r5 : Z.ownsRow w.heap.size 88 1 (.slice a5 xs5.length c5) xs5.length (xs5.map (Value.int .u32)) := by rw [← hZ]; exact owns_base (put3_row (owns_later o5 hb6) hBX (by decide) _ _ _) (by omega)
  have r6 : Z.ownsRow w.heap.size 88 1 (.slice a6 ys5.length c6) ys5.length (ys5.map (Value.int .u32)) := by rw [← hZ]; exact owns_base (put3_row (owns_later o6 hb6) hBX (by decide) _ _ _) (by omega)
  have g0 : V.cell? ⟨w.heap.size, 0, none⟩ = some (.bool false) := hBX.cell 0
  have g1 : V.cell? ⟨w.heap.size, 1, none⟩ = some (.slice none 0 0) := hBX.cell 1
  have g2 : V.cell? ⟨w.heap.size, 2, none⟩ = some (.slice none 0 0) := hBX.cell 2
  have f0 := hBX.free 0
  have f1 := hBX.free 1
  have f2 := hBX.free 2
  have hBR : Box V w5.heap.size 25 #[.bool n5, .slice a5 xs5.length c5, .slice a6 ys5.length c6] := by rw [← hV]; exact Box.made w5 _ _
  have k0 : V.cell? ⟨w5.heap.size, 0, none⟩ = some (.bool n5) := hBR.cell 0
  have k1 : V.cell? ⟨w5.heap.size, 1, none⟩ = some (.slice a5 xs5.length c5) := hBR.cell 1
  have k2 : V.cell? ⟨w5.heap.size, 2, none⟩ = some (.slice a6 ys5.length c6) := hBR.cell 2
  have p0 : Z.cell? ⟨w.heap.size, 0, none⟩ = some (.bool n5) := hBZ.cell 0
  have p1 : Z.cell? ⟨w.heap.size, 1, none⟩ = some (.slice a5 xs5.length c5) := hBZ.cell 1
  have p2 : Z.cell? ⟨w.heap.size, 2, none⟩ = some (.slice a6 ys5.length c6) := hBZ.cell 2
  have HR := hid (And.intro r5 (And.intro r6 (And.intro ht hBe)))
  clear o5 o6 ht hb5 hb6 hBX hlt hBZ hBR hBe r5 r6 HOF HPX HB1 HB3 HB4
  go_wp2_with fail
  refine bodyPost_ret (v := .agg #[.bool n5, .slice a5 xs5.length c5, .slice a6 ys5.length c6]) (by simp [results, Tryz.results39, go_sem, p0, p1, p2]) rfl ?_
  exact ⟨n5, a5, c5, a6, c6, xs5, ys5, code, rfl, HR.out.1, HR.out.2.1, by rw [HQ.out]; exact HR.out.2.2.1, HR.out.2.2.2⟩

end Go.Proofs.YtabkgpnckaaclaaGreatDoor

/- The document's own floats (slackwaterref06): Near of any fraction that may be; Nearest of any fraction; exact, Exact of any float. -/
namespace Go.Proofs.YtabkgpnckaaclaaGreatDoor
open Go.RowKit
set_option linter.unusedVariables false

set_option maxHeartbeats 800000 in
set_option maxRecDepth 100000 in
theorem ndNear_any (n : Bool) (a : Option Addr) (ca : Nat) (xs : List Int) (b : Option Addr) (cb : Nat) (ys : List Int) (w : World) (X Y : Nat) (sx : Sl w (.slice a xs.length ca) xs) (sy : Sl w (.slice b ys.length cb) ys) (hr : rchk n xs ys = 0) (hX : val xs = X) (hY : val ys = Y) (hYp : 0 < Y) :
    Calls Tryz.prog 43 #[.agg #[.bool n, .slice a xs.length ca, .slice b ys.length cb]] w fun e w' => ∃ x f, e = .returned (.tuple #[.float .f64 x, .bool f]) ∧ NdT n X Y x f ∧ Below w.heap.size w w' := by
  obtain ⟨lx, ly, tx, ty, y0, hs, _⟩ := rchk_ok hr
  by_cases x0 : 0 < xs.length
  · exact ndNear_go n a ca xs b cb ys w X Y sx sy tx ty lx ly x0 y0 hX hY
  · have hn : xs = [] := List.eq_nil_of_length_eq_zero (by omega)
    subst hn
    have hX0 : X = 0 := by
      have : val [] = 0 := rfl
      omega
    subst hX0
    have HE : Hid (NdT n 0 Y 0 true) := ⟨0, mid_nought hYp, .inr ⟨by decide, rfl, by simp⟩⟩
    have HB := hid (alloc_later w (.cells #[.bool n, .slice a (List.length ([] : List Int)) ca, .slice b ys.length cb] 25))
    have hl : List.length ([] : List Int) = 0 := rfl
    rw [hl] at *
    clear sx sy hr hX hY hYp hs tx ty x0 hl lx ly y0
    go_enter Tryz.func43, Tryz.ntmps43
    go_wp2_with fail
    go_ret2
    exact ⟨0, true, rfl, HE.out, HB.out⟩

set_option maxHeartbeats 1600000 in
set_option maxRecDepth 100000 in
theorem ndNearest_any (n : Bool) (a : Option Addr) (ca : Nat) (xs : List Int) (b : Option Addr) (cb : Nat) (ys : List Int) (w : World) (sx : Sl w (.slice a xs.length ca) xs) (sy : Sl w (.slice b ys.length cb) ys) (lx : xs.length ≤ 281474976710656) (ly : ys.length ≤ 281474976710656) :
    Calls Tryz.prog 10 #[.agg #[.bool n, .slice a xs.length ca, .slice b ys.length cb]] w fun e w' => ∃ x code, e = .returned (.tuple #[.float .f64 x, .int .i64 code]) ∧ NrT n xs ys x code ∧ Below w.heap.size w w' := by
  obtain ⟨P, hP⟩ : ∃ P, w.alloc (.cells #[.bool n, .slice a xs.length ca, .slice b ys.length cb] 25) = P := ⟨_, rfl⟩
  have b1 : Below w.heap.size w P := by rw [← hP]; exact alloc_later _ _
  have HBX : Hid (Box P w.heap.size 25 #[.bool n, .slice a xs.length ca, .slice b ys.length cb]) := by rw [← hP]; exact Box.made w _ _
  have HC := hid (check3_any n a ca xs b cb ys P (sx.later b1) (sy.later b1) lx ly)
  have HS := hid (And.intro (sx.later b1) (sy.later b1))
  have HB1 := hid b1
  have e0 : P.cell? ⟨w.heap.size, 0, none⟩ = some (.bool n) := HBX.out.cell 0
  have e1 : P.cell? ⟨w.heap.size, 1, none⟩ = some (.slice a xs.length ca) := HBX.out.cell 1
  have e2 : P.cell? ⟨w.heap.size, 2, none⟩ = some (.slice b ys.length cb) := HBX.out.cell 2
  obtain ⟨ck, hck⟩ : ∃ ck, rchk n xs ys = ck := ⟨_, rfl⟩
  have HK := hid hck
  rw [hck] at HC
  clear sx sy b1 lx ly hck
  by_cases hz : ck = 0
  · subst hz
    go_enter Tryz.func10, Tryz.ntmps10
    go_wp2_with fail
    clear hP
    refine Calls.mono HC.out ?_
    rintro e w2 ⟨rfl, hb2⟩
    obtain ⟨lx, ly, tx, ty, y0, hs, _⟩ := rchk_ok HK.out
    obtain ⟨X, hX⟩ := Int.eq_ofNat_of_zero_le (val_nonneg HS.out.1.wd)
    obtain ⟨Y, hY⟩ := Int.eq_ofNat_of_zero_le (val_nonneg HS.out.2.wd)
    have hYp : 0 < Y := by
      have h := (bits_bounds HS.out.2.wd (by have : sz ys = ys.length := ty; omega)).2.1
      have := Int.pow_pos (n := 2) (m := bitsOf ys - 1) (by decide)
      omega
    have HN := hid (ndNear_any n a ca xs b cb ys w2 X Y (HS.out.1.later hb2) (HS.out.2.later hb2) HK.out hX hY hYp)
    have HX := hid (And.intro hX (And.intro hY hYp))
    obtain ⟨f0, f1, f2, _⟩ := res_box3 HBX.out hb2
    have HB2 := hid (bt HB1.out hb2)
    clear e0 e1 e2 hb2 HC lx ly tx ty y0 hs hX hY hYp
    go_wp2_with fail
    refine Calls.mono HN.out ?_
    rintro e w3 ⟨x, f, rfl, hT, hb3⟩
    have HB3 := hid (bt HB2.out hb3)
    clear HN hb3 f0 f1 f2
    obtain ⟨s, hM, hT⟩ := hT
    rcases hT with ⟨hs, hx, hf⟩ | ⟨hs, hf, hx⟩
    · subst hf
      subst hx
      have HE : Hid (NrT n xs ys 0 9) := .inr ⟨HK.out, X, Y, s, HX.out.1, HX.out.2.1, HX.out.2.2, hM, .inl ⟨hs, rfl, rfl⟩⟩
      clear hM hs
      go_wp2_with fail
      go_ret2
      exact ⟨0, 9, rfl, HE.out, HB3.out⟩
    · subst hf
      have HE : Hid (NrT n xs ys x 0) := .inr ⟨HK.out, X, Y, s, HX.out.1, HX.out.2.1, HX.out.2.2, hM, .inr ⟨hs, rfl, hx⟩⟩
      clear hM hs hx
      go_wp2_with fail
      go_ret2
      exact ⟨x, 0, rfl, HE.out, HB3.out⟩
  · have hz' : (ck == 0) = false := beq_eq_false_iff_ne.2 hz
    go_enter Tryz.func10, Tryz.ntmps10
    go_wp2_with fail
    clear hP
    refine Calls.mono HC.out ?_
    rintro e w2 ⟨rfl, hb2⟩
    have HB2 := hid (bt HB1.out hb2)
    clear e0 e1 e2 hb2 HC
    have hz2 : (ck != 0) = true := by rw [bne, hz']; rfl
    go_wp2_with fail
    go_ret2
    exact ⟨0, ck, rfl, .inl ⟨by rw [HK.out]; exact hz, rfl, HK.out.symm⟩, HB2.out⟩

/-- Two that are told alike. -/
theorem NrT.one {n : Bool} {xs ys : List Int} {x y : Nat} {c d : Int} (h : NrT n xs ys x c) (g : NrT n xs ys y d) : x = y ∧ c = d := by
  rcases h with ⟨h1, h2, h3⟩ | ⟨h1, X, Y, s, hX, hY, hp, m, h⟩
  · rcases g with ⟨g1, g2, g3⟩ | ⟨g1, g⟩
    · exact ⟨by rw [h2, g2], by rw [h3, g3]⟩
    · exact absurd g1 h1
  · rcases g with ⟨g1, g⟩ | ⟨g1, U, V, t, gX, gY, gp, k, g⟩
    · exact absurd h1 g1
    · have e1 : X = U := by have := hX.symm.trans gX; omega
      have e2 : Y = V := by have := hY.symm.trans gY; omega
      subst e1
      subst e2
      have e3 := m.unique hp k
      subst e3
      rcases h with ⟨h1, h2, h3⟩ | ⟨h1, h2, h3⟩
      · rcases g with ⟨g1, g2, g3⟩ | ⟨g1, g2, g3⟩
        · exact ⟨by rw [h2, g2], by rw [h3, g3]⟩
        · omega
      · rcases g with ⟨g1, g2, g3⟩ | ⟨g1, g2, g3⟩
        · omega
        · exact ⟨by rw [h3, g3], by rw [h2, g2]⟩

theorem ndexact_any (x : Nat) (w : World) (hx : x < 18446744073709551616) :
    Calls Tryz.prog 39 #[.float .f64 x] w fun e w' => ∃ n a ca b cb zs ds code, e = .returned (.agg #[.bool n, .slice a (List.length zs) ca, .slice b (List.length ds) cb]) ∧ w'.ownsRow w.heap.size 88 1 (.slice a zs.length ca) zs.length (zs.map (Value.int .u32)) ∧ w'.ownsRow w.heap.size 88 1 (.slice b ds.length cb) ds.length (ds.map (Value.int .u32)) ∧ RTells 0 (fq x) n zs ds code ∧ Below w.heap.size w w' := by
  by_cases hz : x / 4503599627370496 % 2048 = 0
  · exact ndexact_least x w hx hz
  · by_cases hE : x / 4503599627370496 % 2048 < 1075
    · exact ndexact_mid x w hx hz hE
    · exact ndexact_great x w hx (by omega)

end Go.Proofs.YtabkgpnckaaclaaGreatDoor

