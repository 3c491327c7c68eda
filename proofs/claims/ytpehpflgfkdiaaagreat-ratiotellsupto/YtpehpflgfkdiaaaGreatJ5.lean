/- My texts on the way to RatioTells, one behind the other: contracts of the program and of the document's answers. -/
import Derived.Test.YtpehpflgfkdiaaaGreatJ4
import Derived.Laws.CopyOwn
import Derived.Deep.RegionHeld3
/- The document's own fractions: Mul, Quo: of any fractions, good or refused. -/
namespace Go.Proofs.YtpehpflgfkdiaaaGreat
open Go.RowKit
set_option linter.unusedVariables false

theorem sg_two (n m : Bool) (x y : Int) : sg n x * sg m y = sg (n != m) (x * y) := by
  cases n <;> cases m <;> simp [sg, Int.neg_mul, Int.mul_neg]
theorem mul_q {n m : Bool} {xs ys us vs : List Int} : Rat.divInt (sg (n != m) (val xs * val us)) (val ys * val vs) = rq n xs ys * rq m us vs := by
  unfold rq
  rw [Rat.divInt_mul_divInt]
  show _ = Rat.divInt (sg n (val xs) * sg m (val us)) _
  rw [sg_two]
theorem quo_q {n m : Bool} {xs ys us vs : List Int} : Rat.divInt (sg (n != m) (val xs * val vs)) (val ys * val us) = rq n xs ys / rq m us vs := by
  rw [← rq_over]
  exact mul_q

set_option maxHeartbeats 3200000 in
set_option maxRecDepth 100000 in
theorem dMul_err (n : Bool) (a : Option Addr) (ca : Nat) (xs : List Int) (b : Option Addr) (cb : Nat) (ys : List Int) (m : Bool) (c : Option Addr) (cc : Nat) (us : List Int) (d : Option Addr) (cd : Nat) (vs : List Int) (w : World) (sx : Sl w (.slice a xs.length ca) xs) (sy : Sl w (.slice b ys.length cb) ys) (su : Sl w (.slice c us.length cc) us) (sv : Sl w (.slice d vs.length cd) vs) (hlx : xs.length ≤ 281474976710656) (hly : ys.length ≤ 281474976710656) (hlu : us.length ≤ 281474976710656) (hlv : vs.length ≤ 281474976710656) (he : rboth n xs ys m us vs ≠ 0) (q : Rat) :
    Calls Tryz.prog 11 #[.agg #[.bool n, .slice a xs.length ca, .slice b ys.length cb], .agg #[.bool m, .slice c us.length cc, .slice d vs.length cd]] w (RTold w (rboth n xs ys m us vs) q) := by
  have HB : Hid (Below w.heap.size w (((w.alloc (.cells #[.bool n, .slice a xs.length ca, .slice b ys.length cb] 24)).alloc (.cells #[.bool m, .slice c us.length cc, .slice d vs.length cd] 24)).alloc (.cells #[.bool false, .slice none 0 0, .slice none 0 0] 24))) := bt (bt (alloc_later _ _) (alloc_later _ _)) (alloc_later _ _)
  have HZ : Hid (Box (((w.alloc (.cells #[.bool n, .slice a xs.length ca, .slice b ys.length cb] 24)).alloc (.cells #[.bool m, .slice c us.length cc, .slice d vs.length cd] 24)).alloc (.cells #[.bool false, .slice none 0 0, .slice none 0 0] 24)) (w.heap.size + 1 + 1) 24 #[.bool false, .slice none 0 0, .slice none 0 0]) := by
    have e := Box.made ((w.alloc (.cells #[.bool n, .slice a xs.length ca, .slice b ys.length cb] 24)).alloc (.cells #[.bool m, .slice c us.length cc, .slice d vs.length cd] 24)) 24 #[.bool false, .slice none 0 0, .slice none 0 0]
    simp at e
    exact e
  have HN : Hid (Box (((w.alloc (.cells #[.bool n, .slice a xs.length ca, .slice b ys.length cb] 24)).alloc (.cells #[.bool m, .slice c us.length cc, .slice d vs.length cd] 24)).alloc (.cells #[.bool false, .slice none 0 0, .slice none 0 0] 24)) w.heap.size 24 #[.bool n, .slice a xs.length ca, .slice b ys.length cb]) := Box.later (Box.made w _ _) (bt (alloc_later _ _) (alloc_later _ _)) (by simp)
  have HM : Hid (Box (((w.alloc (.cells #[.bool n, .slice a xs.length ca, .slice b ys.length cb] 24)).alloc (.cells #[.bool m, .slice c us.length cc, .slice d vs.length cd] 24)).alloc (.cells #[.bool false, .slice none 0 0, .slice none 0 0] 24)) (w.heap.size + 1) 24 #[.bool m, .slice c us.length cc, .slice d vs.length cd]) := by
    have e := Box.later (Box.made (w.alloc (.cells #[.bool n, .slice a xs.length ca, .slice b ys.length cb] 24)) 24 #[.bool m, .slice c us.length cc, .slice d vs.length cd]) (alloc_later ((w.alloc (.cells #[.bool n, .slice a xs.length ca, .slice b ys.length cb] 24)).alloc (.cells #[.bool m, .slice c us.length cc, .slice d vs.length cd] 24)) (.cells #[.bool false, .slice none 0 0, .slice none 0 0] 24)) (by simp)
    simp at e
    exact e
  have HXS : Hid (w.heap.size + 1 + 1 < (((w.alloc (.cells #[.bool n, .slice a xs.length ca, .slice b ys.length cb] 24)).alloc (.cells #[.bool m, .slice c us.length cc, .slice d vs.length cd] 24)).alloc (.cells #[.bool false, .slice none 0 0, .slice none 0 0] 24)).heap.size) := HZ.out.lt
  have HSL := hid (And.intro (sx.later HB.out) (And.intro (sy.later HB.out) (And.intro (su.later HB.out) (sv.later HB.out))))
  have HC := hid (both3_any n _ _ xs _ _ ys m _ _ us _ _ vs (((w.alloc (.cells #[.bool n, .slice a xs.length ca, .slice b ys.length cb] 24)).alloc (.cells #[.bool m, .slice c us.length cc, .slice d vs.length cd] 24)).alloc (.cells #[.bool false, .slice none 0 0, .slice none 0 0] 24)) HSL.out.1 HSL.out.2.1 HSL.out.2.2.1 HSL.out.2.2.2 hlx hly hlu hlv)
  obtain ⟨E, hE⟩ : ∃ E, rboth n xs ys m us vs = E := ⟨_, rfl⟩
  rw [hE] at HC he ⊢
  have he' : (E == 0) = false := beq_eq_false_iff_ne.2 he
  have HE := hid he
  clear he hE sx sy su sv
  go_enter Tryz.func11, Tryz.ntmps11
  go_wp2_with fail
  refine Calls.mono HC.out ?_
  generalize (((w.alloc (.cells #[.bool n, .slice a xs.length ca, .slice b ys.length cb] 24)).alloc (.cells #[.bool m, .slice c us.length cc, .slice d vs.length cd] 24)).alloc (.cells #[.bool false, .slice none 0 0, .slice none 0 0] 24)) = X at *
  rintro e w1 ⟨rfl, hb1⟩
  obtain ⟨y0, y1, y2, f0, f1, f2⟩ := res_box3 HZ.out hb1
  have HBN := hid (below_put3 (bt HB.out hb1) (w.heap.size + 1 + 1) (by omega) (.bool false) (.slice none 0 0) (.slice none 0 0))
  clear hb1 HC HN HM HZ HSL
  go_wp2_with fail
  refine bodyPost_ret (v := .tuple #[.agg #[.bool false, .slice none 0 0, .slice none 0 0], .int .i64 E]) (by simp [results, Tryz.results11, go_sem, y0, y1, y2]) rfl ?_
  exact ⟨false, _, [], _, [], _, rfl, World.ownsRow_nil _ _ _ _, World.ownsRow_nil _ _ _ _, RTells.err HE.out, HBN.out⟩


set_option maxHeartbeats 6400000 in
set_option maxRecDepth 100000 in
theorem dMul_ok (n : Bool) (a : Option Addr) (ca : Nat) (xs : List Int) (b : Option Addr) (cb : Nat) (ys : List Int) (m : Bool) (c : Option Addr) (cc : Nat) (us : List Int) (d : Option Addr) (cd : Nat) (vs : List Int) (w : World) (sx : Sl w (.slice a xs.length ca) xs) (sy : Sl w (.slice b ys.length cb) ys) (su : Sl w (.slice c us.length cc) us) (sv : Sl w (.slice d vs.length cd) vs) (hlx : xs.length ≤ 281474976710656) (hly : ys.length ≤ 281474976710656) (hlu : us.length ≤ 281474976710656) (hlv : vs.length ≤ 281474976710656) (hx : rchk n xs ys = 0) (hy : rchk m us vs = 0) :
    Calls Tryz.prog 11 #[.agg #[.bool n, .slice a xs.length ca, .slice b ys.length cb], .agg #[.bool m, .slice c us.length cc, .slice d vs.length cd]] w (RTold w 0 (rq n xs ys * rq m us vs)) := by
  obtain ⟨lx, ly, tx, ty, yp, _, _⟩ := rchk_ok hx
  obtain ⟨lu, lv, tu, tv, vp, _, _⟩ := rchk_ok hy
  have wx := sx.wd
  have wy := sy.wd
  have wu := su.wd
  have wv := sv.wd
  have HB : Hid (Below w.heap.size w (((w.alloc (.cells #[.bool n, .slice a xs.length ca, .slice b ys.length cb] 24)).alloc (.cells #[.bool m, .slice c us.length cc, .slice d vs.length cd] 24)).alloc (.cells #[.bool false, .slice none 0 0, .slice none 0 0] 24))) := bt (bt (alloc_later _ _) (alloc_later _ _)) (alloc_later _ _)
  have HZ : Hid (Box (((w.alloc (.cells #[.bool n, .slice a xs.length ca, .slice b ys.length cb] 24)).alloc (.cells #[.bool m, .slice c us.length cc, .slice d vs.length cd] 24)).alloc (.cells #[.bool false, .slice none 0 0, .slice none 0 0] 24)) (w.heap.size + 1 + 1) 24 #[.bool false, .slice none 0 0, .slice none 0 0]) := by
    have e := Box.made ((w.alloc (.cells #[.bool n, .slice a xs.length ca, .slice b ys.length cb] 24)).alloc (.cells #[.bool m, .slice c us.length cc, .slice d vs.length cd] 24)) 24 #[.bool false, .slice none 0 0, .slice none 0 0]
    simp at e
    exact e
  have HN : Hid (Box (((w.alloc (.cells #[.bool n, .slice a xs.length ca, .slice b ys.length cb] 24)).alloc (.cells #[.bool m, .slice c us.length cc, .slice d vs.length cd] 24)).alloc (.cells #[.bool false, .slice none 0 0, .slice none 0 0] 24)) w.heap.size 24 #[.bool n, .slice a xs.length ca, .slice b ys.length cb]) := Box.later (Box.made w _ _) (bt (alloc_later _ _) (alloc_later _ _)) (by simp)
  have HM : Hid (Box (((w.alloc (.cells #[.bool n, .slice a xs.length ca, .slice b ys.length cb] 24)).alloc (.cells #[.bool m, .slice c us.length cc, .slice d vs.length cd] 24)).alloc (.cells #[.bool false, .slice none 0 0, .slice none 0 0] 24)) (w.heap.size + 1) 24 #[.bool m, .slice c us.length cc, .slice d vs.length cd]) := by
    have e := Box.later (Box.made (w.alloc (.cells #[.bool n, .slice a xs.length ca, .slice b ys.length cb] 24)) 24 #[.bool m, .slice c us.length cc, .slice d vs.length cd]) (alloc_later ((w.alloc (.cells #[.bool n, .slice a xs.length ca, .slice b ys.length cb] 24)).alloc (.cells #[.bool m, .slice c us.length cc, .slice d vs.length cd] 24)) (.cells #[.bool false, .slice none 0 0, .slice none 0 0] 24)) (by simp)
    simp at e
    exact e
  have HXS : Hid (w.heap.size + 1 + 1 < (((w.alloc (.cells #[.bool n, .slice a xs.length ca, .slice b ys.length cb] 24)).alloc (.cells #[.bool m, .slice c us.length cc, .slice d vs.length cd] 24)).alloc (.cells #[.bool false, .slice none 0 0, .slice none 0 0] 24)).heap.size) := HZ.out.lt
  have HSL := hid (And.intro (sx.later HB.out) (And.intro (sy.later HB.out) (And.intro (su.later HB.out) (sv.later HB.out))))
  have HTT := hid (And.intro tx (And.intro ty (And.intro tu tv)))
  have HC := hid (both3_any n _ _ xs _ _ ys m _ _ us _ _ vs (((w.alloc (.cells #[.bool n, .slice a xs.length ca, .slice b ys.length cb] 24)).alloc (.cells #[.bool m, .slice c us.length cc, .slice d vs.length cd] 24)).alloc (.cells #[.bool false, .slice none 0 0, .slice none 0 0] 24)) HSL.out.1 HSL.out.2.1 HSL.out.2.2.1 HSL.out.2.2.2 hlx hly hlu hlv)
  rw [rboth_good hx hy] at HC
  have HPL : Hid (val xs * val us < 4294967296 ^ 4096 ∧ val ys * val vs < 4294967296 ^ 4096) := ⟨mul_4096 (val_nonneg wx) (below2048 wx lx) (val_nonneg wu) (below2048 wu lu), mul_4096 (val_nonneg wy) (below2048 wy ly) (val_nonneg wv) (below2048 wv lv)⟩
  have HPOS : Hid (0 < val ys * val vs) := Int.mul_pos (val_pos' wy ty yp) (val_pos' wv tv vp)
  obtain ⟨s, hs⟩ : ∃ s, (!(n == m)) = s := ⟨_, rfl⟩
  have HSG := hid (show (n != m) = s from hs)
  have HQ : Hid (Rat.divInt (sg s (val xs * val us)) (val ys * val vs) = rq n xs ys * rq m us vs) := by
    show _ = _
    rw [← HSG.out]
    exact mul_q
  clear sx sy su sv tx ty tu tv wx wy wu wv hx hy yp vp
  go_enter Tryz.func11, Tryz.ntmps11
  go_wp2_with fail
  refine Calls.mono HC.out ?_
  generalize (((w.alloc (.cells #[.bool n, .slice a xs.length ca, .slice b ys.length cb] 24)).alloc (.cells #[.bool m, .slice c us.length cc, .slice d vs.length cd] 24)).alloc (.cells #[.bool false, .slice none 0 0, .slice none 0 0] 24)) = X at *
  rintro e w1 ⟨rfl, hb1⟩
  have HB1 := hid hb1
  clear hb1 HC
  have HK : Hid (∀ V, Below X.heap.size X V → V.cell? ⟨w.heap.size, 0, none⟩ = some (.bool n) ∧ V.cell? ⟨w.heap.size, 1, none⟩ = some (.slice a xs.length ca) ∧ V.cell? ⟨w.heap.size, 2, none⟩ = some (.slice b ys.length cb) ∧ V.cell? ⟨w.heap.size + 1, 0, none⟩ = some (.bool m) ∧ V.cell? ⟨w.heap.size + 1, 1, none⟩ = some (.slice c us.length cc) ∧ V.cell? ⟨w.heap.size + 1, 2, none⟩ = some (.slice d vs.length cd)) := fun V hb => by
    obtain ⟨p0, p1, p2, _⟩ := res_box3 HN.out hb
    obtain ⟨q0, q1, q2, _⟩ := res_box3 HM.out hb
    exact ⟨p0, p1, p2, q0, q1, q2⟩
  have hs0 := HK.out _ HB1.out.drew
  have HBR := hid HB1.out.drew
  have H1 := hid (fun ww (hv : Below X.heap.size X ww) => told1_in _ HK.out ww hv (times3_any _ _ xs us ww (HSL.out.1.later hv) (HSL.out.2.2.1.later hv) (by omega) HTT.out.1 HTT.out.2.2.1))
  have H2 := hid (fun ww (hv : Below X.heap.size X ww) => told1_in _ HK.out ww hv (times3_any _ _ ys vs ww (HSL.out.2.1.later hv) (HSL.out.2.2.2.later hv) (by omega) HTT.out.2.1 HTT.out.2.2.2))
  have H3 : Hid (∀ ww, Below X.heap.size X ww → ∀ a4 z4 c4 a5 z5 c5, One X ww (.slice a4 (List.length z4) c4) z4 (val xs * val us) → One X ww (.slice a5 (List.length z5) c5) z5 (val ys * val vs) → Calls Tryz.prog 37 #[.bool s, .slice a4 z4.length c4, .slice a5 z5.length c5] ww fun e w' => ∃ k a8 z8 c8 a9 z9 c9 code, e = .returned (.tuple #[.agg #[.bool k, .slice a8 (List.length z8) c8, .slice a9 (List.length z9) c9], .int .i64 code]) ∧ Hid (w'.ownsRow X.heap.size 60 1 (.slice a8 (List.length z8) c8) z8.length (z8.map (Value.int .u32)) ∧ w'.ownsRow X.heap.size 60 1 (.slice a9 (List.length z9) c9) z9.length (z9.map (Value.int .u32)) ∧ RTells 0 (rq n xs ys * rq m us vs) k z8 z9 code) ∧ (w'.cell? ⟨w.heap.size, 0, none⟩ = some (.bool n) ∧ w'.cell? ⟨w.heap.size, 1, none⟩ = some (.slice a xs.length ca) ∧ w'.cell? ⟨w.heap.size, 2, none⟩ = some (.slice b ys.length cb) ∧ w'.cell? ⟨w.heap.size + 1, 0, none⟩ = some (.bool m) ∧ w'.cell? ⟨w.heap.size + 1, 1, none⟩ = some (.slice c us.length cc) ∧ w'.cell? ⟨w.heap.size + 1, 2, none⟩ = some (.slice d vs.length cd)) ∧ Below X.heap.size X w') := fun ww hv a4 z4 c4 a5 z5 c5 h4 h5 => by
    have e := of3_any s a4 c4 z4 a5 c5 z5 ww h4.sl h5.sl (by have := own_len h4 HPL.out.1; omega) (by have := own_len h5 HPL.out.2; omega) h4.2.2.1 h5.2.2.1 (own_pos h5 HPOS.out)
    rw [h4.2.2.2, h5.2.2.2, HQ.out] at e
    refine Calls.mono e ?_
    rintro e w' ⟨k, v, zs, u, ds, code, rfl, o1, o2, t, hb⟩
    obtain ⟨a8, c8, hs⟩ := own_slice' o1
    subst hs
    obtain ⟨a9, c9, hs⟩ := own_slice' o2
    subst hs
    exact ⟨k, a8, zs, c8, a9, ds, c9, code, rfl, ⟨owns_base o1 hv.size, owns_base o2 hv.size, t⟩, HK.out w' (bt hv hb), bt hv hb⟩
  have hq0 : w.heap.size + 1 + 1 ≠ w.heap.size := by omega
  have hq1 : w.heap.size + 1 + 1 ≠ w.heap.size + 1 := by omega
  obtain ⟨p0, p1, p2, q0, q1, q2⟩ := HK.out w1 HB1.out
  go_wp2_with fail
  clear p0 p1 p2 q0 q1 q2
  go_region_held3 (fun V : World => V.cell? ⟨w.heap.size, 0, none⟩ = some (.bool n) ∧ V.cell? ⟨w.heap.size, 1, none⟩ = some (.slice a xs.length ca) ∧ V.cell? ⟨w.heap.size, 2, none⟩ = some (.slice b ys.length cb) ∧ V.cell? ⟨w.heap.size + 1, 0, none⟩ = some (.bool m) ∧ V.cell? ⟨w.heap.size + 1, 1, none⟩ = some (.slice c us.length cc) ∧ V.cell? ⟨w.heap.size + 1, 2, none⟩ = some (.slice d vs.length cd)) (first | exact hs9 | exact hs5 | exact hs4 | exact hs0 | (simp [hs9, World.cell?_setCell_far, hq0]))
    (first
      | (go_at_call 37; with_reducible refine Calls.mono (H3.out _ hb5 _ _ _ _ _ _ (HE4.out.1.later HS5.out) HE5.out.1) ?_; rintro e w9 ⟨k9, a8, z8, c8, a9, z9, c9, code, rfl, HE9, hs9, hb9⟩; obtain ⟨y0, y1, y2, f0, f1, f2⟩ := res_box3 HZ.out hb9)
      | (go_at_call 38; with_reducible refine Calls.mono (H2.out _ hb4) ?_; rintro e w5 ⟨a5, z5, c5, rfl, HE5, hs5, hb5, HS5⟩)
      | (go_at_call 38; with_reducible refine Calls.mono (H1.out _ HBR.out) ?_; rintro e w4 ⟨a4, z4, c4, rfl, HE4, hs4, hb4, HS4⟩))
  all_goals
    have HBW := hid (bt HB.out hb9)
    have HR := hid HE9.out
    clear HK H1 H2 H3 HE4 HE5 HE9 HS4 HS5 hs0 hs4 hs5 hs9 hb4 hb5 hb9 HBR HSG
    go_wp2_with fail
    refine bodyPost_ret (v := .tuple #[.agg #[.bool k9, .slice a8 z8.length c8, .slice a9 z9.length c9], .int .i64 code]) (by simp [results, Tryz.results11, go_sem, y0, y1, y2]) rfl ?_
    exact RTold.put HR.out (w.heap.size + 1 + 1) HXS.out (by omega) HBW.out _ _ _

theorem dMul_full (n : Bool) (a : Option Addr) (ca : Nat) (xs : List Int) (b : Option Addr) (cb : Nat) (ys : List Int) (m : Bool) (c : Option Addr) (cc : Nat) (us : List Int) (d : Option Addr) (cd : Nat) (vs : List Int) (w : World) (sx : Sl w (.slice a xs.length ca) xs) (sy : Sl w (.slice b ys.length cb) ys) (su : Sl w (.slice c us.length cc) us) (sv : Sl w (.slice d vs.length cd) vs) (hlx : xs.length ≤ 281474976710656) (hly : ys.length ≤ 281474976710656) (hlu : us.length ≤ 281474976710656) (hlv : vs.length ≤ 281474976710656) :
    Calls Tryz.prog 11 #[.agg #[.bool n, .slice a xs.length ca, .slice b ys.length cb], .agg #[.bool m, .slice c us.length cc, .slice d vs.length cd]] w (RTold w (rboth n xs ys m us vs) (rq n xs ys * rq m us vs)) := by
  by_cases he : rboth n xs ys m us vs = 0
  · rw [he]
    exact dMul_ok n a ca xs b cb ys m c cc us d cd vs w sx sy su sv hlx hly hlu hlv (rboth_ok he).1 (rboth_ok he).2
  · exact dMul_err n a ca xs b cb ys m c cc us d cd vs w sx sy su sv hlx hly hlu hlv he _


set_option maxHeartbeats 3200000 in
set_option maxRecDepth 100000 in
theorem dQuo_err (n : Bool) (a : Option Addr) (ca : Nat) (xs : List Int) (b : Option Addr) (cb : Nat) (ys : List Int) (m : Bool) (c : Option Addr) (cc : Nat) (us : List Int) (d : Option Addr) (cd : Nat) (vs : List Int) (w : World) (sx : Sl w (.slice a xs.length ca) xs) (sy : Sl w (.slice b ys.length cb) ys) (su : Sl w (.slice c us.length cc) us) (sv : Sl w (.slice d vs.length cd) vs) (hlx : xs.length ≤ 281474976710656) (hly : ys.length ≤ 281474976710656) (hlu : us.length ≤ 281474976710656) (hlv : vs.length ≤ 281474976710656) (he : rboth n xs ys m us vs ≠ 0) (q : Rat) :
    Calls Tryz.prog 13 #[.agg #[.bool n, .slice a xs.length ca, .slice b ys.length cb], .agg #[.bool m, .slice c us.length cc, .slice d vs.length cd]] w (RTold w (rboth n xs ys m us vs) q) := by
  have HB : Hid (Below w.heap.size w (((w.alloc (.cells #[.bool n, .slice a xs.length ca, .slice b ys.length cb] 24)).alloc (.cells #[.bool m, .slice c us.length cc, .slice d vs.length cd] 24)).alloc (.cells #[.bool false, .slice none 0 0, .slice none 0 0] 24))) := bt (bt (alloc_later _ _) (alloc_later _ _)) (alloc_later _ _)
  have HZ : Hid (Box (((w.alloc (.cells #[.bool n, .slice a xs.length ca, .slice b ys.length cb] 24)).alloc (.cells #[.bool m, .slice c us.length cc, .slice d vs.length cd] 24)).alloc (.cells #[.bool false, .slice none 0 0, .slice none 0 0] 24)) (w.heap.size + 1 + 1) 24 #[.bool false, .slice none 0 0, .slice none 0 0]) := by
    have e := Box.made ((w.alloc (.cells #[.bool n, .slice a xs.length ca, .slice b ys.length cb] 24)).alloc (.cells #[.bool m, .slice c us.length cc, .slice d vs.length cd] 24)) 24 #[.bool false, .slice none 0 0, .slice none 0 0]
    simp at e
    exact e
  have HN : Hid (Box (((w.alloc (.cells #[.bool n, .slice a xs.length ca, .slice b ys.length cb] 24)).alloc (.cells #[.bool m, .slice c us.length cc, .slice d vs.length cd] 24)).alloc (.cells #[.bool false, .slice none 0 0, .slice none 0 0] 24)) w.heap.size 24 #[.bool n, .slice a xs.length ca, .slice b ys.length cb]) := Box.later (Box.made w _ _) (bt (alloc_later _ _) (alloc_later _ _)) (by simp)
  have HM : Hid (Box (((w.alloc (.cells #[.bool n, .slice a xs.length ca, .slice b ys.length cb] 24)).alloc (.cells #[.bool m, .slice c us.length cc, .slice d vs.length cd] 24)).alloc (.cells #[.bool false, .slice none 0 0, .slice none 0 0] 24)) (w.heap.size + 1) 24 #[.bool m, .slice c us.length cc, .slice d vs.length cd]) := by
    have e := Box.later (Box.made (w.alloc (.cells #[.bool n, .slice a xs.length ca, .slice b ys.length cb] 24)) 24 #[.bool m, .slice c us.length cc, .slice d vs.length cd]) (alloc_later ((w.alloc (.cells #[.bool n, .slice a xs.length ca, .slice b ys.length cb] 24)).alloc (.cells #[.bool m, .slice c us.length cc, .slice d vs.length cd] 24)) (.cells #[.bool false, .slice none 0 0, .slice none 0 0] 24)) (by simp)
    simp at e
    exact e
  have HXS : Hid (w.heap.size + 1 + 1 < (((w.alloc (.cells #[.bool n, .slice a xs.length ca, .slice b ys.length cb] 24)).alloc (.cells #[.bool m, .slice c us.length cc, .slice d vs.length cd] 24)).alloc (.cells #[.bool false, .slice none 0 0, .slice none 0 0] 24)).heap.size) := HZ.out.lt
  have HSL := hid (And.intro (sx.later HB.out) (And.intro (sy.later HB.out) (And.intro (su.later HB.out) (sv.later HB.out))))
  have HC := hid (both3_any n _ _ xs _ _ ys m _ _ us _ _ vs (((w.alloc (.cells #[.bool n, .slice a xs.length ca, .slice b ys.length cb] 24)).alloc (.cells #[.bool m, .slice c us.length cc, .slice d vs.length cd] 24)).alloc (.cells #[.bool false, .slice none 0 0, .slice none 0 0] 24)) HSL.out.1 HSL.out.2.1 HSL.out.2.2.1 HSL.out.2.2.2 hlx hly hlu hlv)
  obtain ⟨E, hE⟩ : ∃ E, rboth n xs ys m us vs = E := ⟨_, rfl⟩
  rw [hE] at HC he ⊢
  have he' : (E == 0) = false := beq_eq_false_iff_ne.2 he
  have HE := hid he
  clear he hE sx sy su sv
  go_enter Tryz.func13, Tryz.ntmps13
  go_wp2_with fail
  refine Calls.mono HC.out ?_
  generalize (((w.alloc (.cells #[.bool n, .slice a xs.length ca, .slice b ys.length cb] 24)).alloc (.cells #[.bool m, .slice c us.length cc, .slice d vs.length cd] 24)).alloc (.cells #[.bool false, .slice none 0 0, .slice none 0 0] 24)) = X at *
  rintro e w1 ⟨rfl, hb1⟩
  obtain ⟨y0, y1, y2, f0, f1, f2⟩ := res_box3 HZ.out hb1
  have HBN := hid (below_put3 (bt HB.out hb1) (w.heap.size + 1 + 1) (by omega) (.bool false) (.slice none 0 0) (.slice none 0 0))
  clear hb1 HC HN HM HZ HSL
  go_wp2_with fail
  refine bodyPost_ret (v := .tuple #[.agg #[.bool false, .slice none 0 0, .slice none 0 0], .int .i64 E]) (by simp [results, Tryz.results13, go_sem, y0, y1, y2]) rfl ?_
  exact ⟨false, _, [], _, [], _, rfl, World.ownsRow_nil _ _ _ _, World.ownsRow_nil _ _ _ _, RTells.err HE.out, HBN.out⟩


set_option maxHeartbeats 3200000 in
set_option maxRecDepth 100000 in
theorem dQuo_z (n : Bool) (a : Option Addr) (ca : Nat) (xs : List Int) (b : Option Addr) (cb : Nat) (ys : List Int) (m : Bool) (c : Option Addr) (cc : Nat) (us : List Int) (d : Option Addr) (cd : Nat) (vs : List Int) (w : World) (sx : Sl w (.slice a xs.length ca) xs) (sy : Sl w (.slice b ys.length cb) ys) (su : Sl w (.slice c us.length cc) us) (sv : Sl w (.slice d vs.length cd) vs) (hlx : xs.length ≤ 281474976710656) (hly : ys.length ≤ 281474976710656) (hlu : us.length ≤ 281474976710656) (hlv : vs.length ≤ 281474976710656) (hx : rchk n xs ys = 0) (hy : rchk m us vs = 0) (h0 : us.length = 0) (q : Rat) :
    Calls Tryz.prog 13 #[.agg #[.bool n, .slice a xs.length ca, .slice b ys.length cb], .agg #[.bool m, .slice c us.length cc, .slice d vs.length cd]] w (RTold w 7 q) := by
  have HB : Hid (Below w.heap.size w (((w.alloc (.cells #[.bool n, .slice a xs.length ca, .slice b ys.length cb] 24)).alloc (.cells #[.bool m, .slice c us.length cc, .slice d vs.length cd] 24)).alloc (.cells #[.bool false, .slice none 0 0, .slice none 0 0] 24))) := bt (bt (alloc_later _ _) (alloc_later _ _)) (alloc_later _ _)
  have HZ : Hid (Box (((w.alloc (.cells #[.bool n, .slice a xs.length ca, .slice b ys.length cb] 24)).alloc (.cells #[.bool m, .slice c us.length cc, .slice d vs.length cd] 24)).alloc (.cells #[.bool false, .slice none 0 0, .slice none 0 0] 24)) (w.heap.size + 1 + 1) 24 #[.bool false, .slice none 0 0, .slice none 0 0]) := by
    have e := Box.made ((w.alloc (.cells #[.bool n, .slice a xs.length ca, .slice b ys.length cb] 24)).alloc (.cells #[.bool m, .slice c us.length cc, .slice d vs.length cd] 24)) 24 #[.bool false, .slice none 0 0, .slice none 0 0]
    simp at e
    exact e
  have HN : Hid (Box (((w.alloc (.cells #[.bool n, .slice a xs.length ca, .slice b ys.length cb] 24)).alloc (.cells #[.bool m, .slice c us.length cc, .slice d vs.length cd] 24)).alloc (.cells #[.bool false, .slice none 0 0, .slice none 0 0] 24)) w.heap.size 24 #[.bool n, .slice a xs.length ca, .slice b ys.length cb]) := Box.later (Box.made w _ _) (bt (alloc_later _ _) (alloc_later _ _)) (by simp)
  have HM : Hid (Box (((w.alloc (.cells #[.bool n, .slice a xs.length ca, .slice b ys.length cb] 24)).alloc (.cells #[.bool m, .slice c us.length cc, .slice d vs.length cd] 24)).alloc (.cells #[.bool false, .slice none 0 0, .slice none 0 0] 24)) (w.heap.size + 1) 24 #[.bool m, .slice c us.length cc, .slice d vs.length cd]) := by
    have e := Box.later (Box.made (w.alloc (.cells #[.bool n, .slice a xs.length ca, .slice b ys.length cb] 24)) 24 #[.bool m, .slice c us.length cc, .slice d vs.length cd]) (alloc_later ((w.alloc (.cells #[.bool n, .slice a xs.length ca, .slice b ys.length cb] 24)).alloc (.cells #[.bool m, .slice c us.length cc, .slice d vs.length cd] 24)) (.cells #[.bool false, .slice none 0 0, .slice none 0 0] 24)) (by simp)
    simp at e
    exact e
  have HXS : Hid (w.heap.size + 1 + 1 < (((w.alloc (.cells #[.bool n, .slice a xs.length ca, .slice b ys.length cb] 24)).alloc (.cells #[.bool m, .slice c us.length cc, .slice d vs.length cd] 24)).alloc (.cells #[.bool false, .slice none 0 0, .slice none 0 0] 24)).heap.size) := HZ.out.lt
  have HSL := hid (And.intro (sx.later HB.out) (And.intro (sy.later HB.out) (And.intro (su.later HB.out) (sv.later HB.out))))
  have HC := hid (both3_any n _ _ xs _ _ ys m _ _ us _ _ vs (((w.alloc (.cells #[.bool n, .slice a xs.length ca, .slice b ys.length cb] 24)).alloc (.cells #[.bool m, .slice c us.length cc, .slice d vs.length cd] 24)).alloc (.cells #[.bool false, .slice none 0 0, .slice none 0 0] 24)) HSL.out.1 HSL.out.2.1 HSL.out.2.2.1 HSL.out.2.2.2 hlx hly hlu hlv)
  rw [rboth_good hx hy] at HC
  have HE : Hid ((7 : Int) ≠ 0) := by show _ ≠ _; omega
  have h0' : ((us.length : Int) == 0) = true := by rw [h0]; rfl
  clear h0 hx hy sx sy su sv
  go_enter Tryz.func13, Tryz.ntmps13
  go_wp2_with fail
  refine Calls.mono HC.out ?_
  generalize (((w.alloc (.cells #[.bool n, .slice a xs.length ca, .slice b ys.length cb] 24)).alloc (.cells #[.bool m, .slice c us.length cc, .slice d vs.length cd] 24)).alloc (.cells #[.bool false, .slice none 0 0, .slice none 0 0] 24)) = X at *
  rintro e w1 ⟨rfl, hb1⟩
  obtain ⟨q0, q1, q2, _⟩ := res_box3 HM.out hb1
  obtain ⟨y0, y1, y2, f0, f1, f2⟩ := res_box3 HZ.out hb1
  have HBN := hid (below_put3 (bt HB.out hb1) (w.heap.size + 1 + 1) (by omega) (.bool false) (.slice none 0 0) (.slice none 0 0))
  clear hb1 HC HN HM HZ HSL
  go_wp2_with fail
  refine bodyPost_ret (v := .tuple #[.agg #[.bool false, .slice none 0 0, .slice none 0 0], .int .i64 7]) (by simp [results, Tryz.results13, go_sem, y0, y1, y2]) rfl ?_
  exact ⟨false, _, [], _, [], _, rfl, World.ownsRow_nil _ _ _ _, World.ownsRow_nil _ _ _ _, RTells.err HE.out, HBN.out⟩


set_option maxHeartbeats 6400000 in
set_option maxRecDepth 100000 in
theorem dQuo_ok (n : Bool) (a : Option Addr) (ca : Nat) (xs : List Int) (b : Option Addr) (cb : Nat) (ys : List Int) (m : Bool) (c : Option Addr) (cc : Nat) (us : List Int) (d : Option Addr) (cd : Nat) (vs : List Int) (w : World) (sx : Sl w (.slice a xs.length ca) xs) (sy : Sl w (.slice b ys.length cb) ys) (su : Sl w (.slice c us.length cc) us) (sv : Sl w (.slice d vs.length cd) vs) (hlx : xs.length ≤ 281474976710656) (hly : ys.length ≤ 281474976710656) (hlu : us.length ≤ 281474976710656) (hlv : vs.length ≤ 281474976710656) (hx : rchk n xs ys = 0) (hy : rchk m us vs = 0) (h0 : 0 < us.length) :
    Calls Tryz.prog 13 #[.agg #[.bool n, .slice a xs.length ca, .slice b ys.length cb], .agg #[.bool m, .slice c us.length cc, .slice d vs.length cd]] w (RTold w 0 (rq n xs ys / rq m us vs)) := by
  obtain ⟨lx, ly, tx, ty, yp, _, _⟩ := rchk_ok hx
  obtain ⟨lu, lv, tu, tv, vp, _, _⟩ := rchk_ok hy
  have wx := sx.wd
  have wy := sy.wd
  have wu := su.wd
  have wv := sv.wd
  have HB : Hid (Below w.heap.size w (((w.alloc (.cells #[.bool n, .slice a xs.length ca, .slice b ys.length cb] 24)).alloc (.cells #[.bool m, .slice c us.length cc, .slice d vs.length cd] 24)).alloc (.cells #[.bool false, .slice none 0 0, .slice none 0 0] 24))) := bt (bt (alloc_later _ _) (alloc_later _ _)) (alloc_later _ _)
  have HZ : Hid (Box (((w.alloc (.cells #[.bool n, .slice a xs.length ca, .slice b ys.length cb] 24)).alloc (.cells #[.bool m, .slice c us.length cc, .slice d vs.length cd] 24)).alloc (.cells #[.bool false, .slice none 0 0, .slice none 0 0] 24)) (w.heap.size + 1 + 1) 24 #[.bool false, .slice none 0 0, .slice none 0 0]) := by
    have e := Box.made ((w.alloc (.cells #[.bool n, .slice a xs.length ca, .slice b ys.length cb] 24)).alloc (.cells #[.bool m, .slice c us.length cc, .slice d vs.length cd] 24)) 24 #[.bool false, .slice none 0 0, .slice none 0 0]
    simp at e
    exact e
  have HN : Hid (Box (((w.alloc (.cells #[.bool n, .slice a xs.length ca, .slice b ys.length cb] 24)).alloc (.cells #[.bool m, .slice c us.length cc, .slice d vs.length cd] 24)).alloc (.cells #[.bool false, .slice none 0 0, .slice none 0 0] 24)) w.heap.size 24 #[.bool n, .slice a xs.length ca, .slice b ys.length cb]) := Box.later (Box.made w _ _) (bt (alloc_later _ _) (alloc_later _ _)) (by simp)
  have HM : Hid (Box (((w.alloc (.cells #[.bool n, .slice a xs.length ca, .slice b ys.length cb] 24)).alloc (.cells #[.bool m, .slice c us.length cc, .slice d vs.length cd] 24)).alloc (.cells #[.bool false, .slice none 0 0, .slice none 0 0] 24)) (w.heap.size + 1) 24 #[.bool m, .slice c us.length cc, .slice d vs.length cd]) := by
    have e := Box.later (Box.made (w.alloc (.cells #[.bool n, .slice a xs.length ca, .slice b ys.length cb] 24)) 24 #[.bool m, .slice c us.length cc, .slice d vs.length cd]) (alloc_later ((w.alloc (.cells #[.bool n, .slice a xs.length ca, .slice b ys.length cb] 24)).alloc (.cells #[.bool m, .slice c us.length cc, .slice d vs.length cd] 24)) (.cells #[.bool false, .slice none 0 0, .slice none 0 0] 24)) (by simp)
    simp at e
    exact e
  have HXS : Hid (w.heap.size + 1 + 1 < (((w.alloc (.cells #[.bool n, .slice a xs.length ca, .slice b ys.length cb] 24)).alloc (.cells #[.bool m, .slice c us.length cc, .slice d vs.length cd] 24)).alloc (.cells #[.bool false, .slice none 0 0, .slice none 0 0] 24)).heap.size) := HZ.out.lt
  have HSL := hid (And.intro (sx.later HB.out) (And.intro (sy.later HB.out) (And.intro (su.later HB.out) (sv.later HB.out))))
  have HTT := hid (And.intro tx (And.intro ty (And.intro tu tv)))
  have HC := hid (both3_any n _ _ xs _ _ ys m _ _ us _ _ vs (((w.alloc (.cells #[.bool n, .slice a xs.length ca, .slice b ys.length cb] 24)).alloc (.cells #[.bool m, .slice c us.length cc, .slice d vs.length cd] 24)).alloc (.cells #[.bool false, .slice none 0 0, .slice none 0 0] 24)) HSL.out.1 HSL.out.2.1 HSL.out.2.2.1 HSL.out.2.2.2 hlx hly hlu hlv)
  rw [rboth_good hx hy] at HC
  have HPL : Hid (val xs * val vs < 4294967296 ^ 4096 ∧ val ys * val us < 4294967296 ^ 4096) := ⟨mul_4096 (val_nonneg wx) (below2048 wx lx) (val_nonneg wv) (below2048 wv lv), mul_4096 (val_nonneg wy) (below2048 wy ly) (val_nonneg wu) (below2048 wu lu)⟩
  have HPOS : Hid (0 < val ys * val us) := Int.mul_pos (val_pos' wy ty yp) (val_pos' wu tu h0)
  obtain ⟨s, hs⟩ : ∃ s, (!(n == m)) = s := ⟨_, rfl⟩
  have HSG := hid (show (n != m) = s from hs)
  have HQ : Hid (Rat.divInt (sg s (val xs * val vs)) (val ys * val us) = rq n xs ys / rq m us vs) := by
    show _ = _
    rw [← HSG.out]
    exact quo_q
  have h0' : ((us.length : Int) == 0) = false := beq_eq_false_iff_ne.2 (by omega)
  clear sx sy su sv tx ty tu tv wx wy wu wv hx hy yp vp
  go_enter Tryz.func13, Tryz.ntmps13
  go_wp2_with fail
  refine Calls.mono HC.out ?_
  generalize (((w.alloc (.cells #[.bool n, .slice a xs.length ca, .slice b ys.length cb] 24)).alloc (.cells #[.bool m, .slice c us.length cc, .slice d vs.length cd] 24)).alloc (.cells #[.bool false, .slice none 0 0, .slice none 0 0] 24)) = X at *
  rintro e w1 ⟨rfl, hb1⟩
  have HB1 := hid hb1
  clear hb1 HC
  have HK : Hid (∀ V, Below X.heap.size X V → V.cell? ⟨w.heap.size, 0, none⟩ = some (.bool n) ∧ V.cell? ⟨w.heap.size, 1, none⟩ = some (.slice a xs.length ca) ∧ V.cell? ⟨w.heap.size, 2, none⟩ = some (.slice b ys.length cb) ∧ V.cell? ⟨w.heap.size + 1, 0, none⟩ = some (.bool m) ∧ V.cell? ⟨w.heap.size + 1, 1, none⟩ = some (.slice c us.length cc) ∧ V.cell? ⟨w.heap.size + 1, 2, none⟩ = some (.slice d vs.length cd)) := fun V hb => by
    obtain ⟨p0, p1, p2, _⟩ := res_box3 HN.out hb
    obtain ⟨q0, q1, q2, _⟩ := res_box3 HM.out hb
    exact ⟨p0, p1, p2, q0, q1, q2⟩
  have hs0 := HK.out _ HB1.out.drew
  have HBR := hid HB1.out.drew
  have H1 := hid (fun ww (hv : Below X.heap.size X ww) => told1_in _ HK.out ww hv (times3_any _ _ xs vs ww (HSL.out.1.later hv) (HSL.out.2.2.2.later hv) (by omega) HTT.out.1 HTT.out.2.2.2))
  have H2 := hid (fun ww (hv : Below X.heap.size X ww) => told1_in _ HK.out ww hv (times3_any _ _ ys us ww (HSL.out.2.1.later hv) (HSL.out.2.2.1.later hv) (by omega) HTT.out.2.1 HTT.out.2.2.1))
  have H3 : Hid (∀ ww, Below X.heap.size X ww → ∀ a4 z4 c4 a5 z5 c5, One X ww (.slice a4 (List.length z4) c4) z4 (val xs * val vs) → One X ww (.slice a5 (List.length z5) c5) z5 (val ys * val us) → Calls Tryz.prog 37 #[.bool s, .slice a4 z4.length c4, .slice a5 z5.length c5] ww fun e w' => ∃ k a8 z8 c8 a9 z9 c9 code, e = .returned (.tuple #[.agg #[.bool k, .slice a8 (List.length z8) c8, .slice a9 (List.length z9) c9], .int .i64 code]) ∧ Hid (w'.ownsRow X.heap.size 60 1 (.slice a8 (List.length z8) c8) z8.length (z8.map (Value.int .u32)) ∧ w'.ownsRow X.heap.size 60 1 (.slice a9 (List.length z9) c9) z9.length (z9.map (Value.int .u32)) ∧ RTells 0 (rq n xs ys / rq m us vs) k z8 z9 code) ∧ (w'.cell? ⟨w.heap.size, 0, none⟩ = some (.bool n) ∧ w'.cell? ⟨w.heap.size, 1, none⟩ = some (.slice a xs.length ca) ∧ w'.cell? ⟨w.heap.size, 2, none⟩ = some (.slice b ys.length cb) ∧ w'.cell? ⟨w.heap.size + 1, 0, none⟩ = some (.bool m) ∧ w'.cell? ⟨w.heap.size + 1, 1, none⟩ = some (.slice c us.length cc) ∧ w'.cell? ⟨w.heap.size + 1, 2, none⟩ = some (.slice d vs.length cd)) ∧ Below X.heap.size X w') := fun ww hv a4 z4 c4 a5 z5 c5 h4 h5 => by
    have e := of3_any s a4 c4 z4 a5 c5 z5 ww h4.sl h5.sl (by have := own_len h4 HPL.out.1; omega) (by have := own_len h5 HPL.out.2; omega) h4.2.2.1 h5.2.2.1 (own_pos h5 HPOS.out)
    rw [h4.2.2.2, h5.2.2.2, HQ.out] at e
    refine Calls.mono e ?_
    rintro e w' ⟨k, v, zs, u, ds, code, rfl, o1, o2, t, hb⟩
    obtain ⟨a8, c8, hs⟩ := own_slice' o1
    subst hs
    obtain ⟨a9, c9, hs⟩ := own_slice' o2
    subst hs
    exact ⟨k, a8, zs, c8, a9, ds, c9, code, rfl, ⟨owns_base o1 hv.size, owns_base o2 hv.size, t⟩, HK.out w' (bt hv hb), bt hv hb⟩
  have hq0 : w.heap.size + 1 + 1 ≠ w.heap.size := by omega
  have hq1 : w.heap.size + 1 + 1 ≠ w.heap.size + 1 := by omega
  obtain ⟨p0, p1, p2, q0, q1, q2⟩ := HK.out w1 HB1.out
  go_wp2_with fail
  clear p0 p1 p2 q0 q1 q2
  go_region_held3 (fun V : World => V.cell? ⟨w.heap.size, 0, none⟩ = some (.bool n) ∧ V.cell? ⟨w.heap.size, 1, none⟩ = some (.slice a xs.length ca) ∧ V.cell? ⟨w.heap.size, 2, none⟩ = some (.slice b ys.length cb) ∧ V.cell? ⟨w.heap.size + 1, 0, none⟩ = some (.bool m) ∧ V.cell? ⟨w.heap.size + 1, 1, none⟩ = some (.slice c us.length cc) ∧ V.cell? ⟨w.heap.size + 1, 2, none⟩ = some (.slice d vs.length cd)) (first | exact hs9 | exact hs5 | exact hs4 | exact hs0 | (simp [hs9, World.cell?_setCell_far, hq0]))
    (first
      | (go_at_call 37; with_reducible refine Calls.mono (H3.out _ hb5 _ _ _ _ _ _ (HE4.out.1.later HS5.out) HE5.out.1) ?_; rintro e w9 ⟨k9, a8, z8, c8, a9, z9, c9, code, rfl, HE9, hs9, hb9⟩; obtain ⟨y0, y1, y2, f0, f1, f2⟩ := res_box3 HZ.out hb9)
      | (go_at_call 38; with_reducible refine Calls.mono (H2.out _ hb4) ?_; rintro e w5 ⟨a5, z5, c5, rfl, HE5, hs5, hb5, HS5⟩)
      | (go_at_call 38; with_reducible refine Calls.mono (H1.out _ HBR.out) ?_; rintro e w4 ⟨a4, z4, c4, rfl, HE4, hs4, hb4, HS4⟩))
  all_goals
    have HBW := hid (bt HB.out hb9)
    have HR := hid HE9.out
    clear HK H1 H2 H3 HE4 HE5 HE9 HS4 HS5 hs0 hs4 hs5 hs9 hb4 hb5 hb9 HBR HSG
    go_wp2_with fail
    refine bodyPost_ret (v := .tuple #[.agg #[.bool k9, .slice a8 z8.length c8, .slice a9 z9.length c9], .int .i64 code]) (by simp [results, Tryz.results13, go_sem, y0, y1, y2]) rfl ?_
    exact RTold.put HR.out (w.heap.size + 1 + 1) HXS.out (by omega) HBW.out _ _ _

theorem dQuo_full (n : Bool) (a : Option Addr) (ca : Nat) (xs : List Int) (b : Option Addr) (cb : Nat) (ys : List Int) (m : Bool) (c : Option Addr) (cc : Nat) (us : List Int) (d : Option Addr) (cd : Nat) (vs : List Int) (w : World) (sx : Sl w (.slice a xs.length ca) xs) (sy : Sl w (.slice b ys.length cb) ys) (su : Sl w (.slice c us.length cc) us) (sv : Sl w (.slice d vs.length cd) vs) (hlx : xs.length ≤ 281474976710656) (hly : ys.length ≤ 281474976710656) (hlu : us.length ≤ 281474976710656) (hlv : vs.length ≤ 281474976710656) :
    Calls Tryz.prog 13 #[.agg #[.bool n, .slice a xs.length ca, .slice b ys.length cb], .agg #[.bool m, .slice c us.length cc, .slice d vs.length cd]] w (RTold w (qErr n xs ys m us vs) (rq n xs ys / rq m us vs)) := by
  unfold qErr
  by_cases he : rboth n xs ys m us vs = 0
  · rw [if_pos he]
    by_cases h0 : us.length = 0
    · rw [if_pos h0]
      exact dQuo_z n a ca xs b cb ys m c cc us d cd vs w sx sy su sv hlx hly hlu hlv (rboth_ok he).1 (rboth_ok he).2 h0 _
    · rw [if_neg h0]
      exact dQuo_ok n a ca xs b cb ys m c cc us d cd vs w sx sy su sv hlx hly hlu hlv (rboth_ok he).1 (rboth_ok he).2 (by omega)
  · rw [if_neg he]
    exact dQuo_err n a ca xs b cb ys m c cc us d cd vs w sx sy su sv hlx hly hlu hlv he _
end Go.Proofs.YtpehpflgfkdiaaaGreat

/- Fractions: ratio.Neg, Sign: of any fraction, good or refused. -/
namespace Go.Proofs.YtpehpflgfkdiaaaGreat
open Go.RowKit
set_option linter.unusedVariables false

theorem trim1_any (v : Value) (xs : List Int) (w : World) (h : Sl w v xs) (hn : xs.length ≤ 1099511627776) : Calls Tryz.prog 40 #[v] w (Told1 w (val xs)) := by
  have wx := h.wd
  refine Calls.mono (trim_sl v xs w h hn) ?_
  rintro e w' ⟨v', rfl, o, hb⟩
  exact ⟨v', trimmed xs, rfl, owns_len o, wx.trimmed, Trimmed.trimmed _, val_trimmed xs, hb⟩
theorem rq_neg {n : Bool} {xs ys : List Int} : Rat.divInt (sg (!n) (val xs)) (val ys) = -(rq n xs ys) := by
  unfold rq
  rw [Rat.neg_divInt]
  congr 1
  cases n <;> simp [sg, wval]

set_option maxHeartbeats 3200000 in
set_option maxRecDepth 100000 in
theorem rNeg_err (n : Bool) (a : Option Addr) (ca : Nat) (xs : List Int) (b : Option Addr) (cb : Nat) (ys : List Int) (w : World) (sx : Sl w (.slice a xs.length ca) xs) (sy : Sl w (.slice b ys.length cb) ys) (he : rchk n xs ys ≠ 0) (q : Rat) :
    Calls Tryz.prog 14 #[.agg #[.bool n, .slice a xs.length ca, .slice b ys.length cb]] w (RToldA w (rchk n xs ys) q) := by
  have HB : Hid (Below w.heap.size w ((w.alloc (.cells #[.bool n, .slice a xs.length ca, .slice b ys.length cb] 24)).alloc (.cells #[.bool false, .slice none 0 0, .slice none 0 0] 24))) := bt (alloc_later _ _) (alloc_later _ _)
  have HZ : Hid (Box ((w.alloc (.cells #[.bool n, .slice a xs.length ca, .slice b ys.length cb] 24)).alloc (.cells #[.bool false, .slice none 0 0, .slice none 0 0] 24)) (w.heap.size + 1) 24 #[.bool false, .slice none 0 0, .slice none 0 0]) := by
    have e := Box.made (w.alloc (.cells #[.bool n, .slice a xs.length ca, .slice b ys.length cb] 24)) 24 #[.bool false, .slice none 0 0, .slice none 0 0]
    simp at e
    exact e
  have HC := hid (rcheck_any n _ xs _ ys ((w.alloc (.cells #[.bool n, .slice a xs.length ca, .slice b ys.length cb] 24)).alloc (.cells #[.bool false, .slice none 0 0, .slice none 0 0] 24)) (sx.later HB.out) (sy.later HB.out))
  obtain ⟨E, hE⟩ : ∃ E, rchk n xs ys = E := ⟨_, rfl⟩
  rw [hE] at HC he ⊢
  have he' : (E == 0) = false := beq_eq_false_iff_ne.2 he
  have HE := hid he
  clear he hE sx sy
  go_enter Tryz.func14, Tryz.ntmps14
  go_wp2_with fail
  refine Calls.mono HC.out ?_
  generalize ((w.alloc (.cells #[.bool n, .slice a xs.length ca, .slice b ys.length cb] 24)).alloc (.cells #[.bool false, .slice none 0 0, .slice none 0 0] 24)) = X at *
  rintro e w1 ⟨rfl, hb1⟩
  obtain ⟨y0, y1, y2, f0, f1, f2⟩ := res_box3 HZ.out hb1
  have HBN := hid (below_put3 (bt HB.out hb1) (w.heap.size + 1) (by omega) (.bool false) (.slice none 0 0) (.slice none 0 0))
  clear hb1 HC HZ
  go_wp2_with fail
  refine bodyPost_ret (v := .tuple #[.agg #[.bool false, .slice none 0 0, .slice none 0 0], .int .i64 E]) (by simp [results, Tryz.results14, go_sem, y0, y1, y2]) rfl ?_
  exact ⟨false, _, [], _, [], _, rfl, World.ownsRow_nil _ _ _ _, World.ownsRow_nil _ _ _ _, RTells.err HE.out, HBN.out, ⟨w.heap.size, Nat.le_refl _, HBN.out.size, fun g hg => by simp [Value.ownBlock] at hg, fun g hg => by simp [Value.ownBlock] at hg⟩⟩

set_option maxHeartbeats 3200000 in
set_option maxRecDepth 100000 in
theorem rNeg_ok (n : Bool) (a : Option Addr) (ca : Nat) (xs : List Int) (b : Option Addr) (cb : Nat) (ys : List Int) (w : World) (sx : Sl w (.slice a xs.length ca) xs) (sy : Sl w (.slice b ys.length cb) ys) (hx : rchk n xs ys = 0) :
    Calls Tryz.prog 14 #[.agg #[.bool n, .slice a xs.length ca, .slice b ys.length cb]] w (RToldA w 0 (-(rq n xs ys))) := by
  obtain ⟨lx, ly, tx, ty, y0', _, g1⟩ := rchk_ok hx
  have py := val_pos' sy.wd ty y0'
  have HB : Hid (Below w.heap.size w ((w.alloc (.cells #[.bool n, .slice a xs.length ca, .slice b ys.length cb] 24)).alloc (.cells #[.bool false, .slice none 0 0, .slice none 0 0] 24))) := bt (alloc_later _ _) (alloc_later _ _)
  have HZ : Hid (Box ((w.alloc (.cells #[.bool n, .slice a xs.length ca, .slice b ys.length cb] 24)).alloc (.cells #[.bool false, .slice none 0 0, .slice none 0 0] 24)) (w.heap.size + 1) 24 #[.bool false, .slice none 0 0, .slice none 0 0]) := by
    have e := Box.made (w.alloc (.cells #[.bool n, .slice a xs.length ca, .slice b ys.length cb] 24)) 24 #[.bool false, .slice none 0 0, .slice none 0 0]
    simp at e
    exact e
  have HN : Hid (Box ((w.alloc (.cells #[.bool n, .slice a xs.length ca, .slice b ys.length cb] 24)).alloc (.cells #[.bool false, .slice none 0 0, .slice none 0 0] 24)) w.heap.size 24 #[.bool n, .slice a xs.length ca, .slice b ys.length cb]) := Box.later (Box.made w _ _) (alloc_later _ _) (by simp)
  have HXS : Hid (w.heap.size + 1 < ((w.alloc (.cells #[.bool n, .slice a xs.length ca, .slice b ys.length cb] 24)).alloc (.cells #[.bool false, .slice none 0 0, .slice none 0 0] 24)).heap.size) := HZ.out.lt
  have HSL := hid (And.intro (sx.later HB.out) (sy.later HB.out))
  have HC := hid (rcheck_any n _ xs _ ys ((w.alloc (.cells #[.bool n, .slice a xs.length ca, .slice b ys.length cb] 24)).alloc (.cells #[.bool false, .slice none 0 0, .slice none 0 0] 24)) HSL.out.1 HSL.out.2)
  rw [hx] at HC
  have HP : Hid (0 < val ys ∧ gcdI (val xs) (val ys) = 1) := ⟨by omega, g1⟩
  clear sx sy hx tx ty g1 py
  go_enter Tryz.func14, Tryz.ntmps14
  go_wp2_with fail
  refine Calls.mono HC.out ?_
  generalize ((w.alloc (.cells #[.bool n, .slice a xs.length ca, .slice b ys.length cb] 24)).alloc (.cells #[.bool false, .slice none 0 0, .slice none 0 0] 24)) = X at *
  rintro e w1 ⟨rfl, hb1⟩
  have HB1 := hid hb1
  have hb1d : Below X.heap.size X w1.drew := hb1.drew
  have HK : Hid (∀ V, Below X.heap.size X V → V.cell? ⟨w.heap.size, 0, none⟩ = some (.bool n) ∧ V.cell? ⟨w.heap.size, 1, none⟩ = some (.slice a xs.length ca) ∧ V.cell? ⟨w.heap.size, 2, none⟩ = some (.slice b ys.length cb)) := fun V hb => by
    obtain ⟨p0, p1, p2, _⟩ := res_box3 HN.out hb
    exact ⟨p0, p1, p2⟩
  have hs0 := HK.out _ hb1d
  have H1 := hid (fun ww (hv : Below X.heap.size X ww) => told1_in _ HK.out ww hv (trim1_any _ xs ww (HSL.out.1.later hv) (by omega)))
  have H2 := hid (fun ww (hv : Below X.heap.size X ww) => told1_in _ HK.out ww hv (trim1_any _ ys ww (HSL.out.2.later hv) (by omega)))
  have HTL := hid (fun (ww : World) (hb : Below X.heap.size X ww) (a4 : Option Addr) (z4 : List Int) (c4 : Nat) (a5 : Option Addr) (z5 : List Int) (c5 : Nat) (g1 : One X ww (.slice a4 z4.length c4) z4 (val xs)) (g2 : One X ww (.slice a5 z5.length c5) z5 (val ys)) (hc : Cut X (.slice a4 z4.length c4) (.slice a5 z5.length c5) ww) => rtold_cut (n := !n) (q := -(rq n xs ys)) _ HK.out hb g1 g2 hc HP.out.1 HP.out.2 rq_neg)
  have hq0 : w.heap.size + 1 ≠ w.heap.size := by omega
  clear hb1 HC
  go_wp2_with fail
  go_region_held3 (fun V : World => V.cell? ⟨w.heap.size, 0, none⟩ = some (.bool n) ∧ V.cell? ⟨w.heap.size, 1, none⟩ = some (.slice a xs.length ca) ∧ V.cell? ⟨w.heap.size, 2, none⟩ = some (.slice b ys.length cb)) (first | exact hs9 | exact hs5 | exact hs4 | exact hs0 | (simp [hs9, World.cell?_setCell_far]))
    (first
      | (go_at_call 39; with_reducible refine Calls.mono (HTL.out _ hb5 _ _ _ _ _ _ (HE4.out.1.later HS5.out) HE5.out.1 (cut_two hb1d.size HS4.out.size HS5.out.size HE4.out.2 HE5.out.2)) ?_; rintro e w9 ⟨k9, a8, z8, c8, a9, z9, c9, code, rfl, HE9, hs9, hb9⟩; obtain ⟨y0, y1, y2, f0, f1, f2⟩ := res_box3 HZ.out hb9)
      | (go_at_call 40; with_reducible refine Calls.mono (H2.out _ hb4) ?_; rintro e w5 ⟨a5, z5, c5, rfl, HE5, hs5, hb5, HS5⟩)
      | (go_at_call 40; with_reducible refine Calls.mono (H1.out _ hb1d) ?_; rintro e w4 ⟨a4, z4, c4, rfl, HE4, hs4, hb4, HS4⟩))
  all_goals
    have HBW := hid (bt HB.out hb9)
    have HR := hid HE9.out
    clear HK H1 H2 HTL HE4 HE5 HE9 HS4 HS5 hs0 hs4 hs5 hs9 hb1d hb4 hb5 hb9 HP
    go_wp2_with fail
    refine bodyPost_ret (v := .tuple #[.agg #[.bool k9, .slice a8 z8.length c8, .slice a9 z9.length c9], .int .i64 code]) (by simp [results, Tryz.results14, go_sem, y0, y1, y2]) rfl ?_
    exact RToldA.put HR.out (w.heap.size + 1) HXS.out (by omega) HBW.out _ _ _
theorem rNeg_full (n : Bool) (a : Option Addr) (ca : Nat) (xs : List Int) (b : Option Addr) (cb : Nat) (ys : List Int) (w : World) (sx : Sl w (.slice a xs.length ca) xs) (sy : Sl w (.slice b ys.length cb) ys) :
    Calls Tryz.prog 14 #[.agg #[.bool n, .slice a xs.length ca, .slice b ys.length cb]] w (RToldA w (rchk n xs ys) (-(rq n xs ys))) := by
  by_cases he : rchk n xs ys = 0
  · rw [he]; exact rNeg_ok n a ca xs b cb ys w sx sy he
  · exact rNeg_err n a ca xs b cb ys w sx sy he _
end Go.Proofs.YtpehpflgfkdiaaaGreat

/- The document's own fractions: copied, opposite. -/
namespace Go.Proofs.YtpehpflgfkdiaaaGreat
open Go.RowKit
set_option linter.unusedVariables false

set_option maxHeartbeats 800000 in
set_option maxRecDepth 100000 in
theorem copied3_any (a : Option Addr) (n cap : Nat) (xs : List Int) (w : World) (h : Reads w w.heap.size a n cap xs) (hn : n ≤ 1099511627776) :
    Calls Tryz.prog 62 #[.slice a n cap] w fun e w' => ∃ v, e = .returned v ∧ w'.ownsRow w.heap.size 60 1 v n (xs.map (Value.int .u32)) ∧ Below w.heap.size w w' := by
  obtain ⟨i0, hi, hz0, hz1, hz2⟩ := info_parts Tryz.infoW
  have hl := h.1
  have HL : Hid (xs.length = n) := hl
  have hown : w.ownsRow w.heap.size 60 1 (.slice none 0 0) 0 [] := World.ownsRow_nil _ _ _ _
  have hbel : Below w.heap.size w w := Below.refl _ _
  cases a with
  | none =>
    have h0 : cap = 0 := h.2.2.2.2.2 rfl
    subst h0
    have h1 : n = 0 := by have := h.2.2.2.1; omega
    subst h1
    have hx : xs = [] := List.eq_nil_of_length_eq_zero hl
    subst hx
    clear h hl
    go_enter Tryz.func62, Tryz.ntmps62
    go_wp2_with (at_builtin; refine wpList_append_own_none rfl _ _ 22 rfl w.heap.size 60 i0 1 Tryz.underlying22 hi _ 0 [] rfl hown rfl ?_)
    go_ret
    exact ⟨_, rfl, hown, hbel⟩
  | some ad =>
    have hnews := copy_news (h.later hbel (Nat.le_refl _))
    have HN : Hid (∀ j v, (xs.map (Value.int .u32))[j]? = some v → w.cell? (ad.add j) = some v) := hnews
    have HLn : Hid ((xs.map (Value.int .u32)).length = n * 1) := by show _ = _; simp [hl]
    clear hnews h hl
    go_enter Tryz.func62, Tryz.ntmps62
    go_wp2_with (at_builtin; refine wpList_append_own _ rfl _ _ 22 rfl w.heap.size 60 i0 (.int .u32 0) 1 4 Tryz.underlying22 hi hz0 hz1 hz2 rfl (by decide) _ 0 [] rfl hown ad n cap (xs.map (Value.int .u32)) rfl HLn.out HN.out (ints_oneCell _ _) (by unfold maxLen; omega) (by omega) (by simp) ?_)
    intro v' w1 hown' hgrow _
    have hb2 : Below w.heap.size w w1 := hbel.grown hgrow (Nat.le_refl _) (fun k hk => by simp [Value.ownBlock] at hk)
    go_wp2
    go_ret
    exact ⟨_, rfl, hown', hb2⟩


theorem copied3_sl (v : Value) (xs : List Int) (w : World) (h : Sl w v xs) (hn : xs.length ≤ 1099511627776) :
    Calls Tryz.prog 62 #[v] w fun e w' => ∃ v', e = .returned v' ∧ w'.ownsRow w.heap.size 60 1 v' xs.length (xs.map (Value.int .u32)) ∧ Below w.heap.size w w' := by
  obtain ⟨a, cap, rfl, hr⟩ := h
  exact copied3_any a xs.length cap xs w hr hn

set_option maxHeartbeats 6400000 in
set_option maxRecDepth 100000 in
theorem opposite_p (a : Option Addr) (ca : Nat) (xs : List Int) (b : Option Addr) (cb : Nat) (ys : List Int) (w : World) (sx : Sl w (.slice a xs.length ca) xs) (sy : Sl w (.slice b ys.length cb) ys) (lx : xs.length ≤ 1099511627776) (ly : ys.length ≤ 1099511627776)  :
    Calls Tryz.prog 35 #[.agg #[.bool false, .slice a xs.length ca, .slice b ys.length cb]] w fun e w' => ∃ g1 c1 g2 c2, e = .returned (.agg #[.bool (decide (0 < xs.length)), .slice g1 xs.length c1, .slice g2 ys.length c2]) ∧ w'.ownsRow w.heap.size 60 1 (.slice g1 xs.length c1) xs.length (xs.map (Value.int .u32)) ∧ w'.ownsRow w.heap.size 60 1 (.slice g2 ys.length c2) ys.length (ys.map (Value.int .u32)) ∧ Below w.heap.size w w' := by
  have HB : Hid (Below w.heap.size w ((w.alloc (.cells #[.bool false, .slice a xs.length ca, .slice b ys.length cb] 24)).alloc (.cells #[.bool false, .slice none 0 0, .slice none 0 0] 24))) := bt (alloc_later _ _) (alloc_later _ _)
  have HA : Hid (Box ((w.alloc (.cells #[.bool false, .slice a xs.length ca, .slice b ys.length cb] 24)).alloc (.cells #[.bool false, .slice none 0 0, .slice none 0 0] 24)) w.heap.size 24 #[.bool false, .slice a xs.length ca, .slice b ys.length cb]) := Box.later (Box.made w _ _) (alloc_later _ _) (by simp)
  have HZ : Hid (Box ((w.alloc (.cells #[.bool false, .slice a xs.length ca, .slice b ys.length cb] 24)).alloc (.cells #[.bool false, .slice none 0 0, .slice none 0 0] 24)) (w.heap.size + 1) 24 #[.bool false, .slice none 0 0, .slice none 0 0]) := by
    have e := Box.made (w.alloc (.cells #[.bool false, .slice a xs.length ca, .slice b ys.length cb] 24)) 24 #[.bool false, .slice none 0 0, .slice none 0 0]
    simp at e
    exact e
  have HS := hid (And.intro (sx.later HB.out) (sy.later HB.out))
  clear sx sy
  go_enter Tryz.func35, Tryz.ntmps35
  go_wp2_with fail
  generalize ((w.alloc (.cells #[.bool false, .slice a xs.length ca, .slice b ys.length cb] 24)).alloc (.cells #[.bool false, .slice none 0 0, .slice none 0 0] 24)) = X at *
  have HK : Hid (∀ V, Below X.heap.size X V → (V.cell? ⟨w.heap.size, 0, none⟩ = some (.bool false) ∧ V.cell? ⟨w.heap.size, 1, none⟩ = some (.slice a xs.length ca) ∧ V.cell? ⟨w.heap.size, 2, none⟩ = some (.slice b ys.length cb))) := fun V hb => by
    obtain ⟨p0, p1, p2, _, _, _⟩ := res_box3 HA.out hb
    exact ⟨p0, p1, p2⟩
  have hs0 := HK.out _ (Below.drew (Below.refl _ X))
  have HL1 : Hid (∀ V, Below X.heap.size X V → Calls Tryz.prog 62 #[.slice a xs.length ca] V fun e V' => ∃ g cap, e = .returned (.slice g xs.length cap) ∧ Hid (V'.ownsRow X.heap.size 60 1 (.slice g xs.length cap) xs.length (xs.map (Value.int .u32)) ∧ Below V.heap.size V V' ∧ Below X.heap.size X V') ∧ (V'.cell? ⟨w.heap.size, 0, none⟩ = some (.bool false) ∧ V'.cell? ⟨w.heap.size, 1, none⟩ = some (.slice a xs.length ca) ∧ V'.cell? ⟨w.heap.size, 2, none⟩ = some (.slice b ys.length cb)) ∧ V'.cell? ⟨w.heap.size + 1, 0, none⟩ = some (.bool false) ∧ V'.cell? ⟨w.heap.size + 1, 1, none⟩ = some (.slice none 0 0) ∧ V'.cell? ⟨w.heap.size + 1, 2, none⟩ = some (.slice none 0 0) ∧ V'.frozen? ⟨w.heap.size + 1, 0, none⟩ = false ∧ V'.frozen? ⟨w.heap.size + 1, 1, none⟩ = false ∧ V'.frozen? ⟨w.heap.size + 1, 2, none⟩ = false) := fun V hb => by
    refine Calls.mono (copied3_sl _ xs _ (HS.out.1.later hb) lx) ?_
    rintro e V' ⟨v1, rfl, o1, hb1⟩
    obtain ⟨g, cap, hv⟩ := own_slice' o1
    subst hv
    have hbX : Below X.heap.size X V' := bt hb hb1
    exact ⟨g, cap, rfl, ⟨owns_base o1 hb.size, hb1, hbX⟩, HK.out V' hbX, res_box3 HZ.out hbX⟩
  have HL2 : Hid (∀ V, Below X.heap.size X V → Calls Tryz.prog 62 #[.slice b ys.length cb] V fun e V' => ∃ g cap, e = .returned (.slice g ys.length cap) ∧ Hid (V'.ownsRow X.heap.size 60 1 (.slice g ys.length cap) ys.length (ys.map (Value.int .u32)) ∧ Below V.heap.size V V' ∧ Below X.heap.size X V') ∧ (V'.cell? ⟨w.heap.size, 0, none⟩ = some (.bool false) ∧ V'.cell? ⟨w.heap.size, 1, none⟩ = some (.slice a xs.length ca) ∧ V'.cell? ⟨w.heap.size, 2, none⟩ = some (.slice b ys.length cb)) ∧ V'.cell? ⟨w.heap.size + 1, 0, none⟩ = some (.bool false) ∧ V'.cell? ⟨w.heap.size + 1, 1, none⟩ = some (.slice none 0 0) ∧ V'.cell? ⟨w.heap.size + 1, 2, none⟩ = some (.slice none 0 0) ∧ V'.frozen? ⟨w.heap.size + 1, 0, none⟩ = false ∧ V'.frozen? ⟨w.heap.size + 1, 1, none⟩ = false ∧ V'.frozen? ⟨w.heap.size + 1, 2, none⟩ = false) := fun V hb => by
    refine Calls.mono (copied3_sl _ ys _ (HS.out.2.later hb) ly) ?_
    rintro e V' ⟨v1, rfl, o1, hb1⟩
    obtain ⟨g, cap, hv⟩ := own_slice' o1
    subst hv
    have hbX : Below X.heap.size X V' := bt hb hb1
    exact ⟨g, cap, rfl, ⟨owns_base o1 hb.size, hb1, hbX⟩, HK.out V' hbX, res_box3 HZ.out hbX⟩
  clear HS HA
  go_region_held3 (fun V : World => (V.cell? ⟨w.heap.size, 0, none⟩ = some (.bool false) ∧ V.cell? ⟨w.heap.size, 1, none⟩ = some (.slice a xs.length ca) ∧ V.cell? ⟨w.heap.size, 2, none⟩ = some (.slice b ys.length cb))) (first | exact hs2 | exact hs1 | exact hs0 | (simp [hs2, World.cell?_setCell_far]))
    (first
      | (go_at_call 62; with_reducible refine Calls.mono (HL2.out _ HE1.out.2.2) ?_; rintro e w2 ⟨g2, c2, rfl, HE2, hs2, r0, r1, r2, f0, f1, f2⟩)
      | (go_at_call 62; with_reducible refine Calls.mono (HL1.out _ (Below.drew (Below.refl _ X))) ?_; rintro e w1 ⟨g1, c1, rfl, HE1, hs1, y0, y1, y2, z0, z1, z2⟩))
  all_goals
    have HZ2 := hid (HZ.out.later HE2.out.2.2 HZ.out.lt)
    have HO1 := hid (own_put3 (owns_base (owns_later HE1.out.1 HE2.out.2.1) HB.out.size) (w.heap.size + 1) (own_ne_box (owns_later HE1.out.1 HE2.out.2.1) HZ2.out (by decide)) (.bool (decide (0 < xs.length))) (.slice g1 xs.length c1) (.slice g2 ys.length c2))
    have HO2 := hid (own_put3 (owns_base HE2.out.1 HB.out.size) (w.heap.size + 1) (own_ne_box HE2.out.1 HZ2.out (by decide)) (.bool (decide (0 < xs.length))) (.slice g1 xs.length c1) (.slice g2 ys.length c2))
    have HBN := hid (below_put3 (bt HB.out HE2.out.2.2) (w.heap.size + 1) (by omega) (.bool (decide (0 < xs.length))) (.slice g1 xs.length c1) (.slice g2 ys.length c2))
    clear HK HL1 HL2 HE1 HE2 HZ HB HZ2 hs0 hs1 hs2 y0 y1 y2 z0 z1 z2
    go_wp2_with fail
    refine bodyPost_ret (v := .agg #[.bool (decide (0 < xs.length)), .slice g1 xs.length c1, .slice g2 ys.length c2]) (by simp [results, Tryz.results35, go_sem, r0, r1, r2]) rfl ?_
    exact ⟨g1, c1, g2, c2, rfl, HO1.out, HO2.out, HBN.out⟩

/-- The sign of the opposite. -/
def oneg (n : Bool) (xs : List Int) : Bool := !n && decide (0 < xs.length)
theorem opp_chk {n : Bool} {xs ys : List Int} (h : rchk n xs ys = 0) : rchk (oneg n xs) xs ys = 0 := by
  obtain ⟨lx, ly, tx, ty, y0, s0, g⟩ := rchk_ok h
  refine rchk_good lx ly tx ty y0 ?_ g
  unfold oneg
  by_cases c : 0 < xs.length
  · exact .inr c
  · left; rw [decide_eq_false c, Bool.and_false]
theorem opp_q {n : Bool} {xs ys : List Int} : rq (oneg n xs) xs ys = -(rq n xs ys) := by
  rw [← rq_neg]
  unfold rq oneg
  by_cases c : 0 < xs.length
  · rw [decide_eq_true c, Bool.and_true]; rfl
  · have e : xs = [] := List.length_eq_zero_iff.1 (by omega)
    subst e
    congr 1
    cases n <;> simp [wval, sg, val, valTo]
end Go.Proofs.YtpehpflgfkdiaaaGreat

/- The document's opposite of a fraction below 0. -/
namespace Go.Proofs.YtpehpflgfkdiaaaGreat
open Go.RowKit
set_option linter.unusedVariables false

set_option maxHeartbeats 6400000 in
set_option maxRecDepth 100000 in
theorem opposite_n (a : Option Addr) (ca : Nat) (xs : List Int) (b : Option Addr) (cb : Nat) (ys : List Int) (w : World) (sx : Sl w (.slice a xs.length ca) xs) (sy : Sl w (.slice b ys.length cb) ys) (lx : xs.length ≤ 1099511627776) (ly : ys.length ≤ 1099511627776)  :
    Calls Tryz.prog 35 #[.agg #[.bool true, .slice a xs.length ca, .slice b ys.length cb]] w fun e w' => ∃ g1 c1 g2 c2, e = .returned (.agg #[.bool false, .slice g1 xs.length c1, .slice g2 ys.length c2]) ∧ w'.ownsRow w.heap.size 60 1 (.slice g1 xs.length c1) xs.length (xs.map (Value.int .u32)) ∧ w'.ownsRow w.heap.size 60 1 (.slice g2 ys.length c2) ys.length (ys.map (Value.int .u32)) ∧ Below w.heap.size w w' := by
  have HB : Hid (Below w.heap.size w ((w.alloc (.cells #[.bool true, .slice a xs.length ca, .slice b ys.length cb] 24)).alloc (.cells #[.bool false, .slice none 0 0, .slice none 0 0] 24))) := bt (alloc_later _ _) (alloc_later _ _)
  have HA : Hid (Box ((w.alloc (.cells #[.bool true, .slice a xs.length ca, .slice b ys.length cb] 24)).alloc (.cells #[.bool false, .slice none 0 0, .slice none 0 0] 24)) w.heap.size 24 #[.bool true, .slice a xs.length ca, .slice b ys.length cb]) := Box.later (Box.made w _ _) (alloc_later _ _) (by simp)
  have HZ : Hid (Box ((w.alloc (.cells #[.bool true, .slice a xs.length ca, .slice b ys.length cb] 24)).alloc (.cells #[.bool false, .slice none 0 0, .slice none 0 0] 24)) (w.heap.size + 1) 24 #[.bool false, .slice none 0 0, .slice none 0 0]) := by
    have e := Box.made (w.alloc (.cells #[.bool true, .slice a xs.length ca, .slice b ys.length cb] 24)) 24 #[.bool false, .slice none 0 0, .slice none 0 0]
    simp at e
    exact e
  have HS := hid (And.intro (sx.later HB.out) (sy.later HB.out))
  clear sx sy
  go_enter Tryz.func35, Tryz.ntmps35
  go_wp2_with fail
  generalize ((w.alloc (.cells #[.bool true, .slice a xs.length ca, .slice b ys.length cb] 24)).alloc (.cells #[.bool false, .slice none 0 0, .slice none 0 0] 24)) = X at *
  have HK : Hid (∀ V, Below X.heap.size X V → (V.cell? ⟨w.heap.size, 0, none⟩ = some (.bool true) ∧ V.cell? ⟨w.heap.size, 1, none⟩ = some (.slice a xs.length ca) ∧ V.cell? ⟨w.heap.size, 2, none⟩ = some (.slice b ys.length cb))) := fun V hb => by
    obtain ⟨p0, p1, p2, _, _, _⟩ := res_box3 HA.out hb
    exact ⟨p0, p1, p2⟩
  have hs0 := HK.out _ (Below.drew (Below.refl _ X))
  have HL1 : Hid (∀ V, Below X.heap.size X V → Calls Tryz.prog 62 #[.slice a xs.length ca] V fun e V' => ∃ g cap, e = .returned (.slice g xs.length cap) ∧ Hid (V'.ownsRow X.heap.size 60 1 (.slice g xs.length cap) xs.length (xs.map (Value.int .u32)) ∧ Below V.heap.size V V' ∧ Below X.heap.size X V') ∧ (V'.cell? ⟨w.heap.size, 0, none⟩ = some (.bool true) ∧ V'.cell? ⟨w.heap.size, 1, none⟩ = some (.slice a xs.length ca) ∧ V'.cell? ⟨w.heap.size, 2, none⟩ = some (.slice b ys.length cb)) ∧ V'.cell? ⟨w.heap.size + 1, 0, none⟩ = some (.bool false) ∧ V'.cell? ⟨w.heap.size + 1, 1, none⟩ = some (.slice none 0 0) ∧ V'.cell? ⟨w.heap.size + 1, 2, none⟩ = some (.slice none 0 0) ∧ V'.frozen? ⟨w.heap.size + 1, 0, none⟩ = false ∧ V'.frozen? ⟨w.heap.size + 1, 1, none⟩ = false ∧ V'.frozen? ⟨w.heap.size + 1, 2, none⟩ = false) := fun V hb => by
    refine Calls.mono (copied3_sl _ xs _ (HS.out.1.later hb) lx) ?_
    rintro e V' ⟨v1, rfl, o1, hb1⟩
    obtain ⟨g, cap, hv⟩ := own_slice' o1
    subst hv
    have hbX : Below X.heap.size X V' := bt hb hb1
    exact ⟨g, cap, rfl, ⟨owns_base o1 hb.size, hb1, hbX⟩, HK.out V' hbX, res_box3 HZ.out hbX⟩
  have HL2 : Hid (∀ V, Below X.heap.size X V → Calls Tryz.prog 62 #[.slice b ys.length cb] V fun e V' => ∃ g cap, e = .returned (.slice g ys.length cap) ∧ Hid (V'.ownsRow X.heap.size 60 1 (.slice g ys.length cap) ys.length (ys.map (Value.int .u32)) ∧ Below V.heap.size V V' ∧ Below X.heap.size X V') ∧ (V'.cell? ⟨w.heap.size, 0, none⟩ = some (.bool true) ∧ V'.cell? ⟨w.heap.size, 1, none⟩ = some (.slice a xs.length ca) ∧ V'.cell? ⟨w.heap.size, 2, none⟩ = some (.slice b ys.length cb)) ∧ V'.cell? ⟨w.heap.size + 1, 0, none⟩ = some (.bool false) ∧ V'.cell? ⟨w.heap.size + 1, 1, none⟩ = some (.slice none 0 0) ∧ V'.cell? ⟨w.heap.size + 1, 2, none⟩ = some (.slice none 0 0) ∧ V'.frozen? ⟨w.heap.size + 1, 0, none⟩ = false ∧ V'.frozen? ⟨w.heap.size + 1, 1, none⟩ = false ∧ V'.frozen? ⟨w.heap.size + 1, 2, none⟩ = false) := fun V hb => by
    refine Calls.mono (copied3_sl _ ys _ (HS.out.2.later hb) ly) ?_
    rintro e V' ⟨v1, rfl, o1, hb1⟩
    obtain ⟨g, cap, hv⟩ := own_slice' o1
    subst hv
    have hbX : Below X.heap.size X V' := bt hb hb1
    exact ⟨g, cap, rfl, ⟨owns_base o1 hb.size, hb1, hbX⟩, HK.out V' hbX, res_box3 HZ.out hbX⟩
  clear HS HA
  refine wp_region_noPanic ?_
  refine wp_region_held_drew (S := (fun V : World => (V.cell? ⟨w.heap.size, 0, none⟩ = some (.bool true) ∧ V.cell? ⟨w.heap.size, 1, none⟩ = some (.slice a xs.length ca) ∧ V.cell? ⟨w.heap.size, 2, none⟩ = some (.slice b ys.length cb)))) (by kernel_rfl) ?_ (fun hHeld => ?_)
  · exact hs0
  refine wpAnyH_take (i := 0) (oi := { dst := some 3, op := Op.fieldAddr 24 (Operand.tmp 1) 0, type := 0, pos := "ref.go:162", after := #[], guard := none }) (v := ?_) rfl (by kernel_rfl) (by kernel_rfl) (by kernel_rfl) (fun _ _ _ h => h) (Or.inl ⟨by rfl, ?_⟩) (by assumption) ?_
  rotate_left 1
  · intro V hSw
    try dsimp only at hSw
    go_simp
    try with_reducible rfl
  try simp only [Act.put, List.setIfInBounds_toArray, List.set_cons_zero, List.set_cons_succ]
  refine wpAnyH_take (i := 1) (oi := { dst := some 4, op := Op.load 4 (Operand.tmp 3), type := 4, pos := "ref.go:162", after := #[{ on := 0, ground := Ground.data }], guard := none }) (v := ?_) rfl (by kernel_rfl) (by kernel_rfl) (by kernel_rfl) (fun _ _ _ h => h) (Or.inl ⟨by rfl, ?_⟩) (by assumption) ?_
  rotate_left 1
  · intro V hSw
    try dsimp only at hSw
    go_simp
    try with_reducible rfl
  try simp only [Act.put, List.setIfInBounds_toArray, List.set_cons_zero, List.set_cons_succ]
  refine wpAnyH_take (i := 2) (oi := { dst := some 5, op := Op.unOp UnOp.not 4 (Operand.tmp 4), type := 4, pos := "ref.go:162", after := #[{ on := 1, ground := Ground.data }], guard := none }) (v := ?_) rfl (by kernel_rfl) (by kernel_rfl) (by kernel_rfl) (fun _ _ _ h => h) (Or.inl ⟨by rfl, ?_⟩) (by assumption) ?_
  rotate_left 1
  · intro V hSw
    try dsimp only at hSw
    go_simp
    try with_reducible rfl
  try simp only [Act.put, List.setIfInBounds_toArray, List.set_cons_zero, List.set_cons_succ]
  refine wpAnyH_take (i := 3) (oi := { dst := some 6, op := Op.move (Operand.tmp 5), type := 4, pos := "ref.go:162", after := #[{ on := 2, ground := Ground.data }], guard := none }) (v := ?_) rfl (by kernel_rfl) (by kernel_rfl) (by kernel_rfl) (fun _ _ _ h => h) (Or.inl ⟨by rfl, ?_⟩) (by assumption) ?_
  rotate_left 1
  · intro V hSw
    try dsimp only at hSw
    go_simp
    try with_reducible rfl
  try simp only [Act.put, List.setIfInBounds_toArray, List.set_cons_zero, List.set_cons_succ]
  refine wpAnyH_take (i := 4) (oi := { dst := some 7, op := Op.fieldAddr 24 (Operand.tmp 1) 1, type := 0, pos := "ref.go:162", after := #[{ on := 3, ground := Ground.guard }], guard := some (3, true) }) (v := undef) rfl (by kernel_rfl) (by kernel_rfl) (by kernel_rfl) (fun _ _ _ h => h) (Or.inr ⟨by rfl, rfl⟩) (by assumption) ?_
  try simp only [Act.put, List.setIfInBounds_toArray, List.set_cons_zero, List.set_cons_succ]
  refine wpAnyH_take (i := 5) (oi := { dst := some 8, op := Op.load 22 (Operand.tmp 7), type := 22, pos := "ref.go:162", after := #[{ on := 4, ground := Ground.data }, { on := 3, ground := Ground.guard }], guard := some (3, true) }) (v := undef) rfl (by kernel_rfl) (by kernel_rfl) (by kernel_rfl) (fun _ _ _ h => h) (Or.inr ⟨by rfl, rfl⟩) (by assumption) ?_
  try simp only [Act.put, List.setIfInBounds_toArray, List.set_cons_zero, List.set_cons_succ]
  refine wpAnyH_take (i := 6) (oi := { dst := some 9, op := Op.call { callee := Callee.builtin Builtin.len, args := #[Operand.tmp 8], argTypes := #[22] }, type := 3, pos := "ref.go:162", after := #[{ on := 5, ground := Ground.data }, { on := 3, ground := Ground.guard }], guard := some (3, true) }) (v := undef) rfl (by kernel_rfl) (by kernel_rfl) (by kernel_rfl) (fun _ _ _ h => h) (Or.inr ⟨by rfl, rfl⟩) (by assumption) ?_
  try simp only [Act.put, List.setIfInBounds_toArray, List.set_cons_zero, List.set_cons_succ]
  refine wpAnyH_take (i := 7) (oi := { dst := some 10, op := Op.binOp BinOp.gtr 3 (Operand.tmp 9) (Operand.const (Value.int IntKind.i64 0)) 3, type := 4, pos := "ref.go:162", after := #[{ on := 6, ground := Ground.data }, { on := 3, ground := Ground.guard }], guard := some (3, true) }) (v := undef) rfl (by kernel_rfl) (by kernel_rfl) (by kernel_rfl) (fun _ _ _ h => h) (Or.inr ⟨by rfl, rfl⟩) (by assumption) ?_
  try simp only [Act.put, List.setIfInBounds_toArray, List.set_cons_zero, List.set_cons_succ]
  refine wpAnyH_take (i := 8) (oi := { dst := some 11, op := Op.pick (Operand.tmp 6) (Operand.tmp 10) (Operand.const (Value.bool false)), type := 4, pos := "ref.go:162", after := #[{ on := 3, ground := Ground.data }, { on := 7, ground := Ground.data }], guard := none }) (v := ?_) rfl (by kernel_rfl) (by kernel_rfl) (by kernel_rfl) (fun _ _ _ h => h) (Or.inl ⟨by rfl, ?_⟩) (by assumption) ?_
  rotate_left 1
  · intro V hSw
    try dsimp only at hSw
    go_simp
    try with_reducible rfl
  try simp only [Act.put, List.setIfInBounds_toArray, List.set_cons_zero, List.set_cons_succ]
  refine wpAnyH_take (i := 9) (oi := { dst := some 12, op := Op.fieldAddr 24 (Operand.tmp 1) 1, type := 0, pos := "ref.go:162", after := #[], guard := none }) (v := ?_) rfl (by kernel_rfl) (by kernel_rfl) (by kernel_rfl) (fun _ _ _ h => h) (Or.inl ⟨by rfl, ?_⟩) (by assumption) ?_
  rotate_left 1
  · intro V hSw
    try dsimp only at hSw
    go_simp
    try with_reducible rfl
  try simp only [Act.put, List.setIfInBounds_toArray, List.set_cons_zero, List.set_cons_succ]
  refine wpAnyH_take (i := 10) (oi := { dst := some 13, op := Op.load 22 (Operand.tmp 12), type := 22, pos := "ref.go:162", after := #[{ on := 9, ground := Ground.data }], guard := none }) (v := ?_) rfl (by kernel_rfl) (by kernel_rfl) (by kernel_rfl) (fun _ _ _ h => h) (Or.inl ⟨by rfl, ?_⟩) (by assumption) ?_
  rotate_left 1
  · intro V hSw
    try dsimp only at hSw
    go_simp
    try with_reducible rfl
  try simp only [Act.put, List.setIfInBounds_toArray, List.set_cons_zero, List.set_cons_succ]
  refine wpAnyH_take (i := 12) (oi := { dst := some 15, op := Op.fieldAddr 24 (Operand.tmp 1) 2, type := 0, pos := "ref.go:162", after := #[], guard := none }) (v := ?_) rfl (by kernel_rfl) (by kernel_rfl) (by kernel_rfl) (fun _ _ _ h => h) (Or.inl ⟨by rfl, ?_⟩) (by assumption) ?_
  rotate_left 1
  · intro V hSw
    try dsimp only at hSw
    go_simp
    try with_reducible rfl
  try simp only [Act.put, List.setIfInBounds_toArray, List.set_cons_zero, List.set_cons_succ]
  refine wpAnyH_take (i := 13) (oi := { dst := some 16, op := Op.load 22 (Operand.tmp 15), type := 22, pos := "ref.go:162", after := #[{ on := 12, ground := Ground.data }], guard := none }) (v := ?_) rfl (by kernel_rfl) (by kernel_rfl) (by kernel_rfl) (fun _ _ _ h => h) (Or.inl ⟨by rfl, ?_⟩) (by assumption) ?_
  rotate_left 1
  · intro V hSw
    try dsimp only at hSw
    go_simp
    try with_reducible rfl
  try simp only [Act.put, List.setIfInBounds_toArray, List.set_cons_zero, List.set_cons_succ]
  refine wpAnyH_ready (rs := [11]) (by kernel_rfl) (by simp) ?_
  refine AllReadyH.cons (o := { dst := some 14, op := Op.call { callee := Callee.value (Operand.func 62), args := #[Operand.tmp 13], argTypes := #[22] }, type := 22, pos := "ref.go:162", after := #[{ on := 10, ground := Ground.data }, { on := 3, ground := Ground.chain }], guard := none }) rfl (fun K hK => ?_) AllReadyH.nil
  go_simp
  refine Calls.mono (HL1.out _ (Below.drew (Below.refl _ X))) ?_
  rintro e w1 ⟨g1, c1, rfl, HE1, hs1, y0, y1, y2, z0, z1, z2⟩
  dsimp only
  refine hK.out _ _ ?_ (fun hHeld => ?_)
  · exact hs1
  clear hK K
  try simp only [Act.put, List.setIfInBounds_toArray, List.set_cons_zero, List.set_cons_succ]
  refine wpAnyH_ready (rs := [14]) (by kernel_rfl) (by simp) ?_
  refine AllReadyH.cons (o := { dst := some 17, op := Op.call { callee := Callee.value (Operand.func 62), args := #[Operand.tmp 16], argTypes := #[22] }, type := 22, pos := "ref.go:162", after := #[{ on := 13, ground := Ground.data }, { on := 11, ground := Ground.chain }], guard := none }) rfl (fun K hK => ?_) AllReadyH.nil
  go_simp
  refine Calls.mono (HL2.out _ HE1.out.2.2) ?_
  rintro e w2 ⟨g2, c2, rfl, HE2, hs2, r0, r1, r2, f0, f1, f2⟩
  dsimp only
  refine hK.out _ _ ?_ (fun hHeld => ?_)
  · exact hs2
  clear hK K
  try simp only [Act.put, List.setIfInBounds_toArray, List.set_cons_zero, List.set_cons_succ]
  refine wpAnyH_take (i := 15) (oi := { dst := some 18, op := Op.build 24 #[(0, Operand.tmp 11), (1, Operand.tmp 14), (2, Operand.tmp 17)], type := 24, pos := "ref.go:162", after := #[{ on := 8, ground := Ground.data }, { on := 11, ground := Ground.data }, { on := 14, ground := Ground.data }], guard := none }) (v := ?_) rfl (by kernel_rfl) (by kernel_rfl) (by kernel_rfl) (fun _ _ _ h => h) (Or.inl ⟨by rfl, ?_⟩) (by assumption) ?_
  rotate_left 1
  · intro V hSw
    try dsimp only at hSw
    go_simp
    try with_reducible rfl
  try simp only [Act.put, List.setIfInBounds_toArray, List.set_cons_zero, List.set_cons_succ]
  refine wpAnyH_ready (rs := [16]) (by kernel_rfl) (by simp) ?_
  refine AllReadyH.cons (o := { dst := none, op := Op.store 24 (Operand.tmp 2) (Operand.tmp 18), type := 0, pos := "ref.go:162", after := #[{ on := 15, ground := Ground.data }, { on := 14, ground := Ground.chain }, { on := 0, ground := Ground.phase }, { on := 1, ground := Ground.phase }, { on := 2, ground := Ground.phase }, { on := 3, ground := Ground.phase }, { on := 4, ground := Ground.phase }, { on := 5, ground := Ground.phase }, { on := 6, ground := Ground.phase }, { on := 7, ground := Ground.phase }, { on := 8, ground := Ground.phase }, { on := 9, ground := Ground.phase }, { on := 10, ground := Ground.phase }, { on := 11, ground := Ground.phase }, { on := 12, ground := Ground.phase }, { on := 13, ground := Ground.phase }, { on := 14, ground := Ground.phase }, { on := 15, ground := Ground.phase }], guard := none }) rfl (fun K hK => ?_) AllReadyH.nil
  go_simp
  refine hK.out _ _ ?_ (fun hHeld => ?_)
  · simp [hs2, World.cell?_setCell_far]
  clear hK K
  try simp only [Act.put, List.setIfInBounds_toArray, List.set_cons_zero, List.set_cons_succ]
  refine wpAnyH_done (by kernel_rfl) ?_ _
  refine NoPanic.normal ?_
  all_goals
    have HZ2 := hid (HZ.out.later HE2.out.2.2 HZ.out.lt)
    have HO1 := hid (own_put3 (owns_base (owns_later HE1.out.1 HE2.out.2.1) HB.out.size) (w.heap.size + 1) (own_ne_box (owns_later HE1.out.1 HE2.out.2.1) HZ2.out (by decide)) (.bool false) (.slice g1 xs.length c1) (.slice g2 ys.length c2))
    have HO2 := hid (own_put3 (owns_base HE2.out.1 HB.out.size) (w.heap.size + 1) (own_ne_box HE2.out.1 HZ2.out (by decide)) (.bool false) (.slice g1 xs.length c1) (.slice g2 ys.length c2))
    have HBN := hid (below_put3 (bt HB.out HE2.out.2.2) (w.heap.size + 1) (by omega) (.bool false) (.slice g1 xs.length c1) (.slice g2 ys.length c2))
    clear HK HL1 HL2 HE1 HE2 HZ HB HZ2 hs0 hs1 hs2 y0 y1 y2 z0 z1 z2
    go_wp2_with fail
    refine bodyPost_ret (v := .agg #[.bool false, .slice g1 xs.length c1, .slice g2 ys.length c2]) (by simp [results, Tryz.results35, go_sem, r0, r1, r2]) rfl ?_
    exact ⟨g1, c1, g2, c2, rfl, HO1.out, HO2.out, HBN.out⟩


theorem opposite3_any (n : Bool) (a : Option Addr) (ca : Nat) (xs : List Int) (b : Option Addr) (cb : Nat) (ys : List Int) (w : World) (sx : Sl w (.slice a xs.length ca) xs) (sy : Sl w (.slice b ys.length cb) ys) (lx : xs.length ≤ 1099511627776) (ly : ys.length ≤ 1099511627776) :
    Calls Tryz.prog 35 #[.agg #[.bool n, .slice a xs.length ca, .slice b ys.length cb]] w fun e w' => ∃ g1 c1 g2 c2, e = .returned (.agg #[.bool (oneg n xs), .slice g1 xs.length c1, .slice g2 ys.length c2]) ∧ w'.ownsRow w.heap.size 60 1 (.slice g1 xs.length c1) xs.length (xs.map (Value.int .u32)) ∧ w'.ownsRow w.heap.size 60 1 (.slice g2 ys.length c2) ys.length (ys.map (Value.int .u32)) ∧ Below w.heap.size w w' := by
  cases n with
  | true => exact opposite_n a ca xs b cb ys w sx sy lx ly
  | false => exact opposite_p a ca xs b cb ys w sx sy lx ly

end Go.Proofs.YtpehpflgfkdiaaaGreat

/- The document's own fractions: Neg, Sub: of any fractions, good or refused. -/
namespace Go.Proofs.YtpehpflgfkdiaaaGreat
open Go.RowKit
set_option linter.unusedVariables false

theorem rtells_own {n : Bool} {xs ys : List Int} (wx : Wd xs) (wy : Wd ys) (h : rchk n xs ys = 0) : RTells 0 (rq n xs ys) n xs ys 0 := by
  obtain ⟨lx, ly, tx, ty, y0, s0, g⟩ := rchk_ok h
  obtain ⟨m, us, vs, c, e1, e2, e3, r⟩ := rtells_of (n := n) wx tx wy ty (val_pos' wy ty y0) g
  have e4 := e1 none 0 none 0
  unfold rtoldV at e4
  rw [if_neg (by omega)] at e4
  have hc : c = 0 := by
    simp at e4
    exact e4.2.symm
  subst hc
  have hm : (n && decide (0 < xs.length)) = n := by
    rcases s0 with rfl | s0
    · rfl
    · rw [decide_eq_true s0, Bool.and_true]
  rw [hm] at e4
  have hn : n = m := by simp at e4; exact e4
  subst hn
  rw [if_pos rfl] at e2 e3
  subst e2 e3
  exact r

set_option maxHeartbeats 1600000 in
set_option maxRecDepth 100000 in
theorem dNeg_err (n : Bool) (a : Option Addr) (ca : Nat) (xs : List Int) (b : Option Addr) (cb : Nat) (ys : List Int) (w : World) (sx : Sl w (.slice a xs.length ca) xs) (sy : Sl w (.slice b ys.length cb) ys) (hlx : xs.length ≤ 281474976710656) (hly : ys.length ≤ 281474976710656) (he : rchk n xs ys ≠ 0) (q : Rat) :
    Calls Tryz.prog 15 #[.agg #[.bool n, .slice a xs.length ca, .slice b ys.length cb]] w (RTold w (rchk n xs ys) q) := by
  have HB : Hid (Below w.heap.size w ((w.alloc (.cells #[.bool n, .slice a xs.length ca, .slice b ys.length cb] 24)).alloc (.cells #[.bool false, .slice none 0 0, .slice none 0 0] 24))) := bt (alloc_later _ _) (alloc_later _ _)
  have HA : Hid (Box ((w.alloc (.cells #[.bool n, .slice a xs.length ca, .slice b ys.length cb] 24)).alloc (.cells #[.bool false, .slice none 0 0, .slice none 0 0] 24)) w.heap.size 24 #[.bool n, .slice a xs.length ca, .slice b ys.length cb]) := Box.later (Box.made w _ _) (alloc_later _ _) (by simp)
  have HZ : Hid (Box ((w.alloc (.cells #[.bool n, .slice a xs.length ca, .slice b ys.length cb] 24)).alloc (.cells #[.bool false, .slice none 0 0, .slice none 0 0] 24)) (w.heap.size + 1) 24 #[.bool false, .slice none 0 0, .slice none 0 0]) := by
    have e := Box.made (w.alloc (.cells #[.bool n, .slice a xs.length ca, .slice b ys.length cb] 24)) 24 #[.bool false, .slice none 0 0, .slice none 0 0]
    simp at e
    exact e
  have HXS : Hid (w.heap.size + 1 < ((w.alloc (.cells #[.bool n, .slice a xs.length ca, .slice b ys.length cb] 24)).alloc (.cells #[.bool false, .slice none 0 0, .slice none 0 0] 24)).heap.size) := HZ.out.lt
  have HS := hid (And.intro (sx.later HB.out) (sy.later HB.out))
  have HC := hid (check3_any n _ _ xs _ _ ys ((w.alloc (.cells #[.bool n, .slice a xs.length ca, .slice b ys.length cb] 24)).alloc (.cells #[.bool false, .slice none 0 0, .slice none 0 0] 24)) HS.out.1 HS.out.2 hlx hly)
  obtain ⟨e1, he1⟩ : ∃ e, rchk n xs ys = e := ⟨_, rfl⟩
  rw [he1] at HC he ⊢
  have h1 : (e1 == 0) = false := beq_eq_false_iff_ne.2 he
  have h2 : (e1 != 0) = true := bne_iff_ne.2 he
  have HEE := hid he
  clear sx sy he he1
  go_enter Tryz.func15, Tryz.ntmps15
  go_wp2_with fail
  refine Calls.mono HC.out ?_
  generalize ((w.alloc (.cells #[.bool n, .slice a xs.length ca, .slice b ys.length cb] 24)).alloc (.cells #[.bool false, .slice none 0 0, .slice none 0 0] 24)) = X at *
  rintro e w1 ⟨rfl, hb1⟩
  obtain ⟨r0, r1, r2, f0, f1, f2⟩ := res_box3 HZ.out hb1
  have HBN := hid (bt HB.out hb1)
  clear hb1 HC
  go_wp2_with fail
  refine bodyPost_ret (v := .tuple #[.agg #[.bool false, .slice none 0 0, .slice none 0 0], .int .i64 e1]) (by simp [results, Tryz.results15, go_sem, r0, r1, r2]) rfl ?_
  exact ⟨false, _, [], _, [], e1, rfl, World.ownsRow_nil _ _ _ _, World.ownsRow_nil _ _ _ _, RTells.err HEE.out, below_put3 HBN.out _ (by omega) _ _ _⟩

set_option maxHeartbeats 3200000 in
set_option maxRecDepth 100000 in
theorem dNeg_ok (n : Bool) (a : Option Addr) (ca : Nat) (xs : List Int) (b : Option Addr) (cb : Nat) (ys : List Int) (w : World) (sx : Sl w (.slice a xs.length ca) xs) (sy : Sl w (.slice b ys.length cb) ys) (hlx : xs.length ≤ 281474976710656) (hly : ys.length ≤ 281474976710656) (hx : rchk n xs ys = 0) :
    Calls Tryz.prog 15 #[.agg #[.bool n, .slice a xs.length ca, .slice b ys.length cb]] w (RTold w 0 (-(rq n xs ys))) := by
  have wx := sx.wd
  have wy := sy.wd
  have HB : Hid (Below w.heap.size w ((w.alloc (.cells #[.bool n, .slice a xs.length ca, .slice b ys.length cb] 24)).alloc (.cells #[.bool false, .slice none 0 0, .slice none 0 0] 24))) := bt (alloc_later _ _) (alloc_later _ _)
  have HA : Hid (Box ((w.alloc (.cells #[.bool n, .slice a xs.length ca, .slice b ys.length cb] 24)).alloc (.cells #[.bool false, .slice none 0 0, .slice none 0 0] 24)) w.heap.size 24 #[.bool n, .slice a xs.length ca, .slice b ys.length cb]) := Box.later (Box.made w _ _) (alloc_later _ _) (by simp)
  have HZ : Hid (Box ((w.alloc (.cells #[.bool n, .slice a xs.length ca, .slice b ys.length cb] 24)).alloc (.cells #[.bool false, .slice none 0 0, .slice none 0 0] 24)) (w.heap.size + 1) 24 #[.bool false, .slice none 0 0, .slice none 0 0]) := by
    have e := Box.made (w.alloc (.cells #[.bool n, .slice a xs.length ca, .slice b ys.length cb] 24)) 24 #[.bool false, .slice none 0 0, .slice none 0 0]
    simp at e
    exact e
  have HXS : Hid (w.heap.size + 1 < ((w.alloc (.cells #[.bool n, .slice a xs.length ca, .slice b ys.length cb] 24)).alloc (.cells #[.bool false, .slice none 0 0, .slice none 0 0] 24)).heap.size) := HZ.out.lt
  have HS := hid (And.intro (sx.later HB.out) (sy.later HB.out))
  have HC := hid (check3_any n _ _ xs _ _ ys ((w.alloc (.cells #[.bool n, .slice a xs.length ca, .slice b ys.length cb] 24)).alloc (.cells #[.bool false, .slice none 0 0, .slice none 0 0] 24)) HS.out.1 HS.out.2 hlx hly)
  rw [hx] at HC
  have HT : Hid (RTells 0 (-(rq n xs ys)) (oneg n xs) xs ys 0) := by
    have e := rtells_own wx wy (opp_chk hx)
    rw [opp_q] at e
    exact e
  obtain ⟨lx, ly, _⟩ := rchk_ok hx
  obtain ⟨k, hk⟩ : ∃ k, oneg n xs = k := ⟨_, rfl⟩
  rw [hk] at HT
  have HKK := hid hk
  clear sx sy hx hk
  go_enter Tryz.func15, Tryz.ntmps15
  go_wp2_with fail
  refine Calls.mono HC.out ?_
  generalize ((w.alloc (.cells #[.bool n, .slice a xs.length ca, .slice b ys.length cb] 24)).alloc (.cells #[.bool false, .slice none 0 0, .slice none 0 0] 24)) = X at *
  rintro e w1 ⟨rfl, hb1⟩
  obtain ⟨p0, p1, p2, _⟩ := res_box3 HA.out hb1
  have HO := opposite3_any n _ _ xs _ _ ys w1 (HS.out.1.later hb1) (HS.out.2.later hb1) (by omega) (by omega)
  rw [HKK.out] at HO
  have HH := hid HO
  have HB1 := hid hb1
  clear hb1 HC HO
  go_wp2_with fail
  refine Calls.mono HH.out ?_
  rintro e w2 ⟨g1, c1, g2, c2, rfl, o1, o2, hb2⟩
  have hbX := bt HB1.out hb2
  obtain ⟨r0, r1, r2, f0, f1, f2⟩ := res_box3 HZ.out hbX
  have HBW := hid (bt HB.out hbX)
  have hz := HB1.out.size
  have HE := hid (And.intro (owns_base o1 hz) (And.intro (owns_base o2 hz) HT.out))
  clear o1 o2 hb2 hbX HH p0 p1 p2 hz
  go_wp2_with fail
  refine bodyPost_ret (v := .tuple #[.agg #[.bool k, .slice g1 xs.length c1, .slice g2 ys.length c2], .int .i64 0]) (by simp [results, Tryz.results15, go_sem, r0, r1, r2]) rfl ?_
  exact RTold.put HE.out (w.heap.size + 1) HXS.out (by omega) HBW.out _ _ _
theorem dNeg_full (n : Bool) (a : Option Addr) (ca : Nat) (xs : List Int) (b : Option Addr) (cb : Nat) (ys : List Int) (w : World) (sx : Sl w (.slice a xs.length ca) xs) (sy : Sl w (.slice b ys.length cb) ys) (hlx : xs.length ≤ 281474976710656) (hly : ys.length ≤ 281474976710656) : Calls Tryz.prog 15 #[.agg #[.bool n, .slice a xs.length ca, .slice b ys.length cb]] w (RTold w (rchk n xs ys) (-(rq n xs ys))) := by
  by_cases he : rchk n xs ys = 0
  · rw [he]; exact dNeg_ok n a ca xs b cb ys w sx sy hlx hly he
  · exact dNeg_err n a ca xs b cb ys w sx sy hlx hly he _

set_option maxHeartbeats 3200000 in
set_option maxRecDepth 100000 in
theorem dSub_err (n : Bool) (a : Option Addr) (ca : Nat) (xs : List Int) (b : Option Addr) (cb : Nat) (ys : List Int) (m : Bool) (c : Option Addr) (cc : Nat) (us : List Int) (d : Option Addr) (cd : Nat) (vs : List Int) (w : World) (sx : Sl w (.slice a xs.length ca) xs) (sy : Sl w (.slice b ys.length cb) ys) (su : Sl w (.slice c us.length cc) us) (sv : Sl w (.slice d vs.length cd) vs) (hlx : xs.length ≤ 281474976710656) (hly : ys.length ≤ 281474976710656) (hlu : us.length ≤ 281474976710656) (hlv : vs.length ≤ 281474976710656) (he : rboth n xs ys m us vs ≠ 0) (q : Rat) :
    Calls Tryz.prog 9 #[.agg #[.bool n, .slice a xs.length ca, .slice b ys.length cb], .agg #[.bool m, .slice c us.length cc, .slice d vs.length cd]] w (RTold w (rboth n xs ys m us vs) q) := by
  have HB : Hid (Below w.heap.size w (((w.alloc (.cells #[.bool n, .slice a xs.length ca, .slice b ys.length cb] 24)).alloc (.cells #[.bool m, .slice c us.length cc, .slice d vs.length cd] 24)).alloc (.cells #[.bool false, .slice none 0 0, .slice none 0 0] 24))) := bt (bt (alloc_later _ _) (alloc_later _ _)) (alloc_later _ _)
  have HZ : Hid (Box (((w.alloc (.cells #[.bool n, .slice a xs.length ca, .slice b ys.length cb] 24)).alloc (.cells #[.bool m, .slice c us.length cc, .slice d vs.length cd] 24)).alloc (.cells #[.bool false, .slice none 0 0, .slice none 0 0] 24)) (w.heap.size + 1 + 1) 24 #[.bool false, .slice none 0 0, .slice none 0 0]) := by
    have e := Box.made ((w.alloc (.cells #[.bool n, .slice a xs.length ca, .slice b ys.length cb] 24)).alloc (.cells #[.bool m, .slice c us.length cc, .slice d vs.length cd] 24)) 24 #[.bool false, .slice none 0 0, .slice none 0 0]
    simp at e
    exact e
  have HN : Hid (Box (((w.alloc (.cells #[.bool n, .slice a xs.length ca, .slice b ys.length cb] 24)).alloc (.cells #[.bool m, .slice c us.length cc, .slice d vs.length cd] 24)).alloc (.cells #[.bool false, .slice none 0 0, .slice none 0 0] 24)) w.heap.size 24 #[.bool n, .slice a xs.length ca, .slice b ys.length cb]) := Box.later (Box.made w _ _) (bt (alloc_later _ _) (alloc_later _ _)) (by simp)
  have HM : Hid (Box (((w.alloc (.cells #[.bool n, .slice a xs.length ca, .slice b ys.length cb] 24)).alloc (.cells #[.bool m, .slice c us.length cc, .slice d vs.length cd] 24)).alloc (.cells #[.bool false, .slice none 0 0, .slice none 0 0] 24)) (w.heap.size + 1) 24 #[.bool m, .slice c us.length cc, .slice d vs.length cd]) := by
    have e := Box.later (Box.made (w.alloc (.cells #[.bool n, .slice a xs.length ca, .slice b ys.length cb] 24)) 24 #[.bool m, .slice c us.length cc, .slice d vs.length cd]) (alloc_later ((w.alloc (.cells #[.bool n, .slice a xs.length ca, .slice b ys.length cb] 24)).alloc (.cells #[.bool m, .slice c us.length cc, .slice d vs.length cd] 24)) (.cells #[.bool false, .slice none 0 0, .slice none 0 0] 24)) (by simp)
    simp at e
    exact e
  have HXS : Hid (w.heap.size + 1 + 1 < (((w.alloc (.cells #[.bool n, .slice a xs.length ca, .slice b ys.length cb] 24)).alloc (.cells #[.bool m, .slice c us.length cc, .slice d vs.length cd] 24)).alloc (.cells #[.bool false, .slice none 0 0, .slice none 0 0] 24)).heap.size) := HZ.out.lt
  have HSL := hid (And.intro (sx.later HB.out) (And.intro (sy.later HB.out) (And.intro (su.later HB.out) (sv.later HB.out))))
  have HC := hid (both3_any n _ _ xs _ _ ys m _ _ us _ _ vs (((w.alloc (.cells #[.bool n, .slice a xs.length ca, .slice b ys.length cb] 24)).alloc (.cells #[.bool m, .slice c us.length cc, .slice d vs.length cd] 24)).alloc (.cells #[.bool false, .slice none 0 0, .slice none 0 0] 24)) HSL.out.1 HSL.out.2.1 HSL.out.2.2.1 HSL.out.2.2.2 hlx hly hlu hlv)
  obtain ⟨E, hE⟩ : ∃ E, rboth n xs ys m us vs = E := ⟨_, rfl⟩
  rw [hE] at HC he ⊢
  have he' : (E == 0) = false := beq_eq_false_iff_ne.2 he
  have HE := hid he
  clear he hE sx sy su sv
  go_enter Tryz.func9, Tryz.ntmps9
  go_wp2_with fail
  refine Calls.mono HC.out ?_
  generalize (((w.alloc (.cells #[.bool n, .slice a xs.length ca, .slice b ys.length cb] 24)).alloc (.cells #[.bool m, .slice c us.length cc, .slice d vs.length cd] 24)).alloc (.cells #[.bool false, .slice none 0 0, .slice none 0 0] 24)) = X at *
  rintro e w1 ⟨rfl, hb1⟩
  obtain ⟨y0, y1, y2, f0, f1, f2⟩ := res_box3 HZ.out hb1
  have HBN := hid (below_put3 (bt HB.out hb1) (w.heap.size + 1 + 1) (by omega) (.bool false) (.slice none 0 0) (.slice none 0 0))
  clear hb1 HC HN HM HZ HSL
  go_wp2_with fail
  refine bodyPost_ret (v := .tuple #[.agg #[.bool false, .slice none 0 0, .slice none 0 0], .int .i64 E]) (by simp [results, Tryz.results9, go_sem, y0, y1, y2]) rfl ?_
  exact ⟨false, _, [], _, [], _, rfl, World.ownsRow_nil _ _ _ _, World.ownsRow_nil _ _ _ _, RTells.err HE.out, HBN.out⟩


set_option maxHeartbeats 6400000 in
set_option maxRecDepth 100000 in
theorem dSub_ok (n : Bool) (a : Option Addr) (ca : Nat) (xs : List Int) (b : Option Addr) (cb : Nat) (ys : List Int) (m : Bool) (c : Option Addr) (cc : Nat) (us : List Int) (d : Option Addr) (cd : Nat) (vs : List Int) (w : World) (sx : Sl w (.slice a xs.length ca) xs) (sy : Sl w (.slice b ys.length cb) ys) (su : Sl w (.slice c us.length cc) us) (sv : Sl w (.slice d vs.length cd) vs) (hlx : xs.length ≤ 281474976710656) (hly : ys.length ≤ 281474976710656) (hlu : us.length ≤ 281474976710656) (hlv : vs.length ≤ 281474976710656) (hx : rchk n xs ys = 0) (hy : rchk m us vs = 0) :
    Calls Tryz.prog 9 #[.agg #[.bool n, .slice a xs.length ca, .slice b ys.length cb], .agg #[.bool m, .slice c us.length cc, .slice d vs.length cd]] w (RTold w 0 (rq n xs ys - rq m us vs)) := by
  obtain ⟨lx, ly, tx, ty, yp, _, _⟩ := rchk_ok hx
  obtain ⟨lu, lv, tu, tv, vp, _, _⟩ := rchk_ok hy
  have wx := sx.wd
  have wy := sy.wd
  have wu := su.wd
  have wv := sv.wd
  have HB : Hid (Below w.heap.size w (((w.alloc (.cells #[.bool n, .slice a xs.length ca, .slice b ys.length cb] 24)).alloc (.cells #[.bool m, .slice c us.length cc, .slice d vs.length cd] 24)).alloc (.cells #[.bool false, .slice none 0 0, .slice none 0 0] 24))) := bt (bt (alloc_later _ _) (alloc_later _ _)) (alloc_later _ _)
  have HZ : Hid (Box (((w.alloc (.cells #[.bool n, .slice a xs.length ca, .slice b ys.length cb] 24)).alloc (.cells #[.bool m, .slice c us.length cc, .slice d vs.length cd] 24)).alloc (.cells #[.bool false, .slice none 0 0, .slice none 0 0] 24)) (w.heap.size + 1 + 1) 24 #[.bool false, .slice none 0 0, .slice none 0 0]) := by
    have e := Box.made ((w.alloc (.cells #[.bool n, .slice a xs.length ca, .slice b ys.length cb] 24)).alloc (.cells #[.bool m, .slice c us.length cc, .slice d vs.length cd] 24)) 24 #[.bool false, .slice none 0 0, .slice none 0 0]
    simp at e
    exact e
  have HN : Hid (Box (((w.alloc (.cells #[.bool n, .slice a xs.length ca, .slice b ys.length cb] 24)).alloc (.cells #[.bool m, .slice c us.length cc, .slice d vs.length cd] 24)).alloc (.cells #[.bool false, .slice none 0 0, .slice none 0 0] 24)) w.heap.size 24 #[.bool n, .slice a xs.length ca, .slice b ys.length cb]) := Box.later (Box.made w _ _) (bt (alloc_later _ _) (alloc_later _ _)) (by simp)
  have HM : Hid (Box (((w.alloc (.cells #[.bool n, .slice a xs.length ca, .slice b ys.length cb] 24)).alloc (.cells #[.bool m, .slice c us.length cc, .slice d vs.length cd] 24)).alloc (.cells #[.bool false, .slice none 0 0, .slice none 0 0] 24)) (w.heap.size + 1) 24 #[.bool m, .slice c us.length cc, .slice d vs.length cd]) := by
    have e := Box.later (Box.made (w.alloc (.cells #[.bool n, .slice a xs.length ca, .slice b ys.length cb] 24)) 24 #[.bool m, .slice c us.length cc, .slice d vs.length cd]) (alloc_later ((w.alloc (.cells #[.bool n, .slice a xs.length ca, .slice b ys.length cb] 24)).alloc (.cells #[.bool m, .slice c us.length cc, .slice d vs.length cd] 24)) (.cells #[.bool false, .slice none 0 0, .slice none 0 0] 24)) (by simp)
    simp at e
    exact e
  have HXS : Hid (w.heap.size + 1 + 1 < (((w.alloc (.cells #[.bool n, .slice a xs.length ca, .slice b ys.length cb] 24)).alloc (.cells #[.bool m, .slice c us.length cc, .slice d vs.length cd] 24)).alloc (.cells #[.bool false, .slice none 0 0, .slice none 0 0] 24)).heap.size) := HZ.out.lt
  have HSL := hid (And.intro (sx.later HB.out) (And.intro (sy.later HB.out) (And.intro (su.later HB.out) (sv.later HB.out))))
  have HTT := hid (And.intro tx (And.intro ty (And.intro tu tv)))
  have HWD := hid (And.intro wu wv)
  have HPP := hid (And.intro (val_pos' wy ty yp) (val_pos' wv tv vp))
  have HC := hid (both3_any n _ _ xs _ _ ys m _ _ us _ _ vs (((w.alloc (.cells #[.bool n, .slice a xs.length ca, .slice b ys.length cb] 24)).alloc (.cells #[.bool m, .slice c us.length cc, .slice d vs.length cd] 24)).alloc (.cells #[.bool false, .slice none 0 0, .slice none 0 0] 24)) HSL.out.1 HSL.out.2.1 HSL.out.2.2.1 HSL.out.2.2.2 hlx hly hlu hlv)
  rw [rboth_good hx hy] at HC
  have HQ : Hid (rq n xs ys + rq (oneg m us) us vs = rq n xs ys - rq m us vs) := by show _ = _; rw [opp_q, Rat.sub_eq_add_neg]
  obtain ⟨k, hk⟩ : ∃ k, oneg m us = k := ⟨_, rfl⟩
  rw [hk] at HQ
  have HKK := hid hk
  clear sx sy su sv tx ty tu tv wx wy wu wv hx hy yp vp hk
  go_enter Tryz.func9, Tryz.ntmps9
  go_wp2_with fail
  refine Calls.mono HC.out ?_
  generalize (((w.alloc (.cells #[.bool n, .slice a xs.length ca, .slice b ys.length cb] 24)).alloc (.cells #[.bool m, .slice c us.length cc, .slice d vs.length cd] 24)).alloc (.cells #[.bool false, .slice none 0 0, .slice none 0 0] 24)) = X at *
  rintro e w1 ⟨rfl, hb1⟩
  have HB1 := hid hb1
  clear hb1 HC
  have HK : Hid (∀ V, Below X.heap.size X V → V.cell? ⟨w.heap.size, 0, none⟩ = some (.bool n) ∧ V.cell? ⟨w.heap.size, 1, none⟩ = some (.slice a xs.length ca) ∧ V.cell? ⟨w.heap.size, 2, none⟩ = some (.slice b ys.length cb) ∧ V.cell? ⟨w.heap.size + 1, 0, none⟩ = some (.bool m) ∧ V.cell? ⟨w.heap.size + 1, 1, none⟩ = some (.slice c us.length cc) ∧ V.cell? ⟨w.heap.size + 1, 2, none⟩ = some (.slice d vs.length cd)) := fun V hb => by
    obtain ⟨p0, p1, p2, _⟩ := res_box3 HN.out hb
    obtain ⟨q0, q1, q2, _⟩ := res_box3 HM.out hb
    exact ⟨p0, p1, p2, q0, q1, q2⟩
  have hs0 := HK.out _ HB1.out.drew
  have HBR := hid HB1.out.drew
  have H1 : Hid (∀ ww, Below X.heap.size X ww → Calls Tryz.prog 35 #[.agg #[.bool m, .slice c us.length cc, .slice d vs.length cd]] ww fun e w' => ∃ g1 c1 g2 c2, e = .returned (.agg #[.bool k, .slice g1 us.length c1, .slice g2 vs.length c2]) ∧ Hid (w'.ownsRow X.heap.size 60 1 (.slice g1 us.length c1) us.length (us.map (Value.int .u32)) ∧ w'.ownsRow X.heap.size 60 1 (.slice g2 vs.length c2) vs.length (vs.map (Value.int .u32)) ∧ Below X.heap.size X w') ∧ (w'.cell? ⟨w.heap.size, 0, none⟩ = some (.bool n) ∧ w'.cell? ⟨w.heap.size, 1, none⟩ = some (.slice a xs.length ca) ∧ w'.cell? ⟨w.heap.size, 2, none⟩ = some (.slice b ys.length cb) ∧ w'.cell? ⟨w.heap.size + 1, 0, none⟩ = some (.bool m) ∧ w'.cell? ⟨w.heap.size + 1, 1, none⟩ = some (.slice c us.length cc) ∧ w'.cell? ⟨w.heap.size + 1, 2, none⟩ = some (.slice d vs.length cd))) := fun ww hv => by
    have e := opposite3_any m _ _ us _ _ vs ww (HSL.out.2.2.1.later hv) (HSL.out.2.2.2.later hv) (by omega) (by omega)
    rw [HKK.out] at e
    refine Calls.mono e ?_
    rintro e w' ⟨g1, c1, g2, c2, rfl, o1, o2, hb⟩
    exact ⟨g1, c1, g2, c2, rfl, ⟨owns_base o1 hv.size, owns_base o2 hv.size, bt hv hb⟩, HK.out w' (bt hv hb)⟩
  have H2 : Hid (∀ ww, Below X.heap.size X ww → ∀ g1 c1 g2 c2, ww.ownsRow X.heap.size 60 1 (.slice g1 us.length c1) us.length (us.map (Value.int .u32)) → ww.ownsRow X.heap.size 60 1 (.slice g2 vs.length c2) vs.length (vs.map (Value.int .u32)) → Calls Tryz.prog 33 #[.agg #[.bool n, .slice a xs.length ca, .slice b ys.length cb], .agg #[.bool k, .slice g1 us.length c1, .slice g2 vs.length c2]] ww fun e w' => ∃ k a8 z8 c8 a9 z9 c9 code, e = .returned (.tuple #[.agg #[.bool k, .slice a8 (List.length z8) c8, .slice a9 (List.length z9) c9], .int .i64 code]) ∧ Hid (w'.ownsRow X.heap.size 60 1 (.slice a8 (List.length z8) c8) z8.length (z8.map (Value.int .u32)) ∧ w'.ownsRow X.heap.size 60 1 (.slice a9 (List.length z9) c9) z9.length (z9.map (Value.int .u32)) ∧ RTells 0 (rq n xs ys - rq m us vs) k z8 z9 code) ∧ (w'.cell? ⟨w.heap.size, 0, none⟩ = some (.bool n) ∧ w'.cell? ⟨w.heap.size, 1, none⟩ = some (.slice a xs.length ca) ∧ w'.cell? ⟨w.heap.size, 2, none⟩ = some (.slice b ys.length cb) ∧ w'.cell? ⟨w.heap.size + 1, 0, none⟩ = some (.bool m) ∧ w'.cell? ⟨w.heap.size + 1, 1, none⟩ = some (.slice c us.length cc) ∧ w'.cell? ⟨w.heap.size + 1, 2, none⟩ = some (.slice d vs.length cd)) ∧ Below X.heap.size X w') := fun ww hv g1 c1 g2 c2 o1 o2 => by
    have e := add3_any n _ _ xs _ _ ys k _ _ us _ _ vs ww (HSL.out.1.later hv) (HSL.out.2.1.later hv) (Sl.own o1 HWD.out.1) (Sl.own o2 HWD.out.2) lx ly lu lv HTT.out.1 HTT.out.2.1 HTT.out.2.2.1 HTT.out.2.2.2 HPP.out.1 HPP.out.2
    rw [HQ.out] at e
    refine Calls.mono e ?_
    rintro e w' ⟨k, v, zs, u, ds, code, rfl, o1, o2, t, hb⟩
    obtain ⟨a8, c8, hs⟩ := own_slice' o1
    subst hs
    obtain ⟨a9, c9, hs⟩ := own_slice' o2
    subst hs
    exact ⟨k, a8, zs, c8, a9, ds, c9, code, rfl, ⟨owns_base o1 hv.size, owns_base o2 hv.size, t⟩, HK.out w' (bt hv hb), bt hv hb⟩
  have hq0 : w.heap.size + 1 + 1 ≠ w.heap.size := by omega
  have hq1 : w.heap.size + 1 + 1 ≠ w.heap.size + 1 := by omega
  go_wp2_with fail
  go_region_held3 (fun V : World => V.cell? ⟨w.heap.size, 0, none⟩ = some (.bool n) ∧ V.cell? ⟨w.heap.size, 1, none⟩ = some (.slice a xs.length ca) ∧ V.cell? ⟨w.heap.size, 2, none⟩ = some (.slice b ys.length cb) ∧ V.cell? ⟨w.heap.size + 1, 0, none⟩ = some (.bool m) ∧ V.cell? ⟨w.heap.size + 1, 1, none⟩ = some (.slice c us.length cc) ∧ V.cell? ⟨w.heap.size + 1, 2, none⟩ = some (.slice d vs.length cd)) (first | exact hs9 | exact hs4 | exact hs0 | (simp [hs9, World.cell?_setCell_far, hq0]))
    (first
      | (go_at_call 33; with_reducible refine Calls.mono (H2.out _ HE4.out.2.2 _ _ _ _ HE4.out.1 HE4.out.2.1) ?_; rintro e w9 ⟨k9, a8, z8, c8, a9, z9, c9, code, rfl, HE9, hs9, hb9⟩; obtain ⟨y0, y1, y2, f0, f1, f2⟩ := res_box3 HZ.out hb9)
      | (go_at_call 35; with_reducible refine Calls.mono (H1.out _ HBR.out) ?_; rintro e w4 ⟨g1, c1, g2, c2, rfl, HE4, hs4⟩))
  all_goals
    have HBW := hid (bt HB.out hb9)
    have HR := hid HE9.out
    clear HK H1 H2 HE4 HE9 hs0 hs4 hs9 hb9 HBR
    go_wp2_with fail
    refine bodyPost_ret (v := .tuple #[.agg #[.bool k9, .slice a8 z8.length c8, .slice a9 z9.length c9], .int .i64 code]) (by simp [results, Tryz.results9, go_sem, y0, y1, y2]) rfl ?_
    exact RTold.put HR.out (w.heap.size + 1 + 1) HXS.out (by omega) HBW.out _ _ _

theorem dSub_full (n : Bool) (a : Option Addr) (ca : Nat) (xs : List Int) (b : Option Addr) (cb : Nat) (ys : List Int) (m : Bool) (c : Option Addr) (cc : Nat) (us : List Int) (d : Option Addr) (cd : Nat) (vs : List Int) (w : World) (sx : Sl w (.slice a xs.length ca) xs) (sy : Sl w (.slice b ys.length cb) ys) (su : Sl w (.slice c us.length cc) us) (sv : Sl w (.slice d vs.length cd) vs) (hlx : xs.length ≤ 281474976710656) (hly : ys.length ≤ 281474976710656) (hlu : us.length ≤ 281474976710656) (hlv : vs.length ≤ 281474976710656) :
    Calls Tryz.prog 9 #[.agg #[.bool n, .slice a xs.length ca, .slice b ys.length cb], .agg #[.bool m, .slice c us.length cc, .slice d vs.length cd]] w (RTold w (rboth n xs ys m us vs) (rq n xs ys - rq m us vs)) := by
  by_cases he : rboth n xs ys m us vs = 0
  · rw [he]
    exact dSub_ok n a ca xs b cb ys m c cc us d cd vs w sx sy su sv hlx hly hlu hlv (rboth_ok he).1 (rboth_ok he).2
  · exact dSub_err n a ca xs b cb ys m c cc us d cd vs w sx sy su sv hlx hly hlu hlv he _
end Go.Proofs.YtpehpflgfkdiaaaGreat

/- Fractions: Same, Sign; slices.Equal of words. -/
namespace Go.Proofs.YtpehpflgfkdiaaaGreat
open Go.RowKit
set_option linter.unusedVariables false

set_option maxHeartbeats 800000 in
set_option maxRecDepth 100000 in
theorem slEqual_any (a : Option Addr) (n cap : Nat) (xs : List Int) (b : Option Addr) (m cap' : Nat) (ys : List Int) (w : World) (h : Reads w w.heap.size a n cap xs) (g : Reads w w.heap.size b m cap' ys) (hn : n ≤ 281474976710656) (hm : m ≤ 281474976710656) :
    Calls Tryz.prog 52 #[.slice a n cap, .slice b m cap'] w fun e w' => e = .returned (.bool (decide (xs = ys))) ∧ Below w.heap.size w w' := by
  obtain ⟨hl, hw, hc, hcap⟩ := h
  obtain ⟨gl, gw, gc, gcap⟩ := g
  by_cases hnm : n = m
  · subst hnm
    have htt : ((n : Int) != (n : Int)) = false := by simp
    rcases hc with h0 | ⟨b1, o1, rfl, hb1, hc⟩
    · subst h0
      have hx : xs = [] := List.eq_nil_of_length_eq_zero hl
      have hy : ys = [] := List.eq_nil_of_length_eq_zero gl
      subst hx; subst hy
      go_enter Tryz.func52, Tryz.ntmps52
      go_wp2
      refine wp_loop_rounds 1 ?_
      rw [rounds_succ]
      go_wp2
      go_ret
      exact ⟨rfl, Below.refl _ _⟩
    · rcases gc with g0 | ⟨b2, o2, rfl, hb2, gc⟩
      · subst g0
        have hx : xs = [] := List.eq_nil_of_length_eq_zero hl
        have hy : ys = [] := List.eq_nil_of_length_eq_zero gl
        subst hx; subst hy
        go_enter Tryz.func52, Tryz.ntmps52
        go_wp2
        refine wp_loop_rounds 1 ?_
        rw [rounds_succ]
        go_wp2
        go_ret
        exact ⟨rfl, Below.refl _ _⟩
      · have HL : Hid (xs.length = n ∧ ys.length = n) := ⟨hl, gl⟩
        clear hl gl
        go_enter Tryz.func52, Tryz.ntmps52
        go_wp2
        go_loopw [13] (fun t wr => ∃ k : Nat, k ≤ n ∧ t = .int .i64 k ∧ xs.take k = ys.take k ∧ Below w.heap.size w wr) (fun t _ => n - (intOf t).toNat)
        case atStart => exact ⟨0, Nat.zero_le _, rfl, rfl, Below.refl _ _⟩
        case round =>
          obtain ⟨k, hk, rfl, hs, hbel⟩ := hrel
          have HS : Hid (xs.take k = ys.take k) := hs
          clear hs
          by_cases hlt : k < n
          · have hcx : wr.cell? ⟨b1, o1 + k, none⟩ = some (.int .u32 (xs[k]?.getD 0)) := (hbel.cell (p := ⟨b1, o1 + k, none⟩) hb1).trans (hc k hlt)
            have hcy : wr.cell? ⟨b2, o2 + k, none⟩ = some (.int .u32 (ys[k]?.getD 0)) := (hbel.cell (p := ⟨b2, o2 + k, none⟩) hb2).trans (gc k hlt)
            by_cases he : xs[k]?.getD 0 = ys[k]?.getD 0
            · have hne : (xs[k]?.getD 0 != ys[k]?.getD 0) = false := by simp [he]
              have HE : Hid (xs[k]?.getD 0 = ys[k]?.getD 0) := he
              clear he
              go_wp2
              go_region

              all_goals go_wp2

              all_goals
                go_roundw
                case rel => exact ⟨k + 1, by omega, by go_num, take_same HS.out (by have := HL.out; omega) (by have := HL.out; omega) HE.out, hbel.drew⟩
                case measure => simp [intOf]; omega
            · have hne : (xs[k]?.getD 0 != ys[k]?.getD 0) = true := by simp [he]
              have HE : Hid (¬ xs[k]?.getD 0 = ys[k]?.getD 0) := he
              clear he
              go_wp2
              go_region
              all_goals go_wp2
              all_goals
                go_ret
                exact ⟨ret_bool (decide_eq_false fun e => HE.out (by rw [e])).symm, hbel.drew⟩
          · have hkn : k = n := by omega
            subst hkn
            go_wp2
            go_ret
            exact ⟨ret_bool (decide_eq_true (by have := HS.out; have hl := HL.out; rwa [List.take_of_length_le (by omega), List.take_of_length_le (by omega)] at this)).symm, hbel⟩
  · have hne : ((n : Int) != (m : Int)) = true := by simp; omega
    have hd : decide (xs = ys) = false := decide_eq_false fun e => hnm (by rw [← hl, ← gl, e])
    have HD : Hid (decide (xs = ys) = false) := hd
    clear hd hc gc
    go_enter Tryz.func52, Tryz.ntmps52
    go_wp2
    go_ret
    exact ⟨ret_bool HD.out.symm, Below.refl _ _⟩

/-- What Sign tells. -/
def rsgn (n : Bool) (xs ys : List Int) : Int := if rchk n xs ys = 0 then (if xs.length = 0 then 0 else if n then -1 else 1) else 0

set_option maxHeartbeats 1600000 in
set_option maxRecDepth 100000 in
theorem rSign_any (n : Bool) (a : Option Addr) (ca : Nat) (xs : List Int) (b : Option Addr) (cb : Nat) (ys : List Int) (w : World) (sx : Sl w (.slice a xs.length ca) xs) (sy : Sl w (.slice b ys.length cb) ys) :
    Calls Tryz.prog 22 #[.agg #[.bool n, .slice a xs.length ca, .slice b ys.length cb]] w fun e w' => e = .returned (.int .i64 (rsgn n xs ys)) ∧ Below w.heap.size w w' := by
  have HB := hid (alloc_later w (.cells #[.bool n, .slice a xs.length ca, .slice b ys.length cb] 24))
  have HN := hid (Box.made w 24 #[.bool n, .slice a xs.length ca, .slice b ys.length cb])
  have HC := hid (rcheck_any n _ xs _ ys _ (sx.later HB.out) (sy.later HB.out))
  clear sx sy
  by_cases he : rchk n xs ys = 0
  · rw [he] at HC
    by_cases h0 : xs.length = 0
    · have HW : Hid (rsgn n xs ys = 0) := by show _ = _; unfold rsgn; rw [if_pos he, if_pos h0]
      rw [HW.out]
      have h0' : ((xs.length : Int) == 0) = true := by rw [h0]; rfl
      clear he h0
      go_enter Tryz.func22, Tryz.ntmps22
      go_wp2_with fail
      refine Calls.mono HC.out ?_
      rintro e w1 ⟨rfl, hb1⟩
      obtain ⟨p0, p1, p2, _⟩ := res_box3 HN.out hb1
      have HBN := hid (bt HB.out hb1)
      clear hb1
      go_wp2_with fail
      go_ret
      exact ⟨rfl, HBN.out⟩
    · have h0' : ((xs.length : Int) == 0) = false := beq_eq_false_iff_ne.2 (by omega)
      cases n with
      | false =>
        have HW : Hid (rsgn false xs ys = 1) := by show _ = _; unfold rsgn; rw [if_pos he, if_neg h0]; rfl
        rw [HW.out]
        clear he h0
        go_enter Tryz.func22, Tryz.ntmps22
        go_wp2_with fail
        refine Calls.mono HC.out ?_
        rintro e w1 ⟨rfl, hb1⟩
        obtain ⟨p0, p1, p2, _⟩ := res_box3 HN.out hb1
        have HBN := hid (bt HB.out hb1)
        clear hb1
        go_wp2_with fail
        go_ret
        exact ⟨rfl, HBN.out⟩
      | true =>
        have HW : Hid (rsgn true xs ys = -1) := by show _ = _; unfold rsgn; rw [if_pos he, if_neg h0]; rfl
        rw [HW.out]
        clear he h0
        go_enter Tryz.func22, Tryz.ntmps22
        go_wp2_with fail
        refine Calls.mono HC.out ?_
        rintro e w1 ⟨rfl, hb1⟩
        obtain ⟨p0, p1, p2, _⟩ := res_box3 HN.out hb1
        have HBN := hid (bt HB.out hb1)
        clear hb1
        go_wp2_with fail
        go_ret
        exact ⟨rfl, HBN.out⟩
  · have HW : Hid (rsgn n xs ys = 0) := by show _ = _; unfold rsgn; rw [if_neg he]
    rw [HW.out]
    obtain ⟨E, hE⟩ : ∃ E, rchk n xs ys = E := ⟨_, rfl⟩
    rw [hE] at HC he
    have he' : (E == 0) = false := beq_eq_false_iff_ne.2 he
    clear he hE
    go_enter Tryz.func22, Tryz.ntmps22
    go_wp2_with fail
    refine Calls.mono HC.out ?_
    rintro e w1 ⟨rfl, hb1⟩
    have HBN := hid (bt HB.out hb1)
    clear hb1
    go_wp2_with fail
    go_ret
    exact ⟨rfl, HBN.out⟩

theorem slEqual_sl (v u : Value) (xs ys : List Int) (w : World) (h : Sl w v xs) (g : Sl w u ys) (hn : xs.length ≤ 281474976710656) (hm : ys.length ≤ 281474976710656) :
    Calls Tryz.prog 52 #[v, u] w fun e w' => e = .returned (.bool (decide (xs = ys))) ∧ Below w.heap.size w w' := by
  obtain ⟨a, ca, rfl, hr⟩ := h
  obtain ⟨b, cb, rfl, gr⟩ := g
  exact slEqual_any a _ ca xs b _ cb ys w hr gr hn hm

set_option maxHeartbeats 1600000 in
set_option maxRecDepth 100000 in
theorem rSame_any (n : Bool) (a : Option Addr) (ca : Nat) (xs : List Int) (b : Option Addr) (cb : Nat) (ys : List Int) (m : Bool) (c : Option Addr) (cc : Nat) (us : List Int) (d : Option Addr) (cd : Nat) (vs : List Int) (w : World) (sx : Sl w (.slice a xs.length ca) xs) (sy : Sl w (.slice b ys.length cb) ys) (su : Sl w (.slice c us.length cc) us) (sv : Sl w (.slice d vs.length cd) vs) (lx : xs.length ≤ 281474976710656) (ly : ys.length ≤ 281474976710656) (lu : us.length ≤ 281474976710656) (lv : vs.length ≤ 281474976710656) :
    Calls Tryz.prog 24 #[.agg #[.bool n, .slice a xs.length ca, .slice b ys.length cb], .agg #[.bool m, .slice c us.length cc, .slice d vs.length cd]] w fun e w' => e = .returned (.bool (decide (n = m ∧ xs = us ∧ ys = vs))) ∧ Below w.heap.size w w' := by
  have HB : Hid (Below w.heap.size w ((w.alloc (.cells #[.bool n, .slice a xs.length ca, .slice b ys.length cb] 24)).alloc (.cells #[.bool m, .slice c us.length cc, .slice d vs.length cd] 24))) := bt (alloc_later _ _) (alloc_later _ _)
  have HN : Hid (Box ((w.alloc (.cells #[.bool n, .slice a xs.length ca, .slice b ys.length cb] 24)).alloc (.cells #[.bool m, .slice c us.length cc, .slice d vs.length cd] 24)) w.heap.size 24 #[.bool n, .slice a xs.length ca, .slice b ys.length cb]) := Box.later (Box.made w _ _) (alloc_later _ _) (by simp)
  have HM : Hid (Box ((w.alloc (.cells #[.bool n, .slice a xs.length ca, .slice b ys.length cb] 24)).alloc (.cells #[.bool m, .slice c us.length cc, .slice d vs.length cd] 24)) (w.heap.size + 1) 24 #[.bool m, .slice c us.length cc, .slice d vs.length cd]) := by
    have e := Box.made (w.alloc (.cells #[.bool n, .slice a xs.length ca, .slice b ys.length cb] 24)) 24 #[.bool m, .slice c us.length cc, .slice d vs.length cd]
    simp at e
    exact e
  have H1 := hid (slEqual_sl _ _ xs us ((w.alloc (.cells #[.bool n, .slice a xs.length ca, .slice b ys.length cb] 24)).alloc (.cells #[.bool m, .slice c us.length cc, .slice d vs.length cd] 24)) (sx.later HB.out) (su.later HB.out) lx lu)
  have H2 := hid (fun ww (hb : Below ((w.alloc (.cells #[.bool n, .slice a xs.length ca, .slice b ys.length cb] 24)).alloc (.cells #[.bool m, .slice c us.length cc, .slice d vs.length cd] 24)).heap.size ((w.alloc (.cells #[.bool n, .slice a xs.length ca, .slice b ys.length cb] 24)).alloc (.cells #[.bool m, .slice c us.length cc, .slice d vs.length cd] 24)) ww) => slEqual_sl _ _ ys vs ww ((sy.later HB.out).later hb) ((sv.later HB.out).later hb) ly lv)
  clear sx sy su sv
  by_cases h0 : n = m
  · subst h0
    have hbb : (n == n) = true := by simp
    by_cases h1 : xs = us
    · have HR : Hid (decide (n = n ∧ xs = us ∧ ys = vs) = decide (ys = vs)) := by show _ = _; simp [h1]
      rw [decide_eq_true h1] at H1
      rw [HR.out]
      clear h1
      go_enter Tryz.func24, Tryz.ntmps24
      go_wp2_with fail
      refine Calls.mono H1.out ?_
      generalize ((w.alloc (.cells #[.bool n, .slice a xs.length ca, .slice b ys.length cb] 24)).alloc (.cells #[.bool n, .slice c us.length cc, .slice d vs.length cd] 24)) = X at *
      rintro e w1 ⟨rfl, hb1⟩
      obtain ⟨p0, p1, p2, _⟩ := res_box3 HN.out hb1
      obtain ⟨q0, q1, q2, _⟩ := res_box3 HM.out hb1
      have HC := hid (H2.out w1 hb1)
      have HB1 := hid (bt HB.out hb1)
      clear hb1 H1 H2
      go_wp2_with fail
      refine Calls.mono HC.out ?_
      rintro e w2 ⟨rfl, hb2⟩
      have HBN := hid (bt HB1.out hb2)
      clear hb2 HC
      go_wp2_with fail
      go_ret
      exact ⟨rfl, HBN.out⟩
    · have HR : Hid (decide (n = n ∧ xs = us ∧ ys = vs) = false) := decide_eq_false (fun h => h1 h.2.1)
      rw [decide_eq_false h1] at H1
      rw [HR.out]
      clear h1
      go_enter Tryz.func24, Tryz.ntmps24
      go_wp2_with fail
      refine Calls.mono H1.out ?_
      rintro e w1 ⟨rfl, hb1⟩
      have HBN := hid (bt HB.out hb1)
      clear hb1 H1 H2
      go_wp2_with fail
      go_ret
      exact ⟨rfl, HBN.out⟩
  · have HR : Hid (decide (n = m ∧ xs = us ∧ ys = vs) = false) := decide_eq_false (fun h => h0 h.1)
    have hbb : (n == m) = false := by simp [h0]
    rw [HR.out]
    clear h0
    go_enter Tryz.func24, Tryz.ntmps24
    go_wp2_with fail
    go_ret
    exact ⟨rfl, HB.out⟩
end Go.Proofs.YtpehpflgfkdiaaaGreat

/- Fractions: ratio.compareSizes, Compare: of any fractions, good or refused. -/
namespace Go.Proofs.YtpehpflgfkdiaaaGreat
open Go.RowKit
set_option linter.unusedVariables false

theorem cmp_negs (x y : Int) : cmpI y x = cmpI (-x) (-y) := by
  by_cases h1 : y < x
  · rw [cmpI_lt h1, cmpI_lt (by omega)]
  · by_cases h2 : x < y
    · rw [cmpI_gt h2, cmpI_gt (by omega)]
    · obtain rfl : x = y := by omega
      unfold cmpI
      simp

set_option maxHeartbeats 3200000 in
set_option maxRecDepth 100000 in
theorem rsizes_any (n : Bool) (a : Option Addr) (ca : Nat) (xs : List Int) (b : Option Addr) (cb : Nat) (ys : List Int) (m : Bool) (c : Option Addr) (cc : Nat) (us : List Int) (d : Option Addr) (cd : Nat) (vs : List Int) (w : World) (sx : Sl w (.slice a xs.length ca) xs) (sy : Sl w (.slice b ys.length cb) ys) (su : Sl w (.slice c us.length cc) us) (sv : Sl w (.slice d vs.length cd) vs) (lx : xs.length ≤ 2048) (ly : ys.length ≤ 2048) (lu : us.length ≤ 2048) (lv : vs.length ≤ 2048) (tx : Trimmed xs) (ty : Trimmed ys) (tu : Trimmed us) (tv : Trimmed vs) :
    Calls Tryz.prog 41 #[.agg #[.bool n, .slice a xs.length ca, .slice b ys.length cb], .agg #[.bool m, .slice c us.length cc, .slice d vs.length cd]] w fun e w' => e = .returned (.int .i64 (cmpI (val xs * val vs) (val us * val ys))) ∧ Below w.heap.size w w' := by
  have wx := sx.wd
  have wy := sy.wd
  have wu := su.wd
  have wv := sv.wd
  have HB : Hid (Below w.heap.size w ((w.alloc (.cells #[.bool n, .slice a xs.length ca, .slice b ys.length cb] 24)).alloc (.cells #[.bool m, .slice c us.length cc, .slice d vs.length cd] 24))) := bt (alloc_later _ _) (alloc_later _ _)
  have HN : Hid (Box ((w.alloc (.cells #[.bool n, .slice a xs.length ca, .slice b ys.length cb] 24)).alloc (.cells #[.bool m, .slice c us.length cc, .slice d vs.length cd] 24)) w.heap.size 24 #[.bool n, .slice a xs.length ca, .slice b ys.length cb]) := Box.later (Box.made w _ _) (alloc_later _ _) (by simp)
  have HM : Hid (Box ((w.alloc (.cells #[.bool n, .slice a xs.length ca, .slice b ys.length cb] 24)).alloc (.cells #[.bool m, .slice c us.length cc, .slice d vs.length cd] 24)) (w.heap.size + 1) 24 #[.bool m, .slice c us.length cc, .slice d vs.length cd]) := by
    have e := Box.made (w.alloc (.cells #[.bool n, .slice a xs.length ca, .slice b ys.length cb] 24)) 24 #[.bool m, .slice c us.length cc, .slice d vs.length cd]
    simp at e
    exact e
  have HSL := hid (And.intro (sx.later HB.out) (And.intro (sy.later HB.out) (And.intro (su.later HB.out) (sv.later HB.out))))
  have HL : Hid (val xs * val vs < 4294967296 ^ 4096 ∧ val us * val ys < 4294967296 ^ 4096) := ⟨mul_4096 (val_nonneg wx) (below2048 wx lx) (val_nonneg wv) (below2048 wv lv), mul_4096 (val_nonneg wu) (below2048 wu lu) (val_nonneg wy) (below2048 wy ly)⟩
  have HTT := hid (And.intro tx (And.intro ty (And.intro tu tv)))
  obtain ⟨R, hR⟩ : ∃ R, cmpI (val xs * val vs) (val us * val ys) = R := ⟨_, rfl⟩
  rw [hR]
  have HR := hid hR
  clear sx sy su sv tx ty tu tv wx wy wu wv hR
  go_enter Tryz.func41, Tryz.ntmps41
  go_wp2_with fail
  generalize ((w.alloc (.cells #[.bool n, .slice a xs.length ca, .slice b ys.length cb] 24)).alloc (.cells #[.bool m, .slice c us.length cc, .slice d vs.length cd] 24)) = X at *
  have HK : Hid (∀ V, Below X.heap.size X V → V.cell? ⟨w.heap.size, 0, none⟩ = some (.bool n) ∧ V.cell? ⟨w.heap.size, 1, none⟩ = some (.slice a xs.length ca) ∧ V.cell? ⟨w.heap.size, 2, none⟩ = some (.slice b ys.length cb) ∧ V.cell? ⟨w.heap.size + 1, 0, none⟩ = some (.bool m) ∧ V.cell? ⟨w.heap.size + 1, 1, none⟩ = some (.slice c us.length cc) ∧ V.cell? ⟨w.heap.size + 1, 2, none⟩ = some (.slice d vs.length cd)) := fun V hb => by
    obtain ⟨p0, p1, p2, _⟩ := res_box3 HN.out hb
    obtain ⟨q0, q1, q2, _⟩ := res_box3 HM.out hb
    exact ⟨p0, p1, p2, q0, q1, q2⟩
  have hs0 := HK.out _ (Below.drew (Below.refl _ X))
  have HBR := hid (Below.drew (Below.refl X.heap.size X))
  have H1 := hid (fun ww (hv : Below X.heap.size X ww) => told1_in _ HK.out ww hv (rprod_any _ _ xs vs ww (HSL.out.1.later hv) (HSL.out.2.2.2.later hv) (by omega) HTT.out.1 HTT.out.2.2.2))
  have H2 := hid (fun ww (hv : Below X.heap.size X ww) => told1_in _ HK.out ww hv (rprod_any _ _ us ys ww (HSL.out.2.2.1.later hv) (HSL.out.2.1.later hv) (by omega) HTT.out.2.2.1 HTT.out.2.1))
  have H3 : Hid (∀ ww, Below X.heap.size X ww → ∀ a4 z4 c4 a5 z5 c5, One X ww (.slice a4 (List.length z4) c4) z4 (val xs * val vs) → One X ww (.slice a5 (List.length z5) c5) z5 (val us * val ys) → Calls Tryz.prog 66 #[.slice a4 z4.length c4, .slice a5 z5.length c5] ww fun e w' => e = .returned (.int .i64 R) ∧ Hid (Below X.heap.size X w') ∧ w'.cell? ⟨w.heap.size, 0, none⟩ = some (.bool n) ∧ w'.cell? ⟨w.heap.size, 1, none⟩ = some (.slice a xs.length ca) ∧ w'.cell? ⟨w.heap.size, 2, none⟩ = some (.slice b ys.length cb) ∧ w'.cell? ⟨w.heap.size + 1, 0, none⟩ = some (.bool m) ∧ w'.cell? ⟨w.heap.size + 1, 1, none⟩ = some (.slice c us.length cc) ∧ w'.cell? ⟨w.heap.size + 1, 2, none⟩ = some (.slice d vs.length cd)) := fun ww hv a4 z4 c4 a5 z5 c5 h4 h5 => by
    have e := compare_sl _ _ z4 z5 ww h4.sl h5.sl (by have := own_len h4 HL.out.1; omega) (by have := own_len h5 HL.out.2; omega)
    rw [h4.2.2.2, h5.2.2.2, HR.out] at e
    refine Calls.mono e ?_
    rintro e w' ⟨rfl, hb⟩
    exact ⟨rfl, (bt hv hb), HK.out w' (bt hv hb)⟩
  clear HSL HTT HL HR
  go_region_held3 (fun V : World => V.cell? ⟨w.heap.size, 0, none⟩ = some (.bool n) ∧ V.cell? ⟨w.heap.size, 1, none⟩ = some (.slice a xs.length ca) ∧ V.cell? ⟨w.heap.size, 2, none⟩ = some (.slice b ys.length cb) ∧ V.cell? ⟨w.heap.size + 1, 0, none⟩ = some (.bool m) ∧ V.cell? ⟨w.heap.size + 1, 1, none⟩ = some (.slice c us.length cc) ∧ V.cell? ⟨w.heap.size + 1, 2, none⟩ = some (.slice d vs.length cd)) (first | exact hs9 | exact hs5 | exact hs4 | exact hs0)
    (first
      | (go_at_call 66; with_reducible refine Calls.mono (H3.out _ hb5 _ _ _ _ _ _ (HE4.out.1.later HS5.out) HE5.out.1) ?_; rintro e w9 ⟨rfl, HE9, hs9⟩)
      | (go_at_call 60; with_reducible refine Calls.mono (H2.out _ hb4) ?_; rintro e w5 ⟨a5, z5, c5, rfl, HE5, hs5, hb5, HS5⟩)
      | (go_at_call 60; with_reducible refine Calls.mono (H1.out _ HBR.out) ?_; rintro e w4 ⟨a4, z4, c4, rfl, HE4, hs4, hb4, HS4⟩))
  all_goals
    have HBN := hid (bt HB.out HE9.out)
    clear HK H1 H2 H3 HE4 HE5 HE9 HS4 HS5 hs0 hs4 hs5 hs9 hb4 hb5 HBR
    go_wp2_with fail
    go_ret
    exact ⟨rfl, HBN.out⟩
/-- What Compare tells. -/
def rcmp (n : Bool) (xs ys : List Int) (m : Bool) (us vs : List Int) : Int := if rboth n xs ys m us vs = 0 then cmpI (wval n xs * val vs) (wval m us * val ys) else 0

set_option maxHeartbeats 3200000 in
set_option maxRecDepth 100000 in
theorem rCompare_ff (a : Option Addr) (ca : Nat) (xs : List Int) (b : Option Addr) (cb : Nat) (ys : List Int) (c : Option Addr) (cc : Nat) (us : List Int) (d : Option Addr) (cd : Nat) (vs : List Int) (w : World) (sx : Sl w (.slice a xs.length ca) xs) (sy : Sl w (.slice b ys.length cb) ys) (su : Sl w (.slice c us.length cc) us) (sv : Sl w (.slice d vs.length cd) vs) (hx : rchk false xs ys = 0) (hy : rchk false us vs = 0) :
    Calls Tryz.prog 16 #[.agg #[.bool false, .slice a xs.length ca, .slice b ys.length cb], .agg #[.bool false, .slice c us.length cc, .slice d vs.length cd]] w fun e w' => e = .returned (.tuple #[.int .i64 (cmpI (wval false xs * val vs) (wval false us * val ys)), .int .i64 0]) ∧ Below w.heap.size w w' := by
  obtain ⟨lx, ly, tx, ty, y0, nx, _⟩ := rchk_ok hx
  obtain ⟨lu, lv, tu, tv, v0, nu, _⟩ := rchk_ok hy
  have wx := sx.wd
  have wu := su.wd
  have py := val_pos' sy.wd ty y0
  have pv := val_pos' sv.wd tv v0
  have HB : Hid (Below w.heap.size w ((w.alloc (.cells #[.bool false, .slice a xs.length ca, .slice b ys.length cb] 24)).alloc (.cells #[.bool false, .slice c us.length cc, .slice d vs.length cd] 24))) := bt (alloc_later _ _) (alloc_later _ _)
  have HN : Hid (Box ((w.alloc (.cells #[.bool false, .slice a xs.length ca, .slice b ys.length cb] 24)).alloc (.cells #[.bool false, .slice c us.length cc, .slice d vs.length cd] 24)) w.heap.size 24 #[.bool false, .slice a xs.length ca, .slice b ys.length cb]) := Box.later (Box.made w _ _) (alloc_later _ _) (by simp)
  have HM : Hid (Box ((w.alloc (.cells #[.bool false, .slice a xs.length ca, .slice b ys.length cb] 24)).alloc (.cells #[.bool false, .slice c us.length cc, .slice d vs.length cd] 24)) (w.heap.size + 1) 24 #[.bool false, .slice c us.length cc, .slice d vs.length cd]) := by
    have e := Box.made (w.alloc (.cells #[.bool false, .slice a xs.length ca, .slice b ys.length cb] 24)) 24 #[.bool false, .slice c us.length cc, .slice d vs.length cd]
    simp at e
    exact e
  have HSL := hid (And.intro (sx.later HB.out) (And.intro (sy.later HB.out) (And.intro (su.later HB.out) (sv.later HB.out))))
  have HC := hid (rcheckBoth_any false _ xs _ ys false _ us _ vs ((w.alloc (.cells #[.bool false, .slice a xs.length ca, .slice b ys.length cb] 24)).alloc (.cells #[.bool false, .slice c us.length cc, .slice d vs.length cd] 24)) HSL.out.1 HSL.out.2.1 HSL.out.2.2.1 HSL.out.2.2.2)
  rw [rboth_good hx hy] at HC
  have HA := hid (fun ww (hb : Below ((w.alloc (.cells #[.bool false, .slice a xs.length ca, .slice b ys.length cb] 24)).alloc (.cells #[.bool false, .slice c us.length cc, .slice d vs.length cd] 24)).heap.size ((w.alloc (.cells #[.bool false, .slice a xs.length ca, .slice b ys.length cb] 24)).alloc (.cells #[.bool false, .slice c us.length cc, .slice d vs.length cd] 24)) ww) => rsizes_any false a ca xs b cb ys false c cc us d cd vs ww (HSL.out.1.later hb) (HSL.out.2.1.later hb) (HSL.out.2.2.1.later hb) (HSL.out.2.2.2.later hb) lx ly lu lv tx ty tu tv)
  have heq : cmpI (val xs * val vs) (val us * val ys) = cmpI (wval false xs * val vs) (wval false us * val ys) := rfl
  rw [heq] at HA
  obtain ⟨R, hR⟩ : ∃ R, cmpI (wval false xs * val vs) (wval false us * val ys) = R := ⟨_, rfl⟩
  rw [hR] at HA ⊢
  clear sx sy su sv hx hy tx ty tu tv wx wu py pv heq hR lx ly lu lv y0 v0 nx nu
  go_enter Tryz.func16, Tryz.ntmps16
  go_wp2_with fail
  refine Calls.mono HC.out ?_
  generalize ((w.alloc (.cells #[.bool false, .slice a xs.length ca, .slice b ys.length cb] 24)).alloc (.cells #[.bool false, .slice c us.length cc, .slice d vs.length cd] 24)) = X at *
  rintro e w1 ⟨rfl, hb1⟩
  obtain ⟨p0, p1, p2, _⟩ := res_box3 HN.out hb1
  obtain ⟨q0, q1, q2, _⟩ := res_box3 HM.out hb1
  have HCA := hid (HA.out w1 hb1)
  have HB1 := hid (bt HB.out hb1)
  clear hb1 HC HA
  go_wp2_with fail
  refine Calls.mono HCA.out ?_
  rintro e w2 ⟨rfl, hb2⟩
  have HBN := hid (bt HB1.out hb2)
  clear hb2 HCA
  go_wp2_with fail
  go_ret2
  exact ⟨rfl, HBN.out⟩

set_option maxHeartbeats 3200000 in
set_option maxRecDepth 100000 in
theorem rCompare_tt (a : Option Addr) (ca : Nat) (xs : List Int) (b : Option Addr) (cb : Nat) (ys : List Int) (c : Option Addr) (cc : Nat) (us : List Int) (d : Option Addr) (cd : Nat) (vs : List Int) (w : World) (sx : Sl w (.slice a xs.length ca) xs) (sy : Sl w (.slice b ys.length cb) ys) (su : Sl w (.slice c us.length cc) us) (sv : Sl w (.slice d vs.length cd) vs) (hx : rchk true xs ys = 0) (hy : rchk true us vs = 0) :
    Calls Tryz.prog 16 #[.agg #[.bool true, .slice a xs.length ca, .slice b ys.length cb], .agg #[.bool true, .slice c us.length cc, .slice d vs.length cd]] w fun e w' => e = .returned (.tuple #[.int .i64 (cmpI (wval true xs * val vs) (wval true us * val ys)), .int .i64 0]) ∧ Below w.heap.size w w' := by
  obtain ⟨lx, ly, tx, ty, y0, nx, _⟩ := rchk_ok hx
  obtain ⟨lu, lv, tu, tv, v0, nu, _⟩ := rchk_ok hy
  have wx := sx.wd
  have wu := su.wd
  have py := val_pos' sy.wd ty y0
  have pv := val_pos' sv.wd tv v0
  have HB : Hid (Below w.heap.size w ((w.alloc (.cells #[.bool true, .slice a xs.length ca, .slice b ys.length cb] 24)).alloc (.cells #[.bool true, .slice c us.length cc, .slice d vs.length cd] 24))) := bt (alloc_later _ _) (alloc_later _ _)
  have HN : Hid (Box ((w.alloc (.cells #[.bool true, .slice a xs.length ca, .slice b ys.length cb] 24)).alloc (.cells #[.bool true, .slice c us.length cc, .slice d vs.length cd] 24)) w.heap.size 24 #[.bool true, .slice a xs.length ca, .slice b ys.length cb]) := Box.later (Box.made w _ _) (alloc_later _ _) (by simp)
  have HM : Hid (Box ((w.alloc (.cells #[.bool true, .slice a xs.length ca, .slice b ys.length cb] 24)).alloc (.cells #[.bool true, .slice c us.length cc, .slice d vs.length cd] 24)) (w.heap.size + 1) 24 #[.bool true, .slice c us.length cc, .slice d vs.length cd]) := by
    have e := Box.made (w.alloc (.cells #[.bool true, .slice a xs.length ca, .slice b ys.length cb] 24)) 24 #[.bool true, .slice c us.length cc, .slice d vs.length cd]
    simp at e
    exact e
  have HSL := hid (And.intro (sx.later HB.out) (And.intro (sy.later HB.out) (And.intro (su.later HB.out) (sv.later HB.out))))
  have HC := hid (rcheckBoth_any true _ xs _ ys true _ us _ vs ((w.alloc (.cells #[.bool true, .slice a xs.length ca, .slice b ys.length cb] 24)).alloc (.cells #[.bool true, .slice c us.length cc, .slice d vs.length cd] 24)) HSL.out.1 HSL.out.2.1 HSL.out.2.2.1 HSL.out.2.2.2)
  rw [rboth_good hx hy] at HC
  have HA := hid (fun ww (hb : Below ((w.alloc (.cells #[.bool true, .slice a xs.length ca, .slice b ys.length cb] 24)).alloc (.cells #[.bool true, .slice c us.length cc, .slice d vs.length cd] 24)).heap.size ((w.alloc (.cells #[.bool true, .slice a xs.length ca, .slice b ys.length cb] 24)).alloc (.cells #[.bool true, .slice c us.length cc, .slice d vs.length cd] 24)) ww) => rsizes_any true c cc us d cd vs true a ca xs b cb ys ww (HSL.out.2.2.1.later hb) (HSL.out.2.2.2.later hb) (HSL.out.1.later hb) (HSL.out.2.1.later hb) lu lv lx ly tu tv tx ty)
  have heq : cmpI (val us * val ys) (val xs * val vs) = cmpI (wval true xs * val vs) (wval true us * val ys) := by
    show _ = cmpI (-(val xs) * val vs) (-(val us) * val ys)
    rw [Int.neg_mul, Int.neg_mul]
    exact cmp_negs _ _
  rw [heq] at HA
  obtain ⟨R, hR⟩ : ∃ R, cmpI (wval true xs * val vs) (wval true us * val ys) = R := ⟨_, rfl⟩
  rw [hR] at HA ⊢
  clear sx sy su sv hx hy tx ty tu tv wx wu py pv heq hR lx ly lu lv y0 v0 nx nu
  go_enter Tryz.func16, Tryz.ntmps16
  go_wp2_with fail
  refine Calls.mono HC.out ?_
  generalize ((w.alloc (.cells #[.bool true, .slice a xs.length ca, .slice b ys.length cb] 24)).alloc (.cells #[.bool true, .slice c us.length cc, .slice d vs.length cd] 24)) = X at *
  rintro e w1 ⟨rfl, hb1⟩
  obtain ⟨p0, p1, p2, _⟩ := res_box3 HN.out hb1
  obtain ⟨q0, q1, q2, _⟩ := res_box3 HM.out hb1
  have HCA := hid (HA.out w1 hb1)
  have HB1 := hid (bt HB.out hb1)
  clear hb1 HC HA
  go_wp2_with fail
  refine Calls.mono HCA.out ?_
  rintro e w2 ⟨rfl, hb2⟩
  have HBN := hid (bt HB1.out hb2)
  clear hb2 HCA
  go_wp2_with fail
  go_ret2
  exact ⟨rfl, HBN.out⟩

set_option maxHeartbeats 3200000 in
set_option maxRecDepth 100000 in
theorem rCompare_tf (a : Option Addr) (ca : Nat) (xs : List Int) (b : Option Addr) (cb : Nat) (ys : List Int) (c : Option Addr) (cc : Nat) (us : List Int) (d : Option Addr) (cd : Nat) (vs : List Int) (w : World) (sx : Sl w (.slice a xs.length ca) xs) (sy : Sl w (.slice b ys.length cb) ys) (su : Sl w (.slice c us.length cc) us) (sv : Sl w (.slice d vs.length cd) vs) (hx : rchk true xs ys = 0) (hy : rchk false us vs = 0) :
    Calls Tryz.prog 16 #[.agg #[.bool true, .slice a xs.length ca, .slice b ys.length cb], .agg #[.bool false, .slice c us.length cc, .slice d vs.length cd]] w fun e w' => e = .returned (.tuple #[.int .i64 (cmpI (wval true xs * val vs) (wval false us * val ys)), .int .i64 0]) ∧ Below w.heap.size w w' := by
  obtain ⟨lx, ly, tx, ty, y0, nx, _⟩ := rchk_ok hx
  obtain ⟨lu, lv, tu, tv, v0, nu, _⟩ := rchk_ok hy
  have wx := sx.wd
  have wu := su.wd
  have py := val_pos' sy.wd ty y0
  have pv := val_pos' sv.wd tv v0
  have HB : Hid (Below w.heap.size w ((w.alloc (.cells #[.bool true, .slice a xs.length ca, .slice b ys.length cb] 24)).alloc (.cells #[.bool false, .slice c us.length cc, .slice d vs.length cd] 24))) := bt (alloc_later _ _) (alloc_later _ _)
  have HN : Hid (Box ((w.alloc (.cells #[.bool true, .slice a xs.length ca, .slice b ys.length cb] 24)).alloc (.cells #[.bool false, .slice c us.length cc, .slice d vs.length cd] 24)) w.heap.size 24 #[.bool true, .slice a xs.length ca, .slice b ys.length cb]) := Box.later (Box.made w _ _) (alloc_later _ _) (by simp)
  have HM : Hid (Box ((w.alloc (.cells #[.bool true, .slice a xs.length ca, .slice b ys.length cb] 24)).alloc (.cells #[.bool false, .slice c us.length cc, .slice d vs.length cd] 24)) (w.heap.size + 1) 24 #[.bool false, .slice c us.length cc, .slice d vs.length cd]) := by
    have e := Box.made (w.alloc (.cells #[.bool true, .slice a xs.length ca, .slice b ys.length cb] 24)) 24 #[.bool false, .slice c us.length cc, .slice d vs.length cd]
    simp at e
    exact e
  have HSL := hid (And.intro (sx.later HB.out) (And.intro (sy.later HB.out) (And.intro (su.later HB.out) (sv.later HB.out))))
  have HC := hid (rcheckBoth_any true _ xs _ ys false _ us _ vs ((w.alloc (.cells #[.bool true, .slice a xs.length ca, .slice b ys.length cb] 24)).alloc (.cells #[.bool false, .slice c us.length cc, .slice d vs.length cd] 24)) HSL.out.1 HSL.out.2.1 HSL.out.2.2.1 HSL.out.2.2.2)
  rw [rboth_good hx hy] at HC
  have hR : cmpI (wval true xs * val vs) (wval false us * val ys) = -1 := by
    have h1 := val_pos' wx tx (nx.elim (fun e => by cases e) id)
    have h2 := val_nonneg wu
    have h3 := Int.mul_pos (a := val xs) (b := val vs) (by omega) (by omega)
    have h4 := Int.mul_nonneg h2 (show 0 ≤ val ys by omega)
    show cmpI (-(val xs) * val vs) (val us * val ys) = -1
    rw [Int.neg_mul]
    exact cmpI_lt (by omega)
  rw [hR]
  clear sx sy su sv hx hy tx ty tu tv wx wu py pv hR lx ly lu lv y0 v0 nx nu
  go_enter Tryz.func16, Tryz.ntmps16
  go_wp2_with fail
  refine Calls.mono HC.out ?_
  generalize ((w.alloc (.cells #[.bool true, .slice a xs.length ca, .slice b ys.length cb] 24)).alloc (.cells #[.bool false, .slice c us.length cc, .slice d vs.length cd] 24)) = X at *
  rintro e w1 ⟨rfl, hb1⟩
  obtain ⟨p0, p1, p2, _⟩ := res_box3 HN.out hb1
  obtain ⟨q0, q1, q2, _⟩ := res_box3 HM.out hb1
  have HBN := hid (bt HB.out hb1)
  clear hb1 HC
  go_wp2_with fail
  go_ret2
  exact ⟨rfl, HBN.out⟩

set_option maxHeartbeats 3200000 in
set_option maxRecDepth 100000 in
theorem rCompare_ft (a : Option Addr) (ca : Nat) (xs : List Int) (b : Option Addr) (cb : Nat) (ys : List Int) (c : Option Addr) (cc : Nat) (us : List Int) (d : Option Addr) (cd : Nat) (vs : List Int) (w : World) (sx : Sl w (.slice a xs.length ca) xs) (sy : Sl w (.slice b ys.length cb) ys) (su : Sl w (.slice c us.length cc) us) (sv : Sl w (.slice d vs.length cd) vs) (hx : rchk false xs ys = 0) (hy : rchk true us vs = 0) :
    Calls Tryz.prog 16 #[.agg #[.bool false, .slice a xs.length ca, .slice b ys.length cb], .agg #[.bool true, .slice c us.length cc, .slice d vs.length cd]] w fun e w' => e = .returned (.tuple #[.int .i64 (cmpI (wval false xs * val vs) (wval true us * val ys)), .int .i64 0]) ∧ Below w.heap.size w w' := by
  obtain ⟨lx, ly, tx, ty, y0, nx, _⟩ := rchk_ok hx
  obtain ⟨lu, lv, tu, tv, v0, nu, _⟩ := rchk_ok hy
  have wx := sx.wd
  have wu := su.wd
  have py := val_pos' sy.wd ty y0
  have pv := val_pos' sv.wd tv v0
  have HB : Hid (Below w.heap.size w ((w.alloc (.cells #[.bool false, .slice a xs.length ca, .slice b ys.length cb] 24)).alloc (.cells #[.bool true, .slice c us.length cc, .slice d vs.length cd] 24))) := bt (alloc_later _ _) (alloc_later _ _)
  have HN : Hid (Box ((w.alloc (.cells #[.bool false, .slice a xs.length ca, .slice b ys.length cb] 24)).alloc (.cells #[.bool true, .slice c us.length cc, .slice d vs.length cd] 24)) w.heap.size 24 #[.bool false, .slice a xs.length ca, .slice b ys.length cb]) := Box.later (Box.made w _ _) (alloc_later _ _) (by simp)
  have HM : Hid (Box ((w.alloc (.cells #[.bool false, .slice a xs.length ca, .slice b ys.length cb] 24)).alloc (.cells #[.bool true, .slice c us.length cc, .slice d vs.length cd] 24)) (w.heap.size + 1) 24 #[.bool true, .slice c us.length cc, .slice d vs.length cd]) := by
    have e := Box.made (w.alloc (.cells #[.bool false, .slice a xs.length ca, .slice b ys.length cb] 24)) 24 #[.bool true, .slice c us.length cc, .slice d vs.length cd]
    simp at e
    exact e
  have HSL := hid (And.intro (sx.later HB.out) (And.intro (sy.later HB.out) (And.intro (su.later HB.out) (sv.later HB.out))))
  have HC := hid (rcheckBoth_any false _ xs _ ys true _ us _ vs ((w.alloc (.cells #[.bool false, .slice a xs.length ca, .slice b ys.length cb] 24)).alloc (.cells #[.bool true, .slice c us.length cc, .slice d vs.length cd] 24)) HSL.out.1 HSL.out.2.1 HSL.out.2.2.1 HSL.out.2.2.2)
  rw [rboth_good hx hy] at HC
  have hR : cmpI (wval false xs * val vs) (wval true us * val ys) = 1 := by
    have h1 := val_pos' wu tu (nu.elim (fun e => by cases e) id)
    have h2 := val_nonneg wx
    have h3 := Int.mul_pos (a := val us) (b := val ys) (by omega) (by omega)
    have h4 := Int.mul_nonneg h2 (show 0 ≤ val vs by omega)
    show cmpI (val xs * val vs) (-(val us) * val ys) = 1
    rw [Int.neg_mul]
    exact cmpI_gt (by omega)
  rw [hR]
  clear sx sy su sv hx hy tx ty tu tv wx wu py pv hR lx ly lu lv y0 v0 nx nu
  go_enter Tryz.func16, Tryz.ntmps16
  go_wp2_with fail
  refine Calls.mono HC.out ?_
  generalize ((w.alloc (.cells #[.bool false, .slice a xs.length ca, .slice b ys.length cb] 24)).alloc (.cells #[.bool true, .slice c us.length cc, .slice d vs.length cd] 24)) = X at *
  rintro e w1 ⟨rfl, hb1⟩
  obtain ⟨p0, p1, p2, _⟩ := res_box3 HN.out hb1
  obtain ⟨q0, q1, q2, _⟩ := res_box3 HM.out hb1
  have HBN := hid (bt HB.out hb1)
  clear hb1 HC
  go_wp2_with fail
  go_ret2
  exact ⟨rfl, HBN.out⟩

set_option maxHeartbeats 1600000 in
set_option maxRecDepth 100000 in
theorem rCompare_err (n : Bool) (a : Option Addr) (ca : Nat) (xs : List Int) (b : Option Addr) (cb : Nat) (ys : List Int) (m : Bool) (c : Option Addr) (cc : Nat) (us : List Int) (d : Option Addr) (cd : Nat) (vs : List Int) (w : World) (sx : Sl w (.slice a xs.length ca) xs) (sy : Sl w (.slice b ys.length cb) ys) (su : Sl w (.slice c us.length cc) us) (sv : Sl w (.slice d vs.length cd) vs) (he : rboth n xs ys m us vs ≠ 0) :
    Calls Tryz.prog 16 #[.agg #[.bool n, .slice a xs.length ca, .slice b ys.length cb], .agg #[.bool m, .slice c us.length cc, .slice d vs.length cd]] w fun e w' => e = .returned (.tuple #[.int .i64 0, .int .i64 (rboth n xs ys m us vs)]) ∧ Below w.heap.size w w' := by
  have HB : Hid (Below w.heap.size w ((w.alloc (.cells #[.bool n, .slice a xs.length ca, .slice b ys.length cb] 24)).alloc (.cells #[.bool m, .slice c us.length cc, .slice d vs.length cd] 24))) := bt (alloc_later _ _) (alloc_later _ _)
  have HN : Hid (Box ((w.alloc (.cells #[.bool n, .slice a xs.length ca, .slice b ys.length cb] 24)).alloc (.cells #[.bool m, .slice c us.length cc, .slice d vs.length cd] 24)) w.heap.size 24 #[.bool n, .slice a xs.length ca, .slice b ys.length cb]) := Box.later (Box.made w _ _) (alloc_later _ _) (by simp)
  have HM : Hid (Box ((w.alloc (.cells #[.bool n, .slice a xs.length ca, .slice b ys.length cb] 24)).alloc (.cells #[.bool m, .slice c us.length cc, .slice d vs.length cd] 24)) (w.heap.size + 1) 24 #[.bool m, .slice c us.length cc, .slice d vs.length cd]) := by
    have e := Box.made (w.alloc (.cells #[.bool n, .slice a xs.length ca, .slice b ys.length cb] 24)) 24 #[.bool m, .slice c us.length cc, .slice d vs.length cd]
    simp at e
    exact e
  have HSL := hid (And.intro (sx.later HB.out) (And.intro (sy.later HB.out) (And.intro (su.later HB.out) (sv.later HB.out))))
  have HC := hid (rcheckBoth_any n _ xs _ ys m _ us _ vs ((w.alloc (.cells #[.bool n, .slice a xs.length ca, .slice b ys.length cb] 24)).alloc (.cells #[.bool m, .slice c us.length cc, .slice d vs.length cd] 24)) HSL.out.1 HSL.out.2.1 HSL.out.2.2.1 HSL.out.2.2.2)
  obtain ⟨E, hE⟩ : ∃ E, rboth n xs ys m us vs = E := ⟨_, rfl⟩
  rw [hE] at HC he ⊢
  have he' : (E == 0) = false := beq_eq_false_iff_ne.2 he
  clear he hE sx sy su sv
  go_enter Tryz.func16, Tryz.ntmps16
  go_wp2_with fail
  refine Calls.mono HC.out ?_
  rintro e w1 ⟨rfl, hb1⟩
  have HBN := hid (bt HB.out hb1)
  clear hb1 HC HN HM HSL
  go_wp2_with fail
  go_ret2
  exact ⟨rfl, HBN.out⟩
theorem rCompare_full (n : Bool) (a : Option Addr) (ca : Nat) (xs : List Int) (b : Option Addr) (cb : Nat) (ys : List Int) (m : Bool) (c : Option Addr) (cc : Nat) (us : List Int) (d : Option Addr) (cd : Nat) (vs : List Int) (w : World) (sx : Sl w (.slice a xs.length ca) xs) (sy : Sl w (.slice b ys.length cb) ys) (su : Sl w (.slice c us.length cc) us) (sv : Sl w (.slice d vs.length cd) vs) :
    Calls Tryz.prog 16 #[.agg #[.bool n, .slice a xs.length ca, .slice b ys.length cb], .agg #[.bool m, .slice c us.length cc, .slice d vs.length cd]] w fun e w' => e = .returned (.tuple #[.int .i64 (rcmp n xs ys m us vs), .int .i64 (rboth n xs ys m us vs)]) ∧ Below w.heap.size w w' := by
  unfold rcmp
  by_cases he : rboth n xs ys m us vs = 0
  · rw [if_pos he, he]
    obtain ⟨hx, hy⟩ := rboth_ok he
    cases n <;> cases m
    · exact rCompare_ff a ca xs b cb ys c cc us d cd vs w sx sy su sv hx hy
    · exact rCompare_ft a ca xs b cb ys c cc us d cd vs w sx sy su sv hx hy
    · exact rCompare_tf a ca xs b cb ys c cc us d cd vs w sx sy su sv hx hy
    · exact rCompare_tt a ca xs b cb ys c cc us d cd vs w sx sy su sv hx hy
  · rw [if_neg he]
    exact rCompare_err n a ca xs b cb ys m c cc us d cd vs w sx sy su sv he
end Go.Proofs.YtpehpflgfkdiaaaGreat

/- The document's own fractions: Order, Compare: of any fractions, good or refused. -/
namespace Go.Proofs.YtpehpflgfkdiaaaGreat
open Go.RowKit
set_option linter.unusedVariables false

theorem sg_not (m : Bool) (x : Int) : sg (!m) x = -(sg m x) := by cases m <;> simp [sg]
theorem order_of {k : Bool} {zs : List Int} {X U : Int} (wz : Wd zs) (tz : Trimmed zs) (h : sg k (val zs) = X - U) : cmpI X U = if zs.length = 0 then 0 else if k then -1 else 1 := by
  by_cases c : zs.length = 0
  · rw [if_pos c]
    obtain rfl := List.length_eq_zero_iff.1 c
    have e : sg k (val []) = 0 := by cases k <;> simp [sg, val, valTo]
    rw [e] at h
    exact cmpI_eq (by omega)
  · rw [if_neg c]
    have hp := val_pos' wz tz (by omega)
    cases k
    · rw [if_neg (by decide)]
      exact cmpI_gt (by have e : sg false (val zs) = val zs := rfl; omega)
    · rw [if_pos rfl]
      exact cmpI_lt (by have e : sg true (val zs) = -val zs := rfl; omega)

set_option maxHeartbeats 6400000 in
set_option maxRecDepth 100000 in
theorem order3_any (n : Bool) (a : Option Addr) (ca : Nat) (xs : List Int) (b : Option Addr) (cb : Nat) (ys : List Int) (m : Bool) (c : Option Addr) (cc : Nat) (us : List Int) (d : Option Addr) (cd : Nat) (vs : List Int) (w : World) (sx : Sl w (.slice a xs.length ca) xs) (sy : Sl w (.slice b ys.length cb) ys) (su : Sl w (.slice c us.length cc) us) (sv : Sl w (.slice d vs.length cd) vs) (hx : rchk n xs ys = 0) (hy : rchk m us vs = 0) :
    Calls Tryz.prog 42 #[.agg #[.bool n, .slice a xs.length ca, .slice b ys.length cb], .agg #[.bool m, .slice c us.length cc, .slice d vs.length cd]] w fun e w' => e = .returned (.int .i64 (cmpI (wval n xs * val vs) (wval m us * val ys))) ∧ Below w.heap.size w w' := by
  obtain ⟨lx, ly, tx, ty, yp, _, _⟩ := rchk_ok hx
  obtain ⟨lu, lv, tu, tv, vp, _, _⟩ := rchk_ok hy
  have wx := sx.wd
  have wy := sy.wd
  have wu := su.wd
  have wv := sv.wd
  have HB : Hid (Below w.heap.size w ((w.alloc (.cells #[.bool n, .slice a xs.length ca, .slice b ys.length cb] 24)).alloc (.cells #[.bool m, .slice c us.length cc, .slice d vs.length cd] 24))) := bt (alloc_later _ _) (alloc_later _ _)
  have HN : Hid (Box ((w.alloc (.cells #[.bool n, .slice a xs.length ca, .slice b ys.length cb] 24)).alloc (.cells #[.bool m, .slice c us.length cc, .slice d vs.length cd] 24)) w.heap.size 24 #[.bool n, .slice a xs.length ca, .slice b ys.length cb]) := Box.later (Box.made w _ _) (alloc_later _ _) (by simp)
  have HM : Hid (Box ((w.alloc (.cells #[.bool n, .slice a xs.length ca, .slice b ys.length cb] 24)).alloc (.cells #[.bool m, .slice c us.length cc, .slice d vs.length cd] 24)) (w.heap.size + 1) 24 #[.bool m, .slice c us.length cc, .slice d vs.length cd]) := by
    have e := Box.made (w.alloc (.cells #[.bool n, .slice a xs.length ca, .slice b ys.length cb] 24)) 24 #[.bool m, .slice c us.length cc, .slice d vs.length cd]
    simp at e
    exact e
  have HSL := hid (And.intro (sx.later HB.out) (And.intro (sy.later HB.out) (And.intro (su.later HB.out) (sv.later HB.out))))
  have HTT := hid (And.intro tx (And.intro ty (And.intro tu tv)))
  have HPL : Hid (val xs * val vs < 4294967296 ^ 4096 ∧ val us * val ys < 4294967296 ^ 4096) := ⟨mul_4096 (val_nonneg wx) (below2048 wx lx) (val_nonneg wv) (below2048 wv lv), mul_4096 (val_nonneg wu) (below2048 wu lu) (val_nonneg wy) (below2048 wy ly)⟩
  have HX : Hid (wval n xs * val vs = sg n (val xs * val vs) ∧ wval m us * val ys = sg m (val us * val ys)) := by
    refine ⟨?_, ?_⟩
    · show sg n (val xs) * val vs = _; rw [sg_mul]
    · show sg m (val us) * val ys = _; rw [sg_mul]
  rw [HX.out.1, HX.out.2]
  obtain ⟨mm, hmm⟩ : ∃ k, (!m) = k := ⟨_, rfl⟩
  have HMM : Hid ((!m) = mm) := hmm
  obtain ⟨cc0, hcc0⟩ : ∃ c, cmpI (sg n (val xs * val vs)) (sg m (val us * val ys)) = c := ⟨_, rfl⟩
  rw [hcc0]
  have HCC := hid hcc0
  clear sx sy su sv tx ty tu tv wx wy wu wv hx hy yp vp hcc0
  go_enter Tryz.func42, Tryz.ntmps42
  go_wp2_with fail
  generalize ((w.alloc (.cells #[.bool n, .slice a xs.length ca, .slice b ys.length cb] 24)).alloc (.cells #[.bool m, .slice c us.length cc, .slice d vs.length cd] 24)) = X at *
  have HK : Hid (∀ V, Below X.heap.size X V → V.cell? ⟨w.heap.size, 0, none⟩ = some (.bool n) ∧ V.cell? ⟨w.heap.size, 1, none⟩ = some (.slice a xs.length ca) ∧ V.cell? ⟨w.heap.size, 2, none⟩ = some (.slice b ys.length cb) ∧ V.cell? ⟨w.heap.size + 1, 0, none⟩ = some (.bool m) ∧ V.cell? ⟨w.heap.size + 1, 1, none⟩ = some (.slice c us.length cc) ∧ V.cell? ⟨w.heap.size + 1, 2, none⟩ = some (.slice d vs.length cd)) := fun V hb => by
    obtain ⟨p0, p1, p2, _⟩ := res_box3 HN.out hb
    obtain ⟨q0, q1, q2, _⟩ := res_box3 HM.out hb
    exact ⟨p0, p1, p2, q0, q1, q2⟩
  have hs0 := HK.out _ (Below.drew (Below.refl _ X))
  have HBR := hid (Below.drew (Below.refl X.heap.size X))
  have H1 := hid (fun ww (hv : Below X.heap.size X ww) => told1_in _ HK.out ww hv (times3_any _ _ xs vs ww (HSL.out.1.later hv) (HSL.out.2.2.2.later hv) (by omega) HTT.out.1 HTT.out.2.2.2))
  have H2 := hid (fun ww (hv : Below X.heap.size X ww) => told1_in _ HK.out ww hv (times3_any _ _ us ys ww (HSL.out.2.2.1.later hv) (HSL.out.2.1.later hv) (by omega) HTT.out.2.2.1 HTT.out.2.1))
  have H3 : Hid (∀ ww, Below X.heap.size X ww → ∀ a4 z4 c4 a5 z5 c5, One X ww (.slice a4 (List.length z4) c4) z4 (val xs * val vs) → One X ww (.slice a5 (List.length z5) c5) z5 (val us * val ys) → Calls Tryz.prog 61 #[.bool n, .slice a4 z4.length c4, .bool mm, .slice a5 z5.length c5] ww fun e w' => ∃ k a6 z6 c6, e = .returned (.tuple #[.bool k, .slice a6 (List.length z6) c6]) ∧ Hid (cc0 = (if z6.length = 0 then 0 else if k then -1 else 1) ∧ Below X.heap.size X w') ∧ (w'.cell? ⟨w.heap.size, 0, none⟩ = some (.bool n) ∧ w'.cell? ⟨w.heap.size, 1, none⟩ = some (.slice a xs.length ca) ∧ w'.cell? ⟨w.heap.size, 2, none⟩ = some (.slice b ys.length cb) ∧ w'.cell? ⟨w.heap.size + 1, 0, none⟩ = some (.bool m) ∧ w'.cell? ⟨w.heap.size + 1, 1, none⟩ = some (.slice c us.length cc) ∧ w'.cell? ⟨w.heap.size + 1, 2, none⟩ = some (.slice d vs.length cd))) := fun ww hv a4 z4 c4 a5 z5 c5 h4 h5 => by
    have e := signed3_any n _ z4 mm _ z5 ww h4.sl h5.sl (by have := own_len h4 HPL.out.1; omega) (by have := own_len h5 HPL.out.2; omega) h4.2.2.1 h5.2.2.1
    rw [h4.2.2.2, h5.2.2.2] at e
    refine Calls.mono e ?_
    rintro e w' ⟨k, v, zs, rfl, o, h1, h2, h3, hb⟩
    obtain ⟨a6, c6, hs⟩ := own_slice' o
    subst hs
    refine ⟨k, a6, zs, c6, rfl, ⟨?_, bt hv hb⟩, HK.out w' (bt hv hb)⟩
    rw [← HCC.out]
    exact order_of h1 h2 (by rw [h3, ← HMM.out, sg_not]; omega)
  go_region_held3 (fun V : World => V.cell? ⟨w.heap.size, 0, none⟩ = some (.bool n) ∧ V.cell? ⟨w.heap.size, 1, none⟩ = some (.slice a xs.length ca) ∧ V.cell? ⟨w.heap.size, 2, none⟩ = some (.slice b ys.length cb) ∧ V.cell? ⟨w.heap.size + 1, 0, none⟩ = some (.bool m) ∧ V.cell? ⟨w.heap.size + 1, 1, none⟩ = some (.slice c us.length cc) ∧ V.cell? ⟨w.heap.size + 1, 2, none⟩ = some (.slice d vs.length cd)) (first | exact hs6 | exact hs5 | exact hs4 | exact hs0)
    (first
      | (go_at_call 61; with_reducible refine Calls.mono (H3.out _ hb5 _ _ _ _ _ _ (HE4.out.1.later HS5.out) HE5.out.1) ?_; rintro e w6 ⟨k6, a6, z6, c6, rfl, HE6, hs6⟩)
      | (go_at_call 38; with_reducible refine Calls.mono (H2.out _ hb4) ?_; rintro e w5 ⟨a5, z5, c5, rfl, HE5, hs5, hb5, HS5⟩)
      | (go_at_call 38; with_reducible refine Calls.mono (H1.out _ HBR.out) ?_; rintro e w4 ⟨a4, z4, c4, rfl, HE4, hs4, hb4, HS4⟩))
  all_goals
    have HBW := hid (bt HB.out HE6.out.2)
    have HR := hid HE6.out.1
    clear HK H1 H2 H3 HE4 HE5 HE6 HS4 HS5 hs0 hs4 hs5 hs6 hb4 hb5 HBR hmm
    by_cases c6z : z6.length = 0
    · have c6b : ((z6.length : Int) == 0) = true := beq_iff_eq.2 (by omega)
      have HV : Hid (cc0 = 0) := by have e := HR.out; rw [if_pos c6z] at e; exact e
      clear c6z HR
      go_wp2_with fail
      go_ret
      exact ⟨by rw [HV.out]; rfl, HBW.out⟩
    · have c6b : ((z6.length : Int) == 0) = false := beq_eq_false_iff_ne.2 (by omega)
      cases k6 with
      | true =>
        have HV : Hid (cc0 = -1) := by have e := HR.out; rw [if_neg c6z, if_pos rfl] at e; exact e
        clear HR
        go_wp2_with fail
        go_ret
        exact ⟨by rw [HV.out]; rfl, HBW.out⟩
      | false =>
        have HV : Hid (cc0 = 1) := by have e := HR.out; rw [if_neg c6z, if_neg (by decide)] at e; exact e
        clear HR
        go_wp2_with fail
        go_ret
        exact ⟨by rw [HV.out]; rfl, HBW.out⟩

set_option maxHeartbeats 3200000 in
set_option maxRecDepth 100000 in
theorem dCompare_full (n : Bool) (a : Option Addr) (ca : Nat) (xs : List Int) (b : Option Addr) (cb : Nat) (ys : List Int) (m : Bool) (c : Option Addr) (cc : Nat) (us : List Int) (d : Option Addr) (cd : Nat) (vs : List Int) (w : World) (sx : Sl w (.slice a xs.length ca) xs) (sy : Sl w (.slice b ys.length cb) ys) (su : Sl w (.slice c us.length cc) us) (sv : Sl w (.slice d vs.length cd) vs) (hlx : xs.length ≤ 281474976710656) (hly : ys.length ≤ 281474976710656) (hlu : us.length ≤ 281474976710656) (hlv : vs.length ≤ 281474976710656) :
    Calls Tryz.prog 17 #[.agg #[.bool n, .slice a xs.length ca, .slice b ys.length cb], .agg #[.bool m, .slice c us.length cc, .slice d vs.length cd]] w fun e w' => e = .returned (.tuple #[.int .i64 (rcmp n xs ys m us vs), .int .i64 (rboth n xs ys m us vs)]) ∧ Below w.heap.size w w' := by
  have HB : Hid (Below w.heap.size w ((w.alloc (.cells #[.bool n, .slice a xs.length ca, .slice b ys.length cb] 24)).alloc (.cells #[.bool m, .slice c us.length cc, .slice d vs.length cd] 24))) := bt (alloc_later _ _) (alloc_later _ _)
  have HN : Hid (Box ((w.alloc (.cells #[.bool n, .slice a xs.length ca, .slice b ys.length cb] 24)).alloc (.cells #[.bool m, .slice c us.length cc, .slice d vs.length cd] 24)) w.heap.size 24 #[.bool n, .slice a xs.length ca, .slice b ys.length cb]) := Box.later (Box.made w _ _) (alloc_later _ _) (by simp)
  have HM : Hid (Box ((w.alloc (.cells #[.bool n, .slice a xs.length ca, .slice b ys.length cb] 24)).alloc (.cells #[.bool m, .slice c us.length cc, .slice d vs.length cd] 24)) (w.heap.size + 1) 24 #[.bool m, .slice c us.length cc, .slice d vs.length cd]) := by
    have e := Box.made (w.alloc (.cells #[.bool n, .slice a xs.length ca, .slice b ys.length cb] 24)) 24 #[.bool m, .slice c us.length cc, .slice d vs.length cd]
    simp at e
    exact e
  have HSL := hid (And.intro (sx.later HB.out) (And.intro (sy.later HB.out) (And.intro (su.later HB.out) (sv.later HB.out))))
  have HC := hid (both3_any n _ _ xs _ _ ys m _ _ us _ _ vs ((w.alloc (.cells #[.bool n, .slice a xs.length ca, .slice b ys.length cb] 24)).alloc (.cells #[.bool m, .slice c us.length cc, .slice d vs.length cd] 24)) HSL.out.1 HSL.out.2.1 HSL.out.2.2.1 HSL.out.2.2.2 hlx hly hlu hlv)
  unfold rcmp
  by_cases he : rboth n xs ys m us vs = 0
  · rw [if_pos he, he]
    rw [he] at HC
    have HKO := hid (rboth_ok he)
    obtain ⟨cc0, hcc0⟩ : ∃ c, cmpI (wval n xs * val vs) (wval m us * val ys) = c := ⟨_, rfl⟩
    rw [hcc0]
    have HCC := hid hcc0
    clear sx sy su sv he hcc0
    go_enter Tryz.func17, Tryz.ntmps17
    go_wp2_with fail
    refine Calls.mono HC.out ?_
    generalize ((w.alloc (.cells #[.bool n, .slice a xs.length ca, .slice b ys.length cb] 24)).alloc (.cells #[.bool m, .slice c us.length cc, .slice d vs.length cd] 24)) = X at *
    rintro e w1 ⟨rfl, hb1⟩
    obtain ⟨p0, p1, p2, _⟩ := res_box3 HN.out hb1
    obtain ⟨q0, q1, q2, _⟩ := res_box3 HM.out hb1
    have HO := order3_any n _ _ xs _ _ ys m _ _ us _ _ vs w1 (HSL.out.1.later hb1) (HSL.out.2.1.later hb1) (HSL.out.2.2.1.later hb1) (HSL.out.2.2.2.later hb1) HKO.out.1 HKO.out.2
    rw [HCC.out] at HO
    have HH := hid HO
    have HB1 := hid (bt HB.out hb1)
    clear hb1 HC HO
    go_wp2_with fail
    refine Calls.mono HH.out ?_
    rintro e w2 ⟨rfl, hb2⟩
    have HBN := hid (bt HB1.out hb2)
    clear hb2 HH
    go_wp2_with fail
    go_ret2
    exact ⟨rfl, HBN.out⟩
  · rw [if_neg he]
    obtain ⟨E, hE⟩ : ∃ E, rboth n xs ys m us vs = E := ⟨_, rfl⟩
    rw [hE] at HC he ⊢
    have he' : (E == 0) = false := beq_eq_false_iff_ne.2 he
    have he2 : (E != 0) = true := bne_iff_ne.2 he
    clear sx sy su sv he hE
    go_enter Tryz.func17, Tryz.ntmps17
    go_wp2_with fail
    refine Calls.mono HC.out ?_
    rintro e w1 ⟨rfl, hb1⟩
    have HBN := hid (bt HB.out hb1)
    clear hb1 HC
    go_wp2_with fail
    go_ret2
    exact ⟨rfl, HBN.out⟩
end Go.Proofs.YtpehpflgfkdiaaaGreat

/- Whole numbers: whole.power, Power: powers of every number, or the error. -/
namespace Go.Proofs.YtpehpflgfkdiaaaGreat
open Go.RowKit
set_option linter.unusedVariables false

theorem natAbs_ge {x y : Int} (h : wlim ≤ x ∨ x ≤ -wlim) (hy : y ≠ 0) : wlim ≤ x * y ∨ x * y ≤ -wlim := by
  have hp := wlim_pos
  have h1 : wlim ≤ (x.natAbs : Int) := by omega
  have h2 : 1 ≤ (y.natAbs : Int) := by omega
  have h3 : (x.natAbs : Int) * 1 ≤ (x.natAbs : Int) * (y.natAbs : Int) := Int.mul_le_mul_of_nonneg_left h2 (by omega)
  have h4 : ((x * y).natAbs : Int) = (x.natAbs : Int) * (y.natAbs : Int) := by rw [Int.natAbs_mul, Int.natCast_mul]
  omega
theorem pow_ne {x : Int} (h : x ≠ 0) (k : Nat) : x ^ k ≠ 0 := by
  induction k with
  | zero => simp
  | succ k ih => rw [Int.pow_succ]; exact Int.mul_ne_zero ih h
theorem pow_half (a : Int) (m : Nat) : a ^ m = (if m % 2 = 1 then a else 1) * (a * a) ^ (m / 2) := by
  have e : (a * a) ^ (m / 2) = a ^ (2 * (m / 2)) := by rw [Int.pow_mul, Int.pow_succ, Int.pow_succ, Int.pow_zero, Int.one_mul]
  rw [e]
  by_cases h : m % 2 = 1
  · rw [if_pos h, Int.mul_comm, ← Int.pow_succ]
    congr 1
    omega
  · rw [if_neg h, Int.one_mul]
    congr 1
    omega
theorem WTells.ok0 {t : Int} {n : Bool} {zs : List Int} {c : Int} (h : WTells 0 t n zs c) (hc : c = 0) : wval n zs = t ∧ wchk n zs = 0 := by
  have hk := wchk_good h.len h.trim h.sign
  by_cases h1 : wlim ≤ t ∨ t ≤ -wlim
  · have := (h.long rfl h1).2.2; omega
  · exact ⟨(h.good rfl (by omega) (by omega)).2, hk⟩
theorem WTells.bad0 {t : Int} {n : Bool} {zs : List Int} {c : Int} (h : WTells 0 t n zs c) (hc : c ≠ 0) : c = 3 ∧ (wlim ≤ t ∨ t ≤ -wlim) := by
  by_cases h1 : wlim ≤ t ∨ t ≤ -wlim
  · exact ⟨(h.long rfl h1).2.2, h1⟩
  · have := (h.good rfl (by omega) (by omega)).1; omega
theorem WTells.tooLong {t : Int} (h : wlim ≤ t ∨ t ≤ -wlim) : WTells 0 t false [] 3 := ⟨Wd.nil, Trimmed.nil, .inl rfl, by simp, fun h' => absurd rfl h', fun _ _ => ⟨rfl, rfl, rfl⟩, fun _ h1 h2 => by rcases h with h | h <;> omega⟩
theorem WTells.is {t : Int} {n : Bool} {zs : List Int} (hw : Wd zs) (hk : wchk n zs = 0) (hv : wval n zs = t) : WTells 0 t n zs 0 := by
  obtain ⟨l, tt, s⟩ := wchk_ok hk
  have hb := below2048 hw l
  have h0 := val_nonneg hw
  refine ⟨hw, tt, s, l, fun h' => absurd rfl h', fun _ h1 => ?_, fun _ _ _ => ⟨rfl, hv⟩⟩
  exfalso
  rw [← hv] at h1
  cases n <;> simp [wval] at h1 <;> omega

/-- The error of a power. -/
def pwErr (n : Bool) (xs : List Int) (N : Int) : Int := if wchk n xs = 0 then (if N < 0 ∨ 4096 < N then 2 else 0) else wchk n xs

end Go.Proofs.YtpehpflgfkdiaaaGreat

/- Fractions: ratio.Floor: of any fraction, good or refused. -/
namespace Go.Proofs.YtpehpflgfkdiaaaGreat
open Go.RowKit
set_option linter.unusedVariables false

theorem floor_of {X Y q r : Int} (hY : 0 < Y) (h : X = q * Y + r) (r0 : 0 ≤ r) (r1 : r < (Y.natAbs : Int)) : q = X / Y := by
  have e := (Int.ediv_emod_unique hY (a := X) (r := r) (q := q)).2 ⟨by rw [Int.mul_comm Y]; omega, r0, by omega⟩
  exact e.1.symm

set_option maxHeartbeats 1600000 in
set_option maxRecDepth 100000 in
theorem rFloor_err (n : Bool) (a : Option Addr) (ca : Nat) (xs : List Int) (b : Option Addr) (cb : Nat) (ys : List Int) (w : World) (sx : Sl w (.slice a xs.length ca) xs) (sy : Sl w (.slice b ys.length cb) ys) (he : rchk n xs ys ≠ 0) (t : Int) :
    Calls Tryz.prog 18 #[.agg #[.bool n, .slice a xs.length ca, .slice b ys.length cb]] w (WTold w (rchk n xs ys) t) := by
  have HB : Hid (Below w.heap.size w ((w.alloc (.cells #[.bool n, .slice a xs.length ca, .slice b ys.length cb] 24)).alloc (.cells #[.bool false, .slice none 0 0] 37))) := bt (alloc_later _ _) (alloc_later _ _)
  have HZ : Hid (Box ((w.alloc (.cells #[.bool n, .slice a xs.length ca, .slice b ys.length cb] 24)).alloc (.cells #[.bool false, .slice none 0 0] 37)) (w.heap.size + 1) 37 #[.bool false, .slice none 0 0]) := by
    have e := Box.made (w.alloc (.cells #[.bool n, .slice a xs.length ca, .slice b ys.length cb] 24)) 37 #[.bool false, .slice none 0 0]
    simp at e
    exact e
  have HC := hid (rcheck_any n _ xs _ ys ((w.alloc (.cells #[.bool n, .slice a xs.length ca, .slice b ys.length cb] 24)).alloc (.cells #[.bool false, .slice none 0 0] 37)) (sx.later HB.out) (sy.later HB.out))
  obtain ⟨E, hE⟩ : ∃ E, rchk n xs ys = E := ⟨_, rfl⟩
  rw [hE] at HC he ⊢
  have he' : (E == 0) = false := beq_eq_false_iff_ne.2 he
  have HE := hid he
  clear he hE sx sy
  go_enter Tryz.func18, Tryz.ntmps18
  go_wp2_with fail
  refine Calls.mono HC.out ?_
  generalize ((w.alloc (.cells #[.bool n, .slice a xs.length ca, .slice b ys.length cb] 24)).alloc (.cells #[.bool false, .slice none 0 0] 37)) = X at *
  rintro e w1 ⟨rfl, hb1⟩
  obtain ⟨y0, y1, f0, f1⟩ := (HZ.out.later hb1 HZ.out.lt).c2
  have HBN := hid (below_put2 (bt HB.out hb1) (w.heap.size + 1) (by omega) (.bool false) (.slice none 0 0))
  clear hb1 HC HZ
  go_wp2_with fail
  refine bodyPost_ret (v := .tuple #[.agg #[.bool false, .slice none 0 0], .int .i64 E]) (by simp [results, Tryz.results18, go_sem, y0, y1]) rfl ?_
  exact ⟨false, _, [], E, rfl, World.ownsRow_nil _ _ _ _, WTells.err HE.out, HBN.out⟩

set_option maxHeartbeats 3200000 in
set_option maxRecDepth 100000 in
theorem rFloor_ok (n : Bool) (a : Option Addr) (ca : Nat) (xs : List Int) (b : Option Addr) (cb : Nat) (ys : List Int) (w : World) (sx : Sl w (.slice a xs.length ca) xs) (sy : Sl w (.slice b ys.length cb) ys) (hx : rchk n xs ys = 0) :
    Calls Tryz.prog 18 #[.agg #[.bool n, .slice a xs.length ca, .slice b ys.length cb]] w (WTold w 0 (wval n xs / val ys)) := by
  obtain ⟨lx, ly, tx, ty, y0', nx, g1⟩ := rchk_ok hx
  have py := val_pos' sy.wd ty y0'
  have HB : Hid (Below w.heap.size w ((w.alloc (.cells #[.bool n, .slice a xs.length ca, .slice b ys.length cb] 24)).alloc (.cells #[.bool false, .slice none 0 0] 37))) := bt (alloc_later _ _) (alloc_later _ _)
  have HZ : Hid (Box ((w.alloc (.cells #[.bool n, .slice a xs.length ca, .slice b ys.length cb] 24)).alloc (.cells #[.bool false, .slice none 0 0] 37)) (w.heap.size + 1) 37 #[.bool false, .slice none 0 0]) := by
    have e := Box.made (w.alloc (.cells #[.bool n, .slice a xs.length ca, .slice b ys.length cb] 24)) 37 #[.bool false, .slice none 0 0]
    simp at e
    exact e
  have HN : Hid (Box ((w.alloc (.cells #[.bool n, .slice a xs.length ca, .slice b ys.length cb] 24)).alloc (.cells #[.bool false, .slice none 0 0] 37)) w.heap.size 24 #[.bool n, .slice a xs.length ca, .slice b ys.length cb]) := Box.later (Box.made w _ _) (alloc_later _ _) (by simp)
  have HC := hid (rcheck_any n _ xs _ ys ((w.alloc (.cells #[.bool n, .slice a xs.length ca, .slice b ys.length cb] 24)).alloc (.cells #[.bool false, .slice none 0 0] 37)) (sx.later HB.out) (sy.later HB.out))
  rw [hx] at HC
  have HD := hid (fun ww (hb : Below ((w.alloc (.cells #[.bool n, .slice a xs.length ca, .slice b ys.length cb] 24)).alloc (.cells #[.bool false, .slice none 0 0] 37)).heap.size ((w.alloc (.cells #[.bool n, .slice a xs.length ca, .slice b ys.length cb] 24)).alloc (.cells #[.bool false, .slice none 0 0] 37)) ww) => wdivMod_any n _ xs false _ ys ww ((sx.later HB.out).later hb) ((sy.later HB.out).later hb) (wchk_good lx tx nx) (wchk_good ly ty (.inl rfl)) y0')
  have HPY : Hid (0 < val ys) := by show _ < _; omega
  clear sx sy hx tx ty g1 py lx ly nx y0'
  go_enter Tryz.func18, Tryz.ntmps18
  go_wp2_with fail
  refine Calls.mono HC.out ?_
  generalize ((w.alloc (.cells #[.bool n, .slice a xs.length ca, .slice b ys.length cb] 24)).alloc (.cells #[.bool false, .slice none 0 0] 37)) = X at *
  rintro e w1 ⟨rfl, hb1⟩
  have HCD := hid (HD.out w1 hb1)
  obtain ⟨p0, p1, p2, _⟩ := res_box3 HN.out hb1
  have HB1 := hid hb1
  clear hb1 HC HD
  go_wp2_with fail
  refine Calls.mono HCD.out ?_
  rintro e w2 ⟨nq, vq, zq, vr, zr, rfl, oq, orr, wq, wr, tq, tr, lq, lr, sq, hX, hY, hb2⟩
  obtain ⟨aq, kq, hs⟩ := own_slice' oq
  subst hs
  obtain ⟨ar, kr, hs⟩ := own_slice' orr
  subst hs
  have HT := hid (WTells.is wq (wchk_good lq tq sq) (floor_of (Y := val ys) HPY.out hX (val_nonneg wr) hY))
  have HZ2 := hid (HZ.out.later (bt HB1.out hb2) HZ.out.lt)
  obtain ⟨y0, y1, f0, f1⟩ := HZ2.out.c2
  have hlt : w.heap.size + 1 < w2.heap.size := HZ2.out.lt
  have hlt2 : w.heap.size < w2.heap.size := by omega
  have HO := hid (own_put2 (owns_base oq (Nat.le_trans HB.out.size HB1.out.size)) (w.heap.size + 1) (own_ne_box oq HZ2.out (by decide)) (.bool nq) (.slice aq zq.length kq))
  have HBN := hid (below_put2 (bt HB.out (bt HB1.out hb2)) (w.heap.size + 1) (by omega) (.bool nq) (.slice aq zq.length kq))
  clear oq orr wq wr tq tr lq lr sq hX hY hb2 HCD p0 p1 p2 HZ HN HB HB1 HPY HZ2
  go_wp2_with fail
  refine bodyPost_ret (v := .tuple #[.agg #[.bool nq, .slice aq zq.length kq], .int .i64 0]) (by simp [results, Tryz.results18, go_sem, y0, y1, hlt, hlt2]) rfl ?_
  exact ⟨nq, _, zq, 0, rfl, owns_later (owns_later HO.out (alloc_later _ _)) (alloc_later _ _), HT.out, bt (bt HBN.out (alloc_later _ _)) (alloc_later _ _)⟩
theorem rFloor_full (n : Bool) (a : Option Addr) (ca : Nat) (xs : List Int) (b : Option Addr) (cb : Nat) (ys : List Int) (w : World) (sx : Sl w (.slice a xs.length ca) xs) (sy : Sl w (.slice b ys.length cb) ys) :
    Calls Tryz.prog 18 #[.agg #[.bool n, .slice a xs.length ca, .slice b ys.length cb]] w (WTold w (rchk n xs ys) (wval n xs / val ys)) := by
  by_cases he : rchk n xs ys = 0
  · rw [he]; exact rFloor_ok n a ca xs b cb ys w sx sy he
  · exact rFloor_err n a ca xs b cb ys w sx sy he _
end Go.Proofs.YtpehpflgfkdiaaaGreat

/- The document's own fractions: Floor: of any fraction, good or refused. -/
namespace Go.Proofs.YtpehpflgfkdiaaaGreat
open Go.RowKit
set_option linter.unusedVariables false

theorem wt_make {k : Bool} {zs : List Int} {t : Int} (wz : Wd zs) (tz : Trimmed zs) (hs : k = false ∨ 0 < zs.length) (hl : zs.length ≤ 2048) (hv : wval k zs = t) : WTells 0 t k zs 0 := by
  have h0 := val_nonneg wz
  have h1 : val zs < wlim := below2048 wz hl
  have h2 : -wlim < t ∧ t < wlim := by
    rw [← hv]
    cases k
    · show -wlim < val zs ∧ val zs < wlim; omega
    · show -wlim < -val zs ∧ -val zs < wlim; omega
  exact ⟨wz, tz, hs, hl, fun h => absurd rfl h, fun _ h => by omega, fun _ _ _ => ⟨rfl, hv⟩⟩
theorem wtold_put {w U W : World} {t : Int} {k : Bool} {v : Value} {zs : List Int} {e code : Int} (o : W.ownsRow U.heap.size 60 1 v zs.length (zs.map (Value.int .u32))) (h : WTells e t k zs code) (b : Nat) (hb : b < U.heap.size) (hw : w.heap.size ≤ b) (hbw : Below w.heap.size w W) (x y : Value) :
    WTold w e t (.returned (.tuple #[.agg #[.bool k, v], .int .i64 code])) ((W.setCell ⟨b, 0, none⟩ x).setCell ⟨b, 1, none⟩ y) :=
  ⟨k, v, zs, code, rfl, owns_base (own_put2 o b (fun g hg => by have := (World.ownsRow.lt o g hg).1; omega) _ _) (by omega), h, below_put2 hbw b hw _ _⟩

set_option maxHeartbeats 1600000 in
set_option maxRecDepth 100000 in
theorem dFloor_err (n : Bool) (a : Option Addr) (ca : Nat) (xs : List Int) (b : Option Addr) (cb : Nat) (ys : List Int) (w : World) (sx : Sl w (.slice a xs.length ca) xs) (sy : Sl w (.slice b ys.length cb) ys) (hlx : xs.length ≤ 281474976710656) (hly : ys.length ≤ 281474976710656) (he : rchk n xs ys ≠ 0) (t : Int) :
    Calls Tryz.prog 19 #[.agg #[.bool n, .slice a xs.length ca, .slice b ys.length cb]] w (WTold w (rchk n xs ys) t) := by
  have HB : Hid (Below w.heap.size w ((w.alloc (.cells #[.bool n, .slice a xs.length ca, .slice b ys.length cb] 24)).alloc (.cells #[.bool false, .slice none 0 0] 37))) := bt (alloc_later _ _) (alloc_later _ _)
  have HA : Hid (Box ((w.alloc (.cells #[.bool n, .slice a xs.length ca, .slice b ys.length cb] 24)).alloc (.cells #[.bool false, .slice none 0 0] 37)) w.heap.size 24 #[.bool n, .slice a xs.length ca, .slice b ys.length cb]) := Box.later (Box.made w _ _) (alloc_later _ _) (by simp)
  have HZ : Hid (Box ((w.alloc (.cells #[.bool n, .slice a xs.length ca, .slice b ys.length cb] 24)).alloc (.cells #[.bool false, .slice none 0 0] 37)) (w.heap.size + 1) 37 #[.bool false, .slice none 0 0]) := by
    have e := Box.made (w.alloc (.cells #[.bool n, .slice a xs.length ca, .slice b ys.length cb] 24)) 37 #[.bool false, .slice none 0 0]
    simp at e
    exact e
  have HXS : Hid (w.heap.size + 1 < ((w.alloc (.cells #[.bool n, .slice a xs.length ca, .slice b ys.length cb] 24)).alloc (.cells #[.bool false, .slice none 0 0] 37)).heap.size) := HZ.out.lt
  have HS := hid (And.intro (sx.later HB.out) (sy.later HB.out))
  have HC := hid (check3_any n _ _ xs _ _ ys ((w.alloc (.cells #[.bool n, .slice a xs.length ca, .slice b ys.length cb] 24)).alloc (.cells #[.bool false, .slice none 0 0] 37)) HS.out.1 HS.out.2 hlx hly)
  obtain ⟨e1, he1⟩ : ∃ e, rchk n xs ys = e := ⟨_, rfl⟩
  rw [he1] at HC he ⊢
  have h1 : (e1 == 0) = false := beq_eq_false_iff_ne.2 he
  have h2 : (e1 != 0) = true := bne_iff_ne.2 he
  have HEE := hid he
  clear sx sy he he1
  go_enter Tryz.func19, Tryz.ntmps19
  go_wp2_with fail
  refine Calls.mono HC.out ?_
  generalize ((w.alloc (.cells #[.bool n, .slice a xs.length ca, .slice b ys.length cb] 24)).alloc (.cells #[.bool false, .slice none 0 0] 37)) = X at *
  rintro e w1 ⟨rfl, hb1⟩
  obtain ⟨r0, r1, f0, f1⟩ := res_box HZ.out hb1
  have HBN := hid (bt HB.out hb1)
  clear hb1 HC
  go_wp2_with fail
  refine bodyPost_ret (v := .tuple #[.agg #[.bool false, .slice none 0 0], .int .i64 e1]) (by simp [results, Tryz.results19, go_sem, r0, r1]) rfl ?_
  exact wtold_put (U := X) (World.ownsRow_nil _ _ _ _) (WTells.err HEE.out) _ HXS.out (by omega) HBN.out _ _

set_option maxHeartbeats 6400000 in
set_option maxRecDepth 100000 in
theorem dFloor_p (a : Option Addr) (ca : Nat) (xs : List Int) (b : Option Addr) (cb : Nat) (ys : List Int) (w : World) (sx : Sl w (.slice a xs.length ca) xs) (sy : Sl w (.slice b ys.length cb) ys) (hlx : xs.length ≤ 281474976710656) (hly : ys.length ≤ 281474976710656) (hx : rchk false xs ys = 0) :
    Calls Tryz.prog 19 #[.agg #[.bool false, .slice a xs.length ca, .slice b ys.length cb]] w (WTold w 0 (wval false xs / val ys)) := by
  obtain ⟨lx, ly, tx, ty, yp, _, _⟩ := rchk_ok hx
  have wx := sx.wd
  have wy := sy.wd
  have PY := hid (val_pos' wy ty yp)
  have HX0 := hid (And.intro (val_nonneg wx) (below2048 wx lx))
  have HB : Hid (Below w.heap.size w ((w.alloc (.cells #[.bool false, .slice a xs.length ca, .slice b ys.length cb] 24)).alloc (.cells #[.bool false, .slice none 0 0] 37))) := bt (alloc_later _ _) (alloc_later _ _)
  have HA : Hid (Box ((w.alloc (.cells #[.bool false, .slice a xs.length ca, .slice b ys.length cb] 24)).alloc (.cells #[.bool false, .slice none 0 0] 37)) w.heap.size 24 #[.bool false, .slice a xs.length ca, .slice b ys.length cb]) := Box.later (Box.made w _ _) (alloc_later _ _) (by simp)
  have HZ : Hid (Box ((w.alloc (.cells #[.bool false, .slice a xs.length ca, .slice b ys.length cb] 24)).alloc (.cells #[.bool false, .slice none 0 0] 37)) (w.heap.size + 1) 37 #[.bool false, .slice none 0 0]) := by
    have e := Box.made (w.alloc (.cells #[.bool false, .slice a xs.length ca, .slice b ys.length cb] 24)) 37 #[.bool false, .slice none 0 0]
    simp at e
    exact e
  have HXS : Hid (w.heap.size + 1 < ((w.alloc (.cells #[.bool false, .slice a xs.length ca, .slice b ys.length cb] 24)).alloc (.cells #[.bool false, .slice none 0 0] 37)).heap.size) := HZ.out.lt
  have HS := hid (And.intro (sx.later HB.out) (sy.later HB.out))
  have HC := hid (check3_any false _ _ xs _ _ ys ((w.alloc (.cells #[.bool false, .slice a xs.length ca, .slice b ys.length cb] 24)).alloc (.cells #[.bool false, .slice none 0 0] 37)) HS.out.1 HS.out.2 hlx hly)
  rw [hx] at HC
  have HTT := hid (And.intro tx ty)
  obtain ⟨F, hF⟩ : ∃ F, wval false xs / val ys = F := ⟨_, rfl⟩
  rw [hF]
  have HF := hid hF
  clear sx sy hx tx ty wx wy hF
  go_enter Tryz.func19, Tryz.ntmps19
  go_wp2_with fail
  refine Calls.mono HC.out ?_
  generalize ((w.alloc (.cells #[.bool false, .slice a xs.length ca, .slice b ys.length cb] 24)).alloc (.cells #[.bool false, .slice none 0 0] 37)) = X at *
  rintro e w1 ⟨rfl, hb1⟩
  obtain ⟨p0, p1, p2, _⟩ := res_box3 HA.out hb1
  have HH := hid (refDivMod_any _ _ xs ys w1 (HS.out.1.later hb1) (HS.out.2.later hb1) (by omega) (by omega) HTT.out.1 HTT.out.2 yp)
  have HB1 := hid hb1
  clear hb1 HC
  go_wp2_with fail
  refine Calls.mono HH.out ?_
  rintro e w2 ⟨v1, v2, q, r, rfl, o1, o2, wq, wr, tq, tr, hq, hr, hb2⟩
  obtain ⟨a1, c1, hs1⟩ := own_slice' o1
  subst hs1
  obtain ⟨a2, c2, hs2⟩ := own_slice' o2
  subst hs2
  have HB2 := hid (bt HB1.out hb2)
  have hz1 := HB1.out.size
  have HO1 := hid (owns_base o1 hz1)
  have HQ := hid (And.intro wq (And.intro tq (And.intro hq (And.intro hr (val_nonneg wr)))))
  have HR := hid (And.intro wr tr)
  clear HH o1 o2 wq wr tq tr hq hr hb2 p0 p1 p2 hz1
  obtain ⟨p0, p1, p2, _⟩ := res_box3 HA.out HB2.out
  have lq : q.length ≤ 2048 := len_of_lt HQ.out.1 HQ.out.2.1 (Int.lt_of_le_of_lt (by
    have h1 := HQ.out.2.2.1
    have h3 := HQ.out.2.2.2.2
    have h4 := Int.mul_le_mul_of_nonneg_left (show (1 : Int) ≤ val ys by have := PY.out; omega) (val_nonneg HQ.out.1)
    omega) HX0.out.2)
  have lq1 : ¬ (2048 : Int) < (q.length : Int) := by omega
  have HWT : Hid (WTells 0 F false q 0) := wt_make HQ.out.1 HQ.out.2.1 (.inl rfl) lq (by
    rw [← HF.out]
    exact floor_of PY.out HQ.out.2.2.1 HQ.out.2.2.2.2 (by have h := HQ.out.2.2.2.1; have := PY.out; omega))
  obtain ⟨r0, r1, f0, f1⟩ := res_box HZ.out HB2.out
  have HBW := hid (bt HB.out HB2.out)
  go_wp2_with fail
  refine bodyPost_ret (v := .tuple #[.agg #[.bool false, .slice a1 q.length c1], .int .i64 0]) (by simp [results, Tryz.results19, go_sem, r0, r1]) rfl ?_
  exact wtold_put HO1.out HWT.out _ HXS.out (by omega) HBW.out _ _

set_option maxHeartbeats 6400000 in
set_option maxRecDepth 100000 in
theorem dFloor_n (a : Option Addr) (ca : Nat) (xs : List Int) (b : Option Addr) (cb : Nat) (ys : List Int) (w : World) (sx : Sl w (.slice a xs.length ca) xs) (sy : Sl w (.slice b ys.length cb) ys) (hlx : xs.length ≤ 281474976710656) (hly : ys.length ≤ 281474976710656) (hx : rchk true xs ys = 0) :
    Calls Tryz.prog 19 #[.agg #[.bool true, .slice a xs.length ca, .slice b ys.length cb]] w (WTold w 0 (wval true xs / val ys)) := by
  obtain ⟨lx, ly, tx, ty, yp, _, _⟩ := rchk_ok hx
  have wx := sx.wd
  have wy := sy.wd
  have PY := hid (val_pos' wy ty yp)
  have HX0 := hid (And.intro (val_nonneg wx) (below2048 wx lx))
  have HB : Hid (Below w.heap.size w ((w.alloc (.cells #[.bool true, .slice a xs.length ca, .slice b ys.length cb] 24)).alloc (.cells #[.bool false, .slice none 0 0] 37))) := bt (alloc_later _ _) (alloc_later _ _)
  have HA : Hid (Box ((w.alloc (.cells #[.bool true, .slice a xs.length ca, .slice b ys.length cb] 24)).alloc (.cells #[.bool false, .slice none 0 0] 37)) w.heap.size 24 #[.bool true, .slice a xs.length ca, .slice b ys.length cb]) := Box.later (Box.made w _ _) (alloc_later _ _) (by simp)
  have HZ : Hid (Box ((w.alloc (.cells #[.bool true, .slice a xs.length ca, .slice b ys.length cb] 24)).alloc (.cells #[.bool false, .slice none 0 0] 37)) (w.heap.size + 1) 37 #[.bool false, .slice none 0 0]) := by
    have e := Box.made (w.alloc (.cells #[.bool true, .slice a xs.length ca, .slice b ys.length cb] 24)) 37 #[.bool false, .slice none 0 0]
    simp at e
    exact e
  have HXS : Hid (w.heap.size + 1 < ((w.alloc (.cells #[.bool true, .slice a xs.length ca, .slice b ys.length cb] 24)).alloc (.cells #[.bool false, .slice none 0 0] 37)).heap.size) := HZ.out.lt
  have HS := hid (And.intro (sx.later HB.out) (sy.later HB.out))
  have HC := hid (check3_any true _ _ xs _ _ ys ((w.alloc (.cells #[.bool true, .slice a xs.length ca, .slice b ys.length cb] 24)).alloc (.cells #[.bool false, .slice none 0 0] 37)) HS.out.1 HS.out.2 hlx hly)
  rw [hx] at HC
  have HTT := hid (And.intro tx ty)
  obtain ⟨F, hF⟩ : ∃ F, wval true xs / val ys = F := ⟨_, rfl⟩
  rw [hF]
  have HF := hid hF
  clear sx sy hx tx ty wx wy hF
  go_enter Tryz.func19, Tryz.ntmps19
  go_wp2_with fail
  refine Calls.mono HC.out ?_
  generalize ((w.alloc (.cells #[.bool true, .slice a xs.length ca, .slice b ys.length cb] 24)).alloc (.cells #[.bool false, .slice none 0 0] 37)) = X at *
  rintro e w1 ⟨rfl, hb1⟩
  obtain ⟨p0, p1, p2, _⟩ := res_box3 HA.out hb1
  have HH := hid (refDivMod_any _ _ xs ys w1 (HS.out.1.later hb1) (HS.out.2.later hb1) (by omega) (by omega) HTT.out.1 HTT.out.2 yp)
  have HB1 := hid hb1
  clear hb1 HC
  go_wp2_with fail
  refine Calls.mono HH.out ?_
  rintro e w2 ⟨v1, v2, q, r, rfl, o1, o2, wq, wr, tq, tr, hq, hr, hb2⟩
  obtain ⟨a1, c1, hs1⟩ := own_slice' o1
  subst hs1
  obtain ⟨a2, c2, hs2⟩ := own_slice' o2
  subst hs2
  have HB2 := hid (bt HB1.out hb2)
  have hz1 := HB1.out.size
  have HO1 := hid (owns_base o1 hz1)
  have HQ := hid (And.intro wq (And.intro tq (And.intro hq (And.intro hr (val_nonneg wr)))))
  have HR := hid (And.intro wr tr)
  clear HH o1 o2 wq wr tq tr hq hr hb2 p0 p1 p2 hz1
  obtain ⟨p0, p1, p2, _⟩ := res_box3 HA.out HB2.out
  have lq : q.length ≤ 2048 := len_of_lt HQ.out.1 HQ.out.2.1 (Int.lt_of_le_of_lt (by
    have h1 := HQ.out.2.2.1
    have h3 := HQ.out.2.2.2.2
    have h4 := Int.mul_le_mul_of_nonneg_left (show (1 : Int) ≤ val ys by have := PY.out; omega) (val_nonneg HQ.out.1)
    omega) HX0.out.2)
  have lq1 : ¬ (2048 : Int) < (q.length : Int) := by omega
  by_cases hr0 : r.length = 0
  · have hr1 : ¬ (0 : Int) < (r.length : Int) := by omega
    have HV : Hid (-val q = F) := by
      show _ = _
      have e : r = [] := List.length_eq_zero_iff.1 hr0
      have h1 := HQ.out.2.2.1
      rw [e, show val [] = 0 by simp [val, valTo]] at h1
      rw [← HF.out]
      exact floor_of (r := 0) PY.out (by show -val xs = _; rw [h1, Int.neg_mul]; omega) (by omega) (by have := PY.out; omega)
    clear hr0
    by_cases hq0 : 0 < q.length
    · have hq1 : (0 : Int) < (q.length : Int) := by omega
      have HWT : Hid (WTells 0 F true q 0) := wt_make HQ.out.1 HQ.out.2.1 (.inr hq0) lq HV.out
      obtain ⟨r0, r1, f0, f1⟩ := res_box HZ.out HB2.out
      have HBW := hid (bt HB.out HB2.out)
      go_wp2_with fail
      refine bodyPost_ret (v := .tuple #[.agg #[.bool true, .slice a1 q.length c1], .int .i64 0]) (by simp [results, Tryz.results19, go_sem, r0, r1]) rfl ?_
      exact wtold_put HO1.out HWT.out _ HXS.out (by omega) HBW.out _ _
    · have hq1 : ¬ (0 : Int) < (q.length : Int) := by omega
      have HWT : Hid (WTells 0 F false q 0) := wt_make HQ.out.1 HQ.out.2.1 (.inl rfl) lq (by
        have e : q = [] := List.length_eq_zero_iff.1 (by omega)
        rw [← HV.out, e]
        simp [wval, val, valTo])
      obtain ⟨r0, r1, f0, f1⟩ := res_box HZ.out HB2.out
      have HBW := hid (bt HB.out HB2.out)
      go_wp2_with fail
      refine bodyPost_ret (v := .tuple #[.agg #[.bool false, .slice a1 q.length c1], .int .i64 0]) (by simp [results, Tryz.results19, go_sem, r0, r1]) rfl ?_
      exact wtold_put HO1.out HWT.out _ HXS.out (by omega) HBW.out _ _
  · have hr1 : (0 : Int) < (r.length : Int) := by omega
    have HRP := hid (val_pos' HR.out.1 HR.out.2 (by omega))
    have HV : Hid (-(val q + 1) = F) := by
      show _ = _
      have h1 := HQ.out.2.2.1
      rw [← HF.out]
      refine floor_of (r := val ys - val r) PY.out ?_ (by have := HQ.out.2.2.2.1; omega) (by have := HRP.out; have := PY.out; omega)
      show -val xs = _
      rw [h1, Int.neg_mul, Int.add_mul]
      omega
    have HLE : Hid (val q + 1 < 4294967296 ^ 2048) := Int.lt_of_le_of_lt (by
      have h1 := HQ.out.2.2.1
      have h3 := HRP.out
      have h4 := Int.mul_le_mul_of_nonneg_left (show (1 : Int) ≤ val ys by have := PY.out; omega) (val_nonneg HQ.out.1)
      omega) HX0.out.2
    have HSQ := hid (Sl.own HO1.out HQ.out.1)
    clear hr0
    have HH := hid (one3_any w2)
    go_wp2_with fail
    refine Calls.mono HH.out ?_
    rintro e w3 ⟨g3, rfl, o3, hb3⟩
    have HB3 := hid (bt HB2.out hb3)
    clear HH
    have HAD : Calls Tryz.prog 45 #[.slice a1 q.length c1, .slice (some ⟨g3, 0, none⟩) 1 1] w3 (Told w3 (both q [1]) (val q + val [1])) := refAdd_sl _ _ q [1] w3 (HSQ.out.later hb3) (Sl.own (xs := [1]) o3 (Wd.one (by omega))) (by omega) (by simp)
    rw [both_good (chk_good (by omega) HQ.out.2.1) (chk_good (xs := [1]) (by simp) rfl), show val [1] = 1 by simp [val, valTo]] at HAD
    have HH := hid HAD
    clear HAD o3 hb3
    go_wp2_with fail
    refine Calls.mono HH.out ?_
    rintro e w4 ⟨v4, z4, cd4, rfl, o4, t4, hb4⟩
    obtain ⟨a4, c4, hs⟩ := own_slice' o4
    subst hs
    obtain ⟨hc4, hv4⟩ := t4.good rfl (Int.lt_of_lt_of_le HLE.out (pw_le (by omega)))
    have HB4 := hid (bt HB3.out hb4)
    have l4 : z4.length ≤ 2048 := len_of_lt t4.wd t4.trim (by rw [hv4]; exact HLE.out)
    have l41 : ¬ (2048 : Int) < (z4.length : Int) := by omega
    have hp4 : 0 < z4.length := by
      by_cases c : z4.length = 0
      · have e : z4 = [] := List.length_eq_zero_iff.1 c
        rw [e] at hv4
        have h0 := val_nonneg HQ.out.1
        rw [show val [] = 0 by simp [val, valTo]] at hv4
        omega
      · omega
    have hp41 : (0 : Int) < (z4.length : Int) := by omega
    have HWT : Hid (WTells 0 F true z4 0) := wt_make t4.wd t4.trim (.inr hp4) l4 (by show -val z4 = F; rw [hv4]; exact HV.out)
    have HO4 := hid (owns_base o4 HB3.out.size)
    clear HH o4 t4 hc4 hv4 hb4 p0 p1 p2
    obtain ⟨p0, p1, p2, _⟩ := res_box3 HA.out HB4.out
    obtain ⟨r0, r1, f0, f1⟩ := res_box HZ.out HB4.out
    have HBW := hid (bt HB.out HB4.out)
    go_wp2_with fail
    refine bodyPost_ret (v := .tuple #[.agg #[.bool true, .slice a4 z4.length c4], .int .i64 0]) (by simp [results, Tryz.results19, go_sem, r0, r1]) rfl ?_
    exact wtold_put HO4.out HWT.out _ HXS.out (by omega) HBW.out _ _

theorem dFloor_full (n : Bool) (a : Option Addr) (ca : Nat) (xs : List Int) (b : Option Addr) (cb : Nat) (ys : List Int) (w : World) (sx : Sl w (.slice a xs.length ca) xs) (sy : Sl w (.slice b ys.length cb) ys) (hlx : xs.length ≤ 281474976710656) (hly : ys.length ≤ 281474976710656) : Calls Tryz.prog 19 #[.agg #[.bool n, .slice a xs.length ca, .slice b ys.length cb]] w (WTold w (rchk n xs ys) (wval n xs / val ys)) := by
  by_cases he : rchk n xs ys = 0
  · rw [he]
    cases n with
    | false => exact dFloor_p a ca xs b cb ys w sx sy hlx hly he
    | true => exact dFloor_n a ca xs b cb ys w sx sy hlx hly he
  · exact dFloor_err n a ca xs b cb ys w sx sy hlx hly he _
end Go.Proofs.YtpehpflgfkdiaaaGreat

/- The document's own fractions: Sign, Same. -/
namespace Go.Proofs.YtpehpflgfkdiaaaGreat
open Go.RowKit
set_option linter.unusedVariables false

set_option maxHeartbeats 1600000 in
set_option maxRecDepth 100000 in
theorem dSign_any (n : Bool) (a : Option Addr) (ca : Nat) (xs : List Int) (b : Option Addr) (cb : Nat) (ys : List Int) (w : World) (sx : Sl w (.slice a xs.length ca) xs) (sy : Sl w (.slice b ys.length cb) ys) (lx : xs.length ≤ 281474976710656) (ly : ys.length ≤ 281474976710656) :
    Calls Tryz.prog 23 #[.agg #[.bool n, .slice a xs.length ca, .slice b ys.length cb]] w fun e w' => e = .returned (.int .i64 (rsgn n xs ys)) ∧ Below w.heap.size w w' := by
  have HB := hid (alloc_later w (.cells #[.bool n, .slice a xs.length ca, .slice b ys.length cb] 24))
  have HN := hid (Box.made w 24 #[.bool n, .slice a xs.length ca, .slice b ys.length cb])
  have HC := hid (check3_any n _ _ xs _ _ ys _ (sx.later HB.out) (sy.later HB.out) lx ly)
  clear sx sy
  by_cases he : rchk n xs ys = 0
  · rw [he] at HC
    by_cases h0 : xs.length = 0
    · have HW : Hid (rsgn n xs ys = 0) := by show _ = _; unfold rsgn; rw [if_pos he, if_pos h0]
      rw [HW.out]
      have h0' : ((xs.length : Int) == 0) = true := by rw [h0]; rfl
      clear he h0
      go_enter Tryz.func23, Tryz.ntmps23
      go_wp2_with fail
      refine Calls.mono HC.out ?_
      rintro e w1 ⟨rfl, hb1⟩
      obtain ⟨p0, p1, p2, _⟩ := res_box3 HN.out hb1
      have HBN := hid (bt HB.out hb1)
      clear hb1
      go_wp2_with fail
      go_ret
      exact ⟨rfl, HBN.out⟩
    · have h0' : ((xs.length : Int) == 0) = false := beq_eq_false_iff_ne.2 (by omega)
      cases n with
      | false =>
        have HW : Hid (rsgn false xs ys = 1) := by show _ = _; unfold rsgn; rw [if_pos he, if_neg h0]; rfl
        rw [HW.out]
        clear he h0
        go_enter Tryz.func23, Tryz.ntmps23
        go_wp2_with fail
        refine Calls.mono HC.out ?_
        rintro e w1 ⟨rfl, hb1⟩
        obtain ⟨p0, p1, p2, _⟩ := res_box3 HN.out hb1
        have HBN := hid (bt HB.out hb1)
        clear hb1
        go_wp2_with fail
        go_ret
        exact ⟨rfl, HBN.out⟩
      | true =>
        have HW : Hid (rsgn true xs ys = -1) := by show _ = _; unfold rsgn; rw [if_pos he, if_neg h0]; rfl
        rw [HW.out]
        clear he h0
        go_enter Tryz.func23, Tryz.ntmps23
        go_wp2_with fail
        refine Calls.mono HC.out ?_
        rintro e w1 ⟨rfl, hb1⟩
        obtain ⟨p0, p1, p2, _⟩ := res_box3 HN.out hb1
        have HBN := hid (bt HB.out hb1)
        clear hb1
        go_wp2_with fail
        go_ret
        exact ⟨rfl, HBN.out⟩
  · have HW : Hid (rsgn n xs ys = 0) := by show _ = _; unfold rsgn; rw [if_neg he]
    rw [HW.out]
    obtain ⟨E, hE⟩ : ∃ E, rchk n xs ys = E := ⟨_, rfl⟩
    rw [hE] at HC he
    have he' : (E == 0) = false := beq_eq_false_iff_ne.2 he
    have he2 : (E != 0) = true := bne_iff_ne.2 he
    clear he hE
    go_enter Tryz.func23, Tryz.ntmps23
    go_wp2_with fail
    refine Calls.mono HC.out ?_
    rintro e w1 ⟨rfl, hb1⟩
    have HBN := hid (bt HB.out hb1)
    clear hb1
    go_wp2_with fail
    go_ret
    exact ⟨rfl, HBN.out⟩

set_option maxHeartbeats 1600000 in
set_option maxRecDepth 100000 in
theorem dSame_any (n : Bool) (a : Option Addr) (ca : Nat) (xs : List Int) (b : Option Addr) (cb : Nat) (ys : List Int) (m : Bool) (c : Option Addr) (cc : Nat) (us : List Int) (d : Option Addr) (cd : Nat) (vs : List Int) (w : World) (sx : Sl w (.slice a xs.length ca) xs) (sy : Sl w (.slice b ys.length cb) ys) (su : Sl w (.slice c us.length cc) us) (sv : Sl w (.slice d vs.length cd) vs) (lx : xs.length ≤ 281474976710656) (ly : ys.length ≤ 281474976710656) (lu : us.length ≤ 281474976710656) (lv : vs.length ≤ 281474976710656) :
    Calls Tryz.prog 25 #[.agg #[.bool n, .slice a xs.length ca, .slice b ys.length cb], .agg #[.bool m, .slice c us.length cc, .slice d vs.length cd]] w fun e w' => e = .returned (.bool (decide (n = m ∧ xs = us ∧ ys = vs))) ∧ Below w.heap.size w w' := by
  have HB : Hid (Below w.heap.size w ((w.alloc (.cells #[.bool n, .slice a xs.length ca, .slice b ys.length cb] 24)).alloc (.cells #[.bool m, .slice c us.length cc, .slice d vs.length cd] 24))) := bt (alloc_later _ _) (alloc_later _ _)
  have HN : Hid (Box ((w.alloc (.cells #[.bool n, .slice a xs.length ca, .slice b ys.length cb] 24)).alloc (.cells #[.bool m, .slice c us.length cc, .slice d vs.length cd] 24)) w.heap.size 24 #[.bool n, .slice a xs.length ca, .slice b ys.length cb]) := Box.later (Box.made w _ _) (alloc_later _ _) (by simp)
  have HM : Hid (Box ((w.alloc (.cells #[.bool n, .slice a xs.length ca, .slice b ys.length cb] 24)).alloc (.cells #[.bool m, .slice c us.length cc, .slice d vs.length cd] 24)) (w.heap.size + 1) 24 #[.bool m, .slice c us.length cc, .slice d vs.length cd]) := by
    have e := Box.made (w.alloc (.cells #[.bool n, .slice a xs.length ca, .slice b ys.length cb] 24)) 24 #[.bool m, .slice c us.length cc, .slice d vs.length cd]
    simp at e
    exact e
  have H1 := hid (same3_sl _ _ xs us ((w.alloc (.cells #[.bool n, .slice a xs.length ca, .slice b ys.length cb] 24)).alloc (.cells #[.bool m, .slice c us.length cc, .slice d vs.length cd] 24)) (sx.later HB.out) (su.later HB.out) lx lu)
  have H2 := hid (fun ww (hb : Below ((w.alloc (.cells #[.bool n, .slice a xs.length ca, .slice b ys.length cb] 24)).alloc (.cells #[.bool m, .slice c us.length cc, .slice d vs.length cd] 24)).heap.size ((w.alloc (.cells #[.bool n, .slice a xs.length ca, .slice b ys.length cb] 24)).alloc (.cells #[.bool m, .slice c us.length cc, .slice d vs.length cd] 24)) ww) => same3_sl _ _ ys vs ww ((sy.later HB.out).later hb) ((sv.later HB.out).later hb) ly lv)
  clear sx sy su sv
  by_cases h0 : n = m
  · subst h0
    have hbb : (n == n) = true := by simp
    by_cases h1 : xs = us
    · have HR : Hid (decide (n = n ∧ xs = us ∧ ys = vs) = decide (ys = vs)) := by show _ = _; simp [h1]
      rw [decide_eq_true h1] at H1
      rw [HR.out]
      clear h1
      go_enter Tryz.func25, Tryz.ntmps25
      go_wp2_with fail
      refine Calls.mono H1.out ?_
      generalize ((w.alloc (.cells #[.bool n, .slice a xs.length ca, .slice b ys.length cb] 24)).alloc (.cells #[.bool n, .slice c us.length cc, .slice d vs.length cd] 24)) = X at *
      rintro e w1 ⟨rfl, hb1⟩
      obtain ⟨p0, p1, p2, _⟩ := res_box3 HN.out hb1
      obtain ⟨q0, q1, q2, _⟩ := res_box3 HM.out hb1
      have HC := hid (H2.out w1 hb1)
      have HB1 := hid (bt HB.out hb1)
      clear hb1 H1 H2
      go_wp2_with fail
      refine Calls.mono HC.out ?_
      rintro e w2 ⟨rfl, hb2⟩
      have HBN := hid (bt HB1.out hb2)
      clear hb2 HC
      go_wp2_with fail
      go_ret
      exact ⟨rfl, HBN.out⟩
    · have HR : Hid (decide (n = n ∧ xs = us ∧ ys = vs) = false) := decide_eq_false (fun h => h1 h.2.1)
      rw [decide_eq_false h1] at H1
      rw [HR.out]
      clear h1
      go_enter Tryz.func25, Tryz.ntmps25
      go_wp2_with fail
      refine Calls.mono H1.out ?_
      rintro e w1 ⟨rfl, hb1⟩
      have HBN := hid (bt HB.out hb1)
      clear hb1 H1 H2
      go_wp2_with fail
      go_ret
      exact ⟨rfl, HBN.out⟩
  · have HR : Hid (decide (n = m ∧ xs = us ∧ ys = vs) = false) := decide_eq_false (fun h => h0 h.1)
    have hbb : (n == m) = false := by simp [h0]
    rw [HR.out]
    clear h0
    go_enter Tryz.func25, Tryz.ntmps25
    go_wp2_with fail
    go_ret
    exact ⟨rfl, HB.out⟩
end Go.Proofs.YtpehpflgfkdiaaaGreat

/- The law RatioTells answers true, and writes nothing that was there: whatever two fractions of lists that are not too long come in. -/
namespace Go.Proofs.YtpehpflgfkdiaaaGreat
open Go.RowKit
set_option linter.unusedVariables false

theorem wsame2t {n m : Bool} {xs ys : List Int} (wx : Wd xs) (wy : Wd ys) (tx : Trimmed xs) (ty : Trimmed ys) (nx : n = false ∨ 0 < xs.length) (ny : m = false ∨ 0 < ys.length) (h : wval n xs = wval m ys) : n = m ∧ xs = ys := by
  have x0 := val_nonneg wx
  have y0 := val_nonneg wy
  cases n <;> cases m
  · exact ⟨rfl, trimmed_eq wx wy tx ty h⟩
  · have e : val xs = -(val ys) := h
    have := val_pos' wy ty (ny.elim (fun e => by cases e) id)
    omega
  · have e : -(val xs) = val ys := h
    have := val_pos' wx tx (nx.elim (fun e => by cases e) id)
    omega
  · have e : -(val xs) = -(val ys) := h
    exact ⟨rfl, trimmed_eq wx wy tx ty (by omega)⟩
theorem wtells_same {e t : Int} {n m : Bool} {zs ys : List Int} {c d : Int} (h : WTells e t n zs c) (g : WTells e t m ys d) : n = m ∧ zs = ys ∧ c = d := by
  by_cases he : e = 0
  · by_cases hl : wlim ≤ t ∨ t ≤ -wlim
    · obtain ⟨a1, a2, a3⟩ := h.long he hl
      obtain ⟨b1, b2, b3⟩ := g.long he hl
      exact ⟨by rw [a1, b1], by rw [a2, b2], by rw [a3, b3]⟩
    · obtain ⟨a1, a2⟩ := h.good he (by omega) (by omega)
      obtain ⟨b1, b2⟩ := g.good he (by omega) (by omega)
      obtain ⟨r1, r2⟩ := wsame2t h.wd g.wd h.trim g.trim h.sign g.sign (by rw [a2, b2])
      exact ⟨r1, r2, by rw [a1, b1]⟩
  · obtain ⟨a1, a2, a3⟩ := h.bad he
    obtain ⟨b1, b2, b3⟩ := g.bad he
    exact ⟨by rw [a1, b1], by rw [a2, b2], by rw [a3, b3]⟩

theorem LentTwo.gs {xs0 ys0 xs1 ys1 : List Int} {n0 n1 : Bool} {X F : World} {pa pb g1 c1 g2 c2 g3 c3 g4 c4 : Nat} (h : LentTwo xs0 ys0 xs1 ys1 n0 n1 X F pa pb g1 c1 g2 c2 g3 c3 g4 c4) : X.heap.size ≤ g1 ∧ g1 < g2 ∧ g2 < g3 ∧ g3 < g4 ∧ g4 < F.heap.size := by
  obtain ⟨_, _, _, _, _, _, h1, h2, h3, h4, h5, _⟩ := h
  exact ⟨h1, h2, h3, h4, h5⟩
theorem Tl.start {w X F : World} {n0 : Bool} {a0 : Option Addr} {ca0 : Nat} {xs0 : List Int} {b0 : Option Addr} {cb0 : Nat} {ys0 : List Int} {n1 : Bool} {a1 : Option Addr} {ca1 : Nat} {xs1 : List Int} {b1 : Option Addr} {cb1 : Nat} {ys1 : List Int} {pa pb g1 c1 g2 c2 g3 c3 g4 c4 : Nat} (hX : Below w.heap.size w X) (ha : Box X w.heap.size 24 #[.bool n0, .slice a0 xs0.length ca0, .slice b0 ys0.length cb0]) (hb : Box X (w.heap.size + 1) 24 #[.bool n1, .slice a1 xs1.length ca1, .slice b1 ys1.length cb1]) (h : LentTwo xs0 ys0 xs1 ys1 n0 n1 X F pa pb g1 c1 g2 c2 g3 c3 g4 c4) :
    Tl w (F.alloc (.cells #[.slice none 0 0, .bool true] 28)) (F.heap.size + 1) F.heap.size (.slice none 0 0) 0 [] [(pb, #[.bool n1, .slice (some ⟨g3, 0, none⟩) xs1.length c3, .slice (some ⟨g4, 0, none⟩) ys1.length c4]), (pa, #[.bool n0, .slice (some ⟨g1, 0, none⟩) xs0.length c1, .slice (some ⟨g2, 0, none⟩) ys0.length c2]), (w.heap.size + 1, #[.bool n1, .slice a1 xs1.length ca1, .slice b1 ys1.length cb1]), (w.heap.size, #[.bool n0, .slice a0 xs0.length ca0, .slice b0 ys0.length cb0])] [] [(g1, c1, xs0), (g2, c2, ys0), (g3, c3, xs1), (g4, c4, ys1)] := by
  obtain ⟨h1, h2, h3, h4, h5, h6, _, _, _, _, _, hF⟩ := h
  have hwF := bt hX hF
  have hal := alloc_later F (.cells #[.slice none 0 0, .bool true] 28)
  have ha' := ha.later hF ha.lt
  have hb' := hb.later hF hb.lt
  refine ⟨⟨fun p hp => ?_, fun p hp => (by cases hp), bt hwF hal⟩, fun p hp => ?_, Box.made F _ _, by omega, hwF.size, by simp, World.ownsRow_nil _ _ _ _, fun p hp => ?_⟩
  · cases hp with
    | head => exact h2.later hal h2.lt
    | tail _ hp => cases hp with
      | head => exact h1.later hal h1.lt
      | tail _ hp => cases hp with
        | head => exact hb'.later hal hb'.lt
        | tail _ hp => cases hp with
          | head => exact ha'.later hal ha'.lt
          | tail _ hp => cases hp
  · cases hp with
    | head => exact Nat.lt_succ_of_lt h2.lt
    | tail _ hp => cases hp with
      | head => exact Nat.lt_succ_of_lt h1.lt
      | tail _ hp => cases hp with
        | head => exact Nat.lt_succ_of_lt hb'.lt
        | tail _ hp => cases hp with
          | head => exact Nat.lt_succ_of_lt ha'.lt
          | tail _ hp => cases hp
  · cases hp with
    | head => exact owns_later (owns_base h3 hX.size) hal
    | tail _ hp => cases hp with
      | head => exact owns_later (owns_base h4 hX.size) hal
      | tail _ hp => cases hp with
        | head => exact owns_later (owns_base h5 hX.size) hal
        | tail _ hp => cases hp with
          | head => exact owns_later (owns_base h6 hX.size) hal
          | tail _ hp => cases hp

set_option maxHeartbeats 25600000 in
set_option maxRecDepth 100000 in
theorem ratioTells_walk (n0 : Bool) (a0 : Option Addr) (ca0 : Nat) (xs0 : List Int) (b0 : Option Addr) (cb0 : Nat) (ys0 : List Int) (n1 : Bool) (a1 : Option Addr) (ca1 : Nat) (xs1 : List Int) (b1 : Option Addr) (cb1 : Nat) (ys1 : List Int) (w : World) (s0 : Sl w (.slice a0 xs0.length ca0) xs0) (t0 : Sl w (.slice b0 ys0.length cb0) ys0) (s1 : Sl w (.slice a1 xs1.length ca1) xs1) (t1 : Sl w (.slice b1 ys1.length cb1) ys1) (lx0 : xs0.length ≤ 1048576) (ly0 : ys0.length ≤ 1048576) (lx1 : xs1.length ≤ 1048576) (ly1 : ys1.length ≤ 1048576) :
    Calls Tryz.prog 3 #[.agg #[.bool n0, .slice a0 xs0.length ca0, .slice b0 ys0.length cb0], .agg #[.bool n1, .slice a1 xs1.length ca1, .slice b1 ys1.length cb1]] w fun e w' => e = .returned (.bool true) ∧ Below w.heap.size w w' := by
  have wx0 := s0.wd
  have wy0 := t0.wd
  have wx1 := s1.wd
  have wy1 := t1.wd
  have S0 := hid (And.intro (And.intro s0 t0) (And.intro s1 t1))
  have HX : Hid (Below w.heap.size w ((w.alloc (.cells #[.bool n0, .slice a0 xs0.length ca0, .slice b0 ys0.length cb0] 24)).alloc (.cells #[.bool n1, .slice a1 xs1.length ca1, .slice b1 ys1.length cb1] 24))) := bt (alloc_later _ _) (alloc_later _ _)
  have HA : Hid (Box ((w.alloc (.cells #[.bool n0, .slice a0 xs0.length ca0, .slice b0 ys0.length cb0] 24)).alloc (.cells #[.bool n1, .slice a1 xs1.length ca1, .slice b1 ys1.length cb1] 24)) w.heap.size 24 #[.bool n0, .slice a0 xs0.length ca0, .slice b0 ys0.length cb0]) := (Box.made w _ _).later (alloc_later _ _) (by simp)
  have HB : Hid (Box ((w.alloc (.cells #[.bool n0, .slice a0 xs0.length ca0, .slice b0 ys0.length cb0] 24)).alloc (.cells #[.bool n1, .slice a1 xs1.length ca1, .slice b1 ys1.length cb1] 24)) (w.heap.size + 1) 24 #[.bool n1, .slice a1 xs1.length ca1, .slice b1 ys1.length cb1]) := by
    have e := Box.made (w.alloc (.cells #[.bool n0, .slice a0 xs0.length ca0, .slice b0 ys0.length cb0] 24)) 24 #[.bool n1, .slice a1 xs1.length ca1, .slice b1 ys1.length cb1]
    simp at e
    exact e
  obtain ⟨i0, hi, hz0, hz1, hz2⟩ := info_parts Tryz.infoR
  obtain ⟨ER, hER⟩ : ∃ e, rchk n0 xs0 ys0 = e := ⟨_, rfl⟩
  obtain ⟨EB, hEB⟩ : ∃ e, rboth n0 xs0 ys0 n1 xs1 ys1 = e := ⟨_, rfl⟩
  obtain ⟨EQ, hEQ⟩ : ∃ e, qErr n0 xs0 ys0 n1 xs1 ys1 = e := ⟨_, rfl⟩
  obtain ⟨CM, hCM⟩ : ∃ e, rcmp n0 xs0 ys0 n1 xs1 ys1 = e := ⟨_, rfl⟩
  obtain ⟨SG, hSG⟩ : ∃ e, rsgn n0 xs0 ys0 = e := ⟨_, rfl⟩
  obtain ⟨SM, hSM⟩ : ∃ e, decide (n0 = n1 ∧ xs0 = xs1 ∧ ys0 = ys1) = e := ⟨_, rfl⟩
  have HER := hid hER
  have HEB := hid hEB
  have HEQ := hid hEQ
  have HCM := hid hCM
  have HSG := hid hSG
  have HSM := hid hSM
  clear s0 t0 s1 t1 hER hEB hEQ hCM hSG hSM
  go_enter Tryz.func3, Tryz.ntmps3
  go_upto_region 1 with fail
  generalize ((w.alloc (.cells #[.bool n0, .slice a0 xs0.length ca0, .slice b0 ys0.length cb0] 24)).alloc (.cells #[.bool n1, .slice a1 xs1.length ca1, .slice b1 ys1.length cb1] 24)) = X at *
  have HS1 : Hid ((Sl X (.slice a0 xs0.length ca0) xs0 ∧ Sl X (.slice b0 ys0.length cb0) ys0) ∧ Sl X (.slice a1 xs1.length ca1) xs1 ∧ Sl X (.slice b1 ys1.length cb1) ys1) := ⟨⟨S0.out.1.1.later HX.out, S0.out.1.2.later HX.out⟩, S0.out.2.1.later HX.out, S0.out.2.2.later HX.out⟩
  refine tells_region w.heap.size (w.heap.size + 1) n0 a0 ca0 xs0 b0 cb0 ys0 n1 a1 ca1 xs1 b1 cb1 ys1 X (by omega) (by omega) (by omega) (by omega) (hid (And.intro HA.out HB.out)) HS1 _ _ _ _ _ _ _ _ _ _ _ _ _ _ _ _ _ _ _ _ _ _ _ _ _ _ _ _ _ _ _ _ _ _ _ _ _ _ _ _ _ (fun pa pb g1 c1 g2 c2 g3 c3 g4 c4 F HL => ?_)
  have H := hid (Tl.start HX.out HA.out HB.out HL.out)
  obtain ⟨hg1, hg2, hg3, hg4, hg5⟩ := HL.out.gs
  have hXw := HX.out.size
  clear HA HB HS1 HL HX
  have hlo0 : F.heap.size + 1 = F.heap.size + 1 := rfl
  have hs0 : F.heap.size + 1 ≤ (F.alloc (.cells #[.slice none 0 0, .bool true] 28)).heap.size := by simp
  have HK := rAdd_full n0 _ _ xs0 _ _ ys0 n1 _ _ xs1 _ _ ys1 (F.alloc (.cells #[.slice none 0 0, .bool true] 28)) (H.out.sl wx0 (.head _)) (H.out.sl wy0 (.tail _ (.head _))) (H.out.sl wx1 (.tail _ (.tail _ (.head _)))) (H.out.sl wy1 (.tail _ (.tail _ (.tail _ (.head _)))))
  rw [HEB.out] at HK
  have HC := hid (HK)
  obtain ⟨p00, p01, p02⟩ := H.out.st.get (.tail _ (.head _))
  obtain ⟨p10, p11, p12⟩ := H.out.st.get (.head _)
  go_wp2_with fail
  refine Calls.mono HC.out ?_
  generalize (F.alloc (.cells #[.slice none 0 0, .bool true] 28)) = V1 at *
  rintro e w1 ⟨N1, U1, Z1, T1, D1, C1, rfl, o1, q1, t1, hb, cc1, hc1, hd1, li, lj⟩
  clear HC p00 p01 p02 p10 p11 p12 HK
  obtain ⟨A1, K1, hs⟩ := own_slice' o1
  subst hs
  obtain ⟨B1, L1, hs⟩ := own_slice' q1
  subst hs
  have HT1 := hid t1
  have wz1 := t1.wx
  have wd1 := t1.wy
  obtain ⟨lz1, ld1⟩ := t1.len
  have HI1 := hid li
  have HJ1 := hid lj
  replace H := hid (((H.out.later hb).more o1).more q1)
  clear t1 o1 q1 hb li lj
  have HBs := hid (Box.made w1 24 #[.bool N1, .slice A1 Z1.length K1, .slice B1 D1.length L1])
  replace H := hid (H.out.later (alloc_later w1 (.cells #[.bool N1, .slice A1 Z1.length K1, .slice B1 D1.length L1] 24)))
  have hy1 := (alloc_later w1 (.cells #[.bool N1, .slice A1 Z1.length K1, .slice B1 D1.length L1] 24)).size
  have HK := dAdd_full n0 _ _ xs0 _ _ ys0 n1 _ _ xs1 _ _ ys1 (w1.alloc (.cells #[.bool N1, .slice A1 Z1.length K1, .slice B1 D1.length L1] 24)) (S0.out.1.1.later H.out.st.bel) (S0.out.1.2.later H.out.st.bel) (S0.out.2.1.later H.out.st.bel) (S0.out.2.2.later H.out.st.bel) (by omega) (by omega) (by omega) (by omega)
  rw [HEB.out] at HK
  have HC := hid (HK)
  obtain ⟨p00, p01, p02⟩ := H.out.st.get (.tail _ (.tail _ (.tail _ (.head _))))
  obtain ⟨p10, p11, p12⟩ := H.out.st.get (.tail _ (.tail _ (.head _)))
  go_wp2_with fail
  refine Calls.mono HC.out ?_
  generalize (w1.alloc (.cells #[.bool N1, .slice A1 Z1.length K1, .slice B1 D1.length L1] 24)) = V2 at *
  rintro e w2 ⟨N, U, Z, T, D, C, rfl, o', q', t', hb⟩
  clear HC p00 p01 p02 p10 p11 p12 HK
  obtain ⟨A', K', hs⟩ := own_slice' o'
  subst hs
  obtain ⟨B', L', hs⟩ := own_slice' q'
  subst hs
  obtain ⟨rfl, rfl, rfl, rfl⟩ := HT1.out.same t'
  have HD := hid (And.intro (Sl.own o' wz1) (Sl.own q' wd1))
  replace HBs := hid (HBs.out.later hb HBs.out.lt)
  replace H := hid (H.out.later hb)
  have hx1 := hb.size
  clear o' q' t' hb
  have HBw := hid (Box.made w2 24 #[.bool N1, .slice A' Z1.length K', .slice B' D1.length L'])
  replace H := hid (H.out.later (alloc_later w2 (.cells #[.bool N1, (.slice A' Z1.length K'), (.slice B' D1.length L')] 24)))
  replace HBs := hid (HBs.out.later (alloc_later w2 (.cells #[.bool N1, (.slice A' Z1.length K'), (.slice B' D1.length L')] 24)) HBs.out.lt)
  replace HD := hid (And.intro (HD.out.1.later (alloc_later w2 (.cells #[.bool N1, (.slice A' Z1.length K'), (.slice B' D1.length L')] 24))) (HD.out.2.later (alloc_later w2 (.cells #[.bool N1, (.slice A' Z1.length K'), (.slice B' D1.length L')] 24))))
  have hu1 := (alloc_later w2 (.cells #[.bool N1, (.slice A' Z1.length K'), (.slice B' D1.length L')] 24)).size
  have HC := hid (hear_ok (F.heap.size + 1) (.slice none 0 0) 0 [] N1 A1 K1 B1 L1 A' K' B' L' Z1 D1 C1 (w2.alloc (.cells #[.bool N1, (.slice A' Z1.length K'), (.slice B' D1.length L')] 24)) (by omega) H.out.low H.out.own (H.out.st.sl wz1 (.tail _ (.head _))) (H.out.st.sl wd1 (.head _)) HD.out.1 HD.out.2 (by omega) (by omega))
  obtain ⟨x0, x1, _, _⟩ := H.out.told
  obtain ⟨m0, m1, m2, _, _, _⟩ := res_box3 HBs.out (Below.refl _ _)
  obtain ⟨k0, k1, k2, _, _, _⟩ := res_box3 HBw.out (Below.refl _ _)
  go_wp2_with fail
  refine Calls.mono HC.out ?_
  generalize (w2.alloc (.cells #[.bool N1, (.slice A' Z1.length K'), (.slice B' D1.length L')] 24)) = V3 at *
  rintro e w3 ⟨v1, rfl, ov, hg⟩
  clear HC x0 x1 m0 m1 m2 k0 k1 k2 HBs HBw HD
  obtain ⟨Q1, J1, hs⟩ := own_slice3 ov
  subst hs
  obtain ⟨R1, hR⟩ : ∃ r : List Value, r = [] ++ [.bool N1, .slice A1 Z1.length K1, .slice B1 D1.length L1] := ⟨_, rfl⟩
  rw [← hR] at ov
  have HR1 := hid hR
  clear hR
  have HG := hid (H.out.grown hg ov)
  have hv1 := hg.size
  have x0 := HG.out.2.1.cell 0
  have x1 := HG.out.2.1.cell 1
  have y0 := HG.out.2.1.free 0
  have y1 := HG.out.2.1.free 1
  replace H := hid (H.out.heard hg ov)
  clear ov hg HG
  have hk1 : w3.heap.size ≤ ((w3.setCell ⟨F.heap.size, 0, none⟩ (.slice Q1 1 J1)).setCell ⟨F.heap.size, 1, none⟩ (.bool true)).heap.size := by simp
  have HK := rSub_full n0 _ _ xs0 _ _ ys0 n1 _ _ xs1 _ _ ys1 ((w3.setCell ⟨F.heap.size, 0, none⟩ (.slice Q1 1 J1)).setCell ⟨F.heap.size, 1, none⟩ (.bool true)) (H.out.sl wx0 (.head _)) (H.out.sl wy0 (.tail _ (.head _))) (H.out.sl wx1 (.tail _ (.tail _ (.head _)))) (H.out.sl wy1 (.tail _ (.tail _ (.tail _ (.head _)))))
  rw [HEB.out] at HK
  have HC := hid (HK)
  obtain ⟨p00, p01, p02⟩ := H.out.st.get (.tail _ (.head _))
  obtain ⟨p10, p11, p12⟩ := H.out.st.get (.head _)
  go_wp2_with fail
  refine Calls.mono HC.out ?_
  generalize ((w3.setCell ⟨F.heap.size, 0, none⟩ (.slice Q1 1 J1)).setCell ⟨F.heap.size, 1, none⟩ (.bool true)) = V4 at *
  rintro e w4 ⟨N2, U2, Z2, T2, D2, C2, rfl, o2, q2, t2, hb, cc2, hc2, hd2, li, lj⟩
  clear HC p00 p01 p02 p10 p11 p12 HK x0 x1 y0 y1
  obtain ⟨A2, K2, hs⟩ := own_slice' o2
  subst hs
  obtain ⟨B2, L2, hs⟩ := own_slice' q2
  subst hs
  have HT2 := hid t2
  have wz2 := t2.wx
  have wd2 := t2.wy
  obtain ⟨lz2, ld2⟩ := t2.len
  have HI2 := hid li
  have HJ2 := hid lj
  replace H := hid (((H.out.later hb).more o2).more q2)
  clear t2 o2 q2 hb li lj
  have HBs := hid (Box.made w4 24 #[.bool N2, .slice A2 Z2.length K2, .slice B2 D2.length L2])
  replace H := hid (H.out.later (alloc_later w4 (.cells #[.bool N2, .slice A2 Z2.length K2, .slice B2 D2.length L2] 24)))
  have hy2 := (alloc_later w4 (.cells #[.bool N2, .slice A2 Z2.length K2, .slice B2 D2.length L2] 24)).size
  have HK := dSub_full n0 _ _ xs0 _ _ ys0 n1 _ _ xs1 _ _ ys1 (w4.alloc (.cells #[.bool N2, .slice A2 Z2.length K2, .slice B2 D2.length L2] 24)) (S0.out.1.1.later H.out.st.bel) (S0.out.1.2.later H.out.st.bel) (S0.out.2.1.later H.out.st.bel) (S0.out.2.2.later H.out.st.bel) (by omega) (by omega) (by omega) (by omega)
  rw [HEB.out] at HK
  have HC := hid (HK)
  obtain ⟨p00, p01, p02⟩ := H.out.st.get (.tail _ (.tail _ (.tail _ (.head _))))
  obtain ⟨p10, p11, p12⟩ := H.out.st.get (.tail _ (.tail _ (.head _)))
  go_wp2_with fail
  refine Calls.mono HC.out ?_
  generalize (w4.alloc (.cells #[.bool N2, .slice A2 Z2.length K2, .slice B2 D2.length L2] 24)) = V5 at *
  rintro e w5 ⟨N, U, Z, T, D, C, rfl, o', q', t', hb⟩
  clear HC p00 p01 p02 p10 p11 p12 HK
  obtain ⟨A', K', hs⟩ := own_slice' o'
  subst hs
  obtain ⟨B', L', hs⟩ := own_slice' q'
  subst hs
  obtain ⟨rfl, rfl, rfl, rfl⟩ := HT2.out.same t'
  have HD := hid (And.intro (Sl.own o' wz2) (Sl.own q' wd2))
  replace HBs := hid (HBs.out.later hb HBs.out.lt)
  replace H := hid (H.out.later hb)
  have hx2 := hb.size
  clear o' q' t' hb
  have HBw := hid (Box.made w5 24 #[.bool N2, .slice A' Z2.length K', .slice B' D2.length L'])
  replace H := hid (H.out.later (alloc_later w5 (.cells #[.bool N2, (.slice A' Z2.length K'), (.slice B' D2.length L')] 24)))
  replace HBs := hid (HBs.out.later (alloc_later w5 (.cells #[.bool N2, (.slice A' Z2.length K'), (.slice B' D2.length L')] 24)) HBs.out.lt)
  replace HD := hid (And.intro (HD.out.1.later (alloc_later w5 (.cells #[.bool N2, (.slice A' Z2.length K'), (.slice B' D2.length L')] 24))) (HD.out.2.later (alloc_later w5 (.cells #[.bool N2, (.slice A' Z2.length K'), (.slice B' D2.length L')] 24))))
  have hu2 := (alloc_later w5 (.cells #[.bool N2, (.slice A' Z2.length K'), (.slice B' D2.length L')] 24)).size
  have HC := hid (hear_ok (F.heap.size + 1) (.slice Q1 1 J1) 1 R1 N2 A2 K2 B2 L2 A' K' B' L' Z2 D2 C2 (w5.alloc (.cells #[.bool N2, (.slice A' Z2.length K'), (.slice B' D2.length L')] 24)) (by omega) H.out.low H.out.own (H.out.st.sl wz2 (.tail _ (.head _))) (H.out.st.sl wd2 (.head _)) HD.out.1 HD.out.2 (by omega) (by omega))
  obtain ⟨x0, x1, _, _⟩ := H.out.told
  obtain ⟨m0, m1, m2, _, _, _⟩ := res_box3 HBs.out (Below.refl _ _)
  obtain ⟨k0, k1, k2, _, _, _⟩ := res_box3 HBw.out (Below.refl _ _)
  go_wp2_with fail
  refine Calls.mono HC.out ?_
  generalize (w5.alloc (.cells #[.bool N2, (.slice A' Z2.length K'), (.slice B' D2.length L')] 24)) = V6 at *
  rintro e w6 ⟨v2, rfl, ov, hg⟩
  clear HC x0 x1 m0 m1 m2 k0 k1 k2 HBs HBw HD
  obtain ⟨Q2, J2, hs⟩ := own_slice3 ov
  subst hs
  obtain ⟨R2, hR⟩ : ∃ r : List Value, r = R1 ++ [.bool N2, .slice A2 Z2.length K2, .slice B2 D2.length L2] := ⟨_, rfl⟩
  rw [← hR] at ov
  have HR2 := hid hR
  clear hR
  have HG := hid (H.out.grown hg ov)
  have hv2 := hg.size
  have x0 := HG.out.2.1.cell 0
  have x1 := HG.out.2.1.cell 1
  have y0 := HG.out.2.1.free 0
  have y1 := HG.out.2.1.free 1
  replace H := hid (H.out.heard hg ov)
  clear ov hg HG
  have hk2 : w6.heap.size ≤ ((w6.setCell ⟨F.heap.size, 0, none⟩ (.slice Q2 2 J2)).setCell ⟨F.heap.size, 1, none⟩ (.bool true)).heap.size := by simp
  have HK := rMul_full n0 _ _ xs0 _ _ ys0 n1 _ _ xs1 _ _ ys1 ((w6.setCell ⟨F.heap.size, 0, none⟩ (.slice Q2 2 J2)).setCell ⟨F.heap.size, 1, none⟩ (.bool true)) (H.out.sl wx0 (.head _)) (H.out.sl wy0 (.tail _ (.head _))) (H.out.sl wx1 (.tail _ (.tail _ (.head _)))) (H.out.sl wy1 (.tail _ (.tail _ (.tail _ (.head _)))))
  rw [HEB.out] at HK
  have HC := hid (HK)
  obtain ⟨p00, p01, p02⟩ := H.out.st.get (.tail _ (.head _))
  obtain ⟨p10, p11, p12⟩ := H.out.st.get (.head _)
  go_wp2_with fail
  refine Calls.mono HC.out ?_
  generalize ((w6.setCell ⟨F.heap.size, 0, none⟩ (.slice Q2 2 J2)).setCell ⟨F.heap.size, 1, none⟩ (.bool true)) = V7 at *
  rintro e w7 ⟨N3, U3, Z3, T3, D3, C3, rfl, o3, q3, t3, hb, cc3, hc3, hd3, li, lj⟩
  clear HC p00 p01 p02 p10 p11 p12 HK x0 x1 y0 y1
  obtain ⟨A3, K3, hs⟩ := own_slice' o3
  subst hs
  obtain ⟨B3, L3, hs⟩ := own_slice' q3
  subst hs
  have HT3 := hid t3
  have wz3 := t3.wx
  have wd3 := t3.wy
  obtain ⟨lz3, ld3⟩ := t3.len
  have HI3 := hid li
  have HJ3 := hid lj
  replace H := hid (((H.out.later hb).more o3).more q3)
  clear t3 o3 q3 hb li lj
  have HBs := hid (Box.made w7 24 #[.bool N3, .slice A3 Z3.length K3, .slice B3 D3.length L3])
  replace H := hid (H.out.later (alloc_later w7 (.cells #[.bool N3, .slice A3 Z3.length K3, .slice B3 D3.length L3] 24)))
  have hy3 := (alloc_later w7 (.cells #[.bool N3, .slice A3 Z3.length K3, .slice B3 D3.length L3] 24)).size
  have HK := dMul_full n0 _ _ xs0 _ _ ys0 n1 _ _ xs1 _ _ ys1 (w7.alloc (.cells #[.bool N3, .slice A3 Z3.length K3, .slice B3 D3.length L3] 24)) (S0.out.1.1.later H.out.st.bel) (S0.out.1.2.later H.out.st.bel) (S0.out.2.1.later H.out.st.bel) (S0.out.2.2.later H.out.st.bel) (by omega) (by omega) (by omega) (by omega)
  rw [HEB.out] at HK
  have HC := hid (HK)
  obtain ⟨p00, p01, p02⟩ := H.out.st.get (.tail _ (.tail _ (.tail _ (.head _))))
  obtain ⟨p10, p11, p12⟩ := H.out.st.get (.tail _ (.tail _ (.head _)))
  go_wp2_with fail
  refine Calls.mono HC.out ?_
  generalize (w7.alloc (.cells #[.bool N3, .slice A3 Z3.length K3, .slice B3 D3.length L3] 24)) = V8 at *
  rintro e w8 ⟨N, U, Z, T, D, C, rfl, o', q', t', hb⟩
  clear HC p00 p01 p02 p10 p11 p12 HK
  obtain ⟨A', K', hs⟩ := own_slice' o'
  subst hs
  obtain ⟨B', L', hs⟩ := own_slice' q'
  subst hs
  obtain ⟨rfl, rfl, rfl, rfl⟩ := HT3.out.same t'
  have HD := hid (And.intro (Sl.own o' wz3) (Sl.own q' wd3))
  replace HBs := hid (HBs.out.later hb HBs.out.lt)
  replace H := hid (H.out.later hb)
  have hx3 := hb.size
  clear o' q' t' hb
  have HBw := hid (Box.made w8 24 #[.bool N3, .slice A' Z3.length K', .slice B' D3.length L'])
  replace H := hid (H.out.later (alloc_later w8 (.cells #[.bool N3, (.slice A' Z3.length K'), (.slice B' D3.length L')] 24)))
  replace HBs := hid (HBs.out.later (alloc_later w8 (.cells #[.bool N3, (.slice A' Z3.length K'), (.slice B' D3.length L')] 24)) HBs.out.lt)
  replace HD := hid (And.intro (HD.out.1.later (alloc_later w8 (.cells #[.bool N3, (.slice A' Z3.length K'), (.slice B' D3.length L')] 24))) (HD.out.2.later (alloc_later w8 (.cells #[.bool N3, (.slice A' Z3.length K'), (.slice B' D3.length L')] 24))))
  have hu3 := (alloc_later w8 (.cells #[.bool N3, (.slice A' Z3.length K'), (.slice B' D3.length L')] 24)).size
  have HC := hid (hear_ok (F.heap.size + 1) (.slice Q2 2 J2) 2 R2 N3 A3 K3 B3 L3 A' K' B' L' Z3 D3 C3 (w8.alloc (.cells #[.bool N3, (.slice A' Z3.length K'), (.slice B' D3.length L')] 24)) (by omega) H.out.low H.out.own (H.out.st.sl wz3 (.tail _ (.head _))) (H.out.st.sl wd3 (.head _)) HD.out.1 HD.out.2 (by omega) (by omega))
  obtain ⟨x0, x1, _, _⟩ := H.out.told
  obtain ⟨m0, m1, m2, _, _, _⟩ := res_box3 HBs.out (Below.refl _ _)
  obtain ⟨k0, k1, k2, _, _, _⟩ := res_box3 HBw.out (Below.refl _ _)
  go_wp2_with fail
  refine Calls.mono HC.out ?_
  generalize (w8.alloc (.cells #[.bool N3, (.slice A' Z3.length K'), (.slice B' D3.length L')] 24)) = V9 at *
  rintro e w9 ⟨v3, rfl, ov, hg⟩
  clear HC x0 x1 m0 m1 m2 k0 k1 k2 HBs HBw HD
  obtain ⟨Q3, J3, hs⟩ := own_slice3 ov
  subst hs
  obtain ⟨R3, hR⟩ : ∃ r : List Value, r = R2 ++ [.bool N3, .slice A3 Z3.length K3, .slice B3 D3.length L3] := ⟨_, rfl⟩
  rw [← hR] at ov
  have HR3 := hid hR
  clear hR
  have HG := hid (H.out.grown hg ov)
  have hv3 := hg.size
  have x0 := HG.out.2.1.cell 0
  have x1 := HG.out.2.1.cell 1
  have y0 := HG.out.2.1.free 0
  have y1 := HG.out.2.1.free 1
  replace H := hid (H.out.heard hg ov)
  clear ov hg HG
  have hk3 : w9.heap.size ≤ ((w9.setCell ⟨F.heap.size, 0, none⟩ (.slice Q3 3 J3)).setCell ⟨F.heap.size, 1, none⟩ (.bool true)).heap.size := by simp
  have HK := rQuo_full n0 _ _ xs0 _ _ ys0 n1 _ _ xs1 _ _ ys1 ((w9.setCell ⟨F.heap.size, 0, none⟩ (.slice Q3 3 J3)).setCell ⟨F.heap.size, 1, none⟩ (.bool true)) (H.out.sl wx0 (.head _)) (H.out.sl wy0 (.tail _ (.head _))) (H.out.sl wx1 (.tail _ (.tail _ (.head _)))) (H.out.sl wy1 (.tail _ (.tail _ (.tail _ (.head _)))))
  rw [HEQ.out] at HK
  have HC := hid (HK)
  obtain ⟨p00, p01, p02⟩ := H.out.st.get (.tail _ (.head _))
  obtain ⟨p10, p11, p12⟩ := H.out.st.get (.head _)
  go_wp2_with fail
  refine Calls.mono HC.out ?_
  generalize ((w9.setCell ⟨F.heap.size, 0, none⟩ (.slice Q3 3 J3)).setCell ⟨F.heap.size, 1, none⟩ (.bool true)) = V10 at *
  rintro e w10 ⟨N4, U4, Z4, T4, D4, C4, rfl, o4, q4, t4, hb, cc4, hc4, hd4, li, lj⟩
  clear HC p00 p01 p02 p10 p11 p12 HK x0 x1 y0 y1
  obtain ⟨A4, K4, hs⟩ := own_slice' o4
  subst hs
  obtain ⟨B4, L4, hs⟩ := own_slice' q4
  subst hs
  have HT4 := hid t4
  have wz4 := t4.wx
  have wd4 := t4.wy
  obtain ⟨lz4, ld4⟩ := t4.len
  have HI4 := hid li
  have HJ4 := hid lj
  replace H := hid (((H.out.later hb).more o4).more q4)
  clear t4 o4 q4 hb li lj
  have HBs := hid (Box.made w10 24 #[.bool N4, .slice A4 Z4.length K4, .slice B4 D4.length L4])
  replace H := hid (H.out.later (alloc_later w10 (.cells #[.bool N4, .slice A4 Z4.length K4, .slice B4 D4.length L4] 24)))
  have hy4 := (alloc_later w10 (.cells #[.bool N4, .slice A4 Z4.length K4, .slice B4 D4.length L4] 24)).size
  have HK := dQuo_full n0 _ _ xs0 _ _ ys0 n1 _ _ xs1 _ _ ys1 (w10.alloc (.cells #[.bool N4, .slice A4 Z4.length K4, .slice B4 D4.length L4] 24)) (S0.out.1.1.later H.out.st.bel) (S0.out.1.2.later H.out.st.bel) (S0.out.2.1.later H.out.st.bel) (S0.out.2.2.later H.out.st.bel) (by omega) (by omega) (by omega) (by omega)
  rw [HEQ.out] at HK
  have HC := hid (HK)
  obtain ⟨p00, p01, p02⟩ := H.out.st.get (.tail _ (.tail _ (.tail _ (.head _))))
  obtain ⟨p10, p11, p12⟩ := H.out.st.get (.tail _ (.tail _ (.head _)))
  go_wp2_with fail
  refine Calls.mono HC.out ?_
  generalize (w10.alloc (.cells #[.bool N4, .slice A4 Z4.length K4, .slice B4 D4.length L4] 24)) = V11 at *
  rintro e w11 ⟨N, U, Z, T, D, C, rfl, o', q', t', hb⟩
  clear HC p00 p01 p02 p10 p11 p12 HK
  obtain ⟨A', K', hs⟩ := own_slice' o'
  subst hs
  obtain ⟨B', L', hs⟩ := own_slice' q'
  subst hs
  obtain ⟨rfl, rfl, rfl, rfl⟩ := HT4.out.same t'
  have HD := hid (And.intro (Sl.own o' wz4) (Sl.own q' wd4))
  replace HBs := hid (HBs.out.later hb HBs.out.lt)
  replace H := hid (H.out.later hb)
  have hx4 := hb.size
  clear o' q' t' hb
  have HBw := hid (Box.made w11 24 #[.bool N4, .slice A' Z4.length K', .slice B' D4.length L'])
  replace H := hid (H.out.later (alloc_later w11 (.cells #[.bool N4, (.slice A' Z4.length K'), (.slice B' D4.length L')] 24)))
  replace HBs := hid (HBs.out.later (alloc_later w11 (.cells #[.bool N4, (.slice A' Z4.length K'), (.slice B' D4.length L')] 24)) HBs.out.lt)
  replace HD := hid (And.intro (HD.out.1.later (alloc_later w11 (.cells #[.bool N4, (.slice A' Z4.length K'), (.slice B' D4.length L')] 24))) (HD.out.2.later (alloc_later w11 (.cells #[.bool N4, (.slice A' Z4.length K'), (.slice B' D4.length L')] 24))))
  have hu4 := (alloc_later w11 (.cells #[.bool N4, (.slice A' Z4.length K'), (.slice B' D4.length L')] 24)).size
  have HC := hid (hear_ok (F.heap.size + 1) (.slice Q3 3 J3) 3 R3 N4 A4 K4 B4 L4 A' K' B' L' Z4 D4 C4 (w11.alloc (.cells #[.bool N4, (.slice A' Z4.length K'), (.slice B' D4.length L')] 24)) (by omega) H.out.low H.out.own (H.out.st.sl wz4 (.tail _ (.head _))) (H.out.st.sl wd4 (.head _)) HD.out.1 HD.out.2 (by omega) (by omega))
  obtain ⟨x0, x1, _, _⟩ := H.out.told
  obtain ⟨m0, m1, m2, _, _, _⟩ := res_box3 HBs.out (Below.refl _ _)
  obtain ⟨k0, k1, k2, _, _, _⟩ := res_box3 HBw.out (Below.refl _ _)
  go_wp2_with fail
  refine Calls.mono HC.out ?_
  generalize (w11.alloc (.cells #[.bool N4, (.slice A' Z4.length K'), (.slice B' D4.length L')] 24)) = V12 at *
  rintro e w12 ⟨v4, rfl, ov, hg⟩
  clear HC x0 x1 m0 m1 m2 k0 k1 k2 HBs HBw HD
  obtain ⟨Q4, J4, hs⟩ := own_slice3 ov
  subst hs
  obtain ⟨R4, hR⟩ : ∃ r : List Value, r = R3 ++ [.bool N4, .slice A4 Z4.length K4, .slice B4 D4.length L4] := ⟨_, rfl⟩
  rw [← hR] at ov
  have HR4 := hid hR
  clear hR
  have HG := hid (H.out.grown hg ov)
  have hv4 := hg.size
  have x0 := HG.out.2.1.cell 0
  have x1 := HG.out.2.1.cell 1
  have y0 := HG.out.2.1.free 0
  have y1 := HG.out.2.1.free 1
  replace H := hid (H.out.heard hg ov)
  clear ov hg HG
  have hk4 : w12.heap.size ≤ ((w12.setCell ⟨F.heap.size, 0, none⟩ (.slice Q4 4 J4)).setCell ⟨F.heap.size, 1, none⟩ (.bool true)).heap.size := by simp
  have HK := rNeg_full n0 _ _ xs0 _ _ ys0 ((w12.setCell ⟨F.heap.size, 0, none⟩ (.slice Q4 4 J4)).setCell ⟨F.heap.size, 1, none⟩ (.bool true)) (H.out.sl wx0 (.head _)) (H.out.sl wy0 (.tail _ (.head _)))
  rw [HER.out] at HK
  have HC := hid (HK)
  obtain ⟨p00, p01, p02⟩ := H.out.st.get (.tail _ (.head _))
  go_wp2_with fail
  refine Calls.mono HC.out ?_
  generalize ((w12.setCell ⟨F.heap.size, 0, none⟩ (.slice Q4 4 J4)).setCell ⟨F.heap.size, 1, none⟩ (.bool true)) = V13 at *
  rintro e w13 ⟨N5, U5, Z5, T5, D5, C5, rfl, o5, q5, t5, hb, cc5, hc5, hd5, li, lj⟩
  clear HC p00 p01 p02 HK x0 x1 y0 y1
  obtain ⟨A5, K5, hs⟩ := own_slice' o5
  subst hs
  obtain ⟨B5, L5, hs⟩ := own_slice' q5
  subst hs
  have HT5 := hid t5
  have wz5 := t5.wx
  have wd5 := t5.wy
  obtain ⟨lz5, ld5⟩ := t5.len
  have HI5 := hid li
  have HJ5 := hid lj
  replace H := hid (((H.out.later hb).more o5).more q5)
  clear t5 o5 q5 hb li lj
  have HBs := hid (Box.made w13 24 #[.bool N5, .slice A5 Z5.length K5, .slice B5 D5.length L5])
  replace H := hid (H.out.later (alloc_later w13 (.cells #[.bool N5, .slice A5 Z5.length K5, .slice B5 D5.length L5] 24)))
  have hy5 := (alloc_later w13 (.cells #[.bool N5, .slice A5 Z5.length K5, .slice B5 D5.length L5] 24)).size
  have HK := dNeg_full n0 _ _ xs0 _ _ ys0 (w13.alloc (.cells #[.bool N5, .slice A5 Z5.length K5, .slice B5 D5.length L5] 24)) (S0.out.1.1.later H.out.st.bel) (S0.out.1.2.later H.out.st.bel) (by omega) (by omega)
  rw [HER.out] at HK
  have HC := hid (HK)
  obtain ⟨p00, p01, p02⟩ := H.out.st.get (.tail _ (.tail _ (.tail _ (.head _))))
  go_wp2_with fail
  refine Calls.mono HC.out ?_
  generalize (w13.alloc (.cells #[.bool N5, .slice A5 Z5.length K5, .slice B5 D5.length L5] 24)) = V14 at *
  rintro e w14 ⟨N, U, Z, T, D, C, rfl, o', q', t', hb⟩
  clear HC p00 p01 p02 HK
  obtain ⟨A', K', hs⟩ := own_slice' o'
  subst hs
  obtain ⟨B', L', hs⟩ := own_slice' q'
  subst hs
  obtain ⟨rfl, rfl, rfl, rfl⟩ := HT5.out.same t'
  have HD := hid (And.intro (Sl.own o' wz5) (Sl.own q' wd5))
  replace HBs := hid (HBs.out.later hb HBs.out.lt)
  replace H := hid (H.out.later hb)
  have hx5 := hb.size
  clear o' q' t' hb
  have HBw := hid (Box.made w14 24 #[.bool N5, .slice A' Z5.length K', .slice B' D5.length L'])
  replace H := hid (H.out.later (alloc_later w14 (.cells #[.bool N5, (.slice A' Z5.length K'), (.slice B' D5.length L')] 24)))
  replace HBs := hid (HBs.out.later (alloc_later w14 (.cells #[.bool N5, (.slice A' Z5.length K'), (.slice B' D5.length L')] 24)) HBs.out.lt)
  replace HD := hid (And.intro (HD.out.1.later (alloc_later w14 (.cells #[.bool N5, (.slice A' Z5.length K'), (.slice B' D5.length L')] 24))) (HD.out.2.later (alloc_later w14 (.cells #[.bool N5, (.slice A' Z5.length K'), (.slice B' D5.length L')] 24))))
  have hu5 := (alloc_later w14 (.cells #[.bool N5, (.slice A' Z5.length K'), (.slice B' D5.length L')] 24)).size
  have HC := hid (hear_ok (F.heap.size + 1) (.slice Q4 4 J4) 4 R4 N5 A5 K5 B5 L5 A' K' B' L' Z5 D5 C5 (w14.alloc (.cells #[.bool N5, (.slice A' Z5.length K'), (.slice B' D5.length L')] 24)) (by omega) H.out.low H.out.own (H.out.st.sl wz5 (.tail _ (.head _))) (H.out.st.sl wd5 (.head _)) HD.out.1 HD.out.2 (by omega) (by omega))
  obtain ⟨x0, x1, _, _⟩ := H.out.told
  obtain ⟨m0, m1, m2, _, _, _⟩ := res_box3 HBs.out (Below.refl _ _)
  obtain ⟨k0, k1, k2, _, _, _⟩ := res_box3 HBw.out (Below.refl _ _)
  go_wp2_with fail
  refine Calls.mono HC.out ?_
  generalize (w14.alloc (.cells #[.bool N5, (.slice A' Z5.length K'), (.slice B' D5.length L')] 24)) = V15 at *
  rintro e w15 ⟨v5, rfl, ov, hg⟩
  clear HC x0 x1 m0 m1 m2 k0 k1 k2 HBs HBw HD
  obtain ⟨Q5, J5, hs⟩ := own_slice3 ov
  subst hs
  obtain ⟨R5, hR⟩ : ∃ r : List Value, r = R4 ++ [.bool N5, .slice A5 Z5.length K5, .slice B5 D5.length L5] := ⟨_, rfl⟩
  rw [← hR] at ov
  have HR5 := hid hR
  clear hR
  have HG := hid (H.out.grown hg ov)
  have hv5 := hg.size
  have x0 := HG.out.2.1.cell 0
  have x1 := HG.out.2.1.cell 1
  have y0 := HG.out.2.1.free 0
  have y1 := HG.out.2.1.free 1
  replace H := hid (H.out.heard hg ov)
  clear ov hg HG
  have hk5 : w15.heap.size ≤ ((w15.setCell ⟨F.heap.size, 0, none⟩ (.slice Q5 5 J5)).setCell ⟨F.heap.size, 1, none⟩ (.bool true)).heap.size := by simp
  have HK := rCompare_full n0 _ _ xs0 _ _ ys0 n1 _ _ xs1 _ _ ys1 ((w15.setCell ⟨F.heap.size, 0, none⟩ (.slice Q5 5 J5)).setCell ⟨F.heap.size, 1, none⟩ (.bool true)) (H.out.sl wx0 (.head _)) (H.out.sl wy0 (.tail _ (.head _))) (H.out.sl wx1 (.tail _ (.tail _ (.head _)))) (H.out.sl wy1 (.tail _ (.tail _ (.tail _ (.head _)))))
  rw [HCM.out, HEB.out] at HK
  have HC := hid (HK)
  obtain ⟨p00, p01, p02⟩ := H.out.st.get (.tail _ (.head _))
  obtain ⟨p10, p11, p12⟩ := H.out.st.get (.head _)
  go_wp2_with fail
  refine Calls.mono HC.out ?_
  generalize ((w15.setCell ⟨F.heap.size, 0, none⟩ (.slice Q5 5 J5)).setCell ⟨F.heap.size, 1, none⟩ (.bool true)) = V16 at *
  rintro e w16 ⟨rfl, hb⟩
  clear HC p00 p01 p02 p10 p11 p12 HK x0 x1 y0 y1
  replace H := hid (H.out.later hb)
  have hw6 := hb.size
  clear hb
  have HK := dCompare_full n0 _ _ xs0 _ _ ys0 n1 _ _ xs1 _ _ ys1 w16 (S0.out.1.1.later H.out.st.bel) (S0.out.1.2.later H.out.st.bel) (S0.out.2.1.later H.out.st.bel) (S0.out.2.2.later H.out.st.bel) (by omega) (by omega) (by omega) (by omega)
  rw [HCM.out, HEB.out] at HK
  have HC := hid (HK)
  obtain ⟨p00, p01, p02⟩ := H.out.st.get (.tail _ (.tail _ (.tail _ (.head _))))
  obtain ⟨p10, p11, p12⟩ := H.out.st.get (.tail _ (.tail _ (.head _)))
  go_wp2_with fail
  refine Calls.mono HC.out ?_
  rintro e w17 ⟨rfl, hb⟩
  clear HC p00 p01 p02 p10 p11 p12 HK
  replace H := hid (H.out.later hb)
  have hw7 := hb.size
  clear hb
  have HK := rFloor_full n0 _ _ xs0 _ _ ys0 w17 (H.out.sl wx0 (.head _)) (H.out.sl wy0 (.tail _ (.head _)))
  rw [HER.out] at HK
  have HC := hid (HK)
  obtain ⟨p00, p01, p02⟩ := H.out.st.get (.tail _ (.head _))
  go_wp2_with fail
  refine Calls.mono HC.out ?_
  rintro e w18 ⟨N6, U6, Z6, C6, rfl, o6, t6, hb⟩
  clear HC p00 p01 p02 HK
  obtain ⟨A6, K6, hs⟩ := own_slice' o6
  subst hs
  have HT6 := hid t6
  have wz6 := t6.wd
  have lz6 := t6.len
  have HI6 : Hid (Within (.slice A6 Z6.length K6) w17.heap.size w18.heap.size) := Within.own o6 (Nat.le_refl _)
  have hd6 := hb.size
  replace H := hid ((H.out.later hb).more o6)
  clear t6 o6 hb
  have HBs := hid (Box.made w18 37 #[.bool N6, .slice A6 Z6.length K6])
  replace H := hid (H.out.later (alloc_later w18 (.cells #[.bool N6, .slice A6 Z6.length K6] 37)))
  have hy6 := (alloc_later w18 (.cells #[.bool N6, .slice A6 Z6.length K6] 37)).size
  have HK := dFloor_full n0 _ _ xs0 _ _ ys0 (w18.alloc (.cells #[.bool N6, .slice A6 Z6.length K6] 37)) (S0.out.1.1.later H.out.st.bel) (S0.out.1.2.later H.out.st.bel) (by omega) (by omega)
  rw [HER.out] at HK
  have HC := hid (HK)
  obtain ⟨p00, p01, p02⟩ := H.out.st.get (.tail _ (.tail _ (.tail _ (.head _))))
  go_wp2_with fail
  refine Calls.mono HC.out ?_
  generalize (w18.alloc (.cells #[.bool N6, .slice A6 Z6.length K6] 37)) = V17 at *
  rintro e w19 ⟨N, U, Z, C, rfl, o', t', hb⟩
  clear HC p00 p01 p02 HK
  obtain ⟨A', K', hs⟩ := own_slice' o'
  subst hs
  obtain ⟨rfl, rfl, rfl⟩ := wtells_same HT6.out t'
  have HD := hid (Sl.own o' wz6)
  replace HBs := hid (HBs.out.later hb HBs.out.lt)
  replace H := hid (H.out.later hb)
  have hx6 := hb.size
  clear o' t' hb
  have HBw := hid (Box.made w19 37 #[.bool N6, .slice A' Z6.length K'])
  replace H := hid (H.out.later (alloc_later w19 (.cells #[.bool N6, .slice A' Z6.length K'] 37)))
  replace HBs := hid (HBs.out.later (alloc_later w19 (.cells #[.bool N6, .slice A' Z6.length K'] 37)) HBs.out.lt)
  replace HD := hid (HD.out.later (alloc_later w19 (.cells #[.bool N6, .slice A' Z6.length K'] 37)))
  go_wp2_with fail
  generalize (w19.alloc (.cells #[.bool N6, .slice A' Z6.length K'] 37)) = V18 at *
  have HK : Hid (∀ U, Below V18.heap.size V18 U → U.cell? ⟨pa, 0, none⟩ = some (.bool n0) ∧ U.cell? ⟨pa, 1, none⟩ = some (.slice (some ⟨g1, 0, none⟩) xs0.length c1) ∧ U.cell? ⟨pa, 2, none⟩ = some (.slice (some ⟨g2, 0, none⟩) ys0.length c2) ∧ U.cell? ⟨pb, 0, none⟩ = some (.bool n1) ∧ U.cell? ⟨pb, 1, none⟩ = some (.slice (some ⟨g3, 0, none⟩) xs1.length c3) ∧ U.cell? ⟨pb, 2, none⟩ = some (.slice (some ⟨g4, 0, none⟩) ys1.length c4) ∧ U.cell? ⟨w.heap.size, 0, none⟩ = some (.bool n0) ∧ U.cell? ⟨w.heap.size, 1, none⟩ = some (.slice a0 xs0.length ca0) ∧ U.cell? ⟨w.heap.size, 2, none⟩ = some (.slice b0 ys0.length cb0) ∧ U.cell? ⟨w.heap.size + 1, 0, none⟩ = some (.bool n1) ∧ U.cell? ⟨w.heap.size + 1, 1, none⟩ = some (.slice a1 xs1.length ca1) ∧ U.cell? ⟨w.heap.size + 1, 2, none⟩ = some (.slice b1 ys1.length cb1)) := fun U hb => by
    have h := H.out.st.later hb
    obtain ⟨p0, p1, p2⟩ := h.get (.tail _ (.head _))
    obtain ⟨q0, q1, q2⟩ := h.get (.head _)
    obtain ⟨a0, a1, a2⟩ := h.get (.tail _ (.tail _ (.tail _ (.head _))))
    obtain ⟨b0, b1, b2⟩ := h.get (.tail _ (.tail _ (.head _)))
    exact ⟨p0, p1, p2, q0, q1, q2, a0, a1, a2, b0, b1, b2⟩
  have HC1 : Hid (∀ U, Below V18.heap.size V18 U → Calls Tryz.prog 20 #[.agg #[.bool n0, .slice (some ⟨g1, 0, none⟩) xs0.length c1, .slice (some ⟨g2, 0, none⟩) ys0.length c2]] U fun e U' => e = .returned (.int .i64 ER) ∧ Hid (Below V18.heap.size V18 U') ∧ U'.cell? ⟨pa, 0, none⟩ = some (.bool n0) ∧ U'.cell? ⟨pa, 1, none⟩ = some (.slice (some ⟨g1, 0, none⟩) xs0.length c1) ∧ U'.cell? ⟨pa, 2, none⟩ = some (.slice (some ⟨g2, 0, none⟩) ys0.length c2) ∧ U'.cell? ⟨pb, 0, none⟩ = some (.bool n1) ∧ U'.cell? ⟨pb, 1, none⟩ = some (.slice (some ⟨g3, 0, none⟩) xs1.length c3) ∧ U'.cell? ⟨pb, 2, none⟩ = some (.slice (some ⟨g4, 0, none⟩) ys1.length c4) ∧ U'.cell? ⟨w.heap.size, 0, none⟩ = some (.bool n0) ∧ U'.cell? ⟨w.heap.size, 1, none⟩ = some (.slice a0 xs0.length ca0) ∧ U'.cell? ⟨w.heap.size, 2, none⟩ = some (.slice b0 ys0.length cb0) ∧ U'.cell? ⟨w.heap.size + 1, 0, none⟩ = some (.bool n1) ∧ U'.cell? ⟨w.heap.size + 1, 1, none⟩ = some (.slice a1 xs1.length ca1) ∧ U'.cell? ⟨w.heap.size + 1, 2, none⟩ = some (.slice b1 ys1.length cb1)) := fun U hb => by
    have HK2 := rcheck_any n0 _ xs0 _ ys0 U ((H.out.later hb).sl wx0 (.head _)) ((H.out.later hb).sl wy0 (.tail _ (.head _)))
    rw [HER.out] at HK2
    refine Calls.mono HK2 ?_
    rintro e U' ⟨rfl, hb'⟩
    exact ⟨rfl, bt hb hb', HK.out U' (bt hb hb')⟩
  have HC2 : Hid (∀ U, Below V18.heap.size V18 U → Calls Tryz.prog 21 #[.agg #[.bool n0, .slice a0 xs0.length ca0, .slice b0 ys0.length cb0]] U fun e U' => e = .returned (.int .i64 ER) ∧ Hid (Below V18.heap.size V18 U') ∧ U'.cell? ⟨pa, 0, none⟩ = some (.bool n0) ∧ U'.cell? ⟨pa, 1, none⟩ = some (.slice (some ⟨g1, 0, none⟩) xs0.length c1) ∧ U'.cell? ⟨pa, 2, none⟩ = some (.slice (some ⟨g2, 0, none⟩) ys0.length c2) ∧ U'.cell? ⟨pb, 0, none⟩ = some (.bool n1) ∧ U'.cell? ⟨pb, 1, none⟩ = some (.slice (some ⟨g3, 0, none⟩) xs1.length c3) ∧ U'.cell? ⟨pb, 2, none⟩ = some (.slice (some ⟨g4, 0, none⟩) ys1.length c4) ∧ U'.cell? ⟨w.heap.size, 0, none⟩ = some (.bool n0) ∧ U'.cell? ⟨w.heap.size, 1, none⟩ = some (.slice a0 xs0.length ca0) ∧ U'.cell? ⟨w.heap.size, 2, none⟩ = some (.slice b0 ys0.length cb0) ∧ U'.cell? ⟨w.heap.size + 1, 0, none⟩ = some (.bool n1) ∧ U'.cell? ⟨w.heap.size + 1, 1, none⟩ = some (.slice a1 xs1.length ca1) ∧ U'.cell? ⟨w.heap.size + 1, 2, none⟩ = some (.slice b1 ys1.length cb1)) := fun U hb => by
    have HK2 := check3_any n0 _ _ xs0 _ _ ys0 U (S0.out.1.1.later (bt H.out.st.bel hb)) (S0.out.1.2.later (bt H.out.st.bel hb)) (by omega) (by omega)
    rw [HER.out] at HK2
    refine Calls.mono HK2 ?_
    rintro e U' ⟨rfl, hb'⟩
    exact ⟨rfl, bt hb hb', HK.out U' (bt hb hb')⟩
  have HC3 : Hid (∀ U, Below V18.heap.size V18 U → Calls Tryz.prog 22 #[.agg #[.bool n0, .slice (some ⟨g1, 0, none⟩) xs0.length c1, .slice (some ⟨g2, 0, none⟩) ys0.length c2]] U fun e U' => e = .returned (.int .i64 SG) ∧ Hid (Below V18.heap.size V18 U') ∧ U'.cell? ⟨pa, 0, none⟩ = some (.bool n0) ∧ U'.cell? ⟨pa, 1, none⟩ = some (.slice (some ⟨g1, 0, none⟩) xs0.length c1) ∧ U'.cell? ⟨pa, 2, none⟩ = some (.slice (some ⟨g2, 0, none⟩) ys0.length c2) ∧ U'.cell? ⟨pb, 0, none⟩ = some (.bool n1) ∧ U'.cell? ⟨pb, 1, none⟩ = some (.slice (some ⟨g3, 0, none⟩) xs1.length c3) ∧ U'.cell? ⟨pb, 2, none⟩ = some (.slice (some ⟨g4, 0, none⟩) ys1.length c4) ∧ U'.cell? ⟨w.heap.size, 0, none⟩ = some (.bool n0) ∧ U'.cell? ⟨w.heap.size, 1, none⟩ = some (.slice a0 xs0.length ca0) ∧ U'.cell? ⟨w.heap.size, 2, none⟩ = some (.slice b0 ys0.length cb0) ∧ U'.cell? ⟨w.heap.size + 1, 0, none⟩ = some (.bool n1) ∧ U'.cell? ⟨w.heap.size + 1, 1, none⟩ = some (.slice a1 xs1.length ca1) ∧ U'.cell? ⟨w.heap.size + 1, 2, none⟩ = some (.slice b1 ys1.length cb1)) := fun U hb => by
    have HK2 := rSign_any n0 _ _ xs0 _ _ ys0 U ((H.out.later hb).sl wx0 (.head _)) ((H.out.later hb).sl wy0 (.tail _ (.head _)))
    rw [HSG.out] at HK2
    refine Calls.mono HK2 ?_
    rintro e U' ⟨rfl, hb'⟩
    exact ⟨rfl, bt hb hb', HK.out U' (bt hb hb')⟩
  have HC4 : Hid (∀ U, Below V18.heap.size V18 U → Calls Tryz.prog 23 #[.agg #[.bool n0, .slice a0 xs0.length ca0, .slice b0 ys0.length cb0]] U fun e U' => e = .returned (.int .i64 SG) ∧ Hid (Below V18.heap.size V18 U') ∧ U'.cell? ⟨pa, 0, none⟩ = some (.bool n0) ∧ U'.cell? ⟨pa, 1, none⟩ = some (.slice (some ⟨g1, 0, none⟩) xs0.length c1) ∧ U'.cell? ⟨pa, 2, none⟩ = some (.slice (some ⟨g2, 0, none⟩) ys0.length c2) ∧ U'.cell? ⟨pb, 0, none⟩ = some (.bool n1) ∧ U'.cell? ⟨pb, 1, none⟩ = some (.slice (some ⟨g3, 0, none⟩) xs1.length c3) ∧ U'.cell? ⟨pb, 2, none⟩ = some (.slice (some ⟨g4, 0, none⟩) ys1.length c4) ∧ U'.cell? ⟨w.heap.size, 0, none⟩ = some (.bool n0) ∧ U'.cell? ⟨w.heap.size, 1, none⟩ = some (.slice a0 xs0.length ca0) ∧ U'.cell? ⟨w.heap.size, 2, none⟩ = some (.slice b0 ys0.length cb0) ∧ U'.cell? ⟨w.heap.size + 1, 0, none⟩ = some (.bool n1) ∧ U'.cell? ⟨w.heap.size + 1, 1, none⟩ = some (.slice a1 xs1.length ca1) ∧ U'.cell? ⟨w.heap.size + 1, 2, none⟩ = some (.slice b1 ys1.length cb1)) := fun U hb => by
    have HK2 := dSign_any n0 _ _ xs0 _ _ ys0 U (S0.out.1.1.later (bt H.out.st.bel hb)) (S0.out.1.2.later (bt H.out.st.bel hb)) (by omega) (by omega)
    rw [HSG.out] at HK2
    refine Calls.mono HK2 ?_
    rintro e U' ⟨rfl, hb'⟩
    exact ⟨rfl, bt hb hb', HK.out U' (bt hb hb')⟩
  have HC5 : Hid (∀ U, Below V18.heap.size V18 U → Calls Tryz.prog 24 #[.agg #[.bool n0, .slice (some ⟨g1, 0, none⟩) xs0.length c1, .slice (some ⟨g2, 0, none⟩) ys0.length c2], .agg #[.bool n1, .slice (some ⟨g3, 0, none⟩) xs1.length c3, .slice (some ⟨g4, 0, none⟩) ys1.length c4]] U fun e U' => e = .returned (.bool SM) ∧ Hid (Below V18.heap.size V18 U') ∧ U'.cell? ⟨pa, 0, none⟩ = some (.bool n0) ∧ U'.cell? ⟨pa, 1, none⟩ = some (.slice (some ⟨g1, 0, none⟩) xs0.length c1) ∧ U'.cell? ⟨pa, 2, none⟩ = some (.slice (some ⟨g2, 0, none⟩) ys0.length c2) ∧ U'.cell? ⟨pb, 0, none⟩ = some (.bool n1) ∧ U'.cell? ⟨pb, 1, none⟩ = some (.slice (some ⟨g3, 0, none⟩) xs1.length c3) ∧ U'.cell? ⟨pb, 2, none⟩ = some (.slice (some ⟨g4, 0, none⟩) ys1.length c4) ∧ U'.cell? ⟨w.heap.size, 0, none⟩ = some (.bool n0) ∧ U'.cell? ⟨w.heap.size, 1, none⟩ = some (.slice a0 xs0.length ca0) ∧ U'.cell? ⟨w.heap.size, 2, none⟩ = some (.slice b0 ys0.length cb0) ∧ U'.cell? ⟨w.heap.size + 1, 0, none⟩ = some (.bool n1) ∧ U'.cell? ⟨w.heap.size + 1, 1, none⟩ = some (.slice a1 xs1.length ca1) ∧ U'.cell? ⟨w.heap.size + 1, 2, none⟩ = some (.slice b1 ys1.length cb1)) := fun U hb => by
    have HK2 := rSame_any n0 _ _ xs0 _ _ ys0 n1 _ _ xs1 _ _ ys1 U ((H.out.later hb).sl wx0 (.head _)) ((H.out.later hb).sl wy0 (.tail _ (.head _))) ((H.out.later hb).sl wx1 (.tail _ (.tail _ (.head _)))) ((H.out.later hb).sl wy1 (.tail _ (.tail _ (.tail _ (.head _))))) (by omega) (by omega) (by omega) (by omega)
    rw [HSM.out] at HK2
    refine Calls.mono HK2 ?_
    rintro e U' ⟨rfl, hb'⟩
    exact ⟨rfl, bt hb hb', HK.out U' (bt hb hb')⟩
  have HC6 : Hid (∀ U, Below V18.heap.size V18 U → Calls Tryz.prog 25 #[.agg #[.bool n0, .slice a0 xs0.length ca0, .slice b0 ys0.length cb0], .agg #[.bool n1, .slice a1 xs1.length ca1, .slice b1 ys1.length cb1]] U fun e U' => e = .returned (.bool SM) ∧ Hid (Below V18.heap.size V18 U') ∧ U'.cell? ⟨pa, 0, none⟩ = some (.bool n0) ∧ U'.cell? ⟨pa, 1, none⟩ = some (.slice (some ⟨g1, 0, none⟩) xs0.length c1) ∧ U'.cell? ⟨pa, 2, none⟩ = some (.slice (some ⟨g2, 0, none⟩) ys0.length c2) ∧ U'.cell? ⟨pb, 0, none⟩ = some (.bool n1) ∧ U'.cell? ⟨pb, 1, none⟩ = some (.slice (some ⟨g3, 0, none⟩) xs1.length c3) ∧ U'.cell? ⟨pb, 2, none⟩ = some (.slice (some ⟨g4, 0, none⟩) ys1.length c4) ∧ U'.cell? ⟨w.heap.size, 0, none⟩ = some (.bool n0) ∧ U'.cell? ⟨w.heap.size, 1, none⟩ = some (.slice a0 xs0.length ca0) ∧ U'.cell? ⟨w.heap.size, 2, none⟩ = some (.slice b0 ys0.length cb0) ∧ U'.cell? ⟨w.heap.size + 1, 0, none⟩ = some (.bool n1) ∧ U'.cell? ⟨w.heap.size + 1, 1, none⟩ = some (.slice a1 xs1.length ca1) ∧ U'.cell? ⟨w.heap.size + 1, 2, none⟩ = some (.slice b1 ys1.length cb1)) := fun U hb => by
    have HK2 := dSame_any n0 _ _ xs0 _ _ ys0 n1 _ _ xs1 _ _ ys1 U (S0.out.1.1.later (bt H.out.st.bel hb)) (S0.out.1.2.later (bt H.out.st.bel hb)) (S0.out.2.1.later (bt H.out.st.bel hb)) (S0.out.2.2.later (bt H.out.st.bel hb)) (by omega) (by omega) (by omega) (by omega)
    rw [HSM.out] at HK2
    refine Calls.mono HK2 ?_
    rintro e U' ⟨rfl, hb'⟩
    exact ⟨rfl, bt hb hb', HK.out U' (bt hb hb')⟩
  have HC7 : Hid (∀ U, Below V18.heap.size V18 U → Calls Tryz.prog 24 #[.agg #[.bool n0, .slice (some ⟨g1, 0, none⟩) xs0.length c1, .slice (some ⟨g2, 0, none⟩) ys0.length c2], .agg #[.bool n0, .slice (some ⟨g1, 0, none⟩) xs0.length c1, .slice (some ⟨g2, 0, none⟩) ys0.length c2]] U fun e U' => e = .returned (.bool true) ∧ Hid (Below V18.heap.size V18 U') ∧ U'.cell? ⟨pa, 0, none⟩ = some (.bool n0) ∧ U'.cell? ⟨pa, 1, none⟩ = some (.slice (some ⟨g1, 0, none⟩) xs0.length c1) ∧ U'.cell? ⟨pa, 2, none⟩ = some (.slice (some ⟨g2, 0, none⟩) ys0.length c2) ∧ U'.cell? ⟨pb, 0, none⟩ = some (.bool n1) ∧ U'.cell? ⟨pb, 1, none⟩ = some (.slice (some ⟨g3, 0, none⟩) xs1.length c3) ∧ U'.cell? ⟨pb, 2, none⟩ = some (.slice (some ⟨g4, 0, none⟩) ys1.length c4) ∧ U'.cell? ⟨w.heap.size, 0, none⟩ = some (.bool n0) ∧ U'.cell? ⟨w.heap.size, 1, none⟩ = some (.slice a0 xs0.length ca0) ∧ U'.cell? ⟨w.heap.size, 2, none⟩ = some (.slice b0 ys0.length cb0) ∧ U'.cell? ⟨w.heap.size + 1, 0, none⟩ = some (.bool n1) ∧ U'.cell? ⟨w.heap.size + 1, 1, none⟩ = some (.slice a1 xs1.length ca1) ∧ U'.cell? ⟨w.heap.size + 1, 2, none⟩ = some (.slice b1 ys1.length cb1)) := fun U hb => by
    have HK2 := rSame_any n0 _ _ xs0 _ _ ys0 n0 _ _ xs0 _ _ ys0 U ((H.out.later hb).sl wx0 (.head _)) ((H.out.later hb).sl wy0 (.tail _ (.head _))) ((H.out.later hb).sl wx0 (.head _)) ((H.out.later hb).sl wy0 (.tail _ (.head _))) (by omega) (by omega) (by omega) (by omega)
    rw [decide_eq_true (And.intro rfl (And.intro rfl rfl))] at HK2
    refine Calls.mono HK2 ?_
    rintro e U' ⟨rfl, hb'⟩
    exact ⟨rfl, bt hb hb', HK.out U' (bt hb hb')⟩
  have hs0 := HK.out _ (Below.drew (Below.refl V18.heap.size V18))
  have HB0 := hid (Below.drew (Below.refl V18.heap.size V18))
  go_region_held3 (fun U : World => U.cell? ⟨pa, 0, none⟩ = some (.bool n0) ∧ U.cell? ⟨pa, 1, none⟩ = some (.slice (some ⟨g1, 0, none⟩) xs0.length c1) ∧ U.cell? ⟨pa, 2, none⟩ = some (.slice (some ⟨g2, 0, none⟩) ys0.length c2) ∧ U.cell? ⟨pb, 0, none⟩ = some (.bool n1) ∧ U.cell? ⟨pb, 1, none⟩ = some (.slice (some ⟨g3, 0, none⟩) xs1.length c3) ∧ U.cell? ⟨pb, 2, none⟩ = some (.slice (some ⟨g4, 0, none⟩) ys1.length c4) ∧ U.cell? ⟨w.heap.size, 0, none⟩ = some (.bool n0) ∧ U.cell? ⟨w.heap.size, 1, none⟩ = some (.slice a0 xs0.length ca0) ∧ U.cell? ⟨w.heap.size, 2, none⟩ = some (.slice b0 ys0.length cb0) ∧ U.cell? ⟨w.heap.size + 1, 0, none⟩ = some (.bool n1) ∧ U.cell? ⟨w.heap.size + 1, 1, none⟩ = some (.slice a1 xs1.length ca1) ∧ U.cell? ⟨w.heap.size + 1, 2, none⟩ = some (.slice b1 ys1.length cb1)) (first | exact hs7 | exact hs6 | exact hs5 | exact hs4 | exact hs3 | exact hs2 | exact hs1 | exact hs0)
    (first
      | (go_at_call 24; with_reducible refine Calls.mono (HC7.out _ HB6.out) ?_; rintro e u7 ⟨rfl, HB7, hs7⟩)
      | (go_at_call 25; with_reducible refine Calls.mono (HC6.out _ HB5.out) ?_; rintro e u6 ⟨rfl, HB6, hs6⟩)
      | (go_at_call 24; with_reducible refine Calls.mono (HC5.out _ HB4.out) ?_; rintro e u5 ⟨rfl, HB5, hs5⟩)
      | (go_at_call 23; with_reducible refine Calls.mono (HC4.out _ HB3.out) ?_; rintro e u4 ⟨rfl, HB4, hs4⟩)
      | (go_at_call 22; with_reducible refine Calls.mono (HC3.out _ HB2.out) ?_; rintro e u3 ⟨rfl, HB3, hs3⟩)
      | (go_at_call 21; with_reducible refine Calls.mono (HC2.out _ HB1.out) ?_; rintro e u2 ⟨rfl, HB2, hs2⟩)
      | (go_at_call 20; with_reducible refine Calls.mono (HC1.out _ HB0.out) ?_; rintro e u1 ⟨rfl, HB1, hs1⟩))
  replace H := hid (H.out.later HB7.out)
  replace HBs := hid (HBs.out.later HB7.out HBs.out.lt)
  replace HBw := hid (HBw.out.later HB7.out HBw.out.lt)
  replace HD := hid (HD.out.later HB7.out)
  have hw8 := HB7.out.size
  clear HK HC1 HC2 HC3 HC4 HC5 HC6 HC7 HB0 HB1 HB2 HB3 HB4 HB5 HB6 HB7 hs0 hs1 hs2 hs3 hs4 hs5 hs6 hs7
  have HK := sameWhole_any N6 _ Z6 N6 _ Z6 u7 (H.out.st.sl wz6 (.head _)) HD.out (by omega) (by omega)
  rw [decide_eq_true (And.intro rfl rfl)] at HK
  have HC := hid (HK)
  obtain ⟨x0, x1, xf0, xf1⟩ := H.out.told
  have m0 := HBs.out.cell 0
  have m1 := HBs.out.cell 1
  have k0 := HBw.out.cell 0
  have k1 := HBw.out.cell 1
  go_wp2_with fail
  refine Calls.mono HC.out ?_
  rintro e w20 ⟨rfl, hb⟩
  clear HC HK x0 x1 xf0 xf1 m0 m1 k0 k1
  replace H := hid (H.out.later hb)
  replace HBs := hid (HBs.out.later hb HBs.out.lt)
  have hw9 := hb.size
  clear hb HBw HD
  obtain ⟨x0, x1, xf0, xf1⟩ := H.out.told
  have m0 : w20.cell? _ = some (.bool N6) := HBs.out.cell 0
  have m1 : w20.cell? _ = some (.slice A6 Z6.length K6) := HBs.out.cell 1
  have hlw := H.out.low
  have HOW := hid H.out.own
  go_wp2_with (at_builtin; refine wpList_append_own _ rfl _ _ 26 rfl (F.heap.size + 1) 24 i0 (.agg #[.bool false, .slice none 0 0, .slice none 0 0]) 3 56 Tryz.underlying26 hi hz0 hz1 hz2 rfl (by decide) _ _ _ rfl (HOW.out.alloc _) ⟨w20.heap.size, 0, none⟩ 1 1 [.bool false, .slice A6 Z6.length K6, .slice none 0 0] rfl rfl (three_cells _ _ _ _ _) (by simp [Value.oneCell']) (by unfold maxLen; omega) (by omega) (by simp; omega) ?_)
  intro v6 wp ov hg _
  replace H := hid (H.out.later (alloc_later w20 (.cells #[.bool false, (.slice A6 Z6.length K6), (.slice none 0 0)] 24)))
  obtain ⟨Q6, J6, hs⟩ := own_slice3 ov
  subst hs
  obtain ⟨R6, hR⟩ : ∃ r : List Value, r = R5 ++ [.bool false, .slice A6 Z6.length K6, .slice none 0 0] := ⟨_, rfl⟩
  rw [← hR] at ov
  have HR6 := hid hR
  clear hR x0 x1 xf0 xf1 m0 m1 hlw HOW
  have hv6 : w20.heap.size ≤ wp.heap.size := Nat.le_trans (alloc_later w20 (.cells #[.bool false, (.slice A6 Z6.length K6), (.slice none 0 0)] 24)).size hg.size
  have HG := hid (H.out.grown hg ov)
  have x0 := HG.out.2.1.cell 0
  have x1 := HG.out.2.1.cell 1
  have y0 := HG.out.2.1.free 0
  have y1 := HG.out.2.1.free 1
  replace H := hid (H.out.put hg ov)
  clear ov hg HG HBs
  have hk6 : wp.heap.size ≤ (wp.setCell ⟨F.heap.size, 0, none⟩ (.slice Q6 6 J6)).heap.size := by simp
  have HC := hid (keptRatio_any n0 a0 ca0 xs0 b0 cb0 ys0 g1 c1 g2 c2 _ (wp.setCell ⟨F.heap.size, 0, none⟩ (.slice Q6 6 J6)) (S0.out.1.1.later H.out.st.bel) (S0.out.1.2.later H.out.st.bel) (by omega) (by omega) (H.out.ln _ (.head _)) (H.out.ln _ (.tail _ (.head _))))
  obtain ⟨p00, p01, p02⟩ := H.out.st.get (.tail _ (.head _))
  obtain ⟨p10, p11, p12⟩ := H.out.st.get (.tail _ (.tail _ (.tail _ (.head _))))
  go_wp2_with fail
  refine Calls.mono HC.out ?_
  generalize (wp.setCell ⟨F.heap.size, 0, none⟩ (.slice Q6 6 J6)) = V19 at *
  rintro e w21 ⟨rfl, hb⟩
  clear HC p00 p01 p02 p10 p11 p12 x0 x1 y0 y1
  replace H := hid (H.out.later hb)
  have hw10 := hb.size
  clear hb
  have HC := hid (keptRatio_any n1 a1 ca1 xs1 b1 cb1 ys1 g3 c3 g4 c4 _ w21 (S0.out.2.1.later H.out.st.bel) (S0.out.2.2.later H.out.st.bel) (by omega) (by omega) (H.out.ln _ (.tail _ (.tail _ (.head _)))) (H.out.ln _ (.tail _ (.tail _ (.tail _ (.head _))))))
  obtain ⟨p00, p01, p02⟩ := H.out.st.get (.head _)
  obtain ⟨p10, p11, p12⟩ := H.out.st.get (.tail _ (.tail _ (.head _)))
  go_wp2_with fail
  refine Calls.mono HC.out ?_
  rintro e w22 ⟨rfl, hb⟩
  clear HC p00 p01 p02 p10 p11 p12
  replace H := hid (H.out.later hb)
  have hw11 := hb.size
  clear hb
  obtain ⟨p00, p01, p02⟩ := H.out.st.get (.tail _ (.head _))
  obtain ⟨p10, p11, p12⟩ := H.out.st.get (.head _)
  obtain ⟨x0, x1, xf0, xf1⟩ := H.out.told
  have hlw := H.out.low
  have HOW := hid H.out.own
  go_wp2_with (at_builtin; refine wpList_append_own_g (by rfl) _ _ 26 rfl (F.heap.size + 1) 24 i0 (.agg #[.bool false, .slice none 0 0, .slice none 0 0]) 3 56 Tryz.underlying26 hi hz0 hz1 hz2 rfl (by decide) _ _ _ rfl (HOW.out.alloc _) ⟨w22.heap.size, 0, none⟩ 2 2 [.bool n0, .slice (some ⟨g1, 0, none⟩) xs0.length c1, .slice (some ⟨g2, 0, none⟩) ys0.length c2, .bool n1, .slice (some ⟨g3, 0, none⟩) xs1.length c3, .slice (some ⟨g4, 0, none⟩) ys1.length c4] rfl rfl (six_cells _ _ _ _ _ _ _ _) (by simp [Value.oneCell']) (by unfold maxLen; omega) (by omega) (by simp; omega) ?_)
  intro v8 wz ov hg _
  replace H := hid (H.out.later (alloc_later w22 (.cells #[.bool n0, .slice (some ⟨g1, 0, none⟩) xs0.length c1, .slice (some ⟨g2, 0, none⟩) ys0.length c2, .bool n1, .slice (some ⟨g3, 0, none⟩) xs1.length c3, .slice (some ⟨g4, 0, none⟩) ys1.length c4] 24)))
  have HG := hid (H.out.grown hg ov)
  have hv8 : w22.heap.size ≤ wz.heap.size := Nat.le_trans (alloc_later w22 (.cells #[.bool n0, .slice (some ⟨g1, 0, none⟩) xs0.length c1, .slice (some ⟨g2, 0, none⟩) ys0.length c2, .bool n1, .slice (some ⟨g3, 0, none⟩) xs1.length c3, .slice (some ⟨g4, 0, none⟩) ys1.length c4] 24)).size hg.size
  clear x0 x1 xf0 xf1 hlw HOW hg p00 p01 p02 p10 p11 p12
  obtain ⟨gl, cap, hsh, hcap⟩ := own_shape3 ov (by omega)
  subst hsh
  have HCL := hid (eight_cells (A := (fun j => ([A1, B1, A2, B2, A3, B3, A4, B4, A5, B5, A6, none, some ⟨g1, 0, none⟩, some ⟨g2, 0, none⟩, some ⟨g3, 0, none⟩, some ⟨g4, 0, none⟩] : List (Option Addr))[j]?.getD none)) (C := (fun j => ([K1, L1, K2, L2, K3, L3, K4, L4, K5, L5, K6, 0, c1, c2, c3, c4] : List Nat)[j]?.getD 0)) (X := (fun j => ([Z1, D1, Z2, D2, Z3, D3, Z4, D4, Z5, D5, Z6, [], xs0, ys0, xs1, ys1] : List (List Int))[j]?.getD [])) ov (by rw [HR6.out, HR5.out, HR4.out, HR3.out, HR2.out, HR1.out]; rfl))
  have HAP2 : Hid (∀ i j, i < 16 → j < 16 → i ≠ j → (Value.slice ((fun j => ([A1, B1, A2, B2, A3, B3, A4, B4, A5, B5, A6, none, some ⟨g1, 0, none⟩, some ⟨g2, 0, none⟩, some ⟨g3, 0, none⟩, some ⟨g4, 0, none⟩] : List (Option Addr))[j]?.getD none) i) ((fun j => ([Z1, D1, Z2, D2, Z3, D3, Z4, D4, Z5, D5, Z6, [], xs0, ys0, xs1, ys1] : List (List Int))[j]?.getD []) i).length ((fun j => ([K1, L1, K2, L2, K3, L3, K4, L4, K5, L5, K6, 0, c1, c2, c3, c4] : List Nat)[j]?.getD 0) i)).ownBlock = none ∨ (Value.slice ((fun j => ([A1, B1, A2, B2, A3, B3, A4, B4, A5, B5, A6, none, some ⟨g1, 0, none⟩, some ⟨g2, 0, none⟩, some ⟨g3, 0, none⟩, some ⟨g4, 0, none⟩] : List (Option Addr))[j]?.getD none) i) ((fun j => ([Z1, D1, Z2, D2, Z3, D3, Z4, D4, Z5, D5, Z6, [], xs0, ys0, xs1, ys1] : List (List Int))[j]?.getD []) i).length ((fun j => ([K1, L1, K2, L2, K3, L3, K4, L4, K5, L5, K6, 0, c1, c2, c3, c4] : List Nat)[j]?.getD 0) i)).ownBlock ≠ (Value.slice ((fun j => ([A1, B1, A2, B2, A3, B3, A4, B4, A5, B5, A6, none, some ⟨g1, 0, none⟩, some ⟨g2, 0, none⟩, some ⟨g3, 0, none⟩, some ⟨g4, 0, none⟩] : List (Option Addr))[j]?.getD none) j) ((fun j => ([Z1, D1, Z2, D2, Z3, D3, Z4, D4, Z5, D5, Z6, [], xs0, ys0, xs1, ys1] : List (List Int))[j]?.getD []) j).length ((fun j => ([K1, L1, K2, L2, K3, L3, K4, L4, K5, L5, K6, 0, c1, c2, c3, c4] : List Nat)[j]?.getD 0) j)).ownBlock) := by
    refine apart_iv (fun j => ([(g4 + 1), cc1, V4.heap.size, cc2, V7.heap.size, cc3, V10.heap.size, cc4, V13.heap.size, cc5, w17.heap.size, w18.heap.size, w.heap.size, (g1 + 1), (g2 + 1), (g3 + 1)] : List Nat)[j]?.getD 0) (fun j => ([cc1, V4.heap.size, cc2, V7.heap.size, cc3, V10.heap.size, cc4, V13.heap.size, cc5, w17.heap.size, w18.heap.size, w18.heap.size, (g1 + 1), (g2 + 1), (g3 + 1), (g4 + 1)] : List Nat)[j]?.getD 0) ?_ ?_
    · intro j hj
      match j, hj with
      | 0, _ => exact (show Within _ ((g4 + 1)) (cc1) from Within.up' HI1.out (by omega) (by omega))
      | 1, _ => exact (show Within _ (cc1) (V4.heap.size) from Within.up' HJ1.out (by omega) (by omega))
      | 2, _ => exact (show Within _ (V4.heap.size) (cc2) from Within.up' HI2.out (by omega) (by omega))
      | 3, _ => exact (show Within _ (cc2) (V7.heap.size) from Within.up' HJ2.out (by omega) (by omega))
      | 4, _ => exact (show Within _ (V7.heap.size) (cc3) from Within.up' HI3.out (by omega) (by omega))
      | 5, _ => exact (show Within _ (cc3) (V10.heap.size) from Within.up' HJ3.out (by omega) (by omega))
      | 6, _ => exact (show Within _ (V10.heap.size) (cc4) from Within.up' HI4.out (by omega) (by omega))
      | 7, _ => exact (show Within _ (cc4) (V13.heap.size) from Within.up' HJ4.out (by omega) (by omega))
      | 8, _ => exact (show Within _ (V13.heap.size) (cc5) from Within.up' HI5.out (by omega) (by omega))
      | 9, _ => exact (show Within _ (cc5) (w17.heap.size) from Within.up' HJ5.out (by omega) (by omega))
      | 10, _ => exact (show Within _ (w17.heap.size) (w18.heap.size) from Within.up' HI6.out (by omega) (by omega))
      | 11, _ => exact (show Within _ (w18.heap.size) (w18.heap.size) from fun g hg => by simp [Value.ownBlock] at hg)
      | 12, _ => exact (show Within _ (w.heap.size) ((g1 + 1)) from fun g hg => by simp [Value.ownBlock] at hg; omega)
      | 13, _ => exact (show Within _ ((g1 + 1)) ((g2 + 1)) from fun g hg => by simp [Value.ownBlock] at hg; omega)
      | 14, _ => exact (show Within _ ((g2 + 1)) ((g3 + 1)) from fun g hg => by simp [Value.ownBlock] at hg; omega)
      | 15, _ => exact (show Within _ ((g3 + 1)) ((g4 + 1)) from fun g hg => by simp [Value.ownBlock] at hg; omega)
      | n + 16, h => exact absurd h (by omega)
    · exact iv16 w.heap.size (g1 + 1) (g2 + 1) (g3 + 1) (g4 + 1) cc1 V4.heap.size cc2 V7.heap.size cc3 V10.heap.size cc4 V13.heap.size cc5 w17.heap.size w18.heap.size w18.heap.size (by omega) (by omega) (by omega) (by omega) (by omega) (by omega) (by omega) (by omega) (by omega) (by omega) (by omega) (by omega) (by omega) (by omega) (by omega) (by omega)
  have HOW : Hid (∀ j, j < 16 → wz.ownsRow w.heap.size 60 1 (.slice ((fun j => ([A1, B1, A2, B2, A3, B3, A4, B4, A5, B5, A6, none, some ⟨g1, 0, none⟩, some ⟨g2, 0, none⟩, some ⟨g3, 0, none⟩, some ⟨g4, 0, none⟩] : List (Option Addr))[j]?.getD none) j) ((fun j => ([Z1, D1, Z2, D2, Z3, D3, Z4, D4, Z5, D5, Z6, [], xs0, ys0, xs1, ys1] : List (List Int))[j]?.getD []) j).length ((fun j => ([K1, L1, K2, L2, K3, L3, K4, L4, K5, L5, K6, 0, c1, c2, c3, c4] : List Nat)[j]?.getD 0) j)) ((fun j => ([Z1, D1, Z2, D2, Z3, D3, Z4, D4, Z5, D5, Z6, [], xs0, ys0, xs1, ys1] : List (List Int))[j]?.getD []) j).length (((fun j => ([Z1, D1, Z2, D2, Z3, D3, Z4, D4, Z5, D5, Z6, [], xs0, ys0, xs1, ys1] : List (List Int))[j]?.getD []) j).map (Value.int .u32))) := by
    have hst := HG.out.1
    have hln := HG.out.2.2.1
    intro j hj
    match j, hj with
    | 0, _ => exact owns_base (hst.row _ (.tail _ (.tail _ (.tail _ (.tail _ (.tail _ (.tail _ (.tail _ (.tail _ (.tail _ (.tail _ (.head _)))))))))))) (by omega)
    | 1, _ => exact owns_base (hst.row _ (.tail _ (.tail _ (.tail _ (.tail _ (.tail _ (.tail _ (.tail _ (.tail _ (.tail _ (.head _))))))))))) (by omega)
    | 2, _ => exact owns_base (hst.row _ (.tail _ (.tail _ (.tail _ (.tail _ (.tail _ (.tail _ (.tail _ (.tail _ (.head _)))))))))) (by omega)
    | 3, _ => exact owns_base (hst.row _ (.tail _ (.tail _ (.tail _ (.tail _ (.tail _ (.tail _ (.tail _ (.head _))))))))) (by omega)
    | 4, _ => exact owns_base (hst.row _ (.tail _ (.tail _ (.tail _ (.tail _ (.tail _ (.tail _ (.head _)))))))) (by omega)
    | 5, _ => exact owns_base (hst.row _ (.tail _ (.tail _ (.tail _ (.tail _ (.tail _ (.head _))))))) (by omega)
    | 6, _ => exact owns_base (hst.row _ (.tail _ (.tail _ (.tail _ (.tail _ (.head _)))))) (by omega)
    | 7, _ => exact owns_base (hst.row _ (.tail _ (.tail _ (.tail _ (.head _))))) (by omega)
    | 8, _ => exact owns_base (hst.row _ (.tail _ (.tail _ (.head _)))) (by omega)
    | 9, _ => exact owns_base (hst.row _ (.tail _ (.head _))) (by omega)
    | 10, _ => exact owns_base (hst.row _ (.head _)) (by omega)
    | 11, _ => exact World.ownsRow_nil _ _ _ _
    | 12, _ => exact lent_front' (hln _ (.head _))
    | 13, _ => exact lent_front' (hln _ (.tail _ (.head _)))
    | 14, _ => exact lent_front' (hln _ (.tail _ (.tail _ (.head _))))
    | 15, _ => exact lent_front' (hln _ (.tail _ (.tail _ (.tail _ (.head _)))))
    | n + 16, h => exact absurd h (by omega)
  have HWD : Hid ((∀ j, j < 16 → Wd ((fun j => ([Z1, D1, Z2, D2, Z3, D3, Z4, D4, Z5, D5, Z6, [], xs0, ys0, xs1, ys1] : List (List Int))[j]?.getD []) j)) ∧ ∀ j, j < 16 → ((fun j => ([Z1, D1, Z2, D2, Z3, D3, Z4, D4, Z5, D5, Z6, [], xs0, ys0, xs1, ys1] : List (List Int))[j]?.getD []) j).length ≤ 1099511627776) := by
    refine ⟨fun j hj => ?_, fun j hj => ?_⟩
    · match j, hj with
      | 0, _ => exact wz1
      | 1, _ => exact wd1
      | 2, _ => exact wz2
      | 3, _ => exact wd2
      | 4, _ => exact wz3
      | 5, _ => exact wd3
      | 6, _ => exact wz4
      | 7, _ => exact wd4
      | 8, _ => exact wz5
      | 9, _ => exact wd5
      | 10, _ => exact wz6
      | 11, _ => exact Wd.nil
      | 12, _ => exact wx0
      | 13, _ => exact wy0
      | 14, _ => exact wx1
      | 15, _ => exact wy1
      | n + 16, h => exact absurd h (by omega)
    · match j, hj with
      | 0, _ => exact Nat.le_trans lz1 (by decide)
      | 1, _ => exact Nat.le_trans ld1 (by decide)
      | 2, _ => exact Nat.le_trans lz2 (by decide)
      | 3, _ => exact Nat.le_trans ld2 (by decide)
      | 4, _ => exact Nat.le_trans lz3 (by decide)
      | 5, _ => exact Nat.le_trans ld3 (by decide)
      | 6, _ => exact Nat.le_trans lz4 (by decide)
      | 7, _ => exact Nat.le_trans ld4 (by decide)
      | 8, _ => exact Nat.le_trans lz5 (by decide)
      | 9, _ => exact Nat.le_trans ld5 (by decide)
      | 10, _ => exact Nat.le_trans lz6 (by decide)
      | 11, _ => exact Nat.zero_le _
      | 12, _ => exact Nat.le_trans lx0 (by decide)
      | 13, _ => exact Nat.le_trans ly0 (by decide)
      | 14, _ => exact Nat.le_trans lx1 (by decide)
      | 15, _ => exact Nat.le_trans ly1 (by decide)
      | n + 16, h => exact absurd h (by omega)
  have HAP := hid (apartRatios_any w.heap.size 8 cap gl (fun j => ([A1, B1, A2, B2, A3, B3, A4, B4, A5, B5, A6, none, some ⟨g1, 0, none⟩, some ⟨g2, 0, none⟩, some ⟨g3, 0, none⟩, some ⟨g4, 0, none⟩] : List (Option Addr))[j]?.getD none) (fun j => ([K1, L1, K2, L2, K3, L3, K4, L4, K5, L5, K6, 0, c1, c2, c3, c4] : List Nat)[j]?.getD 0) (fun j => ([Z1, D1, Z2, D2, Z3, D3, Z4, D4, Z5, D5, Z6, [], xs0, ys0, xs1, ys1] : List (List Int))[j]?.getD []) wz (by omega) (by omega) hcap (own_lt3 ov) HG.out.1.bel.size HCL.out HWD.out.1 HWD.out.2 HOW.out HAP2.out)
  have HBB := hid HG.out.1.bel
  clear HAP2 HOW HWD HCL HG ov H
  go_wp2_with fail
  refine Calls.mono HAP.out ?_
  rintro e wE ⟨rfl, hbE⟩
  have HBE := hid (HBB.out.trans hbE)
  clear hbE HAP
  go_wp2_with fail
  go_ret
  exact ⟨rfl, HBE.out⟩

theorem ratioTells_in (n0 : Bool) (a0 : Option Addr) (k0 ca0 : Nat) (xs0 : List Int) (b0 : Option Addr) (l0 cb0 : Nat) (ys0 : List Int) (n1 : Bool) (a1 : Option Addr) (k1 ca1 : Nat) (xs1 : List Int) (b1 : Option Addr) (l1 cb1 : Nat) (ys1 : List Int) (w : World) (h0 : Reads w w.heap.size a0 k0 ca0 xs0) (g0 : Reads w w.heap.size b0 l0 cb0 ys0) (h1 : Reads w w.heap.size a1 k1 ca1 xs1) (g1 : Reads w w.heap.size b1 l1 cb1 ys1) (m0 : ca0 ≤ 1048576) (m1 : cb0 ≤ 1048576) (m2 : ca1 ≤ 1048576) (m3 : cb1 ≤ 1048576) :
    Calls Tryz.prog 3 #[.agg #[.bool n0, .slice a0 k0 ca0, .slice b0 l0 cb0], .agg #[.bool n1, .slice a1 k1 ca1, .slice b1 l1 cb1]] w fun e w' => e = .returned (.bool true) ∧ Below w.heap.size w w' := by
  have e0 := h0.1
  have f0 := g0.1
  have e1 := h1.1
  have f1 := g1.1
  have q0 := h0.2.2.2.1
  have q1 := g0.2.2.2.1
  have q2 := h1.2.2.2.1
  have q3 := g1.2.2.2.1
  subst e0
  subst f0
  subst e1
  subst f1
  exact ratioTells_walk n0 a0 ca0 xs0 b0 cb0 ys0 n1 a1 ca1 xs1 b1 cb1 ys1 w ⟨_, _, rfl, h0⟩ ⟨_, _, rfl, g0⟩ ⟨_, _, rfl, h1⟩ ⟨_, _, rfl, g1⟩ (by omega) (by omega) (by omega) (by omega)

end Go.Proofs.YtpehpflgfkdiaaaGreat

