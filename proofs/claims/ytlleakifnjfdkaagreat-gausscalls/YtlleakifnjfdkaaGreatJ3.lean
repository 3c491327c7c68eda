/- My texts on the way to GaussCalls, one behind the other: contracts of the program and of the document's answers. -/
import Derived.Test.YtlleakifnjfdkaaGreatJ1
import Derived.Test.YtlleakifnjfdkaaGreatJ2
import Derived.Shelf.Abstract
import Derived.Deep.RegionHeld3
import Derived.Laws.ResultCell
import Derived.Deep.QuietTactic
import Derived.BigQuiet
import Derived.Deep.LoopGhost
namespace Go.Proofs.YtlleakifnjfdkaaGreat
set_option maxRecDepth 100000
open Go.RowKit
set_option linter.unusedVariables false
theorem rq_less {n m : Bool} {xs ys us vs : List Int} : rq n xs ys + rq (!m) us vs = rq n xs ys - rq m us vs := by
  rw [Rat.sub_eq_add_neg]
  congr 1
  unfold rq
  rw [Rat.neg_divInt]
  congr 1
  cases m <;> simp [wval]
set_option maxHeartbeats 3200000 in
theorem rAdd_err (n : Bool) (a : Option Addr) (ca : Nat) (xs : List Int) (b : Option Addr) (cb : Nat) (ys : List Int) (m : Bool) (c : Option Addr) (cc : Nat) (us : List Int) (d : Option Addr) (cd : Nat) (vs : List Int) (w : World) (sx : Sl w (.slice a xs.length ca) xs) (sy : Sl w (.slice b ys.length cb) ys) (su : Sl w (.slice c us.length cc) us) (sv : Sl w (.slice d vs.length cd) vs) (he : rboth n xs ys m us vs ≠ 0) (q : Rat) :
    Calls Tryz.prog 53 #[.agg #[.bool n, .slice a xs.length ca, .slice b ys.length cb], .agg #[.bool m, .slice c us.length cc, .slice d vs.length cd]] w (RToldA w (rboth n xs ys m us vs) q) := by
  have HB : Hid (Below w.heap.size w (((w.alloc (.cells #[.bool n, .slice a xs.length ca, .slice b ys.length cb] 24)).alloc (.cells #[.bool m, .slice c us.length cc, .slice d vs.length cd] 24)).alloc (.cells #[.bool false, .slice none 0 0, .slice none 0 0] 24))) := bt (bt (alloc_later _ _) (alloc_later _ _)) (alloc_later _ _)
  have HZ : Hid (Box (((w.alloc (.cells #[.bool n, .slice a xs.length ca, .slice b ys.length cb] 24)).alloc (.cells #[.bool m, .slice c us.length cc, .slice d vs.length cd] 24)).alloc (.cells #[.bool false, .slice none 0 0, .slice none 0 0] 24)) (w.heap.size + 1 + 1) 24 #[.bool false, .slice none 0 0, .slice none 0 0]) := by
    have e := Box.made ((w.alloc (.cells #[.bool n, .slice a xs.length ca, .slice b ys.length cb] 24)).alloc (.cells #[.bool m, .slice c us.length cc, .slice d vs.length cd] 24)) 24 #[.bool false, .slice none 0 0, .slice none 0 0]
    simp at e
    exact e
  have HN : Hid (Box (((w.alloc (.cells #[.bool n, .slice a xs.length ca, .slice b ys.length cb] 24)).alloc (.cells #[.bool m, .slice c us.length cc, .slice d vs.length cd] 24)).alloc (.cells #[.bool false, .slice none 0 0, .slice none 0 0] 24)) w.heap.size 24 #[.bool n, .slice a xs.length ca, .slice b ys.length cb]) := Box.later (Box.made w _ _) (bt (alloc_later _ _) (alloc_later _ _)) (by simp)
  have HM : Hid (Box (((w.alloc (.cells #[.bool n, .slice a xs.length ca, .slice b ys.length cb] 24)).alloc (.cells #[.bool m, .slice c us.length cc, .slice d vs.length cd] 24)).alloc (.cells #[.bool false, .slice none 0 0, .slice none 0 0] 24)) (w.heap.size + 1) 24 #[.bool m, .slice c us.length cc, .slice d vs.length cd]) := by
    have e := Box.later (Box.made (w.alloc (.cells #[.bool n, .slice a xs.length ca, .slice b ys.length cb] 24)) 24 #[.bool m, .slice c us.length cc, .slice d vs.length cd]) (alloc_later ((w.alloc (.cells #[.bool n, .slice a xs.length ca, .slice b ys.length cb] 24)).alloc (.cells #[.bool m, .slice c us.length cc, .slice d vs.length cd] 24)) (.cells #[.bool false, .slice none 0 0, .slice none 0 0] 24)) (by simp)
    simp at e
    exact e
  have HXS : Hid (w.heap.size + 1 + 1 < (((w.alloc (.cells #[.bool n, .slice a xs.length ca, .slice b ys.length cb] 24)).alloc (.cells #[.bool m, .slice c us.length cc, .slice d vs.length cd] 24)).alloc (.cells #[.bool false, .slice none 0 0, .slice none 0 0] 24)).heap.size) := HZ.out.lt
  have HSL := hid (And.intro (sx.later HB.out) (And.intro (sy.later HB.out) (And.intro (su.later HB.out) (sv.later HB.out))))
  have HC := hid (rcheckBoth_any n _ xs _ ys m _ us _ vs (((w.alloc (.cells #[.bool n, .slice a xs.length ca, .slice b ys.length cb] 24)).alloc (.cells #[.bool m, .slice c us.length cc, .slice d vs.length cd] 24)).alloc (.cells #[.bool false, .slice none 0 0, .slice none 0 0] 24)) HSL.out.1 HSL.out.2.1 HSL.out.2.2.1 HSL.out.2.2.2)
  obtain ⟨E, hE⟩ : ∃ E, rboth n xs ys m us vs = E := ⟨_, rfl⟩
  rw [hE] at HC he ⊢
  have he' : (E == 0) = false := beq_eq_false_iff_ne.2 he
  have HE := hid he
  clear he hE sx sy su sv
  go_enter Tryz.func53, Tryz.ntmps53
  go_wp2_with fail
  refine Calls.mono HC.out ?_
  generalize (((w.alloc (.cells #[.bool n, .slice a xs.length ca, .slice b ys.length cb] 24)).alloc (.cells #[.bool m, .slice c us.length cc, .slice d vs.length cd] 24)).alloc (.cells #[.bool false, .slice none 0 0, .slice none 0 0] 24)) = X at *
  rintro e w1 ⟨rfl, hb1⟩
  obtain ⟨y0, y1, y2, f0, f1, f2⟩ := res_box3 HZ.out hb1
  have HBN := hid (below_put3 (bt HB.out hb1) (w.heap.size + 1 + 1) (by omega) (.bool false) (.slice none 0 0) (.slice none 0 0))
  clear hb1 HC HN HM HZ HSL
  go_wp2_with fail
  refine bodyPost_ret (v := .tuple #[.agg #[.bool false, .slice none 0 0, .slice none 0 0], .int .i64 E]) (by simp [results, Tryz.results53, go_sem, y0, y1, y2]) rfl ?_
  exact ⟨false, _, [], _, [], _, rfl, World.ownsRow_nil _ _ _ _, World.ownsRow_nil _ _ _ _, RTells.err HE.out, HBN.out, ⟨w.heap.size, Nat.le_refl _, HBN.out.size, fun g hg => by simp [Value.ownBlock] at hg, fun g hg => by simp [Value.ownBlock] at hg⟩⟩
set_option maxHeartbeats 3200000 in
theorem rAdd_ok (n : Bool) (a : Option Addr) (ca : Nat) (xs : List Int) (b : Option Addr) (cb : Nat) (ys : List Int) (m : Bool) (c : Option Addr) (cc : Nat) (us : List Int) (d : Option Addr) (cd : Nat) (vs : List Int) (w : World) (sx : Sl w (.slice a xs.length ca) xs) (sy : Sl w (.slice b ys.length cb) ys) (su : Sl w (.slice c us.length cc) us) (sv : Sl w (.slice d vs.length cd) vs) (hx : rchk n xs ys = 0) (hy : rchk m us vs = 0) :
    Calls Tryz.prog 53 #[.agg #[.bool n, .slice a xs.length ca, .slice b ys.length cb], .agg #[.bool m, .slice c us.length cc, .slice d vs.length cd]] w (RToldA w 0 (rq n xs ys + rq m us vs)) := by
  obtain ⟨lx, ly, tx, ty, y0', _, g1⟩ := rchk_ok hx
  obtain ⟨lu, lv, tu, tv, v0', _, g2⟩ := rchk_ok hy
  have py := val_pos' sy.wd ty y0'
  have pv := val_pos' sv.wd tv v0'
  have HB : Hid (Below w.heap.size w (((w.alloc (.cells #[.bool n, .slice a xs.length ca, .slice b ys.length cb] 24)).alloc (.cells #[.bool m, .slice c us.length cc, .slice d vs.length cd] 24)).alloc (.cells #[.bool false, .slice none 0 0, .slice none 0 0] 24))) := bt (bt (alloc_later _ _) (alloc_later _ _)) (alloc_later _ _)
  have HZ : Hid (Box (((w.alloc (.cells #[.bool n, .slice a xs.length ca, .slice b ys.length cb] 24)).alloc (.cells #[.bool m, .slice c us.length cc, .slice d vs.length cd] 24)).alloc (.cells #[.bool false, .slice none 0 0, .slice none 0 0] 24)) (w.heap.size + 1 + 1) 24 #[.bool false, .slice none 0 0, .slice none 0 0]) := by
    have e := Box.made ((w.alloc (.cells #[.bool n, .slice a xs.length ca, .slice b ys.length cb] 24)).alloc (.cells #[.bool m, .slice c us.length cc, .slice d vs.length cd] 24)) 24 #[.bool false, .slice none 0 0, .slice none 0 0]
    simp at e
    exact e
  have HN : Hid (Box (((w.alloc (.cells #[.bool n, .slice a xs.length ca, .slice b ys.length cb] 24)).alloc (.cells #[.bool m, .slice c us.length cc, .slice d vs.length cd] 24)).alloc (.cells #[.bool false, .slice none 0 0, .slice none 0 0] 24)) w.heap.size 24 #[.bool n, .slice a xs.length ca, .slice b ys.length cb]) := Box.later (Box.made w _ _) (bt (alloc_later _ _) (alloc_later _ _)) (by simp)
  have HM : Hid (Box (((w.alloc (.cells #[.bool n, .slice a xs.length ca, .slice b ys.length cb] 24)).alloc (.cells #[.bool m, .slice c us.length cc, .slice d vs.length cd] 24)).alloc (.cells #[.bool false, .slice none 0 0, .slice none 0 0] 24)) (w.heap.size + 1) 24 #[.bool m, .slice c us.length cc, .slice d vs.length cd]) := by
    have e := Box.later (Box.made (w.alloc (.cells #[.bool n, .slice a xs.length ca, .slice b ys.length cb] 24)) 24 #[.bool m, .slice c us.length cc, .slice d vs.length cd]) (alloc_later ((w.alloc (.cells #[.bool n, .slice a xs.length ca, .slice b ys.length cb] 24)).alloc (.cells #[.bool m, .slice c us.length cc, .slice d vs.length cd] 24)) (.cells #[.bool false, .slice none 0 0, .slice none 0 0] 24)) (by simp)
    simp at e
    exact e
  have HXS : Hid (w.heap.size + 1 + 1 < (((w.alloc (.cells #[.bool n, .slice a xs.length ca, .slice b ys.length cb] 24)).alloc (.cells #[.bool m, .slice c us.length cc, .slice d vs.length cd] 24)).alloc (.cells #[.bool false, .slice none 0 0, .slice none 0 0] 24)).heap.size) := HZ.out.lt
  have HSL := hid (And.intro (sx.later HB.out) (And.intro (sy.later HB.out) (And.intro (su.later HB.out) (sv.later HB.out))))
  have HC := hid (rcheckBoth_any n _ xs _ ys m _ us _ vs (((w.alloc (.cells #[.bool n, .slice a xs.length ca, .slice b ys.length cb] 24)).alloc (.cells #[.bool m, .slice c us.length cc, .slice d vs.length cd] 24)).alloc (.cells #[.bool false, .slice none 0 0, .slice none 0 0] 24)) HSL.out.1 HSL.out.2.1 HSL.out.2.2.1 HSL.out.2.2.2)
  rw [rboth_good hx hy] at HC
  have HA := hid (fun ww (hb : Below (((w.alloc (.cells #[.bool n, .slice a xs.length ca, .slice b ys.length cb] 24)).alloc (.cells #[.bool m, .slice c us.length cc, .slice d vs.length cd] 24)).alloc (.cells #[.bool false, .slice none 0 0, .slice none 0 0] 24)).heap.size (((w.alloc (.cells #[.bool n, .slice a xs.length ca, .slice b ys.length cb] 24)).alloc (.cells #[.bool m, .slice c us.length cc, .slice d vs.length cd] 24)).alloc (.cells #[.bool false, .slice none 0 0, .slice none 0 0] 24)) ww) => radd_any n a ca xs b cb ys m c cc us d cd vs ww (HSL.out.1.later hb) (HSL.out.2.1.later hb) (HSL.out.2.2.1.later hb) (HSL.out.2.2.2.later hb) lx ly lu lv tx ty tu tv (by omega) (by omega) g1 g2)
  clear sx sy su sv hx hy tx ty tu tv g1 g2 py pv
  go_enter Tryz.func53, Tryz.ntmps53
  go_wp2_with fail
  refine Calls.mono HC.out ?_
  generalize (((w.alloc (.cells #[.bool n, .slice a xs.length ca, .slice b ys.length cb] 24)).alloc (.cells #[.bool m, .slice c us.length cc, .slice d vs.length cd] 24)).alloc (.cells #[.bool false, .slice none 0 0, .slice none 0 0] 24)) = X at *
  rintro e w1 ⟨rfl, hb1⟩
  have HCA := hid (HA.out w1 hb1)
  obtain ⟨p0, p1, p2, _⟩ := res_box3 HN.out hb1
  obtain ⟨q0, q1, q2, _⟩ := res_box3 HM.out hb1
  have HB1 := hid hb1
  clear hb1 HC HA
  go_wp2_with fail
  refine Calls.mono HCA.out ?_
  rintro e w2 ⟨k2, v2, z2, u2, r2, code, rfl, o2, o3, t2, hb2, hc2⟩
  obtain ⟨a2, c2, hs2⟩ := own_slice' o2
  subst hs2
  obtain ⟨a3, c3, hs3⟩ := own_slice' o3
  subst hs3
  have HR := hid (And.intro o2 (And.intro o3 (And.intro t2 hc2)))
  obtain ⟨y0, y1, y2, f0, f1, f2⟩ := res_box3 HZ.out (bt HB1.out hb2)
  have HBW := hid (bt HB.out (bt HB1.out hb2))
  have HLT : Hid (w.heap.size + 1 + 1 < w1.heap.size) := Nat.lt_of_lt_of_le HXS.out HB1.out.size
  clear o2 o3 t2 hb2 hc2 HCA p0 p1 p2 q0 q1 q2
  go_wp2_with fail
  refine bodyPost_ret (v := .tuple #[.agg #[.bool k2, .slice a2 z2.length c2, .slice a3 r2.length c3], .int .i64 code]) (by simp [results, Tryz.results53, go_sem, y0, y1, y2]) rfl ?_
  exact RToldA.put HR.out (w.heap.size + 1 + 1) HLT.out (by omega) HBW.out _ _ _
theorem rAdd_full (n : Bool) (a : Option Addr) (ca : Nat) (xs : List Int) (b : Option Addr) (cb : Nat) (ys : List Int) (m : Bool) (c : Option Addr) (cc : Nat) (us : List Int) (d : Option Addr) (cd : Nat) (vs : List Int) (w : World) (sx : Sl w (.slice a xs.length ca) xs) (sy : Sl w (.slice b ys.length cb) ys) (su : Sl w (.slice c us.length cc) us) (sv : Sl w (.slice d vs.length cd) vs) :
    Calls Tryz.prog 53 #[.agg #[.bool n, .slice a xs.length ca, .slice b ys.length cb], .agg #[.bool m, .slice c us.length cc, .slice d vs.length cd]] w (RToldA w (rboth n xs ys m us vs) (rq n xs ys + rq m us vs)) := by
  by_cases he : rboth n xs ys m us vs = 0
  · rw [he]
    exact rAdd_ok n a ca xs b cb ys m c cc us d cd vs w sx sy su sv (rboth_ok he).1 (rboth_ok he).2
  · exact rAdd_err n a ca xs b cb ys m c cc us d cd vs w sx sy su sv he _
set_option maxHeartbeats 3200000 in
theorem rMul_err (n : Bool) (a : Option Addr) (ca : Nat) (xs : List Int) (b : Option Addr) (cb : Nat) (ys : List Int) (m : Bool) (c : Option Addr) (cc : Nat) (us : List Int) (d : Option Addr) (cd : Nat) (vs : List Int) (w : World) (sx : Sl w (.slice a xs.length ca) xs) (sy : Sl w (.slice b ys.length cb) ys) (su : Sl w (.slice c us.length cc) us) (sv : Sl w (.slice d vs.length cd) vs) (he : rboth n xs ys m us vs ≠ 0) (q : Rat) :
    Calls Tryz.prog 66 #[.agg #[.bool n, .slice a xs.length ca, .slice b ys.length cb], .agg #[.bool m, .slice c us.length cc, .slice d vs.length cd]] w (RToldA w (rboth n xs ys m us vs) q) := by
  have HB : Hid (Below w.heap.size w (((w.alloc (.cells #[.bool n, .slice a xs.length ca, .slice b ys.length cb] 24)).alloc (.cells #[.bool m, .slice c us.length cc, .slice d vs.length cd] 24)).alloc (.cells #[.bool false, .slice none 0 0, .slice none 0 0] 24))) := bt (bt (alloc_later _ _) (alloc_later _ _)) (alloc_later _ _)
  have HZ : Hid (Box (((w.alloc (.cells #[.bool n, .slice a xs.length ca, .slice b ys.length cb] 24)).alloc (.cells #[.bool m, .slice c us.length cc, .slice d vs.length cd] 24)).alloc (.cells #[.bool false, .slice none 0 0, .slice none 0 0] 24)) (w.heap.size + 1 + 1) 24 #[.bool false, .slice none 0 0, .slice none 0 0]) := by
    have e := Box.made ((w.alloc (.cells #[.bool n, .slice a xs.length ca, .slice b ys.length cb] 24)).alloc (.cells #[.bool m, .slice c us.length cc, .slice d vs.length cd] 24)) 24 #[.bool false, .slice none 0 0, .slice none 0 0]
    simp at e
    exact e
  have HN : Hid (Box (((w.alloc (.cells #[.bool n, .slice a xs.length ca, .slice b ys.length cb] 24)).alloc (.cells #[.bool m, .slice c us.length cc, .slice d vs.length cd] 24)).alloc (.cells #[.bool false, .slice none 0 0, .slice none 0 0] 24)) w.heap.size 24 #[.bool n, .slice a xs.length ca, .slice b ys.length cb]) := Box.later (Box.made w _ _) (bt (alloc_later _ _) (alloc_later _ _)) (by simp)
  have HM : Hid (Box (((w.alloc (.cells #[.bool n, .slice a xs.length ca, .slice b ys.length cb] 24)).alloc (.cells #[.bool m, .slice c us.length cc, .slice d vs.length cd] 24)).alloc (.cells #[.bool false, .slice none 0 0, .slice none 0 0] 24)) (w.heap.size + 1) 24 #[.bool m, .slice c us.length cc, .slice d vs.length cd]) := by
    have e := Box.later (Box.made (w.alloc (.cells #[.bool n, .slice a xs.length ca, .slice b ys.length cb] 24)) 24 #[.bool m, .slice c us.length cc, .slice d vs.length cd]) (alloc_later ((w.alloc (.cells #[.bool n, .slice a xs.length ca, .slice b ys.length cb] 24)).alloc (.cells #[.bool m, .slice c us.length cc, .slice d vs.length cd] 24)) (.cells #[.bool false, .slice none 0 0, .slice none 0 0] 24)) (by simp)
    simp at e
    exact e
  have HXS : Hid (w.heap.size + 1 + 1 < (((w.alloc (.cells #[.bool n, .slice a xs.length ca, .slice b ys.length cb] 24)).alloc (.cells #[.bool m, .slice c us.length cc, .slice d vs.length cd] 24)).alloc (.cells #[.bool false, .slice none 0 0, .slice none 0 0] 24)).heap.size) := HZ.out.lt
  have HSL := hid (And.intro (sx.later HB.out) (And.intro (sy.later HB.out) (And.intro (su.later HB.out) (sv.later HB.out))))
  have HC := hid (rcheckBoth_any n _ xs _ ys m _ us _ vs (((w.alloc (.cells #[.bool n, .slice a xs.length ca, .slice b ys.length cb] 24)).alloc (.cells #[.bool m, .slice c us.length cc, .slice d vs.length cd] 24)).alloc (.cells #[.bool false, .slice none 0 0, .slice none 0 0] 24)) HSL.out.1 HSL.out.2.1 HSL.out.2.2.1 HSL.out.2.2.2)
  obtain ⟨E, hE⟩ : ∃ E, rboth n xs ys m us vs = E := ⟨_, rfl⟩
  rw [hE] at HC he ⊢
  have he' : (E == 0) = false := beq_eq_false_iff_ne.2 he
  have HE := hid he
  clear he hE sx sy su sv
  go_enter Tryz.func66, Tryz.ntmps66
  go_wp2_with fail
  refine Calls.mono HC.out ?_
  generalize (((w.alloc (.cells #[.bool n, .slice a xs.length ca, .slice b ys.length cb] 24)).alloc (.cells #[.bool m, .slice c us.length cc, .slice d vs.length cd] 24)).alloc (.cells #[.bool false, .slice none 0 0, .slice none 0 0] 24)) = X at *
  rintro e w1 ⟨rfl, hb1⟩
  obtain ⟨y0, y1, y2, f0, f1, f2⟩ := res_box3 HZ.out hb1
  have HBN := hid (below_put3 (bt HB.out hb1) (w.heap.size + 1 + 1) (by omega) (.bool false) (.slice none 0 0) (.slice none 0 0))
  clear hb1 HC HN HM HZ HSL
  go_wp2_with fail
  refine bodyPost_ret (v := .tuple #[.agg #[.bool false, .slice none 0 0, .slice none 0 0], .int .i64 E]) (by simp [results, Tryz.results66, go_sem, y0, y1, y2]) rfl ?_
  exact ⟨false, _, [], _, [], _, rfl, World.ownsRow_nil _ _ _ _, World.ownsRow_nil _ _ _ _, RTells.err HE.out, HBN.out, ⟨w.heap.size, Nat.le_refl _, HBN.out.size, fun g hg => by simp [Value.ownBlock] at hg, fun g hg => by simp [Value.ownBlock] at hg⟩⟩
set_option maxHeartbeats 3200000 in
theorem rMul_ok (n : Bool) (a : Option Addr) (ca : Nat) (xs : List Int) (b : Option Addr) (cb : Nat) (ys : List Int) (m : Bool) (c : Option Addr) (cc : Nat) (us : List Int) (d : Option Addr) (cd : Nat) (vs : List Int) (w : World) (sx : Sl w (.slice a xs.length ca) xs) (sy : Sl w (.slice b ys.length cb) ys) (su : Sl w (.slice c us.length cc) us) (sv : Sl w (.slice d vs.length cd) vs) (hx : rchk n xs ys = 0) (hy : rchk m us vs = 0) :
    Calls Tryz.prog 66 #[.agg #[.bool n, .slice a xs.length ca, .slice b ys.length cb], .agg #[.bool m, .slice c us.length cc, .slice d vs.length cd]] w (RToldA w 0 (rq n xs ys * rq m us vs)) := by
  obtain ⟨lx, ly, tx, ty, y0', _, g1⟩ := rchk_ok hx
  obtain ⟨lu, lv, tu, tv, v0', _, g2⟩ := rchk_ok hy
  have py := val_pos' sy.wd ty y0'
  have pv := val_pos' sv.wd tv v0'
  have HB : Hid (Below w.heap.size w (((w.alloc (.cells #[.bool n, .slice a xs.length ca, .slice b ys.length cb] 24)).alloc (.cells #[.bool m, .slice c us.length cc, .slice d vs.length cd] 24)).alloc (.cells #[.bool false, .slice none 0 0, .slice none 0 0] 24))) := bt (bt (alloc_later _ _) (alloc_later _ _)) (alloc_later _ _)
  have HZ : Hid (Box (((w.alloc (.cells #[.bool n, .slice a xs.length ca, .slice b ys.length cb] 24)).alloc (.cells #[.bool m, .slice c us.length cc, .slice d vs.length cd] 24)).alloc (.cells #[.bool false, .slice none 0 0, .slice none 0 0] 24)) (w.heap.size + 1 + 1) 24 #[.bool false, .slice none 0 0, .slice none 0 0]) := by
    have e := Box.made ((w.alloc (.cells #[.bool n, .slice a xs.length ca, .slice b ys.length cb] 24)).alloc (.cells #[.bool m, .slice c us.length cc, .slice d vs.length cd] 24)) 24 #[.bool false, .slice none 0 0, .slice none 0 0]
    simp at e
    exact e
  have HN : Hid (Box (((w.alloc (.cells #[.bool n, .slice a xs.length ca, .slice b ys.length cb] 24)).alloc (.cells #[.bool m, .slice c us.length cc, .slice d vs.length cd] 24)).alloc (.cells #[.bool false, .slice none 0 0, .slice none 0 0] 24)) w.heap.size 24 #[.bool n, .slice a xs.length ca, .slice b ys.length cb]) := Box.later (Box.made w _ _) (bt (alloc_later _ _) (alloc_later _ _)) (by simp)
  have HM : Hid (Box (((w.alloc (.cells #[.bool n, .slice a xs.length ca, .slice b ys.length cb] 24)).alloc (.cells #[.bool m, .slice c us.length cc, .slice d vs.length cd] 24)).alloc (.cells #[.bool false, .slice none 0 0, .slice none 0 0] 24)) (w.heap.size + 1) 24 #[.bool m, .slice c us.length cc, .slice d vs.length cd]) := by
    have e := Box.later (Box.made (w.alloc (.cells #[.bool n, .slice a xs.length ca, .slice b ys.length cb] 24)) 24 #[.bool m, .slice c us.length cc, .slice d vs.length cd]) (alloc_later ((w.alloc (.cells #[.bool n, .slice a xs.length ca, .slice b ys.length cb] 24)).alloc (.cells #[.bool m, .slice c us.length cc, .slice d vs.length cd] 24)) (.cells #[.bool false, .slice none 0 0, .slice none 0 0] 24)) (by simp)
    simp at e
    exact e
  have HXS : Hid (w.heap.size + 1 + 1 < (((w.alloc (.cells #[.bool n, .slice a xs.length ca, .slice b ys.length cb] 24)).alloc (.cells #[.bool m, .slice c us.length cc, .slice d vs.length cd] 24)).alloc (.cells #[.bool false, .slice none 0 0, .slice none 0 0] 24)).heap.size) := HZ.out.lt
  have HSL := hid (And.intro (sx.later HB.out) (And.intro (sy.later HB.out) (And.intro (su.later HB.out) (sv.later HB.out))))
  have HC := hid (rcheckBoth_any n _ xs _ ys m _ us _ vs (((w.alloc (.cells #[.bool n, .slice a xs.length ca, .slice b ys.length cb] 24)).alloc (.cells #[.bool m, .slice c us.length cc, .slice d vs.length cd] 24)).alloc (.cells #[.bool false, .slice none 0 0, .slice none 0 0] 24)) HSL.out.1 HSL.out.2.1 HSL.out.2.2.1 HSL.out.2.2.2)
  rw [rboth_good hx hy] at HC
  have HA := hid (fun ww (hb : Below (((w.alloc (.cells #[.bool n, .slice a xs.length ca, .slice b ys.length cb] 24)).alloc (.cells #[.bool m, .slice c us.length cc, .slice d vs.length cd] 24)).alloc (.cells #[.bool false, .slice none 0 0, .slice none 0 0] 24)).heap.size (((w.alloc (.cells #[.bool n, .slice a xs.length ca, .slice b ys.length cb] 24)).alloc (.cells #[.bool m, .slice c us.length cc, .slice d vs.length cd] 24)).alloc (.cells #[.bool false, .slice none 0 0, .slice none 0 0] 24)) ww) => rmultiply_cut n a ca xs b cb ys m c cc us d cd vs ww (HSL.out.1.later hb) (HSL.out.2.1.later hb) (HSL.out.2.2.1.later hb) (HSL.out.2.2.2.later hb) lx ly lu lv tx ty tu tv (by omega) (by omega) g1 g2)
  clear sx sy su sv hx hy tx ty tu tv g1 g2 py pv
  go_enter Tryz.func66, Tryz.ntmps66
  go_wp2_with fail
  refine Calls.mono HC.out ?_
  generalize (((w.alloc (.cells #[.bool n, .slice a xs.length ca, .slice b ys.length cb] 24)).alloc (.cells #[.bool m, .slice c us.length cc, .slice d vs.length cd] 24)).alloc (.cells #[.bool false, .slice none 0 0, .slice none 0 0] 24)) = X at *
  rintro e w1 ⟨rfl, hb1⟩
  have HCA := hid (HA.out w1 hb1)
  obtain ⟨p0, p1, p2, _⟩ := res_box3 HN.out hb1
  obtain ⟨q0, q1, q2, _⟩ := res_box3 HM.out hb1
  have HB1 := hid hb1
  clear hb1 HC HA
  go_wp2_with fail
  refine Calls.mono HCA.out ?_
  rintro e w2 ⟨k2, v2, z2, u2, r2, code, rfl, o2, o3, t2, hb2, hc2⟩
  obtain ⟨a2, c2, hs2⟩ := own_slice' o2
  subst hs2
  obtain ⟨a3, c3, hs3⟩ := own_slice' o3
  subst hs3
  have HR := hid (And.intro o2 (And.intro o3 (And.intro t2 hc2)))
  obtain ⟨y0, y1, y2, f0, f1, f2⟩ := res_box3 HZ.out (bt HB1.out hb2)
  have HBW := hid (bt HB.out (bt HB1.out hb2))
  have HLT : Hid (w.heap.size + 1 + 1 < w1.heap.size) := Nat.lt_of_lt_of_le HXS.out HB1.out.size
  clear o2 o3 t2 hb2 hc2 HCA p0 p1 p2 q0 q1 q2
  go_wp2_with fail
  refine bodyPost_ret (v := .tuple #[.agg #[.bool k2, .slice a2 z2.length c2, .slice a3 r2.length c3], .int .i64 code]) (by simp [results, Tryz.results66, go_sem, y0, y1, y2]) rfl ?_
  exact RToldA.put HR.out (w.heap.size + 1 + 1) HLT.out (by omega) HBW.out _ _ _
theorem rMul_full (n : Bool) (a : Option Addr) (ca : Nat) (xs : List Int) (b : Option Addr) (cb : Nat) (ys : List Int) (m : Bool) (c : Option Addr) (cc : Nat) (us : List Int) (d : Option Addr) (cd : Nat) (vs : List Int) (w : World) (sx : Sl w (.slice a xs.length ca) xs) (sy : Sl w (.slice b ys.length cb) ys) (su : Sl w (.slice c us.length cc) us) (sv : Sl w (.slice d vs.length cd) vs) :
    Calls Tryz.prog 66 #[.agg #[.bool n, .slice a xs.length ca, .slice b ys.length cb], .agg #[.bool m, .slice c us.length cc, .slice d vs.length cd]] w (RToldA w (rboth n xs ys m us vs) (rq n xs ys * rq m us vs)) := by
  by_cases he : rboth n xs ys m us vs = 0
  · rw [he]
    exact rMul_ok n a ca xs b cb ys m c cc us d cd vs w sx sy su sv (rboth_ok he).1 (rboth_ok he).2
  · exact rMul_err n a ca xs b cb ys m c cc us d cd vs w sx sy su sv he _
set_option maxHeartbeats 3200000 in
theorem rSub_err (n : Bool) (a : Option Addr) (ca : Nat) (xs : List Int) (b : Option Addr) (cb : Nat) (ys : List Int) (m : Bool) (c : Option Addr) (cc : Nat) (us : List Int) (d : Option Addr) (cd : Nat) (vs : List Int) (w : World) (sx : Sl w (.slice a xs.length ca) xs) (sy : Sl w (.slice b ys.length cb) ys) (su : Sl w (.slice c us.length cc) us) (sv : Sl w (.slice d vs.length cd) vs) (he : rboth n xs ys m us vs ≠ 0) (q : Rat) :
    Calls Tryz.prog 56 #[.agg #[.bool n, .slice a xs.length ca, .slice b ys.length cb], .agg #[.bool m, .slice c us.length cc, .slice d vs.length cd]] w (RToldA w (rboth n xs ys m us vs) q) := by
  have HB : Hid (Below w.heap.size w (((w.alloc (.cells #[.bool n, .slice a xs.length ca, .slice b ys.length cb] 24)).alloc (.cells #[.bool m, .slice c us.length cc, .slice d vs.length cd] 24)).alloc (.cells #[.bool false, .slice none 0 0, .slice none 0 0] 24))) := bt (bt (alloc_later _ _) (alloc_later _ _)) (alloc_later _ _)
  have HZ : Hid (Box (((w.alloc (.cells #[.bool n, .slice a xs.length ca, .slice b ys.length cb] 24)).alloc (.cells #[.bool m, .slice c us.length cc, .slice d vs.length cd] 24)).alloc (.cells #[.bool false, .slice none 0 0, .slice none 0 0] 24)) (w.heap.size + 1 + 1) 24 #[.bool false, .slice none 0 0, .slice none 0 0]) := by
    have e := Box.made ((w.alloc (.cells #[.bool n, .slice a xs.length ca, .slice b ys.length cb] 24)).alloc (.cells #[.bool m, .slice c us.length cc, .slice d vs.length cd] 24)) 24 #[.bool false, .slice none 0 0, .slice none 0 0]
    simp at e
    exact e
  have HN : Hid (Box (((w.alloc (.cells #[.bool n, .slice a xs.length ca, .slice b ys.length cb] 24)).alloc (.cells #[.bool m, .slice c us.length cc, .slice d vs.length cd] 24)).alloc (.cells #[.bool false, .slice none 0 0, .slice none 0 0] 24)) w.heap.size 24 #[.bool n, .slice a xs.length ca, .slice b ys.length cb]) := Box.later (Box.made w _ _) (bt (alloc_later _ _) (alloc_later _ _)) (by simp)
  have HM : Hid (Box (((w.alloc (.cells #[.bool n, .slice a xs.length ca, .slice b ys.length cb] 24)).alloc (.cells #[.bool m, .slice c us.length cc, .slice d vs.length cd] 24)).alloc (.cells #[.bool false, .slice none 0 0, .slice none 0 0] 24)) (w.heap.size + 1) 24 #[.bool m, .slice c us.length cc, .slice d vs.length cd]) := by
    have e := Box.later (Box.made (w.alloc (.cells #[.bool n, .slice a xs.length ca, .slice b ys.length cb] 24)) 24 #[.bool m, .slice c us.length cc, .slice d vs.length cd]) (alloc_later ((w.alloc (.cells #[.bool n, .slice a xs.length ca, .slice b ys.length cb] 24)).alloc (.cells #[.bool m, .slice c us.length cc, .slice d vs.length cd] 24)) (.cells #[.bool false, .slice none 0 0, .slice none 0 0] 24)) (by simp)
    simp at e
    exact e
  have HXS : Hid (w.heap.size + 1 + 1 < (((w.alloc (.cells #[.bool n, .slice a xs.length ca, .slice b ys.length cb] 24)).alloc (.cells #[.bool m, .slice c us.length cc, .slice d vs.length cd] 24)).alloc (.cells #[.bool false, .slice none 0 0, .slice none 0 0] 24)).heap.size) := HZ.out.lt
  have HSL := hid (And.intro (sx.later HB.out) (And.intro (sy.later HB.out) (And.intro (su.later HB.out) (sv.later HB.out))))
  have HC := hid (rcheckBoth_any n _ xs _ ys m _ us _ vs (((w.alloc (.cells #[.bool n, .slice a xs.length ca, .slice b ys.length cb] 24)).alloc (.cells #[.bool m, .slice c us.length cc, .slice d vs.length cd] 24)).alloc (.cells #[.bool false, .slice none 0 0, .slice none 0 0] 24)) HSL.out.1 HSL.out.2.1 HSL.out.2.2.1 HSL.out.2.2.2)
  obtain ⟨E, hE⟩ : ∃ E, rboth n xs ys m us vs = E := ⟨_, rfl⟩
  rw [hE] at HC he ⊢
  have he' : (E == 0) = false := beq_eq_false_iff_ne.2 he
  have HE := hid he
  clear he hE sx sy su sv
  go_enter Tryz.func56, Tryz.ntmps56
  go_wp2_with fail
  refine Calls.mono HC.out ?_
  generalize (((w.alloc (.cells #[.bool n, .slice a xs.length ca, .slice b ys.length cb] 24)).alloc (.cells #[.bool m, .slice c us.length cc, .slice d vs.length cd] 24)).alloc (.cells #[.bool false, .slice none 0 0, .slice none 0 0] 24)) = X at *
  rintro e w1 ⟨rfl, hb1⟩
  obtain ⟨y0, y1, y2, f0, f1, f2⟩ := res_box3 HZ.out hb1
  have HBN := hid (below_put3 (bt HB.out hb1) (w.heap.size + 1 + 1) (by omega) (.bool false) (.slice none 0 0) (.slice none 0 0))
  clear hb1 HC HN HM HZ HSL
  go_wp2_with fail
  refine bodyPost_ret (v := .tuple #[.agg #[.bool false, .slice none 0 0, .slice none 0 0], .int .i64 E]) (by simp [results, Tryz.results56, go_sem, y0, y1, y2]) rfl ?_
  exact ⟨false, _, [], _, [], _, rfl, World.ownsRow_nil _ _ _ _, World.ownsRow_nil _ _ _ _, RTells.err HE.out, HBN.out, ⟨w.heap.size, Nat.le_refl _, HBN.out.size, fun g hg => by simp [Value.ownBlock] at hg, fun g hg => by simp [Value.ownBlock] at hg⟩⟩
set_option maxHeartbeats 3200000 in
theorem rSub_ok (n : Bool) (a : Option Addr) (ca : Nat) (xs : List Int) (b : Option Addr) (cb : Nat) (ys : List Int) (m : Bool) (c : Option Addr) (cc : Nat) (us : List Int) (d : Option Addr) (cd : Nat) (vs : List Int) (w : World) (sx : Sl w (.slice a xs.length ca) xs) (sy : Sl w (.slice b ys.length cb) ys) (su : Sl w (.slice c us.length cc) us) (sv : Sl w (.slice d vs.length cd) vs) (hx : rchk n xs ys = 0) (hy : rchk m us vs = 0) :
    Calls Tryz.prog 56 #[.agg #[.bool n, .slice a xs.length ca, .slice b ys.length cb], .agg #[.bool m, .slice c us.length cc, .slice d vs.length cd]] w (RToldA w 0 (rq n xs ys - rq m us vs)) := by
  obtain ⟨lx, ly, tx, ty, y0', _, g1⟩ := rchk_ok hx
  obtain ⟨lu, lv, tu, tv, v0', _, g2⟩ := rchk_ok hy
  have py := val_pos' sy.wd ty y0'
  have pv := val_pos' sv.wd tv v0'
  have HB : Hid (Below w.heap.size w (((w.alloc (.cells #[.bool n, .slice a xs.length ca, .slice b ys.length cb] 24)).alloc (.cells #[.bool m, .slice c us.length cc, .slice d vs.length cd] 24)).alloc (.cells #[.bool false, .slice none 0 0, .slice none 0 0] 24))) := bt (bt (alloc_later _ _) (alloc_later _ _)) (alloc_later _ _)
  have HZ : Hid (Box (((w.alloc (.cells #[.bool n, .slice a xs.length ca, .slice b ys.length cb] 24)).alloc (.cells #[.bool m, .slice c us.length cc, .slice d vs.length cd] 24)).alloc (.cells #[.bool false, .slice none 0 0, .slice none 0 0] 24)) (w.heap.size + 1 + 1) 24 #[.bool false, .slice none 0 0, .slice none 0 0]) := by
    have e := Box.made ((w.alloc (.cells #[.bool n, .slice a xs.length ca, .slice b ys.length cb] 24)).alloc (.cells #[.bool m, .slice c us.length cc, .slice d vs.length cd] 24)) 24 #[.bool false, .slice none 0 0, .slice none 0 0]
    simp at e
    exact e
  have HN : Hid (Box (((w.alloc (.cells #[.bool n, .slice a xs.length ca, .slice b ys.length cb] 24)).alloc (.cells #[.bool m, .slice c us.length cc, .slice d vs.length cd] 24)).alloc (.cells #[.bool false, .slice none 0 0, .slice none 0 0] 24)) w.heap.size 24 #[.bool n, .slice a xs.length ca, .slice b ys.length cb]) := Box.later (Box.made w _ _) (bt (alloc_later _ _) (alloc_later _ _)) (by simp)
  have HM : Hid (Box (((w.alloc (.cells #[.bool n, .slice a xs.length ca, .slice b ys.length cb] 24)).alloc (.cells #[.bool m, .slice c us.length cc, .slice d vs.length cd] 24)).alloc (.cells #[.bool false, .slice none 0 0, .slice none 0 0] 24)) (w.heap.size + 1) 24 #[.bool m, .slice c us.length cc, .slice d vs.length cd]) := by
    have e := Box.later (Box.made (w.alloc (.cells #[.bool n, .slice a xs.length ca, .slice b ys.length cb] 24)) 24 #[.bool m, .slice c us.length cc, .slice d vs.length cd]) (alloc_later ((w.alloc (.cells #[.bool n, .slice a xs.length ca, .slice b ys.length cb] 24)).alloc (.cells #[.bool m, .slice c us.length cc, .slice d vs.length cd] 24)) (.cells #[.bool false, .slice none 0 0, .slice none 0 0] 24)) (by simp)
    simp at e
    exact e
  have HXS : Hid (w.heap.size + 1 + 1 < (((w.alloc (.cells #[.bool n, .slice a xs.length ca, .slice b ys.length cb] 24)).alloc (.cells #[.bool m, .slice c us.length cc, .slice d vs.length cd] 24)).alloc (.cells #[.bool false, .slice none 0 0, .slice none 0 0] 24)).heap.size) := HZ.out.lt
  have HSL := hid (And.intro (sx.later HB.out) (And.intro (sy.later HB.out) (And.intro (su.later HB.out) (sv.later HB.out))))
  have HC := hid (rcheckBoth_any n _ xs _ ys m _ us _ vs (((w.alloc (.cells #[.bool n, .slice a xs.length ca, .slice b ys.length cb] 24)).alloc (.cells #[.bool m, .slice c us.length cc, .slice d vs.length cd] 24)).alloc (.cells #[.bool false, .slice none 0 0, .slice none 0 0] 24)) HSL.out.1 HSL.out.2.1 HSL.out.2.2.1 HSL.out.2.2.2)
  rw [rboth_good hx hy] at HC
  have HT := hid (And.intro lx (And.intro ly (And.intro lu (And.intro lv (And.intro tx (And.intro ty (And.intro tu (And.intro tv (And.intro g1 g2)))))))))
  have HS0 := hid (And.intro sx (And.intro sy (And.intro su sv)))
  have HPY := hid (And.intro py pv)
  clear sx sy su sv hx hy tx ty tu tv g1 g2 py pv lx ly lu lv
  go_enter Tryz.func56, Tryz.ntmps56
  go_wp2_with fail
  refine Calls.mono HC.out ?_
  generalize (((w.alloc (.cells #[.bool n, .slice a xs.length ca, .slice b ys.length cb] 24)).alloc (.cells #[.bool m, .slice c us.length cc, .slice d vs.length cd] 24)).alloc (.cells #[.bool false, .slice none 0 0, .slice none 0 0] 24)) = X at *
  rintro e w1 ⟨rfl, hb1⟩
  have HB1 := hid (bt HB.out hb1)
  have HN1 := hid (HN.out.later hb1 HN.out.lt)
  have HM1 := hid (HM.out.later hb1 HM.out.lt)
  have HZ1 := hid (HZ.out.later hb1 HZ.out.lt)
  have HL1 : Hid (w.heap.size + 1 + 1 < w1.heap.size) := Nat.lt_of_lt_of_le HXS.out hb1.size
  have HMp := hid (HM1.out.set 0 (.bool (!m)))
  have HNp := hid (HN1.out.other ⟨w.heap.size + 1, 0, none⟩ (.bool (!m)) (by simp))
  have HZp := hid (HZ1.out.other ⟨w.heap.size + 1, 0, none⟩ (.bool (!m)) (by simp))
  have HBs : Hid (Below w.heap.size w (w1.setCell ⟨w.heap.size + 1, 0, none⟩ (.bool (!m)))) := HB1.out.setCell (p := ⟨w.heap.size + 1, 0, none⟩) (by simp) _
  have HLs : Hid (w.heap.size + 1 + 1 < (w1.setCell ⟨w.heap.size + 1, 0, none⟩ (.bool (!m))).heap.size) := HZp.out.lt
  have HCA := hid (radd_any n a ca xs b cb ys (!m) c cc us d cd vs (w1.setCell ⟨w.heap.size + 1, 0, none⟩ (.bool (!m))) (HS0.out.1.later HBs.out) (HS0.out.2.1.later HBs.out) (HS0.out.2.2.1.later HBs.out) (HS0.out.2.2.2.later HBs.out) HT.out.1 HT.out.2.1 HT.out.2.2.1 HT.out.2.2.2.1 HT.out.2.2.2.2.1 HT.out.2.2.2.2.2.1 HT.out.2.2.2.2.2.2.1 HT.out.2.2.2.2.2.2.2.1 (by have := HPY.out; omega) (by have := HPY.out; omega) HT.out.2.2.2.2.2.2.2.2.1 HT.out.2.2.2.2.2.2.2.2.2)
  rw [rq_less] at HCA
  obtain ⟨p0, p1, p2, _⟩ := res_box3 HN1.out (Below.refl _ w1)
  obtain ⟨q0, q1, q2, g0, g1, g2⟩ := res_box3 HM1.out (Below.refl _ w1)
  have r0 : (w1.setCell ⟨w.heap.size + 1, 0, none⟩ (.bool (!m))).cell? ⟨w.heap.size, 0, none⟩ = some (.bool n) := HNp.out.cell 0
  have r1 : (w1.setCell ⟨w.heap.size + 1, 0, none⟩ (.bool (!m))).cell? ⟨w.heap.size, 1, none⟩ = some (.slice a xs.length ca) := HNp.out.cell 1
  have r2 : (w1.setCell ⟨w.heap.size + 1, 0, none⟩ (.bool (!m))).cell? ⟨w.heap.size, 2, none⟩ = some (.slice b ys.length cb) := HNp.out.cell 2
  have t0 : (w1.setCell ⟨w.heap.size + 1, 0, none⟩ (.bool (!m))).cell? ⟨w.heap.size + 1, 0, none⟩ = some (.bool (!m)) := HMp.out.cell 0
  have t1 : (w1.setCell ⟨w.heap.size + 1, 0, none⟩ (.bool (!m))).cell? ⟨w.heap.size + 1, 1, none⟩ = some (.slice c us.length cc) := HMp.out.cell 1
  have t2 : (w1.setCell ⟨w.heap.size + 1, 0, none⟩ (.bool (!m))).cell? ⟨w.heap.size + 1, 2, none⟩ = some (.slice d vs.length cd) := HMp.out.cell 2
  clear hb1 HC
  go_wp2_with fail
  refine Calls.mono HCA.out ?_
  generalize w1.setCell ⟨w.heap.size + 1, 0, none⟩ (.bool (!m)) = V at *
  rintro e w2 ⟨k2, v2, z2, u2, r2', code, rfl, o2, o3, tt2, hb2, hc2⟩
  obtain ⟨a2, c2, hs2⟩ := own_slice' o2
  subst hs2
  obtain ⟨a3, c3, hs3⟩ := own_slice' o3
  subst hs3
  have HR := hid (And.intro o2 (And.intro o3 (And.intro tt2 hc2)))
  obtain ⟨y0, y1, y2, f0, f1, f2⟩ := res_box3 HZp.out hb2
  have HBW := hid (bt HBs.out hb2)
  clear o2 o3 tt2 hb2 hc2 HCA p0 p1 p2 q0 q1 q2 g0 g1 g2 r0 r1 r2 t0 t1 t2
  go_wp2_with fail
  refine bodyPost_ret (v := .tuple #[.agg #[.bool k2, .slice a2 z2.length c2, .slice a3 r2'.length c3], .int .i64 code]) (by simp [results, Tryz.results56, go_sem, y0, y1, y2]) rfl ?_
  exact RToldA.put HR.out (w.heap.size + 1 + 1) HLs.out (by omega) HBW.out _ _ _
theorem rSub_full (n : Bool) (a : Option Addr) (ca : Nat) (xs : List Int) (b : Option Addr) (cb : Nat) (ys : List Int) (m : Bool) (c : Option Addr) (cc : Nat) (us : List Int) (d : Option Addr) (cd : Nat) (vs : List Int) (w : World) (sx : Sl w (.slice a xs.length ca) xs) (sy : Sl w (.slice b ys.length cb) ys) (su : Sl w (.slice c us.length cc) us) (sv : Sl w (.slice d vs.length cd) vs) :
    Calls Tryz.prog 56 #[.agg #[.bool n, .slice a xs.length ca, .slice b ys.length cb], .agg #[.bool m, .slice c us.length cc, .slice d vs.length cd]] w (RToldA w (rboth n xs ys m us vs) (rq n xs ys - rq m us vs)) := by
  by_cases he : rboth n xs ys m us vs = 0
  · rw [he]
    exact rSub_ok n a ca xs b cb ys m c cc us d cd vs w sx sy su sv (rboth_ok he).1 (rboth_ok he).2
  · exact rSub_err n a ca xs b cb ys m c cc us d cd vs w sx sy su sv he _
theorem gcd_comm' (x y : Int) : gcdI x y = gcdI y x := by unfold gcdI; rw [Int.gcd_comm]
theorem rq_over {n m : Bool} {xs ys us vs : List Int} : rq n xs ys * rq m vs us = rq n xs ys / rq m us vs := by
  rw [Rat.div_def]
  congr 1
  unfold rq
  rw [Rat.inv_divInt]
  cases m
  · rfl
  · show Rat.divInt (-(val vs)) (val us) = Rat.divInt (val vs) (-(val us))
    rw [Rat.divInt_neg']
set_option maxHeartbeats 3200000 in
theorem rQuo_err (n : Bool) (a : Option Addr) (ca : Nat) (xs : List Int) (b : Option Addr) (cb : Nat) (ys : List Int) (m : Bool) (c : Option Addr) (cc : Nat) (us : List Int) (d : Option Addr) (cd : Nat) (vs : List Int) (w : World) (sx : Sl w (.slice a xs.length ca) xs) (sy : Sl w (.slice b ys.length cb) ys) (su : Sl w (.slice c us.length cc) us) (sv : Sl w (.slice d vs.length cd) vs) (he : rboth n xs ys m us vs ≠ 0) (q : Rat) :
    Calls Tryz.prog 60 #[.agg #[.bool n, .slice a xs.length ca, .slice b ys.length cb], .agg #[.bool m, .slice c us.length cc, .slice d vs.length cd]] w (RToldA w (rboth n xs ys m us vs) q) := by
  have HB : Hid (Below w.heap.size w (((w.alloc (.cells #[.bool n, .slice a xs.length ca, .slice b ys.length cb] 24)).alloc (.cells #[.bool m, .slice c us.length cc, .slice d vs.length cd] 24)).alloc (.cells #[.bool false, .slice none 0 0, .slice none 0 0] 24))) := bt (bt (alloc_later _ _) (alloc_later _ _)) (alloc_later _ _)
  have HZ : Hid (Box (((w.alloc (.cells #[.bool n, .slice a xs.length ca, .slice b ys.length cb] 24)).alloc (.cells #[.bool m, .slice c us.length cc, .slice d vs.length cd] 24)).alloc (.cells #[.bool false, .slice none 0 0, .slice none 0 0] 24)) (w.heap.size + 1 + 1) 24 #[.bool false, .slice none 0 0, .slice none 0 0]) := by
    have e := Box.made ((w.alloc (.cells #[.bool n, .slice a xs.length ca, .slice b ys.length cb] 24)).alloc (.cells #[.bool m, .slice c us.length cc, .slice d vs.length cd] 24)) 24 #[.bool false, .slice none 0 0, .slice none 0 0]
    simp at e
    exact e
  have HN : Hid (Box (((w.alloc (.cells #[.bool n, .slice a xs.length ca, .slice b ys.length cb] 24)).alloc (.cells #[.bool m, .slice c us.length cc, .slice d vs.length cd] 24)).alloc (.cells #[.bool false, .slice none 0 0, .slice none 0 0] 24)) w.heap.size 24 #[.bool n, .slice a xs.length ca, .slice b ys.length cb]) := Box.later (Box.made w _ _) (bt (alloc_later _ _) (alloc_later _ _)) (by simp)
  have HM : Hid (Box (((w.alloc (.cells #[.bool n, .slice a xs.length ca, .slice b ys.length cb] 24)).alloc (.cells #[.bool m, .slice c us.length cc, .slice d vs.length cd] 24)).alloc (.cells #[.bool false, .slice none 0 0, .slice none 0 0] 24)) (w.heap.size + 1) 24 #[.bool m, .slice c us.length cc, .slice d vs.length cd]) := by
    have e := Box.later (Box.made (w.alloc (.cells #[.bool n, .slice a xs.length ca, .slice b ys.length cb] 24)) 24 #[.bool m, .slice c us.length cc, .slice d vs.length cd]) (alloc_later ((w.alloc (.cells #[.bool n, .slice a xs.length ca, .slice b ys.length cb] 24)).alloc (.cells #[.bool m, .slice c us.length cc, .slice d vs.length cd] 24)) (.cells #[.bool false, .slice none 0 0, .slice none 0 0] 24)) (by simp)
    simp at e
    exact e
  have HXS : Hid (w.heap.size + 1 + 1 < (((w.alloc (.cells #[.bool n, .slice a xs.length ca, .slice b ys.length cb] 24)).alloc (.cells #[.bool m, .slice c us.length cc, .slice d vs.length cd] 24)).alloc (.cells #[.bool false, .slice none 0 0, .slice none 0 0] 24)).heap.size) := HZ.out.lt
  have HSL := hid (And.intro (sx.later HB.out) (And.intro (sy.later HB.out) (And.intro (su.later HB.out) (sv.later HB.out))))
  have HC := hid (rcheckBoth_any n _ xs _ ys m _ us _ vs (((w.alloc (.cells #[.bool n, .slice a xs.length ca, .slice b ys.length cb] 24)).alloc (.cells #[.bool m, .slice c us.length cc, .slice d vs.length cd] 24)).alloc (.cells #[.bool false, .slice none 0 0, .slice none 0 0] 24)) HSL.out.1 HSL.out.2.1 HSL.out.2.2.1 HSL.out.2.2.2)
  obtain ⟨E, hE⟩ : ∃ E, rboth n xs ys m us vs = E := ⟨_, rfl⟩
  rw [hE] at HC he ⊢
  have he' : (E == 0) = false := beq_eq_false_iff_ne.2 he
  have HE := hid he
  clear he hE sx sy su sv
  go_enter Tryz.func60, Tryz.ntmps60
  go_wp2_with fail
  refine Calls.mono HC.out ?_
  generalize (((w.alloc (.cells #[.bool n, .slice a xs.length ca, .slice b ys.length cb] 24)).alloc (.cells #[.bool m, .slice c us.length cc, .slice d vs.length cd] 24)).alloc (.cells #[.bool false, .slice none 0 0, .slice none 0 0] 24)) = X at *
  rintro e w1 ⟨rfl, hb1⟩
  obtain ⟨y0, y1, y2, f0, f1, f2⟩ := res_box3 HZ.out hb1
  have HBN := hid (below_put3 (bt HB.out hb1) (w.heap.size + 1 + 1) (by omega) (.bool false) (.slice none 0 0) (.slice none 0 0))
  clear hb1 HC HN HM HZ HSL
  go_wp2_with fail
  refine bodyPost_ret (v := .tuple #[.agg #[.bool false, .slice none 0 0, .slice none 0 0], .int .i64 E]) (by simp [results, Tryz.results60, go_sem, y0, y1, y2]) rfl ?_
  exact ⟨false, _, [], _, [], _, rfl, World.ownsRow_nil _ _ _ _, World.ownsRow_nil _ _ _ _, RTells.err HE.out, HBN.out, ⟨w.heap.size, Nat.le_refl _, HBN.out.size, fun g hg => by simp [Value.ownBlock] at hg, fun g hg => by simp [Value.ownBlock] at hg⟩⟩
set_option maxHeartbeats 3200000 in
theorem rQuo_z (n : Bool) (a : Option Addr) (ca : Nat) (xs : List Int) (b : Option Addr) (cb : Nat) (ys : List Int) (m : Bool) (c : Option Addr) (cc : Nat) (us : List Int) (d : Option Addr) (cd : Nat) (vs : List Int) (w : World) (sx : Sl w (.slice a xs.length ca) xs) (sy : Sl w (.slice b ys.length cb) ys) (su : Sl w (.slice c us.length cc) us) (sv : Sl w (.slice d vs.length cd) vs) (hx : rchk n xs ys = 0) (hy : rchk m us vs = 0) (h0 : us.length = 0) (q : Rat) :
    Calls Tryz.prog 60 #[.agg #[.bool n, .slice a xs.length ca, .slice b ys.length cb], .agg #[.bool m, .slice c us.length cc, .slice d vs.length cd]] w (RToldA w 7 q) := by
  have HB : Hid (Below w.heap.size w (((w.alloc (.cells #[.bool n, .slice a xs.length ca, .slice b ys.length cb] 24)).alloc (.cells #[.bool m, .slice c us.length cc, .slice d vs.length cd] 24)).alloc (.cells #[.bool false, .slice none 0 0, .slice none 0 0] 24))) := bt (bt (alloc_later _ _) (alloc_later _ _)) (alloc_later _ _)
  have HZ : Hid (Box (((w.alloc (.cells #[.bool n, .slice a xs.length ca, .slice b ys.length cb] 24)).alloc (.cells #[.bool m, .slice c us.length cc, .slice d vs.length cd] 24)).alloc (.cells #[.bool false, .slice none 0 0, .slice none 0 0] 24)) (w.heap.size + 1 + 1) 24 #[.bool false, .slice none 0 0, .slice none 0 0]) := by
    have e := Box.made ((w.alloc (.cells #[.bool n, .slice a xs.length ca, .slice b ys.length cb] 24)).alloc (.cells #[.bool m, .slice c us.length cc, .slice d vs.length cd] 24)) 24 #[.bool false, .slice none 0 0, .slice none 0 0]
    simp at e
    exact e
  have HN : Hid (Box (((w.alloc (.cells #[.bool n, .slice a xs.length ca, .slice b ys.length cb] 24)).alloc (.cells #[.bool m, .slice c us.length cc, .slice d vs.length cd] 24)).alloc (.cells #[.bool false, .slice none 0 0, .slice none 0 0] 24)) w.heap.size 24 #[.bool n, .slice a xs.length ca, .slice b ys.length cb]) := Box.later (Box.made w _ _) (bt (alloc_later _ _) (alloc_later _ _)) (by simp)
  have HM : Hid (Box (((w.alloc (.cells #[.bool n, .slice a xs.length ca, .slice b ys.length cb] 24)).alloc (.cells #[.bool m, .slice c us.length cc, .slice d vs.length cd] 24)).alloc (.cells #[.bool false, .slice none 0 0, .slice none 0 0] 24)) (w.heap.size + 1) 24 #[.bool m, .slice c us.length cc, .slice d vs.length cd]) := by
    have e := Box.later (Box.made (w.alloc (.cells #[.bool n, .slice a xs.length ca, .slice b ys.length cb] 24)) 24 #[.bool m, .slice c us.length cc, .slice d vs.length cd]) (alloc_later ((w.alloc (.cells #[.bool n, .slice a xs.length ca, .slice b ys.length cb] 24)).alloc (.cells #[.bool m, .slice c us.length cc, .slice d vs.length cd] 24)) (.cells #[.bool false, .slice none 0 0, .slice none 0 0] 24)) (by simp)
    simp at e
    exact e
  have HXS : Hid (w.heap.size + 1 + 1 < (((w.alloc (.cells #[.bool n, .slice a xs.length ca, .slice b ys.length cb] 24)).alloc (.cells #[.bool m, .slice c us.length cc, .slice d vs.length cd] 24)).alloc (.cells #[.bool false, .slice none 0 0, .slice none 0 0] 24)).heap.size) := HZ.out.lt
  have HSL := hid (And.intro (sx.later HB.out) (And.intro (sy.later HB.out) (And.intro (su.later HB.out) (sv.later HB.out))))
  have HC := hid (rcheckBoth_any n _ xs _ ys m _ us _ vs (((w.alloc (.cells #[.bool n, .slice a xs.length ca, .slice b ys.length cb] 24)).alloc (.cells #[.bool m, .slice c us.length cc, .slice d vs.length cd] 24)).alloc (.cells #[.bool false, .slice none 0 0, .slice none 0 0] 24)) HSL.out.1 HSL.out.2.1 HSL.out.2.2.1 HSL.out.2.2.2)
  rw [rboth_good hx hy] at HC
  have HE : Hid ((7 : Int) ≠ 0) := by show _ ≠ _; omega
  have h0' : ((us.length : Int) == 0) = true := by rw [h0]; rfl
  clear h0 hx hy sx sy su sv
  go_enter Tryz.func60, Tryz.ntmps60
  go_wp2_with fail
  refine Calls.mono HC.out ?_
  generalize (((w.alloc (.cells #[.bool n, .slice a xs.length ca, .slice b ys.length cb] 24)).alloc (.cells #[.bool m, .slice c us.length cc, .slice d vs.length cd] 24)).alloc (.cells #[.bool false, .slice none 0 0, .slice none 0 0] 24)) = X at *
  rintro e w1 ⟨rfl, hb1⟩
  obtain ⟨q0, q1, q2, _⟩ := res_box3 HM.out hb1
  obtain ⟨y0, y1, y2, f0, f1, f2⟩ := res_box3 HZ.out hb1
  have HBN := hid (below_put3 (bt HB.out hb1) (w.heap.size + 1 + 1) (by omega) (.bool false) (.slice none 0 0) (.slice none 0 0))
  clear hb1 HC HN HM HZ HSL
  go_wp2_with fail
  refine bodyPost_ret (v := .tuple #[.agg #[.bool false, .slice none 0 0, .slice none 0 0], .int .i64 7]) (by simp [results, Tryz.results60, go_sem, y0, y1, y2]) rfl ?_
  exact ⟨false, _, [], _, [], _, rfl, World.ownsRow_nil _ _ _ _, World.ownsRow_nil _ _ _ _, RTells.err HE.out, HBN.out, ⟨w.heap.size, Nat.le_refl _, HBN.out.size, fun g hg => by simp [Value.ownBlock] at hg, fun g hg => by simp [Value.ownBlock] at hg⟩⟩
set_option maxHeartbeats 3200000 in
theorem rQuo_ok (n : Bool) (a : Option Addr) (ca : Nat) (xs : List Int) (b : Option Addr) (cb : Nat) (ys : List Int) (m : Bool) (c : Option Addr) (cc : Nat) (us : List Int) (d : Option Addr) (cd : Nat) (vs : List Int) (w : World) (sx : Sl w (.slice a xs.length ca) xs) (sy : Sl w (.slice b ys.length cb) ys) (su : Sl w (.slice c us.length cc) us) (sv : Sl w (.slice d vs.length cd) vs) (hx : rchk n xs ys = 0) (hy : rchk m us vs = 0) (h0 : 0 < us.length) :
    Calls Tryz.prog 60 #[.agg #[.bool n, .slice a xs.length ca, .slice b ys.length cb], .agg #[.bool m, .slice c us.length cc, .slice d vs.length cd]] w (RToldA w 0 (rq n xs ys / rq m us vs)) := by
  obtain ⟨lx, ly, tx, ty, y0', _, g1⟩ := rchk_ok hx
  obtain ⟨lu, lv, tu, tv, v0', _, g2⟩ := rchk_ok hy
  have py := val_pos' sy.wd ty y0'
  have pu := val_pos' su.wd tu h0
  rw [gcd_comm'] at g2
  have HB : Hid (Below w.heap.size w (((w.alloc (.cells #[.bool n, .slice a xs.length ca, .slice b ys.length cb] 24)).alloc (.cells #[.bool m, .slice c us.length cc, .slice d vs.length cd] 24)).alloc (.cells #[.bool false, .slice none 0 0, .slice none 0 0] 24))) := bt (bt (alloc_later _ _) (alloc_later _ _)) (alloc_later _ _)
  have HZ : Hid (Box (((w.alloc (.cells #[.bool n, .slice a xs.length ca, .slice b ys.length cb] 24)).alloc (.cells #[.bool m, .slice c us.length cc, .slice d vs.length cd] 24)).alloc (.cells #[.bool false, .slice none 0 0, .slice none 0 0] 24)) (w.heap.size + 1 + 1) 24 #[.bool false, .slice none 0 0, .slice none 0 0]) := by
    have e := Box.made ((w.alloc (.cells #[.bool n, .slice a xs.length ca, .slice b ys.length cb] 24)).alloc (.cells #[.bool m, .slice c us.length cc, .slice d vs.length cd] 24)) 24 #[.bool false, .slice none 0 0, .slice none 0 0]
    simp at e
    exact e
  have HN : Hid (Box (((w.alloc (.cells #[.bool n, .slice a xs.length ca, .slice b ys.length cb] 24)).alloc (.cells #[.bool m, .slice c us.length cc, .slice d vs.length cd] 24)).alloc (.cells #[.bool false, .slice none 0 0, .slice none 0 0] 24)) w.heap.size 24 #[.bool n, .slice a xs.length ca, .slice b ys.length cb]) := Box.later (Box.made w _ _) (bt (alloc_later _ _) (alloc_later _ _)) (by simp)
  have HM : Hid (Box (((w.alloc (.cells #[.bool n, .slice a xs.length ca, .slice b ys.length cb] 24)).alloc (.cells #[.bool m, .slice c us.length cc, .slice d vs.length cd] 24)).alloc (.cells #[.bool false, .slice none 0 0, .slice none 0 0] 24)) (w.heap.size + 1) 24 #[.bool m, .slice c us.length cc, .slice d vs.length cd]) := by
    have e := Box.later (Box.made (w.alloc (.cells #[.bool n, .slice a xs.length ca, .slice b ys.length cb] 24)) 24 #[.bool m, .slice c us.length cc, .slice d vs.length cd]) (alloc_later ((w.alloc (.cells #[.bool n, .slice a xs.length ca, .slice b ys.length cb] 24)).alloc (.cells #[.bool m, .slice c us.length cc, .slice d vs.length cd] 24)) (.cells #[.bool false, .slice none 0 0, .slice none 0 0] 24)) (by simp)
    simp at e
    exact e
  have HXS : Hid (w.heap.size + 1 + 1 < (((w.alloc (.cells #[.bool n, .slice a xs.length ca, .slice b ys.length cb] 24)).alloc (.cells #[.bool m, .slice c us.length cc, .slice d vs.length cd] 24)).alloc (.cells #[.bool false, .slice none 0 0, .slice none 0 0] 24)).heap.size) := HZ.out.lt
  have HSL := hid (And.intro (sx.later HB.out) (And.intro (sy.later HB.out) (And.intro (su.later HB.out) (sv.later HB.out))))
  have HC := hid (rcheckBoth_any n _ xs _ ys m _ us _ vs (((w.alloc (.cells #[.bool n, .slice a xs.length ca, .slice b ys.length cb] 24)).alloc (.cells #[.bool m, .slice c us.length cc, .slice d vs.length cd] 24)).alloc (.cells #[.bool false, .slice none 0 0, .slice none 0 0] 24)) HSL.out.1 HSL.out.2.1 HSL.out.2.2.1 HSL.out.2.2.2)
  rw [rboth_good hx hy] at HC
  have HT := hid (And.intro lx (And.intro ly (And.intro lu (And.intro lv (And.intro tx (And.intro ty (And.intro tu (And.intro tv (And.intro g1 g2)))))))))
  have HS0 := hid (And.intro sx (And.intro sy (And.intro su sv)))
  have HPY := hid (And.intro py pu)
  have h0' : ((us.length : Int) == 0) = false := beq_eq_false_iff_ne.2 (by omega)
  clear sx sy su sv hx hy tx ty tu tv g1 g2 py pu lx ly lu lv
  go_enter Tryz.func60, Tryz.ntmps60
  go_wp2_with fail
  refine Calls.mono HC.out ?_
  generalize (((w.alloc (.cells #[.bool n, .slice a xs.length ca, .slice b ys.length cb] 24)).alloc (.cells #[.bool m, .slice c us.length cc, .slice d vs.length cd] 24)).alloc (.cells #[.bool false, .slice none 0 0, .slice none 0 0] 24)) = X at *
  rintro e w1 ⟨rfl, hb1⟩
  have HB1 := hid (bt HB.out hb1)
  have HN1 := hid (HN.out.later hb1 HN.out.lt)
  have HM1 := hid (HM.out.later hb1 HM.out.lt)
  have HZ1 := hid (HZ.out.later hb1 HZ.out.lt)
  have HMp := hid ((HM1.out.set 1 (.slice d vs.length cd)).set 2 (.slice c us.length cc))
  have HNp := hid ((HN1.out.other ⟨w.heap.size + 1, 1, none⟩ (.slice d vs.length cd) (by simp)).other ⟨w.heap.size + 1, 2, none⟩ (.slice c us.length cc) (by simp))
  have HZp := hid ((HZ1.out.other ⟨w.heap.size + 1, 1, none⟩ (.slice d vs.length cd) (by simp)).other ⟨w.heap.size + 1, 2, none⟩ (.slice c us.length cc) (by simp))
  have HBs : Hid (Below w.heap.size w ((w1.setCell ⟨w.heap.size + 1, 1, none⟩ (.slice d vs.length cd)).setCell ⟨w.heap.size + 1, 2, none⟩ (.slice c us.length cc))) := (HB1.out.setCell (p := ⟨w.heap.size + 1, 1, none⟩) (by simp) _).setCell (p := ⟨w.heap.size + 1, 2, none⟩) (by simp) _
  have HLs : Hid (w.heap.size + 1 + 1 < ((w1.setCell ⟨w.heap.size + 1, 1, none⟩ (.slice d vs.length cd)).setCell ⟨w.heap.size + 1, 2, none⟩ (.slice c us.length cc)).heap.size) := HZp.out.lt
  have HCA := hid (fun ww (hb : Below ((w1.setCell ⟨w.heap.size + 1, 1, none⟩ (.slice d vs.length cd)).setCell ⟨w.heap.size + 1, 2, none⟩ (.slice c us.length cc)).heap.size ((w1.setCell ⟨w.heap.size + 1, 1, none⟩ (.slice d vs.length cd)).setCell ⟨w.heap.size + 1, 2, none⟩ (.slice c us.length cc)) ww) => rmultiply_cut n a ca xs b cb ys m d cd vs c cc us ww (HS0.out.1.later (bt HBs.out hb)) (HS0.out.2.1.later (bt HBs.out hb)) (HS0.out.2.2.2.later (bt HBs.out hb)) (HS0.out.2.2.1.later (bt HBs.out hb)) HT.out.1 HT.out.2.1 HT.out.2.2.2.1 HT.out.2.2.1 HT.out.2.2.2.2.1 HT.out.2.2.2.2.2.1 HT.out.2.2.2.2.2.2.2.1 HT.out.2.2.2.2.2.2.1 (by have := HPY.out; omega) (by have := HPY.out; omega) HT.out.2.2.2.2.2.2.2.2.1 HT.out.2.2.2.2.2.2.2.2.2)
  rw [rq_over] at HCA
  obtain ⟨p0, p1, p2, _⟩ := res_box3 HN1.out (Below.refl _ w1)
  obtain ⟨q0, q1, q2, g0, g1, g2⟩ := res_box3 HM1.out (Below.refl _ w1)
  clear hb1 HC
  have r0 : ((w1.setCell ⟨w.heap.size + 1, 1, none⟩ (.slice d vs.length cd)).setCell ⟨w.heap.size + 1, 2, none⟩ (.slice c us.length cc)).cell? ⟨w.heap.size, 0, none⟩ = some (.bool n) := HNp.out.cell 0
  have r1 : ((w1.setCell ⟨w.heap.size + 1, 1, none⟩ (.slice d vs.length cd)).setCell ⟨w.heap.size + 1, 2, none⟩ (.slice c us.length cc)).cell? ⟨w.heap.size, 1, none⟩ = some (.slice a xs.length ca) := HNp.out.cell 1
  have r2 : ((w1.setCell ⟨w.heap.size + 1, 1, none⟩ (.slice d vs.length cd)).setCell ⟨w.heap.size + 1, 2, none⟩ (.slice c us.length cc)).cell? ⟨w.heap.size, 2, none⟩ = some (.slice b ys.length cb) := HNp.out.cell 2
  have t0 : ((w1.setCell ⟨w.heap.size + 1, 1, none⟩ (.slice d vs.length cd)).setCell ⟨w.heap.size + 1, 2, none⟩ (.slice c us.length cc)).cell? ⟨w.heap.size + 1, 0, none⟩ = some (.bool m) := HMp.out.cell 0
  have t1 : ((w1.setCell ⟨w.heap.size + 1, 1, none⟩ (.slice d vs.length cd)).setCell ⟨w.heap.size + 1, 2, none⟩ (.slice c us.length cc)).cell? ⟨w.heap.size + 1, 1, none⟩ = some (.slice d vs.length cd) := HMp.out.cell 1
  have t2 : ((w1.setCell ⟨w.heap.size + 1, 1, none⟩ (.slice d vs.length cd)).setCell ⟨w.heap.size + 1, 2, none⟩ (.slice c us.length cc)).cell? ⟨w.heap.size + 1, 2, none⟩ = some (.slice c us.length cc) := HMp.out.cell 2
  go_wp2_with fail
  refine Calls.mono (HCA.out _ (by first | exact Below.drew (Below.refl _ _) | exact Below.refl _ _)) ?_
  generalize ((w1.setCell ⟨w.heap.size + 1, 1, none⟩ (.slice d vs.length cd)).setCell ⟨w.heap.size + 1, 2, none⟩ (.slice c us.length cc)) = V at *
  rintro e w2 ⟨k2, v2, z2, u2, r2', code, rfl, o2, o3, tt2, hb2, hc2⟩
  obtain ⟨a2, c2, hs2⟩ := own_slice' o2
  subst hs2
  obtain ⟨a3, c3, hs3⟩ := own_slice' o3
  subst hs3
  have HR := hid (And.intro o2 (And.intro o3 (And.intro tt2 hc2)))
  have hbV : Below V.heap.size V w2 := bt (by first | exact Below.drew (Below.refl _ V) | exact Below.refl _ V) hb2
  obtain ⟨y0, y1, y2, f0, f1, f2⟩ := res_box3 HZp.out hbV
  have HBW := hid (bt HBs.out hbV)
  clear o2 o3 tt2 hb2 hbV hc2 HCA r0 r1 r2 t0 t1 t2 p0 p1 p2 q0 q1 q2 g0 g1 g2
  go_wp2_with fail
  refine bodyPost_ret (v := .tuple #[.agg #[.bool k2, .slice a2 z2.length c2, .slice a3 r2'.length c3], .int .i64 code]) (by simp [results, Tryz.results60, go_sem, y0, y1, y2]) rfl ?_
  exact RToldA.put HR.out (w.heap.size + 1 + 1) (by simpa using HLs.out) (by omega) HBW.out _ _ _
def qErr (n : Bool) (xs ys : List Int) (m : Bool) (us vs : List Int) : Int := if rboth n xs ys m us vs = 0 then (if us.length = 0 then 7 else 0) else rboth n xs ys m us vs
theorem rQuo_full (n : Bool) (a : Option Addr) (ca : Nat) (xs : List Int) (b : Option Addr) (cb : Nat) (ys : List Int) (m : Bool) (c : Option Addr) (cc : Nat) (us : List Int) (d : Option Addr) (cd : Nat) (vs : List Int) (w : World) (sx : Sl w (.slice a xs.length ca) xs) (sy : Sl w (.slice b ys.length cb) ys) (su : Sl w (.slice c us.length cc) us) (sv : Sl w (.slice d vs.length cd) vs) :
    Calls Tryz.prog 60 #[.agg #[.bool n, .slice a xs.length ca, .slice b ys.length cb], .agg #[.bool m, .slice c us.length cc, .slice d vs.length cd]] w (RToldA w (qErr n xs ys m us vs) (rq n xs ys / rq m us vs)) := by
  unfold qErr
  by_cases he : rboth n xs ys m us vs = 0
  · rw [if_pos he]
    by_cases h0 : us.length = 0
    · rw [if_pos h0]
      exact rQuo_z n a ca xs b cb ys m c cc us d cd vs w sx sy su sv (rboth_ok he).1 (rboth_ok he).2 h0 _
    · rw [if_neg h0]
      exact rQuo_ok n a ca xs b cb ys m c cc us d cd vs w sx sy su sv (rboth_ok he).1 (rboth_ok he).2 (by omega)
  · rw [if_neg he]
    exact rQuo_err n a ca xs b cb ys m c cc us d cd vs w sx sy su sv he _
theorem trim1_any (v : Value) (xs : List Int) (w : World) (h : Sl w v xs) (hn : xs.length ≤ 1099511627776) : Calls Tryz.prog 79 #[v] w (Told1 w (val xs)) := by
  have wx := h.wd
  refine Calls.mono (trim_sl v xs w h hn) ?_
  rintro e w' ⟨v', rfl, o, hb⟩
  exact ⟨v', trimmed xs, rfl, owns_len o, wx.trimmed, Trimmed.trimmed _, val_trimmed xs, hb⟩
theorem rq_neg {n : Bool} {xs ys : List Int} : Rat.divInt (sg (!n) (val xs)) (val ys) = -(rq n xs ys) := by
  unfold rq
  rw [Rat.neg_divInt]
  congr 1
  cases n <;> simp [sg, wval]
set_option maxHeartbeats 3200000 in
theorem rNeg_err (n : Bool) (a : Option Addr) (ca : Nat) (xs : List Int) (b : Option Addr) (cb : Nat) (ys : List Int) (w : World) (sx : Sl w (.slice a xs.length ca) xs) (sy : Sl w (.slice b ys.length cb) ys) (he : rchk n xs ys ≠ 0) (q : Rat) :
    Calls Tryz.prog 59 #[.agg #[.bool n, .slice a xs.length ca, .slice b ys.length cb]] w (RToldA w (rchk n xs ys) q) := by
  have HB : Hid (Below w.heap.size w ((w.alloc (.cells #[.bool n, .slice a xs.length ca, .slice b ys.length cb] 24)).alloc (.cells #[.bool false, .slice none 0 0, .slice none 0 0] 24))) := bt (alloc_later _ _) (alloc_later _ _)
  have HZ : Hid (Box ((w.alloc (.cells #[.bool n, .slice a xs.length ca, .slice b ys.length cb] 24)).alloc (.cells #[.bool false, .slice none 0 0, .slice none 0 0] 24)) (w.heap.size + 1) 24 #[.bool false, .slice none 0 0, .slice none 0 0]) := by
    have e := Box.made (w.alloc (.cells #[.bool n, .slice a xs.length ca, .slice b ys.length cb] 24)) 24 #[.bool false, .slice none 0 0, .slice none 0 0]
    simp at e
    exact e
  have HC := hid (rcheck_any n _ xs _ ys ((w.alloc (.cells #[.bool n, .slice a xs.length ca, .slice b ys.length cb] 24)).alloc (.cells #[.bool false, .slice none 0 0, .slice none 0 0] 24)) (sx.later HB.out) (sy.later HB.out))
  obtain ⟨E, hE⟩ : ∃ E, rchk n xs ys = E := ⟨_, rfl⟩
  rw [hE] at HC he ⊢
  have he' : (E == 0) = false := beq_eq_false_iff_ne.2 he
  have HE := hid he
  clear he hE sx sy
  go_enter Tryz.func59, Tryz.ntmps59
  go_wp2_with fail
  refine Calls.mono HC.out ?_
  generalize ((w.alloc (.cells #[.bool n, .slice a xs.length ca, .slice b ys.length cb] 24)).alloc (.cells #[.bool false, .slice none 0 0, .slice none 0 0] 24)) = X at *
  rintro e w1 ⟨rfl, hb1⟩
  obtain ⟨y0, y1, y2, f0, f1, f2⟩ := res_box3 HZ.out hb1
  have HBN := hid (below_put3 (bt HB.out hb1) (w.heap.size + 1) (by omega) (.bool false) (.slice none 0 0) (.slice none 0 0))
  clear hb1 HC HZ
  go_wp2_with fail
  refine bodyPost_ret (v := .tuple #[.agg #[.bool false, .slice none 0 0, .slice none 0 0], .int .i64 E]) (by simp [results, Tryz.results59, go_sem, y0, y1, y2]) rfl ?_
  exact ⟨false, _, [], _, [], _, rfl, World.ownsRow_nil _ _ _ _, World.ownsRow_nil _ _ _ _, RTells.err HE.out, HBN.out, ⟨w.heap.size, Nat.le_refl _, HBN.out.size, fun g hg => by simp [Value.ownBlock] at hg, fun g hg => by simp [Value.ownBlock] at hg⟩⟩
set_option maxHeartbeats 3200000 in
theorem rNeg_ok (n : Bool) (a : Option Addr) (ca : Nat) (xs : List Int) (b : Option Addr) (cb : Nat) (ys : List Int) (w : World) (sx : Sl w (.slice a xs.length ca) xs) (sy : Sl w (.slice b ys.length cb) ys) (hx : rchk n xs ys = 0) :
    Calls Tryz.prog 59 #[.agg #[.bool n, .slice a xs.length ca, .slice b ys.length cb]] w (RToldA w 0 (-(rq n xs ys))) := by
  obtain ⟨lx, ly, tx, ty, y0', _, g1⟩ := rchk_ok hx
  have py := val_pos' sy.wd ty y0'
  have HB : Hid (Below w.heap.size w ((w.alloc (.cells #[.bool n, .slice a xs.length ca, .slice b ys.length cb] 24)).alloc (.cells #[.bool false, .slice none 0 0, .slice none 0 0] 24))) := bt (alloc_later _ _) (alloc_later _ _)
  have HZ : Hid (Box ((w.alloc (.cells #[.bool n, .slice a xs.length ca, .slice b ys.length cb] 24)).alloc (.cells #[.bool false, .slice none 0 0, .slice none 0 0] 24)) (w.heap.size + 1) 24 #[.bool false, .slice none 0 0, .slice none 0 0]) := by
    have e := Box.made (w.alloc (.cells #[.bool n, .slice a xs.length ca, .slice b ys.length cb] 24)) 24 #[.bool false, .slice none 0 0, .slice none 0 0]
    simp at e
    exact e
  have HN : Hid (Box ((w.alloc (.cells #[.bool n, .slice a xs.length ca, .slice b ys.length cb] 24)).alloc (.cells #[.bool false, .slice none 0 0, .slice none 0 0] 24)) w.heap.size 24 #[.bool n, .slice a xs.length ca, .slice b ys.length cb]) := Box.later (Box.made w _ _) (alloc_later _ _) (by simp)
  have HXS : Hid (w.heap.size + 1 < ((w.alloc (.cells #[.bool n, .slice a xs.length ca, .slice b ys.length cb] 24)).alloc (.cells #[.bool false, .slice none 0 0, .slice none 0 0] 24)).heap.size) := HZ.out.lt
  have HSL := hid (And.intro (sx.later HB.out) (sy.later HB.out))
  have HC := hid (rcheck_any n _ xs _ ys ((w.alloc (.cells #[.bool n, .slice a xs.length ca, .slice b ys.length cb] 24)).alloc (.cells #[.bool false, .slice none 0 0, .slice none 0 0] 24)) HSL.out.1 HSL.out.2)
  rw [hx] at HC
  have HP : Hid (0 < val ys ∧ gcdI (val xs) (val ys) = 1) := ⟨by omega, g1⟩
  clear sx sy hx tx ty g1 py
  go_enter Tryz.func59, Tryz.ntmps59
  go_wp2_with fail
  refine Calls.mono HC.out ?_
  generalize ((w.alloc (.cells #[.bool n, .slice a xs.length ca, .slice b ys.length cb] 24)).alloc (.cells #[.bool false, .slice none 0 0, .slice none 0 0] 24)) = X at *
  rintro e w1 ⟨rfl, hb1⟩
  have HB1 := hid hb1
  have hb1d : Below X.heap.size X w1.drew := hb1.drew
  have HK : Hid (∀ V, Below X.heap.size X V → V.cell? ⟨w.heap.size, 0, none⟩ = some (.bool n) ∧ V.cell? ⟨w.heap.size, 1, none⟩ = some (.slice a xs.length ca) ∧ V.cell? ⟨w.heap.size, 2, none⟩ = some (.slice b ys.length cb)) := fun V hb => by
    obtain ⟨p0, p1, p2, _⟩ := res_box3 HN.out hb
    exact ⟨p0, p1, p2⟩
  have hs0 := HK.out _ hb1d
  have H1 := hid (fun ww (hv : Below X.heap.size X ww) => told1_in _ HK.out ww hv (trim1_any _ xs ww (HSL.out.1.later hv) (by omega)))
  have H2 := hid (fun ww (hv : Below X.heap.size X ww) => told1_in _ HK.out ww hv (trim1_any _ ys ww (HSL.out.2.later hv) (by omega)))
  have HTL := hid (fun (ww : World) (hb : Below X.heap.size X ww) (a4 : Option Addr) (z4 : List Int) (c4 : Nat) (a5 : Option Addr) (z5 : List Int) (c5 : Nat) (g1 : One X ww (.slice a4 z4.length c4) z4 (val xs)) (g2 : One X ww (.slice a5 z5.length c5) z5 (val ys)) (hc : Cut X (.slice a4 z4.length c4) (.slice a5 z5.length c5) ww) => rtold_cut (n := !n) (q := -(rq n xs ys)) _ HK.out hb g1 g2 hc HP.out.1 HP.out.2 rq_neg)
  have hq0 : w.heap.size + 1 ≠ w.heap.size := by omega
  clear hb1 HC
  go_wp2_with fail
  go_region_held3 (fun V : World => V.cell? ⟨w.heap.size, 0, none⟩ = some (.bool n) ∧ V.cell? ⟨w.heap.size, 1, none⟩ = some (.slice a xs.length ca) ∧ V.cell? ⟨w.heap.size, 2, none⟩ = some (.slice b ys.length cb)) (first | exact hs9 | exact hs5 | exact hs4 | exact hs0 | (simp [hs9, World.cell?_setCell_far]))
    (first
      | (go_at_call 78; with_reducible refine Calls.mono (HTL.out _ hb5 _ _ _ _ _ _ (HE4.out.1.later HS5.out) HE5.out.1 (cut_two hb1d.size HS4.out.size HS5.out.size HE4.out.2 HE5.out.2)) ?_; rintro e w9 ⟨k9, a8, z8, c8, a9, z9, c9, code, rfl, HE9, hs9, hb9⟩; obtain ⟨y0, y1, y2, f0, f1, f2⟩ := res_box3 HZ.out hb9)
      | (go_at_call 79; with_reducible refine Calls.mono (H2.out _ hb4) ?_; rintro e w5 ⟨a5, z5, c5, rfl, HE5, hs5, hb5, HS5⟩)
      | (go_at_call 79; with_reducible refine Calls.mono (H1.out _ hb1d) ?_; rintro e w4 ⟨a4, z4, c4, rfl, HE4, hs4, hb4, HS4⟩))
  all_goals
    have HBW := hid (bt HB.out hb9)
    have HR := hid HE9.out
    clear HK H1 H2 HTL HE4 HE5 HE9 HS4 HS5 hs0 hs4 hs5 hs9 hb1d hb4 hb5 hb9 HP
    go_wp2_with fail
    refine bodyPost_ret (v := .tuple #[.agg #[.bool k9, .slice a8 z8.length c8, .slice a9 z9.length c9], .int .i64 code]) (by simp [results, Tryz.results59, go_sem, y0, y1, y2]) rfl ?_
    exact RToldA.put HR.out (w.heap.size + 1) HXS.out (by omega) HBW.out _ _ _
theorem rNeg_full (n : Bool) (a : Option Addr) (ca : Nat) (xs : List Int) (b : Option Addr) (cb : Nat) (ys : List Int) (w : World) (sx : Sl w (.slice a xs.length ca) xs) (sy : Sl w (.slice b ys.length cb) ys) :
    Calls Tryz.prog 59 #[.agg #[.bool n, .slice a xs.length ca, .slice b ys.length cb]] w (RToldA w (rchk n xs ys) (-(rq n xs ys))) := by
  by_cases he : rchk n xs ys = 0
  · rw [he]; exact rNeg_ok n a ca xs b cb ys w sx sy he
  · exact rNeg_err n a ca xs b cb ys w sx sy he _
set_option maxHeartbeats 1600000 in
theorem gsum_any (p : Nat) (E : Int) (n : Bool) (a : Option Addr) (ca : Nat) (xs : List Int) (b : Option Addr) (cb : Nat) (ys : List Int) (m : Bool) (c : Option Addr) (cc : Nat) (us : List Int) (d : Option Addr) (cd : Nat) (vs : List Int) (w : World) (hp : Box w p 53 #[.int .i64 E]) (sx : Sl w (.slice a xs.length ca) xs) (sy : Sl w (.slice b ys.length cb) ys) (su : Sl w (.slice c us.length cc) us) (sv : Sl w (.slice d vs.length cd) vs) :
    Calls Tryz.prog 25 #[.pointer (some ⟨p, 0, none⟩), .agg #[.bool n, .slice a xs.length ca, .slice b ys.length cb], .agg #[.bool m, .slice c us.length cc, .slice d vs.length cd]] w (GTell w p (fstE E (rboth n xs ys m us vs)) (rq n xs ys + rq m us vs)) := by
  have HX := hid (boxes3r w 24 #[.bool n, .slice a xs.length ca, .slice b ys.length cb] #[.bool m, .slice c us.length cc, .slice d vs.length cd] #[.bool false, .slice none 0 0, .slice none 0 0])
  obtain ⟨X, hX⟩ : ∃ X, ((w.alloc (.cells #[.bool n, .slice a xs.length ca, .slice b ys.length cb] 24)).alloc (.cells #[.bool m, .slice c us.length cc, .slice d vs.length cd] 24)).alloc (.cells #[.bool false, .slice none 0 0, .slice none 0 0] 24) = X := ⟨_, rfl⟩
  rw [hX] at HX
  have HP := hid (hp.later HX.out.2.2.2 hp.lt)
  have hpw : p < w.heap.size := hp.lt
  have HN := hid (gnext_any p 53 E (rboth n xs ys m us vs) (rq n xs ys + rq m us vs) (.bool n) (.slice a xs.length ca) (.slice b ys.length cb) (.bool m) (.slice c us.length cc) (.slice d vs.length cd) X HP.out (enters_of Tryz.func53 (by kernel_rfl) rfl) (fun V hv => rAdd_full n a ca xs b cb ys m c cc us d cd vs V (sx.later (bt HX.out.2.2.2 hv)) (sy.later (bt HX.out.2.2.2 hv)) (su.later (bt HX.out.2.2.2 hv)) (sv.later (bt HX.out.2.2.2 hv))))
  generalize fstE E (rboth n xs ys m us vs) = e at *
  generalize rq n xs ys + rq m us vs = q at *
  have c0 : X.cell? ⟨w.heap.size, 0, none⟩ = some (.bool n) := HX.out.1.cell 0
  have c1 : X.cell? ⟨w.heap.size, 1, none⟩ = some (.slice a xs.length ca) := HX.out.1.cell 1
  have c2 : X.cell? ⟨w.heap.size, 2, none⟩ = some (.slice b ys.length cb) := HX.out.1.cell 2
  have d0 : X.cell? ⟨w.heap.size + 1, 0, none⟩ = some (.bool m) := HX.out.2.1.cell 0
  have d1 : X.cell? ⟨w.heap.size + 1, 1, none⟩ = some (.slice c us.length cc) := HX.out.2.1.cell 1
  have d2 : X.cell? ⟨w.heap.size + 1, 2, none⟩ = some (.slice d vs.length cd) := HX.out.2.1.cell 2
  clear sx sy su sv hp
  go_enter Tryz.func25, Tryz.ntmps25
  go_wp2_with fail
  refine Calls.mono HN.out ?_
  rintro x w1 ⟨k, v, zs, u, ts, code, rfl, ov, ou, ht, hpb, hg, hcut⟩
  obtain ⟨av, cv, rfl⟩ := own_slice' ov
  obtain ⟨au, cu, rfl⟩ := own_slice' ou
  have HM1 := hid (HX.out.2.2.1.kept' hg (by intro e; have := Option.some.inj e; omega))
  have m0 : w1.cell? ⟨w.heap.size + 1 + 1, 0, none⟩ = some (.bool false) := HM1.out.cell 0
  have m1 : w1.cell? ⟨w.heap.size + 1 + 1, 1, none⟩ = some (.slice none 0 0) := HM1.out.cell 1
  have m2 : w1.cell? ⟨w.heap.size + 1 + 1, 2, none⟩ = some (.slice none 0 0) := HM1.out.cell 2
  have n0 := HM1.out.free 0
  have n1 := HM1.out.free 1
  have n2 := HM1.out.free 2
  have HOV := hid ov
  have HOU := hid ou
  have HTT := hid ht
  have HCC := hid hcut
  have HPB := hid hpb
  have HG := hid hg
  clear ov ou ht hcut hpb hg c0 c1 c2 d0 d1 d2 HN
  go_wp2_with fail
  have h3 := HX.out.2.2.1.lt
  have hv : ∀ b', (Value.slice av zs.length cv).ownBlock = some b' → b' ≠ w.heap.size + 1 + 1 := fun b' hb => by have := (HOV.out.lt b' hb).1; omega
  have hu : ∀ b', (Value.slice au ts.length cu).ownBlock = some b' → b' ≠ w.heap.size + 1 + 1 := fun b' hb => by have := (HOU.out.lt b' hb).1; omega
  have B1 := box_put3 HM1.out (.bool k) (.slice av zs.length cv) (.slice au ts.length cu)
  have P1 := box_far3 HPB.out (show p ≠ w.heap.size + 1 + 1 by omega) (.bool k) (.slice av zs.length cv) (.slice au ts.length cu)
  have V1 := own_put3' HOV.out _ hv (.bool k) (.slice av zs.length cv) (.slice au ts.length cu)
  have U1 := own_put3' HOU.out _ hu (.bool k) (.slice av zs.length cv) (.slice au ts.length cu)
  have G1 := grow_put3 (grow_trans (grow_below HX.out.2.2.2 (some p)) HG.out) (w.heap.size + 1 + 1) (.bool k) (.slice av zs.length cv) (.slice au ts.length cu) (.inl (by omega))
  have hXw := HX.out.2.2.2.size
  refine bodyPost_ret (results_cell_row (by rfl) _ _ (w.heap.size + 1 + 1) 24 _ (0, 0) _ (by rfl) B1 Tryz.underlying24 rfl (by kernel_rfl)) rfl ?_
  exact ⟨k, _, zs, _, ts, code, rfl, owns_base V1 hXw, owns_base U1 hXw, HTT.out, P1, G1, HCC.out.up hXw (by simp [World.setCell])⟩
set_option maxHeartbeats 1600000 in
theorem gdifference_any (p : Nat) (E : Int) (n : Bool) (a : Option Addr) (ca : Nat) (xs : List Int) (b : Option Addr) (cb : Nat) (ys : List Int) (m : Bool) (c : Option Addr) (cc : Nat) (us : List Int) (d : Option Addr) (cd : Nat) (vs : List Int) (w : World) (hp : Box w p 53 #[.int .i64 E]) (sx : Sl w (.slice a xs.length ca) xs) (sy : Sl w (.slice b ys.length cb) ys) (su : Sl w (.slice c us.length cc) us) (sv : Sl w (.slice d vs.length cd) vs) :
    Calls Tryz.prog 29 #[.pointer (some ⟨p, 0, none⟩), .agg #[.bool n, .slice a xs.length ca, .slice b ys.length cb], .agg #[.bool m, .slice c us.length cc, .slice d vs.length cd]] w (GTell w p (fstE E (rboth n xs ys m us vs)) (rq n xs ys - rq m us vs)) := by
  have HX := hid (boxes3r w 24 #[.bool n, .slice a xs.length ca, .slice b ys.length cb] #[.bool m, .slice c us.length cc, .slice d vs.length cd] #[.bool false, .slice none 0 0, .slice none 0 0])
  obtain ⟨X, hX⟩ : ∃ X, ((w.alloc (.cells #[.bool n, .slice a xs.length ca, .slice b ys.length cb] 24)).alloc (.cells #[.bool m, .slice c us.length cc, .slice d vs.length cd] 24)).alloc (.cells #[.bool false, .slice none 0 0, .slice none 0 0] 24) = X := ⟨_, rfl⟩
  rw [hX] at HX
  have HP := hid (hp.later HX.out.2.2.2 hp.lt)
  have hpw : p < w.heap.size := hp.lt
  have HN := hid (gnext_any p 56 E (rboth n xs ys m us vs) (rq n xs ys - rq m us vs) (.bool n) (.slice a xs.length ca) (.slice b ys.length cb) (.bool m) (.slice c us.length cc) (.slice d vs.length cd) X HP.out (enters_of Tryz.func56 (by kernel_rfl) rfl) (fun V hv => rSub_full n a ca xs b cb ys m c cc us d cd vs V (sx.later (bt HX.out.2.2.2 hv)) (sy.later (bt HX.out.2.2.2 hv)) (su.later (bt HX.out.2.2.2 hv)) (sv.later (bt HX.out.2.2.2 hv))))
  generalize fstE E (rboth n xs ys m us vs) = e at *
  generalize rq n xs ys - rq m us vs = q at *
  have c0 : X.cell? ⟨w.heap.size, 0, none⟩ = some (.bool n) := HX.out.1.cell 0
  have c1 : X.cell? ⟨w.heap.size, 1, none⟩ = some (.slice a xs.length ca) := HX.out.1.cell 1
  have c2 : X.cell? ⟨w.heap.size, 2, none⟩ = some (.slice b ys.length cb) := HX.out.1.cell 2
  have d0 : X.cell? ⟨w.heap.size + 1, 0, none⟩ = some (.bool m) := HX.out.2.1.cell 0
  have d1 : X.cell? ⟨w.heap.size + 1, 1, none⟩ = some (.slice c us.length cc) := HX.out.2.1.cell 1
  have d2 : X.cell? ⟨w.heap.size + 1, 2, none⟩ = some (.slice d vs.length cd) := HX.out.2.1.cell 2
  clear sx sy su sv hp
  go_enter Tryz.func29, Tryz.ntmps29
  go_wp2_with fail
  refine Calls.mono HN.out ?_
  rintro x w1 ⟨k, v, zs, u, ts, code, rfl, ov, ou, ht, hpb, hg, hcut⟩
  obtain ⟨av, cv, rfl⟩ := own_slice' ov
  obtain ⟨au, cu, rfl⟩ := own_slice' ou
  have HM1 := hid (HX.out.2.2.1.kept' hg (by intro e; have := Option.some.inj e; omega))
  have m0 : w1.cell? ⟨w.heap.size + 1 + 1, 0, none⟩ = some (.bool false) := HM1.out.cell 0
  have m1 : w1.cell? ⟨w.heap.size + 1 + 1, 1, none⟩ = some (.slice none 0 0) := HM1.out.cell 1
  have m2 : w1.cell? ⟨w.heap.size + 1 + 1, 2, none⟩ = some (.slice none 0 0) := HM1.out.cell 2
  have n0 := HM1.out.free 0
  have n1 := HM1.out.free 1
  have n2 := HM1.out.free 2
  have HOV := hid ov
  have HOU := hid ou
  have HTT := hid ht
  have HCC := hid hcut
  have HPB := hid hpb
  have HG := hid hg
  clear ov ou ht hcut hpb hg c0 c1 c2 d0 d1 d2 HN
  go_wp2_with fail
  have h3 := HX.out.2.2.1.lt
  have hv : ∀ b', (Value.slice av zs.length cv).ownBlock = some b' → b' ≠ w.heap.size + 1 + 1 := fun b' hb => by have := (HOV.out.lt b' hb).1; omega
  have hu : ∀ b', (Value.slice au ts.length cu).ownBlock = some b' → b' ≠ w.heap.size + 1 + 1 := fun b' hb => by have := (HOU.out.lt b' hb).1; omega
  have B1 := box_put3 HM1.out (.bool k) (.slice av zs.length cv) (.slice au ts.length cu)
  have P1 := box_far3 HPB.out (show p ≠ w.heap.size + 1 + 1 by omega) (.bool k) (.slice av zs.length cv) (.slice au ts.length cu)
  have V1 := own_put3' HOV.out _ hv (.bool k) (.slice av zs.length cv) (.slice au ts.length cu)
  have U1 := own_put3' HOU.out _ hu (.bool k) (.slice av zs.length cv) (.slice au ts.length cu)
  have G1 := grow_put3 (grow_trans (grow_below HX.out.2.2.2 (some p)) HG.out) (w.heap.size + 1 + 1) (.bool k) (.slice av zs.length cv) (.slice au ts.length cu) (.inl (by omega))
  have hXw := HX.out.2.2.2.size
  refine bodyPost_ret (results_cell_row (by rfl) _ _ (w.heap.size + 1 + 1) 24 _ (0, 0) _ (by rfl) B1 Tryz.underlying24 rfl (by kernel_rfl)) rfl ?_
  exact ⟨k, _, zs, _, ts, code, rfl, owns_base V1 hXw, owns_base U1 hXw, HTT.out, P1, G1, HCC.out.up hXw (by simp [World.setCell])⟩
set_option maxHeartbeats 1600000 in
theorem gproduct_any (p : Nat) (E : Int) (n : Bool) (a : Option Addr) (ca : Nat) (xs : List Int) (b : Option Addr) (cb : Nat) (ys : List Int) (m : Bool) (c : Option Addr) (cc : Nat) (us : List Int) (d : Option Addr) (cd : Nat) (vs : List Int) (w : World) (hp : Box w p 53 #[.int .i64 E]) (sx : Sl w (.slice a xs.length ca) xs) (sy : Sl w (.slice b ys.length cb) ys) (su : Sl w (.slice c us.length cc) us) (sv : Sl w (.slice d vs.length cd) vs) :
    Calls Tryz.prog 43 #[.pointer (some ⟨p, 0, none⟩), .agg #[.bool n, .slice a xs.length ca, .slice b ys.length cb], .agg #[.bool m, .slice c us.length cc, .slice d vs.length cd]] w (GTell w p (fstE E (rboth n xs ys m us vs)) (rq n xs ys * rq m us vs)) := by
  have HX := hid (boxes3r w 24 #[.bool n, .slice a xs.length ca, .slice b ys.length cb] #[.bool m, .slice c us.length cc, .slice d vs.length cd] #[.bool false, .slice none 0 0, .slice none 0 0])
  obtain ⟨X, hX⟩ : ∃ X, ((w.alloc (.cells #[.bool n, .slice a xs.length ca, .slice b ys.length cb] 24)).alloc (.cells #[.bool m, .slice c us.length cc, .slice d vs.length cd] 24)).alloc (.cells #[.bool false, .slice none 0 0, .slice none 0 0] 24) = X := ⟨_, rfl⟩
  rw [hX] at HX
  have HP := hid (hp.later HX.out.2.2.2 hp.lt)
  have hpw : p < w.heap.size := hp.lt
  have HN := hid (gnext_any p 66 E (rboth n xs ys m us vs) (rq n xs ys * rq m us vs) (.bool n) (.slice a xs.length ca) (.slice b ys.length cb) (.bool m) (.slice c us.length cc) (.slice d vs.length cd) X HP.out (enters_of Tryz.func66 (by kernel_rfl) rfl) (fun V hv => rMul_full n a ca xs b cb ys m c cc us d cd vs V (sx.later (bt HX.out.2.2.2 hv)) (sy.later (bt HX.out.2.2.2 hv)) (su.later (bt HX.out.2.2.2 hv)) (sv.later (bt HX.out.2.2.2 hv))))
  generalize fstE E (rboth n xs ys m us vs) = e at *
  generalize rq n xs ys * rq m us vs = q at *
  have c0 : X.cell? ⟨w.heap.size, 0, none⟩ = some (.bool n) := HX.out.1.cell 0
  have c1 : X.cell? ⟨w.heap.size, 1, none⟩ = some (.slice a xs.length ca) := HX.out.1.cell 1
  have c2 : X.cell? ⟨w.heap.size, 2, none⟩ = some (.slice b ys.length cb) := HX.out.1.cell 2
  have d0 : X.cell? ⟨w.heap.size + 1, 0, none⟩ = some (.bool m) := HX.out.2.1.cell 0
  have d1 : X.cell? ⟨w.heap.size + 1, 1, none⟩ = some (.slice c us.length cc) := HX.out.2.1.cell 1
  have d2 : X.cell? ⟨w.heap.size + 1, 2, none⟩ = some (.slice d vs.length cd) := HX.out.2.1.cell 2
  clear sx sy su sv hp
  go_enter Tryz.func43, Tryz.ntmps43
  go_wp2_with fail
  refine Calls.mono HN.out ?_
  rintro x w1 ⟨k, v, zs, u, ts, code, rfl, ov, ou, ht, hpb, hg, hcut⟩
  obtain ⟨av, cv, rfl⟩ := own_slice' ov
  obtain ⟨au, cu, rfl⟩ := own_slice' ou
  have HM1 := hid (HX.out.2.2.1.kept' hg (by intro e; have := Option.some.inj e; omega))
  have m0 : w1.cell? ⟨w.heap.size + 1 + 1, 0, none⟩ = some (.bool false) := HM1.out.cell 0
  have m1 : w1.cell? ⟨w.heap.size + 1 + 1, 1, none⟩ = some (.slice none 0 0) := HM1.out.cell 1
  have m2 : w1.cell? ⟨w.heap.size + 1 + 1, 2, none⟩ = some (.slice none 0 0) := HM1.out.cell 2
  have n0 := HM1.out.free 0
  have n1 := HM1.out.free 1
  have n2 := HM1.out.free 2
  have HOV := hid ov
  have HOU := hid ou
  have HTT := hid ht
  have HCC := hid hcut
  have HPB := hid hpb
  have HG := hid hg
  clear ov ou ht hcut hpb hg c0 c1 c2 d0 d1 d2 HN
  go_wp2_with fail
  have h3 := HX.out.2.2.1.lt
  have hv : ∀ b', (Value.slice av zs.length cv).ownBlock = some b' → b' ≠ w.heap.size + 1 + 1 := fun b' hb => by have := (HOV.out.lt b' hb).1; omega
  have hu : ∀ b', (Value.slice au ts.length cu).ownBlock = some b' → b' ≠ w.heap.size + 1 + 1 := fun b' hb => by have := (HOU.out.lt b' hb).1; omega
  have B1 := box_put3 HM1.out (.bool k) (.slice av zs.length cv) (.slice au ts.length cu)
  have P1 := box_far3 HPB.out (show p ≠ w.heap.size + 1 + 1 by omega) (.bool k) (.slice av zs.length cv) (.slice au ts.length cu)
  have V1 := own_put3' HOV.out _ hv (.bool k) (.slice av zs.length cv) (.slice au ts.length cu)
  have U1 := own_put3' HOU.out _ hu (.bool k) (.slice av zs.length cv) (.slice au ts.length cu)
  have G1 := grow_put3 (grow_trans (grow_below HX.out.2.2.2 (some p)) HG.out) (w.heap.size + 1 + 1) (.bool k) (.slice av zs.length cv) (.slice au ts.length cu) (.inl (by omega))
  have hXw := HX.out.2.2.2.size
  refine bodyPost_ret (results_cell_row (by rfl) _ _ (w.heap.size + 1 + 1) 24 _ (0, 0) _ (by rfl) B1 Tryz.underlying24 rfl (by kernel_rfl)) rfl ?_
  exact ⟨k, _, zs, _, ts, code, rfl, owns_base V1 hXw, owns_base U1 hXw, HTT.out, P1, G1, HCC.out.up hXw (by simp [World.setCell])⟩
set_option maxHeartbeats 1600000 in
theorem gquotient_any (p : Nat) (E : Int) (n : Bool) (a : Option Addr) (ca : Nat) (xs : List Int) (b : Option Addr) (cb : Nat) (ys : List Int) (m : Bool) (c : Option Addr) (cc : Nat) (us : List Int) (d : Option Addr) (cd : Nat) (vs : List Int) (w : World) (hp : Box w p 53 #[.int .i64 E]) (sx : Sl w (.slice a xs.length ca) xs) (sy : Sl w (.slice b ys.length cb) ys) (su : Sl w (.slice c us.length cc) us) (sv : Sl w (.slice d vs.length cd) vs) :
    Calls Tryz.prog 36 #[.pointer (some ⟨p, 0, none⟩), .agg #[.bool n, .slice a xs.length ca, .slice b ys.length cb], .agg #[.bool m, .slice c us.length cc, .slice d vs.length cd]] w (GTell w p (fstE E (qErr n xs ys m us vs)) (rq n xs ys / rq m us vs)) := by
  have HX := hid (boxes3r w 24 #[.bool n, .slice a xs.length ca, .slice b ys.length cb] #[.bool m, .slice c us.length cc, .slice d vs.length cd] #[.bool false, .slice none 0 0, .slice none 0 0])
  obtain ⟨X, hX⟩ : ∃ X, ((w.alloc (.cells #[.bool n, .slice a xs.length ca, .slice b ys.length cb] 24)).alloc (.cells #[.bool m, .slice c us.length cc, .slice d vs.length cd] 24)).alloc (.cells #[.bool false, .slice none 0 0, .slice none 0 0] 24) = X := ⟨_, rfl⟩
  rw [hX] at HX
  have HP := hid (hp.later HX.out.2.2.2 hp.lt)
  have hpw : p < w.heap.size := hp.lt
  have HN := hid (gnext_any p 60 E (qErr n xs ys m us vs) (rq n xs ys / rq m us vs) (.bool n) (.slice a xs.length ca) (.slice b ys.length cb) (.bool m) (.slice c us.length cc) (.slice d vs.length cd) X HP.out (enters_of Tryz.func60 (by kernel_rfl) rfl) (fun V hv => rQuo_full n a ca xs b cb ys m c cc us d cd vs V (sx.later (bt HX.out.2.2.2 hv)) (sy.later (bt HX.out.2.2.2 hv)) (su.later (bt HX.out.2.2.2 hv)) (sv.later (bt HX.out.2.2.2 hv))))
  generalize fstE E (qErr n xs ys m us vs) = e at *
  generalize rq n xs ys / rq m us vs = q at *
  have c0 : X.cell? ⟨w.heap.size, 0, none⟩ = some (.bool n) := HX.out.1.cell 0
  have c1 : X.cell? ⟨w.heap.size, 1, none⟩ = some (.slice a xs.length ca) := HX.out.1.cell 1
  have c2 : X.cell? ⟨w.heap.size, 2, none⟩ = some (.slice b ys.length cb) := HX.out.1.cell 2
  have d0 : X.cell? ⟨w.heap.size + 1, 0, none⟩ = some (.bool m) := HX.out.2.1.cell 0
  have d1 : X.cell? ⟨w.heap.size + 1, 1, none⟩ = some (.slice c us.length cc) := HX.out.2.1.cell 1
  have d2 : X.cell? ⟨w.heap.size + 1, 2, none⟩ = some (.slice d vs.length cd) := HX.out.2.1.cell 2
  clear sx sy su sv hp
  go_enter Tryz.func36, Tryz.ntmps36
  go_wp2_with fail
  refine Calls.mono HN.out ?_
  rintro x w1 ⟨k, v, zs, u, ts, code, rfl, ov, ou, ht, hpb, hg, hcut⟩
  obtain ⟨av, cv, rfl⟩ := own_slice' ov
  obtain ⟨au, cu, rfl⟩ := own_slice' ou
  have HM1 := hid (HX.out.2.2.1.kept' hg (by intro e; have := Option.some.inj e; omega))
  have m0 : w1.cell? ⟨w.heap.size + 1 + 1, 0, none⟩ = some (.bool false) := HM1.out.cell 0
  have m1 : w1.cell? ⟨w.heap.size + 1 + 1, 1, none⟩ = some (.slice none 0 0) := HM1.out.cell 1
  have m2 : w1.cell? ⟨w.heap.size + 1 + 1, 2, none⟩ = some (.slice none 0 0) := HM1.out.cell 2
  have n0 := HM1.out.free 0
  have n1 := HM1.out.free 1
  have n2 := HM1.out.free 2
  have HOV := hid ov
  have HOU := hid ou
  have HTT := hid ht
  have HCC := hid hcut
  have HPB := hid hpb
  have HG := hid hg
  clear ov ou ht hcut hpb hg c0 c1 c2 d0 d1 d2 HN
  go_wp2_with fail
  have h3 := HX.out.2.2.1.lt
  have hv : ∀ b', (Value.slice av zs.length cv).ownBlock = some b' → b' ≠ w.heap.size + 1 + 1 := fun b' hb => by have := (HOV.out.lt b' hb).1; omega
  have hu : ∀ b', (Value.slice au ts.length cu).ownBlock = some b' → b' ≠ w.heap.size + 1 + 1 := fun b' hb => by have := (HOU.out.lt b' hb).1; omega
  have B1 := box_put3 HM1.out (.bool k) (.slice av zs.length cv) (.slice au ts.length cu)
  have P1 := box_far3 HPB.out (show p ≠ w.heap.size + 1 + 1 by omega) (.bool k) (.slice av zs.length cv) (.slice au ts.length cu)
  have V1 := own_put3' HOV.out _ hv (.bool k) (.slice av zs.length cv) (.slice au ts.length cu)
  have U1 := own_put3' HOU.out _ hu (.bool k) (.slice av zs.length cv) (.slice au ts.length cu)
  have G1 := grow_put3 (grow_trans (grow_below HX.out.2.2.2 (some p)) HG.out) (w.heap.size + 1 + 1) (.bool k) (.slice av zs.length cv) (.slice au ts.length cu) (.inl (by omega))
  have hXw := HX.out.2.2.2.size
  refine bodyPost_ret (results_cell_row (by rfl) _ _ (w.heap.size + 1 + 1) 24 _ (0, 0) _ (by rfl) B1 Tryz.underlying24 rfl (by kernel_rfl)) rfl ?_
  exact ⟨k, _, zs, _, ts, code, rfl, owns_base V1 hXw, owns_base U1 hXw, HTT.out, P1, G1, HCC.out.up hXw (by simp [World.setCell])⟩
theorem boxes2r (w : World) (t : Nat) (u v : Array Value) : Box ((w.alloc (.cells u t)).alloc (.cells v t)) w.heap.size t u ∧ Box ((w.alloc (.cells u t)).alloc (.cells v t)) (w.heap.size + 1) t v ∧ Below w.heap.size w ((w.alloc (.cells u t)).alloc (.cells v t)) := by
  have e1 : (w.alloc (.cells u t)).heap.size = w.heap.size + 1 := World.size_alloc _ _
  have a := Box.made w t u
  have b := Box.made (w.alloc (.cells u t)) t v
  exact ⟨a.later (alloc_later _ _) a.lt, e1 ▸ b, bt (alloc_later _ _) (alloc_later _ _)⟩
set_option maxHeartbeats 1600000 in
theorem gopposite_any (p : Nat) (E : Int) (n : Bool) (a : Option Addr) (ca : Nat) (xs : List Int) (b : Option Addr) (cb : Nat) (ys : List Int) (w : World) (hp : Box w p 53 #[.int .i64 E]) (sx : Sl w (.slice a xs.length ca) xs) (sy : Sl w (.slice b ys.length cb) ys) :
    Calls Tryz.prog 35 #[.pointer (some ⟨p, 0, none⟩), .agg #[.bool n, .slice a xs.length ca, .slice b ys.length cb]] w (GTell w p (fstE E (rchk n xs ys)) (-(rq n xs ys))) := by
  have HX := hid (boxes2r w 24 #[.bool n, .slice a xs.length ca, .slice b ys.length cb] #[.bool false, .slice none 0 0, .slice none 0 0])
  obtain ⟨X, hX⟩ : ∃ X, (w.alloc (.cells #[.bool n, .slice a xs.length ca, .slice b ys.length cb] 24)).alloc (.cells #[.bool false, .slice none 0 0, .slice none 0 0] 24) = X := ⟨_, rfl⟩
  rw [hX] at HX
  have HP := hid (hp.later HX.out.2.2 hp.lt)
  have kp : X.cell? ⟨p, 0, none⟩ = some (.int .i64 E) := HP.out.cell 0
  have fp := HP.out.free 0
  have hpw : p < w.heap.size := hp.lt
  have HFF : Hid (∀ V, Below w.heap.size w V → Calls Tryz.prog 59 #[.agg #[.bool n, .slice a xs.length ca, .slice b ys.length cb]] V (RToldA V (rchk n xs ys) (-(rq n xs ys)))) := fun V hv => rNeg_full n a ca xs b cb ys V (sx.later hv) (sy.later hv)
  generalize rchk n xs ys = e at *
  generalize -(rq n xs ys) = q at *
  clear sx sy
  by_cases hE : E = 0
  · subst hE
    rw [fstE_zero]
    have c0 : X.cell? ⟨w.heap.size, 0, none⟩ = some (.bool n) := HX.out.1.cell 0
    have c1 : X.cell? ⟨w.heap.size, 1, none⟩ = some (.slice a xs.length ca) := HX.out.1.cell 1
    have c2 : X.cell? ⟨w.heap.size, 2, none⟩ = some (.slice b ys.length cb) := HX.out.1.cell 2
    go_enter Tryz.func35, Tryz.ntmps35
    go_wp2_with fail
    refine Calls.mono (HFF.out _ HX.out.2.2) ?_
    rintro x w1 ⟨k, v, zs, u, ts, code, rfl, ov, ou, ht, hb1, hcut⟩
    obtain ⟨av, cv, rfl⟩ := own_slice' ov
    obtain ⟨au, cu, rfl⟩ := own_slice' ou
    have HM1 := hid (HX.out.2.1.later hb1 HX.out.2.1.lt)
    have HP1 := hid (HP.out.later hb1 HP.out.lt)
    have m0 : w1.cell? ⟨w.heap.size + 1, 0, none⟩ = some (.bool false) := HM1.out.cell 0
    have m1 : w1.cell? ⟨w.heap.size + 1, 1, none⟩ = some (.slice none 0 0) := HM1.out.cell 1
    have m2 : w1.cell? ⟨w.heap.size + 1, 2, none⟩ = some (.slice none 0 0) := HM1.out.cell 2
    have n0 := HM1.out.free 0
    have n1 := HM1.out.free 1
    have n2 := HM1.out.free 2
    have kp1 : w1.cell? ⟨p, 0, none⟩ = some (.int .i64 0) := HP1.out.cell 0
    have fp1 := HP1.out.free 0
    have hne : p ≠ w.heap.size + 1 := by omega
    have HBB := hid (bt HX.out.2.2 hb1)
    have HOV := hid ov
    have HOU := hid ou
    have HTT := hid ht
    have HCC := hid hcut
    clear ov ou ht hcut hb1 c0 c1 c2 kp fp HFF
    go_wp2_with fail
    have h3 := HX.out.2.1.lt
    have hv : (∀ b', (Value.slice av zs.length cv).ownBlock = some b' → b' ≠ w.heap.size + 1) ∧ (∀ b', (Value.slice av zs.length cv).ownBlock = some b' → b' ≠ p) := ⟨fun b' hb => by have := (HOV.out.lt b' hb).1; omega, fun b' hb => by have := (HOV.out.lt b' hb).1; omega⟩
    have hu : (∀ b', (Value.slice au ts.length cu).ownBlock = some b' → b' ≠ w.heap.size + 1) ∧ (∀ b', (Value.slice au ts.length cu).ownBlock = some b' → b' ≠ p) := ⟨fun b' hb => by have := (HOU.out.lt b' hb).1; omega, fun b' hb => by have := (HOU.out.lt b' hb).1; omega⟩
    have B1 := box_put3 ((box_put3 HM1.out (.bool k) (.slice av zs.length cv) (.slice au ts.length cu)).other ⟨p, 0, none⟩ (.int .i64 code) (by simp; omega)) (.bool k) (.slice av zs.length cv) (.slice au ts.length cu)
    have P1 : Box _ p 53 #[.int .i64 code] := box_far3 ((box_far3 HP1.out hne (.bool k) (.slice av zs.length cv) (.slice au ts.length cu)).set 0 (.int .i64 code)) hne (.bool k) (.slice av zs.length cv) (.slice au ts.length cu)
    have V1 := own_put3' (own_put1 (own_put3' HOV.out _ hv.1 (.bool k) (.slice av zs.length cv) (.slice au ts.length cu)) p hv.2 0 (.int .i64 code)) _ hv.1 (.bool k) (.slice av zs.length cv) (.slice au ts.length cu)
    have U1 := own_put3' (own_put1 (own_put3' HOU.out _ hu.1 (.bool k) (.slice av zs.length cv) (.slice au ts.length cu)) p hu.2 0 (.int .i64 code)) _ hu.1 (.bool k) (.slice av zs.length cv) (.slice au ts.length cu)
    have G1 := grow_put3 (grow_put (grow_put3 (grow_below HBB.out (some p)) (w.heap.size + 1) (.bool k) (.slice av zs.length cv) (.slice au ts.length cu) (.inl (by omega))) p 0 (.int .i64 code) (.inr rfl)) (w.heap.size + 1) (.bool k) (.slice av zs.length cv) (.slice au ts.length cu) (.inl (by omega))
    have hXw := HX.out.2.2.size
    refine bodyPost_ret (results_cell_row (by rfl) _ _ (w.heap.size + 1) 24 _ (0, 0) _ (by rfl) B1 Tryz.underlying24 rfl (by kernel_rfl)) rfl ?_
    refine ⟨k, _, zs, _, ts, code, rfl, owns_base V1 hXw, owns_base U1 hXw, HTT.out, P1, G1, ?_⟩
    exact HCC.out.up hXw (by simp [World.setCell])
  · have hE' : (E == 0) = false := by simp [hE]
    rw [fstE_err e hE]
    have m0 : X.cell? ⟨w.heap.size + 1, 0, none⟩ = some (.bool false) := HX.out.2.1.cell 0
    have m1 : X.cell? ⟨w.heap.size + 1, 1, none⟩ = some (.slice none 0 0) := HX.out.2.1.cell 1
    have m2 : X.cell? ⟨w.heap.size + 1, 2, none⟩ = some (.slice none 0 0) := HX.out.2.1.cell 2
    have n0 := HX.out.2.1.free 0
    have n1 := HX.out.2.1.free 1
    have n2 := HX.out.2.1.free 2
    go_enter Tryz.func35, Tryz.ntmps35
    go_wp2_with fail
    have B1 := box_put3 HX.out.2.1 (.bool false) (.slice none 0 0) (.slice none 0 0)
    have P1 := box_far3 HP.out (show p ≠ w.heap.size + 1 by omega) (.bool false) (.slice none 0 0) (.slice none 0 0)
    have G1 := grow_put3 (grow_below HX.out.2.2 (some p)) (w.heap.size + 1) (.bool false) (.slice none 0 0) (.slice none 0 0) (.inl (by omega))
    refine bodyPost_ret (results_cell_row (by rfl) _ _ (w.heap.size + 1) 24 _ (0, 0) _ (by rfl) B1 Tryz.underlying24 rfl (by kernel_rfl)) rfl ?_
    refine ⟨false, _, [], _, [], E, rfl, World.ownsRow_nil _ _ _ _, World.ownsRow_nil _ _ _ _, RTells.err hE, P1, G1, ?_⟩
    exact ⟨w.heap.size, Nat.le_refl _, G1.size, fun g hg => by simp [Value.ownBlock] at hg, fun g hg => by simp [Value.ownBlock] at hg⟩
set_option maxHeartbeats 800000 in
theorem glook_any (p : Nat) (E : Int) (n : Bool) (a : Option Addr) (ca : Nat) (xs : List Int) (b : Option Addr) (cb : Nat) (ys : List Int) (m : Bool) (c : Option Addr) (cc : Nat) (us : List Int) (d : Option Addr) (cd : Nat) (vs : List Int) (w : World) (hp : Box w p 53 #[.int .i64 E]) (sx : Sl w (.slice a xs.length ca) xs) (sy : Sl w (.slice b ys.length cb) ys) (su : Sl w (.slice c us.length cc) us) (sv : Sl w (.slice d vs.length cd) vs) :
    Calls Tryz.prog 42 #[.pointer (some ⟨p, 0, none⟩), .agg #[.bool n, .slice a xs.length ca, .slice b ys.length cb, .bool m, .slice c us.length cc, .slice d vs.length cd]] w fun e w' => e = .returned (.tuple #[]) ∧ Box w' p 53 #[.int .i64 (fstE E (gchk n xs ys m us vs))] ∧ w.grownBy w' (some p) := by
  have HB := hid (Box.made w 26 #[.bool n, .slice a xs.length ca, .slice b ys.length cb, .bool m, .slice c us.length cc, .slice d vs.length cd])
  have HW := hid (alloc_later w (.cells #[.bool n, .slice a xs.length ca, .slice b ys.length cb, .bool m, .slice c us.length cc, .slice d vs.length cd] 26))
  obtain ⟨X, hX⟩ : ∃ X, w.alloc (.cells #[.bool n, .slice a xs.length ca, .slice b ys.length cb, .bool m, .slice c us.length cc, .slice d vs.length cd] 26) = X := ⟨_, rfl⟩
  rw [hX] at HB HW
  have HP := hid (hp.later HW.out hp.lt)
  have kp : X.cell? ⟨p, 0, none⟩ = some (.int .i64 E) := HP.out.cell 0
  have fp := HP.out.free 0
  have HC := hid (gcheck_any n _ xs _ ys m _ us _ vs X (sx.later HW.out) (sy.later HW.out) (su.later HW.out) (sv.later HW.out))
  generalize gchk n xs ys m us vs = e at *
  clear sx sy su sv hp
  by_cases hE : E = 0
  · subst hE
    rw [fstE_zero]
    have c0 : X.cell? ⟨w.heap.size, 0, none⟩ = some (.bool n) := HB.out.cell 0
    have c1 : X.cell? ⟨w.heap.size, 1, none⟩ = some (.slice a xs.length ca) := HB.out.cell 1
    have c2 : X.cell? ⟨w.heap.size, 2, none⟩ = some (.slice b ys.length cb) := HB.out.cell 2
    have c3 : X.cell? ⟨w.heap.size, 3, none⟩ = some (.bool m) := HB.out.cell 3
    have c4 : X.cell? ⟨w.heap.size, 4, none⟩ = some (.slice c us.length cc) := HB.out.cell 4
    have c5 : X.cell? ⟨w.heap.size, 5, none⟩ = some (.slice d vs.length cd) := HB.out.cell 5
    go_enter Tryz.func42, Tryz.ntmps42
    go_wp2_with fail
    refine Calls.mono HC.out ?_
    rintro x w1 ⟨rfl, hb1⟩
    have HP1 := hid (HP.out.later hb1 HP.out.lt)
    have kp1 : w1.cell? ⟨p, 0, none⟩ = some (.int .i64 0) := HP1.out.cell 0
    have fp1 := HP1.out.free 0
    have HBB := hid (bt HW.out hb1)
    clear hb1 c0 c1 c2 c3 c4 c5 kp fp HC
    go_wp2_with fail
    go_end0
    exact ⟨rfl, HP1.out.set 0 (.int .i64 e), grow_put (grow_below HBB.out (some p)) p 0 _ (.inr rfl)⟩
  · have hE' : (E == 0) = false := by simp [hE]
    rw [fstE_err e hE]
    go_enter Tryz.func42, Tryz.ntmps42
    go_wp2_with fail
    go_end0
    exact ⟨rfl, HP.out, grow_below HW.out (some p)⟩
set_option maxHeartbeats 1600000 in
theorem glookAt1_any (g : Nat) (n : Bool) (a : Option Addr) (ca : Nat) (xs : List Int) (b : Option Addr) (cb : Nat) (ys : List Int) (m : Bool) (c : Option Addr) (cc : Nat) (us : List Int) (d : Option Addr) (cd : Nat) (vs : List Int) (w : World) (hg : Box w g 26 #[.bool n, .slice a xs.length ca, .slice b ys.length cb, .bool m, .slice c us.length cc, .slice d vs.length cd]) (sx : Sl w (.slice a xs.length ca) xs) (sy : Sl w (.slice b ys.length cb) ys) (su : Sl w (.slice c us.length cc) us) (sv : Sl w (.slice d vs.length cd) vs) :
    Calls Tryz.prog 24 #[.slice (some ⟨g, 0, none⟩) 1 1] w fun e w' => ∃ p, e = .returned (.pointer (some ⟨p, 0, none⟩)) ∧ w.heap.size ≤ p ∧ Box w' p 53 #[.int .i64 (gchk n xs ys m us vs)] ∧ Below w.heap.size w w' := by
  have HS := hid (Box.made w 53 #[.int .i64 0])
  have HW := hid (alloc_later w (.cells #[.int .i64 0] 53))
  have HL : Hid (∀ (V : World) (E : Int), Below w.heap.size w V → Box V w.heap.size 53 #[.int .i64 E] → Calls Tryz.prog 42 #[.pointer (some ⟨w.heap.size, 0, none⟩), .agg #[.bool n, .slice a xs.length ca, .slice b ys.length cb, .bool m, .slice c us.length cc, .slice d vs.length cd]] V fun e w' => e = .returned (.tuple #[]) ∧ Box w' w.heap.size 53 #[.int .i64 (fstE E (gchk n xs ys m us vs))] ∧ V.grownBy w' (some w.heap.size)) := fun V E hv hb => glook_any w.heap.size E n a ca xs b cb ys m c cc us d cd vs V hb (sx.later hv) (sy.later hv) (su.later hv) (sv.later hv)
  generalize gchk n xs ys m us vs = E1 at *
  have HG := hid hg
  have hgl : g < w.heap.size := hg.lt
  clear hg sx sy su sv
  go_enter Tryz.func24, Tryz.ntmps24
  go_wp2_with fail
  generalize w.alloc (.cells #[.int .i64 0] 53) = X at *
  refine wp_loop_rounds 2 ?_
  rw [rounds_succ]
  have k0 : X.cell? ⟨g, 0, none⟩ = some (.bool n) := (HG.out.later (HW.out) hgl).cell 0
  have k1 : X.cell? ⟨g, 1, none⟩ = some (.slice a xs.length ca) := (HG.out.later (HW.out) hgl).cell 1
  have k2 : X.cell? ⟨g, 2, none⟩ = some (.slice b ys.length cb) := (HG.out.later (HW.out) hgl).cell 2
  have k3 : X.cell? ⟨g, 3, none⟩ = some (.bool m) := (HG.out.later (HW.out) hgl).cell 3
  have k4 : X.cell? ⟨g, 4, none⟩ = some (.slice c us.length cc) := (HG.out.later (HW.out) hgl).cell 4
  have k5 : X.cell? ⟨g, 5, none⟩ = some (.slice d vs.length cd) := (HG.out.later (HW.out) hgl).cell 5
  have HA0 := hid (alloc_later X (.cells #[.bool n, .slice a xs.length ca, .slice b ys.length cb, .bool m, .slice c us.length cc, .slice d vs.length cd] 26))
  go_wp2_with fail
  generalize X.alloc (.cells #[.bool n, .slice a xs.length ca, .slice b ys.length cb, .bool m, .slice c us.length cc, .slice d vs.length cd] 26) = Y0 at *
  refine Calls.mono (HL.out Y0 0 (bt (HW.out) HA0.out) ((HS.out).later HA0.out (HS.out).lt)) ?_
  rintro e z0 ⟨rfl, hz0, hgz0⟩
  have HZ0 := hid hz0
  have HB0 : Hid (Below w.heap.size w z0) := (bt (HW.out) HA0.out).grown hgz0 (bt (HW.out) HA0.out).size (fun q hq => by have e := Option.some.inj hq; omega)
  clear hz0 hgz0 k0 k1 k2 k3 k4 k5
  go_wp2_with fail
  rw [rounds_succ]
  go_wp2_with fail
  go_ret
  refine ⟨_, rfl, Nat.le_refl _, ?_, HB0.out⟩
  have e := HZ0.out
  rw [fstE_zero] at e
  exact e
set_option maxHeartbeats 1600000 in
theorem glookAt2_any (g : Nat) (n : Bool) (a : Option Addr) (ca : Nat) (xs : List Int) (b : Option Addr) (cb : Nat) (ys : List Int) (m : Bool) (c : Option Addr) (cc : Nat) (us : List Int) (d : Option Addr) (cd : Nat) (vs : List Int) (n2 : Bool) (a2 : Option Addr) (ca2 : Nat) (xs2 : List Int) (b2' : Option Addr) (cb2 : Nat) (ys2 : List Int) (m2 : Bool) (c2 : Option Addr) (cc2 : Nat) (us2 : List Int) (d2 : Option Addr) (cd2 : Nat) (vs2 : List Int) (w : World) (hg : Box w g 26 #[.bool n, .slice a xs.length ca, .slice b ys.length cb, .bool m, .slice c us.length cc, .slice d vs.length cd, .bool n2, .slice a2 xs2.length ca2, .slice b2' ys2.length cb2, .bool m2, .slice c2 us2.length cc2, .slice d2 vs2.length cd2]) (sx : Sl w (.slice a xs.length ca) xs) (sy : Sl w (.slice b ys.length cb) ys) (su : Sl w (.slice c us.length cc) us) (sv : Sl w (.slice d vs.length cd) vs) (sx2 : Sl w (.slice a2 xs2.length ca2) xs2) (sy2 : Sl w (.slice b2' ys2.length cb2) ys2) (su2 : Sl w (.slice c2 us2.length cc2) us2) (sv2 : Sl w (.slice d2 vs2.length cd2) vs2) :
    Calls Tryz.prog 24 #[.slice (some ⟨g, 0, none⟩) 2 2] w fun e w' => ∃ p, e = .returned (.pointer (some ⟨p, 0, none⟩)) ∧ w.heap.size ≤ p ∧ Box w' p 53 #[.int .i64 (fstE (gchk n xs ys m us vs) (gchk n2 xs2 ys2 m2 us2 vs2))] ∧ Below w.heap.size w w' := by
  have HS := hid (Box.made w 53 #[.int .i64 0])
  have HW := hid (alloc_later w (.cells #[.int .i64 0] 53))
  have HL : Hid (∀ (V : World) (E : Int), Below w.heap.size w V → Box V w.heap.size 53 #[.int .i64 E] → Calls Tryz.prog 42 #[.pointer (some ⟨w.heap.size, 0, none⟩), .agg #[.bool n, .slice a xs.length ca, .slice b ys.length cb, .bool m, .slice c us.length cc, .slice d vs.length cd]] V fun e w' => e = .returned (.tuple #[]) ∧ Box w' w.heap.size 53 #[.int .i64 (fstE E (gchk n xs ys m us vs))] ∧ V.grownBy w' (some w.heap.size)) := fun V E hv hb => glook_any w.heap.size E n a ca xs b cb ys m c cc us d cd vs V hb (sx.later hv) (sy.later hv) (su.later hv) (sv.later hv)
  have HL2 : Hid (∀ (V : World) (E : Int), Below w.heap.size w V → Box V w.heap.size 53 #[.int .i64 E] → Calls Tryz.prog 42 #[.pointer (some ⟨w.heap.size, 0, none⟩), .agg #[.bool n2, .slice a2 xs2.length ca2, .slice b2' ys2.length cb2, .bool m2, .slice c2 us2.length cc2, .slice d2 vs2.length cd2]] V fun e w' => e = .returned (.tuple #[]) ∧ Box w' w.heap.size 53 #[.int .i64 (fstE E (gchk n2 xs2 ys2 m2 us2 vs2))] ∧ V.grownBy w' (some w.heap.size)) := fun V E hv hb => glook_any w.heap.size E n2 a2 ca2 xs2 b2' cb2 ys2 m2 c2 cc2 us2 d2 cd2 vs2 V hb (sx2.later hv) (sy2.later hv) (su2.later hv) (sv2.later hv)
  generalize gchk n xs ys m us vs = E1 at *
  generalize gchk n2 xs2 ys2 m2 us2 vs2 = E2 at *
  have HG := hid hg
  have hgl : g < w.heap.size := hg.lt
  clear hg sx sy su sv sx2 sy2 su2 sv2
  go_enter Tryz.func24, Tryz.ntmps24
  go_wp2_with fail
  generalize w.alloc (.cells #[.int .i64 0] 53) = X at *
  refine wp_loop_rounds 3 ?_
  rw [rounds_succ]
  have k0 : X.cell? ⟨g, 0, none⟩ = some (.bool n) := (HG.out.later (HW.out) hgl).cell 0
  have k1 : X.cell? ⟨g, 1, none⟩ = some (.slice a xs.length ca) := (HG.out.later (HW.out) hgl).cell 1
  have k2 : X.cell? ⟨g, 2, none⟩ = some (.slice b ys.length cb) := (HG.out.later (HW.out) hgl).cell 2
  have k3 : X.cell? ⟨g, 3, none⟩ = some (.bool m) := (HG.out.later (HW.out) hgl).cell 3
  have k4 : X.cell? ⟨g, 4, none⟩ = some (.slice c us.length cc) := (HG.out.later (HW.out) hgl).cell 4
  have k5 : X.cell? ⟨g, 5, none⟩ = some (.slice d vs.length cd) := (HG.out.later (HW.out) hgl).cell 5
  have HA0 := hid (alloc_later X (.cells #[.bool n, .slice a xs.length ca, .slice b ys.length cb, .bool m, .slice c us.length cc, .slice d vs.length cd] 26))
  go_wp2_with fail
  generalize X.alloc (.cells #[.bool n, .slice a xs.length ca, .slice b ys.length cb, .bool m, .slice c us.length cc, .slice d vs.length cd] 26) = Y0 at *
  refine Calls.mono (HL.out Y0 0 (bt (HW.out) HA0.out) ((HS.out).later HA0.out (HS.out).lt)) ?_
  rintro e z0 ⟨rfl, hz0, hgz0⟩
  have HZ0 := hid hz0
  have HB0 : Hid (Below w.heap.size w z0) := (bt (HW.out) HA0.out).grown hgz0 (bt (HW.out) HA0.out).size (fun q hq => by have e := Option.some.inj hq; omega)
  clear hz0 hgz0 k0 k1 k2 k3 k4 k5
  go_wp2_with fail
  rw [rounds_succ]
  have k0 : z0.cell? ⟨g, 6, none⟩ = some (.bool n2) := (HG.out.later (HB0.out) hgl).cell 6
  have k1 : z0.cell? ⟨g, 7, none⟩ = some (.slice a2 xs2.length ca2) := (HG.out.later (HB0.out) hgl).cell 7
  have k2 : z0.cell? ⟨g, 8, none⟩ = some (.slice b2' ys2.length cb2) := (HG.out.later (HB0.out) hgl).cell 8
  have k3 : z0.cell? ⟨g, 9, none⟩ = some (.bool m2) := (HG.out.later (HB0.out) hgl).cell 9
  have k4 : z0.cell? ⟨g, 10, none⟩ = some (.slice c2 us2.length cc2) := (HG.out.later (HB0.out) hgl).cell 10
  have k5 : z0.cell? ⟨g, 11, none⟩ = some (.slice d2 vs2.length cd2) := (HG.out.later (HB0.out) hgl).cell 11
  have HA1 := hid (alloc_later z0 (.cells #[.bool n2, .slice a2 xs2.length ca2, .slice b2' ys2.length cb2, .bool m2, .slice c2 us2.length cc2, .slice d2 vs2.length cd2] 26))
  go_wp2_with fail
  generalize z0.alloc (.cells #[.bool n2, .slice a2 xs2.length ca2, .slice b2' ys2.length cb2, .bool m2, .slice c2 us2.length cc2, .slice d2 vs2.length cd2] 26) = Y1 at *
  refine Calls.mono (HL2.out Y1 (fstE 0 E1) (bt (HB0.out) HA1.out) ((HZ0.out).later HA1.out (HZ0.out).lt)) ?_
  rintro e z1 ⟨rfl, hz1, hgz1⟩
  have HZ1 := hid hz1
  have HB1 : Hid (Below w.heap.size w z1) := (bt (HB0.out) HA1.out).grown hgz1 (bt (HB0.out) HA1.out).size (fun q hq => by have e := Option.some.inj hq; omega)
  clear hz1 hgz1 k0 k1 k2 k3 k4 k5
  go_wp2_with fail
  rw [rounds_succ]
  go_wp2_with fail
  go_ret
  refine ⟨_, rfl, Nat.le_refl _, ?_, HB1.out⟩
  have e := HZ1.out
  rw [fstE_zero] at e
  exact e
theorem box_put6 {U : World} {b t : Nat} {u0 u1 u2 u3 u4 u5 : Value} (h : Box U b t #[u0, u1, u2, u3, u4, u5]) (v0 v1 v2 v3 v4 v5 : Value) : Box ((((((U.setCell ⟨b, 0, none⟩ v0).setCell ⟨b, 1, none⟩ v1).setCell ⟨b, 2, none⟩ v2).setCell ⟨b, 3, none⟩ v3).setCell ⟨b, 4, none⟩ v4).setCell ⟨b, 5, none⟩ v5) b t #[v0, v1, v2, v3, v4, v5] := (((((h.set 0 v0).set 1 v1).set 2 v2).set 3 v3).set 4 v4).set 5 v5
theorem below_put6 {B : Nat} {x U : World} (h : Below B x U) (b : Nat) (hb : B ≤ b) (v0 v1 v2 v3 v4 v5 : Value) : Below B x ((((((U.setCell ⟨b, 0, none⟩ v0).setCell ⟨b, 1, none⟩ v1).setCell ⟨b, 2, none⟩ v2).setCell ⟨b, 3, none⟩ v3).setCell ⟨b, 4, none⟩ v4).setCell ⟨b, 5, none⟩ v5) :=
  (((((h.setCell (p := ⟨b, 0, none⟩) hb _).setCell (p := ⟨b, 1, none⟩) hb _).setCell (p := ⟨b, 2, none⟩) hb _).setCell (p := ⟨b, 3, none⟩) hb _).setCell (p := ⟨b, 4, none⟩) hb _).setCell (p := ⟨b, 5, none⟩) hb _
theorem told_run {W : World} {b : Nat} {cs : Array Value} (hb : Box W b 26 cs) (tmps : Array Value) (h4 : tmps.getD 4 undef = .pointer (some ⟨b, 0, none⟩)) (hi : (Tryz.prog.info? 26).map (·.size) = some cs.size := by kernel_rfl) : (results Tryz.f26 tmps).run Tryz.prog W = .ok (.tuple #[.agg cs, tmps.getD 5 undef]) W := by
  have h := run_loadVar_row (P := Tryz.prog) W b 26 26 cs (0, 0) _ hb Tryz.underlying26 rfl hi
  rw [results_cell_tmp (by rfl), h4]
  simp [asAddr, h]
set_option maxHeartbeats 800000 in
theorem gtold_any (p : Nat) (E : Int) (n : Bool) (a : Option Addr) (ka ca : Nat) (b : Option Addr) (kb cb : Nat) (m : Bool) (c : Option Addr) (kc cc : Nat) (d : Option Addr) (kd cd : Nat) (w : World) (hp : Box w p 53 #[.int .i64 E]) :
    Calls Tryz.prog 26 #[.pointer (some ⟨p, 0, none⟩), .agg #[.bool n, .slice a ka ca, .slice b kb cb, .bool m, .slice c kc cc, .slice d kd cd]] w fun e w' => e = .returned (.tuple #[.agg (if E = 0 then #[.bool n, .slice a ka ca, .slice b kb cb, .bool m, .slice c kc cc, .slice d kd cd] else #[.bool false, .slice none 0 0, .slice none 0 0, .bool false, .slice none 0 0, .slice none 0 0]), .int .i64 E]) ∧ Below w.heap.size w w' := by
  have HX := hid (boxes2r w 26 #[.bool n, .slice a ka ca, .slice b kb cb, .bool m, .slice c kc cc, .slice d kd cd] #[.bool false, .slice none 0 0, .slice none 0 0, .bool false, .slice none 0 0, .slice none 0 0])
  obtain ⟨X, hX⟩ : ∃ X, (w.alloc (.cells #[.bool n, .slice a ka ca, .slice b kb cb, .bool m, .slice c kc cc, .slice d kd cd] 26)).alloc (.cells #[.bool false, .slice none 0 0, .slice none 0 0, .bool false, .slice none 0 0, .slice none 0 0] 26) = X := ⟨_, rfl⟩
  rw [hX] at HX
  have HP := hid (hp.later HX.out.2.2 hp.lt)
  have kp : X.cell? ⟨p, 0, none⟩ = some (.int .i64 E) := HP.out.cell 0
  have m0 : X.cell? ⟨w.heap.size + 1, 0, none⟩ = some (.bool false) := HX.out.2.1.cell 0
  have m1 : X.cell? ⟨w.heap.size + 1, 1, none⟩ = some (.slice none 0 0) := HX.out.2.1.cell 1
  have m2 : X.cell? ⟨w.heap.size + 1, 2, none⟩ = some (.slice none 0 0) := HX.out.2.1.cell 2
  have m3 : X.cell? ⟨w.heap.size + 1, 3, none⟩ = some (.bool false) := HX.out.2.1.cell 3
  have m4 : X.cell? ⟨w.heap.size + 1, 4, none⟩ = some (.slice none 0 0) := HX.out.2.1.cell 4
  have m5 : X.cell? ⟨w.heap.size + 1, 5, none⟩ = some (.slice none 0 0) := HX.out.2.1.cell 5
  have n0 := HX.out.2.1.free 0
  have n1 := HX.out.2.1.free 1
  have n2 := HX.out.2.1.free 2
  have n3 := HX.out.2.1.free 3
  have n4 := HX.out.2.1.free 4
  have n5 := HX.out.2.1.free 5
  have hpw : p < w.heap.size := hp.lt
  clear hp
  by_cases hE : E = 0
  · subst hE
    rw [if_pos rfl]
    have c0 : X.cell? ⟨w.heap.size, 0, none⟩ = some (.bool n) := HX.out.1.cell 0
    have c1 : X.cell? ⟨w.heap.size, 1, none⟩ = some (.slice a ka ca) := HX.out.1.cell 1
    have c2 : X.cell? ⟨w.heap.size, 2, none⟩ = some (.slice b kb cb) := HX.out.1.cell 2
    have c3 : X.cell? ⟨w.heap.size, 3, none⟩ = some (.bool m) := HX.out.1.cell 3
    have c4 : X.cell? ⟨w.heap.size, 4, none⟩ = some (.slice c kc cc) := HX.out.1.cell 4
    have c5 : X.cell? ⟨w.heap.size, 5, none⟩ = some (.slice d kd cd) := HX.out.1.cell 5
    go_enter Tryz.func26, Tryz.ntmps26
    go_wp2_with fail
    have B1 := box_put6 HX.out.2.1 (.bool n) (.slice a ka ca) (.slice b kb cb) (.bool m) (.slice c kc cc) (.slice d kd cd)
    have G1 := below_put6 HX.out.2.2 (w.heap.size + 1) (by omega) (.bool n) (.slice a ka ca) (.slice b kb cb) (.bool m) (.slice c kc cc) (.slice d kd cd)
    clear m0 m1 m2 m3 m4 m5 n0 n1 n2 n3 n4 n5 c0 c1 c2 c3 c4 c5 kp
    generalize (((((X.setCell ⟨w.heap.size + 1, 0, none⟩ (.bool n)).setCell ⟨w.heap.size + 1, 1, none⟩ (.slice a ka ca)).setCell ⟨w.heap.size + 1, 2, none⟩ (.slice b kb cb)).setCell ⟨w.heap.size + 1, 3, none⟩ (.bool m)).setCell ⟨w.heap.size + 1, 4, none⟩ (.slice c kc cc)).setCell ⟨w.heap.size + 1, 5, none⟩ (.slice d kd cd) = W at *
    exact bodyPost_ret (told_run B1 _ rfl) rfl ⟨rfl, G1⟩
  · have hE' : (E == 0) = false := by simp [hE]
    rw [if_neg hE]
    have hne : p ≠ w.heap.size + 1 := by omega
    go_enter Tryz.func26, Tryz.ntmps26
    go_wp2_with fail
    go_region
    all_goals
      go_wp2_with fail
      have B1 := box_put6 HX.out.2.1 (.bool false) (.slice none 0 0) (.slice none 0 0) (.bool false) (.slice none 0 0) (.slice none 0 0)
      have G1 := below_put6 HX.out.2.2 (w.heap.size + 1) (by omega) (.bool false) (.slice none 0 0) (.slice none 0 0) (.bool false) (.slice none 0 0) (.slice none 0 0)
      clear m0 m1 m2 m3 m4 m5 n0 n1 n2 n3 n4 n5 kp
      generalize (((((X.setCell ⟨w.heap.size + 1, 0, none⟩ (.bool false)).setCell ⟨w.heap.size + 1, 1, none⟩ (.slice none 0 0)).setCell ⟨w.heap.size + 1, 2, none⟩ (.slice none 0 0)).setCell ⟨w.heap.size + 1, 3, none⟩ (.bool false)).setCell ⟨w.heap.size + 1, 4, none⟩ (.slice none 0 0)).setCell ⟨w.heap.size + 1, 5, none⟩ (.slice none 0 0) = W at *
      have B2 : Box W.drew (w.heap.size + 1) 26 #[.bool false, .slice none 0 0, .slice none 0 0, .bool false, .slice none 0 0, .slice none 0 0] := B1
      exact bodyPost_ret (told_run B2 _ rfl) rfl ⟨rfl, G1.drew⟩
structure GTells (E : Int) (L : Prop) (q1 q2 : Rat) (n : Bool) (xs ys : List Int) (m : Bool) (us vs : List Int) (code : Int) : Prop where
  wd : Wd xs ∧ Wd ys ∧ Wd us ∧ Wd vs
  bad : E ≠ 0 → (n = false ∧ xs = [] ∧ ys = [] ∧ m = false ∧ us = [] ∧ vs = []) ∧ code = E
  long : E = 0 → L → (n = false ∧ xs = [] ∧ ys = [] ∧ m = false ∧ us = [] ∧ vs = []) ∧ code = 3
  good : E = 0 → ¬ L → code = 0 ∧ (rchk n xs ys = 0 ∧ rq n xs ys = q1) ∧ rchk m us vs = 0 ∧ rq m us vs = q2
def GTold (w : World) (E : Int) (L : Prop) (q1 q2 : Rat) (x : Ending) (w' : World) : Prop :=
  ∃ n a ca xs b cb ys m c cc us d cd vs code, x = .returned (.tuple #[.agg #[.bool n, .slice a (List.length xs) ca, .slice b (List.length ys) cb, .bool m, .slice c (List.length us) cc, .slice d (List.length vs) cd], .int .i64 code]) ∧ (w'.ownsRow w.heap.size 63 1 (.slice a xs.length ca) xs.length (xs.map (Value.int .u32)) ∧ w'.ownsRow w.heap.size 63 1 (.slice b ys.length cb) ys.length (ys.map (Value.int .u32)) ∧ w'.ownsRow w.heap.size 63 1 (.slice c us.length cc) us.length (us.map (Value.int .u32)) ∧ w'.ownsRow w.heap.size 63 1 (.slice d vs.length cd) vs.length (vs.map (Value.int .u32))) ∧ GTells E L q1 q2 n xs ys m us vs code ∧ Below w.heap.size w w'
theorem gchk_ok {n m : Bool} {xs ys us vs : List Int} (h : gchk n xs ys m us vs = 0) : rchk n xs ys = 0 ∧ rchk m us vs = 0 := by
  unfold gchk fstE at h
  by_cases e : rchk n xs ys = 0
  · rw [if_pos e] at h; exact ⟨e, h⟩
  · rw [if_neg e] at h; exact absurd h e
theorem fstE_ok {E e : Int} (h : fstE E e = 0) : E = 0 ∧ e = 0 := by
  unfold fstE at h
  by_cases c : E = 0
  · rw [if_pos c] at h; exact ⟨c, h⟩
  · rw [if_neg c] at h; exact absurd h c
theorem own_put6 {w : World} {base e n : Nat} {v : Value} {xs : List Value} (h : w.ownsRow base e 1 v n xs) (b : Nat) (hb : ∀ g, v.ownBlock = some g → g ≠ b) (u0 u1 u2 u3 u4 u5 : Value) : ((((((w.setCell ⟨b, 0, none⟩ u0).setCell ⟨b, 1, none⟩ u1).setCell ⟨b, 2, none⟩ u2).setCell ⟨b, 3, none⟩ u3).setCell ⟨b, 4, none⟩ u4).setCell ⟨b, 5, none⟩ u5).ownsRow base e 1 v n xs :=
  own_put1 (own_put1 (own_put1 (own_put3' h b hb u0 u1 u2) b hb 3 u3) b hb 4 u4) b hb 5 u5
theorem gres_run {fn : Func} {W : World} {b q u : Nat} {cs : Array Value} (hr : fn.results = #[.cell q 26, .tmp u]) (hb : Box W b 26 cs) (tmps : Array Value) (h4 : tmps.getD q undef = .pointer (some ⟨b, 0, none⟩)) (hi : (Tryz.prog.info? 26).map (·.size) = some cs.size := by kernel_rfl) : (results fn tmps).run Tryz.prog W = .ok (.tuple #[.agg cs, tmps.getD u undef]) W := by
  have h := run_loadVar_row (P := Tryz.prog) W b 26 26 cs (0, 0) _ hb Tryz.underlying26 rfl hi
  rw [results_cell_tmp hr, h4]
  simp [asAddr, h]
theorem gtwo {E e1 e2 : Int} {q1 q2 : Rat} {n m : Bool} {xs ys us vs : List Int} {c1 c2 : Int} (h1 : RTells (fstE E e1) q1 n xs ys c1) (h2 : RTells (fstE c1 e2) q2 m us vs c2) (z1 : E = 0 → e1 = 0) (z2 : E = 0 → e2 = 0) :
    (c2 = 0 → GTells E (rlong q1 ∨ rlong q2) q1 q2 n xs ys m us vs c2) ∧ (c2 ≠ 0 → GTells E (rlong q1 ∨ rlong q2) q1 q2 false [] [] false [] [] c2) := by
  have w4 : Wd [] := Wd.nil
  by_cases hE : E = 0
  · subst hE
    rw [fstE_zero, z1 rfl] at h1
    rw [z2 rfl] at h2
    by_cases l1 : rlong q1
    · obtain ⟨_, _, _, hc⟩ := h1.long rfl l1
      subst hc
      rw [fstE_err 0 (by decide)] at h2
      obtain ⟨_, _, _, hc2⟩ := h2.bad (by decide)
      subst hc2
      exact ⟨fun h => absurd h (by decide), fun _ => ⟨⟨w4, w4, w4, w4⟩, fun h => absurd rfl h, fun _ _ => ⟨⟨rfl, rfl, rfl, rfl, rfl, rfl⟩, rfl⟩, fun _ h => absurd (.inl l1) h⟩⟩
    · obtain ⟨hc, hk1, hv1⟩ := h1.good rfl l1
      subst hc
      rw [fstE_zero] at h2
      by_cases l2 : rlong q2
      · obtain ⟨_, _, _, hc2⟩ := h2.long rfl l2
        subst hc2
        exact ⟨fun h => absurd h (by decide), fun _ => ⟨⟨w4, w4, w4, w4⟩, fun h => absurd rfl h, fun _ _ => ⟨⟨rfl, rfl, rfl, rfl, rfl, rfl⟩, rfl⟩, fun _ h => absurd (.inr l2) h⟩⟩
      · obtain ⟨hc2, hk2, hv2⟩ := h2.good rfl l2
        subst hc2
        exact ⟨fun _ => ⟨⟨h1.wx, h1.wy, h2.wx, h2.wy⟩, fun h => absurd rfl h, fun _ h => absurd h (by rintro (h | h); exact l1 h; exact l2 h), fun _ _ => ⟨rfl, ⟨hk1, hv1⟩, hk2, hv2⟩⟩, fun h => absurd rfl h⟩
  · rw [fstE_err _ hE] at h1
    obtain ⟨_, _, _, hc⟩ := h1.bad hE
    subst hc
    rw [fstE_err _ hE] at h2
    obtain ⟨_, _, _, hc2⟩ := h2.bad hE
    subst hc2
    exact ⟨fun h => absurd h hE, fun _ => ⟨⟨w4, w4, w4, w4⟩, fun _ => ⟨⟨rfl, rfl, rfl, rfl, rfl, rfl⟩, rfl⟩, fun h => absurd h hE, fun h => absurd h hE⟩⟩
theorem rboth0 {n m : Bool} {xs ys us vs : List Int} (h : rchk n xs ys = 0) (g : rchk m us vs = 0) : rboth n xs ys m us vs = 0 := rboth_good h g
set_option maxHeartbeats 1600000 in
theorem gisNought_any (n : Bool) (a : Option Addr) (la ca : Nat) (b : Option Addr) (lb cb : Nat) (m : Bool) (c : Option Addr) (lc cc : Nat) (d : Option Addr) (ld cd : Nat) (w : World) :
    Calls Tryz.prog 33 #[.agg #[.bool n, .slice a la ca, .slice b lb cb, .bool m, .slice c lc cc, .slice d ld cd]] w fun x w' => x = .returned (.bool (la == 0 && lc == 0)) ∧ Below w.heap.size w w' := by
  have HX := hid (Box.made w 26 #[.bool n, .slice a la ca, .slice b lb cb, .bool m, .slice c lc cc, .slice d ld cd])
  have HB := hid (alloc_later w (.cells #[.bool n, .slice a la ca, .slice b lb cb, .bool m, .slice c lc cc, .slice d ld cd] 26))
  obtain ⟨X, hX⟩ : ∃ X, w.alloc (.cells #[.bool n, .slice a la ca, .slice b lb cb, .bool m, .slice c lc cc, .slice d ld cd] 26) = X := ⟨_, rfl⟩
  rw [hX] at HX HB
  have c1 : X.cell? ⟨w.heap.size, 1, none⟩ = some (.slice a la ca) := HX.out.cell 1
  have c4 : X.cell? ⟨w.heap.size, 4, none⟩ = some (.slice c lc cc) := HX.out.cell 4
  by_cases h1 : la = 0
  · subst h1
    by_cases h2 : lc = 0
    · subst h2
      go_enter Tryz.func33, Tryz.ntmps33
      go_wp2_with fail
      go_ret
      exact ⟨rfl, HB.out⟩
    · have e2 : ((lc : Int) == 0) = false := by simp; omega
      have e3 : (lc == 0) = false := by simp [h2]
      go_enter Tryz.func33, Tryz.ntmps33
      go_wp2_with fail
      go_ret
      rw [e3]
      exact ⟨rfl, HB.out⟩
  · have e1 : ((la : Int) == 0) = false := by simp; omega
    have e3 : (la == 0) = false := by simp [h1]
    go_enter Tryz.func33, Tryz.ntmps33
    go_wp2_with fail
    go_ret
    rw [e3]
    exact ⟨rfl, HB.out⟩
set_option linter.unusedSimpArgs false
theorem rchain3 {W : World} {b t : Nat} {u0 u1 u2 : Value} (h : Box W b t #[u0, u1, u2]) (ht : 63 ≠ t) (v0 v1 v2 : Value) : ∃ A0 A1 A2, W.setCell ⟨b, 0, none⟩ v0 = A0 ∧ A0.setCell ⟨b, 1, none⟩ v1 = A1 ∧ A1.setCell ⟨b, 2, none⟩ v2 = A2 ∧ (W.cell? ⟨b, 0, none⟩ = some u0 ∧ A0.cell? ⟨b, 1, none⟩ = some u1 ∧ A1.cell? ⟨b, 2, none⟩ = some u2) ∧ (W.frozen? ⟨b, 0, none⟩ = false ∧ A0.frozen? ⟨b, 1, none⟩ = false ∧ A1.frozen? ⟨b, 2, none⟩ = false) ∧
    Hid (Box A2 b t #[v0, v1, v2] ∧ (∀ p t' vs, p ≠ b → Box W p t' vs → Box A2 p t' vs) ∧ (∀ base v n xs, W.ownsRow base 63 1 v n xs → A2.ownsRow base 63 1 v n xs) ∧ (∀ B x, B ≤ b → Below B x W → Below B x A2) ∧ A2.heap.size = W.heap.size) := by
  have h0 : Box _ b t #[v0, u1, u2] := h.set 0 v0
  have h1 : Box _ b t #[v0, v1, u2] := h0.set 1 v1
  have h2 : Box _ b t #[v0, v1, v2] := h1.set 2 v2
  exact ⟨_, _, _, rfl, rfl, rfl, ⟨h.cell 0, h0.cell 1, h1.cell 2⟩, ⟨h.free 0, h0.free 1, h1.free 2⟩, h2, fun p t' vs hne g => (((g.other ⟨b, 0, none⟩ v0 hne).other ⟨b, 1, none⟩ v1 hne).other ⟨b, 2, none⟩ v2 hne), fun base v n xs g => (by have kk := own_ne_box g h ht; exact (kown_put1 (kown_put1 (kown_put1 g kk 0 v0) kk 1 v1) kk 2 v2)), fun B x hB g => (((g.setCell (p := ⟨b, 0, none⟩) hB v0).setCell (p := ⟨b, 1, none⟩) hB v1).setCell (p := ⟨b, 2, none⟩) hB v2), by simp [World.setCell]⟩
theorem rchain6 {W : World} {b t : Nat} {u0 u1 u2 u3 u4 u5 : Value} (h : Box W b t #[u0, u1, u2, u3, u4, u5]) (ht : 63 ≠ t) (v0 v1 v2 v3 v4 v5 : Value) : ∃ A0 A1 A2 A3 A4 A5, W.setCell ⟨b, 0, none⟩ v0 = A0 ∧ A0.setCell ⟨b, 1, none⟩ v1 = A1 ∧ A1.setCell ⟨b, 2, none⟩ v2 = A2 ∧ A2.setCell ⟨b, 3, none⟩ v3 = A3 ∧ A3.setCell ⟨b, 4, none⟩ v4 = A4 ∧ A4.setCell ⟨b, 5, none⟩ v5 = A5 ∧ (W.cell? ⟨b, 0, none⟩ = some u0 ∧ A0.cell? ⟨b, 1, none⟩ = some u1 ∧ A1.cell? ⟨b, 2, none⟩ = some u2 ∧ A2.cell? ⟨b, 3, none⟩ = some u3 ∧ A3.cell? ⟨b, 4, none⟩ = some u4 ∧ A4.cell? ⟨b, 5, none⟩ = some u5) ∧ (W.frozen? ⟨b, 0, none⟩ = false ∧ A0.frozen? ⟨b, 1, none⟩ = false ∧ A1.frozen? ⟨b, 2, none⟩ = false ∧ A2.frozen? ⟨b, 3, none⟩ = false ∧ A3.frozen? ⟨b, 4, none⟩ = false ∧ A4.frozen? ⟨b, 5, none⟩ = false) ∧
    Hid (Box A5 b t #[v0, v1, v2, v3, v4, v5] ∧ (∀ p t' vs, p ≠ b → Box W p t' vs → Box A5 p t' vs) ∧ (∀ base v n xs, W.ownsRow base 63 1 v n xs → A5.ownsRow base 63 1 v n xs) ∧ (∀ B x, B ≤ b → Below B x W → Below B x A5) ∧ A5.heap.size = W.heap.size) := by
  have h0 : Box _ b t #[v0, u1, u2, u3, u4, u5] := h.set 0 v0
  have h1 : Box _ b t #[v0, v1, u2, u3, u4, u5] := h0.set 1 v1
  have h2 : Box _ b t #[v0, v1, v2, u3, u4, u5] := h1.set 2 v2
  have h3 : Box _ b t #[v0, v1, v2, v3, u4, u5] := h2.set 3 v3
  have h4 : Box _ b t #[v0, v1, v2, v3, v4, u5] := h3.set 4 v4
  have h5 : Box _ b t #[v0, v1, v2, v3, v4, v5] := h4.set 5 v5
  exact ⟨_, _, _, _, _, _, rfl, rfl, rfl, rfl, rfl, rfl, ⟨h.cell 0, h0.cell 1, h1.cell 2, h2.cell 3, h3.cell 4, h4.cell 5⟩, ⟨h.free 0, h0.free 1, h1.free 2, h2.free 3, h3.free 4, h4.free 5⟩, h5, fun p t' vs hne g => ((((((g.other ⟨b, 0, none⟩ v0 hne).other ⟨b, 1, none⟩ v1 hne).other ⟨b, 2, none⟩ v2 hne).other ⟨b, 3, none⟩ v3 hne).other ⟨b, 4, none⟩ v4 hne).other ⟨b, 5, none⟩ v5 hne), fun base v n xs g => (by have kk := own_ne_box g h ht; exact (kown_put1 (kown_put1 (kown_put1 (kown_put1 (kown_put1 (kown_put1 g kk 0 v0) kk 1 v1) kk 2 v2) kk 3 v3) kk 4 v4) kk 5 v5)), fun B x hB g => ((((((g.setCell (p := ⟨b, 0, none⟩) hB v0).setCell (p := ⟨b, 1, none⟩) hB v1).setCell (p := ⟨b, 2, none⟩) hB v2).setCell (p := ⟨b, 3, none⟩) hB v3).setCell (p := ⟨b, 4, none⟩) hB v4).setCell (p := ⟨b, 5, none⟩) hB v5), by simp [World.setCell]⟩
structure G6 where
  n : Bool
  a : Option Addr
  ca : Nat
  xs : List Int
  b : Option Addr
  cb : Nat
  ys : List Int
  m : Bool
  c : Option Addr
  cc : Nat
  us : List Int
  d : Option Addr
  cd : Nat
  vs : List Int
def G6.Ow (g : G6) (V : World) (base : Nat) : Prop := V.ownsRow base 63 1 (.slice g.a g.xs.length g.ca) g.xs.length (g.xs.map (Value.int .u32)) ∧ V.ownsRow base 63 1 (.slice g.b g.ys.length g.cb) g.ys.length (g.ys.map (Value.int .u32)) ∧ V.ownsRow base 63 1 (.slice g.c g.us.length g.cc) g.us.length (g.us.map (Value.int .u32)) ∧ V.ownsRow base 63 1 (.slice g.d g.vs.length g.cd) g.vs.length (g.vs.map (Value.int .u32))
def G6.Sl4 (g : G6) (V : World) : Prop := Sl V (.slice g.a g.xs.length g.ca) g.xs ∧ Sl V (.slice g.b g.ys.length g.cb) g.ys ∧ Sl V (.slice g.c g.us.length g.cc) g.us ∧ Sl V (.slice g.d g.vs.length g.cd) g.vs
theorem G6.Ow.later {g : G6} {V V' : World} {base : Nat} (h : g.Ow V base) (hb : Below V.heap.size V V') : g.Ow V' base := ⟨owns_later h.1 hb, owns_later h.2.1 hb, owns_later h.2.2.1 hb, owns_later h.2.2.2 hb⟩
theorem G6.Ow.base {g : G6} {V : World} {base base' : Nat} (h : g.Ow V base) (hb : base' ≤ base) : g.Ow V base' := ⟨owns_base h.1 hb, owns_base h.2.1 hb, owns_base h.2.2.1 hb, owns_base h.2.2.2 hb⟩
theorem G6.Sl4.later {g : G6} {V V' : World} (h : g.Sl4 V) (hb : Below V.heap.size V V') : g.Sl4 V' := ⟨h.1.later hb, h.2.1.later hb, h.2.2.1.later hb, h.2.2.2.later hb⟩
def Ref1 (w : World) (t : Int) (x : Ending) (w' : World) : Prop := ∃ v zs, x = .returned v ∧ w'.ownsRow w.heap.size 63 1 v zs.length (zs.map (Value.int .u32)) ∧ Wd zs ∧ Trimmed zs ∧ val zs = t ∧ Below w.heap.size w w'
theorem plus_end {us : List Int} (hw : Wd us) (n : Nat) (c V : Int) (hl : us.length = n) (h0 : 0 ≤ c) (h1 : V < 4294967296 ^ n) (h : valTo us n + c * 4294967296 ^ n = V) : val us = V := by
  have b := valTo_bounds hw n
  have hp := pw_pos n
  have hc : c = 0 := by
    by_cases z : c = 0
    · exact z
    · have e1 : 1 * 4294967296 ^ n ≤ c * 4294967296 ^ n := Int.mul_le_mul_of_nonneg_right (by omega) (by omega)
      omega
  rw [hc] at h
  rw [← valTo_stable us n (by omega)]
  omega
set_option maxHeartbeats 3200000 in
theorem refPlus_any (a : Option Addr) (n cap : Nat) (xs : List Int) (b : Option Addr) (m cap' : Nat) (ys : List Int) (w : World) (h : Reads w w.heap.size a n cap xs) (g : Reads w w.heap.size b m cap' ys) (hn : n ≤ 549755813888) (hm : m ≤ 549755813888) :
    Calls Tryz.prog 110 #[.slice a n cap, .slice b m cap'] w (Ref1 w (val xs + val ys)) := by
  obtain ⟨i0, hi, hz0, hz1, hz2⟩ := info_parts Tryz.infoW
  have HX := hid h
  have HY := hid g
  have WX := hid (And.intro h.2.1 g.2.1)
  have HLL := hid (And.intro h.1 g.1)
  have hn := (by omega : n ≤ 281474976710656)
  have hm := (by omega : m ≤ 281474976710656)
  have v1 := val_lt h.2.1
  have v2 := val_lt g.2.1
  rw [h.1] at v1
  rw [g.1] at v2
  by_cases hnm : n < m
  · have HLT : Hid (val xs + val ys < 4294967296 ^ (m + 1)) := by
      have p := pw_le (show n ≤ m by omega)
      have q := pw_succ m
      have r := pw_pos m
      show _ < _
      omega
    clear h g v1 v2
    go_enter Tryz.func110, Tryz.ntmps110
    go_wp2_with (at_make; refine wpList_make_full _ rfl _ _ 22 rfl w.heap.size 63 i0 (.int .u32 0) 1 Tryz.underlying22 hi hz0 hz1 _ _ _ _ (m + 1) rfl rfl (by omega) (by omega) (by rw [hz2]; omega) (by unfold maxLen; omega) (Nat.le_refl _) ?_)
    intro w1 hown hgrow
    have hbel : Below w.heap.size w w1 := (Below.refl _ _).grown hgrow (Nat.le_refl _) (fun k hk => by simp at hk)
    have HO := hid (OwnW.made hown)
    clear hown hgrow
    go_wp2_with fail
    go_loopw [7, 8] (fun c t wr => ∃ (k : Nat) (cc : Int) (us : List Int), k ≤ m + 1 ∧ t = .int .i64 k ∧ c = .int .u64 cc ∧ 0 ≤ cc ∧ cc ≤ 1 ∧ Wd us ∧ Hid (valTo us k + cc * 4294967296 ^ k = valTo xs k + valTo ys k) ∧ OwnW wr w.heap.size w.heap.size (m + 1) us ∧ Below w.heap.size w wr) (fun _ t _ => m + 1 - (intOf t).toNat)
    case atStart => exact ⟨0, 0, _, by omega, rfl, rfl, by omega, by omega, Wd.replicate _, show _ = _ by simp [valTo], HO.out, hbel⟩
    case round =>
      obtain ⟨k, cc, us, hk, rfl, rfl, c0, c1, hwu, HV, ho, hb⟩ := hrel
      by_cases hlt : k ≤ m
      · have hlt' : (k : Int) ≤ (m : Int) := by omega
        have y1 := ho.cell k (by omega)
        have f1 := ho.free k
        have bx := WX.out.1.at k
        have by' := WX.out.2.at k
        have hlu := ho.len
        have HW1 := hid (word_any _ _ _ xs _ (k : Int) wr (HX.out.later hb (Nat.le_refl _)) hn (by omega))
        have HW2 := hid (word_any _ _ _ ys _ (k : Int) wr (HY.out.later hb (Nat.le_refl _)) hm (by omega))
        rw [Int.toNat_natCast] at HW1 HW2
        obtain ⟨T, hT⟩ : ∃ T, xs[k]?.getD 0 + ys[k]?.getD 0 + cc = T := ⟨_, rfl⟩
        have HV' := hid (sum_step xs ys us k cc T (by omega) (by omega) HV.out)
        have HO' := hid (ho.set k (T % 4294967296))
        have HB' := hid (hb.setCell (p := ⟨w.heap.size, k, none⟩) (Nat.le_refl _) (.int .u32 (T % 4294967296)))
        have T0 : 0 ≤ T ∧ T ≤ 8589934591 := by omega
        clear hlu ho hb HV
        go_wp2_with fail
        refine Calls.mono HW1.out ?_
        rintro e w' ⟨rfl, rfl⟩
        go_wp2_with fail
        refine Calls.mono HW2.out ?_
        rintro e w' ⟨rfl, rfl⟩
        go_wp2_with fail
        go_roundw
        case rel => exact ⟨k + 1, T / 4294967296, us.set k (T % 4294967296), by omega, by go_num, by go_num, by omega, by omega, hwu.set _ (by omega), HV', HO'.out, HB'.out⟩
        case measure => simp [intOf]; omega
      · obtain rfl : k = m + 1 := by omega
        have hlu := ho.len
        have hsum : valTo xs (m + 1) + valTo ys (m + 1) = val xs + val ys := by rw [valTo_stable xs _ (by have := HLL.out; omega), valTo_stable ys _ (by have := HLL.out; omega)]
        have HF : Hid (val us = val xs + val ys) := plus_end hwu (m + 1) cc _ hlu c0 HLT.out (by rw [← hsum]; exact HV.out)
        have HR := hid (refTrim_sl (.slice (some ⟨w.heap.size, 0, none⟩) us.length us.length) us wr (Sl.own (owns_len (show wr.ownsRow w.heap.size 63 1 (.slice (some ⟨w.heap.size, 0, none⟩) us.length us.length) us.length (us.map (Value.int .u32)) by rw [hlu]; exact ho)) hwu) (by omega))
        rw [hlu] at HR
        have hle : ¬ (((m + 1 : Nat) : Int) ≤ (m : Int)) := by omega
        clear hsum ho HV
        go_wp2_with fail
        refine Calls.mono HR.out ?_
        rintro e w3 ⟨v3, rfl, o3, hb3⟩
        have HO3 := hid (owns_base (owns_len o3) hb.size)
        have hbF := bt hb hb3
        clear o3 hb3
        go_wp2_with fail
        go_ret
        exact ⟨v3, _, rfl, HO3.out, hwu.trimmed, Trimmed.trimmed _, by rw [val_trimmed]; exact HF.out, hbF⟩
  · have HLT : Hid (val xs + val ys < 4294967296 ^ (n + 1)) := by
      have p := pw_le (show m ≤ n by omega)
      have q := pw_succ n
      have r := pw_pos n
      show _ < _
      omega
    clear h g v1 v2
    go_enter Tryz.func110, Tryz.ntmps110
    go_wp2_with (at_make; refine wpList_make_full _ rfl _ _ 22 rfl w.heap.size 63 i0 (.int .u32 0) 1 Tryz.underlying22 hi hz0 hz1 _ _ _ _ (n + 1) rfl rfl (by omega) (by omega) (by rw [hz2]; omega) (by unfold maxLen; omega) (Nat.le_refl _) ?_)
    intro w1 hown hgrow
    have hbel : Below w.heap.size w w1 := (Below.refl _ _).grown hgrow (Nat.le_refl _) (fun k hk => by simp at hk)
    have HO := hid (OwnW.made hown)
    clear hown hgrow
    go_wp2_with fail
    go_loopw [7, 8] (fun c t wr => ∃ (k : Nat) (cc : Int) (us : List Int), k ≤ n + 1 ∧ t = .int .i64 k ∧ c = .int .u64 cc ∧ 0 ≤ cc ∧ cc ≤ 1 ∧ Wd us ∧ Hid (valTo us k + cc * 4294967296 ^ k = valTo xs k + valTo ys k) ∧ OwnW wr w.heap.size w.heap.size (n + 1) us ∧ Below w.heap.size w wr) (fun _ t _ => n + 1 - (intOf t).toNat)
    case atStart => exact ⟨0, 0, _, by omega, rfl, rfl, by omega, by omega, Wd.replicate _, show _ = _ by simp [valTo], HO.out, hbel⟩
    case round =>
      obtain ⟨k, cc, us, hk, rfl, rfl, c0, c1, hwu, HV, ho, hb⟩ := hrel
      by_cases hlt : k ≤ n
      · have hlt' : (k : Int) ≤ (n : Int) := by omega
        have y1 := ho.cell k (by omega)
        have f1 := ho.free k
        have bx := WX.out.1.at k
        have by' := WX.out.2.at k
        have hlu := ho.len
        have HW1 := hid (word_any _ _ _ xs _ (k : Int) wr (HX.out.later hb (Nat.le_refl _)) hn (by omega))
        have HW2 := hid (word_any _ _ _ ys _ (k : Int) wr (HY.out.later hb (Nat.le_refl _)) hm (by omega))
        rw [Int.toNat_natCast] at HW1 HW2
        obtain ⟨T, hT⟩ : ∃ T, xs[k]?.getD 0 + ys[k]?.getD 0 + cc = T := ⟨_, rfl⟩
        have HV' := hid (sum_step xs ys us k cc T (by omega) (by omega) HV.out)
        have HO' := hid (ho.set k (T % 4294967296))
        have HB' := hid (hb.setCell (p := ⟨w.heap.size, k, none⟩) (Nat.le_refl _) (.int .u32 (T % 4294967296)))
        have T0 : 0 ≤ T ∧ T ≤ 8589934591 := by omega
        clear hlu ho hb HV
        go_wp2_with fail
        refine Calls.mono HW1.out ?_
        rintro e w' ⟨rfl, rfl⟩
        go_wp2_with fail
        refine Calls.mono HW2.out ?_
        rintro e w' ⟨rfl, rfl⟩
        go_wp2_with fail
        go_roundw
        case rel => exact ⟨k + 1, T / 4294967296, us.set k (T % 4294967296), by omega, by go_num, by go_num, by omega, by omega, hwu.set _ (by omega), HV', HO'.out, HB'.out⟩
        case measure => simp [intOf]; omega
      · obtain rfl : k = n + 1 := by omega
        have hlu := ho.len
        have hsum : valTo xs (n + 1) + valTo ys (n + 1) = val xs + val ys := by rw [valTo_stable xs _ (by have := HLL.out; omega), valTo_stable ys _ (by have := HLL.out; omega)]
        have HF : Hid (val us = val xs + val ys) := plus_end hwu (n + 1) cc _ hlu c0 HLT.out (by rw [← hsum]; exact HV.out)
        have HR := hid (refTrim_sl (.slice (some ⟨w.heap.size, 0, none⟩) us.length us.length) us wr (Sl.own (owns_len (show wr.ownsRow w.heap.size 63 1 (.slice (some ⟨w.heap.size, 0, none⟩) us.length us.length) us.length (us.map (Value.int .u32)) by rw [hlu]; exact ho)) hwu) (by omega))
        rw [hlu] at HR
        have hle : ¬ (((n + 1 : Nat) : Int) ≤ (n : Int)) := by omega
        clear hsum ho HV
        go_wp2_with fail
        refine Calls.mono HR.out ?_
        rintro e w3 ⟨v3, rfl, o3, hb3⟩
        have HO3 := hid (owns_base (owns_len o3) hb.size)
        have hbF := bt hb hb3
        clear o3 hb3
        go_wp2_with fail
        go_ret
        exact ⟨v3, _, rfl, HO3.out, hwu.trimmed, Trimmed.trimmed _, by rw [val_trimmed]; exact HF.out, hbF⟩
theorem bdw {B : Nat} {a w : World} (h : Below B a w) (n : Nat) : Below B a (w.drewN n) := h.trans ⟨rfl, rfl, rfl, Nat.le_refl _, fun _ _ => rfl⟩
theorem less_step (xs ys us : List Int) (k : Nat) (cc z c' : Int) (hk : k < us.length) (ht : z - c' * 4294967296 = xs[k]?.getD 0 - (ys[k]?.getD 0 + cc)) (h : valTo us k - cc * 4294967296 ^ k = valTo xs k - valTo ys k) :
    valTo (us.set k z) (k + 1) - c' * 4294967296 ^ (k + 1) = valTo xs (k + 1) - valTo ys (k + 1) := by
  rw [valTo_set us k z hk, valTo_succ, valTo_succ, pw_succ]
  generalize (4294967296 : Int) ^ k = P at *
  generalize xs[k]?.getD 0 = x at *
  generalize ys[k]?.getD 0 = y at *
  grind
theorem less_end {us : List Int} (hw : Wd us) (n : Nat) (c V : Int) (hl : us.length = n) (h0 : 0 ≤ c) (hV : 0 ≤ V) (h : valTo us n - c * 4294967296 ^ n = V) : val us = V := by
  have b := valTo_bounds hw n
  have hp := pw_pos n
  have hc : c = 0 := by
    by_cases z : c = 0
    · exact z
    · have e1 : 1 * 4294967296 ^ n ≤ c * 4294967296 ^ n := Int.mul_le_mul_of_nonneg_right (by omega) (by omega)
      omega
  rw [hc] at h
  rw [← valTo_stable us n (by omega)]
  omega
theorem word_q {a : Option Addr} {n cap : Nat} {zs : List Int} {B : Nat} {wr : World} (k : Nat) (h : Reads wr B a n cap zs) (hn : n ≤ 281474976710656) (j : Nat) :
    Calls Tryz.prog 111 #[.slice a n cap, .int .i64 (k : Int)] (wr.drewN j) fun e w' => e = .returned (.int .u32 (zs[k]?.getD 0)) ∧ w' = wr.drewN j := by
  have e := word_any a n cap zs B (k : Int) (wr.drewN j) (h.later (bdw (Below.refl _ _) j) (Nat.le_refl _)) hn (by omega)
  rw [Int.toNat_natCast] at e
  exact Calls.mono e (fun _ _ h => ⟨h.1, h.2.symm⟩)
set_option maxHeartbeats 3200000 in
theorem refLess_any (a : Option Addr) (n cap : Nat) (xs : List Int) (b : Option Addr) (m cap' : Nat) (ys : List Int) (w : World) (h : Reads w w.heap.size a n cap xs) (g : Reads w w.heap.size b m cap' ys) (hn : n ≤ 549755813888) (hm : m ≤ 549755813888) (hle : val ys ≤ val xs) :
    Calls Tryz.prog 112 #[.slice a n cap, .slice b m cap'] w (Ref1 w (val xs - val ys)) := by
  obtain ⟨i0, hi, hz0, hz1, hz2⟩ := info_parts Tryz.infoW
  have HY := hid g
  have WX := hid (And.intro h.2.1 g.2.1)
  have hm' := (by omega : m ≤ 281474976710656)
  have HLE := hid hle
  have hlx := h.1
  have HYV : Hid (valTo ys n = val ys) := by
    show _ = _
    have v1 := val_lt h.2.1
    rw [hlx] at v1
    have hs : sz ys ≤ n := by
      have := len_of_lt g.2.1.trimmed (Trimmed.trimmed ys) (L := n) (by rw [val_trimmed]; omega)
      rwa [length_trimmed] at this
    exact valTo_sz ys n hs
  have HXV : Hid (valTo xs n = val xs) := valTo_stable xs n (by omega)
  have cells : ∀ k, k < n → ∃ b1 o1, a = some ⟨b1, o1, none⟩ ∧ b1 < w.heap.size ∧ w.cell? ⟨b1, o1 + k, none⟩ = some (.int .u32 (xs[k]?.getD 0)) := fun k hk => by
    rcases h.2.2.1 with h0 | ⟨b1, o1, e1, l1, c1⟩
    · omega
    · exact ⟨b1, o1, e1, l1, c1 k hk⟩
  have HCS := hid cells
  have hcap := h.2.2.2.1
  clear h g hle hlx cells
  go_enter Tryz.func112, Tryz.ntmps112
  go_wp2_with (at_make; refine wpList_make_full _ rfl _ _ 22 rfl w.heap.size 63 i0 (.int .u32 0) 1 Tryz.underlying22 hi hz0 hz1 _ _ _ _ n rfl rfl (by omega) (by omega) (by rw [hz2]; omega) (by unfold maxLen; omega) (Nat.le_refl _) ?_)
  intro w1 hown hgrow
  have hbel : Below w.heap.size w w1 := (Below.refl _ _).grown hgrow (Nat.le_refl _) (fun k hk => by simp at hk)
  have HO := hid (OwnW.made hown)
  clear hown hgrow
  go_wp2_with fail
  go_loopw [6, 7] (fun c t wr => ∃ (k : Nat) (cc : Int) (us : List Int), k ≤ n ∧ t = .int .i64 k ∧ c = .int .u64 cc ∧ 0 ≤ cc ∧ cc ≤ 1 ∧ Wd us ∧ Hid (valTo us k - cc * 4294967296 ^ k = valTo xs k - valTo ys k) ∧ OwnW wr w.heap.size w.heap.size n us ∧ Below w.heap.size w wr) (fun _ t _ => n - (intOf t).toNat)
  case atStart => exact ⟨0, 0, _, by omega, rfl, rfl, by omega, by omega, Wd.replicate _, show _ = _ by simp [valTo], HO.out, hbel⟩
  case round =>
    obtain ⟨k, cc, us, hk, rfl, rfl, c0, c1, hwu, HV, ho, hb⟩ := hrel
    by_cases hlt : k < n
    · obtain ⟨b1, o1, rfl, l1, cx⟩ := HCS.out k hlt
      have x1 : wr.cell? ⟨b1, o1 + k, none⟩ = some (.int .u32 (xs[k]?.getD 0)) := (hb.cell (p := ⟨b1, o1 + k, none⟩) l1).trans cx
      have y1 := ho.cell k (by omega)
      have f1 := ho.free k
      have bx := WX.out.1.at k
      have by' := WX.out.2.at k
      have hlu := ho.len
      have HW2 := hid (word_q k (HY.out.later hb (Nat.le_refl _)) hm')
      have HST := hid (fun z c' => less_step xs ys us k cc z c' (by omega))
      have HOB : Hid (∀ j Z, OwnW ((wr.drewN j).setCell ⟨w.heap.size, k, none⟩ (.int .u32 Z)) w.heap.size w.heap.size n (us.set k Z) ∧ Below w.heap.size w ((wr.drewN j).setCell ⟨w.heap.size, k, none⟩ (.int .u32 Z))) := fun j Z =>
        ⟨OwnW.set (show OwnW (wr.drewN j) _ _ _ _ from ho) k Z, (bdw hb j).setCell (p := ⟨w.heap.size, k, none⟩) (Nat.le_refl _) _⟩
      obtain ⟨x, hx⟩ : ∃ x, xs[k]?.getD 0 = x := ⟨_, rfl⟩
      obtain ⟨y, hy⟩ : ∃ y, ys[k]?.getD 0 = y := ⟨_, rfl⟩
      rw [hx] at x1 bx HST
      rw [hy] at by' HW2 HST
      clear hlu ho hb hx hy cx
      by_cases hxy : x < y + cc
      · go_wp2_with fail
        go_quiet ((go_at_call 111; exact Calls.quiet_of_same (HW2.out _)))
        go_wp2_with fail
        go_roundw
        case rel => exact ⟨k + 1, 1, us.set k (x + 4294967296 - (y + cc)), by omega, by go_num, by go_num, by omega, by omega, hwu.set _ (by omega), HST.out _ _ (by omega) HV.out, (HOB.out _ _).1, (HOB.out _ _).2⟩
        case measure => simp [intOf]; omega
      · go_wp2_with fail
        go_quiet ((go_at_call 111; exact Calls.quiet_of_same (HW2.out _)))
        go_wp2_with fail
        go_roundw
        case rel => exact ⟨k + 1, 0, us.set k (x - (y + cc)), by omega, by go_num, by go_num, by omega, by omega, hwu.set _ (by omega), HST.out _ _ (by omega) HV.out, (HOB.out _ _).1, (HOB.out _ _).2⟩
        case measure => simp [intOf]; omega
    · obtain rfl : k = n := by omega
      have hlu := ho.len
      have HF : Hid (val us = val xs - val ys) := less_end hwu k cc _ hlu c0 (by have := HLE.out; omega) (by rw [← HXV.out, ← HYV.out]; exact HV.out)
      have HR := hid (refTrim_sl (.slice (some ⟨w.heap.size, 0, none⟩) us.length us.length) us wr (Sl.own (owns_len (show wr.ownsRow w.heap.size 63 1 (.slice (some ⟨w.heap.size, 0, none⟩) us.length us.length) us.length (us.map (Value.int .u32)) by rw [hlu]; exact ho)) hwu) (by omega))
      rw [hlu] at HR
      clear ho HV
      go_wp2_with fail
      refine Calls.mono HR.out ?_
      rintro e w3 ⟨v3, rfl, o3, hb3⟩
      have HO3 := hid (owns_base (owns_len o3) hb.size)
      have hbF := bt hb hb3
      clear o3 hb3
      go_wp2_with fail
      go_ret
      exact ⟨v3, _, rfl, HO3.out, hwu.trimmed, Trimmed.trimmed _, by rw [val_trimmed]; exact HF.out, hbF⟩
theorem Reads.cells {w : World} {B : Nat} {a : Option Addr} {n cap : Nat} {zs : List Int} (h : Reads w B a n cap zs) : ∀ k, k < n → ∃ b1 o1, a = some ⟨b1, o1, none⟩ ∧ b1 < B ∧ w.cell? ⟨b1, o1 + k, none⟩ = some (.int .u32 (zs[k]?.getD 0)) := fun k hk => by
  rcases h.2.2.1 with h0 | ⟨b1, o1, e1, l1, c1⟩
  · omega
  · exact ⟨b1, o1, e1, l1, c1 k hk⟩
theorem replicate_zero (n j : Nat) : (List.replicate n (0 : Int))[j]?.getD 0 = 0 := by rw [List.getElem?_replicate]; split <;> rfl
theorem row_end (xs zs us ys : List Int) (k m : Nat) (c : Int) (hl : k + m < us.length) (hku : ∀ j, j < k ∨ k + m ≤ j → us[j]?.getD 0 = ys[j]?.getD 0) (hvu : segTo us k m + c * 4294967296 ^ m = segTo ys k m + xs[k]?.getD 0 * val zs) (hv : valTo ys (k + m) = valTo xs k * val zs) :
    valTo (us.set (k + m) c) (k + 1 + m) = valTo xs (k + 1) * val zs := by
  rw [show k + 1 + m = k + m + 1 by omega, valTo_set us (k + m) c (by omega), valTo_seg us k m, valTo_congr us ys k (fun j hj => hku j (by omega)), valTo_succ, Int.add_mul, ← hv, valTo_seg ys k m]
  have e1 : (4294967296 : Int) ^ (k + m) = 4294967296 ^ m * 4294967296 ^ k := by rw [Nat.add_comm, Int.pow_add]
  rw [e1, ← Int.mul_assoc, Int.add_assoc, ← Int.add_mul, hvu, Int.add_mul, ← Int.add_assoc]
  congr 1
  rw [Int.mul_assoc, Int.mul_comm (val zs), ← Int.mul_assoc]
set_option maxHeartbeats 6400000 in
theorem refTimes_any (a : Option Addr) (n cap : Nat) (xs : List Int) (b : Option Addr) (m cap' : Nat) (ys : List Int) (w : World) (h : Reads w w.heap.size a n cap xs) (g : Reads w w.heap.size b m cap' ys) (hn : n ≤ 274877906944) (hm : m ≤ 274877906944) :
    Calls Tryz.prog 99 #[.slice a n cap, .slice b m cap'] w (Ref1 w (val xs * val ys)) := by
  obtain ⟨i0, hi, hz0, hz1, hz2⟩ := info_parts Tryz.infoW
  have WX := hid (And.intro h.2.1 g.2.1)
  have HL := hid (And.intro h.1 g.1)
  have HCX := hid h.cells
  have HCY := hid g.cells
  have hcap := h.2.2.2.1
  have hcap' := g.2.2.2.1
  clear h g
  go_enter Tryz.func99, Tryz.ntmps99
  go_wp2_with (at_make; refine wpList_make_full _ rfl _ _ 22 rfl w.heap.size 63 i0 (.int .u32 0) 1 Tryz.underlying22 hi hz0 hz1 _ _ _ _ (n + m) rfl rfl (by omega) (by omega) (by rw [hz2]; omega) (by unfold maxLen; omega) (Nat.le_refl _) ?_)
  intro w1 hown hgrow
  have hbel : Below w.heap.size w w1 := (Below.refl _ _).grown hgrow (Nat.le_refl _) (fun k hk => by simp at hk)
  have HO := hid (OwnW.made hown)
  clear hown hgrow
  go_wp2_with fail
  go_loopw [6] (fun t wr => ∃ (k : Nat) (us : List Int), k ≤ n ∧ t = .int .i64 k ∧ Wd us ∧ Hid (valTo us (k + m) = valTo xs k * val ys) ∧ Hid (∀ j, k + m ≤ j → us[j]?.getD 0 = 0) ∧ OwnW wr w.heap.size w.heap.size (n + m) us ∧ Below w.heap.size w wr) (fun t _ => n - (intOf t).toNat)
  case atStart =>
    refine ⟨0, _, by omega, rfl, Wd.replicate _, ?_, fun j _ => replicate_zero _ j, HO.out, hbel⟩
    show _ = _
    rw [valTo_congr _ [] _ (fun j _ => by rw [replicate_zero]; rfl), valTo_stable [] _ (by simp), val_nil]
    simp [valTo]
  case round =>
    obtain ⟨k, us, hk, rfl, hwu, HV, HK, ho, hb⟩ := hrel
    by_cases hlt : k < n
    · obtain ⟨b1, o1, rfl, l1, cx⟩ := HCX.out k hlt
      have bx := WX.out.1.at k
      have HRE := hid (fun c vs => row_end xs ys vs us k m c)
      obtain ⟨x, hx⟩ : ∃ x, xs[k]?.getD 0 = x := ⟨_, rfl⟩
      rw [hx] at cx bx HRE
      have HCELL := hid cx
      have HO1 := hid ho
      have HB1 := hid hb
      clear hx cx ho hb
      go_wp2_with fail
      go_loopw [7, 8] (fun c t wr2 => ∃ (q : Nat) (cc : Int) (vs : List Int), q ≤ m ∧ t = .int .i64 q ∧ c = .int .u64 cc ∧ 0 ≤ cc ∧ cc ≤ 4294967295 ∧ Wd vs ∧ Hid (segTo vs k q + cc * 4294967296 ^ q = segTo us k q + x * valTo ys q) ∧ Hid (∀ j, j < k ∨ k + q ≤ j → vs[j]?.getD 0 = us[j]?.getD 0) ∧ OwnW wr2 w.heap.size w.heap.size (n + m) vs ∧ Below w.heap.size w wr2) (fun _ t _ => m - (intOf t).toNat)
      case atStart => exact ⟨0, 0, us, by omega, rfl, rfl, by omega, by omega, hwu, show _ = _ by simp [segTo, valTo], fun _ _ => rfl, HO1.out, HB1.out⟩
      case round =>
        obtain ⟨q, cc, vs, hq, rfl, rfl, c0, c1, hwv, HV2, HK2, ho, hb⟩ := hrel
        by_cases hlt2 : q < m
        · obtain ⟨b2, o2, rfl, l2, cy⟩ := HCY.out q hlt2
          have x1 : wr.cell? ⟨b1, o1 + k, none⟩ = some (.int .u32 x) := (hb.cell (p := ⟨b1, o1 + k, none⟩) l1).trans HCELL.out
          have x2 : wr.cell? ⟨b2, o2 + q, none⟩ = some (.int .u32 (ys[q]?.getD 0)) := (hb.cell (p := ⟨b2, o2 + q, none⟩) l2).trans cy
          have y1 := ho.cell (k + q) (by omega)
          have f1 := ho.free (k + q)
          have b2' := WX.out.2.at q
          have b3 := hwv.at (k + q)
          have hlu := ho.len
          have bp := prod_word x (ys[q]?.getD 0) bx b2'
          obtain ⟨t, ht⟩ : ∃ t, cc + (x * ys[q]?.getD 0 + vs[k + q]?.getD 0) = t := ⟨_, rfl⟩
          have HVN : Hid (segTo (vs.set (k + q) (t % 4294967296)) k (q + 1) + t / 4294967296 * 4294967296 ^ (q + 1) = segTo us k (q + 1) + x * valTo ys (q + 1)) := by
            have e := mul_step ys vs k q 0 x cc t (by omega) ht _ HV2.out
            rw [HK2.out (k + q) (by omega)] at e
            exact e
          have HKN : Hid (∀ j, j < k ∨ k + (q + 1) ≤ j → (vs.set (k + q) (t % 4294967296))[j]?.getD 0 = us[j]?.getD 0) := fun j hj => by
            rw [List.getElem?_set, if_neg (by omega)]
            exact HK2.out j (by omega)
          have HOB : Hid (∀ j Z, OwnW ((wr.drewN j).setCell ⟨w.heap.size, k + q, none⟩ (.int .u32 Z)) w.heap.size w.heap.size (n + m) (vs.set (k + q) Z) ∧ Below w.heap.size w ((wr.drewN j).setCell ⟨w.heap.size, k + q, none⟩ (.int .u32 Z))) := fun j Z =>
            ⟨OwnW.set (show OwnW (wr.drewN j) _ _ _ _ from ho) (k + q) Z, (bdw hb j).setCell (p := ⟨w.heap.size, k + q, none⟩) (Nat.le_refl _) _⟩
          obtain ⟨y, hy⟩ : ∃ y, ys[q]?.getD 0 = y := ⟨_, rfl⟩
          obtain ⟨u, hu⟩ : ∃ u, vs[k + q]?.getD 0 = u := ⟨_, rfl⟩
          rw [hy] at x2 b2' bp ht
          rw [hu] at y1 b3 ht
          obtain ⟨p, hp⟩ : ∃ p, x * y = p := ⟨_, rfl⟩
          rw [hp] at bp ht
          have hT : p + u + cc = t := by omega
          have T0 : 0 ≤ t ∧ t ≤ 18446744073709551615 := by omega
          clear hlu ho hb HV2 HK2 ht hy hu cy
          go_wp2_with fail
          go_quiet (fail)
          go_wp2_with fail
          go_roundw
          case rel => exact ⟨q + 1, t / 4294967296, vs.set (k + q) (t % 4294967296), by omega, by go_num, by go_num, by omega, by omega, hwv.set _ (by omega), HVN, HKN, (HOB.out _ _).1, (HOB.out _ _).2⟩
          case measure => simp [intOf]; omega
        · obtain rfl : q = m := by omega
          have hlu := ho.len
          have y1 := ho.cell (k + q) (by omega)
          have f1 := ho.free (k + q)
          have HVN := hid (HRE.out cc vs (by omega) HK2.out (by have e := HV2.out; rw [valTo_stable ys q (by have := HL.out.2; omega)] at e; exact e) HV.out)
          have HKN : Hid (∀ j, k + 1 + q ≤ j → (vs.set (k + q) cc)[j]?.getD 0 = 0) := fun j hj => by
            rw [List.getElem?_set, if_neg (by omega), HK2.out j (by omega)]
            exact HK.out j (by omega)
          have HOB := hid (And.intro (ho.set (k + q) cc) (hb.setCell (p := ⟨w.heap.size, k + q, none⟩) (Nat.le_refl _) (.int .u32 cc)))
          clear hlu ho hb HV2 HK2 HV HK HRE
          go_wp2_with fail
          go_roundw
          case rel => exact ⟨k + 1, vs.set (k + q) cc, by omega, by go_num, hwv.set _ ⟨c0, c1⟩, HVN, HKN, HOB.out.1, HOB.out.2⟩
          case measure => simp [intOf]; omega
    · obtain rfl : k = n := by omega
      have hlu := ho.len
      have HF : Hid (val us = val xs * val ys) := by
        show _ = _
        have e := HV.out
        rw [valTo_stable us _ (by omega), valTo_stable xs k (by have := HL.out.1; omega)] at e
        exact e
      have HR := hid (refTrim_sl (.slice (some ⟨w.heap.size, 0, none⟩) us.length us.length) us wr (Sl.own (owns_len (show wr.ownsRow w.heap.size 63 1 (.slice (some ⟨w.heap.size, 0, none⟩) us.length us.length) us.length (us.map (Value.int .u32)) by rw [hlu]; exact ho)) hwu) (by omega))
      rw [hlu] at HR
      clear ho HV HK
      go_wp2_with fail
      refine Calls.mono HR.out ?_
      rintro e w3 ⟨v3, rfl, o3, hb3⟩
      have HO3 := hid (owns_base (owns_len o3) hb.size)
      have hbF := bt hb hb3
      clear o3 hb3
      go_wp2_with fail
      go_ret
      exact ⟨v3, _, rfl, HO3.out, hwu.trimmed, Trimmed.trimmed _, by rw [val_trimmed]; exact HF.out, hbF⟩
set_option maxHeartbeats 3200000 in
theorem refSmall_any (a : Option Addr) (n cap : Nat) (xs : List Int) (x : Int) (w : World) (h : Reads w w.heap.size a n cap xs) (hn : n ≤ 549755813888) (hx : 1 ≤ x ∧ x ≤ 4294967295) :
    Calls Tryz.prog 118 #[.slice a n cap, .int .u32 x] w fun e w' => ∃ v zs r, e = .returned (.tuple #[v, .int .u32 r]) ∧ w'.ownsRow w.heap.size 63 1 v zs.length (zs.map (Value.int .u32)) ∧ Wd zs ∧ Trimmed zs ∧ val xs = val zs * x + r ∧ 0 ≤ r ∧ r < x ∧ Below w.heap.size w w' := by
  obtain ⟨i0, hi, hz0, hz1, hz2⟩ := info_parts Tryz.infoW
  have hx1 := hx.1
  have hx2 := hx.2
  have WX := hid h.2.1
  have HL := hid h.1
  have HCX := hid h.cells
  have hcap := h.2.2.2.1
  clear h hx
  go_enter Tryz.func118, Tryz.ntmps118
  go_wp2_with (at_make; refine wpList_make_full _ rfl _ _ 22 rfl w.heap.size 63 i0 (.int .u32 0) 1 Tryz.underlying22 hi hz0 hz1 _ _ _ _ n rfl rfl (by omega) (by omega) (by rw [hz2]; omega) (by unfold maxLen; omega) (Nat.le_refl _) ?_)
  intro w1 hown hgrow
  have hbel : Below w.heap.size w w1 := (Below.refl _ _).grown hgrow (Nat.le_refl _) (fun k hk => by simp at hk)
  have HO := hid (OwnW.made hown)
  clear hown hgrow
  go_wp2_with fail
  go_loopw [7, 8] (fun c t wr => ∃ (k : Nat) (r : Int) (us : List Int), k ≤ n ∧ t = .int .i64 ((k : Int) - 1) ∧ c = .int .u64 r ∧ 0 ≤ r ∧ r < x ∧ Wd us ∧ Hid (segTo xs k (n - k) = segTo us k (n - k) * x + r) ∧ OwnW wr w.heap.size w.heap.size n us ∧ Below w.heap.size w wr) (fun _ t _ => (intOf t + 1).toNat)
  case atStart => exact ⟨n, 0, _, by omega, rfl, rfl, by omega, by omega, Wd.replicate _, show _ = _ by rw [Nat.sub_self]; simp [segTo], HO.out, hbel⟩
  case round =>
    obtain ⟨k, r, us, hk, rfl, rfl, r0, r1, hwu, HV, ho, hb⟩ := hrel
    rcases k with _ | k
    · have hlu := ho.len
      have HF : Hid (val xs = val us * x + r) := by
        show _ = _
        have e := HV.out
        rw [segTo_zero, segTo_zero, valTo_stable xs _ (by have := HL.out; omega), valTo_stable us _ (by omega)] at e
        exact e
      have HR := hid (refTrim_sl (.slice (some ⟨w.heap.size, 0, none⟩) us.length us.length) us wr (Sl.own (owns_len (show wr.ownsRow w.heap.size 63 1 (.slice (some ⟨w.heap.size, 0, none⟩) us.length us.length) us.length (us.map (Value.int .u32)) by rw [hlu]; exact ho)) hwu) (by omega))
      rw [hlu] at HR
      clear ho HV
      go_wp2_with fail
      refine Calls.mono HR.out ?_
      rintro e w3 ⟨v3, rfl, o3, hb3⟩
      have HO3 := hid (owns_base (owns_len o3) hb.size)
      have hbF := bt hb hb3
      clear o3 hb3
      go_wp2_with fail
      go_ret2
      exact ⟨v3, _, r, rfl, HO3.out, hwu.trimmed, Trimmed.trimmed _, by rw [val_trimmed]; exact HF.out, r0, r1, hbF⟩
    · have ek : (((k + 1 : Nat) : Int) - 1) = (k : Int) := by omega
      rw [ek]
      clear ek
      obtain ⟨b1, o1, rfl, l1, cx⟩ := HCX.out k (by omega)
      have x1 : wr.cell? ⟨b1, o1 + k, none⟩ = some (.int .u32 (xs[k]?.getD 0)) := (hb.cell (p := ⟨b1, o1 + k, none⟩) l1).trans cx
      have y1 := ho.cell k (by omega)
      have f1 := ho.free k
      have bu := WX.out.at k
      have hlu := ho.len
      obtain ⟨t, ht⟩ : ∃ t, t = xs[k]?.getD 0 + r * 4294967296 := ⟨_, rfl⟩
      obtain ⟨t0, q0, q1, m0, m1⟩ := div_word x r (xs[k]?.getD 0) t hx1 r0 r1 bu ht
      have t2 : t ≤ 18446744073709551615 := by omega
      have HV' := hid (div_step xs us n k x r t (by omega) hlu.symm ht HV.out)
      have HO' := hid (ho.set k (t / x))
      have HB' := hid (hb.setCell (p := ⟨w.heap.size, k, none⟩) (Nat.le_refl _) (.int .u32 (t / x)))
      have hT : r * 4294967296 + xs[k]?.getD 0 = t := by omega
      have hxz : ¬ x = 0 := by omega
      clear hlu ho hb HV ht cx
      go_wp2_with fail
      go_roundw
      case rel => exact ⟨k, t % x, us.set k (t / x), by omega, rfl, rfl, m0, m1, hwu.set k ⟨q0, q1⟩, HV', HO'.out, HB'.out⟩
      case measure => simp [intOf]
theorem up_word (x : Int) (t : Nat) (ht : t ≤ 31) (x0 : 0 ≤ x) (x1 : x ≤ 4294967295) : x * 2 ^ t % 4294967296 ≤ 4294967296 - 2 ^ t ∧ 0 ≤ x * 2 ^ t / 4294967296 ∧ x * 2 ^ t / 4294967296 < 2 ^ t := by
  have hp := two_pos t
  have hs := two_split t (by omega)
  have hr := two_pos (32 - t)
  refine ⟨?_, Int.ediv_nonneg (Int.mul_nonneg x0 (by omega)) (by omega), Int.ediv_lt_of_lt_mul (by omega) ?_⟩
  · have e : x * 2 ^ t % 4294967296 = x % 2 ^ (32 - t) * 2 ^ t := by
      rw [hs, Int.mul_comm x, Int.mul_emod_mul_of_pos _ _ hp, Int.mul_comm]
    rw [e]
    have h1 := Int.emod_lt_of_pos x hr
    have h2 : (x % 2 ^ (32 - t) + 1) * 2 ^ t ≤ 2 ^ (32 - t) * 2 ^ t := Int.mul_le_mul_of_nonneg_right (by omega) (by omega)
    rw [Int.mul_comm (2 ^ (32 - t)), ← hs] at h2
    rw [Int.add_mul] at h2
    omega
  · have h2 : x * 2 ^ t < 4294967296 * 2 ^ t := Int.mul_lt_mul_of_pos_right (by omega) hp
    rw [Int.mul_comm (2 ^ t)]
    exact h2
theorem up_step (xs us : List Int) (W k : Nat) (Q c lo hi p : Int) (hk : W + k + 1 < us.length) (hc : us[W + k]?.getD 0 = c) (hp : xs[k]?.getD 0 * Q = p) (hl : p = lo + hi * 4294967296) (h : segTo us W (k + 1) = valTo xs k * Q) :
    segTo ((us.set (W + k) (c + lo)).set (W + k + 1) hi) W (k + 1 + 1) = valTo xs (k + 1) * Q := by
  rw [show W + k + 1 = W + (k + 1) by omega, segTo_set _ W (k + 1) hi (by rw [List.length_set]; omega), segTo_set us W k _ (by omega), valTo_succ, pw_succ]
  rw [segTo_succ, hc] at h
  generalize (4294967296 : Int) ^ k = P at *
  generalize segTo us W k = S at *
  generalize valTo xs k = V at *
  generalize xs[k]?.getD 0 = X at *
  grind
set_option maxHeartbeats 3200000 in
theorem refUp_any (a : Option Addr) (n cap : Nat) (xs : List Int) (W t : Nat) (M : Int) (w : World) (h : Reads w w.heap.size a n cap xs) (hn : n ≤ 274877906944) (hn0 : 0 < n) (hW : W ≤ 274877906944) (ht : t ≤ 31) (hM : M = 32 * W + t) :
    Calls Tryz.prog 121 #[.slice a n cap, .int .i64 M] w (Ref1 w (val xs * 2 ^ t * 4294967296 ^ W)) := by
  obtain ⟨i0, hi, hz0, hz1, hz2⟩ := info_parts Tryz.infoW
  have WX := hid h.2.1
  have HL := hid h.1
  have HCX := hid h.cells
  have hcap := h.2.2.2.1
  have hq : M / 32 = (W : Int) := by omega
  have hr : M % 32 = (t : Int) := by omega
  have hM0 : 0 ≤ M := by omega
  have hM1 : M ≤ 9000000000000 := by omega
  have hnz : ((n : Int) == 0) = false := by simp; omega
  clear h hM
  go_enter Tryz.func121, Tryz.ntmps121
  go_wp2_with (at_make; refine wpList_make_full _ rfl _ _ 22 rfl w.heap.size 63 i0 (.int .u32 0) 1 Tryz.underlying22 hi hz0 hz1 _ _ _ _ (n + W + 1) rfl rfl (by omega) (by omega) (by rw [hz2]; omega) (by unfold maxLen; omega) (Nat.le_refl _) ?_)
  intro w1 hown hgrow
  have hbel : Below w.heap.size w w1 := (Below.refl _ _).grown hgrow (Nat.le_refl _) (fun k hk => by simp at hk)
  have HO := hid (OwnW.made hown)
  clear hown hgrow
  go_wp2_with fail
  go_loopw [6] (fun z wr => ∃ (k : Nat) (us : List Int), k ≤ n ∧ z = .int .i64 k ∧ Wd us ∧ Hid (us[W + k]?.getD 0 < 2 ^ t) ∧ Hid (segTo us W (k + 1) = valTo xs k * 2 ^ t) ∧ Hid (∀ j, j < W ∨ W + k + 1 ≤ j → us[j]?.getD 0 = 0) ∧ OwnW wr w.heap.size w.heap.size (n + W + 1) us ∧ Below w.heap.size w wr) (fun z _ => n - (intOf z).toNat)
  case atStart =>
    refine ⟨0, _, by omega, rfl, Wd.replicate _, ?_, ?_, fun j _ => replicate_zero _ j, HO.out, hbel⟩
    · show _ < _
      rw [replicate_zero]; exact two_pos t
    · show _ = _
      rw [segTo_succ, Nat.add_zero, replicate_zero]; simp [segTo, valTo]
  case round =>
    obtain ⟨k, us, hk, rfl, hwu, HC, HV, HK, ho, hb⟩ := hrel
    by_cases hlt : k < n
    · obtain ⟨b1, o1, rfl, l1, cx⟩ := HCX.out k (by omega)
      have x1 : wr.cell? ⟨b1, o1 + k, none⟩ = some (.int .u32 (xs[k]?.getD 0)) := (hb.cell (p := ⟨b1, o1 + k, none⟩) l1).trans cx
      have y1 := ho.cell (W + k) (by omega)
      have f1 := ho.free (W + k)
      have bx := WX.out.at k
      have hlu := ho.len
      have bc := hwu.at (W + k)
      obtain ⟨u1, u2, u3⟩ := up_word _ t ht bx.1 bx.2
      obtain ⟨q0, q1, q2, q3⟩ := shl_word _ t ht bx.1 bx.2
      have c1 := HC.out
      have HST := hid (fun c lo hi p => up_step xs us W k (2 ^ t) c lo hi p (by omega))
      have HOB : Hid (∀ A B, OwnW ((wr.setCell ⟨w.heap.size, W + k, none⟩ (.int .u32 A)).setCell ⟨w.heap.size, W + k + 1, none⟩ (.int .u32 B)) w.heap.size w.heap.size (n + W + 1) ((us.set (W + k) A).set (W + k + 1) B) ∧ Below w.heap.size w ((wr.setCell ⟨w.heap.size, W + k, none⟩ (.int .u32 A)).setCell ⟨w.heap.size, W + k + 1, none⟩ (.int .u32 B))) := fun A B =>
        ⟨(ho.set (W + k) A).set (W + k + 1) B, (hb.setCell (p := ⟨w.heap.size, W + k, none⟩) (Nat.le_refl _) _).setCell (p := ⟨w.heap.size, W + k + 1, none⟩) (Nat.le_refl _) _⟩
      have HF2 : Hid (∀ A, (wr.setCell ⟨w.heap.size, W + k, none⟩ (.int .u32 A)).cell? ⟨w.heap.size, W + k + 1, none⟩ = some (.int .u32 ((us.set (W + k) A)[W + k + 1]?.getD 0)) ∧ (wr.setCell ⟨w.heap.size, W + k, none⟩ (.int .u32 A)).frozen? ⟨w.heap.size, W + k + 1, none⟩ = false) := fun A => ⟨(ho.set (W + k) A).cell (W + k + 1) (by omega), (ho.set (W + k) A).free _⟩
      obtain ⟨X, hX⟩ : ∃ X, xs[k]?.getD 0 = X := ⟨_, rfl⟩
      obtain ⟨c, hc⟩ : ∃ c, us[W + k]?.getD 0 = c := ⟨_, rfl⟩
      rw [hX] at x1 bx HST u1 u2 u3 q0 q1
      rw [hc] at y1 c1 bc HST
      obtain ⟨p, hp⟩ : ∃ p, X * 2 ^ t = p := ⟨_, rfl⟩
      rw [hp] at u1 u2 u3 q0 q1
      obtain ⟨lo, hlo⟩ : ∃ lo, p % 4294967296 = lo := ⟨_, rfl⟩
      obtain ⟨hi', hhi⟩ : ∃ hi', p / 4294967296 = hi' := ⟨_, rfl⟩
      have hpl : p = lo + hi' * 4294967296 := by omega
      have HSV := hid (HST.out c lo hi' p rfl hp hpl HV.out)
      have HOB2 := hid (HOB.out (c + lo) hi')
      obtain ⟨g1, g2⟩ := HF2.out (c + lo)
      have lo0 : 0 ≤ lo := by omega
      rw [hlo] at u1
      rw [hhi] at u2 u3
      have hcl : c + lo ≤ 4294967295 := by omega
      have hi1 : hi' ≤ 4294967295 := by omega
      have HU3 := hid u3
      have p1 : p ≤ 18446744073709551615 := by omega
      have hkW : ((k : Int) + (W : Int)) = ((W + k : Nat) : Int) := by omega
      have hkW1 : (((W + k : Nat) : Int) + 1) = ((W + k + 1 : Nat) : Int) := by omega
      have HKN : Hid (∀ j, j < W ∨ W + (k + 1) + 1 ≤ j → ((us.set (W + k) (c + lo)).set (W + k + 1) hi')[j]?.getD 0 = 0) := fun j hj => by
        rw [List.getElem?_set, if_neg (by omega), List.getElem?_set, if_neg (by omega)]
        exact HK.out j (by omega)
      have HCN : Hid (((us.set (W + k) (c + lo)).set (W + k + 1) hi')[W + (k + 1)]?.getD 0 < 2 ^ t) := by
        show _ < _
        rw [show W + (k + 1) = W + k + 1 by omega, List.getElem?_set, if_pos rfl, if_pos (by rw [List.length_set]; omega)]
        exact HU3.out
      have HWN := hid ((hwu.set (W + k) (show 0 ≤ c + lo ∧ c + lo ≤ 4294967295 by omega)).set (W + k + 1) (show 0 ≤ hi' ∧ hi' ≤ 4294967295 by omega))
      clear hlu ho hb HV HK HC cx hX hc hpl u1 u3 q1 q2 q3 c1 HST HOB HF2
      go_wp2_with fail
      go_roundw
      case rel => exact ⟨k + 1, _, by omega, by go_num, HWN.out, HCN, HSV, HKN, HOB2.out.1, HOB2.out.2⟩
      case measure => simp [intOf]; omega
    · obtain rfl : k = n := by omega
      have hlu := ho.len
      have HF : Hid (val us = val xs * 2 ^ t * 4294967296 ^ W) := by
        show _ = _
        rw [← valTo_stable us (W + (k + 1)) (by omega), valTo_seg us W (k + 1), HV.out, valTo_stable xs k (by have := HL.out; omega), valTo_congr us [] W (fun j hj => by rw [HK.out j (.inl hj)]; rfl), valTo_stable [] _ (by simp), val_nil]
        omega
      have HR := hid (refTrim_sl (.slice (some ⟨w.heap.size, 0, none⟩) us.length us.length) us wr (Sl.own (owns_len (show wr.ownsRow w.heap.size 63 1 (.slice (some ⟨w.heap.size, 0, none⟩) us.length us.length) us.length (us.map (Value.int .u32)) by rw [hlu]; exact ho)) hwu) (by omega))
      rw [hlu] at HR
      clear ho HV HK HC
      go_wp2_with fail
      refine Calls.mono HR.out ?_
      rintro e w3 ⟨v3, rfl, o3, hb3⟩
      have HO3 := hid (owns_base (owns_len o3) hb.size)
      have hbF := bt hb hb3
      clear o3 hb3
      go_wp2_with fail
      go_ret
      exact ⟨v3, _, rfl, HO3.out, hwu.trimmed, Trimmed.trimmed _, by rw [val_trimmed]; exact HF.out, hbF⟩
theorem Reads.behind {w : World} {B : Nat} {b o n cap : Nat} {zs : List Int} (h : Reads w B (some ⟨b, o, none⟩) n cap zs) (W : Nat) (hW : W < n) : Reads w B (some ⟨b, o + W, none⟩) (n - W) (cap - W) (zs.drop W) := by
  obtain ⟨h1, h2, h3, h4, h5, h6⟩ := h
  refine ⟨by rw [List.length_drop]; omega, h2.drop W, ?_, by omega, by omega, fun e => by simp at e⟩
  rcases h3 with h3 | ⟨b', o', ha, hlt, hc⟩
  · omega
  · right
    simp only [Option.some.injEq, Addr.mk.injEq] at ha
    obtain ⟨rfl, rfl, _⟩ := ha
    refine ⟨b, o + W, rfl, hlt, fun j hj => ?_⟩
    rw [Nat.add_assoc, hc (W + j) (by omega), List.getElem?_drop]
theorem down_val (xs us : List Int) (W m t : Nat) (wx : Wd xs) (ht : t ≤ 31) (hlen : xs.length = W + m) (hpt : ∀ j, j < m → us[j]?.getD 0 = (xs[W + j]?.getD 0 + xs[W + (j + 1)]?.getD 0 * 4294967296) / 2 ^ t % 4294967296) :
    ∀ d k, k + d = m → segTo us k d = segTo xs (W + k) d / 2 ^ t
  | 0, k, h => by show (0 : Int) = 0 / 2 ^ t; simp
  | d + 1, k, h => by
    have ih := down_val xs us W m t wx ht hlen hpt d (k + 1) (by omega)
    have bx := wx.at (W + k)
    have hw := lower_word (segTo xs (W + (k + 1)) d) (xs[W + k]?.getD 0) (xs[W + (k + 1)]?.getD 0) (2 ^ t) (2 ^ (32 - t)) (segTo_nonneg wx _ _) (by rw [segTo_low wx (W + (k + 1)) d (fun h => by rw [List.getElem?_eq_none (by omega)]; rfl)]) bx.1 bx.2 (two_pos t) (two_split t (by omega))
    rw [segTo_cons, segTo_cons, hpt k (by omega), ih, hw]
    rfl
theorem down_all (xs us : List Int) (W m t : Nat) (wx : Wd xs) (ht : t ≤ 31) (hlen : xs.length = W + m) (hlu : us.length = m) (hpt : ∀ j, j < m → us[j]?.getD 0 = (xs[W + j]?.getD 0 + xs[W + (j + 1)]?.getD 0 * 4294967296) / 2 ^ t % 4294967296) :
    val us = val xs / 4294967296 ^ W / 2 ^ t := by
  have e := down_val xs us W m t wx ht hlen hpt m 0 (by omega)
  rw [segTo_zero, Nat.add_zero, valTo_stable us _ (by omega)] at e
  rw [e, ← valTo_stable xs (W + m) (by omega), valTo_seg xs W m]
  have b := valTo_bounds wx W
  rw [Int.add_mul_ediv_right _ _ (by have := pw_pos W; omega), Int.ediv_eq_zero_of_lt b.1 b.2]
  simp
set_option maxHeartbeats 3200000 in
theorem refDown_none (a : Option Addr) (n cap : Nat) (W t : Nat) (M : Int) (w : World) (hn : n ≤ 274877906944) (hW : n ≤ W) (hW' : W ≤ 274877906944) (ht : t ≤ 31) (hM : M = 32 * W + t) :
    Calls Tryz.prog 123 #[.slice a n cap, .int .i64 M] w fun e w' => e = .returned (.slice none 0 0) ∧ w = w' := by
  have hq : M / 32 = (W : Int) := by omega
  have hM0 : 0 ≤ M := by omega
  have hM1 : M ≤ 9000000000000 := by omega
  have hle : (n : Int) ≤ (W : Int) := by omega
  clear hM
  go_enter Tryz.func123, Tryz.ntmps123
  go_wp2_with fail
  go_ret
  exact ⟨rfl, rfl⟩
set_option maxHeartbeats 3200000 in
theorem refDown_any (a : Option Addr) (n cap : Nat) (xs : List Int) (W t : Nat) (M : Int) (w : World) (h : Reads w w.heap.size a n cap xs) (hn : n ≤ 274877906944) (hW : W < n) (ht : t ≤ 31) (hM : M = 32 * W + t) :
    Calls Tryz.prog 123 #[.slice a n cap, .int .i64 M] w (Ref1 w (val xs / 4294967296 ^ W / 2 ^ t)) := by
  obtain ⟨i0, hi, hz0, hz1, hz2⟩ := info_parts Tryz.infoW
  rcases h.2.2.1 with h0 | ⟨b1, o1, rfl, hb1, hc1⟩
  · omega
  obtain ⟨m, hm⟩ : ∃ m, n = W + m := ⟨n - W, by omega⟩
  subst hm
  have WX := hid h.2.1
  have HL := hid h.1
  have HR := h.behind W hW
  have hnm : W + m - W = m := by omega
  rw [hnm] at HR
  have HRB := hid HR
  have HCX := hid hc1
  have hcap := h.2.2.2.1
  have hq : M / 32 = (W : Int) := by omega
  have hr : M % 32 = (t : Int) := by omega
  have hM0 : 0 ≤ M := by omega
  have hM1 : M ≤ 9000000000000 := by omega
  have hlt : ¬ ((W + m : Nat) : Int) ≤ (W : Int) := by omega
  have him : (((W + m : Nat) : Int) - (W : Int)) = (m : Int) := by omega
  have hcz : ¬ cap = W := by omega
  have hm0 : 0 < m := by omega
  clear h hM HR hc1
  go_enter Tryz.func123, Tryz.ntmps123
  go_wp2_with (at_make; refine wpList_make_full _ rfl _ _ 22 rfl w.heap.size 63 i0 (.int .u32 0) 1 Tryz.underlying22 hi hz0 hz1 _ _ _ _ m rfl rfl (by omega) (by omega) (by rw [hz2]; omega) (by unfold maxLen; omega) (Nat.le_refl _) ?_)
  intro w1 hown hgrow
  have hbel : Below w.heap.size w w1 := (Below.refl _ _).grown hgrow (Nat.le_refl _) (fun k hk => by simp at hk)
  have HO := hid (OwnW.made hown)
  clear hown hgrow
  go_wp2_with fail
  go_loopw [7] (fun z wr => ∃ (k : Nat) (us : List Int), k ≤ m ∧ z = .int .i64 k ∧ Wd us ∧ Hid (∀ j, j < k → us[j]?.getD 0 = (xs[W + j]?.getD 0 + xs[W + (j + 1)]?.getD 0 * 4294967296) / 2 ^ t % 4294967296) ∧ OwnW wr w.heap.size w.heap.size m us ∧ Below w.heap.size w wr) (fun z _ => m - (intOf z).toNat)
  case atStart => exact ⟨0, _, by omega, rfl, Wd.replicate _, fun j hj => by omega, HO.out, hbel⟩
  case round =>
    obtain ⟨k, us, hk, rfl, hwu, HV, ho, hb⟩ := hrel
    by_cases hlt2 : k < m
    · have x1 : wr.cell? ⟨b1, o1 + W + k, none⟩ = some (.int .u32 (xs[W + k]?.getD 0)) := by
        have e := (hb.cell (p := ⟨b1, o1 + (W + k), none⟩) hb1).trans (HCX.out (W + k) (by omega))
        rw [Nat.add_assoc]; exact e
      have y1 := ho.cell k (by omega)
      have f1 := ho.free k
      have bx := WX.out.at (W + k)
      have bz := WX.out.at (W + (k + 1))
      have hlu := ho.len
      have HW2 := hid (word_q (k + 1) (HRB.out.later hb (Nat.le_refl _)) (by omega))
      rw [List.getElem?_drop, show ((k + 1 : Nat) : Int) = (k : Int) + 1 by omega] at HW2
      have HOB : Hid (∀ j Z, OwnW ((wr.drewN j).setCell ⟨w.heap.size, k, none⟩ (.int .u32 Z)) w.heap.size w.heap.size m (us.set k Z) ∧ Below w.heap.size w ((wr.drewN j).setCell ⟨w.heap.size, k, none⟩ (.int .u32 Z))) := fun j Z =>
        ⟨OwnW.set (show OwnW (wr.drewN j) _ _ _ _ from ho) k Z, (bdw hb j).setCell (p := ⟨w.heap.size, k, none⟩) (Nat.le_refl _) _⟩
      have HPT : Hid (∀ Z, Z = (xs[W + k]?.getD 0 + xs[W + (k + 1)]?.getD 0 * 4294967296) / 2 ^ t % 4294967296 → ∀ j, j < k + 1 → (us.set k Z)[j]?.getD 0 = (xs[W + j]?.getD 0 + xs[W + (j + 1)]?.getD 0 * 4294967296) / 2 ^ t % 4294967296) := fun Z hZ j hj => by
        rw [List.getElem?_set]
        by_cases e : k = j
        · subst e
          rw [if_pos rfl, if_pos (by omega)]; exact hZ
        · rw [if_neg e]; exact HV.out j (by omega)
      obtain ⟨x, hx⟩ : ∃ x, xs[W + k]?.getD 0 = x := ⟨_, rfl⟩
      obtain ⟨z, hz⟩ : ∃ z, xs[W + (k + 1)]?.getD 0 = z := ⟨_, rfl⟩
      rw [hx] at x1 bx HPT
      rw [hz] at bz HW2 HPT
      obtain ⟨u, hu⟩ : ∃ u, z * 4294967296 + x = u := ⟨_, rfl⟩
      have u0 : 0 ≤ u ∧ u ≤ 18446744073709551615 := by omega
      have hQ := two_pos t
      have q0 : 0 ≤ u / 2 ^ t := Int.ediv_nonneg (by omega) (by omega)
      have q1 : u / 2 ^ t ≤ 18446744073709551615 := by
        have : u / 2 ^ t ≤ u := Int.ediv_le_self _ (by omega)
        omega
      obtain ⟨q, hq'⟩ : ∃ q, u / 2 ^ t = q := ⟨_, rfl⟩
      rw [hq'] at q0 q1
      have HPQ := hid (HPT.out (q % 4294967296) (by rw [← hq', ← hu, Int.add_comm x]))
      clear hlu ho hb HV HPT hx hz hQ
      go_wp2_with fail
      go_quiet ((go_at_call 111; exact Calls.quiet_of_same (HW2.out _)))
      go_wp2_with fail
      go_roundw
      case rel => exact ⟨k + 1, us.set k (q % 4294967296), by omega, by go_num, hwu.set _ (by omega), HPQ, (HOB.out _ _).1, (HOB.out _ _).2⟩
      case measure => simp [intOf]; omega
    · obtain rfl : k = m := by omega
      have hlu := ho.len
      have HF := hid (down_all xs us W k t WX.out ht HL.out hlu HV.out)
      have HR := hid (refTrim_sl (.slice (some ⟨w.heap.size, 0, none⟩) us.length us.length) us wr (Sl.own (owns_len (show wr.ownsRow w.heap.size 63 1 (.slice (some ⟨w.heap.size, 0, none⟩) us.length us.length) us.length (us.map (Value.int .u32)) by rw [hlu]; exact ho)) hwu) (by omega))
      rw [hlu] at HR
      clear ho HV
      go_wp2_with fail
      refine Calls.mono HR.out ?_
      rintro e w3 ⟨v3, rfl, o3, hb3⟩
      have HO3 := hid (owns_base (owns_len o3) hb.size)
      have hbF := bt hb hb3
      clear o3 hb3
      go_wp2_with fail
      go_ret
      exact ⟨v3, _, rfl, HO3.out, hwu.trimmed, Trimmed.trimmed _, by rw [val_trimmed]; exact HF.out, hbF⟩
theorem refPlus_sl (v u : Value) (xs ys : List Int) (w : World) (h : Sl w v xs) (g : Sl w u ys) (hn : xs.length ≤ 549755813888) (hm : ys.length ≤ 549755813888) : Calls Tryz.prog 110 #[v, u] w (Ref1 w (val xs + val ys)) := by
  obtain ⟨a, cap, rfl, hr⟩ := h
  obtain ⟨b, cap', rfl, gr⟩ := g
  exact refPlus_any a _ cap xs b _ cap' ys w hr gr hn hm
theorem refLess_sl (v u : Value) (xs ys : List Int) (w : World) (h : Sl w v xs) (g : Sl w u ys) (hn : xs.length ≤ 549755813888) (hm : ys.length ≤ 549755813888) (hle : val ys ≤ val xs) : Calls Tryz.prog 112 #[v, u] w (Ref1 w (val xs - val ys)) := by
  obtain ⟨a, cap, rfl, hr⟩ := h
  obtain ⟨b, cap', rfl, gr⟩ := g
  exact refLess_any a _ cap xs b _ cap' ys w hr gr hn hm hle
theorem refTimes_sl (v u : Value) (xs ys : List Int) (w : World) (h : Sl w v xs) (g : Sl w u ys) (hn : xs.length ≤ 274877906944) (hm : ys.length ≤ 274877906944) : Calls Tryz.prog 99 #[v, u] w (Ref1 w (val xs * val ys)) := by
  obtain ⟨a, cap, rfl, hr⟩ := h
  obtain ⟨b, cap', rfl, gr⟩ := g
  exact refTimes_any a _ cap xs b _ cap' ys w hr gr hn hm
theorem refOf_val (x : Int) (w : World) (h0 : 0 ≤ x) (h1 : x ≤ 18446744073709551615) : Calls Tryz.prog 119 #[.int .u64 x] w (Ref1 w x) := by
  refine Calls.mono (refOf_any x w h0 h1) ?_
  rintro e w' ⟨v, rfl, o, hb⟩
  refine ⟨v, _, rfl, owns_len o, (of_wd x h0 h1).trimmed, Trimmed.trimmed _, ?_, hb⟩
  rw [val_trimmed, val_two]
  omega
theorem Ref1.slice {w w' : World} {t : Int} {x : Ending} (h : Ref1 w t x w') : ∃ a c zs, x = .returned (.slice a zs.length c) ∧ w'.ownsRow w.heap.size 63 1 (.slice a zs.length c) zs.length (zs.map (Value.int .u32)) ∧ Wd zs ∧ Trimmed zs ∧ val zs = t ∧ Below w.heap.size w w' := by
  obtain ⟨v, zs, rfl, o, h1, h2, h3, h4⟩ := h
  obtain ⟨a, c, hs⟩ := own_slice' o
  subst hs
  exact ⟨a, c, zs, rfl, o, h1, h2, h3, h4⟩
set_option maxHeartbeats 1600000 in
theorem refBelow_any (v u : Value) (rs ds : List Int) (x : Int) (w : World) (h : Sl w v rs) (g : Sl w u ds) (hn : rs.length ≤ 274877906944) (hm : ds.length ≤ 274877906944) (x0 : 0 ≤ x) (x1 : x ≤ 4294967295) :
    Calls Tryz.prog 135 #[v, u, .int .u64 x] w fun e w' => e = .returned (.bool (decide (val rs < val ds * x))) ∧ Below w.heap.size w w' := by
  have HO := hid (refOf_val x w x0 (by omega))
  have HX := hid h
  have HD := hid g
  have HN := hid (And.intro hn hm)
  have HX1 := hid x1
  clear h g hn hm x1
  go_enter Tryz.func135, Tryz.ntmps135
  go_wp2_with fail
  refine Calls.mono HO.out ?_
  intro e w1 h1
  obtain ⟨a1, c1, zs, rfl, o1, wz, tz, vz, hb1⟩ := h1.slice
  have lz : zs.length ≤ 1 := len_of_lt wz tz (by rw [vz]; have := HX1.out; omega)
  have HT := hid (refTimes_sl _ _ ds zs w1 (HD.out.later hb1) (Sl.own o1 wz) HN.out.2 (by omega))
  rw [vz] at HT
  have HB1 := hid hb1
  have lzd : zs.length + ds.length ≤ 274877906945 := by have := HN.out.2; omega
  clear h1 o1 wz tz vz hb1 HO
  go_wp2_with fail
  refine Calls.mono HT.out ?_
  intro e w2 h2
  obtain ⟨a2, c2, ps, rfl, o2, wp, tp, vp, hb2⟩ := h2.slice
  have HB2 := hid (bt HB1.out hb2)
  have lp : ps.length ≤ 281474976710656 := by
    have hl := val_lt HD.out.wd
    have e1 : val ps < 4294967296 ^ (ds.length + 1) := by
      rw [vp, pw_succ]
      have p := pw_pos ds.length
      have d0 := val_nonneg HD.out.wd
      have := HX1.out
      have a1 : val ds * x ≤ val ds * 4294967296 := Int.mul_le_mul_of_nonneg_left (by omega) d0
      have a2 : val ds * 4294967296 < 4294967296 ^ ds.length * 4294967296 := Int.mul_lt_mul_of_pos_right hl (by omega)
      omega
    have := len_of_lt wp tp e1
    have := HN.out
    omega
  have HC := hid (refCompare_sl _ _ rs ps w2 (HX.out.later HB2.out) (Sl.own o2 wp) (by have := HN.out; omega) lp)
  rw [vp] at HC
  clear h2 o2 wp tp vp hb2 HT lp HB1
  by_cases hlt : val rs < val ds * x
  · rw [cmpI_lt hlt] at HC
    have HE : Hid (decide (val rs < val ds * x) = true) := decide_eq_true hlt
    clear hlt
    go_wp2_with fail
    refine Calls.mono HC.out ?_
    rintro e w3 ⟨rfl, rfl⟩
    go_wp2_with fail
    go_ret
    exact ⟨ret_bool HE.out.symm, HB2.out⟩
  · have HE : Hid (decide (val rs < val ds * x) = false) := decide_eq_false hlt
    obtain ⟨c, hc, hc'⟩ : ∃ c, cmpI (val rs) (val ds * x) = c ∧ (c = 0 ∨ c = 1) := by
      by_cases e : val rs = val ds * x
      · exact ⟨0, cmpI_eq e, .inl rfl⟩
      · exact ⟨1, cmpI_gt (by omega), .inr rfl⟩
    rw [hc] at HC
    clear hlt hc
    rcases hc' with rfl | rfl
    · go_wp2_with fail
      refine Calls.mono HC.out ?_
      rintro e w3 ⟨rfl, rfl⟩
      go_wp2_with fail
      go_ret
      exact ⟨ret_bool HE.out.symm, HB2.out⟩
    · go_wp2_with fail
      refine Calls.mono HC.out ?_
      rintro e w3 ⟨rfl, rfl⟩
      go_wp2_with fail
      go_ret
      exact ⟨ret_bool HE.out.symm, HB2.out⟩
theorem valTo_mid (ys : List Int) (i l : Nat) : ∀ k, k ≤ l → valTo ((ys.drop i).take l) k = segTo ys i k
  | 0, _ => rfl
  | k + 1, h => by rw [valTo_succ, segTo_succ, valTo_mid ys i l k (by omega), List.getElem?_take, if_pos (by omega), List.getElem?_drop]
theorem val_mid (ys : List Int) (i l : Nat) (h : i + l ≤ ys.length) : val ((ys.drop i).take l) = segTo ys i l := by
  rw [← valTo_mid ys i l l (Nat.le_refl _), valTo_stable _ _ (by rw [List.length_take, List.length_drop]; omega)]
theorem OwnC.mid {w : World} {base g n cap : Nat} {ys : List Int} (h : OwnC w base g n cap ys) (hw : Wd ys) (i l c : Nat) (hil : i + l ≤ n) (hc : l ≤ c) (hcm : c ≤ maxLen) : Sl w (.slice (some ⟨g, i, none⟩) l c) ((ys.drop i).take l) := by
  have hl := h.len
  have hll : ((ys.drop i).take l).length = l := by rw [List.length_take, List.length_drop]; omega
  refine ⟨some ⟨g, i, none⟩, c, by rw [hll], ?_⟩
  rw [hll]
  refine ⟨hll, (hw.drop i).take l, .inr ⟨g, i, rfl, (World.ownsRow.lt h g rfl).2, fun j hj => ?_⟩, hc, hcm, fun e => by simp at e⟩
  rw [h.cell (i + j) (by omega), List.getElem?_take, if_pos hj, List.getElem?_drop]
set_option maxHeartbeats 3200000 in
theorem refOff_any (base g n cap i l c : Nat) (ys : List Int) (u : Value) (ds : List Int) (x : Int) (w : World) (ho : OwnC w base g n cap ys) (hwy : Wd ys) (hil : i + l ≤ n) (hc : l ≤ c) (hcm : c ≤ maxLen) (hn : n ≤ 137438953472) (hd : Sl w u ds) (hm : ds.length ≤ 137438953472) (x0 : 0 ≤ x) (x1 : x ≤ 4294967295) (hle : val ds * x ≤ segTo ys i l) :
    Calls Tryz.prog 136 #[.slice (some ⟨g, i, none⟩) l c, u, .int .u64 x] w fun e w' => ∃ us, e = .returned (.tuple #[]) ∧ OwnC w' base g n cap us ∧ Wd us ∧ (∀ j, j < i ∨ i + l ≤ j → us[j]?.getD 0 = ys[j]?.getD 0) ∧ segTo us i l = segTo ys i l - val ds * x ∧ w.grownBy w' (some g) := by
  have hgw := (World.ownsRow.lt ho g rfl).2
  have hly := ho.len
  have hll : ((ys.drop i).take l).length = l := by rw [List.length_take, List.length_drop]; omega
  have hvm := val_mid ys i l (by omega)
  have HSR := hid (ho.mid hwy i l c hil hc hcm)
  have HO := hid (refOf_val x w x0 (by omega))
  have HD := hid hd
  have HOY := hid ho
  have HX1 := hid x1
  have HLE := hid hle
  have HVM := hid hvm
  have HLL := hid hll
  clear hd x1 hle ho hvm hll
  go_enter Tryz.func136, Tryz.ntmps136
  go_wp2_with fail
  refine Calls.mono HO.out ?_
  intro e w1 h1
  obtain ⟨a1, c1, zs, rfl, o1, wz, tz, vz, hb1⟩ := h1.slice
  have lz : zs.length ≤ 1 := len_of_lt wz tz (by rw [vz]; have := HX1.out; omega)
  have HT := hid (refTimes_sl _ _ ds zs w1 (HD.out.later hb1) (Sl.own o1 wz) (by omega) (by omega))
  rw [vz] at HT
  have HB1 := hid hb1
  clear h1 o1 wz tz vz hb1 HO lz
  go_wp2_with fail
  refine Calls.mono HT.out ?_
  intro e w2 h2
  obtain ⟨a2, c2, ps, rfl, o2, wp, tp, vp, hb2⟩ := h2.slice
  have HB2 := hid (bt HB1.out hb2)
  have lp : ps.length ≤ 549755813888 := by
    have e1 : val ps < 4294967296 ^ l := by rw [vp]; have := HLE.out; have := (segTo_bounds hwy i l).2; omega
    have := len_of_lt wp tp e1
    omega
  have HF := hid (refLess_sl _ _ ((ys.drop i).take l) ps w2 (HSR.out.later HB2.out) (Sl.own o2 wp) (by rw [HLL.out]; omega) lp (by rw [vp, HVM.out]; exact HLE.out))
  rw [vp, HVM.out] at HF
  clear h2 o2 wp tp vp hb2 HT lp HB1
  go_wp2_with fail
  refine Calls.mono HF.out ?_
  intro e w3 h3
  obtain ⟨a3, c3, qs, rfl, o3, wq, tq, vq, hb3⟩ := h3.slice
  have HB3 := hid (bt HB2.out hb3)
  have lq : qs.length ≤ l := len_of_lt wq tq (by
    rw [vq]
    have h5 := (segTo_bounds hwy i l).2
    have h6 : 0 ≤ val ds * x := Int.mul_nonneg (val_nonneg HD.out.wd) x0
    omega)
  have HQ := hid o3
  have HVQ := hid vq
  have HNE : Hid ((Value.slice a3 qs.length c3).ownBlock = none ∨ (Value.slice a3 qs.length c3).ownBlock ≠ some g) := by
    cases hv : (Value.slice a3 qs.length c3).ownBlock with
    | none => exact .inl rfl
    | some k =>
      right
      intro e
      have e1 := (World.ownsRow.lt o3 k hv).1
      have e2 := HB2.out.size
      have e3 := Option.some.inj e
      omega
  have HOW : Hid (OwnC w3 base g n cap ys) := owns_later HOY.out HB3.out
  have HG3 := hid (grown_of_below HB3.out (some g))
  clear h3 o3 vq hb3 HF HB2 HB3 HOY HSR
  go_wp2_with fail
  go_loopw [7] (fun t wr => ∃ (k : Nat) (us : List Int), k ≤ l ∧ t = .int .i64 k ∧ Wd us ∧ Hid (∀ j, j < i ∨ i + k ≤ j → us[j]?.getD 0 = ys[j]?.getD 0) ∧ Hid (∀ j, j < k → us[i + j]?.getD 0 = qs[j]?.getD 0) ∧ OwnC wr base g n cap us ∧ w3.grownBy wr (some g)) (fun t _ => l - (intOf t).toNat)
  case atStart => exact ⟨0, ys, by omega, rfl, hwy, fun _ _ => rfl, fun j hj => by omega, HOW.out, World.grownBy.refl _ _⟩
  case round =>
    obtain ⟨k, us, hk, rfl, hwu, HK, HQK, hou, hg⟩ := hrel
    by_cases hlt : k < l
    · have y1 := hou.cell (i + k) (by omega)
      have f1 := hou.free (i + k)
      have hlu := hou.len
      have hsq := Sl.own (World.ownsRow.kept HQ.out hg HNE.out) wq
      obtain ⟨aq, cq, hv, hrq⟩ := hsq
      simp only [Value.slice.injEq, true_and] at hv
      obtain ⟨rfl, rfl⟩ := hv
      have HW := hid (word_any _ _ _ qs _ (k : Int) wr hrq (by omega) (by omega))
      rw [Int.toNat_natCast] at HW
      have bq := wq.at k
      have HKN : Hid (∀ j, j < i ∨ i + (k + 1) ≤ j → (us.set (i + k) (qs[k]?.getD 0))[j]?.getD 0 = ys[j]?.getD 0) := fun j hj => by
        rw [List.getElem?_set, if_neg (by omega)]
        exact HK.out j (by omega)
      have HQN : Hid (∀ j, j < k + 1 → (us.set (i + k) (qs[k]?.getD 0))[i + j]?.getD 0 = qs[j]?.getD 0) := fun j hj => by
        rw [List.getElem?_set]
        by_cases e : k = j
        · subst e; rw [if_pos rfl, if_pos (by omega)]; rfl
        · rw [if_neg (by omega)]; exact HQK.out j (by omega)
      have HO' := hid (hou.set (i + k) (qs[k]?.getD 0)).1
      have HG' := hid (grown_trans hg (hou.set (i + k) (qs[k]?.getD 0)).2)
      have hw' := hwu.set (i + k) bq
      have HW' := hid hw'
      obtain ⟨q, hq⟩ : ∃ q, qs[k]?.getD 0 = q := ⟨_, rfl⟩
      rw [hq] at HW HKN HQN HO' HG' HW' bq
      clear hlu hou hg HK HQK hq hrq hw'
      go_wp2_with fail
      refine Calls.mono HW.out ?_
      rintro e w' ⟨rfl, rfl⟩
      go_wp2_with fail
      go_roundw
      case rel => exact ⟨k + 1, us.set (i + k) q, by omega, by go_num, HW'.out, HKN, HQN, HO'.out, HG'.out⟩
      case measure => simp [intOf]; omega
    · obtain rfl : k = l := by omega
      have HS : Hid (segTo us i k = segTo ys i k - val ds * x) := by
        show _ = _
        rw [← HVQ.out, ← valTo_stable qs k lq, ← segTo_zero]
        have e : ∀ j, j ≤ k → segTo us i j = segTo qs 0 j := fun j hj => by
          induction j with
          | zero => rfl
          | succ j ih => rw [segTo_succ, segTo_succ, ih (by omega), HQK.out j (by omega), Nat.zero_add]
        exact e k (Nat.le_refl _)
      clear HQK
      go_wp2_with fail
      go_end0
      exact ⟨us, rfl, hou, hwu, HK.out, HS.out, grown_trans HG3.out hg⟩
theorem digit_guess (P lo top dl dt q S D : Int) (hP : 0 < P) (lo1 : lo < P) (dl0 : 0 ≤ dl) (hd : 1 ≤ dt) (hS : S = lo + top * P) (hD : D = dl + dt * P) (q0 : 0 ≤ q) (hq : q * D ≤ S) : q ≤ top / dt := by
  have e1 : q * (dt * P) ≤ q * D := Int.mul_le_mul_of_nonneg_left (by omega) q0
  have e2 : q * dt * P < (top + 1) * P := by rw [Int.mul_assoc, Int.add_mul]; omega
  have e3 := Int.lt_of_mul_lt_mul_right e2 (by omega)
  exact Int.le_ediv_of_mul_le (by omega) (by omega)
theorem seg_two (ys : List Int) (i e : Nat) : segTo ys i (e + 2) = segTo ys i e + (ys[i + e]?.getD 0 + ys[i + (e + 1)]?.getD 0 * 4294967296) * 4294967296 ^ e := by
  rw [segTo_succ, segTo_succ, pw_succ]
  generalize (4294967296 : Int) ^ e = P
  grind
theorem val_top (ds : List Int) (e : Nat) (h : ds.length = e + 1) : val ds = valTo ds e + ds[e]?.getD 0 * 4294967296 ^ e := by
  unfold val; rw [h, valTo_succ]
set_option maxHeartbeats 3200000 in
theorem refDigit_any (base g n cap i e c : Nat) (ys : List Int) (b : Option Addr) (cap' : Nat) (ds : List Int) (w : World) (ho : OwnC w base g n cap ys) (hwy : Wd ys) (hil : i + (e + 2) ≤ n) (hc : e + 2 ≤ c) (hcm : c ≤ maxLen) (hn : n ≤ 137438953472) (hd : Sl w (.slice b (e + 1) cap') ds) (hlen : ds.length = e + 1) (hh : 1 ≤ ds[e]?.getD 0) (hLD : segTo ys i (e + 2) < 4294967296 * val ds) :
    Calls Tryz.prog 122 #[.slice (some ⟨g, i, none⟩) (e + 2) c, .slice b (e + 1) cap'] w fun x w' => ∃ (q : Int) (us : List Int), x = .returned (.int .u32 q) ∧ 0 ≤ q ∧ q ≤ 4294967295 ∧ OwnC w' base g n cap us ∧ Wd us ∧ (∀ j, j < i ∨ i + (e + 2) ≤ j → us[j]?.getD 0 = ys[j]?.getD 0) ∧ segTo us i (e + 2) = segTo ys i (e + 2) - q * val ds ∧ segTo us i (e + 2) < val ds ∧ w.grownBy w' (some g) := by
  have hwd := hd.wd
  have hD1 := val_top ds e hlen
  have hS1 := seg_two ys i e
  have P0 := pw_pos e
  have lob := segTo_bounds hwy i e
  have dlb := valTo_bounds hwd e
  have hD0 : 0 < val ds := by
    rw [hD1]
    have : 1 * (4294967296 : Int) ^ e ≤ ds[e]?.getD 0 * 4294967296 ^ e := Int.mul_le_mul_of_nonneg_right hh (by omega)
    omega
  have hS0 := (segTo_bounds hwy i (e + 2)).1
  obtain ⟨q, hq⟩ : ∃ q, segTo ys i (e + 2) / val ds = q := ⟨_, rfl⟩
  have q0 : 0 ≤ q := by rw [← hq]; exact Int.ediv_nonneg hS0 (by omega)
  have hq1 : q * val ds ≤ segTo ys i (e + 2) := by rw [← hq]; exact Int.ediv_mul_le _ (by omega)
  have hq2 : segTo ys i (e + 2) < (q + 1) * val ds := by rw [← hq]; exact Int.lt_ediv_add_one_mul_self _ hD0
  have q1 : q ≤ 4294967295 := by
    have : q * val ds < 4294967296 * val ds := by omega
    have := Int.lt_of_mul_lt_mul_right this (by omega)
    omega
  have bu0 := hwy.at (i + e)
  have bu1 := hwy.at (i + (e + 1))
  have bd := hwd.at e
  have y0 := ho.cell (i + e) (by omega)
  have y1 := ho.cell (i + (e + 1)) (by omega)
  have hG := digit_guess (4294967296 ^ e) (segTo ys i e) (ys[i + e]?.getD 0 + ys[i + (e + 1)]?.getD 0 * 4294967296) (valTo ds e) (ds[e]?.getD 0) q _ _ P0 lob.2 dlb.1 hh hS1 hD1 q0 hq1
  obtain ⟨bd1, od1, rfl, ldd, d1⟩ : ∃ b1 o1, b = some ⟨b1, o1, none⟩ ∧ b1 < w.heap.size ∧ w.cell? ⟨b1, o1 + e, none⟩ = some (.int .u32 (ds[e]?.getD 0)) := by
    obtain ⟨a', cap'', hv, hr⟩ := hd
    rw [hlen] at hv hr
    simp only [Value.slice.injEq, true_and] at hv
    obtain ⟨rfl, rfl⟩ := hv
    exact hr.cells e (by omega)
  have hly := ho.len
  have HBE := hid (fun ww (hb : Below w.heap.size w ww) X (h0 : 0 ≤ X) (h1 : X ≤ 4294967295) => refBelow_any _ _ ((ys.drop i).take (e + 2)) ds X ww ((ho.mid hwy i (e + 2) c hil hc hcm).later hb) (hd.later hb) (by rw [List.length_take, List.length_drop]; omega) (by omega) h0 h1)
  rw [val_mid ys i (e + 2) (by omega)] at HBE
  have HOF := hid (fun ww (hb : Below w.heap.size w ww) => refOff_any base g n cap i (e + 2) c ys _ ds q ww (owns_later ho hb) hwy hil hc hcm hn (hd.later hb) (by omega) q0 q1 (by rw [Int.mul_comm]; exact hq1))
  have HQ := hid (And.intro hq1 hq2)
  have HWY := hid hwy
  have HD0 := hid hD0
  obtain ⟨u0, hu0⟩ : ∃ u0, ys[i + e]?.getD 0 = u0 := ⟨_, rfl⟩
  obtain ⟨u1, hu1⟩ : ∃ u1, ys[i + (e + 1)]?.getD 0 = u1 := ⟨_, rfl⟩
  obtain ⟨dt, hdt⟩ : ∃ dt, ds[e]?.getD 0 = dt := ⟨_, rfl⟩
  rw [hu0] at y0 bu0 hG
  rw [hu1] at y1 bu1 hG
  rw [hdt] at d1 bd hG hh
  obtain ⟨top, htop⟩ : ∃ top, u1 * 4294967296 + u0 = top := ⟨_, rfl⟩
  have t0 : 0 ≤ top ∧ top ≤ 18446744073709551615 := by omega
  rw [show u0 + u1 * 4294967296 = top by omega] at hG
  have g0 : 0 ≤ top / dt := Int.ediv_nonneg (by omega) (by omega)
  have g1 : top / dt ≤ top := Int.ediv_le_self _ (by omega)
  have hdz : ¬ dt = 0 := by omega
  obtain ⟨G, hGG⟩ : ∃ G, top / dt = G := ⟨_, rfl⟩
  rw [hGG] at hG g0 g1
  have hei : (e : Int) + 1 - 1 = (e : Int) := by omega
  clear hwd hD1 hS1 P0 lob dlb hD0 hS0 hq hq1 hq2 ho hd hlen hLD hu0 hu1 hdt hwy hly
  by_cases hmin : G ≤ 4294967295
  · go_enter Tryz.func122, Tryz.ntmps122
    go_wp2_with fail
    go_quiet (fail)
    go_wp2_with fail
    clear hGG htop
    go_loopw [7] (fun t wr => ∃ X : Int, t = .int .u64 X ∧ q ≤ X ∧ X ≤ 4294967295 ∧ Below w.heap.size w wr) (fun t _ => (intOf t).toNat)
    case atStart => exact ⟨G, rfl, by omega, by omega, bdw (Below.refl _ _) _⟩
    case round =>
      obtain ⟨X, rfl, hX0, hX1, hb⟩ := hrel
      have HB := hid hb
      have HC := hid (HBE.out wr hb X (by omega) hX1)
      by_cases hlt : q < X
      · have hdec : decide (segTo ys i (e + 2) < val ds * X) = true := decide_eq_true (by
          have a1 := HQ.out.2
          have a2 : (q + 1) * val ds ≤ X * val ds := Int.mul_le_mul_of_nonneg_right (by omega) (Int.le_of_lt HD0.out)
          rw [Int.mul_comm (val ds)]
          omega)
        rw [hdec] at HC
        clear hb hdec
        go_wp2_with fail
        refine Calls.mono HC.out ?_
        rintro x w2 ⟨rfl, hb2⟩
        have HB2 := hid (bt HB.out hb2)
        clear hb2
        go_wp2_with fail
        go_roundw
        case rel => exact ⟨X - 1, rfl, by omega, by omega, HB2.out⟩
        case measure => simp [intOf]; omega
      · obtain rfl : X = q := by omega
        have hdec : decide (segTo ys i (e + 2) < val ds * X) = false := decide_eq_false (by
          have a1 := HQ.out.1
          rw [Int.mul_comm (val ds)]
          omega)
        rw [hdec] at HC
        clear hb hdec
        go_wp2_with fail
        refine Calls.mono HC.out ?_
        rintro x w2 ⟨rfl, hb2⟩
        have HB2 := hid (bt HB.out hb2)
        have HF := hid (HOF.out w2 HB2.out)
        clear hb2 HC HBE HOF
        go_wp2_with fail
        refine Calls.mono HF.out ?_
        rintro x w3 ⟨us, rfl, o3, w3', k3, s3, g3⟩
        have HR := hid (And.intro o3 (And.intro w3' (And.intro k3 (And.intro s3 (grown_trans (grown_of_below HB2.out (some g)) g3)))))
        clear o3 w3' k3 s3 g3 HF
        go_wp2_with fail
        go_ret
        refine ⟨X, us, rfl, q0, q1, HR.out.1, HR.out.2.1, HR.out.2.2.1, by rw [Int.mul_comm]; exact HR.out.2.2.2.1, ?_, HR.out.2.2.2.2⟩
        have a1 := HR.out.2.2.2.1
        have a2 := HQ.out.2
        rw [Int.mul_comm] at a1
        rw [Int.add_mul] at a2
        omega
  · go_enter Tryz.func122, Tryz.ntmps122
    go_wp2_with fail
    go_quiet (fail)
    go_wp2_with fail
    clear hGG htop
    go_loopw [7] (fun t wr => ∃ X : Int, t = .int .u64 X ∧ q ≤ X ∧ X ≤ 4294967295 ∧ Below w.heap.size w wr) (fun t _ => (intOf t).toNat)
    case atStart => exact ⟨4294967295, rfl, by omega, by omega, bdw (Below.refl _ _) _⟩
    case round =>
      obtain ⟨X, rfl, hX0, hX1, hb⟩ := hrel
      have HB := hid hb
      have HC := hid (HBE.out wr hb X (by omega) hX1)
      by_cases hlt : q < X
      · have hdec : decide (segTo ys i (e + 2) < val ds * X) = true := decide_eq_true (by
          have a1 := HQ.out.2
          have a2 : (q + 1) * val ds ≤ X * val ds := Int.mul_le_mul_of_nonneg_right (by omega) (Int.le_of_lt HD0.out)
          rw [Int.mul_comm (val ds)]
          omega)
        rw [hdec] at HC
        clear hb hdec
        go_wp2_with fail
        refine Calls.mono HC.out ?_
        rintro x w2 ⟨rfl, hb2⟩
        have HB2 := hid (bt HB.out hb2)
        clear hb2
        go_wp2_with fail
        go_roundw
        case rel => exact ⟨X - 1, rfl, by omega, by omega, HB2.out⟩
        case measure => simp [intOf]; omega
      · obtain rfl : X = q := by omega
        have hdec : decide (segTo ys i (e + 2) < val ds * X) = false := decide_eq_false (by
          have a1 := HQ.out.1
          rw [Int.mul_comm (val ds)]
          omega)
        rw [hdec] at HC
        clear hb hdec
        go_wp2_with fail
        refine Calls.mono HC.out ?_
        rintro x w2 ⟨rfl, hb2⟩
        have HB2 := hid (bt HB.out hb2)
        have HF := hid (HOF.out w2 HB2.out)
        clear hb2 HC HBE HOF
        go_wp2_with fail
        refine Calls.mono HF.out ?_
        rintro x w3 ⟨us, rfl, o3, w3', k3, s3, g3⟩
        have HR := hid (And.intro o3 (And.intro w3' (And.intro k3 (And.intro s3 (grown_trans (grown_of_below HB2.out (some g)) g3)))))
        clear o3 w3' k3 s3 g3 HF
        go_wp2_with fail
        go_ret
        refine ⟨X, us, rfl, q0, q1, HR.out.1, HR.out.2.1, HR.out.2.2.1, by rw [Int.mul_comm]; exact HR.out.2.2.2.1, ?_, HR.out.2.2.2.2⟩
        have a1 := HR.out.2.2.2.1
        have a2 := HQ.out.2
        rw [Int.mul_comm] at a1
        rw [Int.add_mul] at a2
        omega
def Ref2 (w : World) (xs ys : List Int) (x : Ending) (w' : World) : Prop := ∃ v zs u rs, x = .returned (.tuple #[v, u]) ∧ w'.ownsRow w.heap.size 63 1 v zs.length (zs.map (Value.int .u32)) ∧ w'.ownsRow w.heap.size 63 1 u rs.length (rs.map (Value.int .u32)) ∧ Wd zs ∧ Wd rs ∧ Trimmed zs ∧ Trimmed rs ∧ val xs = val zs * val ys + val rs ∧ val rs < val ys ∧ Below w.heap.size w w'
theorem refDown_zero (v : Value) (xs : List Int) (t : Nat) (w : World) (h : Sl w v xs) (hn : xs.length ≤ 274877906944) (ht : t ≤ 31) :
    Calls Tryz.prog 123 #[v, .int .i64 (t : Int)] w (Ref1 w (val xs / 2 ^ t)) := by
  obtain ⟨a, cap, rfl, hr⟩ := h
  by_cases h0 : xs.length = 0
  · refine Calls.mono (refDown_none a xs.length cap 0 t (t : Int) w hn (by omega) (by omega) ht (by omega)) ?_
    rintro e w' ⟨rfl, rfl⟩
    have hx : xs = [] := List.eq_nil_of_length_eq_zero h0
    refine ⟨_, [], rfl, World.ownsRow_nil _ _ _ _, Wd.nil, Trimmed.nil, ?_, Below.refl _ _⟩
    rw [hx, val_nil]; simp
  · have e := refDown_any a xs.length cap xs 0 t (t : Int) w hr hn (by omega) ht (by omega)
    rw [Int.pow_zero, Int.ediv_one] at e
    exact e
theorem refUp_zero (v : Value) (xs : List Int) (t : Nat) (w : World) (h : Sl w v xs) (hn : xs.length ≤ 274877906944) (h0 : 0 < xs.length) (ht : t ≤ 31) :
    Calls Tryz.prog 121 #[v, .int .i64 (t : Int)] w (Ref1 w (val xs * 2 ^ t)) := by
  obtain ⟨a, cap, rfl, hr⟩ := h
  have e := refUp_any a xs.length cap xs 0 t (t : Int) w hr hn h0 (by omega) ht (by omega)
  rw [Int.pow_zero, Int.mul_one] at e
  exact e
theorem seg_end {vs : List Int} (wv : Wd vs) (k m : Nat) {D : Int} (hD : D < 4294967296 ^ m) (h : segTo vs k (m + 1) < D) : vs[k + m]?.getD 0 = 0 := by
  have hb := wv.at (k + m)
  have sb := segTo_nonneg wv k m
  by_cases c : vs[k + m]?.getD 0 = 0
  · exact c
  · have : 1 * (4294967296 : Int) ^ m ≤ vs[k + m]?.getD 0 * 4294967296 ^ m := Int.mul_le_mul_of_nonneg_right (by omega) (Int.le_of_lt (pw_pos m))
    rw [segTo_succ] at h
    omega
theorem bits_gap {ys : List Int} (hy : Trimmed ys) (e : Nat) (hl : ys.length = e + 2) (h1 : ys[e + 1]?.getD 0 ≤ 4294967295) : 32 * ((e : Int) + 2) - (bitsOf ys : Int) = ((32 - Lib.bitLen (ys[e + 1]?.getD 0).toNat : Nat) : Int) := by
  have hs : sz ys = e + 2 := by rw [← hl]; exact hy
  have hb := bitLen_le32 _ h1
  unfold bitsOf
  rw [hs, if_neg (by omega), show e + 2 - 1 = e + 1 by omega]
  omega
theorem len_of_ge {zs : List Int} (hw : Wd zs) {L : Nat} (h : (4294967296 : Int) ^ L ≤ val zs) : L < zs.length := by
  by_cases c : L < zs.length
  · exact c
  · have h1 := val_lt hw
    have h2 := pw_le (show zs.length ≤ L by omega)
    omega
theorem val_snoc_zero (ls : List Int) : val (ls ++ [0]) = val ls := by
  refine val_eq_of fun j => ?_
  rw [List.getElem?_append]
  split
  · rfl
  · rw [List.getElem?_eq_none (l := ls) (by omega)]
    by_cases e : j - ls.length = 0
    · rw [e]; rfl
    · rw [List.getElem?_eq_none (by simp; omega)]
theorem own_shape0 {w : World} {base e n : Nat} {v : Value} {xs : List Value} (h : w.ownsRow base e 1 v n xs) (hn : 0 < n) : ∃ g cap, v = .slice (some ⟨g, 0, none⟩) n cap ∧ base ≤ g ∧ g < w.heap.size ∧ n ≤ cap ∧ cap ≤ maxLen := by
  obtain ⟨g, cap, rfl, h1, h2⟩ := own_shape' h hn
  have := World.ownsRow.lt h g rfl
  exact ⟨g, cap, rfl, this.1, this.2, h1, h2⟩
set_option maxHeartbeats 1600000 in
theorem refOver_less (v u : Value) (xs ys : List Int) (w : World) (h : Sl w v xs) (g : Sl w u ys) (hn : xs.length ≤ 8200) (hm : ys.length ≤ 8200) (hlt : val xs < val ys) :
    Calls Tryz.prog 103 #[v, u] w (Ref2 w xs ys) := by
  have HC := hid (refCompare_sl _ _ xs ys w h g (by omega) (by omega))
  rw [cmpI_lt hlt] at HC
  have HT := hid (refTrim_sl _ xs w h (by omega))
  have HLT := hid hlt
  have HW := hid h.wd
  clear h g hlt
  go_enter Tryz.func103, Tryz.ntmps103
  go_wp2_with fail
  refine Calls.mono HC.out ?_
  rintro e w1 ⟨rfl, rfl⟩
  go_wp2_with fail
  refine Calls.mono HT.out ?_
  rintro e w2 ⟨v2, rfl, o2, hb2⟩
  have HO := hid (And.intro (owns_len o2) hb2)
  clear o2 hb2
  go_wp2_with fail
  go_ret2
  exact ⟨_, [], v2, _, rfl, World.ownsRow_nil _ _ _ _, HO.out.1, Wd.nil, HW.out.trimmed, Trimmed.nil, Trimmed.trimmed _, by rw [val_trimmed, val_nil]; omega, by rw [val_trimmed]; exact HLT.out, HO.out.2⟩
set_option maxHeartbeats 1600000 in
theorem refOver_word (v u : Value) (xs : List Int) (y : Int) (w : World) (h : Sl w v xs) (g : Sl w u [y]) (hn : xs.length ≤ 8200) (hy : 1 ≤ y) (hge : y ≤ val xs) :
    Calls Tryz.prog 103 #[v, u] w (Ref2 w xs [y]) := by
  have HC := hid (refCompare_sl _ _ xs [y] w h g (by omega) (by simp))
  have by' := g.wd.at 0
  simp at by'
  obtain ⟨a, cap, rfl, hr⟩ := h
  obtain ⟨b, cap', rfl, gr⟩ := g
  obtain ⟨b1, o1, rfl, l1, c1⟩ := gr.cells 0 (by simp)
  simp at c1
  have hcap := gr.2.2.2.1
  simp at hcap
  have HS := hid (refSmall_any a _ cap xs y w hr (by omega) ⟨hy, by omega⟩)
  rw [val_one] at HC
  obtain ⟨cc, hcc, hcv⟩ : ∃ c, cmpI (val xs) y = c ∧ (c = 0 ∨ c = 1) := by
    by_cases e : val xs = y
    · exact ⟨0, cmpI_eq e, .inl rfl⟩
    · exact ⟨1, cmpI_gt (by omega), .inr rfl⟩
  rw [hcc] at HC
  have hl1 : List.length [y] = 1 := rfl
  rw [hl1] at HC ⊢
  clear hr gr hge hcc hl1
  rcases hcv with rfl | rfl
  all_goals
    go_enter Tryz.func103, Tryz.ntmps103
    go_wp2_with fail
    refine Calls.mono HC.out ?_
    rintro e w1 ⟨rfl, rfl⟩
    go_wp2_with fail
    refine Calls.mono HS.out ?_
    rintro e w2 ⟨v2, zs, r, rfl, o2, wz, tz, hv, r0, r1, hb2⟩
    have r2 : r ≤ 4294967295 := by omega
    have HO := hid (refOf_val r w2 r0 (by omega))
    have HR := hid (And.intro o2 (And.intro hb2 (And.intro hv r1)))
    clear o2 hb2 hv HC HS r1
    go_wp2_with fail
    refine Calls.mono HO.out ?_
    rintro e w3 ⟨v3, rs, rfl, o3, wr, tr, hvr, hb3⟩
    have HQ := hid (And.intro (owns_base o3 HR.out.2.1.size) (And.intro (owns_later HR.out.1 hb3) (And.intro (bt HR.out.2.1 hb3) hvr)))
    clear o3 hb3 hvr HO
    go_wp2_with fail
    go_ret2
    exact ⟨v2, zs, v3, rs, rfl, HQ.out.2.1, HQ.out.1, wz, wr, tz, tr, by rw [HQ.out.2.2.2, val_one]; exact HR.out.2.2.1, by rw [HQ.out.2.2.2, val_one]; exact HR.out.2.2.2, HQ.out.2.2.1⟩
theorem grown_set' (w : World) (p : Addr) (v : Value) : w.grownBy (w.setCell p v) (some p.block) :=
  ⟨rfl, rfl, rfl, by simp [World.setCell], fun k _ hne => Below.heap_setCell w p v k (fun e => hne (by rw [e]))⟩
set_option maxHeartbeats 12800000 in
theorem refOver_long (v u : Value) (xs ys : List Int) (e : Nat) (w : World) (h : Sl w v xs) (g : Sl w u ys) (hn : xs.length ≤ 8200) (hm : ys.length ≤ 8200) (hx : Trimmed xs) (hy : Trimmed ys) (hl : ys.length = e + 2) (hge : val ys ≤ val xs) :
    Calls Tryz.prog 103 #[v, u] w (Ref2 w xs ys) := by
  obtain ⟨i0, hi, hz0, hz1, hz2⟩ := info_parts Tryz.infoW
  have wx := h.wd
  have wy := g.wd
  have hyx := len_of_lt wy hy (L := xs.length) (by have := val_lt wx; omega)
  obtain ⟨s1, s2, s3, s4, s5⟩ := normal wy hy e hl
  have hgap := bits_gap hy e hl s2
  obtain ⟨t, ht⟩ : ∃ t, 32 - Lib.bitLen (ys[e + 1]?.getD 0).toNat = t := ⟨_, rfl⟩
  rw [ht] at s3 s4 s5 hgap
  have HC := hid (refCompare_sl _ _ xs ys w h g (by omega) (by omega))
  obtain ⟨cc, hcc, hcv⟩ : ∃ c, cmpI (val xs) (val ys) = c ∧ (c = 0 ∨ c = 1) := by
    by_cases e : val xs = val ys
    · exact ⟨0, cmpI_eq e, .inl rfl⟩
    · exact ⟨1, cmpI_gt (by omega), .inr rfl⟩
  rw [hcc] at HC
  have HB := hid (refBits_sl _ ys w g (by omega))
  have HSX := hid h
  have HSY := hid g
  have HN := hid (And.intro s4 (And.intro s5 (And.intro hge hl)))
  have hyn : e + 2 ≤ xs.length := by omega
  obtain ⟨a, cap, rfl, hr⟩ := h
  obtain ⟨b, cap', rfl, gr⟩ := g
  rw [hl] at HC HB ⊢
  obtain ⟨B, hB⟩ : ∃ B, bitsOf ys = B := ⟨_, rfl⟩
  rw [hB] at HB hgap
  have hB0 : (B : Int) ≤ 1000000 := by omega
  have HY' : Hid (Sl w (.slice b (e + 2) cap') ys) := by have e1 := HSY.out; rw [hl] at e1; exact e1
  clear hr gr hcc s1 s2 s4 s5 ht hge hl hB HSY hm hyx
  have hnl : ¬ cc < 0 := by omega
  have hc1 : cc ≤ 1 := by omega
  clear hcv
  skip
  · skip
    go_enter Tryz.func103, Tryz.ntmps103
    go_wp2_with fail
    refine Calls.mono HC.out ?_
    rintro x w' ⟨rfl, rfl⟩
    clear HC
    go_wp2_with fail
    refine Calls.mono HB.out ?_
    rintro x wB ⟨rfl, hbB⟩
    have HU1 := hid (refUp_zero _ ys t wB (HY'.out.later hbB) (by have := HN.out.2.2.2; omega) (by have := HN.out.2.2.2; omega) s3)
    have HBB := hid hbB
    clear hbB HB
    go_wp2_with fail
    refine Calls.mono HU1.out ?_
    intro x w1 h1
    obtain ⟨a1, c1, ds, rfl, oD, wD, tD, vD, hb1⟩ := h1.slice
    have hDl : ds.length = e + 2 := by
      have l1 := len_of_lt wD tD (L := e + 2) (by rw [vD]; exact HN.out.1)
      have l2 := len_of_ge wD (L := e + 1) (by
        rw [vD]
        have q1 := HN.out.2.1
        have q2 : (4294967296 : Int) ^ (e + 2) = 4294967296 ^ (e + 1) * 4294967296 := pw_succ (e + 1)
        have q3 := pw_pos (e + 1)
        omega)
      omega
    have hDt := top_one wD e hDl (by rw [vD]; exact HN.out.2.1)
    have HDG : Hid ((4294967296 : Int) ^ (e + 1) ≤ val ds) := by
      show _ ≤ _
      rw [vD]
      have q1 := HN.out.2.1
      have q2 : (4294967296 : Int) ^ (e + 2) = 4294967296 ^ (e + 1) * 4294967296 := pw_succ (e + 1)
      have q3 := pw_pos (e + 1)
      omega
    have HDM : Hid (val ds < 4294967296 ^ (e + 2)) := by show _ < _; rw [vD]; exact HN.out.1
    have HB1 := hid (bt HBB.out hb1)
    have HD := hid (Sl.own oD wD)
    rw [hDl] at HD
    have HU2 := hid (refUp_zero _ xs t w1 (HSX.out.later HB1.out) (by omega) (by omega) s3)
    have HVD := hid vD
    have HDl := hid hDl
    have HDt := hid hDt
    have HWD := hid wD
    rw [hDl]
    clear h1 oD wD tD vD hb1 hDl hDt HU1 HBB
    go_wp2_with fail
    refine Calls.mono HU2.out ?_
    intro x w2 h2
    obtain ⟨a2, c2, ls, rfl, oL, wL, tL, vL, hb2⟩ := h2.slice
    have hLl : e + 2 ≤ ls.length := by
      have := len_of_ge wL (L := e + 1) (by
        rw [vL]
        have q1 := HN.out.2.1
        have q2 : (4294967296 : Int) ^ (e + 2) = 4294967296 ^ (e + 1) * 4294967296 := pw_succ (e + 1)
        have q3 := pw_pos (e + 1)
        have q4 : val ys * 2 ^ t ≤ val xs * 2 ^ t := Int.mul_le_mul_of_nonneg_right HN.out.2.2.1 (Int.le_of_lt (two_pos t))
        omega)
      omega
    have hLm : ls.length ≤ 8201 := len_of_lt wL tL (by
      rw [vL]
      have q1 := val_lt wx
      have q2 : (4294967296 : Int) ^ (xs.length + 1) ≤ 4294967296 ^ 8201 := pw_le (by omega)
      have q3 : (2 : Int) ^ t ≤ 2 ^ 32 := two_le (by omega)
      have q4 : val xs * 2 ^ t ≤ val xs * 2 ^ 32 := Int.mul_le_mul_of_nonneg_left q3 (val_nonneg wx)
      rw [pw_succ] at q2
      generalize (4294967296 : Int) ^ 8201 = Z at *
      generalize (4294967296 : Int) ^ xs.length = Y at *
      have q5 : (2 : Int) ^ 32 = 4294967296 := by decide
      rw [q5] at q4
      omega)
    have hs2 := hb2.size
    have HVL := hid vL
    have HB2 := hid hb2
    have HWL := hid wL
    have oL' := oL
    obtain ⟨R, hR⟩ : ∃ R, R = ls.map (Value.int .u32) := ⟨_, rfl⟩
    obtain ⟨L, hL⟩ : ∃ L, ls.length = L := ⟨_, rfl⟩
    rw [← hR, hL] at oL
    rw [hL] at hLl hLm ⊢
    have HRL : Hid (R ++ [.int .u32 0] = (ls ++ [0]).map (Value.int .u32)) := by show _ = _; rw [hR]; simp
    have HLL := hid hL
    clear h2 oL' vL hb2 HU2 hR hL tL wL
    go_wp2_with (at_builtin; refine wpList_append_own _ rfl _ _ 22 rfl w1.heap.size 63 i0 (.int .u32 0) 1 4 Tryz.underlying22 hi hz0 hz1 hz2 rfl (by decide) _ _ _ rfl (oL.alloc _) ⟨w2.heap.size, 0, none⟩ 1 1 [.int .u32 0] rfl rfl (cell_one_new _ _ _) (by simp [Value.oneCell']) (by unfold maxLen; omega) (by omega) (by simp; omega) ?_)
    intro v3 w3 o3 hg3 _
    have hb3 : Below w1.heap.size w1 w3 := (HB2.out.alloc (by omega) _).grown hg3 (by simp; omega) (fun g hg => (oL.lt g hg).1)
    clear hg3 oL
    rw [HRL.out] at o3
    obtain ⟨gR, cR, hv3, gb, gl, cl, cm⟩ := own_shape0 o3 (by omega)
    subst hv3
    obtain ⟨K, hK1, hK2⟩ : ∃ K, L + 1 ≤ K + (e + 2) ∧ K + (e + 2) ≤ L + 1 := ⟨L + 1 - (e + 2), by omega, by omega⟩
    have HO3 : Hid (OwnC w3 w1.heap.size gR (L + 1) cR (ls ++ [0])) := o3
    have HB3 := hid hb3
    have hs3 := hb3.size
    have hKi : ((L : Int) + 1 - ((e : Int) + 2)) = (K : Int) := by omega
    clear o3 hb3 HRL
    go_wp2_with (at_make; refine wpList_make_full _ rfl _ _ 22 rfl w3.heap.size 63 i0 (.int .u32 0) 1 Tryz.underlying22 hi hz0 hz1 _ _ _ _ K rfl rfl (by omega) (by omega) (by rw [hz2]; omega) (by unfold maxLen; omega) (Nat.le_refl _) ?_)
    intro w4 hown hgrow
    have hbel4 : Below w3.heap.size w3 w4 := (Below.refl _ _).grown hgrow (Nat.le_refl _) (fun k hk => by simp at hk)
    have HOQ := hid (OwnW.made hown)
    have HB4 := hid hbel4
    clear hown hgrow hbel4
    go_wp2_with fail
    go_loopw [12] (fun z wr => ∃ (k : Nat) (us qs : List Int), k ≤ K ∧ z = .int .i64 ((k : Int) - 1) ∧ Wd us ∧ Wd qs ∧ Hid (val ls = valTo us (k + (e + 2)) + segTo qs k (K - k) * val ds * 4294967296 ^ k) ∧ Hid (segTo us k (e + 2) < val ds) ∧ Hid (∀ j, k + (e + 2) ≤ j → us[j]?.getD 0 = 0) ∧
      OwnC wr w1.heap.size gR (L + 1) cR us ∧ OwnW wr w3.heap.size w3.heap.size K qs ∧ Below w1.heap.size w1 wr) (fun z _ => (intOf z + 1).toNat)
    case atStart =>
      have hl0 : (ls ++ [0]).length = L + 1 := by rw [List.length_append, HLL.out]; rfl
      have hw0 : Wd (ls ++ [0]) := HWL.out.append (Wd.one (by omega))
      have hz0' : (ls ++ [0])[K + (e + 1)]?.getD 0 = 0 := by
        rw [List.getElem?_append, if_neg (by have := HLL.out; omega), show K + (e + 1) - ls.length = 0 by have := HLL.out; omega]; rfl
      refine ⟨K, ls ++ [0], List.replicate K 0, Nat.le_refl _, rfl, hw0, Wd.replicate _, ?_, ?_, ?_, owns_later HO3.out HB4.out, HOQ.out, HB3.out.trans (HB4.out.mono hs3)⟩
      · show _ = _
        rw [valTo_stable _ _ (by rw [hl0]; omega), val_snoc_zero, Nat.sub_self]
        simp [segTo]
      · show _ < _
        have q1 := (segTo_bounds hw0 K (e + 1)).2
        have q2 := HDG.out
        rw [show e + 2 = e + 1 + 1 by omega, segTo_succ, hz0', Int.zero_mul]
        omega
      · intro j hj
        rw [List.getElem?_eq_none (by rw [hl0]; omega)]; rfl
    case round =>
      obtain ⟨k, us, qs, hk, rfl, wu, wq, HV, HS, HZ, oU, oQ, hb⟩ := hrel
      have hbs := hb.size
      have hqb := oQ.base
      have hub := (World.ownsRow.lt oU gR rfl)
      have hlu := oU.len
      have hlq := oQ.len
      rcases k with _ | k
      · have hval : val us = valTo us (e + 2) := by
          have e1 : ∀ m, e + 2 ≤ m → valTo us m = valTo us (e + 2) := fun m hm => by
            induction m with
            | zero => omega
            | succ m ih =>
              by_cases c : e + 2 = m + 1
              · rw [c]
              · rw [valTo_succ, HZ.out m (by omega), ih (by omega)]; omega
          rw [← valTo_stable us (L + 1) (by omega)]
          exact e1 (L + 1) (by omega)
        have HF : Hid (val xs = val qs * val ys + val us / 2 ^ t ∧ val us / 2 ^ t < val ys) := by
          have e1 := HV.out
          have e2 := HS.out
          rw [segTo_zero, ← hval] at e2
          rw [segTo_zero, Nat.zero_add, Nat.sub_zero, valTo_stable qs K (by omega), Int.pow_zero, Int.mul_one, HVL.out, HVD.out, ← hval, ← Int.mul_assoc] at e1
          rw [HVD.out] at e2
          have hp := two_pos t
          have e3 : val us = (val xs - val qs * val ys) * 2 ^ t := by rw [Int.sub_mul]; omega
          have e4 : val us / 2 ^ t = val xs - val qs * val ys := by rw [e3]; exact Int.mul_ediv_cancel _ (by omega)
          refine ⟨by rw [e4]; omega, Int.ediv_lt_of_lt_mul hp e2⟩
        have hsQ : Sl wr (.slice (some ⟨w3.heap.size, 0, none⟩) K K) qs := by
          have e1 := Sl.own oQ wq
          exact e1
        have HTQ := hid (refTrim_sl _ qs wr hsQ (by omega))
        have HUO := hid oU
        have HBW : Hid (Below w.heap.size w wr) := HB1.out.trans (hb.mono HB1.out.size)
        clear HV HS HZ oU oQ hsQ hval hb
        go_wp2_with fail
        refine Calls.mono HTQ.out ?_
        rintro x w5 ⟨v5, rfl, o5, hb5⟩
        have HT5 := hid (And.intro o5 hb5)
        have HTR := hid (refTrim_sl _ us w5 (Sl.own (owns_later HUO.out hb5) wu) (by omega))
        clear o5 hb5 HTQ
        go_wp2_with fail
        refine Calls.mono HTR.out ?_
        rintro x w6 ⟨v6, rfl, o6, hb6⟩
        have HDN := hid (refDown_zero v6 (trimmed us) t w6 (Sl.own o6 wu.trimmed) (by rw [length_trimmed]; have := sz_le us; omega) s3)
        rw [val_trimmed] at HDN
        have HB6 := hid hb6
        clear o6 hb6 HTR
        go_wp2_with fail
        refine Calls.mono HDN.out ?_
        rintro x w7 ⟨v7, rs, rfl, o7, w7', t7, hv7, hb7⟩
        have HE := hid (And.intro o7 (And.intro hv7 hb7))
        clear o7 hv7 hb7 HDN
        go_wp2_with fail
        go_ret2
        have hb57 := bt HB6.out HE.out.2.2
        have hb07 := bt HBW.out (bt HT5.out.2 hb57)
        refine ⟨v5, _, v7, rs, rfl, owns_base (owns_len (owns_later HT5.out.1 hb57)) HBW.out.size, owns_base HE.out.1 (by have := HBW.out.size; have := HT5.out.2.size; have := HB6.out.size; omega), wq.trimmed, w7', Trimmed.trimmed _, t7, ?_, ?_, hb07⟩
        · rw [val_trimmed, HE.out.2.1]; exact HF.out.1
        · rw [HE.out.2.1]; exact HF.out.2
      · have ek : (((k + 1 : Nat) : Int) - 1) = (k : Int) := by omega
        rw [ek]
        clear ek
        have hs1 : segTo us k (e + 2 + 1) < 4294967296 * val ds := by
          have b0 := wu.at k
          have q := HS.out
          rw [segTo_cons]
          omega
        have HDG2 := hid (refDigit_any w1.heap.size gR (L + 1) cR k (e + 1) (cR - k) us a1 c1 ds wr oU wu (by omega) (by omega) (by omega) (by omega) (HD.out.later hb) HDl.out HDt.out hs1)
        have HOQ2 := hid oQ
        have HB5 := hid hb
        have hck : ¬ cR = k := by omega
        have HLS := hid (fun vs q wv => long_step us vs qs (e + 2) K k (val ls) (val ds) q (by omega) hlq wv HDM.out HV.out)
        have HZ2 := hid HZ.out
        clear oU oQ hb hs1 HV HS HZ
        go_wp2_with fail
        rw [show k + (e + 2) + 1 - k = e + 1 + 2 by omega]
        refine Calls.mono HDG2.out ?_
        rintro x w5 ⟨q, vs, rfl, q0, q1, oV, wv, kV, sV, ltV, gV⟩
        have hnq : (w3.heap.size : Nat) ≠ gR := by omega
        have oQ5 : OwnW w5 w3.heap.size w3.heap.size K qs := World.ownsRow.kept HOQ2.out gV (.inr (fun e => hnq (Option.some.inj e)))
        have y1 := oQ5.cell k (by omega)
        have f1 := oQ5.free k
        have HQ6 := hid (oQ5.set k q)
        have HR6 : Hid (OwnC (w5.setCell ⟨w3.heap.size, k, none⟩ (.int .u32 q)) w1.heap.size gR (L + 1) cR vs) := World.ownsRow.kept oV (grown_set' w5 ⟨w3.heap.size, k, none⟩ (.int .u32 q)) (.inr (fun e => hnq (Option.some.inj e).symm))
        have HB6 : Hid (Below w1.heap.size w1 (w5.setCell ⟨w3.heap.size, k, none⟩ (.int .u32 q))) := (HB5.out.grown gV hbs (fun g hg => by have := Option.some.inj hg; omega)).setCell (p := ⟨w3.heap.size, k, none⟩) hs3 _
        obtain ⟨r1, r2⟩ := HLS.out vs q wv (fun j hj => kV j (.inl hj)) sV ltV
        have HR := hid (And.intro r1 r2)
        have HZN : Hid (∀ j, k + (e + 2) ≤ j → vs[j]?.getD 0 = 0) := fun j hj => by
          by_cases c : j = k + (e + 2)
          · rw [c]; exact seg_end wv k (e + 2) HDM.out ltV
          · rw [kV j (.inr (by omega))]; exact HZ2.out j (by omega)
        clear oV kV sV ltV gV oQ5 r1 r2 HLS HZ2 HDG2
        go_wp2_with fail
        go_roundw
        case rel => exact ⟨k, vs, qs.set k q, by omega, rfl, wv, wq.set k ⟨q0, q1⟩, HR.out.1, HR.out.2, HZN, HR6.out, HQ6.out, HB6.out⟩
        case measure => simp [intOf]
theorem refOver_any (v u : Value) (xs ys : List Int) (w : World) (h : Sl w v xs) (g : Sl w u ys) (hn : xs.length ≤ 8200) (hm : ys.length ≤ 8200) (hx : Trimmed xs) (hy : Trimmed ys) (h0 : 0 < ys.length) :
    Calls Tryz.prog 103 #[v, u] w (Ref2 w xs ys) := by
  by_cases hlt : val xs < val ys
  · exact refOver_less v u xs ys w h g hn hm hlt
  · by_cases h1 : ys.length = 1
    · obtain ⟨y, rfl⟩ := List.length_eq_one_iff.1 h1
      have hy1 : 1 ≤ y := by
        have b := g.wd.head
        by_cases c : y = 0
        · subst c; exact absurd hy (by unfold Trimmed; decide)
        · omega
      rw [val_one] at hlt
      exact refOver_word v u xs y w h g hn hy1 (by omega)
    · exact refOver_long v u xs ys (ys.length - 2) w h g hn hm hx hy (by omega) (by omega)
set_option maxHeartbeats 3200000 in
theorem refCommon_any (v u : Value) (xs ys : List Int) (w : World) (h : Sl w v xs) (g : Sl w u ys) (hn : xs.length ≤ 8200) (hm : ys.length ≤ 8200) (hx : Trimmed xs) (hy : Trimmed ys) :
    Calls Tryz.prog 87 #[v, u] w (Ref1 w (gcdI (val xs) (val ys))) := by
  have HS := hid (And.intro h g)
  obtain ⟨a, cap, rfl, hr⟩ := h
  obtain ⟨b, cap', rfl, gr⟩ := g
  clear hr gr
  go_enter Tryz.func87, Tryz.ntmps87
  go_wp2_with fail
  go_loopg [0, 1] (val ys).toNat (fun k s0 s1 wr => ∃ (a : Option Addr) (c : Nat) (us : List Int) (b : Option Addr) (d : Nat) (vs : List Int), s0 = .slice a us.length c ∧ s1 = .slice b vs.length d ∧ us.length ≤ 8200 ∧ vs.length ≤ 8200 ∧ Hid (Sl wr (.slice a us.length c) us ∧ Sl wr (.slice b vs.length d) vs ∧ Trimmed us ∧ Trimmed vs ∧ (k : Int) = val vs ∧ gcdI (val us) (val vs) = gcdI (val xs) (val ys)) ∧ Below w.heap.size w wr)
  case atStart => exact ⟨a, cap, xs, b, cap', ys, rfl, rfl, hn, hm, ⟨HS.out.1, HS.out.2, hx, hy, by have := val_nonneg HS.out.2.wd; omega, rfl⟩, Below.refl _ _⟩
  case round =>
    obtain ⟨a1, c1, us, b1, d1, vs, rfl, rfl, lu, lv, HR, hb⟩ := hrel
    by_cases h0 : vs.length = 0
    · have HF : Hid (val us = gcdI (val xs) (val ys)) := by
        have e1 : vs = [] := List.eq_nil_of_length_eq_zero h0
        have e2 := HR.out.2.2.2.2.2
        rw [e1, val_nil, gcdI_zero _ (val_nonneg HR.out.1.wd)] at e2
        exact e2
      have HT := hid (refTrim_sl _ us wr HR.out.1 (by omega))
      have HW := hid HR.out.1.wd
      rw [h0]
      clear HR HS h0 lv
      go_wp2_with fail
      refine Calls.mono HT.out ?_
      rintro e w3 ⟨v3, rfl, o3, hb3⟩
      have HO3 := hid (owns_base (owns_len o3) hb.size)
      have hbF := bt hb hb3
      clear o3 hb3
      go_wp2_with fail
      go_ret
      exact ⟨v3, _, rfl, HO3.out, HW.out.trimmed, Trimmed.trimmed _, by rw [val_trimmed]; exact HF.out, hbF⟩
    · have hpos : (0 : Int) < (vs.length : Int) := by omega
      have HO := hid (refOver_any _ _ us vs wr HR.out.1 HR.out.2.1 lu lv HR.out.2.2.1 HR.out.2.2.2.1 (by omega))
      have HB := hid hb
      clear hb HS
      go_wp2_with fail
      refine Calls.mono HO.out ?_
      rintro e w2 ⟨v2, zs, v3, rs, rfl, o2, o3, wz, wr', tz, tr, hv, hlt, hb2⟩
      obtain ⟨a3, c3, hs⟩ := own_slice' o3
      subst hs
      have lr : rs.length ≤ 8200 := by
        have := len_of_lt wr' tr (L := vs.length) (by have := val_lt HR.out.2.1.wd; omega)
        omega
      have HN : Hid (Sl w2 (.slice b1 vs.length d1) vs ∧ Sl w2 (.slice a3 rs.length c3) rs ∧ Trimmed vs ∧ Trimmed rs ∧ ((val rs).toNat : Int) = val rs ∧ gcdI (val vs) (val rs) = gcdI (val xs) (val ys)) :=
        ⟨HR.out.2.1.later hb2, Sl.own o3 wr', HR.out.2.2.2.1, tr, by have := val_nonneg wr'; omega, by rw [← HR.out.2.2.2.2.2]; exact (gcdI_rest hv).symm⟩
      have HM : Hid ((val rs).toNat < (val vs).toNat) := by have := val_nonneg wr'; show _ < _; omega
      have HBN := hid (bt HB.out hb2)
      have HKK := hid HR.out.2.2.2.2.1
      clear o2 o3 hv hlt hb2 HR HO HB
      go_wp2_with fail
      go_roundg (val rs).toNat
      case rel => exact ⟨b1, d1, vs, a3, c3, rs, rfl, rfl, lv, lr, HN, HBN.out⟩
      case measure => have := HM.out; have := HKK.out; omega
set_option maxHeartbeats 800000 in
theorem refTold_ok (a : Option Addr) (n c : Nat) (w : World) (h : n ≤ 8192) :
    Calls Tryz.prog 86 #[.slice a n c] w fun e w' => e = .returned (.tuple #[.slice a n c, .int .i64 0]) ∧ w = w' := by
  have h' : ¬ (8192 : Int) < (n : Int) := by omega
  go_enter Tryz.func86, Tryz.ntmps86
  go_wp2_with fail
  go_ret2
  exact ⟨rfl, rfl⟩
set_option maxHeartbeats 800000 in
theorem refTold_long (a : Option Addr) (n c : Nat) (w : World) (h : 8192 < n) :
    Calls Tryz.prog 86 #[.slice a n c] w fun e w' => e = .returned (.tuple #[.slice none 0 0, .int .i64 3]) ∧ w = w' := by
  have h' : (8192 : Int) < (n : Int) := by omega
  go_enter Tryz.func86, Tryz.ntmps86
  go_wp2_with fail
  go_ret2
  exact ⟨rfl, rfl⟩
theorem trimmed_wide {zs : List Int} {t : Int} (hw : Wd zs) (ht : Trimmed zs) (hv : val zs = t) : 8192 < zs.length ↔ wide ≤ t := by
  rw [← hv, ← wide_iff hw]
  have e : sz zs = zs.length := ht
  rw [e]
set_option maxHeartbeats 800000 in
theorem refBoth_sl (v u : Value) (xs ys : List Int) (w : World) (h : Sl w v xs) (g : Sl w u ys) (hn : xs.length ≤ 281474976710656) (hm : ys.length ≤ 281474976710656) :
    Calls Tryz.prog 85 #[v, u] w fun e w' => e = .returned (.int .i64 (both xs ys)) ∧ w = w' := by
  have H1 := hid (refCheck_sl v xs w h hn)
  have H2 := hid (refCheck_sl u ys w g hm)
  by_cases hc : chk xs = 0
  · have HE : Hid (both xs ys = chk ys) := by show _ = _; unfold both; rw [if_pos hc]
    rw [hc] at H1
    clear h g hc
    go_enter Tryz.func85, Tryz.ntmps85
    go_wp2_with fail
    refine Calls.mono H1.out ?_
    rintro e w1 ⟨rfl, rfl⟩
    go_wp2_with fail
    refine Calls.mono H2.out ?_
    rintro e w1 ⟨rfl, rfl⟩
    go_wp2_with fail
    go_ret
    exact ⟨ret_int HE.out.symm, rfl⟩
  · have HE : Hid (both xs ys = chk xs) := by show _ = _; unfold both; rw [if_neg hc]
    have hc' : (chk xs == 0) = false := by simpa using hc
    clear h g hc
    go_enter Tryz.func85, Tryz.ntmps85
    go_wp2_with fail
    refine Calls.mono H1.out ?_
    rintro e w1 ⟨rfl, rfl⟩
    go_wp2_with fail
    go_ret
    exact ⟨ret_int HE.out.symm, rfl⟩
set_option maxHeartbeats 1600000 in
theorem refAdd_sl (v u : Value) (xs ys : List Int) (w : World) (h : Sl w v xs) (g : Sl w u ys) (hn : xs.length ≤ 281474976710656) (hm : ys.length ≤ 281474976710656) :
    Calls Tryz.prog 93 #[v, u] w (Told w (both xs ys) (val xs + val ys)) := by
  by_cases hb : both xs ys = 0
  · have HB := hid (refBoth_sl v u xs ys w h g hn hm)
    rw [hb] at HB
    obtain ⟨k1, k2⟩ := both_ok hb
    obtain ⟨lx, tx⟩ := chk_ok k1
    obtain ⟨ly, ty⟩ := chk_ok k2
    have HP := hid (refPlus_sl v u xs ys w h g (by omega) (by omega))
    rw [hb]
    clear h g hb k1 k2
    go_enter Tryz.func93, Tryz.ntmps93
    go_wp2_with fail
    refine Calls.mono HB.out ?_
    rintro e w1 ⟨rfl, rfl⟩
    go_wp2_with fail
    refine Calls.mono HP.out ?_
    intro e w2 h2
    obtain ⟨a2, c2, zs, rfl, o2, wz, tz, vz, hb2⟩ := h2.slice
    have hwd := trimmed_wide wz tz vz
    have HR := hid (And.intro o2 (And.intro wz (And.intro tz (And.intro vz (And.intro hwd hb2)))))
    by_cases hlen : 8192 < zs.length
    · have HT := hid (refTold_long a2 zs.length c2 w2 hlen)
      have HL := hid (hwd.1 hlen)
      clear h2 o2 wz tz vz hwd hb2 hlen
      go_wp2_with fail
      refine Calls.mono HT.out ?_
      rintro e w3 ⟨rfl, rfl⟩
      go_wp2_with fail
      go_ret2
      exact ⟨_, [], 3, rfl, World.ownsRow_nil _ _ _ _, Tells.tooLong HL.out, HR.out.2.2.2.2.2⟩
    · have HT := hid (refTold_ok a2 zs.length c2 w2 (by omega))
      have HL := hid (Int.not_le.1 fun h => hlen (hwd.2 h))
      clear h2 o2 wz tz vz hwd hb2 hlen
      go_wp2_with fail
      refine Calls.mono HT.out ?_
      rintro e w3 ⟨rfl, rfl⟩
      go_wp2_with fail
      go_ret2
      exact ⟨_, zs, 0, rfl, HR.out.1, Tells.ok HR.out.2.1 HR.out.2.2.1 HR.out.2.2.2.1 HL.out, HR.out.2.2.2.2.2⟩
  · have HB := hid (refBoth_sl v u xs ys w h g hn hm)
    have hb' : (both xs ys == 0) = false := by simpa using hb
    have HE := hid hb
    clear h g hb
    go_enter Tryz.func93, Tryz.ntmps93
    go_wp2_with fail
    refine Calls.mono HB.out ?_
    rintro e w1 ⟨rfl, rfl⟩
    go_wp2_with fail
    go_ret2
    exact ⟨_, [], _, rfl, World.ownsRow_nil _ _ _ _, Tells.err HE.out, Below.refl _ _⟩
set_option maxHeartbeats 1600000 in
theorem refGcd_sl (v u : Value) (xs ys : List Int) (w : World) (h : Sl w v xs) (g : Sl w u ys) (hn : xs.length ≤ 281474976710656) (hm : ys.length ≤ 281474976710656) :
    Calls Tryz.prog 68 #[v, u] w (Told w (both xs ys) (gcdI (val xs) (val ys))) := by
  by_cases hb : both xs ys = 0
  · have HB := hid (refBoth_sl v u xs ys w h g hn hm)
    rw [hb] at HB
    obtain ⟨k1, k2⟩ := both_ok hb
    obtain ⟨lx, tx⟩ := chk_ok k1
    obtain ⟨ly, ty⟩ := chk_ok k2
    have HP := hid (refCommon_any v u xs ys w h g (by omega) (by omega) tx ty)
    rw [hb]
    clear h g hb k1 k2
    go_enter Tryz.func68, Tryz.ntmps68
    go_wp2_with fail
    refine Calls.mono HB.out ?_
    rintro e w1 ⟨rfl, rfl⟩
    go_wp2_with fail
    refine Calls.mono HP.out ?_
    intro e w2 h2
    obtain ⟨a2, c2, zs, rfl, o2, wz, tz, vz, hb2⟩ := h2.slice
    have hwd := trimmed_wide wz tz vz
    have HR := hid (And.intro o2 (And.intro wz (And.intro tz (And.intro vz (And.intro hwd hb2)))))
    by_cases hlen : 8192 < zs.length
    · have HT := hid (refTold_long a2 zs.length c2 w2 hlen)
      have HL := hid (hwd.1 hlen)
      clear h2 o2 wz tz vz hwd hb2 hlen
      go_wp2_with fail
      refine Calls.mono HT.out ?_
      rintro e w3 ⟨rfl, rfl⟩
      go_wp2_with fail
      go_ret2
      exact ⟨_, [], 3, rfl, World.ownsRow_nil _ _ _ _, Tells.tooLong HL.out, HR.out.2.2.2.2.2⟩
    · have HT := hid (refTold_ok a2 zs.length c2 w2 (by omega))
      have HL := hid (Int.not_le.1 fun h => hlen (hwd.2 h))
      clear h2 o2 wz tz vz hwd hb2 hlen
      go_wp2_with fail
      refine Calls.mono HT.out ?_
      rintro e w3 ⟨rfl, rfl⟩
      go_wp2_with fail
      go_ret2
      exact ⟨_, zs, 0, rfl, HR.out.1, Tells.ok HR.out.2.1 HR.out.2.2.1 HR.out.2.2.2.1 HL.out, HR.out.2.2.2.2.2⟩
  · have HB := hid (refBoth_sl v u xs ys w h g hn hm)
    have hb' : (both xs ys == 0) = false := by simpa using hb
    have HE := hid hb
    clear h g hb
    go_enter Tryz.func68, Tryz.ntmps68
    go_wp2_with fail
    refine Calls.mono HB.out ?_
    rintro e w1 ⟨rfl, rfl⟩
    go_wp2_with fail
    go_ret2
    exact ⟨_, [], _, rfl, World.ownsRow_nil _ _ _ _, Tells.err HE.out, Below.refl _ _⟩
set_option maxHeartbeats 1600000 in
theorem refSub_sl (v u : Value) (xs ys : List Int) (w : World) (h : Sl w v xs) (g : Sl w u ys) (hn : xs.length ≤ 281474976710656) (hm : ys.length ≤ 281474976710656) :
    Calls Tryz.prog 95 #[v, u] w (Told w (if both xs ys = 0 then (if val xs < val ys then 2 else 0) else both xs ys) (val xs - val ys)) := by
  by_cases hb : both xs ys = 0
  · have HB := hid (refBoth_sl v u xs ys w h g hn hm)
    rw [hb] at HB
    obtain ⟨k1, k2⟩ := both_ok hb
    obtain ⟨lx, tx⟩ := chk_ok k1
    obtain ⟨ly, ty⟩ := chk_ok k2
    rw [if_pos hb]
    have HC := hid (refCompare_sl v u xs ys w h g (by omega) (by omega))
    by_cases hlt : val xs < val ys
    · rw [if_pos hlt]
      rw [cmpI_lt hlt] at HC
      clear h g hb k1 k2 hlt
      go_enter Tryz.func95, Tryz.ntmps95
      go_wp2_with fail
      refine Calls.mono HB.out ?_
      rintro e w1 ⟨rfl, rfl⟩
      go_wp2_with fail
      refine Calls.mono HC.out ?_
      rintro e w1 ⟨rfl, rfl⟩
      go_wp2_with fail
      go_ret2
      exact ⟨_, [], 2, rfl, World.ownsRow_nil _ _ _ _, Tells.err (by decide), Below.refl _ _⟩
    · rw [if_neg hlt]
      have HP := hid (refLess_sl v u xs ys w h g (by omega) (by omega) (by omega))
      obtain ⟨c, hcc, hcv⟩ : ∃ c, cmpI (val xs) (val ys) = c ∧ ¬ c < 0 ∧ c ≤ 1 := by
        by_cases e : val xs = val ys
        · exact ⟨0, cmpI_eq e, by omega, by omega⟩
        · exact ⟨1, cmpI_gt (by omega), by omega, by omega⟩
      obtain ⟨c0, c1⟩ := hcv
      rw [hcc] at HC
      clear h g hb k1 k2 hlt hcc
      go_enter Tryz.func95, Tryz.ntmps95
      go_wp2_with fail
      refine Calls.mono HB.out ?_
      rintro e w1 ⟨rfl, rfl⟩
      go_wp2_with fail
      refine Calls.mono HC.out ?_
      rintro e w1 ⟨rfl, rfl⟩
      go_wp2_with fail
      refine Calls.mono HP.out ?_
      intro e w2 h2
      obtain ⟨a2, c2, zs, rfl, o2, wz, tz, vz, hb2⟩ := h2.slice
      have hwd := trimmed_wide wz tz vz
      have HR := hid (And.intro o2 (And.intro wz (And.intro tz (And.intro vz (And.intro hwd hb2)))))
      by_cases hlen : 8192 < zs.length
      · have HT := hid (refTold_long a2 zs.length c2 w2 hlen)
        have HL := hid (hwd.1 hlen)
        clear h2 o2 wz tz vz hwd hb2 hlen
        go_wp2_with fail
        refine Calls.mono HT.out ?_
        rintro e w3 ⟨rfl, rfl⟩
        go_wp2_with fail
        go_ret2
        exact ⟨_, [], 3, rfl, World.ownsRow_nil _ _ _ _, Tells.tooLong HL.out, HR.out.2.2.2.2.2⟩
      · have HT := hid (refTold_ok a2 zs.length c2 w2 (by omega))
        have HL := hid (Int.not_le.1 fun h => hlen (hwd.2 h))
        clear h2 o2 wz tz vz hwd hb2 hlen
        go_wp2_with fail
        refine Calls.mono HT.out ?_
        rintro e w3 ⟨rfl, rfl⟩
        go_wp2_with fail
        go_ret2
        exact ⟨_, zs, 0, rfl, HR.out.1, Tells.ok HR.out.2.1 HR.out.2.2.1 HR.out.2.2.2.1 HL.out, HR.out.2.2.2.2.2⟩
  · rw [if_neg hb]
    have HB := hid (refBoth_sl v u xs ys w h g hn hm)
    have hb' : (both xs ys == 0) = false := by simpa using hb
    have HE := hid hb
    clear h g hb
    go_enter Tryz.func95, Tryz.ntmps95
    go_wp2_with fail
    refine Calls.mono HB.out ?_
    rintro e w1 ⟨rfl, rfl⟩
    go_wp2_with fail
    go_ret2
    exact ⟨_, [], _, rfl, World.ownsRow_nil _ _ _ _, Tells.err HE.out, Below.refl _ _⟩
set_option maxHeartbeats 1600000 in
theorem refMul_sl (v u : Value) (xs ys : List Int) (w : World) (h : Sl w v xs) (g : Sl w u ys) (hn : xs.length ≤ 281474976710656) (hm : ys.length ≤ 281474976710656) :
    Calls Tryz.prog 82 #[v, u] w (Told w (both xs ys) (val xs * val ys)) := by
  by_cases hb : both xs ys = 0
  · have HB := hid (refBoth_sl v u xs ys w h g hn hm)
    rw [hb] at HB
    obtain ⟨k1, k2⟩ := both_ok hb
    obtain ⟨lx, tx⟩ := chk_ok k1
    obtain ⟨ly, ty⟩ := chk_ok k2
    have HP := hid (refTimes_sl v u xs ys w h g (by omega) (by omega))
    rw [hb]
    have wx := h.wd
    have wy := g.wd
    have HV := hid (And.intro h g)
    obtain ⟨a, cap, rfl, hr⟩ := h
    obtain ⟨b, cap', rfl, gr⟩ := g
    clear hr gr
    by_cases hx0 : 0 < xs.length
    · have hx1 : (0 : Int) < (xs.length : Int) := by omega
      by_cases hy0 : 0 < ys.length
      · have hy1 : (0 : Int) < (ys.length : Int) := by omega
        by_cases hlong : 8192 < xs.length + ys.length - 1
        · have HL : Hid (wide ≤ val xs * val ys) := by
            show _ ≤ _
            have e1 := val_ge wx tx hx0
            have e2 := val_ge wy ty hy0
            have e3 : (4294967296 : Int) ^ (xs.length - 1) * 4294967296 ^ (ys.length - 1) ≤ val xs * val ys := Int.mul_le_mul e1 e2 (Int.le_of_lt (pw_pos _)) (val_nonneg wx)
            rw [← Int.pow_add] at e3
            have e4 : wide ≤ (4294967296 : Int) ^ (xs.length - 1 + (ys.length - 1)) := pw_le (by omega)
            omega
          have hl1 : (8192 : Int) < (xs.length : Int) + (ys.length : Int) - 1 := by omega
          clear hb k1 k2 hlong HV HP
          go_enter Tryz.func82, Tryz.ntmps82
          go_wp2_with fail
          refine Calls.mono HB.out ?_
          rintro e w1 ⟨rfl, rfl⟩
          go_wp2_with fail
          go_ret2
          exact ⟨_, [], 3, rfl, World.ownsRow_nil _ _ _ _, Tells.tooLong HL.out, Below.refl _ _⟩
        · have hl1 : ¬ (8192 : Int) < (xs.length : Int) + (ys.length : Int) - 1 := by omega
          clear hb k1 k2 hlong HV
          go_enter Tryz.func82, Tryz.ntmps82
          go_wp2_with fail
          refine Calls.mono HB.out ?_
          rintro e w1 ⟨rfl, rfl⟩
          go_wp2_with fail
          refine Calls.mono HP.out ?_
          intro e w2 h2
          obtain ⟨a2, c2, zs, rfl, o2, wz, tz, vz, hb2⟩ := h2.slice
          have hwd := trimmed_wide wz tz vz
          have HR := hid (And.intro o2 (And.intro wz (And.intro tz (And.intro vz (And.intro hwd hb2)))))
          by_cases hlen : 8192 < zs.length
          · have HT := hid (refTold_long a2 zs.length c2 w2 hlen)
            have HL := hid (hwd.1 hlen)
            clear h2 o2 wz tz vz hwd hb2 hlen
            go_wp2_with fail
            refine Calls.mono HT.out ?_
            rintro e w3 ⟨rfl, rfl⟩
            go_wp2_with fail
            go_ret2
            exact ⟨_, [], 3, rfl, World.ownsRow_nil _ _ _ _, Tells.tooLong HL.out, HR.out.2.2.2.2.2⟩
          · have HT := hid (refTold_ok a2 zs.length c2 w2 (by omega))
            have HL := hid (Int.not_le.1 fun h => hlen (hwd.2 h))
            clear h2 o2 wz tz vz hwd hb2 hlen
            go_wp2_with fail
            refine Calls.mono HT.out ?_
            rintro e w3 ⟨rfl, rfl⟩
            go_wp2_with fail
            go_ret2
            exact ⟨_, zs, 0, rfl, HR.out.1, Tells.ok HR.out.2.1 HR.out.2.2.1 HR.out.2.2.2.1 HL.out, HR.out.2.2.2.2.2⟩
      · have hy2 : ys.length = 0 := by omega
        rw [hy2] at HP HB ⊢
        clear hb k1 k2 HV hy0
        go_enter Tryz.func82, Tryz.ntmps82
        go_wp2_with fail
        refine Calls.mono HB.out ?_
        rintro e w1 ⟨rfl, rfl⟩
        go_wp2_with fail
        refine Calls.mono HP.out ?_
        intro e w2 h2
        obtain ⟨a2, c2, zs, rfl, o2, wz, tz, vz, hb2⟩ := h2.slice
        have hwd := trimmed_wide wz tz vz
        have HR := hid (And.intro o2 (And.intro wz (And.intro tz (And.intro vz (And.intro hwd hb2)))))
        by_cases hlen : 8192 < zs.length
        · have HT := hid (refTold_long a2 zs.length c2 w2 hlen)
          have HL := hid (hwd.1 hlen)
          clear h2 o2 wz tz vz hwd hb2 hlen
          go_wp2_with fail
          refine Calls.mono HT.out ?_
          rintro e w3 ⟨rfl, rfl⟩
          go_wp2_with fail
          go_ret2
          exact ⟨_, [], 3, rfl, World.ownsRow_nil _ _ _ _, Tells.tooLong HL.out, HR.out.2.2.2.2.2⟩
        · have HT := hid (refTold_ok a2 zs.length c2 w2 (by omega))
          have HL := hid (Int.not_le.1 fun h => hlen (hwd.2 h))
          clear h2 o2 wz tz vz hwd hb2 hlen
          go_wp2_with fail
          refine Calls.mono HT.out ?_
          rintro e w3 ⟨rfl, rfl⟩
          go_wp2_with fail
          go_ret2
          exact ⟨_, zs, 0, rfl, HR.out.1, Tells.ok HR.out.2.1 HR.out.2.2.1 HR.out.2.2.2.1 HL.out, HR.out.2.2.2.2.2⟩
    · have hx2 : xs.length = 0 := by omega
      rw [hx2] at HP HB ⊢
      clear hb k1 k2 HV hx0
      go_enter Tryz.func82, Tryz.ntmps82
      go_wp2_with fail
      refine Calls.mono HB.out ?_
      rintro e w1 ⟨rfl, rfl⟩
      go_wp2_with fail
      refine Calls.mono HP.out ?_
      intro e w2 h2
      obtain ⟨a2, c2, zs, rfl, o2, wz, tz, vz, hb2⟩ := h2.slice
      have hwd := trimmed_wide wz tz vz
      have HR := hid (And.intro o2 (And.intro wz (And.intro tz (And.intro vz (And.intro hwd hb2)))))
      by_cases hlen : 8192 < zs.length
      · have HT := hid (refTold_long a2 zs.length c2 w2 hlen)
        have HL := hid (hwd.1 hlen)
        clear h2 o2 wz tz vz hwd hb2 hlen
        go_wp2_with fail
        refine Calls.mono HT.out ?_
        rintro e w3 ⟨rfl, rfl⟩
        go_wp2_with fail
        go_ret2
        exact ⟨_, [], 3, rfl, World.ownsRow_nil _ _ _ _, Tells.tooLong HL.out, HR.out.2.2.2.2.2⟩
      · have HT := hid (refTold_ok a2 zs.length c2 w2 (by omega))
        have HL := hid (Int.not_le.1 fun h => hlen (hwd.2 h))
        clear h2 o2 wz tz vz hwd hb2 hlen
        go_wp2_with fail
        refine Calls.mono HT.out ?_
        rintro e w3 ⟨rfl, rfl⟩
        go_wp2_with fail
        go_ret2
        exact ⟨_, zs, 0, rfl, HR.out.1, Tells.ok HR.out.2.1 HR.out.2.2.1 HR.out.2.2.2.1 HL.out, HR.out.2.2.2.2.2⟩
  · have HB := hid (refBoth_sl v u xs ys w h g hn hm)
    have hb' : (both xs ys == 0) = false := by simpa using hb
    have HE := hid hb
    clear h g hb
    go_enter Tryz.func82, Tryz.ntmps82
    go_wp2_with fail
    refine Calls.mono HB.out ?_
    rintro e w1 ⟨rfl, rfl⟩
    go_wp2_with fail
    go_ret2
    exact ⟨_, [], _, rfl, World.ownsRow_nil _ _ _ _, Tells.err HE.out, Below.refl _ _⟩
set_option maxHeartbeats 1600000 in
theorem refDivMod_any (v u : Value) (xs ys : List Int) (w : World) (h : Sl w v xs) (g : Sl w u ys) (lx : xs.length ≤ 8192) (ly : ys.length ≤ 8192) (tx : Trimmed xs) (ty : Trimmed ys) (h0 : 0 < ys.length) :
    Calls Tryz.prog 98 #[v, u] w fun e w' => ∃ v1 u1 q r, e = .returned (.tuple #[v1, u1, .int .i64 0]) ∧ w'.ownsRow w.heap.size 63 1 v1 q.length (q.map (Value.int .u32)) ∧ w'.ownsRow w.heap.size 63 1 u1 r.length (r.map (Value.int .u32)) ∧ Wd q ∧ Wd r ∧ Trimmed q ∧ Trimmed r ∧ val xs = val q * val ys + val r ∧ val r < val ys ∧ Below w.heap.size w w' := by
  have HB := hid (refBoth_sl v u xs ys w h g (by omega) (by omega))
  have HP := hid (refOver_any v u xs ys w h g (by omega) (by omega) tx ty h0)
  rw [both_good (chk_good lx tx) (chk_good ly ty)] at HB
  obtain ⟨a, cap, rfl, hr⟩ := h
  obtain ⟨b, cap', rfl, gr⟩ := g
  have h1 : ((ys.length : Int) == 0) = false := by simp; exact fun e => by rw [e] at h0; simp at h0
  clear hr gr
  go_enter Tryz.func98, Tryz.ntmps98
  go_wp2_with fail
  refine Calls.mono HB.out ?_
  rintro e w1 ⟨rfl, rfl⟩
  go_wp2_with fail
  refine Calls.mono HP.out ?_
  rintro e w2 ⟨v2, zs, v3, rs, rfl, o2, o3, wz, wr', tz, tr, hv, hlt, hb2⟩
  have HR := hid (And.intro o2 (And.intro o3 (And.intro hv (And.intro hlt hb2))))
  clear o2 o3 hv hlt hb2 HP HB
  go_wp2_with fail
  go_ret3
  exact ⟨v2, v3, zs, rs, rfl, HR.out.1, HR.out.2.1, wz, wr', tz, tr, HR.out.2.2.1, HR.out.2.2.2.1, HR.out.2.2.2.2⟩
theorem wlim_big : (18446744073709551616 : Int) ≤ wlim := by
  have : (4294967296 : Int) ^ 2 ≤ 4294967296 ^ 2048 := pw_le (by omega)
  unfold wlim
  have e : (4294967296 : Int) ^ 2 = 18446744073709551616 := by decide
  rw [e] at this
  exact this
set_option maxHeartbeats 800000 in
theorem over3_any (v u : Value) (xs ys : List Int) (w : World) (h : Sl w v xs) (g : Sl w u ys) (lx : xs.length ≤ 8192) (ly : ys.length ≤ 8192) (tx : Trimmed xs) (ty : Trimmed ys) (h0 : 0 < ys.length) :
    Calls Tryz.prog 81 #[v, u] w (Told1 w (val xs / val ys)) := by
  have HH := hid (refDivMod_any v u xs ys w h g lx ly tx ty h0)
  obtain ⟨a, cap, rfl, hr⟩ := h
  obtain ⟨b, cap', rfl, gr⟩ := g
  clear hr gr
  go_enter Tryz.func81, Tryz.ntmps81
  go_wp2_with fail
  refine Calls.mono HH.out ?_
  rintro e w1 ⟨v1, v2, q, r, rfl, o1, o2, wq, wr, tq, tr, hq, hr, hb1⟩
  have hv : val q = val xs / val ys := by
    have r0 := val_nonneg wr
    rw [hq, Int.add_comm, Int.add_mul_ediv_right _ _ (by omega), Int.ediv_eq_zero_of_lt r0 hr]
    omega
  obtain ⟨a1, c1, hs1⟩ := own_slice' o1
  subst hs1
  obtain ⟨a2, c2, hs2⟩ := own_slice' o2
  subst hs2
  have HE := hid (And.intro o1 (And.intro wq (And.intro tq (And.intro hv hb1))))
  clear o1 o2 wq wr tq tr hq hr hb1 hv HH
  go_wp2_with fail
  go_ret
  exact ⟨_, q, rfl, HE.out.1, HE.out.2.1, HE.out.2.2.1, HE.out.2.2.2.1, HE.out.2.2.2.2⟩
set_option maxHeartbeats 1600000 in
theorem trimmed3_any (v : Value) (xs : List Int) (w : World) (h : Sl w v xs) (hn : xs.length ≤ 281474976710656) :
    Calls Tryz.prog 67 #[v] w fun e w' => e = .returned (.bool (decide (sz xs = xs.length))) ∧ Below w.heap.size w w' := by
  have wx := h.wd
  obtain ⟨a, cap, rfl, hr⟩ := h
  have HCL := hid hr.cells
  have hcap := hr.2.2.2.1
  have hcap2 := hr.2.2.2.2.1
  have HB := hid (Below.refl w.heap.size w)
  clear hr
  have hcl : Trimmed xs ↔ xs.length = 0 ∨ ¬ xs[xs.length - 1]?.getD 0 = 0 := by rw [← sz_eq_iff]; exact Iff.rfl
  obtain ⟨k, hk⟩ : ∃ k, xs.length = k := ⟨_, rfl⟩
  rw [hk] at hcl
  by_cases h0 : k = 0
  · subst h0
    have HW : Hid (decide (sz xs = xs.length) = true) := by show _ = _; exact decide_eq_true (hcl.2 (.inl rfl))
    rw [HW.out, hk]
    clear hk hcl HCL wx
    go_enter Tryz.func67, Tryz.ntmps67
    go_wp2_with fail
    go_ret
    exact ⟨rfl, HB.out⟩
  · obtain ⟨m, hm⟩ : ∃ m, k = m + 1 := ⟨k - 1, by omega⟩
    subst hm
    have bx := wx.at m
    rw [show m + 1 - 1 = m by omega] at hcl
    have hkz : ((m : Int) + 1 == 0) = false := beq_eq_false_iff_ne.2 (by omega)
    have hm1 : (m : Int) ≤ 281474976710656 := by omega
    rw [hk] at HCL hcap ⊢
    obtain ⟨b1, o1, rfl, l1, cx⟩ := HCL.out m (by omega)
    have him : ((m + 1 : Nat) : Int) - 1 = (m : Int) := by omega
    by_cases hz : xs[m]?.getD 0 = 0
    · have HW : Hid (decide (sz xs = xs.length) = false) := by show _ = _; exact decide_eq_false (fun h => (hcl.1 h).elim (fun e => by omega) (fun e => e hz))
      rw [hk] at HW
      rw [HW.out]
      rw [hz] at cx
      clear hk hcl HCL hz bx wx
      go_enter Tryz.func67, Tryz.ntmps67
      go_wp2_with fail
      go_ret
      exact ⟨rfl, HB.out⟩
    · have HW : Hid (decide (sz xs = xs.length) = true) := by show _ = _; exact decide_eq_true (hcl.2 (.inr hz))
      rw [hk] at HW
      rw [HW.out]
      obtain ⟨X, hX⟩ : ∃ X, xs[m]?.getD 0 = X := ⟨_, rfl⟩
      rw [hX] at cx hz bx
      have hzb : (X != 0) = true := by simp [hz]
      clear hk hcl HCL hX wx
      go_enter Tryz.func67, Tryz.ntmps67
      go_wp2_with fail
      go_ret
      exact ⟨rfl, HB.out⟩
theorem one3_any (w : World) : Calls Tryz.prog 70 #[] w fun e w' => ∃ g, e = .returned (.slice (some ⟨g, 0, none⟩) 1 1) ∧ w'.ownsRow w.heap.size 63 1 (.slice (some ⟨g, 0, none⟩) 1 1) 1 ([(1 : Int)].map (Value.int .u32)) ∧ Below w.heap.size w w' := by
  have HO : Hid ((w.alloc (.cells #[.int .u32 1] 63)).ownsRow w.heap.size 63 1 (.slice (some ⟨w.heap.size, 0, none⟩) 1 1) 1 ([(1 : Int)].map (Value.int .u32))) := ⟨rfl, .inr ⟨w.heap.size, 1, #[.int .u32 1], rfl, Nat.le_refl _, Box.made w _ _, Nat.le_refl _, by unfold maxLen; simp, rfl, rfl⟩⟩
  have HB := hid (alloc_later w (.cells #[.int .u32 1] 63))
  go_enter Tryz.func70, Tryz.ntmps70
  go_wp2_with fail
  go_ret
  exact ⟨w.heap.size, rfl, HO.out, HB.out⟩
end Go.Proofs.YtlleakifnjfdkaaGreat
