/- My texts on the way to RotorNames, one behind the other: contracts of the program and of the document's answers. -/
import Derived.Test.YtcjfbmehibhkbaaGreatDoorJ1
import Derived.Test.YtcjfbmehibhkbaaGreatDoorJ2
import Derived.Shelf.Abstract
import Derived.Deep.RegionHeld3
import Derived.Laws.ResultCell
import Derived.Deep.CutRange
import Derived.Deep.QuietTactic
import Derived.BigQuiet
import Derived.Deep.RegionLaw
import Derived.Laws.AppendOwnNone
import Derived.Deep.LoopGhost
/- Fractions: ratio.Add, Mul, Sub: of any fractions, good or refused; what is told is new memory. -/
namespace Go.Proofs.YtcjfbmehibhkbaaGreatDoor
open Go.RowKit
set_option linter.unusedVariables false

theorem rq_less {n m : Bool} {xs ys us vs : List Int} : rq n xs ys + rq (!m) us vs = rq n xs ys - rq m us vs := by
  rw [Rat.sub_eq_add_neg]
  congr 1
  unfold rq
  rw [Rat.neg_divInt]
  congr 1
  cases m <;> simp [wval]

set_option maxHeartbeats 3200000 in
set_option maxRecDepth 100000 in
theorem rAdd_err (n : Bool) (a : Option Addr) (ca : Nat) (xs : List Int) (b : Option Addr) (cb : Nat) (ys : List Int) (m : Bool) (c : Option Addr) (cc : Nat) (us : List Int) (d : Option Addr) (cd : Nat) (vs : List Int) (w : World) (sx : Sl w (.slice a xs.length ca) xs) (sy : Sl w (.slice b ys.length cb) ys) (su : Sl w (.slice c us.length cc) us) (sv : Sl w (.slice d vs.length cd) vs) (he : rboth n xs ys m us vs ≠ 0) (q : Rat) :
    Calls Tryz.prog 81 #[.agg #[.bool n, .slice a xs.length ca, .slice b ys.length cb], .agg #[.bool m, .slice c us.length cc, .slice d vs.length cd]] w (RToldA w (rboth n xs ys m us vs) q) := by
  have HB : Hid (Below w.heap.size w (((w.alloc (.cells #[.bool n, .slice a xs.length ca, .slice b ys.length cb] 29)).alloc (.cells #[.bool m, .slice c us.length cc, .slice d vs.length cd] 29)).alloc (.cells #[.bool false, .slice none 0 0, .slice none 0 0] 29))) := bt (bt (alloc_later _ _) (alloc_later _ _)) (alloc_later _ _)
  have HZ : Hid (Box (((w.alloc (.cells #[.bool n, .slice a xs.length ca, .slice b ys.length cb] 29)).alloc (.cells #[.bool m, .slice c us.length cc, .slice d vs.length cd] 29)).alloc (.cells #[.bool false, .slice none 0 0, .slice none 0 0] 29)) (w.heap.size + 1 + 1) 29 #[.bool false, .slice none 0 0, .slice none 0 0]) := by
    have e := Box.made ((w.alloc (.cells #[.bool n, .slice a xs.length ca, .slice b ys.length cb] 29)).alloc (.cells #[.bool m, .slice c us.length cc, .slice d vs.length cd] 29)) 29 #[.bool false, .slice none 0 0, .slice none 0 0]
    simp at e
    exact e
  have HN : Hid (Box (((w.alloc (.cells #[.bool n, .slice a xs.length ca, .slice b ys.length cb] 29)).alloc (.cells #[.bool m, .slice c us.length cc, .slice d vs.length cd] 29)).alloc (.cells #[.bool false, .slice none 0 0, .slice none 0 0] 29)) w.heap.size 29 #[.bool n, .slice a xs.length ca, .slice b ys.length cb]) := Box.later (Box.made w _ _) (bt (alloc_later _ _) (alloc_later _ _)) (by simp)
  have HM : Hid (Box (((w.alloc (.cells #[.bool n, .slice a xs.length ca, .slice b ys.length cb] 29)).alloc (.cells #[.bool m, .slice c us.length cc, .slice d vs.length cd] 29)).alloc (.cells #[.bool false, .slice none 0 0, .slice none 0 0] 29)) (w.heap.size + 1) 29 #[.bool m, .slice c us.length cc, .slice d vs.length cd]) := by
    have e := Box.later (Box.made (w.alloc (.cells #[.bool n, .slice a xs.length ca, .slice b ys.length cb] 29)) 29 #[.bool m, .slice c us.length cc, .slice d vs.length cd]) (alloc_later ((w.alloc (.cells #[.bool n, .slice a xs.length ca, .slice b ys.length cb] 29)).alloc (.cells #[.bool m, .slice c us.length cc, .slice d vs.length cd] 29)) (.cells #[.bool false, .slice none 0 0, .slice none 0 0] 29)) (by simp)
    simp at e
    exact e
  have HXS : Hid (w.heap.size + 1 + 1 < (((w.alloc (.cells #[.bool n, .slice a xs.length ca, .slice b ys.length cb] 29)).alloc (.cells #[.bool m, .slice c us.length cc, .slice d vs.length cd] 29)).alloc (.cells #[.bool false, .slice none 0 0, .slice none 0 0] 29)).heap.size) := HZ.out.lt
  have HSL := hid (And.intro (sx.later HB.out) (And.intro (sy.later HB.out) (And.intro (su.later HB.out) (sv.later HB.out))))
  have HC := hid (rcheckBoth_any n _ xs _ ys m _ us _ vs (((w.alloc (.cells #[.bool n, .slice a xs.length ca, .slice b ys.length cb] 29)).alloc (.cells #[.bool m, .slice c us.length cc, .slice d vs.length cd] 29)).alloc (.cells #[.bool false, .slice none 0 0, .slice none 0 0] 29)) HSL.out.1 HSL.out.2.1 HSL.out.2.2.1 HSL.out.2.2.2)
  obtain ⟨E, hE⟩ : ∃ E, rboth n xs ys m us vs = E := ⟨_, rfl⟩
  rw [hE] at HC he ⊢
  have he' : (E == 0) = false := beq_eq_false_iff_ne.2 he
  have HE := hid he
  clear he hE sx sy su sv
  go_enter Tryz.func81, Tryz.ntmps81
  go_wp2_with fail
  refine Calls.mono HC.out ?_
  generalize (((w.alloc (.cells #[.bool n, .slice a xs.length ca, .slice b ys.length cb] 29)).alloc (.cells #[.bool m, .slice c us.length cc, .slice d vs.length cd] 29)).alloc (.cells #[.bool false, .slice none 0 0, .slice none 0 0] 29)) = X at *
  rintro e w1 ⟨rfl, hb1⟩
  obtain ⟨y0, y1, y2, f0, f1, f2⟩ := res_box3 HZ.out hb1
  have HBN := hid (below_put3 (bt HB.out hb1) (w.heap.size + 1 + 1) (by omega) (.bool false) (.slice none 0 0) (.slice none 0 0))
  clear hb1 HC HN HM HZ HSL
  go_wp2_with fail
  refine bodyPost_ret (v := .tuple #[.agg #[.bool false, .slice none 0 0, .slice none 0 0], .int .i64 E]) (by simp [results, Tryz.results81, go_sem, y0, y1, y2]) rfl ?_
  exact ⟨false, _, [], _, [], _, rfl, World.ownsRow_nil _ _ _ _, World.ownsRow_nil _ _ _ _, RTells.err HE.out, HBN.out, ⟨w.heap.size, Nat.le_refl _, HBN.out.size, fun g hg => by simp [Value.ownBlock] at hg, fun g hg => by simp [Value.ownBlock] at hg⟩⟩

set_option maxHeartbeats 3200000 in
set_option maxRecDepth 100000 in
theorem rAdd_ok (n : Bool) (a : Option Addr) (ca : Nat) (xs : List Int) (b : Option Addr) (cb : Nat) (ys : List Int) (m : Bool) (c : Option Addr) (cc : Nat) (us : List Int) (d : Option Addr) (cd : Nat) (vs : List Int) (w : World) (sx : Sl w (.slice a xs.length ca) xs) (sy : Sl w (.slice b ys.length cb) ys) (su : Sl w (.slice c us.length cc) us) (sv : Sl w (.slice d vs.length cd) vs) (hx : rchk n xs ys = 0) (hy : rchk m us vs = 0) :
    Calls Tryz.prog 81 #[.agg #[.bool n, .slice a xs.length ca, .slice b ys.length cb], .agg #[.bool m, .slice c us.length cc, .slice d vs.length cd]] w (RToldA w 0 (rq n xs ys + rq m us vs)) := by
  obtain ⟨lx, ly, tx, ty, y0', _, g1⟩ := rchk_ok hx
  obtain ⟨lu, lv, tu, tv, v0', _, g2⟩ := rchk_ok hy
  have py := val_pos' sy.wd ty y0'
  have pv := val_pos' sv.wd tv v0'
  have HB : Hid (Below w.heap.size w (((w.alloc (.cells #[.bool n, .slice a xs.length ca, .slice b ys.length cb] 29)).alloc (.cells #[.bool m, .slice c us.length cc, .slice d vs.length cd] 29)).alloc (.cells #[.bool false, .slice none 0 0, .slice none 0 0] 29))) := bt (bt (alloc_later _ _) (alloc_later _ _)) (alloc_later _ _)
  have HZ : Hid (Box (((w.alloc (.cells #[.bool n, .slice a xs.length ca, .slice b ys.length cb] 29)).alloc (.cells #[.bool m, .slice c us.length cc, .slice d vs.length cd] 29)).alloc (.cells #[.bool false, .slice none 0 0, .slice none 0 0] 29)) (w.heap.size + 1 + 1) 29 #[.bool false, .slice none 0 0, .slice none 0 0]) := by
    have e := Box.made ((w.alloc (.cells #[.bool n, .slice a xs.length ca, .slice b ys.length cb] 29)).alloc (.cells #[.bool m, .slice c us.length cc, .slice d vs.length cd] 29)) 29 #[.bool false, .slice none 0 0, .slice none 0 0]
    simp at e
    exact e
  have HN : Hid (Box (((w.alloc (.cells #[.bool n, .slice a xs.length ca, .slice b ys.length cb] 29)).alloc (.cells #[.bool m, .slice c us.length cc, .slice d vs.length cd] 29)).alloc (.cells #[.bool false, .slice none 0 0, .slice none 0 0] 29)) w.heap.size 29 #[.bool n, .slice a xs.length ca, .slice b ys.length cb]) := Box.later (Box.made w _ _) (bt (alloc_later _ _) (alloc_later _ _)) (by simp)
  have HM : Hid (Box (((w.alloc (.cells #[.bool n, .slice a xs.length ca, .slice b ys.length cb] 29)).alloc (.cells #[.bool m, .slice c us.length cc, .slice d vs.length cd] 29)).alloc (.cells #[.bool false, .slice none 0 0, .slice none 0 0] 29)) (w.heap.size + 1) 29 #[.bool m, .slice c us.length cc, .slice d vs.length cd]) := by
    have e := Box.later (Box.made (w.alloc (.cells #[.bool n, .slice a xs.length ca, .slice b ys.length cb] 29)) 29 #[.bool m, .slice c us.length cc, .slice d vs.length cd]) (alloc_later ((w.alloc (.cells #[.bool n, .slice a xs.length ca, .slice b ys.length cb] 29)).alloc (.cells #[.bool m, .slice c us.length cc, .slice d vs.length cd] 29)) (.cells #[.bool false, .slice none 0 0, .slice none 0 0] 29)) (by simp)
    simp at e
    exact e
  have HXS : Hid (w.heap.size + 1 + 1 < (((w.alloc (.cells #[.bool n, .slice a xs.length ca, .slice b ys.length cb] 29)).alloc (.cells #[.bool m, .slice c us.length cc, .slice d vs.length cd] 29)).alloc (.cells #[.bool false, .slice none 0 0, .slice none 0 0] 29)).heap.size) := HZ.out.lt
  have HSL := hid (And.intro (sx.later HB.out) (And.intro (sy.later HB.out) (And.intro (su.later HB.out) (sv.later HB.out))))
  have HC := hid (rcheckBoth_any n _ xs _ ys m _ us _ vs (((w.alloc (.cells #[.bool n, .slice a xs.length ca, .slice b ys.length cb] 29)).alloc (.cells #[.bool m, .slice c us.length cc, .slice d vs.length cd] 29)).alloc (.cells #[.bool false, .slice none 0 0, .slice none 0 0] 29)) HSL.out.1 HSL.out.2.1 HSL.out.2.2.1 HSL.out.2.2.2)
  rw [rboth_good hx hy] at HC
  have HA := hid (fun ww (hb : Below (((w.alloc (.cells #[.bool n, .slice a xs.length ca, .slice b ys.length cb] 29)).alloc (.cells #[.bool m, .slice c us.length cc, .slice d vs.length cd] 29)).alloc (.cells #[.bool false, .slice none 0 0, .slice none 0 0] 29)).heap.size (((w.alloc (.cells #[.bool n, .slice a xs.length ca, .slice b ys.length cb] 29)).alloc (.cells #[.bool m, .slice c us.length cc, .slice d vs.length cd] 29)).alloc (.cells #[.bool false, .slice none 0 0, .slice none 0 0] 29)) ww) => radd_any n a ca xs b cb ys m c cc us d cd vs ww (HSL.out.1.later hb) (HSL.out.2.1.later hb) (HSL.out.2.2.1.later hb) (HSL.out.2.2.2.later hb) lx ly lu lv tx ty tu tv (by omega) (by omega) g1 g2)
  clear sx sy su sv hx hy tx ty tu tv g1 g2 py pv
  go_enter Tryz.func81, Tryz.ntmps81
  go_wp2_with fail
  refine Calls.mono HC.out ?_
  generalize (((w.alloc (.cells #[.bool n, .slice a xs.length ca, .slice b ys.length cb] 29)).alloc (.cells #[.bool m, .slice c us.length cc, .slice d vs.length cd] 29)).alloc (.cells #[.bool false, .slice none 0 0, .slice none 0 0] 29)) = X at *
  rintro e w1 ⟨rfl, hb1⟩
  have HCA := hid (HA.out w1 hb1)
  obtain ⟨p0, p1, p2, _⟩ := res_box3 HN.out hb1
  obtain ⟨q0, q1, q2, _⟩ := res_box3 HM.out hb1
  have HB1 := hid hb1
  clear hb1 HC HA
  go_wp2_with fail
  refine Calls.mono HCA.out ?_
  rintro e w2 ⟨k2, v2, z2, u2, r2, code, rfl, o2, o3, t2, hb2, hc2⟩
  obtain ⟨a2, c2, hs2⟩ := own_slice' o2
  subst hs2
  obtain ⟨a3, c3, hs3⟩ := own_slice' o3
  subst hs3
  have HR := hid (And.intro o2 (And.intro o3 (And.intro t2 hc2)))
  obtain ⟨y0, y1, y2, f0, f1, f2⟩ := res_box3 HZ.out (bt HB1.out hb2)
  have HBW := hid (bt HB.out (bt HB1.out hb2))
  have HLT : Hid (w.heap.size + 1 + 1 < w1.heap.size) := Nat.lt_of_lt_of_le HXS.out HB1.out.size
  clear o2 o3 t2 hb2 hc2 HCA p0 p1 p2 q0 q1 q2
  go_wp2_with fail
  refine bodyPost_ret (v := .tuple #[.agg #[.bool k2, .slice a2 z2.length c2, .slice a3 r2.length c3], .int .i64 code]) (by simp [results, Tryz.results81, go_sem, y0, y1, y2]) rfl ?_
  exact RToldA.put HR.out (w.heap.size + 1 + 1) HLT.out (by omega) HBW.out _ _ _
theorem rAdd_full (n : Bool) (a : Option Addr) (ca : Nat) (xs : List Int) (b : Option Addr) (cb : Nat) (ys : List Int) (m : Bool) (c : Option Addr) (cc : Nat) (us : List Int) (d : Option Addr) (cd : Nat) (vs : List Int) (w : World) (sx : Sl w (.slice a xs.length ca) xs) (sy : Sl w (.slice b ys.length cb) ys) (su : Sl w (.slice c us.length cc) us) (sv : Sl w (.slice d vs.length cd) vs) :
    Calls Tryz.prog 81 #[.agg #[.bool n, .slice a xs.length ca, .slice b ys.length cb], .agg #[.bool m, .slice c us.length cc, .slice d vs.length cd]] w (RToldA w (rboth n xs ys m us vs) (rq n xs ys + rq m us vs)) := by
  by_cases he : rboth n xs ys m us vs = 0
  · rw [he]
    exact rAdd_ok n a ca xs b cb ys m c cc us d cd vs w sx sy su sv (rboth_ok he).1 (rboth_ok he).2
  · exact rAdd_err n a ca xs b cb ys m c cc us d cd vs w sx sy su sv he _

set_option maxHeartbeats 3200000 in
set_option maxRecDepth 100000 in
theorem rMul_err (n : Bool) (a : Option Addr) (ca : Nat) (xs : List Int) (b : Option Addr) (cb : Nat) (ys : List Int) (m : Bool) (c : Option Addr) (cc : Nat) (us : List Int) (d : Option Addr) (cd : Nat) (vs : List Int) (w : World) (sx : Sl w (.slice a xs.length ca) xs) (sy : Sl w (.slice b ys.length cb) ys) (su : Sl w (.slice c us.length cc) us) (sv : Sl w (.slice d vs.length cd) vs) (he : rboth n xs ys m us vs ≠ 0) (q : Rat) :
    Calls Tryz.prog 80 #[.agg #[.bool n, .slice a xs.length ca, .slice b ys.length cb], .agg #[.bool m, .slice c us.length cc, .slice d vs.length cd]] w (RToldA w (rboth n xs ys m us vs) q) := by
  have HB : Hid (Below w.heap.size w (((w.alloc (.cells #[.bool n, .slice a xs.length ca, .slice b ys.length cb] 29)).alloc (.cells #[.bool m, .slice c us.length cc, .slice d vs.length cd] 29)).alloc (.cells #[.bool false, .slice none 0 0, .slice none 0 0] 29))) := bt (bt (alloc_later _ _) (alloc_later _ _)) (alloc_later _ _)
  have HZ : Hid (Box (((w.alloc (.cells #[.bool n, .slice a xs.length ca, .slice b ys.length cb] 29)).alloc (.cells #[.bool m, .slice c us.length cc, .slice d vs.length cd] 29)).alloc (.cells #[.bool false, .slice none 0 0, .slice none 0 0] 29)) (w.heap.size + 1 + 1) 29 #[.bool false, .slice none 0 0, .slice none 0 0]) := by
    have e := Box.made ((w.alloc (.cells #[.bool n, .slice a xs.length ca, .slice b ys.length cb] 29)).alloc (.cells #[.bool m, .slice c us.length cc, .slice d vs.length cd] 29)) 29 #[.bool false, .slice none 0 0, .slice none 0 0]
    simp at e
    exact e
  have HN : Hid (Box (((w.alloc (.cells #[.bool n, .slice a xs.length ca, .slice b ys.length cb] 29)).alloc (.cells #[.bool m, .slice c us.length cc, .slice d vs.length cd] 29)).alloc (.cells #[.bool false, .slice none 0 0, .slice none 0 0] 29)) w.heap.size 29 #[.bool n, .slice a xs.length ca, .slice b ys.length cb]) := Box.later (Box.made w _ _) (bt (alloc_later _ _) (alloc_later _ _)) (by simp)
  have HM : Hid (Box (((w.alloc (.cells #[.bool n, .slice a xs.length ca, .slice b ys.length cb] 29)).alloc (.cells #[.bool m, .slice c us.length cc, .slice d vs.length cd] 29)).alloc (.cells #[.bool false, .slice none 0 0, .slice none 0 0] 29)) (w.heap.size + 1) 29 #[.bool m, .slice c us.length cc, .slice d vs.length cd]) := by
    have e := Box.later (Box.made (w.alloc (.cells #[.bool n, .slice a xs.length ca, .slice b ys.length cb] 29)) 29 #[.bool m, .slice c us.length cc, .slice d vs.length cd]) (alloc_later ((w.alloc (.cells #[.bool n, .slice a xs.length ca, .slice b ys.length cb] 29)).alloc (.cells #[.bool m, .slice c us.length cc, .slice d vs.length cd] 29)) (.cells #[.bool false, .slice none 0 0, .slice none 0 0] 29)) (by simp)
    simp at e
    exact e
  have HXS : Hid (w.heap.size + 1 + 1 < (((w.alloc (.cells #[.bool n, .slice a xs.length ca, .slice b ys.length cb] 29)).alloc (.cells #[.bool m, .slice c us.length cc, .slice d vs.length cd] 29)).alloc (.cells #[.bool false, .slice none 0 0, .slice none 0 0] 29)).heap.size) := HZ.out.lt
  have HSL := hid (And.intro (sx.later HB.out) (And.intro (sy.later HB.out) (And.intro (su.later HB.out) (sv.later HB.out))))
  have HC := hid (rcheckBoth_any n _ xs _ ys m _ us _ vs (((w.alloc (.cells #[.bool n, .slice a xs.length ca, .slice b ys.length cb] 29)).alloc (.cells #[.bool m, .slice c us.length cc, .slice d vs.length cd] 29)).alloc (.cells #[.bool false, .slice none 0 0, .slice none 0 0] 29)) HSL.out.1 HSL.out.2.1 HSL.out.2.2.1 HSL.out.2.2.2)
  obtain ⟨E, hE⟩ : ∃ E, rboth n xs ys m us vs = E := ⟨_, rfl⟩
  rw [hE] at HC he ⊢
  have he' : (E == 0) = false := beq_eq_false_iff_ne.2 he
  have HE := hid he
  clear he hE sx sy su sv
  go_enter Tryz.func80, Tryz.ntmps80
  go_wp2_with fail
  refine Calls.mono HC.out ?_
  generalize (((w.alloc (.cells #[.bool n, .slice a xs.length ca, .slice b ys.length cb] 29)).alloc (.cells #[.bool m, .slice c us.length cc, .slice d vs.length cd] 29)).alloc (.cells #[.bool false, .slice none 0 0, .slice none 0 0] 29)) = X at *
  rintro e w1 ⟨rfl, hb1⟩
  obtain ⟨y0, y1, y2, f0, f1, f2⟩ := res_box3 HZ.out hb1
  have HBN := hid (below_put3 (bt HB.out hb1) (w.heap.size + 1 + 1) (by omega) (.bool false) (.slice none 0 0) (.slice none 0 0))
  clear hb1 HC HN HM HZ HSL
  go_wp2_with fail
  refine bodyPost_ret (v := .tuple #[.agg #[.bool false, .slice none 0 0, .slice none 0 0], .int .i64 E]) (by simp [results, Tryz.results80, go_sem, y0, y1, y2]) rfl ?_
  exact ⟨false, _, [], _, [], _, rfl, World.ownsRow_nil _ _ _ _, World.ownsRow_nil _ _ _ _, RTells.err HE.out, HBN.out, ⟨w.heap.size, Nat.le_refl _, HBN.out.size, fun g hg => by simp [Value.ownBlock] at hg, fun g hg => by simp [Value.ownBlock] at hg⟩⟩

set_option maxHeartbeats 3200000 in
set_option maxRecDepth 100000 in
theorem rMul_ok (n : Bool) (a : Option Addr) (ca : Nat) (xs : List Int) (b : Option Addr) (cb : Nat) (ys : List Int) (m : Bool) (c : Option Addr) (cc : Nat) (us : List Int) (d : Option Addr) (cd : Nat) (vs : List Int) (w : World) (sx : Sl w (.slice a xs.length ca) xs) (sy : Sl w (.slice b ys.length cb) ys) (su : Sl w (.slice c us.length cc) us) (sv : Sl w (.slice d vs.length cd) vs) (hx : rchk n xs ys = 0) (hy : rchk m us vs = 0) :
    Calls Tryz.prog 80 #[.agg #[.bool n, .slice a xs.length ca, .slice b ys.length cb], .agg #[.bool m, .slice c us.length cc, .slice d vs.length cd]] w (RToldA w 0 (rq n xs ys * rq m us vs)) := by
  obtain ⟨lx, ly, tx, ty, y0', _, g1⟩ := rchk_ok hx
  obtain ⟨lu, lv, tu, tv, v0', _, g2⟩ := rchk_ok hy
  have py := val_pos' sy.wd ty y0'
  have pv := val_pos' sv.wd tv v0'
  have HB : Hid (Below w.heap.size w (((w.alloc (.cells #[.bool n, .slice a xs.length ca, .slice b ys.length cb] 29)).alloc (.cells #[.bool m, .slice c us.length cc, .slice d vs.length cd] 29)).alloc (.cells #[.bool false, .slice none 0 0, .slice none 0 0] 29))) := bt (bt (alloc_later _ _) (alloc_later _ _)) (alloc_later _ _)
  have HZ : Hid (Box (((w.alloc (.cells #[.bool n, .slice a xs.length ca, .slice b ys.length cb] 29)).alloc (.cells #[.bool m, .slice c us.length cc, .slice d vs.length cd] 29)).alloc (.cells #[.bool false, .slice none 0 0, .slice none 0 0] 29)) (w.heap.size + 1 + 1) 29 #[.bool false, .slice none 0 0, .slice none 0 0]) := by
    have e := Box.made ((w.alloc (.cells #[.bool n, .slice a xs.length ca, .slice b ys.length cb] 29)).alloc (.cells #[.bool m, .slice c us.length cc, .slice d vs.length cd] 29)) 29 #[.bool false, .slice none 0 0, .slice none 0 0]
    simp at e
    exact e
  have HN : Hid (Box (((w.alloc (.cells #[.bool n, .slice a xs.length ca, .slice b ys.length cb] 29)).alloc (.cells #[.bool m, .slice c us.length cc, .slice d vs.length cd] 29)).alloc (.cells #[.bool false, .slice none 0 0, .slice none 0 0] 29)) w.heap.size 29 #[.bool n, .slice a xs.length ca, .slice b ys.length cb]) := Box.later (Box.made w _ _) (bt (alloc_later _ _) (alloc_later _ _)) (by simp)
  have HM : Hid (Box (((w.alloc (.cells #[.bool n, .slice a xs.length ca, .slice b ys.length cb] 29)).alloc (.cells #[.bool m, .slice c us.length cc, .slice d vs.length cd] 29)).alloc (.cells #[.bool false, .slice none 0 0, .slice none 0 0] 29)) (w.heap.size + 1) 29 #[.bool m, .slice c us.length cc, .slice d vs.length cd]) := by
    have e := Box.later (Box.made (w.alloc (.cells #[.bool n, .slice a xs.length ca, .slice b ys.length cb] 29)) 29 #[.bool m, .slice c us.length cc, .slice d vs.length cd]) (alloc_later ((w.alloc (.cells #[.bool n, .slice a xs.length ca, .slice b ys.length cb] 29)).alloc (.cells #[.bool m, .slice c us.length cc, .slice d vs.length cd] 29)) (.cells #[.bool false, .slice none 0 0, .slice none 0 0] 29)) (by simp)
    simp at e
    exact e
  have HXS : Hid (w.heap.size + 1 + 1 < (((w.alloc (.cells #[.bool n, .slice a xs.length ca, .slice b ys.length cb] 29)).alloc (.cells #[.bool m, .slice c us.length cc, .slice d vs.length cd] 29)).alloc (.cells #[.bool false, .slice none 0 0, .slice none 0 0] 29)).heap.size) := HZ.out.lt
  have HSL := hid (And.intro (sx.later HB.out) (And.intro (sy.later HB.out) (And.intro (su.later HB.out) (sv.later HB.out))))
  have HC := hid (rcheckBoth_any n _ xs _ ys m _ us _ vs (((w.alloc (.cells #[.bool n, .slice a xs.length ca, .slice b ys.length cb] 29)).alloc (.cells #[.bool m, .slice c us.length cc, .slice d vs.length cd] 29)).alloc (.cells #[.bool false, .slice none 0 0, .slice none 0 0] 29)) HSL.out.1 HSL.out.2.1 HSL.out.2.2.1 HSL.out.2.2.2)
  rw [rboth_good hx hy] at HC
  have HA := hid (fun ww (hb : Below (((w.alloc (.cells #[.bool n, .slice a xs.length ca, .slice b ys.length cb] 29)).alloc (.cells #[.bool m, .slice c us.length cc, .slice d vs.length cd] 29)).alloc (.cells #[.bool false, .slice none 0 0, .slice none 0 0] 29)).heap.size (((w.alloc (.cells #[.bool n, .slice a xs.length ca, .slice b ys.length cb] 29)).alloc (.cells #[.bool m, .slice c us.length cc, .slice d vs.length cd] 29)).alloc (.cells #[.bool false, .slice none 0 0, .slice none 0 0] 29)) ww) => rmultiply_cut n a ca xs b cb ys m c cc us d cd vs ww (HSL.out.1.later hb) (HSL.out.2.1.later hb) (HSL.out.2.2.1.later hb) (HSL.out.2.2.2.later hb) lx ly lu lv tx ty tu tv (by omega) (by omega) g1 g2)
  clear sx sy su sv hx hy tx ty tu tv g1 g2 py pv
  go_enter Tryz.func80, Tryz.ntmps80
  go_wp2_with fail
  refine Calls.mono HC.out ?_
  generalize (((w.alloc (.cells #[.bool n, .slice a xs.length ca, .slice b ys.length cb] 29)).alloc (.cells #[.bool m, .slice c us.length cc, .slice d vs.length cd] 29)).alloc (.cells #[.bool false, .slice none 0 0, .slice none 0 0] 29)) = X at *
  rintro e w1 ⟨rfl, hb1⟩
  have HCA := hid (HA.out w1 hb1)
  obtain ⟨p0, p1, p2, _⟩ := res_box3 HN.out hb1
  obtain ⟨q0, q1, q2, _⟩ := res_box3 HM.out hb1
  have HB1 := hid hb1
  clear hb1 HC HA
  go_wp2_with fail
  refine Calls.mono HCA.out ?_
  rintro e w2 ⟨k2, v2, z2, u2, r2, code, rfl, o2, o3, t2, hb2, hc2⟩
  obtain ⟨a2, c2, hs2⟩ := own_slice' o2
  subst hs2
  obtain ⟨a3, c3, hs3⟩ := own_slice' o3
  subst hs3
  have HR := hid (And.intro o2 (And.intro o3 (And.intro t2 hc2)))
  obtain ⟨y0, y1, y2, f0, f1, f2⟩ := res_box3 HZ.out (bt HB1.out hb2)
  have HBW := hid (bt HB.out (bt HB1.out hb2))
  have HLT : Hid (w.heap.size + 1 + 1 < w1.heap.size) := Nat.lt_of_lt_of_le HXS.out HB1.out.size
  clear o2 o3 t2 hb2 hc2 HCA p0 p1 p2 q0 q1 q2
  go_wp2_with fail
  refine bodyPost_ret (v := .tuple #[.agg #[.bool k2, .slice a2 z2.length c2, .slice a3 r2.length c3], .int .i64 code]) (by simp [results, Tryz.results80, go_sem, y0, y1, y2]) rfl ?_
  exact RToldA.put HR.out (w.heap.size + 1 + 1) HLT.out (by omega) HBW.out _ _ _
theorem rMul_full (n : Bool) (a : Option Addr) (ca : Nat) (xs : List Int) (b : Option Addr) (cb : Nat) (ys : List Int) (m : Bool) (c : Option Addr) (cc : Nat) (us : List Int) (d : Option Addr) (cd : Nat) (vs : List Int) (w : World) (sx : Sl w (.slice a xs.length ca) xs) (sy : Sl w (.slice b ys.length cb) ys) (su : Sl w (.slice c us.length cc) us) (sv : Sl w (.slice d vs.length cd) vs) :
    Calls Tryz.prog 80 #[.agg #[.bool n, .slice a xs.length ca, .slice b ys.length cb], .agg #[.bool m, .slice c us.length cc, .slice d vs.length cd]] w (RToldA w (rboth n xs ys m us vs) (rq n xs ys * rq m us vs)) := by
  by_cases he : rboth n xs ys m us vs = 0
  · rw [he]
    exact rMul_ok n a ca xs b cb ys m c cc us d cd vs w sx sy su sv (rboth_ok he).1 (rboth_ok he).2
  · exact rMul_err n a ca xs b cb ys m c cc us d cd vs w sx sy su sv he _

set_option maxHeartbeats 3200000 in
set_option maxRecDepth 100000 in
theorem rSub_err (n : Bool) (a : Option Addr) (ca : Nat) (xs : List Int) (b : Option Addr) (cb : Nat) (ys : List Int) (m : Bool) (c : Option Addr) (cc : Nat) (us : List Int) (d : Option Addr) (cd : Nat) (vs : List Int) (w : World) (sx : Sl w (.slice a xs.length ca) xs) (sy : Sl w (.slice b ys.length cb) ys) (su : Sl w (.slice c us.length cc) us) (sv : Sl w (.slice d vs.length cd) vs) (he : rboth n xs ys m us vs ≠ 0) (q : Rat) :
    Calls Tryz.prog 79 #[.agg #[.bool n, .slice a xs.length ca, .slice b ys.length cb], .agg #[.bool m, .slice c us.length cc, .slice d vs.length cd]] w (RToldA w (rboth n xs ys m us vs) q) := by
  have HB : Hid (Below w.heap.size w (((w.alloc (.cells #[.bool n, .slice a xs.length ca, .slice b ys.length cb] 29)).alloc (.cells #[.bool m, .slice c us.length cc, .slice d vs.length cd] 29)).alloc (.cells #[.bool false, .slice none 0 0, .slice none 0 0] 29))) := bt (bt (alloc_later _ _) (alloc_later _ _)) (alloc_later _ _)
  have HZ : Hid (Box (((w.alloc (.cells #[.bool n, .slice a xs.length ca, .slice b ys.length cb] 29)).alloc (.cells #[.bool m, .slice c us.length cc, .slice d vs.length cd] 29)).alloc (.cells #[.bool false, .slice none 0 0, .slice none 0 0] 29)) (w.heap.size + 1 + 1) 29 #[.bool false, .slice none 0 0, .slice none 0 0]) := by
    have e := Box.made ((w.alloc (.cells #[.bool n, .slice a xs.length ca, .slice b ys.length cb] 29)).alloc (.cells #[.bool m, .slice c us.length cc, .slice d vs.length cd] 29)) 29 #[.bool false, .slice none 0 0, .slice none 0 0]
    simp at e
    exact e
  have HN : Hid (Box (((w.alloc (.cells #[.bool n, .slice a xs.length ca, .slice b ys.length cb] 29)).alloc (.cells #[.bool m, .slice c us.length cc, .slice d vs.length cd] 29)).alloc (.cells #[.bool false, .slice none 0 0, .slice none 0 0] 29)) w.heap.size 29 #[.bool n, .slice a xs.length ca, .slice b ys.length cb]) := Box.later (Box.made w _ _) (bt (alloc_later _ _) (alloc_later _ _)) (by simp)
  have HM : Hid (Box (((w.alloc (.cells #[.bool n, .slice a xs.length ca, .slice b ys.length cb] 29)).alloc (.cells #[.bool m, .slice c us.length cc, .slice d vs.length cd] 29)).alloc (.cells #[.bool false, .slice none 0 0, .slice none 0 0] 29)) (w.heap.size + 1) 29 #[.bool m, .slice c us.length cc, .slice d vs.length cd]) := by
    have e := Box.later (Box.made (w.alloc (.cells #[.bool n, .slice a xs.length ca, .slice b ys.length cb] 29)) 29 #[.bool m, .slice c us.length cc, .slice d vs.length cd]) (alloc_later ((w.alloc (.cells #[.bool n, .slice a xs.length ca, .slice b ys.length cb] 29)).alloc (.cells #[.bool m, .slice c us.length cc, .slice d vs.length cd] 29)) (.cells #[.bool false, .slice none 0 0, .slice none 0 0] 29)) (by simp)
    simp at e
    exact e
  have HXS : Hid (w.heap.size + 1 + 1 < (((w.alloc (.cells #[.bool n, .slice a xs.length ca, .slice b ys.length cb] 29)).alloc (.cells #[.bool m, .slice c us.length cc, .slice d vs.length cd] 29)).alloc (.cells #[.bool false, .slice none 0 0, .slice none 0 0] 29)).heap.size) := HZ.out.lt
  have HSL := hid (And.intro (sx.later HB.out) (And.intro (sy.later HB.out) (And.intro (su.later HB.out) (sv.later HB.out))))
  have HC := hid (rcheckBoth_any n _ xs _ ys m _ us _ vs (((w.alloc (.cells #[.bool n, .slice a xs.length ca, .slice b ys.length cb] 29)).alloc (.cells #[.bool m, .slice c us.length cc, .slice d vs.length cd] 29)).alloc (.cells #[.bool false, .slice none 0 0, .slice none 0 0] 29)) HSL.out.1 HSL.out.2.1 HSL.out.2.2.1 HSL.out.2.2.2)
  obtain ⟨E, hE⟩ : ∃ E, rboth n xs ys m us vs = E := ⟨_, rfl⟩
  rw [hE] at HC he ⊢
  have he' : (E == 0) = false := beq_eq_false_iff_ne.2 he
  have HE := hid he
  clear he hE sx sy su sv
  go_enter Tryz.func79, Tryz.ntmps79
  go_wp2_with fail
  refine Calls.mono HC.out ?_
  generalize (((w.alloc (.cells #[.bool n, .slice a xs.length ca, .slice b ys.length cb] 29)).alloc (.cells #[.bool m, .slice c us.length cc, .slice d vs.length cd] 29)).alloc (.cells #[.bool false, .slice none 0 0, .slice none 0 0] 29)) = X at *
  rintro e w1 ⟨rfl, hb1⟩
  obtain ⟨y0, y1, y2, f0, f1, f2⟩ := res_box3 HZ.out hb1
  have HBN := hid (below_put3 (bt HB.out hb1) (w.heap.size + 1 + 1) (by omega) (.bool false) (.slice none 0 0) (.slice none 0 0))
  clear hb1 HC HN HM HZ HSL
  go_wp2_with fail
  refine bodyPost_ret (v := .tuple #[.agg #[.bool false, .slice none 0 0, .slice none 0 0], .int .i64 E]) (by simp [results, Tryz.results79, go_sem, y0, y1, y2]) rfl ?_
  exact ⟨false, _, [], _, [], _, rfl, World.ownsRow_nil _ _ _ _, World.ownsRow_nil _ _ _ _, RTells.err HE.out, HBN.out, ⟨w.heap.size, Nat.le_refl _, HBN.out.size, fun g hg => by simp [Value.ownBlock] at hg, fun g hg => by simp [Value.ownBlock] at hg⟩⟩

set_option maxHeartbeats 3200000 in
set_option maxRecDepth 100000 in
theorem rSub_ok (n : Bool) (a : Option Addr) (ca : Nat) (xs : List Int) (b : Option Addr) (cb : Nat) (ys : List Int) (m : Bool) (c : Option Addr) (cc : Nat) (us : List Int) (d : Option Addr) (cd : Nat) (vs : List Int) (w : World) (sx : Sl w (.slice a xs.length ca) xs) (sy : Sl w (.slice b ys.length cb) ys) (su : Sl w (.slice c us.length cc) us) (sv : Sl w (.slice d vs.length cd) vs) (hx : rchk n xs ys = 0) (hy : rchk m us vs = 0) :
    Calls Tryz.prog 79 #[.agg #[.bool n, .slice a xs.length ca, .slice b ys.length cb], .agg #[.bool m, .slice c us.length cc, .slice d vs.length cd]] w (RToldA w 0 (rq n xs ys - rq m us vs)) := by
  obtain ⟨lx, ly, tx, ty, y0', _, g1⟩ := rchk_ok hx
  obtain ⟨lu, lv, tu, tv, v0', _, g2⟩ := rchk_ok hy
  have py := val_pos' sy.wd ty y0'
  have pv := val_pos' sv.wd tv v0'
  have HB : Hid (Below w.heap.size w (((w.alloc (.cells #[.bool n, .slice a xs.length ca, .slice b ys.length cb] 29)).alloc (.cells #[.bool m, .slice c us.length cc, .slice d vs.length cd] 29)).alloc (.cells #[.bool false, .slice none 0 0, .slice none 0 0] 29))) := bt (bt (alloc_later _ _) (alloc_later _ _)) (alloc_later _ _)
  have HZ : Hid (Box (((w.alloc (.cells #[.bool n, .slice a xs.length ca, .slice b ys.length cb] 29)).alloc (.cells #[.bool m, .slice c us.length cc, .slice d vs.length cd] 29)).alloc (.cells #[.bool false, .slice none 0 0, .slice none 0 0] 29)) (w.heap.size + 1 + 1) 29 #[.bool false, .slice none 0 0, .slice none 0 0]) := by
    have e := Box.made ((w.alloc (.cells #[.bool n, .slice a xs.length ca, .slice b ys.length cb] 29)).alloc (.cells #[.bool m, .slice c us.length cc, .slice d vs.length cd] 29)) 29 #[.bool false, .slice none 0 0, .slice none 0 0]
    simp at e
    exact e
  have HN : Hid (Box (((w.alloc (.cells #[.bool n, .slice a xs.length ca, .slice b ys.length cb] 29)).alloc (.cells #[.bool m, .slice c us.length cc, .slice d vs.length cd] 29)).alloc (.cells #[.bool false, .slice none 0 0, .slice none 0 0] 29)) w.heap.size 29 #[.bool n, .slice a xs.length ca, .slice b ys.length cb]) := Box.later (Box.made w _ _) (bt (alloc_later _ _) (alloc_later _ _)) (by simp)
  have HM : Hid (Box (((w.alloc (.cells #[.bool n, .slice a xs.length ca, .slice b ys.length cb] 29)).alloc (.cells #[.bool m, .slice c us.length cc, .slice d vs.length cd] 29)).alloc (.cells #[.bool false, .slice none 0 0, .slice none 0 0] 29)) (w.heap.size + 1) 29 #[.bool m, .slice c us.length cc, .slice d vs.length cd]) := by
    have e := Box.later (Box.made (w.alloc (.cells #[.bool n, .slice a xs.length ca, .slice b ys.length cb] 29)) 29 #[.bool m, .slice c us.length cc, .slice d vs.length cd]) (alloc_later ((w.alloc (.cells #[.bool n, .slice a xs.length ca, .slice b ys.length cb] 29)).alloc (.cells #[.bool m, .slice c us.length cc, .slice d vs.length cd] 29)) (.cells #[.bool false, .slice none 0 0, .slice none 0 0] 29)) (by simp)
    simp at e
    exact e
  have HXS : Hid (w.heap.size + 1 + 1 < (((w.alloc (.cells #[.bool n, .slice a xs.length ca, .slice b ys.length cb] 29)).alloc (.cells #[.bool m, .slice c us.length cc, .slice d vs.length cd] 29)).alloc (.cells #[.bool false, .slice none 0 0, .slice none 0 0] 29)).heap.size) := HZ.out.lt
  have HSL := hid (And.intro (sx.later HB.out) (And.intro (sy.later HB.out) (And.intro (su.later HB.out) (sv.later HB.out))))
  have HC := hid (rcheckBoth_any n _ xs _ ys m _ us _ vs (((w.alloc (.cells #[.bool n, .slice a xs.length ca, .slice b ys.length cb] 29)).alloc (.cells #[.bool m, .slice c us.length cc, .slice d vs.length cd] 29)).alloc (.cells #[.bool false, .slice none 0 0, .slice none 0 0] 29)) HSL.out.1 HSL.out.2.1 HSL.out.2.2.1 HSL.out.2.2.2)
  rw [rboth_good hx hy] at HC
  have HT := hid (And.intro lx (And.intro ly (And.intro lu (And.intro lv (And.intro tx (And.intro ty (And.intro tu (And.intro tv (And.intro g1 g2)))))))))
  have HS0 := hid (And.intro sx (And.intro sy (And.intro su sv)))
  have HPY := hid (And.intro py pv)
  clear sx sy su sv hx hy tx ty tu tv g1 g2 py pv lx ly lu lv
  go_enter Tryz.func79, Tryz.ntmps79
  go_wp2_with fail
  refine Calls.mono HC.out ?_
  generalize (((w.alloc (.cells #[.bool n, .slice a xs.length ca, .slice b ys.length cb] 29)).alloc (.cells #[.bool m, .slice c us.length cc, .slice d vs.length cd] 29)).alloc (.cells #[.bool false, .slice none 0 0, .slice none 0 0] 29)) = X at *
  rintro e w1 ⟨rfl, hb1⟩
  have HB1 := hid (bt HB.out hb1)
  have HN1 := hid (HN.out.later hb1 HN.out.lt)
  have HM1 := hid (HM.out.later hb1 HM.out.lt)
  have HZ1 := hid (HZ.out.later hb1 HZ.out.lt)
  have HL1 : Hid (w.heap.size + 1 + 1 < w1.heap.size) := Nat.lt_of_lt_of_le HXS.out hb1.size
  have HMp := hid (HM1.out.set 0 (.bool (!m)))
  have HNp := hid (HN1.out.other ⟨w.heap.size + 1, 0, none⟩ (.bool (!m)) (by simp))
  have HZp := hid (HZ1.out.other ⟨w.heap.size + 1, 0, none⟩ (.bool (!m)) (by simp))
  have HBs : Hid (Below w.heap.size w (w1.setCell ⟨w.heap.size + 1, 0, none⟩ (.bool (!m)))) := HB1.out.setCell (p := ⟨w.heap.size + 1, 0, none⟩) (by simp) _
  have HLs : Hid (w.heap.size + 1 + 1 < (w1.setCell ⟨w.heap.size + 1, 0, none⟩ (.bool (!m))).heap.size) := HZp.out.lt
  have HCA := hid (radd_any n a ca xs b cb ys (!m) c cc us d cd vs (w1.setCell ⟨w.heap.size + 1, 0, none⟩ (.bool (!m))) (HS0.out.1.later HBs.out) (HS0.out.2.1.later HBs.out) (HS0.out.2.2.1.later HBs.out) (HS0.out.2.2.2.later HBs.out) HT.out.1 HT.out.2.1 HT.out.2.2.1 HT.out.2.2.2.1 HT.out.2.2.2.2.1 HT.out.2.2.2.2.2.1 HT.out.2.2.2.2.2.2.1 HT.out.2.2.2.2.2.2.2.1 (by have := HPY.out; omega) (by have := HPY.out; omega) HT.out.2.2.2.2.2.2.2.2.1 HT.out.2.2.2.2.2.2.2.2.2)
  rw [rq_less] at HCA
  obtain ⟨p0, p1, p2, _⟩ := res_box3 HN1.out (Below.refl _ w1)
  obtain ⟨q0, q1, q2, g0, g1, g2⟩ := res_box3 HM1.out (Below.refl _ w1)
  have r0 : (w1.setCell ⟨w.heap.size + 1, 0, none⟩ (.bool (!m))).cell? ⟨w.heap.size, 0, none⟩ = some (.bool n) := HNp.out.cell 0
  have r1 : (w1.setCell ⟨w.heap.size + 1, 0, none⟩ (.bool (!m))).cell? ⟨w.heap.size, 1, none⟩ = some (.slice a xs.length ca) := HNp.out.cell 1
  have r2 : (w1.setCell ⟨w.heap.size + 1, 0, none⟩ (.bool (!m))).cell? ⟨w.heap.size, 2, none⟩ = some (.slice b ys.length cb) := HNp.out.cell 2
  have t0 : (w1.setCell ⟨w.heap.size + 1, 0, none⟩ (.bool (!m))).cell? ⟨w.heap.size + 1, 0, none⟩ = some (.bool (!m)) := HMp.out.cell 0
  have t1 : (w1.setCell ⟨w.heap.size + 1, 0, none⟩ (.bool (!m))).cell? ⟨w.heap.size + 1, 1, none⟩ = some (.slice c us.length cc) := HMp.out.cell 1
  have t2 : (w1.setCell ⟨w.heap.size + 1, 0, none⟩ (.bool (!m))).cell? ⟨w.heap.size + 1, 2, none⟩ = some (.slice d vs.length cd) := HMp.out.cell 2
  clear hb1 HC
  go_wp2_with fail
  refine Calls.mono HCA.out ?_
  generalize w1.setCell ⟨w.heap.size + 1, 0, none⟩ (.bool (!m)) = V at *
  rintro e w2 ⟨k2, v2, z2, u2, r2', code, rfl, o2, o3, tt2, hb2, hc2⟩
  obtain ⟨a2, c2, hs2⟩ := own_slice' o2
  subst hs2
  obtain ⟨a3, c3, hs3⟩ := own_slice' o3
  subst hs3
  have HR := hid (And.intro o2 (And.intro o3 (And.intro tt2 hc2)))
  obtain ⟨y0, y1, y2, f0, f1, f2⟩ := res_box3 HZp.out hb2
  have HBW := hid (bt HBs.out hb2)
  clear o2 o3 tt2 hb2 hc2 HCA p0 p1 p2 q0 q1 q2 g0 g1 g2 r0 r1 r2 t0 t1 t2
  go_wp2_with fail
  refine bodyPost_ret (v := .tuple #[.agg #[.bool k2, .slice a2 z2.length c2, .slice a3 r2'.length c3], .int .i64 code]) (by simp [results, Tryz.results79, go_sem, y0, y1, y2]) rfl ?_
  exact RToldA.put HR.out (w.heap.size + 1 + 1) HLs.out (by omega) HBW.out _ _ _
theorem rSub_full (n : Bool) (a : Option Addr) (ca : Nat) (xs : List Int) (b : Option Addr) (cb : Nat) (ys : List Int) (m : Bool) (c : Option Addr) (cc : Nat) (us : List Int) (d : Option Addr) (cd : Nat) (vs : List Int) (w : World) (sx : Sl w (.slice a xs.length ca) xs) (sy : Sl w (.slice b ys.length cb) ys) (su : Sl w (.slice c us.length cc) us) (sv : Sl w (.slice d vs.length cd) vs) :
    Calls Tryz.prog 79 #[.agg #[.bool n, .slice a xs.length ca, .slice b ys.length cb], .agg #[.bool m, .slice c us.length cc, .slice d vs.length cd]] w (RToldA w (rboth n xs ys m us vs) (rq n xs ys - rq m us vs)) := by
  by_cases he : rboth n xs ys m us vs = 0
  · rw [he]
    exact rSub_ok n a ca xs b cb ys m c cc us d cd vs w sx sy su sv (rboth_ok he).1 (rboth_ok he).2
  · exact rSub_err n a ca xs b cb ys m c cc us d cd vs w sx sy su sv he _
end Go.Proofs.YtcjfbmehibhkbaaGreatDoor

/- Fractions: ratio.Quo, Neg, Sign: of any fractions, good or refused; what is told is new memory. -/
namespace Go.Proofs.YtcjfbmehibhkbaaGreatDoor
open Go.RowKit
set_option linter.unusedVariables false

end Go.Proofs.YtcjfbmehibhkbaaGreatDoor

/- Fractions: ratio.Neg, Sign: of any fraction, good or refused. -/
namespace Go.Proofs.YtcjfbmehibhkbaaGreatDoor
open Go.RowKit
set_option linter.unusedVariables false

end Go.Proofs.YtcjfbmehibhkbaaGreatDoor

/- Complex fractions, the steps' own: sum, difference, product, quotient: of any fractions. -/
namespace Go.Proofs.YtcjfbmehibhkbaaGreatDoor
open Go.RowKit
set_option linter.unusedVariables false

set_option maxHeartbeats 1600000 in
set_option maxRecDepth 100000 in
theorem gsum_any (p : Nat) (E : Int) (n : Bool) (a : Option Addr) (ca : Nat) (xs : List Int) (b : Option Addr) (cb : Nat) (ys : List Int) (m : Bool) (c : Option Addr) (cc : Nat) (us : List Int) (d : Option Addr) (cd : Nat) (vs : List Int) (w : World) (hp : Box w p 107 #[.int .i64 E]) (sx : Sl w (.slice a xs.length ca) xs) (sy : Sl w (.slice b ys.length cb) ys) (su : Sl w (.slice c us.length cc) us) (sv : Sl w (.slice d vs.length cd) vs) :
    Calls Tryz.prog 62 #[.pointer (some ⟨p, 0, none⟩), .agg #[.bool n, .slice a xs.length ca, .slice b ys.length cb], .agg #[.bool m, .slice c us.length cc, .slice d vs.length cd]] w (GTell w p (fstE E (rboth n xs ys m us vs)) (rq n xs ys + rq m us vs)) := by
  have HX := hid (boxes3r w 29 #[.bool n, .slice a xs.length ca, .slice b ys.length cb] #[.bool m, .slice c us.length cc, .slice d vs.length cd] #[.bool false, .slice none 0 0, .slice none 0 0])
  obtain ⟨X, hX⟩ : ∃ X, ((w.alloc (.cells #[.bool n, .slice a xs.length ca, .slice b ys.length cb] 29)).alloc (.cells #[.bool m, .slice c us.length cc, .slice d vs.length cd] 29)).alloc (.cells #[.bool false, .slice none 0 0, .slice none 0 0] 29) = X := ⟨_, rfl⟩
  rw [hX] at HX
  have HP := hid (hp.later HX.out.2.2.2 hp.lt)
  have hpw : p < w.heap.size := hp.lt
  have HN := hid (gnext_any p 81 E (rboth n xs ys m us vs) (rq n xs ys + rq m us vs) (.bool n) (.slice a xs.length ca) (.slice b ys.length cb) (.bool m) (.slice c us.length cc) (.slice d vs.length cd) X HP.out (enters_of Tryz.func81 (by kernel_rfl) rfl) (fun V hv => rAdd_full n a ca xs b cb ys m c cc us d cd vs V (sx.later (bt HX.out.2.2.2 hv)) (sy.later (bt HX.out.2.2.2 hv)) (su.later (bt HX.out.2.2.2 hv)) (sv.later (bt HX.out.2.2.2 hv))))
  generalize fstE E (rboth n xs ys m us vs) = e at *
  generalize rq n xs ys + rq m us vs = q at *
  have c0 : X.cell? ⟨w.heap.size, 0, none⟩ = some (.bool n) := HX.out.1.cell 0
  have c1 : X.cell? ⟨w.heap.size, 1, none⟩ = some (.slice a xs.length ca) := HX.out.1.cell 1
  have c2 : X.cell? ⟨w.heap.size, 2, none⟩ = some (.slice b ys.length cb) := HX.out.1.cell 2
  have d0 : X.cell? ⟨w.heap.size + 1, 0, none⟩ = some (.bool m) := HX.out.2.1.cell 0
  have d1 : X.cell? ⟨w.heap.size + 1, 1, none⟩ = some (.slice c us.length cc) := HX.out.2.1.cell 1
  have d2 : X.cell? ⟨w.heap.size + 1, 2, none⟩ = some (.slice d vs.length cd) := HX.out.2.1.cell 2
  clear sx sy su sv hp
  go_enter Tryz.func62, Tryz.ntmps62
  go_wp2_with fail
  refine Calls.mono HN.out ?_
  rintro x w1 ⟨k, v, zs, u, ts, code, rfl, ov, ou, ht, hpb, hg, hcut⟩
  obtain ⟨av, cv, rfl⟩ := own_slice' ov
  obtain ⟨au, cu, rfl⟩ := own_slice' ou
  have HM1 := hid (HX.out.2.2.1.kept' hg (by intro e; have := Option.some.inj e; omega))
  have m0 : w1.cell? ⟨w.heap.size + 1 + 1, 0, none⟩ = some (.bool false) := HM1.out.cell 0
  have m1 : w1.cell? ⟨w.heap.size + 1 + 1, 1, none⟩ = some (.slice none 0 0) := HM1.out.cell 1
  have m2 : w1.cell? ⟨w.heap.size + 1 + 1, 2, none⟩ = some (.slice none 0 0) := HM1.out.cell 2
  have n0 := HM1.out.free 0
  have n1 := HM1.out.free 1
  have n2 := HM1.out.free 2
  have HOV := hid ov
  have HOU := hid ou
  have HTT := hid ht
  have HCC := hid hcut
  have HPB := hid hpb
  have HG := hid hg
  clear ov ou ht hcut hpb hg c0 c1 c2 d0 d1 d2 HN
  go_wp2_with fail
  have h3 := HX.out.2.2.1.lt
  have hv : ∀ b', (Value.slice av zs.length cv).ownBlock = some b' → b' ≠ w.heap.size + 1 + 1 := fun b' hb => by have := (HOV.out.lt b' hb).1; omega
  have hu : ∀ b', (Value.slice au ts.length cu).ownBlock = some b' → b' ≠ w.heap.size + 1 + 1 := fun b' hb => by have := (HOU.out.lt b' hb).1; omega
  have B1 := box_put3 HM1.out (.bool k) (.slice av zs.length cv) (.slice au ts.length cu)
  have P1 := box_far3 HPB.out (show p ≠ w.heap.size + 1 + 1 by omega) (.bool k) (.slice av zs.length cv) (.slice au ts.length cu)
  have V1 := own_put3' HOV.out _ hv (.bool k) (.slice av zs.length cv) (.slice au ts.length cu)
  have U1 := own_put3' HOU.out _ hu (.bool k) (.slice av zs.length cv) (.slice au ts.length cu)
  have G1 := grow_put3 (grow_trans (grow_below HX.out.2.2.2 (some p)) HG.out) (w.heap.size + 1 + 1) (.bool k) (.slice av zs.length cv) (.slice au ts.length cu) (.inl (by omega))
  have hXw := HX.out.2.2.2.size
  refine bodyPost_ret (results_cell_row (by rfl) _ _ (w.heap.size + 1 + 1) 29 _ (0, 0) _ (by rfl) B1 Tryz.underlying29 rfl (by kernel_rfl)) rfl ?_
  exact ⟨k, _, zs, _, ts, code, rfl, owns_base V1 hXw, owns_base U1 hXw, HTT.out, P1, G1, HCC.out.up hXw (by simp [World.setCell])⟩

set_option maxHeartbeats 1600000 in
set_option maxRecDepth 100000 in
theorem gdifference_any (p : Nat) (E : Int) (n : Bool) (a : Option Addr) (ca : Nat) (xs : List Int) (b : Option Addr) (cb : Nat) (ys : List Int) (m : Bool) (c : Option Addr) (cc : Nat) (us : List Int) (d : Option Addr) (cd : Nat) (vs : List Int) (w : World) (hp : Box w p 107 #[.int .i64 E]) (sx : Sl w (.slice a xs.length ca) xs) (sy : Sl w (.slice b ys.length cb) ys) (su : Sl w (.slice c us.length cc) us) (sv : Sl w (.slice d vs.length cd) vs) :
    Calls Tryz.prog 60 #[.pointer (some ⟨p, 0, none⟩), .agg #[.bool n, .slice a xs.length ca, .slice b ys.length cb], .agg #[.bool m, .slice c us.length cc, .slice d vs.length cd]] w (GTell w p (fstE E (rboth n xs ys m us vs)) (rq n xs ys - rq m us vs)) := by
  have HX := hid (boxes3r w 29 #[.bool n, .slice a xs.length ca, .slice b ys.length cb] #[.bool m, .slice c us.length cc, .slice d vs.length cd] #[.bool false, .slice none 0 0, .slice none 0 0])
  obtain ⟨X, hX⟩ : ∃ X, ((w.alloc (.cells #[.bool n, .slice a xs.length ca, .slice b ys.length cb] 29)).alloc (.cells #[.bool m, .slice c us.length cc, .slice d vs.length cd] 29)).alloc (.cells #[.bool false, .slice none 0 0, .slice none 0 0] 29) = X := ⟨_, rfl⟩
  rw [hX] at HX
  have HP := hid (hp.later HX.out.2.2.2 hp.lt)
  have hpw : p < w.heap.size := hp.lt
  have HN := hid (gnext_any p 79 E (rboth n xs ys m us vs) (rq n xs ys - rq m us vs) (.bool n) (.slice a xs.length ca) (.slice b ys.length cb) (.bool m) (.slice c us.length cc) (.slice d vs.length cd) X HP.out (enters_of Tryz.func79 (by kernel_rfl) rfl) (fun V hv => rSub_full n a ca xs b cb ys m c cc us d cd vs V (sx.later (bt HX.out.2.2.2 hv)) (sy.later (bt HX.out.2.2.2 hv)) (su.later (bt HX.out.2.2.2 hv)) (sv.later (bt HX.out.2.2.2 hv))))
  generalize fstE E (rboth n xs ys m us vs) = e at *
  generalize rq n xs ys - rq m us vs = q at *
  have c0 : X.cell? ⟨w.heap.size, 0, none⟩ = some (.bool n) := HX.out.1.cell 0
  have c1 : X.cell? ⟨w.heap.size, 1, none⟩ = some (.slice a xs.length ca) := HX.out.1.cell 1
  have c2 : X.cell? ⟨w.heap.size, 2, none⟩ = some (.slice b ys.length cb) := HX.out.1.cell 2
  have d0 : X.cell? ⟨w.heap.size + 1, 0, none⟩ = some (.bool m) := HX.out.2.1.cell 0
  have d1 : X.cell? ⟨w.heap.size + 1, 1, none⟩ = some (.slice c us.length cc) := HX.out.2.1.cell 1
  have d2 : X.cell? ⟨w.heap.size + 1, 2, none⟩ = some (.slice d vs.length cd) := HX.out.2.1.cell 2
  clear sx sy su sv hp
  go_enter Tryz.func60, Tryz.ntmps60
  go_wp2_with fail
  refine Calls.mono HN.out ?_
  rintro x w1 ⟨k, v, zs, u, ts, code, rfl, ov, ou, ht, hpb, hg, hcut⟩
  obtain ⟨av, cv, rfl⟩ := own_slice' ov
  obtain ⟨au, cu, rfl⟩ := own_slice' ou
  have HM1 := hid (HX.out.2.2.1.kept' hg (by intro e; have := Option.some.inj e; omega))
  have m0 : w1.cell? ⟨w.heap.size + 1 + 1, 0, none⟩ = some (.bool false) := HM1.out.cell 0
  have m1 : w1.cell? ⟨w.heap.size + 1 + 1, 1, none⟩ = some (.slice none 0 0) := HM1.out.cell 1
  have m2 : w1.cell? ⟨w.heap.size + 1 + 1, 2, none⟩ = some (.slice none 0 0) := HM1.out.cell 2
  have n0 := HM1.out.free 0
  have n1 := HM1.out.free 1
  have n2 := HM1.out.free 2
  have HOV := hid ov
  have HOU := hid ou
  have HTT := hid ht
  have HCC := hid hcut
  have HPB := hid hpb
  have HG := hid hg
  clear ov ou ht hcut hpb hg c0 c1 c2 d0 d1 d2 HN
  go_wp2_with fail
  have h3 := HX.out.2.2.1.lt
  have hv : ∀ b', (Value.slice av zs.length cv).ownBlock = some b' → b' ≠ w.heap.size + 1 + 1 := fun b' hb => by have := (HOV.out.lt b' hb).1; omega
  have hu : ∀ b', (Value.slice au ts.length cu).ownBlock = some b' → b' ≠ w.heap.size + 1 + 1 := fun b' hb => by have := (HOU.out.lt b' hb).1; omega
  have B1 := box_put3 HM1.out (.bool k) (.slice av zs.length cv) (.slice au ts.length cu)
  have P1 := box_far3 HPB.out (show p ≠ w.heap.size + 1 + 1 by omega) (.bool k) (.slice av zs.length cv) (.slice au ts.length cu)
  have V1 := own_put3' HOV.out _ hv (.bool k) (.slice av zs.length cv) (.slice au ts.length cu)
  have U1 := own_put3' HOU.out _ hu (.bool k) (.slice av zs.length cv) (.slice au ts.length cu)
  have G1 := grow_put3 (grow_trans (grow_below HX.out.2.2.2 (some p)) HG.out) (w.heap.size + 1 + 1) (.bool k) (.slice av zs.length cv) (.slice au ts.length cu) (.inl (by omega))
  have hXw := HX.out.2.2.2.size
  refine bodyPost_ret (results_cell_row (by rfl) _ _ (w.heap.size + 1 + 1) 29 _ (0, 0) _ (by rfl) B1 Tryz.underlying29 rfl (by kernel_rfl)) rfl ?_
  exact ⟨k, _, zs, _, ts, code, rfl, owns_base V1 hXw, owns_base U1 hXw, HTT.out, P1, G1, HCC.out.up hXw (by simp [World.setCell])⟩

set_option maxHeartbeats 1600000 in
set_option maxRecDepth 100000 in
theorem gproduct_any (p : Nat) (E : Int) (n : Bool) (a : Option Addr) (ca : Nat) (xs : List Int) (b : Option Addr) (cb : Nat) (ys : List Int) (m : Bool) (c : Option Addr) (cc : Nat) (us : List Int) (d : Option Addr) (cd : Nat) (vs : List Int) (w : World) (hp : Box w p 107 #[.int .i64 E]) (sx : Sl w (.slice a xs.length ca) xs) (sy : Sl w (.slice b ys.length cb) ys) (su : Sl w (.slice c us.length cc) us) (sv : Sl w (.slice d vs.length cd) vs) :
    Calls Tryz.prog 61 #[.pointer (some ⟨p, 0, none⟩), .agg #[.bool n, .slice a xs.length ca, .slice b ys.length cb], .agg #[.bool m, .slice c us.length cc, .slice d vs.length cd]] w (GTell w p (fstE E (rboth n xs ys m us vs)) (rq n xs ys * rq m us vs)) := by
  have HX := hid (boxes3r w 29 #[.bool n, .slice a xs.length ca, .slice b ys.length cb] #[.bool m, .slice c us.length cc, .slice d vs.length cd] #[.bool false, .slice none 0 0, .slice none 0 0])
  obtain ⟨X, hX⟩ : ∃ X, ((w.alloc (.cells #[.bool n, .slice a xs.length ca, .slice b ys.length cb] 29)).alloc (.cells #[.bool m, .slice c us.length cc, .slice d vs.length cd] 29)).alloc (.cells #[.bool false, .slice none 0 0, .slice none 0 0] 29) = X := ⟨_, rfl⟩
  rw [hX] at HX
  have HP := hid (hp.later HX.out.2.2.2 hp.lt)
  have hpw : p < w.heap.size := hp.lt
  have HN := hid (gnext_any p 80 E (rboth n xs ys m us vs) (rq n xs ys * rq m us vs) (.bool n) (.slice a xs.length ca) (.slice b ys.length cb) (.bool m) (.slice c us.length cc) (.slice d vs.length cd) X HP.out (enters_of Tryz.func80 (by kernel_rfl) rfl) (fun V hv => rMul_full n a ca xs b cb ys m c cc us d cd vs V (sx.later (bt HX.out.2.2.2 hv)) (sy.later (bt HX.out.2.2.2 hv)) (su.later (bt HX.out.2.2.2 hv)) (sv.later (bt HX.out.2.2.2 hv))))
  generalize fstE E (rboth n xs ys m us vs) = e at *
  generalize rq n xs ys * rq m us vs = q at *
  have c0 : X.cell? ⟨w.heap.size, 0, none⟩ = some (.bool n) := HX.out.1.cell 0
  have c1 : X.cell? ⟨w.heap.size, 1, none⟩ = some (.slice a xs.length ca) := HX.out.1.cell 1
  have c2 : X.cell? ⟨w.heap.size, 2, none⟩ = some (.slice b ys.length cb) := HX.out.1.cell 2
  have d0 : X.cell? ⟨w.heap.size + 1, 0, none⟩ = some (.bool m) := HX.out.2.1.cell 0
  have d1 : X.cell? ⟨w.heap.size + 1, 1, none⟩ = some (.slice c us.length cc) := HX.out.2.1.cell 1
  have d2 : X.cell? ⟨w.heap.size + 1, 2, none⟩ = some (.slice d vs.length cd) := HX.out.2.1.cell 2
  clear sx sy su sv hp
  go_enter Tryz.func61, Tryz.ntmps61
  go_wp2_with fail
  refine Calls.mono HN.out ?_
  rintro x w1 ⟨k, v, zs, u, ts, code, rfl, ov, ou, ht, hpb, hg, hcut⟩
  obtain ⟨av, cv, rfl⟩ := own_slice' ov
  obtain ⟨au, cu, rfl⟩ := own_slice' ou
  have HM1 := hid (HX.out.2.2.1.kept' hg (by intro e; have := Option.some.inj e; omega))
  have m0 : w1.cell? ⟨w.heap.size + 1 + 1, 0, none⟩ = some (.bool false) := HM1.out.cell 0
  have m1 : w1.cell? ⟨w.heap.size + 1 + 1, 1, none⟩ = some (.slice none 0 0) := HM1.out.cell 1
  have m2 : w1.cell? ⟨w.heap.size + 1 + 1, 2, none⟩ = some (.slice none 0 0) := HM1.out.cell 2
  have n0 := HM1.out.free 0
  have n1 := HM1.out.free 1
  have n2 := HM1.out.free 2
  have HOV := hid ov
  have HOU := hid ou
  have HTT := hid ht
  have HCC := hid hcut
  have HPB := hid hpb
  have HG := hid hg
  clear ov ou ht hcut hpb hg c0 c1 c2 d0 d1 d2 HN
  go_wp2_with fail
  have h3 := HX.out.2.2.1.lt
  have hv : ∀ b', (Value.slice av zs.length cv).ownBlock = some b' → b' ≠ w.heap.size + 1 + 1 := fun b' hb => by have := (HOV.out.lt b' hb).1; omega
  have hu : ∀ b', (Value.slice au ts.length cu).ownBlock = some b' → b' ≠ w.heap.size + 1 + 1 := fun b' hb => by have := (HOU.out.lt b' hb).1; omega
  have B1 := box_put3 HM1.out (.bool k) (.slice av zs.length cv) (.slice au ts.length cu)
  have P1 := box_far3 HPB.out (show p ≠ w.heap.size + 1 + 1 by omega) (.bool k) (.slice av zs.length cv) (.slice au ts.length cu)
  have V1 := own_put3' HOV.out _ hv (.bool k) (.slice av zs.length cv) (.slice au ts.length cu)
  have U1 := own_put3' HOU.out _ hu (.bool k) (.slice av zs.length cv) (.slice au ts.length cu)
  have G1 := grow_put3 (grow_trans (grow_below HX.out.2.2.2 (some p)) HG.out) (w.heap.size + 1 + 1) (.bool k) (.slice av zs.length cv) (.slice au ts.length cu) (.inl (by omega))
  have hXw := HX.out.2.2.2.size
  refine bodyPost_ret (results_cell_row (by rfl) _ _ (w.heap.size + 1 + 1) 29 _ (0, 0) _ (by rfl) B1 Tryz.underlying29 rfl (by kernel_rfl)) rfl ?_
  exact ⟨k, _, zs, _, ts, code, rfl, owns_base V1 hXw, owns_base U1 hXw, HTT.out, P1, G1, HCC.out.up hXw (by simp [World.setCell])⟩

end Go.Proofs.YtcjfbmehibhkbaaGreatDoor

/- Complex fractions, the steps' own: opposite, look, told. -/
namespace Go.Proofs.YtcjfbmehibhkbaaGreatDoor
open Go.RowKit
set_option linter.unusedVariables false

theorem boxes2r (w : World) (t : Nat) (u v : Array Value) : Box ((w.alloc (.cells u t)).alloc (.cells v t)) w.heap.size t u ∧ Box ((w.alloc (.cells u t)).alloc (.cells v t)) (w.heap.size + 1) t v ∧ Below w.heap.size w ((w.alloc (.cells u t)).alloc (.cells v t)) := by
  have e1 : (w.alloc (.cells u t)).heap.size = w.heap.size + 1 := World.size_alloc _ _
  have a := Box.made w t u
  have b := Box.made (w.alloc (.cells u t)) t v
  exact ⟨a.later (alloc_later _ _) a.lt, e1 ▸ b, bt (alloc_later _ _) (alloc_later _ _)⟩

set_option maxHeartbeats 800000 in
set_option maxRecDepth 100000 in
theorem glook_any (p : Nat) (E : Int) (n : Bool) (a : Option Addr) (ca : Nat) (xs : List Int) (b : Option Addr) (cb : Nat) (ys : List Int) (m : Bool) (c : Option Addr) (cc : Nat) (us : List Int) (d : Option Addr) (cd : Nat) (vs : List Int) (w : World) (hp : Box w p 107 #[.int .i64 E]) (sx : Sl w (.slice a xs.length ca) xs) (sy : Sl w (.slice b ys.length cb) ys) (su : Sl w (.slice c us.length cc) us) (sv : Sl w (.slice d vs.length cd) vs) :
    Calls Tryz.prog 59 #[.pointer (some ⟨p, 0, none⟩), .agg #[.bool n, .slice a xs.length ca, .slice b ys.length cb, .bool m, .slice c us.length cc, .slice d vs.length cd]] w fun e w' => e = .returned (.tuple #[]) ∧ Box w' p 107 #[.int .i64 (fstE E (gchk n xs ys m us vs))] ∧ w.grownBy w' (some p) := by
  have HB := hid (Box.made w 31 #[.bool n, .slice a xs.length ca, .slice b ys.length cb, .bool m, .slice c us.length cc, .slice d vs.length cd])
  have HW := hid (alloc_later w (.cells #[.bool n, .slice a xs.length ca, .slice b ys.length cb, .bool m, .slice c us.length cc, .slice d vs.length cd] 31))
  obtain ⟨X, hX⟩ : ∃ X, w.alloc (.cells #[.bool n, .slice a xs.length ca, .slice b ys.length cb, .bool m, .slice c us.length cc, .slice d vs.length cd] 31) = X := ⟨_, rfl⟩
  rw [hX] at HB HW
  have HP := hid (hp.later HW.out hp.lt)
  have kp : X.cell? ⟨p, 0, none⟩ = some (.int .i64 E) := HP.out.cell 0
  have fp := HP.out.free 0
  have HC := hid (gcheck_any n _ xs _ ys m _ us _ vs X (sx.later HW.out) (sy.later HW.out) (su.later HW.out) (sv.later HW.out))
  generalize gchk n xs ys m us vs = e at *
  clear sx sy su sv hp
  by_cases hE : E = 0
  · subst hE
    rw [fstE_zero]
    have c0 : X.cell? ⟨w.heap.size, 0, none⟩ = some (.bool n) := HB.out.cell 0
    have c1 : X.cell? ⟨w.heap.size, 1, none⟩ = some (.slice a xs.length ca) := HB.out.cell 1
    have c2 : X.cell? ⟨w.heap.size, 2, none⟩ = some (.slice b ys.length cb) := HB.out.cell 2
    have c3 : X.cell? ⟨w.heap.size, 3, none⟩ = some (.bool m) := HB.out.cell 3
    have c4 : X.cell? ⟨w.heap.size, 4, none⟩ = some (.slice c us.length cc) := HB.out.cell 4
    have c5 : X.cell? ⟨w.heap.size, 5, none⟩ = some (.slice d vs.length cd) := HB.out.cell 5
    go_enter Tryz.func59, Tryz.ntmps59
    go_wp2_with fail
    refine Calls.mono HC.out ?_
    rintro x w1 ⟨rfl, hb1⟩
    have HP1 := hid (HP.out.later hb1 HP.out.lt)
    have kp1 : w1.cell? ⟨p, 0, none⟩ = some (.int .i64 0) := HP1.out.cell 0
    have fp1 := HP1.out.free 0
    have HBB := hid (bt HW.out hb1)
    clear hb1 c0 c1 c2 c3 c4 c5 kp fp HC
    go_wp2_with fail
    go_end0
    exact ⟨rfl, HP1.out.set 0 (.int .i64 e), grow_put (grow_below HBB.out (some p)) p 0 _ (.inr rfl)⟩
  · have hE' : (E == 0) = false := by simp [hE]
    rw [fstE_err e hE]
    go_enter Tryz.func59, Tryz.ntmps59
    go_wp2_with fail
    go_end0
    exact ⟨rfl, HP.out, grow_below HW.out (some p)⟩
end Go.Proofs.YtcjfbmehibhkbaaGreatDoor

/- Complex fractions, the steps' own: lookAt of one and of two, told. -/
namespace Go.Proofs.YtcjfbmehibhkbaaGreatDoor
open Go.RowKit
set_option linter.unusedVariables false

set_option maxHeartbeats 1600000 in
set_option maxRecDepth 100000 in
theorem glookAt2_any (g : Nat) (n : Bool) (a : Option Addr) (ca : Nat) (xs : List Int) (b : Option Addr) (cb : Nat) (ys : List Int) (m : Bool) (c : Option Addr) (cc : Nat) (us : List Int) (d : Option Addr) (cd : Nat) (vs : List Int) (n2 : Bool) (a2 : Option Addr) (ca2 : Nat) (xs2 : List Int) (b2' : Option Addr) (cb2 : Nat) (ys2 : List Int) (m2 : Bool) (c2 : Option Addr) (cc2 : Nat) (us2 : List Int) (d2 : Option Addr) (cd2 : Nat) (vs2 : List Int) (w : World) (hg : Box w g 31 #[.bool n, .slice a xs.length ca, .slice b ys.length cb, .bool m, .slice c us.length cc, .slice d vs.length cd, .bool n2, .slice a2 xs2.length ca2, .slice b2' ys2.length cb2, .bool m2, .slice c2 us2.length cc2, .slice d2 vs2.length cd2]) (sx : Sl w (.slice a xs.length ca) xs) (sy : Sl w (.slice b ys.length cb) ys) (su : Sl w (.slice c us.length cc) us) (sv : Sl w (.slice d vs.length cd) vs) (sx2 : Sl w (.slice a2 xs2.length ca2) xs2) (sy2 : Sl w (.slice b2' ys2.length cb2) ys2) (su2 : Sl w (.slice c2 us2.length cc2) us2) (sv2 : Sl w (.slice d2 vs2.length cd2) vs2) :
    Calls Tryz.prog 45 #[.slice (some ⟨g, 0, none⟩) 2 2] w fun e w' => ∃ p, e = .returned (.pointer (some ⟨p, 0, none⟩)) ∧ w.heap.size ≤ p ∧ Box w' p 107 #[.int .i64 (fstE (gchk n xs ys m us vs) (gchk n2 xs2 ys2 m2 us2 vs2))] ∧ Below w.heap.size w w' := by
  have HS := hid (Box.made w 107 #[.int .i64 0])
  have HW := hid (alloc_later w (.cells #[.int .i64 0] 107))
  have HL : Hid (∀ (V : World) (E : Int), Below w.heap.size w V → Box V w.heap.size 107 #[.int .i64 E] → Calls Tryz.prog 59 #[.pointer (some ⟨w.heap.size, 0, none⟩), .agg #[.bool n, .slice a xs.length ca, .slice b ys.length cb, .bool m, .slice c us.length cc, .slice d vs.length cd]] V fun e w' => e = .returned (.tuple #[]) ∧ Box w' w.heap.size 107 #[.int .i64 (fstE E (gchk n xs ys m us vs))] ∧ V.grownBy w' (some w.heap.size)) := fun V E hv hb => glook_any w.heap.size E n a ca xs b cb ys m c cc us d cd vs V hb (sx.later hv) (sy.later hv) (su.later hv) (sv.later hv)
  have HL2 : Hid (∀ (V : World) (E : Int), Below w.heap.size w V → Box V w.heap.size 107 #[.int .i64 E] → Calls Tryz.prog 59 #[.pointer (some ⟨w.heap.size, 0, none⟩), .agg #[.bool n2, .slice a2 xs2.length ca2, .slice b2' ys2.length cb2, .bool m2, .slice c2 us2.length cc2, .slice d2 vs2.length cd2]] V fun e w' => e = .returned (.tuple #[]) ∧ Box w' w.heap.size 107 #[.int .i64 (fstE E (gchk n2 xs2 ys2 m2 us2 vs2))] ∧ V.grownBy w' (some w.heap.size)) := fun V E hv hb => glook_any w.heap.size E n2 a2 ca2 xs2 b2' cb2 ys2 m2 c2 cc2 us2 d2 cd2 vs2 V hb (sx2.later hv) (sy2.later hv) (su2.later hv) (sv2.later hv)
  generalize gchk n xs ys m us vs = E1 at *
  generalize gchk n2 xs2 ys2 m2 us2 vs2 = E2 at *
  have HG := hid hg
  have hgl : g < w.heap.size := hg.lt
  clear hg sx sy su sv sx2 sy2 su2 sv2
  go_enter Tryz.func45, Tryz.ntmps45
  go_wp2_with fail
  generalize w.alloc (.cells #[.int .i64 0] 107) = X at *
  refine wp_loop_rounds 3 ?_
  rw [rounds_succ]
  have k0 : X.cell? ⟨g, 0, none⟩ = some (.bool n) := (HG.out.later (HW.out) hgl).cell 0
  have k1 : X.cell? ⟨g, 1, none⟩ = some (.slice a xs.length ca) := (HG.out.later (HW.out) hgl).cell 1
  have k2 : X.cell? ⟨g, 2, none⟩ = some (.slice b ys.length cb) := (HG.out.later (HW.out) hgl).cell 2
  have k3 : X.cell? ⟨g, 3, none⟩ = some (.bool m) := (HG.out.later (HW.out) hgl).cell 3
  have k4 : X.cell? ⟨g, 4, none⟩ = some (.slice c us.length cc) := (HG.out.later (HW.out) hgl).cell 4
  have k5 : X.cell? ⟨g, 5, none⟩ = some (.slice d vs.length cd) := (HG.out.later (HW.out) hgl).cell 5
  have HA0 := hid (alloc_later X (.cells #[.bool n, .slice a xs.length ca, .slice b ys.length cb, .bool m, .slice c us.length cc, .slice d vs.length cd] 31))
  go_wp2_with fail
  generalize X.alloc (.cells #[.bool n, .slice a xs.length ca, .slice b ys.length cb, .bool m, .slice c us.length cc, .slice d vs.length cd] 31) = Y0 at *
  refine Calls.mono (HL.out Y0 0 (bt (HW.out) HA0.out) ((HS.out).later HA0.out (HS.out).lt)) ?_
  rintro e z0 ⟨rfl, hz0, hgz0⟩
  have HZ0 := hid hz0
  have HB0 : Hid (Below w.heap.size w z0) := (bt (HW.out) HA0.out).grown hgz0 (bt (HW.out) HA0.out).size (fun q hq => by have e := Option.some.inj hq; omega)
  clear hz0 hgz0 k0 k1 k2 k3 k4 k5
  go_wp2_with fail
  rw [rounds_succ]
  have k0 : z0.cell? ⟨g, 6, none⟩ = some (.bool n2) := (HG.out.later (HB0.out) hgl).cell 6
  have k1 : z0.cell? ⟨g, 7, none⟩ = some (.slice a2 xs2.length ca2) := (HG.out.later (HB0.out) hgl).cell 7
  have k2 : z0.cell? ⟨g, 8, none⟩ = some (.slice b2' ys2.length cb2) := (HG.out.later (HB0.out) hgl).cell 8
  have k3 : z0.cell? ⟨g, 9, none⟩ = some (.bool m2) := (HG.out.later (HB0.out) hgl).cell 9
  have k4 : z0.cell? ⟨g, 10, none⟩ = some (.slice c2 us2.length cc2) := (HG.out.later (HB0.out) hgl).cell 10
  have k5 : z0.cell? ⟨g, 11, none⟩ = some (.slice d2 vs2.length cd2) := (HG.out.later (HB0.out) hgl).cell 11
  have HA1 := hid (alloc_later z0 (.cells #[.bool n2, .slice a2 xs2.length ca2, .slice b2' ys2.length cb2, .bool m2, .slice c2 us2.length cc2, .slice d2 vs2.length cd2] 31))
  go_wp2_with fail
  generalize z0.alloc (.cells #[.bool n2, .slice a2 xs2.length ca2, .slice b2' ys2.length cb2, .bool m2, .slice c2 us2.length cc2, .slice d2 vs2.length cd2] 31) = Y1 at *
  refine Calls.mono (HL2.out Y1 (fstE 0 E1) (bt (HB0.out) HA1.out) ((HZ0.out).later HA1.out (HZ0.out).lt)) ?_
  rintro e z1 ⟨rfl, hz1, hgz1⟩
  have HZ1 := hid hz1
  have HB1 : Hid (Below w.heap.size w z1) := (bt (HB0.out) HA1.out).grown hgz1 (bt (HB0.out) HA1.out).size (fun q hq => by have e := Option.some.inj hq; omega)
  clear hz1 hgz1 k0 k1 k2 k3 k4 k5
  go_wp2_with fail
  rw [rounds_succ]
  go_wp2_with fail
  go_ret
  refine ⟨_, rfl, Nat.le_refl _, ?_, HB1.out⟩
  have e := HZ1.out
  rw [fstE_zero] at e
  exact e

end Go.Proofs.YtcjfbmehibhkbaaGreatDoor

/- Complex fractions, the steps' own: told. -/
namespace Go.Proofs.YtcjfbmehibhkbaaGreatDoor
open Go.RowKit
set_option linter.unusedVariables false

theorem box_put6 {U : World} {b t : Nat} {u0 u1 u2 u3 u4 u5 : Value} (h : Box U b t #[u0, u1, u2, u3, u4, u5]) (v0 v1 v2 v3 v4 v5 : Value) : Box ((((((U.setCell ⟨b, 0, none⟩ v0).setCell ⟨b, 1, none⟩ v1).setCell ⟨b, 2, none⟩ v2).setCell ⟨b, 3, none⟩ v3).setCell ⟨b, 4, none⟩ v4).setCell ⟨b, 5, none⟩ v5) b t #[v0, v1, v2, v3, v4, v5] := (((((h.set 0 v0).set 1 v1).set 2 v2).set 3 v3).set 4 v4).set 5 v5
theorem below_put6 {B : Nat} {x U : World} (h : Below B x U) (b : Nat) (hb : B ≤ b) (v0 v1 v2 v3 v4 v5 : Value) : Below B x ((((((U.setCell ⟨b, 0, none⟩ v0).setCell ⟨b, 1, none⟩ v1).setCell ⟨b, 2, none⟩ v2).setCell ⟨b, 3, none⟩ v3).setCell ⟨b, 4, none⟩ v4).setCell ⟨b, 5, none⟩ v5) :=
  (((((h.setCell (p := ⟨b, 0, none⟩) hb _).setCell (p := ⟨b, 1, none⟩) hb _).setCell (p := ⟨b, 2, none⟩) hb _).setCell (p := ⟨b, 3, none⟩) hb _).setCell (p := ⟨b, 4, none⟩) hb _).setCell (p := ⟨b, 5, none⟩) hb _
/-- What told tells is read out of a box and a slot. -/
theorem told_run {W : World} {b : Nat} {cs : Array Value} (hb : Box W b 31 cs) (tmps : Array Value) (h4 : tmps.getD 4 undef = .pointer (some ⟨b, 0, none⟩)) (hi : (Tryz.prog.info? 31).map (·.size) = some cs.size := by kernel_rfl) : (results Tryz.f46 tmps).run Tryz.prog W = .ok (.tuple #[.agg cs, tmps.getD 5 undef]) W := by
  have h := run_loadVar_row (P := Tryz.prog) W b 31 31 cs (0, 0) _ hb Tryz.underlying31 rfl hi
  rw [results_cell_tmp (by rfl), h4]
  simp [asAddr, h]

set_option maxHeartbeats 800000 in
set_option maxRecDepth 100000 in
theorem gtold_any (p : Nat) (E : Int) (n : Bool) (a : Option Addr) (ka ca : Nat) (b : Option Addr) (kb cb : Nat) (m : Bool) (c : Option Addr) (kc cc : Nat) (d : Option Addr) (kd cd : Nat) (w : World) (hp : Box w p 107 #[.int .i64 E]) :
    Calls Tryz.prog 46 #[.pointer (some ⟨p, 0, none⟩), .agg #[.bool n, .slice a ka ca, .slice b kb cb, .bool m, .slice c kc cc, .slice d kd cd]] w fun e w' => e = .returned (.tuple #[.agg (if E = 0 then #[.bool n, .slice a ka ca, .slice b kb cb, .bool m, .slice c kc cc, .slice d kd cd] else #[.bool false, .slice none 0 0, .slice none 0 0, .bool false, .slice none 0 0, .slice none 0 0]), .int .i64 E]) ∧ Below w.heap.size w w' := by
  have HX := hid (boxes2r w 31 #[.bool n, .slice a ka ca, .slice b kb cb, .bool m, .slice c kc cc, .slice d kd cd] #[.bool false, .slice none 0 0, .slice none 0 0, .bool false, .slice none 0 0, .slice none 0 0])
  obtain ⟨X, hX⟩ : ∃ X, (w.alloc (.cells #[.bool n, .slice a ka ca, .slice b kb cb, .bool m, .slice c kc cc, .slice d kd cd] 31)).alloc (.cells #[.bool false, .slice none 0 0, .slice none 0 0, .bool false, .slice none 0 0, .slice none 0 0] 31) = X := ⟨_, rfl⟩
  rw [hX] at HX
  have HP := hid (hp.later HX.out.2.2 hp.lt)
  have kp : X.cell? ⟨p, 0, none⟩ = some (.int .i64 E) := HP.out.cell 0
  have m0 : X.cell? ⟨w.heap.size + 1, 0, none⟩ = some (.bool false) := HX.out.2.1.cell 0
  have m1 : X.cell? ⟨w.heap.size + 1, 1, none⟩ = some (.slice none 0 0) := HX.out.2.1.cell 1
  have m2 : X.cell? ⟨w.heap.size + 1, 2, none⟩ = some (.slice none 0 0) := HX.out.2.1.cell 2
  have m3 : X.cell? ⟨w.heap.size + 1, 3, none⟩ = some (.bool false) := HX.out.2.1.cell 3
  have m4 : X.cell? ⟨w.heap.size + 1, 4, none⟩ = some (.slice none 0 0) := HX.out.2.1.cell 4
  have m5 : X.cell? ⟨w.heap.size + 1, 5, none⟩ = some (.slice none 0 0) := HX.out.2.1.cell 5
  have n0 := HX.out.2.1.free 0
  have n1 := HX.out.2.1.free 1
  have n2 := HX.out.2.1.free 2
  have n3 := HX.out.2.1.free 3
  have n4 := HX.out.2.1.free 4
  have n5 := HX.out.2.1.free 5
  have hpw : p < w.heap.size := hp.lt
  clear hp
  by_cases hE : E = 0
  · subst hE
    rw [if_pos rfl]
    have c0 : X.cell? ⟨w.heap.size, 0, none⟩ = some (.bool n) := HX.out.1.cell 0
    have c1 : X.cell? ⟨w.heap.size, 1, none⟩ = some (.slice a ka ca) := HX.out.1.cell 1
    have c2 : X.cell? ⟨w.heap.size, 2, none⟩ = some (.slice b kb cb) := HX.out.1.cell 2
    have c3 : X.cell? ⟨w.heap.size, 3, none⟩ = some (.bool m) := HX.out.1.cell 3
    have c4 : X.cell? ⟨w.heap.size, 4, none⟩ = some (.slice c kc cc) := HX.out.1.cell 4
    have c5 : X.cell? ⟨w.heap.size, 5, none⟩ = some (.slice d kd cd) := HX.out.1.cell 5
    go_enter Tryz.func46, Tryz.ntmps46
    go_wp2_with fail
    have B1 := box_put6 HX.out.2.1 (.bool n) (.slice a ka ca) (.slice b kb cb) (.bool m) (.slice c kc cc) (.slice d kd cd)
    have G1 := below_put6 HX.out.2.2 (w.heap.size + 1) (by omega) (.bool n) (.slice a ka ca) (.slice b kb cb) (.bool m) (.slice c kc cc) (.slice d kd cd)
    clear m0 m1 m2 m3 m4 m5 n0 n1 n2 n3 n4 n5 c0 c1 c2 c3 c4 c5 kp
    generalize (((((X.setCell ⟨w.heap.size + 1, 0, none⟩ (.bool n)).setCell ⟨w.heap.size + 1, 1, none⟩ (.slice a ka ca)).setCell ⟨w.heap.size + 1, 2, none⟩ (.slice b kb cb)).setCell ⟨w.heap.size + 1, 3, none⟩ (.bool m)).setCell ⟨w.heap.size + 1, 4, none⟩ (.slice c kc cc)).setCell ⟨w.heap.size + 1, 5, none⟩ (.slice d kd cd) = W at *
    exact bodyPost_ret (told_run B1 _ rfl) rfl ⟨rfl, G1⟩
  · have hE' : (E == 0) = false := by simp [hE]
    rw [if_neg hE]
    have hne : p ≠ w.heap.size + 1 := by omega
    go_enter Tryz.func46, Tryz.ntmps46
    go_wp2_with fail
    go_region
    all_goals
      go_wp2_with fail
      have B1 := box_put6 HX.out.2.1 (.bool false) (.slice none 0 0) (.slice none 0 0) (.bool false) (.slice none 0 0) (.slice none 0 0)
      have G1 := below_put6 HX.out.2.2 (w.heap.size + 1) (by omega) (.bool false) (.slice none 0 0) (.slice none 0 0) (.bool false) (.slice none 0 0) (.slice none 0 0)
      clear m0 m1 m2 m3 m4 m5 n0 n1 n2 n3 n4 n5 kp
      generalize (((((X.setCell ⟨w.heap.size + 1, 0, none⟩ (.bool false)).setCell ⟨w.heap.size + 1, 1, none⟩ (.slice none 0 0)).setCell ⟨w.heap.size + 1, 2, none⟩ (.slice none 0 0)).setCell ⟨w.heap.size + 1, 3, none⟩ (.bool false)).setCell ⟨w.heap.size + 1, 4, none⟩ (.slice none 0 0)).setCell ⟨w.heap.size + 1, 5, none⟩ (.slice none 0 0) = W at *
      have B2 : Box W.drew (w.heap.size + 1) 31 #[.bool false, .slice none 0 0, .slice none 0 0, .bool false, .slice none 0 0, .slice none 0 0] := B1
      exact bodyPost_ret (told_run B2 _ rfl) rfl ⟨rfl, G1.drew⟩
end Go.Proofs.YtcjfbmehibhkbaaGreatDoor

/- Complex fractions: gauss.Add, Sub: of any two, good or refused. -/
namespace Go.Proofs.YtcjfbmehibhkbaaGreatDoor
open Go.RowKit
set_option linter.unusedVariables false

/-- What a call tells that tells a complex fraction: E what was refused ahead, L whether something on the way is too long. -/
structure GTells (E : Int) (L : Prop) (q1 q2 : Rat) (n : Bool) (xs ys : List Int) (m : Bool) (us vs : List Int) (code : Int) : Prop where
  wd : Wd xs ∧ Wd ys ∧ Wd us ∧ Wd vs
  bad : E ≠ 0 → (n = false ∧ xs = [] ∧ ys = [] ∧ m = false ∧ us = [] ∧ vs = []) ∧ code = E
  long : E = 0 → L → (n = false ∧ xs = [] ∧ ys = [] ∧ m = false ∧ us = [] ∧ vs = []) ∧ code = 3
  good : E = 0 → ¬ L → code = 0 ∧ (rchk n xs ys = 0 ∧ rq n xs ys = q1) ∧ rchk m us vs = 0 ∧ rq m us vs = q2
def GTold (w : World) (E : Int) (L : Prop) (q1 q2 : Rat) (x : Ending) (w' : World) : Prop :=
  ∃ n a ca xs b cb ys m c cc us d cd vs code, x = .returned (.tuple #[.agg #[.bool n, .slice a (List.length xs) ca, .slice b (List.length ys) cb, .bool m, .slice c (List.length us) cc, .slice d (List.length vs) cd], .int .i64 code]) ∧ (w'.ownsRow w.heap.size 38 1 (.slice a xs.length ca) xs.length (xs.map (Value.int .u32)) ∧ w'.ownsRow w.heap.size 38 1 (.slice b ys.length cb) ys.length (ys.map (Value.int .u32)) ∧ w'.ownsRow w.heap.size 38 1 (.slice c us.length cc) us.length (us.map (Value.int .u32)) ∧ w'.ownsRow w.heap.size 38 1 (.slice d vs.length cd) vs.length (vs.map (Value.int .u32))) ∧ GTells E L q1 q2 n xs ys m us vs code ∧ Below w.heap.size w w'

theorem gchk_ok {n m : Bool} {xs ys us vs : List Int} (h : gchk n xs ys m us vs = 0) : rchk n xs ys = 0 ∧ rchk m us vs = 0 := by
  unfold gchk fstE at h
  by_cases e : rchk n xs ys = 0
  · rw [if_pos e] at h; exact ⟨e, h⟩
  · rw [if_neg e] at h; exact absurd h e
theorem fstE_ok {E e : Int} (h : fstE E e = 0) : E = 0 ∧ e = 0 := by
  unfold fstE at h
  by_cases c : E = 0
  · rw [if_pos c] at h; exact ⟨c, h⟩
  · rw [if_neg c] at h; exact absurd h c

theorem own_put6 {w : World} {base e n : Nat} {v : Value} {xs : List Value} (h : w.ownsRow base e 1 v n xs) (b : Nat) (hb : ∀ g, v.ownBlock = some g → g ≠ b) (u0 u1 u2 u3 u4 u5 : Value) : ((((((w.setCell ⟨b, 0, none⟩ u0).setCell ⟨b, 1, none⟩ u1).setCell ⟨b, 2, none⟩ u2).setCell ⟨b, 3, none⟩ u3).setCell ⟨b, 4, none⟩ u4).setCell ⟨b, 5, none⟩ u5).ownsRow base e 1 v n xs :=
  own_put1 (own_put1 (own_put1 (own_put3' h b hb u0 u1 u2) b hb 3 u3) b hb 4 u4) b hb 5 u5
/-- A complex fraction is read out of a box, its error out of a slot. -/
theorem gres_run {fn : Func} {W : World} {b q u : Nat} {cs : Array Value} (hr : fn.results = #[.cell q 31, .tmp u]) (hb : Box W b 31 cs) (tmps : Array Value) (h4 : tmps.getD q undef = .pointer (some ⟨b, 0, none⟩)) (hi : (Tryz.prog.info? 31).map (·.size) = some cs.size := by kernel_rfl) : (results fn tmps).run Tryz.prog W = .ok (.tuple #[.agg cs, tmps.getD u undef]) W := by
  have h := run_loadVar_row (P := Tryz.prog) W b 31 31 cs (0, 0) _ hb Tryz.underlying31 rfl hi
  rw [results_cell_tmp hr, h4]
  simp [asAddr, h]

theorem rboth0 {n m : Bool} {xs ys us vs : List Int} (h : rchk n xs ys = 0) (g : rchk m us vs = 0) : rboth n xs ys m us vs = 0 := rboth_good h g

end Go.Proofs.YtcjfbmehibhkbaaGreatDoor

/- Fractions: Same, Sign; slices.Equal of words. -/
namespace Go.Proofs.YtcjfbmehibhkbaaGreatDoor
open Go.RowKit
set_option linter.unusedVariables false

set_option maxHeartbeats 800000 in
set_option maxRecDepth 100000 in
theorem slEqual_any (a : Option Addr) (n cap : Nat) (xs : List Int) (b : Option Addr) (m cap' : Nat) (ys : List Int) (w : World) (h : Reads w w.heap.size a n cap xs) (g : Reads w w.heap.size b m cap' ys) (hn : n ≤ 281474976710656) (hm : m ≤ 281474976710656) :
    Calls Tryz.prog 38 #[.slice a n cap, .slice b m cap'] w fun e w' => e = .returned (.bool (decide (xs = ys))) ∧ Below w.heap.size w w' := by
  obtain ⟨hl, hw, hc, hcap⟩ := h
  obtain ⟨gl, gw, gc, gcap⟩ := g
  by_cases hnm : n = m
  · subst hnm
    have htt : ((n : Int) != (n : Int)) = false := by simp
    rcases hc with h0 | ⟨b1, o1, rfl, hb1, hc⟩
    · subst h0
      have hx : xs = [] := List.eq_nil_of_length_eq_zero hl
      have hy : ys = [] := List.eq_nil_of_length_eq_zero gl
      subst hx; subst hy
      go_enter Tryz.func38, Tryz.ntmps38
      go_wp2
      refine wp_loop_rounds 1 ?_
      rw [rounds_succ]
      go_wp2
      go_ret
      exact ⟨rfl, Below.refl _ _⟩
    · rcases gc with g0 | ⟨b2, o2, rfl, hb2, gc⟩
      · subst g0
        have hx : xs = [] := List.eq_nil_of_length_eq_zero hl
        have hy : ys = [] := List.eq_nil_of_length_eq_zero gl
        subst hx; subst hy
        go_enter Tryz.func38, Tryz.ntmps38
        go_wp2
        refine wp_loop_rounds 1 ?_
        rw [rounds_succ]
        go_wp2
        go_ret
        exact ⟨rfl, Below.refl _ _⟩
      · have HL : Hid (xs.length = n ∧ ys.length = n) := ⟨hl, gl⟩
        clear hl gl
        go_enter Tryz.func38, Tryz.ntmps38
        go_wp2
        go_loopw [13] (fun t wr => ∃ k : Nat, k ≤ n ∧ t = .int .i64 k ∧ xs.take k = ys.take k ∧ Below w.heap.size w wr) (fun t _ => n - (intOf t).toNat)
        case atStart => exact ⟨0, Nat.zero_le _, rfl, rfl, Below.refl _ _⟩
        case round =>
          obtain ⟨k, hk, rfl, hs, hbel⟩ := hrel
          have HS : Hid (xs.take k = ys.take k) := hs
          clear hs
          by_cases hlt : k < n
          · have hcx : wr.cell? ⟨b1, o1 + k, none⟩ = some (.int .u32 (xs[k]?.getD 0)) := (hbel.cell (p := ⟨b1, o1 + k, none⟩) hb1).trans (hc k hlt)
            have hcy : wr.cell? ⟨b2, o2 + k, none⟩ = some (.int .u32 (ys[k]?.getD 0)) := (hbel.cell (p := ⟨b2, o2 + k, none⟩) hb2).trans (gc k hlt)
            by_cases he : xs[k]?.getD 0 = ys[k]?.getD 0
            · have hne : (xs[k]?.getD 0 != ys[k]?.getD 0) = false := by simp [he]
              have HE : Hid (xs[k]?.getD 0 = ys[k]?.getD 0) := he
              clear he
              go_wp2
              go_region

              all_goals go_wp2

              all_goals
                go_roundw
                case rel => exact ⟨k + 1, by omega, by go_num, take_same HS.out (by have := HL.out; omega) (by have := HL.out; omega) HE.out, hbel.drew⟩
                case measure => simp [intOf]; omega
            · have hne : (xs[k]?.getD 0 != ys[k]?.getD 0) = true := by simp [he]
              have HE : Hid (¬ xs[k]?.getD 0 = ys[k]?.getD 0) := he
              clear he
              go_wp2
              go_region
              all_goals go_wp2
              all_goals
                go_ret
                exact ⟨ret_bool (decide_eq_false fun e => HE.out (by rw [e])).symm, hbel.drew⟩
          · have hkn : k = n := by omega
            subst hkn
            go_wp2
            go_ret
            exact ⟨ret_bool (decide_eq_true (by have := HS.out; have hl := HL.out; rwa [List.take_of_length_le (by omega), List.take_of_length_le (by omega)] at this)).symm, hbel⟩
  · have hne : ((n : Int) != (m : Int)) = true := by simp; omega
    have hd : decide (xs = ys) = false := decide_eq_false fun e => hnm (by rw [← hl, ← gl, e])
    have HD : Hid (decide (xs = ys) = false) := hd
    clear hd hc gc
    go_enter Tryz.func38, Tryz.ntmps38
    go_wp2
    go_ret
    exact ⟨ret_bool HD.out.symm, Below.refl _ _⟩

theorem slEqual_sl (v u : Value) (xs ys : List Int) (w : World) (h : Sl w v xs) (g : Sl w u ys) (hn : xs.length ≤ 281474976710656) (hm : ys.length ≤ 281474976710656) :
    Calls Tryz.prog 38 #[v, u] w fun e w' => e = .returned (.bool (decide (xs = ys))) ∧ Below w.heap.size w w' := by
  obtain ⟨a, ca, rfl, hr⟩ := h
  obtain ⟨b, cb, rfl, gr⟩ := g
  exact slEqual_any a _ ca xs b _ cb ys w hr gr hn hm

set_option maxHeartbeats 1600000 in
set_option maxRecDepth 100000 in
theorem rSame_any (n : Bool) (a : Option Addr) (ca : Nat) (xs : List Int) (b : Option Addr) (cb : Nat) (ys : List Int) (m : Bool) (c : Option Addr) (cc : Nat) (us : List Int) (d : Option Addr) (cd : Nat) (vs : List Int) (w : World) (sx : Sl w (.slice a xs.length ca) xs) (sy : Sl w (.slice b ys.length cb) ys) (su : Sl w (.slice c us.length cc) us) (sv : Sl w (.slice d vs.length cd) vs) (lx : xs.length ≤ 281474976710656) (ly : ys.length ≤ 281474976710656) (lu : us.length ≤ 281474976710656) (lv : vs.length ≤ 281474976710656) :
    Calls Tryz.prog 29 #[.agg #[.bool n, .slice a xs.length ca, .slice b ys.length cb], .agg #[.bool m, .slice c us.length cc, .slice d vs.length cd]] w fun e w' => e = .returned (.bool (decide (n = m ∧ xs = us ∧ ys = vs))) ∧ Below w.heap.size w w' := by
  have HB : Hid (Below w.heap.size w ((w.alloc (.cells #[.bool n, .slice a xs.length ca, .slice b ys.length cb] 29)).alloc (.cells #[.bool m, .slice c us.length cc, .slice d vs.length cd] 29))) := bt (alloc_later _ _) (alloc_later _ _)
  have HN : Hid (Box ((w.alloc (.cells #[.bool n, .slice a xs.length ca, .slice b ys.length cb] 29)).alloc (.cells #[.bool m, .slice c us.length cc, .slice d vs.length cd] 29)) w.heap.size 29 #[.bool n, .slice a xs.length ca, .slice b ys.length cb]) := Box.later (Box.made w _ _) (alloc_later _ _) (by simp)
  have HM : Hid (Box ((w.alloc (.cells #[.bool n, .slice a xs.length ca, .slice b ys.length cb] 29)).alloc (.cells #[.bool m, .slice c us.length cc, .slice d vs.length cd] 29)) (w.heap.size + 1) 29 #[.bool m, .slice c us.length cc, .slice d vs.length cd]) := by
    have e := Box.made (w.alloc (.cells #[.bool n, .slice a xs.length ca, .slice b ys.length cb] 29)) 29 #[.bool m, .slice c us.length cc, .slice d vs.length cd]
    simp at e
    exact e
  have H1 := hid (slEqual_sl _ _ xs us ((w.alloc (.cells #[.bool n, .slice a xs.length ca, .slice b ys.length cb] 29)).alloc (.cells #[.bool m, .slice c us.length cc, .slice d vs.length cd] 29)) (sx.later HB.out) (su.later HB.out) lx lu)
  have H2 := hid (fun ww (hb : Below ((w.alloc (.cells #[.bool n, .slice a xs.length ca, .slice b ys.length cb] 29)).alloc (.cells #[.bool m, .slice c us.length cc, .slice d vs.length cd] 29)).heap.size ((w.alloc (.cells #[.bool n, .slice a xs.length ca, .slice b ys.length cb] 29)).alloc (.cells #[.bool m, .slice c us.length cc, .slice d vs.length cd] 29)) ww) => slEqual_sl _ _ ys vs ww ((sy.later HB.out).later hb) ((sv.later HB.out).later hb) ly lv)
  clear sx sy su sv
  by_cases h0 : n = m
  · subst h0
    have hbb : (n == n) = true := by simp
    by_cases h1 : xs = us
    · have HR : Hid (decide (n = n ∧ xs = us ∧ ys = vs) = decide (ys = vs)) := by show _ = _; simp [h1]
      rw [decide_eq_true h1] at H1
      rw [HR.out]
      clear h1
      go_enter Tryz.func29, Tryz.ntmps29
      go_wp2_with fail
      refine Calls.mono H1.out ?_
      generalize ((w.alloc (.cells #[.bool n, .slice a xs.length ca, .slice b ys.length cb] 29)).alloc (.cells #[.bool n, .slice c us.length cc, .slice d vs.length cd] 29)) = X at *
      rintro e w1 ⟨rfl, hb1⟩
      obtain ⟨p0, p1, p2, _⟩ := res_box3 HN.out hb1
      obtain ⟨q0, q1, q2, _⟩ := res_box3 HM.out hb1
      have HC := hid (H2.out w1 hb1)
      have HB1 := hid (bt HB.out hb1)
      clear hb1 H1 H2
      go_wp2_with fail
      refine Calls.mono HC.out ?_
      rintro e w2 ⟨rfl, hb2⟩
      have HBN := hid (bt HB1.out hb2)
      clear hb2 HC
      go_wp2_with fail
      go_ret
      exact ⟨rfl, HBN.out⟩
    · have HR : Hid (decide (n = n ∧ xs = us ∧ ys = vs) = false) := decide_eq_false (fun h => h1 h.2.1)
      rw [decide_eq_false h1] at H1
      rw [HR.out]
      clear h1
      go_enter Tryz.func29, Tryz.ntmps29
      go_wp2_with fail
      refine Calls.mono H1.out ?_
      rintro e w1 ⟨rfl, hb1⟩
      have HBN := hid (bt HB.out hb1)
      clear hb1 H1 H2
      go_wp2_with fail
      go_ret
      exact ⟨rfl, HBN.out⟩
  · have HR : Hid (decide (n = m ∧ xs = us ∧ ys = vs) = false) := decide_eq_false (fun h => h0 h.1)
    have hbb : (n == m) = false := by simp [h0]
    rw [HR.out]
    clear h0
    go_enter Tryz.func29, Tryz.ntmps29
    go_wp2_with fail
    go_ret
    exact ⟨rfl, HB.out⟩
end Go.Proofs.YtcjfbmehibhkbaaGreatDoor

/- Complex fractions: gauss.Same: of any two. -/
namespace Go.Proofs.YtcjfbmehibhkbaaGreatDoor
open Go.RowKit
set_option linter.unusedVariables false

set_option maxHeartbeats 3200000 in
set_option maxRecDepth 100000 in
theorem gSame_any (n : Bool) (a : Option Addr) (ca : Nat) (xs : List Int) (b : Option Addr) (cb : Nat) (ys : List Int) (m : Bool) (c : Option Addr) (cc : Nat) (us : List Int) (d : Option Addr) (cd : Nat) (vs : List Int) (n2 : Bool) (a2 : Option Addr) (ca2 : Nat) (xs2 : List Int) (b2' : Option Addr) (cb2 : Nat) (ys2 : List Int) (m2 : Bool) (c2 : Option Addr) (cc2 : Nat) (us2 : List Int) (d2 : Option Addr) (cd2 : Nat) (vs2 : List Int) (w : World) (sx : Sl w (.slice a xs.length ca) xs) (sy : Sl w (.slice b ys.length cb) ys) (su : Sl w (.slice c us.length cc) us) (sv : Sl w (.slice d vs.length cd) vs) (sx2 : Sl w (.slice a2 xs2.length ca2) xs2) (sy2 : Sl w (.slice b2' ys2.length cb2) ys2) (su2 : Sl w (.slice c2 us2.length cc2) us2) (sv2 : Sl w (.slice d2 vs2.length cd2) vs2) (lxs : xs.length ≤ 281474976710656) (lys : ys.length ≤ 281474976710656) (lus : us.length ≤ 281474976710656) (lvs : vs.length ≤ 281474976710656) (lxs2 : xs2.length ≤ 281474976710656) (lys2 : ys2.length ≤ 281474976710656) (lus2 : us2.length ≤ 281474976710656) (lvs2 : vs2.length ≤ 281474976710656) :
    Calls Tryz.prog 18 #[.agg #[.bool n, .slice a xs.length ca, .slice b ys.length cb, .bool m, .slice c us.length cc, .slice d vs.length cd], .agg #[.bool n2, .slice a2 xs2.length ca2, .slice b2' ys2.length cb2, .bool m2, .slice c2 us2.length cc2, .slice d2 vs2.length cd2]] w fun x w' => x = .returned (.bool ((decide (n = n2 ∧ xs = xs2 ∧ ys = ys2) && decide (m = m2 ∧ us = us2 ∧ vs = vs2)) && (gchk n xs ys m us vs == 0))) ∧ Below w.heap.size w w' := by
  have HX := hid (boxes2r w 31 #[.bool n, .slice a xs.length ca, .slice b ys.length cb, .bool m, .slice c us.length cc, .slice d vs.length cd] #[.bool n2, .slice a2 xs2.length ca2, .slice b2' ys2.length cb2, .bool m2, .slice c2 us2.length cc2, .slice d2 vs2.length cd2])
  obtain ⟨X, hX⟩ : ∃ X, (w.alloc (.cells #[.bool n, .slice a xs.length ca, .slice b ys.length cb, .bool m, .slice c us.length cc, .slice d vs.length cd] 31)).alloc (.cells #[.bool n2, .slice a2 xs2.length ca2, .slice b2' ys2.length cb2, .bool m2, .slice c2 us2.length cc2, .slice d2 vs2.length cd2] 31) = X := ⟨_, rfl⟩
  rw [hX] at HX
  have H1 : Hid (∀ V, Below w.heap.size w V → Calls Tryz.prog 29 #[.agg #[.bool n, .slice a xs.length ca, .slice b ys.length cb], .agg #[.bool n2, .slice a2 xs2.length ca2, .slice b2' ys2.length cb2]] V fun e w' => e = .returned (.bool (decide (n = n2 ∧ xs = xs2 ∧ ys = ys2))) ∧ Below V.heap.size V w') := hid (fun V hv => rSame_any n a ca xs b cb ys n2 a2 ca2 xs2 b2' cb2 ys2 V (sx.later hv) (sy.later hv) (sx2.later hv) (sy2.later hv) lxs lys lxs2 lys2)
  have H2 : Hid (∀ V, Below w.heap.size w V → Calls Tryz.prog 29 #[.agg #[.bool m, .slice c us.length cc, .slice d vs.length cd], .agg #[.bool m2, .slice c2 us2.length cc2, .slice d2 vs2.length cd2]] V fun e w' => e = .returned (.bool (decide (m = m2 ∧ us = us2 ∧ vs = vs2))) ∧ Below V.heap.size V w') := hid (fun V hv => rSame_any m c cc us d cd vs m2 c2 cc2 us2 d2 cd2 vs2 V (su.later hv) (sv.later hv) (su2.later hv) (sv2.later hv) lus lvs lus2 lvs2)
  have HC : Hid (∀ V, Below w.heap.size w V → Calls Tryz.prog 30 #[.agg #[.bool n, .slice a xs.length ca, .slice b ys.length cb, .bool m, .slice c us.length cc, .slice d vs.length cd]] V fun e w' => e = .returned (.int .i64 (gchk n xs ys m us vs)) ∧ Below V.heap.size V w') := hid (fun V hv => gcheck_any n _ xs _ ys m _ us _ vs V (sx.later hv) (sy.later hv) (su.later hv) (sv.later hv))
  clear sx sy su sv sx2 sy2 su2 sv2 lxs lys lus lvs lxs2 lys2 lus2 lvs2
  generalize decide (n = n2 ∧ xs = xs2 ∧ ys = ys2) = z1 at *
  generalize decide (m = m2 ∧ us = us2 ∧ vs = vs2) = z2 at *
  generalize gchk n xs ys m us vs = E at *
  have ka0 : X.cell? ⟨w.heap.size, 0, none⟩ = some (.bool n) := HX.out.1.cell 0
  have ka1 : X.cell? ⟨w.heap.size, 1, none⟩ = some (.slice a xs.length ca) := HX.out.1.cell 1
  have ka2 : X.cell? ⟨w.heap.size, 2, none⟩ = some (.slice b ys.length cb) := HX.out.1.cell 2
  have ka3 : X.cell? ⟨w.heap.size, 3, none⟩ = some (.bool m) := HX.out.1.cell 3
  have ka4 : X.cell? ⟨w.heap.size, 4, none⟩ = some (.slice c us.length cc) := HX.out.1.cell 4
  have ka5 : X.cell? ⟨w.heap.size, 5, none⟩ = some (.slice d vs.length cd) := HX.out.1.cell 5
  have kb0 : X.cell? ⟨w.heap.size + 1, 0, none⟩ = some (.bool n2) := HX.out.2.1.cell 0
  have kb1 : X.cell? ⟨w.heap.size + 1, 1, none⟩ = some (.slice a2 xs2.length ca2) := HX.out.2.1.cell 1
  have kb2 : X.cell? ⟨w.heap.size + 1, 2, none⟩ = some (.slice b2' ys2.length cb2) := HX.out.2.1.cell 2
  have kb3 : X.cell? ⟨w.heap.size + 1, 3, none⟩ = some (.bool m2) := HX.out.2.1.cell 3
  have kb4 : X.cell? ⟨w.heap.size + 1, 4, none⟩ = some (.slice c2 us2.length cc2) := HX.out.2.1.cell 4
  have kb5 : X.cell? ⟨w.heap.size + 1, 5, none⟩ = some (.slice d2 vs2.length cd2) := HX.out.2.1.cell 5
  go_enter Tryz.func18, Tryz.ntmps18
  go_wp2_with fail
  refine Calls.mono (H1.out _ HX.out.2.2) ?_
  rintro x w1 ⟨rfl, hb1⟩
  have HW1 := hid (bt HX.out.2.2 hb1)
  have HA1 := hid (HX.out.1.later hb1 HX.out.1.lt)
  have HB1 := hid (HX.out.2.1.later hb1 HX.out.2.1.lt)
  clear ka0 ka1 ka2 ka3 ka4 ka5 kb0 kb1 kb2 kb3 kb4 kb5 hb1 H1
  cases z1 with
  | false =>
    go_wp2_with fail
    go_ret
    exact ⟨rfl, HW1.out⟩
  | true =>
    have ka0 : w1.cell? ⟨w.heap.size, 0, none⟩ = some (.bool n) := HA1.out.cell 0
    have ka1 : w1.cell? ⟨w.heap.size, 1, none⟩ = some (.slice a xs.length ca) := HA1.out.cell 1
    have ka2 : w1.cell? ⟨w.heap.size, 2, none⟩ = some (.slice b ys.length cb) := HA1.out.cell 2
    have ka3 : w1.cell? ⟨w.heap.size, 3, none⟩ = some (.bool m) := HA1.out.cell 3
    have ka4 : w1.cell? ⟨w.heap.size, 4, none⟩ = some (.slice c us.length cc) := HA1.out.cell 4
    have ka5 : w1.cell? ⟨w.heap.size, 5, none⟩ = some (.slice d vs.length cd) := HA1.out.cell 5
    have kb0 : w1.cell? ⟨w.heap.size + 1, 0, none⟩ = some (.bool n2) := HB1.out.cell 0
    have kb1 : w1.cell? ⟨w.heap.size + 1, 1, none⟩ = some (.slice a2 xs2.length ca2) := HB1.out.cell 1
    have kb2 : w1.cell? ⟨w.heap.size + 1, 2, none⟩ = some (.slice b2' ys2.length cb2) := HB1.out.cell 2
    have kb3 : w1.cell? ⟨w.heap.size + 1, 3, none⟩ = some (.bool m2) := HB1.out.cell 3
    have kb4 : w1.cell? ⟨w.heap.size + 1, 4, none⟩ = some (.slice c2 us2.length cc2) := HB1.out.cell 4
    have kb5 : w1.cell? ⟨w.heap.size + 1, 5, none⟩ = some (.slice d2 vs2.length cd2) := HB1.out.cell 5
    go_wp2_with fail
    refine Calls.mono (H2.out _ HW1.out) ?_
    rintro x w2 ⟨rfl, hb2⟩
    have HW2 := hid (bt HW1.out hb2)
    have HA2 := hid (HA1.out.later hb2 HA1.out.lt)
    clear ka0 ka1 ka2 ka3 ka4 ka5 kb0 kb1 kb2 kb3 kb4 kb5 hb2 H2
    cases z2 with
    | false =>
      go_wp2_with fail
      go_ret
      exact ⟨rfl, HW2.out⟩
    | true =>
      have ka0 : w2.cell? ⟨w.heap.size, 0, none⟩ = some (.bool n) := HA2.out.cell 0
      have ka1 : w2.cell? ⟨w.heap.size, 1, none⟩ = some (.slice a xs.length ca) := HA2.out.cell 1
      have ka2 : w2.cell? ⟨w.heap.size, 2, none⟩ = some (.slice b ys.length cb) := HA2.out.cell 2
      have ka3 : w2.cell? ⟨w.heap.size, 3, none⟩ = some (.bool m) := HA2.out.cell 3
      have ka4 : w2.cell? ⟨w.heap.size, 4, none⟩ = some (.slice c us.length cc) := HA2.out.cell 4
      have ka5 : w2.cell? ⟨w.heap.size, 5, none⟩ = some (.slice d vs.length cd) := HA2.out.cell 5
      go_wp2_with fail
      refine Calls.mono (HC.out _ HW2.out) ?_
      rintro x w3 ⟨rfl, hb3⟩
      have HW3 := hid (bt HW2.out hb3)
      clear ka0 ka1 ka2 ka3 ka4 ka5 hb3 HC
      go_wp2_with fail
      go_ret
      exact ⟨rfl, HW3.out⟩
end Go.Proofs.YtcjfbmehibhkbaaGreatDoor

/- Fractions: ratio.Make, ratio.Small. -/
namespace Go.Proofs.YtcjfbmehibhkbaaGreatDoor
open Go.RowKit
set_option linter.unusedVariables false

set_option maxHeartbeats 3200000 in
set_option maxRecDepth 100000 in
theorem rmake_e1 (n : Bool) (a : Option Addr) (ca : Nat) (xs : List Int) (m : Bool) (b : Option Addr) (cb : Nat) (ys : List Int) (w : World) (h : Sl w (.slice a xs.length ca) xs) (g : Sl w (.slice b ys.length cb) ys) (lx : xs.length ≤ 281474976710656) (ly : ys.length ≤ 281474976710656) (hx : wchk n xs ≠ 0) (q : Rat) :
    Calls Tryz.prog 57 #[.agg #[.bool n, .slice a xs.length ca], .agg #[.bool m, .slice b ys.length cb]] w (RToldA w (wchk n xs) q) := by
  have HB : Hid (Below w.heap.size w (((w.alloc (.cells #[.bool n, .slice a xs.length ca] 78)).alloc (.cells #[.bool m, .slice b ys.length cb] 78)).alloc (.cells #[.bool false, .slice none 0 0, .slice none 0 0] 29))) := bt (bt (alloc_later _ _) (alloc_later _ _)) (alloc_later _ _)
  have HZ : Hid (Box (((w.alloc (.cells #[.bool n, .slice a xs.length ca] 78)).alloc (.cells #[.bool m, .slice b ys.length cb] 78)).alloc (.cells #[.bool false, .slice none 0 0, .slice none 0 0] 29)) (w.heap.size + 1 + 1) 29 #[.bool false, .slice none 0 0, .slice none 0 0]) := by
    have e := Box.made ((w.alloc (.cells #[.bool n, .slice a xs.length ca] 78)).alloc (.cells #[.bool m, .slice b ys.length cb] 78)) 29 #[.bool false, .slice none 0 0, .slice none 0 0]
    simp at e
    exact e
  have HN : Hid (Box (((w.alloc (.cells #[.bool n, .slice a xs.length ca] 78)).alloc (.cells #[.bool m, .slice b ys.length cb] 78)).alloc (.cells #[.bool false, .slice none 0 0, .slice none 0 0] 29)) w.heap.size 78 #[.bool n, .slice a xs.length ca]) := Box.later (Box.later (Box.made w _ _) (alloc_later _ _) (by simp)) (alloc_later _ _) (by simp; omega)
  have HM : Hid (Box (((w.alloc (.cells #[.bool n, .slice a xs.length ca] 78)).alloc (.cells #[.bool m, .slice b ys.length cb] 78)).alloc (.cells #[.bool false, .slice none 0 0, .slice none 0 0] 29)) (w.heap.size + 1) 78 #[.bool m, .slice b ys.length cb]) := by
    have e := Box.later (Box.made (w.alloc (.cells #[.bool n, .slice a xs.length ca] 78)) 78 #[.bool m, .slice b ys.length cb]) (alloc_later ((w.alloc (.cells #[.bool n, .slice a xs.length ca] 78)).alloc (.cells #[.bool m, .slice b ys.length cb] 78)) (.cells #[.bool false, .slice none 0 0, .slice none 0 0] 29)) (by simp)
    simp at e
    exact e
  have HS := hid (And.intro (h.later HB.out) (g.later HB.out))
  have HXS : Hid (w.heap.size + 1 + 1 < (((w.alloc (.cells #[.bool n, .slice a xs.length ca] 78)).alloc (.cells #[.bool m, .slice b ys.length cb] 78)).alloc (.cells #[.bool false, .slice none 0 0, .slice none 0 0] 29)).heap.size) := HZ.out.lt
  have HC1 := hid (wcheck_any n _ xs _ HS.out.1 lx)
  obtain ⟨e1, he1⟩ : ∃ e1, wchk n xs = e1 := ⟨_, rfl⟩
  rw [he1] at HC1 hx ⊢
  have hx' : (e1 == 0) = false := beq_eq_false_iff_ne.2 hx
  have HE := hid hx
  clear he1 hx
  clear h g
  go_enter Tryz.func57, Tryz.ntmps57
  go_wp2_with fail
  refine Calls.mono HC1.out ?_
  generalize (((w.alloc (.cells #[.bool n, .slice a xs.length ca] 78)).alloc (.cells #[.bool m, .slice b ys.length cb] 78)).alloc (.cells #[.bool false, .slice none 0 0, .slice none 0 0] 29)) = X at *
  rintro e w1 ⟨rfl, hb1⟩
  have HB1 := hid hb1
  clear hb1 HC1
  obtain ⟨y0, y1, y2, f0, f1, f2⟩ := res_box3 HZ.out HB1.out
  have HBN := hid (below_put3 (bt HB.out HB1.out) (w.heap.size + 1 + 1) (by omega) (.bool false) (.slice none 0 0) (.slice none 0 0))
  clear HN HM HZ HS
  go_wp2_with fail
  refine bodyPost_ret (v := .tuple #[.agg #[.bool false, .slice none 0 0, .slice none 0 0], .int .i64 e1]) (by simp [results, Tryz.results57, go_sem, y0, y1, y2]) rfl ?_
  exact ⟨false, _, [], _, [], _, rfl, World.ownsRow_nil _ _ _ _, World.ownsRow_nil _ _ _ _, RTells.err HE.out, HBN.out, ⟨w.heap.size, Nat.le_refl _, HBN.out.size, fun g hg => by simp [Value.ownBlock] at hg, fun g hg => by simp [Value.ownBlock] at hg⟩⟩

set_option maxHeartbeats 3200000 in
set_option maxRecDepth 100000 in
theorem rmake_e2 (n : Bool) (a : Option Addr) (ca : Nat) (xs : List Int) (m : Bool) (b : Option Addr) (cb : Nat) (ys : List Int) (w : World) (h : Sl w (.slice a xs.length ca) xs) (g : Sl w (.slice b ys.length cb) ys) (lx : xs.length ≤ 281474976710656) (ly : ys.length ≤ 281474976710656) (hx : wchk n xs = 0) (hy : wchk m ys ≠ 0) (q : Rat) :
    Calls Tryz.prog 57 #[.agg #[.bool n, .slice a xs.length ca], .agg #[.bool m, .slice b ys.length cb]] w (RToldA w (wchk m ys) q) := by
  have HB : Hid (Below w.heap.size w (((w.alloc (.cells #[.bool n, .slice a xs.length ca] 78)).alloc (.cells #[.bool m, .slice b ys.length cb] 78)).alloc (.cells #[.bool false, .slice none 0 0, .slice none 0 0] 29))) := bt (bt (alloc_later _ _) (alloc_later _ _)) (alloc_later _ _)
  have HZ : Hid (Box (((w.alloc (.cells #[.bool n, .slice a xs.length ca] 78)).alloc (.cells #[.bool m, .slice b ys.length cb] 78)).alloc (.cells #[.bool false, .slice none 0 0, .slice none 0 0] 29)) (w.heap.size + 1 + 1) 29 #[.bool false, .slice none 0 0, .slice none 0 0]) := by
    have e := Box.made ((w.alloc (.cells #[.bool n, .slice a xs.length ca] 78)).alloc (.cells #[.bool m, .slice b ys.length cb] 78)) 29 #[.bool false, .slice none 0 0, .slice none 0 0]
    simp at e
    exact e
  have HN : Hid (Box (((w.alloc (.cells #[.bool n, .slice a xs.length ca] 78)).alloc (.cells #[.bool m, .slice b ys.length cb] 78)).alloc (.cells #[.bool false, .slice none 0 0, .slice none 0 0] 29)) w.heap.size 78 #[.bool n, .slice a xs.length ca]) := Box.later (Box.later (Box.made w _ _) (alloc_later _ _) (by simp)) (alloc_later _ _) (by simp; omega)
  have HM : Hid (Box (((w.alloc (.cells #[.bool n, .slice a xs.length ca] 78)).alloc (.cells #[.bool m, .slice b ys.length cb] 78)).alloc (.cells #[.bool false, .slice none 0 0, .slice none 0 0] 29)) (w.heap.size + 1) 78 #[.bool m, .slice b ys.length cb]) := by
    have e := Box.later (Box.made (w.alloc (.cells #[.bool n, .slice a xs.length ca] 78)) 78 #[.bool m, .slice b ys.length cb]) (alloc_later ((w.alloc (.cells #[.bool n, .slice a xs.length ca] 78)).alloc (.cells #[.bool m, .slice b ys.length cb] 78)) (.cells #[.bool false, .slice none 0 0, .slice none 0 0] 29)) (by simp)
    simp at e
    exact e
  have HS := hid (And.intro (h.later HB.out) (g.later HB.out))
  have HXS : Hid (w.heap.size + 1 + 1 < (((w.alloc (.cells #[.bool n, .slice a xs.length ca] 78)).alloc (.cells #[.bool m, .slice b ys.length cb] 78)).alloc (.cells #[.bool false, .slice none 0 0, .slice none 0 0] 29)).heap.size) := HZ.out.lt
  have HC1 := hid (wcheck_any n _ xs _ HS.out.1 lx)
  rw [hx] at HC1
  obtain ⟨e1, he1⟩ : ∃ e1, wchk m ys = e1 := ⟨_, rfl⟩
  have HC2 := hid (fun ww (hb : Below _ (((w.alloc (.cells #[.bool n, .slice a xs.length ca] 78)).alloc (.cells #[.bool m, .slice b ys.length cb] 78)).alloc (.cells #[.bool false, .slice none 0 0, .slice none 0 0] 29)) ww) => wcheck_any m _ ys ww (HS.out.2.later hb) ly)
  rw [he1] at HC2 hy ⊢
  have hy' : (e1 == 0) = false := beq_eq_false_iff_ne.2 hy
  have HE := hid hy
  clear he1 hy hx
  clear h g
  go_enter Tryz.func57, Tryz.ntmps57
  go_wp2_with fail
  refine Calls.mono HC1.out ?_
  generalize (((w.alloc (.cells #[.bool n, .slice a xs.length ca] 78)).alloc (.cells #[.bool m, .slice b ys.length cb] 78)).alloc (.cells #[.bool false, .slice none 0 0, .slice none 0 0] 29)) = X at *
  rintro e w1 ⟨rfl, hb1⟩
  have HB1 := hid hb1
  clear hb1 HC1
  have HC := hid (HC2.out w1 HB1.out)
  obtain ⟨q0, q1, _, _⟩ := (HM.out.later HB1.out HM.out.lt).c2
  clear HC2
  go_wp2_with fail
  refine Calls.mono HC.out ?_
  rintro e w2 ⟨rfl, hb2⟩
  have HB2 := hid (bt HB1.out hb2)
  clear hb2 HC q0 q1
  obtain ⟨y0, y1, y2, f0, f1, f2⟩ := res_box3 HZ.out HB2.out
  have HBN := hid (below_put3 (bt HB.out HB2.out) (w.heap.size + 1 + 1) (by omega) (.bool false) (.slice none 0 0) (.slice none 0 0))
  clear HN HM HZ HS
  go_wp2_with fail
  refine bodyPost_ret (v := .tuple #[.agg #[.bool false, .slice none 0 0, .slice none 0 0], .int .i64 e1]) (by simp [results, Tryz.results57, go_sem, y0, y1, y2]) rfl ?_
  exact ⟨false, _, [], _, [], _, rfl, World.ownsRow_nil _ _ _ _, World.ownsRow_nil _ _ _ _, RTells.err HE.out, HBN.out, ⟨w.heap.size, Nat.le_refl _, HBN.out.size, fun g hg => by simp [Value.ownBlock] at hg, fun g hg => by simp [Value.ownBlock] at hg⟩⟩

set_option maxHeartbeats 3200000 in
set_option maxRecDepth 100000 in
theorem rmake_z (n : Bool) (a : Option Addr) (ca : Nat) (xs : List Int) (m : Bool) (b : Option Addr) (cb : Nat) (ys : List Int) (w : World) (h : Sl w (.slice a xs.length ca) xs) (g : Sl w (.slice b ys.length cb) ys) (lx : xs.length ≤ 281474976710656) (ly : ys.length ≤ 281474976710656) (hx : wchk n xs = 0) (hy : wchk m ys = 0) (h0 : ys.length = 0) (q : Rat) :
    Calls Tryz.prog 57 #[.agg #[.bool n, .slice a xs.length ca], .agg #[.bool m, .slice b ys.length cb]] w (RToldA w 7 q) := by
  have HB : Hid (Below w.heap.size w (((w.alloc (.cells #[.bool n, .slice a xs.length ca] 78)).alloc (.cells #[.bool m, .slice b ys.length cb] 78)).alloc (.cells #[.bool false, .slice none 0 0, .slice none 0 0] 29))) := bt (bt (alloc_later _ _) (alloc_later _ _)) (alloc_later _ _)
  have HZ : Hid (Box (((w.alloc (.cells #[.bool n, .slice a xs.length ca] 78)).alloc (.cells #[.bool m, .slice b ys.length cb] 78)).alloc (.cells #[.bool false, .slice none 0 0, .slice none 0 0] 29)) (w.heap.size + 1 + 1) 29 #[.bool false, .slice none 0 0, .slice none 0 0]) := by
    have e := Box.made ((w.alloc (.cells #[.bool n, .slice a xs.length ca] 78)).alloc (.cells #[.bool m, .slice b ys.length cb] 78)) 29 #[.bool false, .slice none 0 0, .slice none 0 0]
    simp at e
    exact e
  have HN : Hid (Box (((w.alloc (.cells #[.bool n, .slice a xs.length ca] 78)).alloc (.cells #[.bool m, .slice b ys.length cb] 78)).alloc (.cells #[.bool false, .slice none 0 0, .slice none 0 0] 29)) w.heap.size 78 #[.bool n, .slice a xs.length ca]) := Box.later (Box.later (Box.made w _ _) (alloc_later _ _) (by simp)) (alloc_later _ _) (by simp; omega)
  have HM : Hid (Box (((w.alloc (.cells #[.bool n, .slice a xs.length ca] 78)).alloc (.cells #[.bool m, .slice b ys.length cb] 78)).alloc (.cells #[.bool false, .slice none 0 0, .slice none 0 0] 29)) (w.heap.size + 1) 78 #[.bool m, .slice b ys.length cb]) := by
    have e := Box.later (Box.made (w.alloc (.cells #[.bool n, .slice a xs.length ca] 78)) 78 #[.bool m, .slice b ys.length cb]) (alloc_later ((w.alloc (.cells #[.bool n, .slice a xs.length ca] 78)).alloc (.cells #[.bool m, .slice b ys.length cb] 78)) (.cells #[.bool false, .slice none 0 0, .slice none 0 0] 29)) (by simp)
    simp at e
    exact e
  have HS := hid (And.intro (h.later HB.out) (g.later HB.out))
  have HXS : Hid (w.heap.size + 1 + 1 < (((w.alloc (.cells #[.bool n, .slice a xs.length ca] 78)).alloc (.cells #[.bool m, .slice b ys.length cb] 78)).alloc (.cells #[.bool false, .slice none 0 0, .slice none 0 0] 29)).heap.size) := HZ.out.lt
  have HC1 := hid (wcheck_any n _ xs _ HS.out.1 lx)
  rw [hx] at HC1
  have HC2 := hid (fun ww (hb : Below _ (((w.alloc (.cells #[.bool n, .slice a xs.length ca] 78)).alloc (.cells #[.bool m, .slice b ys.length cb] 78)).alloc (.cells #[.bool false, .slice none 0 0, .slice none 0 0] 29)) ww) => wcheck_any m _ ys ww (HS.out.2.later hb) ly)
  rw [hy] at HC2
  have h0' : ((ys.length : Int) == 0) = true := by rw [h0]; rfl
  have HE : Hid ((7 : Int) ≠ 0) := by show _ ≠ _; omega
  clear hx hy h0
  clear h g
  go_enter Tryz.func57, Tryz.ntmps57
  go_wp2_with fail
  refine Calls.mono HC1.out ?_
  generalize (((w.alloc (.cells #[.bool n, .slice a xs.length ca] 78)).alloc (.cells #[.bool m, .slice b ys.length cb] 78)).alloc (.cells #[.bool false, .slice none 0 0, .slice none 0 0] 29)) = X at *
  rintro e w1 ⟨rfl, hb1⟩
  have HB1 := hid hb1
  clear hb1 HC1
  have HC := hid (HC2.out w1 HB1.out)
  obtain ⟨q0, q1, _, _⟩ := (HM.out.later HB1.out HM.out.lt).c2
  clear HC2
  go_wp2_with fail
  refine Calls.mono HC.out ?_
  rintro e w2 ⟨rfl, hb2⟩
  have HB2 := hid (bt HB1.out hb2)
  clear hb2 HC q0 q1
  obtain ⟨q0, q1, _, _⟩ := (HM.out.later HB2.out HM.out.lt).c2
  obtain ⟨y0, y1, y2, f0, f1, f2⟩ := res_box3 HZ.out HB2.out
  have HBN := hid (below_put3 (bt HB.out HB2.out) (w.heap.size + 1 + 1) (by omega) (.bool false) (.slice none 0 0) (.slice none 0 0))
  clear HN HM HZ HS
  go_wp2_with fail
  refine bodyPost_ret (v := .tuple #[.agg #[.bool false, .slice none 0 0, .slice none 0 0], .int .i64 7]) (by simp [results, Tryz.results57, go_sem, y0, y1, y2]) rfl ?_
  exact ⟨false, _, [], _, [], _, rfl, World.ownsRow_nil _ _ _ _, World.ownsRow_nil _ _ _ _, RTells.err HE.out, HBN.out, ⟨w.heap.size, Nat.le_refl _, HBN.out.size, fun g hg => by simp [Value.ownBlock] at hg, fun g hg => by simp [Value.ownBlock] at hg⟩⟩

set_option maxHeartbeats 6400000 in
set_option maxRecDepth 100000 in
theorem rmake_ok (n : Bool) (a : Option Addr) (ca : Nat) (xs : List Int) (m : Bool) (b : Option Addr) (cb : Nat) (ys : List Int) (w : World) (h : Sl w (.slice a xs.length ca) xs) (g : Sl w (.slice b ys.length cb) ys) (lx : xs.length ≤ 281474976710656) (ly : ys.length ≤ 281474976710656) (hx : wchk n xs = 0) (hy : wchk m ys = 0) (h0 : 0 < ys.length) :
    Calls Tryz.prog 57 #[.agg #[.bool n, .slice a xs.length ca], .agg #[.bool m, .slice b ys.length cb]] w (RToldA w 0 (Rat.divInt (wval n xs) (wval m ys))) := by
  obtain ⟨kx, tx, _⟩ := wchk_ok hx
  obtain ⟨ky, ty, _⟩ := wchk_ok hy
  have wx := h.wd
  have wy := g.wd
  have HB : Hid (Below w.heap.size w (((w.alloc (.cells #[.bool n, .slice a xs.length ca] 78)).alloc (.cells #[.bool m, .slice b ys.length cb] 78)).alloc (.cells #[.bool false, .slice none 0 0, .slice none 0 0] 29))) := bt (bt (alloc_later _ _) (alloc_later _ _)) (alloc_later _ _)
  have HZ : Hid (Box (((w.alloc (.cells #[.bool n, .slice a xs.length ca] 78)).alloc (.cells #[.bool m, .slice b ys.length cb] 78)).alloc (.cells #[.bool false, .slice none 0 0, .slice none 0 0] 29)) (w.heap.size + 1 + 1) 29 #[.bool false, .slice none 0 0, .slice none 0 0]) := by
    have e := Box.made ((w.alloc (.cells #[.bool n, .slice a xs.length ca] 78)).alloc (.cells #[.bool m, .slice b ys.length cb] 78)) 29 #[.bool false, .slice none 0 0, .slice none 0 0]
    simp at e
    exact e
  have HN : Hid (Box (((w.alloc (.cells #[.bool n, .slice a xs.length ca] 78)).alloc (.cells #[.bool m, .slice b ys.length cb] 78)).alloc (.cells #[.bool false, .slice none 0 0, .slice none 0 0] 29)) w.heap.size 78 #[.bool n, .slice a xs.length ca]) := Box.later (Box.later (Box.made w _ _) (alloc_later _ _) (by simp)) (alloc_later _ _) (by simp; omega)
  have HM : Hid (Box (((w.alloc (.cells #[.bool n, .slice a xs.length ca] 78)).alloc (.cells #[.bool m, .slice b ys.length cb] 78)).alloc (.cells #[.bool false, .slice none 0 0, .slice none 0 0] 29)) (w.heap.size + 1) 78 #[.bool m, .slice b ys.length cb]) := by
    have e := Box.later (Box.made (w.alloc (.cells #[.bool n, .slice a xs.length ca] 78)) 78 #[.bool m, .slice b ys.length cb]) (alloc_later ((w.alloc (.cells #[.bool n, .slice a xs.length ca] 78)).alloc (.cells #[.bool m, .slice b ys.length cb] 78)) (.cells #[.bool false, .slice none 0 0, .slice none 0 0] 29)) (by simp)
    simp at e
    exact e
  have HS := hid (And.intro (h.later HB.out) (g.later HB.out))
  have HXS : Hid (w.heap.size + 1 + 1 < (((w.alloc (.cells #[.bool n, .slice a xs.length ca] 78)).alloc (.cells #[.bool m, .slice b ys.length cb] 78)).alloc (.cells #[.bool false, .slice none 0 0, .slice none 0 0] 29)).heap.size) := HZ.out.lt
  have HC1 := hid (wcheck_any n _ xs _ HS.out.1 lx)
  rw [hx] at HC1
  have HC2 := hid (fun ww (hb : Below _ (((w.alloc (.cells #[.bool n, .slice a xs.length ca] 78)).alloc (.cells #[.bool m, .slice b ys.length cb] 78)).alloc (.cells #[.bool false, .slice none 0 0, .slice none 0 0] 29)) ww) => wcheck_any m _ ys ww (HS.out.2.later hb) ly)
  rw [hy] at HC2
  have h0' : ((ys.length : Int) == 0) = false := beq_eq_false_iff_ne.2 (by omega)
  have HPY : Hid (0 < val ys) := by have := val_pos' wy ty h0; show _ < _; omega
  have HG : Hid (0 < gcdI (val xs) (val ys) ∧ gcdI (val xs) (val ys) ≤ val ys ∧ val ys < 4294967296 ^ 2048) := ⟨gcd_pos_right HPY.out, gcd_le_right HPY.out, below2048 wy ky⟩
  have HMP := hid (make_parts (n := n) (m := m) (val_nonneg wx) HPY.out)
  have HTT := hid (And.intro tx ty)
  obtain ⟨s, hs⟩ : ∃ s, (!(n == m)) = s := ⟨_, rfl⟩
  have HSG := hid (show (n != m) = s from hs)
  clear h g hx hy h0 tx ty
  go_enter Tryz.func57, Tryz.ntmps57
  go_wp2_with fail
  refine Calls.mono HC1.out ?_
  generalize (((w.alloc (.cells #[.bool n, .slice a xs.length ca] 78)).alloc (.cells #[.bool m, .slice b ys.length cb] 78)).alloc (.cells #[.bool false, .slice none 0 0, .slice none 0 0] 29)) = X at *
  rintro e w1 ⟨rfl, hb1⟩
  have HB1 := hid hb1
  clear hb1 HC1
  have HC := hid (HC2.out w1 HB1.out)
  obtain ⟨q0, q1, _, _⟩ := (HM.out.later HB1.out HM.out.lt).c2
  clear HC2
  go_wp2_with fail
  refine Calls.mono HC.out ?_
  rintro e w2 ⟨rfl, hb2⟩
  have HB2 := hid (bt HB1.out hb2)
  clear hb2 HC q0 q1
  have HK : Hid (∀ V, Below X.heap.size X V → V.cell? ⟨w.heap.size, 0, none⟩ = some (.bool n) ∧ V.cell? ⟨w.heap.size, 1, none⟩ = some (.slice a xs.length ca) ∧ V.cell? ⟨w.heap.size + 1, 0, none⟩ = some (.bool m) ∧ V.cell? ⟨w.heap.size + 1, 1, none⟩ = some (.slice b ys.length cb)) := fun V hb => by
    obtain ⟨p0, p1, _, _⟩ := (HN.out.later hb HN.out.lt).c2
    obtain ⟨q0, q1, _, _⟩ := (HM.out.later hb HM.out.lt).c2
    exact ⟨p0, p1, q0, q1⟩
  have HCM := hid (told1_at _ HK.out w2 HB2.out (rcommon_any _ _ xs ys w2 (HS.out.1.later HB2.out) (HS.out.2.later HB2.out) (by omega) (by omega) HTT.out.1 HTT.out.2))
  obtain ⟨p0, p1, q0, q1⟩ := HK.out w2 HB2.out
  go_wp2_with fail
  refine Calls.mono HCM.out ?_
  rintro e w3 ⟨a3, z3, c3, rfl, HE3, _, hb3, HS3⟩
  have hb3d := hb3.drew
  have HO3 := hid (HE3.out.later (Below.drew (Below.refl _ w3)))
  clear HCM HE3 HS3 p0 p1 q0 q1
  have hs0 := HK.out _ hb3d
  have HQX := hid (fun ww (hv' : Below X.heap.size X ww) (h : One X ww (.slice a3 z3.length c3) z3 (gcdI (val xs) (val ys))) => quot_in _ HK.out hv' (HS.out.1.later hv') (by omega) HTT.out.1 h HG.out.1 (by have := HG.out; omega))
  have HQY := hid (fun ww (hv' : Below X.heap.size X ww) (h : One X ww (.slice a3 z3.length c3) z3 (gcdI (val xs) (val ys))) => quot_in _ HK.out hv' (HS.out.2.later hv') (by omega) HTT.out.2 h HG.out.1 (by have := HG.out; omega))
  have HTL := hid (fun (ww : World) (hb : Below X.heap.size X ww) (a4 : Option Addr) (z4 : List Int) (c4 : Nat) (a5 : Option Addr) (z5 : List Int) (c5 : Nat) (g1 : One X ww (.slice a4 z4.length c4) z4 (val xs / gcdI (val xs) (val ys))) (g2 : One X ww (.slice a5 z5.length c5) z5 (val ys / gcdI (val xs) (val ys))) (hc : Cut X (.slice a4 z4.length c4) (.slice a5 z5.length c5) ww) => rtold_cut (n := s) (q := Rat.divInt (wval n xs) (wval m ys)) _ HK.out hb g1 g2 hc HMP.out.1 HMP.out.2.1 (by rw [← HSG.out]; exact HMP.out.2.2))
  have hq0 : w.heap.size + 1 + 1 ≠ w.heap.size := by omega
  have hq1 : w.heap.size + 1 + 1 ≠ w.heap.size + 1 := by omega
  clear HTT HG HPY
  go_wp2_with fail
  go_region_held3 (fun V : World => V.cell? ⟨w.heap.size, 0, none⟩ = some (.bool n) ∧ V.cell? ⟨w.heap.size, 1, none⟩ = some (.slice a xs.length ca) ∧ V.cell? ⟨w.heap.size + 1, 0, none⟩ = some (.bool m) ∧ V.cell? ⟨w.heap.size + 1, 1, none⟩ = some (.slice b ys.length cb)) (first | exact hs9 | exact hs5 | exact hs4 | exact hs0 | (simp [hs9, World.cell?_setCell_far, hq0]))
    (first
      | (go_at_call 74; with_reducible refine Calls.mono (HTL.out _ hb5 _ _ _ _ _ _ (HE4.out.1.later HS5.out) HE5.out.1 (cut_two hb3d.size HS4.out.size HS5.out.size HE4.out.2 HE5.out.2)) ?_; rintro e w9 ⟨k9, a8, z8, c8, a9, z9, c9, code, rfl, HE9, hs9, hb9⟩; obtain ⟨y0, y1, y2, f0, f1, f2⟩ := res_box3 HZ.out hb9)
      | (go_at_call 75; with_reducible refine Calls.mono (HQY.out _ hb4 (HO3.out.later HS4.out)) ?_; rintro e w5 ⟨a5, z5, c5, rfl, HE5, hs5, hb5, HS5⟩)
      | (go_at_call 75; with_reducible refine Calls.mono (HQX.out _ hb3d HO3.out) ?_; rintro e w4 ⟨a4, z4, c4, rfl, HE4, hs4, hb4, HS4⟩))
  all_goals
    have HBW := hid (bt HB.out hb9)
    have HR := hid HE9.out
    clear HK HQX HQY HTL HE4 HE5 HE9 HS4 HS5 HO3 hs0 hs4 hs5 hs9 hb3 hb3d hb4 hb5 hb9 HMP HSG
    go_wp2_with fail
    refine bodyPost_ret (v := .tuple #[.agg #[.bool k9, .slice a8 z8.length c8, .slice a9 z9.length c9], .int .i64 code]) (by simp [results, Tryz.results57, go_sem, y0, y1, y2]) rfl ?_
    exact RToldA.put HR.out (w.heap.size + 1 + 1) HXS.out (by omega) HBW.out _ _ _

theorem rmake_any (n : Bool) (a : Option Addr) (ca : Nat) (xs : List Int) (m : Bool) (b : Option Addr) (cb : Nat) (ys : List Int) (w : World) (h : Sl w (.slice a xs.length ca) xs) (g : Sl w (.slice b ys.length cb) ys) (lx : xs.length ≤ 281474976710656) (ly : ys.length ≤ 281474976710656) :
    Calls Tryz.prog 57 #[.agg #[.bool n, .slice a xs.length ca], .agg #[.bool m, .slice b ys.length cb]] w (RToldA w (mkErr n xs m ys) (Rat.divInt (wval n xs) (wval m ys))) := by
  unfold mkErr
  by_cases hb : wboth n xs m ys = 0
  · obtain ⟨hx, hy⟩ := wboth_ok hb
    rw [if_pos hb]
    by_cases h0 : ys.length = 0
    · rw [if_pos h0]
      exact rmake_z n a ca xs m b cb ys w h g lx ly hx hy h0 _
    · rw [if_neg h0]
      exact rmake_ok n a ca xs m b cb ys w h g lx ly hx hy (by omega)
  · rw [if_neg hb]
    unfold wboth at hb ⊢
    by_cases hx : wchk n xs = 0
    · rw [if_pos hx] at hb ⊢
      exact rmake_e2 n a ca xs m b cb ys w h g lx ly hx hb _
    · rw [if_neg hx]
      exact rmake_e1 n a ca xs m b cb ys w h g lx ly hx _
end Go.Proofs.YtcjfbmehibhkbaaGreatDoor

/- Fractions: ratio.Small. -/
namespace Go.Proofs.YtcjfbmehibhkbaaGreatDoor
open Go.RowKit
set_option linter.unusedVariables false

theorem small_err {n m : Bool} {zs us : List Int} {y : Int} (l1 : zs.length ≤ 2) (t1 : Trimmed zs) (s1 : n = false ∨ 0 < zs.length) (w2 : Wd us) (l2 : us.length ≤ 2) (t2 : Trimmed us) (s2 : m = false ∨ 0 < us.length) (v2 : wval m us = y) : mkErr n zs m us = if y = 0 then 7 else 0 := by
  unfold mkErr
  rw [wboth_good (wchk_good (by omega) t1 s1) (wchk_good (by omega) t2 s2), if_pos rfl]
  by_cases c : us.length = 0
  · have e0 : val us = 0 := trimmed_zero' c
    have : y = 0 := by rw [← v2]; cases m <;> simp [wval, e0]
    rw [if_pos c, if_pos this]
  · have e0 := val_pos' w2 t2 (by omega)
    have : ¬ y = 0 := by rw [← v2]; cases m <;> simp [wval] <;> omega
    rw [if_neg c, if_neg this]

set_option maxHeartbeats 1600000 in
set_option maxRecDepth 100000 in
theorem rsmall_any (x y : Int) (w : World) (x0 : -9223372036854775808 ≤ x) (x1 : x ≤ 9223372036854775807) (y0 : -9223372036854775808 ≤ y) (y1 : y ≤ 9223372036854775807) :
    Calls Tryz.prog 44 #[.int .i64 x, .int .i64 y] w (RToldA w (if y = 0 then 7 else 0) (Rat.divInt x y)) := by
  have HB : Hid (Below w.heap.size w (w.alloc (.cells #[.bool false, .slice none 0 0, .slice none 0 0] 29))) := alloc_later _ _
  have HZ : Hid (Box (w.alloc (.cells #[.bool false, .slice none 0 0, .slice none 0 0] 29)) w.heap.size 29 #[.bool false, .slice none 0 0, .slice none 0 0]) := Box.made w _ _
  have HO1 := hid (wof_any x (w.alloc (.cells #[.bool false, .slice none 0 0, .slice none 0 0] 29)) x0 x1)
  obtain ⟨E, hE⟩ : ∃ E : Int, (if y = 0 then (7 : Int) else 0) = E := ⟨_, rfl⟩
  rw [hE]
  have HE := hid hE
  clear hE
  go_enter Tryz.func44, Tryz.ntmps44
  go_wp2_with fail
  refine Calls.mono HO1.out ?_
  generalize (w.alloc (.cells #[.bool false, .slice none 0 0, .slice none 0 0] 29)) = X at *
  rintro e w1 ⟨n1, v1, z1, rfl, o1, wd1, t1, l1, s1, hv1, hb1⟩
  obtain ⟨a1, c1, hs1⟩ := own_slice' o1
  subst hs1
  have HO2 := hid (wof_any y w1 y0 y1)
  have HS1 := hid (Sl.own o1 wd1)
  have HV1 := hid (And.intro t1 (And.intro s1 hv1))
  have HB1 := hid hb1
  clear o1 wd1 t1 s1 hv1 hb1 HO1
  go_wp2_with fail
  refine Calls.mono HO2.out ?_
  rintro e w2 ⟨n2, v2, z2, rfl, o2, wd2, t2, l2, s2, hv2, hb2⟩
  obtain ⟨a2, c2, hs2⟩ := own_slice' o2
  subst hs2
  have HM := hid (rmake_any n1 a1 c1 z1 n2 a2 c2 z2 w2 (HS1.out.later hb2) (Sl.own o2 wd2) (by omega) (by omega))
  rw [small_err l1 HV1.out.1 HV1.out.2.1 wd2 l2 t2 s2 hv2, HE.out, HV1.out.2.2, hv2] at HM
  have HB2 := hid (bt HB1.out hb2)
  clear o2 wd2 t2 s2 hv2 hb2 HO2 HS1 HV1
  go_wp2_with fail
  refine Calls.mono HM.out ?_
  rintro e w3 ⟨k3, v3, z3, u3, r3, code, rfl, o3, o4, t3, hb3, hc3⟩
  obtain ⟨a3, c3, hs3⟩ := own_slice' o3
  subst hs3
  obtain ⟨a4, c4, hs4⟩ := own_slice' o4
  subst hs4
  have HR := hid (And.intro o3 (And.intro o4 (And.intro t3 hc3)))
  obtain ⟨y0', y1', y2', f0, f1, f2⟩ := res_box3 HZ.out (bt HB2.out hb3)
  have HBW := hid (bt HB.out (bt HB2.out hb3))
  have HLT : Hid (w.heap.size < w2.heap.size) := Nat.lt_of_lt_of_le HZ.out.lt HB2.out.size
  clear o3 o4 t3 hb3 hc3 HM
  go_wp2_with fail
  refine bodyPost_ret (v := .tuple #[.agg #[.bool k3, .slice a3 z3.length c3, .slice a4 r3.length c4], .int .i64 code]) (by simp [results, Tryz.results44, go_sem, y0', y1', y2']) rfl ?_
  exact RToldA.put HR.out w.heap.size HLT.out (Nat.le_refl _) HBW.out _ _ _
end Go.Proofs.YtcjfbmehibhkbaaGreatDoor

/- Complex fractions: fractionOf: of any whole number. -/
namespace Go.Proofs.YtcjfbmehibhkbaaGreatDoor
open Go.RowKit
set_option linter.unusedVariables false

set_option maxHeartbeats 1600000 in
set_option maxRecDepth 100000 in
theorem gfractionOf_any (x : Int) (w : World) (x0 : -9223372036854775808 ≤ x) (x1 : x ≤ 9223372036854775807) :
    Calls Tryz.prog 35 #[.int .i64 x] w fun e w' => ∃ n v xs u ys code, e = .returned (.agg #[.bool n, v, u]) ∧ w'.ownsRow w.heap.size 38 1 v xs.length (xs.map (Value.int .u32)) ∧ w'.ownsRow w.heap.size 38 1 u ys.length (ys.map (Value.int .u32)) ∧ RTells 0 (Rat.divInt x 1) n xs ys code ∧ Below w.heap.size w w' ∧ Cut w v u w' := by
  have HX := hid (Box.made w 29 #[.bool false, .slice none 0 0, .slice none 0 0])
  have HB := hid (alloc_later w (.cells #[.bool false, .slice none 0 0, .slice none 0 0] 29))
  obtain ⟨X, hX⟩ : ∃ X, w.alloc (.cells #[.bool false, .slice none 0 0, .slice none 0 0] 29) = X := ⟨_, rfl⟩
  rw [hX] at HX HB
  have HS : Hid (∀ V, Calls Tryz.prog 44 #[.int .i64 x, .int .i64 1] V (RToldA V 0 (Rat.divInt x 1))) := hid (fun V => rsmall_any x 1 V x0 x1 (by omega) (by omega))
  go_enter Tryz.func35, Tryz.ntmps35
  go_wp2_with fail
  refine Calls.mono (HS.out _) ?_
  rintro e w1 ⟨k, v, zs, u, ts, code, rfl, ov, ou, ht, hb1, hcut⟩
  obtain ⟨av, cv, rfl⟩ := own_slice' ov
  obtain ⟨au, cu, rfl⟩ := own_slice' ou
  have HM1 := hid (HX.out.later hb1 HX.out.lt)
  have HBB := hid (bt HB.out hb1)
  have HN := hid (Box.made w1 29 #[.bool k, .slice av zs.length cv, .slice au ts.length cu])
  have HNB := hid (alloc_later w1 (.cells #[.bool k, .slice av zs.length cv, .slice au ts.length cu] 29))
  obtain ⟨Z, hZ⟩ : ∃ Z, w1.alloc (.cells #[.bool k, .slice av zs.length cv, .slice au ts.length cu] 29) = Z := ⟨_, rfl⟩
  rw [hZ] at HN HNB
  have HMZ := hid (HM1.out.later HNB.out HM1.out.lt)
  have HOV := hid ov
  have HOU := hid ou
  have HTT := hid ht
  have HCC := hid hcut
  clear ov ou ht hcut hb1 HS x0 x1
  have k0 : Z.cell? ⟨w1.heap.size, 0, none⟩ = some (.bool k) := HN.out.cell 0
  have k1 : Z.cell? ⟨w1.heap.size, 1, none⟩ = some (.slice av zs.length cv) := HN.out.cell 1
  have k2 : Z.cell? ⟨w1.heap.size, 2, none⟩ = some (.slice au ts.length cu) := HN.out.cell 2
  have m0 : Z.cell? ⟨w.heap.size, 0, none⟩ = some (.bool false) := HMZ.out.cell 0
  have m1 : Z.cell? ⟨w.heap.size, 1, none⟩ = some (.slice none 0 0) := HMZ.out.cell 1
  have m2 : Z.cell? ⟨w.heap.size, 2, none⟩ = some (.slice none 0 0) := HMZ.out.cell 2
  have f0 := HMZ.out.free 0
  have f1 := HMZ.out.free 1
  have f2 := HMZ.out.free 2
  go_wp2_with fail
  have h3 := HX.out.lt
  have hZs : w1.heap.size ≤ Z.heap.size := HNB.out.size
  have hv : ∀ b', (Value.slice av zs.length cv).ownBlock = some b' → b' ≠ w.heap.size := fun b' hb => by have := (HOV.out.lt b' hb).1; omega
  have hu : ∀ b', (Value.slice au ts.length cu).ownBlock = some b' → b' ≠ w.heap.size := fun b' hb => by have := (HOU.out.lt b' hb).1; omega
  have B1 := box_put3 HMZ.out (.bool k) (.slice av zs.length cv) (.slice au ts.length cu)
  have V1 := own_put3' (owns_later HOV.out HNB.out) _ hv (.bool k) (.slice av zs.length cv) (.slice au ts.length cu)
  have U1 := own_put3' (owns_later HOU.out HNB.out) _ hu (.bool k) (.slice av zs.length cv) (.slice au ts.length cu)
  have G1 := below_put3 (bt HBB.out HNB.out) w.heap.size (Nat.le_refl _) (.bool k) (.slice av zs.length cv) (.slice au ts.length cu)
  have hXw : w.heap.size ≤ X.heap.size := by omega
  refine bodyPost_ret (results_cell_row (by rfl) _ _ w.heap.size 29 _ (0, 0) _ (by rfl) B1 Tryz.underlying29 rfl (by kernel_rfl)) rfl ?_
  exact ⟨k, _, zs, _, ts, code, rfl, owns_base V1 hXw, owns_base U1 hXw, HTT.out, G1, HCC.out.up hXw (by simp [World.setCell]; exact hZs)⟩
end Go.Proofs.YtcjfbmehibhkbaaGreatDoor

/- Complex fractions: gauss.Int: of any two whole numbers. -/
namespace Go.Proofs.YtcjfbmehibhkbaaGreatDoor
open Go.RowKit
set_option linter.unusedVariables false

set_option maxHeartbeats 1600000 in
set_option maxRecDepth 100000 in
theorem gInt_any (x y : Int) (w : World) (x0 : -9223372036854775808 ≤ x) (x1 : x ≤ 9223372036854775807) (y0 : -9223372036854775808 ≤ y) (y1 : y ≤ 9223372036854775807) :
    Calls Tryz.prog 24 #[.int .i64 x, .int .i64 y] w fun e w' => ∃ n v xs u ys c1 m v' us u' vs c2, e = .returned (.agg #[.bool n, v, u, .bool m, v', u']) ∧ (w'.ownsRow w.heap.size 38 1 v xs.length (xs.map (Value.int .u32)) ∧ w'.ownsRow w.heap.size 38 1 u ys.length (ys.map (Value.int .u32)) ∧ w'.ownsRow w.heap.size 38 1 v' us.length (us.map (Value.int .u32)) ∧ w'.ownsRow w.heap.size 38 1 u' vs.length (vs.map (Value.int .u32))) ∧ RTells 0 (Rat.divInt x 1) n xs ys c1 ∧ RTells 0 (Rat.divInt y 1) m us vs c2 ∧ Below w.heap.size w w' := by
  have HX := hid (Box.made w 31 #[.bool false, .slice none 0 0, .slice none 0 0, .bool false, .slice none 0 0, .slice none 0 0])
  have HB := hid (alloc_later w (.cells #[.bool false, .slice none 0 0, .slice none 0 0, .bool false, .slice none 0 0, .slice none 0 0] 31))
  obtain ⟨X, hX⟩ : ∃ X, w.alloc (.cells #[.bool false, .slice none 0 0, .slice none 0 0, .bool false, .slice none 0 0, .slice none 0 0] 31) = X := ⟨_, rfl⟩
  rw [hX] at HX HB
  have H1 := hid (gfractionOf_any x X x0 x1)
  have H2 := hid (fun V => gfractionOf_any y V y0 y1)
  clear x0 x1 y0 y1
  go_enter Tryz.func24, Tryz.ntmps24
  go_wp2_with fail
  refine Calls.mono H1.out ?_
  rintro e w1 ⟨k1, v1, zs1, u1, ts1, code1, rfl, ov1, ou1, ht1, hb1, hcut1⟩
  obtain ⟨av1, cv1, rfl⟩ := own_slice' ov1
  obtain ⟨au1, cu1, rfl⟩ := own_slice' ou1
  have HM1 := hid (HX.out.later hb1 HX.out.lt)
  have HB1 := hid (bt HB.out hb1)
  have HXB := hid hb1.size
  have HV1 := hid ov1
  have HU1 := hid ou1
  have HT1 := hid ht1
  clear ov1 ou1 ht1 hb1 hcut1 H1
  go_wp2_with fail
  refine Calls.mono (H2.out _) ?_
  rintro e w2 ⟨k2, v2, zs2, u2, ts2, code2, rfl, ov2, ou2, ht2, hb2, hcut2⟩
  obtain ⟨av2, cv2, rfl⟩ := own_slice' ov2
  obtain ⟨au2, cu2, rfl⟩ := own_slice' ou2
  have HM2 := hid (HM1.out.later hb2 HM1.out.lt)
  have HB2 := hid (bt HB1.out hb2)
  have HV1' := hid (owns_later HV1.out hb2)
  have HU1' := hid (owns_later HU1.out hb2)
  have HV2 := hid ov2
  have HU2 := hid ou2
  have HT2 := hid ht2
  clear ov2 ou2 ht2 hb2 hcut2 H2
  have m0 : w2.cell? ⟨w.heap.size, 0, none⟩ = some (.bool false) := HM2.out.cell 0
  have f0 := HM2.out.free 0
  have m1 : w2.cell? ⟨w.heap.size, 1, none⟩ = some (.slice none 0 0) := HM2.out.cell 1
  have f1 := HM2.out.free 1
  have m2 : w2.cell? ⟨w.heap.size, 2, none⟩ = some (.slice none 0 0) := HM2.out.cell 2
  have f2 := HM2.out.free 2
  have m3 : w2.cell? ⟨w.heap.size, 3, none⟩ = some (.bool false) := HM2.out.cell 3
  have f3 := HM2.out.free 3
  have m4 : w2.cell? ⟨w.heap.size, 4, none⟩ = some (.slice none 0 0) := HM2.out.cell 4
  have f4 := HM2.out.free 4
  have m5 : w2.cell? ⟨w.heap.size, 5, none⟩ = some (.slice none 0 0) := HM2.out.cell 5
  have f5 := HM2.out.free 5
  go_wp2_with fail
  have h3 := HX.out.lt
  have h4 := HXB.out
  have B1 := box_put6 HM2.out (.bool k1) (.slice av1 zs1.length cv1) (.slice au1 ts1.length cu1) (.bool k2) (.slice av2 zs2.length cv2) (.slice au2 ts2.length cu2)
  have G1 := below_put6 HB2.out w.heap.size (Nat.le_refl _) (.bool k1) (.slice av1 zs1.length cv1) (.slice au1 ts1.length cu1) (.bool k2) (.slice av2 zs2.length cv2) (.slice au2 ts2.length cu2)
  have P1 := own_put6 HV1'.out w.heap.size (fun g hg => by have := (HV1'.out.lt g hg).1; omega) (.bool k1) (.slice av1 zs1.length cv1) (.slice au1 ts1.length cu1) (.bool k2) (.slice av2 zs2.length cv2) (.slice au2 ts2.length cu2)
  have P2 := own_put6 HU1'.out w.heap.size (fun g hg => by have := (HU1'.out.lt g hg).1; omega) (.bool k1) (.slice av1 zs1.length cv1) (.slice au1 ts1.length cu1) (.bool k2) (.slice av2 zs2.length cv2) (.slice au2 ts2.length cu2)
  have P3 := own_put6 HV2.out w.heap.size (fun g hg => by have := (HV2.out.lt g hg).1; omega) (.bool k1) (.slice av1 zs1.length cv1) (.slice au1 ts1.length cu1) (.bool k2) (.slice av2 zs2.length cv2) (.slice au2 ts2.length cu2)
  have P4 := own_put6 HU2.out w.heap.size (fun g hg => by have := (HU2.out.lt g hg).1; omega) (.bool k1) (.slice av1 zs1.length cv1) (.slice au1 ts1.length cu1) (.bool k2) (.slice av2 zs2.length cv2) (.slice au2 ts2.length cu2)
  have hX1 : w.heap.size ≤ X.heap.size := by omega
  have hX2 : w.heap.size ≤ w1.heap.size := by omega
  clear m0 m1 m2 m3 m4 m5 f0 f1 f2 f3 f4 f5
  refine bodyPost_ret (results_cell_row (by rfl) _ _ w.heap.size 31 _ (0, 0) _ (by rfl) B1 Tryz.underlying31 rfl (by kernel_rfl)) rfl ?_
  exact ⟨k1, _, zs1, _, ts1, code1, k2, _, zs2, _, ts2, code2, rfl, ⟨owns_base P1 hX1, owns_base P2 hX1, owns_base P3 hX2, owns_base P4 hX2⟩, HT1.out, HT2.out, G1⟩
end Go.Proofs.YtcjfbmehibhkbaaGreatDoor

/- A complex fraction as one letter; stores of six and of twelve cells, each world by its name. (tools/mkrq.py) -/
namespace Go.Proofs.YtcjfbmehibhkbaaGreatDoor
open Go.RowKit
set_option linter.unusedVariables false
set_option linter.unusedSimpArgs false

/-- A store of 2 cells, cell by cell, each world by its name. -/
theorem rchain2 {W : World} {b t : Nat} {u0 u1 : Value} (h : Box W b t #[u0, u1]) (ht : 38 ≠ t) (v0 v1 : Value) : ∃ A0 A1, W.setCell ⟨b, 0, none⟩ v0 = A0 ∧ A0.setCell ⟨b, 1, none⟩ v1 = A1 ∧ (W.cell? ⟨b, 0, none⟩ = some u0 ∧ A0.cell? ⟨b, 1, none⟩ = some u1) ∧ (W.frozen? ⟨b, 0, none⟩ = false ∧ A0.frozen? ⟨b, 1, none⟩ = false) ∧
    Hid (Box A1 b t #[v0, v1] ∧ (∀ p t' vs, p ≠ b → Box W p t' vs → Box A1 p t' vs) ∧ (∀ base v n xs, W.ownsRow base 38 1 v n xs → A1.ownsRow base 38 1 v n xs) ∧ (∀ B x, B ≤ b → Below B x W → Below B x A1) ∧ A1.heap.size = W.heap.size) := by
  have h0 : Box _ b t #[v0, u1] := h.set 0 v0
  have h1 : Box _ b t #[v0, v1] := h0.set 1 v1
  exact ⟨_, _, rfl, rfl, ⟨h.cell 0, h0.cell 1⟩, ⟨h.free 0, h0.free 1⟩, h1, fun p t' vs hne g => ((g.other ⟨b, 0, none⟩ v0 hne).other ⟨b, 1, none⟩ v1 hne), fun base v n xs g => (by have kk := own_ne_box g h ht; exact (kown_put1 (kown_put1 g kk 0 v0) kk 1 v1)), fun B x hB g => ((g.setCell (p := ⟨b, 0, none⟩) hB v0).setCell (p := ⟨b, 1, none⟩) hB v1), by simp [World.setCell]⟩
/-- A store of 6 cells, cell by cell, each world by its name. -/
theorem rchain6 {W : World} {b t : Nat} {u0 u1 u2 u3 u4 u5 : Value} (h : Box W b t #[u0, u1, u2, u3, u4, u5]) (ht : 38 ≠ t) (v0 v1 v2 v3 v4 v5 : Value) : ∃ A0 A1 A2 A3 A4 A5, W.setCell ⟨b, 0, none⟩ v0 = A0 ∧ A0.setCell ⟨b, 1, none⟩ v1 = A1 ∧ A1.setCell ⟨b, 2, none⟩ v2 = A2 ∧ A2.setCell ⟨b, 3, none⟩ v3 = A3 ∧ A3.setCell ⟨b, 4, none⟩ v4 = A4 ∧ A4.setCell ⟨b, 5, none⟩ v5 = A5 ∧ (W.cell? ⟨b, 0, none⟩ = some u0 ∧ A0.cell? ⟨b, 1, none⟩ = some u1 ∧ A1.cell? ⟨b, 2, none⟩ = some u2 ∧ A2.cell? ⟨b, 3, none⟩ = some u3 ∧ A3.cell? ⟨b, 4, none⟩ = some u4 ∧ A4.cell? ⟨b, 5, none⟩ = some u5) ∧ (W.frozen? ⟨b, 0, none⟩ = false ∧ A0.frozen? ⟨b, 1, none⟩ = false ∧ A1.frozen? ⟨b, 2, none⟩ = false ∧ A2.frozen? ⟨b, 3, none⟩ = false ∧ A3.frozen? ⟨b, 4, none⟩ = false ∧ A4.frozen? ⟨b, 5, none⟩ = false) ∧
    Hid (Box A5 b t #[v0, v1, v2, v3, v4, v5] ∧ (∀ p t' vs, p ≠ b → Box W p t' vs → Box A5 p t' vs) ∧ (∀ base v n xs, W.ownsRow base 38 1 v n xs → A5.ownsRow base 38 1 v n xs) ∧ (∀ B x, B ≤ b → Below B x W → Below B x A5) ∧ A5.heap.size = W.heap.size) := by
  have h0 : Box _ b t #[v0, u1, u2, u3, u4, u5] := h.set 0 v0
  have h1 : Box _ b t #[v0, v1, u2, u3, u4, u5] := h0.set 1 v1
  have h2 : Box _ b t #[v0, v1, v2, u3, u4, u5] := h1.set 2 v2
  have h3 : Box _ b t #[v0, v1, v2, v3, u4, u5] := h2.set 3 v3
  have h4 : Box _ b t #[v0, v1, v2, v3, v4, u5] := h3.set 4 v4
  have h5 : Box _ b t #[v0, v1, v2, v3, v4, v5] := h4.set 5 v5
  exact ⟨_, _, _, _, _, _, rfl, rfl, rfl, rfl, rfl, rfl, ⟨h.cell 0, h0.cell 1, h1.cell 2, h2.cell 3, h3.cell 4, h4.cell 5⟩, ⟨h.free 0, h0.free 1, h1.free 2, h2.free 3, h3.free 4, h4.free 5⟩, h5, fun p t' vs hne g => ((((((g.other ⟨b, 0, none⟩ v0 hne).other ⟨b, 1, none⟩ v1 hne).other ⟨b, 2, none⟩ v2 hne).other ⟨b, 3, none⟩ v3 hne).other ⟨b, 4, none⟩ v4 hne).other ⟨b, 5, none⟩ v5 hne), fun base v n xs g => (by have kk := own_ne_box g h ht; exact (kown_put1 (kown_put1 (kown_put1 (kown_put1 (kown_put1 (kown_put1 g kk 0 v0) kk 1 v1) kk 2 v2) kk 3 v3) kk 4 v4) kk 5 v5)), fun B x hB g => ((((((g.setCell (p := ⟨b, 0, none⟩) hB v0).setCell (p := ⟨b, 1, none⟩) hB v1).setCell (p := ⟨b, 2, none⟩) hB v2).setCell (p := ⟨b, 3, none⟩) hB v3).setCell (p := ⟨b, 4, none⟩) hB v4).setCell (p := ⟨b, 5, none⟩) hB v5), by simp [World.setCell]⟩
/-- A store of 12 cells, cell by cell, each world by its name. -/
theorem rchain12 {W : World} {b t : Nat} {u0 u1 u2 u3 u4 u5 u6 u7 u8 u9 u10 u11 : Value} (h : Box W b t #[u0, u1, u2, u3, u4, u5, u6, u7, u8, u9, u10, u11]) (ht : 38 ≠ t) (v0 v1 v2 v3 v4 v5 v6 v7 v8 v9 v10 v11 : Value) : ∃ A0 A1 A2 A3 A4 A5 A6 A7 A8 A9 A10 A11, W.setCell ⟨b, 0, none⟩ v0 = A0 ∧ A0.setCell ⟨b, 1, none⟩ v1 = A1 ∧ A1.setCell ⟨b, 2, none⟩ v2 = A2 ∧ A2.setCell ⟨b, 3, none⟩ v3 = A3 ∧ A3.setCell ⟨b, 4, none⟩ v4 = A4 ∧ A4.setCell ⟨b, 5, none⟩ v5 = A5 ∧ A5.setCell ⟨b, 6, none⟩ v6 = A6 ∧ A6.setCell ⟨b, 7, none⟩ v7 = A7 ∧ A7.setCell ⟨b, 8, none⟩ v8 = A8 ∧ A8.setCell ⟨b, 9, none⟩ v9 = A9 ∧ A9.setCell ⟨b, 10, none⟩ v10 = A10 ∧ A10.setCell ⟨b, 11, none⟩ v11 = A11 ∧ (W.cell? ⟨b, 0, none⟩ = some u0 ∧ A0.cell? ⟨b, 1, none⟩ = some u1 ∧ A1.cell? ⟨b, 2, none⟩ = some u2 ∧ A2.cell? ⟨b, 3, none⟩ = some u3 ∧ A3.cell? ⟨b, 4, none⟩ = some u4 ∧ A4.cell? ⟨b, 5, none⟩ = some u5 ∧ A5.cell? ⟨b, 6, none⟩ = some u6 ∧ A6.cell? ⟨b, 7, none⟩ = some u7 ∧ A7.cell? ⟨b, 8, none⟩ = some u8 ∧ A8.cell? ⟨b, 9, none⟩ = some u9 ∧ A9.cell? ⟨b, 10, none⟩ = some u10 ∧ A10.cell? ⟨b, 11, none⟩ = some u11) ∧ (W.frozen? ⟨b, 0, none⟩ = false ∧ A0.frozen? ⟨b, 1, none⟩ = false ∧ A1.frozen? ⟨b, 2, none⟩ = false ∧ A2.frozen? ⟨b, 3, none⟩ = false ∧ A3.frozen? ⟨b, 4, none⟩ = false ∧ A4.frozen? ⟨b, 5, none⟩ = false ∧ A5.frozen? ⟨b, 6, none⟩ = false ∧ A6.frozen? ⟨b, 7, none⟩ = false ∧ A7.frozen? ⟨b, 8, none⟩ = false ∧ A8.frozen? ⟨b, 9, none⟩ = false ∧ A9.frozen? ⟨b, 10, none⟩ = false ∧ A10.frozen? ⟨b, 11, none⟩ = false) ∧
    Hid (Box A11 b t #[v0, v1, v2, v3, v4, v5, v6, v7, v8, v9, v10, v11] ∧ (∀ p t' vs, p ≠ b → Box W p t' vs → Box A11 p t' vs) ∧ (∀ base v n xs, W.ownsRow base 38 1 v n xs → A11.ownsRow base 38 1 v n xs) ∧ (∀ B x, B ≤ b → Below B x W → Below B x A11) ∧ A11.heap.size = W.heap.size) := by
  have h0 : Box _ b t #[v0, u1, u2, u3, u4, u5, u6, u7, u8, u9, u10, u11] := h.set 0 v0
  have h1 : Box _ b t #[v0, v1, u2, u3, u4, u5, u6, u7, u8, u9, u10, u11] := h0.set 1 v1
  have h2 : Box _ b t #[v0, v1, v2, u3, u4, u5, u6, u7, u8, u9, u10, u11] := h1.set 2 v2
  have h3 : Box _ b t #[v0, v1, v2, v3, u4, u5, u6, u7, u8, u9, u10, u11] := h2.set 3 v3
  have h4 : Box _ b t #[v0, v1, v2, v3, v4, u5, u6, u7, u8, u9, u10, u11] := h3.set 4 v4
  have h5 : Box _ b t #[v0, v1, v2, v3, v4, v5, u6, u7, u8, u9, u10, u11] := h4.set 5 v5
  have h6 : Box _ b t #[v0, v1, v2, v3, v4, v5, v6, u7, u8, u9, u10, u11] := h5.set 6 v6
  have h7 : Box _ b t #[v0, v1, v2, v3, v4, v5, v6, v7, u8, u9, u10, u11] := h6.set 7 v7
  have h8 : Box _ b t #[v0, v1, v2, v3, v4, v5, v6, v7, v8, u9, u10, u11] := h7.set 8 v8
  have h9 : Box _ b t #[v0, v1, v2, v3, v4, v5, v6, v7, v8, v9, u10, u11] := h8.set 9 v9
  have h10 : Box _ b t #[v0, v1, v2, v3, v4, v5, v6, v7, v8, v9, v10, u11] := h9.set 10 v10
  have h11 : Box _ b t #[v0, v1, v2, v3, v4, v5, v6, v7, v8, v9, v10, v11] := h10.set 11 v11
  exact ⟨_, _, _, _, _, _, _, _, _, _, _, _, rfl, rfl, rfl, rfl, rfl, rfl, rfl, rfl, rfl, rfl, rfl, rfl, ⟨h.cell 0, h0.cell 1, h1.cell 2, h2.cell 3, h3.cell 4, h4.cell 5, h5.cell 6, h6.cell 7, h7.cell 8, h8.cell 9, h9.cell 10, h10.cell 11⟩, ⟨h.free 0, h0.free 1, h1.free 2, h2.free 3, h3.free 4, h4.free 5, h5.free 6, h6.free 7, h7.free 8, h8.free 9, h9.free 10, h10.free 11⟩, h11, fun p t' vs hne g => ((((((((((((g.other ⟨b, 0, none⟩ v0 hne).other ⟨b, 1, none⟩ v1 hne).other ⟨b, 2, none⟩ v2 hne).other ⟨b, 3, none⟩ v3 hne).other ⟨b, 4, none⟩ v4 hne).other ⟨b, 5, none⟩ v5 hne).other ⟨b, 6, none⟩ v6 hne).other ⟨b, 7, none⟩ v7 hne).other ⟨b, 8, none⟩ v8 hne).other ⟨b, 9, none⟩ v9 hne).other ⟨b, 10, none⟩ v10 hne).other ⟨b, 11, none⟩ v11 hne), fun base v n xs g => (by have kk := own_ne_box g h ht; exact (kown_put1 (kown_put1 (kown_put1 (kown_put1 (kown_put1 (kown_put1 (kown_put1 (kown_put1 (kown_put1 (kown_put1 (kown_put1 (kown_put1 g kk 0 v0) kk 1 v1) kk 2 v2) kk 3 v3) kk 4 v4) kk 5 v5) kk 6 v6) kk 7 v7) kk 8 v8) kk 9 v9) kk 10 v10) kk 11 v11)), fun B x hB g => ((((((((((((g.setCell (p := ⟨b, 0, none⟩) hB v0).setCell (p := ⟨b, 1, none⟩) hB v1).setCell (p := ⟨b, 2, none⟩) hB v2).setCell (p := ⟨b, 3, none⟩) hB v3).setCell (p := ⟨b, 4, none⟩) hB v4).setCell (p := ⟨b, 5, none⟩) hB v5).setCell (p := ⟨b, 6, none⟩) hB v6).setCell (p := ⟨b, 7, none⟩) hB v7).setCell (p := ⟨b, 8, none⟩) hB v8).setCell (p := ⟨b, 9, none⟩) hB v9).setCell (p := ⟨b, 10, none⟩) hB v10).setCell (p := ⟨b, 11, none⟩) hB v11), by simp [World.setCell]⟩

/-- A complex fraction's memory and words. -/
structure G6 where
  n : Bool
  a : Option Addr
  ca : Nat
  xs : List Int
  b : Option Addr
  cb : Nat
  ys : List Int
  m : Bool
  c : Option Addr
  cc : Nat
  us : List Int
  d : Option Addr
  cd : Nat
  vs : List Int
def G6.Ow (g : G6) (V : World) (base : Nat) : Prop := V.ownsRow base 38 1 (.slice g.a g.xs.length g.ca) g.xs.length (g.xs.map (Value.int .u32)) ∧ V.ownsRow base 38 1 (.slice g.b g.ys.length g.cb) g.ys.length (g.ys.map (Value.int .u32)) ∧ V.ownsRow base 38 1 (.slice g.c g.us.length g.cc) g.us.length (g.us.map (Value.int .u32)) ∧ V.ownsRow base 38 1 (.slice g.d g.vs.length g.cd) g.vs.length (g.vs.map (Value.int .u32))
def G6.Sl4 (g : G6) (V : World) : Prop := Sl V (.slice g.a g.xs.length g.ca) g.xs ∧ Sl V (.slice g.b g.ys.length g.cb) g.ys ∧ Sl V (.slice g.c g.us.length g.cc) g.us ∧ Sl V (.slice g.d g.vs.length g.cd) g.vs
/-- It is in its one form, and it is this number. -/
def G6.Is (g : G6) (q1 q2 : Rat) : Prop := (rchk g.n g.xs g.ys = 0 ∧ rq g.n g.xs g.ys = q1) ∧ (rchk g.m g.us g.vs = 0 ∧ rq g.m g.us g.vs = q2) ∧ Wd g.xs ∧ Wd g.ys ∧ Wd g.us ∧ Wd g.vs
theorem G6.Ow.later {g : G6} {V V' : World} {base : Nat} (h : g.Ow V base) (hb : Below V.heap.size V V') : g.Ow V' base := ⟨owns_later h.1 hb, owns_later h.2.1 hb, owns_later h.2.2.1 hb, owns_later h.2.2.2 hb⟩
theorem G6.Ow.base {g : G6} {V : World} {base base' : Nat} (h : g.Ow V base) (hb : base' ≤ base) : g.Ow V base' := ⟨owns_base h.1 hb, owns_base h.2.1 hb, owns_base h.2.2.1 hb, owns_base h.2.2.2 hb⟩
theorem G6.Sl4.later {g : G6} {V V' : World} (h : g.Sl4 V) (hb : Below V.heap.size V V') : g.Sl4 V' := ⟨h.1.later hb, h.2.1.later hb, h.2.2.1.later hb, h.2.2.2.later hb⟩
theorem G6.Ow.sl {g : G6} {V : World} {base : Nat} {q1 q2 : Rat} (h : g.Ow V base) (i : g.Is q1 q2) : g.Sl4 V := ⟨Sl.own h.1 i.2.2.1, Sl.own h.2.1 i.2.2.2.1, Sl.own h.2.2.1 i.2.2.2.2.1, Sl.own h.2.2.2 i.2.2.2.2.2⟩
theorem G6.Is.len {g : G6} {q1 q2 : Rat} (i : g.Is q1 q2) : g.xs.length ≤ 2048 ∧ g.ys.length ≤ 2048 ∧ g.us.length ≤ 2048 ∧ g.vs.length ≤ 2048 := ⟨(rchk_ok i.1.1).1, (rchk_ok i.1.1).2.1, (rchk_ok i.2.1.1).1, (rchk_ok i.2.1.1).2.1⟩
theorem G6.Is.chk {g : G6} {q1 q2 : Rat} (i : g.Is q1 q2) : gchk g.n g.xs g.ys g.m g.us g.vs = 0 := by
  unfold gchk fstE
  rw [if_pos i.1.1, i.2.1.1]
/-- Small whole numbers are not long. -/
theorem oInt_not (x : Int) (x0 : -9223372036854775808 ≤ x) (x1 : x ≤ 9223372036854775807) : ¬ rlong (Rat.divInt x 1) := by
  have h := fr_num (x := x) (d := 1) (by decide) (by unfold gcdI; rw [Int.gcd_one_right]; rfl)
  have hl : (9223372036854775808 : Int) < wlim := by unfold wlim; decide +kernel
  rintro (hh | hh)
  · rw [h.1] at hh; omega
  · rw [h.2] at hh; omega
/-- gauss.Int, as one letter. -/
theorem oInt_any (x y : Int) (w : World) (x0 : -9223372036854775808 ≤ x) (x1 : x ≤ 9223372036854775807) (y0 : -9223372036854775808 ≤ y) (y1 : y ≤ 9223372036854775807) :
    Calls Tryz.prog 24 #[.int .i64 x, .int .i64 y] w fun e w' => ∃ g : G6, e = .returned (.agg #[.bool g.n, .slice g.a g.xs.length g.ca, .slice g.b g.ys.length g.cb, .bool g.m, .slice g.c g.us.length g.cc, .slice g.d g.vs.length g.cd]) ∧ Hid (g.Ow w' w.heap.size) ∧ Hid (g.Is (Rat.divInt x 1) (Rat.divInt y 1)) ∧ Hid (Below w.heap.size w w') := by
  refine Calls.mono (gInt_any x y w x0 x1 y0 y1) ?_
  rintro e w' ⟨n, v, xs, u, ys, c1, m, v', us, u', vs, c2, rfl, ho, t1, t2, hb⟩
  obtain ⟨a, ca, rfl⟩ := own_slice' ho.1
  obtain ⟨b, cb, rfl⟩ := own_slice' ho.2.1
  obtain ⟨c, cc, rfl⟩ := own_slice' ho.2.2.1
  obtain ⟨d, cd, rfl⟩ := own_slice' ho.2.2.2
  exact ⟨⟨n, a, ca, xs, b, cb, ys, m, c, cc, us, d, cd, vs⟩, rfl, ho, ⟨(t1.good rfl (oInt_not x x0 x1)).2, (t2.good rfl (oInt_not y y0 y1)).2, t1.wx, t1.wy, t2.wx, t2.wy⟩, hb⟩
end Go.Proofs.YtcjfbmehibhkbaaGreatDoor

/- Complex fractions: what stands while steps are made one behind the other (for square, times). -/
namespace Go.Proofs.YtcjfbmehibhkbaaGreatDoor
open Go.RowKit
set_option linter.unusedVariables false

/-- What stands while steps are made: their error, the boxes of the call. -/
structure GInv (w : World) (p : Nat) (E : Int) (l : List (Nat × Nat × Array Value)) (V : World) : Prop where
  err : Box V p 107 #[.int .i64 E]
  grown : w.grownBy V (some p)
  box : ∀ x ∈ l, Box V x.1 x.2.1 x.2.2 ∧ x.1 ≠ p
theorem GInv.drew {w V : World} {p : Nat} {E : Int} {l : List (Nat × Nat × Array Value)} (h : GInv w p E l V) : GInv w p E l V.drew := ⟨h.err, ⟨h.grown.os, h.grown.tape, h.grown.output, h.grown.size, h.grown.block⟩, h.box⟩
theorem GInv.step {w V V' : World} {p : Nat} {E code : Int} {l : List (Nat × Nat × Array Value)} (h : GInv w p E l V) (hp : Box V' p 107 #[.int .i64 code]) (hg : V.grownBy V' (some p)) : GInv w p code l V' :=
  ⟨hp, grow_trans h.grown hg, fun x hx => ⟨(h.box x hx).1.kept' hg (fun e => (h.box x hx).2 (Option.some.inj e)), (h.box x hx).2⟩⟩
theorem GInv.alloc {w V : World} {p : Nat} {E : Int} {l : List (Nat × Nat × Array Value)} (h : GInv w p E l V) (ob : Obj) : GInv w p E l (V.alloc ob) :=
  ⟨h.err.later (alloc_later V ob) h.err.lt, grow_trans h.grown (World.grownBy_alloc V ob (some p)), fun x hx => ⟨(h.box x hx).1.later (alloc_later V ob) (h.box x hx).1.lt, (h.box x hx).2⟩⟩
/-- A fraction that a step told, still there. -/
structure GRow (V : World) (base : Nat) (n : Bool) (v : Value) (xs : List Int) (u : Value) (ys : List Int) : Prop where
  ov : V.ownsRow base 38 1 v xs.length (xs.map (Value.int .u32))
  ou : V.ownsRow base 38 1 u ys.length (ys.map (Value.int .u32))
theorem GRow.step {V V' : World} {base p : Nat} {n : Bool} {v u : Value} {xs ys : List Int} (h : GRow V base n v xs u ys) (hp : p < base) (hg : V.grownBy V' (some p)) : GRow V' base n v xs u ys := by
  have hk : ∀ (x : Value), (∀ g, x.ownBlock = some g → base ≤ g) → x.ownBlock = none ∨ x.ownBlock ≠ some p := fun x h1 => by
    cases e : x.ownBlock with
    | none => exact .inl rfl
    | some g => right; intro h; have e2 := Option.some.inj h; have := h1 g e; omega
  exact ⟨World.ownsRow.kept h.ov hg (hk _ (fun g hg => (h.ov.lt g hg).1)), World.ownsRow.kept h.ou hg (hk _ (fun g hg => (h.ou.lt g hg).1))⟩
theorem GRow.sl {V : World} {base : Nat} {n : Bool} {v u : Value} {xs ys : List Int} (h : GRow V base n v xs u ys) (wx : Wd xs) (wy : Wd ys) : Sl V v xs ∧ Sl V u ys := ⟨Sl.own h.ov wx, Sl.own h.ou wy⟩
theorem Sl.kept {V V' : World} {v : Value} {xs : List Int} {p : Nat} (h : Sl V v xs) (hg : V.grownBy V' (some p)) (hne : ∀ a k c, v = .slice (some a) k c → a.block ≠ p) : Sl V' v xs := by
  obtain ⟨a, cap, hv, h1, h2, h3, h4, h5, h6⟩ := h
  refine ⟨a, cap, hv, h1, h2, ?_, h4, h5, h6⟩
  rcases h3 with h3 | ⟨b, off, ha, hb, hc⟩
  · exact .inl h3
  · have hbp : b ≠ p := by subst ha; exact hne _ _ _ hv
    have hs := hg.size
    exact .inr ⟨b, off, ha, by omega, fun j hj => hg.cell (a := ⟨b, off + j, none⟩) (hc j hj) (fun e => hbp (Option.some.inj e))⟩
end Go.Proofs.YtcjfbmehibhkbaaGreatDoor

/- Complex fractions, the steps' own: square: of any complex fraction that was looked at. -/
namespace Go.Proofs.YtcjfbmehibhkbaaGreatDoor
open Go.RowKit
set_option linter.unusedVariables false

theorem cells6 {W : World} {b t : Nat} {u0 u1 u2 u3 u4 u5 : Value} (h : Box W b t #[u0, u1, u2, u3, u4, u5]) : W.cell? ⟨b, 0, none⟩ = some u0 ∧ W.cell? ⟨b, 1, none⟩ = some u1 ∧ W.cell? ⟨b, 2, none⟩ = some u2 ∧ W.cell? ⟨b, 3, none⟩ = some u3 ∧ W.cell? ⟨b, 4, none⟩ = some u4 ∧ W.cell? ⟨b, 5, none⟩ = some u5 :=
  ⟨h.cell 0, h.cell 1, h.cell 2, h.cell 3, h.cell 4, h.cell 5⟩

end Go.Proofs.YtcjfbmehibhkbaaGreatDoor

/- Complex fractions, the steps' own: times: of any two that were looked at. -/
namespace Go.Proofs.YtcjfbmehibhkbaaGreatDoor
open Go.RowKit
set_option linter.unusedVariables false

/-- What stands while steps are made inside one statement that began at X. -/
structure GJ (w X : World) (p : Nat) (E : Int) (l : List (Nat × Nat × Array Value)) (V : World) : Prop where
  inv : GInv w p E l V
  gx : X.grownBy V (some p)
structure GB (w X : World) (p : Nat) (l : List (Nat × Nat × Array Value)) : Prop where
  hw : w.heap.size ≤ X.heap.size
  hp : p < w.heap.size
  hl : ∀ x ∈ l, x.1 < X.heap.size
theorem GJ.first {w X : World} {p : Nat} {E : Int} {l : List (Nat × Nat × Array Value)} (h : GInv w p E l X) : GJ w X p E l X.drew := ⟨h.drew, ⟨rfl, rfl, rfl, Nat.le_refl _, fun _ _ _ => rfl⟩⟩
theorem GJ.drew {w X V : World} {p : Nat} {E : Int} {l : List (Nat × Nat × Array Value)} (h : GJ w X p E l V) : GJ w X p E l V.drew := ⟨h.inv.drew, ⟨h.gx.os, h.gx.tape, h.gx.output, h.gx.size, h.gx.block⟩⟩
theorem GJ.start {w X : World} {p : Nat} {E : Int} {l : List (Nat × Nat × Array Value)} (h : GInv w p E l X) : GJ w X p E l X := ⟨h, ⟨rfl, rfl, rfl, Nat.le_refl _, fun _ _ _ => rfl⟩⟩
theorem GJ.alloc {w X V : World} {p : Nat} {E : Int} {l : List (Nat × Nat × Array Value)} (h : GJ w X p E l V) (ob : Obj) : GJ w X p E l (V.alloc ob) := ⟨h.inv.alloc ob, grow_trans h.gx (World.grownBy_alloc V ob (some p))⟩
theorem GJ.step {w X V V' : World} {p : Nat} {E code : Int} {l : List (Nat × Nat × Array Value)} (h : GJ w X p E l V) (hp : Box V' p 107 #[.int .i64 code]) (hg : V.grownBy V' (some p)) : GJ w X p code l V' := ⟨h.inv.step hp hg, grow_trans h.gx hg⟩
theorem GInv.put3 {w V : World} {p : Nat} {E : Int} {l : List (Nat × Nat × Array Value)} (h : GInv w p E l V) (b : Nat) (hb : w.heap.size ≤ b) (hp : p ≠ b) (hl : ∀ x ∈ l, x.1 ≠ b) (u0 u1 u2 : Value) : GInv w p E l (((V.setCell ⟨b, 0, none⟩ u0).setCell ⟨b, 1, none⟩ u1).setCell ⟨b, 2, none⟩ u2) :=
  ⟨box_far3 h.err hp _ _ _, grow_put3 h.grown b _ _ _ (.inl hb), fun x hx => ⟨box_far3 (h.box x hx).1 (hl x hx) _ _ _, (h.box x hx).2⟩⟩
theorem GJ.put3 {w X V : World} {p : Nat} {E : Int} {l : List (Nat × Nat × Array Value)} (h : GJ w X p E l V) (hB : GB w X p l) (b : Nat) (hb : X.heap.size ≤ b) (u0 u1 u2 : Value) : GJ w X p E l (((V.setCell ⟨b, 0, none⟩ u0).setCell ⟨b, 1, none⟩ u1).setCell ⟨b, 2, none⟩ u2) :=
  ⟨h.inv.put3 b (Nat.le_trans hB.hw hb) (by have := hB.hp; have := hB.hw; omega) (fun x hx => by have := hB.hl x hx; omega) _ _ _, grow_put3 h.gx b _ _ _ (.inl hb)⟩
theorem GInv.more {w V : World} {p : Nat} {E : Int} {l : List (Nat × Nat × Array Value)} (h : GInv w p E l V) {b t : Nat} {vs : Array Value} (hb : Box V b t vs) (hne : b ≠ p) : GInv w p E ((b, t, vs) :: l) V := ⟨h.err, h.grown, fun x hx => by
  cases hx with
  | head => exact ⟨hb, hne⟩
  | tail _ hx => exact h.box x hx⟩
theorem GInv.base {w X : World} {p : Nat} {E : Int} {l : List (Nat × Nat × Array Value)} (h : GInv w p E l X) (hp : p < w.heap.size) : GB w X p l := ⟨h.grown.size, hp, fun x hx => (h.box x hx).1.lt⟩
theorem some_ne {b p : Nat} (h : p < b) : some b ≠ some p := fun e => by have := Option.some.inj e; omega
/-- What one step tells, inside a statement. -/
def GStp (w X : World) (p : Nat) (l : List (Nat × Nat × Array Value)) (V : World) (e : Int) (q : Rat) (x : Ending) (w1 : World) : Prop :=
  ∃ n1 a1 k1 x1 b1 l1 y1 code, x = .returned (.agg #[.bool n1, .slice a1 (List.length x1) k1, .slice b1 (List.length y1) l1]) ∧ Hid (RTells e q n1 x1 y1 code) ∧ Hid (GJ w X p code l w1) ∧ Hid (GRow w1 X.heap.size n1 (.slice a1 (List.length x1) k1) x1 (.slice b1 (List.length y1) l1) y1) ∧ Hid (GRow w1 V.heap.size n1 (.slice a1 (List.length x1) k1) x1 (.slice b1 (List.length y1) l1) y1) ∧ Hid (V.grownBy w1 (some p)) ∧ Hid (Cut V (.slice a1 (List.length x1) k1) (.slice b1 (List.length y1) l1) w1) ∧ X.heap.size ≤ w1.heap.size
theorem gstp {w X V : World} {p : Nat} {EE e : Int} {q : Rat} {l : List (Nat × Nat × Array Value)} {k : Nat} {args : Array Value} (hv : GJ w X p EE l V) (H : Calls Tryz.prog k args V (GTell V p e q)) : Calls Tryz.prog k args V (GStp w X p l V e q) := by
  refine Calls.mono H ?_
  rintro x w1 ⟨n1, v, zs, u, ts, code, rfl, ov, ou, ht, hpb, hg, hcut⟩
  obtain ⟨av, cv, rfl⟩ := own_slice' ov
  obtain ⟨au, cu, rfl⟩ := own_slice' ou
  have hi := hv.step hpb hg
  exact ⟨n1, av, cv, zs, au, cu, ts, code, rfl, hid ht, hid hi, hid ⟨owns_base ov hv.gx.size, owns_base ou hv.gx.size⟩, hid ⟨ov, ou⟩, hid hg, hid hcut, hi.gx.size⟩
/-- Three steps of which the third joins the two ahead of it. -/
def G3 (op : Rat → Rat → Rat) (E e1 e2 : Int) (q1 q2 : Rat) (n3 : Bool) (x3 y3 : List Int) (c3 : Int) : Prop := ∃ n1 x1 y1 c1 n2 x2 y2 c2, RTells (fstE E e1) q1 n1 x1 y1 c1 ∧ RTells (fstE c1 e2) q2 n2 x2 y2 c2 ∧ RTells (fstE c2 (rboth n1 x1 y1 n2 x2 y2)) (op (rq n1 x1 y1) (rq n2 x2 y2)) n3 x3 y3 c3
/-- What the statement leaves: a box with the fraction told. -/
def GCut (w X : World) (p : Nat) (l : List (Nat × Nat × Array Value)) (op : Rat → Rat → Rat) (E e1 e2 : Int) (q1 q2 : Rat) (s : Value) (W : World) : Prop :=
  ∃ b n3 a3 k3 x3 b3 l3 y3 c3, s = .pointer (some ⟨b, 0, none⟩) ∧ X.heap.size ≤ b ∧ G3 op E e1 e2 q1 q2 n3 x3 y3 c3 ∧ GInv w p c3 ((b, 29, #[.bool n3, .slice a3 (List.length x3) k3, .slice b3 (List.length y3) l3]) :: l) W ∧ GRow W X.heap.size n3 (.slice a3 (List.length x3) k3) x3 (.slice b3 (List.length y3) l3) y3 ∧ Cut X (.slice a3 (List.length x3) k3) (.slice b3 (List.length y3) l3) W ∧ X.grownBy W (some p)
theorem gcut_put {w X : World} {p : Nat} {l : List (Nat × Nat × Array Value)} {op : Rat → Rat → Rat} {E e1 e2 : Int} {q1 q2 : Rat} {n1 n2 n3 : Bool} {x1 y1 x2 y2 x3 y3 : List Int} {c1 c2 c3 : Int} {a3 b3 : Option Addr} {k3 l3 : Nat} {w3 V3 : World} {b : Nat} (hB : GB w X p l) (t1 : RTells (fstE E e1) q1 n1 x1 y1 c1) (t2 : RTells (fstE c1 e2) q2 n2 x2 y2 c2) (t3 : RTells (fstE c2 (rboth n1 x1 y1 n2 x2 y2)) (op (rq n1 x1 y1) (rq n2 x2 y2)) n3 x3 y3 c3) (j3 : GJ w X p c3 l w3) (r3 : GRow w3 V3.heap.size n3 (.slice a3 x3.length k3) x3 (.slice b3 y3.length l3) y3) (cut3 : Cut V3 (.slice a3 x3.length k3) (.slice b3 y3.length l3) w3) (hbx : Box w3 b 29 #[.bool false, .slice none 0 0, .slice none 0 0]) (hb3 : b < V3.heap.size) (hXb : X.heap.size ≤ b) :
    GCut w X p l op E e1 e2 q1 q2 (.pointer (some ⟨b, 0, none⟩)) (((w3.setCell ⟨b, 0, none⟩ (.bool n3)).setCell ⟨b, 1, none⟩ (.slice a3 x3.length k3)).setCell ⟨b, 2, none⟩ (.slice b3 y3.length l3)) := by
  have hj := j3.put3 hB b hXb (.bool n3) (.slice a3 x3.length k3) (.slice b3 y3.length l3)
  have hXV : X.heap.size ≤ V3.heap.size := by omega
  refine ⟨b, n3, a3, k3, x3, b3, l3, y3, c3, rfl, hXb, ⟨n1, x1, y1, c1, n2, x2, y2, c2, t1, t2, t3⟩, hj.inv.more (box_put3 hbx _ _ _) (by have := hB.hp; have := hB.hw; omega), ⟨owns_base (own_put3' r3.ov b (fun g hg => by have := (r3.ov.lt g hg).1; omega) _ _ _) hXV, owns_base (own_put3' r3.ou b (fun g hg => by have := (r3.ou.lt g hg).1; omega) _ _ _) hXV⟩, cut3.up hXV (by simp [World.setCell]), hj.gx⟩
theorem gcut_new {w X : World} {p : Nat} {l : List (Nat × Nat × Array Value)} {op : Rat → Rat → Rat} {E e1 e2 : Int} {q1 q2 : Rat} {n1 n2 n3 : Bool} {x1 y1 x2 y2 x3 y3 : List Int} {c1 c2 c3 : Int} {a3 b3 : Option Addr} {k3 l3 : Nat} {w3 V3 : World} (hB : GB w X p l) (t1 : RTells (fstE E e1) q1 n1 x1 y1 c1) (t2 : RTells (fstE c1 e2) q2 n2 x2 y2 c2) (t3 : RTells (fstE c2 (rboth n1 x1 y1 n2 x2 y2)) (op (rq n1 x1 y1) (rq n2 x2 y2)) n3 x3 y3 c3) (j3 : GJ w X p c3 l w3) (r3 : GRow w3 V3.heap.size n3 (.slice a3 x3.length k3) x3 (.slice b3 y3.length l3) y3) (cut3 : Cut V3 (.slice a3 x3.length k3) (.slice b3 y3.length l3) w3) (hXV : X.heap.size ≤ V3.heap.size) :
    GCut w X p l op E e1 e2 q1 q2 (.pointer (some ⟨w3.heap.size, 0, none⟩)) (w3.alloc (.cells #[.bool n3, .slice a3 x3.length k3, .slice b3 y3.length l3] 29)) := by
  have hj := j3.alloc (.cells #[.bool n3, .slice a3 x3.length k3, .slice b3 y3.length l3] 29)
  have hX3 := j3.gx.size
  refine ⟨w3.heap.size, n3, a3, k3, x3, b3, l3, y3, c3, rfl, hX3, ⟨n1, x1, y1, c1, n2, x2, y2, c2, t1, t2, t3⟩, hj.inv.more (Box.made w3 _ _) (by have := hB.hp; have := hB.hw; omega), ⟨owns_base (owns_later r3.ov (alloc_later _ _)) hXV, owns_base (owns_later r3.ou (alloc_later _ _)) hXV⟩, cut3.up hXV (by simp), hj.gx⟩
theorem gbox_far6 {U : World} {b t b' : Nat} {vs : Array Value} (h : Box U b t vs) (hne : b ≠ b') (v0 v1 v2 v3 v4 v5 : Value) : Box ((((((U.setCell ⟨b', 0, none⟩ v0).setCell ⟨b', 1, none⟩ v1).setCell ⟨b', 2, none⟩ v2).setCell ⟨b', 3, none⟩ v3).setCell ⟨b', 4, none⟩ v4).setCell ⟨b', 5, none⟩ v5) b t vs := (((box_far3 h hne v0 v1 v2).other ⟨b', 3, none⟩ v3 hne).other ⟨b', 4, none⟩ v4 hne).other ⟨b', 5, none⟩ v5 hne
theorem grow_put6 {a c : World} {p : Nat} (h : a.grownBy c (some p)) (b : Nat) (u0 u1 u2 u3 u4 u5 : Value) (hb : a.heap.size ≤ b ∨ b = p) : a.grownBy ((((((c.setCell ⟨b, 0, none⟩ u0).setCell ⟨b, 1, none⟩ u1).setCell ⟨b, 2, none⟩ u2).setCell ⟨b, 3, none⟩ u3).setCell ⟨b, 4, none⟩ u4).setCell ⟨b, 5, none⟩ u5) (some p) :=
  grow_put (grow_put (grow_put (grow_put3 h b u0 u1 u2 hb) b 3 u3 hb) b 4 u4 hb) b 5 u5 hb
theorem box3f {W : World} {b t : Nat} {u0 u1 u2 : Value} (h : Box W b t #[u0, u1, u2]) : W.cell? ⟨b, 0, none⟩ = some u0 ∧ W.cell? ⟨b, 1, none⟩ = some u1 ∧ W.cell? ⟨b, 2, none⟩ = some u2 ∧ W.frozen? ⟨b, 0, none⟩ = false ∧ W.frozen? ⟨b, 1, none⟩ = false ∧ W.frozen? ⟨b, 2, none⟩ = false := ⟨h.cell 0, h.cell 1, h.cell 2, h.free 0, h.free 1, h.free 2⟩
/-- What times tells. -/
def GTimes (w : World) (p : Nat) (E e1 e2 e3 e4 : Int) (q1 q2 q3 q4 : Rat) (x : Ending) (w' : World) : Prop :=
  ∃ n3 a3 k3 x3 b3 l3 y3 c3 n6 a6 k6 x6 b6 l6 y6 c6, x = .returned (.agg #[.bool n3, .slice a3 (List.length x3) k3, .slice b3 (List.length y3) l3, .bool n6, .slice a6 (List.length x6) k6, .slice b6 (List.length y6) l6]) ∧ (GRow w' w.heap.size n3 (.slice a3 (List.length x3) k3) x3 (.slice b3 (List.length y3) l3) y3 ∧ GRow w' w.heap.size n6 (.slice a6 (List.length x6) k6) x6 (.slice b6 (List.length y6) l6) y6) ∧ G3 (· - ·) E e1 e2 q1 q2 n3 x3 y3 c3 ∧ G3 (· + ·) c3 e3 e4 q3 q4 n6 x6 y6 c6 ∧ Box w' p 107 #[.int .i64 c6] ∧ w.grownBy w' (some p) ∧ ∃ W1, Cut w (.slice a3 (List.length x3) k3) (.slice b3 (List.length y3) l3) W1 ∧ Cut W1 (.slice a6 (List.length x6) k6) (.slice b6 (List.length y6) l6) w'
set_option maxHeartbeats 6400000 in
set_option maxRecDepth 100000 in
theorem gtimes_any (p : Nat) (E : Int) (n : Bool) (a : Option Addr) (ca : Nat) (xs : List Int) (b : Option Addr) (cb : Nat) (ys : List Int) (m : Bool) (c : Option Addr) (cc : Nat) (us : List Int) (d : Option Addr) (cd : Nat) (vs : List Int) (n2 : Bool) (a2 : Option Addr) (ca2 : Nat) (xs2 : List Int) (b2 : Option Addr) (cb2 : Nat) (ys2 : List Int) (m2 : Bool) (c2 : Option Addr) (cc2 : Nat) (us2 : List Int) (d2 : Option Addr) (cd2 : Nat) (vs2 : List Int) (w : World) (hp : Box w p 107 #[.int .i64 E]) (HS : ∀ V, w.grownBy V (some p) → Sl V (.slice a xs.length ca) xs ∧ Sl V (.slice b ys.length cb) ys ∧ Sl V (.slice c us.length cc) us ∧ Sl V (.slice d vs.length cd) vs ∧ Sl V (.slice a2 xs2.length ca2) xs2 ∧ Sl V (.slice b2 ys2.length cb2) ys2 ∧ Sl V (.slice c2 us2.length cc2) us2 ∧ Sl V (.slice d2 vs2.length cd2) vs2) :
    Calls Tryz.prog 47 #[.pointer (some ⟨p, 0, none⟩), .agg #[.bool n, .slice a xs.length ca, .slice b ys.length cb, .bool m, .slice c us.length cc, .slice d vs.length cd], .agg #[.bool n2, .slice a2 xs2.length ca2, .slice b2 ys2.length cb2, .bool m2, .slice c2 us2.length cc2, .slice d2 vs2.length cd2]] w (GTimes w p E (rboth n xs ys n2 xs2 ys2) (rboth m us vs m2 us2 vs2) (rboth n xs ys m2 us2 vs2) (rboth m us vs n2 xs2 ys2) (rq n xs ys * rq n2 xs2 ys2) (rq m us vs * rq m2 us2 vs2) (rq n xs ys * rq m2 us2 vs2) (rq m us vs * rq n2 xs2 ys2)) := by
  have hpw : p < w.heap.size := hp.lt
  have HPW := hid hpw
  have HSS := hid HS
  have HI : Hid (GInv w p E ((w.heap.size, 31, #[.bool n, .slice a xs.length ca, .slice b ys.length cb, .bool m, .slice c us.length cc, .slice d vs.length cd]) :: (w.heap.size + 1, 31, #[.bool n2, .slice a2 xs2.length ca2, .slice b2 ys2.length cb2, .bool m2, .slice c2 us2.length cc2, .slice d2 vs2.length cd2]) :: (w.heap.size + 1 + 1, 31, #[.bool false, .slice none 0 0, .slice none 0 0, .bool false, .slice none 0 0, .slice none 0 0]) :: []) (((w.alloc (.cells #[.bool n, .slice a xs.length ca, .slice b ys.length cb, .bool m, .slice c us.length cc, .slice d vs.length cd] 31)).alloc (.cells #[.bool n2, .slice a2 xs2.length ca2, .slice b2 ys2.length cb2, .bool m2, .slice c2 us2.length cc2, .slice d2 vs2.length cd2] 31)).alloc (.cells #[.bool false, .slice none 0 0, .slice none 0 0, .bool false, .slice none 0 0, .slice none 0 0] 31))) := by
    have h3 := boxes3r w 31 #[.bool n, .slice a xs.length ca, .slice b ys.length cb, .bool m, .slice c us.length cc, .slice d vs.length cd] #[.bool n2, .slice a2 xs2.length ca2, .slice b2 ys2.length cb2, .bool m2, .slice c2 us2.length cc2, .slice d2 vs2.length cd2] #[.bool false, .slice none 0 0, .slice none 0 0, .bool false, .slice none 0 0, .slice none 0 0]
    refine hid (GInv.more (GInv.more (GInv.more ⟨hp.later h3.2.2.2 hp.lt, grow_below h3.2.2.2 _, fun x hx => by cases hx⟩ h3.2.2.1 (by omega)) h3.2.1 (by omega)) h3.1 (by omega))
  obtain ⟨X, hX⟩ : ∃ X, ((w.alloc (.cells #[.bool n, .slice a xs.length ca, .slice b ys.length cb, .bool m, .slice c us.length cc, .slice d vs.length cd] 31)).alloc (.cells #[.bool n2, .slice a2 xs2.length ca2, .slice b2 ys2.length cb2, .bool m2, .slice c2 us2.length cc2, .slice d2 vs2.length cd2] 31)).alloc (.cells #[.bool false, .slice none 0 0, .slice none 0 0, .bool false, .slice none 0 0, .slice none 0 0] 31) = X := ⟨_, rfl⟩
  rw [hX] at HI
  clear HS hp
  go_enter Tryz.func47, Tryz.ntmps47
  have HK : Hid (∀ V EE, GJ w X p EE ((w.heap.size, 31, #[.bool n, .slice a xs.length ca, .slice b ys.length cb, .bool m, .slice c us.length cc, .slice d vs.length cd]) :: (w.heap.size + 1, 31, #[.bool n2, .slice a2 xs2.length ca2, .slice b2 ys2.length cb2, .bool m2, .slice c2 us2.length cc2, .slice d2 vs2.length cd2]) :: (w.heap.size + 1 + 1, 31, #[.bool false, .slice none 0 0, .slice none 0 0, .bool false, .slice none 0 0, .slice none 0 0]) :: []) V → V.cell? ⟨w.heap.size, 0, none⟩ = some (.bool n) ∧ V.cell? ⟨w.heap.size, 1, none⟩ = some (.slice a xs.length ca) ∧ V.cell? ⟨w.heap.size, 2, none⟩ = some (.slice b ys.length cb) ∧ V.cell? ⟨w.heap.size, 3, none⟩ = some (.bool m) ∧ V.cell? ⟨w.heap.size, 4, none⟩ = some (.slice c us.length cc) ∧ V.cell? ⟨w.heap.size, 5, none⟩ = some (.slice d vs.length cd) ∧ V.cell? ⟨w.heap.size + 1, 0, none⟩ = some (.bool n2) ∧ V.cell? ⟨w.heap.size + 1, 1, none⟩ = some (.slice a2 xs2.length ca2) ∧ V.cell? ⟨w.heap.size + 1, 2, none⟩ = some (.slice b2 ys2.length cb2) ∧ V.cell? ⟨w.heap.size + 1, 3, none⟩ = some (.bool m2) ∧ V.cell? ⟨w.heap.size + 1, 4, none⟩ = some (.slice c2 us2.length cc2) ∧ V.cell? ⟨w.heap.size + 1, 5, none⟩ = some (.slice d2 vs2.length cd2)) := hid (fun V EE hv => by
    obtain ⟨g0, g1, g2, g3, g4, g5⟩ := cells6 (hv.inv.box _ (List.mem_cons_self ..)).1
    obtain ⟨i0, i1, i2, i3, i4, i5⟩ := cells6 (hv.inv.box _ (List.mem_cons_of_mem _ (List.mem_cons_self ..))).1
    exact ⟨g0, g1, g2, g3, g4, g5, i0, i1, i2, i3, i4, i5⟩)
  have H1 : Hid (∀ V EE, GJ w X p EE ((w.heap.size, 31, #[.bool n, .slice a xs.length ca, .slice b ys.length cb, .bool m, .slice c us.length cc, .slice d vs.length cd]) :: (w.heap.size + 1, 31, #[.bool n2, .slice a2 xs2.length ca2, .slice b2 ys2.length cb2, .bool m2, .slice c2 us2.length cc2, .slice d2 vs2.length cd2]) :: (w.heap.size + 1 + 1, 31, #[.bool false, .slice none 0 0, .slice none 0 0, .bool false, .slice none 0 0, .slice none 0 0]) :: []) V → Calls Tryz.prog 61 #[.pointer (some ⟨p, 0, none⟩), .agg #[.bool n, .slice a xs.length ca, .slice b ys.length cb], .agg #[.bool n2, .slice a2 xs2.length ca2, .slice b2 ys2.length cb2]] V (GStp w X p ((w.heap.size, 31, #[.bool n, .slice a xs.length ca, .slice b ys.length cb, .bool m, .slice c us.length cc, .slice d vs.length cd]) :: (w.heap.size + 1, 31, #[.bool n2, .slice a2 xs2.length ca2, .slice b2 ys2.length cb2, .bool m2, .slice c2 us2.length cc2, .slice d2 vs2.length cd2]) :: (w.heap.size + 1 + 1, 31, #[.bool false, .slice none 0 0, .slice none 0 0, .bool false, .slice none 0 0, .slice none 0 0]) :: []) V (fstE EE (rboth n xs ys n2 xs2 ys2)) (rq n xs ys * rq n2 xs2 ys2))) := hid (fun V EE hv => by
    have h := HSS.out V hv.inv.grown
    exact gstp hv (gproduct_any p EE n a ca xs b cb ys n2 a2 ca2 xs2 b2 cb2 ys2 V hv.inv.err h.1 h.2.1 h.2.2.2.2.1 h.2.2.2.2.2.1))
  have H2 : Hid (∀ V EE, GJ w X p EE ((w.heap.size, 31, #[.bool n, .slice a xs.length ca, .slice b ys.length cb, .bool m, .slice c us.length cc, .slice d vs.length cd]) :: (w.heap.size + 1, 31, #[.bool n2, .slice a2 xs2.length ca2, .slice b2 ys2.length cb2, .bool m2, .slice c2 us2.length cc2, .slice d2 vs2.length cd2]) :: (w.heap.size + 1 + 1, 31, #[.bool false, .slice none 0 0, .slice none 0 0, .bool false, .slice none 0 0, .slice none 0 0]) :: []) V → Calls Tryz.prog 61 #[.pointer (some ⟨p, 0, none⟩), .agg #[.bool m, .slice c us.length cc, .slice d vs.length cd], .agg #[.bool m2, .slice c2 us2.length cc2, .slice d2 vs2.length cd2]] V (GStp w X p ((w.heap.size, 31, #[.bool n, .slice a xs.length ca, .slice b ys.length cb, .bool m, .slice c us.length cc, .slice d vs.length cd]) :: (w.heap.size + 1, 31, #[.bool n2, .slice a2 xs2.length ca2, .slice b2 ys2.length cb2, .bool m2, .slice c2 us2.length cc2, .slice d2 vs2.length cd2]) :: (w.heap.size + 1 + 1, 31, #[.bool false, .slice none 0 0, .slice none 0 0, .bool false, .slice none 0 0, .slice none 0 0]) :: []) V (fstE EE (rboth m us vs m2 us2 vs2)) (rq m us vs * rq m2 us2 vs2))) := hid (fun V EE hv => by
    have h := HSS.out V hv.inv.grown
    exact gstp hv (gproduct_any p EE m c cc us d cd vs m2 c2 cc2 us2 d2 cd2 vs2 V hv.inv.err h.2.2.1 h.2.2.2.1 h.2.2.2.2.2.2.1 h.2.2.2.2.2.2.2))
  have H3 : Hid (∀ (V : World) (EE : Int) (n1' : Bool) (a1' : Option Addr) (k1' : Nat) (x1' : List Int) (b1' : Option Addr) (l1' : Nat) (y1' : List Int) (n2' : Bool) (a2' : Option Addr) (k2' : Nat) (x2' : List Int) (b2' : Option Addr) (l2' : Nat) (y2' : List Int), GJ w X p EE ((w.heap.size, 31, #[.bool n, .slice a xs.length ca, .slice b ys.length cb, .bool m, .slice c us.length cc, .slice d vs.length cd]) :: (w.heap.size + 1, 31, #[.bool n2, .slice a2 xs2.length ca2, .slice b2 ys2.length cb2, .bool m2, .slice c2 us2.length cc2, .slice d2 vs2.length cd2]) :: (w.heap.size + 1 + 1, 31, #[.bool false, .slice none 0 0, .slice none 0 0, .bool false, .slice none 0 0, .slice none 0 0]) :: []) V → Sl V (.slice a1' x1'.length k1') x1' ∧ Sl V (.slice b1' y1'.length l1') y1' → Sl V (.slice a2' x2'.length k2') x2' ∧ Sl V (.slice b2' y2'.length l2') y2' → Calls Tryz.prog 60 #[.pointer (some ⟨p, 0, none⟩), .agg #[.bool n1', .slice a1' x1'.length k1', .slice b1' y1'.length l1'], .agg #[.bool n2', .slice a2' x2'.length k2', .slice b2' y2'.length l2']] V (GStp w X p ((w.heap.size, 31, #[.bool n, .slice a xs.length ca, .slice b ys.length cb, .bool m, .slice c us.length cc, .slice d vs.length cd]) :: (w.heap.size + 1, 31, #[.bool n2, .slice a2 xs2.length ca2, .slice b2 ys2.length cb2, .bool m2, .slice c2 us2.length cc2, .slice d2 vs2.length cd2]) :: (w.heap.size + 1 + 1, 31, #[.bool false, .slice none 0 0, .slice none 0 0, .bool false, .slice none 0 0, .slice none 0 0]) :: []) V (fstE EE (rboth n1' x1' y1' n2' x2' y2')) (rq n1' x1' y1' - rq n2' x2' y2'))) := hid (fun V EE n1' a1' k1' x1' b1' l1' y1' n2' a2' k2' x2' b2' l2' y2' hv h1 h2 => gstp hv (gdifference_any p EE n1' a1' k1' x1' b1' l1' y1' n2' a2' k2' x2' b2' l2' y2' V hv.inv.err h1.1 h1.2 h2.1 h2.2))
  have HGB := hid (GInv.base HI.out HPW.out)
  have HD := hid (GJ.first HI.out)
  have HD0 := hid (GJ.start HI.out)
  have hs0 := HK.out _ _ HD.out
  have hwX : w.heap.size ≤ X.heap.size := HGB.out.hw
  have hpX : p < X.heap.size := Nat.lt_of_lt_of_le HPW.out hwX
  go_upto_region 1 with fail
  go_cut [7] from 9 (fun s wx => Hid (GCut w X p ((w.heap.size, 31, #[.bool n, .slice a xs.length ca, .slice b ys.length cb, .bool m, .slice c us.length cc, .slice d vs.length cd]) :: (w.heap.size + 1, 31, #[.bool n2, .slice a2 xs2.length ca2, .slice b2 ys2.length cb2, .bool m2, .slice c2 us2.length cc2, .slice d2 vs2.length cd2]) :: (w.heap.size + 1 + 1, 31, #[.bool false, .slice none 0 0, .slice none 0 0, .bool false, .slice none 0 0, .slice none 0 0]) :: []) (· - ·) E (rboth n xs ys n2 xs2 ys2) (rboth m us vs m2 us2 vs2) (rq n xs ys * rq n2 xs2 ys2) (rq m us vs * rq m2 us2 vs2) s wx))
  case first =>
    go_region_held3 (fun V : World => V.cell? ⟨w.heap.size, 0, none⟩ = some (.bool n) ∧ V.cell? ⟨w.heap.size, 1, none⟩ = some (.slice a xs.length ca) ∧ V.cell? ⟨w.heap.size, 2, none⟩ = some (.slice b ys.length cb) ∧ V.cell? ⟨w.heap.size, 3, none⟩ = some (.bool m) ∧ V.cell? ⟨w.heap.size, 4, none⟩ = some (.slice c us.length cc) ∧ V.cell? ⟨w.heap.size, 5, none⟩ = some (.slice d vs.length cd) ∧ V.cell? ⟨w.heap.size + 1, 0, none⟩ = some (.bool n2) ∧ V.cell? ⟨w.heap.size + 1, 1, none⟩ = some (.slice a2 xs2.length ca2) ∧ V.cell? ⟨w.heap.size + 1, 2, none⟩ = some (.slice b2 ys2.length cb2) ∧ V.cell? ⟨w.heap.size + 1, 3, none⟩ = some (.bool m2) ∧ V.cell? ⟨w.heap.size + 1, 4, none⟩ = some (.slice c2 us2.length cc2) ∧ V.cell? ⟨w.heap.size + 1, 5, none⟩ = some (.slice d2 vs2.length cd2)) (first | exact hs3 | exact hs2 | exact hs1 | exact hs0 | exact HK.out _ _ (j3.out.alloc _) | exact HK.out _ _ (j3.out.put3 HGB.out _ (by omega) _ _ _) | exact HK.out _ _ (j2.out.alloc _) | exact HK.out _ _ (j1.out.alloc _) | exact HK.out _ _ (HD0.out.alloc _) | exact HK.out _ _ (HD0.out.alloc _).drew | exact HK.out _ _ (HD.out.alloc _))
      (first
        | (go_at_call 61; (with_reducible refine Calls.mono (H2.out _ e1 (by first | exact j1.out | exact j1.out.alloc _)) ?_); rintro x w2 ⟨n2', a2', k2', x2', b2', l2', y2', e2, rfl, t2, j2, r2, rv2, g2, cut2, z2⟩; have hs2 := HK.out _ _ j2.out)
        | (go_at_call 61; (with_reducible refine Calls.mono (H1.out _ E (by first | exact HD.out | exact (HD0.out.alloc _).drew | exact HD.out.alloc _)) ?_); rintro x w1 ⟨n1', a1', k1', x1', b1', l1', y1', e1, rfl, t1, j1, r1, rv1, g1, cut1, z1⟩; have hs1 := HK.out _ _ j1.out)
        | (go_at_call 60; (with_reducible refine Calls.mono (H3.out _ e2 n1' a1' k1' x1' b1' l1' y1' n2' a2' k2' x2' b2' l2' y2' (by first | exact j2.out | exact j2.out.alloc _) (by first | exact (r1.out.step hpX g2.out).sl t1.out.wx t1.out.wy | exact (r1.out.step hpX (grow_trans (World.grownBy_alloc _ _ _) g2.out)).sl t1.out.wx t1.out.wy | exact (r1.out.step hpX (grow_trans g2.out (World.grownBy_alloc _ _ _))).sl t1.out.wx t1.out.wy) (by first | exact r2.out.sl t2.out.wx t2.out.wy | exact (r2.out.step hpX (World.grownBy_alloc _ _ _)).sl t2.out.wx t2.out.wy)) ?_); rintro x w3 ⟨n3, a3, k3, x3, b3, l3, y3, e3, rfl, t3, j3, r3, rv3, g3, cut3, z3⟩; have hs3 := HK.out _ _ j3.out; (first | (have HQ2 : Hid (Box w2 X.heap.size 29 #[.bool false, .slice none 0 0, .slice none 0 0]) := hid (((show Box ((X.alloc (.cells #[.bool false, .slice none 0 0, .slice none 0 0] 29)).drew) X.heap.size 29 #[.bool false, .slice none 0 0, .slice none 0 0] from Box.made X 29 #[.bool false, .slice none 0 0, .slice none 0 0]).kept' g1.out (some_ne hpX)).kept' g2.out (some_ne hpX)); have HQ := hid (HQ2.out.kept' g3.out (some_ne hpX)); obtain ⟨q0, q1, q2, f0, f1, f2⟩ := box3f HQ.out) | (have HQ2 : Hid (Box w2 w1.heap.size 29 #[.bool false, .slice none 0 0, .slice none 0 0]) := hid ((Box.made w1 29 #[.bool false, .slice none 0 0, .slice none 0 0]).kept' g2.out (some_ne (Nat.lt_of_lt_of_le hpX z1))); have HQ := hid (HQ2.out.kept' g3.out (some_ne (Nat.lt_of_lt_of_le hpX z1))); obtain ⟨q0, q1, q2, f0, f1, f2⟩ := box3f HQ.out) | (have HQ2 : Hid (Box (w2.alloc (.cells #[.bool false, .slice none 0 0, .slice none 0 0] 29)) w2.heap.size 29 #[.bool false, .slice none 0 0, .slice none 0 0]) := hid (Box.made w2 29 #[.bool false, .slice none 0 0, .slice none 0 0]); have HQ := hid (HQ2.out.kept' g3.out (some_ne (Nat.lt_of_lt_of_le hpX z2))); obtain ⟨q0, q1, q2, f0, f1, f2⟩ := box3f HQ.out) | skip)))
    all_goals
      clear hs0 hs1 hs2 hs3 H1 H2 H3 HK
      go_wp2_with fail
      go_meet
    all_goals first | with_reducible exact hid (gcut_put HGB.out t1.out t2.out t3.out j3.out rv3.out cut3.out HQ.out HQ2.out.lt (by omega)) | with_reducible exact hid (gcut_new HGB.out t1.out t2.out t3.out j3.out rv3.out cut3.out z2)
  case rest =>
    obtain ⟨g7, n3, a3, k3, x3, b3, l3, y3, c3, rfl, hg7, T3, I3, R3, C3, G3'⟩ := hcut.out
    have HT3 := hid T3; have HI3 := hid I3; have HR3 := hid R3; have HC3 := hid C3; have HG3 := hid G3'
    clear T3 I3 R3 C3 G3' hcut HK H1 H2 H3 HGB HD HD0 hs0 hwX hpX
    have HK : Hid (∀ V EE, GJ w wc p EE ((g7, 29, #[.bool n3, .slice a3 x3.length k3, .slice b3 y3.length l3]) :: (w.heap.size, 31, #[.bool n, .slice a xs.length ca, .slice b ys.length cb, .bool m, .slice c us.length cc, .slice d vs.length cd]) :: (w.heap.size + 1, 31, #[.bool n2, .slice a2 xs2.length ca2, .slice b2 ys2.length cb2, .bool m2, .slice c2 us2.length cc2, .slice d2 vs2.length cd2]) :: (w.heap.size + 1 + 1, 31, #[.bool false, .slice none 0 0, .slice none 0 0, .bool false, .slice none 0 0, .slice none 0 0]) :: []) V → V.cell? ⟨w.heap.size, 0, none⟩ = some (.bool n) ∧ V.cell? ⟨w.heap.size, 1, none⟩ = some (.slice a xs.length ca) ∧ V.cell? ⟨w.heap.size, 2, none⟩ = some (.slice b ys.length cb) ∧ V.cell? ⟨w.heap.size, 3, none⟩ = some (.bool m) ∧ V.cell? ⟨w.heap.size, 4, none⟩ = some (.slice c us.length cc) ∧ V.cell? ⟨w.heap.size, 5, none⟩ = some (.slice d vs.length cd) ∧ V.cell? ⟨w.heap.size + 1, 0, none⟩ = some (.bool n2) ∧ V.cell? ⟨w.heap.size + 1, 1, none⟩ = some (.slice a2 xs2.length ca2) ∧ V.cell? ⟨w.heap.size + 1, 2, none⟩ = some (.slice b2 ys2.length cb2) ∧ V.cell? ⟨w.heap.size + 1, 3, none⟩ = some (.bool m2) ∧ V.cell? ⟨w.heap.size + 1, 4, none⟩ = some (.slice c2 us2.length cc2) ∧ V.cell? ⟨w.heap.size + 1, 5, none⟩ = some (.slice d2 vs2.length cd2)) := hid (fun V EE hv => by
      obtain ⟨g0, g1, g2, g3, g4, g5⟩ := cells6 (hv.inv.box _ (List.mem_cons_of_mem _ (List.mem_cons_self ..))).1
      obtain ⟨i0, i1, i2, i3, i4, i5⟩ := cells6 (hv.inv.box _ (List.mem_cons_of_mem _ (List.mem_cons_of_mem _ (List.mem_cons_self ..)))).1
      exact ⟨g0, g1, g2, g3, g4, g5, i0, i1, i2, i3, i4, i5⟩)
    have H1 : Hid (∀ V EE, GJ w wc p EE ((g7, 29, #[.bool n3, .slice a3 x3.length k3, .slice b3 y3.length l3]) :: (w.heap.size, 31, #[.bool n, .slice a xs.length ca, .slice b ys.length cb, .bool m, .slice c us.length cc, .slice d vs.length cd]) :: (w.heap.size + 1, 31, #[.bool n2, .slice a2 xs2.length ca2, .slice b2 ys2.length cb2, .bool m2, .slice c2 us2.length cc2, .slice d2 vs2.length cd2]) :: (w.heap.size + 1 + 1, 31, #[.bool false, .slice none 0 0, .slice none 0 0, .bool false, .slice none 0 0, .slice none 0 0]) :: []) V → Calls Tryz.prog 61 #[.pointer (some ⟨p, 0, none⟩), .agg #[.bool n, .slice a xs.length ca, .slice b ys.length cb], .agg #[.bool m2, .slice c2 us2.length cc2, .slice d2 vs2.length cd2]] V (GStp w wc p ((g7, 29, #[.bool n3, .slice a3 x3.length k3, .slice b3 y3.length l3]) :: (w.heap.size, 31, #[.bool n, .slice a xs.length ca, .slice b ys.length cb, .bool m, .slice c us.length cc, .slice d vs.length cd]) :: (w.heap.size + 1, 31, #[.bool n2, .slice a2 xs2.length ca2, .slice b2 ys2.length cb2, .bool m2, .slice c2 us2.length cc2, .slice d2 vs2.length cd2]) :: (w.heap.size + 1 + 1, 31, #[.bool false, .slice none 0 0, .slice none 0 0, .bool false, .slice none 0 0, .slice none 0 0]) :: []) V (fstE EE (rboth n xs ys m2 us2 vs2)) (rq n xs ys * rq m2 us2 vs2))) := hid (fun V EE hv => by
      have h := HSS.out V hv.inv.grown
      exact gstp hv (gproduct_any p EE n a ca xs b cb ys m2 c2 cc2 us2 d2 cd2 vs2 V hv.inv.err h.1 h.2.1 h.2.2.2.2.2.2.1 h.2.2.2.2.2.2.2))
    have H2 : Hid (∀ V EE, GJ w wc p EE ((g7, 29, #[.bool n3, .slice a3 x3.length k3, .slice b3 y3.length l3]) :: (w.heap.size, 31, #[.bool n, .slice a xs.length ca, .slice b ys.length cb, .bool m, .slice c us.length cc, .slice d vs.length cd]) :: (w.heap.size + 1, 31, #[.bool n2, .slice a2 xs2.length ca2, .slice b2 ys2.length cb2, .bool m2, .slice c2 us2.length cc2, .slice d2 vs2.length cd2]) :: (w.heap.size + 1 + 1, 31, #[.bool false, .slice none 0 0, .slice none 0 0, .bool false, .slice none 0 0, .slice none 0 0]) :: []) V → Calls Tryz.prog 61 #[.pointer (some ⟨p, 0, none⟩), .agg #[.bool m, .slice c us.length cc, .slice d vs.length cd], .agg #[.bool n2, .slice a2 xs2.length ca2, .slice b2 ys2.length cb2]] V (GStp w wc p ((g7, 29, #[.bool n3, .slice a3 x3.length k3, .slice b3 y3.length l3]) :: (w.heap.size, 31, #[.bool n, .slice a xs.length ca, .slice b ys.length cb, .bool m, .slice c us.length cc, .slice d vs.length cd]) :: (w.heap.size + 1, 31, #[.bool n2, .slice a2 xs2.length ca2, .slice b2 ys2.length cb2, .bool m2, .slice c2 us2.length cc2, .slice d2 vs2.length cd2]) :: (w.heap.size + 1 + 1, 31, #[.bool false, .slice none 0 0, .slice none 0 0, .bool false, .slice none 0 0, .slice none 0 0]) :: []) V (fstE EE (rboth m us vs n2 xs2 ys2)) (rq m us vs * rq n2 xs2 ys2))) := hid (fun V EE hv => by
      have h := HSS.out V hv.inv.grown
      exact gstp hv (gproduct_any p EE m c cc us d cd vs n2 a2 ca2 xs2 b2 cb2 ys2 V hv.inv.err h.2.2.1 h.2.2.2.1 h.2.2.2.2.1 h.2.2.2.2.2.1))
    have H3 : Hid (∀ (V : World) (EE : Int) (n1' : Bool) (a1' : Option Addr) (k1' : Nat) (x1' : List Int) (b1' : Option Addr) (l1' : Nat) (y1' : List Int) (n2' : Bool) (a2' : Option Addr) (k2' : Nat) (x2' : List Int) (b2' : Option Addr) (l2' : Nat) (y2' : List Int), GJ w wc p EE ((g7, 29, #[.bool n3, .slice a3 x3.length k3, .slice b3 y3.length l3]) :: (w.heap.size, 31, #[.bool n, .slice a xs.length ca, .slice b ys.length cb, .bool m, .slice c us.length cc, .slice d vs.length cd]) :: (w.heap.size + 1, 31, #[.bool n2, .slice a2 xs2.length ca2, .slice b2 ys2.length cb2, .bool m2, .slice c2 us2.length cc2, .slice d2 vs2.length cd2]) :: (w.heap.size + 1 + 1, 31, #[.bool false, .slice none 0 0, .slice none 0 0, .bool false, .slice none 0 0, .slice none 0 0]) :: []) V → Sl V (.slice a1' x1'.length k1') x1' ∧ Sl V (.slice b1' y1'.length l1') y1' → Sl V (.slice a2' x2'.length k2') x2' ∧ Sl V (.slice b2' y2'.length l2') y2' → Calls Tryz.prog 62 #[.pointer (some ⟨p, 0, none⟩), .agg #[.bool n1', .slice a1' x1'.length k1', .slice b1' y1'.length l1'], .agg #[.bool n2', .slice a2' x2'.length k2', .slice b2' y2'.length l2']] V (GStp w wc p ((g7, 29, #[.bool n3, .slice a3 x3.length k3, .slice b3 y3.length l3]) :: (w.heap.size, 31, #[.bool n, .slice a xs.length ca, .slice b ys.length cb, .bool m, .slice c us.length cc, .slice d vs.length cd]) :: (w.heap.size + 1, 31, #[.bool n2, .slice a2 xs2.length ca2, .slice b2 ys2.length cb2, .bool m2, .slice c2 us2.length cc2, .slice d2 vs2.length cd2]) :: (w.heap.size + 1 + 1, 31, #[.bool false, .slice none 0 0, .slice none 0 0, .bool false, .slice none 0 0, .slice none 0 0]) :: []) V (fstE EE (rboth n1' x1' y1' n2' x2' y2')) (rq n1' x1' y1' + rq n2' x2' y2'))) := hid (fun V EE n1' a1' k1' x1' b1' l1' y1' n2' a2' k2' x2' b2' l2' y2' hv h1 h2 => gstp hv (gsum_any p EE n1' a1' k1' x1' b1' l1' y1' n2' a2' k2' x2' b2' l2' y2' V hv.inv.err h1.1 h1.2 h2.1 h2.2))
    have HGB := hid (GInv.base HI3.out HPW.out)
    have HD := hid (GJ.first HI3.out)
    have HD0 := hid (GJ.start HI3.out)
    have hs0 := HK.out _ _ HD.out
    have hwX : w.heap.size ≤ wc.heap.size := HGB.out.hw
    have hpX : p < wc.heap.size := Nat.lt_of_lt_of_le HPW.out hwX
    go_upto_region 2 with fail
    go_cut [8] from 23 (fun s wx => Hid (GCut w wc p ((g7, 29, #[.bool n3, .slice a3 x3.length k3, .slice b3 y3.length l3]) :: (w.heap.size, 31, #[.bool n, .slice a xs.length ca, .slice b ys.length cb, .bool m, .slice c us.length cc, .slice d vs.length cd]) :: (w.heap.size + 1, 31, #[.bool n2, .slice a2 xs2.length ca2, .slice b2 ys2.length cb2, .bool m2, .slice c2 us2.length cc2, .slice d2 vs2.length cd2]) :: (w.heap.size + 1 + 1, 31, #[.bool false, .slice none 0 0, .slice none 0 0, .bool false, .slice none 0 0, .slice none 0 0]) :: []) (· + ·) c3 (rboth n xs ys m2 us2 vs2) (rboth m us vs n2 xs2 ys2) (rq n xs ys * rq m2 us2 vs2) (rq m us vs * rq n2 xs2 ys2) s wx))
    case first =>
      go_region_held3 (fun V : World => V.cell? ⟨w.heap.size, 0, none⟩ = some (.bool n) ∧ V.cell? ⟨w.heap.size, 1, none⟩ = some (.slice a xs.length ca) ∧ V.cell? ⟨w.heap.size, 2, none⟩ = some (.slice b ys.length cb) ∧ V.cell? ⟨w.heap.size, 3, none⟩ = some (.bool m) ∧ V.cell? ⟨w.heap.size, 4, none⟩ = some (.slice c us.length cc) ∧ V.cell? ⟨w.heap.size, 5, none⟩ = some (.slice d vs.length cd) ∧ V.cell? ⟨w.heap.size + 1, 0, none⟩ = some (.bool n2) ∧ V.cell? ⟨w.heap.size + 1, 1, none⟩ = some (.slice a2 xs2.length ca2) ∧ V.cell? ⟨w.heap.size + 1, 2, none⟩ = some (.slice b2 ys2.length cb2) ∧ V.cell? ⟨w.heap.size + 1, 3, none⟩ = some (.bool m2) ∧ V.cell? ⟨w.heap.size + 1, 4, none⟩ = some (.slice c2 us2.length cc2) ∧ V.cell? ⟨w.heap.size + 1, 5, none⟩ = some (.slice d2 vs2.length cd2)) (first | exact hs3 | exact hs2 | exact hs1 | exact hs0 | exact HK.out _ _ (j3.out.alloc _) | exact HK.out _ _ (j3.out.put3 HGB.out _ (by omega) _ _ _) | exact HK.out _ _ (j2.out.alloc _) | exact HK.out _ _ (j1.out.alloc _) | exact HK.out _ _ (HD0.out.alloc _) | exact HK.out _ _ (HD0.out.alloc _).drew | exact HK.out _ _ (HD.out.alloc _))
        (first
          | (go_at_call 61; (with_reducible refine Calls.mono (H2.out _ e1 (by first | exact j1.out | exact j1.out.alloc _)) ?_); rintro x w2 ⟨n2', a2', k2', x2', b2', l2', y2', e2, rfl, t2, j2, r2, rv2, g2, cut2, z2⟩; have hs2 := HK.out _ _ j2.out)
          | (go_at_call 61; (with_reducible refine Calls.mono (H1.out _ c3 (by first | exact HD.out | exact (HD0.out.alloc _).drew | exact HD.out.alloc _)) ?_); rintro x w1 ⟨n1', a1', k1', x1', b1', l1', y1', e1, rfl, t1, j1, r1, rv1, g1, cut1, z1⟩; have hs1 := HK.out _ _ j1.out)
          | (go_at_call 62; (with_reducible refine Calls.mono (H3.out _ e2 n1' a1' k1' x1' b1' l1' y1' n2' a2' k2' x2' b2' l2' y2' (by first | exact j2.out | exact j2.out.alloc _) (by first | exact (r1.out.step hpX g2.out).sl t1.out.wx t1.out.wy | exact (r1.out.step hpX (grow_trans (World.grownBy_alloc _ _ _) g2.out)).sl t1.out.wx t1.out.wy | exact (r1.out.step hpX (grow_trans g2.out (World.grownBy_alloc _ _ _))).sl t1.out.wx t1.out.wy) (by first | exact r2.out.sl t2.out.wx t2.out.wy | exact (r2.out.step hpX (World.grownBy_alloc _ _ _)).sl t2.out.wx t2.out.wy)) ?_); rintro x w3 ⟨n3, a3, k3, x3, b3, l3, y3, e3, rfl, t3, j3, r3, rv3, g3, cut3, z3⟩; have hs3 := HK.out _ _ j3.out; (first | (have HQ2 : Hid (Box w2 wc.heap.size 29 #[.bool false, .slice none 0 0, .slice none 0 0]) := hid (((show Box ((wc.alloc (.cells #[.bool false, .slice none 0 0, .slice none 0 0] 29)).drew) wc.heap.size 29 #[.bool false, .slice none 0 0, .slice none 0 0] from Box.made wc 29 #[.bool false, .slice none 0 0, .slice none 0 0]).kept' g1.out (some_ne hpX)).kept' g2.out (some_ne hpX)); have HQ := hid (HQ2.out.kept' g3.out (some_ne hpX)); obtain ⟨q0, q1, q2, f0, f1, f2⟩ := box3f HQ.out) | (have HQ2 : Hid (Box w2 w1.heap.size 29 #[.bool false, .slice none 0 0, .slice none 0 0]) := hid ((Box.made w1 29 #[.bool false, .slice none 0 0, .slice none 0 0]).kept' g2.out (some_ne (Nat.lt_of_lt_of_le hpX z1))); have HQ := hid (HQ2.out.kept' g3.out (some_ne (Nat.lt_of_lt_of_le hpX z1))); obtain ⟨q0, q1, q2, f0, f1, f2⟩ := box3f HQ.out) | (have HQ2 : Hid (Box (w2.alloc (.cells #[.bool false, .slice none 0 0, .slice none 0 0] 29)) w2.heap.size 29 #[.bool false, .slice none 0 0, .slice none 0 0]) := hid (Box.made w2 29 #[.bool false, .slice none 0 0, .slice none 0 0]); have HQ := hid (HQ2.out.kept' g3.out (some_ne (Nat.lt_of_lt_of_le hpX z2))); obtain ⟨q0, q1, q2, f0, f1, f2⟩ := box3f HQ.out) | skip)))
      all_goals
        clear hs0 hs1 hs2 hs3 H1 H2 H3 HK
        go_wp2_with fail
        go_meet
      all_goals first | with_reducible exact hid (gcut_put HGB.out t1.out t2.out t3.out j3.out rv3.out cut3.out HQ.out HQ2.out.lt (by omega)) | with_reducible exact hid (gcut_new HGB.out t1.out t2.out t3.out j3.out rv3.out cut3.out z2)
    case rest =>
      obtain ⟨g8, n6, a6, k6, x6, b6, l6, y6, c6, rfl, hg8, T6, I6, R6, C6, G6⟩ := hcut.out
      have hX3 : w.heap.size + 1 + 1 < X.heap.size := (HI.out.box _ (List.mem_cons_of_mem _ (List.mem_cons_of_mem _ (List.mem_cons_self ..)))).1.lt
      have hwc := HG3.out.size
      have HRR := hid (HR3.out.step (show p < X.heap.size by omega) G6)
      have HR6 := hid R6
      have HI6 := hid I6
      have HT6 := hid T6
      have HC6 := hid C6
      have HBR := hid (I6.box _ (List.mem_cons_of_mem _ (List.mem_cons_of_mem _ (List.mem_cons_of_mem _ (List.mem_cons_of_mem _ (List.mem_cons_self ..)))))).1
      obtain ⟨s0, s1, s2, _, _, _⟩ := box3f (I6.box _ (List.mem_cons_of_mem _ (List.mem_cons_self ..))).1
      obtain ⟨t0, t1, t2, _, _, _⟩ := box3f (I6.box _ (List.mem_cons_self ..)).1
      obtain ⟨m0, m1, m2', m3, m4, m5⟩ := cells6 HBR.out
      have f0 := HBR.out.free 0
      have f1 := HBR.out.free 1
      have f2 := HBR.out.free 2
      have f3 := HBR.out.free 3
      have f4 := HBR.out.free 4
      have f5 := HBR.out.free 5
      have hg6 := G6.size
      clear T6 I6 R6 C6 G6 hcut HK H1 H2 H3 HGB HD HD0 hs0 hwX hpX hX HSS
      go_wp2_with fail
      have B1 := box_put6 HBR.out (.bool n3) (.slice a3 x3.length k3) (.slice b3 y3.length l3) (.bool n6) (.slice a6 x6.length k6) (.slice b6 y6.length l6)
      have hne : p ≠ w.heap.size + 1 + 1 := by omega
      have P1 := gbox_far6 HI6.out.err hne (.bool n3) (.slice a3 x3.length k3) (.slice b3 y3.length l3) (.bool n6) (.slice a6 x6.length k6) (.slice b6 y6.length l6)
      have V3 := own_put6 HRR.out.ov (w.heap.size + 1 + 1) (fun g hg => by have := (HRR.out.ov.lt g hg).1; omega) (.bool n3) (.slice a3 x3.length k3) (.slice b3 y3.length l3) (.bool n6) (.slice a6 x6.length k6) (.slice b6 y6.length l6)
      have U3 := own_put6 HRR.out.ou (w.heap.size + 1 + 1) (fun g hg => by have := (HRR.out.ou.lt g hg).1; omega) (.bool n3) (.slice a3 x3.length k3) (.slice b3 y3.length l3) (.bool n6) (.slice a6 x6.length k6) (.slice b6 y6.length l6)
      have V6 := own_put6 HR6.out.ov (w.heap.size + 1 + 1) (fun g hg => by have := (HR6.out.ov.lt g hg).1; omega) (.bool n3) (.slice a3 x3.length k3) (.slice b3 y3.length l3) (.bool n6) (.slice a6 x6.length k6) (.slice b6 y6.length l6)
      have U6 := own_put6 HR6.out.ou (w.heap.size + 1 + 1) (fun g hg => by have := (HR6.out.ou.lt g hg).1; omega) (.bool n3) (.slice a3 x3.length k3) (.slice b3 y3.length l3) (.bool n6) (.slice a6 x6.length k6) (.slice b6 y6.length l6)
      have G1 := grow_put6 HI6.out.grown (w.heap.size + 1 + 1) (.bool n3) (.slice a3 x3.length k3) (.slice b3 y3.length l3) (.bool n6) (.slice a6 x6.length k6) (.slice b6 y6.length l6) (.inl (by omega))
      have hwX : w.heap.size ≤ X.heap.size := by omega
      refine bodyPost_ret (results_cell_row (by rfl) _ _ (w.heap.size + 1 + 1) 31 _ (0, 0) _ (by rfl) B1 Tryz.underlying31 rfl (by kernel_rfl)) rfl ?_
      exact ⟨n3, a3, k3, x3, b3, l3, y3, c3, n6, a6, k6, x6, b6, l6, y6, c6, rfl, ⟨⟨owns_base V3 hwX, owns_base U3 hwX⟩, ⟨owns_base V6 (by omega), owns_base U6 (by omega)⟩⟩, HT3.out, HT6.out, P1, G1, _, HC3.out.up hwX (Nat.le_refl _), HC6.out.up (Nat.le_refl _) (by simp [World.setCell])⟩
end Go.Proofs.YtcjfbmehibhkbaaGreatDoor

/- Complex fractions: gauss.Mul: of any two, good or refused. -/
namespace Go.Proofs.YtcjfbmehibhkbaaGreatDoor
open Go.RowKit
set_option linter.unusedVariables false

/-- What some steps tell, E what was refused ahead, L whether something on the way is too long. -/
structure GT3 (E : Int) (L : Prop) (q : Rat) (n : Bool) (xs ys : List Int) (code : Int) : Prop where
  wx : Wd xs
  wy : Wd ys
  bad : E ≠ 0 → n = false ∧ xs = [] ∧ ys = [] ∧ code = E
  long : E = 0 → L → n = false ∧ xs = [] ∧ ys = [] ∧ code = 3
  good : E = 0 → ¬ L → code = 0 ∧ rchk n xs ys = 0 ∧ rq n xs ys = q
theorem GT3.ok {E : Int} {L : Prop} {q : Rat} {n : Bool} {xs ys : List Int} (h : GT3 E L q n xs ys 0) : E = 0 ∧ ¬ L := by
  by_cases hE : E = 0
  · refine ⟨hE, fun hl => ?_⟩
    have e := (h.long hE hl).2.2.2
    exact absurd e (by decide)
  · exact absurd (h.bad hE).2.2.2.symm hE
theorem GT3.of {E e : Int} {q : Rat} {n : Bool} {xs ys : List Int} {c : Int} (h : RTells (fstE E e) q n xs ys c) (z : E = 0 → e = 0) : GT3 E (rlong q) q n xs ys c := by
  by_cases hE : E = 0
  · subst hE
    rw [fstE_zero, z rfl] at h
    exact ⟨h.wx, h.wy, fun h' => absurd rfl h', fun _ => h.long rfl, fun _ => h.good rfl⟩
  · rw [fstE_err _ hE] at h
    exact ⟨h.wx, h.wy, fun _ => h.bad hE, fun h' => absurd h' hE, fun h' => absurd h' hE⟩
theorem GT3.then {E c1 : Int} {L1 L2 : Prop} {q1 q2 : Rat} {n1 n2 : Bool} {x1 y1 x2 y2 : List Int} {c2 : Int} (h1 : GT3 E L1 q1 n1 x1 y1 c1) (h2 : GT3 c1 L2 q2 n2 x2 y2 c2) : GT3 E (L1 ∨ L2) q2 n2 x2 y2 c2 := by
  refine ⟨h2.wx, h2.wy, fun hE => ?_, fun hE hl => ?_, fun hE hl => ?_⟩
  · have e := (h1.bad hE).2.2.2
    subst e
    exact h2.bad hE
  · by_cases l1 : L1
    · have e := (h1.long hE l1).2.2.2
      subst e
      exact h2.bad (by decide)
    · have e := (h1.good hE l1).1
      subst e
      exact h2.long rfl (hl.resolve_left l1)
  · have e := (h1.good hE (fun h => hl (.inl h))).1
    subst e
    exact h2.good rfl (fun h => hl (.inr h))
/-- Three steps of which the third joins the two ahead of it. -/
theorem g3_tells {op : Rat → Rat → Rat} {E e1 e2 : Int} {q1 q2 : Rat} {n : Bool} {x y : List Int} {c : Int} (h : G3 op E e1 e2 q1 q2 n x y c) (z1 : E = 0 → e1 = 0) (z2 : E = 0 → e2 = 0) : GT3 E ((rlong q1 ∨ rlong q2) ∨ rlong (op q1 q2)) (op q1 q2) n x y c := by
  obtain ⟨n1, x1, y1, c1, n2, x2, y2, c2, t1, t2, t3⟩ := h
  have h1 := GT3.of t1 z1
  have h2 : GT3 c1 (rlong q2) q2 n2 x2 y2 c2 := GT3.of t2 (fun h => by subst h; exact z2 h1.ok.1)
  have h12 := h1.then h2
  by_cases hc : c2 = 0
  · subst hc
    obtain ⟨hE, hl⟩ := h12.ok
    have g2 := h12.good hE hl
    have g1 := h1.good hE (fun h => hl (.inl h))
    rw [rboth0 g1.2.1 g2.2.1, fstE_zero, g1.2.2, g2.2.2] at t3
    exact h12.then ⟨t3.wx, t3.wy, fun h' => absurd rfl h', fun _ => t3.long rfl, fun _ => t3.good rfl⟩
  · rw [fstE_err _ hc] at t3
    exact h12.then ⟨t3.wx, t3.wy, fun _ => t3.bad hc, fun h' => absurd h' hc, fun h' => absurd h' hc⟩
/-- Two answers one behind the other, and what is told of them. -/
theorem gtwo' {E : Int} {L1 L2 : Prop} {q1 q2 : Rat} {n m : Bool} {xs ys us vs : List Int} {c1 c2 : Int} (h1 : GT3 E L1 q1 n xs ys c1) (h2 : GT3 c1 L2 q2 m us vs c2) :
    (c2 = 0 → GTells E (L1 ∨ L2) q1 q2 n xs ys m us vs c2) ∧ (c2 ≠ 0 → GTells E (L1 ∨ L2) q1 q2 false [] [] false [] [] c2) := by
  have w4 : Wd [] := Wd.nil
  have h12 := h1.then h2
  refine ⟨fun hc => ?_, fun hc => ?_⟩
  · subst hc
    obtain ⟨hE, hl⟩ := h12.ok
    have g2 := h12.good hE hl
    have g1 := h1.good hE (fun h => hl (.inl h))
    exact ⟨⟨h1.wx, h1.wy, h2.wx, h2.wy⟩, fun h => absurd hE h, fun _ h => absurd h hl, fun _ _ => ⟨rfl, g1.2, g2.2⟩⟩
  · refine ⟨⟨w4, w4, w4, w4⟩, fun hE => ⟨⟨rfl, rfl, rfl, rfl, rfl, rfl⟩, (h12.bad hE).2.2.2⟩, fun hE hl => ⟨⟨rfl, rfl, rfl, rfl, rfl, rfl⟩, (h12.long hE hl).2.2.2⟩, fun hE hl => absurd (h12.good hE hl).1 hc⟩

/-- Whether something on the way of a product is too long. -/
def mlong (q1 q2 r1 r2 : Rat) : Prop := ((rlong (q1 * r1) ∨ rlong (q2 * r2)) ∨ rlong (q1 * r1 - q2 * r2)) ∨ ((rlong (q1 * r2) ∨ rlong (q2 * r1)) ∨ rlong (q1 * r2 + q2 * r1))
set_option maxHeartbeats 3200000 in
set_option maxRecDepth 100000 in
theorem gMul_full (n : Bool) (a : Option Addr) (ca : Nat) (xs : List Int) (b : Option Addr) (cb : Nat) (ys : List Int) (m : Bool) (c : Option Addr) (cc : Nat) (us : List Int) (d : Option Addr) (cd : Nat) (vs : List Int) (n2 : Bool) (a2 : Option Addr) (ca2 : Nat) (xs2 : List Int) (b2' : Option Addr) (cb2 : Nat) (ys2 : List Int) (m2 : Bool) (c2 : Option Addr) (cc2 : Nat) (us2 : List Int) (d2 : Option Addr) (cd2 : Nat) (vs2 : List Int) (w : World) (sx : Sl w (.slice a xs.length ca) xs) (sy : Sl w (.slice b ys.length cb) ys) (su : Sl w (.slice c us.length cc) us) (sv : Sl w (.slice d vs.length cd) vs) (sx2 : Sl w (.slice a2 xs2.length ca2) xs2) (sy2 : Sl w (.slice b2' ys2.length cb2) ys2) (su2 : Sl w (.slice c2 us2.length cc2) us2) (sv2 : Sl w (.slice d2 vs2.length cd2) vs2) :
    Calls Tryz.prog 36 #[.agg #[.bool n, .slice a xs.length ca, .slice b ys.length cb, .bool m, .slice c us.length cc, .slice d vs.length cd], .agg #[.bool n2, .slice a2 xs2.length ca2, .slice b2' ys2.length cb2, .bool m2, .slice c2 us2.length cc2, .slice d2 vs2.length cd2]] w (GTold w (fstE (gchk n xs ys m us vs) (gchk n2 xs2 ys2 m2 us2 vs2)) (mlong (rq n xs ys) (rq m us vs) (rq n2 xs2 ys2) (rq m2 us2 vs2)) (rq n xs ys * rq n2 xs2 ys2 - rq m us vs * rq m2 us2 vs2) (rq n xs ys * rq m2 us2 vs2 + rq m us vs * rq n2 xs2 ys2)) := by
  have HX := hid (boxes3r w 31 #[.bool n, .slice a xs.length ca, .slice b ys.length cb, .bool m, .slice c us.length cc, .slice d vs.length cd] #[.bool n2, .slice a2 xs2.length ca2, .slice b2' ys2.length cb2, .bool m2, .slice c2 us2.length cc2, .slice d2 vs2.length cd2] #[.bool false, .slice none 0 0, .slice none 0 0, .bool false, .slice none 0 0, .slice none 0 0])
  obtain ⟨X, hX⟩ : ∃ X, ((w.alloc (.cells #[.bool n, .slice a xs.length ca, .slice b ys.length cb, .bool m, .slice c us.length cc, .slice d vs.length cd] 31)).alloc (.cells #[.bool n2, .slice a2 xs2.length ca2, .slice b2' ys2.length cb2, .bool m2, .slice c2 us2.length cc2, .slice d2 vs2.length cd2] 31)).alloc (.cells #[.bool false, .slice none 0 0, .slice none 0 0, .bool false, .slice none 0 0, .slice none 0 0] 31) = X := ⟨_, rfl⟩
  rw [hX] at HX
  have HY := hid (Box.made X 31 #[.bool n, .slice a xs.length ca, .slice b ys.length cb, .bool m, .slice c us.length cc, .slice d vs.length cd, .bool n2, .slice a2 xs2.length ca2, .slice b2' ys2.length cb2, .bool m2, .slice c2 us2.length cc2, .slice d2 vs2.length cd2])
  have HYB := hid (alloc_later X (.cells #[.bool n, .slice a xs.length ca, .slice b ys.length cb, .bool m, .slice c us.length cc, .slice d vs.length cd, .bool n2, .slice a2 xs2.length ca2, .slice b2' ys2.length cb2, .bool m2, .slice c2 us2.length cc2, .slice d2 vs2.length cd2] 31))
  obtain ⟨Y, hY⟩ : ∃ Y, X.alloc (.cells #[.bool n, .slice a xs.length ca, .slice b ys.length cb, .bool m, .slice c us.length cc, .slice d vs.length cd, .bool n2, .slice a2 xs2.length ca2, .slice b2' ys2.length cb2, .bool m2, .slice c2 us2.length cc2, .slice d2 vs2.length cd2] 31) = Y := ⟨_, rfl⟩
  rw [hY] at HY HYB
  have HWY := hid (bt HX.out.2.2.2 HYB.out)
  have HL := hid (glookAt2_any X.heap.size n a ca xs b cb ys m c cc us d cd vs n2 a2 ca2 xs2 b2' cb2 ys2 m2 c2 cc2 us2 d2 cd2 vs2 Y HY.out (sx.later HWY.out) (sy.later HWY.out) (su.later HWY.out) (sv.later HWY.out) (sx2.later HWY.out) (sy2.later HWY.out) (su2.later HWY.out) (sv2.later HWY.out))
  have H1 : Hid (∀ V p E, Below w.heap.size w V → w.heap.size ≤ p → Box V p 107 #[.int .i64 E] → Calls Tryz.prog 47 #[.pointer (some ⟨p, 0, none⟩), .agg #[.bool n, .slice a xs.length ca, .slice b ys.length cb, .bool m, .slice c us.length cc, .slice d vs.length cd], .agg #[.bool n2, .slice a2 xs2.length ca2, .slice b2' ys2.length cb2, .bool m2, .slice c2 us2.length cc2, .slice d2 vs2.length cd2]] V _) := hid (fun V p E hv hp hb => gtimes_any p E n a ca xs b cb ys m c cc us d cd vs n2 a2 ca2 xs2 b2' cb2 ys2 m2 c2 cc2 us2 d2 cd2 vs2 V hb (fun U hU => by
    have hw : Below w.heap.size w U := hv.grown hU hv.size (fun q hq => by have e := Option.some.inj hq; omega)
    exact ⟨sx.later hw, sy.later hw, su.later hw, sv.later hw, sx2.later hw, sy2.later hw, su2.later hw, sv2.later hw⟩))
  have HZ1 : Hid (fstE (gchk n xs ys m us vs) (gchk n2 xs2 ys2 m2 us2 vs2) = 0 → (rboth n xs ys n2 xs2 ys2 = 0 ∧ rboth m us vs m2 us2 vs2 = 0) ∧ rboth n xs ys m2 us2 vs2 = 0 ∧ rboth m us vs n2 xs2 ys2 = 0) := fun h => by
    obtain ⟨h1, h2⟩ := fstE_ok h
    exact ⟨⟨rboth0 (gchk_ok h1).1 (gchk_ok h2).1, rboth0 (gchk_ok h1).2 (gchk_ok h2).2⟩, rboth0 (gchk_ok h1).1 (gchk_ok h2).2, rboth0 (gchk_ok h1).2 (gchk_ok h2).1⟩
  generalize fstE (gchk n xs ys m us vs) (gchk n2 xs2 ys2 m2 us2 vs2) = E0 at *
  generalize rboth n xs ys n2 xs2 ys2 = e1 at *
  generalize rboth m us vs m2 us2 vs2 = e2 at *
  generalize rboth n xs ys m2 us2 vs2 = e3 at *
  generalize rboth m us vs n2 xs2 ys2 = e4 at *
  generalize rq n xs ys = r1 at *
  generalize rq m us vs = r2 at *
  generalize rq n2 xs2 ys2 = r3 at *
  generalize rq m2 us2 vs2 = r4 at *
  clear sx sy su sv sx2 sy2 su2 sv2
  have ka0 : X.cell? ⟨w.heap.size, 0, none⟩ = some (.bool n) := HX.out.1.cell 0
  have ka1 : X.cell? ⟨w.heap.size, 1, none⟩ = some (.slice a xs.length ca) := HX.out.1.cell 1
  have ka2 : X.cell? ⟨w.heap.size, 2, none⟩ = some (.slice b ys.length cb) := HX.out.1.cell 2
  have ka3 : X.cell? ⟨w.heap.size, 3, none⟩ = some (.bool m) := HX.out.1.cell 3
  have ka4 : X.cell? ⟨w.heap.size, 4, none⟩ = some (.slice c us.length cc) := HX.out.1.cell 4
  have ka5 : X.cell? ⟨w.heap.size, 5, none⟩ = some (.slice d vs.length cd) := HX.out.1.cell 5
  have kb0 : X.cell? ⟨w.heap.size + 1, 0, none⟩ = some (.bool n2) := HX.out.2.1.cell 0
  have kb1 : X.cell? ⟨w.heap.size + 1, 1, none⟩ = some (.slice a2 xs2.length ca2) := HX.out.2.1.cell 1
  have kb2 : X.cell? ⟨w.heap.size + 1, 2, none⟩ = some (.slice b2' ys2.length cb2) := HX.out.2.1.cell 2
  have kb3 : X.cell? ⟨w.heap.size + 1, 3, none⟩ = some (.bool m2) := HX.out.2.1.cell 3
  have kb4 : X.cell? ⟨w.heap.size + 1, 4, none⟩ = some (.slice c2 us2.length cc2) := HX.out.2.1.cell 4
  have kb5 : X.cell? ⟨w.heap.size + 1, 5, none⟩ = some (.slice d2 vs2.length cd2) := HX.out.2.1.cell 5
  go_enter Tryz.func36, Tryz.ntmps36
  go_wp2_with fail
  refine Calls.mono HL.out ?_
  rintro x w1 ⟨p, rfl, hpl, hpb, hb1⟩
  have HW1 := hid (bt HWY.out hb1)
  have HA1 := hid (HX.out.1.later (bt HYB.out hb1) HX.out.1.lt)
  have HB1 := hid (HX.out.2.1.later (bt HYB.out hb1) HX.out.2.1.lt)
  have HR1 := hid (HX.out.2.2.1.later (bt HYB.out hb1) HX.out.2.2.1.lt)
  have HP1 := hid hpb
  have hpX : X.heap.size < p := Nat.lt_of_lt_of_le HY.out.lt hpl
  have hrX : w.heap.size + 1 + 1 < X.heap.size := HX.out.2.2.1.lt
  clear hpb hb1 hpl HL ka0 ka1 ka2 ka3 ka4 ka5 kb0 kb1 kb2 kb3 kb4 kb5
  have ka0 : w1.cell? ⟨w.heap.size, 0, none⟩ = some (.bool n) := HA1.out.cell 0
  have ka1 : w1.cell? ⟨w.heap.size, 1, none⟩ = some (.slice a xs.length ca) := HA1.out.cell 1
  have ka2 : w1.cell? ⟨w.heap.size, 2, none⟩ = some (.slice b ys.length cb) := HA1.out.cell 2
  have ka3 : w1.cell? ⟨w.heap.size, 3, none⟩ = some (.bool m) := HA1.out.cell 3
  have ka4 : w1.cell? ⟨w.heap.size, 4, none⟩ = some (.slice c us.length cc) := HA1.out.cell 4
  have ka5 : w1.cell? ⟨w.heap.size, 5, none⟩ = some (.slice d vs.length cd) := HA1.out.cell 5
  have kb0 : w1.cell? ⟨w.heap.size + 1, 0, none⟩ = some (.bool n2) := HB1.out.cell 0
  have kb1 : w1.cell? ⟨w.heap.size + 1, 1, none⟩ = some (.slice a2 xs2.length ca2) := HB1.out.cell 1
  have kb2 : w1.cell? ⟨w.heap.size + 1, 2, none⟩ = some (.slice b2' ys2.length cb2) := HB1.out.cell 2
  have kb3 : w1.cell? ⟨w.heap.size + 1, 3, none⟩ = some (.bool m2) := HB1.out.cell 3
  have kb4 : w1.cell? ⟨w.heap.size + 1, 4, none⟩ = some (.slice c2 us2.length cc2) := HB1.out.cell 4
  have kb5 : w1.cell? ⟨w.heap.size + 1, 5, none⟩ = some (.slice d2 vs2.length cd2) := HB1.out.cell 5
  go_wp2_with fail
  refine Calls.mono (H1.out _ p E0 HW1.out (by omega) HP1.out) ?_
  rintro x w3 ⟨k1, av1, cv1, zs1, au1, cu1, ts1, c3, k2, av2, cv2, zs2, au2, cu2, ts2, code2, rfl, ⟨⟨ov1, ou1⟩, ⟨ov2, ou2⟩⟩, t3, t6, hp3, hg3, _⟩
  have hw13 : w1.heap.size ≤ w3.heap.size := hg3.size
  have hp1l : p < w1.heap.size := HP1.out.lt
  have HW3 : Hid (Below w.heap.size w w3) := HW1.out.grown hg3 HW1.out.size (fun q hq => by have e := Option.some.inj hq; omega)
  have HR3 := hid (HR1.out.kept' hg3 (by intro e; have := Option.some.inj e; omega))
  have HTO := hid (gtold_any p code2 k1 av1 zs1.length cv1 au1 ts1.length cu1 k2 av2 zs2.length cv2 au2 ts2.length cu2 w3 hp3)
  have HO3 := hid (And.intro ov1 (And.intro ou1 (And.intro ov2 ou2)))
  have h3 := g3_tells t3 (fun h => (HZ1.out h).1.1) (fun h => (HZ1.out h).1.2)
  have HTW := hid (gtwo' h3 (g3_tells t6 (fun h => by subst h; exact (HZ1.out h3.ok.1).2.1) (fun h => by subst h; exact (HZ1.out h3.ok.1).2.2)))
  clear h3 t3 t6 hp3 hg3 ov1 ou1 ov2 ou2 H1 ka0 ka1 ka2 ka3 ka4 ka5 kb0 kb1 kb2 kb3 kb4 kb5
  go_wp2_with fail
  refine Calls.mono HTO.out ?_
  rintro x w4 ⟨rfl, hb4⟩
  have HR4 := hid (HR3.out.later hb4 HR3.out.lt)
  have HW4 := hid (bt HW3.out hb4)
  have HOO := hid (And.intro (owns_later HO3.out.1 hb4) (And.intro (owns_later HO3.out.2.1 hb4) (And.intro (owns_later HO3.out.2.2.1 hb4) (owns_later HO3.out.2.2.2 hb4))))
  have hlo : w.heap.size ≤ w1.heap.size := by omega
  clear hb4
  have m0 : w4.cell? ⟨w.heap.size + 1 + 1, 0, none⟩ = some (.bool false) := HR4.out.cell 0
  have m1 : w4.cell? ⟨w.heap.size + 1 + 1, 1, none⟩ = some (.slice none 0 0) := HR4.out.cell 1
  have m2' : w4.cell? ⟨w.heap.size + 1 + 1, 2, none⟩ = some (.slice none 0 0) := HR4.out.cell 2
  have m3 : w4.cell? ⟨w.heap.size + 1 + 1, 3, none⟩ = some (.bool false) := HR4.out.cell 3
  have m4 : w4.cell? ⟨w.heap.size + 1 + 1, 4, none⟩ = some (.slice none 0 0) := HR4.out.cell 4
  have m5 : w4.cell? ⟨w.heap.size + 1 + 1, 5, none⟩ = some (.slice none 0 0) := HR4.out.cell 5
  have f0 := HR4.out.free 0
  have f1 := HR4.out.free 1
  have f2 := HR4.out.free 2
  have f3 := HR4.out.free 3
  have f4 := HR4.out.free 4
  have f5 := HR4.out.free 5
  by_cases hc2 : code2 = 0
  · rw [if_pos hc2]
    have HFIN := hid (HTW.out.1 hc2)
    clear HTW hc2
    go_wp2_with fail
    have B1 := box_put6 HR4.out (.bool k1) (.slice av1 zs1.length cv1) (.slice au1 ts1.length cu1) (.bool k2) (.slice av2 zs2.length cv2) (.slice au2 ts2.length cu2)
    have G1 := below_put6 HW4.out (w.heap.size + 1 + 1) (by omega) (.bool k1) (.slice av1 zs1.length cv1) (.slice au1 ts1.length cu1) (.bool k2) (.slice av2 zs2.length cv2) (.slice au2 ts2.length cu2)
    have hXX := HX.out.2.2.2.size
    have hput : ∀ {base k : Nat} {v : Value} {l : List Value}, w4.ownsRow base 38 1 v k l → (∀ g, v.ownBlock = some g → X.heap.size ≤ g) → ((((((w4.setCell ⟨w.heap.size + 1 + 1, 0, none⟩ (.bool k1)).setCell ⟨w.heap.size + 1 + 1, 1, none⟩ (.slice av1 zs1.length cv1)).setCell ⟨w.heap.size + 1 + 1, 2, none⟩ (.slice au1 ts1.length cu1)).setCell ⟨w.heap.size + 1 + 1, 3, none⟩ (.bool k2)).setCell ⟨w.heap.size + 1 + 1, 4, none⟩ (.slice av2 zs2.length cv2)).setCell ⟨w.heap.size + 1 + 1, 5, none⟩ (.slice au2 ts2.length cu2)).ownsRow base 38 1 v k l := fun h hb => own_put6 h _ (fun g hg => by have := hb g hg; omega) _ _ _ _ _ _
    clear m0 m1 m2' m3 m4 m5 f0 f1 f2 f3 f4 f5
    refine bodyPost_ret (gres_run (by rfl) B1 _ rfl) rfl ?_
    exact ⟨k1, av1, cv1, zs1, au1, cu1, ts1, k2, av2, cv2, zs2, au2, cu2, ts2, code2, rfl, ⟨owns_base (hput HOO.out.1 (fun g hg => by have := (HOO.out.1.lt g hg).1; omega)) hlo, owns_base (hput HOO.out.2.1 (fun g hg => by have := (HOO.out.2.1.lt g hg).1; omega)) hlo, owns_base (hput HOO.out.2.2.1 (fun g hg => by have := (HOO.out.2.2.1.lt g hg).1; omega)) hlo, owns_base (hput HOO.out.2.2.2 (fun g hg => by have := (HOO.out.2.2.2.lt g hg).1; omega)) hlo⟩, HFIN.out, G1⟩
  · rw [if_neg hc2]
    have HFIN := hid (HTW.out.2 hc2)
    clear HTW hc2
    go_wp2_with fail
    have B1 := box_put6 HR4.out (.bool false) (.slice none 0 0) (.slice none 0 0) (.bool false) (.slice none 0 0) (.slice none 0 0)
    have G1 := below_put6 HW4.out (w.heap.size + 1 + 1) (by omega) (.bool false) (.slice none 0 0) (.slice none 0 0) (.bool false) (.slice none 0 0) (.slice none 0 0)
    clear m0 m1 m2' m3 m4 m5 f0 f1 f2 f3 f4 f5
    refine bodyPost_ret (gres_run (by rfl) B1 _ rfl) rfl ?_
    exact ⟨false, none, 0, [], none, 0, [], false, none, 0, [], none, 0, [], code2, rfl, ⟨World.ownsRow_nil _ _ _ _, World.ownsRow_nil _ _ _ _, World.ownsRow_nil _ _ _ _, World.ownsRow_nil _ _ _ _⟩, HFIN.out, G1⟩

end Go.Proofs.YtcjfbmehibhkbaaGreatDoor

/- Complex fractions: gauss.Norm: of any, good or refused. -/
namespace Go.Proofs.YtcjfbmehibhkbaaGreatDoor
open Go.RowKit
set_option linter.unusedVariables false

theorem boxes2m (w : World) (t t' : Nat) (u v : Array Value) : Box ((w.alloc (.cells u t)).alloc (.cells v t')) w.heap.size t u ∧ Box ((w.alloc (.cells u t)).alloc (.cells v t')) (w.heap.size + 1) t' v ∧ Below w.heap.size w ((w.alloc (.cells u t)).alloc (.cells v t')) := by
  have e1 : (w.alloc (.cells u t)).heap.size = w.heap.size + 1 := World.size_alloc _ _
  have a := Box.made w t u
  have b := Box.made (w.alloc (.cells u t)) t' v
  exact ⟨a.later (alloc_later _ _) a.lt, e1 ▸ b, bt (alloc_later _ _) (alloc_later _ _)⟩
end Go.Proofs.YtcjfbmehibhkbaaGreatDoor

/- The document's own sum of natural numbers: slackwaterref01.Plus: of every two lists that can be read. -/
namespace Go.Proofs.YtcjfbmehibhkbaaGreatDoor
open Go.RowKit
set_option linter.unusedVariables false

/-- One number, trimmed, in new memory. -/
def Ref1 (w : World) (t : Int) (x : Ending) (w' : World) : Prop := ∃ v zs, x = .returned v ∧ w'.ownsRow w.heap.size 38 1 v zs.length (zs.map (Value.int .u32)) ∧ Wd zs ∧ Trimmed zs ∧ val zs = t ∧ Below w.heap.size w w'
end Go.Proofs.YtcjfbmehibhkbaaGreatDoor

/- The document's own difference and product of natural numbers: slackwaterref01.Less, Times: of every two lists that can be read. -/
namespace Go.Proofs.YtcjfbmehibhkbaaGreatDoor
open Go.RowKit
set_option linter.unusedVariables false

end Go.Proofs.YtcjfbmehibhkbaaGreatDoor

/- The document's own product of natural numbers: slackwaterref01.Times: of every two lists that can be read. -/
namespace Go.Proofs.YtcjfbmehibhkbaaGreatDoor
open Go.RowKit
set_option linter.unusedVariables false

theorem Reads.cells {w : World} {B : Nat} {a : Option Addr} {n cap : Nat} {zs : List Int} (h : Reads w B a n cap zs) : ∀ k, k < n → ∃ b1 o1, a = some ⟨b1, o1, none⟩ ∧ b1 < B ∧ w.cell? ⟨b1, o1 + k, none⟩ = some (.int .u32 (zs[k]?.getD 0)) := fun k hk => by
  rcases h.2.2.1 with h0 | ⟨b1, o1, e1, l1, c1⟩
  · omega
  · exact ⟨b1, o1, e1, l1, c1 k hk⟩
end Go.Proofs.YtcjfbmehibhkbaaGreatDoor

/- The document's own division by one word and its shifts: slackwaterref01.small, Up, Down: of every list that can be read. -/
namespace Go.Proofs.YtcjfbmehibhkbaaGreatDoor
open Go.RowKit
set_option linter.unusedVariables false

end Go.Proofs.YtcjfbmehibhkbaaGreatDoor

/- The document's own shift down: slackwaterref01.Down: of every list that can be read. -/
namespace Go.Proofs.YtcjfbmehibhkbaaGreatDoor
open Go.RowKit
set_option linter.unusedVariables false

theorem Reads.behind {w : World} {B : Nat} {b o n cap : Nat} {zs : List Int} (h : Reads w B (some ⟨b, o, none⟩) n cap zs) (W : Nat) (hW : W < n) : Reads w B (some ⟨b, o + W, none⟩) (n - W) (cap - W) (zs.drop W) := by
  obtain ⟨h1, h2, h3, h4, h5, h6⟩ := h
  refine ⟨by rw [List.length_drop]; omega, h2.drop W, ?_, by omega, by omega, fun e => by simp at e⟩
  rcases h3 with h3 | ⟨b', o', ha, hlt, hc⟩
  · omega
  · right
    simp only [Option.some.injEq, Addr.mk.injEq] at ha
    obtain ⟨rfl, rfl, _⟩ := ha
    refine ⟨b, o + W, rfl, hlt, fun j hj => ?_⟩
    rw [Nat.add_assoc, hc (W + j) (by omega), List.getElem?_drop]
end Go.Proofs.YtcjfbmehibhkbaaGreatDoor

/- The document's own long division, its parts: slackwaterref01.below, off, digit; its calls at any slice that can be read. -/
namespace Go.Proofs.YtcjfbmehibhkbaaGreatDoor
open Go.RowKit
set_option linter.unusedVariables false

theorem Ref1.slice {w w' : World} {t : Int} {x : Ending} (h : Ref1 w t x w') : ∃ a c zs, x = .returned (.slice a zs.length c) ∧ w'.ownsRow w.heap.size 38 1 (.slice a zs.length c) zs.length (zs.map (Value.int .u32)) ∧ Wd zs ∧ Trimmed zs ∧ val zs = t ∧ Below w.heap.size w w' := by
  obtain ⟨v, zs, rfl, o, h1, h2, h3, h4⟩ := h
  obtain ⟨a, c, hs⟩ := own_slice' o
  subst hs
  exact ⟨a, c, zs, rfl, o, h1, h2, h3, h4⟩

end Go.Proofs.YtcjfbmehibhkbaaGreatDoor

/- The document's own long division, one word of it: slackwaterref01.digit. -/
namespace Go.Proofs.YtcjfbmehibhkbaaGreatDoor
open Go.RowKit
set_option linter.unusedVariables false

end Go.Proofs.YtcjfbmehibhkbaaGreatDoor

/- The document's own quotient and rest: slackwaterref01.Over. -/
namespace Go.Proofs.YtcjfbmehibhkbaaGreatDoor
open Go.RowKit
set_option linter.unusedVariables false

end Go.Proofs.YtcjfbmehibhkbaaGreatDoor

/- The document's own long division, whole: slackwaterref01.Over of any two numbers. -/
namespace Go.Proofs.YtcjfbmehibhkbaaGreatDoor
open Go.RowKit
set_option linter.unusedVariables false

end Go.Proofs.YtcjfbmehibhkbaaGreatDoor

/- The document's told: a number, if it is not too long. -/
namespace Go.Proofs.YtcjfbmehibhkbaaGreatDoor
open Go.RowKit
set_option linter.unusedVariables false

end Go.Proofs.YtcjfbmehibhkbaaGreatDoor

/- The laws of layer 2: lives (two of the chapter's examples hold); the document's own made, Of. -/
namespace Go.Proofs.YtcjfbmehibhkbaaGreatDoor
open Go.RowKit
set_option linter.unusedVariables false

theorem wlim_big : (18446744073709551616 : Int) ≤ wlim := by
  have : (4294967296 : Int) ^ 2 ≤ 4294967296 ^ 2048 := pw_le (by omega)
  unfold wlim
  have e : (4294967296 : Int) ^ 2 = 18446744073709551616 := by decide
  rw [e] at this
  exact this
theorem WTells.num {t : Int} {n : Bool} {zs : List Int} {code : Int} (h : WTells 0 t n zs code) (h0 : -18446744073709551616 < t) (h1 : t < 18446744073709551616) : code = 0 ∧ wval n zs = t := by
  have := wlim_big
  exact h.good rfl (by omega) (by omega)
end Go.Proofs.YtcjfbmehibhkbaaGreatDoor

/- The document's own whole numbers: slackwaterref02.Check, Product. -/
namespace Go.Proofs.YtcjfbmehibhkbaaGreatDoor
open Go.RowKit
set_option linter.unusedVariables false

end Go.Proofs.YtcjfbmehibhkbaaGreatDoor

/- The document's own fractions: Of: a fraction of a sign and two sizes, in its one form. -/
namespace Go.Proofs.YtcjfbmehibhkbaaGreatDoor
open Go.RowKit
set_option linter.unusedVariables false

theorem RTold.later {w W W' : World} {e : Int} {q : Rat} {x : Ending} (h : RTold w e q x W) (hb : Below W.heap.size W W') : RTold w e q x W' := by
  obtain ⟨n, v, xs, u, ys, code, rfl, o1, o2, t, hbw⟩ := h
  exact ⟨n, v, xs, u, ys, code, rfl, owns_later o1 hb, owns_later o2 hb, t, bt hbw hb⟩
end Go.Proofs.YtcjfbmehibhkbaaGreatDoor

/- The document's own fractions: same words; Check. -/
namespace Go.Proofs.YtcjfbmehibhkbaaGreatDoor
open Go.RowKit
set_option linter.unusedVariables false

end Go.Proofs.YtcjfbmehibhkbaaGreatDoor

/- Whole numbers that are lent to a call: slackwaterkit.LentWhole, KeptWhole; the law's own comparison. -/
namespace Go.Proofs.YtcjfbmehibhkbaaGreatDoor
open Go.RowKit
set_option linter.unusedVariables false

end Go.Proofs.YtcjfbmehibhkbaaGreatDoor

/- The document's own fractions: Make, size, Small. -/
namespace Go.Proofs.YtcjfbmehibhkbaaGreatDoor
open Go.RowKit
set_option linter.unusedVariables false

end Go.Proofs.YtcjfbmehibhkbaaGreatDoor

/- The document's own fractions: Small; two fractions with the same words. -/
namespace Go.Proofs.YtcjfbmehibhkbaaGreatDoor
open Go.RowKit
set_option linter.unusedVariables false

set_option maxHeartbeats 1600000 in
set_option maxRecDepth 100000 in
theorem sameRatio_eq (n : Bool) (v u v' u' : Value) (xs ys : List Int) (w : World) (h : Sl w v xs) (g : Sl w u ys) (h' : Sl w v' xs) (g' : Sl w u' ys) (lx : xs.length ≤ 281474976710656) (ly : ys.length ≤ 281474976710656) :
    Calls Tryz.prog 34 #[.agg #[.bool n, v, u], .agg #[.bool n, v', u']] w fun e w' => e = .returned (.bool true) ∧ Below w.heap.size w w' := by
  have HB : Hid (Below w.heap.size w ((w.alloc (.cells #[.bool n, v, u] 29)).alloc (.cells #[.bool n, v', u'] 29))) := bt (alloc_later _ _) (alloc_later _ _)
  have HN : Hid (Box ((w.alloc (.cells #[.bool n, v, u] 29)).alloc (.cells #[.bool n, v', u'] 29)) w.heap.size 29 #[.bool n, v, u]) := Box.later (Box.made w _ _) (alloc_later _ _) (by simp)
  have HM : Hid (Box ((w.alloc (.cells #[.bool n, v, u] 29)).alloc (.cells #[.bool n, v', u'] 29)) (w.heap.size + 1) 29 #[.bool n, v', u']) := by
    have e := Box.made (w.alloc (.cells #[.bool n, v, u] 29)) 29 #[.bool n, v', u']
    simp at e
    exact e
  have H1 := hid (same_sl v v' xs xs _ (h.later HB.out) (h'.later HB.out) lx lx)
  rw [decide_eq_true rfl] at H1
  have H2 := hid (fun ww (hb : Below _ ((w.alloc (.cells #[.bool n, v, u] 29)).alloc (.cells #[.bool n, v', u'] 29)) ww) => same_sl u u' ys ys ww ((g.later HB.out).later hb) ((g'.later HB.out).later hb) ly ly)
  rw [decide_eq_true rfl] at H2
  have hbb : (n == n) = true := by simp
  obtain ⟨a, ca, rfl, hr⟩ := h
  obtain ⟨b, cb, rfl, gr⟩ := g
  obtain ⟨a', ca', rfl, hr'⟩ := h'
  obtain ⟨b', cb', rfl, gr'⟩ := g'
  clear hr gr hr' gr'
  go_enter Tryz.func34, Tryz.ntmps34
  go_wp2_with fail
  refine Calls.mono H1.out ?_
  generalize ((w.alloc (.cells #[.bool n, .slice a xs.length ca, .slice b ys.length cb] 29)).alloc (.cells #[.bool n, .slice a' xs.length ca', .slice b' ys.length cb'] 29)) = X at *
  rintro e w1 ⟨rfl, hb1⟩
  obtain ⟨p0, p1, p2, _, _, _⟩ := res_box3 HN.out hb1
  obtain ⟨q0, q1, q2, _, _, _⟩ := res_box3 HM.out hb1
  have HC := hid (H2.out w1 hb1)
  have HB1 := hid (bt HB.out hb1)
  clear hb1 H1 H2
  go_wp2_with fail
  refine Calls.mono HC.out ?_
  rintro e w2 ⟨rfl, hb2⟩
  have HBN := hid (bt HB1.out hb2)
  clear hb2 HC
  go_wp2_with fail
  go_ret
  exact ⟨rfl, HBN.out⟩
end Go.Proofs.YtcjfbmehibhkbaaGreatDoor

/- Complex fractions that are lent to a call, kept, alike: slackwaterkit.LentGauss, KeptGauss, SameGauss. (tools/mkkg.py) -/
namespace Go.Proofs.YtcjfbmehibhkbaaGreatDoor
open Go.RowKit
set_option linter.unusedVariables false

/-- The six cells of a complex fraction. -/
def Kl6 (V : World) (p : Nat) (v0 v1 v2 v3 v4 v5 : Value) : Prop := V.cell? ⟨p, 0, none⟩ = some v0 ∧ V.cell? ⟨p, 1, none⟩ = some v1 ∧ V.cell? ⟨p, 2, none⟩ = some v2 ∧ V.cell? ⟨p, 3, none⟩ = some v3 ∧ V.cell? ⟨p, 4, none⟩ = some v4 ∧ V.cell? ⟨p, 5, none⟩ = some v5
theorem Kl6.of {V : World} {p t : Nat} {v0 v1 v2 v3 v4 v5 : Value} (h : Box V p t #[v0, v1, v2, v3, v4, v5]) : V.cell? ⟨p, 0, none⟩ = some v0 ∧ V.cell? ⟨p, 1, none⟩ = some v1 ∧ V.cell? ⟨p, 2, none⟩ = some v2 ∧ V.cell? ⟨p, 3, none⟩ = some v3 ∧ V.cell? ⟨p, 4, none⟩ = some v4 ∧ V.cell? ⟨p, 5, none⟩ = some v5 := ⟨h.cell 0, h.cell 1, h.cell 2, h.cell 3, h.cell 4, h.cell 5⟩

set_option maxHeartbeats 1600000 in
set_option maxRecDepth 100000 in
theorem ksameGauss_eq (n : Bool) (a : Option Addr) (ca : Nat) (xs : List Int) (b : Option Addr) (cb : Nat) (ys : List Int) (m : Bool) (c : Option Addr) (cc : Nat) (us : List Int) (d : Option Addr) (cd : Nat) (vs : List Int) (a2 : Option Addr) (ca2 : Nat) (b2 : Option Addr) (cb2 : Nat) (c2 : Option Addr) (cc2 : Nat) (d2 : Option Addr) (cd2 : Nat) (w : World) (sx : Sl w (.slice a xs.length ca) xs) (sy : Sl w (.slice b ys.length cb) ys) (su : Sl w (.slice c us.length cc) us) (sw : Sl w (.slice d vs.length cd) vs) (sx2 : Sl w (.slice a2 xs.length ca2) xs) (sy2 : Sl w (.slice b2 ys.length cb2) ys) (su2 : Sl w (.slice c2 us.length cc2) us) (sw2 : Sl w (.slice d2 vs.length cd2) vs) (lx : xs.length ≤ 281474976710656) (ly : ys.length ≤ 281474976710656) (lu : us.length ≤ 281474976710656) (lv : vs.length ≤ 281474976710656) :
    Calls Tryz.prog 23 #[.agg #[.bool n, .slice a xs.length ca, .slice b ys.length cb, .bool m, .slice c us.length cc, .slice d vs.length cd], .agg #[.bool n, .slice a2 xs.length ca2, .slice b2 ys.length cb2, .bool m, .slice c2 us.length cc2, .slice d2 vs.length cd2]] w fun e w' => e = .returned (.bool true) ∧ Below w.heap.size w w' := by
  obtain ⟨X, hX⟩ : ∃ X, (w.alloc (.cells #[.bool n, .slice a xs.length ca, .slice b ys.length cb, .bool m, .slice c us.length cc, .slice d vs.length cd] 31)).alloc (.cells #[.bool n, .slice a2 xs.length ca2, .slice b2 ys.length cb2, .bool m, .slice c2 us.length cc2, .slice d2 vs.length cd2] 31) = X := ⟨_, rfl⟩
  have b1 : Below w.heap.size w X := by rw [← hX]; exact bt (alloc_later _ _) (alloc_later _ _)
  have HA : Hid (Box X w.heap.size 31 #[.bool n, .slice a xs.length ca, .slice b ys.length cb, .bool m, .slice c us.length cc, .slice d vs.length cd]) := by rw [← hX]; exact (Box.made w _ _).later (alloc_later _ _) (Box.made w _ _).lt
  have HZ : Hid (Box X (w.heap.size + 1) 31 #[.bool n, .slice a2 xs.length ca2, .slice b2 ys.length cb2, .bool m, .slice c2 us.length cc2, .slice d2 vs.length cd2]) := by
    have h := Box.made (w.alloc (.cells #[.bool n, .slice a xs.length ca, .slice b ys.length cb, .bool m, .slice c us.length cc, .slice d vs.length cd] 31)) 31 #[.bool n, .slice a2 xs.length ca2, .slice b2 ys.length cb2, .bool m, .slice c2 us.length cc2, .slice d2 vs.length cd2]
    rw [show (w.alloc (.cells #[.bool n, .slice a xs.length ca, .slice b ys.length cb, .bool m, .slice c us.length cc, .slice d vs.length cd] 31)).heap.size = w.heap.size + 1 by simp, hX] at h
    exact h
  have HK : Hid (∀ V, Below X.heap.size X V → (V.cell? ⟨w.heap.size, 0, none⟩ = some (.bool n) ∧ V.cell? ⟨w.heap.size, 1, none⟩ = some (.slice a xs.length ca) ∧ V.cell? ⟨w.heap.size, 2, none⟩ = some (.slice b ys.length cb) ∧ V.cell? ⟨w.heap.size, 3, none⟩ = some (.bool m) ∧ V.cell? ⟨w.heap.size, 4, none⟩ = some (.slice c us.length cc) ∧ V.cell? ⟨w.heap.size, 5, none⟩ = some (.slice d vs.length cd)) ∧ (V.cell? ⟨w.heap.size + 1, 0, none⟩ = some (.bool n) ∧ V.cell? ⟨w.heap.size + 1, 1, none⟩ = some (.slice a2 xs.length ca2) ∧ V.cell? ⟨w.heap.size + 1, 2, none⟩ = some (.slice b2 ys.length cb2) ∧ V.cell? ⟨w.heap.size + 1, 3, none⟩ = some (.bool m) ∧ V.cell? ⟨w.heap.size + 1, 4, none⟩ = some (.slice c2 us.length cc2) ∧ V.cell? ⟨w.heap.size + 1, 5, none⟩ = some (.slice d2 vs.length cd2))) := fun V hv => ⟨Kl6.of (HA.out.later hv HA.out.lt), Kl6.of (HZ.out.later hv HZ.out.lt)⟩
  have HL1 := hid (sameRatio_eq n _ _ _ _ xs ys X (sx.later b1) (sy.later b1) (sx2.later b1) (sy2.later b1) lx ly)
  have HL2 := hid (fun V (hv : Below X.heap.size X V) => sameRatio_eq m _ _ _ _ us vs V ((su.later b1).later hv) ((sw.later b1).later hv) ((su2.later b1).later hv) ((sw2.later b1).later hv) lu lv)
  have HB1 := hid b1
  obtain ⟨⟨e0, e1, e2, e3, e4, e5⟩, ⟨i0, i1, i2, i3, i4, i5⟩⟩ := HK.out X (Below.refl _ _)
  clear sx sy su sw sx2 sy2 su2 sw2 b1 lx ly lu lv HA HZ
  go_enter Tryz.func23, Tryz.ntmps23
  go_wp2_with fail
  clear hX
  refine Calls.mono HL1.out ?_
  rintro e w1 ⟨rfl, hb1⟩
  have HL3 := hid (HL2.out w1 hb1)
  have HB2 := hid (bt HB1.out hb1)
  clear e0 e1 e2 e3 e4 e5 i0 i1 i2 i3 i4 i5 HL1 HL2
  obtain ⟨⟨e0, e1, e2, e3, e4, e5⟩, ⟨i0, i1, i2, i3, i4, i5⟩⟩ := HK.out w1 hb1
  clear hb1
  go_wp2_with fail
  refine Calls.mono HL3.out ?_
  rintro e w2 ⟨rfl, hb2⟩
  have HBN := hid (bt HB2.out hb2)
  clear HL3 hb2 e0 e1 e2 e3 e4 e5 i0 i1 i2 i3 i4 i5
  go_wp2_with fail
  go_ret
  exact ⟨rfl, HBN.out⟩

end Go.Proofs.YtcjfbmehibhkbaaGreatDoor

/- Complex fractions: what is told with all rows apart; gauss.Conj; the document's Check: apart from the texts of numbers. (tools/mkgp0.py) -/
namespace Go.Proofs.YtcjfbmehibhkbaaGreatDoor
open Go.RowKit
set_option linter.unusedVariables false

/-- A complex fraction told in new memory, all four rows apart. -/
def KToldC (w : World) (E : Int) (L : Prop) (q1 q2 : Rat) (x : Ending) (w' : World) : Prop :=
  ∃ n a ca xs b cb ys m c cc us d cd vs code, x = .returned (.tuple #[.agg #[.bool n, .slice a (List.length xs) ca, .slice b (List.length ys) cb, .bool m, .slice c (List.length us) cc, .slice d (List.length vs) cd], .int .i64 code]) ∧ (w'.ownsRow w.heap.size 38 1 (.slice a xs.length ca) xs.length (xs.map (Value.int .u32)) ∧ w'.ownsRow w.heap.size 38 1 (.slice b ys.length cb) ys.length (ys.map (Value.int .u32)) ∧ w'.ownsRow w.heap.size 38 1 (.slice c us.length cc) us.length (us.map (Value.int .u32)) ∧ w'.ownsRow w.heap.size 38 1 (.slice d vs.length cd) vs.length (vs.map (Value.int .u32))) ∧ GTells E L q1 q2 n xs ys m us vs code ∧ Below w.heap.size w w' ∧ ∃ W1, Cut w (.slice a xs.length ca) (.slice b ys.length cb) W1 ∧ Cut W1 (.slice c us.length cc) (.slice d vs.length cd) w'
theorem KToldC.told {w w' : World} {E : Int} {L : Prop} {q1 q2 : Rat} {x : Ending} (h : KToldC w E L q1 q2 x w') : GTold w E L q1 q2 x w' := by
  obtain ⟨n, a, ca, xs, b, cb, ys, m, c, cc, us, d, cd, vs, code, e, o, t, hb, _⟩ := h
  exact ⟨n, a, ca, xs, b, cb, ys, m, c, cc, us, d, cd, vs, code, e, o, t, hb⟩
end Go.Proofs.YtcjfbmehibhkbaaGreatDoor

/- A box of six cells that is stored into whole. -/
namespace Go.Proofs.YtcjfbmehibhkbaaGreatDoor
open Go.RowKit
set_option linter.unusedVariables false

end Go.Proofs.YtcjfbmehibhkbaaGreatDoor

/- Complex fractions, the laws' own: frac; two fractions, two complex fractions with the same words. -/
namespace Go.Proofs.YtcjfbmehibhkbaaGreatDoor
open Go.RowKit
set_option linter.unusedVariables false

set_option maxHeartbeats 1600000 in
set_option maxRecDepth 100000 in
theorem gsameRatio_eq (n : Bool) (v u v' u' : Value) (xs ys : List Int) (w : World) (h : Sl w v xs) (g : Sl w u ys) (h' : Sl w v' xs) (g' : Sl w u' ys) (lx : xs.length ≤ 281474976710656) (ly : ys.length ≤ 281474976710656) :
    Calls Tryz.prog 34 #[.agg #[.bool n, v, u], .agg #[.bool n, v', u']] w fun e w' => e = .returned (.bool true) ∧ Below w.heap.size w w' := by
  have HB : Hid (Below w.heap.size w ((w.alloc (.cells #[.bool n, v, u] 29)).alloc (.cells #[.bool n, v', u'] 29))) := bt (alloc_later _ _) (alloc_later _ _)
  have HN : Hid (Box ((w.alloc (.cells #[.bool n, v, u] 29)).alloc (.cells #[.bool n, v', u'] 29)) w.heap.size 29 #[.bool n, v, u]) := Box.later (Box.made w _ _) (alloc_later _ _) (by simp)
  have HM : Hid (Box ((w.alloc (.cells #[.bool n, v, u] 29)).alloc (.cells #[.bool n, v', u'] 29)) (w.heap.size + 1) 29 #[.bool n, v', u']) := by
    have e := Box.made (w.alloc (.cells #[.bool n, v, u] 29)) 29 #[.bool n, v', u']
    simp at e
    exact e
  have H1 := hid (same_sl v v' xs xs _ (h.later HB.out) (h'.later HB.out) lx lx)
  rw [decide_eq_true rfl] at H1
  have H2 := hid (fun ww (hb : Below _ ((w.alloc (.cells #[.bool n, v, u] 29)).alloc (.cells #[.bool n, v', u'] 29)) ww) => same_sl u u' ys ys ww ((g.later HB.out).later hb) ((g'.later HB.out).later hb) ly ly)
  rw [decide_eq_true rfl] at H2
  have hbb : (n == n) = true := by simp
  obtain ⟨a, ca, rfl, hr⟩ := h
  obtain ⟨b, cb, rfl, gr⟩ := g
  obtain ⟨a', ca', rfl, hr'⟩ := h'
  obtain ⟨b', cb', rfl, gr'⟩ := g'
  clear hr gr hr' gr'
  go_enter Tryz.func34, Tryz.ntmps34
  go_wp2_with fail
  refine Calls.mono H1.out ?_
  generalize ((w.alloc (.cells #[.bool n, .slice a xs.length ca, .slice b ys.length cb] 29)).alloc (.cells #[.bool n, .slice a' xs.length ca', .slice b' ys.length cb'] 29)) = X at *
  rintro e w1 ⟨rfl, hb1⟩
  obtain ⟨p0, p1, p2, _, _, _⟩ := res_box3 HN.out hb1
  obtain ⟨q0, q1, q2, _, _, _⟩ := res_box3 HM.out hb1
  have HC := hid (H2.out w1 hb1)
  have HB1 := hid (bt HB.out hb1)
  clear hb1 H1 H2
  go_wp2_with fail
  refine Calls.mono HC.out ?_
  rintro e w2 ⟨rfl, hb2⟩
  have HBN := hid (bt HB1.out hb2)
  clear hb2 HC
  go_wp2_with fail
  go_ret
  exact ⟨rfl, HBN.out⟩
end Go.Proofs.YtcjfbmehibhkbaaGreatDoor

/- Two complex fractions with the same words: slackwaterkit.SameGauss. -/
namespace Go.Proofs.YtcjfbmehibhkbaaGreatDoor
open Go.RowKit
set_option linter.unusedVariables false

set_option maxHeartbeats 1600000 in
set_option maxRecDepth 100000 in
theorem gsameGauss_eq (n : Bool) (a : Option Addr) (ca : Nat) (xs : List Int) (b : Option Addr) (cb : Nat) (ys : List Int) (m : Bool) (c : Option Addr) (cc : Nat) (us : List Int) (d : Option Addr) (cd : Nat) (vs : List Int) (a2 : Option Addr) (ca2 : Nat) (b2 : Option Addr) (cb2 : Nat) (c2 : Option Addr) (cc2 : Nat) (d2 : Option Addr) (cd2 : Nat) (w : World) (sx : Sl w (.slice a xs.length ca) xs) (sy : Sl w (.slice b ys.length cb) ys) (su : Sl w (.slice c us.length cc) us) (sv : Sl w (.slice d vs.length cd) vs) (sx2 : Sl w (.slice a2 xs.length ca2) xs) (sy2 : Sl w (.slice b2 ys.length cb2) ys) (su2 : Sl w (.slice c2 us.length cc2) us) (sv2 : Sl w (.slice d2 vs.length cd2) vs) (lx : xs.length ≤ 281474976710656) (ly : ys.length ≤ 281474976710656) (lu : us.length ≤ 281474976710656) (lv : vs.length ≤ 281474976710656) :
    Calls Tryz.prog 23 #[.agg #[.bool n, .slice a xs.length ca, .slice b ys.length cb, .bool m, .slice c us.length cc, .slice d vs.length cd], .agg #[.bool n, .slice a2 xs.length ca2, .slice b2 ys.length cb2, .bool m, .slice c2 us.length cc2, .slice d2 vs.length cd2]] w fun x w' => x = .returned (.bool true) ∧ Below w.heap.size w w' := by
  have HX := hid (boxes2m w 31 31 #[.bool n, .slice a xs.length ca, .slice b ys.length cb, .bool m, .slice c us.length cc, .slice d vs.length cd] #[.bool n, .slice a2 xs.length ca2, .slice b2 ys.length cb2, .bool m, .slice c2 us.length cc2, .slice d2 vs.length cd2])
  obtain ⟨X, hX⟩ : ∃ X, (w.alloc (.cells #[.bool n, .slice a xs.length ca, .slice b ys.length cb, .bool m, .slice c us.length cc, .slice d vs.length cd] 31)).alloc (.cells #[.bool n, .slice a2 xs.length ca2, .slice b2 ys.length cb2, .bool m, .slice c2 us.length cc2, .slice d2 vs.length cd2] 31) = X := ⟨_, rfl⟩
  rw [hX] at HX
  have H1 := hid (gsameRatio_eq n _ _ _ _ xs ys X (sx.later HX.out.2.2) (sy.later HX.out.2.2) (sx2.later HX.out.2.2) (sy2.later HX.out.2.2) lx ly)
  have H2 : Hid (∀ V, Below w.heap.size w V → Calls Tryz.prog 34 #[.agg #[.bool m, .slice c us.length cc, .slice d vs.length cd], .agg #[.bool m, .slice c2 us.length cc2, .slice d2 vs.length cd2]] V fun e w' => e = .returned (.bool true) ∧ Below V.heap.size V w') := fun V hv => gsameRatio_eq m _ _ _ _ us vs V (su.later hv) (sv.later hv) (su2.later hv) (sv2.later hv) lu lv
  clear sx sy su sv sx2 sy2 su2 sv2 lx ly lu lv
  obtain ⟨k0, k1, k2, k3, k4, k5⟩ := cells6 HX.out.1
  obtain ⟨m0, m1, m2, m3, m4, m5⟩ := cells6 HX.out.2.1
  go_enter Tryz.func23, Tryz.ntmps23
  go_wp2_with fail
  refine Calls.mono H1.out ?_
  rintro e w1 ⟨rfl, hb1⟩
  have HW1 := hid (bt HX.out.2.2 hb1)
  have HA1 := hid (HX.out.1.later hb1 HX.out.1.lt)
  have HA2 := hid (HX.out.2.1.later hb1 HX.out.2.1.lt)
  clear hb1 H1 k0 k1 k2 k3 k4 k5 m0 m1 m2 m3 m4 m5
  obtain ⟨k0, k1, k2, k3, k4, k5⟩ := cells6 HA1.out
  obtain ⟨m0, m1, m2, m3, m4, m5⟩ := cells6 HA2.out
  go_wp2_with fail
  refine Calls.mono (H2.out _ HW1.out) ?_
  rintro e w2 ⟨rfl, hb2⟩
  have HW2 := hid (bt HW1.out hb2)
  clear hb2 H2
  go_wp2_with fail
  go_ret
  exact ⟨rfl, HW2.out⟩
end Go.Proofs.YtcjfbmehibhkbaaGreatDoor

/- Whole numbers: whole.Compare, Abs: of every two numbers whose words can be read. -/
namespace Go.Proofs.YtcjfbmehibhkbaaGreatDoor
open Go.RowKit
set_option linter.unusedVariables false

end Go.Proofs.YtcjfbmehibhkbaaGreatDoor

/- Whole numbers: whole.power, Power: powers of every number, or the error. -/
namespace Go.Proofs.YtcjfbmehibhkbaaGreatDoor
open Go.RowKit
set_option linter.unusedVariables false

theorem WTells.tooLong {t : Int} (h : wlim ≤ t ∨ t ≤ -wlim) : WTells 0 t false [] 3 := ⟨Wd.nil, Trimmed.nil, .inl rfl, by simp, fun h' => absurd rfl h', fun _ _ => ⟨rfl, rfl, rfl⟩, fun _ h1 h2 => by rcases h with h | h <;> omega⟩
theorem WTells.is {t : Int} {n : Bool} {zs : List Int} (hw : Wd zs) (hk : wchk n zs = 0) (hv : wval n zs = t) : WTells 0 t n zs 0 := by
  obtain ⟨l, tt, s⟩ := wchk_ok hk
  have hb := below2048 hw l
  have h0 := val_nonneg hw
  refine ⟨hw, tt, s, l, fun h' => absurd rfl h', fun _ h1 => ?_, fun _ _ _ => ⟨rfl, hv⟩⟩
  exfalso
  rw [← hv] at h1
  cases n <;> simp [wval] at h1 <;> omega

end Go.Proofs.YtcjfbmehibhkbaaGreatDoor

/- Whole numbers: whole.Sub; slackwaterlaw02.add, mul, same: of numbers that may be. -/
namespace Go.Proofs.YtcjfbmehibhkbaaGreatDoor
open Go.RowKit
set_option linter.unusedVariables false

end Go.Proofs.YtcjfbmehibhkbaaGreatDoor

/- Whole numbers: the errors of the program's calls, Neg, Sign; the document's told, both, Opposite, Neg, Abs, and the errors of its Add, Sub, Mul, Gcd. -/
namespace Go.Proofs.YtcjfbmehibhkbaaGreatDoor
open Go.RowKit
set_option linter.unusedVariables false

end Go.Proofs.YtcjfbmehibhkbaaGreatDoor

/- The document's own whole numbers: Plus, Less: of any length. -/
namespace Go.Proofs.YtcjfbmehibhkbaaGreatDoor
open Go.RowKit
set_option linter.unusedVariables false

end Go.Proofs.YtcjfbmehibhkbaaGreatDoor

/- The document's own whole numbers: Less, of any length; Add, Sub, Mul: of numbers that may be. -/
namespace Go.Proofs.YtcjfbmehibhkbaaGreatDoor
open Go.RowKit
set_option linter.unusedVariables false

end Go.Proofs.YtcjfbmehibhkbaaGreatDoor

/- Whole numbers of the document's, each one letter's worth: its row is the call's own; in a box; what the document's sums and products tell of them. -/
namespace Go.Proofs.YtcjfbmehibhkbaaGreatDoor
open Go.RowKit
set_option linter.unusedVariables false

/-- A whole number that stands. -/
def DW (V : World) (n : Bool) (a : Option Addr) (k c : Nat) (t : Int) : Prop := ∃ xs : List Int, k = xs.length ∧ V.ownsRow 0 38 1 (.slice a k c) k (xs.map (Value.int .u32)) ∧ Wd xs ∧ Trimmed xs ∧ (n = false ∨ 0 < k) ∧ wval n xs = t
theorem DW.later {V V' : World} {n : Bool} {a : Option Addr} {k c : Nat} {t : Int} (h : DW V n a k c t) (hb : Below V.heap.size V V') : DW V' n a k c t := by
  obtain ⟨xs, h1, h2, h3⟩ := h
  exact ⟨xs, h1, owns_later h2 hb, h3⟩
theorem DW.drew {V : World} {n : Bool} {a : Option Addr} {k c : Nat} {t : Int} (h : DW V n a k c t) : DW V.drew n a k c t := h
/-- How great a number may be here: of at most 3000 words. -/
def dlim (L : Nat) : Nat := 4294967296 ^ L
theorem DW.len {V : World} {n : Bool} {a : Option Addr} {k c : Nat} {t : Int} (h : DW V n a k c t) {L : Nat} (hL : t.natAbs < dlim L) : k ≤ L := by
  obtain ⟨xs, rfl, _, hw, ht, _, hv⟩ := h
  refine len_of_lt hw ht ?_
  have h0 := val_nonneg hw
  have e : val xs = (t.natAbs : Int) := by
    subst hv
    unfold wval
    cases n <;> simp <;> omega
  rw [e]
  unfold dlim at hL
  have q := Int.ofNat_lt.2 hL
  rw [Int.natCast_pow] at q
  exact q
/-- A number in its box. -/
def NB (V : World) (b : Nat) (t : Int) : Prop := ∃ n a k c, Box V b 78 #[.bool n, .slice a k c] ∧ DW V n a k c t
theorem NB.later {V V' : World} {b : Nat} {t : Int} (h : NB V b t) (hb : Below V.heap.size V V') : NB V' b t := by
  obtain ⟨n, a, k, c, h1, h2⟩ := h
  exact ⟨n, a, k, c, h1.later hb h1.lt, h2.later hb⟩
theorem NB.lt {V : World} {b : Nat} {t : Int} (h : NB V b t) : b < V.heap.size := by
  obtain ⟨n, a, k, c, h1, h2⟩ := h
  exact h1.lt
/-- A store into a box of two cells: the numbers in other boxes stay, and those that stand by themselves. -/
theorem DW.put {V : World} {n : Bool} {a : Option Addr} {k c : Nat} {t : Int} (h : DW V n a k c t) {b : Nat} {vs : Array Value} (hb : Box V b 78 vs) (v0 v1 : Value) : DW ((V.setCell ⟨b, 0, none⟩ v0).setCell ⟨b, 1, none⟩ v1) n a k c t := by
  obtain ⟨xs, h1, h2, h3⟩ := h
  exact ⟨xs, h1, own_put2 h2 b (own_ne_box h2 hb (by decide)) _ _, h3⟩
theorem NB.put {V : World} {b b' : Nat} {t : Int} (h : NB V b t) {vs : Array Value} (hb : Box V b' 78 vs) (hne : b ≠ b') (v0 v1 : Value) : NB ((V.setCell ⟨b', 0, none⟩ v0).setCell ⟨b', 1, none⟩ v1) b t := by
  obtain ⟨n, a, k, c, h1, h2⟩ := h
  exact ⟨n, a, k, c, h1.far2 hne _ _, h2.put hb _ _⟩
theorem NB.set {V : World} {b : Nat} {t : Int} {u0 u1 : Value} (hb : Box V b 78 #[u0, u1]) {n : Bool} {a : Option Addr} {k c : Nat} (h : DW V n a k c t) : NB ((V.setCell ⟨b, 0, none⟩ (.bool n)).setCell ⟨b, 1, none⟩ (.slice a k c)) b t :=
  ⟨n, a, k, c, hb.put2 _ _, h.put hb _ _⟩
theorem NB.made {V : World} {n : Bool} {a : Option Addr} {k c : Nat} {t : Int} (h : DW V n a k c t) : NB (V.alloc (.cells #[.bool n, .slice a k c] 78)) V.heap.size t := ⟨n, a, k, c, Box.made V _ _, h.later (alloc_later V _)⟩
end Go.Proofs.YtcjfbmehibhkbaaGreatDoor

/- The statements of the document's Power that draw their order, for whatever follows. (tools/mkrp8.py) -/
namespace Go.Proofs.YtcjfbmehibhkbaaGreatDoor
open Go.RowKit
set_option linter.unusedVariables false
set_option linter.unusedSimpArgs false

end Go.Proofs.YtcjfbmehibhkbaaGreatDoor

/- The document's answers of package rotor: part, the fraction of two whole numbers in its one form. -/
namespace Go.Proofs.YtcjfbmehibhkbaaGreatDoor
open Go.RowKit
set_option linter.unusedVariables false
set_option linter.unusedSimpArgs false

end Go.Proofs.YtcjfbmehibhkbaaGreatDoor

/- Fractions: ratio.compareSizes, Compare: of any fractions, good or refused. -/
namespace Go.Proofs.YtcjfbmehibhkbaaGreatDoor
open Go.RowKit
set_option linter.unusedVariables false

end Go.Proofs.YtcjfbmehibhkbaaGreatDoor

/- Fractions: ratio.Floor: of any fraction, good or refused. -/
namespace Go.Proofs.YtcjfbmehibhkbaaGreatDoor
open Go.RowKit
set_option linter.unusedVariables false

end Go.Proofs.YtcjfbmehibhkbaaGreatDoor

/- nat.split tells a number's pieces of nine digits, the lowest first, in new memory. -/
namespace Go.Proofs.YtcjfbmehibhkbaaGreatDoor
open Go.RowKit
set_option linter.unusedVariables false

/-- The value of pieces of nine digits. -/
def pval : List Int → Int
  | [] => 0
  | p :: ps => p + pval ps * 1000000000
theorem pval_snoc : ∀ (ps : List Int) (p : Int), pval (ps ++ [p]) = pval ps + p * 1000000000 ^ ps.length
  | [], p => by simp [pval]
  | q :: ps, p => by
    show q + pval (ps ++ [p]) * 1000000000 = q + pval ps * 1000000000 + p * 1000000000 ^ (ps.length + 1)
    rw [pval_snoc ps p, Int.add_mul, Int.pow_succ, ← Int.mul_assoc, Int.add_assoc]
/-- Each number is a piece of nine digits. -/
def Pc (ps : List Int) : Prop := ∀ p ∈ ps, 0 ≤ p ∧ p < 1000000000
theorem Pc.snoc {ps : List Int} (h : Pc ps) {p : Int} (h0 : 0 ≤ p ∧ p < 1000000000) : Pc (ps ++ [p]) := fun q hq => by
  rcases List.mem_append.1 hq with hq | hq
  · exact h q hq
  · simp at hq; rw [hq]; exact h0
theorem Pc.at {ps : List Int} (h : Pc ps) (j : Nat) : 0 ≤ ps[j]?.getD 0 ∧ ps[j]?.getD 0 < 1000000000 := by
  by_cases hj : j < ps.length
  · rw [List.getElem?_eq_getElem hj]; exact h _ (List.getElem_mem hj)
  · rw [List.getElem?_eq_none (by omega)]; exact ⟨by decide, by decide⟩
theorem pval_nonneg {ps : List Int} (h : Pc ps) : 0 ≤ pval ps := by
  induction ps with
  | nil => exact Int.le_refl _
  | cons p ps ih =>
    have h1 := h p List.mem_cons_self
    have h2 := ih (fun q hq => h q (List.mem_cons_of_mem _ hq))
    show 0 ≤ p + pval ps * 1000000000
    omega

/-- So many pieces a number of at most 8,192 words has. -/
theorem pieces_few (xs ps : List Int) (v : Int) (K : Nat) (hx : Wd xs) (hl : xs.length ≤ K) (hp : Pc ps) (hv : 1 ≤ v) (h : val xs = pval ps + v * 1000000000 ^ ps.length) : 29 * ps.length < 32 * K := by
  have h1 := val_lt hx
  have h2 : (4294967296 : Int) ^ xs.length ≤ 4294967296 ^ K := pw_le hl
  have h3 := pval_nonneg hp
  have h4 : (0 : Int) < 1000000000 ^ ps.length := Int.pow_pos (by decide)
  have h5 : 1 * (1000000000 : Int) ^ ps.length ≤ v * 1000000000 ^ ps.length := Int.mul_le_mul_of_nonneg_right hv (Int.le_of_lt h4)
  have h6 : (1000000000 : Int) ^ ps.length < 4294967296 ^ K := by omega
  have h7 : (1000000000 : Nat) ^ ps.length < 4294967296 ^ K := by
    refine Int.ofNat_lt.1 ?_
    rw [Int.natCast_pow, Int.natCast_pow]
    exact h6
  have h8 : (2 ^ 29 : Nat) ^ ps.length ≤ 1000000000 ^ ps.length := Nat.pow_le_pow_left (by decide) _
  have h9 : (4294967296 : Nat) ^ K = 2 ^ (32 * K) := by rw [show (4294967296 : Nat) = 2 ^ 32 by decide, ← Nat.pow_mul]
  rw [h9] at h7
  rw [← Nat.pow_mul] at h8
  have h10 : 2 ^ (29 * ps.length) < 2 ^ (32 * K) := Nat.lt_of_le_of_lt h8 h7
  exact (Nat.pow_lt_pow_iff_right (a := 2) (by decide)).1 h10

theorem trimmed_zero {us : List Int} (hw : Wd us) (ht : Trimmed us) : us.length = 0 ↔ val us = 0 := by
  constructor
  · intro h
    rw [List.eq_nil_of_length_eq_zero h]; rfl
  · intro h
    have := trimmed_eq hw Wd.nil ht Trimmed.nil (by rw [h, val_nil])
    rw [this]; rfl

set_option maxHeartbeats 3200000 in
set_option maxRecDepth 100000 in
theorem split_any (v : Value) (xs : List Int) (w : World) (h : Sl w v xs) (hn : xs.length ≤ 8192) (hx : Trimmed xs) (hpos : 0 < xs.length) :
    Calls Tryz.prog 52 #[v] w fun e w' => ∃ (vp : Value) (ps : List Int), e = .returned vp ∧ w'.ownsRow w.heap.size 38 1 vp ps.length (ps.map (Value.int .u32)) ∧ Pc ps ∧ pval ps = val xs ∧ 0 < ps.length ∧ ps.length ≤ 9040 ∧ 0 < ps[ps.length - 1]?.getD 0 ∧ Below w.heap.size w w' := by
  obtain ⟨i0, hi, hz0, hz1, hz2⟩ := info_parts Tryz.infoW
  have wx := h.wd
  have HX := hid hx
  clear hx
  go_enter Tryz.func52, Tryz.ntmps52
  go_wp2_with fail
  refine (trim_sl v xs w h (by omega)).mono ?_
  rintro e w1 ⟨vt, rfl, ot, hb1⟩
  rw [show sz xs = xs.length from HX.out, trimmed_of HX.out] at ot
  obtain ⟨gl, cl, hvl, hcl1, hcl2⟩ := own_shape' ot hpos
  rw [hvl] at ot ⊢
  have hgl := ot.lt gl rfl
  have hcl3 : cl ≤ 9223372036854775807 := by unfold maxLen at hcl2; omega
  clear hcl2 hvl h
  go_wp2_with fail
  go_loopg [3, 4] (val xs).toNat (fun k l p wr => ∃ (n : Nat) (us ps : List Int), l = .slice (some ⟨gl, 0, none⟩) n cl ∧ n ≤ xs.length ∧ OwnC wr w.heap.size gl n cl us ∧ Wd us ∧ Trimmed us ∧ Hid ((k : Int) = val us) ∧
    wr.ownsRow (gl + 1) 38 1 p ps.length (ps.map (Value.int .u32)) ∧ Pc ps ∧ Hid (val xs = pval ps + val us * 1000000000 ^ ps.length) ∧ ps.length ≤ 9040 ∧ Hid (n = 0 → 0 < ps.length ∧ 0 < ps[ps.length - 1]?.getD 0) ∧ Below w.heap.size w wr)
  case atStart => exact ⟨xs.length, xs, [], rfl, Nat.le_refl _, ot, wx, HX.out, show _ = _ by have := val_nonneg wx; omega, World.ownsRow_nil _ _ _ _, fun _ h => by simp at h, show _ = _ by simp [pval], by simp, fun e => by omega, hb1⟩
  case round =>
    obtain ⟨n, us, ps, rfl, hnx, ho, hwu, htu, HKK, hop, hpc, HV, hpl, HL, hb⟩ := hrel
    have hlu := ho.len
    rcases n with _ | n
    · have hu0 : us = [] := List.eq_nil_of_length_eq_zero hlu
      have HV' : Hid (pval ps = val xs) := by show _ = _; rw [HV.out, hu0, val_nil]; simp
      have HL' := hid (HL.out rfl)
      have HO' := hid (owns_base (base' := w.heap.size) hop (by omega))
      clear HV HL hop ho hu0 hlu HKK
      go_wp2_with fail
      go_ret
      exact ⟨_, ps, rfl, HO'.out, hpc, HV'.out, HL'.out.1, hpl, HL'.out.2, hb⟩
    · have hv1 : 1 ≤ val us := by
        have h0 := val_nonneg hwu
        have h1 := (trimmed_zero hwu htu)
        have : ¬ val us = 0 := fun e => by have := h1.2 e; omega
        omega
      have hfew : ps.length ≤ 9039 := by have := pieces_few xs ps (val us) 8192 wx hn hpc hv1 HV.out; omega
      have HW1 := hid hv1
      have HLU := hid hlu
      clear hv1 hlu
      go_wp2_with fail
      refine (divideByWord_any _ _ _ _ us 1000000000 wr ho hwu (by omega) ⟨by omega, by omega⟩).mono ?_
      rintro e w2 ⟨r, qs, rfl, r0, r1, oq, hwq, hvq, hg2⟩
      have hop2 := hop.kept hg2 (by
        cases e : u4.ownBlock with
        | none => exact .inl rfl
        | some g => right; intro e2; have := hop.lt g e; simp at e2; omega)
      have hgs := hg2.size
      have hgl2 : gl < w2.heap.size := (World.ownsRow.lt oq gl rfl).2
      have hbs := hb.size
      have hb2 : Below w.heap.size w w2 := hb.grown hg2 (by omega) (fun k hk => by simp at hk; omega)
      obtain ⟨R, hR⟩ : ∃ R, R = ps.map (Value.int .u32) := ⟨_, rfl⟩
      have HM : Hid ((ps ++ [r]).map (Value.int .u32) = R ++ [.int .u32 r]) := by show _ = _; rw [hR]; simp
      rw [← hR] at hop2
      have HOQ := hid oq
      have HVQ := hid hvq
      clear hR hop ho hg2 hb oq hvq
      go_wp2_with (at_builtin; refine wpList_append_own _ rfl _ _ 27 rfl (gl + 1) 38 i0 (.int .u32 0) 1 4 Tryz.underlying27 hi hz0 hz1 hz2 rfl (by decide) _ _ _ rfl (hop2.alloc _) ⟨w2.heap.size, 0, none⟩ 1 1 [.int .u32 r] rfl rfl (cell_one_new _ _ _) (by simp [Value.oneCell']) (by unfold maxLen; omega) (by omega) (by simp; omega) ?_)
      intro v3 w3 op3 hg3 _
      have hb3 : Below w.heap.size w w3 := (hb2.alloc (by omega) _).grown hg3 (by simp; omega) (fun g hg => by have := hop2.lt g hg; omega)
      have oq3 : OwnC w3 w.heap.size gl (n + 1) cl qs := by
        have := World.ownsRow.kept (World.ownsRow.alloc HOQ.out (.cells #[.int .u32 r] 38)) hg3 (by
          right
          intro e
          have := hop2.lt gl e.symm
          omega)
        exact this
      have sx := sz_le qs
      rw [oq3.len] at sx
      have hr3 : Reads w3 w3.heap.size (some ⟨gl, 0, none⟩) (n + 1) cl qs := by
        obtain ⟨a, cap, hv, hr⟩ := Reads.own oq3 hwq
        simp only [Value.slice.injEq] at hv
        obtain ⟨rfl, _, rfl⟩ := hv
        exact hr
      have HQ3 := hid (oq3.take (sz qs) sx)
      have HP3 := hid op3
      have HR3 := hid hr3
      have hc3 := oq3.cap
      have hc4 : cl ≤ 9223372036854775807 := hcl3
      clear hg3 op3 oq3 hr3 hop2 hc3
      go_wp2_with fail
      refine (size_any _ _ _ qs _ _ HR3.out (by omega)).mono ?_
      rintro e w4 ⟨rfl, rfl⟩
      have e1 : val us = val qs * 1000000000 + r := HVQ.out
      have HKK' : Hid (((val qs).toNat : Int) = val (trimmed qs)) := by show _ = _; rw [val_trimmed]; have := val_nonneg hwq; omega
      have HV' : Hid (val xs = pval (ps ++ [r]) + val (trimmed qs) * 1000000000 ^ (ps ++ [r]).length) := by
        show _ = _
        rw [val_trimmed, pval_snoc, HV.out, e1, List.length_append, List.length_singleton, Int.pow_succ, Int.add_mul, Int.mul_assoc, Int.mul_comm 1000000000 (1000000000 ^ ps.length), ← Int.mul_assoc]
        omega
      have HL' : Hid (sz qs = 0 → 0 < (ps ++ [r]).length ∧ 0 < (ps ++ [r])[(ps ++ [r]).length - 1]?.getD 0) := fun e0 => by
        refine ⟨by simp, ?_⟩
        have e2 : val qs = 0 := by rw [val_sz, e0]; rfl
        have := HW1.out
        simp
        omega
      have hless : (val qs).toNat < gk := by have := HKK.out; have := HW1.out; have := val_nonneg hwq; omega
      have HLS := hid hless
      have HPL : Hid ((ps ++ [r]).length ≤ 9040) := by show _ ≤ _; simp; omega
      have HPP : Hid (w3.ownsRow (gl + 1) 38 1 v3 (ps ++ [r]).length ((ps ++ [r]).map (Value.int .u32))) := by
        show World.ownsRow _ _ _ _ _ _ _
        rw [HM.out, List.length_append, List.length_singleton]
        exact HP3.out
      clear e1 hless HP3
      go_wp2_with fail
      go_roundg (val qs).toNat
      case measure => exact HLS.out
      case rel => exact ⟨sz qs, trimmed qs, ps ++ [r], rfl, by omega, HQ3.out, hwq.trimmed, Trimmed.trimmed _, HKK', HPP.out, hpc.snoc ⟨r0, r1⟩, HV', HPL.out, HL', hb3⟩
end Go.Proofs.YtcjfbmehibhkbaaGreatDoor

