/- My texts on the way to RotorCalls, one behind the other: contracts of the program and of the document's answers. -/
import Derived.Test.YtcfcjnlobpoglaaGreatJ1
import Derived.Test.YtcfcjnlobpoglaaGreatJ2
import Derived.Test.YtcfcjnlobpoglaaGreatJ3
import Derived.Test.YtcfcjnlobpoglaaGreatJ4
import Derived.WalkKit
import Derived.WalkLawsBesides
import Derived.WalkSpells
import Derived.Test.YtcfcjnlobpoglaaGreatChecked
import Derived.Handy
import Derived.Deep.RegionHeld3
import Derived.Deep.CutRange
import Derived.Deep.RegionLaw
import Derived.LoopN
import Derived.Laws.AppendOwnNone
/- Fractions: ratio.Make, ratio.Small. -/
namespace Go.Proofs.YtcfcjnlobpoglaaGreat
open Go.RowKit
set_option linter.unusedVariables false

set_option maxHeartbeats 3200000 in
set_option maxRecDepth 100000 in
theorem rmake_e1 (n : Bool) (a : Option Addr) (ca : Nat) (xs : List Int) (m : Bool) (b : Option Addr) (cb : Nat) (ys : List Int) (w : World) (h : Sl w (.slice a xs.length ca) xs) (g : Sl w (.slice b ys.length cb) ys) (lx : xs.length ≤ 281474976710656) (ly : ys.length ≤ 281474976710656) (hx : wchk n xs ≠ 0) (q : Rat) :
    Calls Tryz.prog 99 #[.agg #[.bool n, .slice a xs.length ca], .agg #[.bool m, .slice b ys.length cb]] w (RToldA w (wchk n xs) q) := by
  have HB : Hid (Below w.heap.size w (((w.alloc (.cells #[.bool n, .slice a xs.length ca] 59)).alloc (.cells #[.bool m, .slice b ys.length cb] 59)).alloc (.cells #[.bool false, .slice none 0 0, .slice none 0 0] 26))) := bt (bt (alloc_later _ _) (alloc_later _ _)) (alloc_later _ _)
  have HZ : Hid (Box (((w.alloc (.cells #[.bool n, .slice a xs.length ca] 59)).alloc (.cells #[.bool m, .slice b ys.length cb] 59)).alloc (.cells #[.bool false, .slice none 0 0, .slice none 0 0] 26)) (w.heap.size + 1 + 1) 26 #[.bool false, .slice none 0 0, .slice none 0 0]) := by
    have e := Box.made ((w.alloc (.cells #[.bool n, .slice a xs.length ca] 59)).alloc (.cells #[.bool m, .slice b ys.length cb] 59)) 26 #[.bool false, .slice none 0 0, .slice none 0 0]
    simp at e
    exact e
  have HN : Hid (Box (((w.alloc (.cells #[.bool n, .slice a xs.length ca] 59)).alloc (.cells #[.bool m, .slice b ys.length cb] 59)).alloc (.cells #[.bool false, .slice none 0 0, .slice none 0 0] 26)) w.heap.size 59 #[.bool n, .slice a xs.length ca]) := Box.later (Box.later (Box.made w _ _) (alloc_later _ _) (by simp)) (alloc_later _ _) (by simp; omega)
  have HM : Hid (Box (((w.alloc (.cells #[.bool n, .slice a xs.length ca] 59)).alloc (.cells #[.bool m, .slice b ys.length cb] 59)).alloc (.cells #[.bool false, .slice none 0 0, .slice none 0 0] 26)) (w.heap.size + 1) 59 #[.bool m, .slice b ys.length cb]) := by
    have e := Box.later (Box.made (w.alloc (.cells #[.bool n, .slice a xs.length ca] 59)) 59 #[.bool m, .slice b ys.length cb]) (alloc_later ((w.alloc (.cells #[.bool n, .slice a xs.length ca] 59)).alloc (.cells #[.bool m, .slice b ys.length cb] 59)) (.cells #[.bool false, .slice none 0 0, .slice none 0 0] 26)) (by simp)
    simp at e
    exact e
  have HS := hid (And.intro (h.later HB.out) (g.later HB.out))
  have HXS : Hid (w.heap.size + 1 + 1 < (((w.alloc (.cells #[.bool n, .slice a xs.length ca] 59)).alloc (.cells #[.bool m, .slice b ys.length cb] 59)).alloc (.cells #[.bool false, .slice none 0 0, .slice none 0 0] 26)).heap.size) := HZ.out.lt
  have HC1 := hid (wcheck_any n _ xs _ HS.out.1 lx)
  obtain ⟨e1, he1⟩ : ∃ e1, wchk n xs = e1 := ⟨_, rfl⟩
  rw [he1] at HC1 hx ⊢
  have hx' : (e1 == 0) = false := beq_eq_false_iff_ne.2 hx
  have HE := hid hx
  clear he1 hx
  clear h g
  go_enter Tryz.func99, Tryz.ntmps99
  go_wp2_with fail
  refine Calls.mono HC1.out ?_
  generalize (((w.alloc (.cells #[.bool n, .slice a xs.length ca] 59)).alloc (.cells #[.bool m, .slice b ys.length cb] 59)).alloc (.cells #[.bool false, .slice none 0 0, .slice none 0 0] 26)) = X at *
  rintro e w1 ⟨rfl, hb1⟩
  have HB1 := hid hb1
  clear hb1 HC1
  obtain ⟨y0, y1, y2, f0, f1, f2⟩ := res_box3 HZ.out HB1.out
  have HBN := hid (below_put3 (bt HB.out HB1.out) (w.heap.size + 1 + 1) (by omega) (.bool false) (.slice none 0 0) (.slice none 0 0))
  clear HN HM HZ HS
  go_wp2_with fail
  refine bodyPost_ret (v := .tuple #[.agg #[.bool false, .slice none 0 0, .slice none 0 0], .int .i64 e1]) (by simp [results, Tryz.results99, go_sem, y0, y1, y2]) rfl ?_
  exact ⟨false, _, [], _, [], _, rfl, World.ownsRow_nil _ _ _ _, World.ownsRow_nil _ _ _ _, RTells.err HE.out, HBN.out, ⟨w.heap.size, Nat.le_refl _, HBN.out.size, fun g hg => by simp [Value.ownBlock] at hg, fun g hg => by simp [Value.ownBlock] at hg⟩⟩

set_option maxHeartbeats 3200000 in
set_option maxRecDepth 100000 in
theorem rmake_e2 (n : Bool) (a : Option Addr) (ca : Nat) (xs : List Int) (m : Bool) (b : Option Addr) (cb : Nat) (ys : List Int) (w : World) (h : Sl w (.slice a xs.length ca) xs) (g : Sl w (.slice b ys.length cb) ys) (lx : xs.length ≤ 281474976710656) (ly : ys.length ≤ 281474976710656) (hx : wchk n xs = 0) (hy : wchk m ys ≠ 0) (q : Rat) :
    Calls Tryz.prog 99 #[.agg #[.bool n, .slice a xs.length ca], .agg #[.bool m, .slice b ys.length cb]] w (RToldA w (wchk m ys) q) := by
  have HB : Hid (Below w.heap.size w (((w.alloc (.cells #[.bool n, .slice a xs.length ca] 59)).alloc (.cells #[.bool m, .slice b ys.length cb] 59)).alloc (.cells #[.bool false, .slice none 0 0, .slice none 0 0] 26))) := bt (bt (alloc_later _ _) (alloc_later _ _)) (alloc_later _ _)
  have HZ : Hid (Box (((w.alloc (.cells #[.bool n, .slice a xs.length ca] 59)).alloc (.cells #[.bool m, .slice b ys.length cb] 59)).alloc (.cells #[.bool false, .slice none 0 0, .slice none 0 0] 26)) (w.heap.size + 1 + 1) 26 #[.bool false, .slice none 0 0, .slice none 0 0]) := by
    have e := Box.made ((w.alloc (.cells #[.bool n, .slice a xs.length ca] 59)).alloc (.cells #[.bool m, .slice b ys.length cb] 59)) 26 #[.bool false, .slice none 0 0, .slice none 0 0]
    simp at e
    exact e
  have HN : Hid (Box (((w.alloc (.cells #[.bool n, .slice a xs.length ca] 59)).alloc (.cells #[.bool m, .slice b ys.length cb] 59)).alloc (.cells #[.bool false, .slice none 0 0, .slice none 0 0] 26)) w.heap.size 59 #[.bool n, .slice a xs.length ca]) := Box.later (Box.later (Box.made w _ _) (alloc_later _ _) (by simp)) (alloc_later _ _) (by simp; omega)
  have HM : Hid (Box (((w.alloc (.cells #[.bool n, .slice a xs.length ca] 59)).alloc (.cells #[.bool m, .slice b ys.length cb] 59)).alloc (.cells #[.bool false, .slice none 0 0, .slice none 0 0] 26)) (w.heap.size + 1) 59 #[.bool m, .slice b ys.length cb]) := by
    have e := Box.later (Box.made (w.alloc (.cells #[.bool n, .slice a xs.length ca] 59)) 59 #[.bool m, .slice b ys.length cb]) (alloc_later ((w.alloc (.cells #[.bool n, .slice a xs.length ca] 59)).alloc (.cells #[.bool m, .slice b ys.length cb] 59)) (.cells #[.bool false, .slice none 0 0, .slice none 0 0] 26)) (by simp)
    simp at e
    exact e
  have HS := hid (And.intro (h.later HB.out) (g.later HB.out))
  have HXS : Hid (w.heap.size + 1 + 1 < (((w.alloc (.cells #[.bool n, .slice a xs.length ca] 59)).alloc (.cells #[.bool m, .slice b ys.length cb] 59)).alloc (.cells #[.bool false, .slice none 0 0, .slice none 0 0] 26)).heap.size) := HZ.out.lt
  have HC1 := hid (wcheck_any n _ xs _ HS.out.1 lx)
  rw [hx] at HC1
  obtain ⟨e1, he1⟩ : ∃ e1, wchk m ys = e1 := ⟨_, rfl⟩
  have HC2 := hid (fun ww (hb : Below _ (((w.alloc (.cells #[.bool n, .slice a xs.length ca] 59)).alloc (.cells #[.bool m, .slice b ys.length cb] 59)).alloc (.cells #[.bool false, .slice none 0 0, .slice none 0 0] 26)) ww) => wcheck_any m _ ys ww (HS.out.2.later hb) ly)
  rw [he1] at HC2 hy ⊢
  have hy' : (e1 == 0) = false := beq_eq_false_iff_ne.2 hy
  have HE := hid hy
  clear he1 hy hx
  clear h g
  go_enter Tryz.func99, Tryz.ntmps99
  go_wp2_with fail
  refine Calls.mono HC1.out ?_
  generalize (((w.alloc (.cells #[.bool n, .slice a xs.length ca] 59)).alloc (.cells #[.bool m, .slice b ys.length cb] 59)).alloc (.cells #[.bool false, .slice none 0 0, .slice none 0 0] 26)) = X at *
  rintro e w1 ⟨rfl, hb1⟩
  have HB1 := hid hb1
  clear hb1 HC1
  have HC := hid (HC2.out w1 HB1.out)
  obtain ⟨q0, q1, _, _⟩ := (HM.out.later HB1.out HM.out.lt).c2
  clear HC2
  go_wp2_with fail
  refine Calls.mono HC.out ?_
  rintro e w2 ⟨rfl, hb2⟩
  have HB2 := hid (bt HB1.out hb2)
  clear hb2 HC q0 q1
  obtain ⟨y0, y1, y2, f0, f1, f2⟩ := res_box3 HZ.out HB2.out
  have HBN := hid (below_put3 (bt HB.out HB2.out) (w.heap.size + 1 + 1) (by omega) (.bool false) (.slice none 0 0) (.slice none 0 0))
  clear HN HM HZ HS
  go_wp2_with fail
  refine bodyPost_ret (v := .tuple #[.agg #[.bool false, .slice none 0 0, .slice none 0 0], .int .i64 e1]) (by simp [results, Tryz.results99, go_sem, y0, y1, y2]) rfl ?_
  exact ⟨false, _, [], _, [], _, rfl, World.ownsRow_nil _ _ _ _, World.ownsRow_nil _ _ _ _, RTells.err HE.out, HBN.out, ⟨w.heap.size, Nat.le_refl _, HBN.out.size, fun g hg => by simp [Value.ownBlock] at hg, fun g hg => by simp [Value.ownBlock] at hg⟩⟩

set_option maxHeartbeats 3200000 in
set_option maxRecDepth 100000 in
theorem rmake_z (n : Bool) (a : Option Addr) (ca : Nat) (xs : List Int) (m : Bool) (b : Option Addr) (cb : Nat) (ys : List Int) (w : World) (h : Sl w (.slice a xs.length ca) xs) (g : Sl w (.slice b ys.length cb) ys) (lx : xs.length ≤ 281474976710656) (ly : ys.length ≤ 281474976710656) (hx : wchk n xs = 0) (hy : wchk m ys = 0) (h0 : ys.length = 0) (q : Rat) :
    Calls Tryz.prog 99 #[.agg #[.bool n, .slice a xs.length ca], .agg #[.bool m, .slice b ys.length cb]] w (RToldA w 7 q) := by
  have HB : Hid (Below w.heap.size w (((w.alloc (.cells #[.bool n, .slice a xs.length ca] 59)).alloc (.cells #[.bool m, .slice b ys.length cb] 59)).alloc (.cells #[.bool false, .slice none 0 0, .slice none 0 0] 26))) := bt (bt (alloc_later _ _) (alloc_later _ _)) (alloc_later _ _)
  have HZ : Hid (Box (((w.alloc (.cells #[.bool n, .slice a xs.length ca] 59)).alloc (.cells #[.bool m, .slice b ys.length cb] 59)).alloc (.cells #[.bool false, .slice none 0 0, .slice none 0 0] 26)) (w.heap.size + 1 + 1) 26 #[.bool false, .slice none 0 0, .slice none 0 0]) := by
    have e := Box.made ((w.alloc (.cells #[.bool n, .slice a xs.length ca] 59)).alloc (.cells #[.bool m, .slice b ys.length cb] 59)) 26 #[.bool false, .slice none 0 0, .slice none 0 0]
    simp at e
    exact e
  have HN : Hid (Box (((w.alloc (.cells #[.bool n, .slice a xs.length ca] 59)).alloc (.cells #[.bool m, .slice b ys.length cb] 59)).alloc (.cells #[.bool false, .slice none 0 0, .slice none 0 0] 26)) w.heap.size 59 #[.bool n, .slice a xs.length ca]) := Box.later (Box.later (Box.made w _ _) (alloc_later _ _) (by simp)) (alloc_later _ _) (by simp; omega)
  have HM : Hid (Box (((w.alloc (.cells #[.bool n, .slice a xs.length ca] 59)).alloc (.cells #[.bool m, .slice b ys.length cb] 59)).alloc (.cells #[.bool false, .slice none 0 0, .slice none 0 0] 26)) (w.heap.size + 1) 59 #[.bool m, .slice b ys.length cb]) := by
    have e := Box.later (Box.made (w.alloc (.cells #[.bool n, .slice a xs.length ca] 59)) 59 #[.bool m, .slice b ys.length cb]) (alloc_later ((w.alloc (.cells #[.bool n, .slice a xs.length ca] 59)).alloc (.cells #[.bool m, .slice b ys.length cb] 59)) (.cells #[.bool false, .slice none 0 0, .slice none 0 0] 26)) (by simp)
    simp at e
    exact e
  have HS := hid (And.intro (h.later HB.out) (g.later HB.out))
  have HXS : Hid (w.heap.size + 1 + 1 < (((w.alloc (.cells #[.bool n, .slice a xs.length ca] 59)).alloc (.cells #[.bool m, .slice b ys.length cb] 59)).alloc (.cells #[.bool false, .slice none 0 0, .slice none 0 0] 26)).heap.size) := HZ.out.lt
  have HC1 := hid (wcheck_any n _ xs _ HS.out.1 lx)
  rw [hx] at HC1
  have HC2 := hid (fun ww (hb : Below _ (((w.alloc (.cells #[.bool n, .slice a xs.length ca] 59)).alloc (.cells #[.bool m, .slice b ys.length cb] 59)).alloc (.cells #[.bool false, .slice none 0 0, .slice none 0 0] 26)) ww) => wcheck_any m _ ys ww (HS.out.2.later hb) ly)
  rw [hy] at HC2
  have h0' : ((ys.length : Int) == 0) = true := by rw [h0]; rfl
  have HE : Hid ((7 : Int) ≠ 0) := by show _ ≠ _; omega
  clear hx hy h0
  clear h g
  go_enter Tryz.func99, Tryz.ntmps99
  go_wp2_with fail
  refine Calls.mono HC1.out ?_
  generalize (((w.alloc (.cells #[.bool n, .slice a xs.length ca] 59)).alloc (.cells #[.bool m, .slice b ys.length cb] 59)).alloc (.cells #[.bool false, .slice none 0 0, .slice none 0 0] 26)) = X at *
  rintro e w1 ⟨rfl, hb1⟩
  have HB1 := hid hb1
  clear hb1 HC1
  have HC := hid (HC2.out w1 HB1.out)
  obtain ⟨q0, q1, _, _⟩ := (HM.out.later HB1.out HM.out.lt).c2
  clear HC2
  go_wp2_with fail
  refine Calls.mono HC.out ?_
  rintro e w2 ⟨rfl, hb2⟩
  have HB2 := hid (bt HB1.out hb2)
  clear hb2 HC q0 q1
  obtain ⟨q0, q1, _, _⟩ := (HM.out.later HB2.out HM.out.lt).c2
  obtain ⟨y0, y1, y2, f0, f1, f2⟩ := res_box3 HZ.out HB2.out
  have HBN := hid (below_put3 (bt HB.out HB2.out) (w.heap.size + 1 + 1) (by omega) (.bool false) (.slice none 0 0) (.slice none 0 0))
  clear HN HM HZ HS
  go_wp2_with fail
  refine bodyPost_ret (v := .tuple #[.agg #[.bool false, .slice none 0 0, .slice none 0 0], .int .i64 7]) (by simp [results, Tryz.results99, go_sem, y0, y1, y2]) rfl ?_
  exact ⟨false, _, [], _, [], _, rfl, World.ownsRow_nil _ _ _ _, World.ownsRow_nil _ _ _ _, RTells.err HE.out, HBN.out, ⟨w.heap.size, Nat.le_refl _, HBN.out.size, fun g hg => by simp [Value.ownBlock] at hg, fun g hg => by simp [Value.ownBlock] at hg⟩⟩

set_option maxHeartbeats 6400000 in
set_option maxRecDepth 100000 in
theorem rmake_ok (n : Bool) (a : Option Addr) (ca : Nat) (xs : List Int) (m : Bool) (b : Option Addr) (cb : Nat) (ys : List Int) (w : World) (h : Sl w (.slice a xs.length ca) xs) (g : Sl w (.slice b ys.length cb) ys) (lx : xs.length ≤ 281474976710656) (ly : ys.length ≤ 281474976710656) (hx : wchk n xs = 0) (hy : wchk m ys = 0) (h0 : 0 < ys.length) :
    Calls Tryz.prog 99 #[.agg #[.bool n, .slice a xs.length ca], .agg #[.bool m, .slice b ys.length cb]] w (RToldA w 0 (Rat.divInt (wval n xs) (wval m ys))) := by
  obtain ⟨kx, tx, _⟩ := wchk_ok hx
  obtain ⟨ky, ty, _⟩ := wchk_ok hy
  have wx := h.wd
  have wy := g.wd
  have HB : Hid (Below w.heap.size w (((w.alloc (.cells #[.bool n, .slice a xs.length ca] 59)).alloc (.cells #[.bool m, .slice b ys.length cb] 59)).alloc (.cells #[.bool false, .slice none 0 0, .slice none 0 0] 26))) := bt (bt (alloc_later _ _) (alloc_later _ _)) (alloc_later _ _)
  have HZ : Hid (Box (((w.alloc (.cells #[.bool n, .slice a xs.length ca] 59)).alloc (.cells #[.bool m, .slice b ys.length cb] 59)).alloc (.cells #[.bool false, .slice none 0 0, .slice none 0 0] 26)) (w.heap.size + 1 + 1) 26 #[.bool false, .slice none 0 0, .slice none 0 0]) := by
    have e := Box.made ((w.alloc (.cells #[.bool n, .slice a xs.length ca] 59)).alloc (.cells #[.bool m, .slice b ys.length cb] 59)) 26 #[.bool false, .slice none 0 0, .slice none 0 0]
    simp at e
    exact e
  have HN : Hid (Box (((w.alloc (.cells #[.bool n, .slice a xs.length ca] 59)).alloc (.cells #[.bool m, .slice b ys.length cb] 59)).alloc (.cells #[.bool false, .slice none 0 0, .slice none 0 0] 26)) w.heap.size 59 #[.bool n, .slice a xs.length ca]) := Box.later (Box.later (Box.made w _ _) (alloc_later _ _) (by simp)) (alloc_later _ _) (by simp; omega)
  have HM : Hid (Box (((w.alloc (.cells #[.bool n, .slice a xs.length ca] 59)).alloc (.cells #[.bool m, .slice b ys.length cb] 59)).alloc (.cells #[.bool false, .slice none 0 0, .slice none 0 0] 26)) (w.heap.size + 1) 59 #[.bool m, .slice b ys.length cb]) := by
    have e := Box.later (Box.made (w.alloc (.cells #[.bool n, .slice a xs.length ca] 59)) 59 #[.bool m, .slice b ys.length cb]) (alloc_later ((w.alloc (.cells #[.bool n, .slice a xs.length ca] 59)).alloc (.cells #[.bool m, .slice b ys.length cb] 59)) (.cells #[.bool false, .slice none 0 0, .slice none 0 0] 26)) (by simp)
    simp at e
    exact e
  have HS := hid (And.intro (h.later HB.out) (g.later HB.out))
  have HXS : Hid (w.heap.size + 1 + 1 < (((w.alloc (.cells #[.bool n, .slice a xs.length ca] 59)).alloc (.cells #[.bool m, .slice b ys.length cb] 59)).alloc (.cells #[.bool false, .slice none 0 0, .slice none 0 0] 26)).heap.size) := HZ.out.lt
  have HC1 := hid (wcheck_any n _ xs _ HS.out.1 lx)
  rw [hx] at HC1
  have HC2 := hid (fun ww (hb : Below _ (((w.alloc (.cells #[.bool n, .slice a xs.length ca] 59)).alloc (.cells #[.bool m, .slice b ys.length cb] 59)).alloc (.cells #[.bool false, .slice none 0 0, .slice none 0 0] 26)) ww) => wcheck_any m _ ys ww (HS.out.2.later hb) ly)
  rw [hy] at HC2
  have h0' : ((ys.length : Int) == 0) = false := beq_eq_false_iff_ne.2 (by omega)
  have HPY : Hid (0 < val ys) := by have := val_pos' wy ty h0; show _ < _; omega
  have HG : Hid (0 < gcdI (val xs) (val ys) ∧ gcdI (val xs) (val ys) ≤ val ys ∧ val ys < 4294967296 ^ 2048) := ⟨gcd_pos_right HPY.out, gcd_le_right HPY.out, below2048 wy ky⟩
  have HMP := hid (make_parts (n := n) (m := m) (val_nonneg wx) HPY.out)
  have HTT := hid (And.intro tx ty)
  obtain ⟨s, hs⟩ : ∃ s, (!(n == m)) = s := ⟨_, rfl⟩
  have HSG := hid (show (n != m) = s from hs)
  clear h g hx hy h0 tx ty
  go_enter Tryz.func99, Tryz.ntmps99
  go_wp2_with fail
  refine Calls.mono HC1.out ?_
  generalize (((w.alloc (.cells #[.bool n, .slice a xs.length ca] 59)).alloc (.cells #[.bool m, .slice b ys.length cb] 59)).alloc (.cells #[.bool false, .slice none 0 0, .slice none 0 0] 26)) = X at *
  rintro e w1 ⟨rfl, hb1⟩
  have HB1 := hid hb1
  clear hb1 HC1
  have HC := hid (HC2.out w1 HB1.out)
  obtain ⟨q0, q1, _, _⟩ := (HM.out.later HB1.out HM.out.lt).c2
  clear HC2
  go_wp2_with fail
  refine Calls.mono HC.out ?_
  rintro e w2 ⟨rfl, hb2⟩
  have HB2 := hid (bt HB1.out hb2)
  clear hb2 HC q0 q1
  have HK : Hid (∀ V, Below X.heap.size X V → V.cell? ⟨w.heap.size, 0, none⟩ = some (.bool n) ∧ V.cell? ⟨w.heap.size, 1, none⟩ = some (.slice a xs.length ca) ∧ V.cell? ⟨w.heap.size + 1, 0, none⟩ = some (.bool m) ∧ V.cell? ⟨w.heap.size + 1, 1, none⟩ = some (.slice b ys.length cb)) := fun V hb => by
    obtain ⟨p0, p1, _, _⟩ := (HN.out.later hb HN.out.lt).c2
    obtain ⟨q0, q1, _, _⟩ := (HM.out.later hb HM.out.lt).c2
    exact ⟨p0, p1, q0, q1⟩
  have HCM := hid (told1_at _ HK.out w2 HB2.out (rcommon_any _ _ xs ys w2 (HS.out.1.later HB2.out) (HS.out.2.later HB2.out) (by omega) (by omega) HTT.out.1 HTT.out.2))
  obtain ⟨p0, p1, q0, q1⟩ := HK.out w2 HB2.out
  go_wp2_with fail
  refine Calls.mono HCM.out ?_
  rintro e w3 ⟨a3, z3, c3, rfl, HE3, _, hb3, HS3⟩
  have hb3d := hb3.drew
  have HO3 := hid (HE3.out.later (Below.drew (Below.refl _ w3)))
  clear HCM HE3 HS3 p0 p1 q0 q1
  have hs0 := HK.out _ hb3d
  have HQX := hid (fun ww (hv' : Below X.heap.size X ww) (h : One X ww (.slice a3 z3.length c3) z3 (gcdI (val xs) (val ys))) => quot_in _ HK.out hv' (HS.out.1.later hv') (by omega) HTT.out.1 h HG.out.1 (by have := HG.out; omega))
  have HQY := hid (fun ww (hv' : Below X.heap.size X ww) (h : One X ww (.slice a3 z3.length c3) z3 (gcdI (val xs) (val ys))) => quot_in _ HK.out hv' (HS.out.2.later hv') (by omega) HTT.out.2 h HG.out.1 (by have := HG.out; omega))
  have HTL := hid (fun (ww : World) (hb : Below X.heap.size X ww) (a4 : Option Addr) (z4 : List Int) (c4 : Nat) (a5 : Option Addr) (z5 : List Int) (c5 : Nat) (g1 : One X ww (.slice a4 z4.length c4) z4 (val xs / gcdI (val xs) (val ys))) (g2 : One X ww (.slice a5 z5.length c5) z5 (val ys / gcdI (val xs) (val ys))) (hc : Cut X (.slice a4 z4.length c4) (.slice a5 z5.length c5) ww) => rtold_cut (n := s) (q := Rat.divInt (wval n xs) (wval m ys)) _ HK.out hb g1 g2 hc HMP.out.1 HMP.out.2.1 (by rw [← HSG.out]; exact HMP.out.2.2))
  have hq0 : w.heap.size + 1 + 1 ≠ w.heap.size := by omega
  have hq1 : w.heap.size + 1 + 1 ≠ w.heap.size + 1 := by omega
  clear HTT HG HPY
  go_wp2_with fail
  go_region_held3 (fun V : World => V.cell? ⟨w.heap.size, 0, none⟩ = some (.bool n) ∧ V.cell? ⟨w.heap.size, 1, none⟩ = some (.slice a xs.length ca) ∧ V.cell? ⟨w.heap.size + 1, 0, none⟩ = some (.bool m) ∧ V.cell? ⟨w.heap.size + 1, 1, none⟩ = some (.slice b ys.length cb)) (first | exact hs9 | exact hs5 | exact hs4 | exact hs0 | (simp [hs9, World.cell?_setCell_far, hq0]))
    (first
      | (go_at_call 109; with_reducible refine Calls.mono (HTL.out _ hb5 _ _ _ _ _ _ (HE4.out.1.later HS5.out) HE5.out.1 (cut_two hb3d.size HS4.out.size HS5.out.size HE4.out.2 HE5.out.2)) ?_; rintro e w9 ⟨k9, a8, z8, c8, a9, z9, c9, code, rfl, HE9, hs9, hb9⟩; obtain ⟨y0, y1, y2, f0, f1, f2⟩ := res_box3 HZ.out hb9)
      | (go_at_call 110; with_reducible refine Calls.mono (HQY.out _ hb4 (HO3.out.later HS4.out)) ?_; rintro e w5 ⟨a5, z5, c5, rfl, HE5, hs5, hb5, HS5⟩)
      | (go_at_call 110; with_reducible refine Calls.mono (HQX.out _ hb3d HO3.out) ?_; rintro e w4 ⟨a4, z4, c4, rfl, HE4, hs4, hb4, HS4⟩))
  all_goals
    have HBW := hid (bt HB.out hb9)
    have HR := hid HE9.out
    clear HK HQX HQY HTL HE4 HE5 HE9 HS4 HS5 HO3 hs0 hs4 hs5 hs9 hb3 hb3d hb4 hb5 hb9 HMP HSG
    go_wp2_with fail
    refine bodyPost_ret (v := .tuple #[.agg #[.bool k9, .slice a8 z8.length c8, .slice a9 z9.length c9], .int .i64 code]) (by simp [results, Tryz.results99, go_sem, y0, y1, y2]) rfl ?_
    exact RToldA.put HR.out (w.heap.size + 1 + 1) HXS.out (by omega) HBW.out _ _ _

theorem rmake_any (n : Bool) (a : Option Addr) (ca : Nat) (xs : List Int) (m : Bool) (b : Option Addr) (cb : Nat) (ys : List Int) (w : World) (h : Sl w (.slice a xs.length ca) xs) (g : Sl w (.slice b ys.length cb) ys) (lx : xs.length ≤ 281474976710656) (ly : ys.length ≤ 281474976710656) :
    Calls Tryz.prog 99 #[.agg #[.bool n, .slice a xs.length ca], .agg #[.bool m, .slice b ys.length cb]] w (RToldA w (mkErr n xs m ys) (Rat.divInt (wval n xs) (wval m ys))) := by
  unfold mkErr
  by_cases hb : wboth n xs m ys = 0
  · obtain ⟨hx, hy⟩ := wboth_ok hb
    rw [if_pos hb]
    by_cases h0 : ys.length = 0
    · rw [if_pos h0]
      exact rmake_z n a ca xs m b cb ys w h g lx ly hx hy h0 _
    · rw [if_neg h0]
      exact rmake_ok n a ca xs m b cb ys w h g lx ly hx hy (by omega)
  · rw [if_neg hb]
    unfold wboth at hb ⊢
    by_cases hx : wchk n xs = 0
    · rw [if_pos hx] at hb ⊢
      exact rmake_e2 n a ca xs m b cb ys w h g lx ly hx hb _
    · rw [if_neg hx]
      exact rmake_e1 n a ca xs m b cb ys w h g lx ly hx _
end Go.Proofs.YtcfcjnlobpoglaaGreat

/- Fractions: ratio.Small. -/
namespace Go.Proofs.YtcfcjnlobpoglaaGreat
open Go.RowKit
set_option linter.unusedVariables false

theorem small_err {n m : Bool} {zs us : List Int} {y : Int} (l1 : zs.length ≤ 2) (t1 : Trimmed zs) (s1 : n = false ∨ 0 < zs.length) (w2 : Wd us) (l2 : us.length ≤ 2) (t2 : Trimmed us) (s2 : m = false ∨ 0 < us.length) (v2 : wval m us = y) : mkErr n zs m us = if y = 0 then 7 else 0 := by
  unfold mkErr
  rw [wboth_good (wchk_good (by omega) t1 s1) (wchk_good (by omega) t2 s2), if_pos rfl]
  by_cases c : us.length = 0
  · have e0 : val us = 0 := trimmed_zero' c
    have : y = 0 := by rw [← v2]; cases m <;> simp [wval, e0]
    rw [if_pos c, if_pos this]
  · have e0 := val_pos' w2 t2 (by omega)
    have : ¬ y = 0 := by rw [← v2]; cases m <;> simp [wval] <;> omega
    rw [if_neg c, if_neg this]

set_option maxHeartbeats 1600000 in
set_option maxRecDepth 100000 in
theorem rsmall_any (x y : Int) (w : World) (x0 : -9223372036854775808 ≤ x) (x1 : x ≤ 9223372036854775807) (y0 : -9223372036854775808 ≤ y) (y1 : y ≤ 9223372036854775807) :
    Calls Tryz.prog 92 #[.int .i64 x, .int .i64 y] w (RToldA w (if y = 0 then 7 else 0) (Rat.divInt x y)) := by
  have HB : Hid (Below w.heap.size w (w.alloc (.cells #[.bool false, .slice none 0 0, .slice none 0 0] 26))) := alloc_later _ _
  have HZ : Hid (Box (w.alloc (.cells #[.bool false, .slice none 0 0, .slice none 0 0] 26)) w.heap.size 26 #[.bool false, .slice none 0 0, .slice none 0 0]) := Box.made w _ _
  have HO1 := hid (wof_any x (w.alloc (.cells #[.bool false, .slice none 0 0, .slice none 0 0] 26)) x0 x1)
  obtain ⟨E, hE⟩ : ∃ E : Int, (if y = 0 then (7 : Int) else 0) = E := ⟨_, rfl⟩
  rw [hE]
  have HE := hid hE
  clear hE
  go_enter Tryz.func92, Tryz.ntmps92
  go_wp2_with fail
  refine Calls.mono HO1.out ?_
  generalize (w.alloc (.cells #[.bool false, .slice none 0 0, .slice none 0 0] 26)) = X at *
  rintro e w1 ⟨n1, v1, z1, rfl, o1, wd1, t1, l1, s1, hv1, hb1⟩
  obtain ⟨a1, c1, hs1⟩ := own_slice' o1
  subst hs1
  have HO2 := hid (wof_any y w1 y0 y1)
  have HS1 := hid (Sl.own o1 wd1)
  have HV1 := hid (And.intro t1 (And.intro s1 hv1))
  have HB1 := hid hb1
  clear o1 wd1 t1 s1 hv1 hb1 HO1
  go_wp2_with fail
  refine Calls.mono HO2.out ?_
  rintro e w2 ⟨n2, v2, z2, rfl, o2, wd2, t2, l2, s2, hv2, hb2⟩
  obtain ⟨a2, c2, hs2⟩ := own_slice' o2
  subst hs2
  have HM := hid (rmake_any n1 a1 c1 z1 n2 a2 c2 z2 w2 (HS1.out.later hb2) (Sl.own o2 wd2) (by omega) (by omega))
  rw [small_err l1 HV1.out.1 HV1.out.2.1 wd2 l2 t2 s2 hv2, HE.out, HV1.out.2.2, hv2] at HM
  have HB2 := hid (bt HB1.out hb2)
  clear o2 wd2 t2 s2 hv2 hb2 HO2 HS1 HV1
  go_wp2_with fail
  refine Calls.mono HM.out ?_
  rintro e w3 ⟨k3, v3, z3, u3, r3, code, rfl, o3, o4, t3, hb3, hc3⟩
  obtain ⟨a3, c3, hs3⟩ := own_slice' o3
  subst hs3
  obtain ⟨a4, c4, hs4⟩ := own_slice' o4
  subst hs4
  have HR := hid (And.intro o3 (And.intro o4 (And.intro t3 hc3)))
  obtain ⟨y0', y1', y2', f0, f1, f2⟩ := res_box3 HZ.out (bt HB2.out hb3)
  have HBW := hid (bt HB.out (bt HB2.out hb3))
  have HLT : Hid (w.heap.size < w2.heap.size) := Nat.lt_of_lt_of_le HZ.out.lt HB2.out.size
  clear o3 o4 t3 hb3 hc3 HM
  go_wp2_with fail
  refine bodyPost_ret (v := .tuple #[.agg #[.bool k3, .slice a3 z3.length c3, .slice a4 r3.length c4], .int .i64 code]) (by simp [results, Tryz.results92, go_sem, y0', y1', y2']) rfl ?_
  exact RToldA.put HR.out w.heap.size HLT.out (Nat.le_refl _) HBW.out _ _ _
end Go.Proofs.YtcfcjnlobpoglaaGreat

/- Complex fractions: fractionOf: of any whole number. -/
namespace Go.Proofs.YtcfcjnlobpoglaaGreat
open Go.RowKit
set_option linter.unusedVariables false

set_option maxHeartbeats 1600000 in
set_option maxRecDepth 100000 in
theorem gfractionOf_any (x : Int) (w : World) (x0 : -9223372036854775808 ≤ x) (x1 : x ≤ 9223372036854775807) :
    Calls Tryz.prog 80 #[.int .i64 x] w fun e w' => ∃ n v xs u ys code, e = .returned (.agg #[.bool n, v, u]) ∧ w'.ownsRow w.heap.size 66 1 v xs.length (xs.map (Value.int .u32)) ∧ w'.ownsRow w.heap.size 66 1 u ys.length (ys.map (Value.int .u32)) ∧ RTells 0 (Rat.divInt x 1) n xs ys code ∧ Below w.heap.size w w' ∧ Cut w v u w' := by
  have HX := hid (Box.made w 26 #[.bool false, .slice none 0 0, .slice none 0 0])
  have HB := hid (alloc_later w (.cells #[.bool false, .slice none 0 0, .slice none 0 0] 26))
  obtain ⟨X, hX⟩ : ∃ X, w.alloc (.cells #[.bool false, .slice none 0 0, .slice none 0 0] 26) = X := ⟨_, rfl⟩
  rw [hX] at HX HB
  have HS : Hid (∀ V, Calls Tryz.prog 92 #[.int .i64 x, .int .i64 1] V (RToldA V 0 (Rat.divInt x 1))) := hid (fun V => rsmall_any x 1 V x0 x1 (by omega) (by omega))
  go_enter Tryz.func80, Tryz.ntmps80
  go_wp2_with fail
  refine Calls.mono (HS.out _) ?_
  rintro e w1 ⟨k, v, zs, u, ts, code, rfl, ov, ou, ht, hb1, hcut⟩
  obtain ⟨av, cv, rfl⟩ := own_slice' ov
  obtain ⟨au, cu, rfl⟩ := own_slice' ou
  have HM1 := hid (HX.out.later hb1 HX.out.lt)
  have HBB := hid (bt HB.out hb1)
  have HN := hid (Box.made w1 26 #[.bool k, .slice av zs.length cv, .slice au ts.length cu])
  have HNB := hid (alloc_later w1 (.cells #[.bool k, .slice av zs.length cv, .slice au ts.length cu] 26))
  obtain ⟨Z, hZ⟩ : ∃ Z, w1.alloc (.cells #[.bool k, .slice av zs.length cv, .slice au ts.length cu] 26) = Z := ⟨_, rfl⟩
  rw [hZ] at HN HNB
  have HMZ := hid (HM1.out.later HNB.out HM1.out.lt)
  have HOV := hid ov
  have HOU := hid ou
  have HTT := hid ht
  have HCC := hid hcut
  clear ov ou ht hcut hb1 HS x0 x1
  have k0 : Z.cell? ⟨w1.heap.size, 0, none⟩ = some (.bool k) := HN.out.cell 0
  have k1 : Z.cell? ⟨w1.heap.size, 1, none⟩ = some (.slice av zs.length cv) := HN.out.cell 1
  have k2 : Z.cell? ⟨w1.heap.size, 2, none⟩ = some (.slice au ts.length cu) := HN.out.cell 2
  have m0 : Z.cell? ⟨w.heap.size, 0, none⟩ = some (.bool false) := HMZ.out.cell 0
  have m1 : Z.cell? ⟨w.heap.size, 1, none⟩ = some (.slice none 0 0) := HMZ.out.cell 1
  have m2 : Z.cell? ⟨w.heap.size, 2, none⟩ = some (.slice none 0 0) := HMZ.out.cell 2
  have f0 := HMZ.out.free 0
  have f1 := HMZ.out.free 1
  have f2 := HMZ.out.free 2
  go_wp2_with fail
  have h3 := HX.out.lt
  have hZs : w1.heap.size ≤ Z.heap.size := HNB.out.size
  have hv : ∀ b', (Value.slice av zs.length cv).ownBlock = some b' → b' ≠ w.heap.size := fun b' hb => by have := (HOV.out.lt b' hb).1; omega
  have hu : ∀ b', (Value.slice au ts.length cu).ownBlock = some b' → b' ≠ w.heap.size := fun b' hb => by have := (HOU.out.lt b' hb).1; omega
  have B1 := box_put3 HMZ.out (.bool k) (.slice av zs.length cv) (.slice au ts.length cu)
  have V1 := own_put3' (owns_later HOV.out HNB.out) _ hv (.bool k) (.slice av zs.length cv) (.slice au ts.length cu)
  have U1 := own_put3' (owns_later HOU.out HNB.out) _ hu (.bool k) (.slice av zs.length cv) (.slice au ts.length cu)
  have G1 := below_put3 (bt HBB.out HNB.out) w.heap.size (Nat.le_refl _) (.bool k) (.slice av zs.length cv) (.slice au ts.length cu)
  have hXw : w.heap.size ≤ X.heap.size := by omega
  refine bodyPost_ret (results_cell_row (by rfl) _ _ w.heap.size 26 _ (0, 0) _ (by rfl) B1 Tryz.underlying26 rfl (by kernel_rfl)) rfl ?_
  exact ⟨k, _, zs, _, ts, code, rfl, owns_base V1 hXw, owns_base U1 hXw, HTT.out, G1, HCC.out.up hXw (by simp [World.setCell]; exact hZs)⟩
end Go.Proofs.YtcfcjnlobpoglaaGreat

/- Complex fractions: gauss.Int: of any two whole numbers. -/
namespace Go.Proofs.YtcfcjnlobpoglaaGreat
open Go.RowKit
set_option linter.unusedVariables false

set_option maxHeartbeats 1600000 in
set_option maxRecDepth 100000 in
theorem gInt_any (x y : Int) (w : World) (x0 : -9223372036854775808 ≤ x) (x1 : x ≤ 9223372036854775807) (y0 : -9223372036854775808 ≤ y) (y1 : y ≤ 9223372036854775807) :
    Calls Tryz.prog 56 #[.int .i64 x, .int .i64 y] w fun e w' => ∃ n v xs u ys c1 m v' us u' vs c2, e = .returned (.agg #[.bool n, v, u, .bool m, v', u']) ∧ (w'.ownsRow w.heap.size 66 1 v xs.length (xs.map (Value.int .u32)) ∧ w'.ownsRow w.heap.size 66 1 u ys.length (ys.map (Value.int .u32)) ∧ w'.ownsRow w.heap.size 66 1 v' us.length (us.map (Value.int .u32)) ∧ w'.ownsRow w.heap.size 66 1 u' vs.length (vs.map (Value.int .u32))) ∧ RTells 0 (Rat.divInt x 1) n xs ys c1 ∧ RTells 0 (Rat.divInt y 1) m us vs c2 ∧ Below w.heap.size w w' := by
  have HX := hid (Box.made w 28 #[.bool false, .slice none 0 0, .slice none 0 0, .bool false, .slice none 0 0, .slice none 0 0])
  have HB := hid (alloc_later w (.cells #[.bool false, .slice none 0 0, .slice none 0 0, .bool false, .slice none 0 0, .slice none 0 0] 28))
  obtain ⟨X, hX⟩ : ∃ X, w.alloc (.cells #[.bool false, .slice none 0 0, .slice none 0 0, .bool false, .slice none 0 0, .slice none 0 0] 28) = X := ⟨_, rfl⟩
  rw [hX] at HX HB
  have H1 := hid (gfractionOf_any x X x0 x1)
  have H2 := hid (fun V => gfractionOf_any y V y0 y1)
  clear x0 x1 y0 y1
  go_enter Tryz.func56, Tryz.ntmps56
  go_wp2_with fail
  refine Calls.mono H1.out ?_
  rintro e w1 ⟨k1, v1, zs1, u1, ts1, code1, rfl, ov1, ou1, ht1, hb1, hcut1⟩
  obtain ⟨av1, cv1, rfl⟩ := own_slice' ov1
  obtain ⟨au1, cu1, rfl⟩ := own_slice' ou1
  have HM1 := hid (HX.out.later hb1 HX.out.lt)
  have HB1 := hid (bt HB.out hb1)
  have HXB := hid hb1.size
  have HV1 := hid ov1
  have HU1 := hid ou1
  have HT1 := hid ht1
  clear ov1 ou1 ht1 hb1 hcut1 H1
  go_wp2_with fail
  refine Calls.mono (H2.out _) ?_
  rintro e w2 ⟨k2, v2, zs2, u2, ts2, code2, rfl, ov2, ou2, ht2, hb2, hcut2⟩
  obtain ⟨av2, cv2, rfl⟩ := own_slice' ov2
  obtain ⟨au2, cu2, rfl⟩ := own_slice' ou2
  have HM2 := hid (HM1.out.later hb2 HM1.out.lt)
  have HB2 := hid (bt HB1.out hb2)
  have HV1' := hid (owns_later HV1.out hb2)
  have HU1' := hid (owns_later HU1.out hb2)
  have HV2 := hid ov2
  have HU2 := hid ou2
  have HT2 := hid ht2
  clear ov2 ou2 ht2 hb2 hcut2 H2
  have m0 : w2.cell? ⟨w.heap.size, 0, none⟩ = some (.bool false) := HM2.out.cell 0
  have f0 := HM2.out.free 0
  have m1 : w2.cell? ⟨w.heap.size, 1, none⟩ = some (.slice none 0 0) := HM2.out.cell 1
  have f1 := HM2.out.free 1
  have m2 : w2.cell? ⟨w.heap.size, 2, none⟩ = some (.slice none 0 0) := HM2.out.cell 2
  have f2 := HM2.out.free 2
  have m3 : w2.cell? ⟨w.heap.size, 3, none⟩ = some (.bool false) := HM2.out.cell 3
  have f3 := HM2.out.free 3
  have m4 : w2.cell? ⟨w.heap.size, 4, none⟩ = some (.slice none 0 0) := HM2.out.cell 4
  have f4 := HM2.out.free 4
  have m5 : w2.cell? ⟨w.heap.size, 5, none⟩ = some (.slice none 0 0) := HM2.out.cell 5
  have f5 := HM2.out.free 5
  go_wp2_with fail
  have h3 := HX.out.lt
  have h4 := HXB.out
  have B1 := box_put6 HM2.out (.bool k1) (.slice av1 zs1.length cv1) (.slice au1 ts1.length cu1) (.bool k2) (.slice av2 zs2.length cv2) (.slice au2 ts2.length cu2)
  have G1 := below_put6 HB2.out w.heap.size (Nat.le_refl _) (.bool k1) (.slice av1 zs1.length cv1) (.slice au1 ts1.length cu1) (.bool k2) (.slice av2 zs2.length cv2) (.slice au2 ts2.length cu2)
  have P1 := own_put6 HV1'.out w.heap.size (fun g hg => by have := (HV1'.out.lt g hg).1; omega) (.bool k1) (.slice av1 zs1.length cv1) (.slice au1 ts1.length cu1) (.bool k2) (.slice av2 zs2.length cv2) (.slice au2 ts2.length cu2)
  have P2 := own_put6 HU1'.out w.heap.size (fun g hg => by have := (HU1'.out.lt g hg).1; omega) (.bool k1) (.slice av1 zs1.length cv1) (.slice au1 ts1.length cu1) (.bool k2) (.slice av2 zs2.length cv2) (.slice au2 ts2.length cu2)
  have P3 := own_put6 HV2.out w.heap.size (fun g hg => by have := (HV2.out.lt g hg).1; omega) (.bool k1) (.slice av1 zs1.length cv1) (.slice au1 ts1.length cu1) (.bool k2) (.slice av2 zs2.length cv2) (.slice au2 ts2.length cu2)
  have P4 := own_put6 HU2.out w.heap.size (fun g hg => by have := (HU2.out.lt g hg).1; omega) (.bool k1) (.slice av1 zs1.length cv1) (.slice au1 ts1.length cu1) (.bool k2) (.slice av2 zs2.length cv2) (.slice au2 ts2.length cu2)
  have hX1 : w.heap.size ≤ X.heap.size := by omega
  have hX2 : w.heap.size ≤ w1.heap.size := by omega
  clear m0 m1 m2 m3 m4 m5 f0 f1 f2 f3 f4 f5
  refine bodyPost_ret (results_cell_row (by rfl) _ _ w.heap.size 28 _ (0, 0) _ (by rfl) B1 Tryz.underlying28 rfl (by kernel_rfl)) rfl ?_
  exact ⟨k1, _, zs1, _, ts1, code1, k2, _, zs2, _, ts2, code2, rfl, ⟨owns_base P1 hX1, owns_base P2 hX1, owns_base P3 hX2, owns_base P4 hX2⟩, HT1.out, HT2.out, G1⟩
end Go.Proofs.YtcfcjnlobpoglaaGreat

/- A complex fraction as one letter; stores of six and of twelve cells, each world by its name. (tools/mkrq.py) -/
namespace Go.Proofs.YtcfcjnlobpoglaaGreat
open Go.RowKit
set_option linter.unusedVariables false
set_option linter.unusedSimpArgs false

/-- A store of 2 cells, cell by cell, each world by its name. -/
theorem rchain2 {W : World} {b t : Nat} {u0 u1 : Value} (h : Box W b t #[u0, u1]) (ht : 66 ≠ t) (v0 v1 : Value) : ∃ A0 A1, W.setCell ⟨b, 0, none⟩ v0 = A0 ∧ A0.setCell ⟨b, 1, none⟩ v1 = A1 ∧ (W.cell? ⟨b, 0, none⟩ = some u0 ∧ A0.cell? ⟨b, 1, none⟩ = some u1) ∧ (W.frozen? ⟨b, 0, none⟩ = false ∧ A0.frozen? ⟨b, 1, none⟩ = false) ∧
    Hid (Box A1 b t #[v0, v1] ∧ (∀ p t' vs, p ≠ b → Box W p t' vs → Box A1 p t' vs) ∧ (∀ base v n xs, W.ownsRow base 66 1 v n xs → A1.ownsRow base 66 1 v n xs) ∧ (∀ B x, B ≤ b → Below B x W → Below B x A1) ∧ A1.heap.size = W.heap.size) := by
  have h0 : Box _ b t #[v0, u1] := h.set 0 v0
  have h1 : Box _ b t #[v0, v1] := h0.set 1 v1
  exact ⟨_, _, rfl, rfl, ⟨h.cell 0, h0.cell 1⟩, ⟨h.free 0, h0.free 1⟩, h1, fun p t' vs hne g => ((g.other ⟨b, 0, none⟩ v0 hne).other ⟨b, 1, none⟩ v1 hne), fun base v n xs g => (by have kk := own_ne_box g h ht; exact (kown_put1 (kown_put1 g kk 0 v0) kk 1 v1)), fun B x hB g => ((g.setCell (p := ⟨b, 0, none⟩) hB v0).setCell (p := ⟨b, 1, none⟩) hB v1), by simp [World.setCell]⟩
/-- A store of 3 cells, cell by cell, each world by its name. -/
theorem rchain3 {W : World} {b t : Nat} {u0 u1 u2 : Value} (h : Box W b t #[u0, u1, u2]) (ht : 66 ≠ t) (v0 v1 v2 : Value) : ∃ A0 A1 A2, W.setCell ⟨b, 0, none⟩ v0 = A0 ∧ A0.setCell ⟨b, 1, none⟩ v1 = A1 ∧ A1.setCell ⟨b, 2, none⟩ v2 = A2 ∧ (W.cell? ⟨b, 0, none⟩ = some u0 ∧ A0.cell? ⟨b, 1, none⟩ = some u1 ∧ A1.cell? ⟨b, 2, none⟩ = some u2) ∧ (W.frozen? ⟨b, 0, none⟩ = false ∧ A0.frozen? ⟨b, 1, none⟩ = false ∧ A1.frozen? ⟨b, 2, none⟩ = false) ∧
    Hid (Box A2 b t #[v0, v1, v2] ∧ (∀ p t' vs, p ≠ b → Box W p t' vs → Box A2 p t' vs) ∧ (∀ base v n xs, W.ownsRow base 66 1 v n xs → A2.ownsRow base 66 1 v n xs) ∧ (∀ B x, B ≤ b → Below B x W → Below B x A2) ∧ A2.heap.size = W.heap.size) := by
  have h0 : Box _ b t #[v0, u1, u2] := h.set 0 v0
  have h1 : Box _ b t #[v0, v1, u2] := h0.set 1 v1
  have h2 : Box _ b t #[v0, v1, v2] := h1.set 2 v2
  exact ⟨_, _, _, rfl, rfl, rfl, ⟨h.cell 0, h0.cell 1, h1.cell 2⟩, ⟨h.free 0, h0.free 1, h1.free 2⟩, h2, fun p t' vs hne g => (((g.other ⟨b, 0, none⟩ v0 hne).other ⟨b, 1, none⟩ v1 hne).other ⟨b, 2, none⟩ v2 hne), fun base v n xs g => (by have kk := own_ne_box g h ht; exact (kown_put1 (kown_put1 (kown_put1 g kk 0 v0) kk 1 v1) kk 2 v2)), fun B x hB g => (((g.setCell (p := ⟨b, 0, none⟩) hB v0).setCell (p := ⟨b, 1, none⟩) hB v1).setCell (p := ⟨b, 2, none⟩) hB v2), by simp [World.setCell]⟩
/-- A store of 6 cells, cell by cell, each world by its name. -/
theorem rchain6 {W : World} {b t : Nat} {u0 u1 u2 u3 u4 u5 : Value} (h : Box W b t #[u0, u1, u2, u3, u4, u5]) (ht : 66 ≠ t) (v0 v1 v2 v3 v4 v5 : Value) : ∃ A0 A1 A2 A3 A4 A5, W.setCell ⟨b, 0, none⟩ v0 = A0 ∧ A0.setCell ⟨b, 1, none⟩ v1 = A1 ∧ A1.setCell ⟨b, 2, none⟩ v2 = A2 ∧ A2.setCell ⟨b, 3, none⟩ v3 = A3 ∧ A3.setCell ⟨b, 4, none⟩ v4 = A4 ∧ A4.setCell ⟨b, 5, none⟩ v5 = A5 ∧ (W.cell? ⟨b, 0, none⟩ = some u0 ∧ A0.cell? ⟨b, 1, none⟩ = some u1 ∧ A1.cell? ⟨b, 2, none⟩ = some u2 ∧ A2.cell? ⟨b, 3, none⟩ = some u3 ∧ A3.cell? ⟨b, 4, none⟩ = some u4 ∧ A4.cell? ⟨b, 5, none⟩ = some u5) ∧ (W.frozen? ⟨b, 0, none⟩ = false ∧ A0.frozen? ⟨b, 1, none⟩ = false ∧ A1.frozen? ⟨b, 2, none⟩ = false ∧ A2.frozen? ⟨b, 3, none⟩ = false ∧ A3.frozen? ⟨b, 4, none⟩ = false ∧ A4.frozen? ⟨b, 5, none⟩ = false) ∧
    Hid (Box A5 b t #[v0, v1, v2, v3, v4, v5] ∧ (∀ p t' vs, p ≠ b → Box W p t' vs → Box A5 p t' vs) ∧ (∀ base v n xs, W.ownsRow base 66 1 v n xs → A5.ownsRow base 66 1 v n xs) ∧ (∀ B x, B ≤ b → Below B x W → Below B x A5) ∧ A5.heap.size = W.heap.size) := by
  have h0 : Box _ b t #[v0, u1, u2, u3, u4, u5] := h.set 0 v0
  have h1 : Box _ b t #[v0, v1, u2, u3, u4, u5] := h0.set 1 v1
  have h2 : Box _ b t #[v0, v1, v2, u3, u4, u5] := h1.set 2 v2
  have h3 : Box _ b t #[v0, v1, v2, v3, u4, u5] := h2.set 3 v3
  have h4 : Box _ b t #[v0, v1, v2, v3, v4, u5] := h3.set 4 v4
  have h5 : Box _ b t #[v0, v1, v2, v3, v4, v5] := h4.set 5 v5
  exact ⟨_, _, _, _, _, _, rfl, rfl, rfl, rfl, rfl, rfl, ⟨h.cell 0, h0.cell 1, h1.cell 2, h2.cell 3, h3.cell 4, h4.cell 5⟩, ⟨h.free 0, h0.free 1, h1.free 2, h2.free 3, h3.free 4, h4.free 5⟩, h5, fun p t' vs hne g => ((((((g.other ⟨b, 0, none⟩ v0 hne).other ⟨b, 1, none⟩ v1 hne).other ⟨b, 2, none⟩ v2 hne).other ⟨b, 3, none⟩ v3 hne).other ⟨b, 4, none⟩ v4 hne).other ⟨b, 5, none⟩ v5 hne), fun base v n xs g => (by have kk := own_ne_box g h ht; exact (kown_put1 (kown_put1 (kown_put1 (kown_put1 (kown_put1 (kown_put1 g kk 0 v0) kk 1 v1) kk 2 v2) kk 3 v3) kk 4 v4) kk 5 v5)), fun B x hB g => ((((((g.setCell (p := ⟨b, 0, none⟩) hB v0).setCell (p := ⟨b, 1, none⟩) hB v1).setCell (p := ⟨b, 2, none⟩) hB v2).setCell (p := ⟨b, 3, none⟩) hB v3).setCell (p := ⟨b, 4, none⟩) hB v4).setCell (p := ⟨b, 5, none⟩) hB v5), by simp [World.setCell]⟩
/-- A store of 12 cells, cell by cell, each world by its name. -/
theorem rchain12 {W : World} {b t : Nat} {u0 u1 u2 u3 u4 u5 u6 u7 u8 u9 u10 u11 : Value} (h : Box W b t #[u0, u1, u2, u3, u4, u5, u6, u7, u8, u9, u10, u11]) (ht : 66 ≠ t) (v0 v1 v2 v3 v4 v5 v6 v7 v8 v9 v10 v11 : Value) : ∃ A0 A1 A2 A3 A4 A5 A6 A7 A8 A9 A10 A11, W.setCell ⟨b, 0, none⟩ v0 = A0 ∧ A0.setCell ⟨b, 1, none⟩ v1 = A1 ∧ A1.setCell ⟨b, 2, none⟩ v2 = A2 ∧ A2.setCell ⟨b, 3, none⟩ v3 = A3 ∧ A3.setCell ⟨b, 4, none⟩ v4 = A4 ∧ A4.setCell ⟨b, 5, none⟩ v5 = A5 ∧ A5.setCell ⟨b, 6, none⟩ v6 = A6 ∧ A6.setCell ⟨b, 7, none⟩ v7 = A7 ∧ A7.setCell ⟨b, 8, none⟩ v8 = A8 ∧ A8.setCell ⟨b, 9, none⟩ v9 = A9 ∧ A9.setCell ⟨b, 10, none⟩ v10 = A10 ∧ A10.setCell ⟨b, 11, none⟩ v11 = A11 ∧ (W.cell? ⟨b, 0, none⟩ = some u0 ∧ A0.cell? ⟨b, 1, none⟩ = some u1 ∧ A1.cell? ⟨b, 2, none⟩ = some u2 ∧ A2.cell? ⟨b, 3, none⟩ = some u3 ∧ A3.cell? ⟨b, 4, none⟩ = some u4 ∧ A4.cell? ⟨b, 5, none⟩ = some u5 ∧ A5.cell? ⟨b, 6, none⟩ = some u6 ∧ A6.cell? ⟨b, 7, none⟩ = some u7 ∧ A7.cell? ⟨b, 8, none⟩ = some u8 ∧ A8.cell? ⟨b, 9, none⟩ = some u9 ∧ A9.cell? ⟨b, 10, none⟩ = some u10 ∧ A10.cell? ⟨b, 11, none⟩ = some u11) ∧ (W.frozen? ⟨b, 0, none⟩ = false ∧ A0.frozen? ⟨b, 1, none⟩ = false ∧ A1.frozen? ⟨b, 2, none⟩ = false ∧ A2.frozen? ⟨b, 3, none⟩ = false ∧ A3.frozen? ⟨b, 4, none⟩ = false ∧ A4.frozen? ⟨b, 5, none⟩ = false ∧ A5.frozen? ⟨b, 6, none⟩ = false ∧ A6.frozen? ⟨b, 7, none⟩ = false ∧ A7.frozen? ⟨b, 8, none⟩ = false ∧ A8.frozen? ⟨b, 9, none⟩ = false ∧ A9.frozen? ⟨b, 10, none⟩ = false ∧ A10.frozen? ⟨b, 11, none⟩ = false) ∧
    Hid (Box A11 b t #[v0, v1, v2, v3, v4, v5, v6, v7, v8, v9, v10, v11] ∧ (∀ p t' vs, p ≠ b → Box W p t' vs → Box A11 p t' vs) ∧ (∀ base v n xs, W.ownsRow base 66 1 v n xs → A11.ownsRow base 66 1 v n xs) ∧ (∀ B x, B ≤ b → Below B x W → Below B x A11) ∧ A11.heap.size = W.heap.size) := by
  have h0 : Box _ b t #[v0, u1, u2, u3, u4, u5, u6, u7, u8, u9, u10, u11] := h.set 0 v0
  have h1 : Box _ b t #[v0, v1, u2, u3, u4, u5, u6, u7, u8, u9, u10, u11] := h0.set 1 v1
  have h2 : Box _ b t #[v0, v1, v2, u3, u4, u5, u6, u7, u8, u9, u10, u11] := h1.set 2 v2
  have h3 : Box _ b t #[v0, v1, v2, v3, u4, u5, u6, u7, u8, u9, u10, u11] := h2.set 3 v3
  have h4 : Box _ b t #[v0, v1, v2, v3, v4, u5, u6, u7, u8, u9, u10, u11] := h3.set 4 v4
  have h5 : Box _ b t #[v0, v1, v2, v3, v4, v5, u6, u7, u8, u9, u10, u11] := h4.set 5 v5
  have h6 : Box _ b t #[v0, v1, v2, v3, v4, v5, v6, u7, u8, u9, u10, u11] := h5.set 6 v6
  have h7 : Box _ b t #[v0, v1, v2, v3, v4, v5, v6, v7, u8, u9, u10, u11] := h6.set 7 v7
  have h8 : Box _ b t #[v0, v1, v2, v3, v4, v5, v6, v7, v8, u9, u10, u11] := h7.set 8 v8
  have h9 : Box _ b t #[v0, v1, v2, v3, v4, v5, v6, v7, v8, v9, u10, u11] := h8.set 9 v9
  have h10 : Box _ b t #[v0, v1, v2, v3, v4, v5, v6, v7, v8, v9, v10, u11] := h9.set 10 v10
  have h11 : Box _ b t #[v0, v1, v2, v3, v4, v5, v6, v7, v8, v9, v10, v11] := h10.set 11 v11
  exact ⟨_, _, _, _, _, _, _, _, _, _, _, _, rfl, rfl, rfl, rfl, rfl, rfl, rfl, rfl, rfl, rfl, rfl, rfl, ⟨h.cell 0, h0.cell 1, h1.cell 2, h2.cell 3, h3.cell 4, h4.cell 5, h5.cell 6, h6.cell 7, h7.cell 8, h8.cell 9, h9.cell 10, h10.cell 11⟩, ⟨h.free 0, h0.free 1, h1.free 2, h2.free 3, h3.free 4, h4.free 5, h5.free 6, h6.free 7, h7.free 8, h8.free 9, h9.free 10, h10.free 11⟩, h11, fun p t' vs hne g => ((((((((((((g.other ⟨b, 0, none⟩ v0 hne).other ⟨b, 1, none⟩ v1 hne).other ⟨b, 2, none⟩ v2 hne).other ⟨b, 3, none⟩ v3 hne).other ⟨b, 4, none⟩ v4 hne).other ⟨b, 5, none⟩ v5 hne).other ⟨b, 6, none⟩ v6 hne).other ⟨b, 7, none⟩ v7 hne).other ⟨b, 8, none⟩ v8 hne).other ⟨b, 9, none⟩ v9 hne).other ⟨b, 10, none⟩ v10 hne).other ⟨b, 11, none⟩ v11 hne), fun base v n xs g => (by have kk := own_ne_box g h ht; exact (kown_put1 (kown_put1 (kown_put1 (kown_put1 (kown_put1 (kown_put1 (kown_put1 (kown_put1 (kown_put1 (kown_put1 (kown_put1 (kown_put1 g kk 0 v0) kk 1 v1) kk 2 v2) kk 3 v3) kk 4 v4) kk 5 v5) kk 6 v6) kk 7 v7) kk 8 v8) kk 9 v9) kk 10 v10) kk 11 v11)), fun B x hB g => ((((((((((((g.setCell (p := ⟨b, 0, none⟩) hB v0).setCell (p := ⟨b, 1, none⟩) hB v1).setCell (p := ⟨b, 2, none⟩) hB v2).setCell (p := ⟨b, 3, none⟩) hB v3).setCell (p := ⟨b, 4, none⟩) hB v4).setCell (p := ⟨b, 5, none⟩) hB v5).setCell (p := ⟨b, 6, none⟩) hB v6).setCell (p := ⟨b, 7, none⟩) hB v7).setCell (p := ⟨b, 8, none⟩) hB v8).setCell (p := ⟨b, 9, none⟩) hB v9).setCell (p := ⟨b, 10, none⟩) hB v10).setCell (p := ⟨b, 11, none⟩) hB v11), by simp [World.setCell]⟩

/-- A complex fraction's memory and words. -/
structure G6 where
  n : Bool
  a : Option Addr
  ca : Nat
  xs : List Int
  b : Option Addr
  cb : Nat
  ys : List Int
  m : Bool
  c : Option Addr
  cc : Nat
  us : List Int
  d : Option Addr
  cd : Nat
  vs : List Int
def G6.Ow (g : G6) (V : World) (base : Nat) : Prop := V.ownsRow base 66 1 (.slice g.a g.xs.length g.ca) g.xs.length (g.xs.map (Value.int .u32)) ∧ V.ownsRow base 66 1 (.slice g.b g.ys.length g.cb) g.ys.length (g.ys.map (Value.int .u32)) ∧ V.ownsRow base 66 1 (.slice g.c g.us.length g.cc) g.us.length (g.us.map (Value.int .u32)) ∧ V.ownsRow base 66 1 (.slice g.d g.vs.length g.cd) g.vs.length (g.vs.map (Value.int .u32))
def G6.Sl4 (g : G6) (V : World) : Prop := Sl V (.slice g.a g.xs.length g.ca) g.xs ∧ Sl V (.slice g.b g.ys.length g.cb) g.ys ∧ Sl V (.slice g.c g.us.length g.cc) g.us ∧ Sl V (.slice g.d g.vs.length g.cd) g.vs
/-- It is in its one form, and it is this number. -/
def G6.Is (g : G6) (q1 q2 : Rat) : Prop := (rchk g.n g.xs g.ys = 0 ∧ rq g.n g.xs g.ys = q1) ∧ (rchk g.m g.us g.vs = 0 ∧ rq g.m g.us g.vs = q2) ∧ Wd g.xs ∧ Wd g.ys ∧ Wd g.us ∧ Wd g.vs
theorem G6.Ow.later {g : G6} {V V' : World} {base : Nat} (h : g.Ow V base) (hb : Below V.heap.size V V') : g.Ow V' base := ⟨owns_later h.1 hb, owns_later h.2.1 hb, owns_later h.2.2.1 hb, owns_later h.2.2.2 hb⟩
theorem G6.Ow.base {g : G6} {V : World} {base base' : Nat} (h : g.Ow V base) (hb : base' ≤ base) : g.Ow V base' := ⟨owns_base h.1 hb, owns_base h.2.1 hb, owns_base h.2.2.1 hb, owns_base h.2.2.2 hb⟩
theorem G6.Sl4.later {g : G6} {V V' : World} (h : g.Sl4 V) (hb : Below V.heap.size V V') : g.Sl4 V' := ⟨h.1.later hb, h.2.1.later hb, h.2.2.1.later hb, h.2.2.2.later hb⟩
theorem G6.Ow.sl {g : G6} {V : World} {base : Nat} {q1 q2 : Rat} (h : g.Ow V base) (i : g.Is q1 q2) : g.Sl4 V := ⟨Sl.own h.1 i.2.2.1, Sl.own h.2.1 i.2.2.2.1, Sl.own h.2.2.1 i.2.2.2.2.1, Sl.own h.2.2.2 i.2.2.2.2.2⟩
theorem G6.Is.len {g : G6} {q1 q2 : Rat} (i : g.Is q1 q2) : g.xs.length ≤ 2048 ∧ g.ys.length ≤ 2048 ∧ g.us.length ≤ 2048 ∧ g.vs.length ≤ 2048 := ⟨(rchk_ok i.1.1).1, (rchk_ok i.1.1).2.1, (rchk_ok i.2.1.1).1, (rchk_ok i.2.1.1).2.1⟩
theorem G6.Is.chk {g : G6} {q1 q2 : Rat} (i : g.Is q1 q2) : gchk g.n g.xs g.ys g.m g.us g.vs = 0 := by
  unfold gchk fstE
  rw [if_pos i.1.1, i.2.1.1]
/-- Small whole numbers are not long. -/
theorem oInt_not (x : Int) (x0 : -9223372036854775808 ≤ x) (x1 : x ≤ 9223372036854775807) : ¬ rlong (Rat.divInt x 1) := by
  have h := fr_num (x := x) (d := 1) (by decide) (by unfold gcdI; rw [Int.gcd_one_right]; rfl)
  have hl : (9223372036854775808 : Int) < wlim := by unfold wlim; decide +kernel
  rintro (hh | hh)
  · rw [h.1] at hh; omega
  · rw [h.2] at hh; omega
/-- gauss.Int, as one letter. -/
theorem oInt_any (x y : Int) (w : World) (x0 : -9223372036854775808 ≤ x) (x1 : x ≤ 9223372036854775807) (y0 : -9223372036854775808 ≤ y) (y1 : y ≤ 9223372036854775807) :
    Calls Tryz.prog 56 #[.int .i64 x, .int .i64 y] w fun e w' => ∃ g : G6, e = .returned (.agg #[.bool g.n, .slice g.a g.xs.length g.ca, .slice g.b g.ys.length g.cb, .bool g.m, .slice g.c g.us.length g.cc, .slice g.d g.vs.length g.cd]) ∧ Hid (g.Ow w' w.heap.size) ∧ Hid (g.Is (Rat.divInt x 1) (Rat.divInt y 1)) ∧ Hid (Below w.heap.size w w') := by
  refine Calls.mono (gInt_any x y w x0 x1 y0 y1) ?_
  rintro e w' ⟨n, v, xs, u, ys, c1, m, v', us, u', vs, c2, rfl, ho, t1, t2, hb⟩
  obtain ⟨a, ca, rfl⟩ := own_slice' ho.1
  obtain ⟨b, cb, rfl⟩ := own_slice' ho.2.1
  obtain ⟨c, cc, rfl⟩ := own_slice' ho.2.2.1
  obtain ⟨d, cd, rfl⟩ := own_slice' ho.2.2.2
  exact ⟨⟨n, a, ca, xs, b, cb, ys, m, c, cc, us, d, cd, vs⟩, rfl, ho, ⟨(t1.good rfl (oInt_not x x0 x1)).2, (t2.good rfl (oInt_not y y0 y1)).2, t1.wx, t1.wy, t2.wx, t2.wy⟩, hb⟩
end Go.Proofs.YtcfcjnlobpoglaaGreat

/- The document's answers of package rotor: part, the fraction of two whole numbers in its one form. -/
namespace Go.Proofs.YtcfcjnlobpoglaaGreat
open Go.RowKit
set_option linter.unusedVariables false
set_option linter.unusedSimpArgs false

/-- Three new boxes, one behind the other. -/
theorem boxes3t (w : World) (t1 t2 t3 : Nat) (c1 c2 c3 : Array Value) : Box (((w.alloc (.cells c1 t1)).alloc (.cells c2 t2)).alloc (.cells c3 t3)) w.heap.size t1 c1 ∧ Box (((w.alloc (.cells c1 t1)).alloc (.cells c2 t2)).alloc (.cells c3 t3)) (w.heap.size + 1) t2 c2 ∧ Box (((w.alloc (.cells c1 t1)).alloc (.cells c2 t2)).alloc (.cells c3 t3)) (w.heap.size + 1 + 1) t3 c3 ∧ Below w.heap.size w (((w.alloc (.cells c1 t1)).alloc (.cells c2 t2)).alloc (.cells c3 t3)) := by
  have b1 := Box.made w t1 c1
  have b2 := Box.made (w.alloc (.cells c1 t1)) t2 c2
  have b3 := Box.made ((w.alloc (.cells c1 t1)).alloc (.cells c2 t2)) t3 c3
  have l1 := b1.later (alloc_later (w.alloc (.cells c1 t1)) (.cells c2 t2)) b1.lt
  have l2 := l1.later (alloc_later ((w.alloc (.cells c1 t1)).alloc (.cells c2 t2)) (.cells c3 t3)) l1.lt
  have m2 := b2.later (alloc_later ((w.alloc (.cells c1 t1)).alloc (.cells c2 t2)) (.cells c3 t3)) b2.lt
  refine ⟨l2, ?_, ?_, bt (bt (alloc_later _ _) (alloc_later _ _)) (alloc_later _ _)⟩
  · simpa using m2
  · simpa using b3
theorem over_exact {x z g r : Int} (h : x = z * g + r) (h0 : 0 ≤ r) (h1 : r < g) (hd : g ∣ x) : z * g = x := by
  obtain ⟨k, hk⟩ := hd
  have e : r = g * (k - z) := by grind
  rcases Int.lt_trichotomy (k - z) 0 with q | q | q
  · have := Int.mul_neg_of_pos_of_neg (show 0 < g by omega) q
    omega
  · rw [q] at e; omega
  · have := Int.mul_le_mul_of_nonneg_left (show 1 ≤ k - z by omega) (show 0 ≤ g by omega)
    omega
/-- What part tells: the numbers over their greatest common divisor, in new memory. -/
def PPt (w : World) (n : Bool) (x y : Int) (e : Ending) (w' : World) : Prop := ∃ a zs c ds, e = .returned (.agg #[.bool n, a, c]) ∧ w'.ownsRow w.heap.size 66 1 a zs.length (zs.map (Value.int .u32)) ∧ w'.ownsRow w.heap.size 66 1 c ds.length (ds.map (Value.int .u32)) ∧ Wd zs ∧ Wd ds ∧ Trimmed zs ∧ Trimmed ds ∧ val zs * gcdI x y = x ∧ val ds * gcdI x y = y ∧ Below w.heap.size w w'
theorem owns_low {w : World} {b b' e n s : Nat} {v : Value} {xs : List Value} (h : w.ownsRow b e s v n xs) (hb : b' ≤ b) : w.ownsRow b' e s v n xs := by
  refine ⟨h.1, h.2.imp id ?_⟩
  rintro ⟨g, cap, cur, rfl, hbg, r⟩
  exact ⟨g, cap, cur, rfl, by omega, r⟩

theorem owns_sl {w : World} {base e n s : Nat} {v : Value} {xs : List Value} (h : w.ownsRow base e s v n xs) : ∃ a cap, v = .slice a n cap := by
  rcases h.2 with ⟨h1, h0⟩ | ⟨g, cap, cur, hv, _⟩
  · subst h0; exact ⟨_, _, h1⟩
  · exact ⟨_, _, hv⟩

set_option maxHeartbeats 3200000 in
set_option maxRecDepth 100000 in
theorem ppart_any (n m : Bool) (v u : Value) (xs ys : List Int) (w : World) (h : Sl w v xs) (g : Sl w u ys) (hn : xs.length ≤ 8200) (hm : ys.length ≤ 8200) (hx : Trimmed xs) (hy : Trimmed ys) (h0 : 0 < val ys) :
    Calls Tryz.prog 34 #[.agg #[.bool n, v], .agg #[.bool m, u]] w (PPt w n (val xs) (val ys)) := by
  have HX := hid (boxes3t w 59 59 26 #[.bool n, v] #[.bool m, u] #[.bool false, .slice none 0 0, .slice none 0 0])
  obtain ⟨X, hX⟩ : ∃ X, ((w.alloc (.cells #[.bool n, v] 59)).alloc (.cells #[.bool m, u] 59)).alloc (.cells #[.bool false, .slice none 0 0, .slice none 0 0] 26) = X := ⟨_, rfl⟩
  rw [hX] at HX
  have HSx := hid (h.later HX.out.2.2.2)
  have HSy := hid (g.later HX.out.2.2.2)
  have wx := h.wd
  have wy := g.wd
  have HQ : Hid (∀ gs : List Int, Wd gs → Trimmed gs → val gs = gcdI (val xs) (val ys) → 0 < gs.length ∧ gs.length ≤ 8200 ∧ val gs ∣ val xs ∧ val gs ∣ val ys) := fun gs wg tg e => by
    have d1 : gcdI (val xs) (val ys) ∣ val xs := by unfold gcdI; exact Int.gcd_dvd_left ..
    have d2 : gcdI (val xs) (val ys) ∣ val ys := by unfold gcdI; exact Int.gcd_dvd_right ..
    have le := Int.le_of_dvd h0 d2
    have p : 0 < gcdI (val xs) (val ys) := by
      rcases Int.lt_or_eq_of_le (gcdI_nonneg (val xs) (val ys)) with q | q
      · exact q
      · rw [← q] at d2
        have := Int.zero_dvd.1 d2
        omega
    refine ⟨?_, Nat.le_trans (len_le_of_val wy wg tg (by omega)) hm, by rw [e]; exact d1, by rw [e]; exact d2⟩
    rcases Nat.eq_zero_or_pos gs.length with q | q
    · have := List.length_eq_zero_iff.1 q
      subst this
      have e0 : val [] = 0 := rfl
      omega
    · exact q
  have HC := hid (refCommon_any v u xs ys X HSx.out HSy.out hn hm hx hy)
  have k0 : X.cell? ⟨w.heap.size, 1, none⟩ = some v := HX.out.1.cell 1
  have k1 : X.cell? ⟨w.heap.size + 1, 1, none⟩ = some u := HX.out.2.1.cell 1
  clear h g
  go_enter Tryz.func34, Tryz.ntmps34
  go_wp2_with fail
  clear hX
  refine Calls.mono HC.out ?_
  rintro e w1 ⟨q, gs, rfl, og, wg, tg, eg, hb1⟩
  obtain ⟨l0, l1, d1, d2⟩ := HQ.out gs wg tg eg
  have HSg := hid (Sl.own og wg)
  have HEG := hid eg
  have HD := hid (And.intro d1 d2)
  have HO := hid (refOver_any v q xs gs w1 (HSx.out.later hb1) HSg.out hn l1 hx tg l0)
  have HB1 := hid hb1
  have k0 : w1.cell? ⟨w.heap.size, 1, none⟩ = some v := (HX.out.1.later hb1 HX.out.1.lt).cell 1
  clear HC HQ og hb1 eg d1 d2 k1
  go_wp2_with fail
  refine Calls.mono HO.out ?_
  rintro e w2 ⟨a, zs, a', rs, rfl, oz, _, wz, wr, tz, _, ez, lz, hb2⟩
  obtain ⟨az, cz, rfl⟩ := owns_sl oz
  have HE1 := hid (over_exact ez (val_nonneg wr) lz HD.out.1)
  have HB2 := hid (bt HB1.out hb2)
  have HOz := hid oz
  have HO := hid (refOver_any u q ys gs w2 (HSy.out.later HB2.out) (HSg.out.later hb2) hm l1 hy tg l0)
  have k1 : w2.cell? ⟨w.heap.size + 1, 1, none⟩ = some u := (HX.out.2.1.later HB2.out HX.out.2.1.lt).cell 1
  have HS1 : Hid (w.heap.size ≤ w1.heap.size) := by
    have z1 := HX.out.2.2.2.size
    have z2 := HB1.out.size
    show _ ≤ _
    omega
  clear ez lz oz hb2 k0 HB1
  go_wp2_with fail
  refine Calls.mono HO.out ?_
  rintro e w3 ⟨c, ds, c', rs', rfl, od, _, wd, wr', td, _, ed, ld, hb3⟩
  obtain ⟨ad, cd, rfl⟩ := owns_sl od
  have HE2 := hid (over_exact ed (val_nonneg wr') ld HD.out.2)
  have HB3 := hid (bt HB2.out hb3)
  have HOz3 := hid (owns_later HOz.out hb3)
  have HOd := hid od
  have HS2 : Hid (w.heap.size ≤ w2.heap.size) := by
    have z1 := HX.out.2.2.2.size
    have z2 := HB2.out.size
    show _ ≤ _
    omega
  have k0 : w3.cell? ⟨w.heap.size, 0, none⟩ = some (.bool n) := (HX.out.1.later HB3.out HX.out.1.lt).cell 0
  obtain ⟨A0, A1, A2, q0, q1, q2, ⟨r0, r1, r2⟩, ⟨f0, f1, f2⟩, HA⟩ := rchain3 (HX.out.2.2.1.later HB3.out HX.out.2.2.1.lt) (by decide) (.bool n) (.slice az zs.length cz) (.slice ad ds.length cd)
  have p0 : A2.cell? ⟨w.heap.size + 1 + 1, 0, none⟩ = some (.bool n) := HA.out.1.cell 0
  have p1 : A2.cell? ⟨w.heap.size + 1 + 1, 1, none⟩ = some (.slice az zs.length cz) := HA.out.1.cell 1
  have p2 : A2.cell? ⟨w.heap.size + 1 + 1, 2, none⟩ = some (.slice ad ds.length cd) := HA.out.1.cell 2
  clear ed ld od hb3 k1 HO HOz HB2
  go_wp2_with fail
  refine bodyPost_ret (v := .agg #[.bool n, .slice az zs.length cz, .slice ad ds.length cd]) (by simp [results, Tryz.results34, go_sem, p0, p1, p2]) rfl ?_
  refine ⟨_, zs, _, ds, rfl, owns_low (HA.out.2.2.1 _ _ _ _ HOz3.out) HS1.out, owns_low (HA.out.2.2.1 _ _ _ _ HOd.out) HS2.out, wz, wd, tz, td, ?_, ?_, HA.out.2.2.2.1 _ _ (by omega) (bt HX.out.2.2.2 HB3.out)⟩
  · rw [← HEG.out]; exact HE1.out
  · rw [← HEG.out]; exact HE2.out
end Go.Proofs.YtcfcjnlobpoglaaGreat

/- Floats of 64 bits by their bits: which are finite, what a sum or difference of two gives, the sum of two with what was lost of it, as plain functions of the bits. Nothing here speaks of the program. -/
namespace Go.Proofs.YtcfcjnlobpoglaaGreat

/-- Neither an infinity nor NaN: by the bits. -/
def fin (x : Nat) : Bool := x / 4503599627370496 % 2048 != 2047

theorem fin_iff (x : Nat) : fin x = true ↔ x % 9223372036854775808 < 9218868437227405312 := by
  unfold fin
  simp only [bne_iff_ne, ne_eq]
  omega

theorem dbl_sign : Ieee.double.signWeight = 9223372036854775808 := by decide
theorem dbl_inf : Ieee.double.infRung = 9218868437227405312 := by decide
theorem dbl_binade : Ieee.double.binade = 4503599627370496 := by decide

theorem read_not {x : Nat} (h : fin x = false) : (∃ s, Ieee.double.read x = .infinity s) ∨ ∃ s f, Ieee.double.read x = .nan s f := by
  have h' : ¬ x % 9223372036854775808 < 9218868437227405312 := fun g => by rw [(fin_iff x).2 g] at h; exact Bool.noConfusion h
  unfold Ieee.Format.read
  simp only [dbl_sign, dbl_inf, dbl_binade]
  rw [if_neg (by omega), if_neg h']
  split
  · exact Or.inl ⟨_, rfl⟩
  · exact Or.inr ⟨_, _, rfl⟩

theorem write_inf (s : Bool) : fin (Ieee.double.write (.infinity s)) = false := by
  cases s <;> decide

theorem nan_cut (x y t : Nat) : fin (Question.cut (.nanBits .f64 x y) t) = false ∧ Question.cut (.nanBits .f64 x y) t < 18446744073709551616 := by
  simp only [Question.cut]
  have hu : (t / 2) % (2 ^ 52 - 1) < 4503599627370495 := Nat.mod_lt _ (by decide)
  have hv : t % 2 = 0 ∨ t % 2 = 1 := by omega
  generalize (t / 2) % (2 ^ 52 - 1) = u at hu ⊢
  generalize t % 2 = v at hv ⊢
  constructor
  · cases hh : fin (v * 2 ^ 63 + 0x7ff0000000000000 + 1 + u)
    · rfl
    · rw [fin_iff] at hh; rcases hv with rfl | rfl <;> omega
  · rcases hv with rfl | rfl <;> omega

/-- What the machine hands back: the bits of the answer, or, where there is none, some NaN. -/
def FR (op : BinOp) (x y r : Nat) : Prop := r < 18446744073709551616 ∧ (floatBits op .f64 x y = some r ∨ (floatBits op .f64 x y = none ∧ fin r = false))

theorem FR.det {op : BinOp} {x y r s : Nat} (h : FR op x y r) (g : floatBits op .f64 x y = some s) : r = s := by
  rcases h.2 with h | ⟨h, _⟩
  · rw [h] at g; exact Option.some.inj g
  · rw [h] at g; cases g

theorem FR.some {op : BinOp} {x y r : Nat} (h : floatBits op .f64 x y = .some r) : FR op x y r := by
  have := floatBits_wf h
  simp [Lit.wf] at this
  exact ⟨this, Or.inl h⟩
theorem FR.none {op : BinOp} {x y : Nat} (t : Nat) (h : floatBits op .f64 x y = .none) : FR op x y (Question.cut (.nanBits .f64 x y) t) :=
  ⟨(nan_cut x y t).2, Or.inr ⟨h, (nan_cut x y t).1⟩⟩

theorem sum_back {d c : Ieee.Datum} {r : Nat} (h : (d.sum c).map Ieee.double.write = .some r) (hf : fin r = true) : (∃ s m e, d = .number s m e) ∧ ∃ s m e, c = .number s m e := by
  cases d with
  | nan s f => simp [Ieee.Datum.sum] at h
  | infinity s =>
    cases c with
    | nan t f => simp [Ieee.Datum.sum] at h
    | infinity t =>
      simp only [Ieee.Datum.sum] at h
      split at h
      · cases h; rw [write_inf] at hf; cases hf
      · cases h
    | number t m e => simp only [Ieee.Datum.sum] at h; cases h; rw [write_inf] at hf; cases hf
  | number s m e =>
    cases c with
    | nan t f => simp [Ieee.Datum.sum] at h
    | infinity t => simp only [Ieee.Datum.sum] at h; cases h; rw [write_inf] at hf; cases hf
    | number t n j => exact ⟨⟨_, _, _, rfl⟩, ⟨_, _, _, rfl⟩⟩

theorem fin_of_read {x : Nat} {s : Bool} {m : Nat} {e : Int} (h : Ieee.double.read x = .number s m e) : fin x = true := by
  cases hx : fin x
  · rcases read_not hx with ⟨_, g⟩ | ⟨_, _, g⟩ <;> rw [g] at h <;> cases h
  · rfl

theorem add_back {x y r : Nat} (h : floatBits .add .f64 x y = .some r) (hf : fin r = true) : fin x = true ∧ fin y = true := by
  obtain ⟨⟨_, _, _, h1⟩, ⟨_, _, _, h2⟩⟩ := sum_back h hf
  exact ⟨fin_of_read h1, fin_of_read h2⟩
theorem sub_back {x y r : Nat} (h : floatBits .sub .f64 x y = .some r) (hf : fin r = true) : fin x = true ∧ fin y = true := by
  obtain ⟨⟨_, _, _, h1⟩, ⟨s, m, e, h2⟩⟩ := sum_back h hf
  refine ⟨fin_of_read h1, ?_⟩
  cases hy : fin y
  · rcases read_not hy with ⟨_, g⟩ | ⟨_, _, g⟩ <;> (have g' : FloatKind.f64.format.read y = _ := g; rw [g'] at h2; cases h2)
  · rfl

theorem FR.addBack {x y r : Nat} (h : FR .add x y r) (hf : fin r = true) : floatBits .add .f64 x y = .some r ∧ fin x = true ∧ fin y = true := by
  rcases h.2 with h | ⟨_, g⟩
  · exact ⟨h, add_back h hf⟩
  · rw [g] at hf; cases hf
theorem FR.subBack {x y r : Nat} (h : FR .sub x y r) (hf : fin r = true) : floatBits .sub .f64 x y = .some r ∧ fin x = true ∧ fin y = true := by
  rcases h.2 with h | ⟨_, g⟩
  · exact ⟨h, sub_back h hf⟩
  · rw [g] at hf; cases hf

/-- The sum of two finite floats and what was lost of it; nothing, where one of both is not finite. -/
def chain (a b : Nat) : Option (Nat × Nat) :=
  match floatBits .add .f64 a b with
  | .none => .none
  | .some s => if fin s then
      match floatBits .sub .f64 s a with
      | .none => .none
      | .some t =>
        match floatBits .sub .f64 s t with
        | .none => .none
        | .some d =>
          match floatBits .sub .f64 a d, floatBits .sub .f64 b t with
          | .some p, .some q =>
            match floatBits .add .f64 p q with
            | .none => .none
            | .some e => if fin e then .some (s, e) else .none
          | _, _ => .none
    else .none

/-- The steps as the machine goes them. -/
def Two (a b s e : Nat) : Prop := ∃ t d p q, FR .add a b s ∧ FR .sub s a t ∧ FR .sub s t d ∧ FR .sub a d p ∧ FR .sub b t q ∧ FR .add p q e

theorem Two.good {a b s e : Nat} (h : Two a b s e) (hs : fin s = true) (he : fin e = true) : chain a b = .some (s, e) := by
  obtain ⟨t, d, p, q, h1, h2, h3, h4, h5, h6⟩ := h
  obtain ⟨g6, fp, fq⟩ := h6.addBack he
  obtain ⟨g5, _, ft⟩ := h5.subBack fq
  obtain ⟨g4, _, fd⟩ := h4.subBack fp
  obtain ⟨g3, _, _⟩ := h3.subBack fd
  obtain ⟨g2, _, _⟩ := h2.subBack ft
  obtain ⟨g1, _, _⟩ := h1.addBack hs
  simp only [chain, g1, g2, g3, g4, g5, g6, hs, he, if_true]

theorem chain_back {a b : Nat} {u : Nat × Nat} (h : chain a b = .some u) : fin u.1 = true ∧ fin u.2 = true ∧ ∀ s e, Two a b s e → s = u.1 ∧ e = u.2 := by
  unfold chain at h
  split at h
  · cases h
  rename_i s g1
  split at h
  · rename_i hs
    split at h
    · cases h
    rename_i t g2
    split at h
    · cases h
    rename_i d g3
    split at h
    · rename_i p q g4 g5
      split at h
      · cases h
      rename_i e g6
      split at h
      · rename_i he
        cases h
        refine ⟨hs, he, fun s' e' hh => ?_⟩
        obtain ⟨t', d', p', q', h1, h2, h3, h4, h5, h6⟩ := hh
        have e1 := h1.det g1
        subst e1
        have e2 := h2.det g2
        subst e2
        have e3 := h3.det g3
        subst e3
        have e4 := h4.det g4
        subst e4
        have e5 := h5.det g5
        subst e5
        exact ⟨rfl, h6.det g6⟩
      · cases h
    · cases h
  · cases h

theorem Two.bad {a b s e : Nat} (h : Two a b s e) (hb : fin s = false ∨ fin e = false) : chain a b = .none := by
  cases hc : chain a b with
  | none => rfl
  | some u =>
    obtain ⟨h1, h2, h3⟩ := chain_back hc
    obtain ⟨e1, e2⟩ := h3 _ _ h
    rcases hb with hb | hb
    · rw [e1, h1] at hb; cases hb
    · rw [e2, h2] at hb; cases hb

end Go.Proofs.YtcfcjnlobpoglaaGreat

/- real.finite, real.twoSum, real.TwoSum and the document's Finite, TwoSum, of any floats, by their bits. -/
namespace Go.Proofs.YtcfcjnlobpoglaaGreat
open Go.RowKit
set_option linter.unusedVariables false

theorem Two.lt {a b s e : Nat} (h : Two a b s e) : s < 18446744073709551616 ∧ e < 18446744073709551616 := by
  obtain ⟨t, d, p, q, h1, h2, h3, h4, h5, h6⟩ := h
  exact ⟨h1.1, h6.1⟩

end Go.Proofs.YtcfcjnlobpoglaaGreat

/- The document's TwoSum; slackwaterkit.SameFloat, SameBits of one float twice; lists of floats: CopyFloats, LentFloats, SameFloats, KeptFloats. -/
namespace Go.Proofs.YtcfcjnlobpoglaaGreat
open Go.RowKit
set_option linter.unusedVariables false

theorem b2 {a b c : World} (h : Below a.heap.size a b) (g : Below b.heap.size b c) : Below a.heap.size a c := h.trans (g.mono h.size)

/-- The slice reads as these floats. -/
def RdF (w : World) (B : Nat) (a : Option Addr) (n cap : Nat) (xs : List Nat) : Prop :=
  xs.length = n ∧ (n = 0 ∨ ∃ b o, a = some ⟨b, o, none⟩ ∧ b < B ∧ ∀ j, j < n → w.cell? ⟨b, o + j, none⟩ = some (.float .f64 (xs[j]?.getD 0))) ∧ n ≤ cap ∧ cap ≤ maxLen ∧ (a = none → cap = 0)

theorem RdF.later {w w' : World} {B B' : Nat} {a : Option Addr} {n cap : Nat} {zs : List Nat} (h : RdF w B a n cap zs) (hb : Below B w w') (hB : B ≤ B') : RdF w' B' a n cap zs := by
  obtain ⟨h1, h3, h4⟩ := h
  refine ⟨h1, h3.imp id ?_, h4⟩
  rintro ⟨b, o, rfl, hlt, hc⟩
  exact ⟨b, o, rfl, by omega, fun j hj => (hb.cell (p := ⟨b, o + j, none⟩) hlt).trans (hc j hj)⟩

theorem RdF.front {w : World} {B : Nat} {a : Option Addr} {n cap : Nat} {zs : List Nat} (h : RdF w B a n cap zs) (k : Nat) (hk : k ≤ n) : RdF w B a k cap (zs.take k) := by
  obtain ⟨h1, h3, h4, h5, h6⟩ := h
  refine ⟨by rw [List.length_take]; omega, ?_, by omega, h5, h6⟩
  rcases h3 with h3 | ⟨b, o, ha, hlt, hc⟩
  · left; omega
  · right
    refine ⟨b, o, ha, hlt, fun j hj => ?_⟩
    rw [hc j (by omega), List.getElem?_take, if_pos hj]

theorem RdF.own {w : World} {base e : Nat} {v : Value} {zs : List Nat} {n : Nat} (h : w.ownsRow base e 1 v n (zs.map (Value.float .f64))) :
    ∃ a cap, v = .slice a n cap ∧ RdF w w.heap.size a n cap zs := by
  have hl := h.1
  simp at hl
  rcases h.2 with ⟨rfl, rfl⟩ | ⟨g, cap, cur, rfl, hb, hg, hnc, hcm, hcs, ht⟩
  · exact ⟨none, 0, rfl, by omega, .inl rfl, Nat.le_refl _, Nat.zero_le _, fun _ => rfl⟩
  · refine ⟨_, cap, rfl, by omega, ?_, hnc, hcm, fun h => by simp at h⟩
    right
    refine ⟨g, 0, rfl, ?_, fun j hj => ?_⟩
    · have : w.heap[g]?.isSome := by rw [hg]; rfl
      simpa using this
    · have hc := h.cellAt j (by omega)
      rw [Nat.zero_add, hc, List.getElem?_map, List.getElem?_eq_getElem (by omega)]
      simp

end Go.Proofs.YtcfcjnlobpoglaaGreat

/- real.Sum and the document's Sum, of any list of floats. -/
namespace Go.Proofs.YtcfcjnlobpoglaaGreat
open Go.RowKit
set_option linter.unusedVariables false

/-- A struct's memory. -/
def FBox (w : World) (b t : Nat) (vs : Array Value) : Prop := w.heap[b]? = some (.cells vs t (0, 0))
theorem FBox.cell {w : World} {b t : Nat} {vs : Array Value} (h : FBox w b t vs) (j : Nat) : w.cell? ⟨b, j, none⟩ = vs[j]? := by
  unfold FBox at h
  simp [World.cell?, h]
theorem FBox.free {w : World} {b t : Nat} {vs : Array Value} (h : FBox w b t vs) (j : Nat) : w.frozen? ⟨b, j, none⟩ = false := by
  unfold FBox at h
  simp [World.frozen?, h]
theorem FBox.later {w w' : World} {B b t : Nat} {vs : Array Value} (h : FBox w b t vs) (hb : Below B w w') (hlt : b < B) : FBox w' b t vs := by
  unfold FBox at *
  rw [hb.block b hlt]; exact h
theorem FBox.lt {w : World} {b t : Nat} {vs : Array Value} (h : FBox w b t vs) : b < w.heap.size := by
  unfold FBox at h
  have : w.heap[b]?.isSome := by rw [h]; rfl
  simpa using this
theorem FBox.made (w : World) (t : Nat) (vs : Array Value) : FBox (w.alloc (.cells vs t)) w.heap.size t vs := by
  unfold FBox
  show (w.heap.push _)[w.heap.size]? = _
  rw [Array.getElem?_push, if_pos rfl]
theorem FBox.other {w : World} {b t : Nat} {vs : Array Value} (h : FBox w b t vs) (p : Addr) (v : Value) (hne : b ≠ p.block) : FBox (w.setCell p v) b t vs := by
  unfold FBox at *
  rw [Below.heap_setCell w p v b hne]; exact h
theorem FBox.drewN {w : World} {b t : Nat} {vs : Array Value} (h : FBox w b t vs) (n : Nat) : FBox (w.drewN n) b t vs := h
theorem FBox.set {w : World} {b t : Nat} {vs : Array Value} (h : FBox w b t vs) (j : Nat) (v : Value) : FBox (w.setCell ⟨b, j, none⟩ v) b t (vs.setIfInBounds j v) := by
  unfold FBox at *
  simp only [World.setCell, Array.getElem?_modify, if_pos, h]
  simp

theorem fput2 {B : Nat} {a w : World} (h : Below B a w) (b : Nat) (hb : B ≤ b) (v0 v1 : Value) : Below B a ((w.setCell ⟨b, 0, none⟩ v0).setCell ⟨b, 1, none⟩ v1) :=
  (h.setCell (p := ⟨b, 0, none⟩) hb _).setCell (p := ⟨b, 1, none⟩) hb _
theorem fbox_facts {w w' : World} {b t : Nat} {v0 v1 : Value} (h : FBox w b t #[v0, v1]) (hb : Below w.heap.size w w') : w'.cell? ⟨b, 0, none⟩ = some v0 ∧ w'.cell? ⟨b, 1, none⟩ = some v1 ∧ w'.frozen? ⟨b, 0, none⟩ = false ∧ w'.frozen? ⟨b, 1, none⟩ = false := by
  have h' := h.later hb h.lt
  exact ⟨h'.cell 0, h'.cell 1, h'.free 0, h'.free 1⟩

end Go.Proofs.YtcfcjnlobpoglaaGreat

/- Complex fractions: what stands while steps are made one behind the other (for square, times). -/
namespace Go.Proofs.YtcfcjnlobpoglaaGreat
open Go.RowKit
set_option linter.unusedVariables false

/-- What stands while steps are made: their error, the boxes of the call. -/
structure GInv (w : World) (p : Nat) (E : Int) (l : List (Nat × Nat × Array Value)) (V : World) : Prop where
  err : Box V p 114 #[.int .i64 E]
  grown : w.grownBy V (some p)
  box : ∀ x ∈ l, Box V x.1 x.2.1 x.2.2 ∧ x.1 ≠ p
theorem GInv.drew {w V : World} {p : Nat} {E : Int} {l : List (Nat × Nat × Array Value)} (h : GInv w p E l V) : GInv w p E l V.drew := ⟨h.err, ⟨h.grown.os, h.grown.tape, h.grown.output, h.grown.size, h.grown.block⟩, h.box⟩
theorem GInv.step {w V V' : World} {p : Nat} {E code : Int} {l : List (Nat × Nat × Array Value)} (h : GInv w p E l V) (hp : Box V' p 114 #[.int .i64 code]) (hg : V.grownBy V' (some p)) : GInv w p code l V' :=
  ⟨hp, grow_trans h.grown hg, fun x hx => ⟨(h.box x hx).1.kept' hg (fun e => (h.box x hx).2 (Option.some.inj e)), (h.box x hx).2⟩⟩
theorem GInv.alloc {w V : World} {p : Nat} {E : Int} {l : List (Nat × Nat × Array Value)} (h : GInv w p E l V) (ob : Obj) : GInv w p E l (V.alloc ob) :=
  ⟨h.err.later (alloc_later V ob) h.err.lt, grow_trans h.grown (World.grownBy_alloc V ob (some p)), fun x hx => ⟨(h.box x hx).1.later (alloc_later V ob) (h.box x hx).1.lt, (h.box x hx).2⟩⟩
/-- A fraction that a step told, still there. -/
structure GRow (V : World) (base : Nat) (n : Bool) (v : Value) (xs : List Int) (u : Value) (ys : List Int) : Prop where
  ov : V.ownsRow base 66 1 v xs.length (xs.map (Value.int .u32))
  ou : V.ownsRow base 66 1 u ys.length (ys.map (Value.int .u32))
theorem GRow.step {V V' : World} {base p : Nat} {n : Bool} {v u : Value} {xs ys : List Int} (h : GRow V base n v xs u ys) (hp : p < base) (hg : V.grownBy V' (some p)) : GRow V' base n v xs u ys := by
  have hk : ∀ (x : Value), (∀ g, x.ownBlock = some g → base ≤ g) → x.ownBlock = none ∨ x.ownBlock ≠ some p := fun x h1 => by
    cases e : x.ownBlock with
    | none => exact .inl rfl
    | some g => right; intro h; have e2 := Option.some.inj h; have := h1 g e; omega
  exact ⟨World.ownsRow.kept h.ov hg (hk _ (fun g hg => (h.ov.lt g hg).1)), World.ownsRow.kept h.ou hg (hk _ (fun g hg => (h.ou.lt g hg).1))⟩
theorem GRow.sl {V : World} {base : Nat} {n : Bool} {v u : Value} {xs ys : List Int} (h : GRow V base n v xs u ys) (wx : Wd xs) (wy : Wd ys) : Sl V v xs ∧ Sl V u ys := ⟨Sl.own h.ov wx, Sl.own h.ou wy⟩
theorem Sl.kept {V V' : World} {v : Value} {xs : List Int} {p : Nat} (h : Sl V v xs) (hg : V.grownBy V' (some p)) (hne : ∀ a k c, v = .slice (some a) k c → a.block ≠ p) : Sl V' v xs := by
  obtain ⟨a, cap, hv, h1, h2, h3, h4, h5, h6⟩ := h
  refine ⟨a, cap, hv, h1, h2, ?_, h4, h5, h6⟩
  rcases h3 with h3 | ⟨b, off, ha, hb, hc⟩
  · exact .inl h3
  · have hbp : b ≠ p := by subst ha; exact hne _ _ _ hv
    have hs := hg.size
    exact .inr ⟨b, off, ha, by omega, fun j hj => hg.cell (a := ⟨b, off + j, none⟩) (hc j hj) (fun e => hbp (Option.some.inj e))⟩
end Go.Proofs.YtcfcjnlobpoglaaGreat

/- Complex fractions, the steps' own: square: of any complex fraction that was looked at. -/
namespace Go.Proofs.YtcfcjnlobpoglaaGreat
open Go.RowKit
set_option linter.unusedVariables false

theorem cells6 {W : World} {b t : Nat} {u0 u1 u2 u3 u4 u5 : Value} (h : Box W b t #[u0, u1, u2, u3, u4, u5]) : W.cell? ⟨b, 0, none⟩ = some u0 ∧ W.cell? ⟨b, 1, none⟩ = some u1 ∧ W.cell? ⟨b, 2, none⟩ = some u2 ∧ W.cell? ⟨b, 3, none⟩ = some u3 ∧ W.cell? ⟨b, 4, none⟩ = some u4 ∧ W.cell? ⟨b, 5, none⟩ = some u5 :=
  ⟨h.cell 0, h.cell 1, h.cell 2, h.cell 3, h.cell 4, h.cell 5⟩

end Go.Proofs.YtcfcjnlobpoglaaGreat

/- Complex fractions, the steps' own: times: of any two that were looked at. -/
namespace Go.Proofs.YtcfcjnlobpoglaaGreat
open Go.RowKit
set_option linter.unusedVariables false

/-- What stands while steps are made inside one statement that began at X. -/
structure GJ (w X : World) (p : Nat) (E : Int) (l : List (Nat × Nat × Array Value)) (V : World) : Prop where
  inv : GInv w p E l V
  gx : X.grownBy V (some p)
structure GB (w X : World) (p : Nat) (l : List (Nat × Nat × Array Value)) : Prop where
  hw : w.heap.size ≤ X.heap.size
  hp : p < w.heap.size
  hl : ∀ x ∈ l, x.1 < X.heap.size
theorem GJ.first {w X : World} {p : Nat} {E : Int} {l : List (Nat × Nat × Array Value)} (h : GInv w p E l X) : GJ w X p E l X.drew := ⟨h.drew, ⟨rfl, rfl, rfl, Nat.le_refl _, fun _ _ _ => rfl⟩⟩
theorem GJ.drew {w X V : World} {p : Nat} {E : Int} {l : List (Nat × Nat × Array Value)} (h : GJ w X p E l V) : GJ w X p E l V.drew := ⟨h.inv.drew, ⟨h.gx.os, h.gx.tape, h.gx.output, h.gx.size, h.gx.block⟩⟩
theorem GJ.start {w X : World} {p : Nat} {E : Int} {l : List (Nat × Nat × Array Value)} (h : GInv w p E l X) : GJ w X p E l X := ⟨h, ⟨rfl, rfl, rfl, Nat.le_refl _, fun _ _ _ => rfl⟩⟩
theorem GJ.alloc {w X V : World} {p : Nat} {E : Int} {l : List (Nat × Nat × Array Value)} (h : GJ w X p E l V) (ob : Obj) : GJ w X p E l (V.alloc ob) := ⟨h.inv.alloc ob, grow_trans h.gx (World.grownBy_alloc V ob (some p))⟩
theorem GJ.step {w X V V' : World} {p : Nat} {E code : Int} {l : List (Nat × Nat × Array Value)} (h : GJ w X p E l V) (hp : Box V' p 114 #[.int .i64 code]) (hg : V.grownBy V' (some p)) : GJ w X p code l V' := ⟨h.inv.step hp hg, grow_trans h.gx hg⟩
theorem GInv.put3 {w V : World} {p : Nat} {E : Int} {l : List (Nat × Nat × Array Value)} (h : GInv w p E l V) (b : Nat) (hb : w.heap.size ≤ b) (hp : p ≠ b) (hl : ∀ x ∈ l, x.1 ≠ b) (u0 u1 u2 : Value) : GInv w p E l (((V.setCell ⟨b, 0, none⟩ u0).setCell ⟨b, 1, none⟩ u1).setCell ⟨b, 2, none⟩ u2) :=
  ⟨box_far3 h.err hp _ _ _, grow_put3 h.grown b _ _ _ (.inl hb), fun x hx => ⟨box_far3 (h.box x hx).1 (hl x hx) _ _ _, (h.box x hx).2⟩⟩
theorem GJ.put3 {w X V : World} {p : Nat} {E : Int} {l : List (Nat × Nat × Array Value)} (h : GJ w X p E l V) (hB : GB w X p l) (b : Nat) (hb : X.heap.size ≤ b) (u0 u1 u2 : Value) : GJ w X p E l (((V.setCell ⟨b, 0, none⟩ u0).setCell ⟨b, 1, none⟩ u1).setCell ⟨b, 2, none⟩ u2) :=
  ⟨h.inv.put3 b (Nat.le_trans hB.hw hb) (by have := hB.hp; have := hB.hw; omega) (fun x hx => by have := hB.hl x hx; omega) _ _ _, grow_put3 h.gx b _ _ _ (.inl hb)⟩
theorem GInv.more {w V : World} {p : Nat} {E : Int} {l : List (Nat × Nat × Array Value)} (h : GInv w p E l V) {b t : Nat} {vs : Array Value} (hb : Box V b t vs) (hne : b ≠ p) : GInv w p E ((b, t, vs) :: l) V := ⟨h.err, h.grown, fun x hx => by
  cases hx with
  | head => exact ⟨hb, hne⟩
  | tail _ hx => exact h.box x hx⟩
theorem GInv.base {w X : World} {p : Nat} {E : Int} {l : List (Nat × Nat × Array Value)} (h : GInv w p E l X) (hp : p < w.heap.size) : GB w X p l := ⟨h.grown.size, hp, fun x hx => (h.box x hx).1.lt⟩
theorem some_ne {b p : Nat} (h : p < b) : some b ≠ some p := fun e => by have := Option.some.inj e; omega
/-- What one step tells, inside a statement. -/
def GStp (w X : World) (p : Nat) (l : List (Nat × Nat × Array Value)) (V : World) (e : Int) (q : Rat) (x : Ending) (w1 : World) : Prop :=
  ∃ n1 a1 k1 x1 b1 l1 y1 code, x = .returned (.agg #[.bool n1, .slice a1 (List.length x1) k1, .slice b1 (List.length y1) l1]) ∧ Hid (RTells e q n1 x1 y1 code) ∧ Hid (GJ w X p code l w1) ∧ Hid (GRow w1 X.heap.size n1 (.slice a1 (List.length x1) k1) x1 (.slice b1 (List.length y1) l1) y1) ∧ Hid (GRow w1 V.heap.size n1 (.slice a1 (List.length x1) k1) x1 (.slice b1 (List.length y1) l1) y1) ∧ Hid (V.grownBy w1 (some p)) ∧ Hid (Cut V (.slice a1 (List.length x1) k1) (.slice b1 (List.length y1) l1) w1) ∧ X.heap.size ≤ w1.heap.size
theorem gstp {w X V : World} {p : Nat} {EE e : Int} {q : Rat} {l : List (Nat × Nat × Array Value)} {k : Nat} {args : Array Value} (hv : GJ w X p EE l V) (H : Calls Tryz.prog k args V (GTell V p e q)) : Calls Tryz.prog k args V (GStp w X p l V e q) := by
  refine Calls.mono H ?_
  rintro x w1 ⟨n1, v, zs, u, ts, code, rfl, ov, ou, ht, hpb, hg, hcut⟩
  obtain ⟨av, cv, rfl⟩ := own_slice' ov
  obtain ⟨au, cu, rfl⟩ := own_slice' ou
  have hi := hv.step hpb hg
  exact ⟨n1, av, cv, zs, au, cu, ts, code, rfl, hid ht, hid hi, hid ⟨owns_base ov hv.gx.size, owns_base ou hv.gx.size⟩, hid ⟨ov, ou⟩, hid hg, hid hcut, hi.gx.size⟩
/-- Three steps of which the third joins the two ahead of it. -/
def G3 (op : Rat → Rat → Rat) (E e1 e2 : Int) (q1 q2 : Rat) (n3 : Bool) (x3 y3 : List Int) (c3 : Int) : Prop := ∃ n1 x1 y1 c1 n2 x2 y2 c2, RTells (fstE E e1) q1 n1 x1 y1 c1 ∧ RTells (fstE c1 e2) q2 n2 x2 y2 c2 ∧ RTells (fstE c2 (rboth n1 x1 y1 n2 x2 y2)) (op (rq n1 x1 y1) (rq n2 x2 y2)) n3 x3 y3 c3
/-- What the statement leaves: a box with the fraction told. -/
def GCut (w X : World) (p : Nat) (l : List (Nat × Nat × Array Value)) (op : Rat → Rat → Rat) (E e1 e2 : Int) (q1 q2 : Rat) (s : Value) (W : World) : Prop :=
  ∃ b n3 a3 k3 x3 b3 l3 y3 c3, s = .pointer (some ⟨b, 0, none⟩) ∧ X.heap.size ≤ b ∧ G3 op E e1 e2 q1 q2 n3 x3 y3 c3 ∧ GInv w p c3 ((b, 26, #[.bool n3, .slice a3 (List.length x3) k3, .slice b3 (List.length y3) l3]) :: l) W ∧ GRow W X.heap.size n3 (.slice a3 (List.length x3) k3) x3 (.slice b3 (List.length y3) l3) y3 ∧ Cut X (.slice a3 (List.length x3) k3) (.slice b3 (List.length y3) l3) W ∧ X.grownBy W (some p)
theorem gcut_put {w X : World} {p : Nat} {l : List (Nat × Nat × Array Value)} {op : Rat → Rat → Rat} {E e1 e2 : Int} {q1 q2 : Rat} {n1 n2 n3 : Bool} {x1 y1 x2 y2 x3 y3 : List Int} {c1 c2 c3 : Int} {a3 b3 : Option Addr} {k3 l3 : Nat} {w3 V3 : World} {b : Nat} (hB : GB w X p l) (t1 : RTells (fstE E e1) q1 n1 x1 y1 c1) (t2 : RTells (fstE c1 e2) q2 n2 x2 y2 c2) (t3 : RTells (fstE c2 (rboth n1 x1 y1 n2 x2 y2)) (op (rq n1 x1 y1) (rq n2 x2 y2)) n3 x3 y3 c3) (j3 : GJ w X p c3 l w3) (r3 : GRow w3 V3.heap.size n3 (.slice a3 x3.length k3) x3 (.slice b3 y3.length l3) y3) (cut3 : Cut V3 (.slice a3 x3.length k3) (.slice b3 y3.length l3) w3) (hbx : Box w3 b 26 #[.bool false, .slice none 0 0, .slice none 0 0]) (hb3 : b < V3.heap.size) (hXb : X.heap.size ≤ b) :
    GCut w X p l op E e1 e2 q1 q2 (.pointer (some ⟨b, 0, none⟩)) (((w3.setCell ⟨b, 0, none⟩ (.bool n3)).setCell ⟨b, 1, none⟩ (.slice a3 x3.length k3)).setCell ⟨b, 2, none⟩ (.slice b3 y3.length l3)) := by
  have hj := j3.put3 hB b hXb (.bool n3) (.slice a3 x3.length k3) (.slice b3 y3.length l3)
  have hXV : X.heap.size ≤ V3.heap.size := by omega
  refine ⟨b, n3, a3, k3, x3, b3, l3, y3, c3, rfl, hXb, ⟨n1, x1, y1, c1, n2, x2, y2, c2, t1, t2, t3⟩, hj.inv.more (box_put3 hbx _ _ _) (by have := hB.hp; have := hB.hw; omega), ⟨owns_base (own_put3' r3.ov b (fun g hg => by have := (r3.ov.lt g hg).1; omega) _ _ _) hXV, owns_base (own_put3' r3.ou b (fun g hg => by have := (r3.ou.lt g hg).1; omega) _ _ _) hXV⟩, cut3.up hXV (by simp [World.setCell]), hj.gx⟩
theorem gcut_new {w X : World} {p : Nat} {l : List (Nat × Nat × Array Value)} {op : Rat → Rat → Rat} {E e1 e2 : Int} {q1 q2 : Rat} {n1 n2 n3 : Bool} {x1 y1 x2 y2 x3 y3 : List Int} {c1 c2 c3 : Int} {a3 b3 : Option Addr} {k3 l3 : Nat} {w3 V3 : World} (hB : GB w X p l) (t1 : RTells (fstE E e1) q1 n1 x1 y1 c1) (t2 : RTells (fstE c1 e2) q2 n2 x2 y2 c2) (t3 : RTells (fstE c2 (rboth n1 x1 y1 n2 x2 y2)) (op (rq n1 x1 y1) (rq n2 x2 y2)) n3 x3 y3 c3) (j3 : GJ w X p c3 l w3) (r3 : GRow w3 V3.heap.size n3 (.slice a3 x3.length k3) x3 (.slice b3 y3.length l3) y3) (cut3 : Cut V3 (.slice a3 x3.length k3) (.slice b3 y3.length l3) w3) (hXV : X.heap.size ≤ V3.heap.size) :
    GCut w X p l op E e1 e2 q1 q2 (.pointer (some ⟨w3.heap.size, 0, none⟩)) (w3.alloc (.cells #[.bool n3, .slice a3 x3.length k3, .slice b3 y3.length l3] 26)) := by
  have hj := j3.alloc (.cells #[.bool n3, .slice a3 x3.length k3, .slice b3 y3.length l3] 26)
  have hX3 := j3.gx.size
  refine ⟨w3.heap.size, n3, a3, k3, x3, b3, l3, y3, c3, rfl, hX3, ⟨n1, x1, y1, c1, n2, x2, y2, c2, t1, t2, t3⟩, hj.inv.more (Box.made w3 _ _) (by have := hB.hp; have := hB.hw; omega), ⟨owns_base (owns_later r3.ov (alloc_later _ _)) hXV, owns_base (owns_later r3.ou (alloc_later _ _)) hXV⟩, cut3.up hXV (by simp), hj.gx⟩
theorem gbox_far6 {U : World} {b t b' : Nat} {vs : Array Value} (h : Box U b t vs) (hne : b ≠ b') (v0 v1 v2 v3 v4 v5 : Value) : Box ((((((U.setCell ⟨b', 0, none⟩ v0).setCell ⟨b', 1, none⟩ v1).setCell ⟨b', 2, none⟩ v2).setCell ⟨b', 3, none⟩ v3).setCell ⟨b', 4, none⟩ v4).setCell ⟨b', 5, none⟩ v5) b t vs := (((box_far3 h hne v0 v1 v2).other ⟨b', 3, none⟩ v3 hne).other ⟨b', 4, none⟩ v4 hne).other ⟨b', 5, none⟩ v5 hne
theorem grow_put6 {a c : World} {p : Nat} (h : a.grownBy c (some p)) (b : Nat) (u0 u1 u2 u3 u4 u5 : Value) (hb : a.heap.size ≤ b ∨ b = p) : a.grownBy ((((((c.setCell ⟨b, 0, none⟩ u0).setCell ⟨b, 1, none⟩ u1).setCell ⟨b, 2, none⟩ u2).setCell ⟨b, 3, none⟩ u3).setCell ⟨b, 4, none⟩ u4).setCell ⟨b, 5, none⟩ u5) (some p) :=
  grow_put (grow_put (grow_put (grow_put3 h b u0 u1 u2 hb) b 3 u3 hb) b 4 u4 hb) b 5 u5 hb
theorem box3f {W : World} {b t : Nat} {u0 u1 u2 : Value} (h : Box W b t #[u0, u1, u2]) : W.cell? ⟨b, 0, none⟩ = some u0 ∧ W.cell? ⟨b, 1, none⟩ = some u1 ∧ W.cell? ⟨b, 2, none⟩ = some u2 ∧ W.frozen? ⟨b, 0, none⟩ = false ∧ W.frozen? ⟨b, 1, none⟩ = false ∧ W.frozen? ⟨b, 2, none⟩ = false := ⟨h.cell 0, h.cell 1, h.cell 2, h.free 0, h.free 1, h.free 2⟩
/-- What times tells. -/
def GTimes (w : World) (p : Nat) (E e1 e2 e3 e4 : Int) (q1 q2 q3 q4 : Rat) (x : Ending) (w' : World) : Prop :=
  ∃ n3 a3 k3 x3 b3 l3 y3 c3 n6 a6 k6 x6 b6 l6 y6 c6, x = .returned (.agg #[.bool n3, .slice a3 (List.length x3) k3, .slice b3 (List.length y3) l3, .bool n6, .slice a6 (List.length x6) k6, .slice b6 (List.length y6) l6]) ∧ (GRow w' w.heap.size n3 (.slice a3 (List.length x3) k3) x3 (.slice b3 (List.length y3) l3) y3 ∧ GRow w' w.heap.size n6 (.slice a6 (List.length x6) k6) x6 (.slice b6 (List.length y6) l6) y6) ∧ G3 (· - ·) E e1 e2 q1 q2 n3 x3 y3 c3 ∧ G3 (· + ·) c3 e3 e4 q3 q4 n6 x6 y6 c6 ∧ Box w' p 114 #[.int .i64 c6] ∧ w.grownBy w' (some p) ∧ ∃ W1, Cut w (.slice a3 (List.length x3) k3) (.slice b3 (List.length y3) l3) W1 ∧ Cut W1 (.slice a6 (List.length x6) k6) (.slice b6 (List.length y6) l6) w'
set_option maxHeartbeats 6400000 in
set_option maxRecDepth 100000 in
theorem gtimes_any (p : Nat) (E : Int) (n : Bool) (a : Option Addr) (ca : Nat) (xs : List Int) (b : Option Addr) (cb : Nat) (ys : List Int) (m : Bool) (c : Option Addr) (cc : Nat) (us : List Int) (d : Option Addr) (cd : Nat) (vs : List Int) (n2 : Bool) (a2 : Option Addr) (ca2 : Nat) (xs2 : List Int) (b2 : Option Addr) (cb2 : Nat) (ys2 : List Int) (m2 : Bool) (c2 : Option Addr) (cc2 : Nat) (us2 : List Int) (d2 : Option Addr) (cd2 : Nat) (vs2 : List Int) (w : World) (hp : Box w p 114 #[.int .i64 E]) (HS : ∀ V, w.grownBy V (some p) → Sl V (.slice a xs.length ca) xs ∧ Sl V (.slice b ys.length cb) ys ∧ Sl V (.slice c us.length cc) us ∧ Sl V (.slice d vs.length cd) vs ∧ Sl V (.slice a2 xs2.length ca2) xs2 ∧ Sl V (.slice b2 ys2.length cb2) ys2 ∧ Sl V (.slice c2 us2.length cc2) us2 ∧ Sl V (.slice d2 vs2.length cd2) vs2) :
    Calls Tryz.prog 87 #[.pointer (some ⟨p, 0, none⟩), .agg #[.bool n, .slice a xs.length ca, .slice b ys.length cb, .bool m, .slice c us.length cc, .slice d vs.length cd], .agg #[.bool n2, .slice a2 xs2.length ca2, .slice b2 ys2.length cb2, .bool m2, .slice c2 us2.length cc2, .slice d2 vs2.length cd2]] w (GTimes w p E (rboth n xs ys n2 xs2 ys2) (rboth m us vs m2 us2 vs2) (rboth n xs ys m2 us2 vs2) (rboth m us vs n2 xs2 ys2) (rq n xs ys * rq n2 xs2 ys2) (rq m us vs * rq m2 us2 vs2) (rq n xs ys * rq m2 us2 vs2) (rq m us vs * rq n2 xs2 ys2)) := by
  have hpw : p < w.heap.size := hp.lt
  have HPW := hid hpw
  have HSS := hid HS
  have HI : Hid (GInv w p E ((w.heap.size, 28, #[.bool n, .slice a xs.length ca, .slice b ys.length cb, .bool m, .slice c us.length cc, .slice d vs.length cd]) :: (w.heap.size + 1, 28, #[.bool n2, .slice a2 xs2.length ca2, .slice b2 ys2.length cb2, .bool m2, .slice c2 us2.length cc2, .slice d2 vs2.length cd2]) :: (w.heap.size + 1 + 1, 28, #[.bool false, .slice none 0 0, .slice none 0 0, .bool false, .slice none 0 0, .slice none 0 0]) :: []) (((w.alloc (.cells #[.bool n, .slice a xs.length ca, .slice b ys.length cb, .bool m, .slice c us.length cc, .slice d vs.length cd] 28)).alloc (.cells #[.bool n2, .slice a2 xs2.length ca2, .slice b2 ys2.length cb2, .bool m2, .slice c2 us2.length cc2, .slice d2 vs2.length cd2] 28)).alloc (.cells #[.bool false, .slice none 0 0, .slice none 0 0, .bool false, .slice none 0 0, .slice none 0 0] 28))) := by
    have h3 := boxes3r w 28 #[.bool n, .slice a xs.length ca, .slice b ys.length cb, .bool m, .slice c us.length cc, .slice d vs.length cd] #[.bool n2, .slice a2 xs2.length ca2, .slice b2 ys2.length cb2, .bool m2, .slice c2 us2.length cc2, .slice d2 vs2.length cd2] #[.bool false, .slice none 0 0, .slice none 0 0, .bool false, .slice none 0 0, .slice none 0 0]
    refine hid (GInv.more (GInv.more (GInv.more ⟨hp.later h3.2.2.2 hp.lt, grow_below h3.2.2.2 _, fun x hx => by cases hx⟩ h3.2.2.1 (by omega)) h3.2.1 (by omega)) h3.1 (by omega))
  obtain ⟨X, hX⟩ : ∃ X, ((w.alloc (.cells #[.bool n, .slice a xs.length ca, .slice b ys.length cb, .bool m, .slice c us.length cc, .slice d vs.length cd] 28)).alloc (.cells #[.bool n2, .slice a2 xs2.length ca2, .slice b2 ys2.length cb2, .bool m2, .slice c2 us2.length cc2, .slice d2 vs2.length cd2] 28)).alloc (.cells #[.bool false, .slice none 0 0, .slice none 0 0, .bool false, .slice none 0 0, .slice none 0 0] 28) = X := ⟨_, rfl⟩
  rw [hX] at HI
  clear HS hp
  go_enter Tryz.func87, Tryz.ntmps87
  have HK : Hid (∀ V EE, GJ w X p EE ((w.heap.size, 28, #[.bool n, .slice a xs.length ca, .slice b ys.length cb, .bool m, .slice c us.length cc, .slice d vs.length cd]) :: (w.heap.size + 1, 28, #[.bool n2, .slice a2 xs2.length ca2, .slice b2 ys2.length cb2, .bool m2, .slice c2 us2.length cc2, .slice d2 vs2.length cd2]) :: (w.heap.size + 1 + 1, 28, #[.bool false, .slice none 0 0, .slice none 0 0, .bool false, .slice none 0 0, .slice none 0 0]) :: []) V → V.cell? ⟨w.heap.size, 0, none⟩ = some (.bool n) ∧ V.cell? ⟨w.heap.size, 1, none⟩ = some (.slice a xs.length ca) ∧ V.cell? ⟨w.heap.size, 2, none⟩ = some (.slice b ys.length cb) ∧ V.cell? ⟨w.heap.size, 3, none⟩ = some (.bool m) ∧ V.cell? ⟨w.heap.size, 4, none⟩ = some (.slice c us.length cc) ∧ V.cell? ⟨w.heap.size, 5, none⟩ = some (.slice d vs.length cd) ∧ V.cell? ⟨w.heap.size + 1, 0, none⟩ = some (.bool n2) ∧ V.cell? ⟨w.heap.size + 1, 1, none⟩ = some (.slice a2 xs2.length ca2) ∧ V.cell? ⟨w.heap.size + 1, 2, none⟩ = some (.slice b2 ys2.length cb2) ∧ V.cell? ⟨w.heap.size + 1, 3, none⟩ = some (.bool m2) ∧ V.cell? ⟨w.heap.size + 1, 4, none⟩ = some (.slice c2 us2.length cc2) ∧ V.cell? ⟨w.heap.size + 1, 5, none⟩ = some (.slice d2 vs2.length cd2)) := hid (fun V EE hv => by
    obtain ⟨g0, g1, g2, g3, g4, g5⟩ := cells6 (hv.inv.box _ (List.mem_cons_self ..)).1
    obtain ⟨i0, i1, i2, i3, i4, i5⟩ := cells6 (hv.inv.box _ (List.mem_cons_of_mem _ (List.mem_cons_self ..))).1
    exact ⟨g0, g1, g2, g3, g4, g5, i0, i1, i2, i3, i4, i5⟩)
  have H1 : Hid (∀ V EE, GJ w X p EE ((w.heap.size, 28, #[.bool n, .slice a xs.length ca, .slice b ys.length cb, .bool m, .slice c us.length cc, .slice d vs.length cd]) :: (w.heap.size + 1, 28, #[.bool n2, .slice a2 xs2.length ca2, .slice b2 ys2.length cb2, .bool m2, .slice c2 us2.length cc2, .slice d2 vs2.length cd2]) :: (w.heap.size + 1 + 1, 28, #[.bool false, .slice none 0 0, .slice none 0 0, .bool false, .slice none 0 0, .slice none 0 0]) :: []) V → Calls Tryz.prog 95 #[.pointer (some ⟨p, 0, none⟩), .agg #[.bool n, .slice a xs.length ca, .slice b ys.length cb], .agg #[.bool n2, .slice a2 xs2.length ca2, .slice b2 ys2.length cb2]] V (GStp w X p ((w.heap.size, 28, #[.bool n, .slice a xs.length ca, .slice b ys.length cb, .bool m, .slice c us.length cc, .slice d vs.length cd]) :: (w.heap.size + 1, 28, #[.bool n2, .slice a2 xs2.length ca2, .slice b2 ys2.length cb2, .bool m2, .slice c2 us2.length cc2, .slice d2 vs2.length cd2]) :: (w.heap.size + 1 + 1, 28, #[.bool false, .slice none 0 0, .slice none 0 0, .bool false, .slice none 0 0, .slice none 0 0]) :: []) V (fstE EE (rboth n xs ys n2 xs2 ys2)) (rq n xs ys * rq n2 xs2 ys2))) := hid (fun V EE hv => by
    have h := HSS.out V hv.inv.grown
    exact gstp hv (gproduct_any p EE n a ca xs b cb ys n2 a2 ca2 xs2 b2 cb2 ys2 V hv.inv.err h.1 h.2.1 h.2.2.2.2.1 h.2.2.2.2.2.1))
  have H2 : Hid (∀ V EE, GJ w X p EE ((w.heap.size, 28, #[.bool n, .slice a xs.length ca, .slice b ys.length cb, .bool m, .slice c us.length cc, .slice d vs.length cd]) :: (w.heap.size + 1, 28, #[.bool n2, .slice a2 xs2.length ca2, .slice b2 ys2.length cb2, .bool m2, .slice c2 us2.length cc2, .slice d2 vs2.length cd2]) :: (w.heap.size + 1 + 1, 28, #[.bool false, .slice none 0 0, .slice none 0 0, .bool false, .slice none 0 0, .slice none 0 0]) :: []) V → Calls Tryz.prog 95 #[.pointer (some ⟨p, 0, none⟩), .agg #[.bool m, .slice c us.length cc, .slice d vs.length cd], .agg #[.bool m2, .slice c2 us2.length cc2, .slice d2 vs2.length cd2]] V (GStp w X p ((w.heap.size, 28, #[.bool n, .slice a xs.length ca, .slice b ys.length cb, .bool m, .slice c us.length cc, .slice d vs.length cd]) :: (w.heap.size + 1, 28, #[.bool n2, .slice a2 xs2.length ca2, .slice b2 ys2.length cb2, .bool m2, .slice c2 us2.length cc2, .slice d2 vs2.length cd2]) :: (w.heap.size + 1 + 1, 28, #[.bool false, .slice none 0 0, .slice none 0 0, .bool false, .slice none 0 0, .slice none 0 0]) :: []) V (fstE EE (rboth m us vs m2 us2 vs2)) (rq m us vs * rq m2 us2 vs2))) := hid (fun V EE hv => by
    have h := HSS.out V hv.inv.grown
    exact gstp hv (gproduct_any p EE m c cc us d cd vs m2 c2 cc2 us2 d2 cd2 vs2 V hv.inv.err h.2.2.1 h.2.2.2.1 h.2.2.2.2.2.2.1 h.2.2.2.2.2.2.2))
  have H3 : Hid (∀ (V : World) (EE : Int) (n1' : Bool) (a1' : Option Addr) (k1' : Nat) (x1' : List Int) (b1' : Option Addr) (l1' : Nat) (y1' : List Int) (n2' : Bool) (a2' : Option Addr) (k2' : Nat) (x2' : List Int) (b2' : Option Addr) (l2' : Nat) (y2' : List Int), GJ w X p EE ((w.heap.size, 28, #[.bool n, .slice a xs.length ca, .slice b ys.length cb, .bool m, .slice c us.length cc, .slice d vs.length cd]) :: (w.heap.size + 1, 28, #[.bool n2, .slice a2 xs2.length ca2, .slice b2 ys2.length cb2, .bool m2, .slice c2 us2.length cc2, .slice d2 vs2.length cd2]) :: (w.heap.size + 1 + 1, 28, #[.bool false, .slice none 0 0, .slice none 0 0, .bool false, .slice none 0 0, .slice none 0 0]) :: []) V → Sl V (.slice a1' x1'.length k1') x1' ∧ Sl V (.slice b1' y1'.length l1') y1' → Sl V (.slice a2' x2'.length k2') x2' ∧ Sl V (.slice b2' y2'.length l2') y2' → Calls Tryz.prog 94 #[.pointer (some ⟨p, 0, none⟩), .agg #[.bool n1', .slice a1' x1'.length k1', .slice b1' y1'.length l1'], .agg #[.bool n2', .slice a2' x2'.length k2', .slice b2' y2'.length l2']] V (GStp w X p ((w.heap.size, 28, #[.bool n, .slice a xs.length ca, .slice b ys.length cb, .bool m, .slice c us.length cc, .slice d vs.length cd]) :: (w.heap.size + 1, 28, #[.bool n2, .slice a2 xs2.length ca2, .slice b2 ys2.length cb2, .bool m2, .slice c2 us2.length cc2, .slice d2 vs2.length cd2]) :: (w.heap.size + 1 + 1, 28, #[.bool false, .slice none 0 0, .slice none 0 0, .bool false, .slice none 0 0, .slice none 0 0]) :: []) V (fstE EE (rboth n1' x1' y1' n2' x2' y2')) (rq n1' x1' y1' - rq n2' x2' y2'))) := hid (fun V EE n1' a1' k1' x1' b1' l1' y1' n2' a2' k2' x2' b2' l2' y2' hv h1 h2 => gstp hv (gdifference_any p EE n1' a1' k1' x1' b1' l1' y1' n2' a2' k2' x2' b2' l2' y2' V hv.inv.err h1.1 h1.2 h2.1 h2.2))
  have HGB := hid (GInv.base HI.out HPW.out)
  have HD := hid (GJ.first HI.out)
  have HD0 := hid (GJ.start HI.out)
  have hs0 := HK.out _ _ HD.out
  have hwX : w.heap.size ≤ X.heap.size := HGB.out.hw
  have hpX : p < X.heap.size := Nat.lt_of_lt_of_le HPW.out hwX
  go_upto_region 1 with fail
  go_cut [7] from 9 (fun s wx => Hid (GCut w X p ((w.heap.size, 28, #[.bool n, .slice a xs.length ca, .slice b ys.length cb, .bool m, .slice c us.length cc, .slice d vs.length cd]) :: (w.heap.size + 1, 28, #[.bool n2, .slice a2 xs2.length ca2, .slice b2 ys2.length cb2, .bool m2, .slice c2 us2.length cc2, .slice d2 vs2.length cd2]) :: (w.heap.size + 1 + 1, 28, #[.bool false, .slice none 0 0, .slice none 0 0, .bool false, .slice none 0 0, .slice none 0 0]) :: []) (· - ·) E (rboth n xs ys n2 xs2 ys2) (rboth m us vs m2 us2 vs2) (rq n xs ys * rq n2 xs2 ys2) (rq m us vs * rq m2 us2 vs2) s wx))
  case first =>
    go_region_held3 (fun V : World => V.cell? ⟨w.heap.size, 0, none⟩ = some (.bool n) ∧ V.cell? ⟨w.heap.size, 1, none⟩ = some (.slice a xs.length ca) ∧ V.cell? ⟨w.heap.size, 2, none⟩ = some (.slice b ys.length cb) ∧ V.cell? ⟨w.heap.size, 3, none⟩ = some (.bool m) ∧ V.cell? ⟨w.heap.size, 4, none⟩ = some (.slice c us.length cc) ∧ V.cell? ⟨w.heap.size, 5, none⟩ = some (.slice d vs.length cd) ∧ V.cell? ⟨w.heap.size + 1, 0, none⟩ = some (.bool n2) ∧ V.cell? ⟨w.heap.size + 1, 1, none⟩ = some (.slice a2 xs2.length ca2) ∧ V.cell? ⟨w.heap.size + 1, 2, none⟩ = some (.slice b2 ys2.length cb2) ∧ V.cell? ⟨w.heap.size + 1, 3, none⟩ = some (.bool m2) ∧ V.cell? ⟨w.heap.size + 1, 4, none⟩ = some (.slice c2 us2.length cc2) ∧ V.cell? ⟨w.heap.size + 1, 5, none⟩ = some (.slice d2 vs2.length cd2)) (first | exact hs3 | exact hs2 | exact hs1 | exact hs0 | exact HK.out _ _ (j3.out.alloc _) | exact HK.out _ _ (j3.out.put3 HGB.out _ (by omega) _ _ _) | exact HK.out _ _ (j2.out.alloc _) | exact HK.out _ _ (j1.out.alloc _) | exact HK.out _ _ (HD0.out.alloc _) | exact HK.out _ _ (HD0.out.alloc _).drew | exact HK.out _ _ (HD.out.alloc _))
      (first
        | (go_at_call 95; (with_reducible refine Calls.mono (H2.out _ e1 (by first | exact j1.out | exact j1.out.alloc _)) ?_); rintro x w2 ⟨n2', a2', k2', x2', b2', l2', y2', e2, rfl, t2, j2, r2, rv2, g2, cut2, z2⟩; have hs2 := HK.out _ _ j2.out)
        | (go_at_call 95; (with_reducible refine Calls.mono (H1.out _ E (by first | exact HD.out | exact (HD0.out.alloc _).drew | exact HD.out.alloc _)) ?_); rintro x w1 ⟨n1', a1', k1', x1', b1', l1', y1', e1, rfl, t1, j1, r1, rv1, g1, cut1, z1⟩; have hs1 := HK.out _ _ j1.out)
        | (go_at_call 94; (with_reducible refine Calls.mono (H3.out _ e2 n1' a1' k1' x1' b1' l1' y1' n2' a2' k2' x2' b2' l2' y2' (by first | exact j2.out | exact j2.out.alloc _) (by first | exact (r1.out.step hpX g2.out).sl t1.out.wx t1.out.wy | exact (r1.out.step hpX (grow_trans (World.grownBy_alloc _ _ _) g2.out)).sl t1.out.wx t1.out.wy | exact (r1.out.step hpX (grow_trans g2.out (World.grownBy_alloc _ _ _))).sl t1.out.wx t1.out.wy) (by first | exact r2.out.sl t2.out.wx t2.out.wy | exact (r2.out.step hpX (World.grownBy_alloc _ _ _)).sl t2.out.wx t2.out.wy)) ?_); rintro x w3 ⟨n3, a3, k3, x3, b3, l3, y3, e3, rfl, t3, j3, r3, rv3, g3, cut3, z3⟩; have hs3 := HK.out _ _ j3.out; (first | (have HQ2 : Hid (Box w2 X.heap.size 26 #[.bool false, .slice none 0 0, .slice none 0 0]) := hid (((show Box ((X.alloc (.cells #[.bool false, .slice none 0 0, .slice none 0 0] 26)).drew) X.heap.size 26 #[.bool false, .slice none 0 0, .slice none 0 0] from Box.made X 26 #[.bool false, .slice none 0 0, .slice none 0 0]).kept' g1.out (some_ne hpX)).kept' g2.out (some_ne hpX)); have HQ := hid (HQ2.out.kept' g3.out (some_ne hpX)); obtain ⟨q0, q1, q2, f0, f1, f2⟩ := box3f HQ.out) | (have HQ2 : Hid (Box w2 w1.heap.size 26 #[.bool false, .slice none 0 0, .slice none 0 0]) := hid ((Box.made w1 26 #[.bool false, .slice none 0 0, .slice none 0 0]).kept' g2.out (some_ne (Nat.lt_of_lt_of_le hpX z1))); have HQ := hid (HQ2.out.kept' g3.out (some_ne (Nat.lt_of_lt_of_le hpX z1))); obtain ⟨q0, q1, q2, f0, f1, f2⟩ := box3f HQ.out) | (have HQ2 : Hid (Box (w2.alloc (.cells #[.bool false, .slice none 0 0, .slice none 0 0] 26)) w2.heap.size 26 #[.bool false, .slice none 0 0, .slice none 0 0]) := hid (Box.made w2 26 #[.bool false, .slice none 0 0, .slice none 0 0]); have HQ := hid (HQ2.out.kept' g3.out (some_ne (Nat.lt_of_lt_of_le hpX z2))); obtain ⟨q0, q1, q2, f0, f1, f2⟩ := box3f HQ.out) | skip)))
    all_goals
      clear hs0 hs1 hs2 hs3 H1 H2 H3 HK
      go_wp2_with fail
      go_meet
    all_goals first | with_reducible exact hid (gcut_put HGB.out t1.out t2.out t3.out j3.out rv3.out cut3.out HQ.out HQ2.out.lt (by omega)) | with_reducible exact hid (gcut_new HGB.out t1.out t2.out t3.out j3.out rv3.out cut3.out z2)
  case rest =>
    obtain ⟨g7, n3, a3, k3, x3, b3, l3, y3, c3, rfl, hg7, T3, I3, R3, C3, G3'⟩ := hcut.out
    have HT3 := hid T3; have HI3 := hid I3; have HR3 := hid R3; have HC3 := hid C3; have HG3 := hid G3'
    clear T3 I3 R3 C3 G3' hcut HK H1 H2 H3 HGB HD HD0 hs0 hwX hpX
    have HK : Hid (∀ V EE, GJ w wc p EE ((g7, 26, #[.bool n3, .slice a3 x3.length k3, .slice b3 y3.length l3]) :: (w.heap.size, 28, #[.bool n, .slice a xs.length ca, .slice b ys.length cb, .bool m, .slice c us.length cc, .slice d vs.length cd]) :: (w.heap.size + 1, 28, #[.bool n2, .slice a2 xs2.length ca2, .slice b2 ys2.length cb2, .bool m2, .slice c2 us2.length cc2, .slice d2 vs2.length cd2]) :: (w.heap.size + 1 + 1, 28, #[.bool false, .slice none 0 0, .slice none 0 0, .bool false, .slice none 0 0, .slice none 0 0]) :: []) V → V.cell? ⟨w.heap.size, 0, none⟩ = some (.bool n) ∧ V.cell? ⟨w.heap.size, 1, none⟩ = some (.slice a xs.length ca) ∧ V.cell? ⟨w.heap.size, 2, none⟩ = some (.slice b ys.length cb) ∧ V.cell? ⟨w.heap.size, 3, none⟩ = some (.bool m) ∧ V.cell? ⟨w.heap.size, 4, none⟩ = some (.slice c us.length cc) ∧ V.cell? ⟨w.heap.size, 5, none⟩ = some (.slice d vs.length cd) ∧ V.cell? ⟨w.heap.size + 1, 0, none⟩ = some (.bool n2) ∧ V.cell? ⟨w.heap.size + 1, 1, none⟩ = some (.slice a2 xs2.length ca2) ∧ V.cell? ⟨w.heap.size + 1, 2, none⟩ = some (.slice b2 ys2.length cb2) ∧ V.cell? ⟨w.heap.size + 1, 3, none⟩ = some (.bool m2) ∧ V.cell? ⟨w.heap.size + 1, 4, none⟩ = some (.slice c2 us2.length cc2) ∧ V.cell? ⟨w.heap.size + 1, 5, none⟩ = some (.slice d2 vs2.length cd2)) := hid (fun V EE hv => by
      obtain ⟨g0, g1, g2, g3, g4, g5⟩ := cells6 (hv.inv.box _ (List.mem_cons_of_mem _ (List.mem_cons_self ..))).1
      obtain ⟨i0, i1, i2, i3, i4, i5⟩ := cells6 (hv.inv.box _ (List.mem_cons_of_mem _ (List.mem_cons_of_mem _ (List.mem_cons_self ..)))).1
      exact ⟨g0, g1, g2, g3, g4, g5, i0, i1, i2, i3, i4, i5⟩)
    have H1 : Hid (∀ V EE, GJ w wc p EE ((g7, 26, #[.bool n3, .slice a3 x3.length k3, .slice b3 y3.length l3]) :: (w.heap.size, 28, #[.bool n, .slice a xs.length ca, .slice b ys.length cb, .bool m, .slice c us.length cc, .slice d vs.length cd]) :: (w.heap.size + 1, 28, #[.bool n2, .slice a2 xs2.length ca2, .slice b2 ys2.length cb2, .bool m2, .slice c2 us2.length cc2, .slice d2 vs2.length cd2]) :: (w.heap.size + 1 + 1, 28, #[.bool false, .slice none 0 0, .slice none 0 0, .bool false, .slice none 0 0, .slice none 0 0]) :: []) V → Calls Tryz.prog 95 #[.pointer (some ⟨p, 0, none⟩), .agg #[.bool n, .slice a xs.length ca, .slice b ys.length cb], .agg #[.bool m2, .slice c2 us2.length cc2, .slice d2 vs2.length cd2]] V (GStp w wc p ((g7, 26, #[.bool n3, .slice a3 x3.length k3, .slice b3 y3.length l3]) :: (w.heap.size, 28, #[.bool n, .slice a xs.length ca, .slice b ys.length cb, .bool m, .slice c us.length cc, .slice d vs.length cd]) :: (w.heap.size + 1, 28, #[.bool n2, .slice a2 xs2.length ca2, .slice b2 ys2.length cb2, .bool m2, .slice c2 us2.length cc2, .slice d2 vs2.length cd2]) :: (w.heap.size + 1 + 1, 28, #[.bool false, .slice none 0 0, .slice none 0 0, .bool false, .slice none 0 0, .slice none 0 0]) :: []) V (fstE EE (rboth n xs ys m2 us2 vs2)) (rq n xs ys * rq m2 us2 vs2))) := hid (fun V EE hv => by
      have h := HSS.out V hv.inv.grown
      exact gstp hv (gproduct_any p EE n a ca xs b cb ys m2 c2 cc2 us2 d2 cd2 vs2 V hv.inv.err h.1 h.2.1 h.2.2.2.2.2.2.1 h.2.2.2.2.2.2.2))
    have H2 : Hid (∀ V EE, GJ w wc p EE ((g7, 26, #[.bool n3, .slice a3 x3.length k3, .slice b3 y3.length l3]) :: (w.heap.size, 28, #[.bool n, .slice a xs.length ca, .slice b ys.length cb, .bool m, .slice c us.length cc, .slice d vs.length cd]) :: (w.heap.size + 1, 28, #[.bool n2, .slice a2 xs2.length ca2, .slice b2 ys2.length cb2, .bool m2, .slice c2 us2.length cc2, .slice d2 vs2.length cd2]) :: (w.heap.size + 1 + 1, 28, #[.bool false, .slice none 0 0, .slice none 0 0, .bool false, .slice none 0 0, .slice none 0 0]) :: []) V → Calls Tryz.prog 95 #[.pointer (some ⟨p, 0, none⟩), .agg #[.bool m, .slice c us.length cc, .slice d vs.length cd], .agg #[.bool n2, .slice a2 xs2.length ca2, .slice b2 ys2.length cb2]] V (GStp w wc p ((g7, 26, #[.bool n3, .slice a3 x3.length k3, .slice b3 y3.length l3]) :: (w.heap.size, 28, #[.bool n, .slice a xs.length ca, .slice b ys.length cb, .bool m, .slice c us.length cc, .slice d vs.length cd]) :: (w.heap.size + 1, 28, #[.bool n2, .slice a2 xs2.length ca2, .slice b2 ys2.length cb2, .bool m2, .slice c2 us2.length cc2, .slice d2 vs2.length cd2]) :: (w.heap.size + 1 + 1, 28, #[.bool false, .slice none 0 0, .slice none 0 0, .bool false, .slice none 0 0, .slice none 0 0]) :: []) V (fstE EE (rboth m us vs n2 xs2 ys2)) (rq m us vs * rq n2 xs2 ys2))) := hid (fun V EE hv => by
      have h := HSS.out V hv.inv.grown
      exact gstp hv (gproduct_any p EE m c cc us d cd vs n2 a2 ca2 xs2 b2 cb2 ys2 V hv.inv.err h.2.2.1 h.2.2.2.1 h.2.2.2.2.1 h.2.2.2.2.2.1))
    have H3 : Hid (∀ (V : World) (EE : Int) (n1' : Bool) (a1' : Option Addr) (k1' : Nat) (x1' : List Int) (b1' : Option Addr) (l1' : Nat) (y1' : List Int) (n2' : Bool) (a2' : Option Addr) (k2' : Nat) (x2' : List Int) (b2' : Option Addr) (l2' : Nat) (y2' : List Int), GJ w wc p EE ((g7, 26, #[.bool n3, .slice a3 x3.length k3, .slice b3 y3.length l3]) :: (w.heap.size, 28, #[.bool n, .slice a xs.length ca, .slice b ys.length cb, .bool m, .slice c us.length cc, .slice d vs.length cd]) :: (w.heap.size + 1, 28, #[.bool n2, .slice a2 xs2.length ca2, .slice b2 ys2.length cb2, .bool m2, .slice c2 us2.length cc2, .slice d2 vs2.length cd2]) :: (w.heap.size + 1 + 1, 28, #[.bool false, .slice none 0 0, .slice none 0 0, .bool false, .slice none 0 0, .slice none 0 0]) :: []) V → Sl V (.slice a1' x1'.length k1') x1' ∧ Sl V (.slice b1' y1'.length l1') y1' → Sl V (.slice a2' x2'.length k2') x2' ∧ Sl V (.slice b2' y2'.length l2') y2' → Calls Tryz.prog 96 #[.pointer (some ⟨p, 0, none⟩), .agg #[.bool n1', .slice a1' x1'.length k1', .slice b1' y1'.length l1'], .agg #[.bool n2', .slice a2' x2'.length k2', .slice b2' y2'.length l2']] V (GStp w wc p ((g7, 26, #[.bool n3, .slice a3 x3.length k3, .slice b3 y3.length l3]) :: (w.heap.size, 28, #[.bool n, .slice a xs.length ca, .slice b ys.length cb, .bool m, .slice c us.length cc, .slice d vs.length cd]) :: (w.heap.size + 1, 28, #[.bool n2, .slice a2 xs2.length ca2, .slice b2 ys2.length cb2, .bool m2, .slice c2 us2.length cc2, .slice d2 vs2.length cd2]) :: (w.heap.size + 1 + 1, 28, #[.bool false, .slice none 0 0, .slice none 0 0, .bool false, .slice none 0 0, .slice none 0 0]) :: []) V (fstE EE (rboth n1' x1' y1' n2' x2' y2')) (rq n1' x1' y1' + rq n2' x2' y2'))) := hid (fun V EE n1' a1' k1' x1' b1' l1' y1' n2' a2' k2' x2' b2' l2' y2' hv h1 h2 => gstp hv (gsum_any p EE n1' a1' k1' x1' b1' l1' y1' n2' a2' k2' x2' b2' l2' y2' V hv.inv.err h1.1 h1.2 h2.1 h2.2))
    have HGB := hid (GInv.base HI3.out HPW.out)
    have HD := hid (GJ.first HI3.out)
    have HD0 := hid (GJ.start HI3.out)
    have hs0 := HK.out _ _ HD.out
    have hwX : w.heap.size ≤ wc.heap.size := HGB.out.hw
    have hpX : p < wc.heap.size := Nat.lt_of_lt_of_le HPW.out hwX
    go_upto_region 2 with fail
    go_cut [8] from 23 (fun s wx => Hid (GCut w wc p ((g7, 26, #[.bool n3, .slice a3 x3.length k3, .slice b3 y3.length l3]) :: (w.heap.size, 28, #[.bool n, .slice a xs.length ca, .slice b ys.length cb, .bool m, .slice c us.length cc, .slice d vs.length cd]) :: (w.heap.size + 1, 28, #[.bool n2, .slice a2 xs2.length ca2, .slice b2 ys2.length cb2, .bool m2, .slice c2 us2.length cc2, .slice d2 vs2.length cd2]) :: (w.heap.size + 1 + 1, 28, #[.bool false, .slice none 0 0, .slice none 0 0, .bool false, .slice none 0 0, .slice none 0 0]) :: []) (· + ·) c3 (rboth n xs ys m2 us2 vs2) (rboth m us vs n2 xs2 ys2) (rq n xs ys * rq m2 us2 vs2) (rq m us vs * rq n2 xs2 ys2) s wx))
    case first =>
      go_region_held3 (fun V : World => V.cell? ⟨w.heap.size, 0, none⟩ = some (.bool n) ∧ V.cell? ⟨w.heap.size, 1, none⟩ = some (.slice a xs.length ca) ∧ V.cell? ⟨w.heap.size, 2, none⟩ = some (.slice b ys.length cb) ∧ V.cell? ⟨w.heap.size, 3, none⟩ = some (.bool m) ∧ V.cell? ⟨w.heap.size, 4, none⟩ = some (.slice c us.length cc) ∧ V.cell? ⟨w.heap.size, 5, none⟩ = some (.slice d vs.length cd) ∧ V.cell? ⟨w.heap.size + 1, 0, none⟩ = some (.bool n2) ∧ V.cell? ⟨w.heap.size + 1, 1, none⟩ = some (.slice a2 xs2.length ca2) ∧ V.cell? ⟨w.heap.size + 1, 2, none⟩ = some (.slice b2 ys2.length cb2) ∧ V.cell? ⟨w.heap.size + 1, 3, none⟩ = some (.bool m2) ∧ V.cell? ⟨w.heap.size + 1, 4, none⟩ = some (.slice c2 us2.length cc2) ∧ V.cell? ⟨w.heap.size + 1, 5, none⟩ = some (.slice d2 vs2.length cd2)) (first | exact hs3 | exact hs2 | exact hs1 | exact hs0 | exact HK.out _ _ (j3.out.alloc _) | exact HK.out _ _ (j3.out.put3 HGB.out _ (by omega) _ _ _) | exact HK.out _ _ (j2.out.alloc _) | exact HK.out _ _ (j1.out.alloc _) | exact HK.out _ _ (HD0.out.alloc _) | exact HK.out _ _ (HD0.out.alloc _).drew | exact HK.out _ _ (HD.out.alloc _))
        (first
          | (go_at_call 95; (with_reducible refine Calls.mono (H2.out _ e1 (by first | exact j1.out | exact j1.out.alloc _)) ?_); rintro x w2 ⟨n2', a2', k2', x2', b2', l2', y2', e2, rfl, t2, j2, r2, rv2, g2, cut2, z2⟩; have hs2 := HK.out _ _ j2.out)
          | (go_at_call 95; (with_reducible refine Calls.mono (H1.out _ c3 (by first | exact HD.out | exact (HD0.out.alloc _).drew | exact HD.out.alloc _)) ?_); rintro x w1 ⟨n1', a1', k1', x1', b1', l1', y1', e1, rfl, t1, j1, r1, rv1, g1, cut1, z1⟩; have hs1 := HK.out _ _ j1.out)
          | (go_at_call 96; (with_reducible refine Calls.mono (H3.out _ e2 n1' a1' k1' x1' b1' l1' y1' n2' a2' k2' x2' b2' l2' y2' (by first | exact j2.out | exact j2.out.alloc _) (by first | exact (r1.out.step hpX g2.out).sl t1.out.wx t1.out.wy | exact (r1.out.step hpX (grow_trans (World.grownBy_alloc _ _ _) g2.out)).sl t1.out.wx t1.out.wy | exact (r1.out.step hpX (grow_trans g2.out (World.grownBy_alloc _ _ _))).sl t1.out.wx t1.out.wy) (by first | exact r2.out.sl t2.out.wx t2.out.wy | exact (r2.out.step hpX (World.grownBy_alloc _ _ _)).sl t2.out.wx t2.out.wy)) ?_); rintro x w3 ⟨n3, a3, k3, x3, b3, l3, y3, e3, rfl, t3, j3, r3, rv3, g3, cut3, z3⟩; have hs3 := HK.out _ _ j3.out; (first | (have HQ2 : Hid (Box w2 wc.heap.size 26 #[.bool false, .slice none 0 0, .slice none 0 0]) := hid (((show Box ((wc.alloc (.cells #[.bool false, .slice none 0 0, .slice none 0 0] 26)).drew) wc.heap.size 26 #[.bool false, .slice none 0 0, .slice none 0 0] from Box.made wc 26 #[.bool false, .slice none 0 0, .slice none 0 0]).kept' g1.out (some_ne hpX)).kept' g2.out (some_ne hpX)); have HQ := hid (HQ2.out.kept' g3.out (some_ne hpX)); obtain ⟨q0, q1, q2, f0, f1, f2⟩ := box3f HQ.out) | (have HQ2 : Hid (Box w2 w1.heap.size 26 #[.bool false, .slice none 0 0, .slice none 0 0]) := hid ((Box.made w1 26 #[.bool false, .slice none 0 0, .slice none 0 0]).kept' g2.out (some_ne (Nat.lt_of_lt_of_le hpX z1))); have HQ := hid (HQ2.out.kept' g3.out (some_ne (Nat.lt_of_lt_of_le hpX z1))); obtain ⟨q0, q1, q2, f0, f1, f2⟩ := box3f HQ.out) | (have HQ2 : Hid (Box (w2.alloc (.cells #[.bool false, .slice none 0 0, .slice none 0 0] 26)) w2.heap.size 26 #[.bool false, .slice none 0 0, .slice none 0 0]) := hid (Box.made w2 26 #[.bool false, .slice none 0 0, .slice none 0 0]); have HQ := hid (HQ2.out.kept' g3.out (some_ne (Nat.lt_of_lt_of_le hpX z2))); obtain ⟨q0, q1, q2, f0, f1, f2⟩ := box3f HQ.out) | skip)))
      all_goals
        clear hs0 hs1 hs2 hs3 H1 H2 H3 HK
        go_wp2_with fail
        go_meet
      all_goals first | with_reducible exact hid (gcut_put HGB.out t1.out t2.out t3.out j3.out rv3.out cut3.out HQ.out HQ2.out.lt (by omega)) | with_reducible exact hid (gcut_new HGB.out t1.out t2.out t3.out j3.out rv3.out cut3.out z2)
    case rest =>
      obtain ⟨g8, n6, a6, k6, x6, b6, l6, y6, c6, rfl, hg8, T6, I6, R6, C6, G6⟩ := hcut.out
      have hX3 : w.heap.size + 1 + 1 < X.heap.size := (HI.out.box _ (List.mem_cons_of_mem _ (List.mem_cons_of_mem _ (List.mem_cons_self ..)))).1.lt
      have hwc := HG3.out.size
      have HRR := hid (HR3.out.step (show p < X.heap.size by omega) G6)
      have HR6 := hid R6
      have HI6 := hid I6
      have HT6 := hid T6
      have HC6 := hid C6
      have HBR := hid (I6.box _ (List.mem_cons_of_mem _ (List.mem_cons_of_mem _ (List.mem_cons_of_mem _ (List.mem_cons_of_mem _ (List.mem_cons_self ..)))))).1
      obtain ⟨s0, s1, s2, _, _, _⟩ := box3f (I6.box _ (List.mem_cons_of_mem _ (List.mem_cons_self ..))).1
      obtain ⟨t0, t1, t2, _, _, _⟩ := box3f (I6.box _ (List.mem_cons_self ..)).1
      obtain ⟨m0, m1, m2', m3, m4, m5⟩ := cells6 HBR.out
      have f0 := HBR.out.free 0
      have f1 := HBR.out.free 1
      have f2 := HBR.out.free 2
      have f3 := HBR.out.free 3
      have f4 := HBR.out.free 4
      have f5 := HBR.out.free 5
      have hg6 := G6.size
      clear T6 I6 R6 C6 G6 hcut HK H1 H2 H3 HGB HD HD0 hs0 hwX hpX hX HSS
      go_wp2_with fail
      have B1 := box_put6 HBR.out (.bool n3) (.slice a3 x3.length k3) (.slice b3 y3.length l3) (.bool n6) (.slice a6 x6.length k6) (.slice b6 y6.length l6)
      have hne : p ≠ w.heap.size + 1 + 1 := by omega
      have P1 := gbox_far6 HI6.out.err hne (.bool n3) (.slice a3 x3.length k3) (.slice b3 y3.length l3) (.bool n6) (.slice a6 x6.length k6) (.slice b6 y6.length l6)
      have V3 := own_put6 HRR.out.ov (w.heap.size + 1 + 1) (fun g hg => by have := (HRR.out.ov.lt g hg).1; omega) (.bool n3) (.slice a3 x3.length k3) (.slice b3 y3.length l3) (.bool n6) (.slice a6 x6.length k6) (.slice b6 y6.length l6)
      have U3 := own_put6 HRR.out.ou (w.heap.size + 1 + 1) (fun g hg => by have := (HRR.out.ou.lt g hg).1; omega) (.bool n3) (.slice a3 x3.length k3) (.slice b3 y3.length l3) (.bool n6) (.slice a6 x6.length k6) (.slice b6 y6.length l6)
      have V6 := own_put6 HR6.out.ov (w.heap.size + 1 + 1) (fun g hg => by have := (HR6.out.ov.lt g hg).1; omega) (.bool n3) (.slice a3 x3.length k3) (.slice b3 y3.length l3) (.bool n6) (.slice a6 x6.length k6) (.slice b6 y6.length l6)
      have U6 := own_put6 HR6.out.ou (w.heap.size + 1 + 1) (fun g hg => by have := (HR6.out.ou.lt g hg).1; omega) (.bool n3) (.slice a3 x3.length k3) (.slice b3 y3.length l3) (.bool n6) (.slice a6 x6.length k6) (.slice b6 y6.length l6)
      have G1 := grow_put6 HI6.out.grown (w.heap.size + 1 + 1) (.bool n3) (.slice a3 x3.length k3) (.slice b3 y3.length l3) (.bool n6) (.slice a6 x6.length k6) (.slice b6 y6.length l6) (.inl (by omega))
      have hwX : w.heap.size ≤ X.heap.size := by omega
      refine bodyPost_ret (results_cell_row (by rfl) _ _ (w.heap.size + 1 + 1) 28 _ (0, 0) _ (by rfl) B1 Tryz.underlying28 rfl (by kernel_rfl)) rfl ?_
      exact ⟨n3, a3, k3, x3, b3, l3, y3, c3, n6, a6, k6, x6, b6, l6, y6, c6, rfl, ⟨⟨owns_base V3 hwX, owns_base U3 hwX⟩, ⟨owns_base V6 (by omega), owns_base U6 (by omega)⟩⟩, HT3.out, HT6.out, P1, G1, _, HC3.out.up hwX (Nat.le_refl _), HC6.out.up (Nat.le_refl _) (by simp [World.setCell])⟩
end Go.Proofs.YtcfcjnlobpoglaaGreat

/- Complex fractions: gauss.Mul: of any two, good or refused. -/
namespace Go.Proofs.YtcfcjnlobpoglaaGreat
open Go.RowKit
set_option linter.unusedVariables false

/-- What some steps tell, E what was refused ahead, L whether something on the way is too long. -/
structure GT3 (E : Int) (L : Prop) (q : Rat) (n : Bool) (xs ys : List Int) (code : Int) : Prop where
  wx : Wd xs
  wy : Wd ys
  bad : E ≠ 0 → n = false ∧ xs = [] ∧ ys = [] ∧ code = E
  long : E = 0 → L → n = false ∧ xs = [] ∧ ys = [] ∧ code = 3
  good : E = 0 → ¬ L → code = 0 ∧ rchk n xs ys = 0 ∧ rq n xs ys = q
theorem GT3.ok {E : Int} {L : Prop} {q : Rat} {n : Bool} {xs ys : List Int} (h : GT3 E L q n xs ys 0) : E = 0 ∧ ¬ L := by
  by_cases hE : E = 0
  · refine ⟨hE, fun hl => ?_⟩
    have e := (h.long hE hl).2.2.2
    exact absurd e (by decide)
  · exact absurd (h.bad hE).2.2.2.symm hE
theorem GT3.of {E e : Int} {q : Rat} {n : Bool} {xs ys : List Int} {c : Int} (h : RTells (fstE E e) q n xs ys c) (z : E = 0 → e = 0) : GT3 E (rlong q) q n xs ys c := by
  by_cases hE : E = 0
  · subst hE
    rw [fstE_zero, z rfl] at h
    exact ⟨h.wx, h.wy, fun h' => absurd rfl h', fun _ => h.long rfl, fun _ => h.good rfl⟩
  · rw [fstE_err _ hE] at h
    exact ⟨h.wx, h.wy, fun _ => h.bad hE, fun h' => absurd h' hE, fun h' => absurd h' hE⟩
theorem GT3.then {E c1 : Int} {L1 L2 : Prop} {q1 q2 : Rat} {n1 n2 : Bool} {x1 y1 x2 y2 : List Int} {c2 : Int} (h1 : GT3 E L1 q1 n1 x1 y1 c1) (h2 : GT3 c1 L2 q2 n2 x2 y2 c2) : GT3 E (L1 ∨ L2) q2 n2 x2 y2 c2 := by
  refine ⟨h2.wx, h2.wy, fun hE => ?_, fun hE hl => ?_, fun hE hl => ?_⟩
  · have e := (h1.bad hE).2.2.2
    subst e
    exact h2.bad hE
  · by_cases l1 : L1
    · have e := (h1.long hE l1).2.2.2
      subst e
      exact h2.bad (by decide)
    · have e := (h1.good hE l1).1
      subst e
      exact h2.long rfl (hl.resolve_left l1)
  · have e := (h1.good hE (fun h => hl (.inl h))).1
    subst e
    exact h2.good rfl (fun h => hl (.inr h))
/-- Three steps of which the third joins the two ahead of it. -/
theorem g3_tells {op : Rat → Rat → Rat} {E e1 e2 : Int} {q1 q2 : Rat} {n : Bool} {x y : List Int} {c : Int} (h : G3 op E e1 e2 q1 q2 n x y c) (z1 : E = 0 → e1 = 0) (z2 : E = 0 → e2 = 0) : GT3 E ((rlong q1 ∨ rlong q2) ∨ rlong (op q1 q2)) (op q1 q2) n x y c := by
  obtain ⟨n1, x1, y1, c1, n2, x2, y2, c2, t1, t2, t3⟩ := h
  have h1 := GT3.of t1 z1
  have h2 : GT3 c1 (rlong q2) q2 n2 x2 y2 c2 := GT3.of t2 (fun h => by subst h; exact z2 h1.ok.1)
  have h12 := h1.then h2
  by_cases hc : c2 = 0
  · subst hc
    obtain ⟨hE, hl⟩ := h12.ok
    have g2 := h12.good hE hl
    have g1 := h1.good hE (fun h => hl (.inl h))
    rw [rboth0 g1.2.1 g2.2.1, fstE_zero, g1.2.2, g2.2.2] at t3
    exact h12.then ⟨t3.wx, t3.wy, fun h' => absurd rfl h', fun _ => t3.long rfl, fun _ => t3.good rfl⟩
  · rw [fstE_err _ hc] at t3
    exact h12.then ⟨t3.wx, t3.wy, fun _ => t3.bad hc, fun h' => absurd h' hc, fun h' => absurd h' hc⟩
/-- Two answers one behind the other, and what is told of them. -/
theorem gtwo' {E : Int} {L1 L2 : Prop} {q1 q2 : Rat} {n m : Bool} {xs ys us vs : List Int} {c1 c2 : Int} (h1 : GT3 E L1 q1 n xs ys c1) (h2 : GT3 c1 L2 q2 m us vs c2) :
    (c2 = 0 → GTells E (L1 ∨ L2) q1 q2 n xs ys m us vs c2) ∧ (c2 ≠ 0 → GTells E (L1 ∨ L2) q1 q2 false [] [] false [] [] c2) := by
  have w4 : Wd [] := Wd.nil
  have h12 := h1.then h2
  refine ⟨fun hc => ?_, fun hc => ?_⟩
  · subst hc
    obtain ⟨hE, hl⟩ := h12.ok
    have g2 := h12.good hE hl
    have g1 := h1.good hE (fun h => hl (.inl h))
    exact ⟨⟨h1.wx, h1.wy, h2.wx, h2.wy⟩, fun h => absurd hE h, fun _ h => absurd h hl, fun _ _ => ⟨rfl, g1.2, g2.2⟩⟩
  · refine ⟨⟨w4, w4, w4, w4⟩, fun hE => ⟨⟨rfl, rfl, rfl, rfl, rfl, rfl⟩, (h12.bad hE).2.2.2⟩, fun hE hl => ⟨⟨rfl, rfl, rfl, rfl, rfl, rfl⟩, (h12.long hE hl).2.2.2⟩, fun hE hl => absurd (h12.good hE hl).1 hc⟩

/-- Whether something on the way of a product is too long. -/
def mlong (q1 q2 r1 r2 : Rat) : Prop := ((rlong (q1 * r1) ∨ rlong (q2 * r2)) ∨ rlong (q1 * r1 - q2 * r2)) ∨ ((rlong (q1 * r2) ∨ rlong (q2 * r1)) ∨ rlong (q1 * r2 + q2 * r1))
set_option maxHeartbeats 3200000 in
set_option maxRecDepth 100000 in
theorem gMul_full (n : Bool) (a : Option Addr) (ca : Nat) (xs : List Int) (b : Option Addr) (cb : Nat) (ys : List Int) (m : Bool) (c : Option Addr) (cc : Nat) (us : List Int) (d : Option Addr) (cd : Nat) (vs : List Int) (n2 : Bool) (a2 : Option Addr) (ca2 : Nat) (xs2 : List Int) (b2' : Option Addr) (cb2 : Nat) (ys2 : List Int) (m2 : Bool) (c2 : Option Addr) (cc2 : Nat) (us2 : List Int) (d2 : Option Addr) (cd2 : Nat) (vs2 : List Int) (w : World) (sx : Sl w (.slice a xs.length ca) xs) (sy : Sl w (.slice b ys.length cb) ys) (su : Sl w (.slice c us.length cc) us) (sv : Sl w (.slice d vs.length cd) vs) (sx2 : Sl w (.slice a2 xs2.length ca2) xs2) (sy2 : Sl w (.slice b2' ys2.length cb2) ys2) (su2 : Sl w (.slice c2 us2.length cc2) us2) (sv2 : Sl w (.slice d2 vs2.length cd2) vs2) :
    Calls Tryz.prog 67 #[.agg #[.bool n, .slice a xs.length ca, .slice b ys.length cb, .bool m, .slice c us.length cc, .slice d vs.length cd], .agg #[.bool n2, .slice a2 xs2.length ca2, .slice b2' ys2.length cb2, .bool m2, .slice c2 us2.length cc2, .slice d2 vs2.length cd2]] w (GTold w (fstE (gchk n xs ys m us vs) (gchk n2 xs2 ys2 m2 us2 vs2)) (mlong (rq n xs ys) (rq m us vs) (rq n2 xs2 ys2) (rq m2 us2 vs2)) (rq n xs ys * rq n2 xs2 ys2 - rq m us vs * rq m2 us2 vs2) (rq n xs ys * rq m2 us2 vs2 + rq m us vs * rq n2 xs2 ys2)) := by
  have HX := hid (boxes3r w 28 #[.bool n, .slice a xs.length ca, .slice b ys.length cb, .bool m, .slice c us.length cc, .slice d vs.length cd] #[.bool n2, .slice a2 xs2.length ca2, .slice b2' ys2.length cb2, .bool m2, .slice c2 us2.length cc2, .slice d2 vs2.length cd2] #[.bool false, .slice none 0 0, .slice none 0 0, .bool false, .slice none 0 0, .slice none 0 0])
  obtain ⟨X, hX⟩ : ∃ X, ((w.alloc (.cells #[.bool n, .slice a xs.length ca, .slice b ys.length cb, .bool m, .slice c us.length cc, .slice d vs.length cd] 28)).alloc (.cells #[.bool n2, .slice a2 xs2.length ca2, .slice b2' ys2.length cb2, .bool m2, .slice c2 us2.length cc2, .slice d2 vs2.length cd2] 28)).alloc (.cells #[.bool false, .slice none 0 0, .slice none 0 0, .bool false, .slice none 0 0, .slice none 0 0] 28) = X := ⟨_, rfl⟩
  rw [hX] at HX
  have HY := hid (Box.made X 28 #[.bool n, .slice a xs.length ca, .slice b ys.length cb, .bool m, .slice c us.length cc, .slice d vs.length cd, .bool n2, .slice a2 xs2.length ca2, .slice b2' ys2.length cb2, .bool m2, .slice c2 us2.length cc2, .slice d2 vs2.length cd2])
  have HYB := hid (alloc_later X (.cells #[.bool n, .slice a xs.length ca, .slice b ys.length cb, .bool m, .slice c us.length cc, .slice d vs.length cd, .bool n2, .slice a2 xs2.length ca2, .slice b2' ys2.length cb2, .bool m2, .slice c2 us2.length cc2, .slice d2 vs2.length cd2] 28))
  obtain ⟨Y, hY⟩ : ∃ Y, X.alloc (.cells #[.bool n, .slice a xs.length ca, .slice b ys.length cb, .bool m, .slice c us.length cc, .slice d vs.length cd, .bool n2, .slice a2 xs2.length ca2, .slice b2' ys2.length cb2, .bool m2, .slice c2 us2.length cc2, .slice d2 vs2.length cd2] 28) = Y := ⟨_, rfl⟩
  rw [hY] at HY HYB
  have HWY := hid (bt HX.out.2.2.2 HYB.out)
  have HL := hid (glookAt2_any X.heap.size n a ca xs b cb ys m c cc us d cd vs n2 a2 ca2 xs2 b2' cb2 ys2 m2 c2 cc2 us2 d2 cd2 vs2 Y HY.out (sx.later HWY.out) (sy.later HWY.out) (su.later HWY.out) (sv.later HWY.out) (sx2.later HWY.out) (sy2.later HWY.out) (su2.later HWY.out) (sv2.later HWY.out))
  have H1 : Hid (∀ V p E, Below w.heap.size w V → w.heap.size ≤ p → Box V p 114 #[.int .i64 E] → Calls Tryz.prog 87 #[.pointer (some ⟨p, 0, none⟩), .agg #[.bool n, .slice a xs.length ca, .slice b ys.length cb, .bool m, .slice c us.length cc, .slice d vs.length cd], .agg #[.bool n2, .slice a2 xs2.length ca2, .slice b2' ys2.length cb2, .bool m2, .slice c2 us2.length cc2, .slice d2 vs2.length cd2]] V _) := hid (fun V p E hv hp hb => gtimes_any p E n a ca xs b cb ys m c cc us d cd vs n2 a2 ca2 xs2 b2' cb2 ys2 m2 c2 cc2 us2 d2 cd2 vs2 V hb (fun U hU => by
    have hw : Below w.heap.size w U := hv.grown hU hv.size (fun q hq => by have e := Option.some.inj hq; omega)
    exact ⟨sx.later hw, sy.later hw, su.later hw, sv.later hw, sx2.later hw, sy2.later hw, su2.later hw, sv2.later hw⟩))
  have HZ1 : Hid (fstE (gchk n xs ys m us vs) (gchk n2 xs2 ys2 m2 us2 vs2) = 0 → (rboth n xs ys n2 xs2 ys2 = 0 ∧ rboth m us vs m2 us2 vs2 = 0) ∧ rboth n xs ys m2 us2 vs2 = 0 ∧ rboth m us vs n2 xs2 ys2 = 0) := fun h => by
    obtain ⟨h1, h2⟩ := fstE_ok h
    exact ⟨⟨rboth0 (gchk_ok h1).1 (gchk_ok h2).1, rboth0 (gchk_ok h1).2 (gchk_ok h2).2⟩, rboth0 (gchk_ok h1).1 (gchk_ok h2).2, rboth0 (gchk_ok h1).2 (gchk_ok h2).1⟩
  generalize fstE (gchk n xs ys m us vs) (gchk n2 xs2 ys2 m2 us2 vs2) = E0 at *
  generalize rboth n xs ys n2 xs2 ys2 = e1 at *
  generalize rboth m us vs m2 us2 vs2 = e2 at *
  generalize rboth n xs ys m2 us2 vs2 = e3 at *
  generalize rboth m us vs n2 xs2 ys2 = e4 at *
  generalize rq n xs ys = r1 at *
  generalize rq m us vs = r2 at *
  generalize rq n2 xs2 ys2 = r3 at *
  generalize rq m2 us2 vs2 = r4 at *
  clear sx sy su sv sx2 sy2 su2 sv2
  have ka0 : X.cell? ⟨w.heap.size, 0, none⟩ = some (.bool n) := HX.out.1.cell 0
  have ka1 : X.cell? ⟨w.heap.size, 1, none⟩ = some (.slice a xs.length ca) := HX.out.1.cell 1
  have ka2 : X.cell? ⟨w.heap.size, 2, none⟩ = some (.slice b ys.length cb) := HX.out.1.cell 2
  have ka3 : X.cell? ⟨w.heap.size, 3, none⟩ = some (.bool m) := HX.out.1.cell 3
  have ka4 : X.cell? ⟨w.heap.size, 4, none⟩ = some (.slice c us.length cc) := HX.out.1.cell 4
  have ka5 : X.cell? ⟨w.heap.size, 5, none⟩ = some (.slice d vs.length cd) := HX.out.1.cell 5
  have kb0 : X.cell? ⟨w.heap.size + 1, 0, none⟩ = some (.bool n2) := HX.out.2.1.cell 0
  have kb1 : X.cell? ⟨w.heap.size + 1, 1, none⟩ = some (.slice a2 xs2.length ca2) := HX.out.2.1.cell 1
  have kb2 : X.cell? ⟨w.heap.size + 1, 2, none⟩ = some (.slice b2' ys2.length cb2) := HX.out.2.1.cell 2
  have kb3 : X.cell? ⟨w.heap.size + 1, 3, none⟩ = some (.bool m2) := HX.out.2.1.cell 3
  have kb4 : X.cell? ⟨w.heap.size + 1, 4, none⟩ = some (.slice c2 us2.length cc2) := HX.out.2.1.cell 4
  have kb5 : X.cell? ⟨w.heap.size + 1, 5, none⟩ = some (.slice d2 vs2.length cd2) := HX.out.2.1.cell 5
  go_enter Tryz.func67, Tryz.ntmps67
  go_wp2_with fail
  refine Calls.mono HL.out ?_
  rintro x w1 ⟨p, rfl, hpl, hpb, hb1⟩
  have HW1 := hid (bt HWY.out hb1)
  have HA1 := hid (HX.out.1.later (bt HYB.out hb1) HX.out.1.lt)
  have HB1 := hid (HX.out.2.1.later (bt HYB.out hb1) HX.out.2.1.lt)
  have HR1 := hid (HX.out.2.2.1.later (bt HYB.out hb1) HX.out.2.2.1.lt)
  have HP1 := hid hpb
  have hpX : X.heap.size < p := Nat.lt_of_lt_of_le HY.out.lt hpl
  have hrX : w.heap.size + 1 + 1 < X.heap.size := HX.out.2.2.1.lt
  clear hpb hb1 hpl HL ka0 ka1 ka2 ka3 ka4 ka5 kb0 kb1 kb2 kb3 kb4 kb5
  have ka0 : w1.cell? ⟨w.heap.size, 0, none⟩ = some (.bool n) := HA1.out.cell 0
  have ka1 : w1.cell? ⟨w.heap.size, 1, none⟩ = some (.slice a xs.length ca) := HA1.out.cell 1
  have ka2 : w1.cell? ⟨w.heap.size, 2, none⟩ = some (.slice b ys.length cb) := HA1.out.cell 2
  have ka3 : w1.cell? ⟨w.heap.size, 3, none⟩ = some (.bool m) := HA1.out.cell 3
  have ka4 : w1.cell? ⟨w.heap.size, 4, none⟩ = some (.slice c us.length cc) := HA1.out.cell 4
  have ka5 : w1.cell? ⟨w.heap.size, 5, none⟩ = some (.slice d vs.length cd) := HA1.out.cell 5
  have kb0 : w1.cell? ⟨w.heap.size + 1, 0, none⟩ = some (.bool n2) := HB1.out.cell 0
  have kb1 : w1.cell? ⟨w.heap.size + 1, 1, none⟩ = some (.slice a2 xs2.length ca2) := HB1.out.cell 1
  have kb2 : w1.cell? ⟨w.heap.size + 1, 2, none⟩ = some (.slice b2' ys2.length cb2) := HB1.out.cell 2
  have kb3 : w1.cell? ⟨w.heap.size + 1, 3, none⟩ = some (.bool m2) := HB1.out.cell 3
  have kb4 : w1.cell? ⟨w.heap.size + 1, 4, none⟩ = some (.slice c2 us2.length cc2) := HB1.out.cell 4
  have kb5 : w1.cell? ⟨w.heap.size + 1, 5, none⟩ = some (.slice d2 vs2.length cd2) := HB1.out.cell 5
  go_wp2_with fail
  refine Calls.mono (H1.out _ p E0 HW1.out (by omega) HP1.out) ?_
  rintro x w3 ⟨k1, av1, cv1, zs1, au1, cu1, ts1, c3, k2, av2, cv2, zs2, au2, cu2, ts2, code2, rfl, ⟨⟨ov1, ou1⟩, ⟨ov2, ou2⟩⟩, t3, t6, hp3, hg3, _⟩
  have hw13 : w1.heap.size ≤ w3.heap.size := hg3.size
  have hp1l : p < w1.heap.size := HP1.out.lt
  have HW3 : Hid (Below w.heap.size w w3) := HW1.out.grown hg3 HW1.out.size (fun q hq => by have e := Option.some.inj hq; omega)
  have HR3 := hid (HR1.out.kept' hg3 (by intro e; have := Option.some.inj e; omega))
  have HTO := hid (gtold_any p code2 k1 av1 zs1.length cv1 au1 ts1.length cu1 k2 av2 zs2.length cv2 au2 ts2.length cu2 w3 hp3)
  have HO3 := hid (And.intro ov1 (And.intro ou1 (And.intro ov2 ou2)))
  have h3 := g3_tells t3 (fun h => (HZ1.out h).1.1) (fun h => (HZ1.out h).1.2)
  have HTW := hid (gtwo' h3 (g3_tells t6 (fun h => by subst h; exact (HZ1.out h3.ok.1).2.1) (fun h => by subst h; exact (HZ1.out h3.ok.1).2.2)))
  clear h3 t3 t6 hp3 hg3 ov1 ou1 ov2 ou2 H1 ka0 ka1 ka2 ka3 ka4 ka5 kb0 kb1 kb2 kb3 kb4 kb5
  go_wp2_with fail
  refine Calls.mono HTO.out ?_
  rintro x w4 ⟨rfl, hb4⟩
  have HR4 := hid (HR3.out.later hb4 HR3.out.lt)
  have HW4 := hid (bt HW3.out hb4)
  have HOO := hid (And.intro (owns_later HO3.out.1 hb4) (And.intro (owns_later HO3.out.2.1 hb4) (And.intro (owns_later HO3.out.2.2.1 hb4) (owns_later HO3.out.2.2.2 hb4))))
  have hlo : w.heap.size ≤ w1.heap.size := by omega
  clear hb4
  have m0 : w4.cell? ⟨w.heap.size + 1 + 1, 0, none⟩ = some (.bool false) := HR4.out.cell 0
  have m1 : w4.cell? ⟨w.heap.size + 1 + 1, 1, none⟩ = some (.slice none 0 0) := HR4.out.cell 1
  have m2' : w4.cell? ⟨w.heap.size + 1 + 1, 2, none⟩ = some (.slice none 0 0) := HR4.out.cell 2
  have m3 : w4.cell? ⟨w.heap.size + 1 + 1, 3, none⟩ = some (.bool false) := HR4.out.cell 3
  have m4 : w4.cell? ⟨w.heap.size + 1 + 1, 4, none⟩ = some (.slice none 0 0) := HR4.out.cell 4
  have m5 : w4.cell? ⟨w.heap.size + 1 + 1, 5, none⟩ = some (.slice none 0 0) := HR4.out.cell 5
  have f0 := HR4.out.free 0
  have f1 := HR4.out.free 1
  have f2 := HR4.out.free 2
  have f3 := HR4.out.free 3
  have f4 := HR4.out.free 4
  have f5 := HR4.out.free 5
  by_cases hc2 : code2 = 0
  · rw [if_pos hc2]
    have HFIN := hid (HTW.out.1 hc2)
    clear HTW hc2
    go_wp2_with fail
    have B1 := box_put6 HR4.out (.bool k1) (.slice av1 zs1.length cv1) (.slice au1 ts1.length cu1) (.bool k2) (.slice av2 zs2.length cv2) (.slice au2 ts2.length cu2)
    have G1 := below_put6 HW4.out (w.heap.size + 1 + 1) (by omega) (.bool k1) (.slice av1 zs1.length cv1) (.slice au1 ts1.length cu1) (.bool k2) (.slice av2 zs2.length cv2) (.slice au2 ts2.length cu2)
    have hXX := HX.out.2.2.2.size
    have hput : ∀ {base k : Nat} {v : Value} {l : List Value}, w4.ownsRow base 66 1 v k l → (∀ g, v.ownBlock = some g → X.heap.size ≤ g) → ((((((w4.setCell ⟨w.heap.size + 1 + 1, 0, none⟩ (.bool k1)).setCell ⟨w.heap.size + 1 + 1, 1, none⟩ (.slice av1 zs1.length cv1)).setCell ⟨w.heap.size + 1 + 1, 2, none⟩ (.slice au1 ts1.length cu1)).setCell ⟨w.heap.size + 1 + 1, 3, none⟩ (.bool k2)).setCell ⟨w.heap.size + 1 + 1, 4, none⟩ (.slice av2 zs2.length cv2)).setCell ⟨w.heap.size + 1 + 1, 5, none⟩ (.slice au2 ts2.length cu2)).ownsRow base 66 1 v k l := fun h hb => own_put6 h _ (fun g hg => by have := hb g hg; omega) _ _ _ _ _ _
    clear m0 m1 m2' m3 m4 m5 f0 f1 f2 f3 f4 f5
    refine bodyPost_ret (gres_run (by rfl) B1 _ rfl) rfl ?_
    exact ⟨k1, av1, cv1, zs1, au1, cu1, ts1, k2, av2, cv2, zs2, au2, cu2, ts2, code2, rfl, ⟨owns_base (hput HOO.out.1 (fun g hg => by have := (HOO.out.1.lt g hg).1; omega)) hlo, owns_base (hput HOO.out.2.1 (fun g hg => by have := (HOO.out.2.1.lt g hg).1; omega)) hlo, owns_base (hput HOO.out.2.2.1 (fun g hg => by have := (HOO.out.2.2.1.lt g hg).1; omega)) hlo, owns_base (hput HOO.out.2.2.2 (fun g hg => by have := (HOO.out.2.2.2.lt g hg).1; omega)) hlo⟩, HFIN.out, G1⟩
  · rw [if_neg hc2]
    have HFIN := hid (HTW.out.2 hc2)
    clear HTW hc2
    go_wp2_with fail
    have B1 := box_put6 HR4.out (.bool false) (.slice none 0 0) (.slice none 0 0) (.bool false) (.slice none 0 0) (.slice none 0 0)
    have G1 := below_put6 HW4.out (w.heap.size + 1 + 1) (by omega) (.bool false) (.slice none 0 0) (.slice none 0 0) (.bool false) (.slice none 0 0) (.slice none 0 0)
    clear m0 m1 m2' m3 m4 m5 f0 f1 f2 f3 f4 f5
    refine bodyPost_ret (gres_run (by rfl) B1 _ rfl) rfl ?_
    exact ⟨false, none, 0, [], none, 0, [], false, none, 0, [], none, 0, [], code2, rfl, ⟨World.ownsRow_nil _ _ _ _, World.ownsRow_nil _ _ _ _, World.ownsRow_nil _ _ _ _, World.ownsRow_nil _ _ _ _⟩, HFIN.out, G1⟩

end Go.Proofs.YtcfcjnlobpoglaaGreat

/- Whole numbers that are lent to a call: slackwaterkit.LentWhole, KeptWhole; the law's own comparison. -/
namespace Go.Proofs.YtcfcjnlobpoglaaGreat
open Go.RowKit
set_option linter.unusedVariables false

end Go.Proofs.YtcfcjnlobpoglaaGreat

/- Fractions that are lent to a call: slackwaterkit.LentRatio, KeptRatio. -/
namespace Go.Proofs.YtcfcjnlobpoglaaGreat
open Go.RowKit
set_option linter.unusedVariables false

end Go.Proofs.YtcfcjnlobpoglaaGreat

/- The document's told: a number, if it is not too long. -/
namespace Go.Proofs.YtcfcjnlobpoglaaGreat
open Go.RowKit
set_option linter.unusedVariables false

end Go.Proofs.YtcfcjnlobpoglaaGreat

/- The document's own fractions: Of: a fraction of a sign and two sizes, in its one form. -/
namespace Go.Proofs.YtcfcjnlobpoglaaGreat
open Go.RowKit
set_option linter.unusedVariables false

theorem RTold.later {w W W' : World} {e : Int} {q : Rat} {x : Ending} (h : RTold w e q x W) (hb : Below W.heap.size W W') : RTold w e q x W' := by
  obtain ⟨n, v, xs, u, ys, code, rfl, o1, o2, t, hbw⟩ := h
  exact ⟨n, v, xs, u, ys, code, rfl, owns_later o1 hb, owns_later o2 hb, t, bt hbw hb⟩
end Go.Proofs.YtcfcjnlobpoglaaGreat

/- The document's own fractions: Make, size, Small. -/
namespace Go.Proofs.YtcfcjnlobpoglaaGreat
open Go.RowKit
set_option linter.unusedVariables false

end Go.Proofs.YtcfcjnlobpoglaaGreat

/- The document's own fractions: Small; two fractions with the same words. -/
namespace Go.Proofs.YtcfcjnlobpoglaaGreat
open Go.RowKit
set_option linter.unusedVariables false

set_option maxHeartbeats 1600000 in
set_option maxRecDepth 100000 in
theorem sameRatio_eq (n : Bool) (v u v' u' : Value) (xs ys : List Int) (w : World) (h : Sl w v xs) (g : Sl w u ys) (h' : Sl w v' xs) (g' : Sl w u' ys) (lx : xs.length ≤ 281474976710656) (ly : ys.length ≤ 281474976710656) :
    Calls Tryz.prog 41 #[.agg #[.bool n, v, u], .agg #[.bool n, v', u']] w fun e w' => e = .returned (.bool true) ∧ Below w.heap.size w w' := by
  have HB : Hid (Below w.heap.size w ((w.alloc (.cells #[.bool n, v, u] 26)).alloc (.cells #[.bool n, v', u'] 26))) := bt (alloc_later _ _) (alloc_later _ _)
  have HN : Hid (Box ((w.alloc (.cells #[.bool n, v, u] 26)).alloc (.cells #[.bool n, v', u'] 26)) w.heap.size 26 #[.bool n, v, u]) := Box.later (Box.made w _ _) (alloc_later _ _) (by simp)
  have HM : Hid (Box ((w.alloc (.cells #[.bool n, v, u] 26)).alloc (.cells #[.bool n, v', u'] 26)) (w.heap.size + 1) 26 #[.bool n, v', u']) := by
    have e := Box.made (w.alloc (.cells #[.bool n, v, u] 26)) 26 #[.bool n, v', u']
    simp at e
    exact e
  have H1 := hid (same_sl v v' xs xs _ (h.later HB.out) (h'.later HB.out) lx lx)
  rw [decide_eq_true rfl] at H1
  have H2 := hid (fun ww (hb : Below _ ((w.alloc (.cells #[.bool n, v, u] 26)).alloc (.cells #[.bool n, v', u'] 26)) ww) => same_sl u u' ys ys ww ((g.later HB.out).later hb) ((g'.later HB.out).later hb) ly ly)
  rw [decide_eq_true rfl] at H2
  have hbb : (n == n) = true := by simp
  obtain ⟨a, ca, rfl, hr⟩ := h
  obtain ⟨b, cb, rfl, gr⟩ := g
  obtain ⟨a', ca', rfl, hr'⟩ := h'
  obtain ⟨b', cb', rfl, gr'⟩ := g'
  clear hr gr hr' gr'
  go_enter Tryz.func41, Tryz.ntmps41
  go_wp2_with fail
  refine Calls.mono H1.out ?_
  generalize ((w.alloc (.cells #[.bool n, .slice a xs.length ca, .slice b ys.length cb] 26)).alloc (.cells #[.bool n, .slice a' xs.length ca', .slice b' ys.length cb'] 26)) = X at *
  rintro e w1 ⟨rfl, hb1⟩
  obtain ⟨p0, p1, p2, _, _, _⟩ := res_box3 HN.out hb1
  obtain ⟨q0, q1, q2, _, _, _⟩ := res_box3 HM.out hb1
  have HC := hid (H2.out w1 hb1)
  have HB1 := hid (bt HB.out hb1)
  clear hb1 H1 H2
  go_wp2_with fail
  refine Calls.mono HC.out ?_
  rintro e w2 ⟨rfl, hb2⟩
  have HBN := hid (bt HB1.out hb2)
  clear hb2 HC
  go_wp2_with fail
  go_ret
  exact ⟨rfl, HBN.out⟩
end Go.Proofs.YtcfcjnlobpoglaaGreat

/- Complex fractions that are lent to a call, kept, alike: slackwaterkit.LentGauss, KeptGauss, SameGauss. (tools/mkkg.py) -/
namespace Go.Proofs.YtcfcjnlobpoglaaGreat
open Go.RowKit
set_option linter.unusedVariables false

/-- The six cells of a complex fraction. -/
def Kl6 (V : World) (p : Nat) (v0 v1 v2 v3 v4 v5 : Value) : Prop := V.cell? ⟨p, 0, none⟩ = some v0 ∧ V.cell? ⟨p, 1, none⟩ = some v1 ∧ V.cell? ⟨p, 2, none⟩ = some v2 ∧ V.cell? ⟨p, 3, none⟩ = some v3 ∧ V.cell? ⟨p, 4, none⟩ = some v4 ∧ V.cell? ⟨p, 5, none⟩ = some v5
theorem Kl6.of {V : World} {p t : Nat} {v0 v1 v2 v3 v4 v5 : Value} (h : Box V p t #[v0, v1, v2, v3, v4, v5]) : V.cell? ⟨p, 0, none⟩ = some v0 ∧ V.cell? ⟨p, 1, none⟩ = some v1 ∧ V.cell? ⟨p, 2, none⟩ = some v2 ∧ V.cell? ⟨p, 3, none⟩ = some v3 ∧ V.cell? ⟨p, 4, none⟩ = some v4 ∧ V.cell? ⟨p, 5, none⟩ = some v5 := ⟨h.cell 0, h.cell 1, h.cell 2, h.cell 3, h.cell 4, h.cell 5⟩

set_option maxHeartbeats 1600000 in
set_option maxRecDepth 100000 in
theorem ksameGauss_eq (n : Bool) (a : Option Addr) (ca : Nat) (xs : List Int) (b : Option Addr) (cb : Nat) (ys : List Int) (m : Bool) (c : Option Addr) (cc : Nat) (us : List Int) (d : Option Addr) (cd : Nat) (vs : List Int) (a2 : Option Addr) (ca2 : Nat) (b2 : Option Addr) (cb2 : Nat) (c2 : Option Addr) (cc2 : Nat) (d2 : Option Addr) (cd2 : Nat) (w : World) (sx : Sl w (.slice a xs.length ca) xs) (sy : Sl w (.slice b ys.length cb) ys) (su : Sl w (.slice c us.length cc) us) (sw : Sl w (.slice d vs.length cd) vs) (sx2 : Sl w (.slice a2 xs.length ca2) xs) (sy2 : Sl w (.slice b2 ys.length cb2) ys) (su2 : Sl w (.slice c2 us.length cc2) us) (sw2 : Sl w (.slice d2 vs.length cd2) vs) (lx : xs.length ≤ 281474976710656) (ly : ys.length ≤ 281474976710656) (lu : us.length ≤ 281474976710656) (lv : vs.length ≤ 281474976710656) :
    Calls Tryz.prog 17 #[.agg #[.bool n, .slice a xs.length ca, .slice b ys.length cb, .bool m, .slice c us.length cc, .slice d vs.length cd], .agg #[.bool n, .slice a2 xs.length ca2, .slice b2 ys.length cb2, .bool m, .slice c2 us.length cc2, .slice d2 vs.length cd2]] w fun e w' => e = .returned (.bool true) ∧ Below w.heap.size w w' := by
  obtain ⟨X, hX⟩ : ∃ X, (w.alloc (.cells #[.bool n, .slice a xs.length ca, .slice b ys.length cb, .bool m, .slice c us.length cc, .slice d vs.length cd] 28)).alloc (.cells #[.bool n, .slice a2 xs.length ca2, .slice b2 ys.length cb2, .bool m, .slice c2 us.length cc2, .slice d2 vs.length cd2] 28) = X := ⟨_, rfl⟩
  have b1 : Below w.heap.size w X := by rw [← hX]; exact bt (alloc_later _ _) (alloc_later _ _)
  have HA : Hid (Box X w.heap.size 28 #[.bool n, .slice a xs.length ca, .slice b ys.length cb, .bool m, .slice c us.length cc, .slice d vs.length cd]) := by rw [← hX]; exact (Box.made w _ _).later (alloc_later _ _) (Box.made w _ _).lt
  have HZ : Hid (Box X (w.heap.size + 1) 28 #[.bool n, .slice a2 xs.length ca2, .slice b2 ys.length cb2, .bool m, .slice c2 us.length cc2, .slice d2 vs.length cd2]) := by
    have h := Box.made (w.alloc (.cells #[.bool n, .slice a xs.length ca, .slice b ys.length cb, .bool m, .slice c us.length cc, .slice d vs.length cd] 28)) 28 #[.bool n, .slice a2 xs.length ca2, .slice b2 ys.length cb2, .bool m, .slice c2 us.length cc2, .slice d2 vs.length cd2]
    rw [show (w.alloc (.cells #[.bool n, .slice a xs.length ca, .slice b ys.length cb, .bool m, .slice c us.length cc, .slice d vs.length cd] 28)).heap.size = w.heap.size + 1 by simp, hX] at h
    exact h
  have HK : Hid (∀ V, Below X.heap.size X V → (V.cell? ⟨w.heap.size, 0, none⟩ = some (.bool n) ∧ V.cell? ⟨w.heap.size, 1, none⟩ = some (.slice a xs.length ca) ∧ V.cell? ⟨w.heap.size, 2, none⟩ = some (.slice b ys.length cb) ∧ V.cell? ⟨w.heap.size, 3, none⟩ = some (.bool m) ∧ V.cell? ⟨w.heap.size, 4, none⟩ = some (.slice c us.length cc) ∧ V.cell? ⟨w.heap.size, 5, none⟩ = some (.slice d vs.length cd)) ∧ (V.cell? ⟨w.heap.size + 1, 0, none⟩ = some (.bool n) ∧ V.cell? ⟨w.heap.size + 1, 1, none⟩ = some (.slice a2 xs.length ca2) ∧ V.cell? ⟨w.heap.size + 1, 2, none⟩ = some (.slice b2 ys.length cb2) ∧ V.cell? ⟨w.heap.size + 1, 3, none⟩ = some (.bool m) ∧ V.cell? ⟨w.heap.size + 1, 4, none⟩ = some (.slice c2 us.length cc2) ∧ V.cell? ⟨w.heap.size + 1, 5, none⟩ = some (.slice d2 vs.length cd2))) := fun V hv => ⟨Kl6.of (HA.out.later hv HA.out.lt), Kl6.of (HZ.out.later hv HZ.out.lt)⟩
  have HL1 := hid (sameRatio_eq n _ _ _ _ xs ys X (sx.later b1) (sy.later b1) (sx2.later b1) (sy2.later b1) lx ly)
  have HL2 := hid (fun V (hv : Below X.heap.size X V) => sameRatio_eq m _ _ _ _ us vs V ((su.later b1).later hv) ((sw.later b1).later hv) ((su2.later b1).later hv) ((sw2.later b1).later hv) lu lv)
  have HB1 := hid b1
  obtain ⟨⟨e0, e1, e2, e3, e4, e5⟩, ⟨i0, i1, i2, i3, i4, i5⟩⟩ := HK.out X (Below.refl _ _)
  clear sx sy su sw sx2 sy2 su2 sw2 b1 lx ly lu lv HA HZ
  go_enter Tryz.func17, Tryz.ntmps17
  go_wp2_with fail
  clear hX
  refine Calls.mono HL1.out ?_
  rintro e w1 ⟨rfl, hb1⟩
  have HL3 := hid (HL2.out w1 hb1)
  have HB2 := hid (bt HB1.out hb1)
  clear e0 e1 e2 e3 e4 e5 i0 i1 i2 i3 i4 i5 HL1 HL2
  obtain ⟨⟨e0, e1, e2, e3, e4, e5⟩, ⟨i0, i1, i2, i3, i4, i5⟩⟩ := HK.out w1 hb1
  clear hb1
  go_wp2_with fail
  refine Calls.mono HL3.out ?_
  rintro e w2 ⟨rfl, hb2⟩
  have HBN := hid (bt HB2.out hb2)
  clear HL3 hb2 e0 e1 e2 e3 e4 e5 i0 i1 i2 i3 i4 i5
  go_wp2_with fail
  go_ret
  exact ⟨rfl, HBN.out⟩

end Go.Proofs.YtcfcjnlobpoglaaGreat

/- Lists that lie apart: the kit's ApartWords, for a list of lists with room behind it. -/
namespace Go.Proofs.YtcfcjnlobpoglaaGreat
open Go.RowKit
set_option linter.unusedVariables false

set_option maxHeartbeats 3200000 in
set_option maxRecDepth 100000 in
theorem apart_cap (base bl m cp : Nat) (V : Nat → Value) (X : Nat → List Int) (w : World) (h : Lists w base bl m V X) (hm : m ≤ 1000) (hbs : base ≤ w.heap.size) (hcp : m ≤ cp) :
    Calls Tryz.prog 66 #[.slice (some ⟨bl, 0, none⟩) m cp] w fun e w' => e = .returned (.bool true) ∧ Below base w w' := by
  obtain ⟨i0, hi, hz0, hz1, hz2⟩ := info_parts Tryz.infoL
  obtain ⟨hwd, hlen, hown, hap, hrow⟩ := h
  have hbl : bl < w.heap.size := by obtain ⟨cl, h1, _⟩ := hrow; exact block_lt h1
  have HO := hid hown
  have HA := hid hap
  have HR := hid hrow
  have HW := hid hwd
  have HN := hid hlen
  clear hown hap hrow hwd hlen
  go_enter Tryz.func66, Tryz.ntmps66
  go_wp2_with (at_make; refine wpList_make_full _ rfl _ _ 89 rfl w.heap.size 24 i0 (.slice none 0 0) 1 Tryz.underlying89 hi hz0 hz1 _ _ _ _ m rfl rfl (by omega) (by omega) (by rw [hz2]; omega) (by unfold maxLen; omega) (Nat.le_refl _) ?_)
  intro w1 hown1 hgrow1
  have H1 : Hid (I1 w m X 0 w1) := ⟨_, by have := hown1.1; omega, row_whole hown1, fun j hj => by omega, (Below.refl _ _).grown hgrow1 (Nat.le_refl _) (fun k hk => by simp at hk)⟩
  clear hown1 hgrow1
  go_wp2_with fail
  go_loopw [4] (fun t wr => ∃ k : Nat, k ≤ m ∧ t = .int .i64 k ∧ Hid (I1 w m X k wr)) (fun t _ => m - (intOf t).toNat)
  case atStart => exact ⟨0, by omega, rfl, H1⟩
  case round =>
    obtain ⟨k, hk, rfl, HI⟩ := hrel
    by_cases hlt : k < m
    · obtain ⟨us, ul, ug, uu, ub⟩ := HI.out
      have hgw := block_lt ug
      have ubs := ub.size
      have hcl : wr.cell? ⟨bl, k, none⟩ = some (V k) := (ub.cell (p := ⟨bl, k, none⟩) hbl).trans (row_cell HR.out k hlt)
      have hsl : Sl wr (V k) (X k) := (Sl.own (HO.out k hlt) (HW.out k hlt)).later ub
      have hX := HN.out k hlt
      have HS := hid hsl
      obtain ⟨a1, c1, hv, hr⟩ := hsl
      rw [hv] at hcl
      clear uu ub hr
      go_wp2_with fail
      rw [← hv]
      refine (copyWords_sl _ (X k) _ HS.out hX).mono ?_
      rintro e w2 ⟨v, rfl, ho2, hb2⟩
      have HI2 := hid (HI.out.step hlt ho2 hb2)
      have hc2 : w2.cell? ⟨w.heap.size, k, none⟩ = some (us.toArray[k]?.getD undef) := by
        rw [cell_of_row w2 w.heap.size k us.toArray 24 (0, 0) ((hb2.block _ hgw).trans ug)]
        simp [ul, hlt]
      have hf2 : w2.frozen? ⟨w.heap.size, k, none⟩ = false := frozen_of_row w2 w.heap.size k us.toArray 24 ((hb2.block _ hgw).trans ug)
      obtain ⟨a3, c3, hv3, _⟩ := Sl.own ho2 (HW.out k hlt)
      rw [hv3] at HI2 ⊢
      clear ho2 hb2 ug
      go_wp2_with fail
      go_roundw
      case rel => exact ⟨k + 1, by omega, by go_num, HI2⟩
      case measure => simp [intOf]; omega
    · have hkm : k = m := by omega
      subst hkm
      obtain ⟨us, ul, ug, uu, ub⟩ := HI.out
      obtain ⟨w2, hw2⟩ : ∃ w2 : World, w2 = wr := ⟨_, rfl⟩
      subst hw2
      obtain ⟨gw, hgw⟩ : ∃ gw, gw = w.heap.size := ⟨_, rfl⟩
      have H2 : Hid (I2 w base bl gw k V (fun j => us[j]?.getD undef) X 0 w2) := by
        subst hgw
        refine ⟨fun j hj => ?_, fun j hj => ?_, fun j hj g e => ((HO.out j hj).lt g e).2, ?_, ⟨us.toArray, ug, fun j hj => ?_⟩, ub.mono hbs⟩
        · rw [if_neg (by omega)]; exact owns_later (HO.out j hj) ub
        · obtain ⟨u, h1, h2⟩ := uu j hj
          simp only [h1]; exact h2
        · obtain ⟨cl, h1, h2⟩ := HR.out
          exact ⟨cl, (ub.block _ (block_lt h1)).trans h1, h2⟩
        · simp [ul, hj]
      obtain ⟨U, hU⟩ : ∃ U : Nat → Value, U = fun j => us[j]?.getD undef := ⟨_, rfl⟩
      rw [← hU] at H2
      have hgwl : gw < w2.heap.size := by rw [hgw]; exact block_lt ug
      have hb2 : base ≤ w2.heap.size := by omega
      rw [← hgw]
      clear hU ug uu ub HI ul hgw HO HR H1
      go_wp2_with fail
      go_loopw [5] (fun t wr => ∃ i : Nat, i ≤ k ∧ t = .int .i64 i ∧ Hid (I2 w base bl gw k V U X i wr) ∧ w2.heap.size ≤ wr.heap.size) (fun t _ => k - (intOf t).toNat)
      case atStart => exact ⟨0, by omega, rfl, H2, Nat.le_refl _⟩
      case round =>
        obtain ⟨i, hi', rfl, HJ, hws⟩ := hrel
        by_cases hlt : i < k
        · have hcl : wr.cell? ⟨bl, i, none⟩ = some (V i) := row_cell HJ.out.rowL i hlt
          have hcw : wr.cell? ⟨gw, i, none⟩ = some (U i) := row_cell HJ.out.rowW i hlt
          have sv : Sl wr (V i) (X i) := by
            have := HJ.out.lists i hlt
            rw [if_neg (by omega)] at this
            exact Sl.own this (HW.out i hlt)
          have su : Sl wr (U i) (X i) := Sl.own (HJ.out.was i hlt) (HW.out i hlt)
          have hX := HN.out i hlt
          obtain ⟨a1, c1, hv1, hr1⟩ := sv
          obtain ⟨a2, c2, hv2, hr2⟩ := su
          rw [hv1] at hcl
          rw [hv2] at hcw
          have hcld : wr.drew.cell? ⟨bl, i, none⟩ = some (.slice a1 (X i).length c1) := hcl
          have hcwd : wr.drew.cell? ⟨gw, i, none⟩ = some (.slice a2 (X i).length c2) := hcw
          have HC := hid (same_any a1 _ c1 (X i) a2 _ c2 (X i) wr.drew hr1 hr2 (by omega) (by omega))
          clear hr1 hr2
          go_wp2_with fail
          go_region_with (go_at_call 65; refine Calls.mono HC.out ?_; rintro e wa ⟨rfl, hba⟩)
          all_goals
            have hbw : Below wr.heap.size wr wa := ((Below.refl _ wr).drew).trans hba
            have HJ2 := hid (HJ.out.later hbw (by omega))
            have hsz2 := hbw.size
            have hcl2 : wa.cell? ⟨bl, i, none⟩ = some (V i) := row_cell HJ2.out.rowL i hlt
            rw [hv1] at hcl2
            have hown : wa.ownsRow base 66 1 (V i) (X i).length ((X i).map (Value.int .u32)) := by
              have := HJ2.out.lists i hlt
              rwa [if_neg (by omega)] at this
            have HOV := hid (over_sl base _ _ (X i) wa (HW.out i hlt) hown)
            have hdd : decide (X i = X i) = true := by simp
            clear hba hbw hown hcl hcw hcld hcwd HC
            go_wp2_with fail
            rw [← hv1]
            refine Calls.mono HOV.out ?_
            rintro e wb ⟨rfl, hob, hgb⟩
            have HJ3 := hid (HJ2.out.step hlt (by omega) HA.out hob hgb)
            have hs3 := hgb.size
            rw [hv1]
            clear hob hgb
            go_wp2_with fail
            go_roundw
            case rel => exact ⟨i + 1, by omega, by go_num, HJ3, by omega⟩
            case measure => simp [intOf]; omega
        · have hik : i = k := by omega
          subst hik
          obtain ⟨w3, hw3⟩ : ∃ w3 : World, w3 = wr := ⟨_, rfl⟩
          subst hw3
          have hws3 := hws
          have facts : ∀ wr, Below w3.heap.size w3 wr → ∀ c, c < i → ∃ a1 c1 a2 c2, wr.cell? ⟨bl, c, none⟩ = some (.slice a1 (X c).length c1) ∧ wr.cell? ⟨gw, c, none⟩ = some (.slice a2 (X c).length c2) ∧
              ((X c).length = 0 ∨ ∃ b1 o1 b2 o2, a1 = some ⟨b1, o1, none⟩ ∧ a2 = some ⟨b2, o2, none⟩ ∧ (∀ j, j < (X c).length → wr.cell? ⟨b1, o1 + j, none⟩ = some (.int .u32 (4294967295 - (X c)[j]?.getD 0))) ∧
                (∀ j, j < (X c).length → wr.cell? ⟨b2, o2 + j, none⟩ = some (.int .u32 ((X c)[j]?.getD 0)))) := by
            intro wr hb c hc
            have HJ' := HJ.out.later hb (by omega)
            have hcl : wr.cell? ⟨bl, c, none⟩ = some (V c) := row_cell HJ'.rowL c hc
            have hcw : wr.cell? ⟨gw, c, none⟩ = some (U c) := row_cell HJ'.rowW c hc
            have hl := HJ'.lists c hc
            rw [if_pos hc] at hl
            obtain ⟨a1, c1, hv1, r1⟩ := Reads.own hl (HW.out c hc).compl
            obtain ⟨a2, c2, hv2, r2⟩ := Reads.own (HJ'.was c hc) (HW.out c hc)
            refine ⟨a1, c1, a2, c2, by rw [hcl, hv1], by rw [hcw, hv2], ?_⟩
            by_cases h0 : (X c).length = 0
            · exact .inl h0
            · right
              rcases r1.2.2.1 with e | ⟨b1, o1, e1, _, g1⟩
              · omega
              · rcases r2.2.2.1 with e | ⟨b2, o2, e2, _, g2⟩
                · omega
                · exact ⟨b1, o1, b2, o2, e1, e2, fun j hj => by rw [g1 j hj, compl_get _ j hj], g2⟩
          have HB := hid HJ.out.below
          have HF := hid facts
          clear facts HJ H2 hi'
          go_wp2_with fail
          go_loopw [6] (fun t wr => ∃ c : Nat, c ≤ i ∧ t = .int .i64 c ∧ Below w3.heap.size w3 wr) (fun t _ => i - (intOf t).toNat)
          case atStart => exact ⟨0, by omega, rfl, Below.refl _ _⟩
          case round =>
            obtain ⟨c, hc, rfl, hb3⟩ := hrel
            by_cases hlt : c < i
            · obtain ⟨w4, hw4⟩ : ∃ w4 : World, w4 = wr := ⟨_, rfl⟩
              subst hw4
              have hX := HN.out c hlt
              have hwc := HW.out c hlt
              obtain ⟨n, hn⟩ : ∃ n, n = (X c).length := ⟨_, rfl⟩
              rw [← hn] at hX
              have HNN := hid hn
              clear hn
              go_wp2_with fail
              go_loopw [7] (fun t wr => ∃ k : Nat, k ≤ n ∧ t = .int .i64 k ∧ Below w3.heap.size w3 wr) (fun t _ => n - (intOf t).toNat)
              case atStart => exact ⟨0, by omega, rfl, hb3⟩
              case round =>
                obtain ⟨k, hk, rfl, hb4⟩ := hrel
                obtain ⟨a1, c1, a2, c2, f1, f2, f3⟩ := HF.out wr hb4 c hlt
                rw [← HNN.out] at f1 f2 f3
                by_cases hkn : k < n
                · rcases f3 with f3 | ⟨b1, o1, b2, o2, e1, e2, g1, g2⟩
                  · omega
                  · have x1 := g1 k hkn
                    have x2 := g2 k hkn
                    rw [e1] at f1
                    rw [e2] at f2
                    have hbd := hwc.at k
                    obtain ⟨z, hz⟩ : ∃ z, z = (X c)[k]?.getD 0 := ⟨_, rfl⟩
                    rw [← hz] at x1 x2 hbd
                    have hnot := not_u32 z hbd.1 hbd.2
                    have f1d : wr.drew.cell? ⟨bl, c, none⟩ = some (.slice (some ⟨b1, o1, none⟩) n c1) := f1
                    have f2d : wr.drew.cell? ⟨gw, c, none⟩ = some (.slice (some ⟨b2, o2, none⟩) n c2) := f2
                    have x1d : wr.drew.cell? ⟨b1, o1 + k, none⟩ = some (.int .u32 (4294967295 - z)) := x1
                    have x2d : wr.drew.cell? ⟨b2, o2 + k, none⟩ = some (.int .u32 z) := x2
                    have hne : (4294967295 - z != 4294967295 - z) = false := by simp
                    clear hz e1 e2 g1 g2
                    go_wp2
                    go_region
                    all_goals go_wp2
                    all_goals
                      go_roundw
                      case rel => exact ⟨k + 1, by omega, by go_num, hb4.drew⟩
                      case measure => simp [intOf]; omega
                · clear f3
                  go_wp2
                  go_roundw
                  case rel => exact ⟨c + 1, by omega, by go_num, hb4⟩
                  case measure => simp [intOf]; omega
            · go_wp2
              go_ret
              exact ⟨rfl, HB.out.trans (hb3.mono (by omega))⟩
end Go.Proofs.YtcfcjnlobpoglaaGreat

/- What the laws of layer 1 share: two answers beside the document's; lists that lie apart. -/
namespace Go.Proofs.YtcfcjnlobpoglaaGreat
open Go.RowKit
set_option linter.unusedVariables false

theorem own_slice {w : World} {base e n : Nat} {v : Value} {xs : List Value} (h : w.ownsRow base e 1 v n xs) : ∃ a cap, v = .slice a n cap := by
  rcases h.2 with ⟨h1, h0⟩ | ⟨g, cap, cur, hv, _⟩
  · subst h0; exact ⟨_, _, h1⟩
  · exact ⟨_, _, hv⟩
theorem Within.up {v : Value} {lo hi hi' : Nat} (h : Within v lo hi) (hh : hi ≤ hi') : Within v lo hi' := fun g hg => by have := h g hg; omega
theorem Tells.len {e t : Int} {zs : List Int} {c : Int} (h : Tells e t zs c) : zs.length ≤ 8192 := by
  by_cases he : e = 0
  · by_cases hl : wide ≤ t
    · rw [(h.long he hl).2]; simp
    · have e1 := (h.good he (by omega)).2
      exact len_of_lt h.wd h.trim (by rw [e1]; exact Int.not_le.1 hl)
  · rw [(h.bad he).2]; simp
end Go.Proofs.YtcfcjnlobpoglaaGreat

/- The kit's ApartRatios of three fractions. -/
namespace Go.Proofs.YtcfcjnlobpoglaaGreat
open Go.RowKit
set_option linter.unusedVariables false

/-- append to a row of the call's own, as one step of a region. -/
theorem step_append_own {P : Program} {ops : Array Oper} {o : Oper} {a : Act} {w : World} {K : Act → World → Prop} {Q : Exit → Act → World → Prop} {E : Prop}
    (hg : o.guard = none) (s x : Operand) (t : TypeId) (hop : o.op = Op.call { callee := Callee.builtin Builtin.append, args := #[s, x], argTypes := #[t, t] })
    (base : Nat) (e : TypeId) (i : TypeInfo) (z : Value) (size bytes : Nat) (h1 : P.underlying t = some (.slice e)) (h2 : P.info? e = some i) (h3 : i.zero = some z) (h4 : i.size = size) (h5 : i.bytes = bytes) (h6 : z.cells.size = size) (h7 : 0 < size)
    (v : Value) (n : Nat) (xs : List Value) (hs : a.eval s = v) (hown : w.ownsRow base e size v n xs)
    (ad : Addr) (m c : Nat) (news : List Value) (hx : a.eval x = .slice (some ad) m c) (hn : news.length = m * size) (hc : ∀ j u, news[j]? = some u → w.cell? (ad.add j) = some u) (h1c : ∀ u ∈ news, u.oneCell' = true)
    (b1 : n + m ≤ maxLen) (b2 : (n + m) * bytes ≤ 140737488355328) (hbase : base ≤ w.heap.size)
    (hK : ∀ v' w', w'.ownsRow base e size v' (n + m) (xs ++ news) → w.grownBy w' v.ownBlock → K (a.put o.dst v') w') :
    if Region.wanted o (yielded ops a.tmps) = true then Oper.wp P o a w K Q else E := by
  have hw : Region.wanted o (yielded ops a.tmps) = true := by simp [Region.wanted, hg]
  rw [if_pos hw]
  obtain ⟨v', w', hrun, r1, r2, _⟩ := run_append_own (P := P) w base t o.type e i z size bytes h1 h2 h3 h4 h5 h6 h7 v n xs hown ad m c news hn hc h1c b1 b2 hbase
  unfold Oper.wp
  simp [execOp, hop, resolve, invoke, builtin, hs, hx, hrun, Result.andThen]
  exact hK v' w' r1 r2
theorem two_cells (w : World) (u0 u1 : Value) (t : Nat) : ∀ j u, [u0, u1][j]? = some u → ((w.alloc (.cells #[u0, u1] t)).drew).cell? ((⟨w.heap.size, 0, none⟩ : Addr).add j) = some u := by
  intro j u h
  have hb := Box.made w t #[u0, u1]
  match j, h with
  | 0, h => obtain rfl : u0 = u := by simpa using h
            exact hb.cell 0
  | 1, h => obtain rfl : u1 = u := by simpa using h
            exact hb.cell 1
  | n + 2, h => simp at h

theorem own_row {w : World} {base e n g cap : Nat} {xs : List Value} (h : w.ownsRow base e 1 (.slice (some ⟨g, 0, none⟩) n cap) n xs) : ∃ cl : Array Value, w.heap[g]? = some (.cells cl e (0, 0)) ∧ ∀ j, j < n → cl[j]? = xs[j]? := by
  rcases h.2 with ⟨h1, _⟩ | ⟨g', cap', cur, hv, _, hg, _, _, _, ht⟩
  · cases h1
  · cases hv
    refine ⟨cur, hg, fun j hj => ?_⟩
    rw [← ht, List.getElem?_take, if_pos (by omega), Array.getElem?_toList]

end Go.Proofs.YtcfcjnlobpoglaaGreat

/- The kit's ApartRatios of any number of fractions. -/
namespace Go.Proofs.YtcfcjnlobpoglaaGreat
open Go.RowKit
set_option linter.unusedVariables false

/-- The first of a row of lists. -/
def anRow (A : Nat → Option Addr) (L C : Nat → Nat) (n : Nat) : List Value := (List.range n).map fun j => .slice (A j) (L j) (C j)
theorem anRow_succ (A : Nat → Option Addr) (L C : Nat → Nat) (n : Nat) : anRow A L C (n + 1) = anRow A L C n ++ [.slice (A n) (L n) (C n)] := by
  unfold anRow
  rw [List.range_succ, List.map_append]
  rfl
theorem anRow_two (A : Nat → Option Addr) (L C : Nat → Nat) (k : Nat) : anRow A L C (2 * (k + 1)) = anRow A L C (2 * k) ++ [.slice (A (2 * k)) (L (2 * k)) (C (2 * k)), .slice (A (2 * k + 1)) (L (2 * k + 1)) (C (2 * k + 1))] := by
  rw [show 2 * (k + 1) = 2 * k + 1 + 1 by omega, anRow_succ, anRow_succ, List.append_assoc]
  rfl
theorem anRow_get (A : Nat → Option Addr) (L C : Nat → Nat) (n j : Nat) (hj : j < n) : (anRow A L C n)[j]? = some (.slice (A j) (L j) (C j)) := by
  unfold anRow
  rw [List.getElem?_map, List.getElem?_range hj]
  rfl

set_option maxHeartbeats 1600000 in
set_option maxRecDepth 100000 in
theorem apartRatiosN (base N g cp : Nat) (B : Nat → Bool) (A : Nat → Option Addr) (L C : Nat → Nat) (X : Nat → List Int) (w : World) (hN : N ≤ 500) (hN0 : 0 < N)
    (hk : ∀ V, Below w.heap.size w V → ∀ k, k < N → V.cell? ⟨g, k * 3, none⟩ = some (.bool (B k)) ∧ V.cell? ⟨g, k * 3 + 1, none⟩ = some (.slice (A (2 * k)) (L (2 * k)) (C (2 * k))) ∧ V.cell? ⟨g, k * 3 + 2, none⟩ = some (.slice (A (2 * k + 1)) (L (2 * k + 1)) (C (2 * k + 1))))
    (hbs : base ≤ w.heap.size) (hcp : N ≤ cp) (hwd : ∀ j, j < 2 * N → Wd (X j)) (hlen : ∀ j, j < 2 * N → (X j).length ≤ 1099511627776)
    (hown : ∀ j, j < 2 * N → w.ownsRow base 66 1 (.slice (A j) (L j) (C j)) (X j).length ((X j).map (Value.int .u32)))
    (hap : ∀ i j, i < 2 * N → j < 2 * N → i ≠ j → (Value.slice (A i) (L i) (C i)).ownBlock = none ∨ (Value.slice (A i) (L i) (C i)).ownBlock ≠ (Value.slice (A j) (L j) (C j)).ownBlock) :
    Calls Tryz.prog 42 #[.slice (some ⟨g, 0, none⟩) N cp] w fun e w' => e = .returned (.bool true) ∧ Below base w w' := by
  obtain ⟨i0, hi, hz0, hz1, hz2⟩ := info_parts Tryz.infoL
  have HF := hid (And.intro hwd (And.intro hlen (And.intro hown hap)))
  have HK := hid hk
  have HBS := hid hbs
  clear hk hwd hlen hown hap hbs
  go_enter Tryz.func42, Tryz.ntmps42
  go_wp2_with fail
  go_loopw [3, 4] (fun v t wr => ∃ (k : Nat) (q : Option Addr) (d : Nat), k ≤ N ∧ t = .int .i64 k ∧ v = .slice q (2 * k) d ∧ Hid (wr.ownsRow w.heap.size 24 1 (.slice q (2 * k) d) (2 * k) (anRow A L C (2 * k))) ∧ Hid (Below w.heap.size w wr)) (fun _ t _ => N - (intOf t).toNat)
  case atStart => exact ⟨0, none, 0, Nat.zero_le _, rfl, rfl, World.ownsRow_nil _ _ _ _, Below.refl _ _⟩
  case round =>
    obtain ⟨k, q, d, hkN, rfl, rfl, HO, HB⟩ := hrel
    by_cases hlt : k < N
    · have hk0 : (0 : Int) ≤ ↑k := by omega
      have hk1 : (↑k : Int) < ↑N := by omega
      obtain ⟨e0, e1, e2⟩ := HK.out wr HB.out k hlt
      have hs0 := HK.out _ HB.out.drew k hlt
      have hbA : Below w.heap.size w (wr.alloc (.cells #[.slice (A (2 * k)) (L (2 * k)) (C (2 * k)), .slice (A (2 * k + 1)) (L (2 * k + 1)) (C (2 * k + 1))] 24)).drew := (bt HB.out (alloc_later wr _)).drew
      have HOA : Hid ((wr.alloc (.cells #[.slice (A (2 * k)) (L (2 * k)) (C (2 * k)), .slice (A (2 * k + 1)) (L (2 * k + 1)) (C (2 * k + 1))] 24)).drew.ownsRow w.heap.size 24 1 (.slice q (2 * k) d) (2 * k) (anRow A L C (2 * k))) := owns_later HO.out (bt (alloc_later wr _) (Below.drew (Below.refl _ _)))
      have hsA := HK.out _ hbA k hlt
      have hsz := HB.out.size
      go_wp2_with fail
      go_region_held3 (fun V : World => V.cell? ⟨g, k * 3, none⟩ = some (.bool (B k)) ∧ V.cell? ⟨g, k * 3 + 1, none⟩ = some (.slice (A (2 * k)) (L (2 * k)) (C (2 * k))) ∧ V.cell? ⟨g, k * 3 + 2, none⟩ = some (.slice (A (2 * k + 1)) (L (2 * k + 1)) (C (2 * k + 1)))) (first | exact hs0 | exact hsA | exact hs1 | go_keep)
        (first | (refine step_append_own rfl (.tmp 11) (.tmp 22) 89 rfl w.heap.size 24 i0 (.slice none 0 0) 1 24 Tryz.underlying89 hi hz0 hz1 hz2 rfl (by decide) (.slice q (2 * k) d) (2 * k) (anRow A L C (2 * k)) rfl HOA.out ⟨wr.heap.size, 0, none⟩ 2 2 [.slice (A (2 * k)) (L (2 * k)) (C (2 * k)), .slice (A (2 * k + 1)) (L (2 * k + 1)) (C (2 * k + 1))] rfl rfl (two_cells wr _ _ _) (by simp [Value.oneCell']) (by unfold maxLen; omega) (by omega) hbA.size ?_; intro v1 w1 o1 gr1; have hs1 := HK.out _ (hbA.grown gr1 hbA.size (fun k hk => (HOA.out.lt k hk).1)) k hlt))
      have hb1 : Below w.heap.size w w1 := hbA.grown gr1 hbA.size (fun k hk => (HOA.out.lt k hk).1)
      obtain ⟨q1, d1, hv1⟩ := own_slice o1
      subst hv1
      rw [← anRow_two] at o1
      have HO1 := hid o1
      have HB1 := hid hb1
      clear o1 gr1 hb1 HOA hbA hsA hs0 hs1 e0 e1 e2 hsz HO HB
      go_wp2_with fail
      go_roundw
      case rel => exact ⟨k + 1, q1, d1, by omega, by go_num, rfl, HO1, HB1⟩
      case measure => simp [intOf]; omega
    · have hkk : k = N := by omega
      subst hkk
      have hk1 : ¬ (↑k : Int) < ↑k := by omega
      obtain ⟨gl, hq, hd⟩ : ∃ gl, q = some ⟨gl, 0, none⟩ ∧ 2 * k ≤ d := by
        rcases HO.out.2 with ⟨_, h0⟩ | ⟨g', cap, cur, hv, _, _, h1, _⟩
        · omega
        · cases hv; exact ⟨g', rfl, h1⟩
      subst hq
      have HLs : Hid (Lists wr base gl (2 * k) (fun j => .slice (A j) (L j) (C j)) X) := by
        obtain ⟨cl, hg, hcl⟩ := own_row HO.out
        exact ⟨HF.out.1, HF.out.2.1, fun j hj => owns_later (HF.out.2.2.1 j hj) HB.out, HF.out.2.2.2, ⟨cl, hg, fun j hj => by rw [hcl j hj]; exact anRow_get A L C _ j hj⟩⟩
      have HAP := hid (apart_cap base gl (2 * k) d _ X wr HLs.out (by omega) (by have h1 := HB.out.size; have h2 := HBS.out; omega) hd)
      have HBB := hid (HB.out.mono HBS.out)
      clear HO HB HLs hd HF HK
      go_wp2_with fail
      refine Calls.mono HAP.out ?_
      rintro e w2 ⟨rfl, hb2⟩
      have HB2 := hid (HBB.out.trans hb2)
      clear HAP hb2
      go_wp2_with fail
      go_ret
      exact ⟨rfl, HB2.out⟩
end Go.Proofs.YtcfcjnlobpoglaaGreat

/- The kit's PartsOf of three complex fractions, ApartRatios of six fractions, ApartGausses of three complex fractions. (tools/mkkg.py) -/
namespace Go.Proofs.YtcfcjnlobpoglaaGreat
open Go.RowKit
set_option linter.unusedVariables false

theorem Tryz.infoKg : (Tryz.prog.info? 26).map (fun i => (i.zero, i.size, i.bytes)) = some (some (.agg #[.bool false, .slice none 0 0, .slice none 0 0]), 3, 56) := by kernel_rfl
theorem kg_slice3 {w : World} {base e n s : Nat} {v : Value} {xs : List Value} (h : w.ownsRow base e s v n xs) : ∃ a cap, v = .slice a n cap := by
  rcases h.2 with ⟨h1, h0⟩ | ⟨g, cap, cur, hv, _⟩
  · subst h0; exact ⟨_, _, h1⟩
  · exact ⟨_, _, hv⟩
theorem kg_later3 {w w' : World} {base e n s : Nat} {v : Value} {xs : List Value} (h : w.ownsRow base e s v n xs) (hb : Below w.heap.size w w') : w'.ownsRow base e s v n xs := by
  refine ⟨h.1, h.2.imp id ?_⟩
  rintro ⟨g, cap, cur, rfl, hbg, hg, h1, h2, h3, h4⟩
  refine ⟨g, cap, cur, rfl, hbg, ?_, h1, h2, h3, h4⟩
  rw [hb.block g (by
    have : w.heap[g]?.isSome := by rw [hg]; rfl
    simpa using this)]
  exact hg
theorem kg_six_cells (w : World) (u0 u1 u2 u3 u4 u5 : Value) (t : Nat) : ∀ j u, [u0, u1, u2, u3, u4, u5][j]? = some u → ((w.alloc (.cells #[u0, u1, u2, u3, u4, u5] t)).drew).cell? ((⟨w.heap.size, 0, none⟩ : Addr).add j) = some u := by
  intro j u h
  have hb := Box.made w t #[u0, u1, u2, u3, u4, u5]
  match j, h with
  | 0, h => obtain rfl : u0 = u := by simpa using h
            exact hb.cell 0
  | 1, h => obtain rfl : u1 = u := by simpa using h
            exact hb.cell 1
  | 2, h => obtain rfl : u2 = u := by simpa using h
            exact hb.cell 2
  | 3, h => obtain rfl : u3 = u := by simpa using h
            exact hb.cell 3
  | 4, h => obtain rfl : u4 = u := by simpa using h
            exact hb.cell 4
  | 5, h => obtain rfl : u5 = u := by simpa using h
            exact hb.cell 5
  | n + 6, h => simp at h
theorem kg_row3 {w : World} {base e n g cap : Nat} {xs : List Value} (h : w.ownsRow base e 3 (.slice (some ⟨g, 0, none⟩) n cap) n xs) : ∃ cl : Array Value, w.heap[g]? = some (.cells cl e (0, 0)) ∧ ∀ j, j < n * 3 → cl[j]? = xs[j]? := by
  rcases h.2 with ⟨h1, _⟩ | ⟨g', cap', cur, hv, _, hg, _, _, _, ht⟩
  · cases h1
  · cases hv
    refine ⟨cur, hg, fun j hj => ?_⟩
    rw [← ht, List.getElem?_take, if_pos (by omega), Array.getElem?_toList]

end Go.Proofs.YtcfcjnlobpoglaaGreat

/- The kit's PartsOf and ApartGausses of any number of complex fractions. -/
namespace Go.Proofs.YtcfcjnlobpoglaaGreat
open Go.RowKit
set_option linter.unusedVariables false

/-- The cells of the first fractions of a row. -/
def anCells (B : Nat → Bool) (A : Nat → Option Addr) (L C : Nat → Nat) : Nat → List Value
  | 0 => []
  | n + 1 => anCells B A L C n ++ [.bool (B n), .slice (A (2 * n)) (L (2 * n)) (C (2 * n)), .slice (A (2 * n + 1)) (L (2 * n + 1)) (C (2 * n + 1))]
theorem anCells_len (B : Nat → Bool) (A : Nat → Option Addr) (L C : Nat → Nat) (n : Nat) : (anCells B A L C n).length = n * 3 := by
  induction n with
  | zero => rfl
  | succ n ih =>
    show (anCells B A L C n ++ _).length = _
    rw [List.length_append, ih]
    show n * 3 + 3 = _
    omega
theorem anCells_get (B : Nat → Bool) (A : Nat → Option Addr) (L C : Nat → Nat) (n k : Nat) (hk : k < n) : (anCells B A L C n)[k * 3]? = some (.bool (B k)) ∧ (anCells B A L C n)[k * 3 + 1]? = some (.slice (A (2 * k)) (L (2 * k)) (C (2 * k))) ∧ (anCells B A L C n)[k * 3 + 2]? = some (.slice (A (2 * k + 1)) (L (2 * k + 1)) (C (2 * k + 1))) := by
  induction n with
  | zero => omega
  | succ n ih =>
    have hl := anCells_len B A L C n
    show (anCells B A L C n ++ _)[_]? = _ ∧ (anCells B A L C n ++ _)[_]? = _ ∧ (anCells B A L C n ++ _)[_]? = _
    by_cases h : k < n
    · rw [List.getElem?_append_left (by omega), List.getElem?_append_left (by omega), List.getElem?_append_left (by omega)]
      exact ih h
    · obtain rfl : k = n := by omega
      rw [List.getElem?_append_right (by omega), List.getElem?_append_right (by omega), List.getElem?_append_right (by omega), hl, show k * 3 - k * 3 = 0 by omega, show k * 3 + 1 - k * 3 = 1 by omega, show k * 3 + 2 - k * 3 = 2 by omega]
      exact ⟨rfl, rfl, rfl⟩
theorem anCells_two (B : Nat → Bool) (A : Nat → Option Addr) (L C : Nat → Nat) (k : Nat) : anCells B A L C (2 * (k + 1)) = anCells B A L C (2 * k) ++ [.bool (B (2 * k)), .slice (A (2 * (2 * k))) (L (2 * (2 * k))) (C (2 * (2 * k))), .slice (A (2 * (2 * k) + 1)) (L (2 * (2 * k) + 1)) (C (2 * (2 * k) + 1)), .bool (B (2 * k + 1)), .slice (A (2 * (2 * k + 1))) (L (2 * (2 * k + 1))) (C (2 * (2 * k + 1))), .slice (A (2 * (2 * k + 1) + 1)) (L (2 * (2 * k + 1) + 1)) (C (2 * (2 * k + 1) + 1))] := by
  rw [show 2 * (k + 1) = 2 * k + 1 + 1 by omega]
  show (anCells B A L C (2 * k) ++ _) ++ _ = _
  rw [List.append_assoc]
  rfl

set_option maxHeartbeats 1600000 in
set_option maxRecDepth 100000 in
theorem partsOfN (N g cp : Nat) (B : Nat → Bool) (A : Nat → Option Addr) (L C : Nat → Nat) (w : World) (hN : N ≤ 250)
    (hk : ∀ V, Below w.heap.size w V → ∀ k, k < N → V.cell? ⟨g, k * 6, none⟩ = some (.bool (B (2 * k))) ∧ V.cell? ⟨g, k * 6 + 1, none⟩ = some (.slice (A (2 * (2 * k))) (L (2 * (2 * k))) (C (2 * (2 * k)))) ∧ V.cell? ⟨g, k * 6 + 2, none⟩ = some (.slice (A (2 * (2 * k) + 1)) (L (2 * (2 * k) + 1)) (C (2 * (2 * k) + 1))) ∧ V.cell? ⟨g, k * 6 + 3, none⟩ = some (.bool (B (2 * k + 1))) ∧ V.cell? ⟨g, k * 6 + 4, none⟩ = some (.slice (A (2 * (2 * k + 1))) (L (2 * (2 * k + 1))) (C (2 * (2 * k + 1)))) ∧ V.cell? ⟨g, k * 6 + 5, none⟩ = some (.slice (A (2 * (2 * k + 1) + 1)) (L (2 * (2 * k + 1) + 1)) (C (2 * (2 * k + 1) + 1)))) (hcp : N ≤ cp) :
    Calls Tryz.prog 43 #[.slice (some ⟨g, 0, none⟩) N cp] w fun e w' => ∃ v, e = .returned v ∧ w'.ownsRow w.heap.size 26 3 v (2 * N) (anCells B A L C (2 * N)) ∧ Below w.heap.size w w' := by
  obtain ⟨i0, hi, hz0, hz1, hz2⟩ := info_parts Tryz.infoKg
  have HK := hid hk
  clear hk
  go_enter Tryz.func43, Tryz.ntmps43
  go_wp2_with fail
  go_loopw [3, 4] (fun v t wr => ∃ (k : Nat) (q : Option Addr) (d : Nat), k ≤ N ∧ t = .int .i64 k ∧ v = .slice q (2 * k) d ∧ Hid (wr.ownsRow w.heap.size 26 3 (.slice q (2 * k) d) (2 * k) (anCells B A L C (2 * k))) ∧ Hid (Below w.heap.size w wr)) (fun _ t _ => N - (intOf t).toNat)
  case atStart => exact ⟨0, none, 0, Nat.zero_le _, rfl, rfl, World.ownsRow_nil _ _ _ _, Below.refl _ _⟩
  case round =>
    obtain ⟨k, q, d, hkN, rfl, rfl, HO, HB⟩ := hrel
    by_cases hlt : k < N
    · have hk0 : (0 : Int) ≤ ↑k := by omega
      have hk1 : (↑k : Int) < ↑N := by omega
      obtain ⟨e0, e1, e2, e3, e4, e5⟩ := HK.out wr HB.out k hlt
      have hs0 := HK.out _ HB.out.drew k hlt
      have hbA : Below w.heap.size w (wr.alloc (.cells #[.bool (B (2 * k)), .slice (A (2 * (2 * k))) (L (2 * (2 * k))) (C (2 * (2 * k))), .slice (A (2 * (2 * k) + 1)) (L (2 * (2 * k) + 1)) (C (2 * (2 * k) + 1)), .bool (B (2 * k + 1)), .slice (A (2 * (2 * k + 1))) (L (2 * (2 * k + 1))) (C (2 * (2 * k + 1))), .slice (A (2 * (2 * k + 1) + 1)) (L (2 * (2 * k + 1) + 1)) (C (2 * (2 * k + 1) + 1))] 26)).drew := (bt HB.out (alloc_later wr _)).drew
      have HOA : Hid ((wr.alloc (.cells #[.bool (B (2 * k)), .slice (A (2 * (2 * k))) (L (2 * (2 * k))) (C (2 * (2 * k))), .slice (A (2 * (2 * k) + 1)) (L (2 * (2 * k) + 1)) (C (2 * (2 * k) + 1)), .bool (B (2 * k + 1)), .slice (A (2 * (2 * k + 1))) (L (2 * (2 * k + 1))) (C (2 * (2 * k + 1))), .slice (A (2 * (2 * k + 1) + 1)) (L (2 * (2 * k + 1) + 1)) (C (2 * (2 * k + 1) + 1))] 26)).drew.ownsRow w.heap.size 26 3 (.slice q (2 * k) d) (2 * k) (anCells B A L C (2 * k))) := kg_later3 HO.out (bt (alloc_later wr _) (Below.drew (Below.refl _ _)))
      have hsA := HK.out _ hbA k hlt
      have hsz := HB.out.size
      go_wp2_with fail
      go_region_held3 (fun V : World => V.cell? ⟨g, k * 6, none⟩ = some (.bool (B (2 * k))) ∧ V.cell? ⟨g, k * 6 + 1, none⟩ = some (.slice (A (2 * (2 * k))) (L (2 * (2 * k))) (C (2 * (2 * k)))) ∧ V.cell? ⟨g, k * 6 + 2, none⟩ = some (.slice (A (2 * (2 * k) + 1)) (L (2 * (2 * k) + 1)) (C (2 * (2 * k) + 1))) ∧ V.cell? ⟨g, k * 6 + 3, none⟩ = some (.bool (B (2 * k + 1))) ∧ V.cell? ⟨g, k * 6 + 4, none⟩ = some (.slice (A (2 * (2 * k + 1))) (L (2 * (2 * k + 1))) (C (2 * (2 * k + 1)))) ∧ V.cell? ⟨g, k * 6 + 5, none⟩ = some (.slice (A (2 * (2 * k + 1) + 1)) (L (2 * (2 * k + 1) + 1)) (C (2 * (2 * k + 1) + 1)))) (first | exact hs0 | exact hsA | exact hs1 | go_keep)
        (first | (refine step_append_own rfl (.tmp 11) (.tmp 22) 71 rfl w.heap.size 26 i0 (.agg #[.bool false, .slice none 0 0, .slice none 0 0]) 3 56 Tryz.underlying71 hi hz0 hz1 hz2 rfl (by decide) (.slice q (2 * k) d) (2 * k) (anCells B A L C (2 * k)) rfl HOA.out ⟨wr.heap.size, 0, none⟩ 2 2 [.bool (B (2 * k)), .slice (A (2 * (2 * k))) (L (2 * (2 * k))) (C (2 * (2 * k))), .slice (A (2 * (2 * k) + 1)) (L (2 * (2 * k) + 1)) (C (2 * (2 * k) + 1)), .bool (B (2 * k + 1)), .slice (A (2 * (2 * k + 1))) (L (2 * (2 * k + 1))) (C (2 * (2 * k + 1))), .slice (A (2 * (2 * k + 1) + 1)) (L (2 * (2 * k + 1) + 1)) (C (2 * (2 * k + 1) + 1))] rfl rfl (kg_six_cells wr _ _ _ _ _ _ _) (by simp [Value.oneCell']) (by unfold maxLen; omega) (by omega) hbA.size ?_; intro v1 w1 o1 gr1; have hs1 := HK.out _ (hbA.grown gr1 hbA.size (fun k hk => (HOA.out.lt k hk).1)) k hlt))
      have hb1 : Below w.heap.size w w1 := hbA.grown gr1 hbA.size (fun k hk => (HOA.out.lt k hk).1)
      obtain ⟨q1, d1, hv1⟩ := kg_slice3 o1
      subst hv1
      rw [← anCells_two] at o1
      have HO1 := hid o1
      have HB1 := hid hb1
      clear o1 gr1 hb1 HOA hbA hsA hs0 hs1 e0 e1 e2 e3 e4 e5 hsz HO HB
      go_wp2_with fail
      go_roundw
      case rel => exact ⟨k + 1, q1, d1, by omega, by go_num, rfl, HO1, HB1⟩
      case measure => simp [intOf]; omega
    · obtain rfl : k = N := by omega
      have hk1 : ¬ (↑k : Int) < ↑k := by omega
      go_wp2_with fail
      go_ret
      exact ⟨_, rfl, HO.out, HB.out⟩

set_option maxHeartbeats 1600000 in
set_option maxRecDepth 100000 in
theorem apartGaussesN (base N g cp : Nat) (B : Nat → Bool) (A : Nat → Option Addr) (L C : Nat → Nat) (X : Nat → List Int) (w : World) (hN : N ≤ 250) (hN0 : 0 < N)
    (hk : ∀ V, Below w.heap.size w V → ∀ k, k < N → V.cell? ⟨g, k * 6, none⟩ = some (.bool (B (2 * k))) ∧ V.cell? ⟨g, k * 6 + 1, none⟩ = some (.slice (A (2 * (2 * k))) (L (2 * (2 * k))) (C (2 * (2 * k)))) ∧ V.cell? ⟨g, k * 6 + 2, none⟩ = some (.slice (A (2 * (2 * k) + 1)) (L (2 * (2 * k) + 1)) (C (2 * (2 * k) + 1))) ∧ V.cell? ⟨g, k * 6 + 3, none⟩ = some (.bool (B (2 * k + 1))) ∧ V.cell? ⟨g, k * 6 + 4, none⟩ = some (.slice (A (2 * (2 * k + 1))) (L (2 * (2 * k + 1))) (C (2 * (2 * k + 1)))) ∧ V.cell? ⟨g, k * 6 + 5, none⟩ = some (.slice (A (2 * (2 * k + 1) + 1)) (L (2 * (2 * k + 1) + 1)) (C (2 * (2 * k + 1) + 1))))
    (hbs : base ≤ w.heap.size) (hcp : N ≤ cp) (hwd : ∀ j, j < 4 * N → Wd (X j)) (hlen : ∀ j, j < 4 * N → (X j).length ≤ 1099511627776)
    (hown : ∀ j, j < 4 * N → w.ownsRow base 66 1 (.slice (A j) (L j) (C j)) (X j).length ((X j).map (Value.int .u32)))
    (hap : ∀ i j, i < 4 * N → j < 4 * N → i ≠ j → (Value.slice (A i) (L i) (C i)).ownBlock = none ∨ (Value.slice (A i) (L i) (C i)).ownBlock ≠ (Value.slice (A j) (L j) (C j)).ownBlock) :
    Calls Tryz.prog 18 #[.slice (some ⟨g, 0, none⟩) N cp] w fun e w' => e = .returned (.bool true) ∧ Below base w w' := by
  have HP := hid (partsOfN N g cp B A L C w hN hk hcp)
  have HF := hid (And.intro hwd (And.intro hlen (And.intro hown hap)))
  clear hwd hlen hown hap hk
  go_enter Tryz.func18, Tryz.ntmps18
  go_wp2_with fail
  refine Calls.mono HP.out ?_
  rintro e w1 ⟨v, rfl, ho, hb⟩
  obtain ⟨q, d, hv⟩ := kg_slice3 ho
  subst hv
  obtain ⟨gl, rfl, hd⟩ : ∃ gl, q = some ⟨gl, 0, none⟩ ∧ 2 * N ≤ d := by
    rcases ho.2 with ⟨_, h0⟩ | ⟨g', cap, cur, hv, _, _, h1, _⟩
    · omega
    · cases hv; exact ⟨g', rfl, h1⟩
  have HA := hid (apartRatiosN base (2 * N) gl d B A L C X w1 (by omega) (by omega) (fun V hbv k hk2 => by
    obtain ⟨cl, hg, hcl⟩ := kg_row3 (kg_later3 ho hbv)
    have hc : ∀ j, V.cell? ⟨gl, j, none⟩ = cl[j]? := fun j => by simp [World.cell?, hg]
    obtain ⟨r0, r1, r2⟩ := anCells_get B A L C (2 * N) k hk2
    exact ⟨by rw [hc, hcl _ (by omega)]; exact r0, by rw [hc, hcl _ (by omega)]; exact r1, by rw [hc, hcl _ (by omega)]; exact r2⟩) (Nat.le_trans hbs hb.size) hd (fun j hj => HF.out.1 j (by omega)) (fun j hj => HF.out.2.1 j (by omega)) (fun j hj => owns_later (HF.out.2.2.1 j (by omega)) hb) (fun i j hi hj hne => HF.out.2.2.2 i j (by omega) (by omega) hne))
  have HB := hid (hb.mono hbs)
  clear ho hb HF HP hd
  go_wp2_with fail
  refine Calls.mono HA.out ?_
  rintro e w2 ⟨rfl, hb2⟩
  have HB2 := hid (HB.out.trans hb2)
  clear HA hb2
  go_wp2_with fail
  go_ret
  exact ⟨rfl, HB2.out⟩
end Go.Proofs.YtcfcjnlobpoglaaGreat

/- Any number of complex fractions, each a letter, told apart by the kit's ApartGausses. -/
namespace Go.Proofs.YtcfcjnlobpoglaaGreat
open Go.RowKit
set_option linter.unusedVariables false
set_option linter.unusedSimpArgs false

/-- The rows of a complex fraction, one by one. -/
def G6.ra (g : G6) (j : Nat) : Option Addr := if j = 0 then g.a else if j = 1 then g.b else if j = 2 then g.c else g.d
def G6.rl (g : G6) (j : Nat) : List Int := if j = 0 then g.xs else if j = 1 then g.ys else if j = 2 then g.us else g.vs
def G6.rc (g : G6) (j : Nat) : Nat := if j = 0 then g.ca else if j = 1 then g.cb else if j = 2 then g.cc else g.cd
def G6.rn (g : G6) (j : Nat) : Bool := if j = 0 then g.n else g.m
def G6.row (g : G6) (j : Nat) : Value := .slice (g.ra j) (g.rl j).length (g.rc j)
/-- Its four rows lie apart, between these two blocks. -/
def G6.In (g : G6) (lo hi : Nat) : Prop := Kp4 (.slice g.a g.xs.length g.ca) (.slice g.b g.ys.length g.cb) (.slice g.c g.us.length g.cc) (.slice g.d g.vs.length g.cd) ∧ ∀ j, j < 4 → Within (g.row j) lo hi
/-- Words, and not too many. -/
def G6.Few (g : G6) : Prop := (Wd g.xs ∧ Wd g.ys ∧ Wd g.us ∧ Wd g.vs) ∧ g.xs.length ≤ 2048 ∧ g.ys.length ≤ 2048 ∧ g.us.length ≤ 2048 ∧ g.vs.length ≤ 2048
theorem G6.four {P : Nat → Prop} (h0 : P 0) (h1 : P 1) (h2 : P 2) (h3 : P 3) : ∀ j, j < 4 → P j
  | 0, _ => h0
  | 1, _ => h1
  | 2, _ => h2
  | 3, _ => h3
  | n + 4, h => absurd h (by omega)
theorem G6.in_of {g : G6} {V W W1 : World} (ho : g.Ow V W.heap.size) (h1 : Cut W (.slice g.a g.xs.length g.ca) (.slice g.b g.ys.length g.cb) W1) (h2 : Cut W1 (.slice g.c g.us.length g.cc) (.slice g.d g.vs.length g.cd) V) : g.In W.heap.size V.heap.size := by
  refine ⟨?_, G6.four (kg_within ho.1) (kg_within ho.2.1) (kg_within ho.2.2.1) (kg_within ho.2.2.2)⟩
  obtain ⟨c, c0, c1, l0, l1⟩ := h1
  obtain ⟨d, d0, d1, m0, m1⟩ := h2
  exact ⟨Kp.far l0 l1 (.inl (Nat.le_refl _)), Kp.far m0 m1 (.inl (Nat.le_refl _)), Kp.far l0 m0 (.inl c1), Kp.far l0 m1 (.inl (by omega)), Kp.far l1 m0 (.inl (Nat.le_refl _)), Kp.far l1 m1 (.inl d0)⟩
theorem G6.Ow.get {g : G6} {V : World} {base : Nat} (h : g.Ow V base) : ∀ j, j < 4 → V.ownsRow base 66 1 (g.row j) (g.rl j).length ((g.rl j).map (Value.int .u32)) := G6.four h.1 h.2.1 h.2.2.1 h.2.2.2
theorem G6.Few.wd {g : G6} (h : g.Few) : ∀ j, j < 4 → Wd (g.rl j) := G6.four h.1.1 h.1.2.1 h.1.2.2.1 h.1.2.2.2
theorem G6.Few.len {g : G6} (h : g.Few) : ∀ j, j < 4 → (g.rl j).length ≤ 2048 := G6.four h.2.1 h.2.2.1 h.2.2.2.1 h.2.2.2.2
theorem g6_far {N : Nat} {lo up : Nat → Nat} (hlh : ∀ t, t < N → lo t ≤ up t) (hch : ∀ t, t + 1 < N → up t ≤ lo (t + 1)) : ∀ s t, s < t → t < N → up s ≤ lo t := by
  intro s t
  induction t with
  | zero => omega
  | succ t ih =>
    intro h1 h2
    rcases Nat.lt_or_ge s t with h | h
    · have q1 := ih h (by omega)
      have q2 := hlh t (by omega)
      have q3 := hch t (by omega)
      omega
    · obtain rfl : s = t := by omega
      exact hch s h2
/-- The kit's ApartGausses of any number of complex fractions that lie apart. -/
theorem apartG6 (base N g cp : Nat) (G : Nat → G6) (w : World) (hN : N ≤ 250) (hN0 : 0 < N)
    (hk : ∀ V, Below w.heap.size w V → ∀ k, k < N → V.cell? ⟨g, k * 6, none⟩ = some (.bool (G k).n) ∧ V.cell? ⟨g, k * 6 + 1, none⟩ = some (.slice (G k).a (G k).xs.length (G k).ca) ∧ V.cell? ⟨g, k * 6 + 2, none⟩ = some (.slice (G k).b (G k).ys.length (G k).cb) ∧ V.cell? ⟨g, k * 6 + 3, none⟩ = some (.bool (G k).m) ∧ V.cell? ⟨g, k * 6 + 4, none⟩ = some (.slice (G k).c (G k).us.length (G k).cc) ∧ V.cell? ⟨g, k * 6 + 5, none⟩ = some (.slice (G k).d (G k).vs.length (G k).cd))
    (hbs : base ≤ w.heap.size) (hcp : N ≤ cp) (hfew : ∀ k, k < N → (G k).Few) (hown : ∀ k, k < N → (G k).Ow w base) (lo up : Nat → Nat) (hin : ∀ k, k < N → (G k).In (lo k) (up k)) (hlh : ∀ t, t < N → lo t ≤ up t) (hch : ∀ t, t + 1 < N → up t ≤ lo (t + 1)) :
    Calls Tryz.prog 18 #[.slice (some ⟨g, 0, none⟩) N cp] w fun e w' => e = .returned (.bool true) ∧ Below base w w' := by
  have far := g6_far hlh hch
  refine apartGaussesN base N g cp (fun i => (G (i / 2)).rn (i % 2)) (fun j => (G (j / 4)).ra (j % 4)) (fun j => ((G (j / 4)).rl (j % 4)).length) (fun j => (G (j / 4)).rc (j % 4)) (fun j => (G (j / 4)).rl (j % 4)) w hN hN0 ?_ hbs hcp ?_ ?_ ?_ ?_
  · intro V hV k hkN
    have q := hk V hV k hkN
    rw [show 2 * k / 2 = k by omega, show 2 * k % 2 = 0 by omega, show (2 * k + 1) / 2 = k by omega, show (2 * k + 1) % 2 = 1 by omega, show 2 * (2 * k) / 4 = k by omega, show 2 * (2 * k) % 4 = 0 by omega, show (2 * (2 * k) + 1) / 4 = k by omega, show (2 * (2 * k) + 1) % 4 = 1 by omega, show 2 * (2 * k + 1) / 4 = k by omega, show 2 * (2 * k + 1) % 4 = 2 by omega, show (2 * (2 * k + 1) + 1) / 4 = k by omega, show (2 * (2 * k + 1) + 1) % 4 = 3 by omega]
    exact q
  · intro j hj
    exact (hfew (j / 4) (by omega)).wd (j % 4) (by omega)
  · intro j hj
    have := (hfew (j / 4) (by omega)).len (j % 4) (by omega)
    omega
  · intro j hj
    exact (hown (j / 4) (by omega)).get (j % 4) (by omega)
  · intro i j hi hj hne
    show Kp ((G (i / 4)).row (i % 4)) ((G (j / 4)).row (j % 4))
    have wi := (hin (i / 4) (by omega)).2 (i % 4) (by omega)
    have wj := (hin (j / 4) (by omega)).2 (j % 4) (by omega)
    rcases Nat.lt_trichotomy (i / 4) (j / 4) with h | h | h
    · exact Kp.far wi wj (.inl (far _ _ h (by omega)))
    · rw [h] at wi ⊢
      exact kp_four (v := fun k => (G (j / 4)).row k) (hin (j / 4) (by omega)).1 (i % 4) (j % 4) (by omega) (by omega) (by omega)
    · exact Kp.far wi wj (.inr (far _ _ h (by omega)))
end Go.Proofs.YtcfcjnlobpoglaaGreat

/- Complex fractions: gauss.Norm: of any, good or refused. -/
namespace Go.Proofs.YtcfcjnlobpoglaaGreat
open Go.RowKit
set_option linter.unusedVariables false

theorem boxes2m (w : World) (t t' : Nat) (u v : Array Value) : Box ((w.alloc (.cells u t)).alloc (.cells v t')) w.heap.size t u ∧ Box ((w.alloc (.cells u t)).alloc (.cells v t')) (w.heap.size + 1) t' v ∧ Below w.heap.size w ((w.alloc (.cells u t)).alloc (.cells v t')) := by
  have e1 : (w.alloc (.cells u t)).heap.size = w.heap.size + 1 := World.size_alloc _ _
  have a := Box.made w t u
  have b := Box.made (w.alloc (.cells u t)) t' v
  exact ⟨a.later (alloc_later _ _) a.lt, e1 ▸ b, bt (alloc_later _ _) (alloc_later _ _)⟩
end Go.Proofs.YtcfcjnlobpoglaaGreat

/- The document's own fractions: same words; Check. -/
namespace Go.Proofs.YtcfcjnlobpoglaaGreat
open Go.RowKit
set_option linter.unusedVariables false

end Go.Proofs.YtcfcjnlobpoglaaGreat

/- Complex fractions: what is told with all rows apart; gauss.Conj; the document's Check: apart from the texts of numbers. (tools/mkgp0.py) -/
namespace Go.Proofs.YtcfcjnlobpoglaaGreat
open Go.RowKit
set_option linter.unusedVariables false

/-- A complex fraction told in new memory, all four rows apart. -/
def KToldC (w : World) (E : Int) (L : Prop) (q1 q2 : Rat) (x : Ending) (w' : World) : Prop :=
  ∃ n a ca xs b cb ys m c cc us d cd vs code, x = .returned (.tuple #[.agg #[.bool n, .slice a (List.length xs) ca, .slice b (List.length ys) cb, .bool m, .slice c (List.length us) cc, .slice d (List.length vs) cd], .int .i64 code]) ∧ (w'.ownsRow w.heap.size 66 1 (.slice a xs.length ca) xs.length (xs.map (Value.int .u32)) ∧ w'.ownsRow w.heap.size 66 1 (.slice b ys.length cb) ys.length (ys.map (Value.int .u32)) ∧ w'.ownsRow w.heap.size 66 1 (.slice c us.length cc) us.length (us.map (Value.int .u32)) ∧ w'.ownsRow w.heap.size 66 1 (.slice d vs.length cd) vs.length (vs.map (Value.int .u32))) ∧ GTells E L q1 q2 n xs ys m us vs code ∧ Below w.heap.size w w' ∧ ∃ W1, Cut w (.slice a xs.length ca) (.slice b ys.length cb) W1 ∧ Cut W1 (.slice c us.length cc) (.slice d vs.length cd) w'
theorem KToldC.told {w w' : World} {E : Int} {L : Prop} {q1 q2 : Rat} {x : Ending} (h : KToldC w E L q1 q2 x w') : GTold w E L q1 q2 x w' := by
  obtain ⟨n, a, ca, xs, b, cb, ys, m, c, cc, us, d, cd, vs, code, e, o, t, hb, _⟩ := h
  exact ⟨n, a, ca, xs, b, cb, ys, m, c, cc, us, d, cd, vs, code, e, o, t, hb⟩
end Go.Proofs.YtcfcjnlobpoglaaGreat

/- A box of six cells that is stored into whole. -/
namespace Go.Proofs.YtcfcjnlobpoglaaGreat
open Go.RowKit
set_option linter.unusedVariables false

end Go.Proofs.YtcfcjnlobpoglaaGreat

/- Complex fractions, the laws' own: frac; two fractions, two complex fractions with the same words. -/
namespace Go.Proofs.YtcfcjnlobpoglaaGreat
open Go.RowKit
set_option linter.unusedVariables false

set_option maxHeartbeats 1600000 in
set_option maxRecDepth 100000 in
theorem gsameRatio_eq (n : Bool) (v u v' u' : Value) (xs ys : List Int) (w : World) (h : Sl w v xs) (g : Sl w u ys) (h' : Sl w v' xs) (g' : Sl w u' ys) (lx : xs.length ≤ 281474976710656) (ly : ys.length ≤ 281474976710656) :
    Calls Tryz.prog 41 #[.agg #[.bool n, v, u], .agg #[.bool n, v', u']] w fun e w' => e = .returned (.bool true) ∧ Below w.heap.size w w' := by
  have HB : Hid (Below w.heap.size w ((w.alloc (.cells #[.bool n, v, u] 26)).alloc (.cells #[.bool n, v', u'] 26))) := bt (alloc_later _ _) (alloc_later _ _)
  have HN : Hid (Box ((w.alloc (.cells #[.bool n, v, u] 26)).alloc (.cells #[.bool n, v', u'] 26)) w.heap.size 26 #[.bool n, v, u]) := Box.later (Box.made w _ _) (alloc_later _ _) (by simp)
  have HM : Hid (Box ((w.alloc (.cells #[.bool n, v, u] 26)).alloc (.cells #[.bool n, v', u'] 26)) (w.heap.size + 1) 26 #[.bool n, v', u']) := by
    have e := Box.made (w.alloc (.cells #[.bool n, v, u] 26)) 26 #[.bool n, v', u']
    simp at e
    exact e
  have H1 := hid (same_sl v v' xs xs _ (h.later HB.out) (h'.later HB.out) lx lx)
  rw [decide_eq_true rfl] at H1
  have H2 := hid (fun ww (hb : Below _ ((w.alloc (.cells #[.bool n, v, u] 26)).alloc (.cells #[.bool n, v', u'] 26)) ww) => same_sl u u' ys ys ww ((g.later HB.out).later hb) ((g'.later HB.out).later hb) ly ly)
  rw [decide_eq_true rfl] at H2
  have hbb : (n == n) = true := by simp
  obtain ⟨a, ca, rfl, hr⟩ := h
  obtain ⟨b, cb, rfl, gr⟩ := g
  obtain ⟨a', ca', rfl, hr'⟩ := h'
  obtain ⟨b', cb', rfl, gr'⟩ := g'
  clear hr gr hr' gr'
  go_enter Tryz.func41, Tryz.ntmps41
  go_wp2_with fail
  refine Calls.mono H1.out ?_
  generalize ((w.alloc (.cells #[.bool n, .slice a xs.length ca, .slice b ys.length cb] 26)).alloc (.cells #[.bool n, .slice a' xs.length ca', .slice b' ys.length cb'] 26)) = X at *
  rintro e w1 ⟨rfl, hb1⟩
  obtain ⟨p0, p1, p2, _, _, _⟩ := res_box3 HN.out hb1
  obtain ⟨q0, q1, q2, _, _, _⟩ := res_box3 HM.out hb1
  have HC := hid (H2.out w1 hb1)
  have HB1 := hid (bt HB.out hb1)
  clear hb1 H1 H2
  go_wp2_with fail
  refine Calls.mono HC.out ?_
  rintro e w2 ⟨rfl, hb2⟩
  have HBN := hid (bt HB1.out hb2)
  clear hb2 HC
  go_wp2_with fail
  go_ret
  exact ⟨rfl, HBN.out⟩
end Go.Proofs.YtcfcjnlobpoglaaGreat

/- Two complex fractions with the same words: slackwaterkit.SameGauss. -/
namespace Go.Proofs.YtcfcjnlobpoglaaGreat
open Go.RowKit
set_option linter.unusedVariables false

set_option maxHeartbeats 1600000 in
set_option maxRecDepth 100000 in
theorem gsameGauss_eq (n : Bool) (a : Option Addr) (ca : Nat) (xs : List Int) (b : Option Addr) (cb : Nat) (ys : List Int) (m : Bool) (c : Option Addr) (cc : Nat) (us : List Int) (d : Option Addr) (cd : Nat) (vs : List Int) (a2 : Option Addr) (ca2 : Nat) (b2 : Option Addr) (cb2 : Nat) (c2 : Option Addr) (cc2 : Nat) (d2 : Option Addr) (cd2 : Nat) (w : World) (sx : Sl w (.slice a xs.length ca) xs) (sy : Sl w (.slice b ys.length cb) ys) (su : Sl w (.slice c us.length cc) us) (sv : Sl w (.slice d vs.length cd) vs) (sx2 : Sl w (.slice a2 xs.length ca2) xs) (sy2 : Sl w (.slice b2 ys.length cb2) ys) (su2 : Sl w (.slice c2 us.length cc2) us) (sv2 : Sl w (.slice d2 vs.length cd2) vs) (lx : xs.length ≤ 281474976710656) (ly : ys.length ≤ 281474976710656) (lu : us.length ≤ 281474976710656) (lv : vs.length ≤ 281474976710656) :
    Calls Tryz.prog 17 #[.agg #[.bool n, .slice a xs.length ca, .slice b ys.length cb, .bool m, .slice c us.length cc, .slice d vs.length cd], .agg #[.bool n, .slice a2 xs.length ca2, .slice b2 ys.length cb2, .bool m, .slice c2 us.length cc2, .slice d2 vs.length cd2]] w fun x w' => x = .returned (.bool true) ∧ Below w.heap.size w w' := by
  have HX := hid (boxes2m w 28 28 #[.bool n, .slice a xs.length ca, .slice b ys.length cb, .bool m, .slice c us.length cc, .slice d vs.length cd] #[.bool n, .slice a2 xs.length ca2, .slice b2 ys.length cb2, .bool m, .slice c2 us.length cc2, .slice d2 vs.length cd2])
  obtain ⟨X, hX⟩ : ∃ X, (w.alloc (.cells #[.bool n, .slice a xs.length ca, .slice b ys.length cb, .bool m, .slice c us.length cc, .slice d vs.length cd] 28)).alloc (.cells #[.bool n, .slice a2 xs.length ca2, .slice b2 ys.length cb2, .bool m, .slice c2 us.length cc2, .slice d2 vs.length cd2] 28) = X := ⟨_, rfl⟩
  rw [hX] at HX
  have H1 := hid (gsameRatio_eq n _ _ _ _ xs ys X (sx.later HX.out.2.2) (sy.later HX.out.2.2) (sx2.later HX.out.2.2) (sy2.later HX.out.2.2) lx ly)
  have H2 : Hid (∀ V, Below w.heap.size w V → Calls Tryz.prog 41 #[.agg #[.bool m, .slice c us.length cc, .slice d vs.length cd], .agg #[.bool m, .slice c2 us.length cc2, .slice d2 vs.length cd2]] V fun e w' => e = .returned (.bool true) ∧ Below V.heap.size V w') := fun V hv => gsameRatio_eq m _ _ _ _ us vs V (su.later hv) (sv.later hv) (su2.later hv) (sv2.later hv) lu lv
  clear sx sy su sv sx2 sy2 su2 sv2 lx ly lu lv
  obtain ⟨k0, k1, k2, k3, k4, k5⟩ := cells6 HX.out.1
  obtain ⟨m0, m1, m2, m3, m4, m5⟩ := cells6 HX.out.2.1
  go_enter Tryz.func17, Tryz.ntmps17
  go_wp2_with fail
  refine Calls.mono H1.out ?_
  rintro e w1 ⟨rfl, hb1⟩
  have HW1 := hid (bt HX.out.2.2 hb1)
  have HA1 := hid (HX.out.1.later hb1 HX.out.1.lt)
  have HA2 := hid (HX.out.2.1.later hb1 HX.out.2.1.lt)
  clear hb1 H1 k0 k1 k2 k3 k4 k5 m0 m1 m2 m3 m4 m5
  obtain ⟨k0, k1, k2, k3, k4, k5⟩ := cells6 HA1.out
  obtain ⟨m0, m1, m2, m3, m4, m5⟩ := cells6 HA2.out
  go_wp2_with fail
  refine Calls.mono (H2.out _ HW1.out) ?_
  rintro e w2 ⟨rfl, hb2⟩
  have HW2 := hid (bt HW1.out hb2)
  clear hb2 H2
  go_wp2_with fail
  go_ret
  exact ⟨rfl, HW2.out⟩
end Go.Proofs.YtcfcjnlobpoglaaGreat

