/- My texts on the way to TideNames, one behind the other: contracts of the program and of the document's answers. -/
import Derived.Test.YtmgjkdijnjeljaaGreatDoorJ3
/- Fractions: ratio.Make, ratio.Small. -/
namespace Go.Proofs.YtmgjkdijnjeljaaGreatDoor
open Go.RowKit
set_option linter.unusedVariables false

set_option maxHeartbeats 3200000 in
set_option maxRecDepth 100000 in
theorem rmake_e1 (n : Bool) (a : Option Addr) (ca : Nat) (xs : List Int) (m : Bool) (b : Option Addr) (cb : Nat) (ys : List Int) (w : World) (h : Sl w (.slice a xs.length ca) xs) (g : Sl w (.slice b ys.length cb) ys) (lx : xs.length ≤ 281474976710656) (ly : ys.length ≤ 281474976710656) (hx : wchk n xs ≠ 0) (q : Rat) :
    Calls Tryz.prog 27 #[.agg #[.bool n, .slice a xs.length ca], .agg #[.bool m, .slice b ys.length cb]] w (RToldA w (wchk n xs) q) := by
  have HB : Hid (Below w.heap.size w (((w.alloc (.cells #[.bool n, .slice a xs.length ca] 62)).alloc (.cells #[.bool m, .slice b ys.length cb] 62)).alloc (.cells #[.bool false, .slice none 0 0, .slice none 0 0] 27))) := bt (bt (alloc_later _ _) (alloc_later _ _)) (alloc_later _ _)
  have HZ : Hid (Box (((w.alloc (.cells #[.bool n, .slice a xs.length ca] 62)).alloc (.cells #[.bool m, .slice b ys.length cb] 62)).alloc (.cells #[.bool false, .slice none 0 0, .slice none 0 0] 27)) (w.heap.size + 1 + 1) 27 #[.bool false, .slice none 0 0, .slice none 0 0]) := by
    have e := Box.made ((w.alloc (.cells #[.bool n, .slice a xs.length ca] 62)).alloc (.cells #[.bool m, .slice b ys.length cb] 62)) 27 #[.bool false, .slice none 0 0, .slice none 0 0]
    simp at e
    exact e
  have HN : Hid (Box (((w.alloc (.cells #[.bool n, .slice a xs.length ca] 62)).alloc (.cells #[.bool m, .slice b ys.length cb] 62)).alloc (.cells #[.bool false, .slice none 0 0, .slice none 0 0] 27)) w.heap.size 62 #[.bool n, .slice a xs.length ca]) := Box.later (Box.later (Box.made w _ _) (alloc_later _ _) (by simp)) (alloc_later _ _) (by simp; omega)
  have HM : Hid (Box (((w.alloc (.cells #[.bool n, .slice a xs.length ca] 62)).alloc (.cells #[.bool m, .slice b ys.length cb] 62)).alloc (.cells #[.bool false, .slice none 0 0, .slice none 0 0] 27)) (w.heap.size + 1) 62 #[.bool m, .slice b ys.length cb]) := by
    have e := Box.later (Box.made (w.alloc (.cells #[.bool n, .slice a xs.length ca] 62)) 62 #[.bool m, .slice b ys.length cb]) (alloc_later ((w.alloc (.cells #[.bool n, .slice a xs.length ca] 62)).alloc (.cells #[.bool m, .slice b ys.length cb] 62)) (.cells #[.bool false, .slice none 0 0, .slice none 0 0] 27)) (by simp)
    simp at e
    exact e
  have HS := hid (And.intro (h.later HB.out) (g.later HB.out))
  have HXS : Hid (w.heap.size + 1 + 1 < (((w.alloc (.cells #[.bool n, .slice a xs.length ca] 62)).alloc (.cells #[.bool m, .slice b ys.length cb] 62)).alloc (.cells #[.bool false, .slice none 0 0, .slice none 0 0] 27)).heap.size) := HZ.out.lt
  have HC1 := hid (wcheck_any n _ xs _ HS.out.1 lx)
  obtain ⟨e1, he1⟩ : ∃ e1, wchk n xs = e1 := ⟨_, rfl⟩
  rw [he1] at HC1 hx ⊢
  have hx' : (e1 == 0) = false := beq_eq_false_iff_ne.2 hx
  have HE := hid hx
  clear he1 hx
  clear h g
  go_enter Tryz.func27, Tryz.ntmps27
  go_wp2_with fail
  refine Calls.mono HC1.out ?_
  generalize (((w.alloc (.cells #[.bool n, .slice a xs.length ca] 62)).alloc (.cells #[.bool m, .slice b ys.length cb] 62)).alloc (.cells #[.bool false, .slice none 0 0, .slice none 0 0] 27)) = X at *
  rintro e w1 ⟨rfl, hb1⟩
  have HB1 := hid hb1
  clear hb1 HC1
  obtain ⟨y0, y1, y2, f0, f1, f2⟩ := res_box3 HZ.out HB1.out
  have HBN := hid (below_put3 (bt HB.out HB1.out) (w.heap.size + 1 + 1) (by omega) (.bool false) (.slice none 0 0) (.slice none 0 0))
  clear HN HM HZ HS
  go_wp2_with fail
  refine bodyPost_ret (v := .tuple #[.agg #[.bool false, .slice none 0 0, .slice none 0 0], .int .i64 e1]) (by simp [results, Tryz.results27, go_sem, y0, y1, y2]) rfl ?_
  exact ⟨false, _, [], _, [], _, rfl, World.ownsRow_nil _ _ _ _, World.ownsRow_nil _ _ _ _, RTells.err HE.out, HBN.out, ⟨w.heap.size, Nat.le_refl _, HBN.out.size, fun g hg => by simp [Value.ownBlock] at hg, fun g hg => by simp [Value.ownBlock] at hg⟩⟩

set_option maxHeartbeats 3200000 in
set_option maxRecDepth 100000 in
theorem rmake_e2 (n : Bool) (a : Option Addr) (ca : Nat) (xs : List Int) (m : Bool) (b : Option Addr) (cb : Nat) (ys : List Int) (w : World) (h : Sl w (.slice a xs.length ca) xs) (g : Sl w (.slice b ys.length cb) ys) (lx : xs.length ≤ 281474976710656) (ly : ys.length ≤ 281474976710656) (hx : wchk n xs = 0) (hy : wchk m ys ≠ 0) (q : Rat) :
    Calls Tryz.prog 27 #[.agg #[.bool n, .slice a xs.length ca], .agg #[.bool m, .slice b ys.length cb]] w (RToldA w (wchk m ys) q) := by
  have HB : Hid (Below w.heap.size w (((w.alloc (.cells #[.bool n, .slice a xs.length ca] 62)).alloc (.cells #[.bool m, .slice b ys.length cb] 62)).alloc (.cells #[.bool false, .slice none 0 0, .slice none 0 0] 27))) := bt (bt (alloc_later _ _) (alloc_later _ _)) (alloc_later _ _)
  have HZ : Hid (Box (((w.alloc (.cells #[.bool n, .slice a xs.length ca] 62)).alloc (.cells #[.bool m, .slice b ys.length cb] 62)).alloc (.cells #[.bool false, .slice none 0 0, .slice none 0 0] 27)) (w.heap.size + 1 + 1) 27 #[.bool false, .slice none 0 0, .slice none 0 0]) := by
    have e := Box.made ((w.alloc (.cells #[.bool n, .slice a xs.length ca] 62)).alloc (.cells #[.bool m, .slice b ys.length cb] 62)) 27 #[.bool false, .slice none 0 0, .slice none 0 0]
    simp at e
    exact e
  have HN : Hid (Box (((w.alloc (.cells #[.bool n, .slice a xs.length ca] 62)).alloc (.cells #[.bool m, .slice b ys.length cb] 62)).alloc (.cells #[.bool false, .slice none 0 0, .slice none 0 0] 27)) w.heap.size 62 #[.bool n, .slice a xs.length ca]) := Box.later (Box.later (Box.made w _ _) (alloc_later _ _) (by simp)) (alloc_later _ _) (by simp; omega)
  have HM : Hid (Box (((w.alloc (.cells #[.bool n, .slice a xs.length ca] 62)).alloc (.cells #[.bool m, .slice b ys.length cb] 62)).alloc (.cells #[.bool false, .slice none 0 0, .slice none 0 0] 27)) (w.heap.size + 1) 62 #[.bool m, .slice b ys.length cb]) := by
    have e := Box.later (Box.made (w.alloc (.cells #[.bool n, .slice a xs.length ca] 62)) 62 #[.bool m, .slice b ys.length cb]) (alloc_later ((w.alloc (.cells #[.bool n, .slice a xs.length ca] 62)).alloc (.cells #[.bool m, .slice b ys.length cb] 62)) (.cells #[.bool false, .slice none 0 0, .slice none 0 0] 27)) (by simp)
    simp at e
    exact e
  have HS := hid (And.intro (h.later HB.out) (g.later HB.out))
  have HXS : Hid (w.heap.size + 1 + 1 < (((w.alloc (.cells #[.bool n, .slice a xs.length ca] 62)).alloc (.cells #[.bool m, .slice b ys.length cb] 62)).alloc (.cells #[.bool false, .slice none 0 0, .slice none 0 0] 27)).heap.size) := HZ.out.lt
  have HC1 := hid (wcheck_any n _ xs _ HS.out.1 lx)
  rw [hx] at HC1
  obtain ⟨e1, he1⟩ : ∃ e1, wchk m ys = e1 := ⟨_, rfl⟩
  have HC2 := hid (fun ww (hb : Below _ (((w.alloc (.cells #[.bool n, .slice a xs.length ca] 62)).alloc (.cells #[.bool m, .slice b ys.length cb] 62)).alloc (.cells #[.bool false, .slice none 0 0, .slice none 0 0] 27)) ww) => wcheck_any m _ ys ww (HS.out.2.later hb) ly)
  rw [he1] at HC2 hy ⊢
  have hy' : (e1 == 0) = false := beq_eq_false_iff_ne.2 hy
  have HE := hid hy
  clear he1 hy hx
  clear h g
  go_enter Tryz.func27, Tryz.ntmps27
  go_wp2_with fail
  refine Calls.mono HC1.out ?_
  generalize (((w.alloc (.cells #[.bool n, .slice a xs.length ca] 62)).alloc (.cells #[.bool m, .slice b ys.length cb] 62)).alloc (.cells #[.bool false, .slice none 0 0, .slice none 0 0] 27)) = X at *
  rintro e w1 ⟨rfl, hb1⟩
  have HB1 := hid hb1
  clear hb1 HC1
  have HC := hid (HC2.out w1 HB1.out)
  obtain ⟨q0, q1, _, _⟩ := (HM.out.later HB1.out HM.out.lt).c2
  clear HC2
  go_wp2_with fail
  refine Calls.mono HC.out ?_
  rintro e w2 ⟨rfl, hb2⟩
  have HB2 := hid (bt HB1.out hb2)
  clear hb2 HC q0 q1
  obtain ⟨y0, y1, y2, f0, f1, f2⟩ := res_box3 HZ.out HB2.out
  have HBN := hid (below_put3 (bt HB.out HB2.out) (w.heap.size + 1 + 1) (by omega) (.bool false) (.slice none 0 0) (.slice none 0 0))
  clear HN HM HZ HS
  go_wp2_with fail
  refine bodyPost_ret (v := .tuple #[.agg #[.bool false, .slice none 0 0, .slice none 0 0], .int .i64 e1]) (by simp [results, Tryz.results27, go_sem, y0, y1, y2]) rfl ?_
  exact ⟨false, _, [], _, [], _, rfl, World.ownsRow_nil _ _ _ _, World.ownsRow_nil _ _ _ _, RTells.err HE.out, HBN.out, ⟨w.heap.size, Nat.le_refl _, HBN.out.size, fun g hg => by simp [Value.ownBlock] at hg, fun g hg => by simp [Value.ownBlock] at hg⟩⟩

set_option maxHeartbeats 3200000 in
set_option maxRecDepth 100000 in
theorem rmake_z (n : Bool) (a : Option Addr) (ca : Nat) (xs : List Int) (m : Bool) (b : Option Addr) (cb : Nat) (ys : List Int) (w : World) (h : Sl w (.slice a xs.length ca) xs) (g : Sl w (.slice b ys.length cb) ys) (lx : xs.length ≤ 281474976710656) (ly : ys.length ≤ 281474976710656) (hx : wchk n xs = 0) (hy : wchk m ys = 0) (h0 : ys.length = 0) (q : Rat) :
    Calls Tryz.prog 27 #[.agg #[.bool n, .slice a xs.length ca], .agg #[.bool m, .slice b ys.length cb]] w (RToldA w 7 q) := by
  have HB : Hid (Below w.heap.size w (((w.alloc (.cells #[.bool n, .slice a xs.length ca] 62)).alloc (.cells #[.bool m, .slice b ys.length cb] 62)).alloc (.cells #[.bool false, .slice none 0 0, .slice none 0 0] 27))) := bt (bt (alloc_later _ _) (alloc_later _ _)) (alloc_later _ _)
  have HZ : Hid (Box (((w.alloc (.cells #[.bool n, .slice a xs.length ca] 62)).alloc (.cells #[.bool m, .slice b ys.length cb] 62)).alloc (.cells #[.bool false, .slice none 0 0, .slice none 0 0] 27)) (w.heap.size + 1 + 1) 27 #[.bool false, .slice none 0 0, .slice none 0 0]) := by
    have e := Box.made ((w.alloc (.cells #[.bool n, .slice a xs.length ca] 62)).alloc (.cells #[.bool m, .slice b ys.length cb] 62)) 27 #[.bool false, .slice none 0 0, .slice none 0 0]
    simp at e
    exact e
  have HN : Hid (Box (((w.alloc (.cells #[.bool n, .slice a xs.length ca] 62)).alloc (.cells #[.bool m, .slice b ys.length cb] 62)).alloc (.cells #[.bool false, .slice none 0 0, .slice none 0 0] 27)) w.heap.size 62 #[.bool n, .slice a xs.length ca]) := Box.later (Box.later (Box.made w _ _) (alloc_later _ _) (by simp)) (alloc_later _ _) (by simp; omega)
  have HM : Hid (Box (((w.alloc (.cells #[.bool n, .slice a xs.length ca] 62)).alloc (.cells #[.bool m, .slice b ys.length cb] 62)).alloc (.cells #[.bool false, .slice none 0 0, .slice none 0 0] 27)) (w.heap.size + 1) 62 #[.bool m, .slice b ys.length cb]) := by
    have e := Box.later (Box.made (w.alloc (.cells #[.bool n, .slice a xs.length ca] 62)) 62 #[.bool m, .slice b ys.length cb]) (alloc_later ((w.alloc (.cells #[.bool n, .slice a xs.length ca] 62)).alloc (.cells #[.bool m, .slice b ys.length cb] 62)) (.cells #[.bool false, .slice none 0 0, .slice none 0 0] 27)) (by simp)
    simp at e
    exact e
  have HS := hid (And.intro (h.later HB.out) (g.later HB.out))
  have HXS : Hid (w.heap.size + 1 + 1 < (((w.alloc (.cells #[.bool n, .slice a xs.length ca] 62)).alloc (.cells #[.bool m, .slice b ys.length cb] 62)).alloc (.cells #[.bool false, .slice none 0 0, .slice none 0 0] 27)).heap.size) := HZ.out.lt
  have HC1 := hid (wcheck_any n _ xs _ HS.out.1 lx)
  rw [hx] at HC1
  have HC2 := hid (fun ww (hb : Below _ (((w.alloc (.cells #[.bool n, .slice a xs.length ca] 62)).alloc (.cells #[.bool m, .slice b ys.length cb] 62)).alloc (.cells #[.bool false, .slice none 0 0, .slice none 0 0] 27)) ww) => wcheck_any m _ ys ww (HS.out.2.later hb) ly)
  rw [hy] at HC2
  have h0' : ((ys.length : Int) == 0) = true := by rw [h0]; rfl
  have HE : Hid ((7 : Int) ≠ 0) := by show _ ≠ _; omega
  clear hx hy h0
  clear h g
  go_enter Tryz.func27, Tryz.ntmps27
  go_wp2_with fail
  refine Calls.mono HC1.out ?_
  generalize (((w.alloc (.cells #[.bool n, .slice a xs.length ca] 62)).alloc (.cells #[.bool m, .slice b ys.length cb] 62)).alloc (.cells #[.bool false, .slice none 0 0, .slice none 0 0] 27)) = X at *
  rintro e w1 ⟨rfl, hb1⟩
  have HB1 := hid hb1
  clear hb1 HC1
  have HC := hid (HC2.out w1 HB1.out)
  obtain ⟨q0, q1, _, _⟩ := (HM.out.later HB1.out HM.out.lt).c2
  clear HC2
  go_wp2_with fail
  refine Calls.mono HC.out ?_
  rintro e w2 ⟨rfl, hb2⟩
  have HB2 := hid (bt HB1.out hb2)
  clear hb2 HC q0 q1
  obtain ⟨q0, q1, _, _⟩ := (HM.out.later HB2.out HM.out.lt).c2
  obtain ⟨y0, y1, y2, f0, f1, f2⟩ := res_box3 HZ.out HB2.out
  have HBN := hid (below_put3 (bt HB.out HB2.out) (w.heap.size + 1 + 1) (by omega) (.bool false) (.slice none 0 0) (.slice none 0 0))
  clear HN HM HZ HS
  go_wp2_with fail
  refine bodyPost_ret (v := .tuple #[.agg #[.bool false, .slice none 0 0, .slice none 0 0], .int .i64 7]) (by simp [results, Tryz.results27, go_sem, y0, y1, y2]) rfl ?_
  exact ⟨false, _, [], _, [], _, rfl, World.ownsRow_nil _ _ _ _, World.ownsRow_nil _ _ _ _, RTells.err HE.out, HBN.out, ⟨w.heap.size, Nat.le_refl _, HBN.out.size, fun g hg => by simp [Value.ownBlock] at hg, fun g hg => by simp [Value.ownBlock] at hg⟩⟩

set_option maxHeartbeats 6400000 in
set_option maxRecDepth 100000 in
theorem rmake_ok (n : Bool) (a : Option Addr) (ca : Nat) (xs : List Int) (m : Bool) (b : Option Addr) (cb : Nat) (ys : List Int) (w : World) (h : Sl w (.slice a xs.length ca) xs) (g : Sl w (.slice b ys.length cb) ys) (lx : xs.length ≤ 281474976710656) (ly : ys.length ≤ 281474976710656) (hx : wchk n xs = 0) (hy : wchk m ys = 0) (h0 : 0 < ys.length) :
    Calls Tryz.prog 27 #[.agg #[.bool n, .slice a xs.length ca], .agg #[.bool m, .slice b ys.length cb]] w (RToldA w 0 (Rat.divInt (wval n xs) (wval m ys))) := by
  obtain ⟨kx, tx, _⟩ := wchk_ok hx
  obtain ⟨ky, ty, _⟩ := wchk_ok hy
  have wx := h.wd
  have wy := g.wd
  have HB : Hid (Below w.heap.size w (((w.alloc (.cells #[.bool n, .slice a xs.length ca] 62)).alloc (.cells #[.bool m, .slice b ys.length cb] 62)).alloc (.cells #[.bool false, .slice none 0 0, .slice none 0 0] 27))) := bt (bt (alloc_later _ _) (alloc_later _ _)) (alloc_later _ _)
  have HZ : Hid (Box (((w.alloc (.cells #[.bool n, .slice a xs.length ca] 62)).alloc (.cells #[.bool m, .slice b ys.length cb] 62)).alloc (.cells #[.bool false, .slice none 0 0, .slice none 0 0] 27)) (w.heap.size + 1 + 1) 27 #[.bool false, .slice none 0 0, .slice none 0 0]) := by
    have e := Box.made ((w.alloc (.cells #[.bool n, .slice a xs.length ca] 62)).alloc (.cells #[.bool m, .slice b ys.length cb] 62)) 27 #[.bool false, .slice none 0 0, .slice none 0 0]
    simp at e
    exact e
  have HN : Hid (Box (((w.alloc (.cells #[.bool n, .slice a xs.length ca] 62)).alloc (.cells #[.bool m, .slice b ys.length cb] 62)).alloc (.cells #[.bool false, .slice none 0 0, .slice none 0 0] 27)) w.heap.size 62 #[.bool n, .slice a xs.length ca]) := Box.later (Box.later (Box.made w _ _) (alloc_later _ _) (by simp)) (alloc_later _ _) (by simp; omega)
  have HM : Hid (Box (((w.alloc (.cells #[.bool n, .slice a xs.length ca] 62)).alloc (.cells #[.bool m, .slice b ys.length cb] 62)).alloc (.cells #[.bool false, .slice none 0 0, .slice none 0 0] 27)) (w.heap.size + 1) 62 #[.bool m, .slice b ys.length cb]) := by
    have e := Box.later (Box.made (w.alloc (.cells #[.bool n, .slice a xs.length ca] 62)) 62 #[.bool m, .slice b ys.length cb]) (alloc_later ((w.alloc (.cells #[.bool n, .slice a xs.length ca] 62)).alloc (.cells #[.bool m, .slice b ys.length cb] 62)) (.cells #[.bool false, .slice none 0 0, .slice none 0 0] 27)) (by simp)
    simp at e
    exact e
  have HS := hid (And.intro (h.later HB.out) (g.later HB.out))
  have HXS : Hid (w.heap.size + 1 + 1 < (((w.alloc (.cells #[.bool n, .slice a xs.length ca] 62)).alloc (.cells #[.bool m, .slice b ys.length cb] 62)).alloc (.cells #[.bool false, .slice none 0 0, .slice none 0 0] 27)).heap.size) := HZ.out.lt
  have HC1 := hid (wcheck_any n _ xs _ HS.out.1 lx)
  rw [hx] at HC1
  have HC2 := hid (fun ww (hb : Below _ (((w.alloc (.cells #[.bool n, .slice a xs.length ca] 62)).alloc (.cells #[.bool m, .slice b ys.length cb] 62)).alloc (.cells #[.bool false, .slice none 0 0, .slice none 0 0] 27)) ww) => wcheck_any m _ ys ww (HS.out.2.later hb) ly)
  rw [hy] at HC2
  have h0' : ((ys.length : Int) == 0) = false := beq_eq_false_iff_ne.2 (by omega)
  have HPY : Hid (0 < val ys) := by have := val_pos' wy ty h0; show _ < _; omega
  have HG : Hid (0 < gcdI (val xs) (val ys) ∧ gcdI (val xs) (val ys) ≤ val ys ∧ val ys < 4294967296 ^ 2048) := ⟨gcd_pos_right HPY.out, gcd_le_right HPY.out, below2048 wy ky⟩
  have HMP := hid (make_parts (n := n) (m := m) (val_nonneg wx) HPY.out)
  have HTT := hid (And.intro tx ty)
  obtain ⟨s, hs⟩ : ∃ s, (!(n == m)) = s := ⟨_, rfl⟩
  have HSG := hid (show (n != m) = s from hs)
  clear h g hx hy h0 tx ty
  go_enter Tryz.func27, Tryz.ntmps27
  go_wp2_with fail
  refine Calls.mono HC1.out ?_
  generalize (((w.alloc (.cells #[.bool n, .slice a xs.length ca] 62)).alloc (.cells #[.bool m, .slice b ys.length cb] 62)).alloc (.cells #[.bool false, .slice none 0 0, .slice none 0 0] 27)) = X at *
  rintro e w1 ⟨rfl, hb1⟩
  have HB1 := hid hb1
  clear hb1 HC1
  have HC := hid (HC2.out w1 HB1.out)
  obtain ⟨q0, q1, _, _⟩ := (HM.out.later HB1.out HM.out.lt).c2
  clear HC2
  go_wp2_with fail
  refine Calls.mono HC.out ?_
  rintro e w2 ⟨rfl, hb2⟩
  have HB2 := hid (bt HB1.out hb2)
  clear hb2 HC q0 q1
  have HK : Hid (∀ V, Below X.heap.size X V → V.cell? ⟨w.heap.size, 0, none⟩ = some (.bool n) ∧ V.cell? ⟨w.heap.size, 1, none⟩ = some (.slice a xs.length ca) ∧ V.cell? ⟨w.heap.size + 1, 0, none⟩ = some (.bool m) ∧ V.cell? ⟨w.heap.size + 1, 1, none⟩ = some (.slice b ys.length cb)) := fun V hb => by
    obtain ⟨p0, p1, _, _⟩ := (HN.out.later hb HN.out.lt).c2
    obtain ⟨q0, q1, _, _⟩ := (HM.out.later hb HM.out.lt).c2
    exact ⟨p0, p1, q0, q1⟩
  have HCM := hid (told1_at _ HK.out w2 HB2.out (rcommon_any _ _ xs ys w2 (HS.out.1.later HB2.out) (HS.out.2.later HB2.out) (by omega) (by omega) HTT.out.1 HTT.out.2))
  obtain ⟨p0, p1, q0, q1⟩ := HK.out w2 HB2.out
  go_wp2_with fail
  refine Calls.mono HCM.out ?_
  rintro e w3 ⟨a3, z3, c3, rfl, HE3, _, hb3, HS3⟩
  have hb3d := hb3.drew
  have HO3 := hid (HE3.out.later (Below.drew (Below.refl _ w3)))
  clear HCM HE3 HS3 p0 p1 q0 q1
  have hs0 := HK.out _ hb3d
  have HQX := hid (fun ww (hv' : Below X.heap.size X ww) (h : One X ww (.slice a3 z3.length c3) z3 (gcdI (val xs) (val ys))) => quot_in _ HK.out hv' (HS.out.1.later hv') (by omega) HTT.out.1 h HG.out.1 (by have := HG.out; omega))
  have HQY := hid (fun ww (hv' : Below X.heap.size X ww) (h : One X ww (.slice a3 z3.length c3) z3 (gcdI (val xs) (val ys))) => quot_in _ HK.out hv' (HS.out.2.later hv') (by omega) HTT.out.2 h HG.out.1 (by have := HG.out; omega))
  have HTL := hid (fun (ww : World) (hb : Below X.heap.size X ww) (a4 : Option Addr) (z4 : List Int) (c4 : Nat) (a5 : Option Addr) (z5 : List Int) (c5 : Nat) (g1 : One X ww (.slice a4 z4.length c4) z4 (val xs / gcdI (val xs) (val ys))) (g2 : One X ww (.slice a5 z5.length c5) z5 (val ys / gcdI (val xs) (val ys))) (hc : Cut X (.slice a4 z4.length c4) (.slice a5 z5.length c5) ww) => rtold_cut (n := s) (q := Rat.divInt (wval n xs) (wval m ys)) _ HK.out hb g1 g2 hc HMP.out.1 HMP.out.2.1 (by rw [← HSG.out]; exact HMP.out.2.2))
  have hq0 : w.heap.size + 1 + 1 ≠ w.heap.size := by omega
  have hq1 : w.heap.size + 1 + 1 ≠ w.heap.size + 1 := by omega
  clear HTT HG HPY
  go_wp2_with fail
  go_region_held3 (fun V : World => V.cell? ⟨w.heap.size, 0, none⟩ = some (.bool n) ∧ V.cell? ⟨w.heap.size, 1, none⟩ = some (.slice a xs.length ca) ∧ V.cell? ⟨w.heap.size + 1, 0, none⟩ = some (.bool m) ∧ V.cell? ⟨w.heap.size + 1, 1, none⟩ = some (.slice b ys.length cb)) (first | exact hs9 | exact hs5 | exact hs4 | exact hs0 | (simp [hs9, World.cell?_setCell_far, hq0]))
    (first
      | (go_at_call 46; with_reducible refine Calls.mono (HTL.out _ hb5 _ _ _ _ _ _ (HE4.out.1.later HS5.out) HE5.out.1 (cut_two hb3d.size HS4.out.size HS5.out.size HE4.out.2 HE5.out.2)) ?_; rintro e w9 ⟨k9, a8, z8, c8, a9, z9, c9, code, rfl, HE9, hs9, hb9⟩; obtain ⟨y0, y1, y2, f0, f1, f2⟩ := res_box3 HZ.out hb9)
      | (go_at_call 47; with_reducible refine Calls.mono (HQY.out _ hb4 (HO3.out.later HS4.out)) ?_; rintro e w5 ⟨a5, z5, c5, rfl, HE5, hs5, hb5, HS5⟩)
      | (go_at_call 47; with_reducible refine Calls.mono (HQX.out _ hb3d HO3.out) ?_; rintro e w4 ⟨a4, z4, c4, rfl, HE4, hs4, hb4, HS4⟩))
  all_goals
    have HBW := hid (bt HB.out hb9)
    have HR := hid HE9.out
    clear HK HQX HQY HTL HE4 HE5 HE9 HS4 HS5 HO3 hs0 hs4 hs5 hs9 hb3 hb3d hb4 hb5 hb9 HMP HSG
    go_wp2_with fail
    refine bodyPost_ret (v := .tuple #[.agg #[.bool k9, .slice a8 z8.length c8, .slice a9 z9.length c9], .int .i64 code]) (by simp [results, Tryz.results27, go_sem, y0, y1, y2]) rfl ?_
    exact RToldA.put HR.out (w.heap.size + 1 + 1) HXS.out (by omega) HBW.out _ _ _

theorem rmake_any (n : Bool) (a : Option Addr) (ca : Nat) (xs : List Int) (m : Bool) (b : Option Addr) (cb : Nat) (ys : List Int) (w : World) (h : Sl w (.slice a xs.length ca) xs) (g : Sl w (.slice b ys.length cb) ys) (lx : xs.length ≤ 281474976710656) (ly : ys.length ≤ 281474976710656) :
    Calls Tryz.prog 27 #[.agg #[.bool n, .slice a xs.length ca], .agg #[.bool m, .slice b ys.length cb]] w (RToldA w (mkErr n xs m ys) (Rat.divInt (wval n xs) (wval m ys))) := by
  unfold mkErr
  by_cases hb : wboth n xs m ys = 0
  · obtain ⟨hx, hy⟩ := wboth_ok hb
    rw [if_pos hb]
    by_cases h0 : ys.length = 0
    · rw [if_pos h0]
      exact rmake_z n a ca xs m b cb ys w h g lx ly hx hy h0 _
    · rw [if_neg h0]
      exact rmake_ok n a ca xs m b cb ys w h g lx ly hx hy (by omega)
  · rw [if_neg hb]
    unfold wboth at hb ⊢
    by_cases hx : wchk n xs = 0
    · rw [if_pos hx] at hb ⊢
      exact rmake_e2 n a ca xs m b cb ys w h g lx ly hx hb _
    · rw [if_neg hx]
      exact rmake_e1 n a ca xs m b cb ys w h g lx ly hx _
end Go.Proofs.YtmgjkdijnjeljaaGreatDoor

/- Fractions: ratio.Small. -/
namespace Go.Proofs.YtmgjkdijnjeljaaGreatDoor
open Go.RowKit
set_option linter.unusedVariables false

theorem small_err {n m : Bool} {zs us : List Int} {y : Int} (l1 : zs.length ≤ 2) (t1 : Trimmed zs) (s1 : n = false ∨ 0 < zs.length) (w2 : Wd us) (l2 : us.length ≤ 2) (t2 : Trimmed us) (s2 : m = false ∨ 0 < us.length) (v2 : wval m us = y) : mkErr n zs m us = if y = 0 then 7 else 0 := by
  unfold mkErr
  rw [wboth_good (wchk_good (by omega) t1 s1) (wchk_good (by omega) t2 s2), if_pos rfl]
  by_cases c : us.length = 0
  · have e0 : val us = 0 := trimmed_zero' c
    have : y = 0 := by rw [← v2]; cases m <;> simp [wval, e0]
    rw [if_pos c, if_pos this]
  · have e0 := val_pos' w2 t2 (by omega)
    have : ¬ y = 0 := by rw [← v2]; cases m <;> simp [wval] <;> omega
    rw [if_neg c, if_neg this]

set_option maxHeartbeats 1600000 in
set_option maxRecDepth 100000 in
theorem rsmall_any (x y : Int) (w : World) (x0 : -9223372036854775808 ≤ x) (x1 : x ≤ 9223372036854775807) (y0 : -9223372036854775808 ≤ y) (y1 : y ≤ 9223372036854775807) :
    Calls Tryz.prog 12 #[.int .i64 x, .int .i64 y] w (RToldA w (if y = 0 then 7 else 0) (Rat.divInt x y)) := by
  have HB : Hid (Below w.heap.size w (w.alloc (.cells #[.bool false, .slice none 0 0, .slice none 0 0] 27))) := alloc_later _ _
  have HZ : Hid (Box (w.alloc (.cells #[.bool false, .slice none 0 0, .slice none 0 0] 27)) w.heap.size 27 #[.bool false, .slice none 0 0, .slice none 0 0]) := Box.made w _ _
  have HO1 := hid (wof_any x (w.alloc (.cells #[.bool false, .slice none 0 0, .slice none 0 0] 27)) x0 x1)
  obtain ⟨E, hE⟩ : ∃ E : Int, (if y = 0 then (7 : Int) else 0) = E := ⟨_, rfl⟩
  rw [hE]
  have HE := hid hE
  clear hE
  go_enter Tryz.func12, Tryz.ntmps12
  go_wp2_with fail
  refine Calls.mono HO1.out ?_
  generalize (w.alloc (.cells #[.bool false, .slice none 0 0, .slice none 0 0] 27)) = X at *
  rintro e w1 ⟨n1, v1, z1, rfl, o1, wd1, t1, l1, s1, hv1, hb1⟩
  obtain ⟨a1, c1, hs1⟩ := own_slice' o1
  subst hs1
  have HO2 := hid (wof_any y w1 y0 y1)
  have HS1 := hid (Sl.own o1 wd1)
  have HV1 := hid (And.intro t1 (And.intro s1 hv1))
  have HB1 := hid hb1
  clear o1 wd1 t1 s1 hv1 hb1 HO1
  go_wp2_with fail
  refine Calls.mono HO2.out ?_
  rintro e w2 ⟨n2, v2, z2, rfl, o2, wd2, t2, l2, s2, hv2, hb2⟩
  obtain ⟨a2, c2, hs2⟩ := own_slice' o2
  subst hs2
  have HM := hid (rmake_any n1 a1 c1 z1 n2 a2 c2 z2 w2 (HS1.out.later hb2) (Sl.own o2 wd2) (by omega) (by omega))
  rw [small_err l1 HV1.out.1 HV1.out.2.1 wd2 l2 t2 s2 hv2, HE.out, HV1.out.2.2, hv2] at HM
  have HB2 := hid (bt HB1.out hb2)
  clear o2 wd2 t2 s2 hv2 hb2 HO2 HS1 HV1
  go_wp2_with fail
  refine Calls.mono HM.out ?_
  rintro e w3 ⟨k3, v3, z3, u3, r3, code, rfl, o3, o4, t3, hb3, hc3⟩
  obtain ⟨a3, c3, hs3⟩ := own_slice' o3
  subst hs3
  obtain ⟨a4, c4, hs4⟩ := own_slice' o4
  subst hs4
  have HR := hid (And.intro o3 (And.intro o4 (And.intro t3 hc3)))
  obtain ⟨y0', y1', y2', f0, f1, f2⟩ := res_box3 HZ.out (bt HB2.out hb3)
  have HBW := hid (bt HB.out (bt HB2.out hb3))
  have HLT : Hid (w.heap.size < w2.heap.size) := Nat.lt_of_lt_of_le HZ.out.lt HB2.out.size
  clear o3 o4 t3 hb3 hc3 HM
  go_wp2_with fail
  refine bodyPost_ret (v := .tuple #[.agg #[.bool k3, .slice a3 z3.length c3, .slice a4 r3.length c4], .int .i64 code]) (by simp [results, Tryz.results12, go_sem, y0', y1', y2']) rfl ?_
  exact RToldA.put HR.out w.heap.size HLT.out (Nat.le_refl _) HBW.out _ _ _
end Go.Proofs.YtmgjkdijnjeljaaGreatDoor

/- The laws of fractions: small, is, and awake (the document's examples), whatever the world, where the table of powers of ten stands. -/
namespace Go.Proofs.YtmgjkdijnjeljaaGreatDoor
open Go.RowKit Go.Lib
set_option linter.unusedVariables false

/-- A fraction told alone. -/
def RVal (w : World) (e : Int) (q : Rat) (x : Ending) (w' : World) : Prop :=
  ∃ n v xs u ys code, x = .returned (.agg #[.bool n, v, u]) ∧ w'.ownsRow w.heap.size 85 1 v xs.length (xs.map (Value.int .u32)) ∧ w'.ownsRow w.heap.size 85 1 u ys.length (ys.map (Value.int .u32)) ∧ RTells e q n xs ys code ∧ Below w.heap.size w w' ∧ Cut w v u w'
theorem RVal.put {w U w3 : World} {e : Int} {q : Rat} {k : Bool} {v u : Value} {zs ds : List Int} {code : Int} (h : w3.ownsRow U.heap.size 85 1 v zs.length (zs.map (Value.int .u32)) ∧ w3.ownsRow U.heap.size 85 1 u ds.length (ds.map (Value.int .u32)) ∧ RTells e q k zs ds code ∧ Cut U v u w3) (b : Nat) (hb : b < U.heap.size) (hw : w.heap.size ≤ b) (hbw : Below w.heap.size w w3) (x y z : Value) :
    RVal w e q (.returned (.agg #[.bool k, v, u])) (((w3.setCell ⟨b, 0, none⟩ x).setCell ⟨b, 1, none⟩ y).setCell ⟨b, 2, none⟩ z) :=
  ⟨k, v, zs, u, ds, code, rfl, owns_base (own_put3 h.1 b (fun g hg => by have := (World.ownsRow.lt h.1 g hg).1; omega) _ _ _) (by omega), owns_base (own_put3 h.2.1 b (fun g hg => by have := (World.ownsRow.lt h.2.1 g hg).1; omega) _ _ _) (by omega), h.2.2.1, below_put3 hbw b hw _ _ _, h.2.2.2.up (by omega) (by simp)⟩
/-- What a call tells is the fraction that is known. -/
theorem RTells.lit {e : Int} {q : Rat} {n m : Bool} {xs ys us vs : List Int} {c : Int} (h : RTells e q n xs ys c) (he : e = 0) (wu : Wd us) (wv : Wd vs) (hk : rchk m us vs = 0) (hq : rq m us vs = q) : n = m ∧ xs = us ∧ ys = vs ∧ c = 0 := by
  subst he
  have g := RTells.self wu wv hk
  rw [hq] at g
  exact h.same g
theorem lit_wd {x : Int} (h0 : 0 ≤ x) (h1 : x < 4294967296) : Wd [x] := Wd.one ⟨h0, by omega⟩
theorem trim_one {x : Int} (h : x ≠ 0) : Trimmed [x] := by
  unfold Trimmed
  show szTo [x] 1 = 1
  simp [szTo, h]
theorem chk_lit (n : Bool) (x y : Int) (hx : 0 < x ∧ x < 4294967296) (hy : 0 < y ∧ y < 4294967296) (hg : gcdI x y = 1) : rchk n [x] [y] = 0 := by
  have e1 : val [x] = x := by simp [val, valTo]
  have e2 : val [y] = y := by simp [val, valTo]
  exact rchk_good (by simp) (by simp) (trim_one (by omega)) (trim_one (by omega)) (by simp) (.inr (by simp)) (by rw [e1, e2]; exact hg)
theorem wdn (x : Int) (h : 0 ≤ x ∧ x ≤ 4294967295) : Wd [x] := Wd.one h
theorem k32 : rchk true [3] [2] = 0 := chk_lit _ _ _ (by decide) (by decide) (by decide)
theorem k12 : rchk false [1] [2] = 0 := chk_lit _ _ _ (by decide) (by decide) (by decide)
theorem k13 : rchk false [1] [3] = 0 := chk_lit _ _ _ (by decide) (by decide) (by decide)
theorem k14 : rchk true [1] [4] = 0 := chk_lit _ _ _ (by decide) (by decide) (by decide)
theorem k56 : rchk false [5] [6] = 0 := chk_lit _ _ _ (by decide) (by decide) (by decide)
theorem k21 : rchk true [2] [1] = 0 := chk_lit _ _ _ (by decide) (by decide) (by decide)
theorem rq_lit (n : Bool) (x y : Int) : rq n [x] [y] = Rat.divInt (sg n x) y := by
  have e1 : val [x] = x := by simp [val, valTo]
  have e2 : val [y] = y := by simp [val, valTo]
  show Rat.divInt (sg n (val [x])) (val [y]) = _
  rw [e1, e2]
theorem q32 : rq true [3] [2] = Rat.divInt 6 (-4) := by rw [rq_lit]; decide +kernel
theorem q12 : rq false [1] [2] = Rat.divInt 1 2 := by rw [rq_lit]; decide +kernel
theorem q13 : rq false [1] [3] = Rat.divInt 1 3 := by rw [rq_lit]; decide +kernel
theorem q14 : rq true [1] [4] = Rat.divInt (-1) 4 := by rw [rq_lit]; decide +kernel
theorem q56 : rq false [5] [6] = rq false [1] [2] + rq false [1] [3] := by rw [rq_lit, rq_lit, rq_lit]; decide +kernel
theorem q21 : rq true [2] [1] = rq false [1] [2] / rq true [1] [4] := by rw [rq_lit, rq_lit, rq_lit]; decide +kernel
theorem t32 : ([45, 51, 47, 50] : List UInt8) = rtext true [3] [2] := by
  rw [rtext_eq, show val [3] = 3 by simp [val, valTo], show val [2] = 2 by simp [val, valTo], show (3 : Int).toNat = 3 from rfl, show (2 : Int).toNat = 2 from rfl, decDigits_one (by decide), decDigits_one (by decide)]
  decide
theorem t56 : ([53, 47, 54] : List UInt8) = rtext false [5] [6] := by
  rw [rtext_eq, show val [5] = 5 by simp [val, valTo], show val [6] = 6 by simp [val, valTo], show (5 : Int).toNat = 5 from rfl, show (6 : Int).toNat = 6 from rfl, decDigits_one (by decide), decDigits_one (by decide)]
  decide
theorem t21 : ([45, 50] : List UInt8) = rtext true [2] [1] := by
  rw [rtext_eq, show val [2] = 2 by simp [val, valTo], show (2 : Int).toNat = 2 from rfl, decDigits_one (by decide)]
  decide
theorem good32 : prErr ⟨#[45, 51, 47, 50]⟩ = 0 ∧ rpq (⟨#[45, 51, 47, 50]⟩ : ByteArray).data.toList = rq true [3] [2] := by
  have e : (⟨#[45, 51, 47, 50]⟩ : ByteArray).data.toList = rtext true [3] [2] := t32
  have w1 := wdn 3 (by decide)
  have w2 := wdn 2 (by decide)
  have hf : rform true [3] [2] := by
    have k := k32
    unfold rchk at k
    rw [if_neg (by decide)] at k
    by_cases c : rform true [3] [2]
    · exact c
    · rw [if_neg c] at k; exact absurd k (by decide)
  refine ⟨prErr_good (by decide) (by rw [e]; exact rgood_text w1 w2 hf), ?_⟩
  rw [e]
  exact rpq_text true w1 w2
theorem qErr_good {n m : Bool} {xs ys us vs : List Int} (h : rchk n xs ys = 0) (g : rchk m us vs = 0) (h0 : us ≠ []) : qErr n xs ys m us vs = 0 := by
  unfold qErr
  rw [if_pos (rboth_good h g), if_neg (fun e => h0 (List.length_eq_zero_iff.1 e))]

end Go.Proofs.YtmgjkdijnjeljaaGreatDoor

/- What a told fraction says where its code is 0; fractions that are the same; three laws of rational numbers. -/
namespace Go.Proofs.YtmgjkdijnjeljaaGreatDoor
open Go.RowKit Go.Lib
set_option linter.unusedVariables false

theorem RTells.zero {e : Int} {q : Rat} {n : Bool} {xs ys : List Int} {c : Int} (h : RTells e q n xs ys c) (hc : c = 0) : e = 0 ∧ rchk n xs ys = 0 ∧ rq n xs ys = q := by
  by_cases he : e = 0
  · by_cases hl : rlong q
    · have := (h.long he hl).2.2.2; omega
    · exact ⟨he, (h.good he hl).2⟩
  · have := (h.bad he).2.2.2; omega
theorem rq_inj {n m : Bool} {xs ys us vs : List Int} (wx : Wd xs) (wy : Wd ys) (wu : Wd us) (wv : Wd vs) (h : rchk n xs ys = 0) (g : rchk m us vs = 0) (e : rq n xs ys = rq m us vs) : n = m ∧ xs = us ∧ ys = vs := by
  have a := RTells.self wx wy h
  rw [e] at a
  obtain ⟨b1, b2, b3, _⟩ := a.same (RTells.self wu wv g)
  exact ⟨b1, b2, b3⟩
theorem orz {b : Bool} {c : Int} (h : (b || decide (c ≠ 0)) = false) : b = false ∧ c = 0 := by
  cases b
  · exact ⟨rfl, by simpa using h⟩
  · simp at h
theorem rat_back (a b : Rat) : a + b + -b = a := by rw [Rat.add_assoc, Rat.add_neg_cancel, Rat.add_zero]
theorem rat_less (a b : Rat) : a + b - b = a := by rw [Rat.sub_eq_add_neg]; exact rat_back a b
theorem rat_quo (a b : Rat) (h : b ≠ 0) : a * b / b = a := by rw [Rat.div_def, Rat.mul_assoc, Rat.mul_inv_cancel _ h, Rat.mul_one]
theorem rq_zero {n : Bool} {xs ys : List Int} (wx : Wd xs) (wy : Wd ys) (h : rchk n xs ys = 0) (h0 : xs ≠ []) : rq n xs ys ≠ 0 := by
  obtain ⟨lx, ly, tx, ty, y0, s0, g⟩ := rchk_ok h
  intro e
  have k : rchk false [] [1] = 0 := rchk_good (by simp) (by simp) rfl rfl (by simp) (.inl rfl) (by decide)
  have e0 : rq false [] [1] = 0 := by unfold rq; rfl
  obtain ⟨_, e1, _⟩ := rq_inj wx wy Wd.nil (wdn 1 (by decide)) h k (by rw [e, e0])
  exact h0 e1
end Go.Proofs.YtmgjkdijnjeljaaGreatDoor

/- Layer 13: the laws' example and awake: what the document's examples say. -/
namespace Go.Proofs.YtmgjkdijnjeljaaGreatDoor
open Go.RowKit Go.Lib
set_option linter.unusedVariables false
set_option linter.unusedSimpArgs false

/-- A fraction that is known, beside a code. -/
def ZKt (w : World) (n : Bool) (x y : Int) (e : Ending) (w' : World) : Prop := ∃ a ca b cb, e = .returned (.tuple #[.agg #[.bool n, .slice a 1 ca, .slice b 1 cb], .int .i64 0]) ∧ Hid (w'.ownsRow w.heap.size 85 1 (.slice a 1 ca) 1 [.int .u32 x] ∧ w'.ownsRow w.heap.size 85 1 (.slice b 1 cb) 1 [.int .u32 y]) ∧ Hid (Below w.heap.size w w')
theorem zsmall_kn (x y : Int) (w : World) (x0 : -9223372036854775808 ≤ x) (x1 : x ≤ 9223372036854775807) (y0 : -9223372036854775808 ≤ y) (y1 : y ≤ 9223372036854775807) (hy : y ≠ 0) (n : Bool) (p q : Int) (wp : Wd [p]) (wq : Wd [q]) (hk : rchk n [p] [q] = 0) (hq : rq n [p] [q] = Rat.divInt x y) : Calls Tryz.prog 12 #[.int .i64 x, .int .i64 y] w (ZKt w n p q) := by
  have h := rsmall_any x y w x0 x1 y0 y1
  rw [if_neg hy] at h
  refine Calls.mono h ?_
  rintro e w' ⟨n', v, xs', u, ys', c1, rfl, o1, o2, t1, hb, _⟩
  obtain ⟨rfl, rfl, rfl, rfl⟩ := t1.lit rfl wp wq hk hq
  obtain ⟨a, ca, rfl⟩ := own_slice' o1
  obtain ⟨b, cb, rfl⟩ := own_slice' o2
  exact ⟨a, ca, b, cb, rfl, ⟨o1, o2⟩, hb⟩
theorem zw (x : Int) (h0 : 0 ≤ x) (h1 : x ≤ 4294967295) : Wd [x] := Wd.one ⟨h0, h1⟩
theorem zk32 : rchk false [3] [2] = 0 := rchk_good (by simp) (by simp) rfl rfl (by simp) (.inl rfl) (by decide)
theorem zk11 : rchk true [1] [1] = 0 := rchk_good (by simp) (by simp) rfl rfl (by simp) (.inr (by simp)) (by decide)
theorem zg : gchk false [3] [2] true [1] [1] = 0 := by unfold gchk; rw [zk32, fstE_zero, zk11]
theorem zo : ochk 8 1 = 0 := by
  rcases ochk_or 8 1 with h | h
  · exact h.1
  · exact absurd (by unfold rOK; decide) h.2
theorem zname : tname [77, 50] = true := by decide +kernel
theorem ztchk : tchk [77, 50] 8 1 0 = 0 := by rw [tchk_rest _ _ _ zname, zo, fstE_zero]
/-- What tells the example, alone or beside a code. -/
def TEx (w : World) (e : Ending) (w' : World) : Prop := ∃ a ca b cb c cc d cd, e = .returned (.agg #[.string ⟨#[77, 50]⟩, .int .i32 8, .int .i32 1, .bool false, .slice a 1 ca, .slice b 1 cb, .bool true, .slice c 1 cc, .slice d 1 cd]) ∧ Hid (w'.ownsRow w.heap.size 85 1 (.slice a 1 ca) 1 [.int .u32 3] ∧ w'.ownsRow w.heap.size 85 1 (.slice b 1 cb) 1 [.int .u32 2] ∧ w'.ownsRow w.heap.size 85 1 (.slice c 1 cc) 1 [.int .u32 1] ∧ w'.ownsRow w.heap.size 85 1 (.slice d 1 cd) 1 [.int .u32 1]) ∧ Hid (Below w.heap.size w w')
def TEt (w : World) (e : Ending) (w' : World) : Prop := ∃ a ca b cb c cc d cd, e = .returned (.tuple #[.agg #[.string ⟨#[77, 50]⟩, .int .i32 8, .int .i32 1, .bool false, .slice a 1 ca, .slice b 1 cb, .bool true, .slice c 1 cc, .slice d 1 cd], .int .i64 0]) ∧ Hid (w'.ownsRow w.heap.size 85 1 (.slice a 1 ca) 1 [.int .u32 3] ∧ w'.ownsRow w.heap.size 85 1 (.slice b 1 cb) 1 [.int .u32 2] ∧ w'.ownsRow w.heap.size 85 1 (.slice c 1 cc) 1 [.int .u32 1] ∧ w'.ownsRow w.heap.size 85 1 (.slice d 1 cd) 1 [.int .u32 1]) ∧ Hid (Below w.heap.size w w')
set_option maxHeartbeats 1600000 in
set_option maxRecDepth 100000 in
theorem texample_any (w : World) : Calls Tryz.prog 6 #[] w (TEx w) := by
  have HX := hid (Box.made w 31 #[.string ⟨#[]⟩, .int .i32 0, .int .i32 0, .bool false, .slice none 0 0, .slice none 0 0, .bool false, .slice none 0 0, .slice none 0 0])
  have HB := hid (alloc_later w (.cells #[.string ⟨#[]⟩, .int .i32 0, .int .i32 0, .bool false, .slice none 0 0, .slice none 0 0, .bool false, .slice none 0 0, .slice none 0 0] 31))
  obtain ⟨X, hX⟩ : ∃ X, w.alloc (.cells #[.string ⟨#[]⟩, .int .i32 0, .int .i32 0, .bool false, .slice none 0 0, .slice none 0 0, .bool false, .slice none 0 0, .slice none 0 0] 31) = X := ⟨_, rfl⟩
  rw [hX] at HX HB
  have H1 : Hid (∀ V, Calls Tryz.prog 12 #[.int .i64 3, .int .i64 2] V (ZKt V false 3 2)) := fun V => zsmall_kn 3 2 V (by decide) (by decide) (by decide) (by decide) (by decide) false 3 2 (zw 3 (by decide) (by decide)) (zw 2 (by decide) (by decide)) zk32 (by decide +kernel)
  have H2 : Hid (∀ V, Calls Tryz.prog 12 #[.int .i64 (-1), .int .i64 1] V (ZKt V true 1 1)) := fun V => zsmall_kn (-1) 1 V (by decide) (by decide) (by decide) (by decide) (by decide) true 1 1 (zw 1 (by decide) (by decide)) (zw 1 (by decide) (by decide)) zk11 (by decide +kernel)
  go_enter Tryz.func6, Tryz.ntmps6
  go_wp2_with fail
  refine Calls.mono (H1.out _) ?_
  rintro e w1 ⟨a, ca, b, cb, rfl, hs1, hb1⟩
  have HN := hid (Box.made w1 27 #[.bool false, .slice a 1 ca, .slice b 1 cb])
  have HNB := hid (alloc_later w1 (.cells #[.bool false, .slice a 1 ca, .slice b 1 cb] 27))
  obtain ⟨Y, hY⟩ : ∃ Y, w1.alloc (.cells #[.bool false, .slice a 1 ca, .slice b 1 cb] 27) = Y := ⟨_, rfl⟩
  rw [hY] at HN HNB
  go_wp2_with fail
  refine Calls.mono (H2.out _) ?_
  rintro e w2 ⟨c, cc, d, cd, rfl, hs2, hb2⟩
  have HM := hid (Box.made w2 27 #[.bool true, .slice c 1 cc, .slice d 1 cd])
  have HMB := hid (alloc_later w2 (.cells #[.bool true, .slice c 1 cc, .slice d 1 cd] 27))
  obtain ⟨Q, hQ⟩ : ∃ Q, w2.alloc (.cells #[.bool true, .slice c 1 cc, .slice d 1 cd] 27) = Q := ⟨_, rfl⟩
  rw [hQ] at HM HMB
  have HYQ := hid (bt hb2.out HMB.out)
  have HXQ := hid (bt HB.out (bt hb1.out (bt HNB.out HYQ.out)))
  have HR := hid (HX.out.later (bt hb1.out (bt HNB.out HYQ.out)) HX.out.lt)
  have HN2 := hid (HN.out.later HYQ.out HN.out.lt)
  have HSS : Hid (Q.ownsRow X.heap.size 85 1 (.slice a 1 ca) 1 [.int .u32 3] ∧ Q.ownsRow X.heap.size 85 1 (.slice b 1 cb) 1 [.int .u32 2] ∧ Q.ownsRow Y.heap.size 85 1 (.slice c 1 cc) 1 [.int .u32 1] ∧ Q.ownsRow Y.heap.size 85 1 (.slice d 1 cd) 1 [.int .u32 1]) := ⟨owns_later hs1.out.1 (bt HNB.out HYQ.out), owns_later hs1.out.2 (bt HNB.out HYQ.out), owns_later hs2.out.1 HMB.out, owns_later hs2.out.2 HMB.out⟩
  have hX1 : X.heap.size ≤ Y.heap.size := (bt hb1.out HNB.out).size
  have hwX : w.heap.size < X.heap.size := HX.out.lt
  have hlt : w.heap.size < Q.heap.size := HR.out.lt
  clear hs1 hb1 hs2 hb2 H1 H2
  have ka0 : Q.cell? ⟨w1.heap.size, 0, none⟩ = some (.bool false) := HN2.out.cell 0
  have ka1 : Q.cell? ⟨w1.heap.size, 1, none⟩ = some (.slice a 1 ca) := HN2.out.cell 1
  have ka2 : Q.cell? ⟨w1.heap.size, 2, none⟩ = some (.slice b 1 cb) := HN2.out.cell 2
  have kb0 : Q.cell? ⟨w2.heap.size, 0, none⟩ = some (.bool true) := HM.out.cell 0
  have kb1 : Q.cell? ⟨w2.heap.size, 1, none⟩ = some (.slice c 1 cc) := HM.out.cell 1
  have kb2 : Q.cell? ⟨w2.heap.size, 2, none⟩ = some (.slice d 1 cd) := HM.out.cell 2
  have m0 : Q.cell? ⟨w.heap.size, 0, none⟩ = some (.string ⟨#[]⟩) := HR.out.cell 0
  have m1 : Q.cell? ⟨w.heap.size, 1, none⟩ = some (.int .i32 0) := HR.out.cell 1
  have m2 : Q.cell? ⟨w.heap.size, 2, none⟩ = some (.int .i32 0) := HR.out.cell 2
  have m3 : Q.cell? ⟨w.heap.size, 3, none⟩ = some (.bool false) := HR.out.cell 3
  have m4 : Q.cell? ⟨w.heap.size, 4, none⟩ = some (.slice none 0 0) := HR.out.cell 4
  have m5 : Q.cell? ⟨w.heap.size, 5, none⟩ = some (.slice none 0 0) := HR.out.cell 5
  have m6 : Q.cell? ⟨w.heap.size, 6, none⟩ = some (.bool false) := HR.out.cell 6
  have m7 : Q.cell? ⟨w.heap.size, 7, none⟩ = some (.slice none 0 0) := HR.out.cell 7
  have m8 : Q.cell? ⟨w.heap.size, 8, none⟩ = some (.slice none 0 0) := HR.out.cell 8
  have f0 := HR.out.free 0
  have f1 := HR.out.free 1
  have f2 := HR.out.free 2
  have f3 := HR.out.free 3
  have f4 := HR.out.free 4
  have f5 := HR.out.free 5
  have f6 := HR.out.free 6
  have f7 := HR.out.free 7
  have f8 := HR.out.free 8
  go_wp2_with fail
  have B1 := box_put9 HR.out (.string ⟨#[77, 50]⟩) (.int .i32 8) (.int .i32 1) (.bool false) (.slice a 1 ca) (.slice b 1 cb) (.bool true) (.slice c 1 cc) (.slice d 1 cd)
  have G1 := below_put9 HXQ.out w.heap.size (Nat.le_refl _) (.string ⟨#[77, 50]⟩) (.int .i32 8) (.int .i32 1) (.bool false) (.slice a 1 ca) (.slice b 1 cb) (.bool true) (.slice c 1 cc) (.slice d 1 cd)
  clear m0 f0 m1 f1 m2 f2 m3 f3 m4 f4 m5 f5 m6 f6 m7 f7 m8 f8
  have hput : ∀ {base k : Nat} {v : Value} {l : List Value}, Q.ownsRow base 85 1 v k l → w.heap.size < base → (((((((((Q.setCell ⟨w.heap.size, 0, none⟩ (.string ⟨#[77, 50]⟩)).setCell ⟨w.heap.size, 1, none⟩ (.int .i32 8)).setCell ⟨w.heap.size, 2, none⟩ (.int .i32 1)).setCell ⟨w.heap.size, 3, none⟩ (.bool false)).setCell ⟨w.heap.size, 4, none⟩ (.slice a 1 ca)).setCell ⟨w.heap.size, 5, none⟩ (.slice b 1 cb)).setCell ⟨w.heap.size, 6, none⟩ (.bool true)).setCell ⟨w.heap.size, 7, none⟩ (.slice c 1 cc)).setCell ⟨w.heap.size, 8, none⟩ (.slice d 1 cd)).ownsRow w.heap.size 85 1 v k l := fun h hb => owns_base (own_put9 h _ (fun g hg => by have := (h.lt g hg).1; omega) _ _ _ _ _ _ _ _ _) (by omega)
  refine bodyPost_ret (results_cell_row (by rfl) _ _ w.heap.size 31 _ (0, 0) _ (by rfl) B1 Tryz.underlying31 rfl (by kernel_rfl)) rfl ?_
  exact ⟨a, ca, b, cb, c, cc, d, cd, rfl, ⟨hput HSS.out.1 (by omega), hput HSS.out.2.1 (by omega), hput HSS.out.2.2.1 (by omega), hput HSS.out.2.2.2 (by omega)⟩, G1⟩
end Go.Proofs.YtmgjkdijnjeljaaGreatDoor

/- Layer 13: the laws' awake: what the document's examples say. -/
namespace Go.Proofs.YtmgjkdijnjeljaaGreatDoor
open Go.RowKit Go.Lib
set_option linter.unusedVariables false
set_option linter.unusedSimpArgs false

theorem zform {n : Bool} {xs ys : List Int} (h : rchk n xs ys = 0) : rform n xs ys := by
  unfold rchk at h
  by_cases hl : 2048 < max xs.length ys.length
  · rw [if_pos hl] at h; exact absurd h (by decide)
  · rw [if_neg hl] at h
    by_cases c : rform n xs ys
    · exact c
    · rw [if_neg c] at h; exact absurd h (by decide)
theorem znotlong {n : Bool} {xs ys : List Int} (wx : Wd xs) (wy : Wd ys) (h : rchk n xs ys = 0) : ¬ rlong (rq n xs ys) := fun hl => absurd ((RTells.self wx wy h).long rfl hl).2.2.2 (by decide)
theorem zbytes {S : ByteArray} {l : List UInt8} (e : S.data.toList = l) : S = ⟨l.toArray⟩ := by
  cases S with | mk d => simp only at e ⊢; rw [← Array.toArray_toList (xs := d), e]
theorem z32 : in32 8 1 := ⟨by decide, by decide⟩
theorem aw_tprint (a : Option Addr) (ca : Nat) (b : Option Addr) (cb : Nat) (c : Option Addr) (cc : Nat) (d : Option Addr) (cd : Nat) (w : World) (sx : Sl w (.slice a 1 ca) [3]) (sy : Sl w (.slice b 1 cb) [2]) (su : Sl w (.slice c 1 cc) [1]) (sv : Sl w (.slice d 1 cd) [1]) (htab : Tab w) : Calls Tryz.prog 14 #[.agg #[.string ⟨#[77, 50]⟩, .int .i32 8, .int .i32 1, .bool false, .slice a 1 ca, .slice b 1 cb, .bool true, .slice c 1 cc, .slice d 1 cd]] w fun x w' => x = .returned (.tuple #[.string ⟨#[77, 50, 32, 56, 32, 49, 32, 51, 47, 50, 32, 45, 49]⟩, .int .i64 0]) ∧ Below w.heap.size w w' := by
  refine Calls.mono (tPrint_any ⟨#[77, 50]⟩ 8 1 false a ca [3] b cb [2] true c cc [1] d cd [1] w (by decide) z32 sx sy su sv htab) ?_
  rintro x w' ⟨S, rfl, hS, _, hb⟩
  have ht : gtext false [3] [2] true [1] [1] = [51, 47, 50, 32, 45, 49] := by decide +kernel
  have hg : gpErr false [3] [2] true [1] [1] = 0 := by unfold gpErr; rw [zg, fstE_zero, ht]; rfl
  have hx : ttext [77, 50] 8 1 [51, 47, 50, 32, 45, 49] = [77, 50, 32, 56, 32, 49, 32, 51, 47, 50, 32, 45, 49] := by decide +kernel
  have e0 : tpErr (tchk (⟨#[77, 50]⟩ : ByteArray).data.toList 8 1 (gchk false [3] [2] true [1] [1])) (⟨#[77, 50]⟩ : ByteArray).data.toList 8 1 (gpErr false [3] [2] true [1] [1]) (gtext false [3] [2] true [1] [1]) = 0 := by
    refine tpErr_ok (by rw [zg]; exact ztchk) hg ?_
    rw [ht]
    show ¬ 65536 < (ttext [77, 50] 8 1 [51, 47, 50, 32, 45, 49]).length
    rw [hx]; decide
  have e1 := hS e0
  rw [ht] at e1
  have e2 : S.data.toList = [77, 50, 32, 56, 32, 49, 32, 51, 47, 50, 32, 45, 49] := e1.trans hx
  rw [e0, zbytes e2]
  exact ⟨rfl, hb⟩
theorem zl0 : tword [77, 50, 32, 56, 32, 49, 32, 51, 47, 50, 32, 45, 49] = [77, 50] := by decide +kernel
theorem zl1 : tword (trest [77, 50, 32, 56, 32, 49, 32, 51, 47, 50, 32, 45, 49]) = [56] := by decide +kernel
theorem zl2 : tword (trest (trest [77, 50, 32, 56, 32, 49, 32, 51, 47, 50, 32, 45, 49])) = [49] := by decide +kernel
theorem zl3 : trest (trest (trest [77, 50, 32, 56, 32, 49, 32, 51, 47, 50, 32, 45, 49])) = [51, 47, 50, 32, 45, 49] := by decide +kernel
theorem zn1 : tnumOk [56] = true ∧ tnumV [56] = 8 := by decide +kernel
theorem zn2 : tnumOk [49] = true ∧ tnumV [49] = 1 := by decide +kernel
theorem zp1 : gp1 [51, 47, 50, 32, 45, 49] = rtext false [3] [2] := by decide +kernel
theorem zp2 : gp2 [51, 47, 50, 32, 45, 49] = rtext true [1] [1] := by decide +kernel
theorem zq1 : rgood (gp1 [51, 47, 50, 32, 45, 49]) ∧ rpq (gp1 [51, 47, 50, 32, 45, 49]) = rq false [3] [2] := by
  rw [zp1]
  exact ⟨rgood_text (zw 3 (by decide) (by decide)) (zw 2 (by decide) (by decide)) (zform zk32), rpq_text false (zw 3 (by decide) (by decide)) (zw 2 (by decide) (by decide))⟩
theorem zq2 : rgood (gp2 [51, 47, 50, 32, 45, 49]) ∧ rpq (gp2 [51, 47, 50, 32, 45, 49]) = rq true [1] [1] := by
  rw [zp2]
  exact ⟨rgood_text (zw 1 (by decide) (by decide)) (zw 1 (by decide) (by decide)) (zform zk11), rpq_text true (zw 1 (by decide) (by decide)) (zw 1 (by decide) (by decide))⟩
theorem aw_tparse (w : World) (htab : Tab w) (herr : ErrT w) : Calls Tryz.prog 9 #[.string ⟨#[77, 50, 32, 56, 32, 49, 32, 51, 47, 50, 32, 45, 49]⟩] w (TEt w) := by
  refine Calls.mono (tParse_any ⟨#[77, 50, 32, 56, 32, 49, 32, 51, 47, 50, 32, 45, 49]⟩ w (by decide) htab herr) ?_
  have e0 : (⟨#[77, 50, 32, 56, 32, 49, 32, 51, 47, 50, 32, 45, 49]⟩ : ByteArray).data.toList = [77, 50, 32, 56, 32, 49, 32, 51, 47, 50, 32, 45, 49] := rfl
  have hgd : tgood [77, 50, 32, 56, 32, 49, 32, 51, 47, 50, 32, 45, 49] := by
    unfold tgood
    rw [zl0, zl1, zl2, zl3]
    exact ⟨zname, zn1.1, zn2.1, zq1.1, zq2.1⟩
  have hE : tpE ⟨#[77, 50, 32, 56, 32, 49, 32, 51, 47, 50, 32, 45, 49]⟩ = 0 := by
    rw [tpE_good (by decide) (by rw [e0]; exact hgd), e0, zl1, zl2, zn1.2, zn2.2]
    exact zo
  rw [e0, hE, zl0, zl1, zl2, zl3, zn1.2, zn2.2, zq1.2, zq2.2]
  have hL : ¬ gplong [51, 47, 50, 32, 45, 49] := by
    unfold gplong
    rw [zq1.2, zq2.2]
    rintro (h | h)
    · exact znotlong (zw 3 (by decide) (by decide)) (zw 2 (by decide) (by decide)) zk32 h
    · exact znotlong (zw 1 (by decide) (by decide)) (zw 1 (by decide) (by decide)) zk11 h
  rintro e w' ⟨S, F, R, n, a, ca, xs, b, cb, ys, m, c, cc, us, d, cd, vs, code, rfl, ⟨o1, o2, o3, o4⟩, t, hb, _⟩
  obtain ⟨rfl, ⟨k1, g1⟩, k2, g2⟩ := t.num.good rfl hL
  obtain ⟨e1, rfl, rfl⟩ := t.good rfl
  obtain ⟨rfl, rfl, rfl⟩ := rq_inj t.num.wd.1 t.num.wd.2.1 (zw 3 (by decide) (by decide)) (zw 2 (by decide) (by decide)) k1 zk32 g1
  obtain ⟨rfl, rfl, rfl⟩ := rq_inj t.num.wd.2.2.1 t.num.wd.2.2.2 (zw 1 (by decide) (by decide)) (zw 1 (by decide) (by decide)) k2 zk11 g2
  rw [zbytes e1]
  exact ⟨a, ca, b, cb, c, cc, d, cd, rfl, ⟨o1, o2, o3, o4⟩, hb⟩
set_option maxHeartbeats 3200000 in
set_option maxRecDepth 100000 in
theorem tawake_any (w : World) (htab : Tab w) (herr : ErrT w) : Calls Tryz.prog 5 #[] w fun e w' => e = .returned (.bool true) ∧ Below w.heap.size w w' := by
  have H1 := hid (texample_any w)
  have HPR : Hid (∀ V (a : Option Addr) (ca : Nat) (b : Option Addr) (cb : Nat) (c : Option Addr) (cc : Nat) (d : Option Addr) (cd : Nat), Below w.heap.size w V → (Sl V (.slice a 1 ca) [3] ∧ Sl V (.slice b 1 cb) [2] ∧ Sl V (.slice c 1 cc) [1] ∧ Sl V (.slice d 1 cd) [1]) → Calls Tryz.prog 14 #[.agg #[.string ⟨#[77, 50]⟩, .int .i32 8, .int .i32 1, .bool false, .slice a 1 ca, .slice b 1 cb, .bool true, .slice c 1 cc, .slice d 1 cd]] V fun x w' => x = .returned (.tuple #[.string ⟨#[77, 50, 32, 56, 32, 49, 32, 51, 47, 50, 32, 45, 49]⟩, .int .i64 0]) ∧ Below V.heap.size V w') := fun V a ca b cb c cc d cd hv h => aw_tprint a ca b cb c cc d cd V h.1 h.2.1 h.2.2.1 h.2.2.2 (htab.later hv)
  have HPA : Hid (∀ V, Below w.heap.size w V → Calls Tryz.prog 9 #[.string ⟨#[77, 50, 32, 56, 32, 49, 32, 51, 47, 50, 32, 45, 49]⟩] V (TEt V)) := fun V hv => aw_tparse V (htab.later hv) (herr.later hv)
  clear htab herr
  go_enter Tryz.func5, Tryz.ntmps5
  go_wp2_with fail
  refine Calls.mono H1.out ?_
  rintro e w1 ⟨a, ca, b, cb, c, cc, d, cd, rfl, hs1, hb1⟩
  have HS1 : Hid (Sl w1 (.slice a 1 ca) [3] ∧ Sl w1 (.slice b 1 cb) [2] ∧ Sl w1 (.slice c 1 cc) [1] ∧ Sl w1 (.slice d 1 cd) [1]) := ⟨Sl.own hs1.out.1 (zw 3 (by decide) (by decide)), Sl.own hs1.out.2.1 (zw 2 (by decide) (by decide)), Sl.own hs1.out.2.2.1 (zw 1 (by decide) (by decide)), Sl.own hs1.out.2.2.2 (zw 1 (by decide) (by decide))⟩
  clear hs1 H1
  go_wp2_with fail
  refine Calls.mono (HPR.out w1 a ca b cb c cc d cd hb1.out HS1.out) ?_
  rintro e w2 ⟨rfl, hb2⟩
  have HB2 := hid (bt hb1.out hb2)
  clear hb1 hb2 HS1 HPR
  go_wp2_with fail
  refine Calls.mono (HPA.out w2 HB2.out) ?_
  rintro e w3 ⟨a0, ca0, b0, cb0, c0, cc0, d0, cd0, rfl, hs3, hb3⟩
  have HN := hid (Box.made w3 31 #[.string ⟨#[77, 50]⟩, .int .i32 8, .int .i32 1, .bool false, .slice a0 1 ca0, .slice b0 1 cb0, .bool true, .slice c0 1 cc0, .slice d0 1 cd0])
  have HNB := hid (alloc_later w3 (.cells #[.string ⟨#[77, 50]⟩, .int .i32 8, .int .i32 1, .bool false, .slice a0 1 ca0, .slice b0 1 cb0, .bool true, .slice c0 1 cc0, .slice d0 1 cd0] 31))
  obtain ⟨Y, hY⟩ : ∃ Y, w3.alloc (.cells #[.string ⟨#[77, 50]⟩, .int .i32 8, .int .i32 1, .bool false, .slice a0 1 ca0, .slice b0 1 cb0, .bool true, .slice c0 1 cc0, .slice d0 1 cd0] 31) = Y := ⟨_, rfl⟩
  rw [hY] at HN HNB
  have HBY := hid (bt HB2.out (bt hb3.out HNB.out))
  have HS3 : Hid (Sl Y (.slice a0 1 ca0) [3] ∧ Sl Y (.slice b0 1 cb0) [2] ∧ Sl Y (.slice c0 1 cc0) [1] ∧ Sl Y (.slice d0 1 cd0) [1]) := ⟨(Sl.own hs3.out.1 (zw 3 (by decide) (by decide))).later HNB.out, (Sl.own hs3.out.2.1 (zw 2 (by decide) (by decide))).later HNB.out, (Sl.own hs3.out.2.2.1 (zw 1 (by decide) (by decide))).later HNB.out, (Sl.own hs3.out.2.2.2 (zw 1 (by decide) (by decide))).later HNB.out⟩
  clear hs3 hb3 HPA HB2
  have HK : Hid (∀ V, Below Y.heap.size Y V → V.cell? ⟨w3.heap.size, 0, none⟩ = some (.string ⟨#[77, 50]⟩) ∧ V.cell? ⟨w3.heap.size, 1, none⟩ = some (.int .i32 8) ∧ V.cell? ⟨w3.heap.size, 2, none⟩ = some (.int .i32 1) ∧ V.cell? ⟨w3.heap.size, 3, none⟩ = some (.bool false) ∧ V.cell? ⟨w3.heap.size, 4, none⟩ = some (.slice a0 1 ca0) ∧ V.cell? ⟨w3.heap.size, 5, none⟩ = some (.slice b0 1 cb0) ∧ V.cell? ⟨w3.heap.size, 6, none⟩ = some (.bool true) ∧ V.cell? ⟨w3.heap.size, 7, none⟩ = some (.slice c0 1 cc0) ∧ V.cell? ⟨w3.heap.size, 8, none⟩ = some (.slice d0 1 cd0)) := fun V hv => by
    have h := HN.out.later hv HN.out.lt
    exact ⟨h.cell 0, h.cell 1, h.cell 2, h.cell 3, h.cell 4, h.cell 5, h.cell 6, h.cell 7, h.cell 8⟩
  have HEX : Hid (∀ V, Below Y.heap.size Y V → Calls Tryz.prog 6 #[] V fun e w' => ∃ a ca b cb c cc d cd, e = .returned (.agg #[.string ⟨#[77, 50]⟩, .int .i32 8, .int .i32 1, .bool false, .slice a 1 ca, .slice b 1 cb, .bool true, .slice c 1 cc, .slice d 1 cd]) ∧ Hid (Sl w' (.slice a 1 ca) [3] ∧ Sl w' (.slice b 1 cb) [2] ∧ Sl w' (.slice c 1 cc) [1] ∧ Sl w' (.slice d 1 cd) [1]) ∧ (w'.cell? ⟨w3.heap.size, 0, none⟩ = some (.string ⟨#[77, 50]⟩) ∧ w'.cell? ⟨w3.heap.size, 1, none⟩ = some (.int .i32 8) ∧ w'.cell? ⟨w3.heap.size, 2, none⟩ = some (.int .i32 1) ∧ w'.cell? ⟨w3.heap.size, 3, none⟩ = some (.bool false) ∧ w'.cell? ⟨w3.heap.size, 4, none⟩ = some (.slice a0 1 ca0) ∧ w'.cell? ⟨w3.heap.size, 5, none⟩ = some (.slice b0 1 cb0) ∧ w'.cell? ⟨w3.heap.size, 6, none⟩ = some (.bool true) ∧ w'.cell? ⟨w3.heap.size, 7, none⟩ = some (.slice c0 1 cc0) ∧ w'.cell? ⟨w3.heap.size, 8, none⟩ = some (.slice d0 1 cd0)) ∧ Below Y.heap.size Y w') := fun V hv => by
    refine Calls.mono (texample_any V) ?_
    rintro e w' ⟨a, ca, b, cb, c, cc, d, cd, rfl, hs1, hb1⟩
    exact ⟨a, ca, b, cb, c, cc, d, cd, rfl, ⟨Sl.own hs1.out.1 (zw 3 (by decide) (by decide)), Sl.own hs1.out.2.1 (zw 2 (by decide) (by decide)), Sl.own hs1.out.2.2.1 (zw 1 (by decide) (by decide)), Sl.own hs1.out.2.2.2 (zw 1 (by decide) (by decide))⟩, HK.out _ (bt hv hb1.out), bt hv hb1.out⟩
  have HSA : Hid (∀ V (a : Option Addr) (ca : Nat) (b : Option Addr) (cb : Nat) (c : Option Addr) (cc : Nat) (d : Option Addr) (cd : Nat), Below Y.heap.size Y V → Hid (Sl V (.slice a 1 ca) [3] ∧ Sl V (.slice b 1 cb) [2] ∧ Sl V (.slice c 1 cc) [1] ∧ Sl V (.slice d 1 cd) [1]) → Calls Tryz.prog 15 #[.agg #[.string ⟨#[77, 50]⟩, .int .i32 8, .int .i32 1, .bool false, .slice a0 1 ca0, .slice b0 1 cb0, .bool true, .slice c0 1 cc0, .slice d0 1 cd0], .agg #[.string ⟨#[77, 50]⟩, .int .i32 8, .int .i32 1, .bool false, .slice a 1 ca, .slice b 1 cb, .bool true, .slice c 1 cc, .slice d 1 cd]] V fun e w' => e = .returned (.bool true) ∧ (w'.cell? ⟨w3.heap.size, 0, none⟩ = some (.string ⟨#[77, 50]⟩) ∧ w'.cell? ⟨w3.heap.size, 1, none⟩ = some (.int .i32 8) ∧ w'.cell? ⟨w3.heap.size, 2, none⟩ = some (.int .i32 1) ∧ w'.cell? ⟨w3.heap.size, 3, none⟩ = some (.bool false) ∧ w'.cell? ⟨w3.heap.size, 4, none⟩ = some (.slice a0 1 ca0) ∧ w'.cell? ⟨w3.heap.size, 5, none⟩ = some (.slice b0 1 cb0) ∧ w'.cell? ⟨w3.heap.size, 6, none⟩ = some (.bool true) ∧ w'.cell? ⟨w3.heap.size, 7, none⟩ = some (.slice c0 1 cc0) ∧ w'.cell? ⟨w3.heap.size, 8, none⟩ = some (.slice d0 1 cd0)) ∧ Below Y.heap.size Y w') := fun V a ca b cb c cc d cd hv hs => by
    refine Calls.mono (tSame_any ⟨#[77, 50]⟩ 8 1 false a0 ca0 [3] b0 cb0 [2] true c0 cc0 [1] d0 cd0 [1] ⟨#[77, 50]⟩ 8 1 false a ca [3] b cb [2] true c cc [1] d cd [1] V (HS3.out.1.later hv) (HS3.out.2.1.later hv) (HS3.out.2.2.1.later hv) (HS3.out.2.2.2.later hv) hs.out.1 hs.out.2.1 hs.out.2.2.1 hs.out.2.2.2 (by decide) (by decide) (by decide) (by decide) (by decide) (by decide) (by decide) (by decide)) ?_
    rintro e w' ⟨rfl, hb⟩
    exact ⟨by simp, HK.out _ (bt hv hb), bt hv hb⟩
  have HCH : Hid (∀ V (a : Option Addr) (ca : Nat) (b : Option Addr) (cb : Nat) (c : Option Addr) (cc : Nat) (d : Option Addr) (cd : Nat), Below Y.heap.size Y V → Hid (Sl V (.slice a 1 ca) [3] ∧ Sl V (.slice b 1 cb) [2] ∧ Sl V (.slice c 1 cc) [1] ∧ Sl V (.slice d 1 cd) [1]) → Calls Tryz.prog 8 #[.agg #[.string ⟨#[77, 50]⟩, .int .i32 8, .int .i32 1, .bool false, .slice a 1 ca, .slice b 1 cb, .bool true, .slice c 1 cc, .slice d 1 cd]] V fun e w' => e = .returned (.int .i64 0) ∧ (w'.cell? ⟨w3.heap.size, 0, none⟩ = some (.string ⟨#[77, 50]⟩) ∧ w'.cell? ⟨w3.heap.size, 1, none⟩ = some (.int .i32 8) ∧ w'.cell? ⟨w3.heap.size, 2, none⟩ = some (.int .i32 1) ∧ w'.cell? ⟨w3.heap.size, 3, none⟩ = some (.bool false) ∧ w'.cell? ⟨w3.heap.size, 4, none⟩ = some (.slice a0 1 ca0) ∧ w'.cell? ⟨w3.heap.size, 5, none⟩ = some (.slice b0 1 cb0) ∧ w'.cell? ⟨w3.heap.size, 6, none⟩ = some (.bool true) ∧ w'.cell? ⟨w3.heap.size, 7, none⟩ = some (.slice c0 1 cc0) ∧ w'.cell? ⟨w3.heap.size, 8, none⟩ = some (.slice d0 1 cd0)) ∧ Below Y.heap.size Y w') := fun V a ca b cb c cc d cd hv hs => by
    refine Calls.mono (tCheck_any ⟨#[77, 50]⟩ 8 1 false a ca [3] b cb [2] true c cc [1] d cd [1] V (by decide) z32 hs.out.1 hs.out.2.1 hs.out.2.2.1 hs.out.2.2.2) ?_
    rintro e w' ⟨rfl, hb⟩
    exact ⟨by rw [zg]; exact congrArg (fun z => Ending.returned (.int .i64 z)) ztchk, HK.out _ (bt hv hb), bt hv hb⟩
  have hs0 := HK.out _ (Below.refl _ Y).drew
  have hd0 := hid (Below.refl Y.heap.size Y).drew
  clear HK HS3 HN HNB
  go_wp2_with fail
  go_region_held3 (fun V : World => V.cell? ⟨w3.heap.size, 0, none⟩ = some (.string ⟨#[77, 50]⟩) ∧ V.cell? ⟨w3.heap.size, 1, none⟩ = some (.int .i32 8) ∧ V.cell? ⟨w3.heap.size, 2, none⟩ = some (.int .i32 1) ∧ V.cell? ⟨w3.heap.size, 3, none⟩ = some (.bool false) ∧ V.cell? ⟨w3.heap.size, 4, none⟩ = some (.slice a0 1 ca0) ∧ V.cell? ⟨w3.heap.size, 5, none⟩ = some (.slice b0 1 cb0) ∧ V.cell? ⟨w3.heap.size, 6, none⟩ = some (.bool true) ∧ V.cell? ⟨w3.heap.size, 7, none⟩ = some (.slice c0 1 cc0) ∧ V.cell? ⟨w3.heap.size, 8, none⟩ = some (.slice d0 1 cd0)) (first | exact hs4 | exact hs3 | exact hs2 | exact hs1 | exact hs0)
    (first
      | (go_at_call 8; (with_reducible refine Calls.mono (HCH.out _ a2 ca2 b2 cb2 c2 cc2 d2 cd2 hb7 hq2) ?_); rintro e w8 ⟨rfl, hs4, hb8⟩)
      | (go_at_call 6; (with_reducible refine Calls.mono (HEX.out _ hb6) ?_); rintro e w7 ⟨a2, ca2, b2, cb2, c2, cc2, d2, cd2, rfl, hq2, hs3, hb7⟩)
      | (go_at_call 15; (with_reducible refine Calls.mono (HSA.out _ a1 ca1 b1 cb1 c1 cc1 d1 cd1 hb5 hq1) ?_); rintro e w6 ⟨rfl, hs2, hb6⟩)
      | (go_at_call 6; (with_reducible refine Calls.mono (HEX.out _ hd0.out) ?_); rintro e w5 ⟨a1, ca1, b1, cb1, c1, cc1, d1, cd1, rfl, hq1, hs1, hb5⟩))
  all_goals
    have HB9 := hid (bt HBY.out hb8)
    clear hs0 hs1 hs2 hs3 hs4 hb5 hb6 hb7 hb8 HCH HEX HSA hd0 hq1 hq2
    go_wp2_with fail
    go_ret
    exact ⟨rfl, HB9.out⟩
end Go.Proofs.YtmgjkdijnjeljaaGreatDoor

/- TideNames: of every text: it is a name, and Check says so, just if it is 1 to 20 letters and digits, the first a letter. -/
namespace Go.Proofs.YtmgjkdijnjeljaaGreatDoor
open Go.RowKit
set_option linter.unusedVariables false
set_option linter.unusedSimpArgs false

/-- What the law's loop knows behind k bytes. -/
def nmTo (l : List UInt8) : Nat → Bool
  | 0 => decide (1 ≤ l.length) && decide (l.length ≤ 20)
  | k + 1 => nmTo l k && (tlet ((l[k]?.getD 0).toNat : Int) || decide (0 < k) && tdig ((l[k]?.getD 0).toNat : Int))
theorem nmTo_iff (l : List UInt8) : ∀ k, nmTo l k = true ↔ (1 ≤ l.length ∧ l.length ≤ 20) ∧ ∀ j, j < k → (tlet ((l[j]?.getD 0).toNat : Int) || decide (0 < j) && tdig ((l[j]?.getD 0).toNat : Int)) = true
  | 0 => by unfold nmTo; simp
  | k + 1 => by
    unfold nmTo
    rw [Bool.and_eq_true, nmTo_iff l k]
    constructor
    · rintro ⟨⟨h1, h2⟩, h3⟩
      refine ⟨h1, fun j hj => ?_⟩
      by_cases e : j = k
      · rw [e]; exact h3
      · exact h2 j (by omega)
    · rintro ⟨h1, h2⟩
      exact ⟨⟨h1, fun j hj => h2 j (by omega)⟩, h2 k (by omega)⟩
theorem nmTo_all (l : List UInt8) : nmTo l l.length = tname l := by
  rw [Bool.eq_iff_iff, nmTo_iff]
  constructor
  · rintro ⟨⟨h1, h2⟩, h3⟩
    refine tname_all h1 h2 ?_ (fun j hj => ?_)
    · have := h3 0 (by omega)
      simpa using this
    · have h := h3 j hj
      revert h
      cases tlet ((l[j]?.getD 0).toNat : Int) <;> cases tdig ((l[j]?.getD 0).toNat : Int) <;> simp
  · intro h
    have hn := h
    unfold tname at h
    simp only [Bool.and_eq_true, decide_eq_true_eq] at h
    obtain ⟨⟨⟨h1, h2⟩, h3⟩, h4⟩ := h
    refine ⟨⟨h1, h2⟩, fun j hj => ?_⟩
    by_cases e : j = 0
    · rw [e, h3]; rfl
    · rw [List.all_eq_true] at h4
      have h5 := h4 (l[j]) (List.getElem_mem hj)
      rw [List.getElem?_eq_getElem hj, decide_eq_true (show 0 < j by omega)]
      simpa using h5
theorem nmTo_no {l : List UInt8} {k : Nat} (h : nmTo l k = false) (hk : k ≤ l.length) : tname l = false := by
  rw [← nmTo_all]
  cases e : nmTo l l.length with
  | false => rfl
  | true =>
    have h1 := (nmTo_iff l l.length).1 e
    have h2 := (nmTo_iff l k).2 ⟨h1.1, fun j hj => h1.2 j (by omega)⟩
    rw [h] at h2; cases h2

set_option maxHeartbeats 6400000 in
set_option maxRecDepth 100000 in
theorem tideNames_walk (s : ByteArray) (w : World) (hm : s.size ≤ 9223372036854775807) (htab : Tab w) (herr : ErrT w) :
    Calls Tryz.prog 3 #[.string s] w fun e w' => e = .returned (.bool true) ∧ Below w.heap.size w w' := by
  have HAW := hid (tawake_any w htab herr)
  have HM := hid hm
  have HL := hid (tsize_list s)
  have hstart : nmTo s.data.toList 0 = (decide (1 ≤ (s.size : Int)) && decide ((s.size : Int) ≤ 20)) := by
    unfold nmTo
    rw [tsize_list]
    congr 1 <;> exact decide_eq_decide.2 (by omega)
  have HR0 := hid hstart
  clear htab herr hstart
  obtain ⟨B2, hB2⟩ : ∃ B2, decide ((s.size : Int) ≤ 20) = B2 := ⟨_, rfl⟩
  rw [hB2] at HR0
  have HC0 : (1 ≤ (s.size : Int) ∧ nmTo s.data.toList 0 = B2) ∨ (¬ 1 ≤ (s.size : Int) ∧ nmTo s.data.toList 0 = false) := by
    by_cases q1 : 1 ≤ (s.size : Int)
    · exact .inl ⟨q1, by rw [HR0.out, decide_eq_true q1]; rfl⟩
    · exact .inr ⟨q1, by rw [HR0.out, decide_eq_false q1]; rfl⟩
  clear HR0
  rcases HC0 with ⟨q1, h1⟩ | ⟨q1, h1⟩
  · have HR1 := hid h1
    clear h1
    go_enter Tryz.func3, Tryz.ntmps3
    go_wp2_with fail
    refine Calls.mono HAW.out ?_
    rintro e w1 ⟨rfl, hb1⟩
    have HB1 := hid hb1
    clear hb1 HAW
    go_wp2_with fail
    go_loop [4, 5] (fun r t => ∃ (k : Nat) (b : Bool), k ≤ s.size ∧ t = .int .i64 k ∧ r = .bool b ∧ Hid (nmTo s.data.toList k = b)) (fun _ t => s.size - (intOf t).toNat)
    case atStart => exact ⟨0, _, by omega, rfl, rfl, HR1⟩
    case round =>
      obtain ⟨k, b', hk, rfl, rfl, HB⟩ := hrel
      clear HR1 hB2
      by_cases hlt : k < s.size
      · cases b' with
        | true =>
          have bk := tbyte_at s k hlt
          have HST : Hid (nmTo s.data.toList (k + 1) = (tlet (s[k].toNat : Int) || decide (0 < k) && tdig (s[k].toNat : Int))) := by
            show (nmTo s.data.toList k && _) = _
            rw [HB.out, bk]; simp
          clear bk
          by_cases x1 : 65 ≤ (s[k].toNat : Int) <;> by_cases x2 : (s[k].toNat : Int) ≤ 90 <;> (try (exfalso; omega)) <;> by_cases x3 : 97 ≤ (s[k].toNat : Int) <;> (try (exfalso; omega)) <;> by_cases x4 : (s[k].toNat : Int) ≤ 122 <;> (try (exfalso; omega)) <;> by_cases x5 : 48 ≤ (s[k].toNat : Int) <;> (try (exfalso; omega)) <;> by_cases x6 : (s[k].toNat : Int) ≤ 57 <;> (try (exfalso; omega)) <;> by_cases x7 : 0 < (k : Int)
          all_goals
            have HST2 : Hid (∃ b, nmTo s.data.toList (k + 1) = b ∧ (tlet (s[k].toNat : Int) || decide (0 < k) && tdig (s[k].toNat : Int)) = b) := ⟨_, HST.out, rfl⟩
            have x8 : decide (0 < k) = decide (0 < (k : Int)) := decide_eq_decide.2 (by omega)
            unfold tlet tdig at HST2
            simp only [x8, x1, x2, x3, x4, x5, x6, x7, decide_true, decide_false, Bool.and_true, Bool.true_and, Bool.and_false, Bool.false_and, Bool.or_false, Bool.false_or, Bool.or_true, Bool.true_or, Bool.and_self, Bool.or_self] at HST2
            clear HST x8
            go_wp2_with fail
            go_round
            case rel => exact ⟨k + 1, _, by omega, by go_num, rfl, (by obtain ⟨b, h1, h2⟩ := HST2.out; exact h1.trans h2.symm)⟩
            case measure => simp [intOf]; omega
        | false =>
          have HTN := hid (nmTo_no HB.out (by have := HL.out; omega))
          have hlt' : (k : Int) < (s.size : Int) := by omega
          go_wp2_with fail
          refine Calls.mono (texample_any w1) ?_
          rintro e w2 ⟨a, ca, b, cb, c, cc, d, cd, rfl, hs2, hb2⟩
          have HN := hid (Box.made w2 31 #[.string ⟨#[77, 50]⟩, .int .i32 8, .int .i32 1, .bool false, .slice a 1 ca, .slice b 1 cb, .bool true, .slice c 1 cc, .slice d 1 cd])
          have HNB := hid (alloc_later w2 (.cells #[.string ⟨#[77, 50]⟩, .int .i32 8, .int .i32 1, .bool false, .slice a 1 ca, .slice b 1 cb, .bool true, .slice c 1 cc, .slice d 1 cd] 31))
          obtain ⟨Y, hY⟩ : ∃ Y, w2.alloc (.cells #[.string ⟨#[77, 50]⟩, .int .i32 8, .int .i32 1, .bool false, .slice a 1 ca, .slice b 1 cb, .bool true, .slice c 1 cc, .slice d 1 cd] 31) = Y := ⟨_, rfl⟩
          rw [hY] at HN HNB
          have y0 : Y.cell? ⟨w2.heap.size, 0, none⟩ = some (.string ⟨#[77, 50]⟩) := HN.out.cell 0
          have yf := HN.out.free 0
          have HP : Hid (Box (Y.setCell ⟨w2.heap.size, 0, none⟩ (.string s)) w2.heap.size 31 #[.string s, .int .i32 8, .int .i32 1, .bool false, .slice a 1 ca, .slice b 1 cb, .bool true, .slice c 1 cc, .slice d 1 cd]) := HN.out.set 0 (.string s)
          have HSZ : Hid (w.heap.size ≤ w2.heap.size) := (bt HB1.out hb2.out).size
          have HBY : Hid (Below w.heap.size w (Y.setCell ⟨w2.heap.size, 0, none⟩ (.string s))) := (bt HB1.out (bt hb2.out HNB.out)).setCell (p := ⟨w2.heap.size, 0, none⟩) HSZ.out _
          have HSS : Hid (Sl (Y.setCell ⟨w2.heap.size, 0, none⟩ (.string s)) (.slice a 1 ca) [3] ∧ Sl (Y.setCell ⟨w2.heap.size, 0, none⟩ (.string s)) (.slice b 1 cb) [2] ∧ Sl (Y.setCell ⟨w2.heap.size, 0, none⟩ (.string s)) (.slice c 1 cc) [1] ∧ Sl (Y.setCell ⟨w2.heap.size, 0, none⟩ (.string s)) (.slice d 1 cd) [1]) :=
            ⟨Sl.own (xs := [3]) (own_put1 (owns_later hs2.out.1 HNB.out) _ (fun g hg => Nat.ne_of_lt (hs2.out.1.lt g hg).2) 0 _) (zw 3 (by decide) (by decide)), Sl.own (xs := [2]) (own_put1 (owns_later hs2.out.2.1 HNB.out) _ (fun g hg => Nat.ne_of_lt (hs2.out.2.1.lt g hg).2) 0 _) (zw 2 (by decide) (by decide)), Sl.own (xs := [1]) (own_put1 (owns_later hs2.out.2.2.1 HNB.out) _ (fun g hg => Nat.ne_of_lt (hs2.out.2.2.1.lt g hg).2) 0 _) (zw 1 (by decide) (by decide)), Sl.own (xs := [1]) (own_put1 (owns_later hs2.out.2.2.2 HNB.out) _ (fun g hg => Nat.ne_of_lt (hs2.out.2.2.2.lt g hg).2) 0 _) (zw 1 (by decide) (by decide))⟩
          obtain ⟨Y1, hY1⟩ : ∃ Y1, Y.setCell ⟨w2.heap.size, 0, none⟩ (.string s) = Y1 := ⟨_, rfl⟩
          rw [hY1] at HP HBY HSS
          have HCH : Hid (∀ V, Below Y1.heap.size Y1 V → Calls Tryz.prog 8 #[.agg #[.string s, .int .i32 8, .int .i32 1, .bool false, .slice a 1 ca, .slice b 1 cb, .bool true, .slice c 1 cc, .slice d 1 cd]] V fun e w' => e = .returned (.int .i64 (tchk s.data.toList 8 1 0)) ∧ Below V.heap.size V w') := fun V hv => by
            have h := tCheck_any s 8 1 false a ca [3] b cb [2] true c cc [1] d cd [1] V HM.out z32 (HSS.out.1.later hv) (HSS.out.2.1.later hv) (HSS.out.2.2.1.later hv) (HSS.out.2.2.2.later hv)
            rw [zg] at h
            exact h
          have HNM := hid (tName_any s Y1 HM.out)
          clear hs2 hb2 HSS
          have k0 : Y1.cell? ⟨w2.heap.size, 0, none⟩ = some (.string s) := HP.out.cell 0
          have k1 : Y1.cell? ⟨w2.heap.size, 1, none⟩ = some (.int .i32 8) := HP.out.cell 1
          have k2 : Y1.cell? ⟨w2.heap.size, 2, none⟩ = some (.int .i32 1) := HP.out.cell 2
          have k3 : Y1.cell? ⟨w2.heap.size, 3, none⟩ = some (.bool false) := HP.out.cell 3
          have k4 : Y1.cell? ⟨w2.heap.size, 4, none⟩ = some (.slice a 1 ca) := HP.out.cell 4
          have k5 : Y1.cell? ⟨w2.heap.size, 5, none⟩ = some (.slice b 1 cb) := HP.out.cell 5
          have k6 : Y1.cell? ⟨w2.heap.size, 6, none⟩ = some (.bool true) := HP.out.cell 6
          have k7 : Y1.cell? ⟨w2.heap.size, 7, none⟩ = some (.slice c 1 cc) := HP.out.cell 7
          have k8 : Y1.cell? ⟨w2.heap.size, 8, none⟩ = some (.slice d 1 cd) := HP.out.cell 8
          rw [HTN.out] at HNM
          have e0 : tchk s.data.toList 8 1 0 = 4 := tchk_name _ _ _ HTN.out
          rw [e0] at HCH
          clear e0
          go_wp2_with fail
          refine Calls.mono HNM.out ?_
          rintro e w3 ⟨rfl, rfl⟩
          go_wp2_with fail
          refine Calls.mono (HCH.out _ (Below.refl _ _)) ?_
          rintro e w3 ⟨rfl, hb3⟩
          have HB3 := hid (bt HBY.out hb3)
          have HP3 := hid (HP.out.later hb3 HP.out.lt)
          have HC3 := hid (HCH.out w3 hb3)
          clear hb3 HCH HNM k0 k1 k2 k3 k4 k5 k6 k7 k8
          have k0 : w3.cell? ⟨w2.heap.size, 0, none⟩ = some (.string s) := HP3.out.cell 0
          have k1 : w3.cell? ⟨w2.heap.size, 1, none⟩ = some (.int .i32 8) := HP3.out.cell 1
          have k2 : w3.cell? ⟨w2.heap.size, 2, none⟩ = some (.int .i32 1) := HP3.out.cell 2
          have k3 : w3.cell? ⟨w2.heap.size, 3, none⟩ = some (.bool false) := HP3.out.cell 3
          have k4 : w3.cell? ⟨w2.heap.size, 4, none⟩ = some (.slice a 1 ca) := HP3.out.cell 4
          have k5 : w3.cell? ⟨w2.heap.size, 5, none⟩ = some (.slice b 1 cb) := HP3.out.cell 5
          have k6 : w3.cell? ⟨w2.heap.size, 6, none⟩ = some (.bool true) := HP3.out.cell 6
          have k7 : w3.cell? ⟨w2.heap.size, 7, none⟩ = some (.slice c 1 cc) := HP3.out.cell 7
          have k8 : w3.cell? ⟨w2.heap.size, 8, none⟩ = some (.slice d 1 cd) := HP3.out.cell 8
          go_wp2_with fail
          refine Calls.mono HC3.out ?_
          rintro e w4 ⟨rfl, hb4⟩
          have HB4 := hid (bt HB3.out hb4)
          clear hb4 HC3 k0 k1 k2 k3 k4 k5 k6 k7 k8
          go_wp2_with fail
          go_ret
          exact ⟨rfl, HB4.out⟩
      · have hkn : k = s.size := by omega
        subst hkn
        have HTN := hid ((nmTo_all s.data.toList).symm.trans ((congrArg (nmTo s.data.toList) HL.out).trans HB.out))
        cases b' with
        | true =>
          go_wp2_with fail
          refine Calls.mono (texample_any w1) ?_
          rintro e w2 ⟨a, ca, b, cb, c, cc, d, cd, rfl, hs2, hb2⟩
          have HN := hid (Box.made w2 31 #[.string ⟨#[77, 50]⟩, .int .i32 8, .int .i32 1, .bool false, .slice a 1 ca, .slice b 1 cb, .bool true, .slice c 1 cc, .slice d 1 cd])
          have HNB := hid (alloc_later w2 (.cells #[.string ⟨#[77, 50]⟩, .int .i32 8, .int .i32 1, .bool false, .slice a 1 ca, .slice b 1 cb, .bool true, .slice c 1 cc, .slice d 1 cd] 31))
          obtain ⟨Y, hY⟩ : ∃ Y, w2.alloc (.cells #[.string ⟨#[77, 50]⟩, .int .i32 8, .int .i32 1, .bool false, .slice a 1 ca, .slice b 1 cb, .bool true, .slice c 1 cc, .slice d 1 cd] 31) = Y := ⟨_, rfl⟩
          rw [hY] at HN HNB
          have y0 : Y.cell? ⟨w2.heap.size, 0, none⟩ = some (.string ⟨#[77, 50]⟩) := HN.out.cell 0
          have yf := HN.out.free 0
          have HP : Hid (Box (Y.setCell ⟨w2.heap.size, 0, none⟩ (.string s)) w2.heap.size 31 #[.string s, .int .i32 8, .int .i32 1, .bool false, .slice a 1 ca, .slice b 1 cb, .bool true, .slice c 1 cc, .slice d 1 cd]) := HN.out.set 0 (.string s)
          have HSZ : Hid (w.heap.size ≤ w2.heap.size) := (bt HB1.out hb2.out).size
          have HBY : Hid (Below w.heap.size w (Y.setCell ⟨w2.heap.size, 0, none⟩ (.string s))) := (bt HB1.out (bt hb2.out HNB.out)).setCell (p := ⟨w2.heap.size, 0, none⟩) HSZ.out _
          have HSS : Hid (Sl (Y.setCell ⟨w2.heap.size, 0, none⟩ (.string s)) (.slice a 1 ca) [3] ∧ Sl (Y.setCell ⟨w2.heap.size, 0, none⟩ (.string s)) (.slice b 1 cb) [2] ∧ Sl (Y.setCell ⟨w2.heap.size, 0, none⟩ (.string s)) (.slice c 1 cc) [1] ∧ Sl (Y.setCell ⟨w2.heap.size, 0, none⟩ (.string s)) (.slice d 1 cd) [1]) :=
            ⟨Sl.own (xs := [3]) (own_put1 (owns_later hs2.out.1 HNB.out) _ (fun g hg => Nat.ne_of_lt (hs2.out.1.lt g hg).2) 0 _) (zw 3 (by decide) (by decide)), Sl.own (xs := [2]) (own_put1 (owns_later hs2.out.2.1 HNB.out) _ (fun g hg => Nat.ne_of_lt (hs2.out.2.1.lt g hg).2) 0 _) (zw 2 (by decide) (by decide)), Sl.own (xs := [1]) (own_put1 (owns_later hs2.out.2.2.1 HNB.out) _ (fun g hg => Nat.ne_of_lt (hs2.out.2.2.1.lt g hg).2) 0 _) (zw 1 (by decide) (by decide)), Sl.own (xs := [1]) (own_put1 (owns_later hs2.out.2.2.2 HNB.out) _ (fun g hg => Nat.ne_of_lt (hs2.out.2.2.2.lt g hg).2) 0 _) (zw 1 (by decide) (by decide))⟩
          obtain ⟨Y1, hY1⟩ : ∃ Y1, Y.setCell ⟨w2.heap.size, 0, none⟩ (.string s) = Y1 := ⟨_, rfl⟩
          rw [hY1] at HP HBY HSS
          have HCH : Hid (∀ V, Below Y1.heap.size Y1 V → Calls Tryz.prog 8 #[.agg #[.string s, .int .i32 8, .int .i32 1, .bool false, .slice a 1 ca, .slice b 1 cb, .bool true, .slice c 1 cc, .slice d 1 cd]] V fun e w' => e = .returned (.int .i64 (tchk s.data.toList 8 1 0)) ∧ Below V.heap.size V w') := fun V hv => by
            have h := tCheck_any s 8 1 false a ca [3] b cb [2] true c cc [1] d cd [1] V HM.out z32 (HSS.out.1.later hv) (HSS.out.2.1.later hv) (HSS.out.2.2.1.later hv) (HSS.out.2.2.2.later hv)
            rw [zg] at h
            exact h
          have HNM := hid (tName_any s Y1 HM.out)
          clear hs2 hb2 HSS
          have k0 : Y1.cell? ⟨w2.heap.size, 0, none⟩ = some (.string s) := HP.out.cell 0
          have k1 : Y1.cell? ⟨w2.heap.size, 1, none⟩ = some (.int .i32 8) := HP.out.cell 1
          have k2 : Y1.cell? ⟨w2.heap.size, 2, none⟩ = some (.int .i32 1) := HP.out.cell 2
          have k3 : Y1.cell? ⟨w2.heap.size, 3, none⟩ = some (.bool false) := HP.out.cell 3
          have k4 : Y1.cell? ⟨w2.heap.size, 4, none⟩ = some (.slice a 1 ca) := HP.out.cell 4
          have k5 : Y1.cell? ⟨w2.heap.size, 5, none⟩ = some (.slice b 1 cb) := HP.out.cell 5
          have k6 : Y1.cell? ⟨w2.heap.size, 6, none⟩ = some (.bool true) := HP.out.cell 6
          have k7 : Y1.cell? ⟨w2.heap.size, 7, none⟩ = some (.slice c 1 cc) := HP.out.cell 7
          have k8 : Y1.cell? ⟨w2.heap.size, 8, none⟩ = some (.slice d 1 cd) := HP.out.cell 8
          rw [HTN.out] at HNM
          have e0 : tchk s.data.toList 8 1 0 = 0 := by rw [tchk_rest _ _ _ HTN.out, zo, fstE_zero]
          rw [e0] at HCH
          clear e0
          go_wp2_with fail
          refine Calls.mono HNM.out ?_
          rintro e w3 ⟨rfl, rfl⟩
          go_wp2_with fail
          refine Calls.mono (HCH.out _ (Below.refl _ _)) ?_
          rintro e w3 ⟨rfl, hb3⟩
          have HB3 := hid (bt HBY.out hb3)
          clear hb3 HCH HNM k0 k1 k2 k3 k4 k5 k6 k7 k8
          go_wp2_with fail
          go_ret
          exact ⟨rfl, HB3.out⟩
        | false =>
          go_wp2_with fail
          refine Calls.mono (texample_any w1) ?_
          rintro e w2 ⟨a, ca, b, cb, c, cc, d, cd, rfl, hs2, hb2⟩
          have HN := hid (Box.made w2 31 #[.string ⟨#[77, 50]⟩, .int .i32 8, .int .i32 1, .bool false, .slice a 1 ca, .slice b 1 cb, .bool true, .slice c 1 cc, .slice d 1 cd])
          have HNB := hid (alloc_later w2 (.cells #[.string ⟨#[77, 50]⟩, .int .i32 8, .int .i32 1, .bool false, .slice a 1 ca, .slice b 1 cb, .bool true, .slice c 1 cc, .slice d 1 cd] 31))
          obtain ⟨Y, hY⟩ : ∃ Y, w2.alloc (.cells #[.string ⟨#[77, 50]⟩, .int .i32 8, .int .i32 1, .bool false, .slice a 1 ca, .slice b 1 cb, .bool true, .slice c 1 cc, .slice d 1 cd] 31) = Y := ⟨_, rfl⟩
          rw [hY] at HN HNB
          have y0 : Y.cell? ⟨w2.heap.size, 0, none⟩ = some (.string ⟨#[77, 50]⟩) := HN.out.cell 0
          have yf := HN.out.free 0
          have HP : Hid (Box (Y.setCell ⟨w2.heap.size, 0, none⟩ (.string s)) w2.heap.size 31 #[.string s, .int .i32 8, .int .i32 1, .bool false, .slice a 1 ca, .slice b 1 cb, .bool true, .slice c 1 cc, .slice d 1 cd]) := HN.out.set 0 (.string s)
          have HSZ : Hid (w.heap.size ≤ w2.heap.size) := (bt HB1.out hb2.out).size
          have HBY : Hid (Below w.heap.size w (Y.setCell ⟨w2.heap.size, 0, none⟩ (.string s))) := (bt HB1.out (bt hb2.out HNB.out)).setCell (p := ⟨w2.heap.size, 0, none⟩) HSZ.out _
          have HSS : Hid (Sl (Y.setCell ⟨w2.heap.size, 0, none⟩ (.string s)) (.slice a 1 ca) [3] ∧ Sl (Y.setCell ⟨w2.heap.size, 0, none⟩ (.string s)) (.slice b 1 cb) [2] ∧ Sl (Y.setCell ⟨w2.heap.size, 0, none⟩ (.string s)) (.slice c 1 cc) [1] ∧ Sl (Y.setCell ⟨w2.heap.size, 0, none⟩ (.string s)) (.slice d 1 cd) [1]) :=
            ⟨Sl.own (xs := [3]) (own_put1 (owns_later hs2.out.1 HNB.out) _ (fun g hg => Nat.ne_of_lt (hs2.out.1.lt g hg).2) 0 _) (zw 3 (by decide) (by decide)), Sl.own (xs := [2]) (own_put1 (owns_later hs2.out.2.1 HNB.out) _ (fun g hg => Nat.ne_of_lt (hs2.out.2.1.lt g hg).2) 0 _) (zw 2 (by decide) (by decide)), Sl.own (xs := [1]) (own_put1 (owns_later hs2.out.2.2.1 HNB.out) _ (fun g hg => Nat.ne_of_lt (hs2.out.2.2.1.lt g hg).2) 0 _) (zw 1 (by decide) (by decide)), Sl.own (xs := [1]) (own_put1 (owns_later hs2.out.2.2.2 HNB.out) _ (fun g hg => Nat.ne_of_lt (hs2.out.2.2.2.lt g hg).2) 0 _) (zw 1 (by decide) (by decide))⟩
          obtain ⟨Y1, hY1⟩ : ∃ Y1, Y.setCell ⟨w2.heap.size, 0, none⟩ (.string s) = Y1 := ⟨_, rfl⟩
          rw [hY1] at HP HBY HSS
          have HCH : Hid (∀ V, Below Y1.heap.size Y1 V → Calls Tryz.prog 8 #[.agg #[.string s, .int .i32 8, .int .i32 1, .bool false, .slice a 1 ca, .slice b 1 cb, .bool true, .slice c 1 cc, .slice d 1 cd]] V fun e w' => e = .returned (.int .i64 (tchk s.data.toList 8 1 0)) ∧ Below V.heap.size V w') := fun V hv => by
            have h := tCheck_any s 8 1 false a ca [3] b cb [2] true c cc [1] d cd [1] V HM.out z32 (HSS.out.1.later hv) (HSS.out.2.1.later hv) (HSS.out.2.2.1.later hv) (HSS.out.2.2.2.later hv)
            rw [zg] at h
            exact h
          have HNM := hid (tName_any s Y1 HM.out)
          clear hs2 hb2 HSS
          have k0 : Y1.cell? ⟨w2.heap.size, 0, none⟩ = some (.string s) := HP.out.cell 0
          have k1 : Y1.cell? ⟨w2.heap.size, 1, none⟩ = some (.int .i32 8) := HP.out.cell 1
          have k2 : Y1.cell? ⟨w2.heap.size, 2, none⟩ = some (.int .i32 1) := HP.out.cell 2
          have k3 : Y1.cell? ⟨w2.heap.size, 3, none⟩ = some (.bool false) := HP.out.cell 3
          have k4 : Y1.cell? ⟨w2.heap.size, 4, none⟩ = some (.slice a 1 ca) := HP.out.cell 4
          have k5 : Y1.cell? ⟨w2.heap.size, 5, none⟩ = some (.slice b 1 cb) := HP.out.cell 5
          have k6 : Y1.cell? ⟨w2.heap.size, 6, none⟩ = some (.bool true) := HP.out.cell 6
          have k7 : Y1.cell? ⟨w2.heap.size, 7, none⟩ = some (.slice c 1 cc) := HP.out.cell 7
          have k8 : Y1.cell? ⟨w2.heap.size, 8, none⟩ = some (.slice d 1 cd) := HP.out.cell 8
          rw [HTN.out] at HNM
          have e0 : tchk s.data.toList 8 1 0 = 4 := tchk_name _ _ _ HTN.out
          rw [e0] at HCH
          clear e0
          go_wp2_with fail
          refine Calls.mono HNM.out ?_
          rintro e w3 ⟨rfl, rfl⟩
          go_wp2_with fail
          refine Calls.mono (HCH.out _ (Below.refl _ _)) ?_
          rintro e w3 ⟨rfl, hb3⟩
          have HB3 := hid (bt HBY.out hb3)
          have HP3 := hid (HP.out.later hb3 HP.out.lt)
          have HC3 := hid (HCH.out w3 hb3)
          clear hb3 HCH HNM k0 k1 k2 k3 k4 k5 k6 k7 k8
          have k0 : w3.cell? ⟨w2.heap.size, 0, none⟩ = some (.string s) := HP3.out.cell 0
          have k1 : w3.cell? ⟨w2.heap.size, 1, none⟩ = some (.int .i32 8) := HP3.out.cell 1
          have k2 : w3.cell? ⟨w2.heap.size, 2, none⟩ = some (.int .i32 1) := HP3.out.cell 2
          have k3 : w3.cell? ⟨w2.heap.size, 3, none⟩ = some (.bool false) := HP3.out.cell 3
          have k4 : w3.cell? ⟨w2.heap.size, 4, none⟩ = some (.slice a 1 ca) := HP3.out.cell 4
          have k5 : w3.cell? ⟨w2.heap.size, 5, none⟩ = some (.slice b 1 cb) := HP3.out.cell 5
          have k6 : w3.cell? ⟨w2.heap.size, 6, none⟩ = some (.bool true) := HP3.out.cell 6
          have k7 : w3.cell? ⟨w2.heap.size, 7, none⟩ = some (.slice c 1 cc) := HP3.out.cell 7
          have k8 : w3.cell? ⟨w2.heap.size, 8, none⟩ = some (.slice d 1 cd) := HP3.out.cell 8
          go_wp2_with fail
          refine Calls.mono HC3.out ?_
          rintro e w4 ⟨rfl, hb4⟩
          have HB4 := hid (bt HB3.out hb4)
          clear hb4 HC3 k0 k1 k2 k3 k4 k5 k6 k7 k8
          go_wp2_with fail
          go_ret
          exact ⟨rfl, HB4.out⟩
  · have HR1 := hid h1
    clear h1
    go_enter Tryz.func3, Tryz.ntmps3
    go_wp2_with fail
    refine Calls.mono HAW.out ?_
    rintro e w1 ⟨rfl, hb1⟩
    have HB1 := hid hb1
    clear hb1 HAW
    go_wp2_with fail
    go_loop [4, 5] (fun r t => ∃ (k : Nat) (b : Bool), k ≤ s.size ∧ t = .int .i64 k ∧ r = .bool b ∧ Hid (nmTo s.data.toList k = b)) (fun _ t => s.size - (intOf t).toNat)
    case atStart => exact ⟨0, _, by omega, rfl, rfl, HR1⟩
    case round =>
      obtain ⟨k, b', hk, rfl, rfl, HB⟩ := hrel
      clear HR1 hB2
      by_cases hlt : k < s.size
      · exfalso; omega
      · have hkn : k = s.size := by omega
        subst hkn
        have HTN := hid ((nmTo_all s.data.toList).symm.trans ((congrArg (nmTo s.data.toList) HL.out).trans HB.out))
        cases b' with
        | true =>
          go_wp2_with fail
          refine Calls.mono (texample_any w1) ?_
          rintro e w2 ⟨a, ca, b, cb, c, cc, d, cd, rfl, hs2, hb2⟩
          have HN := hid (Box.made w2 31 #[.string ⟨#[77, 50]⟩, .int .i32 8, .int .i32 1, .bool false, .slice a 1 ca, .slice b 1 cb, .bool true, .slice c 1 cc, .slice d 1 cd])
          have HNB := hid (alloc_later w2 (.cells #[.string ⟨#[77, 50]⟩, .int .i32 8, .int .i32 1, .bool false, .slice a 1 ca, .slice b 1 cb, .bool true, .slice c 1 cc, .slice d 1 cd] 31))
          obtain ⟨Y, hY⟩ : ∃ Y, w2.alloc (.cells #[.string ⟨#[77, 50]⟩, .int .i32 8, .int .i32 1, .bool false, .slice a 1 ca, .slice b 1 cb, .bool true, .slice c 1 cc, .slice d 1 cd] 31) = Y := ⟨_, rfl⟩
          rw [hY] at HN HNB
          have y0 : Y.cell? ⟨w2.heap.size, 0, none⟩ = some (.string ⟨#[77, 50]⟩) := HN.out.cell 0
          have yf := HN.out.free 0
          have HP : Hid (Box (Y.setCell ⟨w2.heap.size, 0, none⟩ (.string s)) w2.heap.size 31 #[.string s, .int .i32 8, .int .i32 1, .bool false, .slice a 1 ca, .slice b 1 cb, .bool true, .slice c 1 cc, .slice d 1 cd]) := HN.out.set 0 (.string s)
          have HSZ : Hid (w.heap.size ≤ w2.heap.size) := (bt HB1.out hb2.out).size
          have HBY : Hid (Below w.heap.size w (Y.setCell ⟨w2.heap.size, 0, none⟩ (.string s))) := (bt HB1.out (bt hb2.out HNB.out)).setCell (p := ⟨w2.heap.size, 0, none⟩) HSZ.out _
          have HSS : Hid (Sl (Y.setCell ⟨w2.heap.size, 0, none⟩ (.string s)) (.slice a 1 ca) [3] ∧ Sl (Y.setCell ⟨w2.heap.size, 0, none⟩ (.string s)) (.slice b 1 cb) [2] ∧ Sl (Y.setCell ⟨w2.heap.size, 0, none⟩ (.string s)) (.slice c 1 cc) [1] ∧ Sl (Y.setCell ⟨w2.heap.size, 0, none⟩ (.string s)) (.slice d 1 cd) [1]) :=
            ⟨Sl.own (xs := [3]) (own_put1 (owns_later hs2.out.1 HNB.out) _ (fun g hg => Nat.ne_of_lt (hs2.out.1.lt g hg).2) 0 _) (zw 3 (by decide) (by decide)), Sl.own (xs := [2]) (own_put1 (owns_later hs2.out.2.1 HNB.out) _ (fun g hg => Nat.ne_of_lt (hs2.out.2.1.lt g hg).2) 0 _) (zw 2 (by decide) (by decide)), Sl.own (xs := [1]) (own_put1 (owns_later hs2.out.2.2.1 HNB.out) _ (fun g hg => Nat.ne_of_lt (hs2.out.2.2.1.lt g hg).2) 0 _) (zw 1 (by decide) (by decide)), Sl.own (xs := [1]) (own_put1 (owns_later hs2.out.2.2.2 HNB.out) _ (fun g hg => Nat.ne_of_lt (hs2.out.2.2.2.lt g hg).2) 0 _) (zw 1 (by decide) (by decide))⟩
          obtain ⟨Y1, hY1⟩ : ∃ Y1, Y.setCell ⟨w2.heap.size, 0, none⟩ (.string s) = Y1 := ⟨_, rfl⟩
          rw [hY1] at HP HBY HSS
          have HCH : Hid (∀ V, Below Y1.heap.size Y1 V → Calls Tryz.prog 8 #[.agg #[.string s, .int .i32 8, .int .i32 1, .bool false, .slice a 1 ca, .slice b 1 cb, .bool true, .slice c 1 cc, .slice d 1 cd]] V fun e w' => e = .returned (.int .i64 (tchk s.data.toList 8 1 0)) ∧ Below V.heap.size V w') := fun V hv => by
            have h := tCheck_any s 8 1 false a ca [3] b cb [2] true c cc [1] d cd [1] V HM.out z32 (HSS.out.1.later hv) (HSS.out.2.1.later hv) (HSS.out.2.2.1.later hv) (HSS.out.2.2.2.later hv)
            rw [zg] at h
            exact h
          have HNM := hid (tName_any s Y1 HM.out)
          clear hs2 hb2 HSS
          have k0 : Y1.cell? ⟨w2.heap.size, 0, none⟩ = some (.string s) := HP.out.cell 0
          have k1 : Y1.cell? ⟨w2.heap.size, 1, none⟩ = some (.int .i32 8) := HP.out.cell 1
          have k2 : Y1.cell? ⟨w2.heap.size, 2, none⟩ = some (.int .i32 1) := HP.out.cell 2
          have k3 : Y1.cell? ⟨w2.heap.size, 3, none⟩ = some (.bool false) := HP.out.cell 3
          have k4 : Y1.cell? ⟨w2.heap.size, 4, none⟩ = some (.slice a 1 ca) := HP.out.cell 4
          have k5 : Y1.cell? ⟨w2.heap.size, 5, none⟩ = some (.slice b 1 cb) := HP.out.cell 5
          have k6 : Y1.cell? ⟨w2.heap.size, 6, none⟩ = some (.bool true) := HP.out.cell 6
          have k7 : Y1.cell? ⟨w2.heap.size, 7, none⟩ = some (.slice c 1 cc) := HP.out.cell 7
          have k8 : Y1.cell? ⟨w2.heap.size, 8, none⟩ = some (.slice d 1 cd) := HP.out.cell 8
          rw [HTN.out] at HNM
          have e0 : tchk s.data.toList 8 1 0 = 0 := by rw [tchk_rest _ _ _ HTN.out, zo, fstE_zero]
          rw [e0] at HCH
          clear e0
          go_wp2_with fail
          refine Calls.mono HNM.out ?_
          rintro e w3 ⟨rfl, rfl⟩
          go_wp2_with fail
          refine Calls.mono (HCH.out _ (Below.refl _ _)) ?_
          rintro e w3 ⟨rfl, hb3⟩
          have HB3 := hid (bt HBY.out hb3)
          clear hb3 HCH HNM k0 k1 k2 k3 k4 k5 k6 k7 k8
          go_wp2_with fail
          go_ret
          exact ⟨rfl, HB3.out⟩
        | false =>
          go_wp2_with fail
          refine Calls.mono (texample_any w1) ?_
          rintro e w2 ⟨a, ca, b, cb, c, cc, d, cd, rfl, hs2, hb2⟩
          have HN := hid (Box.made w2 31 #[.string ⟨#[77, 50]⟩, .int .i32 8, .int .i32 1, .bool false, .slice a 1 ca, .slice b 1 cb, .bool true, .slice c 1 cc, .slice d 1 cd])
          have HNB := hid (alloc_later w2 (.cells #[.string ⟨#[77, 50]⟩, .int .i32 8, .int .i32 1, .bool false, .slice a 1 ca, .slice b 1 cb, .bool true, .slice c 1 cc, .slice d 1 cd] 31))
          obtain ⟨Y, hY⟩ : ∃ Y, w2.alloc (.cells #[.string ⟨#[77, 50]⟩, .int .i32 8, .int .i32 1, .bool false, .slice a 1 ca, .slice b 1 cb, .bool true, .slice c 1 cc, .slice d 1 cd] 31) = Y := ⟨_, rfl⟩
          rw [hY] at HN HNB
          have y0 : Y.cell? ⟨w2.heap.size, 0, none⟩ = some (.string ⟨#[77, 50]⟩) := HN.out.cell 0
          have yf := HN.out.free 0
          have HP : Hid (Box (Y.setCell ⟨w2.heap.size, 0, none⟩ (.string s)) w2.heap.size 31 #[.string s, .int .i32 8, .int .i32 1, .bool false, .slice a 1 ca, .slice b 1 cb, .bool true, .slice c 1 cc, .slice d 1 cd]) := HN.out.set 0 (.string s)
          have HSZ : Hid (w.heap.size ≤ w2.heap.size) := (bt HB1.out hb2.out).size
          have HBY : Hid (Below w.heap.size w (Y.setCell ⟨w2.heap.size, 0, none⟩ (.string s))) := (bt HB1.out (bt hb2.out HNB.out)).setCell (p := ⟨w2.heap.size, 0, none⟩) HSZ.out _
          have HSS : Hid (Sl (Y.setCell ⟨w2.heap.size, 0, none⟩ (.string s)) (.slice a 1 ca) [3] ∧ Sl (Y.setCell ⟨w2.heap.size, 0, none⟩ (.string s)) (.slice b 1 cb) [2] ∧ Sl (Y.setCell ⟨w2.heap.size, 0, none⟩ (.string s)) (.slice c 1 cc) [1] ∧ Sl (Y.setCell ⟨w2.heap.size, 0, none⟩ (.string s)) (.slice d 1 cd) [1]) :=
            ⟨Sl.own (xs := [3]) (own_put1 (owns_later hs2.out.1 HNB.out) _ (fun g hg => Nat.ne_of_lt (hs2.out.1.lt g hg).2) 0 _) (zw 3 (by decide) (by decide)), Sl.own (xs := [2]) (own_put1 (owns_later hs2.out.2.1 HNB.out) _ (fun g hg => Nat.ne_of_lt (hs2.out.2.1.lt g hg).2) 0 _) (zw 2 (by decide) (by decide)), Sl.own (xs := [1]) (own_put1 (owns_later hs2.out.2.2.1 HNB.out) _ (fun g hg => Nat.ne_of_lt (hs2.out.2.2.1.lt g hg).2) 0 _) (zw 1 (by decide) (by decide)), Sl.own (xs := [1]) (own_put1 (owns_later hs2.out.2.2.2 HNB.out) _ (fun g hg => Nat.ne_of_lt (hs2.out.2.2.2.lt g hg).2) 0 _) (zw 1 (by decide) (by decide))⟩
          obtain ⟨Y1, hY1⟩ : ∃ Y1, Y.setCell ⟨w2.heap.size, 0, none⟩ (.string s) = Y1 := ⟨_, rfl⟩
          rw [hY1] at HP HBY HSS
          have HCH : Hid (∀ V, Below Y1.heap.size Y1 V → Calls Tryz.prog 8 #[.agg #[.string s, .int .i32 8, .int .i32 1, .bool false, .slice a 1 ca, .slice b 1 cb, .bool true, .slice c 1 cc, .slice d 1 cd]] V fun e w' => e = .returned (.int .i64 (tchk s.data.toList 8 1 0)) ∧ Below V.heap.size V w') := fun V hv => by
            have h := tCheck_any s 8 1 false a ca [3] b cb [2] true c cc [1] d cd [1] V HM.out z32 (HSS.out.1.later hv) (HSS.out.2.1.later hv) (HSS.out.2.2.1.later hv) (HSS.out.2.2.2.later hv)
            rw [zg] at h
            exact h
          have HNM := hid (tName_any s Y1 HM.out)
          clear hs2 hb2 HSS
          have k0 : Y1.cell? ⟨w2.heap.size, 0, none⟩ = some (.string s) := HP.out.cell 0
          have k1 : Y1.cell? ⟨w2.heap.size, 1, none⟩ = some (.int .i32 8) := HP.out.cell 1
          have k2 : Y1.cell? ⟨w2.heap.size, 2, none⟩ = some (.int .i32 1) := HP.out.cell 2
          have k3 : Y1.cell? ⟨w2.heap.size, 3, none⟩ = some (.bool false) := HP.out.cell 3
          have k4 : Y1.cell? ⟨w2.heap.size, 4, none⟩ = some (.slice a 1 ca) := HP.out.cell 4
          have k5 : Y1.cell? ⟨w2.heap.size, 5, none⟩ = some (.slice b 1 cb) := HP.out.cell 5
          have k6 : Y1.cell? ⟨w2.heap.size, 6, none⟩ = some (.bool true) := HP.out.cell 6
          have k7 : Y1.cell? ⟨w2.heap.size, 7, none⟩ = some (.slice c 1 cc) := HP.out.cell 7
          have k8 : Y1.cell? ⟨w2.heap.size, 8, none⟩ = some (.slice d 1 cd) := HP.out.cell 8
          rw [HTN.out] at HNM
          have e0 : tchk s.data.toList 8 1 0 = 4 := tchk_name _ _ _ HTN.out
          rw [e0] at HCH
          clear e0
          go_wp2_with fail
          refine Calls.mono HNM.out ?_
          rintro e w3 ⟨rfl, rfl⟩
          go_wp2_with fail
          refine Calls.mono (HCH.out _ (Below.refl _ _)) ?_
          rintro e w3 ⟨rfl, hb3⟩
          have HB3 := hid (bt HBY.out hb3)
          have HP3 := hid (HP.out.later hb3 HP.out.lt)
          have HC3 := hid (HCH.out w3 hb3)
          clear hb3 HCH HNM k0 k1 k2 k3 k4 k5 k6 k7 k8
          have k0 : w3.cell? ⟨w2.heap.size, 0, none⟩ = some (.string s) := HP3.out.cell 0
          have k1 : w3.cell? ⟨w2.heap.size, 1, none⟩ = some (.int .i32 8) := HP3.out.cell 1
          have k2 : w3.cell? ⟨w2.heap.size, 2, none⟩ = some (.int .i32 1) := HP3.out.cell 2
          have k3 : w3.cell? ⟨w2.heap.size, 3, none⟩ = some (.bool false) := HP3.out.cell 3
          have k4 : w3.cell? ⟨w2.heap.size, 4, none⟩ = some (.slice a 1 ca) := HP3.out.cell 4
          have k5 : w3.cell? ⟨w2.heap.size, 5, none⟩ = some (.slice b 1 cb) := HP3.out.cell 5
          have k6 : w3.cell? ⟨w2.heap.size, 6, none⟩ = some (.bool true) := HP3.out.cell 6
          have k7 : w3.cell? ⟨w2.heap.size, 7, none⟩ = some (.slice c 1 cc) := HP3.out.cell 7
          have k8 : w3.cell? ⟨w2.heap.size, 8, none⟩ = some (.slice d 1 cd) := HP3.out.cell 8
          go_wp2_with fail
          refine Calls.mono HC3.out ?_
          rintro e w4 ⟨rfl, hb4⟩
          have HB4 := hid (bt HB3.out hb4)
          clear hb4 HC3 k0 k1 k2 k3 k4 k5 k6 k7 k8
          go_wp2_with fail
          go_ret
          exact ⟨rfl, HB4.out⟩
end Go.Proofs.YtmgjkdijnjeljaaGreatDoor

