/- My texts on the way to TideKnown, one behind the other: contracts of the program and of the document's answers. -/
import Derived.Test.YtmgjkdijnjeljaaGreatDoorJ2
/- Fractions: ratio.Small. -/
namespace Go.Proofs.YtmgjkdijnjeljaaGreatDoor
open Go.RowKit
set_option linter.unusedVariables false

theorem small_err {n m : Bool} {zs us : List Int} {y : Int} (l1 : zs.length ≤ 2) (t1 : Trimmed zs) (s1 : n = false ∨ 0 < zs.length) (w2 : Wd us) (l2 : us.length ≤ 2) (t2 : Trimmed us) (s2 : m = false ∨ 0 < us.length) (v2 : wval m us = y) : mkErr n zs m us = if y = 0 then 7 else 0 := by
  unfold mkErr
  rw [wboth_good (wchk_good (by omega) t1 s1) (wchk_good (by omega) t2 s2), if_pos rfl]
  by_cases c : us.length = 0
  · have e0 : val us = 0 := trimmed_zero' c
    have : y = 0 := by rw [← v2]; cases m <;> simp [wval, e0]
    rw [if_pos c, if_pos this]
  · have e0 := val_pos' w2 t2 (by omega)
    have : ¬ y = 0 := by rw [← v2]; cases m <;> simp [wval] <;> omega
    rw [if_neg c, if_neg this]

set_option maxHeartbeats 1600000 in
set_option maxRecDepth 100000 in
theorem rsmall_any (x y : Int) (w : World) (x0 : -9223372036854775808 ≤ x) (x1 : x ≤ 9223372036854775807) (y0 : -9223372036854775808 ≤ y) (y1 : y ≤ 9223372036854775807) :
    Calls Tryz.prog 12 #[.int .i64 x, .int .i64 y] w (RToldA w (if y = 0 then 7 else 0) (Rat.divInt x y)) := by
  have HB : Hid (Below w.heap.size w (w.alloc (.cells #[.bool false, .slice none 0 0, .slice none 0 0] 27))) := alloc_later _ _
  have HZ : Hid (Box (w.alloc (.cells #[.bool false, .slice none 0 0, .slice none 0 0] 27)) w.heap.size 27 #[.bool false, .slice none 0 0, .slice none 0 0]) := Box.made w _ _
  have HO1 := hid (wof_any x (w.alloc (.cells #[.bool false, .slice none 0 0, .slice none 0 0] 27)) x0 x1)
  obtain ⟨E, hE⟩ : ∃ E : Int, (if y = 0 then (7 : Int) else 0) = E := ⟨_, rfl⟩
  rw [hE]
  have HE := hid hE
  clear hE
  go_enter Tryz.func12, Tryz.ntmps12
  go_wp2_with fail
  refine Calls.mono HO1.out ?_
  generalize (w.alloc (.cells #[.bool false, .slice none 0 0, .slice none 0 0] 27)) = X at *
  rintro e w1 ⟨n1, v1, z1, rfl, o1, wd1, t1, l1, s1, hv1, hb1⟩
  obtain ⟨a1, c1, hs1⟩ := own_slice' o1
  subst hs1
  have HO2 := hid (wof_any y w1 y0 y1)
  have HS1 := hid (Sl.own o1 wd1)
  have HV1 := hid (And.intro t1 (And.intro s1 hv1))
  have HB1 := hid hb1
  clear o1 wd1 t1 s1 hv1 hb1 HO1
  go_wp2_with fail
  refine Calls.mono HO2.out ?_
  rintro e w2 ⟨n2, v2, z2, rfl, o2, wd2, t2, l2, s2, hv2, hb2⟩
  obtain ⟨a2, c2, hs2⟩ := own_slice' o2
  subst hs2
  have HM := hid (rmake_any n1 a1 c1 z1 n2 a2 c2 z2 w2 (HS1.out.later hb2) (Sl.own o2 wd2) (by omega) (by omega))
  rw [small_err l1 HV1.out.1 HV1.out.2.1 wd2 l2 t2 s2 hv2, HE.out, HV1.out.2.2, hv2] at HM
  have HB2 := hid (bt HB1.out hb2)
  clear o2 wd2 t2 s2 hv2 hb2 HO2 HS1 HV1
  go_wp2_with fail
  refine Calls.mono HM.out ?_
  rintro e w3 ⟨k3, v3, z3, u3, r3, code, rfl, o3, o4, t3, hb3, hc3⟩
  obtain ⟨a3, c3, hs3⟩ := own_slice' o3
  subst hs3
  obtain ⟨a4, c4, hs4⟩ := own_slice' o4
  subst hs4
  have HR := hid (And.intro o3 (And.intro o4 (And.intro t3 hc3)))
  obtain ⟨y0', y1', y2', f0, f1, f2⟩ := res_box3 HZ.out (bt HB2.out hb3)
  have HBW := hid (bt HB.out (bt HB2.out hb3))
  have HLT : Hid (w.heap.size < w2.heap.size) := Nat.lt_of_lt_of_le HZ.out.lt HB2.out.size
  clear o3 o4 t3 hb3 hc3 HM
  go_wp2_with fail
  refine bodyPost_ret (v := .tuple #[.agg #[.bool k3, .slice a3 z3.length c3, .slice a4 r3.length c4], .int .i64 code]) (by simp [results, Tryz.results12, go_sem, y0', y1', y2']) rfl ?_
  exact RToldA.put HR.out w.heap.size HLT.out (Nat.le_refl _) HBW.out _ _ _
end Go.Proofs.YtmgjkdijnjeljaaGreatDoor

/- A box of six cells that is stored into whole. -/
namespace Go.Proofs.YtmgjkdijnjeljaaGreatDoor
open Go.RowKit
set_option linter.unusedVariables false

theorem setRow_box {W : World} {b t : Nat} {old cs : Array Value} (h : Box W b t old) : Box (W.setRow b cs) b t cs := by
  unfold Box at *
  simp only [World.setRow, Array.getElem?_modify, if_pos, h, Option.map_some]
theorem setRow_far (W : World) (b : Nat) (cs : Array Value) {i : Nat} (hne : i ≠ b) : (W.setRow b cs).heap[i]? = W.heap[i]? := by
  simp only [World.setRow, Array.getElem?_modify, if_neg (Ne.symm hne)]
theorem put6_far (W : World) (b : Nat) (v0 v1 v2 v3 v4 v5 : Value) {i : Nat} (hne : i ≠ b) : ((((((W.setCell ⟨b, 0, none⟩ v0).setCell ⟨b, 1, none⟩ v1).setCell ⟨b, 2, none⟩ v2).setCell ⟨b, 3, none⟩ v3).setCell ⟨b, 4, none⟩ v4).setCell ⟨b, 5, none⟩ v5).heap[i]? = W.heap[i]? := by
  rw [Below.heap_setCell _ _ _ _ hne, Below.heap_setCell _ _ _ _ hne, Below.heap_setCell _ _ _ _ hne, Below.heap_setCell _ _ _ _ hne, Below.heap_setCell _ _ _ _ hne, Below.heap_setCell _ _ _ _ hne]
theorem world_eq {A B : World} (h : A.heap = B.heap) (s : ∀ H, ({ A with heap := H } : World) = { B with heap := H }) : A = B := by
  have e := s A.heap
  have e2 : ({ B with heap := A.heap } : World) = B := by rw [h]
  exact e.trans e2
theorem same_cell {A B : World} (s : ∀ H, ({ A with heap := H } : World) = { B with heap := H }) (p : Addr) (v : Value) : ∀ H, ({ A with heap := H } : World) = { B.setCell p v with heap := H } := fun H => (s H).trans rfl
theorem same_row (W : World) (b : Nat) (cs : Array Value) : ∀ H, ({ W.setRow b cs with heap := H } : World) = { W with heap := H } := fun H => rfl
theorem gput6_eq {W : World} {b t : Nat} {u0 u1 u2 u3 u4 u5 : Value} (h : Box W b t #[u0, u1, u2, u3, u4, u5]) (v0 v1 v2 v3 v4 v5 : Value) : W.setRow b #[v0, v1, v2, v3, v4, v5] = (((((W.setCell ⟨b, 0, none⟩ v0).setCell ⟨b, 1, none⟩ v1).setCell ⟨b, 2, none⟩ v2).setCell ⟨b, 3, none⟩ v3).setCell ⟨b, 4, none⟩ v4).setCell ⟨b, 5, none⟩ v5 := by
  refine world_eq ?_ (same_cell (same_cell (same_cell (same_cell (same_cell (same_cell (same_row W b _) _ _) _ _) _ _) _ _) _ _) _ _)
  apply Array.ext_getElem?
  intro i
  by_cases hi : i = b
  · subst hi
    have e1 := setRow_box (cs := #[v0, v1, v2, v3, v4, v5]) h
    have e2 := box_put6 h v0 v1 v2 v3 v4 v5
    exact Eq.trans e1 e2.symm
  · rw [setRow_far W b _ hi, put6_far W b _ _ _ _ _ _ hi]
theorem gstore6 {W : World} {b : Nat} {u0 u1 u2 u3 u4 u5 : Value} (h : Box W b 29 #[u0, u1, u2, u3, u4, u5]) (n : Bool) (a : Option Addr) (ka ca : Nat) (b' : Option Addr) (kb cb : Nat) (m : Bool) (c : Option Addr) (kc cc : Nat) (d : Option Addr) (kd cd : Nat) : (storeVar 29 ⟨b, 0, none⟩ (.agg #[.bool n, .slice a ka ca, .slice b' kb cb, .bool m, .slice c kc cc, .slice d kd cd])).run Tryz.prog W = .ok () ((((((W.setCell ⟨b, 0, none⟩ (.bool n)).setCell ⟨b, 1, none⟩ (.slice a ka ca)).setCell ⟨b, 2, none⟩ (.slice b' kb cb)).setCell ⟨b, 3, none⟩ (.bool m)).setCell ⟨b, 4, none⟩ (.slice c kc cc)).setCell ⟨b, 5, none⟩ (.slice d kd cd)) := by
  rw [← gput6_eq h]
  exact run_storeVar_row W b 29 29 _ _ h (by kernel_rfl) rfl (by simp [Value.oneCell'])
/-- A store of six cells, cell by cell, each world by its name. -/
theorem gchain6 {W : World} {b t : Nat} {u0 u1 u2 u3 u4 u5 : Value} (h : Box W b t #[u0, u1, u2, u3, u4, u5]) (v0 v1 v2 v3 v4 v5 : Value) : ∃ A0 A1 A2 A3 A4 A5, W.setCell ⟨b, 0, none⟩ v0 = A0 ∧ A0.setCell ⟨b, 1, none⟩ v1 = A1 ∧ A1.setCell ⟨b, 2, none⟩ v2 = A2 ∧ A2.setCell ⟨b, 3, none⟩ v3 = A3 ∧ A3.setCell ⟨b, 4, none⟩ v4 = A4 ∧ A4.setCell ⟨b, 5, none⟩ v5 = A5 ∧ (W.cell? ⟨b, 0, none⟩ = some u0 ∧ A0.cell? ⟨b, 1, none⟩ = some u1 ∧ A1.cell? ⟨b, 2, none⟩ = some u2 ∧ A2.cell? ⟨b, 3, none⟩ = some u3 ∧ A3.cell? ⟨b, 4, none⟩ = some u4 ∧ A4.cell? ⟨b, 5, none⟩ = some u5) ∧ (W.frozen? ⟨b, 0, none⟩ = false ∧ A0.frozen? ⟨b, 1, none⟩ = false ∧ A1.frozen? ⟨b, 2, none⟩ = false ∧ A2.frozen? ⟨b, 3, none⟩ = false ∧ A3.frozen? ⟨b, 4, none⟩ = false ∧ A4.frozen? ⟨b, 5, none⟩ = false) := by
  have h0 : Box _ b t #[v0, u1, u2, u3, u4, u5] := h.set 0 v0
  have h1 : Box _ b t #[v0, v1, u2, u3, u4, u5] := h0.set 1 v1
  have h2 : Box _ b t #[v0, v1, v2, u3, u4, u5] := h1.set 2 v2
  have h3 : Box _ b t #[v0, v1, v2, v3, u4, u5] := h2.set 3 v3
  have h4 : Box _ b t #[v0, v1, v2, v3, v4, u5] := h3.set 4 v4
  exact ⟨_, _, _, _, _, _, rfl, rfl, rfl, rfl, rfl, rfl, ⟨h.cell 0, h0.cell 1, h1.cell 2, h2.cell 3, h3.cell 4, h4.cell 5⟩, h.free 0, h0.free 1, h1.free 2, h2.free 3, h3.free 4, h4.free 5⟩
end Go.Proofs.YtmgjkdijnjeljaaGreatDoor

/- Complex fractions, the laws' own: frac; two fractions, two complex fractions with the same words. -/
namespace Go.Proofs.YtmgjkdijnjeljaaGreatDoor
open Go.RowKit
set_option linter.unusedVariables false

set_option maxHeartbeats 1600000 in
set_option maxRecDepth 100000 in
theorem gsameRatio_eq (n : Bool) (v u v' u' : Value) (xs ys : List Int) (w : World) (h : Sl w v xs) (g : Sl w u ys) (h' : Sl w v' xs) (g' : Sl w u' ys) (lx : xs.length ≤ 281474976710656) (ly : ys.length ≤ 281474976710656) :
    Calls Tryz.prog 13 #[.agg #[.bool n, v, u], .agg #[.bool n, v', u']] w fun e w' => e = .returned (.bool true) ∧ Below w.heap.size w w' := by
  have HB : Hid (Below w.heap.size w ((w.alloc (.cells #[.bool n, v, u] 27)).alloc (.cells #[.bool n, v', u'] 27))) := bt (alloc_later _ _) (alloc_later _ _)
  have HN : Hid (Box ((w.alloc (.cells #[.bool n, v, u] 27)).alloc (.cells #[.bool n, v', u'] 27)) w.heap.size 27 #[.bool n, v, u]) := Box.later (Box.made w _ _) (alloc_later _ _) (by simp)
  have HM : Hid (Box ((w.alloc (.cells #[.bool n, v, u] 27)).alloc (.cells #[.bool n, v', u'] 27)) (w.heap.size + 1) 27 #[.bool n, v', u']) := by
    have e := Box.made (w.alloc (.cells #[.bool n, v, u] 27)) 27 #[.bool n, v', u']
    simp at e
    exact e
  have H1 := hid (same_sl v v' xs xs _ (h.later HB.out) (h'.later HB.out) lx lx)
  rw [decide_eq_true rfl] at H1
  have H2 := hid (fun ww (hb : Below _ ((w.alloc (.cells #[.bool n, v, u] 27)).alloc (.cells #[.bool n, v', u'] 27)) ww) => same_sl u u' ys ys ww ((g.later HB.out).later hb) ((g'.later HB.out).later hb) ly ly)
  rw [decide_eq_true rfl] at H2
  have hbb : (n == n) = true := by simp
  obtain ⟨a, ca, rfl, hr⟩ := h
  obtain ⟨b, cb, rfl, gr⟩ := g
  obtain ⟨a', ca', rfl, hr'⟩ := h'
  obtain ⟨b', cb', rfl, gr'⟩ := g'
  clear hr gr hr' gr'
  go_enter Tryz.func13, Tryz.ntmps13
  go_wp2_with fail
  refine Calls.mono H1.out ?_
  generalize ((w.alloc (.cells #[.bool n, .slice a xs.length ca, .slice b ys.length cb] 27)).alloc (.cells #[.bool n, .slice a' xs.length ca', .slice b' ys.length cb'] 27)) = X at *
  rintro e w1 ⟨rfl, hb1⟩
  obtain ⟨p0, p1, p2, _, _, _⟩ := res_box3 HN.out hb1
  obtain ⟨q0, q1, q2, _, _, _⟩ := res_box3 HM.out hb1
  have HC := hid (H2.out w1 hb1)
  have HB1 := hid (bt HB.out hb1)
  clear hb1 H1 H2
  go_wp2_with fail
  refine Calls.mono HC.out ?_
  rintro e w2 ⟨rfl, hb2⟩
  have HBN := hid (bt HB1.out hb2)
  clear hb2 HC
  go_wp2_with fail
  go_ret
  exact ⟨rfl, HBN.out⟩
end Go.Proofs.YtmgjkdijnjeljaaGreatDoor

/- Complex fractions: gauss.Norm: of any, good or refused. -/
namespace Go.Proofs.YtmgjkdijnjeljaaGreatDoor
open Go.RowKit
set_option linter.unusedVariables false

theorem boxes2m (w : World) (t t' : Nat) (u v : Array Value) : Box ((w.alloc (.cells u t)).alloc (.cells v t')) w.heap.size t u ∧ Box ((w.alloc (.cells u t)).alloc (.cells v t')) (w.heap.size + 1) t' v ∧ Below w.heap.size w ((w.alloc (.cells u t)).alloc (.cells v t')) := by
  have e1 : (w.alloc (.cells u t)).heap.size = w.heap.size + 1 := World.size_alloc _ _
  have a := Box.made w t u
  have b := Box.made (w.alloc (.cells u t)) t' v
  exact ⟨a.later (alloc_later _ _) a.lt, e1 ▸ b, bt (alloc_later _ _) (alloc_later _ _)⟩
/-- A fraction is read out of a box, its error out of a slot. -/
theorem gresr_run {fn : Func} {W : World} {b q u : Nat} {cs : Array Value} (hr : fn.results = #[.cell q 27, .tmp u]) (hb : Box W b 27 cs) (tmps : Array Value) (h4 : tmps.getD q undef = .pointer (some ⟨b, 0, none⟩)) (hi : (Tryz.prog.info? 27).map (·.size) = some cs.size := by kernel_rfl) : (results fn tmps).run Tryz.prog W = .ok (.tuple #[.agg cs, tmps.getD u undef]) W := by
  have h := run_loadVar_row (P := Tryz.prog) W b 27 27 cs (0, 0) _ hb Tryz.underlying27 rfl hi
  rw [results_cell_tmp hr, h4]
  simp [asAddr, h]

end Go.Proofs.YtmgjkdijnjeljaaGreatDoor

/- Two complex fractions with the same words: slackwaterkit.SameGauss. -/
namespace Go.Proofs.YtmgjkdijnjeljaaGreatDoor
open Go.RowKit
set_option linter.unusedVariables false

set_option maxHeartbeats 1600000 in
set_option maxRecDepth 100000 in
theorem gsameGauss_eq (n : Bool) (a : Option Addr) (ca : Nat) (xs : List Int) (b : Option Addr) (cb : Nat) (ys : List Int) (m : Bool) (c : Option Addr) (cc : Nat) (us : List Int) (d : Option Addr) (cd : Nat) (vs : List Int) (a2 : Option Addr) (ca2 : Nat) (b2 : Option Addr) (cb2 : Nat) (c2 : Option Addr) (cc2 : Nat) (d2 : Option Addr) (cd2 : Nat) (w : World) (sx : Sl w (.slice a xs.length ca) xs) (sy : Sl w (.slice b ys.length cb) ys) (su : Sl w (.slice c us.length cc) us) (sv : Sl w (.slice d vs.length cd) vs) (sx2 : Sl w (.slice a2 xs.length ca2) xs) (sy2 : Sl w (.slice b2 ys.length cb2) ys) (su2 : Sl w (.slice c2 us.length cc2) us) (sv2 : Sl w (.slice d2 vs.length cd2) vs) (lx : xs.length ≤ 281474976710656) (ly : ys.length ≤ 281474976710656) (lu : us.length ≤ 281474976710656) (lv : vs.length ≤ 281474976710656) :
    Calls Tryz.prog 24 #[.agg #[.bool n, .slice a xs.length ca, .slice b ys.length cb, .bool m, .slice c us.length cc, .slice d vs.length cd], .agg #[.bool n, .slice a2 xs.length ca2, .slice b2 ys.length cb2, .bool m, .slice c2 us.length cc2, .slice d2 vs.length cd2]] w fun x w' => x = .returned (.bool true) ∧ Below w.heap.size w w' := by
  have HX := hid (boxes2m w 29 29 #[.bool n, .slice a xs.length ca, .slice b ys.length cb, .bool m, .slice c us.length cc, .slice d vs.length cd] #[.bool n, .slice a2 xs.length ca2, .slice b2 ys.length cb2, .bool m, .slice c2 us.length cc2, .slice d2 vs.length cd2])
  obtain ⟨X, hX⟩ : ∃ X, (w.alloc (.cells #[.bool n, .slice a xs.length ca, .slice b ys.length cb, .bool m, .slice c us.length cc, .slice d vs.length cd] 29)).alloc (.cells #[.bool n, .slice a2 xs.length ca2, .slice b2 ys.length cb2, .bool m, .slice c2 us.length cc2, .slice d2 vs.length cd2] 29) = X := ⟨_, rfl⟩
  rw [hX] at HX
  have H1 := hid (gsameRatio_eq n _ _ _ _ xs ys X (sx.later HX.out.2.2) (sy.later HX.out.2.2) (sx2.later HX.out.2.2) (sy2.later HX.out.2.2) lx ly)
  have H2 : Hid (∀ V, Below w.heap.size w V → Calls Tryz.prog 13 #[.agg #[.bool m, .slice c us.length cc, .slice d vs.length cd], .agg #[.bool m, .slice c2 us.length cc2, .slice d2 vs.length cd2]] V fun e w' => e = .returned (.bool true) ∧ Below V.heap.size V w') := fun V hv => gsameRatio_eq m _ _ _ _ us vs V (su.later hv) (sv.later hv) (su2.later hv) (sv2.later hv) lu lv
  clear sx sy su sv sx2 sy2 su2 sv2 lx ly lu lv
  obtain ⟨k0, k1, k2, k3, k4, k5⟩ := cells6 HX.out.1
  obtain ⟨m0, m1, m2, m3, m4, m5⟩ := cells6 HX.out.2.1
  go_enter Tryz.func24, Tryz.ntmps24
  go_wp2_with fail
  refine Calls.mono H1.out ?_
  rintro e w1 ⟨rfl, hb1⟩
  have HW1 := hid (bt HX.out.2.2 hb1)
  have HA1 := hid (HX.out.1.later hb1 HX.out.1.lt)
  have HA2 := hid (HX.out.2.1.later hb1 HX.out.2.1.lt)
  clear hb1 H1 k0 k1 k2 k3 k4 k5 m0 m1 m2 m3 m4 m5
  obtain ⟨k0, k1, k2, k3, k4, k5⟩ := cells6 HA1.out
  obtain ⟨m0, m1, m2, m3, m4, m5⟩ := cells6 HA2.out
  go_wp2_with fail
  refine Calls.mono (H2.out _ HW1.out) ?_
  rintro e w2 ⟨rfl, hb2⟩
  have HW2 := hid (bt HW1.out hb2)
  clear hb2 H2
  go_wp2_with fail
  go_ret
  exact ⟨rfl, HW2.out⟩
end Go.Proofs.YtmgjkdijnjeljaaGreatDoor

