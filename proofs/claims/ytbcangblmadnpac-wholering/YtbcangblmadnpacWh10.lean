/- Whole numbers: whole.Sub; slackwaterlaw02.add, mul, same: of numbers that may be. -/
import Derived.Test.YtbcangblmadnpacWh9
import Derived.Test.YtbcangblmadnpacWh7
namespace Go.Proofs.Ytbcangblmadnpac
open Go.RowKit
set_option linter.unusedVariables false

theorem wval_neg (m : Bool) (ys : List Int) (h : m = false ∨ 0 < ys.length) : wval (!m && decide (0 < ys.length)) ys = -(wval m ys) := by
  by_cases c : 0 < ys.length
  · cases m <;> simp [wval, c]
  · have e0 : val ys = 0 := trimmed_zero' (by omega)
    cases m <;> simp [wval, c, e0]

set_option maxHeartbeats 3200000 in
set_option maxRecDepth 100000 in
theorem wsub_any (n : Bool) (v : Value) (xs : List Int) (m0 : Bool) (u : Value) (ys : List Int) (w : World) (h : Sl w v xs) (g : Sl w u ys) (hx : wchk n xs = 0) (hy : wchk m0 ys = 0) :
    Calls Try.prog 8 #[.agg #[.bool n, v], .agg #[.bool m0, u]] w (WTold w 0 (wval n xs - wval m0 ys)) := by
  obtain ⟨lx, tx, _⟩ := wchk_ok hx
  obtain ⟨ly, ty, sy⟩ := wchk_ok hy
  obtain ⟨a, cap, rfl, hr⟩ := h
  obtain ⟨b, cap', rfl, gr⟩ := g
  have h : Sl w (.slice a xs.length cap) xs := ⟨a, cap, rfl, hr⟩
  have g : Sl w (.slice b ys.length cap') ys := ⟨b, cap', rfl, gr⟩
  clear hr gr
  have HB : Hid (Below w.heap.size w (((w.alloc (.cells #[.bool n, .slice a xs.length cap] 24)).alloc (.cells #[.bool m0, .slice b ys.length cap'] 24)).alloc (.cells #[.bool false, .slice none 0 0] 24))) := bt (bt (alloc_later _ _) (alloc_later _ _)) (alloc_later _ _)
  have HXB : Hid (Box (((w.alloc (.cells #[.bool n, .slice a xs.length cap] 24)).alloc (.cells #[.bool m0, .slice b ys.length cap'] 24)).alloc (.cells #[.bool false, .slice none 0 0] 24)) (w.heap.size + 1 + 1) 24 #[.bool false, .slice none 0 0]) := by
    have e := Box.made ((w.alloc (.cells #[.bool n, .slice a xs.length cap] 24)).alloc (.cells #[.bool m0, .slice b ys.length cap'] 24)) 24 #[.bool false, .slice none 0 0]
    simp at e
    exact e
  have HXR : Hid (w.heap.size ≤ w.heap.size + 1 + 1 ∧ w.heap.size + 1 + 1 < (((w.alloc (.cells #[.bool n, .slice a xs.length cap] 24)).alloc (.cells #[.bool m0, .slice b ys.length cap'] 24)).alloc (.cells #[.bool false, .slice none 0 0] 24)).heap.size) := ⟨by omega, HXB.out.lt⟩
  have HN : Hid (Box (((w.alloc (.cells #[.bool n, .slice a xs.length cap] 24)).alloc (.cells #[.bool m0, .slice b ys.length cap'] 24)).alloc (.cells #[.bool false, .slice none 0 0] 24)) w.heap.size 24 #[.bool n, .slice a xs.length cap]) := Box.later (Box.made w _ _) (bt (alloc_later _ _) (alloc_later _ _)) (by simp)
  have HM : Hid (Box (((w.alloc (.cells #[.bool n, .slice a xs.length cap] 24)).alloc (.cells #[.bool m0, .slice b ys.length cap'] 24)).alloc (.cells #[.bool false, .slice none 0 0] 24)) (w.heap.size + 1) 24 #[.bool m0, .slice b ys.length cap']) := by
    have e := Box.later (Box.made (w.alloc (.cells #[.bool n, .slice a xs.length cap] 24)) 24 #[.bool m0, .slice b ys.length cap']) (alloc_later ((w.alloc (.cells #[.bool n, .slice a xs.length cap] 24)).alloc (.cells #[.bool m0, .slice b ys.length cap'] 24)) (.cells #[.bool false, .slice none 0 0] 24)) (by simp)
    simp at e
    exact e
  have HCB := hid (wcheckBoth_any n _ xs m0 _ ys _ (h.later HB.out) (g.later HB.out) (by omega) (by omega))
  rw [wboth_good hx hy] at HCB
  have HSL := hid (And.intro (h.later HB.out) (g.later HB.out))
  obtain ⟨nb, hnb⟩ : ∃ nb, (!m0 && decide (0 < ys.length)) = nb := ⟨_, rfl⟩
  have HT : Hid (wval n xs + wval nb ys = wval n xs - wval m0 ys) := by show _ = _; rw [← hnb, wval_neg m0 ys sy]; omega
  clear h g hx hy
  go_enter Try.func8, Try.ntmps8
  go_wp2_with fail
  refine Calls.mono HCB.out ?_
  rintro e w1 ⟨rfl, hb1⟩
  obtain ⟨p0, p1, _, _⟩ := res_box HN.out hb1
  obtain ⟨q0, q1, _, _⟩ := res_box HM.out hb1
  have HB1 := hid hb1
  have HF := hid (fun ww (hb : Below w1.heap.size w1 ww) => Calls.mono (formed_any (!m0) b ys.length cap' ww) (R' := fun e w' => e = .returned (.agg #[.bool nb, .slice b ys.length cap']) ∧ w'.cell? ⟨w.heap.size, 0, none⟩ = some (.bool n) ∧ w'.cell? ⟨w.heap.size, 1, none⟩ = some (.slice a xs.length cap) ∧ Below w1.heap.size w1 w') (fun e w' h => by
    have hbb := bt hb h.2
    obtain ⟨z0, z1, _, _⟩ := res_box HN.out (bt HB1.out hbb)
    exact ⟨by rw [h.1, hnb], z0, z1, hbb⟩))
  have HS := hid (fun ww (hb : Below w1.heap.size w1 ww) => Calls.mono (wsum_any n _ xs nb _ ys ww ((HSL.out.1.later HB1.out).later hb) ((HSL.out.2.later HB1.out).later hb) lx ly tx ty) (R' := fun e w' => ∃ m3 a3 us k3 cc, e = .returned (.tuple #[.agg #[.bool m3, .slice a3 us.length k3], .int .i64 cc]) ∧ Hid (w'.ownsRow w1.heap.size 35 1 (.slice a3 us.length k3) us.length (us.map (Value.int .u32))) ∧ Hid (WTells 0 (wval n xs - wval m0 ys) m3 us cc) ∧ w'.cell? ⟨w.heap.size + 1 + 1, 0, none⟩ = some (.bool false) ∧ w'.cell? ⟨w.heap.size + 1 + 1, 1, none⟩ = some (.slice none 0 0) ∧ w'.frozen? ⟨w.heap.size + 1 + 1, 0, none⟩ = false ∧ w'.frozen? ⟨w.heap.size + 1 + 1, 1, none⟩ = false ∧ Below w1.heap.size w1 w') (fun e w' h => by
    obtain ⟨m3, v3, us, cc, rfl, o3, wt, hb3⟩ := h
    obtain ⟨a3, k3, hv3⟩ := own_slice' o3
    subst hv3
    rw [HT.out] at wt
    have hbb := bt hb hb3
    obtain ⟨z0, z1, z2, z3⟩ := res_box HXB.out (bt HB1.out hbb)
    exact ⟨m3, a3, us, k3, cc, rfl, owns_base o3 hb.size, wt, z0, z1, z2, z3, hbb⟩))
  have HBA := hid (bt HB.out hb1)
  clear hb1 hnb
  go_wp2_with fail
  go_region_with (first
    | (go_at_call 20; refine Calls.mono (HF.out _ (Below.drew (Below.refl _ _))) ?_; rintro e w2 ⟨rfl, x0, x1, hb2⟩)
    | (go_at_call 19; refine Calls.mono (HS.out _ hb2) ?_; rintro e w3 ⟨m3, a3, us, k3, cc, rfl, HO3, HWT, r0, r1, f0, f1, hb3⟩))
  all_goals
    go_wp2_with fail
    refine bodyPost_ret (v := .tuple #[.agg #[.bool m3, .slice a3 us.length k3], .int .i64 cc]) (by simp [results, Try.results8, go_sem, r0, r1]) rfl ?_
    exact ⟨m3, _, us, cc, rfl, owns_base (own_put2 HO3.out _ (fun g hg => by have h1 := (World.ownsRow.lt HO3.out g hg).1; have h2 := HXR.out; have h3 := HB1.out.size; omega) _ _) (by have := HBA.out.size; omega), HWT.out, below_put2 (bt HBA.out hb3) _ (by have := HXR.out; omega) _ _⟩

/-- A whole number that may be, and true. -/
def WOk (w : World) (t : Int) (x : Ending) (w' : World) : Prop := ∃ n v zs, x = .returned (.tuple #[.agg #[.bool n, v], .bool true]) ∧ w'.ownsRow w.heap.size 35 1 v zs.length (zs.map (Value.int .u32)) ∧ Wd zs ∧ wchk n zs = 0 ∧ wval n zs = t ∧ Below w.heap.size w w'

set_option maxHeartbeats 3200000 in
set_option maxRecDepth 100000 in
theorem lawAdd_any (n : Bool) (v : Value) (xs : List Int) (m0 : Bool) (u : Value) (ys : List Int) (w : World) (h : Sl w v xs) (g : Sl w u ys) (hx : wchk n xs = 0) (hy : wchk m0 ys = 0) (h1 : -wlim < wval n xs + wval m0 ys) (h2 : wval n xs + wval m0 ys < wlim) :
    Calls Try.prog 6 #[.agg #[.bool n, v], .agg #[.bool m0, u]] w (WOk w (wval n xs + wval m0 ys)) := by
  obtain ⟨lx, tx, _⟩ := wchk_ok hx
  obtain ⟨ly, ty, _⟩ := wchk_ok hy
  obtain ⟨a, cap, rfl, hr⟩ := h
  obtain ⟨b, cap', rfl, gr⟩ := g
  have h : Sl w (.slice a xs.length cap) xs := ⟨a, cap, rfl, hr⟩
  have g : Sl w (.slice b ys.length cap') ys := ⟨b, cap', rfl, gr⟩
  clear hr gr
  have HB : Hid (Below w.heap.size w (((w.alloc (.cells #[.bool n, .slice a xs.length cap] 24)).alloc (.cells #[.bool m0, .slice b ys.length cap'] 24)).alloc (.cells #[.bool false, .slice none 0 0] 24))) := bt (bt (alloc_later _ _) (alloc_later _ _)) (alloc_later _ _)
  have HXB : Hid (Box (((w.alloc (.cells #[.bool n, .slice a xs.length cap] 24)).alloc (.cells #[.bool m0, .slice b ys.length cap'] 24)).alloc (.cells #[.bool false, .slice none 0 0] 24)) (w.heap.size + 1 + 1) 24 #[.bool false, .slice none 0 0]) := by
    have e := Box.made ((w.alloc (.cells #[.bool n, .slice a xs.length cap] 24)).alloc (.cells #[.bool m0, .slice b ys.length cap'] 24)) 24 #[.bool false, .slice none 0 0]
    simp at e
    exact e
  have HXR : Hid (w.heap.size ≤ w.heap.size + 1 + 1 ∧ w.heap.size + 1 + 1 < (((w.alloc (.cells #[.bool n, .slice a xs.length cap] 24)).alloc (.cells #[.bool m0, .slice b ys.length cap'] 24)).alloc (.cells #[.bool false, .slice none 0 0] 24)).heap.size) := ⟨by omega, HXB.out.lt⟩
  have HN : Hid (Box (((w.alloc (.cells #[.bool n, .slice a xs.length cap] 24)).alloc (.cells #[.bool m0, .slice b ys.length cap'] 24)).alloc (.cells #[.bool false, .slice none 0 0] 24)) w.heap.size 24 #[.bool n, .slice a xs.length cap]) := Box.later (Box.made w _ _) (bt (alloc_later _ _) (alloc_later _ _)) (by simp)
  have HM : Hid (Box (((w.alloc (.cells #[.bool n, .slice a xs.length cap] 24)).alloc (.cells #[.bool m0, .slice b ys.length cap'] 24)).alloc (.cells #[.bool false, .slice none 0 0] 24)) (w.heap.size + 1) 24 #[.bool m0, .slice b ys.length cap']) := by
    have e := Box.later (Box.made (w.alloc (.cells #[.bool n, .slice a xs.length cap] 24)) 24 #[.bool m0, .slice b ys.length cap']) (alloc_later ((w.alloc (.cells #[.bool n, .slice a xs.length cap] 24)).alloc (.cells #[.bool m0, .slice b ys.length cap'] 24)) (.cells #[.bool false, .slice none 0 0] 24)) (by simp)
    simp at e
    exact e
  have HS := hid (wadd_any n _ xs m0 _ ys _ (h.later HB.out) (g.later HB.out) (by omega) (by omega))
  rw [wboth_good hx hy] at HS
  have HLT := hid (And.intro h1 h2)
  clear h g hx hy h1 h2
  go_enter Try.func6, Try.ntmps6
  go_wp2_with fail
  refine Calls.mono HS.out ?_
  rintro e w3 ⟨m3, v3, us, cc, rfl, o3, wt, hb3⟩
  obtain ⟨rfl, hv3⟩ := wt.good rfl HLT.out.1 HLT.out.2
  obtain ⟨a3, k3, hs3⟩ := own_slice' o3
  subst hs3
  obtain ⟨r0, r1, f0, f1⟩ := res_box HXB.out hb3
  have hsz : w.heap.size + 1 + 1 < w3.heap.size := by have := HXR.out; have := hb3.size; omega
  have HO3 := hid o3
  have HWT := hid wt
  have HV3 := hid hv3
  have HBC := hid (bt HB.out hb3)
  have bx : Box ((w3.setCell ⟨w.heap.size + 1 + 1, 0, none⟩ (.bool m3)).setCell ⟨w.heap.size + 1 + 1, 1, none⟩ (.slice a3 us.length k3)) (w.heap.size + 1 + 1) 24 #[.bool m3, .slice a3 us.length k3] := ((HXB.out.later hb3 HXB.out.lt).set 0 (.bool m3)).set 1 (.slice a3 us.length k3)
  have HBX2 := hid (bx.later (alloc_later _ (.cells #[.bool m3, .slice a3 us.length k3] 24)) bx.lt)
  clear bx
  have HGE : Hid (∀ g, (Value.slice a3 us.length k3).ownBlock = some g → g ≠ w.heap.size + 1 + 1) := fun g hg => by
    have h1 := (World.ownsRow.lt HO3.out g hg).1
    have h2 := HXR.out
    omega
  clear hb3 o3 wt hv3 HS
  go_wp2_with fail
  have g0 := HBX2.out.cell 0
  have g1 := HBX2.out.cell 1
  simp only [List.getElem?_toArray, List.getElem?_cons_zero, List.getElem?_cons_succ] at g0 g1
  refine bodyPost_ret (v := .tuple #[.agg #[.bool m3, .slice a3 us.length k3], .bool true]) (by simp [results, Try.results6, go_sem, g0, g1]) rfl ?_
  exact ⟨m3, _, us, rfl, owns_base (owns_later (own_put2 HO3.out _ HGE.out _ _) (alloc_later _ _)) (by have := HXR.out; omega), HWT.out.wd, wchk_good HWT.out.len HWT.out.trim HWT.out.sign, HV3.out, bt (below_put2 HBC.out _ (by have := HXR.out; omega) _ _) (alloc_later _ _)⟩

set_option maxHeartbeats 3200000 in
set_option maxRecDepth 100000 in
theorem lawMul_any (n : Bool) (v : Value) (xs : List Int) (m0 : Bool) (u : Value) (ys : List Int) (w : World) (h : Sl w v xs) (g : Sl w u ys) (hx : wchk n xs = 0) (hy : wchk m0 ys = 0) (h1 : -wlim < wval n xs * wval m0 ys) (h2 : wval n xs * wval m0 ys < wlim) :
    Calls Try.prog 9 #[.agg #[.bool n, v], .agg #[.bool m0, u]] w (WOk w (wval n xs * wval m0 ys)) := by
  obtain ⟨lx, tx, _⟩ := wchk_ok hx
  obtain ⟨ly, ty, _⟩ := wchk_ok hy
  obtain ⟨a, cap, rfl, hr⟩ := h
  obtain ⟨b, cap', rfl, gr⟩ := g
  have h : Sl w (.slice a xs.length cap) xs := ⟨a, cap, rfl, hr⟩
  have g : Sl w (.slice b ys.length cap') ys := ⟨b, cap', rfl, gr⟩
  clear hr gr
  have HB : Hid (Below w.heap.size w (((w.alloc (.cells #[.bool n, .slice a xs.length cap] 24)).alloc (.cells #[.bool m0, .slice b ys.length cap'] 24)).alloc (.cells #[.bool false, .slice none 0 0] 24))) := bt (bt (alloc_later _ _) (alloc_later _ _)) (alloc_later _ _)
  have HXB : Hid (Box (((w.alloc (.cells #[.bool n, .slice a xs.length cap] 24)).alloc (.cells #[.bool m0, .slice b ys.length cap'] 24)).alloc (.cells #[.bool false, .slice none 0 0] 24)) (w.heap.size + 1 + 1) 24 #[.bool false, .slice none 0 0]) := by
    have e := Box.made ((w.alloc (.cells #[.bool n, .slice a xs.length cap] 24)).alloc (.cells #[.bool m0, .slice b ys.length cap'] 24)) 24 #[.bool false, .slice none 0 0]
    simp at e
    exact e
  have HXR : Hid (w.heap.size ≤ w.heap.size + 1 + 1 ∧ w.heap.size + 1 + 1 < (((w.alloc (.cells #[.bool n, .slice a xs.length cap] 24)).alloc (.cells #[.bool m0, .slice b ys.length cap'] 24)).alloc (.cells #[.bool false, .slice none 0 0] 24)).heap.size) := ⟨by omega, HXB.out.lt⟩
  have HN : Hid (Box (((w.alloc (.cells #[.bool n, .slice a xs.length cap] 24)).alloc (.cells #[.bool m0, .slice b ys.length cap'] 24)).alloc (.cells #[.bool false, .slice none 0 0] 24)) w.heap.size 24 #[.bool n, .slice a xs.length cap]) := Box.later (Box.made w _ _) (bt (alloc_later _ _) (alloc_later _ _)) (by simp)
  have HM : Hid (Box (((w.alloc (.cells #[.bool n, .slice a xs.length cap] 24)).alloc (.cells #[.bool m0, .slice b ys.length cap'] 24)).alloc (.cells #[.bool false, .slice none 0 0] 24)) (w.heap.size + 1) 24 #[.bool m0, .slice b ys.length cap']) := by
    have e := Box.later (Box.made (w.alloc (.cells #[.bool n, .slice a xs.length cap] 24)) 24 #[.bool m0, .slice b ys.length cap']) (alloc_later ((w.alloc (.cells #[.bool n, .slice a xs.length cap] 24)).alloc (.cells #[.bool m0, .slice b ys.length cap'] 24)) (.cells #[.bool false, .slice none 0 0] 24)) (by simp)
    simp at e
    exact e
  have HS := hid (wmul_any n _ xs m0 _ ys _ (h.later HB.out) (g.later HB.out) (by omega) (by omega))
  rw [wboth_good hx hy] at HS
  have HLT := hid (And.intro h1 h2)
  clear h g hx hy h1 h2
  go_enter Try.func9, Try.ntmps9
  go_wp2_with fail
  refine Calls.mono HS.out ?_
  rintro e w3 ⟨m3, v3, us, cc, rfl, o3, wt, hb3⟩
  obtain ⟨rfl, hv3⟩ := wt.good rfl HLT.out.1 HLT.out.2
  obtain ⟨a3, k3, hs3⟩ := own_slice' o3
  subst hs3
  obtain ⟨r0, r1, f0, f1⟩ := res_box HXB.out hb3
  have hsz : w.heap.size + 1 + 1 < w3.heap.size := by have := HXR.out; have := hb3.size; omega
  have HO3 := hid o3
  have HWT := hid wt
  have HV3 := hid hv3
  have HBC := hid (bt HB.out hb3)
  have bx : Box ((w3.setCell ⟨w.heap.size + 1 + 1, 0, none⟩ (.bool m3)).setCell ⟨w.heap.size + 1 + 1, 1, none⟩ (.slice a3 us.length k3)) (w.heap.size + 1 + 1) 24 #[.bool m3, .slice a3 us.length k3] := ((HXB.out.later hb3 HXB.out.lt).set 0 (.bool m3)).set 1 (.slice a3 us.length k3)
  have HBX2 := hid (bx.later (alloc_later _ (.cells #[.bool m3, .slice a3 us.length k3] 24)) bx.lt)
  clear bx
  have HGE : Hid (∀ g, (Value.slice a3 us.length k3).ownBlock = some g → g ≠ w.heap.size + 1 + 1) := fun g hg => by
    have h1 := (World.ownsRow.lt HO3.out g hg).1
    have h2 := HXR.out
    omega
  clear hb3 o3 wt hv3 HS
  go_wp2_with fail
  have g0 := HBX2.out.cell 0
  have g1 := HBX2.out.cell 1
  simp only [List.getElem?_toArray, List.getElem?_cons_zero, List.getElem?_cons_succ] at g0 g1
  refine bodyPost_ret (v := .tuple #[.agg #[.bool m3, .slice a3 us.length k3], .bool true]) (by simp [results, Try.results9, go_sem, g0, g1]) rfl ?_
  exact ⟨m3, _, us, rfl, owns_base (owns_later (own_put2 HO3.out _ HGE.out _ _) (alloc_later _ _)) (by have := HXR.out; omega), HWT.out.wd, wchk_good HWT.out.len HWT.out.trim HWT.out.sign, HV3.out, bt (below_put2 HBC.out _ (by have := HXR.out; omega) _ _) (alloc_later _ _)⟩

theorem wsame' {n m : Bool} {xs ys : List Int} (wx : Wd xs) (wy : Wd ys) (tx : Trimmed xs) (ty : Trimmed ys) (nx : n = false ∨ 0 < xs.length) (ny : m = false ∨ 0 < ys.length) (h : wval n xs = wval m ys) : n = m ∧ xs = ys := by
  have x0 := val_nonneg wx
  have y0 := val_nonneg wy
  cases n <;> cases m
  · exact ⟨rfl, trimmed_eq wx wy tx ty h⟩
  · have e : val xs = -(val ys) := h
    have := val_pos' wy ty (ny.elim (fun e => by cases e) id)
    omega
  · have e : -(val xs) = val ys := h
    have := val_pos' wx tx (nx.elim (fun e => by cases e) id)
    omega
  · have e : -(val xs) = -(val ys) := h
    exact ⟨rfl, trimmed_eq wx wy tx ty (by omega)⟩

set_option maxHeartbeats 3200000 in
set_option maxRecDepth 100000 in
theorem lawSame_any (n : Bool) (v : Value) (xs : List Int) (m0 : Bool) (u : Value) (ys : List Int) (w : World) (h : Sl w v xs) (g : Sl w u ys) (hx : wchk n xs = 0) (hy : wchk m0 ys = 0) (hv : wval n xs = wval m0 ys) :
    Calls Try.prog 7 #[.agg #[.bool n, v], .agg #[.bool m0, u]] w fun e w' => e = .returned (.bool true) ∧ Below w.heap.size w w' := by
  obtain ⟨lx, tx, sx⟩ := wchk_ok hx
  obtain ⟨ly, ty, sy⟩ := wchk_ok hy
  obtain ⟨e1, e2⟩ := wsame' h.wd g.wd tx ty sx sy hv
  obtain ⟨a, cap, rfl, hr⟩ := h
  obtain ⟨b, cap', rfl, gr⟩ := g
  have h : Sl w (.slice a xs.length cap) xs := ⟨a, cap, rfl, hr⟩
  have g : Sl w (.slice b ys.length cap') ys := ⟨b, cap', rfl, gr⟩
  clear hr gr
  have HB : Hid (Below w.heap.size w ((w.alloc (.cells #[.bool n, .slice a xs.length cap] 24)).alloc (.cells #[.bool m0, .slice b ys.length cap'] 24))) := bt (alloc_later _ _) (alloc_later _ _)
  have HN : Hid (Box ((w.alloc (.cells #[.bool n, .slice a xs.length cap] 24)).alloc (.cells #[.bool m0, .slice b ys.length cap'] 24)) w.heap.size 24 #[.bool n, .slice a xs.length cap]) := Box.later (Box.made w _ _) (alloc_later _ _) (by simp)
  have HM : Hid (Box ((w.alloc (.cells #[.bool n, .slice a xs.length cap] 24)).alloc (.cells #[.bool m0, .slice b ys.length cap'] 24)) (w.heap.size + 1) 24 #[.bool m0, .slice b ys.length cap']) := by
    have e := Box.made (w.alloc (.cells #[.bool n, .slice a xs.length cap] 24)) 24 #[.bool m0, .slice b ys.length cap']
    simp at e
    exact e
  have HC := hid (wcompare_any n _ xs m0 _ ys _ (h.later HB.out) (g.later HB.out) hx hy)
  rw [cmpI_eq hv] at HC
  have HSM := hid (fun w1 hb => sameWhole_any n _ xs m0 _ ys w1 ((h.later HB.out).later hb) ((g.later HB.out).later hb) (by omega) (by omega))
  rw [decide_eq_true ⟨e1, e2⟩] at HSM
  clear h g hx hy hv e1 e2 lx ly tx ty sx sy
  go_enter Try.func7, Try.ntmps7
  go_wp2_with fail
  refine Calls.mono HC.out ?_
  rintro e w1 ⟨rfl, hb1⟩
  obtain ⟨p0, p1, _, _⟩ := res_box HN.out hb1
  obtain ⟨q0, q1, _, _⟩ := res_box HM.out hb1
  have HS1 := hid (HSM.out w1 hb1)
  have HBA := hid (bt HB.out hb1)
  clear hb1 HSM HC
  go_wp2_with fail
  refine Calls.mono HS1.out ?_
  rintro e w2 ⟨rfl, hb2⟩
  have hbB := bt HBA.out hb2
  clear hb2
  go_wp2_with fail
  go_ret
  exact ⟨rfl, hbB⟩
end Go.Proofs.Ytbcangblmadnpac
