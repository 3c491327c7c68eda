/- Whole numbers: whole.Sub; slackwaterlaw02.add, mul, same: of numbers that may be. -/
import Derived.Test.YtbcangblmadnpacDoorWh9
import Derived.Test.YtbcangblmadnpacDoorWh7
namespace Go.Proofs.YtbcangblmadnpacDoor
open Go.RowKit
set_option linter.unusedVariables false

theorem wval_neg (m : Bool) (ys : List Int) (h : m = false ∨ 0 < ys.length) : wval (!m && decide (0 < ys.length)) ys = -(wval m ys) := by
  by_cases c : 0 < ys.length
  · cases m <;> simp [wval, c]
  · have e0 : val ys = 0 := trimmed_zero' (by omega)
    cases m <;> simp [wval, c, e0]

/-- A whole number that may be, and true. -/
def WOk (w : World) (t : Int) (x : Ending) (w' : World) : Prop := ∃ n v zs, x = .returned (.tuple #[.agg #[.bool n, v], .bool true]) ∧ w'.ownsRow w.heap.size 40 1 v zs.length (zs.map (Value.int .u32)) ∧ Wd zs ∧ wchk n zs = 0 ∧ wval n zs = t ∧ Below w.heap.size w w'

theorem wsame' {n m : Bool} {xs ys : List Int} (wx : Wd xs) (wy : Wd ys) (tx : Trimmed xs) (ty : Trimmed ys) (nx : n = false ∨ 0 < xs.length) (ny : m = false ∨ 0 < ys.length) (h : wval n xs = wval m ys) : n = m ∧ xs = ys := by
  have x0 := val_nonneg wx
  have y0 := val_nonneg wy
  cases n <;> cases m
  · exact ⟨rfl, trimmed_eq wx wy tx ty h⟩
  · have e : val xs = -(val ys) := h
    have := val_pos' wy ty (ny.elim (fun e => by cases e) id)
    omega
  · have e : -(val xs) = val ys := h
    have := val_pos' wx tx (nx.elim (fun e => by cases e) id)
    omega
  · have e : -(val xs) = -(val ys) := h
    exact ⟨rfl, trimmed_eq wx wy tx ty (by omega)⟩

set_option maxHeartbeats 3200000 in
set_option maxRecDepth 100000 in
theorem lawSame_any (n : Bool) (v : Value) (xs : List Int) (m0 : Bool) (u : Value) (ys : List Int) (w : World) (h : Sl w v xs) (g : Sl w u ys) (hx : wchk n xs = 0) (hy : wchk m0 ys = 0) (hv : wval n xs = wval m0 ys) :
    Calls Tryd.prog 15 #[.agg #[.bool n, v], .agg #[.bool m0, u]] w fun e w' => e = .returned (.bool true) ∧ Below w.heap.size w w' := by
  obtain ⟨lx, tx, sx⟩ := wchk_ok hx
  obtain ⟨ly, ty, sy⟩ := wchk_ok hy
  obtain ⟨e1, e2⟩ := wsame' h.wd g.wd tx ty sx sy hv
  obtain ⟨a, cap, rfl, hr⟩ := h
  obtain ⟨b, cap', rfl, gr⟩ := g
  have h : Sl w (.slice a xs.length cap) xs := ⟨a, cap, rfl, hr⟩
  have g : Sl w (.slice b ys.length cap') ys := ⟨b, cap', rfl, gr⟩
  clear hr gr
  have HB : Hid (Below w.heap.size w ((w.alloc (.cells #[.bool n, .slice a xs.length cap] 24)).alloc (.cells #[.bool m0, .slice b ys.length cap'] 24))) := bt (alloc_later _ _) (alloc_later _ _)
  have HN : Hid (Box ((w.alloc (.cells #[.bool n, .slice a xs.length cap] 24)).alloc (.cells #[.bool m0, .slice b ys.length cap'] 24)) w.heap.size 24 #[.bool n, .slice a xs.length cap]) := Box.later (Box.made w _ _) (alloc_later _ _) (by simp)
  have HM : Hid (Box ((w.alloc (.cells #[.bool n, .slice a xs.length cap] 24)).alloc (.cells #[.bool m0, .slice b ys.length cap'] 24)) (w.heap.size + 1) 24 #[.bool m0, .slice b ys.length cap']) := by
    have e := Box.made (w.alloc (.cells #[.bool n, .slice a xs.length cap] 24)) 24 #[.bool m0, .slice b ys.length cap']
    simp at e
    exact e
  have HC := hid (wcompare_any n _ xs m0 _ ys _ (h.later HB.out) (g.later HB.out) hx hy)
  rw [cmpI_eq hv] at HC
  have HSM := hid (fun w1 hb => sameWhole_any n _ xs m0 _ ys w1 ((h.later HB.out).later hb) ((g.later HB.out).later hb) (by omega) (by omega))
  rw [decide_eq_true ⟨e1, e2⟩] at HSM
  clear h g hx hy hv e1 e2 lx ly tx ty sx sy
  go_enter Tryd.func15, Tryd.ntmps15
  go_wp2_with fail
  refine Calls.mono HC.out ?_
  rintro e w1 ⟨rfl, hb1⟩
  obtain ⟨p0, p1, _, _⟩ := res_box HN.out hb1
  obtain ⟨q0, q1, _, _⟩ := res_box HM.out hb1
  have HS1 := hid (HSM.out w1 hb1)
  have HBA := hid (bt HB.out hb1)
  clear hb1 HSM HC
  go_wp2_with fail
  refine Calls.mono HS1.out ?_
  rintro e w2 ⟨rfl, hb2⟩
  have hbB := bt HBA.out hb2
  clear hb2
  go_wp2_with fail
  go_ret
  exact ⟨rfl, hbB⟩
end Go.Proofs.YtbcangblmadnpacDoor
