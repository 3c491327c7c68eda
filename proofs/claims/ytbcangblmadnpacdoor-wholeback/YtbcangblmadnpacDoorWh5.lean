/- Whole numbers: whole.Add, product, Mul, Gcd, Sub: of every two numbers whose words can be read. -/
import Derived.Test.YtbcangblmadnpacDoorWh4
namespace Go.Proofs.YtbcangblmadnpacDoor
open Go.RowKit
set_option linter.unusedVariables false

set_option maxHeartbeats 3200000 in
set_option maxRecDepth 100000 in
theorem wadd_any (n : Bool) (v : Value) (xs : List Int) (m0 : Bool) (u : Value) (ys : List Int) (w : World) (h : Sl w v xs) (g : Sl w u ys) (hn : xs.length ≤ 281474976710656) (hm : ys.length ≤ 281474976710656) :
    Calls Tryd.prog 17 #[.agg #[.bool n, v], .agg #[.bool m0, u]] w (WTold w (wboth n xs m0 ys) (wval n xs + wval m0 ys)) := by
  have nx := val_nonneg h.wd
  have ny := val_nonneg g.wd
  obtain ⟨a, cap, rfl, hr⟩ := h
  obtain ⟨b, cap', rfl, gr⟩ := g
  have h : Sl w (.slice a xs.length cap) xs := ⟨a, cap, rfl, hr⟩
  have g : Sl w (.slice b ys.length cap') ys := ⟨b, cap', rfl, gr⟩
  clear hr gr
  have HB : Hid (Below w.heap.size w (((w.alloc (.cells #[.bool n, .slice a xs.length cap] 24)).alloc (.cells #[.bool m0, .slice b ys.length cap'] 24)).alloc (.cells #[.bool false, .slice none 0 0] 24))) := bt (bt (alloc_later _ _) (alloc_later _ _)) (alloc_later _ _)
  have HXB : Hid (Box (((w.alloc (.cells #[.bool n, .slice a xs.length cap] 24)).alloc (.cells #[.bool m0, .slice b ys.length cap'] 24)).alloc (.cells #[.bool false, .slice none 0 0] 24)) (w.heap.size + 1 + 1) 24 #[.bool false, .slice none 0 0]) := by
    have e := Box.made ((w.alloc (.cells #[.bool n, .slice a xs.length cap] 24)).alloc (.cells #[.bool m0, .slice b ys.length cap'] 24)) 24 #[.bool false, .slice none 0 0]
    simp at e
    exact e
  have HXR : Hid (w.heap.size ≤ w.heap.size + 1 + 1 ∧ w.heap.size + 1 + 1 < (((w.alloc (.cells #[.bool n, .slice a xs.length cap] 24)).alloc (.cells #[.bool m0, .slice b ys.length cap'] 24)).alloc (.cells #[.bool false, .slice none 0 0] 24)).heap.size) := ⟨by omega, HXB.out.lt⟩
  have HN : Hid (Box (((w.alloc (.cells #[.bool n, .slice a xs.length cap] 24)).alloc (.cells #[.bool m0, .slice b ys.length cap'] 24)).alloc (.cells #[.bool false, .slice none 0 0] 24)) w.heap.size 24 #[.bool n, .slice a xs.length cap]) := Box.later (Box.made w _ _) (bt (alloc_later _ _) (alloc_later _ _)) (by simp)
  have HM : Hid (Box (((w.alloc (.cells #[.bool n, .slice a xs.length cap] 24)).alloc (.cells #[.bool m0, .slice b ys.length cap'] 24)).alloc (.cells #[.bool false, .slice none 0 0] 24)) (w.heap.size + 1) 24 #[.bool m0, .slice b ys.length cap']) := by
    have e := Box.later (Box.made (w.alloc (.cells #[.bool n, .slice a xs.length cap] 24)) 24 #[.bool m0, .slice b ys.length cap']) (alloc_later ((w.alloc (.cells #[.bool n, .slice a xs.length cap] 24)).alloc (.cells #[.bool m0, .slice b ys.length cap'] 24)) (.cells #[.bool false, .slice none 0 0] 24)) (by simp)
    simp at e
    exact e
  have HCB := hid (wcheckBoth_any n _ xs m0 _ ys _ (h.later HB.out) (g.later HB.out) hn hm)
  have HSL := hid (And.intro (h.later HB.out) (g.later HB.out))
  clear h g
  by_cases hz : wboth n xs m0 ys = 0
  · obtain ⟨z1, z2⟩ := wboth_ok hz
    obtain ⟨lx, tx, _⟩ := wchk_ok z1
    obtain ⟨ly, ty, _⟩ := wchk_ok z2
    rw [hz] at HCB ⊢
    have HIN := hid (fun w1 (hb : Below _ (((w.alloc (.cells #[.bool n, .slice a xs.length cap] 24)).alloc (.cells #[.bool m0, .slice b ys.length cap'] 24)).alloc (.cells #[.bool false, .slice none 0 0] 24)) w1) => wsum_any n _ xs m0 _ ys w1 (HSL.out.1.later hb) (HSL.out.2.later hb) lx ly tx ty)
    clear hz z1 z2
    go_enter Tryd.func17, Tryd.ntmps17
    go_wp2_with fail
    refine Calls.mono HCB.out ?_
    rintro e w1 ⟨rfl, hb1⟩
    obtain ⟨p0, p1, _, _⟩ := res_box HN.out hb1
    obtain ⟨q0, q1, _, _⟩ := res_box HM.out hb1
    have HIN1 := hid (HIN.out w1 hb1)
    have HB1 := hid hb1
    have HBA := hid (bt HB.out hb1)
    clear hb1 HIN
    go_wp2_with fail
    refine Calls.mono HIN1.out ?_
    rintro e w3 ⟨m3, v3, us, cc, rfl, o3, wt, hb3⟩
    obtain ⟨a3, k3, hv3⟩ := own_slice' o3
    subst hv3
    obtain ⟨r0, r1, f0, f1⟩ := res_box HXB.out (bt HB1.out hb3)
    have HO3 := hid (owns_base o3 HB1.out.size)
    have HWT := hid wt
    have HBC := hid (bt HBA.out hb3)
    have HGE : Hid (∀ g, (Value.slice a3 us.length k3).ownBlock = some g → g ≠ w.heap.size + 1 + 1) := fun g hg => by
      have h1 := (World.ownsRow.lt HO3.out g hg).1
      have h2 := HXR.out
      omega
    clear hb3 o3 wt p0 p1 q0 q1
    go_wp2_with fail
    refine bodyPost_ret (v := .tuple #[.agg #[.bool m3, .slice a3 us.length k3], .int .i64 cc]) (by simp [results, Tryd.results17, go_sem, r0, r1]) rfl ?_
    exact ⟨m3, _, us, cc, rfl, owns_base (own_put2 HO3.out _ HGE.out _ _) (by have := HXR.out; omega), HWT.out, below_put2 HBC.out _ (by have := HXR.out; omega) _ _⟩
  · have hne : (wboth n xs m0 ys != 0) = true := by simp [hz]
    have HWT := hid (WTells.err (t := wval n xs + wval m0 ys) hz)
    obtain ⟨ec, he⟩ : ∃ ec, wboth n xs m0 ys = ec := ⟨_, rfl⟩
    rw [he] at HCB hne HWT hz ⊢
    clear he
    go_enter Tryd.func17, Tryd.ntmps17
    go_wp2_with fail
    refine Calls.mono HCB.out ?_
    rintro e w1 ⟨rfl, hb1⟩
    obtain ⟨r0, r1, f0, f1⟩ := res_box HXB.out hb1
    have HBA := hid (bt HB.out hb1)
    clear hb1
    go_wp2_with fail
    refine bodyPost_ret (v := .tuple #[.agg #[.bool false, .slice none 0 0], .int .i64 ec]) (by simp [results, Tryd.results17, go_sem, r0, r1]) rfl ?_
    exact ⟨false, _, [], ec, rfl, World.ownsRow_nil _ _ _ _, HWT.out, below_put2 HBA.out _ (by have := HXR.out; omega) _ _⟩

theorem mul_sign (n m : Bool) (x y : Int) : sg (n != m) (x * y) = (if n then -x else x) * (if m then -y else y) := by
  cases n <;> cases m <;> simp [sg, Int.neg_mul, Int.mul_neg]

end Go.Proofs.YtbcangblmadnpacDoor
