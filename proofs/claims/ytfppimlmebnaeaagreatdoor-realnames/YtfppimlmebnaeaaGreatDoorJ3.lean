/- My texts on the way to RealNames, one behind the other: contracts of the program and of the document's answers. -/
import Derived.Test.YtfppimlmebnaeaaGreatDoorJ1
import Derived.Test.YtfppimlmebnaeaaGreatDoorJ2
import Derived.Deep.RegionHeld3
import Derived.Shelf.Spec.TrailingZeros
import Derived.Deep.RegionLaw
/- Fractions: ratio.signedSum: numbers with signs added. -/
namespace Go.Proofs.YtfppimlmebnaeaaGreatDoor
open Go.RowKit
set_option linter.unusedVariables false

/-- A number with a sign (0 may have one), in new memory. -/
def WVal (w : World) (t : Int) (x : Ending) (w' : World) : Prop := ∃ n v zs, x = .returned (.agg #[.bool n, v]) ∧ w'.ownsRow w.heap.size 62 1 v zs.length (zs.map (Value.int .u32)) ∧ Wd zs ∧ Trimmed zs ∧ wval n zs = t ∧ Below w.heap.size w w'
/-- A number told in new memory. -/
def One (U w' : World) (v : Value) (zs : List Int) (t : Int) : Prop := w'.ownsRow U.heap.size 62 1 v zs.length (zs.map (Value.int .u32)) ∧ Wd zs ∧ Trimmed zs ∧ val zs = t
theorem One.later {U V W : World} {v : Value} {zs : List Int} {t : Int} (h : One U V v zs t) (hb : Below V.heap.size V W) : One U W v zs t := ⟨owns_later h.1 hb, h.2⟩
theorem One.base {U U' V : World} {v : Value} {zs : List Int} {t : Int} (h : One U V v zs t) (hb : U'.heap.size ≤ U.heap.size) : One U' V v zs t := ⟨owns_base h.1 hb, h.2⟩
theorem One.sl {U V : World} {v : Value} {zs : List Int} {t : Int} (h : One U V v zs t) : Sl V v zs := Sl.own h.1 h.2.1
/-- A callee's contract, at each world that may come up in a region: with what stays beside it. -/
theorem told1_at {U : World} {f : Nat} {args : Array Value} {t : Int} (S : World → Prop) (hS : ∀ w', Below U.heap.size U w' → S w') (ww : World) (hb : Below U.heap.size U ww) (C : Calls Tryz.prog f args ww (Told1 ww t)) :
    Calls Tryz.prog f args ww fun e w' => ∃ a2 zs c2, e = .returned (.slice a2 zs.length c2) ∧ Hid (One U w' (.slice a2 zs.length c2) zs t) ∧ S w' ∧ Below U.heap.size U w' ∧ Hid (Below ww.heap.size ww w') :=
  Calls.mono C fun e w' h => by
    obtain ⟨v, zs, rfl, o, h1, h2, h3, hb2⟩ := h
    obtain ⟨a2, c2, hs2⟩ := own_slice' o
    subst hs2
    exact ⟨a2, zs, c2, rfl, ⟨owns_base o hb.size, h1, h2, h3⟩, hS w' (bt hb hb2), bt hb hb2, hb2⟩

set_option maxHeartbeats 6400000 in
set_option maxRecDepth 100000 in
theorem rsigned_any (n : Bool) (v : Value) (xs : List Int) (m0 : Bool) (u : Value) (ys : List Int) (w : World) (h : Sl w v xs) (g : Sl w u ys) (lx : xs.length ≤ 8191) (ly : ys.length ≤ 8191) (tx : Trimmed xs) (ty : Trimmed ys) :
    Calls Tryz.prog 55 #[.agg #[.bool n, v], .agg #[.bool m0, u]] w (WVal w (wval n xs + wval m0 ys)) := by
  obtain ⟨a, cap, rfl, hr⟩ := h
  obtain ⟨b, cap', rfl, gr⟩ := g
  have h : Sl w (.slice a xs.length cap) xs := ⟨a, cap, rfl, hr⟩
  have g : Sl w (.slice b ys.length cap') ys := ⟨b, cap', rfl, gr⟩
  clear hr gr
  have HB : Hid (Below w.heap.size w (((w.alloc (.cells #[.bool n, .slice a xs.length cap] 79)).alloc (.cells #[.bool m0, .slice b ys.length cap'] 79)).alloc (.cells #[.bool false, .slice none 0 0] 79))) := bt (bt (alloc_later _ _) (alloc_later _ _)) (alloc_later _ _)
  have HXB : Hid (Box (((w.alloc (.cells #[.bool n, .slice a xs.length cap] 79)).alloc (.cells #[.bool m0, .slice b ys.length cap'] 79)).alloc (.cells #[.bool false, .slice none 0 0] 79)) (w.heap.size + 1 + 1) 79 #[.bool false, .slice none 0 0]) := by
    have e := Box.made ((w.alloc (.cells #[.bool n, .slice a xs.length cap] 79)).alloc (.cells #[.bool m0, .slice b ys.length cap'] 79)) 79 #[.bool false, .slice none 0 0]
    simp at e
    exact e
  have HXR : Hid (w.heap.size ≤ w.heap.size + 1 + 1 ∧ w.heap.size + 1 + 1 < (((w.alloc (.cells #[.bool n, .slice a xs.length cap] 79)).alloc (.cells #[.bool m0, .slice b ys.length cap'] 79)).alloc (.cells #[.bool false, .slice none 0 0] 79)).heap.size) := ⟨by omega, HXB.out.lt⟩
  have HN : Hid (Box (((w.alloc (.cells #[.bool n, .slice a xs.length cap] 79)).alloc (.cells #[.bool m0, .slice b ys.length cap'] 79)).alloc (.cells #[.bool false, .slice none 0 0] 79)) w.heap.size 79 #[.bool n, .slice a xs.length cap]) := Box.later (Box.made w _ _) (bt (alloc_later _ _) (alloc_later _ _)) (by simp)
  have HM : Hid (Box (((w.alloc (.cells #[.bool n, .slice a xs.length cap] 79)).alloc (.cells #[.bool m0, .slice b ys.length cap'] 79)).alloc (.cells #[.bool false, .slice none 0 0] 79)) (w.heap.size + 1) 79 #[.bool m0, .slice b ys.length cap']) := by
    have e := Box.later (Box.made (w.alloc (.cells #[.bool n, .slice a xs.length cap] 79)) 79 #[.bool m0, .slice b ys.length cap']) (alloc_later ((w.alloc (.cells #[.bool n, .slice a xs.length cap] 79)).alloc (.cells #[.bool m0, .slice b ys.length cap'] 79)) (.cells #[.bool false, .slice none 0 0] 79)) (by simp)
    simp at e
    exact e
  have HSL := hid (And.intro (h.later HB.out) (g.later HB.out))
  have HCM := hid (compare_sl _ _ xs ys _ HSL.out.1 HSL.out.2 (by omega) (by omega))
  clear h g
  cases n with
  | false =>
    cases m0 with
    | false =>
      clear HCM
      have HBU := hid HB.out
      have HUS : Hid (w.heap.size + 1 + 1 < (((w.alloc (.cells #[.bool false, .slice a xs.length cap] 79)).alloc (.cells #[.bool false, .slice b ys.length cap'] 79)).alloc (.cells #[.bool false, .slice none 0 0] 79)).heap.size) := HXR.out.2
      go_enter Tryz.func55, Tryz.ntmps55
      have HK : Hid (∀ w', Below (((w.alloc (.cells #[.bool false, .slice a xs.length cap] 79)).alloc (.cells #[.bool false, .slice b ys.length cap'] 79)).alloc (.cells #[.bool false, .slice none 0 0] 79)).heap.size (((w.alloc (.cells #[.bool false, .slice a xs.length cap] 79)).alloc (.cells #[.bool false, .slice b ys.length cap'] 79)).alloc (.cells #[.bool false, .slice none 0 0] 79)) w' → (fun w' : World => ((fun w' : World => w'.cell? ⟨w.heap.size, 0, none⟩ = some (.bool false) ∧ w'.cell? ⟨w.heap.size, 1, none⟩ = some (.slice a xs.length cap) ∧ w'.cell? ⟨w.heap.size + 1, 0, none⟩ = some (.bool false) ∧ w'.cell? ⟨w.heap.size + 1, 1, none⟩ = some (.slice b ys.length cap'))) w' ∧ w'.cell? ⟨w.heap.size + 1 + 1, 0, none⟩ = some (.bool false) ∧ w'.cell? ⟨w.heap.size + 1 + 1, 1, none⟩ = some (.slice none 0 0) ∧ w'.frozen? ⟨w.heap.size + 1 + 1, 0, none⟩ = false ∧ w'.frozen? ⟨w.heap.size + 1 + 1, 1, none⟩ = false) w') := fun w' hb => by
        have hx : Below (((w.alloc (.cells #[.bool false, .slice a xs.length cap] 79)).alloc (.cells #[.bool false, .slice b ys.length cap'] 79)).alloc (.cells #[.bool false, .slice none 0 0] 79)).heap.size _ w' := hb
        obtain ⟨r0, r1, f0, f1⟩ := res_box HXB.out hx
        obtain ⟨p0, p1, _, _⟩ := res_box HN.out hx
        obtain ⟨q0, q1, _, _⟩ := res_box HM.out hx
        exact ⟨⟨p0, p1, q0, q1⟩, r0, r1, f0, f1⟩
      have HF := hid (fun ww (hb : Below (((w.alloc (.cells #[.bool false, .slice a xs.length cap] 79)).alloc (.cells #[.bool false, .slice b ys.length cap'] 79)).alloc (.cells #[.bool false, .slice none 0 0] 79)).heap.size (((w.alloc (.cells #[.bool false, .slice a xs.length cap] 79)).alloc (.cells #[.bool false, .slice b ys.length cap'] 79)).alloc (.cells #[.bool false, .slice none 0 0] 79)) ww) => told1_at _ HK.out ww hb (rsum_any _ _ xs ys ww (HSL.out.1.later hb) (HSL.out.2.later hb) lx ly tx ty))
      have hs0 := (HK.out _ (Below.drew (Below.refl _ (((w.alloc (.cells #[.bool false, .slice a xs.length cap] 79)).alloc (.cells #[.bool false, .slice b ys.length cap'] 79)).alloc (.cells #[.bool false, .slice none 0 0] 79))))).1
      have hq0 : w.heap.size + 1 + 1 ≠ w.heap.size := by omega
      go_wp2_with fail
      go_region_held3 (fun w' : World => w'.cell? ⟨w.heap.size, 0, none⟩ = some (.bool false) ∧ w'.cell? ⟨w.heap.size, 1, none⟩ = some (.slice a xs.length cap) ∧ w'.cell? ⟨w.heap.size + 1, 0, none⟩ = some (.bool false) ∧ w'.cell? ⟨w.heap.size + 1, 1, none⟩ = some (.slice b ys.length cap')) (first | exact hs1 | exact hs0 | (simp [hs1, World.cell?_setCell_far, hq0]))
        (first | (go_at_call 71; refine Calls.mono (HF.out _ (Below.drew (Below.refl _ _))) ?_; rintro e w2 ⟨a2, zs, c2, rfl, HE, ⟨hs1, r0, r1, f0, f1⟩, hb2, _⟩))
      all_goals
        go_wp2_with fail
        refine bodyPost_ret (v := .agg #[.bool false, .slice a2 zs.length c2]) (by simp [results, Tryz.results55, go_sem, r0, r1]) rfl ?_
        refine ⟨false, _, zs, rfl, owns_base (own_put2 HE.out.1 _ (fun g hg => ?_) _ _) (by have := HXR.out; have := HBU.out.size; omega), HE.out.2.1, HE.out.2.2.1, ?_, below_put2 (bt HBU.out hb2) _ (by have := HXR.out; omega) _ _⟩
        · have h1 := (World.ownsRow.lt HE.out.1 g hg).1
          have h2 := HXR.out
          have h3 := HUS.out
          omega
        · have e := HE.out.2.2.2
          show _ = _
          simp [wval] at e ⊢
          omega
    | true =>
      by_cases hlt : val xs < val ys
      · rw [cmpI_lt hlt] at HCM
        go_enter Tryz.func55, Tryz.ntmps55
        go_wp2_with fail
        refine Calls.mono HCM.out ?_
        rintro e w1 ⟨rfl, hb1⟩
        obtain ⟨p0, p1, _, _⟩ := res_box HN.out hb1
        obtain ⟨q0, q1, _, _⟩ := res_box HM.out hb1
        have HB1 := hid hb1
        have HBU := hid (bt HB.out hb1)
        have HUS : Hid (w.heap.size + 1 + 1 < w1.heap.size) := by
          show _ < _
          have h1 := HXR.out.2
          have h2 := HB1.out.size
          omega
        clear hb1 HCM
        have HK : Hid (∀ w', Below w1.heap.size w1 w' → (fun w' : World => ((fun w' : World => w'.cell? ⟨w.heap.size, 0, none⟩ = some (.bool false) ∧ w'.cell? ⟨w.heap.size, 1, none⟩ = some (.slice a xs.length cap) ∧ w'.cell? ⟨w.heap.size + 1, 0, none⟩ = some (.bool true) ∧ w'.cell? ⟨w.heap.size + 1, 1, none⟩ = some (.slice b ys.length cap'))) w' ∧ w'.cell? ⟨w.heap.size + 1 + 1, 0, none⟩ = some (.bool false) ∧ w'.cell? ⟨w.heap.size + 1 + 1, 1, none⟩ = some (.slice none 0 0) ∧ w'.frozen? ⟨w.heap.size + 1 + 1, 0, none⟩ = false ∧ w'.frozen? ⟨w.heap.size + 1 + 1, 1, none⟩ = false) w') := fun w' hb => by
          have hx : Below (((w.alloc (.cells #[.bool false, .slice a xs.length cap] 79)).alloc (.cells #[.bool true, .slice b ys.length cap'] 79)).alloc (.cells #[.bool false, .slice none 0 0] 79)).heap.size _ w' := bt HB1.out hb
          obtain ⟨r0, r1, f0, f1⟩ := res_box HXB.out hx
          obtain ⟨p0, p1, _, _⟩ := res_box HN.out hx
          obtain ⟨q0, q1, _, _⟩ := res_box HM.out hx
          exact ⟨⟨p0, p1, q0, q1⟩, r0, r1, f0, f1⟩
        have HF := hid (fun ww (hb : Below w1.heap.size w1 ww) => told1_at _ HK.out ww hb (rdiff_any _ _ ys xs ww ((HSL.out.2.later HB1.out).later hb) ((HSL.out.1.later HB1.out).later hb) (by omega) (by omega) ty tx (by omega)))
        have hs0 := (HK.out _ (Below.drew (Below.refl _ w1))).1
        have hq0 : w.heap.size + 1 + 1 ≠ w.heap.size := by omega
        go_wp2_with fail
        go_region_held3 (fun w' : World => w'.cell? ⟨w.heap.size, 0, none⟩ = some (.bool false) ∧ w'.cell? ⟨w.heap.size, 1, none⟩ = some (.slice a xs.length cap) ∧ w'.cell? ⟨w.heap.size + 1, 0, none⟩ = some (.bool true) ∧ w'.cell? ⟨w.heap.size + 1, 1, none⟩ = some (.slice b ys.length cap')) (first | exact hs1 | exact hs0 | (simp [hs1, World.cell?_setCell_far, hq0]))
          (first | (go_at_call 73; refine Calls.mono (HF.out _ (Below.drew (Below.refl _ _))) ?_; rintro e w2 ⟨a2, zs, c2, rfl, HE, ⟨hs1, r0, r1, f0, f1⟩, hb2, _⟩))
        all_goals
          go_wp2_with fail
          refine bodyPost_ret (v := .agg #[.bool true, .slice a2 zs.length c2]) (by simp [results, Tryz.results55, go_sem, r0, r1]) rfl ?_
          refine ⟨true, _, zs, rfl, owns_base (own_put2 HE.out.1 _ (fun g hg => ?_) _ _) (by have := HXR.out; have := HBU.out.size; omega), HE.out.2.1, HE.out.2.2.1, ?_, below_put2 (bt HBU.out hb2) _ (by have := HXR.out; omega) _ _⟩
          · have h1 := (World.ownsRow.lt HE.out.1 g hg).1
            have h2 := HXR.out
            have h3 := HUS.out
            omega
          · have e := HE.out.2.2.2
            show _ = _
            simp [wval] at e ⊢
            omega
      · have hc0 : (0 : Int) ≤ cmpI (val xs) (val ys) := by
          by_cases c : val ys < val xs
          · rw [cmpI_gt c]; omega
          · rw [cmpI_eq (by omega)]; omega
        obtain ⟨cv, hcv⟩ : ∃ cv, cmpI (val xs) (val ys) = cv := ⟨_, rfl⟩
        rw [hcv] at HCM hc0
        have hc1 : ¬ cv < 0 := by omega
        clear hcv hc0
        go_enter Tryz.func55, Tryz.ntmps55
        go_wp2_with fail
        refine Calls.mono HCM.out ?_
        rintro e w1 ⟨rfl, hb1⟩
        obtain ⟨p0, p1, _, _⟩ := res_box HN.out hb1
        obtain ⟨q0, q1, _, _⟩ := res_box HM.out hb1
        have HB1 := hid hb1
        have HBU := hid (bt HB.out hb1)
        have HUS : Hid (w.heap.size + 1 + 1 < w1.heap.size) := by
          show _ < _
          have h1 := HXR.out.2
          have h2 := HB1.out.size
          omega
        clear hb1 HCM
        have HK : Hid (∀ w', Below w1.heap.size w1 w' → (fun w' : World => ((fun w' : World => w'.cell? ⟨w.heap.size, 0, none⟩ = some (.bool false) ∧ w'.cell? ⟨w.heap.size, 1, none⟩ = some (.slice a xs.length cap) ∧ w'.cell? ⟨w.heap.size + 1, 0, none⟩ = some (.bool true) ∧ w'.cell? ⟨w.heap.size + 1, 1, none⟩ = some (.slice b ys.length cap'))) w' ∧ w'.cell? ⟨w.heap.size + 1 + 1, 0, none⟩ = some (.bool false) ∧ w'.cell? ⟨w.heap.size + 1 + 1, 1, none⟩ = some (.slice none 0 0) ∧ w'.frozen? ⟨w.heap.size + 1 + 1, 0, none⟩ = false ∧ w'.frozen? ⟨w.heap.size + 1 + 1, 1, none⟩ = false) w') := fun w' hb => by
          have hx : Below (((w.alloc (.cells #[.bool false, .slice a xs.length cap] 79)).alloc (.cells #[.bool true, .slice b ys.length cap'] 79)).alloc (.cells #[.bool false, .slice none 0 0] 79)).heap.size _ w' := bt HB1.out hb
          obtain ⟨r0, r1, f0, f1⟩ := res_box HXB.out hx
          obtain ⟨p0, p1, _, _⟩ := res_box HN.out hx
          obtain ⟨q0, q1, _, _⟩ := res_box HM.out hx
          exact ⟨⟨p0, p1, q0, q1⟩, r0, r1, f0, f1⟩
        have HF := hid (fun ww (hb : Below w1.heap.size w1 ww) => told1_at _ HK.out ww hb (rdiff_any _ _ xs ys ww ((HSL.out.1.later HB1.out).later hb) ((HSL.out.2.later HB1.out).later hb) (by omega) (by omega) tx ty (by omega)))
        have hs0 := (HK.out _ (Below.drew (Below.refl _ w1))).1
        have hq0 : w.heap.size + 1 + 1 ≠ w.heap.size := by omega
        go_wp2_with fail
        go_region_held3 (fun w' : World => w'.cell? ⟨w.heap.size, 0, none⟩ = some (.bool false) ∧ w'.cell? ⟨w.heap.size, 1, none⟩ = some (.slice a xs.length cap) ∧ w'.cell? ⟨w.heap.size + 1, 0, none⟩ = some (.bool true) ∧ w'.cell? ⟨w.heap.size + 1, 1, none⟩ = some (.slice b ys.length cap')) (first | exact hs1 | exact hs0 | (simp [hs1, World.cell?_setCell_far, hq0]))
          (first | (go_at_call 73; refine Calls.mono (HF.out _ (Below.drew (Below.refl _ _))) ?_; rintro e w2 ⟨a2, zs, c2, rfl, HE, ⟨hs1, r0, r1, f0, f1⟩, hb2, _⟩))
        all_goals
          go_wp2_with fail
          refine bodyPost_ret (v := .agg #[.bool false, .slice a2 zs.length c2]) (by simp [results, Tryz.results55, go_sem, r0, r1]) rfl ?_
          refine ⟨false, _, zs, rfl, owns_base (own_put2 HE.out.1 _ (fun g hg => ?_) _ _) (by have := HXR.out; have := HBU.out.size; omega), HE.out.2.1, HE.out.2.2.1, ?_, below_put2 (bt HBU.out hb2) _ (by have := HXR.out; omega) _ _⟩
          · have h1 := (World.ownsRow.lt HE.out.1 g hg).1
            have h2 := HXR.out
            have h3 := HUS.out
            omega
          · have e := HE.out.2.2.2
            show _ = _
            simp [wval] at e ⊢
            omega
  | true =>
    cases m0 with
    | false =>
      by_cases hlt : val xs < val ys
      · rw [cmpI_lt hlt] at HCM
        go_enter Tryz.func55, Tryz.ntmps55
        go_wp2_with fail
        refine Calls.mono HCM.out ?_
        rintro e w1 ⟨rfl, hb1⟩
        obtain ⟨p0, p1, _, _⟩ := res_box HN.out hb1
        obtain ⟨q0, q1, _, _⟩ := res_box HM.out hb1
        have HB1 := hid hb1
        have HBU := hid (bt HB.out hb1)
        have HUS : Hid (w.heap.size + 1 + 1 < w1.heap.size) := by
          show _ < _
          have h1 := HXR.out.2
          have h2 := HB1.out.size
          omega
        clear hb1 HCM
        have HK : Hid (∀ w', Below w1.heap.size w1 w' → (fun w' : World => ((fun w' : World => w'.cell? ⟨w.heap.size, 0, none⟩ = some (.bool true) ∧ w'.cell? ⟨w.heap.size, 1, none⟩ = some (.slice a xs.length cap) ∧ w'.cell? ⟨w.heap.size + 1, 0, none⟩ = some (.bool false) ∧ w'.cell? ⟨w.heap.size + 1, 1, none⟩ = some (.slice b ys.length cap'))) w' ∧ w'.cell? ⟨w.heap.size + 1 + 1, 0, none⟩ = some (.bool false) ∧ w'.cell? ⟨w.heap.size + 1 + 1, 1, none⟩ = some (.slice none 0 0) ∧ w'.frozen? ⟨w.heap.size + 1 + 1, 0, none⟩ = false ∧ w'.frozen? ⟨w.heap.size + 1 + 1, 1, none⟩ = false) w') := fun w' hb => by
          have hx : Below (((w.alloc (.cells #[.bool true, .slice a xs.length cap] 79)).alloc (.cells #[.bool false, .slice b ys.length cap'] 79)).alloc (.cells #[.bool false, .slice none 0 0] 79)).heap.size _ w' := bt HB1.out hb
          obtain ⟨r0, r1, f0, f1⟩ := res_box HXB.out hx
          obtain ⟨p0, p1, _, _⟩ := res_box HN.out hx
          obtain ⟨q0, q1, _, _⟩ := res_box HM.out hx
          exact ⟨⟨p0, p1, q0, q1⟩, r0, r1, f0, f1⟩
        have HF := hid (fun ww (hb : Below w1.heap.size w1 ww) => told1_at _ HK.out ww hb (rdiff_any _ _ ys xs ww ((HSL.out.2.later HB1.out).later hb) ((HSL.out.1.later HB1.out).later hb) (by omega) (by omega) ty tx (by omega)))
        have hs0 := (HK.out _ (Below.drew (Below.refl _ w1))).1
        have hq0 : w.heap.size + 1 + 1 ≠ w.heap.size := by omega
        go_wp2_with fail
        go_region_held3 (fun w' : World => w'.cell? ⟨w.heap.size, 0, none⟩ = some (.bool true) ∧ w'.cell? ⟨w.heap.size, 1, none⟩ = some (.slice a xs.length cap) ∧ w'.cell? ⟨w.heap.size + 1, 0, none⟩ = some (.bool false) ∧ w'.cell? ⟨w.heap.size + 1, 1, none⟩ = some (.slice b ys.length cap')) (first | exact hs1 | exact hs0 | (simp [hs1, World.cell?_setCell_far, hq0]))
          (first | (go_at_call 73; refine Calls.mono (HF.out _ (Below.drew (Below.refl _ _))) ?_; rintro e w2 ⟨a2, zs, c2, rfl, HE, ⟨hs1, r0, r1, f0, f1⟩, hb2, _⟩))
        all_goals
          go_wp2_with fail
          refine bodyPost_ret (v := .agg #[.bool false, .slice a2 zs.length c2]) (by simp [results, Tryz.results55, go_sem, r0, r1]) rfl ?_
          refine ⟨false, _, zs, rfl, owns_base (own_put2 HE.out.1 _ (fun g hg => ?_) _ _) (by have := HXR.out; have := HBU.out.size; omega), HE.out.2.1, HE.out.2.2.1, ?_, below_put2 (bt HBU.out hb2) _ (by have := HXR.out; omega) _ _⟩
          · have h1 := (World.ownsRow.lt HE.out.1 g hg).1
            have h2 := HXR.out
            have h3 := HUS.out
            omega
          · have e := HE.out.2.2.2
            show _ = _
            simp [wval] at e ⊢
            omega
      · have hc0 : (0 : Int) ≤ cmpI (val xs) (val ys) := by
          by_cases c : val ys < val xs
          · rw [cmpI_gt c]; omega
          · rw [cmpI_eq (by omega)]; omega
        obtain ⟨cv, hcv⟩ : ∃ cv, cmpI (val xs) (val ys) = cv := ⟨_, rfl⟩
        rw [hcv] at HCM hc0
        have hc1 : ¬ cv < 0 := by omega
        clear hcv hc0
        go_enter Tryz.func55, Tryz.ntmps55
        go_wp2_with fail
        refine Calls.mono HCM.out ?_
        rintro e w1 ⟨rfl, hb1⟩
        obtain ⟨p0, p1, _, _⟩ := res_box HN.out hb1
        obtain ⟨q0, q1, _, _⟩ := res_box HM.out hb1
        have HB1 := hid hb1
        have HBU := hid (bt HB.out hb1)
        have HUS : Hid (w.heap.size + 1 + 1 < w1.heap.size) := by
          show _ < _
          have h1 := HXR.out.2
          have h2 := HB1.out.size
          omega
        clear hb1 HCM
        have HK : Hid (∀ w', Below w1.heap.size w1 w' → (fun w' : World => ((fun w' : World => w'.cell? ⟨w.heap.size, 0, none⟩ = some (.bool true) ∧ w'.cell? ⟨w.heap.size, 1, none⟩ = some (.slice a xs.length cap) ∧ w'.cell? ⟨w.heap.size + 1, 0, none⟩ = some (.bool false) ∧ w'.cell? ⟨w.heap.size + 1, 1, none⟩ = some (.slice b ys.length cap'))) w' ∧ w'.cell? ⟨w.heap.size + 1 + 1, 0, none⟩ = some (.bool false) ∧ w'.cell? ⟨w.heap.size + 1 + 1, 1, none⟩ = some (.slice none 0 0) ∧ w'.frozen? ⟨w.heap.size + 1 + 1, 0, none⟩ = false ∧ w'.frozen? ⟨w.heap.size + 1 + 1, 1, none⟩ = false) w') := fun w' hb => by
          have hx : Below (((w.alloc (.cells #[.bool true, .slice a xs.length cap] 79)).alloc (.cells #[.bool false, .slice b ys.length cap'] 79)).alloc (.cells #[.bool false, .slice none 0 0] 79)).heap.size _ w' := bt HB1.out hb
          obtain ⟨r0, r1, f0, f1⟩ := res_box HXB.out hx
          obtain ⟨p0, p1, _, _⟩ := res_box HN.out hx
          obtain ⟨q0, q1, _, _⟩ := res_box HM.out hx
          exact ⟨⟨p0, p1, q0, q1⟩, r0, r1, f0, f1⟩
        have HF := hid (fun ww (hb : Below w1.heap.size w1 ww) => told1_at _ HK.out ww hb (rdiff_any _ _ xs ys ww ((HSL.out.1.later HB1.out).later hb) ((HSL.out.2.later HB1.out).later hb) (by omega) (by omega) tx ty (by omega)))
        have hs0 := (HK.out _ (Below.drew (Below.refl _ w1))).1
        have hq0 : w.heap.size + 1 + 1 ≠ w.heap.size := by omega
        go_wp2_with fail
        go_region_held3 (fun w' : World => w'.cell? ⟨w.heap.size, 0, none⟩ = some (.bool true) ∧ w'.cell? ⟨w.heap.size, 1, none⟩ = some (.slice a xs.length cap) ∧ w'.cell? ⟨w.heap.size + 1, 0, none⟩ = some (.bool false) ∧ w'.cell? ⟨w.heap.size + 1, 1, none⟩ = some (.slice b ys.length cap')) (first | exact hs1 | exact hs0 | (simp [hs1, World.cell?_setCell_far, hq0]))
          (first | (go_at_call 73; refine Calls.mono (HF.out _ (Below.drew (Below.refl _ _))) ?_; rintro e w2 ⟨a2, zs, c2, rfl, HE, ⟨hs1, r0, r1, f0, f1⟩, hb2, _⟩))
        all_goals
          go_wp2_with fail
          refine bodyPost_ret (v := .agg #[.bool true, .slice a2 zs.length c2]) (by simp [results, Tryz.results55, go_sem, r0, r1]) rfl ?_
          refine ⟨true, _, zs, rfl, owns_base (own_put2 HE.out.1 _ (fun g hg => ?_) _ _) (by have := HXR.out; have := HBU.out.size; omega), HE.out.2.1, HE.out.2.2.1, ?_, below_put2 (bt HBU.out hb2) _ (by have := HXR.out; omega) _ _⟩
          · have h1 := (World.ownsRow.lt HE.out.1 g hg).1
            have h2 := HXR.out
            have h3 := HUS.out
            omega
          · have e := HE.out.2.2.2
            show _ = _
            simp [wval] at e ⊢
            omega
    | true =>
      clear HCM
      have HBU := hid HB.out
      have HUS : Hid (w.heap.size + 1 + 1 < (((w.alloc (.cells #[.bool true, .slice a xs.length cap] 79)).alloc (.cells #[.bool true, .slice b ys.length cap'] 79)).alloc (.cells #[.bool false, .slice none 0 0] 79)).heap.size) := HXR.out.2
      go_enter Tryz.func55, Tryz.ntmps55
      have HK : Hid (∀ w', Below (((w.alloc (.cells #[.bool true, .slice a xs.length cap] 79)).alloc (.cells #[.bool true, .slice b ys.length cap'] 79)).alloc (.cells #[.bool false, .slice none 0 0] 79)).heap.size (((w.alloc (.cells #[.bool true, .slice a xs.length cap] 79)).alloc (.cells #[.bool true, .slice b ys.length cap'] 79)).alloc (.cells #[.bool false, .slice none 0 0] 79)) w' → (fun w' : World => ((fun w' : World => w'.cell? ⟨w.heap.size, 0, none⟩ = some (.bool true) ∧ w'.cell? ⟨w.heap.size, 1, none⟩ = some (.slice a xs.length cap) ∧ w'.cell? ⟨w.heap.size + 1, 0, none⟩ = some (.bool true) ∧ w'.cell? ⟨w.heap.size + 1, 1, none⟩ = some (.slice b ys.length cap'))) w' ∧ w'.cell? ⟨w.heap.size + 1 + 1, 0, none⟩ = some (.bool false) ∧ w'.cell? ⟨w.heap.size + 1 + 1, 1, none⟩ = some (.slice none 0 0) ∧ w'.frozen? ⟨w.heap.size + 1 + 1, 0, none⟩ = false ∧ w'.frozen? ⟨w.heap.size + 1 + 1, 1, none⟩ = false) w') := fun w' hb => by
        have hx : Below (((w.alloc (.cells #[.bool true, .slice a xs.length cap] 79)).alloc (.cells #[.bool true, .slice b ys.length cap'] 79)).alloc (.cells #[.bool false, .slice none 0 0] 79)).heap.size _ w' := hb
        obtain ⟨r0, r1, f0, f1⟩ := res_box HXB.out hx
        obtain ⟨p0, p1, _, _⟩ := res_box HN.out hx
        obtain ⟨q0, q1, _, _⟩ := res_box HM.out hx
        exact ⟨⟨p0, p1, q0, q1⟩, r0, r1, f0, f1⟩
      have HF := hid (fun ww (hb : Below (((w.alloc (.cells #[.bool true, .slice a xs.length cap] 79)).alloc (.cells #[.bool true, .slice b ys.length cap'] 79)).alloc (.cells #[.bool false, .slice none 0 0] 79)).heap.size (((w.alloc (.cells #[.bool true, .slice a xs.length cap] 79)).alloc (.cells #[.bool true, .slice b ys.length cap'] 79)).alloc (.cells #[.bool false, .slice none 0 0] 79)) ww) => told1_at _ HK.out ww hb (rsum_any _ _ xs ys ww (HSL.out.1.later hb) (HSL.out.2.later hb) lx ly tx ty))
      have hs0 := (HK.out _ (Below.drew (Below.refl _ (((w.alloc (.cells #[.bool true, .slice a xs.length cap] 79)).alloc (.cells #[.bool true, .slice b ys.length cap'] 79)).alloc (.cells #[.bool false, .slice none 0 0] 79))))).1
      have hq0 : w.heap.size + 1 + 1 ≠ w.heap.size := by omega
      go_wp2_with fail
      go_region_held3 (fun w' : World => w'.cell? ⟨w.heap.size, 0, none⟩ = some (.bool true) ∧ w'.cell? ⟨w.heap.size, 1, none⟩ = some (.slice a xs.length cap) ∧ w'.cell? ⟨w.heap.size + 1, 0, none⟩ = some (.bool true) ∧ w'.cell? ⟨w.heap.size + 1, 1, none⟩ = some (.slice b ys.length cap')) (first | exact hs1 | exact hs0 | (simp [hs1, World.cell?_setCell_far, hq0]))
        (first | (go_at_call 71; refine Calls.mono (HF.out _ (Below.drew (Below.refl _ _))) ?_; rintro e w2 ⟨a2, zs, c2, rfl, HE, ⟨hs1, r0, r1, f0, f1⟩, hb2, _⟩))
      all_goals
        go_wp2_with fail
        refine bodyPost_ret (v := .agg #[.bool true, .slice a2 zs.length c2]) (by simp [results, Tryz.results55, go_sem, r0, r1]) rfl ?_
        refine ⟨true, _, zs, rfl, owns_base (own_put2 HE.out.1 _ (fun g hg => ?_) _ _) (by have := HXR.out; have := HBU.out.size; omega), HE.out.2.1, HE.out.2.2.1, ?_, below_put2 (bt HBU.out hb2) _ (by have := HXR.out; omega) _ _⟩
        · have h1 := (World.ownsRow.lt HE.out.1 g hg).1
          have h2 := HXR.out
          have h3 := HUS.out
          omega
        · have e := HE.out.2.2.2
          show _ = _
          simp [wval] at e ⊢
          omega
end Go.Proofs.YtfppimlmebnaeaaGreatDoor

/- Fractions: ratio.add, multiply: sums and products of fractions, what is in common taken out first. -/
namespace Go.Proofs.YtfppimlmebnaeaaGreatDoor
open Go.RowKit
set_option linter.unusedVariables false

theorem div_gcd_left {x y g : Int} (hg : g = gcdI x y) : x = x / g * g := (Int.ediv_mul_cancel (by rw [hg]; exact Int.gcd_dvd_left ..)).symm
theorem div_gcd_right {x y g : Int} (hg : g = gcdI x y) : y = y / g * g := (Int.ediv_mul_cancel (by rw [hg]; exact Int.gcd_dvd_right ..)).symm
theorem gcd_pos_right {x y : Int} (h : 0 < y) : 0 < gcdI x y := by
  have : 0 < Int.gcd x y := Int.gcd_pos_iff.2 (Or.inr (by omega))
  unfold gcdI; omega
theorem gcd_le_right {x y : Int} (h : 0 < y) : gcdI x y ≤ y := Int.le_of_dvd h (Int.gcd_dvd_right ..)
theorem sg_mul (n : Bool) (x y : Int) : sg n (x * y) = sg n x * y := by cases n <;> simp [sg, Int.neg_mul]
/-- What add works out. -/
theorem add_parts {n m nn : Bool} {xs ys us vs : List Int} {g rA rB p1 p2 N s q1 e den : Int} (hy : 0 < val ys) (hv : 0 < val vs) (h1 : gcdI (val xs) (val ys) = 1) (h2 : gcdI (val us) (val vs) = 1)
    (hg : g = gcdI (val ys) (val vs)) (hA : rA = val ys / g) (hB : rB = val vs / g) (hp1 : p1 = val xs * rB) (hp2 : p2 = val us * rA) (hN : sg nn N = sg n p1 + sg m p2) (hs : s = gcdI N g) (hq : q1 = N / s) (he : e = val vs / s) (hd : den = rA * e) :
    0 < den ∧ gcdI q1 den = 1 ∧ Rat.divInt (sg nn q1) den = rq n xs ys + rq m us vs := by
  have g0 : 0 < g := by rw [hg]; exact gcd_pos_right hv
  have k1 : val ys = rA * g := by rw [hA]; exact div_gcd_left hg
  have k2 : val vs = rB * g := by rw [hB]; exact div_gcd_right hg
  have k3 : N = q1 * s := by rw [hq]; exact div_gcd_left hs
  have sg' : s ∣ g := by rw [hs]; exact Int.gcd_dvd_right ..
  have k4 : val vs = e * s := by rw [he]; exact (Int.ediv_mul_cancel (Int.dvd_trans sg' ⟨rB, by rw [k2, Int.mul_comm]⟩)).symm
  have hN' : sg nn N = sg n (val xs) * rB + sg m (val us) * rA := by rw [hN, hp1, hp2, sg_mul, sg_mul]
  have hs' : s = gcdI (sg nn N) g := by rw [gcd_sg]; exact hs
  have r := fr_add (a := sg n (val xs)) (c := sg m (val us)) (p := sg nn q1) hy hv (by rw [gcd_sg]; exact h1) (by rw [gcd_sg]; exact h2) hg k1 k2 hN' hs' (by rw [← sg_mul, ← k3]) k4
  rw [← hd, gcd_sg] at r
  exact r
/-- What multiply works out. -/
theorem mul_parts {n m : Bool} {xs ys us vs : List Int} {f s num den : Int} (hy : 0 < val ys) (hv : 0 < val vs) (h1 : gcdI (val xs) (val ys) = 1) (h2 : gcdI (val us) (val vs) = 1)
    (hf : f = gcdI (val xs) (val vs)) (hs : s = gcdI (val us) (val ys)) (hn : num = val xs / f * (val us / s)) (hd : den = val ys / s * (val vs / f)) :
    0 < den ∧ gcdI num den = 1 ∧ Rat.divInt (sg (n != m) num) den = rq n xs ys * rq m us vs := by
  have r := fr_mul (a := sg n (val xs)) (c := sg m (val us)) (a1 := sg n (val xs / f)) (c1 := sg m (val us / s)) hy hv (by rw [gcd_sg]; exact h1) (by rw [gcd_sg]; exact h2) (by rw [gcd_sg]; exact hf) (by rw [gcd_sg]; exact hs) (by rw [← sg_mul, ← div_gcd_left hf]) (div_gcd_right hf) (by rw [← sg_mul, ← div_gcd_left hs]) (div_gcd_right hs)
  have e : sg n (val xs / f) * sg m (val us / s) = sg (n != m) num := by rw [hn]; exact (mul_sign n m _ _).symm
  rw [e, ← hd, gcd_sg] at r
  exact r
theorem WVal.at {U ww : World} {f : Nat} {args : Array Value} {t : Int} (S : World → Prop) (hS : ∀ w', Below U.heap.size U w' → S w') (hb : Below U.heap.size U ww) (C : Calls Tryz.prog f args ww (WVal ww t)) :
    Calls Tryz.prog f args ww fun e w' => ∃ k a2 zs c2, e = .returned (.agg #[.bool k, .slice a2 zs.length c2]) ∧ Hid (∃ T, One U w' (.slice a2 zs.length c2) zs T ∧ sg k T = t) ∧ S w' ∧ Below U.heap.size U w' ∧ Hid (Below ww.heap.size ww w') :=
  Calls.mono C fun e w' h => by
    obtain ⟨k, v, zs, rfl, o, h1, h2, h3, hb2⟩ := h
    obtain ⟨a2, c2, hs2⟩ := own_slice' o
    subst hs2
    exact ⟨k, a2, zs, c2, rfl, ⟨val zs, ⟨owns_base o hb.size, h1, h2, rfl⟩, h3⟩, hS w' (bt hb hb2), bt hb hb2, hb2⟩
theorem mul_4096 {x y : Int} (h0 : 0 ≤ x) (hx : x < 4294967296 ^ 2048) (g0 : 0 ≤ y) (hy : y < 4294967296 ^ 2048) : x * y < 4294967296 ^ 4096 := by
  have e : (4294967296 : Int) ^ 4096 = 4294967296 ^ 2048 * 4294967296 ^ 2048 := by rw [← Int.pow_add]
  have p := pw_pos 2048
  rw [e]
  generalize (4294967296 : Int) ^ 2048 = P at *
  have e1 : x * y ≤ x * P := Int.mul_le_mul_of_nonneg_left (by omega) h0
  have e2 : x * P < P * P := Int.mul_lt_mul_of_pos_right hx p
  omega
theorem own_len {v : Value} {zs : List Int} {U V : World} {t : Int} (h : One U V v zs t) {L : Nat} (hl : t < 4294967296 ^ L) : zs.length ≤ L := len_of_lt h.2.1 h.2.2.1 (by rw [h.2.2.2]; exact hl)
theorem own_pos {v : Value} {zs : List Int} {U V : World} {t : Int} (h : One U V v zs t) (h0 : 0 < t) : 0 < zs.length := by
  by_cases c : 0 < zs.length
  · exact c
  · have := trimmed_zero' (us := zs) (by omega)
    have := h.2.2.2
    omega
/-- What told tells of a numerator and a denominator with nothing in common. -/
theorem rtold_at {U ww : World} {n : Bool} {a : Option Addr} {ca : Nat} {zs : List Int} {b : Option Addr} {cb : Nat} {ds : List Int} {s t : Int} {q : Rat} (S : World → Prop) (hS : ∀ w', Below U.heap.size U w' → S w') (hb : Below U.heap.size U ww) (h1 : One U ww (.slice a zs.length ca) zs s) (h2 : One U ww (.slice b ds.length cb) ds t) (hd : 0 < t) (hg : gcdI s t = 1) (hq : Rat.divInt (sg n s) t = q) :
    Calls Tryz.prog 44 #[.bool n, .slice a zs.length ca, .slice b ds.length cb] ww fun e w' => ∃ k a8 z8 c8 a9 z9 c9 code, e = .returned (.tuple #[.agg #[.bool k, .slice a8 (List.length z8) c8, .slice a9 (List.length z9) c9], .int .i64 code]) ∧ Hid (w'.ownsRow U.heap.size 62 1 (.slice a8 (List.length z8) c8) z8.length (z8.map (Value.int .u32)) ∧ w'.ownsRow U.heap.size 62 1 (.slice a9 (List.length z9) c9) z9.length (z9.map (Value.int .u32)) ∧ RTells 0 q k z8 z9 code) ∧ S w' ∧ Below U.heap.size U w' := by
  obtain ⟨o1, w1, t1, v1⟩ := h1
  obtain ⟨o2, w2, t2, v2⟩ := h2
  obtain ⟨k, us, vs, c, e1, e2, e3, r⟩ := rtells_of (n := n) w1 t1 w2 t2 (by rw [v2]; exact hd) (by rw [v1, v2]; exact hg)
  rw [v1, v2, hq] at r
  refine Calls.mono (rtold_any n a zs.length ca b ds.length cb ww) fun e w' h => ?_
  obtain ⟨rfl, hb2⟩ := h
  rw [e1]
  by_cases z : c = 0
  · rw [if_pos z] at e2 e3
    subst e2; subst e3
    refine ⟨k, a, us, ca, b, vs, cb, c, by rw [if_pos z, if_pos z], ⟨owns_later o1 hb2, owns_later o2 hb2, r⟩, hS w' (bt hb hb2), bt hb hb2⟩
  · rw [if_neg z] at e2 e3
    subst e2; subst e3
    exact ⟨k, none, [], 0, none, [], 0, c, by rw [if_neg z, if_neg z]; rfl, ⟨World.ownsRow_nil _ _ _ _, World.ownsRow_nil _ _ _ _, r⟩, hS w' (bt hb hb2), bt hb hb2⟩
/-- What lies in blocks that were there stays, said so that the walk can use it. -/
def Far (ww w' : World) : Prop := (∀ H, H < ww.heap.size → H < w'.heap.size) ∧ (∀ H j, H < ww.heap.size → w'.cell? ⟨H, j, none⟩ = ww.cell? ⟨H, j, none⟩) ∧ (∀ H j, H < ww.heap.size → w'.frozen? ⟨H, j, none⟩ = ww.frozen? ⟨H, j, none⟩)
theorem Far.of {ww w' : World} (h : Below ww.heap.size ww w') : Far ww w' := ⟨fun H hl => Nat.lt_of_lt_of_le hl h.size, fun H j hl => h.cell (p := ⟨H, j, none⟩) hl, fun H j hl => h.frozen (p := ⟨H, j, none⟩) hl⟩
theorem quot_by {U ww : World} {a : Option Addr} {ca : Nat} {xs : List Int} {a1 : Option Addr} {z1 : List Int} {c1 : Nat} {g : Int} (S : World → Prop) (hS : ∀ w', Below U.heap.size U w' → S w') (hb : Below U.heap.size U ww) (hx : Sl ww (.slice a xs.length ca) xs) (lx : xs.length ≤ 8192) (tx : Trimmed xs) (h : One U ww (.slice a1 z1.length c1) z1 g) (h0 : 0 < g) (hl : g < 4294967296 ^ 2048) :
    Calls Tryz.prog 43 #[.slice a xs.length ca, .slice a1 z1.length c1] ww fun e w' => ∃ a2 zs c2, e = .returned (.slice a2 zs.length c2) ∧ Hid (One U w' (.slice a2 zs.length c2) zs (val xs / g)) ∧ S w' ∧ Below U.heap.size U w' ∧ Hid (Below ww.heap.size ww w') := by
  have e := rquot_any _ _ xs z1 ww hx h.sl lx (by have := own_len h hl; omega) tx h.2.2.1 (own_pos h h0)
  rw [h.2.2.2] at e
  exact told1_at S hS ww hb e
theorem RTold.put {w U w3 : World} {e : Int} {q : Rat} {k : Bool} {v u : Value} {zs ds : List Int} {code : Int} (h : w3.ownsRow U.heap.size 62 1 v zs.length (zs.map (Value.int .u32)) ∧ w3.ownsRow U.heap.size 62 1 u ds.length (ds.map (Value.int .u32)) ∧ RTells e q k zs ds code) (b : Nat) (hb : b < U.heap.size) (hw : w.heap.size ≤ b) (hbw : Below w.heap.size w w3) (x y z : Value) :
    RTold w e q (.returned (.tuple #[.agg #[.bool k, v, u], .int .i64 code])) (((w3.setCell ⟨b, 0, none⟩ x).setCell ⟨b, 1, none⟩ y).setCell ⟨b, 2, none⟩ z) :=
  ⟨k, v, zs, u, ds, code, rfl, owns_base (own_put3 h.1 b (fun g hg => by have := (World.ownsRow.lt h.1 g hg).1; omega) _ _ _) (by omega), owns_base (own_put3 h.2.1 b (fun g hg => by have := (World.ownsRow.lt h.2.1 g hg).1; omega) _ _ _) (by omega), h.2.2, below_put3 hbw b hw _ _ _⟩

set_option maxHeartbeats 6400000 in
set_option maxRecDepth 100000 in
theorem rmultiply_any (n : Bool) (a : Option Addr) (ca : Nat) (xs : List Int) (b : Option Addr) (cb : Nat) (ys : List Int) (m : Bool) (c : Option Addr) (cc : Nat) (us : List Int) (d : Option Addr) (cd : Nat) (vs : List Int) (w : World)
    (sx : Sl w (.slice a xs.length ca) xs) (sy : Sl w (.slice b ys.length cb) ys) (su : Sl w (.slice c us.length cc) us) (sv : Sl w (.slice d vs.length cd) vs) (lx : xs.length ≤ 2048) (ly : ys.length ≤ 2048) (lu : us.length ≤ 2048) (lv : vs.length ≤ 2048) (tx : Trimmed xs) (ty : Trimmed ys) (tu : Trimmed us) (tv : Trimmed vs) (hy : 0 < val ys) (hv : 0 < val vs) (h1 : gcdI (val xs) (val ys) = 1) (h2 : gcdI (val us) (val vs) = 1) :
    Calls Tryz.prog 27 #[.agg #[.bool n, .slice a xs.length ca, .slice b ys.length cb], .agg #[.bool m, .slice c us.length cc, .slice d vs.length cd]] w (RTold w 0 (rq n xs ys * rq m us vs)) := by
  have wx := sx.wd
  have wy := sy.wd
  have wu := su.wd
  have wv := sv.wd
  have HB : Hid (Below w.heap.size w (((w.alloc (.cells #[.bool n, .slice a xs.length ca, .slice b ys.length cb] 24)).alloc (.cells #[.bool m, .slice c us.length cc, .slice d vs.length cd] 24)).alloc (.cells #[.bool false, .slice none 0 0, .slice none 0 0] 24))) := bt (bt (alloc_later _ _) (alloc_later _ _)) (alloc_later _ _)
  have HZ : Hid (Box (((w.alloc (.cells #[.bool n, .slice a xs.length ca, .slice b ys.length cb] 24)).alloc (.cells #[.bool m, .slice c us.length cc, .slice d vs.length cd] 24)).alloc (.cells #[.bool false, .slice none 0 0, .slice none 0 0] 24)) (w.heap.size + 1 + 1) 24 #[.bool false, .slice none 0 0, .slice none 0 0]) := by
    have e := Box.made ((w.alloc (.cells #[.bool n, .slice a xs.length ca, .slice b ys.length cb] 24)).alloc (.cells #[.bool m, .slice c us.length cc, .slice d vs.length cd] 24)) 24 #[.bool false, .slice none 0 0, .slice none 0 0]
    simp at e
    exact e
  have HK : Hid (∀ w', Below (((w.alloc (.cells #[.bool n, .slice a xs.length ca, .slice b ys.length cb] 24)).alloc (.cells #[.bool m, .slice c us.length cc, .slice d vs.length cd] 24)).alloc (.cells #[.bool false, .slice none 0 0, .slice none 0 0] 24)).heap.size (((w.alloc (.cells #[.bool n, .slice a xs.length ca, .slice b ys.length cb] 24)).alloc (.cells #[.bool m, .slice c us.length cc, .slice d vs.length cd] 24)).alloc (.cells #[.bool false, .slice none 0 0, .slice none 0 0] 24)) w' → w'.cell? ⟨w.heap.size, 0, none⟩ = some (.bool n) ∧ w'.cell? ⟨w.heap.size, 1, none⟩ = some (.slice a xs.length ca) ∧ w'.cell? ⟨w.heap.size, 2, none⟩ = some (.slice b ys.length cb) ∧ w'.cell? ⟨w.heap.size + 1, 0, none⟩ = some (.bool m) ∧ w'.cell? ⟨w.heap.size + 1, 1, none⟩ = some (.slice c us.length cc) ∧ w'.cell? ⟨w.heap.size + 1, 2, none⟩ = some (.slice d vs.length cd)) := fun w' hx => by
    have hA : Box (((w.alloc (.cells #[.bool n, .slice a xs.length ca, .slice b ys.length cb] 24)).alloc (.cells #[.bool m, .slice c us.length cc, .slice d vs.length cd] 24)).alloc (.cells #[.bool false, .slice none 0 0, .slice none 0 0] 24)) w.heap.size 24 #[.bool n, .slice a xs.length ca, .slice b ys.length cb] := Box.later (Box.made w _ _) (bt (alloc_later _ _) (alloc_later _ _)) (by simp)
    have hB : Box (((w.alloc (.cells #[.bool n, .slice a xs.length ca, .slice b ys.length cb] 24)).alloc (.cells #[.bool m, .slice c us.length cc, .slice d vs.length cd] 24)).alloc (.cells #[.bool false, .slice none 0 0, .slice none 0 0] 24)) (w.heap.size + 1) 24 #[.bool m, .slice c us.length cc, .slice d vs.length cd] := by
      have e := Box.later (Box.made (w.alloc (.cells #[.bool n, .slice a xs.length ca, .slice b ys.length cb] 24)) 24 #[.bool m, .slice c us.length cc, .slice d vs.length cd]) (alloc_later ((w.alloc (.cells #[.bool n, .slice a xs.length ca, .slice b ys.length cb] 24)).alloc (.cells #[.bool m, .slice c us.length cc, .slice d vs.length cd] 24)) (.cells #[.bool false, .slice none 0 0, .slice none 0 0] 24)) (by simp)
      simp at e
      exact e
    obtain ⟨p0, p1, p2, _⟩ := res_box3 hA hx
    obtain ⟨q0, q1, q2, _⟩ := res_box3 hB hx
    exact ⟨p0, p1, p2, q0, q1, q2⟩
  have HXS : Hid (w.heap.size + 1 + 1 < (((w.alloc (.cells #[.bool n, .slice a xs.length ca, .slice b ys.length cb] 24)).alloc (.cells #[.bool m, .slice c us.length cc, .slice d vs.length cd] 24)).alloc (.cells #[.bool false, .slice none 0 0, .slice none 0 0] 24)).heap.size) := HZ.out.lt
  have HSL := hid (And.intro (sx.later HB.out) (And.intro (sy.later HB.out) (And.intro (su.later HB.out) (sv.later HB.out))))
  have HP := hid (And.intro hy (And.intro hv (And.intro h1 h2)))
  clear sx sy su sv
  have HF0 : Hid (0 < gcdI (val xs) (val vs) ∧ gcdI (val xs) (val vs) ≤ val vs ∧ 0 < gcdI (val us) (val ys) ∧ gcdI (val us) (val ys) ≤ val ys) := ⟨gcd_pos_right hv, gcd_le_right hv, gcd_pos_right hy, gcd_le_right hy⟩
  have HL : Hid (val xs < 4294967296 ^ 2048 ∧ val ys < 4294967296 ^ 2048 ∧ val us < 4294967296 ^ 2048 ∧ val vs < 4294967296 ^ 2048) := ⟨below2048 wx lx, below2048 wy ly, below2048 wu lu, below2048 wv lv⟩
  have HNN : Hid (0 ≤ val xs ∧ 0 ≤ val us) := ⟨val_nonneg wx, val_nonneg wu⟩
  have HC1 := hid (fun ww (hb : Below (((w.alloc (.cells #[.bool n, .slice a xs.length ca, .slice b ys.length cb] 24)).alloc (.cells #[.bool m, .slice c us.length cc, .slice d vs.length cd] 24)).alloc (.cells #[.bool false, .slice none 0 0, .slice none 0 0] 24)).heap.size (((w.alloc (.cells #[.bool n, .slice a xs.length ca, .slice b ys.length cb] 24)).alloc (.cells #[.bool m, .slice c us.length cc, .slice d vs.length cd] 24)).alloc (.cells #[.bool false, .slice none 0 0, .slice none 0 0] 24)) ww) => told1_at _ HK.out ww hb (rcommon_any _ _ xs vs ww (HSL.out.1.later hb) (HSL.out.2.2.2.later hb) (by omega) (by omega) tx tv))
  have HC2 := hid (fun ww (hb : Below (((w.alloc (.cells #[.bool n, .slice a xs.length ca, .slice b ys.length cb] 24)).alloc (.cells #[.bool m, .slice c us.length cc, .slice d vs.length cd] 24)).alloc (.cells #[.bool false, .slice none 0 0, .slice none 0 0] 24)).heap.size (((w.alloc (.cells #[.bool n, .slice a xs.length ca, .slice b ys.length cb] 24)).alloc (.cells #[.bool m, .slice c us.length cc, .slice d vs.length cd] 24)).alloc (.cells #[.bool false, .slice none 0 0, .slice none 0 0] 24)) ww) => told1_at _ HK.out ww hb (rcommon_any _ _ us ys ww (HSL.out.2.2.1.later hb) (HSL.out.2.1.later hb) (by omega) (by omega) tu ty))
  -- quotients by what was found, at each world behind it
  have HQX := hid (fun ww (hv' : Below (((w.alloc (.cells #[.bool n, .slice a xs.length ca, .slice b ys.length cb] 24)).alloc (.cells #[.bool m, .slice c us.length cc, .slice d vs.length cd] 24)).alloc (.cells #[.bool false, .slice none 0 0, .slice none 0 0] 24)).heap.size (((w.alloc (.cells #[.bool n, .slice a xs.length ca, .slice b ys.length cb] 24)).alloc (.cells #[.bool m, .slice c us.length cc, .slice d vs.length cd] 24)).alloc (.cells #[.bool false, .slice none 0 0, .slice none 0 0] 24)) ww) (a1 : Option Addr) (z1 : List Int) (c1 : Nat) (h : One (((w.alloc (.cells #[.bool n, .slice a xs.length ca, .slice b ys.length cb] 24)).alloc (.cells #[.bool m, .slice c us.length cc, .slice d vs.length cd] 24)).alloc (.cells #[.bool false, .slice none 0 0, .slice none 0 0] 24)) ww (.slice a1 z1.length c1) z1 (gcdI (val xs) (val vs))) => quot_by _ HK.out hv' (HSL.out.1.later hv') (by omega) tx h HF0.out.1 (by have := HF0.out; have := HL.out; omega))
  have HQV := hid (fun ww (hv' : Below (((w.alloc (.cells #[.bool n, .slice a xs.length ca, .slice b ys.length cb] 24)).alloc (.cells #[.bool m, .slice c us.length cc, .slice d vs.length cd] 24)).alloc (.cells #[.bool false, .slice none 0 0, .slice none 0 0] 24)).heap.size (((w.alloc (.cells #[.bool n, .slice a xs.length ca, .slice b ys.length cb] 24)).alloc (.cells #[.bool m, .slice c us.length cc, .slice d vs.length cd] 24)).alloc (.cells #[.bool false, .slice none 0 0, .slice none 0 0] 24)) ww) (a1 : Option Addr) (z1 : List Int) (c1 : Nat) (h : One (((w.alloc (.cells #[.bool n, .slice a xs.length ca, .slice b ys.length cb] 24)).alloc (.cells #[.bool m, .slice c us.length cc, .slice d vs.length cd] 24)).alloc (.cells #[.bool false, .slice none 0 0, .slice none 0 0] 24)) ww (.slice a1 z1.length c1) z1 (gcdI (val xs) (val vs))) => quot_by _ HK.out hv' (HSL.out.2.2.2.later hv') (by omega) tv h HF0.out.1 (by have := HF0.out; have := HL.out; omega))
  have HQU := hid (fun ww (hv' : Below (((w.alloc (.cells #[.bool n, .slice a xs.length ca, .slice b ys.length cb] 24)).alloc (.cells #[.bool m, .slice c us.length cc, .slice d vs.length cd] 24)).alloc (.cells #[.bool false, .slice none 0 0, .slice none 0 0] 24)).heap.size (((w.alloc (.cells #[.bool n, .slice a xs.length ca, .slice b ys.length cb] 24)).alloc (.cells #[.bool m, .slice c us.length cc, .slice d vs.length cd] 24)).alloc (.cells #[.bool false, .slice none 0 0, .slice none 0 0] 24)) ww) (a1 : Option Addr) (z1 : List Int) (c1 : Nat) (h : One (((w.alloc (.cells #[.bool n, .slice a xs.length ca, .slice b ys.length cb] 24)).alloc (.cells #[.bool m, .slice c us.length cc, .slice d vs.length cd] 24)).alloc (.cells #[.bool false, .slice none 0 0, .slice none 0 0] 24)) ww (.slice a1 z1.length c1) z1 (gcdI (val us) (val ys))) => quot_by _ HK.out hv' (HSL.out.2.2.1.later hv') (by omega) tu h HF0.out.2.2.1 (by have := HF0.out; have := HL.out; omega))
  have HQY := hid (fun ww (hv' : Below (((w.alloc (.cells #[.bool n, .slice a xs.length ca, .slice b ys.length cb] 24)).alloc (.cells #[.bool m, .slice c us.length cc, .slice d vs.length cd] 24)).alloc (.cells #[.bool false, .slice none 0 0, .slice none 0 0] 24)).heap.size (((w.alloc (.cells #[.bool n, .slice a xs.length ca, .slice b ys.length cb] 24)).alloc (.cells #[.bool m, .slice c us.length cc, .slice d vs.length cd] 24)).alloc (.cells #[.bool false, .slice none 0 0, .slice none 0 0] 24)) ww) (a1 : Option Addr) (z1 : List Int) (c1 : Nat) (h : One (((w.alloc (.cells #[.bool n, .slice a xs.length ca, .slice b ys.length cb] 24)).alloc (.cells #[.bool m, .slice c us.length cc, .slice d vs.length cd] 24)).alloc (.cells #[.bool false, .slice none 0 0, .slice none 0 0] 24)) ww (.slice a1 z1.length c1) z1 (gcdI (val us) (val ys))) => quot_by _ HK.out hv' (HSL.out.2.1.later hv') (by omega) ty h HF0.out.2.2.1 (by have := HF0.out; have := HL.out; omega))
  have HPR := hid (fun ww (hv' : Below (((w.alloc (.cells #[.bool n, .slice a xs.length ca, .slice b ys.length cb] 24)).alloc (.cells #[.bool m, .slice c us.length cc, .slice d vs.length cd] 24)).alloc (.cells #[.bool false, .slice none 0 0, .slice none 0 0] 24)).heap.size (((w.alloc (.cells #[.bool n, .slice a xs.length ca, .slice b ys.length cb] 24)).alloc (.cells #[.bool m, .slice c us.length cc, .slice d vs.length cd] 24)).alloc (.cells #[.bool false, .slice none 0 0, .slice none 0 0] 24)) ww) (a1 : Option Addr) (z1 : List Int) (c1 : Nat) (s1 : Int) (h : One (((w.alloc (.cells #[.bool n, .slice a xs.length ca, .slice b ys.length cb] 24)).alloc (.cells #[.bool m, .slice c us.length cc, .slice d vs.length cd] 24)).alloc (.cells #[.bool false, .slice none 0 0, .slice none 0 0] 24)) ww (.slice a1 z1.length c1) z1 s1) (a2 : Option Addr) (z2 : List Int) (c2 : Nat) (s2 : Int) (g : One (((w.alloc (.cells #[.bool n, .slice a xs.length ca, .slice b ys.length cb] 24)).alloc (.cells #[.bool m, .slice c us.length cc, .slice d vs.length cd] 24)).alloc (.cells #[.bool false, .slice none 0 0, .slice none 0 0] 24)) ww (.slice a2 z2.length c2) z2 s2) (k1 : s1 < 4294967296 ^ 2048) (k2 : s2 < 4294967296 ^ 2048) => told1_at _ HK.out ww hv' (show Calls Tryz.prog 42 #[.slice a1 z1.length c1, .slice a2 z2.length c2] ww (Told1 ww (s1 * s2)) by
    have e := rprod_any _ _ z1 z2 ww h.sl g.sl (by have := own_len h k1; have := own_len g k2; omega) h.2.2.1 g.2.2.1
    rw [h.2.2.2, g.2.2.2] at e
    exact e))
  have HD : Hid (val xs / gcdI (val xs) (val vs) < 4294967296 ^ 2048 ∧ val us / gcdI (val us) (val ys) < 4294967296 ^ 2048 ∧ val ys / gcdI (val us) (val ys) < 4294967296 ^ 2048 ∧ val vs / gcdI (val xs) (val vs) < 4294967296 ^ 2048) := by
    have q1 := Int.ediv_le_self (gcdI (val xs) (val vs)) HNN.out.1
    have q2 := Int.ediv_le_self (gcdI (val us) (val ys)) HNN.out.2
    have q3 := Int.ediv_le_self (a := val ys) (gcdI (val us) (val ys)) (by omega)
    have q4 := Int.ediv_le_self (a := val vs) (gcdI (val xs) (val vs)) (by omega)
    have := HL.out
    refine ⟨?_, ?_, ?_, ?_⟩ <;> omega
  have hs0 := HK.out _ (Below.drew (Below.refl _ (((w.alloc (.cells #[.bool n, .slice a xs.length ca, .slice b ys.length cb] 24)).alloc (.cells #[.bool m, .slice c us.length cc, .slice d vs.length cd] 24)).alloc (.cells #[.bool false, .slice none 0 0, .slice none 0 0] 24))))
  go_enter Tryz.func27, Tryz.ntmps27
  go_wp2_with fail
  go_region_held3 (fun w' : World => w'.cell? ⟨w.heap.size, 0, none⟩ = some (.bool n) ∧ w'.cell? ⟨w.heap.size, 1, none⟩ = some (.slice a xs.length ca) ∧ w'.cell? ⟨w.heap.size, 2, none⟩ = some (.slice b ys.length cb) ∧ w'.cell? ⟨w.heap.size + 1, 0, none⟩ = some (.bool m) ∧ w'.cell? ⟨w.heap.size + 1, 1, none⟩ = some (.slice c us.length cc) ∧ w'.cell? ⟨w.heap.size + 1, 2, none⟩ = some (.slice d vs.length cd)) (first | exact hs2 | exact hs1 | exact hs0)
    (first
      | (go_at_call 41; with_reducible refine Calls.mono (HC2.out _ hb1) ?_; rintro e w2 ⟨a2, z2, c2, rfl, HE2, hs2, hb2, HS2⟩)
      | (go_at_call 41; with_reducible refine Calls.mono (HC1.out _ (Below.drew (Below.refl _ _))) ?_; rintro e w1 ⟨a1, z1, c1, rfl, HE1, hs1, hb1, HS1⟩))
  have hb2d := hb2.drew
  have HO1 := hid ((HE1.out.later HS2.out).later (Below.drew (Below.refl _ w2)))
  have HO2 := hid (HE2.out.later (Below.drew (Below.refl _ w2)))
  have hs0 := HK.out _ hb2d
  clear hs1 hs2 hb1 HC1 HC2 HE1 HE2 HS1 HS2
  go_wp2_with fail
  go_region_held3 (fun w' : World => w'.cell? ⟨w.heap.size, 0, none⟩ = some (.bool n) ∧ w'.cell? ⟨w.heap.size, 1, none⟩ = some (.slice a xs.length ca) ∧ w'.cell? ⟨w.heap.size, 2, none⟩ = some (.slice b ys.length cb) ∧ w'.cell? ⟨w.heap.size + 1, 0, none⟩ = some (.bool m) ∧ w'.cell? ⟨w.heap.size + 1, 1, none⟩ = some (.slice c us.length cc) ∧ w'.cell? ⟨w.heap.size + 1, 2, none⟩ = some (.slice d vs.length cd)) (first | exact hs5 | exact hs4 | exact hs3 | exact hs0)
    (first
      | (go_at_call 42; with_reducible refine Calls.mono (HPR.out _ hb4 _ _ _ _ (HE3.out.later HS4.out) _ _ _ _ HE4.out HD.out.1 HD.out.2.1) ?_; rintro e w5 ⟨a5, z5, c5, rfl, HE5, hs5, hb5, HS5⟩)
      | (go_at_call 43; with_reducible refine Calls.mono (HQU.out _ hb3 _ _ _ (HO2.out.later HS3.out)) ?_; rintro e w4 ⟨a4, z4, c4, rfl, HE4, hs4, hb4, HS4⟩)
      | (go_at_call 43; with_reducible refine Calls.mono (HQX.out _ hb2d _ _ _ HO1.out) ?_; rintro e w3 ⟨a3, z3, c3, rfl, HE3, hs3, hb3, HS3⟩))
  have hb5d := hb5.drew
  have HO1' := hid ((((HO1.out.later HS3.out).later HS4.out).later HS5.out).later (Below.drew (Below.refl _ w5)))
  have HO2' := hid ((((HO2.out.later HS3.out).later HS4.out).later HS5.out).later (Below.drew (Below.refl _ w5)))
  have HO5 := hid (HE5.out.later (Below.drew (Below.refl _ w5)))
  clear hs0 hs3 hs4 hs5 HO1 HO2 hb3 hb4 hb2 hb2d HE3 HE4 HE5 HS3 HS4 HS5
  have hs0 := HK.out _ hb5d
  go_wp2_with fail
  go_region_held3 (fun w' : World => w'.cell? ⟨w.heap.size, 0, none⟩ = some (.bool n) ∧ w'.cell? ⟨w.heap.size, 1, none⟩ = some (.slice a xs.length ca) ∧ w'.cell? ⟨w.heap.size, 2, none⟩ = some (.slice b ys.length cb) ∧ w'.cell? ⟨w.heap.size + 1, 0, none⟩ = some (.bool m) ∧ w'.cell? ⟨w.heap.size + 1, 1, none⟩ = some (.slice c us.length cc) ∧ w'.cell? ⟨w.heap.size + 1, 2, none⟩ = some (.slice d vs.length cd)) (first | exact hs8 | exact hs7 | exact hs6 | exact hs0)
    (first
      | (go_at_call 42; with_reducible refine Calls.mono (HPR.out _ hb7 _ _ _ _ (HE6.out.later HS7.out) _ _ _ _ HE7.out HD.out.2.2.1 HD.out.2.2.2) ?_; rintro e w8 ⟨a8, z8, c8, rfl, HE8, hs8, hb8, HS8⟩)
      | (go_at_call 43; with_reducible refine Calls.mono (HQV.out _ hb6 _ _ _ (HO1'.out.later HS6.out)) ?_; rintro e w7 ⟨a7, z7, c7, rfl, HE7, hs7, hb7, HS7⟩)
      | (go_at_call 43; with_reducible refine Calls.mono (HQY.out _ hb5d _ _ _ HO2'.out) ?_; rintro e w6 ⟨a6, z6, c6, rfl, HE6, hs6, hb6, HS6⟩))
  have HN := hid (((HO5.out.later HS6.out).later HS7.out).later HS8.out)
  have hmp := mul_parts (n := n) (m := m) HP.out.1 HP.out.2.1 HP.out.2.2.1 HP.out.2.2.2 rfl rfl rfl rfl
  have HT := hid (fun ww (hb : Below (((w.alloc (.cells #[.bool n, .slice a xs.length ca, .slice b ys.length cb] 24)).alloc (.cells #[.bool m, .slice c us.length cc, .slice d vs.length cd] 24)).alloc (.cells #[.bool false, .slice none 0 0, .slice none 0 0] 24)).heap.size (((w.alloc (.cells #[.bool n, .slice a xs.length ca, .slice b ys.length cb] 24)).alloc (.cells #[.bool m, .slice c us.length cc, .slice d vs.length cd] 24)).alloc (.cells #[.bool false, .slice none 0 0, .slice none 0 0] 24)) ww) (g1 : One (((w.alloc (.cells #[.bool n, .slice a xs.length ca, .slice b ys.length cb] 24)).alloc (.cells #[.bool m, .slice c us.length cc, .slice d vs.length cd] 24)).alloc (.cells #[.bool false, .slice none 0 0, .slice none 0 0] 24)) ww (.slice a5 z5.length c5) z5 _) (g2 : One (((w.alloc (.cells #[.bool n, .slice a xs.length ca, .slice b ys.length cb] 24)).alloc (.cells #[.bool m, .slice c us.length cc, .slice d vs.length cd] 24)).alloc (.cells #[.bool false, .slice none 0 0, .slice none 0 0] 24)) ww (.slice a8 z8.length c8) z8 _) => rtold_at _ HK.out hb g1 g2 hmp.1 hmp.2.1 hmp.2.2)
  obtain ⟨g0, g1, g2, g3, g4, g5⟩ := hs8
  have HBX := hid hb8
  have HE8' := hid HE8.out
  clear hs0 hs6 hs7 hb5 hb5d hb6 hb7 hb8 HO1' HO2' HO5 HE6 HE7 HE8 HS6 HS7 HS8 hmp HQX HQV HQU HQY HPR
  go_wp2_with fail
  refine Calls.mono (HT.out _ HBX.out HN.out HE8'.out) ?_
  rintro e w9 ⟨k9, a9, z9, c9, aA, zA, cA, code, rfl, HR, _, hb9⟩
  obtain ⟨y0, y1, y2, f0, f1, f2⟩ := res_box3 HZ.out hb9
  have HBW := hid (bt HB.out hb9)
  clear hb9 g0 g1 g2 g3 g4 g5 HT HN HE8'
  go_wp2_with fail
  refine bodyPost_ret (v := .tuple #[.agg #[.bool k9, .slice a9 z9.length c9, .slice aA zA.length cA], .int .i64 code]) (by simp [results, Tryz.results27, go_sem, y0, y1, y2]) rfl ?_
  exact RTold.put HR.out (w.heap.size + 1 + 1) HXS.out (by omega) HBW.out _ _ _
end Go.Proofs.YtfppimlmebnaeaaGreatDoor

/- Whole numbers: whole.divide, DivMod as in Wh6, and besides: quotient and rest lie apart. -/
namespace Go.Proofs.YtfppimlmebnaeaaGreatDoor
open Go.RowKit
set_option linter.unusedVariables false

/-- The first lies below a cut, the second from it on: both new. -/
def Cut (w : World) (v u : Value) (w' : World) : Prop := ∃ c, w.heap.size ≤ c ∧ c ≤ w'.heap.size ∧ Lies v w.heap.size c ∧ Lies u c w'.heap.size
theorem Cut.up {w w' W W' : World} {v u : Value} (h : Cut w v u w') (h0 : W.heap.size ≤ w.heap.size) (h1 : w'.heap.size ≤ W'.heap.size) : Cut W v u W' := by
  obtain ⟨c, c0, c1, l0, l1⟩ := h
  exact ⟨c, Nat.le_trans h0 c0, Nat.le_trans c1 h1, fun g hg => ⟨Nat.le_trans h0 (l0 g hg).1, (l0 g hg).2⟩, fun g hg => ⟨(l1 g hg).1, Nat.lt_of_lt_of_le (l1 g hg).2 h1⟩⟩

set_option maxHeartbeats 800000 in
set_option maxRecDepth 100000 in
theorem divMod_cut (v u : Value) (xs ys : List Int) (w : World) (h : Sl w v xs) (g : Sl w u ys) (lx : xs.length ≤ 8192) (ly : ys.length ≤ 8192) (tx : Trimmed xs) (ty : Trimmed ys) (h0 : 0 < ys.length) :
    Calls Tryz.prog 61 #[v, u] w fun e w' => ∃ v1 u1 q r, e = .returned (.tuple #[v1, u1, .int .i64 0]) ∧ w'.ownsRow w.heap.size 62 1 v1 q.length (q.map (Value.int .u32)) ∧ w'.ownsRow w.heap.size 62 1 u1 r.length (r.map (Value.int .u32)) ∧ Wd q ∧ Wd r ∧ Trimmed q ∧ Trimmed r ∧ val xs = val q * val ys + val r ∧ val r < val ys ∧ Below w.heap.size w w' ∧ Cut w v1 u1 w' := by
  have HB := hid (checkBoth_sl v u xs ys w h g (by omega) (by omega))
  rw [both_good (chk_good lx tx) (chk_good ly ty)] at HB
  have HD : Hid (Calls Tryz.prog 79 #[v, u] w (Divided w xs ys)) := divide_any v u xs ys w h g lx ly tx ty h0
  obtain ⟨b, cap', rfl, gr⟩ := g
  have hz : ((ys.length : Int) == 0) = false := by simp; exact fun e => by rw [e] at h0; simp at h0
  clear gr h ty
  go_enter Tryz.func61, Tryz.ntmps61
  go_wp2_with fail
  refine Calls.mono HB.out ?_
  rintro e w' ⟨rfl, rfl⟩
  go_wp2_with fail
  refine Calls.mono HD.out ?_
  rintro e w1 ⟨v1, u1, q, r, c, rfl, oq, orr, i1, i2, i3, i4, wq, wr, tq, tr, hv, hlt, hbel⟩
  have HCU : Hid (Cut w v1 u1 w1) := ⟨c, i3, i4, i1, i2⟩
  have HQ := hid oq
  have HR := hid orr
  have HV := hid hv
  have HLT := hid hlt
  clear oq orr hv hlt i1 i2 i3 i4
  go_wp2
  go_ret3
  exact ⟨v1, u1, q, r, rfl, HQ.out, HR.out, wq, wr, tq, tr, HV.out, HLT.out, hbel, HCU.out⟩

/-- A size and a rest, in new memory, apart. -/
def WPartsA (w : World) (n : Bool) (xs ys : List Int) (x : Ending) (w' : World) : Prop := ∃ v1 u1 q r, x = .returned (.tuple #[v1, u1]) ∧ w'.ownsRow w.heap.size 62 1 v1 q.length (q.map (Value.int .u32)) ∧ w'.ownsRow w.heap.size 62 1 u1 r.length (r.map (Value.int .u32)) ∧ Wd q ∧ Wd r ∧ Trimmed q ∧ Trimmed r ∧ q.length ≤ 2048 ∧ r.length ≤ 2048 ∧
  val xs = val q * val ys + sg n (val r) ∧ val r < val ys ∧ Below w.heap.size w w' ∧ Cut w v1 u1 w'
/-- Quotient and rest of whole numbers, in new memory, apart. -/
def WDivA (w : World) (X Y : Int) (x : Ending) (w' : World) : Prop := ∃ nq vq zq vr zr, x = .returned (.tuple #[.agg #[.bool nq, vq], .agg #[.bool false, vr], .int .i64 0]) ∧ w'.ownsRow w.heap.size 62 1 vq zq.length (zq.map (Value.int .u32)) ∧ w'.ownsRow w.heap.size 62 1 vr zr.length (zr.map (Value.int .u32)) ∧ Wd zq ∧ Wd zr ∧ Trimmed zq ∧ Trimmed zr ∧ zq.length ≤ 2048 ∧ zr.length ≤ 2048 ∧ (nq = false ∨ 0 < zq.length) ∧
  X = wval nq zq * Y + val zr ∧ val zr < (Y.natAbs : Int) ∧ Below w.heap.size w w' ∧ Cut w vq vr w'
end Go.Proofs.YtfppimlmebnaeaaGreatDoor

/- Fractions: ratio.Make: of two whole numbers, in whatever form; Num and Den lie apart. -/
namespace Go.Proofs.YtfppimlmebnaeaaGreatDoor
open Go.RowKit
set_option linter.unusedVariables false

/-- A fraction told in new memory, Num and Den apart. -/
def RToldA (w : World) (e : Int) (q : Rat) (x : Ending) (w' : World) : Prop :=
  ∃ n v xs u ys code, x = .returned (.tuple #[.agg #[.bool n, v, u], .int .i64 code]) ∧ w'.ownsRow w.heap.size 62 1 v xs.length (xs.map (Value.int .u32)) ∧ w'.ownsRow w.heap.size 62 1 u ys.length (ys.map (Value.int .u32)) ∧ RTells e q n xs ys code ∧ Below w.heap.size w w' ∧ Cut w v u w'
theorem RTells.same {e : Int} {q : Rat} {n m : Bool} {xs ys us vs : List Int} {c d : Int} (h : RTells e q n xs ys c) (g : RTells e q m us vs d) : n = m ∧ xs = us ∧ ys = vs ∧ c = d := by
  by_cases he : e = 0
  · by_cases hl : rlong q
    · obtain ⟨a1, a2, a3, a4⟩ := h.long he hl
      obtain ⟨b1, b2, b3, b4⟩ := g.long he hl
      exact ⟨by rw [a1, b1], by rw [a2, b2], by rw [a3, b3], by rw [a4, b4]⟩
    · obtain ⟨a1, a2, a3⟩ := h.good he hl
      obtain ⟨b1, b2, b3⟩ := g.good he hl
      obtain ⟨_, _, tx, ty, y0, sx, gx⟩ := rchk_ok a2
      obtain ⟨_, _, tu, tv, v0, su, gu⟩ := rchk_ok b2
      have py := val_pos' h.wy ty y0
      have pv := val_pos' g.wy tv v0
      have e1 := fr_inj (x := wval n xs) (d := val ys) (y := wval m us) (e := val vs) (by omega) (by rw [show wval n xs = sg n (val xs) from rfl, gcd_sg]; exact gx) (by omega) (by rw [show wval m us = sg m (val us) from rfl, gcd_sg]; exact gu) (a3.trans b3.symm)
      have e2 : n = m ∧ xs = us := by
        have x0 := val_nonneg h.wx
        have u0 := val_nonneg g.wx
        have e3 := e1.1
        cases n <;> cases m
        · exact ⟨rfl, trimmed_eq h.wx g.wx tx tu e3⟩
        · have e4 : val xs = -(val us) := e3
          have := val_pos' g.wx tu (su.elim (fun e => by cases e) id)
          omega
        · have e4 : -(val xs) = val us := e3
          have := val_pos' h.wx tx (sx.elim (fun e => by cases e) id)
          omega
        · have e4 : -(val xs) = -(val us) := e3
          exact ⟨rfl, trimmed_eq h.wx g.wx tx tu (by omega)⟩
      exact ⟨e2.1, e2.2, trimmed_eq h.wy g.wy ty tv e1.2, by rw [a1, b1]⟩
  · obtain ⟨a1, a2, a3, a4⟩ := h.bad he
    obtain ⟨b1, b2, b3, b4⟩ := g.bad he
    exact ⟨by rw [a1, b1], by rw [a2, b2], by rw [a3, b3], by rw [a4, b4]⟩
theorem RTells.len {e : Int} {q : Rat} {n : Bool} {xs ys : List Int} {c : Int} (h : RTells e q n xs ys c) : xs.length ≤ 2048 ∧ ys.length ≤ 2048 := by
  by_cases he : e = 0
  · by_cases hl : rlong q
    · obtain ⟨_, a2, a3, _⟩ := h.long he hl
      rw [a2, a3]; simp
    · obtain ⟨l1, l2, _⟩ := rchk_ok (h.good he hl).2.1
      exact ⟨l1, l2⟩
  · obtain ⟨_, a2, a3, _⟩ := h.bad he
    rw [a2, a3]; simp
theorem make_parts {n m : Bool} {xs ys : List Int} (hx : 0 ≤ val xs) (hy : 0 < val ys) :
    0 < val ys / gcdI (val xs) (val ys) ∧ gcdI (val xs / gcdI (val xs) (val ys)) (val ys / gcdI (val xs) (val ys)) = 1 ∧ Rat.divInt (sg (n != m) (val xs / gcdI (val xs) (val ys))) (val ys / gcdI (val xs) (val ys)) = Rat.divInt (wval n xs) (wval m ys) := by
  obtain ⟨e1, e2, e3⟩ := fr_make (x := val xs) (d := val ys) (p := val xs / gcdI (val xs) (val ys)) (e := val ys / gcdI (val xs) (val ys)) hy rfl (div_gcd_left rfl) (div_gcd_right rfl)
  refine ⟨e1, e2, ?_⟩
  generalize val xs / gcdI (val xs) (val ys) = p at *
  generalize val ys / gcdI (val xs) (val ys) = e at *
  cases n <;> cases m <;> simp [sg, wval, e3, Rat.divInt_neg', ← Rat.neg_divInt]
/-- A callee's contract, at each world that may come up in a region: with what stays beside it, and where what is told lies. -/
theorem told1_in {U : World} {f : Nat} {args : Array Value} {t : Int} (S : World → Prop) (hS : ∀ w', Below U.heap.size U w' → S w') (ww : World) (hb : Below U.heap.size U ww) (C : Calls Tryz.prog f args ww (Told1 ww t)) :
    Calls Tryz.prog f args ww fun e w' => ∃ a2 zs c2, e = .returned (.slice a2 zs.length c2) ∧ Hid (One U w' (.slice a2 zs.length c2) zs t ∧ Lies (.slice a2 zs.length c2) ww.heap.size w'.heap.size) ∧ S w' ∧ Below U.heap.size U w' ∧ Hid (Below ww.heap.size ww w') :=
  Calls.mono C fun e w' h => by
    obtain ⟨v, zs, rfl, o, h1, h2, h3, hb2⟩ := h
    obtain ⟨a2, c2, hs2⟩ := own_slice' o
    subst hs2
    exact ⟨a2, zs, c2, rfl, ⟨⟨owns_base o hb.size, h1, h2, h3⟩, fun g hg => o.lt g hg⟩, hS w' (bt hb hb2), bt hb hb2, hb2⟩
theorem quot_in {U ww : World} {a : Option Addr} {ca : Nat} {xs : List Int} {a1 : Option Addr} {z1 : List Int} {c1 : Nat} {g : Int} (S : World → Prop) (hS : ∀ w', Below U.heap.size U w' → S w') (hb : Below U.heap.size U ww) (hx : Sl ww (.slice a xs.length ca) xs) (lx : xs.length ≤ 8192) (tx : Trimmed xs) (h : One U ww (.slice a1 z1.length c1) z1 g) (h0 : 0 < g) (hl : g < 4294967296 ^ 2048) :
    Calls Tryz.prog 43 #[.slice a xs.length ca, .slice a1 z1.length c1] ww fun e w' => ∃ a2 zs c2, e = .returned (.slice a2 zs.length c2) ∧ Hid (One U w' (.slice a2 zs.length c2) zs (val xs / g) ∧ Lies (.slice a2 zs.length c2) ww.heap.size w'.heap.size) ∧ S w' ∧ Below U.heap.size U w' ∧ Hid (Below ww.heap.size ww w') := by
  have e := rquot_any _ _ xs z1 ww hx h.sl lx (by have := own_len h hl; omega) tx h.2.2.1 (own_pos h h0)
  rw [h.2.2.2] at e
  exact told1_in S hS ww hb e
theorem cut_two {U u V W : World} {v w : Value} (h0 : U.heap.size ≤ u.heap.size) (h1 : u.heap.size ≤ V.heap.size) (h2 : V.heap.size ≤ W.heap.size) (l1 : Lies v u.heap.size V.heap.size) (l2 : Lies w V.heap.size W.heap.size) : Cut U v w W :=
  ⟨V.heap.size, Nat.le_trans h0 h1, h2, fun g hg => ⟨Nat.le_trans h0 (l1 g hg).1, (l1 g hg).2⟩, l2⟩
/-- What told tells, where numerator and denominator lie apart. -/
theorem rtold_cut {U ww : World} {n : Bool} {a : Option Addr} {ca : Nat} {zs : List Int} {b : Option Addr} {cb : Nat} {ds : List Int} {s t : Int} {q : Rat} (S : World → Prop) (hS : ∀ w', Below U.heap.size U w' → S w') (hb : Below U.heap.size U ww) (h1 : One U ww (.slice a zs.length ca) zs s) (h2 : One U ww (.slice b ds.length cb) ds t) (hc : Cut U (.slice a zs.length ca) (.slice b ds.length cb) ww) (hd : 0 < t) (hg : gcdI s t = 1) (hq : Rat.divInt (sg n s) t = q) :
    Calls Tryz.prog 44 #[.bool n, .slice a zs.length ca, .slice b ds.length cb] ww fun e w' => ∃ k a8 z8 c8 a9 z9 c9 code, e = .returned (.tuple #[.agg #[.bool k, .slice a8 (List.length z8) c8, .slice a9 (List.length z9) c9], .int .i64 code]) ∧ Hid (w'.ownsRow U.heap.size 62 1 (.slice a8 (List.length z8) c8) z8.length (z8.map (Value.int .u32)) ∧ w'.ownsRow U.heap.size 62 1 (.slice a9 (List.length z9) c9) z9.length (z9.map (Value.int .u32)) ∧ RTells 0 q k z8 z9 code ∧ Cut U (.slice a8 (List.length z8) c8) (.slice a9 (List.length z9) c9) w') ∧ S w' ∧ Below U.heap.size U w' := by
  obtain ⟨o1, w1, t1, v1⟩ := h1
  obtain ⟨o2, w2, t2, v2⟩ := h2
  obtain ⟨k, us, vs, c, e1, e2, e3, r⟩ := rtells_of (n := n) w1 t1 w2 t2 (by rw [v2]; exact hd) (by rw [v1, v2]; exact hg)
  rw [v1, v2, hq] at r
  refine Calls.mono (rtold_any n a zs.length ca b ds.length cb ww) fun e w' h => ?_
  obtain ⟨rfl, hb2⟩ := h
  rw [e1]
  by_cases z : c = 0
  · rw [if_pos z] at e2 e3
    subst e2; subst e3
    refine ⟨k, a, us, ca, b, vs, cb, c, by rw [if_pos z, if_pos z], ⟨owns_later o1 hb2, owns_later o2 hb2, r, hc.up (Nat.le_refl _) hb2.size⟩, hS w' (bt hb hb2), bt hb hb2⟩
  · rw [if_neg z] at e2 e3
    subst e2; subst e3
    exact ⟨k, none, [], 0, none, [], 0, c, by rw [if_neg z, if_neg z]; rfl, ⟨World.ownsRow_nil _ _ _ _, World.ownsRow_nil _ _ _ _, r, ⟨U.heap.size, Nat.le_refl _, (bt hb hb2).size, fun g hg => by simp [Value.ownBlock] at hg, fun g hg => by simp [Value.ownBlock] at hg⟩⟩, hS w' (bt hb hb2), bt hb hb2⟩
theorem RToldA.put {w U w3 : World} {e : Int} {q : Rat} {k : Bool} {v u : Value} {zs ds : List Int} {code : Int} (h : w3.ownsRow U.heap.size 62 1 v zs.length (zs.map (Value.int .u32)) ∧ w3.ownsRow U.heap.size 62 1 u ds.length (ds.map (Value.int .u32)) ∧ RTells e q k zs ds code ∧ Cut U v u w3) (b : Nat) (hb : b < U.heap.size) (hw : w.heap.size ≤ b) (hbw : Below w.heap.size w w3) (x y z : Value) :
    RToldA w e q (.returned (.tuple #[.agg #[.bool k, v, u], .int .i64 code])) (((w3.setCell ⟨b, 0, none⟩ x).setCell ⟨b, 1, none⟩ y).setCell ⟨b, 2, none⟩ z) :=
  ⟨k, v, zs, u, ds, code, rfl, owns_base (own_put3 h.1 b (fun g hg => by have := (World.ownsRow.lt h.1 g hg).1; omega) _ _ _) (by omega), owns_base (own_put3 h.2.1 b (fun g hg => by have := (World.ownsRow.lt h.2.1 g hg).1; omega) _ _ _) (by omega), h.2.2.1, below_put3 hbw b hw _ _ _, h.2.2.2.up (by omega) (by simp)⟩
/-- The error of Make. -/
def mkErr (n : Bool) (xs : List Int) (m : Bool) (ys : List Int) : Int := if wboth n xs m ys = 0 then (if ys.length = 0 then 7 else 0) else wboth n xs m ys
end Go.Proofs.YtfppimlmebnaeaaGreatDoor

/- real.words, bits.TrailingZeros64, real.fraction. -/
namespace Go.Proofs.YtfppimlmebnaeaaGreatDoor
open Go.RowKit
set_option linter.unusedVariables false

/-- The library's table of places stands as its text lays it. -/
def TabB (w : World) : Prop := ∀ j, j < 64 → w.cell? ⟨1, j, none⟩ = some (.int .u8 ((Lib.deBruijn64tab.getD j 0 : Nat) : Int))
theorem TabB.later {w w' : World} (h : TabB w) (hb : Below w.heap.size w w') : TabB w' := fun j hj => by
  have hlt : 1 < w.heap.size := by
    rcases Nat.lt_or_ge 1 w.heap.size with g | g
    · exact g
    · have e := h 0 (by omega)
      unfold World.cell? at e
      rw [Array.getElem?_eq_none g] at e
      cases e
  exact (hb.cell (p := ⟨1, j, none⟩) hlt).trans (h j hj)

set_option maxHeartbeats 1600000 in
set_option maxRecDepth 100000 in
theorem tz_core (x k idx : Nat) (w : World) (hx0 : ((x : Int) == 0) = false)
    (key : IntKind.u64.wrap (bits BinOp.and IntKind.u64 (x : Int) (IntKind.u64.wrap (-(x : Int))) * 285870213051353865) / 288230376151711744 = (idx : Int))
    (hi : idx < 64) (hk : k < 64) (hcell : w.cell? ⟨1, idx, none⟩ = some (.int .u8 (k : Int))) :
    Calls Tryz.prog 38 #[.int .u64 (x : Int)] w fun e w' => e = .returned (.int .i64 (k : Int)) ∧ w' = w := by
  go_enter Tryz.func38, Tryz.ntmps38
  go_wp2_with (simp only [key])
  go_ret
  exact ⟨rfl, rfl⟩
theorem tz_any (x : Nat) (w : World) (hx : x < 18446744073709551616) (h0 : x ≠ 0) (hT : TabB w) :
    Calls Tryz.prog 38 #[.int .u64 (x : Int)] w fun e w' => e = .returned (.int .i64 (Lib.ctz 64 x : Int)) ∧ w' = w := by
  obtain ⟨hlow, hk⟩ := Lib.lowest_bit 64 x h0 hx
  obtain ⟨hi, htab⟩ := Lib.deBruijn64_at _ hk
  have key := tz64_key x _ hx h0 hlow
  have hcell := hT _ hi
  rw [htab] at hcell
  exact tz_core x _ _ w (beq_eq_false_iff_ne.2 (by omega)) key hi hk hcell

set_option maxHeartbeats 800000 in
set_option maxRecDepth 100000 in
theorem rwords64_any (x : Nat) (w : World) (hx : x < 18446744073709551616) (h0 : x ≠ 0) :
    Calls Tryz.prog 39 #[.int .u64 (x : Int)] w fun e w' => ∃ ys : List Int, e = .returned (.slice (some ⟨w.heap.size, 0, none⟩) ys.length ys.length) ∧ OwnW w' w.heap.size w.heap.size ys.length ys ∧ Wd ys ∧ Trimmed ys ∧ val ys = x ∧ ys.length ≤ 2 ∧ Below w.heap.size w w' := by
  by_cases hb : x < 4294967296
  · have h1 : ((x : Int) / 4294967296 == 0) = true := beq_iff_eq.2 (by omega)
    have HO : Hid (OwnW (w.alloc (.cells #[.int .u32 (x : Int)] 62)) w.heap.size w.heap.size 1 [(x : Int)]) := World.ownsRow_lit w #[.int .u32 (x : Int)] 1 (Nat.le_refl _) (by simp [maxLen]) rfl
    have HW : Hid (Wd [(x : Int)] ∧ Trimmed [(x : Int)]) := ⟨Wd.one (by omega), by show sz _ = _; rw [sz_eq_iff]; right; simp; omega⟩
    have hx1 : (x : Int) ≤ 4294967295 := by omega
    clear hb hx h0
    go_enter Tryz.func39, Tryz.ntmps39
    go_wp2_with fail
    go_ret
    exact ⟨[(x : Int)], rfl, HO.out, HW.out.1, HW.out.2, val_one _, by simp, alloc_later _ _⟩
  · have h1 : ((x : Int) / 4294967296 == 0) = false := beq_eq_false_iff_ne.2 (by omega)
    obtain ⟨lo, hlo⟩ : ∃ lo, (x : Int) % 4294967296 = lo := ⟨_, rfl⟩
    obtain ⟨hi, hhi⟩ : ∃ hi, (x : Int) / 4294967296 = hi := ⟨_, rfl⟩
    have HO : Hid (OwnW (w.alloc (.cells #[.int .u32 lo, .int .u32 hi] 62)) w.heap.size w.heap.size 2 [lo, hi]) := World.ownsRow_lit w #[.int .u32 lo, .int .u32 hi] 2 (Nat.le_refl _) (by simp [maxLen]) rfl
    have HW : Hid (Wd [lo, hi] ∧ Trimmed [lo, hi] ∧ val [lo, hi] = x) := ⟨Wd.cons (by omega) (Wd.one (by omega)), by show sz _ = _; rw [sz_eq_iff]; right; simp; omega, by rw [val_two]; omega⟩
    have hi1 : hi ≤ 4294967295 := by omega
    have hi0 : 0 ≤ hi := by omega
    rw [hhi] at h1
    clear hb hx h0
    go_enter Tryz.func39, Tryz.ntmps39
    go_wp2_with fail
    go_ret
    exact ⟨[lo, hi], rfl, HO.out, HW.out.1, HW.out.2.1, HW.out.2.2, by simp, alloc_later _ _⟩

end Go.Proofs.YtfppimlmebnaeaaGreatDoor

/- real.fraction: what a float that was taken apart is, in lowest terms, in new memory. -/
namespace Go.Proofs.YtfppimlmebnaeaaGreatDoor
open Go.RowKit
set_option linter.unusedVariables false

theorem below_alloc1 {w w' : World} (h : Below w.heap.size w w') (o : Obj) : Below w.heap.size w (w'.alloc o) := bt h (alloc_later _ _)
theorem box_after {ww w2 : World} {b t : Nat} {u0 u1 u2 : Value} (hb : Below ww.heap.size ww w2) (h : Box ww b t #[u0, u1, u2]) : w2.cell? ⟨b, 0, none⟩ = some u0 ∧ w2.cell? ⟨b, 1, none⟩ = some u1 ∧ w2.cell? ⟨b, 2, none⟩ = some u2 ∧ w2.frozen? ⟨b, 0, none⟩ = false ∧ w2.frozen? ⟨b, 1, none⟩ = false ∧ w2.frozen? ⟨b, 2, none⟩ = false := res_box3 h hb
theorem below_frozen {ww w2 : World} {b j : Nat} (hb : Below ww.heap.size ww w2) (h : b < ww.heap.size) : w2.frozen? ⟨b, j, none⟩ = ww.frozen? ⟨b, j, none⟩ := by
  unfold World.frozen?
  rw [hb.block b h]
theorem cast_div_two (m k : Nat) : (m : Int) / 2 ^ k = ((m / 2 ^ k : Nat) : Int) := by
  rw [Int.natCast_ediv, Int.natCast_pow]; rfl
theorem div_odd {m k d : Nat} (hm : m < 18446744073709551616) (h0 : m ≠ 0) (hk : Lib.ctz 64 m = k) (hd : m / 2 ^ k = d) : d < 18446744073709551616 ∧ d ≠ 0 := by
  obtain ⟨j, hj, _⟩ := Lib.ctzFrom_spec 64 m (by omega) hm
  have e : Lib.ctzFrom 64 m = k := by rw [← hk]; unfold Lib.ctz; rw [if_neg h0]
  rw [e] at hj
  have hp : 0 < 2 ^ k := Nat.two_pow_pos k
  have e2 : d = 2 * j + 1 := by rw [← hd]; conv => lhs; rw [hj]
                                exact Nat.mul_div_cancel_left _ hp
  refine ⟨?_, by omega⟩
  rw [← hd]
  exact Nat.lt_of_le_of_lt (Nat.div_le_self _ _) hm

/-- What the fraction's first statement leaves: its box, the words of the count, the one. -/
def FinF (w0 W : World) (s : Bool) (d : Nat) (p g1 g2 : Nat) (ys : List Int) : Prop :=
  Box W p 24 #[.bool s, .slice (some ⟨g1, 0, none⟩) ys.length ys.length, .slice (some ⟨g2, 0, none⟩) 1 1] ∧ OwnW W w0.heap.size g1 ys.length ys ∧ OwnW W w0.heap.size g2 1 [1] ∧ (Wd ys ∧ Trimmed ys ∧ val ys = d ∧ ys.length ≤ 2) ∧ g1 ≠ g2 ∧ w0.heap.size ≤ p ∧ Below w0.heap.size w0 W
def WordsE (U w2 : World) (d : Nat) (ys : List Int) : Prop := OwnW w2 U.heap.size U.heap.size ys.length ys ∧ Wd ys ∧ Trimmed ys ∧ val ys = d ∧ ys.length ≤ 2 ∧ Below U.heap.size U w2
theorem undrew {U w2 : World} {d : Nat} {ys : List Int} (h : WordsE U.drew w2 d ys) : WordsE U w2 d ys := ⟨h.1, h.2.1, h.2.2.1, h.2.2.2.1, h.2.2.2.2.1, ⟨h.2.2.2.2.2.os, h.2.2.2.2.2.tape, h.2.2.2.2.2.output, h.2.2.2.2.2.size, h.2.2.2.2.2.block⟩⟩
theorem one_row (V : World) {b : Nat} (hb : b ≤ V.heap.size) : OwnW (V.alloc (.cells #[.int .u32 1] 62)) b V.heap.size 1 [1] := owns_base (World.ownsRow_lit V #[.int .u32 1] 1 (Nat.le_refl _) (by simp [maxLen]) rfl) hb
theorem own_up {V : World} {b g n : Nat} {ys : List Int} (h : OwnW V b g n ys) (o : Obj) : OwnW (V.alloc o) b g n ys := owns_later h (alloc_later _ _)
theorem Box.put3' {U : World} {b t : Nat} {u0 u1 u2 : Value} (h : Box U b t #[u0, u1, u2]) (v0 v1 v2 : Value) : Box (((U.setCell ⟨b, 0, none⟩ v0).setCell ⟨b, 1, none⟩ v1).setCell ⟨b, 2, none⟩ v2) b t #[v0, v1, v2] := ((h.set 0 v0).set 1 v1).set 2 v2
theorem OwnW.put3' {U : World} {b g n p t : Nat} {ys : List Int} {vs : Array Value} (h : OwnW U b g n ys) (hb : Box U p t vs) (hne : 62 ≠ t) (v0 v1 v2 : Value) : OwnW (((U.setCell ⟨p, 0, none⟩ v0).setCell ⟨p, 1, none⟩ v1).setCell ⟨p, 2, none⟩ v2) b g n ys := own_put3 h p (own_ne_box h hb hne) v0 v1 v2

theorem fin1 {w1 w2 : World} {s : Bool} {d : Nat} {ys : List Int} (h : WordsE w1 w2 d ys) : FinF w1 ((w2.alloc (.cells #[.int .u32 1] 62)).alloc (.cells #[.bool s, .slice (some ⟨w1.heap.size, 0, none⟩) ys.length ys.length, .slice (some ⟨w2.heap.size, 0, none⟩) 1 1] 24)) s d (w2.heap.size + 1) w1.heap.size w2.heap.size ys := by
  obtain ⟨h1, h2, h3, h4, h5, h6⟩ := h
  have e := Box.made (w2.alloc (.cells #[.int .u32 1] 62)) 24 #[.bool s, .slice (some ⟨w1.heap.size, 0, none⟩) ys.length ys.length, .slice (some ⟨w2.heap.size, 0, none⟩) 1 1]
  rw [World.size_alloc] at e
  exact ⟨e, own_up (own_up h1 _) _, own_up (one_row w2 h6.size) _, ⟨h2, h3, h4, h5⟩, by have := h1.base.2; omega, by have := h6.size; omega, bt h6 (bt (alloc_later _ _) (alloc_later _ _))⟩
theorem fin2 {w1 w2 : World} {s : Bool} {d : Nat} {ys : List Int} (h : WordsE w1 w2 d ys) : FinF w1 ((w2.alloc (.cells #[.bool s, .slice (some ⟨w1.heap.size, 0, none⟩) ys.length ys.length, .slice (some ⟨w2.heap.size + 1, 0, none⟩) 1 1] 24)).alloc (.cells #[.int .u32 1] 62)) s d w2.heap.size w1.heap.size (w2.heap.size + 1) ys := by
  obtain ⟨h1, h2, h3, h4, h5, h6⟩ := h
  have e := (Box.made w2 24 #[.bool s, .slice (some ⟨w1.heap.size, 0, none⟩) ys.length ys.length, .slice (some ⟨w2.heap.size + 1, 0, none⟩) 1 1]).later (alloc_later _ (.cells #[.int .u32 1] 62)) (by simp)
  have r := one_row (w2.alloc (.cells #[.bool s, .slice (some ⟨w1.heap.size, 0, none⟩) ys.length ys.length, .slice (some ⟨w2.heap.size + 1, 0, none⟩) 1 1] 24)) (b := w1.heap.size) (by rw [World.size_alloc]; have := h6.size; omega)
  rw [World.size_alloc] at r
  exact ⟨e, own_up (own_up h1 _) _, r, ⟨h2, h3, h4, h5⟩, by have := h1.base.2; omega, h6.size, bt h6 (bt (alloc_later _ _) (alloc_later _ _))⟩
theorem fin3 {w1 w2 : World} {s : Bool} {d : Nat} {ys : List Int} (h : WordsE (w1.alloc (.cells #[.int .u32 1] 62)) w2 d ys) : FinF w1 (w2.alloc (.cells #[.bool s, .slice (some ⟨w1.heap.size + 1, 0, none⟩) ys.length ys.length, .slice (some ⟨w1.heap.size, 0, none⟩) 1 1] 24)) s d w2.heap.size (w1.heap.size + 1) w1.heap.size ys := by
  obtain ⟨h1, h2, h3, h4, h5, h6⟩ := h
  rw [World.size_alloc] at h1
  exact ⟨Box.made w2 24 _, own_up (owns_base h1 (by omega)) _, own_up (owns_later (one_row w1 (Nat.le_refl _)) h6) _, ⟨h2, h3, h4, h5⟩, by omega, (bt (alloc_later _ _) h6).size, bt (bt (alloc_later _ _) h6) (alloc_later _ _)⟩
theorem fin4 {w1 w2 : World} {s : Bool} {d : Nat} {ys : List Int} (h : WordsE ((w1.alloc (.cells #[.int .u32 1] 62)).alloc (.cells #[.bool false, .slice none 0 0, .slice none 0 0] 24)) w2 d ys) : FinF w1 (((w2.setCell ⟨w1.heap.size + 1, 0, none⟩ (.bool s)).setCell ⟨w1.heap.size + 1, 1, none⟩ (.slice (some ⟨w1.heap.size + 1 + 1, 0, none⟩) ys.length ys.length)).setCell ⟨w1.heap.size + 1, 2, none⟩ (.slice (some ⟨w1.heap.size, 0, none⟩) 1 1)) s d (w1.heap.size + 1) (w1.heap.size + 1 + 1) w1.heap.size ys := by
  obtain ⟨h1, h2, h3, h4, h5, h6⟩ := h
  rw [World.size_alloc, World.size_alloc] at h1
  have b0 := Box.made (w1.alloc (.cells #[.int .u32 1] 62)) 24 #[.bool false, .slice none 0 0, .slice none 0 0]
  have b1 := b0.later h6 b0.lt
  rw [World.size_alloc] at b1
  have r := owns_later (own_up (one_row w1 (Nat.le_refl _)) (.cells #[.bool false, .slice none 0 0, .slice none 0 0] 24)) h6
  exact ⟨b1.put3' _ _ _, OwnW.put3' (owns_base h1 (by omega)) b1 (by decide) _ _ _, OwnW.put3' r b1 (by decide) _ _ _, ⟨h2, h3, h4, h5⟩, by omega, by omega, below_put3 (bt (bt (alloc_later _ _) (alloc_later _ _)) h6) _ (by omega) _ _ _⟩
theorem fin5 {w1 w2 : World} {s : Bool} {d : Nat} {ys : List Int} (h : WordsE (w1.alloc (.cells #[.bool false, .slice none 0 0, .slice none 0 0] 24)) w2 d ys) : FinF w1 ((((w2.setCell ⟨w1.heap.size, 0, none⟩ (.bool s)).setCell ⟨w1.heap.size, 1, none⟩ (.slice (some ⟨w1.heap.size + 1, 0, none⟩) ys.length ys.length)).setCell ⟨w1.heap.size, 2, none⟩ (.slice (some ⟨w2.heap.size, 0, none⟩) 1 1)).alloc (.cells #[.int .u32 1] 62)) s d w1.heap.size (w1.heap.size + 1) w2.heap.size ys := by
  obtain ⟨h1, h2, h3, h4, h5, h6⟩ := h
  rw [World.size_alloc] at h1
  have b0 := Box.made w1 24 #[.bool false, .slice none 0 0, .slice none 0 0]
  have b1 := b0.later h6 b0.lt
  have hsz : (((w2.setCell ⟨w1.heap.size, 0, none⟩ (.bool s)).setCell ⟨w1.heap.size, 1, none⟩ (.slice (some ⟨w1.heap.size + 1, 0, none⟩) ys.length ys.length)).setCell ⟨w1.heap.size, 2, none⟩ (.slice (some ⟨w2.heap.size, 0, none⟩) 1 1)).heap.size = w2.heap.size := by simp [World.setCell]
  have r := one_row (((w2.setCell ⟨w1.heap.size, 0, none⟩ (.bool s)).setCell ⟨w1.heap.size, 1, none⟩ (.slice (some ⟨w1.heap.size + 1, 0, none⟩) ys.length ys.length)).setCell ⟨w1.heap.size, 2, none⟩ (.slice (some ⟨w2.heap.size, 0, none⟩) 1 1)) (b := w1.heap.size) (by rw [hsz]; exact (bt (alloc_later _ _) h6).size)
  rw [hsz] at r
  have b2 := (b1.put3' (.bool s) (.slice (some ⟨w1.heap.size + 1, 0, none⟩) ys.length ys.length) (.slice (some ⟨w2.heap.size, 0, none⟩) 1 1))
  exact ⟨b2.later (alloc_later _ _) b2.lt, own_up (OwnW.put3' (owns_base h1 (by omega)) b1 (by decide) _ _ _) _, r, ⟨h2, h3, h4, h5⟩, by have := h1.base.2; omega, Nat.le_refl _, bt (below_put3 (bt (alloc_later _ _) h6) _ (Nat.le_refl _) _ _ _) (alloc_later _ _)⟩
theorem fin6 {w1 w2 : World} {s : Bool} {d : Nat} {ys : List Int} (h : WordsE ((w1.alloc (.cells #[.bool false, .slice none 0 0, .slice none 0 0] 24)).alloc (.cells #[.int .u32 1] 62)) w2 d ys) : FinF w1 (((w2.setCell ⟨w1.heap.size, 0, none⟩ (.bool s)).setCell ⟨w1.heap.size, 1, none⟩ (.slice (some ⟨w1.heap.size + 1 + 1, 0, none⟩) ys.length ys.length)).setCell ⟨w1.heap.size, 2, none⟩ (.slice (some ⟨w1.heap.size + 1, 0, none⟩) 1 1)) s d w1.heap.size (w1.heap.size + 1 + 1) (w1.heap.size + 1) ys := by
  obtain ⟨h1, h2, h3, h4, h5, h6⟩ := h
  rw [World.size_alloc, World.size_alloc] at h1
  have b0 := (Box.made w1 24 #[.bool false, .slice none 0 0, .slice none 0 0]).later (alloc_later _ (.cells #[.int .u32 1] 62)) (by simp)
  have b1 := b0.later h6 b0.lt
  have r := owns_later (one_row (w1.alloc (.cells #[.bool false, .slice none 0 0, .slice none 0 0] 24)) (b := w1.heap.size) (by rw [World.size_alloc]; omega)) h6
  rw [World.size_alloc] at r
  exact ⟨b1.put3' _ _ _, OwnW.put3' (owns_base h1 (by omega)) b1 (by decide) _ _ _, OwnW.put3' r b1 (by decide) _ _ _, ⟨h2, h3, h4, h5⟩, by omega, by omega, below_put3 (bt (bt (alloc_later _ _) (alloc_later _ _)) h6) _ (Nat.le_refl _) _ _ _⟩

end Go.Proofs.YtfppimlmebnaeaaGreatDoor

/- real.begin: two numbers shifted till they have as many bits as each other. -/
namespace Go.Proofs.YtfppimlmebnaeaaGreatDoor
open Go.RowKit
set_option linter.unusedVariables false

theorem cell_made1 (W : World) (t : Nat) : (W.alloc (.cells #[.int .u32 0] t)).cell? ⟨W.heap.size, 0, none⟩ = some (.int .u32 0) := (Box.made W t #[.int .u32 0]).cell 0
theorem cell_made2 (W : World) (t : Nat) (o : Obj) : ((W.alloc (.cells #[.int .u32 0] t)).alloc o).cell? ⟨W.heap.size, 0, none⟩ = some (.int .u32 0) := ((Box.made W t #[.int .u32 0]).later (alloc_later _ _) (Box.made W t #[.int .u32 0]).lt).cell 0
theorem cell_made3 (W : World) (t : Nat) (o : Obj) : ((W.alloc o).alloc (.cells #[.int .u32 0] t)).cell? ⟨W.heap.size + 1, 0, none⟩ = some (.int .u32 0) := by
  have h := (Box.made (W.alloc o) t #[.int .u32 0]).cell 0
  rw [show (W.alloc o).heap.size = W.heap.size + 1 by simp] at h
  exact h
theorem cell_kept2 {W v : World} {t : Nat} {o : Obj} (b : Below ((W.alloc (.cells #[.int .u32 0] t)).alloc o).drew.heap.size ((W.alloc (.cells #[.int .u32 0] t)).alloc o).drew v) : v.cell? ⟨W.heap.size, 0, none⟩ = some (.int .u32 0) :=
  (b.cell (p := ⟨W.heap.size, 0, none⟩) (by simp; omega)).trans (cell_made2 W t o)
theorem cell_kept3 {W v : World} {t : Nat} {o : Obj} (b : Below ((W.alloc o).alloc (.cells #[.int .u32 0] t)).drew.heap.size ((W.alloc o).alloc (.cells #[.int .u32 0] t)).drew v) : v.cell? ⟨W.heap.size + 1, 0, none⟩ = some (.int .u32 0) :=
  (b.cell (p := ⟨W.heap.size + 1, 0, none⟩) (by simp)).trans (cell_made3 W t o)

theorem step_grow1 {ops : Array Oper} {o : Oper} {act : Act} {w : World} {K : Act → World → Prop} {Q : Exit → Act → World → Prop} {E : Prop} (X : World) (hX : Below X.heap.size X w)
    (hg : o.guard = none) (s x : Operand) (hop : o.op = Op.call { callee := Callee.builtin Builtin.append, args := #[s, x], argTypes := #[22, 22] })
    (g n : Nat) (base : Nat) (xs : List Int) (hs : act.eval s = .slice (some ⟨g, 0, none⟩) n n) (hown : OwnC w base g n n xs)
    (b : Nat) (hx : act.eval x = .slice (some ⟨b, 0, none⟩) 1 1) (hb : w.cell? ⟨b, 0, none⟩ = some (.int .u32 0)) (hn : n ≤ 1048576)
    (hK : ∀ g' c' w', OwnC w' X.heap.size g' (n + 1) c' (xs ++ [0]) → Below X.heap.size X w' → Below w.heap.size w w' → K (act.put o.dst (.slice (some ⟨g', 0, none⟩) (n + 1) c')) w') :
    if Region.wanted o (yielded ops act.tmps) = true then Oper.wp Tryz.prog o act w K Q else E :=
  step_grow0 hg s x hop g n base xs hs hown b hx hb hn (fun g' c' w' o1 b1 => hK g' c' w' (owns_base o1 hX.size) (bt hX b1) b1)
theorem dbl_pow (a P : Int) : 2 * (a * P) = a * (P * 2) := by grind
theorem val_end0 (ls : List Int) : val (ls ++ [0]) = val ls := val_eq_of fun j => by
  rw [List.getElem?_append]
  split
  · rfl
  · rename_i h
    rw [List.getElem?_eq_none (by omega : ls.length ≤ j)]
    rcases Nat.eq_zero_or_pos (j - ls.length) with g | g
    · rw [g]; rfl
    · rw [List.getElem?_eq_none (by simp; omega)]
/-- What stands behind the two appends. -/
structure BegCut (w : World) (pd k : Nat) (p : Int) (zs us : List Int) (wx : World) : Prop where
  rows : ∃ g1 c1 g2 c2, OwnC wx w.heap.size g1 (k + 1) c1 (zs ++ [0]) ∧ OwnC wx w.heap.size g2 (k + 1) c2 (us ++ [0]) ∧ g1 ≠ g2 ∧ g1 ≠ pd ∧ g2 ≠ pd ∧ Box wx pd 84 #[.slice (some ⟨g1, 0, none⟩) (k + 1) c1, .slice (some ⟨g2, 0, none⟩) (k + 1) c2, .int .i64 p]
  res : Box wx w.heap.size 84 #[.slice none 0 0, .slice none 0 0, .int .i64 0]
  bel : Below w.heap.size w wx
theorem own_set {W : World} {base g n cap pd j : Nat} {ys : List Int} {v : Value} (h : OwnC W base g n cap ys) (hne : g ≠ pd) : OwnC (W.setCell ⟨pd, j, none⟩ v) base g n cap ys := ownsRow_setCell_other h (by simp [Value.ownBlock]; exact hne) _
theorem beg_fin {w X v1 v2 : World} {pd k : Nat} {p : Int} {zs us : List Int} {a b : Value} {g1 c1 g2 c2 : Nat} (hbw : Below w.heap.size w X) (hbx : Box X pd 84 #[a, b, .int .i64 p]) (hr : Box X w.heap.size 84 #[.slice none 0 0, .slice none 0 0, .int .i64 0]) (hpd : w.heap.size < pd)
    (hb1 : Below X.heap.size X v1) (o1 : OwnC v1 X.heap.size g1 (k + 1) c1 (zs ++ [0])) (hb2 : Below v1.heap.size v1 v2) (o2 : OwnC v2 v1.heap.size g2 (k + 1) c2 (us ++ [0])) :
    BegCut w pd k p zs us ((v2.setCell ⟨pd, 0, none⟩ (.slice (some ⟨g1, 0, none⟩) (k + 1) c1)).setCell ⟨pd, 1, none⟩ (.slice (some ⟨g2, 0, none⟩) (k + 1) c2)) := by
  have l1 := o1.base
  have l2 := o2.base
  have lp := hbx.lt
  have s1 := hb1.size
  have s0 := hbw.size
  have n1 : g1 ≠ pd := by omega
  have n2 : g2 ≠ pd := by omega
  have hB := bt hb1 hb2
  refine ⟨⟨g1, c1, g2, c2, owns_base (own_set (own_set (owns_later o1 hb2) n1) n1) s0, owns_base (own_set (own_set o2 n2) n2) (by omega), by omega, n1, n2, ?_⟩, ?_, ?_⟩
  · exact ((hbx.later hB lp).set 0 _).set 1 _
  · exact ((hr.later hB hr.lt).other ⟨pd, 0, none⟩ _ (by show w.heap.size ≠ pd; omega)).other ⟨pd, 1, none⟩ _ (by show w.heap.size ≠ pd; omega)
  · exact ((bt hbw hB).setCell (p := ⟨pd, 0, none⟩) (by show w.heap.size ≤ pd; omega) _).setCell (p := ⟨pd, 1, none⟩) (by show w.heap.size ≤ pd; omega) _

set_option maxHeartbeats 1600000 in
set_option maxRecDepth 100000 in
theorem begin_any (a : Option Addr) (n cap : Nat) (xs : List Int) (b : Option Addr) (m cap' : Nat) (ys : List Int) (w : World) (h : Reads w w.heap.size a (n + 1) cap xs) (g : Reads w w.heap.size b (m + 1) cap' ys) (hn : n ≤ 2048) (hm : m ≤ 2048) (tx : Trimmed xs) (ty : Trimmed ys) :
    Calls Tryz.prog 49 #[.slice a (n + 1) cap, .slice b (m + 1) cap'] w fun e w' => ∃ (g1 g2 N c1 c2 : Nat) (R B : List Int) (i j : Nat), e = .returned (.agg #[.slice (some ⟨g1, 0, none⟩) N c1, .slice (some ⟨g2, 0, none⟩) N c2, .int .i64 ((j : Int) - (i : Int))]) ∧ OwnC w' w.heap.size g1 N c1 R ∧ OwnC w' w.heap.size g2 N c2 B ∧ Wd R ∧ Wd B ∧ g1 ≠ g2 ∧ N ≤ 2050 ∧ i ≤ 65601 ∧ j ≤ 65600 ∧ val R = val xs * 2 ^ i ∧ val B = val ys * 2 ^ j ∧ val B ≤ val R ∧ val R < 2 * val B ∧ 2 * val B < 4294967296 ^ N ∧ Below w.heap.size w w' := by
  obtain ⟨X0, hX0⟩ : ∃ X0, w.alloc (.cells #[.slice none 0 0, .slice none 0 0, .int .i64 0] 84) = X0 := ⟨_, rfl⟩
  have hb0 : Below w.heap.size w X0 := by rw [← hX0]; exact alloc_later _ _
  have HB0 := hid hb0
  have HR0 : Hid (Box X0 w.heap.size 84 #[.slice none 0 0, .slice none 0 0, .int .i64 0]) := by rw [← hX0]; exact Box.made w _ _
  have HX := hid h
  have HY := hid g
  have sx : sz xs = n + 1 := by rw [tx]; exact h.1
  have sy : sz ys = m + 1 := by rw [ty]; exact g.1
  obtain ⟨a1, a2, a3, a4, a5⟩ := bits_bounds h.2.1 (by omega)
  obtain ⟨b1, b2, b3, b4, b5⟩ := bits_bounds g.2.1 (by omega)
  have HLX := hid (rlength_any a n cap xs X0 (h.later hb0 hb0.size) (by omega) tx)
  have HLY := hid (rlength_any b m cap' ys X0 (g.later hb0 hb0.size) (by omega) ty)
  have HSX : Hid (∀ V, Below w.heap.size w V → Calls Tryz.prog 40 #[.slice a (n + 1) cap, .int .i64 ((bitsOf ys - bitsOf xs : Nat) : Int)] V fun e w' => ∃ ys' : List Int, e = .returned (.slice (some ⟨V.heap.size, 0, none⟩) ys'.length ys'.length) ∧ OwnW w' V.heap.size V.heap.size ys'.length ys' ∧ Wd ys' ∧ Trimmed ys' ∧ val ys' = val xs * 2 ^ (bitsOf ys - bitsOf xs) ∧ Below V.heap.size V w') := fun V hv => rshifted_s a n cap xs _ V (h.later hv hv.size) (by omega) tx (by omega)
  have HSY : Hid (∀ V, Below w.heap.size w V → Calls Tryz.prog 40 #[.slice b (m + 1) cap', .int .i64 ((bitsOf xs - bitsOf ys : Nat) : Int)] V fun e w' => ∃ ys' : List Int, e = .returned (.slice (some ⟨V.heap.size, 0, none⟩) ys'.length ys'.length) ∧ OwnW w' V.heap.size V.heap.size ys'.length ys' ∧ Wd ys' ∧ Trimmed ys' ∧ val ys' = val ys * 2 ^ (bitsOf xs - bitsOf ys) ∧ Below V.heap.size V w') := fun V hv => rshifted_s b m cap' ys _ V (g.later hv hv.size) (by omega) ty (by omega)
  have HBV := hid (fun zs us => begin_vals (zs := zs) (us := us) h.2.1 (by omega) g.2.1 (by omega))
  have lx : bitsOf xs ≤ 65600 := by omega
  have ly : bitsOf ys ≤ 65600 := by omega
  have hl1 : (bitsOf ys - bitsOf xs : Nat) ≤ 65600 := by omega
  have hl2 : (bitsOf xs - bitsOf ys : Nat) ≤ 65600 := by omega
  obtain ⟨p, hp⟩ : ∃ p, (bitsOf xs : Int) - (bitsOf ys : Int) = p := ⟨_, rfl⟩
  have HPP := hid hp
  have m1 : ∀ (ts : Array TypeId) (t : TypeId) (P : Program) (W : World), (Builtin.max_ ts t #[.int .i64 0, .int .i64 (-p)]).run P W = .ok (.int .i64 ((bitsOf ys - bitsOf xs : Nat) : Int)) W := fun ts t P W => by
    rw [run_max_int2]; split <;> (congr 2; omega)
  have m2 : ∀ (ts : Array TypeId) (t : TypeId) (P : Program) (W : World), (Builtin.max_ ts t #[.int .i64 0, .int .i64 p]).run P W = .ok (.int .i64 ((bitsOf xs - bitsOf ys : Nat) : Int)) W := fun ts t P W => by
    rw [run_max_int2]; split <;> (congr 2; omega)
  have HP : Hid (p = ((bitsOf xs - bitsOf ys : Nat) : Int) - ((bitsOf ys - bitsOf xs : Nat) : Int)) := by show _ = _; omega
  have p0 : -65600 ≤ p := by omega
  have p1 : p ≤ 65600 := by omega
  generalize bitsOf ys - bitsOf xs = s1 at *
  generalize bitsOf xs - bitsOf ys = s2 at *
  generalize bitsOf xs = Lx at *
  generalize bitsOf ys = Ly at *
  clear HPP a1 a2 a3 a4 a5 b1 b2 b3 b4 b5 h g sx sy tx ty hb0
  go_enter Tryz.func49, Tryz.ntmps49
  go_wp2_with fail
  refine Calls.mono HLX.out ?_
  rintro e w1 ⟨rfl, rfl⟩
  go_wp2_with fail
  refine Calls.mono HLY.out ?_
  rintro e w1 ⟨rfl, rfl⟩
  clear HLX HLY
  have HS1 := hid (HSX.out _ HB0.out)
  go_wp2_with fail
  refine Calls.mono HS1.out ?_
  rintro e w2 ⟨zs, rfl, oz, wz, tz, vz, bz⟩
  have HBZ := hid (bt HB0.out bz)
  have HS2 := hid (HSY.out _ HBZ.out)
  go_wp2_with fail
  refine Calls.mono HS2.out ?_
  rintro e w3 ⟨us, rfl, ou, wu, tu, vu, bu⟩
  clear HS1 HS2 HSX HSY
  obtain ⟨q1, q2, q3, q4, q5, q6, q7⟩ := HBV.out zs us wz tz wu tu vz vu
  rw [q1] at ou ⊢
  have hk : zs.length ≤ 2049 := by
    have e1 := HX.out.1
    have e2 := HY.out.1
    have e3 := sz_le xs
    have e4 := sz_le ys
    omega
  have HQ := hid (And.intro q4 (And.intro q5 (And.intro q6 q7)))
  clear HBV q1 q3 q4 q5 q6 q7 tz tu
  obtain ⟨k, hkk⟩ : ∃ k, zs.length = k := ⟨_, rfl⟩
  rw [hkk] at oz ou hk q2 HQ ⊢
  have HKK := hid hkk
  obtain ⟨X, hX⟩ : ∃ X, w3.alloc (.cells #[.slice (some ⟨w1.heap.size, 0, none⟩) k k, .slice (some ⟨w2.heap.size, 0, none⟩) k k, .int .i64 p] 84) = X := ⟨_, rfl⟩
  have bX : Below w3.heap.size w3 X := by rw [← hX]; exact alloc_later _ _
  have HBX : Hid (Box X w3.heap.size 84 #[.slice (some ⟨w1.heap.size, 0, none⟩) k k, .slice (some ⟨w2.heap.size, 0, none⟩) k k, .int .i64 p]) := by rw [← hX]; exact Box.made w3 _ _
  have HOZ : Hid (∀ V, Below X.heap.size X V → OwnC V w1.heap.size w1.heap.size k k zs) := fun V hv => owns_later (owns_later (owns_later oz bu) bX) hv
  have HOU : Hid (∀ V, Below X.heap.size X V → OwnC V w2.heap.size w2.heap.size k k us) := fun V hv => owns_later (owns_later ou bX) hv
  have HC : Hid (∀ V, Below X.heap.size X V → V.cell? ⟨w3.heap.size, 0, none⟩ = some (.slice (some ⟨w1.heap.size, 0, none⟩) k k) ∧ V.cell? ⟨w3.heap.size, 1, none⟩ = some (.slice (some ⟨w2.heap.size, 0, none⟩) k k) ∧ V.frozen? ⟨w3.heap.size, 0, none⟩ = false ∧ V.frozen? ⟨w3.heap.size, 1, none⟩ = false) := fun V hv => by
    have h := HBX.out.later hv HBX.out.lt
    exact ⟨h.cell 0, h.cell 1, h.free 0, h.free 1⟩
  obtain ⟨c0, c1, f0, f1⟩ := HC.out X (Below.refl _ _)
  have l0 : w3.heap.size < X.heap.size := HBX.out.lt
  have l0' := Nat.ne_of_lt l0
  have HBW := hid (bt HBZ.out (bt bu bX))
  have h12 : w1.heap.size < w2.heap.size := (OwnC.base (owns_later oz (Below.refl _ _))).2
  have h23 : w2.heap.size < w3.heap.size := (OwnC.base (owns_later ou (Below.refl _ _))).2
  have h01 : w.heap.size < w1.heap.size := HR0.out.lt
  have HR1 := hid (HR0.out.later (bt bz (bt bu bX)) HR0.out.lt)
  clear oz ou bz bu bX HB0 HR0 hX0 HBZ hkk
  go_upto_region 3 with fail
  clear hX
  go_cut [31] from 23 (fun s wx => Hid (BegCut w w3.heap.size k p zs us wx))
  case first =>
    go_region_law (first
      | (refine step_grow1 X ?_ rfl (.tmp 24) (.tmp 25) rfl w1.heap.size k w1.heap.size zs rfl (HOZ.out _ ?_) _ rfl ?_ (by omega) ?_
         · repeat' first | exact Below.refl _ _ | refine below_alloc1 ?_ _ | refine Below.drew ?_
         · repeat' first | exact Below.refl _ _ | refine below_alloc1 ?_ _ | refine Below.drew ?_
         · first | exact cell_made1 _ _ | exact cell_made2 _ _ _ | exact cell_made3 _ _ _
         intro g1' c1' v1 o1 hb1 b1
         obtain ⟨c0', c1'', f0', f1'⟩ := HC.out v1 hb1
         have n1 : w3.heap.size < v1.heap.size := Nat.lt_of_lt_of_le l0 hb1.size
         have n1' := Nat.ne_of_lt n1)
      | (refine step_grow1 v1 ?_ rfl (.tmp 28) (.tmp 29) rfl w2.heap.size k w2.heap.size us rfl (HOU.out _ ?_) _ rfl ?_ (by omega) ?_
         · repeat' first | exact Below.refl _ _ | refine below_alloc1 ?_ _ | refine Below.drew ?_
         · repeat' first | exact hb1 | refine below_alloc1 ?_ _ | refine Below.drew ?_
         · first | exact cell_made1 _ _ | exact cell_kept2 b1 | exact cell_kept3 b1
         intro g2' c2' v2 o2 hb2 b2
         obtain ⟨d0', d1', e0', e1'⟩ := HC.out v2 (bt hb1 hb2)
         have n2 : w3.heap.size < v2.heap.size := Nat.lt_of_lt_of_le n1 hb2.size
         have n2' := Nat.ne_of_lt n2))
    all_goals
      go_wp2_with fail
      go_meet
      case rel => exact beg_fin HBW.out HBX.out HR1.out (Nat.lt_trans h01 (Nat.lt_trans h12 h23)) hb1 o1 hb2 o2
  case rest =>
    obtain ⟨g1, c1', g2, c2', o1, o2, hne, n1, n2, hbx⟩ := hcut.out.rows
    have HRES := hid hcut.out.res
    have HBEL := hid hcut.out.bel
    have hpd : w.heap.size < w3.heap.size := Nat.lt_trans h01 (Nat.lt_trans h12 h23)
    clear hcut HOZ HOU HC c0 c1 f0 f1 l0 l0' HBW h12 h23 h01 HR1 HBX m1 m2 hp lx ly
    generalize w3.heap.size = pd at *
    have r1 : g1 ≠ w.heap.size := own_ne_box o1 HRES.out (by decide) g1 rfl
    have r2 : g2 ≠ w.heap.size := own_ne_box o2 HRES.out (by decide) g2 rfl
    have vz0 : val (zs ++ [0]) = val zs := val_end0 zs
    have vu0 : val (us ++ [0]) = val us := val_end0 us
    have wz0 : Wd (zs ++ [0]) := wz.append (Wd.one (by omega))
    have wu0 : Wd (us ++ [0]) := wu.append (Wd.one (by omega))
    have HCM := hid (rcompare_any (some ⟨g1, 0, none⟩) (k + 1) c1' (zs ++ [0]) (some ⟨g2, 0, none⟩) c2' (us ++ [0]) wc (readsC o1 wz0) (readsC o2 wu0) (by omega))
    rw [vz0, vu0] at HCM
    have HBX := hid hbx
    have HO1 := hid o1
    have HO2 := hid o2
    have HV := hid (And.intro vz vu)
    have HW0 := hid (And.intro wz0 wu0)
    have HV0 := hid (And.intro vz0 vu0)
    have d0 : wc.cell? ⟨pd, 0, none⟩ = some (.slice (some ⟨g1, 0, none⟩) (k + 1) c1') := hbx.cell 0
    have d1 : wc.cell? ⟨pd, 1, none⟩ = some (.slice (some ⟨g2, 0, none⟩) (k + 1) c2') := hbx.cell 1
    clear o1 o2 hbx wz wu wz0 wu0 vz vu vz0 vu0
    have hRb : w.heap.size < wc.heap.size := HRES.out.lt
    have hPb : pd < wc.heap.size := HBX.out.lt
    by_cases hlt : val zs < val us
    · have hc : cmpI (val zs) (val us) = -1 := cmpI_lt hlt
      rw [hc] at HCM
      have HLT := hid hlt
      clear hc hlt
      go_wp2_with fail
      refine Calls.mono HCM.out ?_
      rintro e w4 ⟨rfl, b4⟩
      have HB4 := hid b4
      have HX4 := hid (HBX.out.later b4 hPb)
      have HR4 := hid (HRES.out.later b4 hRb)
      have HO4 := hid (owns_later HO1.out b4 : OwnC w4 w.heap.size g1 (k + 1) c1' (zs ++ [0]))
      have HU4 := hid (owns_later HO2.out b4 : OwnC w4 w.heap.size g2 (k + 1) c2' (us ++ [0]))
      have HD := hid (rdouble_any w.heap.size g1 (k + 1) c1' (zs ++ [0]) w4 HO4.out HW0.out.1 (by omega))
      have d0' : w4.cell? ⟨pd, 0, none⟩ = some (.slice (some ⟨g1, 0, none⟩) (k + 1) c1') := HX4.out.cell 0
      clear HCM d0 d1 b4
      go_wp2_with fail
      refine Calls.mono HD.out ?_
      rintro e w5 ⟨rs, c, rfl, z1, z2, z3, z4, z5, z6⟩
      have HX5 := hid (HX4.out.keptBy z6 (Ne.symm n1))
      have HR5 := hid (HR4.out.keptBy z6 (Ne.symm r1))
      have HU5 := hid (OwnC.keptBy HU4.out z6 (Ne.symm hne))
      have HZV : Hid (val rs = 2 * val zs) := by
        have e := dbl_room z2 z1.len z4 z3 (by rw [HV0.out.1]; exact HQ.out.2.2.1)
        rw [HV0.out.1] at e
        exact e
      have hB5 : Below w.heap.size w w5 := (bt HBEL.out HB4.out).grown z6 (by have := HBEL.out.size; have := HB4.out.size; omega) (fun q hq => by cases hq; exact (OwnC.base HO4.out).1)
      have HB5 := hid hB5
      have HZ1 := hid z1
      have HZ2 := hid z2
      have p0' : w5.cell? ⟨pd, 0, none⟩ = some (.slice (some ⟨g1, 0, none⟩) (k + 1) c1') := HX5.out.cell 0
      have p1' : w5.cell? ⟨pd, 1, none⟩ = some (.slice (some ⟨g2, 0, none⟩) (k + 1) c2') := HX5.out.cell 1
      have p2' : w5.cell? ⟨pd, 2, none⟩ = some (.int .i64 p) := HX5.out.cell 2
      have q0' := HX5.out.free 2
      have q1' := HR5.out.free 0
      have q2' := HR5.out.free 1
      have q3' := HR5.out.free 2
      have t0' : w5.cell? ⟨w.heap.size, 0, none⟩ = some (.slice none 0 0) := HR5.out.cell 0
      have t1' : w5.cell? ⟨w.heap.size, 1, none⟩ = some (.slice none 0 0) := HR5.out.cell 1
      have t2' : w5.cell? ⟨w.heap.size, 2, none⟩ = some (.int .i64 0) := HR5.out.cell 2
      have hne' : w.heap.size ≠ pd := Nat.ne_of_lt hpd
      clear HD d0' z1 z2 z3 z4 z5 z6 hB5
      go_wp2_with fail
      have B1 := (((HR5.out.other ⟨pd, 2, none⟩ (.int .i64 (p - 1)) hne').set 0 (.slice (some ⟨g1, 0, none⟩) (k + 1) c1')).set 1 (.slice (some ⟨g2, 0, none⟩) (k + 1) c2')).set 2 (.int .i64 (p - 1))
      have hpj : p - 1 = (s2 : Int) - ((s1 + 1 : Nat) : Int) := by have := HP.out; omega
      refine bodyPost_ret (results_cell_row (by rfl) _ _ w.heap.size 84 _ (0, 0) _ (by rfl) B1 Tryz.underlying84 rfl (by kernel_rfl)) rfl ?_
      refine ⟨g1, g2, k + 1, c1', c2', rs, us ++ [0], s1 + 1, s2, by rw [← hpj]; rfl, own_set (own_set (own_set (own_set HZ1.out n1) r1) r1) r1, own_set (own_set (own_set (own_set HU5.out n2) r2) r2) r2, HZ2.out, HW0.out.2, hne, by omega, by omega, by omega, ?_, by rw [HV0.out.2]; exact HV.out.2, ?_, ?_, by rw [HV0.out.2]; exact HQ.out.2.2.2, ?_⟩
      · rw [HZV.out, HV.out.1, Int.pow_succ]; exact dbl_pow _ _
      · rw [HZV.out, HV0.out.2]; have := HQ.out.2.1; omega
      · rw [HZV.out, HV0.out.2]; have := HLT.out; omega
      · exact (((HB5.out.setCell (p := ⟨pd, 2, none⟩) (by show w.heap.size ≤ pd; omega) _).setCell (p := ⟨w.heap.size, 0, none⟩) (Nat.le_refl _) _).setCell (p := ⟨w.heap.size, 1, none⟩) (Nat.le_refl _) _).setCell (p := ⟨w.heap.size, 2, none⟩) (Nat.le_refl _) _
    · have hc : 0 ≤ cmpI (val zs) (val us) := by unfold cmpI; rw [if_neg hlt]; split <;> omega
      obtain ⟨cc, hcc⟩ : ∃ cc, cmpI (val zs) (val us) = cc := ⟨_, rfl⟩
      rw [hcc] at HCM hc
      have HLT := hid hlt
      clear hcc hlt
      go_wp2_with fail
      refine Calls.mono HCM.out ?_
      rintro e w4 ⟨rfl, b4⟩
      have HX4 := hid (HBX.out.later b4 hPb)
      have HR4 := hid (HRES.out.later b4 hRb)
      have HO4 := hid (owns_later HO1.out b4 : OwnC w4 w.heap.size g1 (k + 1) c1' (zs ++ [0]))
      have HU4 := hid (owns_later HO2.out b4 : OwnC w4 w.heap.size g2 (k + 1) c2' (us ++ [0]))
      have HB5 := hid (bt HBEL.out b4)
      have p0' : w4.cell? ⟨pd, 0, none⟩ = some (.slice (some ⟨g1, 0, none⟩) (k + 1) c1') := HX4.out.cell 0
      have p1' : w4.cell? ⟨pd, 1, none⟩ = some (.slice (some ⟨g2, 0, none⟩) (k + 1) c2') := HX4.out.cell 1
      have p2' : w4.cell? ⟨pd, 2, none⟩ = some (.int .i64 p) := HX4.out.cell 2
      have q1' := HR4.out.free 0
      have q2' := HR4.out.free 1
      have q3' := HR4.out.free 2
      have t0' : w4.cell? ⟨w.heap.size, 0, none⟩ = some (.slice none 0 0) := HR4.out.cell 0
      have t1' : w4.cell? ⟨w.heap.size, 1, none⟩ = some (.slice none 0 0) := HR4.out.cell 1
      have t2' : w4.cell? ⟨w.heap.size, 2, none⟩ = some (.int .i64 0) := HR4.out.cell 2
      have hne' : w.heap.size ≠ pd := Nat.ne_of_lt hpd
      clear HCM d0 d1 b4
      go_wp2_with fail
      have B1 := ((HR4.out.set 0 (.slice (some ⟨g1, 0, none⟩) (k + 1) c1')).set 1 (.slice (some ⟨g2, 0, none⟩) (k + 1) c2')).set 2 (.int .i64 p)
      have hpj : p = (s2 : Int) - (s1 : Int) := HP.out
      refine bodyPost_ret (results_cell_row (by rfl) _ _ w.heap.size 84 _ (0, 0) _ (by rfl) B1 Tryz.underlying84 rfl (by kernel_rfl)) rfl ?_
      refine ⟨g1, g2, k + 1, c1', c2', zs ++ [0], us ++ [0], s1, s2, by rw [← hpj]; rfl, own_set (own_set (own_set HO4.out r1) r1) r1, own_set (own_set (own_set HU4.out r2) r2) r2, HW0.out.1, HW0.out.2, hne, by omega, by omega, by omega, by rw [HV0.out.1]; exact HV.out.1, by rw [HV0.out.2]; exact HV.out.2, ?_, ?_, by rw [HV0.out.2]; exact HQ.out.2.2.2, ?_⟩
      · rw [HV0.out.1, HV0.out.2]; have := HLT.out; omega
      · rw [HV0.out.1, HV0.out.2]; exact HQ.out.1
      · exact ((HB5.out.setCell (p := ⟨w.heap.size, 0, none⟩) (Nat.le_refl _) _).setCell (p := ⟨w.heap.size, 1, none⟩) (Nat.le_refl _) _).setCell (p := ⟨w.heap.size, 2, none⟩) (Nat.le_refl _) _

end Go.Proofs.YtfppimlmebnaeaaGreatDoor

/- real.putTogether: the float of a count and a unit. -/
namespace Go.Proofs.YtfppimlmebnaeaaGreatDoor
open Go.RowKit
set_option linter.unusedVariables false

set_option maxHeartbeats 800000 in
set_option maxRecDepth 100000 in
theorem putTogether_any (s : Bool) (m E : Nat) (u : Int) (w : World) (hu : u = (E : Int) - 1074) (hE : E ≤ 2047) (hm : m ≤ 9007199254740992) :
    Calls Tryz.prog 52 #[.agg #[.bool s, .int .u64 (m : Int), .int .i64 u]] w fun e w' => e = .returned (.float .f64 (E * 4503599627370496 + m)) ∧ Below w.heap.size w w' := by
  subst hu
  have HF := from_run (E * 4503599627370496 + m)
  have h1 : (E : Int) - 1074 - -1074 = (E : Int) := by omega
  have h2 : ((E * 4503599627370496 + m : Nat) : Int) = (E : Int) * 4503599627370496 + (m : Int) := by omega
  rw [h2] at HF
  have hE2 : (E : Int) ≤ 2047 := by omega
  have hm2 : (m : Int) ≤ 9007199254740992 := by omega
  clear h2 hE hm
  go_enter Tryz.func52, Tryz.ntmps52
  go_wp2_with fail
  go_ret
  exact ⟨rfl, alloc_later _ _⟩

end Go.Proofs.YtfppimlmebnaeaaGreatDoor

/- Rounding to the nearest float: where the rung that is told stands to the number. Nothing here speaks of the program. -/
namespace Go.Proofs.YtfppimlmebnaeaaGreatDoor

theorem dbl_frac : Ieee.double.fractionBits = 52 := rfl

/-- Half-even of n / 2^k: twice the error is at most a unit. -/
theorem cut_even (neg : Bool) (n k : Nat) (hn : n ≠ 0) :
    2 * n ≤ (2 * Ieee.Toward.even.cut neg n k + 1) * 2 ^ k ∧ (2 * Ieee.Toward.even.cut neg n k) * 2 ^ k ≤ 2 * n + 2 ^ k ∧
    (2 * n = (2 * Ieee.Toward.even.cut neg n k + 1) * 2 ^ k → Ieee.Toward.even.cut neg n k % 2 = 0) ∧ ((2 * Ieee.Toward.even.cut neg n k) * 2 ^ k = 2 * n + 2 ^ k → Ieee.Toward.even.cut neg n k % 2 = 0) := by
  unfold Ieee.Toward.cut
  simp only [Nat.shiftLeft_eq, Nat.one_mul]
  by_cases hk : k ≤ n.log2 + 2
  · rw [Nat.min_eq_left hk]
    have hp : 0 < 2 ^ k := Nat.two_pow_pos k
    generalize 2 ^ k = G at hp
    have hd := Nat.div_add_mod n G
    have hm := Nat.mod_lt n hp
    generalize n / G = q at hd
    generalize n % G = r at hd hm
    subst hd
    by_cases h1 : G < 2 * r
    · have e : (decide (G < 2 * r) || G == 2 * r && q % 2 == 1).toNat = 1 := by simp [h1]
      rw [e]
      have a1 : (2 * (q + 1) + 1) * G = 2 * (G * q) + 3 * G := by rw [Nat.add_mul, Nat.mul_comm (2 * (q + 1)), Nat.mul_add, Nat.mul_add, Nat.mul_left_comm]; omega
      have a2 : (2 * (q + 1)) * G = 2 * (G * q) + 2 * G := by rw [Nat.mul_comm (2 * (q + 1)), Nat.mul_add, Nat.mul_add, Nat.mul_left_comm]; omega
      rw [a1, a2]
      refine ⟨by omega, by omega, by omega, by omega⟩
    · by_cases h2 : G = 2 * r
      · by_cases h3 : q % 2 = 1
        · have e : (decide (G < 2 * r) || G == 2 * r && q % 2 == 1).toNat = 1 := by simp [h2, h3]
          rw [e]
          have a1 : (2 * (q + 1) + 1) * G = 2 * (G * q) + 3 * G := by rw [Nat.add_mul, Nat.mul_comm (2 * (q + 1)), Nat.mul_add, Nat.mul_add, Nat.mul_left_comm]; omega
          have a2 : (2 * (q + 1)) * G = 2 * (G * q) + 2 * G := by rw [Nat.mul_comm (2 * (q + 1)), Nat.mul_add, Nat.mul_add, Nat.mul_left_comm]; omega
          rw [a1, a2]
          refine ⟨by omega, by omega, by omega, by omega⟩
        · have e : (decide (G < 2 * r) || G == 2 * r && q % 2 == 1).toNat = 0 := by simp [h1, h3]
          rw [e]
          have a1 : (2 * (q + 0) + 1) * G = 2 * (G * q) + G := by rw [Nat.add_mul, Nat.mul_comm (2 * (q + 0)), Nat.add_zero, Nat.mul_left_comm]; omega
          have a2 : (2 * (q + 0)) * G = 2 * (G * q) := by rw [Nat.mul_comm (2 * (q + 0)), Nat.add_zero, Nat.mul_left_comm]
          rw [a1, a2]
          refine ⟨by omega, by omega, by omega, by omega⟩
      · have e : (decide (G < 2 * r) || G == 2 * r && q % 2 == 1).toNat = 0 := by simp [h1, h2]
        rw [e]
        have a1 : (2 * (q + 0) + 1) * G = 2 * (G * q) + G := by rw [Nat.add_mul, Nat.mul_comm (2 * (q + 0)), Nat.add_zero, Nat.mul_left_comm]; omega
        have a2 : (2 * (q + 0)) * G = 2 * (G * q) := by rw [Nat.mul_comm (2 * (q + 0)), Nat.add_zero, Nat.mul_left_comm]
        rw [a1, a2]
        refine ⟨by omega, by omega, by omega, by omega⟩
  · rw [Nat.min_eq_right (by omega)]
    have hl : n < 2 ^ (n.log2 + 1) := Nat.lt_log2_self
    have e2 : 2 ^ (n.log2 + 2) = 2 ^ (n.log2 + 1) * 2 := Nat.pow_succ ..
    have hle : 2 ^ (n.log2 + 2) ≤ 2 ^ k := Nat.pow_le_pow_right (by decide) (by omega)
    have hdiv : n / 2 ^ (n.log2 + 2) = 0 := Nat.div_eq_of_lt (by omega)
    have hmod : n % 2 ^ (n.log2 + 2) = n := Nat.mod_eq_of_lt (by omega)
    rw [hdiv, hmod]
    have e : (decide (2 ^ (n.log2 + 2) < 2 * n) || 2 ^ (n.log2 + 2) == 2 * n && 0 % 2 == 1).toNat = 0 := by
      have h1 : ¬ 2 ^ (n.log2 + 2) < 2 * n := by omega
      simp [h1]
    rw [e]
    simp only [Nat.add_zero, Nat.mul_zero, Nat.zero_mul, Nat.zero_add, Nat.one_mul]
    refine ⟨by omega, by omega, by omega, fun _ => trivial⟩

/-- The rung that nearest tells, of a number above 0, and what is known ahead of the least and the greatest. -/
theorem near_core (neg : Bool) (mag : Nat) (place : Int) (h0 : mag ≠ 0) :
    ∃ E kept, Ieee.double.nearest neg mag place = Ieee.double.word neg (min (E * 4503599627370496 + kept) 9218868437227405312) ∧ kept ≤ 9007199254740992 ∧ (0 < E → 4503599627370496 ≤ kept) ∧
      2 * (mag * 2 ^ (place + 1074).toNat) ≤ (2 * kept + 1) * 2 ^ E * 2 ^ (-(place + 1074)).toNat ∧
      (2 * kept) * 2 ^ E * 2 ^ (-(place + 1074)).toNat ≤ 2 * (mag * 2 ^ (place + 1074).toNat) + 2 ^ E * 2 ^ (-(place + 1074)).toNat ∧
      (0 < E → 4503599627370496 * 2 ^ E * 2 ^ (-(place + 1074)).toNat ≤ mag * 2 ^ (place + 1074).toNat) ∧
      (2 * (mag * 2 ^ (place + 1074).toNat) = (2 * kept + 1) * 2 ^ E * 2 ^ (-(place + 1074)).toNat → kept % 2 = 0) ∧
      ((2 * kept) * 2 ^ E * 2 ^ (-(place + 1074)).toNat = 2 * (mag * 2 ^ (place + 1074).toNat) + 2 ^ E * 2 ^ (-(place + 1074)).toNat → kept % 2 = 0) := by
  unfold Ieee.Format.nearest
  rw [if_neg h0]
  simp only [dbl_inf, dbl_binade, dbl_least, dbl_frac]
  generalize hL : mag.log2 = L
  have hlo : 2 ^ L ≤ mag := by rw [← hL]; exact Nat.log2_self_le h0
  have hhi : mag < 2 ^ (L + 1) := by rw [← hL]; exact Nat.lt_log2_self
  generalize hlast : max (place + (L : Int) - ((52 : Nat) : Int)) (-1074) = last
  have hle : -1074 ≤ last := by omega
  refine ⟨(last - -1074).toNat, _, rfl, ?_⟩
  obtain ⟨E, hE⟩ : ∃ E : Nat, last = -1074 + (E : Int) := ⟨(last + 1074).toNat, by omega⟩
  have eE : (last - -1074).toNat = E := by omega
  rw [eE]
  by_cases hd : last ≤ place
  · -- nothing is dropped
    obtain ⟨u, hu⟩ : ∃ u : Nat, place = last + (u : Int) := ⟨(place - last).toNat, by omega⟩
    have e1 : (place - last).toNat = u := by omega
    have e2 : (last - place).toNat = 0 := by omega
    have e3 : (place + 1074).toNat = E + u := by omega
    have e4 : (-(place + 1074)).toNat = 0 := by omega
    rw [e1, e2, e3, e4]
    have hk : Ieee.Toward.even.cut neg (mag <<< u) 0 = mag * 2 ^ u := by
      have hm : mag <<< u ≠ 0 := by rw [Nat.shiftLeft_eq]; exact Nat.mul_ne_zero h0 (Nat.ne_of_gt (Nat.two_pow_pos u))
      obtain ⟨c1, c2, _⟩ := cut_even neg (mag <<< u) 0 hm
      rw [Nat.shiftLeft_eq] at *
      simp only [Nat.pow_zero, Nat.mul_one] at c1 c2
      omega
    rw [hk]
    have hp : 2 ^ (E + u) = 2 ^ u * 2 ^ E := by rw [Nat.add_comm, Nat.pow_add]
    have hv : mag * 2 ^ (E + u) = mag * 2 ^ u * 2 ^ E := by rw [hp, Nat.mul_assoc]
    rw [hv]
    have hpE : 0 < 2 ^ E := Nat.two_pow_pos E
    have hub : mag * 2 ^ u ≤ 9007199254740992 := by
      have : L + u ≤ 52 := by omega
      have h1 : mag * 2 ^ u ≤ 2 ^ (L + 1) * 2 ^ u := Nat.mul_le_mul_right _ (Nat.le_of_lt hhi)
      have h2 : 2 ^ (L + 1) * 2 ^ u = 2 ^ (L + 1 + u) := (Nat.pow_add ..).symm
      have h3 : 2 ^ (L + 1 + u) ≤ 2 ^ 53 := Nat.pow_le_pow_right (by decide) (by omega)
      have h4 : (2 : Nat) ^ 53 = 9007199254740992 := by decide
      omega
    have hlb : 0 < E → 4503599627370496 ≤ mag * 2 ^ u := by
      intro hE0
      have h1 : 2 ^ L * 2 ^ u ≤ mag * 2 ^ u := Nat.mul_le_mul_right _ hlo
      have h2 : 2 ^ L * 2 ^ u = 2 ^ (L + u) := (Nat.pow_add ..).symm
      have h3 : L + u = 52 := by omega
      have h4 : (2 : Nat) ^ 52 = 4503599627370496 := by decide
      rw [h3] at h2
      omega
    generalize mag * 2 ^ u = K at *
    generalize 2 ^ E = P at *
    simp only [Nat.pow_zero, Nat.mul_one]
    have a1 : 2 * (K * P) = 2 * K * P := (Nat.mul_assoc ..).symm
    have a2 : (2 * K + 1) * P = 2 * K * P + P := by rw [Nat.add_mul, Nat.one_mul]
    rw [a1, a2]
    refine ⟨hub, hlb, by omega, by omega, fun h => Nat.mul_le_mul_right _ (hlb h), fun h => ?_, fun h => ?_⟩
    · omega
    · omega
  · -- some bits are dropped
    obtain ⟨k, hk⟩ : ∃ k : Nat, last = place + (k : Int) := ⟨(last - place).toNat, by omega⟩
    have e1 : (place - last).toNat = 0 := by omega
    have e2 : (last - place).toNat = k := by omega
    rw [e1, e2, Nat.shiftLeft_zero]
    obtain ⟨c1, c2, c3, c4⟩ := cut_even neg mag k h0
    generalize hK : Ieee.Toward.even.cut neg mag k = K at *
    -- the place's part
    have key : 2 ^ k * 2 ^ (place + 1074).toNat = 2 ^ E * 2 ^ (-(place + 1074)).toNat := by
      rw [← Nat.pow_add, ← Nat.pow_add]
      congr 1
      omega
    generalize hA : 2 ^ (place + 1074).toNat = A at *
    generalize hB : 2 ^ (-(place + 1074)).toNat = B at *
    have hA0 : 0 < A := by rw [← hA]; exact Nat.two_pow_pos _
    have hkp : 0 < 2 ^ k := Nat.two_pow_pos k
    have m1 : (2 * K + 1) * 2 ^ E * B = (2 * K + 1) * 2 ^ k * A := by rw [Nat.mul_assoc (2 * K + 1) (2 ^ E) B, ← key, Nat.mul_assoc (2 * K + 1) (2 ^ k) A]
    have m2 : (2 * K) * 2 ^ E * B = (2 * K) * 2 ^ k * A := by rw [Nat.mul_assoc (2 * K) (2 ^ E) B, ← key, Nat.mul_assoc (2 * K) (2 ^ k) A]
    have m3 : 2 ^ E * B = 2 ^ k * A := key.symm
    have m4 : 2 * (mag * A) = 2 * mag * A := (Nat.mul_assoc ..).symm
    rw [m1, m2, m3, m4]
    have m5 : 2 * mag * A + 2 ^ k * A = (2 * mag + 2 ^ k) * A := (Nat.add_mul ..).symm
    rw [m5]
    have b52 : (2 : Nat) ^ 52 = 4503599627370496 := by decide
    have b53 : (2 : Nat) ^ 53 = 9007199254740992 := by decide
    refine ⟨?_, ?_, Nat.mul_le_mul_right _ c1, Nat.mul_le_mul_right _ c2, ?_, fun h => c3 (Nat.eq_of_mul_eq_mul_right hA0 h), fun h => c4 (Nat.eq_of_mul_eq_mul_right hA0 h)⟩
    · -- the count is at most 2^53
      have hlk : L ≤ 52 + k := by omega
      have h1 : mag < 9007199254740992 * 2 ^ k := by
        have h2 : 2 ^ (L + 1) ≤ 2 ^ (53 + k) := Nat.pow_le_pow_right (by decide) (by omega)
        rw [Nat.pow_add 2 53 k, b53] at h2
        omega
      have h3 : 2 * K * 2 ^ k < (2 * 9007199254740992 + 1) * 2 ^ k := by
        have : 2 * mag + 2 ^ k < 2 * (9007199254740992 * 2 ^ k) + 2 ^ k := by omega
        have e : (2 * 9007199254740992 + 1) * 2 ^ k = 2 * (9007199254740992 * 2 ^ k) + 2 ^ k := by rw [Nat.add_mul, Nat.one_mul, Nat.mul_assoc]
        omega
      have := Nat.lt_of_mul_lt_mul_right h3
      omega
    · intro hE0
      have hlk : L = 52 + k := by omega
      have h1 : 4503599627370496 * 2 ^ k ≤ mag := by
        have h2 := hlo
        rw [hlk, Nat.pow_add, b52] at h2
        exact h2
      have h3 : 2 * 4503599627370496 * 2 ^ k ≤ (2 * K + 1) * 2 ^ k := by
        have e : 2 * 4503599627370496 * 2 ^ k = 2 * (4503599627370496 * 2 ^ k) := Nat.mul_assoc ..
        omega
      have := Nat.le_of_mul_le_mul_right h3 hkp
      omega
    · intro hE0
      have hlk : L = 52 + k := by omega
      have h1 : 4503599627370496 * 2 ^ k ≤ mag := by
        have h2 := hlo
        rw [hlk, Nat.pow_add, b52] at h2
        exact h2
      have e : 4503599627370496 * 2 ^ E * B = 4503599627370496 * 2 ^ k * A := by rw [Nat.mul_assoc, ← key, Nat.mul_assoc]
      rw [e]
      exact Nat.mul_le_mul_right _ h1

/-- The number at a rung that is told by a unit and a count. -/
theorem rungVal_count {E K : Nat} (hK : K ≤ 9007199254740992) (hE : 0 < E → 4503599627370496 ≤ K) : rungVal (E * 4503599627370496 + K) = K * 2 ^ E := by
  unfold rungVal
  by_cases h0 : E = 0 ∧ K < 4503599627370496
  · obtain ⟨rfl, h⟩ := h0
    rw [if_pos (by omega)]
    simp
  · have hK2 : 4503599627370496 ≤ K := by
      by_cases hz : 0 < E
      · exact hE hz
      · omega
    rw [if_neg (by omega)]
    by_cases h53 : K = 9007199254740992
    · subst h53
      have e1 : (E * 4503599627370496 + 9007199254740992) % 4503599627370496 = 0 := by omega
      have e2 : (E * 4503599627370496 + 9007199254740992) / 4503599627370496 - 1 = E + 1 := by omega
      rw [e1, e2, Nat.pow_succ]
      omega
    · have e1 : (E * 4503599627370496 + K) % 4503599627370496 = K - 4503599627370496 := by omega
      have e2 : (E * 4503599627370496 + K) / 4503599627370496 - 1 = E := by omega
      rw [e1, e2, show 4503599627370496 + (K - 4503599627370496) = K by omega]

theorem rungVal_step {E K : Nat} (hK : K ≤ 9007199254740992) (hE : 0 < E → 4503599627370496 ≤ K) : K * 2 ^ E + 2 ^ E ≤ rungVal (E * 4503599627370496 + K + 1) := by
  by_cases h53 : K = 9007199254740992
  · subst h53
    have e0 : E * 4503599627370496 + 9007199254740992 + 1 = (E + 1) * 4503599627370496 + (4503599627370496 + 1) := by omega
    rw [e0, rungVal_count (by omega) (fun _ => by omega), Nat.pow_succ]
    have := Nat.two_pow_pos E
    omega
  · rw [Nat.add_assoc, rungVal_count (by omega) (fun h => by have := hE h; omega), Nat.add_mul, Nat.one_mul]
    exact Nat.le_refl _

/-- Where the rung stands to the number mag * 2 ^ place: between the midpoints below and above it; at a midpoint it is even. -/
theorem near_mid (neg : Bool) (mag : Nat) (place : Int) (h0 : mag ≠ 0) :
    ∃ s, Ieee.double.nearest neg mag place = Ieee.double.word neg s ∧ s ≤ 9218868437227405312 ∧
      (s < 9218868437227405312 → 2 * (mag * 2 ^ (place + 1074).toNat) ≤ (rungVal s + rungVal (s + 1)) * 2 ^ (-(place + 1074)).toNat) ∧
      (1 ≤ s → (rungVal (s - 1) + rungVal s) * 2 ^ (-(place + 1074)).toNat ≤ 2 * (mag * 2 ^ (place + 1074).toNat)) := by
  obtain ⟨E, K, h1, hK, hE, b1, b2, b3, _, _⟩ := near_core neg mag place h0
  refine ⟨_, h1, Nat.min_le_right _ _, fun hs => ?_, fun hs => ?_⟩
  · have e : min (E * 4503599627370496 + K) 9218868437227405312 = E * 4503599627370496 + K := by omega
    rw [e, rungVal_count hK hE]
    refine Nat.le_trans b1 (Nat.mul_le_mul_right _ ?_)
    have := rungVal_step hK hE
    have e2 : (2 * K + 1) * 2 ^ E = K * 2 ^ E + (K * 2 ^ E + 2 ^ E) := by rw [Nat.add_mul, Nat.mul_assoc, Nat.one_mul]; omega
    omega
  · -- first at the rung ahead of the cut at infinity
    have hr : 1 ≤ E * 4503599627370496 + K := by omega
    have main : (rungVal (E * 4503599627370496 + K - 1) + rungVal (E * 4503599627370496 + K)) * 2 ^ (-(place + 1074)).toNat ≤ 2 * (mag * 2 ^ (place + 1074).toNat) := by
      by_cases hc : 0 < E ∧ K = 4503599627370496
      · have hv := b3 hc.1
        have hle : rungVal (E * 4503599627370496 + K - 1) ≤ rungVal (E * 4503599627370496 + K) := rungVal_le (by omega)
        have hval := rungVal_count hK hE
        rw [hc.2] at hval hle
        rw [hc.2]
        have : (rungVal (E * 4503599627370496 + 4503599627370496 - 1) + rungVal (E * 4503599627370496 + 4503599627370496)) * 2 ^ (-(place + 1074)).toNat ≤ (2 * (4503599627370496 * 2 ^ E)) * 2 ^ (-(place + 1074)).toNat := Nat.mul_le_mul_right _ (by omega)
        rw [Nat.mul_assoc 2] at this
        omega
      · have hK1 : 1 ≤ K := by
          by_cases hz : 0 < E
          · have := hE hz; omega
          · omega
        have e1 : rungVal (E * 4503599627370496 + K - 1) = (K - 1) * 2 ^ E := by
          rw [show E * 4503599627370496 + K - 1 = E * 4503599627370496 + (K - 1) by omega]
          exact rungVal_count (by omega) (fun h => by have := hE h; omega)
        rw [e1, rungVal_count hK hE]
        have e2 : ((K - 1) * 2 ^ E + K * 2 ^ E) * 2 ^ (-(place + 1074)).toNat + 2 ^ E * 2 ^ (-(place + 1074)).toNat = (2 * K) * 2 ^ E * 2 ^ (-(place + 1074)).toNat := by
          have e3 : (K - 1) * 2 ^ E + 2 ^ E = K * 2 ^ E := by
            have e4 : (K - 1 + 1) * 2 ^ E = (K - 1) * 2 ^ E + 2 ^ E := Nat.succ_mul _ _
            rw [Nat.sub_add_cancel hK1] at e4
            exact e4.symm
          have e5 : (K - 1) * 2 ^ E + K * 2 ^ E + 2 ^ E = 2 * K * 2 ^ E := by rw [Nat.mul_assoc 2]; omega
          rw [← Nat.add_mul, e5]
        omega
    by_cases hi : E * 4503599627370496 + K ≤ 9218868437227405312
    · have e : min (E * 4503599627370496 + K) 9218868437227405312 = E * 4503599627370496 + K := by omega
      rw [e]; exact main
    · have e : min (E * 4503599627370496 + K) 9218868437227405312 = 9218868437227405312 := by omega
      rw [e]
      refine Nat.le_trans (Nat.mul_le_mul_right _ (Nat.add_le_add (rungVal_le ?_) (rungVal_le ?_))) main <;> omega

/-- Not below a float, so the nearest is not below it. -/
theorem near_ge (neg : Bool) (mag : Nat) (place : Int) (r : Nat) (hr : r ≤ 9218868437227405312) (h : rungVal r * 2 ^ (-(place + 1074)).toNat ≤ mag * 2 ^ (place + 1074).toNat) :
    ∃ s, Ieee.double.nearest neg mag place = Ieee.double.word neg s ∧ s ≤ 9218868437227405312 ∧ r ≤ s := by
  by_cases h0 : mag = 0
  · subst h0
    have : r = 0 := by
      rw [Nat.zero_mul] at h
      have hp : 0 < 2 ^ (-(place + 1074)).toNat := Nat.two_pow_pos _
      have : rungVal r = 0 := by
        rcases Nat.mul_eq_zero.1 (Nat.eq_zero_of_le_zero h) with e | e
        · exact e
        · omega
      by_cases hz : r = 0
      · exact hz
      · have := rungVal_lt (r := 0) (s := r) (by omega)
        omega
    subst this
    exact ⟨0, by simp [Ieee.Format.nearest], by omega, Nat.le_refl _⟩
  · obtain ⟨s, e, hs, m1, m2⟩ := near_mid neg mag place h0
    refine ⟨s, e, hs, ?_⟩
    by_cases hlt : r ≤ s
    · exact hlt
    · exfalso
      have m := m1 (by omega)
      have hB : 0 < 2 ^ (-(place + 1074)).toNat := Nat.two_pow_pos _
      have g1 : rungVal s < rungVal r := rungVal_lt (by omega)
      have g2 : rungVal (s + 1) ≤ rungVal r := rungVal_le (by omega)
      have g3 : (rungVal s + rungVal (s + 1)) * 2 ^ (-(place + 1074)).toNat < (2 * rungVal r) * 2 ^ (-(place + 1074)).toNat := Nat.mul_lt_mul_of_pos_right (by omega) hB
      rw [Nat.mul_assoc 2] at g3
      omega
/-- Not above a float, so the nearest is not above it. -/
theorem near_le (neg : Bool) (mag : Nat) (place : Int) (r : Nat) (h : mag * 2 ^ (place + 1074).toNat ≤ rungVal r * 2 ^ (-(place + 1074)).toNat) :
    ∃ s, Ieee.double.nearest neg mag place = Ieee.double.word neg s ∧ s ≤ 9218868437227405312 ∧ s ≤ r := by
  by_cases h0 : mag = 0
  · subst h0
    exact ⟨0, by simp [Ieee.Format.nearest], by omega, Nat.zero_le _⟩
  · obtain ⟨s, e, hs, m1, m2⟩ := near_mid neg mag place h0
    refine ⟨s, e, hs, ?_⟩
    by_cases hlt : s ≤ r
    · exact hlt
    · exfalso
      have m := m2 (by omega)
      have hB : 0 < 2 ^ (-(place + 1074)).toNat := Nat.two_pow_pos _
      have g1 : rungVal r < rungVal s := rungVal_lt (by omega)
      have g2 : rungVal r ≤ rungVal (s - 1) := rungVal_le (by omega)
      have g3 : (2 * rungVal r) * 2 ^ (-(place + 1074)).toNat < (rungVal (s - 1) + rungVal s) * 2 ^ (-(place + 1074)).toNat := Nat.mul_lt_mul_of_pos_right (by omega) hB
      rw [Nat.mul_assoc 2] at g3
      omega

end Go.Proofs.YtfppimlmebnaeaaGreatDoor

/- The nearest float is the only one: between the midpoints, the even one at a tie. Nothing here speaks of the program. -/
namespace Go.Proofs.YtfppimlmebnaeaaGreatDoor

/-- A rung is the nearest to A / D: it lies between the midpoints, and is even where it is at one. -/
structure Mid (A D s : Nat) : Prop where
  top : s ≤ 9218868437227405312
  up : s < 9218868437227405312 → 2 * A ≤ (rungVal s + rungVal (s + 1)) * D
  down : 1 ≤ s → (rungVal (s - 1) + rungVal s) * D ≤ 2 * A
  tieUp : s < 9218868437227405312 → 2 * A = (rungVal s + rungVal (s + 1)) * D → s % 2 = 0
  tieDown : 1 ≤ s → (rungVal (s - 1) + rungVal s) * D = 2 * A → s % 2 = 0

theorem Mid.lt_no {A D s t : Nat} (hD : 0 < D) (h : Mid A D s) (g : Mid A D t) : ¬ s < t := by
  intro hlt
  have h1 := h.up (by have := g.top; omega)
  have g1 := g.down (by omega)
  by_cases c : s + 1 = t
  · subst c
    have e : s + 1 - 1 = s := by omega
    rw [e] at g1
    have e2 : 2 * A = (rungVal s + rungVal (s + 1)) * D := by omega
    have p1 := h.tieUp (by have := g.top; omega) e2
    have p2 := g.tieDown (by omega) (by rw [e]; exact e2.symm)
    omega
  · have v1 : rungVal s < rungVal (t - 1) := rungVal_lt (by omega)
    have v2 : rungVal (s + 1) < rungVal t := rungVal_lt (by omega)
    have : (rungVal s + rungVal (s + 1)) * D < (rungVal (t - 1) + rungVal t) * D := Nat.mul_lt_mul_of_pos_right (by omega) hD
    omega
theorem Mid.unique {A D s t : Nat} (hD : 0 < D) (h : Mid A D s) (g : Mid A D t) : s = t := by
  have h1 := h.lt_no hD g
  have h2 := g.lt_no hD h
  omega
/-- It hangs on the number alone. -/
theorem Mid.scale {A D s : Nat} (k : Nat) (hk : 0 < k) (h : Mid A D s) : Mid (A * k) (D * k) s where
  top := h.top
  up hs := by have := Nat.mul_le_mul_right k (h.up hs); rw [Nat.mul_assoc 2, Nat.mul_assoc] at this; exact this
  down hs := by have := Nat.mul_le_mul_right k (h.down hs); rw [Nat.mul_assoc 2, Nat.mul_assoc] at this; exact this
  tieUp hs e := h.tieUp hs (by rw [← Nat.mul_assoc, ← Nat.mul_assoc] at e; exact Nat.eq_of_mul_eq_mul_right hk e)
  tieDown hs e := h.tieDown hs (by rw [← Nat.mul_assoc, ← Nat.mul_assoc] at e; exact Nat.eq_of_mul_eq_mul_right hk e)
theorem Mid.back {A D s : Nat} (k : Nat) (hk : 0 < k) (h : Mid (A * k) (D * k) s) : Mid A D s where
  top := h.top
  up hs := by have := h.up hs; rw [← Nat.mul_assoc, ← Nat.mul_assoc] at this; exact Nat.le_of_mul_le_mul_right this hk
  down hs := by have := h.down hs; rw [← Nat.mul_assoc, ← Nat.mul_assoc] at this; exact Nat.le_of_mul_le_mul_right this hk
  tieUp hs e := h.tieUp hs (by rw [← Nat.mul_assoc, ← Nat.mul_assoc, e])
  tieDown hs e := h.tieDown hs (by rw [← Nat.mul_assoc, ← Nat.mul_assoc, e])

theorem min_low {a b : Nat} (h : min a b < b) : min a b = a := by omega
theorem mod_even (E K : Nat) (h : K % 2 = 0) : (E * 4503599627370496 + K) % 2 = 0 := by omega
/-- A unit and a count that are the number, rounded to a whole count: the rung is the nearest. -/
theorem mid_of_count {A D E K : Nat} (hD : 0 < D) (hK : K ≤ 9007199254740992) (hE : 0 < E → 4503599627370496 ≤ K)
    (b1 : 2 * A ≤ (2 * K + 1) * 2 ^ E * D) (b2 : (2 * K) * 2 ^ E * D ≤ 2 * A + 2 ^ E * D) (b3 : 0 < E → 4503599627370496 * 2 ^ E * D ≤ A)
    (t1 : 2 * A = (2 * K + 1) * 2 ^ E * D → K % 2 = 0) (t2 : (2 * K) * 2 ^ E * D = 2 * A + 2 ^ E * D → K % 2 = 0) :
    Mid A D (min (E * 4503599627370496 + K) 9218868437227405312) := by
  have hP := Nat.two_pow_pos E
  have hv := rungVal_count hK hE
  have hst := rungVal_step hK hE
  -- below: of the rung ahead of the cut
  have low : 1 ≤ E * 4503599627370496 + K → (rungVal (E * 4503599627370496 + K - 1) + rungVal (E * 4503599627370496 + K)) * D ≤ 2 * A ∧ ((rungVal (E * 4503599627370496 + K - 1) + rungVal (E * 4503599627370496 + K)) * D = 2 * A → K % 2 = 0) := by
    intro hs
    by_cases hc : 0 < E ∧ K = 4503599627370496
    · have k3 := b3 hc.1
      have hl : rungVal (E * 4503599627370496 + K - 1) < rungVal (E * 4503599627370496 + K) := rungVal_lt (by omega)
      rw [hv] at hl ⊢
      generalize rungVal (E * 4503599627370496 + K - 1) = V0 at *
      clear hv hst
      rw [hc.2] at hl ⊢
      have m1 : (V0 + 4503599627370496 * 2 ^ E) * D < (2 * (4503599627370496 * 2 ^ E)) * D := Nat.mul_lt_mul_of_pos_right (by omega) hD
      rw [Nat.mul_assoc 2] at m1
      exact ⟨by omega, fun e => by omega⟩
    · have hK1 : 1 ≤ K := by
        by_cases hz : 0 < E
        · have := hE hz; omega
        · omega
      have e1 : rungVal (E * 4503599627370496 + K - 1) = (K - 1) * 2 ^ E := by
        rw [show E * 4503599627370496 + K - 1 = E * 4503599627370496 + (K - 1) by omega]
        exact rungVal_count (by omega) (fun h => by have := hE h; omega)
      rw [e1, hv]
      clear e1 hv hst
      have e3 : (K - 1) * 2 ^ E + 2 ^ E = K * 2 ^ E := by
        have e4 : (K - 1 + 1) * 2 ^ E = (K - 1) * 2 ^ E + 2 ^ E := Nat.succ_mul _ _
        rw [Nat.sub_add_cancel hK1] at e4
        exact e4.symm
      have e2 : ((K - 1) * 2 ^ E + K * 2 ^ E) * D + 2 ^ E * D = (2 * K) * 2 ^ E * D := by
        have e5 : (K - 1) * 2 ^ E + K * 2 ^ E + 2 ^ E = 2 * K * 2 ^ E := by rw [Nat.mul_assoc 2]; omega
        rw [← Nat.add_mul, e5]
      exact ⟨by omega, fun e => t2 (by omega)⟩
  have e2 : (2 * K + 1) * 2 ^ E = K * 2 ^ E + (K * 2 ^ E + 2 ^ E) := by rw [Nat.add_mul, Nat.mul_assoc, Nat.one_mul]; omega
  have hup : (K * 2 ^ E + (K * 2 ^ E + 2 ^ E)) * D ≤ (K * 2 ^ E + rungVal (E * 4503599627370496 + K + 1)) * D := Nat.mul_le_mul_right _ (Nat.add_le_add_left hst _)
  clear hst
  rw [e2] at b1 t1
  clear e2
  refine ⟨Nat.min_le_right _ _, fun hs => ?_, fun hs => ?_, fun hs e => ?_, fun hs e => ?_⟩
  · rw [min_low hs, hv]
    exact Nat.le_trans b1 hup
  · by_cases hi : E * 4503599627370496 + K ≤ 9218868437227405312
    · rw [Nat.min_eq_left hi] at hs ⊢
      exact (low hs).1
    · have hi2 : 9218868437227405312 ≤ E * 4503599627370496 + K := Nat.le_of_lt (Nat.lt_of_not_le hi)
      rw [Nat.min_eq_right hi2] at hs ⊢
      exact Nat.le_trans (Nat.mul_le_mul_right _ (Nat.add_le_add (rungVal_le (Nat.sub_le_sub_right hi2 1)) (rungVal_le hi2))) (low (Nat.le_trans hs hi2)).1
  · rw [min_low hs] at e ⊢
    rw [hv] at e
    exact mod_even E K (t1 (Nat.le_antisymm b1 (Nat.le_trans hup (Nat.le_of_eq e.symm))))
  · by_cases hi : E * 4503599627370496 + K ≤ 9218868437227405312
    · rw [Nat.min_eq_left hi] at hs e ⊢
      exact mod_even E K ((low hs).2 e)
    · rw [Nat.min_eq_right (Nat.le_of_lt (Nat.lt_of_not_le hi))]

/-- IEEE's nearest is it. -/
theorem near_is_mid (neg : Bool) (mag : Nat) (place : Int) (h0 : mag ≠ 0) : ∃ s, Ieee.double.nearest neg mag place = Ieee.double.word neg s ∧ Mid (mag * 2 ^ (place + 1074).toNat) (2 ^ (-(place + 1074)).toNat) s := by
  obtain ⟨E, K, h1, hK, hE, b1, b2, b3, t1, t2⟩ := near_core neg mag place h0
  exact ⟨_, h1, mid_of_count (Nat.two_pow_pos _) hK hE b1 b2 b3 t1 t2⟩

end Go.Proofs.YtfppimlmebnaeaaGreatDoor

/- From a quotient made bit by bit, and what is left of it, to the nearest float. Nothing here speaks of the program. -/
namespace Go.Proofs.YtfppimlmebnaeaaGreatDoor

/-- How a count is rounded: by what is left against half a unit; the even one at a tie. -/
def RndK (S V q K : Nat) : Prop := (V < S ∧ K = q + 1) ∨ (S = V ∧ K = q + q % 2) ∨ (S < V ∧ K = q)

theorem rnd_scale {S V q K P : Nat} (hP : 0 < P) (h : RndK S V q K) : RndK (S * P) (V * P) q K := by
  rcases h with ⟨h, k⟩ | ⟨h, k⟩ | ⟨h, k⟩
  · exact .inl ⟨Nat.mul_lt_mul_of_pos_right h hP, k⟩
  · exact .inr (.inl ⟨by rw [h], k⟩)
  · exact .inr (.inr ⟨Nat.mul_lt_mul_of_pos_right h hP, k⟩)
theorem rnd_le {S V q K : Nat} (h : RndK S V q K) : q ≤ K ∧ K ≤ q + 1 := by
  rcases h with ⟨h, k⟩ | ⟨h, k⟩ | ⟨h, k⟩ <;> omega

theorem round_core {A U T q S K : Nat} (hT : 0 < T) (h : 2 * A * T = 2 * (q * (U * T)) + S) (hS : S < 2 * (U * T)) (hK : RndK S (U * T) q K) :
    2 * A ≤ (2 * K + 1) * U ∧ 2 * K * U ≤ 2 * A + U ∧ (2 * A = (2 * K + 1) * U → K % 2 = 0) ∧ (2 * K * U = 2 * A + U → K % 2 = 0) := by
  have e1 : (2 * K + 1) * U * T = 2 * (K * (U * T)) + U * T := by rw [Nat.mul_assoc, Nat.add_mul, Nat.mul_assoc 2, Nat.one_mul]
  have e2 : 2 * K * U * T = 2 * (K * (U * T)) := by rw [Nat.mul_assoc, Nat.mul_assoc]
  have e3 : (2 * A + U) * T = 2 * A * T + U * T := Nat.add_mul _ _ _
  have r1 : 2 * A * T ≤ (2 * K + 1) * U * T → 2 * A ≤ (2 * K + 1) * U := fun e => Nat.le_of_mul_le_mul_right e hT
  have r2 : 2 * K * U * T ≤ (2 * A + U) * T → 2 * K * U ≤ 2 * A + U := fun e => Nat.le_of_mul_le_mul_right e hT
  have r3 : 2 * A = (2 * K + 1) * U → 2 * A * T = (2 * K + 1) * U * T := fun e => by rw [e]
  have r4 : 2 * K * U = 2 * A + U → 2 * K * U * T = (2 * A + U) * T := fun e => by rw [e]
  rw [e1] at r1 r3
  rw [e2, e3] at r2 r4
  rw [h] at r1 r2 r3 r4
  clear e1 e2 e3 h
  generalize U * T = V at *
  have k1 : (q + 1) * V = q * V + V := by rw [Nat.add_mul, Nat.one_mul]
  rcases hK with ⟨hs, rfl⟩ | ⟨hs, hk⟩ | ⟨hs, rfl⟩
  · rw [k1] at r1 r2 r3 r4
    exact ⟨r1 (by omega), r2 (by omega), fun e => by have := r3 e; omega, fun e => by have := r4 e; omega⟩
  · rcases Nat.mod_two_eq_zero_or_one q with g | g
    · obtain rfl : K = q := by omega
      exact ⟨r1 (by omega), r2 (by omega), fun e => g, fun e => g⟩
    · obtain rfl : K = q + 1 := by omega
      rw [k1] at r1 r2 r3 r4
      exact ⟨r1 (by omega), r2 (by omega), fun e => by omega, fun e => by omega⟩
  · exact ⟨r1 (by omega), r2 (by omega), fun e => by have := r3 e; omega, fun e => by have := r4 e; omega⟩

theorem npow_split {a b c d : Nat} (h : a + b = c + d) : 2 ^ a * 2 ^ b = 2 ^ c * 2 ^ d := by rw [← Nat.pow_add, ← Nat.pow_add, h]

/-- A quotient of c bits, what is left of it, and the count rounded by that: the nearest float's rung. -/
theorem near_of_take {X Y i j c q R0 R' B E Z K : Nat} (hR0 : R0 = X * 2 ^ i) (hB : B = Y * 2 ^ j) (hlow : B ≤ R0) (hup : R0 < 2 * B)
    (ht : R0 * 2 ^ c = q * (2 * B) + R') (hr : R' < 2 * B) (hE : E + (i + c) = j + (Z + 1)) (hc : c ≤ 53) (hc1 : 0 < E → c = 53) (hK : RndK R' B q K) :
    Mid (X * 2 ^ Z) Y (min (E * 4503599627370496 + K) 9218868437227405312) ∧ K ≤ 9007199254740992 := by
  have hBp : 0 < B := by omega
  have hY : 0 < Y := by
    rcases Nat.eq_zero_or_pos Y with g | g
    · subst g; rw [Nat.zero_mul] at hB; omega
    · exact g
  have hT : 0 < 2 ^ (i + c) := Nat.two_pow_pos _
  have hP : 0 < 2 ^ (Z + 1) := Nat.two_pow_pos _
  have hUT : (2 ^ E * Y) * 2 ^ (i + c) = B * 2 ^ (Z + 1) := by
    rw [hB, Nat.mul_comm (2 ^ E) Y, Nat.mul_assoc, Nat.mul_assoc, npow_split hE]
  have hA : 2 * (X * 2 ^ Z) * 2 ^ (i + c) = 2 * (q * ((2 ^ E * Y) * 2 ^ (i + c))) + R' * 2 ^ (Z + 1) := by
    rw [hUT]
    have e1 : 2 * (X * 2 ^ Z) * 2 ^ (i + c) = (R0 * 2 ^ c) * 2 ^ (Z + 1) := by
      rw [hR0, Nat.pow_add 2 i c, Nat.pow_succ 2 Z]
      generalize 2 ^ Z = a; generalize 2 ^ i = b; generalize 2 ^ c = d
      grind
    rw [e1, ht, Nat.add_mul]
    generalize 2 ^ (Z + 1) = P
    grind
  have hq : q < 2 ^ c := by
    rcases Nat.lt_or_ge q (2 ^ c) with g | g
    · exact g
    · exfalso
      have k1 : 2 ^ c * (2 * B) ≤ q * (2 * B) := Nat.mul_le_mul_right _ g
      have k2 : R0 * 2 ^ c < (2 * B) * 2 ^ c := Nat.mul_lt_mul_of_pos_right hup (Nat.two_pow_pos _)
      rw [Nat.mul_comm (2 * B)] at k2
      omega
  have hq53 : q < 9007199254740992 := by
    have : 2 ^ c ≤ 2 ^ 53 := Nat.pow_le_pow_right (by decide) hc
    have e : (2 : Nat) ^ 53 = 9007199254740992 := by decide
    omega
  have hkk := rnd_le hK
  have hq52 : 0 < E → 4503599627370496 ≤ q := fun g => by
    have c53 := hc1 g
    subst c53
    have e : (2 : Nat) ^ 53 = 4503599627370496 * 2 := by decide
    rw [e] at ht
    rcases Nat.lt_or_ge q 4503599627370496 with g | g
    · exfalso
      have k1 : (q + 1) * (2 * B) ≤ 4503599627370496 * (2 * B) := Nat.mul_le_mul_right _ g
      have k2 : B * (4503599627370496 * 2) ≤ R0 * (4503599627370496 * 2) := Nat.mul_le_mul_right _ hlow
      rw [Nat.add_mul, Nat.one_mul] at k1
      omega
    · exact g
  have hS : R' * 2 ^ (Z + 1) < 2 * ((2 ^ E * Y) * 2 ^ (i + c)) := by
    rw [hUT, ← Nat.mul_assoc]
    exact Nat.mul_lt_mul_of_pos_right hr hP
  have hRn : RndK (R' * 2 ^ (Z + 1)) ((2 ^ E * Y) * 2 ^ (i + c)) q K := by
    rw [hUT]; exact rnd_scale hP hK
  obtain ⟨b1, b2, t1, t2⟩ := round_core hT hA hS hRn
  refine ⟨mid_of_count hY (by omega) (fun g => by have := hq52 g; omega) ?_ ?_ ?_ ?_ ?_, by omega⟩
  · rw [Nat.mul_assoc]; exact b1
  · rw [Nat.mul_assoc (2 * K)]; exact b2
  · intro g
    have k := hq52 g
    have k1 : 4503599627370496 * ((2 ^ E * Y) * 2 ^ (i + c)) ≤ q * ((2 ^ E * Y) * 2 ^ (i + c)) := Nat.mul_le_mul_right _ k
    rw [Nat.mul_assoc 4503599627370496]
    refine Nat.le_of_mul_le_mul_right (c := 2 ^ (i + c)) ?_ hT
    rw [Nat.mul_assoc 2] at hA
    rw [Nat.mul_assoc 4503599627370496]
    omega
  · intro e; exact t1 (by rw [Nat.mul_assoc] at e; exact e)
  · intro e; exact t2 (by rw [Nat.mul_assoc (2 * K)] at e; exact e)

/-- So small that nothing is the nearest. -/
theorem near_none {X Y i j Z : Nat} (hup : X * 2 ^ i < 2 * (Y * 2 ^ j)) (h : j + (Z + 2) ≤ i) : Mid (X * 2 ^ Z) Y 0 := by
  have k0 : X * 2 ^ (j + (Z + 2)) ≤ X * 2 ^ i := Nat.mul_le_mul_left _ (Nat.pow_le_pow_right (by decide) h)
  have k1 : X * 2 ^ (j + (Z + 2)) < 2 * (Y * 2 ^ j) := by omega
  have e1 : X * 2 ^ (j + (Z + 2)) = (2 * (2 * (X * 2 ^ Z))) * 2 ^ j := by
    rw [Nat.pow_add, Nat.pow_succ, Nat.pow_succ]
    generalize 2 ^ Z = a; generalize 2 ^ j = b
    grind
  rw [e1, ← Nat.mul_assoc 2 Y] at k1
  have k2 : 2 * (2 * (X * 2 ^ Z)) < 2 * Y := Nat.lt_of_mul_lt_mul_right k1
  have r0 : rungVal 0 = 0 := by decide
  have r1 : rungVal (0 + 1) = 1 := by decide
  refine ⟨by decide, fun _ => ?_, fun g => by omega, fun _ _ => rfl, fun g => by omega⟩
  rw [r0, r1, Nat.zero_add, Nat.one_mul]
  omega

theorem turn3 (a b y : Nat) : (2 * (a * b)) * y = 2 * (y * a * b) := by grind
/-- So large that there is none. -/
theorem near_over {X Y i j Z F : Nat} (hZ : Z = 1074) (hF : F = 2046) (hlow : Y * 2 ^ j ≤ X * 2 ^ i) (h : i + 1024 ≤ j) : Mid (X * 2 ^ Z) Y 9218868437227405312 := by
  have k0 : Y * 2 ^ (i + 1024) ≤ Y * 2 ^ j := Nat.mul_le_mul_left _ (Nat.pow_le_pow_right (by decide) h)
  obtain ⟨G, hG⟩ : ∃ G, G = 1024 := ⟨_, rfl⟩
  rw [← hG] at k0
  have k1 : Y * 2 ^ (i + G) ≤ X * 2 ^ i := Nat.le_trans k0 hlow
  rw [Nat.pow_add, Nat.mul_comm (2 ^ i), ← Nat.mul_assoc] at k1
  have k2 := Nat.le_of_mul_le_mul_right k1 (Nat.two_pow_pos _)
  have rv : rungVal 9218868437227405312 = 4503599627370496 * 2 ^ F := by
    have := rungVal_count (E := F) (K := 4503599627370496) (by decide) (fun _ => Nat.le_refl _)
    rw [hF] at this ⊢
    exact this
  have e52 : (4503599627370496 : Nat) = 2 ^ 52 := by decide
  have hv : rungVal 9218868437227405312 = 2 ^ G * 2 ^ Z := by
    rw [rv, e52]; exact npow_split (by omega)
  have k3 : Y * 2 ^ G * 2 ^ Z ≤ X * 2 ^ Z := Nat.mul_le_mul_right _ k2
  have k4 : rungVal (9218868437227405312 - 1) ≤ rungVal 9218868437227405312 := rungVal_le (by decide)
  refine ⟨Nat.le_refl _, fun g => by omega, fun _ => ?_, fun g => by omega, fun _ _ => by decide⟩
  have k5 : (rungVal (9218868437227405312 - 1) + rungVal 9218868437227405312) * Y ≤ (2 * (2 ^ G * 2 ^ Z)) * Y := Nat.mul_le_mul_right _ (by rw [hv] at k4 ⊢; rw [Nat.two_mul]; exact Nat.add_le_add_right k4 _)
  have e6 : (2 * (2 ^ G * 2 ^ Z)) * Y = 2 * (Y * 2 ^ G * 2 ^ Z) := turn3 _ _ _
  rw [e6] at k5
  exact Nat.le_trans k5 (Nat.mul_le_mul_left 2 k3)

end Go.Proofs.YtfppimlmebnaeaaGreatDoor

/- real.nearestSize: the float nearest to the size of a fraction that is not 0. -/
namespace Go.Proofs.YtfppimlmebnaeaaGreatDoor
open Go.RowKit
set_option linter.unusedVariables false

theorem u64_and1 (q : Nat) (h : q < 18446744073709551616) : bits .and .u64 (q : Int) 1 = ((q % 2 : Nat) : Int) := by
  have e1 := u64_and_nat q 1 h (by omega)
  have e2 : q &&& 1 = q % 2 := Nat.and_one_is_mod q
  rw [e2] at e1
  exact e1
/-- What is taken, as natural numbers. -/
theorem take_nat {R B R' : List Int} {q : Int} {c X Y i j : Nat} (wR : Wd R') (hq : 0 ≤ q) (hR : val R = (X : Int) * 2 ^ i) (hB : val B = (Y : Int) * 2 ^ j) (hlow : val B ≤ val R) (hup : val R < 2 * val B) (ht : val R * 2 ^ c = q * (2 * val B) + val R') (hr : val R' < 2 * val B) :
    ∃ Q S : Nat, q = Q ∧ val R' = S ∧ Y * 2 ^ j ≤ X * 2 ^ i ∧ X * 2 ^ i < 2 * (Y * 2 ^ j) ∧ X * 2 ^ i * 2 ^ c = Q * (2 * (Y * 2 ^ j)) + S ∧ S < 2 * (Y * 2 ^ j) := by
  obtain ⟨Q, rfl⟩ := Int.eq_ofNat_of_zero_le hq
  obtain ⟨S, hS⟩ := Int.eq_ofNat_of_zero_le (val_nonneg wR)
  rw [hS] at ht hr
  have e1 : (X : Int) * 2 ^ i = ((X * 2 ^ i : Nat) : Int) := by rw [Int.natCast_mul, Int.natCast_pow]; rfl
  have e2 : (Y : Int) * 2 ^ j = ((Y * 2 ^ j : Nat) : Int) := by rw [Int.natCast_mul, Int.natCast_pow]; rfl
  have e3 : (2 : Int) ^ c = ((2 ^ c : Nat) : Int) := by rw [Int.natCast_pow]; rfl
  rw [hR, e1] at hlow hup ht
  rw [hB, e2] at hlow hup ht hr
  rw [e3] at ht
  refine ⟨Q, S, rfl, hS, by omega, by omega, ?_, by omega⟩
  generalize X * 2 ^ i = A at *
  generalize Y * 2 ^ j = D at *
  generalize 2 ^ c = C at *
  have e4 : ((A * C : Nat) : Int) = ((Q * (2 * D) + S : Nat) : Int) := by
    rw [Int.natCast_mul, ht]; simp
  exact Int.ofNat.inj e4

theorem box_made_drew (W : World) (t : Nat) (vs : Array Value) : Box (W.alloc (.cells vs t)).drew W.heap.size t vs := Box.made W t vs
theorem nrwrap {x : Int} (h0 : -9223372036854775808 ≤ x) (h1 : x ≤ 9223372036854775807) : IntKind.i64.wrap x = x := by
  rw [IntKind.wrap_i64]; omega
theorem cell_alloc {V : World} {b j : Nat} {v : Value} (h : V.cell? ⟨b, j, none⟩ = some v) (o : Obj) : (V.alloc o).cell? ⟨b, j, none⟩ = some v := by
  have hlt : b < V.heap.size := by
    rcases Nat.lt_or_ge b V.heap.size with g | g
    · exact g
    · exfalso
      have e : V.heap[b]? = none := Array.getElem?_eq_none g
      simp [World.cell?, e] at h
  exact ((alloc_later V o).cell (p := ⟨b, j, none⟩) hlt).trans h
theorem cell_far3 {V : World} {b j b' : Nat} {v : Value} (h : V.cell? ⟨b, j, none⟩ = some v) (hne : b ≠ b') (v0 v1 v2 : Value) : (((V.setCell ⟨b', 0, none⟩ v0).setCell ⟨b', 1, none⟩ v1).setCell ⟨b', 2, none⟩ v2).cell? ⟨b, j, none⟩ = some v := by
  unfold World.cell? at *
  rw [Below.heap_setCell _ ⟨b', 2, none⟩ v2 b hne, Below.heap_setCell _ ⟨b', 1, none⟩ v1 b hne, Below.heap_setCell _ ⟨b', 0, none⟩ v0 b hne]
  exact h
/-- What stands when the quotient was taken. -/
structure NearCut (w : World) (base pd g1 g2 N c1 c2 : Nat) (p u : Int) (R B : List Int) (c : Nat) (s : Value) (wx : World) : Prop where
  ex : ∃ (pb : Nat) (q : Int) (R' : List Int), s = .pointer (some ⟨pb, 0, none⟩) ∧ Box wx pb 53 #[.bool false, .int .u64 q, .int .i64 u] ∧ OwnC wx base g1 N c1 R' ∧ OwnC wx base g2 N c2 B ∧ Box wx pd 84 #[.slice (some ⟨g1, 0, none⟩) N c1, .slice (some ⟨g2, 0, none⟩) N c2, .int .i64 p] ∧ 0 ≤ q ∧ Wd R' ∧ val R * 2 ^ c = q * (2 * val B) + val R' ∧ val R' < 2 * val B ∧ pb ≠ pd ∧ w.heap.size ≤ pb
  bel : Below w.heap.size w wx
/-- What is known behind the call of take, in whatever world it was made. -/
structure NearTake (W3 : World) (base pd g1 g2 N c1 c2 : Nat) (p : Int) (R B : List Int) (c : Nat) (q : Int) (R' : List Int) (w4 : World) : Prop where
  o1 : OwnC w4 base g1 N c1 R'
  o2 : OwnC w4 base g2 N c2 B
  bx : Box w4 pd 84 #[.slice (some ⟨g1, 0, none⟩) N c1, .slice (some ⟨g2, 0, none⟩) N c2, .int .i64 p]
  q0 : 0 ≤ q
  wd : Wd R'
  eq : val R * 2 ^ c = q * (2 * val B) + val R'
  lt : val R' < 2 * val B
  gr : W3.grownBy w4 (some g1)
theorem near_new {w W3 w4 : World} {base pd g1 g2 N c1 c2 : Nat} {p u : Int} {R B : List Int} {c : Nat} {q : Int} {R' : List Int} (h : NearTake W3 base pd g1 g2 N c1 c2 p R B c q R' w4) (hw : Below w.heap.size w W3) (hg : w.heap.size ≤ g1) :
    NearCut w base pd g1 g2 N c1 c2 p u R B c (.pointer (some ⟨w4.heap.size, 0, none⟩)) (w4.alloc (.cells #[.bool false, .int .u64 q, .int .i64 u] 53)) := by
  have hb := alloc_later w4 (.cells #[.bool false, .int .u64 q, .int .i64 u] 53)
  have s1 := hw.size
  have s2 := h.gr.size
  have s3 := h.bx.lt
  exact ⟨⟨_, q, R', rfl, Box.made w4 _ _, owns_later h.o1 hb, owns_later h.o2 hb, h.bx.later hb s3, h.q0, h.wd, h.eq, h.lt, by omega, by omega⟩, bt (hw.grown h.gr (by omega) (fun k hk => by cases hk; exact hg)) hb⟩
theorem near_old {w W3 w4 : World} {base pd g1 g2 N c1 c2 pb : Nat} {p u : Int} {R B : List Int} {c : Nat} {q : Int} {R' : List Int} {v0 v1 v2 : Value} (h : NearTake W3 base pd g1 g2 N c1 c2 p R B c q R' w4) (hw : Below w.heap.size w W3) (hg : w.heap.size ≤ g1) (hpb : Box w4 pb 53 #[v0, v1, v2]) (n1 : g1 ≠ pb) (n2 : g2 ≠ pb) (n3 : pb ≠ pd) (hl : w.heap.size ≤ pb) :
    NearCut w base pd g1 g2 N c1 c2 p u R B c (.pointer (some ⟨pb, 0, none⟩)) (((w4.setCell ⟨pb, 0, none⟩ (.bool false)).setCell ⟨pb, 1, none⟩ (.int .u64 q)).setCell ⟨pb, 2, none⟩ (.int .i64 u)) := by
  have s1 := hw.size
  have s2 := h.gr.size
  exact ⟨⟨_, q, R', rfl, ((hpb.set 0 _).set 1 _).set 2 _, own_set (own_set (own_set h.o1 n1) n1) n1, own_set (own_set (own_set h.o2 n2) n2) n2, ((h.bx.other ⟨pb, 0, none⟩ _ (Ne.symm n3)).other ⟨pb, 1, none⟩ _ (Ne.symm n3)).other ⟨pb, 2, none⟩ _ (Ne.symm n3), h.q0, h.wd, h.eq, h.lt, n3, hl⟩,
    (((hw.grown h.gr (by omega) (fun k hk => by cases hk; exact hg)).setCell (p := ⟨pb, 0, none⟩) hl _).setCell (p := ⟨pb, 1, none⟩) hl _).setCell (p := ⟨pb, 2, none⟩) hl _⟩
theorem take_near (W3 : World) (base pd g1 g2 N c1 c2 c : Nat) (p : Int) (R B : List Int) (hbx : Box W3 pd 84 #[.slice (some ⟨g1, 0, none⟩) N c1, .slice (some ⟨g2, 0, none⟩) N c2, .int .i64 p]) (h1 : OwnC W3 base g1 N c1 R) (h2 : OwnC W3 base g2 N c2 B) (w1 : Wd R) (w2 : Wd B) (hne : g1 ≠ g2) (hn : N ≤ 1048576) (hc : c ≤ 60) (hR : val R < 2 * val B) (hB : 2 * val B < 4294967296 ^ N) (V : World) (hv : Below W3.heap.size W3 V) :
    Calls Tryz.prog 50 #[.pointer (some ⟨pd, 0, none⟩), .int .i64 c] V fun e w' => ∃ (q : Int) (R' : List Int), e = .returned (.int .u64 q) ∧ w'.cell? ⟨pd, 2, none⟩ = some (.int .i64 p) ∧ Hid (NearTake W3 base pd g1 g2 N c1 c2 p R B c q R' w') ∧ Hid (∀ b t vs, b ≠ g1 → Box V b t vs → Box w' b t vs) ∧ (∀ b j, b < V.heap.size → b ≠ g1 → w'.cell? ⟨b, j, none⟩ = V.cell? ⟨b, j, none⟩) ∧ (∀ b j, b < V.heap.size → b ≠ g1 → w'.frozen? ⟨b, j, none⟩ = V.frozen? ⟨b, j, none⟩) ∧ V.heap.size ≤ w'.heap.size := by
  have hp1 : g1 ≠ pd := own_ne_box h1 hbx (by decide) g1 rfl
  have hx := hbx.later hv hbx.lt
  refine Calls.mono (take_any base base pd g1 g2 N c1 c2 c p R B V hx (owns_later h1 hv) (owns_later h2 hv) w1 w2 hne hn hc hR hB) ?_
  rintro e w' ⟨q, R', rfl, q0, o1, wd, ht, hr, hg⟩
  have hx' := hx.keptBy hg (Ne.symm hp1)
  refine ⟨q, R', rfl, hx'.cell 2, ⟨o1, OwnC.keptBy (owns_later h2 hv) hg (Ne.symm hne), hx', q0, wd, ht, hr, grown_trans (grown_of_below hv _) hg⟩, fun b t vs hb h => h.keptBy hg hb, fun b j hb hn => grown_cell hg hb hn, fun b j hb hn => ?_, hg.size⟩
  unfold World.frozen?
  rw [hg.block b hb (fun e => hn (Option.some.inj e))]

set_option maxHeartbeats 1600000 in
set_option maxRecDepth 100000 in
theorem nearestSize_any (neg : Bool) (a : Option Addr) (n cap : Nat) (xs : List Int) (b : Option Addr) (m cap' : Nat) (ys : List Int) (w : World) (h : Reads w w.heap.size a (n + 1) cap xs) (g : Reads w w.heap.size b (m + 1) cap' ys) (hn : n ≤ 2048) (hm : m ≤ 2048) (tx : Trimmed xs) (ty : Trimmed ys) (X Y Z : Nat) (hXv : val xs = (X : Int)) (hYv : val ys = (Y : Int)) (hZ : Z = 1074) :
    Calls Tryz.prog 30 #[.agg #[.bool neg, .slice a (n + 1) cap, .slice b (m + 1) cap']] w fun e w' => ∃ s, e = .returned (.float .f64 s) ∧ Mid (X * 2 ^ Z) Y s ∧ Below w.heap.size w w' := by
  obtain ⟨X1, hX1⟩ : ∃ X1, w.alloc (.cells #[.bool neg, .slice a (n + 1) cap, .slice b (m + 1) cap'] 24) = X1 := ⟨_, rfl⟩
  have b1 : Below w.heap.size w X1 := by rw [← hX1]; exact alloc_later _ _
  have hB1 : Box X1 w.heap.size 24 #[.bool neg, .slice a (n + 1) cap, .slice b (m + 1) cap'] := by rw [← hX1]; exact Box.made w _ _
  have e1 : X1.cell? ⟨w.heap.size, 1, none⟩ = some (.slice a (n + 1) cap) := hB1.cell 1
  have e2 : X1.cell? ⟨w.heap.size, 2, none⟩ = some (.slice b (m + 1) cap') := hB1.cell 2
  have HBG := hid (begin_any a n cap xs b m cap' ys X1 (h.later b1 b1.size) (g.later b1 b1.size) hn hm tx ty)
  have HB1 := hid b1
  have hs1x : w.heap.size ≤ X1.heap.size := b1.size
  have HZ := hid hZ
  have HXY := hid (And.intro hXv hYv)
  clear h g tx ty b1 hB1 hZ hXv hYv
  go_enter Tryz.func30, Tryz.ntmps30
  go_wp2_with fail
  clear hX1
  refine Calls.mono HBG.out ?_
  rintro e w2 ⟨g1, g2, N, c1, c2, R, B, i, j, rfl, o1, o2, wR, wB, hne, hN, hi, hj, vR, vB, k1, k2, k3, b2⟩
  generalize hp : (j : Int) - (i : Int) = p at *
  have p0 : -65601 ≤ p := by omega
  have p1 : p ≤ 65600 := by omega
  rw [HXY.out.1] at vR
  rw [HXY.out.2] at vB
  have HV := hid (And.intro vR (And.intro vB (And.intro k1 (And.intro k2 k3))))
  obtain ⟨W3, hW3⟩ : ∃ W3, w2.alloc (.cells #[.slice (some ⟨g1, 0, none⟩) N c1, .slice (some ⟨g2, 0, none⟩) N c2, .int .i64 p] 84) = W3 := ⟨_, rfl⟩
  have b3 : Below w2.heap.size w2 W3 := by rw [← hW3]; exact alloc_later _ _
  have HX3 : Hid (Box W3 w2.heap.size 84 #[.slice (some ⟨g1, 0, none⟩) N c1, .slice (some ⟨g2, 0, none⟩) N c2, .int .i64 p]) := by rw [← hW3]; exact Box.made w2 _ _
  have HO1 : Hid (OwnC W3 X1.heap.size g1 N c1 R) := owns_later o1 b3
  have HO2 : Hid (OwnC W3 X1.heap.size g2 N c2 B) := owns_later o2 b3
  have HBB := hid (bt HB1.out (bt b2 b3))
  have HWW := hid (And.intro wR wB)
  have HP := hid hp
  have u2 : W3.cell? ⟨w2.heap.size, 2, none⟩ = some (.int .i64 p) := HX3.out.cell 2
  clear HBG e1 e2 HB1 o1 o2 wR wB vR vB k1 k2 k3 b2 b3 hp
  obtain ⟨r, hr⟩ : ∃ r, p - -1074 = r := ⟨_, rfl⟩
  obtain ⟨r1, hr1⟩ : ∃ r1, r + 1 = r1 := ⟨_, rfl⟩
  have HRR : Hid (r1 = p + 1075) := by show _ = _; omega
  have r0 : -70000 ≤ r := by omega
  have r2 : r ≤ 70000 := by omega
  obtain ⟨cI, hcI⟩ : ∃ cI : Int, (if r1 < 53 then r1 else 53) = cI := ⟨_, rfl⟩
  have hmn : ∀ (ts : Array TypeId) (t : TypeId) (P : Program) (W : World), (Builtin.min_ ts t #[.int .i64 53, .int .i64 r1]).run P W = .ok (.int .i64 cI) W := fun ts t P W => by rw [run_min_int2, ← hcI]
  have HCI : Hid (cI ≤ 53 ∧ (cI = 53 ∨ cI = p + 1075) ∧ cI ≤ p + 1075) := by
    have e := HRR.out
    by_cases hc : r1 < 53
    · rw [if_pos hc] at hcI; exact ⟨by omega, by omega, by omega⟩
    · rw [if_neg hc] at hcI; exact ⟨by omega, by omega, by omega⟩
  clear hcI
  by_cases hbig : 1023 < p
  · have HM : Hid (Mid (X * 2 ^ Z) Y 9218868437227405312) := near_over HZ.out (F := 2046) rfl (i := i) (j := j) (by
      have e1 := HV.out.1
      have e2 := HV.out.2.1
      have e3 := HV.out.2.2.1
      rw [e1, e2] at e3
      have f1 : (X : Int) * 2 ^ i = ((X * 2 ^ i : Nat) : Int) := by rw [Int.natCast_mul, Int.natCast_pow]; rfl
      have f2 : (Y : Int) * 2 ^ j = ((Y * 2 ^ j : Nat) : Int) := by rw [Int.natCast_mul, Int.natCast_pow]; rfl
      omega) (by have := HP.out; omega)
    have HI := hid (fun V => mInf_any V)
    go_wp2_with fail
    refine Calls.mono (HI.out _) ?_
    rintro e w4 ⟨rfl, rfl⟩
    go_wp2_with fail
    go_ret
    exact ⟨_, rfl, HM.out, HBB.out⟩
  · by_cases hsm : cI < 0
    · have HM : Hid (Mid (X * 2 ^ Z) Y 0) := near_none (i := i) (j := j) (by
        have e1 := HV.out.1
        have e2 := HV.out.2.1
        have e3 := HV.out.2.2.2.1
        rw [e1, e2] at e3
        have f1 : (X : Int) * 2 ^ i = ((X * 2 ^ i : Nat) : Int) := by rw [Int.natCast_mul, Int.natCast_pow]; rfl
        have f2 : (Y : Int) * 2 ^ j = ((Y * 2 ^ j : Nat) : Int) := by rw [Int.natCast_mul, Int.natCast_pow]; rfl
        omega) (by have := HP.out; have := HCI.out; have := HZ.out; omega)
      go_wp2_with fail
      go_ret
      exact ⟨_, rfl, HM.out, HBB.out⟩
    · obtain ⟨c, rfl⟩ := Int.eq_ofNat_of_zero_le (show 0 ≤ cI by omega)
      have hc53 : c ≤ 53 := by have := HCI.out.1; omega
      obtain ⟨u, hu⟩ : ∃ u, p - (c : Int) + 1 = u := ⟨_, rfl⟩
      obtain ⟨E, hE⟩ : ∃ E : Nat, u = (E : Int) - 1074 := ⟨(u + 1074).toNat, by have := HCI.out; omega⟩
      have HE : Hid (E + (i + c) = j + (Z + 1) ∧ E ≤ 2045 ∧ (0 < E → c = 53)) := by
        have e1 := HCI.out
        have e2 := HP.out
        have e3 := HZ.out
        refine ⟨by omega, by omega, fun h => by omega⟩
      have HUE := hid hE
      have HT := hid (take_near W3 X1.heap.size w2.heap.size g1 g2 N c1 c2 c p R B HX3.out HO1.out HO2.out HWW.out.1 HWW.out.2 hne (by omega) (by omega) HV.out.2.2.2.1 HV.out.2.2.2.2)
      have hgw : w.heap.size ≤ g1 := by have := (OwnC.base HO1.out).1; omega
      have n1 : g1 ≠ W3.heap.size := Nat.ne_of_lt (OwnC.base HO1.out).2
      have n1' := Ne.symm n1
      have n2 : g2 ≠ W3.heap.size := Nat.ne_of_lt (OwnC.base HO2.out).2
      have n3 : w2.heap.size < W3.heap.size := HX3.out.lt
      have n3' := Nat.ne_of_lt n3
      have hlW : w.heap.size ≤ W3.heap.size := HBB.out.size
      have hs0 : W3.drew.cell? ⟨w2.heap.size, 2, none⟩ = some (.int .i64 p) := u2
      have HD0 := hid (Below.drew (Below.refl W3.heap.size W3))
      have HWR : Hid (IntKind.i64.wrap (IntKind.i64.wrap (p - (c : Int)) + 1) = u) := by
        show _ = _
        have e1 : IntKind.i64.wrap (p - (c : Int)) = p - (c : Int) := nrwrap (by omega) (by omega)
        rw [e1, hu]
        exact nrwrap (by omega) (by omega)
      go_upto_region 7 with fail
      clear hW3
      go_cut [5] from 24 (fun s wx => Hid (NearCut w X1.heap.size w2.heap.size g1 g2 N c1 c2 p u R B c s wx))
      case first =>
        go_region_held3 (fun V : World => V.cell? ⟨w2.heap.size, 2, none⟩ = some (.int .i64 p)) (first | exact hs1 | exact hs0 | exact cell_alloc hs1 _ | exact cell_alloc hs0 _ | exact cell_alloc u2 _ | exact cell_far3 hs1 n3' _ _ _)
          (first | (go_at_call 50; (with_reducible refine Calls.mono (HT.out _ (by first | exact HD0.out | exact below_alloc1 HD0.out _ | exact Below.drew (below_alloc1 (Below.refl _ _) _))) ?_); rintro e w4 ⟨q, R', rfl, hs1, HNT, HBK, hcl, hfr, hsz⟩))
        all_goals
          go_wp2_with fail
          go_meet
        all_goals rw [HWR.out]
        all_goals first | with_reducible exact hid (near_new HNT.out HBB.out hgw) | with_reducible exact hid (near_old HNT.out HBB.out hgw (HBK.out _ _ _ n1' (box_made_drew _ _ _)) n1 n2 (Ne.symm n3') hlW)
      case rest =>
        obtain ⟨pb, q, R', rfl, hpb, o1, o2, hbx, q0, wd, heq, hlt, n4, hl⟩ := hcut.out.ex
        have HBEL := hid hcut.out.bel
        obtain ⟨Q, S, hQ, hS, f1, f2, f3, f4⟩ := take_nat wd q0 HV.out.1 HV.out.2.1 HV.out.2.2.1 HV.out.2.2.2.1 heq hlt
        subst hQ
        have HCM := hid (rcompare_any (some ⟨g1, 0, none⟩) N c1 R' (some ⟨g2, 0, none⟩) c2 B wc (readsC o1 wd) (readsC o2 HWW.out.2) (by omega))
        have hD : (Y : Int) * 2 ^ j = ((Y * 2 ^ j : Nat) : Int) := by rw [Int.natCast_mul, Int.natCast_pow]; rfl
        rw [hS, HV.out.2.1, hD] at HCM
        have HFIN : Hid (∀ K, RndK S (Y * 2 ^ j) Q K → Mid (X * 2 ^ Z) Y (E * 4503599627370496 + K) ∧ K ≤ 9007199254740992) := fun K hK => by
          have h := near_of_take (E := E) (Z := Z) rfl rfl f1 f2 f3 f4 HE.out.1 hc53 HE.out.2.2 hK
          have e := HE.out.2.1
          rw [Nat.min_eq_left (by omega)] at h
          exact h
        have HQ53 : Hid (∀ K, RndK S (Y * 2 ^ j) Q K → Q ≤ 9007199254740992) := fun K hK => by have := (HFIN.out K hK).2; have := rnd_le hK; omega
        have HPB := hid hpb
        have d0 : wc.cell? ⟨w2.heap.size, 0, none⟩ = some (.slice (some ⟨g1, 0, none⟩) N c1) := hbx.cell 0
        have d1 : wc.cell? ⟨w2.heap.size, 1, none⟩ = some (.slice (some ⟨g2, 0, none⟩) N c2) := hbx.cell 1
        have hPb : pb < wc.heap.size := hpb.lt
        have HUP := hid (And.intro HUE.out HE.out.2.1)
        clear hcut HT HX3 HO1 HO2 HBB HD0 hs0 u2 n1 n1' n2 n3 n3' hlW o1 o2 hbx heq hlt hS f1 f2 f3 f4 hD hmn hr hr1 hu hE HE
        rcases Nat.lt_trichotomy S (Y * 2 ^ j) with hc | hc | hc
        · have HR := hid (HFIN.out Q (.inr (.inr ⟨hc, rfl⟩)))
          have hcc : cmpI (S : Int) ((Y * 2 ^ j : Nat) : Int) = -1 := cmpI_lt (by omega)
          rw [hcc] at HCM
          clear hcc hc HFIN
          go_wp2_with fail
          refine Calls.mono HCM.out ?_
          rintro e w4 ⟨rfl, b4⟩
          have HPT := hid (putTogether_any false Q E u w4 HUP.out.1 (by have := HUP.out.2; omega) HR.out.2)
          have HB4 := hid (bt HBEL.out b4)
          have B4 := HPB.out.later b4 hPb
          have m0 : w4.cell? ⟨pb, 0, none⟩ = some (.bool false) := B4.cell 0
          have m1 : w4.cell? ⟨pb, 1, none⟩ = some (.int .u64 (Q : Int)) := B4.cell 1
          have m2 : w4.cell? ⟨pb, 2, none⟩ = some (.int .i64 u) := B4.cell 2
          clear HCM b4 B4 d0 d1
          go_wp2_with fail
          refine Calls.mono HPT.out ?_
          rintro e w5 ⟨rfl, b5⟩
          go_wp2_with fail
          go_ret
          exact ⟨_, rfl, HR.out.1, bt HB4.out b5⟩
        · have hRK : RndK S (Y * 2 ^ j) Q (Q + Q % 2) := .inr (.inl ⟨hc, rfl⟩)
          have HR := hid (HFIN.out _ hRK)
          have hq53 := HQ53.out _ hRK
          have hcc : cmpI (S : Int) ((Y * 2 ^ j : Nat) : Int) = 0 := cmpI_eq (by omega)
          rw [hcc] at HCM
          have han := u64_and1 Q (by omega)
          have hsum : (Q : Int) + ((Q % 2 : Nat) : Int) = ((Q + Q % 2 : Nat) : Int) := by omega
          obtain ⟨t, ht⟩ : ∃ t, Q % 2 = t := ⟨_, rfl⟩
          have ht1 : t ≤ 1 := by omega
          rw [ht] at HR han hsum
          obtain ⟨K, hK⟩ : ∃ K, Q + t = K := ⟨_, rfl⟩
          rw [hK] at HR hsum
          have HKK := hid hK
          have hK53 : K ≤ 9007199254740993 := by omega
          clear hcc hc HFIN hRK ht hK
          go_wp2_with fail
          refine Calls.mono HCM.out ?_
          rintro e w4 ⟨rfl, b4⟩
          have HPT := hid (fun V => putTogether_any false K E u V HUP.out.1 (by have := HUP.out.2; omega) HR.out.2)
          have HB4 := hid (bt HBEL.out b4)
          have B4 := HPB.out.later b4 hPb
          have m0 : w4.cell? ⟨pb, 0, none⟩ = some (.bool false) := B4.cell 0
          have m1 : w4.cell? ⟨pb, 1, none⟩ = some (.int .u64 (Q : Int)) := B4.cell 1
          have m2 : w4.cell? ⟨pb, 2, none⟩ = some (.int .i64 u) := B4.cell 2
          have m3 := B4.free 1
          clear HCM b4 B4 d0 d1
          go_wp2_with fail
          refine Calls.mono (HPT.out _) ?_
          rintro e w5 ⟨rfl, b5⟩
          go_wp2_with fail
          go_ret
          exact ⟨_, rfl, HR.out.1, bt (HB4.out.setCell (p := ⟨pb, 1, none⟩) hl _) b5⟩
        · have hRK : RndK S (Y * 2 ^ j) Q (Q + 1) := .inl ⟨hc, rfl⟩
          have HR := hid (HFIN.out _ hRK)
          have hq53 := HQ53.out _ hRK
          have hcc : cmpI (S : Int) ((Y * 2 ^ j : Nat) : Int) = 1 := cmpI_gt (by omega)
          rw [hcc] at HCM
          obtain ⟨K, hK⟩ : ∃ K, Q + 1 = K := ⟨_, rfl⟩
          rw [hK] at HR
          have hsum : (Q : Int) + 1 = (K : Int) := by omega
          have hK53 : K ≤ 9007199254740993 := by omega
          clear hcc hc HFIN hRK hK
          go_wp2_with fail
          refine Calls.mono HCM.out ?_
          rintro e w4 ⟨rfl, b4⟩
          have HPT := hid (fun V => putTogether_any false K E u V HUP.out.1 (by have := HUP.out.2; omega) HR.out.2)
          have HB4 := hid (bt HBEL.out b4)
          have B4 := HPB.out.later b4 hPb
          have m0 : w4.cell? ⟨pb, 0, none⟩ = some (.bool false) := B4.cell 0
          have m1 : w4.cell? ⟨pb, 1, none⟩ = some (.int .u64 (Q : Int)) := B4.cell 1
          have m2 : w4.cell? ⟨pb, 2, none⟩ = some (.int .i64 u) := B4.cell 2
          have m3 := B4.free 1
          clear HCM b4 B4 d0 d1
          go_wp2_with fail
          refine Calls.mono (HPT.out _) ?_
          rintro e w5 ⟨rfl, b5⟩
          go_wp2_with fail
          go_ret
          exact ⟨_, rfl, HR.out.1, bt (HB4.out.setCell (p := ⟨pb, 1, none⟩) hl _) b5⟩

end Go.Proofs.YtfppimlmebnaeaaGreatDoor

/- Quotients, products, sums and roots of sizes, against floats that bound them. Nothing here speaks of the program. -/
namespace Go.Proofs.YtfppimlmebnaeaaGreatDoor

/-- What a size below infinity stands for. -/
theorem read_size {x : Nat} (h : x < 9218868437227405312) : ∃ m a, Ieee.double.read x = .number false m (-1074 + (a : Nat)) ∧ m * 2 ^ a = rungVal x := by
  have e : x % 9223372036854775808 = x := Nat.mod_eq_of_lt (by omega)
  obtain ⟨m, a, e1, e2⟩ := read_num (x := x) (by rw [e]; exact h)
  rw [e] at e2
  rw [Nat.div_eq_of_lt (by omega)] at e1
  exact ⟨m, a, e1, e2⟩

theorem word_pos (s : Nat) : Ieee.double.word false s = s := rfl

theorem FN.eq {op : BinOp} {x y r s : Nat} (h : FN op x y r) (g : floatBits op .f64 x y = .some s) : r = s := by
  rcases h.2 with h | ⟨h, _⟩
  · rw [h] at g; exact Option.some.inj g
  · rw [h] at g; cases g
theorem FQ.eq {x r s : Nat} (h : FQ x r) (g : Ieee.double.sqrt x = .some s) : r = s := by
  rcases h.2 with h | ⟨h, _⟩
  · rw [h] at g; exact Option.some.inj g
  · rw [h] at g; cases g

/-- The product of two sizes. -/
theorem mul_bits {x y : Nat} (E : Nat) (hE : E = 1074) (hx : x < 9218868437227405312) (hy : y < 9218868437227405312) : ∃ mag place, floatBits .mul .f64 x y = some (Ieee.double.nearest false mag place) ∧ mag * 2 ^ (place + 1074).toNat * 2 ^ E = rungVal x * rungVal y * 2 ^ (-(place + 1074)).toNat ∧ (mag = 0 ↔ rungVal x * rungVal y = 0) := by
  obtain ⟨m, a, e1, v1⟩ := read_size hx
  obtain ⟨n, b, e2, v2⟩ := read_size hy
  refine ⟨m * n, -1074 + (a : Int) + (-1074 + (b : Int)), ?_, ?_, ?_⟩
  · show (((Ieee.double.read x).product (Ieee.double.read y)).map Ieee.double.write) = _
    rw [e1, e2]
    rfl
  · rw [← v1, ← v2]
    by_cases h : 1074 ≤ a + b
    · have t1 : (-1074 + (a : Int) + (-1074 + (b : Int)) + 1074).toNat = a + b - 1074 := by omega
      have t2 : (-(-1074 + (a : Int) + (-1074 + (b : Int)) + 1074)).toNat = 0 := by omega
      rw [t1, t2, Nat.mul_assoc (m * n), ← Nat.pow_add, show a + b - 1074 + E = a + b by omega, Nat.pow_add, Nat.pow_zero, Nat.mul_one]
      rw [Nat.mul_assoc, Nat.mul_assoc, Nat.mul_left_comm n]
    · have t1 : (-1074 + (a : Int) + (-1074 + (b : Int)) + 1074).toNat = 0 := by omega
      have t2 : (-(-1074 + (a : Int) + (-1074 + (b : Int)) + 1074)).toNat = E - (a + b) := by omega
      rw [t1, t2, Nat.pow_zero, Nat.mul_one]
      have e : 2 ^ E = 2 ^ a * 2 ^ b * 2 ^ (E - (a + b)) := by rw [← Nat.pow_add, ← Nat.pow_add]; congr 1; omega
      rw [e]
      generalize 2 ^ a = A
      generalize 2 ^ b = B
      generalize 2 ^ (E - (a + b)) = C
      rw [← Nat.mul_assoc, ← Nat.mul_assoc]
      congr 1
      rw [Nat.mul_assoc m A, Nat.mul_left_comm A n B, ← Nat.mul_assoc m n, Nat.mul_assoc (m * n)]
  · rw [← v1, ← v2]
    have hA := Nat.two_pow_pos a
    have hB := Nat.two_pow_pos b
    simp only [Nat.mul_eq_zero]
    constructor
    · rintro (h | h)
      · exact .inl (.inl h)
      · exact .inr (.inl h)
    · rintro ((h | h) | (h | h))
      · exact .inl h
      · omega
      · exact .inr h
      · omega

/-- The sum of two sizes. -/
theorem add_bits {x y : Nat} (hx : x < 9218868437227405312) (hy : y < 9218868437227405312) : ∃ mag place, floatBits .add .f64 x y = some (Ieee.double.nearest false mag place) ∧ mag * 2 ^ (place + 1074).toNat = (rungVal x + rungVal y) ∧ (-(place + 1074)).toNat = 0 := by
  obtain ⟨m, a, e1, v1⟩ := read_size hx
  obtain ⟨n, b, e2, v2⟩ := read_size hy
  have t1 : (-1074 + (a : Int) - min (-1074 + (a : Int)) (-1074 + (b : Int))).toNat = a - min a b := by omega
  have t2 : (-1074 + (b : Int) - min (-1074 + (a : Int)) (-1074 + (b : Int))).toNat = b - min a b := by omega
  have t3 : Ieee.signed false m (a - min a b) + Ieee.signed false n (b - min a b) = ((m * 2 ^ (a - min a b) + n * 2 ^ (b - min a b) : Nat) : Int) := by
    simp only [Ieee.signed, Nat.shiftLeft_eq, Bool.false_eq_true, if_false]; omega
  refine ⟨m * 2 ^ (a - min a b) + n * 2 ^ (b - min a b), min (-1074 + (a : Int)) (-1074 + (b : Int)), ?_, ?_, by omega⟩
  · show (((Ieee.double.read x).sum (Ieee.double.read y)).map Ieee.double.write) = _
    rw [e1, e2]
    simp only [Ieee.Datum.sum, t1, t2, t3]
    simp only [Option.map, Ieee.Format.write]
    generalize m * 2 ^ (a - min a b) + n * 2 ^ (b - min a b) = T
    congr 2
    · by_cases hz : (T : Int) = 0
      · rw [if_pos hz]; rfl
      · rw [if_neg hz]; exact decide_eq_false (by omega)
  · have t4 : (min (-1074 + (a : Int)) (-1074 + (b : Int)) + 1074).toNat = min a b := by omega
    rw [t4, ← v1, ← v2, Nat.add_mul, Nat.mul_assoc, Nat.mul_assoc, ← Nat.pow_add, ← Nat.pow_add, show a - min a b + min a b = a by omega, show b - min a b + min a b = b by omega]

theorem val_one_f (E : Nat) (hE : E = 1074) : rungVal 4607182418800017408 = 2 ^ E := by subst hE; decide +kernel
theorem val_half3 (E : Nat) (hE : E = 1074) : rungVal 4609434218613702656 * 2 = 3 * 2 ^ E := by subst hE; decide +kernel
theorem val_two_f (E : Nat) (hE : E = 1074) : rungVal 4611686018427387904 = 2 * 2 ^ E := by subst hE; decide +kernel

/-- A product by what is 1 or above is not below. -/
theorem mul_ge {x y r : Nat} (hx : x < 9218868437227405312) (hy : y < 9218868437227405312) (h1 : 4607182418800017408 ≤ y) (h : FN .mul x y r) : x ≤ r ∧ r ≤ 9218868437227405312 := by
  obtain ⟨E, hE⟩ : ∃ E : Nat, E = 1074 := ⟨_, rfl⟩
  obtain ⟨mag, place, e, v, _⟩ := mul_bits E hE hx hy
  have hv : 2 ^ E ≤ rungVal y := by rw [← val_one_f E hE]; exact rungVal_le h1
  have hp : 0 < 2 ^ E := Nat.two_pow_pos E
  generalize (2 : Nat) ^ E = P at *
  obtain ⟨s, e2, s1, s2⟩ := near_ge false mag place x (by omega) (by
    have g : rungVal x * 2 ^ (-(place + 1074)).toNat * P ≤ mag * 2 ^ (place + 1074).toNat * P := by
      rw [v, Nat.mul_assoc, Nat.mul_comm (2 ^ (-(place + 1074)).toNat) P, ← Nat.mul_assoc]
      exact Nat.mul_le_mul_right _ (Nat.mul_le_mul_left _ hv)
    exact Nat.le_of_mul_le_mul_right g hp)
  rw [e2, word_pos] at e
  have := h.eq e
  omega

/-- A product of two that are at most 1. -/
theorem mul_le_one {x y r : Nat} (hx : x ≤ 4607182418800017408) (hy : y ≤ 4607182418800017408) (h : FN .mul x y r) : r ≤ 4607182418800017408 := by
  obtain ⟨E, hE⟩ : ∃ E : Nat, E = 1074 := ⟨_, rfl⟩
  obtain ⟨mag, place, e, v, _⟩ := mul_bits (x := x) (y := y) E hE (by omega) (by omega)
  have h1 : rungVal x ≤ 2 ^ E := by rw [← val_one_f E hE]; exact rungVal_le hx
  have h2 : rungVal y ≤ 2 ^ E := by rw [← val_one_f E hE]; exact rungVal_le hy
  have h3 := val_one_f E hE
  have hp : 0 < 2 ^ E := Nat.two_pow_pos E
  generalize (2 : Nat) ^ E = P at *
  obtain ⟨s, e2, s1, s2⟩ := near_le false mag place 4607182418800017408 (by
    have g : mag * 2 ^ (place + 1074).toNat * P ≤ rungVal 4607182418800017408 * 2 ^ (-(place + 1074)).toNat * P := by
      rw [v, h3, Nat.mul_right_comm P]
      exact Nat.mul_le_mul_right _ (Nat.mul_le_mul h1 h2)
    exact Nat.le_of_mul_le_mul_right g hp)
  rw [e2, word_pos] at e
  have := h.eq e
  omega

/-- 1 and what is at most 1. -/
theorem one_add {p r : Nat} (hp : p ≤ 4607182418800017408) (h : FN .add 4607182418800017408 p r) : 4607182418800017408 ≤ r ∧ r ≤ 4611686018427387904 := by
  obtain ⟨E, hE⟩ : ∃ E : Nat, E = 1074 := ⟨_, rfl⟩
  obtain ⟨mag, place, e, v, z⟩ := add_bits (x := 4607182418800017408) (y := p) (by omega) (by omega)
  have h1 : rungVal p ≤ 2 ^ E := by rw [← val_one_f E hE]; exact rungVal_le hp
  have h2 := val_one_f E hE
  have h3 := val_two_f E hE
  generalize (2 : Nat) ^ E = P at *
  rw [h2] at v
  obtain ⟨s, e2, s1, s2⟩ := near_ge false mag place 4607182418800017408 (by omega) (by rw [z, v, h2]; omega)
  obtain ⟨t, e3, t1, t2⟩ := near_le false mag place 4611686018427387904 (by rw [z, v, h3]; omega)
  rw [e3] at e2
  rw [word_pos, word_pos] at e2
  subst e2
  rw [e3, word_pos] at e
  have := h.eq e
  omega

/-- A quotient of a size by one that is not below it. -/
theorem quo_le {n m r : Nat} (hm : m < 9218868437227405312) (h0 : m ≠ 0) (hn : n ≤ m) (h : FN .quo n m r) : r ≤ 4607182418800017408 := by
  obtain ⟨E, hE⟩ : ∃ E : Nat, E = 1074 := ⟨_, rfl⟩
  obtain ⟨N, a, e1, v1⟩ := read_size (x := n) (by omega)
  obtain ⟨M, b, e2, v2⟩ := read_size hm
  have hle := rungVal_le hn
  have hM : M ≠ 0 := by
    intro e
    have := rungVal_lt (r := 0) (s := m) (by omega)
    rw [← v2, e] at this
    omega
  have hM0 : 0 < M := Nat.pos_of_ne_zero hM
  by_cases hN : N = 0
  · -- nought
    have e : floatBits .quo .f64 n m = some 0 := by
      show (((Ieee.double.read n).quotient _ (Ieee.double.read m)).map Ieee.double.write) = _
      rw [e1, e2, hN]
      simp only [Ieee.Datum.quotient, if_neg hM]
      simp [Ieee.Format.write, Ieee.Format.nearest, Ieee.Format.word]
    have := h.eq e
    omega
  · generalize hmore : 54 + M.log2 - N.log2 = more
    have e : floatBits .quo .f64 n m = some (Ieee.double.nearest false (2 * (N <<< more / M) + (N <<< more % M != 0).toNat) (-1074 + (a : Int) - (-1074 + (b : Int)) - (more : Int) - 1)) := by
      show (((Ieee.double.read n).quotient (52 + 2) (Ieee.double.read m)).map Ieee.double.write) = _
      rw [e1, e2]
      simp only [Ieee.Datum.quotient, if_neg hM]
      rw [hmore]
      rfl
    -- N 2^a is at most M 2^b, so there are bits enough
    rw [← v1, ← v2] at hle
    have lN : 2 ^ N.log2 ≤ N := Nat.log2_self_le hN
    have lM : M < 2 ^ (M.log2 + 1) := Nat.lt_log2_self
    have hlog : N.log2 + a < M.log2 + 1 + b := by
      have g1 : 2 ^ (N.log2 + a) ≤ N * 2 ^ a := by rw [Nat.pow_add]; exact Nat.mul_le_mul_right _ lN
      have g2 : M * 2 ^ b < 2 ^ (M.log2 + 1 + b) := by rw [Nat.pow_add]; exact Nat.mul_lt_mul_of_pos_right lM (Nat.two_pow_pos b)
      exact (Nat.pow_lt_pow_iff_right (by decide)).1 (Nat.lt_of_le_of_lt g1 (Nat.lt_of_lt_of_le (Nat.lt_of_le_of_lt hle g2) (Nat.le_refl _)))
    obtain ⟨c, hc⟩ : ∃ c : Nat, more + b = c + a := ⟨more + b - a, by omega⟩
    have hND : N <<< more ≤ M * 2 ^ c := by
      rw [Nat.shiftLeft_eq]
      have g : N * 2 ^ more * 2 ^ a ≤ M * 2 ^ c * 2 ^ a := by
        have e3 : N * 2 ^ more * 2 ^ a = N * 2 ^ a * 2 ^ more := Nat.mul_right_comm _ _ _
        have e4 : M * 2 ^ c * 2 ^ a = M * 2 ^ b * 2 ^ more := by rw [Nat.mul_assoc, Nat.mul_assoc, ← Nat.pow_add, ← Nat.pow_add, ← hc, Nat.add_comm b]
        rw [e3, e4]
        exact Nat.mul_le_mul_right _ hle
      exact Nat.le_of_mul_le_mul_right g (Nat.two_pow_pos a)
    have hq : 2 * (N <<< more / M) + (N <<< more % M != 0).toNat ≤ 2 * 2 ^ c := by
      have hdm := Nat.div_add_mod (N <<< more) M
      have hml := Nat.mod_lt (N <<< more) hM0
      generalize N <<< more = D at *
      generalize D / M = Q at *
      generalize D % M = R at *
      generalize 2 ^ c = C at *
      have hQ : Q ≤ C := by
        have : M * Q ≤ M * C := by omega
        exact Nat.le_of_mul_le_mul_left this hM0
      by_cases hR : R = 0
      · have : (R != 0).toNat = 0 := by simp [hR]
        omega
      · have hQ2 : Q < C := by
          rcases Nat.lt_or_eq_of_le hQ with g | g
          · exact g
          · exfalso; rw [g] at hdm; omega
        have : (R != 0).toNat = 1 := by simp [hR]
        omega
    obtain ⟨s, e5, s1, s2⟩ := near_le false (2 * (N <<< more / M) + (N <<< more % M != 0).toNat) (-1074 + (a : Int) - (-1074 + (b : Int)) - (more : Int) - 1) 4607182418800017408 (by
      rw [val_one_f E hE]
      generalize 2 * (N <<< more / M) + (N <<< more % M != 0).toNat = Z at hq
      by_cases hs : 1073 ≤ c
      · have t1 : (-1074 + (a : Int) - (-1074 + (b : Int)) - (more : Int) - 1 + 1074).toNat = 0 := by omega
        have t2 : (-(-1074 + (a : Int) - (-1074 + (b : Int)) - (more : Int) - 1 + 1074)).toNat = c - 1073 := by omega
        rw [t1, t2, Nat.pow_zero, Nat.mul_one, ← Nat.pow_add, show E + (c - 1073) = c + 1 by omega, Nat.pow_succ]
        omega
      · have t1 : (-1074 + (a : Int) - (-1074 + (b : Int)) - (more : Int) - 1 + 1074).toNat = 1073 - c := by omega
        have t2 : (-(-1074 + (a : Int) - (-1074 + (b : Int)) - (more : Int) - 1 + 1074)).toNat = 0 := by omega
        rw [t1, t2, Nat.pow_zero, Nat.mul_one]
        have e6 : (2 : Nat) ^ E = 2 * 2 ^ c * 2 ^ (1073 - c) := by
          rw [Nat.mul_assoc, ← Nat.pow_add, ← Nat.pow_succ']
          congr 1
          omega
        rw [e6]
        exact Nat.mul_le_mul_right _ hq)
    rw [e5, word_pos] at e
    have := h.eq e
    omega

end Go.Proofs.YtfppimlmebnaeaaGreatDoor

/- The root of what lies from 1 to 2; products by at most one and a half; products in the other order, of opposites. Nothing here speaks of the program. -/
namespace Go.Proofs.YtfppimlmebnaeaaGreatDoor

theorem rootFrom_spec (n : Nat) : ∀ (todo root : Nat), root * root ≤ n → n < (root + 2 ^ todo) * (root + 2 ^ todo) → Ieee.Datum.rootFrom n todo root * Ieee.Datum.rootFrom n todo root ≤ n ∧ n < (Ieee.Datum.rootFrom n todo root + 1) * (Ieee.Datum.rootFrom n todo root + 1)
  | 0, root, h1, h2 => ⟨h1, by simpa [Ieee.Datum.rootFrom] using h2⟩
  | todo + 1, root, h1, h2 => by
    have e : 2 ^ (todo + 1) = 2 ^ todo + 2 ^ todo := by rw [Nat.pow_succ]; omega
    unfold Ieee.Datum.rootFrom
    simp only [Nat.shiftLeft_eq, Nat.one_mul]
    by_cases h : (root + 2 ^ todo) * (root + 2 ^ todo) ≤ n
    · rw [if_pos h]
      exact rootFrom_spec n todo _ h (by rw [e, ← Nat.add_assoc] at h2; exact h2)
    · rw [if_neg h]
      exact rootFrom_spec n todo _ h1 (by omega)

theorem root_spec (n : Nat) (_h0 : n ≠ 0) : ∃ r, Ieee.Datum.rootFrom n (n.log2 / 2 + 1) 0 = r ∧ r * r ≤ n ∧ n < (r + 1) * (r + 1) := by
  refine ⟨_, rfl, rootFrom_spec n _ 0 (by omega) ?_⟩
  rw [Nat.zero_add, ← Nat.pow_add]
  have h1 : n < 2 ^ (n.log2 + 1) := Nat.lt_log2_self
  have h2 : 2 ^ (n.log2 + 1) ≤ 2 ^ (n.log2 / 2 + 1 + (n.log2 / 2 + 1)) := Nat.pow_le_pow_right (by decide) (by omega)
  omega

theorem sqrt_between {s t : Nat} (h1 : 4607182418800017408 ≤ s) (h2 : s ≤ 4611686018427387904) (h : FQ s t) : 4607182418800017408 ≤ t ∧ t ≤ 4609434218613702656 := by
  obtain ⟨E, hE⟩ : ∃ E : Nat, E = 1074 := ⟨_, rfl⟩
  obtain ⟨m, a, e1, v1⟩ := read_size (x := s) (by omega)
  have g1 : 2 ^ E ≤ m * 2 ^ a := by rw [v1, ← val_one_f E hE]; exact rungVal_le h1
  have g2 : m * 2 ^ a ≤ 2 * 2 ^ E := by rw [v1, ← val_two_f E hE]; exact rungVal_le h2
  have hm : m ≠ 0 := by
    rintro rfl
    have := Nat.two_pow_pos E
    omega
  have hlo : 2 ^ m.log2 ≤ m := Nat.log2_self_le hm
  have hal : m.log2 + a ≤ E + 1 := by
    have k1 : 2 ^ (m.log2 + a) ≤ 2 ^ (E + 1) := by
      rw [Nat.pow_add, Nat.pow_succ, Nat.mul_comm (2 ^ E) 2]
      exact Nat.le_trans (Nat.mul_le_mul_right _ hlo) g2
    exact (Nat.pow_le_pow_iff_right (by decide)).1 k1
  obtain ⟨more, hmore⟩ : ∃ more : Nat, 108 - m.log2 + ((-1074 + (a : Int) - ((108 - m.log2 : Nat) : Int)) % 2).toNat = more := ⟨_, rfl⟩
  obtain ⟨hh, hhh⟩ : ∃ hh : Nat, more + E = 2 * hh + a := ⟨(more + E - a) / 2, by omega⟩
  have hn0 : m <<< more ≠ 0 := by rw [Nat.shiftLeft_eq]; exact Nat.mul_ne_zero hm (Nat.ne_of_gt (Nat.two_pow_pos more))
  obtain ⟨r, er, r1, r2⟩ := root_spec (m <<< more) hn0
  have e : Ieee.double.sqrt s = some (Ieee.double.nearest false (2 * r + (r * r != m <<< more).toNat) (-(hh : Int) - 1)) := by
    show ((Ieee.double.read s).root (52 + 2)).map Ieee.double.write = _
    rw [e1]
    simp only [Ieee.Datum.root, if_neg hm, Bool.false_eq_true, if_false]
    rw [show 2 * (52 + 2) = 108 from rfl, hmore, er]
    simp only [Option.map, Ieee.Format.write]
    congr 2
    omega
  -- the shifted number lies from 4^hh to twice that
  have n1 : 2 ^ (2 * hh) ≤ m <<< more := by
    rw [Nat.shiftLeft_eq]
    have k : 2 ^ (2 * hh) * 2 ^ a ≤ m * 2 ^ more * 2 ^ a := by
      rw [← Nat.pow_add, ← hhh, Nat.pow_add, Nat.mul_right_comm m, Nat.mul_comm (2 ^ more)]
      exact Nat.mul_le_mul_right _ g1
    exact Nat.le_of_mul_le_mul_right k (Nat.two_pow_pos a)
  have n2 : m <<< more ≤ 2 * 2 ^ (2 * hh) := by
    rw [Nat.shiftLeft_eq]
    have k : m * 2 ^ more * 2 ^ a ≤ 2 * 2 ^ (2 * hh) * 2 ^ a := by
      rw [Nat.mul_assoc 2, ← Nat.pow_add, ← hhh, Nat.pow_add, Nat.mul_right_comm m, Nat.mul_comm (2 ^ more), ← Nat.mul_assoc]
      exact Nat.mul_le_mul_right _ g2
    exact Nat.le_of_mul_le_mul_right k (Nat.two_pow_pos a)
  have hq : 2 ^ (2 * hh) = 2 ^ hh * 2 ^ hh := by rw [← Nat.pow_add]; congr 1; omega
  have hC := Nat.two_pow_pos hh
  generalize m <<< more = n at *
  rw [hq] at n1 n2
  have q1 : 2 ^ hh ≤ r := by
    by_cases c : 2 ^ hh ≤ r
    · exact c
    · exfalso
      have : (r + 1) * (r + 1) ≤ 2 ^ hh * 2 ^ hh := Nat.mul_le_mul (by omega) (by omega)
      omega
  have q2 : 2 * r + 1 ≤ 3 * 2 ^ hh := by
    by_cases c : 2 * r + 1 ≤ 3 * 2 ^ hh
    · exact c
    · exfalso
      generalize 2 ^ hh = C at *
      have k1 : (3 * C) * (3 * C) ≤ (2 * r) * (2 * r) := Nat.mul_le_mul (by omega) (by omega)
      have k2 : (3 * C) * (3 * C) = 9 * (C * C) := by rw [Nat.mul_mul_mul_comm]
      have k3 : (2 * r) * (2 * r) = 4 * (r * r) := by rw [Nat.mul_mul_mul_comm]
      have k4 : 0 < C * C := Nat.mul_pos hC hC
      omega
  obtain ⟨Z, hZ⟩ : ∃ Z, 2 * r + (r * r != n).toNat = Z := ⟨_, rfl⟩
  have z1 : 2 * 2 ^ hh ≤ Z := by omega
  have z2 : Z ≤ 3 * 2 ^ hh := by
    have : (r * r != n).toNat ≤ 1 := by cases (r * r != n) <;> decide
    omega
  rw [hZ] at e
  have place : ∀ P Q : Nat, (-(hh : Int) - 1 + 1074).toNat = P → (-(-(hh : Int) - 1 + 1074)).toNat = Q → 2 ^ E * 2 ^ Q = 2 * 2 ^ hh * 2 ^ P := by
    intro P Q hP hQ
    rw [← Nat.pow_succ', ← Nat.pow_add, ← Nat.pow_add]
    congr 1
    omega
  have pl := place _ _ rfl rfl
  have hone := val_one_f E hE
  have hhalf := val_half3 E hE
  obtain ⟨u, e2, u1, u2⟩ := near_ge false Z (-(hh : Int) - 1) 4607182418800017408 (by decide) (by
    have k := Nat.mul_le_mul_right (2 ^ (-(hh : Int) - 1 + 1074).toNat) z1
    rw [← pl, ← hone] at k
    exact k)
  clear hone
  obtain ⟨x, e3, x1, x2⟩ := near_le false Z (-(hh : Int) - 1) 4609434218613702656 (by
    generalize 2 ^ (-(hh : Int) - 1 + 1074).toNat = P at *
    generalize 2 ^ (-(-(hh : Int) - 1 + 1074)).toNat = Q at *
    generalize 2 ^ E = F at *
    generalize 2 ^ hh = C at *
    have k1 : Z * P ≤ 3 * C * P := Nat.mul_le_mul_right _ z2
    have k2 : rungVal 4609434218613702656 * Q * 2 = 3 * (F * Q) := by rw [Nat.mul_right_comm, hhalf, Nat.mul_assoc]
    rw [pl] at k2
    have k3 : 3 * (2 * C * P) = 3 * C * P * 2 := by ac_rfl
    generalize rungVal 4609434218613702656 * Q = TQ at *
    clear hhalf
    omega)
  clear hhalf
  rw [e3] at e2
  rw [word_pos, word_pos] at e2
  subst e2
  rw [e3, word_pos] at e
  have := h.eq e
  omega

/-- What is less is not rounded to more. -/
theorem near_mono (n1 n2 : Bool) (m1 : Nat) (p1 : Int) (m2 : Nat) (p2 : Int) (h1 : m1 ≠ 0) (h2 : m2 ≠ 0)
    (h : m1 * 2 ^ (p1 + 1074).toNat * 2 ^ (-(p2 + 1074)).toNat < m2 * 2 ^ (p2 + 1074).toNat * 2 ^ (-(p1 + 1074)).toNat) :
    ∃ s1 s2, Ieee.double.nearest n1 m1 p1 = Ieee.double.word n1 s1 ∧ Ieee.double.nearest n2 m2 p2 = Ieee.double.word n2 s2 ∧ s1 ≤ s2 ∧ s2 ≤ 9218868437227405312 := by
  obtain ⟨s1, e1, l1, _, b1⟩ := near_mid n1 m1 p1 h1
  obtain ⟨s2, e2, l2, a2, _⟩ := near_mid n2 m2 p2 h2
  refine ⟨s1, s2, e1, e2, ?_, l2⟩
  by_cases c : s1 ≤ s2
  · exact c
  · exfalso
    have b := b1 (by omega)
    have a := a2 (by omega)
    have k1 : rungVal s2 + rungVal (s2 + 1) ≤ rungVal (s1 - 1) + rungVal s1 := Nat.add_le_add (rungVal_le (by omega)) (rungVal_le (by omega))
    generalize rungVal s2 + rungVal (s2 + 1) = X at *
    generalize rungVal (s1 - 1) + rungVal s1 = Y at *
    generalize m1 * 2 ^ (p1 + 1074).toNat = A1 at *
    generalize m2 * 2 ^ (p2 + 1074).toNat = A2 at *
    have hB1 := Nat.two_pow_pos (-(p1 + 1074)).toNat
    generalize 2 ^ (-(p1 + 1074)).toNat = B1 at *
    generalize 2 ^ (-(p2 + 1074)).toNat = B2 at *
    have k2 : 2 * A2 * B1 ≤ X * B2 * B1 := Nat.mul_le_mul_right _ a
    have k3 : X * B2 * B1 ≤ Y * B2 * B1 := Nat.mul_le_mul_right _ (Nat.mul_le_mul_right _ k1)
    have k4 : Y * B1 * B2 ≤ 2 * A1 * B2 := Nat.mul_le_mul_right _ b
    have k5 : Y * B2 * B1 = Y * B1 * B2 := Nat.mul_right_comm _ _ _
    rw [Nat.mul_assoc 2] at k2 k4
    omega

theorem product_comm (d c : Ieee.Datum) : d.product c = c.product d := by
  cases d <;> cases c <;> simp [Ieee.Datum.product, Bool.xor_comm, Nat.mul_comm, Int.add_comm]
theorem mul_comm_bits (x y : Nat) : floatBits .mul .f64 x y = floatBits .mul .f64 y x := by
  show ((Ieee.double.read x).product (Ieee.double.read y)).map _ = ((Ieee.double.read y).product (Ieee.double.read x)).map _
  rw [product_comm]
theorem sum_comm (d c : Ieee.Datum) : d.sum c = c.sum d := by
  cases d with
  | nan s f => cases c <;> rfl
  | infinity s =>
    cases c with
    | nan t f => rfl
    | infinity t =>
      simp only [Ieee.Datum.sum]
      by_cases h : s = t
      · subst h; rfl
      · rw [if_neg h, if_neg (fun e => h e.symm)]
    | number t m i => rfl
  | number s m i =>
    cases c with
    | nan t f => rfl
    | infinity t => rfl
    | number t n j => simp only [Ieee.Datum.sum]; rw [Int.min_comm j i, Int.add_comm (Ieee.signed t n _), Bool.and_comm t s]
theorem add_comm_bits (x y : Nat) : floatBits .add .f64 x y = floatBits .add .f64 y x := by
  show ((Ieee.double.read x).sum (Ieee.double.read y)).map _ = ((Ieee.double.read y).sum (Ieee.double.read x)).map _
  rw [sum_comm]
theorem FN.mulComm {x y r : Nat} (h : FN .mul x y r) : FN .mul y x r := ⟨h.1, by rw [mul_comm_bits]; exact h.2⟩
theorem FN.addComm {x y r : Nat} (h : FN .add x y r) : FN .add y x r := ⟨h.1, by rw [add_comm_bits]; exact h.2⟩

/-- At most one and a half times. -/
theorem mul_le_half3 {m t r r' : Nat} (hm : m < 9218868437227405312) (h1 : 4607182418800017408 ≤ t) (h2 : t ≤ 4609434218613702656) (h : FN .mul m t r) (h' : FN .mul 4609434218613702656 m r') : r ≤ r' ∧ r' ≤ 9218868437227405312 := by
  obtain ⟨E, hE⟩ : ∃ E : Nat, E = 1074 := ⟨_, rfl⟩
  obtain ⟨m2, p2, e2, v2, z2⟩ := mul_bits (x := 4609434218613702656) (y := m) E hE (by omega) hm
  by_cases ht : t = 4609434218613702656
  · subst ht
    rcases h.al h'.mulComm (.refl _) (.refl _) with rfl | ⟨n1, n2⟩
    · refine ⟨Nat.le_refl _, ?_⟩
      have e3 := h'.eq e2
      obtain ⟨s, e4, s1, _⟩ := near_ge false m2 p2 0 (by omega) (by rw [show rungVal 0 = 0 from rfl]; omega)
      rw [e4, word_pos] at e3
      omega
    · have e3 := h'.eq e2
      obtain ⟨s, e4, s1, _⟩ := near_ge false m2 p2 0 (by omega) (by rw [show rungVal 0 = 0 from rfl]; omega)
      rw [e4, word_pos] at e3
      subst e3
      rw [isnan_iff] at n2
      omega
  · obtain ⟨m1, p1, e1, v1, z1⟩ := mul_bits (x := m) (y := t) E hE hm (by omega)
    have r1 := h.eq e1
    have r2 := h'.eq e2
    have hvt : rungVal t < rungVal 4609434218613702656 := rungVal_lt (by omega)
    have hvt0 : 0 < rungVal t := Nat.lt_of_le_of_lt (Nat.zero_le _) (rungVal_lt (r := 0) (s := t) (by omega))
    by_cases h0 : m = 0
    · have q : m1 = 0 := z1.2 (by rw [h0]; show rungVal 0 * _ = 0; rw [show rungVal 0 = 0 from rfl, Nat.zero_mul])
      rw [q] at r1
      simp [Ieee.Format.nearest, word_pos] at r1
      obtain ⟨s, e4, s1, _⟩ := near_ge false m2 p2 0 (by omega) (by rw [show rungVal 0 = 0 from rfl]; omega)
      rw [e4, word_pos] at r2
      omega
    · have hvm : 0 < rungVal m := Nat.lt_of_le_of_lt (Nat.zero_le _) (rungVal_lt (r := 0) (s := m) (by omega))
      have q1 : m1 ≠ 0 := fun e => by have := z1.1 e; have := Nat.mul_pos hvm hvt0; omega
      have q2 : m2 ≠ 0 := fun e => by have := z2.1 e; have := Nat.mul_pos (Nat.lt_of_lt_of_le hvt0 (Nat.le_of_lt hvt)) hvm; omega
      obtain ⟨s1, s2, f1, f2, hs, hi⟩ := near_mono false false m1 p1 m2 p2 q1 q2 (by
        have hP := Nat.two_pow_pos E
        have hB1 := Nat.two_pow_pos (-(p1 + 1074)).toNat
        have hB2 := Nat.two_pow_pos (-(p2 + 1074)).toNat
        generalize m1 * 2 ^ (p1 + 1074).toNat = A1 at *
        generalize m2 * 2 ^ (p2 + 1074).toNat = A2 at *
        generalize 2 ^ (-(p1 + 1074)).toNat = B1 at *
        generalize 2 ^ (-(p2 + 1074)).toNat = B2 at *
        generalize 2 ^ E = P at *
        generalize rungVal 4609434218613702656 = T at *
        generalize rungVal t = X at *
        generalize rungVal m = M at *
        have k : A1 * B2 * P < A2 * B1 * P := by
          rw [Nat.mul_right_comm A1, v1, Nat.mul_right_comm A2, v2, Nat.mul_comm T M, Nat.mul_right_comm (M * T)]
          exact Nat.mul_lt_mul_of_pos_right (Nat.mul_lt_mul_of_pos_right (Nat.mul_lt_mul_of_pos_left hvt hvm) hB1) hB2
        exact Nat.lt_of_mul_lt_mul_right k)
      rw [f1, word_pos] at r1
      rw [f2, word_pos] at r2
      omega

theorem MulR_swap {a b c d x y u v re im x' y' u' v' re' im' : Nat} (h1 : FN .mul a c x) (h2 : FN .mul b d y) (h3 : FN .sub x y re) (h4 : FN .mul a d u) (h5 : FN .mul b c v) (h6 : FN .add u v im)
    (g1 : FN .mul c a x') (g2 : FN .mul d b y') (g3 : FN .sub x' y' re') (g4 : FN .mul c b u') (g5 : FN .mul d a v') (g6 : FN .add u' v' im') : Al re re' ∧ Al im im' :=
  ⟨h3.al g3 (h1.al g1.mulComm (.refl _) (.refl _)) (h2.al g2.mulComm (.refl _) (.refl _)), h6.al g6.addComm (h4.al g5.mulComm (.refl _) (.refl _)) (h5.al g4.mulComm (.refl _) (.refl _))⟩

end Go.Proofs.YtfppimlmebnaeaaGreatDoor

/- Opposites: of products, of sums; the conjugate of a product. Nothing here speaks of the program. -/
namespace Go.Proofs.YtfppimlmebnaeaaGreatDoor

/-- The other sign, by the bits. -/
def fopp (x : Nat) : Nat := x ^^^ 9223372036854775808
theorem fopp_low {x : Nat} (h : x < 9223372036854775808) : fopp x = 9223372036854775808 + x := by
  have e := nat_join 63 9223372036854775808 x (by decide) h
  unfold fopp
  have e2 : x ^^^ 9223372036854775808 = 9223372036854775808 ||| x := by
    apply Nat.eq_of_testBit_eq
    intro i
    rw [Nat.testBit_xor, Nat.testBit_or, show (9223372036854775808 : Nat) = 2 ^ 63 from rfl, Nat.testBit_two_pow]
    by_cases hi : 63 = i
    · subst hi
      rw [Nat.testBit_lt_two_pow h]; simp
    · simp [hi]
  rw [e2, e]
theorem fopp_fopp (x : Nat) : fopp (fopp x) = x := by unfold fopp; rw [Nat.xor_assoc, Nat.xor_self, Nat.xor_zero]
theorem fopp_high {x : Nat} (h : x < 18446744073709551616) (h1 : 9223372036854775808 ≤ x) : fopp x = x - 9223372036854775808 := by
  have e := fopp_low (x := x - 9223372036854775808) (by omega)
  rw [show 9223372036854775808 + (x - 9223372036854775808) = x by omega] at e
  rw [← e, fopp_fopp]
  omega
theorem fopp_mod {x : Nat} (h : x < 18446744073709551616) : fopp x % 9223372036854775808 = x % 9223372036854775808 ∧ fopp x < 18446744073709551616 := by
  by_cases h1 : x < 9223372036854775808
  · rw [fopp_low h1]; omega
  · rw [fopp_high h (by omega)]; omega
theorem isnan_fopp {x : Nat} (h : x < 18446744073709551616) : isnan (fopp x) = isnan x := by unfold isnan; rw [(fopp_mod h).1]

theorem read_fopp {x : Nat} (h : x < 18446744073709551616) : Ieee.double.read (fopp x) = (Ieee.double.read x).opposite := by
  have hm := (fopp_mod h).1
  have hs : (fopp x / 9223372036854775808 % 2 == 1) = !(x / 9223372036854775808 % 2 == 1) := by
    by_cases h1 : x < 9223372036854775808
    · rw [fopp_low h1, show (9223372036854775808 + x) / 9223372036854775808 = 1 by omega, show x / 9223372036854775808 = 0 by omega]; rfl
    · rw [fopp_high h (by omega), show (x - 9223372036854775808) / 9223372036854775808 = 0 by omega, show x / 9223372036854775808 = 1 by omega]; rfl
  unfold Ieee.Format.read
  simp only [dbl_sign, dbl_inf, dbl_binade]
  rw [hm, hs]
  split
  · rfl
  split
  · rfl
  split
  · rfl
  · rfl

theorem word_opp (s : Bool) (r : Nat) (h : r ≤ 9218868437227405312) : Ieee.double.word (!s) r = fopp (Ieee.double.word s r) := by
  have e := fopp_low (x := r) (by omega)
  cases s
  · show Ieee.double.signWeight + r = fopp r
    rw [dbl_sign, e]
  · show r = fopp (Ieee.double.signWeight + r)
    rw [dbl_sign, ← e, fopp_fopp]
theorem nearest_opp (s : Bool) (m : Nat) (i : Int) : Ieee.double.nearest (!s) m i = fopp (Ieee.double.nearest s m i) := by
  by_cases h0 : m = 0
  · subst h0
    simp only [Ieee.Format.nearest, if_true]
    exact word_opp s 0 (by omega)
  · unfold Ieee.Format.nearest
    rw [if_neg h0, if_neg h0]
    have hc : ∀ n d, Ieee.Toward.even.cut (!s) n d = Ieee.Toward.even.cut s n d := fun n d => rfl
    simp only [hc]
    refine word_opp s _ ?_
    rw [dbl_inf]
    exact Nat.min_le_right _ _
theorem write_opp (d : Ieee.Datum) (h : d.isNaN = false) : Ieee.double.write d.opposite = fopp (Ieee.double.write d) := by
  cases d with
  | nan s f => cases h
  | infinity s => exact word_opp s _ (by rw [dbl_inf]; omega)
  | number s m i => exact nearest_opp s m i

theorem product_opp_r (d c : Ieee.Datum) : d.product c.opposite = (d.product c).map Ieee.Datum.opposite := by
  cases d with
  | nan s f => cases c <;> rfl
  | infinity s =>
    cases c with
    | nan t f => rfl
    | infinity t => cases s <;> cases t <;> rfl
    | number t n j =>
      simp only [Ieee.Datum.opposite, Ieee.Datum.product]
      by_cases h : n = 0
      · rw [if_pos h, if_pos h]; rfl
      · rw [if_neg h, if_neg h]; cases s <;> cases t <;> rfl
  | number s m i =>
    cases c with
    | nan t f => rfl
    | infinity t =>
      simp only [Ieee.Datum.opposite, Ieee.Datum.product]
      by_cases h : m = 0
      · rw [if_pos h, if_pos h]; rfl
      · rw [if_neg h, if_neg h]; cases s <;> cases t <;> rfl
    | number t n j => cases s <;> cases t <;> rfl
theorem product_notnan {d c p : Ieee.Datum} (h : d.product c = some p) : p.isNaN = false := by
  cases d with
  | nan s f => cases c <;> cases h
  | infinity s =>
    cases c with
    | nan t f => cases h
    | infinity t => cases h; rfl
    | number t n j =>
      simp only [Ieee.Datum.product] at h
      split at h
      · cases h
      · cases h; rfl
  | number s m i =>
    cases c with
    | nan t f => cases h
    | infinity t =>
      simp only [Ieee.Datum.product] at h
      split at h
      · cases h
      · cases h; rfl
    | number t n j => cases h; rfl
theorem mul_opp_r (a : Nat) {d : Nat} (hd : d < 18446744073709551616) : floatBits .mul .f64 a (fopp d) = (floatBits .mul .f64 a d).map fopp := by
  show ((Ieee.double.read a).product (Ieee.double.read (fopp d))).map Ieee.double.write = (((Ieee.double.read a).product (Ieee.double.read d)).map Ieee.double.write).map fopp
  rw [read_fopp hd, product_opp_r]
  cases h : (Ieee.double.read a).product (Ieee.double.read d) with
  | none => rfl
  | some p => show some _ = some _; rw [write_opp p (product_notnan h)]
theorem mul_opp_two {b d : Nat} (hb : b < 18446744073709551616) (hd : d < 18446744073709551616) : floatBits .mul .f64 (fopp b) (fopp d) = floatBits .mul .f64 b d := by
  rw [mul_opp_r _ hd, mul_comm_bits, mul_opp_r _ hb, mul_comm_bits d b]
  cases floatBits .mul .f64 b d with
  | none => rfl
  | some r => show some _ = some _; rw [fopp_fopp]

/-- Opposites, or both NaN. -/
def Ng (x y : Nat) : Prop := y = fopp x ∨ (isnan x = true ∧ isnan y = true)
theorem mul_ng {a d u u' : Nat} (hd : d < 18446744073709551616) (h : FN .mul a d u) (h' : FN .mul a (fopp d) u') : Ng u u' := by
  have e := mul_opp_r a hd
  rcases h.2 with g | ⟨g, k⟩
  · rw [g] at e
    exact .inl (h'.eq e)
  · rw [g] at e
    rcases h'.2 with g' | ⟨_, k'⟩
    · rw [e] at g'; cases g'
    · exact .inr ⟨k, k'⟩

theorem zero_eq (s t : Bool) : FloatKind.f64.format.order (Ieee.double.word s 0) (Ieee.double.word t 0) = some .eq := by cases s <;> cases t <;> decide
theorem signed_not (s : Bool) (m k : Nat) : Ieee.signed (!s) m k = -Ieee.signed s m k := by
  cases s
  · rfl
  · simp [Ieee.signed]
theorem add_ng {u v u' v' r r' : Nat} (hu : u < 18446744073709551616) (hv : v < 18446744073709551616) (h : FN .add u v r) (h' : FN .add u' v' r') (n1 : Ng u u') (n2 : Ng v v') (k : isnan r = false) (k' : isnan r' = false) :
    (FloatKind.f64.format.order (fopp r) r' == some .eq) = true := by
  have none_bad : floatBits .add .f64 u v = none → False := fun e => by
    rcases h.2 with g | ⟨_, g⟩
    · rw [e] at g; cases g
    · rw [k] at g; cases g
  rcases n1 with rfl | ⟨m1, _⟩
  · rcases n2 with rfl | ⟨m2, _⟩
    · have same : ∀ _z : Nat, r' = fopp r → (FloatKind.f64.format.order (fopp r) r' == some .eq) = true := fun _ e => by
        rw [e, order_refl (by rw [← e]; exact k')]; rfl
      have er : ∃ d, (Ieee.double.read u).sum (Ieee.double.read v) = some d ∧ r = Ieee.double.write d := by
        cases hd : (Ieee.double.read u).sum (Ieee.double.read v) with
        | none => exact absurd (show floatBits .add .f64 u v = none from (by show ((Ieee.double.read u).sum (Ieee.double.read v)).map _ = none; rw [hd]; rfl)) none_bad
        | some d => exact ⟨d, rfl, h.eq (show ((Ieee.double.read u).sum (Ieee.double.read v)).map _ = _ by rw [hd]; rfl)⟩
      obtain ⟨d, hd, er⟩ := er
      have ef : ∀ d', (Ieee.double.read u).opposite.sum (Ieee.double.read v).opposite = some d' → r' = Ieee.double.write d' := fun d' e => h'.eq (show ((Ieee.double.read (fopp u)).sum (Ieee.double.read (fopp v))).map _ = _ by rw [read_fopp hu, read_fopp hv, e]; rfl)
      cases hx : Ieee.double.read u with
      | nan s f => rw [hx] at hd; cases hy : Ieee.double.read v <;> rw [hy] at hd <;> cases hd
      | infinity s =>
        cases hy : Ieee.double.read v with
        | nan t f => rw [hx, hy] at hd; cases hd
        | infinity t =>
          rw [hx, hy] at hd ef
          simp only [Ieee.Datum.sum] at hd
          split at hd
          · rename_i hst
            subst hst
            cases hd
            exact same 0 (by rw [ef (.infinity (!s)) (by simp [Ieee.Datum.opposite, Ieee.Datum.sum]), er]; exact write_opp (.infinity s) rfl)
          · cases hd
        | number t n j =>
          rw [hx, hy] at hd ef
          cases hd
          exact same 0 (by rw [ef (.infinity (!s)) rfl, er]; exact write_opp (.infinity s) rfl)
      | number s m i =>
        cases hy : Ieee.double.read v with
        | nan t f => rw [hx, hy] at hd; cases hd
        | infinity t =>
          rw [hx, hy] at hd ef
          cases hd
          exact same 0 (by rw [ef (.infinity (!t)) rfl, er]; exact write_opp (.infinity t) rfl)
        | number t n j =>
          rw [hx, hy] at hd ef
          simp only [Ieee.Datum.sum] at hd
          have ef2 := ef _ rfl
          simp only [signed_not] at ef2
          cases hd
          generalize Ieee.signed s m (i - min i j).toNat = S at *
          generalize Ieee.signed t n (j - min i j).toNat = T at *
          by_cases hz : S + T = 0
          · have hz2 : -S + -T = 0 := by omega
            rw [hz, if_pos rfl] at er
            rw [hz2, if_pos rfl] at ef2
            have w0 : ∀ b : Bool, Ieee.double.write (.number b (Int.natAbs 0) (min i j)) = Ieee.double.word b 0 := fun b => by simp [Ieee.Format.write, Ieee.Format.nearest]
            rw [w0] at er ef2
            rw [er, ef2, ← word_opp _ 0 (by omega), zero_eq]
            rfl
          · have hz2 : ¬ (-S + -T = 0) := by omega
            rw [if_neg hz] at er
            rw [if_neg hz2] at ef2
            have e1 : (-S + -T).natAbs = (S + T).natAbs := by omega
            have e2 : decide (-S + -T < 0) = !decide (S + T < 0) := by
              by_cases hp : S + T < 0
              · rw [decide_eq_true hp, decide_eq_false (by omega)]; rfl
              · rw [decide_eq_false hp, decide_eq_true (by omega)]; rfl
            rw [e1, e2] at ef2
            exact same 0 (by rw [ef2, er]; exact nearest_opp _ _ _)
    · exact absurd (fb_nan_r m2) none_bad
  · exact absurd (fb_nan_l m1) none_bad

end Go.Proofs.YtfppimlmebnaeaaGreatDoor

/- real.Nearest, of every fraction. -/
namespace Go.Proofs.YtfppimlmebnaeaaGreatDoor
open Go.RowKit
set_option linter.unusedVariables false

/-- The least float is 2 to the power -zP. -/
def zP : Nat := 1074
/-- What Nearest tells of a fraction: its float and the error. -/
def NrT (n : Bool) (xs ys : List Int) (x : Nat) (code : Int) : Prop :=
  (rchk n xs ys ≠ 0 ∧ x = 0 ∧ code = rchk n xs ys) ∨ (rchk n xs ys = 0 ∧ ∃ X Y s : Nat, val xs = X ∧ val ys = Y ∧ 0 < Y ∧ Mid (X * 2 ^ zP) Y s ∧ ((s = 9218868437227405312 ∧ x = 0 ∧ code = 9) ∨ (s < 9218868437227405312 ∧ code = 0 ∧ x = (if n = true ∧ 0 < s then s + 9223372036854775808 else s))))

theorem mid_nought {Y : Nat} (hY : 0 < Y) : Mid (0 * 2 ^ zP) Y 0 := by
  rw [Nat.zero_mul]
  refine ⟨by decide, fun _ => by omega, fun g => by omega, fun _ _ => rfl, fun g => by omega⟩
theorem inf_not_fin : fin 9218868437227405312 = false := by decide
theorem mid_fin {A D s : Nat} (h : Mid A D s) (hs : s ≠ 9218868437227405312) : fin s = true ∧ s < 9218868437227405312 := by
  have := h.top
  exact ⟨(fin_iff s).2 (by omega), by omega⟩
theorem order_above {s : Nat} (h : s < 9218868437227405312) : FloatKind.f64.format.order s 0 = some (compare s 0) := order_pos (by omega) (by omega)
theorem f_gt_zero (s : Nat) (h : s < 9218868437227405312) : (FloatKind.f64.format.order s 0 == some .gt) = decide (0 < s) := by
  rw [order_above h]
  rcases Nat.eq_zero_or_pos s with g | g
  · subst g; decide
  · have : compare s 0 = .gt := Nat.compare_eq_gt.2 g
    rw [this]; simp [g]

theorem fneg_pos {s : Nat} (h : s < 9223372036854775808) : fneg s = s + 9223372036854775808 := by
  have e : fneg s = fopp s := rfl
  rw [e, fopp_low h]; omega

set_option maxHeartbeats 1600000 in
set_option maxRecDepth 100000 in
theorem nearest_any (n : Bool) (v : Value) (xs : List Int) (u : Value) (ys : List Int) (w : World) (h1 : Sl w v xs) (h2 : Sl w u ys) :
    Calls Tryz.prog 10 #[.agg #[.bool n, v, u]] w fun e w' => ∃ x code, e = .returned (.tuple #[.float .f64 x, .int .i64 code]) ∧ NrT n xs ys x code ∧ Below w.heap.size w w' := by
  obtain ⟨a, cap, rfl, hrx⟩ := h1
  obtain ⟨b, cap', rfl, hry⟩ := h2
  obtain ⟨X1, hX1⟩ : ∃ X1, w.alloc (.cells #[.bool n, .slice a xs.length cap, .slice b ys.length cap'] 24) = X1 := ⟨_, rfl⟩
  have b1 : Below w.heap.size w X1 := by rw [← hX1]; exact alloc_later _ _
  have hB1 : Box X1 w.heap.size 24 #[.bool n, .slice a xs.length cap, .slice b ys.length cap'] := by rw [← hX1]; exact Box.made w _ _
  have e0 : X1.cell? ⟨w.heap.size, 0, none⟩ = some (.bool n) := hB1.cell 0
  have e1 : X1.cell? ⟨w.heap.size, 1, none⟩ = some (.slice a xs.length cap) := hB1.cell 1
  have e2 : X1.cell? ⟨w.heap.size, 2, none⟩ = some (.slice b ys.length cap') := hB1.cell 2
  have HB1 := hid b1
  have HBX := hid hB1
  have HCK := hid (rcheck_any n _ xs _ ys X1 ⟨a, cap, rfl, hrx.later b1 b1.size⟩ ⟨b, cap', rfl, hry.later b1 b1.size⟩)
  have HRX := hid hrx
  have HRY := hid hry
  obtain ⟨ck, hck⟩ : ∃ ck, rchk n xs ys = ck := ⟨_, rfl⟩
  have HK := hid hck
  rw [hck] at HCK
  clear hrx hry b1 hB1 hck
  by_cases hz : ck = 0
  · subst hz
    obtain ⟨lx, ly, tx, ty, hy0, hs, hg⟩ := rchk_ok HK.out
    have hYv : 0 < val ys := by
      have e : 0 < sz ys := by rw [show sz ys = ys.length from ty]; exact hy0
      have h := (bits_bounds HRY.out.2.1 e).2.1
      have := two_pos (bitsOf ys - 1)
      omega
    obtain ⟨Y, hY⟩ := Int.eq_ofNat_of_zero_le (Int.le_of_lt hYv)
    have hY0 : 0 < Y := by omega
    by_cases hx : xs = []
    · subst hx
      have HN : Hid (NrT n [] ys 0 0) := .inr ⟨HK.out, 0, Y, 0, by rw [val_nil]; rfl, hY, hY0, mid_nought hY0, .inr ⟨by decide, rfl, by simp⟩⟩
      have el : ([] : List Int).length = 0 := rfl
      rw [el] at e1 hX1 ⊢
      go_enter Tryz.func10, Tryz.ntmps10
      go_wp2_with fail
      clear hX1
      refine Calls.mono HCK.out ?_
      rintro e w2 ⟨rfl, b2⟩
      have hB2 := HBX.out.later b2 HBX.out.lt
      have e1' : w2.cell? ⟨w.heap.size, 1, none⟩ = some (.slice a 0 cap) := hB2.cell 1
      go_wp2_with fail
      go_returns
      exact ⟨_, _, rfl, HN.out, bt HB1.out b2⟩
    · obtain ⟨k, hk⟩ : ∃ k, xs.length = k + 1 := ⟨xs.length - 1, by have : xs.length ≠ 0 := fun e => hx (List.eq_nil_of_length_eq_zero e); omega⟩
      obtain ⟨l, hl⟩ : ∃ l, ys.length = l + 1 := ⟨ys.length - 1, by omega⟩
      obtain ⟨X, hX⟩ := Int.eq_ofNat_of_zero_le (val_nonneg HRX.out.2.1)
      rw [hk] at HRX lx e1 hX1 HBX HCK ⊢
      rw [hl] at HRY ly e2 hX1 HBX HCK ⊢
      have HNS := hid (fun V (hv : Below X1.heap.size X1 V) => nearestSize_any n a k cap xs b l cap' ys V (HRX.out.later (bt HB1.out hv) (bt HB1.out hv).size) (HRY.out.later (bt HB1.out hv) (bt HB1.out hv).size) (by omega) (by omega) tx ty X Y zP hX hY rfl)
      have HT : Hid (∀ s, Mid (X * 2 ^ zP) Y s → (s = 9218868437227405312 → NrT n xs ys 0 9) ∧ (s < 9218868437227405312 → NrT n xs ys (if n = true ∧ 0 < s then s + 9223372036854775808 else s) 0)) := fun s hm =>
        ⟨fun e => .inr ⟨HK.out, X, Y, s, hX, hY, hY0, hm, .inl ⟨e, rfl, rfl⟩⟩, fun e => .inr ⟨HK.out, X, Y, s, hX, hY, hY0, hm, .inr ⟨e, rfl, rfl⟩⟩⟩
      have hk1 : ¬ (k + 1 = 0) := by omega
      have HFF := hid (fun s V (hs : s < 18446744073709551616) => finite_any s V hs)
      clear tx ty hs hg hy0 hYv hX hY hk hl hx
      go_enter Tryz.func10, Tryz.ntmps10
      go_wp2_with fail
      clear hX1
      refine Calls.mono HCK.out ?_
      rintro e w2 ⟨rfl, b2⟩
      have hB2 := HBX.out.later b2 HBX.out.lt
      have e0' : w2.cell? ⟨w.heap.size, 0, none⟩ = some (.bool n) := hB2.cell 0
      have e1' : w2.cell? ⟨w.heap.size, 1, none⟩ = some (.slice a (k + 1) cap) := hB2.cell 1
      have e2' : w2.cell? ⟨w.heap.size, 2, none⟩ = some (.slice b (l + 1) cap') := hB2.cell 2
      have HB2 := hid hB2
      have HBL := hid b2
      have HN2 := hid (HNS.out w2 b2)
      clear e0 e1 e2 HCK HNS HBX hB2 b2
      go_wp2_with fail
      refine Calls.mono HN2.out ?_
      rintro e w3 ⟨s, rfl, hm, b3⟩
      have hB3 := HB2.out.later b3 HB2.out.lt
      have e0'' : w3.cell? ⟨w.heap.size, 0, none⟩ = some (.bool n) := hB3.cell 0
      have HM := hid hm
      have HBB := hid (bt HB1.out (bt HBL.out b3))
      have hneg : ∀ x, Op.unary .neg (.float .f64 x) = pure (.float .f64 (fneg x)) := fun x => rfl
      clear e0' e1' e2' HB2 HBL HN2 hB3 b3 hm
      by_cases hi : s = 9218868437227405312
      · have HN := hid ((HT.out s HM.out).1 hi)
        have HF1 := hid (HFF.out s w3 (by have := HM.out.top; omega))
        rw [hi, inf_not_fin] at HF1
        subst hi
        go_wp2_with fail
        refine Calls.mono HF1.out ?_
        rintro e w4 ⟨rfl, rfl⟩
        go_wp2_with fail
        go_returns
        exact ⟨_, _, rfl, HN.out, HBB.out⟩
      · obtain ⟨hf, hlt⟩ := mid_fin HM.out hi
        have HN := hid ((HT.out s HM.out).2 hlt)
        have HF1 := hid (HFF.out s w3 (by have := HM.out.top; omega))
        rw [hf] at HF1
        have hgt := f_gt_zero s hlt
        by_cases hn : n = true
        · subst hn
          by_cases h0 : 0 < s
          · have hd : decide (0 < s) = true := by simp [h0]
            rw [hd] at hgt
            have hfn : fneg s = s + 9223372036854775808 := fneg_pos (by omega)
            rw [if_pos ⟨rfl, h0⟩, ← hfn] at HN
            clear hd hi hf hlt HT HFF HM h0 hfn
            go_wp2_with fail
            refine Calls.mono HF1.out ?_
            rintro e w4 ⟨rfl, rfl⟩
            go_wp2_with fail
            go_returns
            exact ⟨_, _, rfl, HN.out, HBB.out⟩
          · have hd : decide (0 < s) = false := by simp [h0]
            rw [hd] at hgt
            rw [if_neg (by intro h; exact h0 h.2)] at HN
            clear hd hi hf hlt HT HFF HM h0
            go_wp2_with fail
            refine Calls.mono HF1.out ?_
            rintro e w4 ⟨rfl, rfl⟩
            go_wp2_with fail
            go_returns
            exact ⟨_, _, rfl, HN.out, HBB.out⟩
        · obtain rfl : n = false := by cases n <;> simp_all
          rw [if_neg (by intro h; cases h.1)] at HN
          clear hgt hi hf hlt HT HFF HM hn
          go_wp2_with fail
          refine Calls.mono HF1.out ?_
          rintro e w4 ⟨rfl, rfl⟩
          go_wp2_with fail
          go_returns
          exact ⟨_, _, rfl, HN.out, HBB.out⟩
  · have HN : Hid (NrT n xs ys 0 ck) := .inl ⟨by rw [HK.out]; exact hz, rfl, HK.out.symm⟩
    have hz' : (ck == 0) = false := by simp [hz]
    go_enter Tryz.func10, Tryz.ntmps10
    go_wp2_with fail
    refine Calls.mono HCK.out ?_
    rintro e w2 ⟨rfl, b2⟩
    go_wp2_with fail
    go_returns
    exact ⟨_, _, rfl, HN.out, bt HB1.out b2⟩

end Go.Proofs.YtfppimlmebnaeaaGreatDoor

/- real.fraction: what a float that was taken apart is, in lowest terms, in new memory. -/
namespace Go.Proofs.YtfppimlmebnaeaaGreatDoor
open Go.RowKit
set_option linter.unusedVariables false

theorem one_wd : Wd [1] := Wd.one (by omega)
theorem one_trimmed : Trimmed [1] := rfl
theorem reads_of {W : World} {b g n : Nat} {ys : List Int} (h : OwnW W b g n ys) (hw : Wd ys) : Reads W W.heap.size (some ⟨g, 0, none⟩) n n ys := by
  obtain ⟨a, cap, hv, hr⟩ := Reads.own h hw
  cases hv
  exact hr

theorem len_succ {ys : List Int} {d : Nat} (h : val ys = d) (h0 : d ≠ 0) : ∃ l, ys.length = l + 1 := by
  cases ys with
  | nil => rw [val_nil] at h; omega
  | cons a b => exact ⟨b.length, rfl⟩
theorem end_own {V : World} {b g n p r j : Nat} {ys : List Int} {vs : Array Value} (h : OwnW V b g n ys) (hp : Box V p 24 vs) (hr : Box V r 24 #[.bool false, .slice none 0 0, .slice none 0 0]) (hne : p ≠ r) (x v0 v1 v2 : Value) (_u : Unit) : OwnW ((((V.setCell ⟨p, j, none⟩ x).setCell ⟨r, 0, none⟩ v0).setCell ⟨r, 1, none⟩ v1).setCell ⟨r, 2, none⟩ v2) b g n ys :=
  own_put3 (own_put1 h p (own_ne_box h hp (by decide)) j x) r (own_ne_box (own_put1 h p (own_ne_box h hp (by decide)) j x) (hr.other ⟨p, j, none⟩ x (Ne.symm hne)) (by decide)) v0 v1 v2
theorem end_below {B : Nat} {w V : World} {p r j : Nat} (h : Below B w V) (hp : B ≤ p) (hr : B ≤ r) (x v0 v1 v2 : Value) (_u : Unit) : Below B w ((((V.setCell ⟨p, j, none⟩ x).setCell ⟨r, 0, none⟩ v0).setCell ⟨r, 1, none⟩ v1).setCell ⟨r, 2, none⟩ v2) :=
  below_put3 (h.setCell (p := ⟨p, j, none⟩) hp x) r hr v0 v1 v2

set_option maxHeartbeats 3200000 in
set_option maxRecDepth 100000 in
theorem fraction_any (s : Bool) (m : Nat) (u : Int) (w : World) (hm : m < 18446744073709551616) (h0 : m ≠ 0) (u0 : -1074 ≤ u) (u1 : u ≤ 972) (hT : TabB w) :
    Calls Tryz.prog 22 #[.agg #[.bool s, .int .u64 (m : Int), .int .i64 u]] w fun e w' => ∃ a ca b cb zs ds, e = .returned (.agg #[.bool s, .slice a zs.length ca, .slice b ds.length cb]) ∧ w'.ownsRow w.heap.size 62 1 (.slice a zs.length ca) zs.length (zs.map (Value.int .u32)) ∧ w'.ownsRow w.heap.size 62 1 (.slice b ds.length cb) ds.length (ds.map (Value.int .u32)) ∧ Wd zs ∧ Trimmed zs ∧ Wd ds ∧ Trimmed ds ∧
      val zs = ((m / 2 ^ Lib.ctz 64 m : Nat) : Int) * 2 ^ (u + (Lib.ctz 64 m : Int)).toNat ∧ val ds = 2 ^ (-(u + (Lib.ctz 64 m : Int))).toNat ∧ a ≠ b ∧ Below w.heap.size w w' := by
  obtain ⟨hlow, hk⟩ := Lib.lowest_bit 64 m h0 hm
  have HTZ := hid (fun V hV => tz_any m V hm h0 hV)
  have hm0 : ((m : Int) == 0) = false := beq_eq_false_iff_ne.2 (by omega)
  have HXp := hid ((Box.made w 53 #[.bool s, .int .u64 (m : Int), .int .i64 u]).later (alloc_later _ (.cells #[.bool false, .slice none 0 0, .slice none 0 0] 24)) (by simp))
  have HXr : Hid (Box ((w.alloc (.cells #[.bool s, .int .u64 (m : Int), .int .i64 u] 53)).alloc (.cells #[.bool false, .slice none 0 0, .slice none 0 0] 24)) (w.heap.size + 1) 24 #[.bool false, .slice none 0 0, .slice none 0 0]) := by
    have e := Box.made (w.alloc (.cells #[.bool s, .int .u64 (m : Int), .int .i64 u] 53)) 24 #[.bool false, .slice none 0 0, .slice none 0 0]
    rw [World.size_alloc] at e
    exact e
  have HB := hid (bt (alloc_later w (.cells #[.bool s, .int .u64 (m : Int), .int .i64 u] 53)) (alloc_later _ (.cells #[.bool false, .slice none 0 0, .slice none 0 0] 24)))
  have HTX := hid (hT.later HB.out)
  have HB0 := hid HB.out
  clear hlow hT
  go_enter Tryz.func22, Tryz.ntmps22
  go_wp2_with fail
  refine Calls.mono (HTZ.out _ HTX.out) ?_
  generalize (w.alloc (.cells #[.bool s, .int .u64 (m : Int), .int .i64 u] 53)).alloc (.cells #[.bool false, .slice none 0 0, .slice none 0 0] 24) = X at *
  generalize hkk : Lib.ctz 64 m = k at *
  rintro e w1 ⟨rfl, rfl⟩
  have x0 : w1.cell? ⟨w.heap.size, 0, none⟩ = some (.bool s) := HXp.out.cell 0
  have x1 : w1.cell? ⟨w.heap.size, 1, none⟩ = some (.int .u64 (m : Int)) := HXp.out.cell 1
  have x2 : w1.cell? ⟨w.heap.size, 2, none⟩ = some (.int .i64 u) := HXp.out.cell 2
  obtain ⟨d, hd⟩ : ∃ d : Nat, m / 2 ^ k = d := ⟨_, rfl⟩
  have hsh : (m : Int) / 2 ^ k = (d : Int) := by rw [← hd]; exact cast_div_two m k
  have HD : Hid (d < 18446744073709551616 ∧ d ≠ 0) := div_odd hm h0 hkk hd
  have HK : Hid (∀ V, Below w1.heap.size w1 V → V.cell? ⟨w.heap.size, 0, none⟩ = some (.bool s) ∧ V.cell? ⟨w.heap.size, 1, none⟩ = some (.int .u64 (m : Int))) := fun V hb => by
    have hx := HXp.out.later hb HXp.out.lt
    exact ⟨hx.cell 0, hx.cell 1⟩
  have hs0 := HK.out _ (Below.drew (Below.refl _ w1))
  have HBR := hid (Below.drew (Below.refl w1.heap.size w1))
  have H1 : Hid (∀ ww, Below w1.heap.size w1 ww → Calls Tryz.prog 39 #[.int .u64 (d : Int)] ww fun e w' => ∃ ys : List Int, e = .returned (.slice (some ⟨ww.heap.size, 0, none⟩) ys.length ys.length) ∧ Hid (WordsE ww w' d ys) ∧ Below w1.heap.size w1 w' ∧ w1.heap.size ≤ w'.heap.size ∧ ww.heap.size < w'.heap.size ∧ (w1.heap.size ≠ w'.heap.size ∧ w1.heap.size < w'.heap.size) ∧ (∀ b j, b < ww.heap.size → w'.cell? ⟨b, j, none⟩ = ww.cell? ⟨b, j, none⟩) ∧ (∀ b j, b < ww.heap.size → w'.frozen? ⟨b, j, none⟩ = ww.frozen? ⟨b, j, none⟩) ∧ (w'.cell? ⟨w.heap.size, 0, none⟩ = some (.bool s) ∧ w'.cell? ⟨w.heap.size, 1, none⟩ = some (.int .u64 (m : Int)))) := fun ww hv => by
    refine Calls.mono (rwords64_any d ww HD.out.1 HD.out.2) ?_
    rintro e w' ⟨ys, rfl, a1, a2, a3, a4, a5, a6⟩
    exact ⟨ys, rfl, ⟨a1, a2, a3, a4, a5, a6⟩, bt hv a6, (bt hv a6).size, a1.base.2, ⟨by have h1 := a1.base.2; have h2 := hv.size; omega, by have h1 := a1.base.2; have h2 := hv.size; omega⟩, fun b j h => a6.cell (p := ⟨b, j, none⟩) h, fun b j h => below_frozen a6 h, HK.out _ (bt hv a6)⟩
  go_wp2_with fail
  have hku : ((k : Nat) : Int) ≤ 63 := by omega
  rename_i K hK
  have cont : Hid (∀ (W : World) (p g1 g2 : Nat) (ys : List Int), Hid (FinF w1 W s d p g1 g2 ys) → K { tmps := #[.agg #[.bool s, .int .u64 (m : Int), .int .i64 u], .pointer (some ⟨w.heap.size, 0, none⟩), .pointer (some ⟨w.heap.size + 1, 0, none⟩), .int .i64 (k : Int), .pointer (some ⟨p, 0, none⟩), undef, .pointer (some ⟨w.heap.size, 1, none⟩), .int .u64 (m : Int), .bool false, undef, undef, .pointer (some ⟨w.heap.size, 1, none⟩), .int .u64 (m : Int), .int .i64 (k : Int), .pointer (some ⟨w.heap.size, 0, none⟩), .bool s, .pointer (some ⟨w.heap.size, 1, none⟩), .int .u64 (m : Int), .int .i64 (k : Int), .int .u64 (d : Int), .slice (some ⟨g1, 0, none⟩) ys.length ys.length, .slice (some ⟨g2, 0, none⟩) 1 1, .agg #[.bool s, .slice (some ⟨g1, 0, none⟩) ys.length ys.length, .slice (some ⟨g2, 0, none⟩) 1 1], undef, undef, undef, undef, undef, undef, undef, undef, undef, undef, undef, undef, undef, undef, undef, undef, undef, undef], defers := [] } W) := fun W p g1 g2 ys HF => by
    clear H1 HK hs0 HBR
    refine hK _ _ ?_
    have hxp := HXp.out.later HF.out.2.2.2.2.2.2 HXp.out.lt
    have x2 : W.cell? ⟨w.heap.size, 2, none⟩ = some (.int .i64 u) := hxp.cell 2
    obtain ⟨r0, r1, r2, r3, r4, r5⟩ := res_box3 HF.out.1 (Below.refl _ _)
    by_cases hu : u + (k : Int) < 0
    · obtain ⟨q, t, ht, hqt⟩ : ∃ q t : Nat, t ≤ 31 ∧ -(u + (k : Int)) = 32 * q + t := ⟨(-(u + (k : Int))).toNat / 32, (-(u + (k : Int))).toNat % 32, by omega, by omega⟩
      have HSH := hid (rshifted_any (some ⟨g2, 0, none⟩) 0 1 [1] q t (32 * q + t) W (reads_of HF.out.2.2.1 one_wd) (by omega) one_trimmed (by omega) ht rfl)
      have HQT := hid hqt
      clear HTZ HTX hsh hm h0 hm0
      go_wp2_with fail
      refine Calls.mono HSH.out ?_
      rintro e w3 ⟨zs, rfl, o3, z2, z3, z4, hb3⟩
      have hbx := HF.out.1.later hb3 HF.out.1.lt
      have HBX := hid hbx
      have HRX := hid (HXr.out.later (bt HF.out.2.2.2.2.2.2 hb3) HXr.out.lt)
      have hpne : w.heap.size + 1 ≠ p := by have e1 := HXr.out.lt; have e2 := HF.out.2.2.2.2.2.1; omega
      have hpne2 : p ≠ w.heap.size + 1 := Ne.symm hpne
      obtain ⟨s0, s1, s2, s3, s4, s5⟩ := res_box3 hbx (Below.refl _ _)
      obtain ⟨y0, y1, y2, f0, f1, f2⟩ := res_box3 HRX.out (Below.refl _ _)
      have HO3 := hid o3
      have HZ := hid (And.intro z2 (And.intro z3 z4))
      have HB3 := hid hb3
      clear HSH r0 r1 r2 r3 r4 r5 o3 z2 z3 z4 hb3 hbx hxp x2 x0 x1
      go_wp2_with fail
      refine bodyPost_ret (v := .agg #[.bool s, .slice (some ⟨g1, 0, none⟩) ys.length ys.length, .slice (some ⟨W.heap.size, 0, none⟩) zs.length zs.length]) (by simp [results, Tryz.results22, go_sem, y0, y1, y2]) rfl ?_
      have e0 : w.heap.size ≤ w1.heap.size := HB.out.size
      have e1 := HXr.out.lt
      have e2 := HF.out.2.2.2.2.2.1
      refine ⟨some ⟨g1, 0, none⟩, ys.length, some ⟨W.heap.size, 0, none⟩, zs.length, ys, zs, rfl, owns_base (end_own (owns_later HF.out.2.1 HB3.out) HBX.out HRX.out hpne2 _ _ _ _ ()) e0, owns_base (end_own HO3.out HBX.out HRX.out hpne2 _ _ _ _ ()) (Nat.le_trans e0 HF.out.2.2.2.2.2.2.size), HF.out.2.2.2.1.1, HF.out.2.2.2.1.2.1, HZ.out.1, HZ.out.2.1, ?_, ?_, ?_, end_below (bt HB.out (bt HF.out.2.2.2.2.2.2 HB3.out)) (by omega) (by omega) _ _ _ _ ()⟩
      · rw [hkk, hd, HF.out.2.2.2.1.2.2.1, show (u + (k : Int)).toNat = 0 by omega]; simp
      · rw [hkk, HZ.out.2.2, val_one, show (-(u + (k : Int))).toNat = t + 32 * q by have := HQT.out; omega, Int.pow_add, ← pw_two, Int.one_mul]
      · have e3 := HF.out.2.1.base.2
        intro e4
        injection e4 with e5
        injection e5 with e6
        omega
    · obtain ⟨q, t, ht, hqt⟩ : ∃ q t : Nat, t ≤ 31 ∧ u + (k : Int) = 32 * q + t := ⟨(u + (k : Int)).toNat / 32, (u + (k : Int)).toNat % 32, by omega, by omega⟩
      obtain ⟨l, hl⟩ := len_succ HF.out.2.2.2.1.2.2.1 HD.out.2
      have HLL : Hid (l ≤ 1) := by have := HF.out.2.2.2.1.2.2.2; show _ ≤ _; omega
      have HSH : Hid (Calls Tryz.prog 40 #[.slice (some ⟨g1, 0, none⟩) ys.length ys.length, .int .i64 (32 * q + t)] W fun e w' => ∃ zs : List Int, e = .returned (.slice (some ⟨W.heap.size, 0, none⟩) zs.length zs.length) ∧ OwnW w' W.heap.size W.heap.size zs.length zs ∧ Wd zs ∧ Trimmed zs ∧ val zs = val ys * 2 ^ t * 4294967296 ^ q ∧ Below W.heap.size W w') := by
        have e := rshifted_any (some ⟨g1, 0, none⟩) l ys.length ys q t (32 * q + t) W (by have e := reads_of HF.out.2.1 HF.out.2.2.2.1.1; rw [← hl]; exact e) (by have := HLL.out; omega) HF.out.2.2.2.1.2.1 (by omega) ht rfl
        rw [← hl] at e
        exact e
      clear hl HLL
      have HQT := hid hqt
      clear HTZ HTX hsh hm h0 hm0
      go_wp2_with fail
      refine Calls.mono HSH.out ?_
      rintro e w3 ⟨zs, rfl, o3, z2, z3, z4, hb3⟩
      have hbx := HF.out.1.later hb3 HF.out.1.lt
      have HBX := hid hbx
      have HRX := hid (HXr.out.later (bt HF.out.2.2.2.2.2.2 hb3) HXr.out.lt)
      have hpne : w.heap.size + 1 ≠ p := by have e1 := HXr.out.lt; have e2 := HF.out.2.2.2.2.2.1; omega
      have hpne2 : p ≠ w.heap.size + 1 := Ne.symm hpne
      obtain ⟨s0, s1, s2, s3, s4, s5⟩ := res_box3 hbx (Below.refl _ _)
      obtain ⟨y0, y1, y2, f0, f1, f2⟩ := res_box3 HRX.out (Below.refl _ _)
      have HO3 := hid o3
      have HZ := hid (And.intro z2 (And.intro z3 z4))
      have HB3 := hid hb3
      clear HSH r0 r1 r2 r3 r4 r5 o3 z2 z3 z4 hb3 hbx hxp x2 x0 x1
      go_wp2_with fail
      refine bodyPost_ret (v := .agg #[.bool s, .slice (some ⟨W.heap.size, 0, none⟩) zs.length zs.length, .slice (some ⟨g2, 0, none⟩) 1 1]) (by simp [results, Tryz.results22, go_sem, y0, y1, y2]) rfl ?_
      have e0 : w.heap.size ≤ w1.heap.size := HB.out.size
      have e1 := HXr.out.lt
      have e2 := HF.out.2.2.2.2.2.1
      refine ⟨some ⟨W.heap.size, 0, none⟩, zs.length, some ⟨g2, 0, none⟩, 1, zs, [1], rfl, owns_base (end_own HO3.out HBX.out HRX.out hpne2 _ _ _ _ ()) (Nat.le_trans e0 HF.out.2.2.2.2.2.2.size), owns_base (end_own (owns_later HF.out.2.2.1 HB3.out) HBX.out HRX.out hpne2 _ _ _ _ ()) e0, HZ.out.1, HZ.out.2.1, one_wd, one_trimmed, ?_, ?_, ?_, end_below (bt HB.out (bt HF.out.2.2.2.2.2.2 HB3.out)) (by omega) (by omega) _ _ _ _ ()⟩
      · rw [hkk, hd, HZ.out.2.2, HF.out.2.2.2.1.2.2.1, show (u + (k : Int)).toNat = t + 32 * q by have := HQT.out; omega, Int.pow_add, ← pw_two, Int.mul_assoc]
      · rw [hkk, val_one, show (-(u + (k : Int))).toNat = 0 by omega]; simp
      · have e3 := HF.out.2.2.1.base.2
        intro e4
        injection e4 with e5
        injection e5 with e6
        omega
  clear x0 x1
  go_region_held3 (fun V : World => V.cell? ⟨w.heap.size, 0, none⟩ = some (.bool s) ∧ V.cell? ⟨w.heap.size, 1, none⟩ = some (.int .u64 (m : Int))) (first | exact hs1 | exact hs0 | (refine HK.out _ ?_; repeat' first | exact hb1 | exact HBR.out | exact Below.refl _ _ | refine below_alloc1 ?_ _ | refine Below.drew ?_ | refine below_put3 ?_ _ ?_ _ _ _ | omega | (simp only [World.size_alloc]; omega)))
    (first
      | (go_at_call 39; with_reducible refine Calls.mono (H1.out _ (by first | exact HBR.out | exact bt HBR.out (alloc_later _ _) | exact bt (bt HBR.out (alloc_later _ _)) (alloc_later _ _))) ?_; rintro e w2 ⟨ys, rfl, HE, hb1, hz1, hz2, ⟨hn1, hn2⟩, hcf, hff, hs1⟩))
  · exact cont.out _ _ _ _ ys (fin1 (undrew HE.out))
  · exact cont.out _ _ _ _ ys (fin2 (undrew HE.out))
  · exact cont.out _ _ _ _ ys (fin3 (undrew HE.out))
  · exact cont.out _ _ _ _ ys (fin4 (undrew HE.out))
  · exact cont.out _ _ _ _ ys (fin5 (undrew HE.out))
  · exact cont.out _ _ _ _ ys (fin6 (undrew HE.out))

end Go.Proofs.YtfppimlmebnaeaaGreatDoor

/- Same, Equal, Finite, Abs of parts and of the document's answers, of any complex numbers, by their parts' bits. -/
namespace Go.Proofs.YtfppimlmebnaeaaGreatDoor
open Go.RowKit
set_option linter.unusedVariables false

/-- Equal, of reals. -/
def feq (x y : Nat) : Bool := FloatKind.f64.format.order x y == some .eq

theorem fin_parts (x : Nat) : fin x = (!isinf (x % 9223372036854775808) && !isnan x) := by
  cases h : fin x
  · have h' : ¬ x % 9223372036854775808 < 9218868437227405312 := fun g => by rw [(fin_iff x).2 g] at h; cases h
    cases n : isnan x
    · have n' : ¬ 9218868437227405312 < x % 9223372036854775808 := fun g => by rw [(isnan_iff x).2 g] at n; cases n
      have e : x % 9223372036854775808 = 9218868437227405312 := by omega
      rw [e]; rfl
    · simp
  · rw [fin_iff] at h
    have n : isnan x = false := by
      cases n : isnan x
      · rfl
      · rw [isnan_iff] at n; omega
    have e : isinf (x % 9223372036854775808) = false := by
      simp only [isinf, beq_eq_false_iff_ne]; omega
    rw [n, e]; rfl

/-- A float less itself. -/
theorem less_self {x r : Nat} (h : FN .sub x x r) : (FloatKind.f64.format.order r 0 == some .eq) = fin x := by
  cases f : fin x
  · have e : floatBits .sub .f64 x x = none := by
      show (((Ieee.double.read x).sum (Ieee.double.read x).opposite).map _) = none
      rcases read_not f with ⟨s, e⟩ | ⟨s, t, e⟩ <;> rw [e]
      · cases s <;> rfl
      · rfl
    rcases h.2 with g | ⟨_, g⟩
    · rw [e] at g; cases g
    · rw [order_nan_l g]; rfl
  · obtain ⟨s, m, i, e⟩ := read_fin f
    have g : floatBits .sub .f64 x x = some 0 := by
      show (((Ieee.double.read x).sum (Ieee.double.read x).opposite).map _) = some 0
      rw [e]
      have z : Ieee.signed s m (i - min i i).toNat + Ieee.signed (!s) m (i - min i i).toNat = 0 := by
        cases s <;> simp [Ieee.signed] <;> omega
      simp only [Ieee.Datum.opposite, Ieee.Datum.sum, z]
      cases s <;> simp [Ieee.Format.write, Ieee.Format.nearest, Ieee.Format.word]
    rcases h.2 with k | ⟨k, _⟩
    · rw [g] at k; cases k; decide
    · rw [g] at k; cases k

end Go.Proofs.YtfppimlmebnaeaaGreatDoor

/- real.Exact and parts.Exact, of finite floats that are not 0. -/
namespace Go.Proofs.YtfppimlmebnaeaaGreatDoor
open Go.RowKit
set_option linter.unusedVariables false

/-- The numerator's and the denominator's value of a float that is not 0. -/
def fnum (x : Nat) : Int := ((fcount x / 2 ^ Lib.ctz 64 (fcount x) : Nat) : Int) * 2 ^ (funit x + (Lib.ctz 64 (fcount x) : Int)).toNat
def fden (x : Nat) : Int := 2 ^ (-(funit x + (Lib.ctz 64 (fcount x) : Int))).toNat
/-- A fraction in memory of the call's own. -/
def OwnR (w : World) (base : Nat) (a : Option Addr) (ca : Nat) (zs : List Int) (b : Option Addr) (cb : Nat) (ds : List Int) : Prop :=
  w.ownsRow base 62 1 (.slice a zs.length ca) zs.length (zs.map (Value.int .u32)) ∧ w.ownsRow base 62 1 (.slice b ds.length cb) ds.length (ds.map (Value.int .u32)) ∧ Wd zs ∧ Trimmed zs ∧ Wd ds ∧ Trimmed ds ∧ a ≠ b
theorem OwnR.later {w w' : World} {base : Nat} {a : Option Addr} {ca : Nat} {zs : List Int} {b : Option Addr} {cb : Nat} {ds : List Int} (h : OwnR w base a ca zs b cb ds) (hb : Below w.heap.size w w') : OwnR w' base a ca zs b cb ds := ⟨owns_later h.1 hb, owns_later h.2.1 hb, h.2.2⟩
theorem OwnR.base {w : World} {base base' : Nat} {a : Option Addr} {ca : Nat} {zs : List Int} {b : Option Addr} {cb : Nat} {ds : List Int} (h : OwnR w base a ca zs b cb ds) (hb : base' ≤ base) : OwnR w base' a ca zs b cb ds := ⟨owns_base h.1 hb, owns_base h.2.1 hb, h.2.2⟩
theorem OwnR.put3 {w : World} {base p t : Nat} {a : Option Addr} {ca : Nat} {zs : List Int} {b : Option Addr} {cb : Nat} {ds : List Int} {vs : Array Value} (h : OwnR w base a ca zs b cb ds) (hb : Box w p t vs) (hne : 62 ≠ t) (v0 v1 v2 : Value) : OwnR (((w.setCell ⟨p, 0, none⟩ v0).setCell ⟨p, 1, none⟩ v1).setCell ⟨p, 2, none⟩ v2) base a ca zs b cb ds :=
  ⟨own_put3 h.1 p (own_ne_box h.1 hb hne) _ _ _, own_put3 h.2.1 p (own_ne_box h.2.1 hb hne) _ _ _, h.2.2⟩

set_option maxHeartbeats 1600000 in
set_option maxRecDepth 100000 in
theorem exact_nz (x : Nat) (w : World) (hx : x < 18446744073709551616) (hf : fin x = true) (h0 : fcount x ≠ 0) (hT : TabB w) :
    Calls Tryz.prog 4 #[.float .f64 x] w fun e w' => ∃ a ca b cb zs ds, e = .returned (.tuple #[.agg #[.bool (x / 9223372036854775808 == 1), .slice a zs.length ca, .slice b ds.length cb], .int .i64 0]) ∧ OwnR w' w.heap.size a ca zs b cb ds ∧ val zs = fnum x ∧ val ds = fden x ∧ Below w.heap.size w w' := by
  have HZ := hid (Box.made w 24 #[.bool false, .slice none 0 0, .slice none 0 0])
  have HB := hid (alloc_later w (.cells #[.bool false, .slice none 0 0, .slice none 0 0] 24))
  have HF := hid (fun V => finite_any x V hx)
  rw [hf] at HF
  have HA := hid (fun V => takeApart_any x V hx)
  have hT2 := hT.later HB.out
  have HTT := hid hT2
  have HU := hid (funit_le x)
  have HC := hid (fcount_lt x)
  have HN := hid h0
  have HV : Hid (fnum x = ((fcount x / 2 ^ Lib.ctz 64 (fcount x) : Nat) : Int) * 2 ^ (funit x + (Lib.ctz 64 (fcount x) : Int)).toNat ∧ fden x = 2 ^ (-(funit x + (Lib.ctz 64 (fcount x) : Int))).toNat) := ⟨rfl, rfl⟩
  generalize fnum x = fN at *
  generalize fden x = fD at *
  generalize (x / 9223372036854775808 == 1) = s at *
  generalize fcount x = m at *
  generalize funit x = u at *
  clear hf h0 hT hT2 hx
  go_enter Tryz.func4, Tryz.ntmps4
  go_wp2_with fail
  generalize w.alloc (.cells #[.bool false, .slice none 0 0, .slice none 0 0] 24) = X at *
  refine Calls.mono (HF.out _) ?_
  rintro e w1 ⟨rfl, rfl⟩
  go_wp2_with fail
  refine Calls.mono (HA.out _) ?_
  rintro e w2 ⟨rfl, hb2⟩
  have HB2 := hid hb2
  have HTT2 := hid (HTT.out.later hb2)
  have HFR := hid (fraction_any s m u w2 (by have := HC.out; omega) HN.out HU.out.1 (by have := HU.out.2; omega) HTT2.out)
  clear hb2
  go_wp2_with fail
  refine Calls.mono HFR.out ?_
  rintro e w3 ⟨a, ca, b, cb, zs, ds, rfl, o1, o2, q1, q2, q3, q4, q5, q6, q7, hb3⟩
  have HO : Hid (OwnR w3 w2.heap.size a ca zs b cb ds) := ⟨o1, o2, q1, q2, q3, q4, q7⟩
  have HQ := hid (And.intro q5 q6)
  have HB3 := hid (bt HB2.out hb3)
  have HZ3 := hid (HZ.out.later HB3.out HZ.out.lt)
  obtain ⟨y0, y1, y2, f0, f1, f2⟩ := res_box3 HZ3.out (Below.refl _ _)
  clear o1 o2 q1 q2 q3 q4 q5 q6 q7 hb3 HFR HTT2 HTT
  go_wp2_with fail
  refine bodyPost_ret (v := .tuple #[.agg #[.bool s, .slice a zs.length ca, .slice b ds.length cb], .int .i64 0]) (by simp [results, Tryz.results4, go_sem, y0, y1, y2]) rfl ?_
  exact ⟨a, ca, b, cb, zs, ds, rfl, (HO.out.put3 HZ3.out (by decide) _ _ _).base (Nat.le_trans HB.out.size HB2.out.size), by rw [HV.out.1]; exact HQ.out.1, by rw [HV.out.2]; exact HQ.out.2, below_put3 (bt HB.out HB3.out) _ (Nat.le_refl _) _ _ _⟩

end Go.Proofs.YtfppimlmebnaeaaGreatDoor

/- real.fraction of nothing; real.Exact of 0, of what is not finite. -/
namespace Go.Proofs.YtfppimlmebnaeaaGreatDoor
open Go.RowKit
set_option linter.unusedVariables false

set_option maxHeartbeats 800000 in
set_option maxRecDepth 100000 in
theorem fraction_zero (s : Bool) (u : Int) (w : World) :
    Calls Tryz.prog 22 #[.agg #[.bool s, .int .u64 0, .int .i64 u]] w fun e w' => ∃ g, e = .returned (.agg #[.bool false, .slice none 0 0, .slice (some ⟨g, 0, none⟩) 1 1]) ∧ OwnW w' w.heap.size g 1 [1] ∧ Below w.heap.size w w' := by
  go_enter Tryz.func22, Tryz.ntmps22
  go_wp2_with fail
  go_returns
  have r := one_row ((w.alloc (.cells #[.bool s, .int .u64 0, .int .i64 u] 53)).alloc (.cells #[.bool false, .slice none 0 0, .slice (some ⟨w.heap.size + 1 + 1, 0, none⟩) 1 1] 24)) (b := w.heap.size) (by rw [World.size_alloc, World.size_alloc]; omega)
  rw [World.size_alloc, World.size_alloc] at r
  exact ⟨_, rfl, r, bt (bt (alloc_later _ _) (alloc_later _ _)) (alloc_later _ _)⟩

set_option maxHeartbeats 800000 in
set_option maxRecDepth 100000 in
theorem exact_bad (x : Nat) (w : World) (hx : x < 18446744073709551616) (hf : fin x = false) :
    Calls Tryz.prog 4 #[.float .f64 x] w fun e w' => e = .returned (.tuple #[.agg #[.bool false, .slice none 0 0, .slice none 0 0], .int .i64 8]) ∧ Below w.heap.size w w' := by
  have HF := hid (fun V => finite_any x V hx)
  rw [hf] at HF
  clear hf hx
  go_enter Tryz.func4, Tryz.ntmps4
  go_wp2_with fail
  refine Calls.mono (HF.out _) ?_
  rintro e w1 ⟨rfl, rfl⟩
  go_wp2_with fail
  go_returns
  exact ⟨rfl, alloc_later _ _⟩

set_option maxHeartbeats 800000 in
set_option maxRecDepth 100000 in
theorem exact_zero (x : Nat) (w : World) (hx : x < 18446744073709551616) (hf : fin x = true) (h0 : fcount x = 0) :
    Calls Tryz.prog 4 #[.float .f64 x] w fun e w' => ∃ g, e = .returned (.tuple #[.agg #[.bool false, .slice none 0 0, .slice (some ⟨g, 0, none⟩) 1 1], .int .i64 0]) ∧ OwnW w' w.heap.size g 1 [1] ∧ Below w.heap.size w w' := by
  have HZ := hid (Box.made w 24 #[.bool false, .slice none 0 0, .slice none 0 0])
  have HB := hid (alloc_later w (.cells #[.bool false, .slice none 0 0, .slice none 0 0] 24))
  have HF := hid (fun V => finite_any x V hx)
  rw [hf] at HF
  have HA := hid (fun V => takeApart_any x V hx)
  rw [h0] at HA
  generalize (x / 9223372036854775808 == 1) = s at *
  generalize funit x = u at *
  clear hf h0 hx
  go_enter Tryz.func4, Tryz.ntmps4
  go_wp2_with fail
  generalize w.alloc (.cells #[.bool false, .slice none 0 0, .slice none 0 0] 24) = X at *
  refine Calls.mono (HF.out _) ?_
  rintro e w1 ⟨rfl, rfl⟩
  go_wp2_with fail
  refine Calls.mono (HA.out _) ?_
  rintro e w2 ⟨rfl, hb2⟩
  have HB2 := hid hb2
  have HFR := hid (fraction_zero s u w2)
  clear hb2
  go_wp2_with fail
  refine Calls.mono HFR.out ?_
  rintro e w3 ⟨g, rfl, o1, hb3⟩
  have HO := hid o1
  have HB3 := hid (bt HB2.out hb3)
  have HZ3 := hid (HZ.out.later HB3.out HZ.out.lt)
  obtain ⟨y0, y1, y2, f0, f1, f2⟩ := res_box3 HZ3.out (Below.refl _ _)
  clear o1 hb3 HFR
  go_wp2_with fail
  refine bodyPost_ret (v := .tuple #[.agg #[.bool false, .slice none 0 0, .slice (some ⟨g, 0, none⟩) 1 1], .int .i64 0]) (by simp [results, Tryz.results4, go_sem, y0, y1, y2]) rfl ?_
  exact ⟨g, rfl, owns_base (own_put3 HO.out w.heap.size (own_ne_box HO.out HZ3.out (by decide)) _ _ _) (Nat.le_trans HB.out.size HB2.out.size), below_put3 (bt HB.out HB3.out) _ (Nat.le_refl _) _ _ _⟩

end Go.Proofs.YtfppimlmebnaeaaGreatDoor

/- real.Exact, of every float: the fraction that it is, in its one form, or the error. -/
namespace Go.Proofs.YtfppimlmebnaeaaGreatDoor
open Go.RowKit
set_option linter.unusedVariables false

/-- The fraction that a finite float is. -/
def fq (x : Nat) : Rat := Rat.divInt (sg (x / 9223372036854775808 == 1) ((fcount x : Int) * 2 ^ (funit x).toNat)) (2 ^ (-(funit x)).toNat)

/-- A fraction told in new memory, Num and Den apart, whichever was made first. -/
def RToldB (w : World) (e : Int) (q : Rat) (x : Ending) (w' : World) : Prop :=
  ∃ n a ca b cb xs ys code, x = .returned (.tuple #[.agg #[.bool n, .slice a (List.length xs) ca, .slice b (List.length ys) cb], .int .i64 code]) ∧ w'.ownsRow w.heap.size 62 1 (.slice a xs.length ca) xs.length (xs.map (Value.int .u32)) ∧ w'.ownsRow w.heap.size 62 1 (.slice b ys.length cb) ys.length (ys.map (Value.int .u32)) ∧ RTells e q n xs ys code ∧ (a = none ∨ a ≠ b) ∧ Below w.heap.size w w'

theorem odd_pow (j e : Nat) : Nat.gcd (2 * j + 1) (2 ^ e) = 1 := by
  have h : Nat.Coprime (2 * j + 1) 2 := by
    unfold Nat.Coprime
    rw [Nat.gcd_comm, Nat.gcd_rec, show (2 * j + 1) % 2 = 1 by omega]
    rfl
  exact Nat.Coprime.pow_right e h

theorem count_odd {m : Nat} (h0 : m ≠ 0) (hm : m < 18446744073709551616) : ∃ j, m = 2 ^ Lib.ctz 64 m * (2 * j + 1) ∧ m / 2 ^ Lib.ctz 64 m = 2 * j + 1 ∧ Lib.ctz 64 m < 64 := by
  obtain ⟨j, hj, hk⟩ := Lib.ctzFrom_spec 64 m (by omega) hm
  have e : Lib.ctz 64 m = Lib.ctzFrom 64 m := by unfold Lib.ctz; rw [if_neg h0]
  rw [e]
  clear e
  generalize Lib.ctzFrom 64 m = k at *
  exact ⟨j, hj, by rw [hj]; exact Nat.mul_div_cancel_left _ (Nat.two_pow_pos _), hk⟩

theorem rtells_self {n : Bool} {xs ys : List Int} (wx : Wd xs) (wy : Wd ys) (h : rchk n xs ys = 0) : RTells 0 (rq n xs ys) n xs ys 0 := by
  obtain ⟨lx, ly, tx, ty, y0, s0, g⟩ := rchk_ok h
  obtain ⟨m, us, vs, c, e1, e2, e3, r⟩ := rtells_of (n := n) wx tx wy ty (val_pos' wy ty y0) g
  have e4 := e1 none 0 none 0
  unfold rtoldV at e4
  rw [if_neg (by omega)] at e4
  have hc : c = 0 := by
    simp at e4
    exact e4.2.symm
  subst hc
  have hm : (n && decide (0 < xs.length)) = n := by
    rcases s0 with rfl | s0
    · rfl
    · rw [decide_eq_true s0, Bool.and_true]
  rw [hm] at e4
  have hn : n = m := by simp at e4; exact e4
  subst hn
  rw [if_pos rfl] at e2 e3
  subst e2 e3
  exact r

/-- In lowest terms, of not too many words, and the float's value. -/
theorem frac_good {x : Nat} {zs ds : List Int} (h0 : fcount x ≠ 0) (wz : Wd zs) (tz : Trimmed zs) (wd : Wd ds) (td : Trimmed ds) (hz : val zs = fnum x) (hd : val ds = fden x) :
    RTells 0 (fq x) (x / 9223372036854775808 == 1) zs ds 0 := by
  have hc := fcount_lt x
  have hu := funit_le x
  obtain ⟨j, hj, hq, hk⟩ := count_odd h0 (by omega)
  unfold fnum at hz
  unfold fden at hd
  rw [hq] at hz
  have hfq : fq x = Rat.divInt (sg (x / 9223372036854775808 == 1) ((fcount x : Int) * 2 ^ (funit x).toNat)) (2 ^ (-(funit x)).toNat) := rfl
  generalize (x / 9223372036854775808 == 1) = n at *
  generalize fcount x = m at *
  generalize funit x = u at *
  generalize Lib.ctz 64 m = k at *
  have hjb : 2 * j + 1 ≤ m := by
    rw [hj]
    exact Nat.le_mul_of_pos_left _ (Nat.two_pow_pos k)
  have hpz := two_pos (u + (k : Int)).toNat
  have hpd := two_pos (-(u + (k : Int))).toNat
  have hz1 : val zs < 4294967296 ^ 40 := by
    have e1 : (2 : Int) ^ (u + (k : Int)).toNat ≤ 2 ^ 1200 := two_le (by omega)
    have e2 : val zs ≤ 9007199254740992 * 2 ^ (u + (k : Int)).toNat := by rw [hz]; exact Int.mul_le_mul_of_nonneg_right (by omega) (Int.le_of_lt hpz)
    have e3 : (9007199254740992 : Int) = 2 ^ 53 := by decide
    have e4 : (9007199254740992 : Int) * 2 ^ (u + (k : Int)).toNat ≤ 2 ^ 1253 := by
      rw [e3, ← Int.pow_add]; exact two_le (by omega)
    have e5 : (2 : Int) ^ 1253 < 4294967296 ^ 40 := by
      rw [pw_two]
      have : (2 : Int) ^ 1254 ≤ 2 ^ (32 * 40) := two_le (by omega)
      have e6 : (2 : Int) ^ 1254 = 2 ^ 1253 * 2 := Int.pow_succ 2 1253
      have e7 := two_pos 1253
      generalize (2 : Int) ^ 1253 = P at *
      omega
    generalize (2 : Int) ^ 1253 = P at *
    generalize (4294967296 : Int) ^ 40 = Q at *
    omega
  have hd1 : val ds < 4294967296 ^ 40 := by
    rw [hd, pw_two]
    have e1 : (2 : Int) ^ (-(u + (k : Int))).toNat ≤ 2 ^ 1074 := two_le (by omega)
    have e2 : (2 : Int) ^ 1075 ≤ 2 ^ (32 * 40) := two_le (by omega)
    have e3 : (2 : Int) ^ 1075 = 2 ^ 1074 * 2 := Int.pow_succ 2 1074
    have e4 := two_pos 1074
    generalize (2 : Int) ^ 1074 = P at *
    generalize (2 : Int) ^ (32 * 40) = Q at *
    omega
  have lz := len_of_lt wz tz hz1
  have ld := len_of_lt wd td hd1
  have zpos : 0 < val zs := by rw [hz]; exact Int.mul_pos (by omega) hpz
  have dpos : 0 < val ds := by rw [hd]; exact hpd
  have zl : 0 < zs.length := by
    cases zs with
    | nil => rw [val_nil] at zpos; omega
    | cons a b => simp
  have dl : 0 < ds.length := by
    cases ds with
    | nil => rw [val_nil] at dpos; omega
    | cons a b => simp
  have hg : gcdI (val zs) (val ds) = 1 := by
    unfold gcdI
    by_cases hU : 0 ≤ u + (k : Int)
    · rw [hd, show (-(u + (k : Int))).toNat = 0 by omega, Int.pow_zero, Int.gcd_one_right]; rfl
    · rw [hz, hd, show (u + (k : Int)).toNat = 0 by omega, Int.pow_zero, Int.mul_one]
      have e : (2 : Int) ^ (-(u + (k : Int))).toNat = ((2 ^ (-(u + (k : Int))).toNat : Nat) : Int) := by rw [Int.natCast_pow]; rfl
      rw [e, Int.gcd_natCast_natCast, odd_pow]; rfl
  have hk0 : rchk n zs ds = 0 := rchk_good (by omega) (by omega) tz td dl (.inr zl) hg
  have hr : rq n zs ds = fq x := by
    rw [hfq]
    show Rat.divInt (sg n (val zs)) (val ds) = _
    rw [Rat.divInt_eq_divInt_iff (by omega) (by have := two_pos (-u).toNat; omega), ← sg_mul, ← sg_mul, hz, hd]
    congr 1
    rw [hj, Int.natCast_mul, Int.natCast_pow]
    have e : (2 : Int) ^ (u + (k : Int)).toNat * 2 ^ (-u).toNat = 2 ^ k * 2 ^ u.toNat * 2 ^ (-(u + (k : Int))).toNat := by
      rw [← Int.pow_add, ← Int.pow_add, ← Int.pow_add]
      congr 1
      omega
    rw [Int.mul_assoc, e]
    show _ = ((2 : Int) ^ k * _ * _) * _
    generalize ((2 * j + 1 : Nat) : Int) = O
    ac_rfl
  rw [← hr]
  exact rtells_self wz wd hk0

theorem zero_good {x : Nat} (h0 : fcount x = 0) : RTells 0 (fq x) false [] [1] 0 := by
  have hk0 : rchk false [] [1] = 0 := by decide
  have hr : rq false [] [1] = fq x := by
    unfold fq
    rw [h0]
    show Rat.divInt 0 1 = _
    have e : sg (x / 9223372036854775808 == 1) (((0 : Nat) : Int) * 2 ^ (funit x).toNat) = 0 := by
      rw [Int.natCast_zero, Int.zero_mul]
      cases (x / 9223372036854775808 == 1) <;> rfl
    rw [e, Rat.zero_divInt, Rat.zero_divInt]
  rw [← hr]
  exact rtells_self Wd.nil one_wd hk0

theorem exact_any (x : Nat) (w : World) (hx : x < 18446744073709551616) (hT : TabB w) :
    Calls Tryz.prog 4 #[.float .f64 x] w (RToldB w (if fin x then 0 else 8) (fq x)) := by
  cases hf : fin x
  · refine Calls.mono (exact_bad x w hx hf) ?_
    rintro e w' ⟨rfl, hb⟩
    exact ⟨false, none, 0, none, 0, [], [], 8, rfl, World.ownsRow_nil _ _ _ _, World.ownsRow_nil _ _ _ _, RTells.err (by decide), .inl rfl, hb⟩
  · by_cases h0 : fcount x = 0
    · refine Calls.mono (exact_zero x w hx hf h0) ?_
      rintro e w' ⟨g, rfl, o, hb⟩
      exact ⟨false, none, 0, some ⟨g, 0, none⟩, 1, [], [1], 0, rfl, World.ownsRow_nil _ _ _ _, o, zero_good h0, .inl rfl, hb⟩
    · refine Calls.mono (exact_nz x w hx hf h0 hT) ?_
      rintro e w' ⟨a, ca, b, cb, zs, ds, rfl, o, vz, vd, hb⟩
      exact ⟨_, a, ca, b, cb, zs, ds, 0, rfl, o.1, o.2.1, frac_good h0 o.2.2.1 o.2.2.2.1 o.2.2.2.2.1 o.2.2.2.2.2.1 vz vd, .inr o.2.2.2.2.2.2, hb⟩

end Go.Proofs.YtfppimlmebnaeaaGreatDoor

