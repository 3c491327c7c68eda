/- My texts on the way to GaussParts, one behind the other: contracts of the program and of the document's answers. -/
import Derived.Test.YtopogjfmocpeaaaGreatJ1
import Derived.Test.YtopogjfmocpeaaaGreatJ2
import Derived.Test.YtopogjfmocpeaaaGreatJ3
import Derived.Deep.RegionHeld3
import Derived.Deep.RegionLaw
import Derived.Laws.AppendOwnNone
import Derived.LoopN
import Derived.Laws.CopyOwn
/- Fractions that are lent to a call: slackwaterkit.LentRatio, KeptRatio. -/
namespace Go.Proofs.YtopogjfmocpeaaaGreat
open Go.RowKit
set_option linter.unusedVariables false

set_option maxHeartbeats 6400000 in
set_option maxRecDepth 100000 in
theorem lentRatio_any (n : Bool) (a : Option Addr) (ca : Nat) (xs : List Int) (b : Option Addr) (cb : Nat) (ys : List Int) (w : World) (sx : Sl w (.slice a xs.length ca) xs) (sy : Sl w (.slice b ys.length cb) ys) (lx : xs.length ≤ 549755813888) (ly : ys.length ≤ 549755813888) :
    Calls Tryz.prog 26 #[.agg #[.bool n, .slice a xs.length ca, .slice b ys.length cb]] w fun e w' => ∃ g1 c1 g2 c2, e = .returned (.agg #[.bool n, .slice (some ⟨g1, 0, none⟩) xs.length c1, .slice (some ⟨g2, 0, none⟩) ys.length c2]) ∧ w'.ownsRow w.heap.size 68 1 (.slice (some ⟨g1, 0, none⟩) (xs.length + 3) c1) (xs.length + 3) ((xs ++ marks 3).map (Value.int .u32)) ∧ w'.ownsRow w.heap.size 68 1 (.slice (some ⟨g2, 0, none⟩) (ys.length + 3) c2) (ys.length + 3) ((ys ++ marks 3).map (Value.int .u32)) ∧ g1 < g2 ∧ Below w.heap.size w w' := by
  have HB : Hid (Below w.heap.size w ((w.alloc (.cells #[.bool n, .slice a xs.length ca, .slice b ys.length cb] 24)).alloc (.cells #[.bool false, .slice none 0 0, .slice none 0 0] 24))) := bt (alloc_later _ _) (alloc_later _ _)
  have HA : Hid (Box ((w.alloc (.cells #[.bool n, .slice a xs.length ca, .slice b ys.length cb] 24)).alloc (.cells #[.bool false, .slice none 0 0, .slice none 0 0] 24)) w.heap.size 24 #[.bool n, .slice a xs.length ca, .slice b ys.length cb]) := Box.later (Box.made w _ _) (alloc_later _ _) (by simp)
  have HZ : Hid (Box ((w.alloc (.cells #[.bool n, .slice a xs.length ca, .slice b ys.length cb] 24)).alloc (.cells #[.bool false, .slice none 0 0, .slice none 0 0] 24)) (w.heap.size + 1) 24 #[.bool false, .slice none 0 0, .slice none 0 0]) := by
    have e := Box.made (w.alloc (.cells #[.bool n, .slice a xs.length ca, .slice b ys.length cb] 24)) 24 #[.bool false, .slice none 0 0, .slice none 0 0]
    simp at e
    exact e
  have HS := hid (And.intro (sx.later HB.out) (sy.later HB.out))
  clear sx sy
  go_enter Tryz.func26, Tryz.ntmps26
  go_wp2_with fail
  generalize ((w.alloc (.cells #[.bool n, .slice a xs.length ca, .slice b ys.length cb] 24)).alloc (.cells #[.bool false, .slice none 0 0, .slice none 0 0] 24)) = X at *
  have HK : Hid (∀ V, Below X.heap.size X V → (V.cell? ⟨w.heap.size, 0, none⟩ = some (.bool n) ∧ V.cell? ⟨w.heap.size, 1, none⟩ = some (.slice a xs.length ca) ∧ V.cell? ⟨w.heap.size, 2, none⟩ = some (.slice b ys.length cb))) := fun V hb => by
    obtain ⟨p0, p1, p2, _, _, _⟩ := res_box3 HA.out hb
    exact ⟨p0, p1, p2⟩
  have hs0 := HK.out _ (Below.drew (Below.refl _ X))
  have HL1 : Hid (∀ V, Below X.heap.size X V → Calls Tryz.prog 47 #[.slice a xs.length ca] V fun e V' => ∃ g cap, e = .returned (.slice (some ⟨g, 0, none⟩) (xs.length + 3) cap) ∧ xs.length + 3 ≤ cap ∧ cap ≤ 9223372036854775807 ∧ (xs.length : Int) ≤ (cap : Int) ∧ Hid (V'.ownsRow X.heap.size 68 1 (.slice (some ⟨g, 0, none⟩) (xs.length + 3) cap) (xs.length + 3) ((xs ++ marks 3).map (Value.int .u32)) ∧ Below V.heap.size V V' ∧ Below X.heap.size X V' ∧ V.heap.size ≤ g ∧ g < V'.heap.size) ∧ (V'.cell? ⟨w.heap.size, 0, none⟩ = some (.bool n) ∧ V'.cell? ⟨w.heap.size, 1, none⟩ = some (.slice a xs.length ca) ∧ V'.cell? ⟨w.heap.size, 2, none⟩ = some (.slice b ys.length cb)) ∧ V'.cell? ⟨w.heap.size + 1, 0, none⟩ = some (.bool false) ∧ V'.cell? ⟨w.heap.size + 1, 1, none⟩ = some (.slice none 0 0) ∧ V'.cell? ⟨w.heap.size + 1, 2, none⟩ = some (.slice none 0 0) ∧ V'.frozen? ⟨w.heap.size + 1, 0, none⟩ = false ∧ V'.frozen? ⟨w.heap.size + 1, 1, none⟩ = false ∧ V'.frozen? ⟨w.heap.size + 1, 2, none⟩ = false) := fun V hb => by
    refine Calls.mono (lentWords_sl _ xs _ (HS.out.1.later hb) lx) ?_
    rintro e V' ⟨v1, rfl, o1, hb1⟩
    obtain ⟨g, cap, hv, h1, h2⟩ := own_room o1 (by omega)
    subst hv
    have hbX : Below X.heap.size X V' := bt hb hb1
    exact ⟨g, cap, rfl, h1, h2, by omega, ⟨owns_base o1 hb.size, hb1, hbX, (o1.lt g rfl).1, (o1.lt g rfl).2⟩, HK.out V' hbX, res_box3 HZ.out hbX⟩
  have HL2 : Hid (∀ V, Below X.heap.size X V → Calls Tryz.prog 47 #[.slice b ys.length cb] V fun e V' => ∃ g cap, e = .returned (.slice (some ⟨g, 0, none⟩) (ys.length + 3) cap) ∧ ys.length + 3 ≤ cap ∧ cap ≤ 9223372036854775807 ∧ (ys.length : Int) ≤ (cap : Int) ∧ Hid (V'.ownsRow X.heap.size 68 1 (.slice (some ⟨g, 0, none⟩) (ys.length + 3) cap) (ys.length + 3) ((ys ++ marks 3).map (Value.int .u32)) ∧ Below V.heap.size V V' ∧ Below X.heap.size X V' ∧ V.heap.size ≤ g ∧ g < V'.heap.size) ∧ (V'.cell? ⟨w.heap.size, 0, none⟩ = some (.bool n) ∧ V'.cell? ⟨w.heap.size, 1, none⟩ = some (.slice a xs.length ca) ∧ V'.cell? ⟨w.heap.size, 2, none⟩ = some (.slice b ys.length cb)) ∧ V'.cell? ⟨w.heap.size + 1, 0, none⟩ = some (.bool false) ∧ V'.cell? ⟨w.heap.size + 1, 1, none⟩ = some (.slice none 0 0) ∧ V'.cell? ⟨w.heap.size + 1, 2, none⟩ = some (.slice none 0 0) ∧ V'.frozen? ⟨w.heap.size + 1, 0, none⟩ = false ∧ V'.frozen? ⟨w.heap.size + 1, 1, none⟩ = false ∧ V'.frozen? ⟨w.heap.size + 1, 2, none⟩ = false) := fun V hb => by
    refine Calls.mono (lentWords_sl _ ys _ (HS.out.2.later hb) ly) ?_
    rintro e V' ⟨v1, rfl, o1, hb1⟩
    obtain ⟨g, cap, hv, h1, h2⟩ := own_room o1 (by omega)
    subst hv
    have hbX : Below X.heap.size X V' := bt hb hb1
    exact ⟨g, cap, rfl, h1, h2, by omega, ⟨owns_base o1 hb.size, hb1, hbX, (o1.lt g rfl).1, (o1.lt g rfl).2⟩, HK.out V' hbX, res_box3 HZ.out hbX⟩
  have hx0 : (0 : Int) ≤ (xs.length : Int) := by omega
  have hlx : xs.length ≤ 9223372036854775807 := by omega
  have hy0 : (0 : Int) ≤ (ys.length : Int) := by omega
  have hly : ys.length ≤ 9223372036854775807 := by omega
  clear HS HA
  go_region_held3 (fun V : World => (V.cell? ⟨w.heap.size, 0, none⟩ = some (.bool n) ∧ V.cell? ⟨w.heap.size, 1, none⟩ = some (.slice a xs.length ca) ∧ V.cell? ⟨w.heap.size, 2, none⟩ = some (.slice b ys.length cb))) (first | exact hs2 | exact hs1 | exact hs0 | (simp [hs2, World.cell?_setCell_far]))
    (first
      | (go_at_call 47; with_reducible refine Calls.mono (HL2.out _ HE1.out.2.2.1) ?_; rintro e w2 ⟨g2, c2, rfl, hd1, hd2, hd3, HE2, hs2, r0, r1, r2, f0, f1, f2⟩)
      | (go_at_call 47; with_reducible refine Calls.mono (HL1.out _ (Below.drew (Below.refl _ X))) ?_; rintro e w1 ⟨g1, c1, rfl, hc1, hc2, hc3, HE1, hs1, y0, y1, y2, z0, z1, z2⟩))
  all_goals
    have HZ2 := hid (HZ.out.later HE2.out.2.2.1 HZ.out.lt)
    have HO1 := hid (own_put3 (owns_base (owns_later HE1.out.1 HE2.out.2.1) HB.out.size) (w.heap.size + 1) (own_ne_box (owns_later HE1.out.1 HE2.out.2.1) HZ2.out (by decide)) (.bool n) (.slice (some ⟨g1, 0, none⟩) xs.length c1) (.slice (some ⟨g2, 0, none⟩) ys.length c2))
    have HO2 := hid (own_put3 (owns_base HE2.out.1 HB.out.size) (w.heap.size + 1) (own_ne_box HE2.out.1 HZ2.out (by decide)) (.bool n) (.slice (some ⟨g1, 0, none⟩) xs.length c1) (.slice (some ⟨g2, 0, none⟩) ys.length c2))
    have HBN := hid (below_put3 (bt HB.out HE2.out.2.2.1) (w.heap.size + 1) (by omega) (.bool n) (.slice (some ⟨g1, 0, none⟩) xs.length c1) (.slice (some ⟨g2, 0, none⟩) ys.length c2))
    have HG : Hid (g1 < g2) := by have e1 := HE1.out.2.2.2.2; have e2 := HE2.out.2.2.2.1; show _ < _; omega
    clear HK HL1 HL2 HE1 HE2 HZ HB HZ2 hs0 hs1 hs2 y0 y1 y2 z0 z1 z2
    go_wp2_with fail
    refine bodyPost_ret (v := .agg #[.bool n, .slice (some ⟨g1, 0, none⟩) xs.length c1, .slice (some ⟨g2, 0, none⟩) ys.length c2]) (by simp [results, Tryz.results26, go_sem, r0, r1, r2]) rfl ?_
    exact ⟨g1, c1, g2, c2, rfl, HO1.out, HO2.out, HG.out, HBN.out⟩

set_option maxHeartbeats 6400000 in
set_option maxRecDepth 100000 in
theorem keptRatio_any (n : Bool) (a : Option Addr) (ca : Nat) (xs : List Int) (b : Option Addr) (cb : Nat) (ys : List Int) (g1 c1 g2 c2 base : Nat) (w : World) (sx : Sl w (.slice a xs.length ca) xs) (sy : Sl w (.slice b ys.length cb) ys) (lx : xs.length ≤ 274877906944) (ly : ys.length ≤ 274877906944) (o1 : w.ownsRow base 68 1 (.slice (some ⟨g1, 0, none⟩) (xs.length + 3) c1) (xs.length + 3) ((xs ++ marks 3).map (Value.int .u32))) (o2 : w.ownsRow base 68 1 (.slice (some ⟨g2, 0, none⟩) (ys.length + 3) c2) (ys.length + 3) ((ys ++ marks 3).map (Value.int .u32))) :
    Calls Tryz.prog 44 #[.agg #[.bool n, .slice (some ⟨g1, 0, none⟩) xs.length c1, .slice (some ⟨g2, 0, none⟩) ys.length c2], .agg #[.bool n, .slice a xs.length ca, .slice b ys.length cb]] w fun e w' => e = .returned (.bool true) ∧ Below w.heap.size w w' := by
  have hcap1 : xs.length + 3 ≤ c1 ∧ c1 ≤ 9223372036854775807 := by
    obtain ⟨g', cap', hv, h1, h2⟩ := own_room o1 (by omega)
    simp only [Value.slice.injEq, Option.some.injEq, Addr.mk.injEq, and_true, true_and] at hv
    obtain ⟨rfl, rfl⟩ := hv
    exact ⟨h1, h2⟩
  have wf1 : Wd (xs ++ marks 3) := sx.wd.append (Wd.marks 3)
  have lf1 : (xs ++ marks 3).length = xs.length + 3 := by rw [List.length_append, marks_len 3 (by omega)]
  have hcap2 : ys.length + 3 ≤ c2 ∧ c2 ≤ 9223372036854775807 := by
    obtain ⟨g', cap', hv, h1, h2⟩ := own_room o2 (by omega)
    simp only [Value.slice.injEq, Option.some.injEq, Addr.mk.injEq, and_true, true_and] at hv
    obtain ⟨rfl, rfl⟩ := hv
    exact ⟨h1, h2⟩
  have wf2 : Wd (ys ++ marks 3) := sy.wd.append (Wd.marks 3)
  have lf2 : (ys ++ marks 3).length = ys.length + 3 := by rw [List.length_append, marks_len 3 (by omega)]
  have HO := hid (And.intro (Sl.own o1 wf1) (Sl.own o2 wf2))
  have HS := hid (And.intro sx sy)
  have HB : Hid (Below w.heap.size w ((w.alloc (.cells #[.bool n, .slice (some ⟨g1, 0, none⟩) xs.length c1, .slice (some ⟨g2, 0, none⟩) ys.length c2] 24)).alloc (.cells #[.bool n, .slice a xs.length ca, .slice b ys.length cb] 24))) := bt (alloc_later _ _) (alloc_later _ _)
  have HA : Hid (Box ((w.alloc (.cells #[.bool n, .slice (some ⟨g1, 0, none⟩) xs.length c1, .slice (some ⟨g2, 0, none⟩) ys.length c2] 24)).alloc (.cells #[.bool n, .slice a xs.length ca, .slice b ys.length cb] 24)) w.heap.size 24 #[.bool n, .slice (some ⟨g1, 0, none⟩) xs.length c1, .slice (some ⟨g2, 0, none⟩) ys.length c2]) := Box.later (Box.made w _ _) (alloc_later _ _) (by simp)
  have HZ : Hid (Box ((w.alloc (.cells #[.bool n, .slice (some ⟨g1, 0, none⟩) xs.length c1, .slice (some ⟨g2, 0, none⟩) ys.length c2] 24)).alloc (.cells #[.bool n, .slice a xs.length ca, .slice b ys.length cb] 24)) (w.heap.size + 1) 24 #[.bool n, .slice a xs.length ca, .slice b ys.length cb]) := by
    have e := Box.made (w.alloc (.cells #[.bool n, .slice (some ⟨g1, 0, none⟩) xs.length c1, .slice (some ⟨g2, 0, none⟩) ys.length c2] 24)) 24 #[.bool n, .slice a xs.length ca, .slice b ys.length cb]
    simp at e
    exact e
  have hc1 := hcap1.1
  have hm1 := hcap1.2
  have hll1 : ((xs.length : Int) == (xs.length : Int)) = true := by simp
  have hx1 : (0 : Int) ≤ (xs.length : Int) + 3 := by omega
  have hxc1 : (xs.length : Int) + 3 ≤ (c1 : Int) := by omega
  have hwr1 : IntKind.i64.wrap ((xs.length : Int) + 3) = (xs.length : Int) + 3 := by rw [IntKind.wrap_i64]; omega
  have htn1 : ((xs.length : Int) + 3).toNat = xs.length + 3 := by omega
  have hc2 := hcap2.1
  have hm2 := hcap2.2
  have hll2 : ((ys.length : Int) == (ys.length : Int)) = true := by simp
  have hx2 : (0 : Int) ≤ (ys.length : Int) + 3 := by omega
  have hxc2 : (ys.length : Int) + 3 ≤ (c2 : Int) := by omega
  have hwr2 : IntKind.i64.wrap ((ys.length : Int) + 3) = (ys.length : Int) + 3 := by rw [IntKind.wrap_i64]; omega
  have htn2 : ((ys.length : Int) + 3).toNat = ys.length + 3 := by omega
  have hnn : (n == n) = true := by simp
  clear o1 o2 hcap1 hcap2 sx sy
  go_enter Tryz.func44, Tryz.ntmps44
  go_wp2_with fail
  generalize ((w.alloc (.cells #[.bool n, .slice (some ⟨g1, 0, none⟩) xs.length c1, .slice (some ⟨g2, 0, none⟩) ys.length c2] 24)).alloc (.cells #[.bool n, .slice a xs.length ca, .slice b ys.length cb] 24)) = X at *
  have HK : Hid (∀ V, Below X.heap.size X V → (V.cell? ⟨w.heap.size, 0, none⟩ = some (.bool n) ∧ V.cell? ⟨w.heap.size, 1, none⟩ = some (.slice (some ⟨g1, 0, none⟩) xs.length c1) ∧ V.cell? ⟨w.heap.size, 2, none⟩ = some (.slice (some ⟨g2, 0, none⟩) ys.length c2) ∧ V.cell? ⟨w.heap.size + 1, 0, none⟩ = some (.bool n) ∧ V.cell? ⟨w.heap.size + 1, 1, none⟩ = some (.slice a xs.length ca) ∧ V.cell? ⟨w.heap.size + 1, 2, none⟩ = some (.slice b ys.length cb))) := fun V hb => by
    obtain ⟨p0, p1, p2, _, _, _⟩ := res_box3 HA.out hb
    obtain ⟨q0, q1, q2, _, _, _⟩ := res_box3 HZ.out hb
    exact ⟨p0, p1, p2, q0, q1, q2⟩
  have hs0 := HK.out _ (Below.drew (Below.refl _ X))
  have HL1 : Hid (∀ V, Below X.heap.size X V → Calls Tryz.prog 66 #[.slice (some ⟨g1, 0, none⟩) (xs.length + 3) c1, .slice a xs.length ca] V fun e V' => e = .returned (.bool true) ∧ Hid (Below X.heap.size X V') ∧ (V'.cell? ⟨w.heap.size, 0, none⟩ = some (.bool n) ∧ V'.cell? ⟨w.heap.size, 1, none⟩ = some (.slice (some ⟨g1, 0, none⟩) xs.length c1) ∧ V'.cell? ⟨w.heap.size, 2, none⟩ = some (.slice (some ⟨g2, 0, none⟩) ys.length c2) ∧ V'.cell? ⟨w.heap.size + 1, 0, none⟩ = some (.bool n) ∧ V'.cell? ⟨w.heap.size + 1, 1, none⟩ = some (.slice a xs.length ca) ∧ V'.cell? ⟨w.heap.size + 1, 2, none⟩ = some (.slice b ys.length cb))) := fun V hb => by
    have e := keptWords_sl _ _ (xs ++ marks 3) xs V (HO.out.1.later (bt HB.out hb)) (HS.out.1.later (bt HB.out hb)) (by omega) lx
    rw [decide_eq_true rfl] at e
    refine Calls.mono e ?_
    rintro e V' ⟨rfl, hb1⟩
    have hbX : Below X.heap.size X V' := bt hb hb1
    exact ⟨rfl, hbX, HK.out V' hbX⟩
  have HL2 : Hid (∀ V, Below X.heap.size X V → Calls Tryz.prog 66 #[.slice (some ⟨g2, 0, none⟩) (ys.length + 3) c2, .slice b ys.length cb] V fun e V' => e = .returned (.bool true) ∧ Hid (Below X.heap.size X V') ∧ (V'.cell? ⟨w.heap.size, 0, none⟩ = some (.bool n) ∧ V'.cell? ⟨w.heap.size, 1, none⟩ = some (.slice (some ⟨g1, 0, none⟩) xs.length c1) ∧ V'.cell? ⟨w.heap.size, 2, none⟩ = some (.slice (some ⟨g2, 0, none⟩) ys.length c2) ∧ V'.cell? ⟨w.heap.size + 1, 0, none⟩ = some (.bool n) ∧ V'.cell? ⟨w.heap.size + 1, 1, none⟩ = some (.slice a xs.length ca) ∧ V'.cell? ⟨w.heap.size + 1, 2, none⟩ = some (.slice b ys.length cb))) := fun V hb => by
    have e := keptWords_sl _ _ (ys ++ marks 3) ys V (HO.out.2.later (bt HB.out hb)) (HS.out.2.later (bt HB.out hb)) (by omega) ly
    rw [decide_eq_true rfl] at e
    refine Calls.mono e ?_
    rintro e V' ⟨rfl, hb1⟩
    have hbX : Below X.heap.size X V' := bt hb hb1
    exact ⟨rfl, hbX, HK.out V' hbX⟩
  clear HA HZ wf1 wf2 lf1 lf2 HO HS
  go_region_held3 (fun V : World => (V.cell? ⟨w.heap.size, 0, none⟩ = some (.bool n) ∧ V.cell? ⟨w.heap.size, 1, none⟩ = some (.slice (some ⟨g1, 0, none⟩) xs.length c1) ∧ V.cell? ⟨w.heap.size, 2, none⟩ = some (.slice (some ⟨g2, 0, none⟩) ys.length c2) ∧ V.cell? ⟨w.heap.size + 1, 0, none⟩ = some (.bool n) ∧ V.cell? ⟨w.heap.size + 1, 1, none⟩ = some (.slice a xs.length ca) ∧ V.cell? ⟨w.heap.size + 1, 2, none⟩ = some (.slice b ys.length cb))) (first | exact hs2 | exact hs1 | exact hs0 | exact HK.out _ (Below.drew HE1.out))
    (first
      | (go_at_call 66; with_reducible refine Calls.mono (HL2.out _ (by first | exact HE1.out | exact Below.drew HE1.out)) ?_; rintro e w2 ⟨rfl, HE2, hs2⟩)
      | (go_at_call 66; with_reducible refine Calls.mono (HL1.out _ (Below.drew (Below.refl _ X))) ?_; rintro e w1 ⟨rfl, HE1, hs1⟩))
  all_goals
    have HBN := hid (bt HB.out HE2.out)
    clear HK HL1 HL2 HE1 HE2 HB hs0 hs1 hs2
    go_wp2_with fail
    go_ret
    exact ⟨rfl, HBN.out⟩
end Go.Proofs.YtopogjfmocpeaaaGreat

/- Fractions: ratio.Make, ratio.Small. -/
namespace Go.Proofs.YtopogjfmocpeaaaGreat
open Go.RowKit
set_option linter.unusedVariables false

set_option maxHeartbeats 3200000 in
set_option maxRecDepth 100000 in
theorem rmake_e1 (n : Bool) (a : Option Addr) (ca : Nat) (xs : List Int) (m : Bool) (b : Option Addr) (cb : Nat) (ys : List Int) (w : World) (h : Sl w (.slice a xs.length ca) xs) (g : Sl w (.slice b ys.length cb) ys) (lx : xs.length ≤ 281474976710656) (ly : ys.length ≤ 281474976710656) (hx : wchk n xs ≠ 0) (q : Rat) :
    Calls Tryz.prog 83 #[.agg #[.bool n, .slice a xs.length ca], .agg #[.bool m, .slice b ys.length cb]] w (RToldA w (wchk n xs) q) := by
  have HB : Hid (Below w.heap.size w (((w.alloc (.cells #[.bool n, .slice a xs.length ca] 82)).alloc (.cells #[.bool m, .slice b ys.length cb] 82)).alloc (.cells #[.bool false, .slice none 0 0, .slice none 0 0] 24))) := bt (bt (alloc_later _ _) (alloc_later _ _)) (alloc_later _ _)
  have HZ : Hid (Box (((w.alloc (.cells #[.bool n, .slice a xs.length ca] 82)).alloc (.cells #[.bool m, .slice b ys.length cb] 82)).alloc (.cells #[.bool false, .slice none 0 0, .slice none 0 0] 24)) (w.heap.size + 1 + 1) 24 #[.bool false, .slice none 0 0, .slice none 0 0]) := by
    have e := Box.made ((w.alloc (.cells #[.bool n, .slice a xs.length ca] 82)).alloc (.cells #[.bool m, .slice b ys.length cb] 82)) 24 #[.bool false, .slice none 0 0, .slice none 0 0]
    simp at e
    exact e
  have HN : Hid (Box (((w.alloc (.cells #[.bool n, .slice a xs.length ca] 82)).alloc (.cells #[.bool m, .slice b ys.length cb] 82)).alloc (.cells #[.bool false, .slice none 0 0, .slice none 0 0] 24)) w.heap.size 82 #[.bool n, .slice a xs.length ca]) := Box.later (Box.later (Box.made w _ _) (alloc_later _ _) (by simp)) (alloc_later _ _) (by simp; omega)
  have HM : Hid (Box (((w.alloc (.cells #[.bool n, .slice a xs.length ca] 82)).alloc (.cells #[.bool m, .slice b ys.length cb] 82)).alloc (.cells #[.bool false, .slice none 0 0, .slice none 0 0] 24)) (w.heap.size + 1) 82 #[.bool m, .slice b ys.length cb]) := by
    have e := Box.later (Box.made (w.alloc (.cells #[.bool n, .slice a xs.length ca] 82)) 82 #[.bool m, .slice b ys.length cb]) (alloc_later ((w.alloc (.cells #[.bool n, .slice a xs.length ca] 82)).alloc (.cells #[.bool m, .slice b ys.length cb] 82)) (.cells #[.bool false, .slice none 0 0, .slice none 0 0] 24)) (by simp)
    simp at e
    exact e
  have HS := hid (And.intro (h.later HB.out) (g.later HB.out))
  have HXS : Hid (w.heap.size + 1 + 1 < (((w.alloc (.cells #[.bool n, .slice a xs.length ca] 82)).alloc (.cells #[.bool m, .slice b ys.length cb] 82)).alloc (.cells #[.bool false, .slice none 0 0, .slice none 0 0] 24)).heap.size) := HZ.out.lt
  have HC1 := hid (wcheck_any n _ xs _ HS.out.1 lx)
  obtain ⟨e1, he1⟩ : ∃ e1, wchk n xs = e1 := ⟨_, rfl⟩
  rw [he1] at HC1 hx ⊢
  have hx' : (e1 == 0) = false := beq_eq_false_iff_ne.2 hx
  have HE := hid hx
  clear he1 hx
  clear h g
  go_enter Tryz.func83, Tryz.ntmps83
  go_wp2_with fail
  refine Calls.mono HC1.out ?_
  generalize (((w.alloc (.cells #[.bool n, .slice a xs.length ca] 82)).alloc (.cells #[.bool m, .slice b ys.length cb] 82)).alloc (.cells #[.bool false, .slice none 0 0, .slice none 0 0] 24)) = X at *
  rintro e w1 ⟨rfl, hb1⟩
  have HB1 := hid hb1
  clear hb1 HC1
  obtain ⟨y0, y1, y2, f0, f1, f2⟩ := res_box3 HZ.out HB1.out
  have HBN := hid (below_put3 (bt HB.out HB1.out) (w.heap.size + 1 + 1) (by omega) (.bool false) (.slice none 0 0) (.slice none 0 0))
  clear HN HM HZ HS
  go_wp2_with fail
  refine bodyPost_ret (v := .tuple #[.agg #[.bool false, .slice none 0 0, .slice none 0 0], .int .i64 e1]) (by simp [results, Tryz.results83, go_sem, y0, y1, y2]) rfl ?_
  exact ⟨false, _, [], _, [], _, rfl, World.ownsRow_nil _ _ _ _, World.ownsRow_nil _ _ _ _, RTells.err HE.out, HBN.out, ⟨w.heap.size, Nat.le_refl _, HBN.out.size, fun g hg => by simp [Value.ownBlock] at hg, fun g hg => by simp [Value.ownBlock] at hg⟩⟩

set_option maxHeartbeats 3200000 in
set_option maxRecDepth 100000 in
theorem rmake_e2 (n : Bool) (a : Option Addr) (ca : Nat) (xs : List Int) (m : Bool) (b : Option Addr) (cb : Nat) (ys : List Int) (w : World) (h : Sl w (.slice a xs.length ca) xs) (g : Sl w (.slice b ys.length cb) ys) (lx : xs.length ≤ 281474976710656) (ly : ys.length ≤ 281474976710656) (hx : wchk n xs = 0) (hy : wchk m ys ≠ 0) (q : Rat) :
    Calls Tryz.prog 83 #[.agg #[.bool n, .slice a xs.length ca], .agg #[.bool m, .slice b ys.length cb]] w (RToldA w (wchk m ys) q) := by
  have HB : Hid (Below w.heap.size w (((w.alloc (.cells #[.bool n, .slice a xs.length ca] 82)).alloc (.cells #[.bool m, .slice b ys.length cb] 82)).alloc (.cells #[.bool false, .slice none 0 0, .slice none 0 0] 24))) := bt (bt (alloc_later _ _) (alloc_later _ _)) (alloc_later _ _)
  have HZ : Hid (Box (((w.alloc (.cells #[.bool n, .slice a xs.length ca] 82)).alloc (.cells #[.bool m, .slice b ys.length cb] 82)).alloc (.cells #[.bool false, .slice none 0 0, .slice none 0 0] 24)) (w.heap.size + 1 + 1) 24 #[.bool false, .slice none 0 0, .slice none 0 0]) := by
    have e := Box.made ((w.alloc (.cells #[.bool n, .slice a xs.length ca] 82)).alloc (.cells #[.bool m, .slice b ys.length cb] 82)) 24 #[.bool false, .slice none 0 0, .slice none 0 0]
    simp at e
    exact e
  have HN : Hid (Box (((w.alloc (.cells #[.bool n, .slice a xs.length ca] 82)).alloc (.cells #[.bool m, .slice b ys.length cb] 82)).alloc (.cells #[.bool false, .slice none 0 0, .slice none 0 0] 24)) w.heap.size 82 #[.bool n, .slice a xs.length ca]) := Box.later (Box.later (Box.made w _ _) (alloc_later _ _) (by simp)) (alloc_later _ _) (by simp; omega)
  have HM : Hid (Box (((w.alloc (.cells #[.bool n, .slice a xs.length ca] 82)).alloc (.cells #[.bool m, .slice b ys.length cb] 82)).alloc (.cells #[.bool false, .slice none 0 0, .slice none 0 0] 24)) (w.heap.size + 1) 82 #[.bool m, .slice b ys.length cb]) := by
    have e := Box.later (Box.made (w.alloc (.cells #[.bool n, .slice a xs.length ca] 82)) 82 #[.bool m, .slice b ys.length cb]) (alloc_later ((w.alloc (.cells #[.bool n, .slice a xs.length ca] 82)).alloc (.cells #[.bool m, .slice b ys.length cb] 82)) (.cells #[.bool false, .slice none 0 0, .slice none 0 0] 24)) (by simp)
    simp at e
    exact e
  have HS := hid (And.intro (h.later HB.out) (g.later HB.out))
  have HXS : Hid (w.heap.size + 1 + 1 < (((w.alloc (.cells #[.bool n, .slice a xs.length ca] 82)).alloc (.cells #[.bool m, .slice b ys.length cb] 82)).alloc (.cells #[.bool false, .slice none 0 0, .slice none 0 0] 24)).heap.size) := HZ.out.lt
  have HC1 := hid (wcheck_any n _ xs _ HS.out.1 lx)
  rw [hx] at HC1
  obtain ⟨e1, he1⟩ : ∃ e1, wchk m ys = e1 := ⟨_, rfl⟩
  have HC2 := hid (fun ww (hb : Below _ (((w.alloc (.cells #[.bool n, .slice a xs.length ca] 82)).alloc (.cells #[.bool m, .slice b ys.length cb] 82)).alloc (.cells #[.bool false, .slice none 0 0, .slice none 0 0] 24)) ww) => wcheck_any m _ ys ww (HS.out.2.later hb) ly)
  rw [he1] at HC2 hy ⊢
  have hy' : (e1 == 0) = false := beq_eq_false_iff_ne.2 hy
  have HE := hid hy
  clear he1 hy hx
  clear h g
  go_enter Tryz.func83, Tryz.ntmps83
  go_wp2_with fail
  refine Calls.mono HC1.out ?_
  generalize (((w.alloc (.cells #[.bool n, .slice a xs.length ca] 82)).alloc (.cells #[.bool m, .slice b ys.length cb] 82)).alloc (.cells #[.bool false, .slice none 0 0, .slice none 0 0] 24)) = X at *
  rintro e w1 ⟨rfl, hb1⟩
  have HB1 := hid hb1
  clear hb1 HC1
  have HC := hid (HC2.out w1 HB1.out)
  obtain ⟨q0, q1, _, _⟩ := (HM.out.later HB1.out HM.out.lt).c2
  clear HC2
  go_wp2_with fail
  refine Calls.mono HC.out ?_
  rintro e w2 ⟨rfl, hb2⟩
  have HB2 := hid (bt HB1.out hb2)
  clear hb2 HC q0 q1
  obtain ⟨y0, y1, y2, f0, f1, f2⟩ := res_box3 HZ.out HB2.out
  have HBN := hid (below_put3 (bt HB.out HB2.out) (w.heap.size + 1 + 1) (by omega) (.bool false) (.slice none 0 0) (.slice none 0 0))
  clear HN HM HZ HS
  go_wp2_with fail
  refine bodyPost_ret (v := .tuple #[.agg #[.bool false, .slice none 0 0, .slice none 0 0], .int .i64 e1]) (by simp [results, Tryz.results83, go_sem, y0, y1, y2]) rfl ?_
  exact ⟨false, _, [], _, [], _, rfl, World.ownsRow_nil _ _ _ _, World.ownsRow_nil _ _ _ _, RTells.err HE.out, HBN.out, ⟨w.heap.size, Nat.le_refl _, HBN.out.size, fun g hg => by simp [Value.ownBlock] at hg, fun g hg => by simp [Value.ownBlock] at hg⟩⟩

set_option maxHeartbeats 3200000 in
set_option maxRecDepth 100000 in
theorem rmake_z (n : Bool) (a : Option Addr) (ca : Nat) (xs : List Int) (m : Bool) (b : Option Addr) (cb : Nat) (ys : List Int) (w : World) (h : Sl w (.slice a xs.length ca) xs) (g : Sl w (.slice b ys.length cb) ys) (lx : xs.length ≤ 281474976710656) (ly : ys.length ≤ 281474976710656) (hx : wchk n xs = 0) (hy : wchk m ys = 0) (h0 : ys.length = 0) (q : Rat) :
    Calls Tryz.prog 83 #[.agg #[.bool n, .slice a xs.length ca], .agg #[.bool m, .slice b ys.length cb]] w (RToldA w 7 q) := by
  have HB : Hid (Below w.heap.size w (((w.alloc (.cells #[.bool n, .slice a xs.length ca] 82)).alloc (.cells #[.bool m, .slice b ys.length cb] 82)).alloc (.cells #[.bool false, .slice none 0 0, .slice none 0 0] 24))) := bt (bt (alloc_later _ _) (alloc_later _ _)) (alloc_later _ _)
  have HZ : Hid (Box (((w.alloc (.cells #[.bool n, .slice a xs.length ca] 82)).alloc (.cells #[.bool m, .slice b ys.length cb] 82)).alloc (.cells #[.bool false, .slice none 0 0, .slice none 0 0] 24)) (w.heap.size + 1 + 1) 24 #[.bool false, .slice none 0 0, .slice none 0 0]) := by
    have e := Box.made ((w.alloc (.cells #[.bool n, .slice a xs.length ca] 82)).alloc (.cells #[.bool m, .slice b ys.length cb] 82)) 24 #[.bool false, .slice none 0 0, .slice none 0 0]
    simp at e
    exact e
  have HN : Hid (Box (((w.alloc (.cells #[.bool n, .slice a xs.length ca] 82)).alloc (.cells #[.bool m, .slice b ys.length cb] 82)).alloc (.cells #[.bool false, .slice none 0 0, .slice none 0 0] 24)) w.heap.size 82 #[.bool n, .slice a xs.length ca]) := Box.later (Box.later (Box.made w _ _) (alloc_later _ _) (by simp)) (alloc_later _ _) (by simp; omega)
  have HM : Hid (Box (((w.alloc (.cells #[.bool n, .slice a xs.length ca] 82)).alloc (.cells #[.bool m, .slice b ys.length cb] 82)).alloc (.cells #[.bool false, .slice none 0 0, .slice none 0 0] 24)) (w.heap.size + 1) 82 #[.bool m, .slice b ys.length cb]) := by
    have e := Box.later (Box.made (w.alloc (.cells #[.bool n, .slice a xs.length ca] 82)) 82 #[.bool m, .slice b ys.length cb]) (alloc_later ((w.alloc (.cells #[.bool n, .slice a xs.length ca] 82)).alloc (.cells #[.bool m, .slice b ys.length cb] 82)) (.cells #[.bool false, .slice none 0 0, .slice none 0 0] 24)) (by simp)
    simp at e
    exact e
  have HS := hid (And.intro (h.later HB.out) (g.later HB.out))
  have HXS : Hid (w.heap.size + 1 + 1 < (((w.alloc (.cells #[.bool n, .slice a xs.length ca] 82)).alloc (.cells #[.bool m, .slice b ys.length cb] 82)).alloc (.cells #[.bool false, .slice none 0 0, .slice none 0 0] 24)).heap.size) := HZ.out.lt
  have HC1 := hid (wcheck_any n _ xs _ HS.out.1 lx)
  rw [hx] at HC1
  have HC2 := hid (fun ww (hb : Below _ (((w.alloc (.cells #[.bool n, .slice a xs.length ca] 82)).alloc (.cells #[.bool m, .slice b ys.length cb] 82)).alloc (.cells #[.bool false, .slice none 0 0, .slice none 0 0] 24)) ww) => wcheck_any m _ ys ww (HS.out.2.later hb) ly)
  rw [hy] at HC2
  have h0' : ((ys.length : Int) == 0) = true := by rw [h0]; rfl
  have HE : Hid ((7 : Int) ≠ 0) := by show _ ≠ _; omega
  clear hx hy h0
  clear h g
  go_enter Tryz.func83, Tryz.ntmps83
  go_wp2_with fail
  refine Calls.mono HC1.out ?_
  generalize (((w.alloc (.cells #[.bool n, .slice a xs.length ca] 82)).alloc (.cells #[.bool m, .slice b ys.length cb] 82)).alloc (.cells #[.bool false, .slice none 0 0, .slice none 0 0] 24)) = X at *
  rintro e w1 ⟨rfl, hb1⟩
  have HB1 := hid hb1
  clear hb1 HC1
  have HC := hid (HC2.out w1 HB1.out)
  obtain ⟨q0, q1, _, _⟩ := (HM.out.later HB1.out HM.out.lt).c2
  clear HC2
  go_wp2_with fail
  refine Calls.mono HC.out ?_
  rintro e w2 ⟨rfl, hb2⟩
  have HB2 := hid (bt HB1.out hb2)
  clear hb2 HC q0 q1
  obtain ⟨q0, q1, _, _⟩ := (HM.out.later HB2.out HM.out.lt).c2
  obtain ⟨y0, y1, y2, f0, f1, f2⟩ := res_box3 HZ.out HB2.out
  have HBN := hid (below_put3 (bt HB.out HB2.out) (w.heap.size + 1 + 1) (by omega) (.bool false) (.slice none 0 0) (.slice none 0 0))
  clear HN HM HZ HS
  go_wp2_with fail
  refine bodyPost_ret (v := .tuple #[.agg #[.bool false, .slice none 0 0, .slice none 0 0], .int .i64 7]) (by simp [results, Tryz.results83, go_sem, y0, y1, y2]) rfl ?_
  exact ⟨false, _, [], _, [], _, rfl, World.ownsRow_nil _ _ _ _, World.ownsRow_nil _ _ _ _, RTells.err HE.out, HBN.out, ⟨w.heap.size, Nat.le_refl _, HBN.out.size, fun g hg => by simp [Value.ownBlock] at hg, fun g hg => by simp [Value.ownBlock] at hg⟩⟩

set_option maxHeartbeats 6400000 in
set_option maxRecDepth 100000 in
theorem rmake_ok (n : Bool) (a : Option Addr) (ca : Nat) (xs : List Int) (m : Bool) (b : Option Addr) (cb : Nat) (ys : List Int) (w : World) (h : Sl w (.slice a xs.length ca) xs) (g : Sl w (.slice b ys.length cb) ys) (lx : xs.length ≤ 281474976710656) (ly : ys.length ≤ 281474976710656) (hx : wchk n xs = 0) (hy : wchk m ys = 0) (h0 : 0 < ys.length) :
    Calls Tryz.prog 83 #[.agg #[.bool n, .slice a xs.length ca], .agg #[.bool m, .slice b ys.length cb]] w (RToldA w 0 (Rat.divInt (wval n xs) (wval m ys))) := by
  obtain ⟨kx, tx, _⟩ := wchk_ok hx
  obtain ⟨ky, ty, _⟩ := wchk_ok hy
  have wx := h.wd
  have wy := g.wd
  have HB : Hid (Below w.heap.size w (((w.alloc (.cells #[.bool n, .slice a xs.length ca] 82)).alloc (.cells #[.bool m, .slice b ys.length cb] 82)).alloc (.cells #[.bool false, .slice none 0 0, .slice none 0 0] 24))) := bt (bt (alloc_later _ _) (alloc_later _ _)) (alloc_later _ _)
  have HZ : Hid (Box (((w.alloc (.cells #[.bool n, .slice a xs.length ca] 82)).alloc (.cells #[.bool m, .slice b ys.length cb] 82)).alloc (.cells #[.bool false, .slice none 0 0, .slice none 0 0] 24)) (w.heap.size + 1 + 1) 24 #[.bool false, .slice none 0 0, .slice none 0 0]) := by
    have e := Box.made ((w.alloc (.cells #[.bool n, .slice a xs.length ca] 82)).alloc (.cells #[.bool m, .slice b ys.length cb] 82)) 24 #[.bool false, .slice none 0 0, .slice none 0 0]
    simp at e
    exact e
  have HN : Hid (Box (((w.alloc (.cells #[.bool n, .slice a xs.length ca] 82)).alloc (.cells #[.bool m, .slice b ys.length cb] 82)).alloc (.cells #[.bool false, .slice none 0 0, .slice none 0 0] 24)) w.heap.size 82 #[.bool n, .slice a xs.length ca]) := Box.later (Box.later (Box.made w _ _) (alloc_later _ _) (by simp)) (alloc_later _ _) (by simp; omega)
  have HM : Hid (Box (((w.alloc (.cells #[.bool n, .slice a xs.length ca] 82)).alloc (.cells #[.bool m, .slice b ys.length cb] 82)).alloc (.cells #[.bool false, .slice none 0 0, .slice none 0 0] 24)) (w.heap.size + 1) 82 #[.bool m, .slice b ys.length cb]) := by
    have e := Box.later (Box.made (w.alloc (.cells #[.bool n, .slice a xs.length ca] 82)) 82 #[.bool m, .slice b ys.length cb]) (alloc_later ((w.alloc (.cells #[.bool n, .slice a xs.length ca] 82)).alloc (.cells #[.bool m, .slice b ys.length cb] 82)) (.cells #[.bool false, .slice none 0 0, .slice none 0 0] 24)) (by simp)
    simp at e
    exact e
  have HS := hid (And.intro (h.later HB.out) (g.later HB.out))
  have HXS : Hid (w.heap.size + 1 + 1 < (((w.alloc (.cells #[.bool n, .slice a xs.length ca] 82)).alloc (.cells #[.bool m, .slice b ys.length cb] 82)).alloc (.cells #[.bool false, .slice none 0 0, .slice none 0 0] 24)).heap.size) := HZ.out.lt
  have HC1 := hid (wcheck_any n _ xs _ HS.out.1 lx)
  rw [hx] at HC1
  have HC2 := hid (fun ww (hb : Below _ (((w.alloc (.cells #[.bool n, .slice a xs.length ca] 82)).alloc (.cells #[.bool m, .slice b ys.length cb] 82)).alloc (.cells #[.bool false, .slice none 0 0, .slice none 0 0] 24)) ww) => wcheck_any m _ ys ww (HS.out.2.later hb) ly)
  rw [hy] at HC2
  have h0' : ((ys.length : Int) == 0) = false := beq_eq_false_iff_ne.2 (by omega)
  have HPY : Hid (0 < val ys) := by have := val_pos' wy ty h0; show _ < _; omega
  have HG : Hid (0 < gcdI (val xs) (val ys) ∧ gcdI (val xs) (val ys) ≤ val ys ∧ val ys < 4294967296 ^ 2048) := ⟨gcd_pos_right HPY.out, gcd_le_right HPY.out, below2048 wy ky⟩
  have HMP := hid (make_parts (n := n) (m := m) (val_nonneg wx) HPY.out)
  have HTT := hid (And.intro tx ty)
  obtain ⟨s, hs⟩ : ∃ s, (!(n == m)) = s := ⟨_, rfl⟩
  have HSG := hid (show (n != m) = s from hs)
  clear h g hx hy h0 tx ty
  go_enter Tryz.func83, Tryz.ntmps83
  go_wp2_with fail
  refine Calls.mono HC1.out ?_
  generalize (((w.alloc (.cells #[.bool n, .slice a xs.length ca] 82)).alloc (.cells #[.bool m, .slice b ys.length cb] 82)).alloc (.cells #[.bool false, .slice none 0 0, .slice none 0 0] 24)) = X at *
  rintro e w1 ⟨rfl, hb1⟩
  have HB1 := hid hb1
  clear hb1 HC1
  have HC := hid (HC2.out w1 HB1.out)
  obtain ⟨q0, q1, _, _⟩ := (HM.out.later HB1.out HM.out.lt).c2
  clear HC2
  go_wp2_with fail
  refine Calls.mono HC.out ?_
  rintro e w2 ⟨rfl, hb2⟩
  have HB2 := hid (bt HB1.out hb2)
  clear hb2 HC q0 q1
  have HK : Hid (∀ V, Below X.heap.size X V → V.cell? ⟨w.heap.size, 0, none⟩ = some (.bool n) ∧ V.cell? ⟨w.heap.size, 1, none⟩ = some (.slice a xs.length ca) ∧ V.cell? ⟨w.heap.size + 1, 0, none⟩ = some (.bool m) ∧ V.cell? ⟨w.heap.size + 1, 1, none⟩ = some (.slice b ys.length cb)) := fun V hb => by
    obtain ⟨p0, p1, _, _⟩ := (HN.out.later hb HN.out.lt).c2
    obtain ⟨q0, q1, _, _⟩ := (HM.out.later hb HM.out.lt).c2
    exact ⟨p0, p1, q0, q1⟩
  have HCM := hid (told1_at _ HK.out w2 HB2.out (rcommon_any _ _ xs ys w2 (HS.out.1.later HB2.out) (HS.out.2.later HB2.out) (by omega) (by omega) HTT.out.1 HTT.out.2))
  obtain ⟨p0, p1, q0, q1⟩ := HK.out w2 HB2.out
  go_wp2_with fail
  refine Calls.mono HCM.out ?_
  rintro e w3 ⟨a3, z3, c3, rfl, HE3, _, hb3, HS3⟩
  have hb3d := hb3.drew
  have HO3 := hid (HE3.out.later (Below.drew (Below.refl _ w3)))
  clear HCM HE3 HS3 p0 p1 q0 q1
  have hs0 := HK.out _ hb3d
  have HQX := hid (fun ww (hv' : Below X.heap.size X ww) (h : One X ww (.slice a3 z3.length c3) z3 (gcdI (val xs) (val ys))) => quot_in _ HK.out hv' (HS.out.1.later hv') (by omega) HTT.out.1 h HG.out.1 (by have := HG.out; omega))
  have HQY := hid (fun ww (hv' : Below X.heap.size X ww) (h : One X ww (.slice a3 z3.length c3) z3 (gcdI (val xs) (val ys))) => quot_in _ HK.out hv' (HS.out.2.later hv') (by omega) HTT.out.2 h HG.out.1 (by have := HG.out; omega))
  have HTL := hid (fun (ww : World) (hb : Below X.heap.size X ww) (a4 : Option Addr) (z4 : List Int) (c4 : Nat) (a5 : Option Addr) (z5 : List Int) (c5 : Nat) (g1 : One X ww (.slice a4 z4.length c4) z4 (val xs / gcdI (val xs) (val ys))) (g2 : One X ww (.slice a5 z5.length c5) z5 (val ys / gcdI (val xs) (val ys))) (hc : Cut X (.slice a4 z4.length c4) (.slice a5 z5.length c5) ww) => rtold_cut (n := s) (q := Rat.divInt (wval n xs) (wval m ys)) _ HK.out hb g1 g2 hc HMP.out.1 HMP.out.2.1 (by rw [← HSG.out]; exact HMP.out.2.2))
  have hq0 : w.heap.size + 1 + 1 ≠ w.heap.size := by omega
  have hq1 : w.heap.size + 1 + 1 ≠ w.heap.size + 1 := by omega
  clear HTT HG HPY
  go_wp2_with fail
  go_region_held3 (fun V : World => V.cell? ⟨w.heap.size, 0, none⟩ = some (.bool n) ∧ V.cell? ⟨w.heap.size, 1, none⟩ = some (.slice a xs.length ca) ∧ V.cell? ⟨w.heap.size + 1, 0, none⟩ = some (.bool m) ∧ V.cell? ⟨w.heap.size + 1, 1, none⟩ = some (.slice b ys.length cb)) (first | exact hs9 | exact hs5 | exact hs4 | exact hs0 | (simp [hs9, World.cell?_setCell_far, hq0]))
    (first
      | (go_at_call 74; with_reducible refine Calls.mono (HTL.out _ hb5 _ _ _ _ _ _ (HE4.out.1.later HS5.out) HE5.out.1 (cut_two hb3d.size HS4.out.size HS5.out.size HE4.out.2 HE5.out.2)) ?_; rintro e w9 ⟨k9, a8, z8, c8, a9, z9, c9, code, rfl, HE9, hs9, hb9⟩; obtain ⟨y0, y1, y2, f0, f1, f2⟩ := res_box3 HZ.out hb9)
      | (go_at_call 100; with_reducible refine Calls.mono (HQY.out _ hb4 (HO3.out.later HS4.out)) ?_; rintro e w5 ⟨a5, z5, c5, rfl, HE5, hs5, hb5, HS5⟩)
      | (go_at_call 100; with_reducible refine Calls.mono (HQX.out _ hb3d HO3.out) ?_; rintro e w4 ⟨a4, z4, c4, rfl, HE4, hs4, hb4, HS4⟩))
  all_goals
    have HBW := hid (bt HB.out hb9)
    have HR := hid HE9.out
    clear HK HQX HQY HTL HE4 HE5 HE9 HS4 HS5 HO3 hs0 hs4 hs5 hs9 hb3 hb3d hb4 hb5 hb9 HMP HSG
    go_wp2_with fail
    refine bodyPost_ret (v := .tuple #[.agg #[.bool k9, .slice a8 z8.length c8, .slice a9 z9.length c9], .int .i64 code]) (by simp [results, Tryz.results83, go_sem, y0, y1, y2]) rfl ?_
    exact RToldA.put HR.out (w.heap.size + 1 + 1) HXS.out (by omega) HBW.out _ _ _

theorem rmake_any (n : Bool) (a : Option Addr) (ca : Nat) (xs : List Int) (m : Bool) (b : Option Addr) (cb : Nat) (ys : List Int) (w : World) (h : Sl w (.slice a xs.length ca) xs) (g : Sl w (.slice b ys.length cb) ys) (lx : xs.length ≤ 281474976710656) (ly : ys.length ≤ 281474976710656) :
    Calls Tryz.prog 83 #[.agg #[.bool n, .slice a xs.length ca], .agg #[.bool m, .slice b ys.length cb]] w (RToldA w (mkErr n xs m ys) (Rat.divInt (wval n xs) (wval m ys))) := by
  unfold mkErr
  by_cases hb : wboth n xs m ys = 0
  · obtain ⟨hx, hy⟩ := wboth_ok hb
    rw [if_pos hb]
    by_cases h0 : ys.length = 0
    · rw [if_pos h0]
      exact rmake_z n a ca xs m b cb ys w h g lx ly hx hy h0 _
    · rw [if_neg h0]
      exact rmake_ok n a ca xs m b cb ys w h g lx ly hx hy (by omega)
  · rw [if_neg hb]
    unfold wboth at hb ⊢
    by_cases hx : wchk n xs = 0
    · rw [if_pos hx] at hb ⊢
      exact rmake_e2 n a ca xs m b cb ys w h g lx ly hx hb _
    · rw [if_neg hx]
      exact rmake_e1 n a ca xs m b cb ys w h g lx ly hx _
end Go.Proofs.YtopogjfmocpeaaaGreat

/- Fractions: ratio.Small. -/
namespace Go.Proofs.YtopogjfmocpeaaaGreat
open Go.RowKit
set_option linter.unusedVariables false

theorem small_err {n m : Bool} {zs us : List Int} {y : Int} (l1 : zs.length ≤ 2) (t1 : Trimmed zs) (s1 : n = false ∨ 0 < zs.length) (w2 : Wd us) (l2 : us.length ≤ 2) (t2 : Trimmed us) (s2 : m = false ∨ 0 < us.length) (v2 : wval m us = y) : mkErr n zs m us = if y = 0 then 7 else 0 := by
  unfold mkErr
  rw [wboth_good (wchk_good (by omega) t1 s1) (wchk_good (by omega) t2 s2), if_pos rfl]
  by_cases c : us.length = 0
  · have e0 : val us = 0 := trimmed_zero' c
    have : y = 0 := by rw [← v2]; cases m <;> simp [wval, e0]
    rw [if_pos c, if_pos this]
  · have e0 := val_pos' w2 t2 (by omega)
    have : ¬ y = 0 := by rw [← v2]; cases m <;> simp [wval] <;> omega
    rw [if_neg c, if_neg this]

set_option maxHeartbeats 1600000 in
set_option maxRecDepth 100000 in
theorem rsmall_any (x y : Int) (w : World) (x0 : -9223372036854775808 ≤ x) (x1 : x ≤ 9223372036854775807) (y0 : -9223372036854775808 ≤ y) (y1 : y ≤ 9223372036854775807) :
    Calls Tryz.prog 63 #[.int .i64 x, .int .i64 y] w (RToldA w (if y = 0 then 7 else 0) (Rat.divInt x y)) := by
  have HB : Hid (Below w.heap.size w (w.alloc (.cells #[.bool false, .slice none 0 0, .slice none 0 0] 24))) := alloc_later _ _
  have HZ : Hid (Box (w.alloc (.cells #[.bool false, .slice none 0 0, .slice none 0 0] 24)) w.heap.size 24 #[.bool false, .slice none 0 0, .slice none 0 0]) := Box.made w _ _
  have HO1 := hid (wof_any x (w.alloc (.cells #[.bool false, .slice none 0 0, .slice none 0 0] 24)) x0 x1)
  obtain ⟨E, hE⟩ : ∃ E : Int, (if y = 0 then (7 : Int) else 0) = E := ⟨_, rfl⟩
  rw [hE]
  have HE := hid hE
  clear hE
  go_enter Tryz.func63, Tryz.ntmps63
  go_wp2_with fail
  refine Calls.mono HO1.out ?_
  generalize (w.alloc (.cells #[.bool false, .slice none 0 0, .slice none 0 0] 24)) = X at *
  rintro e w1 ⟨n1, v1, z1, rfl, o1, wd1, t1, l1, s1, hv1, hb1⟩
  obtain ⟨a1, c1, hs1⟩ := own_slice' o1
  subst hs1
  have HO2 := hid (wof_any y w1 y0 y1)
  have HS1 := hid (Sl.own o1 wd1)
  have HV1 := hid (And.intro t1 (And.intro s1 hv1))
  have HB1 := hid hb1
  clear o1 wd1 t1 s1 hv1 hb1 HO1
  go_wp2_with fail
  refine Calls.mono HO2.out ?_
  rintro e w2 ⟨n2, v2, z2, rfl, o2, wd2, t2, l2, s2, hv2, hb2⟩
  obtain ⟨a2, c2, hs2⟩ := own_slice' o2
  subst hs2
  have HM := hid (rmake_any n1 a1 c1 z1 n2 a2 c2 z2 w2 (HS1.out.later hb2) (Sl.own o2 wd2) (by omega) (by omega))
  rw [small_err l1 HV1.out.1 HV1.out.2.1 wd2 l2 t2 s2 hv2, HE.out, HV1.out.2.2, hv2] at HM
  have HB2 := hid (bt HB1.out hb2)
  clear o2 wd2 t2 s2 hv2 hb2 HO2 HS1 HV1
  go_wp2_with fail
  refine Calls.mono HM.out ?_
  rintro e w3 ⟨k3, v3, z3, u3, r3, code, rfl, o3, o4, t3, hb3, hc3⟩
  obtain ⟨a3, c3, hs3⟩ := own_slice' o3
  subst hs3
  obtain ⟨a4, c4, hs4⟩ := own_slice' o4
  subst hs4
  have HR := hid (And.intro o3 (And.intro o4 (And.intro t3 hc3)))
  obtain ⟨y0', y1', y2', f0, f1, f2⟩ := res_box3 HZ.out (bt HB2.out hb3)
  have HBW := hid (bt HB.out (bt HB2.out hb3))
  have HLT : Hid (w.heap.size < w2.heap.size) := Nat.lt_of_lt_of_le HZ.out.lt HB2.out.size
  clear o3 o4 t3 hb3 hc3 HM
  go_wp2_with fail
  refine bodyPost_ret (v := .tuple #[.agg #[.bool k3, .slice a3 z3.length c3, .slice a4 r3.length c4], .int .i64 code]) (by simp [results, Tryz.results63, go_sem, y0', y1', y2']) rfl ?_
  exact RToldA.put HR.out w.heap.size HLT.out (Nat.le_refl _) HBW.out _ _ _
end Go.Proofs.YtopogjfmocpeaaaGreat

/- The document's own fractions: Make, size, Small. -/
namespace Go.Proofs.YtopogjfmocpeaaaGreat
open Go.RowKit
set_option linter.unusedVariables false

set_option maxHeartbeats 1600000 in
set_option maxRecDepth 100000 in
theorem size3_any (x : Int) (w : World) (h0 : -9223372036854775808 ≤ x) (h1 : x ≤ 9223372036854775807) :
    Calls Tryz.prog 65 #[.int .i64 x] w (Told1 w (x.natAbs : Int)) := by
  obtain ⟨y, hy⟩ : ∃ y : Int, y = (x.natAbs : Int) := ⟨_, rfl⟩
  have y0 : 0 ≤ y ∧ y ≤ 18446744073709551615 := by omega
  have HO := hid (refOf_any y w y0.1 y0.2)
  have HV := hid (And.intro (of_wd y y0.1 y0.2).trimmed (And.intro (Trimmed.trimmed [y % 4294967296, y / 4294967296]) (of_val y y0.1 y0.2)))
  rw [← hy]
  by_cases hx : x < 0
  · have hc : IntKind.u64.wrap x = 18446744073709551616 + x := by rw [IntKind.wrap_u64]; omega
    have hc2 : IntKind.u64.wrap (-(18446744073709551616 + x)) = y := by rw [IntKind.wrap_u64]; omega
    have hc3 : IntKind.u64.wrap (0 - (18446744073709551616 + x)) = y := by rw [IntKind.wrap_u64]; omega
    clear hy
    go_enter Tryz.func65, Tryz.ntmps65
    go_wp2_with fail
    refine Calls.mono HO.out ?_
    rintro e w1 ⟨v1, rfl, o1, hb1⟩
    have HR := hid (And.intro (owns_len o1) hb1)
    clear o1 hb1 HO
    go_wp2_with fail
    go_ret
    exact ⟨v1, _, rfl, HR.out.1, HV.out.1, HV.out.2.1, HV.out.2.2, HR.out.2⟩
  · have hc : IntKind.u64.wrap x = y := by rw [IntKind.wrap_u64]; omega
    clear hy
    go_enter Tryz.func65, Tryz.ntmps65
    go_wp2_with fail
    refine Calls.mono HO.out ?_
    rintro e w1 ⟨v1, rfl, o1, hb1⟩
    have HR := hid (And.intro (owns_len o1) hb1)
    clear o1 hb1 HO
    go_wp2_with fail
    go_ret
    exact ⟨v1, _, rfl, HR.out.1, HV.out.1, HV.out.2.1, HV.out.2.2, HR.out.2⟩
end Go.Proofs.YtopogjfmocpeaaaGreat

/- The document's own fractions: Small; two fractions with the same words. -/
namespace Go.Proofs.YtopogjfmocpeaaaGreat
open Go.RowKit
set_option linter.unusedVariables false

theorem small_sg {x y : Int} {s : Bool} (h : (decide (x < 0) != decide (y < 0)) = s) : Rat.divInt (sg s (x.natAbs : Int)) (y.natAbs : Int) = Rat.divInt x y := by
  subst h
  by_cases hx : x < 0 <;> by_cases hy : y < 0
  · have e1 : (x.natAbs : Int) = -x := by omega
    have e2 : (y.natAbs : Int) = -y := by omega
    rw [e1, e2]; simp [hx, hy, sg, Rat.neg_divInt_neg]
  · have e1 : (x.natAbs : Int) = -x := by omega
    have e2 : (y.natAbs : Int) = y := by omega
    rw [e1, e2]; simp [hx, hy, sg]
  · have e1 : (x.natAbs : Int) = x := by omega
    have e2 : (y.natAbs : Int) = -y := by omega
    rw [e1, e2]; simp [hx, hy, sg, Rat.divInt_neg']
  · have e1 : (x.natAbs : Int) = x := by omega
    have e2 : (y.natAbs : Int) = y := by omega
    rw [e1, e2]; simp [hx, hy, sg]

set_option maxHeartbeats 3200000 in
set_option maxRecDepth 100000 in
theorem small3_any (x y : Int) (w : World) (x0 : -9223372036854775808 ≤ x) (x1 : x ≤ 9223372036854775807) (y0 : -9223372036854775808 ≤ y) (y1 : y ≤ 9223372036854775807) :
    Calls Tryz.prog 41 #[.int .i64 x, .int .i64 y] w (RTold w (if y = 0 then 7 else 0) (Rat.divInt x y)) := by
  have HB : Hid (Below w.heap.size w (w.alloc (.cells #[.bool false, .slice none 0 0, .slice none 0 0] 24))) := alloc_later _ _
  have HZ : Hid (Box (w.alloc (.cells #[.bool false, .slice none 0 0, .slice none 0 0] 24)) w.heap.size 24 #[.bool false, .slice none 0 0, .slice none 0 0]) := Box.made w _ _
  by_cases hz : y = 0
  · rw [if_pos hz]
    have HE : Hid ((7 : Int) ≠ 0) := by show _ ≠ _; omega
    have hz' : (y == 0) = true := by simp [hz]
    obtain ⟨q, hq⟩ : ∃ q, Rat.divInt x y = q := ⟨_, rfl⟩
    rw [hq]
    clear hz hq
    go_enter Tryz.func41, Tryz.ntmps41
    go_wp2_with fail
    refine bodyPost_ret (v := .tuple #[.agg #[.bool false, .slice none 0 0, .slice none 0 0], .int .i64 7]) (by simp [results, Tryz.results41, go_sem]) rfl ?_
    exact ⟨false, _, [], _, [], _, rfl, World.ownsRow_nil _ _ _ _, World.ownsRow_nil _ _ _ _, RTells.err HE.out, HB.out⟩
  · rw [if_neg hz]
    have hz' : (y == 0) = false := beq_eq_false_iff_ne.2 hz
    have HS1 := hid (size3_any x (w.alloc (.cells #[.bool false, .slice none 0 0, .slice none 0 0] 24)) x0 x1)
    by_cases hx : x < 0 <;> by_cases hy : y < 0
    · have HO := hid (fun (ww : World) a1 c1 z1 a2 c2 z2 h1 h2 l1 l2 t1 t2 p2 => of3_any false a1 c1 z1 a2 c2 z2 ww h1 h2 l1 l2 t1 t2 p2)
      have HSG := hid (small_sg (x := x) (y := y) (s := false) (by simp [hx, hy]))
      go_enter Tryz.func41, Tryz.ntmps41
      go_wp2_with fail
      refine Calls.mono HS1.out ?_
      generalize (w.alloc (.cells #[.bool false, .slice none 0 0, .slice none 0 0] 24)) = X at *
      rintro e w1 ⟨v1, z1, rfl, o1, wd1, t1, hv1, hb1⟩
      obtain ⟨a1, k1, hs1⟩ := own_slice' o1
      subst hs1
      have HC2 := hid (size3_any y w1 y0 y1)
      have HE1 := hid (And.intro (Sl.own o1 wd1) (And.intro t1 hv1))
      have l1 : z1.length ≤ 2 := len_of_lt wd1 t1 (by rw [hv1]; omega)
      have HB1 := hid hb1
      clear o1 wd1 t1 hv1 hb1 HS1
      go_wp2_with fail
      refine Calls.mono HC2.out ?_
      rintro e w2 ⟨v2, z2, rfl, o2, wd2, t2, hv2, hb2⟩
      obtain ⟨a2, k2, hs2⟩ := own_slice' o2
      subst hs2
      have l2 : z2.length ≤ 2 := len_of_lt wd2 t2 (by rw [hv2]; omega)
      have p2 : 0 < z2.length := by
        by_cases c : 0 < z2.length
        · exact c
        · have := trimmed_zero' (us := z2) (by omega)
          omega
      have HM := hid (HO.out w2 a1 k1 z1 a2 k2 z2 (HE1.out.1.later hb2) (Sl.own o2 wd2) (by omega) (by omega) HE1.out.2.1 t2 p2)
      rw [HE1.out.2.2, hv2, HSG.out] at HM
      have HB2 := hid (bt HB1.out hb2)
      clear o2 wd2 t2 hv2 hb2 HC2 HE1 HO p2
      go_wp2_with fail
      refine Calls.mono HM.out ?_
      rintro e w3 ⟨k3, v3, z3, u3, r3, code, rfl, o3, o4, t3, hb3⟩
      obtain ⟨a3, c3, hs3⟩ := own_slice' o3
      subst hs3
      obtain ⟨a4, c4, hs4⟩ := own_slice' o4
      subst hs4
      have HR := hid (And.intro o3 (And.intro o4 t3))
      obtain ⟨y0', y1', y2', f0, f1, f2⟩ := res_box3 HZ.out (bt HB2.out hb3)
      have HBW := hid (bt HB.out (bt HB2.out hb3))
      have HLT : Hid (w.heap.size < w2.heap.size) := Nat.lt_of_lt_of_le HZ.out.lt HB2.out.size
      clear o3 o4 t3 hb3 HM
      go_wp2_with fail
      refine bodyPost_ret (v := .tuple #[.agg #[.bool k3, .slice a3 z3.length c3, .slice a4 r3.length c4], .int .i64 code]) (by simp [results, Tryz.results41, go_sem, y0', y1', y2']) rfl ?_
      exact RTold.put HR.out w.heap.size HLT.out (Nat.le_refl _) HBW.out _ _ _
    · have HO := hid (fun (ww : World) a1 c1 z1 a2 c2 z2 h1 h2 l1 l2 t1 t2 p2 => of3_any true a1 c1 z1 a2 c2 z2 ww h1 h2 l1 l2 t1 t2 p2)
      have HSG := hid (small_sg (x := x) (y := y) (s := true) (by simp [hx, hy]))
      go_enter Tryz.func41, Tryz.ntmps41
      go_wp2_with fail
      refine Calls.mono HS1.out ?_
      generalize (w.alloc (.cells #[.bool false, .slice none 0 0, .slice none 0 0] 24)) = X at *
      rintro e w1 ⟨v1, z1, rfl, o1, wd1, t1, hv1, hb1⟩
      obtain ⟨a1, k1, hs1⟩ := own_slice' o1
      subst hs1
      have HC2 := hid (size3_any y w1 y0 y1)
      have HE1 := hid (And.intro (Sl.own o1 wd1) (And.intro t1 hv1))
      have l1 : z1.length ≤ 2 := len_of_lt wd1 t1 (by rw [hv1]; omega)
      have HB1 := hid hb1
      clear o1 wd1 t1 hv1 hb1 HS1
      go_wp2_with fail
      refine Calls.mono HC2.out ?_
      rintro e w2 ⟨v2, z2, rfl, o2, wd2, t2, hv2, hb2⟩
      obtain ⟨a2, k2, hs2⟩ := own_slice' o2
      subst hs2
      have l2 : z2.length ≤ 2 := len_of_lt wd2 t2 (by rw [hv2]; omega)
      have p2 : 0 < z2.length := by
        by_cases c : 0 < z2.length
        · exact c
        · have := trimmed_zero' (us := z2) (by omega)
          omega
      have HM := hid (HO.out w2 a1 k1 z1 a2 k2 z2 (HE1.out.1.later hb2) (Sl.own o2 wd2) (by omega) (by omega) HE1.out.2.1 t2 p2)
      rw [HE1.out.2.2, hv2, HSG.out] at HM
      have HB2 := hid (bt HB1.out hb2)
      clear o2 wd2 t2 hv2 hb2 HC2 HE1 HO p2
      go_wp2_with fail
      refine Calls.mono HM.out ?_
      rintro e w3 ⟨k3, v3, z3, u3, r3, code, rfl, o3, o4, t3, hb3⟩
      obtain ⟨a3, c3, hs3⟩ := own_slice' o3
      subst hs3
      obtain ⟨a4, c4, hs4⟩ := own_slice' o4
      subst hs4
      have HR := hid (And.intro o3 (And.intro o4 t3))
      obtain ⟨y0', y1', y2', f0, f1, f2⟩ := res_box3 HZ.out (bt HB2.out hb3)
      have HBW := hid (bt HB.out (bt HB2.out hb3))
      have HLT : Hid (w.heap.size < w2.heap.size) := Nat.lt_of_lt_of_le HZ.out.lt HB2.out.size
      clear o3 o4 t3 hb3 HM
      go_wp2_with fail
      refine bodyPost_ret (v := .tuple #[.agg #[.bool k3, .slice a3 z3.length c3, .slice a4 r3.length c4], .int .i64 code]) (by simp [results, Tryz.results41, go_sem, y0', y1', y2']) rfl ?_
      exact RTold.put HR.out w.heap.size HLT.out (Nat.le_refl _) HBW.out _ _ _
    · have HO := hid (fun (ww : World) a1 c1 z1 a2 c2 z2 h1 h2 l1 l2 t1 t2 p2 => of3_any true a1 c1 z1 a2 c2 z2 ww h1 h2 l1 l2 t1 t2 p2)
      have HSG := hid (small_sg (x := x) (y := y) (s := true) (by simp [hx, hy]))
      go_enter Tryz.func41, Tryz.ntmps41
      go_wp2_with fail
      refine Calls.mono HS1.out ?_
      generalize (w.alloc (.cells #[.bool false, .slice none 0 0, .slice none 0 0] 24)) = X at *
      rintro e w1 ⟨v1, z1, rfl, o1, wd1, t1, hv1, hb1⟩
      obtain ⟨a1, k1, hs1⟩ := own_slice' o1
      subst hs1
      have HC2 := hid (size3_any y w1 y0 y1)
      have HE1 := hid (And.intro (Sl.own o1 wd1) (And.intro t1 hv1))
      have l1 : z1.length ≤ 2 := len_of_lt wd1 t1 (by rw [hv1]; omega)
      have HB1 := hid hb1
      clear o1 wd1 t1 hv1 hb1 HS1
      go_wp2_with fail
      refine Calls.mono HC2.out ?_
      rintro e w2 ⟨v2, z2, rfl, o2, wd2, t2, hv2, hb2⟩
      obtain ⟨a2, k2, hs2⟩ := own_slice' o2
      subst hs2
      have l2 : z2.length ≤ 2 := len_of_lt wd2 t2 (by rw [hv2]; omega)
      have p2 : 0 < z2.length := by
        by_cases c : 0 < z2.length
        · exact c
        · have := trimmed_zero' (us := z2) (by omega)
          omega
      have HM := hid (HO.out w2 a1 k1 z1 a2 k2 z2 (HE1.out.1.later hb2) (Sl.own o2 wd2) (by omega) (by omega) HE1.out.2.1 t2 p2)
      rw [HE1.out.2.2, hv2, HSG.out] at HM
      have HB2 := hid (bt HB1.out hb2)
      clear o2 wd2 t2 hv2 hb2 HC2 HE1 HO p2
      go_wp2_with fail
      refine Calls.mono HM.out ?_
      rintro e w3 ⟨k3, v3, z3, u3, r3, code, rfl, o3, o4, t3, hb3⟩
      obtain ⟨a3, c3, hs3⟩ := own_slice' o3
      subst hs3
      obtain ⟨a4, c4, hs4⟩ := own_slice' o4
      subst hs4
      have HR := hid (And.intro o3 (And.intro o4 t3))
      obtain ⟨y0', y1', y2', f0, f1, f2⟩ := res_box3 HZ.out (bt HB2.out hb3)
      have HBW := hid (bt HB.out (bt HB2.out hb3))
      have HLT : Hid (w.heap.size < w2.heap.size) := Nat.lt_of_lt_of_le HZ.out.lt HB2.out.size
      clear o3 o4 t3 hb3 HM
      go_wp2_with fail
      refine bodyPost_ret (v := .tuple #[.agg #[.bool k3, .slice a3 z3.length c3, .slice a4 r3.length c4], .int .i64 code]) (by simp [results, Tryz.results41, go_sem, y0', y1', y2']) rfl ?_
      exact RTold.put HR.out w.heap.size HLT.out (Nat.le_refl _) HBW.out _ _ _
    · have HO := hid (fun (ww : World) a1 c1 z1 a2 c2 z2 h1 h2 l1 l2 t1 t2 p2 => of3_any false a1 c1 z1 a2 c2 z2 ww h1 h2 l1 l2 t1 t2 p2)
      have HSG := hid (small_sg (x := x) (y := y) (s := false) (by simp [hx, hy]))
      go_enter Tryz.func41, Tryz.ntmps41
      go_wp2_with fail
      refine Calls.mono HS1.out ?_
      generalize (w.alloc (.cells #[.bool false, .slice none 0 0, .slice none 0 0] 24)) = X at *
      rintro e w1 ⟨v1, z1, rfl, o1, wd1, t1, hv1, hb1⟩
      obtain ⟨a1, k1, hs1⟩ := own_slice' o1
      subst hs1
      have HC2 := hid (size3_any y w1 y0 y1)
      have HE1 := hid (And.intro (Sl.own o1 wd1) (And.intro t1 hv1))
      have l1 : z1.length ≤ 2 := len_of_lt wd1 t1 (by rw [hv1]; omega)
      have HB1 := hid hb1
      clear o1 wd1 t1 hv1 hb1 HS1
      go_wp2_with fail
      refine Calls.mono HC2.out ?_
      rintro e w2 ⟨v2, z2, rfl, o2, wd2, t2, hv2, hb2⟩
      obtain ⟨a2, k2, hs2⟩ := own_slice' o2
      subst hs2
      have l2 : z2.length ≤ 2 := len_of_lt wd2 t2 (by rw [hv2]; omega)
      have p2 : 0 < z2.length := by
        by_cases c : 0 < z2.length
        · exact c
        · have := trimmed_zero' (us := z2) (by omega)
          omega
      have HM := hid (HO.out w2 a1 k1 z1 a2 k2 z2 (HE1.out.1.later hb2) (Sl.own o2 wd2) (by omega) (by omega) HE1.out.2.1 t2 p2)
      rw [HE1.out.2.2, hv2, HSG.out] at HM
      have HB2 := hid (bt HB1.out hb2)
      clear o2 wd2 t2 hv2 hb2 HC2 HE1 HO p2
      go_wp2_with fail
      refine Calls.mono HM.out ?_
      rintro e w3 ⟨k3, v3, z3, u3, r3, code, rfl, o3, o4, t3, hb3⟩
      obtain ⟨a3, c3, hs3⟩ := own_slice' o3
      subst hs3
      obtain ⟨a4, c4, hs4⟩ := own_slice' o4
      subst hs4
      have HR := hid (And.intro o3 (And.intro o4 t3))
      obtain ⟨y0', y1', y2', f0, f1, f2⟩ := res_box3 HZ.out (bt HB2.out hb3)
      have HBW := hid (bt HB.out (bt HB2.out hb3))
      have HLT : Hid (w.heap.size < w2.heap.size) := Nat.lt_of_lt_of_le HZ.out.lt HB2.out.size
      clear o3 o4 t3 hb3 HM
      go_wp2_with fail
      refine bodyPost_ret (v := .tuple #[.agg #[.bool k3, .slice a3 z3.length c3, .slice a4 r3.length c4], .int .i64 code]) (by simp [results, Tryz.results41, go_sem, y0', y1', y2']) rfl ?_
      exact RTold.put HR.out w.heap.size HLT.out (Nat.le_refl _) HBW.out _ _ _

set_option maxHeartbeats 1600000 in
set_option maxRecDepth 100000 in
theorem sameRatio_eq (n : Bool) (v u v' u' : Value) (xs ys : List Int) (w : World) (h : Sl w v xs) (g : Sl w u ys) (h' : Sl w v' xs) (g' : Sl w u' ys) (lx : xs.length ≤ 281474976710656) (ly : ys.length ≤ 281474976710656) :
    Calls Tryz.prog 21 #[.agg #[.bool n, v, u], .agg #[.bool n, v', u']] w fun e w' => e = .returned (.bool true) ∧ Below w.heap.size w w' := by
  have HB : Hid (Below w.heap.size w ((w.alloc (.cells #[.bool n, v, u] 24)).alloc (.cells #[.bool n, v', u'] 24))) := bt (alloc_later _ _) (alloc_later _ _)
  have HN : Hid (Box ((w.alloc (.cells #[.bool n, v, u] 24)).alloc (.cells #[.bool n, v', u'] 24)) w.heap.size 24 #[.bool n, v, u]) := Box.later (Box.made w _ _) (alloc_later _ _) (by simp)
  have HM : Hid (Box ((w.alloc (.cells #[.bool n, v, u] 24)).alloc (.cells #[.bool n, v', u'] 24)) (w.heap.size + 1) 24 #[.bool n, v', u']) := by
    have e := Box.made (w.alloc (.cells #[.bool n, v, u] 24)) 24 #[.bool n, v', u']
    simp at e
    exact e
  have H1 := hid (same_sl v v' xs xs _ (h.later HB.out) (h'.later HB.out) lx lx)
  rw [decide_eq_true rfl] at H1
  have H2 := hid (fun ww (hb : Below _ ((w.alloc (.cells #[.bool n, v, u] 24)).alloc (.cells #[.bool n, v', u'] 24)) ww) => same_sl u u' ys ys ww ((g.later HB.out).later hb) ((g'.later HB.out).later hb) ly ly)
  rw [decide_eq_true rfl] at H2
  have hbb : (n == n) = true := by simp
  obtain ⟨a, ca, rfl, hr⟩ := h
  obtain ⟨b, cb, rfl, gr⟩ := g
  obtain ⟨a', ca', rfl, hr'⟩ := h'
  obtain ⟨b', cb', rfl, gr'⟩ := g'
  clear hr gr hr' gr'
  go_enter Tryz.func21, Tryz.ntmps21
  go_wp2_with fail
  refine Calls.mono H1.out ?_
  generalize ((w.alloc (.cells #[.bool n, .slice a xs.length ca, .slice b ys.length cb] 24)).alloc (.cells #[.bool n, .slice a' xs.length ca', .slice b' ys.length cb'] 24)) = X at *
  rintro e w1 ⟨rfl, hb1⟩
  obtain ⟨p0, p1, p2, _, _, _⟩ := res_box3 HN.out hb1
  obtain ⟨q0, q1, q2, _, _, _⟩ := res_box3 HM.out hb1
  have HC := hid (H2.out w1 hb1)
  have HB1 := hid (bt HB.out hb1)
  clear hb1 H1 H2
  go_wp2_with fail
  refine Calls.mono HC.out ?_
  rintro e w2 ⟨rfl, hb2⟩
  have HBN := hid (bt HB1.out hb2)
  clear hb2 HC
  go_wp2_with fail
  go_ret
  exact ⟨rfl, HBN.out⟩
end Go.Proofs.YtopogjfmocpeaaaGreat

/- Complex fractions that are lent to a call, kept, alike: slackwaterkit.LentGauss, KeptGauss, SameGauss. (tools/mkkg.py) -/
namespace Go.Proofs.YtopogjfmocpeaaaGreat
open Go.RowKit
set_option linter.unusedVariables false

/-- The six cells of a complex fraction. -/
def Kl6 (V : World) (p : Nat) (v0 v1 v2 v3 v4 v5 : Value) : Prop := V.cell? ⟨p, 0, none⟩ = some v0 ∧ V.cell? ⟨p, 1, none⟩ = some v1 ∧ V.cell? ⟨p, 2, none⟩ = some v2 ∧ V.cell? ⟨p, 3, none⟩ = some v3 ∧ V.cell? ⟨p, 4, none⟩ = some v4 ∧ V.cell? ⟨p, 5, none⟩ = some v5
theorem Kl6.of {V : World} {p t : Nat} {v0 v1 v2 v3 v4 v5 : Value} (h : Box V p t #[v0, v1, v2, v3, v4, v5]) : V.cell? ⟨p, 0, none⟩ = some v0 ∧ V.cell? ⟨p, 1, none⟩ = some v1 ∧ V.cell? ⟨p, 2, none⟩ = some v2 ∧ V.cell? ⟨p, 3, none⟩ = some v3 ∧ V.cell? ⟨p, 4, none⟩ = some v4 ∧ V.cell? ⟨p, 5, none⟩ = some v5 := ⟨h.cell 0, h.cell 1, h.cell 2, h.cell 3, h.cell 4, h.cell 5⟩

/-- A store of six cells, cell by cell, each world by its name; what stands behind it. -/
theorem kgchain6 {W : World} {b t : Nat} {u0 u1 u2 u3 u4 u5 : Value} (h : Box W b t #[u0, u1, u2, u3, u4, u5]) (ht : 68 ≠ t) (v0 v1 v2 v3 v4 v5 : Value) : ∃ A0 A1 A2 A3 A4 A5, W.setCell ⟨b, 0, none⟩ v0 = A0 ∧ A0.setCell ⟨b, 1, none⟩ v1 = A1 ∧ A1.setCell ⟨b, 2, none⟩ v2 = A2 ∧ A2.setCell ⟨b, 3, none⟩ v3 = A3 ∧ A3.setCell ⟨b, 4, none⟩ v4 = A4 ∧ A4.setCell ⟨b, 5, none⟩ v5 = A5 ∧ (W.cell? ⟨b, 0, none⟩ = some u0 ∧ A0.cell? ⟨b, 1, none⟩ = some u1 ∧ A1.cell? ⟨b, 2, none⟩ = some u2 ∧ A2.cell? ⟨b, 3, none⟩ = some u3 ∧ A3.cell? ⟨b, 4, none⟩ = some u4 ∧ A4.cell? ⟨b, 5, none⟩ = some u5) ∧ (W.frozen? ⟨b, 0, none⟩ = false ∧ A0.frozen? ⟨b, 1, none⟩ = false ∧ A1.frozen? ⟨b, 2, none⟩ = false ∧ A2.frozen? ⟨b, 3, none⟩ = false ∧ A3.frozen? ⟨b, 4, none⟩ = false ∧ A4.frozen? ⟨b, 5, none⟩ = false) ∧
    Hid (Box A5 b t #[v0, v1, v2, v3, v4, v5] ∧ (∀ p t' vs, p ≠ b → Box W p t' vs → Box A5 p t' vs) ∧ (∀ base v n xs, W.ownsRow base 68 1 v n xs → A5.ownsRow base 68 1 v n xs) ∧ (∀ B x, B ≤ b → Below B x W → Below B x A5)) := by
  have h0 : Box _ b t #[v0, u1, u2, u3, u4, u5] := h.set 0 v0
  have h1 : Box _ b t #[v0, v1, u2, u3, u4, u5] := h0.set 1 v1
  have h2 : Box _ b t #[v0, v1, v2, u3, u4, u5] := h1.set 2 v2
  have h3 : Box _ b t #[v0, v1, v2, v3, u4, u5] := h2.set 3 v3
  have h4 : Box _ b t #[v0, v1, v2, v3, v4, u5] := h3.set 4 v4
  have h5 : Box _ b t #[v0, v1, v2, v3, v4, v5] := h4.set 5 v5
  exact ⟨_, _, _, _, _, _, rfl, rfl, rfl, rfl, rfl, rfl, ⟨h.cell 0, h0.cell 1, h1.cell 2, h2.cell 3, h3.cell 4, h4.cell 5⟩, ⟨h.free 0, h0.free 1, h1.free 2, h2.free 3, h3.free 4, h4.free 5⟩, h5, fun p t' vs hne g => ((((((g.other ⟨b, 0, none⟩ v0 hne).other ⟨b, 1, none⟩ v1 hne).other ⟨b, 2, none⟩ v2 hne).other ⟨b, 3, none⟩ v3 hne).other ⟨b, 4, none⟩ v4 hne).other ⟨b, 5, none⟩ v5 hne), fun base v n xs g => kown_put6 g h ht v0 v1 v2 v3 v4 v5, fun B x hB g => kbelow_put6 g hB v0 v1 v2 v3 v4 v5⟩

set_option maxHeartbeats 1600000 in
set_option maxRecDepth 100000 in
theorem klentGauss_any (n : Bool) (a : Option Addr) (ca : Nat) (xs : List Int) (b : Option Addr) (cb : Nat) (ys : List Int) (m : Bool) (c : Option Addr) (cc : Nat) (us : List Int) (d : Option Addr) (cd : Nat) (vs : List Int) (w : World) (sx : Sl w (.slice a xs.length ca) xs) (sy : Sl w (.slice b ys.length cb) ys) (su : Sl w (.slice c us.length cc) us) (sw : Sl w (.slice d vs.length cd) vs) (lx : xs.length ≤ 549755813888) (ly : ys.length ≤ 549755813888) (lu : us.length ≤ 549755813888) (lv : vs.length ≤ 549755813888) :
    Calls Tryz.prog 5 #[.agg #[.bool n, .slice a xs.length ca, .slice b ys.length cb, .bool m, .slice c us.length cc, .slice d vs.length cd]] w fun e w' => ∃ g1 c1 g2 c2 g3 c3 g4 c4, e = .returned (.agg #[.bool n, .slice (some ⟨g1, 0, none⟩) xs.length c1, .slice (some ⟨g2, 0, none⟩) ys.length c2, .bool m, .slice (some ⟨g3, 0, none⟩) us.length c3, .slice (some ⟨g4, 0, none⟩) vs.length c4]) ∧ (w'.ownsRow w.heap.size 68 1 (.slice (some ⟨g1, 0, none⟩) (xs.length + 3) c1) (xs.length + 3) ((xs ++ marks 3).map (Value.int .u32)) ∧ w'.ownsRow w.heap.size 68 1 (.slice (some ⟨g2, 0, none⟩) (ys.length + 3) c2) (ys.length + 3) ((ys ++ marks 3).map (Value.int .u32)) ∧ w'.ownsRow w.heap.size 68 1 (.slice (some ⟨g3, 0, none⟩) (us.length + 3) c3) (us.length + 3) ((us ++ marks 3).map (Value.int .u32)) ∧ w'.ownsRow w.heap.size 68 1 (.slice (some ⟨g4, 0, none⟩) (vs.length + 3) c4) (vs.length + 3) ((vs ++ marks 3).map (Value.int .u32))) ∧ (g1 < g2 ∧ g2 < g3 ∧ g3 < g4) ∧ Below w.heap.size w w' := by
  obtain ⟨X, hX⟩ : ∃ X, (w.alloc (.cells #[.bool n, .slice a xs.length ca, .slice b ys.length cb, .bool m, .slice c us.length cc, .slice d vs.length cd] 26)).alloc (.cells #[.bool false, .slice none 0 0, .slice none 0 0, .bool false, .slice none 0 0, .slice none 0 0] 26) = X := ⟨_, rfl⟩
  have b1 : Below w.heap.size w X := by rw [← hX]; exact bt (alloc_later _ _) (alloc_later _ _)
  have HA : Hid (Box X w.heap.size 26 #[.bool n, .slice a xs.length ca, .slice b ys.length cb, .bool m, .slice c us.length cc, .slice d vs.length cd]) := by rw [← hX]; exact (Box.made w _ _).later (alloc_later _ _) (Box.made w _ _).lt
  have HZ : Hid (Box X (w.heap.size + 1) 26 #[.bool false, .slice none 0 0, .slice none 0 0, .bool false, .slice none 0 0, .slice none 0 0]) := by
    have h := Box.made (w.alloc (.cells #[.bool n, .slice a xs.length ca, .slice b ys.length cb, .bool m, .slice c us.length cc, .slice d vs.length cd] 26)) 26 #[.bool false, .slice none 0 0, .slice none 0 0, .bool false, .slice none 0 0, .slice none 0 0]
    rw [show (w.alloc (.cells #[.bool n, .slice a xs.length ca, .slice b ys.length cb, .bool m, .slice c us.length cc, .slice d vs.length cd] 26)).heap.size = w.heap.size + 1 by simp, hX] at h
    exact h
  have HK : Hid (∀ V, Below X.heap.size X V → V.cell? ⟨w.heap.size, 0, none⟩ = some (.bool n) ∧ V.cell? ⟨w.heap.size, 1, none⟩ = some (.slice a xs.length ca) ∧ V.cell? ⟨w.heap.size, 2, none⟩ = some (.slice b ys.length cb) ∧ V.cell? ⟨w.heap.size, 3, none⟩ = some (.bool m) ∧ V.cell? ⟨w.heap.size, 4, none⟩ = some (.slice c us.length cc) ∧ V.cell? ⟨w.heap.size, 5, none⟩ = some (.slice d vs.length cd)) := fun V hv => Kl6.of (HA.out.later hv HA.out.lt)
  have HL1 : Hid (∀ V, Below X.heap.size X V → Calls Tryz.prog 26 #[.agg #[.bool n, .slice a xs.length ca, .slice b ys.length cb]] V fun e V' => ∃ g1 c1 g2 c2, e = .returned (.agg #[.bool n, .slice (some ⟨g1, 0, none⟩) xs.length c1, .slice (some ⟨g2, 0, none⟩) ys.length c2]) ∧ Hid (V'.ownsRow X.heap.size 68 1 (.slice (some ⟨g1, 0, none⟩) (xs.length + 3) c1) (xs.length + 3) ((xs ++ marks 3).map (Value.int .u32)) ∧ V'.ownsRow X.heap.size 68 1 (.slice (some ⟨g2, 0, none⟩) (ys.length + 3) c2) (ys.length + 3) ((ys ++ marks 3).map (Value.int .u32)) ∧ g1 < g2 ∧ g2 < V'.heap.size ∧ Below X.heap.size X V') ∧ (V'.cell? ⟨w.heap.size, 0, none⟩ = some (.bool n) ∧ V'.cell? ⟨w.heap.size, 1, none⟩ = some (.slice a xs.length ca) ∧ V'.cell? ⟨w.heap.size, 2, none⟩ = some (.slice b ys.length cb) ∧ V'.cell? ⟨w.heap.size, 3, none⟩ = some (.bool m) ∧ V'.cell? ⟨w.heap.size, 4, none⟩ = some (.slice c us.length cc) ∧ V'.cell? ⟨w.heap.size, 5, none⟩ = some (.slice d vs.length cd))) := fun V hv => by
    refine Calls.mono (lentRatio_any n a ca xs b cb ys V ((sx.later b1).later hv) ((sy.later b1).later hv) lx ly) ?_
    rintro e V' ⟨g1, c1, g2, c2, rfl, o1, o2, hg, hb⟩
    exact ⟨g1, c1, g2, c2, rfl, ⟨owns_base o1 hv.size, owns_base o2 hv.size, hg, (o2.lt g2 rfl).2, bt hv hb⟩, HK.out _ (bt hv hb)⟩
  have HL2 : Hid (∀ V, Below X.heap.size X V → Calls Tryz.prog 26 #[.agg #[.bool m, .slice c us.length cc, .slice d vs.length cd]] V fun e V' => ∃ g3 c3 g4 c4, e = .returned (.agg #[.bool m, .slice (some ⟨g3, 0, none⟩) us.length c3, .slice (some ⟨g4, 0, none⟩) vs.length c4]) ∧ Hid (V'.ownsRow X.heap.size 68 1 (.slice (some ⟨g3, 0, none⟩) (us.length + 3) c3) (us.length + 3) ((us ++ marks 3).map (Value.int .u32)) ∧ V'.ownsRow X.heap.size 68 1 (.slice (some ⟨g4, 0, none⟩) (vs.length + 3) c4) (vs.length + 3) ((vs ++ marks 3).map (Value.int .u32)) ∧ g3 < g4 ∧ V.heap.size ≤ g3 ∧ Below V.heap.size V V' ∧ Below X.heap.size X V') ∧ (V'.cell? ⟨w.heap.size, 0, none⟩ = some (.bool n) ∧ V'.cell? ⟨w.heap.size, 1, none⟩ = some (.slice a xs.length ca) ∧ V'.cell? ⟨w.heap.size, 2, none⟩ = some (.slice b ys.length cb) ∧ V'.cell? ⟨w.heap.size, 3, none⟩ = some (.bool m) ∧ V'.cell? ⟨w.heap.size, 4, none⟩ = some (.slice c us.length cc) ∧ V'.cell? ⟨w.heap.size, 5, none⟩ = some (.slice d vs.length cd)) ∧ Hid (Box V' (w.heap.size + 1) 26 #[.bool false, .slice none 0 0, .slice none 0 0, .bool false, .slice none 0 0, .slice none 0 0] ∧ Box V' w.heap.size 26 #[.bool n, .slice a xs.length ca, .slice b ys.length cb, .bool m, .slice c us.length cc, .slice d vs.length cd])) := fun V hv => by
    refine Calls.mono (lentRatio_any m c cc us d cd vs V ((su.later b1).later hv) ((sw.later b1).later hv) lu lv) ?_
    rintro e V' ⟨g1, c1, g2, c2, rfl, o1, o2, hg, hb⟩
    have hz := HZ.out.later (bt hv hb) HZ.out.lt
    exact ⟨g1, c1, g2, c2, rfl, ⟨owns_base o1 hv.size, owns_base o2 hv.size, hg, (o1.lt g1 rfl).1, hb, bt hv hb⟩, HK.out _ (bt hv hb), hz, HA.out.later (bt hv hb) HA.out.lt⟩
  have HB1 := hid b1
  obtain ⟨e0, e1, e2, e3, e4, e5⟩ := HK.out X (Below.refl _ _)
  have hs0 := HK.out _ (Below.refl _ X).drew
  have hd0 := hid (Below.refl X.heap.size X).drew
  clear sx sy su sw b1 lx ly lu lv
  go_enter Tryz.func5, Tryz.ntmps5
  go_wp2_with fail
  clear hX
  go_region_held3 (fun V : World => V.cell? ⟨w.heap.size, 0, none⟩ = some (.bool n) ∧ V.cell? ⟨w.heap.size, 1, none⟩ = some (.slice a xs.length ca) ∧ V.cell? ⟨w.heap.size, 2, none⟩ = some (.slice b ys.length cb) ∧ V.cell? ⟨w.heap.size, 3, none⟩ = some (.bool m) ∧ V.cell? ⟨w.heap.size, 4, none⟩ = some (.slice c us.length cc) ∧ V.cell? ⟨w.heap.size, 5, none⟩ = some (.slice d vs.length cd)) (first | exact hs3 | exact hs2 | exact hs1 | exact hs0)
    (first
      | (go_at_call 26; with_reducible refine Calls.mono (HL2.out _ HE1.out.2.2.2.2) ?_; rintro e w2 ⟨g3, c3, g4, c4, rfl, HE2, hs2, HBZ⟩; obtain ⟨A0, A1, A2, A3, A4, A5, k0, k1, k2, k3, k4, k5, ⟨r0, r1, r2, r3, r4, r5⟩, ⟨f0, f1, f2, f3, f4, f5⟩, HA5⟩ := kgchain6 HBZ.out.1 (by decide) (.bool n) (.slice (some ⟨g1, 0, none⟩) xs.length c1) (.slice (some ⟨g2, 0, none⟩) ys.length c2) (.bool m) (.slice (some ⟨g3, 0, none⟩) us.length c3) (.slice (some ⟨g4, 0, none⟩) vs.length c4); have hs3 := Kl6.of (HA5.out.2.1 _ _ _ (by omega) HBZ.out.2))
      | (go_at_call 26; with_reducible refine Calls.mono (HL1.out _ hd0.out) ?_; rintro e w1 ⟨g1, c1, g2, c2, rfl, HE1, hs1⟩))
  all_goals
    obtain ⟨p0, p1, p2, p3, p4, p5⟩ := Kl6.of HA5.out.1
    have HG : Hid (g1 < g2 ∧ g2 < g3 ∧ g3 < g4) := by
      have q1 := HE1.out.2.2.1
      have q2 := HE1.out.2.2.2.1
      have q3 := HE2.out.2.2.1
      have q4 := HE2.out.2.2.2.1
      exact ⟨q1, by omega, q3⟩
    have HO : Hid (_ ∧ _ ∧ _ ∧ _) := And.intro (HA5.out.2.2.1 _ _ _ _ (owns_base (owns_later HE1.out.1 HE2.out.2.2.2.2.1) HB1.out.size)) (And.intro (HA5.out.2.2.1 _ _ _ _ (owns_base (owns_later HE1.out.2.1 HE2.out.2.2.2.2.1) HB1.out.size)) (And.intro (HA5.out.2.2.1 _ _ _ _ (owns_base HE2.out.1 HB1.out.size)) (HA5.out.2.2.1 _ _ _ _ (owns_base HE2.out.2.1 HB1.out.size))))
    have HBN := hid (HA5.out.2.2.2 _ _ (by omega) (bt HB1.out HE2.out.2.2.2.2.2))
    clear HK HL1 HL2 HE1 HE2 HZ HB1 hs0 hs1 hs2 hs3 hd0 HBZ HA5 r0 r1 r2 r3 r4 r5 f0 f1 f2 f3 f4 f5 k0 k1 k2 k3 k4 k5
    go_wp2_with fail
    refine bodyPost_ret (v := .agg #[.bool n, .slice (some ⟨g1, 0, none⟩) xs.length c1, .slice (some ⟨g2, 0, none⟩) ys.length c2, .bool m, .slice (some ⟨g3, 0, none⟩) us.length c3, .slice (some ⟨g4, 0, none⟩) vs.length c4]) (by simp [results, Tryz.results5, go_sem, p0, p1, p2, p3, p4, p5]) rfl ?_
    exact ⟨g1, c1, g2, c2, g3, c3, g4, c4, rfl, HO.out, HG.out, HBN.out⟩
set_option maxHeartbeats 1600000 in
set_option maxRecDepth 100000 in
theorem kkeptGauss_any (n : Bool) (a : Option Addr) (ca : Nat) (xs : List Int) (b : Option Addr) (cb : Nat) (ys : List Int) (m : Bool) (c : Option Addr) (cc : Nat) (us : List Int) (d : Option Addr) (cd : Nat) (vs : List Int) (g1 c1 g2 c2 g3 c3 g4 c4 base : Nat) (w : World) (sx : Sl w (.slice a xs.length ca) xs) (sy : Sl w (.slice b ys.length cb) ys) (su : Sl w (.slice c us.length cc) us) (sw : Sl w (.slice d vs.length cd) vs) (lx : xs.length ≤ 274877906944) (ly : ys.length ≤ 274877906944) (lu : us.length ≤ 274877906944) (lv : vs.length ≤ 274877906944)
    (o1 : w.ownsRow base 68 1 (.slice (some ⟨g1, 0, none⟩) (xs.length + 3) c1) (xs.length + 3) ((xs ++ marks 3).map (Value.int .u32))) (o2 : w.ownsRow base 68 1 (.slice (some ⟨g2, 0, none⟩) (ys.length + 3) c2) (ys.length + 3) ((ys ++ marks 3).map (Value.int .u32))) (o3 : w.ownsRow base 68 1 (.slice (some ⟨g3, 0, none⟩) (us.length + 3) c3) (us.length + 3) ((us ++ marks 3).map (Value.int .u32))) (o4 : w.ownsRow base 68 1 (.slice (some ⟨g4, 0, none⟩) (vs.length + 3) c4) (vs.length + 3) ((vs ++ marks 3).map (Value.int .u32))) :
    Calls Tryz.prog 22 #[.agg #[.bool n, .slice (some ⟨g1, 0, none⟩) xs.length c1, .slice (some ⟨g2, 0, none⟩) ys.length c2, .bool m, .slice (some ⟨g3, 0, none⟩) us.length c3, .slice (some ⟨g4, 0, none⟩) vs.length c4], .agg #[.bool n, .slice a xs.length ca, .slice b ys.length cb, .bool m, .slice c us.length cc, .slice d vs.length cd]] w fun e w' => e = .returned (.bool true) ∧ Below w.heap.size w w' := by
  obtain ⟨X, hX⟩ : ∃ X, (w.alloc (.cells #[.bool n, .slice (some ⟨g1, 0, none⟩) xs.length c1, .slice (some ⟨g2, 0, none⟩) ys.length c2, .bool m, .slice (some ⟨g3, 0, none⟩) us.length c3, .slice (some ⟨g4, 0, none⟩) vs.length c4] 26)).alloc (.cells #[.bool n, .slice a xs.length ca, .slice b ys.length cb, .bool m, .slice c us.length cc, .slice d vs.length cd] 26) = X := ⟨_, rfl⟩
  have b1 : Below w.heap.size w X := by rw [← hX]; exact bt (alloc_later _ _) (alloc_later _ _)
  have HA : Hid (Box X w.heap.size 26 #[.bool n, .slice (some ⟨g1, 0, none⟩) xs.length c1, .slice (some ⟨g2, 0, none⟩) ys.length c2, .bool m, .slice (some ⟨g3, 0, none⟩) us.length c3, .slice (some ⟨g4, 0, none⟩) vs.length c4]) := by rw [← hX]; exact (Box.made w _ _).later (alloc_later _ _) (Box.made w _ _).lt
  have HZ : Hid (Box X (w.heap.size + 1) 26 #[.bool n, .slice a xs.length ca, .slice b ys.length cb, .bool m, .slice c us.length cc, .slice d vs.length cd]) := by
    have h := Box.made (w.alloc (.cells #[.bool n, .slice (some ⟨g1, 0, none⟩) xs.length c1, .slice (some ⟨g2, 0, none⟩) ys.length c2, .bool m, .slice (some ⟨g3, 0, none⟩) us.length c3, .slice (some ⟨g4, 0, none⟩) vs.length c4] 26)) 26 #[.bool n, .slice a xs.length ca, .slice b ys.length cb, .bool m, .slice c us.length cc, .slice d vs.length cd]
    rw [show (w.alloc (.cells #[.bool n, .slice (some ⟨g1, 0, none⟩) xs.length c1, .slice (some ⟨g2, 0, none⟩) ys.length c2, .bool m, .slice (some ⟨g3, 0, none⟩) us.length c3, .slice (some ⟨g4, 0, none⟩) vs.length c4] 26)).heap.size = w.heap.size + 1 by simp, hX] at h
    exact h
  have HK : Hid (∀ V, Below X.heap.size X V → (V.cell? ⟨w.heap.size, 0, none⟩ = some (.bool n) ∧ V.cell? ⟨w.heap.size, 1, none⟩ = some (.slice (some ⟨g1, 0, none⟩) xs.length c1) ∧ V.cell? ⟨w.heap.size, 2, none⟩ = some (.slice (some ⟨g2, 0, none⟩) ys.length c2) ∧ V.cell? ⟨w.heap.size, 3, none⟩ = some (.bool m) ∧ V.cell? ⟨w.heap.size, 4, none⟩ = some (.slice (some ⟨g3, 0, none⟩) us.length c3) ∧ V.cell? ⟨w.heap.size, 5, none⟩ = some (.slice (some ⟨g4, 0, none⟩) vs.length c4)) ∧ (V.cell? ⟨w.heap.size + 1, 0, none⟩ = some (.bool n) ∧ V.cell? ⟨w.heap.size + 1, 1, none⟩ = some (.slice a xs.length ca) ∧ V.cell? ⟨w.heap.size + 1, 2, none⟩ = some (.slice b ys.length cb) ∧ V.cell? ⟨w.heap.size + 1, 3, none⟩ = some (.bool m) ∧ V.cell? ⟨w.heap.size + 1, 4, none⟩ = some (.slice c us.length cc) ∧ V.cell? ⟨w.heap.size + 1, 5, none⟩ = some (.slice d vs.length cd))) := fun V hv => ⟨Kl6.of (HA.out.later hv HA.out.lt), Kl6.of (HZ.out.later hv HZ.out.lt)⟩
  have HL1 : Hid (∀ V, Below X.heap.size X V → Calls Tryz.prog 44 #[.agg #[.bool n, .slice (some ⟨g1, 0, none⟩) xs.length c1, .slice (some ⟨g2, 0, none⟩) ys.length c2], .agg #[.bool n, .slice a xs.length ca, .slice b ys.length cb]] V fun e V' => e = .returned (.bool true) ∧ ((V'.cell? ⟨w.heap.size, 0, none⟩ = some (.bool n) ∧ V'.cell? ⟨w.heap.size, 1, none⟩ = some (.slice (some ⟨g1, 0, none⟩) xs.length c1) ∧ V'.cell? ⟨w.heap.size, 2, none⟩ = some (.slice (some ⟨g2, 0, none⟩) ys.length c2) ∧ V'.cell? ⟨w.heap.size, 3, none⟩ = some (.bool m) ∧ V'.cell? ⟨w.heap.size, 4, none⟩ = some (.slice (some ⟨g3, 0, none⟩) us.length c3) ∧ V'.cell? ⟨w.heap.size, 5, none⟩ = some (.slice (some ⟨g4, 0, none⟩) vs.length c4)) ∧ (V'.cell? ⟨w.heap.size + 1, 0, none⟩ = some (.bool n) ∧ V'.cell? ⟨w.heap.size + 1, 1, none⟩ = some (.slice a xs.length ca) ∧ V'.cell? ⟨w.heap.size + 1, 2, none⟩ = some (.slice b ys.length cb) ∧ V'.cell? ⟨w.heap.size + 1, 3, none⟩ = some (.bool m) ∧ V'.cell? ⟨w.heap.size + 1, 4, none⟩ = some (.slice c us.length cc) ∧ V'.cell? ⟨w.heap.size + 1, 5, none⟩ = some (.slice d vs.length cd))) ∧ Below X.heap.size X V') := fun V hv => by
    refine Calls.mono (keptRatio_any n a ca xs b cb ys g1 c1 g2 c2 base V ((sx.later b1).later hv) ((sy.later b1).later hv) lx ly (owns_later (owns_later o1 b1) hv) (owns_later (owns_later o2 b1) hv)) ?_
    rintro e V' ⟨rfl, hb⟩
    exact ⟨rfl, HK.out _ (bt hv hb), bt hv hb⟩
  have HL2 : Hid (∀ V, Below X.heap.size X V → Calls Tryz.prog 44 #[.agg #[.bool m, .slice (some ⟨g3, 0, none⟩) us.length c3, .slice (some ⟨g4, 0, none⟩) vs.length c4], .agg #[.bool m, .slice c us.length cc, .slice d vs.length cd]] V fun e V' => e = .returned (.bool true) ∧ ((V'.cell? ⟨w.heap.size, 0, none⟩ = some (.bool n) ∧ V'.cell? ⟨w.heap.size, 1, none⟩ = some (.slice (some ⟨g1, 0, none⟩) xs.length c1) ∧ V'.cell? ⟨w.heap.size, 2, none⟩ = some (.slice (some ⟨g2, 0, none⟩) ys.length c2) ∧ V'.cell? ⟨w.heap.size, 3, none⟩ = some (.bool m) ∧ V'.cell? ⟨w.heap.size, 4, none⟩ = some (.slice (some ⟨g3, 0, none⟩) us.length c3) ∧ V'.cell? ⟨w.heap.size, 5, none⟩ = some (.slice (some ⟨g4, 0, none⟩) vs.length c4)) ∧ (V'.cell? ⟨w.heap.size + 1, 0, none⟩ = some (.bool n) ∧ V'.cell? ⟨w.heap.size + 1, 1, none⟩ = some (.slice a xs.length ca) ∧ V'.cell? ⟨w.heap.size + 1, 2, none⟩ = some (.slice b ys.length cb) ∧ V'.cell? ⟨w.heap.size + 1, 3, none⟩ = some (.bool m) ∧ V'.cell? ⟨w.heap.size + 1, 4, none⟩ = some (.slice c us.length cc) ∧ V'.cell? ⟨w.heap.size + 1, 5, none⟩ = some (.slice d vs.length cd))) ∧ Below X.heap.size X V') := fun V hv => by
    refine Calls.mono (keptRatio_any m c cc us d cd vs g3 c3 g4 c4 base V ((su.later b1).later hv) ((sw.later b1).later hv) lu lv (owns_later (owns_later o3 b1) hv) (owns_later (owns_later o4 b1) hv)) ?_
    rintro e V' ⟨rfl, hb⟩
    exact ⟨rfl, HK.out _ (bt hv hb), bt hv hb⟩
  have HB1 := hid b1
  obtain ⟨⟨e0, e1, e2, e3, e4, e5⟩, ⟨i0, i1, i2, i3, i4, i5⟩⟩ := HK.out X (Below.refl _ _)
  have hs0 := HK.out _ (Below.refl _ X).drew
  have hd0 := hid (Below.refl X.heap.size X).drew
  clear sx sy su sw b1 lx ly lu lv o1 o2 o3 o4 HA HZ
  go_enter Tryz.func22, Tryz.ntmps22
  go_wp2_with fail
  clear hX
  refine Calls.mono (HL1.out X (Below.refl _ _)) ?_
  rintro e w1 ⟨rfl, hs1, hb1⟩
  have HL3 := hid (HL2.out w1 hb1)
  clear e0 e1 e2 e3 e4 e5 i0 i1 i2 i3 i4 i5 hs0 hd0 HL1 HL2 hb1
  obtain ⟨⟨e0, e1, e2, e3, e4, e5⟩, ⟨i0, i1, i2, i3, i4, i5⟩⟩ := hs1
  go_wp2_with fail
  refine Calls.mono HL3.out ?_
  rintro e w2 ⟨rfl, hs2, hb2⟩
  have HBN := hid (bt HB1.out hb2)
  clear HL3 hs2 hb2 e0 e1 e2 e3 e4 e5 i0 i1 i2 i3 i4 i5
  go_wp2_with fail
  go_ret
  exact ⟨rfl, HBN.out⟩
set_option maxHeartbeats 1600000 in
set_option maxRecDepth 100000 in
theorem ksameGauss_eq (n : Bool) (a : Option Addr) (ca : Nat) (xs : List Int) (b : Option Addr) (cb : Nat) (ys : List Int) (m : Bool) (c : Option Addr) (cc : Nat) (us : List Int) (d : Option Addr) (cd : Nat) (vs : List Int) (a2 : Option Addr) (ca2 : Nat) (b2 : Option Addr) (cb2 : Nat) (c2 : Option Addr) (cc2 : Nat) (d2 : Option Addr) (cd2 : Nat) (w : World) (sx : Sl w (.slice a xs.length ca) xs) (sy : Sl w (.slice b ys.length cb) ys) (su : Sl w (.slice c us.length cc) us) (sw : Sl w (.slice d vs.length cd) vs) (sx2 : Sl w (.slice a2 xs.length ca2) xs) (sy2 : Sl w (.slice b2 ys.length cb2) ys) (su2 : Sl w (.slice c2 us.length cc2) us) (sw2 : Sl w (.slice d2 vs.length cd2) vs) (lx : xs.length ≤ 281474976710656) (ly : ys.length ≤ 281474976710656) (lu : us.length ≤ 281474976710656) (lv : vs.length ≤ 281474976710656) :
    Calls Tryz.prog 42 #[.agg #[.bool n, .slice a xs.length ca, .slice b ys.length cb, .bool m, .slice c us.length cc, .slice d vs.length cd], .agg #[.bool n, .slice a2 xs.length ca2, .slice b2 ys.length cb2, .bool m, .slice c2 us.length cc2, .slice d2 vs.length cd2]] w fun e w' => e = .returned (.bool true) ∧ Below w.heap.size w w' := by
  obtain ⟨X, hX⟩ : ∃ X, (w.alloc (.cells #[.bool n, .slice a xs.length ca, .slice b ys.length cb, .bool m, .slice c us.length cc, .slice d vs.length cd] 26)).alloc (.cells #[.bool n, .slice a2 xs.length ca2, .slice b2 ys.length cb2, .bool m, .slice c2 us.length cc2, .slice d2 vs.length cd2] 26) = X := ⟨_, rfl⟩
  have b1 : Below w.heap.size w X := by rw [← hX]; exact bt (alloc_later _ _) (alloc_later _ _)
  have HA : Hid (Box X w.heap.size 26 #[.bool n, .slice a xs.length ca, .slice b ys.length cb, .bool m, .slice c us.length cc, .slice d vs.length cd]) := by rw [← hX]; exact (Box.made w _ _).later (alloc_later _ _) (Box.made w _ _).lt
  have HZ : Hid (Box X (w.heap.size + 1) 26 #[.bool n, .slice a2 xs.length ca2, .slice b2 ys.length cb2, .bool m, .slice c2 us.length cc2, .slice d2 vs.length cd2]) := by
    have h := Box.made (w.alloc (.cells #[.bool n, .slice a xs.length ca, .slice b ys.length cb, .bool m, .slice c us.length cc, .slice d vs.length cd] 26)) 26 #[.bool n, .slice a2 xs.length ca2, .slice b2 ys.length cb2, .bool m, .slice c2 us.length cc2, .slice d2 vs.length cd2]
    rw [show (w.alloc (.cells #[.bool n, .slice a xs.length ca, .slice b ys.length cb, .bool m, .slice c us.length cc, .slice d vs.length cd] 26)).heap.size = w.heap.size + 1 by simp, hX] at h
    exact h
  have HK : Hid (∀ V, Below X.heap.size X V → (V.cell? ⟨w.heap.size, 0, none⟩ = some (.bool n) ∧ V.cell? ⟨w.heap.size, 1, none⟩ = some (.slice a xs.length ca) ∧ V.cell? ⟨w.heap.size, 2, none⟩ = some (.slice b ys.length cb) ∧ V.cell? ⟨w.heap.size, 3, none⟩ = some (.bool m) ∧ V.cell? ⟨w.heap.size, 4, none⟩ = some (.slice c us.length cc) ∧ V.cell? ⟨w.heap.size, 5, none⟩ = some (.slice d vs.length cd)) ∧ (V.cell? ⟨w.heap.size + 1, 0, none⟩ = some (.bool n) ∧ V.cell? ⟨w.heap.size + 1, 1, none⟩ = some (.slice a2 xs.length ca2) ∧ V.cell? ⟨w.heap.size + 1, 2, none⟩ = some (.slice b2 ys.length cb2) ∧ V.cell? ⟨w.heap.size + 1, 3, none⟩ = some (.bool m) ∧ V.cell? ⟨w.heap.size + 1, 4, none⟩ = some (.slice c2 us.length cc2) ∧ V.cell? ⟨w.heap.size + 1, 5, none⟩ = some (.slice d2 vs.length cd2))) := fun V hv => ⟨Kl6.of (HA.out.later hv HA.out.lt), Kl6.of (HZ.out.later hv HZ.out.lt)⟩
  have HL1 := hid (sameRatio_eq n _ _ _ _ xs ys X (sx.later b1) (sy.later b1) (sx2.later b1) (sy2.later b1) lx ly)
  have HL2 := hid (fun V (hv : Below X.heap.size X V) => sameRatio_eq m _ _ _ _ us vs V ((su.later b1).later hv) ((sw.later b1).later hv) ((su2.later b1).later hv) ((sw2.later b1).later hv) lu lv)
  have HB1 := hid b1
  obtain ⟨⟨e0, e1, e2, e3, e4, e5⟩, ⟨i0, i1, i2, i3, i4, i5⟩⟩ := HK.out X (Below.refl _ _)
  clear sx sy su sw sx2 sy2 su2 sw2 b1 lx ly lu lv HA HZ
  go_enter Tryz.func42, Tryz.ntmps42
  go_wp2_with fail
  clear hX
  refine Calls.mono HL1.out ?_
  rintro e w1 ⟨rfl, hb1⟩
  have HL3 := hid (HL2.out w1 hb1)
  have HB2 := hid (bt HB1.out hb1)
  clear e0 e1 e2 e3 e4 e5 i0 i1 i2 i3 i4 i5 HL1 HL2
  obtain ⟨⟨e0, e1, e2, e3, e4, e5⟩, ⟨i0, i1, i2, i3, i4, i5⟩⟩ := HK.out w1 hb1
  clear hb1
  go_wp2_with fail
  refine Calls.mono HL3.out ?_
  rintro e w2 ⟨rfl, hb2⟩
  have HBN := hid (bt HB2.out hb2)
  clear HL3 hb2 e0 e1 e2 e3 e4 e5 i0 i1 i2 i3 i4 i5
  go_wp2_with fail
  go_ret
  exact ⟨rfl, HBN.out⟩

theorem klentf {W : World} {base g cap : Nat} {xs : List Int} (ho : W.ownsRow base 68 1 (.slice (some ⟨g, 0, none⟩) (xs.length + 3) cap) (xs.length + 3) ((xs ++ marks 3).map (Value.int .u32))) : W.ownsRow base 68 1 (.slice (some ⟨g, 0, none⟩) xs.length cap) xs.length (xs.map (Value.int .u32)) := by
  rw [List.map_append] at ho
  exact owns_front (k := 3) ho (by simp)
end Go.Proofs.YtopogjfmocpeaaaGreat

/- Complex fractions: what is told with all rows apart; gauss.Conj; the document's Check: apart from the texts of numbers. (tools/mkgp0.py) -/
namespace Go.Proofs.YtopogjfmocpeaaaGreat
open Go.RowKit
set_option linter.unusedVariables false

theorem kp_self {n : Bool} {xs ys : List Int} (wx : Wd xs) (wy : Wd ys) (h : rchk n xs ys = 0) : RTells 0 (rq n xs ys) n xs ys 0 := by
  obtain ⟨lx, ly, tx, ty, y0, s0, g⟩ := rchk_ok h
  have hd := val_pos' wy ty y0
  obtain ⟨m, us, vs, c, e1, e2, e3, r⟩ := rtells_of (n := n) wx tx wy ty hd g
  have e4 := e1 none 0 none 0
  unfold rtoldV at e4
  rw [if_neg (by omega)] at e4
  have hc : c = 0 := by
    simp at e4
    exact e4.2.symm
  subst hc
  have hm : (n && decide (0 < xs.length)) = n := by
    rcases s0 with rfl | s0
    · rfl
    · rw [decide_eq_true s0, Bool.and_true]
  rw [hm] at e4
  have hn : n = m := by simp at e4; exact e4
  subst hn
  rw [if_pos rfl] at e2 e3
  subst e2 e3
  exact r
/-- A complex fraction told in new memory, all four rows apart. -/
def KToldC (w : World) (E : Int) (L : Prop) (q1 q2 : Rat) (x : Ending) (w' : World) : Prop :=
  ∃ n a ca xs b cb ys m c cc us d cd vs code, x = .returned (.tuple #[.agg #[.bool n, .slice a (List.length xs) ca, .slice b (List.length ys) cb, .bool m, .slice c (List.length us) cc, .slice d (List.length vs) cd], .int .i64 code]) ∧ (w'.ownsRow w.heap.size 68 1 (.slice a xs.length ca) xs.length (xs.map (Value.int .u32)) ∧ w'.ownsRow w.heap.size 68 1 (.slice b ys.length cb) ys.length (ys.map (Value.int .u32)) ∧ w'.ownsRow w.heap.size 68 1 (.slice c us.length cc) us.length (us.map (Value.int .u32)) ∧ w'.ownsRow w.heap.size 68 1 (.slice d vs.length cd) vs.length (vs.map (Value.int .u32))) ∧ GTells E L q1 q2 n xs ys m us vs code ∧ Below w.heap.size w w' ∧ ∃ W1, Cut w (.slice a xs.length ca) (.slice b ys.length cb) W1 ∧ Cut W1 (.slice c us.length cc) (.slice d vs.length cd) w'
theorem KToldC.told {w w' : World} {E : Int} {L : Prop} {q1 q2 : Rat} {x : Ending} (h : KToldC w E L q1 q2 x w') : GTold w E L q1 q2 x w' := by
  obtain ⟨n, a, ca, xs, b, cb, ys, m, c, cc, us, d, cd, vs, code, e, o, t, hb, _⟩ := h
  exact ⟨n, a, ca, xs, b, cb, ys, m, c, cc, us, d, cd, vs, code, e, o, t, hb⟩
theorem kcut_nil (w w' : World) (h : w.heap.size ≤ w'.heap.size) : Cut w (.slice none 0 0) (.slice none 0 0) w' := ⟨w.heap.size, Nat.le_refl _, h, fun g hg => by simp [Value.ownBlock] at hg, fun g hg => by simp [Value.ownBlock] at hg⟩
set_option maxHeartbeats 800000 in
set_option maxRecDepth 100000 in
theorem kpcheck_any (n : Bool) (a : Option Addr) (ca : Nat) (xs : List Int) (b : Option Addr) (cb : Nat) (ys : List Int) (m : Bool) (c : Option Addr) (cc : Nat) (us : List Int) (d : Option Addr) (cd : Nat) (vs : List Int) (w : World) (sx : Sl w (.slice a xs.length ca) xs) (sy : Sl w (.slice b ys.length cb) ys) (su : Sl w (.slice c us.length cc) us) (sw : Sl w (.slice d vs.length cd) vs) (lx : xs.length ≤ 281474976710656) (ly : ys.length ≤ 281474976710656) (lu : us.length ≤ 281474976710656) (lv : vs.length ≤ 281474976710656) :
    Calls Tryz.prog 7 #[.agg #[.bool n, .slice a xs.length ca, .slice b ys.length cb, .bool m, .slice c us.length cc, .slice d vs.length cd]] w fun e w' => e = .returned (.int .i64 (gchk n xs ys m us vs)) ∧ Below w.heap.size w w' := by
  obtain ⟨X, hX⟩ : ∃ X, w.alloc (.cells #[.bool n, .slice a xs.length ca, .slice b ys.length cb, .bool m, .slice c us.length cc, .slice d vs.length cd] 26) = X := ⟨_, rfl⟩
  have b1 : Below w.heap.size w X := by rw [← hX]; exact alloc_later _ _
  have HP : Hid (Box X w.heap.size 26 #[.bool n, .slice a xs.length ca, .slice b ys.length cb, .bool m, .slice c us.length cc, .slice d vs.length cd]) := by rw [← hX]; exact Box.made w _ _
  have HC1 := hid (check3_any n a ca xs b cb ys X (sx.later b1) (sy.later b1) lx ly)
  have HC2 : Hid (∀ V, Below X.heap.size X V → Calls Tryz.prog 28 #[.agg #[.bool m, .slice c us.length cc, .slice d vs.length cd]] V fun e w' => e = .returned (.int .i64 (rchk m us vs)) ∧ Below V.heap.size V w') := fun V hv => check3_any m c cc us d cd vs V ((su.later b1).later hv) ((sw.later b1).later hv) lu lv
  obtain ⟨r1, h1⟩ : ∃ r, rchk n xs ys = r := ⟨_, rfl⟩
  obtain ⟨r2, h2⟩ : ∃ r, rchk m us vs = r := ⟨_, rfl⟩
  obtain ⟨r3, h3⟩ : ∃ r, gchk n xs ys m us vs = r := ⟨_, rfl⟩
  have HE : Hid (r3 = if r1 = 0 then r2 else r1) := by show _ = _; rw [← h3, ← h1, ← h2]; rfl
  rw [h1] at HC1
  rw [h2] at HC2
  rw [h3]
  have HB1 := hid b1
  have e0 : X.cell? ⟨w.heap.size, 0, none⟩ = some (.bool n) := HP.out.cell 0
  have e1 : X.cell? ⟨w.heap.size, 1, none⟩ = some (.slice a xs.length ca) := HP.out.cell 1
  have e2 : X.cell? ⟨w.heap.size, 2, none⟩ = some (.slice b ys.length cb) := HP.out.cell 2
  clear sx sy su sw b1 h1 h2 h3 lx ly lu lv
  by_cases hz : r1 = 0
  · have h3' : r3 = r2 := by rw [HE.out, if_pos hz]
    rw [h3']
    subst hz
    clear HE h3'
    go_enter Tryz.func7, Tryz.ntmps7
    go_wp2_with fail
    clear hX
    refine Calls.mono HC1.out ?_
    rintro e w2 ⟨rfl, b2⟩
    have h := HP.out.later b2 HP.out.lt
    have e3 : w2.cell? ⟨w.heap.size, 3, none⟩ = some (.bool m) := h.cell 3
    have e4 : w2.cell? ⟨w.heap.size, 4, none⟩ = some (.slice c us.length cc) := h.cell 4
    have e5 : w2.cell? ⟨w.heap.size, 5, none⟩ = some (.slice d vs.length cd) := h.cell 5
    have HC3 := hid (HC2.out w2 b2)
    have HB2 := hid (bt HB1.out b2)
    clear e0 e1 e2 h b2 HC1 HC2
    go_wp2_with fail
    refine Calls.mono HC3.out ?_
    rintro e w3 ⟨rfl, b3⟩
    have HB3 := hid (bt HB2.out b3)
    clear b3 HC3 e3 e4 e5
    go_wp2_with fail
    go_ret
    exact ⟨rfl, HB3.out⟩
  · have h3' : r3 = r1 := by rw [HE.out, if_neg hz]
    rw [h3']
    have hz2 : (r1 != 0) = true := by simpa using hz
    clear HE h3' hz
    go_enter Tryz.func7, Tryz.ntmps7
    go_wp2_with fail
    clear hX
    refine Calls.mono HC1.out ?_
    rintro e w2 ⟨rfl, b2⟩
    have HB2 := hid (bt HB1.out b2)
    clear e0 e1 e2 b2 HC1 HC2
    go_wp2_with fail
    go_ret
    exact ⟨rfl, HB2.out⟩



/-- append([]uint32(nil), v...) as one step of a region: the same words in new memory. -/
theorem kstep_copy {ops : Array Oper} {o : Oper} {act : Act} {w : World} {K : Act → World → Prop} {Q : Exit → Act → World → Prop} {E : Prop}
    (hg : o.guard = none) (s x : Operand) (hop : o.op = Op.call { callee := Callee.builtin Builtin.append, args := #[s, x], argTypes := #[22, 22] })
    (v : Value) (xs : List Int) (hs : act.eval s = .slice none 0 0) (hx : act.eval x = v) (hv : Sl w v xs) (hn : xs.length ≤ 1099511627776)
    (hK : ∀ a' c' w', w'.ownsRow w.heap.size 68 1 (.slice a' xs.length c') xs.length (xs.map (Value.int .u32)) → Below w.heap.size w w' → K (act.put o.dst (.slice a' xs.length c')) w') :
    if Region.wanted o (yielded ops act.tmps) = true then Oper.wp Tryz.prog o act w K Q else E := by
  have hw : Region.wanted o (yielded ops act.tmps) = true := by simp [Region.wanted, hg]
  rw [if_pos hw]
  obtain ⟨i0, hi, hz0, hz1, hz2⟩ := info_parts Tryz.infoW
  have hown : w.ownsRow w.heap.size 68 1 (.slice none 0 0) 0 [] := World.ownsRow_nil _ _ _ _
  obtain ⟨ad, cap, rfl, hr⟩ := hv
  cases ad with
  | none =>
    have h0 : cap = 0 := hr.2.2.2.2.2 rfl
    subst h0
    have h1 : xs.length = 0 := by have := hr.2.2.2.1; omega
    have h2 : xs = [] := List.eq_nil_of_length_eq_zero h1
    subst h2
    have hrun := run_append_owned_none (P := Tryz.prog) (w := w) w.heap.size 22 o.type 68 i0 1 Tryz.underlying22 hi (.slice none 0 0) 0 [] hown
    unfold Oper.wp
    simp [execOp, hop, resolve, invoke, builtin, hs, hx, hrun, Result.andThen]
    exact hK none 0 w hown (Below.refl _ _)
  | some ad =>
    obtain ⟨v', w', hrun, r1, r2, _⟩ := run_append_own (P := Tryz.prog) w w.heap.size 22 o.type 68 i0 (.int .u32 0) 1 4 Tryz.underlying22 hi hz0 hz1 hz2 rfl (by decide) (.slice none 0 0) 0 [] hown ad xs.length cap (xs.map (Value.int .u32)) (by simp) (copy_news hr) (ints_oneCell _ _) (by unfold maxLen; omega) (by omega) (Nat.le_refl _)
    have r3 : w'.ownsRow w.heap.size 68 1 v' xs.length (xs.map (Value.int .u32)) := by simpa using r1
    obtain ⟨a', c', rfl⟩ := own_slice' r3
    unfold Oper.wp
    simp [execOp, hop, resolve, invoke, builtin, hs, hx, hrun, Result.andThen]
    exact hK a' c' w' r3 ((Below.refl w.heap.size w).grown r2 (Nat.le_refl _) (fun k hk => by simp [Value.ownBlock] at hk))

set_option maxHeartbeats 3200000 in
set_option maxRecDepth 100000 in
theorem kcopied_any (p : Nat) (E : Int) (n : Bool) (a : Option Addr) (ca : Nat) (xs : List Int) (b : Option Addr) (cb : Nat) (ys : List Int) (w : World) (hp : Box w p 53 #[.int .i64 E]) (sx : Sl w (.slice a xs.length ca) xs) (sy : Sl w (.slice b ys.length cb) ys) (hE0 : E = 0 → rchk n xs ys = 0) :
    Calls Tryz.prog 34 #[.pointer (some ⟨p, 0, none⟩), .agg #[.bool n, .slice a xs.length ca, .slice b ys.length cb]] w (GTell w p E (rq n xs ys)) := by
  have HX := hid (boxes2r w 24 #[.bool n, .slice a xs.length ca, .slice b ys.length cb] #[.bool false, .slice none 0 0, .slice none 0 0])
  obtain ⟨X, hX⟩ : ∃ X, (w.alloc (.cells #[.bool n, .slice a xs.length ca, .slice b ys.length cb] 24)).alloc (.cells #[.bool false, .slice none 0 0, .slice none 0 0] 24) = X := ⟨_, rfl⟩
  rw [hX] at HX
  have HP := hid (hp.later HX.out.2.2 hp.lt)
  have kp : X.cell? ⟨p, 0, none⟩ = some (.int .i64 E) := HP.out.cell 0
  have fp := HP.out.free 0
  have hpw : p < w.heap.size := hp.lt
  by_cases hE : E = 0
  · subst hE
    have hk := hE0 rfl
    have HKC := hid hk
    have hlen := rchk_ok hk
    have hlx : xs.length ≤ 1099511627776 := by omega
    have hly : ys.length ≤ 1099511627776 := by omega
    have HWX := hid (And.intro sx.wd sy.wd)
    have HSX : Hid (∀ V, Below X.heap.size X V → Sl V (.slice a xs.length ca) xs) := fun V hv => sx.later (bt HX.out.2.2 hv)
    have HSY : Hid (∀ V, Below X.heap.size X V → Sl V (.slice b ys.length cb) ys) := fun V hv => sy.later (bt HX.out.2.2 hv)
    have HK : Hid (∀ V, Below X.heap.size X V → V.cell? ⟨w.heap.size, 0, none⟩ = some (.bool n) ∧ V.cell? ⟨w.heap.size, 1, none⟩ = some (.slice a xs.length ca) ∧ V.cell? ⟨w.heap.size, 2, none⟩ = some (.slice b ys.length cb)) := fun V hv => by
      have h := HX.out.1.later hv HX.out.1.lt
      exact ⟨h.cell 0, h.cell 1, h.cell 2⟩
    have HKP : Hid (∀ V, Below X.heap.size X V → ∀ (v0 v1 v2 : Value), ((((V.setCell ⟨w.heap.size + 1, 0, none⟩ v0).setCell ⟨w.heap.size + 1, 1, none⟩ v1).setCell ⟨w.heap.size + 1, 2, none⟩ v2).cell? ⟨w.heap.size, 0, none⟩ = some (.bool n) ∧ (((V.setCell ⟨w.heap.size + 1, 0, none⟩ v0).setCell ⟨w.heap.size + 1, 1, none⟩ v1).setCell ⟨w.heap.size + 1, 2, none⟩ v2).cell? ⟨w.heap.size, 1, none⟩ = some (.slice a xs.length ca) ∧ (((V.setCell ⟨w.heap.size + 1, 0, none⟩ v0).setCell ⟨w.heap.size + 1, 1, none⟩ v1).setCell ⟨w.heap.size + 1, 2, none⟩ v2).cell? ⟨w.heap.size, 2, none⟩ = some (.slice b ys.length cb))) := fun V hv v0 v1 v2 => by
      have h := box_far3 (HX.out.1.later hv HX.out.1.lt) (show w.heap.size ≠ w.heap.size + 1 by omega) v0 v1 v2
      exact ⟨h.cell 0, h.cell 1, h.cell 2⟩
    have HM : Hid (∀ V, Below X.heap.size X V → V.cell? ⟨w.heap.size + 1, 0, none⟩ = some (.bool false) ∧ V.cell? ⟨w.heap.size + 1, 1, none⟩ = some (.slice none 0 0) ∧ V.cell? ⟨w.heap.size + 1, 2, none⟩ = some (.slice none 0 0) ∧ V.frozen? ⟨w.heap.size + 1, 0, none⟩ = false ∧ V.frozen? ⟨w.heap.size + 1, 1, none⟩ = false ∧ V.frozen? ⟨w.heap.size + 1, 2, none⟩ = false) := fun V hv => by
      have h := HX.out.2.1.later hv HX.out.2.1.lt
      exact ⟨h.cell 0, h.cell 1, h.cell 2, h.free 0, h.free 1, h.free 2⟩
    have hd0 := hid (Below.refl X.heap.size X).drew
    have hs0 := HK.out _ hd0.out
    clear sx sy hk hlen hE0
    go_enter Tryz.func34, Tryz.ntmps34
    go_wp2_with fail
    go_region_held3 (fun V : World => V.cell? ⟨w.heap.size, 0, none⟩ = some (.bool n) ∧ V.cell? ⟨w.heap.size, 1, none⟩ = some (.slice a xs.length ca) ∧ V.cell? ⟨w.heap.size, 2, none⟩ = some (.slice b ys.length cb)) (first | exact hsB | exact hsA | exact hs0 | exact HKP.out _ hbB _ _ _ | exact HKP.out _ hbA _ _ _)
      (first
        | (refine kstep_copy rfl (.const (.slice none 0 0)) (.tmp 13) rfl (.slice a xs.length ca) xs rfl rfl (HSX.out _ hbB) hlx ?_; intro a1 c1 w1 o1 b1; have hbA := bt hbB b1; have hsA := HK.out _ hbA; obtain ⟨m0, m1, m2, f0, f1, f2⟩ := HM.out _ hbA; have HA := hid (And.intro o1 b1))
        | (refine kstep_copy rfl (.const (.slice none 0 0)) (.tmp 13) rfl (.slice a xs.length ca) xs rfl rfl (HSX.out _ hd0.out) hlx ?_; intro a1 c1 w1 o1 b1; have hbA := bt hd0.out b1; have hsA := HK.out _ hbA; obtain ⟨m0, m1, m2, f0, f1, f2⟩ := HM.out _ hbA; have HA := hid (And.intro o1 b1))
        | (refine kstep_copy rfl (.const (.slice none 0 0)) (.tmp 16) rfl (.slice b ys.length cb) ys rfl rfl (HSY.out _ hbA) hly ?_; intro a2 c2 w2 o2 b2; have hbB := bt hbA b2; have hsB := HK.out _ hbB; obtain ⟨m0, m1, m2, f0, f1, f2⟩ := HM.out _ hbB; have HB := hid (And.intro o2 b2))
        | (refine kstep_copy rfl (.const (.slice none 0 0)) (.tmp 16) rfl (.slice b ys.length cb) ys rfl rfl (HSY.out _ hd0.out) hly ?_; intro a2 c2 w2 o2 b2; have hbB := bt hd0.out b2; have hsB := HK.out _ hbB; obtain ⟨m0, m1, m2, f0, f1, f2⟩ := HM.out _ hbB; have HB := hid (And.intro o2 b2)))
    have HBX := hid (HX.out.2.1.later hbB HX.out.2.1.lt)
    have HPX := hid (HP.out.later hbB HP.out.lt)
    have HBW := hid (bt HX.out.2.2 hbB)
    have HO1 := hid (owns_later o1 b2)
    have HO2 := hid o2
    have HL1 : Hid (Lies (.slice a1 xs.length c1) w.heap.size w1.heap.size) := fun g hg => ⟨Nat.le_trans HX.out.2.2.size (o1.lt g hg).1, (o1.lt g hg).2⟩
    have HL2 : Hid (Lies (.slice a2 ys.length c2) w1.heap.size w2.heap.size) := fun g hg => ⟨(o2.lt g hg).1, (o2.lt g hg).2⟩
    have hXs : w.heap.size + 1 < X.heap.size := HX.out.2.1.lt
    have h1s : X.heap.size ≤ w1.heap.size := hbA.size
    have h2s : w1.heap.size ≤ w2.heap.size := b2.size
    have hwX : w.heap.size ≤ X.heap.size := HX.out.2.2.size
    clear HA HB hs0 hsA hsB hd0 o1 o2 b1 b2 hbA hbB HK HKP HM HSX HSY
    go_wp2_with fail
    have hne : p ≠ w.heap.size + 1 := by omega
    have B1 := box_put3 (box_put3 HBX.out (.bool n) (.slice a1 xs.length c1) (.slice a2 ys.length c2)) (.bool n) (.slice a1 xs.length c1) (.slice a2 ys.length c2)
    have P1 := box_far3 (box_far3 HPX.out hne (.bool n) (.slice a1 xs.length c1) (.slice a2 ys.length c2)) hne (.bool n) (.slice a1 xs.length c1) (.slice a2 ys.length c2)
    have e1 : ∀ g, (Value.slice a1 xs.length c1).ownBlock = some g → g ≠ w.heap.size + 1 := fun g hg => by have := (HO1.out.lt g hg).1; have e : X.drew.heap.size = X.heap.size := rfl; omega
    have e2 : ∀ g, (Value.slice a2 ys.length c2).ownBlock = some g → g ≠ w.heap.size + 1 := fun g hg => by have := (HO2.out.lt g hg).1; omega
    have V1 := own_put3' (own_put3' HO1.out _ e1 (.bool n) (.slice a1 xs.length c1) (.slice a2 ys.length c2)) _ e1 (.bool n) (.slice a1 xs.length c1) (.slice a2 ys.length c2)
    have U1 := own_put3' (own_put3' HO2.out _ e2 (.bool n) (.slice a1 xs.length c1) (.slice a2 ys.length c2)) _ e2 (.bool n) (.slice a1 xs.length c1) (.slice a2 ys.length c2)
    have G1 := grow_put3 (grow_put3 (grow_below HBW.out (some p)) (w.heap.size + 1) (.bool n) (.slice a1 xs.length c1) (.slice a2 ys.length c2) (.inl (by omega))) (w.heap.size + 1) (.bool n) (.slice a1 xs.length c1) (.slice a2 ys.length c2) (.inl (by omega))
    refine bodyPost_ret (results_cell_row (by rfl) _ _ (w.heap.size + 1) 24 _ (0, 0) _ (by rfl) B1 Tryz.underlying24 rfl (by kernel_rfl)) rfl ?_
    refine ⟨n, _, xs, _, ys, 0, rfl, owns_base V1 hwX, owns_base U1 (by omega), kp_self HWX.out.1 HWX.out.2 HKC.out, P1, G1, ?_⟩
    exact ⟨w1.heap.size, by omega, by simp [World.setCell]; omega, HL1.out, fun g hg => ⟨(HL2.out g hg).1, by have := (HL2.out g hg).2; simp [World.setCell]; omega⟩⟩
  · have hE' : (E == 0) = false := by simp [hE]
    have m0 : X.cell? ⟨w.heap.size + 1, 0, none⟩ = some (.bool false) := HX.out.2.1.cell 0
    have m1 : X.cell? ⟨w.heap.size + 1, 1, none⟩ = some (.slice none 0 0) := HX.out.2.1.cell 1
    have m2 : X.cell? ⟨w.heap.size + 1, 2, none⟩ = some (.slice none 0 0) := HX.out.2.1.cell 2
    have n0 := HX.out.2.1.free 0
    have n1 := HX.out.2.1.free 1
    have n2 := HX.out.2.1.free 2
    clear hE0 sx sy
    go_enter Tryz.func34, Tryz.ntmps34
    go_wp2_with fail
    have B1 := box_put3 HX.out.2.1 (.bool false) (.slice none 0 0) (.slice none 0 0)
    have P1 := box_far3 HP.out (show p ≠ w.heap.size + 1 by omega) (.bool false) (.slice none 0 0) (.slice none 0 0)
    have G1 := grow_put3 (grow_below HX.out.2.2 (some p)) (w.heap.size + 1) (.bool false) (.slice none 0 0) (.slice none 0 0) (.inl (by omega))
    refine bodyPost_ret (results_cell_row (by rfl) _ _ (w.heap.size + 1) 24 _ (0, 0) _ (by rfl) B1 Tryz.underlying24 rfl (by kernel_rfl)) rfl ?_
    refine ⟨false, _, [], _, [], E, rfl, World.ownsRow_nil _ _ _ _, World.ownsRow_nil _ _ _ _, RTells.err hE, P1, G1, ?_⟩
    exact ⟨w.heap.size, Nat.le_refl _, G1.size, fun g hg => by simp [Value.ownBlock] at hg, fun g hg => by simp [Value.ownBlock] at hg⟩
set_option maxHeartbeats 3200000 in
set_option maxRecDepth 100000 in
theorem kConj_full (n : Bool) (a : Option Addr) (ca : Nat) (xs : List Int) (b : Option Addr) (cb : Nat) (ys : List Int) (m : Bool) (c : Option Addr) (cc : Nat) (us : List Int) (d : Option Addr) (cd : Nat) (vs : List Int) (w : World) (sx : Sl w (.slice a xs.length ca) xs) (sy : Sl w (.slice b ys.length cb) ys) (su : Sl w (.slice c us.length cc) us) (sv : Sl w (.slice d vs.length cd) vs) :
    Calls Tryz.prog 12 #[.agg #[.bool n, .slice a xs.length ca, .slice b ys.length cb, .bool m, .slice c us.length cc, .slice d vs.length cd]] w (KToldC w (gchk n xs ys m us vs) (rlong (rq n xs ys) ∨ rlong (-(rq m us vs))) (rq n xs ys) (-(rq m us vs))) := by
  have HX := hid (boxes2r w 26 #[.bool n, .slice a xs.length ca, .slice b ys.length cb, .bool m, .slice c us.length cc, .slice d vs.length cd] #[.bool false, .slice none 0 0, .slice none 0 0, .bool false, .slice none 0 0, .slice none 0 0])
  obtain ⟨X, hX⟩ : ∃ X, (w.alloc (.cells #[.bool n, .slice a xs.length ca, .slice b ys.length cb, .bool m, .slice c us.length cc, .slice d vs.length cd] 26)).alloc (.cells #[.bool false, .slice none 0 0, .slice none 0 0, .bool false, .slice none 0 0, .slice none 0 0] 26) = X := ⟨_, rfl⟩
  rw [hX] at HX
  have HY := hid (Box.made X 26 #[.bool n, .slice a xs.length ca, .slice b ys.length cb, .bool m, .slice c us.length cc, .slice d vs.length cd])
  have HYB := hid (alloc_later X (.cells #[.bool n, .slice a xs.length ca, .slice b ys.length cb, .bool m, .slice c us.length cc, .slice d vs.length cd] 26))
  obtain ⟨Y, hY⟩ : ∃ Y, X.alloc (.cells #[.bool n, .slice a xs.length ca, .slice b ys.length cb, .bool m, .slice c us.length cc, .slice d vs.length cd] 26) = Y := ⟨_, rfl⟩
  rw [hY] at HY HYB
  have HWY := hid (bt HX.out.2.2 HYB.out)
  have HL := hid (glookAt1_any X.heap.size n a ca xs b cb ys m c cc us d cd vs Y HY.out (sx.later HWY.out) (sy.later HWY.out) (su.later HWY.out) (sv.later HWY.out))
  have H1 : Hid (∀ V p, Below w.heap.size w V → Box V p 53 #[.int .i64 (gchk n xs ys m us vs)] → Calls Tryz.prog 34 #[.pointer (some ⟨p, 0, none⟩), .agg #[.bool n, .slice a xs.length ca, .slice b ys.length cb]] V (GTell V p (gchk n xs ys m us vs) (rq n xs ys))) := fun V p hv hb => kcopied_any p (gchk n xs ys m us vs) n a ca xs b cb ys V hb (sx.later hv) (sy.later hv) (fun h => (gchk_ok h).1)
  have H2 : Hid (∀ V p E, Below w.heap.size w V → Box V p 53 #[.int .i64 E] → Calls Tryz.prog 35 #[.pointer (some ⟨p, 0, none⟩), .agg #[.bool m, .slice c us.length cc, .slice d vs.length cd]] V (GTell V p (fstE E (rchk m us vs)) (-(rq m us vs)))) := fun V p E hv hb => gopposite_any p E m c cc us d cd vs V hb (su.later hv) (sv.later hv)
  have HZ1 : Hid (gchk n xs ys m us vs = 0 → rchk n xs ys = 0 ∧ rchk m us vs = 0) := fun h => by
    exact gchk_ok h
  generalize gchk n xs ys m us vs = E0 at *
  generalize rchk m us vs = e2 at *
  generalize rq n xs ys = q1 at *
  generalize -(rq m us vs) = q2 at *
  clear sx sy su sv
  have ka0 : X.cell? ⟨w.heap.size, 0, none⟩ = some (.bool n) := HX.out.1.cell 0
  have ka1 : X.cell? ⟨w.heap.size, 1, none⟩ = some (.slice a xs.length ca) := HX.out.1.cell 1
  have ka2 : X.cell? ⟨w.heap.size, 2, none⟩ = some (.slice b ys.length cb) := HX.out.1.cell 2
  have ka3 : X.cell? ⟨w.heap.size, 3, none⟩ = some (.bool m) := HX.out.1.cell 3
  have ka4 : X.cell? ⟨w.heap.size, 4, none⟩ = some (.slice c us.length cc) := HX.out.1.cell 4
  have ka5 : X.cell? ⟨w.heap.size, 5, none⟩ = some (.slice d vs.length cd) := HX.out.1.cell 5
  go_enter Tryz.func12, Tryz.ntmps12
  go_wp2_with fail
  refine Calls.mono HL.out ?_
  rintro x w1 ⟨p, rfl, hpl, hpb, hb1⟩
  have HW1 := hid (bt HWY.out hb1)
  have HA1 := hid (HX.out.1.later (bt HYB.out hb1) HX.out.1.lt)
  have HR1 := hid (HX.out.2.1.later (bt HYB.out hb1) HX.out.2.1.lt)
  have HP1 := hid hpb
  have hpX : X.heap.size < p := Nat.lt_of_lt_of_le HY.out.lt hpl
  have hrX : w.heap.size + 1 < X.heap.size := HX.out.2.1.lt
  clear hpb hb1 hpl HL ka0 ka1 ka2 ka3 ka4 ka5
  have ka0 : w1.cell? ⟨w.heap.size, 0, none⟩ = some (.bool n) := HA1.out.cell 0
  have ka1 : w1.cell? ⟨w.heap.size, 1, none⟩ = some (.slice a xs.length ca) := HA1.out.cell 1
  have ka2 : w1.cell? ⟨w.heap.size, 2, none⟩ = some (.slice b ys.length cb) := HA1.out.cell 2
  go_wp2_with fail
  refine Calls.mono (H1.out _ p HW1.out HP1.out) ?_
  rintro x w2 ⟨k1, v1, zs1, u1, ts1, code1, rfl, ov1, ou1, ht1, hp2, hg2, hcut1⟩
  obtain ⟨av1, cv1, rfl⟩ := own_slice' ov1
  obtain ⟨au1, cu1, rfl⟩ := own_slice' ou1
  have hw12 : w1.heap.size ≤ w2.heap.size := hg2.size
  have hp1l : p < w1.heap.size := HP1.out.lt
  have HW2 : Hid (Below w.heap.size w w2) := HW1.out.grown hg2 HW1.out.size (fun q hq => by have e := Option.some.inj hq; omega)
  have HA2 := hid (HA1.out.kept' hg2 (by intro e; have := Option.some.inj e; omega))
  have HR2 := hid (HR1.out.kept' hg2 (by intro e; have := Option.some.inj e; omega))
  have HP2 := hid hp2
  have HV1 := hid ov1
  have HU1 := hid ou1
  have HT1 := hid ht1
  have HC1 := hid hcut1
  have HN := hid (Box.made w2 24 #[.bool k1, .slice av1 zs1.length cv1, .slice au1 ts1.length cu1])
  have HNB := hid (alloc_later w2 (.cells #[.bool k1, .slice av1 zs1.length cv1, .slice au1 ts1.length cu1] 24))
  obtain ⟨Z, hZ⟩ : ∃ Z, w2.alloc (.cells #[.bool k1, .slice av1 zs1.length cv1, .slice au1 ts1.length cu1] 24) = Z := ⟨_, rfl⟩
  rw [hZ] at HN HNB
  have HAZ := hid (HA2.out.later HNB.out HA2.out.lt)
  clear ov1 ou1 ht1 hp2 hg2 hcut1 HW1 HA1 HR1 HP1 H1 ka0 ka1 ka2
  have ka0 : Z.cell? ⟨w.heap.size, 3, none⟩ = some (.bool m) := HAZ.out.cell 3
  have ka1 : Z.cell? ⟨w.heap.size, 4, none⟩ = some (.slice c us.length cc) := HAZ.out.cell 4
  have ka2 : Z.cell? ⟨w.heap.size, 5, none⟩ = some (.slice d vs.length cd) := HAZ.out.cell 5
  go_wp2_with fail
  refine Calls.mono (H2.out _ p code1 (bt HW2.out HNB.out) (HP2.out.later HNB.out HP2.out.lt)) ?_
  rintro x w3 ⟨k2, v2, zs2, u2, ts2, code2, rfl, ov2, ou2, ht2, hp3, hg3, hcut2⟩
  obtain ⟨av2, cv2, rfl⟩ := own_slice' ov2
  obtain ⟨au2, cu2, rfl⟩ := own_slice' ou2
  have hZ3 : Z.heap.size ≤ w3.heap.size := hg3.size
  have hw2Z : w2.heap.size < Z.heap.size := HN.out.lt
  have HW3 : Hid (Below w.heap.size w w3) := (bt HW2.out HNB.out).grown hg3 (bt HW2.out HNB.out).size (fun q hq => by have e := Option.some.inj hq; omega)
  have HR3 := hid ((HR2.out.later HNB.out HR2.out.lt).kept' hg3 (by intro e; have := Option.some.inj e; omega))
  have HN3 := hid (HN.out.kept' hg3 (by intro e; have := Option.some.inj e; omega))
  have HP3 := hid hp3
  have hk : ∀ (v : Value) (q : Nat), (∀ g, v.ownBlock = some g → q ≤ g) → p < q → v.ownBlock = none ∨ v.ownBlock ≠ some p := fun v q h1 h2 => by
    cases e : v.ownBlock with
    | none => exact .inl rfl
    | some g => right; intro h; have e2 := Option.some.inj h; have := h1 g e; omega
  have HV3 := hid (World.ownsRow.kept (owns_later HV1.out HNB.out) hg3 (hk _ w1.heap.size (fun g hg => (HV1.out.lt g hg).1) hp1l))
  have HU3 := hid (World.ownsRow.kept (owns_later HU1.out HNB.out) hg3 (hk _ w1.heap.size (fun g hg => (HU1.out.lt g hg).1) hp1l))
  have HV4 := hid ov2
  have HU4 := hid ou2
  have HT2 := hid ht2
  have HC2 := hid hcut2
  clear hk
  have HM := hid (Box.made w3 24 #[.bool k2, .slice av2 zs2.length cv2, .slice au2 ts2.length cu2])
  have HMB := hid (alloc_later w3 (.cells #[.bool k2, .slice av2 zs2.length cv2, .slice au2 ts2.length cu2] 24))
  obtain ⟨Q, hQ⟩ : ∃ Q, w3.alloc (.cells #[.bool k2, .slice av2 zs2.length cv2, .slice au2 ts2.length cu2] 24) = Q := ⟨_, rfl⟩
  rw [hQ] at HM HMB
  have HNQ := hid (HN3.out.later HMB.out HN3.out.lt)
  have HTO := hid (gtold_any p code2 k1 av1 zs1.length cv1 au1 ts1.length cu1 k2 av2 zs2.length cv2 au2 ts2.length cu2 Q (HP3.out.later HMB.out HP3.out.lt))
  clear ov2 ou2 ht2 hp3 hg3 hcut2 H2 ka0 ka1 ka2
  have ka0 : Q.cell? ⟨w2.heap.size, 0, none⟩ = some (.bool k1) := HNQ.out.cell 0
  have ka1 : Q.cell? ⟨w2.heap.size, 1, none⟩ = some (.slice av1 zs1.length cv1) := HNQ.out.cell 1
  have ka2 : Q.cell? ⟨w2.heap.size, 2, none⟩ = some (.slice au1 ts1.length cu1) := HNQ.out.cell 2
  have kb0 : Q.cell? ⟨w3.heap.size, 0, none⟩ = some (.bool k2) := HM.out.cell 0
  have kb1 : Q.cell? ⟨w3.heap.size, 1, none⟩ = some (.slice av2 zs2.length cv2) := HM.out.cell 1
  have kb2 : Q.cell? ⟨w3.heap.size, 2, none⟩ = some (.slice au2 ts2.length cu2) := HM.out.cell 2
  go_wp2_with fail
  refine Calls.mono HTO.out ?_
  rintro x w4 ⟨rfl, hb4⟩
  have HW4x := hid hb4
  have HR4 := hid (HR3.out.later (bt HMB.out hb4) HR3.out.lt)
  have HW4 := hid (bt HW3.out (bt HMB.out hb4))
  have HOO := hid (And.intro (owns_later HV3.out (bt HMB.out hb4)) (And.intro (owns_later HU3.out (bt HMB.out hb4)) (And.intro (owns_later HV4.out (bt HMB.out hb4)) (owns_later HU4.out (bt HMB.out hb4)))))
  have hlo : w.heap.size ≤ w1.heap.size := by omega
  have hlZ : w.heap.size ≤ Z.heap.size := by omega
  clear hb4 ka0 ka1 ka2 kb0 kb1 kb2
  have m0 : w4.cell? ⟨w.heap.size + 1, 0, none⟩ = some (.bool false) := HR4.out.cell 0
  have m1 : w4.cell? ⟨w.heap.size + 1, 1, none⟩ = some (.slice none 0 0) := HR4.out.cell 1
  have m2' : w4.cell? ⟨w.heap.size + 1, 2, none⟩ = some (.slice none 0 0) := HR4.out.cell 2
  have m3 : w4.cell? ⟨w.heap.size + 1, 3, none⟩ = some (.bool false) := HR4.out.cell 3
  have m4 : w4.cell? ⟨w.heap.size + 1, 4, none⟩ = some (.slice none 0 0) := HR4.out.cell 4
  have m5 : w4.cell? ⟨w.heap.size + 1, 5, none⟩ = some (.slice none 0 0) := HR4.out.cell 5
  have f0 := HR4.out.free 0
  have f1 := HR4.out.free 1
  have f2 := HR4.out.free 2
  have f3 := HR4.out.free 3
  have f4 := HR4.out.free 4
  have f5 := HR4.out.free 5
  have hf0 : fstE E0 0 = E0 := by unfold fstE; by_cases h : E0 = 0 <;> simp [h]
  have HTW := hid (gtwo (e1 := 0) (by rw [hf0]; exact HT1.out) HT2.out (fun _ => rfl) (fun h => (HZ1.out h).2))
  have hsQ := (bt HMB.out HW4x.out).size
  clear hf0
  by_cases hc2 : code2 = 0
  · rw [if_pos hc2]
    have HFIN := hid (HTW.out.1 hc2)
    clear HTW hc2
    go_wp2_with fail
    have B1 := box_put6 HR4.out (.bool k1) (.slice av1 zs1.length cv1) (.slice au1 ts1.length cu1) (.bool k2) (.slice av2 zs2.length cv2) (.slice au2 ts2.length cu2)
    have G1 := below_put6 HW4.out (w.heap.size + 1) (by omega) (.bool k1) (.slice av1 zs1.length cv1) (.slice au1 ts1.length cu1) (.bool k2) (.slice av2 zs2.length cv2) (.slice au2 ts2.length cu2)
    have hXX := HX.out.2.2.size
    have hput : ∀ {base k : Nat} {v : Value} {l : List Value}, w4.ownsRow base 68 1 v k l → (∀ g, v.ownBlock = some g → X.heap.size ≤ g) → ((((((w4.setCell ⟨w.heap.size + 1, 0, none⟩ (.bool k1)).setCell ⟨w.heap.size + 1, 1, none⟩ (.slice av1 zs1.length cv1)).setCell ⟨w.heap.size + 1, 2, none⟩ (.slice au1 ts1.length cu1)).setCell ⟨w.heap.size + 1, 3, none⟩ (.bool k2)).setCell ⟨w.heap.size + 1, 4, none⟩ (.slice av2 zs2.length cv2)).setCell ⟨w.heap.size + 1, 5, none⟩ (.slice au2 ts2.length cu2)).ownsRow base 68 1 v k l := fun h hb => own_put6 h _ (fun g hg => by have := hb g hg; omega) _ _ _ _ _ _
    clear m0 m1 m2' m3 m4 m5 f0 f1 f2 f3 f4 f5
    refine bodyPost_ret (gres_run (by rfl) B1 _ rfl) rfl ?_
    exact ⟨k1, av1, cv1, zs1, au1, cu1, ts1, k2, av2, cv2, zs2, au2, cu2, ts2, code2, rfl, ⟨owns_base (hput HOO.out.1 (fun g hg => by have := (HOO.out.1.lt g hg).1; omega)) hlo, owns_base (hput HOO.out.2.1 (fun g hg => by have := (HOO.out.2.1.lt g hg).1; omega)) hlo, owns_base (hput HOO.out.2.2.1 (fun g hg => by have := (HOO.out.2.2.1.lt g hg).1; omega)) hlZ, owns_base (hput HOO.out.2.2.2 (fun g hg => by have := (HOO.out.2.2.2.lt g hg).1; omega)) hlZ⟩, HFIN.out, G1, w2, HC1.out.up hlo (Nat.le_refl _), HC2.out.up HNB.out.size (by simp [World.setCell]; omega)⟩
  · rw [if_neg hc2]
    have HFIN := hid (HTW.out.2 hc2)
    clear HTW hc2
    go_wp2_with fail
    have B1 := box_put6 HR4.out (.bool false) (.slice none 0 0) (.slice none 0 0) (.bool false) (.slice none 0 0) (.slice none 0 0)
    have G1 := below_put6 HW4.out (w.heap.size + 1) (by omega) (.bool false) (.slice none 0 0) (.slice none 0 0) (.bool false) (.slice none 0 0) (.slice none 0 0)
    clear m0 m1 m2' m3 m4 m5 f0 f1 f2 f3 f4 f5
    refine bodyPost_ret (gres_run (by rfl) B1 _ rfl) rfl ?_
    exact ⟨false, none, 0, [], none, 0, [], false, none, 0, [], none, 0, [], code2, rfl, ⟨World.ownsRow_nil _ _ _ _, World.ownsRow_nil _ _ _ _, World.ownsRow_nil _ _ _ _, World.ownsRow_nil _ _ _ _⟩, HFIN.out, G1, _, kcut_nil _ _ G1.size, kcut_nil _ _ (Nat.le_refl _)⟩

end Go.Proofs.YtopogjfmocpeaaaGreat

/- Lists that lie apart: the kit's ApartWords, for a list of lists with room behind it. -/
namespace Go.Proofs.YtopogjfmocpeaaaGreat
open Go.RowKit
set_option linter.unusedVariables false

end Go.Proofs.YtopogjfmocpeaaaGreat

/- What the laws of layer 1 share: two answers beside the document's; lists that lie apart. -/
namespace Go.Proofs.YtopogjfmocpeaaaGreat
open Go.RowKit
set_option linter.unusedVariables false

theorem own_slice {w : World} {base e n : Nat} {v : Value} {xs : List Value} (h : w.ownsRow base e 1 v n xs) : ∃ a cap, v = .slice a n cap := by
  rcases h.2 with ⟨h1, h0⟩ | ⟨g, cap, cur, hv, _⟩
  · subst h0; exact ⟨_, _, h1⟩
  · exact ⟨_, _, hv⟩
theorem Within.up {v : Value} {lo hi hi' : Nat} (h : Within v lo hi) (hh : hi ≤ hi') : Within v lo hi' := fun g hg => by have := h g hg; omega
theorem Tells.len {e t : Int} {zs : List Int} {c : Int} (h : Tells e t zs c) : zs.length ≤ 8192 := by
  by_cases he : e = 0
  · by_cases hl : wide ≤ t
    · rw [(h.long he hl).2]; simp
    · have e1 := (h.good he (by omega)).2
      exact len_of_lt h.wd h.trim (by rw [e1]; exact Int.not_le.1 hl)
  · rw [(h.bad he).2]; simp
end Go.Proofs.YtopogjfmocpeaaaGreat

/- The kit's ApartRatios of three fractions. -/
namespace Go.Proofs.YtopogjfmocpeaaaGreat
open Go.RowKit
set_option linter.unusedVariables false

/-- append to a row of the call's own, as one step of a region. -/
theorem step_append_own {P : Program} {ops : Array Oper} {o : Oper} {a : Act} {w : World} {K : Act → World → Prop} {Q : Exit → Act → World → Prop} {E : Prop}
    (hg : o.guard = none) (s x : Operand) (t : TypeId) (hop : o.op = Op.call { callee := Callee.builtin Builtin.append, args := #[s, x], argTypes := #[t, t] })
    (base : Nat) (e : TypeId) (i : TypeInfo) (z : Value) (size bytes : Nat) (h1 : P.underlying t = some (.slice e)) (h2 : P.info? e = some i) (h3 : i.zero = some z) (h4 : i.size = size) (h5 : i.bytes = bytes) (h6 : z.cells.size = size) (h7 : 0 < size)
    (v : Value) (n : Nat) (xs : List Value) (hs : a.eval s = v) (hown : w.ownsRow base e size v n xs)
    (ad : Addr) (m c : Nat) (news : List Value) (hx : a.eval x = .slice (some ad) m c) (hn : news.length = m * size) (hc : ∀ j u, news[j]? = some u → w.cell? (ad.add j) = some u) (h1c : ∀ u ∈ news, u.oneCell' = true)
    (b1 : n + m ≤ maxLen) (b2 : (n + m) * bytes ≤ 140737488355328) (hbase : base ≤ w.heap.size)
    (hK : ∀ v' w', w'.ownsRow base e size v' (n + m) (xs ++ news) → w.grownBy w' v.ownBlock → K (a.put o.dst v') w') :
    if Region.wanted o (yielded ops a.tmps) = true then Oper.wp P o a w K Q else E := by
  have hw : Region.wanted o (yielded ops a.tmps) = true := by simp [Region.wanted, hg]
  rw [if_pos hw]
  obtain ⟨v', w', hrun, r1, r2, _⟩ := run_append_own (P := P) w base t o.type e i z size bytes h1 h2 h3 h4 h5 h6 h7 v n xs hown ad m c news hn hc h1c b1 b2 hbase
  unfold Oper.wp
  simp [execOp, hop, resolve, invoke, builtin, hs, hx, hrun, Result.andThen]
  exact hK v' w' r1 r2
theorem two_cells (w : World) (u0 u1 : Value) (t : Nat) : ∀ j u, [u0, u1][j]? = some u → ((w.alloc (.cells #[u0, u1] t)).drew).cell? ((⟨w.heap.size, 0, none⟩ : Addr).add j) = some u := by
  intro j u h
  have hb := Box.made w t #[u0, u1]
  match j, h with
  | 0, h => obtain rfl : u0 = u := by simpa using h
            exact hb.cell 0
  | 1, h => obtain rfl : u1 = u := by simpa using h
            exact hb.cell 1
  | n + 2, h => simp at h

theorem own_row {w : World} {base e n g cap : Nat} {xs : List Value} (h : w.ownsRow base e 1 (.slice (some ⟨g, 0, none⟩) n cap) n xs) : ∃ cl : Array Value, w.heap[g]? = some (.cells cl e (0, 0)) ∧ ∀ j, j < n → cl[j]? = xs[j]? := by
  rcases h.2 with ⟨h1, _⟩ | ⟨g', cap', cur, hv, _, hg, _, _, _, ht⟩
  · cases h1
  · cases hv
    refine ⟨cur, hg, fun j hj => ?_⟩
    rw [← ht, List.getElem?_take, if_pos (by omega), Array.getElem?_toList]

end Go.Proofs.YtopogjfmocpeaaaGreat

/- The kit's PartsOf of three complex fractions, ApartRatios of six fractions, ApartGausses of three complex fractions. (tools/mkkg.py) -/
namespace Go.Proofs.YtopogjfmocpeaaaGreat
open Go.RowKit
set_option linter.unusedVariables false

theorem Tryz.infoKg : (Tryz.prog.info? 24).map (fun i => (i.zero, i.size, i.bytes)) = some (some (.agg #[.bool false, .slice none 0 0, .slice none 0 0]), 3, 56) := by kernel_rfl
theorem kg_slice3 {w : World} {base e n s : Nat} {v : Value} {xs : List Value} (h : w.ownsRow base e s v n xs) : ∃ a cap, v = .slice a n cap := by
  rcases h.2 with ⟨h1, h0⟩ | ⟨g, cap, cur, hv, _⟩
  · subst h0; exact ⟨_, _, h1⟩
  · exact ⟨_, _, hv⟩
theorem kg_later3 {w w' : World} {base e n s : Nat} {v : Value} {xs : List Value} (h : w.ownsRow base e s v n xs) (hb : Below w.heap.size w w') : w'.ownsRow base e s v n xs := by
  refine ⟨h.1, h.2.imp id ?_⟩
  rintro ⟨g, cap, cur, rfl, hbg, hg, h1, h2, h3, h4⟩
  refine ⟨g, cap, cur, rfl, hbg, ?_, h1, h2, h3, h4⟩
  rw [hb.block g (by
    have : w.heap[g]?.isSome := by rw [hg]; rfl
    simpa using this)]
  exact hg
theorem kg_six_cells (w : World) (u0 u1 u2 u3 u4 u5 : Value) (t : Nat) : ∀ j u, [u0, u1, u2, u3, u4, u5][j]? = some u → ((w.alloc (.cells #[u0, u1, u2, u3, u4, u5] t)).drew).cell? ((⟨w.heap.size, 0, none⟩ : Addr).add j) = some u := by
  intro j u h
  have hb := Box.made w t #[u0, u1, u2, u3, u4, u5]
  match j, h with
  | 0, h => obtain rfl : u0 = u := by simpa using h
            exact hb.cell 0
  | 1, h => obtain rfl : u1 = u := by simpa using h
            exact hb.cell 1
  | 2, h => obtain rfl : u2 = u := by simpa using h
            exact hb.cell 2
  | 3, h => obtain rfl : u3 = u := by simpa using h
            exact hb.cell 3
  | 4, h => obtain rfl : u4 = u := by simpa using h
            exact hb.cell 4
  | 5, h => obtain rfl : u5 = u := by simpa using h
            exact hb.cell 5
  | n + 6, h => simp at h
theorem kg_row3 {w : World} {base e n g cap : Nat} {xs : List Value} (h : w.ownsRow base e 3 (.slice (some ⟨g, 0, none⟩) n cap) n xs) : ∃ cl : Array Value, w.heap[g]? = some (.cells cl e (0, 0)) ∧ ∀ j, j < n * 3 → cl[j]? = xs[j]? := by
  rcases h.2 with ⟨h1, _⟩ | ⟨g', cap', cur, hv, _, hg, _, _, _, ht⟩
  · cases h1
  · cases hv
    refine ⟨cur, hg, fun j hj => ?_⟩
    rw [← ht, List.getElem?_take, if_pos (by omega), Array.getElem?_toList]

end Go.Proofs.YtopogjfmocpeaaaGreat

/- The laws' small, Small, heavy, one of layer 4; complex fractions that are told alike. (tools/mkgd3.py) -/
namespace Go.Proofs.YtopogjfmocpeaaaGreat
open Go.RowKit
set_option linter.unusedVariables false

theorem kgood_same {n m : Bool} {xs ys us vs : List Int} (wx : Wd xs) (wy : Wd ys) (wu : Wd us) (wv : Wd vs) (a2 : rchk n xs ys = 0) (b2 : rchk m us vs = 0) (a3 : rq n xs ys = rq m us vs) : n = m ∧ xs = us ∧ ys = vs := by
  obtain ⟨_, _, tx, ty, y0, sx, gx⟩ := rchk_ok a2
  obtain ⟨_, _, tu, tv, v0, su, gu⟩ := rchk_ok b2
  have py := val_pos' wy ty y0
  have pv := val_pos' wv tv v0
  have e1 := fr_inj (x := wval n xs) (d := val ys) (y := wval m us) (e := val vs) (by omega) (by rw [show wval n xs = sg n (val xs) from rfl, gcd_sg]; exact gx) (by omega) (by rw [show wval m us = sg m (val us) from rfl, gcd_sg]; exact gu) a3
  have e2 : n = m ∧ xs = us := by
    have x0 := val_nonneg wx
    have u0 := val_nonneg wu
    have e3 := e1.1
    cases n <;> cases m
    · exact ⟨rfl, trimmed_eq wx wu tx tu e3⟩
    · have e4 : val xs = -(val us) := e3
      have := val_pos' wu tu (su.elim (fun e => by cases e) id)
      omega
    · have e4 : -(val xs) = val us := e3
      have := val_pos' wx tx (sx.elim (fun e => by cases e) id)
      omega
    · have e4 : -(val xs) = -(val us) := e3
      exact ⟨rfl, trimmed_eq wx wu tx tu (by omega)⟩
  exact ⟨e2.1, e2.2, trimmed_eq wy wv ty tv e1.2⟩
theorem GTells.one {E : Int} {L : Prop} {q1 q2 : Rat} {n m : Bool} {xs ys us vs : List Int} {c : Int} {n' m' : Bool} {xs' ys' us' vs' : List Int} {c' : Int} (h : GTells E L q1 q2 n xs ys m us vs c) (g : GTells E L q1 q2 n' xs' ys' m' us' vs' c') : n = n' ∧ xs = xs' ∧ ys = ys' ∧ m = m' ∧ us = us' ∧ vs = vs' ∧ c = c' := by
  by_cases he : E = 0
  · by_cases hl : L
    · obtain ⟨⟨a1, a2, a3, a4, a5, a6⟩, a7⟩ := h.long he hl
      obtain ⟨⟨b1, b2, b3, b4, b5, b6⟩, b7⟩ := g.long he hl
      exact ⟨by rw [a1, b1], by rw [a2, b2], by rw [a3, b3], by rw [a4, b4], by rw [a5, b5], by rw [a6, b6], by rw [a7, b7]⟩
    · obtain ⟨a1, ⟨a2, a3⟩, a4, a5⟩ := h.good he hl
      obtain ⟨b1, ⟨b2, b3⟩, b4, b5⟩ := g.good he hl
      obtain ⟨e1, e2, e3⟩ := kgood_same h.wd.1 h.wd.2.1 g.wd.1 g.wd.2.1 a2 b2 (a3.trans b3.symm)
      obtain ⟨f1, f2, f3⟩ := kgood_same h.wd.2.2.1 h.wd.2.2.2 g.wd.2.2.1 g.wd.2.2.2 a4 b4 (a5.trans b5.symm)
      exact ⟨e1, e2, e3, f1, f2, f3, by rw [a1, b1]⟩
  · obtain ⟨⟨a1, a2, a3, a4, a5, a6⟩, a7⟩ := h.bad he
    obtain ⟨⟨b1, b2, b3, b4, b5, b6⟩, b7⟩ := g.bad he
    exact ⟨by rw [a1, b1], by rw [a2, b2], by rw [a3, b3], by rw [a4, b4], by rw [a5, b5], by rw [a6, b6], by rw [a7, b7]⟩
theorem GTells.few {E : Int} {L : Prop} {q1 q2 : Rat} {n m : Bool} {xs ys us vs : List Int} {c : Int} (h : GTells E L q1 q2 n xs ys m us vs c) : xs.length ≤ 2048 ∧ ys.length ≤ 2048 ∧ us.length ≤ 2048 ∧ vs.length ≤ 2048 := by
  have z : ∀ l : List Int, l = [] → l.length ≤ 2048 := fun l hl => by rw [hl]; simp
  by_cases he : E = 0
  · by_cases hl : L
    · obtain ⟨⟨a1, a2, a3, a4, a5, a6⟩, a7⟩ := h.long he hl
      exact ⟨z _ a2, z _ a3, z _ a5, z _ a6⟩
    · obtain ⟨a1, ⟨a2, a3⟩, a4, a5⟩ := h.good he hl
      obtain ⟨l1, l2, _⟩ := rchk_ok a2
      obtain ⟨l3, l4, _⟩ := rchk_ok a4
      exact ⟨l1, l2, l3, l4⟩
  · obtain ⟨⟨a1, a2, a3, a4, a5, a6⟩, a7⟩ := h.bad he
    exact ⟨z _ a2, z _ a3, z _ a5, z _ a6⟩

/-- Few words, or just more than may be. -/
def smH (k : Nat) : Bool := decide (k ≤ 60) || (decide (2048 < k) && decide (k < 2057))

set_option maxHeartbeats 800000 in
set_option maxRecDepth 100000 in
theorem ksmall_any (a : Option Addr) (k ca : Nat) (w : World) : Calls Tryz.prog 46 #[.slice a k ca, .int .i64 60] w fun e w' => e = .returned (.bool (smH k)) ∧ w' = w := by
  by_cases h1 : k ≤ 60
  · have e : smH k = true := by simp [smH, h1]
    have q1 : (k : Int) ≤ 60 := by omega
    rw [e]
    clear h1 e
    go_enter Tryz.func46, Tryz.ntmps46
    go_wp2_with fail
    go_ret
    exact ⟨rfl, rfl⟩
  · by_cases h2 : 2048 < k
    · by_cases h3 : k < 2057
      · have e : smH k = true := by simp [smH, h2, h3]
        have q1 : ¬ (k : Int) ≤ 60 := by omega
        have q2 : (2048 : Int) < (k : Int) := by omega
        have q3 : (k : Int) < 2057 := by omega
        rw [e]
        clear h1 h2 h3 e
        go_enter Tryz.func46, Tryz.ntmps46
        go_wp2_with fail
        go_ret
        exact ⟨rfl, rfl⟩
      · have e : smH k = false := by simp [smH, h1, h2, h3]
        have q1 : ¬ (k : Int) ≤ 60 := by omega
        have q2 : (2048 : Int) < (k : Int) := by omega
        have q3 : ¬ (k : Int) < 2057 := by omega
        rw [e]
        clear h1 h2 h3 e
        go_enter Tryz.func46, Tryz.ntmps46
        go_wp2_with fail
        go_ret
        exact ⟨rfl, rfl⟩
    · have e : smH k = false := by simp [smH, h1, h2]
      have q1 : ¬ (k : Int) ≤ 60 := by omega
      have q2 : ¬ (2048 : Int) < (k : Int) := by omega
      rw [e]
      clear h1 h2 e
      go_enter Tryz.func46, Tryz.ntmps46
      go_wp2_with fail
      go_ret
      exact ⟨rfl, rfl⟩

set_option maxHeartbeats 800000 in
set_option maxRecDepth 100000 in
theorem kSmall_any (n : Bool) (a : Option Addr) (k ca : Nat) (b : Option Addr) (l cb : Nat) (w : World) : Calls Tryz.prog 25 #[.agg #[.bool n, .slice a k ca, .slice b l cb], .int .i64 60] w fun e w' => e = .returned (.bool (smH k && smH l)) ∧ Below w.heap.size w w' := by
  have HB := hid (alloc_later w (.cells #[.bool n, .slice a k ca, .slice b l cb] 24))
  have H1 := hid (fun V => ksmall_any a k ca V)
  have H2 := hid (fun V => ksmall_any b l cb V)
  cases h : smH k
  · rw [h] at H1
    rw [Bool.false_and]
    clear h H2
    go_enter Tryz.func25, Tryz.ntmps25
    go_wp2_with fail
    refine Calls.mono (H1.out _) ?_
    rintro e w1 ⟨rfl, rfl⟩
    go_wp2_with fail
    go_ret
    exact ⟨rfl, HB.out⟩
  · rw [h] at H1
    rw [Bool.true_and]
    generalize smH l = r at *
    clear h
    go_enter Tryz.func25, Tryz.ntmps25
    go_wp2_with fail
    refine Calls.mono (H1.out _) ?_
    rintro e w1 ⟨rfl, rfl⟩
    go_wp2_with fail
    refine Calls.mono (H2.out _) ?_
    rintro e w1 ⟨rfl, rfl⟩
    go_wp2_with fail
    go_ret
    exact ⟨rfl, HB.out⟩

set_option maxHeartbeats 800000 in
set_option maxRecDepth 100000 in
theorem kheavy_any (n : Bool) (a : Option Addr) (k1 ca : Nat) (b : Option Addr) (k2 cb : Nat) (m : Bool) (c : Option Addr) (k3 cc : Nat) (d : Option Addr) (k4 cd : Nat) (w : World) :
    Calls Tryz.prog 4 #[.agg #[.bool n, .slice a k1 ca, .slice b k2 cb, .bool m, .slice c k3 cc, .slice d k4 cd]] w fun e w' => e = .returned (.bool (!((smH k1 && smH k2) && (smH k3 && smH k4)))) ∧ Below w.heap.size w w' := by
  obtain ⟨P, hP⟩ : ∃ P, w.alloc (.cells #[.bool n, .slice a k1 ca, .slice b k2 cb, .bool m, .slice c k3 cc, .slice d k4 cd] 26) = P := ⟨_, rfl⟩
  have b1 : Below w.heap.size w P := by rw [← hP]; exact alloc_later _ _
  have HA : Hid (Box P w.heap.size 26 #[.bool n, .slice a k1 ca, .slice b k2 cb, .bool m, .slice c k3 cc, .slice d k4 cd]) := by rw [← hP]; exact Box.made w _ _
  have HS1 := hid (kSmall_any n a k1 ca b k2 cb P)
  have HS2 := hid (fun V => kSmall_any m c k3 cc d k4 cd V)
  have HB := hid b1
  clear b1
  obtain ⟨e0, e1, e2, e3, e4, e5⟩ := Kl6.of HA.out
  cases h1 : (smH k1 && smH k2)
  · rw [h1] at HS1
    rw [Bool.false_and]
    clear h1 HS2
    go_enter Tryz.func4, Tryz.ntmps4
    go_wp2_with fail
    clear hP
    refine Calls.mono HS1.out ?_
    rintro e w1 ⟨rfl, hb⟩
    have HB2 := hid (bt HB.out hb)
    clear hb HS1 e0 e1 e2 e3 e4 e5
    go_wp2_with fail
    go_ret
    exact ⟨rfl, HB2.out⟩
  · rw [h1] at HS1
    rw [Bool.true_and]
    clear h1
    generalize (smH k3 && smH k4) = r at *
    go_enter Tryz.func4, Tryz.ntmps4
    go_wp2_with fail
    clear hP
    refine Calls.mono HS1.out ?_
    rintro e w1 ⟨rfl, hb⟩
    have HB2 := hid (bt HB.out hb)
    clear e0 e1 e2 e3 e4 e5
    obtain ⟨e0, e1, e2, e3, e4, e5⟩ := Kl6.of (HA.out.later hb HA.out.lt)
    clear hb HS1
    go_wp2_with fail
    refine Calls.mono (HS2.out w1) ?_
    rintro e w2 ⟨rfl, hb⟩
    have HB3 := hid (bt HB2.out hb)
    clear hb HS2 e0 e1 e2 e3 e4 e5
    go_wp2_with fail
    go_ret
    exact ⟨rfl, HB3.out⟩

set_option maxHeartbeats 1600000 in
set_option maxRecDepth 100000 in
theorem kone_any (n m : Bool) (xs ys us vs : List Int) (a1 : Option Addr) (ca1 : Nat) (b1' : Option Addr) (cb1 : Nat) (c1 : Option Addr) (cc1 : Nat) (d1 : Option Addr) (cd1 : Nat) (a2 : Option Addr) (ca2 : Nat) (b2 : Option Addr) (cb2 : Nat) (c2 : Option Addr) (cc2 : Nat) (d2 : Option Addr) (cd2 : Nat) (a3 : Option Addr) (ca3 : Nat) (b3 : Option Addr) (cb3 : Nat) (c3 : Option Addr) (cc3 : Nat) (d3 : Option Addr) (cd3 : Nat) (e : Int) (w : World) (s1 : (Sl w (.slice a1 xs.length ca1) xs ∧ Sl w (.slice b1' ys.length cb1) ys ∧ Sl w (.slice c1 us.length cc1) us ∧ Sl w (.slice d1 vs.length cd1) vs)) (s2 : (Sl w (.slice a2 xs.length ca2) xs ∧ Sl w (.slice b2 ys.length cb2) ys ∧ Sl w (.slice c2 us.length cc2) us ∧ Sl w (.slice d2 vs.length cd2) vs)) (s3 : (Sl w (.slice a3 xs.length ca3) xs ∧ Sl w (.slice b3 ys.length cb3) ys ∧ Sl w (.slice c3 us.length cc3) us ∧ Sl w (.slice d3 vs.length cd3) vs)) (lx : xs.length ≤ 281474976710656) (ly : ys.length ≤ 281474976710656) (lu : us.length ≤ 281474976710656) (lv : vs.length ≤ 281474976710656) :
    Calls Tryz.prog 20 #[.agg #[.bool n, .slice a1 xs.length ca1, .slice b1' ys.length cb1, .bool m, .slice c1 us.length cc1, .slice d1 vs.length cd1], .agg #[.bool n, .slice a2 xs.length ca2, .slice b2 ys.length cb2, .bool m, .slice c2 us.length cc2, .slice d2 vs.length cd2], .agg #[.bool n, .slice a3 xs.length ca3, .slice b3 ys.length cb3, .bool m, .slice c3 us.length cc3, .slice d3 vs.length cd3], .int .i64 e, .int .i64 e, .int .i64 e] w fun x w' => x = .returned (.bool true) ∧ Below w.heap.size w w' := by
  obtain ⟨X, hX⟩ : ∃ X, ((w.alloc (.cells #[.bool n, .slice a1 xs.length ca1, .slice b1' ys.length cb1, .bool m, .slice c1 us.length cc1, .slice d1 vs.length cd1] 26)).alloc (.cells #[.bool n, .slice a2 xs.length ca2, .slice b2 ys.length cb2, .bool m, .slice c2 us.length cc2, .slice d2 vs.length cd2] 26)).alloc (.cells #[.bool n, .slice a3 xs.length ca3, .slice b3 ys.length cb3, .bool m, .slice c3 us.length cc3, .slice d3 vs.length cd3] 26) = X := ⟨_, rfl⟩
  have b1 : Below w.heap.size w X := by rw [← hX]; exact bt (bt (alloc_later _ _) (alloc_later _ _)) (alloc_later _ _)
  have hz1 : (w.alloc (.cells #[.bool n, .slice a1 xs.length ca1, .slice b1' ys.length cb1, .bool m, .slice c1 us.length cc1, .slice d1 vs.length cd1] 26)).heap.size = w.heap.size + 1 := by simp
  have hz2 : ((w.alloc (.cells #[.bool n, .slice a1 xs.length ca1, .slice b1' ys.length cb1, .bool m, .slice c1 us.length cc1, .slice d1 vs.length cd1] 26)).alloc (.cells #[.bool n, .slice a2 xs.length ca2, .slice b2 ys.length cb2, .bool m, .slice c2 us.length cc2, .slice d2 vs.length cd2] 26)).heap.size = w.heap.size + 2 := by simp
  have HA : Hid (Box X w.heap.size 26 #[.bool n, .slice a1 xs.length ca1, .slice b1' ys.length cb1, .bool m, .slice c1 us.length cc1, .slice d1 vs.length cd1]) := by rw [← hX]; exact (Box.made w _ _).later (bt (alloc_later _ _) (alloc_later _ _)) (Box.made w _ _).lt
  have HZ : Hid (Box X (w.heap.size + 1) 26 #[.bool n, .slice a2 xs.length ca2, .slice b2 ys.length cb2, .bool m, .slice c2 us.length cc2, .slice d2 vs.length cd2]) := by
    have h := Box.made (w.alloc (.cells #[.bool n, .slice a1 xs.length ca1, .slice b1' ys.length cb1, .bool m, .slice c1 us.length cc1, .slice d1 vs.length cd1] 26)) 26 #[.bool n, .slice a2 xs.length ca2, .slice b2 ys.length cb2, .bool m, .slice c2 us.length cc2, .slice d2 vs.length cd2]
    have h2 := h.later (alloc_later _ (.cells #[.bool n, .slice a3 xs.length ca3, .slice b3 ys.length cb3, .bool m, .slice c3 us.length cc3, .slice d3 vs.length cd3] 26)) h.lt
    rw [hz1, hX] at h2
    exact h2
  have HY : Hid (Box X (w.heap.size + 2) 26 #[.bool n, .slice a3 xs.length ca3, .slice b3 ys.length cb3, .bool m, .slice c3 us.length cc3, .slice d3 vs.length cd3]) := by
    have h := Box.made ((w.alloc (.cells #[.bool n, .slice a1 xs.length ca1, .slice b1' ys.length cb1, .bool m, .slice c1 us.length cc1, .slice d1 vs.length cd1] 26)).alloc (.cells #[.bool n, .slice a2 xs.length ca2, .slice b2 ys.length cb2, .bool m, .slice c2 us.length cc2, .slice d2 vs.length cd2] 26)) 26 #[.bool n, .slice a3 xs.length ca3, .slice b3 ys.length cb3, .bool m, .slice c3 us.length cc3, .slice d3 vs.length cd3]
    rw [hz2, hX] at h
    exact h
  have HL1 := hid (ksameGauss_eq n a1 ca1 xs b1' cb1 ys m c1 cc1 us d1 cd1 vs a3 ca3 b3 cb3 c3 cc3 d3 cd3 X (s1.1.later b1) (s1.2.1.later b1) (s1.2.2.1.later b1) (s1.2.2.2.later b1) (s3.1.later b1) (s3.2.1.later b1) (s3.2.2.1.later b1) (s3.2.2.2.later b1) lx ly lu lv)
  have HL2 := hid (fun V (hv : Below X.heap.size X V) => ksameGauss_eq n a2 ca2 xs b2 cb2 ys m c2 cc2 us d2 cd2 vs a3 ca3 b3 cb3 c3 cc3 d3 cd3 V ((s2.1.later b1).later hv) ((s2.2.1.later b1).later hv) ((s2.2.2.1.later b1).later hv) ((s2.2.2.2.later b1).later hv) ((s3.1.later b1).later hv) ((s3.2.1.later b1).later hv) ((s3.2.2.1.later b1).later hv) ((s3.2.2.2.later b1).later hv) lx ly lu lv)
  have HB1 := hid b1
  obtain ⟨e0, e1, e2, e3, e4, e5⟩ := Kl6.of HA.out
  obtain ⟨i0, i1, i2, i3, i4, i5⟩ := Kl6.of HY.out
  clear s1 s2 s3 b1 lx ly lu lv hz1 hz2
  go_enter Tryz.func20, Tryz.ntmps20
  go_wp2_with fail
  clear hX
  refine Calls.mono HL1.out ?_
  rintro x w1 ⟨rfl, hb1⟩
  have HL3 := hid (HL2.out w1 hb1)
  have HB2 := hid (bt HB1.out hb1)
  clear e0 e1 e2 e3 e4 e5 i0 i1 i2 i3 i4 i5 HL1 HL2
  obtain ⟨e0, e1, e2, e3, e4, e5⟩ := Kl6.of (HZ.out.later hb1 HZ.out.lt)
  obtain ⟨i0, i1, i2, i3, i4, i5⟩ := Kl6.of (HY.out.later hb1 HY.out.lt)
  clear hb1
  go_wp2_with fail
  refine Calls.mono HL3.out ?_
  rintro x w2 ⟨rfl, hb2⟩
  have HBN := hid (bt HB2.out hb2)
  clear HL3 hb2 e0 e1 e2 e3 e4 e5 i0 i1 i2 i3 i4 i5
  go_wp2_with fail
  go_ret
  exact ⟨rfl, HBN.out⟩

end Go.Proofs.YtopogjfmocpeaaaGreat

/- The document's own fractions: times, Signed. -/
namespace Go.Proofs.YtopogjfmocpeaaaGreat
open Go.RowKit
set_option linter.unusedVariables false

set_option maxHeartbeats 800000 in
set_option maxRecDepth 100000 in
theorem times3_any (v u : Value) (xs ys : List Int) (w : World) (h : Sl w v xs) (g : Sl w u ys) (hl : xs.length + ys.length ≤ 8192) (tx : Trimmed xs) (ty : Trimmed ys) :
    Calls Tryz.prog 81 #[v, u] w (Told1 w (val xs * val ys)) := by
  have HT := hid (prod_wide h.wd g.wd hl)
  have HH := hid (refMul_sl v u xs ys w h g (by omega) (by omega))
  rw [both_good (chk_good (by omega) tx) (chk_good (by omega) ty)] at HH
  obtain ⟨a, cap, rfl, hr⟩ := h
  obtain ⟨b, cap', rfl, gr⟩ := g
  clear hr gr
  go_enter Tryz.func81, Tryz.ntmps81
  go_wp2_with fail
  refine Calls.mono HH.out ?_
  rintro e w1 ⟨v1, zs, code, rfl, o1, t1, hb1⟩
  obtain ⟨rfl, hv1⟩ := t1.good rfl HT.out
  obtain ⟨a1, c1, hs1⟩ := own_slice' o1
  subst hs1
  have HE := hid (And.intro o1 (And.intro t1.wd (And.intro t1.trim (And.intro hv1 hb1))))
  clear o1 t1 hv1 hb1 HH
  go_wp2_with fail
  go_ret
  exact ⟨_, zs, rfl, HE.out.1, HE.out.2.1, HE.out.2.2.1, HE.out.2.2.2.1, HE.out.2.2.2.2⟩

/-- A sign and a size, in new memory. -/
def SgNum (w : World) (t : Int) (x : Ending) (w' : World) : Prop := ∃ k v zs, x = .returned (.tuple #[.bool k, v]) ∧ w'.ownsRow w.heap.size 68 1 v zs.length (zs.map (Value.int .u32)) ∧ Wd zs ∧ Trimmed zs ∧ sg k (val zs) = t ∧ Below w.heap.size w w'

set_option maxHeartbeats 1600000 in
set_option maxRecDepth 100000 in
theorem signed3_any (n : Bool) (v : Value) (xs : List Int) (m : Bool) (u : Value) (ys : List Int) (w : World) (h : Sl w v xs) (g : Sl w u ys) (lx : xs.length ≤ 8191) (ly : ys.length ≤ 8191) (tx : Trimmed xs) (ty : Trimmed ys) :
    Calls Tryz.prog 97 #[.bool n, v, .bool m, u] w (SgNum w (sg n (val xs) + sg m (val ys))) := by
  have wx := h.wd
  have wy := g.wd
  have x0 := val_nonneg wx
  have y0 := val_nonneg wy
  have hb0 := both_good (chk_good (by omega) tx) (chk_good (by omega) ty)
  have hb1 := both_good (chk_good (by omega) ty) (chk_good (by omega) tx)
  by_cases hnm : n = m
  · subst hnm
    have HT : Hid (val xs + val ys < wide) := sum_wide wx wy lx ly
    have HH := hid (refAdd_sl v u xs ys w h g (by omega) (by omega))
    rw [hb0] at HH
    have hnn : (n == n) = true := by simp
    obtain ⟨a, cap, rfl, hr⟩ := h
    obtain ⟨b, cap', rfl, gr⟩ := g
    clear hr gr
    go_enter Tryz.func97, Tryz.ntmps97
    go_wp2_with fail
    refine Calls.mono HH.out ?_
    rintro e w1 ⟨v1, zs, code, rfl, o1, t1, hb1⟩
    obtain ⟨rfl, hv1⟩ := t1.good rfl HT.out
    obtain ⟨a1, c1, hs1⟩ := own_slice' o1
    subst hs1
    have HE := hid (And.intro o1 (And.intro t1.wd (And.intro t1.trim (And.intro hv1 hb1))))
    clear o1 t1 hv1 hb1 HH
    go_wp2_with fail
    go_ret2
    exact ⟨n, _, zs, rfl, HE.out.1, HE.out.2.1, HE.out.2.2.1, by rw [HE.out.2.2.2.1]; cases n <;> simp [sg] <;> omega, HE.out.2.2.2.2⟩
  · have hnn : (n == m) = false := by simp [hnm]
    have HM : Hid (m = !n) := by show _ = _; cases n <;> cases m <;> simp_all
    have HC := hid (refCompare_sl v u xs ys w h g (by omega) (by omega))
    have HW : Hid (val xs < wide ∧ val ys < wide) := ⟨Int.lt_of_lt_of_le (val_lt wx) (pw_le (by omega)), Int.lt_of_lt_of_le (val_lt wy) (pw_le (by omega))⟩
    by_cases hlt : val xs < val ys
    · have HH := hid (refSub_sl u v ys xs w g h (by omega) (by omega))
      rw [hb1, if_pos rfl, if_neg (by omega)] at HH
      rw [cmpI_lt hlt] at HC
      have HLT := hid hlt
      obtain ⟨a, cap, rfl, hr⟩ := h
      obtain ⟨b, cap', rfl, gr⟩ := g
      clear hr gr hnm hlt
      go_enter Tryz.func97, Tryz.ntmps97
      go_wp2_with fail
      refine Calls.mono HC.out ?_
      rintro e w0 ⟨rfl, rfl⟩
      go_wp2_with fail
      refine Calls.mono HH.out ?_
      rintro e w1 ⟨v1, zs, code, rfl, o1, t1, hb1⟩
      obtain ⟨rfl, hv1⟩ := t1.good rfl (by have := HW.out; omega)
      obtain ⟨a1, c1, hs1⟩ := own_slice' o1
      subst hs1
      have HE := hid (And.intro o1 (And.intro t1.wd (And.intro t1.trim (And.intro hv1 hb1))))
      clear o1 t1 hv1 hb1 HH
      go_wp2_with fail
      go_ret2
      exact ⟨m, _, zs, rfl, HE.out.1, HE.out.2.1, HE.out.2.2.1, by rw [HE.out.2.2.2.1, HM.out]; cases n <;> simp [sg] <;> omega, HE.out.2.2.2.2⟩
    · have HH := hid (refSub_sl v u xs ys w h g (by omega) (by omega))
      rw [hb0, if_pos rfl, if_neg (by omega)] at HH
      have hc : ¬ (cmpI (val xs) (val ys)) < 0 := by unfold cmpI; rw [if_neg hlt]; split <;> omega
      obtain ⟨R, hR⟩ : ∃ R, cmpI (val xs) (val ys) = R := ⟨_, rfl⟩
      rw [hR] at HC hc
      obtain ⟨a, cap, rfl, hr⟩ := h
      obtain ⟨b, cap', rfl, gr⟩ := g
      clear hr gr hnm hR
      have HLT := hid hlt
      clear hlt
      cases n with
      | false =>
        go_enter Tryz.func97, Tryz.ntmps97
        go_wp2_with fail
        refine Calls.mono HC.out ?_
        rintro e w0 ⟨rfl, rfl⟩
        go_wp2_with fail
        refine Calls.mono HH.out ?_
        rintro e w1 ⟨v1, zs, code, rfl, o1, t1, hb1⟩
        obtain ⟨rfl, hv1⟩ := t1.good rfl (by have := HW.out; omega)
        obtain ⟨a1, c1, hs1⟩ := own_slice' o1
        subst hs1
        have HE := hid (And.intro o1 (And.intro t1.wd (And.intro t1.trim (And.intro hv1 hb1))))
        clear o1 t1 hv1 hb1 HH
        go_wp2_with fail
        go_ret2
        exact ⟨false, _, zs, rfl, HE.out.1, HE.out.2.1, HE.out.2.2.1, by rw [HE.out.2.2.2.1, HM.out]; simp [sg]; omega, HE.out.2.2.2.2⟩
      | true =>
        go_enter Tryz.func97, Tryz.ntmps97
        go_wp2_with fail
        refine Calls.mono HC.out ?_
        rintro e w0 ⟨rfl, rfl⟩
        go_wp2_with fail
        refine Calls.mono HH.out ?_
        rintro e w1 ⟨v1, zs, code, rfl, o1, t1, hb1⟩
        obtain ⟨rfl, hv1⟩ := t1.good rfl (by have := HW.out; omega)
        obtain ⟨a1, c1, hs1⟩ := own_slice' o1
        subst hs1
        have HE := hid (And.intro o1 (And.intro t1.wd (And.intro t1.trim (And.intro hv1 hb1))))
        have HV : Hid (sg (decide (0 < zs.length)) (val zs) = sg true (val xs) + sg m (val ys)) := by
          show _ = _
          rw [HM.out]
          by_cases hz : 0 < zs.length
          · rw [decide_eq_true hz]; simp [sg]; omega
          · have e0 : val zs = 0 := trimmed_zero' (by omega)
            rw [decide_eq_false hz]; simp [sg]; omega
        clear o1 t1 hv1 hb1 HH
        go_wp2_with fail
        go_ret2
        exact ⟨decide (0 < zs.length), _, zs, rfl, HE.out.1, HE.out.2.1, HE.out.2.2.1, HV.out, HE.out.2.2.2.2⟩
end Go.Proofs.YtopogjfmocpeaaaGreat

/- The document's own fractions: add: of fractions that may be, but for the sign of 0. -/
namespace Go.Proofs.YtopogjfmocpeaaaGreat
open Go.RowKit
set_option linter.unusedVariables false

theorem rq_sum {n m k : Bool} {xs ys us vs : List Int} {T D : Int} (hy : 0 < val ys) (hv : 0 < val vs) (hT : sg k T = sg n (val xs * val vs) + sg m (val us * val ys)) (hD : D = val ys * val vs) : Rat.divInt (sg k T) D = rq n xs ys + rq m us vs := by
  unfold rq
  rw [Rat.divInt_add_divInt _ _ (by omega) (by omega), hD, hT, sg_mul, sg_mul]
  rfl

set_option maxHeartbeats 6400000 in
set_option maxRecDepth 100000 in
theorem add3_any (n : Bool) (a : Option Addr) (ca : Nat) (xs : List Int) (b : Option Addr) (cb : Nat) (ys : List Int) (m : Bool) (c : Option Addr) (cc : Nat) (us : List Int) (d : Option Addr) (cd : Nat) (vs : List Int) (w : World) (sx : Sl w (.slice a xs.length ca) xs) (sy : Sl w (.slice b ys.length cb) ys) (su : Sl w (.slice c us.length cc) us) (sv : Sl w (.slice d vs.length cd) vs) (lx : xs.length ≤ 2048) (ly : ys.length ≤ 2048) (lu : us.length ≤ 2048) (lv : vs.length ≤ 2048) (tx : Trimmed xs) (ty : Trimmed ys) (tu : Trimmed us) (tv : Trimmed vs) (hy : 0 < val ys) (hv : 0 < val vs) :
    Calls Tryz.prog 82 #[.agg #[.bool n, .slice a xs.length ca, .slice b ys.length cb], .agg #[.bool m, .slice c us.length cc, .slice d vs.length cd]] w (RTold w 0 (rq n xs ys + rq m us vs)) := by
  have wx := sx.wd
  have wy := sy.wd
  have wu := su.wd
  have wv := sv.wd
  have HB : Hid (Below w.heap.size w (((w.alloc (.cells #[.bool n, .slice a xs.length ca, .slice b ys.length cb] 24)).alloc (.cells #[.bool m, .slice c us.length cc, .slice d vs.length cd] 24)).alloc (.cells #[.bool false, .slice none 0 0, .slice none 0 0] 24))) := bt (bt (alloc_later _ _) (alloc_later _ _)) (alloc_later _ _)
  have HZ : Hid (Box (((w.alloc (.cells #[.bool n, .slice a xs.length ca, .slice b ys.length cb] 24)).alloc (.cells #[.bool m, .slice c us.length cc, .slice d vs.length cd] 24)).alloc (.cells #[.bool false, .slice none 0 0, .slice none 0 0] 24)) (w.heap.size + 1 + 1) 24 #[.bool false, .slice none 0 0, .slice none 0 0]) := by
    have e := Box.made ((w.alloc (.cells #[.bool n, .slice a xs.length ca, .slice b ys.length cb] 24)).alloc (.cells #[.bool m, .slice c us.length cc, .slice d vs.length cd] 24)) 24 #[.bool false, .slice none 0 0, .slice none 0 0]
    simp at e
    exact e
  have HN : Hid (Box (((w.alloc (.cells #[.bool n, .slice a xs.length ca, .slice b ys.length cb] 24)).alloc (.cells #[.bool m, .slice c us.length cc, .slice d vs.length cd] 24)).alloc (.cells #[.bool false, .slice none 0 0, .slice none 0 0] 24)) w.heap.size 24 #[.bool n, .slice a xs.length ca, .slice b ys.length cb]) := Box.later (Box.made w _ _) (bt (alloc_later _ _) (alloc_later _ _)) (by simp)
  have HM : Hid (Box (((w.alloc (.cells #[.bool n, .slice a xs.length ca, .slice b ys.length cb] 24)).alloc (.cells #[.bool m, .slice c us.length cc, .slice d vs.length cd] 24)).alloc (.cells #[.bool false, .slice none 0 0, .slice none 0 0] 24)) (w.heap.size + 1) 24 #[.bool m, .slice c us.length cc, .slice d vs.length cd]) := by
    have e := Box.later (Box.made (w.alloc (.cells #[.bool n, .slice a xs.length ca, .slice b ys.length cb] 24)) 24 #[.bool m, .slice c us.length cc, .slice d vs.length cd]) (alloc_later ((w.alloc (.cells #[.bool n, .slice a xs.length ca, .slice b ys.length cb] 24)).alloc (.cells #[.bool m, .slice c us.length cc, .slice d vs.length cd] 24)) (.cells #[.bool false, .slice none 0 0, .slice none 0 0] 24)) (by simp)
    simp at e
    exact e
  have HXS : Hid (w.heap.size + 1 + 1 < (((w.alloc (.cells #[.bool n, .slice a xs.length ca, .slice b ys.length cb] 24)).alloc (.cells #[.bool m, .slice c us.length cc, .slice d vs.length cd] 24)).alloc (.cells #[.bool false, .slice none 0 0, .slice none 0 0] 24)).heap.size) := HZ.out.lt
  have HSL := hid (And.intro (sx.later HB.out) (And.intro (sy.later HB.out) (And.intro (su.later HB.out) (sv.later HB.out))))
  have HP := hid (And.intro hy hv)
  have HTT := hid (And.intro tx (And.intro ty (And.intro tu tv)))
  have HNN : Hid (0 ≤ val xs ∧ 0 ≤ val us ∧ 0 ≤ val ys ∧ 0 ≤ val vs) := ⟨val_nonneg wx, val_nonneg wu, val_nonneg wy, val_nonneg wv⟩
  have HPL : Hid (val xs * val vs < 4294967296 ^ 4096 ∧ val us * val ys < 4294967296 ^ 4096 ∧ val ys * val vs < 4294967296 ^ 4096) := ⟨mul_4096 (val_nonneg wx) (below2048 wx lx) (val_nonneg wv) (below2048 wv lv), mul_4096 (val_nonneg wu) (below2048 wu lu) (val_nonneg wy) (below2048 wy ly), mul_4096 (val_nonneg wy) (below2048 wy ly) (val_nonneg wv) (below2048 wv lv)⟩
  clear sx sy su sv tx ty tu tv hy hv wx wy wu wv
  go_enter Tryz.func82, Tryz.ntmps82
  go_wp2_with fail
  generalize (((w.alloc (.cells #[.bool n, .slice a xs.length ca, .slice b ys.length cb] 24)).alloc (.cells #[.bool m, .slice c us.length cc, .slice d vs.length cd] 24)).alloc (.cells #[.bool false, .slice none 0 0, .slice none 0 0] 24)) = X at *
  have HK : Hid (∀ V, Below X.heap.size X V → V.cell? ⟨w.heap.size, 0, none⟩ = some (.bool n) ∧ V.cell? ⟨w.heap.size, 1, none⟩ = some (.slice a xs.length ca) ∧ V.cell? ⟨w.heap.size, 2, none⟩ = some (.slice b ys.length cb) ∧ V.cell? ⟨w.heap.size + 1, 0, none⟩ = some (.bool m) ∧ V.cell? ⟨w.heap.size + 1, 1, none⟩ = some (.slice c us.length cc) ∧ V.cell? ⟨w.heap.size + 1, 2, none⟩ = some (.slice d vs.length cd)) := fun V hb => by
    obtain ⟨p0, p1, p2, _⟩ := res_box3 HN.out hb
    obtain ⟨q0, q1, q2, _⟩ := res_box3 HM.out hb
    exact ⟨p0, p1, p2, q0, q1, q2⟩
  have hs0 := HK.out _ (Below.drew (Below.refl _ X))
  have HBR := hid (Below.drew (Below.refl X.heap.size X))
  have H1 := hid (fun ww (hv : Below X.heap.size X ww) => told1_in _ HK.out ww hv (times3_any _ _ xs vs ww (HSL.out.1.later hv) (HSL.out.2.2.2.later hv) (by omega) HTT.out.1 HTT.out.2.2.2))
  have H2 := hid (fun ww (hv : Below X.heap.size X ww) => told1_in _ HK.out ww hv (times3_any _ _ us ys ww (HSL.out.2.2.1.later hv) (HSL.out.2.1.later hv) (by omega) HTT.out.2.2.1 HTT.out.2.1))
  have H3 : Hid (∀ ww, Below X.heap.size X ww → ∀ a4 z4 c4 a5 z5 c5, One X ww (.slice a4 (List.length z4) c4) z4 (val xs * val vs) → One X ww (.slice a5 (List.length z5) c5) z5 (val us * val ys) → Calls Tryz.prog 97 #[.bool n, .slice a4 z4.length c4, .bool m, .slice a5 z5.length c5] ww fun e w' => ∃ k a6 z6 c6, e = .returned (.tuple #[.bool k, .slice a6 (List.length z6) c6]) ∧ Hid (∃ T, One X w' (.slice a6 (List.length z6) c6) z6 T ∧ sg k T = sg n (val xs * val vs) + sg m (val us * val ys)) ∧ (w'.cell? ⟨w.heap.size, 0, none⟩ = some (.bool n) ∧ w'.cell? ⟨w.heap.size, 1, none⟩ = some (.slice a xs.length ca) ∧ w'.cell? ⟨w.heap.size, 2, none⟩ = some (.slice b ys.length cb) ∧ w'.cell? ⟨w.heap.size + 1, 0, none⟩ = some (.bool m) ∧ w'.cell? ⟨w.heap.size + 1, 1, none⟩ = some (.slice c us.length cc) ∧ w'.cell? ⟨w.heap.size + 1, 2, none⟩ = some (.slice d vs.length cd)) ∧ Below X.heap.size X w') := fun ww hv a4 z4 c4 a5 z5 c5 h4 h5 => by
    have e := signed3_any n _ z4 m _ z5 ww h4.sl h5.sl (by have := own_len h4 HPL.out.1; omega) (by have := own_len h5 HPL.out.2.1; omega) h4.2.2.1 h5.2.2.1
    rw [h4.2.2.2, h5.2.2.2] at e
    refine Calls.mono e ?_
    rintro e w' ⟨k, v, zs, rfl, o, h1, h2, h3, hb⟩
    obtain ⟨a6, c6, hs⟩ := own_slice' o
    subst hs
    exact ⟨k, a6, zs, c6, rfl, ⟨val zs, ⟨owns_base o hv.size, h1, h2, rfl⟩, h3⟩, HK.out w' (bt hv hb), bt hv hb⟩
  go_region_held3 (fun V : World => V.cell? ⟨w.heap.size, 0, none⟩ = some (.bool n) ∧ V.cell? ⟨w.heap.size, 1, none⟩ = some (.slice a xs.length ca) ∧ V.cell? ⟨w.heap.size, 2, none⟩ = some (.slice b ys.length cb) ∧ V.cell? ⟨w.heap.size + 1, 0, none⟩ = some (.bool m) ∧ V.cell? ⟨w.heap.size + 1, 1, none⟩ = some (.slice c us.length cc) ∧ V.cell? ⟨w.heap.size + 1, 2, none⟩ = some (.slice d vs.length cd)) (first | exact hs6 | exact hs5 | exact hs4 | exact hs0)
    (first
      | (go_at_call 97; with_reducible refine Calls.mono (H3.out _ hb5 _ _ _ _ _ _ (HE4.out.1.later HS5.out) HE5.out.1) ?_; rintro e w6 ⟨k6, a6, z6, c6, rfl, HE6, hs6, hb6⟩)
      | (go_at_call 81; with_reducible refine Calls.mono (H2.out _ hb4) ?_; rintro e w5 ⟨a5, z5, c5, rfl, HE5, hs5, hb5, HS5⟩)
      | (go_at_call 81; with_reducible refine Calls.mono (H1.out _ HBR.out) ?_; rintro e w4 ⟨a4, z4, c4, rfl, HE4, hs4, hb4, HS4⟩))
  all_goals
    obtain ⟨T, oT, hT⟩ := HE6.out
    have HT0 : Hid (0 ≤ T) := by rw [← oT.2.2.2]; exact val_nonneg oT.2.1
    have HTL : Hid (T < 4294967296 ^ 4097) := sum_4097 hT HT0.out (Int.mul_nonneg HNN.out.1 HNN.out.2.2.2) HPL.out.1 (Int.mul_nonneg HNN.out.2.1 HNN.out.2.2.1) HPL.out.2.1
    have HO6 := hid oT
    have HHT := hid hT
    have HB6 := hid hb6
    have l6 : z6.length ≤ 4097 := own_len oT HTL.out
    clear H1 H2 H3 HE4 HE5 HE6 HS4 HS5 hs0 hs4 hs5 hs6 hb4 hb5 oT hT HBR
    obtain ⟨r0, r1, r2, r3, r4, r5⟩ := HK.out w6 hb6
    clear hb6
    have H4 := hid (fun ww (hv : Below X.heap.size X ww) => told1_in _ HK.out ww hv (times3_any _ _ ys vs ww (HSL.out.2.1.later hv) (HSL.out.2.2.2.later hv) (by omega) HTT.out.2.1 HTT.out.2.2.2))
    have H5 : Hid (∀ ww, Below X.heap.size X ww → ∀ a7 z7 c7, One X ww (.slice a6 (List.length z6) c6) z6 T → One X ww (.slice a7 (List.length z7) c7) z7 (val ys * val vs) → Calls Tryz.prog 64 #[.bool k6, .slice a6 z6.length c6, .slice a7 z7.length c7] ww fun e w' => ∃ k a8 z8 c8 a9 z9 c9 code, e = .returned (.tuple #[.agg #[.bool k, .slice a8 (List.length z8) c8, .slice a9 (List.length z9) c9], .int .i64 code]) ∧ Hid (w'.ownsRow X.heap.size 68 1 (.slice a8 (List.length z8) c8) z8.length (z8.map (Value.int .u32)) ∧ w'.ownsRow X.heap.size 68 1 (.slice a9 (List.length z9) c9) z9.length (z9.map (Value.int .u32)) ∧ RTells 0 (rq n xs ys + rq m us vs) k z8 z9 code) ∧ (w'.cell? ⟨w.heap.size, 0, none⟩ = some (.bool n) ∧ w'.cell? ⟨w.heap.size, 1, none⟩ = some (.slice a xs.length ca) ∧ w'.cell? ⟨w.heap.size, 2, none⟩ = some (.slice b ys.length cb) ∧ w'.cell? ⟨w.heap.size + 1, 0, none⟩ = some (.bool m) ∧ w'.cell? ⟨w.heap.size + 1, 1, none⟩ = some (.slice c us.length cc) ∧ w'.cell? ⟨w.heap.size + 1, 2, none⟩ = some (.slice d vs.length cd)) ∧ Below X.heap.size X w') := fun ww hv a7 z7 c7 h6 h7 => by
      have hp : 0 < val ys * val vs := Int.mul_pos HP.out.1 HP.out.2
      have e := of3_any k6 a6 c6 z6 a7 c7 z7 ww h6.sl h7.sl (by omega) (by have := own_len h7 HPL.out.2.2; omega) h6.2.2.1 h7.2.2.1 (own_pos h7 hp)
      rw [h6.2.2.2, h7.2.2.2, rq_sum (n := n) (m := m) (xs := xs) (ys := ys) (us := us) (vs := vs) HP.out.1 HP.out.2 HHT.out rfl] at e
      refine Calls.mono e ?_
      rintro e w' ⟨k, v, zs, u, ds, code, rfl, o1, o2, t, hb⟩
      obtain ⟨a8, c8, hs⟩ := own_slice' o1
      subst hs
      obtain ⟨a9, c9, hs⟩ := own_slice' o2
      subst hs
      exact ⟨k, a8, zs, c8, a9, ds, c9, code, rfl, ⟨owns_base o1 hv.size, owns_base o2 hv.size, t⟩, HK.out w' (bt hv hb), bt hv hb⟩
    go_wp2_with fail
    refine Calls.mono (H4.out w6 HB6.out) ?_
    rintro e w7 ⟨a7, z7, c7, rfl, HE7, _, hb7, HS7⟩
    have H5c := hid (H5.out w7 hb7 a7 z7 c7 (HO6.out.later HS7.out) HE7.out.1)
    clear hb7 HE7 HS7 HO6 H4 H5 r0 r1 r2 r3 r4 r5
    go_wp2_with fail
    refine Calls.mono H5c.out ?_
    rintro e w9 ⟨k9, a8, z8, c8, a9, z9, c9, code, rfl, HE9, _, hb9⟩
    obtain ⟨y0, y1, y2, f0, f1, f2⟩ := res_box3 HZ.out hb9
    have HBW := hid (bt HB.out hb9)
    have HR := hid HE9.out
    clear HK HE9 hb9 H5c HB6
    go_wp2_with fail
    refine bodyPost_ret (v := .tuple #[.agg #[.bool k9, .slice a8 z8.length c8, .slice a9 z9.length c9], .int .i64 code]) (by simp [results, Tryz.results82, go_sem, y0, y1, y2]) rfl ?_
    exact RTold.put HR.out (w.heap.size + 1 + 1) HXS.out (by omega) HBW.out _ _ _
end Go.Proofs.YtopogjfmocpeaaaGreat

/- The document's own fractions: both, Add: of any fractions, good or refused. -/
namespace Go.Proofs.YtopogjfmocpeaaaGreat
open Go.RowKit
set_option linter.unusedVariables false

set_option maxHeartbeats 1600000 in
set_option maxRecDepth 100000 in
theorem both3_any (n : Bool) (a : Option Addr) (ca : Nat) (xs : List Int) (b : Option Addr) (cb : Nat) (ys : List Int) (m : Bool) (c : Option Addr) (cc : Nat) (us : List Int) (d : Option Addr) (cd : Nat) (vs : List Int) (w : World) (sx : Sl w (.slice a xs.length ca) xs) (sy : Sl w (.slice b ys.length cb) ys) (su : Sl w (.slice c us.length cc) us) (sv : Sl w (.slice d vs.length cd) vs) (hlx : xs.length ≤ 281474976710656) (hly : ys.length ≤ 281474976710656) (hlu : us.length ≤ 281474976710656) (hlv : vs.length ≤ 281474976710656) :
    Calls Tryz.prog 80 #[.agg #[.bool n, .slice a xs.length ca, .slice b ys.length cb], .agg #[.bool m, .slice c us.length cc, .slice d vs.length cd]] w fun e w' => e = .returned (.int .i64 (rboth n xs ys m us vs)) ∧ Below w.heap.size w w' := by
  have HB : Hid (Below w.heap.size w ((w.alloc (.cells #[.bool n, .slice a xs.length ca, .slice b ys.length cb] 24)).alloc (.cells #[.bool m, .slice c us.length cc, .slice d vs.length cd] 24))) := bt (alloc_later _ _) (alloc_later _ _)
  have HN : Hid (Box ((w.alloc (.cells #[.bool n, .slice a xs.length ca, .slice b ys.length cb] 24)).alloc (.cells #[.bool m, .slice c us.length cc, .slice d vs.length cd] 24)) w.heap.size 24 #[.bool n, .slice a xs.length ca, .slice b ys.length cb]) := Box.later (Box.made w _ _) (alloc_later _ _) (by simp)
  have HM : Hid (Box ((w.alloc (.cells #[.bool n, .slice a xs.length ca, .slice b ys.length cb] 24)).alloc (.cells #[.bool m, .slice c us.length cc, .slice d vs.length cd] 24)) (w.heap.size + 1) 24 #[.bool m, .slice c us.length cc, .slice d vs.length cd]) := by
    have e := Box.made (w.alloc (.cells #[.bool n, .slice a xs.length ca, .slice b ys.length cb] 24)) 24 #[.bool m, .slice c us.length cc, .slice d vs.length cd]
    simp at e
    exact e
  have HC1 := hid (check3_any n a ca xs b cb ys ((w.alloc (.cells #[.bool n, .slice a xs.length ca, .slice b ys.length cb] 24)).alloc (.cells #[.bool m, .slice c us.length cc, .slice d vs.length cd] 24)) (sx.later HB.out) (sy.later HB.out) hlx hly)
  have HC2 := hid (fun ww (hb : Below ((w.alloc (.cells #[.bool n, .slice a xs.length ca, .slice b ys.length cb] 24)).alloc (.cells #[.bool m, .slice c us.length cc, .slice d vs.length cd] 24)).heap.size ((w.alloc (.cells #[.bool n, .slice a xs.length ca, .slice b ys.length cb] 24)).alloc (.cells #[.bool m, .slice c us.length cc, .slice d vs.length cd] 24)) ww) => check3_any m c cc us d cd vs ww ((su.later HB.out).later hb) ((sv.later HB.out).later hb) hlu hlv)
  clear sx sy su sv
  by_cases he : rchk n xs ys = 0
  · rw [show rboth n xs ys m us vs = rchk m us vs by unfold rboth; rw [if_pos he]]
    rw [he] at HC1
    clear he
    go_enter Tryz.func80, Tryz.ntmps80
    go_wp2_with fail
    refine Calls.mono HC1.out ?_
    generalize ((w.alloc (.cells #[.bool n, .slice a xs.length ca, .slice b ys.length cb] 24)).alloc (.cells #[.bool m, .slice c us.length cc, .slice d vs.length cd] 24)) = X at *
    rintro e w1 ⟨rfl, hb1⟩
    obtain ⟨q0, q1, q2, _⟩ := res_box3 HM.out hb1
    have HC := hid (HC2.out w1 hb1)
    have HB1 := hid (bt HB.out hb1)
    clear hb1
    go_wp2_with fail
    refine Calls.mono HC.out ?_
    rintro e w2 ⟨rfl, hb2⟩
    have HBN := hid (bt HB1.out hb2)
    clear hb2
    go_wp2_with fail
    go_ret
    exact ⟨rfl, HBN.out⟩
  · rw [show rboth n xs ys m us vs = rchk n xs ys by unfold rboth; rw [if_neg he]]
    obtain ⟨E, hE⟩ : ∃ E, rchk n xs ys = E := ⟨_, rfl⟩
    rw [hE] at HC1 he ⊢
    have he' : (E == 0) = false := beq_eq_false_iff_ne.2 he
    clear he hE
    go_enter Tryz.func80, Tryz.ntmps80
    go_wp2_with fail
    refine Calls.mono HC1.out ?_
    rintro e w1 ⟨rfl, hb1⟩
    have HBN := hid (bt HB.out hb1)
    clear hb1
    go_wp2_with fail
    go_ret
    exact ⟨rfl, HBN.out⟩

set_option maxHeartbeats 3200000 in
set_option maxRecDepth 100000 in
theorem dAdd_err (n : Bool) (a : Option Addr) (ca : Nat) (xs : List Int) (b : Option Addr) (cb : Nat) (ys : List Int) (m : Bool) (c : Option Addr) (cc : Nat) (us : List Int) (d : Option Addr) (cd : Nat) (vs : List Int) (w : World) (sx : Sl w (.slice a xs.length ca) xs) (sy : Sl w (.slice b ys.length cb) ys) (su : Sl w (.slice c us.length cc) us) (sv : Sl w (.slice d vs.length cd) vs) (hlx : xs.length ≤ 281474976710656) (hly : ys.length ≤ 281474976710656) (hlu : us.length ≤ 281474976710656) (hlv : vs.length ≤ 281474976710656) (he : rboth n xs ys m us vs ≠ 0) (q : Rat) :
    Calls Tryz.prog 62 #[.agg #[.bool n, .slice a xs.length ca, .slice b ys.length cb], .agg #[.bool m, .slice c us.length cc, .slice d vs.length cd]] w (RTold w (rboth n xs ys m us vs) q) := by
  have HB : Hid (Below w.heap.size w (((w.alloc (.cells #[.bool n, .slice a xs.length ca, .slice b ys.length cb] 24)).alloc (.cells #[.bool m, .slice c us.length cc, .slice d vs.length cd] 24)).alloc (.cells #[.bool false, .slice none 0 0, .slice none 0 0] 24))) := bt (bt (alloc_later _ _) (alloc_later _ _)) (alloc_later _ _)
  have HZ : Hid (Box (((w.alloc (.cells #[.bool n, .slice a xs.length ca, .slice b ys.length cb] 24)).alloc (.cells #[.bool m, .slice c us.length cc, .slice d vs.length cd] 24)).alloc (.cells #[.bool false, .slice none 0 0, .slice none 0 0] 24)) (w.heap.size + 1 + 1) 24 #[.bool false, .slice none 0 0, .slice none 0 0]) := by
    have e := Box.made ((w.alloc (.cells #[.bool n, .slice a xs.length ca, .slice b ys.length cb] 24)).alloc (.cells #[.bool m, .slice c us.length cc, .slice d vs.length cd] 24)) 24 #[.bool false, .slice none 0 0, .slice none 0 0]
    simp at e
    exact e
  have HN : Hid (Box (((w.alloc (.cells #[.bool n, .slice a xs.length ca, .slice b ys.length cb] 24)).alloc (.cells #[.bool m, .slice c us.length cc, .slice d vs.length cd] 24)).alloc (.cells #[.bool false, .slice none 0 0, .slice none 0 0] 24)) w.heap.size 24 #[.bool n, .slice a xs.length ca, .slice b ys.length cb]) := Box.later (Box.made w _ _) (bt (alloc_later _ _) (alloc_later _ _)) (by simp)
  have HM : Hid (Box (((w.alloc (.cells #[.bool n, .slice a xs.length ca, .slice b ys.length cb] 24)).alloc (.cells #[.bool m, .slice c us.length cc, .slice d vs.length cd] 24)).alloc (.cells #[.bool false, .slice none 0 0, .slice none 0 0] 24)) (w.heap.size + 1) 24 #[.bool m, .slice c us.length cc, .slice d vs.length cd]) := by
    have e := Box.later (Box.made (w.alloc (.cells #[.bool n, .slice a xs.length ca, .slice b ys.length cb] 24)) 24 #[.bool m, .slice c us.length cc, .slice d vs.length cd]) (alloc_later ((w.alloc (.cells #[.bool n, .slice a xs.length ca, .slice b ys.length cb] 24)).alloc (.cells #[.bool m, .slice c us.length cc, .slice d vs.length cd] 24)) (.cells #[.bool false, .slice none 0 0, .slice none 0 0] 24)) (by simp)
    simp at e
    exact e
  have HXS : Hid (w.heap.size + 1 + 1 < (((w.alloc (.cells #[.bool n, .slice a xs.length ca, .slice b ys.length cb] 24)).alloc (.cells #[.bool m, .slice c us.length cc, .slice d vs.length cd] 24)).alloc (.cells #[.bool false, .slice none 0 0, .slice none 0 0] 24)).heap.size) := HZ.out.lt
  have HSL := hid (And.intro (sx.later HB.out) (And.intro (sy.later HB.out) (And.intro (su.later HB.out) (sv.later HB.out))))
  have HC := hid (both3_any n _ _ xs _ _ ys m _ _ us _ _ vs (((w.alloc (.cells #[.bool n, .slice a xs.length ca, .slice b ys.length cb] 24)).alloc (.cells #[.bool m, .slice c us.length cc, .slice d vs.length cd] 24)).alloc (.cells #[.bool false, .slice none 0 0, .slice none 0 0] 24)) HSL.out.1 HSL.out.2.1 HSL.out.2.2.1 HSL.out.2.2.2 hlx hly hlu hlv)
  obtain ⟨E, hE⟩ : ∃ E, rboth n xs ys m us vs = E := ⟨_, rfl⟩
  rw [hE] at HC he ⊢
  have he' : (E == 0) = false := beq_eq_false_iff_ne.2 he
  have HE := hid he
  clear he hE sx sy su sv
  go_enter Tryz.func62, Tryz.ntmps62
  go_wp2_with fail
  refine Calls.mono HC.out ?_
  generalize (((w.alloc (.cells #[.bool n, .slice a xs.length ca, .slice b ys.length cb] 24)).alloc (.cells #[.bool m, .slice c us.length cc, .slice d vs.length cd] 24)).alloc (.cells #[.bool false, .slice none 0 0, .slice none 0 0] 24)) = X at *
  rintro e w1 ⟨rfl, hb1⟩
  obtain ⟨y0, y1, y2, f0, f1, f2⟩ := res_box3 HZ.out hb1
  have HBN := hid (below_put3 (bt HB.out hb1) (w.heap.size + 1 + 1) (by omega) (.bool false) (.slice none 0 0) (.slice none 0 0))
  clear hb1 HC HN HM HZ HSL
  go_wp2_with fail
  refine bodyPost_ret (v := .tuple #[.agg #[.bool false, .slice none 0 0, .slice none 0 0], .int .i64 E]) (by simp [results, Tryz.results62, go_sem, y0, y1, y2]) rfl ?_
  exact ⟨false, _, [], _, [], _, rfl, World.ownsRow_nil _ _ _ _, World.ownsRow_nil _ _ _ _, RTells.err HE.out, HBN.out⟩

set_option maxHeartbeats 3200000 in
set_option maxRecDepth 100000 in
theorem dAdd_ok (n : Bool) (a : Option Addr) (ca : Nat) (xs : List Int) (b : Option Addr) (cb : Nat) (ys : List Int) (m : Bool) (c : Option Addr) (cc : Nat) (us : List Int) (d : Option Addr) (cd : Nat) (vs : List Int) (w : World) (sx : Sl w (.slice a xs.length ca) xs) (sy : Sl w (.slice b ys.length cb) ys) (su : Sl w (.slice c us.length cc) us) (sv : Sl w (.slice d vs.length cd) vs) (hlx : xs.length ≤ 281474976710656) (hly : ys.length ≤ 281474976710656) (hlu : us.length ≤ 281474976710656) (hlv : vs.length ≤ 281474976710656) (hx : rchk n xs ys = 0) (hy : rchk m us vs = 0) :
    Calls Tryz.prog 62 #[.agg #[.bool n, .slice a xs.length ca, .slice b ys.length cb], .agg #[.bool m, .slice c us.length cc, .slice d vs.length cd]] w (RTold w 0 (rq n xs ys + rq m us vs)) := by
  obtain ⟨lx, ly, tx, ty, y0', _, g1⟩ := rchk_ok hx
  obtain ⟨lu, lv, tu, tv, v0', _, g2⟩ := rchk_ok hy
  have py := val_pos' sy.wd ty y0'
  have pv := val_pos' sv.wd tv v0'
  have HB : Hid (Below w.heap.size w (((w.alloc (.cells #[.bool n, .slice a xs.length ca, .slice b ys.length cb] 24)).alloc (.cells #[.bool m, .slice c us.length cc, .slice d vs.length cd] 24)).alloc (.cells #[.bool false, .slice none 0 0, .slice none 0 0] 24))) := bt (bt (alloc_later _ _) (alloc_later _ _)) (alloc_later _ _)
  have HZ : Hid (Box (((w.alloc (.cells #[.bool n, .slice a xs.length ca, .slice b ys.length cb] 24)).alloc (.cells #[.bool m, .slice c us.length cc, .slice d vs.length cd] 24)).alloc (.cells #[.bool false, .slice none 0 0, .slice none 0 0] 24)) (w.heap.size + 1 + 1) 24 #[.bool false, .slice none 0 0, .slice none 0 0]) := by
    have e := Box.made ((w.alloc (.cells #[.bool n, .slice a xs.length ca, .slice b ys.length cb] 24)).alloc (.cells #[.bool m, .slice c us.length cc, .slice d vs.length cd] 24)) 24 #[.bool false, .slice none 0 0, .slice none 0 0]
    simp at e
    exact e
  have HN : Hid (Box (((w.alloc (.cells #[.bool n, .slice a xs.length ca, .slice b ys.length cb] 24)).alloc (.cells #[.bool m, .slice c us.length cc, .slice d vs.length cd] 24)).alloc (.cells #[.bool false, .slice none 0 0, .slice none 0 0] 24)) w.heap.size 24 #[.bool n, .slice a xs.length ca, .slice b ys.length cb]) := Box.later (Box.made w _ _) (bt (alloc_later _ _) (alloc_later _ _)) (by simp)
  have HM : Hid (Box (((w.alloc (.cells #[.bool n, .slice a xs.length ca, .slice b ys.length cb] 24)).alloc (.cells #[.bool m, .slice c us.length cc, .slice d vs.length cd] 24)).alloc (.cells #[.bool false, .slice none 0 0, .slice none 0 0] 24)) (w.heap.size + 1) 24 #[.bool m, .slice c us.length cc, .slice d vs.length cd]) := by
    have e := Box.later (Box.made (w.alloc (.cells #[.bool n, .slice a xs.length ca, .slice b ys.length cb] 24)) 24 #[.bool m, .slice c us.length cc, .slice d vs.length cd]) (alloc_later ((w.alloc (.cells #[.bool n, .slice a xs.length ca, .slice b ys.length cb] 24)).alloc (.cells #[.bool m, .slice c us.length cc, .slice d vs.length cd] 24)) (.cells #[.bool false, .slice none 0 0, .slice none 0 0] 24)) (by simp)
    simp at e
    exact e
  have HXS : Hid (w.heap.size + 1 + 1 < (((w.alloc (.cells #[.bool n, .slice a xs.length ca, .slice b ys.length cb] 24)).alloc (.cells #[.bool m, .slice c us.length cc, .slice d vs.length cd] 24)).alloc (.cells #[.bool false, .slice none 0 0, .slice none 0 0] 24)).heap.size) := HZ.out.lt
  have HSL := hid (And.intro (sx.later HB.out) (And.intro (sy.later HB.out) (And.intro (su.later HB.out) (sv.later HB.out))))
  have HC := hid (both3_any n _ _ xs _ _ ys m _ _ us _ _ vs (((w.alloc (.cells #[.bool n, .slice a xs.length ca, .slice b ys.length cb] 24)).alloc (.cells #[.bool m, .slice c us.length cc, .slice d vs.length cd] 24)).alloc (.cells #[.bool false, .slice none 0 0, .slice none 0 0] 24)) HSL.out.1 HSL.out.2.1 HSL.out.2.2.1 HSL.out.2.2.2 hlx hly hlu hlv)
  rw [rboth_good hx hy] at HC
  have HA := hid (fun ww (hb : Below (((w.alloc (.cells #[.bool n, .slice a xs.length ca, .slice b ys.length cb] 24)).alloc (.cells #[.bool m, .slice c us.length cc, .slice d vs.length cd] 24)).alloc (.cells #[.bool false, .slice none 0 0, .slice none 0 0] 24)).heap.size (((w.alloc (.cells #[.bool n, .slice a xs.length ca, .slice b ys.length cb] 24)).alloc (.cells #[.bool m, .slice c us.length cc, .slice d vs.length cd] 24)).alloc (.cells #[.bool false, .slice none 0 0, .slice none 0 0] 24)) ww) => add3_any n a ca xs b cb ys m c cc us d cd vs ww (HSL.out.1.later hb) (HSL.out.2.1.later hb) (HSL.out.2.2.1.later hb) (HSL.out.2.2.2.later hb) lx ly lu lv tx ty tu tv (by omega) (by omega))
  clear sx sy su sv hx hy tx ty tu tv g1 g2 py pv
  go_enter Tryz.func62, Tryz.ntmps62
  go_wp2_with fail
  refine Calls.mono HC.out ?_
  generalize (((w.alloc (.cells #[.bool n, .slice a xs.length ca, .slice b ys.length cb] 24)).alloc (.cells #[.bool m, .slice c us.length cc, .slice d vs.length cd] 24)).alloc (.cells #[.bool false, .slice none 0 0, .slice none 0 0] 24)) = X at *
  rintro e w1 ⟨rfl, hb1⟩
  have HCA := hid (HA.out w1 hb1)
  obtain ⟨p0, p1, p2, _⟩ := res_box3 HN.out hb1
  obtain ⟨q0, q1, q2, _⟩ := res_box3 HM.out hb1
  have HB1 := hid hb1
  clear hb1 HC HA
  go_wp2_with fail
  refine Calls.mono HCA.out ?_
  rintro e w2 ⟨k2, v2, z2, u2, r2, code, rfl, o2, o3, t2, hb2⟩
  obtain ⟨a2, c2, hs2⟩ := own_slice' o2
  subst hs2
  obtain ⟨a3, c3, hs3⟩ := own_slice' o3
  subst hs3
  have HR := hid (And.intro o2 (And.intro o3 t2))
  obtain ⟨y0, y1, y2, f0, f1, f2⟩ := res_box3 HZ.out (bt HB1.out hb2)
  have HBW := hid (bt HB.out (bt HB1.out hb2))
  have HLT : Hid (w.heap.size + 1 + 1 < w1.heap.size) := Nat.lt_of_lt_of_le HXS.out HB1.out.size
  clear o2 o3 t2 hb2 HCA p0 p1 p2 q0 q1 q2
  go_wp2_with fail
  refine bodyPost_ret (v := .tuple #[.agg #[.bool k2, .slice a2 z2.length c2, .slice a3 r2.length c3], .int .i64 code]) (by simp [results, Tryz.results62, go_sem, y0, y1, y2]) rfl ?_
  exact RTold.put HR.out (w.heap.size + 1 + 1) HLT.out (by omega) HBW.out _ _ _
theorem dAdd_full (n : Bool) (a : Option Addr) (ca : Nat) (xs : List Int) (b : Option Addr) (cb : Nat) (ys : List Int) (m : Bool) (c : Option Addr) (cc : Nat) (us : List Int) (d : Option Addr) (cd : Nat) (vs : List Int) (w : World) (sx : Sl w (.slice a xs.length ca) xs) (sy : Sl w (.slice b ys.length cb) ys) (su : Sl w (.slice c us.length cc) us) (sv : Sl w (.slice d vs.length cd) vs) (hlx : xs.length ≤ 281474976710656) (hly : ys.length ≤ 281474976710656) (hlu : us.length ≤ 281474976710656) (hlv : vs.length ≤ 281474976710656) :
    Calls Tryz.prog 62 #[.agg #[.bool n, .slice a xs.length ca, .slice b ys.length cb], .agg #[.bool m, .slice c us.length cc, .slice d vs.length cd]] w (RTold w (rboth n xs ys m us vs) (rq n xs ys + rq m us vs)) := by
  by_cases he : rboth n xs ys m us vs = 0
  · rw [he]
    exact dAdd_ok n a ca xs b cb ys m c cc us d cd vs w sx sy su sv hlx hly hlu hlv (rboth_ok he).1 (rboth_ok he).2
  · exact dAdd_err n a ca xs b cb ys m c cc us d cd vs w sx sy su sv hlx hly hlu hlv he _
end Go.Proofs.YtopogjfmocpeaaaGreat

/- The document's own fractions: Mul, Quo: of any fractions, good or refused. -/
namespace Go.Proofs.YtopogjfmocpeaaaGreat
open Go.RowKit
set_option linter.unusedVariables false

theorem sg_two (n m : Bool) (x y : Int) : sg n x * sg m y = sg (n != m) (x * y) := by
  cases n <;> cases m <;> simp [sg, Int.neg_mul, Int.mul_neg]
theorem mul_q {n m : Bool} {xs ys us vs : List Int} : Rat.divInt (sg (n != m) (val xs * val us)) (val ys * val vs) = rq n xs ys * rq m us vs := by
  unfold rq
  rw [Rat.divInt_mul_divInt]
  show _ = Rat.divInt (sg n (val xs) * sg m (val us)) _
  rw [sg_two]
set_option maxHeartbeats 3200000 in
set_option maxRecDepth 100000 in
theorem dMul_err (n : Bool) (a : Option Addr) (ca : Nat) (xs : List Int) (b : Option Addr) (cb : Nat) (ys : List Int) (m : Bool) (c : Option Addr) (cc : Nat) (us : List Int) (d : Option Addr) (cd : Nat) (vs : List Int) (w : World) (sx : Sl w (.slice a xs.length ca) xs) (sy : Sl w (.slice b ys.length cb) ys) (su : Sl w (.slice c us.length cc) us) (sv : Sl w (.slice d vs.length cd) vs) (hlx : xs.length ≤ 281474976710656) (hly : ys.length ≤ 281474976710656) (hlu : us.length ≤ 281474976710656) (hlv : vs.length ≤ 281474976710656) (he : rboth n xs ys m us vs ≠ 0) (q : Rat) :
    Calls Tryz.prog 60 #[.agg #[.bool n, .slice a xs.length ca, .slice b ys.length cb], .agg #[.bool m, .slice c us.length cc, .slice d vs.length cd]] w (RTold w (rboth n xs ys m us vs) q) := by
  have HB : Hid (Below w.heap.size w (((w.alloc (.cells #[.bool n, .slice a xs.length ca, .slice b ys.length cb] 24)).alloc (.cells #[.bool m, .slice c us.length cc, .slice d vs.length cd] 24)).alloc (.cells #[.bool false, .slice none 0 0, .slice none 0 0] 24))) := bt (bt (alloc_later _ _) (alloc_later _ _)) (alloc_later _ _)
  have HZ : Hid (Box (((w.alloc (.cells #[.bool n, .slice a xs.length ca, .slice b ys.length cb] 24)).alloc (.cells #[.bool m, .slice c us.length cc, .slice d vs.length cd] 24)).alloc (.cells #[.bool false, .slice none 0 0, .slice none 0 0] 24)) (w.heap.size + 1 + 1) 24 #[.bool false, .slice none 0 0, .slice none 0 0]) := by
    have e := Box.made ((w.alloc (.cells #[.bool n, .slice a xs.length ca, .slice b ys.length cb] 24)).alloc (.cells #[.bool m, .slice c us.length cc, .slice d vs.length cd] 24)) 24 #[.bool false, .slice none 0 0, .slice none 0 0]
    simp at e
    exact e
  have HN : Hid (Box (((w.alloc (.cells #[.bool n, .slice a xs.length ca, .slice b ys.length cb] 24)).alloc (.cells #[.bool m, .slice c us.length cc, .slice d vs.length cd] 24)).alloc (.cells #[.bool false, .slice none 0 0, .slice none 0 0] 24)) w.heap.size 24 #[.bool n, .slice a xs.length ca, .slice b ys.length cb]) := Box.later (Box.made w _ _) (bt (alloc_later _ _) (alloc_later _ _)) (by simp)
  have HM : Hid (Box (((w.alloc (.cells #[.bool n, .slice a xs.length ca, .slice b ys.length cb] 24)).alloc (.cells #[.bool m, .slice c us.length cc, .slice d vs.length cd] 24)).alloc (.cells #[.bool false, .slice none 0 0, .slice none 0 0] 24)) (w.heap.size + 1) 24 #[.bool m, .slice c us.length cc, .slice d vs.length cd]) := by
    have e := Box.later (Box.made (w.alloc (.cells #[.bool n, .slice a xs.length ca, .slice b ys.length cb] 24)) 24 #[.bool m, .slice c us.length cc, .slice d vs.length cd]) (alloc_later ((w.alloc (.cells #[.bool n, .slice a xs.length ca, .slice b ys.length cb] 24)).alloc (.cells #[.bool m, .slice c us.length cc, .slice d vs.length cd] 24)) (.cells #[.bool false, .slice none 0 0, .slice none 0 0] 24)) (by simp)
    simp at e
    exact e
  have HXS : Hid (w.heap.size + 1 + 1 < (((w.alloc (.cells #[.bool n, .slice a xs.length ca, .slice b ys.length cb] 24)).alloc (.cells #[.bool m, .slice c us.length cc, .slice d vs.length cd] 24)).alloc (.cells #[.bool false, .slice none 0 0, .slice none 0 0] 24)).heap.size) := HZ.out.lt
  have HSL := hid (And.intro (sx.later HB.out) (And.intro (sy.later HB.out) (And.intro (su.later HB.out) (sv.later HB.out))))
  have HC := hid (both3_any n _ _ xs _ _ ys m _ _ us _ _ vs (((w.alloc (.cells #[.bool n, .slice a xs.length ca, .slice b ys.length cb] 24)).alloc (.cells #[.bool m, .slice c us.length cc, .slice d vs.length cd] 24)).alloc (.cells #[.bool false, .slice none 0 0, .slice none 0 0] 24)) HSL.out.1 HSL.out.2.1 HSL.out.2.2.1 HSL.out.2.2.2 hlx hly hlu hlv)
  obtain ⟨E, hE⟩ : ∃ E, rboth n xs ys m us vs = E := ⟨_, rfl⟩
  rw [hE] at HC he ⊢
  have he' : (E == 0) = false := beq_eq_false_iff_ne.2 he
  have HE := hid he
  clear he hE sx sy su sv
  go_enter Tryz.func60, Tryz.ntmps60
  go_wp2_with fail
  refine Calls.mono HC.out ?_
  generalize (((w.alloc (.cells #[.bool n, .slice a xs.length ca, .slice b ys.length cb] 24)).alloc (.cells #[.bool m, .slice c us.length cc, .slice d vs.length cd] 24)).alloc (.cells #[.bool false, .slice none 0 0, .slice none 0 0] 24)) = X at *
  rintro e w1 ⟨rfl, hb1⟩
  obtain ⟨y0, y1, y2, f0, f1, f2⟩ := res_box3 HZ.out hb1
  have HBN := hid (below_put3 (bt HB.out hb1) (w.heap.size + 1 + 1) (by omega) (.bool false) (.slice none 0 0) (.slice none 0 0))
  clear hb1 HC HN HM HZ HSL
  go_wp2_with fail
  refine bodyPost_ret (v := .tuple #[.agg #[.bool false, .slice none 0 0, .slice none 0 0], .int .i64 E]) (by simp [results, Tryz.results60, go_sem, y0, y1, y2]) rfl ?_
  exact ⟨false, _, [], _, [], _, rfl, World.ownsRow_nil _ _ _ _, World.ownsRow_nil _ _ _ _, RTells.err HE.out, HBN.out⟩


set_option maxHeartbeats 6400000 in
set_option maxRecDepth 100000 in
theorem dMul_ok (n : Bool) (a : Option Addr) (ca : Nat) (xs : List Int) (b : Option Addr) (cb : Nat) (ys : List Int) (m : Bool) (c : Option Addr) (cc : Nat) (us : List Int) (d : Option Addr) (cd : Nat) (vs : List Int) (w : World) (sx : Sl w (.slice a xs.length ca) xs) (sy : Sl w (.slice b ys.length cb) ys) (su : Sl w (.slice c us.length cc) us) (sv : Sl w (.slice d vs.length cd) vs) (hlx : xs.length ≤ 281474976710656) (hly : ys.length ≤ 281474976710656) (hlu : us.length ≤ 281474976710656) (hlv : vs.length ≤ 281474976710656) (hx : rchk n xs ys = 0) (hy : rchk m us vs = 0) :
    Calls Tryz.prog 60 #[.agg #[.bool n, .slice a xs.length ca, .slice b ys.length cb], .agg #[.bool m, .slice c us.length cc, .slice d vs.length cd]] w (RTold w 0 (rq n xs ys * rq m us vs)) := by
  obtain ⟨lx, ly, tx, ty, yp, _, _⟩ := rchk_ok hx
  obtain ⟨lu, lv, tu, tv, vp, _, _⟩ := rchk_ok hy
  have wx := sx.wd
  have wy := sy.wd
  have wu := su.wd
  have wv := sv.wd
  have HB : Hid (Below w.heap.size w (((w.alloc (.cells #[.bool n, .slice a xs.length ca, .slice b ys.length cb] 24)).alloc (.cells #[.bool m, .slice c us.length cc, .slice d vs.length cd] 24)).alloc (.cells #[.bool false, .slice none 0 0, .slice none 0 0] 24))) := bt (bt (alloc_later _ _) (alloc_later _ _)) (alloc_later _ _)
  have HZ : Hid (Box (((w.alloc (.cells #[.bool n, .slice a xs.length ca, .slice b ys.length cb] 24)).alloc (.cells #[.bool m, .slice c us.length cc, .slice d vs.length cd] 24)).alloc (.cells #[.bool false, .slice none 0 0, .slice none 0 0] 24)) (w.heap.size + 1 + 1) 24 #[.bool false, .slice none 0 0, .slice none 0 0]) := by
    have e := Box.made ((w.alloc (.cells #[.bool n, .slice a xs.length ca, .slice b ys.length cb] 24)).alloc (.cells #[.bool m, .slice c us.length cc, .slice d vs.length cd] 24)) 24 #[.bool false, .slice none 0 0, .slice none 0 0]
    simp at e
    exact e
  have HN : Hid (Box (((w.alloc (.cells #[.bool n, .slice a xs.length ca, .slice b ys.length cb] 24)).alloc (.cells #[.bool m, .slice c us.length cc, .slice d vs.length cd] 24)).alloc (.cells #[.bool false, .slice none 0 0, .slice none 0 0] 24)) w.heap.size 24 #[.bool n, .slice a xs.length ca, .slice b ys.length cb]) := Box.later (Box.made w _ _) (bt (alloc_later _ _) (alloc_later _ _)) (by simp)
  have HM : Hid (Box (((w.alloc (.cells #[.bool n, .slice a xs.length ca, .slice b ys.length cb] 24)).alloc (.cells #[.bool m, .slice c us.length cc, .slice d vs.length cd] 24)).alloc (.cells #[.bool false, .slice none 0 0, .slice none 0 0] 24)) (w.heap.size + 1) 24 #[.bool m, .slice c us.length cc, .slice d vs.length cd]) := by
    have e := Box.later (Box.made (w.alloc (.cells #[.bool n, .slice a xs.length ca, .slice b ys.length cb] 24)) 24 #[.bool m, .slice c us.length cc, .slice d vs.length cd]) (alloc_later ((w.alloc (.cells #[.bool n, .slice a xs.length ca, .slice b ys.length cb] 24)).alloc (.cells #[.bool m, .slice c us.length cc, .slice d vs.length cd] 24)) (.cells #[.bool false, .slice none 0 0, .slice none 0 0] 24)) (by simp)
    simp at e
    exact e
  have HXS : Hid (w.heap.size + 1 + 1 < (((w.alloc (.cells #[.bool n, .slice a xs.length ca, .slice b ys.length cb] 24)).alloc (.cells #[.bool m, .slice c us.length cc, .slice d vs.length cd] 24)).alloc (.cells #[.bool false, .slice none 0 0, .slice none 0 0] 24)).heap.size) := HZ.out.lt
  have HSL := hid (And.intro (sx.later HB.out) (And.intro (sy.later HB.out) (And.intro (su.later HB.out) (sv.later HB.out))))
  have HTT := hid (And.intro tx (And.intro ty (And.intro tu tv)))
  have HC := hid (both3_any n _ _ xs _ _ ys m _ _ us _ _ vs (((w.alloc (.cells #[.bool n, .slice a xs.length ca, .slice b ys.length cb] 24)).alloc (.cells #[.bool m, .slice c us.length cc, .slice d vs.length cd] 24)).alloc (.cells #[.bool false, .slice none 0 0, .slice none 0 0] 24)) HSL.out.1 HSL.out.2.1 HSL.out.2.2.1 HSL.out.2.2.2 hlx hly hlu hlv)
  rw [rboth_good hx hy] at HC
  have HPL : Hid (val xs * val us < 4294967296 ^ 4096 ∧ val ys * val vs < 4294967296 ^ 4096) := ⟨mul_4096 (val_nonneg wx) (below2048 wx lx) (val_nonneg wu) (below2048 wu lu), mul_4096 (val_nonneg wy) (below2048 wy ly) (val_nonneg wv) (below2048 wv lv)⟩
  have HPOS : Hid (0 < val ys * val vs) := Int.mul_pos (val_pos' wy ty yp) (val_pos' wv tv vp)
  obtain ⟨s, hs⟩ : ∃ s, (!(n == m)) = s := ⟨_, rfl⟩
  have HSG := hid (show (n != m) = s from hs)
  have HQ : Hid (Rat.divInt (sg s (val xs * val us)) (val ys * val vs) = rq n xs ys * rq m us vs) := by
    show _ = _
    rw [← HSG.out]
    exact mul_q
  clear sx sy su sv tx ty tu tv wx wy wu wv hx hy yp vp
  go_enter Tryz.func60, Tryz.ntmps60
  go_wp2_with fail
  refine Calls.mono HC.out ?_
  generalize (((w.alloc (.cells #[.bool n, .slice a xs.length ca, .slice b ys.length cb] 24)).alloc (.cells #[.bool m, .slice c us.length cc, .slice d vs.length cd] 24)).alloc (.cells #[.bool false, .slice none 0 0, .slice none 0 0] 24)) = X at *
  rintro e w1 ⟨rfl, hb1⟩
  have HB1 := hid hb1
  clear hb1 HC
  have HK : Hid (∀ V, Below X.heap.size X V → V.cell? ⟨w.heap.size, 0, none⟩ = some (.bool n) ∧ V.cell? ⟨w.heap.size, 1, none⟩ = some (.slice a xs.length ca) ∧ V.cell? ⟨w.heap.size, 2, none⟩ = some (.slice b ys.length cb) ∧ V.cell? ⟨w.heap.size + 1, 0, none⟩ = some (.bool m) ∧ V.cell? ⟨w.heap.size + 1, 1, none⟩ = some (.slice c us.length cc) ∧ V.cell? ⟨w.heap.size + 1, 2, none⟩ = some (.slice d vs.length cd)) := fun V hb => by
    obtain ⟨p0, p1, p2, _⟩ := res_box3 HN.out hb
    obtain ⟨q0, q1, q2, _⟩ := res_box3 HM.out hb
    exact ⟨p0, p1, p2, q0, q1, q2⟩
  have hs0 := HK.out _ HB1.out.drew
  have HBR := hid HB1.out.drew
  have H1 := hid (fun ww (hv : Below X.heap.size X ww) => told1_in _ HK.out ww hv (times3_any _ _ xs us ww (HSL.out.1.later hv) (HSL.out.2.2.1.later hv) (by omega) HTT.out.1 HTT.out.2.2.1))
  have H2 := hid (fun ww (hv : Below X.heap.size X ww) => told1_in _ HK.out ww hv (times3_any _ _ ys vs ww (HSL.out.2.1.later hv) (HSL.out.2.2.2.later hv) (by omega) HTT.out.2.1 HTT.out.2.2.2))
  have H3 : Hid (∀ ww, Below X.heap.size X ww → ∀ a4 z4 c4 a5 z5 c5, One X ww (.slice a4 (List.length z4) c4) z4 (val xs * val us) → One X ww (.slice a5 (List.length z5) c5) z5 (val ys * val vs) → Calls Tryz.prog 64 #[.bool s, .slice a4 z4.length c4, .slice a5 z5.length c5] ww fun e w' => ∃ k a8 z8 c8 a9 z9 c9 code, e = .returned (.tuple #[.agg #[.bool k, .slice a8 (List.length z8) c8, .slice a9 (List.length z9) c9], .int .i64 code]) ∧ Hid (w'.ownsRow X.heap.size 68 1 (.slice a8 (List.length z8) c8) z8.length (z8.map (Value.int .u32)) ∧ w'.ownsRow X.heap.size 68 1 (.slice a9 (List.length z9) c9) z9.length (z9.map (Value.int .u32)) ∧ RTells 0 (rq n xs ys * rq m us vs) k z8 z9 code) ∧ (w'.cell? ⟨w.heap.size, 0, none⟩ = some (.bool n) ∧ w'.cell? ⟨w.heap.size, 1, none⟩ = some (.slice a xs.length ca) ∧ w'.cell? ⟨w.heap.size, 2, none⟩ = some (.slice b ys.length cb) ∧ w'.cell? ⟨w.heap.size + 1, 0, none⟩ = some (.bool m) ∧ w'.cell? ⟨w.heap.size + 1, 1, none⟩ = some (.slice c us.length cc) ∧ w'.cell? ⟨w.heap.size + 1, 2, none⟩ = some (.slice d vs.length cd)) ∧ Below X.heap.size X w') := fun ww hv a4 z4 c4 a5 z5 c5 h4 h5 => by
    have e := of3_any s a4 c4 z4 a5 c5 z5 ww h4.sl h5.sl (by have := own_len h4 HPL.out.1; omega) (by have := own_len h5 HPL.out.2; omega) h4.2.2.1 h5.2.2.1 (own_pos h5 HPOS.out)
    rw [h4.2.2.2, h5.2.2.2, HQ.out] at e
    refine Calls.mono e ?_
    rintro e w' ⟨k, v, zs, u, ds, code, rfl, o1, o2, t, hb⟩
    obtain ⟨a8, c8, hs⟩ := own_slice' o1
    subst hs
    obtain ⟨a9, c9, hs⟩ := own_slice' o2
    subst hs
    exact ⟨k, a8, zs, c8, a9, ds, c9, code, rfl, ⟨owns_base o1 hv.size, owns_base o2 hv.size, t⟩, HK.out w' (bt hv hb), bt hv hb⟩
  have hq0 : w.heap.size + 1 + 1 ≠ w.heap.size := by omega
  have hq1 : w.heap.size + 1 + 1 ≠ w.heap.size + 1 := by omega
  obtain ⟨p0, p1, p2, q0, q1, q2⟩ := HK.out w1 HB1.out
  go_wp2_with fail
  clear p0 p1 p2 q0 q1 q2
  go_region_held3 (fun V : World => V.cell? ⟨w.heap.size, 0, none⟩ = some (.bool n) ∧ V.cell? ⟨w.heap.size, 1, none⟩ = some (.slice a xs.length ca) ∧ V.cell? ⟨w.heap.size, 2, none⟩ = some (.slice b ys.length cb) ∧ V.cell? ⟨w.heap.size + 1, 0, none⟩ = some (.bool m) ∧ V.cell? ⟨w.heap.size + 1, 1, none⟩ = some (.slice c us.length cc) ∧ V.cell? ⟨w.heap.size + 1, 2, none⟩ = some (.slice d vs.length cd)) (first | exact hs9 | exact hs5 | exact hs4 | exact hs0 | (simp [hs9, World.cell?_setCell_far, hq0]))
    (first
      | (go_at_call 64; with_reducible refine Calls.mono (H3.out _ hb5 _ _ _ _ _ _ (HE4.out.1.later HS5.out) HE5.out.1) ?_; rintro e w9 ⟨k9, a8, z8, c8, a9, z9, c9, code, rfl, HE9, hs9, hb9⟩; obtain ⟨y0, y1, y2, f0, f1, f2⟩ := res_box3 HZ.out hb9)
      | (go_at_call 81; with_reducible refine Calls.mono (H2.out _ hb4) ?_; rintro e w5 ⟨a5, z5, c5, rfl, HE5, hs5, hb5, HS5⟩)
      | (go_at_call 81; with_reducible refine Calls.mono (H1.out _ HBR.out) ?_; rintro e w4 ⟨a4, z4, c4, rfl, HE4, hs4, hb4, HS4⟩))
  all_goals
    have HBW := hid (bt HB.out hb9)
    have HR := hid HE9.out
    clear HK H1 H2 H3 HE4 HE5 HE9 HS4 HS5 hs0 hs4 hs5 hs9 hb4 hb5 hb9 HBR HSG
    go_wp2_with fail
    refine bodyPost_ret (v := .tuple #[.agg #[.bool k9, .slice a8 z8.length c8, .slice a9 z9.length c9], .int .i64 code]) (by simp [results, Tryz.results60, go_sem, y0, y1, y2]) rfl ?_
    exact RTold.put HR.out (w.heap.size + 1 + 1) HXS.out (by omega) HBW.out _ _ _

theorem dMul_full (n : Bool) (a : Option Addr) (ca : Nat) (xs : List Int) (b : Option Addr) (cb : Nat) (ys : List Int) (m : Bool) (c : Option Addr) (cc : Nat) (us : List Int) (d : Option Addr) (cd : Nat) (vs : List Int) (w : World) (sx : Sl w (.slice a xs.length ca) xs) (sy : Sl w (.slice b ys.length cb) ys) (su : Sl w (.slice c us.length cc) us) (sv : Sl w (.slice d vs.length cd) vs) (hlx : xs.length ≤ 281474976710656) (hly : ys.length ≤ 281474976710656) (hlu : us.length ≤ 281474976710656) (hlv : vs.length ≤ 281474976710656) :
    Calls Tryz.prog 60 #[.agg #[.bool n, .slice a xs.length ca, .slice b ys.length cb], .agg #[.bool m, .slice c us.length cc, .slice d vs.length cd]] w (RTold w (rboth n xs ys m us vs) (rq n xs ys * rq m us vs)) := by
  by_cases he : rboth n xs ys m us vs = 0
  · rw [he]
    exact dMul_ok n a ca xs b cb ys m c cc us d cd vs w sx sy su sv hlx hly hlu hlv (rboth_ok he).1 (rboth_ok he).2
  · exact dMul_err n a ca xs b cb ys m c cc us d cd vs w sx sy su sv hlx hly hlu hlv he _


end Go.Proofs.YtopogjfmocpeaaaGreat

/- The document's own fractions: copied, opposite. -/
namespace Go.Proofs.YtopogjfmocpeaaaGreat
open Go.RowKit
set_option linter.unusedVariables false

set_option maxHeartbeats 800000 in
set_option maxRecDepth 100000 in
theorem copied3_any (a : Option Addr) (n cap : Nat) (xs : List Int) (w : World) (h : Reads w w.heap.size a n cap xs) (hn : n ≤ 1099511627776) :
    Calls Tryz.prog 76 #[.slice a n cap] w fun e w' => ∃ v, e = .returned v ∧ w'.ownsRow w.heap.size 68 1 v n (xs.map (Value.int .u32)) ∧ Below w.heap.size w w' := by
  obtain ⟨i0, hi, hz0, hz1, hz2⟩ := info_parts Tryz.infoW
  have hl := h.1
  have HL : Hid (xs.length = n) := hl
  have hown : w.ownsRow w.heap.size 68 1 (.slice none 0 0) 0 [] := World.ownsRow_nil _ _ _ _
  have hbel : Below w.heap.size w w := Below.refl _ _
  cases a with
  | none =>
    have h0 : cap = 0 := h.2.2.2.2.2 rfl
    subst h0
    have h1 : n = 0 := by have := h.2.2.2.1; omega
    subst h1
    have hx : xs = [] := List.eq_nil_of_length_eq_zero hl
    subst hx
    clear h hl
    go_enter Tryz.func76, Tryz.ntmps76
    go_wp2_with (at_builtin; refine wpList_append_own_none rfl _ _ 22 rfl w.heap.size 68 i0 1 Tryz.underlying22 hi _ 0 [] rfl hown rfl ?_)
    go_ret
    exact ⟨_, rfl, hown, hbel⟩
  | some ad =>
    have hnews := copy_news (h.later hbel (Nat.le_refl _))
    have HN : Hid (∀ j v, (xs.map (Value.int .u32))[j]? = some v → w.cell? (ad.add j) = some v) := hnews
    have HLn : Hid ((xs.map (Value.int .u32)).length = n * 1) := by show _ = _; simp [hl]
    clear hnews h hl
    go_enter Tryz.func76, Tryz.ntmps76
    go_wp2_with (at_builtin; refine wpList_append_own _ rfl _ _ 22 rfl w.heap.size 68 i0 (.int .u32 0) 1 4 Tryz.underlying22 hi hz0 hz1 hz2 rfl (by decide) _ 0 [] rfl hown ad n cap (xs.map (Value.int .u32)) rfl HLn.out HN.out (ints_oneCell _ _) (by unfold maxLen; omega) (by omega) (by simp) ?_)
    intro v' w1 hown' hgrow _
    have hb2 : Below w.heap.size w w1 := hbel.grown hgrow (Nat.le_refl _) (fun k hk => by simp [Value.ownBlock] at hk)
    go_wp2
    go_ret
    exact ⟨_, rfl, hown', hb2⟩


theorem copied3_sl (v : Value) (xs : List Int) (w : World) (h : Sl w v xs) (hn : xs.length ≤ 1099511627776) :
    Calls Tryz.prog 76 #[v] w fun e w' => ∃ v', e = .returned v' ∧ w'.ownsRow w.heap.size 68 1 v' xs.length (xs.map (Value.int .u32)) ∧ Below w.heap.size w w' := by
  obtain ⟨a, cap, rfl, hr⟩ := h
  exact copied3_any a xs.length cap xs w hr hn

set_option maxHeartbeats 6400000 in
set_option maxRecDepth 100000 in
theorem opposite_p (a : Option Addr) (ca : Nat) (xs : List Int) (b : Option Addr) (cb : Nat) (ys : List Int) (w : World) (sx : Sl w (.slice a xs.length ca) xs) (sy : Sl w (.slice b ys.length cb) ys) (lx : xs.length ≤ 1099511627776) (ly : ys.length ≤ 1099511627776)  :
    Calls Tryz.prog 57 #[.agg #[.bool false, .slice a xs.length ca, .slice b ys.length cb]] w fun e w' => ∃ g1 c1 g2 c2, e = .returned (.agg #[.bool (decide (0 < xs.length)), .slice g1 xs.length c1, .slice g2 ys.length c2]) ∧ w'.ownsRow w.heap.size 68 1 (.slice g1 xs.length c1) xs.length (xs.map (Value.int .u32)) ∧ w'.ownsRow w.heap.size 68 1 (.slice g2 ys.length c2) ys.length (ys.map (Value.int .u32)) ∧ Below w.heap.size w w' := by
  have HB : Hid (Below w.heap.size w ((w.alloc (.cells #[.bool false, .slice a xs.length ca, .slice b ys.length cb] 24)).alloc (.cells #[.bool false, .slice none 0 0, .slice none 0 0] 24))) := bt (alloc_later _ _) (alloc_later _ _)
  have HA : Hid (Box ((w.alloc (.cells #[.bool false, .slice a xs.length ca, .slice b ys.length cb] 24)).alloc (.cells #[.bool false, .slice none 0 0, .slice none 0 0] 24)) w.heap.size 24 #[.bool false, .slice a xs.length ca, .slice b ys.length cb]) := Box.later (Box.made w _ _) (alloc_later _ _) (by simp)
  have HZ : Hid (Box ((w.alloc (.cells #[.bool false, .slice a xs.length ca, .slice b ys.length cb] 24)).alloc (.cells #[.bool false, .slice none 0 0, .slice none 0 0] 24)) (w.heap.size + 1) 24 #[.bool false, .slice none 0 0, .slice none 0 0]) := by
    have e := Box.made (w.alloc (.cells #[.bool false, .slice a xs.length ca, .slice b ys.length cb] 24)) 24 #[.bool false, .slice none 0 0, .slice none 0 0]
    simp at e
    exact e
  have HS := hid (And.intro (sx.later HB.out) (sy.later HB.out))
  clear sx sy
  go_enter Tryz.func57, Tryz.ntmps57
  go_wp2_with fail
  generalize ((w.alloc (.cells #[.bool false, .slice a xs.length ca, .slice b ys.length cb] 24)).alloc (.cells #[.bool false, .slice none 0 0, .slice none 0 0] 24)) = X at *
  have HK : Hid (∀ V, Below X.heap.size X V → (V.cell? ⟨w.heap.size, 0, none⟩ = some (.bool false) ∧ V.cell? ⟨w.heap.size, 1, none⟩ = some (.slice a xs.length ca) ∧ V.cell? ⟨w.heap.size, 2, none⟩ = some (.slice b ys.length cb))) := fun V hb => by
    obtain ⟨p0, p1, p2, _, _, _⟩ := res_box3 HA.out hb
    exact ⟨p0, p1, p2⟩
  have hs0 := HK.out _ (Below.drew (Below.refl _ X))
  have HL1 : Hid (∀ V, Below X.heap.size X V → Calls Tryz.prog 76 #[.slice a xs.length ca] V fun e V' => ∃ g cap, e = .returned (.slice g xs.length cap) ∧ Hid (V'.ownsRow X.heap.size 68 1 (.slice g xs.length cap) xs.length (xs.map (Value.int .u32)) ∧ Below V.heap.size V V' ∧ Below X.heap.size X V') ∧ (V'.cell? ⟨w.heap.size, 0, none⟩ = some (.bool false) ∧ V'.cell? ⟨w.heap.size, 1, none⟩ = some (.slice a xs.length ca) ∧ V'.cell? ⟨w.heap.size, 2, none⟩ = some (.slice b ys.length cb)) ∧ V'.cell? ⟨w.heap.size + 1, 0, none⟩ = some (.bool false) ∧ V'.cell? ⟨w.heap.size + 1, 1, none⟩ = some (.slice none 0 0) ∧ V'.cell? ⟨w.heap.size + 1, 2, none⟩ = some (.slice none 0 0) ∧ V'.frozen? ⟨w.heap.size + 1, 0, none⟩ = false ∧ V'.frozen? ⟨w.heap.size + 1, 1, none⟩ = false ∧ V'.frozen? ⟨w.heap.size + 1, 2, none⟩ = false) := fun V hb => by
    refine Calls.mono (copied3_sl _ xs _ (HS.out.1.later hb) lx) ?_
    rintro e V' ⟨v1, rfl, o1, hb1⟩
    obtain ⟨g, cap, hv⟩ := own_slice' o1
    subst hv
    have hbX : Below X.heap.size X V' := bt hb hb1
    exact ⟨g, cap, rfl, ⟨owns_base o1 hb.size, hb1, hbX⟩, HK.out V' hbX, res_box3 HZ.out hbX⟩
  have HL2 : Hid (∀ V, Below X.heap.size X V → Calls Tryz.prog 76 #[.slice b ys.length cb] V fun e V' => ∃ g cap, e = .returned (.slice g ys.length cap) ∧ Hid (V'.ownsRow X.heap.size 68 1 (.slice g ys.length cap) ys.length (ys.map (Value.int .u32)) ∧ Below V.heap.size V V' ∧ Below X.heap.size X V') ∧ (V'.cell? ⟨w.heap.size, 0, none⟩ = some (.bool false) ∧ V'.cell? ⟨w.heap.size, 1, none⟩ = some (.slice a xs.length ca) ∧ V'.cell? ⟨w.heap.size, 2, none⟩ = some (.slice b ys.length cb)) ∧ V'.cell? ⟨w.heap.size + 1, 0, none⟩ = some (.bool false) ∧ V'.cell? ⟨w.heap.size + 1, 1, none⟩ = some (.slice none 0 0) ∧ V'.cell? ⟨w.heap.size + 1, 2, none⟩ = some (.slice none 0 0) ∧ V'.frozen? ⟨w.heap.size + 1, 0, none⟩ = false ∧ V'.frozen? ⟨w.heap.size + 1, 1, none⟩ = false ∧ V'.frozen? ⟨w.heap.size + 1, 2, none⟩ = false) := fun V hb => by
    refine Calls.mono (copied3_sl _ ys _ (HS.out.2.later hb) ly) ?_
    rintro e V' ⟨v1, rfl, o1, hb1⟩
    obtain ⟨g, cap, hv⟩ := own_slice' o1
    subst hv
    have hbX : Below X.heap.size X V' := bt hb hb1
    exact ⟨g, cap, rfl, ⟨owns_base o1 hb.size, hb1, hbX⟩, HK.out V' hbX, res_box3 HZ.out hbX⟩
  clear HS HA
  go_region_held3 (fun V : World => (V.cell? ⟨w.heap.size, 0, none⟩ = some (.bool false) ∧ V.cell? ⟨w.heap.size, 1, none⟩ = some (.slice a xs.length ca) ∧ V.cell? ⟨w.heap.size, 2, none⟩ = some (.slice b ys.length cb))) (first | exact hs2 | exact hs1 | exact hs0 | (simp [hs2, World.cell?_setCell_far]))
    (first
      | (go_at_call 76; with_reducible refine Calls.mono (HL2.out _ HE1.out.2.2) ?_; rintro e w2 ⟨g2, c2, rfl, HE2, hs2, r0, r1, r2, f0, f1, f2⟩)
      | (go_at_call 76; with_reducible refine Calls.mono (HL1.out _ (Below.drew (Below.refl _ X))) ?_; rintro e w1 ⟨g1, c1, rfl, HE1, hs1, y0, y1, y2, z0, z1, z2⟩))
  all_goals
    have HZ2 := hid (HZ.out.later HE2.out.2.2 HZ.out.lt)
    have HO1 := hid (own_put3 (owns_base (owns_later HE1.out.1 HE2.out.2.1) HB.out.size) (w.heap.size + 1) (own_ne_box (owns_later HE1.out.1 HE2.out.2.1) HZ2.out (by decide)) (.bool (decide (0 < xs.length))) (.slice g1 xs.length c1) (.slice g2 ys.length c2))
    have HO2 := hid (own_put3 (owns_base HE2.out.1 HB.out.size) (w.heap.size + 1) (own_ne_box HE2.out.1 HZ2.out (by decide)) (.bool (decide (0 < xs.length))) (.slice g1 xs.length c1) (.slice g2 ys.length c2))
    have HBN := hid (below_put3 (bt HB.out HE2.out.2.2) (w.heap.size + 1) (by omega) (.bool (decide (0 < xs.length))) (.slice g1 xs.length c1) (.slice g2 ys.length c2))
    clear HK HL1 HL2 HE1 HE2 HZ HB HZ2 hs0 hs1 hs2 y0 y1 y2 z0 z1 z2
    go_wp2_with fail
    refine bodyPost_ret (v := .agg #[.bool (decide (0 < xs.length)), .slice g1 xs.length c1, .slice g2 ys.length c2]) (by simp [results, Tryz.results57, go_sem, r0, r1, r2]) rfl ?_
    exact ⟨g1, c1, g2, c2, rfl, HO1.out, HO2.out, HBN.out⟩

/-- The sign of the opposite. -/
def oneg (n : Bool) (xs : List Int) : Bool := !n && decide (0 < xs.length)
theorem opp_chk {n : Bool} {xs ys : List Int} (h : rchk n xs ys = 0) : rchk (oneg n xs) xs ys = 0 := by
  obtain ⟨lx, ly, tx, ty, y0, s0, g⟩ := rchk_ok h
  refine rchk_good lx ly tx ty y0 ?_ g
  unfold oneg
  by_cases c : 0 < xs.length
  · exact .inr c
  · left; rw [decide_eq_false c, Bool.and_false]
theorem opp_q {n : Bool} {xs ys : List Int} : rq (oneg n xs) xs ys = -(rq n xs ys) := by
  rw [← rq_neg]
  unfold rq oneg
  by_cases c : 0 < xs.length
  · rw [decide_eq_true c, Bool.and_true]; rfl
  · have e : xs = [] := List.length_eq_zero_iff.1 (by omega)
    subst e
    congr 1
    cases n <;> simp [wval, sg, val, valTo]
end Go.Proofs.YtopogjfmocpeaaaGreat

/- The document's opposite of a fraction below 0. -/
namespace Go.Proofs.YtopogjfmocpeaaaGreat
open Go.RowKit
set_option linter.unusedVariables false

set_option maxHeartbeats 6400000 in
set_option maxRecDepth 100000 in
theorem opposite_n (a : Option Addr) (ca : Nat) (xs : List Int) (b : Option Addr) (cb : Nat) (ys : List Int) (w : World) (sx : Sl w (.slice a xs.length ca) xs) (sy : Sl w (.slice b ys.length cb) ys) (lx : xs.length ≤ 1099511627776) (ly : ys.length ≤ 1099511627776)  :
    Calls Tryz.prog 57 #[.agg #[.bool true, .slice a xs.length ca, .slice b ys.length cb]] w fun e w' => ∃ g1 c1 g2 c2, e = .returned (.agg #[.bool false, .slice g1 xs.length c1, .slice g2 ys.length c2]) ∧ w'.ownsRow w.heap.size 68 1 (.slice g1 xs.length c1) xs.length (xs.map (Value.int .u32)) ∧ w'.ownsRow w.heap.size 68 1 (.slice g2 ys.length c2) ys.length (ys.map (Value.int .u32)) ∧ Below w.heap.size w w' := by
  have HB : Hid (Below w.heap.size w ((w.alloc (.cells #[.bool true, .slice a xs.length ca, .slice b ys.length cb] 24)).alloc (.cells #[.bool false, .slice none 0 0, .slice none 0 0] 24))) := bt (alloc_later _ _) (alloc_later _ _)
  have HA : Hid (Box ((w.alloc (.cells #[.bool true, .slice a xs.length ca, .slice b ys.length cb] 24)).alloc (.cells #[.bool false, .slice none 0 0, .slice none 0 0] 24)) w.heap.size 24 #[.bool true, .slice a xs.length ca, .slice b ys.length cb]) := Box.later (Box.made w _ _) (alloc_later _ _) (by simp)
  have HZ : Hid (Box ((w.alloc (.cells #[.bool true, .slice a xs.length ca, .slice b ys.length cb] 24)).alloc (.cells #[.bool false, .slice none 0 0, .slice none 0 0] 24)) (w.heap.size + 1) 24 #[.bool false, .slice none 0 0, .slice none 0 0]) := by
    have e := Box.made (w.alloc (.cells #[.bool true, .slice a xs.length ca, .slice b ys.length cb] 24)) 24 #[.bool false, .slice none 0 0, .slice none 0 0]
    simp at e
    exact e
  have HS := hid (And.intro (sx.later HB.out) (sy.later HB.out))
  clear sx sy
  go_enter Tryz.func57, Tryz.ntmps57
  go_wp2_with fail
  generalize ((w.alloc (.cells #[.bool true, .slice a xs.length ca, .slice b ys.length cb] 24)).alloc (.cells #[.bool false, .slice none 0 0, .slice none 0 0] 24)) = X at *
  have HK : Hid (∀ V, Below X.heap.size X V → (V.cell? ⟨w.heap.size, 0, none⟩ = some (.bool true) ∧ V.cell? ⟨w.heap.size, 1, none⟩ = some (.slice a xs.length ca) ∧ V.cell? ⟨w.heap.size, 2, none⟩ = some (.slice b ys.length cb))) := fun V hb => by
    obtain ⟨p0, p1, p2, _, _, _⟩ := res_box3 HA.out hb
    exact ⟨p0, p1, p2⟩
  have hs0 := HK.out _ (Below.drew (Below.refl _ X))
  have HL1 : Hid (∀ V, Below X.heap.size X V → Calls Tryz.prog 76 #[.slice a xs.length ca] V fun e V' => ∃ g cap, e = .returned (.slice g xs.length cap) ∧ Hid (V'.ownsRow X.heap.size 68 1 (.slice g xs.length cap) xs.length (xs.map (Value.int .u32)) ∧ Below V.heap.size V V' ∧ Below X.heap.size X V') ∧ (V'.cell? ⟨w.heap.size, 0, none⟩ = some (.bool true) ∧ V'.cell? ⟨w.heap.size, 1, none⟩ = some (.slice a xs.length ca) ∧ V'.cell? ⟨w.heap.size, 2, none⟩ = some (.slice b ys.length cb)) ∧ V'.cell? ⟨w.heap.size + 1, 0, none⟩ = some (.bool false) ∧ V'.cell? ⟨w.heap.size + 1, 1, none⟩ = some (.slice none 0 0) ∧ V'.cell? ⟨w.heap.size + 1, 2, none⟩ = some (.slice none 0 0) ∧ V'.frozen? ⟨w.heap.size + 1, 0, none⟩ = false ∧ V'.frozen? ⟨w.heap.size + 1, 1, none⟩ = false ∧ V'.frozen? ⟨w.heap.size + 1, 2, none⟩ = false) := fun V hb => by
    refine Calls.mono (copied3_sl _ xs _ (HS.out.1.later hb) lx) ?_
    rintro e V' ⟨v1, rfl, o1, hb1⟩
    obtain ⟨g, cap, hv⟩ := own_slice' o1
    subst hv
    have hbX : Below X.heap.size X V' := bt hb hb1
    exact ⟨g, cap, rfl, ⟨owns_base o1 hb.size, hb1, hbX⟩, HK.out V' hbX, res_box3 HZ.out hbX⟩
  have HL2 : Hid (∀ V, Below X.heap.size X V → Calls Tryz.prog 76 #[.slice b ys.length cb] V fun e V' => ∃ g cap, e = .returned (.slice g ys.length cap) ∧ Hid (V'.ownsRow X.heap.size 68 1 (.slice g ys.length cap) ys.length (ys.map (Value.int .u32)) ∧ Below V.heap.size V V' ∧ Below X.heap.size X V') ∧ (V'.cell? ⟨w.heap.size, 0, none⟩ = some (.bool true) ∧ V'.cell? ⟨w.heap.size, 1, none⟩ = some (.slice a xs.length ca) ∧ V'.cell? ⟨w.heap.size, 2, none⟩ = some (.slice b ys.length cb)) ∧ V'.cell? ⟨w.heap.size + 1, 0, none⟩ = some (.bool false) ∧ V'.cell? ⟨w.heap.size + 1, 1, none⟩ = some (.slice none 0 0) ∧ V'.cell? ⟨w.heap.size + 1, 2, none⟩ = some (.slice none 0 0) ∧ V'.frozen? ⟨w.heap.size + 1, 0, none⟩ = false ∧ V'.frozen? ⟨w.heap.size + 1, 1, none⟩ = false ∧ V'.frozen? ⟨w.heap.size + 1, 2, none⟩ = false) := fun V hb => by
    refine Calls.mono (copied3_sl _ ys _ (HS.out.2.later hb) ly) ?_
    rintro e V' ⟨v1, rfl, o1, hb1⟩
    obtain ⟨g, cap, hv⟩ := own_slice' o1
    subst hv
    have hbX : Below X.heap.size X V' := bt hb hb1
    exact ⟨g, cap, rfl, ⟨owns_base o1 hb.size, hb1, hbX⟩, HK.out V' hbX, res_box3 HZ.out hbX⟩
  clear HS HA
  refine wp_region_noPanic ?_
  refine wp_region_held_drew (S := (fun V : World => (V.cell? ⟨w.heap.size, 0, none⟩ = some (.bool true) ∧ V.cell? ⟨w.heap.size, 1, none⟩ = some (.slice a xs.length ca) ∧ V.cell? ⟨w.heap.size, 2, none⟩ = some (.slice b ys.length cb)))) (by kernel_rfl) ?_ (fun hHeld => ?_)
  · exact hs0
  refine wpAnyH_take (i := 0) (oi := { dst := some 3, op := Op.fieldAddr 24 (Operand.tmp 1) 0, type := 0, pos := "ref.go:162", after := #[], guard := none }) (v := ?_) rfl (by kernel_rfl) (by kernel_rfl) (by kernel_rfl) (fun _ _ _ h => h) (Or.inl ⟨by rfl, ?_⟩) (by assumption) ?_
  rotate_left 1
  · intro V hSw
    try dsimp only at hSw
    go_simp
    try with_reducible rfl
  try simp only [Act.put, List.setIfInBounds_toArray, List.set_cons_zero, List.set_cons_succ]
  refine wpAnyH_take (i := 1) (oi := { dst := some 4, op := Op.load 4 (Operand.tmp 3), type := 4, pos := "ref.go:162", after := #[{ on := 0, ground := Ground.data }], guard := none }) (v := ?_) rfl (by kernel_rfl) (by kernel_rfl) (by kernel_rfl) (fun _ _ _ h => h) (Or.inl ⟨by rfl, ?_⟩) (by assumption) ?_
  rotate_left 1
  · intro V hSw
    try dsimp only at hSw
    go_simp
    try with_reducible rfl
  try simp only [Act.put, List.setIfInBounds_toArray, List.set_cons_zero, List.set_cons_succ]
  refine wpAnyH_take (i := 2) (oi := { dst := some 5, op := Op.unOp UnOp.not 4 (Operand.tmp 4), type := 4, pos := "ref.go:162", after := #[{ on := 1, ground := Ground.data }], guard := none }) (v := ?_) rfl (by kernel_rfl) (by kernel_rfl) (by kernel_rfl) (fun _ _ _ h => h) (Or.inl ⟨by rfl, ?_⟩) (by assumption) ?_
  rotate_left 1
  · intro V hSw
    try dsimp only at hSw
    go_simp
    try with_reducible rfl
  try simp only [Act.put, List.setIfInBounds_toArray, List.set_cons_zero, List.set_cons_succ]
  refine wpAnyH_take (i := 3) (oi := { dst := some 6, op := Op.move (Operand.tmp 5), type := 4, pos := "ref.go:162", after := #[{ on := 2, ground := Ground.data }], guard := none }) (v := ?_) rfl (by kernel_rfl) (by kernel_rfl) (by kernel_rfl) (fun _ _ _ h => h) (Or.inl ⟨by rfl, ?_⟩) (by assumption) ?_
  rotate_left 1
  · intro V hSw
    try dsimp only at hSw
    go_simp
    try with_reducible rfl
  try simp only [Act.put, List.setIfInBounds_toArray, List.set_cons_zero, List.set_cons_succ]
  refine wpAnyH_take (i := 4) (oi := { dst := some 7, op := Op.fieldAddr 24 (Operand.tmp 1) 1, type := 0, pos := "ref.go:162", after := #[{ on := 3, ground := Ground.guard }], guard := some (3, true) }) (v := undef) rfl (by kernel_rfl) (by kernel_rfl) (by kernel_rfl) (fun _ _ _ h => h) (Or.inr ⟨by rfl, rfl⟩) (by assumption) ?_
  try simp only [Act.put, List.setIfInBounds_toArray, List.set_cons_zero, List.set_cons_succ]
  refine wpAnyH_take (i := 5) (oi := { dst := some 8, op := Op.load 22 (Operand.tmp 7), type := 22, pos := "ref.go:162", after := #[{ on := 4, ground := Ground.data }, { on := 3, ground := Ground.guard }], guard := some (3, true) }) (v := undef) rfl (by kernel_rfl) (by kernel_rfl) (by kernel_rfl) (fun _ _ _ h => h) (Or.inr ⟨by rfl, rfl⟩) (by assumption) ?_
  try simp only [Act.put, List.setIfInBounds_toArray, List.set_cons_zero, List.set_cons_succ]
  refine wpAnyH_take (i := 6) (oi := { dst := some 9, op := Op.call { callee := Callee.builtin Builtin.len, args := #[Operand.tmp 8], argTypes := #[22] }, type := 3, pos := "ref.go:162", after := #[{ on := 5, ground := Ground.data }, { on := 3, ground := Ground.guard }], guard := some (3, true) }) (v := undef) rfl (by kernel_rfl) (by kernel_rfl) (by kernel_rfl) (fun _ _ _ h => h) (Or.inr ⟨by rfl, rfl⟩) (by assumption) ?_
  try simp only [Act.put, List.setIfInBounds_toArray, List.set_cons_zero, List.set_cons_succ]
  refine wpAnyH_take (i := 7) (oi := { dst := some 10, op := Op.binOp BinOp.gtr 3 (Operand.tmp 9) (Operand.const (Value.int IntKind.i64 0)) 3, type := 4, pos := "ref.go:162", after := #[{ on := 6, ground := Ground.data }, { on := 3, ground := Ground.guard }], guard := some (3, true) }) (v := undef) rfl (by kernel_rfl) (by kernel_rfl) (by kernel_rfl) (fun _ _ _ h => h) (Or.inr ⟨by rfl, rfl⟩) (by assumption) ?_
  try simp only [Act.put, List.setIfInBounds_toArray, List.set_cons_zero, List.set_cons_succ]
  refine wpAnyH_take (i := 8) (oi := { dst := some 11, op := Op.pick (Operand.tmp 6) (Operand.tmp 10) (Operand.const (Value.bool false)), type := 4, pos := "ref.go:162", after := #[{ on := 3, ground := Ground.data }, { on := 7, ground := Ground.data }], guard := none }) (v := ?_) rfl (by kernel_rfl) (by kernel_rfl) (by kernel_rfl) (fun _ _ _ h => h) (Or.inl ⟨by rfl, ?_⟩) (by assumption) ?_
  rotate_left 1
  · intro V hSw
    try dsimp only at hSw
    go_simp
    try with_reducible rfl
  try simp only [Act.put, List.setIfInBounds_toArray, List.set_cons_zero, List.set_cons_succ]
  refine wpAnyH_take (i := 9) (oi := { dst := some 12, op := Op.fieldAddr 24 (Operand.tmp 1) 1, type := 0, pos := "ref.go:162", after := #[], guard := none }) (v := ?_) rfl (by kernel_rfl) (by kernel_rfl) (by kernel_rfl) (fun _ _ _ h => h) (Or.inl ⟨by rfl, ?_⟩) (by assumption) ?_
  rotate_left 1
  · intro V hSw
    try dsimp only at hSw
    go_simp
    try with_reducible rfl
  try simp only [Act.put, List.setIfInBounds_toArray, List.set_cons_zero, List.set_cons_succ]
  refine wpAnyH_take (i := 10) (oi := { dst := some 13, op := Op.load 22 (Operand.tmp 12), type := 22, pos := "ref.go:162", after := #[{ on := 9, ground := Ground.data }], guard := none }) (v := ?_) rfl (by kernel_rfl) (by kernel_rfl) (by kernel_rfl) (fun _ _ _ h => h) (Or.inl ⟨by rfl, ?_⟩) (by assumption) ?_
  rotate_left 1
  · intro V hSw
    try dsimp only at hSw
    go_simp
    try with_reducible rfl
  try simp only [Act.put, List.setIfInBounds_toArray, List.set_cons_zero, List.set_cons_succ]
  refine wpAnyH_take (i := 12) (oi := { dst := some 15, op := Op.fieldAddr 24 (Operand.tmp 1) 2, type := 0, pos := "ref.go:162", after := #[], guard := none }) (v := ?_) rfl (by kernel_rfl) (by kernel_rfl) (by kernel_rfl) (fun _ _ _ h => h) (Or.inl ⟨by rfl, ?_⟩) (by assumption) ?_
  rotate_left 1
  · intro V hSw
    try dsimp only at hSw
    go_simp
    try with_reducible rfl
  try simp only [Act.put, List.setIfInBounds_toArray, List.set_cons_zero, List.set_cons_succ]
  refine wpAnyH_take (i := 13) (oi := { dst := some 16, op := Op.load 22 (Operand.tmp 15), type := 22, pos := "ref.go:162", after := #[{ on := 12, ground := Ground.data }], guard := none }) (v := ?_) rfl (by kernel_rfl) (by kernel_rfl) (by kernel_rfl) (fun _ _ _ h => h) (Or.inl ⟨by rfl, ?_⟩) (by assumption) ?_
  rotate_left 1
  · intro V hSw
    try dsimp only at hSw
    go_simp
    try with_reducible rfl
  try simp only [Act.put, List.setIfInBounds_toArray, List.set_cons_zero, List.set_cons_succ]
  refine wpAnyH_ready (rs := [11]) (by kernel_rfl) (by simp) ?_
  refine AllReadyH.cons (o := { dst := some 14, op := Op.call { callee := Callee.value (Operand.func 76), args := #[Operand.tmp 13], argTypes := #[22] }, type := 22, pos := "ref.go:162", after := #[{ on := 10, ground := Ground.data }, { on := 3, ground := Ground.chain }], guard := none }) rfl (fun K hK => ?_) AllReadyH.nil
  go_simp
  refine Calls.mono (HL1.out _ (Below.drew (Below.refl _ X))) ?_
  rintro e w1 ⟨g1, c1, rfl, HE1, hs1, y0, y1, y2, z0, z1, z2⟩
  dsimp only
  refine hK.out _ _ ?_ (fun hHeld => ?_)
  · exact hs1
  clear hK K
  try simp only [Act.put, List.setIfInBounds_toArray, List.set_cons_zero, List.set_cons_succ]
  refine wpAnyH_ready (rs := [14]) (by kernel_rfl) (by simp) ?_
  refine AllReadyH.cons (o := { dst := some 17, op := Op.call { callee := Callee.value (Operand.func 76), args := #[Operand.tmp 16], argTypes := #[22] }, type := 22, pos := "ref.go:162", after := #[{ on := 13, ground := Ground.data }, { on := 11, ground := Ground.chain }], guard := none }) rfl (fun K hK => ?_) AllReadyH.nil
  go_simp
  refine Calls.mono (HL2.out _ HE1.out.2.2) ?_
  rintro e w2 ⟨g2, c2, rfl, HE2, hs2, r0, r1, r2, f0, f1, f2⟩
  dsimp only
  refine hK.out _ _ ?_ (fun hHeld => ?_)
  · exact hs2
  clear hK K
  try simp only [Act.put, List.setIfInBounds_toArray, List.set_cons_zero, List.set_cons_succ]
  refine wpAnyH_take (i := 15) (oi := { dst := some 18, op := Op.build 24 #[(0, Operand.tmp 11), (1, Operand.tmp 14), (2, Operand.tmp 17)], type := 24, pos := "ref.go:162", after := #[{ on := 8, ground := Ground.data }, { on := 11, ground := Ground.data }, { on := 14, ground := Ground.data }], guard := none }) (v := ?_) rfl (by kernel_rfl) (by kernel_rfl) (by kernel_rfl) (fun _ _ _ h => h) (Or.inl ⟨by rfl, ?_⟩) (by assumption) ?_
  rotate_left 1
  · intro V hSw
    try dsimp only at hSw
    go_simp
    try with_reducible rfl
  try simp only [Act.put, List.setIfInBounds_toArray, List.set_cons_zero, List.set_cons_succ]
  refine wpAnyH_ready (rs := [16]) (by kernel_rfl) (by simp) ?_
  refine AllReadyH.cons (o := { dst := none, op := Op.store 24 (Operand.tmp 2) (Operand.tmp 18), type := 0, pos := "ref.go:162", after := #[{ on := 15, ground := Ground.data }, { on := 14, ground := Ground.chain }, { on := 0, ground := Ground.phase }, { on := 1, ground := Ground.phase }, { on := 2, ground := Ground.phase }, { on := 3, ground := Ground.phase }, { on := 4, ground := Ground.phase }, { on := 5, ground := Ground.phase }, { on := 6, ground := Ground.phase }, { on := 7, ground := Ground.phase }, { on := 8, ground := Ground.phase }, { on := 9, ground := Ground.phase }, { on := 10, ground := Ground.phase }, { on := 11, ground := Ground.phase }, { on := 12, ground := Ground.phase }, { on := 13, ground := Ground.phase }, { on := 14, ground := Ground.phase }, { on := 15, ground := Ground.phase }], guard := none }) rfl (fun K hK => ?_) AllReadyH.nil
  go_simp
  refine hK.out _ _ ?_ (fun hHeld => ?_)
  · simp [hs2, World.cell?_setCell_far]
  clear hK K
  try simp only [Act.put, List.setIfInBounds_toArray, List.set_cons_zero, List.set_cons_succ]
  refine wpAnyH_done (by kernel_rfl) ?_ _
  refine NoPanic.normal ?_
  all_goals
    have HZ2 := hid (HZ.out.later HE2.out.2.2 HZ.out.lt)
    have HO1 := hid (own_put3 (owns_base (owns_later HE1.out.1 HE2.out.2.1) HB.out.size) (w.heap.size + 1) (own_ne_box (owns_later HE1.out.1 HE2.out.2.1) HZ2.out (by decide)) (.bool false) (.slice g1 xs.length c1) (.slice g2 ys.length c2))
    have HO2 := hid (own_put3 (owns_base HE2.out.1 HB.out.size) (w.heap.size + 1) (own_ne_box HE2.out.1 HZ2.out (by decide)) (.bool false) (.slice g1 xs.length c1) (.slice g2 ys.length c2))
    have HBN := hid (below_put3 (bt HB.out HE2.out.2.2) (w.heap.size + 1) (by omega) (.bool false) (.slice g1 xs.length c1) (.slice g2 ys.length c2))
    clear HK HL1 HL2 HE1 HE2 HZ HB HZ2 hs0 hs1 hs2 y0 y1 y2 z0 z1 z2
    go_wp2_with fail
    refine bodyPost_ret (v := .agg #[.bool false, .slice g1 xs.length c1, .slice g2 ys.length c2]) (by simp [results, Tryz.results57, go_sem, r0, r1, r2]) rfl ?_
    exact ⟨g1, c1, g2, c2, rfl, HO1.out, HO2.out, HBN.out⟩


theorem opposite3_any (n : Bool) (a : Option Addr) (ca : Nat) (xs : List Int) (b : Option Addr) (cb : Nat) (ys : List Int) (w : World) (sx : Sl w (.slice a xs.length ca) xs) (sy : Sl w (.slice b ys.length cb) ys) (lx : xs.length ≤ 1099511627776) (ly : ys.length ≤ 1099511627776) :
    Calls Tryz.prog 57 #[.agg #[.bool n, .slice a xs.length ca, .slice b ys.length cb]] w fun e w' => ∃ g1 c1 g2 c2, e = .returned (.agg #[.bool (oneg n xs), .slice g1 xs.length c1, .slice g2 ys.length c2]) ∧ w'.ownsRow w.heap.size 68 1 (.slice g1 xs.length c1) xs.length (xs.map (Value.int .u32)) ∧ w'.ownsRow w.heap.size 68 1 (.slice g2 ys.length c2) ys.length (ys.map (Value.int .u32)) ∧ Below w.heap.size w w' := by
  cases n with
  | true => exact opposite_n a ca xs b cb ys w sx sy lx ly
  | false => exact opposite_p a ca xs b cb ys w sx sy lx ly

end Go.Proofs.YtopogjfmocpeaaaGreat

/- The document's own fractions: Neg, Sub: of any fractions, good or refused. -/
namespace Go.Proofs.YtopogjfmocpeaaaGreat
open Go.RowKit
set_option linter.unusedVariables false

theorem rtells_own {n : Bool} {xs ys : List Int} (wx : Wd xs) (wy : Wd ys) (h : rchk n xs ys = 0) : RTells 0 (rq n xs ys) n xs ys 0 := by
  obtain ⟨lx, ly, tx, ty, y0, s0, g⟩ := rchk_ok h
  obtain ⟨m, us, vs, c, e1, e2, e3, r⟩ := rtells_of (n := n) wx tx wy ty (val_pos' wy ty y0) g
  have e4 := e1 none 0 none 0
  unfold rtoldV at e4
  rw [if_neg (by omega)] at e4
  have hc : c = 0 := by
    simp at e4
    exact e4.2.symm
  subst hc
  have hm : (n && decide (0 < xs.length)) = n := by
    rcases s0 with rfl | s0
    · rfl
    · rw [decide_eq_true s0, Bool.and_true]
  rw [hm] at e4
  have hn : n = m := by simp at e4; exact e4
  subst hn
  rw [if_pos rfl] at e2 e3
  subst e2 e3
  exact r

set_option maxHeartbeats 1600000 in
set_option maxRecDepth 100000 in
theorem dNeg_err (n : Bool) (a : Option Addr) (ca : Nat) (xs : List Int) (b : Option Addr) (cb : Nat) (ys : List Int) (w : World) (sx : Sl w (.slice a xs.length ca) xs) (sy : Sl w (.slice b ys.length cb) ys) (hlx : xs.length ≤ 281474976710656) (hly : ys.length ≤ 281474976710656) (he : rchk n xs ys ≠ 0) (q : Rat) :
    Calls Tryz.prog 37 #[.agg #[.bool n, .slice a xs.length ca, .slice b ys.length cb]] w (RTold w (rchk n xs ys) q) := by
  have HB : Hid (Below w.heap.size w ((w.alloc (.cells #[.bool n, .slice a xs.length ca, .slice b ys.length cb] 24)).alloc (.cells #[.bool false, .slice none 0 0, .slice none 0 0] 24))) := bt (alloc_later _ _) (alloc_later _ _)
  have HA : Hid (Box ((w.alloc (.cells #[.bool n, .slice a xs.length ca, .slice b ys.length cb] 24)).alloc (.cells #[.bool false, .slice none 0 0, .slice none 0 0] 24)) w.heap.size 24 #[.bool n, .slice a xs.length ca, .slice b ys.length cb]) := Box.later (Box.made w _ _) (alloc_later _ _) (by simp)
  have HZ : Hid (Box ((w.alloc (.cells #[.bool n, .slice a xs.length ca, .slice b ys.length cb] 24)).alloc (.cells #[.bool false, .slice none 0 0, .slice none 0 0] 24)) (w.heap.size + 1) 24 #[.bool false, .slice none 0 0, .slice none 0 0]) := by
    have e := Box.made (w.alloc (.cells #[.bool n, .slice a xs.length ca, .slice b ys.length cb] 24)) 24 #[.bool false, .slice none 0 0, .slice none 0 0]
    simp at e
    exact e
  have HXS : Hid (w.heap.size + 1 < ((w.alloc (.cells #[.bool n, .slice a xs.length ca, .slice b ys.length cb] 24)).alloc (.cells #[.bool false, .slice none 0 0, .slice none 0 0] 24)).heap.size) := HZ.out.lt
  have HS := hid (And.intro (sx.later HB.out) (sy.later HB.out))
  have HC := hid (check3_any n _ _ xs _ _ ys ((w.alloc (.cells #[.bool n, .slice a xs.length ca, .slice b ys.length cb] 24)).alloc (.cells #[.bool false, .slice none 0 0, .slice none 0 0] 24)) HS.out.1 HS.out.2 hlx hly)
  obtain ⟨e1, he1⟩ : ∃ e, rchk n xs ys = e := ⟨_, rfl⟩
  rw [he1] at HC he ⊢
  have h1 : (e1 == 0) = false := beq_eq_false_iff_ne.2 he
  have h2 : (e1 != 0) = true := bne_iff_ne.2 he
  have HEE := hid he
  clear sx sy he he1
  go_enter Tryz.func37, Tryz.ntmps37
  go_wp2_with fail
  refine Calls.mono HC.out ?_
  generalize ((w.alloc (.cells #[.bool n, .slice a xs.length ca, .slice b ys.length cb] 24)).alloc (.cells #[.bool false, .slice none 0 0, .slice none 0 0] 24)) = X at *
  rintro e w1 ⟨rfl, hb1⟩
  obtain ⟨r0, r1, r2, f0, f1, f2⟩ := res_box3 HZ.out hb1
  have HBN := hid (bt HB.out hb1)
  clear hb1 HC
  go_wp2_with fail
  refine bodyPost_ret (v := .tuple #[.agg #[.bool false, .slice none 0 0, .slice none 0 0], .int .i64 e1]) (by simp [results, Tryz.results37, go_sem, r0, r1, r2]) rfl ?_
  exact ⟨false, _, [], _, [], e1, rfl, World.ownsRow_nil _ _ _ _, World.ownsRow_nil _ _ _ _, RTells.err HEE.out, below_put3 HBN.out _ (by omega) _ _ _⟩

set_option maxHeartbeats 3200000 in
set_option maxRecDepth 100000 in
theorem dNeg_ok (n : Bool) (a : Option Addr) (ca : Nat) (xs : List Int) (b : Option Addr) (cb : Nat) (ys : List Int) (w : World) (sx : Sl w (.slice a xs.length ca) xs) (sy : Sl w (.slice b ys.length cb) ys) (hlx : xs.length ≤ 281474976710656) (hly : ys.length ≤ 281474976710656) (hx : rchk n xs ys = 0) :
    Calls Tryz.prog 37 #[.agg #[.bool n, .slice a xs.length ca, .slice b ys.length cb]] w (RTold w 0 (-(rq n xs ys))) := by
  have wx := sx.wd
  have wy := sy.wd
  have HB : Hid (Below w.heap.size w ((w.alloc (.cells #[.bool n, .slice a xs.length ca, .slice b ys.length cb] 24)).alloc (.cells #[.bool false, .slice none 0 0, .slice none 0 0] 24))) := bt (alloc_later _ _) (alloc_later _ _)
  have HA : Hid (Box ((w.alloc (.cells #[.bool n, .slice a xs.length ca, .slice b ys.length cb] 24)).alloc (.cells #[.bool false, .slice none 0 0, .slice none 0 0] 24)) w.heap.size 24 #[.bool n, .slice a xs.length ca, .slice b ys.length cb]) := Box.later (Box.made w _ _) (alloc_later _ _) (by simp)
  have HZ : Hid (Box ((w.alloc (.cells #[.bool n, .slice a xs.length ca, .slice b ys.length cb] 24)).alloc (.cells #[.bool false, .slice none 0 0, .slice none 0 0] 24)) (w.heap.size + 1) 24 #[.bool false, .slice none 0 0, .slice none 0 0]) := by
    have e := Box.made (w.alloc (.cells #[.bool n, .slice a xs.length ca, .slice b ys.length cb] 24)) 24 #[.bool false, .slice none 0 0, .slice none 0 0]
    simp at e
    exact e
  have HXS : Hid (w.heap.size + 1 < ((w.alloc (.cells #[.bool n, .slice a xs.length ca, .slice b ys.length cb] 24)).alloc (.cells #[.bool false, .slice none 0 0, .slice none 0 0] 24)).heap.size) := HZ.out.lt
  have HS := hid (And.intro (sx.later HB.out) (sy.later HB.out))
  have HC := hid (check3_any n _ _ xs _ _ ys ((w.alloc (.cells #[.bool n, .slice a xs.length ca, .slice b ys.length cb] 24)).alloc (.cells #[.bool false, .slice none 0 0, .slice none 0 0] 24)) HS.out.1 HS.out.2 hlx hly)
  rw [hx] at HC
  have HT : Hid (RTells 0 (-(rq n xs ys)) (oneg n xs) xs ys 0) := by
    have e := rtells_own wx wy (opp_chk hx)
    rw [opp_q] at e
    exact e
  obtain ⟨lx, ly, _⟩ := rchk_ok hx
  obtain ⟨k, hk⟩ : ∃ k, oneg n xs = k := ⟨_, rfl⟩
  rw [hk] at HT
  have HKK := hid hk
  clear sx sy hx hk
  go_enter Tryz.func37, Tryz.ntmps37
  go_wp2_with fail
  refine Calls.mono HC.out ?_
  generalize ((w.alloc (.cells #[.bool n, .slice a xs.length ca, .slice b ys.length cb] 24)).alloc (.cells #[.bool false, .slice none 0 0, .slice none 0 0] 24)) = X at *
  rintro e w1 ⟨rfl, hb1⟩
  obtain ⟨p0, p1, p2, _⟩ := res_box3 HA.out hb1
  have HO := opposite3_any n _ _ xs _ _ ys w1 (HS.out.1.later hb1) (HS.out.2.later hb1) (by omega) (by omega)
  rw [HKK.out] at HO
  have HH := hid HO
  have HB1 := hid hb1
  clear hb1 HC HO
  go_wp2_with fail
  refine Calls.mono HH.out ?_
  rintro e w2 ⟨g1, c1, g2, c2, rfl, o1, o2, hb2⟩
  have hbX := bt HB1.out hb2
  obtain ⟨r0, r1, r2, f0, f1, f2⟩ := res_box3 HZ.out hbX
  have HBW := hid (bt HB.out hbX)
  have hz := HB1.out.size
  have HE := hid (And.intro (owns_base o1 hz) (And.intro (owns_base o2 hz) HT.out))
  clear o1 o2 hb2 hbX HH p0 p1 p2 hz
  go_wp2_with fail
  refine bodyPost_ret (v := .tuple #[.agg #[.bool k, .slice g1 xs.length c1, .slice g2 ys.length c2], .int .i64 0]) (by simp [results, Tryz.results37, go_sem, r0, r1, r2]) rfl ?_
  exact RTold.put HE.out (w.heap.size + 1) HXS.out (by omega) HBW.out _ _ _
theorem dNeg_full (n : Bool) (a : Option Addr) (ca : Nat) (xs : List Int) (b : Option Addr) (cb : Nat) (ys : List Int) (w : World) (sx : Sl w (.slice a xs.length ca) xs) (sy : Sl w (.slice b ys.length cb) ys) (hlx : xs.length ≤ 281474976710656) (hly : ys.length ≤ 281474976710656) : Calls Tryz.prog 37 #[.agg #[.bool n, .slice a xs.length ca, .slice b ys.length cb]] w (RTold w (rchk n xs ys) (-(rq n xs ys))) := by
  by_cases he : rchk n xs ys = 0
  · rw [he]; exact dNeg_ok n a ca xs b cb ys w sx sy hlx hly he
  · exact dNeg_err n a ca xs b cb ys w sx sy hlx hly he _

end Go.Proofs.YtopogjfmocpeaaaGreat

/- The document's Neg, Conj, Zero of complex fractions. (tools/mkgp2.py) -/
namespace Go.Proofs.YtopogjfmocpeaaaGreat
open Go.RowKit
set_option linter.unusedVariables false

/-- What the document tells of a complex fraction: as GTold, its rows not its own. -/
def DTold (w : World) (E : Int) (L : Prop) (q1 q2 : Rat) (x : Ending) (w' : World) : Prop :=
  ∃ n a ca xs b cb ys m c cc us d cd vs code, x = .returned (.tuple #[.agg #[.bool n, .slice a (List.length xs) ca, .slice b (List.length ys) cb, .bool m, .slice c (List.length us) cc, .slice d (List.length vs) cd], .int .i64 code]) ∧ (Sl w' (.slice a xs.length ca) xs ∧ Sl w' (.slice b ys.length cb) ys ∧ Sl w' (.slice c us.length cc) us ∧ Sl w' (.slice d vs.length cd) vs) ∧ GTells E L q1 q2 n xs ys m us vs code ∧ Below w.heap.size w w'
theorem kp_notlong {n : Bool} {xs ys : List Int} (wx : Wd xs) (wy : Wd ys) (h : rchk n xs ys = 0) : ¬ rlong (rq n xs ys) := fun hl => absurd ((kp_self wx wy h).long rfl hl).2.2.2 (by decide)
theorem kp_long_neg {q : Rat} : rlong (-q) ↔ rlong q := by unfold rlong; rw [Rat.neg_num, Rat.neg_den, Int.natAbs_neg]
theorem kpsl_nil (w : World) : Sl w (.slice none 0 0) [] := ⟨none, 0, rfl, rfl, Wd.nil, .inl rfl, Nat.le_refl _, Nat.zero_le _, fun _ => rfl⟩
theorem kp_zero {w W : World} {E : Int} {L : Prop} {q1 q2 : Rat} (h : E ≠ 0) (hb : Below w.heap.size w W) : DTold w E L q1 q2 (.returned (.tuple #[.agg #[.bool false, .slice none 0 0, .slice none 0 0, .bool false, .slice none 0 0, .slice none 0 0], .int .i64 E])) W :=
  ⟨false, none, 0, [], none, 0, [], false, none, 0, [], none, 0, [], E, rfl, ⟨kpsl_nil _, kpsl_nil _, kpsl_nil _, kpsl_nil _⟩, ⟨⟨Wd.nil, Wd.nil, Wd.nil, Wd.nil⟩, fun _ => ⟨⟨rfl, rfl, rfl, rfl, rfl, rfl⟩, rfl⟩, fun he => absurd he h, fun he => absurd he h⟩, hb⟩

set_option maxHeartbeats 1600000 in
set_option maxRecDepth 100000 in
theorem d4Neg_any (n : Bool) (a : Option Addr) (ca : Nat) (xs : List Int) (b : Option Addr) (cb : Nat) (ys : List Int) (m : Bool) (c : Option Addr) (cc : Nat) (us : List Int) (d : Option Addr) (cd : Nat) (vs : List Int) (w : World) (sx : Sl w (.slice a xs.length ca) xs) (sy : Sl w (.slice b ys.length cb) ys) (su : Sl w (.slice c us.length cc) us) (sv : Sl w (.slice d vs.length cd) vs) (lx : xs.length ≤ 281474976710656) (ly : ys.length ≤ 281474976710656) (lu : us.length ≤ 281474976710656) (lv : vs.length ≤ 281474976710656) :
    Calls Tryz.prog 15 #[.agg #[.bool n, .slice a xs.length ca, .slice b ys.length cb, .bool m, .slice c us.length cc, .slice d vs.length cd]] w (DTold w (gchk n xs ys m us vs) (rlong (-(rq n xs ys)) ∨ rlong (-(rq m us vs))) (-(rq n xs ys)) (-(rq m us vs))) := by
  obtain ⟨X, hX⟩ : ∃ X, (w.alloc (.cells #[.bool n, .slice a xs.length ca, .slice b ys.length cb, .bool m, .slice c us.length cc, .slice d vs.length cd] 26)).alloc (.cells #[.bool false, .slice none 0 0, .slice none 0 0, .bool false, .slice none 0 0, .slice none 0 0] 26) = X := ⟨_, rfl⟩
  have b1 : Below w.heap.size w X := by rw [← hX]; exact bt (alloc_later _ _) (alloc_later _ _)
  have HA : Hid (Box X w.heap.size 26 #[.bool n, .slice a xs.length ca, .slice b ys.length cb, .bool m, .slice c us.length cc, .slice d vs.length cd]) := by rw [← hX]; exact (Box.made w _ _).later (alloc_later _ _) (Box.made w _ _).lt
  have HR : Hid (Box X (w.heap.size + 1) 26 #[.bool false, .slice none 0 0, .slice none 0 0, .bool false, .slice none 0 0, .slice none 0 0]) := by
    have h := Box.made (w.alloc (.cells #[.bool n, .slice a xs.length ca, .slice b ys.length cb, .bool m, .slice c us.length cc, .slice d vs.length cd] 26)) 26 #[.bool false, .slice none 0 0, .slice none 0 0, .bool false, .slice none 0 0, .slice none 0 0]
    rw [show (w.alloc (.cells #[.bool n, .slice a xs.length ca, .slice b ys.length cb, .bool m, .slice c us.length cc, .slice d vs.length cd] 26)).heap.size = w.heap.size + 1 by simp, hX] at h
    exact h
  have HC := hid (kpcheck_any n a ca xs b cb ys m c cc us d cd vs X (sx.later b1) (sy.later b1) (su.later b1) (sv.later b1) lx ly lu lv)
  have HN2 : Hid (∀ V, Below X.heap.size X V → Calls Tryz.prog 37 #[.agg #[.bool m, .slice c us.length cc, .slice d vs.length cd]] V (RTold V (rchk m us vs) (-(rq m us vs)))) := fun V hv => dNeg_full m c cc us d cd vs V ((su.later b1).later hv) ((sv.later b1).later hv) lu lv
  have HSX := hid (And.intro sx sy)
  have HNL : Hid (gchk n xs ys m us vs = 0 → rchk n xs ys = 0 ∧ rchk m us vs = 0 ∧ ¬ rlong (rq n xs ys) ∧ ¬ rlong (-(rq m us vs))) := fun h => ⟨(gchk_ok h).1, (gchk_ok h).2, kp_notlong sx.wd sy.wd (gchk_ok h).1, fun h2 => kp_notlong su.wd sv.wd (gchk_ok h).2 (kp_long_neg.1 h2)⟩
  have HN1 : Hid (∀ V, Below X.heap.size X V → Calls Tryz.prog 37 #[.agg #[.bool n, .slice a xs.length ca, .slice b ys.length cb]] V (RTold V (rchk n xs ys) (-(rq n xs ys)))) := fun V hv => dNeg_full n a ca xs b cb ys V ((sx.later b1).later hv) ((sy.later b1).later hv) lx ly
  have HB := hid b1
  have hwX : w.heap.size + 1 < X.heap.size := HR.out.lt
  clear sx sy su sv b1 lx ly lu lv
  obtain ⟨k0, k1, k2, k3, k4, k5⟩ := Kl6.of HA.out
  by_cases hz : gchk n xs ys m us vs = 0
  · have HZ := hid (HNL.out hz)
    rw [hz] at HC
    rw [hz]
    clear HNL hz
    go_enter Tryz.func15, Tryz.ntmps15
    go_wp2_with fail
    clear hX
    refine Calls.mono HC.out ?_
    rintro x w1 ⟨rfl, hb1⟩
    have HW1 := hid hb1
    clear hb1 HC k0 k1 k2 k3 k4 k5
    obtain ⟨k0, k1, k2, k3, k4, k5⟩ := Kl6.of (HA.out.later HW1.out HA.out.lt)
    go_wp2_with fail
    refine Calls.mono (HN1.out w1 HW1.out) ?_
    rintro x w2 ⟨n1, v, xs1, u, ys1, code1, rfl, ov1, ou1, ht1, hb2⟩
    obtain ⟨av1, cv1, rfl⟩ := own_slice' ov1
    obtain ⟨au1, cu1, rfl⟩ := own_slice' ou1
    have HV1 := hid ov1
    have HU1 := hid ou1
    have HT1 := hid ht1
    have HW2 := hid (bt HW1.out hb2)
    have h12 : w1.heap.size ≤ w2.heap.size := hb2.size
    clear ov1 ou1 ht1 hb2 HN1 k0 k1 k2 k3 k4 k5
    have HN := hid (Box.made w2 24 #[.bool n1, .slice av1 xs1.length cv1, .slice au1 ys1.length cu1])
    have HNB := hid (alloc_later w2 (.cells #[.bool n1, .slice av1 xs1.length cv1, .slice au1 ys1.length cu1] 24))
    obtain ⟨Z, hZ⟩ : ∃ Z, w2.alloc (.cells #[.bool n1, .slice av1 xs1.length cv1, .slice au1 ys1.length cu1] 24) = Z := ⟨_, rfl⟩
    rw [hZ] at HN HNB
    have HWZ := hid (bt HW2.out HNB.out)
    obtain ⟨k0, k1, k2, k3, k4, k5⟩ := Kl6.of (HA.out.later HWZ.out HA.out.lt)
    go_wp2_with fail
    clear hZ
    refine Calls.mono (HN2.out Z HWZ.out) ?_
    rintro x w3 ⟨n2, v, xs2, u, ys2, code2, rfl, ov2, ou2, ht2, hb3⟩
    obtain ⟨av2, cv2, rfl⟩ := own_slice' ov2
    obtain ⟨au2, cu2, rfl⟩ := own_slice' ou2
    have HV2 := hid ov2
    have HU2 := hid ou2
    have HT2 := hid ht2
    have HB3 := hid hb3
    have HW3 := hid (bt HWZ.out hb3)
    have h13 : Z.heap.size ≤ w3.heap.size := hb3.size
    have h1X : X.heap.size ≤ Z.heap.size := HWZ.out.size
    clear ov2 ou2 ht2 hb3 HN2 k0 k1 k2 k3 k4 k5
    have HM := hid (Box.made w3 24 #[.bool n2, .slice av2 xs2.length cv2, .slice au2 ys2.length cu2])
    have HMB := hid (alloc_later w3 (.cells #[.bool n2, .slice av2 xs2.length cv2, .slice au2 ys2.length cu2] 24))
    obtain ⟨Q, hQ⟩ : ∃ Q, w3.alloc (.cells #[.bool n2, .slice av2 xs2.length cv2, .slice au2 ys2.length cu2] 24) = Q := ⟨_, rfl⟩
    rw [hQ] at HM HMB
    have HWQ := hid (bt HW3.out HMB.out)
    have HRQ := hid (HR.out.later HWQ.out HR.out.lt)
    have e0 : Q.cell? ⟨w3.heap.size, 0, none⟩ = some (.bool n2) := HM.out.cell 0
    have e1 : Q.cell? ⟨w3.heap.size, 1, none⟩ = some (.slice av2 xs2.length cv2) := HM.out.cell 1
    have e2 : Q.cell? ⟨w3.heap.size, 2, none⟩ = some (.slice au2 ys2.length cu2) := HM.out.cell 2
    have f0 := HRQ.out.free 0
    have f1 := HRQ.out.free 1
    have f2 := HRQ.out.free 2
    have f3 := HRQ.out.free 3
    have f4 := HRQ.out.free 4
    have f5 := HRQ.out.free 5
    obtain ⟨m0, m1, m2, m3, m4, m5⟩ := Kl6.of HRQ.out
    have HNQ := hid (HN.out.later (bt HB3.out HMB.out) HN.out.lt)
    have d0 : Q.cell? ⟨w2.heap.size, 0, none⟩ = some (.bool n1) := HNQ.out.cell 0
    have d1 : Q.cell? ⟨w2.heap.size, 1, none⟩ = some (.slice av1 xs1.length cv1) := HNQ.out.cell 1
    have d2 : Q.cell? ⟨w2.heap.size, 2, none⟩ = some (.slice au1 ys1.length cu1) := HNQ.out.cell 2
    go_wp2_with fail
    have B1 := box_put6 HRQ.out (.bool n1) (.slice av1 xs1.length cv1) (.slice au1 ys1.length cu1) (.bool n2) (.slice av2 xs2.length cv2) (.slice au2 ys2.length cu2)
    have G1 := below_put6 (bt HB.out HWQ.out) (w.heap.size + 1) (by omega) (.bool n1) (.slice av1 xs1.length cv1) (.slice au1 ys1.length cu1) (.bool n2) (.slice av2 xs2.length cv2) (.slice au2 ys2.length cu2)
    have P3 := own_put6 (owns_later HV2.out HMB.out) (w.heap.size + 1) (fun g hg => by have := (HV2.out.lt g hg).1; omega) (.bool n1) (.slice av1 xs1.length cv1) (.slice au1 ys1.length cu1) (.bool n2) (.slice av2 xs2.length cv2) (.slice au2 ys2.length cu2)
    have P4 := own_put6 (owns_later HU2.out HMB.out) (w.heap.size + 1) (fun g hg => by have := (HU2.out.lt g hg).1; omega) (.bool n1) (.slice av1 xs1.length cv1) (.slice au1 ys1.length cu1) (.bool n2) (.slice av2 xs2.length cv2) (.slice au2 ys2.length cu2)
    have P1 := own_put6 (owns_later (owns_later HV1.out HNB.out) (bt HB3.out HMB.out)) (w.heap.size + 1) (fun g hg => by have := (HV1.out.lt g hg).1; have := HW1.out.size; omega) (.bool n1) (.slice av1 xs1.length cv1) (.slice au1 ys1.length cu1) (.bool n2) (.slice av2 xs2.length cv2) (.slice au2 ys2.length cu2)
    have P2 := own_put6 (owns_later (owns_later HU1.out HNB.out) (bt HB3.out HMB.out)) (w.heap.size + 1) (fun g hg => by have := (HU1.out.lt g hg).1; have := HW1.out.size; omega) (.bool n1) (.slice av1 xs1.length cv1) (.slice au1 ys1.length cu1) (.bool n2) (.slice av2 xs2.length cv2) (.slice au2 ys2.length cu2)
    clear m0 m1 m2 m3 m4 m5 f0 f1 f2 f3 f4 f5
    refine bodyPost_ret (gres_run (by rfl) B1 _ rfl) rfl ?_
    obtain ⟨c2, r2, s2⟩ := HT2.out.good HZ.out.2.1 HZ.out.2.2.2
    obtain ⟨c1, r1, s1⟩ := HT1.out.good HZ.out.1 (fun h => HZ.out.2.2.1 (kp_long_neg.1 h))
    exact ⟨n1, av1, cv1, xs1, au1, cu1, ys1, n2, av2, cv2, xs2, au2, cu2, ys2, 0, rfl, ⟨Sl.own P1 HT1.out.wx, Sl.own P2 HT1.out.wy, Sl.own P3 HT2.out.wx, Sl.own P4 HT2.out.wy⟩, ⟨⟨HT1.out.wx, HT1.out.wy, HT2.out.wx, HT2.out.wy⟩, fun h => absurd rfl h, fun _ h => absurd h (fun h => h.elim (fun h => HZ.out.2.2.1 (kp_long_neg.1 h)) HZ.out.2.2.2), fun _ _ => ⟨rfl, ⟨r1, s1⟩, r2, s2⟩⟩, G1⟩
  · obtain ⟨r, hr⟩ : ∃ r, gchk n xs ys m us vs = r := ⟨_, rfl⟩
    rw [hr] at hz HC
    rw [hr]
    have HZ := hid hz
    have hz' : (r != 0) = true := by simpa using hz
    clear HNL hr hz
    go_enter Tryz.func15, Tryz.ntmps15
    go_wp2_with fail
    clear hX
    refine Calls.mono HC.out ?_
    rintro x w1 ⟨rfl, hb1⟩
    have HW1 := hid hb1
    clear hb1 HC k0 k1 k2 k3 k4 k5
    have HRQ := hid (HR.out.later HW1.out HR.out.lt)
    have f0 := HRQ.out.free 0
    have f1 := HRQ.out.free 1
    have f2 := HRQ.out.free 2
    have f3 := HRQ.out.free 3
    have f4 := HRQ.out.free 4
    have f5 := HRQ.out.free 5
    obtain ⟨m0, m1, m2, m3, m4, m5⟩ := Kl6.of HRQ.out
    go_wp2_with fail
    have B1 := box_put6 HRQ.out (.bool false) (.slice none 0 0) (.slice none 0 0) (.bool false) (.slice none 0 0) (.slice none 0 0)
    have G1 := below_put6 (bt HB.out HW1.out) (w.heap.size + 1) (by omega) (.bool false) (.slice none 0 0) (.slice none 0 0) (.bool false) (.slice none 0 0) (.slice none 0 0)
    clear m0 m1 m2 m3 m4 m5 f0 f1 f2 f3 f4 f5
    refine bodyPost_ret (gres_run (by rfl) B1 _ rfl) rfl ?_
    exact kp_zero HZ.out G1

set_option maxHeartbeats 1600000 in
set_option maxRecDepth 100000 in
theorem d4Conj_any (n : Bool) (a : Option Addr) (ca : Nat) (xs : List Int) (b : Option Addr) (cb : Nat) (ys : List Int) (m : Bool) (c : Option Addr) (cc : Nat) (us : List Int) (d : Option Addr) (cd : Nat) (vs : List Int) (w : World) (sx : Sl w (.slice a xs.length ca) xs) (sy : Sl w (.slice b ys.length cb) ys) (su : Sl w (.slice c us.length cc) us) (sv : Sl w (.slice d vs.length cd) vs) (lx : xs.length ≤ 281474976710656) (ly : ys.length ≤ 281474976710656) (lu : us.length ≤ 281474976710656) (lv : vs.length ≤ 281474976710656) :
    Calls Tryz.prog 13 #[.agg #[.bool n, .slice a xs.length ca, .slice b ys.length cb, .bool m, .slice c us.length cc, .slice d vs.length cd]] w (DTold w (gchk n xs ys m us vs) (rlong (rq n xs ys) ∨ rlong (-(rq m us vs))) (rq n xs ys) (-(rq m us vs))) := by
  obtain ⟨X, hX⟩ : ∃ X, (w.alloc (.cells #[.bool n, .slice a xs.length ca, .slice b ys.length cb, .bool m, .slice c us.length cc, .slice d vs.length cd] 26)).alloc (.cells #[.bool false, .slice none 0 0, .slice none 0 0, .bool false, .slice none 0 0, .slice none 0 0] 26) = X := ⟨_, rfl⟩
  have b1 : Below w.heap.size w X := by rw [← hX]; exact bt (alloc_later _ _) (alloc_later _ _)
  have HA : Hid (Box X w.heap.size 26 #[.bool n, .slice a xs.length ca, .slice b ys.length cb, .bool m, .slice c us.length cc, .slice d vs.length cd]) := by rw [← hX]; exact (Box.made w _ _).later (alloc_later _ _) (Box.made w _ _).lt
  have HR : Hid (Box X (w.heap.size + 1) 26 #[.bool false, .slice none 0 0, .slice none 0 0, .bool false, .slice none 0 0, .slice none 0 0]) := by
    have h := Box.made (w.alloc (.cells #[.bool n, .slice a xs.length ca, .slice b ys.length cb, .bool m, .slice c us.length cc, .slice d vs.length cd] 26)) 26 #[.bool false, .slice none 0 0, .slice none 0 0, .bool false, .slice none 0 0, .slice none 0 0]
    rw [show (w.alloc (.cells #[.bool n, .slice a xs.length ca, .slice b ys.length cb, .bool m, .slice c us.length cc, .slice d vs.length cd] 26)).heap.size = w.heap.size + 1 by simp, hX] at h
    exact h
  have HC := hid (kpcheck_any n a ca xs b cb ys m c cc us d cd vs X (sx.later b1) (sy.later b1) (su.later b1) (sv.later b1) lx ly lu lv)
  have HN2 : Hid (∀ V, Below X.heap.size X V → Calls Tryz.prog 37 #[.agg #[.bool m, .slice c us.length cc, .slice d vs.length cd]] V (RTold V (rchk m us vs) (-(rq m us vs)))) := fun V hv => dNeg_full m c cc us d cd vs V ((su.later b1).later hv) ((sv.later b1).later hv) lu lv
  have HSX := hid (And.intro sx sy)
  have HNL : Hid (gchk n xs ys m us vs = 0 → rchk n xs ys = 0 ∧ rchk m us vs = 0 ∧ ¬ rlong (rq n xs ys) ∧ ¬ rlong (-(rq m us vs))) := fun h => ⟨(gchk_ok h).1, (gchk_ok h).2, kp_notlong sx.wd sy.wd (gchk_ok h).1, fun h2 => kp_notlong su.wd sv.wd (gchk_ok h).2 (kp_long_neg.1 h2)⟩
  have HB := hid b1
  have hwX : w.heap.size + 1 < X.heap.size := HR.out.lt
  clear sx sy su sv b1 lx ly lu lv
  obtain ⟨k0, k1, k2, k3, k4, k5⟩ := Kl6.of HA.out
  by_cases hz : gchk n xs ys m us vs = 0
  · have HZ := hid (HNL.out hz)
    rw [hz] at HC
    rw [hz]
    clear HNL hz
    go_enter Tryz.func13, Tryz.ntmps13
    go_wp2_with fail
    clear hX
    refine Calls.mono HC.out ?_
    rintro x w1 ⟨rfl, hb1⟩
    have HW1 := hid hb1
    clear hb1 HC k0 k1 k2 k3 k4 k5
    obtain ⟨k0, k1, k2, k3, k4, k5⟩ := Kl6.of (HA.out.later HW1.out HA.out.lt)
    go_wp2_with fail
    refine Calls.mono (HN2.out w1 HW1.out) ?_
    rintro x w3 ⟨n2, v, xs2, u, ys2, code2, rfl, ov2, ou2, ht2, hb3⟩
    obtain ⟨av2, cv2, rfl⟩ := own_slice' ov2
    obtain ⟨au2, cu2, rfl⟩ := own_slice' ou2
    have HV2 := hid ov2
    have HU2 := hid ou2
    have HT2 := hid ht2
    have HB3 := hid hb3
    have HW3 := hid (bt HW1.out hb3)
    have h13 : w1.heap.size ≤ w3.heap.size := hb3.size
    have h1X : X.heap.size ≤ w1.heap.size := HW1.out.size
    clear ov2 ou2 ht2 hb3 HN2 k0 k1 k2 k3 k4 k5
    have HM := hid (Box.made w3 24 #[.bool n2, .slice av2 xs2.length cv2, .slice au2 ys2.length cu2])
    have HMB := hid (alloc_later w3 (.cells #[.bool n2, .slice av2 xs2.length cv2, .slice au2 ys2.length cu2] 24))
    obtain ⟨Q, hQ⟩ : ∃ Q, w3.alloc (.cells #[.bool n2, .slice av2 xs2.length cv2, .slice au2 ys2.length cu2] 24) = Q := ⟨_, rfl⟩
    rw [hQ] at HM HMB
    have HWQ := hid (bt HW3.out HMB.out)
    have HRQ := hid (HR.out.later HWQ.out HR.out.lt)
    have e0 : Q.cell? ⟨w3.heap.size, 0, none⟩ = some (.bool n2) := HM.out.cell 0
    have e1 : Q.cell? ⟨w3.heap.size, 1, none⟩ = some (.slice av2 xs2.length cv2) := HM.out.cell 1
    have e2 : Q.cell? ⟨w3.heap.size, 2, none⟩ = some (.slice au2 ys2.length cu2) := HM.out.cell 2
    have f0 := HRQ.out.free 0
    have f1 := HRQ.out.free 1
    have f2 := HRQ.out.free 2
    have f3 := HRQ.out.free 3
    have f4 := HRQ.out.free 4
    have f5 := HRQ.out.free 5
    obtain ⟨m0, m1, m2, m3, m4, m5⟩ := Kl6.of HRQ.out
    obtain ⟨k0, k1, k2, k3, k4, k5⟩ := Kl6.of (HA.out.later HWQ.out HA.out.lt)
    go_wp2_with fail
    have B1 := box_put6 HRQ.out (.bool n) (.slice a xs.length ca) (.slice b ys.length cb) (.bool n2) (.slice av2 xs2.length cv2) (.slice au2 ys2.length cu2)
    have G1 := below_put6 (bt HB.out HWQ.out) (w.heap.size + 1) (by omega) (.bool n) (.slice a xs.length ca) (.slice b ys.length cb) (.bool n2) (.slice av2 xs2.length cv2) (.slice au2 ys2.length cu2)
    have P3 := own_put6 (owns_later HV2.out HMB.out) (w.heap.size + 1) (fun g hg => by have := (HV2.out.lt g hg).1; omega) (.bool n) (.slice a xs.length ca) (.slice b ys.length cb) (.bool n2) (.slice av2 xs2.length cv2) (.slice au2 ys2.length cu2)
    have P4 := own_put6 (owns_later HU2.out HMB.out) (w.heap.size + 1) (fun g hg => by have := (HU2.out.lt g hg).1; omega) (.bool n) (.slice a xs.length ca) (.slice b ys.length cb) (.bool n2) (.slice av2 xs2.length cv2) (.slice au2 ys2.length cu2)
    clear m0 m1 m2 m3 m4 m5 f0 f1 f2 f3 f4 f5
    refine bodyPost_ret (gres_run (by rfl) B1 _ rfl) rfl ?_
    obtain ⟨c2, r2, s2⟩ := HT2.out.good HZ.out.2.1 HZ.out.2.2.2
    exact ⟨n, a, ca, xs, b, cb, ys, n2, av2, cv2, xs2, au2, cu2, ys2, 0, rfl, ⟨HSX.out.1.later G1, HSX.out.2.later G1, Sl.own P3 HT2.out.wx, Sl.own P4 HT2.out.wy⟩, ⟨⟨HSX.out.1.wd, HSX.out.2.wd, HT2.out.wx, HT2.out.wy⟩, fun h => absurd rfl h, fun _ h => absurd h (fun h => h.elim HZ.out.2.2.1 HZ.out.2.2.2), fun _ _ => ⟨rfl, ⟨HZ.out.1, rfl⟩, r2, s2⟩⟩, G1⟩
  · obtain ⟨r, hr⟩ : ∃ r, gchk n xs ys m us vs = r := ⟨_, rfl⟩
    rw [hr] at hz HC
    rw [hr]
    have HZ := hid hz
    have hz' : (r != 0) = true := by simpa using hz
    clear HNL hr hz
    go_enter Tryz.func13, Tryz.ntmps13
    go_wp2_with fail
    clear hX
    refine Calls.mono HC.out ?_
    rintro x w1 ⟨rfl, hb1⟩
    have HW1 := hid hb1
    clear hb1 HC k0 k1 k2 k3 k4 k5
    have HRQ := hid (HR.out.later HW1.out HR.out.lt)
    have f0 := HRQ.out.free 0
    have f1 := HRQ.out.free 1
    have f2 := HRQ.out.free 2
    have f3 := HRQ.out.free 3
    have f4 := HRQ.out.free 4
    have f5 := HRQ.out.free 5
    obtain ⟨m0, m1, m2, m3, m4, m5⟩ := Kl6.of HRQ.out
    go_wp2_with fail
    have B1 := box_put6 HRQ.out (.bool false) (.slice none 0 0) (.slice none 0 0) (.bool false) (.slice none 0 0) (.slice none 0 0)
    have G1 := below_put6 (bt HB.out HW1.out) (w.heap.size + 1) (by omega) (.bool false) (.slice none 0 0) (.slice none 0 0) (.bool false) (.slice none 0 0) (.slice none 0 0)
    clear m0 m1 m2 m3 m4 m5 f0 f1 f2 f3 f4 f5
    refine bodyPost_ret (gres_run (by rfl) B1 _ rfl) rfl ?_
    exact kp_zero HZ.out G1

set_option maxHeartbeats 800000 in
set_option maxRecDepth 100000 in
theorem d4Zero_any (n : Bool) (a : Option Addr) (ca : Nat) (xs : List Int) (b : Option Addr) (cb : Nat) (ys : List Int) (m : Bool) (c : Option Addr) (cc : Nat) (us : List Int) (d : Option Addr) (cd : Nat) (vs : List Int) (w : World) (sx : Sl w (.slice a xs.length ca) xs) (sy : Sl w (.slice b ys.length cb) ys) (su : Sl w (.slice c us.length cc) us) (sv : Sl w (.slice d vs.length cd) vs) (lx : xs.length ≤ 281474976710656) (ly : ys.length ≤ 281474976710656) (lu : us.length ≤ 281474976710656) (lv : vs.length ≤ 281474976710656) :
    Calls Tryz.prog 11 #[.agg #[.bool n, .slice a xs.length ca, .slice b ys.length cb, .bool m, .slice c us.length cc, .slice d vs.length cd]] w fun x w' => x = .returned (.bool ((xs.length == 0 && us.length == 0) && (gchk n xs ys m us vs == 0))) ∧ Below w.heap.size w w' := by
  obtain ⟨X, hX⟩ : ∃ X, w.alloc (.cells #[.bool n, .slice a xs.length ca, .slice b ys.length cb, .bool m, .slice c us.length cc, .slice d vs.length cd] 26) = X := ⟨_, rfl⟩
  have b1 : Below w.heap.size w X := by rw [← hX]; exact alloc_later _ _
  have HA : Hid (Box X w.heap.size 26 #[.bool n, .slice a xs.length ca, .slice b ys.length cb, .bool m, .slice c us.length cc, .slice d vs.length cd]) := by rw [← hX]; exact Box.made w _ _
  have HC := hid (kpcheck_any n a ca xs b cb ys m c cc us d cd vs X (sx.later b1) (sy.later b1) (su.later b1) (sv.later b1) lx ly lu lv)
  have HB := hid b1
  clear sx sy su sv b1 ly lv
  obtain ⟨k0, k1, k2, k3, k4, k5⟩ := Kl6.of HA.out
  generalize gchk n xs ys m us vs = r at *
  obtain ⟨res, hres⟩ : ∃ res, ((xs.length == 0 && us.length == 0) && (r == 0)) = res := ⟨_, rfl⟩
  rw [hres]
  have HE := hid hres
  clear hres
  by_cases hz : r = 0
  · subst hz
    go_enter Tryz.func11, Tryz.ntmps11
    go_wp2_with fail
    clear hX
    refine Calls.mono HC.out ?_
    rintro x w1 ⟨rfl, hb1⟩
    have HW1 := hid (bt HB.out hb1)
    clear k0 k1 k2 k3 k4 k5
    obtain ⟨k0, k1, k2, k3, k4, k5⟩ := Kl6.of (HA.out.later hb1 HA.out.lt)
    clear hb1 HC
    by_cases h1 : xs.length = 0
    · have h1' : ((xs.length : Int) == 0) = true := by simp [h1]
      by_cases h2 : us.length = 0
      · have h2' : ((us.length : Int) == 0) = true := by simp [h2]
        have hr : res = true := by rw [← HE.out, h1, h2]; rfl
        subst hr
        clear h1 h2 HE
        go_wp2_with fail
        go_ret
        exact ⟨rfl, HW1.out⟩
      · have h2' : ((us.length : Int) == 0) = false := beq_eq_false_iff_ne.2 (by omega)
        have hr : res = false := by rw [← HE.out, h1, show (us.length == 0) = false from beq_eq_false_iff_ne.2 h2]; rfl
        subst hr
        clear h1 h2 HE
        go_wp2_with fail
        go_ret
        exact ⟨rfl, HW1.out⟩
    · have h1' : ((xs.length : Int) == 0) = false := beq_eq_false_iff_ne.2 (by omega)
      have hr : res = false := by rw [← HE.out, show (xs.length == 0) = false from beq_eq_false_iff_ne.2 h1]; rfl
      subst hr
      clear h1 HE
      go_wp2_with fail
      go_ret
      exact ⟨rfl, HW1.out⟩
  · have h1' : (r == 0) = false := by simpa using hz
    have hr : res = false := by rw [← HE.out, h1', Bool.and_false]
    subst hr
    clear HE
    go_enter Tryz.func11, Tryz.ntmps11
    go_wp2_with fail
    clear hX
    refine Calls.mono HC.out ?_
    rintro x w1 ⟨rfl, hb1⟩
    have HW1 := hid (bt HB.out hb1)
    clear hb1 HC k0 k1 k2 k3 k4 k5
    go_wp2_with fail
    go_ret
    exact ⟨rfl, HW1.out⟩

end Go.Proofs.YtopogjfmocpeaaaGreat

/- Complex fractions: what stands while steps are made one behind the other (for square, times). -/
namespace Go.Proofs.YtopogjfmocpeaaaGreat
open Go.RowKit
set_option linter.unusedVariables false

/-- What stands while steps are made: their error, the boxes of the call. -/
structure GInv (w : World) (p : Nat) (E : Int) (l : List (Nat × Nat × Array Value)) (V : World) : Prop where
  err : Box V p 53 #[.int .i64 E]
  grown : w.grownBy V (some p)
  box : ∀ x ∈ l, Box V x.1 x.2.1 x.2.2 ∧ x.1 ≠ p
theorem GInv.drew {w V : World} {p : Nat} {E : Int} {l : List (Nat × Nat × Array Value)} (h : GInv w p E l V) : GInv w p E l V.drew := ⟨h.err, ⟨h.grown.os, h.grown.tape, h.grown.output, h.grown.size, h.grown.block⟩, h.box⟩
theorem GInv.step {w V V' : World} {p : Nat} {E code : Int} {l : List (Nat × Nat × Array Value)} (h : GInv w p E l V) (hp : Box V' p 53 #[.int .i64 code]) (hg : V.grownBy V' (some p)) : GInv w p code l V' :=
  ⟨hp, grow_trans h.grown hg, fun x hx => ⟨(h.box x hx).1.kept' hg (fun e => (h.box x hx).2 (Option.some.inj e)), (h.box x hx).2⟩⟩
theorem GInv.alloc {w V : World} {p : Nat} {E : Int} {l : List (Nat × Nat × Array Value)} (h : GInv w p E l V) (ob : Obj) : GInv w p E l (V.alloc ob) :=
  ⟨h.err.later (alloc_later V ob) h.err.lt, grow_trans h.grown (World.grownBy_alloc V ob (some p)), fun x hx => ⟨(h.box x hx).1.later (alloc_later V ob) (h.box x hx).1.lt, (h.box x hx).2⟩⟩
/-- A fraction that a step told, still there. -/
structure GRow (V : World) (base : Nat) (n : Bool) (v : Value) (xs : List Int) (u : Value) (ys : List Int) : Prop where
  ov : V.ownsRow base 68 1 v xs.length (xs.map (Value.int .u32))
  ou : V.ownsRow base 68 1 u ys.length (ys.map (Value.int .u32))
theorem GRow.step {V V' : World} {base p : Nat} {n : Bool} {v u : Value} {xs ys : List Int} (h : GRow V base n v xs u ys) (hp : p < base) (hg : V.grownBy V' (some p)) : GRow V' base n v xs u ys := by
  have hk : ∀ (x : Value), (∀ g, x.ownBlock = some g → base ≤ g) → x.ownBlock = none ∨ x.ownBlock ≠ some p := fun x h1 => by
    cases e : x.ownBlock with
    | none => exact .inl rfl
    | some g => right; intro h; have e2 := Option.some.inj h; have := h1 g e; omega
  exact ⟨World.ownsRow.kept h.ov hg (hk _ (fun g hg => (h.ov.lt g hg).1)), World.ownsRow.kept h.ou hg (hk _ (fun g hg => (h.ou.lt g hg).1))⟩
theorem GRow.sl {V : World} {base : Nat} {n : Bool} {v u : Value} {xs ys : List Int} (h : GRow V base n v xs u ys) (wx : Wd xs) (wy : Wd ys) : Sl V v xs ∧ Sl V u ys := ⟨Sl.own h.ov wx, Sl.own h.ou wy⟩
theorem Sl.kept {V V' : World} {v : Value} {xs : List Int} {p : Nat} (h : Sl V v xs) (hg : V.grownBy V' (some p)) (hne : ∀ a k c, v = .slice (some a) k c → a.block ≠ p) : Sl V' v xs := by
  obtain ⟨a, cap, hv, h1, h2, h3, h4, h5, h6⟩ := h
  refine ⟨a, cap, hv, h1, h2, ?_, h4, h5, h6⟩
  rcases h3 with h3 | ⟨b, off, ha, hb, hc⟩
  · exact .inl h3
  · have hbp : b ≠ p := by subst ha; exact hne _ _ _ hv
    have hs := hg.size
    exact .inr ⟨b, off, ha, by omega, fun j hj => hg.cell (a := ⟨b, off + j, none⟩) (hc j hj) (fun e => hbp (Option.some.inj e))⟩
end Go.Proofs.YtopogjfmocpeaaaGreat

