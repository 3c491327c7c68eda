/- My texts on the way to GaussTexts, one behind the other: contracts of the program and of the document's answers. -/
import Derived.Test.YtdgecalkhbbkoaaGreatDoorJ1
import Derived.Test.YtdgecalkhbbkoaaGreatDoorJ2
import Derived.Deep.RegionHeld3
import Derived.Deep.Cut
import Derived.Laws.ResultCell
import Derived.Deep.LoopGhost
import Derived.WalkKit
import Derived.WalkLawsBesides
import Derived.WalkSpells
import Derived.Test.YtdgecalkhbbkoaaGreatDoorChecked
import Derived.Handy
import Derived.Deep.RegionLaw
import Derived.LoopN
import Derived.Test.YtdgecalkhbbkoaaGreatDoorRows
import Derived.ProofKit
import Derived.OpenShut
import Derived.ShutString
import Derived.Below
import Derived.Lib.SmallJoins
import Derived.Deep.Strs
/- Complex fractions that are lent to a call, kept, alike: slackwaterkit.LentGauss, KeptGauss, SameGauss. (tools/mkkg.py) -/
namespace Go.Proofs.YtdgecalkhbbkoaaGreatDoor
open Go.RowKit
set_option linter.unusedVariables false

/-- The six cells of a complex fraction. -/
def Kl6 (V : World) (p : Nat) (v0 v1 v2 v3 v4 v5 : Value) : Prop := V.cell? ⟨p, 0, none⟩ = some v0 ∧ V.cell? ⟨p, 1, none⟩ = some v1 ∧ V.cell? ⟨p, 2, none⟩ = some v2 ∧ V.cell? ⟨p, 3, none⟩ = some v3 ∧ V.cell? ⟨p, 4, none⟩ = some v4 ∧ V.cell? ⟨p, 5, none⟩ = some v5
theorem Kl6.of {V : World} {p t : Nat} {v0 v1 v2 v3 v4 v5 : Value} (h : Box V p t #[v0, v1, v2, v3, v4, v5]) : V.cell? ⟨p, 0, none⟩ = some v0 ∧ V.cell? ⟨p, 1, none⟩ = some v1 ∧ V.cell? ⟨p, 2, none⟩ = some v2 ∧ V.cell? ⟨p, 3, none⟩ = some v3 ∧ V.cell? ⟨p, 4, none⟩ = some v4 ∧ V.cell? ⟨p, 5, none⟩ = some v5 := ⟨h.cell 0, h.cell 1, h.cell 2, h.cell 3, h.cell 4, h.cell 5⟩

/-- A store of six cells, cell by cell, each world by its name; what stands behind it. -/
theorem kgchain6 {W : World} {b t : Nat} {u0 u1 u2 u3 u4 u5 : Value} (h : Box W b t #[u0, u1, u2, u3, u4, u5]) (ht : 71 ≠ t) (v0 v1 v2 v3 v4 v5 : Value) : ∃ A0 A1 A2 A3 A4 A5, W.setCell ⟨b, 0, none⟩ v0 = A0 ∧ A0.setCell ⟨b, 1, none⟩ v1 = A1 ∧ A1.setCell ⟨b, 2, none⟩ v2 = A2 ∧ A2.setCell ⟨b, 3, none⟩ v3 = A3 ∧ A3.setCell ⟨b, 4, none⟩ v4 = A4 ∧ A4.setCell ⟨b, 5, none⟩ v5 = A5 ∧ (W.cell? ⟨b, 0, none⟩ = some u0 ∧ A0.cell? ⟨b, 1, none⟩ = some u1 ∧ A1.cell? ⟨b, 2, none⟩ = some u2 ∧ A2.cell? ⟨b, 3, none⟩ = some u3 ∧ A3.cell? ⟨b, 4, none⟩ = some u4 ∧ A4.cell? ⟨b, 5, none⟩ = some u5) ∧ (W.frozen? ⟨b, 0, none⟩ = false ∧ A0.frozen? ⟨b, 1, none⟩ = false ∧ A1.frozen? ⟨b, 2, none⟩ = false ∧ A2.frozen? ⟨b, 3, none⟩ = false ∧ A3.frozen? ⟨b, 4, none⟩ = false ∧ A4.frozen? ⟨b, 5, none⟩ = false) ∧
    Hid (Box A5 b t #[v0, v1, v2, v3, v4, v5] ∧ (∀ p t' vs, p ≠ b → Box W p t' vs → Box A5 p t' vs) ∧ (∀ base v n xs, W.ownsRow base 71 1 v n xs → A5.ownsRow base 71 1 v n xs) ∧ (∀ B x, B ≤ b → Below B x W → Below B x A5)) := by
  have h0 : Box _ b t #[v0, u1, u2, u3, u4, u5] := h.set 0 v0
  have h1 : Box _ b t #[v0, v1, u2, u3, u4, u5] := h0.set 1 v1
  have h2 : Box _ b t #[v0, v1, v2, u3, u4, u5] := h1.set 2 v2
  have h3 : Box _ b t #[v0, v1, v2, v3, u4, u5] := h2.set 3 v3
  have h4 : Box _ b t #[v0, v1, v2, v3, v4, u5] := h3.set 4 v4
  have h5 : Box _ b t #[v0, v1, v2, v3, v4, v5] := h4.set 5 v5
  exact ⟨_, _, _, _, _, _, rfl, rfl, rfl, rfl, rfl, rfl, ⟨h.cell 0, h0.cell 1, h1.cell 2, h2.cell 3, h3.cell 4, h4.cell 5⟩, ⟨h.free 0, h0.free 1, h1.free 2, h2.free 3, h3.free 4, h4.free 5⟩, h5, fun p t' vs hne g => ((((((g.other ⟨b, 0, none⟩ v0 hne).other ⟨b, 1, none⟩ v1 hne).other ⟨b, 2, none⟩ v2 hne).other ⟨b, 3, none⟩ v3 hne).other ⟨b, 4, none⟩ v4 hne).other ⟨b, 5, none⟩ v5 hne), fun base v n xs g => kown_put6 g h ht v0 v1 v2 v3 v4 v5, fun B x hB g => kbelow_put6 g hB v0 v1 v2 v3 v4 v5⟩

set_option maxHeartbeats 1600000 in
set_option maxRecDepth 100000 in
theorem klentGauss_any (n : Bool) (a : Option Addr) (ca : Nat) (xs : List Int) (b : Option Addr) (cb : Nat) (ys : List Int) (m : Bool) (c : Option Addr) (cc : Nat) (us : List Int) (d : Option Addr) (cd : Nat) (vs : List Int) (w : World) (sx : Sl w (.slice a xs.length ca) xs) (sy : Sl w (.slice b ys.length cb) ys) (su : Sl w (.slice c us.length cc) us) (sw : Sl w (.slice d vs.length cd) vs) (lx : xs.length ≤ 549755813888) (ly : ys.length ≤ 549755813888) (lu : us.length ≤ 549755813888) (lv : vs.length ≤ 549755813888) :
    Calls Tryz.prog 5 #[.agg #[.bool n, .slice a xs.length ca, .slice b ys.length cb, .bool m, .slice c us.length cc, .slice d vs.length cd]] w fun e w' => ∃ g1 c1 g2 c2 g3 c3 g4 c4, e = .returned (.agg #[.bool n, .slice (some ⟨g1, 0, none⟩) xs.length c1, .slice (some ⟨g2, 0, none⟩) ys.length c2, .bool m, .slice (some ⟨g3, 0, none⟩) us.length c3, .slice (some ⟨g4, 0, none⟩) vs.length c4]) ∧ (w'.ownsRow w.heap.size 71 1 (.slice (some ⟨g1, 0, none⟩) (xs.length + 3) c1) (xs.length + 3) ((xs ++ marks 3).map (Value.int .u32)) ∧ w'.ownsRow w.heap.size 71 1 (.slice (some ⟨g2, 0, none⟩) (ys.length + 3) c2) (ys.length + 3) ((ys ++ marks 3).map (Value.int .u32)) ∧ w'.ownsRow w.heap.size 71 1 (.slice (some ⟨g3, 0, none⟩) (us.length + 3) c3) (us.length + 3) ((us ++ marks 3).map (Value.int .u32)) ∧ w'.ownsRow w.heap.size 71 1 (.slice (some ⟨g4, 0, none⟩) (vs.length + 3) c4) (vs.length + 3) ((vs ++ marks 3).map (Value.int .u32))) ∧ (g1 < g2 ∧ g2 < g3 ∧ g3 < g4) ∧ Below w.heap.size w w' := by
  obtain ⟨X, hX⟩ : ∃ X, (w.alloc (.cells #[.bool n, .slice a xs.length ca, .slice b ys.length cb, .bool m, .slice c us.length cc, .slice d vs.length cd] 26)).alloc (.cells #[.bool false, .slice none 0 0, .slice none 0 0, .bool false, .slice none 0 0, .slice none 0 0] 26) = X := ⟨_, rfl⟩
  have b1 : Below w.heap.size w X := by rw [← hX]; exact bt (alloc_later _ _) (alloc_later _ _)
  have HA : Hid (Box X w.heap.size 26 #[.bool n, .slice a xs.length ca, .slice b ys.length cb, .bool m, .slice c us.length cc, .slice d vs.length cd]) := by rw [← hX]; exact (Box.made w _ _).later (alloc_later _ _) (Box.made w _ _).lt
  have HZ : Hid (Box X (w.heap.size + 1) 26 #[.bool false, .slice none 0 0, .slice none 0 0, .bool false, .slice none 0 0, .slice none 0 0]) := by
    have h := Box.made (w.alloc (.cells #[.bool n, .slice a xs.length ca, .slice b ys.length cb, .bool m, .slice c us.length cc, .slice d vs.length cd] 26)) 26 #[.bool false, .slice none 0 0, .slice none 0 0, .bool false, .slice none 0 0, .slice none 0 0]
    rw [show (w.alloc (.cells #[.bool n, .slice a xs.length ca, .slice b ys.length cb, .bool m, .slice c us.length cc, .slice d vs.length cd] 26)).heap.size = w.heap.size + 1 by simp, hX] at h
    exact h
  have HK : Hid (∀ V, Below X.heap.size X V → V.cell? ⟨w.heap.size, 0, none⟩ = some (.bool n) ∧ V.cell? ⟨w.heap.size, 1, none⟩ = some (.slice a xs.length ca) ∧ V.cell? ⟨w.heap.size, 2, none⟩ = some (.slice b ys.length cb) ∧ V.cell? ⟨w.heap.size, 3, none⟩ = some (.bool m) ∧ V.cell? ⟨w.heap.size, 4, none⟩ = some (.slice c us.length cc) ∧ V.cell? ⟨w.heap.size, 5, none⟩ = some (.slice d vs.length cd)) := fun V hv => Kl6.of (HA.out.later hv HA.out.lt)
  have HL1 : Hid (∀ V, Below X.heap.size X V → Calls Tryz.prog 14 #[.agg #[.bool n, .slice a xs.length ca, .slice b ys.length cb]] V fun e V' => ∃ g1 c1 g2 c2, e = .returned (.agg #[.bool n, .slice (some ⟨g1, 0, none⟩) xs.length c1, .slice (some ⟨g2, 0, none⟩) ys.length c2]) ∧ Hid (V'.ownsRow X.heap.size 71 1 (.slice (some ⟨g1, 0, none⟩) (xs.length + 3) c1) (xs.length + 3) ((xs ++ marks 3).map (Value.int .u32)) ∧ V'.ownsRow X.heap.size 71 1 (.slice (some ⟨g2, 0, none⟩) (ys.length + 3) c2) (ys.length + 3) ((ys ++ marks 3).map (Value.int .u32)) ∧ g1 < g2 ∧ g2 < V'.heap.size ∧ Below X.heap.size X V') ∧ (V'.cell? ⟨w.heap.size, 0, none⟩ = some (.bool n) ∧ V'.cell? ⟨w.heap.size, 1, none⟩ = some (.slice a xs.length ca) ∧ V'.cell? ⟨w.heap.size, 2, none⟩ = some (.slice b ys.length cb) ∧ V'.cell? ⟨w.heap.size, 3, none⟩ = some (.bool m) ∧ V'.cell? ⟨w.heap.size, 4, none⟩ = some (.slice c us.length cc) ∧ V'.cell? ⟨w.heap.size, 5, none⟩ = some (.slice d vs.length cd))) := fun V hv => by
    refine Calls.mono (lentRatio_any n a ca xs b cb ys V ((sx.later b1).later hv) ((sy.later b1).later hv) lx ly) ?_
    rintro e V' ⟨g1, c1, g2, c2, rfl, o1, o2, hg, hb⟩
    exact ⟨g1, c1, g2, c2, rfl, ⟨owns_base o1 hv.size, owns_base o2 hv.size, hg, (o2.lt g2 rfl).2, bt hv hb⟩, HK.out _ (bt hv hb)⟩
  have HL2 : Hid (∀ V, Below X.heap.size X V → Calls Tryz.prog 14 #[.agg #[.bool m, .slice c us.length cc, .slice d vs.length cd]] V fun e V' => ∃ g3 c3 g4 c4, e = .returned (.agg #[.bool m, .slice (some ⟨g3, 0, none⟩) us.length c3, .slice (some ⟨g4, 0, none⟩) vs.length c4]) ∧ Hid (V'.ownsRow X.heap.size 71 1 (.slice (some ⟨g3, 0, none⟩) (us.length + 3) c3) (us.length + 3) ((us ++ marks 3).map (Value.int .u32)) ∧ V'.ownsRow X.heap.size 71 1 (.slice (some ⟨g4, 0, none⟩) (vs.length + 3) c4) (vs.length + 3) ((vs ++ marks 3).map (Value.int .u32)) ∧ g3 < g4 ∧ V.heap.size ≤ g3 ∧ Below V.heap.size V V' ∧ Below X.heap.size X V') ∧ (V'.cell? ⟨w.heap.size, 0, none⟩ = some (.bool n) ∧ V'.cell? ⟨w.heap.size, 1, none⟩ = some (.slice a xs.length ca) ∧ V'.cell? ⟨w.heap.size, 2, none⟩ = some (.slice b ys.length cb) ∧ V'.cell? ⟨w.heap.size, 3, none⟩ = some (.bool m) ∧ V'.cell? ⟨w.heap.size, 4, none⟩ = some (.slice c us.length cc) ∧ V'.cell? ⟨w.heap.size, 5, none⟩ = some (.slice d vs.length cd)) ∧ Hid (Box V' (w.heap.size + 1) 26 #[.bool false, .slice none 0 0, .slice none 0 0, .bool false, .slice none 0 0, .slice none 0 0] ∧ Box V' w.heap.size 26 #[.bool n, .slice a xs.length ca, .slice b ys.length cb, .bool m, .slice c us.length cc, .slice d vs.length cd])) := fun V hv => by
    refine Calls.mono (lentRatio_any m c cc us d cd vs V ((su.later b1).later hv) ((sw.later b1).later hv) lu lv) ?_
    rintro e V' ⟨g1, c1, g2, c2, rfl, o1, o2, hg, hb⟩
    have hz := HZ.out.later (bt hv hb) HZ.out.lt
    exact ⟨g1, c1, g2, c2, rfl, ⟨owns_base o1 hv.size, owns_base o2 hv.size, hg, (o1.lt g1 rfl).1, hb, bt hv hb⟩, HK.out _ (bt hv hb), hz, HA.out.later (bt hv hb) HA.out.lt⟩
  have HB1 := hid b1
  obtain ⟨e0, e1, e2, e3, e4, e5⟩ := HK.out X (Below.refl _ _)
  have hs0 := HK.out _ (Below.refl _ X).drew
  have hd0 := hid (Below.refl X.heap.size X).drew
  clear sx sy su sw b1 lx ly lu lv
  go_enter Tryz.func5, Tryz.ntmps5
  go_wp2_with fail
  clear hX
  go_region_held3 (fun V : World => V.cell? ⟨w.heap.size, 0, none⟩ = some (.bool n) ∧ V.cell? ⟨w.heap.size, 1, none⟩ = some (.slice a xs.length ca) ∧ V.cell? ⟨w.heap.size, 2, none⟩ = some (.slice b ys.length cb) ∧ V.cell? ⟨w.heap.size, 3, none⟩ = some (.bool m) ∧ V.cell? ⟨w.heap.size, 4, none⟩ = some (.slice c us.length cc) ∧ V.cell? ⟨w.heap.size, 5, none⟩ = some (.slice d vs.length cd)) (first | exact hs3 | exact hs2 | exact hs1 | exact hs0)
    (first
      | (go_at_call 14; with_reducible refine Calls.mono (HL2.out _ HE1.out.2.2.2.2) ?_; rintro e w2 ⟨g3, c3, g4, c4, rfl, HE2, hs2, HBZ⟩; obtain ⟨A0, A1, A2, A3, A4, A5, k0, k1, k2, k3, k4, k5, ⟨r0, r1, r2, r3, r4, r5⟩, ⟨f0, f1, f2, f3, f4, f5⟩, HA5⟩ := kgchain6 HBZ.out.1 (by decide) (.bool n) (.slice (some ⟨g1, 0, none⟩) xs.length c1) (.slice (some ⟨g2, 0, none⟩) ys.length c2) (.bool m) (.slice (some ⟨g3, 0, none⟩) us.length c3) (.slice (some ⟨g4, 0, none⟩) vs.length c4); have hs3 := Kl6.of (HA5.out.2.1 _ _ _ (by omega) HBZ.out.2))
      | (go_at_call 14; with_reducible refine Calls.mono (HL1.out _ hd0.out) ?_; rintro e w1 ⟨g1, c1, g2, c2, rfl, HE1, hs1⟩))
  all_goals
    obtain ⟨p0, p1, p2, p3, p4, p5⟩ := Kl6.of HA5.out.1
    have HG : Hid (g1 < g2 ∧ g2 < g3 ∧ g3 < g4) := by
      have q1 := HE1.out.2.2.1
      have q2 := HE1.out.2.2.2.1
      have q3 := HE2.out.2.2.1
      have q4 := HE2.out.2.2.2.1
      exact ⟨q1, by omega, q3⟩
    have HO : Hid (_ ∧ _ ∧ _ ∧ _) := And.intro (HA5.out.2.2.1 _ _ _ _ (owns_base (owns_later HE1.out.1 HE2.out.2.2.2.2.1) HB1.out.size)) (And.intro (HA5.out.2.2.1 _ _ _ _ (owns_base (owns_later HE1.out.2.1 HE2.out.2.2.2.2.1) HB1.out.size)) (And.intro (HA5.out.2.2.1 _ _ _ _ (owns_base HE2.out.1 HB1.out.size)) (HA5.out.2.2.1 _ _ _ _ (owns_base HE2.out.2.1 HB1.out.size))))
    have HBN := hid (HA5.out.2.2.2 _ _ (by omega) (bt HB1.out HE2.out.2.2.2.2.2))
    clear HK HL1 HL2 HE1 HE2 HZ HB1 hs0 hs1 hs2 hs3 hd0 HBZ HA5 r0 r1 r2 r3 r4 r5 f0 f1 f2 f3 f4 f5 k0 k1 k2 k3 k4 k5
    go_wp2_with fail
    refine bodyPost_ret (v := .agg #[.bool n, .slice (some ⟨g1, 0, none⟩) xs.length c1, .slice (some ⟨g2, 0, none⟩) ys.length c2, .bool m, .slice (some ⟨g3, 0, none⟩) us.length c3, .slice (some ⟨g4, 0, none⟩) vs.length c4]) (by simp [results, Tryz.results5, go_sem, p0, p1, p2, p3, p4, p5]) rfl ?_
    exact ⟨g1, c1, g2, c2, g3, c3, g4, c4, rfl, HO.out, HG.out, HBN.out⟩
set_option maxHeartbeats 1600000 in
set_option maxRecDepth 100000 in
theorem kkeptGauss_any (n : Bool) (a : Option Addr) (ca : Nat) (xs : List Int) (b : Option Addr) (cb : Nat) (ys : List Int) (m : Bool) (c : Option Addr) (cc : Nat) (us : List Int) (d : Option Addr) (cd : Nat) (vs : List Int) (g1 c1 g2 c2 g3 c3 g4 c4 base : Nat) (w : World) (sx : Sl w (.slice a xs.length ca) xs) (sy : Sl w (.slice b ys.length cb) ys) (su : Sl w (.slice c us.length cc) us) (sw : Sl w (.slice d vs.length cd) vs) (lx : xs.length ≤ 274877906944) (ly : ys.length ≤ 274877906944) (lu : us.length ≤ 274877906944) (lv : vs.length ≤ 274877906944)
    (o1 : w.ownsRow base 71 1 (.slice (some ⟨g1, 0, none⟩) (xs.length + 3) c1) (xs.length + 3) ((xs ++ marks 3).map (Value.int .u32))) (o2 : w.ownsRow base 71 1 (.slice (some ⟨g2, 0, none⟩) (ys.length + 3) c2) (ys.length + 3) ((ys ++ marks 3).map (Value.int .u32))) (o3 : w.ownsRow base 71 1 (.slice (some ⟨g3, 0, none⟩) (us.length + 3) c3) (us.length + 3) ((us ++ marks 3).map (Value.int .u32))) (o4 : w.ownsRow base 71 1 (.slice (some ⟨g4, 0, none⟩) (vs.length + 3) c4) (vs.length + 3) ((vs ++ marks 3).map (Value.int .u32))) :
    Calls Tryz.prog 11 #[.agg #[.bool n, .slice (some ⟨g1, 0, none⟩) xs.length c1, .slice (some ⟨g2, 0, none⟩) ys.length c2, .bool m, .slice (some ⟨g3, 0, none⟩) us.length c3, .slice (some ⟨g4, 0, none⟩) vs.length c4], .agg #[.bool n, .slice a xs.length ca, .slice b ys.length cb, .bool m, .slice c us.length cc, .slice d vs.length cd]] w fun e w' => e = .returned (.bool true) ∧ Below w.heap.size w w' := by
  obtain ⟨X, hX⟩ : ∃ X, (w.alloc (.cells #[.bool n, .slice (some ⟨g1, 0, none⟩) xs.length c1, .slice (some ⟨g2, 0, none⟩) ys.length c2, .bool m, .slice (some ⟨g3, 0, none⟩) us.length c3, .slice (some ⟨g4, 0, none⟩) vs.length c4] 26)).alloc (.cells #[.bool n, .slice a xs.length ca, .slice b ys.length cb, .bool m, .slice c us.length cc, .slice d vs.length cd] 26) = X := ⟨_, rfl⟩
  have b1 : Below w.heap.size w X := by rw [← hX]; exact bt (alloc_later _ _) (alloc_later _ _)
  have HA : Hid (Box X w.heap.size 26 #[.bool n, .slice (some ⟨g1, 0, none⟩) xs.length c1, .slice (some ⟨g2, 0, none⟩) ys.length c2, .bool m, .slice (some ⟨g3, 0, none⟩) us.length c3, .slice (some ⟨g4, 0, none⟩) vs.length c4]) := by rw [← hX]; exact (Box.made w _ _).later (alloc_later _ _) (Box.made w _ _).lt
  have HZ : Hid (Box X (w.heap.size + 1) 26 #[.bool n, .slice a xs.length ca, .slice b ys.length cb, .bool m, .slice c us.length cc, .slice d vs.length cd]) := by
    have h := Box.made (w.alloc (.cells #[.bool n, .slice (some ⟨g1, 0, none⟩) xs.length c1, .slice (some ⟨g2, 0, none⟩) ys.length c2, .bool m, .slice (some ⟨g3, 0, none⟩) us.length c3, .slice (some ⟨g4, 0, none⟩) vs.length c4] 26)) 26 #[.bool n, .slice a xs.length ca, .slice b ys.length cb, .bool m, .slice c us.length cc, .slice d vs.length cd]
    rw [show (w.alloc (.cells #[.bool n, .slice (some ⟨g1, 0, none⟩) xs.length c1, .slice (some ⟨g2, 0, none⟩) ys.length c2, .bool m, .slice (some ⟨g3, 0, none⟩) us.length c3, .slice (some ⟨g4, 0, none⟩) vs.length c4] 26)).heap.size = w.heap.size + 1 by simp, hX] at h
    exact h
  have HK : Hid (∀ V, Below X.heap.size X V → (V.cell? ⟨w.heap.size, 0, none⟩ = some (.bool n) ∧ V.cell? ⟨w.heap.size, 1, none⟩ = some (.slice (some ⟨g1, 0, none⟩) xs.length c1) ∧ V.cell? ⟨w.heap.size, 2, none⟩ = some (.slice (some ⟨g2, 0, none⟩) ys.length c2) ∧ V.cell? ⟨w.heap.size, 3, none⟩ = some (.bool m) ∧ V.cell? ⟨w.heap.size, 4, none⟩ = some (.slice (some ⟨g3, 0, none⟩) us.length c3) ∧ V.cell? ⟨w.heap.size, 5, none⟩ = some (.slice (some ⟨g4, 0, none⟩) vs.length c4)) ∧ (V.cell? ⟨w.heap.size + 1, 0, none⟩ = some (.bool n) ∧ V.cell? ⟨w.heap.size + 1, 1, none⟩ = some (.slice a xs.length ca) ∧ V.cell? ⟨w.heap.size + 1, 2, none⟩ = some (.slice b ys.length cb) ∧ V.cell? ⟨w.heap.size + 1, 3, none⟩ = some (.bool m) ∧ V.cell? ⟨w.heap.size + 1, 4, none⟩ = some (.slice c us.length cc) ∧ V.cell? ⟨w.heap.size + 1, 5, none⟩ = some (.slice d vs.length cd))) := fun V hv => ⟨Kl6.of (HA.out.later hv HA.out.lt), Kl6.of (HZ.out.later hv HZ.out.lt)⟩
  have HL1 : Hid (∀ V, Below X.heap.size X V → Calls Tryz.prog 23 #[.agg #[.bool n, .slice (some ⟨g1, 0, none⟩) xs.length c1, .slice (some ⟨g2, 0, none⟩) ys.length c2], .agg #[.bool n, .slice a xs.length ca, .slice b ys.length cb]] V fun e V' => e = .returned (.bool true) ∧ ((V'.cell? ⟨w.heap.size, 0, none⟩ = some (.bool n) ∧ V'.cell? ⟨w.heap.size, 1, none⟩ = some (.slice (some ⟨g1, 0, none⟩) xs.length c1) ∧ V'.cell? ⟨w.heap.size, 2, none⟩ = some (.slice (some ⟨g2, 0, none⟩) ys.length c2) ∧ V'.cell? ⟨w.heap.size, 3, none⟩ = some (.bool m) ∧ V'.cell? ⟨w.heap.size, 4, none⟩ = some (.slice (some ⟨g3, 0, none⟩) us.length c3) ∧ V'.cell? ⟨w.heap.size, 5, none⟩ = some (.slice (some ⟨g4, 0, none⟩) vs.length c4)) ∧ (V'.cell? ⟨w.heap.size + 1, 0, none⟩ = some (.bool n) ∧ V'.cell? ⟨w.heap.size + 1, 1, none⟩ = some (.slice a xs.length ca) ∧ V'.cell? ⟨w.heap.size + 1, 2, none⟩ = some (.slice b ys.length cb) ∧ V'.cell? ⟨w.heap.size + 1, 3, none⟩ = some (.bool m) ∧ V'.cell? ⟨w.heap.size + 1, 4, none⟩ = some (.slice c us.length cc) ∧ V'.cell? ⟨w.heap.size + 1, 5, none⟩ = some (.slice d vs.length cd))) ∧ Below X.heap.size X V') := fun V hv => by
    refine Calls.mono (keptRatio_any n a ca xs b cb ys g1 c1 g2 c2 base V ((sx.later b1).later hv) ((sy.later b1).later hv) lx ly (owns_later (owns_later o1 b1) hv) (owns_later (owns_later o2 b1) hv)) ?_
    rintro e V' ⟨rfl, hb⟩
    exact ⟨rfl, HK.out _ (bt hv hb), bt hv hb⟩
  have HL2 : Hid (∀ V, Below X.heap.size X V → Calls Tryz.prog 23 #[.agg #[.bool m, .slice (some ⟨g3, 0, none⟩) us.length c3, .slice (some ⟨g4, 0, none⟩) vs.length c4], .agg #[.bool m, .slice c us.length cc, .slice d vs.length cd]] V fun e V' => e = .returned (.bool true) ∧ ((V'.cell? ⟨w.heap.size, 0, none⟩ = some (.bool n) ∧ V'.cell? ⟨w.heap.size, 1, none⟩ = some (.slice (some ⟨g1, 0, none⟩) xs.length c1) ∧ V'.cell? ⟨w.heap.size, 2, none⟩ = some (.slice (some ⟨g2, 0, none⟩) ys.length c2) ∧ V'.cell? ⟨w.heap.size, 3, none⟩ = some (.bool m) ∧ V'.cell? ⟨w.heap.size, 4, none⟩ = some (.slice (some ⟨g3, 0, none⟩) us.length c3) ∧ V'.cell? ⟨w.heap.size, 5, none⟩ = some (.slice (some ⟨g4, 0, none⟩) vs.length c4)) ∧ (V'.cell? ⟨w.heap.size + 1, 0, none⟩ = some (.bool n) ∧ V'.cell? ⟨w.heap.size + 1, 1, none⟩ = some (.slice a xs.length ca) ∧ V'.cell? ⟨w.heap.size + 1, 2, none⟩ = some (.slice b ys.length cb) ∧ V'.cell? ⟨w.heap.size + 1, 3, none⟩ = some (.bool m) ∧ V'.cell? ⟨w.heap.size + 1, 4, none⟩ = some (.slice c us.length cc) ∧ V'.cell? ⟨w.heap.size + 1, 5, none⟩ = some (.slice d vs.length cd))) ∧ Below X.heap.size X V') := fun V hv => by
    refine Calls.mono (keptRatio_any m c cc us d cd vs g3 c3 g4 c4 base V ((su.later b1).later hv) ((sw.later b1).later hv) lu lv (owns_later (owns_later o3 b1) hv) (owns_later (owns_later o4 b1) hv)) ?_
    rintro e V' ⟨rfl, hb⟩
    exact ⟨rfl, HK.out _ (bt hv hb), bt hv hb⟩
  have HB1 := hid b1
  obtain ⟨⟨e0, e1, e2, e3, e4, e5⟩, ⟨i0, i1, i2, i3, i4, i5⟩⟩ := HK.out X (Below.refl _ _)
  have hs0 := HK.out _ (Below.refl _ X).drew
  have hd0 := hid (Below.refl X.heap.size X).drew
  clear sx sy su sw b1 lx ly lu lv o1 o2 o3 o4 HA HZ
  go_enter Tryz.func11, Tryz.ntmps11
  go_wp2_with fail
  clear hX
  refine Calls.mono (HL1.out X (Below.refl _ _)) ?_
  rintro e w1 ⟨rfl, hs1, hb1⟩
  have HL3 := hid (HL2.out w1 hb1)
  clear e0 e1 e2 e3 e4 e5 i0 i1 i2 i3 i4 i5 hs0 hd0 HL1 HL2 hb1
  obtain ⟨⟨e0, e1, e2, e3, e4, e5⟩, ⟨i0, i1, i2, i3, i4, i5⟩⟩ := hs1
  go_wp2_with fail
  refine Calls.mono HL3.out ?_
  rintro e w2 ⟨rfl, hs2, hb2⟩
  have HBN := hid (bt HB1.out hb2)
  clear HL3 hs2 hb2 e0 e1 e2 e3 e4 e5 i0 i1 i2 i3 i4 i5
  go_wp2_with fail
  go_ret
  exact ⟨rfl, HBN.out⟩
set_option maxHeartbeats 1600000 in
set_option maxRecDepth 100000 in
theorem ksameGauss_eq (n : Bool) (a : Option Addr) (ca : Nat) (xs : List Int) (b : Option Addr) (cb : Nat) (ys : List Int) (m : Bool) (c : Option Addr) (cc : Nat) (us : List Int) (d : Option Addr) (cd : Nat) (vs : List Int) (a2 : Option Addr) (ca2 : Nat) (b2 : Option Addr) (cb2 : Nat) (c2 : Option Addr) (cc2 : Nat) (d2 : Option Addr) (cd2 : Nat) (w : World) (sx : Sl w (.slice a xs.length ca) xs) (sy : Sl w (.slice b ys.length cb) ys) (su : Sl w (.slice c us.length cc) us) (sw : Sl w (.slice d vs.length cd) vs) (sx2 : Sl w (.slice a2 xs.length ca2) xs) (sy2 : Sl w (.slice b2 ys.length cb2) ys) (su2 : Sl w (.slice c2 us.length cc2) us) (sw2 : Sl w (.slice d2 vs.length cd2) vs) (lx : xs.length ≤ 281474976710656) (ly : ys.length ≤ 281474976710656) (lu : us.length ≤ 281474976710656) (lv : vs.length ≤ 281474976710656) :
    Calls Tryz.prog 22 #[.agg #[.bool n, .slice a xs.length ca, .slice b ys.length cb, .bool m, .slice c us.length cc, .slice d vs.length cd], .agg #[.bool n, .slice a2 xs.length ca2, .slice b2 ys.length cb2, .bool m, .slice c2 us.length cc2, .slice d2 vs.length cd2]] w fun e w' => e = .returned (.bool true) ∧ Below w.heap.size w w' := by
  obtain ⟨X, hX⟩ : ∃ X, (w.alloc (.cells #[.bool n, .slice a xs.length ca, .slice b ys.length cb, .bool m, .slice c us.length cc, .slice d vs.length cd] 26)).alloc (.cells #[.bool n, .slice a2 xs.length ca2, .slice b2 ys.length cb2, .bool m, .slice c2 us.length cc2, .slice d2 vs.length cd2] 26) = X := ⟨_, rfl⟩
  have b1 : Below w.heap.size w X := by rw [← hX]; exact bt (alloc_later _ _) (alloc_later _ _)
  have HA : Hid (Box X w.heap.size 26 #[.bool n, .slice a xs.length ca, .slice b ys.length cb, .bool m, .slice c us.length cc, .slice d vs.length cd]) := by rw [← hX]; exact (Box.made w _ _).later (alloc_later _ _) (Box.made w _ _).lt
  have HZ : Hid (Box X (w.heap.size + 1) 26 #[.bool n, .slice a2 xs.length ca2, .slice b2 ys.length cb2, .bool m, .slice c2 us.length cc2, .slice d2 vs.length cd2]) := by
    have h := Box.made (w.alloc (.cells #[.bool n, .slice a xs.length ca, .slice b ys.length cb, .bool m, .slice c us.length cc, .slice d vs.length cd] 26)) 26 #[.bool n, .slice a2 xs.length ca2, .slice b2 ys.length cb2, .bool m, .slice c2 us.length cc2, .slice d2 vs.length cd2]
    rw [show (w.alloc (.cells #[.bool n, .slice a xs.length ca, .slice b ys.length cb, .bool m, .slice c us.length cc, .slice d vs.length cd] 26)).heap.size = w.heap.size + 1 by simp, hX] at h
    exact h
  have HK : Hid (∀ V, Below X.heap.size X V → (V.cell? ⟨w.heap.size, 0, none⟩ = some (.bool n) ∧ V.cell? ⟨w.heap.size, 1, none⟩ = some (.slice a xs.length ca) ∧ V.cell? ⟨w.heap.size, 2, none⟩ = some (.slice b ys.length cb) ∧ V.cell? ⟨w.heap.size, 3, none⟩ = some (.bool m) ∧ V.cell? ⟨w.heap.size, 4, none⟩ = some (.slice c us.length cc) ∧ V.cell? ⟨w.heap.size, 5, none⟩ = some (.slice d vs.length cd)) ∧ (V.cell? ⟨w.heap.size + 1, 0, none⟩ = some (.bool n) ∧ V.cell? ⟨w.heap.size + 1, 1, none⟩ = some (.slice a2 xs.length ca2) ∧ V.cell? ⟨w.heap.size + 1, 2, none⟩ = some (.slice b2 ys.length cb2) ∧ V.cell? ⟨w.heap.size + 1, 3, none⟩ = some (.bool m) ∧ V.cell? ⟨w.heap.size + 1, 4, none⟩ = some (.slice c2 us.length cc2) ∧ V.cell? ⟨w.heap.size + 1, 5, none⟩ = some (.slice d2 vs.length cd2))) := fun V hv => ⟨Kl6.of (HA.out.later hv HA.out.lt), Kl6.of (HZ.out.later hv HZ.out.lt)⟩
  have HL1 := hid (sameRatio_eq n _ _ _ _ xs ys X (sx.later b1) (sy.later b1) (sx2.later b1) (sy2.later b1) lx ly)
  have HL2 := hid (fun V (hv : Below X.heap.size X V) => sameRatio_eq m _ _ _ _ us vs V ((su.later b1).later hv) ((sw.later b1).later hv) ((su2.later b1).later hv) ((sw2.later b1).later hv) lu lv)
  have HB1 := hid b1
  obtain ⟨⟨e0, e1, e2, e3, e4, e5⟩, ⟨i0, i1, i2, i3, i4, i5⟩⟩ := HK.out X (Below.refl _ _)
  clear sx sy su sw sx2 sy2 su2 sw2 b1 lx ly lu lv HA HZ
  go_enter Tryz.func22, Tryz.ntmps22
  go_wp2_with fail
  clear hX
  refine Calls.mono HL1.out ?_
  rintro e w1 ⟨rfl, hb1⟩
  have HL3 := hid (HL2.out w1 hb1)
  have HB2 := hid (bt HB1.out hb1)
  clear e0 e1 e2 e3 e4 e5 i0 i1 i2 i3 i4 i5 HL1 HL2
  obtain ⟨⟨e0, e1, e2, e3, e4, e5⟩, ⟨i0, i1, i2, i3, i4, i5⟩⟩ := HK.out w1 hb1
  clear hb1
  go_wp2_with fail
  refine Calls.mono HL3.out ?_
  rintro e w2 ⟨rfl, hb2⟩
  have HBN := hid (bt HB2.out hb2)
  clear HL3 hb2 e0 e1 e2 e3 e4 e5 i0 i1 i2 i3 i4 i5
  go_wp2_with fail
  go_ret
  exact ⟨rfl, HBN.out⟩

theorem klentf {W : World} {base g cap : Nat} {xs : List Int} (ho : W.ownsRow base 71 1 (.slice (some ⟨g, 0, none⟩) (xs.length + 3) cap) (xs.length + 3) ((xs ++ marks 3).map (Value.int .u32))) : W.ownsRow base 71 1 (.slice (some ⟨g, 0, none⟩) xs.length cap) xs.length (xs.map (Value.int .u32)) := by
  rw [List.map_append] at ho
  exact owns_front (k := 3) ho (by simp)
end Go.Proofs.YtdgecalkhbbkoaaGreatDoor

/- Boxes of fractions, rows of the call's own and one box of a flag, in a bundle that is moved along. -/
namespace Go.Proofs.YtdgecalkhbbkoaaGreatDoor
open Go.RowKit
set_option linter.unusedVariables false

theorem Box.same {w : World} {b t : Nat} {vs : Array Value} (h : Box w b t vs) {j : Nat} {v : Value} (hv : vs[j]? = some v) : w.setCell ⟨b, j, none⟩ v = w := by
  have e : (w.setCell ⟨b, j, none⟩ v).heap = w.heap := by
    have h' : w.heap[b]? = some (.cells vs t (0, 0)) := h
    have hs : vs.setIfInBounds j v = vs := by
      apply Array.ext_getElem?
      intro k
      rw [Array.getElem?_setIfInBounds]
      by_cases c : j = k
      · subst c
        obtain ⟨hk, _⟩ := Array.getElem?_eq_some_iff.1 hv
        rw [if_pos rfl, if_pos hk, hv]
      · rw [if_neg c]
    unfold World.setCell
    apply Array.ext_getElem?
    intro k
    simp only [Array.getElem?_modify]
    by_cases c : b = k
    · subst c
      rw [if_pos rfl, h']
      simp [hs]
    · rw [if_neg c]
  cases w
  simp only [World.setCell] at e ⊢
  rw [e]
theorem own_put1 {w : World} {base e n : Nat} {v : Value} {xs : List Value} (h : w.ownsRow base e 1 v n xs) (b : Nat) (hb : ∀ g, v.ownBlock = some g → g ≠ b) (j : Nat) (v0 : Value) : (w.setCell ⟨b, j, none⟩ v0).ownsRow base e 1 v n xs := by
  have hne : v.ownBlock = none ∨ v.ownBlock ≠ some b := by
    cases hv : v.ownBlock with
    | none => exact .inl rfl
    | some g => right; intro e; exact hb g hv (Option.some.inj e)
  exact World.ownsRow.kept h (grown_set w ⟨b, j, none⟩ v0) hne
/-- Boxes that hold fractions. -/
def Bxs3 (W : World) (l : List (Nat × Array Value)) : Prop := ∀ p ∈ l, Box W p.1 24 p.2
def Rws (W : World) (l : List (Nat × Value × List Int)) : Prop := ∀ p ∈ l, W.ownsRow p.1 71 1 p.2.1 p.2.2.length (p.2.2.map (Value.int .u32))
/-- What is known of a world: boxes of fractions, rows of the call's own, what was there. -/
structure St (w W : World) (l : List (Nat × Array Value)) (r : List (Nat × Value × List Int)) : Prop where
  box : Bxs3 W l
  row : Rws W r
  bel : Below w.heap.size w W
theorem St.later {w W W' : World} {l : List (Nat × Array Value)} {r : List (Nat × Value × List Int)} (h : St w W l r) (hb : Below W.heap.size W W') : St w W' l r :=
  ⟨fun p hp => (h.box p hp).later hb (h.box p hp).lt, fun p hp => owns_later (h.row p hp) hb, bt h.bel hb⟩
theorem St.more {w W : World} {l : List (Nat × Array Value)} {r : List (Nat × Value × List Int)} (h : St w W l r) {base : Nat} {v : Value} {zs : List Int} (o : W.ownsRow base 71 1 v zs.length (zs.map (Value.int .u32))) : St w W l ((base, v, zs) :: r) :=
  ⟨h.box, fun p hp => by
    cases hp with
    | head => exact o
    | tail _ hp => exact h.row p hp, h.bel⟩
theorem St.put {w W : World} {l : List (Nat × Array Value)} {r : List (Nat × Value × List Int)} (h : St w W l r) (n : Bool) (v u : Value) : St w (W.alloc (.cells #[.bool n, v, u] 24)) ((W.heap.size, #[.bool n, v, u]) :: l) r :=
  ⟨fun p hp => by
    cases hp with
    | head => exact Box.made W _ _
    | tail _ hp => exact (h.box p hp).later (alloc_later _ _) (h.box p hp).lt, (h.later (alloc_later _ _)).row, (h.later (alloc_later _ _)).bel⟩
theorem St.free {w W : World} {l : List (Nat × Array Value)} {r : List (Nat × Value × List Int)} (h : St w W l r) {g : Nat} {n : Bool} {v u : Value} (hm : (g, #[.bool n, v, u]) ∈ l) : W.frozen? ⟨g, 0, none⟩ = false ∧ W.frozen? ⟨g, 1, none⟩ = false ∧ W.frozen? ⟨g, 2, none⟩ = false := ⟨(h.box _ hm).free 0, (h.box _ hm).free 1, (h.box _ hm).free 2⟩
theorem St.same {w W : World} {l : List (Nat × Array Value)} {r : List (Nat × Value × List Int)} (h : St w W l r) {g : Nat} {n : Bool} {v u : Value} (hm : (g, #[.bool n, v, u]) ∈ l) : W.setCell ⟨g, 0, none⟩ (.bool n) = W ∧ W.setCell ⟨g, 1, none⟩ v = W ∧ W.setCell ⟨g, 2, none⟩ u = W := ⟨(h.box _ hm).same rfl, (h.box _ hm).same rfl, (h.box _ hm).same rfl⟩
theorem St.sl {w W : World} {l : List (Nat × Array Value)} {r : List (Nat × Value × List Int)} (h : St w W l r) {base : Nat} {v : Value} {zs : List Int} (wd : Wd zs) (hm : (base, v, zs) ∈ r) : Sl W v zs := Sl.own (h.row _ hm) wd
/-- A store into a box of another type. -/
theorem St.flag {w W : World} {l : List (Nat × Array Value)} {r : List (Nat × Value × List Int)} (h : St w W l r) {g t : Nat} {vs : Array Value} (b : Box W g t vs) (hg : w.heap.size ≤ g) (h1 : t ≠ 24) (h2 : t ≠ 71) (j : Nat) (v : Value) : St w (W.setCell ⟨g, j, none⟩ v) l r := by
  refine ⟨fun p hp => (h.box p hp).other _ _ (fun e => ?_), fun p hp => own_put1 (h.row p hp) g (own_ne_box (h.row p hp) b (Ne.symm h2)) _ _, h.bel.setCell (p := ⟨g, j, none⟩) hg _⟩
  · have e1 := h.box p hp
    rw [e] at e1
    have e2 : some (Obj.cells p.2 24 (0, 0)) = some (.cells vs t (0, 0)) := e1.symm.trans b
    injection e2 with e3
    injection e3 with _ e4 _
    exact h1 e4.symm
end Go.Proofs.YtdgecalkhbbkoaaGreatDoor

/- Complex fractions: gauss.Check; the steps' own: look, next. -/
namespace Go.Proofs.YtdgecalkhbbkoaaGreatDoor
open Go.RowKit
set_option linter.unusedVariables false

/-- The first error, else the second. -/
def fstE (E e : Int) : Int := if E = 0 then e else E
theorem fstE_zero (e : Int) : fstE 0 e = e := if_pos rfl
theorem fstE_err {E : Int} (e : Int) (h : E ≠ 0) : fstE E e = E := if_neg h
/-- What Check tells of two parts. -/
def gchk (n : Bool) (xs ys : List Int) (m : Bool) (us vs : List Int) : Int := fstE (rchk n xs ys) (rchk m us vs)

theorem own_put3' {w : World} {base e n : Nat} {v : Value} {xs : List Value} (h : w.ownsRow base e 1 v n xs) (b : Nat) (hb : ∀ g, v.ownBlock = some g → g ≠ b) (u0 u1 u2 : Value) : (((w.setCell ⟨b, 0, none⟩ u0).setCell ⟨b, 1, none⟩ u1).setCell ⟨b, 2, none⟩ u2).ownsRow base e 1 v n xs :=
  own_put1 (own_put1 (own_put1 h b hb 0 u0) b hb 1 u1) b hb 2 u2
end Go.Proofs.YtdgecalkhbbkoaaGreatDoor

/- Fractions: ratio.add: sums of fractions that may be; what is told is new memory, Num and Den apart. -/
namespace Go.Proofs.YtdgecalkhbbkoaaGreatDoor
open Go.RowKit
set_option linter.unusedVariables false

/-- A whole number in a box, behind what was there. -/
def Num (X U F : World) (p : Nat) (k : Bool) (a : Option Addr) (c : Nat) (z : List Int) (T : Int) : Prop := Box F p 57 #[.bool k, .slice a z.length c] ∧ One X F (.slice a z.length c) z T ∧ Below U.heap.size U F
theorem rtold_cut2 {U ww : World} {n : Bool} {a : Option Addr} {ca : Nat} {zs : List Int} {b : Option Addr} {cb : Nat} {ds : List Int} {s t : Int} {q : Rat} (hb : Below U.heap.size U ww) (h1 : One U ww (.slice a zs.length ca) zs s) (h2 : One U ww (.slice b ds.length cb) ds t) (hc : Cut U (.slice a zs.length ca) (.slice b ds.length cb) ww) (hd : 0 < t) (hg : gcdI s t = 1) (hq : Rat.divInt (sg n s) t = q) :
    Calls Tryz.prog 39 #[.bool n, .slice a zs.length ca, .slice b ds.length cb] ww fun e w' => ∃ k a8 z8 c8 a9 z9 c9 code, e = .returned (.tuple #[.agg #[.bool k, .slice a8 (List.length z8) c8, .slice a9 (List.length z9) c9], .int .i64 code]) ∧ Hid (w'.ownsRow U.heap.size 71 1 (.slice a8 (List.length z8) c8) z8.length (z8.map (Value.int .u32)) ∧ w'.ownsRow U.heap.size 71 1 (.slice a9 (List.length z9) c9) z9.length (z9.map (Value.int .u32)) ∧ RTells 0 q k z8 z9 code ∧ Cut U (.slice a8 (List.length z8) c8) (.slice a9 (List.length z9) c9) w') ∧ Below U.heap.size U w' ∧ Hid (Below ww.heap.size ww w') := by
  obtain ⟨o1, w1, t1, v1⟩ := h1
  obtain ⟨o2, w2, t2, v2⟩ := h2
  obtain ⟨k, us, vs, c, e1, e2, e3, r⟩ := rtells_of (n := n) w1 t1 w2 t2 (by rw [v2]; exact hd) (by rw [v1, v2]; exact hg)
  rw [v1, v2, hq] at r
  refine Calls.mono (rtold_any n a zs.length ca b ds.length cb ww) fun e w' h => ?_
  obtain ⟨rfl, hb2⟩ := h
  rw [e1]
  by_cases z : c = 0
  · rw [if_pos z] at e2 e3
    subst e2; subst e3
    refine ⟨k, a, us, ca, b, vs, cb, c, by rw [if_pos z, if_pos z], ⟨owns_later o1 hb2, owns_later o2 hb2, r, hc.up (Nat.le_refl _) hb2.size⟩, bt hb hb2, hb2⟩
  · rw [if_neg z] at e2 e3
    subst e2; subst e3
    exact ⟨k, none, [], 0, none, [], 0, c, by rw [if_neg z, if_neg z]; rfl, ⟨World.ownsRow_nil _ _ _ _, World.ownsRow_nil _ _ _ _, r, ⟨U.heap.size, Nat.le_refl _, (bt hb hb2).size, fun g hg => by simp [Value.ownBlock] at hg, fun g hg => by simp [Value.ownBlock] at hg⟩⟩, bt hb hb2, hb2⟩

end Go.Proofs.YtdgecalkhbbkoaaGreatDoor

/- Fractions: ratio.Add, Mul, Sub: of any fractions, good or refused; what is told is new memory. -/
namespace Go.Proofs.YtdgecalkhbbkoaaGreatDoor
open Go.RowKit
set_option linter.unusedVariables false

end Go.Proofs.YtdgecalkhbbkoaaGreatDoor

/- Fractions: ratio.Quo, Neg, Sign: of any fractions, good or refused; what is told is new memory. -/
namespace Go.Proofs.YtdgecalkhbbkoaaGreatDoor
open Go.RowKit
set_option linter.unusedVariables false

end Go.Proofs.YtdgecalkhbbkoaaGreatDoor

/- Fractions: ratio.Neg, Sign: of any fraction, good or refused. -/
namespace Go.Proofs.YtdgecalkhbbkoaaGreatDoor
open Go.RowKit
set_option linter.unusedVariables false

end Go.Proofs.YtdgecalkhbbkoaaGreatDoor

/- Complex fractions, the steps' own: opposite, look, told. -/
namespace Go.Proofs.YtdgecalkhbbkoaaGreatDoor
open Go.RowKit
set_option linter.unusedVariables false

end Go.Proofs.YtdgecalkhbbkoaaGreatDoor

/- Complex fractions, the steps' own: told. -/
namespace Go.Proofs.YtdgecalkhbbkoaaGreatDoor
open Go.RowKit
set_option linter.unusedVariables false

theorem box_put6 {U : World} {b t : Nat} {u0 u1 u2 u3 u4 u5 : Value} (h : Box U b t #[u0, u1, u2, u3, u4, u5]) (v0 v1 v2 v3 v4 v5 : Value) : Box ((((((U.setCell ⟨b, 0, none⟩ v0).setCell ⟨b, 1, none⟩ v1).setCell ⟨b, 2, none⟩ v2).setCell ⟨b, 3, none⟩ v3).setCell ⟨b, 4, none⟩ v4).setCell ⟨b, 5, none⟩ v5) b t #[v0, v1, v2, v3, v4, v5] := (((((h.set 0 v0).set 1 v1).set 2 v2).set 3 v3).set 4 v4).set 5 v5
theorem below_put6 {B : Nat} {x U : World} (h : Below B x U) (b : Nat) (hb : B ≤ b) (v0 v1 v2 v3 v4 v5 : Value) : Below B x ((((((U.setCell ⟨b, 0, none⟩ v0).setCell ⟨b, 1, none⟩ v1).setCell ⟨b, 2, none⟩ v2).setCell ⟨b, 3, none⟩ v3).setCell ⟨b, 4, none⟩ v4).setCell ⟨b, 5, none⟩ v5) :=
  (((((h.setCell (p := ⟨b, 0, none⟩) hb _).setCell (p := ⟨b, 1, none⟩) hb _).setCell (p := ⟨b, 2, none⟩) hb _).setCell (p := ⟨b, 3, none⟩) hb _).setCell (p := ⟨b, 4, none⟩) hb _).setCell (p := ⟨b, 5, none⟩) hb _
end Go.Proofs.YtdgecalkhbbkoaaGreatDoor

/- Complex fractions: gauss.Add, Sub: of any two, good or refused. -/
namespace Go.Proofs.YtdgecalkhbbkoaaGreatDoor
open Go.RowKit
set_option linter.unusedVariables false

/-- What a call tells that tells a complex fraction: E what was refused ahead, L whether something on the way is too long. -/
structure GTells (E : Int) (L : Prop) (q1 q2 : Rat) (n : Bool) (xs ys : List Int) (m : Bool) (us vs : List Int) (code : Int) : Prop where
  wd : Wd xs ∧ Wd ys ∧ Wd us ∧ Wd vs
  bad : E ≠ 0 → (n = false ∧ xs = [] ∧ ys = [] ∧ m = false ∧ us = [] ∧ vs = []) ∧ code = E
  long : E = 0 → L → (n = false ∧ xs = [] ∧ ys = [] ∧ m = false ∧ us = [] ∧ vs = []) ∧ code = 3
  good : E = 0 → ¬ L → code = 0 ∧ (rchk n xs ys = 0 ∧ rq n xs ys = q1) ∧ rchk m us vs = 0 ∧ rq m us vs = q2
def GTold (w : World) (E : Int) (L : Prop) (q1 q2 : Rat) (x : Ending) (w' : World) : Prop :=
  ∃ n a ca xs b cb ys m c cc us d cd vs code, x = .returned (.tuple #[.agg #[.bool n, .slice a (List.length xs) ca, .slice b (List.length ys) cb, .bool m, .slice c (List.length us) cc, .slice d (List.length vs) cd], .int .i64 code]) ∧ (w'.ownsRow w.heap.size 71 1 (.slice a xs.length ca) xs.length (xs.map (Value.int .u32)) ∧ w'.ownsRow w.heap.size 71 1 (.slice b ys.length cb) ys.length (ys.map (Value.int .u32)) ∧ w'.ownsRow w.heap.size 71 1 (.slice c us.length cc) us.length (us.map (Value.int .u32)) ∧ w'.ownsRow w.heap.size 71 1 (.slice d vs.length cd) vs.length (vs.map (Value.int .u32))) ∧ GTells E L q1 q2 n xs ys m us vs code ∧ Below w.heap.size w w'

theorem gchk_ok {n m : Bool} {xs ys us vs : List Int} (h : gchk n xs ys m us vs = 0) : rchk n xs ys = 0 ∧ rchk m us vs = 0 := by
  unfold gchk fstE at h
  by_cases e : rchk n xs ys = 0
  · rw [if_pos e] at h; exact ⟨e, h⟩
  · rw [if_neg e] at h; exact absurd h e
theorem own_put6 {w : World} {base e n : Nat} {v : Value} {xs : List Value} (h : w.ownsRow base e 1 v n xs) (b : Nat) (hb : ∀ g, v.ownBlock = some g → g ≠ b) (u0 u1 u2 u3 u4 u5 : Value) : ((((((w.setCell ⟨b, 0, none⟩ u0).setCell ⟨b, 1, none⟩ u1).setCell ⟨b, 2, none⟩ u2).setCell ⟨b, 3, none⟩ u3).setCell ⟨b, 4, none⟩ u4).setCell ⟨b, 5, none⟩ u5).ownsRow base e 1 v n xs :=
  own_put1 (own_put1 (own_put1 (own_put3' h b hb u0 u1 u2) b hb 3 u3) b hb 4 u4) b hb 5 u5
/-- A complex fraction is read out of a box, its error out of a slot. -/
theorem gres_run {fn : Func} {W : World} {b q u : Nat} {cs : Array Value} (hr : fn.results = #[.cell q 26, .tmp u]) (hb : Box W b 26 cs) (tmps : Array Value) (h4 : tmps.getD q undef = .pointer (some ⟨b, 0, none⟩)) (hi : (Tryz.prog.info? 26).map (·.size) = some cs.size := by kernel_rfl) : (results fn tmps).run Tryz.prog W = .ok (.tuple #[.agg cs, tmps.getD u undef]) W := by
  have h := run_loadVar_row (P := Tryz.prog) W b 26 26 cs (0, 0) _ hb Tryz.underlying26 rfl hi
  rw [results_cell_tmp hr, h4]
  simp [asAddr, h]

end Go.Proofs.YtdgecalkhbbkoaaGreatDoor

/- Complex fractions: what stands while steps are made one behind the other (for square, times). -/
namespace Go.Proofs.YtdgecalkhbbkoaaGreatDoor
open Go.RowKit
set_option linter.unusedVariables false

/-- A fraction that a step told, still there. -/
structure GRow (V : World) (base : Nat) (n : Bool) (v : Value) (xs : List Int) (u : Value) (ys : List Int) : Prop where
  ov : V.ownsRow base 71 1 v xs.length (xs.map (Value.int .u32))
  ou : V.ownsRow base 71 1 u ys.length (ys.map (Value.int .u32))
theorem GRow.step {V V' : World} {base p : Nat} {n : Bool} {v u : Value} {xs ys : List Int} (h : GRow V base n v xs u ys) (hp : p < base) (hg : V.grownBy V' (some p)) : GRow V' base n v xs u ys := by
  have hk : ∀ (x : Value), (∀ g, x.ownBlock = some g → base ≤ g) → x.ownBlock = none ∨ x.ownBlock ≠ some p := fun x h1 => by
    cases e : x.ownBlock with
    | none => exact .inl rfl
    | some g => right; intro h; have e2 := Option.some.inj h; have := h1 g e; omega
  exact ⟨World.ownsRow.kept h.ov hg (hk _ (fun g hg => (h.ov.lt g hg).1)), World.ownsRow.kept h.ou hg (hk _ (fun g hg => (h.ou.lt g hg).1))⟩
theorem GRow.sl {V : World} {base : Nat} {n : Bool} {v u : Value} {xs ys : List Int} (h : GRow V base n v xs u ys) (wx : Wd xs) (wy : Wd ys) : Sl V v xs ∧ Sl V u ys := ⟨Sl.own h.ov wx, Sl.own h.ou wy⟩
theorem Sl.kept {V V' : World} {v : Value} {xs : List Int} {p : Nat} (h : Sl V v xs) (hg : V.grownBy V' (some p)) (hne : ∀ a k c, v = .slice (some a) k c → a.block ≠ p) : Sl V' v xs := by
  obtain ⟨a, cap, hv, h1, h2, h3, h4, h5, h6⟩ := h
  refine ⟨a, cap, hv, h1, h2, ?_, h4, h5, h6⟩
  rcases h3 with h3 | ⟨b, off, ha, hb, hc⟩
  · exact .inl h3
  · have hbp : b ≠ p := by subst ha; exact hne _ _ _ hv
    have hs := hg.size
    exact .inr ⟨b, off, ha, by omega, fun j hj => hg.cell (a := ⟨b, off + j, none⟩) (hc j hj) (fun e => hbp (Option.some.inj e))⟩
end Go.Proofs.YtdgecalkhbbkoaaGreatDoor

/- Complex fractions, the steps' own: square: of any complex fraction that was looked at. -/
namespace Go.Proofs.YtdgecalkhbbkoaaGreatDoor
open Go.RowKit
set_option linter.unusedVariables false

end Go.Proofs.YtdgecalkhbbkoaaGreatDoor

/- Fractions: Same, Sign; slices.Equal of words. -/
namespace Go.Proofs.YtdgecalkhbbkoaaGreatDoor
open Go.RowKit
set_option linter.unusedVariables false

end Go.Proofs.YtdgecalkhbbkoaaGreatDoor

/- Fractions: ratio.compareSizes, Compare: of any fractions, good or refused. -/
namespace Go.Proofs.YtdgecalkhbbkoaaGreatDoor
open Go.RowKit
set_option linter.unusedVariables false

end Go.Proofs.YtdgecalkhbbkoaaGreatDoor

/- Whole numbers: whole.power, Power: powers of every number, or the error. -/
namespace Go.Proofs.YtdgecalkhbbkoaaGreatDoor
open Go.RowKit
set_option linter.unusedVariables false

theorem WTells.tooLong {t : Int} (h : wlim ≤ t ∨ t ≤ -wlim) : WTells 0 t false [] 3 := ⟨Wd.nil, Trimmed.nil, .inl rfl, by simp, fun h' => absurd rfl h', fun _ _ => ⟨rfl, rfl, rfl⟩, fun _ h1 h2 => by rcases h with h | h <;> omega⟩
theorem WTells.is {t : Int} {n : Bool} {zs : List Int} (hw : Wd zs) (hk : wchk n zs = 0) (hv : wval n zs = t) : WTells 0 t n zs 0 := by
  obtain ⟨l, tt, s⟩ := wchk_ok hk
  have hb := below2048 hw l
  have h0 := val_nonneg hw
  refine ⟨hw, tt, s, l, fun h' => absurd rfl h', fun _ h1 => ?_, fun _ _ _ => ⟨rfl, hv⟩⟩
  exfalso
  rw [← hv] at h1
  cases n <;> simp [wval] at h1 <;> omega

end Go.Proofs.YtdgecalkhbbkoaaGreatDoor

/- Fractions: ratio.Floor: of any fraction, good or refused. -/
namespace Go.Proofs.YtdgecalkhbbkoaaGreatDoor
open Go.RowKit
set_option linter.unusedVariables false

end Go.Proofs.YtdgecalkhbbkoaaGreatDoor

/- Whole numbers: whole.Compare, Abs: of every two numbers whose words can be read. -/
namespace Go.Proofs.YtdgecalkhbbkoaaGreatDoor
open Go.RowKit
set_option linter.unusedVariables false

end Go.Proofs.YtdgecalkhbbkoaaGreatDoor

/- Whole numbers: whole.Sub; slackwaterlaw02.add, mul, same: of numbers that may be. -/
namespace Go.Proofs.YtdgecalkhbbkoaaGreatDoor
open Go.RowKit
set_option linter.unusedVariables false

end Go.Proofs.YtdgecalkhbbkoaaGreatDoor

/- nat.split tells a number's pieces of nine digits, the lowest first, in new memory. -/
namespace Go.Proofs.YtdgecalkhbbkoaaGreatDoor
open Go.RowKit
set_option linter.unusedVariables false

/-- The value of pieces of nine digits. -/
def pval : List Int → Int
  | [] => 0
  | p :: ps => p + pval ps * 1000000000
theorem pval_snoc : ∀ (ps : List Int) (p : Int), pval (ps ++ [p]) = pval ps + p * 1000000000 ^ ps.length
  | [], p => by simp [pval]
  | q :: ps, p => by
    show q + pval (ps ++ [p]) * 1000000000 = q + pval ps * 1000000000 + p * 1000000000 ^ (ps.length + 1)
    rw [pval_snoc ps p, Int.add_mul, Int.pow_succ, ← Int.mul_assoc, Int.add_assoc]
/-- Each number is a piece of nine digits. -/
def Pc (ps : List Int) : Prop := ∀ p ∈ ps, 0 ≤ p ∧ p < 1000000000
theorem Pc.snoc {ps : List Int} (h : Pc ps) {p : Int} (h0 : 0 ≤ p ∧ p < 1000000000) : Pc (ps ++ [p]) := fun q hq => by
  rcases List.mem_append.1 hq with hq | hq
  · exact h q hq
  · simp at hq; rw [hq]; exact h0
theorem Pc.at {ps : List Int} (h : Pc ps) (j : Nat) : 0 ≤ ps[j]?.getD 0 ∧ ps[j]?.getD 0 < 1000000000 := by
  by_cases hj : j < ps.length
  · rw [List.getElem?_eq_getElem hj]; exact h _ (List.getElem_mem hj)
  · rw [List.getElem?_eq_none (by omega)]; exact ⟨by decide, by decide⟩
theorem pval_nonneg {ps : List Int} (h : Pc ps) : 0 ≤ pval ps := by
  induction ps with
  | nil => exact Int.le_refl _
  | cons p ps ih =>
    have h1 := h p List.mem_cons_self
    have h2 := ih (fun q hq => h q (List.mem_cons_of_mem _ hq))
    show 0 ≤ p + pval ps * 1000000000
    omega

/-- So many pieces a number of at most 8,192 words has. -/
theorem pieces_few (xs ps : List Int) (v : Int) (K : Nat) (hx : Wd xs) (hl : xs.length ≤ K) (hp : Pc ps) (hv : 1 ≤ v) (h : val xs = pval ps + v * 1000000000 ^ ps.length) : 29 * ps.length < 32 * K := by
  have h1 := val_lt hx
  have h2 : (4294967296 : Int) ^ xs.length ≤ 4294967296 ^ K := pw_le hl
  have h3 := pval_nonneg hp
  have h4 : (0 : Int) < 1000000000 ^ ps.length := Int.pow_pos (by decide)
  have h5 : 1 * (1000000000 : Int) ^ ps.length ≤ v * 1000000000 ^ ps.length := Int.mul_le_mul_of_nonneg_right hv (Int.le_of_lt h4)
  have h6 : (1000000000 : Int) ^ ps.length < 4294967296 ^ K := by omega
  have h7 : (1000000000 : Nat) ^ ps.length < 4294967296 ^ K := by
    refine Int.ofNat_lt.1 ?_
    rw [Int.natCast_pow, Int.natCast_pow]
    exact h6
  have h8 : (2 ^ 29 : Nat) ^ ps.length ≤ 1000000000 ^ ps.length := Nat.pow_le_pow_left (by decide) _
  have h9 : (4294967296 : Nat) ^ K = 2 ^ (32 * K) := by rw [show (4294967296 : Nat) = 2 ^ 32 by decide, ← Nat.pow_mul]
  rw [h9] at h7
  rw [← Nat.pow_mul] at h8
  have h10 : 2 ^ (29 * ps.length) < 2 ^ (32 * K) := Nat.lt_of_le_of_lt h8 h7
  exact (Nat.pow_lt_pow_iff_right (a := 2) (by decide)).1 h10

theorem trimmed_zero {us : List Int} (hw : Wd us) (ht : Trimmed us) : us.length = 0 ↔ val us = 0 := by
  constructor
  · intro h
    rw [List.eq_nil_of_length_eq_zero h]; rfl
  · intro h
    have := trimmed_eq hw Wd.nil ht Trimmed.nil (by rw [h, val_nil])
    rw [this]; rfl

set_option maxHeartbeats 3200000 in
set_option maxRecDepth 100000 in
theorem split_any (v : Value) (xs : List Int) (w : World) (h : Sl w v xs) (hn : xs.length ≤ 8192) (hx : Trimmed xs) (hpos : 0 < xs.length) :
    Calls Tryz.prog 51 #[v] w fun e w' => ∃ (vp : Value) (ps : List Int), e = .returned vp ∧ w'.ownsRow w.heap.size 71 1 vp ps.length (ps.map (Value.int .u32)) ∧ Pc ps ∧ pval ps = val xs ∧ 0 < ps.length ∧ ps.length ≤ 9040 ∧ 0 < ps[ps.length - 1]?.getD 0 ∧ Below w.heap.size w w' := by
  obtain ⟨i0, hi, hz0, hz1, hz2⟩ := info_parts Tryz.infoW
  have wx := h.wd
  have HX := hid hx
  clear hx
  go_enter Tryz.func51, Tryz.ntmps51
  go_wp2_with fail
  refine (trim_sl v xs w h (by omega)).mono ?_
  rintro e w1 ⟨vt, rfl, ot, hb1⟩
  rw [show sz xs = xs.length from HX.out, trimmed_of HX.out] at ot
  obtain ⟨gl, cl, hvl, hcl1, hcl2⟩ := own_shape' ot hpos
  rw [hvl] at ot ⊢
  have hgl := ot.lt gl rfl
  have hcl3 : cl ≤ 9223372036854775807 := by unfold maxLen at hcl2; omega
  clear hcl2 hvl h
  go_wp2_with fail
  go_loopg [3, 4] (val xs).toNat (fun k l p wr => ∃ (n : Nat) (us ps : List Int), l = .slice (some ⟨gl, 0, none⟩) n cl ∧ n ≤ xs.length ∧ OwnC wr w.heap.size gl n cl us ∧ Wd us ∧ Trimmed us ∧ Hid ((k : Int) = val us) ∧
    wr.ownsRow (gl + 1) 71 1 p ps.length (ps.map (Value.int .u32)) ∧ Pc ps ∧ Hid (val xs = pval ps + val us * 1000000000 ^ ps.length) ∧ ps.length ≤ 9040 ∧ Hid (n = 0 → 0 < ps.length ∧ 0 < ps[ps.length - 1]?.getD 0) ∧ Below w.heap.size w wr)
  case atStart => exact ⟨xs.length, xs, [], rfl, Nat.le_refl _, ot, wx, HX.out, show _ = _ by have := val_nonneg wx; omega, World.ownsRow_nil _ _ _ _, fun _ h => by simp at h, show _ = _ by simp [pval], by simp, fun e => by omega, hb1⟩
  case round =>
    obtain ⟨n, us, ps, rfl, hnx, ho, hwu, htu, HKK, hop, hpc, HV, hpl, HL, hb⟩ := hrel
    have hlu := ho.len
    rcases n with _ | n
    · have hu0 : us = [] := List.eq_nil_of_length_eq_zero hlu
      have HV' : Hid (pval ps = val xs) := by show _ = _; rw [HV.out, hu0, val_nil]; simp
      have HL' := hid (HL.out rfl)
      have HO' := hid (owns_base (base' := w.heap.size) hop (by omega))
      clear HV HL hop ho hu0 hlu HKK
      go_wp2_with fail
      go_ret
      exact ⟨_, ps, rfl, HO'.out, hpc, HV'.out, HL'.out.1, hpl, HL'.out.2, hb⟩
    · have hv1 : 1 ≤ val us := by
        have h0 := val_nonneg hwu
        have h1 := (trimmed_zero hwu htu)
        have : ¬ val us = 0 := fun e => by have := h1.2 e; omega
        omega
      have hfew : ps.length ≤ 9039 := by have := pieces_few xs ps (val us) 8192 wx hn hpc hv1 HV.out; omega
      have HW1 := hid hv1
      have HLU := hid hlu
      clear hv1 hlu
      go_wp2_with fail
      refine (divideByWord_any _ _ _ _ us 1000000000 wr ho hwu (by omega) ⟨by omega, by omega⟩).mono ?_
      rintro e w2 ⟨r, qs, rfl, r0, r1, oq, hwq, hvq, hg2⟩
      have hop2 := hop.kept hg2 (by
        cases e : u4.ownBlock with
        | none => exact .inl rfl
        | some g => right; intro e2; have := hop.lt g e; simp at e2; omega)
      have hgs := hg2.size
      have hgl2 : gl < w2.heap.size := (World.ownsRow.lt oq gl rfl).2
      have hbs := hb.size
      have hb2 : Below w.heap.size w w2 := hb.grown hg2 (by omega) (fun k hk => by simp at hk; omega)
      obtain ⟨R, hR⟩ : ∃ R, R = ps.map (Value.int .u32) := ⟨_, rfl⟩
      have HM : Hid ((ps ++ [r]).map (Value.int .u32) = R ++ [.int .u32 r]) := by show _ = _; rw [hR]; simp
      rw [← hR] at hop2
      have HOQ := hid oq
      have HVQ := hid hvq
      clear hR hop ho hg2 hb oq hvq
      go_wp2_with (at_builtin; refine wpList_append_own _ rfl _ _ 22 rfl (gl + 1) 71 i0 (.int .u32 0) 1 4 Tryz.underlying22 hi hz0 hz1 hz2 rfl (by decide) _ _ _ rfl (hop2.alloc _) ⟨w2.heap.size, 0, none⟩ 1 1 [.int .u32 r] rfl rfl (cell_one_new _ _ _) (by simp [Value.oneCell']) (by unfold maxLen; omega) (by omega) (by simp; omega) ?_)
      intro v3 w3 op3 hg3 _
      have hb3 : Below w.heap.size w w3 := (hb2.alloc (by omega) _).grown hg3 (by simp; omega) (fun g hg => by have := hop2.lt g hg; omega)
      have oq3 : OwnC w3 w.heap.size gl (n + 1) cl qs := by
        have := World.ownsRow.kept (World.ownsRow.alloc HOQ.out (.cells #[.int .u32 r] 71)) hg3 (by
          right
          intro e
          have := hop2.lt gl e.symm
          omega)
        exact this
      have sx := sz_le qs
      rw [oq3.len] at sx
      have hr3 : Reads w3 w3.heap.size (some ⟨gl, 0, none⟩) (n + 1) cl qs := by
        obtain ⟨a, cap, hv, hr⟩ := Reads.own oq3 hwq
        simp only [Value.slice.injEq] at hv
        obtain ⟨rfl, _, rfl⟩ := hv
        exact hr
      have HQ3 := hid (oq3.take (sz qs) sx)
      have HP3 := hid op3
      have HR3 := hid hr3
      have hc3 := oq3.cap
      have hc4 : cl ≤ 9223372036854775807 := hcl3
      clear hg3 op3 oq3 hr3 hop2 hc3
      go_wp2_with fail
      refine (size_any _ _ _ qs _ _ HR3.out (by omega)).mono ?_
      rintro e w4 ⟨rfl, rfl⟩
      have e1 : val us = val qs * 1000000000 + r := HVQ.out
      have HKK' : Hid (((val qs).toNat : Int) = val (trimmed qs)) := by show _ = _; rw [val_trimmed]; have := val_nonneg hwq; omega
      have HV' : Hid (val xs = pval (ps ++ [r]) + val (trimmed qs) * 1000000000 ^ (ps ++ [r]).length) := by
        show _ = _
        rw [val_trimmed, pval_snoc, HV.out, e1, List.length_append, List.length_singleton, Int.pow_succ, Int.add_mul, Int.mul_assoc, Int.mul_comm 1000000000 (1000000000 ^ ps.length), ← Int.mul_assoc]
        omega
      have HL' : Hid (sz qs = 0 → 0 < (ps ++ [r]).length ∧ 0 < (ps ++ [r])[(ps ++ [r]).length - 1]?.getD 0) := fun e0 => by
        refine ⟨by simp, ?_⟩
        have e2 : val qs = 0 := by rw [val_sz, e0]; rfl
        have := HW1.out
        simp
        omega
      have hless : (val qs).toNat < gk := by have := HKK.out; have := HW1.out; have := val_nonneg hwq; omega
      have HLS := hid hless
      have HPL : Hid ((ps ++ [r]).length ≤ 9040) := by show _ ≤ _; simp; omega
      have HPP : Hid (w3.ownsRow (gl + 1) 71 1 v3 (ps ++ [r]).length ((ps ++ [r]).map (Value.int .u32))) := by
        show World.ownsRow _ _ _ _ _ _ _
        rw [HM.out, List.length_append, List.length_singleton]
        exact HP3.out
      clear e1 hless HP3
      go_wp2_with fail
      go_roundg (val qs).toNat
      case measure => exact HLS.out
      case rel => exact ⟨sz qs, trimmed qs, ps ++ [r], rfl, by omega, HQ3.out, hwq.trimmed, Trimmed.trimmed _, HKK', HPP.out, hpc.snoc ⟨r0, r1⟩, HV', HPL.out, HL', hb3⟩
end Go.Proofs.YtdgecalkhbbkoaaGreatDoor

/- The document's own fractions: same words; Check. -/
namespace Go.Proofs.YtdgecalkhbbkoaaGreatDoor
open Go.RowKit
set_option linter.unusedVariables false

set_option maxHeartbeats 800000 in
set_option maxRecDepth 100000 in
theorem same3_any (a : Option Addr) (n cap : Nat) (xs : List Int) (b : Option Addr) (m cap' : Nat) (ys : List Int) (w : World) (h : Reads w w.heap.size a n cap xs) (g : Reads w w.heap.size b m cap' ys) (hn : n ≤ 281474976710656) (hm : m ≤ 281474976710656) :
    Calls Tryz.prog 34 #[.slice a n cap, .slice b m cap'] w fun e w' => e = .returned (.bool (decide (xs = ys))) ∧ Below w.heap.size w w' := by
  obtain ⟨hl, hw, hc, hcap⟩ := h
  obtain ⟨gl, gw, gc, gcap⟩ := g
  by_cases hnm : n = m
  · subst hnm
    have htt : ((n : Int) != (n : Int)) = false := by simp
    rcases hc with h0 | ⟨b1, o1, rfl, hb1, hc⟩
    · subst h0
      have hx : xs = [] := List.eq_nil_of_length_eq_zero hl
      have hy : ys = [] := List.eq_nil_of_length_eq_zero gl
      subst hx; subst hy
      go_enter Tryz.func34, Tryz.ntmps34
      go_wp2
      refine wp_loop_rounds 1 ?_
      rw [rounds_succ]
      go_wp2
      go_ret
      exact ⟨rfl, Below.refl _ _⟩
    · rcases gc with g0 | ⟨b2, o2, rfl, hb2, gc⟩
      · subst g0
        have hx : xs = [] := List.eq_nil_of_length_eq_zero hl
        have hy : ys = [] := List.eq_nil_of_length_eq_zero gl
        subst hx; subst hy
        go_enter Tryz.func34, Tryz.ntmps34
        go_wp2
        refine wp_loop_rounds 1 ?_
        rw [rounds_succ]
        go_wp2
        go_ret
        exact ⟨rfl, Below.refl _ _⟩
      · have HL : Hid (xs.length = n ∧ ys.length = n) := ⟨hl, gl⟩
        clear hl gl
        go_enter Tryz.func34, Tryz.ntmps34
        go_wp2
        go_loopw [5] (fun t wr => ∃ k : Nat, k ≤ n ∧ t = .int .i64 k ∧ xs.take k = ys.take k ∧ Below w.heap.size w wr) (fun t _ => n - (intOf t).toNat)
        case atStart => exact ⟨0, Nat.zero_le _, rfl, rfl, Below.refl _ _⟩
        case round =>
          obtain ⟨k, hk, rfl, hs, hbel⟩ := hrel
          have HS : Hid (xs.take k = ys.take k) := hs
          clear hs
          by_cases hlt : k < n
          · have hcx : wr.cell? ⟨b1, o1 + k, none⟩ = some (.int .u32 (xs[k]?.getD 0)) := (hbel.cell (p := ⟨b1, o1 + k, none⟩) hb1).trans (hc k hlt)
            have hcy : wr.cell? ⟨b2, o2 + k, none⟩ = some (.int .u32 (ys[k]?.getD 0)) := (hbel.cell (p := ⟨b2, o2 + k, none⟩) hb2).trans (gc k hlt)
            by_cases he : xs[k]?.getD 0 = ys[k]?.getD 0
            · have hne : (xs[k]?.getD 0 != ys[k]?.getD 0) = false := by simp [he]
              have HE : Hid (xs[k]?.getD 0 = ys[k]?.getD 0) := he
              clear he
              go_wp2
              go_region

              all_goals go_wp2

              all_goals
                go_roundw
                case rel => exact ⟨k + 1, by omega, by go_num, take_same HS.out (by have := HL.out; omega) (by have := HL.out; omega) HE.out, hbel.drew⟩
                case measure => simp [intOf]; omega
            · have hne : (xs[k]?.getD 0 != ys[k]?.getD 0) = true := by simp [he]
              have HE : Hid (¬ xs[k]?.getD 0 = ys[k]?.getD 0) := he
              clear he
              go_wp2
              go_region
              all_goals go_wp2
              all_goals
                go_ret
                exact ⟨ret_bool (decide_eq_false fun e => HE.out (by rw [e])).symm, hbel.drew⟩
          · have hkn : k = n := by omega
            subst hkn
            go_wp2
            go_ret
            exact ⟨ret_bool (decide_eq_true (by have := HS.out; have hl := HL.out; rwa [List.take_of_length_le (by omega), List.take_of_length_le (by omega)] at this)).symm, hbel⟩
  · have hne : ((n : Int) != (m : Int)) = true := by simp; omega
    have hd : decide (xs = ys) = false := decide_eq_false fun e => hnm (by rw [← hl, ← gl, e])
    have HD : Hid (decide (xs = ys) = false) := hd
    clear hd hc gc
    go_enter Tryz.func34, Tryz.ntmps34
    go_wp2
    go_ret
    exact ⟨ret_bool HD.out.symm, Below.refl _ _⟩

theorem same3_sl (v u : Value) (xs ys : List Int) (w : World) (h : Sl w v xs) (g : Sl w u ys) (hn : xs.length ≤ 281474976710656) (hm : ys.length ≤ 281474976710656) :
    Calls Tryz.prog 34 #[v, u] w fun e w' => e = .returned (.bool (decide (xs = ys))) ∧ Below w.heap.size w w' := by
  obtain ⟨a, ca, rfl, hr⟩ := h
  obtain ⟨b, cb, rfl, gr⟩ := g
  exact same3_any a _ ca xs b _ cb ys w hr gr hn hm
theorem rchk_long {n : Bool} {xs ys : List Int} (h : 2048 < xs.length ∨ 2048 < ys.length) : rchk n xs ys = 3 := by unfold rchk; rw [if_pos (by omega)]
theorem rchk_rough {n : Bool} {xs ys : List Int} (l1 : xs.length ≤ 2048) (l2 : ys.length ≤ 2048) (h : ¬ rform n xs ys) : rchk n xs ys = 11 := by unfold rchk; rw [if_neg (by omega), if_neg h]
theorem Tells.len' {e t : Int} {zs : List Int} {c : Int} (h : Tells e t zs c) : zs.length ≤ 8192 := by
  by_cases he : e = 0
  · by_cases hl : wide ≤ t
    · rw [(h.long he hl).2]; simp
    · have e1 := (h.good he (by omega)).2
      exact len_of_lt h.wd h.trim (by rw [e1]; exact Int.not_le.1 hl)
  · rw [(h.bad he).2]; simp
theorem rform_trim {n : Bool} {xs ys : List Int} (h : rform n xs ys) : sz xs = xs.length ∧ sz ys = ys.length := ⟨(chk_ok (both_ok h.1).1).2, (chk_ok (both_ok h.1).2).2⟩

set_option maxHeartbeats 1600000 in
set_option maxRecDepth 100000 in
theorem check3_any (n : Bool) (a : Option Addr) (ca : Nat) (xs : List Int) (b : Option Addr) (cb : Nat) (ys : List Int) (w : World) (sx : Sl w (.slice a xs.length ca) xs) (sy : Sl w (.slice b ys.length cb) ys) (lx : xs.length ≤ 281474976710656) (ly : ys.length ≤ 281474976710656) :
    Calls Tryz.prog 32 #[.agg #[.bool n, .slice a xs.length ca, .slice b ys.length cb]] w fun e w' => e = .returned (.int .i64 (rchk n xs ys)) ∧ Below w.heap.size w w' := by
  have wx := sx.wd
  have wy := sy.wd
  have HB := hid (alloc_later w (.cells #[.bool n, .slice a xs.length ca, .slice b ys.length cb] 24))
  have HN := hid (Box.made w 24 #[.bool n, .slice a xs.length ca, .slice b ys.length cb])
  have HS := hid (And.intro (sx.later HB.out) (sy.later HB.out))
  have HR := hid (Below.refl (w.alloc (.cells #[.bool n, .slice a xs.length ca, .slice b ys.length cb] 24)).heap.size (w.alloc (.cells #[.bool n, .slice a xs.length ca, .slice b ys.length cb] 24)))
  have HT1 := hid (fun ww (hb : Below (w.alloc (.cells #[.bool n, .slice a xs.length ca, .slice b ys.length cb] 24)).heap.size (w.alloc (.cells #[.bool n, .slice a xs.length ca, .slice b ys.length cb] 24)) ww) => trimmed3_any _ xs ww (HS.out.1.later hb) lx)
  have HT2 := hid (fun ww (hb : Below (w.alloc (.cells #[.bool n, .slice a xs.length ca, .slice b ys.length cb] 24)).heap.size (w.alloc (.cells #[.bool n, .slice a xs.length ca, .slice b ys.length cb] 24)) ww) => trimmed3_any _ ys ww (HS.out.2.later hb) ly)
  clear sx sy
  by_cases h1 : 2048 < xs.length
  · rw [rchk_long (.inl h1)]
    have h1' : (2048 : Int) < (xs.length : Int) := by omega
    clear h1
    go_enter Tryz.func32, Tryz.ntmps32
    go_wp2_with fail
    go_ret
    exact ⟨rfl, HB.out⟩
  · have h1' : ¬ (2048 : Int) < (xs.length : Int) := by omega
    by_cases h2 : 2048 < ys.length
    · rw [rchk_long (.inr h2)]
      have h2' : (2048 : Int) < (ys.length : Int) := by omega
      clear h1 h2
      go_enter Tryz.func32, Tryz.ntmps32
      go_wp2_with fail
      go_ret
      exact ⟨rfl, HB.out⟩
    · have h2' : ¬ (2048 : Int) < (ys.length : Int) := by omega
      have HL : Hid (xs.length ≤ 2048 ∧ ys.length ≤ 2048) := ⟨by omega, by omega⟩
      clear h1 h2
      by_cases h3 : sz xs = xs.length
      · rw [decide_eq_true h3] at HT1
        by_cases h4 : sz ys = ys.length
        · rw [decide_eq_true h4] at HT2
          by_cases h5 : ys.length = 0
          · rw [rchk_rough HL.out.1 HL.out.2 (fun h => by have := h.2.1; omega)]
            have h5' : ((ys.length : Int) == 0) = true := by rw [h5]; rfl
            clear h3 h4 h5
            go_enter Tryz.func32, Tryz.ntmps32
            go_wp2_with fail
            refine Calls.mono (HT1.out _ HR.out) ?_
            generalize (w.alloc (.cells #[.bool n, .slice a xs.length ca, .slice b ys.length cb] 24)) = X at *
            rintro e w1 ⟨rfl, hb1⟩
            obtain ⟨p0, p1, p2, _⟩ := res_box3 HN.out hb1
            have HC := hid (HT2.out w1 hb1)
            have HB1 := hid hb1
            clear hb1
            go_wp2_with fail
            refine Calls.mono HC.out ?_
            rintro e w2 ⟨rfl, hb2⟩
            have HB2 := hid (bt HB1.out hb2)
            clear hb2 p0 p1 p2
            obtain ⟨p0, p1, p2, _⟩ := res_box3 HN.out HB2.out
            go_wp2_with fail
            go_ret
            exact ⟨rfl, bt HB.out HB2.out⟩
          · have h5' : ((ys.length : Int) == 0) = false := beq_eq_false_iff_ne.2 (by omega)
            have HBO : Hid (both xs ys = 0) := both_good (chk_good (by have := HL.out; omega) h3) (chk_good (by have := HL.out; omega) h4)
            have HGW := hid (gcd_wide wx wy HBO.out)
            by_cases h6 : xs.length = 0
            · have h6' : ((xs.length : Int) == 0) = true := by rw [h6]; rfl
              cases n with
              | true =>
                rw [rchk_rough HL.out.1 HL.out.2 (fun h => h.2.2.1.elim (fun e => by cases e) (fun e => by omega))]
                clear h3 h4 h5 h6
                go_enter Tryz.func32, Tryz.ntmps32
                go_wp2_with fail
                refine Calls.mono (HT1.out _ HR.out) ?_
                generalize (w.alloc (.cells #[.bool true, .slice a xs.length ca, .slice b ys.length cb] 24)) = X at *
                rintro e w1 ⟨rfl, hb1⟩
                obtain ⟨p0, p1, p2, _⟩ := res_box3 HN.out hb1
                have HC := hid (HT2.out w1 hb1)
                have HB1 := hid hb1
                clear hb1
                go_wp2_with fail
                refine Calls.mono HC.out ?_
                rintro e w2 ⟨rfl, hb2⟩
                have HB2 := hid (bt HB1.out hb2)
                clear hb2 p0 p1 p2
                obtain ⟨p0, p1, p2, _⟩ := res_box3 HN.out HB2.out
                go_wp2_with fail
                go_ret
                exact ⟨rfl, bt HB.out HB2.out⟩
              | false =>
                by_cases hg : gcdI (val xs) (val ys) = 1
                · rw [show rchk false xs ys = 0 from rchk_good HL.out.1 HL.out.2 h3 h4 (by omega) (.inl rfl) hg]
                  have HGG : Hid (decide (gcdI (val xs) (val ys) = 1) = true) := decide_eq_true hg
                  clear h3 h4 h5 h6 hg
                  go_enter Tryz.func32, Tryz.ntmps32
                  go_wp2_with fail
                  refine Calls.mono (HT1.out _ HR.out) ?_
                  generalize (w.alloc (.cells #[.bool false, .slice a xs.length ca, .slice b ys.length cb] 24)) = X at *
                  rintro e w1 ⟨rfl, hb1⟩
                  obtain ⟨p0, p1, p2, _⟩ := res_box3 HN.out hb1
                  have HC := hid (HT2.out w1 hb1)
                  have HB1 := hid hb1
                  clear hb1
                  go_wp2_with fail
                  refine Calls.mono HC.out ?_
                  rintro e w2 ⟨rfl, hb2⟩
                  have HB2 := hid (bt HB1.out hb2)
                  clear hb2 p0 p1 p2
                  obtain ⟨p0, p1, p2, _⟩ := res_box3 HN.out HB2.out
                  have HG := hid (refGcd_sl _ _ xs ys w2 (HS.out.1.later HB2.out) (HS.out.2.later HB2.out) lx ly)
                  rw [HBO.out] at HG
                  go_wp2_with fail
                  refine Calls.mono HG.out ?_
                  rintro e w3 ⟨v3, z3, c3, rfl, o3, t3, hb3⟩
                  obtain ⟨rfl, hv3⟩ := t3.good rfl HGW.out
                  obtain ⟨a3, k3, hs3⟩ := own_slice' o3
                  subst hs3
                  have HZ3 := hid (And.intro (Sl.own o3 t3.wd) (And.intro t3.trim hv3))
                  have l3 : z3.length ≤ 8192 := t3.len'
                  have HB3 := hid (bt HB2.out hb3)
                  have HO := hid (one3_any w3)
                  clear o3 t3 hv3 hb3 HG HC p0 p1 p2
                  go_wp2_with fail
                  refine Calls.mono HO.out ?_
                  rintro e w4 ⟨g4, rfl, o4, hb4⟩
                  have HQ := hid (same3_sl _ _ z3 [1] w4 (HZ3.out.1.later hb4) (Sl.own o4 (Wd.one (by omega))) (by omega) (by simp))
                  have HEQ : Hid (decide (z3 = [1]) = decide (gcdI (val xs) (val ys) = 1)) := by
                    show _ = _
                    congr 1
                    rw [← HZ3.out.2.2]
                    exact propext (one_iff HZ3.out.1.wd HZ3.out.2.1)
                  rw [HEQ.out, HGG.out] at HQ
                  have HB4 := hid (bt HB3.out hb4)
                  clear o4 hb4 HO HEQ
                  go_wp2_with fail
                  refine Calls.mono HQ.out ?_
                  rintro e w5 ⟨rfl, hb5⟩
                  have HBN := hid (bt HB.out (bt HB4.out hb5))
                  clear hb5
                  go_wp2_with fail
                  go_ret
                  exact ⟨rfl, HBN.out⟩
                · rw [rchk_rough HL.out.1 HL.out.2 (fun h => hg h.2.2.2)]
                  have HGG : Hid (decide (gcdI (val xs) (val ys) = 1) = false) := decide_eq_false hg
                  clear h3 h4 h5 h6 hg
                  go_enter Tryz.func32, Tryz.ntmps32
                  go_wp2_with fail
                  refine Calls.mono (HT1.out _ HR.out) ?_
                  generalize (w.alloc (.cells #[.bool false, .slice a xs.length ca, .slice b ys.length cb] 24)) = X at *
                  rintro e w1 ⟨rfl, hb1⟩
                  obtain ⟨p0, p1, p2, _⟩ := res_box3 HN.out hb1
                  have HC := hid (HT2.out w1 hb1)
                  have HB1 := hid hb1
                  clear hb1
                  go_wp2_with fail
                  refine Calls.mono HC.out ?_
                  rintro e w2 ⟨rfl, hb2⟩
                  have HB2 := hid (bt HB1.out hb2)
                  clear hb2 p0 p1 p2
                  obtain ⟨p0, p1, p2, _⟩ := res_box3 HN.out HB2.out
                  have HG := hid (refGcd_sl _ _ xs ys w2 (HS.out.1.later HB2.out) (HS.out.2.later HB2.out) lx ly)
                  rw [HBO.out] at HG
                  go_wp2_with fail
                  refine Calls.mono HG.out ?_
                  rintro e w3 ⟨v3, z3, c3, rfl, o3, t3, hb3⟩
                  obtain ⟨rfl, hv3⟩ := t3.good rfl HGW.out
                  obtain ⟨a3, k3, hs3⟩ := own_slice' o3
                  subst hs3
                  have HZ3 := hid (And.intro (Sl.own o3 t3.wd) (And.intro t3.trim hv3))
                  have l3 : z3.length ≤ 8192 := t3.len'
                  have HB3 := hid (bt HB2.out hb3)
                  have HO := hid (one3_any w3)
                  clear o3 t3 hv3 hb3 HG HC p0 p1 p2
                  go_wp2_with fail
                  refine Calls.mono HO.out ?_
                  rintro e w4 ⟨g4, rfl, o4, hb4⟩
                  have HQ := hid (same3_sl _ _ z3 [1] w4 (HZ3.out.1.later hb4) (Sl.own o4 (Wd.one (by omega))) (by omega) (by simp))
                  have HEQ : Hid (decide (z3 = [1]) = decide (gcdI (val xs) (val ys) = 1)) := by
                    show _ = _
                    congr 1
                    rw [← HZ3.out.2.2]
                    exact propext (one_iff HZ3.out.1.wd HZ3.out.2.1)
                  rw [HEQ.out, HGG.out] at HQ
                  have HB4 := hid (bt HB3.out hb4)
                  clear o4 hb4 HO HEQ
                  go_wp2_with fail
                  refine Calls.mono HQ.out ?_
                  rintro e w5 ⟨rfl, hb5⟩
                  have HBN := hid (bt HB.out (bt HB4.out hb5))
                  clear hb5
                  go_wp2_with fail
                  go_ret
                  exact ⟨rfl, HBN.out⟩
            · have h6' : ((xs.length : Int) == 0) = false := beq_eq_false_iff_ne.2 (by omega)
              by_cases hg : gcdI (val xs) (val ys) = 1
              · rw [show rchk n xs ys = 0 from rchk_good HL.out.1 HL.out.2 h3 h4 (by omega) (.inr (by omega)) hg]
                have HGG : Hid (decide (gcdI (val xs) (val ys) = 1) = true) := decide_eq_true hg
                clear h3 h4 h5 h6 hg
                go_enter Tryz.func32, Tryz.ntmps32
                go_wp2_with fail
                refine Calls.mono (HT1.out _ HR.out) ?_
                generalize (w.alloc (.cells #[.bool n, .slice a xs.length ca, .slice b ys.length cb] 24)) = X at *
                rintro e w1 ⟨rfl, hb1⟩
                obtain ⟨p0, p1, p2, _⟩ := res_box3 HN.out hb1
                have HC := hid (HT2.out w1 hb1)
                have HB1 := hid hb1
                clear hb1
                go_wp2_with fail
                refine Calls.mono HC.out ?_
                rintro e w2 ⟨rfl, hb2⟩
                have HB2 := hid (bt HB1.out hb2)
                clear hb2 p0 p1 p2
                obtain ⟨p0, p1, p2, _⟩ := res_box3 HN.out HB2.out
                have HG := hid (refGcd_sl _ _ xs ys w2 (HS.out.1.later HB2.out) (HS.out.2.later HB2.out) lx ly)
                rw [HBO.out] at HG
                go_wp2_with fail
                refine Calls.mono HG.out ?_
                rintro e w3 ⟨v3, z3, c3, rfl, o3, t3, hb3⟩
                obtain ⟨rfl, hv3⟩ := t3.good rfl HGW.out
                obtain ⟨a3, k3, hs3⟩ := own_slice' o3
                subst hs3
                have HZ3 := hid (And.intro (Sl.own o3 t3.wd) (And.intro t3.trim hv3))
                have l3 : z3.length ≤ 8192 := t3.len'
                have HB3 := hid (bt HB2.out hb3)
                have HO := hid (one3_any w3)
                clear o3 t3 hv3 hb3 HG HC p0 p1 p2
                go_wp2_with fail
                refine Calls.mono HO.out ?_
                rintro e w4 ⟨g4, rfl, o4, hb4⟩
                have HQ := hid (same3_sl _ _ z3 [1] w4 (HZ3.out.1.later hb4) (Sl.own o4 (Wd.one (by omega))) (by omega) (by simp))
                have HEQ : Hid (decide (z3 = [1]) = decide (gcdI (val xs) (val ys) = 1)) := by
                  show _ = _
                  congr 1
                  rw [← HZ3.out.2.2]
                  exact propext (one_iff HZ3.out.1.wd HZ3.out.2.1)
                rw [HEQ.out, HGG.out] at HQ
                have HB4 := hid (bt HB3.out hb4)
                clear o4 hb4 HO HEQ
                go_wp2_with fail
                refine Calls.mono HQ.out ?_
                rintro e w5 ⟨rfl, hb5⟩
                have HBN := hid (bt HB.out (bt HB4.out hb5))
                clear hb5
                go_wp2_with fail
                go_ret
                exact ⟨rfl, HBN.out⟩
              · rw [rchk_rough HL.out.1 HL.out.2 (fun h => hg h.2.2.2)]
                have HGG : Hid (decide (gcdI (val xs) (val ys) = 1) = false) := decide_eq_false hg
                clear h3 h4 h5 h6 hg
                go_enter Tryz.func32, Tryz.ntmps32
                go_wp2_with fail
                refine Calls.mono (HT1.out _ HR.out) ?_
                generalize (w.alloc (.cells #[.bool n, .slice a xs.length ca, .slice b ys.length cb] 24)) = X at *
                rintro e w1 ⟨rfl, hb1⟩
                obtain ⟨p0, p1, p2, _⟩ := res_box3 HN.out hb1
                have HC := hid (HT2.out w1 hb1)
                have HB1 := hid hb1
                clear hb1
                go_wp2_with fail
                refine Calls.mono HC.out ?_
                rintro e w2 ⟨rfl, hb2⟩
                have HB2 := hid (bt HB1.out hb2)
                clear hb2 p0 p1 p2
                obtain ⟨p0, p1, p2, _⟩ := res_box3 HN.out HB2.out
                have HG := hid (refGcd_sl _ _ xs ys w2 (HS.out.1.later HB2.out) (HS.out.2.later HB2.out) lx ly)
                rw [HBO.out] at HG
                go_wp2_with fail
                refine Calls.mono HG.out ?_
                rintro e w3 ⟨v3, z3, c3, rfl, o3, t3, hb3⟩
                obtain ⟨rfl, hv3⟩ := t3.good rfl HGW.out
                obtain ⟨a3, k3, hs3⟩ := own_slice' o3
                subst hs3
                have HZ3 := hid (And.intro (Sl.own o3 t3.wd) (And.intro t3.trim hv3))
                have l3 : z3.length ≤ 8192 := t3.len'
                have HB3 := hid (bt HB2.out hb3)
                have HO := hid (one3_any w3)
                clear o3 t3 hv3 hb3 HG HC p0 p1 p2
                go_wp2_with fail
                refine Calls.mono HO.out ?_
                rintro e w4 ⟨g4, rfl, o4, hb4⟩
                have HQ := hid (same3_sl _ _ z3 [1] w4 (HZ3.out.1.later hb4) (Sl.own o4 (Wd.one (by omega))) (by omega) (by simp))
                have HEQ : Hid (decide (z3 = [1]) = decide (gcdI (val xs) (val ys) = 1)) := by
                  show _ = _
                  congr 1
                  rw [← HZ3.out.2.2]
                  exact propext (one_iff HZ3.out.1.wd HZ3.out.2.1)
                rw [HEQ.out, HGG.out] at HQ
                have HB4 := hid (bt HB3.out hb4)
                clear o4 hb4 HO HEQ
                go_wp2_with fail
                refine Calls.mono HQ.out ?_
                rintro e w5 ⟨rfl, hb5⟩
                have HBN := hid (bt HB.out (bt HB4.out hb5))
                clear hb5
                go_wp2_with fail
                go_ret
                exact ⟨rfl, HBN.out⟩
        · rw [decide_eq_false h4] at HT2
          rw [rchk_rough HL.out.1 HL.out.2 (fun h => h4 (rform_trim h).2)]
          clear h3 h4
          go_enter Tryz.func32, Tryz.ntmps32
          go_wp2_with fail
          refine Calls.mono (HT1.out _ HR.out) ?_
          generalize (w.alloc (.cells #[.bool n, .slice a xs.length ca, .slice b ys.length cb] 24)) = X at *
          rintro e w1 ⟨rfl, hb1⟩
          obtain ⟨p0, p1, p2, _⟩ := res_box3 HN.out hb1
          have HC := hid (HT2.out w1 hb1)
          have HB1 := hid (bt HB.out hb1)
          clear hb1
          go_wp2_with fail
          refine Calls.mono HC.out ?_
          rintro e w2 ⟨rfl, hb2⟩
          have HBN := hid (bt HB1.out hb2)
          clear hb2
          go_wp2_with fail
          go_ret
          exact ⟨rfl, HBN.out⟩
      · rw [decide_eq_false h3] at HT1
        rw [rchk_rough HL.out.1 HL.out.2 (fun h => h3 (rform_trim h).1)]
        clear h3
        go_enter Tryz.func32, Tryz.ntmps32
        go_wp2_with fail
        refine Calls.mono (HT1.out _ HR.out) ?_
        rintro e w1 ⟨rfl, hb1⟩
        have HBN := hid (bt HB.out hb1)
        clear hb1
        go_wp2_with fail
        go_ret
        exact ⟨rfl, HBN.out⟩
end Go.Proofs.YtdgecalkhbbkoaaGreatDoor

/- Floats of 64 bits by their bits: which are finite, what a sum or difference of two gives, the sum of two with what was lost of it, as plain functions of the bits. Nothing here speaks of the program. -/
namespace Go.Proofs.YtdgecalkhbbkoaaGreatDoor

/-- Neither an infinity nor NaN: by the bits. -/
def fin (x : Nat) : Bool := x / 4503599627370496 % 2048 != 2047

theorem fin_iff (x : Nat) : fin x = true ↔ x % 9223372036854775808 < 9218868437227405312 := by
  unfold fin
  simp only [bne_iff_ne, ne_eq]
  omega

theorem dbl_sign : Ieee.double.signWeight = 9223372036854775808 := by decide
theorem dbl_inf : Ieee.double.infRung = 9218868437227405312 := by decide
theorem dbl_binade : Ieee.double.binade = 4503599627370496 := by decide

theorem read_not {x : Nat} (h : fin x = false) : (∃ s, Ieee.double.read x = .infinity s) ∨ ∃ s f, Ieee.double.read x = .nan s f := by
  have h' : ¬ x % 9223372036854775808 < 9218868437227405312 := fun g => by rw [(fin_iff x).2 g] at h; exact Bool.noConfusion h
  unfold Ieee.Format.read
  simp only [dbl_sign, dbl_inf, dbl_binade]
  rw [if_neg (by omega), if_neg h']
  split
  · exact Or.inl ⟨_, rfl⟩
  · exact Or.inr ⟨_, _, rfl⟩

theorem write_inf (s : Bool) : fin (Ieee.double.write (.infinity s)) = false := by
  cases s <;> decide

theorem nan_cut (x y t : Nat) : fin (Question.cut (.nanBits .f64 x y) t) = false ∧ Question.cut (.nanBits .f64 x y) t < 18446744073709551616 := by
  simp only [Question.cut]
  have hu : (t / 2) % (2 ^ 52 - 1) < 4503599627370495 := Nat.mod_lt _ (by decide)
  have hv : t % 2 = 0 ∨ t % 2 = 1 := by omega
  generalize (t / 2) % (2 ^ 52 - 1) = u at hu ⊢
  generalize t % 2 = v at hv ⊢
  constructor
  · cases hh : fin (v * 2 ^ 63 + 0x7ff0000000000000 + 1 + u)
    · rfl
    · rw [fin_iff] at hh; rcases hv with rfl | rfl <;> omega
  · rcases hv with rfl | rfl <;> omega

/-- What the machine hands back: the bits of the answer, or, where there is none, some NaN. -/
def FR (op : BinOp) (x y r : Nat) : Prop := r < 18446744073709551616 ∧ (floatBits op .f64 x y = some r ∨ (floatBits op .f64 x y = none ∧ fin r = false))

theorem FR.det {op : BinOp} {x y r s : Nat} (h : FR op x y r) (g : floatBits op .f64 x y = some s) : r = s := by
  rcases h.2 with h | ⟨h, _⟩
  · rw [h] at g; exact Option.some.inj g
  · rw [h] at g; cases g

theorem FR.some {op : BinOp} {x y r : Nat} (h : floatBits op .f64 x y = .some r) : FR op x y r := by
  have := floatBits_wf h
  simp [Lit.wf] at this
  exact ⟨this, Or.inl h⟩
theorem FR.none {op : BinOp} {x y : Nat} (t : Nat) (h : floatBits op .f64 x y = .none) : FR op x y (Question.cut (.nanBits .f64 x y) t) :=
  ⟨(nan_cut x y t).2, Or.inr ⟨h, (nan_cut x y t).1⟩⟩

theorem sum_back {d c : Ieee.Datum} {r : Nat} (h : (d.sum c).map Ieee.double.write = .some r) (hf : fin r = true) : (∃ s m e, d = .number s m e) ∧ ∃ s m e, c = .number s m e := by
  cases d with
  | nan s f => simp [Ieee.Datum.sum] at h
  | infinity s =>
    cases c with
    | nan t f => simp [Ieee.Datum.sum] at h
    | infinity t =>
      simp only [Ieee.Datum.sum] at h
      split at h
      · cases h; rw [write_inf] at hf; cases hf
      · cases h
    | number t m e => simp only [Ieee.Datum.sum] at h; cases h; rw [write_inf] at hf; cases hf
  | number s m e =>
    cases c with
    | nan t f => simp [Ieee.Datum.sum] at h
    | infinity t => simp only [Ieee.Datum.sum] at h; cases h; rw [write_inf] at hf; cases hf
    | number t n j => exact ⟨⟨_, _, _, rfl⟩, ⟨_, _, _, rfl⟩⟩

theorem fin_of_read {x : Nat} {s : Bool} {m : Nat} {e : Int} (h : Ieee.double.read x = .number s m e) : fin x = true := by
  cases hx : fin x
  · rcases read_not hx with ⟨_, g⟩ | ⟨_, _, g⟩ <;> rw [g] at h <;> cases h
  · rfl

theorem add_back {x y r : Nat} (h : floatBits .add .f64 x y = .some r) (hf : fin r = true) : fin x = true ∧ fin y = true := by
  obtain ⟨⟨_, _, _, h1⟩, ⟨_, _, _, h2⟩⟩ := sum_back h hf
  exact ⟨fin_of_read h1, fin_of_read h2⟩
theorem sub_back {x y r : Nat} (h : floatBits .sub .f64 x y = .some r) (hf : fin r = true) : fin x = true ∧ fin y = true := by
  obtain ⟨⟨_, _, _, h1⟩, ⟨s, m, e, h2⟩⟩ := sum_back h hf
  refine ⟨fin_of_read h1, ?_⟩
  cases hy : fin y
  · rcases read_not hy with ⟨_, g⟩ | ⟨_, _, g⟩ <;> (have g' : FloatKind.f64.format.read y = _ := g; rw [g'] at h2; cases h2)
  · rfl

theorem FR.addBack {x y r : Nat} (h : FR .add x y r) (hf : fin r = true) : floatBits .add .f64 x y = .some r ∧ fin x = true ∧ fin y = true := by
  rcases h.2 with h | ⟨_, g⟩
  · exact ⟨h, add_back h hf⟩
  · rw [g] at hf; cases hf
theorem FR.subBack {x y r : Nat} (h : FR .sub x y r) (hf : fin r = true) : floatBits .sub .f64 x y = .some r ∧ fin x = true ∧ fin y = true := by
  rcases h.2 with h | ⟨_, g⟩
  · exact ⟨h, sub_back h hf⟩
  · rw [g] at hf; cases hf

/-- The sum of two finite floats and what was lost of it; nothing, where one of both is not finite. -/
def chain (a b : Nat) : Option (Nat × Nat) :=
  match floatBits .add .f64 a b with
  | .none => .none
  | .some s => if fin s then
      match floatBits .sub .f64 s a with
      | .none => .none
      | .some t =>
        match floatBits .sub .f64 s t with
        | .none => .none
        | .some d =>
          match floatBits .sub .f64 a d, floatBits .sub .f64 b t with
          | .some p, .some q =>
            match floatBits .add .f64 p q with
            | .none => .none
            | .some e => if fin e then .some (s, e) else .none
          | _, _ => .none
    else .none

/-- The steps as the machine goes them. -/
def Two (a b s e : Nat) : Prop := ∃ t d p q, FR .add a b s ∧ FR .sub s a t ∧ FR .sub s t d ∧ FR .sub a d p ∧ FR .sub b t q ∧ FR .add p q e

theorem Two.good {a b s e : Nat} (h : Two a b s e) (hs : fin s = true) (he : fin e = true) : chain a b = .some (s, e) := by
  obtain ⟨t, d, p, q, h1, h2, h3, h4, h5, h6⟩ := h
  obtain ⟨g6, fp, fq⟩ := h6.addBack he
  obtain ⟨g5, _, ft⟩ := h5.subBack fq
  obtain ⟨g4, _, fd⟩ := h4.subBack fp
  obtain ⟨g3, _, _⟩ := h3.subBack fd
  obtain ⟨g2, _, _⟩ := h2.subBack ft
  obtain ⟨g1, _, _⟩ := h1.addBack hs
  simp only [chain, g1, g2, g3, g4, g5, g6, hs, he, if_true]

theorem chain_back {a b : Nat} {u : Nat × Nat} (h : chain a b = .some u) : fin u.1 = true ∧ fin u.2 = true ∧ ∀ s e, Two a b s e → s = u.1 ∧ e = u.2 := by
  unfold chain at h
  split at h
  · cases h
  rename_i s g1
  split at h
  · rename_i hs
    split at h
    · cases h
    rename_i t g2
    split at h
    · cases h
    rename_i d g3
    split at h
    · rename_i p q g4 g5
      split at h
      · cases h
      rename_i e g6
      split at h
      · rename_i he
        cases h
        refine ⟨hs, he, fun s' e' hh => ?_⟩
        obtain ⟨t', d', p', q', h1, h2, h3, h4, h5, h6⟩ := hh
        have e1 := h1.det g1
        subst e1
        have e2 := h2.det g2
        subst e2
        have e3 := h3.det g3
        subst e3
        have e4 := h4.det g4
        subst e4
        have e5 := h5.det g5
        subst e5
        exact ⟨rfl, h6.det g6⟩
      · cases h
    · cases h
  · cases h

theorem Two.bad {a b s e : Nat} (h : Two a b s e) (hb : fin s = false ∨ fin e = false) : chain a b = .none := by
  cases hc : chain a b with
  | none => rfl
  | some u =>
    obtain ⟨h1, h2, h3⟩ := chain_back hc
    obtain ⟨e1, e2⟩ := h3 _ _ h
    rcases hb with hb | hb
    · rw [e1, h1] at hb; cases hb
    · rw [e2, h2] at hb; cases hb

end Go.Proofs.YtdgecalkhbbkoaaGreatDoor

/- real.finite, real.twoSum, real.TwoSum and the document's Finite, TwoSum, of any floats, by their bits. -/
namespace Go.Proofs.YtdgecalkhbbkoaaGreatDoor
open Go.RowKit
set_option linter.unusedVariables false

theorem Two.lt {a b s e : Nat} (h : Two a b s e) : s < 18446744073709551616 ∧ e < 18446744073709551616 := by
  obtain ⟨t, d, p, q, h1, h2, h3, h4, h5, h6⟩ := h
  exact ⟨h1.1, h6.1⟩

end Go.Proofs.YtdgecalkhbbkoaaGreatDoor

/- The document's TwoSum; slackwaterkit.SameFloat, SameBits of one float twice; lists of floats: CopyFloats, LentFloats, SameFloats, KeptFloats. -/
namespace Go.Proofs.YtdgecalkhbbkoaaGreatDoor
open Go.RowKit
set_option linter.unusedVariables false

theorem b2 {a b c : World} (h : Below a.heap.size a b) (g : Below b.heap.size b c) : Below a.heap.size a c := h.trans (g.mono h.size)

/-- The slice reads as these floats. -/
def RdF (w : World) (B : Nat) (a : Option Addr) (n cap : Nat) (xs : List Nat) : Prop :=
  xs.length = n ∧ (n = 0 ∨ ∃ b o, a = some ⟨b, o, none⟩ ∧ b < B ∧ ∀ j, j < n → w.cell? ⟨b, o + j, none⟩ = some (.float .f64 (xs[j]?.getD 0))) ∧ n ≤ cap ∧ cap ≤ maxLen ∧ (a = none → cap = 0)

theorem RdF.later {w w' : World} {B B' : Nat} {a : Option Addr} {n cap : Nat} {zs : List Nat} (h : RdF w B a n cap zs) (hb : Below B w w') (hB : B ≤ B') : RdF w' B' a n cap zs := by
  obtain ⟨h1, h3, h4⟩ := h
  refine ⟨h1, h3.imp id ?_, h4⟩
  rintro ⟨b, o, rfl, hlt, hc⟩
  exact ⟨b, o, rfl, by omega, fun j hj => (hb.cell (p := ⟨b, o + j, none⟩) hlt).trans (hc j hj)⟩

theorem RdF.front {w : World} {B : Nat} {a : Option Addr} {n cap : Nat} {zs : List Nat} (h : RdF w B a n cap zs) (k : Nat) (hk : k ≤ n) : RdF w B a k cap (zs.take k) := by
  obtain ⟨h1, h3, h4, h5, h6⟩ := h
  refine ⟨by rw [List.length_take]; omega, ?_, by omega, h5, h6⟩
  rcases h3 with h3 | ⟨b, o, ha, hlt, hc⟩
  · left; omega
  · right
    refine ⟨b, o, ha, hlt, fun j hj => ?_⟩
    rw [hc j (by omega), List.getElem?_take, if_pos hj]

theorem RdF.own {w : World} {base e : Nat} {v : Value} {zs : List Nat} {n : Nat} (h : w.ownsRow base e 1 v n (zs.map (Value.float .f64))) :
    ∃ a cap, v = .slice a n cap ∧ RdF w w.heap.size a n cap zs := by
  have hl := h.1
  simp at hl
  rcases h.2 with ⟨rfl, rfl⟩ | ⟨g, cap, cur, rfl, hb, hg, hnc, hcm, hcs, ht⟩
  · exact ⟨none, 0, rfl, by omega, .inl rfl, Nat.le_refl _, Nat.zero_le _, fun _ => rfl⟩
  · refine ⟨_, cap, rfl, by omega, ?_, hnc, hcm, fun h => by simp at h⟩
    right
    refine ⟨g, 0, rfl, ?_, fun j hj => ?_⟩
    · have : w.heap[g]?.isSome := by rw [hg]; rfl
      simpa using this
    · have hc := h.cellAt j (by omega)
      rw [Nat.zero_add, hc, List.getElem?_map, List.getElem?_eq_getElem (by omega)]
      simp

end Go.Proofs.YtdgecalkhbbkoaaGreatDoor

/- real.Sum and the document's Sum, of any list of floats. -/
namespace Go.Proofs.YtdgecalkhbbkoaaGreatDoor
open Go.RowKit
set_option linter.unusedVariables false

/-- A struct's memory. -/
def FBox (w : World) (b t : Nat) (vs : Array Value) : Prop := w.heap[b]? = some (.cells vs t (0, 0))
theorem FBox.cell {w : World} {b t : Nat} {vs : Array Value} (h : FBox w b t vs) (j : Nat) : w.cell? ⟨b, j, none⟩ = vs[j]? := by
  unfold FBox at h
  simp [World.cell?, h]
theorem FBox.free {w : World} {b t : Nat} {vs : Array Value} (h : FBox w b t vs) (j : Nat) : w.frozen? ⟨b, j, none⟩ = false := by
  unfold FBox at h
  simp [World.frozen?, h]
theorem FBox.later {w w' : World} {B b t : Nat} {vs : Array Value} (h : FBox w b t vs) (hb : Below B w w') (hlt : b < B) : FBox w' b t vs := by
  unfold FBox at *
  rw [hb.block b hlt]; exact h
theorem FBox.lt {w : World} {b t : Nat} {vs : Array Value} (h : FBox w b t vs) : b < w.heap.size := by
  unfold FBox at h
  have : w.heap[b]?.isSome := by rw [h]; rfl
  simpa using this
theorem FBox.made (w : World) (t : Nat) (vs : Array Value) : FBox (w.alloc (.cells vs t)) w.heap.size t vs := by
  unfold FBox
  show (w.heap.push _)[w.heap.size]? = _
  rw [Array.getElem?_push, if_pos rfl]
theorem FBox.other {w : World} {b t : Nat} {vs : Array Value} (h : FBox w b t vs) (p : Addr) (v : Value) (hne : b ≠ p.block) : FBox (w.setCell p v) b t vs := by
  unfold FBox at *
  rw [Below.heap_setCell w p v b hne]; exact h
theorem FBox.drewN {w : World} {b t : Nat} {vs : Array Value} (h : FBox w b t vs) (n : Nat) : FBox (w.drewN n) b t vs := h
theorem FBox.set {w : World} {b t : Nat} {vs : Array Value} (h : FBox w b t vs) (j : Nat) (v : Value) : FBox (w.setCell ⟨b, j, none⟩ v) b t (vs.setIfInBounds j v) := by
  unfold FBox at *
  simp only [World.setCell, Array.getElem?_modify, if_pos, h]
  simp

end Go.Proofs.YtdgecalkhbbkoaaGreatDoor

/- Lists that lie apart: the kit's ApartWords, for a list of lists with room behind it. -/
namespace Go.Proofs.YtdgecalkhbbkoaaGreatDoor
open Go.RowKit
set_option linter.unusedVariables false

set_option maxHeartbeats 3200000 in
set_option maxRecDepth 100000 in
theorem apart_cap (base bl m cp : Nat) (V : Nat → Value) (X : Nat → List Int) (w : World) (h : Lists w base bl m V X) (hm : m ≤ 1000) (hbs : base ≤ w.heap.size) (hcp : m ≤ cp) :
    Calls Tryz.prog 46 #[.slice (some ⟨bl, 0, none⟩) m cp] w fun e w' => e = .returned (.bool true) ∧ Below base w w' := by
  obtain ⟨i0, hi, hz0, hz1, hz2⟩ := info_parts Tryz.infoL
  obtain ⟨hwd, hlen, hown, hap, hrow⟩ := h
  have hbl : bl < w.heap.size := by obtain ⟨cl, h1, _⟩ := hrow; exact block_lt h1
  have HO := hid hown
  have HA := hid hap
  have HR := hid hrow
  have HW := hid hwd
  have HN := hid hlen
  clear hown hap hrow hwd hlen
  go_enter Tryz.func46, Tryz.ntmps46
  go_wp2_with (at_make; refine wpList_make_full _ rfl _ _ 69 rfl w.heap.size 22 i0 (.slice none 0 0) 1 Tryz.underlying69 hi hz0 hz1 _ _ _ _ m rfl rfl (by omega) (by omega) (by rw [hz2]; omega) (by unfold maxLen; omega) (Nat.le_refl _) ?_)
  intro w1 hown1 hgrow1
  have H1 : Hid (I1 w m X 0 w1) := ⟨_, by have := hown1.1; omega, row_whole hown1, fun j hj => by omega, (Below.refl _ _).grown hgrow1 (Nat.le_refl _) (fun k hk => by simp at hk)⟩
  clear hown1 hgrow1
  go_wp2_with fail
  go_loopw [4] (fun t wr => ∃ k : Nat, k ≤ m ∧ t = .int .i64 k ∧ Hid (I1 w m X k wr)) (fun t _ => m - (intOf t).toNat)
  case atStart => exact ⟨0, by omega, rfl, H1⟩
  case round =>
    obtain ⟨k, hk, rfl, HI⟩ := hrel
    by_cases hlt : k < m
    · obtain ⟨us, ul, ug, uu, ub⟩ := HI.out
      have hgw := block_lt ug
      have ubs := ub.size
      have hcl : wr.cell? ⟨bl, k, none⟩ = some (V k) := (ub.cell (p := ⟨bl, k, none⟩) hbl).trans (row_cell HR.out k hlt)
      have hsl : Sl wr (V k) (X k) := (Sl.own (HO.out k hlt) (HW.out k hlt)).later ub
      have hX := HN.out k hlt
      have HS := hid hsl
      obtain ⟨a1, c1, hv, hr⟩ := hsl
      rw [hv] at hcl
      clear uu ub hr
      go_wp2_with fail
      rw [← hv]
      refine (copyWords_sl _ (X k) _ HS.out hX).mono ?_
      rintro e w2 ⟨v, rfl, ho2, hb2⟩
      have HI2 := hid (HI.out.step hlt ho2 hb2)
      have hc2 : w2.cell? ⟨w.heap.size, k, none⟩ = some (us.toArray[k]?.getD undef) := by
        rw [cell_of_row w2 w.heap.size k us.toArray 22 (0, 0) ((hb2.block _ hgw).trans ug)]
        simp [ul, hlt]
      have hf2 : w2.frozen? ⟨w.heap.size, k, none⟩ = false := frozen_of_row w2 w.heap.size k us.toArray 22 ((hb2.block _ hgw).trans ug)
      obtain ⟨a3, c3, hv3, _⟩ := Sl.own ho2 (HW.out k hlt)
      rw [hv3] at HI2 ⊢
      clear ho2 hb2 ug
      go_wp2_with fail
      go_roundw
      case rel => exact ⟨k + 1, by omega, by go_num, HI2⟩
      case measure => simp [intOf]; omega
    · have hkm : k = m := by omega
      subst hkm
      obtain ⟨us, ul, ug, uu, ub⟩ := HI.out
      obtain ⟨w2, hw2⟩ : ∃ w2 : World, w2 = wr := ⟨_, rfl⟩
      subst hw2
      obtain ⟨gw, hgw⟩ : ∃ gw, gw = w.heap.size := ⟨_, rfl⟩
      have H2 : Hid (I2 w base bl gw k V (fun j => us[j]?.getD undef) X 0 w2) := by
        subst hgw
        refine ⟨fun j hj => ?_, fun j hj => ?_, fun j hj g e => ((HO.out j hj).lt g e).2, ?_, ⟨us.toArray, ug, fun j hj => ?_⟩, ub.mono hbs⟩
        · rw [if_neg (by omega)]; exact owns_later (HO.out j hj) ub
        · obtain ⟨u, h1, h2⟩ := uu j hj
          simp only [h1]; exact h2
        · obtain ⟨cl, h1, h2⟩ := HR.out
          exact ⟨cl, (ub.block _ (block_lt h1)).trans h1, h2⟩
        · simp [ul, hj]
      obtain ⟨U, hU⟩ : ∃ U : Nat → Value, U = fun j => us[j]?.getD undef := ⟨_, rfl⟩
      rw [← hU] at H2
      have hgwl : gw < w2.heap.size := by rw [hgw]; exact block_lt ug
      have hb2 : base ≤ w2.heap.size := by omega
      rw [← hgw]
      clear hU ug uu ub HI ul hgw HO HR H1
      go_wp2_with fail
      go_loopw [5] (fun t wr => ∃ i : Nat, i ≤ k ∧ t = .int .i64 i ∧ Hid (I2 w base bl gw k V U X i wr) ∧ w2.heap.size ≤ wr.heap.size) (fun t _ => k - (intOf t).toNat)
      case atStart => exact ⟨0, by omega, rfl, H2, Nat.le_refl _⟩
      case round =>
        obtain ⟨i, hi', rfl, HJ, hws⟩ := hrel
        by_cases hlt : i < k
        · have hcl : wr.cell? ⟨bl, i, none⟩ = some (V i) := row_cell HJ.out.rowL i hlt
          have hcw : wr.cell? ⟨gw, i, none⟩ = some (U i) := row_cell HJ.out.rowW i hlt
          have sv : Sl wr (V i) (X i) := by
            have := HJ.out.lists i hlt
            rw [if_neg (by omega)] at this
            exact Sl.own this (HW.out i hlt)
          have su : Sl wr (U i) (X i) := Sl.own (HJ.out.was i hlt) (HW.out i hlt)
          have hX := HN.out i hlt
          obtain ⟨a1, c1, hv1, hr1⟩ := sv
          obtain ⟨a2, c2, hv2, hr2⟩ := su
          rw [hv1] at hcl
          rw [hv2] at hcw
          have hcld : wr.drew.cell? ⟨bl, i, none⟩ = some (.slice a1 (X i).length c1) := hcl
          have hcwd : wr.drew.cell? ⟨gw, i, none⟩ = some (.slice a2 (X i).length c2) := hcw
          have HC := hid (same_any a1 _ c1 (X i) a2 _ c2 (X i) wr.drew hr1 hr2 (by omega) (by omega))
          clear hr1 hr2
          go_wp2_with fail
          go_region_with (go_at_call 69; refine Calls.mono HC.out ?_; rintro e wa ⟨rfl, hba⟩)
          all_goals
            have hbw : Below wr.heap.size wr wa := ((Below.refl _ wr).drew).trans hba
            have HJ2 := hid (HJ.out.later hbw (by omega))
            have hsz2 := hbw.size
            have hcl2 : wa.cell? ⟨bl, i, none⟩ = some (V i) := row_cell HJ2.out.rowL i hlt
            rw [hv1] at hcl2
            have hown : wa.ownsRow base 71 1 (V i) (X i).length ((X i).map (Value.int .u32)) := by
              have := HJ2.out.lists i hlt
              rwa [if_neg (by omega)] at this
            have HOV := hid (over_sl base _ _ (X i) wa (HW.out i hlt) hown)
            have hdd : decide (X i = X i) = true := by simp
            clear hba hbw hown hcl hcw hcld hcwd HC
            go_wp2_with fail
            rw [← hv1]
            refine Calls.mono HOV.out ?_
            rintro e wb ⟨rfl, hob, hgb⟩
            have HJ3 := hid (HJ2.out.step hlt (by omega) HA.out hob hgb)
            have hs3 := hgb.size
            rw [hv1]
            clear hob hgb
            go_wp2_with fail
            go_roundw
            case rel => exact ⟨i + 1, by omega, by go_num, HJ3, by omega⟩
            case measure => simp [intOf]; omega
        · have hik : i = k := by omega
          subst hik
          obtain ⟨w3, hw3⟩ : ∃ w3 : World, w3 = wr := ⟨_, rfl⟩
          subst hw3
          have hws3 := hws
          have facts : ∀ wr, Below w3.heap.size w3 wr → ∀ c, c < i → ∃ a1 c1 a2 c2, wr.cell? ⟨bl, c, none⟩ = some (.slice a1 (X c).length c1) ∧ wr.cell? ⟨gw, c, none⟩ = some (.slice a2 (X c).length c2) ∧
              ((X c).length = 0 ∨ ∃ b1 o1 b2 o2, a1 = some ⟨b1, o1, none⟩ ∧ a2 = some ⟨b2, o2, none⟩ ∧ (∀ j, j < (X c).length → wr.cell? ⟨b1, o1 + j, none⟩ = some (.int .u32 (4294967295 - (X c)[j]?.getD 0))) ∧
                (∀ j, j < (X c).length → wr.cell? ⟨b2, o2 + j, none⟩ = some (.int .u32 ((X c)[j]?.getD 0)))) := by
            intro wr hb c hc
            have HJ' := HJ.out.later hb (by omega)
            have hcl : wr.cell? ⟨bl, c, none⟩ = some (V c) := row_cell HJ'.rowL c hc
            have hcw : wr.cell? ⟨gw, c, none⟩ = some (U c) := row_cell HJ'.rowW c hc
            have hl := HJ'.lists c hc
            rw [if_pos hc] at hl
            obtain ⟨a1, c1, hv1, r1⟩ := Reads.own hl (HW.out c hc).compl
            obtain ⟨a2, c2, hv2, r2⟩ := Reads.own (HJ'.was c hc) (HW.out c hc)
            refine ⟨a1, c1, a2, c2, by rw [hcl, hv1], by rw [hcw, hv2], ?_⟩
            by_cases h0 : (X c).length = 0
            · exact .inl h0
            · right
              rcases r1.2.2.1 with e | ⟨b1, o1, e1, _, g1⟩
              · omega
              · rcases r2.2.2.1 with e | ⟨b2, o2, e2, _, g2⟩
                · omega
                · exact ⟨b1, o1, b2, o2, e1, e2, fun j hj => by rw [g1 j hj, compl_get _ j hj], g2⟩
          have HB := hid HJ.out.below
          have HF := hid facts
          clear facts HJ H2 hi'
          go_wp2_with fail
          go_loopw [6] (fun t wr => ∃ c : Nat, c ≤ i ∧ t = .int .i64 c ∧ Below w3.heap.size w3 wr) (fun t _ => i - (intOf t).toNat)
          case atStart => exact ⟨0, by omega, rfl, Below.refl _ _⟩
          case round =>
            obtain ⟨c, hc, rfl, hb3⟩ := hrel
            by_cases hlt : c < i
            · obtain ⟨w4, hw4⟩ : ∃ w4 : World, w4 = wr := ⟨_, rfl⟩
              subst hw4
              have hX := HN.out c hlt
              have hwc := HW.out c hlt
              obtain ⟨n, hn⟩ : ∃ n, n = (X c).length := ⟨_, rfl⟩
              rw [← hn] at hX
              have HNN := hid hn
              clear hn
              go_wp2_with fail
              go_loopw [7] (fun t wr => ∃ k : Nat, k ≤ n ∧ t = .int .i64 k ∧ Below w3.heap.size w3 wr) (fun t _ => n - (intOf t).toNat)
              case atStart => exact ⟨0, by omega, rfl, hb3⟩
              case round =>
                obtain ⟨k, hk, rfl, hb4⟩ := hrel
                obtain ⟨a1, c1, a2, c2, f1, f2, f3⟩ := HF.out wr hb4 c hlt
                rw [← HNN.out] at f1 f2 f3
                by_cases hkn : k < n
                · rcases f3 with f3 | ⟨b1, o1, b2, o2, e1, e2, g1, g2⟩
                  · omega
                  · have x1 := g1 k hkn
                    have x2 := g2 k hkn
                    rw [e1] at f1
                    rw [e2] at f2
                    have hbd := hwc.at k
                    obtain ⟨z, hz⟩ : ∃ z, z = (X c)[k]?.getD 0 := ⟨_, rfl⟩
                    rw [← hz] at x1 x2 hbd
                    have hnot := not_u32 z hbd.1 hbd.2
                    have f1d : wr.drew.cell? ⟨bl, c, none⟩ = some (.slice (some ⟨b1, o1, none⟩) n c1) := f1
                    have f2d : wr.drew.cell? ⟨gw, c, none⟩ = some (.slice (some ⟨b2, o2, none⟩) n c2) := f2
                    have x1d : wr.drew.cell? ⟨b1, o1 + k, none⟩ = some (.int .u32 (4294967295 - z)) := x1
                    have x2d : wr.drew.cell? ⟨b2, o2 + k, none⟩ = some (.int .u32 z) := x2
                    have hne : (4294967295 - z != 4294967295 - z) = false := by simp
                    clear hz e1 e2 g1 g2
                    go_wp2
                    go_region
                    all_goals go_wp2
                    all_goals
                      go_roundw
                      case rel => exact ⟨k + 1, by omega, by go_num, hb4.drew⟩
                      case measure => simp [intOf]; omega
                · clear f3
                  go_wp2
                  go_roundw
                  case rel => exact ⟨c + 1, by omega, by go_num, hb4⟩
                  case measure => simp [intOf]; omega
            · go_wp2
              go_ret
              exact ⟨rfl, HB.out.trans (hb3.mono (by omega))⟩
end Go.Proofs.YtdgecalkhbbkoaaGreatDoor

/- What the laws of layer 1 share: two answers beside the document's; lists that lie apart. -/
namespace Go.Proofs.YtdgecalkhbbkoaaGreatDoor
open Go.RowKit
set_option linter.unusedVariables false

theorem own_slice {w : World} {base e n : Nat} {v : Value} {xs : List Value} (h : w.ownsRow base e 1 v n xs) : ∃ a cap, v = .slice a n cap := by
  rcases h.2 with ⟨h1, h0⟩ | ⟨g, cap, cur, hv, _⟩
  · subst h0; exact ⟨_, _, h1⟩
  · exact ⟨_, _, hv⟩
theorem own_shape {w : World} {base e n : Nat} {v : Value} {xs : List Value} (h : w.ownsRow base e 1 v n xs) (hn : 0 < n) : ∃ g cap, v = .slice (some ⟨g, 0, none⟩) n cap ∧ n ≤ cap ∧ cap ≤ maxLen := by
  rcases h.2 with ⟨_, h0⟩ | ⟨g, cap, cur, hv, _, _, h1, h2, _⟩
  · omega
  · exact ⟨g, cap, hv, h1, h2⟩

theorem Within.up {v : Value} {lo hi hi' : Nat} (h : Within v lo hi) (hh : hi ≤ hi') : Within v lo hi' := fun g hg => by have := h g hg; omega
theorem Tells.len {e t : Int} {zs : List Int} {c : Int} (h : Tells e t zs c) : zs.length ≤ 8192 := by
  by_cases he : e = 0
  · by_cases hl : wide ≤ t
    · rw [(h.long he hl).2]; simp
    · have e1 := (h.good he (by omega)).2
      exact len_of_lt h.wd h.trim (by rw [e1]; exact Int.not_le.1 hl)
  · rw [(h.bad he).2]; simp
end Go.Proofs.YtdgecalkhbbkoaaGreatDoor

/- The kit's ApartRatios of three fractions. -/
namespace Go.Proofs.YtdgecalkhbbkoaaGreatDoor
open Go.RowKit
set_option linter.unusedVariables false

/-- append to a row of the call's own, as one step of a region. -/
theorem step_append_own {P : Program} {ops : Array Oper} {o : Oper} {a : Act} {w : World} {K : Act → World → Prop} {Q : Exit → Act → World → Prop} {E : Prop}
    (hg : o.guard = none) (s x : Operand) (t : TypeId) (hop : o.op = Op.call { callee := Callee.builtin Builtin.append, args := #[s, x], argTypes := #[t, t] })
    (base : Nat) (e : TypeId) (i : TypeInfo) (z : Value) (size bytes : Nat) (h1 : P.underlying t = some (.slice e)) (h2 : P.info? e = some i) (h3 : i.zero = some z) (h4 : i.size = size) (h5 : i.bytes = bytes) (h6 : z.cells.size = size) (h7 : 0 < size)
    (v : Value) (n : Nat) (xs : List Value) (hs : a.eval s = v) (hown : w.ownsRow base e size v n xs)
    (ad : Addr) (m c : Nat) (news : List Value) (hx : a.eval x = .slice (some ad) m c) (hn : news.length = m * size) (hc : ∀ j u, news[j]? = some u → w.cell? (ad.add j) = some u) (h1c : ∀ u ∈ news, u.oneCell' = true)
    (b1 : n + m ≤ maxLen) (b2 : (n + m) * bytes ≤ 140737488355328) (hbase : base ≤ w.heap.size)
    (hK : ∀ v' w', w'.ownsRow base e size v' (n + m) (xs ++ news) → w.grownBy w' v.ownBlock → K (a.put o.dst v') w') :
    if Region.wanted o (yielded ops a.tmps) = true then Oper.wp P o a w K Q else E := by
  have hw : Region.wanted o (yielded ops a.tmps) = true := by simp [Region.wanted, hg]
  rw [if_pos hw]
  obtain ⟨v', w', hrun, r1, r2, _⟩ := run_append_own (P := P) w base t o.type e i z size bytes h1 h2 h3 h4 h5 h6 h7 v n xs hown ad m c news hn hc h1c b1 b2 hbase
  unfold Oper.wp
  simp [execOp, hop, resolve, invoke, builtin, hs, hx, hrun, Result.andThen]
  exact hK v' w' r1 r2
theorem two_cells (w : World) (u0 u1 : Value) (t : Nat) : ∀ j u, [u0, u1][j]? = some u → ((w.alloc (.cells #[u0, u1] t)).drew).cell? ((⟨w.heap.size, 0, none⟩ : Addr).add j) = some u := by
  intro j u h
  have hb := Box.made w t #[u0, u1]
  match j, h with
  | 0, h => obtain rfl : u0 = u := by simpa using h
            exact hb.cell 0
  | 1, h => obtain rfl : u1 = u := by simpa using h
            exact hb.cell 1
  | n + 2, h => simp at h

theorem own_row {w : World} {base e n g cap : Nat} {xs : List Value} (h : w.ownsRow base e 1 (.slice (some ⟨g, 0, none⟩) n cap) n xs) : ∃ cl : Array Value, w.heap[g]? = some (.cells cl e (0, 0)) ∧ ∀ j, j < n → cl[j]? = xs[j]? := by
  rcases h.2 with ⟨h1, _⟩ | ⟨g', cap', cur, hv, _, hg, _, _, _, ht⟩
  · cases h1
  · cases hv
    refine ⟨cur, hg, fun j hj => ?_⟩
    rw [← ht, List.getElem?_take, if_pos (by omega), Array.getElem?_toList]

end Go.Proofs.YtdgecalkhbbkoaaGreatDoor

/- The kit's PartsOf of three complex fractions, ApartRatios of six fractions, ApartGausses of three complex fractions. (tools/mkkg.py) -/
namespace Go.Proofs.YtdgecalkhbbkoaaGreatDoor
open Go.RowKit
set_option linter.unusedVariables false

theorem Tryz.infoKg : (Tryz.prog.info? 24).map (fun i => (i.zero, i.size, i.bytes)) = some (some (.agg #[.bool false, .slice none 0 0, .slice none 0 0]), 3, 56) := by kernel_rfl
theorem kg_slice3 {w : World} {base e n s : Nat} {v : Value} {xs : List Value} (h : w.ownsRow base e s v n xs) : ∃ a cap, v = .slice a n cap := by
  rcases h.2 with ⟨h1, h0⟩ | ⟨g, cap, cur, hv, _⟩
  · subst h0; exact ⟨_, _, h1⟩
  · exact ⟨_, _, hv⟩
theorem kg_later3 {w w' : World} {base e n s : Nat} {v : Value} {xs : List Value} (h : w.ownsRow base e s v n xs) (hb : Below w.heap.size w w') : w'.ownsRow base e s v n xs := by
  refine ⟨h.1, h.2.imp id ?_⟩
  rintro ⟨g, cap, cur, rfl, hbg, hg, h1, h2, h3, h4⟩
  refine ⟨g, cap, cur, rfl, hbg, ?_, h1, h2, h3, h4⟩
  rw [hb.block g (by
    have : w.heap[g]?.isSome := by rw [hg]; rfl
    simpa using this)]
  exact hg
theorem kg_six_cells (w : World) (u0 u1 u2 u3 u4 u5 : Value) (t : Nat) : ∀ j u, [u0, u1, u2, u3, u4, u5][j]? = some u → ((w.alloc (.cells #[u0, u1, u2, u3, u4, u5] t)).drew).cell? ((⟨w.heap.size, 0, none⟩ : Addr).add j) = some u := by
  intro j u h
  have hb := Box.made w t #[u0, u1, u2, u3, u4, u5]
  match j, h with
  | 0, h => obtain rfl : u0 = u := by simpa using h
            exact hb.cell 0
  | 1, h => obtain rfl : u1 = u := by simpa using h
            exact hb.cell 1
  | 2, h => obtain rfl : u2 = u := by simpa using h
            exact hb.cell 2
  | 3, h => obtain rfl : u3 = u := by simpa using h
            exact hb.cell 3
  | 4, h => obtain rfl : u4 = u := by simpa using h
            exact hb.cell 4
  | 5, h => obtain rfl : u5 = u := by simpa using h
            exact hb.cell 5
  | n + 6, h => simp at h
theorem kg_row3 {w : World} {base e n g cap : Nat} {xs : List Value} (h : w.ownsRow base e 3 (.slice (some ⟨g, 0, none⟩) n cap) n xs) : ∃ cl : Array Value, w.heap[g]? = some (.cells cl e (0, 0)) ∧ ∀ j, j < n * 3 → cl[j]? = xs[j]? := by
  rcases h.2 with ⟨h1, _⟩ | ⟨g', cap', cur, hv, _, hg, _, _, _, ht⟩
  · cases h1
  · cases hv
    refine ⟨cur, hg, fun j hj => ?_⟩
    rw [← ht, List.getElem?_take, if_pos (by omega), Array.getElem?_toList]

set_option maxHeartbeats 3200000 in
set_option maxRecDepth 100000 in
theorem kpartsOf3 (b0 b1 b2 b3 b4 b5 : Bool) (a0 a1 a2 a3 a4 a5 a6 a7 a8 a9 a10 a11 : Option Addr) (k0 k1 k2 k3 k4 k5 k6 k7 k8 k9 k10 k11 c0 c1 c2 c3 c4 c5 c6 c7 c8 c9 c10 c11 : Nat) (g : Nat) (w : World) (hk : ∀ V, Below w.heap.size w V → (V.cell? ⟨g, 0, none⟩ = some (.bool b0) ∧ V.cell? ⟨g, 1, none⟩ = some (.slice a0 k0 c0) ∧ V.cell? ⟨g, 2, none⟩ = some (.slice a1 k1 c1) ∧ V.cell? ⟨g, 3, none⟩ = some (.bool b1) ∧ V.cell? ⟨g, 4, none⟩ = some (.slice a2 k2 c2) ∧ V.cell? ⟨g, 5, none⟩ = some (.slice a3 k3 c3)) ∧ (V.cell? ⟨g, 6, none⟩ = some (.bool b2) ∧ V.cell? ⟨g, 7, none⟩ = some (.slice a4 k4 c4) ∧ V.cell? ⟨g, 8, none⟩ = some (.slice a5 k5 c5) ∧ V.cell? ⟨g, 9, none⟩ = some (.bool b3) ∧ V.cell? ⟨g, 10, none⟩ = some (.slice a6 k6 c6) ∧ V.cell? ⟨g, 11, none⟩ = some (.slice a7 k7 c7)) ∧ (V.cell? ⟨g, 12, none⟩ = some (.bool b4) ∧ V.cell? ⟨g, 13, none⟩ = some (.slice a8 k8 c8) ∧ V.cell? ⟨g, 14, none⟩ = some (.slice a9 k9 c9) ∧ V.cell? ⟨g, 15, none⟩ = some (.bool b5) ∧ V.cell? ⟨g, 16, none⟩ = some (.slice a10 k10 c10) ∧ V.cell? ⟨g, 17, none⟩ = some (.slice a11 k11 c11))) :
    Calls Tryz.prog 25 #[.slice (some ⟨g, 0, none⟩) 3 3] w fun e w' => ∃ v, e = .returned v ∧ w'.ownsRow w.heap.size 24 3 v 6 [.bool b0, .slice a0 k0 c0, .slice a1 k1 c1, .bool b1, .slice a2 k2 c2, .slice a3 k3 c3, .bool b2, .slice a4 k4 c4, .slice a5 k5 c5, .bool b3, .slice a6 k6 c6, .slice a7 k7 c7, .bool b4, .slice a8 k8 c8, .slice a9 k9 c9, .bool b5, .slice a10 k10 c10, .slice a11 k11 c11] ∧ Below w.heap.size w w' := by
  obtain ⟨i0, hi, hz0, hz1, hz2⟩ := info_parts Tryz.infoKg
  have HK := hid hk
  clear hk
  go_enter Tryz.func25, Tryz.ntmps25
  go_wp2_with fail
  refine wp_loop_rounds 4 ?_
  have HO : Hid (w.ownsRow w.heap.size 24 3 (.slice none 0 0) 0 []) := World.ownsRow_nil _ _ _ _
  have hb : Below w.heap.size w w := Below.refl _ _
  rw [rounds_succ]
  have hs0 := (HK.out w hb).1
  obtain ⟨e0, e1, e2, e3, e4, e5⟩ := hs0
  have hs0 := (HK.out _ hb.drew).1
  have HOA : Hid ((w.alloc (.cells #[.bool b0, .slice a0 k0 c0, .slice a1 k1 c1, .bool b1, .slice a2 k2 c2, .slice a3 k3 c3] 24)).drew.ownsRow w.heap.size 24 3 (.slice none 0 0) 0 []) := kg_later3 HO.out (bt (alloc_later w (.cells #[.bool b0, .slice a0 k0 c0, .slice a1 k1 c1, .bool b1, .slice a2 k2 c2, .slice a3 k3 c3] 24)) (Below.drew (Below.refl _ _)))
  have hbA : Below w.heap.size w (w.alloc (.cells #[.bool b0, .slice a0 k0 c0, .slice a1 k1 c1, .bool b1, .slice a2 k2 c2, .slice a3 k3 c3] 24)).drew := (bt hb (alloc_later w (.cells #[.bool b0, .slice a0 k0 c0, .slice a1 k1 c1, .bool b1, .slice a2 k2 c2, .slice a3 k3 c3] 24))).drew
  have hsA := (HK.out _ hbA).1
  have hsz := hb.size
  go_wp2_with fail
  go_region_held3 (fun V : World => V.cell? ⟨g, 0, none⟩ = some (.bool b0) ∧ V.cell? ⟨g, 1, none⟩ = some (.slice a0 k0 c0) ∧ V.cell? ⟨g, 2, none⟩ = some (.slice a1 k1 c1) ∧ V.cell? ⟨g, 3, none⟩ = some (.bool b1) ∧ V.cell? ⟨g, 4, none⟩ = some (.slice a2 k2 c2) ∧ V.cell? ⟨g, 5, none⟩ = some (.slice a3 k3 c3)) (first | exact hs0 | exact hsA | exact hs1 | go_keep)
    (first | (refine step_append_own rfl (.tmp 11) (.tmp 22) 50 rfl w.heap.size 24 i0 (.agg #[.bool false, .slice none 0 0, .slice none 0 0]) 3 56 Tryz.underlying50 hi hz0 hz1 hz2 rfl (by decide) (.slice none 0 0) 0 [] rfl HOA.out ⟨w.heap.size, 0, none⟩ 2 2 [.bool b0, .slice a0 k0 c0, .slice a1 k1 c1, .bool b1, .slice a2 k2 c2, .slice a3 k3 c3] rfl rfl (kg_six_cells w _ _ _ _ _ _ _) (by simp [Value.oneCell']) (by unfold maxLen; omega) (by omega) hbA.size ?_; intro v1 w1 o1 gr1; have hs1 := (HK.out _ (hbA.grown gr1 hbA.size (fun k hk => (HOA.out.lt k hk).1))).1))
  have hb1 : Below w.heap.size w w1 := hbA.grown gr1 hbA.size (fun k hk => (HOA.out.lt k hk).1)
  obtain ⟨q1, d1, hv1⟩ := kg_slice3 o1
  subst hv1
  replace HO := hid o1
  replace hb := hb1
  clear o1 gr1 hb1 HOA hbA hsA hs0 hs1 e0 e1 e2 e3 e4 e5 hsz
  go_wp2_with fail
  rw [rounds_succ]
  have hs0 := (HK.out w1 hb).2.1
  obtain ⟨e0, e1, e2, e3, e4, e5⟩ := hs0
  have hs0 := (HK.out _ hb.drew).2.1
  have HOA : Hid ((w1.alloc (.cells #[.bool b2, .slice a4 k4 c4, .slice a5 k5 c5, .bool b3, .slice a6 k6 c6, .slice a7 k7 c7] 24)).drew.ownsRow w.heap.size 24 3 (.slice q1 2 d1) 2 ([] ++ [.bool b0, .slice a0 k0 c0, .slice a1 k1 c1, .bool b1, .slice a2 k2 c2, .slice a3 k3 c3])) := kg_later3 HO.out (bt (alloc_later w1 (.cells #[.bool b2, .slice a4 k4 c4, .slice a5 k5 c5, .bool b3, .slice a6 k6 c6, .slice a7 k7 c7] 24)) (Below.drew (Below.refl _ _)))
  have hbA : Below w.heap.size w (w1.alloc (.cells #[.bool b2, .slice a4 k4 c4, .slice a5 k5 c5, .bool b3, .slice a6 k6 c6, .slice a7 k7 c7] 24)).drew := (bt hb (alloc_later w1 (.cells #[.bool b2, .slice a4 k4 c4, .slice a5 k5 c5, .bool b3, .slice a6 k6 c6, .slice a7 k7 c7] 24))).drew
  have hsA := (HK.out _ hbA).2.1
  have hsz := hb.size
  go_wp2_with fail
  go_region_held3 (fun V : World => V.cell? ⟨g, 6, none⟩ = some (.bool b2) ∧ V.cell? ⟨g, 7, none⟩ = some (.slice a4 k4 c4) ∧ V.cell? ⟨g, 8, none⟩ = some (.slice a5 k5 c5) ∧ V.cell? ⟨g, 9, none⟩ = some (.bool b3) ∧ V.cell? ⟨g, 10, none⟩ = some (.slice a6 k6 c6) ∧ V.cell? ⟨g, 11, none⟩ = some (.slice a7 k7 c7)) (first | exact hs0 | exact hsA | exact hs2 | go_keep)
    (first | (refine step_append_own rfl (.tmp 11) (.tmp 22) 50 rfl w.heap.size 24 i0 (.agg #[.bool false, .slice none 0 0, .slice none 0 0]) 3 56 Tryz.underlying50 hi hz0 hz1 hz2 rfl (by decide) (.slice q1 2 d1) 2 ([] ++ [.bool b0, .slice a0 k0 c0, .slice a1 k1 c1, .bool b1, .slice a2 k2 c2, .slice a3 k3 c3]) rfl HOA.out ⟨w1.heap.size, 0, none⟩ 2 2 [.bool b2, .slice a4 k4 c4, .slice a5 k5 c5, .bool b3, .slice a6 k6 c6, .slice a7 k7 c7] rfl rfl (kg_six_cells w1 _ _ _ _ _ _ _) (by simp [Value.oneCell']) (by unfold maxLen; omega) (by omega) hbA.size ?_; intro v2 w2 o2 gr2; have hs2 := (HK.out _ (hbA.grown gr2 hbA.size (fun k hk => (HOA.out.lt k hk).1))).2.1))
  have hb2 : Below w.heap.size w w2 := hbA.grown gr2 hbA.size (fun k hk => (HOA.out.lt k hk).1)
  obtain ⟨q2, d2, hv2⟩ := kg_slice3 o2
  subst hv2
  replace HO := hid o2
  replace hb := hb2
  clear o2 gr2 hb2 HOA hbA hsA hs0 hs2 e0 e1 e2 e3 e4 e5 hsz
  go_wp2_with fail
  rw [rounds_succ]
  have hs0 := (HK.out w2 hb).2.2
  obtain ⟨e0, e1, e2, e3, e4, e5⟩ := hs0
  have hs0 := (HK.out _ hb.drew).2.2
  have HOA : Hid ((w2.alloc (.cells #[.bool b4, .slice a8 k8 c8, .slice a9 k9 c9, .bool b5, .slice a10 k10 c10, .slice a11 k11 c11] 24)).drew.ownsRow w.heap.size 24 3 (.slice q2 4 d2) 4 (([] ++ [.bool b0, .slice a0 k0 c0, .slice a1 k1 c1, .bool b1, .slice a2 k2 c2, .slice a3 k3 c3]) ++ [.bool b2, .slice a4 k4 c4, .slice a5 k5 c5, .bool b3, .slice a6 k6 c6, .slice a7 k7 c7])) := kg_later3 HO.out (bt (alloc_later w2 (.cells #[.bool b4, .slice a8 k8 c8, .slice a9 k9 c9, .bool b5, .slice a10 k10 c10, .slice a11 k11 c11] 24)) (Below.drew (Below.refl _ _)))
  have hbA : Below w.heap.size w (w2.alloc (.cells #[.bool b4, .slice a8 k8 c8, .slice a9 k9 c9, .bool b5, .slice a10 k10 c10, .slice a11 k11 c11] 24)).drew := (bt hb (alloc_later w2 (.cells #[.bool b4, .slice a8 k8 c8, .slice a9 k9 c9, .bool b5, .slice a10 k10 c10, .slice a11 k11 c11] 24))).drew
  have hsA := (HK.out _ hbA).2.2
  have hsz := hb.size
  go_wp2_with fail
  go_region_held3 (fun V : World => V.cell? ⟨g, 12, none⟩ = some (.bool b4) ∧ V.cell? ⟨g, 13, none⟩ = some (.slice a8 k8 c8) ∧ V.cell? ⟨g, 14, none⟩ = some (.slice a9 k9 c9) ∧ V.cell? ⟨g, 15, none⟩ = some (.bool b5) ∧ V.cell? ⟨g, 16, none⟩ = some (.slice a10 k10 c10) ∧ V.cell? ⟨g, 17, none⟩ = some (.slice a11 k11 c11)) (first | exact hs0 | exact hsA | exact hs3 | go_keep)
    (first | (refine step_append_own rfl (.tmp 11) (.tmp 22) 50 rfl w.heap.size 24 i0 (.agg #[.bool false, .slice none 0 0, .slice none 0 0]) 3 56 Tryz.underlying50 hi hz0 hz1 hz2 rfl (by decide) (.slice q2 4 d2) 4 (([] ++ [.bool b0, .slice a0 k0 c0, .slice a1 k1 c1, .bool b1, .slice a2 k2 c2, .slice a3 k3 c3]) ++ [.bool b2, .slice a4 k4 c4, .slice a5 k5 c5, .bool b3, .slice a6 k6 c6, .slice a7 k7 c7]) rfl HOA.out ⟨w2.heap.size, 0, none⟩ 2 2 [.bool b4, .slice a8 k8 c8, .slice a9 k9 c9, .bool b5, .slice a10 k10 c10, .slice a11 k11 c11] rfl rfl (kg_six_cells w2 _ _ _ _ _ _ _) (by simp [Value.oneCell']) (by unfold maxLen; omega) (by omega) hbA.size ?_; intro v3 w3 o3 gr3; have hs3 := (HK.out _ (hbA.grown gr3 hbA.size (fun k hk => (HOA.out.lt k hk).1))).2.2))
  have hb3 : Below w.heap.size w w3 := hbA.grown gr3 hbA.size (fun k hk => (HOA.out.lt k hk).1)
  obtain ⟨q3, d3, hv3⟩ := kg_slice3 o3
  subst hv3
  replace HO := hid o3
  replace hb := hb3
  clear o3 gr3 hb3 HOA hbA hsA hs0 hs3 e0 e1 e2 e3 e4 e5 hsz
  go_wp2_with fail
  rw [rounds_succ]
  have HBB := hid hb
  clear hb HK
  go_wp2_with fail
  go_ret
  exact ⟨_, rfl, HO.out, HBB.out⟩

set_option maxHeartbeats 3200000 in
set_option maxRecDepth 100000 in
theorem kapartRatios6 (base : Nat) (b0 b1 b2 b3 b4 b5 : Bool) (a0 a1 a2 a3 a4 a5 a6 a7 a8 a9 a10 a11 : Option Addr) (k0 k1 k2 k3 k4 k5 k6 k7 k8 k9 k10 k11 c0 c1 c2 c3 c4 c5 c6 c7 c8 c9 c10 c11 : Nat) (g cp : Nat) (X : Nat → List Int) (w : World) (hk : ∀ V, Below w.heap.size w V → (V.cell? ⟨g, 0, none⟩ = some (.bool b0) ∧ V.cell? ⟨g, 1, none⟩ = some (.slice a0 k0 c0) ∧ V.cell? ⟨g, 2, none⟩ = some (.slice a1 k1 c1) ∧ V.cell? ⟨g, 3, none⟩ = some (.bool b1) ∧ V.cell? ⟨g, 4, none⟩ = some (.slice a2 k2 c2) ∧ V.cell? ⟨g, 5, none⟩ = some (.slice a3 k3 c3)) ∧ (V.cell? ⟨g, 6, none⟩ = some (.bool b2) ∧ V.cell? ⟨g, 7, none⟩ = some (.slice a4 k4 c4) ∧ V.cell? ⟨g, 8, none⟩ = some (.slice a5 k5 c5) ∧ V.cell? ⟨g, 9, none⟩ = some (.bool b3) ∧ V.cell? ⟨g, 10, none⟩ = some (.slice a6 k6 c6) ∧ V.cell? ⟨g, 11, none⟩ = some (.slice a7 k7 c7)) ∧ (V.cell? ⟨g, 12, none⟩ = some (.bool b4) ∧ V.cell? ⟨g, 13, none⟩ = some (.slice a8 k8 c8) ∧ V.cell? ⟨g, 14, none⟩ = some (.slice a9 k9 c9) ∧ V.cell? ⟨g, 15, none⟩ = some (.bool b5) ∧ V.cell? ⟨g, 16, none⟩ = some (.slice a10 k10 c10) ∧ V.cell? ⟨g, 17, none⟩ = some (.slice a11 k11 c11))) (hbs : base ≤ w.heap.size) (hcp : 6 ≤ cp)
    (hwd : ∀ j, j < 12 → Wd (X j)) (hlen : ∀ j, j < 12 → (X j).length ≤ 1099511627776) (hown : ∀ j, j < 12 → w.ownsRow base 71 1 (([.slice a0 k0 c0, .slice a1 k1 c1, .slice a2 k2 c2, .slice a3 k3 c3, .slice a4 k4 c4, .slice a5 k5 c5, .slice a6 k6 c6, .slice a7 k7 c7, .slice a8 k8 c8, .slice a9 k9 c9, .slice a10 k10 c10, .slice a11 k11 c11] : List Value)[j]?.getD undef) (X j).length ((X j).map (Value.int .u32)))
    (hap : ∀ i j, i < 12 → j < 12 → i ≠ j → (([.slice a0 k0 c0, .slice a1 k1 c1, .slice a2 k2 c2, .slice a3 k3 c3, .slice a4 k4 c4, .slice a5 k5 c5, .slice a6 k6 c6, .slice a7 k7 c7, .slice a8 k8 c8, .slice a9 k9 c9, .slice a10 k10 c10, .slice a11 k11 c11] : List Value)[i]?.getD undef).ownBlock = none ∨ (([.slice a0 k0 c0, .slice a1 k1 c1, .slice a2 k2 c2, .slice a3 k3 c3, .slice a4 k4 c4, .slice a5 k5 c5, .slice a6 k6 c6, .slice a7 k7 c7, .slice a8 k8 c8, .slice a9 k9 c9, .slice a10 k10 c10, .slice a11 k11 c11] : List Value)[i]?.getD undef).ownBlock ≠ (([.slice a0 k0 c0, .slice a1 k1 c1, .slice a2 k2 c2, .slice a3 k3 c3, .slice a4 k4 c4, .slice a5 k5 c5, .slice a6 k6 c6, .slice a7 k7 c7, .slice a8 k8 c8, .slice a9 k9 c9, .slice a10 k10 c10, .slice a11 k11 c11] : List Value)[j]?.getD undef).ownBlock) :
    Calls Tryz.prog 24 #[.slice (some ⟨g, 0, none⟩) 6 cp] w fun e w' => e = .returned (.bool true) ∧ Below base w w' := by
  obtain ⟨i0, hi, hz0, hz1, hz2⟩ := info_parts Tryz.infoL
  have HF := hid (And.intro hwd (And.intro hlen (And.intro hown hap)))
  have HK := hid hk
  have HCP := hid hcp
  clear hk hwd hlen hown hap hcp
  go_enter Tryz.func24, Tryz.ntmps24
  go_wp2_with fail
  refine wp_loop_rounds 7 ?_
  have HO : Hid (w.ownsRow w.heap.size 22 1 (.slice none 0 0) 0 []) := World.ownsRow_nil _ _ _ _
  have hb : Below w.heap.size w w := Below.refl _ _
  rw [rounds_succ]
  have hs0 := (HK.out w hb).1
  obtain ⟨e0, e1, e2, e3, e4, e5⟩ := hs0
  have hs0 := (HK.out _ hb.drew).1
  have HOA : Hid ((w.alloc (.cells #[.slice a0 k0 c0, .slice a1 k1 c1] 22)).drew.ownsRow w.heap.size 22 1 (.slice none 0 0) 0 []) := owns_later HO.out (bt (alloc_later w (.cells #[.slice a0 k0 c0, .slice a1 k1 c1] 22)) (Below.drew (Below.refl _ _)))
  have hbA : Below w.heap.size w (w.alloc (.cells #[.slice a0 k0 c0, .slice a1 k1 c1] 22)).drew := (bt hb (alloc_later w (.cells #[.slice a0 k0 c0, .slice a1 k1 c1] 22))).drew
  have hsA := (HK.out _ hbA).1
  have hsz := hb.size
  go_wp2_with fail
  go_region_held3 (fun V : World => V.cell? ⟨g, 0, none⟩ = some (.bool b0) ∧ V.cell? ⟨g, 1, none⟩ = some (.slice a0 k0 c0) ∧ V.cell? ⟨g, 2, none⟩ = some (.slice a1 k1 c1) ∧ V.cell? ⟨g, 3, none⟩ = some (.bool b1) ∧ V.cell? ⟨g, 4, none⟩ = some (.slice a2 k2 c2) ∧ V.cell? ⟨g, 5, none⟩ = some (.slice a3 k3 c3)) (first | exact hs0 | exact hsA | exact hs1 | go_keep)
    (first | (refine step_append_own rfl (.tmp 11) (.tmp 22) 69 rfl w.heap.size 22 i0 (.slice none 0 0) 1 24 Tryz.underlying69 hi hz0 hz1 hz2 rfl (by decide) (.slice none 0 0) 0 [] rfl HOA.out ⟨w.heap.size, 0, none⟩ 2 2 [.slice a0 k0 c0, .slice a1 k1 c1] rfl rfl (two_cells w _ _ _) (by simp [Value.oneCell']) (by unfold maxLen; omega) (by omega) hbA.size ?_; intro v1 w1 o1 gr1; have hs1 := (HK.out _ (hbA.grown gr1 hbA.size (fun k hk => (HOA.out.lt k hk).1))).1))
  have hb1 : Below w.heap.size w w1 := hbA.grown gr1 hbA.size (fun k hk => (HOA.out.lt k hk).1)
  obtain ⟨q1, d1, hv1⟩ := own_slice o1
  subst hv1
  replace HO := hid o1
  replace hb := hb1
  clear o1 gr1 hb1 HOA hbA hsA hs0 hs1 e0 e1 e2 e3 e4 e5 hsz
  go_wp2_with fail
  rw [rounds_succ]
  have hs0 := (HK.out w1 hb).1
  obtain ⟨e0, e1, e2, e3, e4, e5⟩ := hs0
  have hs0 := (HK.out _ hb.drew).1
  have HOA : Hid ((w1.alloc (.cells #[.slice a2 k2 c2, .slice a3 k3 c3] 22)).drew.ownsRow w.heap.size 22 1 (.slice q1 2 d1) 2 ([] ++ [.slice a0 k0 c0, .slice a1 k1 c1])) := owns_later HO.out (bt (alloc_later w1 (.cells #[.slice a2 k2 c2, .slice a3 k3 c3] 22)) (Below.drew (Below.refl _ _)))
  have hbA : Below w.heap.size w (w1.alloc (.cells #[.slice a2 k2 c2, .slice a3 k3 c3] 22)).drew := (bt hb (alloc_later w1 (.cells #[.slice a2 k2 c2, .slice a3 k3 c3] 22))).drew
  have hsA := (HK.out _ hbA).1
  have hsz := hb.size
  go_wp2_with fail
  go_region_held3 (fun V : World => V.cell? ⟨g, 0, none⟩ = some (.bool b0) ∧ V.cell? ⟨g, 1, none⟩ = some (.slice a0 k0 c0) ∧ V.cell? ⟨g, 2, none⟩ = some (.slice a1 k1 c1) ∧ V.cell? ⟨g, 3, none⟩ = some (.bool b1) ∧ V.cell? ⟨g, 4, none⟩ = some (.slice a2 k2 c2) ∧ V.cell? ⟨g, 5, none⟩ = some (.slice a3 k3 c3)) (first | exact hs0 | exact hsA | exact hs2 | go_keep)
    (first | (refine step_append_own rfl (.tmp 11) (.tmp 22) 69 rfl w.heap.size 22 i0 (.slice none 0 0) 1 24 Tryz.underlying69 hi hz0 hz1 hz2 rfl (by decide) (.slice q1 2 d1) 2 ([] ++ [.slice a0 k0 c0, .slice a1 k1 c1]) rfl HOA.out ⟨w1.heap.size, 0, none⟩ 2 2 [.slice a2 k2 c2, .slice a3 k3 c3] rfl rfl (two_cells w1 _ _ _) (by simp [Value.oneCell']) (by unfold maxLen; omega) (by omega) hbA.size ?_; intro v2 w2 o2 gr2; have hs2 := (HK.out _ (hbA.grown gr2 hbA.size (fun k hk => (HOA.out.lt k hk).1))).1))
  have hb2 : Below w.heap.size w w2 := hbA.grown gr2 hbA.size (fun k hk => (HOA.out.lt k hk).1)
  obtain ⟨q2, d2, hv2⟩ := own_slice o2
  subst hv2
  replace HO := hid o2
  replace hb := hb2
  clear o2 gr2 hb2 HOA hbA hsA hs0 hs2 e0 e1 e2 e3 e4 e5 hsz
  go_wp2_with fail
  rw [rounds_succ]
  have hs0 := (HK.out w2 hb).2.1
  obtain ⟨e0, e1, e2, e3, e4, e5⟩ := hs0
  have hs0 := (HK.out _ hb.drew).2.1
  have HOA : Hid ((w2.alloc (.cells #[.slice a4 k4 c4, .slice a5 k5 c5] 22)).drew.ownsRow w.heap.size 22 1 (.slice q2 4 d2) 4 (([] ++ [.slice a0 k0 c0, .slice a1 k1 c1]) ++ [.slice a2 k2 c2, .slice a3 k3 c3])) := owns_later HO.out (bt (alloc_later w2 (.cells #[.slice a4 k4 c4, .slice a5 k5 c5] 22)) (Below.drew (Below.refl _ _)))
  have hbA : Below w.heap.size w (w2.alloc (.cells #[.slice a4 k4 c4, .slice a5 k5 c5] 22)).drew := (bt hb (alloc_later w2 (.cells #[.slice a4 k4 c4, .slice a5 k5 c5] 22))).drew
  have hsA := (HK.out _ hbA).2.1
  have hsz := hb.size
  go_wp2_with fail
  go_region_held3 (fun V : World => V.cell? ⟨g, 6, none⟩ = some (.bool b2) ∧ V.cell? ⟨g, 7, none⟩ = some (.slice a4 k4 c4) ∧ V.cell? ⟨g, 8, none⟩ = some (.slice a5 k5 c5) ∧ V.cell? ⟨g, 9, none⟩ = some (.bool b3) ∧ V.cell? ⟨g, 10, none⟩ = some (.slice a6 k6 c6) ∧ V.cell? ⟨g, 11, none⟩ = some (.slice a7 k7 c7)) (first | exact hs0 | exact hsA | exact hs3 | go_keep)
    (first | (refine step_append_own rfl (.tmp 11) (.tmp 22) 69 rfl w.heap.size 22 i0 (.slice none 0 0) 1 24 Tryz.underlying69 hi hz0 hz1 hz2 rfl (by decide) (.slice q2 4 d2) 4 (([] ++ [.slice a0 k0 c0, .slice a1 k1 c1]) ++ [.slice a2 k2 c2, .slice a3 k3 c3]) rfl HOA.out ⟨w2.heap.size, 0, none⟩ 2 2 [.slice a4 k4 c4, .slice a5 k5 c5] rfl rfl (two_cells w2 _ _ _) (by simp [Value.oneCell']) (by unfold maxLen; omega) (by omega) hbA.size ?_; intro v3 w3 o3 gr3; have hs3 := (HK.out _ (hbA.grown gr3 hbA.size (fun k hk => (HOA.out.lt k hk).1))).2.1))
  have hb3 : Below w.heap.size w w3 := hbA.grown gr3 hbA.size (fun k hk => (HOA.out.lt k hk).1)
  obtain ⟨q3, d3, hv3⟩ := own_slice o3
  subst hv3
  replace HO := hid o3
  replace hb := hb3
  clear o3 gr3 hb3 HOA hbA hsA hs0 hs3 e0 e1 e2 e3 e4 e5 hsz
  go_wp2_with fail
  rw [rounds_succ]
  have hs0 := (HK.out w3 hb).2.1
  obtain ⟨e0, e1, e2, e3, e4, e5⟩ := hs0
  have hs0 := (HK.out _ hb.drew).2.1
  have HOA : Hid ((w3.alloc (.cells #[.slice a6 k6 c6, .slice a7 k7 c7] 22)).drew.ownsRow w.heap.size 22 1 (.slice q3 6 d3) 6 ((([] ++ [.slice a0 k0 c0, .slice a1 k1 c1]) ++ [.slice a2 k2 c2, .slice a3 k3 c3]) ++ [.slice a4 k4 c4, .slice a5 k5 c5])) := owns_later HO.out (bt (alloc_later w3 (.cells #[.slice a6 k6 c6, .slice a7 k7 c7] 22)) (Below.drew (Below.refl _ _)))
  have hbA : Below w.heap.size w (w3.alloc (.cells #[.slice a6 k6 c6, .slice a7 k7 c7] 22)).drew := (bt hb (alloc_later w3 (.cells #[.slice a6 k6 c6, .slice a7 k7 c7] 22))).drew
  have hsA := (HK.out _ hbA).2.1
  have hsz := hb.size
  go_wp2_with fail
  go_region_held3 (fun V : World => V.cell? ⟨g, 6, none⟩ = some (.bool b2) ∧ V.cell? ⟨g, 7, none⟩ = some (.slice a4 k4 c4) ∧ V.cell? ⟨g, 8, none⟩ = some (.slice a5 k5 c5) ∧ V.cell? ⟨g, 9, none⟩ = some (.bool b3) ∧ V.cell? ⟨g, 10, none⟩ = some (.slice a6 k6 c6) ∧ V.cell? ⟨g, 11, none⟩ = some (.slice a7 k7 c7)) (first | exact hs0 | exact hsA | exact hs4 | go_keep)
    (first | (refine step_append_own rfl (.tmp 11) (.tmp 22) 69 rfl w.heap.size 22 i0 (.slice none 0 0) 1 24 Tryz.underlying69 hi hz0 hz1 hz2 rfl (by decide) (.slice q3 6 d3) 6 ((([] ++ [.slice a0 k0 c0, .slice a1 k1 c1]) ++ [.slice a2 k2 c2, .slice a3 k3 c3]) ++ [.slice a4 k4 c4, .slice a5 k5 c5]) rfl HOA.out ⟨w3.heap.size, 0, none⟩ 2 2 [.slice a6 k6 c6, .slice a7 k7 c7] rfl rfl (two_cells w3 _ _ _) (by simp [Value.oneCell']) (by unfold maxLen; omega) (by omega) hbA.size ?_; intro v4 w4 o4 gr4; have hs4 := (HK.out _ (hbA.grown gr4 hbA.size (fun k hk => (HOA.out.lt k hk).1))).2.1))
  have hb4 : Below w.heap.size w w4 := hbA.grown gr4 hbA.size (fun k hk => (HOA.out.lt k hk).1)
  obtain ⟨q4, d4, hv4⟩ := own_slice o4
  subst hv4
  replace HO := hid o4
  replace hb := hb4
  clear o4 gr4 hb4 HOA hbA hsA hs0 hs4 e0 e1 e2 e3 e4 e5 hsz
  go_wp2_with fail
  rw [rounds_succ]
  have hs0 := (HK.out w4 hb).2.2
  obtain ⟨e0, e1, e2, e3, e4, e5⟩ := hs0
  have hs0 := (HK.out _ hb.drew).2.2
  have HOA : Hid ((w4.alloc (.cells #[.slice a8 k8 c8, .slice a9 k9 c9] 22)).drew.ownsRow w.heap.size 22 1 (.slice q4 8 d4) 8 (((([] ++ [.slice a0 k0 c0, .slice a1 k1 c1]) ++ [.slice a2 k2 c2, .slice a3 k3 c3]) ++ [.slice a4 k4 c4, .slice a5 k5 c5]) ++ [.slice a6 k6 c6, .slice a7 k7 c7])) := owns_later HO.out (bt (alloc_later w4 (.cells #[.slice a8 k8 c8, .slice a9 k9 c9] 22)) (Below.drew (Below.refl _ _)))
  have hbA : Below w.heap.size w (w4.alloc (.cells #[.slice a8 k8 c8, .slice a9 k9 c9] 22)).drew := (bt hb (alloc_later w4 (.cells #[.slice a8 k8 c8, .slice a9 k9 c9] 22))).drew
  have hsA := (HK.out _ hbA).2.2
  have hsz := hb.size
  go_wp2_with fail
  go_region_held3 (fun V : World => V.cell? ⟨g, 12, none⟩ = some (.bool b4) ∧ V.cell? ⟨g, 13, none⟩ = some (.slice a8 k8 c8) ∧ V.cell? ⟨g, 14, none⟩ = some (.slice a9 k9 c9) ∧ V.cell? ⟨g, 15, none⟩ = some (.bool b5) ∧ V.cell? ⟨g, 16, none⟩ = some (.slice a10 k10 c10) ∧ V.cell? ⟨g, 17, none⟩ = some (.slice a11 k11 c11)) (first | exact hs0 | exact hsA | exact hs5 | go_keep)
    (first | (refine step_append_own rfl (.tmp 11) (.tmp 22) 69 rfl w.heap.size 22 i0 (.slice none 0 0) 1 24 Tryz.underlying69 hi hz0 hz1 hz2 rfl (by decide) (.slice q4 8 d4) 8 (((([] ++ [.slice a0 k0 c0, .slice a1 k1 c1]) ++ [.slice a2 k2 c2, .slice a3 k3 c3]) ++ [.slice a4 k4 c4, .slice a5 k5 c5]) ++ [.slice a6 k6 c6, .slice a7 k7 c7]) rfl HOA.out ⟨w4.heap.size, 0, none⟩ 2 2 [.slice a8 k8 c8, .slice a9 k9 c9] rfl rfl (two_cells w4 _ _ _) (by simp [Value.oneCell']) (by unfold maxLen; omega) (by omega) hbA.size ?_; intro v5 w5 o5 gr5; have hs5 := (HK.out _ (hbA.grown gr5 hbA.size (fun k hk => (HOA.out.lt k hk).1))).2.2))
  have hb5 : Below w.heap.size w w5 := hbA.grown gr5 hbA.size (fun k hk => (HOA.out.lt k hk).1)
  obtain ⟨q5, d5, hv5⟩ := own_slice o5
  subst hv5
  replace HO := hid o5
  replace hb := hb5
  clear o5 gr5 hb5 HOA hbA hsA hs0 hs5 e0 e1 e2 e3 e4 e5 hsz
  go_wp2_with fail
  rw [rounds_succ]
  have hs0 := (HK.out w5 hb).2.2
  obtain ⟨e0, e1, e2, e3, e4, e5⟩ := hs0
  have hs0 := (HK.out _ hb.drew).2.2
  have HOA : Hid ((w5.alloc (.cells #[.slice a10 k10 c10, .slice a11 k11 c11] 22)).drew.ownsRow w.heap.size 22 1 (.slice q5 10 d5) 10 ((((([] ++ [.slice a0 k0 c0, .slice a1 k1 c1]) ++ [.slice a2 k2 c2, .slice a3 k3 c3]) ++ [.slice a4 k4 c4, .slice a5 k5 c5]) ++ [.slice a6 k6 c6, .slice a7 k7 c7]) ++ [.slice a8 k8 c8, .slice a9 k9 c9])) := owns_later HO.out (bt (alloc_later w5 (.cells #[.slice a10 k10 c10, .slice a11 k11 c11] 22)) (Below.drew (Below.refl _ _)))
  have hbA : Below w.heap.size w (w5.alloc (.cells #[.slice a10 k10 c10, .slice a11 k11 c11] 22)).drew := (bt hb (alloc_later w5 (.cells #[.slice a10 k10 c10, .slice a11 k11 c11] 22))).drew
  have hsA := (HK.out _ hbA).2.2
  have hsz := hb.size
  go_wp2_with fail
  go_region_held3 (fun V : World => V.cell? ⟨g, 12, none⟩ = some (.bool b4) ∧ V.cell? ⟨g, 13, none⟩ = some (.slice a8 k8 c8) ∧ V.cell? ⟨g, 14, none⟩ = some (.slice a9 k9 c9) ∧ V.cell? ⟨g, 15, none⟩ = some (.bool b5) ∧ V.cell? ⟨g, 16, none⟩ = some (.slice a10 k10 c10) ∧ V.cell? ⟨g, 17, none⟩ = some (.slice a11 k11 c11)) (first | exact hs0 | exact hsA | exact hs6 | go_keep)
    (first | (refine step_append_own rfl (.tmp 11) (.tmp 22) 69 rfl w.heap.size 22 i0 (.slice none 0 0) 1 24 Tryz.underlying69 hi hz0 hz1 hz2 rfl (by decide) (.slice q5 10 d5) 10 ((((([] ++ [.slice a0 k0 c0, .slice a1 k1 c1]) ++ [.slice a2 k2 c2, .slice a3 k3 c3]) ++ [.slice a4 k4 c4, .slice a5 k5 c5]) ++ [.slice a6 k6 c6, .slice a7 k7 c7]) ++ [.slice a8 k8 c8, .slice a9 k9 c9]) rfl HOA.out ⟨w5.heap.size, 0, none⟩ 2 2 [.slice a10 k10 c10, .slice a11 k11 c11] rfl rfl (two_cells w5 _ _ _) (by simp [Value.oneCell']) (by unfold maxLen; omega) (by omega) hbA.size ?_; intro v6 w6 o6 gr6; have hs6 := (HK.out _ (hbA.grown gr6 hbA.size (fun k hk => (HOA.out.lt k hk).1))).2.2))
  have hb6 : Below w.heap.size w w6 := hbA.grown gr6 hbA.size (fun k hk => (HOA.out.lt k hk).1)
  obtain ⟨q6, d6, hv6⟩ := own_slice o6
  subst hv6
  replace HO := hid o6
  replace hb := hb6
  clear o6 gr6 hb6 HOA hbA hsA hs0 hs6 e0 e1 e2 e3 e4 e5 hsz
  go_wp2_with fail
  rw [rounds_succ]
  obtain ⟨gl, cap, hv, hcap, _⟩ := own_shape HO.out (by omega)
  obtain ⟨rfl, rfl⟩ : q6 = some ⟨gl, 0, none⟩ ∧ d6 = cap := by simpa using hv
  clear hv
  have HLs : Hid (Lists w6 base gl 12 (fun j => ([.slice a0 k0 c0, .slice a1 k1 c1, .slice a2 k2 c2, .slice a3 k3 c3, .slice a4 k4 c4, .slice a5 k5 c5, .slice a6 k6 c6, .slice a7 k7 c7, .slice a8 k8 c8, .slice a9 k9 c9, .slice a10 k10 c10, .slice a11 k11 c11] : List Value)[j]?.getD undef) X) := by
    obtain ⟨cl, hg, hcl⟩ := own_row HO.out
    refine ⟨HF.out.1, HF.out.2.1, fun j hj => owns_later (HF.out.2.2.1 j hj) hb, HF.out.2.2.2, ⟨cl, hg, fun j hj => ?_⟩⟩
    rw [hcl j hj]
    match j, hj with
    | 0, _ => rfl
    | 1, _ => rfl
    | 2, _ => rfl
    | 3, _ => rfl
    | 4, _ => rfl
    | 5, _ => rfl
    | 6, _ => rfl
    | 7, _ => rfl
    | 8, _ => rfl
    | 9, _ => rfl
    | 10, _ => rfl
    | 11, _ => rfl
  have HAP := hid (apart_cap base gl 12 d6 _ X w6 HLs.out (by omega) (by have := hb.size; omega) hcap)
  have HBB := hid (hb.mono hbs)
  clear HLs HO hb hcap
  clear HK HF
  go_wp2_with fail
  refine Calls.mono HAP.out ?_
  rintro e wE ⟨rfl, hbE⟩
  have HBE := hid (HBB.out.trans hbE)
  clear hbE HAP
  go_wp2_with fail
  go_ret
  exact ⟨rfl, HBE.out⟩

set_option maxHeartbeats 1600000 in
set_option maxRecDepth 100000 in
theorem kapartGausses3 (base : Nat) (b0 b1 b2 b3 b4 b5 : Bool) (a0 a1 a2 a3 a4 a5 a6 a7 a8 a9 a10 a11 : Option Addr) (k0 k1 k2 k3 k4 k5 k6 k7 k8 k9 k10 k11 c0 c1 c2 c3 c4 c5 c6 c7 c8 c9 c10 c11 : Nat) (g : Nat) (X : Nat → List Int) (w : World) (hbx : Box w g 26 #[.bool b0, .slice a0 k0 c0, .slice a1 k1 c1, .bool b1, .slice a2 k2 c2, .slice a3 k3 c3, .bool b2, .slice a4 k4 c4, .slice a5 k5 c5, .bool b3, .slice a6 k6 c6, .slice a7 k7 c7, .bool b4, .slice a8 k8 c8, .slice a9 k9 c9, .bool b5, .slice a10 k10 c10, .slice a11 k11 c11]) (hbs : base ≤ w.heap.size)
    (hwd : ∀ j, j < 12 → Wd (X j)) (hlen : ∀ j, j < 12 → (X j).length ≤ 1099511627776) (hown : ∀ j, j < 12 → w.ownsRow base 71 1 (([.slice a0 k0 c0, .slice a1 k1 c1, .slice a2 k2 c2, .slice a3 k3 c3, .slice a4 k4 c4, .slice a5 k5 c5, .slice a6 k6 c6, .slice a7 k7 c7, .slice a8 k8 c8, .slice a9 k9 c9, .slice a10 k10 c10, .slice a11 k11 c11] : List Value)[j]?.getD undef) (X j).length ((X j).map (Value.int .u32)))
    (hap : ∀ i j, i < 12 → j < 12 → i ≠ j → (([.slice a0 k0 c0, .slice a1 k1 c1, .slice a2 k2 c2, .slice a3 k3 c3, .slice a4 k4 c4, .slice a5 k5 c5, .slice a6 k6 c6, .slice a7 k7 c7, .slice a8 k8 c8, .slice a9 k9 c9, .slice a10 k10 c10, .slice a11 k11 c11] : List Value)[i]?.getD undef).ownBlock = none ∨ (([.slice a0 k0 c0, .slice a1 k1 c1, .slice a2 k2 c2, .slice a3 k3 c3, .slice a4 k4 c4, .slice a5 k5 c5, .slice a6 k6 c6, .slice a7 k7 c7, .slice a8 k8 c8, .slice a9 k9 c9, .slice a10 k10 c10, .slice a11 k11 c11] : List Value)[i]?.getD undef).ownBlock ≠ (([.slice a0 k0 c0, .slice a1 k1 c1, .slice a2 k2 c2, .slice a3 k3 c3, .slice a4 k4 c4, .slice a5 k5 c5, .slice a6 k6 c6, .slice a7 k7 c7, .slice a8 k8 c8, .slice a9 k9 c9, .slice a10 k10 c10, .slice a11 k11 c11] : List Value)[j]?.getD undef).ownBlock) :
    Calls Tryz.prog 12 #[.slice (some ⟨g, 0, none⟩) 3 3] w fun e w' => e = .returned (.bool true) ∧ Below base w w' := by
  have hk : ∀ V, Below w.heap.size w V → (V.cell? ⟨g, 0, none⟩ = some (.bool b0) ∧ V.cell? ⟨g, 1, none⟩ = some (.slice a0 k0 c0) ∧ V.cell? ⟨g, 2, none⟩ = some (.slice a1 k1 c1) ∧ V.cell? ⟨g, 3, none⟩ = some (.bool b1) ∧ V.cell? ⟨g, 4, none⟩ = some (.slice a2 k2 c2) ∧ V.cell? ⟨g, 5, none⟩ = some (.slice a3 k3 c3)) ∧ (V.cell? ⟨g, 6, none⟩ = some (.bool b2) ∧ V.cell? ⟨g, 7, none⟩ = some (.slice a4 k4 c4) ∧ V.cell? ⟨g, 8, none⟩ = some (.slice a5 k5 c5) ∧ V.cell? ⟨g, 9, none⟩ = some (.bool b3) ∧ V.cell? ⟨g, 10, none⟩ = some (.slice a6 k6 c6) ∧ V.cell? ⟨g, 11, none⟩ = some (.slice a7 k7 c7)) ∧ (V.cell? ⟨g, 12, none⟩ = some (.bool b4) ∧ V.cell? ⟨g, 13, none⟩ = some (.slice a8 k8 c8) ∧ V.cell? ⟨g, 14, none⟩ = some (.slice a9 k9 c9) ∧ V.cell? ⟨g, 15, none⟩ = some (.bool b5) ∧ V.cell? ⟨g, 16, none⟩ = some (.slice a10 k10 c10) ∧ V.cell? ⟨g, 17, none⟩ = some (.slice a11 k11 c11)) := fun V hb => by
    have h := hbx.later hb hbx.lt
    exact ⟨⟨h.cell 0, h.cell 1, h.cell 2, h.cell 3, h.cell 4, h.cell 5⟩, ⟨h.cell 6, h.cell 7, h.cell 8, h.cell 9, h.cell 10, h.cell 11⟩, ⟨h.cell 12, h.cell 13, h.cell 14, h.cell 15, h.cell 16, h.cell 17⟩⟩
  have HP := hid (kpartsOf3 b0 b1 b2 b3 b4 b5 a0 a1 a2 a3 a4 a5 a6 a7 a8 a9 a10 a11 k0 k1 k2 k3 k4 k5 k6 k7 k8 k9 k10 k11 c0 c1 c2 c3 c4 c5 c6 c7 c8 c9 c10 c11 g w hk)
  have HF := hid (And.intro hwd (And.intro hlen (And.intro hown hap)))
  clear hbx hwd hlen hown hap hk
  go_enter Tryz.func12, Tryz.ntmps12
  go_wp2_with fail
  refine Calls.mono HP.out ?_
  rintro e w1 ⟨v, rfl, ho, hb⟩
  obtain ⟨q, d, hv⟩ := kg_slice3 ho
  subst hv
  obtain ⟨gl, rfl, hd⟩ : ∃ gl, q = some ⟨gl, 0, none⟩ ∧ 6 ≤ d := by
    rcases ho.2 with ⟨_, h0⟩ | ⟨g', cap, cur, hv, _, _, h1, _⟩
    · omega
    · cases hv; exact ⟨g', rfl, h1⟩
  have hk : ∀ V, Below w1.heap.size w1 V → (V.cell? ⟨gl, 0, none⟩ = some (.bool b0) ∧ V.cell? ⟨gl, 1, none⟩ = some (.slice a0 k0 c0) ∧ V.cell? ⟨gl, 2, none⟩ = some (.slice a1 k1 c1) ∧ V.cell? ⟨gl, 3, none⟩ = some (.bool b1) ∧ V.cell? ⟨gl, 4, none⟩ = some (.slice a2 k2 c2) ∧ V.cell? ⟨gl, 5, none⟩ = some (.slice a3 k3 c3)) ∧ (V.cell? ⟨gl, 6, none⟩ = some (.bool b2) ∧ V.cell? ⟨gl, 7, none⟩ = some (.slice a4 k4 c4) ∧ V.cell? ⟨gl, 8, none⟩ = some (.slice a5 k5 c5) ∧ V.cell? ⟨gl, 9, none⟩ = some (.bool b3) ∧ V.cell? ⟨gl, 10, none⟩ = some (.slice a6 k6 c6) ∧ V.cell? ⟨gl, 11, none⟩ = some (.slice a7 k7 c7)) ∧ (V.cell? ⟨gl, 12, none⟩ = some (.bool b4) ∧ V.cell? ⟨gl, 13, none⟩ = some (.slice a8 k8 c8) ∧ V.cell? ⟨gl, 14, none⟩ = some (.slice a9 k9 c9) ∧ V.cell? ⟨gl, 15, none⟩ = some (.bool b5) ∧ V.cell? ⟨gl, 16, none⟩ = some (.slice a10 k10 c10) ∧ V.cell? ⟨gl, 17, none⟩ = some (.slice a11 k11 c11)) := fun V hbv => by
    obtain ⟨cl, hg, hcl⟩ := kg_row3 (kg_later3 ho hbv)
    have hc : ∀ j, V.cell? ⟨gl, j, none⟩ = cl[j]? := fun j => by simp [World.cell?, hg]
    exact ⟨⟨by rw [hc, hcl 0 (by omega)]; rfl, by rw [hc, hcl 1 (by omega)]; rfl, by rw [hc, hcl 2 (by omega)]; rfl, by rw [hc, hcl 3 (by omega)]; rfl, by rw [hc, hcl 4 (by omega)]; rfl, by rw [hc, hcl 5 (by omega)]; rfl⟩, ⟨by rw [hc, hcl 6 (by omega)]; rfl, by rw [hc, hcl 7 (by omega)]; rfl, by rw [hc, hcl 8 (by omega)]; rfl, by rw [hc, hcl 9 (by omega)]; rfl, by rw [hc, hcl 10 (by omega)]; rfl, by rw [hc, hcl 11 (by omega)]; rfl⟩, ⟨by rw [hc, hcl 12 (by omega)]; rfl, by rw [hc, hcl 13 (by omega)]; rfl, by rw [hc, hcl 14 (by omega)]; rfl, by rw [hc, hcl 15 (by omega)]; rfl, by rw [hc, hcl 16 (by omega)]; rfl, by rw [hc, hcl 17 (by omega)]; rfl⟩⟩
  have HA := hid (kapartRatios6 base b0 b1 b2 b3 b4 b5 a0 a1 a2 a3 a4 a5 a6 a7 a8 a9 a10 a11 k0 k1 k2 k3 k4 k5 k6 k7 k8 k9 k10 k11 c0 c1 c2 c3 c4 c5 c6 c7 c8 c9 c10 c11 gl d X w1 hk (Nat.le_trans hbs hb.size) hd HF.out.1 HF.out.2.1 (fun j hj => owns_later (HF.out.2.2.1 j hj) hb) HF.out.2.2.2)
  have HB := hid (hb.mono hbs)
  clear ho hb hk HF HP hd
  go_wp2_with fail
  refine Calls.mono HA.out ?_
  rintro e w2 ⟨rfl, hb2⟩
  have HB2 := hid (HB.out.trans hb2)
  clear HA hb2
  go_wp2_with fail
  go_ret
  exact ⟨rfl, HB2.out⟩
end Go.Proofs.YtdgecalkhbbkoaaGreatDoor

/- A complex fraction, a constituent, that came in is read. -/
namespace Go.Proofs.YtdgecalkhbbkoaaGreatDoor
open Go.ChangeShapes Go.WideShapes Go.ChangeAt Go.RowKit Go.Joins Go.Deep
set_option linter.unusedVariables false

/-- A slice of words that came in: nil, or a row of 'cap' cells. -/
def InRow (w : World) (a : Option Addr) (len cap : Nat) (zs : List Int) : Prop :=
  (a = none ∧ len = 0 ∧ cap = 0 ∧ zs = []) ∨
  ∃ x, a = some x ∧ len ≤ cap ∧ cap ≤ maxLen ∧ zs.length = cap ∧ (∀ i, i < zs.length → w.cell? (x.add i) = some (.int .u32 (zs.getD i 0))) ∧ ∀ n ∈ zs, (Lit.int .u32 n).wf = true
theorem arr6 {cs : Array Value} (h : cs.size = 6) : ∃ c0 c1 c2 c3 c4 c5, cs = #[c0, c1, c2, c3, c4, c5] := by
  rcases cs with ⟨l⟩
  match l, h with
  | [c0, c1, c2, c3, c4, c5], _ => exact ⟨c0, c1, c2, c3, c4, c5, rfl⟩
theorem in_row {H : Type} {enc : TypeId × Value → H} {w : World} {held : Bool} {n : Nat} {v : Value} {x : DataW H × List MemPlace} (h : DataW.trod enc Tryz.prog w 0 (fun _ => true) held n 22 [v] = some x) : ∃ a len cap zs, v = .slice a len cap ∧ InRow w a len cap zs := by
  rcases open_ints Tryz.underlying22 Tryz.underlying71 (by kernel_rfl) h with ⟨hcs, _⟩ | ⟨x, l, cc, zs, hcs, _, hl, hm, hz, _, hcell, hwz⟩
  · simp at hcs
    exact ⟨none, 0, 0, [], hcs, .inl ⟨rfl, rfl, rfl, rfl⟩⟩
  · simp at hcs
    exact ⟨some x, l, cc, zs, hcs, .inr ⟨_, rfl, hl, hm, by simpa using hz, hcell, hwz⟩⟩
theorem in_ratio {H : Type} {enc : TypeId × Value → H} {w : World} {held : Bool} {n : Nat} {v0 v1 v2 : Value} {x : DataW H × List MemPlace} (h : DataW.trod enc Tryz.prog w 0 (fun _ => true) held n 24 [v0, v1, v2] = some x) :
    ∃ s a len cap zs b lem cbp ys, v0 = .bool s ∧ v1 = .slice a len cap ∧ v2 = .slice b lem cbp ∧ InRow w a len cap zs ∧ InRow w b lem cbp ys := by
  obtain ⟨y0, y1, y2, m, _, _, t0, t1, t2⟩ := trod_struct3 Tryz.underlying24 h
  have k0 : Tryz.prog.cellsOf 4 = 1 := by kernel_rfl
  have k1 : Tryz.prog.cellsOf 22 = 1 := by kernel_rfl
  simp [k0] at t0
  simp [k1] at t1 t2
  obtain ⟨s, hs, _⟩ := DataW.trod_bool Tryz.underlying4 t0
  simp at hs
  obtain ⟨a, len, cap, zs, e1, r1⟩ := in_row t1
  obtain ⟨b, lem, cbp, ys, e2, r2⟩ := in_row t2
  exact ⟨s, a, len, cap, zs, b, lem, cbp, ys, hs, e1, e2, r1, r2⟩
theorem in_gauss {H : Type} {enc : TypeId × Value → H} {w : World} {held : Bool} {n : Nat} {v0 v1 v2 v3 v4 v5 : Value} {x : DataW H × List MemPlace} (h : DataW.trod enc Tryz.prog w 0 (fun _ => true) held n 26 [v0, v1, v2, v3, v4, v5] = some x) :
    (∃ s a len cap zs b lem cbp ys, v0 = .bool s ∧ v1 = .slice a len cap ∧ v2 = .slice b lem cbp ∧ InRow w a len cap zs ∧ InRow w b lem cbp ys) ∧ (∃ s a len cap zs b lem cbp ys, v3 = .bool s ∧ v4 = .slice a len cap ∧ v5 = .slice b lem cbp ∧ InRow w a len cap zs ∧ InRow w b lem cbp ys) := by
  obtain ⟨y0, y1, m, _, _, t0, t1⟩ := trod_struct2 Tryz.underlying26 h
  have k0 : Tryz.prog.cellsOf 24 = 3 := by kernel_rfl
  simp [k0] at t0 t1
  exact ⟨in_ratio t0, in_ratio t1⟩
set_option maxHeartbeats 800000 in
set_option maxRecDepth 100000 in
theorem open_gauss {H : Type} {enc : TypeId × Value → H} {w : World} {held : Bool} {r : Reach} {b0 : Nat} {v : Value} {d : DataW H} {p : List MemPlace} (hv : Value.okWide Tryz.prog w r b0 26 v) (h : DataW.Trod enc Tryz.prog w 0 (fun _ => true) held 26 v d p) :
    ∃ (n : Bool) (a : Option Addr) (len cap : Nat) (zs : List Int) (b : Option Addr) (lem cbp : Nat) (ys : List Int) (m : Bool) (c : Option Addr) (lec cac : Nat) (us : List Int) (e : Option Addr) (lee cae : Nat) (vs : List Int),
      v = .agg #[.bool n, .slice a len cap, .slice b lem cbp, .bool m, .slice c lec cac, .slice e lee cae] ∧ InRow w a len cap zs ∧ InRow w b lem cbp ys ∧ InRow w c lec cac us ∧ InRow w e lee cae vs := by
  obtain ⟨cs, rfl, hsz⟩ := okWide_struct Tryz.underlying26 hv
  obtain ⟨c0, c1, c2, c3, c4, c5, rfl⟩ := arr6 (hsz.trans (by kernel_rfl))
  obtain ⟨fuel, hf⟩ := h
  obtain ⟨⟨n, a, len, cap, zs, b, lem, cbp, ys, e1, e2, e3, r1, r2⟩, m2, c, lec, cac, us, e, lee, cae, vs, e4, e5, e6, r3, r4⟩ := in_gauss (v0 := c0) (v1 := c1) (v2 := c2) (v3 := c3) (v4 := c4) (v5 := c5) hf
  exact ⟨n, a, len, cap, zs, b, lem, cbp, ys, m2, c, lec, cac, us, e, lee, cae, vs, by rw [e1, e2, e3, e4, e5, e6], r1, r2, r3, r4⟩
end Go.Proofs.YtdgecalkhbbkoaaGreatDoor

