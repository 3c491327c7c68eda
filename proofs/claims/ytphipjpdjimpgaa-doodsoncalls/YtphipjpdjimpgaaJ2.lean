/- My texts on the way to DoodsonCalls, one behind the other: contracts of the program and of the document's answers. -/
import Derived.Test.YtphipjpdjimpgaaJ1
import Derived.Test.YtphipjpdjimpgaaChecked
import Derived.Test.YtphipjpdjimpgaaShelf
import Derived.Handy
import Derived.RegionTactic
import Derived.ChangeAlike
import Derived.Test.YtphipjpdjimpgaaIterShelf
import Derived.RangeFuncNested
import Derived.RangeFuncBound
import Derived.RangeFuncCalls
import Derived.RangeFuncLeaves
import Derived.RangeFuncFrom
import Derived.Shelf.Abstract
import Derived.Shelf.RegionOpen
import Derived.OwnWalkIn
import Derived.TacticsInMore
import Derived.LoopNIn
import Derived.LoopIn
/- The law DoodsonGroup answers true, and writes nothing that was there: of any two lists of numbers and any tick. -/
namespace Go.Proofs.Ytphipjpdjimpgaa
open Go.RowKit
set_option linter.unusedVariables false

theorem FBox.off6 {w : World} {b t : Nat} {vs : Array Value} (h : FBox w b t vs) {c : Nat} (hc : b ≠ c) (v0 v1 v2 v3 v4 v5 : Value) : FBox ((((((w.setCell ⟨c, 0, none⟩ v0).setCell ⟨c, 1, none⟩ v1).setCell ⟨c, 2, none⟩ v2).setCell ⟨c, 3, none⟩ v3).setCell ⟨c, 4, none⟩ v4).setCell ⟨c, 5, none⟩ v5) b t vs := (((((h.off hc 0 v0).off hc 1 v1).off hc 2 v2).off hc 3 v3).off hc 4 v4).off hc 5 v5
theorem dJ_plus (a b : Nat → Int) (t : Nat) : dU (dJ a b 1) t = dU a t + dU b t := by
  unfold dU
  rw [← dS_add]
  exact dS_congr 6 (fun j _ => by unfold dJ; omega)
theorem dJ_less (a b : Nat → Int) (t : Nat) : dU (dJ a b (-1)) t = dU a t - dU b t := by
  unfold dU
  rw [← dS_sub]
  exact dS_congr 6 (fun j _ => by unfold dJ; omega)
theorem dJ_back (a : Nat → Int) (t : Nat) : dU (dJ (fun _ => 0) a (-1)) t = -dU a t := by
  unfold dU
  rw [← dS_neg]
  exact dS_congr 6 (fun j _ => by show 0 + -1 * a j = 0 - a j; omega)
theorem dJ_back_ok {a : Nat → Int} (h : dOK a) : dOK (dJ (fun _ => 0) a (-1)) := fun k hk => by
  have := h k hk
  show -4 ≤ 0 + -1 * a k ∧ 0 + -1 * a k ≤ 4
  omega
theorem dJR_ok {a b : Nat → Int} {s : Int} (h : dOK a ∧ dOK b ∧ dOK (dJ a b s)) : dJR a b s = .tuple #[.agg (doA (dJ a b s)), .int .i64 0] := if_pos h
theorem dJR_no {a b : Nat → Int} {s : Int} (h : ¬ (dOK a ∧ dOK b ∧ dOK (dJ a b s))) : dJR a b s = .tuple #[.agg (doA (fun _ => 0)), .int .i64 210] := if_neg h

set_option maxHeartbeats 3200000 in
set_option maxRecDepth 100000 in
theorem dogroup_11 (a b : Nat → Int) (t : Nat) (w : World) (ha : dOK a) (hb : dOK b) (ht : t ≤ 1048576) (hT : dOK (dJ a b 1)) (hO : dOK (dJ a b (-1))) :
    Calls Try.prog 4 #[.agg (doA a), .agg (doA b), .int .i64 (t : Int)] w fun e w' => e = .returned (.bool true) ∧ Below w.heap.size w w' := by
  have HL := hid (fun V => dolives_any V)
  have HP := hid (fun V => dophase_ok a t V ha ht)
  obtain ⟨p1, p2, ep, op, _⟩ := circ_told (dU a t)
  rw [ep, show tV (p1, p2, 0) = Value.tuple #[.agg #[.int .i64 p1, .int .i64 p2], .int .i64 0] from rfl] at HP
  have HQ := hid (fun V => dophase_ok b t V hb ht)
  obtain ⟨q1, q2, eq, oq, _⟩ := circ_told (dU b t)
  rw [eq, show tV (q1, q2, 0) = Value.tuple #[.agg #[.int .i64 q1, .int .i64 q2], .int .i64 0] from rfl] at HQ
  have HT := hid (fun V => dotimes_any a b V)
  have HO := hid (fun V => doover_any a b V)
  rw [dJR_ok ⟨ha, hb, hT⟩] at HT
  have HR := hid (fun V => dophase_ok (dJ a b 1) t V hT ht)
  obtain ⟨r1, r2, er, or, _⟩ := circ_told (dU (dJ a b 1) t)
  rw [er, show tV (r1, r2, 0) = Value.tuple #[.agg #[.int .i64 r1, .int .i64 r2], .int .i64 0] from rfl] at HR
  have HA := hid (fun V => tadd_any p1 p2 q1 q2 V (dok_in op) (dok_in oq))
  rw [add_circ ep eq, ← dJ_plus, er, show tV (r1, r2, 0) = Value.tuple #[.agg #[.int .i64 r1, .int .i64 r2], .int .i64 0] from rfl] at HA
  rw [dJR_ok ⟨ha, hb, hO⟩] at HO
  have HG := hid (fun V => dophase_ok (dJ a b (-1)) t V hO ht)
  obtain ⟨g1, g2, eg, og, _⟩ := circ_told (dU (dJ a b (-1)) t)
  rw [eg, show tV (g1, g2, 0) = Value.tuple #[.agg #[.int .i64 g1, .int .i64 g2], .int .i64 0] from rfl] at HG
  have HS := hid (fun V => tsub_any p1 p2 q1 q2 V (dok_in op) (dok_in oq))
  rw [sub_circ ep eq, ← dJ_less, eg, show tV (g1, g2, 0) = Value.tuple #[.agg #[.int .i64 g1, .int .i64 g2], .int .i64 0] from rfl] at HS
  have HC := hid (fun V => doconj_any a V)
  rw [dJR_ok ⟨fun _ _ => ⟨by decide, by decide⟩, ha, dJ_back_ok ha⟩] at HC
  have HM := hid (fun V => dophase_ok (dJ (fun _ => 0) a (-1)) t V (dJ_back_ok ha) ht)
  obtain ⟨m1, m2, em, om, _⟩ := circ_told (dU (dJ (fun _ => 0) a (-1)) t)
  rw [em, show tV (m1, m2, 0) = Value.tuple #[.agg #[.int .i64 m1, .int .i64 m2], .int .i64 0] from rfl] at HM
  have HN1 := hid (fun V => tneg_any p1 p2 V (dok_in op))
  rw [neg_circ ep, ← dJ_back, em, show tV (m1, m2, 0) = Value.tuple #[.agg #[.int .i64 m1, .int .i64 m2], .int .i64 0] from rfl] at HN1
  have HV := hid (fun V => dospeed_ok a V ha)
  obtain ⟨v1, v2, ev, ov, _⟩ := circ_told (dV a)
  rw [ev, show tV (v1, v2, 0) = Value.tuple #[.agg #[.int .i64 v1, .int .i64 v2], .int .i64 0] from rfl] at HV
  have HX : Hid (t < 1048576 → ∃ x1 x2 : Int, (∀ V, Calls Try.prog 7 #[.agg (doA a), .int .i64 ((t : Int) + 1)] V fun e w' => e = .returned (.tuple #[.agg #[.int .i64 x1, .int .i64 x2], .int .i64 0]) ∧ Below V.heap.size V w') ∧ (∀ V, Calls Try.prog 24 #[.agg #[.int .i64 p1, .int .i64 p2], .agg #[.int .i64 v1, .int .i64 v2]] V fun e w' => e = .returned (.tuple #[.agg #[.int .i64 x1, .int .i64 x2], .int .i64 0]) ∧ Below V.heap.size V w')) := fun hlt => by
    obtain ⟨x1, x2, ex, ox, _⟩ := circ_told (dU a (t + 1))
    refine ⟨x1, x2, fun V => ?_, fun V => ?_⟩
    · have e := dophase_ok a (t + 1) V ha hlt
      rw [ex, show tV (x1, x2, 0) = Value.tuple #[.agg #[.int .i64 x1, .int .i64 x2], .int .i64 0] from rfl] at e
      exact e
    · have e := tadd_any p1 p2 v1 v2 V (dok_in op) (dok_in ov)
      rw [add_circ ep ev, ← dU_next, ex, show tV (x1, x2, 0) = Value.tuple #[.agg #[.int .i64 x1, .int .i64 x2], .int .i64 0] from rfl] at e
      exact e
  clear ep op eq oq ev ov em om ha hb hT hO
  clear er or
  clear eg og
  have HB0 := hid (dboxes2 w 24 24 (doA a) (doA b))
  obtain ⟨X, hW⟩ : ∃ X, (w.alloc (.cells (doA a) 24)).alloc (.cells (doA b) 24) = X := ⟨_, rfl⟩
  rw [hW] at HB0
  unfold doA at *
  generalize a 0 = aa0 at *
  generalize a 1 = aa1 at *
  generalize a 2 = aa2 at *
  generalize a 3 = aa3 at *
  generalize a 4 = aa4 at *
  generalize a 5 = aa5 at *
  generalize b 0 = bb0 at *
  generalize b 1 = bb1 at *
  generalize b 2 = bb2 at *
  generalize b 3 = bb3 at *
  generalize b 4 = bb4 at *
  generalize b 5 = bb5 at *
  generalize dJ a b 1 0 = xx0 at *
  generalize dJ a b 1 1 = xx1 at *
  generalize dJ a b 1 2 = xx2 at *
  generalize dJ a b 1 3 = xx3 at *
  generalize dJ a b 1 4 = xx4 at *
  generalize dJ a b 1 5 = xx5 at *
  generalize dJ a b (-1) 0 = yy0 at *
  generalize dJ a b (-1) 1 = yy1 at *
  generalize dJ a b (-1) 2 = yy2 at *
  generalize dJ a b (-1) 3 = yy3 at *
  generalize dJ a b (-1) 4 = yy4 at *
  generalize dJ a b (-1) 5 = yy5 at *
  generalize dJ (fun _ => 0) a (-1) 0 = cc0 at *
  generalize dJ (fun _ => 0) a (-1) 1 = cc1 at *
  generalize dJ (fun _ => 0) a (-1) 2 = cc2 at *
  generalize dJ (fun _ => 0) a (-1) 3 = cc3 at *
  generalize dJ (fun _ => 0) a (-1) 4 = cc4 at *
  generalize dJ (fun _ => 0) a (-1) 5 = cc5 at *
  have HBA := hid HB0.out.1
  have HBB := hid HB0.out.2.1
  have HB := hid HB0.out.2.2
  clear HB0
  go_enter Try.func4, Try.ntmps4
  go_wp2_with fail
  clear hW
  refine Calls.mono (HL.out _) ?_
  rintro e u1_ ⟨rfl, hb⟩
  replace HBA := hid (HBA.out.later hb HBA.out.lt)
  replace HBB := hid (HBB.out.later hb HBB.out.lt)
  replace HB := hid (b2 HB.out hb)
  clear hb
  obtain ⟨cA0, cA1, cA2, cA3, cA4, cA5⟩ := box6 HBA.out (Below.refl _ _)
  go_wp2_with fail
  refine Calls.mono (HP.out _) ?_
  rintro e u2_ ⟨rfl, hb⟩
  clear cA0 cA1 cA2 cA3 cA4 cA5
  replace HBA := hid (HBA.out.later hb HBA.out.lt)
  replace HBB := hid (HBB.out.later hb HBB.out.lt)
  replace HB := hid (b2 HB.out hb)
  clear hb
  have HN := hid (boxes1 u2_ 26 #[.int .i64 p1, .int .i64 p2])
  obtain ⟨u3_, hW⟩ : ∃ z, u2_.alloc (.cells #[.int .i64 p1, .int .i64 p2] 26) = z := ⟨_, rfl⟩
  rw [hW] at HN
  replace HBA := hid (HBA.out.later HN.out.2 HBA.out.lt)
  replace HBB := hid (HBB.out.later HN.out.2 HBB.out.lt)
  replace HB := hid (b2 HB.out HN.out.2)
  have HBP := hid HN.out.1
  clear HN
  obtain ⟨cB0, cB1, cB2, cB3, cB4, cB5⟩ := box6 HBB.out (Below.refl _ _)
  go_wp2_with fail
  clear hW
  refine Calls.mono (HQ.out _) ?_
  rintro e u4_ ⟨rfl, hb⟩
  clear cB0 cB1 cB2 cB3 cB4 cB5
  replace HBA := hid (HBA.out.later hb HBA.out.lt)
  replace HBB := hid (HBB.out.later hb HBB.out.lt)
  replace HBP := hid (HBP.out.later hb HBP.out.lt)
  replace HB := hid (b2 HB.out hb)
  clear hb
  have HN := hid (boxes1 u4_ 26 #[.int .i64 q1, .int .i64 q2])
  obtain ⟨u5_, hW⟩ : ∃ z, u4_.alloc (.cells #[.int .i64 q1, .int .i64 q2] 26) = z := ⟨_, rfl⟩
  rw [hW] at HN
  replace HBA := hid (HBA.out.later HN.out.2 HBA.out.lt)
  replace HBB := hid (HBB.out.later HN.out.2 HBB.out.lt)
  replace HBP := hid (HBP.out.later HN.out.2 HBP.out.lt)
  replace HB := hid (b2 HB.out HN.out.2)
  have HBQ := hid HN.out.1
  clear HN
  obtain ⟨cA0, cA1, cA2, cA3, cA4, cA5⟩ := box6 HBA.out (Below.refl _ _)
  obtain ⟨cB0, cB1, cB2, cB3, cB4, cB5⟩ := box6 HBB.out (Below.refl _ _)
  go_wp2_with fail
  clear hW
  refine Calls.mono (HT.out _) ?_
  rintro e u6_ ⟨rfl, hb⟩
  clear cA0 cA1 cA2 cA3 cA4 cA5 cB0 cB1 cB2 cB3 cB4 cB5
  replace HBA := hid (HBA.out.later hb HBA.out.lt)
  replace HBB := hid (HBB.out.later hb HBB.out.lt)
  replace HBP := hid (HBP.out.later hb HBP.out.lt)
  replace HBQ := hid (HBQ.out.later hb HBQ.out.lt)
  replace HB := hid (b2 HB.out hb)
  clear hb
  have oX : w.heap.size ≤ u6_.heap.size := HB.out.size
  have oXA : w.heap.size < u6_.heap.size := HBA.out.lt
  have oXB : w.heap.size + 1 < u6_.heap.size := HBB.out.lt
  have oXP : u2_.heap.size < u6_.heap.size := HBP.out.lt
  have oXQ : u4_.heap.size < u6_.heap.size := HBQ.out.lt
  have HN := hid (boxes1 u6_ 24 #[.int .i8 xx0, .int .i8 xx1, .int .i8 xx2, .int .i8 xx3, .int .i8 xx4, .int .i8 xx5])
  obtain ⟨u7_, hW⟩ : ∃ z, u6_.alloc (.cells #[.int .i8 xx0, .int .i8 xx1, .int .i8 xx2, .int .i8 xx3, .int .i8 xx4, .int .i8 xx5] 24) = z := ⟨_, rfl⟩
  rw [hW] at HN
  replace HBA := hid (HBA.out.later HN.out.2 HBA.out.lt)
  replace HBB := hid (HBB.out.later HN.out.2 HBB.out.lt)
  replace HBP := hid (HBP.out.later HN.out.2 HBP.out.lt)
  replace HBQ := hid (HBQ.out.later HN.out.2 HBQ.out.lt)
  replace HB := hid (b2 HB.out HN.out.2)
  have HBX := hid HN.out.1
  clear HN
  obtain ⟨cX0, cX1, cX2, cX3, cX4, cX5⟩ := box6 HBX.out (Below.refl _ _)
  go_wp2_with fail
  clear hW
  refine Calls.mono (HR.out _) ?_
  rintro e u8_ ⟨rfl, hb⟩
  clear cX0 cX1 cX2 cX3 cX4 cX5
  replace HBA := hid (HBA.out.later hb HBA.out.lt)
  replace HBB := hid (HBB.out.later hb HBB.out.lt)
  replace HBP := hid (HBP.out.later hb HBP.out.lt)
  replace HBQ := hid (HBQ.out.later hb HBQ.out.lt)
  replace HBX := hid (HBX.out.later hb HBX.out.lt)
  replace HB := hid (b2 HB.out hb)
  clear hb
  have oXR : u6_.heap.size < u8_.heap.size := HBX.out.lt
  have HN := hid (boxes1 u8_ 26 #[.int .i64 r1, .int .i64 r2])
  obtain ⟨u9_, hW⟩ : ∃ z, u8_.alloc (.cells #[.int .i64 r1, .int .i64 r2] 26) = z := ⟨_, rfl⟩
  rw [hW] at HN
  replace HBA := hid (HBA.out.later HN.out.2 HBA.out.lt)
  replace HBB := hid (HBB.out.later HN.out.2 HBB.out.lt)
  replace HBP := hid (HBP.out.later HN.out.2 HBP.out.lt)
  replace HBQ := hid (HBQ.out.later HN.out.2 HBQ.out.lt)
  replace HBX := hid (HBX.out.later HN.out.2 HBX.out.lt)
  replace HB := hid (b2 HB.out HN.out.2)
  have HBR := hid HN.out.1
  clear HN
  obtain ⟨cP0, cP1, fP0, fP1⟩ := fbox_facts HBP.out (Below.refl _ _)
  obtain ⟨cQ0, cQ1, fQ0, fQ1⟩ := fbox_facts HBQ.out (Below.refl _ _)
  go_wp2_with fail
  clear hW
  refine Calls.mono (HA.out _) ?_
  rintro e u10_ ⟨rfl, hb⟩
  clear cP0 cP1 fP0 fP1 cQ0 cQ1 fQ0 fQ1
  replace HBA := hid (HBA.out.later hb HBA.out.lt)
  replace HBB := hid (HBB.out.later hb HBB.out.lt)
  replace HBP := hid (HBP.out.later hb HBP.out.lt)
  replace HBQ := hid (HBQ.out.later hb HBQ.out.lt)
  replace HBX := hid (HBX.out.later hb HBX.out.lt)
  replace HBR := hid (HBR.out.later hb HBR.out.lt)
  replace HB := hid (b2 HB.out hb)
  clear hb
  have oXS : u6_.heap.size < u10_.heap.size := HBX.out.lt
  have HN := hid (boxes1 u10_ 26 #[.int .i64 r1, .int .i64 r2])
  obtain ⟨u11_, hW⟩ : ∃ z, u10_.alloc (.cells #[.int .i64 r1, .int .i64 r2] 26) = z := ⟨_, rfl⟩
  rw [hW] at HN
  replace HBA := hid (HBA.out.later HN.out.2 HBA.out.lt)
  replace HBB := hid (HBB.out.later HN.out.2 HBB.out.lt)
  replace HBP := hid (HBP.out.later HN.out.2 HBP.out.lt)
  replace HBQ := hid (HBQ.out.later HN.out.2 HBQ.out.lt)
  replace HBX := hid (HBX.out.later HN.out.2 HBX.out.lt)
  replace HBR := hid (HBR.out.later HN.out.2 HBR.out.lt)
  replace HB := hid (b2 HB.out HN.out.2)
  have HBS := hid HN.out.1
  clear HN
  obtain ⟨cR0, cR1, fR0, fR1⟩ := fbox_facts HBR.out (Below.refl _ _)
  obtain ⟨cS0, cS1, fS0, fS1⟩ := fbox_facts HBS.out (Below.refl _ _)
  obtain ⟨cA0, cA1, cA2, cA3, cA4, cA5⟩ := box6 HBA.out (Below.refl _ _)
  obtain ⟨cB0, cB1, cB2, cB3, cB4, cB5⟩ := box6 HBB.out (Below.refl _ _)
  go_wp2_with fail
  clear hW
  refine Calls.mono (HO.out _) ?_
  rintro e u12_ ⟨rfl, hb⟩
  clear cR0 cR1 fR0 fR1 cS0 cS1 fS0 fS1 cA0 cA1 cA2 cA3 cA4 cA5 cB0 cB1 cB2 cB3 cB4 cB5
  replace HBA := hid (HBA.out.later hb HBA.out.lt)
  replace HBB := hid (HBB.out.later hb HBB.out.lt)
  replace HBP := hid (HBP.out.later hb HBP.out.lt)
  replace HBQ := hid (HBQ.out.later hb HBQ.out.lt)
  replace HBX := hid (HBX.out.later hb HBX.out.lt)
  replace HBR := hid (HBR.out.later hb HBR.out.lt)
  replace HBS := hid (HBS.out.later hb HBS.out.lt)
  replace HB := hid (b2 HB.out hb)
  clear hb
  have lA := HBA.out.lt
  have lB := HBB.out.lt
  have lP := HBP.out.lt
  have lQ := HBQ.out.lt
  have lX := HBX.out.lt
  have lR := HBR.out.lt
  have lS := HBS.out.lt
  obtain ⟨kX0, kX1, kX2, kX3, kX4, kX5⟩ := box6 HBX.out (Below.refl _ _)
  obtain ⟨fX0, fX1, fX2, fX3, fX4, fX5⟩ := free6 HBX.out (Below.refl _ _)
  have HTA_ := hid (HBA.out.off6 (show w.heap.size ≠ u6_.heap.size by omega) (.int .i8 yy0) (.int .i8 yy1) (.int .i8 yy2) (.int .i8 yy3) (.int .i8 yy4) (.int .i8 yy5))
  have HTB_ := hid (HBB.out.off6 (show w.heap.size + 1 ≠ u6_.heap.size by omega) (.int .i8 yy0) (.int .i8 yy1) (.int .i8 yy2) (.int .i8 yy3) (.int .i8 yy4) (.int .i8 yy5))
  have HTP_ := hid (HBP.out.off6 (show u2_.heap.size ≠ u6_.heap.size by omega) (.int .i8 yy0) (.int .i8 yy1) (.int .i8 yy2) (.int .i8 yy3) (.int .i8 yy4) (.int .i8 yy5))
  have HTQ_ := hid (HBQ.out.off6 (show u4_.heap.size ≠ u6_.heap.size by omega) (.int .i8 yy0) (.int .i8 yy1) (.int .i8 yy2) (.int .i8 yy3) (.int .i8 yy4) (.int .i8 yy5))
  have HTR_ := hid (HBR.out.off6 (show u8_.heap.size ≠ u6_.heap.size by omega) (.int .i8 yy0) (.int .i8 yy1) (.int .i8 yy2) (.int .i8 yy3) (.int .i8 yy4) (.int .i8 yy5))
  have HTS_ := hid (HBS.out.off6 (show u10_.heap.size ≠ u6_.heap.size by omega) (.int .i8 yy0) (.int .i8 yy1) (.int .i8 yy2) (.int .i8 yy3) (.int .i8 yy4) (.int .i8 yy5))
  have HTX_ := hid (HBX.out.put6 (.int .i8 yy0) (.int .i8 yy1) (.int .i8 yy2) (.int .i8 yy3) (.int .i8 yy4) (.int .i8 yy5))
  have HT_ := hid (dput6 HB.out u6_.heap.size (by omega) (.int .i8 yy0) (.int .i8 yy1) (.int .i8 yy2) (.int .i8 yy3) (.int .i8 yy4) (.int .i8 yy5))
  obtain ⟨u13_, hW⟩ : ∃ z, ((((((u12_.setCell ⟨u6_.heap.size, 0, none⟩ (.int .i8 yy0)).setCell ⟨u6_.heap.size, 1, none⟩ (.int .i8 yy1)).setCell ⟨u6_.heap.size, 2, none⟩ (.int .i8 yy2)).setCell ⟨u6_.heap.size, 3, none⟩ (.int .i8 yy3)).setCell ⟨u6_.heap.size, 4, none⟩ (.int .i8 yy4)).setCell ⟨u6_.heap.size, 5, none⟩ (.int .i8 yy5)) = z := ⟨_, rfl⟩
  rw [hW] at HT_ HTA_ HTB_ HTP_ HTQ_ HTX_ HTR_ HTS_
  clear HB HBA HBB HBP HBQ HBX HBR HBS
  have HB := HT_
  have HBA := HTA_
  have HBB := HTB_
  have HBP := HTP_
  have HBQ := HTQ_
  have HBX := HTX_
  have HBR := HTR_
  have HBS := HTS_
  clear HT_ HTA_ HTB_ HTP_ HTQ_ HTX_ HTR_ HTS_
  obtain ⟨cX0, cX1, cX2, cX3, cX4, cX5⟩ := box6 HBX.out (Below.refl _ _)
  go_wp2_with fail
  clear kX0 kX1 kX2 kX3 kX4 kX5 fX0 fX1 fX2 fX3 fX4 fX5 cX0 cX1 cX2 cX3 cX4 cX5
  clear hW
  refine Calls.mono (HG.out _) ?_
  rintro e u14_ ⟨rfl, hb⟩
  replace HBA := hid (HBA.out.later hb HBA.out.lt)
  replace HBB := hid (HBB.out.later hb HBB.out.lt)
  replace HBP := hid (HBP.out.later hb HBP.out.lt)
  replace HBQ := hid (HBQ.out.later hb HBQ.out.lt)
  replace HBX := hid (HBX.out.later hb HBX.out.lt)
  replace HBR := hid (HBR.out.later hb HBR.out.lt)
  replace HBS := hid (HBS.out.later hb HBS.out.lt)
  replace HB := hid (b2 HB.out hb)
  clear hb
  have oXG : u6_.heap.size < u14_.heap.size := HBX.out.lt
  have HN := hid (boxes1 u14_ 26 #[.int .i64 g1, .int .i64 g2])
  obtain ⟨u15_, hW⟩ : ∃ z, u14_.alloc (.cells #[.int .i64 g1, .int .i64 g2] 26) = z := ⟨_, rfl⟩
  rw [hW] at HN
  replace HBA := hid (HBA.out.later HN.out.2 HBA.out.lt)
  replace HBB := hid (HBB.out.later HN.out.2 HBB.out.lt)
  replace HBP := hid (HBP.out.later HN.out.2 HBP.out.lt)
  replace HBQ := hid (HBQ.out.later HN.out.2 HBQ.out.lt)
  replace HBX := hid (HBX.out.later HN.out.2 HBX.out.lt)
  replace HBR := hid (HBR.out.later HN.out.2 HBR.out.lt)
  replace HBS := hid (HBS.out.later HN.out.2 HBS.out.lt)
  replace HB := hid (b2 HB.out HN.out.2)
  have HBG := hid HN.out.1
  clear HN
  obtain ⟨cP0, cP1, fP0, fP1⟩ := fbox_facts HBP.out (Below.refl _ _)
  obtain ⟨cQ0, cQ1, fQ0, fQ1⟩ := fbox_facts HBQ.out (Below.refl _ _)
  go_wp2_with fail
  clear hW
  refine Calls.mono (HS.out _) ?_
  rintro e u16_ ⟨rfl, hb⟩
  clear cP0 cP1 fP0 fP1 cQ0 cQ1 fQ0 fQ1
  replace HBA := hid (HBA.out.later hb HBA.out.lt)
  replace HBB := hid (HBB.out.later hb HBB.out.lt)
  replace HBP := hid (HBP.out.later hb HBP.out.lt)
  replace HBQ := hid (HBQ.out.later hb HBQ.out.lt)
  replace HBX := hid (HBX.out.later hb HBX.out.lt)
  replace HBR := hid (HBR.out.later hb HBR.out.lt)
  replace HBS := hid (HBS.out.later hb HBS.out.lt)
  replace HBG := hid (HBG.out.later hb HBG.out.lt)
  replace HB := hid (b2 HB.out hb)
  clear hb
  have oXH : u6_.heap.size < u16_.heap.size := HBX.out.lt
  have HN := hid (boxes1 u16_ 26 #[.int .i64 g1, .int .i64 g2])
  obtain ⟨u17_, hW⟩ : ∃ z, u16_.alloc (.cells #[.int .i64 g1, .int .i64 g2] 26) = z := ⟨_, rfl⟩
  rw [hW] at HN
  replace HBA := hid (HBA.out.later HN.out.2 HBA.out.lt)
  replace HBB := hid (HBB.out.later HN.out.2 HBB.out.lt)
  replace HBP := hid (HBP.out.later HN.out.2 HBP.out.lt)
  replace HBQ := hid (HBQ.out.later HN.out.2 HBQ.out.lt)
  replace HBX := hid (HBX.out.later HN.out.2 HBX.out.lt)
  replace HBR := hid (HBR.out.later HN.out.2 HBR.out.lt)
  replace HBS := hid (HBS.out.later HN.out.2 HBS.out.lt)
  replace HBG := hid (HBG.out.later HN.out.2 HBG.out.lt)
  replace HB := hid (b2 HB.out HN.out.2)
  have HBH := hid HN.out.1
  clear HN
  obtain ⟨cG0, cG1, fG0, fG1⟩ := fbox_facts HBG.out (Below.refl _ _)
  obtain ⟨cH0, cH1, fH0, fH1⟩ := fbox_facts HBH.out (Below.refl _ _)
  obtain ⟨cA0, cA1, cA2, cA3, cA4, cA5⟩ := box6 HBA.out (Below.refl _ _)
  go_wp2_with fail
  clear hW
  refine Calls.mono (HC.out _) ?_
  rintro e u18_ ⟨rfl, hb⟩
  clear cG0 cG1 fG0 fG1 cH0 cH1 fH0 fH1 cA0 cA1 cA2 cA3 cA4 cA5
  replace HBA := hid (HBA.out.later hb HBA.out.lt)
  replace HBB := hid (HBB.out.later hb HBB.out.lt)
  replace HBP := hid (HBP.out.later hb HBP.out.lt)
  replace HBQ := hid (HBQ.out.later hb HBQ.out.lt)
  replace HBX := hid (HBX.out.later hb HBX.out.lt)
  replace HBR := hid (HBR.out.later hb HBR.out.lt)
  replace HBS := hid (HBS.out.later hb HBS.out.lt)
  replace HBG := hid (HBG.out.later hb HBG.out.lt)
  replace HBH := hid (HBH.out.later hb HBH.out.lt)
  replace HB := hid (b2 HB.out hb)
  clear hb
  have oXC : u6_.heap.size < u18_.heap.size := HBX.out.lt
  have HN := hid (boxes1 u18_ 24 #[.int .i8 cc0, .int .i8 cc1, .int .i8 cc2, .int .i8 cc3, .int .i8 cc4, .int .i8 cc5])
  obtain ⟨u19_, hW⟩ : ∃ z, u18_.alloc (.cells #[.int .i8 cc0, .int .i8 cc1, .int .i8 cc2, .int .i8 cc3, .int .i8 cc4, .int .i8 cc5] 24) = z := ⟨_, rfl⟩
  rw [hW] at HN
  replace HBA := hid (HBA.out.later HN.out.2 HBA.out.lt)
  replace HBB := hid (HBB.out.later HN.out.2 HBB.out.lt)
  replace HBP := hid (HBP.out.later HN.out.2 HBP.out.lt)
  replace HBQ := hid (HBQ.out.later HN.out.2 HBQ.out.lt)
  replace HBX := hid (HBX.out.later HN.out.2 HBX.out.lt)
  replace HBR := hid (HBR.out.later HN.out.2 HBR.out.lt)
  replace HBS := hid (HBS.out.later HN.out.2 HBS.out.lt)
  replace HBG := hid (HBG.out.later HN.out.2 HBG.out.lt)
  replace HBH := hid (HBH.out.later HN.out.2 HBH.out.lt)
  replace HB := hid (b2 HB.out HN.out.2)
  have HBC := hid HN.out.1
  clear HN
  obtain ⟨cC0, cC1, cC2, cC3, cC4, cC5⟩ := box6 HBC.out (Below.refl _ _)
  go_wp2_with fail
  clear hW
  refine Calls.mono (HM.out _) ?_
  rintro e u20_ ⟨rfl, hb⟩
  clear cC0 cC1 cC2 cC3 cC4 cC5
  replace HBA := hid (HBA.out.later hb HBA.out.lt)
  replace HBB := hid (HBB.out.later hb HBB.out.lt)
  replace HBP := hid (HBP.out.later hb HBP.out.lt)
  replace HBQ := hid (HBQ.out.later hb HBQ.out.lt)
  replace HBX := hid (HBX.out.later hb HBX.out.lt)
  replace HBR := hid (HBR.out.later hb HBR.out.lt)
  replace HBS := hid (HBS.out.later hb HBS.out.lt)
  replace HBG := hid (HBG.out.later hb HBG.out.lt)
  replace HBH := hid (HBH.out.later hb HBH.out.lt)
  replace HBC := hid (HBC.out.later hb HBC.out.lt)
  replace HB := hid (b2 HB.out hb)
  clear hb
  have oXM : u6_.heap.size < u20_.heap.size := HBX.out.lt
  have HN := hid (boxes1 u20_ 26 #[.int .i64 m1, .int .i64 m2])
  obtain ⟨u21_, hW⟩ : ∃ z, u20_.alloc (.cells #[.int .i64 m1, .int .i64 m2] 26) = z := ⟨_, rfl⟩
  rw [hW] at HN
  replace HBA := hid (HBA.out.later HN.out.2 HBA.out.lt)
  replace HBB := hid (HBB.out.later HN.out.2 HBB.out.lt)
  replace HBP := hid (HBP.out.later HN.out.2 HBP.out.lt)
  replace HBQ := hid (HBQ.out.later HN.out.2 HBQ.out.lt)
  replace HBX := hid (HBX.out.later HN.out.2 HBX.out.lt)
  replace HBR := hid (HBR.out.later HN.out.2 HBR.out.lt)
  replace HBS := hid (HBS.out.later HN.out.2 HBS.out.lt)
  replace HBG := hid (HBG.out.later HN.out.2 HBG.out.lt)
  replace HBH := hid (HBH.out.later HN.out.2 HBH.out.lt)
  replace HBC := hid (HBC.out.later HN.out.2 HBC.out.lt)
  replace HB := hid (b2 HB.out HN.out.2)
  have HBM := hid HN.out.1
  clear HN
  obtain ⟨cP0, cP1, fP0, fP1⟩ := fbox_facts HBP.out (Below.refl _ _)
  go_wp2_with fail
  clear hW
  refine Calls.mono (HN1.out _) ?_
  rintro e u22_ ⟨rfl, hb⟩
  clear cP0 cP1 fP0 fP1
  replace HBA := hid (HBA.out.later hb HBA.out.lt)
  replace HBB := hid (HBB.out.later hb HBB.out.lt)
  replace HBP := hid (HBP.out.later hb HBP.out.lt)
  replace HBQ := hid (HBQ.out.later hb HBQ.out.lt)
  replace HBX := hid (HBX.out.later hb HBX.out.lt)
  replace HBR := hid (HBR.out.later hb HBR.out.lt)
  replace HBS := hid (HBS.out.later hb HBS.out.lt)
  replace HBG := hid (HBG.out.later hb HBG.out.lt)
  replace HBH := hid (HBH.out.later hb HBH.out.lt)
  replace HBC := hid (HBC.out.later hb HBC.out.lt)
  replace HBM := hid (HBM.out.later hb HBM.out.lt)
  replace HB := hid (b2 HB.out hb)
  clear hb
  have oXN : u6_.heap.size < u22_.heap.size := HBX.out.lt
  have HN := hid (boxes1 u22_ 26 #[.int .i64 m1, .int .i64 m2])
  obtain ⟨u23_, hW⟩ : ∃ z, u22_.alloc (.cells #[.int .i64 m1, .int .i64 m2] 26) = z := ⟨_, rfl⟩
  rw [hW] at HN
  replace HBA := hid (HBA.out.later HN.out.2 HBA.out.lt)
  replace HBB := hid (HBB.out.later HN.out.2 HBB.out.lt)
  replace HBP := hid (HBP.out.later HN.out.2 HBP.out.lt)
  replace HBQ := hid (HBQ.out.later HN.out.2 HBQ.out.lt)
  replace HBX := hid (HBX.out.later HN.out.2 HBX.out.lt)
  replace HBR := hid (HBR.out.later HN.out.2 HBR.out.lt)
  replace HBS := hid (HBS.out.later HN.out.2 HBS.out.lt)
  replace HBG := hid (HBG.out.later HN.out.2 HBG.out.lt)
  replace HBH := hid (HBH.out.later HN.out.2 HBH.out.lt)
  replace HBC := hid (HBC.out.later HN.out.2 HBC.out.lt)
  replace HBM := hid (HBM.out.later HN.out.2 HBM.out.lt)
  replace HB := hid (b2 HB.out HN.out.2)
  have HBN := hid HN.out.1
  clear HN
  obtain ⟨cM0, cM1, fM0, fM1⟩ := fbox_facts HBM.out (Below.refl _ _)
  obtain ⟨cN0, cN1, fN0, fN1⟩ := fbox_facts HBN.out (Below.refl _ _)
  by_cases hlt : t < 1048576
  · obtain ⟨x1, x2, HX1, HX2⟩ := HX.out hlt
    have HY1 := hid HX1
    have HY2 := hid HX2
    clear HX1 HX2 HX
    have e1 : IntKind.i64.wrap ((t : Int) + 1) = (t : Int) + 1 := by rw [IntKind.wrap_i64]; omega
    have h1 : (t : Int) < 1048576 := by omega
    clear hlt ht
    generalize (t : Int) = ti at *
    obtain ⟨cA0, cA1, cA2, cA3, cA4, cA5⟩ := box6 HBA.out (Below.refl _ _)
    go_wp2_with fail
    clear hW
    refine Calls.mono (HY1.out _) ?_
    rintro e u24_ ⟨rfl, hb⟩
    clear cM0 cM1 fM0 fM1 cN0 cN1 fN0 fN1 cA0 cA1 cA2 cA3 cA4 cA5
    replace HBA := hid (HBA.out.later hb HBA.out.lt)
    replace HBB := hid (HBB.out.later hb HBB.out.lt)
    replace HBP := hid (HBP.out.later hb HBP.out.lt)
    replace HBQ := hid (HBQ.out.later hb HBQ.out.lt)
    replace HBX := hid (HBX.out.later hb HBX.out.lt)
    replace HBR := hid (HBR.out.later hb HBR.out.lt)
    replace HBS := hid (HBS.out.later hb HBS.out.lt)
    replace HBG := hid (HBG.out.later hb HBG.out.lt)
    replace HBH := hid (HBH.out.later hb HBH.out.lt)
    replace HBC := hid (HBC.out.later hb HBC.out.lt)
    replace HBM := hid (HBM.out.later hb HBM.out.lt)
    replace HBN := hid (HBN.out.later hb HBN.out.lt)
    replace HB := hid (b2 HB.out hb)
    clear hb
    have oXY : u6_.heap.size < u24_.heap.size := HBX.out.lt
    have HN := hid (boxes1 u24_ 26 #[.int .i64 x1, .int .i64 x2])
    obtain ⟨u25_, hW⟩ : ∃ z, u24_.alloc (.cells #[.int .i64 x1, .int .i64 x2] 26) = z := ⟨_, rfl⟩
    rw [hW] at HN
    replace HBA := hid (HBA.out.later HN.out.2 HBA.out.lt)
    replace HBB := hid (HBB.out.later HN.out.2 HBB.out.lt)
    replace HBP := hid (HBP.out.later HN.out.2 HBP.out.lt)
    replace HBQ := hid (HBQ.out.later HN.out.2 HBQ.out.lt)
    replace HBX := hid (HBX.out.later HN.out.2 HBX.out.lt)
    replace HBR := hid (HBR.out.later HN.out.2 HBR.out.lt)
    replace HBS := hid (HBS.out.later HN.out.2 HBS.out.lt)
    replace HBG := hid (HBG.out.later HN.out.2 HBG.out.lt)
    replace HBH := hid (HBH.out.later HN.out.2 HBH.out.lt)
    replace HBC := hid (HBC.out.later HN.out.2 HBC.out.lt)
    replace HBM := hid (HBM.out.later HN.out.2 HBM.out.lt)
    replace HBN := hid (HBN.out.later HN.out.2 HBN.out.lt)
    replace HB := hid (b2 HB.out HN.out.2)
    have HBY := hid HN.out.1
    clear HN
    obtain ⟨cA0, cA1, cA2, cA3, cA4, cA5⟩ := box6 HBA.out (Below.refl _ _)
    go_wp2_with fail
    clear hW
    refine Calls.mono (HV.out _) ?_
    rintro e u26_ ⟨rfl, hb⟩
    clear cA0 cA1 cA2 cA3 cA4 cA5
    replace HBA := hid (HBA.out.later hb HBA.out.lt)
    replace HBB := hid (HBB.out.later hb HBB.out.lt)
    replace HBP := hid (HBP.out.later hb HBP.out.lt)
    replace HBQ := hid (HBQ.out.later hb HBQ.out.lt)
    replace HBX := hid (HBX.out.later hb HBX.out.lt)
    replace HBR := hid (HBR.out.later hb HBR.out.lt)
    replace HBS := hid (HBS.out.later hb HBS.out.lt)
    replace HBG := hid (HBG.out.later hb HBG.out.lt)
    replace HBH := hid (HBH.out.later hb HBH.out.lt)
    replace HBC := hid (HBC.out.later hb HBC.out.lt)
    replace HBM := hid (HBM.out.later hb HBM.out.lt)
    replace HBN := hid (HBN.out.later hb HBN.out.lt)
    replace HBY := hid (HBY.out.later hb HBY.out.lt)
    replace HB := hid (b2 HB.out hb)
    clear hb
    have oXV : u6_.heap.size < u26_.heap.size := HBX.out.lt
    have HN := hid (boxes1 u26_ 26 #[.int .i64 v1, .int .i64 v2])
    obtain ⟨u27_, hW⟩ : ∃ z, u26_.alloc (.cells #[.int .i64 v1, .int .i64 v2] 26) = z := ⟨_, rfl⟩
    rw [hW] at HN
    replace HBA := hid (HBA.out.later HN.out.2 HBA.out.lt)
    replace HBB := hid (HBB.out.later HN.out.2 HBB.out.lt)
    replace HBP := hid (HBP.out.later HN.out.2 HBP.out.lt)
    replace HBQ := hid (HBQ.out.later HN.out.2 HBQ.out.lt)
    replace HBX := hid (HBX.out.later HN.out.2 HBX.out.lt)
    replace HBR := hid (HBR.out.later HN.out.2 HBR.out.lt)
    replace HBS := hid (HBS.out.later HN.out.2 HBS.out.lt)
    replace HBG := hid (HBG.out.later HN.out.2 HBG.out.lt)
    replace HBH := hid (HBH.out.later HN.out.2 HBH.out.lt)
    replace HBC := hid (HBC.out.later HN.out.2 HBC.out.lt)
    replace HBM := hid (HBM.out.later HN.out.2 HBM.out.lt)
    replace HBN := hid (HBN.out.later HN.out.2 HBN.out.lt)
    replace HBY := hid (HBY.out.later HN.out.2 HBY.out.lt)
    replace HB := hid (b2 HB.out HN.out.2)
    have HBV := hid HN.out.1
    clear HN
    obtain ⟨cP0, cP1, fP0, fP1⟩ := fbox_facts HBP.out (Below.refl _ _)
    obtain ⟨cV0, cV1, fV0, fV1⟩ := fbox_facts HBV.out (Below.refl _ _)
    go_wp2_with fail
    clear hW
    refine Calls.mono (HY2.out _) ?_
    rintro e u28_ ⟨rfl, hb⟩
    clear cP0 cP1 fP0 fP1 cV0 cV1 fV0 fV1
    replace HBA := hid (HBA.out.later hb HBA.out.lt)
    replace HBB := hid (HBB.out.later hb HBB.out.lt)
    replace HBP := hid (HBP.out.later hb HBP.out.lt)
    replace HBQ := hid (HBQ.out.later hb HBQ.out.lt)
    replace HBX := hid (HBX.out.later hb HBX.out.lt)
    replace HBR := hid (HBR.out.later hb HBR.out.lt)
    replace HBS := hid (HBS.out.later hb HBS.out.lt)
    replace HBG := hid (HBG.out.later hb HBG.out.lt)
    replace HBH := hid (HBH.out.later hb HBH.out.lt)
    replace HBC := hid (HBC.out.later hb HBC.out.lt)
    replace HBM := hid (HBM.out.later hb HBM.out.lt)
    replace HBN := hid (HBN.out.later hb HBN.out.lt)
    replace HBY := hid (HBY.out.later hb HBY.out.lt)
    replace HBV := hid (HBV.out.later hb HBV.out.lt)
    replace HB := hid (b2 HB.out hb)
    clear hb
    have oXZ : u6_.heap.size < u28_.heap.size := HBX.out.lt
    have HN := hid (boxes1 u28_ 26 #[.int .i64 x1, .int .i64 x2])
    obtain ⟨u29_, hW⟩ : ∃ z, u28_.alloc (.cells #[.int .i64 x1, .int .i64 x2] 26) = z := ⟨_, rfl⟩
    rw [hW] at HN
    replace HBA := hid (HBA.out.later HN.out.2 HBA.out.lt)
    replace HBB := hid (HBB.out.later HN.out.2 HBB.out.lt)
    replace HBP := hid (HBP.out.later HN.out.2 HBP.out.lt)
    replace HBQ := hid (HBQ.out.later HN.out.2 HBQ.out.lt)
    replace HBX := hid (HBX.out.later HN.out.2 HBX.out.lt)
    replace HBR := hid (HBR.out.later HN.out.2 HBR.out.lt)
    replace HBS := hid (HBS.out.later HN.out.2 HBS.out.lt)
    replace HBG := hid (HBG.out.later HN.out.2 HBG.out.lt)
    replace HBH := hid (HBH.out.later HN.out.2 HBH.out.lt)
    replace HBC := hid (HBC.out.later HN.out.2 HBC.out.lt)
    replace HBM := hid (HBM.out.later HN.out.2 HBM.out.lt)
    replace HBN := hid (HBN.out.later HN.out.2 HBN.out.lt)
    replace HBY := hid (HBY.out.later HN.out.2 HBY.out.lt)
    replace HBV := hid (HBV.out.later HN.out.2 HBV.out.lt)
    replace HB := hid (b2 HB.out HN.out.2)
    have HBZ := hid HN.out.1
    clear HN
    obtain ⟨cY0, cY1, fY0, fY1⟩ := fbox_facts HBY.out (Below.refl _ _)
    obtain ⟨cZ0, cZ1, fZ0, fZ1⟩ := fbox_facts HBZ.out (Below.refl _ _)
    go_wp2_with fail
    all_goals first | (go_ret; exact ⟨rfl, HB.out⟩) | (go_ret; exact ⟨rfl, HB.out.drew⟩)
  · have h1 : ¬ (t : Int) < 1048576 := by omega
    clear hlt ht HX
    generalize (t : Int) = ti at *
    go_wp2_with fail
    all_goals first | (go_ret; exact ⟨rfl, HB.out⟩) | (go_ret; exact ⟨rfl, HB.out.drew⟩)

set_option maxHeartbeats 3200000 in
set_option maxRecDepth 100000 in
theorem dogroup_10 (a b : Nat → Int) (t : Nat) (w : World) (ha : dOK a) (hb : dOK b) (ht : t ≤ 1048576) (hT : dOK (dJ a b 1)) (hO : ¬ dOK (dJ a b (-1))) :
    Calls Try.prog 4 #[.agg (doA a), .agg (doA b), .int .i64 (t : Int)] w fun e w' => e = .returned (.bool true) ∧ Below w.heap.size w w' := by
  have HL := hid (fun V => dolives_any V)
  have HP := hid (fun V => dophase_ok a t V ha ht)
  obtain ⟨p1, p2, ep, op, _⟩ := circ_told (dU a t)
  rw [ep, show tV (p1, p2, 0) = Value.tuple #[.agg #[.int .i64 p1, .int .i64 p2], .int .i64 0] from rfl] at HP
  have HQ := hid (fun V => dophase_ok b t V hb ht)
  obtain ⟨q1, q2, eq, oq, _⟩ := circ_told (dU b t)
  rw [eq, show tV (q1, q2, 0) = Value.tuple #[.agg #[.int .i64 q1, .int .i64 q2], .int .i64 0] from rfl] at HQ
  have HT := hid (fun V => dotimes_any a b V)
  have HO := hid (fun V => doover_any a b V)
  rw [dJR_ok ⟨ha, hb, hT⟩] at HT
  have HR := hid (fun V => dophase_ok (dJ a b 1) t V hT ht)
  obtain ⟨r1, r2, er, or, _⟩ := circ_told (dU (dJ a b 1) t)
  rw [er, show tV (r1, r2, 0) = Value.tuple #[.agg #[.int .i64 r1, .int .i64 r2], .int .i64 0] from rfl] at HR
  have HA := hid (fun V => tadd_any p1 p2 q1 q2 V (dok_in op) (dok_in oq))
  rw [add_circ ep eq, ← dJ_plus, er, show tV (r1, r2, 0) = Value.tuple #[.agg #[.int .i64 r1, .int .i64 r2], .int .i64 0] from rfl] at HA
  rw [dJR_no (fun h => hO h.2.2)] at HO
  have HC := hid (fun V => doconj_any a V)
  rw [dJR_ok ⟨fun _ _ => ⟨by decide, by decide⟩, ha, dJ_back_ok ha⟩] at HC
  have HM := hid (fun V => dophase_ok (dJ (fun _ => 0) a (-1)) t V (dJ_back_ok ha) ht)
  obtain ⟨m1, m2, em, om, _⟩ := circ_told (dU (dJ (fun _ => 0) a (-1)) t)
  rw [em, show tV (m1, m2, 0) = Value.tuple #[.agg #[.int .i64 m1, .int .i64 m2], .int .i64 0] from rfl] at HM
  have HN1 := hid (fun V => tneg_any p1 p2 V (dok_in op))
  rw [neg_circ ep, ← dJ_back, em, show tV (m1, m2, 0) = Value.tuple #[.agg #[.int .i64 m1, .int .i64 m2], .int .i64 0] from rfl] at HN1
  have HV := hid (fun V => dospeed_ok a V ha)
  obtain ⟨v1, v2, ev, ov, _⟩ := circ_told (dV a)
  rw [ev, show tV (v1, v2, 0) = Value.tuple #[.agg #[.int .i64 v1, .int .i64 v2], .int .i64 0] from rfl] at HV
  have HX : Hid (t < 1048576 → ∃ x1 x2 : Int, (∀ V, Calls Try.prog 7 #[.agg (doA a), .int .i64 ((t : Int) + 1)] V fun e w' => e = .returned (.tuple #[.agg #[.int .i64 x1, .int .i64 x2], .int .i64 0]) ∧ Below V.heap.size V w') ∧ (∀ V, Calls Try.prog 24 #[.agg #[.int .i64 p1, .int .i64 p2], .agg #[.int .i64 v1, .int .i64 v2]] V fun e w' => e = .returned (.tuple #[.agg #[.int .i64 x1, .int .i64 x2], .int .i64 0]) ∧ Below V.heap.size V w')) := fun hlt => by
    obtain ⟨x1, x2, ex, ox, _⟩ := circ_told (dU a (t + 1))
    refine ⟨x1, x2, fun V => ?_, fun V => ?_⟩
    · have e := dophase_ok a (t + 1) V ha hlt
      rw [ex, show tV (x1, x2, 0) = Value.tuple #[.agg #[.int .i64 x1, .int .i64 x2], .int .i64 0] from rfl] at e
      exact e
    · have e := tadd_any p1 p2 v1 v2 V (dok_in op) (dok_in ov)
      rw [add_circ ep ev, ← dU_next, ex, show tV (x1, x2, 0) = Value.tuple #[.agg #[.int .i64 x1, .int .i64 x2], .int .i64 0] from rfl] at e
      exact e
  clear ep op eq oq ev ov em om ha hb hT hO
  clear er or
  have HB0 := hid (dboxes2 w 24 24 (doA a) (doA b))
  obtain ⟨X, hW⟩ : ∃ X, (w.alloc (.cells (doA a) 24)).alloc (.cells (doA b) 24) = X := ⟨_, rfl⟩
  rw [hW] at HB0
  unfold doA at *
  generalize a 0 = aa0 at *
  generalize a 1 = aa1 at *
  generalize a 2 = aa2 at *
  generalize a 3 = aa3 at *
  generalize a 4 = aa4 at *
  generalize a 5 = aa5 at *
  generalize b 0 = bb0 at *
  generalize b 1 = bb1 at *
  generalize b 2 = bb2 at *
  generalize b 3 = bb3 at *
  generalize b 4 = bb4 at *
  generalize b 5 = bb5 at *
  generalize dJ a b 1 0 = xx0 at *
  generalize dJ a b 1 1 = xx1 at *
  generalize dJ a b 1 2 = xx2 at *
  generalize dJ a b 1 3 = xx3 at *
  generalize dJ a b 1 4 = xx4 at *
  generalize dJ a b 1 5 = xx5 at *
  generalize dJ (fun _ => 0) a (-1) 0 = cc0 at *
  generalize dJ (fun _ => 0) a (-1) 1 = cc1 at *
  generalize dJ (fun _ => 0) a (-1) 2 = cc2 at *
  generalize dJ (fun _ => 0) a (-1) 3 = cc3 at *
  generalize dJ (fun _ => 0) a (-1) 4 = cc4 at *
  generalize dJ (fun _ => 0) a (-1) 5 = cc5 at *
  obtain ⟨yy0, yy1, yy2, yy3, yy4, yy5, HZy⟩ : ∃ yy0 yy1 yy2 yy3 yy4 yy5 : Int, Hid (yy0 = 0 ∧ yy1 = 0 ∧ yy2 = 0 ∧ yy3 = 0 ∧ yy4 = 0 ∧ yy5 = 0) := ⟨_, _, _, _, _, _, ⟨rfl, rfl, rfl, rfl, rfl, rfl⟩⟩
  have hZ : (#[.int .i8 0, .int .i8 0, .int .i8 0, .int .i8 0, .int .i8 0, .int .i8 0] : Array Value) = #[.int .i8 yy0, .int .i8 yy1, .int .i8 yy2, .int .i8 yy3, .int .i8 yy4, .int .i8 yy5] := by obtain ⟨rfl, rfl, rfl, rfl, rfl, rfl⟩ := HZy.out; rfl
  rw [hZ] at HO
  clear hZ HZy
  have HBA := hid HB0.out.1
  have HBB := hid HB0.out.2.1
  have HB := hid HB0.out.2.2
  clear HB0
  go_enter Try.func4, Try.ntmps4
  go_wp2_with fail
  clear hW
  refine Calls.mono (HL.out _) ?_
  rintro e u1_ ⟨rfl, hb⟩
  replace HBA := hid (HBA.out.later hb HBA.out.lt)
  replace HBB := hid (HBB.out.later hb HBB.out.lt)
  replace HB := hid (b2 HB.out hb)
  clear hb
  obtain ⟨cA0, cA1, cA2, cA3, cA4, cA5⟩ := box6 HBA.out (Below.refl _ _)
  go_wp2_with fail
  refine Calls.mono (HP.out _) ?_
  rintro e u2_ ⟨rfl, hb⟩
  clear cA0 cA1 cA2 cA3 cA4 cA5
  replace HBA := hid (HBA.out.later hb HBA.out.lt)
  replace HBB := hid (HBB.out.later hb HBB.out.lt)
  replace HB := hid (b2 HB.out hb)
  clear hb
  have HN := hid (boxes1 u2_ 26 #[.int .i64 p1, .int .i64 p2])
  obtain ⟨u3_, hW⟩ : ∃ z, u2_.alloc (.cells #[.int .i64 p1, .int .i64 p2] 26) = z := ⟨_, rfl⟩
  rw [hW] at HN
  replace HBA := hid (HBA.out.later HN.out.2 HBA.out.lt)
  replace HBB := hid (HBB.out.later HN.out.2 HBB.out.lt)
  replace HB := hid (b2 HB.out HN.out.2)
  have HBP := hid HN.out.1
  clear HN
  obtain ⟨cB0, cB1, cB2, cB3, cB4, cB5⟩ := box6 HBB.out (Below.refl _ _)
  go_wp2_with fail
  clear hW
  refine Calls.mono (HQ.out _) ?_
  rintro e u4_ ⟨rfl, hb⟩
  clear cB0 cB1 cB2 cB3 cB4 cB5
  replace HBA := hid (HBA.out.later hb HBA.out.lt)
  replace HBB := hid (HBB.out.later hb HBB.out.lt)
  replace HBP := hid (HBP.out.later hb HBP.out.lt)
  replace HB := hid (b2 HB.out hb)
  clear hb
  have HN := hid (boxes1 u4_ 26 #[.int .i64 q1, .int .i64 q2])
  obtain ⟨u5_, hW⟩ : ∃ z, u4_.alloc (.cells #[.int .i64 q1, .int .i64 q2] 26) = z := ⟨_, rfl⟩
  rw [hW] at HN
  replace HBA := hid (HBA.out.later HN.out.2 HBA.out.lt)
  replace HBB := hid (HBB.out.later HN.out.2 HBB.out.lt)
  replace HBP := hid (HBP.out.later HN.out.2 HBP.out.lt)
  replace HB := hid (b2 HB.out HN.out.2)
  have HBQ := hid HN.out.1
  clear HN
  obtain ⟨cA0, cA1, cA2, cA3, cA4, cA5⟩ := box6 HBA.out (Below.refl _ _)
  obtain ⟨cB0, cB1, cB2, cB3, cB4, cB5⟩ := box6 HBB.out (Below.refl _ _)
  go_wp2_with fail
  clear hW
  refine Calls.mono (HT.out _) ?_
  rintro e u6_ ⟨rfl, hb⟩
  clear cA0 cA1 cA2 cA3 cA4 cA5 cB0 cB1 cB2 cB3 cB4 cB5
  replace HBA := hid (HBA.out.later hb HBA.out.lt)
  replace HBB := hid (HBB.out.later hb HBB.out.lt)
  replace HBP := hid (HBP.out.later hb HBP.out.lt)
  replace HBQ := hid (HBQ.out.later hb HBQ.out.lt)
  replace HB := hid (b2 HB.out hb)
  clear hb
  have oX : w.heap.size ≤ u6_.heap.size := HB.out.size
  have oXA : w.heap.size < u6_.heap.size := HBA.out.lt
  have oXB : w.heap.size + 1 < u6_.heap.size := HBB.out.lt
  have oXP : u2_.heap.size < u6_.heap.size := HBP.out.lt
  have oXQ : u4_.heap.size < u6_.heap.size := HBQ.out.lt
  have HN := hid (boxes1 u6_ 24 #[.int .i8 xx0, .int .i8 xx1, .int .i8 xx2, .int .i8 xx3, .int .i8 xx4, .int .i8 xx5])
  obtain ⟨u7_, hW⟩ : ∃ z, u6_.alloc (.cells #[.int .i8 xx0, .int .i8 xx1, .int .i8 xx2, .int .i8 xx3, .int .i8 xx4, .int .i8 xx5] 24) = z := ⟨_, rfl⟩
  rw [hW] at HN
  replace HBA := hid (HBA.out.later HN.out.2 HBA.out.lt)
  replace HBB := hid (HBB.out.later HN.out.2 HBB.out.lt)
  replace HBP := hid (HBP.out.later HN.out.2 HBP.out.lt)
  replace HBQ := hid (HBQ.out.later HN.out.2 HBQ.out.lt)
  replace HB := hid (b2 HB.out HN.out.2)
  have HBX := hid HN.out.1
  clear HN
  obtain ⟨cX0, cX1, cX2, cX3, cX4, cX5⟩ := box6 HBX.out (Below.refl _ _)
  go_wp2_with fail
  clear hW
  refine Calls.mono (HR.out _) ?_
  rintro e u8_ ⟨rfl, hb⟩
  clear cX0 cX1 cX2 cX3 cX4 cX5
  replace HBA := hid (HBA.out.later hb HBA.out.lt)
  replace HBB := hid (HBB.out.later hb HBB.out.lt)
  replace HBP := hid (HBP.out.later hb HBP.out.lt)
  replace HBQ := hid (HBQ.out.later hb HBQ.out.lt)
  replace HBX := hid (HBX.out.later hb HBX.out.lt)
  replace HB := hid (b2 HB.out hb)
  clear hb
  have oXR : u6_.heap.size < u8_.heap.size := HBX.out.lt
  have HN := hid (boxes1 u8_ 26 #[.int .i64 r1, .int .i64 r2])
  obtain ⟨u9_, hW⟩ : ∃ z, u8_.alloc (.cells #[.int .i64 r1, .int .i64 r2] 26) = z := ⟨_, rfl⟩
  rw [hW] at HN
  replace HBA := hid (HBA.out.later HN.out.2 HBA.out.lt)
  replace HBB := hid (HBB.out.later HN.out.2 HBB.out.lt)
  replace HBP := hid (HBP.out.later HN.out.2 HBP.out.lt)
  replace HBQ := hid (HBQ.out.later HN.out.2 HBQ.out.lt)
  replace HBX := hid (HBX.out.later HN.out.2 HBX.out.lt)
  replace HB := hid (b2 HB.out HN.out.2)
  have HBR := hid HN.out.1
  clear HN
  obtain ⟨cP0, cP1, fP0, fP1⟩ := fbox_facts HBP.out (Below.refl _ _)
  obtain ⟨cQ0, cQ1, fQ0, fQ1⟩ := fbox_facts HBQ.out (Below.refl _ _)
  go_wp2_with fail
  clear hW
  refine Calls.mono (HA.out _) ?_
  rintro e u10_ ⟨rfl, hb⟩
  clear cP0 cP1 fP0 fP1 cQ0 cQ1 fQ0 fQ1
  replace HBA := hid (HBA.out.later hb HBA.out.lt)
  replace HBB := hid (HBB.out.later hb HBB.out.lt)
  replace HBP := hid (HBP.out.later hb HBP.out.lt)
  replace HBQ := hid (HBQ.out.later hb HBQ.out.lt)
  replace HBX := hid (HBX.out.later hb HBX.out.lt)
  replace HBR := hid (HBR.out.later hb HBR.out.lt)
  replace HB := hid (b2 HB.out hb)
  clear hb
  have oXS : u6_.heap.size < u10_.heap.size := HBX.out.lt
  have HN := hid (boxes1 u10_ 26 #[.int .i64 r1, .int .i64 r2])
  obtain ⟨u11_, hW⟩ : ∃ z, u10_.alloc (.cells #[.int .i64 r1, .int .i64 r2] 26) = z := ⟨_, rfl⟩
  rw [hW] at HN
  replace HBA := hid (HBA.out.later HN.out.2 HBA.out.lt)
  replace HBB := hid (HBB.out.later HN.out.2 HBB.out.lt)
  replace HBP := hid (HBP.out.later HN.out.2 HBP.out.lt)
  replace HBQ := hid (HBQ.out.later HN.out.2 HBQ.out.lt)
  replace HBX := hid (HBX.out.later HN.out.2 HBX.out.lt)
  replace HBR := hid (HBR.out.later HN.out.2 HBR.out.lt)
  replace HB := hid (b2 HB.out HN.out.2)
  have HBS := hid HN.out.1
  clear HN
  obtain ⟨cR0, cR1, fR0, fR1⟩ := fbox_facts HBR.out (Below.refl _ _)
  obtain ⟨cS0, cS1, fS0, fS1⟩ := fbox_facts HBS.out (Below.refl _ _)
  obtain ⟨cA0, cA1, cA2, cA3, cA4, cA5⟩ := box6 HBA.out (Below.refl _ _)
  obtain ⟨cB0, cB1, cB2, cB3, cB4, cB5⟩ := box6 HBB.out (Below.refl _ _)
  go_wp2_with fail
  clear hW
  refine Calls.mono (HO.out _) ?_
  rintro e u12_ ⟨rfl, hb⟩
  clear cR0 cR1 fR0 fR1 cS0 cS1 fS0 fS1 cA0 cA1 cA2 cA3 cA4 cA5 cB0 cB1 cB2 cB3 cB4 cB5
  replace HBA := hid (HBA.out.later hb HBA.out.lt)
  replace HBB := hid (HBB.out.later hb HBB.out.lt)
  replace HBP := hid (HBP.out.later hb HBP.out.lt)
  replace HBQ := hid (HBQ.out.later hb HBQ.out.lt)
  replace HBX := hid (HBX.out.later hb HBX.out.lt)
  replace HBR := hid (HBR.out.later hb HBR.out.lt)
  replace HBS := hid (HBS.out.later hb HBS.out.lt)
  replace HB := hid (b2 HB.out hb)
  clear hb
  have lA := HBA.out.lt
  have lB := HBB.out.lt
  have lP := HBP.out.lt
  have lQ := HBQ.out.lt
  have lX := HBX.out.lt
  have lR := HBR.out.lt
  have lS := HBS.out.lt
  obtain ⟨kX0, kX1, kX2, kX3, kX4, kX5⟩ := box6 HBX.out (Below.refl _ _)
  obtain ⟨fX0, fX1, fX2, fX3, fX4, fX5⟩ := free6 HBX.out (Below.refl _ _)
  have HTA_ := hid (HBA.out.off6 (show w.heap.size ≠ u6_.heap.size by omega) (.int .i8 yy0) (.int .i8 yy1) (.int .i8 yy2) (.int .i8 yy3) (.int .i8 yy4) (.int .i8 yy5))
  have HTB_ := hid (HBB.out.off6 (show w.heap.size + 1 ≠ u6_.heap.size by omega) (.int .i8 yy0) (.int .i8 yy1) (.int .i8 yy2) (.int .i8 yy3) (.int .i8 yy4) (.int .i8 yy5))
  have HTP_ := hid (HBP.out.off6 (show u2_.heap.size ≠ u6_.heap.size by omega) (.int .i8 yy0) (.int .i8 yy1) (.int .i8 yy2) (.int .i8 yy3) (.int .i8 yy4) (.int .i8 yy5))
  have HTQ_ := hid (HBQ.out.off6 (show u4_.heap.size ≠ u6_.heap.size by omega) (.int .i8 yy0) (.int .i8 yy1) (.int .i8 yy2) (.int .i8 yy3) (.int .i8 yy4) (.int .i8 yy5))
  have HTR_ := hid (HBR.out.off6 (show u8_.heap.size ≠ u6_.heap.size by omega) (.int .i8 yy0) (.int .i8 yy1) (.int .i8 yy2) (.int .i8 yy3) (.int .i8 yy4) (.int .i8 yy5))
  have HTS_ := hid (HBS.out.off6 (show u10_.heap.size ≠ u6_.heap.size by omega) (.int .i8 yy0) (.int .i8 yy1) (.int .i8 yy2) (.int .i8 yy3) (.int .i8 yy4) (.int .i8 yy5))
  have HTX_ := hid (HBX.out.put6 (.int .i8 yy0) (.int .i8 yy1) (.int .i8 yy2) (.int .i8 yy3) (.int .i8 yy4) (.int .i8 yy5))
  have HT_ := hid (dput6 HB.out u6_.heap.size (by omega) (.int .i8 yy0) (.int .i8 yy1) (.int .i8 yy2) (.int .i8 yy3) (.int .i8 yy4) (.int .i8 yy5))
  obtain ⟨u13_, hW⟩ : ∃ z, ((((((u12_.setCell ⟨u6_.heap.size, 0, none⟩ (.int .i8 yy0)).setCell ⟨u6_.heap.size, 1, none⟩ (.int .i8 yy1)).setCell ⟨u6_.heap.size, 2, none⟩ (.int .i8 yy2)).setCell ⟨u6_.heap.size, 3, none⟩ (.int .i8 yy3)).setCell ⟨u6_.heap.size, 4, none⟩ (.int .i8 yy4)).setCell ⟨u6_.heap.size, 5, none⟩ (.int .i8 yy5)) = z := ⟨_, rfl⟩
  rw [hW] at HT_ HTA_ HTB_ HTP_ HTQ_ HTX_ HTR_ HTS_
  clear HB HBA HBB HBP HBQ HBX HBR HBS
  have HB := HT_
  have HBA := HTA_
  have HBB := HTB_
  have HBP := HTP_
  have HBQ := HTQ_
  have HBX := HTX_
  have HBR := HTR_
  have HBS := HTS_
  clear HT_ HTA_ HTB_ HTP_ HTQ_ HTX_ HTR_ HTS_
  obtain ⟨cA0, cA1, cA2, cA3, cA4, cA5⟩ := box6 HBA.out (Below.refl _ _)
  go_wp2_with fail
  clear kX0 kX1 kX2 kX3 kX4 kX5 fX0 fX1 fX2 fX3 fX4 fX5 cA0 cA1 cA2 cA3 cA4 cA5
  clear hW
  refine Calls.mono (HC.out _) ?_
  rintro e u14_ ⟨rfl, hb⟩
  replace HBA := hid (HBA.out.later hb HBA.out.lt)
  replace HBB := hid (HBB.out.later hb HBB.out.lt)
  replace HBP := hid (HBP.out.later hb HBP.out.lt)
  replace HBQ := hid (HBQ.out.later hb HBQ.out.lt)
  replace HBX := hid (HBX.out.later hb HBX.out.lt)
  replace HBR := hid (HBR.out.later hb HBR.out.lt)
  replace HBS := hid (HBS.out.later hb HBS.out.lt)
  replace HB := hid (b2 HB.out hb)
  clear hb
  have oXC : u6_.heap.size < u14_.heap.size := HBX.out.lt
  have HN := hid (boxes1 u14_ 24 #[.int .i8 cc0, .int .i8 cc1, .int .i8 cc2, .int .i8 cc3, .int .i8 cc4, .int .i8 cc5])
  obtain ⟨u15_, hW⟩ : ∃ z, u14_.alloc (.cells #[.int .i8 cc0, .int .i8 cc1, .int .i8 cc2, .int .i8 cc3, .int .i8 cc4, .int .i8 cc5] 24) = z := ⟨_, rfl⟩
  rw [hW] at HN
  replace HBA := hid (HBA.out.later HN.out.2 HBA.out.lt)
  replace HBB := hid (HBB.out.later HN.out.2 HBB.out.lt)
  replace HBP := hid (HBP.out.later HN.out.2 HBP.out.lt)
  replace HBQ := hid (HBQ.out.later HN.out.2 HBQ.out.lt)
  replace HBX := hid (HBX.out.later HN.out.2 HBX.out.lt)
  replace HBR := hid (HBR.out.later HN.out.2 HBR.out.lt)
  replace HBS := hid (HBS.out.later HN.out.2 HBS.out.lt)
  replace HB := hid (b2 HB.out HN.out.2)
  have HBC := hid HN.out.1
  clear HN
  obtain ⟨cC0, cC1, cC2, cC3, cC4, cC5⟩ := box6 HBC.out (Below.refl _ _)
  go_wp2_with fail
  clear hW
  refine Calls.mono (HM.out _) ?_
  rintro e u16_ ⟨rfl, hb⟩
  clear cC0 cC1 cC2 cC3 cC4 cC5
  replace HBA := hid (HBA.out.later hb HBA.out.lt)
  replace HBB := hid (HBB.out.later hb HBB.out.lt)
  replace HBP := hid (HBP.out.later hb HBP.out.lt)
  replace HBQ := hid (HBQ.out.later hb HBQ.out.lt)
  replace HBX := hid (HBX.out.later hb HBX.out.lt)
  replace HBR := hid (HBR.out.later hb HBR.out.lt)
  replace HBS := hid (HBS.out.later hb HBS.out.lt)
  replace HBC := hid (HBC.out.later hb HBC.out.lt)
  replace HB := hid (b2 HB.out hb)
  clear hb
  have oXM : u6_.heap.size < u16_.heap.size := HBX.out.lt
  have HN := hid (boxes1 u16_ 26 #[.int .i64 m1, .int .i64 m2])
  obtain ⟨u17_, hW⟩ : ∃ z, u16_.alloc (.cells #[.int .i64 m1, .int .i64 m2] 26) = z := ⟨_, rfl⟩
  rw [hW] at HN
  replace HBA := hid (HBA.out.later HN.out.2 HBA.out.lt)
  replace HBB := hid (HBB.out.later HN.out.2 HBB.out.lt)
  replace HBP := hid (HBP.out.later HN.out.2 HBP.out.lt)
  replace HBQ := hid (HBQ.out.later HN.out.2 HBQ.out.lt)
  replace HBX := hid (HBX.out.later HN.out.2 HBX.out.lt)
  replace HBR := hid (HBR.out.later HN.out.2 HBR.out.lt)
  replace HBS := hid (HBS.out.later HN.out.2 HBS.out.lt)
  replace HBC := hid (HBC.out.later HN.out.2 HBC.out.lt)
  replace HB := hid (b2 HB.out HN.out.2)
  have HBM := hid HN.out.1
  clear HN
  obtain ⟨cP0, cP1, fP0, fP1⟩ := fbox_facts HBP.out (Below.refl _ _)
  go_wp2_with fail
  clear hW
  refine Calls.mono (HN1.out _) ?_
  rintro e u18_ ⟨rfl, hb⟩
  clear cP0 cP1 fP0 fP1
  replace HBA := hid (HBA.out.later hb HBA.out.lt)
  replace HBB := hid (HBB.out.later hb HBB.out.lt)
  replace HBP := hid (HBP.out.later hb HBP.out.lt)
  replace HBQ := hid (HBQ.out.later hb HBQ.out.lt)
  replace HBX := hid (HBX.out.later hb HBX.out.lt)
  replace HBR := hid (HBR.out.later hb HBR.out.lt)
  replace HBS := hid (HBS.out.later hb HBS.out.lt)
  replace HBC := hid (HBC.out.later hb HBC.out.lt)
  replace HBM := hid (HBM.out.later hb HBM.out.lt)
  replace HB := hid (b2 HB.out hb)
  clear hb
  have oXN : u6_.heap.size < u18_.heap.size := HBX.out.lt
  have HN := hid (boxes1 u18_ 26 #[.int .i64 m1, .int .i64 m2])
  obtain ⟨u19_, hW⟩ : ∃ z, u18_.alloc (.cells #[.int .i64 m1, .int .i64 m2] 26) = z := ⟨_, rfl⟩
  rw [hW] at HN
  replace HBA := hid (HBA.out.later HN.out.2 HBA.out.lt)
  replace HBB := hid (HBB.out.later HN.out.2 HBB.out.lt)
  replace HBP := hid (HBP.out.later HN.out.2 HBP.out.lt)
  replace HBQ := hid (HBQ.out.later HN.out.2 HBQ.out.lt)
  replace HBX := hid (HBX.out.later HN.out.2 HBX.out.lt)
  replace HBR := hid (HBR.out.later HN.out.2 HBR.out.lt)
  replace HBS := hid (HBS.out.later HN.out.2 HBS.out.lt)
  replace HBC := hid (HBC.out.later HN.out.2 HBC.out.lt)
  replace HBM := hid (HBM.out.later HN.out.2 HBM.out.lt)
  replace HB := hid (b2 HB.out HN.out.2)
  have HBN := hid HN.out.1
  clear HN
  obtain ⟨cM0, cM1, fM0, fM1⟩ := fbox_facts HBM.out (Below.refl _ _)
  obtain ⟨cN0, cN1, fN0, fN1⟩ := fbox_facts HBN.out (Below.refl _ _)
  by_cases hlt : t < 1048576
  · obtain ⟨x1, x2, HX1, HX2⟩ := HX.out hlt
    have HY1 := hid HX1
    have HY2 := hid HX2
    clear HX1 HX2 HX
    have e1 : IntKind.i64.wrap ((t : Int) + 1) = (t : Int) + 1 := by rw [IntKind.wrap_i64]; omega
    have h1 : (t : Int) < 1048576 := by omega
    clear hlt ht
    generalize (t : Int) = ti at *
    obtain ⟨cA0, cA1, cA2, cA3, cA4, cA5⟩ := box6 HBA.out (Below.refl _ _)
    go_wp2_with fail
    clear hW
    refine Calls.mono (HY1.out _) ?_
    rintro e u20_ ⟨rfl, hb⟩
    clear cM0 cM1 fM0 fM1 cN0 cN1 fN0 fN1 cA0 cA1 cA2 cA3 cA4 cA5
    replace HBA := hid (HBA.out.later hb HBA.out.lt)
    replace HBB := hid (HBB.out.later hb HBB.out.lt)
    replace HBP := hid (HBP.out.later hb HBP.out.lt)
    replace HBQ := hid (HBQ.out.later hb HBQ.out.lt)
    replace HBX := hid (HBX.out.later hb HBX.out.lt)
    replace HBR := hid (HBR.out.later hb HBR.out.lt)
    replace HBS := hid (HBS.out.later hb HBS.out.lt)
    replace HBC := hid (HBC.out.later hb HBC.out.lt)
    replace HBM := hid (HBM.out.later hb HBM.out.lt)
    replace HBN := hid (HBN.out.later hb HBN.out.lt)
    replace HB := hid (b2 HB.out hb)
    clear hb
    have oXY : u6_.heap.size < u20_.heap.size := HBX.out.lt
    have HN := hid (boxes1 u20_ 26 #[.int .i64 x1, .int .i64 x2])
    obtain ⟨u21_, hW⟩ : ∃ z, u20_.alloc (.cells #[.int .i64 x1, .int .i64 x2] 26) = z := ⟨_, rfl⟩
    rw [hW] at HN
    replace HBA := hid (HBA.out.later HN.out.2 HBA.out.lt)
    replace HBB := hid (HBB.out.later HN.out.2 HBB.out.lt)
    replace HBP := hid (HBP.out.later HN.out.2 HBP.out.lt)
    replace HBQ := hid (HBQ.out.later HN.out.2 HBQ.out.lt)
    replace HBX := hid (HBX.out.later HN.out.2 HBX.out.lt)
    replace HBR := hid (HBR.out.later HN.out.2 HBR.out.lt)
    replace HBS := hid (HBS.out.later HN.out.2 HBS.out.lt)
    replace HBC := hid (HBC.out.later HN.out.2 HBC.out.lt)
    replace HBM := hid (HBM.out.later HN.out.2 HBM.out.lt)
    replace HBN := hid (HBN.out.later HN.out.2 HBN.out.lt)
    replace HB := hid (b2 HB.out HN.out.2)
    have HBY := hid HN.out.1
    clear HN
    obtain ⟨cA0, cA1, cA2, cA3, cA4, cA5⟩ := box6 HBA.out (Below.refl _ _)
    go_wp2_with fail
    clear hW
    refine Calls.mono (HV.out _) ?_
    rintro e u22_ ⟨rfl, hb⟩
    clear cA0 cA1 cA2 cA3 cA4 cA5
    replace HBA := hid (HBA.out.later hb HBA.out.lt)
    replace HBB := hid (HBB.out.later hb HBB.out.lt)
    replace HBP := hid (HBP.out.later hb HBP.out.lt)
    replace HBQ := hid (HBQ.out.later hb HBQ.out.lt)
    replace HBX := hid (HBX.out.later hb HBX.out.lt)
    replace HBR := hid (HBR.out.later hb HBR.out.lt)
    replace HBS := hid (HBS.out.later hb HBS.out.lt)
    replace HBC := hid (HBC.out.later hb HBC.out.lt)
    replace HBM := hid (HBM.out.later hb HBM.out.lt)
    replace HBN := hid (HBN.out.later hb HBN.out.lt)
    replace HBY := hid (HBY.out.later hb HBY.out.lt)
    replace HB := hid (b2 HB.out hb)
    clear hb
    have oXV : u6_.heap.size < u22_.heap.size := HBX.out.lt
    have HN := hid (boxes1 u22_ 26 #[.int .i64 v1, .int .i64 v2])
    obtain ⟨u23_, hW⟩ : ∃ z, u22_.alloc (.cells #[.int .i64 v1, .int .i64 v2] 26) = z := ⟨_, rfl⟩
    rw [hW] at HN
    replace HBA := hid (HBA.out.later HN.out.2 HBA.out.lt)
    replace HBB := hid (HBB.out.later HN.out.2 HBB.out.lt)
    replace HBP := hid (HBP.out.later HN.out.2 HBP.out.lt)
    replace HBQ := hid (HBQ.out.later HN.out.2 HBQ.out.lt)
    replace HBX := hid (HBX.out.later HN.out.2 HBX.out.lt)
    replace HBR := hid (HBR.out.later HN.out.2 HBR.out.lt)
    replace HBS := hid (HBS.out.later HN.out.2 HBS.out.lt)
    replace HBC := hid (HBC.out.later HN.out.2 HBC.out.lt)
    replace HBM := hid (HBM.out.later HN.out.2 HBM.out.lt)
    replace HBN := hid (HBN.out.later HN.out.2 HBN.out.lt)
    replace HBY := hid (HBY.out.later HN.out.2 HBY.out.lt)
    replace HB := hid (b2 HB.out HN.out.2)
    have HBV := hid HN.out.1
    clear HN
    obtain ⟨cP0, cP1, fP0, fP1⟩ := fbox_facts HBP.out (Below.refl _ _)
    obtain ⟨cV0, cV1, fV0, fV1⟩ := fbox_facts HBV.out (Below.refl _ _)
    go_wp2_with fail
    clear hW
    refine Calls.mono (HY2.out _) ?_
    rintro e u24_ ⟨rfl, hb⟩
    clear cP0 cP1 fP0 fP1 cV0 cV1 fV0 fV1
    replace HBA := hid (HBA.out.later hb HBA.out.lt)
    replace HBB := hid (HBB.out.later hb HBB.out.lt)
    replace HBP := hid (HBP.out.later hb HBP.out.lt)
    replace HBQ := hid (HBQ.out.later hb HBQ.out.lt)
    replace HBX := hid (HBX.out.later hb HBX.out.lt)
    replace HBR := hid (HBR.out.later hb HBR.out.lt)
    replace HBS := hid (HBS.out.later hb HBS.out.lt)
    replace HBC := hid (HBC.out.later hb HBC.out.lt)
    replace HBM := hid (HBM.out.later hb HBM.out.lt)
    replace HBN := hid (HBN.out.later hb HBN.out.lt)
    replace HBY := hid (HBY.out.later hb HBY.out.lt)
    replace HBV := hid (HBV.out.later hb HBV.out.lt)
    replace HB := hid (b2 HB.out hb)
    clear hb
    have oXZ : u6_.heap.size < u24_.heap.size := HBX.out.lt
    have HN := hid (boxes1 u24_ 26 #[.int .i64 x1, .int .i64 x2])
    obtain ⟨u25_, hW⟩ : ∃ z, u24_.alloc (.cells #[.int .i64 x1, .int .i64 x2] 26) = z := ⟨_, rfl⟩
    rw [hW] at HN
    replace HBA := hid (HBA.out.later HN.out.2 HBA.out.lt)
    replace HBB := hid (HBB.out.later HN.out.2 HBB.out.lt)
    replace HBP := hid (HBP.out.later HN.out.2 HBP.out.lt)
    replace HBQ := hid (HBQ.out.later HN.out.2 HBQ.out.lt)
    replace HBX := hid (HBX.out.later HN.out.2 HBX.out.lt)
    replace HBR := hid (HBR.out.later HN.out.2 HBR.out.lt)
    replace HBS := hid (HBS.out.later HN.out.2 HBS.out.lt)
    replace HBC := hid (HBC.out.later HN.out.2 HBC.out.lt)
    replace HBM := hid (HBM.out.later HN.out.2 HBM.out.lt)
    replace HBN := hid (HBN.out.later HN.out.2 HBN.out.lt)
    replace HBY := hid (HBY.out.later HN.out.2 HBY.out.lt)
    replace HBV := hid (HBV.out.later HN.out.2 HBV.out.lt)
    replace HB := hid (b2 HB.out HN.out.2)
    have HBZ := hid HN.out.1
    clear HN
    obtain ⟨cY0, cY1, fY0, fY1⟩ := fbox_facts HBY.out (Below.refl _ _)
    obtain ⟨cZ0, cZ1, fZ0, fZ1⟩ := fbox_facts HBZ.out (Below.refl _ _)
    go_wp2_with fail
    all_goals first | (go_ret; exact ⟨rfl, HB.out⟩) | (go_ret; exact ⟨rfl, HB.out.drew⟩)
  · have h1 : ¬ (t : Int) < 1048576 := by omega
    clear hlt ht HX
    generalize (t : Int) = ti at *
    go_wp2_with fail
    all_goals first | (go_ret; exact ⟨rfl, HB.out⟩) | (go_ret; exact ⟨rfl, HB.out.drew⟩)

set_option maxHeartbeats 3200000 in
set_option maxRecDepth 100000 in
theorem dogroup_01 (a b : Nat → Int) (t : Nat) (w : World) (ha : dOK a) (hb : dOK b) (ht : t ≤ 1048576) (hT : ¬ dOK (dJ a b 1)) (hO : dOK (dJ a b (-1))) :
    Calls Try.prog 4 #[.agg (doA a), .agg (doA b), .int .i64 (t : Int)] w fun e w' => e = .returned (.bool true) ∧ Below w.heap.size w w' := by
  have HL := hid (fun V => dolives_any V)
  have HP := hid (fun V => dophase_ok a t V ha ht)
  obtain ⟨p1, p2, ep, op, _⟩ := circ_told (dU a t)
  rw [ep, show tV (p1, p2, 0) = Value.tuple #[.agg #[.int .i64 p1, .int .i64 p2], .int .i64 0] from rfl] at HP
  have HQ := hid (fun V => dophase_ok b t V hb ht)
  obtain ⟨q1, q2, eq, oq, _⟩ := circ_told (dU b t)
  rw [eq, show tV (q1, q2, 0) = Value.tuple #[.agg #[.int .i64 q1, .int .i64 q2], .int .i64 0] from rfl] at HQ
  have HT := hid (fun V => dotimes_any a b V)
  have HO := hid (fun V => doover_any a b V)
  rw [dJR_no (fun h => hT h.2.2)] at HT
  rw [dJR_ok ⟨ha, hb, hO⟩] at HO
  have HG := hid (fun V => dophase_ok (dJ a b (-1)) t V hO ht)
  obtain ⟨g1, g2, eg, og, _⟩ := circ_told (dU (dJ a b (-1)) t)
  rw [eg, show tV (g1, g2, 0) = Value.tuple #[.agg #[.int .i64 g1, .int .i64 g2], .int .i64 0] from rfl] at HG
  have HS := hid (fun V => tsub_any p1 p2 q1 q2 V (dok_in op) (dok_in oq))
  rw [sub_circ ep eq, ← dJ_less, eg, show tV (g1, g2, 0) = Value.tuple #[.agg #[.int .i64 g1, .int .i64 g2], .int .i64 0] from rfl] at HS
  have HC := hid (fun V => doconj_any a V)
  rw [dJR_ok ⟨fun _ _ => ⟨by decide, by decide⟩, ha, dJ_back_ok ha⟩] at HC
  have HM := hid (fun V => dophase_ok (dJ (fun _ => 0) a (-1)) t V (dJ_back_ok ha) ht)
  obtain ⟨m1, m2, em, om, _⟩ := circ_told (dU (dJ (fun _ => 0) a (-1)) t)
  rw [em, show tV (m1, m2, 0) = Value.tuple #[.agg #[.int .i64 m1, .int .i64 m2], .int .i64 0] from rfl] at HM
  have HN1 := hid (fun V => tneg_any p1 p2 V (dok_in op))
  rw [neg_circ ep, ← dJ_back, em, show tV (m1, m2, 0) = Value.tuple #[.agg #[.int .i64 m1, .int .i64 m2], .int .i64 0] from rfl] at HN1
  have HV := hid (fun V => dospeed_ok a V ha)
  obtain ⟨v1, v2, ev, ov, _⟩ := circ_told (dV a)
  rw [ev, show tV (v1, v2, 0) = Value.tuple #[.agg #[.int .i64 v1, .int .i64 v2], .int .i64 0] from rfl] at HV
  have HX : Hid (t < 1048576 → ∃ x1 x2 : Int, (∀ V, Calls Try.prog 7 #[.agg (doA a), .int .i64 ((t : Int) + 1)] V fun e w' => e = .returned (.tuple #[.agg #[.int .i64 x1, .int .i64 x2], .int .i64 0]) ∧ Below V.heap.size V w') ∧ (∀ V, Calls Try.prog 24 #[.agg #[.int .i64 p1, .int .i64 p2], .agg #[.int .i64 v1, .int .i64 v2]] V fun e w' => e = .returned (.tuple #[.agg #[.int .i64 x1, .int .i64 x2], .int .i64 0]) ∧ Below V.heap.size V w')) := fun hlt => by
    obtain ⟨x1, x2, ex, ox, _⟩ := circ_told (dU a (t + 1))
    refine ⟨x1, x2, fun V => ?_, fun V => ?_⟩
    · have e := dophase_ok a (t + 1) V ha hlt
      rw [ex, show tV (x1, x2, 0) = Value.tuple #[.agg #[.int .i64 x1, .int .i64 x2], .int .i64 0] from rfl] at e
      exact e
    · have e := tadd_any p1 p2 v1 v2 V (dok_in op) (dok_in ov)
      rw [add_circ ep ev, ← dU_next, ex, show tV (x1, x2, 0) = Value.tuple #[.agg #[.int .i64 x1, .int .i64 x2], .int .i64 0] from rfl] at e
      exact e
  clear ep op eq oq ev ov em om ha hb hT hO
  clear eg og
  have HB0 := hid (dboxes2 w 24 24 (doA a) (doA b))
  obtain ⟨X, hW⟩ : ∃ X, (w.alloc (.cells (doA a) 24)).alloc (.cells (doA b) 24) = X := ⟨_, rfl⟩
  rw [hW] at HB0
  unfold doA at *
  generalize a 0 = aa0 at *
  generalize a 1 = aa1 at *
  generalize a 2 = aa2 at *
  generalize a 3 = aa3 at *
  generalize a 4 = aa4 at *
  generalize a 5 = aa5 at *
  generalize b 0 = bb0 at *
  generalize b 1 = bb1 at *
  generalize b 2 = bb2 at *
  generalize b 3 = bb3 at *
  generalize b 4 = bb4 at *
  generalize b 5 = bb5 at *
  generalize dJ a b (-1) 0 = yy0 at *
  generalize dJ a b (-1) 1 = yy1 at *
  generalize dJ a b (-1) 2 = yy2 at *
  generalize dJ a b (-1) 3 = yy3 at *
  generalize dJ a b (-1) 4 = yy4 at *
  generalize dJ a b (-1) 5 = yy5 at *
  generalize dJ (fun _ => 0) a (-1) 0 = cc0 at *
  generalize dJ (fun _ => 0) a (-1) 1 = cc1 at *
  generalize dJ (fun _ => 0) a (-1) 2 = cc2 at *
  generalize dJ (fun _ => 0) a (-1) 3 = cc3 at *
  generalize dJ (fun _ => 0) a (-1) 4 = cc4 at *
  generalize dJ (fun _ => 0) a (-1) 5 = cc5 at *
  obtain ⟨xx0, xx1, xx2, xx3, xx4, xx5, HZx⟩ : ∃ xx0 xx1 xx2 xx3 xx4 xx5 : Int, Hid (xx0 = 0 ∧ xx1 = 0 ∧ xx2 = 0 ∧ xx3 = 0 ∧ xx4 = 0 ∧ xx5 = 0) := ⟨_, _, _, _, _, _, ⟨rfl, rfl, rfl, rfl, rfl, rfl⟩⟩
  have hZ : (#[.int .i8 0, .int .i8 0, .int .i8 0, .int .i8 0, .int .i8 0, .int .i8 0] : Array Value) = #[.int .i8 xx0, .int .i8 xx1, .int .i8 xx2, .int .i8 xx3, .int .i8 xx4, .int .i8 xx5] := by obtain ⟨rfl, rfl, rfl, rfl, rfl, rfl⟩ := HZx.out; rfl
  rw [hZ] at HT
  clear hZ HZx
  have HBA := hid HB0.out.1
  have HBB := hid HB0.out.2.1
  have HB := hid HB0.out.2.2
  clear HB0
  go_enter Try.func4, Try.ntmps4
  go_wp2_with fail
  clear hW
  refine Calls.mono (HL.out _) ?_
  rintro e u1_ ⟨rfl, hb⟩
  replace HBA := hid (HBA.out.later hb HBA.out.lt)
  replace HBB := hid (HBB.out.later hb HBB.out.lt)
  replace HB := hid (b2 HB.out hb)
  clear hb
  obtain ⟨cA0, cA1, cA2, cA3, cA4, cA5⟩ := box6 HBA.out (Below.refl _ _)
  go_wp2_with fail
  refine Calls.mono (HP.out _) ?_
  rintro e u2_ ⟨rfl, hb⟩
  clear cA0 cA1 cA2 cA3 cA4 cA5
  replace HBA := hid (HBA.out.later hb HBA.out.lt)
  replace HBB := hid (HBB.out.later hb HBB.out.lt)
  replace HB := hid (b2 HB.out hb)
  clear hb
  have HN := hid (boxes1 u2_ 26 #[.int .i64 p1, .int .i64 p2])
  obtain ⟨u3_, hW⟩ : ∃ z, u2_.alloc (.cells #[.int .i64 p1, .int .i64 p2] 26) = z := ⟨_, rfl⟩
  rw [hW] at HN
  replace HBA := hid (HBA.out.later HN.out.2 HBA.out.lt)
  replace HBB := hid (HBB.out.later HN.out.2 HBB.out.lt)
  replace HB := hid (b2 HB.out HN.out.2)
  have HBP := hid HN.out.1
  clear HN
  obtain ⟨cB0, cB1, cB2, cB3, cB4, cB5⟩ := box6 HBB.out (Below.refl _ _)
  go_wp2_with fail
  clear hW
  refine Calls.mono (HQ.out _) ?_
  rintro e u4_ ⟨rfl, hb⟩
  clear cB0 cB1 cB2 cB3 cB4 cB5
  replace HBA := hid (HBA.out.later hb HBA.out.lt)
  replace HBB := hid (HBB.out.later hb HBB.out.lt)
  replace HBP := hid (HBP.out.later hb HBP.out.lt)
  replace HB := hid (b2 HB.out hb)
  clear hb
  have HN := hid (boxes1 u4_ 26 #[.int .i64 q1, .int .i64 q2])
  obtain ⟨u5_, hW⟩ : ∃ z, u4_.alloc (.cells #[.int .i64 q1, .int .i64 q2] 26) = z := ⟨_, rfl⟩
  rw [hW] at HN
  replace HBA := hid (HBA.out.later HN.out.2 HBA.out.lt)
  replace HBB := hid (HBB.out.later HN.out.2 HBB.out.lt)
  replace HBP := hid (HBP.out.later HN.out.2 HBP.out.lt)
  replace HB := hid (b2 HB.out HN.out.2)
  have HBQ := hid HN.out.1
  clear HN
  obtain ⟨cA0, cA1, cA2, cA3, cA4, cA5⟩ := box6 HBA.out (Below.refl _ _)
  obtain ⟨cB0, cB1, cB2, cB3, cB4, cB5⟩ := box6 HBB.out (Below.refl _ _)
  go_wp2_with fail
  clear hW
  refine Calls.mono (HT.out _) ?_
  rintro e u6_ ⟨rfl, hb⟩
  clear cA0 cA1 cA2 cA3 cA4 cA5 cB0 cB1 cB2 cB3 cB4 cB5
  replace HBA := hid (HBA.out.later hb HBA.out.lt)
  replace HBB := hid (HBB.out.later hb HBB.out.lt)
  replace HBP := hid (HBP.out.later hb HBP.out.lt)
  replace HBQ := hid (HBQ.out.later hb HBQ.out.lt)
  replace HB := hid (b2 HB.out hb)
  clear hb
  have oX : w.heap.size ≤ u6_.heap.size := HB.out.size
  have oXA : w.heap.size < u6_.heap.size := HBA.out.lt
  have oXB : w.heap.size + 1 < u6_.heap.size := HBB.out.lt
  have oXP : u2_.heap.size < u6_.heap.size := HBP.out.lt
  have oXQ : u4_.heap.size < u6_.heap.size := HBQ.out.lt
  have HN := hid (boxes1 u6_ 24 #[.int .i8 xx0, .int .i8 xx1, .int .i8 xx2, .int .i8 xx3, .int .i8 xx4, .int .i8 xx5])
  obtain ⟨u7_, hW⟩ : ∃ z, u6_.alloc (.cells #[.int .i8 xx0, .int .i8 xx1, .int .i8 xx2, .int .i8 xx3, .int .i8 xx4, .int .i8 xx5] 24) = z := ⟨_, rfl⟩
  rw [hW] at HN
  replace HBA := hid (HBA.out.later HN.out.2 HBA.out.lt)
  replace HBB := hid (HBB.out.later HN.out.2 HBB.out.lt)
  replace HBP := hid (HBP.out.later HN.out.2 HBP.out.lt)
  replace HBQ := hid (HBQ.out.later HN.out.2 HBQ.out.lt)
  replace HB := hid (b2 HB.out HN.out.2)
  have HBX := hid HN.out.1
  clear HN
  obtain ⟨cA0, cA1, cA2, cA3, cA4, cA5⟩ := box6 HBA.out (Below.refl _ _)
  obtain ⟨cB0, cB1, cB2, cB3, cB4, cB5⟩ := box6 HBB.out (Below.refl _ _)
  go_wp2_with fail
  clear hW
  refine Calls.mono (HO.out _) ?_
  rintro e u8_ ⟨rfl, hb⟩
  clear cA0 cA1 cA2 cA3 cA4 cA5 cB0 cB1 cB2 cB3 cB4 cB5
  replace HBA := hid (HBA.out.later hb HBA.out.lt)
  replace HBB := hid (HBB.out.later hb HBB.out.lt)
  replace HBP := hid (HBP.out.later hb HBP.out.lt)
  replace HBQ := hid (HBQ.out.later hb HBQ.out.lt)
  replace HBX := hid (HBX.out.later hb HBX.out.lt)
  replace HB := hid (b2 HB.out hb)
  clear hb
  have lA := HBA.out.lt
  have lB := HBB.out.lt
  have lP := HBP.out.lt
  have lQ := HBQ.out.lt
  have lX := HBX.out.lt
  obtain ⟨kX0, kX1, kX2, kX3, kX4, kX5⟩ := box6 HBX.out (Below.refl _ _)
  obtain ⟨fX0, fX1, fX2, fX3, fX4, fX5⟩ := free6 HBX.out (Below.refl _ _)
  have HTA_ := hid (HBA.out.off6 (show w.heap.size ≠ u6_.heap.size by omega) (.int .i8 yy0) (.int .i8 yy1) (.int .i8 yy2) (.int .i8 yy3) (.int .i8 yy4) (.int .i8 yy5))
  have HTB_ := hid (HBB.out.off6 (show w.heap.size + 1 ≠ u6_.heap.size by omega) (.int .i8 yy0) (.int .i8 yy1) (.int .i8 yy2) (.int .i8 yy3) (.int .i8 yy4) (.int .i8 yy5))
  have HTP_ := hid (HBP.out.off6 (show u2_.heap.size ≠ u6_.heap.size by omega) (.int .i8 yy0) (.int .i8 yy1) (.int .i8 yy2) (.int .i8 yy3) (.int .i8 yy4) (.int .i8 yy5))
  have HTQ_ := hid (HBQ.out.off6 (show u4_.heap.size ≠ u6_.heap.size by omega) (.int .i8 yy0) (.int .i8 yy1) (.int .i8 yy2) (.int .i8 yy3) (.int .i8 yy4) (.int .i8 yy5))
  have HTX_ := hid (HBX.out.put6 (.int .i8 yy0) (.int .i8 yy1) (.int .i8 yy2) (.int .i8 yy3) (.int .i8 yy4) (.int .i8 yy5))
  have HT_ := hid (dput6 HB.out u6_.heap.size (by omega) (.int .i8 yy0) (.int .i8 yy1) (.int .i8 yy2) (.int .i8 yy3) (.int .i8 yy4) (.int .i8 yy5))
  obtain ⟨u9_, hW⟩ : ∃ z, ((((((u8_.setCell ⟨u6_.heap.size, 0, none⟩ (.int .i8 yy0)).setCell ⟨u6_.heap.size, 1, none⟩ (.int .i8 yy1)).setCell ⟨u6_.heap.size, 2, none⟩ (.int .i8 yy2)).setCell ⟨u6_.heap.size, 3, none⟩ (.int .i8 yy3)).setCell ⟨u6_.heap.size, 4, none⟩ (.int .i8 yy4)).setCell ⟨u6_.heap.size, 5, none⟩ (.int .i8 yy5)) = z := ⟨_, rfl⟩
  rw [hW] at HT_ HTA_ HTB_ HTP_ HTQ_ HTX_
  clear HB HBA HBB HBP HBQ HBX
  have HB := HT_
  have HBA := HTA_
  have HBB := HTB_
  have HBP := HTP_
  have HBQ := HTQ_
  have HBX := HTX_
  clear HT_ HTA_ HTB_ HTP_ HTQ_ HTX_
  obtain ⟨cX0, cX1, cX2, cX3, cX4, cX5⟩ := box6 HBX.out (Below.refl _ _)
  go_wp2_with fail
  clear kX0 kX1 kX2 kX3 kX4 kX5 fX0 fX1 fX2 fX3 fX4 fX5 cX0 cX1 cX2 cX3 cX4 cX5
  clear hW
  refine Calls.mono (HG.out _) ?_
  rintro e u10_ ⟨rfl, hb⟩
  replace HBA := hid (HBA.out.later hb HBA.out.lt)
  replace HBB := hid (HBB.out.later hb HBB.out.lt)
  replace HBP := hid (HBP.out.later hb HBP.out.lt)
  replace HBQ := hid (HBQ.out.later hb HBQ.out.lt)
  replace HBX := hid (HBX.out.later hb HBX.out.lt)
  replace HB := hid (b2 HB.out hb)
  clear hb
  have oXG : u6_.heap.size < u10_.heap.size := HBX.out.lt
  have HN := hid (boxes1 u10_ 26 #[.int .i64 g1, .int .i64 g2])
  obtain ⟨u11_, hW⟩ : ∃ z, u10_.alloc (.cells #[.int .i64 g1, .int .i64 g2] 26) = z := ⟨_, rfl⟩
  rw [hW] at HN
  replace HBA := hid (HBA.out.later HN.out.2 HBA.out.lt)
  replace HBB := hid (HBB.out.later HN.out.2 HBB.out.lt)
  replace HBP := hid (HBP.out.later HN.out.2 HBP.out.lt)
  replace HBQ := hid (HBQ.out.later HN.out.2 HBQ.out.lt)
  replace HBX := hid (HBX.out.later HN.out.2 HBX.out.lt)
  replace HB := hid (b2 HB.out HN.out.2)
  have HBG := hid HN.out.1
  clear HN
  obtain ⟨cP0, cP1, fP0, fP1⟩ := fbox_facts HBP.out (Below.refl _ _)
  obtain ⟨cQ0, cQ1, fQ0, fQ1⟩ := fbox_facts HBQ.out (Below.refl _ _)
  go_wp2_with fail
  clear hW
  refine Calls.mono (HS.out _) ?_
  rintro e u12_ ⟨rfl, hb⟩
  clear cP0 cP1 fP0 fP1 cQ0 cQ1 fQ0 fQ1
  replace HBA := hid (HBA.out.later hb HBA.out.lt)
  replace HBB := hid (HBB.out.later hb HBB.out.lt)
  replace HBP := hid (HBP.out.later hb HBP.out.lt)
  replace HBQ := hid (HBQ.out.later hb HBQ.out.lt)
  replace HBX := hid (HBX.out.later hb HBX.out.lt)
  replace HBG := hid (HBG.out.later hb HBG.out.lt)
  replace HB := hid (b2 HB.out hb)
  clear hb
  have oXH : u6_.heap.size < u12_.heap.size := HBX.out.lt
  have HN := hid (boxes1 u12_ 26 #[.int .i64 g1, .int .i64 g2])
  obtain ⟨u13_, hW⟩ : ∃ z, u12_.alloc (.cells #[.int .i64 g1, .int .i64 g2] 26) = z := ⟨_, rfl⟩
  rw [hW] at HN
  replace HBA := hid (HBA.out.later HN.out.2 HBA.out.lt)
  replace HBB := hid (HBB.out.later HN.out.2 HBB.out.lt)
  replace HBP := hid (HBP.out.later HN.out.2 HBP.out.lt)
  replace HBQ := hid (HBQ.out.later HN.out.2 HBQ.out.lt)
  replace HBX := hid (HBX.out.later HN.out.2 HBX.out.lt)
  replace HBG := hid (HBG.out.later HN.out.2 HBG.out.lt)
  replace HB := hid (b2 HB.out HN.out.2)
  have HBH := hid HN.out.1
  clear HN
  obtain ⟨cG0, cG1, fG0, fG1⟩ := fbox_facts HBG.out (Below.refl _ _)
  obtain ⟨cH0, cH1, fH0, fH1⟩ := fbox_facts HBH.out (Below.refl _ _)
  obtain ⟨cA0, cA1, cA2, cA3, cA4, cA5⟩ := box6 HBA.out (Below.refl _ _)
  go_wp2_with fail
  clear hW
  refine Calls.mono (HC.out _) ?_
  rintro e u14_ ⟨rfl, hb⟩
  clear cG0 cG1 fG0 fG1 cH0 cH1 fH0 fH1 cA0 cA1 cA2 cA3 cA4 cA5
  replace HBA := hid (HBA.out.later hb HBA.out.lt)
  replace HBB := hid (HBB.out.later hb HBB.out.lt)
  replace HBP := hid (HBP.out.later hb HBP.out.lt)
  replace HBQ := hid (HBQ.out.later hb HBQ.out.lt)
  replace HBX := hid (HBX.out.later hb HBX.out.lt)
  replace HBG := hid (HBG.out.later hb HBG.out.lt)
  replace HBH := hid (HBH.out.later hb HBH.out.lt)
  replace HB := hid (b2 HB.out hb)
  clear hb
  have oXC : u6_.heap.size < u14_.heap.size := HBX.out.lt
  have HN := hid (boxes1 u14_ 24 #[.int .i8 cc0, .int .i8 cc1, .int .i8 cc2, .int .i8 cc3, .int .i8 cc4, .int .i8 cc5])
  obtain ⟨u15_, hW⟩ : ∃ z, u14_.alloc (.cells #[.int .i8 cc0, .int .i8 cc1, .int .i8 cc2, .int .i8 cc3, .int .i8 cc4, .int .i8 cc5] 24) = z := ⟨_, rfl⟩
  rw [hW] at HN
  replace HBA := hid (HBA.out.later HN.out.2 HBA.out.lt)
  replace HBB := hid (HBB.out.later HN.out.2 HBB.out.lt)
  replace HBP := hid (HBP.out.later HN.out.2 HBP.out.lt)
  replace HBQ := hid (HBQ.out.later HN.out.2 HBQ.out.lt)
  replace HBX := hid (HBX.out.later HN.out.2 HBX.out.lt)
  replace HBG := hid (HBG.out.later HN.out.2 HBG.out.lt)
  replace HBH := hid (HBH.out.later HN.out.2 HBH.out.lt)
  replace HB := hid (b2 HB.out HN.out.2)
  have HBC := hid HN.out.1
  clear HN
  obtain ⟨cC0, cC1, cC2, cC3, cC4, cC5⟩ := box6 HBC.out (Below.refl _ _)
  go_wp2_with fail
  clear hW
  refine Calls.mono (HM.out _) ?_
  rintro e u16_ ⟨rfl, hb⟩
  clear cC0 cC1 cC2 cC3 cC4 cC5
  replace HBA := hid (HBA.out.later hb HBA.out.lt)
  replace HBB := hid (HBB.out.later hb HBB.out.lt)
  replace HBP := hid (HBP.out.later hb HBP.out.lt)
  replace HBQ := hid (HBQ.out.later hb HBQ.out.lt)
  replace HBX := hid (HBX.out.later hb HBX.out.lt)
  replace HBG := hid (HBG.out.later hb HBG.out.lt)
  replace HBH := hid (HBH.out.later hb HBH.out.lt)
  replace HBC := hid (HBC.out.later hb HBC.out.lt)
  replace HB := hid (b2 HB.out hb)
  clear hb
  have oXM : u6_.heap.size < u16_.heap.size := HBX.out.lt
  have HN := hid (boxes1 u16_ 26 #[.int .i64 m1, .int .i64 m2])
  obtain ⟨u17_, hW⟩ : ∃ z, u16_.alloc (.cells #[.int .i64 m1, .int .i64 m2] 26) = z := ⟨_, rfl⟩
  rw [hW] at HN
  replace HBA := hid (HBA.out.later HN.out.2 HBA.out.lt)
  replace HBB := hid (HBB.out.later HN.out.2 HBB.out.lt)
  replace HBP := hid (HBP.out.later HN.out.2 HBP.out.lt)
  replace HBQ := hid (HBQ.out.later HN.out.2 HBQ.out.lt)
  replace HBX := hid (HBX.out.later HN.out.2 HBX.out.lt)
  replace HBG := hid (HBG.out.later HN.out.2 HBG.out.lt)
  replace HBH := hid (HBH.out.later HN.out.2 HBH.out.lt)
  replace HBC := hid (HBC.out.later HN.out.2 HBC.out.lt)
  replace HB := hid (b2 HB.out HN.out.2)
  have HBM := hid HN.out.1
  clear HN
  obtain ⟨cP0, cP1, fP0, fP1⟩ := fbox_facts HBP.out (Below.refl _ _)
  go_wp2_with fail
  clear hW
  refine Calls.mono (HN1.out _) ?_
  rintro e u18_ ⟨rfl, hb⟩
  clear cP0 cP1 fP0 fP1
  replace HBA := hid (HBA.out.later hb HBA.out.lt)
  replace HBB := hid (HBB.out.later hb HBB.out.lt)
  replace HBP := hid (HBP.out.later hb HBP.out.lt)
  replace HBQ := hid (HBQ.out.later hb HBQ.out.lt)
  replace HBX := hid (HBX.out.later hb HBX.out.lt)
  replace HBG := hid (HBG.out.later hb HBG.out.lt)
  replace HBH := hid (HBH.out.later hb HBH.out.lt)
  replace HBC := hid (HBC.out.later hb HBC.out.lt)
  replace HBM := hid (HBM.out.later hb HBM.out.lt)
  replace HB := hid (b2 HB.out hb)
  clear hb
  have oXN : u6_.heap.size < u18_.heap.size := HBX.out.lt
  have HN := hid (boxes1 u18_ 26 #[.int .i64 m1, .int .i64 m2])
  obtain ⟨u19_, hW⟩ : ∃ z, u18_.alloc (.cells #[.int .i64 m1, .int .i64 m2] 26) = z := ⟨_, rfl⟩
  rw [hW] at HN
  replace HBA := hid (HBA.out.later HN.out.2 HBA.out.lt)
  replace HBB := hid (HBB.out.later HN.out.2 HBB.out.lt)
  replace HBP := hid (HBP.out.later HN.out.2 HBP.out.lt)
  replace HBQ := hid (HBQ.out.later HN.out.2 HBQ.out.lt)
  replace HBX := hid (HBX.out.later HN.out.2 HBX.out.lt)
  replace HBG := hid (HBG.out.later HN.out.2 HBG.out.lt)
  replace HBH := hid (HBH.out.later HN.out.2 HBH.out.lt)
  replace HBC := hid (HBC.out.later HN.out.2 HBC.out.lt)
  replace HBM := hid (HBM.out.later HN.out.2 HBM.out.lt)
  replace HB := hid (b2 HB.out HN.out.2)
  have HBN := hid HN.out.1
  clear HN
  obtain ⟨cM0, cM1, fM0, fM1⟩ := fbox_facts HBM.out (Below.refl _ _)
  obtain ⟨cN0, cN1, fN0, fN1⟩ := fbox_facts HBN.out (Below.refl _ _)
  by_cases hlt : t < 1048576
  · obtain ⟨x1, x2, HX1, HX2⟩ := HX.out hlt
    have HY1 := hid HX1
    have HY2 := hid HX2
    clear HX1 HX2 HX
    have e1 : IntKind.i64.wrap ((t : Int) + 1) = (t : Int) + 1 := by rw [IntKind.wrap_i64]; omega
    have h1 : (t : Int) < 1048576 := by omega
    clear hlt ht
    generalize (t : Int) = ti at *
    obtain ⟨cA0, cA1, cA2, cA3, cA4, cA5⟩ := box6 HBA.out (Below.refl _ _)
    go_wp2_with fail
    clear hW
    refine Calls.mono (HY1.out _) ?_
    rintro e u20_ ⟨rfl, hb⟩
    clear cM0 cM1 fM0 fM1 cN0 cN1 fN0 fN1 cA0 cA1 cA2 cA3 cA4 cA5
    replace HBA := hid (HBA.out.later hb HBA.out.lt)
    replace HBB := hid (HBB.out.later hb HBB.out.lt)
    replace HBP := hid (HBP.out.later hb HBP.out.lt)
    replace HBQ := hid (HBQ.out.later hb HBQ.out.lt)
    replace HBX := hid (HBX.out.later hb HBX.out.lt)
    replace HBG := hid (HBG.out.later hb HBG.out.lt)
    replace HBH := hid (HBH.out.later hb HBH.out.lt)
    replace HBC := hid (HBC.out.later hb HBC.out.lt)
    replace HBM := hid (HBM.out.later hb HBM.out.lt)
    replace HBN := hid (HBN.out.later hb HBN.out.lt)
    replace HB := hid (b2 HB.out hb)
    clear hb
    have oXY : u6_.heap.size < u20_.heap.size := HBX.out.lt
    have HN := hid (boxes1 u20_ 26 #[.int .i64 x1, .int .i64 x2])
    obtain ⟨u21_, hW⟩ : ∃ z, u20_.alloc (.cells #[.int .i64 x1, .int .i64 x2] 26) = z := ⟨_, rfl⟩
    rw [hW] at HN
    replace HBA := hid (HBA.out.later HN.out.2 HBA.out.lt)
    replace HBB := hid (HBB.out.later HN.out.2 HBB.out.lt)
    replace HBP := hid (HBP.out.later HN.out.2 HBP.out.lt)
    replace HBQ := hid (HBQ.out.later HN.out.2 HBQ.out.lt)
    replace HBX := hid (HBX.out.later HN.out.2 HBX.out.lt)
    replace HBG := hid (HBG.out.later HN.out.2 HBG.out.lt)
    replace HBH := hid (HBH.out.later HN.out.2 HBH.out.lt)
    replace HBC := hid (HBC.out.later HN.out.2 HBC.out.lt)
    replace HBM := hid (HBM.out.later HN.out.2 HBM.out.lt)
    replace HBN := hid (HBN.out.later HN.out.2 HBN.out.lt)
    replace HB := hid (b2 HB.out HN.out.2)
    have HBY := hid HN.out.1
    clear HN
    obtain ⟨cA0, cA1, cA2, cA3, cA4, cA5⟩ := box6 HBA.out (Below.refl _ _)
    go_wp2_with fail
    clear hW
    refine Calls.mono (HV.out _) ?_
    rintro e u22_ ⟨rfl, hb⟩
    clear cA0 cA1 cA2 cA3 cA4 cA5
    replace HBA := hid (HBA.out.later hb HBA.out.lt)
    replace HBB := hid (HBB.out.later hb HBB.out.lt)
    replace HBP := hid (HBP.out.later hb HBP.out.lt)
    replace HBQ := hid (HBQ.out.later hb HBQ.out.lt)
    replace HBX := hid (HBX.out.later hb HBX.out.lt)
    replace HBG := hid (HBG.out.later hb HBG.out.lt)
    replace HBH := hid (HBH.out.later hb HBH.out.lt)
    replace HBC := hid (HBC.out.later hb HBC.out.lt)
    replace HBM := hid (HBM.out.later hb HBM.out.lt)
    replace HBN := hid (HBN.out.later hb HBN.out.lt)
    replace HBY := hid (HBY.out.later hb HBY.out.lt)
    replace HB := hid (b2 HB.out hb)
    clear hb
    have oXV : u6_.heap.size < u22_.heap.size := HBX.out.lt
    have HN := hid (boxes1 u22_ 26 #[.int .i64 v1, .int .i64 v2])
    obtain ⟨u23_, hW⟩ : ∃ z, u22_.alloc (.cells #[.int .i64 v1, .int .i64 v2] 26) = z := ⟨_, rfl⟩
    rw [hW] at HN
    replace HBA := hid (HBA.out.later HN.out.2 HBA.out.lt)
    replace HBB := hid (HBB.out.later HN.out.2 HBB.out.lt)
    replace HBP := hid (HBP.out.later HN.out.2 HBP.out.lt)
    replace HBQ := hid (HBQ.out.later HN.out.2 HBQ.out.lt)
    replace HBX := hid (HBX.out.later HN.out.2 HBX.out.lt)
    replace HBG := hid (HBG.out.later HN.out.2 HBG.out.lt)
    replace HBH := hid (HBH.out.later HN.out.2 HBH.out.lt)
    replace HBC := hid (HBC.out.later HN.out.2 HBC.out.lt)
    replace HBM := hid (HBM.out.later HN.out.2 HBM.out.lt)
    replace HBN := hid (HBN.out.later HN.out.2 HBN.out.lt)
    replace HBY := hid (HBY.out.later HN.out.2 HBY.out.lt)
    replace HB := hid (b2 HB.out HN.out.2)
    have HBV := hid HN.out.1
    clear HN
    obtain ⟨cP0, cP1, fP0, fP1⟩ := fbox_facts HBP.out (Below.refl _ _)
    obtain ⟨cV0, cV1, fV0, fV1⟩ := fbox_facts HBV.out (Below.refl _ _)
    go_wp2_with fail
    clear hW
    refine Calls.mono (HY2.out _) ?_
    rintro e u24_ ⟨rfl, hb⟩
    clear cP0 cP1 fP0 fP1 cV0 cV1 fV0 fV1
    replace HBA := hid (HBA.out.later hb HBA.out.lt)
    replace HBB := hid (HBB.out.later hb HBB.out.lt)
    replace HBP := hid (HBP.out.later hb HBP.out.lt)
    replace HBQ := hid (HBQ.out.later hb HBQ.out.lt)
    replace HBX := hid (HBX.out.later hb HBX.out.lt)
    replace HBG := hid (HBG.out.later hb HBG.out.lt)
    replace HBH := hid (HBH.out.later hb HBH.out.lt)
    replace HBC := hid (HBC.out.later hb HBC.out.lt)
    replace HBM := hid (HBM.out.later hb HBM.out.lt)
    replace HBN := hid (HBN.out.later hb HBN.out.lt)
    replace HBY := hid (HBY.out.later hb HBY.out.lt)
    replace HBV := hid (HBV.out.later hb HBV.out.lt)
    replace HB := hid (b2 HB.out hb)
    clear hb
    have oXZ : u6_.heap.size < u24_.heap.size := HBX.out.lt
    have HN := hid (boxes1 u24_ 26 #[.int .i64 x1, .int .i64 x2])
    obtain ⟨u25_, hW⟩ : ∃ z, u24_.alloc (.cells #[.int .i64 x1, .int .i64 x2] 26) = z := ⟨_, rfl⟩
    rw [hW] at HN
    replace HBA := hid (HBA.out.later HN.out.2 HBA.out.lt)
    replace HBB := hid (HBB.out.later HN.out.2 HBB.out.lt)
    replace HBP := hid (HBP.out.later HN.out.2 HBP.out.lt)
    replace HBQ := hid (HBQ.out.later HN.out.2 HBQ.out.lt)
    replace HBX := hid (HBX.out.later HN.out.2 HBX.out.lt)
    replace HBG := hid (HBG.out.later HN.out.2 HBG.out.lt)
    replace HBH := hid (HBH.out.later HN.out.2 HBH.out.lt)
    replace HBC := hid (HBC.out.later HN.out.2 HBC.out.lt)
    replace HBM := hid (HBM.out.later HN.out.2 HBM.out.lt)
    replace HBN := hid (HBN.out.later HN.out.2 HBN.out.lt)
    replace HBY := hid (HBY.out.later HN.out.2 HBY.out.lt)
    replace HBV := hid (HBV.out.later HN.out.2 HBV.out.lt)
    replace HB := hid (b2 HB.out HN.out.2)
    have HBZ := hid HN.out.1
    clear HN
    obtain ⟨cY0, cY1, fY0, fY1⟩ := fbox_facts HBY.out (Below.refl _ _)
    obtain ⟨cZ0, cZ1, fZ0, fZ1⟩ := fbox_facts HBZ.out (Below.refl _ _)
    go_wp2_with fail
    all_goals first | (go_ret; exact ⟨rfl, HB.out⟩) | (go_ret; exact ⟨rfl, HB.out.drew⟩)
  · have h1 : ¬ (t : Int) < 1048576 := by omega
    clear hlt ht HX
    generalize (t : Int) = ti at *
    go_wp2_with fail
    all_goals first | (go_ret; exact ⟨rfl, HB.out⟩) | (go_ret; exact ⟨rfl, HB.out.drew⟩)

set_option maxHeartbeats 3200000 in
set_option maxRecDepth 100000 in
theorem dogroup_00 (a b : Nat → Int) (t : Nat) (w : World) (ha : dOK a) (hb : dOK b) (ht : t ≤ 1048576) (hT : ¬ dOK (dJ a b 1)) (hO : ¬ dOK (dJ a b (-1))) :
    Calls Try.prog 4 #[.agg (doA a), .agg (doA b), .int .i64 (t : Int)] w fun e w' => e = .returned (.bool true) ∧ Below w.heap.size w w' := by
  have HL := hid (fun V => dolives_any V)
  have HP := hid (fun V => dophase_ok a t V ha ht)
  obtain ⟨p1, p2, ep, op, _⟩ := circ_told (dU a t)
  rw [ep, show tV (p1, p2, 0) = Value.tuple #[.agg #[.int .i64 p1, .int .i64 p2], .int .i64 0] from rfl] at HP
  have HQ := hid (fun V => dophase_ok b t V hb ht)
  obtain ⟨q1, q2, eq, oq, _⟩ := circ_told (dU b t)
  rw [eq, show tV (q1, q2, 0) = Value.tuple #[.agg #[.int .i64 q1, .int .i64 q2], .int .i64 0] from rfl] at HQ
  have HT := hid (fun V => dotimes_any a b V)
  have HO := hid (fun V => doover_any a b V)
  rw [dJR_no (fun h => hT h.2.2)] at HT
  rw [dJR_no (fun h => hO h.2.2)] at HO
  have HC := hid (fun V => doconj_any a V)
  rw [dJR_ok ⟨fun _ _ => ⟨by decide, by decide⟩, ha, dJ_back_ok ha⟩] at HC
  have HM := hid (fun V => dophase_ok (dJ (fun _ => 0) a (-1)) t V (dJ_back_ok ha) ht)
  obtain ⟨m1, m2, em, om, _⟩ := circ_told (dU (dJ (fun _ => 0) a (-1)) t)
  rw [em, show tV (m1, m2, 0) = Value.tuple #[.agg #[.int .i64 m1, .int .i64 m2], .int .i64 0] from rfl] at HM
  have HN1 := hid (fun V => tneg_any p1 p2 V (dok_in op))
  rw [neg_circ ep, ← dJ_back, em, show tV (m1, m2, 0) = Value.tuple #[.agg #[.int .i64 m1, .int .i64 m2], .int .i64 0] from rfl] at HN1
  have HV := hid (fun V => dospeed_ok a V ha)
  obtain ⟨v1, v2, ev, ov, _⟩ := circ_told (dV a)
  rw [ev, show tV (v1, v2, 0) = Value.tuple #[.agg #[.int .i64 v1, .int .i64 v2], .int .i64 0] from rfl] at HV
  have HX : Hid (t < 1048576 → ∃ x1 x2 : Int, (∀ V, Calls Try.prog 7 #[.agg (doA a), .int .i64 ((t : Int) + 1)] V fun e w' => e = .returned (.tuple #[.agg #[.int .i64 x1, .int .i64 x2], .int .i64 0]) ∧ Below V.heap.size V w') ∧ (∀ V, Calls Try.prog 24 #[.agg #[.int .i64 p1, .int .i64 p2], .agg #[.int .i64 v1, .int .i64 v2]] V fun e w' => e = .returned (.tuple #[.agg #[.int .i64 x1, .int .i64 x2], .int .i64 0]) ∧ Below V.heap.size V w')) := fun hlt => by
    obtain ⟨x1, x2, ex, ox, _⟩ := circ_told (dU a (t + 1))
    refine ⟨x1, x2, fun V => ?_, fun V => ?_⟩
    · have e := dophase_ok a (t + 1) V ha hlt
      rw [ex, show tV (x1, x2, 0) = Value.tuple #[.agg #[.int .i64 x1, .int .i64 x2], .int .i64 0] from rfl] at e
      exact e
    · have e := tadd_any p1 p2 v1 v2 V (dok_in op) (dok_in ov)
      rw [add_circ ep ev, ← dU_next, ex, show tV (x1, x2, 0) = Value.tuple #[.agg #[.int .i64 x1, .int .i64 x2], .int .i64 0] from rfl] at e
      exact e
  clear ep op eq oq ev ov em om ha hb hT hO
  have HB0 := hid (dboxes2 w 24 24 (doA a) (doA b))
  obtain ⟨X, hW⟩ : ∃ X, (w.alloc (.cells (doA a) 24)).alloc (.cells (doA b) 24) = X := ⟨_, rfl⟩
  rw [hW] at HB0
  unfold doA at *
  generalize a 0 = aa0 at *
  generalize a 1 = aa1 at *
  generalize a 2 = aa2 at *
  generalize a 3 = aa3 at *
  generalize a 4 = aa4 at *
  generalize a 5 = aa5 at *
  generalize b 0 = bb0 at *
  generalize b 1 = bb1 at *
  generalize b 2 = bb2 at *
  generalize b 3 = bb3 at *
  generalize b 4 = bb4 at *
  generalize b 5 = bb5 at *
  generalize dJ (fun _ => 0) a (-1) 0 = cc0 at *
  generalize dJ (fun _ => 0) a (-1) 1 = cc1 at *
  generalize dJ (fun _ => 0) a (-1) 2 = cc2 at *
  generalize dJ (fun _ => 0) a (-1) 3 = cc3 at *
  generalize dJ (fun _ => 0) a (-1) 4 = cc4 at *
  generalize dJ (fun _ => 0) a (-1) 5 = cc5 at *
  obtain ⟨xx0, xx1, xx2, xx3, xx4, xx5, HZx⟩ : ∃ xx0 xx1 xx2 xx3 xx4 xx5 : Int, Hid (xx0 = 0 ∧ xx1 = 0 ∧ xx2 = 0 ∧ xx3 = 0 ∧ xx4 = 0 ∧ xx5 = 0) := ⟨_, _, _, _, _, _, ⟨rfl, rfl, rfl, rfl, rfl, rfl⟩⟩
  have hZ : (#[.int .i8 0, .int .i8 0, .int .i8 0, .int .i8 0, .int .i8 0, .int .i8 0] : Array Value) = #[.int .i8 xx0, .int .i8 xx1, .int .i8 xx2, .int .i8 xx3, .int .i8 xx4, .int .i8 xx5] := by obtain ⟨rfl, rfl, rfl, rfl, rfl, rfl⟩ := HZx.out; rfl
  rw [hZ] at HT
  clear hZ HZx
  obtain ⟨yy0, yy1, yy2, yy3, yy4, yy5, HZy⟩ : ∃ yy0 yy1 yy2 yy3 yy4 yy5 : Int, Hid (yy0 = 0 ∧ yy1 = 0 ∧ yy2 = 0 ∧ yy3 = 0 ∧ yy4 = 0 ∧ yy5 = 0) := ⟨_, _, _, _, _, _, ⟨rfl, rfl, rfl, rfl, rfl, rfl⟩⟩
  have hZ : (#[.int .i8 0, .int .i8 0, .int .i8 0, .int .i8 0, .int .i8 0, .int .i8 0] : Array Value) = #[.int .i8 yy0, .int .i8 yy1, .int .i8 yy2, .int .i8 yy3, .int .i8 yy4, .int .i8 yy5] := by obtain ⟨rfl, rfl, rfl, rfl, rfl, rfl⟩ := HZy.out; rfl
  rw [hZ] at HO
  clear hZ HZy
  have HBA := hid HB0.out.1
  have HBB := hid HB0.out.2.1
  have HB := hid HB0.out.2.2
  clear HB0
  go_enter Try.func4, Try.ntmps4
  go_wp2_with fail
  clear hW
  refine Calls.mono (HL.out _) ?_
  rintro e u1_ ⟨rfl, hb⟩
  replace HBA := hid (HBA.out.later hb HBA.out.lt)
  replace HBB := hid (HBB.out.later hb HBB.out.lt)
  replace HB := hid (b2 HB.out hb)
  clear hb
  obtain ⟨cA0, cA1, cA2, cA3, cA4, cA5⟩ := box6 HBA.out (Below.refl _ _)
  go_wp2_with fail
  refine Calls.mono (HP.out _) ?_
  rintro e u2_ ⟨rfl, hb⟩
  clear cA0 cA1 cA2 cA3 cA4 cA5
  replace HBA := hid (HBA.out.later hb HBA.out.lt)
  replace HBB := hid (HBB.out.later hb HBB.out.lt)
  replace HB := hid (b2 HB.out hb)
  clear hb
  have HN := hid (boxes1 u2_ 26 #[.int .i64 p1, .int .i64 p2])
  obtain ⟨u3_, hW⟩ : ∃ z, u2_.alloc (.cells #[.int .i64 p1, .int .i64 p2] 26) = z := ⟨_, rfl⟩
  rw [hW] at HN
  replace HBA := hid (HBA.out.later HN.out.2 HBA.out.lt)
  replace HBB := hid (HBB.out.later HN.out.2 HBB.out.lt)
  replace HB := hid (b2 HB.out HN.out.2)
  have HBP := hid HN.out.1
  clear HN
  obtain ⟨cB0, cB1, cB2, cB3, cB4, cB5⟩ := box6 HBB.out (Below.refl _ _)
  go_wp2_with fail
  clear hW
  refine Calls.mono (HQ.out _) ?_
  rintro e u4_ ⟨rfl, hb⟩
  clear cB0 cB1 cB2 cB3 cB4 cB5
  replace HBA := hid (HBA.out.later hb HBA.out.lt)
  replace HBB := hid (HBB.out.later hb HBB.out.lt)
  replace HBP := hid (HBP.out.later hb HBP.out.lt)
  replace HB := hid (b2 HB.out hb)
  clear hb
  have HN := hid (boxes1 u4_ 26 #[.int .i64 q1, .int .i64 q2])
  obtain ⟨u5_, hW⟩ : ∃ z, u4_.alloc (.cells #[.int .i64 q1, .int .i64 q2] 26) = z := ⟨_, rfl⟩
  rw [hW] at HN
  replace HBA := hid (HBA.out.later HN.out.2 HBA.out.lt)
  replace HBB := hid (HBB.out.later HN.out.2 HBB.out.lt)
  replace HBP := hid (HBP.out.later HN.out.2 HBP.out.lt)
  replace HB := hid (b2 HB.out HN.out.2)
  have HBQ := hid HN.out.1
  clear HN
  obtain ⟨cA0, cA1, cA2, cA3, cA4, cA5⟩ := box6 HBA.out (Below.refl _ _)
  obtain ⟨cB0, cB1, cB2, cB3, cB4, cB5⟩ := box6 HBB.out (Below.refl _ _)
  go_wp2_with fail
  clear hW
  refine Calls.mono (HT.out _) ?_
  rintro e u6_ ⟨rfl, hb⟩
  clear cA0 cA1 cA2 cA3 cA4 cA5 cB0 cB1 cB2 cB3 cB4 cB5
  replace HBA := hid (HBA.out.later hb HBA.out.lt)
  replace HBB := hid (HBB.out.later hb HBB.out.lt)
  replace HBP := hid (HBP.out.later hb HBP.out.lt)
  replace HBQ := hid (HBQ.out.later hb HBQ.out.lt)
  replace HB := hid (b2 HB.out hb)
  clear hb
  have oX : w.heap.size ≤ u6_.heap.size := HB.out.size
  have oXA : w.heap.size < u6_.heap.size := HBA.out.lt
  have oXB : w.heap.size + 1 < u6_.heap.size := HBB.out.lt
  have oXP : u2_.heap.size < u6_.heap.size := HBP.out.lt
  have oXQ : u4_.heap.size < u6_.heap.size := HBQ.out.lt
  have HN := hid (boxes1 u6_ 24 #[.int .i8 xx0, .int .i8 xx1, .int .i8 xx2, .int .i8 xx3, .int .i8 xx4, .int .i8 xx5])
  obtain ⟨u7_, hW⟩ : ∃ z, u6_.alloc (.cells #[.int .i8 xx0, .int .i8 xx1, .int .i8 xx2, .int .i8 xx3, .int .i8 xx4, .int .i8 xx5] 24) = z := ⟨_, rfl⟩
  rw [hW] at HN
  replace HBA := hid (HBA.out.later HN.out.2 HBA.out.lt)
  replace HBB := hid (HBB.out.later HN.out.2 HBB.out.lt)
  replace HBP := hid (HBP.out.later HN.out.2 HBP.out.lt)
  replace HBQ := hid (HBQ.out.later HN.out.2 HBQ.out.lt)
  replace HB := hid (b2 HB.out HN.out.2)
  have HBX := hid HN.out.1
  clear HN
  obtain ⟨cA0, cA1, cA2, cA3, cA4, cA5⟩ := box6 HBA.out (Below.refl _ _)
  obtain ⟨cB0, cB1, cB2, cB3, cB4, cB5⟩ := box6 HBB.out (Below.refl _ _)
  go_wp2_with fail
  clear hW
  refine Calls.mono (HO.out _) ?_
  rintro e u8_ ⟨rfl, hb⟩
  clear cA0 cA1 cA2 cA3 cA4 cA5 cB0 cB1 cB2 cB3 cB4 cB5
  replace HBA := hid (HBA.out.later hb HBA.out.lt)
  replace HBB := hid (HBB.out.later hb HBB.out.lt)
  replace HBP := hid (HBP.out.later hb HBP.out.lt)
  replace HBQ := hid (HBQ.out.later hb HBQ.out.lt)
  replace HBX := hid (HBX.out.later hb HBX.out.lt)
  replace HB := hid (b2 HB.out hb)
  clear hb
  have lA := HBA.out.lt
  have lB := HBB.out.lt
  have lP := HBP.out.lt
  have lQ := HBQ.out.lt
  have lX := HBX.out.lt
  obtain ⟨kX0, kX1, kX2, kX3, kX4, kX5⟩ := box6 HBX.out (Below.refl _ _)
  obtain ⟨fX0, fX1, fX2, fX3, fX4, fX5⟩ := free6 HBX.out (Below.refl _ _)
  have HTA_ := hid (HBA.out.off6 (show w.heap.size ≠ u6_.heap.size by omega) (.int .i8 yy0) (.int .i8 yy1) (.int .i8 yy2) (.int .i8 yy3) (.int .i8 yy4) (.int .i8 yy5))
  have HTB_ := hid (HBB.out.off6 (show w.heap.size + 1 ≠ u6_.heap.size by omega) (.int .i8 yy0) (.int .i8 yy1) (.int .i8 yy2) (.int .i8 yy3) (.int .i8 yy4) (.int .i8 yy5))
  have HTP_ := hid (HBP.out.off6 (show u2_.heap.size ≠ u6_.heap.size by omega) (.int .i8 yy0) (.int .i8 yy1) (.int .i8 yy2) (.int .i8 yy3) (.int .i8 yy4) (.int .i8 yy5))
  have HTQ_ := hid (HBQ.out.off6 (show u4_.heap.size ≠ u6_.heap.size by omega) (.int .i8 yy0) (.int .i8 yy1) (.int .i8 yy2) (.int .i8 yy3) (.int .i8 yy4) (.int .i8 yy5))
  have HTX_ := hid (HBX.out.put6 (.int .i8 yy0) (.int .i8 yy1) (.int .i8 yy2) (.int .i8 yy3) (.int .i8 yy4) (.int .i8 yy5))
  have HT_ := hid (dput6 HB.out u6_.heap.size (by omega) (.int .i8 yy0) (.int .i8 yy1) (.int .i8 yy2) (.int .i8 yy3) (.int .i8 yy4) (.int .i8 yy5))
  obtain ⟨u9_, hW⟩ : ∃ z, ((((((u8_.setCell ⟨u6_.heap.size, 0, none⟩ (.int .i8 yy0)).setCell ⟨u6_.heap.size, 1, none⟩ (.int .i8 yy1)).setCell ⟨u6_.heap.size, 2, none⟩ (.int .i8 yy2)).setCell ⟨u6_.heap.size, 3, none⟩ (.int .i8 yy3)).setCell ⟨u6_.heap.size, 4, none⟩ (.int .i8 yy4)).setCell ⟨u6_.heap.size, 5, none⟩ (.int .i8 yy5)) = z := ⟨_, rfl⟩
  rw [hW] at HT_ HTA_ HTB_ HTP_ HTQ_ HTX_
  clear HB HBA HBB HBP HBQ HBX
  have HB := HT_
  have HBA := HTA_
  have HBB := HTB_
  have HBP := HTP_
  have HBQ := HTQ_
  have HBX := HTX_
  clear HT_ HTA_ HTB_ HTP_ HTQ_ HTX_
  obtain ⟨cA0, cA1, cA2, cA3, cA4, cA5⟩ := box6 HBA.out (Below.refl _ _)
  go_wp2_with fail
  clear kX0 kX1 kX2 kX3 kX4 kX5 fX0 fX1 fX2 fX3 fX4 fX5 cA0 cA1 cA2 cA3 cA4 cA5
  clear hW
  refine Calls.mono (HC.out _) ?_
  rintro e u10_ ⟨rfl, hb⟩
  replace HBA := hid (HBA.out.later hb HBA.out.lt)
  replace HBB := hid (HBB.out.later hb HBB.out.lt)
  replace HBP := hid (HBP.out.later hb HBP.out.lt)
  replace HBQ := hid (HBQ.out.later hb HBQ.out.lt)
  replace HBX := hid (HBX.out.later hb HBX.out.lt)
  replace HB := hid (b2 HB.out hb)
  clear hb
  have oXC : u6_.heap.size < u10_.heap.size := HBX.out.lt
  have HN := hid (boxes1 u10_ 24 #[.int .i8 cc0, .int .i8 cc1, .int .i8 cc2, .int .i8 cc3, .int .i8 cc4, .int .i8 cc5])
  obtain ⟨u11_, hW⟩ : ∃ z, u10_.alloc (.cells #[.int .i8 cc0, .int .i8 cc1, .int .i8 cc2, .int .i8 cc3, .int .i8 cc4, .int .i8 cc5] 24) = z := ⟨_, rfl⟩
  rw [hW] at HN
  replace HBA := hid (HBA.out.later HN.out.2 HBA.out.lt)
  replace HBB := hid (HBB.out.later HN.out.2 HBB.out.lt)
  replace HBP := hid (HBP.out.later HN.out.2 HBP.out.lt)
  replace HBQ := hid (HBQ.out.later HN.out.2 HBQ.out.lt)
  replace HBX := hid (HBX.out.later HN.out.2 HBX.out.lt)
  replace HB := hid (b2 HB.out HN.out.2)
  have HBC := hid HN.out.1
  clear HN
  obtain ⟨cC0, cC1, cC2, cC3, cC4, cC5⟩ := box6 HBC.out (Below.refl _ _)
  go_wp2_with fail
  clear hW
  refine Calls.mono (HM.out _) ?_
  rintro e u12_ ⟨rfl, hb⟩
  clear cC0 cC1 cC2 cC3 cC4 cC5
  replace HBA := hid (HBA.out.later hb HBA.out.lt)
  replace HBB := hid (HBB.out.later hb HBB.out.lt)
  replace HBP := hid (HBP.out.later hb HBP.out.lt)
  replace HBQ := hid (HBQ.out.later hb HBQ.out.lt)
  replace HBX := hid (HBX.out.later hb HBX.out.lt)
  replace HBC := hid (HBC.out.later hb HBC.out.lt)
  replace HB := hid (b2 HB.out hb)
  clear hb
  have oXM : u6_.heap.size < u12_.heap.size := HBX.out.lt
  have HN := hid (boxes1 u12_ 26 #[.int .i64 m1, .int .i64 m2])
  obtain ⟨u13_, hW⟩ : ∃ z, u12_.alloc (.cells #[.int .i64 m1, .int .i64 m2] 26) = z := ⟨_, rfl⟩
  rw [hW] at HN
  replace HBA := hid (HBA.out.later HN.out.2 HBA.out.lt)
  replace HBB := hid (HBB.out.later HN.out.2 HBB.out.lt)
  replace HBP := hid (HBP.out.later HN.out.2 HBP.out.lt)
  replace HBQ := hid (HBQ.out.later HN.out.2 HBQ.out.lt)
  replace HBX := hid (HBX.out.later HN.out.2 HBX.out.lt)
  replace HBC := hid (HBC.out.later HN.out.2 HBC.out.lt)
  replace HB := hid (b2 HB.out HN.out.2)
  have HBM := hid HN.out.1
  clear HN
  obtain ⟨cP0, cP1, fP0, fP1⟩ := fbox_facts HBP.out (Below.refl _ _)
  go_wp2_with fail
  clear hW
  refine Calls.mono (HN1.out _) ?_
  rintro e u14_ ⟨rfl, hb⟩
  clear cP0 cP1 fP0 fP1
  replace HBA := hid (HBA.out.later hb HBA.out.lt)
  replace HBB := hid (HBB.out.later hb HBB.out.lt)
  replace HBP := hid (HBP.out.later hb HBP.out.lt)
  replace HBQ := hid (HBQ.out.later hb HBQ.out.lt)
  replace HBX := hid (HBX.out.later hb HBX.out.lt)
  replace HBC := hid (HBC.out.later hb HBC.out.lt)
  replace HBM := hid (HBM.out.later hb HBM.out.lt)
  replace HB := hid (b2 HB.out hb)
  clear hb
  have oXN : u6_.heap.size < u14_.heap.size := HBX.out.lt
  have HN := hid (boxes1 u14_ 26 #[.int .i64 m1, .int .i64 m2])
  obtain ⟨u15_, hW⟩ : ∃ z, u14_.alloc (.cells #[.int .i64 m1, .int .i64 m2] 26) = z := ⟨_, rfl⟩
  rw [hW] at HN
  replace HBA := hid (HBA.out.later HN.out.2 HBA.out.lt)
  replace HBB := hid (HBB.out.later HN.out.2 HBB.out.lt)
  replace HBP := hid (HBP.out.later HN.out.2 HBP.out.lt)
  replace HBQ := hid (HBQ.out.later HN.out.2 HBQ.out.lt)
  replace HBX := hid (HBX.out.later HN.out.2 HBX.out.lt)
  replace HBC := hid (HBC.out.later HN.out.2 HBC.out.lt)
  replace HBM := hid (HBM.out.later HN.out.2 HBM.out.lt)
  replace HB := hid (b2 HB.out HN.out.2)
  have HBN := hid HN.out.1
  clear HN
  obtain ⟨cM0, cM1, fM0, fM1⟩ := fbox_facts HBM.out (Below.refl _ _)
  obtain ⟨cN0, cN1, fN0, fN1⟩ := fbox_facts HBN.out (Below.refl _ _)
  by_cases hlt : t < 1048576
  · obtain ⟨x1, x2, HX1, HX2⟩ := HX.out hlt
    have HY1 := hid HX1
    have HY2 := hid HX2
    clear HX1 HX2 HX
    have e1 : IntKind.i64.wrap ((t : Int) + 1) = (t : Int) + 1 := by rw [IntKind.wrap_i64]; omega
    have h1 : (t : Int) < 1048576 := by omega
    clear hlt ht
    generalize (t : Int) = ti at *
    obtain ⟨cA0, cA1, cA2, cA3, cA4, cA5⟩ := box6 HBA.out (Below.refl _ _)
    go_wp2_with fail
    clear hW
    refine Calls.mono (HY1.out _) ?_
    rintro e u16_ ⟨rfl, hb⟩
    clear cM0 cM1 fM0 fM1 cN0 cN1 fN0 fN1 cA0 cA1 cA2 cA3 cA4 cA5
    replace HBA := hid (HBA.out.later hb HBA.out.lt)
    replace HBB := hid (HBB.out.later hb HBB.out.lt)
    replace HBP := hid (HBP.out.later hb HBP.out.lt)
    replace HBQ := hid (HBQ.out.later hb HBQ.out.lt)
    replace HBX := hid (HBX.out.later hb HBX.out.lt)
    replace HBC := hid (HBC.out.later hb HBC.out.lt)
    replace HBM := hid (HBM.out.later hb HBM.out.lt)
    replace HBN := hid (HBN.out.later hb HBN.out.lt)
    replace HB := hid (b2 HB.out hb)
    clear hb
    have oXY : u6_.heap.size < u16_.heap.size := HBX.out.lt
    have HN := hid (boxes1 u16_ 26 #[.int .i64 x1, .int .i64 x2])
    obtain ⟨u17_, hW⟩ : ∃ z, u16_.alloc (.cells #[.int .i64 x1, .int .i64 x2] 26) = z := ⟨_, rfl⟩
    rw [hW] at HN
    replace HBA := hid (HBA.out.later HN.out.2 HBA.out.lt)
    replace HBB := hid (HBB.out.later HN.out.2 HBB.out.lt)
    replace HBP := hid (HBP.out.later HN.out.2 HBP.out.lt)
    replace HBQ := hid (HBQ.out.later HN.out.2 HBQ.out.lt)
    replace HBX := hid (HBX.out.later HN.out.2 HBX.out.lt)
    replace HBC := hid (HBC.out.later HN.out.2 HBC.out.lt)
    replace HBM := hid (HBM.out.later HN.out.2 HBM.out.lt)
    replace HBN := hid (HBN.out.later HN.out.2 HBN.out.lt)
    replace HB := hid (b2 HB.out HN.out.2)
    have HBY := hid HN.out.1
    clear HN
    obtain ⟨cA0, cA1, cA2, cA3, cA4, cA5⟩ := box6 HBA.out (Below.refl _ _)
    go_wp2_with fail
    clear hW
    refine Calls.mono (HV.out _) ?_
    rintro e u18_ ⟨rfl, hb⟩
    clear cA0 cA1 cA2 cA3 cA4 cA5
    replace HBA := hid (HBA.out.later hb HBA.out.lt)
    replace HBB := hid (HBB.out.later hb HBB.out.lt)
    replace HBP := hid (HBP.out.later hb HBP.out.lt)
    replace HBQ := hid (HBQ.out.later hb HBQ.out.lt)
    replace HBX := hid (HBX.out.later hb HBX.out.lt)
    replace HBC := hid (HBC.out.later hb HBC.out.lt)
    replace HBM := hid (HBM.out.later hb HBM.out.lt)
    replace HBN := hid (HBN.out.later hb HBN.out.lt)
    replace HBY := hid (HBY.out.later hb HBY.out.lt)
    replace HB := hid (b2 HB.out hb)
    clear hb
    have oXV : u6_.heap.size < u18_.heap.size := HBX.out.lt
    have HN := hid (boxes1 u18_ 26 #[.int .i64 v1, .int .i64 v2])
    obtain ⟨u19_, hW⟩ : ∃ z, u18_.alloc (.cells #[.int .i64 v1, .int .i64 v2] 26) = z := ⟨_, rfl⟩
    rw [hW] at HN
    replace HBA := hid (HBA.out.later HN.out.2 HBA.out.lt)
    replace HBB := hid (HBB.out.later HN.out.2 HBB.out.lt)
    replace HBP := hid (HBP.out.later HN.out.2 HBP.out.lt)
    replace HBQ := hid (HBQ.out.later HN.out.2 HBQ.out.lt)
    replace HBX := hid (HBX.out.later HN.out.2 HBX.out.lt)
    replace HBC := hid (HBC.out.later HN.out.2 HBC.out.lt)
    replace HBM := hid (HBM.out.later HN.out.2 HBM.out.lt)
    replace HBN := hid (HBN.out.later HN.out.2 HBN.out.lt)
    replace HBY := hid (HBY.out.later HN.out.2 HBY.out.lt)
    replace HB := hid (b2 HB.out HN.out.2)
    have HBV := hid HN.out.1
    clear HN
    obtain ⟨cP0, cP1, fP0, fP1⟩ := fbox_facts HBP.out (Below.refl _ _)
    obtain ⟨cV0, cV1, fV0, fV1⟩ := fbox_facts HBV.out (Below.refl _ _)
    go_wp2_with fail
    clear hW
    refine Calls.mono (HY2.out _) ?_
    rintro e u20_ ⟨rfl, hb⟩
    clear cP0 cP1 fP0 fP1 cV0 cV1 fV0 fV1
    replace HBA := hid (HBA.out.later hb HBA.out.lt)
    replace HBB := hid (HBB.out.later hb HBB.out.lt)
    replace HBP := hid (HBP.out.later hb HBP.out.lt)
    replace HBQ := hid (HBQ.out.later hb HBQ.out.lt)
    replace HBX := hid (HBX.out.later hb HBX.out.lt)
    replace HBC := hid (HBC.out.later hb HBC.out.lt)
    replace HBM := hid (HBM.out.later hb HBM.out.lt)
    replace HBN := hid (HBN.out.later hb HBN.out.lt)
    replace HBY := hid (HBY.out.later hb HBY.out.lt)
    replace HBV := hid (HBV.out.later hb HBV.out.lt)
    replace HB := hid (b2 HB.out hb)
    clear hb
    have oXZ : u6_.heap.size < u20_.heap.size := HBX.out.lt
    have HN := hid (boxes1 u20_ 26 #[.int .i64 x1, .int .i64 x2])
    obtain ⟨u21_, hW⟩ : ∃ z, u20_.alloc (.cells #[.int .i64 x1, .int .i64 x2] 26) = z := ⟨_, rfl⟩
    rw [hW] at HN
    replace HBA := hid (HBA.out.later HN.out.2 HBA.out.lt)
    replace HBB := hid (HBB.out.later HN.out.2 HBB.out.lt)
    replace HBP := hid (HBP.out.later HN.out.2 HBP.out.lt)
    replace HBQ := hid (HBQ.out.later HN.out.2 HBQ.out.lt)
    replace HBX := hid (HBX.out.later HN.out.2 HBX.out.lt)
    replace HBC := hid (HBC.out.later HN.out.2 HBC.out.lt)
    replace HBM := hid (HBM.out.later HN.out.2 HBM.out.lt)
    replace HBN := hid (HBN.out.later HN.out.2 HBN.out.lt)
    replace HBY := hid (HBY.out.later HN.out.2 HBY.out.lt)
    replace HBV := hid (HBV.out.later HN.out.2 HBV.out.lt)
    replace HB := hid (b2 HB.out HN.out.2)
    have HBZ := hid HN.out.1
    clear HN
    obtain ⟨cY0, cY1, fY0, fY1⟩ := fbox_facts HBY.out (Below.refl _ _)
    obtain ⟨cZ0, cZ1, fZ0, fZ1⟩ := fbox_facts HBZ.out (Below.refl _ _)
    go_wp2_with fail
    all_goals first | (go_ret; exact ⟨rfl, HB.out⟩) | (go_ret; exact ⟨rfl, HB.out.drew⟩)
  · have h1 : ¬ (t : Int) < 1048576 := by omega
    clear hlt ht HX
    generalize (t : Int) = ti at *
    go_wp2_with fail
    all_goals first | (go_ret; exact ⟨rfl, HB.out⟩) | (go_ret; exact ⟨rfl, HB.out.drew⟩)

set_option maxHeartbeats 1600000 in
set_option maxRecDepth 100000 in
theorem dogroup_bad (a b : Nat → Int) (t : Int) (E F : Int) (p1 p2 q1 q2 : Int) (w : World) (hE : E ≠ 0 ∧ p1 = 0 ∧ p2 = 0 ∨ E = 0 ∧ F ≠ 0)
    (HP : ∀ V, Calls Try.prog 7 #[.agg (doA a), .int .i64 t] V fun e w' => e = .returned (.tuple #[.agg #[.int .i64 p1, .int .i64 p2], .int .i64 E]) ∧ Below V.heap.size V w')
    (HQ : ∀ V, Calls Try.prog 7 #[.agg (doA b), .int .i64 t] V fun e w' => e = .returned (.tuple #[.agg #[.int .i64 q1, .int .i64 q2], .int .i64 F]) ∧ Below V.heap.size V w') :
    Calls Try.prog 4 #[.agg (doA a), .agg (doA b), .int .i64 t] w fun e w' => e = .returned (.bool true) ∧ Below w.heap.size w w' := by
  have HL := hid (fun V => dolives_any V)
  have HP := hid HP
  have HQ := hid HQ
  have HEE := hid hE
  clear hE
  have HB0 := hid (dboxes2 w 24 24 (doA a) (doA b))
  obtain ⟨X, hW⟩ : ∃ X, (w.alloc (.cells (doA a) 24)).alloc (.cells (doA b) 24) = X := ⟨_, rfl⟩
  rw [hW] at HB0
  unfold doA at *
  have HBA := hid HB0.out.1
  have HBB := hid HB0.out.2.1
  have HB := hid HB0.out.2.2
  clear HB0
  go_enter Try.func4, Try.ntmps4
  go_wp2_with fail
  clear hW
  refine Calls.mono (HL.out _) ?_
  rintro e u1_ ⟨rfl, hb⟩
  replace HBA := hid (HBA.out.later hb HBA.out.lt)
  replace HBB := hid (HBB.out.later hb HBB.out.lt)
  replace HB := hid (b2 HB.out hb)
  clear hb
  obtain ⟨cA0, cA1, cA2, cA3, cA4, cA5⟩ := box6 HBA.out (Below.refl _ _)
  go_wp2_with fail
  refine Calls.mono (HP.out _) ?_
  rintro e u2_ ⟨rfl, hb⟩
  clear cA0 cA1 cA2 cA3 cA4 cA5
  replace HBA := hid (HBA.out.later hb HBA.out.lt)
  replace HBB := hid (HBB.out.later hb HBB.out.lt)
  replace HB := hid (b2 HB.out hb)
  clear hb
  have HN := hid (boxes1 u2_ 26 #[.int .i64 p1, .int .i64 p2])
  obtain ⟨u3_, hW⟩ : ∃ z, u2_.alloc (.cells #[.int .i64 p1, .int .i64 p2] 26) = z := ⟨_, rfl⟩
  rw [hW] at HN
  replace HBA := hid (HBA.out.later HN.out.2 HBA.out.lt)
  replace HBB := hid (HBB.out.later HN.out.2 HBB.out.lt)
  replace HB := hid (b2 HB.out HN.out.2)
  have HBP := hid HN.out.1
  clear HN
  obtain ⟨cB0, cB1, cB2, cB3, cB4, cB5⟩ := box6 HBB.out (Below.refl _ _)
  go_wp2_with fail
  clear hW
  refine Calls.mono (HQ.out _) ?_
  rintro e u4_ ⟨rfl, hb⟩
  clear cB0 cB1 cB2 cB3 cB4 cB5
  replace HBA := hid (HBA.out.later hb HBA.out.lt)
  replace HBB := hid (HBB.out.later hb HBB.out.lt)
  replace HBP := hid (HBP.out.later hb HBP.out.lt)
  replace HB := hid (b2 HB.out hb)
  clear hb
  have HN := hid (boxes1 u4_ 26 #[.int .i64 q1, .int .i64 q2])
  obtain ⟨u5_, hW⟩ : ∃ z, u4_.alloc (.cells #[.int .i64 q1, .int .i64 q2] 26) = z := ⟨_, rfl⟩
  rw [hW] at HN
  replace HBA := hid (HBA.out.later HN.out.2 HBA.out.lt)
  replace HBB := hid (HBB.out.later HN.out.2 HBB.out.lt)
  replace HBP := hid (HBP.out.later HN.out.2 HBP.out.lt)
  replace HB := hid (b2 HB.out HN.out.2)
  have HBQ := hid HN.out.1
  clear HN
  obtain ⟨cP0, cP1, fP0, fP1⟩ := fbox_facts HBP.out (Below.refl _ _)
  rcases HEE.out with ⟨h1, rfl, rfl⟩ | ⟨rfl, h1⟩
  · have h2 : (E == 0) = false := by simpa using h1
    have h3 : (E != 0) = true := by simp [bne, h2]
    clear h1
    go_wp2_with fail
    all_goals first | (go_ret; exact ⟨rfl, HB.out⟩) | (go_ret; exact ⟨rfl, HB.out.drew⟩)
  · have h2 : (F == 0) = false := by simpa using h1
    have h3 : (F != 0) = true := by simp [bne, h2]
    clear h1
    go_wp2_with fail
    all_goals first | (go_ret; exact ⟨rfl, HB.out⟩) | (go_ret; exact ⟨rfl, HB.out.drew⟩)

theorem dogroup_any (a b : Nat → Int) (t : Int) (w : World) (ht : I64 t) :
    Calls Try.prog 4 #[.agg (doA a), .agg (doA b), .int .i64 t] w fun e w' => e = .returned (.bool true) ∧ Below w.heap.size w w' := by
  have HE : ∀ d : Nat → Int, (dOK d ∧ 0 ≤ t ∧ t ≤ 1048576) ∨ ∃ E : Int, E ≠ 0 ∧ ∀ V, Calls Try.prog 7 #[.agg (doA d), .int .i64 t] V fun e w' => e = .returned (.tuple #[.agg #[.int .i64 0, .int .i64 0], .int .i64 E]) ∧ Below V.heap.size V w' := fun d => by
    by_cases hd : dOK d
    · by_cases h : 0 ≤ t ∧ t ≤ 1048576
      · exact .inl ⟨hd, h⟩
      · exact .inr ⟨2, by decide, fun V => dophase_tick d t V hd ht h⟩
    · exact .inr ⟨210, by decide, fun V => dophase_err d t V hd⟩
  have HO : ∀ d : Nat → Int, dOK d → 0 ≤ t ∧ t ≤ 1048576 → ∃ p1 p2 : Int, ∀ V, Calls Try.prog 7 #[.agg (doA d), .int .i64 t] V fun e w' => e = .returned (.tuple #[.agg #[.int .i64 p1, .int .i64 p2], .int .i64 0]) ∧ Below V.heap.size V w' := fun d hd h => by
    obtain ⟨n, rfl⟩ := Int.eq_ofNat_of_zero_le h.1
    obtain ⟨p1, p2, e, _, _⟩ := circ_told (dU d n)
    refine ⟨p1, p2, fun V => ?_⟩
    have c := dophase_ok d n V hd (by omega)
    rw [e] at c
    exact c
  rcases HE a with ⟨ha, h⟩ | ⟨E, hE, HP⟩
  · rcases HE b with ⟨hb, _⟩ | ⟨F, hF, HQ⟩
    · obtain ⟨n, rfl⟩ := Int.eq_ofNat_of_zero_le h.1
      by_cases hT : dOK (dJ a b 1)
      · by_cases hO : dOK (dJ a b (-1))
        · exact dogroup_11 a b n w ha hb (by omega) hT hO
        · exact dogroup_10 a b n w ha hb (by omega) hT hO
      · by_cases hO : dOK (dJ a b (-1))
        · exact dogroup_01 a b n w ha hb (by omega) hT hO
        · exact dogroup_00 a b n w ha hb (by omega) hT hO
    · obtain ⟨p1, p2, HP⟩ := HO a ha h
      exact dogroup_bad a b t 0 F p1 p2 0 0 w (.inr ⟨rfl, hF⟩) HP HQ
  · rcases HE b with ⟨hb, h⟩ | ⟨F, hF, HQ⟩
    · obtain ⟨q1, q2, HQ⟩ := HO b hb h
      exact dogroup_bad a b t E 0 0 0 q1 q2 w (.inl ⟨hE, rfl, rfl⟩) HP HQ
    · exact dogroup_bad a b t E F 0 0 0 0 w (.inl ⟨hE, rfl, rfl⟩) HP HQ
end Go.Proofs.Ytphipjpdjimpgaa

/- package argument: All, of every tick. -/
namespace Go.Proofs.Ytphipjpdjimpgaa
open Go.RowKit
set_option linter.unusedVariables false

/-- The list while it is filled. -/
def agL (t k : Nat) : Array Value := ((List.range 6).map (fun j => if j < k then Value.int .i64 (agU j t : Int) else .int .i64 0)).toArray
theorem agL_set (t k : Nat) (hk : k < 6) : (agL t k).setIfInBounds k (.int .i64 (agU k t : Int)) = agL t (k + 1) := by
  rcases (show k = 0 ∨ k = 1 ∨ k = 2 ∨ k = 3 ∨ k = 4 ∨ k = 5 by omega) with rfl | rfl | rfl | rfl | rfl | rfl <;> rfl
theorem agL_at (t k : Nat) (hk : k < 6) : (agL t k)[k]? = some (.int .i64 0) := by
  rcases (show k = 0 ∨ k = 1 ∨ k = 2 ∨ k = 3 ∨ k = 4 ∨ k = 5 by omega) with rfl | rfl | rfl | rfl | rfl | rfl <;> rfl

end Go.Proofs.Ytphipjpdjimpgaa

/- package argument: Name, Find, of every number and text. -/
namespace Go.Proofs.Ytphipjpdjimpgaa
open Go.RowKit
set_option linter.unusedVariables false

theorem agstr_other {s t : ByteArray} (h : ¬ s = t) : (s.toList == t.toList) = false := by
  cases e : (s.toList == t.toList) with
  | false => rfl
  | true =>
    refine absurd ?_ h
    rw [beq_iff_eq, ByteArray.toList_eq, ByteArray.toList_eq, Array.toList_inj] at e
    exact ByteArray.ext e
/-- Which angle has this name, from k on. -/
def agFrom (s : ByteArray) : Nat → Nat → Option Nat
  | 0, _ => none
  | m + 1, k => if agN k = s then some k else agFrom s m (k + 1)
def agF (s : ByteArray) : Option Nat := agFrom s 6 0
def agFV (o : Option Nat) : Value := match o with
  | none => .tuple #[.int .i64 0, .bool false]
  | some k => .tuple #[.int .i64 (k : Int), .bool true]
theorem agFrom_step (s : ByteArray) (m k : Nat) : (agN k = s ∧ agFrom s (m + 1) k = some k) ∨ (agN k ≠ s ∧ agFrom s (m + 1) k = agFrom s m (k + 1)) := by
  have e : agFrom s (m + 1) k = if agN k = s then some k else agFrom s m (k + 1) := rfl
  rw [e]
  by_cases h : agN k = s
  · rw [if_pos h]; exact .inl ⟨h, rfl⟩
  · rw [if_neg h]; exact .inr ⟨h, rfl⟩

end Go.Proofs.Ytphipjpdjimpgaa

/- The document's angles: its table, which numbers may be, its units. -/
namespace Go.Proofs.Ytphipjpdjimpgaa
open Go.RowKit
set_option linter.unusedVariables false

def agok (k t : Int) : Bool := decide ((0 ≤ k ∧ k < 6) ∧ 0 ≤ t ∧ t ≤ 1048576)
theorem ahright_any (k t : Int) (w : World) (hk : I64 k) (ht : I64 t) :
    Calls Try.prog 52 #[.int .i64 k, .int .i64 t] w fun e w' => e = .returned (.bool (agok k t)) ∧ w' = w := by
  have HY : Hid (((0 ≤ k ∧ k < 6) ∧ 0 ≤ t ∧ t ≤ 1048576) → agok k t = true) := fun h => decide_eq_true h
  have HN : Hid (¬ ((0 ≤ k ∧ k < 6) ∧ 0 ≤ t ∧ t ≤ 1048576) → agok k t = false) := fun h => decide_eq_false h
  generalize agok k t = R at *
  obtain ⟨k0, k1⟩ := hk
  obtain ⟨t0, t1⟩ := ht
  by_cases a : 0 ≤ k
  · by_cases b : k < 6
    · by_cases c : 0 ≤ t
      · by_cases d : t ≤ 1048576
        · have e := HY.out ⟨⟨a, b⟩, c, d⟩
          subst e
          go_enter Try.func52, Try.ntmps52
          go_wp2_with fail
          go_ret
          exact ⟨ret_bool (by simp; try omega), rfl⟩
        · have e := HN.out (by omega)
          subst e
          go_enter Try.func52, Try.ntmps52
          go_wp2_with fail
          go_ret
          exact ⟨ret_bool (by simp; try omega), rfl⟩
      · have e := HN.out (by omega)
        subst e
        go_enter Try.func52, Try.ntmps52
        go_wp2_with fail
        go_ret
        exact ⟨ret_bool (by simp; try omega), rfl⟩
    · have e := HN.out (by omega)
      subst e
      go_enter Try.func52, Try.ntmps52
      go_wp2_with fail
      go_ret
      exact ⟨ret_bool (by simp; try omega), rfl⟩
  · have e := HN.out (by omega)
    subst e
    go_enter Try.func52, Try.ntmps52
    go_wp2_with fail
    go_ret
    exact ⟨ret_bool (by simp; try omega), rfl⟩

set_option maxHeartbeats 1600000 in
set_option maxRecDepth 100000 in
theorem ahrows_any (w : World) :
    Calls Try.prog 53 #[] w fun e w' => ∃ g, e = .returned (.slice (some ⟨g, 0, none⟩) 6 6) ∧ w.heap.size ≤ g ∧ FBox w' g 73 agT ∧ Below w.heap.size w w' := by
  go_enter Try.func53, Try.ntmps53
  go_wp2_with fail
  go_ret
  exact ⟨_, rfl, Nat.le_refl _, FBox.made _ _ _, (Below.refl _ _).alloc (Nat.le_refl _) _⟩

theorem ahcells {w : World} {g t : Nat} (h : FBox w g t agT) (k : Nat) (hk : k < 6) : w.cell? ⟨g, k * 3, none⟩ = some (.string (agN k)) ∧ w.cell? ⟨g, k * 3 + 1, none⟩ = some (.int .i64 (agB k : Int)) ∧ w.cell? ⟨g, k * 3 + 2, none⟩ = some (.int .i64 (agS k : Int)) := by
  rcases (show k = 0 ∨ k = 1 ∨ k = 2 ∨ k = 3 ∨ k = 4 ∨ k = 5 by omega) with rfl | rfl | rfl | rfl | rfl | rfl
  · exact ⟨h.cell 0, h.cell 1, h.cell 2⟩
  · exact ⟨h.cell 3, h.cell 4, h.cell 5⟩
  · exact ⟨h.cell 6, h.cell 7, h.cell 8⟩
  · exact ⟨h.cell 9, h.cell 10, h.cell 11⟩
  · exact ⟨h.cell 12, h.cell 13, h.cell 14⟩
  · exact ⟨h.cell 15, h.cell 16, h.cell 17⟩

set_option maxHeartbeats 800000 in
set_option maxRecDepth 100000 in
theorem ahUnits_ok (k t : Nat) (w : World) (hk : k < 6) (ht : t ≤ 1048576) :
    Calls Try.prog 32 #[.int .i64 (k : Int), .int .i64 (t : Int)] w fun e w' => e = .returned (.tuple #[.int .i64 (agU k t : Int), .int .i64 0]) ∧ Below w.heap.size w w' := by
  have HG := hid (fun V => ahright_any (k : Int) (t : Int) V ⟨by omega, by omega⟩ ⟨by omega, by omega⟩)
  rw [show agok (k : Int) (t : Int) = true from decide_eq_true ⟨⟨by omega, by omega⟩, by omega, by omega⟩] at HG
  have HR := hid (fun V => ahrows_any V)
  have HC : Hid (∀ (V : World) (g t : Nat), FBox V g t agT → V.cell? ⟨g, k * 3, none⟩ = some (.string (agN k)) ∧ V.cell? ⟨g, k * 3 + 1, none⟩ = some (.int .i64 (agB k : Int)) ∧ V.cell? ⟨g, k * 3 + 2, none⟩ = some (.int .i64 (agS k : Int))) := fun V g t h => ahcells h k hk
  have hm : t * agS k ≤ 1048576 * 200000000 := Nat.mul_le_mul ht (by have := (ag_small k).2; omega)
  have hb0 := (ag_small k).1
  have e1 : ((t : Int) * (agS k : Int)) = ((t * agS k : Nat) : Int) := by simp
  have eU : agU k t = (agB k + t * agS k) % 3600000000 := rfl
  rw [eU]
  clear eU
  generalize t * agS k = P at *
  generalize agN k = n at *
  generalize agB k = b at *
  generalize agS k = s at *
  have e2 : IntKind.i64.wrap (P : Int) = P := by rw [IntKind.wrap_i64]; omega
  have e3 : IntKind.i64.wrap ((b : Int) + P) = (b : Int) + P := by rw [IntKind.wrap_i64]; omega
  have e4 : Int.tmod ((b : Int) + P) 3600000000 = (((b + P) % 3600000000 : Nat) : Int) := rfl
  have e5 : IntKind.i64.wrap (((b + P) % 3600000000 : Nat) : Int) = (((b + P) % 3600000000 : Nat) : Int) := by rw [IntKind.wrap_i64]; omega
  generalize (b + P) % 3600000000 = R at *
  go_enter Try.func32, Try.ntmps32
  go_wp2_with fail
  refine Calls.mono (HG.out _) ?_
  rintro e w1 ⟨rfl, rfl⟩
  go_wp2_with fail
  refine Calls.mono (HR.out _) ?_
  rintro e w2 ⟨g, rfl, hg, hf, hb2⟩
  obtain ⟨c0, c1, c2⟩ := HC.out _ _ _ hf
  have HX := hid hf
  have HB := hid hb2
  clear hf hb2 HC HR HG
  go_wp2_with fail
  go_returns
  exact ⟨by rfl, HB.out.alloc HB.out.size _⟩
end Go.Proofs.Ytphipjpdjimpgaa

/- The document's turns: gcd, Check, Of, Neg, Sub, Times, of every turn, every two numbers. -/
namespace Go.Proofs.Ytphipjpdjimpgaa
open Go.RowKit
set_option linter.unusedVariables false

set_option maxHeartbeats 800000 in
set_option maxRecDepth 100000 in
theorem dgcd_any (a b : Nat) (w : World) (ha : a < 18446744073709551616) (hb : b < 18446744073709551616) :
    Calls Try.prog 54 #[.int .u64 (a : Int), .int .u64 (b : Int)] w fun e w' => e = .returned (.int .u64 (Nat.gcd a b : Nat)) ∧ Below w.heap.size w w' := by
  go_enter Try.func54, Try.ntmps54
  go_wp2_with fail
  go_loopw [0, 1] (fun x y wr => ∃ c d : Nat, x = .int .u64 (c : Int) ∧ y = .int .u64 (d : Int) ∧ c < 18446744073709551616 ∧ d < 18446744073709551616 ∧ Hid (Nat.gcd c d = Nat.gcd a b) ∧ Below w.heap.size w wr) (fun _ y _ => (intOf y).toNat)
  case atStart => exact ⟨a, b, rfl, rfl, ha, hb, (rfl : Nat.gcd a b = Nat.gcd a b), Below.refl _ _⟩
  case round =>
    obtain ⟨c, d, rfl, rfl, hc, hd, hg, hX⟩ := hrel
    by_cases h0 : d = 0
    · subst h0
      have HG : Hid (c = Nat.gcd a b) := by have := hg.out; rw [Nat.gcd_zero_right] at this; exact this
      clear hg
      go_wp2_with fail
      go_ret
      exact ⟨ret_int (by rw [HG.out]), hX⟩
    · have hm : c % d < d := Nat.mod_lt _ (by omega)
      have HG : Hid (Nat.gcd d (c % d) = Nat.gcd a b) := by show _ = _; rw [← hg.out, Nat.gcd_comm c d, Nat.gcd_rec d c, Nat.gcd_comm]
      have h0' : (d : Int) ≠ 0 := by omega
      clear hg
      go_wp2_with fail
      go_region
      all_goals
        go_wp2_with fail
        go_roundw
        case rel => exact ⟨d, c % d, rfl, by go_num, by omega, by omega, HG, hX.drew⟩
        case measure => simp [intOf]; omega

theorem dgcdI (p q : Int) (w : World) (p0 : 0 ≤ p) (p1 : p < 18446744073709551616) (q0 : 0 ≤ q) (q1 : q < 18446744073709551616) :
    Calls Try.prog 54 #[.int .u64 p, .int .u64 q] w fun e w' => e = .returned (.int .u64 (Nat.gcd p.toNat q.toNat : Nat)) ∧ Below w.heap.size w w' := by
  obtain ⟨a, rfl⟩ := Int.eq_ofNat_of_zero_le p0
  obtain ⟨b, rfl⟩ := Int.eq_ofNat_of_zero_le q0
  exact dgcd_any a b w (by omega) (by omega)

set_option maxHeartbeats 800000 in
set_option maxRecDepth 100000 in
theorem dcheck_any (p q : Int) (w : World) (p0 : -9223372036854775808 ≤ p) (p1 : p ≤ 9223372036854775807) (q0 : -9223372036854775808 ≤ q) (q1 : q ≤ 9223372036854775807) :
    Calls Try.prog 48 #[.agg #[.int .i64 p, .int .i64 q]] w fun e w' => e = .returned (.int .i64 (chk p q)) ∧ Below w.heap.size w w' := by
  have hb0 : Below w.heap.size w (w.alloc (.cells #[.int .i64 p, .int .i64 q] 26)) := (Below.refl _ _).alloc (Nat.le_refl _) _
  have HN : Hid (¬ (1 ≤ q ∧ q ≤ 4294967296 ∧ 0 ≤ p ∧ p < q) → chk p q = 180) := fun h => by unfold chk; rw [if_neg]; unfold okI; omega
  have HY : Hid (1 ≤ q ∧ q ≤ 4294967296 ∧ 0 ≤ p ∧ p < q → (Nat.gcd p.toNat q.toNat : Nat) = 1 → chk p q = 0) := fun h g => by unfold chk; rw [if_pos]; unfold okI; omega
  have HY' : Hid (¬ (Nat.gcd p.toNat q.toNat : Nat) = 1 → chk p q = 180) := fun g => by unfold chk; rw [if_neg]; unfold okI; omega
  have HC : Hid (∀ V : World, 0 ≤ p → p < q → q ≤ 4294967296 → Calls Try.prog 54 #[.int .u64 p, .int .u64 q] V fun e w' => e = .returned (.int .u64 (Nat.gcd p.toNat q.toNat : Nat)) ∧ Below V.heap.size V w') := fun V h1 h2 h3 => dgcdI p q V h1 (by omega) (by omega) (by omega)
  obtain ⟨d, hD⟩ : ∃ d, Nat.gcd p.toNat q.toNat = d := ⟨_, rfl⟩
  rw [hD] at HY HY' HC
  clear hD
  go_enter Try.func48, Try.ntmps48
  go_wp2_with fail
  all_goals try (go_ret; exact ⟨ret_int (HN.out (by omega)).symm, hb0⟩)
  refine Calls.mono (HC.out _ (by omega) (by omega) (by omega)) ?_
  rintro e w1 ⟨rfl, hb1⟩
  by_cases h1 : d = 1
  · subst h1
    go_wp2_with fail
    go_ret
    exact ⟨ret_int (HY.out (by omega) (by trivial)).symm, b2 hb0 hb1⟩
  · have h1' : ((d : Int) != 1) = true := by simp; omega
    go_wp2_with fail
    all_goals first
      | (go_ret; exact ⟨ret_int (HY'.out h1).symm, b2 hb0 hb1⟩)
      | (exfalso; rename_i hx; rw [h1'] at hx; exact absurd hx.2 (by decide))


theorem gcd_low (p q : Nat) (hp : p < q) (hq : q ≤ 4294967296) : lowR p q = (((p / Nat.gcd p q : Nat) : Int), ((q / Nat.gcd p q : Nat) : Int), 0) := by
  unfold lowR
  rw [if_pos (Nat.le_trans (Nat.div_le_self _ _) hq)]

set_option maxHeartbeats 1600000 in
set_option maxRecDepth 100000 in
theorem dof_any (p q : Int) (w : World) (h : in64 p q) :
    Calls Try.prog 33 #[.int .i64 p, .int .i64 q] w fun e w' => e = .returned (tV (ofR p q)) ∧ Below w.heap.size w w' := by
  have HX := hid (boxes1 w 26 #[.int .i64 0, .int .i64 0])
  obtain ⟨c4, c5, f4, f5⟩ := fbox_facts HX.out.1 (Below.refl _ _)
  obtain ⟨⟨p0, p1⟩, q0, q1⟩ := h
  by_cases h0 : q = 0
  · subst h0
    have HR : Hid (ofR p 0 = (0, 0, 7)) := by show _ = _; unfold ofR; rw [if_pos rfl]
    go_enter Try.func33, Try.ntmps33
    go_wp2_with fail
    refine bodyPost_ret (v := Value.tuple #[.agg #[.int .i64 0, .int .i64 0], .int .i64 7]) (by simp [results, Try.results33, go_sem, c4, c5]) rfl ?_
    exact ⟨by rw [HR.out]; rfl, HX.out.2⟩
  · by_cases h1 : q < 0 ∨ 4294967296 < q
    · have HR : Hid (ofR p q = (0, 0, 2)) := by show _ = _; unfold ofR; rw [if_neg h0, if_pos h1]
      go_enter Try.func33, Try.ntmps33
      go_wp2_with fail
      all_goals
        refine bodyPost_ret (v := Value.tuple #[.agg #[.int .i64 0, .int .i64 0], .int .i64 2]) (by simp [results, Try.results33, go_sem, c4, c5]) rfl ?_
        exact ⟨by rw [HR.out]; rfl, HX.out.2⟩
    · have HR : Hid (ofR p q = lowR (p % q).toNat q.toNat) := by show _ = _; unfold ofR; rw [if_neg h0, if_neg h1]
      have g1 : 0 < q := by omega
      have g2 : q ≤ 4294967296 := by omega
      have g7 : 0 ≤ p % q := Int.emod_nonneg _ h0
      have g8 : p % q < q := Int.emod_lt_of_pos _ g1
      have h1' : ¬ q < 0 := by omega
      have b1 : Int.tmod p q = p % q ∨ (Int.tmod p q = p % q - q) := by
        rw [Int.tmod_eq_emod]
        split
        · left; omega
        · right; omega
      obtain ⟨a, ha⟩ := Int.eq_ofNat_of_zero_le g7
      obtain ⟨b, hb⟩ := Int.eq_ofNat_of_zero_le (show 0 ≤ q by omega)
      subst hb
      rw [ha] at HR g8 b1
      simp only [Int.toNat_natCast] at HR
      have HC := hid (fun V => dgcd_any a b V (by omega) (by omega))
      have hd : 0 < Nat.gcd a b := Nat.gcd_pos_of_pos_right _ (by omega)
      have hl := gcd_low a b (by omega) (by omega)
      have k1 : a / Nat.gcd a b ≤ a := Nat.div_le_self _ _
      have k2 : b / Nat.gcd a b ≤ b := Nat.div_le_self _ _
      have hdl : Nat.gcd a b ≤ b := Nat.gcd_le_right _ (by omega)
      rw [hl] at HR
      clear hl
      generalize Nat.gcd a b = d at *
      have d0 : (d : Int) ≠ 0 := by omega
      have e1 : Int.tdiv (a : Int) (d : Int) = ((a / d : Nat) : Int) := by rw [Int.tdiv_eq_ediv_of_nonneg (by omega)]; rfl
      have e2 : Int.tdiv (b : Int) (d : Int) = ((b / d : Nat) : Int) := by rw [Int.tdiv_eq_ediv_of_nonneg (by omega)]; rfl
      generalize a / d = P at *
      generalize b / d = Q at *
      have hsp : (Int.tmod p b < 0 ∧ Int.tmod p b + b = a) ∨ (¬ Int.tmod p b < 0 ∧ Int.tmod p b = a) := by omega
      clear ha b1 h1 g7
      rcases hsp with ⟨s1, s2⟩ | ⟨s1, s2⟩
      all_goals
        clear c4 c5 f4 f5
        go_enter Try.func33, Try.ntmps33
        go_wp2_with fail
        generalize w.alloc (.cells #[.int .i64 0, .int .i64 0] 26) = X at *
        refine Calls.mono (HC.out X) ?_
        rintro e w1 ⟨rfl, hb1⟩
        obtain ⟨c4, c5, f4, f5⟩ := fbox_facts HX.out.1 hb1
        have HB := hid (b2 HX.out.2 hb1)
        clear hb1 HX HC
        go_wp2_with fail
        go_region
        all_goals
          go_wp2_with fail
          refine bodyPost_ret (v := Value.tuple #[.agg #[.int .i64 (P : Int), .int .i64 (Q : Int)], .int .i64 0]) (by simp [results, Try.results33, go_sem, c4, c5]) rfl ?_
          exact ⟨by rw [HR.out]; rfl, by first | exact fput2 HB.out.drew _ (Nat.le_refl _) _ _ | exact (fput2 HB.out _ (Nat.le_refl _) _ _).drew⟩

theorem neg_of {p q : Int} (h : okI p q) : ofR (-p) q = negR p q := by
  obtain ⟨h1, h2, h3, h4, h5⟩ := gcd_back h
  unfold ofR negR
  rw [if_neg (by omega), if_neg (by omega), if_pos h, gcd_low _ _ (by omega) (by omega), h5, Nat.div_one, Nat.div_one]
  congr 1
  · omega
  · congr 1; omega
theorem times_of {p q : Int} (h : okI p q) (n : Int) : ofR (p * n) q = timesR p q n := by
  have h1 := h.1
  have h2 := h.2.1
  unfold ofR timesR
  rw [if_neg (by omega), if_neg (by omega), if_pos h]

set_option maxHeartbeats 1600000 in
set_option maxRecDepth 100000 in
theorem dneg_any (p q : Int) (w : World) (h : in64 p q) :
    Calls Try.prog 49 #[.agg #[.int .i64 p, .int .i64 q]] w fun e w' => e = .returned (tV (negR p q)) ∧ Below w.heap.size w w' := by
  have HX := hid (boxes2 w 26 #[.int .i64 p, .int .i64 q] #[.int .i64 0, .int .i64 0])
  have HC := hid (fun V => dcheck_any p q V h.1.1 h.1.2 h.2.1 h.2.2)
  have HO := hid (chk_or p q)
  have HV2 : Hid (¬ okI p q → negR p q = (0, 0, 180)) := fun h => by unfold negR; rw [if_neg h]
  have HK : Hid (okI p q → (0 ≤ p ∧ p < q ∧ q ≤ 4294967296) ∧ ∀ V, Calls Try.prog 33 #[.int .i64 (-p), .int .i64 q] V fun e w' => e = .returned (tV (negR p q)) ∧ Below V.heap.size V w') := fun h => ⟨⟨h.2.2.1, h.2.2.2.1, h.2.1⟩, fun V => by
    rw [← neg_of h]
    have h1 := h.2.2.1
    have h2 := h.2.2.2.1
    have h3 := h.2.1
    exact dof_any (-p) q V ⟨⟨by omega, by omega⟩, by omega, by omega⟩⟩
  clear h
  go_enter Try.func49, Try.ntmps49
  go_wp2_with fail
  generalize (w.alloc (.cells #[.int .i64 p, .int .i64 q] 26)).alloc (.cells #[.int .i64 0, .int .i64 0] 26) = X at *
  refine Calls.mono (HC.out X) ?_
  rintro e w1 ⟨rfl, hb1⟩
  obtain ⟨c0, c1, f0, f1⟩ := fbox_facts HX.out.1 hb1
  obtain ⟨c2, c3, f2, f3⟩ := fbox_facts HX.out.2.1 hb1
  rcases HO.out with ⟨e, ho⟩ | ⟨e, ho⟩
  · rw [e]
    obtain ⟨⟨g1, g2, g3⟩, hk⟩ := HK.out ho
    have HK' := hid hk
    clear HO HV2 HK e ho HC hk
    go_wp2_with fail
    refine Calls.mono (HK'.out w1) ?_
    rintro e w2 ⟨rfl, hb2⟩
    clear c0 c1 c2 c3 f0 f1 f2 f3 HK'
    obtain ⟨c2, c3, f2, f3⟩ := fbox_facts HX.out.2.1 (b2 hb1 hb2)
    have HB := hid (b2 HX.out.2.2 (b2 hb1 hb2))
    clear hb1 hb2 HX
    obtain ⟨T, hT⟩ : ∃ T, negR p q = T := ⟨_, rfl⟩
    have HT := hid hT
    rw [hT]
    clear hT
    obtain ⟨t1, t2, t3⟩ := T
    rw [show tV (t1, t2, t3) = Value.tuple #[.agg #[.int .i64 t1, .int .i64 t2], .int .i64 t3] from rfl]
    go_wp2_with fail
    refine bodyPost_ret (v := Value.tuple #[.agg #[.int .i64 t1, .int .i64 t2], .int .i64 t3]) (by simp [results, Try.results49, go_sem, c2, c3]) rfl ?_
    exact ⟨by rw [HT.out]; rfl, fput2 HB.out _ (by omega) _ _⟩
  · rw [e]
    have HR := hid (HV2.out ho)
    have HB := hid (b2 HX.out.2.2 hb1)
    clear HO HV2 HK e ho HC hb1
    go_wp2_with fail
    refine bodyPost_ret (v := Value.tuple #[.agg #[.int .i64 0, .int .i64 0], .int .i64 180]) (by simp [results, Try.results49, go_sem, c2, c3]) rfl ?_
    exact ⟨by rw [HR.out]; rfl, fput2 HB.out _ (by omega) _ _⟩
end Go.Proofs.Ytphipjpdjimpgaa

/- The document's answers of layer 11: Check, Phase. -/
namespace Go.Proofs.Ytphipjpdjimpgaa
open Go.RowKit
set_option linter.unusedVariables false

theorem doA_at (d : Nat → Int) (k : Nat) (hk : k < 6) : (doA d)[k]? = some (.int .i8 (d k)) := by
  rcases (show k = 0 ∨ k = 1 ∨ k = 2 ∨ k = 3 ∨ k = 4 ∨ k = 5 by omega) with rfl | rfl | rfl | rfl | rfl | rfl <;> rfl

set_option maxHeartbeats 800000 in
set_option maxRecDepth 100000 in
theorem dpcheck_any (d : Nat → Int) (w : World) : Calls Try.prog 11 #[.agg (doA d)] w fun e w' => e = .returned (.int .i64 (dchk d)) ∧ Below w.heap.size w w' := by
  have HB : Hid (Below w.heap.size w (w.alloc (.cells (doA d) 24))) := (Below.refl _ _).alloc (Nat.le_refl _) _
  have HX := hid (FBox.made w 24 (doA d))
  have HIA : Hid (∀ k : Nat, k < 6 → ∀ V, (Instr.indexAt 24 (.pointer (some ⟨w.heap.size, 0, none⟩)) (.int .i64 (k : Int))).run Try.prog V = .ok (.pointer (some ⟨w.heap.size, k, none⟩)) V) := fun k hk V => didxa w.heap.size k V hk
  obtain ⟨X, hX⟩ : ∃ X, w.alloc (.cells (doA d) 24) = X := ⟨_, rfl⟩
  rw [hX] at HB HX
  have hX' : w.alloc (.cells #[.int .i8 (d 0), .int .i8 (d 1), .int .i8 (d 2), .int .i8 (d 3), .int .i8 (d 4), .int .i8 (d 5)] 24) = X := hX
  clear hX
  rw [show doA d = #[.int .i8 (d 0), .int .i8 (d 1), .int .i8 (d 2), .int .i8 (d 3), .int .i8 (d 4), .int .i8 (d 5)] from rfl]
  go_enter Try.func11, Try.ntmps11
  go_wp2_with fail
  clear hX'
  go_loopw [3] (fun x wr => ∃ k : Nat, k ≤ 6 ∧ x = .int .i64 (k : Int) ∧ Hid (∀ j, j < k → -4 ≤ d j ∧ d j ≤ 4) ∧ wr = X) (fun x _ => 6 - (intOf x).toNat)
  case atStart => exact ⟨0, by decide, rfl, fun j hj => absurd hj (Nat.not_lt_zero _), rfl⟩
  case round =>
    obtain ⟨k, hk, rfl, HJ, rfl⟩ := hrel
    by_cases hlt : k < 6
    · have hi := HIA.out k hlt
      have hc : wr.cell? ⟨w.heap.size, k, none⟩ = some (.int .i8 (d k)) := (HX.out.cell k).trans (doA_at d k hlt)
      have HN : Hid (¬ (-4 ≤ d k ∧ d k ≤ 4) → dchk d = 210) := fun h => dchk_no (fun g => h (g k hlt))
      have HY : Hid (-4 ≤ d k ∧ d k ≤ 4 → ∀ j, j < k + 1 → -4 ≤ d j ∧ d j ≤ 4) := fun h j hj => by
        rcases Nat.lt_succ_iff_lt_or_eq.1 hj with g | g
        · exact HJ.out j g
        · rw [g]; exact h
      generalize d k = y at *
      go_wp2_with fail
      all_goals first
        | (go_ret; exact ⟨ret_int (HN.out (by omega)).symm, HB.out⟩)
        | (go_roundw
           case rel => exact ⟨k + 1, by omega, by go_num, HY.out (by omega), by first | trivial | rfl⟩
           case measure => simp [intOf]; omega)
    · obtain rfl : k = 6 := by omega
      have HZ : Hid (dchk d = 0) := dchk_ok HJ.out
      go_wp2_with fail
      go_ret
      exact ⟨ret_int HZ.out.symm, HB.out⟩

theorem dS_small {d : Nat → Int} (hd : dOK d) (t k : Nat) (hk : k ≤ 6) : -(4 * 3600000000 * (k : Int)) ≤ dS d (fun j => (agU j t : Int)) k ∧ dS d (fun j => (agU j t : Int)) k ≤ 4 * 3600000000 * (k : Int) := by
  induction k with
  | zero => exact ⟨by show (-(4 * 3600000000 * (0 : Int))) ≤ 0; decide, by show (0 : Int) ≤ 4 * 3600000000 * (0 : Int); decide⟩
  | succ k ih =>
    have h := ih (by omega)
    have a := hd k (by omega)
    have u := agU_lt k t
    have m1 : d k * (agU k t : Int) ≤ 4 * (agU k t : Int) := Int.mul_le_mul_of_nonneg_right a.2 (by omega)
    have m2 : -4 * (agU k t : Int) ≤ d k * (agU k t : Int) := Int.mul_le_mul_of_nonneg_right a.1 (by omega)
    unfold dS
    generalize d k * (agU k t : Int) = P at *
    generalize dS d (fun j => (agU j t : Int)) k = S at *
    omega
theorem dpmul_small {x : Int} (hx : -4 ≤ x ∧ x ≤ 4) (k t : Nat) : -14400000000 ≤ x * (agU k t : Int) ∧ x * (agU k t : Int) ≤ 14400000000 := by
  have u := agU_lt k t
  have m1 : x * (agU k t : Int) ≤ 4 * (agU k t : Int) := Int.mul_le_mul_of_nonneg_right hx.2 (by omega)
  have m2 : -4 * (agU k t : Int) ≤ x * (agU k t : Int) := Int.mul_le_mul_of_nonneg_right hx.1 (by omega)
  omega

set_option maxHeartbeats 1600000 in
set_option maxRecDepth 100000 in
theorem dpphase_ok (d : Nat → Int) (t : Nat) (w : World) (hd : dOK d) (ht : t ≤ 1048576) : Calls Try.prog 8 #[.agg (doA d), .int .i64 (t : Int)] w fun e w' => e = .returned (tV (circ (dU d t))) ∧ Below w.heap.size w w' := by
  have HC := hid (fun V => dpcheck_any d V)
  rw [dchk_ok hd] at HC
  have HU : Hid (∀ k : Nat, k < 6 → ∀ V, Calls Try.prog 32 #[.int .i64 (k : Int), .int .i64 (t : Int)] V fun e w' => e = .returned (.tuple #[.int .i64 (agU k t : Int), .int .i64 0]) ∧ Below V.heap.size V w') := fun k hk V => ahUnits_ok k t V hk ht
  have HS := hid (dS_small hd t)
  have HM : Hid (∀ k : Nat, k < 6 → -14400000000 ≤ d k * (agU k t : Int) ∧ d k * (agU k t : Int) ≤ 14400000000) := fun k hk => dpmul_small (hd k hk) k t
  have HO := hid (fun V => dof_any (dU d t) 3600000000 V ⟨by have := dS_small hd t 6 (by decide); unfold dU; omega, by decide, by decide⟩)
  obtain ⟨p, q, e, o, v⟩ := circ_told (dU d t)
  rw [show ofR (dU d t) 3600000000 = (p, q, 0) from e, show tV (p, q, 0) = Value.tuple #[.agg #[.int .i64 p, .int .i64 q], .int .i64 0] from rfl] at HO
  rw [e, show tV (p, q, 0) = Value.tuple #[.agg #[.int .i64 p, .int .i64 q], .int .i64 0] from rfl]
  clear e o v
  have HIA : Hid (∀ k : Nat, k < 6 → ∀ V, (Instr.indexAt 24 (.pointer (some ⟨w.heap.size, 0, none⟩)) (.int .i64 (k : Int))).run Try.prog V = .ok (.pointer (some ⟨w.heap.size, k, none⟩)) V) := fun k hk V => didxa w.heap.size k V hk
  have HDD : Hid (∀ k : Nat, k < 6 → -128 ≤ d k ∧ d k ≤ 127) := fun k hk => by have := hd k hk; omega
  have HX := hid (dboxes2 w 24 26 (doA d) #[.int .i64 0, .int .i64 0])
  obtain ⟨X, hX⟩ : ∃ X, (w.alloc (.cells (doA d) 24)).alloc (.cells #[.int .i64 0, .int .i64 0] 26) = X := ⟨_, rfl⟩
  rw [hX] at HX
  rw [show doA d = #[.int .i8 (d 0), .int .i8 (d 1), .int .i8 (d 2), .int .i8 (d 3), .int .i8 (d 4), .int .i8 (d 5)] from rfl] at *
  obtain ⟨n0, n1, n2, n3, n4, n5⟩ := box6 HX.out.1 (Below.refl _ _)
  have t0 : ¬ (t : Int) < 0 := by omega
  have t1 : (t : Int) ≤ 1048576 := by omega
  clear hd ht
  generalize (t : Int) = ti at t0 t1 HU ⊢
  go_enter Try.func8, Try.ntmps8
  go_wp2_with fail
  clear hX n0 n1 n2 n3 n4 n5
  refine Calls.mono (HC.out _) ?_
  rintro e w1 ⟨rfl, hb⟩
  have HX1 := hid (HX.out.1.later hb HX.out.1.lt)
  have HZ1 := hid (HX.out.2.1.later hb HX.out.2.1.lt)
  have HB1 := hid (b2 HX.out.2.2 hb)
  clear hb HX HC
  go_wp2_with fail
  go_loopw [7, 8] (fun x y wr => ∃ k : Nat, k ≤ 6 ∧ y = .int .i64 (k : Int) ∧ (∃ S : Int, x = .int .i64 S ∧ Hid (S = dS d (fun j => (agU j t : Int)) k)) ∧ Hid (FBox wr w.heap.size 24 (doA d)) ∧ Hid (FBox wr (w.heap.size + 1) 26 #[.int .i64 0, .int .i64 0]) ∧ Hid (Below w.heap.size w wr)) (fun _ y _ => 6 - (intOf y).toNat)
  case atStart => exact ⟨0, by decide, rfl, ⟨0, rfl, rfl⟩, HX1, HZ1, HB1⟩
  case round =>
    obtain ⟨k, hk, rfl, ⟨S, rfl, HSS⟩, HA, HZ, HB⟩ := hrel
    by_cases hlt : k < 6
    · have hi := HIA.out k hlt
      have HUk := hid (HU.out k hlt wr)
      obtain ⟨b0, b1⟩ := HS.out k (by omega)
      rw [← HSS.out] at b0 b1
      have c0 : -86400000000 ≤ S := by omega
      have c1 : S ≤ 86400000000 := by omega
      obtain ⟨m0, m1⟩ := HM.out k hlt
      obtain ⟨d0, d1⟩ := HDD.out k hlt
      have HN : Hid (dS d (fun j => (agU j t : Int)) (k + 1) = S + d k * (agU k t : Int)) := by show _ = _; rw [HSS.out]; rfl
      clear b0 b1
      generalize (agU k t : Int) = u at HUk m0 m1 HN
      refine ?_
      go_wp2_with fail
      refine Calls.mono HUk.out ?_
      rintro e w2 ⟨rfl, hb⟩
      have HA2 := hid (HA.out.later hb HA.out.lt)
      have HZ2 := hid (HZ.out.later hb HZ.out.lt)
      have HB2 := hid (HB.out.trans (hb.mono HB.out.size))
      have hc : w2.cell? ⟨w.heap.size, k, none⟩ = some (.int .i8 (d k)) := (HA2.out.cell k).trans (doA_at d k hlt)
      clear hb HA HZ HB HUk HSS
      generalize d k = x at *
      have e1 : IntKind.i64.wrap x = x := by rw [IntKind.wrap_i64]; omega
      obtain ⟨P, hP⟩ : ∃ P, x * u = P := ⟨_, rfl⟩
      rw [hP] at m0 m1 HN
      have e2 : IntKind.i64.wrap P = P := by rw [IntKind.wrap_i64]; omega
      have e3 : IntKind.i64.wrap (S + P) = S + P := by rw [IntKind.wrap_i64]; omega
      go_wp2_with fail
      go_roundw
      case rel => exact ⟨k + 1, by omega, by go_num, ⟨S + P, by first | rfl | go_num, HN.out.symm⟩, HA2, HZ2, HB2⟩
      case measure => simp [intOf]; omega
    · obtain rfl : k = 6 := by omega
      obtain rfl : S = dU d t := HSS.out
      clear HSS HM HS HU HDD HIA
      generalize dU d t = S at *
      go_wp2_with fail
      refine Calls.mono (HO.out _) ?_
      rintro e w2 ⟨rfl, hb⟩
      obtain ⟨c0, c1, f0, f1⟩ := fbox_facts HZ.out (hb.mono (Nat.le_refl _))
      have HB2 := hid (HB.out.trans (hb.mono HB.out.size))
      clear hb
      go_wp2_with fail
      refine bodyPost_ret (v := Value.tuple #[.agg #[.int .i64 p, .int .i64 q], .int .i64 0]) (by simp [results, Try.results8, go_sem, c0, c1]) rfl ?_
      exact ⟨rfl, fput2 HB2.out _ (by omega) _ _⟩
end Go.Proofs.Ytphipjpdjimpgaa

/- bits.Add64; bits.Div64 where the higher word is 0, or is 1 and the quotient is 1. -/
namespace Go.Proofs.Ytphipjpdjimpgaa
open Go.RowKit
set_option linter.unusedVariables false

theorem tdw64 (n : Nat) (h : n < 18446744073709551616) : IntKind.u64.wrap (n : Int) = (n : Int) := by rw [IntKind.wrap_u64]; omega

theorem add64_run (x y c : Nat) (hx : x < 18446744073709551616) (hy : y < 18446744073709551616) (hc : c ≤ 1) (w : World) :
    (callFunc 64 #[.int .u64 (x : Int), .int .u64 (y : Int), .int .u64 (c : Int)]).run Try.prog w = .ok (.value (.tuple #[.int .u64 (((x + y + c) % 18446744073709551616 : Nat) : Int), .int .u64 (((x + y + c) / 18446744073709551616 : Nat) : Int)])) w := by
  have e := run_add64 (P := Try.prog) (x : Int) (y : Int) (c : Int) (by omega) (by omega) (by omega) (by omega) w
  rw [run_callFunc_extern (fn := Try.f64) Try.func64 (by kernel_rfl) (by kernel_rfl) (by kernel_rfl) (e := add64Entry) (by kernel_rfl)]
  rw [e]
  rfl

set_option maxHeartbeats 800000 in
set_option maxRecDepth 100000 in
theorem div64_zero (lo y : Nat) (w : World) (hl : lo < 18446744073709551616) (hy : y < 18446744073709551616) (h0 : 0 < y) :
    Calls Try.prog 65 #[.int .u64 0, .int .u64 (lo : Int), .int .u64 (y : Int)] w fun e w' => e = .returned (.tuple #[.int .u64 ((lo / y : Nat) : Int), .int .u64 ((lo % y : Nat) : Int)]) ∧ Below w.heap.size w w' := by
  have y0 : (y : Int) ≠ 0 := by omega
  have y1 : ¬ (y : Int) ≤ 0 := by omega
  have k1 : lo / y ≤ lo := Nat.div_le_self _ _
  have x1 : IntKind.u64.wrap ((lo : Int) / (y : Int)) = ((lo / y : Nat) : Int) := by
    rw [show ((lo : Int) / (y : Int)) = ((lo / y : Nat) : Int) from rfl]; exact tdw64 _ (by omega)
  generalize hq : lo / y = q at *
  have HR : Hid (((lo : Int) % (y : Int)) = ((lo % y : Nat) : Int)) := (rfl : ((lo : Int) % (y : Int)) = ((lo % y : Nat) : Int))
  generalize lo % y = r at *
  go_enter Try.func65, Try.ntmps65
  go_wp2_with fail
  go_region
  all_goals
    go_wp2_with fail
    go_returns
    exact ⟨by rw [← HR.out]; rfl, (Below.refl _ _).drew⟩

set_option maxHeartbeats 3200000 in
set_option maxRecDepth 100000 in
theorem div64_one (lo y : Nat) (w : World) (hy : 9223372036854775808 ≤ y) (hy' : y < 18446744073709551616) (hlo : lo < 18446744073709551616) (h2 : 18446744073709551616 + lo < 2 * y) :
    Calls Try.prog 65 #[.int .u64 1, .int .u64 (lo : Int), .int .u64 (y : Int)] w fun e w' => e = .returned (.tuple #[.int .u64 1, .int .u64 ((18446744073709551616 + lo - y : Nat) : Int)]) ∧ Below w.heap.size w w' := by
  have y0 : (y : Int) ≠ 0 := by omega
  have y1 : ¬ (y : Int) ≤ 1 := by omega
  have HL := hid (Try.bits_LeadingZeros64 (y : Int) w (by omega) (by omega))
  have hbl : Lib.bitLen (y : Int).toNat = 64 := by
    rw [Int.toNat_natCast, Lib.bitLen_shift 63 y (by omega) (by omega), show y / 2 ^ 63 = 1 by omega]; rfl
  rw [hbl] at HL
  clear hbl
  have HR : Hid (((18446744073709551616 + lo - y : Nat) : Int) = 18446744073709551616 + (lo : Int) - (y : Int)) := by show _ = _; omega
  obtain ⟨A, hA⟩ : ∃ A, y / 4294967296 = A := ⟨_, rfl⟩
  obtain ⟨B, hB⟩ : ∃ B, y % 4294967296 = B := ⟨_, rfl⟩
  obtain ⟨C, hC⟩ : ∃ C, lo / 4294967296 = C := ⟨_, rfl⟩
  obtain ⟨D, hD⟩ : ∃ D, lo % 4294967296 = D := ⟨_, rfl⟩
  have eA : (y : Int) / 4294967296 = (A : Int) := by omega
  have eB : (y : Int) % 4294967296 = (B : Int) := by omega
  have eC : (lo : Int) / 4294967296 = (C : Int) := by omega
  have eD : (lo : Int) % 4294967296 = (D : Int) := by omega
  have bA : 2147483648 ≤ A ∧ A < 4294967296 ∧ B < 4294967296 ∧ C < 4294967296 ∧ D < 4294967296 := by omega
  have HE : Hid (y = A * 4294967296 + B ∧ lo = C * 4294967296 + D) := ⟨by omega, by omega⟩
  have z1 : Int.tdiv 1 (A : Int) = 0 := by rw [Int.tdiv_eq_ediv_of_nonneg (by omega)]; exact Int.ediv_eq_zero_of_lt (by omega) (by omega)
  have m1 : bits .and .u64 (y : Int) 4294967295 = (B : Int) := by
    have e := u64_and_nat y 4294967295 (by omega) (by decide)
    have e2 : y &&& 4294967295 = y % 4294967296 := Nat.and_two_pow_sub_one_eq_mod _ 32
    rw [e2] at e
    exact e.trans (by omega)
  have m2 : bits .and .u64 (lo : Int) 4294967295 = (D : Int) := by
    have e := u64_and_nat lo 4294967295 (by omega) (by decide)
    have e2 : lo &&& 4294967295 = lo % 4294967296 := Nat.and_two_pow_sub_one_eq_mod _ 32
    rw [e2] at e
    exact e.trans (by omega)
  have m3 : bits .or .u64 1 0 = 1 := by decide
  have m4 : (lo : Int) / 18446744073709551616 = 0 := by omega
  have a0 : (A : Int) ≠ 0 := by omega
  obtain ⟨bA0, bA1, bB, bC, bD⟩ := bA
  clear hA hB hC hD
  obtain ⟨k, hk, hq, hr⟩ : ∃ k : Nat, (k = 1 ∨ k = 2 ∨ k = 3) ∧ (4294967296 + (C : Int)) / (A : Int) = (k : Int) ∧ k * A ≤ 4294967296 + C := by
    have key : ∀ k : Nat, k * A ≤ 4294967296 + C → 4294967296 + C < (k + 1) * A → (4294967296 + (C : Int)) / (A : Int) = (k : Int) := fun k h1 h2 => by
      have e : (4294967296 + C) / A = k := Nat.div_eq_of_lt_le h1 h2
      have e2 : (4294967296 + (C : Int)) = ((4294967296 + C : Nat) : Int) := by omega
      rw [e2, ← e]; rfl
    by_cases c1 : 4294967296 + C < 2 * A
    · exact ⟨1, .inl rfl, key 1 (by omega) (by omega), by omega⟩
    · by_cases c2 : 4294967296 + C < 3 * A
      · exact ⟨2, .inr (.inl rfl), key 2 (by omega) (by omega), by omega⟩
      · exact ⟨3, .inr (.inr rfl), key 3 (by omega) (by omega), by omega⟩
  have HQN : Hid ((4294967296 + C) / A = k) := by
    have e : (4294967296 + (C : Int)) = ((4294967296 + C : Nat) : Int) := by omega
    have h := hq
    rw [e] at h
    show _ = _
    exact_mod_cast h
  have hp : ∃ P : Nat, k * A = P := ⟨_, rfl⟩
  obtain ⟨P, hP⟩ := hp
  rw [hP] at hr
  have x1 : IntKind.u64.wrap ((k : Int) * (A : Int)) = (P : Int) := by rw [← Int.natCast_mul, hP, IntKind.wrap_u64]; omega
  have x2 : IntKind.u64.wrap (4294967296 + (C : Int) - (P : Int)) = ((4294967296 + C - P : Nat) : Int) := by rw [IntKind.wrap_u64]; omega
  have HI : Hid (4294967296 + C - P < 4294967296 ∧ (k = 1 ∧ A + (4294967296 + C - P) = 4294967296 + C ∨ k = 2 ∧ 2 * A + (4294967296 + C - P) = 4294967296 + C ∨ k = 3 ∧ 3 * A + (4294967296 + C - P) = 4294967296 + C)) := by
    have hlt : 4294967296 + C < P + A := by
      have e : (4294967296 + (C : Int)) = ((4294967296 + C : Nat) : Int) := by omega
      rw [e] at hq
      have e2 : (4294967296 + C) / A = k := by exact_mod_cast hq
      have := Nat.lt_mul_div_succ (4294967296 + C) (show 0 < A by omega)
      rw [e2, Nat.mul_comm] at this
      rw [← hP]
      have e3 : (k + 1) * A = k * A + A := Nat.succ_mul k A
      omega
    rcases hk with rfl | rfl | rfl
    · exact ⟨by omega, .inl ⟨rfl, by omega⟩⟩
    · exact ⟨by omega, .inr (.inl ⟨rfl, by omega⟩)⟩
    · exact ⟨by omega, .inr (.inr ⟨rfl, by omega⟩)⟩
  generalize 4294967296 + C - P = R0 at *
  have HW : Hid (IntKind.u64.wrap (IntKind.u64.wrap (IntKind.u64.wrap ((4294967296 + (C : Int)) * 4294967296) + (D : Int)) - (y : Int)) = ((18446744073709551616 + lo - y : Nat) : Int)) := by
    have hE := HE.out
    show _ = _
    rw [IntKind.wrap_u64, IntKind.wrap_u64, IntKind.wrap_u64]
    omega
  clear hk hP
  go_enter Try.func65, Try.ntmps65
  go_wp2_with fail
  refine Calls.mono HL.out ?_
  rintro e w1 ⟨rfl, rfl⟩
  rw [show (64 - ((64 : Nat) : Int)) = 0 by decide]
  go_wp2_with fail
  go_loopw [15, 16] (fun a b wr => a = .int .u64 0 ∧ b = .int .u64 1 ∧ wr = w1) (fun _ _ _ => 0)
  case atStart => exact ⟨rfl, rfl, rfl⟩
  case round =>
    obtain ⟨rfl, rfl, hX⟩ := hrel
    subst hX
    go_wp2_with fail
    clear x1 x2 hq hr z1 m1 m2 m3 m4 HL
    go_loopw [18, 16] (fun a b wq => ∃ Q R : Nat, a = .int .u64 (Q : Int) ∧ b = .int .u64 (R : Int) ∧ R < 4294967296 ∧ (Q = 1 ∧ A + R = 4294967296 + C ∨ Q = 2 ∧ 2 * A + R = 4294967296 + C ∨ Q = 3 ∧ 3 * A + R = 4294967296 + C) ∧ wq = wr) (fun a _ _ => (intOf a).toNat)
    case atStart => exact ⟨_, _, rfl, rfl, HI.out.1, by first | exact HI.out.2 | (rw [HQN.out]; exact HI.out.2), by first | rfl | trivial⟩
    case round =>
      obtain ⟨Q, R, rfl, rfl, hR, hQ, hX⟩ := hrel
      have hX' := hX.symm
      subst hX'
      obtain ⟨hE1, hE2⟩ := HE.out
      rcases hQ with ⟨rfl, hQ⟩ | ⟨rfl, hQ⟩ | ⟨rfl, hQ⟩
      · have g1 : ¬ (4294967296 * (R : Int) + (D : Int) < (B : Int)) := by omega
        clear hE1 hE2
        go_wp2_with fail
        go_returns
        exact ⟨congrArg (fun z => Ending.returned (.tuple #[.int .u64 1, .int .u64 z])) HW.out, Below.refl _ _⟩
      · have g1 : 4294967296 * (R : Int) + (D : Int) < 2 * (B : Int) := by omega
        by_cases g2 : R + A < 4294967296
        · have g3 : ¬ (4294967296 : Int) ≤ (R : Int) + (A : Int) := by omega
          clear hE1 hE2
          go_wp2_with fail
          go_roundw
          case rel => exact ⟨1, R + A, rfl, by go_num, g2, .inl ⟨rfl, by omega⟩, by first | rfl | trivial⟩
          case measure => simp [intOf]
        · have g3 : (4294967296 : Int) ≤ (R : Int) + (A : Int) := by omega
          clear hE1 hE2
          go_wp2_with fail
          go_returns
          exact ⟨congrArg (fun z => Ending.returned (.tuple #[.int .u64 1, .int .u64 z])) HW.out, Below.refl _ _⟩
      · have g1 : 4294967296 * (R : Int) + (D : Int) < 3 * (B : Int) := by omega
        have g2 : R + A < 4294967296 := by omega
        have g3 : ¬ (4294967296 : Int) ≤ (R : Int) + (A : Int) := by omega
        clear hE1 hE2
        go_wp2_with fail
        go_roundw
        case rel => exact ⟨2, R + A, rfl, by go_num, g2, .inr (.inl ⟨rfl, by omega⟩), by first | rfl | trivial⟩
        case measure => simp [intOf]
end Go.Proofs.Ytphipjpdjimpgaa

/- The document's Add and Sub of turns. -/
namespace Go.Proofs.Ytphipjpdjimpgaa
open Go.RowKit
set_option linter.unusedVariables false

set_option maxHeartbeats 3200000 in
set_option maxRecDepth 100000 in
theorem dadd_ok (p q r s : Nat) (w : World) (h : okI p q) (g : okI r s) :
    Calls Try.prog 50 #[.agg #[.int .i64 (p : Int), .int .i64 (q : Int)], .agg #[.int .i64 (r : Int), .int .i64 (s : Int)]] w fun e w' => e = .returned (tV (sumR p q r s)) ∧ Below w.heap.size w w' := by
  have HX := hid (boxes3 w 26 #[.int .i64 (p : Int), .int .i64 (q : Int)] #[.int .i64 (r : Int), .int .i64 (s : Int)] #[.int .i64 0, .int .i64 0])
  obtain ⟨hq1, hq, _, hp, _⟩ := id h
  obtain ⟨hs1, hs, _, hr, _⟩ := id g
  have HC1 := hid (fun V => dcheck_any p q V (by omega) (by omega) (by omega) (by omega))
  have HC2 := hid (fun V => dcheck_any r s V (by omega) (by omega) (by omega) (by omega))
  rw [show chk p q = 0 by unfold chk; rw [if_pos h]] at HC1
  rw [show chk r s = 0 by unfold chk; rw [if_pos g]] at HC2
  clear h g
  obtain ⟨l1, l2, l3⟩ := sum_lt (q := q) (s := s) (by omega) (by omega) (by omega) (by omega)
  have HC := hid (fun V => dgcd_any q s V (by omega) (by omega))
  have hd : 0 < Nat.gcd q s := Nat.gcd_pos_of_pos_right _ (by omega)
  have k1 : q / Nat.gcd q s ≤ q := Nat.div_le_self _ _
  have k2 : s / Nat.gcd q s ≤ s := Nat.div_le_self _ _
  obtain ⟨d, hD⟩ : ∃ d, Nat.gcd q s = d := ⟨_, rfl⟩
  have HV : Hid (sumR p q r s = lowR ((p * (s / d) + r * (q / d)) % (q / d * s)) (q / d * s)) := by show _ = _; unfold sumR; rw [hD]
  rw [hD] at HC l1 l2 l3 hd k1 k2
  clear hD
  have x1 : IntKind.u64.wrap ((q : Int) / (d : Int)) = ((q / d : Nat) : Int) := by
    rw [show ((q : Int) / (d : Int)) = ((q / d : Nat) : Int) from rfl]; exact tw64 _ (by omega)
  have x2 : IntKind.u64.wrap ((s : Int) / (d : Int)) = ((s / d : Nat) : Int) := by
    rw [show ((s : Int) / (d : Int)) = ((s / d : Nat) : Int) from rfl]; exact tw64 _ (by omega)
  have x3 : (q : Int) / (d : Int) = ((q / d : Nat) : Int) := rfl
  have x4 : (s : Int) / (d : Int) = ((s / d : Nat) : Int) := rfl
  generalize q / d = A at *
  generalize s / d = B at *
  have m1 : p * B < A * s := by
    rw [l2]
    have hB : 0 < B := by
      rcases Nat.eq_zero_or_pos B with h | h
      · rw [h] at l2; omega
      · exact h
    exact Nat.mul_lt_mul_of_pos_right (by omega) hB
  have m2 : r * A < A * s := by
    have hA : 0 < A := by
      rcases Nat.eq_zero_or_pos A with h | h
      · rw [h] at l3; omega
      · exact h
    rw [Nat.mul_comm A s]
    exact Nat.mul_lt_mul_of_pos_right (by omega) hA
  have y1 : IntKind.u64.wrap ((A : Int) * (s : Int)) = ((A * s : Nat) : Int) := by rw [← Int.natCast_mul]; exact tw64 _ (by omega)
  have HM1 := hid (fun V => Try.bits_Mul64 p B (by omega) (by omega) V)
  have HM2 := hid (fun V => Try.bits_Mul64 r A (by omega) (by omega) V)
  rw [Nat.div_eq_of_lt (Nat.lt_trans m1 l1), Nat.mod_eq_of_lt (Nat.lt_trans m1 l1)] at HM1
  rw [Nat.div_eq_of_lt (Nat.lt_trans m2 l1), Nat.mod_eq_of_lt (Nat.lt_trans m2 l1)] at HM2
  generalize A * s = W at *
  generalize p * B = x at *
  generalize r * A = y at *
  have a1 : ∀ V, (callFunc 64 #[.int .u64 (x : Int), .int .u64 (y : Int), .int .u64 0]).run Try.prog V = .ok (.value (.tuple #[.int .u64 (((x + y) % 18446744073709551616 : Nat) : Int), .int .u64 (((x + y) / 18446744073709551616 : Nat) : Int)])) V := fun V => add64_run x y 0 (by omega) (by omega) (by omega) V
  have hc : (x + y) / 18446744073709551616 ≤ 1 := by omega
  have a2 : ∀ V, (callFunc 64 #[.int .u64 0, .int .u64 0, .int .u64 (((x + y) / 18446744073709551616 : Nat) : Int)]).run Try.prog V = .ok (.value (.tuple #[.int .u64 (((x + y) / 18446744073709551616 : Nat) : Int), .int .u64 0])) V := fun V => by
    have e := add64_run 0 0 ((x + y) / 18446744073709551616) (by omega) (by omega) hc V
    rw [show (0 + 0 + (x + y) / 18446744073709551616) % 18446744073709551616 = (x + y) / 18446744073709551616 by omega, show (0 + 0 + (x + y) / 18446744073709551616) / 18446744073709551616 = 0 by omega] at e
    exact e
  have hlo : (x + y) % 18446744073709551616 < 18446744073709551616 := Nat.mod_lt _ (by decide)
  have HDV : Hid (((x + y) / 18446744073709551616) % W = (x + y) / 18446744073709551616 ∧ ∀ V, Calls Try.prog 65 #[.int .u64 (((x + y) / 18446744073709551616 : Nat) : Int), .int .u64 (((x + y) % 18446744073709551616 : Nat) : Int), .int .u64 (W : Int)] V fun e w' => ∃ z : Nat, e = .returned (.tuple #[.int .u64 (z : Int), .int .u64 (((x + y) % W : Nat) : Int)]) ∧ Below V.heap.size V w') := by
    by_cases c0 : x + y < 18446744073709551616
    · have e0 : (x + y) / 18446744073709551616 = 0 := by omega
      have e1 : (x + y) % 18446744073709551616 = x + y := by omega
      rw [e0, e1]
      refine ⟨Nat.zero_mod _, fun V => ?_⟩
      refine Calls.mono (div64_zero (x + y) W V c0 (by omega) l3) ?_
      rintro e w' ⟨rfl, hb⟩
      exact ⟨_, rfl, hb⟩
    · have e0 : (x + y) / 18446744073709551616 = 1 := by omega
      have e1 : (x + y) % W = 18446744073709551616 + (x + y) % 18446744073709551616 - W := by
        rw [Nat.mod_eq_sub_mod (by omega), Nat.mod_eq_of_lt (by omega)]; omega
      rw [e0, e1]
      refine ⟨Nat.mod_eq_of_lt (by omega), fun V => ?_⟩
      refine Calls.mono (div64_one ((x + y) % 18446744073709551616) W V (by omega) (by omega) hlo (by omega)) ?_
      rintro e w' ⟨rfl, hb⟩
      exact ⟨1, rfl, hb⟩
  have hm : (x + y) % W < W := Nat.mod_lt _ l3
  have HG := hid (fun V => dgcd_any ((x + y) % W) W V (by omega) (by omega))
  generalize (x + y) % W = z at *
  generalize (x + y) / 18446744073709551616 = c at *
  generalize (x + y) % 18446744073709551616 = L at *
  have hdd : 0 < Nat.gcd z W := Nat.gcd_pos_of_pos_right _ (by omega)
  have kk1 : z / Nat.gcd z W ≤ z := Nat.div_le_self _ _
  have kk2 : W / Nat.gcd z W ≤ W := Nat.div_le_self _ _
  have kk3 : z / Nat.gcd z W < W / Nat.gcd z W := Nat.div_lt_div_of_lt_of_dvd (Nat.gcd_dvd_right z W) hm
  have HL1 : Hid (W / Nat.gcd z W ≤ 4294967296 → lowR z W = (((z / Nat.gcd z W : Nat) : Int), ((W / Nat.gcd z W : Nat) : Int), 0)) := fun h => by unfold lowR; rw [if_pos h]
  have HL2 : Hid (¬ W / Nat.gcd z W ≤ 4294967296 → lowR z W = (0, 0, 3)) := fun h => by unfold lowR; rw [if_neg h]
  generalize Nat.gcd z W = dd at *
  have v1 : IntKind.u64.wrap ((z : Int) / (dd : Int)) = ((z / dd : Nat) : Int) := by
    rw [show ((z : Int) / (dd : Int)) = ((z / dd : Nat) : Int) from rfl]; exact tw64 _ (by omega)
  have v2 : IntKind.u64.wrap ((W : Int) / (dd : Int)) = ((W / dd : Nat) : Int) := by
    rw [show ((W : Int) / (dd : Int)) = ((W / dd : Nat) : Int) from rfl]; exact tw64 _ (by omega)
  have v3 : (z : Int) / (dd : Int) = ((z / dd : Nat) : Int) := rfl
  have v4 : (W : Int) / (dd : Int) = ((W / dd : Nat) : Int) := rfl
  generalize z / dd = P at *
  generalize W / dd = Q at *
  have u1 : (d : Int) ≠ 0 := by omega
  have u2 : (dd : Int) ≠ 0 := by omega
  have u3 : (W : Int) ≠ 0 := by omega
  have u4 : ((c : Int) % (W : Int)) = (c : Int) := by rw [← Int.natCast_emod, HDV.out.1]
  have HDV2 := hid HDV.out.2
  have wp : IntKind.u64.wrap (p : Int) = (p : Int) := tw64 _ (by omega)
  have wq : IntKind.u64.wrap (q : Int) = (q : Int) := tw64 _ (by omega)
  have wr' : IntKind.u64.wrap (r : Int) = (r : Int) := tw64 _ (by omega)
  have ws : IntKind.u64.wrap (s : Int) = (s : Int) := tw64 _ (by omega)
  clear m1 m2 l2 hc hlo HDV
  go_enter Try.func50, Try.ntmps50
  go_wp2_with fail
  generalize ((w.alloc (.cells #[.int .i64 (p : Int), .int .i64 (q : Int)] 26)).alloc (.cells #[.int .i64 (r : Int), .int .i64 (s : Int)] 26)).alloc (.cells #[.int .i64 0, .int .i64 0] 26) = X at *
  refine Calls.mono (HC1.out X) ?_
  rintro e w1 ⟨rfl, hb1⟩
  obtain ⟨c2, c3, f2, f3⟩ := fbox_facts HX.out.2.1 hb1
  go_wp2_with fail
  refine Calls.mono (HC2.out _) ?_
  rintro e w2 ⟨rfl, hb2⟩
  have HB2 := hid (b2 hb1 hb2)
  clear c2 c3 f2 f3 hb1 hb2 HC1 HC2
  obtain ⟨c0, c1, f0, f1⟩ := fbox_facts HX.out.1 HB2.out
  obtain ⟨c2, c3, f2, f3⟩ := fbox_facts HX.out.2.1 HB2.out
  go_wp2_with fail
  refine Calls.mono (HC.out _) ?_
  rintro e w3 ⟨rfl, hb3⟩
  have HB3 := hid (b2 HB2.out hb3)
  clear c0 c1 c2 c3 f0 f1 f2 f3 hb3 HB2 HC
  obtain ⟨c0, c1, f0, f1⟩ := fbox_facts HX.out.1 HB3.out
  obtain ⟨c2, c3, f2, f3⟩ := fbox_facts HX.out.2.1 HB3.out
  go_wp2_with fail
  go_quiet (fail)
  go_wp2_with fail
  have HB4 := hid (bdrewN HB3.out nq)
  generalize w3.drewN nq = w4 at *
  clear c0 c1 c2 c3 f0 f1 f2 f3 HB3
  obtain ⟨c0, c1, f0, f1⟩ := fbox_facts HX.out.1 HB4.out
  obtain ⟨c2, c3, f2, f3⟩ := fbox_facts HX.out.2.1 HB4.out
  go_quiet ((go_at_call 63; exact Calls.quiet_of_same (HM1.out _)))
  go_wp2_with fail
  have HB5 := hid (bdrewN HB4.out nq)
  generalize w4.drewN nq = w5 at *
  clear c0 c1 c2 c3 f0 f1 f2 f3 HB4
  obtain ⟨c0, c1, f0, f1⟩ := fbox_facts HX.out.1 HB5.out
  obtain ⟨c2, c3, f2, f3⟩ := fbox_facts HX.out.2.1 HB5.out
  go_quiet ((go_at_call 63; exact Calls.quiet_of_same (HM2.out _)))
  go_wp2_with fail
  have HB6 := hid (bdrewN HB5.out nq)
  generalize w5.drewN nq = w6 at *
  clear c0 c1 c2 c3 f0 f1 f2 f3 HB5
  refine Calls.mono (HDV2.out _) ?_
  rintro e w7 ⟨zz, rfl, hb7⟩
  go_wp2_with fail
  refine Calls.mono (HG.out _) ?_
  rintro e w8 ⟨rfl, hb8⟩
  have HB8 := hid (b2 HB6.out (b2 hb7 hb8))
  clear hb7 hb8 HB6 HDV2 HG HM1 HM2 a1 a2
  obtain ⟨c4, c5, f4, f5⟩ := fbox_facts HX.out.2.2.1 HB8.out
  have HBE := hid (b2 HX.out.2.2.2 HB8.out)
  clear HB8 HX
  by_cases h4 : Q ≤ 4294967296
  · have HR : Hid (sumR p q r s = ((P : Int), (Q : Int), 0)) := HV.out.trans (HL1.out h4)
    have h4' : ¬ (4294967296 : Int) < (Q : Int) := by omega
    clear HV HL1 HL2
    go_wp2_with fail
    go_region
    all_goals
      go_wp2_with fail
      refine bodyPost_ret (v := Value.tuple #[.agg #[.int .i64 (P : Int), .int .i64 (Q : Int)], .int .i64 0]) (by simp [results, Try.results50, go_sem, c4, c5]) rfl ?_
      exact ⟨by rw [HR.out]; rfl, by first | exact fput2 HBE.out.drew _ (by omega) _ _ | exact (fput2 HBE.out _ (by omega) _ _).drew⟩
  · have HR : Hid (sumR p q r s = (0, 0, 3)) := HV.out.trans (HL2.out h4)
    have h4' : (4294967296 : Int) < (Q : Int) := by omega
    clear HV HL1 HL2
    go_wp2_with fail
    refine bodyPost_ret (v := Value.tuple #[.agg #[.int .i64 0, .int .i64 0], .int .i64 3]) (by simp [results, Try.results50, go_sem, c4, c5]) rfl ?_
    exact ⟨by rw [HR.out]; rfl, fput2 HBE.out _ (by omega) _ _⟩

theorem chk_ok {p q : Int} (h : okI p q) : chk p q = 0 := by unfold chk; rw [if_pos h]
theorem chk_no {p q : Int} (h : ¬ okI p q) : chk p q = 180 := by unfold chk; rw [if_neg h]

set_option maxHeartbeats 1600000 in
set_option maxRecDepth 100000 in
theorem dadd_any (p q r s : Int) (w : World) (h : in64 p q) (g : in64 r s) :
    Calls Try.prog 50 #[.agg #[.int .i64 p, .int .i64 q], .agg #[.int .i64 r, .int .i64 s]] w fun e w' => e = .returned (tV (addR p q r s)) ∧ Below w.heap.size w w' := by
  have HX := hid (boxes3 w 26 #[.int .i64 p, .int .i64 q] #[.int .i64 r, .int .i64 s] #[.int .i64 0, .int .i64 0])
  have HC1 := hid (fun V => dcheck_any p q V h.1.1 h.1.2 h.2.1 h.2.2)
  have HC2 := hid (fun V => dcheck_any r s V g.1.1 g.1.2 g.2.1 g.2.2)
  by_cases h1 : okI p q
  · by_cases h2 : okI r s
    · unfold addR
      rw [if_pos ⟨h1, h2⟩]
      obtain ⟨_, _, h3, _, _⟩ := id h1
      obtain ⟨_, _, g3, _, _⟩ := id h2
      obtain ⟨a, rfl⟩ := Int.eq_ofNat_of_zero_le h3
      obtain ⟨b, rfl⟩ := Int.eq_ofNat_of_zero_le (show 0 ≤ q by omega)
      obtain ⟨c, rfl⟩ := Int.eq_ofNat_of_zero_le g3
      obtain ⟨d, rfl⟩ := Int.eq_ofNat_of_zero_le (show 0 ≤ s by omega)
      exact dadd_ok a b c d w h1 h2
    · rw [chk_ok h1] at HC1
      rw [chk_no h2] at HC2
      have HR : Hid (addR p q r s = (0, 0, 180)) := by show _ = _; unfold addR; rw [if_neg (fun k => h2 k.2)]
      clear h g h1 h2
      go_enter Try.func50, Try.ntmps50
      go_wp2_with fail
      generalize ((w.alloc (.cells #[.int .i64 p, .int .i64 q] 26)).alloc (.cells #[.int .i64 r, .int .i64 s] 26)).alloc (.cells #[.int .i64 0, .int .i64 0] 26) = X at *
      refine Calls.mono (HC1.out X) ?_
      rintro e w1 ⟨rfl, hb1⟩
      obtain ⟨c2, c3, f2, f3⟩ := fbox_facts HX.out.2.1 hb1
      go_wp2_with fail
      refine Calls.mono (HC2.out _) ?_
      rintro e w2 ⟨rfl, hb2⟩
      clear c2 c3 f2 f3
      obtain ⟨c4, c5, f4, f5⟩ := fbox_facts HX.out.2.2.1 (b2 hb1 hb2)
      have HB := hid (b2 HX.out.2.2.2 (b2 hb1 hb2))
      clear HX hb1 hb2 HC1 HC2
      go_wp2_with fail
      refine bodyPost_ret (v := Value.tuple #[.agg #[.int .i64 0, .int .i64 0], .int .i64 180]) (by simp [results, Try.results50, go_sem, c4, c5]) rfl ?_
      exact ⟨by rw [HR.out]; rfl, fput2 HB.out _ (by omega) _ _⟩
  · rw [chk_no h1] at HC1
    have HR : Hid (addR p q r s = (0, 0, 180)) := by show _ = _; unfold addR; rw [if_neg (fun k => h1 k.1)]
    clear h g h1 HC2
    go_enter Try.func50, Try.ntmps50
    go_wp2_with fail
    generalize ((w.alloc (.cells #[.int .i64 p, .int .i64 q] 26)).alloc (.cells #[.int .i64 r, .int .i64 s] 26)).alloc (.cells #[.int .i64 0, .int .i64 0] 26) = X at *
    refine Calls.mono (HC1.out X) ?_
    rintro e w1 ⟨rfl, hb1⟩
    obtain ⟨c4, c5, f4, f5⟩ := fbox_facts HX.out.2.2.1 hb1
    have HB := hid (b2 HX.out.2.2.2 hb1)
    clear HX hb1 HC1
    go_wp2_with fail
    refine bodyPost_ret (v := Value.tuple #[.agg #[.int .i64 0, .int .i64 0], .int .i64 180]) (by simp [results, Try.results50, go_sem, c4, c5]) rfl ?_
    exact ⟨by rw [HR.out]; rfl, fput2 HB.out _ (by omega) _ _⟩
end Go.Proofs.Ytphipjpdjimpgaa

/- The document's Sub; Compare, the program's and the document's. -/
namespace Go.Proofs.Ytphipjpdjimpgaa
open Go.RowKit
set_option linter.unusedVariables false

set_option maxHeartbeats 1600000 in
set_option maxRecDepth 100000 in
theorem dsub_any (p q r s : Int) (w : World) (h : in64 p q) (g : in64 r s) :
    Calls Try.prog 29 #[.agg #[.int .i64 p, .int .i64 q], .agg #[.int .i64 r, .int .i64 s]] w fun e w' => e = .returned (tV (subR p q r s)) ∧ Below w.heap.size w w' := by
  have HX := hid (boxes3 w 26 #[.int .i64 p, .int .i64 q] #[.int .i64 r, .int .i64 s] #[.int .i64 0, .int .i64 0])
  have HC1 := hid (fun V => dcheck_any p q V h.1.1 h.1.2 h.2.1 h.2.2)
  have HN := hid (fun V => dneg_any r s V g)
  by_cases h1 : okI p q
  · by_cases h2 : okI r s
    · have HS : Hid (∀ V, Calls Try.prog 50 #[.agg #[.int .i64 p, .int .i64 q], .agg #[.int .i64 ((-r) % s), .int .i64 s]] V fun e w' => e = .returned (tV (subR p q r s)) ∧ Below V.heap.size V w') := fun V => by
        unfold subR
        rw [if_pos ⟨h1, h2⟩]
        refine dadd_any p q _ s V h ?_
        obtain ⟨k1, k2, k3, k4, _⟩ := gcd_back h2
        exact ⟨⟨by omega, by omega⟩, by omega, by omega⟩
      rw [chk_ok h1] at HC1
      rw [show negR r s = ((-r) % s, s, 0) by unfold negR; rw [if_pos h2]] at HN
      obtain ⟨r', hr'⟩ : ∃ r', (-r) % s = r' := ⟨_, rfl⟩
      rw [hr'] at HN HS
      rw [show tV (r', s, 0) = Value.tuple #[.agg #[.int .i64 r', .int .i64 s], .int .i64 0] from rfl] at HN
      clear hr' h g h1 h2
      go_enter Try.func29, Try.ntmps29
      go_wp2_with fail
      generalize ((w.alloc (.cells #[.int .i64 p, .int .i64 q] 26)).alloc (.cells #[.int .i64 r, .int .i64 s] 26)).alloc (.cells #[.int .i64 0, .int .i64 0] 26) = X at *
      refine Calls.mono (HC1.out X) ?_
      rintro e w1 ⟨rfl, hb1⟩
      obtain ⟨c2, c3, f2, f3⟩ := fbox_facts HX.out.2.1 hb1
      go_wp2_with fail
      refine Calls.mono (HN.out _) ?_
      rintro e w2 ⟨rfl, hb2⟩
      have HB2 := hid (b2 hb1 hb2)
      clear c2 c3 f2 f3 hb1 hb2 HC1 HN
      have BA := hid (HX.out.1.later HB2.out HX.out.1.lt)
      have BB := hid (HX.out.2.1.later HB2.out HX.out.2.1.lt)
      have BR := hid (HX.out.2.2.1.later HB2.out HX.out.2.2.1.lt)
      obtain ⟨c0, c1, f0, f1⟩ := fbox_facts BA.out (Below.refl _ _)
      obtain ⟨c2, c3, f2, f3⟩ := fbox_facts BB.out (Below.refl _ _)
      obtain ⟨W3, hW3⟩ : ∃ W3, (w2.setCell ⟨w.heap.size + 1, 0, none⟩ (.int .i64 r')).setCell ⟨w.heap.size + 1, 1, none⟩ (.int .i64 s) = W3 := ⟨_, rfl⟩
      have BA3 : Hid (FBox W3 w.heap.size 26 #[.int .i64 p, .int .i64 q]) := by show FBox W3 _ _ _; rw [← hW3]; exact (BA.out.other _ _ (by show w.heap.size ≠ w.heap.size + 1; omega)).other _ _ (by show w.heap.size ≠ w.heap.size + 1; omega)
      have BB3 : Hid (FBox W3 (w.heap.size + 1) 26 #[.int .i64 r', .int .i64 s]) := by show FBox W3 _ _ _; rw [← hW3]; exact (BB.out.set 0 (.int .i64 r')).set 1 (.int .i64 s)
      have BR3 : Hid (FBox W3 (w.heap.size + 1 + 1) 26 #[.int .i64 0, .int .i64 0]) := by show FBox W3 _ _ _; rw [← hW3]; exact (BR.out.other _ _ (by show w.heap.size + 1 + 1 ≠ w.heap.size + 1; omega)).other _ _ (by show w.heap.size + 1 + 1 ≠ w.heap.size + 1; omega)
      have HB3 : Hid (Below w.heap.size w W3) := by show Below _ _ W3; rw [← hW3]; exact fput2 (b2 HX.out.2.2.2 HB2.out) _ (by omega) _ _
      obtain ⟨k0, k1, _, _⟩ := fbox_facts BA3.out (Below.refl _ _)
      obtain ⟨k2, k3, _, _⟩ := fbox_facts BB3.out (Below.refl _ _)
      clear BA BB BR HX HB2
      go_wp2_with fail
      clear hW3
      refine Calls.mono (HS.out _) ?_
      rintro e w4 ⟨rfl, hb4⟩
      clear c0 c1 f0 f1 c2 c3 f2 f3 k0 k1 k2 k3
      obtain ⟨c4, c5, f4, f5⟩ := fbox_facts BR3.out hb4
      have HB := hid (b2 HB3.out hb4)
      clear BA3 BB3 BR3 HB3 hb4 HS
      obtain ⟨T, hT⟩ : ∃ T, subR p q r s = T := ⟨_, rfl⟩
      have HT := hid hT
      rw [hT]
      clear hT
      obtain ⟨t1, t2, t3⟩ := T
      rw [show tV (t1, t2, t3) = Value.tuple #[.agg #[.int .i64 t1, .int .i64 t2], .int .i64 t3] from rfl]
      go_wp2_with fail
      refine bodyPost_ret (v := Value.tuple #[.agg #[.int .i64 t1, .int .i64 t2], .int .i64 t3]) (by simp [results, Try.results29, go_sem, c4, c5]) rfl ?_
      exact ⟨by rw [HT.out]; rfl, fput2 HB.out _ (by omega) _ _⟩
    · rw [chk_ok h1] at HC1
      rw [show negR r s = (0, 0, 180) by unfold negR; rw [if_neg h2]] at HN
      rw [show tV (0, 0, 180) = Value.tuple #[.agg #[.int .i64 0, .int .i64 0], .int .i64 180] from rfl] at HN
      have HR : Hid (subR p q r s = (0, 0, 180)) := by show _ = _; unfold subR; rw [if_neg (fun k => h2 k.2)]
      clear h g h1 h2
      go_enter Try.func29, Try.ntmps29
      go_wp2_with fail
      generalize ((w.alloc (.cells #[.int .i64 p, .int .i64 q] 26)).alloc (.cells #[.int .i64 r, .int .i64 s] 26)).alloc (.cells #[.int .i64 0, .int .i64 0] 26) = X at *
      refine Calls.mono (HC1.out X) ?_
      rintro e w1 ⟨rfl, hb1⟩
      obtain ⟨c2, c3, f2, f3⟩ := fbox_facts HX.out.2.1 hb1
      go_wp2_with fail
      refine Calls.mono (HN.out _) ?_
      rintro e w2 ⟨rfl, hb2⟩
      clear c2 c3 f2 f3
      obtain ⟨c2, c3, f2, f3⟩ := fbox_facts HX.out.2.1 (b2 hb1 hb2)
      obtain ⟨c4, c5, f4, f5⟩ := fbox_facts HX.out.2.2.1 (b2 hb1 hb2)
      have HB := hid (b2 HX.out.2.2.2 (b2 hb1 hb2))
      clear HX hb1 hb2 HC1 HN
      go_wp2_with fail
      refine bodyPost_ret (v := Value.tuple #[.agg #[.int .i64 0, .int .i64 0], .int .i64 180]) (by simp [results, Try.results29, go_sem, c4, c5]) rfl ?_
      exact ⟨by rw [HR.out]; rfl, fput2 (fput2 HB.out _ (by omega) _ _) _ (by omega) _ _⟩
  · rw [chk_no h1] at HC1
    have HR : Hid (subR p q r s = (0, 0, 180)) := by show _ = _; unfold subR; rw [if_neg (fun k => h1 k.1)]
    clear h g h1 HN
    go_enter Try.func29, Try.ntmps29
    go_wp2_with fail
    generalize ((w.alloc (.cells #[.int .i64 p, .int .i64 q] 26)).alloc (.cells #[.int .i64 r, .int .i64 s] 26)).alloc (.cells #[.int .i64 0, .int .i64 0] 26) = X at *
    refine Calls.mono (HC1.out X) ?_
    rintro e w1 ⟨rfl, hb1⟩
    obtain ⟨c4, c5, f4, f5⟩ := fbox_facts HX.out.2.2.1 hb1
    have HB := hid (b2 HX.out.2.2.2 hb1)
    clear HX hb1 HC1
    go_wp2_with fail
    refine bodyPost_ret (v := Value.tuple #[.agg #[.int .i64 0, .int .i64 0], .int .i64 180]) (by simp [results, Try.results29, go_sem, c4, c5]) rfl ?_
    exact ⟨by rw [HR.out]; rfl, fput2 HB.out _ (by omega) _ _⟩
end Go.Proofs.Ytphipjpdjimpgaa

/- The document's answers of layer 11: Phase where it is refused; Speed. -/
namespace Go.Proofs.Ytphipjpdjimpgaa
open Go.RowKit
set_option linter.unusedVariables false

set_option maxHeartbeats 800000 in
set_option maxRecDepth 100000 in
theorem dpphase_no (d : Nat → Int) (t E : Int) (w : World) (hn : ¬ dOK d ∧ E = 210 ∨ dOK d ∧ ¬ (0 ≤ t ∧ t ≤ 1048576) ∧ E = 2) : Calls Try.prog 8 #[.agg (doA d), .int .i64 t] w fun e w' => e = .returned (tT 0 0 E) ∧ Below w.heap.size w w' := by
  have HC := hid (fun V => dpcheck_any d V)
  unfold tT at *
  have HX := hid (dboxes2 w 24 26 (doA d) #[.int .i64 0, .int .i64 0])
  obtain ⟨X, hX⟩ : ∃ X, (w.alloc (.cells (doA d) 24)).alloc (.cells #[.int .i64 0, .int .i64 0] 26) = X := ⟨_, rfl⟩
  rw [hX] at HX
  have HE : Hid (dchk d = 210 ∧ E = 210 ∨ dchk d = 0 ∧ ¬ (0 ≤ t ∧ t ≤ 1048576) ∧ E = 2) := by
    rcases hn with ⟨h, e⟩ | ⟨h, g, e⟩
    · exact .inl ⟨dchk_no h, e⟩
    · exact .inr ⟨dchk_ok h, g, e⟩
  clear hn
  generalize dchk d = D at *
  unfold doA at *
  generalize d 0 = d0 at *
  generalize d 1 = d1 at *
  generalize d 2 = d2 at *
  generalize d 3 = d3 at *
  generalize d 4 = d4 at *
  generalize d 5 = d5 at *
  obtain ⟨n0, n1, n2, n3, n4, n5⟩ := box6 HX.out.1 (Below.refl _ _)
  go_enter Try.func8, Try.ntmps8
  go_wp2_with fail
  clear hX n0 n1 n2 n3 n4 n5
  refine Calls.mono (HC.out _) ?_
  rintro e w1 ⟨rfl, hb⟩
  obtain ⟨c0, c1, f0, f1⟩ := fbox_facts HX.out.2.1 hb
  have HB := hid (b2 HX.out.2.2 hb)
  clear hb HX HC
  rcases HE.out with ⟨rfl, rfl⟩ | ⟨rfl, ht, rfl⟩
  · go_wp2_with fail
    refine bodyPost_ret (v := Value.tuple #[.agg #[.int .i64 0, .int .i64 0], .int .i64 210]) (by simp [results, Try.results8, go_sem, c0, c1]) rfl ?_
    exact ⟨rfl, by first | exact fput2 HB.out _ (by omega) _ _ | exact HB.out⟩
  · go_wp2_with fail
    all_goals first
      | (exfalso; omega)
      | (refine bodyPost_ret (v := Value.tuple #[.agg #[.int .i64 0, .int .i64 0], .int .i64 2]) (by simp [results, Try.results8, go_sem, c0, c1]) rfl ?_
         exact ⟨rfl, by first | exact fput2 HB.out _ (by omega) _ _ | exact HB.out⟩)

set_option maxHeartbeats 1600000 in
set_option maxRecDepth 100000 in
theorem dpspeed_ok (d : Nat → Int) (w : World) (hd : dOK d) : Calls Try.prog 6 #[.agg (doA d)] w fun e w' => e = .returned (tV (circ (dV d))) ∧ Below w.heap.size w w' := by
  have H0 : Hid (∀ V, Calls Try.prog 8 #[.agg (doA d), .int .i64 0] V fun e w' => e = .returned (tV (circ (dU d 0))) ∧ Below V.heap.size V w') := fun V => dpphase_ok d 0 V hd (by decide)
  have H1 : Hid (∀ V, Calls Try.prog 8 #[.agg (doA d), .int .i64 1] V fun e w' => e = .returned (tV (circ (dU d 0 + dV d))) ∧ Below V.heap.size V w') := fun V => by
    have e := dpphase_ok d 1 V hd (by decide)
    rw [show dU d 1 = dU d (0 + 1) from rfl, dU_next] at e
    exact e
  obtain ⟨p1, p2, ep, op, _⟩ := circ_told (dU d 0)
  obtain ⟨q1, q2, eq, oq, _⟩ := circ_told (dU d 0 + dV d)
  obtain ⟨v1, v2, ev, ov, _⟩ := circ_told (dV d)
  have HS := hid (fun V => dsub_any q1 q2 p1 p2 V (dok_in oq) (dok_in op))
  rw [sub_circ eq ep, show dU d 0 + dV d - dU d 0 = dV d by omega, ev, show tV (v1, v2, 0) = Value.tuple #[.agg #[.int .i64 v1, .int .i64 v2], .int .i64 0] from rfl] at HS
  rw [ep, show tV (p1, p2, 0) = Value.tuple #[.agg #[.int .i64 p1, .int .i64 p2], .int .i64 0] from rfl] at H0
  rw [eq, show tV (q1, q2, 0) = Value.tuple #[.agg #[.int .i64 q1, .int .i64 q2], .int .i64 0] from rfl] at H1
  rw [ev, show tV (v1, v2, 0) = Value.tuple #[.agg #[.int .i64 v1, .int .i64 v2], .int .i64 0] from rfl]
  clear ep eq ev op oq ov hd
  have HX := hid (dboxes2 w 24 26 (doA d) #[.int .i64 0, .int .i64 0])
  obtain ⟨X, hX⟩ : ∃ X, (w.alloc (.cells (doA d) 24)).alloc (.cells #[.int .i64 0, .int .i64 0] 26) = X := ⟨_, rfl⟩
  rw [hX] at HX
  unfold doA at *
  generalize d 0 = d0 at *
  generalize d 1 = d1 at *
  generalize d 2 = d2 at *
  generalize d 3 = d3 at *
  generalize d 4 = d4 at *
  generalize d 5 = d5 at *
  obtain ⟨n0, n1, n2, n3, n4, n5⟩ := box6 HX.out.1 (Below.refl _ _)
  go_enter Try.func6, Try.ntmps6
  go_wp2_with fail
  clear hX n0 n1 n2 n3 n4 n5
  refine Calls.mono (H0.out _) ?_
  rintro e w1 ⟨rfl, hb⟩
  have HA1 := hid (HX.out.1.later hb HX.out.1.lt)
  have HR1 := hid (HX.out.2.1.later hb HX.out.2.1.lt)
  have HB1 := hid (b2 HX.out.2.2 hb)
  clear hb HX
  have HN := hid (boxes1 w1 26 #[.int .i64 p1, .int .i64 p2])
  obtain ⟨w2, hW⟩ : ∃ w2, w1.alloc (.cells #[.int .i64 p1, .int .i64 p2] 26) = w2 := ⟨_, rfl⟩
  rw [hW] at HN
  have HA2 := hid (HA1.out.later HN.out.2 HA1.out.lt)
  have HR2 := hid (HR1.out.later HN.out.2 HR1.out.lt)
  have HB2 := hid (b2 HB1.out HN.out.2)
  have HP2 := hid HN.out.1
  clear HN HA1 HR1 HB1
  obtain ⟨n0, n1, n2, n3, n4, n5⟩ := box6 HA2.out (Below.refl _ _)
  go_wp2_with fail
  clear hW n0 n1 n2 n3 n4 n5
  refine Calls.mono (H1.out _) ?_
  rintro e w3 ⟨rfl, hb⟩
  have HR3 := hid (HR2.out.later hb HR2.out.lt)
  have HP3 := hid (HP2.out.later hb HP2.out.lt)
  have HB3 := hid (b2 HB2.out hb)
  clear hb HA2 HR2 HP2 HB2
  have HN := hid (boxes1 w3 26 #[.int .i64 q1, .int .i64 q2])
  obtain ⟨w4, hW⟩ : ∃ w4, w3.alloc (.cells #[.int .i64 q1, .int .i64 q2] 26) = w4 := ⟨_, rfl⟩
  rw [hW] at HN
  have HR4 := hid (HR3.out.later HN.out.2 HR3.out.lt)
  have HP4 := hid (HP3.out.later HN.out.2 HP3.out.lt)
  have HB4 := hid (b2 HB3.out HN.out.2)
  have HQ4 := hid HN.out.1
  clear HN HR3 HP3 HB3
  obtain ⟨a0, a1, _, _⟩ := fbox_facts HP4.out (Below.refl _ _)
  obtain ⟨b0, b1, _, _⟩ := fbox_facts HQ4.out (Below.refl _ _)
  go_wp2_with fail
  clear hW a0 a1 b0 b1
  refine Calls.mono (HS.out _) ?_
  rintro e w5 ⟨rfl, hb⟩
  obtain ⟨c0, c1, f0, f1⟩ := fbox_facts HR4.out hb
  have HB5 := hid (b2 HB4.out hb)
  clear hb
  go_wp2_with fail
  refine bodyPost_ret (v := Value.tuple #[.agg #[.int .i64 v1, .int .i64 v2], .int .i64 0]) (by simp [results, Try.results6, go_sem, c0, c1]) rfl ?_
  exact ⟨rfl, fput2 HB5.out _ (by omega) _ _⟩
set_option maxHeartbeats 1600000 in
set_option maxRecDepth 100000 in
theorem dpspeed_err (d : Nat → Int) (w : World) (hd : ¬ dOK d) : Calls Try.prog 6 #[.agg (doA d)] w fun e w' => e = .returned (tT 0 0 210) ∧ Below w.heap.size w w' := by
  have H0 : Hid (∀ V, Calls Try.prog 8 #[.agg (doA d), .int .i64 0] V fun e w' => e = .returned (tT 0 0 210) ∧ Below V.heap.size V w') := fun V => dpphase_no d 0 210 V (.inl ⟨hd, rfl⟩)
  unfold tT at *
  clear hd
  have HX := hid (dboxes2 w 24 26 (doA d) #[.int .i64 0, .int .i64 0])
  obtain ⟨X, hX⟩ : ∃ X, (w.alloc (.cells (doA d) 24)).alloc (.cells #[.int .i64 0, .int .i64 0] 26) = X := ⟨_, rfl⟩
  rw [hX] at HX
  unfold doA at *
  generalize d 0 = d0 at *
  generalize d 1 = d1 at *
  generalize d 2 = d2 at *
  generalize d 3 = d3 at *
  generalize d 4 = d4 at *
  generalize d 5 = d5 at *
  obtain ⟨n0, n1, n2, n3, n4, n5⟩ := box6 HX.out.1 (Below.refl _ _)
  go_enter Try.func6, Try.ntmps6
  go_wp2_with fail
  clear hX n0 n1 n2 n3 n4 n5
  refine Calls.mono (H0.out _) ?_
  rintro e w1 ⟨rfl, hb⟩
  have HR1 := hid (HX.out.2.1.later hb HX.out.2.1.lt)
  have HB1 := hid (b2 HX.out.2.2 hb)
  have hlt1 := HR1.out.lt
  clear hb HX
  have HN := hid (boxes1 w1 26 #[.int .i64 0, .int .i64 0])
  obtain ⟨w2, hW⟩ : ∃ w2, w1.alloc (.cells #[.int .i64 0, .int .i64 0] 26) = w2 := ⟨_, rfl⟩
  rw [hW] at HN
  obtain ⟨g0, g1, i0, i1⟩ := fbox_facts HN.out.1 (Below.refl _ _)
  have HR2 := hid ((HR1.out.later HN.out.2 HR1.out.lt).off2 (show w.heap.size + 1 ≠ w1.heap.size by omega) (.int .i64 0) (.int .i64 0))
  have HB2 := hid (fput2 (b2 HB1.out HN.out.2) w1.heap.size (by omega) (.int .i64 0) (.int .i64 0))
  obtain ⟨w3, hW3⟩ : ∃ w3, (w2.setCell ⟨w1.heap.size, 0, none⟩ (.int .i64 0)).setCell ⟨w1.heap.size, 1, none⟩ (.int .i64 0) = w3 := ⟨_, rfl⟩
  rw [hW3] at HR2 HB2
  clear HN HR1 HB1
  obtain ⟨c0, c1, f0, f1⟩ := fbox_facts HR2.out (Below.refl _ _)
  go_wp2_with fail
  refine bodyPost_ret (v := Value.tuple #[.agg #[.int .i64 0, .int .i64 0], .int .i64 210]) (by simp [results, Try.results6, go_sem, c0, c1]) rfl ?_
  exact ⟨rfl, by first | exact fput2 HB2.out _ (by omega) _ _ | exact HB2.out⟩
end Go.Proofs.Ytphipjpdjimpgaa

/- The document's answers of layer 11: products, quotients, conjugates. -/
namespace Go.Proofs.Ytphipjpdjimpgaa
open Go.RowKit
set_option linter.unusedVariables false
set_option linter.unusedSimpArgs false

/-- The first k sums, the others nought. -/
def dN (a b : Nat → Int) (s : Int) (k j : Nat) : Int := if j < k then a j + s * b j else 0
theorem dN_at (a b : Nat → Int) (s : Int) (k : Nat) (hk : k < 6) : (doA (dN a b s k))[k]? = some (.int .i8 0) := by
  rcases (show k = 0 ∨ k = 1 ∨ k = 2 ∨ k = 3 ∨ k = 4 ∨ k = 5 by omega) with rfl | rfl | rfl | rfl | rfl | rfl <;> rfl
theorem dN_set (a b : Nat → Int) (s : Int) (k : Nat) (hk : k < 6) : (doA (dN a b s k)).setIfInBounds k (.int .i8 (a k + s * b k)) = doA (dN a b s (k + 1)) := by
  rcases (show k = 0 ∨ k = 1 ∨ k = 2 ∨ k = 3 ∨ k = 4 ∨ k = 5 by omega) with rfl | rfl | rfl | rfl | rfl | rfl <;> rfl
theorem dN_six (a b : Nat → Int) (s : Int) : doA (dN a b s 6) = doA (dJ a b s) := rfl

set_option maxHeartbeats 1600000 in
set_option maxRecDepth 100000 in
theorem dpsum_ok (a b : Nat → Int) (s : Int) (w : World) (ha : dOK a) (hb : dOK b) (hs : s = 1 ∨ s = -1) (hj : dOK (dJ a b s)) :
    Calls Try.prog 36 #[.agg (doA a), .agg (doA b), .int .i8 s] w fun e w' => e = .returned (.tuple #[.agg (doA (dJ a b s)), .int .i64 0]) ∧ Below w.heap.size w w' := by
  have HCa := hid (fun V => dpcheck_any a V)
  rw [dchk_ok ha] at HCa
  have HCb := hid (fun V => dpcheck_any b V)
  rw [dchk_ok hb] at HCb
  have HCj := hid (fun V => dpcheck_any (dJ a b s) V)
  rw [dchk_ok hj] at HCj
  have HIA : Hid (∀ (q k : Nat), k < 6 → ∀ V, (Instr.indexAt 24 (.pointer (some ⟨q, 0, none⟩)) (.int .i64 (k : Int))).run Try.prog V = .ok (.pointer (some ⟨q, k, none⟩)) V) := fun q k hk V => didxa q k V hk
  have HX := hid (dboxes3 w 24 24 24 (doA a) (doA b) #[.int .i8 0, .int .i8 0, .int .i8 0, .int .i8 0, .int .i8 0, .int .i8 0])
  obtain ⟨X, hX⟩ : ∃ X, ((w.alloc (.cells (doA a) 24)).alloc (.cells (doA b) 24)).alloc (.cells #[.int .i8 0, .int .i8 0, .int .i8 0, .int .i8 0, .int .i8 0, .int .i8 0] 24) = X := ⟨_, rfl⟩
  rw [hX] at HX
  have HAB : Hid (∀ k : Nat, k < 6 → (-4 ≤ a k ∧ a k ≤ 4) ∧ -4 ≤ s * b k ∧ s * b k ≤ 4) := fun k hk => ⟨ha k hk, by have := hb k hk; rcases hs with rfl | rfl <;> omega⟩
  clear ha hb hs hj
  obtain ⟨n0, n1, n2, n3, n4, n5⟩ := box6 HX.out.1 (Below.refl _ _)
  rw [show doA a = #[.int .i8 (a 0), .int .i8 (a 1), .int .i8 (a 2), .int .i8 (a 3), .int .i8 (a 4), .int .i8 (a 5)] from rfl, show doA b = #[.int .i8 (b 0), .int .i8 (b 1), .int .i8 (b 2), .int .i8 (b 3), .int .i8 (b 4), .int .i8 (b 5)] from rfl] at *
  go_enter Try.func36, Try.ntmps36
  go_wp2_with fail
  clear hX n0 n1 n2 n3 n4 n5
  refine Calls.mono (HCa.out _) ?_
  rintro e w1 ⟨rfl, hb⟩
  have HX1 := hid (HX.out.1.later hb HX.out.1.lt)
  have HY1 := hid (HX.out.2.1.later hb HX.out.2.1.lt)
  have HZ1 := hid (HX.out.2.2.1.later hb HX.out.2.2.1.lt)
  have HB1 := hid (b2 HX.out.2.2.2 hb)
  clear hb HX HCa
  obtain ⟨n0, n1, n2, n3, n4, n5⟩ := box6 HY1.out (Below.refl _ _)
  go_wp2_with fail
  clear n0 n1 n2 n3 n4 n5
  refine Calls.mono (HCb.out _) ?_
  rintro e w2 ⟨rfl, hb⟩
  have HX2 := hid (HX1.out.later hb HX1.out.lt)
  have HY2 := hid (HY1.out.later hb HY1.out.lt)
  have HZ2 := hid (HZ1.out.later hb HZ1.out.lt)
  have HB2 := hid (b2 HB1.out hb)
  clear hb HX1 HY1 HZ1 HB1 HCb
  have HN := hid (boxes1 w2 24 #[.int .i8 0, .int .i8 0, .int .i8 0, .int .i8 0, .int .i8 0, .int .i8 0])
  obtain ⟨w3, hW⟩ : ∃ w3, w2.alloc (.cells #[.int .i8 0, .int .i8 0, .int .i8 0, .int .i8 0, .int .i8 0, .int .i8 0] 24) = w3 := ⟨_, rfl⟩
  rw [hW] at HN
  have HX3 := hid (HX2.out.later HN.out.2 HX2.out.lt)
  have HY3 := hid (HY2.out.later HN.out.2 HY2.out.lt)
  have HZ3 := hid (HZ2.out.later HN.out.2 HZ2.out.lt)
  have HB3 := hid (b2 HB2.out HN.out.2)
  have HC3 := hid HN.out.1
  have l2 : w.heap.size + 1 + 1 < w2.heap.size := HZ2.out.lt
  clear HN HX2 HY2 HZ2 HB2
  go_wp2_with fail
  clear hW
  generalize w2.heap.size = g at HC3 l2 ⊢
  go_loopw [10] (fun x wr => ∃ k : Nat, k ≤ 6 ∧ x = .int .i64 (k : Int) ∧ Hid (FBox wr w.heap.size 24 (doA a)) ∧ Hid (FBox wr (w.heap.size + 1) 24 (doA b)) ∧ Hid (FBox wr (w.heap.size + 1 + 1) 24 #[.int .i8 0, .int .i8 0, .int .i8 0, .int .i8 0, .int .i8 0, .int .i8 0]) ∧ Hid (FBox wr g 24 (doA (dN a b s k))) ∧ Hid (Below w.heap.size w wr)) (fun x _ => 6 - (intOf x).toNat)
  case atStart => exact ⟨0, by decide, rfl, HX3, HY3, HZ3, HC3, HB3⟩
  case round =>
    obtain ⟨k, hk, rfl, HA, HBb, HZ, HC, HB⟩ := hrel
    by_cases hlt : k < 6
    · have ia := HIA.out w.heap.size k hlt
      have ib := HIA.out (w.heap.size + 1) k hlt
      have ic := HIA.out g k hlt
      obtain ⟨⟨p0, p1⟩, q0, q1⟩ := HAB.out k hlt
      have HS := hid (dN_set a b s k hlt)
      have ca : wr.cell? ⟨w.heap.size, k, none⟩ = some (.int .i8 (a k)) := (HA.out.cell k).trans (doA_at a k hlt)
      have cb : wr.cell? ⟨w.heap.size + 1, k, none⟩ = some (.int .i8 (b k)) := (HBb.out.cell k).trans (doA_at b k hlt)
      have cc : wr.cell? ⟨g, k, none⟩ = some (.int .i8 0) := (HC.out.cell k).trans (dN_at a b s k hlt)
      have cf := HC.out.free k
      generalize a k = x at *
      generalize b k = y at *
      obtain ⟨P, hP⟩ : ∃ P, s * y = P := ⟨_, rfl⟩
      rw [hP] at q0 q1 HS
      have e1 : IntKind.i8.wrap P = P := wrap8 (by omega) (by omega)
      have e2 : IntKind.i8.wrap (x + P) = x + P := wrap8 (by omega) (by omega)
      have HA4 := hid (HA.out.off (show w.heap.size ≠ g by omega) k (.int .i8 (x + P)))
      have HB4 := hid (HBb.out.off (show w.heap.size + 1 ≠ g by omega) k (.int .i8 (x + P)))
      have HZ4 := hid (HZ.out.off (show w.heap.size + 1 + 1 ≠ g by omega) k (.int .i8 (x + P)))
      have HC4 := hid (HC.out.set k (.int .i8 (x + P)))
      rw [HS.out] at HC4
      have HD4 := hid (HB.out.setCell (p := ⟨g, k, none⟩) (show w.heap.size ≤ g by omega) (.int .i8 (x + P)))
      obtain ⟨V, hV⟩ : ∃ V, wr.setCell ⟨g, k, none⟩ (.int .i8 (x + P)) = V := ⟨_, rfl⟩
      rw [hV] at HA4 HB4 HZ4 HC4 HD4
      clear HIA HAB HCj HX3 HY3 HZ3 HC3 HB3 p0 p1 q0 q1
      go_wp2_with fail
      go_region
      all_goals
        go_wp2_with fail
        go_roundw
        case rel => exact ⟨k + 1, by omega, by go_num, by first | exact HA4 | exact HA4.out, by first | exact HB4 | exact HB4.out, by first | exact HZ4 | exact HZ4.out, by first | exact HC4 | exact HC4.out, by first | exact HD4 | exact hid HD4.out.drew⟩
        case measure => simp [intOf]; omega
    · obtain rfl : k = 6 := by omega
      clear HAB HX3 HY3 HZ3 HB3 HC3 HIA
      rw [dN_six] at HC
      have HJE : Hid (doA (dJ a b s) = #[.int .i8 (dJ a b s 0), .int .i8 (dJ a b s 1), .int .i8 (dJ a b s 2), .int .i8 (dJ a b s 3), .int .i8 (dJ a b s 4), .int .i8 (dJ a b s 5)]) := rfl
      rw [HJE.out] at HC HCj
      generalize dJ a b s 0 = j0 at HC HCj HJE
      generalize dJ a b s 1 = j1 at HC HCj HJE
      generalize dJ a b s 2 = j2 at HC HCj HJE
      generalize dJ a b s 3 = j3 at HC HCj HJE
      generalize dJ a b s 4 = j4 at HC HCj HJE
      generalize dJ a b s 5 = j5 at HC HCj HJE
      obtain ⟨n0, n1, n2, n3, n4, n5⟩ := box6 HC.out (Below.refl _ _)
      go_wp2_with fail
      clear n0 n1 n2 n3 n4 n5
      refine Calls.mono (HCj.out _) ?_
      rintro e w4 ⟨rfl, hb⟩
      have HC5 := hid (HC.out.later hb HC.out.lt)
      have HZ5 := hid (HZ.out.later hb HZ.out.lt)
      have HB5 := hid (HB.out.trans (hb.mono HB.out.size))
      clear hb HC HZ HB HA HBb HCj
      obtain ⟨n0, n1, n2, n3, n4, n5⟩ := box6 HC5.out (Below.refl _ _)
      obtain ⟨m0, m1, m2, m3, m4, m5⟩ := box6 HZ5.out (Below.refl _ _)
      obtain ⟨f0, f1, f2, f3, f4, f5⟩ := free6 HZ5.out (Below.refl _ _)
      have HR := hid (HZ5.out.put6 (.int .i8 j0) (.int .i8 j1) (.int .i8 j2) (.int .i8 j3) (.int .i8 j4) (.int .i8 j5))
      have HBR := hid (dput6 HB5.out (w.heap.size + 1 + 1) (by omega) (.int .i8 j0) (.int .i8 j1) (.int .i8 j2) (.int .i8 j3) (.int .i8 j4) (.int .i8 j5))
      obtain ⟨W, hW⟩ : ∃ W, ((((((w4.setCell ⟨w.heap.size + 1 + 1, 0, none⟩ (.int .i8 j0)).setCell ⟨w.heap.size + 1 + 1, 1, none⟩ (.int .i8 j1)).setCell ⟨w.heap.size + 1 + 1, 2, none⟩ (.int .i8 j2)).setCell ⟨w.heap.size + 1 + 1, 3, none⟩ (.int .i8 j3)).setCell ⟨w.heap.size + 1 + 1, 4, none⟩ (.int .i8 j4)).setCell ⟨w.heap.size + 1 + 1, 5, none⟩ (.int .i8 j5)) = W := ⟨_, rfl⟩
      rw [hW] at HR HBR
      clear HC5 HZ5 HB5
      go_wp2_with fail
      clear hW m0 m1 m2 m3 m4 m5 n0 n1 n2 n3 n4 n5 f0 f1 f2 f3 f4 f5
      obtain ⟨n0, n1, n2, n3, n4, n5⟩ := box6 HR.out (Below.refl _ _)
      refine bodyPost_ret (v := Value.tuple #[.agg #[.int .i8 j0, .int .i8 j1, .int .i8 j2, .int .i8 j3, .int .i8 j4, .int .i8 j5], .int .i64 0]) (by simp [results, Try.results36, go_sem, n0, n1, n2, n3, n4, n5]) rfl ?_
      exact ⟨by rw [HJE.out], HBR.out⟩
set_option maxHeartbeats 1600000 in
set_option maxRecDepth 100000 in
theorem dpsum_big (a b : Nat → Int) (s : Int) (w : World) (ha : dOK a) (hb : dOK b) (hs : s = 1 ∨ s = -1) (hj : ¬ dOK (dJ a b s)) :
    Calls Try.prog 36 #[.agg (doA a), .agg (doA b), .int .i8 s] w fun e w' => e = .returned (.tuple #[.agg (doA (fun _ => 0)), .int .i64 210]) ∧ Below w.heap.size w w' := by
  have HCa := hid (fun V => dpcheck_any a V)
  rw [dchk_ok ha] at HCa
  have HCb := hid (fun V => dpcheck_any b V)
  rw [dchk_ok hb] at HCb
  have HCj := hid (fun V => dpcheck_any (dJ a b s) V)
  rw [dchk_no hj] at HCj
  have HIA : Hid (∀ (q k : Nat), k < 6 → ∀ V, (Instr.indexAt 24 (.pointer (some ⟨q, 0, none⟩)) (.int .i64 (k : Int))).run Try.prog V = .ok (.pointer (some ⟨q, k, none⟩)) V) := fun q k hk V => didxa q k V hk
  have HX := hid (dboxes3 w 24 24 24 (doA a) (doA b) #[.int .i8 0, .int .i8 0, .int .i8 0, .int .i8 0, .int .i8 0, .int .i8 0])
  obtain ⟨X, hX⟩ : ∃ X, ((w.alloc (.cells (doA a) 24)).alloc (.cells (doA b) 24)).alloc (.cells #[.int .i8 0, .int .i8 0, .int .i8 0, .int .i8 0, .int .i8 0, .int .i8 0] 24) = X := ⟨_, rfl⟩
  rw [hX] at HX
  have HAB : Hid (∀ k : Nat, k < 6 → (-4 ≤ a k ∧ a k ≤ 4) ∧ -4 ≤ s * b k ∧ s * b k ≤ 4) := fun k hk => ⟨ha k hk, by have := hb k hk; rcases hs with rfl | rfl <;> omega⟩
  clear ha hb hs hj
  obtain ⟨n0, n1, n2, n3, n4, n5⟩ := box6 HX.out.1 (Below.refl _ _)
  rw [show doA a = #[.int .i8 (a 0), .int .i8 (a 1), .int .i8 (a 2), .int .i8 (a 3), .int .i8 (a 4), .int .i8 (a 5)] from rfl, show doA b = #[.int .i8 (b 0), .int .i8 (b 1), .int .i8 (b 2), .int .i8 (b 3), .int .i8 (b 4), .int .i8 (b 5)] from rfl] at *
  go_enter Try.func36, Try.ntmps36
  go_wp2_with fail
  clear hX n0 n1 n2 n3 n4 n5
  refine Calls.mono (HCa.out _) ?_
  rintro e w1 ⟨rfl, hb⟩
  have HX1 := hid (HX.out.1.later hb HX.out.1.lt)
  have HY1 := hid (HX.out.2.1.later hb HX.out.2.1.lt)
  have HZ1 := hid (HX.out.2.2.1.later hb HX.out.2.2.1.lt)
  have HB1 := hid (b2 HX.out.2.2.2 hb)
  clear hb HX HCa
  obtain ⟨n0, n1, n2, n3, n4, n5⟩ := box6 HY1.out (Below.refl _ _)
  go_wp2_with fail
  clear n0 n1 n2 n3 n4 n5
  refine Calls.mono (HCb.out _) ?_
  rintro e w2 ⟨rfl, hb⟩
  have HX2 := hid (HX1.out.later hb HX1.out.lt)
  have HY2 := hid (HY1.out.later hb HY1.out.lt)
  have HZ2 := hid (HZ1.out.later hb HZ1.out.lt)
  have HB2 := hid (b2 HB1.out hb)
  clear hb HX1 HY1 HZ1 HB1 HCb
  have HN := hid (boxes1 w2 24 #[.int .i8 0, .int .i8 0, .int .i8 0, .int .i8 0, .int .i8 0, .int .i8 0])
  obtain ⟨w3, hW⟩ : ∃ w3, w2.alloc (.cells #[.int .i8 0, .int .i8 0, .int .i8 0, .int .i8 0, .int .i8 0, .int .i8 0] 24) = w3 := ⟨_, rfl⟩
  rw [hW] at HN
  have HX3 := hid (HX2.out.later HN.out.2 HX2.out.lt)
  have HY3 := hid (HY2.out.later HN.out.2 HY2.out.lt)
  have HZ3 := hid (HZ2.out.later HN.out.2 HZ2.out.lt)
  have HB3 := hid (b2 HB2.out HN.out.2)
  have HC3 := hid HN.out.1
  have l2 : w.heap.size + 1 + 1 < w2.heap.size := HZ2.out.lt
  clear HN HX2 HY2 HZ2 HB2
  go_wp2_with fail
  clear hW
  generalize w2.heap.size = g at HC3 l2 ⊢
  go_loopw [10] (fun x wr => ∃ k : Nat, k ≤ 6 ∧ x = .int .i64 (k : Int) ∧ Hid (FBox wr w.heap.size 24 (doA a)) ∧ Hid (FBox wr (w.heap.size + 1) 24 (doA b)) ∧ Hid (FBox wr (w.heap.size + 1 + 1) 24 #[.int .i8 0, .int .i8 0, .int .i8 0, .int .i8 0, .int .i8 0, .int .i8 0]) ∧ Hid (FBox wr g 24 (doA (dN a b s k))) ∧ Hid (Below w.heap.size w wr)) (fun x _ => 6 - (intOf x).toNat)
  case atStart => exact ⟨0, by decide, rfl, HX3, HY3, HZ3, HC3, HB3⟩
  case round =>
    obtain ⟨k, hk, rfl, HA, HBb, HZ, HC, HB⟩ := hrel
    by_cases hlt : k < 6
    · have ia := HIA.out w.heap.size k hlt
      have ib := HIA.out (w.heap.size + 1) k hlt
      have ic := HIA.out g k hlt
      obtain ⟨⟨p0, p1⟩, q0, q1⟩ := HAB.out k hlt
      have HS := hid (dN_set a b s k hlt)
      have ca : wr.cell? ⟨w.heap.size, k, none⟩ = some (.int .i8 (a k)) := (HA.out.cell k).trans (doA_at a k hlt)
      have cb : wr.cell? ⟨w.heap.size + 1, k, none⟩ = some (.int .i8 (b k)) := (HBb.out.cell k).trans (doA_at b k hlt)
      have cc : wr.cell? ⟨g, k, none⟩ = some (.int .i8 0) := (HC.out.cell k).trans (dN_at a b s k hlt)
      have cf := HC.out.free k
      generalize a k = x at *
      generalize b k = y at *
      obtain ⟨P, hP⟩ : ∃ P, s * y = P := ⟨_, rfl⟩
      rw [hP] at q0 q1 HS
      have e1 : IntKind.i8.wrap P = P := wrap8 (by omega) (by omega)
      have e2 : IntKind.i8.wrap (x + P) = x + P := wrap8 (by omega) (by omega)
      have HA4 := hid (HA.out.off (show w.heap.size ≠ g by omega) k (.int .i8 (x + P)))
      have HB4 := hid (HBb.out.off (show w.heap.size + 1 ≠ g by omega) k (.int .i8 (x + P)))
      have HZ4 := hid (HZ.out.off (show w.heap.size + 1 + 1 ≠ g by omega) k (.int .i8 (x + P)))
      have HC4 := hid (HC.out.set k (.int .i8 (x + P)))
      rw [HS.out] at HC4
      have HD4 := hid (HB.out.setCell (p := ⟨g, k, none⟩) (show w.heap.size ≤ g by omega) (.int .i8 (x + P)))
      obtain ⟨V, hV⟩ : ∃ V, wr.setCell ⟨g, k, none⟩ (.int .i8 (x + P)) = V := ⟨_, rfl⟩
      rw [hV] at HA4 HB4 HZ4 HC4 HD4
      clear HIA HAB HCj HX3 HY3 HZ3 HC3 HB3 p0 p1 q0 q1
      go_wp2_with fail
      go_region
      all_goals
        go_wp2_with fail
        go_roundw
        case rel => exact ⟨k + 1, by omega, by go_num, by first | exact HA4 | exact HA4.out, by first | exact HB4 | exact HB4.out, by first | exact HZ4 | exact HZ4.out, by first | exact HC4 | exact HC4.out, by first | exact HD4 | exact hid HD4.out.drew⟩
        case measure => simp [intOf]; omega
    · obtain rfl : k = 6 := by omega
      clear HAB HX3 HY3 HZ3 HB3 HC3 HIA
      rw [dN_six] at HC
      have HJE : Hid (doA (dJ a b s) = #[.int .i8 (dJ a b s 0), .int .i8 (dJ a b s 1), .int .i8 (dJ a b s 2), .int .i8 (dJ a b s 3), .int .i8 (dJ a b s 4), .int .i8 (dJ a b s 5)]) := rfl
      rw [HJE.out] at HC HCj
      generalize dJ a b s 0 = j0 at HC HCj HJE
      generalize dJ a b s 1 = j1 at HC HCj HJE
      generalize dJ a b s 2 = j2 at HC HCj HJE
      generalize dJ a b s 3 = j3 at HC HCj HJE
      generalize dJ a b s 4 = j4 at HC HCj HJE
      generalize dJ a b s 5 = j5 at HC HCj HJE
      obtain ⟨n0, n1, n2, n3, n4, n5⟩ := box6 HC.out (Below.refl _ _)
      go_wp2_with fail
      clear n0 n1 n2 n3 n4 n5
      refine Calls.mono (HCj.out _) ?_
      rintro e w4 ⟨rfl, hb⟩
      have HC5 := hid (HC.out.later hb HC.out.lt)
      have HZ5 := hid (HZ.out.later hb HZ.out.lt)
      have HB5 := hid (HB.out.trans (hb.mono HB.out.size))
      clear hb HC HZ HB HA HBb HCj
      obtain ⟨n0, n1, n2, n3, n4, n5⟩ := box6 HC5.out (Below.refl _ _)
      obtain ⟨m0, m1, m2, m3, m4, m5⟩ := box6 HZ5.out (Below.refl _ _)
      obtain ⟨f0, f1, f2, f3, f4, f5⟩ := free6 HZ5.out (Below.refl _ _)
      have HR := hid (HZ5.out.put6 (.int .i8 0) (.int .i8 0) (.int .i8 0) (.int .i8 0) (.int .i8 0) (.int .i8 0))
      have HBR := hid (dput6 HB5.out (w.heap.size + 1 + 1) (by omega) (.int .i8 0) (.int .i8 0) (.int .i8 0) (.int .i8 0) (.int .i8 0) (.int .i8 0))
      obtain ⟨W, hW⟩ : ∃ W, ((((((w4.setCell ⟨w.heap.size + 1 + 1, 0, none⟩ (.int .i8 0)).setCell ⟨w.heap.size + 1 + 1, 1, none⟩ (.int .i8 0)).setCell ⟨w.heap.size + 1 + 1, 2, none⟩ (.int .i8 0)).setCell ⟨w.heap.size + 1 + 1, 3, none⟩ (.int .i8 0)).setCell ⟨w.heap.size + 1 + 1, 4, none⟩ (.int .i8 0)).setCell ⟨w.heap.size + 1 + 1, 5, none⟩ (.int .i8 0)) = W := ⟨_, rfl⟩
      rw [hW] at HR HBR
      clear HC5 HZ5 HB5
      go_wp2_with fail
      clear hW m0 m1 m2 m3 m4 m5 n0 n1 n2 n3 n4 n5 f0 f1 f2 f3 f4 f5
      obtain ⟨n0, n1, n2, n3, n4, n5⟩ := box6 HR.out (Below.refl _ _)
      refine bodyPost_ret (v := Value.tuple #[.agg #[.int .i8 0, .int .i8 0, .int .i8 0, .int .i8 0, .int .i8 0, .int .i8 0], .int .i64 210]) (by simp [results, Try.results36, go_sem, n0, n1, n2, n3, n4, n5]) rfl ?_
      exact ⟨by rfl, HBR.out⟩
set_option maxHeartbeats 1600000 in
set_option maxRecDepth 100000 in
theorem dpsum_no (a b : Nat → Int) (s : Int) (w : World) (h : ¬ (dOK a ∧ dOK b)) :
    Calls Try.prog 36 #[.agg (doA a), .agg (doA b), .int .i8 s] w fun e w' => e = .returned (.tuple #[.agg (doA (fun _ => 0)), .int .i64 210]) ∧ Below w.heap.size w w' := by
  have HCa := hid (fun V => dpcheck_any a V)
  have HCb := hid (fun V => dpcheck_any b V)
  have HE : Hid (dchk a = 210 ∨ dchk a = 0 ∧ dchk b = 210) := by
    by_cases ha : dOK a
    · exact .inr ⟨dchk_ok ha, dchk_no (fun hb => h ⟨ha, hb⟩)⟩
    · exact .inl (dchk_no ha)
  clear h
  have HX := hid (dboxes3 w 24 24 24 (doA a) (doA b) #[.int .i8 0, .int .i8 0, .int .i8 0, .int .i8 0, .int .i8 0, .int .i8 0])
  obtain ⟨X, hX⟩ : ∃ X, ((w.alloc (.cells (doA a) 24)).alloc (.cells (doA b) 24)).alloc (.cells #[.int .i8 0, .int .i8 0, .int .i8 0, .int .i8 0, .int .i8 0, .int .i8 0] 24) = X := ⟨_, rfl⟩
  rw [hX] at HX
  generalize dchk a = Da at *
  generalize dchk b = Db at *
  obtain ⟨n0, n1, n2, n3, n4, n5⟩ := box6 HX.out.1 (Below.refl _ _)
  rw [show doA a = #[.int .i8 (a 0), .int .i8 (a 1), .int .i8 (a 2), .int .i8 (a 3), .int .i8 (a 4), .int .i8 (a 5)] from rfl, show doA b = #[.int .i8 (b 0), .int .i8 (b 1), .int .i8 (b 2), .int .i8 (b 3), .int .i8 (b 4), .int .i8 (b 5)] from rfl] at *
  go_enter Try.func36, Try.ntmps36
  go_wp2_with fail
  clear hX n0 n1 n2 n3 n4 n5
  refine Calls.mono (HCa.out _) ?_
  rintro e w1 ⟨rfl, hb⟩
  have HY1 := hid (HX.out.2.1.later hb HX.out.2.1.lt)
  have HZ1 := hid (HX.out.2.2.1.later hb HX.out.2.2.1.lt)
  have HB1 := hid (b2 HX.out.2.2.2 hb)
  clear hb HX HCa
  rcases HE.out with rfl | ⟨rfl, rfl⟩
  · clear HE
    obtain ⟨m0, m1, m2, m3, m4, m5⟩ := box6 HZ1.out (Below.refl _ _)
    obtain ⟨f0, f1, f2, f3, f4, f5⟩ := free6 HZ1.out (Below.refl _ _)
    have HR := hid (HZ1.out.put6 (.int .i8 0) (.int .i8 0) (.int .i8 0) (.int .i8 0) (.int .i8 0) (.int .i8 0))
    have HBR := hid (dput6 HB1.out (w.heap.size + 1 + 1) (by omega) (.int .i8 0) (.int .i8 0) (.int .i8 0) (.int .i8 0) (.int .i8 0) (.int .i8 0))
    obtain ⟨W, hW⟩ : ∃ W, ((((((w1.setCell ⟨w.heap.size + 1 + 1, 0, none⟩ (.int .i8 0)).setCell ⟨w.heap.size + 1 + 1, 1, none⟩ (.int .i8 0)).setCell ⟨w.heap.size + 1 + 1, 2, none⟩ (.int .i8 0)).setCell ⟨w.heap.size + 1 + 1, 3, none⟩ (.int .i8 0)).setCell ⟨w.heap.size + 1 + 1, 4, none⟩ (.int .i8 0)).setCell ⟨w.heap.size + 1 + 1, 5, none⟩ (.int .i8 0)) = W := ⟨_, rfl⟩
    rw [hW] at HR HBR
    go_wp2_with fail
    clear hW m0 m1 m2 m3 m4 m5 f0 f1 f2 f3 f4 f5
    obtain ⟨n0, n1, n2, n3, n4, n5⟩ := box6 HR.out (Below.refl _ _)
    refine bodyPost_ret (v := Value.tuple #[.agg #[.int .i8 0, .int .i8 0, .int .i8 0, .int .i8 0, .int .i8 0, .int .i8 0], .int .i64 210]) (by simp [results, Try.results36, go_sem, n0, n1, n2, n3, n4, n5]) rfl ?_
    exact ⟨rfl, HBR.out⟩
  · obtain ⟨n0, n1, n2, n3, n4, n5⟩ := box6 HY1.out (Below.refl _ _)
    clear HE
    go_wp2_with fail
    clear n0 n1 n2 n3 n4 n5
    refine Calls.mono (HCb.out _) ?_
    rintro e w2 ⟨rfl, hb⟩
    have HZ2 := hid (HZ1.out.later hb HZ1.out.lt)
    have HB2 := hid (b2 HB1.out hb)
    clear hb HZ1 HB1 HY1 HCb
    obtain ⟨m0, m1, m2, m3, m4, m5⟩ := box6 HZ2.out (Below.refl _ _)
    obtain ⟨f0, f1, f2, f3, f4, f5⟩ := free6 HZ2.out (Below.refl _ _)
    have HR := hid (HZ2.out.put6 (.int .i8 0) (.int .i8 0) (.int .i8 0) (.int .i8 0) (.int .i8 0) (.int .i8 0))
    have HBR := hid (dput6 HB2.out (w.heap.size + 1 + 1) (by omega) (.int .i8 0) (.int .i8 0) (.int .i8 0) (.int .i8 0) (.int .i8 0) (.int .i8 0))
    obtain ⟨W, hW⟩ : ∃ W, ((((((w2.setCell ⟨w.heap.size + 1 + 1, 0, none⟩ (.int .i8 0)).setCell ⟨w.heap.size + 1 + 1, 1, none⟩ (.int .i8 0)).setCell ⟨w.heap.size + 1 + 1, 2, none⟩ (.int .i8 0)).setCell ⟨w.heap.size + 1 + 1, 3, none⟩ (.int .i8 0)).setCell ⟨w.heap.size + 1 + 1, 4, none⟩ (.int .i8 0)).setCell ⟨w.heap.size + 1 + 1, 5, none⟩ (.int .i8 0)) = W := ⟨_, rfl⟩
    rw [hW] at HR HBR
    go_wp2_with fail
    clear hW m0 m1 m2 m3 m4 m5 f0 f1 f2 f3 f4 f5
    obtain ⟨n0, n1, n2, n3, n4, n5⟩ := box6 HR.out (Below.refl _ _)
    refine bodyPost_ret (v := Value.tuple #[.agg #[.int .i8 0, .int .i8 0, .int .i8 0, .int .i8 0, .int .i8 0, .int .i8 0], .int .i64 210]) (by simp [results, Try.results36, go_sem, n0, n1, n2, n3, n4, n5]) rfl ?_
    exact ⟨rfl, HBR.out⟩

theorem dpsum_any (a b : Nat → Int) (s : Int) (w : World) (hs : s = 1 ∨ s = -1) :
    Calls Try.prog 36 #[.agg (doA a), .agg (doA b), .int .i8 s] w fun e w' => e = .returned (dJR a b s) ∧ Below w.heap.size w w' := by
  unfold dJR
  by_cases hab : dOK a ∧ dOK b
  · by_cases hj : dOK (dJ a b s)
    · rw [if_pos ⟨hab.1, hab.2, hj⟩]; exact dpsum_ok a b s w hab.1 hab.2 hs hj
    · rw [if_neg (fun h => hj h.2.2)]; exact dpsum_big a b s w hab.1 hab.2 hs hj
  · rw [if_neg (fun h => hab ⟨h.1, h.2.1⟩)]; exact dpsum_no a b s w hab

set_option maxHeartbeats 1600000 in
set_option maxRecDepth 100000 in
theorem dptimes_any (a b : Nat → Int) (w : World) : Calls Try.prog 13 #[.agg (doA a), .agg (doA b)] w fun e w' => e = .returned (dJR a b 1) ∧ Below w.heap.size w w' := by
  have HJ := hid (fun V => dpsum_any a b 1 V (.inl rfl))
  obtain ⟨j0, j1, j2, j3, j4, j5, E, hj⟩ := dJR_or a b 1
  rw [hj] at HJ ⊢
  clear hj
  have HX := hid (dboxes3 w 24 24 24 (doA a) (doA b) #[.int .i8 0, .int .i8 0, .int .i8 0, .int .i8 0, .int .i8 0, .int .i8 0])
  obtain ⟨X, hX⟩ : ∃ X, ((w.alloc (.cells (doA a) 24)).alloc (.cells (doA b) 24)).alloc (.cells #[.int .i8 0, .int .i8 0, .int .i8 0, .int .i8 0, .int .i8 0, .int .i8 0] 24) = X := ⟨_, rfl⟩
  rw [hX] at HX
  unfold doA at *
  obtain ⟨n0, n1, n2, n3, n4, n5⟩ := box6 HX.out.1 (Below.refl _ _)
  obtain ⟨m0, m1, m2, m3, m4, m5⟩ := box6 HX.out.2.1 (Below.refl _ _)
  go_enter Try.func13, Try.ntmps13
  go_wp2_with fail
  clear hX n0 n1 n2 n3 n4 n5 m0 m1 m2 m3 m4 m5
  refine Calls.mono (HJ.out _) ?_
  rintro e w1 ⟨rfl, hb⟩
  have HZ1 := hid (HX.out.2.2.1.later hb HX.out.2.2.1.lt)
  have HB1 := hid (b2 HX.out.2.2.2 hb)
  clear hb HX HJ
  obtain ⟨m0, m1, m2, m3, m4, m5⟩ := box6 HZ1.out (Below.refl _ _)
  obtain ⟨f0, f1, f2, f3, f4, f5⟩ := free6 HZ1.out (Below.refl _ _)
  have HR := hid (HZ1.out.put6 (.int .i8 j0) (.int .i8 j1) (.int .i8 j2) (.int .i8 j3) (.int .i8 j4) (.int .i8 j5))
  have HBR := hid (dput6 HB1.out (w.heap.size + 1 + 1) (by omega) (.int .i8 j0) (.int .i8 j1) (.int .i8 j2) (.int .i8 j3) (.int .i8 j4) (.int .i8 j5))
  obtain ⟨W, hW⟩ : ∃ W, (((((w1.setCell ⟨w.heap.size + 1 + 1, 0, none⟩ (.int .i8 j0)).setCell ⟨w.heap.size + 1 + 1, 1, none⟩ (.int .i8 j1)).setCell ⟨w.heap.size + 1 + 1, 2, none⟩ (.int .i8 j2)).setCell ⟨w.heap.size + 1 + 1, 3, none⟩ (.int .i8 j3)).setCell ⟨w.heap.size + 1 + 1, 4, none⟩ (.int .i8 j4)).setCell ⟨w.heap.size + 1 + 1, 5, none⟩ (.int .i8 j5) = W := ⟨_, rfl⟩
  rw [hW] at HR HBR
  go_wp2_with fail
  clear hW m0 m1 m2 m3 m4 m5 f0 f1 f2 f3 f4 f5
  obtain ⟨n0, n1, n2, n3, n4, n5⟩ := box6 HR.out (Below.refl _ _)
  refine bodyPost_ret (v := Value.tuple #[.agg #[.int .i8 j0, .int .i8 j1, .int .i8 j2, .int .i8 j3, .int .i8 j4, .int .i8 j5], .int .i64 E]) (by simp [results, Try.results13, go_sem, n0, n1, n2, n3, n4, n5]) rfl ?_
  exact ⟨rfl, HBR.out⟩
set_option maxHeartbeats 1600000 in
set_option maxRecDepth 100000 in
theorem dpover_any (a b : Nat → Int) (w : World) : Calls Try.prog 15 #[.agg (doA a), .agg (doA b)] w fun e w' => e = .returned (dJR a b (-1)) ∧ Below w.heap.size w w' := by
  have HJ := hid (fun V => dpsum_any a b (-1) V (.inr rfl))
  obtain ⟨j0, j1, j2, j3, j4, j5, E, hj⟩ := dJR_or a b (-1)
  rw [hj] at HJ ⊢
  clear hj
  have HX := hid (dboxes3 w 24 24 24 (doA a) (doA b) #[.int .i8 0, .int .i8 0, .int .i8 0, .int .i8 0, .int .i8 0, .int .i8 0])
  obtain ⟨X, hX⟩ : ∃ X, ((w.alloc (.cells (doA a) 24)).alloc (.cells (doA b) 24)).alloc (.cells #[.int .i8 0, .int .i8 0, .int .i8 0, .int .i8 0, .int .i8 0, .int .i8 0] 24) = X := ⟨_, rfl⟩
  rw [hX] at HX
  unfold doA at *
  obtain ⟨n0, n1, n2, n3, n4, n5⟩ := box6 HX.out.1 (Below.refl _ _)
  obtain ⟨m0, m1, m2, m3, m4, m5⟩ := box6 HX.out.2.1 (Below.refl _ _)
  go_enter Try.func15, Try.ntmps15
  go_wp2_with fail
  clear hX n0 n1 n2 n3 n4 n5 m0 m1 m2 m3 m4 m5
  refine Calls.mono (HJ.out _) ?_
  rintro e w1 ⟨rfl, hb⟩
  have HZ1 := hid (HX.out.2.2.1.later hb HX.out.2.2.1.lt)
  have HB1 := hid (b2 HX.out.2.2.2 hb)
  clear hb HX HJ
  obtain ⟨m0, m1, m2, m3, m4, m5⟩ := box6 HZ1.out (Below.refl _ _)
  obtain ⟨f0, f1, f2, f3, f4, f5⟩ := free6 HZ1.out (Below.refl _ _)
  have HR := hid (HZ1.out.put6 (.int .i8 j0) (.int .i8 j1) (.int .i8 j2) (.int .i8 j3) (.int .i8 j4) (.int .i8 j5))
  have HBR := hid (dput6 HB1.out (w.heap.size + 1 + 1) (by omega) (.int .i8 j0) (.int .i8 j1) (.int .i8 j2) (.int .i8 j3) (.int .i8 j4) (.int .i8 j5))
  obtain ⟨W, hW⟩ : ∃ W, (((((w1.setCell ⟨w.heap.size + 1 + 1, 0, none⟩ (.int .i8 j0)).setCell ⟨w.heap.size + 1 + 1, 1, none⟩ (.int .i8 j1)).setCell ⟨w.heap.size + 1 + 1, 2, none⟩ (.int .i8 j2)).setCell ⟨w.heap.size + 1 + 1, 3, none⟩ (.int .i8 j3)).setCell ⟨w.heap.size + 1 + 1, 4, none⟩ (.int .i8 j4)).setCell ⟨w.heap.size + 1 + 1, 5, none⟩ (.int .i8 j5) = W := ⟨_, rfl⟩
  rw [hW] at HR HBR
  go_wp2_with fail
  clear hW m0 m1 m2 m3 m4 m5 f0 f1 f2 f3 f4 f5
  obtain ⟨n0, n1, n2, n3, n4, n5⟩ := box6 HR.out (Below.refl _ _)
  refine bodyPost_ret (v := Value.tuple #[.agg #[.int .i8 j0, .int .i8 j1, .int .i8 j2, .int .i8 j3, .int .i8 j4, .int .i8 j5], .int .i64 E]) (by simp [results, Try.results15, go_sem, n0, n1, n2, n3, n4, n5]) rfl ?_
  exact ⟨rfl, HBR.out⟩
set_option maxHeartbeats 1600000 in
set_option maxRecDepth 100000 in
theorem dpconj_any (b : Nat → Int) (w : World) : Calls Try.prog 17 #[.agg (doA b)] w fun e w' => e = .returned (dJR (fun _ => 0) b (-1)) ∧ Below w.heap.size w w' := by
  have HJ := hid (fun V => dpsum_any (fun _ => 0) b (-1) V (.inr rfl))
  obtain ⟨j0, j1, j2, j3, j4, j5, E, hj⟩ := dJR_or (fun _ => 0) b (-1)
  rw [hj] at HJ ⊢
  clear hj
  have HX := hid (dboxes2 w 24 24 (doA b) #[.int .i8 0, .int .i8 0, .int .i8 0, .int .i8 0, .int .i8 0, .int .i8 0])
  obtain ⟨X, hX⟩ : ∃ X, (w.alloc (.cells (doA b) 24)).alloc (.cells #[.int .i8 0, .int .i8 0, .int .i8 0, .int .i8 0, .int .i8 0, .int .i8 0] 24) = X := ⟨_, rfl⟩
  rw [hX] at HX
  unfold doA at *
  obtain ⟨n0, n1, n2, n3, n4, n5⟩ := box6 HX.out.1 (Below.refl _ _)
  go_enter Try.func17, Try.ntmps17
  go_wp2_with fail
  clear hX n0 n1 n2 n3 n4 n5
  refine Calls.mono (HJ.out _) ?_
  rintro e w1 ⟨rfl, hb⟩
  have HZ1 := hid (HX.out.2.1.later hb HX.out.2.1.lt)
  have HB1 := hid (b2 HX.out.2.2 hb)
  clear hb HX HJ
  obtain ⟨m0, m1, m2, m3, m4, m5⟩ := box6 HZ1.out (Below.refl _ _)
  obtain ⟨f0, f1, f2, f3, f4, f5⟩ := free6 HZ1.out (Below.refl _ _)
  have HR := hid (HZ1.out.put6 (.int .i8 j0) (.int .i8 j1) (.int .i8 j2) (.int .i8 j3) (.int .i8 j4) (.int .i8 j5))
  have HBR := hid (dput6 HB1.out (w.heap.size + 1) (by omega) (.int .i8 j0) (.int .i8 j1) (.int .i8 j2) (.int .i8 j3) (.int .i8 j4) (.int .i8 j5))
  obtain ⟨W, hW⟩ : ∃ W, (((((w1.setCell ⟨w.heap.size + 1, 0, none⟩ (.int .i8 j0)).setCell ⟨w.heap.size + 1, 1, none⟩ (.int .i8 j1)).setCell ⟨w.heap.size + 1, 2, none⟩ (.int .i8 j2)).setCell ⟨w.heap.size + 1, 3, none⟩ (.int .i8 j3)).setCell ⟨w.heap.size + 1, 4, none⟩ (.int .i8 j4)).setCell ⟨w.heap.size + 1, 5, none⟩ (.int .i8 j5) = W := ⟨_, rfl⟩
  rw [hW] at HR HBR
  go_wp2_with fail
  clear hW m0 m1 m2 m3 m4 m5 f0 f1 f2 f3 f4 f5
  obtain ⟨n0, n1, n2, n3, n4, n5⟩ := box6 HR.out (Below.refl _ _)
  refine bodyPost_ret (v := Value.tuple #[.agg #[.int .i8 j0, .int .i8 j1, .int .i8 j2, .int .i8 j3, .int .i8 j4, .int .i8 j5], .int .i64 E]) (by simp [results, Try.results17, go_sem, n0, n1, n2, n3, n4, n5]) rfl ?_
  exact ⟨rfl, HBR.out⟩
end Go.Proofs.Ytphipjpdjimpgaa

/- Species, the program's and the document's; the document's Print. -/
namespace Go.Proofs.Ytphipjpdjimpgaa
open Go.RowKit
set_option linter.unusedVariables false
set_option linter.unusedSimpArgs false

/-- The first number's size, or refused. -/
def dSp (d : Nat → Int) : Value := if dOK d then .tuple #[.int .i64 (if d 0 < 0 then -d 0 else d 0), .int .i64 0] else .tuple #[.int .i64 0, .int .i64 210]

set_option maxHeartbeats 800000 in
set_option maxRecDepth 100000 in
theorem dospecies_any (d : Nat → Int) (w : World) : Calls Try.prog 18 #[.agg (doA d)] w fun e w' => e = .returned (dSp d) ∧ Below w.heap.size w w' := by
  have HC := hid (fun V => docheck_any d V)
  have HX := hid (boxes1 w 24 (doA d))
  obtain ⟨X, hX⟩ : ∃ X, w.alloc (.cells (doA d) 24) = X := ⟨_, rfl⟩
  rw [hX] at HX
  unfold dSp
  by_cases hd : dOK d
  · rw [dchk_ok hd] at HC
    rw [if_pos hd]
    obtain ⟨b0, b1⟩ := hd 0 (by decide)
    clear hd
    unfold doA at *
    generalize d 0 = d0 at *
    obtain ⟨n0, n1, n2, n3, n4, n5⟩ := box6 HX.out.1 (Below.refl _ _)
    have e1 : IntKind.i64.wrap d0 = d0 := by rw [IntKind.wrap_i64]; omega
    have e2 : IntKind.i64.wrap (-d0) = -d0 := by rw [IntKind.wrap_i64]; omega
    have HM1 : Hid (d0 < 0 → (if d0 < 0 then -d0 else d0) = -d0) := fun h => if_pos h
    have HM2 : Hid (¬ d0 < 0 → (if d0 < 0 then -d0 else d0) = d0) := fun h => if_neg h
    generalize (if d0 < 0 then -d0 else d0) = m at *
    go_enter Try.func18, Try.ntmps18
    go_wp2_with fail
    refine Calls.mono (HC.out _) ?_
    rintro e w1 ⟨rfl, hb⟩
    have HB := hid (b2 HX.out.2 hb)
    clear n0 n1 n2 n3 n4 n5 hX
    have n0 : w1.cell? ⟨w.heap.size, 0, none⟩ = some (.int .i8 d0) := (HX.out.1.later hb HX.out.1.lt).cell 0
    clear hb HX HC
    by_cases h : d0 < 0
    · have HE := hid (HM1.out h)
      clear HM1 HM2
      go_wp2_with fail
      go_returns
      exact ⟨by rw [HE.out]; rfl, HB.out⟩
    · have HE := hid (HM2.out (by omega))
      clear HM1 HM2
      go_wp2_with fail
      go_returns
      exact ⟨by rw [HE.out]; rfl, HB.out⟩
  · rw [dchk_no hd] at HC
    rw [if_neg hd]
    clear hd
    unfold doA at *
    obtain ⟨n0, n1, n2, n3, n4, n5⟩ := box6 HX.out.1 (Below.refl _ _)
    go_enter Try.func18, Try.ntmps18
    go_wp2_with fail
    refine Calls.mono (HC.out _) ?_
    rintro e w1 ⟨rfl, hb⟩
    have HB := hid (b2 HX.out.2 hb)
    clear n0 n1 n2 n3 n4 n5 hX hb HX HC
    go_wp2_with fail
    go_returns
    exact ⟨rfl, HB.out⟩

set_option maxHeartbeats 800000 in
set_option maxRecDepth 100000 in
theorem dpspecies_any (d : Nat → Int) (w : World) : Calls Try.prog 19 #[.agg (doA d)] w fun e w' => e = .returned (dSp d) ∧ Below w.heap.size w w' := by
  have HC := hid (fun V => dpcheck_any d V)
  have HX := hid (boxes1 w 24 (doA d))
  obtain ⟨X, hX⟩ : ∃ X, w.alloc (.cells (doA d) 24) = X := ⟨_, rfl⟩
  rw [hX] at HX
  unfold dSp
  by_cases hd : dOK d
  · rw [dchk_ok hd] at HC
    rw [if_pos hd]
    obtain ⟨b0, b1⟩ := hd 0 (by decide)
    clear hd
    unfold doA at *
    generalize d 0 = d0 at *
    obtain ⟨n0, n1, n2, n3, n4, n5⟩ := box6 HX.out.1 (Below.refl _ _)
    obtain ⟨m, hm⟩ : ∃ m : Int, m = if d0 < 0 then -d0 else d0 := ⟨_, rfl⟩
    rw [← hm]
    have e1 : IntKind.i64.wrap m = m := by rw [IntKind.wrap_i64, hm]; split <;> omega
    have e2 : IntKind.i8.wrap (-d0) = -d0 := wrap8 (by omega) (by omega)
    have hmx : ∀ (V : World) (ty : TypeId), (Builtin.max_ #[22, 22] ty #[.int .i8 d0, .int .i8 (-d0)]).run Try.prog V = .ok (.int .i8 m) V := fun V ty => by
      have e : m = if -d0 > d0 then -d0 else d0 := by rw [hm]; split <;> split <;> omega
      rw [e]
      rfl
    go_enter Try.func19, Try.ntmps19
    go_wp2_with fail
    refine Calls.mono (HC.out _) ?_
    rintro e w1 ⟨rfl, hb⟩
    have HB := hid (b2 HX.out.2 hb)
    clear n0 n1 n2 n3 n4 n5 hX
    have n0 : w1.cell? ⟨w.heap.size, 0, none⟩ = some (.int .i8 d0) := (HX.out.1.later hb HX.out.1.lt).cell 0
    clear hb HX HC hm
    go_wp2_with fail
    go_returns
    exact ⟨rfl, HB.out⟩
  · rw [dchk_no hd] at HC
    rw [if_neg hd]
    clear hd
    unfold doA at *
    obtain ⟨n0, n1, n2, n3, n4, n5⟩ := box6 HX.out.1 (Below.refl _ _)
    go_enter Try.func19, Try.ntmps19
    go_wp2_with fail
    refine Calls.mono (HC.out _) ?_
    rintro e w1 ⟨rfl, hb⟩
    have HB := hid (b2 HX.out.2 hb)
    clear n0 n1 n2 n3 n4 n5 hX hb HX HC
    go_wp2_with fail
    go_returns
    exact ⟨rfl, HB.out⟩

/-- The first n letters. -/
def dLs (d : Nat → Int) (n : Nat) : List Value := (List.range n).map (fun j => Value.int .u8 (dC d j))
theorem dLs_succ (d : Nat → Int) (n : Nat) : dLs d (n + 1) = dLs d n ++ [.int .u8 (dC d n)] := by
  unfold dLs
  rw [List.range_succ, List.map_append]
  rfl
theorem dp_info : (Try.prog.info? 5).map (fun i => (i.zero, i.size, i.bytes)) = some (some (.int .u8 0), 1, 1) := by kernel_rfl

theorem dpprint_err (d : Nat → Int) (w : World) (hd : ¬ dOK d) : Calls Try.prog 21 #[.agg (doA d)] w fun e w' => e = .returned (.tuple #[.string ⟨#[]⟩, .int .i64 210]) ∧ Below w.heap.size w w' := by
  have HC := hid (fun V => dpcheck_any d V)
  rw [dchk_no hd] at HC
  have HX := hid (boxes1 w 24 (doA d))
  obtain ⟨X, hX⟩ : ∃ X, w.alloc (.cells (doA d) 24) = X := ⟨_, rfl⟩
  rw [hX] at HX
  clear hd
  unfold doA at *
  obtain ⟨n0, n1, n2, n3, n4, n5⟩ := box6 HX.out.1 (Below.refl _ _)
  go_enter Try.func21, Try.ntmps21
  go_wp2_with fail
  refine Calls.mono (HC.out _) ?_
  rintro e w1 ⟨rfl, hb⟩
  have HB := hid (b2 HX.out.2 hb)
  clear hb HX HC n0 n1 n2 n3 n4 n5
  go_wp2_with fail
  go_returns
  exact ⟨rfl, HB.out⟩

set_option maxHeartbeats 1600000 in
set_option maxRecDepth 100000 in
theorem dpprint_ok (d : Nat → Int) (w : World) (hd : dOK d) : Calls Try.prog 21 #[.agg (doA d)] w fun e w' => e = .returned (.tuple #[.string ⟨(dtxt d).toArray⟩, .int .i64 0]) ∧ Below w.heap.size w w' := by
  have HC := hid (fun V => dpcheck_any d V)
  rw [dchk_ok hd] at HC
  have HX := hid (boxes1 w 24 (doA d))
  obtain ⟨X, hX⟩ : ∃ X, w.alloc (.cells (doA d) 24) = X := ⟨_, rfl⟩
  rw [hX] at HX
  have HIA : Hid (∀ k : Nat, k < 6 → ∀ V, (Instr.indexAt 24 (.pointer (some ⟨w.heap.size, 0, none⟩)) (.int .i64 (k : Int))).run Try.prog V = .ok (.pointer (some ⟨w.heap.size, k, none⟩)) V) := fun k hk V => didxa w.heap.size k V hk
  obtain ⟨i0, hi0, hz0, hz1, hz2⟩ := info_parts dp_info
  rw [show doA d = #[.int .i8 (d 0), .int .i8 (d 1), .int .i8 (d 2), .int .i8 (d 3), .int .i8 (d 4), .int .i8 (d 5)] from rfl] at *
  obtain ⟨n0, n1, n2, n3, n4, n5⟩ := box6 HX.out.1 (Below.refl _ _)
  go_enter Try.func21, Try.ntmps21
  go_wp2_with fail
  refine Calls.mono (HC.out _) ?_
  rintro e w1 ⟨rfl, hb⟩
  clear n0 n1 n2 n3 n4 n5 hX
  have HX1 : Hid (FBox w1 w.heap.size 24 (doA d)) := HX.out.1.later hb HX.out.1.lt
  have HB1 := hid (b2 HX.out.2 hb)
  clear hb HX HC
  go_wp2_with fail
  go_loopw [5, 6] (fun v y wr => ∃ k n : Nat, k ≤ 6 ∧ y = .int .i64 (k : Int) ∧ ((k ≤ 3 ∧ n = k) ∨ (3 < k ∧ n = k + 1)) ∧ Hid (wr.ownsRow w1.heap.size 5 1 v n (dLs d n)) ∧ Hid (Below w1.heap.size w1 wr)) (fun _ y _ => 6 - (intOf y).toNat)
  case atStart => exact ⟨0, 0, by decide, rfl, .inl ⟨by decide, rfl⟩, World.ownsRow_nil _ _ _ _, Below.refl _ _⟩
  case round =>
    obtain ⟨k, n, hk, rfl, hn, HO, HB⟩ := hrel
    by_cases hlt : k < 6
    · have hi := HIA.out k hlt
      obtain ⟨p0, p1⟩ := hd k hlt
      have e1 : IntKind.i8.wrap (53 + d k) = 53 + d k := wrap8 (by omega) (by omega)
      have e2 : IntKind.u8.wrap (53 + d k) = 53 + d k := by rw [IntKind.wrap_u8]; omega
      have ho := HO.out
      have hb := HB.out
      have hsz := hb.size
      have HCK : Hid (∀ V, Below w1.heap.size w1 V → V.cell? ⟨w.heap.size, k, none⟩ = some (.int .i8 (d k))) := fun V hv => ((HX1.out.later hv HX1.out.lt).cell k).trans (doA_at d k hlt)
      by_cases h3 : k = 3
      · subst h3
        obtain rfl : n = 3 := by omega
        have hi : ∀ V, (Instr.indexAt 24 (.pointer (some ⟨w.heap.size, 0, none⟩)) (.int .i64 3)).run Try.prog V = .ok (.pointer (some ⟨w.heap.size, 3, none⟩)) V := fun V => didxa w.heap.size 3 V (by decide)
        have HS1 := hid (dLs_succ d 3)
        have HS2 := hid (dLs_succ d 4)
        rw [show dC d 3 = 46 from rfl] at HS1
        rw [show dC d 4 = 53 + d 3 from rfl] at HS2
        generalize dLs d 3 = R at *
        go_wp2_with (at_builtin; refine wpList_append_own _ rfl _ _ 53 rfl w1.heap.size 5 i0 (.int .u8 0) 1 1 Try.underlying53 hi0 hz0 hz1 hz2 rfl (by decide) _ _ _ rfl (ho.alloc _) ⟨wr.heap.size, 0, none⟩ 1 1 [.int .u8 46] rfl rfl (cell_one_new _ _ _) (by simp [Value.oneCell']) (by unfold maxLen; omega) (by omega) (by simp; omega) ?_)
        intro v1 w2 ho2 hg2 _
        have hb2 : Below w1.heap.size w1 w2 := (hb.alloc (by omega) _).grown hg2 (by simp; omega) (fun g hg => (ho.lt g hg).1)
        clear hg2
        have hc := HCK.out w2 hb2
        have hsz2 := hb2.size
        rw [← HS1.out] at ho2
        generalize dLs d 4 = R2 at *
        go_wp2_with (at_builtin; refine wpList_append_own _ rfl _ _ 53 rfl w1.heap.size 5 i0 (.int .u8 0) 1 1 Try.underlying53 hi0 hz0 hz1 hz2 rfl (by decide) _ _ _ rfl (ho2.alloc _) ⟨w2.heap.size, 0, none⟩ 1 1 [.int .u8 (53 + d 3)] rfl rfl (cell_one_new _ _ _) (by simp [Value.oneCell']) (by unfold maxLen; omega) (by omega) (by simp; omega) ?_)
        intro v2 w3 ho3 hg3 _
        have hb3 : Below w1.heap.size w1 w3 := (hb2.alloc (by omega) _).grown hg3 (by simp; omega) (fun g hg => (ho2.lt g hg).1)
        clear hg3
        go_wp2_with fail
        go_roundw
        case rel => exact ⟨4, 5, by decide, by go_num, .inr ⟨by decide, rfl⟩, by rw [HS2.out]; exact ho3, hb3⟩
        case measure => simp [intOf]
      · have h3' : ¬ (k : Int) = 3 := by omega
        have HS1 := hid (dLs_succ d n)
        rw [show dC d n = 53 + d k by
          unfold dC
          rcases hn with ⟨a, rfl⟩ | ⟨a, rfl⟩
          · rw [if_pos (by omega)]
          · rw [if_neg (by omega), if_neg (by omega)]; rfl] at HS1
        have hn7 : n < 7 := by omega
        have HNN : Hid ((k + 1 ≤ 3 ∧ n + 1 = k + 1) ∨ (3 < k + 1 ∧ n + 1 = k + 1 + 1)) := by show _ ∨ _; omega
        have hc := HCK.out wr hb
        clear hn HCK
        generalize dLs d n = R at *
        generalize d k = y at *
        go_wp2_with (at_builtin; refine wpList_append_own _ rfl _ _ 53 rfl w1.heap.size 5 i0 (.int .u8 0) 1 1 Try.underlying53 hi0 hz0 hz1 hz2 rfl (by decide) _ _ _ rfl (ho.alloc _) ⟨wr.heap.size, 0, none⟩ 1 1 [.int .u8 (53 + y)] rfl rfl (cell_one_new _ _ _) (by simp [Value.oneCell']) (by unfold maxLen; omega) (by omega) (by simp; omega) ?_)
        intro v1 w2 ho2 hg2 _
        have hb2 : Below w1.heap.size w1 w2 := (hb.alloc (by omega) _).grown hg2 (by simp; omega) (fun g hg => (ho.lt g hg).1)
        clear hg2
        go_wp2_with fail
        go_roundw
        case rel => exact ⟨k + 1, n + 1, by omega, by go_num, HNN.out, by rw [HS1.out]; exact ho2, hb2⟩
        case measure => simp [intOf]; omega
    · obtain rfl : k = 6 := by omega
      obtain rfl : n = 7 := by omega
      rcases HO.out.2 with ⟨_, h⟩ | ⟨g, cap, cur, rfl, _⟩
      · exact absurd h (by decide)
      · have hcv : (convert 53 9 (.slice (some ⟨g, 0, none⟩) 7 cap)).run Try.prog wr = .ok (.string ⟨(dtxt d).toArray⟩) wr := by
          refine run_convert_bytes_back wr 53 9 5 ⟨g, 0, none⟩ cap (dtxt d) Try.underlying53 Try.underlying5 Try.underlying9 (fun j hj => ?_)
          rw [dC_txt hd j hj]
          refine HO.out.cells rfl j _ ?_
          unfold dLs
          rw [List.getElem?_map, List.getElem?_range (show j < 7 from hj)]
          rfl
        obtain ⟨T, hT⟩ : ∃ T, dtxt d = T := ⟨_, rfl⟩
        have HT := hid hT
        rw [hT] at hcv
        clear hT
        go_wp2_with fail
        go_returns
        exact ⟨by rw [HT.out]; rfl, HB1.out.trans (HB.out.mono HB1.out.size)⟩
end Go.Proofs.Ytphipjpdjimpgaa

/- package doodson: Names, and what the function that it tells goes over. -/
namespace Go.Proofs.Ytphipjpdjimpgaa
open Go.RowKit Go.Shelf Go.Maps
set_option linter.unusedVariables false
set_option linter.unusedSimpArgs false
attribute [local go_sem] Oper.semAt_some

/-- Sixteen places. -/
abbrev DoK := _root_.Fin 16
/-- The names, rising. -/
def doNames : List (List UInt8) := doTab.map (fun x => x.1)
def dnm (j : Nat) : List UInt8 := doNames.getD j []
theorem doNames_keys : strKeys doD = doNames := by kernel_rfl
theorem doNames_sorted : doNames.mergeSort (fun x y => decide (x ≤ y)) = doNames := List.mergeSort_of_pairwise (by decide +kernel)
theorem doNames_at (j : Nat) (hj : j < 16) : doNames[j]? = some (dnm j) := by
  unfold dnm
  rw [List.getD_eq_getElem?_getD, List.getElem?_eq_getElem (show j < doNames.length from hj)]
  rfl

set_option maxHeartbeats 1600000 in
set_option maxRecDepth 100000 in
theorem donames_any (w : World) : Calls Try.prog 38 #[] w fun e w' => ∃ pb g cap, e = .returned (.func (.func 57) #[] #[.pointer (some ⟨pb, 0, none⟩)]) ∧ w.heap.size ≤ pb ∧ w.heap.size ≤ g ∧ g < w'.heap.size ∧ FBox w' pb 61 #[.slice (some ⟨g, 0, none⟩) 16 cap] ∧ (∀ j, j < 16 → w'.cell? ⟨g, j, none⟩ = some (.string ⟨(dnm j).toArray⟩)) ∧ Below w.heap.size w w' := by
  refine (callsIn_wide (n := 6)).1 ?_
  have HT := hid (fun V => dotable_any V)
  have hfK : Fence.wide.fn 56 := trivial
  have hfS : Fence.wide.fn 55 := trivial
  have hfT : Fence.wide.fn 37 := trivial
  refine callsIn_of_wp Try.func38 rfl trivial ?_ rfl
  simp only [Try.ntmps38, List.size_toArray, List.length_cons, List.length_nil, Nat.reduceAdd, Nat.reduceSub, Array.replicate_succ, Array.replicate_zero, List.push_toArray, List.append_toArray, List.nil_append, List.cons_append]
  gi_wp2
  refine (callsIn_wide.2 (HT.out _)).mono ?_
  rintro e w1 ⟨rfl, ho, hb⟩
  have HO := hid ho
  have HB := hid hb
  clear ho hb
  gi_wp2
  refine (Try.maps_Keys_56 _ _).mono ?_
  rintro e w2 ⟨rfl, rfl⟩
  gi_wp2
  refine (Try.slices_Sorted_keys_55_56 w.heap.size 16 doD vR w1 HO.out (by decide) (by decide)).mono ?_
  rintro e w3 ⟨v, ss, rfl, hS, hrow, hnil, hb3⟩
  have HP : Hid (ss.mergeSort (fun x y => decide (x ≤ y)) = doNames) := by
    show _ = _
    rw [← doNames_sorted, ← doNames_keys]
    exact mergeSort_of_perm hS
  have hl : ss.length = 16 := by
    rw [hS.length_eq, doNames_keys]
    rfl
  rw [HP.out, hl] at hrow
  have HB3 := hid (HB.out.trans (((Below.refl _ _).alloc (Nat.le_refl _) (.cells #[.map (some w.heap.size)] 54) |>.trans (hb3.mono (by simp))).mono HB.out.size))
  rcases hrow.2 with ⟨_, h⟩ | ⟨g, cap, cur, rfl, hg, hcur, _⟩
  · exact absurd h (by decide)
  have hgl : g < w3.heap.size := (Array.getElem?_eq_some_iff.1 hcur).1
  have hgw : w.heap.size ≤ g := Nat.le_trans HB.out.size (by simp at hg; omega)
  have HC : Hid (∀ j, j < 16 → w3.cell? ⟨g, j, none⟩ = some (.string ⟨(dnm j).toArray⟩)) := fun j hj => by
    have e := hrow.cells rfl j (encStr (dnm j)) (by rw [List.getElem?_map, doNames_at j hj]; rfl)
    rw [show (⟨g, 0, none⟩ : Addr).add j = ⟨g, j, none⟩ by unfold Addr.add; split <;> simp_all] at e
    exact e
  clear hS hnil hb3 hrow hcur HO HB hg HP
  have HN := hid (boxes1 w3 61 #[.slice (some ⟨g, 0, none⟩) 16 cap])
  obtain ⟨w4, hW⟩ : ∃ w4, w3.alloc (.cells #[.slice (some ⟨g, 0, none⟩) 16 cap] 61) = w4 := ⟨_, rfl⟩
  rw [hW] at HN
  gi_wp2
  go_ret
  have hl4 := HN.out.2.size
  exact ⟨_, g, cap, rfl, HB3.out.size, hgw, by omega, HN.out.1, fun j hj => (HN.out.2.cell (p := ⟨g, j, none⟩) hgl).trans (HC.out j hj), HB3.out.trans (HN.out.2.mono HB3.out.size)⟩

theorem dofin_succ (k : Nat) (hk : k < 16) : (List.finRange 16).take (k + 1) = (List.finRange 16).take k ++ [(⟨k, hk⟩ : DoK)] := by
  rw [List.take_add_one, List.getElem?_eq_getElem (by rw [List.length_finRange]; exact hk), List.getElem_finRange]
  rfl

set_option maxHeartbeats 1600000 in
set_option maxRecDepth 100000 in
theorem donames1_stops (F : Fence) (n : Nat) (h6 : F.fn 57) (hro : F.round = none) (hn : 1 ≤ n) (pb g cap n₀ : Nat) (w : World) (l1 : pb < n₀) (l2 : g < n₀) (hl : n₀ ≤ w.heap.size) (c1 : w.cell? ⟨pb, 0, none⟩ = some (.slice (some ⟨g, 0, none⟩) 16 cap)) (c2 : ∀ j, j < 16 → w.cell? ⟨g, j, none⟩ = some (.string ⟨(dnm j).toArray⟩)) :
    SeqStopsK F n Try.prog 57 #[.pointer (some ⟨pb, 0, none⟩)] (fun x : DoK => #[.string ⟨(dnm x).toArray⟩]) (Below n₀) (fun xs => xs = List.finRange 16) (fun pre => ∃ k, k ≤ 16 ∧ pre = (List.finRange 16).take k) 16 w := fun l J Jx W hW hJ hJx hY h0 => by
  refine callsIn_of_wp Try.func57 rfl h6 ?_ hro
  simp only [Try.ntmps57, List.size_toArray, List.length_cons, List.length_nil, Nat.reduceAdd, Nat.reduceSub, Array.replicate_succ, Array.replicate_zero, List.push_toArray, List.append_toArray, List.nil_append, List.cons_append]
  have d1 : W.cell? ⟨pb, 0, none⟩ = some (.slice (some ⟨g, 0, none⟩) 16 cap) := (hW.cell (p := ⟨pb, 0, none⟩) (show pb < _ by omega)).trans c1
  have D2 : Hid (∀ j, j < 16 → W.cell? ⟨g, j, none⟩ = some (.string ⟨(dnm j).toArray⟩)) := fun j hj => (hW.cell (p := ⟨g, j, none⟩) (show g < _ by omega)).trans (c2 j hj)
  have HY := hid hY
  clear hY c1 c2
  have hJ0 : Hid (J ((List.finRange 16).take 0) W) := h0
  have HS : Hid (∀ k, ∀ hk : k < 16, (List.finRange 16).take (k + 1) = (List.finRange 16).take k ++ [(⟨k, hk⟩ : DoK)]) := fun k hk => dofin_succ k hk
  have HE : Hid ((List.finRange 16).take 16 = List.finRange 16) := rfl
  clear h0
  gi_wp2
  clear d1
  gi_loopw [7] (fun x wr => ∃ k : Nat, k ≤ 16 ∧ x = .int .i64 (k : Int) ∧ Hid (∀ j, j < 16 → wr.cell? ⟨g, j, none⟩ = some (.string ⟨(dnm j).toArray⟩)) ∧ Hid (J ((List.finRange 16).take k) wr)) (fun x _ => 16 - (intOf x).toNat)
  case atStart => exact ⟨0, Nat.zero_le _, rfl, D2, hJ0⟩
  case round =>
    obtain ⟨k, hk, rfl, D3, HJ⟩ := hrel
    by_cases hlt : k < 16
    · have hS := hid (HS.out k hlt)
      have hc := D3.out k hlt
      have hlen : ((List.finRange 16).take k).length < 16 := by rw [List.length_take, List.length_finRange]; omega
      obtain ⟨fn, tmps, assign, body, hy, hR⟩ := HY.out _ (⟨k, hlt⟩ : DoK) wr HJ.out hlen
      dsimp only at hy
      generalize (List.finRange 16).take k = pre at *
      gi_wp2
      refine hR.mono ?_
      rintro e' W3 (⟨rfl, hJ3, hk3⟩ | ⟨rfl, hJx3⟩)
      · have D4 : Hid (∀ j, j < 16 → W3.cell? ⟨g, j, none⟩ = some (.string ⟨(dnm j).toArray⟩)) := fun j hj => (hk3.cell (p := ⟨g, j, none⟩) l2).trans (D3.out j hj)
        gi_wp2
        go_roundw
        case rel => exact ⟨k + 1, by omega, by go_num, D4, by rw [hS.out]; exact hJ3⟩
        case measure => simp [intOf]; omega
      · gi_wp2
        refine bodyPost_ret (results_none rfl _ _ _) rfl ?_
        exact ⟨⟨_, rfl⟩, .inr ⟨_, ⟨k + 1, by omega, hS.out.symm⟩, hJx3⟩⟩
    · obtain rfl : k = 16 := by omega
      have hJ9 := HJ.out
      rw [HE.out] at hJ9
      gi_wp2
      all_goals first
        | (exfalso; omega)
        | (go_end0
           exact ⟨⟨_, rfl⟩, .inl ⟨_, rfl, hJ9⟩⟩)
end Go.Proofs.Ytphipjpdjimpgaa

/- package doodson: Name, of every six numbers. -/
namespace Go.Proofs.Ytphipjpdjimpgaa
open Go.RowKit Go.Shelf Go.Maps
set_option linter.unusedVariables false
set_option linter.unusedSimpArgs false
attribute [local go_sem] Oper.semAt_some

/-- The table's numbers. -/
def dints : List (List Int) := [[1, 1, 0, 0, 0, 0], [2, 2, 0, 0, 0, 0], [2, 1, 0, -1, 0, 0], [2, 0, 0, 0, 0, 0], [4, 0, 0, 0, 0, 0], [4, 2, -2, 0, 0, 0], [0, 2, 0, 0, 0, 0], [0, 1, 0, -1, 0, 0], [2, -1, 0, 1, 0, 0], [2, -2, 0, 2, 0, 0], [1, -1, 0, 0, 0, 0], [1, 1, -2, 0, 0, 0], [1, -2, 0, 1, 0, 0], [2, 2, -2, 0, 0, 0], [0, 0, 1, 0, 0, 0], [0, 0, 2, 0, 0, 0]]
def drow (k j : Nat) : Int := (dints.getD k []).getD j 0
theorem kn_nm (k : Nat) (hk : k < 16) : kn (dnm k) = some (doA (drow k)) := by
  rcases (show k = 0 ∨ k = 1 ∨ k = 2 ∨ k = 3 ∨ k = 4 ∨ k = 5 ∨ k = 6 ∨ k = 7 ∨ k = 8 ∨ k = 9 ∨ k = 10 ∨ k = 11 ∨ k = 12 ∨ k = 13 ∨ k = 14 ∨ k = 15 by omega) with rfl | rfl | rfl | rfl | rfl | rfl | rfl | rfl | rfl | rfl | rfl | rfl | rfl | rfl | rfl | rfl <;> kernel_rfl
/-- Which of the table's rows these numbers are, from the row k on. -/
def dfind (d : Nat → Int) : Nat → Nat → Option Nat
  | k, 0 => none
  | k, f + 1 => if dEq (drow k) d then some k else dfind d (k + 1) f
theorem dfind_no {d : Nat → Int} : ∀ (m k f : Nat), (∀ j, k ≤ j → j < k + m → dEq (drow j) d = false) → m ≤ f → dfind d k f = dfind d (k + m) (f - m)
  | 0, k, f, _, _ => rfl
  | m + 1, k, 0, _, h => absurd h (by omega)
  | m + 1, k, f + 1, h, hf => by
    have e := dfind_no m (k + 1) f (fun j h1 h2 => h j (by omega) (by omega)) (by omega)
    have u : dfind d k (f + 1) = if dEq (drow k) d then some k else dfind d (k + 1) f := rfl
    rw [u, h k (Nat.le_refl _) (by omega), if_neg (by decide), e, show k + 1 + m = k + (m + 1) by omega, show f - m = f + 1 - (m + 1) by omega]
theorem dfind_at {d : Nat → Int} {L : Nat} (hL : L < 16) (h : ∀ j, j < L → dEq (drow j) d = false) (hd : dEq (drow L) d = true) : dfind d 0 16 = some L := by
  rw [dfind_no L 0 16 (fun j _ h2 => h j (by omega)) (by omega), Nat.zero_add, show 16 - L = (15 - L) + 1 by omega]
  unfold dfind
  rw [if_pos hd]
theorem dfind_none {d : Nat → Int} (h : ∀ j, j < 16 → dEq (drow j) d = false) : dfind d 0 16 = none := by
  rw [dfind_no 16 0 16 (fun j _ h2 => h j (by omega)) (by omega)]
  rfl
/-- What Name tells. -/
def dNm (d : Nat → Int) : Value := match dfind d 0 16 with | some k => .tuple #[.string ⟨(dnm k).toArray⟩, .bool true] | none => .tuple #[.string ⟨#[]⟩, .bool false]

theorem doget (w : World) (b n : Nat) (k : Nat) (hk : k < 16) (h : w.ownsMap Try.prog 9 vR b n doD) :
    (Instr.lookup 54 (.map (some b)) (.string ⟨(dnm k).toArray⟩) false).run Try.prog w = .ok (.agg (doA (drow k))) w := by
  have hsz : (⟨(dnm k).toArray⟩ : ByteArray).size ≤ maxLen := by
    have : ∀ k, k < 16 → (dnm k).toArray.size ≤ maxLen := by decide +kernel
    exact this k hk
  obtain ⟨v, ps, hr, hv⟩ := h.lookup dokeyed Try.underlying54 (dozero w) (zd := .held (.agg (doA fun _ => 0))) (zp := []) rfl (WideMaps.keyOf_string_mk Try.underlying9 hsz)
  have e := find_held doTab (dnm k) (.held (.agg (doA fun _ => 0)))
  have ek : (doTab.find? (fun x => x.1 == dnm k)).map (fun x => x.2) = kn (dnm k) := rfl
  rw [ek, kn_nm k hk] at e
  rw [show doD = DataW.map (doTab.map fun x => (Lit.string x.1, DataW.held (Value.agg x.2))) from rfl, show ((⟨(dnm k).toArray⟩ : ByteArray).data.toList) = dnm k by simp, e.1] at hv
  unfold vR at hv
  simp only [Option.some.injEq, Prod.mk.injEq, DataW.held.injEq] at hv
  rw [hv.1] at hr
  exact hr

theorem dofin_get {i : Nat} {y : DoK} (h : (List.finRange 16)[i]? = some y) : y.val = i := by
  obtain ⟨hi, rfl⟩ := List.getElem?_eq_some_iff.1 h
  rw [List.getElem_finRange]
  rfl
theorem dofin_split {k : Nat} {p0 : List DoK} {x : DoK} (h : (List.finRange 16).take k = p0 ++ [x]) : x.val = p0.length ∧ ∀ j, j < p0.length → ∃ y ∈ p0, y.val = j := by
  have hg : ∀ i, (p0 ++ [x])[i]? = if i < k then (List.finRange 16)[i]? else none := fun i => by rw [← h, List.getElem?_take]
  constructor
  · have e := hg p0.length
    rw [List.getElem?_append_right (Nat.le_refl _), Nat.sub_self] at e
    split at e
    · exact dofin_get e.symm
    · exact absurd e (by simp)
  · intro j hj
    have e := hg j
    rw [List.getElem?_append_left hj, List.getElem?_eq_getElem hj] at e
    split at e
    · exact ⟨p0[j], List.getElem_mem hj, dofin_get e.symm⟩
    · exact absurd e (by simp)
theorem owns_below {H : Type} {P : Program} {k : TypeId} {R : Value → Option (DataW H × List MemPlace)} {w w' : World} {B b n : Nat} {D : DataW H} (h : w.ownsMap P k R b n D) (hb : Below B w w') (hlt : b < B) : w'.ownsMap P k R b n D := by
  obtain ⟨es, clock, h1, h2⟩ := h
  exact ⟨es, clock, (hb.block b hlt).trans h1, h2⟩

/-- A range over the names: the law of the kit, at the slots of this function. -/
theorem dorange {g : Operand} {assign body : Code} {Q : Exit → Act → World → Prop} {a : Act} {w : World} {gf s1 s2 : Nat} {lb : Array Value}
    (hg : a.eval g = .func (.func gf) #[] lb) (eg : ∀ args w, (callFunc gf args).run Try.prog w = .ok (.enter gf args) w)
    {S Sp : List (DoK) → Prop} {N n₀ : Nat} (hseq : SeqStopsK Fence.wide 2 Try.prog gf lb (fun x : DoK => #[.string ⟨(dnm x).toArray⟩]) (Below n₀) S Sp N w) (hn₀ : n₀ ≤ w.heap.size)
    (I : List (DoK) → World → Prop) (Ix : Code → List (DoK) → World → Prop) (hI : OwnFrom w.heap.size I) (hIx : ∀ c, OwnFrom w.heap.size (Ix c)) (h0 : I [] w)
    (hassign : ∀ (l : Nat) (x : DoK) (W : World) (K : Act → World → Prop), K { tmps := (a.tmps.setIfInBounds s1 (.string ⟨(dnm x).toArray⟩)).setIfInBounds s2 (.string ⟨(dnm x).toArray⟩), defers := [] } W →
      assign.wpIn (Fence.wide.inRound l) 1 Try.prog (Exit.then K (fun _ _ _ => False)) { tmps := a.tmps.setIfInBounds s1 (.string ⟨(dnm x).toArray⟩), defers := [] } W)
    (hbody : ∀ (l : Nat) (pre : List (DoK)) (x : DoK) (W : World), I pre W → pre.length < N → body.wpIn (Fence.wide.inRound l) 1 Try.prog (ownPostK (Below n₀) I Ix (pre ++ [x]) W) { tmps := (a.tmps.setIfInBounds s1 (.string ⟨(dnm x).toArray⟩)).setIfInBounds s2 (.string ⟨(dnm x).toArray⟩), defers := [] } W)
    (hdone : ∀ (D : Nat) (xs : List (DoK)) (W : World), w.heap.size ≤ D → S xs → I xs W → W.heap[D]? = some (.deferred (some [])) → Q .normal { a with defers := { target := .collected D, args := #[] } :: a.defers } W)
    (hstop : ∀ (D : Nat) (c : Code) (pre : List (DoK)) (W : World), w.heap.size ≤ D → Sp pre → Ix c pre W → W.heap[D]? = some (.deferred (some [])) → c.wpIn Fence.wide 3 Try.prog Q { a with defers := { target := .collected D, args := #[] } :: a.defers } W) :
    (Code.rangeFunc g #[s1] assign body).wpIn Fence.wide 3 Try.prog Q a w :=
  wpIn_rangeFunc_ownF rfl (by decide) hg trivial eg hseq belowK_t (belowK_b hn₀) (Below.refl _ _) (fun _ => rfl) I Ix hI hIx h0
    (fun x => { tmps := (a.tmps.setIfInBounds s1 (.string ⟨(dnm x).toArray⟩)).setIfInBounds s2 (.string ⟨(dnm x).toArray⟩), defers := [] })
    (fun l x W K hK => by
      have e := hassign l x W K hK
      simpa using e) hbody hdone hstop

set_option maxHeartbeats 3200000 in
set_option maxRecDepth 100000 in
theorem doname_any (d : Nat → Int) (w : World) : Calls Try.prog 22 #[.agg (doA d)] w fun e w' => e = .returned (dNm d) ∧ Below w.heap.size w w' := by
  have HT := hid (fun V => dotable_any V)
  have HNN := hid (fun V => donames_any V)
  have HX := hid (dboxes3 w 24 9 4 (doA d) #[.string ⟨#[]⟩] #[.bool false])
  obtain ⟨X, hX⟩ : ∃ X, ((w.alloc (.cells (doA d) 24)).alloc (.cells #[.string ⟨#[]⟩] 9)).alloc (.cells #[.bool false] 4) = X := ⟨_, rfl⟩
  rw [hX] at HX
  rw [show doA d = #[.int .i8 (d 0), .int .i8 (d 1), .int .i8 (d 2), .int .i8 (d 3), .int .i8 (d 4), .int .i8 (d 5)] from rfl] at *
  refine (callsIn_wide (n := 3)).1 ?_
  refine callsIn_of_wp_marks Try.func22 rfl trivial ?_ rfl
  simp only [Try.ntmps22, List.size_toArray, List.length_cons, List.length_nil, Nat.reduceAdd, Nat.reduceSub, Array.replicate_succ, Array.replicate_zero, List.push_toArray, List.append_toArray, List.nil_append, List.cons_append]
  gi_wp2
  clear hX
  refine ⟨trivial, ?_⟩
  refine (callsIn_wide.2 (HT.out _)).mono ?_
  rintro e w1 ⟨rfl, ho, hb⟩
  have HA1 := hid (HX.out.1.later hb HX.out.1.lt)
  have HS1 := hid (HX.out.2.1.later hb HX.out.2.1.lt)
  have HL1 := hid (HX.out.2.2.1.later hb HX.out.2.2.1.lt)
  have HO1 := hid ho
  have HB1 := hid (b2 HX.out.2.2.2 hb)
  have hXX : Hid (X.heap.size < w1.heap.size) := ho.lt
  clear ho hb HX HT
  have HN := hid (boxes1 w1 54 #[.map (some X.heap.size)])
  obtain ⟨w2, hW⟩ : ∃ w2, w1.alloc (.cells #[.map (some X.heap.size)] 54) = w2 := ⟨_, rfl⟩
  rw [hW] at HN
  have HA2 := hid (HA1.out.later HN.out.2 HA1.out.lt)
  have HS2 := hid (HS1.out.later HN.out.2 HS1.out.lt)
  have HL2 := hid (HL1.out.later HN.out.2 HL1.out.lt)
  have HB2 := hid (b2 HB1.out HN.out.2)
  have HM2 := hid HN.out.1
  gi_wp2
  clear hW
  refine ⟨trivial, ?_⟩
  refine (callsIn_wide.2 (HNN.out _)).mono ?_
  rintro e w3 ⟨pb, g, cap, rfl, hpb, hgg, hgl, hpF, hcells, hb⟩
  have HA := hid (HA2.out.later hb HA2.out.lt)
  have HS := hid (HS2.out.later hb HS2.out.lt)
  have HL := hid (HL2.out.later hb HL2.out.lt)
  have HM := hid (HM2.out.later hb HM2.out.lt)
  have HB := hid (b2 HB2.out hb)
  have HB13 : Hid (Below w1.heap.size w1 w3) := b2 HN.out.2 hb
  have HPF := hid hpF
  have HCS := hid hcells
  clear HA1 HS1 HL1 HB1 HA2 HS2 HL2 HB2 HM2 HN hb hpF hcells HNN hpb hgg
  gi_wp2
  have hXw : Hid (w.heap.size + 1 + 1 < w3.heap.size) := HL.out.lt
  refine dorange (s1 := 8) (s2 := 5) (n₀ := w3.heap.size) rfl (enters_of Try.func57 (by kernel_rfl) rfl) (donames1_stops Fence.wide 2 trivial rfl (by decide) pb g cap w3.heap.size w3 HPF.out.lt hgl (Nat.le_refl _) (HPF.out.cell 0) HCS.out) (Nat.le_refl _)
    (fun pre W => (∀ y ∈ pre, dEq (drow y) d = false) ∧ Below w3.heap.size w3 W)
    (fun c pre W => c = .ret ∧ (∃ (p0 : List DoK) (x : DoK), pre = p0 ++ [x] ∧ (∀ y ∈ p0, dEq (drow y) d = false) ∧ dEq (drow x) d = true ∧ W.cell? ⟨w.heap.size + 1, 0, none⟩ = some (.string ⟨(dnm x).toArray⟩) ∧ W.cell? ⟨w.heap.size + 1 + 1, 0, none⟩ = some (.bool true)) ∧ Below w.heap.size w3 W)
    (OwnFrom.and (Own.from (fun s A B row hs hg hr => hs) _) (ownFrom_below (Nat.le_refl _) (Nat.le_refl _)))
    ?hIx ⟨fun y hy => absurd hy (List.not_mem_nil), Below.refl _ _⟩ ?assign ?body ?done ?stop
  case hIx =>
    intro c s A B row hs hg hr
    obtain ⟨h1, ⟨p0, x, h2, h3, h4, h5, h6⟩, h7⟩ := hs
    exact ⟨h1, ⟨p0, x, h2, h3, h4, cell_kept h5 hg (fun r e => (hr r e).2), cell_kept h6 hg (fun r e => (hr r e).2)⟩, ownFrom_below (β := Unit) HB.out.size HB.out.size () A B row h7 hg hr⟩
  case assign =>
    intro l x W K hK
    gi_wp2
    exact hK
  case body =>
    rintro l pre x W ⟨hp, hB⟩ hlen
    have HMW : Hid (W.ownsMap Try.prog 9 vR X.heap.size 16 doD) := owns_below (owns_below HO1.out HB13.out hXX.out) hB (Nat.lt_of_lt_of_le hXX.out HB13.out.size)
    have hl := doget W X.heap.size 16 x x.2 HMW.out
    have heq := doeq (drow x) d W
    unfold doA at hl heq
    have kM : W.cell? ⟨w1.heap.size, 0, none⟩ = some (.map (some X.heap.size)) := (HM.out.later hB HM.out.lt).cell 0
    obtain ⟨n0, n1, n2, n3, n4, n5⟩ := box6 HA.out hB
    have kS : W.cell? ⟨w.heap.size + 1, 0, none⟩ = some (.string ⟨#[]⟩) := (HS.out.later hB HS.out.lt).cell 0
    have fS := (HS.out.later hB HS.out.lt).free 0
    have kL : W.cell? ⟨w.heap.size + 1 + 1, 0, none⟩ = some (.bool false) := (HL.out.later hB HL.out.lt).cell 0
    have fL := (HL.out.later hB HL.out.lt).free 0
    have HBW := hid hB
    have HPP := hid hp
    have hW3 : w.heap.size ≤ w3.heap.size := HB.out.size
    have HPX : Hid (dEq (drow x) d = false → ∀ y ∈ pre ++ [x], dEq (drow y) d = false) := fun h y hy => by
      rcases List.mem_append.1 hy with g | g
      · exact hp y g
      · rw [List.mem_singleton.1 g]; exact h
    clear hp hB hlen HMW
    obtain ⟨E, hE⟩ : ∃ E, dEq (drow x) d = E := ⟨_, rfl⟩
    rw [hE] at heq
    have HE := hid hE
    clear hE
    generalize drow x 0 = r0 at hl heq
    generalize drow x 1 = r1 at hl heq
    generalize drow x 2 = r2 at hl heq
    generalize drow x 3 = r3 at hl heq
    generalize drow x 4 = r4 at hl heq
    generalize drow x 5 = r5 at hl heq
    cases E
    · gi_wp2
      exact ⟨KeepsOthers.refl _, Below.refl _ _, HPX.out HE.out, HBW.out⟩
    · gi_wp2
      exact ⟨(KeepsOthers.setCell _ _ _).trans (KeepsOthers.setCell _ _ _), rfl, ⟨pre, x, rfl, HPP.out, HE.out, (((HS.out.later HBW.out HS.out.lt).set 0 (.string ⟨(dnm x).toArray⟩)).off (show w.heap.size + 1 ≠ w.heap.size + 1 + 1 by omega) 0 (.bool true)).cell 0, (((HL.out.later HBW.out HL.out.lt).off (show w.heap.size + 1 + 1 ≠ w.heap.size + 1 by omega) 0 (.string ⟨(dnm x).toArray⟩)).set 0 (.bool true)).cell 0⟩, ((HBW.out.mono hW3).setCell (p := ⟨w.heap.size + 1, 0, none⟩) (Nat.le_succ _) _).setCell (p := ⟨w.heap.size + 1 + 1, 0, none⟩) (show w.heap.size ≤ w.heap.size + 1 + 1 by omega) _⟩
  case done =>
    rintro D xs W hD rfl ⟨hp, hB⟩ hK
    have HV : Hid (dNm d = .tuple #[.string ⟨#[]⟩, .bool false]) := by
      show _ = _
      unfold dNm
      rw [dfind_none (fun j hj => hp ⟨j, hj⟩ (List.mem_finRange _))]
    have kS : W.cell? ⟨w.heap.size + 1, 0, none⟩ = some (.string ⟨#[]⟩) := (HS.out.later hB HS.out.lt).cell 0
    have fS := (HS.out.later hB HS.out.lt).free 0
    have kL : W.cell? ⟨w.heap.size + 1 + 1, 0, none⟩ = some (.bool false) := (HL.out.later hB HL.out.lt).cell 0
    have fL := (HL.out.later hB HL.out.lt).free 0
    have HBW := hid (HB.out.trans (hB.mono HB.out.size))
    have HSW := hid ((HS.out.later hB HS.out.lt).set 0 (.string ⟨#[]⟩))
    have HLW := hid (HL.out.later hB HL.out.lt)
    have HKD := hid hK
    have hDw : w.heap.size ≤ D := Nat.le_trans HB.out.size hD
    clear hp hB hK hD
    gi_wp2
    have c1 := (HSW.out.off (show w.heap.size + 1 ≠ w.heap.size + 1 + 1 by omega) 0 (.bool false)).cell 0
    have c2 := ((HLW.out.off (show w.heap.size + 1 + 1 ≠ w.heap.size + 1 by omega) 0 (.string ⟨#[]⟩)).set 0 (.bool false)).cell 0
    have hk1 := ((KeepsOthers.setCell W ⟨w.heap.size + 1, 0, none⟩ (.string ⟨#[]⟩)).trans (KeepsOthers.setCell _ ⟨w.heap.size + 1 + 1, 0, none⟩ (.bool false))).same D _ HKD.out rfl
    have hbz := (HBW.out.setCell (p := ⟨w.heap.size + 1, 0, none⟩) (Nat.le_succ _) (.string ⟨#[]⟩)).setCell (p := ⟨w.heap.size + 1 + 1, 0, none⟩) (show w.heap.size ≤ w.heap.size + 1 + 1 by omega) (.bool false)
    refine ⟨by simp, .inl ⟨_, _, rfl, run_takeDeferred hk1, ?_⟩⟩
    have d1 := cell_kept c1 (grownBy_putObj' _ D (.deferred none)) (fun r e => by cases e; exact ⟨_, hk1, rfl⟩)
    have d2 := cell_kept c2 (grownBy_putObj' _ D (.deferred none)) (fun r e => by cases e; exact ⟨_, hk1, rfl⟩)
    refine ⟨.tuple #[.string ⟨#[]⟩, .bool false], ?_, by rw [HV.out], hbz.trans (belowK_b (w := w) (Nat.le_refl _) _ D _ (.deferred none) hDw hk1 rfl rfl)⟩
    simp [results, Try.results22, go_sem, d1, d2]
  case stop =>
    rintro D c pre W hD ⟨k, hk, rfl⟩ ⟨rfl, ⟨p0, x, hpx, hp0, hx, c1, c2⟩, hB⟩ hK
    obtain ⟨hxl, hjs⟩ := dofin_split hpx
    have HV : Hid (dNm d = .tuple #[.string ⟨(dnm x).toArray⟩, .bool true]) := by
      show _ = _
      have e := dfind_at (d := d) (L := x.val) x.2 (fun j hj => by
        obtain ⟨y, hy, hyj⟩ := hjs j (by omega)
        rw [← hyj]
        exact hp0 y hy) hx
      unfold dNm
      rw [e]
    have hDw : w.heap.size ≤ D := Nat.le_trans HB.out.size hD
    have HBW := hid (HB.out.trans hB)
    clear hpx hp0 hx hB hxl hjs hD
    gi_wp2
    refine ⟨by simp, .inl ⟨_, _, rfl, run_takeDeferred hK, ?_⟩⟩
    have d1 := cell_kept c1 (grownBy_putObj' _ D (.deferred none)) (fun r e => by cases e; exact ⟨_, hK, rfl⟩)
    have d2 := cell_kept c2 (grownBy_putObj' _ D (.deferred none)) (fun r e => by cases e; exact ⟨_, hK, rfl⟩)
    refine ⟨.tuple #[.string ⟨(dnm x).toArray⟩, .bool true], ?_, by rw [HV.out], HBW.out.trans (belowK_b (w := w) (Nat.le_refl _) _ D _ (.deferred none) hDw hK rfl rfl)⟩
    simp [results, Try.results22, go_sem, d1, d2]
end Go.Proofs.Ytphipjpdjimpgaa

/- The document's answers of layer 11: Names, rows, Name. -/
namespace Go.Proofs.Ytphipjpdjimpgaa
open Go.RowKit
set_option linter.unusedVariables false
set_option linter.unusedSimpArgs false

/-- The rows' cells, one behind the other. -/
def doR : Array Value := #[.int .i8 1, .int .i8 1, .int .i8 0, .int .i8 0, .int .i8 0, .int .i8 0, .int .i8 2, .int .i8 2, .int .i8 0, .int .i8 0, .int .i8 0, .int .i8 0, .int .i8 2, .int .i8 1, .int .i8 0, .int .i8 (-1), .int .i8 0, .int .i8 0, .int .i8 2, .int .i8 0, .int .i8 0, .int .i8 0, .int .i8 0, .int .i8 0, .int .i8 4, .int .i8 0, .int .i8 0, .int .i8 0, .int .i8 0, .int .i8 0, .int .i8 4, .int .i8 2, .int .i8 (-2), .int .i8 0, .int .i8 0, .int .i8 0, .int .i8 0, .int .i8 2, .int .i8 0, .int .i8 0, .int .i8 0, .int .i8 0, .int .i8 0, .int .i8 1, .int .i8 0, .int .i8 (-1), .int .i8 0, .int .i8 0, .int .i8 2, .int .i8 (-1), .int .i8 0, .int .i8 1, .int .i8 0, .int .i8 0, .int .i8 2, .int .i8 (-2), .int .i8 0, .int .i8 2, .int .i8 0, .int .i8 0, .int .i8 1, .int .i8 (-1), .int .i8 0, .int .i8 0, .int .i8 0, .int .i8 0, .int .i8 1, .int .i8 1, .int .i8 (-2), .int .i8 0, .int .i8 0, .int .i8 0, .int .i8 1, .int .i8 (-2), .int .i8 0, .int .i8 1, .int .i8 0, .int .i8 0, .int .i8 2, .int .i8 2, .int .i8 (-2), .int .i8 0, .int .i8 0, .int .i8 0, .int .i8 0, .int .i8 0, .int .i8 1, .int .i8 0, .int .i8 0, .int .i8 0, .int .i8 0, .int .i8 0, .int .i8 2, .int .i8 0, .int .i8 0, .int .i8 0]
/-- The names' cells. -/
def doNV : Array Value := #[.string { data := #[75, 49] }, .string { data := #[75, 50] }, .string { data := #[76, 50] }, .string { data := #[77, 50] }, .string { data := #[77, 52] }, .string { data := #[77, 83, 52] }, .string { data := #[77, 102] }, .string { data := #[77, 109] }, .string { data := #[78, 50] }, .string { data := #[78, 50, 120] }, .string { data := #[79, 49] }, .string { data := #[80, 49] }, .string { data := #[81, 49] }, .string { data := #[83, 50] }, .string { data := #[83, 97] }, .string { data := #[83, 115, 97] }]
theorem doR_at (k : Nat) (hk : k < 16) : doR[k * 6]? = some (.int .i8 (drow k 0)) ∧ doR[k * 6 + 1]? = some (.int .i8 (drow k 1)) ∧ doR[k * 6 + 2]? = some (.int .i8 (drow k 2)) ∧ doR[k * 6 + 3]? = some (.int .i8 (drow k 3)) ∧ doR[k * 6 + 4]? = some (.int .i8 (drow k 4)) ∧ doR[k * 6 + 5]? = some (.int .i8 (drow k 5)) := by
  rcases (show k = 0 ∨ k = 1 ∨ k = 2 ∨ k = 3 ∨ k = 4 ∨ k = 5 ∨ k = 6 ∨ k = 7 ∨ k = 8 ∨ k = 9 ∨ k = 10 ∨ k = 11 ∨ k = 12 ∨ k = 13 ∨ k = 14 ∨ k = 15 by omega) with rfl | rfl | rfl | rfl | rfl | rfl | rfl | rfl | rfl | rfl | rfl | rfl | rfl | rfl | rfl | rfl <;> exact ⟨rfl, rfl, rfl, rfl, rfl, rfl⟩
theorem doNV_at (k : Nat) (hk : k < 16) : doNV[k]? = some (.string ⟨(dnm k).toArray⟩) := by
  rcases (show k = 0 ∨ k = 1 ∨ k = 2 ∨ k = 3 ∨ k = 4 ∨ k = 5 ∨ k = 6 ∨ k = 7 ∨ k = 8 ∨ k = 9 ∨ k = 10 ∨ k = 11 ∨ k = 12 ∨ k = 13 ∨ k = 14 ∨ k = 15 by omega) with rfl | rfl | rfl | rfl | rfl | rfl | rfl | rfl | rfl | rfl | rfl | rfl | rfl | rfl | rfl | rfl <;> rfl

set_option maxHeartbeats 1600000 in
set_option maxRecDepth 100000 in
theorem dprows_any (w : World) : Calls Try.prog 39 #[] w fun e w' => ∃ g, e = .returned (.slice (some ⟨g, 0, none⟩) 16 16) ∧ w.heap.size ≤ g ∧ FBox w' g 24 doR ∧ Below w.heap.size w w' := by
  go_enter Try.func39, Try.ntmps39
  go_wp2_with fail
  go_ret
  exact ⟨_, rfl, Nat.le_refl _, FBox.made _ _ _, (Below.refl _ _).alloc (Nat.le_refl _) _⟩
set_option maxHeartbeats 1600000 in
set_option maxRecDepth 100000 in
theorem dpnames_any (w : World) : Calls Try.prog 40 #[] w fun e w' => ∃ g, e = .returned (.slice (some ⟨g, 0, none⟩) 16 16) ∧ w.heap.size ≤ g ∧ FBox w' g 9 doNV ∧ Below w.heap.size w w' := by
  go_enter Try.func40, Try.ntmps40
  go_wp2_with fail
  go_ret
  exact ⟨_, rfl, Nat.le_refl _, FBox.made _ _ _, (Below.refl _ _).alloc (Nat.le_refl _) _⟩
theorem dpidxr (g k : Nat) (w : World) (hk : k < 16) : (Instr.indexAt 59 (.slice (some ⟨g, 0, none⟩) 16 16) (.int .i64 (k : Int))).run Try.prog w = .ok (.pointer (some ⟨g, k * 6, none⟩)) w := by
  rcases (show k = 0 ∨ k = 1 ∨ k = 2 ∨ k = 3 ∨ k = 4 ∨ k = 5 ∨ k = 6 ∨ k = 7 ∨ k = 8 ∨ k = 9 ∨ k = 10 ∨ k = 11 ∨ k = 12 ∨ k = 13 ∨ k = 14 ∨ k = 15 by omega) with rfl | rfl | rfl | rfl | rfl | rfl | rfl | rfl | rfl | rfl | rfl | rfl | rfl | rfl | rfl | rfl <;> kernel_rfl
theorem dpidxn (g k : Nat) (w : World) (hk : k < 16) : (Instr.indexAt 61 (.slice (some ⟨g, 0, none⟩) 16 16) (.int .i64 (k : Int))).run Try.prog w = .ok (.pointer (some ⟨g, k, none⟩)) w := by
  rcases (show k = 0 ∨ k = 1 ∨ k = 2 ∨ k = 3 ∨ k = 4 ∨ k = 5 ∨ k = 6 ∨ k = 7 ∨ k = 8 ∨ k = 9 ∨ k = 10 ∨ k = 11 ∨ k = 12 ∨ k = 13 ∨ k = 14 ∨ k = 15 by omega) with rfl | rfl | rfl | rfl | rfl | rfl | rfl | rfl | rfl | rfl | rfl | rfl | rfl | rfl | rfl | rfl <;> kernel_rfl
theorem drewN_size (w : World) (n : Nat) : (w.drewN n).heap.size = w.heap.size := by
  induction n generalizing w with
  | zero => rfl
  | succ n ih => exact ih w.drew

set_option maxHeartbeats 1600000 in
set_option maxRecDepth 100000 in
theorem dpname_any (d : Nat → Int) (w : World) : Calls Try.prog 23 #[.agg (doA d)] w fun e w' => e = .returned (dNm d) ∧ Below w.heap.size w w' := by
  have HR := hid (fun V => dprows_any V)
  have HN := hid (fun V => dpnames_any V)
  have HX := hid (boxes1 w 24 (doA d))
  obtain ⟨X, hX⟩ : ∃ X, w.alloc (.cells (doA d) 24) = X := ⟨_, rfl⟩
  rw [hX] at HX
  rw [show doA d = #[.int .i8 (d 0), .int .i8 (d 1), .int .i8 (d 2), .int .i8 (d 3), .int .i8 (d 4), .int .i8 (d 5)] from rfl] at *
  go_enter Try.func23, Try.ntmps23
  go_wp2_with fail
  clear hX
  refine Calls.mono (HR.out _) ?_
  rintro e w1 ⟨g, rfl, hg, hF, hb⟩
  have HA1 := hid (HX.out.1.later hb HX.out.1.lt)
  have HB1 := hid (b2 HX.out.2 hb)
  have HF1 := hid hF
  clear hb HX hF HR
  go_wp2_with fail
  go_loopw [5] (fun x wr => ∃ k : Nat, k ≤ 16 ∧ x = .int .i64 (k : Int) ∧ Hid (∀ j, j < k → dEq (drow j) d = false) ∧ Hid (Below w1.heap.size w1 wr)) (fun x _ => 16 - (intOf x).toNat)
  case atStart => exact ⟨0, by decide, rfl, fun j hj => absurd hj (Nat.not_lt_zero _), Below.refl _ _⟩
  case round =>
    obtain ⟨k, hk, rfl, HJ, HB⟩ := hrel
    by_cases hlt : k < 16
    · have hi := fun V => dpidxr g k V hlt
      have HRF := hid (HF1.out.later HB.out HF1.out.lt)
      have HAF := hid (HA1.out.later HB.out HA1.out.lt)
      obtain ⟨q0, q1, q2, q3, q4, q5⟩ := doR_at k hlt
      have r0 : wr.cell? ⟨g, k * 6, none⟩ = some (.int .i8 (drow k 0)) := (HRF.out.cell _).trans q0
      have r1 : wr.cell? ⟨g, k * 6 + 1, none⟩ = some (.int .i8 (drow k 1)) := (HRF.out.cell _).trans q1
      have r2 : wr.cell? ⟨g, k * 6 + 2, none⟩ = some (.int .i8 (drow k 2)) := (HRF.out.cell _).trans q2
      have r3 : wr.cell? ⟨g, k * 6 + 3, none⟩ = some (.int .i8 (drow k 3)) := (HRF.out.cell _).trans q3
      have r4 : wr.cell? ⟨g, k * 6 + 4, none⟩ = some (.int .i8 (drow k 4)) := (HRF.out.cell _).trans q4
      have r5 : wr.cell? ⟨g, k * 6 + 5, none⟩ = some (.int .i8 (drow k 5)) := (HRF.out.cell _).trans q5
      obtain ⟨n0, n1, n2, n3, n4, n5⟩ := box6 HAF.out (Below.refl _ _)
      have heq : ∀ V, (Op.equalIn 10000 24 (.agg #[.int .i8 (drow k 0), .int .i8 (drow k 1), .int .i8 (drow k 2), .int .i8 (drow k 3), .int .i8 (drow k 4), .int .i8 (drow k 5)]) (.agg #[.int .i8 (d 0), .int .i8 (d 1), .int .i8 (d 2), .int .i8 (d 3), .int .i8 (d 4), .int .i8 (d 5)])).run Try.prog V = .ok (dEq (drow k) d) V := fun V => doeq (drow k) d V
      have HJ1 : Hid (dEq (drow k) d = false → ∀ j, j < k + 1 → dEq (drow j) d = false) := fun h j hj => by
        rcases Nat.lt_succ_iff_lt_or_eq.1 hj with e | e
        · exact HJ.out j e
        · rw [e]; exact h
      have HV : Hid (dEq (drow k) d = true → dNm d = .tuple #[.string ⟨(dnm k).toArray⟩, .bool true]) := fun h => by
        unfold dNm
        rw [dfind_at hlt HJ.out h]
      generalize drow k 0 = z0 at r0 heq
      generalize drow k 1 = z1 at r1 heq
      generalize drow k 2 = z2 at r2 heq
      generalize drow k 3 = z3 at r3 heq
      generalize drow k 4 = z4 at r4 heq
      generalize drow k 5 = z5 at r5 heq
      clear q0 q1 q2 q3 q4 q5 HRF HAF
      have hn := fun V g => dpidxn g k V hlt
      have hlI : (k : Int) < 16 := by omega
      obtain ⟨E, hE⟩ : ∃ E, dEq (drow k) d = E := ⟨_, rfl⟩
      rw [hE] at heq HJ1 HV
      clear hE
      generalize k * 6 = o at *
      cases E
      · go_wp2_with fail
        go_quiet (fail)
        have HB2 := hid (bdrewN HB.out nq)
        generalize wr.drewN nq = V at *
        go_wp2_with fail
        go_roundw
        case rel => exact ⟨k + 1, by omega, by go_num, HJ1.out (by first | trivial | rfl), HB2⟩
        case measure => simp [intOf]; omega
      · have HV1 := hid (HV.out rfl)
        go_wp2_with fail
        go_quiet (fail)
        have HB2 := hid (bdrewN HB.out nq)
        generalize wr.drewN nq = V at *
        clear r0 r1 r2 r3 r4 r5 n0 n1 n2 n3 n4 n5 heq hi
        go_wp2_with fail
        refine Calls.mono (HN.out _) ?_
        rintro e w2 ⟨g2, rfl, hg2, hF2, hb2⟩
        have c2 : w2.cell? ⟨g2, k, none⟩ = some (.string ⟨(dnm k).toArray⟩) := (hF2.cell k).trans (doNV_at k hlt)
        have hn2 := fun V => hn V g2
        have HB3 := hid (HB1.out.trans ((HB2.out.trans (hb2.mono HB2.out.size)).mono HB1.out.size))
        clear hF2 hb2 hn
        obtain ⟨T, hT⟩ : ∃ T, (⟨(dnm k).toArray⟩ : ByteArray) = T := ⟨_, rfl⟩
        rw [hT] at c2 HV1
        clear hT
        go_wp2_with fail
        go_returns
        exact ⟨by rw [HV1.out]; rfl, HB3.out⟩
    · obtain rfl : k = 16 := by omega
      have HV : Hid (dNm d = .tuple #[.string ⟨#[]⟩, .bool false]) := by
        show _ = _
        unfold dNm
        rw [dfind_none HJ.out]
      go_wp2_with fail
      go_returns
      exact ⟨by rw [HV.out]; rfl, HB1.out.trans (HB.out.mono HB1.out.size)⟩
end Go.Proofs.Ytphipjpdjimpgaa

