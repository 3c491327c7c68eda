/- My texts on the way to DoodsonGroup, one behind the other: contracts of the program and of the document's answers. -/
import Derived.Test.YtphipjpdjimpgaaJ1
/- The law DoodsonGroup answers true, and writes nothing that was there: of any two lists of numbers and any tick. -/
namespace Go.Proofs.Ytphipjpdjimpgaa
open Go.RowKit
set_option linter.unusedVariables false

theorem FBox.off6 {w : World} {b t : Nat} {vs : Array Value} (h : FBox w b t vs) {c : Nat} (hc : b ≠ c) (v0 v1 v2 v3 v4 v5 : Value) : FBox ((((((w.setCell ⟨c, 0, none⟩ v0).setCell ⟨c, 1, none⟩ v1).setCell ⟨c, 2, none⟩ v2).setCell ⟨c, 3, none⟩ v3).setCell ⟨c, 4, none⟩ v4).setCell ⟨c, 5, none⟩ v5) b t vs := (((((h.off hc 0 v0).off hc 1 v1).off hc 2 v2).off hc 3 v3).off hc 4 v4).off hc 5 v5
theorem dJ_plus (a b : Nat → Int) (t : Nat) : dU (dJ a b 1) t = dU a t + dU b t := by
  unfold dU
  rw [← dS_add]
  exact dS_congr 6 (fun j _ => by unfold dJ; omega)
theorem dJ_less (a b : Nat → Int) (t : Nat) : dU (dJ a b (-1)) t = dU a t - dU b t := by
  unfold dU
  rw [← dS_sub]
  exact dS_congr 6 (fun j _ => by unfold dJ; omega)
theorem dJ_back (a : Nat → Int) (t : Nat) : dU (dJ (fun _ => 0) a (-1)) t = -dU a t := by
  unfold dU
  rw [← dS_neg]
  exact dS_congr 6 (fun j _ => by show 0 + -1 * a j = 0 - a j; omega)
theorem dJ_back_ok {a : Nat → Int} (h : dOK a) : dOK (dJ (fun _ => 0) a (-1)) := fun k hk => by
  have := h k hk
  show -4 ≤ 0 + -1 * a k ∧ 0 + -1 * a k ≤ 4
  omega
theorem dJR_ok {a b : Nat → Int} {s : Int} (h : dOK a ∧ dOK b ∧ dOK (dJ a b s)) : dJR a b s = .tuple #[.agg (doA (dJ a b s)), .int .i64 0] := if_pos h
theorem dJR_no {a b : Nat → Int} {s : Int} (h : ¬ (dOK a ∧ dOK b ∧ dOK (dJ a b s))) : dJR a b s = .tuple #[.agg (doA (fun _ => 0)), .int .i64 210] := if_neg h

set_option maxHeartbeats 3200000 in
set_option maxRecDepth 100000 in
theorem dogroup_11 (a b : Nat → Int) (t : Nat) (w : World) (ha : dOK a) (hb : dOK b) (ht : t ≤ 1048576) (hT : dOK (dJ a b 1)) (hO : dOK (dJ a b (-1))) :
    Calls Try.prog 4 #[.agg (doA a), .agg (doA b), .int .i64 (t : Int)] w fun e w' => e = .returned (.bool true) ∧ Below w.heap.size w w' := by
  have HL := hid (fun V => dolives_any V)
  have HP := hid (fun V => dophase_ok a t V ha ht)
  obtain ⟨p1, p2, ep, op, _⟩ := circ_told (dU a t)
  rw [ep, show tV (p1, p2, 0) = Value.tuple #[.agg #[.int .i64 p1, .int .i64 p2], .int .i64 0] from rfl] at HP
  have HQ := hid (fun V => dophase_ok b t V hb ht)
  obtain ⟨q1, q2, eq, oq, _⟩ := circ_told (dU b t)
  rw [eq, show tV (q1, q2, 0) = Value.tuple #[.agg #[.int .i64 q1, .int .i64 q2], .int .i64 0] from rfl] at HQ
  have HT := hid (fun V => dotimes_any a b V)
  have HO := hid (fun V => doover_any a b V)
  rw [dJR_ok ⟨ha, hb, hT⟩] at HT
  have HR := hid (fun V => dophase_ok (dJ a b 1) t V hT ht)
  obtain ⟨r1, r2, er, or, _⟩ := circ_told (dU (dJ a b 1) t)
  rw [er, show tV (r1, r2, 0) = Value.tuple #[.agg #[.int .i64 r1, .int .i64 r2], .int .i64 0] from rfl] at HR
  have HA := hid (fun V => tadd_any p1 p2 q1 q2 V (dok_in op) (dok_in oq))
  rw [add_circ ep eq, ← dJ_plus, er, show tV (r1, r2, 0) = Value.tuple #[.agg #[.int .i64 r1, .int .i64 r2], .int .i64 0] from rfl] at HA
  rw [dJR_ok ⟨ha, hb, hO⟩] at HO
  have HG := hid (fun V => dophase_ok (dJ a b (-1)) t V hO ht)
  obtain ⟨g1, g2, eg, og, _⟩ := circ_told (dU (dJ a b (-1)) t)
  rw [eg, show tV (g1, g2, 0) = Value.tuple #[.agg #[.int .i64 g1, .int .i64 g2], .int .i64 0] from rfl] at HG
  have HS := hid (fun V => tsub_any p1 p2 q1 q2 V (dok_in op) (dok_in oq))
  rw [sub_circ ep eq, ← dJ_less, eg, show tV (g1, g2, 0) = Value.tuple #[.agg #[.int .i64 g1, .int .i64 g2], .int .i64 0] from rfl] at HS
  have HC := hid (fun V => doconj_any a V)
  rw [dJR_ok ⟨fun _ _ => ⟨by decide, by decide⟩, ha, dJ_back_ok ha⟩] at HC
  have HM := hid (fun V => dophase_ok (dJ (fun _ => 0) a (-1)) t V (dJ_back_ok ha) ht)
  obtain ⟨m1, m2, em, om, _⟩ := circ_told (dU (dJ (fun _ => 0) a (-1)) t)
  rw [em, show tV (m1, m2, 0) = Value.tuple #[.agg #[.int .i64 m1, .int .i64 m2], .int .i64 0] from rfl] at HM
  have HN1 := hid (fun V => tneg_any p1 p2 V (dok_in op))
  rw [neg_circ ep, ← dJ_back, em, show tV (m1, m2, 0) = Value.tuple #[.agg #[.int .i64 m1, .int .i64 m2], .int .i64 0] from rfl] at HN1
  have HV := hid (fun V => dospeed_ok a V ha)
  obtain ⟨v1, v2, ev, ov, _⟩ := circ_told (dV a)
  rw [ev, show tV (v1, v2, 0) = Value.tuple #[.agg #[.int .i64 v1, .int .i64 v2], .int .i64 0] from rfl] at HV
  have HX : Hid (t < 1048576 → ∃ x1 x2 : Int, (∀ V, Calls Try.prog 7 #[.agg (doA a), .int .i64 ((t : Int) + 1)] V fun e w' => e = .returned (.tuple #[.agg #[.int .i64 x1, .int .i64 x2], .int .i64 0]) ∧ Below V.heap.size V w') ∧ (∀ V, Calls Try.prog 24 #[.agg #[.int .i64 p1, .int .i64 p2], .agg #[.int .i64 v1, .int .i64 v2]] V fun e w' => e = .returned (.tuple #[.agg #[.int .i64 x1, .int .i64 x2], .int .i64 0]) ∧ Below V.heap.size V w')) := fun hlt => by
    obtain ⟨x1, x2, ex, ox, _⟩ := circ_told (dU a (t + 1))
    refine ⟨x1, x2, fun V => ?_, fun V => ?_⟩
    · have e := dophase_ok a (t + 1) V ha hlt
      rw [ex, show tV (x1, x2, 0) = Value.tuple #[.agg #[.int .i64 x1, .int .i64 x2], .int .i64 0] from rfl] at e
      exact e
    · have e := tadd_any p1 p2 v1 v2 V (dok_in op) (dok_in ov)
      rw [add_circ ep ev, ← dU_next, ex, show tV (x1, x2, 0) = Value.tuple #[.agg #[.int .i64 x1, .int .i64 x2], .int .i64 0] from rfl] at e
      exact e
  clear ep op eq oq ev ov em om ha hb hT hO
  clear er or
  clear eg og
  have HB0 := hid (dboxes2 w 24 24 (doA a) (doA b))
  obtain ⟨X, hW⟩ : ∃ X, (w.alloc (.cells (doA a) 24)).alloc (.cells (doA b) 24) = X := ⟨_, rfl⟩
  rw [hW] at HB0
  unfold doA at *
  generalize a 0 = aa0 at *
  generalize a 1 = aa1 at *
  generalize a 2 = aa2 at *
  generalize a 3 = aa3 at *
  generalize a 4 = aa4 at *
  generalize a 5 = aa5 at *
  generalize b 0 = bb0 at *
  generalize b 1 = bb1 at *
  generalize b 2 = bb2 at *
  generalize b 3 = bb3 at *
  generalize b 4 = bb4 at *
  generalize b 5 = bb5 at *
  generalize dJ a b 1 0 = xx0 at *
  generalize dJ a b 1 1 = xx1 at *
  generalize dJ a b 1 2 = xx2 at *
  generalize dJ a b 1 3 = xx3 at *
  generalize dJ a b 1 4 = xx4 at *
  generalize dJ a b 1 5 = xx5 at *
  generalize dJ a b (-1) 0 = yy0 at *
  generalize dJ a b (-1) 1 = yy1 at *
  generalize dJ a b (-1) 2 = yy2 at *
  generalize dJ a b (-1) 3 = yy3 at *
  generalize dJ a b (-1) 4 = yy4 at *
  generalize dJ a b (-1) 5 = yy5 at *
  generalize dJ (fun _ => 0) a (-1) 0 = cc0 at *
  generalize dJ (fun _ => 0) a (-1) 1 = cc1 at *
  generalize dJ (fun _ => 0) a (-1) 2 = cc2 at *
  generalize dJ (fun _ => 0) a (-1) 3 = cc3 at *
  generalize dJ (fun _ => 0) a (-1) 4 = cc4 at *
  generalize dJ (fun _ => 0) a (-1) 5 = cc5 at *
  have HBA := hid HB0.out.1
  have HBB := hid HB0.out.2.1
  have HB := hid HB0.out.2.2
  clear HB0
  go_enter Try.func4, Try.ntmps4
  go_wp2_with fail
  clear hW
  refine Calls.mono (HL.out _) ?_
  rintro e u1_ ⟨rfl, hb⟩
  replace HBA := hid (HBA.out.later hb HBA.out.lt)
  replace HBB := hid (HBB.out.later hb HBB.out.lt)
  replace HB := hid (b2 HB.out hb)
  clear hb
  obtain ⟨cA0, cA1, cA2, cA3, cA4, cA5⟩ := box6 HBA.out (Below.refl _ _)
  go_wp2_with fail
  refine Calls.mono (HP.out _) ?_
  rintro e u2_ ⟨rfl, hb⟩
  clear cA0 cA1 cA2 cA3 cA4 cA5
  replace HBA := hid (HBA.out.later hb HBA.out.lt)
  replace HBB := hid (HBB.out.later hb HBB.out.lt)
  replace HB := hid (b2 HB.out hb)
  clear hb
  have HN := hid (boxes1 u2_ 26 #[.int .i64 p1, .int .i64 p2])
  obtain ⟨u3_, hW⟩ : ∃ z, u2_.alloc (.cells #[.int .i64 p1, .int .i64 p2] 26) = z := ⟨_, rfl⟩
  rw [hW] at HN
  replace HBA := hid (HBA.out.later HN.out.2 HBA.out.lt)
  replace HBB := hid (HBB.out.later HN.out.2 HBB.out.lt)
  replace HB := hid (b2 HB.out HN.out.2)
  have HBP := hid HN.out.1
  clear HN
  obtain ⟨cB0, cB1, cB2, cB3, cB4, cB5⟩ := box6 HBB.out (Below.refl _ _)
  go_wp2_with fail
  clear hW
  refine Calls.mono (HQ.out _) ?_
  rintro e u4_ ⟨rfl, hb⟩
  clear cB0 cB1 cB2 cB3 cB4 cB5
  replace HBA := hid (HBA.out.later hb HBA.out.lt)
  replace HBB := hid (HBB.out.later hb HBB.out.lt)
  replace HBP := hid (HBP.out.later hb HBP.out.lt)
  replace HB := hid (b2 HB.out hb)
  clear hb
  have HN := hid (boxes1 u4_ 26 #[.int .i64 q1, .int .i64 q2])
  obtain ⟨u5_, hW⟩ : ∃ z, u4_.alloc (.cells #[.int .i64 q1, .int .i64 q2] 26) = z := ⟨_, rfl⟩
  rw [hW] at HN
  replace HBA := hid (HBA.out.later HN.out.2 HBA.out.lt)
  replace HBB := hid (HBB.out.later HN.out.2 HBB.out.lt)
  replace HBP := hid (HBP.out.later HN.out.2 HBP.out.lt)
  replace HB := hid (b2 HB.out HN.out.2)
  have HBQ := hid HN.out.1
  clear HN
  obtain ⟨cA0, cA1, cA2, cA3, cA4, cA5⟩ := box6 HBA.out (Below.refl _ _)
  obtain ⟨cB0, cB1, cB2, cB3, cB4, cB5⟩ := box6 HBB.out (Below.refl _ _)
  go_wp2_with fail
  clear hW
  refine Calls.mono (HT.out _) ?_
  rintro e u6_ ⟨rfl, hb⟩
  clear cA0 cA1 cA2 cA3 cA4 cA5 cB0 cB1 cB2 cB3 cB4 cB5
  replace HBA := hid (HBA.out.later hb HBA.out.lt)
  replace HBB := hid (HBB.out.later hb HBB.out.lt)
  replace HBP := hid (HBP.out.later hb HBP.out.lt)
  replace HBQ := hid (HBQ.out.later hb HBQ.out.lt)
  replace HB := hid (b2 HB.out hb)
  clear hb
  have oX : w.heap.size ≤ u6_.heap.size := HB.out.size
  have oXA : w.heap.size < u6_.heap.size := HBA.out.lt
  have oXB : w.heap.size + 1 < u6_.heap.size := HBB.out.lt
  have oXP : u2_.heap.size < u6_.heap.size := HBP.out.lt
  have oXQ : u4_.heap.size < u6_.heap.size := HBQ.out.lt
  have HN := hid (boxes1 u6_ 24 #[.int .i8 xx0, .int .i8 xx1, .int .i8 xx2, .int .i8 xx3, .int .i8 xx4, .int .i8 xx5])
  obtain ⟨u7_, hW⟩ : ∃ z, u6_.alloc (.cells #[.int .i8 xx0, .int .i8 xx1, .int .i8 xx2, .int .i8 xx3, .int .i8 xx4, .int .i8 xx5] 24) = z := ⟨_, rfl⟩
  rw [hW] at HN
  replace HBA := hid (HBA.out.later HN.out.2 HBA.out.lt)
  replace HBB := hid (HBB.out.later HN.out.2 HBB.out.lt)
  replace HBP := hid (HBP.out.later HN.out.2 HBP.out.lt)
  replace HBQ := hid (HBQ.out.later HN.out.2 HBQ.out.lt)
  replace HB := hid (b2 HB.out HN.out.2)
  have HBX := hid HN.out.1
  clear HN
  obtain ⟨cX0, cX1, cX2, cX3, cX4, cX5⟩ := box6 HBX.out (Below.refl _ _)
  go_wp2_with fail
  clear hW
  refine Calls.mono (HR.out _) ?_
  rintro e u8_ ⟨rfl, hb⟩
  clear cX0 cX1 cX2 cX3 cX4 cX5
  replace HBA := hid (HBA.out.later hb HBA.out.lt)
  replace HBB := hid (HBB.out.later hb HBB.out.lt)
  replace HBP := hid (HBP.out.later hb HBP.out.lt)
  replace HBQ := hid (HBQ.out.later hb HBQ.out.lt)
  replace HBX := hid (HBX.out.later hb HBX.out.lt)
  replace HB := hid (b2 HB.out hb)
  clear hb
  have oXR : u6_.heap.size < u8_.heap.size := HBX.out.lt
  have HN := hid (boxes1 u8_ 26 #[.int .i64 r1, .int .i64 r2])
  obtain ⟨u9_, hW⟩ : ∃ z, u8_.alloc (.cells #[.int .i64 r1, .int .i64 r2] 26) = z := ⟨_, rfl⟩
  rw [hW] at HN
  replace HBA := hid (HBA.out.later HN.out.2 HBA.out.lt)
  replace HBB := hid (HBB.out.later HN.out.2 HBB.out.lt)
  replace HBP := hid (HBP.out.later HN.out.2 HBP.out.lt)
  replace HBQ := hid (HBQ.out.later HN.out.2 HBQ.out.lt)
  replace HBX := hid (HBX.out.later HN.out.2 HBX.out.lt)
  replace HB := hid (b2 HB.out HN.out.2)
  have HBR := hid HN.out.1
  clear HN
  obtain ⟨cP0, cP1, fP0, fP1⟩ := fbox_facts HBP.out (Below.refl _ _)
  obtain ⟨cQ0, cQ1, fQ0, fQ1⟩ := fbox_facts HBQ.out (Below.refl _ _)
  go_wp2_with fail
  clear hW
  refine Calls.mono (HA.out _) ?_
  rintro e u10_ ⟨rfl, hb⟩
  clear cP0 cP1 fP0 fP1 cQ0 cQ1 fQ0 fQ1
  replace HBA := hid (HBA.out.later hb HBA.out.lt)
  replace HBB := hid (HBB.out.later hb HBB.out.lt)
  replace HBP := hid (HBP.out.later hb HBP.out.lt)
  replace HBQ := hid (HBQ.out.later hb HBQ.out.lt)
  replace HBX := hid (HBX.out.later hb HBX.out.lt)
  replace HBR := hid (HBR.out.later hb HBR.out.lt)
  replace HB := hid (b2 HB.out hb)
  clear hb
  have oXS : u6_.heap.size < u10_.heap.size := HBX.out.lt
  have HN := hid (boxes1 u10_ 26 #[.int .i64 r1, .int .i64 r2])
  obtain ⟨u11_, hW⟩ : ∃ z, u10_.alloc (.cells #[.int .i64 r1, .int .i64 r2] 26) = z := ⟨_, rfl⟩
  rw [hW] at HN
  replace HBA := hid (HBA.out.later HN.out.2 HBA.out.lt)
  replace HBB := hid (HBB.out.later HN.out.2 HBB.out.lt)
  replace HBP := hid (HBP.out.later HN.out.2 HBP.out.lt)
  replace HBQ := hid (HBQ.out.later HN.out.2 HBQ.out.lt)
  replace HBX := hid (HBX.out.later HN.out.2 HBX.out.lt)
  replace HBR := hid (HBR.out.later HN.out.2 HBR.out.lt)
  replace HB := hid (b2 HB.out HN.out.2)
  have HBS := hid HN.out.1
  clear HN
  obtain ⟨cR0, cR1, fR0, fR1⟩ := fbox_facts HBR.out (Below.refl _ _)
  obtain ⟨cS0, cS1, fS0, fS1⟩ := fbox_facts HBS.out (Below.refl _ _)
  obtain ⟨cA0, cA1, cA2, cA3, cA4, cA5⟩ := box6 HBA.out (Below.refl _ _)
  obtain ⟨cB0, cB1, cB2, cB3, cB4, cB5⟩ := box6 HBB.out (Below.refl _ _)
  go_wp2_with fail
  clear hW
  refine Calls.mono (HO.out _) ?_
  rintro e u12_ ⟨rfl, hb⟩
  clear cR0 cR1 fR0 fR1 cS0 cS1 fS0 fS1 cA0 cA1 cA2 cA3 cA4 cA5 cB0 cB1 cB2 cB3 cB4 cB5
  replace HBA := hid (HBA.out.later hb HBA.out.lt)
  replace HBB := hid (HBB.out.later hb HBB.out.lt)
  replace HBP := hid (HBP.out.later hb HBP.out.lt)
  replace HBQ := hid (HBQ.out.later hb HBQ.out.lt)
  replace HBX := hid (HBX.out.later hb HBX.out.lt)
  replace HBR := hid (HBR.out.later hb HBR.out.lt)
  replace HBS := hid (HBS.out.later hb HBS.out.lt)
  replace HB := hid (b2 HB.out hb)
  clear hb
  have lA := HBA.out.lt
  have lB := HBB.out.lt
  have lP := HBP.out.lt
  have lQ := HBQ.out.lt
  have lX := HBX.out.lt
  have lR := HBR.out.lt
  have lS := HBS.out.lt
  obtain ⟨kX0, kX1, kX2, kX3, kX4, kX5⟩ := box6 HBX.out (Below.refl _ _)
  obtain ⟨fX0, fX1, fX2, fX3, fX4, fX5⟩ := free6 HBX.out (Below.refl _ _)
  have HTA_ := hid (HBA.out.off6 (show w.heap.size ≠ u6_.heap.size by omega) (.int .i8 yy0) (.int .i8 yy1) (.int .i8 yy2) (.int .i8 yy3) (.int .i8 yy4) (.int .i8 yy5))
  have HTB_ := hid (HBB.out.off6 (show w.heap.size + 1 ≠ u6_.heap.size by omega) (.int .i8 yy0) (.int .i8 yy1) (.int .i8 yy2) (.int .i8 yy3) (.int .i8 yy4) (.int .i8 yy5))
  have HTP_ := hid (HBP.out.off6 (show u2_.heap.size ≠ u6_.heap.size by omega) (.int .i8 yy0) (.int .i8 yy1) (.int .i8 yy2) (.int .i8 yy3) (.int .i8 yy4) (.int .i8 yy5))
  have HTQ_ := hid (HBQ.out.off6 (show u4_.heap.size ≠ u6_.heap.size by omega) (.int .i8 yy0) (.int .i8 yy1) (.int .i8 yy2) (.int .i8 yy3) (.int .i8 yy4) (.int .i8 yy5))
  have HTR_ := hid (HBR.out.off6 (show u8_.heap.size ≠ u6_.heap.size by omega) (.int .i8 yy0) (.int .i8 yy1) (.int .i8 yy2) (.int .i8 yy3) (.int .i8 yy4) (.int .i8 yy5))
  have HTS_ := hid (HBS.out.off6 (show u10_.heap.size ≠ u6_.heap.size by omega) (.int .i8 yy0) (.int .i8 yy1) (.int .i8 yy2) (.int .i8 yy3) (.int .i8 yy4) (.int .i8 yy5))
  have HTX_ := hid (HBX.out.put6 (.int .i8 yy0) (.int .i8 yy1) (.int .i8 yy2) (.int .i8 yy3) (.int .i8 yy4) (.int .i8 yy5))
  have HT_ := hid (dput6 HB.out u6_.heap.size (by omega) (.int .i8 yy0) (.int .i8 yy1) (.int .i8 yy2) (.int .i8 yy3) (.int .i8 yy4) (.int .i8 yy5))
  obtain ⟨u13_, hW⟩ : ∃ z, ((((((u12_.setCell ⟨u6_.heap.size, 0, none⟩ (.int .i8 yy0)).setCell ⟨u6_.heap.size, 1, none⟩ (.int .i8 yy1)).setCell ⟨u6_.heap.size, 2, none⟩ (.int .i8 yy2)).setCell ⟨u6_.heap.size, 3, none⟩ (.int .i8 yy3)).setCell ⟨u6_.heap.size, 4, none⟩ (.int .i8 yy4)).setCell ⟨u6_.heap.size, 5, none⟩ (.int .i8 yy5)) = z := ⟨_, rfl⟩
  rw [hW] at HT_ HTA_ HTB_ HTP_ HTQ_ HTX_ HTR_ HTS_
  clear HB HBA HBB HBP HBQ HBX HBR HBS
  have HB := HT_
  have HBA := HTA_
  have HBB := HTB_
  have HBP := HTP_
  have HBQ := HTQ_
  have HBX := HTX_
  have HBR := HTR_
  have HBS := HTS_
  clear HT_ HTA_ HTB_ HTP_ HTQ_ HTX_ HTR_ HTS_
  obtain ⟨cX0, cX1, cX2, cX3, cX4, cX5⟩ := box6 HBX.out (Below.refl _ _)
  go_wp2_with fail
  clear kX0 kX1 kX2 kX3 kX4 kX5 fX0 fX1 fX2 fX3 fX4 fX5 cX0 cX1 cX2 cX3 cX4 cX5
  clear hW
  refine Calls.mono (HG.out _) ?_
  rintro e u14_ ⟨rfl, hb⟩
  replace HBA := hid (HBA.out.later hb HBA.out.lt)
  replace HBB := hid (HBB.out.later hb HBB.out.lt)
  replace HBP := hid (HBP.out.later hb HBP.out.lt)
  replace HBQ := hid (HBQ.out.later hb HBQ.out.lt)
  replace HBX := hid (HBX.out.later hb HBX.out.lt)
  replace HBR := hid (HBR.out.later hb HBR.out.lt)
  replace HBS := hid (HBS.out.later hb HBS.out.lt)
  replace HB := hid (b2 HB.out hb)
  clear hb
  have oXG : u6_.heap.size < u14_.heap.size := HBX.out.lt
  have HN := hid (boxes1 u14_ 26 #[.int .i64 g1, .int .i64 g2])
  obtain ⟨u15_, hW⟩ : ∃ z, u14_.alloc (.cells #[.int .i64 g1, .int .i64 g2] 26) = z := ⟨_, rfl⟩
  rw [hW] at HN
  replace HBA := hid (HBA.out.later HN.out.2 HBA.out.lt)
  replace HBB := hid (HBB.out.later HN.out.2 HBB.out.lt)
  replace HBP := hid (HBP.out.later HN.out.2 HBP.out.lt)
  replace HBQ := hid (HBQ.out.later HN.out.2 HBQ.out.lt)
  replace HBX := hid (HBX.out.later HN.out.2 HBX.out.lt)
  replace HBR := hid (HBR.out.later HN.out.2 HBR.out.lt)
  replace HBS := hid (HBS.out.later HN.out.2 HBS.out.lt)
  replace HB := hid (b2 HB.out HN.out.2)
  have HBG := hid HN.out.1
  clear HN
  obtain ⟨cP0, cP1, fP0, fP1⟩ := fbox_facts HBP.out (Below.refl _ _)
  obtain ⟨cQ0, cQ1, fQ0, fQ1⟩ := fbox_facts HBQ.out (Below.refl _ _)
  go_wp2_with fail
  clear hW
  refine Calls.mono (HS.out _) ?_
  rintro e u16_ ⟨rfl, hb⟩
  clear cP0 cP1 fP0 fP1 cQ0 cQ1 fQ0 fQ1
  replace HBA := hid (HBA.out.later hb HBA.out.lt)
  replace HBB := hid (HBB.out.later hb HBB.out.lt)
  replace HBP := hid (HBP.out.later hb HBP.out.lt)
  replace HBQ := hid (HBQ.out.later hb HBQ.out.lt)
  replace HBX := hid (HBX.out.later hb HBX.out.lt)
  replace HBR := hid (HBR.out.later hb HBR.out.lt)
  replace HBS := hid (HBS.out.later hb HBS.out.lt)
  replace HBG := hid (HBG.out.later hb HBG.out.lt)
  replace HB := hid (b2 HB.out hb)
  clear hb
  have oXH : u6_.heap.size < u16_.heap.size := HBX.out.lt
  have HN := hid (boxes1 u16_ 26 #[.int .i64 g1, .int .i64 g2])
  obtain ⟨u17_, hW⟩ : ∃ z, u16_.alloc (.cells #[.int .i64 g1, .int .i64 g2] 26) = z := ⟨_, rfl⟩
  rw [hW] at HN
  replace HBA := hid (HBA.out.later HN.out.2 HBA.out.lt)
  replace HBB := hid (HBB.out.later HN.out.2 HBB.out.lt)
  replace HBP := hid (HBP.out.later HN.out.2 HBP.out.lt)
  replace HBQ := hid (HBQ.out.later HN.out.2 HBQ.out.lt)
  replace HBX := hid (HBX.out.later HN.out.2 HBX.out.lt)
  replace HBR := hid (HBR.out.later HN.out.2 HBR.out.lt)
  replace HBS := hid (HBS.out.later HN.out.2 HBS.out.lt)
  replace HBG := hid (HBG.out.later HN.out.2 HBG.out.lt)
  replace HB := hid (b2 HB.out HN.out.2)
  have HBH := hid HN.out.1
  clear HN
  obtain ⟨cG0, cG1, fG0, fG1⟩ := fbox_facts HBG.out (Below.refl _ _)
  obtain ⟨cH0, cH1, fH0, fH1⟩ := fbox_facts HBH.out (Below.refl _ _)
  obtain ⟨cA0, cA1, cA2, cA3, cA4, cA5⟩ := box6 HBA.out (Below.refl _ _)
  go_wp2_with fail
  clear hW
  refine Calls.mono (HC.out _) ?_
  rintro e u18_ ⟨rfl, hb⟩
  clear cG0 cG1 fG0 fG1 cH0 cH1 fH0 fH1 cA0 cA1 cA2 cA3 cA4 cA5
  replace HBA := hid (HBA.out.later hb HBA.out.lt)
  replace HBB := hid (HBB.out.later hb HBB.out.lt)
  replace HBP := hid (HBP.out.later hb HBP.out.lt)
  replace HBQ := hid (HBQ.out.later hb HBQ.out.lt)
  replace HBX := hid (HBX.out.later hb HBX.out.lt)
  replace HBR := hid (HBR.out.later hb HBR.out.lt)
  replace HBS := hid (HBS.out.later hb HBS.out.lt)
  replace HBG := hid (HBG.out.later hb HBG.out.lt)
  replace HBH := hid (HBH.out.later hb HBH.out.lt)
  replace HB := hid (b2 HB.out hb)
  clear hb
  have oXC : u6_.heap.size < u18_.heap.size := HBX.out.lt
  have HN := hid (boxes1 u18_ 24 #[.int .i8 cc0, .int .i8 cc1, .int .i8 cc2, .int .i8 cc3, .int .i8 cc4, .int .i8 cc5])
  obtain ⟨u19_, hW⟩ : ∃ z, u18_.alloc (.cells #[.int .i8 cc0, .int .i8 cc1, .int .i8 cc2, .int .i8 cc3, .int .i8 cc4, .int .i8 cc5] 24) = z := ⟨_, rfl⟩
  rw [hW] at HN
  replace HBA := hid (HBA.out.later HN.out.2 HBA.out.lt)
  replace HBB := hid (HBB.out.later HN.out.2 HBB.out.lt)
  replace HBP := hid (HBP.out.later HN.out.2 HBP.out.lt)
  replace HBQ := hid (HBQ.out.later HN.out.2 HBQ.out.lt)
  replace HBX := hid (HBX.out.later HN.out.2 HBX.out.lt)
  replace HBR := hid (HBR.out.later HN.out.2 HBR.out.lt)
  replace HBS := hid (HBS.out.later HN.out.2 HBS.out.lt)
  replace HBG := hid (HBG.out.later HN.out.2 HBG.out.lt)
  replace HBH := hid (HBH.out.later HN.out.2 HBH.out.lt)
  replace HB := hid (b2 HB.out HN.out.2)
  have HBC := hid HN.out.1
  clear HN
  obtain ⟨cC0, cC1, cC2, cC3, cC4, cC5⟩ := box6 HBC.out (Below.refl _ _)
  go_wp2_with fail
  clear hW
  refine Calls.mono (HM.out _) ?_
  rintro e u20_ ⟨rfl, hb⟩
  clear cC0 cC1 cC2 cC3 cC4 cC5
  replace HBA := hid (HBA.out.later hb HBA.out.lt)
  replace HBB := hid (HBB.out.later hb HBB.out.lt)
  replace HBP := hid (HBP.out.later hb HBP.out.lt)
  replace HBQ := hid (HBQ.out.later hb HBQ.out.lt)
  replace HBX := hid (HBX.out.later hb HBX.out.lt)
  replace HBR := hid (HBR.out.later hb HBR.out.lt)
  replace HBS := hid (HBS.out.later hb HBS.out.lt)
  replace HBG := hid (HBG.out.later hb HBG.out.lt)
  replace HBH := hid (HBH.out.later hb HBH.out.lt)
  replace HBC := hid (HBC.out.later hb HBC.out.lt)
  replace HB := hid (b2 HB.out hb)
  clear hb
  have oXM : u6_.heap.size < u20_.heap.size := HBX.out.lt
  have HN := hid (boxes1 u20_ 26 #[.int .i64 m1, .int .i64 m2])
  obtain ⟨u21_, hW⟩ : ∃ z, u20_.alloc (.cells #[.int .i64 m1, .int .i64 m2] 26) = z := ⟨_, rfl⟩
  rw [hW] at HN
  replace HBA := hid (HBA.out.later HN.out.2 HBA.out.lt)
  replace HBB := hid (HBB.out.later HN.out.2 HBB.out.lt)
  replace HBP := hid (HBP.out.later HN.out.2 HBP.out.lt)
  replace HBQ := hid (HBQ.out.later HN.out.2 HBQ.out.lt)
  replace HBX := hid (HBX.out.later HN.out.2 HBX.out.lt)
  replace HBR := hid (HBR.out.later HN.out.2 HBR.out.lt)
  replace HBS := hid (HBS.out.later HN.out.2 HBS.out.lt)
  replace HBG := hid (HBG.out.later HN.out.2 HBG.out.lt)
  replace HBH := hid (HBH.out.later HN.out.2 HBH.out.lt)
  replace HBC := hid (HBC.out.later HN.out.2 HBC.out.lt)
  replace HB := hid (b2 HB.out HN.out.2)
  have HBM := hid HN.out.1
  clear HN
  obtain ⟨cP0, cP1, fP0, fP1⟩ := fbox_facts HBP.out (Below.refl _ _)
  go_wp2_with fail
  clear hW
  refine Calls.mono (HN1.out _) ?_
  rintro e u22_ ⟨rfl, hb⟩
  clear cP0 cP1 fP0 fP1
  replace HBA := hid (HBA.out.later hb HBA.out.lt)
  replace HBB := hid (HBB.out.later hb HBB.out.lt)
  replace HBP := hid (HBP.out.later hb HBP.out.lt)
  replace HBQ := hid (HBQ.out.later hb HBQ.out.lt)
  replace HBX := hid (HBX.out.later hb HBX.out.lt)
  replace HBR := hid (HBR.out.later hb HBR.out.lt)
  replace HBS := hid (HBS.out.later hb HBS.out.lt)
  replace HBG := hid (HBG.out.later hb HBG.out.lt)
  replace HBH := hid (HBH.out.later hb HBH.out.lt)
  replace HBC := hid (HBC.out.later hb HBC.out.lt)
  replace HBM := hid (HBM.out.later hb HBM.out.lt)
  replace HB := hid (b2 HB.out hb)
  clear hb
  have oXN : u6_.heap.size < u22_.heap.size := HBX.out.lt
  have HN := hid (boxes1 u22_ 26 #[.int .i64 m1, .int .i64 m2])
  obtain ⟨u23_, hW⟩ : ∃ z, u22_.alloc (.cells #[.int .i64 m1, .int .i64 m2] 26) = z := ⟨_, rfl⟩
  rw [hW] at HN
  replace HBA := hid (HBA.out.later HN.out.2 HBA.out.lt)
  replace HBB := hid (HBB.out.later HN.out.2 HBB.out.lt)
  replace HBP := hid (HBP.out.later HN.out.2 HBP.out.lt)
  replace HBQ := hid (HBQ.out.later HN.out.2 HBQ.out.lt)
  replace HBX := hid (HBX.out.later HN.out.2 HBX.out.lt)
  replace HBR := hid (HBR.out.later HN.out.2 HBR.out.lt)
  replace HBS := hid (HBS.out.later HN.out.2 HBS.out.lt)
  replace HBG := hid (HBG.out.later HN.out.2 HBG.out.lt)
  replace HBH := hid (HBH.out.later HN.out.2 HBH.out.lt)
  replace HBC := hid (HBC.out.later HN.out.2 HBC.out.lt)
  replace HBM := hid (HBM.out.later HN.out.2 HBM.out.lt)
  replace HB := hid (b2 HB.out HN.out.2)
  have HBN := hid HN.out.1
  clear HN
  obtain ⟨cM0, cM1, fM0, fM1⟩ := fbox_facts HBM.out (Below.refl _ _)
  obtain ⟨cN0, cN1, fN0, fN1⟩ := fbox_facts HBN.out (Below.refl _ _)
  by_cases hlt : t < 1048576
  · obtain ⟨x1, x2, HX1, HX2⟩ := HX.out hlt
    have HY1 := hid HX1
    have HY2 := hid HX2
    clear HX1 HX2 HX
    have e1 : IntKind.i64.wrap ((t : Int) + 1) = (t : Int) + 1 := by rw [IntKind.wrap_i64]; omega
    have h1 : (t : Int) < 1048576 := by omega
    clear hlt ht
    generalize (t : Int) = ti at *
    obtain ⟨cA0, cA1, cA2, cA3, cA4, cA5⟩ := box6 HBA.out (Below.refl _ _)
    go_wp2_with fail
    clear hW
    refine Calls.mono (HY1.out _) ?_
    rintro e u24_ ⟨rfl, hb⟩
    clear cM0 cM1 fM0 fM1 cN0 cN1 fN0 fN1 cA0 cA1 cA2 cA3 cA4 cA5
    replace HBA := hid (HBA.out.later hb HBA.out.lt)
    replace HBB := hid (HBB.out.later hb HBB.out.lt)
    replace HBP := hid (HBP.out.later hb HBP.out.lt)
    replace HBQ := hid (HBQ.out.later hb HBQ.out.lt)
    replace HBX := hid (HBX.out.later hb HBX.out.lt)
    replace HBR := hid (HBR.out.later hb HBR.out.lt)
    replace HBS := hid (HBS.out.later hb HBS.out.lt)
    replace HBG := hid (HBG.out.later hb HBG.out.lt)
    replace HBH := hid (HBH.out.later hb HBH.out.lt)
    replace HBC := hid (HBC.out.later hb HBC.out.lt)
    replace HBM := hid (HBM.out.later hb HBM.out.lt)
    replace HBN := hid (HBN.out.later hb HBN.out.lt)
    replace HB := hid (b2 HB.out hb)
    clear hb
    have oXY : u6_.heap.size < u24_.heap.size := HBX.out.lt
    have HN := hid (boxes1 u24_ 26 #[.int .i64 x1, .int .i64 x2])
    obtain ⟨u25_, hW⟩ : ∃ z, u24_.alloc (.cells #[.int .i64 x1, .int .i64 x2] 26) = z := ⟨_, rfl⟩
    rw [hW] at HN
    replace HBA := hid (HBA.out.later HN.out.2 HBA.out.lt)
    replace HBB := hid (HBB.out.later HN.out.2 HBB.out.lt)
    replace HBP := hid (HBP.out.later HN.out.2 HBP.out.lt)
    replace HBQ := hid (HBQ.out.later HN.out.2 HBQ.out.lt)
    replace HBX := hid (HBX.out.later HN.out.2 HBX.out.lt)
    replace HBR := hid (HBR.out.later HN.out.2 HBR.out.lt)
    replace HBS := hid (HBS.out.later HN.out.2 HBS.out.lt)
    replace HBG := hid (HBG.out.later HN.out.2 HBG.out.lt)
    replace HBH := hid (HBH.out.later HN.out.2 HBH.out.lt)
    replace HBC := hid (HBC.out.later HN.out.2 HBC.out.lt)
    replace HBM := hid (HBM.out.later HN.out.2 HBM.out.lt)
    replace HBN := hid (HBN.out.later HN.out.2 HBN.out.lt)
    replace HB := hid (b2 HB.out HN.out.2)
    have HBY := hid HN.out.1
    clear HN
    obtain ⟨cA0, cA1, cA2, cA3, cA4, cA5⟩ := box6 HBA.out (Below.refl _ _)
    go_wp2_with fail
    clear hW
    refine Calls.mono (HV.out _) ?_
    rintro e u26_ ⟨rfl, hb⟩
    clear cA0 cA1 cA2 cA3 cA4 cA5
    replace HBA := hid (HBA.out.later hb HBA.out.lt)
    replace HBB := hid (HBB.out.later hb HBB.out.lt)
    replace HBP := hid (HBP.out.later hb HBP.out.lt)
    replace HBQ := hid (HBQ.out.later hb HBQ.out.lt)
    replace HBX := hid (HBX.out.later hb HBX.out.lt)
    replace HBR := hid (HBR.out.later hb HBR.out.lt)
    replace HBS := hid (HBS.out.later hb HBS.out.lt)
    replace HBG := hid (HBG.out.later hb HBG.out.lt)
    replace HBH := hid (HBH.out.later hb HBH.out.lt)
    replace HBC := hid (HBC.out.later hb HBC.out.lt)
    replace HBM := hid (HBM.out.later hb HBM.out.lt)
    replace HBN := hid (HBN.out.later hb HBN.out.lt)
    replace HBY := hid (HBY.out.later hb HBY.out.lt)
    replace HB := hid (b2 HB.out hb)
    clear hb
    have oXV : u6_.heap.size < u26_.heap.size := HBX.out.lt
    have HN := hid (boxes1 u26_ 26 #[.int .i64 v1, .int .i64 v2])
    obtain ⟨u27_, hW⟩ : ∃ z, u26_.alloc (.cells #[.int .i64 v1, .int .i64 v2] 26) = z := ⟨_, rfl⟩
    rw [hW] at HN
    replace HBA := hid (HBA.out.later HN.out.2 HBA.out.lt)
    replace HBB := hid (HBB.out.later HN.out.2 HBB.out.lt)
    replace HBP := hid (HBP.out.later HN.out.2 HBP.out.lt)
    replace HBQ := hid (HBQ.out.later HN.out.2 HBQ.out.lt)
    replace HBX := hid (HBX.out.later HN.out.2 HBX.out.lt)
    replace HBR := hid (HBR.out.later HN.out.2 HBR.out.lt)
    replace HBS := hid (HBS.out.later HN.out.2 HBS.out.lt)
    replace HBG := hid (HBG.out.later HN.out.2 HBG.out.lt)
    replace HBH := hid (HBH.out.later HN.out.2 HBH.out.lt)
    replace HBC := hid (HBC.out.later HN.out.2 HBC.out.lt)
    replace HBM := hid (HBM.out.later HN.out.2 HBM.out.lt)
    replace HBN := hid (HBN.out.later HN.out.2 HBN.out.lt)
    replace HBY := hid (HBY.out.later HN.out.2 HBY.out.lt)
    replace HB := hid (b2 HB.out HN.out.2)
    have HBV := hid HN.out.1
    clear HN
    obtain ⟨cP0, cP1, fP0, fP1⟩ := fbox_facts HBP.out (Below.refl _ _)
    obtain ⟨cV0, cV1, fV0, fV1⟩ := fbox_facts HBV.out (Below.refl _ _)
    go_wp2_with fail
    clear hW
    refine Calls.mono (HY2.out _) ?_
    rintro e u28_ ⟨rfl, hb⟩
    clear cP0 cP1 fP0 fP1 cV0 cV1 fV0 fV1
    replace HBA := hid (HBA.out.later hb HBA.out.lt)
    replace HBB := hid (HBB.out.later hb HBB.out.lt)
    replace HBP := hid (HBP.out.later hb HBP.out.lt)
    replace HBQ := hid (HBQ.out.later hb HBQ.out.lt)
    replace HBX := hid (HBX.out.later hb HBX.out.lt)
    replace HBR := hid (HBR.out.later hb HBR.out.lt)
    replace HBS := hid (HBS.out.later hb HBS.out.lt)
    replace HBG := hid (HBG.out.later hb HBG.out.lt)
    replace HBH := hid (HBH.out.later hb HBH.out.lt)
    replace HBC := hid (HBC.out.later hb HBC.out.lt)
    replace HBM := hid (HBM.out.later hb HBM.out.lt)
    replace HBN := hid (HBN.out.later hb HBN.out.lt)
    replace HBY := hid (HBY.out.later hb HBY.out.lt)
    replace HBV := hid (HBV.out.later hb HBV.out.lt)
    replace HB := hid (b2 HB.out hb)
    clear hb
    have oXZ : u6_.heap.size < u28_.heap.size := HBX.out.lt
    have HN := hid (boxes1 u28_ 26 #[.int .i64 x1, .int .i64 x2])
    obtain ⟨u29_, hW⟩ : ∃ z, u28_.alloc (.cells #[.int .i64 x1, .int .i64 x2] 26) = z := ⟨_, rfl⟩
    rw [hW] at HN
    replace HBA := hid (HBA.out.later HN.out.2 HBA.out.lt)
    replace HBB := hid (HBB.out.later HN.out.2 HBB.out.lt)
    replace HBP := hid (HBP.out.later HN.out.2 HBP.out.lt)
    replace HBQ := hid (HBQ.out.later HN.out.2 HBQ.out.lt)
    replace HBX := hid (HBX.out.later HN.out.2 HBX.out.lt)
    replace HBR := hid (HBR.out.later HN.out.2 HBR.out.lt)
    replace HBS := hid (HBS.out.later HN.out.2 HBS.out.lt)
    replace HBG := hid (HBG.out.later HN.out.2 HBG.out.lt)
    replace HBH := hid (HBH.out.later HN.out.2 HBH.out.lt)
    replace HBC := hid (HBC.out.later HN.out.2 HBC.out.lt)
    replace HBM := hid (HBM.out.later HN.out.2 HBM.out.lt)
    replace HBN := hid (HBN.out.later HN.out.2 HBN.out.lt)
    replace HBY := hid (HBY.out.later HN.out.2 HBY.out.lt)
    replace HBV := hid (HBV.out.later HN.out.2 HBV.out.lt)
    replace HB := hid (b2 HB.out HN.out.2)
    have HBZ := hid HN.out.1
    clear HN
    obtain ⟨cY0, cY1, fY0, fY1⟩ := fbox_facts HBY.out (Below.refl _ _)
    obtain ⟨cZ0, cZ1, fZ0, fZ1⟩ := fbox_facts HBZ.out (Below.refl _ _)
    go_wp2_with fail
    all_goals first | (go_ret; exact ⟨rfl, HB.out⟩) | (go_ret; exact ⟨rfl, HB.out.drew⟩)
  · have h1 : ¬ (t : Int) < 1048576 := by omega
    clear hlt ht HX
    generalize (t : Int) = ti at *
    go_wp2_with fail
    all_goals first | (go_ret; exact ⟨rfl, HB.out⟩) | (go_ret; exact ⟨rfl, HB.out.drew⟩)

set_option maxHeartbeats 3200000 in
set_option maxRecDepth 100000 in
theorem dogroup_10 (a b : Nat → Int) (t : Nat) (w : World) (ha : dOK a) (hb : dOK b) (ht : t ≤ 1048576) (hT : dOK (dJ a b 1)) (hO : ¬ dOK (dJ a b (-1))) :
    Calls Try.prog 4 #[.agg (doA a), .agg (doA b), .int .i64 (t : Int)] w fun e w' => e = .returned (.bool true) ∧ Below w.heap.size w w' := by
  have HL := hid (fun V => dolives_any V)
  have HP := hid (fun V => dophase_ok a t V ha ht)
  obtain ⟨p1, p2, ep, op, _⟩ := circ_told (dU a t)
  rw [ep, show tV (p1, p2, 0) = Value.tuple #[.agg #[.int .i64 p1, .int .i64 p2], .int .i64 0] from rfl] at HP
  have HQ := hid (fun V => dophase_ok b t V hb ht)
  obtain ⟨q1, q2, eq, oq, _⟩ := circ_told (dU b t)
  rw [eq, show tV (q1, q2, 0) = Value.tuple #[.agg #[.int .i64 q1, .int .i64 q2], .int .i64 0] from rfl] at HQ
  have HT := hid (fun V => dotimes_any a b V)
  have HO := hid (fun V => doover_any a b V)
  rw [dJR_ok ⟨ha, hb, hT⟩] at HT
  have HR := hid (fun V => dophase_ok (dJ a b 1) t V hT ht)
  obtain ⟨r1, r2, er, or, _⟩ := circ_told (dU (dJ a b 1) t)
  rw [er, show tV (r1, r2, 0) = Value.tuple #[.agg #[.int .i64 r1, .int .i64 r2], .int .i64 0] from rfl] at HR
  have HA := hid (fun V => tadd_any p1 p2 q1 q2 V (dok_in op) (dok_in oq))
  rw [add_circ ep eq, ← dJ_plus, er, show tV (r1, r2, 0) = Value.tuple #[.agg #[.int .i64 r1, .int .i64 r2], .int .i64 0] from rfl] at HA
  rw [dJR_no (fun h => hO h.2.2)] at HO
  have HC := hid (fun V => doconj_any a V)
  rw [dJR_ok ⟨fun _ _ => ⟨by decide, by decide⟩, ha, dJ_back_ok ha⟩] at HC
  have HM := hid (fun V => dophase_ok (dJ (fun _ => 0) a (-1)) t V (dJ_back_ok ha) ht)
  obtain ⟨m1, m2, em, om, _⟩ := circ_told (dU (dJ (fun _ => 0) a (-1)) t)
  rw [em, show tV (m1, m2, 0) = Value.tuple #[.agg #[.int .i64 m1, .int .i64 m2], .int .i64 0] from rfl] at HM
  have HN1 := hid (fun V => tneg_any p1 p2 V (dok_in op))
  rw [neg_circ ep, ← dJ_back, em, show tV (m1, m2, 0) = Value.tuple #[.agg #[.int .i64 m1, .int .i64 m2], .int .i64 0] from rfl] at HN1
  have HV := hid (fun V => dospeed_ok a V ha)
  obtain ⟨v1, v2, ev, ov, _⟩ := circ_told (dV a)
  rw [ev, show tV (v1, v2, 0) = Value.tuple #[.agg #[.int .i64 v1, .int .i64 v2], .int .i64 0] from rfl] at HV
  have HX : Hid (t < 1048576 → ∃ x1 x2 : Int, (∀ V, Calls Try.prog 7 #[.agg (doA a), .int .i64 ((t : Int) + 1)] V fun e w' => e = .returned (.tuple #[.agg #[.int .i64 x1, .int .i64 x2], .int .i64 0]) ∧ Below V.heap.size V w') ∧ (∀ V, Calls Try.prog 24 #[.agg #[.int .i64 p1, .int .i64 p2], .agg #[.int .i64 v1, .int .i64 v2]] V fun e w' => e = .returned (.tuple #[.agg #[.int .i64 x1, .int .i64 x2], .int .i64 0]) ∧ Below V.heap.size V w')) := fun hlt => by
    obtain ⟨x1, x2, ex, ox, _⟩ := circ_told (dU a (t + 1))
    refine ⟨x1, x2, fun V => ?_, fun V => ?_⟩
    · have e := dophase_ok a (t + 1) V ha hlt
      rw [ex, show tV (x1, x2, 0) = Value.tuple #[.agg #[.int .i64 x1, .int .i64 x2], .int .i64 0] from rfl] at e
      exact e
    · have e := tadd_any p1 p2 v1 v2 V (dok_in op) (dok_in ov)
      rw [add_circ ep ev, ← dU_next, ex, show tV (x1, x2, 0) = Value.tuple #[.agg #[.int .i64 x1, .int .i64 x2], .int .i64 0] from rfl] at e
      exact e
  clear ep op eq oq ev ov em om ha hb hT hO
  clear er or
  have HB0 := hid (dboxes2 w 24 24 (doA a) (doA b))
  obtain ⟨X, hW⟩ : ∃ X, (w.alloc (.cells (doA a) 24)).alloc (.cells (doA b) 24) = X := ⟨_, rfl⟩
  rw [hW] at HB0
  unfold doA at *
  generalize a 0 = aa0 at *
  generalize a 1 = aa1 at *
  generalize a 2 = aa2 at *
  generalize a 3 = aa3 at *
  generalize a 4 = aa4 at *
  generalize a 5 = aa5 at *
  generalize b 0 = bb0 at *
  generalize b 1 = bb1 at *
  generalize b 2 = bb2 at *
  generalize b 3 = bb3 at *
  generalize b 4 = bb4 at *
  generalize b 5 = bb5 at *
  generalize dJ a b 1 0 = xx0 at *
  generalize dJ a b 1 1 = xx1 at *
  generalize dJ a b 1 2 = xx2 at *
  generalize dJ a b 1 3 = xx3 at *
  generalize dJ a b 1 4 = xx4 at *
  generalize dJ a b 1 5 = xx5 at *
  generalize dJ (fun _ => 0) a (-1) 0 = cc0 at *
  generalize dJ (fun _ => 0) a (-1) 1 = cc1 at *
  generalize dJ (fun _ => 0) a (-1) 2 = cc2 at *
  generalize dJ (fun _ => 0) a (-1) 3 = cc3 at *
  generalize dJ (fun _ => 0) a (-1) 4 = cc4 at *
  generalize dJ (fun _ => 0) a (-1) 5 = cc5 at *
  obtain ⟨yy0, yy1, yy2, yy3, yy4, yy5, HZy⟩ : ∃ yy0 yy1 yy2 yy3 yy4 yy5 : Int, Hid (yy0 = 0 ∧ yy1 = 0 ∧ yy2 = 0 ∧ yy3 = 0 ∧ yy4 = 0 ∧ yy5 = 0) := ⟨_, _, _, _, _, _, ⟨rfl, rfl, rfl, rfl, rfl, rfl⟩⟩
  have hZ : (#[.int .i8 0, .int .i8 0, .int .i8 0, .int .i8 0, .int .i8 0, .int .i8 0] : Array Value) = #[.int .i8 yy0, .int .i8 yy1, .int .i8 yy2, .int .i8 yy3, .int .i8 yy4, .int .i8 yy5] := by obtain ⟨rfl, rfl, rfl, rfl, rfl, rfl⟩ := HZy.out; rfl
  rw [hZ] at HO
  clear hZ HZy
  have HBA := hid HB0.out.1
  have HBB := hid HB0.out.2.1
  have HB := hid HB0.out.2.2
  clear HB0
  go_enter Try.func4, Try.ntmps4
  go_wp2_with fail
  clear hW
  refine Calls.mono (HL.out _) ?_
  rintro e u1_ ⟨rfl, hb⟩
  replace HBA := hid (HBA.out.later hb HBA.out.lt)
  replace HBB := hid (HBB.out.later hb HBB.out.lt)
  replace HB := hid (b2 HB.out hb)
  clear hb
  obtain ⟨cA0, cA1, cA2, cA3, cA4, cA5⟩ := box6 HBA.out (Below.refl _ _)
  go_wp2_with fail
  refine Calls.mono (HP.out _) ?_
  rintro e u2_ ⟨rfl, hb⟩
  clear cA0 cA1 cA2 cA3 cA4 cA5
  replace HBA := hid (HBA.out.later hb HBA.out.lt)
  replace HBB := hid (HBB.out.later hb HBB.out.lt)
  replace HB := hid (b2 HB.out hb)
  clear hb
  have HN := hid (boxes1 u2_ 26 #[.int .i64 p1, .int .i64 p2])
  obtain ⟨u3_, hW⟩ : ∃ z, u2_.alloc (.cells #[.int .i64 p1, .int .i64 p2] 26) = z := ⟨_, rfl⟩
  rw [hW] at HN
  replace HBA := hid (HBA.out.later HN.out.2 HBA.out.lt)
  replace HBB := hid (HBB.out.later HN.out.2 HBB.out.lt)
  replace HB := hid (b2 HB.out HN.out.2)
  have HBP := hid HN.out.1
  clear HN
  obtain ⟨cB0, cB1, cB2, cB3, cB4, cB5⟩ := box6 HBB.out (Below.refl _ _)
  go_wp2_with fail
  clear hW
  refine Calls.mono (HQ.out _) ?_
  rintro e u4_ ⟨rfl, hb⟩
  clear cB0 cB1 cB2 cB3 cB4 cB5
  replace HBA := hid (HBA.out.later hb HBA.out.lt)
  replace HBB := hid (HBB.out.later hb HBB.out.lt)
  replace HBP := hid (HBP.out.later hb HBP.out.lt)
  replace HB := hid (b2 HB.out hb)
  clear hb
  have HN := hid (boxes1 u4_ 26 #[.int .i64 q1, .int .i64 q2])
  obtain ⟨u5_, hW⟩ : ∃ z, u4_.alloc (.cells #[.int .i64 q1, .int .i64 q2] 26) = z := ⟨_, rfl⟩
  rw [hW] at HN
  replace HBA := hid (HBA.out.later HN.out.2 HBA.out.lt)
  replace HBB := hid (HBB.out.later HN.out.2 HBB.out.lt)
  replace HBP := hid (HBP.out.later HN.out.2 HBP.out.lt)
  replace HB := hid (b2 HB.out HN.out.2)
  have HBQ := hid HN.out.1
  clear HN
  obtain ⟨cA0, cA1, cA2, cA3, cA4, cA5⟩ := box6 HBA.out (Below.refl _ _)
  obtain ⟨cB0, cB1, cB2, cB3, cB4, cB5⟩ := box6 HBB.out (Below.refl _ _)
  go_wp2_with fail
  clear hW
  refine Calls.mono (HT.out _) ?_
  rintro e u6_ ⟨rfl, hb⟩
  clear cA0 cA1 cA2 cA3 cA4 cA5 cB0 cB1 cB2 cB3 cB4 cB5
  replace HBA := hid (HBA.out.later hb HBA.out.lt)
  replace HBB := hid (HBB.out.later hb HBB.out.lt)
  replace HBP := hid (HBP.out.later hb HBP.out.lt)
  replace HBQ := hid (HBQ.out.later hb HBQ.out.lt)
  replace HB := hid (b2 HB.out hb)
  clear hb
  have oX : w.heap.size ≤ u6_.heap.size := HB.out.size
  have oXA : w.heap.size < u6_.heap.size := HBA.out.lt
  have oXB : w.heap.size + 1 < u6_.heap.size := HBB.out.lt
  have oXP : u2_.heap.size < u6_.heap.size := HBP.out.lt
  have oXQ : u4_.heap.size < u6_.heap.size := HBQ.out.lt
  have HN := hid (boxes1 u6_ 24 #[.int .i8 xx0, .int .i8 xx1, .int .i8 xx2, .int .i8 xx3, .int .i8 xx4, .int .i8 xx5])
  obtain ⟨u7_, hW⟩ : ∃ z, u6_.alloc (.cells #[.int .i8 xx0, .int .i8 xx1, .int .i8 xx2, .int .i8 xx3, .int .i8 xx4, .int .i8 xx5] 24) = z := ⟨_, rfl⟩
  rw [hW] at HN
  replace HBA := hid (HBA.out.later HN.out.2 HBA.out.lt)
  replace HBB := hid (HBB.out.later HN.out.2 HBB.out.lt)
  replace HBP := hid (HBP.out.later HN.out.2 HBP.out.lt)
  replace HBQ := hid (HBQ.out.later HN.out.2 HBQ.out.lt)
  replace HB := hid (b2 HB.out HN.out.2)
  have HBX := hid HN.out.1
  clear HN
  obtain ⟨cX0, cX1, cX2, cX3, cX4, cX5⟩ := box6 HBX.out (Below.refl _ _)
  go_wp2_with fail
  clear hW
  refine Calls.mono (HR.out _) ?_
  rintro e u8_ ⟨rfl, hb⟩
  clear cX0 cX1 cX2 cX3 cX4 cX5
  replace HBA := hid (HBA.out.later hb HBA.out.lt)
  replace HBB := hid (HBB.out.later hb HBB.out.lt)
  replace HBP := hid (HBP.out.later hb HBP.out.lt)
  replace HBQ := hid (HBQ.out.later hb HBQ.out.lt)
  replace HBX := hid (HBX.out.later hb HBX.out.lt)
  replace HB := hid (b2 HB.out hb)
  clear hb
  have oXR : u6_.heap.size < u8_.heap.size := HBX.out.lt
  have HN := hid (boxes1 u8_ 26 #[.int .i64 r1, .int .i64 r2])
  obtain ⟨u9_, hW⟩ : ∃ z, u8_.alloc (.cells #[.int .i64 r1, .int .i64 r2] 26) = z := ⟨_, rfl⟩
  rw [hW] at HN
  replace HBA := hid (HBA.out.later HN.out.2 HBA.out.lt)
  replace HBB := hid (HBB.out.later HN.out.2 HBB.out.lt)
  replace HBP := hid (HBP.out.later HN.out.2 HBP.out.lt)
  replace HBQ := hid (HBQ.out.later HN.out.2 HBQ.out.lt)
  replace HBX := hid (HBX.out.later HN.out.2 HBX.out.lt)
  replace HB := hid (b2 HB.out HN.out.2)
  have HBR := hid HN.out.1
  clear HN
  obtain ⟨cP0, cP1, fP0, fP1⟩ := fbox_facts HBP.out (Below.refl _ _)
  obtain ⟨cQ0, cQ1, fQ0, fQ1⟩ := fbox_facts HBQ.out (Below.refl _ _)
  go_wp2_with fail
  clear hW
  refine Calls.mono (HA.out _) ?_
  rintro e u10_ ⟨rfl, hb⟩
  clear cP0 cP1 fP0 fP1 cQ0 cQ1 fQ0 fQ1
  replace HBA := hid (HBA.out.later hb HBA.out.lt)
  replace HBB := hid (HBB.out.later hb HBB.out.lt)
  replace HBP := hid (HBP.out.later hb HBP.out.lt)
  replace HBQ := hid (HBQ.out.later hb HBQ.out.lt)
  replace HBX := hid (HBX.out.later hb HBX.out.lt)
  replace HBR := hid (HBR.out.later hb HBR.out.lt)
  replace HB := hid (b2 HB.out hb)
  clear hb
  have oXS : u6_.heap.size < u10_.heap.size := HBX.out.lt
  have HN := hid (boxes1 u10_ 26 #[.int .i64 r1, .int .i64 r2])
  obtain ⟨u11_, hW⟩ : ∃ z, u10_.alloc (.cells #[.int .i64 r1, .int .i64 r2] 26) = z := ⟨_, rfl⟩
  rw [hW] at HN
  replace HBA := hid (HBA.out.later HN.out.2 HBA.out.lt)
  replace HBB := hid (HBB.out.later HN.out.2 HBB.out.lt)
  replace HBP := hid (HBP.out.later HN.out.2 HBP.out.lt)
  replace HBQ := hid (HBQ.out.later HN.out.2 HBQ.out.lt)
  replace HBX := hid (HBX.out.later HN.out.2 HBX.out.lt)
  replace HBR := hid (HBR.out.later HN.out.2 HBR.out.lt)
  replace HB := hid (b2 HB.out HN.out.2)
  have HBS := hid HN.out.1
  clear HN
  obtain ⟨cR0, cR1, fR0, fR1⟩ := fbox_facts HBR.out (Below.refl _ _)
  obtain ⟨cS0, cS1, fS0, fS1⟩ := fbox_facts HBS.out (Below.refl _ _)
  obtain ⟨cA0, cA1, cA2, cA3, cA4, cA5⟩ := box6 HBA.out (Below.refl _ _)
  obtain ⟨cB0, cB1, cB2, cB3, cB4, cB5⟩ := box6 HBB.out (Below.refl _ _)
  go_wp2_with fail
  clear hW
  refine Calls.mono (HO.out _) ?_
  rintro e u12_ ⟨rfl, hb⟩
  clear cR0 cR1 fR0 fR1 cS0 cS1 fS0 fS1 cA0 cA1 cA2 cA3 cA4 cA5 cB0 cB1 cB2 cB3 cB4 cB5
  replace HBA := hid (HBA.out.later hb HBA.out.lt)
  replace HBB := hid (HBB.out.later hb HBB.out.lt)
  replace HBP := hid (HBP.out.later hb HBP.out.lt)
  replace HBQ := hid (HBQ.out.later hb HBQ.out.lt)
  replace HBX := hid (HBX.out.later hb HBX.out.lt)
  replace HBR := hid (HBR.out.later hb HBR.out.lt)
  replace HBS := hid (HBS.out.later hb HBS.out.lt)
  replace HB := hid (b2 HB.out hb)
  clear hb
  have lA := HBA.out.lt
  have lB := HBB.out.lt
  have lP := HBP.out.lt
  have lQ := HBQ.out.lt
  have lX := HBX.out.lt
  have lR := HBR.out.lt
  have lS := HBS.out.lt
  obtain ⟨kX0, kX1, kX2, kX3, kX4, kX5⟩ := box6 HBX.out (Below.refl _ _)
  obtain ⟨fX0, fX1, fX2, fX3, fX4, fX5⟩ := free6 HBX.out (Below.refl _ _)
  have HTA_ := hid (HBA.out.off6 (show w.heap.size ≠ u6_.heap.size by omega) (.int .i8 yy0) (.int .i8 yy1) (.int .i8 yy2) (.int .i8 yy3) (.int .i8 yy4) (.int .i8 yy5))
  have HTB_ := hid (HBB.out.off6 (show w.heap.size + 1 ≠ u6_.heap.size by omega) (.int .i8 yy0) (.int .i8 yy1) (.int .i8 yy2) (.int .i8 yy3) (.int .i8 yy4) (.int .i8 yy5))
  have HTP_ := hid (HBP.out.off6 (show u2_.heap.size ≠ u6_.heap.size by omega) (.int .i8 yy0) (.int .i8 yy1) (.int .i8 yy2) (.int .i8 yy3) (.int .i8 yy4) (.int .i8 yy5))
  have HTQ_ := hid (HBQ.out.off6 (show u4_.heap.size ≠ u6_.heap.size by omega) (.int .i8 yy0) (.int .i8 yy1) (.int .i8 yy2) (.int .i8 yy3) (.int .i8 yy4) (.int .i8 yy5))
  have HTR_ := hid (HBR.out.off6 (show u8_.heap.size ≠ u6_.heap.size by omega) (.int .i8 yy0) (.int .i8 yy1) (.int .i8 yy2) (.int .i8 yy3) (.int .i8 yy4) (.int .i8 yy5))
  have HTS_ := hid (HBS.out.off6 (show u10_.heap.size ≠ u6_.heap.size by omega) (.int .i8 yy0) (.int .i8 yy1) (.int .i8 yy2) (.int .i8 yy3) (.int .i8 yy4) (.int .i8 yy5))
  have HTX_ := hid (HBX.out.put6 (.int .i8 yy0) (.int .i8 yy1) (.int .i8 yy2) (.int .i8 yy3) (.int .i8 yy4) (.int .i8 yy5))
  have HT_ := hid (dput6 HB.out u6_.heap.size (by omega) (.int .i8 yy0) (.int .i8 yy1) (.int .i8 yy2) (.int .i8 yy3) (.int .i8 yy4) (.int .i8 yy5))
  obtain ⟨u13_, hW⟩ : ∃ z, ((((((u12_.setCell ⟨u6_.heap.size, 0, none⟩ (.int .i8 yy0)).setCell ⟨u6_.heap.size, 1, none⟩ (.int .i8 yy1)).setCell ⟨u6_.heap.size, 2, none⟩ (.int .i8 yy2)).setCell ⟨u6_.heap.size, 3, none⟩ (.int .i8 yy3)).setCell ⟨u6_.heap.size, 4, none⟩ (.int .i8 yy4)).setCell ⟨u6_.heap.size, 5, none⟩ (.int .i8 yy5)) = z := ⟨_, rfl⟩
  rw [hW] at HT_ HTA_ HTB_ HTP_ HTQ_ HTX_ HTR_ HTS_
  clear HB HBA HBB HBP HBQ HBX HBR HBS
  have HB := HT_
  have HBA := HTA_
  have HBB := HTB_
  have HBP := HTP_
  have HBQ := HTQ_
  have HBX := HTX_
  have HBR := HTR_
  have HBS := HTS_
  clear HT_ HTA_ HTB_ HTP_ HTQ_ HTX_ HTR_ HTS_
  obtain ⟨cA0, cA1, cA2, cA3, cA4, cA5⟩ := box6 HBA.out (Below.refl _ _)
  go_wp2_with fail
  clear kX0 kX1 kX2 kX3 kX4 kX5 fX0 fX1 fX2 fX3 fX4 fX5 cA0 cA1 cA2 cA3 cA4 cA5
  clear hW
  refine Calls.mono (HC.out _) ?_
  rintro e u14_ ⟨rfl, hb⟩
  replace HBA := hid (HBA.out.later hb HBA.out.lt)
  replace HBB := hid (HBB.out.later hb HBB.out.lt)
  replace HBP := hid (HBP.out.later hb HBP.out.lt)
  replace HBQ := hid (HBQ.out.later hb HBQ.out.lt)
  replace HBX := hid (HBX.out.later hb HBX.out.lt)
  replace HBR := hid (HBR.out.later hb HBR.out.lt)
  replace HBS := hid (HBS.out.later hb HBS.out.lt)
  replace HB := hid (b2 HB.out hb)
  clear hb
  have oXC : u6_.heap.size < u14_.heap.size := HBX.out.lt
  have HN := hid (boxes1 u14_ 24 #[.int .i8 cc0, .int .i8 cc1, .int .i8 cc2, .int .i8 cc3, .int .i8 cc4, .int .i8 cc5])
  obtain ⟨u15_, hW⟩ : ∃ z, u14_.alloc (.cells #[.int .i8 cc0, .int .i8 cc1, .int .i8 cc2, .int .i8 cc3, .int .i8 cc4, .int .i8 cc5] 24) = z := ⟨_, rfl⟩
  rw [hW] at HN
  replace HBA := hid (HBA.out.later HN.out.2 HBA.out.lt)
  replace HBB := hid (HBB.out.later HN.out.2 HBB.out.lt)
  replace HBP := hid (HBP.out.later HN.out.2 HBP.out.lt)
  replace HBQ := hid (HBQ.out.later HN.out.2 HBQ.out.lt)
  replace HBX := hid (HBX.out.later HN.out.2 HBX.out.lt)
  replace HBR := hid (HBR.out.later HN.out.2 HBR.out.lt)
  replace HBS := hid (HBS.out.later HN.out.2 HBS.out.lt)
  replace HB := hid (b2 HB.out HN.out.2)
  have HBC := hid HN.out.1
  clear HN
  obtain ⟨cC0, cC1, cC2, cC3, cC4, cC5⟩ := box6 HBC.out (Below.refl _ _)
  go_wp2_with fail
  clear hW
  refine Calls.mono (HM.out _) ?_
  rintro e u16_ ⟨rfl, hb⟩
  clear cC0 cC1 cC2 cC3 cC4 cC5
  replace HBA := hid (HBA.out.later hb HBA.out.lt)
  replace HBB := hid (HBB.out.later hb HBB.out.lt)
  replace HBP := hid (HBP.out.later hb HBP.out.lt)
  replace HBQ := hid (HBQ.out.later hb HBQ.out.lt)
  replace HBX := hid (HBX.out.later hb HBX.out.lt)
  replace HBR := hid (HBR.out.later hb HBR.out.lt)
  replace HBS := hid (HBS.out.later hb HBS.out.lt)
  replace HBC := hid (HBC.out.later hb HBC.out.lt)
  replace HB := hid (b2 HB.out hb)
  clear hb
  have oXM : u6_.heap.size < u16_.heap.size := HBX.out.lt
  have HN := hid (boxes1 u16_ 26 #[.int .i64 m1, .int .i64 m2])
  obtain ⟨u17_, hW⟩ : ∃ z, u16_.alloc (.cells #[.int .i64 m1, .int .i64 m2] 26) = z := ⟨_, rfl⟩
  rw [hW] at HN
  replace HBA := hid (HBA.out.later HN.out.2 HBA.out.lt)
  replace HBB := hid (HBB.out.later HN.out.2 HBB.out.lt)
  replace HBP := hid (HBP.out.later HN.out.2 HBP.out.lt)
  replace HBQ := hid (HBQ.out.later HN.out.2 HBQ.out.lt)
  replace HBX := hid (HBX.out.later HN.out.2 HBX.out.lt)
  replace HBR := hid (HBR.out.later HN.out.2 HBR.out.lt)
  replace HBS := hid (HBS.out.later HN.out.2 HBS.out.lt)
  replace HBC := hid (HBC.out.later HN.out.2 HBC.out.lt)
  replace HB := hid (b2 HB.out HN.out.2)
  have HBM := hid HN.out.1
  clear HN
  obtain ⟨cP0, cP1, fP0, fP1⟩ := fbox_facts HBP.out (Below.refl _ _)
  go_wp2_with fail
  clear hW
  refine Calls.mono (HN1.out _) ?_
  rintro e u18_ ⟨rfl, hb⟩
  clear cP0 cP1 fP0 fP1
  replace HBA := hid (HBA.out.later hb HBA.out.lt)
  replace HBB := hid (HBB.out.later hb HBB.out.lt)
  replace HBP := hid (HBP.out.later hb HBP.out.lt)
  replace HBQ := hid (HBQ.out.later hb HBQ.out.lt)
  replace HBX := hid (HBX.out.later hb HBX.out.lt)
  replace HBR := hid (HBR.out.later hb HBR.out.lt)
  replace HBS := hid (HBS.out.later hb HBS.out.lt)
  replace HBC := hid (HBC.out.later hb HBC.out.lt)
  replace HBM := hid (HBM.out.later hb HBM.out.lt)
  replace HB := hid (b2 HB.out hb)
  clear hb
  have oXN : u6_.heap.size < u18_.heap.size := HBX.out.lt
  have HN := hid (boxes1 u18_ 26 #[.int .i64 m1, .int .i64 m2])
  obtain ⟨u19_, hW⟩ : ∃ z, u18_.alloc (.cells #[.int .i64 m1, .int .i64 m2] 26) = z := ⟨_, rfl⟩
  rw [hW] at HN
  replace HBA := hid (HBA.out.later HN.out.2 HBA.out.lt)
  replace HBB := hid (HBB.out.later HN.out.2 HBB.out.lt)
  replace HBP := hid (HBP.out.later HN.out.2 HBP.out.lt)
  replace HBQ := hid (HBQ.out.later HN.out.2 HBQ.out.lt)
  replace HBX := hid (HBX.out.later HN.out.2 HBX.out.lt)
  replace HBR := hid (HBR.out.later HN.out.2 HBR.out.lt)
  replace HBS := hid (HBS.out.later HN.out.2 HBS.out.lt)
  replace HBC := hid (HBC.out.later HN.out.2 HBC.out.lt)
  replace HBM := hid (HBM.out.later HN.out.2 HBM.out.lt)
  replace HB := hid (b2 HB.out HN.out.2)
  have HBN := hid HN.out.1
  clear HN
  obtain ⟨cM0, cM1, fM0, fM1⟩ := fbox_facts HBM.out (Below.refl _ _)
  obtain ⟨cN0, cN1, fN0, fN1⟩ := fbox_facts HBN.out (Below.refl _ _)
  by_cases hlt : t < 1048576
  · obtain ⟨x1, x2, HX1, HX2⟩ := HX.out hlt
    have HY1 := hid HX1
    have HY2 := hid HX2
    clear HX1 HX2 HX
    have e1 : IntKind.i64.wrap ((t : Int) + 1) = (t : Int) + 1 := by rw [IntKind.wrap_i64]; omega
    have h1 : (t : Int) < 1048576 := by omega
    clear hlt ht
    generalize (t : Int) = ti at *
    obtain ⟨cA0, cA1, cA2, cA3, cA4, cA5⟩ := box6 HBA.out (Below.refl _ _)
    go_wp2_with fail
    clear hW
    refine Calls.mono (HY1.out _) ?_
    rintro e u20_ ⟨rfl, hb⟩
    clear cM0 cM1 fM0 fM1 cN0 cN1 fN0 fN1 cA0 cA1 cA2 cA3 cA4 cA5
    replace HBA := hid (HBA.out.later hb HBA.out.lt)
    replace HBB := hid (HBB.out.later hb HBB.out.lt)
    replace HBP := hid (HBP.out.later hb HBP.out.lt)
    replace HBQ := hid (HBQ.out.later hb HBQ.out.lt)
    replace HBX := hid (HBX.out.later hb HBX.out.lt)
    replace HBR := hid (HBR.out.later hb HBR.out.lt)
    replace HBS := hid (HBS.out.later hb HBS.out.lt)
    replace HBC := hid (HBC.out.later hb HBC.out.lt)
    replace HBM := hid (HBM.out.later hb HBM.out.lt)
    replace HBN := hid (HBN.out.later hb HBN.out.lt)
    replace HB := hid (b2 HB.out hb)
    clear hb
    have oXY : u6_.heap.size < u20_.heap.size := HBX.out.lt
    have HN := hid (boxes1 u20_ 26 #[.int .i64 x1, .int .i64 x2])
    obtain ⟨u21_, hW⟩ : ∃ z, u20_.alloc (.cells #[.int .i64 x1, .int .i64 x2] 26) = z := ⟨_, rfl⟩
    rw [hW] at HN
    replace HBA := hid (HBA.out.later HN.out.2 HBA.out.lt)
    replace HBB := hid (HBB.out.later HN.out.2 HBB.out.lt)
    replace HBP := hid (HBP.out.later HN.out.2 HBP.out.lt)
    replace HBQ := hid (HBQ.out.later HN.out.2 HBQ.out.lt)
    replace HBX := hid (HBX.out.later HN.out.2 HBX.out.lt)
    replace HBR := hid (HBR.out.later HN.out.2 HBR.out.lt)
    replace HBS := hid (HBS.out.later HN.out.2 HBS.out.lt)
    replace HBC := hid (HBC.out.later HN.out.2 HBC.out.lt)
    replace HBM := hid (HBM.out.later HN.out.2 HBM.out.lt)
    replace HBN := hid (HBN.out.later HN.out.2 HBN.out.lt)
    replace HB := hid (b2 HB.out HN.out.2)
    have HBY := hid HN.out.1
    clear HN
    obtain ⟨cA0, cA1, cA2, cA3, cA4, cA5⟩ := box6 HBA.out (Below.refl _ _)
    go_wp2_with fail
    clear hW
    refine Calls.mono (HV.out _) ?_
    rintro e u22_ ⟨rfl, hb⟩
    clear cA0 cA1 cA2 cA3 cA4 cA5
    replace HBA := hid (HBA.out.later hb HBA.out.lt)
    replace HBB := hid (HBB.out.later hb HBB.out.lt)
    replace HBP := hid (HBP.out.later hb HBP.out.lt)
    replace HBQ := hid (HBQ.out.later hb HBQ.out.lt)
    replace HBX := hid (HBX.out.later hb HBX.out.lt)
    replace HBR := hid (HBR.out.later hb HBR.out.lt)
    replace HBS := hid (HBS.out.later hb HBS.out.lt)
    replace HBC := hid (HBC.out.later hb HBC.out.lt)
    replace HBM := hid (HBM.out.later hb HBM.out.lt)
    replace HBN := hid (HBN.out.later hb HBN.out.lt)
    replace HBY := hid (HBY.out.later hb HBY.out.lt)
    replace HB := hid (b2 HB.out hb)
    clear hb
    have oXV : u6_.heap.size < u22_.heap.size := HBX.out.lt
    have HN := hid (boxes1 u22_ 26 #[.int .i64 v1, .int .i64 v2])
    obtain ⟨u23_, hW⟩ : ∃ z, u22_.alloc (.cells #[.int .i64 v1, .int .i64 v2] 26) = z := ⟨_, rfl⟩
    rw [hW] at HN
    replace HBA := hid (HBA.out.later HN.out.2 HBA.out.lt)
    replace HBB := hid (HBB.out.later HN.out.2 HBB.out.lt)
    replace HBP := hid (HBP.out.later HN.out.2 HBP.out.lt)
    replace HBQ := hid (HBQ.out.later HN.out.2 HBQ.out.lt)
    replace HBX := hid (HBX.out.later HN.out.2 HBX.out.lt)
    replace HBR := hid (HBR.out.later HN.out.2 HBR.out.lt)
    replace HBS := hid (HBS.out.later HN.out.2 HBS.out.lt)
    replace HBC := hid (HBC.out.later HN.out.2 HBC.out.lt)
    replace HBM := hid (HBM.out.later HN.out.2 HBM.out.lt)
    replace HBN := hid (HBN.out.later HN.out.2 HBN.out.lt)
    replace HBY := hid (HBY.out.later HN.out.2 HBY.out.lt)
    replace HB := hid (b2 HB.out HN.out.2)
    have HBV := hid HN.out.1
    clear HN
    obtain ⟨cP0, cP1, fP0, fP1⟩ := fbox_facts HBP.out (Below.refl _ _)
    obtain ⟨cV0, cV1, fV0, fV1⟩ := fbox_facts HBV.out (Below.refl _ _)
    go_wp2_with fail
    clear hW
    refine Calls.mono (HY2.out _) ?_
    rintro e u24_ ⟨rfl, hb⟩
    clear cP0 cP1 fP0 fP1 cV0 cV1 fV0 fV1
    replace HBA := hid (HBA.out.later hb HBA.out.lt)
    replace HBB := hid (HBB.out.later hb HBB.out.lt)
    replace HBP := hid (HBP.out.later hb HBP.out.lt)
    replace HBQ := hid (HBQ.out.later hb HBQ.out.lt)
    replace HBX := hid (HBX.out.later hb HBX.out.lt)
    replace HBR := hid (HBR.out.later hb HBR.out.lt)
    replace HBS := hid (HBS.out.later hb HBS.out.lt)
    replace HBC := hid (HBC.out.later hb HBC.out.lt)
    replace HBM := hid (HBM.out.later hb HBM.out.lt)
    replace HBN := hid (HBN.out.later hb HBN.out.lt)
    replace HBY := hid (HBY.out.later hb HBY.out.lt)
    replace HBV := hid (HBV.out.later hb HBV.out.lt)
    replace HB := hid (b2 HB.out hb)
    clear hb
    have oXZ : u6_.heap.size < u24_.heap.size := HBX.out.lt
    have HN := hid (boxes1 u24_ 26 #[.int .i64 x1, .int .i64 x2])
    obtain ⟨u25_, hW⟩ : ∃ z, u24_.alloc (.cells #[.int .i64 x1, .int .i64 x2] 26) = z := ⟨_, rfl⟩
    rw [hW] at HN
    replace HBA := hid (HBA.out.later HN.out.2 HBA.out.lt)
    replace HBB := hid (HBB.out.later HN.out.2 HBB.out.lt)
    replace HBP := hid (HBP.out.later HN.out.2 HBP.out.lt)
    replace HBQ := hid (HBQ.out.later HN.out.2 HBQ.out.lt)
    replace HBX := hid (HBX.out.later HN.out.2 HBX.out.lt)
    replace HBR := hid (HBR.out.later HN.out.2 HBR.out.lt)
    replace HBS := hid (HBS.out.later HN.out.2 HBS.out.lt)
    replace HBC := hid (HBC.out.later HN.out.2 HBC.out.lt)
    replace HBM := hid (HBM.out.later HN.out.2 HBM.out.lt)
    replace HBN := hid (HBN.out.later HN.out.2 HBN.out.lt)
    replace HBY := hid (HBY.out.later HN.out.2 HBY.out.lt)
    replace HBV := hid (HBV.out.later HN.out.2 HBV.out.lt)
    replace HB := hid (b2 HB.out HN.out.2)
    have HBZ := hid HN.out.1
    clear HN
    obtain ⟨cY0, cY1, fY0, fY1⟩ := fbox_facts HBY.out (Below.refl _ _)
    obtain ⟨cZ0, cZ1, fZ0, fZ1⟩ := fbox_facts HBZ.out (Below.refl _ _)
    go_wp2_with fail
    all_goals first | (go_ret; exact ⟨rfl, HB.out⟩) | (go_ret; exact ⟨rfl, HB.out.drew⟩)
  · have h1 : ¬ (t : Int) < 1048576 := by omega
    clear hlt ht HX
    generalize (t : Int) = ti at *
    go_wp2_with fail
    all_goals first | (go_ret; exact ⟨rfl, HB.out⟩) | (go_ret; exact ⟨rfl, HB.out.drew⟩)

set_option maxHeartbeats 3200000 in
set_option maxRecDepth 100000 in
theorem dogroup_01 (a b : Nat → Int) (t : Nat) (w : World) (ha : dOK a) (hb : dOK b) (ht : t ≤ 1048576) (hT : ¬ dOK (dJ a b 1)) (hO : dOK (dJ a b (-1))) :
    Calls Try.prog 4 #[.agg (doA a), .agg (doA b), .int .i64 (t : Int)] w fun e w' => e = .returned (.bool true) ∧ Below w.heap.size w w' := by
  have HL := hid (fun V => dolives_any V)
  have HP := hid (fun V => dophase_ok a t V ha ht)
  obtain ⟨p1, p2, ep, op, _⟩ := circ_told (dU a t)
  rw [ep, show tV (p1, p2, 0) = Value.tuple #[.agg #[.int .i64 p1, .int .i64 p2], .int .i64 0] from rfl] at HP
  have HQ := hid (fun V => dophase_ok b t V hb ht)
  obtain ⟨q1, q2, eq, oq, _⟩ := circ_told (dU b t)
  rw [eq, show tV (q1, q2, 0) = Value.tuple #[.agg #[.int .i64 q1, .int .i64 q2], .int .i64 0] from rfl] at HQ
  have HT := hid (fun V => dotimes_any a b V)
  have HO := hid (fun V => doover_any a b V)
  rw [dJR_no (fun h => hT h.2.2)] at HT
  rw [dJR_ok ⟨ha, hb, hO⟩] at HO
  have HG := hid (fun V => dophase_ok (dJ a b (-1)) t V hO ht)
  obtain ⟨g1, g2, eg, og, _⟩ := circ_told (dU (dJ a b (-1)) t)
  rw [eg, show tV (g1, g2, 0) = Value.tuple #[.agg #[.int .i64 g1, .int .i64 g2], .int .i64 0] from rfl] at HG
  have HS := hid (fun V => tsub_any p1 p2 q1 q2 V (dok_in op) (dok_in oq))
  rw [sub_circ ep eq, ← dJ_less, eg, show tV (g1, g2, 0) = Value.tuple #[.agg #[.int .i64 g1, .int .i64 g2], .int .i64 0] from rfl] at HS
  have HC := hid (fun V => doconj_any a V)
  rw [dJR_ok ⟨fun _ _ => ⟨by decide, by decide⟩, ha, dJ_back_ok ha⟩] at HC
  have HM := hid (fun V => dophase_ok (dJ (fun _ => 0) a (-1)) t V (dJ_back_ok ha) ht)
  obtain ⟨m1, m2, em, om, _⟩ := circ_told (dU (dJ (fun _ => 0) a (-1)) t)
  rw [em, show tV (m1, m2, 0) = Value.tuple #[.agg #[.int .i64 m1, .int .i64 m2], .int .i64 0] from rfl] at HM
  have HN1 := hid (fun V => tneg_any p1 p2 V (dok_in op))
  rw [neg_circ ep, ← dJ_back, em, show tV (m1, m2, 0) = Value.tuple #[.agg #[.int .i64 m1, .int .i64 m2], .int .i64 0] from rfl] at HN1
  have HV := hid (fun V => dospeed_ok a V ha)
  obtain ⟨v1, v2, ev, ov, _⟩ := circ_told (dV a)
  rw [ev, show tV (v1, v2, 0) = Value.tuple #[.agg #[.int .i64 v1, .int .i64 v2], .int .i64 0] from rfl] at HV
  have HX : Hid (t < 1048576 → ∃ x1 x2 : Int, (∀ V, Calls Try.prog 7 #[.agg (doA a), .int .i64 ((t : Int) + 1)] V fun e w' => e = .returned (.tuple #[.agg #[.int .i64 x1, .int .i64 x2], .int .i64 0]) ∧ Below V.heap.size V w') ∧ (∀ V, Calls Try.prog 24 #[.agg #[.int .i64 p1, .int .i64 p2], .agg #[.int .i64 v1, .int .i64 v2]] V fun e w' => e = .returned (.tuple #[.agg #[.int .i64 x1, .int .i64 x2], .int .i64 0]) ∧ Below V.heap.size V w')) := fun hlt => by
    obtain ⟨x1, x2, ex, ox, _⟩ := circ_told (dU a (t + 1))
    refine ⟨x1, x2, fun V => ?_, fun V => ?_⟩
    · have e := dophase_ok a (t + 1) V ha hlt
      rw [ex, show tV (x1, x2, 0) = Value.tuple #[.agg #[.int .i64 x1, .int .i64 x2], .int .i64 0] from rfl] at e
      exact e
    · have e := tadd_any p1 p2 v1 v2 V (dok_in op) (dok_in ov)
      rw [add_circ ep ev, ← dU_next, ex, show tV (x1, x2, 0) = Value.tuple #[.agg #[.int .i64 x1, .int .i64 x2], .int .i64 0] from rfl] at e
      exact e
  clear ep op eq oq ev ov em om ha hb hT hO
  clear eg og
  have HB0 := hid (dboxes2 w 24 24 (doA a) (doA b))
  obtain ⟨X, hW⟩ : ∃ X, (w.alloc (.cells (doA a) 24)).alloc (.cells (doA b) 24) = X := ⟨_, rfl⟩
  rw [hW] at HB0
  unfold doA at *
  generalize a 0 = aa0 at *
  generalize a 1 = aa1 at *
  generalize a 2 = aa2 at *
  generalize a 3 = aa3 at *
  generalize a 4 = aa4 at *
  generalize a 5 = aa5 at *
  generalize b 0 = bb0 at *
  generalize b 1 = bb1 at *
  generalize b 2 = bb2 at *
  generalize b 3 = bb3 at *
  generalize b 4 = bb4 at *
  generalize b 5 = bb5 at *
  generalize dJ a b (-1) 0 = yy0 at *
  generalize dJ a b (-1) 1 = yy1 at *
  generalize dJ a b (-1) 2 = yy2 at *
  generalize dJ a b (-1) 3 = yy3 at *
  generalize dJ a b (-1) 4 = yy4 at *
  generalize dJ a b (-1) 5 = yy5 at *
  generalize dJ (fun _ => 0) a (-1) 0 = cc0 at *
  generalize dJ (fun _ => 0) a (-1) 1 = cc1 at *
  generalize dJ (fun _ => 0) a (-1) 2 = cc2 at *
  generalize dJ (fun _ => 0) a (-1) 3 = cc3 at *
  generalize dJ (fun _ => 0) a (-1) 4 = cc4 at *
  generalize dJ (fun _ => 0) a (-1) 5 = cc5 at *
  obtain ⟨xx0, xx1, xx2, xx3, xx4, xx5, HZx⟩ : ∃ xx0 xx1 xx2 xx3 xx4 xx5 : Int, Hid (xx0 = 0 ∧ xx1 = 0 ∧ xx2 = 0 ∧ xx3 = 0 ∧ xx4 = 0 ∧ xx5 = 0) := ⟨_, _, _, _, _, _, ⟨rfl, rfl, rfl, rfl, rfl, rfl⟩⟩
  have hZ : (#[.int .i8 0, .int .i8 0, .int .i8 0, .int .i8 0, .int .i8 0, .int .i8 0] : Array Value) = #[.int .i8 xx0, .int .i8 xx1, .int .i8 xx2, .int .i8 xx3, .int .i8 xx4, .int .i8 xx5] := by obtain ⟨rfl, rfl, rfl, rfl, rfl, rfl⟩ := HZx.out; rfl
  rw [hZ] at HT
  clear hZ HZx
  have HBA := hid HB0.out.1
  have HBB := hid HB0.out.2.1
  have HB := hid HB0.out.2.2
  clear HB0
  go_enter Try.func4, Try.ntmps4
  go_wp2_with fail
  clear hW
  refine Calls.mono (HL.out _) ?_
  rintro e u1_ ⟨rfl, hb⟩
  replace HBA := hid (HBA.out.later hb HBA.out.lt)
  replace HBB := hid (HBB.out.later hb HBB.out.lt)
  replace HB := hid (b2 HB.out hb)
  clear hb
  obtain ⟨cA0, cA1, cA2, cA3, cA4, cA5⟩ := box6 HBA.out (Below.refl _ _)
  go_wp2_with fail
  refine Calls.mono (HP.out _) ?_
  rintro e u2_ ⟨rfl, hb⟩
  clear cA0 cA1 cA2 cA3 cA4 cA5
  replace HBA := hid (HBA.out.later hb HBA.out.lt)
  replace HBB := hid (HBB.out.later hb HBB.out.lt)
  replace HB := hid (b2 HB.out hb)
  clear hb
  have HN := hid (boxes1 u2_ 26 #[.int .i64 p1, .int .i64 p2])
  obtain ⟨u3_, hW⟩ : ∃ z, u2_.alloc (.cells #[.int .i64 p1, .int .i64 p2] 26) = z := ⟨_, rfl⟩
  rw [hW] at HN
  replace HBA := hid (HBA.out.later HN.out.2 HBA.out.lt)
  replace HBB := hid (HBB.out.later HN.out.2 HBB.out.lt)
  replace HB := hid (b2 HB.out HN.out.2)
  have HBP := hid HN.out.1
  clear HN
  obtain ⟨cB0, cB1, cB2, cB3, cB4, cB5⟩ := box6 HBB.out (Below.refl _ _)
  go_wp2_with fail
  clear hW
  refine Calls.mono (HQ.out _) ?_
  rintro e u4_ ⟨rfl, hb⟩
  clear cB0 cB1 cB2 cB3 cB4 cB5
  replace HBA := hid (HBA.out.later hb HBA.out.lt)
  replace HBB := hid (HBB.out.later hb HBB.out.lt)
  replace HBP := hid (HBP.out.later hb HBP.out.lt)
  replace HB := hid (b2 HB.out hb)
  clear hb
  have HN := hid (boxes1 u4_ 26 #[.int .i64 q1, .int .i64 q2])
  obtain ⟨u5_, hW⟩ : ∃ z, u4_.alloc (.cells #[.int .i64 q1, .int .i64 q2] 26) = z := ⟨_, rfl⟩
  rw [hW] at HN
  replace HBA := hid (HBA.out.later HN.out.2 HBA.out.lt)
  replace HBB := hid (HBB.out.later HN.out.2 HBB.out.lt)
  replace HBP := hid (HBP.out.later HN.out.2 HBP.out.lt)
  replace HB := hid (b2 HB.out HN.out.2)
  have HBQ := hid HN.out.1
  clear HN
  obtain ⟨cA0, cA1, cA2, cA3, cA4, cA5⟩ := box6 HBA.out (Below.refl _ _)
  obtain ⟨cB0, cB1, cB2, cB3, cB4, cB5⟩ := box6 HBB.out (Below.refl _ _)
  go_wp2_with fail
  clear hW
  refine Calls.mono (HT.out _) ?_
  rintro e u6_ ⟨rfl, hb⟩
  clear cA0 cA1 cA2 cA3 cA4 cA5 cB0 cB1 cB2 cB3 cB4 cB5
  replace HBA := hid (HBA.out.later hb HBA.out.lt)
  replace HBB := hid (HBB.out.later hb HBB.out.lt)
  replace HBP := hid (HBP.out.later hb HBP.out.lt)
  replace HBQ := hid (HBQ.out.later hb HBQ.out.lt)
  replace HB := hid (b2 HB.out hb)
  clear hb
  have oX : w.heap.size ≤ u6_.heap.size := HB.out.size
  have oXA : w.heap.size < u6_.heap.size := HBA.out.lt
  have oXB : w.heap.size + 1 < u6_.heap.size := HBB.out.lt
  have oXP : u2_.heap.size < u6_.heap.size := HBP.out.lt
  have oXQ : u4_.heap.size < u6_.heap.size := HBQ.out.lt
  have HN := hid (boxes1 u6_ 24 #[.int .i8 xx0, .int .i8 xx1, .int .i8 xx2, .int .i8 xx3, .int .i8 xx4, .int .i8 xx5])
  obtain ⟨u7_, hW⟩ : ∃ z, u6_.alloc (.cells #[.int .i8 xx0, .int .i8 xx1, .int .i8 xx2, .int .i8 xx3, .int .i8 xx4, .int .i8 xx5] 24) = z := ⟨_, rfl⟩
  rw [hW] at HN
  replace HBA := hid (HBA.out.later HN.out.2 HBA.out.lt)
  replace HBB := hid (HBB.out.later HN.out.2 HBB.out.lt)
  replace HBP := hid (HBP.out.later HN.out.2 HBP.out.lt)
  replace HBQ := hid (HBQ.out.later HN.out.2 HBQ.out.lt)
  replace HB := hid (b2 HB.out HN.out.2)
  have HBX := hid HN.out.1
  clear HN
  obtain ⟨cA0, cA1, cA2, cA3, cA4, cA5⟩ := box6 HBA.out (Below.refl _ _)
  obtain ⟨cB0, cB1, cB2, cB3, cB4, cB5⟩ := box6 HBB.out (Below.refl _ _)
  go_wp2_with fail
  clear hW
  refine Calls.mono (HO.out _) ?_
  rintro e u8_ ⟨rfl, hb⟩
  clear cA0 cA1 cA2 cA3 cA4 cA5 cB0 cB1 cB2 cB3 cB4 cB5
  replace HBA := hid (HBA.out.later hb HBA.out.lt)
  replace HBB := hid (HBB.out.later hb HBB.out.lt)
  replace HBP := hid (HBP.out.later hb HBP.out.lt)
  replace HBQ := hid (HBQ.out.later hb HBQ.out.lt)
  replace HBX := hid (HBX.out.later hb HBX.out.lt)
  replace HB := hid (b2 HB.out hb)
  clear hb
  have lA := HBA.out.lt
  have lB := HBB.out.lt
  have lP := HBP.out.lt
  have lQ := HBQ.out.lt
  have lX := HBX.out.lt
  obtain ⟨kX0, kX1, kX2, kX3, kX4, kX5⟩ := box6 HBX.out (Below.refl _ _)
  obtain ⟨fX0, fX1, fX2, fX3, fX4, fX5⟩ := free6 HBX.out (Below.refl _ _)
  have HTA_ := hid (HBA.out.off6 (show w.heap.size ≠ u6_.heap.size by omega) (.int .i8 yy0) (.int .i8 yy1) (.int .i8 yy2) (.int .i8 yy3) (.int .i8 yy4) (.int .i8 yy5))
  have HTB_ := hid (HBB.out.off6 (show w.heap.size + 1 ≠ u6_.heap.size by omega) (.int .i8 yy0) (.int .i8 yy1) (.int .i8 yy2) (.int .i8 yy3) (.int .i8 yy4) (.int .i8 yy5))
  have HTP_ := hid (HBP.out.off6 (show u2_.heap.size ≠ u6_.heap.size by omega) (.int .i8 yy0) (.int .i8 yy1) (.int .i8 yy2) (.int .i8 yy3) (.int .i8 yy4) (.int .i8 yy5))
  have HTQ_ := hid (HBQ.out.off6 (show u4_.heap.size ≠ u6_.heap.size by omega) (.int .i8 yy0) (.int .i8 yy1) (.int .i8 yy2) (.int .i8 yy3) (.int .i8 yy4) (.int .i8 yy5))
  have HTX_ := hid (HBX.out.put6 (.int .i8 yy0) (.int .i8 yy1) (.int .i8 yy2) (.int .i8 yy3) (.int .i8 yy4) (.int .i8 yy5))
  have HT_ := hid (dput6 HB.out u6_.heap.size (by omega) (.int .i8 yy0) (.int .i8 yy1) (.int .i8 yy2) (.int .i8 yy3) (.int .i8 yy4) (.int .i8 yy5))
  obtain ⟨u9_, hW⟩ : ∃ z, ((((((u8_.setCell ⟨u6_.heap.size, 0, none⟩ (.int .i8 yy0)).setCell ⟨u6_.heap.size, 1, none⟩ (.int .i8 yy1)).setCell ⟨u6_.heap.size, 2, none⟩ (.int .i8 yy2)).setCell ⟨u6_.heap.size, 3, none⟩ (.int .i8 yy3)).setCell ⟨u6_.heap.size, 4, none⟩ (.int .i8 yy4)).setCell ⟨u6_.heap.size, 5, none⟩ (.int .i8 yy5)) = z := ⟨_, rfl⟩
  rw [hW] at HT_ HTA_ HTB_ HTP_ HTQ_ HTX_
  clear HB HBA HBB HBP HBQ HBX
  have HB := HT_
  have HBA := HTA_
  have HBB := HTB_
  have HBP := HTP_
  have HBQ := HTQ_
  have HBX := HTX_
  clear HT_ HTA_ HTB_ HTP_ HTQ_ HTX_
  obtain ⟨cX0, cX1, cX2, cX3, cX4, cX5⟩ := box6 HBX.out (Below.refl _ _)
  go_wp2_with fail
  clear kX0 kX1 kX2 kX3 kX4 kX5 fX0 fX1 fX2 fX3 fX4 fX5 cX0 cX1 cX2 cX3 cX4 cX5
  clear hW
  refine Calls.mono (HG.out _) ?_
  rintro e u10_ ⟨rfl, hb⟩
  replace HBA := hid (HBA.out.later hb HBA.out.lt)
  replace HBB := hid (HBB.out.later hb HBB.out.lt)
  replace HBP := hid (HBP.out.later hb HBP.out.lt)
  replace HBQ := hid (HBQ.out.later hb HBQ.out.lt)
  replace HBX := hid (HBX.out.later hb HBX.out.lt)
  replace HB := hid (b2 HB.out hb)
  clear hb
  have oXG : u6_.heap.size < u10_.heap.size := HBX.out.lt
  have HN := hid (boxes1 u10_ 26 #[.int .i64 g1, .int .i64 g2])
  obtain ⟨u11_, hW⟩ : ∃ z, u10_.alloc (.cells #[.int .i64 g1, .int .i64 g2] 26) = z := ⟨_, rfl⟩
  rw [hW] at HN
  replace HBA := hid (HBA.out.later HN.out.2 HBA.out.lt)
  replace HBB := hid (HBB.out.later HN.out.2 HBB.out.lt)
  replace HBP := hid (HBP.out.later HN.out.2 HBP.out.lt)
  replace HBQ := hid (HBQ.out.later HN.out.2 HBQ.out.lt)
  replace HBX := hid (HBX.out.later HN.out.2 HBX.out.lt)
  replace HB := hid (b2 HB.out HN.out.2)
  have HBG := hid HN.out.1
  clear HN
  obtain ⟨cP0, cP1, fP0, fP1⟩ := fbox_facts HBP.out (Below.refl _ _)
  obtain ⟨cQ0, cQ1, fQ0, fQ1⟩ := fbox_facts HBQ.out (Below.refl _ _)
  go_wp2_with fail
  clear hW
  refine Calls.mono (HS.out _) ?_
  rintro e u12_ ⟨rfl, hb⟩
  clear cP0 cP1 fP0 fP1 cQ0 cQ1 fQ0 fQ1
  replace HBA := hid (HBA.out.later hb HBA.out.lt)
  replace HBB := hid (HBB.out.later hb HBB.out.lt)
  replace HBP := hid (HBP.out.later hb HBP.out.lt)
  replace HBQ := hid (HBQ.out.later hb HBQ.out.lt)
  replace HBX := hid (HBX.out.later hb HBX.out.lt)
  replace HBG := hid (HBG.out.later hb HBG.out.lt)
  replace HB := hid (b2 HB.out hb)
  clear hb
  have oXH : u6_.heap.size < u12_.heap.size := HBX.out.lt
  have HN := hid (boxes1 u12_ 26 #[.int .i64 g1, .int .i64 g2])
  obtain ⟨u13_, hW⟩ : ∃ z, u12_.alloc (.cells #[.int .i64 g1, .int .i64 g2] 26) = z := ⟨_, rfl⟩
  rw [hW] at HN
  replace HBA := hid (HBA.out.later HN.out.2 HBA.out.lt)
  replace HBB := hid (HBB.out.later HN.out.2 HBB.out.lt)
  replace HBP := hid (HBP.out.later HN.out.2 HBP.out.lt)
  replace HBQ := hid (HBQ.out.later HN.out.2 HBQ.out.lt)
  replace HBX := hid (HBX.out.later HN.out.2 HBX.out.lt)
  replace HBG := hid (HBG.out.later HN.out.2 HBG.out.lt)
  replace HB := hid (b2 HB.out HN.out.2)
  have HBH := hid HN.out.1
  clear HN
  obtain ⟨cG0, cG1, fG0, fG1⟩ := fbox_facts HBG.out (Below.refl _ _)
  obtain ⟨cH0, cH1, fH0, fH1⟩ := fbox_facts HBH.out (Below.refl _ _)
  obtain ⟨cA0, cA1, cA2, cA3, cA4, cA5⟩ := box6 HBA.out (Below.refl _ _)
  go_wp2_with fail
  clear hW
  refine Calls.mono (HC.out _) ?_
  rintro e u14_ ⟨rfl, hb⟩
  clear cG0 cG1 fG0 fG1 cH0 cH1 fH0 fH1 cA0 cA1 cA2 cA3 cA4 cA5
  replace HBA := hid (HBA.out.later hb HBA.out.lt)
  replace HBB := hid (HBB.out.later hb HBB.out.lt)
  replace HBP := hid (HBP.out.later hb HBP.out.lt)
  replace HBQ := hid (HBQ.out.later hb HBQ.out.lt)
  replace HBX := hid (HBX.out.later hb HBX.out.lt)
  replace HBG := hid (HBG.out.later hb HBG.out.lt)
  replace HBH := hid (HBH.out.later hb HBH.out.lt)
  replace HB := hid (b2 HB.out hb)
  clear hb
  have oXC : u6_.heap.size < u14_.heap.size := HBX.out.lt
  have HN := hid (boxes1 u14_ 24 #[.int .i8 cc0, .int .i8 cc1, .int .i8 cc2, .int .i8 cc3, .int .i8 cc4, .int .i8 cc5])
  obtain ⟨u15_, hW⟩ : ∃ z, u14_.alloc (.cells #[.int .i8 cc0, .int .i8 cc1, .int .i8 cc2, .int .i8 cc3, .int .i8 cc4, .int .i8 cc5] 24) = z := ⟨_, rfl⟩
  rw [hW] at HN
  replace HBA := hid (HBA.out.later HN.out.2 HBA.out.lt)
  replace HBB := hid (HBB.out.later HN.out.2 HBB.out.lt)
  replace HBP := hid (HBP.out.later HN.out.2 HBP.out.lt)
  replace HBQ := hid (HBQ.out.later HN.out.2 HBQ.out.lt)
  replace HBX := hid (HBX.out.later HN.out.2 HBX.out.lt)
  replace HBG := hid (HBG.out.later HN.out.2 HBG.out.lt)
  replace HBH := hid (HBH.out.later HN.out.2 HBH.out.lt)
  replace HB := hid (b2 HB.out HN.out.2)
  have HBC := hid HN.out.1
  clear HN
  obtain ⟨cC0, cC1, cC2, cC3, cC4, cC5⟩ := box6 HBC.out (Below.refl _ _)
  go_wp2_with fail
  clear hW
  refine Calls.mono (HM.out _) ?_
  rintro e u16_ ⟨rfl, hb⟩
  clear cC0 cC1 cC2 cC3 cC4 cC5
  replace HBA := hid (HBA.out.later hb HBA.out.lt)
  replace HBB := hid (HBB.out.later hb HBB.out.lt)
  replace HBP := hid (HBP.out.later hb HBP.out.lt)
  replace HBQ := hid (HBQ.out.later hb HBQ.out.lt)
  replace HBX := hid (HBX.out.later hb HBX.out.lt)
  replace HBG := hid (HBG.out.later hb HBG.out.lt)
  replace HBH := hid (HBH.out.later hb HBH.out.lt)
  replace HBC := hid (HBC.out.later hb HBC.out.lt)
  replace HB := hid (b2 HB.out hb)
  clear hb
  have oXM : u6_.heap.size < u16_.heap.size := HBX.out.lt
  have HN := hid (boxes1 u16_ 26 #[.int .i64 m1, .int .i64 m2])
  obtain ⟨u17_, hW⟩ : ∃ z, u16_.alloc (.cells #[.int .i64 m1, .int .i64 m2] 26) = z := ⟨_, rfl⟩
  rw [hW] at HN
  replace HBA := hid (HBA.out.later HN.out.2 HBA.out.lt)
  replace HBB := hid (HBB.out.later HN.out.2 HBB.out.lt)
  replace HBP := hid (HBP.out.later HN.out.2 HBP.out.lt)
  replace HBQ := hid (HBQ.out.later HN.out.2 HBQ.out.lt)
  replace HBX := hid (HBX.out.later HN.out.2 HBX.out.lt)
  replace HBG := hid (HBG.out.later HN.out.2 HBG.out.lt)
  replace HBH := hid (HBH.out.later HN.out.2 HBH.out.lt)
  replace HBC := hid (HBC.out.later HN.out.2 HBC.out.lt)
  replace HB := hid (b2 HB.out HN.out.2)
  have HBM := hid HN.out.1
  clear HN
  obtain ⟨cP0, cP1, fP0, fP1⟩ := fbox_facts HBP.out (Below.refl _ _)
  go_wp2_with fail
  clear hW
  refine Calls.mono (HN1.out _) ?_
  rintro e u18_ ⟨rfl, hb⟩
  clear cP0 cP1 fP0 fP1
  replace HBA := hid (HBA.out.later hb HBA.out.lt)
  replace HBB := hid (HBB.out.later hb HBB.out.lt)
  replace HBP := hid (HBP.out.later hb HBP.out.lt)
  replace HBQ := hid (HBQ.out.later hb HBQ.out.lt)
  replace HBX := hid (HBX.out.later hb HBX.out.lt)
  replace HBG := hid (HBG.out.later hb HBG.out.lt)
  replace HBH := hid (HBH.out.later hb HBH.out.lt)
  replace HBC := hid (HBC.out.later hb HBC.out.lt)
  replace HBM := hid (HBM.out.later hb HBM.out.lt)
  replace HB := hid (b2 HB.out hb)
  clear hb
  have oXN : u6_.heap.size < u18_.heap.size := HBX.out.lt
  have HN := hid (boxes1 u18_ 26 #[.int .i64 m1, .int .i64 m2])
  obtain ⟨u19_, hW⟩ : ∃ z, u18_.alloc (.cells #[.int .i64 m1, .int .i64 m2] 26) = z := ⟨_, rfl⟩
  rw [hW] at HN
  replace HBA := hid (HBA.out.later HN.out.2 HBA.out.lt)
  replace HBB := hid (HBB.out.later HN.out.2 HBB.out.lt)
  replace HBP := hid (HBP.out.later HN.out.2 HBP.out.lt)
  replace HBQ := hid (HBQ.out.later HN.out.2 HBQ.out.lt)
  replace HBX := hid (HBX.out.later HN.out.2 HBX.out.lt)
  replace HBG := hid (HBG.out.later HN.out.2 HBG.out.lt)
  replace HBH := hid (HBH.out.later HN.out.2 HBH.out.lt)
  replace HBC := hid (HBC.out.later HN.out.2 HBC.out.lt)
  replace HBM := hid (HBM.out.later HN.out.2 HBM.out.lt)
  replace HB := hid (b2 HB.out HN.out.2)
  have HBN := hid HN.out.1
  clear HN
  obtain ⟨cM0, cM1, fM0, fM1⟩ := fbox_facts HBM.out (Below.refl _ _)
  obtain ⟨cN0, cN1, fN0, fN1⟩ := fbox_facts HBN.out (Below.refl _ _)
  by_cases hlt : t < 1048576
  · obtain ⟨x1, x2, HX1, HX2⟩ := HX.out hlt
    have HY1 := hid HX1
    have HY2 := hid HX2
    clear HX1 HX2 HX
    have e1 : IntKind.i64.wrap ((t : Int) + 1) = (t : Int) + 1 := by rw [IntKind.wrap_i64]; omega
    have h1 : (t : Int) < 1048576 := by omega
    clear hlt ht
    generalize (t : Int) = ti at *
    obtain ⟨cA0, cA1, cA2, cA3, cA4, cA5⟩ := box6 HBA.out (Below.refl _ _)
    go_wp2_with fail
    clear hW
    refine Calls.mono (HY1.out _) ?_
    rintro e u20_ ⟨rfl, hb⟩
    clear cM0 cM1 fM0 fM1 cN0 cN1 fN0 fN1 cA0 cA1 cA2 cA3 cA4 cA5
    replace HBA := hid (HBA.out.later hb HBA.out.lt)
    replace HBB := hid (HBB.out.later hb HBB.out.lt)
    replace HBP := hid (HBP.out.later hb HBP.out.lt)
    replace HBQ := hid (HBQ.out.later hb HBQ.out.lt)
    replace HBX := hid (HBX.out.later hb HBX.out.lt)
    replace HBG := hid (HBG.out.later hb HBG.out.lt)
    replace HBH := hid (HBH.out.later hb HBH.out.lt)
    replace HBC := hid (HBC.out.later hb HBC.out.lt)
    replace HBM := hid (HBM.out.later hb HBM.out.lt)
    replace HBN := hid (HBN.out.later hb HBN.out.lt)
    replace HB := hid (b2 HB.out hb)
    clear hb
    have oXY : u6_.heap.size < u20_.heap.size := HBX.out.lt
    have HN := hid (boxes1 u20_ 26 #[.int .i64 x1, .int .i64 x2])
    obtain ⟨u21_, hW⟩ : ∃ z, u20_.alloc (.cells #[.int .i64 x1, .int .i64 x2] 26) = z := ⟨_, rfl⟩
    rw [hW] at HN
    replace HBA := hid (HBA.out.later HN.out.2 HBA.out.lt)
    replace HBB := hid (HBB.out.later HN.out.2 HBB.out.lt)
    replace HBP := hid (HBP.out.later HN.out.2 HBP.out.lt)
    replace HBQ := hid (HBQ.out.later HN.out.2 HBQ.out.lt)
    replace HBX := hid (HBX.out.later HN.out.2 HBX.out.lt)
    replace HBG := hid (HBG.out.later HN.out.2 HBG.out.lt)
    replace HBH := hid (HBH.out.later HN.out.2 HBH.out.lt)
    replace HBC := hid (HBC.out.later HN.out.2 HBC.out.lt)
    replace HBM := hid (HBM.out.later HN.out.2 HBM.out.lt)
    replace HBN := hid (HBN.out.later HN.out.2 HBN.out.lt)
    replace HB := hid (b2 HB.out HN.out.2)
    have HBY := hid HN.out.1
    clear HN
    obtain ⟨cA0, cA1, cA2, cA3, cA4, cA5⟩ := box6 HBA.out (Below.refl _ _)
    go_wp2_with fail
    clear hW
    refine Calls.mono (HV.out _) ?_
    rintro e u22_ ⟨rfl, hb⟩
    clear cA0 cA1 cA2 cA3 cA4 cA5
    replace HBA := hid (HBA.out.later hb HBA.out.lt)
    replace HBB := hid (HBB.out.later hb HBB.out.lt)
    replace HBP := hid (HBP.out.later hb HBP.out.lt)
    replace HBQ := hid (HBQ.out.later hb HBQ.out.lt)
    replace HBX := hid (HBX.out.later hb HBX.out.lt)
    replace HBG := hid (HBG.out.later hb HBG.out.lt)
    replace HBH := hid (HBH.out.later hb HBH.out.lt)
    replace HBC := hid (HBC.out.later hb HBC.out.lt)
    replace HBM := hid (HBM.out.later hb HBM.out.lt)
    replace HBN := hid (HBN.out.later hb HBN.out.lt)
    replace HBY := hid (HBY.out.later hb HBY.out.lt)
    replace HB := hid (b2 HB.out hb)
    clear hb
    have oXV : u6_.heap.size < u22_.heap.size := HBX.out.lt
    have HN := hid (boxes1 u22_ 26 #[.int .i64 v1, .int .i64 v2])
    obtain ⟨u23_, hW⟩ : ∃ z, u22_.alloc (.cells #[.int .i64 v1, .int .i64 v2] 26) = z := ⟨_, rfl⟩
    rw [hW] at HN
    replace HBA := hid (HBA.out.later HN.out.2 HBA.out.lt)
    replace HBB := hid (HBB.out.later HN.out.2 HBB.out.lt)
    replace HBP := hid (HBP.out.later HN.out.2 HBP.out.lt)
    replace HBQ := hid (HBQ.out.later HN.out.2 HBQ.out.lt)
    replace HBX := hid (HBX.out.later HN.out.2 HBX.out.lt)
    replace HBG := hid (HBG.out.later HN.out.2 HBG.out.lt)
    replace HBH := hid (HBH.out.later HN.out.2 HBH.out.lt)
    replace HBC := hid (HBC.out.later HN.out.2 HBC.out.lt)
    replace HBM := hid (HBM.out.later HN.out.2 HBM.out.lt)
    replace HBN := hid (HBN.out.later HN.out.2 HBN.out.lt)
    replace HBY := hid (HBY.out.later HN.out.2 HBY.out.lt)
    replace HB := hid (b2 HB.out HN.out.2)
    have HBV := hid HN.out.1
    clear HN
    obtain ⟨cP0, cP1, fP0, fP1⟩ := fbox_facts HBP.out (Below.refl _ _)
    obtain ⟨cV0, cV1, fV0, fV1⟩ := fbox_facts HBV.out (Below.refl _ _)
    go_wp2_with fail
    clear hW
    refine Calls.mono (HY2.out _) ?_
    rintro e u24_ ⟨rfl, hb⟩
    clear cP0 cP1 fP0 fP1 cV0 cV1 fV0 fV1
    replace HBA := hid (HBA.out.later hb HBA.out.lt)
    replace HBB := hid (HBB.out.later hb HBB.out.lt)
    replace HBP := hid (HBP.out.later hb HBP.out.lt)
    replace HBQ := hid (HBQ.out.later hb HBQ.out.lt)
    replace HBX := hid (HBX.out.later hb HBX.out.lt)
    replace HBG := hid (HBG.out.later hb HBG.out.lt)
    replace HBH := hid (HBH.out.later hb HBH.out.lt)
    replace HBC := hid (HBC.out.later hb HBC.out.lt)
    replace HBM := hid (HBM.out.later hb HBM.out.lt)
    replace HBN := hid (HBN.out.later hb HBN.out.lt)
    replace HBY := hid (HBY.out.later hb HBY.out.lt)
    replace HBV := hid (HBV.out.later hb HBV.out.lt)
    replace HB := hid (b2 HB.out hb)
    clear hb
    have oXZ : u6_.heap.size < u24_.heap.size := HBX.out.lt
    have HN := hid (boxes1 u24_ 26 #[.int .i64 x1, .int .i64 x2])
    obtain ⟨u25_, hW⟩ : ∃ z, u24_.alloc (.cells #[.int .i64 x1, .int .i64 x2] 26) = z := ⟨_, rfl⟩
    rw [hW] at HN
    replace HBA := hid (HBA.out.later HN.out.2 HBA.out.lt)
    replace HBB := hid (HBB.out.later HN.out.2 HBB.out.lt)
    replace HBP := hid (HBP.out.later HN.out.2 HBP.out.lt)
    replace HBQ := hid (HBQ.out.later HN.out.2 HBQ.out.lt)
    replace HBX := hid (HBX.out.later HN.out.2 HBX.out.lt)
    replace HBG := hid (HBG.out.later HN.out.2 HBG.out.lt)
    replace HBH := hid (HBH.out.later HN.out.2 HBH.out.lt)
    replace HBC := hid (HBC.out.later HN.out.2 HBC.out.lt)
    replace HBM := hid (HBM.out.later HN.out.2 HBM.out.lt)
    replace HBN := hid (HBN.out.later HN.out.2 HBN.out.lt)
    replace HBY := hid (HBY.out.later HN.out.2 HBY.out.lt)
    replace HBV := hid (HBV.out.later HN.out.2 HBV.out.lt)
    replace HB := hid (b2 HB.out HN.out.2)
    have HBZ := hid HN.out.1
    clear HN
    obtain ⟨cY0, cY1, fY0, fY1⟩ := fbox_facts HBY.out (Below.refl _ _)
    obtain ⟨cZ0, cZ1, fZ0, fZ1⟩ := fbox_facts HBZ.out (Below.refl _ _)
    go_wp2_with fail
    all_goals first | (go_ret; exact ⟨rfl, HB.out⟩) | (go_ret; exact ⟨rfl, HB.out.drew⟩)
  · have h1 : ¬ (t : Int) < 1048576 := by omega
    clear hlt ht HX
    generalize (t : Int) = ti at *
    go_wp2_with fail
    all_goals first | (go_ret; exact ⟨rfl, HB.out⟩) | (go_ret; exact ⟨rfl, HB.out.drew⟩)

set_option maxHeartbeats 3200000 in
set_option maxRecDepth 100000 in
theorem dogroup_00 (a b : Nat → Int) (t : Nat) (w : World) (ha : dOK a) (hb : dOK b) (ht : t ≤ 1048576) (hT : ¬ dOK (dJ a b 1)) (hO : ¬ dOK (dJ a b (-1))) :
    Calls Try.prog 4 #[.agg (doA a), .agg (doA b), .int .i64 (t : Int)] w fun e w' => e = .returned (.bool true) ∧ Below w.heap.size w w' := by
  have HL := hid (fun V => dolives_any V)
  have HP := hid (fun V => dophase_ok a t V ha ht)
  obtain ⟨p1, p2, ep, op, _⟩ := circ_told (dU a t)
  rw [ep, show tV (p1, p2, 0) = Value.tuple #[.agg #[.int .i64 p1, .int .i64 p2], .int .i64 0] from rfl] at HP
  have HQ := hid (fun V => dophase_ok b t V hb ht)
  obtain ⟨q1, q2, eq, oq, _⟩ := circ_told (dU b t)
  rw [eq, show tV (q1, q2, 0) = Value.tuple #[.agg #[.int .i64 q1, .int .i64 q2], .int .i64 0] from rfl] at HQ
  have HT := hid (fun V => dotimes_any a b V)
  have HO := hid (fun V => doover_any a b V)
  rw [dJR_no (fun h => hT h.2.2)] at HT
  rw [dJR_no (fun h => hO h.2.2)] at HO
  have HC := hid (fun V => doconj_any a V)
  rw [dJR_ok ⟨fun _ _ => ⟨by decide, by decide⟩, ha, dJ_back_ok ha⟩] at HC
  have HM := hid (fun V => dophase_ok (dJ (fun _ => 0) a (-1)) t V (dJ_back_ok ha) ht)
  obtain ⟨m1, m2, em, om, _⟩ := circ_told (dU (dJ (fun _ => 0) a (-1)) t)
  rw [em, show tV (m1, m2, 0) = Value.tuple #[.agg #[.int .i64 m1, .int .i64 m2], .int .i64 0] from rfl] at HM
  have HN1 := hid (fun V => tneg_any p1 p2 V (dok_in op))
  rw [neg_circ ep, ← dJ_back, em, show tV (m1, m2, 0) = Value.tuple #[.agg #[.int .i64 m1, .int .i64 m2], .int .i64 0] from rfl] at HN1
  have HV := hid (fun V => dospeed_ok a V ha)
  obtain ⟨v1, v2, ev, ov, _⟩ := circ_told (dV a)
  rw [ev, show tV (v1, v2, 0) = Value.tuple #[.agg #[.int .i64 v1, .int .i64 v2], .int .i64 0] from rfl] at HV
  have HX : Hid (t < 1048576 → ∃ x1 x2 : Int, (∀ V, Calls Try.prog 7 #[.agg (doA a), .int .i64 ((t : Int) + 1)] V fun e w' => e = .returned (.tuple #[.agg #[.int .i64 x1, .int .i64 x2], .int .i64 0]) ∧ Below V.heap.size V w') ∧ (∀ V, Calls Try.prog 24 #[.agg #[.int .i64 p1, .int .i64 p2], .agg #[.int .i64 v1, .int .i64 v2]] V fun e w' => e = .returned (.tuple #[.agg #[.int .i64 x1, .int .i64 x2], .int .i64 0]) ∧ Below V.heap.size V w')) := fun hlt => by
    obtain ⟨x1, x2, ex, ox, _⟩ := circ_told (dU a (t + 1))
    refine ⟨x1, x2, fun V => ?_, fun V => ?_⟩
    · have e := dophase_ok a (t + 1) V ha hlt
      rw [ex, show tV (x1, x2, 0) = Value.tuple #[.agg #[.int .i64 x1, .int .i64 x2], .int .i64 0] from rfl] at e
      exact e
    · have e := tadd_any p1 p2 v1 v2 V (dok_in op) (dok_in ov)
      rw [add_circ ep ev, ← dU_next, ex, show tV (x1, x2, 0) = Value.tuple #[.agg #[.int .i64 x1, .int .i64 x2], .int .i64 0] from rfl] at e
      exact e
  clear ep op eq oq ev ov em om ha hb hT hO
  have HB0 := hid (dboxes2 w 24 24 (doA a) (doA b))
  obtain ⟨X, hW⟩ : ∃ X, (w.alloc (.cells (doA a) 24)).alloc (.cells (doA b) 24) = X := ⟨_, rfl⟩
  rw [hW] at HB0
  unfold doA at *
  generalize a 0 = aa0 at *
  generalize a 1 = aa1 at *
  generalize a 2 = aa2 at *
  generalize a 3 = aa3 at *
  generalize a 4 = aa4 at *
  generalize a 5 = aa5 at *
  generalize b 0 = bb0 at *
  generalize b 1 = bb1 at *
  generalize b 2 = bb2 at *
  generalize b 3 = bb3 at *
  generalize b 4 = bb4 at *
  generalize b 5 = bb5 at *
  generalize dJ (fun _ => 0) a (-1) 0 = cc0 at *
  generalize dJ (fun _ => 0) a (-1) 1 = cc1 at *
  generalize dJ (fun _ => 0) a (-1) 2 = cc2 at *
  generalize dJ (fun _ => 0) a (-1) 3 = cc3 at *
  generalize dJ (fun _ => 0) a (-1) 4 = cc4 at *
  generalize dJ (fun _ => 0) a (-1) 5 = cc5 at *
  obtain ⟨xx0, xx1, xx2, xx3, xx4, xx5, HZx⟩ : ∃ xx0 xx1 xx2 xx3 xx4 xx5 : Int, Hid (xx0 = 0 ∧ xx1 = 0 ∧ xx2 = 0 ∧ xx3 = 0 ∧ xx4 = 0 ∧ xx5 = 0) := ⟨_, _, _, _, _, _, ⟨rfl, rfl, rfl, rfl, rfl, rfl⟩⟩
  have hZ : (#[.int .i8 0, .int .i8 0, .int .i8 0, .int .i8 0, .int .i8 0, .int .i8 0] : Array Value) = #[.int .i8 xx0, .int .i8 xx1, .int .i8 xx2, .int .i8 xx3, .int .i8 xx4, .int .i8 xx5] := by obtain ⟨rfl, rfl, rfl, rfl, rfl, rfl⟩ := HZx.out; rfl
  rw [hZ] at HT
  clear hZ HZx
  obtain ⟨yy0, yy1, yy2, yy3, yy4, yy5, HZy⟩ : ∃ yy0 yy1 yy2 yy3 yy4 yy5 : Int, Hid (yy0 = 0 ∧ yy1 = 0 ∧ yy2 = 0 ∧ yy3 = 0 ∧ yy4 = 0 ∧ yy5 = 0) := ⟨_, _, _, _, _, _, ⟨rfl, rfl, rfl, rfl, rfl, rfl⟩⟩
  have hZ : (#[.int .i8 0, .int .i8 0, .int .i8 0, .int .i8 0, .int .i8 0, .int .i8 0] : Array Value) = #[.int .i8 yy0, .int .i8 yy1, .int .i8 yy2, .int .i8 yy3, .int .i8 yy4, .int .i8 yy5] := by obtain ⟨rfl, rfl, rfl, rfl, rfl, rfl⟩ := HZy.out; rfl
  rw [hZ] at HO
  clear hZ HZy
  have HBA := hid HB0.out.1
  have HBB := hid HB0.out.2.1
  have HB := hid HB0.out.2.2
  clear HB0
  go_enter Try.func4, Try.ntmps4
  go_wp2_with fail
  clear hW
  refine Calls.mono (HL.out _) ?_
  rintro e u1_ ⟨rfl, hb⟩
  replace HBA := hid (HBA.out.later hb HBA.out.lt)
  replace HBB := hid (HBB.out.later hb HBB.out.lt)
  replace HB := hid (b2 HB.out hb)
  clear hb
  obtain ⟨cA0, cA1, cA2, cA3, cA4, cA5⟩ := box6 HBA.out (Below.refl _ _)
  go_wp2_with fail
  refine Calls.mono (HP.out _) ?_
  rintro e u2_ ⟨rfl, hb⟩
  clear cA0 cA1 cA2 cA3 cA4 cA5
  replace HBA := hid (HBA.out.later hb HBA.out.lt)
  replace HBB := hid (HBB.out.later hb HBB.out.lt)
  replace HB := hid (b2 HB.out hb)
  clear hb
  have HN := hid (boxes1 u2_ 26 #[.int .i64 p1, .int .i64 p2])
  obtain ⟨u3_, hW⟩ : ∃ z, u2_.alloc (.cells #[.int .i64 p1, .int .i64 p2] 26) = z := ⟨_, rfl⟩
  rw [hW] at HN
  replace HBA := hid (HBA.out.later HN.out.2 HBA.out.lt)
  replace HBB := hid (HBB.out.later HN.out.2 HBB.out.lt)
  replace HB := hid (b2 HB.out HN.out.2)
  have HBP := hid HN.out.1
  clear HN
  obtain ⟨cB0, cB1, cB2, cB3, cB4, cB5⟩ := box6 HBB.out (Below.refl _ _)
  go_wp2_with fail
  clear hW
  refine Calls.mono (HQ.out _) ?_
  rintro e u4_ ⟨rfl, hb⟩
  clear cB0 cB1 cB2 cB3 cB4 cB5
  replace HBA := hid (HBA.out.later hb HBA.out.lt)
  replace HBB := hid (HBB.out.later hb HBB.out.lt)
  replace HBP := hid (HBP.out.later hb HBP.out.lt)
  replace HB := hid (b2 HB.out hb)
  clear hb
  have HN := hid (boxes1 u4_ 26 #[.int .i64 q1, .int .i64 q2])
  obtain ⟨u5_, hW⟩ : ∃ z, u4_.alloc (.cells #[.int .i64 q1, .int .i64 q2] 26) = z := ⟨_, rfl⟩
  rw [hW] at HN
  replace HBA := hid (HBA.out.later HN.out.2 HBA.out.lt)
  replace HBB := hid (HBB.out.later HN.out.2 HBB.out.lt)
  replace HBP := hid (HBP.out.later HN.out.2 HBP.out.lt)
  replace HB := hid (b2 HB.out HN.out.2)
  have HBQ := hid HN.out.1
  clear HN
  obtain ⟨cA0, cA1, cA2, cA3, cA4, cA5⟩ := box6 HBA.out (Below.refl _ _)
  obtain ⟨cB0, cB1, cB2, cB3, cB4, cB5⟩ := box6 HBB.out (Below.refl _ _)
  go_wp2_with fail
  clear hW
  refine Calls.mono (HT.out _) ?_
  rintro e u6_ ⟨rfl, hb⟩
  clear cA0 cA1 cA2 cA3 cA4 cA5 cB0 cB1 cB2 cB3 cB4 cB5
  replace HBA := hid (HBA.out.later hb HBA.out.lt)
  replace HBB := hid (HBB.out.later hb HBB.out.lt)
  replace HBP := hid (HBP.out.later hb HBP.out.lt)
  replace HBQ := hid (HBQ.out.later hb HBQ.out.lt)
  replace HB := hid (b2 HB.out hb)
  clear hb
  have oX : w.heap.size ≤ u6_.heap.size := HB.out.size
  have oXA : w.heap.size < u6_.heap.size := HBA.out.lt
  have oXB : w.heap.size + 1 < u6_.heap.size := HBB.out.lt
  have oXP : u2_.heap.size < u6_.heap.size := HBP.out.lt
  have oXQ : u4_.heap.size < u6_.heap.size := HBQ.out.lt
  have HN := hid (boxes1 u6_ 24 #[.int .i8 xx0, .int .i8 xx1, .int .i8 xx2, .int .i8 xx3, .int .i8 xx4, .int .i8 xx5])
  obtain ⟨u7_, hW⟩ : ∃ z, u6_.alloc (.cells #[.int .i8 xx0, .int .i8 xx1, .int .i8 xx2, .int .i8 xx3, .int .i8 xx4, .int .i8 xx5] 24) = z := ⟨_, rfl⟩
  rw [hW] at HN
  replace HBA := hid (HBA.out.later HN.out.2 HBA.out.lt)
  replace HBB := hid (HBB.out.later HN.out.2 HBB.out.lt)
  replace HBP := hid (HBP.out.later HN.out.2 HBP.out.lt)
  replace HBQ := hid (HBQ.out.later HN.out.2 HBQ.out.lt)
  replace HB := hid (b2 HB.out HN.out.2)
  have HBX := hid HN.out.1
  clear HN
  obtain ⟨cA0, cA1, cA2, cA3, cA4, cA5⟩ := box6 HBA.out (Below.refl _ _)
  obtain ⟨cB0, cB1, cB2, cB3, cB4, cB5⟩ := box6 HBB.out (Below.refl _ _)
  go_wp2_with fail
  clear hW
  refine Calls.mono (HO.out _) ?_
  rintro e u8_ ⟨rfl, hb⟩
  clear cA0 cA1 cA2 cA3 cA4 cA5 cB0 cB1 cB2 cB3 cB4 cB5
  replace HBA := hid (HBA.out.later hb HBA.out.lt)
  replace HBB := hid (HBB.out.later hb HBB.out.lt)
  replace HBP := hid (HBP.out.later hb HBP.out.lt)
  replace HBQ := hid (HBQ.out.later hb HBQ.out.lt)
  replace HBX := hid (HBX.out.later hb HBX.out.lt)
  replace HB := hid (b2 HB.out hb)
  clear hb
  have lA := HBA.out.lt
  have lB := HBB.out.lt
  have lP := HBP.out.lt
  have lQ := HBQ.out.lt
  have lX := HBX.out.lt
  obtain ⟨kX0, kX1, kX2, kX3, kX4, kX5⟩ := box6 HBX.out (Below.refl _ _)
  obtain ⟨fX0, fX1, fX2, fX3, fX4, fX5⟩ := free6 HBX.out (Below.refl _ _)
  have HTA_ := hid (HBA.out.off6 (show w.heap.size ≠ u6_.heap.size by omega) (.int .i8 yy0) (.int .i8 yy1) (.int .i8 yy2) (.int .i8 yy3) (.int .i8 yy4) (.int .i8 yy5))
  have HTB_ := hid (HBB.out.off6 (show w.heap.size + 1 ≠ u6_.heap.size by omega) (.int .i8 yy0) (.int .i8 yy1) (.int .i8 yy2) (.int .i8 yy3) (.int .i8 yy4) (.int .i8 yy5))
  have HTP_ := hid (HBP.out.off6 (show u2_.heap.size ≠ u6_.heap.size by omega) (.int .i8 yy0) (.int .i8 yy1) (.int .i8 yy2) (.int .i8 yy3) (.int .i8 yy4) (.int .i8 yy5))
  have HTQ_ := hid (HBQ.out.off6 (show u4_.heap.size ≠ u6_.heap.size by omega) (.int .i8 yy0) (.int .i8 yy1) (.int .i8 yy2) (.int .i8 yy3) (.int .i8 yy4) (.int .i8 yy5))
  have HTX_ := hid (HBX.out.put6 (.int .i8 yy0) (.int .i8 yy1) (.int .i8 yy2) (.int .i8 yy3) (.int .i8 yy4) (.int .i8 yy5))
  have HT_ := hid (dput6 HB.out u6_.heap.size (by omega) (.int .i8 yy0) (.int .i8 yy1) (.int .i8 yy2) (.int .i8 yy3) (.int .i8 yy4) (.int .i8 yy5))
  obtain ⟨u9_, hW⟩ : ∃ z, ((((((u8_.setCell ⟨u6_.heap.size, 0, none⟩ (.int .i8 yy0)).setCell ⟨u6_.heap.size, 1, none⟩ (.int .i8 yy1)).setCell ⟨u6_.heap.size, 2, none⟩ (.int .i8 yy2)).setCell ⟨u6_.heap.size, 3, none⟩ (.int .i8 yy3)).setCell ⟨u6_.heap.size, 4, none⟩ (.int .i8 yy4)).setCell ⟨u6_.heap.size, 5, none⟩ (.int .i8 yy5)) = z := ⟨_, rfl⟩
  rw [hW] at HT_ HTA_ HTB_ HTP_ HTQ_ HTX_
  clear HB HBA HBB HBP HBQ HBX
  have HB := HT_
  have HBA := HTA_
  have HBB := HTB_
  have HBP := HTP_
  have HBQ := HTQ_
  have HBX := HTX_
  clear HT_ HTA_ HTB_ HTP_ HTQ_ HTX_
  obtain ⟨cA0, cA1, cA2, cA3, cA4, cA5⟩ := box6 HBA.out (Below.refl _ _)
  go_wp2_with fail
  clear kX0 kX1 kX2 kX3 kX4 kX5 fX0 fX1 fX2 fX3 fX4 fX5 cA0 cA1 cA2 cA3 cA4 cA5
  clear hW
  refine Calls.mono (HC.out _) ?_
  rintro e u10_ ⟨rfl, hb⟩
  replace HBA := hid (HBA.out.later hb HBA.out.lt)
  replace HBB := hid (HBB.out.later hb HBB.out.lt)
  replace HBP := hid (HBP.out.later hb HBP.out.lt)
  replace HBQ := hid (HBQ.out.later hb HBQ.out.lt)
  replace HBX := hid (HBX.out.later hb HBX.out.lt)
  replace HB := hid (b2 HB.out hb)
  clear hb
  have oXC : u6_.heap.size < u10_.heap.size := HBX.out.lt
  have HN := hid (boxes1 u10_ 24 #[.int .i8 cc0, .int .i8 cc1, .int .i8 cc2, .int .i8 cc3, .int .i8 cc4, .int .i8 cc5])
  obtain ⟨u11_, hW⟩ : ∃ z, u10_.alloc (.cells #[.int .i8 cc0, .int .i8 cc1, .int .i8 cc2, .int .i8 cc3, .int .i8 cc4, .int .i8 cc5] 24) = z := ⟨_, rfl⟩
  rw [hW] at HN
  replace HBA := hid (HBA.out.later HN.out.2 HBA.out.lt)
  replace HBB := hid (HBB.out.later HN.out.2 HBB.out.lt)
  replace HBP := hid (HBP.out.later HN.out.2 HBP.out.lt)
  replace HBQ := hid (HBQ.out.later HN.out.2 HBQ.out.lt)
  replace HBX := hid (HBX.out.later HN.out.2 HBX.out.lt)
  replace HB := hid (b2 HB.out HN.out.2)
  have HBC := hid HN.out.1
  clear HN
  obtain ⟨cC0, cC1, cC2, cC3, cC4, cC5⟩ := box6 HBC.out (Below.refl _ _)
  go_wp2_with fail
  clear hW
  refine Calls.mono (HM.out _) ?_
  rintro e u12_ ⟨rfl, hb⟩
  clear cC0 cC1 cC2 cC3 cC4 cC5
  replace HBA := hid (HBA.out.later hb HBA.out.lt)
  replace HBB := hid (HBB.out.later hb HBB.out.lt)
  replace HBP := hid (HBP.out.later hb HBP.out.lt)
  replace HBQ := hid (HBQ.out.later hb HBQ.out.lt)
  replace HBX := hid (HBX.out.later hb HBX.out.lt)
  replace HBC := hid (HBC.out.later hb HBC.out.lt)
  replace HB := hid (b2 HB.out hb)
  clear hb
  have oXM : u6_.heap.size < u12_.heap.size := HBX.out.lt
  have HN := hid (boxes1 u12_ 26 #[.int .i64 m1, .int .i64 m2])
  obtain ⟨u13_, hW⟩ : ∃ z, u12_.alloc (.cells #[.int .i64 m1, .int .i64 m2] 26) = z := ⟨_, rfl⟩
  rw [hW] at HN
  replace HBA := hid (HBA.out.later HN.out.2 HBA.out.lt)
  replace HBB := hid (HBB.out.later HN.out.2 HBB.out.lt)
  replace HBP := hid (HBP.out.later HN.out.2 HBP.out.lt)
  replace HBQ := hid (HBQ.out.later HN.out.2 HBQ.out.lt)
  replace HBX := hid (HBX.out.later HN.out.2 HBX.out.lt)
  replace HBC := hid (HBC.out.later HN.out.2 HBC.out.lt)
  replace HB := hid (b2 HB.out HN.out.2)
  have HBM := hid HN.out.1
  clear HN
  obtain ⟨cP0, cP1, fP0, fP1⟩ := fbox_facts HBP.out (Below.refl _ _)
  go_wp2_with fail
  clear hW
  refine Calls.mono (HN1.out _) ?_
  rintro e u14_ ⟨rfl, hb⟩
  clear cP0 cP1 fP0 fP1
  replace HBA := hid (HBA.out.later hb HBA.out.lt)
  replace HBB := hid (HBB.out.later hb HBB.out.lt)
  replace HBP := hid (HBP.out.later hb HBP.out.lt)
  replace HBQ := hid (HBQ.out.later hb HBQ.out.lt)
  replace HBX := hid (HBX.out.later hb HBX.out.lt)
  replace HBC := hid (HBC.out.later hb HBC.out.lt)
  replace HBM := hid (HBM.out.later hb HBM.out.lt)
  replace HB := hid (b2 HB.out hb)
  clear hb
  have oXN : u6_.heap.size < u14_.heap.size := HBX.out.lt
  have HN := hid (boxes1 u14_ 26 #[.int .i64 m1, .int .i64 m2])
  obtain ⟨u15_, hW⟩ : ∃ z, u14_.alloc (.cells #[.int .i64 m1, .int .i64 m2] 26) = z := ⟨_, rfl⟩
  rw [hW] at HN
  replace HBA := hid (HBA.out.later HN.out.2 HBA.out.lt)
  replace HBB := hid (HBB.out.later HN.out.2 HBB.out.lt)
  replace HBP := hid (HBP.out.later HN.out.2 HBP.out.lt)
  replace HBQ := hid (HBQ.out.later HN.out.2 HBQ.out.lt)
  replace HBX := hid (HBX.out.later HN.out.2 HBX.out.lt)
  replace HBC := hid (HBC.out.later HN.out.2 HBC.out.lt)
  replace HBM := hid (HBM.out.later HN.out.2 HBM.out.lt)
  replace HB := hid (b2 HB.out HN.out.2)
  have HBN := hid HN.out.1
  clear HN
  obtain ⟨cM0, cM1, fM0, fM1⟩ := fbox_facts HBM.out (Below.refl _ _)
  obtain ⟨cN0, cN1, fN0, fN1⟩ := fbox_facts HBN.out (Below.refl _ _)
  by_cases hlt : t < 1048576
  · obtain ⟨x1, x2, HX1, HX2⟩ := HX.out hlt
    have HY1 := hid HX1
    have HY2 := hid HX2
    clear HX1 HX2 HX
    have e1 : IntKind.i64.wrap ((t : Int) + 1) = (t : Int) + 1 := by rw [IntKind.wrap_i64]; omega
    have h1 : (t : Int) < 1048576 := by omega
    clear hlt ht
    generalize (t : Int) = ti at *
    obtain ⟨cA0, cA1, cA2, cA3, cA4, cA5⟩ := box6 HBA.out (Below.refl _ _)
    go_wp2_with fail
    clear hW
    refine Calls.mono (HY1.out _) ?_
    rintro e u16_ ⟨rfl, hb⟩
    clear cM0 cM1 fM0 fM1 cN0 cN1 fN0 fN1 cA0 cA1 cA2 cA3 cA4 cA5
    replace HBA := hid (HBA.out.later hb HBA.out.lt)
    replace HBB := hid (HBB.out.later hb HBB.out.lt)
    replace HBP := hid (HBP.out.later hb HBP.out.lt)
    replace HBQ := hid (HBQ.out.later hb HBQ.out.lt)
    replace HBX := hid (HBX.out.later hb HBX.out.lt)
    replace HBC := hid (HBC.out.later hb HBC.out.lt)
    replace HBM := hid (HBM.out.later hb HBM.out.lt)
    replace HBN := hid (HBN.out.later hb HBN.out.lt)
    replace HB := hid (b2 HB.out hb)
    clear hb
    have oXY : u6_.heap.size < u16_.heap.size := HBX.out.lt
    have HN := hid (boxes1 u16_ 26 #[.int .i64 x1, .int .i64 x2])
    obtain ⟨u17_, hW⟩ : ∃ z, u16_.alloc (.cells #[.int .i64 x1, .int .i64 x2] 26) = z := ⟨_, rfl⟩
    rw [hW] at HN
    replace HBA := hid (HBA.out.later HN.out.2 HBA.out.lt)
    replace HBB := hid (HBB.out.later HN.out.2 HBB.out.lt)
    replace HBP := hid (HBP.out.later HN.out.2 HBP.out.lt)
    replace HBQ := hid (HBQ.out.later HN.out.2 HBQ.out.lt)
    replace HBX := hid (HBX.out.later HN.out.2 HBX.out.lt)
    replace HBC := hid (HBC.out.later HN.out.2 HBC.out.lt)
    replace HBM := hid (HBM.out.later HN.out.2 HBM.out.lt)
    replace HBN := hid (HBN.out.later HN.out.2 HBN.out.lt)
    replace HB := hid (b2 HB.out HN.out.2)
    have HBY := hid HN.out.1
    clear HN
    obtain ⟨cA0, cA1, cA2, cA3, cA4, cA5⟩ := box6 HBA.out (Below.refl _ _)
    go_wp2_with fail
    clear hW
    refine Calls.mono (HV.out _) ?_
    rintro e u18_ ⟨rfl, hb⟩
    clear cA0 cA1 cA2 cA3 cA4 cA5
    replace HBA := hid (HBA.out.later hb HBA.out.lt)
    replace HBB := hid (HBB.out.later hb HBB.out.lt)
    replace HBP := hid (HBP.out.later hb HBP.out.lt)
    replace HBQ := hid (HBQ.out.later hb HBQ.out.lt)
    replace HBX := hid (HBX.out.later hb HBX.out.lt)
    replace HBC := hid (HBC.out.later hb HBC.out.lt)
    replace HBM := hid (HBM.out.later hb HBM.out.lt)
    replace HBN := hid (HBN.out.later hb HBN.out.lt)
    replace HBY := hid (HBY.out.later hb HBY.out.lt)
    replace HB := hid (b2 HB.out hb)
    clear hb
    have oXV : u6_.heap.size < u18_.heap.size := HBX.out.lt
    have HN := hid (boxes1 u18_ 26 #[.int .i64 v1, .int .i64 v2])
    obtain ⟨u19_, hW⟩ : ∃ z, u18_.alloc (.cells #[.int .i64 v1, .int .i64 v2] 26) = z := ⟨_, rfl⟩
    rw [hW] at HN
    replace HBA := hid (HBA.out.later HN.out.2 HBA.out.lt)
    replace HBB := hid (HBB.out.later HN.out.2 HBB.out.lt)
    replace HBP := hid (HBP.out.later HN.out.2 HBP.out.lt)
    replace HBQ := hid (HBQ.out.later HN.out.2 HBQ.out.lt)
    replace HBX := hid (HBX.out.later HN.out.2 HBX.out.lt)
    replace HBC := hid (HBC.out.later HN.out.2 HBC.out.lt)
    replace HBM := hid (HBM.out.later HN.out.2 HBM.out.lt)
    replace HBN := hid (HBN.out.later HN.out.2 HBN.out.lt)
    replace HBY := hid (HBY.out.later HN.out.2 HBY.out.lt)
    replace HB := hid (b2 HB.out HN.out.2)
    have HBV := hid HN.out.1
    clear HN
    obtain ⟨cP0, cP1, fP0, fP1⟩ := fbox_facts HBP.out (Below.refl _ _)
    obtain ⟨cV0, cV1, fV0, fV1⟩ := fbox_facts HBV.out (Below.refl _ _)
    go_wp2_with fail
    clear hW
    refine Calls.mono (HY2.out _) ?_
    rintro e u20_ ⟨rfl, hb⟩
    clear cP0 cP1 fP0 fP1 cV0 cV1 fV0 fV1
    replace HBA := hid (HBA.out.later hb HBA.out.lt)
    replace HBB := hid (HBB.out.later hb HBB.out.lt)
    replace HBP := hid (HBP.out.later hb HBP.out.lt)
    replace HBQ := hid (HBQ.out.later hb HBQ.out.lt)
    replace HBX := hid (HBX.out.later hb HBX.out.lt)
    replace HBC := hid (HBC.out.later hb HBC.out.lt)
    replace HBM := hid (HBM.out.later hb HBM.out.lt)
    replace HBN := hid (HBN.out.later hb HBN.out.lt)
    replace HBY := hid (HBY.out.later hb HBY.out.lt)
    replace HBV := hid (HBV.out.later hb HBV.out.lt)
    replace HB := hid (b2 HB.out hb)
    clear hb
    have oXZ : u6_.heap.size < u20_.heap.size := HBX.out.lt
    have HN := hid (boxes1 u20_ 26 #[.int .i64 x1, .int .i64 x2])
    obtain ⟨u21_, hW⟩ : ∃ z, u20_.alloc (.cells #[.int .i64 x1, .int .i64 x2] 26) = z := ⟨_, rfl⟩
    rw [hW] at HN
    replace HBA := hid (HBA.out.later HN.out.2 HBA.out.lt)
    replace HBB := hid (HBB.out.later HN.out.2 HBB.out.lt)
    replace HBP := hid (HBP.out.later HN.out.2 HBP.out.lt)
    replace HBQ := hid (HBQ.out.later HN.out.2 HBQ.out.lt)
    replace HBX := hid (HBX.out.later HN.out.2 HBX.out.lt)
    replace HBC := hid (HBC.out.later HN.out.2 HBC.out.lt)
    replace HBM := hid (HBM.out.later HN.out.2 HBM.out.lt)
    replace HBN := hid (HBN.out.later HN.out.2 HBN.out.lt)
    replace HBY := hid (HBY.out.later HN.out.2 HBY.out.lt)
    replace HBV := hid (HBV.out.later HN.out.2 HBV.out.lt)
    replace HB := hid (b2 HB.out HN.out.2)
    have HBZ := hid HN.out.1
    clear HN
    obtain ⟨cY0, cY1, fY0, fY1⟩ := fbox_facts HBY.out (Below.refl _ _)
    obtain ⟨cZ0, cZ1, fZ0, fZ1⟩ := fbox_facts HBZ.out (Below.refl _ _)
    go_wp2_with fail
    all_goals first | (go_ret; exact ⟨rfl, HB.out⟩) | (go_ret; exact ⟨rfl, HB.out.drew⟩)
  · have h1 : ¬ (t : Int) < 1048576 := by omega
    clear hlt ht HX
    generalize (t : Int) = ti at *
    go_wp2_with fail
    all_goals first | (go_ret; exact ⟨rfl, HB.out⟩) | (go_ret; exact ⟨rfl, HB.out.drew⟩)

set_option maxHeartbeats 1600000 in
set_option maxRecDepth 100000 in
theorem dogroup_bad (a b : Nat → Int) (t : Int) (E F : Int) (p1 p2 q1 q2 : Int) (w : World) (hE : E ≠ 0 ∧ p1 = 0 ∧ p2 = 0 ∨ E = 0 ∧ F ≠ 0)
    (HP : ∀ V, Calls Try.prog 7 #[.agg (doA a), .int .i64 t] V fun e w' => e = .returned (.tuple #[.agg #[.int .i64 p1, .int .i64 p2], .int .i64 E]) ∧ Below V.heap.size V w')
    (HQ : ∀ V, Calls Try.prog 7 #[.agg (doA b), .int .i64 t] V fun e w' => e = .returned (.tuple #[.agg #[.int .i64 q1, .int .i64 q2], .int .i64 F]) ∧ Below V.heap.size V w') :
    Calls Try.prog 4 #[.agg (doA a), .agg (doA b), .int .i64 t] w fun e w' => e = .returned (.bool true) ∧ Below w.heap.size w w' := by
  have HL := hid (fun V => dolives_any V)
  have HP := hid HP
  have HQ := hid HQ
  have HEE := hid hE
  clear hE
  have HB0 := hid (dboxes2 w 24 24 (doA a) (doA b))
  obtain ⟨X, hW⟩ : ∃ X, (w.alloc (.cells (doA a) 24)).alloc (.cells (doA b) 24) = X := ⟨_, rfl⟩
  rw [hW] at HB0
  unfold doA at *
  have HBA := hid HB0.out.1
  have HBB := hid HB0.out.2.1
  have HB := hid HB0.out.2.2
  clear HB0
  go_enter Try.func4, Try.ntmps4
  go_wp2_with fail
  clear hW
  refine Calls.mono (HL.out _) ?_
  rintro e u1_ ⟨rfl, hb⟩
  replace HBA := hid (HBA.out.later hb HBA.out.lt)
  replace HBB := hid (HBB.out.later hb HBB.out.lt)
  replace HB := hid (b2 HB.out hb)
  clear hb
  obtain ⟨cA0, cA1, cA2, cA3, cA4, cA5⟩ := box6 HBA.out (Below.refl _ _)
  go_wp2_with fail
  refine Calls.mono (HP.out _) ?_
  rintro e u2_ ⟨rfl, hb⟩
  clear cA0 cA1 cA2 cA3 cA4 cA5
  replace HBA := hid (HBA.out.later hb HBA.out.lt)
  replace HBB := hid (HBB.out.later hb HBB.out.lt)
  replace HB := hid (b2 HB.out hb)
  clear hb
  have HN := hid (boxes1 u2_ 26 #[.int .i64 p1, .int .i64 p2])
  obtain ⟨u3_, hW⟩ : ∃ z, u2_.alloc (.cells #[.int .i64 p1, .int .i64 p2] 26) = z := ⟨_, rfl⟩
  rw [hW] at HN
  replace HBA := hid (HBA.out.later HN.out.2 HBA.out.lt)
  replace HBB := hid (HBB.out.later HN.out.2 HBB.out.lt)
  replace HB := hid (b2 HB.out HN.out.2)
  have HBP := hid HN.out.1
  clear HN
  obtain ⟨cB0, cB1, cB2, cB3, cB4, cB5⟩ := box6 HBB.out (Below.refl _ _)
  go_wp2_with fail
  clear hW
  refine Calls.mono (HQ.out _) ?_
  rintro e u4_ ⟨rfl, hb⟩
  clear cB0 cB1 cB2 cB3 cB4 cB5
  replace HBA := hid (HBA.out.later hb HBA.out.lt)
  replace HBB := hid (HBB.out.later hb HBB.out.lt)
  replace HBP := hid (HBP.out.later hb HBP.out.lt)
  replace HB := hid (b2 HB.out hb)
  clear hb
  have HN := hid (boxes1 u4_ 26 #[.int .i64 q1, .int .i64 q2])
  obtain ⟨u5_, hW⟩ : ∃ z, u4_.alloc (.cells #[.int .i64 q1, .int .i64 q2] 26) = z := ⟨_, rfl⟩
  rw [hW] at HN
  replace HBA := hid (HBA.out.later HN.out.2 HBA.out.lt)
  replace HBB := hid (HBB.out.later HN.out.2 HBB.out.lt)
  replace HBP := hid (HBP.out.later HN.out.2 HBP.out.lt)
  replace HB := hid (b2 HB.out HN.out.2)
  have HBQ := hid HN.out.1
  clear HN
  obtain ⟨cP0, cP1, fP0, fP1⟩ := fbox_facts HBP.out (Below.refl _ _)
  rcases HEE.out with ⟨h1, rfl, rfl⟩ | ⟨rfl, h1⟩
  · have h2 : (E == 0) = false := by simpa using h1
    have h3 : (E != 0) = true := by simp [bne, h2]
    clear h1
    go_wp2_with fail
    all_goals first | (go_ret; exact ⟨rfl, HB.out⟩) | (go_ret; exact ⟨rfl, HB.out.drew⟩)
  · have h2 : (F == 0) = false := by simpa using h1
    have h3 : (F != 0) = true := by simp [bne, h2]
    clear h1
    go_wp2_with fail
    all_goals first | (go_ret; exact ⟨rfl, HB.out⟩) | (go_ret; exact ⟨rfl, HB.out.drew⟩)

theorem dogroup_any (a b : Nat → Int) (t : Int) (w : World) (ht : I64 t) :
    Calls Try.prog 4 #[.agg (doA a), .agg (doA b), .int .i64 t] w fun e w' => e = .returned (.bool true) ∧ Below w.heap.size w w' := by
  have HE : ∀ d : Nat → Int, (dOK d ∧ 0 ≤ t ∧ t ≤ 1048576) ∨ ∃ E : Int, E ≠ 0 ∧ ∀ V, Calls Try.prog 7 #[.agg (doA d), .int .i64 t] V fun e w' => e = .returned (.tuple #[.agg #[.int .i64 0, .int .i64 0], .int .i64 E]) ∧ Below V.heap.size V w' := fun d => by
    by_cases hd : dOK d
    · by_cases h : 0 ≤ t ∧ t ≤ 1048576
      · exact .inl ⟨hd, h⟩
      · exact .inr ⟨2, by decide, fun V => dophase_tick d t V hd ht h⟩
    · exact .inr ⟨210, by decide, fun V => dophase_err d t V hd⟩
  have HO : ∀ d : Nat → Int, dOK d → 0 ≤ t ∧ t ≤ 1048576 → ∃ p1 p2 : Int, ∀ V, Calls Try.prog 7 #[.agg (doA d), .int .i64 t] V fun e w' => e = .returned (.tuple #[.agg #[.int .i64 p1, .int .i64 p2], .int .i64 0]) ∧ Below V.heap.size V w' := fun d hd h => by
    obtain ⟨n, rfl⟩ := Int.eq_ofNat_of_zero_le h.1
    obtain ⟨p1, p2, e, _, _⟩ := circ_told (dU d n)
    refine ⟨p1, p2, fun V => ?_⟩
    have c := dophase_ok d n V hd (by omega)
    rw [e] at c
    exact c
  rcases HE a with ⟨ha, h⟩ | ⟨E, hE, HP⟩
  · rcases HE b with ⟨hb, _⟩ | ⟨F, hF, HQ⟩
    · obtain ⟨n, rfl⟩ := Int.eq_ofNat_of_zero_le h.1
      by_cases hT : dOK (dJ a b 1)
      · by_cases hO : dOK (dJ a b (-1))
        · exact dogroup_11 a b n w ha hb (by omega) hT hO
        · exact dogroup_10 a b n w ha hb (by omega) hT hO
      · by_cases hO : dOK (dJ a b (-1))
        · exact dogroup_01 a b n w ha hb (by omega) hT hO
        · exact dogroup_00 a b n w ha hb (by omega) hT hO
    · obtain ⟨p1, p2, HP⟩ := HO a ha h
      exact dogroup_bad a b t 0 F p1 p2 0 0 w (.inr ⟨rfl, hF⟩) HP HQ
  · rcases HE b with ⟨hb, h⟩ | ⟨F, hF, HQ⟩
    · obtain ⟨q1, q2, HQ⟩ := HO b hb h
      exact dogroup_bad a b t E 0 0 0 q1 q2 w (.inl ⟨hE, rfl, rfl⟩) HP HQ
    · exact dogroup_bad a b t E F 0 0 0 0 w (.inl ⟨hE, rfl, rfl⟩) HP HQ
end Go.Proofs.Ytphipjpdjimpgaa

