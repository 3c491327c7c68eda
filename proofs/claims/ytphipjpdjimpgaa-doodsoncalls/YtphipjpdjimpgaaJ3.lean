/- My texts on the way to DoodsonCalls, one behind the other: contracts of the program and of the document's answers. -/
import Derived.Test.YtphipjpdjimpgaaJ2
import Derived.Deep.RegionHeld3
/- The law DoodsonCalls answers true, and writes nothing that was there: of any two lists of numbers and any tick. -/
namespace Go.Proofs.Ytphipjpdjimpgaa
open Go.RowKit
set_option linter.unusedVariables false
set_option linter.unusedSimpArgs false

/-- Both answers of a call that tells a turn. -/
theorem dcspeed_both (d : Nat → Int) : ∃ p q E : Int, (∀ V, Calls Try.prog 5 #[.agg (doA d)] V fun e w' => e = .returned (.tuple #[.agg #[.int .i64 p, .int .i64 q], .int .i64 E]) ∧ Below V.heap.size V w') ∧ (∀ V, Calls Try.prog 6 #[.agg (doA d)] V fun e w' => e = .returned (.tuple #[.agg #[.int .i64 p, .int .i64 q], .int .i64 E]) ∧ Below V.heap.size V w') := by
  by_cases hd : dOK d
  · obtain ⟨p, q, e, _, _⟩ := circ_told (dV d)
    refine ⟨p, q, 0, fun V => ?_, fun V => ?_⟩
    · have c := dospeed_ok d V hd; rw [e] at c; exact c
    · have c := dpspeed_ok d V hd; rw [e] at c; exact c
  · exact ⟨0, 0, 210, fun V => dospeed_err d V hd, fun V => dpspeed_err d V hd⟩
theorem dcphase_both (d : Nat → Int) (t : Int) (ht : I64 t) : ∃ p q E : Int, (∀ V, Calls Try.prog 7 #[.agg (doA d), .int .i64 t] V fun e w' => e = .returned (.tuple #[.agg #[.int .i64 p, .int .i64 q], .int .i64 E]) ∧ Below V.heap.size V w') ∧ (∀ V, Calls Try.prog 8 #[.agg (doA d), .int .i64 t] V fun e w' => e = .returned (.tuple #[.agg #[.int .i64 p, .int .i64 q], .int .i64 E]) ∧ Below V.heap.size V w') := by
  by_cases hd : dOK d
  · by_cases h : 0 ≤ t ∧ t ≤ 1048576
    · obtain ⟨n, rfl⟩ := Int.eq_ofNat_of_zero_le h.1
      obtain ⟨p, q, e, _, _⟩ := circ_told (dU d n)
      refine ⟨p, q, 0, fun V => ?_, fun V => ?_⟩
      · have c := dophase_ok d n V hd (by omega); rw [e] at c; exact c
      · have c := dpphase_ok d n V hd (by omega); rw [e] at c; exact c
    · exact ⟨0, 0, 2, fun V => dophase_tick d t V hd ht h, fun V => dpphase_no d t 2 V (.inr ⟨hd, h, rfl⟩)⟩
  · exact ⟨0, 0, 210, fun V => dophase_err d t V hd, fun V => dpphase_no d t 210 V (.inl ⟨hd, rfl⟩)⟩
theorem dcprint_both (d : Nat → Int) : ∃ (s : ByteArray) (E : Int), (∀ V, Calls Try.prog 20 #[.agg (doA d)] V fun e w' => e = .returned (.tuple #[.string s, .int .i64 E]) ∧ Below V.heap.size V w') ∧ (∀ V, Calls Try.prog 21 #[.agg (doA d)] V fun e w' => e = .returned (.tuple #[.string s, .int .i64 E]) ∧ Below V.heap.size V w') := by
  by_cases hd : dOK d
  · exact ⟨_, 0, fun V => doprint_ok d V hd, fun V => dpprint_ok d V hd⟩
  · exact ⟨_, 210, fun V => doprint_err d V hd, fun V => dpprint_err d V hd⟩
theorem dSp_or (d : Nat → Int) : ∃ n E : Int, dSp d = .tuple #[.int .i64 n, .int .i64 E] := by
  unfold dSp
  by_cases h : dOK d
  · rw [if_pos h]; exact ⟨_, _, rfl⟩
  · rw [if_neg h]; exact ⟨_, _, rfl⟩
theorem dNm_or (d : Nat → Int) : ∃ (s : ByteArray) (b : Bool), dNm d = .tuple #[.string s, .bool b] := by
  unfold dNm
  split
  · exact ⟨_, _, rfl⟩
  · exact ⟨_, _, rfl⟩
theorem doeq_self (d0 d1 d2 d3 d4 d5 : Int) (V : World) : (Op.equalIn 10000 24 (.agg #[.int .i8 d0, .int .i8 d1, .int .i8 d2, .int .i8 d3, .int .i8 d4, .int .i8 d5]) (.agg #[.int .i8 d0, .int .i8 d1, .int .i8 d2, .int .i8 d3, .int .i8 d4, .int .i8 d5])).run Try.prog V = .ok true V := by
  have e := doeq (fun k => match k with | 0 => d0 | 1 => d1 | 2 => d2 | 3 => d3 | 4 => d4 | _ => d5) (fun k => match k with | 0 => d0 | 1 => d1 | 2 => d2 | 3 => d3 | 4 => d4 | _ => d5) V
  rw [dEq_self] at e
  exact e

set_option maxHeartbeats 6400000 in
set_option maxRecDepth 100000 in
theorem docalls_any (a b : Nat → Int) (t : Int) (w : World) (ht : I64 t) :
    Calls Try.prog 3 #[.agg (doA a), .agg (doA b), .int .i64 t] w fun e w' => e = .returned (.bool true) ∧ Below w.heap.size w w' := by
  have HL := hid (fun V => dolives_any V)
  obtain ⟨s1, s2, sE, hs, hs'⟩ := dcspeed_both a
  obtain ⟨p1, p2, pE, hp, hp'⟩ := dcphase_both a t ht
  obtain ⟨tx, tE, htx, htx'⟩ := dcprint_both a
  have HS := hid hs
  have HS2 := hid hs'
  have HP := hid hp
  have HP2 := hid hp'
  have HT := hid htx
  have HT2 := hid htx'
  clear hs hs' hp hp' htx htx' ht
  have HC := hid (fun V => docheck_any a V)
  have HC2 := hid (fun V => dpcheck_any a V)
  generalize dchk a = ck at *
  have HM := hid (fun V => dotimes_any a b V)
  have HM2 := hid (fun V => dptimes_any a b V)
  obtain ⟨m0, m1, m2, m3, m4, m5, mE, hm⟩ := dJR_or a b 1
  rw [hm] at HM HM2
  have HO := hid (fun V => doover_any a b V)
  have HO2 := hid (fun V => dpover_any a b V)
  obtain ⟨o0, o1, o2, o3, o4, o5, oE, ho⟩ := dJR_or a b (-1)
  rw [ho] at HO HO2
  have HJ := hid (fun V => doconj_any a V)
  have HJ2 := hid (fun V => dpconj_any a V)
  obtain ⟨j0, j1, j2, j3, j4, j5, jE, hj⟩ := dJR_or (fun _ => 0) a (-1)
  rw [hj] at HJ HJ2
  have HI := hid (fun V => dospecies_any a V)
  have HI2 := hid (fun V => dpspecies_any a V)
  obtain ⟨i, iE, hi⟩ := dSp_or a
  rw [hi] at HI HI2
  have HN1 := hid (fun V => doname_any a V)
  have HN2 := hid (fun V => dpname_any a V)
  obtain ⟨nm, nB, hn⟩ := dNm_or a
  rw [hn] at HN1 HN2
  clear hm ho hj hi hn
  have heq := doeq_self
  have HB0 := hid (dboxes2 w 24 24 (doA a) (doA b))
  obtain ⟨X, hW⟩ : ∃ X, (w.alloc (.cells (doA a) 24)).alloc (.cells (doA b) 24) = X := ⟨_, rfl⟩
  rw [hW] at HB0
  unfold doA at *
  generalize a 0 = aa0 at *
  generalize a 1 = aa1 at *
  generalize a 2 = aa2 at *
  generalize a 3 = aa3 at *
  generalize a 4 = aa4 at *
  generalize a 5 = aa5 at *
  generalize b 0 = bb0 at *
  generalize b 1 = bb1 at *
  generalize b 2 = bb2 at *
  generalize b 3 = bb3 at *
  generalize b 4 = bb4 at *
  generalize b 5 = bb5 at *
  have HBA := hid HB0.out.1
  have HBB := hid HB0.out.2.1
  have HB := hid HB0.out.2.2
  clear HB0
  obtain ⟨cA0, cA1, cA2, cA3, cA4, cA5⟩ := box6 HBA.out (Below.refl _ _)
  go_enter Try.func3, Try.ntmps3
  go_wp2_with fail
  clear hW
  refine Calls.mono (HS.out _) ?_
  rintro e u1_ ⟨rfl, hb⟩
  clear cA0 cA1 cA2 cA3 cA4 cA5
  replace HBA := hid (HBA.out.later hb HBA.out.lt)
  replace HBB := hid (HBB.out.later hb HBB.out.lt)
  replace HB := hid (b2 HB.out hb)
  clear hb
  have HN := hid (boxes1 u1_ 26 #[.int .i64 s1, .int .i64 s2])
  obtain ⟨u2_, hW⟩ : ∃ z, u1_.alloc (.cells #[.int .i64 s1, .int .i64 s2] 26) = z := ⟨_, rfl⟩
  rw [hW] at HN
  replace HBA := hid (HBA.out.later HN.out.2 HBA.out.lt)
  replace HBB := hid (HBB.out.later HN.out.2 HBB.out.lt)
  replace HB := hid (b2 HB.out HN.out.2)
  have HBS := hid HN.out.1
  clear HN
  obtain ⟨cA0, cA1, cA2, cA3, cA4, cA5⟩ := box6 HBA.out (Below.refl _ _)
  go_wp2_with fail
  clear hW
  refine Calls.mono (HS2.out _) ?_
  rintro e u3_ ⟨rfl, hb⟩
  clear cA0 cA1 cA2 cA3 cA4 cA5
  replace HBA := hid (HBA.out.later hb HBA.out.lt)
  replace HBB := hid (HBB.out.later hb HBB.out.lt)
  replace HBS := hid (HBS.out.later hb HBS.out.lt)
  replace HB := hid (b2 HB.out hb)
  clear hb
  have HN := hid (boxes1 u3_ 26 #[.int .i64 s1, .int .i64 s2])
  obtain ⟨u4_, hW⟩ : ∃ z, u3_.alloc (.cells #[.int .i64 s1, .int .i64 s2] 26) = z := ⟨_, rfl⟩
  rw [hW] at HN
  replace HBA := hid (HBA.out.later HN.out.2 HBA.out.lt)
  replace HBB := hid (HBB.out.later HN.out.2 HBB.out.lt)
  replace HBS := hid (HBS.out.later HN.out.2 HBS.out.lt)
  replace HB := hid (b2 HB.out HN.out.2)
  have HBT := hid HN.out.1
  clear HN
  obtain ⟨cA0, cA1, cA2, cA3, cA4, cA5⟩ := box6 HBA.out (Below.refl _ _)
  go_wp2_with fail
  clear hW
  refine Calls.mono (HP.out _) ?_
  rintro e u5_ ⟨rfl, hb⟩
  clear cA0 cA1 cA2 cA3 cA4 cA5
  replace HBA := hid (HBA.out.later hb HBA.out.lt)
  replace HBB := hid (HBB.out.later hb HBB.out.lt)
  replace HBS := hid (HBS.out.later hb HBS.out.lt)
  replace HBT := hid (HBT.out.later hb HBT.out.lt)
  replace HB := hid (b2 HB.out hb)
  clear hb
  have HN := hid (boxes1 u5_ 26 #[.int .i64 p1, .int .i64 p2])
  obtain ⟨u6_, hW⟩ : ∃ z, u5_.alloc (.cells #[.int .i64 p1, .int .i64 p2] 26) = z := ⟨_, rfl⟩
  rw [hW] at HN
  replace HBA := hid (HBA.out.later HN.out.2 HBA.out.lt)
  replace HBB := hid (HBB.out.later HN.out.2 HBB.out.lt)
  replace HBS := hid (HBS.out.later HN.out.2 HBS.out.lt)
  replace HBT := hid (HBT.out.later HN.out.2 HBT.out.lt)
  replace HB := hid (b2 HB.out HN.out.2)
  have HBP := hid HN.out.1
  clear HN
  obtain ⟨cA0, cA1, cA2, cA3, cA4, cA5⟩ := box6 HBA.out (Below.refl _ _)
  go_wp2_with fail
  clear hW
  refine Calls.mono (HP2.out _) ?_
  rintro e u7_ ⟨rfl, hb⟩
  clear cA0 cA1 cA2 cA3 cA4 cA5
  replace HBA := hid (HBA.out.later hb HBA.out.lt)
  replace HBB := hid (HBB.out.later hb HBB.out.lt)
  replace HBS := hid (HBS.out.later hb HBS.out.lt)
  replace HBT := hid (HBT.out.later hb HBT.out.lt)
  replace HBP := hid (HBP.out.later hb HBP.out.lt)
  replace HB := hid (b2 HB.out hb)
  clear hb
  have HN := hid (boxes1 u7_ 26 #[.int .i64 p1, .int .i64 p2])
  obtain ⟨u8_, hW⟩ : ∃ z, u7_.alloc (.cells #[.int .i64 p1, .int .i64 p2] 26) = z := ⟨_, rfl⟩
  rw [hW] at HN
  replace HBA := hid (HBA.out.later HN.out.2 HBA.out.lt)
  replace HBB := hid (HBB.out.later HN.out.2 HBB.out.lt)
  replace HBS := hid (HBS.out.later HN.out.2 HBS.out.lt)
  replace HBT := hid (HBT.out.later HN.out.2 HBT.out.lt)
  replace HBP := hid (HBP.out.later HN.out.2 HBP.out.lt)
  replace HB := hid (b2 HB.out HN.out.2)
  have HBQ := hid HN.out.1
  clear HN
  obtain ⟨cS0, cS1, fS0, fS1⟩ := fbox_facts HBS.out (Below.refl _ _)
  obtain ⟨cT0, cT1, fT0, fT1⟩ := fbox_facts HBT.out (Below.refl _ _)
  obtain ⟨cP0, cP1, fP0, fP1⟩ := fbox_facts HBP.out (Below.refl _ _)
  obtain ⟨cQ0, cQ1, fQ0, fQ1⟩ := fbox_facts HBQ.out (Below.refl _ _)
  obtain ⟨cA0, cA1, cA2, cA3, cA4, cA5⟩ := box6 HBA.out (Below.refl _ _)
  go_wp2_with fail
  clear hW
  clear cS0 cS1 fS0 fS1 cT0 cT1 fT0 fT1 cP0 cP1 fP0 fP1 cQ0 cQ1 fQ0 fQ1 cA0 cA1 cA2 cA3 cA4 cA5
  have HF : Hid (∀ V, Below u8_.heap.size u8_ V → V.cell? ⟨u1_.heap.size, 0, none⟩ = some (.int .i64 s1) ∧ V.cell? ⟨u1_.heap.size, 1, none⟩ = some (.int .i64 s2) ∧ V.cell? ⟨u3_.heap.size, 0, none⟩ = some (.int .i64 s1) ∧ V.cell? ⟨u3_.heap.size, 1, none⟩ = some (.int .i64 s2) ∧ V.cell? ⟨u5_.heap.size, 0, none⟩ = some (.int .i64 p1) ∧ V.cell? ⟨u5_.heap.size, 1, none⟩ = some (.int .i64 p2) ∧ V.cell? ⟨u7_.heap.size, 0, none⟩ = some (.int .i64 p1) ∧ V.cell? ⟨u7_.heap.size, 1, none⟩ = some (.int .i64 p2) ∧ V.cell? ⟨w.heap.size, 0, none⟩ = some (.int .i8 aa0) ∧ V.cell? ⟨w.heap.size, 1, none⟩ = some (.int .i8 aa1) ∧ V.cell? ⟨w.heap.size, 2, none⟩ = some (.int .i8 aa2) ∧ V.cell? ⟨w.heap.size, 3, none⟩ = some (.int .i8 aa3) ∧ V.cell? ⟨w.heap.size, 4, none⟩ = some (.int .i8 aa4) ∧ V.cell? ⟨w.heap.size, 5, none⟩ = some (.int .i8 aa5)) := fun V hv => by
    obtain ⟨a0, a1, _, _⟩ := fbox_facts HBS.out hv
    obtain ⟨b0, b1, _, _⟩ := fbox_facts HBT.out hv
    obtain ⟨c0, c1, _, _⟩ := fbox_facts HBP.out hv
    obtain ⟨d0, d1, _, _⟩ := fbox_facts HBQ.out hv
    obtain ⟨n0, n1, n2, n3, n4, n5⟩ := box6 HBA.out hv
    exact ⟨a0, a1, b0, b1, c0, c1, d0, d1, n0, n1, n2, n3, n4, n5⟩
  have hs0 := HF.out _ (Below.refl _ u8_).drew
  have hd0 := hid (Below.refl u8_.heap.size u8_).drew
  have H1 : Hid (∀ ww, Below u8_.heap.size u8_ ww → Calls Try.prog 9 #[] ww fun e w' => e = .returned (.bool true) ∧ (w'.cell? ⟨u1_.heap.size, 0, none⟩ = some (.int .i64 s1) ∧ w'.cell? ⟨u1_.heap.size, 1, none⟩ = some (.int .i64 s2) ∧ w'.cell? ⟨u3_.heap.size, 0, none⟩ = some (.int .i64 s1) ∧ w'.cell? ⟨u3_.heap.size, 1, none⟩ = some (.int .i64 s2) ∧ w'.cell? ⟨u5_.heap.size, 0, none⟩ = some (.int .i64 p1) ∧ w'.cell? ⟨u5_.heap.size, 1, none⟩ = some (.int .i64 p2) ∧ w'.cell? ⟨u7_.heap.size, 0, none⟩ = some (.int .i64 p1) ∧ w'.cell? ⟨u7_.heap.size, 1, none⟩ = some (.int .i64 p2) ∧ w'.cell? ⟨w.heap.size, 0, none⟩ = some (.int .i8 aa0) ∧ w'.cell? ⟨w.heap.size, 1, none⟩ = some (.int .i8 aa1) ∧ w'.cell? ⟨w.heap.size, 2, none⟩ = some (.int .i8 aa2) ∧ w'.cell? ⟨w.heap.size, 3, none⟩ = some (.int .i8 aa3) ∧ w'.cell? ⟨w.heap.size, 4, none⟩ = some (.int .i8 aa4) ∧ w'.cell? ⟨w.heap.size, 5, none⟩ = some (.int .i8 aa5)) ∧ Below u8_.heap.size u8_ w') := fun ww hv => by
    refine Calls.mono (HL.out ww) ?_
    rintro e w' ⟨rfl, h⟩
    exact ⟨rfl, HF.out _ (b2 hv h), b2 hv h⟩
  have H2 : Hid (∀ ww, Below u8_.heap.size u8_ ww → Calls Try.prog 10 #[.agg #[.int .i8 aa0, .int .i8 aa1, .int .i8 aa2, .int .i8 aa3, .int .i8 aa4, .int .i8 aa5]] ww fun e w' => e = .returned (.int .i64 ck) ∧ (w'.cell? ⟨u1_.heap.size, 0, none⟩ = some (.int .i64 s1) ∧ w'.cell? ⟨u1_.heap.size, 1, none⟩ = some (.int .i64 s2) ∧ w'.cell? ⟨u3_.heap.size, 0, none⟩ = some (.int .i64 s1) ∧ w'.cell? ⟨u3_.heap.size, 1, none⟩ = some (.int .i64 s2) ∧ w'.cell? ⟨u5_.heap.size, 0, none⟩ = some (.int .i64 p1) ∧ w'.cell? ⟨u5_.heap.size, 1, none⟩ = some (.int .i64 p2) ∧ w'.cell? ⟨u7_.heap.size, 0, none⟩ = some (.int .i64 p1) ∧ w'.cell? ⟨u7_.heap.size, 1, none⟩ = some (.int .i64 p2) ∧ w'.cell? ⟨w.heap.size, 0, none⟩ = some (.int .i8 aa0) ∧ w'.cell? ⟨w.heap.size, 1, none⟩ = some (.int .i8 aa1) ∧ w'.cell? ⟨w.heap.size, 2, none⟩ = some (.int .i8 aa2) ∧ w'.cell? ⟨w.heap.size, 3, none⟩ = some (.int .i8 aa3) ∧ w'.cell? ⟨w.heap.size, 4, none⟩ = some (.int .i8 aa4) ∧ w'.cell? ⟨w.heap.size, 5, none⟩ = some (.int .i8 aa5)) ∧ Below u8_.heap.size u8_ w') := fun ww hv => by
    refine Calls.mono (HC.out ww) ?_
    rintro e w' ⟨rfl, h⟩
    exact ⟨rfl, HF.out _ (b2 hv h), b2 hv h⟩
  have H3 : Hid (∀ ww, Below u8_.heap.size u8_ ww → Calls Try.prog 11 #[.agg #[.int .i8 aa0, .int .i8 aa1, .int .i8 aa2, .int .i8 aa3, .int .i8 aa4, .int .i8 aa5]] ww fun e w' => e = .returned (.int .i64 ck) ∧ (w'.cell? ⟨u1_.heap.size, 0, none⟩ = some (.int .i64 s1) ∧ w'.cell? ⟨u1_.heap.size, 1, none⟩ = some (.int .i64 s2) ∧ w'.cell? ⟨u3_.heap.size, 0, none⟩ = some (.int .i64 s1) ∧ w'.cell? ⟨u3_.heap.size, 1, none⟩ = some (.int .i64 s2) ∧ w'.cell? ⟨u5_.heap.size, 0, none⟩ = some (.int .i64 p1) ∧ w'.cell? ⟨u5_.heap.size, 1, none⟩ = some (.int .i64 p2) ∧ w'.cell? ⟨u7_.heap.size, 0, none⟩ = some (.int .i64 p1) ∧ w'.cell? ⟨u7_.heap.size, 1, none⟩ = some (.int .i64 p2) ∧ w'.cell? ⟨w.heap.size, 0, none⟩ = some (.int .i8 aa0) ∧ w'.cell? ⟨w.heap.size, 1, none⟩ = some (.int .i8 aa1) ∧ w'.cell? ⟨w.heap.size, 2, none⟩ = some (.int .i8 aa2) ∧ w'.cell? ⟨w.heap.size, 3, none⟩ = some (.int .i8 aa3) ∧ w'.cell? ⟨w.heap.size, 4, none⟩ = some (.int .i8 aa4) ∧ w'.cell? ⟨w.heap.size, 5, none⟩ = some (.int .i8 aa5)) ∧ Below u8_.heap.size u8_ w') := fun ww hv => by
    refine Calls.mono (HC2.out ww) ?_
    rintro e w' ⟨rfl, h⟩
    exact ⟨rfl, HF.out _ (b2 hv h), b2 hv h⟩
  clear HF HC HC2 HL
  go_region_held3 (fun V : World => V.cell? ⟨u1_.heap.size, 0, none⟩ = some (.int .i64 s1) ∧ V.cell? ⟨u1_.heap.size, 1, none⟩ = some (.int .i64 s2) ∧ V.cell? ⟨u3_.heap.size, 0, none⟩ = some (.int .i64 s1) ∧ V.cell? ⟨u3_.heap.size, 1, none⟩ = some (.int .i64 s2) ∧ V.cell? ⟨u5_.heap.size, 0, none⟩ = some (.int .i64 p1) ∧ V.cell? ⟨u5_.heap.size, 1, none⟩ = some (.int .i64 p2) ∧ V.cell? ⟨u7_.heap.size, 0, none⟩ = some (.int .i64 p1) ∧ V.cell? ⟨u7_.heap.size, 1, none⟩ = some (.int .i64 p2) ∧ V.cell? ⟨w.heap.size, 0, none⟩ = some (.int .i8 aa0) ∧ V.cell? ⟨w.heap.size, 1, none⟩ = some (.int .i8 aa1) ∧ V.cell? ⟨w.heap.size, 2, none⟩ = some (.int .i8 aa2) ∧ V.cell? ⟨w.heap.size, 3, none⟩ = some (.int .i8 aa3) ∧ V.cell? ⟨w.heap.size, 4, none⟩ = some (.int .i8 aa4) ∧ V.cell? ⟨w.heap.size, 5, none⟩ = some (.int .i8 aa5)) (first | exact hs3 | exact hs2 | exact hs1 | exact hs0)
    (first
      | (go_at_call 11; with_reducible refine Calls.mono (H3.out _ hb2) ?_; rintro e v3 ⟨rfl, hs3, hb3⟩)
      | (go_at_call 10; with_reducible refine Calls.mono (H2.out _ hb1) ?_; rintro e v2 ⟨rfl, hs2, hb2⟩)
      | (go_at_call 9; with_reducible refine Calls.mono (H1.out _ hd0.out) ?_; rintro e v1 ⟨rfl, hs1, hb1⟩))
  clear hs0 hs1 hs2 hs3 hb1 hb2 H1 H2 H3 hd0
  replace HBA := hid (HBA.out.later hb3 HBA.out.lt)
  replace HBB := hid (HBB.out.later hb3 HBB.out.lt)
  replace HBS := hid (HBS.out.later hb3 HBS.out.lt)
  replace HBT := hid (HBT.out.later hb3 HBT.out.lt)
  replace HBP := hid (HBP.out.later hb3 HBP.out.lt)
  replace HBQ := hid (HBQ.out.later hb3 HBQ.out.lt)
  replace HB := hid (b2 HB.out hb3)
  clear hb3
  obtain ⟨cA0, cA1, cA2, cA3, cA4, cA5⟩ := box6 HBA.out (Below.refl _ _)
  obtain ⟨cB0, cB1, cB2, cB3, cB4, cB5⟩ := box6 HBB.out (Below.refl _ _)
  go_wp2_with fail
  refine Calls.mono (HM.out _) ?_
  rintro e u9_ ⟨rfl, hb⟩
  clear cA0 cA1 cA2 cA3 cA4 cA5 cB0 cB1 cB2 cB3 cB4 cB5
  replace HBA := hid (HBA.out.later hb HBA.out.lt)
  replace HBB := hid (HBB.out.later hb HBB.out.lt)
  replace HBS := hid (HBS.out.later hb HBS.out.lt)
  replace HBT := hid (HBT.out.later hb HBT.out.lt)
  replace HBP := hid (HBP.out.later hb HBP.out.lt)
  replace HBQ := hid (HBQ.out.later hb HBQ.out.lt)
  replace HB := hid (b2 HB.out hb)
  clear hb
  have oX : w.heap.size ≤ u9_.heap.size := HB.out.size
  have oXA : w.heap.size < u9_.heap.size := HBA.out.lt
  have oXB : w.heap.size + 1 < u9_.heap.size := HBB.out.lt
  have oXS : u1_.heap.size < u9_.heap.size := HBS.out.lt
  have oXT : u3_.heap.size < u9_.heap.size := HBT.out.lt
  have oXP : u5_.heap.size < u9_.heap.size := HBP.out.lt
  have oXQ : u7_.heap.size < u9_.heap.size := HBQ.out.lt
  have HN := hid (boxes1 u9_ 24 #[.int .i8 m0, .int .i8 m1, .int .i8 m2, .int .i8 m3, .int .i8 m4, .int .i8 m5])
  obtain ⟨u10_, hW⟩ : ∃ z, u9_.alloc (.cells #[.int .i8 m0, .int .i8 m1, .int .i8 m2, .int .i8 m3, .int .i8 m4, .int .i8 m5] 24) = z := ⟨_, rfl⟩
  rw [hW] at HN
  replace HBA := hid (HBA.out.later HN.out.2 HBA.out.lt)
  replace HBB := hid (HBB.out.later HN.out.2 HBB.out.lt)
  replace HBS := hid (HBS.out.later HN.out.2 HBS.out.lt)
  replace HBT := hid (HBT.out.later HN.out.2 HBT.out.lt)
  replace HBP := hid (HBP.out.later HN.out.2 HBP.out.lt)
  replace HBQ := hid (HBQ.out.later HN.out.2 HBQ.out.lt)
  replace HB := hid (b2 HB.out HN.out.2)
  have HBX := hid HN.out.1
  clear HN
  obtain ⟨cA0, cA1, cA2, cA3, cA4, cA5⟩ := box6 HBA.out (Below.refl _ _)
  obtain ⟨cB0, cB1, cB2, cB3, cB4, cB5⟩ := box6 HBB.out (Below.refl _ _)
  go_wp2_with fail
  clear hW
  refine Calls.mono (HM2.out _) ?_
  rintro e u11_ ⟨rfl, hb⟩
  clear cA0 cA1 cA2 cA3 cA4 cA5 cB0 cB1 cB2 cB3 cB4 cB5
  replace HBA := hid (HBA.out.later hb HBA.out.lt)
  replace HBB := hid (HBB.out.later hb HBB.out.lt)
  replace HBS := hid (HBS.out.later hb HBS.out.lt)
  replace HBT := hid (HBT.out.later hb HBT.out.lt)
  replace HBP := hid (HBP.out.later hb HBP.out.lt)
  replace HBQ := hid (HBQ.out.later hb HBQ.out.lt)
  replace HBX := hid (HBX.out.later hb HBX.out.lt)
  replace HB := hid (b2 HB.out hb)
  clear hb
  have oY : w.heap.size ≤ u11_.heap.size := HB.out.size
  have oYA : w.heap.size < u11_.heap.size := HBA.out.lt
  have oYB : w.heap.size + 1 < u11_.heap.size := HBB.out.lt
  have oYS : u1_.heap.size < u11_.heap.size := HBS.out.lt
  have oYT : u3_.heap.size < u11_.heap.size := HBT.out.lt
  have oYP : u5_.heap.size < u11_.heap.size := HBP.out.lt
  have oYQ : u7_.heap.size < u11_.heap.size := HBQ.out.lt
  have oYX : u9_.heap.size < u11_.heap.size := HBX.out.lt
  have HN := hid (boxes1 u11_ 24 #[.int .i8 m0, .int .i8 m1, .int .i8 m2, .int .i8 m3, .int .i8 m4, .int .i8 m5])
  obtain ⟨u12_, hW⟩ : ∃ z, u11_.alloc (.cells #[.int .i8 m0, .int .i8 m1, .int .i8 m2, .int .i8 m3, .int .i8 m4, .int .i8 m5] 24) = z := ⟨_, rfl⟩
  rw [hW] at HN
  replace HBA := hid (HBA.out.later HN.out.2 HBA.out.lt)
  replace HBB := hid (HBB.out.later HN.out.2 HBB.out.lt)
  replace HBS := hid (HBS.out.later HN.out.2 HBS.out.lt)
  replace HBT := hid (HBT.out.later HN.out.2 HBT.out.lt)
  replace HBP := hid (HBP.out.later HN.out.2 HBP.out.lt)
  replace HBQ := hid (HBQ.out.later HN.out.2 HBQ.out.lt)
  replace HBX := hid (HBX.out.later HN.out.2 HBX.out.lt)
  replace HB := hid (b2 HB.out HN.out.2)
  have HBY := hid HN.out.1
  clear HN
  obtain ⟨cA0, cA1, cA2, cA3, cA4, cA5⟩ := box6 HBA.out (Below.refl _ _)
  obtain ⟨cB0, cB1, cB2, cB3, cB4, cB5⟩ := box6 HBB.out (Below.refl _ _)
  go_wp2_with fail
  clear hW
  refine Calls.mono (HO.out _) ?_
  rintro e u13_ ⟨rfl, hb⟩
  clear cA0 cA1 cA2 cA3 cA4 cA5 cB0 cB1 cB2 cB3 cB4 cB5
  replace HBA := hid (HBA.out.later hb HBA.out.lt)
  replace HBB := hid (HBB.out.later hb HBB.out.lt)
  replace HBS := hid (HBS.out.later hb HBS.out.lt)
  replace HBT := hid (HBT.out.later hb HBT.out.lt)
  replace HBP := hid (HBP.out.later hb HBP.out.lt)
  replace HBQ := hid (HBQ.out.later hb HBQ.out.lt)
  replace HBX := hid (HBX.out.later hb HBX.out.lt)
  replace HBY := hid (HBY.out.later hb HBY.out.lt)
  replace HB := hid (b2 HB.out hb)
  clear hb
  have oXU : u9_.heap.size < u13_.heap.size := HBX.out.lt
  have oYU : u11_.heap.size < u13_.heap.size := HBY.out.lt
  have HN := hid (boxes1 u13_ 24 #[.int .i8 o0, .int .i8 o1, .int .i8 o2, .int .i8 o3, .int .i8 o4, .int .i8 o5])
  obtain ⟨u14_, hW⟩ : ∃ z, u13_.alloc (.cells #[.int .i8 o0, .int .i8 o1, .int .i8 o2, .int .i8 o3, .int .i8 o4, .int .i8 o5] 24) = z := ⟨_, rfl⟩
  rw [hW] at HN
  replace HBA := hid (HBA.out.later HN.out.2 HBA.out.lt)
  replace HBB := hid (HBB.out.later HN.out.2 HBB.out.lt)
  replace HBS := hid (HBS.out.later HN.out.2 HBS.out.lt)
  replace HBT := hid (HBT.out.later HN.out.2 HBT.out.lt)
  replace HBP := hid (HBP.out.later HN.out.2 HBP.out.lt)
  replace HBQ := hid (HBQ.out.later HN.out.2 HBQ.out.lt)
  replace HBX := hid (HBX.out.later HN.out.2 HBX.out.lt)
  replace HBY := hid (HBY.out.later HN.out.2 HBY.out.lt)
  replace HB := hid (b2 HB.out HN.out.2)
  have HBU := hid HN.out.1
  clear HN
  obtain ⟨cA0, cA1, cA2, cA3, cA4, cA5⟩ := box6 HBA.out (Below.refl _ _)
  obtain ⟨cB0, cB1, cB2, cB3, cB4, cB5⟩ := box6 HBB.out (Below.refl _ _)
  go_wp2_with fail
  clear hW
  refine Calls.mono (HO2.out _) ?_
  rintro e u15_ ⟨rfl, hb⟩
  clear cA0 cA1 cA2 cA3 cA4 cA5 cB0 cB1 cB2 cB3 cB4 cB5
  replace HBA := hid (HBA.out.later hb HBA.out.lt)
  replace HBB := hid (HBB.out.later hb HBB.out.lt)
  replace HBS := hid (HBS.out.later hb HBS.out.lt)
  replace HBT := hid (HBT.out.later hb HBT.out.lt)
  replace HBP := hid (HBP.out.later hb HBP.out.lt)
  replace HBQ := hid (HBQ.out.later hb HBQ.out.lt)
  replace HBX := hid (HBX.out.later hb HBX.out.lt)
  replace HBY := hid (HBY.out.later hb HBY.out.lt)
  replace HBU := hid (HBU.out.later hb HBU.out.lt)
  replace HB := hid (b2 HB.out hb)
  clear hb
  have oXV : u9_.heap.size < u15_.heap.size := HBX.out.lt
  have oYV : u11_.heap.size < u15_.heap.size := HBY.out.lt
  have HN := hid (boxes1 u15_ 24 #[.int .i8 o0, .int .i8 o1, .int .i8 o2, .int .i8 o3, .int .i8 o4, .int .i8 o5])
  obtain ⟨u16_, hW⟩ : ∃ z, u15_.alloc (.cells #[.int .i8 o0, .int .i8 o1, .int .i8 o2, .int .i8 o3, .int .i8 o4, .int .i8 o5] 24) = z := ⟨_, rfl⟩
  rw [hW] at HN
  replace HBA := hid (HBA.out.later HN.out.2 HBA.out.lt)
  replace HBB := hid (HBB.out.later HN.out.2 HBB.out.lt)
  replace HBS := hid (HBS.out.later HN.out.2 HBS.out.lt)
  replace HBT := hid (HBT.out.later HN.out.2 HBT.out.lt)
  replace HBP := hid (HBP.out.later HN.out.2 HBP.out.lt)
  replace HBQ := hid (HBQ.out.later HN.out.2 HBQ.out.lt)
  replace HBX := hid (HBX.out.later HN.out.2 HBX.out.lt)
  replace HBY := hid (HBY.out.later HN.out.2 HBY.out.lt)
  replace HBU := hid (HBU.out.later HN.out.2 HBU.out.lt)
  replace HB := hid (b2 HB.out HN.out.2)
  have HBV := hid HN.out.1
  clear HN
  obtain ⟨cX0, cX1, cX2, cX3, cX4, cX5⟩ := box6 HBX.out (Below.refl _ _)
  obtain ⟨cY0, cY1, cY2, cY3, cY4, cY5⟩ := box6 HBY.out (Below.refl _ _)
  obtain ⟨cU0, cU1, cU2, cU3, cU4, cU5⟩ := box6 HBU.out (Below.refl _ _)
  obtain ⟨cV0, cV1, cV2, cV3, cV4, cV5⟩ := box6 HBV.out (Below.refl _ _)
  obtain ⟨cA0, cA1, cA2, cA3, cA4, cA5⟩ := box6 HBA.out (Below.refl _ _)
  go_wp2_with fail
  clear hW
  refine Calls.mono (HJ.out _) ?_
  rintro e u17_ ⟨rfl, hb⟩
  clear cX0 cX1 cX2 cX3 cX4 cX5 cY0 cY1 cY2 cY3 cY4 cY5 cU0 cU1 cU2 cU3 cU4 cU5 cV0 cV1 cV2 cV3 cV4 cV5 cA0 cA1 cA2 cA3 cA4 cA5
  replace HBA := hid (HBA.out.later hb HBA.out.lt)
  replace HBB := hid (HBB.out.later hb HBB.out.lt)
  replace HBS := hid (HBS.out.later hb HBS.out.lt)
  replace HBT := hid (HBT.out.later hb HBT.out.lt)
  replace HBP := hid (HBP.out.later hb HBP.out.lt)
  replace HBQ := hid (HBQ.out.later hb HBQ.out.lt)
  replace HBX := hid (HBX.out.later hb HBX.out.lt)
  replace HBY := hid (HBY.out.later hb HBY.out.lt)
  replace HBU := hid (HBU.out.later hb HBU.out.lt)
  replace HBV := hid (HBV.out.later hb HBV.out.lt)
  replace HB := hid (b2 HB.out hb)
  clear hb
  obtain ⟨kX0, kX1, kX2, kX3, kX4, kX5⟩ := box6 HBX.out (Below.refl _ _)
  obtain ⟨fX0, fX1, fX2, fX3, fX4, fX5⟩ := free6 HBX.out (Below.refl _ _)
  have HTA_ := hid (HBA.out.off6 (show w.heap.size ≠ u9_.heap.size by omega) (.int .i8 j0) (.int .i8 j1) (.int .i8 j2) (.int .i8 j3) (.int .i8 j4) (.int .i8 j5))
  have HTB_ := hid (HBB.out.off6 (show w.heap.size + 1 ≠ u9_.heap.size by omega) (.int .i8 j0) (.int .i8 j1) (.int .i8 j2) (.int .i8 j3) (.int .i8 j4) (.int .i8 j5))
  have HTS_ := hid (HBS.out.off6 (show u1_.heap.size ≠ u9_.heap.size by omega) (.int .i8 j0) (.int .i8 j1) (.int .i8 j2) (.int .i8 j3) (.int .i8 j4) (.int .i8 j5))
  have HTT_ := hid (HBT.out.off6 (show u3_.heap.size ≠ u9_.heap.size by omega) (.int .i8 j0) (.int .i8 j1) (.int .i8 j2) (.int .i8 j3) (.int .i8 j4) (.int .i8 j5))
  have HTP_ := hid (HBP.out.off6 (show u5_.heap.size ≠ u9_.heap.size by omega) (.int .i8 j0) (.int .i8 j1) (.int .i8 j2) (.int .i8 j3) (.int .i8 j4) (.int .i8 j5))
  have HTQ_ := hid (HBQ.out.off6 (show u7_.heap.size ≠ u9_.heap.size by omega) (.int .i8 j0) (.int .i8 j1) (.int .i8 j2) (.int .i8 j3) (.int .i8 j4) (.int .i8 j5))
  have HTY_ := hid (HBY.out.off6 (show u11_.heap.size ≠ u9_.heap.size by omega) (.int .i8 j0) (.int .i8 j1) (.int .i8 j2) (.int .i8 j3) (.int .i8 j4) (.int .i8 j5))
  have HTU_ := hid (HBU.out.off6 (show u13_.heap.size ≠ u9_.heap.size by omega) (.int .i8 j0) (.int .i8 j1) (.int .i8 j2) (.int .i8 j3) (.int .i8 j4) (.int .i8 j5))
  have HTV_ := hid (HBV.out.off6 (show u15_.heap.size ≠ u9_.heap.size by omega) (.int .i8 j0) (.int .i8 j1) (.int .i8 j2) (.int .i8 j3) (.int .i8 j4) (.int .i8 j5))
  have HTX_ := hid (HBX.out.put6 (.int .i8 j0) (.int .i8 j1) (.int .i8 j2) (.int .i8 j3) (.int .i8 j4) (.int .i8 j5))
  have HT_ := hid (dput6 HB.out u9_.heap.size (by omega) (.int .i8 j0) (.int .i8 j1) (.int .i8 j2) (.int .i8 j3) (.int .i8 j4) (.int .i8 j5))
  obtain ⟨u18_, hW⟩ : ∃ z, ((((((u17_.setCell ⟨u9_.heap.size, 0, none⟩ (.int .i8 j0)).setCell ⟨u9_.heap.size, 1, none⟩ (.int .i8 j1)).setCell ⟨u9_.heap.size, 2, none⟩ (.int .i8 j2)).setCell ⟨u9_.heap.size, 3, none⟩ (.int .i8 j3)).setCell ⟨u9_.heap.size, 4, none⟩ (.int .i8 j4)).setCell ⟨u9_.heap.size, 5, none⟩ (.int .i8 j5)) = z := ⟨_, rfl⟩
  rw [hW] at HT_ HTA_ HTB_ HTS_ HTT_ HTP_ HTQ_ HTX_ HTY_ HTU_ HTV_
  clear HB HBA HBB HBS HBT HBP HBQ HBX HBY HBU HBV
  have HB := HT_
  have HBA := HTA_
  have HBB := HTB_
  have HBS := HTS_
  have HBT := HTT_
  have HBP := HTP_
  have HBQ := HTQ_
  have HBX := HTX_
  have HBY := HTY_
  have HBU := HTU_
  have HBV := HTV_
  clear HT_ HTA_ HTB_ HTS_ HTT_ HTP_ HTQ_ HTX_ HTY_ HTU_ HTV_
  obtain ⟨cA0, cA1, cA2, cA3, cA4, cA5⟩ := box6 HBA.out (Below.refl _ _)
  go_wp2_with fail
  clear kX0 kX1 kX2 kX3 kX4 kX5 fX0 fX1 fX2 fX3 fX4 fX5 cA0 cA1 cA2 cA3 cA4 cA5
  clear hW
  refine Calls.mono (HJ2.out _) ?_
  rintro e u19_ ⟨rfl, hb⟩
  replace HBA := hid (HBA.out.later hb HBA.out.lt)
  replace HBB := hid (HBB.out.later hb HBB.out.lt)
  replace HBS := hid (HBS.out.later hb HBS.out.lt)
  replace HBT := hid (HBT.out.later hb HBT.out.lt)
  replace HBP := hid (HBP.out.later hb HBP.out.lt)
  replace HBQ := hid (HBQ.out.later hb HBQ.out.lt)
  replace HBX := hid (HBX.out.later hb HBX.out.lt)
  replace HBY := hid (HBY.out.later hb HBY.out.lt)
  replace HBU := hid (HBU.out.later hb HBU.out.lt)
  replace HBV := hid (HBV.out.later hb HBV.out.lt)
  replace HB := hid (b2 HB.out hb)
  clear hb
  obtain ⟨kY0, kY1, kY2, kY3, kY4, kY5⟩ := box6 HBY.out (Below.refl _ _)
  obtain ⟨fY0, fY1, fY2, fY3, fY4, fY5⟩ := free6 HBY.out (Below.refl _ _)
  have HTA_ := hid (HBA.out.off6 (show w.heap.size ≠ u11_.heap.size by omega) (.int .i8 j0) (.int .i8 j1) (.int .i8 j2) (.int .i8 j3) (.int .i8 j4) (.int .i8 j5))
  have HTB_ := hid (HBB.out.off6 (show w.heap.size + 1 ≠ u11_.heap.size by omega) (.int .i8 j0) (.int .i8 j1) (.int .i8 j2) (.int .i8 j3) (.int .i8 j4) (.int .i8 j5))
  have HTS_ := hid (HBS.out.off6 (show u1_.heap.size ≠ u11_.heap.size by omega) (.int .i8 j0) (.int .i8 j1) (.int .i8 j2) (.int .i8 j3) (.int .i8 j4) (.int .i8 j5))
  have HTT_ := hid (HBT.out.off6 (show u3_.heap.size ≠ u11_.heap.size by omega) (.int .i8 j0) (.int .i8 j1) (.int .i8 j2) (.int .i8 j3) (.int .i8 j4) (.int .i8 j5))
  have HTP_ := hid (HBP.out.off6 (show u5_.heap.size ≠ u11_.heap.size by omega) (.int .i8 j0) (.int .i8 j1) (.int .i8 j2) (.int .i8 j3) (.int .i8 j4) (.int .i8 j5))
  have HTQ_ := hid (HBQ.out.off6 (show u7_.heap.size ≠ u11_.heap.size by omega) (.int .i8 j0) (.int .i8 j1) (.int .i8 j2) (.int .i8 j3) (.int .i8 j4) (.int .i8 j5))
  have HTX_ := hid (HBX.out.off6 (show u9_.heap.size ≠ u11_.heap.size by omega) (.int .i8 j0) (.int .i8 j1) (.int .i8 j2) (.int .i8 j3) (.int .i8 j4) (.int .i8 j5))
  have HTU_ := hid (HBU.out.off6 (show u13_.heap.size ≠ u11_.heap.size by omega) (.int .i8 j0) (.int .i8 j1) (.int .i8 j2) (.int .i8 j3) (.int .i8 j4) (.int .i8 j5))
  have HTV_ := hid (HBV.out.off6 (show u15_.heap.size ≠ u11_.heap.size by omega) (.int .i8 j0) (.int .i8 j1) (.int .i8 j2) (.int .i8 j3) (.int .i8 j4) (.int .i8 j5))
  have HTY_ := hid (HBY.out.put6 (.int .i8 j0) (.int .i8 j1) (.int .i8 j2) (.int .i8 j3) (.int .i8 j4) (.int .i8 j5))
  have HT_ := hid (dput6 HB.out u11_.heap.size (by omega) (.int .i8 j0) (.int .i8 j1) (.int .i8 j2) (.int .i8 j3) (.int .i8 j4) (.int .i8 j5))
  obtain ⟨u20_, hW⟩ : ∃ z, ((((((u19_.setCell ⟨u11_.heap.size, 0, none⟩ (.int .i8 j0)).setCell ⟨u11_.heap.size, 1, none⟩ (.int .i8 j1)).setCell ⟨u11_.heap.size, 2, none⟩ (.int .i8 j2)).setCell ⟨u11_.heap.size, 3, none⟩ (.int .i8 j3)).setCell ⟨u11_.heap.size, 4, none⟩ (.int .i8 j4)).setCell ⟨u11_.heap.size, 5, none⟩ (.int .i8 j5)) = z := ⟨_, rfl⟩
  rw [hW] at HT_ HTA_ HTB_ HTS_ HTT_ HTP_ HTQ_ HTX_ HTY_ HTU_ HTV_
  clear HB HBA HBB HBS HBT HBP HBQ HBX HBY HBU HBV
  have HB := HT_
  have HBA := HTA_
  have HBB := HTB_
  have HBS := HTS_
  have HBT := HTT_
  have HBP := HTP_
  have HBQ := HTQ_
  have HBX := HTX_
  have HBY := HTY_
  have HBU := HTU_
  have HBV := HTV_
  clear HT_ HTA_ HTB_ HTS_ HTT_ HTP_ HTQ_ HTX_ HTY_ HTU_ HTV_
  obtain ⟨cA0, cA1, cA2, cA3, cA4, cA5⟩ := box6 HBA.out (Below.refl _ _)
  go_wp2_with fail
  clear kY0 kY1 kY2 kY3 kY4 kY5 fY0 fY1 fY2 fY3 fY4 fY5 cA0 cA1 cA2 cA3 cA4 cA5
  clear hW
  refine Calls.mono (HI.out _) ?_
  rintro e u21_ ⟨rfl, hb⟩
  replace HBA := hid (HBA.out.later hb HBA.out.lt)
  replace HBB := hid (HBB.out.later hb HBB.out.lt)
  replace HBS := hid (HBS.out.later hb HBS.out.lt)
  replace HBT := hid (HBT.out.later hb HBT.out.lt)
  replace HBP := hid (HBP.out.later hb HBP.out.lt)
  replace HBQ := hid (HBQ.out.later hb HBQ.out.lt)
  replace HBX := hid (HBX.out.later hb HBX.out.lt)
  replace HBY := hid (HBY.out.later hb HBY.out.lt)
  replace HBU := hid (HBU.out.later hb HBU.out.lt)
  replace HBV := hid (HBV.out.later hb HBV.out.lt)
  replace HB := hid (b2 HB.out hb)
  clear hb
  obtain ⟨cA0, cA1, cA2, cA3, cA4, cA5⟩ := box6 HBA.out (Below.refl _ _)
  go_wp2_with fail
  refine Calls.mono (HI2.out _) ?_
  rintro e u22_ ⟨rfl, hb⟩
  clear cA0 cA1 cA2 cA3 cA4 cA5
  replace HBA := hid (HBA.out.later hb HBA.out.lt)
  replace HBB := hid (HBB.out.later hb HBB.out.lt)
  replace HBS := hid (HBS.out.later hb HBS.out.lt)
  replace HBT := hid (HBT.out.later hb HBT.out.lt)
  replace HBP := hid (HBP.out.later hb HBP.out.lt)
  replace HBQ := hid (HBQ.out.later hb HBQ.out.lt)
  replace HBX := hid (HBX.out.later hb HBX.out.lt)
  replace HBY := hid (HBY.out.later hb HBY.out.lt)
  replace HBU := hid (HBU.out.later hb HBU.out.lt)
  replace HBV := hid (HBV.out.later hb HBV.out.lt)
  replace HB := hid (b2 HB.out hb)
  clear hb
  obtain ⟨cA0, cA1, cA2, cA3, cA4, cA5⟩ := box6 HBA.out (Below.refl _ _)
  go_wp2_with fail
  refine Calls.mono (HT.out _) ?_
  rintro e u23_ ⟨rfl, hb⟩
  clear cA0 cA1 cA2 cA3 cA4 cA5
  replace HBA := hid (HBA.out.later hb HBA.out.lt)
  replace HBB := hid (HBB.out.later hb HBB.out.lt)
  replace HBS := hid (HBS.out.later hb HBS.out.lt)
  replace HBT := hid (HBT.out.later hb HBT.out.lt)
  replace HBP := hid (HBP.out.later hb HBP.out.lt)
  replace HBQ := hid (HBQ.out.later hb HBQ.out.lt)
  replace HBX := hid (HBX.out.later hb HBX.out.lt)
  replace HBY := hid (HBY.out.later hb HBY.out.lt)
  replace HBU := hid (HBU.out.later hb HBU.out.lt)
  replace HBV := hid (HBV.out.later hb HBV.out.lt)
  replace HB := hid (b2 HB.out hb)
  clear hb
  obtain ⟨cA0, cA1, cA2, cA3, cA4, cA5⟩ := box6 HBA.out (Below.refl _ _)
  go_wp2_with fail
  refine Calls.mono (HT2.out _) ?_
  rintro e u24_ ⟨rfl, hb⟩
  clear cA0 cA1 cA2 cA3 cA4 cA5
  replace HBA := hid (HBA.out.later hb HBA.out.lt)
  replace HBB := hid (HBB.out.later hb HBB.out.lt)
  replace HBS := hid (HBS.out.later hb HBS.out.lt)
  replace HBT := hid (HBT.out.later hb HBT.out.lt)
  replace HBP := hid (HBP.out.later hb HBP.out.lt)
  replace HBQ := hid (HBQ.out.later hb HBQ.out.lt)
  replace HBX := hid (HBX.out.later hb HBX.out.lt)
  replace HBY := hid (HBY.out.later hb HBY.out.lt)
  replace HBU := hid (HBU.out.later hb HBU.out.lt)
  replace HBV := hid (HBV.out.later hb HBV.out.lt)
  replace HB := hid (b2 HB.out hb)
  clear hb
  obtain ⟨cA0, cA1, cA2, cA3, cA4, cA5⟩ := box6 HBA.out (Below.refl _ _)
  go_wp2_with fail
  refine Calls.mono (HN1.out _) ?_
  rintro e u25_ ⟨rfl, hb⟩
  clear cA0 cA1 cA2 cA3 cA4 cA5
  replace HBA := hid (HBA.out.later hb HBA.out.lt)
  replace HBB := hid (HBB.out.later hb HBB.out.lt)
  replace HBS := hid (HBS.out.later hb HBS.out.lt)
  replace HBT := hid (HBT.out.later hb HBT.out.lt)
  replace HBP := hid (HBP.out.later hb HBP.out.lt)
  replace HBQ := hid (HBQ.out.later hb HBQ.out.lt)
  replace HBX := hid (HBX.out.later hb HBX.out.lt)
  replace HBY := hid (HBY.out.later hb HBY.out.lt)
  replace HBU := hid (HBU.out.later hb HBU.out.lt)
  replace HBV := hid (HBV.out.later hb HBV.out.lt)
  replace HB := hid (b2 HB.out hb)
  clear hb
  obtain ⟨cA0, cA1, cA2, cA3, cA4, cA5⟩ := box6 HBA.out (Below.refl _ _)
  go_wp2_with fail
  refine Calls.mono (HN2.out _) ?_
  rintro e u26_ ⟨rfl, hb⟩
  clear cA0 cA1 cA2 cA3 cA4 cA5
  replace HBA := hid (HBA.out.later hb HBA.out.lt)
  replace HBB := hid (HBB.out.later hb HBB.out.lt)
  replace HBS := hid (HBS.out.later hb HBS.out.lt)
  replace HBT := hid (HBT.out.later hb HBT.out.lt)
  replace HBP := hid (HBP.out.later hb HBP.out.lt)
  replace HBQ := hid (HBQ.out.later hb HBQ.out.lt)
  replace HBX := hid (HBX.out.later hb HBX.out.lt)
  replace HBY := hid (HBY.out.later hb HBY.out.lt)
  replace HBU := hid (HBU.out.later hb HBU.out.lt)
  replace HBV := hid (HBV.out.later hb HBV.out.lt)
  replace HB := hid (b2 HB.out hb)
  clear hb
  obtain ⟨cX0, cX1, cX2, cX3, cX4, cX5⟩ := box6 HBX.out (Below.refl _ _)
  obtain ⟨cY0, cY1, cY2, cY3, cY4, cY5⟩ := box6 HBY.out (Below.refl _ _)
  go_wp2_with fail
  all_goals first | (go_ret; exact ⟨rfl, HB.out⟩) | (go_ret; exact ⟨rfl, HB.out.drew⟩)
end Go.Proofs.Ytphipjpdjimpgaa

