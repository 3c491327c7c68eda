/- My texts on the way to TideTexts, one behind the other: contracts of the program and of the document's answers. -/
import Derived.Test.YtldeiapikkebgaaGreatDoorJ1
import Derived.Test.YtldeiapikkebgaaGreatDoorJ3
import Derived.Test.YtldeiapikkebgaaGreatDoorJ7
/- The law TideTexts answers true, and writes nothing that was there: whatever constituent and text come in. (tools/mktidetexts.py) -/
namespace Go.Proofs.YtldeiapikkebgaaGreatDoor
open Go.RowKit
set_option linter.unusedVariables false

theorem odParse_any (s : ByteArray) (w : World) : Calls Tryz.prog 9 #[.string s] w fun x w' => ∃ S F R n a ca xs b cb ys m c cc us d cd vs code, x = .returned (.tuple #[.agg #[.string S, .int .i32 F, .int .i32 R, .bool n, .slice a (List.length xs) ca, .slice b (List.length ys) cb, .bool m, .slice c (List.length us) cc, .slice d (List.length vs) cd], .int .i64 code]) ∧ (Sl w' (.slice a (List.length xs) ca) xs ∧ Sl w' (.slice b (List.length ys) cb) ys ∧ Sl w' (.slice c (List.length us) cc) us ∧ Sl w' (.slice d (List.length vs) cd) vs) ∧ TTells (tpE s) (gplong (trest (trest (trest s.data.toList)))) (tword s.data.toList) (tnumV (tword (trest s.data.toList))) (tnumV (tword (trest (trest s.data.toList)))) (rpq (gp1 (trest (trest (trest s.data.toList))))) (rpq (gp2 (trest (trest (trest s.data.toList))))) S F R n xs ys m us vs code ∧ Below w.heap.size w w' := by
  refine Calls.mono (dParse13_any s w) ?_
  rintro x w' ⟨S, F, R, n, a, ca, xs, b, cb, ys, m, c, cc, us, d, cd, vs, code, rfl, h1, h2, h3⟩
  exact ⟨S, F, R, n, a, ca, xs, b, cb, ys, m, c, cc, us, d, cd, vs, code, rfl, h1.out, h2.out, h3.out⟩
theorem kp4_of_cuts {W0 W1 W2 : World} {v u p q : Value} (h1 : Cut W0 v u W1) (h2 : Cut W1 p q W2) : Kp4 v u p q := by
  obtain ⟨c, c0, c1, l0, l1⟩ := h1
  obtain ⟨d, d0, d1, m0, m1⟩ := h2
  exact ⟨Kp.far l0 l1 (.inl (Nat.le_refl _)), Kp.far m0 m1 (.inl (Nat.le_refl _)), Kp.far l0 m0 (.inl c1), Kp.far l0 m1 (.inl (by omega)), Kp.far l1 m0 (.inl (Nat.le_refl _)), Kp.far l1 m1 (.inl d0)⟩
set_option maxHeartbeats 6400000 in
set_option maxRecDepth 100000 in
theorem tideTexts_short (s0 : ByteArray) (f r : Int) (n : Bool) (a : Option Addr) (ca : Nat) (xs : List Int) (b : Option Addr) (cb : Nat) (ys : List Int) (m : Bool) (c : Option Addr) (cc : Nat) (us : List Int) (d : Option Addr) (cd : Nat) (vs : List Int) (s : ByteArray) (w : World) (hz : s0.size ≤ 9223372036854775807) (hr : in32 f r) (hT : Tab w) (herr : ErrT w) (sx : Sl w (.slice a xs.length ca) xs) (sy : Sl w (.slice b ys.length cb) ys) (su : Sl w (.slice c us.length cc) us) (sw : Sl w (.slice d vs.length cd) vs) (lx : xs.length ≤ 3000) (ly : ys.length ≤ 3000) (lu : us.length ≤ 3000) (lv : vs.length ≤ 3000) (q1 : smallL xs.length 60 = true) (q2 : smallL ys.length 60 = true) (q3 : smallL us.length 60 = true) (q4 : smallL vs.length 60 = true) (hs : s.size ≤ 3000) :
    Calls Tryz.prog 3 #[.agg #[.string s0, .int .i32 f, .int .i32 r, .bool n, .slice a xs.length ca, .slice b ys.length cb, .bool m, .slice c us.length cc, .slice d vs.length cd], .string s] w fun e w' => e = .returned (.bool true) ∧ Below w.heap.size w w' := by
  obtain ⟨P, hP⟩ : ∃ P, w.alloc (.cells #[.string s0, .int .i32 f, .int .i32 r, .bool n, .slice a xs.length ca, .slice b ys.length cb, .bool m, .slice c us.length cc, .slice d vs.length cd] 30) = P := ⟨_, rfl⟩
  have b1 : Below w.heap.size w P := by rw [← hP]; exact alloc_later _ _
  have HW0 := hid b1
  have HZP := hid b1.size
  have HA0 : Hid (Box P w.heap.size 30 #[.string s0, .int .i32 f, .int .i32 r, .bool n, .slice a xs.length ca, .slice b ys.length cb, .bool m, .slice c us.length cc, .slice d vs.length cd]) := by rw [← hP]; exact Box.made w _ _
  have SR0 := hid (And.intro (sx.later b1) (And.intro (sy.later b1) (And.intro (su.later b1) (sw.later b1))))
  have ST0 := hid (hT.later b1)
  have SE0 := hid (herr.later b1)
  have HZ0 := hid hz
  have HR := hid hr
  have HQ := hid (And.intro q1 (And.intro q2 (And.intro q3 q4)))
  have HWD := hid (And.intro sx.wd (And.intro sy.wd (And.intro su.wd sw.wd)))
  have HSZ : Hid (s.size ≤ 281474976710656) := by show _ ≤ _; omega
  have HLN : Hid (xs.length ≤ 3000 ∧ ys.length ≤ 3000 ∧ us.length ≤ 3000 ∧ vs.length ≤ 3000) := ⟨lx, ly, lu, lv⟩
  have z1_ : decide ((3000 : Int) < (s.size : Int)) = false := decide_eq_false (by omega)
  have z3_ : decide ((65545 : Int) < (s.size : Int)) = false := decide_eq_false (by omega)
  clear sx sy su sw hT herr hz hr b1 lx ly lu lv hs
  have HS1 := hid (tSmall_any s0 f r n a xs.length ca b ys.length cb m c us.length cc d vs.length cd 60 P)
  rw [q1, q2, q3, q4, show (true && true) = true from rfl, show (true && true) = true from rfl] at HS1
  clear q1 q2 q3 q4
  go_enter Tryz.func3, Tryz.ntmps3
  have HC := hid (HS1.out)
  have clA_0 : P.cell? ⟨w.heap.size, 0, none⟩ = some (.string s0) := HA0.out.cell 0
  have clA_1 : P.cell? ⟨w.heap.size, 1, none⟩ = some (.int .i32 f) := HA0.out.cell 1
  have clA_2 : P.cell? ⟨w.heap.size, 2, none⟩ = some (.int .i32 r) := HA0.out.cell 2
  have clA_3 : P.cell? ⟨w.heap.size, 3, none⟩ = some (.bool n) := HA0.out.cell 3
  have clA_4 : P.cell? ⟨w.heap.size, 4, none⟩ = some (.slice a xs.length ca) := HA0.out.cell 4
  have clA_5 : P.cell? ⟨w.heap.size, 5, none⟩ = some (.slice b ys.length cb) := HA0.out.cell 5
  have clA_6 : P.cell? ⟨w.heap.size, 6, none⟩ = some (.bool m) := HA0.out.cell 6
  have clA_7 : P.cell? ⟨w.heap.size, 7, none⟩ = some (.slice c us.length cc) := HA0.out.cell 7
  have clA_8 : P.cell? ⟨w.heap.size, 8, none⟩ = some (.slice d vs.length cd) := HA0.out.cell 8
  go_wp2_with fail
  clear hP
  refine Calls.mono HC.out ?_
  rintro e w2 ⟨rfl, hb⟩
  clear clA_0 clA_1 clA_2 clA_3 clA_4 clA_5 clA_6 clA_7 clA_8
  clear HC
  have HW1 := hid (bt HW0.out hb)
  have Z1 := hid (Below.size hb)
  have HA1 := hid (HA0.out.later hb HA0.out.lt)
  have SR1 := hid (And.intro (SR0.out.1.later hb) (And.intro (SR0.out.2.1.later hb) (And.intro (SR0.out.2.2.1.later hb) (SR0.out.2.2.2.later hb))))
  have ST1 := hid (ST0.out.later hb)
  have SE1 := hid (SE0.out.later hb)
  clear HW0 HA0 SR0 ST0 SE0
  clear hb HS1
  have HC := hid (olentTide_any s0 f r n a ca xs b cb ys m c cc us d cd vs w2 SR1.out.1 SR1.out.2.1 SR1.out.2.2.1 SR1.out.2.2.2 (by have := HLN.out.1; omega) (by have := HLN.out.2.1; omega) (by have := HLN.out.2.2.1; omega) (by have := HLN.out.2.2.2; omega))
  have clA_0 : w2.cell? ⟨w.heap.size, 0, none⟩ = some (.string s0) := HA1.out.cell 0
  have clA_1 : w2.cell? ⟨w.heap.size, 1, none⟩ = some (.int .i32 f) := HA1.out.cell 1
  have clA_2 : w2.cell? ⟨w.heap.size, 2, none⟩ = some (.int .i32 r) := HA1.out.cell 2
  have clA_3 : w2.cell? ⟨w.heap.size, 3, none⟩ = some (.bool n) := HA1.out.cell 3
  have clA_4 : w2.cell? ⟨w.heap.size, 4, none⟩ = some (.slice a xs.length ca) := HA1.out.cell 4
  have clA_5 : w2.cell? ⟨w.heap.size, 5, none⟩ = some (.slice b ys.length cb) := HA1.out.cell 5
  have clA_6 : w2.cell? ⟨w.heap.size, 6, none⟩ = some (.bool m) := HA1.out.cell 6
  have clA_7 : w2.cell? ⟨w.heap.size, 7, none⟩ = some (.slice c us.length cc) := HA1.out.cell 7
  have clA_8 : w2.cell? ⟨w.heap.size, 8, none⟩ = some (.slice d vs.length cd) := HA1.out.cell 8
  go_wp2_with fail
  refine Calls.mono HC.out ?_
  rintro e w3 ⟨g1, c1, g2, c2, g3, c3, g4, c4, rfl, ho, hg, hb⟩
  clear clA_0 clA_1 clA_2 clA_3 clA_4 clA_5 clA_6 clA_7 clA_8
  clear HC
  have HW2 := hid (bt HW1.out hb)
  have Z2 := hid (Below.size hb)
  have HA2 := hid (HA1.out.later hb HA1.out.lt)
  have SR2 := hid (And.intro (SR1.out.1.later hb) (And.intro (SR1.out.2.1.later hb) (And.intro (SR1.out.2.2.1.later hb) (SR1.out.2.2.2.later hb))))
  have ST2 := hid (ST1.out.later hb)
  have SE2 := hid (SE1.out.later hb)
  clear HW1 HA1 SR1 ST1 SE1
  have HG : Hid (w2.heap.size ≤ g1 ∧ g1 < g2 ∧ g2 < g3 ∧ g3 < g4 ∧ g4 < w3.heap.size) := ⟨(ho.1.lt g1 rfl).1, hg.1, hg.2.1, hg.2.2, (ho.2.2.2.lt g4 rfl).2⟩
  have SL0 := hid ho
  clear z1_ z3_
  clear ho hg hb
  have GP := hid (Box.made w3 30 #[.string s0, .int .i32 f, .int .i32 r, .bool n, .slice (some ⟨g1, 0, none⟩) xs.length c1, .slice (some ⟨g2, 0, none⟩) ys.length c2, .bool m, .slice (some ⟨g3, 0, none⟩) us.length c3, .slice (some ⟨g4, 0, none⟩) vs.length c4])
  have LP := hid (alloc_later w3 (.cells #[.string s0, .int .i32 f, .int .i32 r, .bool n, .slice (some ⟨g1, 0, none⟩) xs.length c1, .slice (some ⟨g2, 0, none⟩) ys.length c2, .bool m, .slice (some ⟨g3, 0, none⟩) us.length c3, .slice (some ⟨g4, 0, none⟩) vs.length c4] 30))
  obtain ⟨YP, hYP⟩ : ∃ YP, w3.alloc (.cells #[.string s0, .int .i32 f, .int .i32 r, .bool n, .slice (some ⟨g1, 0, none⟩) xs.length c1, .slice (some ⟨g2, 0, none⟩) ys.length c2, .bool m, .slice (some ⟨g3, 0, none⟩) us.length c3, .slice (some ⟨g4, 0, none⟩) vs.length c4] 30) = YP := ⟨_, rfl⟩
  rw [hYP] at GP LP
  have HW3 := hid (bt HW2.out LP.out)
  have Z3 := hid (Below.size LP.out)
  have HA3 := hid (HA2.out.later LP.out HA2.out.lt)
  have SR3 := hid (And.intro (SR2.out.1.later LP.out) (And.intro (SR2.out.2.1.later LP.out) (And.intro (SR2.out.2.2.1.later LP.out) (SR2.out.2.2.2.later LP.out))))
  have ST3 := hid (ST2.out.later LP.out)
  have SE3 := hid (SE2.out.later LP.out)
  have SL3 := hid (And.intro (owns_later SL0.out.1 LP.out) (And.intro (owns_later SL0.out.2.1 LP.out) (And.intro (owns_later SL0.out.2.2.1 LP.out) (owns_later SL0.out.2.2.2 LP.out))))
  clear HW2 HA2 SR2 ST2 SE2 SL0
  have HC := hid (oPrint_any s0 f r n (some ⟨g1, 0, none⟩) c1 xs (some ⟨g2, 0, none⟩) c2 ys m (some ⟨g3, 0, none⟩) c3 us (some ⟨g4, 0, none⟩) c4 vs YP HZ0.out HR.out (Sl.own (klentf SL3.out.1) HWD.out.1) (Sl.own (klentf SL3.out.2.1) HWD.out.2.1) (Sl.own (klentf SL3.out.2.2.1) HWD.out.2.2.1) (Sl.own (klentf SL3.out.2.2.2) HWD.out.2.2.2) ST3.out HQ.out.1 HQ.out.2.1 HQ.out.2.2.1 HQ.out.2.2.2)
  have clP_0 : YP.cell? ⟨w3.heap.size, 0, none⟩ = some (.string s0) := GP.out.cell 0
  have clP_1 : YP.cell? ⟨w3.heap.size, 1, none⟩ = some (.int .i32 f) := GP.out.cell 1
  have clP_2 : YP.cell? ⟨w3.heap.size, 2, none⟩ = some (.int .i32 r) := GP.out.cell 2
  have clP_3 : YP.cell? ⟨w3.heap.size, 3, none⟩ = some (.bool n) := GP.out.cell 3
  have clP_4 : YP.cell? ⟨w3.heap.size, 4, none⟩ = some (.slice (some ⟨g1, 0, none⟩) xs.length c1) := GP.out.cell 4
  have clP_5 : YP.cell? ⟨w3.heap.size, 5, none⟩ = some (.slice (some ⟨g2, 0, none⟩) ys.length c2) := GP.out.cell 5
  have clP_6 : YP.cell? ⟨w3.heap.size, 6, none⟩ = some (.bool m) := GP.out.cell 6
  have clP_7 : YP.cell? ⟨w3.heap.size, 7, none⟩ = some (.slice (some ⟨g3, 0, none⟩) us.length c3) := GP.out.cell 7
  have clP_8 : YP.cell? ⟨w3.heap.size, 8, none⟩ = some (.slice (some ⟨g4, 0, none⟩) vs.length c4) := GP.out.cell 8
  go_wp2_with fail
  clear hYP
  refine Calls.mono HC.out ?_
  rintro e w4 ⟨T1, rfl, h1, h2, hb⟩
  clear clP_0 clP_1 clP_2 clP_3 clP_4 clP_5 clP_6 clP_7 clP_8
  clear HC
  have HW4 := hid (bt HW3.out hb)
  have Z4 := hid (Below.size hb)
  have HA4 := hid (HA3.out.later hb HA3.out.lt)
  have HP4 := hid (GP.out.later hb GP.out.lt)
  have SR4 := hid (And.intro (SR3.out.1.later hb) (And.intro (SR3.out.2.1.later hb) (And.intro (SR3.out.2.2.1.later hb) (SR3.out.2.2.2.later hb))))
  have ST4 := hid (ST3.out.later hb)
  have SE4 := hid (SE3.out.later hb)
  have SL4 := hid (And.intro (owns_later SL3.out.1 hb) (And.intro (owns_later SL3.out.2.1 hb) (And.intro (owns_later SL3.out.2.2.1 hb) (owns_later SL3.out.2.2.2 hb))))
  clear HW3 HA3 GP SR3 ST3 SE3 SL3
  have HN1 := hid (And.intro h1 h2)
  clear h1 h2 hb
  have HC := hid (odPrint_any s0 f r n a ca xs b cb ys m c cc us d cd vs w4 HZ0.out HR.out SR4.out.1 SR4.out.2.1 SR4.out.2.2.1 SR4.out.2.2.2 HQ.out.1 HQ.out.2.1 HQ.out.2.2.1 HQ.out.2.2.2)
  have clA_0 : w4.cell? ⟨w.heap.size, 0, none⟩ = some (.string s0) := HA4.out.cell 0
  have clA_1 : w4.cell? ⟨w.heap.size, 1, none⟩ = some (.int .i32 f) := HA4.out.cell 1
  have clA_2 : w4.cell? ⟨w.heap.size, 2, none⟩ = some (.int .i32 r) := HA4.out.cell 2
  have clA_3 : w4.cell? ⟨w.heap.size, 3, none⟩ = some (.bool n) := HA4.out.cell 3
  have clA_4 : w4.cell? ⟨w.heap.size, 4, none⟩ = some (.slice a xs.length ca) := HA4.out.cell 4
  have clA_5 : w4.cell? ⟨w.heap.size, 5, none⟩ = some (.slice b ys.length cb) := HA4.out.cell 5
  have clA_6 : w4.cell? ⟨w.heap.size, 6, none⟩ = some (.bool m) := HA4.out.cell 6
  have clA_7 : w4.cell? ⟨w.heap.size, 7, none⟩ = some (.slice c us.length cc) := HA4.out.cell 7
  have clA_8 : w4.cell? ⟨w.heap.size, 8, none⟩ = some (.slice d vs.length cd) := HA4.out.cell 8
  go_wp2_with fail
  refine Calls.mono HC.out ?_
  rintro e w5 ⟨T2, rfl, h1, h2, hb⟩
  clear clA_0 clA_1 clA_2 clA_3 clA_4 clA_5 clA_6 clA_7 clA_8
  clear HC
  have HW5 := hid (bt HW4.out hb)
  have Z5 := hid (Below.size hb)
  have HA5 := hid (HA4.out.later hb HA4.out.lt)
  have HP5 := hid (HP4.out.later hb HP4.out.lt)
  have SR5 := hid (And.intro (SR4.out.1.later hb) (And.intro (SR4.out.2.1.later hb) (And.intro (SR4.out.2.2.1.later hb) (SR4.out.2.2.2.later hb))))
  have ST5 := hid (ST4.out.later hb)
  have SE5 := hid (SE4.out.later hb)
  have SL5 := hid (And.intro (owns_later SL4.out.1 hb) (And.intro (owns_later SL4.out.2.1 hb) (And.intro (owns_later SL4.out.2.2.1 hb) (owns_later SL4.out.2.2.2 hb))))
  clear HW4 HA4 HP4 SR4 ST4 SE4 SL4
  have hT12 : T1 = T2 := by
    by_cases hz : tchk s0.data.toList f r (gchk n xs ys m us vs) = 0
    · exact ByteArray.ext (Array.ext' ((HN1.out.1 hz).trans (h1 hz).symm))
    · exact (HN1.out.2 hz).trans (h2 hz).symm
  subst hT12
  clear h1 h2 hb HN1
  generalize tchk s0.data.toList f r (gchk n xs ys m us vs) = GE at *
  have HC := hid (tParse_any s w5 HSZ.out ST5.out SE5.out)
  go_wp2_with fail
  refine Calls.mono HC.out ?_
  rintro e w7 ⟨N1, F1, R1, s1, e1, k1, z1, f1, l1, d1, t1, p1, q1, z2, o1, r1, d2, u1, rfl, ho, ht, hb, W1_, hc1, hc2⟩
  clear HC
  have HW6 := hid (bt HW5.out hb)
  have Z6 := hid (Below.size hb)
  have HA6 := hid (HA5.out.later hb HA5.out.lt)
  have HP6 := hid (HP5.out.later hb HP5.out.lt)
  have SR6 := hid (And.intro (SR5.out.1.later hb) (And.intro (SR5.out.2.1.later hb) (And.intro (SR5.out.2.2.1.later hb) (SR5.out.2.2.2.later hb))))
  have ST6 := hid (ST5.out.later hb)
  have SE6 := hid (SE5.out.later hb)
  have SL6 := hid (And.intro (owns_later SL5.out.1 hb) (And.intro (owns_later SL5.out.2.1 hb) (And.intro (owns_later SL5.out.2.2.1 hb) (owns_later SL5.out.2.2.2 hb))))
  clear HW5 HA5 HP5 SR5 ST5 SE5 SL5
  have HT1 := hid ht
  have SO1 := hid ho
  have HI1 := hid (And.intro (kp4_of_cuts hc1 hc2) (And.intro (kg_within ho.1) (And.intro (kg_within ho.2.1) (And.intro (kg_within ho.2.2.1) (kg_within ho.2.2.2)))))
  clear hc1 hc2
  clear ho ht hb
  have GB := hid (Box.made w7 30 #[.string N1, .int .i32 F1, .int .i32 R1, .bool s1, .slice e1 z1.length k1, .slice f1 d1.length l1, .bool t1, .slice p1 z2.length q1, .slice o1 d2.length r1])
  have LB := hid (alloc_later w7 (.cells #[.string N1, .int .i32 F1, .int .i32 R1, .bool s1, .slice e1 z1.length k1, .slice f1 d1.length l1, .bool t1, .slice p1 z2.length q1, .slice o1 d2.length r1] 30))
  obtain ⟨YB, hYB⟩ : ∃ YB, w7.alloc (.cells #[.string N1, .int .i32 F1, .int .i32 R1, .bool s1, .slice e1 z1.length k1, .slice f1 d1.length l1, .bool t1, .slice p1 z2.length q1, .slice o1 d2.length r1] 30) = YB := ⟨_, rfl⟩
  rw [hYB] at GB LB
  have HW7 := hid (bt HW6.out LB.out)
  have Z7 := hid (Below.size LB.out)
  have HA7 := hid (HA6.out.later LB.out HA6.out.lt)
  have HP7 := hid (HP6.out.later LB.out HP6.out.lt)
  have SR7 := hid (And.intro (SR6.out.1.later LB.out) (And.intro (SR6.out.2.1.later LB.out) (And.intro (SR6.out.2.2.1.later LB.out) (SR6.out.2.2.2.later LB.out))))
  have ST7 := hid (ST6.out.later LB.out)
  have SE7 := hid (SE6.out.later LB.out)
  have SL7 := hid (And.intro (owns_later SL6.out.1 LB.out) (And.intro (owns_later SL6.out.2.1 LB.out) (And.intro (owns_later SL6.out.2.2.1 LB.out) (owns_later SL6.out.2.2.2 LB.out))))
  have SO17 := hid (And.intro (owns_later SO1.out.1 LB.out) (And.intro (owns_later SO1.out.2.1 LB.out) (And.intro (owns_later SO1.out.2.2.1 LB.out) (owns_later SO1.out.2.2.2 LB.out))))
  clear HW6 HA6 HP6 SR6 ST6 SE6 SL6 SO1
  have HC := hid (tParse_any s YB HSZ.out ST7.out SE7.out)
  go_wp2_with fail
  clear hYB
  refine Calls.mono HC.out ?_
  rintro e w9 ⟨N2_, F2_, R2_, s2_, e2, k2, z2_, f2, l2, d2_, t2_, p2, q2, y2_, o2, r2, v2_, u2_, rfl, ho, ht, hb, W1_, hc1, hc2⟩
  clear HC
  have HW8 := hid (bt HW7.out hb)
  have Z8 := hid (Below.size hb)
  have HA8 := hid (HA7.out.later hb HA7.out.lt)
  have HP8 := hid (HP7.out.later hb HP7.out.lt)
  have HB8 := hid (GB.out.later hb GB.out.lt)
  have SR8 := hid (And.intro (SR7.out.1.later hb) (And.intro (SR7.out.2.1.later hb) (And.intro (SR7.out.2.2.1.later hb) (SR7.out.2.2.2.later hb))))
  have ST8 := hid (ST7.out.later hb)
  have SE8 := hid (SE7.out.later hb)
  have SL8 := hid (And.intro (owns_later SL7.out.1 hb) (And.intro (owns_later SL7.out.2.1 hb) (And.intro (owns_later SL7.out.2.2.1 hb) (owns_later SL7.out.2.2.2 hb))))
  have SO18 := hid (And.intro (owns_later SO17.out.1 hb) (And.intro (owns_later SO17.out.2.1 hb) (And.intro (owns_later SO17.out.2.2.1 hb) (owns_later SO17.out.2.2.2 hb))))
  clear HW7 HA7 HP7 GB SR7 ST7 SE7 SL7 SO17
  obtain ⟨rfl, rfl, rfl, rfl, rfl, rfl, rfl, rfl, rfl, rfl⟩ := HT1.out.one ht
  have SO2 := hid ho
  have HI2 := hid (And.intro (kp4_of_cuts hc1 hc2) (And.intro (kg_within ho.1) (And.intro (kg_within ho.2.1) (And.intro (kg_within ho.2.2.1) (kg_within ho.2.2.2)))))
  clear hc1 hc2
  clear ho ht hb
  have GC := hid (Box.made w9 30 #[.string N1, .int .i32 F1, .int .i32 R1, .bool s1, .slice e2 z1.length k2, .slice f2 d1.length l2, .bool t1, .slice p2 z2.length q2, .slice o2 d2.length r2])
  have LC := hid (alloc_later w9 (.cells #[.string N1, .int .i32 F1, .int .i32 R1, .bool s1, .slice e2 z1.length k2, .slice f2 d1.length l2, .bool t1, .slice p2 z2.length q2, .slice o2 d2.length r2] 30))
  obtain ⟨YC, hYC⟩ : ∃ YC, w9.alloc (.cells #[.string N1, .int .i32 F1, .int .i32 R1, .bool s1, .slice e2 z1.length k2, .slice f2 d1.length l2, .bool t1, .slice p2 z2.length q2, .slice o2 d2.length r2] 30) = YC := ⟨_, rfl⟩
  rw [hYC] at GC LC
  have HW9 := hid (bt HW8.out LC.out)
  have Z9 := hid (Below.size LC.out)
  have HA9 := hid (HA8.out.later LC.out HA8.out.lt)
  have HP9 := hid (HP8.out.later LC.out HP8.out.lt)
  have HB9 := hid (HB8.out.later LC.out HB8.out.lt)
  have SR9 := hid (And.intro (SR8.out.1.later LC.out) (And.intro (SR8.out.2.1.later LC.out) (And.intro (SR8.out.2.2.1.later LC.out) (SR8.out.2.2.2.later LC.out))))
  have ST9 := hid (ST8.out.later LC.out)
  have SE9 := hid (SE8.out.later LC.out)
  have SL9 := hid (And.intro (owns_later SL8.out.1 LC.out) (And.intro (owns_later SL8.out.2.1 LC.out) (And.intro (owns_later SL8.out.2.2.1 LC.out) (owns_later SL8.out.2.2.2 LC.out))))
  have SO19 := hid (And.intro (owns_later SO18.out.1 LC.out) (And.intro (owns_later SO18.out.2.1 LC.out) (And.intro (owns_later SO18.out.2.2.1 LC.out) (owns_later SO18.out.2.2.2 LC.out))))
  have SO29 := hid (And.intro (owns_later SO2.out.1 LC.out) (And.intro (owns_later SO2.out.2.1 LC.out) (And.intro (owns_later SO2.out.2.2.1 LC.out) (owns_later SO2.out.2.2.2 LC.out))))
  clear HW8 HA8 HP8 HB8 SR8 ST8 SE8 SL8 SO18 SO2
  have HC := hid (odParse_any s YC)
  go_wp2_with fail
  clear hYC
  refine Calls.mono HC.out ?_
  rintro e wB ⟨N3_, F3_, R3_, s3_, e3, k3, z3_, f3, l3, d3_, t3_, p3, q3, y3_, o3, r3, v3_, u3_, rfl, ho, ht, hb⟩
  clear HC
  have HW10 := hid (bt HW9.out hb)
  have Z10 := hid (Below.size hb)
  have HA10 := hid (HA9.out.later hb HA9.out.lt)
  have HP10 := hid (HP9.out.later hb HP9.out.lt)
  have HB10 := hid (HB9.out.later hb HB9.out.lt)
  have HC10 := hid (GC.out.later hb GC.out.lt)
  have SR10 := hid (And.intro (SR9.out.1.later hb) (And.intro (SR9.out.2.1.later hb) (And.intro (SR9.out.2.2.1.later hb) (SR9.out.2.2.2.later hb))))
  have ST10 := hid (ST9.out.later hb)
  have SE10 := hid (SE9.out.later hb)
  have SL10 := hid (And.intro (owns_later SL9.out.1 hb) (And.intro (owns_later SL9.out.2.1 hb) (And.intro (owns_later SL9.out.2.2.1 hb) (owns_later SL9.out.2.2.2 hb))))
  have SO110 := hid (And.intro (owns_later SO19.out.1 hb) (And.intro (owns_later SO19.out.2.1 hb) (And.intro (owns_later SO19.out.2.2.1 hb) (owns_later SO19.out.2.2.2 hb))))
  have SO210 := hid (And.intro (owns_later SO29.out.1 hb) (And.intro (owns_later SO29.out.2.1 hb) (And.intro (owns_later SO29.out.2.2.1 hb) (owns_later SO29.out.2.2.2 hb))))
  clear HW9 HA9 HP9 HB9 GC SR9 ST9 SE9 SL9 SO19 SO29
  obtain ⟨rfl, rfl, rfl, rfl, rfl, rfl, rfl, rfl, rfl, rfl⟩ := HT1.out.one ht
  have SD3 := hid ho
  clear ho ht hb
  have GD := hid (Box.made wB 30 #[.string N1, .int .i32 F1, .int .i32 R1, .bool s1, .slice e3 z1.length k3, .slice f3 d1.length l3, .bool t1, .slice p3 z2.length q3, .slice o3 d2.length r3])
  have LD := hid (alloc_later wB (.cells #[.string N1, .int .i32 F1, .int .i32 R1, .bool s1, .slice e3 z1.length k3, .slice f3 d1.length l3, .bool t1, .slice p3 z2.length q3, .slice o3 d2.length r3] 30))
  obtain ⟨YD, hYD⟩ : ∃ YD, wB.alloc (.cells #[.string N1, .int .i32 F1, .int .i32 R1, .bool s1, .slice e3 z1.length k3, .slice f3 d1.length l3, .bool t1, .slice p3 z2.length q3, .slice o3 d2.length r3] 30) = YD := ⟨_, rfl⟩
  rw [hYD] at GD LD
  have HW11 := hid (bt HW10.out LD.out)
  have Z11 := hid (Below.size LD.out)
  have HA11 := hid (HA10.out.later LD.out HA10.out.lt)
  have HP11 := hid (HP10.out.later LD.out HP10.out.lt)
  have HB11 := hid (HB10.out.later LD.out HB10.out.lt)
  have HC11 := hid (HC10.out.later LD.out HC10.out.lt)
  have SR11 := hid (And.intro (SR10.out.1.later LD.out) (And.intro (SR10.out.2.1.later LD.out) (And.intro (SR10.out.2.2.1.later LD.out) (SR10.out.2.2.2.later LD.out))))
  have ST11 := hid (ST10.out.later LD.out)
  have SE11 := hid (SE10.out.later LD.out)
  have SL11 := hid (And.intro (owns_later SL10.out.1 LD.out) (And.intro (owns_later SL10.out.2.1 LD.out) (And.intro (owns_later SL10.out.2.2.1 LD.out) (owns_later SL10.out.2.2.2 LD.out))))
  have SO111 := hid (And.intro (owns_later SO110.out.1 LD.out) (And.intro (owns_later SO110.out.2.1 LD.out) (And.intro (owns_later SO110.out.2.2.1 LD.out) (owns_later SO110.out.2.2.2 LD.out))))
  have SO211 := hid (And.intro (owns_later SO210.out.1 LD.out) (And.intro (owns_later SO210.out.2.1 LD.out) (And.intro (owns_later SO210.out.2.2.1 LD.out) (owns_later SO210.out.2.2.2 LD.out))))
  have SD311 := hid (And.intro (SD3.out.1.later LD.out) (And.intro (SD3.out.2.1.later LD.out) (And.intro (SD3.out.2.2.1.later LD.out) (SD3.out.2.2.2.later LD.out))))
  clear HW10 HA10 HP10 HB10 HC10 SR10 ST10 SE10 SL10 SO110 SO210 SD3
  have HF := hid HT1.out.num.few
  have HFW := hid HT1.out.num.wd
  clear HT1
  have HC := hid (oone_any N1 F1 R1 s1 t1 z1 d1 z2 d2 e1 k1 f1 l1 p1 q1 o1 r1 e2 k2 f2 l2 p2 q2 o2 r2 e3 k3 f3 l3 p3 q3 o3 r3 u1 YD ⟨Sl.own SO111.out.1 HFW.out.1, Sl.own SO111.out.2.1 HFW.out.2.1, Sl.own SO111.out.2.2.1 HFW.out.2.2.1, Sl.own SO111.out.2.2.2 HFW.out.2.2.2⟩ ⟨Sl.own SO211.out.1 HFW.out.1, Sl.own SO211.out.2.1 HFW.out.2.1, Sl.own SO211.out.2.2.1 HFW.out.2.2.1, Sl.own SO211.out.2.2.2 HFW.out.2.2.2⟩ SD311.out (by have := HF.out.1; omega) (by have := HF.out.2.1; omega) (by have := HF.out.2.2.1; omega) (by have := HF.out.2.2.2; omega))
  have clB_0 : YD.cell? ⟨w7.heap.size, 0, none⟩ = some (.string N1) := HB11.out.cell 0
  have clB_1 : YD.cell? ⟨w7.heap.size, 1, none⟩ = some (.int .i32 F1) := HB11.out.cell 1
  have clB_2 : YD.cell? ⟨w7.heap.size, 2, none⟩ = some (.int .i32 R1) := HB11.out.cell 2
  have clB_3 : YD.cell? ⟨w7.heap.size, 3, none⟩ = some (.bool s1) := HB11.out.cell 3
  have clB_4 : YD.cell? ⟨w7.heap.size, 4, none⟩ = some (.slice e1 z1.length k1) := HB11.out.cell 4
  have clB_5 : YD.cell? ⟨w7.heap.size, 5, none⟩ = some (.slice f1 d1.length l1) := HB11.out.cell 5
  have clB_6 : YD.cell? ⟨w7.heap.size, 6, none⟩ = some (.bool t1) := HB11.out.cell 6
  have clB_7 : YD.cell? ⟨w7.heap.size, 7, none⟩ = some (.slice p1 z2.length q1) := HB11.out.cell 7
  have clB_8 : YD.cell? ⟨w7.heap.size, 8, none⟩ = some (.slice o1 d2.length r1) := HB11.out.cell 8
  have clC_0 : YD.cell? ⟨w9.heap.size, 0, none⟩ = some (.string N1) := HC11.out.cell 0
  have clC_1 : YD.cell? ⟨w9.heap.size, 1, none⟩ = some (.int .i32 F1) := HC11.out.cell 1
  have clC_2 : YD.cell? ⟨w9.heap.size, 2, none⟩ = some (.int .i32 R1) := HC11.out.cell 2
  have clC_3 : YD.cell? ⟨w9.heap.size, 3, none⟩ = some (.bool s1) := HC11.out.cell 3
  have clC_4 : YD.cell? ⟨w9.heap.size, 4, none⟩ = some (.slice e2 z1.length k2) := HC11.out.cell 4
  have clC_5 : YD.cell? ⟨w9.heap.size, 5, none⟩ = some (.slice f2 d1.length l2) := HC11.out.cell 5
  have clC_6 : YD.cell? ⟨w9.heap.size, 6, none⟩ = some (.bool t1) := HC11.out.cell 6
  have clC_7 : YD.cell? ⟨w9.heap.size, 7, none⟩ = some (.slice p2 z2.length q2) := HC11.out.cell 7
  have clC_8 : YD.cell? ⟨w9.heap.size, 8, none⟩ = some (.slice o2 d2.length r2) := HC11.out.cell 8
  have clD_0 : YD.cell? ⟨wB.heap.size, 0, none⟩ = some (.string N1) := GD.out.cell 0
  have clD_1 : YD.cell? ⟨wB.heap.size, 1, none⟩ = some (.int .i32 F1) := GD.out.cell 1
  have clD_2 : YD.cell? ⟨wB.heap.size, 2, none⟩ = some (.int .i32 R1) := GD.out.cell 2
  have clD_3 : YD.cell? ⟨wB.heap.size, 3, none⟩ = some (.bool s1) := GD.out.cell 3
  have clD_4 : YD.cell? ⟨wB.heap.size, 4, none⟩ = some (.slice e3 z1.length k3) := GD.out.cell 4
  have clD_5 : YD.cell? ⟨wB.heap.size, 5, none⟩ = some (.slice f3 d1.length l3) := GD.out.cell 5
  have clD_6 : YD.cell? ⟨wB.heap.size, 6, none⟩ = some (.bool t1) := GD.out.cell 6
  have clD_7 : YD.cell? ⟨wB.heap.size, 7, none⟩ = some (.slice p3 z2.length q3) := GD.out.cell 7
  have clD_8 : YD.cell? ⟨wB.heap.size, 8, none⟩ = some (.slice o3 d2.length r3) := GD.out.cell 8
  go_wp2_with fail
  clear hYD
  refine Calls.mono HC.out ?_
  rintro e wD ⟨rfl, hb⟩
  clear clB_0 clB_1 clB_2 clB_3 clB_4 clB_5 clB_6 clB_7 clB_8 clC_0 clC_1 clC_2 clC_3 clC_4 clC_5 clC_6 clC_7 clC_8 clD_0 clD_1 clD_2 clD_3 clD_4 clD_5 clD_6 clD_7 clD_8
  clear HC
  have HW12 := hid (bt HW11.out hb)
  have Z12 := hid (Below.size hb)
  have HA12 := hid (HA11.out.later hb HA11.out.lt)
  have HP12 := hid (HP11.out.later hb HP11.out.lt)
  have HB12 := hid (HB11.out.later hb HB11.out.lt)
  have HC12 := hid (HC11.out.later hb HC11.out.lt)
  have HD12 := hid (GD.out.later hb GD.out.lt)
  have SR12 := hid (And.intro (SR11.out.1.later hb) (And.intro (SR11.out.2.1.later hb) (And.intro (SR11.out.2.2.1.later hb) (SR11.out.2.2.2.later hb))))
  have ST12 := hid (ST11.out.later hb)
  have SE12 := hid (SE11.out.later hb)
  have SL12 := hid (And.intro (owns_later SL11.out.1 hb) (And.intro (owns_later SL11.out.2.1 hb) (And.intro (owns_later SL11.out.2.2.1 hb) (owns_later SL11.out.2.2.2 hb))))
  have SO112 := hid (And.intro (owns_later SO111.out.1 hb) (And.intro (owns_later SO111.out.2.1 hb) (And.intro (owns_later SO111.out.2.2.1 hb) (owns_later SO111.out.2.2.2 hb))))
  have SO212 := hid (And.intro (owns_later SO211.out.1 hb) (And.intro (owns_later SO211.out.2.1 hb) (And.intro (owns_later SO211.out.2.2.1 hb) (owns_later SO211.out.2.2.2 hb))))
  have SD312 := hid (And.intro (SD311.out.1.later hb) (And.intro (SD311.out.2.1.later hb) (And.intro (SD311.out.2.2.1.later hb) (SD311.out.2.2.2.later hb))))
  clear HW11 HA11 HP11 HB11 HC11 GD SR11 ST11 SE11 SL11 SO111 SO211 SD311
  clear hb
  have HC := hid (okeptTide_any s0 f r n a ca xs b cb ys m c cc us d cd vs g1 c1 g2 c2 g3 c3 g4 c4 _ wD SR12.out.1 SR12.out.2.1 SR12.out.2.2.1 SR12.out.2.2.2 (by have := HLN.out.1; omega) (by have := HLN.out.2.1; omega) (by have := HLN.out.2.2.1; omega) (by have := HLN.out.2.2.2; omega) SL12.out.1 SL12.out.2.1 SL12.out.2.2.1 SL12.out.2.2.2)
  have clP_0 : wD.cell? ⟨w3.heap.size, 0, none⟩ = some (.string s0) := HP12.out.cell 0
  have clP_1 : wD.cell? ⟨w3.heap.size, 1, none⟩ = some (.int .i32 f) := HP12.out.cell 1
  have clP_2 : wD.cell? ⟨w3.heap.size, 2, none⟩ = some (.int .i32 r) := HP12.out.cell 2
  have clP_3 : wD.cell? ⟨w3.heap.size, 3, none⟩ = some (.bool n) := HP12.out.cell 3
  have clP_4 : wD.cell? ⟨w3.heap.size, 4, none⟩ = some (.slice (some ⟨g1, 0, none⟩) xs.length c1) := HP12.out.cell 4
  have clP_5 : wD.cell? ⟨w3.heap.size, 5, none⟩ = some (.slice (some ⟨g2, 0, none⟩) ys.length c2) := HP12.out.cell 5
  have clP_6 : wD.cell? ⟨w3.heap.size, 6, none⟩ = some (.bool m) := HP12.out.cell 6
  have clP_7 : wD.cell? ⟨w3.heap.size, 7, none⟩ = some (.slice (some ⟨g3, 0, none⟩) us.length c3) := HP12.out.cell 7
  have clP_8 : wD.cell? ⟨w3.heap.size, 8, none⟩ = some (.slice (some ⟨g4, 0, none⟩) vs.length c4) := HP12.out.cell 8
  have clA_0 : wD.cell? ⟨w.heap.size, 0, none⟩ = some (.string s0) := HA12.out.cell 0
  have clA_1 : wD.cell? ⟨w.heap.size, 1, none⟩ = some (.int .i32 f) := HA12.out.cell 1
  have clA_2 : wD.cell? ⟨w.heap.size, 2, none⟩ = some (.int .i32 r) := HA12.out.cell 2
  have clA_3 : wD.cell? ⟨w.heap.size, 3, none⟩ = some (.bool n) := HA12.out.cell 3
  have clA_4 : wD.cell? ⟨w.heap.size, 4, none⟩ = some (.slice a xs.length ca) := HA12.out.cell 4
  have clA_5 : wD.cell? ⟨w.heap.size, 5, none⟩ = some (.slice b ys.length cb) := HA12.out.cell 5
  have clA_6 : wD.cell? ⟨w.heap.size, 6, none⟩ = some (.bool m) := HA12.out.cell 6
  have clA_7 : wD.cell? ⟨w.heap.size, 7, none⟩ = some (.slice c us.length cc) := HA12.out.cell 7
  have clA_8 : wD.cell? ⟨w.heap.size, 8, none⟩ = some (.slice d vs.length cd) := HA12.out.cell 8
  go_wp2_with fail
  refine Calls.mono HC.out ?_
  rintro e wE ⟨rfl, hb⟩
  clear clP_0 clP_1 clP_2 clP_3 clP_4 clP_5 clP_6 clP_7 clP_8 clA_0 clA_1 clA_2 clA_3 clA_4 clA_5 clA_6 clA_7 clA_8
  clear HC
  have HW13 := hid (bt HW12.out hb)
  have Z13 := hid (Below.size hb)
  have HA13 := hid (HA12.out.later hb HA12.out.lt)
  have HP13 := hid (HP12.out.later hb HP12.out.lt)
  have HB13 := hid (HB12.out.later hb HB12.out.lt)
  have HC13 := hid (HC12.out.later hb HC12.out.lt)
  have HD13 := hid (HD12.out.later hb HD12.out.lt)
  have SR13 := hid (And.intro (SR12.out.1.later hb) (And.intro (SR12.out.2.1.later hb) (And.intro (SR12.out.2.2.1.later hb) (SR12.out.2.2.2.later hb))))
  have ST13 := hid (ST12.out.later hb)
  have SE13 := hid (SE12.out.later hb)
  have SL13 := hid (And.intro (owns_later SL12.out.1 hb) (And.intro (owns_later SL12.out.2.1 hb) (And.intro (owns_later SL12.out.2.2.1 hb) (owns_later SL12.out.2.2.2 hb))))
  have SO113 := hid (And.intro (owns_later SO112.out.1 hb) (And.intro (owns_later SO112.out.2.1 hb) (And.intro (owns_later SO112.out.2.2.1 hb) (owns_later SO112.out.2.2.2 hb))))
  have SO213 := hid (And.intro (owns_later SO212.out.1 hb) (And.intro (owns_later SO212.out.2.1 hb) (And.intro (owns_later SO212.out.2.2.1 hb) (owns_later SO212.out.2.2.2 hb))))
  have SD313 := hid (And.intro (SD312.out.1.later hb) (And.intro (SD312.out.2.1.later hb) (And.intro (SD312.out.2.2.1.later hb) (SD312.out.2.2.2.later hb))))
  clear HW12 HA12 HP12 HB12 HC12 HD12 SR12 ST12 SE12 SL12 SO112 SO212 SD312
  clear hb
  have hszB := HW13.out.size
  have hF := HF.out
  have hL := HLN.out
  have z1_ := Z1.out
  have z2_ := Z2.out
  have z3_ := Z3.out
  have z4_ := Z4.out
  have z5_ := Z5.out
  have z6_ := Z6.out
  have z7_ := Z7.out
  have z8_ := Z8.out
  have z9_ := Z9.out
  have z10_ := Z10.out
  have z11_ := Z11.out
  have z12_ := Z12.out
  have z13_ := Z13.out
  have zP := HZP.out
  have iw0 : Within (.slice (some ⟨g1, 0, none⟩) xs.length c1) w2.heap.size w3.heap.size := fun g hg => by have h1 := HG.out; simp [Value.ownBlock] at hg; omega
  have iw1 : Within (.slice (some ⟨g2, 0, none⟩) ys.length c2) w2.heap.size w3.heap.size := fun g hg => by have h1 := HG.out; simp [Value.ownBlock] at hg; omega
  have iw2 : Within (.slice (some ⟨g3, 0, none⟩) us.length c3) w2.heap.size w3.heap.size := fun g hg => by have h1 := HG.out; simp [Value.ownBlock] at hg; omega
  have iw3 : Within (.slice (some ⟨g4, 0, none⟩) vs.length c4) w2.heap.size w3.heap.size := fun g hg => by have h1 := HG.out; simp [Value.ownBlock] at hg; omega
  have pa : Kp4 (.slice (some ⟨g1, 0, none⟩) xs.length c1) (.slice (some ⟨g2, 0, none⟩) ys.length c2) (.slice (some ⟨g3, 0, none⟩) us.length c3) (.slice (some ⟨g4, 0, none⟩) vs.length c4) := by
    have h1 := HG.out
    refine ⟨.inr ?_, .inr ?_, .inr ?_, .inr ?_, .inr ?_, .inr ?_⟩ <;> simp [Value.ownBlock] <;> omega
  have aL := alloc_later wE (.cells #[.string s0, .int .i32 f, .int .i32 r, .bool n, .slice (some ⟨g1, 0, none⟩) xs.length c1, .slice (some ⟨g2, 0, none⟩) ys.length c2, .bool m, .slice (some ⟨g3, 0, none⟩) us.length c3, .slice (some ⟨g4, 0, none⟩) vs.length c4, .string N1, .int .i32 F1, .int .i32 R1, .bool s1, .slice e1 z1.length k1, .slice f1 d1.length l1, .bool t1, .slice p1 z2.length q1, .slice o1 d2.length r1, .string N1, .int .i32 F1, .int .i32 R1, .bool s1, .slice e2 z1.length k2, .slice f2 d1.length l2, .bool t1, .slice p2 z2.length q2, .slice o2 d2.length r2] 30)
  have oP : (⟨n, some ⟨g1, 0, none⟩, c1, xs, some ⟨g2, 0, none⟩, c2, ys, m, some ⟨g3, 0, none⟩, c3, us, some ⟨g4, 0, none⟩, c4, vs⟩ : G6).Ow (wE.alloc (.cells #[.string s0, .int .i32 f, .int .i32 r, .bool n, .slice (some ⟨g1, 0, none⟩) xs.length c1, .slice (some ⟨g2, 0, none⟩) ys.length c2, .bool m, .slice (some ⟨g3, 0, none⟩) us.length c3, .slice (some ⟨g4, 0, none⟩) vs.length c4, .string N1, .int .i32 F1, .int .i32 R1, .bool s1, .slice e1 z1.length k1, .slice f1 d1.length l1, .bool t1, .slice p1 z2.length q1, .slice o1 d2.length r1, .string N1, .int .i32 F1, .int .i32 R1, .bool s1, .slice e2 z1.length k2, .slice f2 d1.length l2, .bool t1, .slice p2 z2.length q2, .slice o2 d2.length r2] 30)) w.heap.size := ⟨owns_later (owns_base (klentf SL13.out.1) (by omega)) aL, owns_later (owns_base (klentf SL13.out.2.1) (by omega)) aL, owns_later (owns_base (klentf SL13.out.2.2.1) (by omega)) aL, owns_later (owns_base (klentf SL13.out.2.2.2) (by omega)) aL⟩
  have oX1 : (⟨s1, e1, k1, z1, f1, l1, d1, t1, p1, q1, z2, o1, r1, d2⟩ : G6).Ow (wE.alloc (.cells #[.string s0, .int .i32 f, .int .i32 r, .bool n, .slice (some ⟨g1, 0, none⟩) xs.length c1, .slice (some ⟨g2, 0, none⟩) ys.length c2, .bool m, .slice (some ⟨g3, 0, none⟩) us.length c3, .slice (some ⟨g4, 0, none⟩) vs.length c4, .string N1, .int .i32 F1, .int .i32 R1, .bool s1, .slice e1 z1.length k1, .slice f1 d1.length l1, .bool t1, .slice p1 z2.length q1, .slice o1 d2.length r1, .string N1, .int .i32 F1, .int .i32 R1, .bool s1, .slice e2 z1.length k2, .slice f2 d1.length l2, .bool t1, .slice p2 z2.length q2, .slice o2 d2.length r2] 30)) w.heap.size := ⟨owns_later (owns_base SO113.out.1 (by omega)) aL, owns_later (owns_base SO113.out.2.1 (by omega)) aL, owns_later (owns_base SO113.out.2.2.1 (by omega)) aL, owns_later (owns_base SO113.out.2.2.2 (by omega)) aL⟩
  have oX2 : (⟨s1, e2, k2, z1, f2, l2, d1, t1, p2, q2, z2, o2, r2, d2⟩ : G6).Ow (wE.alloc (.cells #[.string s0, .int .i32 f, .int .i32 r, .bool n, .slice (some ⟨g1, 0, none⟩) xs.length c1, .slice (some ⟨g2, 0, none⟩) ys.length c2, .bool m, .slice (some ⟨g3, 0, none⟩) us.length c3, .slice (some ⟨g4, 0, none⟩) vs.length c4, .string N1, .int .i32 F1, .int .i32 R1, .bool s1, .slice e1 z1.length k1, .slice f1 d1.length l1, .bool t1, .slice p1 z2.length q1, .slice o1 d2.length r1, .string N1, .int .i32 F1, .int .i32 R1, .bool s1, .slice e2 z1.length k2, .slice f2 d1.length l2, .bool t1, .slice p2 z2.length q2, .slice o2 d2.length r2] 30)) w.heap.size := ⟨owns_later (owns_base SO213.out.1 (by omega)) aL, owns_later (owns_base SO213.out.2.1 (by omega)) aL, owns_later (owns_base SO213.out.2.2.1 (by omega)) aL, owns_later (owns_base SO213.out.2.2.2 (by omega)) aL⟩
  have hk9 : ∀ V, Below (wE.alloc (.cells #[.string s0, .int .i32 f, .int .i32 r, .bool n, .slice (some ⟨g1, 0, none⟩) xs.length c1, .slice (some ⟨g2, 0, none⟩) ys.length c2, .bool m, .slice (some ⟨g3, 0, none⟩) us.length c3, .slice (some ⟨g4, 0, none⟩) vs.length c4, .string N1, .int .i32 F1, .int .i32 R1, .bool s1, .slice e1 z1.length k1, .slice f1 d1.length l1, .bool t1, .slice p1 z2.length q1, .slice o1 d2.length r1, .string N1, .int .i32 F1, .int .i32 R1, .bool s1, .slice e2 z1.length k2, .slice f2 d1.length l2, .bool t1, .slice p2 z2.length q2, .slice o2 d2.length r2] 30)).heap.size (wE.alloc (.cells #[.string s0, .int .i32 f, .int .i32 r, .bool n, .slice (some ⟨g1, 0, none⟩) xs.length c1, .slice (some ⟨g2, 0, none⟩) ys.length c2, .bool m, .slice (some ⟨g3, 0, none⟩) us.length c3, .slice (some ⟨g4, 0, none⟩) vs.length c4, .string N1, .int .i32 F1, .int .i32 R1, .bool s1, .slice e1 z1.length k1, .slice f1 d1.length l1, .bool t1, .slice p1 z2.length q1, .slice o1 d2.length r1, .string N1, .int .i32 F1, .int .i32 R1, .bool s1, .slice e2 z1.length k2, .slice f2 d1.length l2, .bool t1, .slice p2 z2.length q2, .slice o2 d2.length r2] 30)) V → ∀ k, k < 3 → V.cell? ⟨wE.heap.size, k * 9 + 3, none⟩ = some (.bool (oThree (⟨n, some ⟨g1, 0, none⟩, c1, xs, some ⟨g2, 0, none⟩, c2, ys, m, some ⟨g3, 0, none⟩, c3, us, some ⟨g4, 0, none⟩, c4, vs⟩ : G6) (⟨s1, e1, k1, z1, f1, l1, d1, t1, p1, q1, z2, o1, r1, d2⟩ : G6) (⟨s1, e2, k2, z1, f2, l2, d1, t1, p2, q2, z2, o2, r2, d2⟩ : G6) k).n) ∧ V.cell? ⟨wE.heap.size, k * 9 + 4, none⟩ = some (.slice (oThree (⟨n, some ⟨g1, 0, none⟩, c1, xs, some ⟨g2, 0, none⟩, c2, ys, m, some ⟨g3, 0, none⟩, c3, us, some ⟨g4, 0, none⟩, c4, vs⟩ : G6) (⟨s1, e1, k1, z1, f1, l1, d1, t1, p1, q1, z2, o1, r1, d2⟩ : G6) (⟨s1, e2, k2, z1, f2, l2, d1, t1, p2, q2, z2, o2, r2, d2⟩ : G6) k).a (oThree (⟨n, some ⟨g1, 0, none⟩, c1, xs, some ⟨g2, 0, none⟩, c2, ys, m, some ⟨g3, 0, none⟩, c3, us, some ⟨g4, 0, none⟩, c4, vs⟩ : G6) (⟨s1, e1, k1, z1, f1, l1, d1, t1, p1, q1, z2, o1, r1, d2⟩ : G6) (⟨s1, e2, k2, z1, f2, l2, d1, t1, p2, q2, z2, o2, r2, d2⟩ : G6) k).xs.length (oThree (⟨n, some ⟨g1, 0, none⟩, c1, xs, some ⟨g2, 0, none⟩, c2, ys, m, some ⟨g3, 0, none⟩, c3, us, some ⟨g4, 0, none⟩, c4, vs⟩ : G6) (⟨s1, e1, k1, z1, f1, l1, d1, t1, p1, q1, z2, o1, r1, d2⟩ : G6) (⟨s1, e2, k2, z1, f2, l2, d1, t1, p2, q2, z2, o2, r2, d2⟩ : G6) k).ca) ∧ V.cell? ⟨wE.heap.size, k * 9 + 5, none⟩ = some (.slice (oThree (⟨n, some ⟨g1, 0, none⟩, c1, xs, some ⟨g2, 0, none⟩, c2, ys, m, some ⟨g3, 0, none⟩, c3, us, some ⟨g4, 0, none⟩, c4, vs⟩ : G6) (⟨s1, e1, k1, z1, f1, l1, d1, t1, p1, q1, z2, o1, r1, d2⟩ : G6) (⟨s1, e2, k2, z1, f2, l2, d1, t1, p2, q2, z2, o2, r2, d2⟩ : G6) k).b (oThree (⟨n, some ⟨g1, 0, none⟩, c1, xs, some ⟨g2, 0, none⟩, c2, ys, m, some ⟨g3, 0, none⟩, c3, us, some ⟨g4, 0, none⟩, c4, vs⟩ : G6) (⟨s1, e1, k1, z1, f1, l1, d1, t1, p1, q1, z2, o1, r1, d2⟩ : G6) (⟨s1, e2, k2, z1, f2, l2, d1, t1, p2, q2, z2, o2, r2, d2⟩ : G6) k).ys.length (oThree (⟨n, some ⟨g1, 0, none⟩, c1, xs, some ⟨g2, 0, none⟩, c2, ys, m, some ⟨g3, 0, none⟩, c3, us, some ⟨g4, 0, none⟩, c4, vs⟩ : G6) (⟨s1, e1, k1, z1, f1, l1, d1, t1, p1, q1, z2, o1, r1, d2⟩ : G6) (⟨s1, e2, k2, z1, f2, l2, d1, t1, p2, q2, z2, o2, r2, d2⟩ : G6) k).cb) ∧ V.cell? ⟨wE.heap.size, k * 9 + 6, none⟩ = some (.bool (oThree (⟨n, some ⟨g1, 0, none⟩, c1, xs, some ⟨g2, 0, none⟩, c2, ys, m, some ⟨g3, 0, none⟩, c3, us, some ⟨g4, 0, none⟩, c4, vs⟩ : G6) (⟨s1, e1, k1, z1, f1, l1, d1, t1, p1, q1, z2, o1, r1, d2⟩ : G6) (⟨s1, e2, k2, z1, f2, l2, d1, t1, p2, q2, z2, o2, r2, d2⟩ : G6) k).m) ∧ V.cell? ⟨wE.heap.size, k * 9 + 7, none⟩ = some (.slice (oThree (⟨n, some ⟨g1, 0, none⟩, c1, xs, some ⟨g2, 0, none⟩, c2, ys, m, some ⟨g3, 0, none⟩, c3, us, some ⟨g4, 0, none⟩, c4, vs⟩ : G6) (⟨s1, e1, k1, z1, f1, l1, d1, t1, p1, q1, z2, o1, r1, d2⟩ : G6) (⟨s1, e2, k2, z1, f2, l2, d1, t1, p2, q2, z2, o2, r2, d2⟩ : G6) k).c (oThree (⟨n, some ⟨g1, 0, none⟩, c1, xs, some ⟨g2, 0, none⟩, c2, ys, m, some ⟨g3, 0, none⟩, c3, us, some ⟨g4, 0, none⟩, c4, vs⟩ : G6) (⟨s1, e1, k1, z1, f1, l1, d1, t1, p1, q1, z2, o1, r1, d2⟩ : G6) (⟨s1, e2, k2, z1, f2, l2, d1, t1, p2, q2, z2, o2, r2, d2⟩ : G6) k).us.length (oThree (⟨n, some ⟨g1, 0, none⟩, c1, xs, some ⟨g2, 0, none⟩, c2, ys, m, some ⟨g3, 0, none⟩, c3, us, some ⟨g4, 0, none⟩, c4, vs⟩ : G6) (⟨s1, e1, k1, z1, f1, l1, d1, t1, p1, q1, z2, o1, r1, d2⟩ : G6) (⟨s1, e2, k2, z1, f2, l2, d1, t1, p2, q2, z2, o2, r2, d2⟩ : G6) k).cc) ∧ V.cell? ⟨wE.heap.size, k * 9 + 8, none⟩ = some (.slice (oThree (⟨n, some ⟨g1, 0, none⟩, c1, xs, some ⟨g2, 0, none⟩, c2, ys, m, some ⟨g3, 0, none⟩, c3, us, some ⟨g4, 0, none⟩, c4, vs⟩ : G6) (⟨s1, e1, k1, z1, f1, l1, d1, t1, p1, q1, z2, o1, r1, d2⟩ : G6) (⟨s1, e2, k2, z1, f2, l2, d1, t1, p2, q2, z2, o2, r2, d2⟩ : G6) k).d (oThree (⟨n, some ⟨g1, 0, none⟩, c1, xs, some ⟨g2, 0, none⟩, c2, ys, m, some ⟨g3, 0, none⟩, c3, us, some ⟨g4, 0, none⟩, c4, vs⟩ : G6) (⟨s1, e1, k1, z1, f1, l1, d1, t1, p1, q1, z2, o1, r1, d2⟩ : G6) (⟨s1, e2, k2, z1, f2, l2, d1, t1, p2, q2, z2, o2, r2, d2⟩ : G6) k).vs.length (oThree (⟨n, some ⟨g1, 0, none⟩, c1, xs, some ⟨g2, 0, none⟩, c2, ys, m, some ⟨g3, 0, none⟩, c3, us, some ⟨g4, 0, none⟩, c4, vs⟩ : G6) (⟨s1, e1, k1, z1, f1, l1, d1, t1, p1, q1, z2, o1, r1, d2⟩ : G6) (⟨s1, e2, k2, z1, f2, l2, d1, t1, p2, q2, z2, o2, r2, d2⟩ : G6) k).cd) := fun V hV k hk => by
    have hb9 := (Box.made wE 30 #[.string s0, .int .i32 f, .int .i32 r, .bool n, .slice (some ⟨g1, 0, none⟩) xs.length c1, .slice (some ⟨g2, 0, none⟩) ys.length c2, .bool m, .slice (some ⟨g3, 0, none⟩) us.length c3, .slice (some ⟨g4, 0, none⟩) vs.length c4, .string N1, .int .i32 F1, .int .i32 R1, .bool s1, .slice e1 z1.length k1, .slice f1 d1.length l1, .bool t1, .slice p1 z2.length q1, .slice o1 d2.length r1, .string N1, .int .i32 F1, .int .i32 R1, .bool s1, .slice e2 z1.length k2, .slice f2 d1.length l2, .bool t1, .slice p2 z2.length q2, .slice o2 d2.length r2]).later hV (Box.made wE 30 #[.string s0, .int .i32 f, .int .i32 r, .bool n, .slice (some ⟨g1, 0, none⟩) xs.length c1, .slice (some ⟨g2, 0, none⟩) ys.length c2, .bool m, .slice (some ⟨g3, 0, none⟩) us.length c3, .slice (some ⟨g4, 0, none⟩) vs.length c4, .string N1, .int .i32 F1, .int .i32 R1, .bool s1, .slice e1 z1.length k1, .slice f1 d1.length l1, .bool t1, .slice p1 z2.length q1, .slice o1 d2.length r1, .string N1, .int .i32 F1, .int .i32 R1, .bool s1, .slice e2 z1.length k2, .slice f2 d1.length l2, .bool t1, .slice p2 z2.length q2, .slice o2 d2.length r2]).lt
    match k, hk with
    | 0, _ => exact ⟨hb9.cell 3, hb9.cell 4, hb9.cell 5, hb9.cell 6, hb9.cell 7, hb9.cell 8⟩
    | 1, _ => exact ⟨hb9.cell 12, hb9.cell 13, hb9.cell 14, hb9.cell 15, hb9.cell 16, hb9.cell 17⟩
    | 2, _ => exact ⟨hb9.cell 21, hb9.cell 22, hb9.cell 23, hb9.cell 24, hb9.cell 25, hb9.cell 26⟩
  have hp4 : (⟨n, some ⟨g1, 0, none⟩, c1, xs, some ⟨g2, 0, none⟩, c2, ys, m, some ⟨g3, 0, none⟩, c3, us, some ⟨g4, 0, none⟩, c4, vs⟩ : G6).Wds ∧ (∀ j, j < 4 → ((⟨n, some ⟨g1, 0, none⟩, c1, xs, some ⟨g2, 0, none⟩, c2, ys, m, some ⟨g3, 0, none⟩, c3, us, some ⟨g4, 0, none⟩, c4, vs⟩ : G6).rl j).length ≤ 3000) ∧ (⟨n, some ⟨g1, 0, none⟩, c1, xs, some ⟨g2, 0, none⟩, c2, ys, m, some ⟨g3, 0, none⟩, c3, us, some ⟨g4, 0, none⟩, c4, vs⟩ : G6).Ow (wE.alloc (.cells #[.string s0, .int .i32 f, .int .i32 r, .bool n, .slice (some ⟨g1, 0, none⟩) xs.length c1, .slice (some ⟨g2, 0, none⟩) ys.length c2, .bool m, .slice (some ⟨g3, 0, none⟩) us.length c3, .slice (some ⟨g4, 0, none⟩) vs.length c4, .string N1, .int .i32 F1, .int .i32 R1, .bool s1, .slice e1 z1.length k1, .slice f1 d1.length l1, .bool t1, .slice p1 z2.length q1, .slice o1 d2.length r1, .string N1, .int .i32 F1, .int .i32 R1, .bool s1, .slice e2 z1.length k2, .slice f2 d1.length l2, .bool t1, .slice p2 z2.length q2, .slice o2 d2.length r2] 30)) w.heap.size ∧ (⟨n, some ⟨g1, 0, none⟩, c1, xs, some ⟨g2, 0, none⟩, c2, ys, m, some ⟨g3, 0, none⟩, c3, us, some ⟨g4, 0, none⟩, c4, vs⟩ : G6).In w2.heap.size w3.heap.size := ⟨HWD.out, G6.four (P := fun j => (G6.rl (⟨n, some ⟨g1, 0, none⟩, c1, xs, some ⟨g2, 0, none⟩, c2, ys, m, some ⟨g3, 0, none⟩, c3, us, some ⟨g4, 0, none⟩, c4, vs⟩ : G6) j).length ≤ 3000) hL.1 hL.2.1 hL.2.2.1 hL.2.2.2, oP, pa, G6.four iw0 iw1 iw2 iw3⟩
  have zf1 : z1.length ≤ 3000 := by omega
  have zf2 : d1.length ≤ 3000 := by omega
  have zf3 : z2.length ≤ 3000 := by omega
  have zf4 : d2.length ≤ 3000 := by omega
  have HAP := hid (oNumbers3 wE.heap.size (⟨n, some ⟨g1, 0, none⟩, c1, xs, some ⟨g2, 0, none⟩, c2, ys, m, some ⟨g3, 0, none⟩, c3, us, some ⟨g4, 0, none⟩, c4, vs⟩ : G6) (⟨s1, e1, k1, z1, f1, l1, d1, t1, p1, q1, z2, o1, r1, d2⟩ : G6) (⟨s1, e2, k2, z1, f2, l2, d1, t1, p2, q2, z2, o2, r2, d2⟩ : G6) (wE.alloc (.cells #[.string s0, .int .i32 f, .int .i32 r, .bool n, .slice (some ⟨g1, 0, none⟩) xs.length c1, .slice (some ⟨g2, 0, none⟩) ys.length c2, .bool m, .slice (some ⟨g3, 0, none⟩) us.length c3, .slice (some ⟨g4, 0, none⟩) vs.length c4, .string N1, .int .i32 F1, .int .i32 R1, .bool s1, .slice e1 z1.length k1, .slice f1 d1.length l1, .bool t1, .slice p1 z2.length q1, .slice o1 d2.length r1, .string N1, .int .i32 F1, .int .i32 R1, .bool s1, .slice e2 z1.length k2, .slice f2 d1.length l2, .bool t1, .slice p2 z2.length q2, .slice o2 d2.length r2] 30)) hk9 w.heap.size w2.heap.size w3.heap.size _ _ _ _ (by simp; omega) hp4 ⟨HFW.out, G6.four (P := fun j => (G6.rl (⟨s1, e1, k1, z1, f1, l1, d1, t1, p1, q1, z2, o1, r1, d2⟩ : G6) j).length ≤ 3000) zf1 zf2 zf3 zf4, oX1, HI1.out.1, G6.four HI1.out.2.1 HI1.out.2.2.1 HI1.out.2.2.2.1 HI1.out.2.2.2.2⟩ ⟨HFW.out, G6.four (P := fun j => (G6.rl (⟨s1, e2, k2, z1, f2, l2, d1, t1, p2, q2, z2, o2, r2, d2⟩ : G6) j).length ≤ 3000) zf1 zf2 zf3 zf4, oX2, HI2.out.1, G6.four HI2.out.2.1 HI2.out.2.2.1 HI2.out.2.2.2.1 HI2.out.2.2.2.2⟩ ⟨by omega, by omega⟩ ⟨by omega, by omega⟩ (by omega))
  clear hk9 hp4 oP oX1 oX2 zf1 zf2 zf3 zf4 aL iw0 iw1 iw2 iw3 pa hF hL hszB zP z1_ z2_ z3_ z4_ z5_ z6_ z7_ z8_ z9_ z10_ z11_ z12_ z13_
  have HBB := hid HW13.out
  obtain ⟨YE, hYE⟩ : ∃ YE, wE.alloc (.cells #[.string s0, .int .i32 f, .int .i32 r, .bool n, .slice (some ⟨g1, 0, none⟩) xs.length c1, .slice (some ⟨g2, 0, none⟩) ys.length c2, .bool m, .slice (some ⟨g3, 0, none⟩) us.length c3, .slice (some ⟨g4, 0, none⟩) vs.length c4, .string N1, .int .i32 F1, .int .i32 R1, .bool s1, .slice e1 z1.length k1, .slice f1 d1.length l1, .bool t1, .slice p1 z2.length q1, .slice o1 d2.length r1, .string N1, .int .i32 F1, .int .i32 R1, .bool s1, .slice e2 z1.length k2, .slice f2 d1.length l2, .bool t1, .slice p2 z2.length q2, .slice o2 d2.length r2] 30) = YE := ⟨_, rfl⟩
  rw [hYE] at HAP
  have hlE : Below w.heap.size w YE := by rw [← hYE]; exact bt HBB.out (alloc_later _ _)
  have HLE := hid hlE
  clear hlE
  have clP_0 : wE.cell? ⟨w3.heap.size, 0, none⟩ = some (.string s0) := HP13.out.cell 0
  have clP_1 : wE.cell? ⟨w3.heap.size, 1, none⟩ = some (.int .i32 f) := HP13.out.cell 1
  have clP_2 : wE.cell? ⟨w3.heap.size, 2, none⟩ = some (.int .i32 r) := HP13.out.cell 2
  have clP_3 : wE.cell? ⟨w3.heap.size, 3, none⟩ = some (.bool n) := HP13.out.cell 3
  have clP_4 : wE.cell? ⟨w3.heap.size, 4, none⟩ = some (.slice (some ⟨g1, 0, none⟩) xs.length c1) := HP13.out.cell 4
  have clP_5 : wE.cell? ⟨w3.heap.size, 5, none⟩ = some (.slice (some ⟨g2, 0, none⟩) ys.length c2) := HP13.out.cell 5
  have clP_6 : wE.cell? ⟨w3.heap.size, 6, none⟩ = some (.bool m) := HP13.out.cell 6
  have clP_7 : wE.cell? ⟨w3.heap.size, 7, none⟩ = some (.slice (some ⟨g3, 0, none⟩) us.length c3) := HP13.out.cell 7
  have clP_8 : wE.cell? ⟨w3.heap.size, 8, none⟩ = some (.slice (some ⟨g4, 0, none⟩) vs.length c4) := HP13.out.cell 8
  have clB_0 : wE.cell? ⟨w7.heap.size, 0, none⟩ = some (.string N1) := HB13.out.cell 0
  have clB_1 : wE.cell? ⟨w7.heap.size, 1, none⟩ = some (.int .i32 F1) := HB13.out.cell 1
  have clB_2 : wE.cell? ⟨w7.heap.size, 2, none⟩ = some (.int .i32 R1) := HB13.out.cell 2
  have clB_3 : wE.cell? ⟨w7.heap.size, 3, none⟩ = some (.bool s1) := HB13.out.cell 3
  have clB_4 : wE.cell? ⟨w7.heap.size, 4, none⟩ = some (.slice e1 z1.length k1) := HB13.out.cell 4
  have clB_5 : wE.cell? ⟨w7.heap.size, 5, none⟩ = some (.slice f1 d1.length l1) := HB13.out.cell 5
  have clB_6 : wE.cell? ⟨w7.heap.size, 6, none⟩ = some (.bool t1) := HB13.out.cell 6
  have clB_7 : wE.cell? ⟨w7.heap.size, 7, none⟩ = some (.slice p1 z2.length q1) := HB13.out.cell 7
  have clB_8 : wE.cell? ⟨w7.heap.size, 8, none⟩ = some (.slice o1 d2.length r1) := HB13.out.cell 8
  have clC_0 : wE.cell? ⟨w9.heap.size, 0, none⟩ = some (.string N1) := HC13.out.cell 0
  have clC_1 : wE.cell? ⟨w9.heap.size, 1, none⟩ = some (.int .i32 F1) := HC13.out.cell 1
  have clC_2 : wE.cell? ⟨w9.heap.size, 2, none⟩ = some (.int .i32 R1) := HC13.out.cell 2
  have clC_3 : wE.cell? ⟨w9.heap.size, 3, none⟩ = some (.bool s1) := HC13.out.cell 3
  have clC_4 : wE.cell? ⟨w9.heap.size, 4, none⟩ = some (.slice e2 z1.length k2) := HC13.out.cell 4
  have clC_5 : wE.cell? ⟨w9.heap.size, 5, none⟩ = some (.slice f2 d1.length l2) := HC13.out.cell 5
  have clC_6 : wE.cell? ⟨w9.heap.size, 6, none⟩ = some (.bool t1) := HC13.out.cell 6
  have clC_7 : wE.cell? ⟨w9.heap.size, 7, none⟩ = some (.slice p2 z2.length q2) := HC13.out.cell 7
  have clC_8 : wE.cell? ⟨w9.heap.size, 8, none⟩ = some (.slice o2 d2.length r2) := HC13.out.cell 8
  go_wp2_with fail
  refine Calls.mono HAP.out ?_
  rintro e wF ⟨qq, dd, rfl, hbE, HAQ⟩
  have HBE := hid (bt HLE.out hbE)
  clear hbE HAP
  clear clP_0 clP_1 clP_2 clP_3 clP_4 clP_5 clP_6 clP_7 clP_8 clB_0 clB_1 clB_2 clB_3 clB_4 clB_5 clB_6 clB_7 clB_8 clC_0 clC_1 clC_2 clC_3 clC_4 clC_5 clC_6 clC_7 clC_8
  go_wp2_with fail
  refine Calls.mono HAQ.out ?_
  rintro e wG ⟨rfl, hbG⟩
  have HBG := hid (HBE.out.trans hbG)
  clear hbG HAQ
  go_wp2_with fail
  go_ret
  exact ⟨rfl, HBG.out⟩
set_option maxHeartbeats 6400000 in
set_option maxRecDepth 100000 in
theorem tideTexts_long (s0 : ByteArray) (f r : Int) (n : Bool) (a : Option Addr) (ca : Nat) (xs : List Int) (b : Option Addr) (cb : Nat) (ys : List Int) (m : Bool) (c : Option Addr) (cc : Nat) (us : List Int) (d : Option Addr) (cd : Nat) (vs : List Int) (s : ByteArray) (w : World) (hz : s0.size ≤ 9223372036854775807) (hr : in32 f r) (hT : Tab w) (herr : ErrT w) (sx : Sl w (.slice a xs.length ca) xs) (sy : Sl w (.slice b ys.length cb) ys) (su : Sl w (.slice c us.length cc) us) (sw : Sl w (.slice d vs.length cd) vs) (lx : xs.length ≤ 3000) (ly : ys.length ≤ 3000) (lu : us.length ≤ 3000) (lv : vs.length ≤ 3000) (q1 : smallL xs.length 60 = true) (q2 : smallL ys.length 60 = true) (q3 : smallL us.length 60 = true) (q4 : smallL vs.length 60 = true) (hs : 65536 < s.size) (hs' : s.size ≤ 65545) :
    Calls Tryz.prog 3 #[.agg #[.string s0, .int .i32 f, .int .i32 r, .bool n, .slice a xs.length ca, .slice b ys.length cb, .bool m, .slice c us.length cc, .slice d vs.length cd], .string s] w fun e w' => e = .returned (.bool true) ∧ Below w.heap.size w w' := by
  obtain ⟨P, hP⟩ : ∃ P, w.alloc (.cells #[.string s0, .int .i32 f, .int .i32 r, .bool n, .slice a xs.length ca, .slice b ys.length cb, .bool m, .slice c us.length cc, .slice d vs.length cd] 30) = P := ⟨_, rfl⟩
  have b1 : Below w.heap.size w P := by rw [← hP]; exact alloc_later _ _
  have HW0 := hid b1
  have HZP := hid b1.size
  have HA0 : Hid (Box P w.heap.size 30 #[.string s0, .int .i32 f, .int .i32 r, .bool n, .slice a xs.length ca, .slice b ys.length cb, .bool m, .slice c us.length cc, .slice d vs.length cd]) := by rw [← hP]; exact Box.made w _ _
  have SR0 := hid (And.intro (sx.later b1) (And.intro (sy.later b1) (And.intro (su.later b1) (sw.later b1))))
  have ST0 := hid (hT.later b1)
  have SE0 := hid (herr.later b1)
  have HZ0 := hid hz
  have HR := hid hr
  have HQ := hid (And.intro q1 (And.intro q2 (And.intro q3 q4)))
  have HWD := hid (And.intro sx.wd (And.intro sy.wd (And.intro su.wd sw.wd)))
  have HSZ : Hid (s.size ≤ 281474976710656) := by show _ ≤ _; omega
  have HLN : Hid (xs.length ≤ 3000 ∧ ys.length ≤ 3000 ∧ us.length ≤ 3000 ∧ vs.length ≤ 3000) := ⟨lx, ly, lu, lv⟩
  have z1_ : decide ((3000 : Int) < (s.size : Int)) = true := decide_eq_true (by omega)
  have z2_ : decide ((s.size : Int) ≤ (65536 : Int)) = false := decide_eq_false (by omega)
  have z3_ : decide ((65545 : Int) < (s.size : Int)) = false := decide_eq_false (by omega)
  clear sx sy su sw hT herr hz hr b1 lx ly lu lv hs hs'
  have HS1 := hid (tSmall_any s0 f r n a xs.length ca b ys.length cb m c us.length cc d vs.length cd 60 P)
  rw [q1, q2, q3, q4, show (true && true) = true from rfl, show (true && true) = true from rfl] at HS1
  clear q1 q2 q3 q4
  go_enter Tryz.func3, Tryz.ntmps3
  have HC := hid (HS1.out)
  have clA_0 : P.cell? ⟨w.heap.size, 0, none⟩ = some (.string s0) := HA0.out.cell 0
  have clA_1 : P.cell? ⟨w.heap.size, 1, none⟩ = some (.int .i32 f) := HA0.out.cell 1
  have clA_2 : P.cell? ⟨w.heap.size, 2, none⟩ = some (.int .i32 r) := HA0.out.cell 2
  have clA_3 : P.cell? ⟨w.heap.size, 3, none⟩ = some (.bool n) := HA0.out.cell 3
  have clA_4 : P.cell? ⟨w.heap.size, 4, none⟩ = some (.slice a xs.length ca) := HA0.out.cell 4
  have clA_5 : P.cell? ⟨w.heap.size, 5, none⟩ = some (.slice b ys.length cb) := HA0.out.cell 5
  have clA_6 : P.cell? ⟨w.heap.size, 6, none⟩ = some (.bool m) := HA0.out.cell 6
  have clA_7 : P.cell? ⟨w.heap.size, 7, none⟩ = some (.slice c us.length cc) := HA0.out.cell 7
  have clA_8 : P.cell? ⟨w.heap.size, 8, none⟩ = some (.slice d vs.length cd) := HA0.out.cell 8
  go_wp2_with fail
  clear hP
  refine Calls.mono HC.out ?_
  rintro e w2 ⟨rfl, hb⟩
  clear clA_0 clA_1 clA_2 clA_3 clA_4 clA_5 clA_6 clA_7 clA_8
  clear HC
  have HW1 := hid (bt HW0.out hb)
  have Z1 := hid (Below.size hb)
  have HA1 := hid (HA0.out.later hb HA0.out.lt)
  have SR1 := hid (And.intro (SR0.out.1.later hb) (And.intro (SR0.out.2.1.later hb) (And.intro (SR0.out.2.2.1.later hb) (SR0.out.2.2.2.later hb))))
  have ST1 := hid (ST0.out.later hb)
  have SE1 := hid (SE0.out.later hb)
  clear HW0 HA0 SR0 ST0 SE0
  clear hb HS1
  have HC := hid (olentTide_any s0 f r n a ca xs b cb ys m c cc us d cd vs w2 SR1.out.1 SR1.out.2.1 SR1.out.2.2.1 SR1.out.2.2.2 (by have := HLN.out.1; omega) (by have := HLN.out.2.1; omega) (by have := HLN.out.2.2.1; omega) (by have := HLN.out.2.2.2; omega))
  have clA_0 : w2.cell? ⟨w.heap.size, 0, none⟩ = some (.string s0) := HA1.out.cell 0
  have clA_1 : w2.cell? ⟨w.heap.size, 1, none⟩ = some (.int .i32 f) := HA1.out.cell 1
  have clA_2 : w2.cell? ⟨w.heap.size, 2, none⟩ = some (.int .i32 r) := HA1.out.cell 2
  have clA_3 : w2.cell? ⟨w.heap.size, 3, none⟩ = some (.bool n) := HA1.out.cell 3
  have clA_4 : w2.cell? ⟨w.heap.size, 4, none⟩ = some (.slice a xs.length ca) := HA1.out.cell 4
  have clA_5 : w2.cell? ⟨w.heap.size, 5, none⟩ = some (.slice b ys.length cb) := HA1.out.cell 5
  have clA_6 : w2.cell? ⟨w.heap.size, 6, none⟩ = some (.bool m) := HA1.out.cell 6
  have clA_7 : w2.cell? ⟨w.heap.size, 7, none⟩ = some (.slice c us.length cc) := HA1.out.cell 7
  have clA_8 : w2.cell? ⟨w.heap.size, 8, none⟩ = some (.slice d vs.length cd) := HA1.out.cell 8
  go_wp2_with fail
  refine Calls.mono HC.out ?_
  rintro e w3 ⟨g1, c1, g2, c2, g3, c3, g4, c4, rfl, ho, hg, hb⟩
  clear clA_0 clA_1 clA_2 clA_3 clA_4 clA_5 clA_6 clA_7 clA_8
  clear HC
  have HW2 := hid (bt HW1.out hb)
  have Z2 := hid (Below.size hb)
  have HA2 := hid (HA1.out.later hb HA1.out.lt)
  have SR2 := hid (And.intro (SR1.out.1.later hb) (And.intro (SR1.out.2.1.later hb) (And.intro (SR1.out.2.2.1.later hb) (SR1.out.2.2.2.later hb))))
  have ST2 := hid (ST1.out.later hb)
  have SE2 := hid (SE1.out.later hb)
  clear HW1 HA1 SR1 ST1 SE1
  have HG : Hid (w2.heap.size ≤ g1 ∧ g1 < g2 ∧ g2 < g3 ∧ g3 < g4 ∧ g4 < w3.heap.size) := ⟨(ho.1.lt g1 rfl).1, hg.1, hg.2.1, hg.2.2, (ho.2.2.2.lt g4 rfl).2⟩
  have SL0 := hid ho
  clear z1_ z3_ z2_
  clear ho hg hb
  have GP := hid (Box.made w3 30 #[.string s0, .int .i32 f, .int .i32 r, .bool n, .slice (some ⟨g1, 0, none⟩) xs.length c1, .slice (some ⟨g2, 0, none⟩) ys.length c2, .bool m, .slice (some ⟨g3, 0, none⟩) us.length c3, .slice (some ⟨g4, 0, none⟩) vs.length c4])
  have LP := hid (alloc_later w3 (.cells #[.string s0, .int .i32 f, .int .i32 r, .bool n, .slice (some ⟨g1, 0, none⟩) xs.length c1, .slice (some ⟨g2, 0, none⟩) ys.length c2, .bool m, .slice (some ⟨g3, 0, none⟩) us.length c3, .slice (some ⟨g4, 0, none⟩) vs.length c4] 30))
  obtain ⟨YP, hYP⟩ : ∃ YP, w3.alloc (.cells #[.string s0, .int .i32 f, .int .i32 r, .bool n, .slice (some ⟨g1, 0, none⟩) xs.length c1, .slice (some ⟨g2, 0, none⟩) ys.length c2, .bool m, .slice (some ⟨g3, 0, none⟩) us.length c3, .slice (some ⟨g4, 0, none⟩) vs.length c4] 30) = YP := ⟨_, rfl⟩
  rw [hYP] at GP LP
  have HW3 := hid (bt HW2.out LP.out)
  have Z3 := hid (Below.size LP.out)
  have HA3 := hid (HA2.out.later LP.out HA2.out.lt)
  have SR3 := hid (And.intro (SR2.out.1.later LP.out) (And.intro (SR2.out.2.1.later LP.out) (And.intro (SR2.out.2.2.1.later LP.out) (SR2.out.2.2.2.later LP.out))))
  have ST3 := hid (ST2.out.later LP.out)
  have SE3 := hid (SE2.out.later LP.out)
  have SL3 := hid (And.intro (owns_later SL0.out.1 LP.out) (And.intro (owns_later SL0.out.2.1 LP.out) (And.intro (owns_later SL0.out.2.2.1 LP.out) (owns_later SL0.out.2.2.2 LP.out))))
  clear HW2 HA2 SR2 ST2 SE2 SL0
  have HC := hid (oPrint_any s0 f r n (some ⟨g1, 0, none⟩) c1 xs (some ⟨g2, 0, none⟩) c2 ys m (some ⟨g3, 0, none⟩) c3 us (some ⟨g4, 0, none⟩) c4 vs YP HZ0.out HR.out (Sl.own (klentf SL3.out.1) HWD.out.1) (Sl.own (klentf SL3.out.2.1) HWD.out.2.1) (Sl.own (klentf SL3.out.2.2.1) HWD.out.2.2.1) (Sl.own (klentf SL3.out.2.2.2) HWD.out.2.2.2) ST3.out HQ.out.1 HQ.out.2.1 HQ.out.2.2.1 HQ.out.2.2.2)
  have clP_0 : YP.cell? ⟨w3.heap.size, 0, none⟩ = some (.string s0) := GP.out.cell 0
  have clP_1 : YP.cell? ⟨w3.heap.size, 1, none⟩ = some (.int .i32 f) := GP.out.cell 1
  have clP_2 : YP.cell? ⟨w3.heap.size, 2, none⟩ = some (.int .i32 r) := GP.out.cell 2
  have clP_3 : YP.cell? ⟨w3.heap.size, 3, none⟩ = some (.bool n) := GP.out.cell 3
  have clP_4 : YP.cell? ⟨w3.heap.size, 4, none⟩ = some (.slice (some ⟨g1, 0, none⟩) xs.length c1) := GP.out.cell 4
  have clP_5 : YP.cell? ⟨w3.heap.size, 5, none⟩ = some (.slice (some ⟨g2, 0, none⟩) ys.length c2) := GP.out.cell 5
  have clP_6 : YP.cell? ⟨w3.heap.size, 6, none⟩ = some (.bool m) := GP.out.cell 6
  have clP_7 : YP.cell? ⟨w3.heap.size, 7, none⟩ = some (.slice (some ⟨g3, 0, none⟩) us.length c3) := GP.out.cell 7
  have clP_8 : YP.cell? ⟨w3.heap.size, 8, none⟩ = some (.slice (some ⟨g4, 0, none⟩) vs.length c4) := GP.out.cell 8
  go_wp2_with fail
  clear hYP
  refine Calls.mono HC.out ?_
  rintro e w4 ⟨T1, rfl, h1, h2, hb⟩
  clear clP_0 clP_1 clP_2 clP_3 clP_4 clP_5 clP_6 clP_7 clP_8
  clear HC
  have HW4 := hid (bt HW3.out hb)
  have Z4 := hid (Below.size hb)
  have HA4 := hid (HA3.out.later hb HA3.out.lt)
  have HP4 := hid (GP.out.later hb GP.out.lt)
  have SR4 := hid (And.intro (SR3.out.1.later hb) (And.intro (SR3.out.2.1.later hb) (And.intro (SR3.out.2.2.1.later hb) (SR3.out.2.2.2.later hb))))
  have ST4 := hid (ST3.out.later hb)
  have SE4 := hid (SE3.out.later hb)
  have SL4 := hid (And.intro (owns_later SL3.out.1 hb) (And.intro (owns_later SL3.out.2.1 hb) (And.intro (owns_later SL3.out.2.2.1 hb) (owns_later SL3.out.2.2.2 hb))))
  clear HW3 HA3 GP SR3 ST3 SE3 SL3
  have HN1 := hid (And.intro h1 h2)
  clear h1 h2 hb
  have HC := hid (odPrint_any s0 f r n a ca xs b cb ys m c cc us d cd vs w4 HZ0.out HR.out SR4.out.1 SR4.out.2.1 SR4.out.2.2.1 SR4.out.2.2.2 HQ.out.1 HQ.out.2.1 HQ.out.2.2.1 HQ.out.2.2.2)
  have clA_0 : w4.cell? ⟨w.heap.size, 0, none⟩ = some (.string s0) := HA4.out.cell 0
  have clA_1 : w4.cell? ⟨w.heap.size, 1, none⟩ = some (.int .i32 f) := HA4.out.cell 1
  have clA_2 : w4.cell? ⟨w.heap.size, 2, none⟩ = some (.int .i32 r) := HA4.out.cell 2
  have clA_3 : w4.cell? ⟨w.heap.size, 3, none⟩ = some (.bool n) := HA4.out.cell 3
  have clA_4 : w4.cell? ⟨w.heap.size, 4, none⟩ = some (.slice a xs.length ca) := HA4.out.cell 4
  have clA_5 : w4.cell? ⟨w.heap.size, 5, none⟩ = some (.slice b ys.length cb) := HA4.out.cell 5
  have clA_6 : w4.cell? ⟨w.heap.size, 6, none⟩ = some (.bool m) := HA4.out.cell 6
  have clA_7 : w4.cell? ⟨w.heap.size, 7, none⟩ = some (.slice c us.length cc) := HA4.out.cell 7
  have clA_8 : w4.cell? ⟨w.heap.size, 8, none⟩ = some (.slice d vs.length cd) := HA4.out.cell 8
  go_wp2_with fail
  refine Calls.mono HC.out ?_
  rintro e w5 ⟨T2, rfl, h1, h2, hb⟩
  clear clA_0 clA_1 clA_2 clA_3 clA_4 clA_5 clA_6 clA_7 clA_8
  clear HC
  have HW5 := hid (bt HW4.out hb)
  have Z5 := hid (Below.size hb)
  have HA5 := hid (HA4.out.later hb HA4.out.lt)
  have HP5 := hid (HP4.out.later hb HP4.out.lt)
  have SR5 := hid (And.intro (SR4.out.1.later hb) (And.intro (SR4.out.2.1.later hb) (And.intro (SR4.out.2.2.1.later hb) (SR4.out.2.2.2.later hb))))
  have ST5 := hid (ST4.out.later hb)
  have SE5 := hid (SE4.out.later hb)
  have SL5 := hid (And.intro (owns_later SL4.out.1 hb) (And.intro (owns_later SL4.out.2.1 hb) (And.intro (owns_later SL4.out.2.2.1 hb) (owns_later SL4.out.2.2.2 hb))))
  clear HW4 HA4 HP4 SR4 ST4 SE4 SL4
  have hT12 : T1 = T2 := by
    by_cases hz : tchk s0.data.toList f r (gchk n xs ys m us vs) = 0
    · exact ByteArray.ext (Array.ext' ((HN1.out.1 hz).trans (h1 hz).symm))
    · exact (HN1.out.2 hz).trans (h2 hz).symm
  subst hT12
  clear h1 h2 hb HN1
  generalize tchk s0.data.toList f r (gchk n xs ys m us vs) = GE at *
  have HC := hid (tParse_any s w5 HSZ.out ST5.out SE5.out)
  go_wp2_with fail
  refine Calls.mono HC.out ?_
  rintro e w7 ⟨N1, F1, R1, s1, e1, k1, z1, f1, l1, d1, t1, p1, q1, z2, o1, r1, d2, u1, rfl, ho, ht, hb, W1_, hc1, hc2⟩
  clear HC
  have HW6 := hid (bt HW5.out hb)
  have Z6 := hid (Below.size hb)
  have HA6 := hid (HA5.out.later hb HA5.out.lt)
  have HP6 := hid (HP5.out.later hb HP5.out.lt)
  have SR6 := hid (And.intro (SR5.out.1.later hb) (And.intro (SR5.out.2.1.later hb) (And.intro (SR5.out.2.2.1.later hb) (SR5.out.2.2.2.later hb))))
  have ST6 := hid (ST5.out.later hb)
  have SE6 := hid (SE5.out.later hb)
  have SL6 := hid (And.intro (owns_later SL5.out.1 hb) (And.intro (owns_later SL5.out.2.1 hb) (And.intro (owns_later SL5.out.2.2.1 hb) (owns_later SL5.out.2.2.2 hb))))
  clear HW5 HA5 HP5 SR5 ST5 SE5 SL5
  have HT1 := hid ht
  have SO1 := hid ho
  have HI1 := hid (And.intro (kp4_of_cuts hc1 hc2) (And.intro (kg_within ho.1) (And.intro (kg_within ho.2.1) (And.intro (kg_within ho.2.2.1) (kg_within ho.2.2.2)))))
  clear hc1 hc2
  clear ho ht hb
  have GB := hid (Box.made w7 30 #[.string N1, .int .i32 F1, .int .i32 R1, .bool s1, .slice e1 z1.length k1, .slice f1 d1.length l1, .bool t1, .slice p1 z2.length q1, .slice o1 d2.length r1])
  have LB := hid (alloc_later w7 (.cells #[.string N1, .int .i32 F1, .int .i32 R1, .bool s1, .slice e1 z1.length k1, .slice f1 d1.length l1, .bool t1, .slice p1 z2.length q1, .slice o1 d2.length r1] 30))
  obtain ⟨YB, hYB⟩ : ∃ YB, w7.alloc (.cells #[.string N1, .int .i32 F1, .int .i32 R1, .bool s1, .slice e1 z1.length k1, .slice f1 d1.length l1, .bool t1, .slice p1 z2.length q1, .slice o1 d2.length r1] 30) = YB := ⟨_, rfl⟩
  rw [hYB] at GB LB
  have HW7 := hid (bt HW6.out LB.out)
  have Z7 := hid (Below.size LB.out)
  have HA7 := hid (HA6.out.later LB.out HA6.out.lt)
  have HP7 := hid (HP6.out.later LB.out HP6.out.lt)
  have SR7 := hid (And.intro (SR6.out.1.later LB.out) (And.intro (SR6.out.2.1.later LB.out) (And.intro (SR6.out.2.2.1.later LB.out) (SR6.out.2.2.2.later LB.out))))
  have ST7 := hid (ST6.out.later LB.out)
  have SE7 := hid (SE6.out.later LB.out)
  have SL7 := hid (And.intro (owns_later SL6.out.1 LB.out) (And.intro (owns_later SL6.out.2.1 LB.out) (And.intro (owns_later SL6.out.2.2.1 LB.out) (owns_later SL6.out.2.2.2 LB.out))))
  have SO17 := hid (And.intro (owns_later SO1.out.1 LB.out) (And.intro (owns_later SO1.out.2.1 LB.out) (And.intro (owns_later SO1.out.2.2.1 LB.out) (owns_later SO1.out.2.2.2 LB.out))))
  clear HW6 HA6 HP6 SR6 ST6 SE6 SL6 SO1
  have HC := hid (tParse_any s YB HSZ.out ST7.out SE7.out)
  go_wp2_with fail
  clear hYB
  refine Calls.mono HC.out ?_
  rintro e w9 ⟨N2_, F2_, R2_, s2_, e2, k2, z2_, f2, l2, d2_, t2_, p2, q2, y2_, o2, r2, v2_, u2_, rfl, ho, ht, hb, W1_, hc1, hc2⟩
  clear HC
  have HW8 := hid (bt HW7.out hb)
  have Z8 := hid (Below.size hb)
  have HA8 := hid (HA7.out.later hb HA7.out.lt)
  have HP8 := hid (HP7.out.later hb HP7.out.lt)
  have HB8 := hid (GB.out.later hb GB.out.lt)
  have SR8 := hid (And.intro (SR7.out.1.later hb) (And.intro (SR7.out.2.1.later hb) (And.intro (SR7.out.2.2.1.later hb) (SR7.out.2.2.2.later hb))))
  have ST8 := hid (ST7.out.later hb)
  have SE8 := hid (SE7.out.later hb)
  have SL8 := hid (And.intro (owns_later SL7.out.1 hb) (And.intro (owns_later SL7.out.2.1 hb) (And.intro (owns_later SL7.out.2.2.1 hb) (owns_later SL7.out.2.2.2 hb))))
  have SO18 := hid (And.intro (owns_later SO17.out.1 hb) (And.intro (owns_later SO17.out.2.1 hb) (And.intro (owns_later SO17.out.2.2.1 hb) (owns_later SO17.out.2.2.2 hb))))
  clear HW7 HA7 HP7 GB SR7 ST7 SE7 SL7 SO17
  obtain ⟨rfl, rfl, rfl, rfl, rfl, rfl, rfl, rfl, rfl, rfl⟩ := HT1.out.one ht
  have SO2 := hid ho
  have HI2 := hid (And.intro (kp4_of_cuts hc1 hc2) (And.intro (kg_within ho.1) (And.intro (kg_within ho.2.1) (And.intro (kg_within ho.2.2.1) (kg_within ho.2.2.2)))))
  clear hc1 hc2
  clear ho ht hb
  have GC := hid (Box.made w9 30 #[.string N1, .int .i32 F1, .int .i32 R1, .bool s1, .slice e2 z1.length k2, .slice f2 d1.length l2, .bool t1, .slice p2 z2.length q2, .slice o2 d2.length r2])
  have LC := hid (alloc_later w9 (.cells #[.string N1, .int .i32 F1, .int .i32 R1, .bool s1, .slice e2 z1.length k2, .slice f2 d1.length l2, .bool t1, .slice p2 z2.length q2, .slice o2 d2.length r2] 30))
  obtain ⟨YC, hYC⟩ : ∃ YC, w9.alloc (.cells #[.string N1, .int .i32 F1, .int .i32 R1, .bool s1, .slice e2 z1.length k2, .slice f2 d1.length l2, .bool t1, .slice p2 z2.length q2, .slice o2 d2.length r2] 30) = YC := ⟨_, rfl⟩
  rw [hYC] at GC LC
  have HW9 := hid (bt HW8.out LC.out)
  have Z9 := hid (Below.size LC.out)
  have HA9 := hid (HA8.out.later LC.out HA8.out.lt)
  have HP9 := hid (HP8.out.later LC.out HP8.out.lt)
  have HB9 := hid (HB8.out.later LC.out HB8.out.lt)
  have SR9 := hid (And.intro (SR8.out.1.later LC.out) (And.intro (SR8.out.2.1.later LC.out) (And.intro (SR8.out.2.2.1.later LC.out) (SR8.out.2.2.2.later LC.out))))
  have ST9 := hid (ST8.out.later LC.out)
  have SE9 := hid (SE8.out.later LC.out)
  have SL9 := hid (And.intro (owns_later SL8.out.1 LC.out) (And.intro (owns_later SL8.out.2.1 LC.out) (And.intro (owns_later SL8.out.2.2.1 LC.out) (owns_later SL8.out.2.2.2 LC.out))))
  have SO19 := hid (And.intro (owns_later SO18.out.1 LC.out) (And.intro (owns_later SO18.out.2.1 LC.out) (And.intro (owns_later SO18.out.2.2.1 LC.out) (owns_later SO18.out.2.2.2 LC.out))))
  have SO29 := hid (And.intro (owns_later SO2.out.1 LC.out) (And.intro (owns_later SO2.out.2.1 LC.out) (And.intro (owns_later SO2.out.2.2.1 LC.out) (owns_later SO2.out.2.2.2 LC.out))))
  clear HW8 HA8 HP8 HB8 SR8 ST8 SE8 SL8 SO18 SO2
  have HC := hid (odParse_any s YC)
  go_wp2_with fail
  clear hYC
  refine Calls.mono HC.out ?_
  rintro e wB ⟨N3_, F3_, R3_, s3_, e3, k3, z3_, f3, l3, d3_, t3_, p3, q3, y3_, o3, r3, v3_, u3_, rfl, ho, ht, hb⟩
  clear HC
  have HW10 := hid (bt HW9.out hb)
  have Z10 := hid (Below.size hb)
  have HA10 := hid (HA9.out.later hb HA9.out.lt)
  have HP10 := hid (HP9.out.later hb HP9.out.lt)
  have HB10 := hid (HB9.out.later hb HB9.out.lt)
  have HC10 := hid (GC.out.later hb GC.out.lt)
  have SR10 := hid (And.intro (SR9.out.1.later hb) (And.intro (SR9.out.2.1.later hb) (And.intro (SR9.out.2.2.1.later hb) (SR9.out.2.2.2.later hb))))
  have ST10 := hid (ST9.out.later hb)
  have SE10 := hid (SE9.out.later hb)
  have SL10 := hid (And.intro (owns_later SL9.out.1 hb) (And.intro (owns_later SL9.out.2.1 hb) (And.intro (owns_later SL9.out.2.2.1 hb) (owns_later SL9.out.2.2.2 hb))))
  have SO110 := hid (And.intro (owns_later SO19.out.1 hb) (And.intro (owns_later SO19.out.2.1 hb) (And.intro (owns_later SO19.out.2.2.1 hb) (owns_later SO19.out.2.2.2 hb))))
  have SO210 := hid (And.intro (owns_later SO29.out.1 hb) (And.intro (owns_later SO29.out.2.1 hb) (And.intro (owns_later SO29.out.2.2.1 hb) (owns_later SO29.out.2.2.2 hb))))
  clear HW9 HA9 HP9 HB9 GC SR9 ST9 SE9 SL9 SO19 SO29
  obtain ⟨rfl, rfl, rfl, rfl, rfl, rfl, rfl, rfl, rfl, rfl⟩ := HT1.out.one ht
  have SD3 := hid ho
  clear ho ht hb
  have GD := hid (Box.made wB 30 #[.string N1, .int .i32 F1, .int .i32 R1, .bool s1, .slice e3 z1.length k3, .slice f3 d1.length l3, .bool t1, .slice p3 z2.length q3, .slice o3 d2.length r3])
  have LD := hid (alloc_later wB (.cells #[.string N1, .int .i32 F1, .int .i32 R1, .bool s1, .slice e3 z1.length k3, .slice f3 d1.length l3, .bool t1, .slice p3 z2.length q3, .slice o3 d2.length r3] 30))
  obtain ⟨YD, hYD⟩ : ∃ YD, wB.alloc (.cells #[.string N1, .int .i32 F1, .int .i32 R1, .bool s1, .slice e3 z1.length k3, .slice f3 d1.length l3, .bool t1, .slice p3 z2.length q3, .slice o3 d2.length r3] 30) = YD := ⟨_, rfl⟩
  rw [hYD] at GD LD
  have HW11 := hid (bt HW10.out LD.out)
  have Z11 := hid (Below.size LD.out)
  have HA11 := hid (HA10.out.later LD.out HA10.out.lt)
  have HP11 := hid (HP10.out.later LD.out HP10.out.lt)
  have HB11 := hid (HB10.out.later LD.out HB10.out.lt)
  have HC11 := hid (HC10.out.later LD.out HC10.out.lt)
  have SR11 := hid (And.intro (SR10.out.1.later LD.out) (And.intro (SR10.out.2.1.later LD.out) (And.intro (SR10.out.2.2.1.later LD.out) (SR10.out.2.2.2.later LD.out))))
  have ST11 := hid (ST10.out.later LD.out)
  have SE11 := hid (SE10.out.later LD.out)
  have SL11 := hid (And.intro (owns_later SL10.out.1 LD.out) (And.intro (owns_later SL10.out.2.1 LD.out) (And.intro (owns_later SL10.out.2.2.1 LD.out) (owns_later SL10.out.2.2.2 LD.out))))
  have SO111 := hid (And.intro (owns_later SO110.out.1 LD.out) (And.intro (owns_later SO110.out.2.1 LD.out) (And.intro (owns_later SO110.out.2.2.1 LD.out) (owns_later SO110.out.2.2.2 LD.out))))
  have SO211 := hid (And.intro (owns_later SO210.out.1 LD.out) (And.intro (owns_later SO210.out.2.1 LD.out) (And.intro (owns_later SO210.out.2.2.1 LD.out) (owns_later SO210.out.2.2.2 LD.out))))
  have SD311 := hid (And.intro (SD3.out.1.later LD.out) (And.intro (SD3.out.2.1.later LD.out) (And.intro (SD3.out.2.2.1.later LD.out) (SD3.out.2.2.2.later LD.out))))
  clear HW10 HA10 HP10 HB10 HC10 SR10 ST10 SE10 SL10 SO110 SO210 SD3
  have HF := hid HT1.out.num.few
  have HFW := hid HT1.out.num.wd
  clear HT1
  have HC := hid (oone_any N1 F1 R1 s1 t1 z1 d1 z2 d2 e1 k1 f1 l1 p1 q1 o1 r1 e2 k2 f2 l2 p2 q2 o2 r2 e3 k3 f3 l3 p3 q3 o3 r3 u1 YD ⟨Sl.own SO111.out.1 HFW.out.1, Sl.own SO111.out.2.1 HFW.out.2.1, Sl.own SO111.out.2.2.1 HFW.out.2.2.1, Sl.own SO111.out.2.2.2 HFW.out.2.2.2⟩ ⟨Sl.own SO211.out.1 HFW.out.1, Sl.own SO211.out.2.1 HFW.out.2.1, Sl.own SO211.out.2.2.1 HFW.out.2.2.1, Sl.own SO211.out.2.2.2 HFW.out.2.2.2⟩ SD311.out (by have := HF.out.1; omega) (by have := HF.out.2.1; omega) (by have := HF.out.2.2.1; omega) (by have := HF.out.2.2.2; omega))
  have clB_0 : YD.cell? ⟨w7.heap.size, 0, none⟩ = some (.string N1) := HB11.out.cell 0
  have clB_1 : YD.cell? ⟨w7.heap.size, 1, none⟩ = some (.int .i32 F1) := HB11.out.cell 1
  have clB_2 : YD.cell? ⟨w7.heap.size, 2, none⟩ = some (.int .i32 R1) := HB11.out.cell 2
  have clB_3 : YD.cell? ⟨w7.heap.size, 3, none⟩ = some (.bool s1) := HB11.out.cell 3
  have clB_4 : YD.cell? ⟨w7.heap.size, 4, none⟩ = some (.slice e1 z1.length k1) := HB11.out.cell 4
  have clB_5 : YD.cell? ⟨w7.heap.size, 5, none⟩ = some (.slice f1 d1.length l1) := HB11.out.cell 5
  have clB_6 : YD.cell? ⟨w7.heap.size, 6, none⟩ = some (.bool t1) := HB11.out.cell 6
  have clB_7 : YD.cell? ⟨w7.heap.size, 7, none⟩ = some (.slice p1 z2.length q1) := HB11.out.cell 7
  have clB_8 : YD.cell? ⟨w7.heap.size, 8, none⟩ = some (.slice o1 d2.length r1) := HB11.out.cell 8
  have clC_0 : YD.cell? ⟨w9.heap.size, 0, none⟩ = some (.string N1) := HC11.out.cell 0
  have clC_1 : YD.cell? ⟨w9.heap.size, 1, none⟩ = some (.int .i32 F1) := HC11.out.cell 1
  have clC_2 : YD.cell? ⟨w9.heap.size, 2, none⟩ = some (.int .i32 R1) := HC11.out.cell 2
  have clC_3 : YD.cell? ⟨w9.heap.size, 3, none⟩ = some (.bool s1) := HC11.out.cell 3
  have clC_4 : YD.cell? ⟨w9.heap.size, 4, none⟩ = some (.slice e2 z1.length k2) := HC11.out.cell 4
  have clC_5 : YD.cell? ⟨w9.heap.size, 5, none⟩ = some (.slice f2 d1.length l2) := HC11.out.cell 5
  have clC_6 : YD.cell? ⟨w9.heap.size, 6, none⟩ = some (.bool t1) := HC11.out.cell 6
  have clC_7 : YD.cell? ⟨w9.heap.size, 7, none⟩ = some (.slice p2 z2.length q2) := HC11.out.cell 7
  have clC_8 : YD.cell? ⟨w9.heap.size, 8, none⟩ = some (.slice o2 d2.length r2) := HC11.out.cell 8
  have clD_0 : YD.cell? ⟨wB.heap.size, 0, none⟩ = some (.string N1) := GD.out.cell 0
  have clD_1 : YD.cell? ⟨wB.heap.size, 1, none⟩ = some (.int .i32 F1) := GD.out.cell 1
  have clD_2 : YD.cell? ⟨wB.heap.size, 2, none⟩ = some (.int .i32 R1) := GD.out.cell 2
  have clD_3 : YD.cell? ⟨wB.heap.size, 3, none⟩ = some (.bool s1) := GD.out.cell 3
  have clD_4 : YD.cell? ⟨wB.heap.size, 4, none⟩ = some (.slice e3 z1.length k3) := GD.out.cell 4
  have clD_5 : YD.cell? ⟨wB.heap.size, 5, none⟩ = some (.slice f3 d1.length l3) := GD.out.cell 5
  have clD_6 : YD.cell? ⟨wB.heap.size, 6, none⟩ = some (.bool t1) := GD.out.cell 6
  have clD_7 : YD.cell? ⟨wB.heap.size, 7, none⟩ = some (.slice p3 z2.length q3) := GD.out.cell 7
  have clD_8 : YD.cell? ⟨wB.heap.size, 8, none⟩ = some (.slice o3 d2.length r3) := GD.out.cell 8
  go_wp2_with fail
  clear hYD
  refine Calls.mono HC.out ?_
  rintro e wD ⟨rfl, hb⟩
  clear clB_0 clB_1 clB_2 clB_3 clB_4 clB_5 clB_6 clB_7 clB_8 clC_0 clC_1 clC_2 clC_3 clC_4 clC_5 clC_6 clC_7 clC_8 clD_0 clD_1 clD_2 clD_3 clD_4 clD_5 clD_6 clD_7 clD_8
  clear HC
  have HW12 := hid (bt HW11.out hb)
  have Z12 := hid (Below.size hb)
  have HA12 := hid (HA11.out.later hb HA11.out.lt)
  have HP12 := hid (HP11.out.later hb HP11.out.lt)
  have HB12 := hid (HB11.out.later hb HB11.out.lt)
  have HC12 := hid (HC11.out.later hb HC11.out.lt)
  have HD12 := hid (GD.out.later hb GD.out.lt)
  have SR12 := hid (And.intro (SR11.out.1.later hb) (And.intro (SR11.out.2.1.later hb) (And.intro (SR11.out.2.2.1.later hb) (SR11.out.2.2.2.later hb))))
  have ST12 := hid (ST11.out.later hb)
  have SE12 := hid (SE11.out.later hb)
  have SL12 := hid (And.intro (owns_later SL11.out.1 hb) (And.intro (owns_later SL11.out.2.1 hb) (And.intro (owns_later SL11.out.2.2.1 hb) (owns_later SL11.out.2.2.2 hb))))
  have SO112 := hid (And.intro (owns_later SO111.out.1 hb) (And.intro (owns_later SO111.out.2.1 hb) (And.intro (owns_later SO111.out.2.2.1 hb) (owns_later SO111.out.2.2.2 hb))))
  have SO212 := hid (And.intro (owns_later SO211.out.1 hb) (And.intro (owns_later SO211.out.2.1 hb) (And.intro (owns_later SO211.out.2.2.1 hb) (owns_later SO211.out.2.2.2 hb))))
  have SD312 := hid (And.intro (SD311.out.1.later hb) (And.intro (SD311.out.2.1.later hb) (And.intro (SD311.out.2.2.1.later hb) (SD311.out.2.2.2.later hb))))
  clear HW11 HA11 HP11 HB11 HC11 GD SR11 ST11 SE11 SL11 SO111 SO211 SD311
  clear hb
  have HC := hid (okeptTide_any s0 f r n a ca xs b cb ys m c cc us d cd vs g1 c1 g2 c2 g3 c3 g4 c4 _ wD SR12.out.1 SR12.out.2.1 SR12.out.2.2.1 SR12.out.2.2.2 (by have := HLN.out.1; omega) (by have := HLN.out.2.1; omega) (by have := HLN.out.2.2.1; omega) (by have := HLN.out.2.2.2; omega) SL12.out.1 SL12.out.2.1 SL12.out.2.2.1 SL12.out.2.2.2)
  have clP_0 : wD.cell? ⟨w3.heap.size, 0, none⟩ = some (.string s0) := HP12.out.cell 0
  have clP_1 : wD.cell? ⟨w3.heap.size, 1, none⟩ = some (.int .i32 f) := HP12.out.cell 1
  have clP_2 : wD.cell? ⟨w3.heap.size, 2, none⟩ = some (.int .i32 r) := HP12.out.cell 2
  have clP_3 : wD.cell? ⟨w3.heap.size, 3, none⟩ = some (.bool n) := HP12.out.cell 3
  have clP_4 : wD.cell? ⟨w3.heap.size, 4, none⟩ = some (.slice (some ⟨g1, 0, none⟩) xs.length c1) := HP12.out.cell 4
  have clP_5 : wD.cell? ⟨w3.heap.size, 5, none⟩ = some (.slice (some ⟨g2, 0, none⟩) ys.length c2) := HP12.out.cell 5
  have clP_6 : wD.cell? ⟨w3.heap.size, 6, none⟩ = some (.bool m) := HP12.out.cell 6
  have clP_7 : wD.cell? ⟨w3.heap.size, 7, none⟩ = some (.slice (some ⟨g3, 0, none⟩) us.length c3) := HP12.out.cell 7
  have clP_8 : wD.cell? ⟨w3.heap.size, 8, none⟩ = some (.slice (some ⟨g4, 0, none⟩) vs.length c4) := HP12.out.cell 8
  have clA_0 : wD.cell? ⟨w.heap.size, 0, none⟩ = some (.string s0) := HA12.out.cell 0
  have clA_1 : wD.cell? ⟨w.heap.size, 1, none⟩ = some (.int .i32 f) := HA12.out.cell 1
  have clA_2 : wD.cell? ⟨w.heap.size, 2, none⟩ = some (.int .i32 r) := HA12.out.cell 2
  have clA_3 : wD.cell? ⟨w.heap.size, 3, none⟩ = some (.bool n) := HA12.out.cell 3
  have clA_4 : wD.cell? ⟨w.heap.size, 4, none⟩ = some (.slice a xs.length ca) := HA12.out.cell 4
  have clA_5 : wD.cell? ⟨w.heap.size, 5, none⟩ = some (.slice b ys.length cb) := HA12.out.cell 5
  have clA_6 : wD.cell? ⟨w.heap.size, 6, none⟩ = some (.bool m) := HA12.out.cell 6
  have clA_7 : wD.cell? ⟨w.heap.size, 7, none⟩ = some (.slice c us.length cc) := HA12.out.cell 7
  have clA_8 : wD.cell? ⟨w.heap.size, 8, none⟩ = some (.slice d vs.length cd) := HA12.out.cell 8
  go_wp2_with fail
  refine Calls.mono HC.out ?_
  rintro e wE ⟨rfl, hb⟩
  clear clP_0 clP_1 clP_2 clP_3 clP_4 clP_5 clP_6 clP_7 clP_8 clA_0 clA_1 clA_2 clA_3 clA_4 clA_5 clA_6 clA_7 clA_8
  clear HC
  have HW13 := hid (bt HW12.out hb)
  have Z13 := hid (Below.size hb)
  have HA13 := hid (HA12.out.later hb HA12.out.lt)
  have HP13 := hid (HP12.out.later hb HP12.out.lt)
  have HB13 := hid (HB12.out.later hb HB12.out.lt)
  have HC13 := hid (HC12.out.later hb HC12.out.lt)
  have HD13 := hid (HD12.out.later hb HD12.out.lt)
  have SR13 := hid (And.intro (SR12.out.1.later hb) (And.intro (SR12.out.2.1.later hb) (And.intro (SR12.out.2.2.1.later hb) (SR12.out.2.2.2.later hb))))
  have ST13 := hid (ST12.out.later hb)
  have SE13 := hid (SE12.out.later hb)
  have SL13 := hid (And.intro (owns_later SL12.out.1 hb) (And.intro (owns_later SL12.out.2.1 hb) (And.intro (owns_later SL12.out.2.2.1 hb) (owns_later SL12.out.2.2.2 hb))))
  have SO113 := hid (And.intro (owns_later SO112.out.1 hb) (And.intro (owns_later SO112.out.2.1 hb) (And.intro (owns_later SO112.out.2.2.1 hb) (owns_later SO112.out.2.2.2 hb))))
  have SO213 := hid (And.intro (owns_later SO212.out.1 hb) (And.intro (owns_later SO212.out.2.1 hb) (And.intro (owns_later SO212.out.2.2.1 hb) (owns_later SO212.out.2.2.2 hb))))
  have SD313 := hid (And.intro (SD312.out.1.later hb) (And.intro (SD312.out.2.1.later hb) (And.intro (SD312.out.2.2.1.later hb) (SD312.out.2.2.2.later hb))))
  clear HW12 HA12 HP12 HB12 HC12 HD12 SR12 ST12 SE12 SL12 SO112 SO212 SD312
  clear hb
  have hszB := HW13.out.size
  have hF := HF.out
  have hL := HLN.out
  have z1_ := Z1.out
  have z2_ := Z2.out
  have z3_ := Z3.out
  have z4_ := Z4.out
  have z5_ := Z5.out
  have z6_ := Z6.out
  have z7_ := Z7.out
  have z8_ := Z8.out
  have z9_ := Z9.out
  have z10_ := Z10.out
  have z11_ := Z11.out
  have z12_ := Z12.out
  have z13_ := Z13.out
  have zP := HZP.out
  have iw0 : Within (.slice (some ⟨g1, 0, none⟩) xs.length c1) w2.heap.size w3.heap.size := fun g hg => by have h1 := HG.out; simp [Value.ownBlock] at hg; omega
  have iw1 : Within (.slice (some ⟨g2, 0, none⟩) ys.length c2) w2.heap.size w3.heap.size := fun g hg => by have h1 := HG.out; simp [Value.ownBlock] at hg; omega
  have iw2 : Within (.slice (some ⟨g3, 0, none⟩) us.length c3) w2.heap.size w3.heap.size := fun g hg => by have h1 := HG.out; simp [Value.ownBlock] at hg; omega
  have iw3 : Within (.slice (some ⟨g4, 0, none⟩) vs.length c4) w2.heap.size w3.heap.size := fun g hg => by have h1 := HG.out; simp [Value.ownBlock] at hg; omega
  have pa : Kp4 (.slice (some ⟨g1, 0, none⟩) xs.length c1) (.slice (some ⟨g2, 0, none⟩) ys.length c2) (.slice (some ⟨g3, 0, none⟩) us.length c3) (.slice (some ⟨g4, 0, none⟩) vs.length c4) := by
    have h1 := HG.out
    refine ⟨.inr ?_, .inr ?_, .inr ?_, .inr ?_, .inr ?_, .inr ?_⟩ <;> simp [Value.ownBlock] <;> omega
  have aL := alloc_later wE (.cells #[.string s0, .int .i32 f, .int .i32 r, .bool n, .slice (some ⟨g1, 0, none⟩) xs.length c1, .slice (some ⟨g2, 0, none⟩) ys.length c2, .bool m, .slice (some ⟨g3, 0, none⟩) us.length c3, .slice (some ⟨g4, 0, none⟩) vs.length c4, .string N1, .int .i32 F1, .int .i32 R1, .bool s1, .slice e1 z1.length k1, .slice f1 d1.length l1, .bool t1, .slice p1 z2.length q1, .slice o1 d2.length r1, .string N1, .int .i32 F1, .int .i32 R1, .bool s1, .slice e2 z1.length k2, .slice f2 d1.length l2, .bool t1, .slice p2 z2.length q2, .slice o2 d2.length r2] 30)
  have oP : (⟨n, some ⟨g1, 0, none⟩, c1, xs, some ⟨g2, 0, none⟩, c2, ys, m, some ⟨g3, 0, none⟩, c3, us, some ⟨g4, 0, none⟩, c4, vs⟩ : G6).Ow (wE.alloc (.cells #[.string s0, .int .i32 f, .int .i32 r, .bool n, .slice (some ⟨g1, 0, none⟩) xs.length c1, .slice (some ⟨g2, 0, none⟩) ys.length c2, .bool m, .slice (some ⟨g3, 0, none⟩) us.length c3, .slice (some ⟨g4, 0, none⟩) vs.length c4, .string N1, .int .i32 F1, .int .i32 R1, .bool s1, .slice e1 z1.length k1, .slice f1 d1.length l1, .bool t1, .slice p1 z2.length q1, .slice o1 d2.length r1, .string N1, .int .i32 F1, .int .i32 R1, .bool s1, .slice e2 z1.length k2, .slice f2 d1.length l2, .bool t1, .slice p2 z2.length q2, .slice o2 d2.length r2] 30)) w.heap.size := ⟨owns_later (owns_base (klentf SL13.out.1) (by omega)) aL, owns_later (owns_base (klentf SL13.out.2.1) (by omega)) aL, owns_later (owns_base (klentf SL13.out.2.2.1) (by omega)) aL, owns_later (owns_base (klentf SL13.out.2.2.2) (by omega)) aL⟩
  have oX1 : (⟨s1, e1, k1, z1, f1, l1, d1, t1, p1, q1, z2, o1, r1, d2⟩ : G6).Ow (wE.alloc (.cells #[.string s0, .int .i32 f, .int .i32 r, .bool n, .slice (some ⟨g1, 0, none⟩) xs.length c1, .slice (some ⟨g2, 0, none⟩) ys.length c2, .bool m, .slice (some ⟨g3, 0, none⟩) us.length c3, .slice (some ⟨g4, 0, none⟩) vs.length c4, .string N1, .int .i32 F1, .int .i32 R1, .bool s1, .slice e1 z1.length k1, .slice f1 d1.length l1, .bool t1, .slice p1 z2.length q1, .slice o1 d2.length r1, .string N1, .int .i32 F1, .int .i32 R1, .bool s1, .slice e2 z1.length k2, .slice f2 d1.length l2, .bool t1, .slice p2 z2.length q2, .slice o2 d2.length r2] 30)) w.heap.size := ⟨owns_later (owns_base SO113.out.1 (by omega)) aL, owns_later (owns_base SO113.out.2.1 (by omega)) aL, owns_later (owns_base SO113.out.2.2.1 (by omega)) aL, owns_later (owns_base SO113.out.2.2.2 (by omega)) aL⟩
  have oX2 : (⟨s1, e2, k2, z1, f2, l2, d1, t1, p2, q2, z2, o2, r2, d2⟩ : G6).Ow (wE.alloc (.cells #[.string s0, .int .i32 f, .int .i32 r, .bool n, .slice (some ⟨g1, 0, none⟩) xs.length c1, .slice (some ⟨g2, 0, none⟩) ys.length c2, .bool m, .slice (some ⟨g3, 0, none⟩) us.length c3, .slice (some ⟨g4, 0, none⟩) vs.length c4, .string N1, .int .i32 F1, .int .i32 R1, .bool s1, .slice e1 z1.length k1, .slice f1 d1.length l1, .bool t1, .slice p1 z2.length q1, .slice o1 d2.length r1, .string N1, .int .i32 F1, .int .i32 R1, .bool s1, .slice e2 z1.length k2, .slice f2 d1.length l2, .bool t1, .slice p2 z2.length q2, .slice o2 d2.length r2] 30)) w.heap.size := ⟨owns_later (owns_base SO213.out.1 (by omega)) aL, owns_later (owns_base SO213.out.2.1 (by omega)) aL, owns_later (owns_base SO213.out.2.2.1 (by omega)) aL, owns_later (owns_base SO213.out.2.2.2 (by omega)) aL⟩
  have hk9 : ∀ V, Below (wE.alloc (.cells #[.string s0, .int .i32 f, .int .i32 r, .bool n, .slice (some ⟨g1, 0, none⟩) xs.length c1, .slice (some ⟨g2, 0, none⟩) ys.length c2, .bool m, .slice (some ⟨g3, 0, none⟩) us.length c3, .slice (some ⟨g4, 0, none⟩) vs.length c4, .string N1, .int .i32 F1, .int .i32 R1, .bool s1, .slice e1 z1.length k1, .slice f1 d1.length l1, .bool t1, .slice p1 z2.length q1, .slice o1 d2.length r1, .string N1, .int .i32 F1, .int .i32 R1, .bool s1, .slice e2 z1.length k2, .slice f2 d1.length l2, .bool t1, .slice p2 z2.length q2, .slice o2 d2.length r2] 30)).heap.size (wE.alloc (.cells #[.string s0, .int .i32 f, .int .i32 r, .bool n, .slice (some ⟨g1, 0, none⟩) xs.length c1, .slice (some ⟨g2, 0, none⟩) ys.length c2, .bool m, .slice (some ⟨g3, 0, none⟩) us.length c3, .slice (some ⟨g4, 0, none⟩) vs.length c4, .string N1, .int .i32 F1, .int .i32 R1, .bool s1, .slice e1 z1.length k1, .slice f1 d1.length l1, .bool t1, .slice p1 z2.length q1, .slice o1 d2.length r1, .string N1, .int .i32 F1, .int .i32 R1, .bool s1, .slice e2 z1.length k2, .slice f2 d1.length l2, .bool t1, .slice p2 z2.length q2, .slice o2 d2.length r2] 30)) V → ∀ k, k < 3 → V.cell? ⟨wE.heap.size, k * 9 + 3, none⟩ = some (.bool (oThree (⟨n, some ⟨g1, 0, none⟩, c1, xs, some ⟨g2, 0, none⟩, c2, ys, m, some ⟨g3, 0, none⟩, c3, us, some ⟨g4, 0, none⟩, c4, vs⟩ : G6) (⟨s1, e1, k1, z1, f1, l1, d1, t1, p1, q1, z2, o1, r1, d2⟩ : G6) (⟨s1, e2, k2, z1, f2, l2, d1, t1, p2, q2, z2, o2, r2, d2⟩ : G6) k).n) ∧ V.cell? ⟨wE.heap.size, k * 9 + 4, none⟩ = some (.slice (oThree (⟨n, some ⟨g1, 0, none⟩, c1, xs, some ⟨g2, 0, none⟩, c2, ys, m, some ⟨g3, 0, none⟩, c3, us, some ⟨g4, 0, none⟩, c4, vs⟩ : G6) (⟨s1, e1, k1, z1, f1, l1, d1, t1, p1, q1, z2, o1, r1, d2⟩ : G6) (⟨s1, e2, k2, z1, f2, l2, d1, t1, p2, q2, z2, o2, r2, d2⟩ : G6) k).a (oThree (⟨n, some ⟨g1, 0, none⟩, c1, xs, some ⟨g2, 0, none⟩, c2, ys, m, some ⟨g3, 0, none⟩, c3, us, some ⟨g4, 0, none⟩, c4, vs⟩ : G6) (⟨s1, e1, k1, z1, f1, l1, d1, t1, p1, q1, z2, o1, r1, d2⟩ : G6) (⟨s1, e2, k2, z1, f2, l2, d1, t1, p2, q2, z2, o2, r2, d2⟩ : G6) k).xs.length (oThree (⟨n, some ⟨g1, 0, none⟩, c1, xs, some ⟨g2, 0, none⟩, c2, ys, m, some ⟨g3, 0, none⟩, c3, us, some ⟨g4, 0, none⟩, c4, vs⟩ : G6) (⟨s1, e1, k1, z1, f1, l1, d1, t1, p1, q1, z2, o1, r1, d2⟩ : G6) (⟨s1, e2, k2, z1, f2, l2, d1, t1, p2, q2, z2, o2, r2, d2⟩ : G6) k).ca) ∧ V.cell? ⟨wE.heap.size, k * 9 + 5, none⟩ = some (.slice (oThree (⟨n, some ⟨g1, 0, none⟩, c1, xs, some ⟨g2, 0, none⟩, c2, ys, m, some ⟨g3, 0, none⟩, c3, us, some ⟨g4, 0, none⟩, c4, vs⟩ : G6) (⟨s1, e1, k1, z1, f1, l1, d1, t1, p1, q1, z2, o1, r1, d2⟩ : G6) (⟨s1, e2, k2, z1, f2, l2, d1, t1, p2, q2, z2, o2, r2, d2⟩ : G6) k).b (oThree (⟨n, some ⟨g1, 0, none⟩, c1, xs, some ⟨g2, 0, none⟩, c2, ys, m, some ⟨g3, 0, none⟩, c3, us, some ⟨g4, 0, none⟩, c4, vs⟩ : G6) (⟨s1, e1, k1, z1, f1, l1, d1, t1, p1, q1, z2, o1, r1, d2⟩ : G6) (⟨s1, e2, k2, z1, f2, l2, d1, t1, p2, q2, z2, o2, r2, d2⟩ : G6) k).ys.length (oThree (⟨n, some ⟨g1, 0, none⟩, c1, xs, some ⟨g2, 0, none⟩, c2, ys, m, some ⟨g3, 0, none⟩, c3, us, some ⟨g4, 0, none⟩, c4, vs⟩ : G6) (⟨s1, e1, k1, z1, f1, l1, d1, t1, p1, q1, z2, o1, r1, d2⟩ : G6) (⟨s1, e2, k2, z1, f2, l2, d1, t1, p2, q2, z2, o2, r2, d2⟩ : G6) k).cb) ∧ V.cell? ⟨wE.heap.size, k * 9 + 6, none⟩ = some (.bool (oThree (⟨n, some ⟨g1, 0, none⟩, c1, xs, some ⟨g2, 0, none⟩, c2, ys, m, some ⟨g3, 0, none⟩, c3, us, some ⟨g4, 0, none⟩, c4, vs⟩ : G6) (⟨s1, e1, k1, z1, f1, l1, d1, t1, p1, q1, z2, o1, r1, d2⟩ : G6) (⟨s1, e2, k2, z1, f2, l2, d1, t1, p2, q2, z2, o2, r2, d2⟩ : G6) k).m) ∧ V.cell? ⟨wE.heap.size, k * 9 + 7, none⟩ = some (.slice (oThree (⟨n, some ⟨g1, 0, none⟩, c1, xs, some ⟨g2, 0, none⟩, c2, ys, m, some ⟨g3, 0, none⟩, c3, us, some ⟨g4, 0, none⟩, c4, vs⟩ : G6) (⟨s1, e1, k1, z1, f1, l1, d1, t1, p1, q1, z2, o1, r1, d2⟩ : G6) (⟨s1, e2, k2, z1, f2, l2, d1, t1, p2, q2, z2, o2, r2, d2⟩ : G6) k).c (oThree (⟨n, some ⟨g1, 0, none⟩, c1, xs, some ⟨g2, 0, none⟩, c2, ys, m, some ⟨g3, 0, none⟩, c3, us, some ⟨g4, 0, none⟩, c4, vs⟩ : G6) (⟨s1, e1, k1, z1, f1, l1, d1, t1, p1, q1, z2, o1, r1, d2⟩ : G6) (⟨s1, e2, k2, z1, f2, l2, d1, t1, p2, q2, z2, o2, r2, d2⟩ : G6) k).us.length (oThree (⟨n, some ⟨g1, 0, none⟩, c1, xs, some ⟨g2, 0, none⟩, c2, ys, m, some ⟨g3, 0, none⟩, c3, us, some ⟨g4, 0, none⟩, c4, vs⟩ : G6) (⟨s1, e1, k1, z1, f1, l1, d1, t1, p1, q1, z2, o1, r1, d2⟩ : G6) (⟨s1, e2, k2, z1, f2, l2, d1, t1, p2, q2, z2, o2, r2, d2⟩ : G6) k).cc) ∧ V.cell? ⟨wE.heap.size, k * 9 + 8, none⟩ = some (.slice (oThree (⟨n, some ⟨g1, 0, none⟩, c1, xs, some ⟨g2, 0, none⟩, c2, ys, m, some ⟨g3, 0, none⟩, c3, us, some ⟨g4, 0, none⟩, c4, vs⟩ : G6) (⟨s1, e1, k1, z1, f1, l1, d1, t1, p1, q1, z2, o1, r1, d2⟩ : G6) (⟨s1, e2, k2, z1, f2, l2, d1, t1, p2, q2, z2, o2, r2, d2⟩ : G6) k).d (oThree (⟨n, some ⟨g1, 0, none⟩, c1, xs, some ⟨g2, 0, none⟩, c2, ys, m, some ⟨g3, 0, none⟩, c3, us, some ⟨g4, 0, none⟩, c4, vs⟩ : G6) (⟨s1, e1, k1, z1, f1, l1, d1, t1, p1, q1, z2, o1, r1, d2⟩ : G6) (⟨s1, e2, k2, z1, f2, l2, d1, t1, p2, q2, z2, o2, r2, d2⟩ : G6) k).vs.length (oThree (⟨n, some ⟨g1, 0, none⟩, c1, xs, some ⟨g2, 0, none⟩, c2, ys, m, some ⟨g3, 0, none⟩, c3, us, some ⟨g4, 0, none⟩, c4, vs⟩ : G6) (⟨s1, e1, k1, z1, f1, l1, d1, t1, p1, q1, z2, o1, r1, d2⟩ : G6) (⟨s1, e2, k2, z1, f2, l2, d1, t1, p2, q2, z2, o2, r2, d2⟩ : G6) k).cd) := fun V hV k hk => by
    have hb9 := (Box.made wE 30 #[.string s0, .int .i32 f, .int .i32 r, .bool n, .slice (some ⟨g1, 0, none⟩) xs.length c1, .slice (some ⟨g2, 0, none⟩) ys.length c2, .bool m, .slice (some ⟨g3, 0, none⟩) us.length c3, .slice (some ⟨g4, 0, none⟩) vs.length c4, .string N1, .int .i32 F1, .int .i32 R1, .bool s1, .slice e1 z1.length k1, .slice f1 d1.length l1, .bool t1, .slice p1 z2.length q1, .slice o1 d2.length r1, .string N1, .int .i32 F1, .int .i32 R1, .bool s1, .slice e2 z1.length k2, .slice f2 d1.length l2, .bool t1, .slice p2 z2.length q2, .slice o2 d2.length r2]).later hV (Box.made wE 30 #[.string s0, .int .i32 f, .int .i32 r, .bool n, .slice (some ⟨g1, 0, none⟩) xs.length c1, .slice (some ⟨g2, 0, none⟩) ys.length c2, .bool m, .slice (some ⟨g3, 0, none⟩) us.length c3, .slice (some ⟨g4, 0, none⟩) vs.length c4, .string N1, .int .i32 F1, .int .i32 R1, .bool s1, .slice e1 z1.length k1, .slice f1 d1.length l1, .bool t1, .slice p1 z2.length q1, .slice o1 d2.length r1, .string N1, .int .i32 F1, .int .i32 R1, .bool s1, .slice e2 z1.length k2, .slice f2 d1.length l2, .bool t1, .slice p2 z2.length q2, .slice o2 d2.length r2]).lt
    match k, hk with
    | 0, _ => exact ⟨hb9.cell 3, hb9.cell 4, hb9.cell 5, hb9.cell 6, hb9.cell 7, hb9.cell 8⟩
    | 1, _ => exact ⟨hb9.cell 12, hb9.cell 13, hb9.cell 14, hb9.cell 15, hb9.cell 16, hb9.cell 17⟩
    | 2, _ => exact ⟨hb9.cell 21, hb9.cell 22, hb9.cell 23, hb9.cell 24, hb9.cell 25, hb9.cell 26⟩
  have hp4 : (⟨n, some ⟨g1, 0, none⟩, c1, xs, some ⟨g2, 0, none⟩, c2, ys, m, some ⟨g3, 0, none⟩, c3, us, some ⟨g4, 0, none⟩, c4, vs⟩ : G6).Wds ∧ (∀ j, j < 4 → ((⟨n, some ⟨g1, 0, none⟩, c1, xs, some ⟨g2, 0, none⟩, c2, ys, m, some ⟨g3, 0, none⟩, c3, us, some ⟨g4, 0, none⟩, c4, vs⟩ : G6).rl j).length ≤ 3000) ∧ (⟨n, some ⟨g1, 0, none⟩, c1, xs, some ⟨g2, 0, none⟩, c2, ys, m, some ⟨g3, 0, none⟩, c3, us, some ⟨g4, 0, none⟩, c4, vs⟩ : G6).Ow (wE.alloc (.cells #[.string s0, .int .i32 f, .int .i32 r, .bool n, .slice (some ⟨g1, 0, none⟩) xs.length c1, .slice (some ⟨g2, 0, none⟩) ys.length c2, .bool m, .slice (some ⟨g3, 0, none⟩) us.length c3, .slice (some ⟨g4, 0, none⟩) vs.length c4, .string N1, .int .i32 F1, .int .i32 R1, .bool s1, .slice e1 z1.length k1, .slice f1 d1.length l1, .bool t1, .slice p1 z2.length q1, .slice o1 d2.length r1, .string N1, .int .i32 F1, .int .i32 R1, .bool s1, .slice e2 z1.length k2, .slice f2 d1.length l2, .bool t1, .slice p2 z2.length q2, .slice o2 d2.length r2] 30)) w.heap.size ∧ (⟨n, some ⟨g1, 0, none⟩, c1, xs, some ⟨g2, 0, none⟩, c2, ys, m, some ⟨g3, 0, none⟩, c3, us, some ⟨g4, 0, none⟩, c4, vs⟩ : G6).In w2.heap.size w3.heap.size := ⟨HWD.out, G6.four (P := fun j => (G6.rl (⟨n, some ⟨g1, 0, none⟩, c1, xs, some ⟨g2, 0, none⟩, c2, ys, m, some ⟨g3, 0, none⟩, c3, us, some ⟨g4, 0, none⟩, c4, vs⟩ : G6) j).length ≤ 3000) hL.1 hL.2.1 hL.2.2.1 hL.2.2.2, oP, pa, G6.four iw0 iw1 iw2 iw3⟩
  have zf1 : z1.length ≤ 3000 := by omega
  have zf2 : d1.length ≤ 3000 := by omega
  have zf3 : z2.length ≤ 3000 := by omega
  have zf4 : d2.length ≤ 3000 := by omega
  have HAP := hid (oNumbers3 wE.heap.size (⟨n, some ⟨g1, 0, none⟩, c1, xs, some ⟨g2, 0, none⟩, c2, ys, m, some ⟨g3, 0, none⟩, c3, us, some ⟨g4, 0, none⟩, c4, vs⟩ : G6) (⟨s1, e1, k1, z1, f1, l1, d1, t1, p1, q1, z2, o1, r1, d2⟩ : G6) (⟨s1, e2, k2, z1, f2, l2, d1, t1, p2, q2, z2, o2, r2, d2⟩ : G6) (wE.alloc (.cells #[.string s0, .int .i32 f, .int .i32 r, .bool n, .slice (some ⟨g1, 0, none⟩) xs.length c1, .slice (some ⟨g2, 0, none⟩) ys.length c2, .bool m, .slice (some ⟨g3, 0, none⟩) us.length c3, .slice (some ⟨g4, 0, none⟩) vs.length c4, .string N1, .int .i32 F1, .int .i32 R1, .bool s1, .slice e1 z1.length k1, .slice f1 d1.length l1, .bool t1, .slice p1 z2.length q1, .slice o1 d2.length r1, .string N1, .int .i32 F1, .int .i32 R1, .bool s1, .slice e2 z1.length k2, .slice f2 d1.length l2, .bool t1, .slice p2 z2.length q2, .slice o2 d2.length r2] 30)) hk9 w.heap.size w2.heap.size w3.heap.size _ _ _ _ (by simp; omega) hp4 ⟨HFW.out, G6.four (P := fun j => (G6.rl (⟨s1, e1, k1, z1, f1, l1, d1, t1, p1, q1, z2, o1, r1, d2⟩ : G6) j).length ≤ 3000) zf1 zf2 zf3 zf4, oX1, HI1.out.1, G6.four HI1.out.2.1 HI1.out.2.2.1 HI1.out.2.2.2.1 HI1.out.2.2.2.2⟩ ⟨HFW.out, G6.four (P := fun j => (G6.rl (⟨s1, e2, k2, z1, f2, l2, d1, t1, p2, q2, z2, o2, r2, d2⟩ : G6) j).length ≤ 3000) zf1 zf2 zf3 zf4, oX2, HI2.out.1, G6.four HI2.out.2.1 HI2.out.2.2.1 HI2.out.2.2.2.1 HI2.out.2.2.2.2⟩ ⟨by omega, by omega⟩ ⟨by omega, by omega⟩ (by omega))
  clear hk9 hp4 oP oX1 oX2 zf1 zf2 zf3 zf4 aL iw0 iw1 iw2 iw3 pa hF hL hszB zP z1_ z2_ z3_ z4_ z5_ z6_ z7_ z8_ z9_ z10_ z11_ z12_ z13_
  have HBB := hid HW13.out
  obtain ⟨YE, hYE⟩ : ∃ YE, wE.alloc (.cells #[.string s0, .int .i32 f, .int .i32 r, .bool n, .slice (some ⟨g1, 0, none⟩) xs.length c1, .slice (some ⟨g2, 0, none⟩) ys.length c2, .bool m, .slice (some ⟨g3, 0, none⟩) us.length c3, .slice (some ⟨g4, 0, none⟩) vs.length c4, .string N1, .int .i32 F1, .int .i32 R1, .bool s1, .slice e1 z1.length k1, .slice f1 d1.length l1, .bool t1, .slice p1 z2.length q1, .slice o1 d2.length r1, .string N1, .int .i32 F1, .int .i32 R1, .bool s1, .slice e2 z1.length k2, .slice f2 d1.length l2, .bool t1, .slice p2 z2.length q2, .slice o2 d2.length r2] 30) = YE := ⟨_, rfl⟩
  rw [hYE] at HAP
  have hlE : Below w.heap.size w YE := by rw [← hYE]; exact bt HBB.out (alloc_later _ _)
  have HLE := hid hlE
  clear hlE
  have clP_0 : wE.cell? ⟨w3.heap.size, 0, none⟩ = some (.string s0) := HP13.out.cell 0
  have clP_1 : wE.cell? ⟨w3.heap.size, 1, none⟩ = some (.int .i32 f) := HP13.out.cell 1
  have clP_2 : wE.cell? ⟨w3.heap.size, 2, none⟩ = some (.int .i32 r) := HP13.out.cell 2
  have clP_3 : wE.cell? ⟨w3.heap.size, 3, none⟩ = some (.bool n) := HP13.out.cell 3
  have clP_4 : wE.cell? ⟨w3.heap.size, 4, none⟩ = some (.slice (some ⟨g1, 0, none⟩) xs.length c1) := HP13.out.cell 4
  have clP_5 : wE.cell? ⟨w3.heap.size, 5, none⟩ = some (.slice (some ⟨g2, 0, none⟩) ys.length c2) := HP13.out.cell 5
  have clP_6 : wE.cell? ⟨w3.heap.size, 6, none⟩ = some (.bool m) := HP13.out.cell 6
  have clP_7 : wE.cell? ⟨w3.heap.size, 7, none⟩ = some (.slice (some ⟨g3, 0, none⟩) us.length c3) := HP13.out.cell 7
  have clP_8 : wE.cell? ⟨w3.heap.size, 8, none⟩ = some (.slice (some ⟨g4, 0, none⟩) vs.length c4) := HP13.out.cell 8
  have clB_0 : wE.cell? ⟨w7.heap.size, 0, none⟩ = some (.string N1) := HB13.out.cell 0
  have clB_1 : wE.cell? ⟨w7.heap.size, 1, none⟩ = some (.int .i32 F1) := HB13.out.cell 1
  have clB_2 : wE.cell? ⟨w7.heap.size, 2, none⟩ = some (.int .i32 R1) := HB13.out.cell 2
  have clB_3 : wE.cell? ⟨w7.heap.size, 3, none⟩ = some (.bool s1) := HB13.out.cell 3
  have clB_4 : wE.cell? ⟨w7.heap.size, 4, none⟩ = some (.slice e1 z1.length k1) := HB13.out.cell 4
  have clB_5 : wE.cell? ⟨w7.heap.size, 5, none⟩ = some (.slice f1 d1.length l1) := HB13.out.cell 5
  have clB_6 : wE.cell? ⟨w7.heap.size, 6, none⟩ = some (.bool t1) := HB13.out.cell 6
  have clB_7 : wE.cell? ⟨w7.heap.size, 7, none⟩ = some (.slice p1 z2.length q1) := HB13.out.cell 7
  have clB_8 : wE.cell? ⟨w7.heap.size, 8, none⟩ = some (.slice o1 d2.length r1) := HB13.out.cell 8
  have clC_0 : wE.cell? ⟨w9.heap.size, 0, none⟩ = some (.string N1) := HC13.out.cell 0
  have clC_1 : wE.cell? ⟨w9.heap.size, 1, none⟩ = some (.int .i32 F1) := HC13.out.cell 1
  have clC_2 : wE.cell? ⟨w9.heap.size, 2, none⟩ = some (.int .i32 R1) := HC13.out.cell 2
  have clC_3 : wE.cell? ⟨w9.heap.size, 3, none⟩ = some (.bool s1) := HC13.out.cell 3
  have clC_4 : wE.cell? ⟨w9.heap.size, 4, none⟩ = some (.slice e2 z1.length k2) := HC13.out.cell 4
  have clC_5 : wE.cell? ⟨w9.heap.size, 5, none⟩ = some (.slice f2 d1.length l2) := HC13.out.cell 5
  have clC_6 : wE.cell? ⟨w9.heap.size, 6, none⟩ = some (.bool t1) := HC13.out.cell 6
  have clC_7 : wE.cell? ⟨w9.heap.size, 7, none⟩ = some (.slice p2 z2.length q2) := HC13.out.cell 7
  have clC_8 : wE.cell? ⟨w9.heap.size, 8, none⟩ = some (.slice o2 d2.length r2) := HC13.out.cell 8
  go_wp2_with fail
  refine Calls.mono HAP.out ?_
  rintro e wF ⟨qq, dd, rfl, hbE, HAQ⟩
  have HBE := hid (bt HLE.out hbE)
  clear hbE HAP
  clear clP_0 clP_1 clP_2 clP_3 clP_4 clP_5 clP_6 clP_7 clP_8 clB_0 clB_1 clB_2 clB_3 clB_4 clB_5 clB_6 clB_7 clB_8 clC_0 clC_1 clC_2 clC_3 clC_4 clC_5 clC_6 clC_7 clC_8
  go_wp2_with fail
  refine Calls.mono HAQ.out ?_
  rintro e wG ⟨rfl, hbG⟩
  have HBG := hid (HBE.out.trans hbG)
  clear hbG HAQ
  go_wp2_with fail
  go_ret
  exact ⟨rfl, HBG.out⟩

set_option maxHeartbeats 1600000 in
set_option maxRecDepth 100000 in
theorem tideTexts_off (s0 : ByteArray) (f r : Int) (n : Bool) (a : Option Addr) (k1 ca : Nat) (b : Option Addr) (k2 cb : Nat) (m : Bool) (c : Option Addr) (k3 cc : Nat) (d : Option Addr) (k4 cd : Nat) (s : ByteArray) (w : World) (hq : ((smallL k1 60 && smallL k2 60) && (smallL k3 60 && smallL k4 60)) = false ∨ (3000 < s.size ∧ s.size ≤ 65536) ∨ 65545 < s.size) :
    Calls Tryz.prog 3 #[.agg #[.string s0, .int .i32 f, .int .i32 r, .bool n, .slice a k1 ca, .slice b k2 cb, .bool m, .slice c k3 cc, .slice d k4 cd], .string s] w fun e w' => e = .returned (.bool true) ∧ Below w.heap.size w w' := by
  obtain ⟨P, hP⟩ : ∃ P, w.alloc (.cells #[.string s0, .int .i32 f, .int .i32 r, .bool n, .slice a k1 ca, .slice b k2 cb, .bool m, .slice c k3 cc, .slice d k4 cd] 30) = P := ⟨_, rfl⟩
  have b1 : Below w.heap.size w P := by rw [← hP]; exact alloc_later _ _
  have HA : Hid (Box P w.heap.size 30 #[.string s0, .int .i32 f, .int .i32 r, .bool n, .slice a k1 ca, .slice b k2 cb, .bool m, .slice c k3 cc, .slice d k4 cd]) := by rw [← hP]; exact Box.made w _ _
  have HS := hid (tSmall_any s0 f r n a k1 ca b k2 cb m c k3 cc d k4 cd 60 P)
  have HB := hid b1
  clear b1
  obtain ⟨e0, e1, e2, e3, e4, e5, e6, e7, e8⟩ := okl9 HA.out
  cases h1 : ((smallL k1 60 && smallL k2 60) && (smallL k3 60 && smallL k4 60))
  · rw [h1] at HS
    clear hq h1
    go_enter Tryz.func3, Tryz.ntmps3
    go_wp2_with fail
    clear hP
    refine Calls.mono HS.out ?_
    rintro e w1 ⟨rfl, hb⟩
    have HB2 := hid (bt HB.out hb)
    clear hb HS e0 e1 e2 e3 e4 e5 e6 e7 e8
    go_wp2_with fail
    go_ret
    exact ⟨rfl, HB2.out⟩
  · rw [h1] at HS
    rcases hq with hq | hq | hq
    · rw [h1] at hq
      exact absurd hq (by decide)
    · have z1_ : decide ((3000 : Int) < (s.size : Int)) = true := decide_eq_true (by omega)
      have z2_ : decide ((s.size : Int) ≤ (65536 : Int)) = true := decide_eq_true (by omega)
      clear hq h1
      go_enter Tryz.func3, Tryz.ntmps3
      go_wp2_with fail
      clear hP
      refine Calls.mono HS.out ?_
      rintro e w1 ⟨rfl, hb⟩
      have HB2 := hid (bt HB.out hb)
      clear hb HS e0 e1 e2 e3 e4 e5 e6 e7 e8
      go_wp2_with fail
      go_ret
      exact ⟨rfl, HB2.out⟩
    · have z1_ : decide ((3000 : Int) < (s.size : Int)) = true := decide_eq_true (by omega)
      have z2_ : decide ((s.size : Int) ≤ (65536 : Int)) = false := decide_eq_false (by omega)
      have z3_ : decide ((65545 : Int) < (s.size : Int)) = true := decide_eq_true (by omega)
      clear hq h1
      go_enter Tryz.func3, Tryz.ntmps3
      go_wp2_with fail
      clear hP
      refine Calls.mono HS.out ?_
      rintro e w1 ⟨rfl, hb⟩
      have HB2 := hid (bt HB.out hb)
      clear hb HS e0 e1 e2 e3 e4 e5 e6 e7 e8
      go_wp2_with fail
      go_ret
      exact ⟨rfl, HB2.out⟩
theorem tideTexts_in (s0 : ByteArray) (f r : Int) (n0 : Bool) (a0 : Option Addr) (k0 ca0 : Nat) (xs0 : List Int) (b0 : Option Addr) (l0 cb0 : Nat) (ys0 : List Int) (m0 : Bool) (c0 : Option Addr) (kc0 cc0 : Nat) (us0 : List Int) (d0 : Option Addr) (kd0 cd0 : Nat) (vs0 : List Int) (s : ByteArray) (w : World) (hz : s0.size ≤ 9223372036854775807) (hr : in32 f r) (hsz : s.size ≤ 9223372036854775807) (h0 : Reads w w.heap.size a0 k0 ca0 xs0) (g0 : Reads w w.heap.size b0 l0 cb0 ys0) (i0 : Reads w w.heap.size c0 kc0 cc0 us0) (j0 : Reads w w.heap.size d0 kd0 cd0 vs0) (htab : Tab w) (herr : ErrT w) :
    Calls Tryz.prog 3 #[.agg #[.string s0, .int .i32 f, .int .i32 r, .bool n0, .slice a0 k0 ca0, .slice b0 l0 cb0, .bool m0, .slice c0 kc0 cc0, .slice d0 kd0 cd0], .string s] w fun e w' => e = .returned (.bool true) ∧ Below w.heap.size w w' := by
  by_cases hq : ((smallL k0 60 && smallL l0 60) && (smallL kc0 60 && smallL kd0 60)) = false ∨ (3000 < s.size ∧ s.size ≤ 65536) ∨ 65545 < s.size
  · exact tideTexts_off s0 f r n0 a0 k0 ca0 b0 l0 cb0 m0 c0 kc0 cc0 d0 kd0 cd0 s w hq
  · have q : ((smallL k0 60 && smallL l0 60) && (smallL kc0 60 && smallL kd0 60)) = true := by cases h : ((smallL k0 60 && smallL l0 60) && (smallL kc0 60 && smallL kd0 60)); exact absurd (.inl h) hq; rfl
    have q' : (smallL k0 60 && smallL l0 60) = true ∧ (smallL kc0 60 && smallL kd0 60) = true := by simpa using q
    have r1 : smallL k0 60 = true ∧ smallL l0 60 = true := by simpa using q'.1
    have r2 : smallL kc0 60 = true ∧ smallL kd0 60 = true := by simpa using q'.2
    have e0 := h0.1
    have f0 := g0.1
    have e1 := i0.1
    have f1 := j0.1
    subst e0
    subst f0
    subst e1
    subst f1
    have hq3 : ¬ ((3000 < s.size ∧ s.size ≤ 65536) ∨ 65545 < s.size) := fun h => hq (.inr h)
    by_cases hs : s.size ≤ 3000
    · exact tideTexts_short s0 f r n0 a0 ca0 xs0 b0 cb0 ys0 m0 c0 cc0 us0 d0 cd0 vs0 s w hz hr htab herr ⟨_, _, rfl, h0⟩ ⟨_, _, rfl, g0⟩ ⟨_, _, rfl, i0⟩ ⟨_, _, rfl, j0⟩ (osmall_le r1.1) (osmall_le r1.2) (osmall_le r2.1) (osmall_le r2.2) r1.1 r1.2 r2.1 r2.2 hs
    · exact tideTexts_long s0 f r n0 a0 ca0 xs0 b0 cb0 ys0 m0 c0 cc0 us0 d0 cd0 vs0 s w hz hr htab herr ⟨_, _, rfl, h0⟩ ⟨_, _, rfl, g0⟩ ⟨_, _, rfl, i0⟩ ⟨_, _, rfl, j0⟩ (osmall_le r1.1) (osmall_le r1.2) (osmall_le r2.1) (osmall_le r2.2) r1.1 r1.2 r2.1 r2.2 (by omega) (by omega)
end Go.Proofs.YtldeiapikkebgaaGreatDoor

/- TideTexts, of arguments as they come in. -/
namespace Go.Proofs.YtldeiapikkebgaaGreatDoor
open Go.RowKit
set_option linter.unusedVariables false

theorem oin32_wf {f g : Int} (h : (Lit.int .i32 f).wf = true ∧ (Lit.int .i32 g).wf = true) : in32 f g := by
  have h1 : IntKind.i32.min = -2147483648 := rfl
  have h2 : IntKind.i32.max = 2147483647 := rfl
  obtain ⟨a, b⟩ := h
  simp [Lit.wf, Bool.and_eq_true] at a b
  unfold in32
  omega
theorem tideTexts_of (s : ByteArray) (f g : Int) (n : Bool) (a : Option Addr) (ka ca : Nat) (xs : List Int) (b : Option Addr) (kb cb : Nat) (ys : List Int) (m : Bool) (c : Option Addr) (kc cc : Nat) (us : List Int) (d : Option Addr) (kd cd : Nat) (vs : List Int) (t : ByteArray) (w : World) (hz : s.size ≤ maxLen) (hr : (Lit.int .i32 f).wf = true ∧ (Lit.int .i32 g).wf = true) (ht : t.size ≤ maxLen) (h1 : Reads w w.heap.size a ka ca xs) (h2 : Reads w w.heap.size b kb cb ys) (h3 : Reads w w.heap.size c kc cc us) (h4 : Reads w w.heap.size d kd cd vs) (htab : Tab w) (herr : ErrT w) :
    Calls Tryz.prog 3 #[.agg #[.string s, .int .i32 f, .int .i32 g, .bool n, .slice a ka ca, .slice b kb cb, .bool m, .slice c kc cc, .slice d kd cd], .string t] w fun x w' => x = .returned (.bool true) ∧ Below w.heap.size w w' := by
  have hm : maxLen ≤ 9223372036854775807 := by unfold maxLen; omega
  exact tideTexts_in s f g n a ka ca xs b kb cb ys m c kc cc us d kd cd vs t w (by omega) (oin32_wf hr) (by omega) h1 h2 h3 h4 htab herr
end Go.Proofs.YtldeiapikkebgaaGreatDoor

