/- My texts on the way to RealNames, one behind the other: contracts of the program and of the document's answers. -/
import Derived.Test.YtfppimlmebnaeaaGreatDoorJ1
import Derived.Test.YtfppimlmebnaeaaGreatDoorJ2
import Derived.Test.YtfppimlmebnaeaaGreatDoorJ3
import Derived.Test.YtfppimlmebnaeaaGreatDoorJ4
import Derived.Deep.RegionHeld3
import Derived.Lib.LaidTab
/- real.Within of a float, the fraction that it is, and nothing for the bound. -/
namespace Go.Proofs.YtfppimlmebnaeaaGreatDoor
open Go.RowKit
set_option linter.unusedVariables false

theorem fq_zero : fq 0 = 0 := by
  unfold fq
  have e : fcount 0 = 0 := by decide
  rw [e]
  simp [sg, Rat.zero_divInt]
theorem rat_less0 (q : Rat) : q - 0 = q := by grind
theorem rat_more0 (q : Rat) : q + 0 = q := by grind
/-- What is told of a fraction is the fraction that was told before. -/
theorem told_same {q : Rat} {n m : Bool} {xs ys us vs : List Int} {c : Int} (wx : Wd xs) (wy : Wd ys) (h : rchk n xs ys = 0) (hq : rq n xs ys = q) (g : RTells 0 q m us vs c) : m = n ∧ us = xs ∧ vs = ys ∧ c = 0 := by
  have t := rtells_self wx wy h
  rw [hq] at t
  exact g.same t
/-- Three cells of a box written: its own, another box, rows, what was there. -/
theorem put3_box {W : World} {b t : Nat} {u0 u1 u2 : Value} (h : Box W b t #[u0, u1, u2]) (v0 v1 v2 : Value) : Box (((W.setCell ⟨b, 0, none⟩ v0).setCell ⟨b, 1, none⟩ v1).setCell ⟨b, 2, none⟩ v2) b t #[v0, v1, v2] := ((h.set 0 v0).set 1 v1).set 2 v2
theorem put3_far {W : World} {b t b' : Nat} {vs : Array Value} (h : Box W b t vs) (hne : b ≠ b') (v0 v1 v2 : Value) : Box (((W.setCell ⟨b', 0, none⟩ v0).setCell ⟨b', 1, none⟩ v1).setCell ⟨b', 2, none⟩ v2) b t vs := ((h.other ⟨b', 0, none⟩ v0 hne).other ⟨b', 1, none⟩ v1 hne).other ⟨b', 2, none⟩ v2 hne
theorem put3_row {W : World} {base n b t : Nat} {v : Value} {xs : List Value} {vs : Array Value} (h : W.ownsRow base 62 1 v n xs) (hb : Box W b t vs) (hne : 62 ≠ t) (v0 v1 v2 : Value) : (((W.setCell ⟨b, 0, none⟩ v0).setCell ⟨b, 1, none⟩ v1).setCell ⟨b, 2, none⟩ v2).ownsRow base 62 1 v n xs := own_put3 h b (fun g hg => own_ne_box h hb hne g hg) v0 v1 v2

set_option maxHeartbeats 1600000 in
set_option maxRecDepth 100000 in
theorem ends_self (x : Nat) (w : World) (hx : Fi x) (hT : TabB w) (n : Bool) (xs ys : List Int) (wx : Wd xs) (wy : Wd ys) (he : ExT x n xs ys) :
    Calls Tryz.prog 36 #[.float .f64 x, .float .f64 0] w fun e w' => ∃ a ca b cb c cc d cd, e = .returned (.tuple #[.agg #[.bool n, .slice a xs.length ca, .slice b ys.length cb], .agg #[.bool n, .slice c xs.length cc, .slice d ys.length cd], .int .i64 0]) ∧ Sl w' (.slice a xs.length ca) xs ∧ Sl w' (.slice b ys.length cb) ys ∧ Sl w' (.slice c xs.length cc) xs ∧ Sl w' (.slice d ys.length cd) ys ∧ Below w.heap.size w w' := by
  obtain ⟨X, hX⟩ : ∃ X, (w.alloc (.cells #[.bool false, .slice none 0 0, .slice none 0 0] 24)).alloc (.cells #[.bool false, .slice none 0 0, .slice none 0 0] 24) = X := ⟨_, rfl⟩
  have b1 : Below w.heap.size w X := by rw [← hX]; exact bt (alloc_later _ _) (alloc_later _ _)
  have HP : Hid (Box X w.heap.size 24 #[.bool false, .slice none 0 0, .slice none 0 0]) := by rw [← hX]; exact (Box.made w _ _).later (alloc_later _ _) (Box.made w _ _).lt
  have HQ : Hid (Box X (w.heap.size + 1) 24 #[.bool false, .slice none 0 0, .slice none 0 0]) := by
    have h := Box.made (w.alloc (.cells #[.bool false, .slice none 0 0, .slice none 0 0] 24)) 24 #[.bool false, .slice none 0 0, .slice none 0 0]
    rw [show (w.alloc (.cells #[.bool false, .slice none 0 0, .slice none 0 0] 24)).heap.size = w.heap.size + 1 by simp, hX] at h
    exact h
  have HE := hid (exact_fin x X hx (hT.later b1))
  have HB1 := hid b1
  have HT1 := hid (hT.later b1)
  have HEX := hid he
  have HW := hid (And.intro wx wy)
  have H0 : Hid (Fi 0) := ⟨by decide, by decide⟩
  clear b1 he hT hx wx wy
  go_enter Tryz.func36, Tryz.ntmps36
  go_wp2_with fail
  clear hX
  refine Calls.mono HE.out ?_
  rintro e w2 ⟨n', a1, ca1, b1', cb1, xs', ys', rfl, o1, o2, wx', wy', he', b2⟩
  obtain ⟨rfl, rfl, rfl⟩ := ext_same wx' wy' HW.out.1 HW.out.2 he' HEX.out
  obtain ⟨Y, hY⟩ : ∃ Y, w2.alloc (.cells #[.bool n', .slice a1 xs'.length ca1, .slice b1' ys'.length cb1] 24) = Y := ⟨_, rfl⟩
  have b3 : Below w2.heap.size w2 Y := by rw [← hY]; exact alloc_later _ _
  have HBY : Hid (Box Y w2.heap.size 24 #[.bool n', .slice a1 xs'.length ca1, .slice b1' ys'.length cb1]) := by rw [← hY]; exact Box.made w2 _ _
  have HO1 := hid (owns_later o1 b3)
  have HO2 := hid (owns_later o2 b3)
  have HE0 := hid (exact_fin 0 Y H0.out (HT1.out.later (bt b2 b3)))
  have HBB := hid (bt b2 b3)
  have hsz : X.heap.size ≤ w2.heap.size := b2.size
  clear HE o1 o2 wx' wy' he' b2 b3
  go_wp2_with fail
  clear hY
  refine Calls.mono HE0.out ?_
  rintro e w4 ⟨m, a2, ca2, b2', cb2, us, vs, rfl, p1, p2, wu, wv, he0, b4⟩
  obtain ⟨Z, hZ⟩ : ∃ Z, w4.alloc (.cells #[.bool m, .slice a2 us.length ca2, .slice b2' vs.length cb2] 24) = Z := ⟨_, rfl⟩
  have b5 : Below w4.heap.size w4 Z := by rw [← hZ]; exact alloc_later _ _
  have hBZ : Box Z w4.heap.size 24 #[.bool m, .slice a2 us.length ca2, .slice b2' vs.length cb2] := by rw [← hZ]; exact Box.made w4 _ _
  have b45 := bt b4 b5
  have hBY := HBY.out.later b45 HBY.out.lt
  have s1 := Sl.own (owns_later HO1.out b45) HW.out.1
  have s2 := Sl.own (owns_later HO2.out b45) HW.out.2
  have s3 := Sl.own (owns_later p1 b5) wu
  have s4 := Sl.own (owns_later p2 b5) wv
  have hq : rq n' xs' ys' - rq m us vs = fq x := by rw [HEX.out.2.2, he0.2.2, fq_zero]; exact rat_less0 _
  have hq2 : rq n' xs' ys' + rq m us vs = fq x := by rw [HEX.out.2.2, he0.2.2, fq_zero]; exact rat_more0 _
  have HS := hid (rSub_ok n' a1 ca1 xs' b1' cb1 ys' m a2 ca2 us b2' cb2 vs Z s1 s2 s3 s4 HEX.out.1 he0.1)
  rw [hq] at HS
  have HA : Hid (∀ V, V.ownsRow X.heap.size 62 1 (.slice a1 xs'.length ca1) xs'.length (xs'.map (Value.int .u32)) → V.ownsRow X.heap.size 62 1 (.slice b1' ys'.length cb1) ys'.length (ys'.map (Value.int .u32)) → V.ownsRow Y.heap.size 62 1 (.slice a2 us.length ca2) us.length (us.map (Value.int .u32)) → V.ownsRow Y.heap.size 62 1 (.slice b2' vs.length cb2) vs.length (vs.map (Value.int .u32)) → Calls Tryz.prog 15 #[.agg #[.bool n', .slice a1 xs'.length ca1, .slice b1' ys'.length cb1], .agg #[.bool m, .slice a2 us.length ca2, .slice b2' vs.length cb2]] V (RToldA V 0 (fq x))) := fun V q1 q2 q3 q4 => by
    rw [← hq2]
    exact rAdd_ok n' a1 ca1 xs' b1' cb1 ys' m a2 ca2 us b2' cb2 vs V (Sl.own q1 HW.out.1) (Sl.own q2 HW.out.2) (Sl.own q3 wu) (Sl.own q4 wv) HEX.out.1 he0.1
  have HRW := hid (And.intro (owns_later HO1.out b45) (And.intro (owns_later HO2.out b45) (And.intro (owns_later p1 b5) (owns_later p2 b5))))
  have y0 : Z.cell? ⟨w2.heap.size, 0, none⟩ = some (.bool n') := hBY.cell 0
  have y1 : Z.cell? ⟨w2.heap.size, 1, none⟩ = some (.slice a1 xs'.length ca1) := hBY.cell 1
  have y2 : Z.cell? ⟨w2.heap.size, 2, none⟩ = some (.slice b1' ys'.length cb1) := hBY.cell 2
  have z0 : Z.cell? ⟨w4.heap.size, 0, none⟩ = some (.bool m) := hBZ.cell 0
  have z1 : Z.cell? ⟨w4.heap.size, 1, none⟩ = some (.slice a2 us.length ca2) := hBZ.cell 1
  have z2 : Z.cell? ⟨w4.heap.size, 2, none⟩ = some (.slice b2' vs.length cb2) := hBZ.cell 2
  have HXZ := hid (bt HBB.out b45)
  have HYZ := hid hBY
  have HZZ := hid hBZ
  have hs4 : w2.heap.size < w4.heap.size := Nat.lt_of_lt_of_le HBY.out.lt b4.size
  clear HE0 HBY HO1 HO2 p1 p2 wu wv he0 b4 b5 b45 hBY hBZ s1 s2 s3 s4 hq hq2 HBB
  go_wp2_with fail
  clear hZ
  refine Calls.mono HS.out ?_
  rintro e w5 ⟨k1, v1, xs1, u1, ys1, code1, rfl, r1, r2, t1, b6, _⟩
  obtain ⟨rfl, rfl, rfl, rfl⟩ := told_same HW.out.1 HW.out.2 HEX.out.1 HEX.out.2.2 t1
  obtain ⟨a3, c3, rfl⟩ := own_slice' r1
  obtain ⟨a4, c4, rfl⟩ := own_slice' r2
  have hP5 := HP.out.later (bt HXZ.out b6) HP.out.lt
  have hQ5 := HQ.out.later (bt HXZ.out b6) HQ.out.lt
  have hY5 := HYZ.out.later b6 HYZ.out.lt
  have hZ5 := HZZ.out.later b6 HZZ.out.lt
  obtain ⟨V5, hV5⟩ : ∃ V5, ((w5.setCell ⟨w.heap.size, 0, none⟩ (.bool k1)).setCell ⟨w.heap.size, 1, none⟩ (.slice a3 xs1.length c3)).setCell ⟨w.heap.size, 2, none⟩ (.slice a4 ys1.length c4) = V5 := ⟨_, rfl⟩
  have hsX : w.heap.size + 1 < X.heap.size := HQ.out.lt
  have hne1 : w.heap.size + 1 ≠ w.heap.size := by omega
  have P5 : Box V5 w.heap.size 24 #[.bool k1, .slice a3 xs1.length c3, .slice a4 ys1.length c4] := by rw [← hV5]; exact put3_box hP5 _ _ _
  have Q5 : Box V5 (w.heap.size + 1) 24 #[.bool false, .slice none 0 0, .slice none 0 0] := by rw [← hV5]; exact put3_far hQ5 hne1 _ _ _
  have Y5 : Box V5 w2.heap.size 24 #[.bool k1, .slice a1 xs1.length ca1, .slice b1' ys1.length cb1] := by rw [← hV5]; exact put3_far hY5 (by omega) _ _ _
  have Z5 : Box V5 w4.heap.size 24 #[.bool m, .slice a2 us.length ca2, .slice b2' vs.length cb2] := by rw [← hV5]; exact put3_far hZ5 (by omega) _ _ _
  have r1' : V5.ownsRow Z.heap.size 62 1 (.slice a3 xs1.length c3) xs1.length (xs1.map (Value.int .u32)) := by rw [← hV5]; exact put3_row r1 hP5 (by decide) _ _ _
  have r2' : V5.ownsRow Z.heap.size 62 1 (.slice a4 ys1.length c4) ys1.length (ys1.map (Value.int .u32)) := by rw [← hV5]; exact put3_row r2 hP5 (by decide) _ _ _
  have HA5 := hid (HA.out V5 (by rw [← hV5]; exact put3_row (owns_later HRW.out.1 b6) hP5 (by decide) _ _ _) (by rw [← hV5]; exact put3_row (owns_later HRW.out.2.1 b6) hP5 (by decide) _ _ _) (by rw [← hV5]; exact put3_row (owns_later HRW.out.2.2.1 b6) hP5 (by decide) _ _ _) (by rw [← hV5]; exact put3_row (owns_later HRW.out.2.2.2 b6) hP5 (by decide) _ _ _))
  have HB5 : Hid (Below w.heap.size w V5) := by rw [← hV5]; exact below_put3 (bt HB1.out (bt HXZ.out b6)) w.heap.size (Nat.le_refl _) _ _ _
  have f0 := hP5.free 0
  have f1 := hP5.free 1
  have f2 := hP5.free 2
  have g0 : w5.cell? ⟨w.heap.size, 0, none⟩ = some (.bool false) := hP5.cell 0
  have g1 : w5.cell? ⟨w.heap.size, 1, none⟩ = some (.slice none 0 0) := hP5.cell 1
  have g2 : w5.cell? ⟨w.heap.size, 2, none⟩ = some (.slice none 0 0) := hP5.cell 2
  have y0' : V5.cell? ⟨w2.heap.size, 0, none⟩ = some (.bool k1) := Y5.cell 0
  have y1' : V5.cell? ⟨w2.heap.size, 1, none⟩ = some (.slice a1 xs1.length ca1) := Y5.cell 1
  have y2' : V5.cell? ⟨w2.heap.size, 2, none⟩ = some (.slice b1' ys1.length cb1) := Y5.cell 2
  have z0' : V5.cell? ⟨w4.heap.size, 0, none⟩ = some (.bool m) := Z5.cell 0
  have z1' : V5.cell? ⟨w4.heap.size, 1, none⟩ = some (.slice a2 us.length ca2) := Z5.cell 1
  have z2' : V5.cell? ⟨w4.heap.size, 2, none⟩ = some (.slice b2' vs.length cb2) := Z5.cell 2
  have HPQ := hid (And.intro P5 (And.intro Q5 (And.intro r1' r2')))
  clear HS HA HRW hP5 hQ5 hY5 hZ5 P5 Q5 Y5 Z5 r1 r2 r1' r2' t1 b6 y0 y1 y2 z0 z1 z2 HP HQ HXZ HYZ HZZ hsz hs4
  go_wp2_with fail
  clear hV5 g0 g1 g2 f0 f1 f2
  refine Calls.mono HA5.out ?_
  rintro e w6 ⟨k2, v2, xs2, u2, ys2, code2, rfl, r3, r4, t2, b7, _⟩
  obtain ⟨rfl, rfl, rfl, rfl⟩ := told_same HW.out.1 HW.out.2 HEX.out.1 HEX.out.2.2 t2
  obtain ⟨a5, c5, rfl⟩ := own_slice' r3
  obtain ⟨a6, c6, rfl⟩ := own_slice' r4
  have hP6 := HPQ.out.1.later b7 HPQ.out.1.lt
  have hQ6 := HPQ.out.2.1.later b7 HPQ.out.2.1.lt
  obtain ⟨V6, hV6⟩ : ∃ V6, ((w6.setCell ⟨w.heap.size + 1, 0, none⟩ (.bool k2)).setCell ⟨w.heap.size + 1, 1, none⟩ (.slice a5 xs2.length c5)).setCell ⟨w.heap.size + 1, 2, none⟩ (.slice a6 ys2.length c6) = V6 := ⟨_, rfl⟩
  have P6 : Box V6 w.heap.size 24 #[.bool k2, .slice a3 xs2.length c3, .slice a4 ys2.length c4] := by rw [← hV6]; exact put3_far hP6 (by omega) _ _ _
  have Q6 : Box V6 (w.heap.size + 1) 24 #[.bool k2, .slice a5 xs2.length c5, .slice a6 ys2.length c6] := by rw [← hV6]; exact put3_box hQ6 _ _ _
  have HF : Hid (Sl V6 (.slice a3 xs2.length c3) xs2 ∧ Sl V6 (.slice a4 ys2.length c4) ys2 ∧ Sl V6 (.slice a5 xs2.length c5) xs2 ∧ Sl V6 (.slice a6 ys2.length c6) ys2) := by
    rw [← hV6]
    exact ⟨Sl.own (put3_row (owns_later HPQ.out.2.2.1 b7) hQ6 (by decide) _ _ _) HW.out.1, Sl.own (put3_row (owns_later HPQ.out.2.2.2 b7) hQ6 (by decide) _ _ _) HW.out.2, Sl.own (put3_row r3 hQ6 (by decide) _ _ _) HW.out.1, Sl.own (put3_row r4 hQ6 (by decide) _ _ _) HW.out.2⟩
  have HB6 : Hid (Below w.heap.size w V6) := by rw [← hV6]; exact below_put3 (bt HB5.out b7) (w.heap.size + 1) (by omega) _ _ _
  have f0 := hQ6.free 0
  have f1 := hQ6.free 1
  have f2 := hQ6.free 2
  have g0 : w6.cell? ⟨w.heap.size + 1, 0, none⟩ = some (.bool false) := hQ6.cell 0
  have g1 : w6.cell? ⟨w.heap.size + 1, 1, none⟩ = some (.slice none 0 0) := hQ6.cell 1
  have g2 : w6.cell? ⟨w.heap.size + 1, 2, none⟩ = some (.slice none 0 0) := hQ6.cell 2
  have p0 : V6.cell? ⟨w.heap.size, 0, none⟩ = some (.bool k2) := P6.cell 0
  have p1 : V6.cell? ⟨w.heap.size, 1, none⟩ = some (.slice a3 xs2.length c3) := P6.cell 1
  have p2 : V6.cell? ⟨w.heap.size, 2, none⟩ = some (.slice a4 ys2.length c4) := P6.cell 2
  have q0 : V6.cell? ⟨w.heap.size + 1, 0, none⟩ = some (.bool k2) := Q6.cell 0
  have q1 : V6.cell? ⟨w.heap.size + 1, 1, none⟩ = some (.slice a5 xs2.length c5) := Q6.cell 1
  have q2 : V6.cell? ⟨w.heap.size + 1, 2, none⟩ = some (.slice a6 ys2.length c6) := Q6.cell 2
  have j0 := P6.free 0
  have j1 := P6.free 1
  have j2 := P6.free 2
  have i0 := Q6.free 0
  have i1 := Q6.free 1
  have i2 := Q6.free 2
  have HPB := hid (And.intro P6 Q6)
  clear HA5 r3 r4 t2 b7 hP6 hQ6 P6 Q6 HPQ y0' y1' y2' z0' z1' z2'
  go_wp2_with fail
  clear hV6 g0 g1 g2 f0 f1 f2
  have D6 : Box V6.drew w.heap.size 24 #[.bool k2, .slice a3 xs2.length c3, .slice a4 ys2.length c4] := HPB.out.1
  have E6 : Box V6.drew (w.heap.size + 1) 24 #[.bool k2, .slice a5 xs2.length c5, .slice a6 ys2.length c6] := HPB.out.2
  have m0 : V6.drew.setCell ⟨w.heap.size, 0, none⟩ (.bool k2) = V6.drew := D6.same rfl
  have m1 : V6.drew.setCell ⟨w.heap.size, 1, none⟩ (.slice a3 xs2.length c3) = V6.drew := D6.same rfl
  have m2 : V6.drew.setCell ⟨w.heap.size, 2, none⟩ (.slice a4 ys2.length c4) = V6.drew := D6.same rfl
  have m3 : V6.drew.setCell ⟨w.heap.size + 1, 0, none⟩ (.bool k2) = V6.drew := E6.same rfl
  have m4 : V6.drew.setCell ⟨w.heap.size + 1, 1, none⟩ (.slice a5 xs2.length c5) = V6.drew := E6.same rfl
  have m5 : V6.drew.setCell ⟨w.heap.size + 1, 2, none⟩ (.slice a6 ys2.length c6) = V6.drew := E6.same rfl
  go_region
  all_goals
    go_wp2_with fail
    refine bodyPost_ret (v := .tuple #[.agg #[.bool k2, .slice a3 xs2.length c3, .slice a4 ys2.length c4], .agg #[.bool k2, .slice a5 xs2.length c5, .slice a6 ys2.length c6], .int .i64 0]) (by simp [results, Tryz.results36, go_sem, p0, p1, p2, q0, q1, q2]) rfl ?_
    have hbd := Below.drew (Below.refl V6.heap.size V6)
    exact ⟨a3, c3, a4, c4, a5, c5, a6, c6, rfl, HF.out.1.later hbd, HF.out.2.1.later hbd, HF.out.2.2.1.later hbd, HF.out.2.2.2.later hbd, bt HB6.out hbd⟩

set_option maxHeartbeats 1600000 in
set_option maxRecDepth 100000 in
theorem within_self (x : Nat) (n : Bool) (a : Option Addr) (ca : Nat) (xs : List Int) (b : Option Addr) (cb : Nat) (ys : List Int) (w : World) (hx : Fi x) (hT : TabB w) (sx : Sl w (.slice a xs.length ca) xs) (sy : Sl w (.slice b ys.length cb) ys) (he : ExT x n xs ys) :
    Calls Tryz.prog 19 #[.float .f64 x, .agg #[.bool n, .slice a xs.length ca, .slice b ys.length cb], .float .f64 0] w fun e w' => e = .returned (.tuple #[.bool true, .int .i64 0]) ∧ Below w.heap.size w w' := by
  obtain ⟨X, hX⟩ : ∃ X, w.alloc (.cells #[.bool n, .slice a xs.length ca, .slice b ys.length cb] 24) = X := ⟨_, rfl⟩
  have b1 : Below w.heap.size w X := by rw [← hX]; exact alloc_later _ _
  have HBX : Hid (Box X w.heap.size 24 #[.bool n, .slice a xs.length ca, .slice b ys.length cb]) := by rw [← hX]; exact Box.made w _ _
  have HE := hid (ends_self x X hx (hT.later b1) n xs ys sx.wd sy.wd he)
  have HSX := hid (sx.later b1)
  have HSY := hid (sy.later b1)
  have HB1 := hid b1
  have HEX := hid he
  clear sx sy b1 he hT hx
  go_enter Tryz.func19, Tryz.ntmps19
  go_wp2_with fail
  clear hX
  refine Calls.mono HE.out ?_
  rintro e w2 ⟨a1, c1, a2, c2, a3, c3, a4, c4, rfl, s1, s2, s3, s4, b2⟩
  obtain ⟨Y, hY⟩ : ∃ Y, (w2.alloc (.cells #[.bool n, .slice a1 xs.length c1, .slice a2 ys.length c2] 24)).alloc (.cells #[.bool n, .slice a3 xs.length c3, .slice a4 ys.length c4] 24) = Y := ⟨_, rfl⟩
  have b3 : Below w2.heap.size w2 Y := by rw [← hY]; exact bt (alloc_later _ _) (alloc_later _ _)
  have hP : Box Y w2.heap.size 24 #[.bool n, .slice a1 xs.length c1, .slice a2 ys.length c2] := by rw [← hY]; exact (Box.made w2 _ _).later (alloc_later _ _) (Box.made w2 _ _).lt
  have hQ : Box Y (w2.heap.size + 1) 24 #[.bool n, .slice a3 xs.length c3, .slice a4 ys.length c4] := by
    have h := Box.made (w2.alloc (.cells #[.bool n, .slice a1 xs.length c1, .slice a2 ys.length c2] 24)) 24 #[.bool n, .slice a3 xs.length c3, .slice a4 ys.length c4]
    rw [show (w2.alloc (.cells #[.bool n, .slice a1 xs.length c1, .slice a2 ys.length c2] 24)).heap.size = w2.heap.size + 1 by simp, hY] at h
    exact h
  have hBX := HBX.out.later (bt b2 b3) HBX.out.lt
  have HC1 := hid (rCompare_full n a1 c1 xs a2 c2 ys n a ca xs b cb ys Y (s1.later b3) (s2.later b3) ((HSX.out.later b2).later b3) ((HSY.out.later b2).later b3))
  rw [(rcmp_self HEX.out.1).1, (rcmp_self HEX.out.1).2] at HC1
  have HC2 : Hid (∀ V, Below Y.heap.size Y V → Calls Tryz.prog 37 #[.agg #[.bool n, .slice a xs.length ca, .slice b ys.length cb], .agg #[.bool n, .slice a3 xs.length c3, .slice a4 ys.length c4]] V fun e w' => e = .returned (.tuple #[.int .i64 0, .int .i64 0]) ∧ Below V.heap.size V w') := fun V hv => by
    have h := rCompare_full n a ca xs b cb ys n a3 c3 xs a4 c4 ys V ((HSX.out.later b2).later (bt b3 hv)) ((HSY.out.later b2).later (bt b3 hv)) (s3.later (bt b3 hv)) (s4.later (bt b3 hv))
    rw [(rcmp_self HEX.out.1).1, (rcmp_self HEX.out.1).2] at h
    exact h
  have HBB := hid (bt HB1.out (bt b2 b3))
  have p0 : Y.cell? ⟨w2.heap.size, 0, none⟩ = some (.bool n) := hP.cell 0
  have p1 : Y.cell? ⟨w2.heap.size, 1, none⟩ = some (.slice a1 xs.length c1) := hP.cell 1
  have p2 : Y.cell? ⟨w2.heap.size, 2, none⟩ = some (.slice a2 ys.length c2) := hP.cell 2
  have d0 : Y.cell? ⟨w.heap.size, 0, none⟩ = some (.bool n) := hBX.cell 0
  have d1 : Y.cell? ⟨w.heap.size, 1, none⟩ = some (.slice a xs.length ca) := hBX.cell 1
  have d2 : Y.cell? ⟨w.heap.size, 2, none⟩ = some (.slice b ys.length cb) := hBX.cell 2
  have HBQ := hid (And.intro hBX hQ)
  clear HE s1 s2 s3 s4 b2 b3 hBX hP hQ HSX HSY HB1
  go_wp2_with fail
  clear hY
  refine Calls.mono HC1.out ?_
  rintro e w3 ⟨rfl, b4⟩
  have hx3 := HBQ.out.1.later b4 HBQ.out.1.lt
  have hq3 := HBQ.out.2.later b4 HBQ.out.2.lt
  have HC3 := hid (HC2.out w3 b4)
  have HB4 := hid (bt HBB.out b4)
  have d0' : w3.cell? ⟨w.heap.size, 0, none⟩ = some (.bool n) := hx3.cell 0
  have d1' : w3.cell? ⟨w.heap.size, 1, none⟩ = some (.slice a xs.length ca) := hx3.cell 1
  have d2' : w3.cell? ⟨w.heap.size, 2, none⟩ = some (.slice b ys.length cb) := hx3.cell 2
  have q0' : w3.cell? ⟨w2.heap.size + 1, 0, none⟩ = some (.bool n) := hq3.cell 0
  have q1' : w3.cell? ⟨w2.heap.size + 1, 1, none⟩ = some (.slice a3 xs.length c3) := hq3.cell 1
  have q2' : w3.cell? ⟨w2.heap.size + 1, 2, none⟩ = some (.slice a4 ys.length c4) := hq3.cell 2
  clear HC1 HC2 b4 p0 p1 p2 d0 d1 d2 hx3 hq3
  go_wp2_with fail
  refine Calls.mono HC3.out ?_
  rintro e w5 ⟨rfl, b5⟩
  have HB5 := hid (bt HB4.out b5)
  clear HC3 b5 d0' d1' d2' q0' q1' q2'
  go_wp2_with fail
  go_returns
  exact ⟨rfl, HB5.out⟩

end Go.Proofs.YtfppimlmebnaeaaGreatDoor

/- real.Within of any finite float and bound: both ends, and the two comparisons. -/
namespace Go.Proofs.YtfppimlmebnaeaaGreatDoor
open Go.RowKit
set_option linter.unusedVariables false

set_option maxHeartbeats 1600000 in
set_option maxRecDepth 100000 in
theorem ends_fin (x y : Nat) (w : World) (hx : Fi x) (hy : Fi y) (hT : TabB w) :
    Calls Tryz.prog 36 #[.float .f64 x, .float .f64 y] w fun e w' => ∃ k1 a ca b cb xs1 ys1 e1 k2 c cc d cd xs2 ys2 e2, e = .returned (.tuple #[.agg #[.bool k1, .slice a (List.length xs1) ca, .slice b (List.length ys1) cb], .agg #[.bool k2, .slice c (List.length xs2) cc, .slice d (List.length ys2) cd], .int .i64 0]) ∧ Sl w' (.slice a xs1.length ca) xs1 ∧ Sl w' (.slice b ys1.length cb) ys1 ∧ Sl w' (.slice c xs2.length cc) xs2 ∧ Sl w' (.slice d ys2.length cd) ys2 ∧ RTells 0 (fq x - fq y) k1 xs1 ys1 e1 ∧ RTells 0 (fq x + fq y) k2 xs2 ys2 e2 ∧ Below w.heap.size w w' := by
  obtain ⟨X, hX⟩ : ∃ X, (w.alloc (.cells #[.bool false, .slice none 0 0, .slice none 0 0] 24)).alloc (.cells #[.bool false, .slice none 0 0, .slice none 0 0] 24) = X := ⟨_, rfl⟩
  have b1 : Below w.heap.size w X := by rw [← hX]; exact bt (alloc_later _ _) (alloc_later _ _)
  have HP : Hid (Box X w.heap.size 24 #[.bool false, .slice none 0 0, .slice none 0 0]) := by rw [← hX]; exact (Box.made w _ _).later (alloc_later _ _) (Box.made w _ _).lt
  have HQ : Hid (Box X (w.heap.size + 1) 24 #[.bool false, .slice none 0 0, .slice none 0 0]) := by
    have h := Box.made (w.alloc (.cells #[.bool false, .slice none 0 0, .slice none 0 0] 24)) 24 #[.bool false, .slice none 0 0, .slice none 0 0]
    rw [show (w.alloc (.cells #[.bool false, .slice none 0 0, .slice none 0 0] 24)).heap.size = w.heap.size + 1 by simp, hX] at h
    exact h
  have HE := hid (exact_fin x X hx (hT.later b1))
  have HB1 := hid b1
  have HT1 := hid (hT.later b1)
  have H0 := hid hy
  clear b1 hT hx hy
  go_enter Tryz.func36, Tryz.ntmps36
  go_wp2_with fail
  clear hX
  refine Calls.mono HE.out ?_
  rintro e w2 ⟨n', a1, ca1, b1', cb1, xs', ys', rfl, o1, o2, wx', wy', he', b2⟩
  have HEX := hid he'
  have HW := hid (And.intro wx' wy')
  obtain ⟨Y, hY⟩ : ∃ Y, w2.alloc (.cells #[.bool n', .slice a1 xs'.length ca1, .slice b1' ys'.length cb1] 24) = Y := ⟨_, rfl⟩
  have b3 : Below w2.heap.size w2 Y := by rw [← hY]; exact alloc_later _ _
  have HBY : Hid (Box Y w2.heap.size 24 #[.bool n', .slice a1 xs'.length ca1, .slice b1' ys'.length cb1]) := by rw [← hY]; exact Box.made w2 _ _
  have HO1 := hid (owns_later o1 b3)
  have HO2 := hid (owns_later o2 b3)
  have HE0 := hid (exact_fin y Y H0.out (HT1.out.later (bt b2 b3)))
  have HBB := hid (bt b2 b3)
  have hsz : X.heap.size ≤ w2.heap.size := b2.size
  clear HE o1 o2 wx' wy' he' b2 b3
  go_wp2_with fail
  clear hY
  refine Calls.mono HE0.out ?_
  rintro e w4 ⟨m, a2, ca2, b2', cb2, us, vs, rfl, p1, p2, wu, wv, he0, b4⟩
  obtain ⟨Z, hZ⟩ : ∃ Z, w4.alloc (.cells #[.bool m, .slice a2 us.length ca2, .slice b2' vs.length cb2] 24) = Z := ⟨_, rfl⟩
  have b5 : Below w4.heap.size w4 Z := by rw [← hZ]; exact alloc_later _ _
  have hBZ : Box Z w4.heap.size 24 #[.bool m, .slice a2 us.length ca2, .slice b2' vs.length cb2] := by rw [← hZ]; exact Box.made w4 _ _
  have b45 := bt b4 b5
  have hBY := HBY.out.later b45 HBY.out.lt
  have s1 := Sl.own (owns_later HO1.out b45) HW.out.1
  have s2 := Sl.own (owns_later HO2.out b45) HW.out.2
  have s3 := Sl.own (owns_later p1 b5) wu
  have s4 := Sl.own (owns_later p2 b5) wv
  have hq : rq n' xs' ys' - rq m us vs = fq x - fq y := by rw [HEX.out.2.2, he0.2.2]
  have hq2 : rq n' xs' ys' + rq m us vs = fq x + fq y := by rw [HEX.out.2.2, he0.2.2]
  have HS := hid (rSub_ok n' a1 ca1 xs' b1' cb1 ys' m a2 ca2 us b2' cb2 vs Z s1 s2 s3 s4 HEX.out.1 he0.1)
  rw [hq] at HS
  have HA : Hid (∀ V, V.ownsRow X.heap.size 62 1 (.slice a1 xs'.length ca1) xs'.length (xs'.map (Value.int .u32)) → V.ownsRow X.heap.size 62 1 (.slice b1' ys'.length cb1) ys'.length (ys'.map (Value.int .u32)) → V.ownsRow Y.heap.size 62 1 (.slice a2 us.length ca2) us.length (us.map (Value.int .u32)) → V.ownsRow Y.heap.size 62 1 (.slice b2' vs.length cb2) vs.length (vs.map (Value.int .u32)) → Calls Tryz.prog 15 #[.agg #[.bool n', .slice a1 xs'.length ca1, .slice b1' ys'.length cb1], .agg #[.bool m, .slice a2 us.length ca2, .slice b2' vs.length cb2]] V (RToldA V 0 (fq x + fq y))) := fun V q1 q2 q3 q4 => by
    rw [← hq2]
    exact rAdd_ok n' a1 ca1 xs' b1' cb1 ys' m a2 ca2 us b2' cb2 vs V (Sl.own q1 HW.out.1) (Sl.own q2 HW.out.2) (Sl.own q3 wu) (Sl.own q4 wv) HEX.out.1 he0.1
  have HRW := hid (And.intro (owns_later HO1.out b45) (And.intro (owns_later HO2.out b45) (And.intro (owns_later p1 b5) (owns_later p2 b5))))
  have y0 : Z.cell? ⟨w2.heap.size, 0, none⟩ = some (.bool n') := hBY.cell 0
  have y1 : Z.cell? ⟨w2.heap.size, 1, none⟩ = some (.slice a1 xs'.length ca1) := hBY.cell 1
  have y2 : Z.cell? ⟨w2.heap.size, 2, none⟩ = some (.slice b1' ys'.length cb1) := hBY.cell 2
  have z0 : Z.cell? ⟨w4.heap.size, 0, none⟩ = some (.bool m) := hBZ.cell 0
  have z1 : Z.cell? ⟨w4.heap.size, 1, none⟩ = some (.slice a2 us.length ca2) := hBZ.cell 1
  have z2 : Z.cell? ⟨w4.heap.size, 2, none⟩ = some (.slice b2' vs.length cb2) := hBZ.cell 2
  have HXZ := hid (bt HBB.out b45)
  have HYZ := hid hBY
  have HZZ := hid hBZ
  have hs4 : w2.heap.size < w4.heap.size := Nat.lt_of_lt_of_le HBY.out.lt b4.size
  clear HE0 HBY HO1 HO2 p1 p2 wu wv he0 b4 b5 b45 hBY hBZ s1 s2 s3 s4 hq hq2 HBB
  go_wp2_with fail
  clear hZ
  refine Calls.mono HS.out ?_
  rintro e w5 ⟨k1, v1, xs1, u1, ys1, code1, rfl, r1, r2, t1, b6, _⟩
  have HT5 := hid t1
  obtain ⟨a3, c3, rfl⟩ := own_slice' r1
  obtain ⟨a4, c4, rfl⟩ := own_slice' r2
  have hP5 := HP.out.later (bt HXZ.out b6) HP.out.lt
  have hQ5 := HQ.out.later (bt HXZ.out b6) HQ.out.lt
  have hY5 := HYZ.out.later b6 HYZ.out.lt
  have hZ5 := HZZ.out.later b6 HZZ.out.lt
  obtain ⟨V5, hV5⟩ : ∃ V5, ((w5.setCell ⟨w.heap.size, 0, none⟩ (.bool k1)).setCell ⟨w.heap.size, 1, none⟩ (.slice a3 xs1.length c3)).setCell ⟨w.heap.size, 2, none⟩ (.slice a4 ys1.length c4) = V5 := ⟨_, rfl⟩
  have hsX : w.heap.size + 1 < X.heap.size := HQ.out.lt
  have hne1 : w.heap.size + 1 ≠ w.heap.size := by omega
  have P5 : Box V5 w.heap.size 24 #[.bool k1, .slice a3 xs1.length c3, .slice a4 ys1.length c4] := by rw [← hV5]; exact put3_box hP5 _ _ _
  have Q5 : Box V5 (w.heap.size + 1) 24 #[.bool false, .slice none 0 0, .slice none 0 0] := by rw [← hV5]; exact put3_far hQ5 hne1 _ _ _
  have Y5 : Box V5 w2.heap.size 24 #[.bool n', .slice a1 xs'.length ca1, .slice b1' ys'.length cb1] := by rw [← hV5]; exact put3_far hY5 (by omega) _ _ _
  have Z5 : Box V5 w4.heap.size 24 #[.bool m, .slice a2 us.length ca2, .slice b2' vs.length cb2] := by rw [← hV5]; exact put3_far hZ5 (by omega) _ _ _
  have r1' : V5.ownsRow Z.heap.size 62 1 (.slice a3 xs1.length c3) xs1.length (xs1.map (Value.int .u32)) := by rw [← hV5]; exact put3_row r1 hP5 (by decide) _ _ _
  have r2' : V5.ownsRow Z.heap.size 62 1 (.slice a4 ys1.length c4) ys1.length (ys1.map (Value.int .u32)) := by rw [← hV5]; exact put3_row r2 hP5 (by decide) _ _ _
  have HA5 := hid (HA.out V5 (by rw [← hV5]; exact put3_row (owns_later HRW.out.1 b6) hP5 (by decide) _ _ _) (by rw [← hV5]; exact put3_row (owns_later HRW.out.2.1 b6) hP5 (by decide) _ _ _) (by rw [← hV5]; exact put3_row (owns_later HRW.out.2.2.1 b6) hP5 (by decide) _ _ _) (by rw [← hV5]; exact put3_row (owns_later HRW.out.2.2.2 b6) hP5 (by decide) _ _ _))
  have HB5 : Hid (Below w.heap.size w V5) := by rw [← hV5]; exact below_put3 (bt HB1.out (bt HXZ.out b6)) w.heap.size (Nat.le_refl _) _ _ _
  have f0 := hP5.free 0
  have f1 := hP5.free 1
  have f2 := hP5.free 2
  have g0 : w5.cell? ⟨w.heap.size, 0, none⟩ = some (.bool false) := hP5.cell 0
  have g1 : w5.cell? ⟨w.heap.size, 1, none⟩ = some (.slice none 0 0) := hP5.cell 1
  have g2 : w5.cell? ⟨w.heap.size, 2, none⟩ = some (.slice none 0 0) := hP5.cell 2
  have y0' : V5.cell? ⟨w2.heap.size, 0, none⟩ = some (.bool n') := Y5.cell 0
  have y1' : V5.cell? ⟨w2.heap.size, 1, none⟩ = some (.slice a1 xs'.length ca1) := Y5.cell 1
  have y2' : V5.cell? ⟨w2.heap.size, 2, none⟩ = some (.slice b1' ys'.length cb1) := Y5.cell 2
  have z0' : V5.cell? ⟨w4.heap.size, 0, none⟩ = some (.bool m) := Z5.cell 0
  have z1' : V5.cell? ⟨w4.heap.size, 1, none⟩ = some (.slice a2 us.length ca2) := Z5.cell 1
  have z2' : V5.cell? ⟨w4.heap.size, 2, none⟩ = some (.slice b2' vs.length cb2) := Z5.cell 2
  have HPQ := hid (And.intro P5 (And.intro Q5 (And.intro r1' r2')))
  clear HS HA HRW hP5 hQ5 hY5 hZ5 P5 Q5 Y5 Z5 r1 r2 r1' r2' t1 b6 y0 y1 y2 z0 z1 z2 HP HQ HXZ HYZ HZZ hsz hs4
  go_wp2_with fail
  clear hV5 g0 g1 g2 f0 f1 f2
  refine Calls.mono HA5.out ?_
  rintro e w6 ⟨k2, v2, xs2, u2, ys2, code2, rfl, r3, r4, t2, b7, _⟩
  have HT6 := hid t2
  obtain ⟨a5, c5, rfl⟩ := own_slice' r3
  obtain ⟨a6, c6, rfl⟩ := own_slice' r4
  have hP6 := HPQ.out.1.later b7 HPQ.out.1.lt
  have hQ6 := HPQ.out.2.1.later b7 HPQ.out.2.1.lt
  obtain ⟨V6, hV6⟩ : ∃ V6, ((w6.setCell ⟨w.heap.size + 1, 0, none⟩ (.bool k2)).setCell ⟨w.heap.size + 1, 1, none⟩ (.slice a5 xs2.length c5)).setCell ⟨w.heap.size + 1, 2, none⟩ (.slice a6 ys2.length c6) = V6 := ⟨_, rfl⟩
  have P6 : Box V6 w.heap.size 24 #[.bool k1, .slice a3 xs1.length c3, .slice a4 ys1.length c4] := by rw [← hV6]; exact put3_far hP6 (by omega) _ _ _
  have Q6 : Box V6 (w.heap.size + 1) 24 #[.bool k2, .slice a5 xs2.length c5, .slice a6 ys2.length c6] := by rw [← hV6]; exact put3_box hQ6 _ _ _
  have HF : Hid (Sl V6 (.slice a3 xs1.length c3) xs1 ∧ Sl V6 (.slice a4 ys1.length c4) ys1 ∧ Sl V6 (.slice a5 xs2.length c5) xs2 ∧ Sl V6 (.slice a6 ys2.length c6) ys2) := by
    rw [← hV6]
    exact ⟨Sl.own (put3_row (owns_later HPQ.out.2.2.1 b7) hQ6 (by decide) _ _ _) HT5.out.wx, Sl.own (put3_row (owns_later HPQ.out.2.2.2 b7) hQ6 (by decide) _ _ _) HT5.out.wy, Sl.own (put3_row r3 hQ6 (by decide) _ _ _) HT6.out.wx, Sl.own (put3_row r4 hQ6 (by decide) _ _ _) HT6.out.wy⟩
  have HB6 : Hid (Below w.heap.size w V6) := by rw [← hV6]; exact below_put3 (bt HB5.out b7) (w.heap.size + 1) (by omega) _ _ _
  have f0 := hQ6.free 0
  have f1 := hQ6.free 1
  have f2 := hQ6.free 2
  have g0 : w6.cell? ⟨w.heap.size + 1, 0, none⟩ = some (.bool false) := hQ6.cell 0
  have g1 : w6.cell? ⟨w.heap.size + 1, 1, none⟩ = some (.slice none 0 0) := hQ6.cell 1
  have g2 : w6.cell? ⟨w.heap.size + 1, 2, none⟩ = some (.slice none 0 0) := hQ6.cell 2
  have p0 : V6.cell? ⟨w.heap.size, 0, none⟩ = some (.bool k1) := P6.cell 0
  have p1 : V6.cell? ⟨w.heap.size, 1, none⟩ = some (.slice a3 xs1.length c3) := P6.cell 1
  have p2 : V6.cell? ⟨w.heap.size, 2, none⟩ = some (.slice a4 ys1.length c4) := P6.cell 2
  have q0 : V6.cell? ⟨w.heap.size + 1, 0, none⟩ = some (.bool k2) := Q6.cell 0
  have q1 : V6.cell? ⟨w.heap.size + 1, 1, none⟩ = some (.slice a5 xs2.length c5) := Q6.cell 1
  have q2 : V6.cell? ⟨w.heap.size + 1, 2, none⟩ = some (.slice a6 ys2.length c6) := Q6.cell 2
  have j0 := P6.free 0
  have j1 := P6.free 1
  have j2 := P6.free 2
  have i0 := Q6.free 0
  have i1 := Q6.free 1
  have i2 := Q6.free 2
  have HPB := hid (And.intro P6 Q6)
  clear HA5 r3 r4 t2 b7 hP6 hQ6 P6 Q6 HPQ y0' y1' y2' z0' z1' z2'
  go_wp2_with fail
  clear hV6 g0 g1 g2 f0 f1 f2
  have D6 : Box V6.drew w.heap.size 24 #[.bool k1, .slice a3 xs1.length c3, .slice a4 ys1.length c4] := HPB.out.1
  have E6 : Box V6.drew (w.heap.size + 1) 24 #[.bool k2, .slice a5 xs2.length c5, .slice a6 ys2.length c6] := HPB.out.2
  have m0 : V6.drew.setCell ⟨w.heap.size, 0, none⟩ (.bool k1) = V6.drew := D6.same rfl
  have m1 : V6.drew.setCell ⟨w.heap.size, 1, none⟩ (.slice a3 xs1.length c3) = V6.drew := D6.same rfl
  have m2 : V6.drew.setCell ⟨w.heap.size, 2, none⟩ (.slice a4 ys1.length c4) = V6.drew := D6.same rfl
  have m3 : V6.drew.setCell ⟨w.heap.size + 1, 0, none⟩ (.bool k2) = V6.drew := E6.same rfl
  have m4 : V6.drew.setCell ⟨w.heap.size + 1, 1, none⟩ (.slice a5 xs2.length c5) = V6.drew := E6.same rfl
  have m5 : V6.drew.setCell ⟨w.heap.size + 1, 2, none⟩ (.slice a6 ys2.length c6) = V6.drew := E6.same rfl
  go_region
  all_goals
    go_wp2_with fail
    refine bodyPost_ret (v := .tuple #[.agg #[.bool k1, .slice a3 xs1.length c3, .slice a4 ys1.length c4], .agg #[.bool k2, .slice a5 xs2.length c5, .slice a6 ys2.length c6], .int .i64 0]) (by simp [results, Tryz.results36, go_sem, p0, p1, p2, q0, q1, q2]) rfl ?_
    have hbd := Below.drew (Below.refl V6.heap.size V6)
    exact ⟨k1, a3, c3, a4, c4, xs1, ys1, _, k2, a5, c5, a6, c6, xs2, ys2, _, rfl, HF.out.1.later hbd, HF.out.2.1.later hbd, HF.out.2.2.1.later hbd, HF.out.2.2.2.later hbd, HT5.out, HT6.out, bt HB6.out hbd⟩

/-- What real.Within tells of two finite floats. -/
def WiT (x y : Nat) (n : Bool) (xs ys : List Int) (B : Bool) (c : Int) : Prop :=
  ∃ k1 xs1 ys1 e1 k2 xs2 ys2 e2, RTells 0 (fq x - fq y) k1 xs1 ys1 e1 ∧ RTells 0 (fq x + fq y) k2 xs2 ys2 e2 ∧ ((rboth k1 xs1 ys1 n xs ys ≠ 0 ∧ B = false ∧ c = rboth k1 xs1 ys1 n xs ys) ∨ (rboth k1 xs1 ys1 n xs ys = 0 ∧ rboth n xs ys k2 xs2 ys2 ≠ 0 ∧ B = false ∧ c = rboth n xs ys k2 xs2 ys2) ∨ (rboth k1 xs1 ys1 n xs ys = 0 ∧ rboth n xs ys k2 xs2 ys2 = 0 ∧ c = 0 ∧ B = (decide (rcmp k1 xs1 ys1 n xs ys ≤ 0) && decide (rcmp n xs ys k2 xs2 ys2 ≤ 0))))

set_option maxHeartbeats 1600000 in
set_option maxRecDepth 100000 in
theorem within_fin (x y : Nat) (n : Bool) (a : Option Addr) (ca : Nat) (xs : List Int) (b : Option Addr) (cb : Nat) (ys : List Int) (w : World) (hx : Fi x) (hy : Fi y) (hT : TabB w) (sx : Sl w (.slice a xs.length ca) xs) (sy : Sl w (.slice b ys.length cb) ys) :
    Calls Tryz.prog 19 #[.float .f64 x, .agg #[.bool n, .slice a xs.length ca, .slice b ys.length cb], .float .f64 y] w fun e w' => ∃ B c, e = .returned (.tuple #[.bool B, .int .i64 c]) ∧ WiT x y n xs ys B c ∧ Below w.heap.size w w' := by
  obtain ⟨X, hX⟩ : ∃ X, w.alloc (.cells #[.bool n, .slice a xs.length ca, .slice b ys.length cb] 24) = X := ⟨_, rfl⟩
  have b1 : Below w.heap.size w X := by rw [← hX]; exact alloc_later _ _
  have HBX : Hid (Box X w.heap.size 24 #[.bool n, .slice a xs.length ca, .slice b ys.length cb]) := by rw [← hX]; exact Box.made w _ _
  have HE := hid (ends_fin x y X hx hy (hT.later b1))
  have HSX := hid (sx.later b1)
  have HSY := hid (sy.later b1)
  have HB1 := hid b1
  clear sx sy b1 hT hx hy
  go_enter Tryz.func19, Tryz.ntmps19
  go_wp2_with fail
  clear hX
  refine Calls.mono HE.out ?_
  rintro e w2 ⟨k1, a1, c1, a2, c2, xs1, ys1, e1, k2, a3, c3, a4, c4, xs2, ys2, e2, rfl, s1, s2, s3, s4, t1, t2, b2⟩
  have HTT := hid (And.intro t1 t2)
  obtain ⟨Y, hY⟩ : ∃ Y, (w2.alloc (.cells #[.bool k1, .slice a1 xs1.length c1, .slice a2 ys1.length c2] 24)).alloc (.cells #[.bool k2, .slice a3 xs2.length c3, .slice a4 ys2.length c4] 24) = Y := ⟨_, rfl⟩
  have b3 : Below w2.heap.size w2 Y := by rw [← hY]; exact bt (alloc_later _ _) (alloc_later _ _)
  have hP : Box Y w2.heap.size 24 #[.bool k1, .slice a1 xs1.length c1, .slice a2 ys1.length c2] := by rw [← hY]; exact (Box.made w2 _ _).later (alloc_later _ _) (Box.made w2 _ _).lt
  have hQ : Box Y (w2.heap.size + 1) 24 #[.bool k2, .slice a3 xs2.length c3, .slice a4 ys2.length c4] := by
    have h := Box.made (w2.alloc (.cells #[.bool k1, .slice a1 xs1.length c1, .slice a2 ys1.length c2] 24)) 24 #[.bool k2, .slice a3 xs2.length c3, .slice a4 ys2.length c4]
    rw [show (w2.alloc (.cells #[.bool k1, .slice a1 xs1.length c1, .slice a2 ys1.length c2] 24)).heap.size = w2.heap.size + 1 by simp, hY] at h
    exact h
  have hBX := HBX.out.later (bt b2 b3) HBX.out.lt
  have HC1 := hid (rCompare_full k1 a1 c1 xs1 a2 c2 ys1 n a ca xs b cb ys Y (s1.later b3) (s2.later b3) ((HSX.out.later b2).later b3) ((HSY.out.later b2).later b3))
  obtain ⟨v1, hv1⟩ : ∃ v, rcmp k1 xs1 ys1 n xs ys = v := ⟨_, rfl⟩
  obtain ⟨r1, hr1⟩ : ∃ r, rboth k1 xs1 ys1 n xs ys = r := ⟨_, rfl⟩
  obtain ⟨v2, hv2⟩ : ∃ v, rcmp n xs ys k2 xs2 ys2 = v := ⟨_, rfl⟩
  obtain ⟨r2, hr2⟩ : ∃ r, rboth n xs ys k2 xs2 ys2 = r := ⟨_, rfl⟩
  rw [hv1, hr1] at HC1
  have HC2 : Hid (∀ V, Below Y.heap.size Y V → Calls Tryz.prog 37 #[.agg #[.bool n, .slice a xs.length ca, .slice b ys.length cb], .agg #[.bool k2, .slice a3 xs2.length c3, .slice a4 ys2.length c4]] V fun e w' => e = .returned (.tuple #[.int .i64 v2, .int .i64 r2]) ∧ Below V.heap.size V w') := fun V hv => by
    have h := rCompare_full n a ca xs b cb ys k2 a3 c3 xs2 a4 c4 ys2 V ((HSX.out.later b2).later (bt b3 hv)) ((HSY.out.later b2).later (bt b3 hv)) (s3.later (bt b3 hv)) (s4.later (bt b3 hv))
    rw [hv2, hr2] at h
    exact h
  have HBB := hid (bt HB1.out (bt b2 b3))
  have p0 : Y.cell? ⟨w2.heap.size, 0, none⟩ = some (.bool k1) := hP.cell 0
  have p1 : Y.cell? ⟨w2.heap.size, 1, none⟩ = some (.slice a1 xs1.length c1) := hP.cell 1
  have p2 : Y.cell? ⟨w2.heap.size, 2, none⟩ = some (.slice a2 ys1.length c2) := hP.cell 2
  have d0 : Y.cell? ⟨w.heap.size, 0, none⟩ = some (.bool n) := hBX.cell 0
  have d1 : Y.cell? ⟨w.heap.size, 1, none⟩ = some (.slice a xs.length ca) := hBX.cell 1
  have d2 : Y.cell? ⟨w.heap.size, 2, none⟩ = some (.slice b ys.length cb) := hBX.cell 2
  have HBQ := hid (And.intro hBX hQ)
  clear HE s1 s2 s3 s4 b2 b3 hBX hP hQ HSX HSY HB1 t1 t2
  go_wp2_with fail
  clear hY
  refine Calls.mono HC1.out ?_
  rintro e w3 ⟨rfl, b4⟩
  have hx3 := HBQ.out.1.later b4 HBQ.out.1.lt
  have hq3 := HBQ.out.2.later b4 HBQ.out.2.lt
  have HC3 := hid (HC2.out w3 b4)
  have HB4 := hid (bt HBB.out b4)
  have d0' : w3.cell? ⟨w.heap.size, 0, none⟩ = some (.bool n) := hx3.cell 0
  have d1' : w3.cell? ⟨w.heap.size, 1, none⟩ = some (.slice a xs.length ca) := hx3.cell 1
  have d2' : w3.cell? ⟨w.heap.size, 2, none⟩ = some (.slice b ys.length cb) := hx3.cell 2
  have q0' : w3.cell? ⟨w2.heap.size + 1, 0, none⟩ = some (.bool k2) := hq3.cell 0
  have q1' : w3.cell? ⟨w2.heap.size + 1, 1, none⟩ = some (.slice a3 xs2.length c3) := hq3.cell 1
  have q2' : w3.cell? ⟨w2.heap.size + 1, 2, none⟩ = some (.slice a4 ys2.length c4) := hq3.cell 2
  clear HC1 HC2 b4 p0 p1 p2 d0 d1 d2 hx3 hq3
  by_cases h1 : r1 = 0
  · have h1' : (r1 == 0) = true := by simp [h1]
    go_wp2_with fail
    refine Calls.mono HC3.out ?_
    rintro e w5 ⟨rfl, b5⟩
    have HB5 := hid (bt HB4.out b5)
    clear HC3 b5 d0' d1' d2' q0' q1' q2'
    by_cases h2 : r2 = 0
    · have h2' : (r2 == 0) = true := by simp [h2]
      by_cases h3 : v1 ≤ 0
      · have h3' : decide (v1 ≤ 0) = true := decide_eq_true h3
        go_wp2_with fail
        go_returns
        refine ⟨decide (v2 ≤ 0), 0, rfl, ⟨k1, xs1, ys1, e1, k2, xs2, ys2, e2, HTT.out.1, HTT.out.2, .inr (.inr ⟨hr1.trans h1, hr2.trans h2, rfl, ?_⟩)⟩, HB5.out⟩
        rw [hv1, hv2, h3', Bool.true_and]
      · have h3' : decide (v1 ≤ 0) = false := decide_eq_false h3
        go_wp2_with fail
        go_returns
        refine ⟨false, 0, rfl, ⟨k1, xs1, ys1, e1, k2, xs2, ys2, e2, HTT.out.1, HTT.out.2, .inr (.inr ⟨hr1.trans h1, hr2.trans h2, rfl, ?_⟩)⟩, HB5.out⟩
        rw [hv1, h3', Bool.false_and]
    · have h2' : (r2 == 0) = false := by simp [h2]
      go_wp2_with fail
      go_returns
      exact ⟨false, r2, rfl, ⟨k1, xs1, ys1, e1, k2, xs2, ys2, e2, HTT.out.1, HTT.out.2, .inr (.inl ⟨hr1.trans h1, fun h => h2 (hr2.symm.trans h), rfl, hr2.symm⟩)⟩, HB5.out⟩
  · have h1' : (r1 == 0) = false := by simp [h1]
    go_wp2_with fail
    go_returns
    exact ⟨false, r1, rfl, ⟨k1, xs1, ys1, e1, k2, xs2, ys2, e2, HTT.out.1, HTT.out.2, .inl ⟨fun h => h1 (hr1.symm.trans h), rfl, hr1.symm⟩⟩, HB4.out⟩

end Go.Proofs.YtfppimlmebnaeaaGreatDoor

/- What calls of chapter 6's examples tell: Next, Gap, TwoSum, Sum, Exact of what is no number, Within at a third and at a half. -/
namespace Go.Proofs.YtfppimlmebnaeaaGreatDoor
open Go.RowKit
set_option linter.unusedVariables false

theorem next_top (w : World) : Calls Tryz.prog 16 #[.float .f64 9218868437227405311] w fun e w' => e = .returned (.tuple #[.float .f64 0, .int .i64 9]) ∧ Below w.heap.size w w' := by
  have h := next_any 9218868437227405311 w (by decide)
  rw [show nxt 9218868437227405311 = (0, 9) by decide] at h
  exact h
theorem next_nought (w : World) : Calls Tryz.prog 16 #[.float .f64 0] w fun e w' => e = .returned (.tuple #[.float .f64 1, .int .i64 0]) ∧ Below w.heap.size w w' := by
  have h := next_any 0 w (by decide)
  rw [show nxt 0 = (1, 0) by decide] at h
  exact h
theorem next_least (w : World) : Calls Tryz.prog 16 #[.float .f64 9223372036854775809] w fun e w' => e = .returned (.tuple #[.float .f64 0, .int .i64 0]) ∧ Below w.heap.size w w' := by
  have h := next_any 9223372036854775809 w (by decide)
  rw [show nxt 9223372036854775809 = (0, 0) by decide] at h
  exact h
theorem next_minus (w : World) : Calls Tryz.prog 16 #[.float .f64 13830554455654793216] w fun e w' => e = .returned (.tuple #[.float .f64 13830554455654793215, .int .i64 0]) ∧ Below w.heap.size w w' := by
  have h := next_any 13830554455654793216 w (by decide)
  rw [show nxt 13830554455654793216 = (13830554455654793215, 0) by decide] at h
  exact h
theorem twosum_over (w : World) : Calls Tryz.prog 17 #[.float .f64 9214364837600034816, .float .f64 9214364837600034816] w fun e w' => e = .returned (.tuple #[.float .f64 0, .float .f64 0, .int .i64 9]) ∧ Below w.heap.size w w' := by
  have h := TwoSum_any 9214364837600034816 9214364837600034816 w (by decide) (by decide)
  rw [show tsum 9214364837600034816 9214364837600034816 = (0, 0, 9) by decide +kernel] at h
  exact h
theorem rexact_nan (w : World) : Calls Tryz.prog 4 #[.float .f64 9221120237041090561] w fun e w' => e = .returned (.tuple #[.agg #[.bool false, .slice none 0 0, .slice none 0 0], .int .i64 8]) ∧ Below w.heap.size w w' := exact_bad 9221120237041090561 w (by decide) (by decide)
theorem rexact_minf (w : World) : Calls Tryz.prog 4 #[.float .f64 18442240474082181120] w fun e w' => e = .returned (.tuple #[.agg #[.bool false, .slice none 0 0, .slice none 0 0], .int .i64 8]) ∧ Below w.heap.size w w' := exact_bad 18442240474082181120 w (by decide) (by decide)
theorem fq_half : fq 4602678819172646912 = Rat.divInt 1 2 := by decide +kernel
theorem fq_quarter : fq 4598175219545276416 = Rat.divInt 1 4 := by decide +kernel
theorem fq_eighth : fq 4593671619917905920 = Rat.divInt 1 8 := by decide +kernel
theorem fq_minus : fq 13830554455654793216 = Rat.divInt (-1) 1 := by decide +kernel
/-- Within, where both ends are known. -/
theorem within_kn {x y : Nat} {n : Bool} {xs ys : List Int} {B : Bool} {c : Int} (h : WiT x y n xs ys B c) (hr : rchk n xs ys = 0) {k1 : Bool} {us1 vs1 : List Int} {k2 : Bool} {us2 vs2 : List Int} (w1 : Wd us1) (w2 : Wd vs1) (w3 : Wd us2) (w4 : Wd vs2) (c1 : rchk k1 us1 vs1 = 0) (c2 : rchk k2 us2 vs2 = 0) (q1 : rq k1 us1 vs1 = fq x - fq y) (q2 : rq k2 us2 vs2 = fq x + fq y) : c = 0 ∧ B = (decide (rcmp k1 us1 vs1 n xs ys ≤ 0) && decide (rcmp n xs ys k2 us2 vs2 ≤ 0)) := by
  obtain ⟨m1, xs1, ys1, e1, m2, xs2, ys2, e2, t1, t2, h⟩ := h
  obtain ⟨rfl, rfl, rfl, rfl⟩ := told_same w1 w2 c1 q1 t1
  obtain ⟨rfl, rfl, rfl, rfl⟩ := told_same w3 w4 c2 q2 t2
  rcases h with ⟨h, _⟩ | ⟨_, h, _⟩ | ⟨_, _, hc, hB⟩
  · exact absurd (rboth_good c1 hr) h
  · exact absurd (rboth_good hr c2) h
  · exact ⟨hc, hB⟩
theorem rwd1 (x : Int) (h0 : 0 ≤ x) (h1 : x ≤ 4294967295) : Wd [x] := Wd.one ⟨h0, h1⟩
theorem within_in {B : Bool} {c : Int} (h : WiT 4602678819172646912 4598175219545276416 false [1] [3] B c) : B = true := by
  have e := (within_kn h (by decide) (k1 := false) (us1 := [1]) (vs1 := [4]) (k2 := false) (us2 := [3]) (vs2 := [4]) (rwd1 1 (by decide) (by decide)) (rwd1 4 (by decide) (by decide)) (rwd1 3 (by decide) (by decide)) (rwd1 4 (by decide) (by decide)) (by decide) (by decide) (by rw [fq_half, fq_quarter]; decide +kernel) (by rw [fq_half, fq_quarter]; decide +kernel)).2
  rw [e]; decide +kernel
theorem within_out {B : Bool} {c : Int} (h : WiT 4602678819172646912 4593671619917905920 false [1] [3] B c) : B = false := by
  have e := (within_kn h (by decide) (k1 := false) (us1 := [3]) (vs1 := [8]) (k2 := false) (us2 := [5]) (vs2 := [8]) (rwd1 3 (by decide) (by decide)) (rwd1 8 (by decide) (by decide)) (rwd1 5 (by decide) (by decide)) (rwd1 8 (by decide) (by decide)) (by decide) (by decide) (by rw [fq_half, fq_eighth]; decide +kernel) (by rw [fq_half, fq_eighth]; decide +kernel)).2
  rw [e]; decide +kernel
theorem within_never {B : Bool} {c : Int} (h : WiT 4602678819172646912 13830554455654793216 false [1] [2] B c) : B = false := by
  have e := (within_kn h (by decide) (k1 := false) (us1 := [3]) (vs1 := [2]) (k2 := true) (us2 := [1]) (vs2 := [2]) (rwd1 3 (by decide) (by decide)) (rwd1 2 (by decide) (by decide)) (rwd1 1 (by decide) (by decide)) (rwd1 2 (by decide) (by decide)) (by decide) (by decide) (by rw [fq_half, fq_minus]; decide +kernel) (by rw [fq_half, fq_minus]; decide +kernel)).2
  rw [e]; decide +kernel

end Go.Proofs.YtfppimlmebnaeaaGreatDoor

/- math.Ldexp of 1; real.Gap. -/
namespace Go.Proofs.YtfppimlmebnaeaaGreatDoor
open Go.RowKit
set_option linter.unusedVariables false

theorem mul_small : ∀ k : _root_.Fin 52, floatBits .mul .f64 4368491638549381120 ((k.val + 2) * 4503599627370496) = some (2 ^ k.val) := by decide +kernel
theorem mul_some {x y : Nat} (hx : fin x = true) (hy : fin y = true) : ∃ r, floatBits .mul .f64 x y = .some r := by
  obtain ⟨s, m, e, h1⟩ := read_fin hx
  obtain ⟨t, n, j, h2⟩ := read_fin hy
  exact ⟨_, show (((Ieee.double.read x).product (Ieee.double.read y)).map Ieee.double.write) = _ by rw [h1, h2]; rfl⟩
theorem one_sv (E : Nat) (hE : E = 1074) : sv 4607182418800017408 = ((2 ^ E : Nat) : Int) := by
  subst hE; decide +kernel
theorem mul_one_fl {y : Nat} (hy : y < 9218868437227405312) (h0 : 0 < y) : floatBits .mul .f64 4607182418800017408 y = some y := by
  have f1 : Fi 4607182418800017408 := ⟨by decide, by decide⟩
  have fy : Fi y := ⟨by omega, by omega⟩
  obtain ⟨r, hr⟩ := mul_some (x := 4607182418800017408) (y := y) (by decide) ((fi_fin fy.1).2 fy)
  rw [hr]
  obtain ⟨E, hE⟩ : ∃ E, E = 1074 := ⟨_, rfl⟩
  obtain ⟨neg, s, e1, n1, n2, hm⟩ := mul_rn E hE f1 fy (FN.some hr)
  have hl : sv y = (rungVal y : Int) := sv_low (by omega)
  have hp : 0 < rungVal y := by
    rcases Nat.eq_zero_or_pos (rungVal y) with g | g
    · exact absurd (rungVal_zero.1 g) (by omega)
    · exact g
  rw [one_sv E hE, hl, ← Int.natCast_mul] at n1 n2 hm
  have hD := Nat.two_pow_pos E
  have hpos : 0 < 2 ^ E * rungVal y := Nat.mul_pos hD hp
  have hneg : neg = false := n2 (by omega)
  have hab : ((2 ^ E * rungVal y : Nat) : Int).natAbs = rungVal y * 2 ^ E := by rw [Int.natAbs_natCast, Nat.mul_comm]
  rw [hab] at hm
  have hs := hm.unique hD (mid_exact hD hy)
  rw [e1, hneg, hs]
  congr 1

/-- The float that is 2 to the power e, e from -1074 to 1023. -/
def pow2 (e : Int) : Nat := if e < -1022 then 2 ^ (e + 1074).toNat else (e + 1023).toNat * 4503599627370496
theorem pow2_sv {e : Int} (h1 : -1074 ≤ e) (h2 : e ≤ 1000) : Fi (pow2 e) ∧ sv (pow2 e) = ((2 ^ (e + 1074).toNat : Nat) : Int) := by
  unfold pow2
  by_cases h : e < -1022
  · rw [if_pos h]
    have hk : (e + 1074).toNat < 52 := by omega
    generalize (e + 1074).toNat = k at *
    have hb : 2 ^ k < 2 ^ 52 := Nat.pow_lt_pow_right (by decide) hk
    have e52 : (2 : Nat) ^ 52 = 4503599627370496 := by decide
    rw [e52] at hb
    have hr := rungVal_count (E := 0) (K := 2 ^ k) (by omega) (fun g => by omega)
    rw [Nat.zero_mul, Nat.zero_add, Nat.pow_zero, Nat.mul_one] at hr
    rw [sv_low (by omega), hr]
    exact ⟨⟨by omega, by omega⟩, rfl⟩
  · rw [if_neg h]
    obtain ⟨j, hj⟩ : ∃ j : Nat, (e + 1023).toNat = j + 1 := ⟨(e + 1022).toNat, by omega⟩
    have hj2 : (e + 1074).toNat = 52 + j := by omega
    have hjl : j ≤ 2022 := by omega
    rw [hj, hj2]
    have hr := rungVal_count (E := j) (K := 4503599627370496) (by omega) (fun g => by omega)
    have e52 : (4503599627370496 : Nat) = 2 ^ 52 := by decide
    rw [show j * 4503599627370496 + 4503599627370496 = (j + 1) * 4503599627370496 by omega] at hr
    have hp : 4503599627370496 * 2 ^ j = 2 ^ (52 + j) := by rw [Nat.pow_add, ← e52]
    rw [hp] at hr
    rw [sv_low (by omega), hr]
    exact ⟨⟨by omega, by omega⟩, rfl⟩

set_option maxHeartbeats 800000 in
set_option maxRecDepth 100000 in
theorem normalize_one (w : World) :
    Calls Tryz.prog 70 #[.float .f64 4607182418800017408] w fun e w' => e = .returned (.tuple #[.float .f64 4607182418800017408, .int .i64 0]) ∧ w' = w := by
  have HA := hid (mAbs_any 4607182418800017408 w (by decide))
  rw [show 4607182418800017408 % 9223372036854775808 = 4607182418800017408 from rfl] at HA
  have q : (FloatKind.f64.format.order 4607182418800017408 4503599627370496 == some .lt) = false := by decide +kernel
  go_enter Tryz.func70, Tryz.ntmps70
  go_wp2_with fail
  refine Calls.mono HA.out ?_
  rintro e w1 ⟨rfl, rfl⟩
  go_wp2_with fail
  go_returns
  exact ⟨rfl, rfl⟩

theorem or_none (N : Nat) (h : N < 18446744073709551616) : bits .or .u64 0 (N : Int) = (N : Int) := by
  have h := u64_or_nat 0 N (by omega) h
  rw [Nat.zero_or] at h
  exact h
set_option maxHeartbeats 1600000 in
set_option maxRecDepth 100000 in
theorem ldexp_low (e f g : Int) (N R : Nat) (w : World) (h1 : -1074 ≤ e) (h2 : e ≤ 1000) (hd : e < -1022) (he1 : e + 53 = f) (he2 : f + 1023 = g) (he3 : g * 4503599627370496 = (N : Int)) (g0 : 0 ≤ g) (g1 : g ≤ 2046) (hN : N < 18446744073709551616) (hmul : floatBits .mul .f64 4368491638549381120 N = some R)
    (HI : Hid (Calls Tryz.prog 68 #[.float .f64 4607182418800017408, .int .i64 0] w fun x w' => x = .returned (.bool false) ∧ w' = w)) (HN : Hid (Calls Tryz.prog 69 #[.float .f64 4607182418800017408] w fun x w' => x = .returned (.bool false) ∧ w' = w)) (HB : ∀ V, (callFunc 25 #[.float .f64 4607182418800017408]).run Tryz.prog V = .ok (.value (.int .u64 4607182418800017408)) V) (ha : bits .and .i64 1023 2047 = 1023) (hn : bits .andNot .u64 4607182418800017408 9218868437227405312 = 0) (q0 : (FloatKind.f64.format.order 4607182418800017408 0 == some .eq) = false) :
    Calls Tryz.prog 54 #[.float .f64 4607182418800017408, .int .i64 e] w fun x w' => x = .returned (.float .f64 R) ∧ w' = w := by
  have HZ := hid (normalize_one w)
  have hmr : ∀ P t V, (binOp .mul t (.float .f64 4368491638549381120) (.float .f64 N)).run P V = .ok (.float .f64 R) V := fun P t V => by
    rw [fmul_run]; unfold fval fwld; rw [hmul]
  have HR := fun V => from_run N V
  have hor := or_none N hN
  clear hmul hN
  go_enter Tryz.func54, Tryz.ntmps54
  go_wp2_with fail
  refine Calls.mono HI.out ?_
  rintro e w1 ⟨rfl, rfl⟩
  go_wp2_with fail
  refine Calls.mono HN.out ?_
  rintro e w1 ⟨rfl, rfl⟩
  go_wp2_with fail
  refine Calls.mono HZ.out ?_
  rintro e w1 ⟨rfl, rfl⟩
  go_wp2_with fail
  go_ret
  exact ⟨rfl, rfl⟩

set_option maxHeartbeats 1600000 in
set_option maxRecDepth 100000 in
theorem ldexp_high (e  g : Int) (N R : Nat) (w : World) (h1 : -1074 ≤ e) (h2 : e ≤ 1000) (hd : ¬ e < -1022) (he2 : e + 1023 = g) (he3 : g * 4503599627370496 = (N : Int)) (g0 : 0 ≤ g) (g1 : g ≤ 2046) (hN : N < 18446744073709551616) (hmul : floatBits .mul .f64 4607182418800017408 N = some R)
    (HI : Hid (Calls Tryz.prog 68 #[.float .f64 4607182418800017408, .int .i64 0] w fun x w' => x = .returned (.bool false) ∧ w' = w)) (HN : Hid (Calls Tryz.prog 69 #[.float .f64 4607182418800017408] w fun x w' => x = .returned (.bool false) ∧ w' = w)) (HB : ∀ V, (callFunc 25 #[.float .f64 4607182418800017408]).run Tryz.prog V = .ok (.value (.int .u64 4607182418800017408)) V) (ha : bits .and .i64 1023 2047 = 1023) (hn : bits .andNot .u64 4607182418800017408 9218868437227405312 = 0) (q0 : (FloatKind.f64.format.order 4607182418800017408 0 == some .eq) = false) :
    Calls Tryz.prog 54 #[.float .f64 4607182418800017408, .int .i64 e] w fun x w' => x = .returned (.float .f64 R) ∧ w' = w := by
  have HZ := hid (normalize_one w)
  have hmr : ∀ P t V, (binOp .mul t (.float .f64 4607182418800017408) (.float .f64 N)).run P V = .ok (.float .f64 R) V := fun P t V => by
    rw [fmul_run]; unfold fval fwld; rw [hmul]
  have HR := fun V => from_run N V
  have hor := or_none N hN
  clear hmul hN
  go_enter Tryz.func54, Tryz.ntmps54
  go_wp2_with fail
  refine Calls.mono HI.out ?_
  rintro e w1 ⟨rfl, rfl⟩
  go_wp2_with fail
  refine Calls.mono HN.out ?_
  rintro e w1 ⟨rfl, rfl⟩
  go_wp2_with fail
  refine Calls.mono HZ.out ?_
  rintro e w1 ⟨rfl, rfl⟩
  go_wp2_with fail
  go_ret
  exact ⟨rfl, rfl⟩

theorem one_inf : isinf (4607182418800017408 % 9223372036854775808) = false := by decide
theorem one_nan : isnan 4607182418800017408 = false := by decide
theorem ldexp_one (e : Int) (w : World) (h1 : -1074 ≤ e) (h2 : e ≤ 1000) :
    Calls Tryz.prog 54 #[.float .f64 4607182418800017408, .int .i64 e] w fun x w' => x = .returned (.float .f64 (pow2 e)) ∧ w' = w := by
  have HI := mIsInf0_any 4607182418800017408 w (by decide)
  rw [one_inf] at HI
  have HN := mIsNaN_any 4607182418800017408 w
  rw [one_nan] at HN
  have q0 : (FloatKind.f64.format.order 4607182418800017408 0 == some .eq) = false := by decide +kernel
  have HB : ∀ V, (callFunc 25 #[.float .f64 4607182418800017408]).run Tryz.prog V = .ok (.value (.int .u64 4607182418800017408)) V := fun V => bits_run 4607182418800017408 V
  have ha : bits .and .i64 1023 2047 = 1023 := by decide
  have hn : bits .andNot .u64 4607182418800017408 9218868437227405312 = 0 := by decide
  by_cases hd : e < -1022
  · obtain ⟨k, hk⟩ : ∃ k : Nat, (e + 1074).toNat = k := ⟨_, rfl⟩
    have hk52 : k < 52 := by omega
    have hpw : pow2 e = 2 ^ k := by unfold pow2; rw [if_pos hd, hk]
    have hmul := mul_small ⟨k, hk52⟩
    rw [hpw]
    exact ldexp_low e (e + 53) (e + 53 + 1023) ((k + 2) * 4503599627370496) (2 ^ k) w h1 h2 hd rfl rfl (by omega) (by omega) (by omega) (by omega) hmul (hid HI) (hid HN) HB ha hn q0
  · have hpw : pow2 e = (e + 1023).toNat * 4503599627370496 := by unfold pow2; rw [if_neg hd]
    rw [hpw]
    exact ldexp_high e (e + 1023) ((e + 1023).toNat * 4503599627370496) _ w h1 h2 hd rfl (by omega) (by omega) (by omega) (by omega) (mul_one_fl (by omega) (by omega)) (hid HI) (hid HN) HB ha hn q0

set_option maxHeartbeats 800000 in
set_option maxRecDepth 100000 in
theorem Ldexp_one (e : Int) (w : World) (h1 : -1074 ≤ e) (h2 : e ≤ 1000) :
    Calls Tryz.prog 32 #[.float .f64 4607182418800017408, .int .i64 e] w fun x w' => x = .returned (.float .f64 (pow2 e)) ∧ w' = w := by
  have H := hid (ldexp_one e w h1 h2)
  clear h1 h2
  generalize pow2 e = R at *
  go_enter Tryz.func32, Tryz.ntmps32
  go_wp2_with fail
  refine Calls.mono H.out ?_
  rintro e w1 ⟨rfl, rfl⟩
  go_wp2_with fail
  go_ret
  exact ⟨rfl, rfl⟩

theorem field_two (s : Bool) (m u : Int) (V : World) : (Instr.field 53 (.agg #[.bool s, .int .u64 m, .int .i64 u]) 2).run Tryz.prog V = .ok (.int .i64 u) V := by kernel_rfl
set_option maxHeartbeats 800000 in
set_option maxRecDepth 100000 in
theorem gap_any (x : Nat) (w : World) (hx : Fi x) :
    Calls Tryz.prog 13 #[.float .f64 x] w fun e w' => ∃ G, e = .returned (.tuple #[.float .f64 G, .int .i64 0]) ∧ Fi G ∧ sv G = ((2 ^ (funit x + 1074).toNat : Nat) : Int) ∧ Below w.heap.size w w' := by
  have hu := funit_le x
  have hu2 : funit x ≤ 1000 := by omega
  have HF := hid (finite_any x w hx.1)
  rw [(fi_fin hx.1).2 hx] at HF
  have HT := hid (takeApart_any x w hx.1)
  have HL := hid (fun V => Ldexp_one (funit x) V hu.1 hu2)
  have HP := hid (pow2_sv hu.1 hu2)
  generalize pow2 (funit x) = G at *
  clear hx hu2
  go_enter Tryz.func13, Tryz.ntmps13
  go_wp2_with fail
  refine Calls.mono HF.out ?_
  rintro e w1 ⟨rfl, rfl⟩
  go_wp2_with fail
  refine Calls.mono HT.out ?_
  rintro e w2 ⟨rfl, b2⟩
  have HB2 := hid b2
  have HL2 := hid (HL.out w2)
  have hfl : ∀ V, (Instr.field 53 (.agg #[.bool (x / 9223372036854775808 == 1), .int .u64 (fcount x : Int), .int .i64 (funit x)]) 2).run Tryz.prog V = .ok (.int .i64 (funit x)) V := fun V => field_two _ _ _ V
  clear HT HL b2 HF
  go_wp2_with fail
  refine Calls.mono HL2.out ?_
  rintro e w3 ⟨rfl, rfl⟩
  go_wp2_with fail
  go_returns
  exact ⟨G, rfl, HP.out.1, HP.out.2, HB2.out⟩

end Go.Proofs.YtfppimlmebnaeaaGreatDoor

/- The laws' exact, nearer, away: a float's fraction, sizes held against each other, how far a float is from a fraction. -/
namespace Go.Proofs.YtfppimlmebnaeaaGreatDoor
open Go.RowKit
set_option linter.unusedVariables false

set_option maxHeartbeats 1600000 in
set_option maxRecDepth 100000 in
theorem exact6_fin (x : Nat) (w : World) (hx : Fi x) (hT : TabB w) :
    Calls Tryz.prog 12 #[.float .f64 x] w fun e w' => ∃ n a ca b cb xs ys, e = .returned (.agg #[.bool n, .slice a (List.length xs) ca, .slice b (List.length ys) cb]) ∧ w'.ownsRow w.heap.size 62 1 (.slice a xs.length ca) xs.length (xs.map (Value.int .u32)) ∧ w'.ownsRow w.heap.size 62 1 (.slice b ys.length cb) ys.length (ys.map (Value.int .u32)) ∧ Wd xs ∧ Wd ys ∧ ExT x n xs ys ∧ Below w.heap.size w w' := by
  obtain ⟨X, hX⟩ : ∃ X, w.alloc (.cells #[.bool false, .slice none 0 0, .slice none 0 0] 24) = X := ⟨_, rfl⟩
  have b1 : Below w.heap.size w X := by rw [← hX]; exact alloc_later _ _
  have HBX : Hid (Box X w.heap.size 24 #[.bool false, .slice none 0 0, .slice none 0 0]) := by rw [← hX]; exact Box.made w _ _
  have HE := hid (exact_fin x X hx (hT.later b1))
  have HB1 := hid b1
  clear b1 hT hx
  go_enter Tryz.func12, Tryz.ntmps12
  go_wp2_with fail
  clear hX
  refine Calls.mono HE.out ?_
  rintro e w2 ⟨n, a, ca, b, cb, xs, ys, rfl, o1, o2, wx, wy, he, b2⟩
  obtain ⟨Y, hY⟩ : ∃ Y, w2.alloc (.cells #[.bool n, .slice a xs.length ca, .slice b ys.length cb] 24) = Y := ⟨_, rfl⟩
  have b3 : Below w2.heap.size w2 Y := by rw [← hY]; exact alloc_later _ _
  have hBY : Box Y w2.heap.size 24 #[.bool n, .slice a xs.length ca, .slice b ys.length cb] := by rw [← hY]; exact Box.made w2 _ _
  have hBX := HBX.out.later (bt b2 b3) HBX.out.lt
  have HF := hid (And.intro (put3_row (owns_later o1 b3) hBX (by decide) (.bool n) (.slice a xs.length ca) (.slice b ys.length cb)) (And.intro (put3_row (owns_later o2 b3) hBX (by decide) (.bool n) (.slice a xs.length ca) (.slice b ys.length cb)) (And.intro (put3_box hBX (.bool n) (.slice a xs.length ca) (.slice b ys.length cb)) (below_put3 (bt HB1.out (bt b2 b3)) w.heap.size (Nat.le_refl _) (.bool n) (.slice a xs.length ca) (.slice b ys.length cb)))))
  have HW := hid (And.intro wx (And.intro wy he))
  have c0 : Y.cell? ⟨w2.heap.size, 0, none⟩ = some (.bool n) := hBY.cell 0
  have c1 : Y.cell? ⟨w2.heap.size, 1, none⟩ = some (.slice a xs.length ca) := hBY.cell 1
  have c2 : Y.cell? ⟨w2.heap.size, 2, none⟩ = some (.slice b ys.length cb) := hBY.cell 2
  have d0 : Y.cell? ⟨w.heap.size, 0, none⟩ = some (.bool false) := hBX.cell 0
  have d1 : Y.cell? ⟨w.heap.size, 1, none⟩ = some (.slice none 0 0) := hBX.cell 1
  have d2 : Y.cell? ⟨w.heap.size, 2, none⟩ = some (.slice none 0 0) := hBX.cell 2
  have f0 := hBX.free 0
  have f1 := hBX.free 1
  have f2 := hBX.free 2
  have hsz : w.heap.size ≤ X.heap.size := HB1.out.size
  clear HE o1 o2 wx wy he b2 b3 hBX hBY HB1 HBX
  go_wp2_with fail
  refine bodyPost_ret (results_cell_row (by rfl) _ _ w.heap.size 24 _ (0, 0) _ (by rfl) HF.out.2.2.1 Tryz.underlying24 rfl (by kernel_rfl)) rfl ?_
  exact ⟨n, a, ca, b, cb, xs, ys, rfl, owns_base HF.out.1 hsz, owns_base HF.out.2.1 hsz, HW.out.1, HW.out.2.1, HW.out.2.2, HF.out.2.2.2⟩

end Go.Proofs.YtfppimlmebnaeaaGreatDoor

/- The laws' awake: what the document's examples say. -/
namespace Go.Proofs.YtfppimlmebnaeaaGreatDoor
open Go.RowKit
set_option linter.unusedVariables false

theorem wd1 (k : Int) (h : 0 ≤ k ∧ k ≤ 4294967295) : Wd [k] := Wd.one h
theorem third_chk : rchk false [1] [3] = 0 := by decide
theorem half_chk : rchk false [1] [2] = 0 := by decide
theorem third_q : rq false [1] [3] = Rat.divInt 1 3 := by
  show Rat.divInt (wval false [1]) (val [3]) = _
  rw [show wval false [1] = 1 by decide, show val [3] = 3 by decide]
theorem half_q : rq false [1] [2] = Rat.divInt 1 2 := by
  show Rat.divInt (wval false [1]) (val [2]) = _
  rw [show wval false [1] = 1 by decide, show val [2] = 2 by decide]
theorem half_fq : fq 4602678819172646912 = Rat.divInt 1 2 := by
  have h : RTells 0 (fq 4602678819172646912) false [1] [2] 0 := frac_good (by decide) (wd1 1 (by omega)) (show sz _ = _ by decide) (wd1 2 (by omega)) (show sz _ = _ by decide) (by decide +kernel) (by decide +kernel)
  rw [← half_q, ← (rtells_ok h).2]
theorem third_known {n : Bool} {xs ys : List Int} {c : Int} (h : RTells 0 (Rat.divInt 1 3) n xs ys c) : n = false ∧ xs = [1] ∧ ys = [3] := by
  obtain ⟨a, b, d, _⟩ := told_same (wd1 1 (by omega)) (wd1 3 (by omega)) third_chk third_q h
  exact ⟨a, b, d⟩
theorem half_known {n : Bool} {xs ys : List Int} {c : Int} (h : RTells 0 (Rat.divInt 1 2) n xs ys c) : n = false ∧ xs = [1] ∧ ys = [2] := by
  obtain ⟨a, b, d, _⟩ := told_same (wd1 1 (by omega)) (wd1 2 (by omega)) half_chk half_q h
  exact ⟨a, b, d⟩
theorem third_mid : Mid (1 * 2 ^ zP) 3 4599676419421066581 := ⟨by decide, fun _ => by decide +kernel, fun _ => by decide +kernel, fun _ => by decide +kernel, fun _ => by decide +kernel⟩
theorem third_near {x : Nat} {c : Int} (h : NrT false [1] [3] x c) : x = 4599676419421066581 ∧ c = 0 := by
  rcases h with ⟨h0, _⟩ | ⟨_, X, Y, s, hX, hY, hp, hm, h⟩
  · exact absurd third_chk h0
  · have eX : X = 1 := by have : val [1] = 1 := by decide
                          omega
    have eY : Y = 3 := by have : val [3] = 3 := by decide
                          omega
    subst eX; subst eY
    have := hm.unique hp third_mid
    subst this
    rcases h with ⟨h, _⟩ | ⟨_, hc, hx⟩
    · exact absurd h (by decide)
    · exact ⟨by rw [hx]; rfl, hc⟩
theorem one_next : nxt 4607182418800017408 = (4607182418800017409, 0) := by decide +kernel
theorem one_two : tsum 4607182418800017408 4336966441157787648 = (4607182418800017408, 4336966441157787648, 0) := by decide +kernel

set_option maxHeartbeats 1600000 in
set_option maxRecDepth 100000 in
theorem awake6_any (w : World) (hT : TabB w) :
    Calls Tryz.prog 20 #[] w fun e w' => e = .returned (.bool true) ∧ Below w.heap.size w w' := by
  have HE := hid (exact_fin 4602678819172646912 w ⟨by decide, by decide⟩ hT)
  clear hT
  go_enter Tryz.func20, Tryz.ntmps20
  go_wp2_with fail
  refine Calls.mono HE.out ?_
  rintro e w1 ⟨n, a, ca, b, cb, xs, ys, rfl, o1, o2, wx, wy, he, b1⟩
  obtain ⟨rfl, rfl, rfl⟩ := ext_same wx wy (wd1 1 (by omega)) (wd1 2 (by omega)) he ⟨half_chk, by decide +kernel, by rw [half_fq]; exact half_q⟩
  have l1 : ([1] : List Int).length = 1 := rfl
  have l2 : ([2] : List Int).length = 1 := rfl
  rw [l1] at o1 ⊢
  rw [l2] at o2 ⊢
  obtain ⟨X, hX⟩ : ∃ X, w1.alloc (.cells #[.bool false, .slice a 1 ca, .slice b 1 cb] 24) = X := ⟨_, rfl⟩
  have b2 : Below w1.heap.size w1 X := by rw [← hX]; exact alloc_later _ _
  have HBX : Hid (Box X w1.heap.size 24 #[.bool false, .slice a 1 ca, .slice b 1 cb]) := by rw [← hX]; exact Box.made w1 _ _
  have HS := hid (small6_any 1 3 X (by omega) (by omega) (by omega) (by omega))
  rw [if_neg (by decide)] at HS
  have HR := hid (And.intro (owns_later o1 b2) (owns_later o2 b2))
  have HB := hid (bt b1 b2)
  clear HE o1 o2 wx wy he b1 b2
  go_wp2_with fail
  clear hX
  refine Calls.mono HS.out ?_
  rintro e w2 ⟨n3, v3, xs3, u3, ys3, c3, rfl, p1, p2, t3, b3⟩
  obtain ⟨rfl, rfl, rfl⟩ := third_known t3
  have HN := hid (nearest_any false v3 [1] u3 [3] w2 (Sl.own p1 (wd1 1 (by omega))) (Sl.own p2 (wd1 3 (by omega))))
  have HB3 := hid b3
  clear HS p1 p2 t3 b3
  go_wp2_with fail
  refine Calls.mono HN.out ?_
  rintro e w3 ⟨x, code, rfl, hnt, b4⟩
  obtain ⟨rfl, rfl⟩ := third_near hnt
  have HX := hid (next_any 4607182418800017408 w3 (by decide))
  rw [one_next] at HX
  have HB4 := hid (bt HB3.out b4)
  clear HN hnt b4 HB3
  go_wp2_with fail
  refine Calls.mono HX.out ?_
  rintro e w4 ⟨rfl, b5⟩
  have HW := hid (TwoSum_any 4607182418800017408 4336966441157787648 w4 (by decide) (by decide))
  rw [one_two, show tsumV (4607182418800017408, 4336966441157787648, 0) = .tuple #[.float .f64 4607182418800017408, .float .f64 4336966441157787648, .int .i64 0] from rfl] at HW
  have HB5 := hid (bt HB4.out b5)
  clear HX b5 HB4
  go_wp2_with fail
  refine Calls.mono HW.out ?_
  rintro e w5 ⟨rfl, b6⟩
  have HB6 := hid (bt HB5.out b6)
  have HX5 := hid (HBX.out.later HB6.out HBX.out.lt)
  have HR5 := hid (And.intro (owns_later HR.out.1 HB6.out) (owns_later HR.out.2 HB6.out))
  have HBW := hid (bt HB.out HB6.out)
  have HK : Hid (∀ V, Below w5.heap.size w5 V → V.cell? ⟨w1.heap.size, 0, none⟩ = some (.bool false) ∧ V.cell? ⟨w1.heap.size, 1, none⟩ = some (.slice a 1 ca) ∧ V.cell? ⟨w1.heap.size, 2, none⟩ = some (.slice b 1 cb)) := fun V hv => by
    have h := HX5.out.later hv HX5.out.lt
    exact ⟨h.cell 0, h.cell 1, h.cell 2⟩
  have HD := hid (Below.drew (Below.refl w5.heap.size w5))
  have hs0 := HK.out _ HD.out
  have HS2 : Hid (∀ V, Below w5.heap.size w5 V → Calls Tryz.prog 9 #[.int .i64 1, .int .i64 2] V fun e w' => ∃ a' c' b' d', e = .returned (.agg #[.bool false, .slice a' 1 c', .slice b' 1 d']) ∧ (w'.cell? ⟨w1.heap.size, 0, none⟩ = some (.bool false) ∧ w'.cell? ⟨w1.heap.size, 1, none⟩ = some (.slice a 1 ca) ∧ w'.cell? ⟨w1.heap.size, 2, none⟩ = some (.slice b 1 cb)) ∧ Hid (Sl w' (.slice a' 1 c') [1] ∧ Sl w' (.slice b' 1 d') [2]) ∧ Hid (Below w5.heap.size w5 w')) := fun V hv => by
    have h := small6_any 1 2 V (by omega) (by omega) (by omega) (by omega)
    rw [if_neg (by decide)] at h
    refine Calls.mono h ?_
    rintro e w' ⟨n, v, xs, u, ys, c, rfl, q1, q2, t, hb⟩
    obtain ⟨rfl, rfl, rfl⟩ := half_known t
    obtain ⟨a', c', rfl⟩ := own_slice' q1
    obtain ⟨b', d', rfl⟩ := own_slice' q2
    exact ⟨a', c', b', d', rfl, HK.out w' (bt hv hb), ⟨Sl.own q1 (wd1 1 (by omega)), Sl.own q2 (wd1 2 (by omega))⟩, bt hv hb⟩
  have HSM : Hid (∀ V a' c' b' d', Below w5.heap.size w5 V → Sl V (.slice a' 1 c') [1] → Sl V (.slice b' 1 d') [2] → Calls Tryz.prog 11 #[.agg #[.bool false, .slice a 1 ca, .slice b 1 cb], .agg #[.bool false, .slice a' 1 c', .slice b' 1 d']] V fun e w' => e = .returned (.bool true) ∧ (w'.cell? ⟨w1.heap.size, 0, none⟩ = some (.bool false) ∧ w'.cell? ⟨w1.heap.size, 1, none⟩ = some (.slice a 1 ca) ∧ w'.cell? ⟨w1.heap.size, 2, none⟩ = some (.slice b 1 cb)) ∧ Hid (Below w5.heap.size w5 w')) := fun V a' c' b' d' hv s1 s2 => by
    have h := rSame_any false a ca [1] b cb [2] false a' c' [1] b' d' [2] V (Sl.own (owns_later HR5.out.1 hv) (wd1 1 (by omega))) (Sl.own (owns_later HR5.out.2 hv) (wd1 2 (by omega))) s1 s2 (by decide) (by decide) (by decide) (by decide)
    rw [decide_eq_true ⟨rfl, rfl, rfl⟩] at h
    refine Calls.mono h ?_
    rintro e w' ⟨rfl, hb⟩
    exact ⟨rfl, HK.out w' (bt hv hb), bt hv hb⟩
  have q1 : (FloatKind.f64.format.order 4607182418800017409 4607182418800017409 == some .eq) = true := by decide +kernel
  have q2 : (FloatKind.f64.format.order 4607182418800017408 4607182418800017408 == some .eq) = true := by decide +kernel
  have q3 : (FloatKind.f64.format.order 4336966441157787648 4336966441157787648 == some .eq) = true := by decide +kernel
  have HBT := fun V => bits_run 4599676419421066581 V
  have hc : ((4599676419421066581 : Nat) : Int) = 4599676419421066581 := rfl
  rw [hc] at HBT
  clear HW b6 HB5 HBX HR HB HX5 HR5 hc
  go_wp2_with fail
  go_region_held3 (fun V : World => V.cell? ⟨w1.heap.size, 0, none⟩ = some (.bool false) ∧ V.cell? ⟨w1.heap.size, 1, none⟩ = some (.slice a 1 ca) ∧ V.cell? ⟨w1.heap.size, 2, none⟩ = some (.slice b 1 cb)) (first | exact hsB | exact hsA | exact hs0)
    (first
      | (go_at_call 9; (with_reducible refine Calls.mono (HS2.out _ HD.out) ?_); rintro e w6 ⟨a', c', b', d', rfl, hsA, HSA, HBA⟩)
      | (go_at_call 11; (with_reducible refine Calls.mono (HSM.out _ a' c' b' d' HBA.out HSA.out.1 HSA.out.2) ?_); rintro e w7 ⟨rfl, hsB, HBB⟩))
  all_goals
    go_wp2_with fail
    go_ret
    exact ⟨rfl, bt HBW.out HBB.out⟩

end Go.Proofs.YtfppimlmebnaeaaGreatDoor

/- The document's TwoSum; slackwaterkit.SameFloat, SameBits of one float twice; lists of floats: CopyFloats, LentFloats, SameFloats, KeptFloats. -/
namespace Go.Proofs.YtfppimlmebnaeaaGreatDoor
open Go.RowKit
set_option linter.unusedVariables false

theorem fadd_ex (P : Program) (t : TypeId) (V : World) (x y : Nat) : ∃ r V', (binOp .add t (.float .f64 x) (.float .f64 y)).run P V = .ok (.float .f64 r) V' ∧ Hid (FR .add x y r ∧ Below V.heap.size V V') :=
  ⟨_, _, fadd_run P t V x y, fval_fr .add V x y, fwld_below .add x y (Below.refl _ _)⟩
theorem fsub_ex (P : Program) (t : TypeId) (V : World) (x y : Nat) : ∃ r V', (binOp .sub t (.float .f64 x) (.float .f64 y)).run P V = .ok (.float .f64 r) V' ∧ Hid (FR .sub x y r ∧ Below V.heap.size V V') :=
  ⟨_, _, fsub_run P t V x y, fval_fr .sub V x y, fwld_below .sub x y (Below.refl _ _)⟩
theorem b2 {a b c : World} (h : Below a.heap.size a b) (g : Below b.heap.size b c) : Below a.heap.size a c := h.trans (g.mono h.size)

theorem Tryz.infoF : (Tryz.prog.info? 28).map (fun i => (i.zero, i.size, i.bytes)) = some (some (.float .f64 0), 1, 8) := by kernel_rfl

/-- The slice reads as these floats. -/
def RdF (w : World) (B : Nat) (a : Option Addr) (n cap : Nat) (xs : List Nat) : Prop :=
  xs.length = n ∧ (n = 0 ∨ ∃ b o, a = some ⟨b, o, none⟩ ∧ b < B ∧ ∀ j, j < n → w.cell? ⟨b, o + j, none⟩ = some (.float .f64 (xs[j]?.getD 0))) ∧ n ≤ cap ∧ cap ≤ maxLen ∧ (a = none → cap = 0)

theorem RdF.later {w w' : World} {B B' : Nat} {a : Option Addr} {n cap : Nat} {zs : List Nat} (h : RdF w B a n cap zs) (hb : Below B w w') (hB : B ≤ B') : RdF w' B' a n cap zs := by
  obtain ⟨h1, h3, h4⟩ := h
  refine ⟨h1, h3.imp id ?_, h4⟩
  rintro ⟨b, o, rfl, hlt, hc⟩
  exact ⟨b, o, rfl, by omega, fun j hj => (hb.cell (p := ⟨b, o + j, none⟩) hlt).trans (hc j hj)⟩

theorem RdF.front {w : World} {B : Nat} {a : Option Addr} {n cap : Nat} {zs : List Nat} (h : RdF w B a n cap zs) (k : Nat) (hk : k ≤ n) : RdF w B a k cap (zs.take k) := by
  obtain ⟨h1, h3, h4, h5, h6⟩ := h
  refine ⟨by rw [List.length_take]; omega, ?_, by omega, h5, h6⟩
  rcases h3 with h3 | ⟨b, o, ha, hlt, hc⟩
  · left; omega
  · right
    refine ⟨b, o, ha, hlt, fun j hj => ?_⟩
    rw [hc j (by omega), List.getElem?_take, if_pos hj]

theorem RdF.own {w : World} {base e : Nat} {v : Value} {zs : List Nat} {n : Nat} (h : w.ownsRow base e 1 v n (zs.map (Value.float .f64))) :
    ∃ a cap, v = .slice a n cap ∧ RdF w w.heap.size a n cap zs := by
  have hl := h.1
  simp at hl
  rcases h.2 with ⟨rfl, rfl⟩ | ⟨g, cap, cur, rfl, hb, hg, hnc, hcm, hcs, ht⟩
  · exact ⟨none, 0, rfl, by omega, .inl rfl, Nat.le_refl _, Nat.zero_le _, fun _ => rfl⟩
  · refine ⟨_, cap, rfl, by omega, ?_, hnc, hcm, fun h => by simp at h⟩
    right
    refine ⟨g, 0, rfl, ?_, fun j hj => ?_⟩
    · have : w.heap[g]?.isSome := by rw [hg]; rfl
      simpa using this
    · have hc := h.cellAt j (by omega)
      rw [Nat.zero_add, hc, List.getElem?_map, List.getElem?_eq_getElem (by omega)]
      simp

theorem newsF {w : World} {B : Nat} {ad : Addr} {n cap : Nat} {zs : List Nat} (h : RdF w B (some ad) n cap zs) :
    ∀ j v, (zs.map (Value.float .f64))[j]? = some v → w.cell? (ad.add j) = some v := by
  intro j v hj
  have hj1 := (List.getElem?_eq_some_iff.1 hj).1
  have hl := h.1
  simp only [List.length_map] at hj1
  rcases h.2.1 with h0 | ⟨b, o, ha, _, hc⟩
  · omega
  · cases ha
    rw [Addr.add_lit, hc j (by omega), ← hj, List.getElem?_map, List.getElem?_eq_getElem hj1]
    rfl

theorem floats_oneCell (zs : List Nat) : ∀ u ∈ zs.map (Value.float .f64), u.oneCell' = true := by
  intro u hu
  obtain ⟨z, _, rfl⟩ := List.mem_map.1 hu
  rfl

/-- What stands behind a list of floats that is lent: 0.125, 1.125, 2.125. -/
def fmarks (k : Nat) : List Nat := [4593671619917905920, 4607745368753438720, 4611967493404098560].take k
theorem fmark_run (k : Nat) (h : k < 3) (P : Program) (t : TypeId) (V : World) : ∃ r, (binOp .add t (.float .f64 4593671619917905920) (.float .f64 (floatOfInt .f64 (k : Int)))).run P V = .ok (.float .f64 r) V ∧ fmarks (k + 1) = fmarks k ++ [r] := by
  match k, h with
  | 0, _ => exact ⟨4593671619917905920, run_float_arith V _ _ _ _ _ _ (by decide +kernel), rfl⟩
  | 1, _ => exact ⟨4607745368753438720, run_float_arith V _ _ _ _ _ _ (by decide +kernel), rfl⟩
  | 2, _ => exact ⟨4611967493404098560, run_float_arith V _ _ _ _ _ _ (by decide +kernel), rfl⟩

end Go.Proofs.YtfppimlmebnaeaaGreatDoor

/- real.Sum and the document's Sum, of any list of floats. -/
namespace Go.Proofs.YtfppimlmebnaeaaGreatDoor
open Go.RowKit
set_option linter.unusedVariables false

/-- A struct's memory. -/
def FBox (w : World) (b t : Nat) (vs : Array Value) : Prop := w.heap[b]? = some (.cells vs t (0, 0))
theorem FBox.cell {w : World} {b t : Nat} {vs : Array Value} (h : FBox w b t vs) (j : Nat) : w.cell? ⟨b, j, none⟩ = vs[j]? := by
  unfold FBox at h
  simp [World.cell?, h]
theorem FBox.free {w : World} {b t : Nat} {vs : Array Value} (h : FBox w b t vs) (j : Nat) : w.frozen? ⟨b, j, none⟩ = false := by
  unfold FBox at h
  simp [World.frozen?, h]
theorem FBox.later {w w' : World} {B b t : Nat} {vs : Array Value} (h : FBox w b t vs) (hb : Below B w w') (hlt : b < B) : FBox w' b t vs := by
  unfold FBox at *
  rw [hb.block b hlt]; exact h
theorem FBox.lt {w : World} {b t : Nat} {vs : Array Value} (h : FBox w b t vs) : b < w.heap.size := by
  unfold FBox at h
  have : w.heap[b]?.isSome := by rw [h]; rfl
  simpa using this
theorem FBox.made (w : World) (t : Nat) (vs : Array Value) : FBox (w.alloc (.cells vs t)) w.heap.size t vs := by
  unfold FBox
  show (w.heap.push _)[w.heap.size]? = _
  rw [Array.getElem?_push, if_pos rfl]
theorem FBox.other {w : World} {b t : Nat} {vs : Array Value} (h : FBox w b t vs) (p : Addr) (v : Value) (hne : b ≠ p.block) : FBox (w.setCell p v) b t vs := by
  unfold FBox at *
  rw [Below.heap_setCell w p v b hne]; exact h
theorem FBox.drewN {w : World} {b t : Nat} {vs : Array Value} (h : FBox w b t vs) (n : Nat) : FBox (w.drewN n) b t vs := h
theorem FBox.set {w : World} {b t : Nat} {vs : Array Value} (h : FBox w b t vs) (j : Nat) (v : Value) : FBox (w.setCell ⟨b, j, none⟩ v) b t (vs.setIfInBounds j v) := by
  unfold FBox at *
  simp only [World.setCell, Array.getElem?_modify, if_pos, h]
  simp

/-- What Sum tells. -/
def sumV (r : Nat × Nat × Int × Int) : Value := .tuple #[.float .f64 r.1, .float .f64 r.2.1, .agg #[.int .i64 r.2.2.1, .int .i64 r.2.2.2]]

/-- Each float has 64 bits. -/
def Wf (xs : List Nat) : Prop := ∀ j : Nat, xs[j]?.getD 0 < 18446744073709551616

theorem fput2 {B : Nat} {a w : World} (h : Below B a w) (b : Nat) (hb : B ≤ b) (v0 v1 : Value) : Below B a ((w.setCell ⟨b, 0, none⟩ v0).setCell ⟨b, 1, none⟩ v1) :=
  (h.setCell (p := ⟨b, 0, none⟩) hb _).setCell (p := ⟨b, 1, none⟩) hb _
theorem fbox_facts {w w' : World} {b t : Nat} {v0 v1 : Value} (h : FBox w b t #[v0, v1]) (hb : Below w.heap.size w w') : w'.cell? ⟨b, 0, none⟩ = some v0 ∧ w'.cell? ⟨b, 1, none⟩ = some v1 ∧ w'.frozen? ⟨b, 0, none⟩ = false ∧ w'.frozen? ⟨b, 1, none⟩ = false := by
  have h' := h.later hb h.lt
  exact ⟨h'.cell 0, h'.cell 1, h'.free 0, h'.free 1⟩

set_option maxHeartbeats 3200000 in
set_option maxRecDepth 100000 in
theorem Sum_some (b o n cap : Nat) (xs : List Nat) (w : World) (hl : xs.length = n) (hb : b < w.heap.size) (hc : ∀ j, j < n → w.cell? ⟨b, o + j, none⟩ = some (.float .f64 (xs[j]?.getD 0))) (hcap : n ≤ cap) (hw : Wf xs) (hn : n ≤ 1048576) :
    Calls Tryz.prog 18 #[.slice (some ⟨b, o, none⟩) n cap] w fun x w' => x = .returned (sumV (fsum xs)) ∧ Below w.heap.size w w' := by
  have HW := hid hw
  have HL := hid hl
  have HBX : Hid (Below w.heap.size w (w.alloc (.cells #[.int .i64 0, .int .i64 0] 42))) := (Below.refl _ _).alloc (Nat.le_refl _) _
  have HX := hid (FBox.made w 42 #[.int .i64 0, .int .i64 0])
  have HC : Hid (∀ V, Below (w.alloc (.cells #[.int .i64 0, .int .i64 0] 42)).heap.size (w.alloc (.cells #[.int .i64 0, .int .i64 0] 42)) V → ∀ j, j < n → V.cell? ⟨b, o + j, none⟩ = some (.float .f64 (xs[j]?.getD 0))) := fun V hV j hj => ((HBX.out.trans (hV.mono HBX.out.size)).cell (p := ⟨b, o + j, none⟩) hb).trans (hc j hj)
  clear hw hl hc hb
  go_enter Tryz.func18, Tryz.ntmps18
  go_wp2_with fail
  generalize w.alloc (.cells #[.int .i64 0, .int .i64 0] 42) = X at *
  go_loopw [14] (fun t wr => ∃ k : Nat, k ≤ n ∧ t = .int .i64 k ∧ Hid (fsum xs = fsumFrom xs k (xs.drop k)) ∧ wr = X) (fun t _ => n - (intOf t).toNat)
  case atStart => exact ⟨0, Nat.zero_le _, rfl, (rfl : fsum xs = fsumFrom xs 0 xs), rfl⟩
  case round =>
    obtain ⟨k, hk, rfl, hF, hX⟩ := hrel
    have hX' := hX.symm
    clear hX
    subst hX'
    by_cases hlt : k < n
    · have hcx := HC.out X (Below.refl _ _) k hlt
      have hz64 := HW.out k
      have HG := hid (fsumFrom_fin (l0 := xs) (l := xs) (k := k) (by rw [HL.out]; exact hlt))
      have HG2 := hid (fsumFrom_bad (l0 := xs) (l := xs) (k := k) (by rw [HL.out]; exact hlt))
      generalize xs[k]?.getD 0 = z at *
      have HFI := hid (finite_any z X hz64)
      obtain ⟨r0, r1, f0, f1⟩ := fbox_facts HX.out (Below.refl _ _)
      clear hz64
      cases hf : fin z
      · rw [hf] at HFI
        have HR : Hid (fsum xs = (0, 0, 8, (k : Int))) := hF.out.trans (HG2.out hf)
        clear hf HG HG2 hF
        go_wp2_with fail
        refine Calls.mono HFI.out ?_
        rintro e w1 ⟨rfl, rfl⟩
        go_wp2_with fail
        refine bodyPost_ret (v := .tuple #[.float .f64 0, .float .f64 0, .agg #[.int .i64 8, .int .i64 (k : Int)]]) (by simp [results, Tryz.results18, go_sem, r0, r1]) rfl ?_
        exact ⟨by rw [HR.out]; rfl, fput2 HBX.out _ (Nat.le_refl _) _ _⟩
      · rw [hf] at HFI
        have HR : Hid (fsum xs = fsumFrom xs (k + 1) (xs.drop (k + 1))) := hF.out.trans (HG.out hf)
        clear hf HG HG2 hF
        go_wp2_with fail
        refine Calls.mono HFI.out ?_
        rintro e w1 ⟨rfl, rfl⟩
        go_wp2_with fail
        go_roundw
        case rel => exact ⟨k + 1, by omega, by go_num, HR, by first | rfl | trivial⟩
        case measure => simp [intOf]; omega
    · have hkn : k = n := by omega
      have HR : Hid (fsum xs = fsumGo 0 0 0 (xs.drop 0)) := by
        have e := hF.out
        rw [fsumFrom_end (by rw [HL.out]; omega)] at e
        exact e
      subst hkn
      clear hF hlt hk
      go_wp2_with fail
      go_loopw [7, 8, 27] (fun s c t wq => ∃ j S C : Nat, j ≤ k ∧ t = .int .i64 j ∧ s = .float .f64 S ∧ c = .float .f64 C ∧ Hid (fsum xs = fsumGo S C j (xs.drop j) ∧ fin S = true ∧ fin C = true ∧ Below X.heap.size X wq)) (fun _ _ t _ => k - (intOf t).toNat)
      case atStart => exact ⟨0, 0, 0, Nat.zero_le _, rfl, rfl, rfl, HR.out, fin0, fin0, Below.refl _ _⟩
      case round =>
        obtain ⟨j, S, C, hj, rfl, rfl, rfl, HI⟩ := hrel
        by_cases hlt : j < k
        · have hcx := HC.out wr HI.out.2.2.2 j hlt
          have HJ : Hid (j < xs.length) := by show _; rw [HL.out]; exact hlt
          obtain ⟨z, hz⟩ : ∃ z, z = xs[j]?.getD 0 := ⟨_, rfl⟩
          have HZ := hid hz
          rw [← hz] at hcx
          have HTW := hid (twoSum_any S z wr)
          clear hz
          go_wp2_with fail
          refine Calls.mono HTW.out ?_
          rintro e w1 ⟨s', e', rfl, h2, hb1⟩
          have H2 := hid h2
          have HB1 := hid (HI.out.2.2.2.trans (hb1.mono HI.out.2.2.2.size))
          clear h2 hb1 HTW
          obtain ⟨c', w2, rr, H3⟩ := fadd_ex Tryz.prog 28 w1 C e'
          have HB2 := hid (HB1.out.trans (H3.out.2.mono HB1.out.size))
          have HFS := hid (finite_any s' w2 H2.out.lt.1)
          have HFC := hid (finite_any c' w2 H3.out.1.1)
          obtain ⟨r0, r1, f0, f1⟩ := fbox_facts HX.out HB2.out
          have H2' : Hid (Two S (xs[j]?.getD 0) s' e') := by show _; rw [← HZ.out]; exact H2.out
          cases fs : fin s'
          · rw [fs] at HFS
            have HE : Hid (fsum xs = (0, 0, 9, (j : Int))) := HI.out.1.trans (round_bad HJ.out HI.out.2.2.1 H2'.out H3.out.1 (.inl fs))
            clear fs
            go_wp2_with fail
            refine Calls.mono HFS.out ?_
            rintro e u1 ⟨rfl, rfl⟩
            go_wp2_with fail
            refine bodyPost_ret (v := .tuple #[.float .f64 0, .float .f64 0, .agg #[.int .i64 9, .int .i64 (j : Int)]]) (by simp [results, Tryz.results18, go_sem, r0, r1]) rfl ?_
            exact ⟨by rw [HE.out]; rfl, fput2 (HBX.out.trans (HB2.out.mono HBX.out.size)) _ (Nat.le_refl _) _ _⟩
          cases fc : fin c'
          · rw [fs] at HFS
            rw [fc] at HFC
            have HE : Hid (fsum xs = (0, 0, 9, (j : Int))) := HI.out.1.trans (round_bad HJ.out HI.out.2.2.1 H2'.out H3.out.1 (.inr fc))
            clear fs fc
            go_wp2_with fail
            refine Calls.mono HFS.out ?_
            rintro e u1 ⟨rfl, rfl⟩
            go_wp2_with fail
            refine Calls.mono HFC.out ?_
            rintro e u1 ⟨rfl, rfl⟩
            go_wp2_with fail
            refine bodyPost_ret (v := .tuple #[.float .f64 0, .float .f64 0, .agg #[.int .i64 9, .int .i64 (j : Int)]]) (by simp [results, Tryz.results18, go_sem, r0, r1]) rfl ?_
            exact ⟨by rw [HE.out]; rfl, fput2 (HBX.out.trans (HB2.out.mono HBX.out.size)) _ (Nat.le_refl _) _ _⟩
          rw [fs] at HFS
          rw [fc] at HFC
          have HE : Hid (fsum xs = fsumGo s' c' (j + 1) (xs.drop (j + 1)) ∧ fin s' = true ∧ fin c' = true) := ⟨HI.out.1.trans (round_good HJ.out H2'.out H3.out.1 fs fc), fs, fc⟩
          clear fs fc
          go_wp2_with fail
          refine Calls.mono HFS.out ?_
          rintro e u1 ⟨rfl, rfl⟩
          go_wp2_with fail
          refine Calls.mono HFC.out ?_
          rintro e u1 ⟨rfl, rfl⟩
          go_wp2_with fail
          go_roundw
          case rel => exact ⟨j + 1, s', c', by omega, by go_num, rfl, rfl, HE.out.1, HE.out.2.1, HE.out.2.2, HB2.out⟩
          case measure => simp [intOf]; omega
        · have hjk : j = k := by omega
          subst hjk
          have HE : Hid (fsum xs = (S, C, 0, 0)) := by
            have e := HI.out.1
            rw [fsumGo_end (by rw [HL.out]; omega)] at e
            exact e
          obtain ⟨r0, r1, f0, f1⟩ := fbox_facts HX.out HI.out.2.2.2
          have HBW := hid (HBX.out.trans (HI.out.2.2.2.mono HBX.out.size))
          clear HI
          go_wp2_with fail
          refine bodyPost_ret (v := .tuple #[.float .f64 S, .float .f64 C, .agg #[.int .i64 0, .int .i64 0]]) (by simp [results, Tryz.results18, go_sem, r0, r1]) rfl ?_
          exact ⟨by rw [HE.out]; rfl, fput2 HBW.out _ (Nat.le_refl _) _ _⟩

end Go.Proofs.YtfppimlmebnaeaaGreatDoor

/- Fractions that are not too long, by how many bits they have. Nothing here speaks of the program. -/
namespace Go.Proofs.YtfppimlmebnaeaaGreatDoor
open Go.RowKit
set_option linter.unusedVariables false

theorem te_divInt {n : Int} {d : Nat} {k : Nat} (hd : d ≠ 0) (h1 : n.natAbs ≤ k) (h2 : d ≤ k) : (Rat.divInt n d).num.natAbs ≤ k ∧ (Rat.divInt n d).den ≤ k := by
  have e : Rat.divInt n d = mkRat n d := Rat.divInt_ofNat n d
  rw [e]
  have e2 := Rat.normalize_eq_mkRat (num := n) (den := d) hd
  rw [← e2, Rat.normalize_eq]
  exact ⟨by
    show (n / _).natAbs ≤ k
    exact Nat.le_trans (by rw [Int.natAbs_ediv_of_dvd (Int.ofNat_dvd_left.2 (Nat.gcd_dvd_left _ _)), Int.natAbs_natCast]; exact Nat.div_le_self _ _) h1, Nat.le_trans (Nat.div_le_self _ _) h2⟩
theorem te_ppw (m : Nat) : (4294967296 : Int) ^ m = ((2 ^ (32 * m) : Nat) : Int) := by rw [Nat.pow_mul, Int.natCast_pow]; rfl
theorem te_pshort {q : Rat} {k : Nat} (h1 : q.num.natAbs ≤ 2 ^ k) (h2 : q.den ≤ 2 ^ k) (hk : k < 65536) : ¬ rlong q := by
  have e0 : ∀ m, m = 2048 → wlim = ((2 ^ (32 * m) : Nat) : Int) := fun m hm => by rw [← te_ppw, hm]; rfl
  obtain ⟨m, hm⟩ : ∃ m : Nat, m = 2048 := ⟨_, rfl⟩
  have e1 := e0 m hm
  have e3 : 2 ^ k < 2 ^ (32 * m) := Nat.pow_lt_pow_right (by omega) (by omega)
  generalize 2 ^ (32 * m) = M at e1 e3
  generalize 2 ^ k = K at e3 h1 h2
  unfold rlong
  rw [e1]
  rintro (h | h) <;> omega
end Go.Proofs.YtfppimlmebnaeaaGreatDoor

/- What RealNames wants of the calls: fractions as they are told, known answers. -/
namespace Go.Proofs.YtfppimlmebnaeaaGreatDoor
open Go.RowKit
set_option linter.unusedVariables false

/-- A fraction told, with the code 0. -/
def RRet (w : World) (q : Rat) (x : Ending) (w' : World) : Prop := ∃ h e ce rs p cp ts, x = .returned (.tuple #[.agg #[.bool h, .slice e (List.length rs) ce, .slice p (List.length ts) cp], .int .i64 0]) ∧ Hid (Sl w' (.slice e rs.length ce) rs ∧ Sl w' (.slice p ts.length cp) ts) ∧ Hid (rchk h rs ts = 0 ∧ rq h rs ts = q) ∧ Below w.heap.size w w'
/-- A fraction told alone. -/
def RRet1 (w : World) (q : Rat) (x : Ending) (w' : World) : Prop := ∃ h e ce rs p cp ts, x = .returned (.agg #[.bool h, .slice e (List.length rs) ce, .slice p (List.length ts) cp]) ∧ Hid (Sl w' (.slice e rs.length ce) rs ∧ Sl w' (.slice p ts.length cp) ts) ∧ Hid (rchk h rs ts = 0 ∧ rq h rs ts = q) ∧ Below w.heap.size w w'
theorem rret_told {f : Nat} {args : Array Value} {w : World} {q : Rat} (H : Calls Tryz.prog f args w (RToldA w 0 q)) (hl : ¬ rlong q) : Calls Tryz.prog f args w (RRet w q) := by
  refine Calls.mono H ?_
  rintro x w' ⟨n, v, xs, u, ys, code, rfl, o1, o2, t, hb, _⟩
  obtain ⟨rfl, k, g⟩ := t.good rfl hl
  obtain ⟨a1, c1, rfl⟩ := own_slice' o1
  obtain ⟨b1, d1, rfl⟩ := own_slice' o2
  exact ⟨n, a1, c1, xs, b1, d1, ys, rfl, ⟨Sl.own o1 t.wx, Sl.own o2 t.wy⟩, ⟨k, g⟩, hb⟩
theorem rret_exact (x : Nat) (w : World) (hx : Fi x) (hT : TabB w) : Calls Tryz.prog 4 #[.float .f64 x] w (RRet w (fq x)) := by
  refine Calls.mono (exact_fin x w hx hT) ?_
  rintro e w' ⟨n, a, ca, b, cb, xs, ys, rfl, o1, o2, wx, wy, he, hb⟩
  exact ⟨n, a, ca, xs, b, cb, ys, rfl, ⟨Sl.own o1 wx, Sl.own o2 wy⟩, ⟨he.1, he.2.2⟩, hb⟩
theorem rret_exact6 (x : Nat) (w : World) (hx : Fi x) (hT : TabB w) : Calls Tryz.prog 12 #[.float .f64 x] w (RRet1 w (fq x)) := by
  refine Calls.mono (exact6_fin x w hx hT) ?_
  rintro e w' ⟨n, a, ca, b, cb, xs, ys, rfl, o1, o2, wx, wy, he, hb⟩
  exact ⟨n, a, ca, xs, b, cb, ys, rfl, ⟨Sl.own o1 wx, Sl.own o2 wy⟩, ⟨he.1, he.2.2⟩, hb⟩
theorem rret_small (x y : Int) (w : World) (x0 : -9223372036854775808 ≤ x) (x1 : x ≤ 9223372036854775807) (y0 : 0 < y) (y1 : y ≤ 9223372036854775807) : Calls Tryz.prog 9 #[.int .i64 x, .int .i64 y] w (RRet1 w (Rat.divInt x y)) := by
  have H := small6_any x y w x0 x1 (by omega) y1
  rw [if_neg (by omega)] at H
  refine Calls.mono H ?_
  rintro e w' ⟨n, v, xs, u, ys, code, rfl, o1, o2, t, hb⟩
  have hl : ¬ rlong (Rat.divInt x y) := by
    obtain ⟨d, rfl⟩ : ∃ d : Nat, y = (d : Int) := ⟨y.toNat, by omega⟩
    have b63 : (2 : Nat) ^ 63 = 9223372036854775808 := by decide
    obtain ⟨h1, h2⟩ := te_divInt (n := x) (d := d) (k := 2 ^ 63) (by omega) (by omega) (by omega)
    exact te_pshort h1 h2 (by omega)
  obtain ⟨_, k, g⟩ := t.good rfl hl
  obtain ⟨a1, c1, rfl⟩ := own_slice' o1
  obtain ⟨b1, d1, rfl⟩ := own_slice' o2
  exact ⟨n, a1, c1, xs, b1, d1, ys, rfl, ⟨Sl.own o1 t.wx, Sl.own o2 t.wy⟩, ⟨k, g⟩, hb⟩
theorem us_pos {n : Bool} {us vs : List Int} {q : Rat} (h : rq n us vs = q) (hq : q ≠ 0) : 0 < us.length := by
  cases us with
  | nil =>
    exfalso
    apply hq
    rw [← h]
    unfold rq
    have e : wval n [] = 0 := by cases n <;> rfl
    rw [e, Rat.zero_divInt]
  | cons a l => simp
theorem rret_mul (n : Bool) (a : Option Addr) (ca : Nat) (xs : List Int) (b : Option Addr) (cb : Nat) (ys : List Int) (m : Bool) (c : Option Addr) (cc : Nat) (us : List Int) (d : Option Addr) (cd : Nat) (vs : List Int) (w : World) (q1 q2 : Rat) (s1 : Sl w (.slice a xs.length ca) xs ∧ Sl w (.slice b ys.length cb) ys) (s2 : Sl w (.slice c us.length cc) us ∧ Sl w (.slice d vs.length cd) vs) (h1 : rchk n xs ys = 0 ∧ rq n xs ys = q1) (h2 : rchk m us vs = 0 ∧ rq m us vs = q2) (hl : ¬ rlong (q1 * q2)) :
    Calls Tryz.prog 8 #[.agg #[.bool n, .slice a xs.length ca, .slice b ys.length cb], .agg #[.bool m, .slice c us.length cc, .slice d vs.length cd]] w (RRet w (q1 * q2)) := by
  have H := rMul_ok n a ca xs b cb ys m c cc us d cd vs w s1.1 s1.2 s2.1 s2.2 h1.1 h2.1
  rw [h1.2, h2.2] at H
  exact rret_told H hl
theorem rret_add (n : Bool) (a : Option Addr) (ca : Nat) (xs : List Int) (b : Option Addr) (cb : Nat) (ys : List Int) (m : Bool) (c : Option Addr) (cc : Nat) (us : List Int) (d : Option Addr) (cd : Nat) (vs : List Int) (w : World) (q1 q2 : Rat) (s1 : Sl w (.slice a xs.length ca) xs ∧ Sl w (.slice b ys.length cb) ys) (s2 : Sl w (.slice c us.length cc) us ∧ Sl w (.slice d vs.length cd) vs) (h1 : rchk n xs ys = 0 ∧ rq n xs ys = q1) (h2 : rchk m us vs = 0 ∧ rq m us vs = q2) (hl : ¬ rlong (q1 + q2)) :
    Calls Tryz.prog 15 #[.agg #[.bool n, .slice a xs.length ca, .slice b ys.length cb], .agg #[.bool m, .slice c us.length cc, .slice d vs.length cd]] w (RRet w (q1 + q2)) := by
  have H := rAdd_ok n a ca xs b cb ys m c cc us d cd vs w s1.1 s1.2 s2.1 s2.2 h1.1 h2.1
  rw [h1.2, h2.2] at H
  exact rret_told H hl
theorem rret_quo (n : Bool) (a : Option Addr) (ca : Nat) (xs : List Int) (b : Option Addr) (cb : Nat) (ys : List Int) (m : Bool) (c : Option Addr) (cc : Nat) (us : List Int) (d : Option Addr) (cd : Nat) (vs : List Int) (w : World) (q1 q2 : Rat) (s1 : Sl w (.slice a xs.length ca) xs ∧ Sl w (.slice b ys.length cb) ys) (s2 : Sl w (.slice c us.length cc) us ∧ Sl w (.slice d vs.length cd) vs) (h1 : rchk n xs ys = 0 ∧ rq n xs ys = q1) (h2 : rchk m us vs = 0 ∧ rq m us vs = q2) (h0 : q2 ≠ 0) (hl : ¬ rlong (q1 / q2)) :
    Calls Tryz.prog 14 #[.agg #[.bool n, .slice a xs.length ca, .slice b ys.length cb], .agg #[.bool m, .slice c us.length cc, .slice d vs.length cd]] w (RRet w (q1 / q2)) := by
  have H := rQuo_ok n a ca xs b cb ys m c cc us d cd vs w s1.1 s1.2 s2.1 s2.2 h1.1 h2.1 (us_pos h2.2 h0)
  rw [h1.2, h2.2] at H
  exact rret_told H hl
/-- Two of one number are the same. -/
theorem rret_same (n : Bool) (a : Option Addr) (ca : Nat) (xs : List Int) (b : Option Addr) (cb : Nat) (ys : List Int) (m : Bool) (c : Option Addr) (cc : Nat) (us : List Int) (d : Option Addr) (cd : Nat) (vs : List Int) (w : World) (q : Rat) (s1 : Sl w (.slice a xs.length ca) xs ∧ Sl w (.slice b ys.length cb) ys) (s2 : Sl w (.slice c us.length cc) us ∧ Sl w (.slice d vs.length cd) vs) (h1 : rchk n xs ys = 0 ∧ rq n xs ys = q) (h2 : rchk m us vs = 0 ∧ rq m us vs = q) :
    Calls Tryz.prog 11 #[.agg #[.bool n, .slice a xs.length ca, .slice b ys.length cb], .agg #[.bool m, .slice c us.length cc, .slice d vs.length cd]] w fun e w' => e = .returned (.bool true) ∧ Below w.heap.size w w' := by
  have t1 : RTells 0 (rq n xs ys) n xs ys 0 := rtells_self s1.1.wd s1.2.wd h1.1
  have t2 : RTells 0 (rq m us vs) m us vs 0 := rtells_self s2.1.wd s2.2.wd h2.1
  rw [h1.2] at t1
  rw [h2.2] at t2
  obtain ⟨rfl, rfl, rfl, _⟩ := t1.same t2
  obtain ⟨lx, ly, _⟩ := rchk_ok h1.1
  have H := rSame_any n a ca xs b cb ys n c cc xs d cd ys w s1.1 s1.2 s2.1 s2.2 (by omega) (by omega) (by omega) (by omega)
  rw [decide_eq_true ⟨rfl, rfl, rfl⟩] at H
  exact H
/-- The nearest of a known fraction. -/
theorem rnear_kn (n : Bool) (a : Option Addr) (ca : Nat) (xs : List Int) (b : Option Addr) (cb : Nat) (ys : List Int) (w : World) {q : Rat} (s1 : Sl w (.slice a xs.length ca) xs ∧ Sl w (.slice b ys.length cb) ys) (h1 : rchk n xs ys = 0 ∧ rq n xs ys = q) {m : Bool} {P Q s : Nat} (C : Nat) (hQ : 0 < Q) (hq : q = Rat.divInt (sg m (P : Int)) (Q : Int)) (hm : Mid (P * 2 ^ zP) Q s) (hs : s < 9218868437227405312) (fC : Fi C) (hC : sg m (rungVal s : Int) = sv C) :
    Calls Tryz.prog 10 #[.agg #[.bool n, .slice a xs.length ca, .slice b ys.length cb]] w fun e w' => ∃ x, e = .returned (.tuple #[.float .f64 x, .int .i64 0]) ∧ (FloatKind.f64.format.order x C == some .eq) = true ∧ Below w.heap.size w w' := by
  refine Calls.mono (nearest_any n _ xs _ ys w s1.1 s1.2) ?_
  rintro e w' ⟨x, code, rfl, hn, hb⟩
  obtain ⟨rfl, fx, hx⟩ := (near_at hn h1.1 hQ (h1.2.trans hq) hm).2 hs
  exact ⟨x, rfl, by rw [ord_eq fx fC]; exact decide_eq_true (hx.trans hC), hb⟩
theorem rnear_over (n : Bool) (a : Option Addr) (ca : Nat) (xs : List Int) (b : Option Addr) (cb : Nat) (ys : List Int) (w : World) {q : Rat} (s1 : Sl w (.slice a xs.length ca) xs ∧ Sl w (.slice b ys.length cb) ys) (h1 : rchk n xs ys = 0 ∧ rq n xs ys = q) {m : Bool} {P Q s : Nat} (hQ : 0 < Q) (hq : q = Rat.divInt (sg m (P : Int)) (Q : Int)) (hm : Mid (P * 2 ^ zP) Q s) (hs : 9218868437227405312 ≤ s) :
    Calls Tryz.prog 10 #[.agg #[.bool n, .slice a xs.length ca, .slice b ys.length cb]] w fun e w' => ∃ x, e = .returned (.tuple #[.float .f64 x, .int .i64 9]) ∧ Below w.heap.size w w' := by
  refine Calls.mono (nearest_any n _ xs _ ys w s1.1 s1.2) ?_
  rintro e w' ⟨x, code, rfl, hn, hb⟩
  obtain rfl := (near_at hn h1.1 hQ (h1.2.trans hq) hm).1 hs
  exact ⟨x, rfl, hb⟩
theorem neq_of {x C : Nat} (h : (FloatKind.f64.format.order x C == some .eq) = true) : (FloatKind.f64.format.order x C != some .eq) = false := by unfold bne; rw [h]; rfl

/-- A fraction in rows that were made since. -/
def RnRow (B : Nat) (w' : World) (n : Bool) (a : Option Addr) (ca : Nat) (xs : List Int) (b : Option Addr) (cb : Nat) (ys : List Int) (q : Rat) : Prop :=
  w'.ownsRow B 62 1 (.slice a xs.length ca) xs.length (xs.map (Value.int .u32)) ∧ w'.ownsRow B 62 1 (.slice b ys.length cb) ys.length (ys.map (Value.int .u32)) ∧ Wd xs ∧ Wd ys ∧ rchk n xs ys = 0 ∧ rq n xs ys = q
theorem RnRow.later {B : Nat} {w' v : World} {n : Bool} {a : Option Addr} {ca : Nat} {xs : List Int} {b : Option Addr} {cb : Nat} {ys : List Int} {q : Rat} (h : RnRow B w' n a ca xs b cb ys q) (hb : Below w'.heap.size w' v) : RnRow B v n a ca xs b cb ys q := ⟨owns_later h.1 hb, owns_later h.2.1 hb, h.2.2⟩
theorem RnRow.sl {B : Nat} {w' : World} {n : Bool} {a : Option Addr} {ca : Nat} {xs : List Int} {b : Option Addr} {cb : Nat} {ys : List Int} {q : Rat} (h : RnRow B w' n a ca xs b cb ys q) : Sl w' (.slice a xs.length ca) xs ∧ Sl w' (.slice b ys.length cb) ys := ⟨Sl.own h.1 h.2.2.1, Sl.own h.2.1 h.2.2.2.1⟩
theorem rsmall_reg (X : World) (x y : Int) (V : World) (hv : Below X.heap.size X V) (x0 : -9223372036854775808 ≤ x) (x1 : x ≤ 9223372036854775807) (y0 : 0 < y) (y1 : y ≤ 9223372036854775807) : Calls Tryz.prog 9 #[.int .i64 x, .int .i64 y] V fun e w' => ∃ n a ca xs b cb ys, e = .returned (.agg #[.bool n, .slice a (List.length xs) ca, .slice b (List.length ys) cb]) ∧ Below X.heap.size X w' ∧ Below V.heap.size V w' ∧ Hid (RnRow X.heap.size w' n a ca xs b cb ys (Rat.divInt x y)) := by
  have H := small6_any x y V x0 x1 (by omega) y1
  rw [if_neg (by omega)] at H
  refine Calls.mono H ?_
  rintro e w' ⟨n, v, xs, u, ys, code, rfl, o1, o2, t, hb⟩
  have hl : ¬ rlong (Rat.divInt x y) := by
    obtain ⟨d, rfl⟩ : ∃ d : Nat, y = (d : Int) := ⟨y.toNat, by omega⟩
    have b63 : (2 : Nat) ^ 63 = 9223372036854775808 := by decide
    obtain ⟨h1, h2⟩ := te_divInt (n := x) (d := d) (k := 2 ^ 63) (by omega) (by omega) (by omega)
    exact te_pshort h1 h2 (by omega)
  obtain ⟨_, k, g⟩ := t.good rfl hl
  obtain ⟨a1, c1, rfl⟩ := own_slice' o1
  obtain ⟨b1, d1, rfl⟩ := own_slice' o2
  exact ⟨n, a1, c1, xs, b1, d1, ys, rfl, bt hv hb, hb, owns_base o1 hv.size, owns_base o2 hv.size, t.wx, t.wy, k, g⟩
theorem rmul_reg (X : World) (n : Bool) (a : Option Addr) (ca : Nat) (xs : List Int) (b : Option Addr) (cb : Nat) (ys : List Int) (q1 q2 : Rat) (s1 : Sl X (.slice a xs.length ca) xs ∧ Sl X (.slice b ys.length cb) ys) (h1 : rchk n xs ys = 0 ∧ rq n xs ys = q1) (hl : ¬ rlong (q1 * q2)) (V : World) (m : Bool) (c : Option Addr) (cc : Nat) (us : List Int) (d : Option Addr) (cd : Nat) (vs : List Int) (hv : Below X.heap.size X V) (h2 : RnRow X.heap.size V m c cc us d cd vs q2) :
    Calls Tryz.prog 8 #[.agg #[.bool n, .slice a xs.length ca, .slice b ys.length cb], .agg #[.bool m, .slice c us.length cc, .slice d vs.length cd]] V fun e w' => ∃ k a1 c1 us b1 d1 vs code, e = .returned (.tuple #[.agg #[.bool k, .slice a1 (List.length us) c1, .slice b1 (List.length vs) d1], .int .i64 code]) ∧ Below X.heap.size X w' ∧ Below V.heap.size V w' ∧ Hid (RnRow X.heap.size w' k a1 c1 us b1 d1 vs (q1 * q2)) := by
  have H := rMul_ok n a ca xs b cb ys m c cc us d cd vs V (s1.1.later hv) (s1.2.later hv) h2.sl.1 h2.sl.2 h1.1 h2.2.2.2.2.1
  rw [h1.2, h2.2.2.2.2.2] at H
  refine Calls.mono H ?_
  rintro e w' ⟨k, v1, us, u1, vs, code, rfl, r1, r2, t, hb, _⟩
  obtain ⟨_, kk, g⟩ := t.good rfl hl
  obtain ⟨a1, c1, rfl⟩ := own_slice' r1
  obtain ⟨b1, d1, rfl⟩ := own_slice' r2
  exact ⟨k, a1, c1, us, b1, d1, vs, code, rfl, bt hv hb, hb, owns_base r1 hv.size, owns_base r2 hv.size, t.wx, t.wy, kk, g⟩
/-- What stands behind a statement that makes a box of a product. -/
structure RnCut (X : World) (q : Rat) (s s7 : Value) (wx : World) : Prop where
  ex : ∃ (pb : Nat) (k : Bool) (a1 : Option Addr) (c1 : Nat) (us : List Int) (b1 : Option Addr) (d1 : Nat) (vs : List Int) (code : Int), s = .pointer (some ⟨pb, 0, none⟩) ∧ s7 = .int .i64 code ∧ Box wx pb 24 #[.bool k, .slice a1 us.length c1, .slice b1 vs.length d1] ∧ RnRow X.heap.size wx k a1 c1 us b1 d1 vs q
  bel : Below X.heap.size X wx
theorem rn_new {X w2 : World} {q : Rat} {k : Bool} {a1 : Option Addr} {c1 : Nat} {us : List Int} {b1 : Option Addr} {d1 : Nat} {vs : List Int} {code : Int} (h2 : Below X.heap.size X w2) (r : RnRow X.heap.size w2 k a1 c1 us b1 d1 vs q) :
    RnCut X q (.pointer (some ⟨w2.heap.size, 0, none⟩)) (.int .i64 code) (w2.alloc (.cells #[.bool k, .slice a1 us.length c1, .slice b1 vs.length d1] 24)) := by
  have hb := alloc_later w2 (.cells #[.bool k, .slice a1 us.length c1, .slice b1 vs.length d1] 24)
  exact ⟨⟨_, k, a1, c1, us, b1, d1, vs, code, rfl, rfl, Box.made w2 _ _, r.later hb⟩, bt h2 hb⟩
theorem rn_old {X w2 : World} {q : Rat} {k : Bool} {a1 : Option Addr} {c1 : Nat} {us : List Int} {b1 : Option Addr} {d1 : Nat} {vs : List Int} {code : Int} {pb : Nat} {v0 v1 v2 : Value} (h2 : Below X.heap.size X w2) (r : RnRow X.heap.size w2 k a1 c1 us b1 d1 vs q) (hp : Box w2 pb 24 #[v0, v1, v2]) (hl : X.heap.size ≤ pb) :
    RnCut X q (.pointer (some ⟨pb, 0, none⟩)) (.int .i64 code) (((w2.setCell ⟨pb, 0, none⟩ (.bool k)).setCell ⟨pb, 1, none⟩ (.slice a1 us.length c1)).setCell ⟨pb, 2, none⟩ (.slice b1 vs.length d1)) :=
  ⟨⟨_, k, a1, c1, us, b1, d1, vs, code, rfl, rfl, put3_box hp _ _ _, put3_row r.1 hp (by decide) _ _ _, put3_row r.2.1 hp (by decide) _ _ _, r.2.2⟩, below_put3 h2 pb hl _ _ _⟩
theorem rn3_alloc {V : World} {p : Nat} {n : Bool} {v u : Value} (h : V.cell? ⟨p, 0, none⟩ = some (.bool n) ∧ V.cell? ⟨p, 1, none⟩ = some v ∧ V.cell? ⟨p, 2, none⟩ = some u) (o : Obj) : (V.alloc o).cell? ⟨p, 0, none⟩ = some (.bool n) ∧ (V.alloc o).cell? ⟨p, 1, none⟩ = some v ∧ (V.alloc o).cell? ⟨p, 2, none⟩ = some u := ⟨cell_alloc h.1 o, cell_alloc h.2.1 o, cell_alloc h.2.2 o⟩
theorem rn3_far {V : World} {p b : Nat} {n : Bool} {v u : Value} (h : V.cell? ⟨p, 0, none⟩ = some (.bool n) ∧ V.cell? ⟨p, 1, none⟩ = some v ∧ V.cell? ⟨p, 2, none⟩ = some u) (hne : p ≠ b) (v0 v1 v2 : Value) : (((V.setCell ⟨b, 0, none⟩ v0).setCell ⟨b, 1, none⟩ v1).setCell ⟨b, 2, none⟩ v2).cell? ⟨p, 0, none⟩ = some (.bool n) ∧ (((V.setCell ⟨b, 0, none⟩ v0).setCell ⟨b, 1, none⟩ v1).setCell ⟨b, 2, none⟩ v2).cell? ⟨p, 1, none⟩ = some v ∧ (((V.setCell ⟨b, 0, none⟩ v0).setCell ⟨b, 1, none⟩ v1).setCell ⟨b, 2, none⟩ v2).cell? ⟨p, 2, none⟩ = some u := ⟨cell_far3 h.1 hne _ _ _, cell_far3 h.2.1 hne _ _ _, cell_far3 h.2.2 hne _ _ _⟩
theorem rn_zero3 {W : World} {b : Nat} (h : Box W b 24 #[.bool false, .slice none 0 0, .slice none 0 0]) : (W.cell? ⟨b, 0, none⟩ = some (.bool false) ∧ W.cell? ⟨b, 1, none⟩ = some (.slice none 0 0) ∧ W.cell? ⟨b, 2, none⟩ = some (.slice none 0 0)) ∧ (W.frozen? ⟨b, 0, none⟩ = false ∧ W.frozen? ⟨b, 1, none⟩ = false ∧ W.frozen? ⟨b, 2, none⟩ = false) ∧ W.setCell ⟨b, 0, none⟩ (.bool false) = W ∧ W.setCell ⟨b, 1, none⟩ (.slice none 0 0) = W ∧ W.setCell ⟨b, 2, none⟩ (.slice none 0 0) = W :=
  ⟨⟨h.cell 0, h.cell 1, h.cell 2⟩, ⟨h.free 0, h.free 1, h.free 2⟩, h.same rfl, h.same rfl, h.same rfl⟩
theorem rn_zero2 {W : World} {b : Nat} (h : Box W b 42 #[.int .i64 0, .int .i64 0]) : (W.cell? ⟨b, 0, none⟩ = some (.int .i64 0) ∧ W.cell? ⟨b, 1, none⟩ = some (.int .i64 0)) ∧ (W.frozen? ⟨b, 0, none⟩ = false ∧ W.frozen? ⟨b, 1, none⟩ = false) ∧ W.setCell ⟨b, 0, none⟩ (.int .i64 0) = W ∧ W.setCell ⟨b, 1, none⟩ (.int .i64 0) = W :=
  ⟨⟨h.cell 0, h.cell 1⟩, ⟨h.free 0, h.free 1⟩, h.same rfl, h.same rfl⟩

-- the numbers
def qLeast : Rat := fq 1
def qQuart : Rat := fq 8980177656976769024 / Rat.divInt 4 1
def qTop : Rat := fq 9218868437227405311
def qBelow : Rat := qTop + qQuart
def qEdge : Rat := qBelow + qQuart
theorem nl_half : ¬ rlong (qLeast * Rat.divInt 1 2) := by unfold rlong; decide +kernel
theorem nl_more : ¬ rlong (qLeast * Rat.divInt 3 4) := by unfold rlong; decide +kernel
theorem nl_minus : ¬ rlong (qLeast * Rat.divInt (-1) 4) := by unfold rlong; decide +kernel
theorem nl_quart : ¬ rlong (fq 8980177656976769024 / Rat.divInt 4 1) := by unfold rlong; decide +kernel
theorem nl_below : ¬ rlong (qTop + qQuart) := by unfold rlong; decide +kernel
theorem nl_edge : ¬ rlong (qBelow + qQuart) := by unfold rlong; decide +kernel
theorem eq_half : qLeast * Rat.divInt 1 2 = Rat.divInt (sg false ((1 : Nat) : Int)) ((2 ^ 1075 : Nat) : Int) := by decide +kernel
theorem eq_more : qLeast * Rat.divInt 3 4 = Rat.divInt (sg false ((3 : Nat) : Int)) ((2 ^ 1076 : Nat) : Int) := by decide +kernel
theorem eq_minus : qLeast * Rat.divInt (-1) 4 = Rat.divInt (sg true ((1 : Nat) : Int)) ((2 ^ 1076 : Nat) : Int) := by decide +kernel
theorem eq_odd1 : Rat.divInt 9007199254740993 1 = Rat.divInt (sg false ((9007199254740993 : Nat) : Int)) ((1 : Nat) : Int) := by decide +kernel
theorem eq_odd3 : Rat.divInt 9007199254740995 1 = Rat.divInt (sg false ((9007199254740995 : Nat) : Int)) ((1 : Nat) : Int) := by decide +kernel
theorem eq_below : qBelow = Rat.divInt (sg false ((9007199254740991 * 2 ^ 971 + 2 ^ 969 : Nat) : Int)) ((1 : Nat) : Int) := by decide +kernel
theorem eq_edge : qEdge = Rat.divInt (sg false ((9007199254740991 * 2 ^ 971 + 2 ^ 970 : Nat) : Int)) ((1 : Nat) : Int) := by decide +kernel
theorem sv_kn : sg false (rungVal 0 : Int) = sv 0 ∧ sg false (rungVal 1 : Int) = sv 1 ∧ sg true (rungVal 0 : Int) = sv 0 ∧ sg false (rungVal 4845873199050653696 : Int) = sv 4845873199050653696 ∧ sg false (rungVal 4845873199050653698 : Int) = sv 4845873199050653698 ∧ sg false (rungVal 9218868437227405311 : Int) = sv 9218868437227405311 := by decide +kernel
theorem four_ne : Rat.divInt 4 1 ≠ 0 := by decide +kernel
theorem zero_fq : fq 9223372036854775808 = Rat.divInt 0 1 := by decide +kernel

/-- Gap of the greatest float. -/
theorem gap_top (w : World) : Calls Tryz.prog 13 #[.float .f64 9218868437227405311] w fun e w' => ∃ G, e = .returned (.tuple #[.float .f64 G, .int .i64 0]) ∧ Hid (Fi G ∧ fq G = fq 8980177656976769024) ∧ (FloatKind.f64.format.order G 8980177656976769024 == some .eq) = true ∧ Below w.heap.size w w' := by
  refine Calls.mono (gap_any 9218868437227405311 w ⟨by decide, by decide⟩) ?_
  rintro e w' ⟨G, rfl, fG, hG, hb⟩
  have fC : Fi 8980177656976769024 := ⟨by decide, by decide⟩
  have e1 : (funit 9218868437227405311 + 1074).toNat = 2045 := by decide +kernel
  have e2 : sv 8980177656976769024 = ((2 ^ 2045 : Nat) : Int) := by decide +kernel
  rw [e1, ← e2] at hG
  exact ⟨G, rfl, ⟨fG, by rw [fq_sv fG.1, fq_sv fC.1, hG]⟩, by rw [ord_eq fG fC]; exact decide_eq_true hG, hb⟩
theorem csign_zero_bits : bits .andNot .u64 0 9223372036854775808 = 0 ∧ bits .and .u64 13830554455654793216 9223372036854775808 = 9223372036854775808 ∧ bits .or .u64 0 9223372036854775808 = 9223372036854775808 := ⟨by decide, by decide, by decide⟩
set_option maxHeartbeats 800000 in
set_option maxRecDepth 100000 in
theorem csign_zero (w : World) :
    Calls Tryz.prog 5 #[.float .f64 0, .float .f64 13830554455654793216] w fun e w' => e = .returned (.float .f64 9223372036854775808) ∧ w' = w := by
  have H1 : ∀ V, (callFunc 25 #[.float .f64 0]).run Tryz.prog V = .ok (.value (.int .u64 0)) V := fun V => bits_run 0 V
  have H2 : ∀ V, (callFunc 25 #[.float .f64 13830554455654793216]).run Tryz.prog V = .ok (.value (.int .u64 13830554455654793216)) V := fun V => bits_run 13830554455654793216 V
  have H3 : ∀ V, (callFunc 24 #[.int .u64 9223372036854775808]).run Tryz.prog V = .ok (.value (.float .f64 9223372036854775808)) V := fun V => from_run 9223372036854775808 V
  obtain ⟨k1, k2, k3⟩ := csign_zero_bits
  go_enter Tryz.func5, Tryz.ntmps5
  go_wp2
  go_ret
  exact ⟨rfl, rfl⟩
set_option maxHeartbeats 800000 in
set_option maxRecDepth 100000 in
theorem rnInf_neg (w : World) :
    Calls Tryz.prog 7 #[.int .i64 (-1)] w fun e w' => e = .returned (.float .f64 18442240474082181120) ∧ w' = w := by
  have HF : ∀ V, (callFunc 24 #[.int .u64 18442240474082181120]).run Tryz.prog V = .ok (.value (.float .f64 18442240474082181120)) V := from_run 18442240474082181120
  go_enter Tryz.func7, Tryz.ntmps7
  go_wp2
  go_ret
  exact ⟨rfl, rfl⟩
theorem rnFault (a b : Int) (w : World) : (Op.equalIn 10000 42 (.agg #[.int .i64 a, .int .i64 b]) (.agg #[.int .i64 a, .int .i64 b])).run Tryz.prog w = .ok true w := by
  have u1 := Tryz.underlying25
  have a1 := Tryz.isAgg25
  have z1 := Tryz.sizeOf25
  have u3 := Tryz.underlying3
  have a3 := Tryz.isAgg3
  have z3 := Tryz.sizeOf3
  have hS : Tryz.prog.underlying 42 = some (.struct (Tryz.prog.fieldsOf 42)) := by kernel_rfl
  rw [show (10000 : Nat) = 9999 + 1 from rfl, run_equalIn_agg w 9999 42 _ _ hS (by kernel_rfl)]
  simp only [Program.fieldsOf, Tryz.underlying42]
  go_simp
theorem rsum3 : fsum [4607182418800017408, 4336966441157787648, 13830554455654793216] = (0, 4336966441157787648, 0, 0) := by decide +kernel
theorem rsum2 : fsum [4607182418800017408, 9221120237041090561] = (0, 0, 8, 1) := by decide +kernel
theorem rs_three (b : Nat) (w : World) (h : FBox w b 28 #[.float .f64 4607182418800017408, .float .f64 4336966441157787648, .float .f64 13830554455654793216]) :
    Calls Tryz.prog 18 #[.slice (some ⟨b, 0, none⟩) 3 3] w fun x w' => x = .returned (.tuple #[.float .f64 0, .float .f64 4336966441157787648, .agg #[.int .i64 0, .int .i64 0]]) ∧ Below w.heap.size w w' := by
  have H := Sum_some b 0 3 3 [4607182418800017408, 4336966441157787648, 13830554455654793216] w rfl h.lt (fun j hj => by
    rcases j with _ | _ | _ | j
    · exact h.cell 0
    · exact h.cell 1
    · exact h.cell 2
    · omega) (by decide) (fun j => by
    rcases j with _ | _ | _ | j
    · show 4607182418800017408 < _; decide
    · show 4336966441157787648 < _; decide
    · show 13830554455654793216 < _; decide
    · show 0 < _; decide) (by decide)
  rw [rsum3] at H
  exact H
theorem rs_two (b : Nat) (w : World) (h : FBox w b 28 #[.float .f64 4607182418800017408, .float .f64 9221120237041090561]) :
    Calls Tryz.prog 18 #[.slice (some ⟨b, 0, none⟩) 2 2] w fun x w' => x = .returned (.tuple #[.float .f64 0, .float .f64 0, .agg #[.int .i64 8, .int .i64 1]]) ∧ Below w.heap.size w w' := by
  have H := Sum_some b 0 2 2 [4607182418800017408, 9221120237041090561] w rfl h.lt (fun j hj => by
    rcases j with _ | _ | j
    · exact h.cell 0
    · exact h.cell 1
    · omega) (by decide) (fun j => by
    rcases j with _ | _ | j
    · show 4607182418800017408 < _; decide
    · show 9221120237041090561 < _; decide
    · show 0 < _; decide) (by decide)
  rw [rsum2] at H
  exact H
/-- small(1, 3) and small(1, 2), word by word. -/
theorem small13 (w : World) : Calls Tryz.prog 9 #[.int .i64 1, .int .i64 3] w fun e w' => ∃ a c b d, e = .returned (.agg #[.bool false, .slice a 1 c, .slice b 1 d]) ∧ Hid (Sl w' (.slice a 1 c) [1] ∧ Sl w' (.slice b 1 d) [3]) ∧ Below w.heap.size w w' := by
  have h := small6_any 1 3 w (by omega) (by omega) (by omega) (by omega)
  rw [if_neg (by decide)] at h
  refine Calls.mono h ?_
  rintro e w' ⟨n, v, xs, u, ys, c, rfl, q1, q2, t, hb⟩
  obtain ⟨rfl, rfl, rfl⟩ := third_known t
  obtain ⟨a', c', rfl⟩ := own_slice' q1
  obtain ⟨b', d', rfl⟩ := own_slice' q2
  exact ⟨a', c', b', d', rfl, ⟨Sl.own q1 t.wx, Sl.own q2 t.wy⟩, hb⟩
theorem small12 (w : World) : Calls Tryz.prog 9 #[.int .i64 1, .int .i64 2] w fun e w' => ∃ a c b d, e = .returned (.agg #[.bool false, .slice a 1 c, .slice b 1 d]) ∧ Hid (Sl w' (.slice a 1 c) [1] ∧ Sl w' (.slice b 1 d) [2]) ∧ Below w.heap.size w w' := by
  have h := small6_any 1 2 w (by omega) (by omega) (by omega) (by omega)
  rw [if_neg (by decide)] at h
  refine Calls.mono h ?_
  rintro e w' ⟨n, v, xs, u, ys, c, rfl, q1, q2, t, hb⟩
  obtain ⟨rfl, rfl, rfl⟩ := half_known t
  obtain ⟨a', c', rfl⟩ := own_slice' q1
  obtain ⟨b', d', rfl⟩ := own_slice' q2
  exact ⟨a', c', b', d', rfl, ⟨Sl.own q1 t.wx, Sl.own q2 t.wy⟩, hb⟩
theorem within1 (a : Option Addr) (c : Nat) (b : Option Addr) (d : Nat) (w : World) (hT : TabB w) (s : Sl w (.slice a 1 c) [1] ∧ Sl w (.slice b 1 d) [3]) : Calls Tryz.prog 19 #[.float .f64 4602678819172646912, .agg #[.bool false, .slice a 1 c, .slice b 1 d], .float .f64 4598175219545276416] w fun e w' => ∃ c, e = .returned (.tuple #[.bool true, .int .i64 c]) ∧ Below w.heap.size w w' := by
  refine Calls.mono (within_fin 4602678819172646912 4598175219545276416 false a c [1] b d [3] w ⟨by decide, by decide⟩ ⟨by decide, by decide⟩ hT s.1 s.2) ?_
  rintro e w' ⟨B, k, rfl, h, hb⟩
  rw [within_in h]
  exact ⟨k, rfl, hb⟩
theorem within2 (a : Option Addr) (c : Nat) (b : Option Addr) (d : Nat) (w : World) (hT : TabB w) (s : Sl w (.slice a 1 c) [1] ∧ Sl w (.slice b 1 d) [3]) : Calls Tryz.prog 19 #[.float .f64 4602678819172646912, .agg #[.bool false, .slice a 1 c, .slice b 1 d], .float .f64 4593671619917905920] w fun e w' => ∃ c, e = .returned (.tuple #[.bool false, .int .i64 c]) ∧ Below w.heap.size w w' := by
  refine Calls.mono (within_fin 4602678819172646912 4593671619917905920 false a c [1] b d [3] w ⟨by decide, by decide⟩ ⟨by decide, by decide⟩ hT s.1 s.2) ?_
  rintro e w' ⟨B, k, rfl, h, hb⟩
  rw [within_out h]
  exact ⟨k, rfl, hb⟩
theorem within3 (a : Option Addr) (c : Nat) (b : Option Addr) (d : Nat) (w : World) (hT : TabB w) (s : Sl w (.slice a 1 c) [1] ∧ Sl w (.slice b 1 d) [2]) : Calls Tryz.prog 19 #[.float .f64 4602678819172646912, .agg #[.bool false, .slice a 1 c, .slice b 1 d], .float .f64 13830554455654793216] w fun e w' => ∃ c, e = .returned (.tuple #[.bool false, .int .i64 c]) ∧ Below w.heap.size w w' := by
  refine Calls.mono (within_fin 4602678819172646912 13830554455654793216 false a c [1] b d [2] w ⟨by decide, by decide⟩ ⟨by decide, by decide⟩ hT s.1 s.2) ?_
  rintro e w' ⟨B, k, rfl, h, hb⟩
  rw [within_never h]
  exact ⟨k, rfl, hb⟩
end Go.Proofs.YtfppimlmebnaeaaGreatDoor

/- The table of places, from what the card lays. -/
namespace Go.Proofs.YtfppimlmebnaeaaGreatDoor
open Go.RowKit
set_option linter.unusedVariables false

theorem tabB_of {W : World} {cs : List Value} (hv : W.var? Tryz.prog "math/bits.deBruijn64tab" = some cs.toArray) (e1 : Tryz.prog.globalNamed "math/bits.deBruijn64tab" = some 1) (hcs : cs = (Lib.deBruijn64tab.map fun (n : Nat) => (n : Int)).map fun z => Value.int .u8 z) : TabB W := fun j hj => by
  unfold World.var? at hv
  rw [e1] at hv
  simp only [Option.bind_some] at hv
  unfold World.cell?
  cases hh : W.heap[(1 : Nat)]? with
  | none => rw [hh] at hv; cases hv
  | some o =>
    rw [hh] at hv
    cases o with
    | cells c t m =>
      simp only [Option.some.injEq] at hv
      subst hv
      rw [hcs]
      have hl : j < Lib.deBruijn64tab.length := hj
      simp [List.getElem?_eq_getElem hl, List.getD_eq_getElem?_getD]
    | _ => simp at hv

end Go.Proofs.YtfppimlmebnaeaaGreatDoor

/- RealNames: chapter 6's examples. -/
namespace Go.Proofs.YtfppimlmebnaeaaGreatDoor
open Go.RowKit
set_option linter.unusedVariables false

set_option maxHeartbeats 6400000 in
set_option maxRecDepth 100000 in
theorem realNames_any (w : World) (hT : TabB w) :
    Calls Tryz.prog 3 #[] w fun e w' => e = .returned (.bool true) ∧ Below w.heap.size w w' := by
  have HW0 := hid (Below.refl w.heap.size w)
  have HT : Hid (∀ V, Below w.heap.size w V → TabB V) := fun V hv => hT.later hv
  have HEX : Hid (∀ x V, Fi x → Below w.heap.size w V → Calls Tryz.prog 4 #[.float .f64 x] V (RRet V (fq x))) := fun x V hx hv => rret_exact x V hx (hT.later hv)
  have HE6 : Hid (∀ x V, Fi x → Below w.heap.size w V → Calls Tryz.prog 12 #[.float .f64 x] V (RRet1 V (fq x))) := fun x V hx hv => rret_exact6 x V hx (hT.later hv)
  have HCS := hid csign_zero
  have HNN := hid mNaN_any
  have HIN := hid rnInf_neg
  have HXN := hid rexact_nan
  have HXI := hid rexact_minf
  clear hT
  go_enter Tryz.func3, Tryz.ntmps3
  go_wp2_with fail
  refine Calls.mono (HCS.out _) ?_
  rintro x v ⟨rfl, hv⟩
  rw [hv]
  clear hv v
  go_wp2_with fail
  refine Calls.mono (HEX.out 9223372036854775808 _ ⟨by decide, by decide⟩ HW0.out) ?_
  rintro x w1 ⟨h1, e1, ce1, rs1, p1, cp1, ts1, rfl, S1, K1, hb1⟩
  have HW1 := hid (bt HW0.out hb1)
  clear HW0
  clear hb1
  rw [zero_fq] at K1
  have G1 := hid (Box.made w1 24 #[.bool h1, .slice e1 rs1.length ce1, .slice p1 ts1.length cp1])
  have L1 := hid (alloc_later w1 (.cells #[.bool h1, .slice e1 rs1.length ce1, .slice p1 ts1.length cp1] 24))
  obtain ⟨Y1, hY1⟩ : ∃ Y1, w1.alloc (.cells #[.bool h1, .slice e1 rs1.length ce1, .slice p1 ts1.length cp1] 24) = Y1 := ⟨_, rfl⟩
  rw [hY1] at G1 L1
  have HW2 := hid (bt HW1.out L1.out)
  have S12 := hid (And.intro (S1.out.1.later L1.out) (S1.out.2.later L1.out))
  clear HW1 S1
  go_wp2_with fail
  clear hY1
  refine Calls.mono (HNN.out _) ?_
  rintro x v ⟨rfl, hv⟩
  rw [hv]
  clear hv v
  go_wp2_with fail
  refine Calls.mono (HXN.out _) ?_
  rintro x w2 ⟨rfl, hb2⟩
  have HW3 := hid (bt HW2.out hb2)
  have H13 := hid (G1.out.later hb2 G1.out.lt)
  have S13 := hid (And.intro (S12.out.1.later hb2) (S12.out.2.later hb2))
  clear HW2 G1 S12
  clear hb2
  have G2 := hid (Box.made w2 24 #[.bool false, .slice none 0 0, .slice none 0 0])
  have L2 := hid (alloc_later w2 (.cells #[.bool false, .slice none 0 0, .slice none 0 0] 24))
  obtain ⟨Y2, hY2⟩ : ∃ Y2, w2.alloc (.cells #[.bool false, .slice none 0 0, .slice none 0 0] 24) = Y2 := ⟨_, rfl⟩
  rw [hY2] at G2 L2
  have HW4 := hid (bt HW3.out L2.out)
  have H14 := hid (H13.out.later L2.out H13.out.lt)
  have S14 := hid (And.intro (S13.out.1.later L2.out) (S13.out.2.later L2.out))
  clear HW3 H13 S13
  obtain ⟨⟨zk0, zk1, zk2⟩, ⟨zf0, zf1, zf2⟩, zs0, zs1, zs2⟩ := rn_zero3 G2.out
  go_wp2_with fail
  clear hY2
  clear zk0 zf0 zs0 zk1 zf1 zs1 zk2 zf2 zs2
  refine Calls.mono (HIN.out _) ?_
  rintro x v ⟨rfl, hv⟩
  rw [hv]
  clear hv v
  go_wp2_with fail
  refine Calls.mono (HXI.out _) ?_
  rintro x w3 ⟨rfl, hb3⟩
  have HW5 := hid (bt HW4.out hb3)
  have H15 := hid (H14.out.later hb3 H14.out.lt)
  have S15 := hid (And.intro (S14.out.1.later hb3) (S14.out.2.later hb3))
  clear HW4 H14 S14
  clear hb3
  have G3 := hid (Box.made w3 24 #[.bool false, .slice none 0 0, .slice none 0 0])
  have L3 := hid (alloc_later w3 (.cells #[.bool false, .slice none 0 0, .slice none 0 0] 24))
  obtain ⟨Y3, hY3⟩ : ∃ Y3, w3.alloc (.cells #[.bool false, .slice none 0 0, .slice none 0 0] 24) = Y3 := ⟨_, rfl⟩
  rw [hY3] at G3 L3
  have HW6 := hid (bt HW5.out L3.out)
  have H16 := hid (H15.out.later L3.out H15.out.lt)
  have S16 := hid (And.intro (S15.out.1.later L3.out) (S15.out.2.later L3.out))
  clear HW5 H15 S15
  obtain ⟨⟨zk0, zk1, zk2⟩, ⟨zf0, zf1, zf2⟩, zs0, zs1, zs2⟩ := rn_zero3 G3.out
  go_wp2_with fail
  clear hY3
  clear zk0 zf0 zs0 zk1 zf1 zs1 zk2 zf2 zs2
  refine Calls.mono (HEX.out 1 _ ⟨by decide, by decide⟩ HW6.out) ?_
  rintro x w4 ⟨h4, e4, ce4, rs4, p4, cp4, ts4, rfl, S4, K4, hb4⟩
  have HW7 := hid (bt HW6.out hb4)
  have H17 := hid (H16.out.later hb4 H16.out.lt)
  have S17 := hid (And.intro (S16.out.1.later hb4) (S16.out.2.later hb4))
  clear HW6 H16 S16
  clear hb4
  have K4 : Hid (rchk h4 rs4 ts4 = 0 ∧ rq h4 rs4 ts4 = qLeast) := K4
  have G4 := hid (Box.made w4 24 #[.bool h4, .slice e4 rs4.length ce4, .slice p4 ts4.length cp4])
  have L4 := hid (alloc_later w4 (.cells #[.bool h4, .slice e4 rs4.length ce4, .slice p4 ts4.length cp4] 24))
  obtain ⟨Y4, hY4⟩ : ∃ Y4, w4.alloc (.cells #[.bool h4, .slice e4 rs4.length ce4, .slice p4 ts4.length cp4] 24) = Y4 := ⟨_, rfl⟩
  rw [hY4] at G4 L4
  have HW8 := hid (bt HW7.out L4.out)
  have H18 := hid (H17.out.later L4.out H17.out.lt)
  have S18 := hid (And.intro (S17.out.1.later L4.out) (S17.out.2.later L4.out))
  have S48 := hid (And.intro (S4.out.1.later L4.out) (S4.out.2.later L4.out))
  clear HW7 H17 S17 S4
  have HS3 : Hid (∀ V, Below Y4.heap.size Y4 V → V.cell? ⟨w4.heap.size, 0, none⟩ = some (.bool h4) ∧ V.cell? ⟨w4.heap.size, 1, none⟩ = some (.slice e4 rs4.length ce4) ∧ V.cell? ⟨w4.heap.size, 2, none⟩ = some (.slice p4 ts4.length cp4)) := fun V hv => by
    have h := G4.out.later hv G4.out.lt
    exact ⟨h.cell 0, h.cell 1, h.cell 2⟩
  have HSM : Hid (∀ V, Below Y4.heap.size Y4 V → Calls Tryz.prog 9 #[.int .i64 1, .int .i64 2] V fun e w' => ∃ n a ca xs b cb ys, e = .returned (.agg #[.bool n, .slice a (List.length xs) ca, .slice b (List.length ys) cb]) ∧ Below Y4.heap.size Y4 w' ∧ Below V.heap.size V w' ∧ Hid (RnRow Y4.heap.size w' n a ca xs b cb ys (Rat.divInt 1 2))) := fun V hv => rsmall_reg Y4 1 2 V hv (by omega) (by omega) (by omega) (by omega)
  have HML := hid (rmul_reg Y4 h4 e4 ce4 rs4 p4 cp4 ts4 qLeast (Rat.divInt 1 2) S48.out K4.out nl_half)
  have HD0 := hid (Below.drew (Below.refl Y4.heap.size Y4))
  have hs0 := HS3.out _ HD0.out
  have hlt : w4.heap.size < Y4.heap.size := G4.out.lt
  have n0 : w4.heap.size ≠ Y4.heap.size := Nat.ne_of_lt hlt
  have HWW := hid HW8.out
  go_upto_region 5 with fail
  clear hY4
  go_cut [9, 10] from 82 to 87 (fun s s7 wx => Hid (RnCut Y4 (qLeast * (Rat.divInt 1 2)) s s7 wx))
  case first =>
    go_region_held3 (fun V : World => V.cell? ⟨w4.heap.size, 0, none⟩ = some (.bool h4) ∧ V.cell? ⟨w4.heap.size, 1, none⟩ = some (.slice e4 rs4.length ce4) ∧ V.cell? ⟨w4.heap.size, 2, none⟩ = some (.slice p4 ts4.length cp4)) (first | with_reducible exact hs2 | with_reducible exact hs1 | with_reducible exact hs0 | with_reducible exact rn3_far hs2 n0 _ _ _ | with_reducible exact rn3_far hs2 n1 _ _ _ | with_reducible exact rn3_alloc hs2 _ | with_reducible exact rn3_alloc hs1 _ | with_reducible exact rn3_alloc hs0 _ | with_reducible exact HS3.out _ (Below.drew (below_alloc1 (Below.refl _ _) _)))
      (first
        | (go_at_call 9; (with_reducible refine Calls.mono (HSM.out _ (by first | exact HD0.out | exact below_alloc1 HD0.out _ | exact Below.drew (below_alloc1 (Below.refl _ _) _))) ?_); rintro e z1 ⟨m0, a0, c0, zs, b0, d0, ds, rfl, hb1, hv1, HR1⟩; obtain ⟨fa1, fa2, fa3⟩ := Far.of hv1; have hs1 := HS3.out z1 hb1; have n1 : w4.heap.size ≠ z1.heap.size := Nat.ne_of_lt (Nat.lt_of_lt_of_le hlt hb1.size))
        | (go_at_call 8; (with_reducible refine Calls.mono (HML.out _ m0 a0 c0 zs b0 d0 ds (by first | exact hb1 | exact below_alloc1 hb1 _) (by first | exact HR1.out | exact HR1.out.later (alloc_later _ _))) ?_); rintro e z2 ⟨k, a1, c1, us, b1, d1, vs, code, rfl, hb2, hv2, HR2⟩; obtain ⟨fb1, fb2, fb3⟩ := Far.of hv2; have hs2 := HS3.out z2 hb2))
    all_goals
      clear HSM HML HS3 hs0 hs1 hs2 fa1 fa2 fa3 fb1 fb2 fb3
      go_wp2_with fail
      go_meet
    all_goals first | with_reducible exact hid (rn_new hb2 HR2.out) | with_reducible exact hid (rn_old hb2 HR2.out ((Box.made z1 _ _).later hv2 (Box.made z1 _ _).lt) hb1.size) | exact hid (rn_old hb2 HR2.out (((box_made_drew Y4 _ _).later hv1 (box_made_drew Y4 _ _).lt).later hv2 ((box_made_drew Y4 _ _).later hv1 (box_made_drew Y4 _ _).lt).lt) (Nat.le_refl _))
  case rest =>
    obtain ⟨pb9, h9, e9, ce9, rs9, p9, cp9, ts9, code9, rfl, rfl, hpb, hrow⟩ := hcut.out.ex
    have hbel := hcut.out.bel
    have S9 := hid hrow.sl
    have K9 := hid hrow.2.2.2.2
    have G9 := hid hpb
    obtain ⟨w5, hww⟩ : ∃ v, wc = v := ⟨_, rfl⟩
    rw [hww] at hbel S9 G9 ⊢
    clear hcut hrow hpb hww HS3 HSM HML HD0 hs0 hlt n0 HWW wc
    have HW9 := hid (bt HW8.out hbel)
    have H19 := hid (H18.out.later hbel H18.out.lt)
    have H49 := hid (G4.out.later hbel G4.out.lt)
    have S19 := hid (And.intro (S18.out.1.later hbel) (S18.out.2.later hbel))
    have S49 := hid (And.intro (S48.out.1.later hbel) (S48.out.2.later hbel))
    clear HW8 H18 G4 S18 S48
    clear hbel
    have cl9_0 : w5.cell? ⟨pb9, 0, none⟩ = some (.bool h9) := G9.out.cell 0
    have cl9_1 : w5.cell? ⟨pb9, 1, none⟩ = some (.slice e9 rs9.length ce9) := G9.out.cell 1
    have cl9_2 : w5.cell? ⟨pb9, 2, none⟩ = some (.slice p9 ts9.length cp9) := G9.out.cell 2
    go_wp2_with fail
    refine Calls.mono (rnear_kn h9 e9 ce9 rs9 p9 cp9 ts9 _ S9.out K9.out 0 (Nat.two_pow_pos _) eq_half mid_half (by decide) ⟨by decide, by decide⟩ sv_kn.1) ?_
    rintro x w6 ⟨fx, rfl, qfx, hb⟩
    clear cl9_0 cl9_1 cl9_2
    have HW10 := hid (bt HW9.out hb)
    have H110 := hid (H19.out.later hb H19.out.lt)
    have H410 := hid (H49.out.later hb H49.out.lt)
    have H910 := hid (G9.out.later hb G9.out.lt)
    have S110 := hid (And.intro (S19.out.1.later hb) (S19.out.2.later hb))
    have S410 := hid (And.intro (S49.out.1.later hb) (S49.out.2.later hb))
    have S910 := hid (And.intro (S9.out.1.later hb) (S9.out.2.later hb))
    clear HW9 H19 H49 G9 S19 S49 S9
    clear hb
    have rfx := neq_of qfx
    clear H910 S910
    have HS3 : Hid (∀ V, Below w6.heap.size w6 V → V.cell? ⟨w4.heap.size, 0, none⟩ = some (.bool h4) ∧ V.cell? ⟨w4.heap.size, 1, none⟩ = some (.slice e4 rs4.length ce4) ∧ V.cell? ⟨w4.heap.size, 2, none⟩ = some (.slice p4 ts4.length cp4)) := fun V hv => by
      have h := H410.out.later hv H410.out.lt
      exact ⟨h.cell 0, h.cell 1, h.cell 2⟩
    have HSM : Hid (∀ V, Below w6.heap.size w6 V → Calls Tryz.prog 9 #[.int .i64 3, .int .i64 4] V fun e w' => ∃ n a ca xs b cb ys, e = .returned (.agg #[.bool n, .slice a (List.length xs) ca, .slice b (List.length ys) cb]) ∧ Below w6.heap.size w6 w' ∧ Below V.heap.size V w' ∧ Hid (RnRow w6.heap.size w' n a ca xs b cb ys (Rat.divInt 3 4))) := fun V hv => rsmall_reg w6 3 4 V hv (by omega) (by omega) (by omega) (by omega)
    have HML := hid (rmul_reg w6 h4 e4 ce4 rs4 p4 cp4 ts4 qLeast (Rat.divInt 3 4) S410.out K4.out nl_more)
    have HD0 := hid (Below.drew (Below.refl w6.heap.size w6))
    have hs0 := HS3.out _ HD0.out
    have hlt : w4.heap.size < w6.heap.size := H410.out.lt
    have n0 : w4.heap.size ≠ w6.heap.size := Nat.ne_of_lt hlt
    have HWW := hid HW10.out
    go_upto_region 7 with fail
    go_cut [13, 14] from 93 to 98 (fun s s7 wx => Hid (RnCut w6 (qLeast * (Rat.divInt 3 4)) s s7 wx))
    case first =>
      go_region_held3 (fun V : World => V.cell? ⟨w4.heap.size, 0, none⟩ = some (.bool h4) ∧ V.cell? ⟨w4.heap.size, 1, none⟩ = some (.slice e4 rs4.length ce4) ∧ V.cell? ⟨w4.heap.size, 2, none⟩ = some (.slice p4 ts4.length cp4)) (first | with_reducible exact hs2 | with_reducible exact hs1 | with_reducible exact hs0 | with_reducible exact rn3_far hs2 n0 _ _ _ | with_reducible exact rn3_far hs2 n1 _ _ _ | with_reducible exact rn3_alloc hs2 _ | with_reducible exact rn3_alloc hs1 _ | with_reducible exact rn3_alloc hs0 _ | with_reducible exact HS3.out _ (Below.drew (below_alloc1 (Below.refl _ _) _)))
        (first
          | (go_at_call 9; (with_reducible refine Calls.mono (HSM.out _ (by first | exact HD0.out | exact below_alloc1 HD0.out _ | exact Below.drew (below_alloc1 (Below.refl _ _) _))) ?_); rintro e z1 ⟨m0, a0, c0, zs, b0, d0, ds, rfl, hb1, hv1, HR1⟩; obtain ⟨fa1, fa2, fa3⟩ := Far.of hv1; have hs1 := HS3.out z1 hb1; have n1 : w4.heap.size ≠ z1.heap.size := Nat.ne_of_lt (Nat.lt_of_lt_of_le hlt hb1.size))
          | (go_at_call 8; (with_reducible refine Calls.mono (HML.out _ m0 a0 c0 zs b0 d0 ds (by first | exact hb1 | exact below_alloc1 hb1 _) (by first | exact HR1.out | exact HR1.out.later (alloc_later _ _))) ?_); rintro e z2 ⟨k, a1, c1, us, b1, d1, vs, code, rfl, hb2, hv2, HR2⟩; obtain ⟨fb1, fb2, fb3⟩ := Far.of hv2; have hs2 := HS3.out z2 hb2))
      all_goals
        clear HSM HML HS3 hs0 hs1 hs2 fa1 fa2 fa3 fb1 fb2 fb3
        go_wp2_with fail
        go_meet
      all_goals first | with_reducible exact hid (rn_new hb2 HR2.out) | with_reducible exact hid (rn_old hb2 HR2.out ((Box.made z1 _ _).later hv2 (Box.made z1 _ _).lt) hb1.size) | exact hid (rn_old hb2 HR2.out (((box_made_drew w6 _ _).later hv1 (box_made_drew w6 _ _).lt).later hv2 ((box_made_drew w6 _ _).later hv1 (box_made_drew w6 _ _).lt).lt) (Nat.le_refl _))
    case rest =>
      obtain ⟨pb13, h13, e13, ce13, rs13, p13, cp13, ts13, code13, rfl, rfl, hpb, hrow⟩ := hcut.out.ex
      have hbel := hcut.out.bel
      have S13 := hid hrow.sl
      have K13 := hid hrow.2.2.2.2
      have G13 := hid hpb
      obtain ⟨w7, hww⟩ : ∃ v, wc = v := ⟨_, rfl⟩
      rw [hww] at hbel S13 G13 ⊢
      clear hcut hrow hpb hww HS3 HSM HML HD0 hs0 hlt n0 HWW wc
      have HW11 := hid (bt HW10.out hbel)
      have H111 := hid (H110.out.later hbel H110.out.lt)
      have H411 := hid (H410.out.later hbel H410.out.lt)
      have S111 := hid (And.intro (S110.out.1.later hbel) (S110.out.2.later hbel))
      have S411 := hid (And.intro (S410.out.1.later hbel) (S410.out.2.later hbel))
      clear HW10 H110 H410 S110 S410
      clear hbel
      have cl13_0 : w7.cell? ⟨pb13, 0, none⟩ = some (.bool h13) := G13.out.cell 0
      have cl13_1 : w7.cell? ⟨pb13, 1, none⟩ = some (.slice e13 rs13.length ce13) := G13.out.cell 1
      have cl13_2 : w7.cell? ⟨pb13, 2, none⟩ = some (.slice p13 ts13.length cp13) := G13.out.cell 2
      go_wp2_with fail
      refine Calls.mono (rnear_kn h13 e13 ce13 rs13 p13 cp13 ts13 _ S13.out K13.out 1 (Nat.two_pow_pos _) eq_more mid_more (by decide) ⟨by decide, by decide⟩ sv_kn.2.1) ?_
      rintro x w8 ⟨fy, rfl, qfy, hb⟩
      clear cl13_0 cl13_1 cl13_2
      have HW12 := hid (bt HW11.out hb)
      have H112 := hid (H111.out.later hb H111.out.lt)
      have H412 := hid (H411.out.later hb H411.out.lt)
      have H1312 := hid (G13.out.later hb G13.out.lt)
      have S112 := hid (And.intro (S111.out.1.later hb) (S111.out.2.later hb))
      have S412 := hid (And.intro (S411.out.1.later hb) (S411.out.2.later hb))
      have S1312 := hid (And.intro (S13.out.1.later hb) (S13.out.2.later hb))
      clear HW11 H111 H411 G13 S111 S411 S13
      clear hb
      have rfy := neq_of qfy
      clear H1312 S1312
      have HS3 : Hid (∀ V, Below w8.heap.size w8 V → V.cell? ⟨w4.heap.size, 0, none⟩ = some (.bool h4) ∧ V.cell? ⟨w4.heap.size, 1, none⟩ = some (.slice e4 rs4.length ce4) ∧ V.cell? ⟨w4.heap.size, 2, none⟩ = some (.slice p4 ts4.length cp4)) := fun V hv => by
        have h := H412.out.later hv H412.out.lt
        exact ⟨h.cell 0, h.cell 1, h.cell 2⟩
      have HSM : Hid (∀ V, Below w8.heap.size w8 V → Calls Tryz.prog 9 #[.int .i64 (-1), .int .i64 4] V fun e w' => ∃ n a ca xs b cb ys, e = .returned (.agg #[.bool n, .slice a (List.length xs) ca, .slice b (List.length ys) cb]) ∧ Below w8.heap.size w8 w' ∧ Below V.heap.size V w' ∧ Hid (RnRow w8.heap.size w' n a ca xs b cb ys (Rat.divInt (-1) 4))) := fun V hv => rsmall_reg w8 (-1) 4 V hv (by omega) (by omega) (by omega) (by omega)
      have HML := hid (rmul_reg w8 h4 e4 ce4 rs4 p4 cp4 ts4 qLeast (Rat.divInt (-1) 4) S412.out K4.out nl_minus)
      have HD0 := hid (Below.drew (Below.refl w8.heap.size w8))
      have hs0 := HS3.out _ HD0.out
      have hlt : w4.heap.size < w8.heap.size := H412.out.lt
      have n0 : w4.heap.size ≠ w8.heap.size := Nat.ne_of_lt hlt
      have HWW := hid HW12.out
      go_upto_region 9 with fail
      go_cut [17, 18] from 104 to 109 (fun s s7 wx => Hid (RnCut w8 (qLeast * (Rat.divInt (-1) 4)) s s7 wx))
      case first =>
        go_region_held3 (fun V : World => V.cell? ⟨w4.heap.size, 0, none⟩ = some (.bool h4) ∧ V.cell? ⟨w4.heap.size, 1, none⟩ = some (.slice e4 rs4.length ce4) ∧ V.cell? ⟨w4.heap.size, 2, none⟩ = some (.slice p4 ts4.length cp4)) (first | with_reducible exact hs2 | with_reducible exact hs1 | with_reducible exact hs0 | with_reducible exact rn3_far hs2 n0 _ _ _ | with_reducible exact rn3_far hs2 n1 _ _ _ | with_reducible exact rn3_alloc hs2 _ | with_reducible exact rn3_alloc hs1 _ | with_reducible exact rn3_alloc hs0 _ | with_reducible exact HS3.out _ (Below.drew (below_alloc1 (Below.refl _ _) _)))
          (first
            | (go_at_call 9; (with_reducible refine Calls.mono (HSM.out _ (by first | exact HD0.out | exact below_alloc1 HD0.out _ | exact Below.drew (below_alloc1 (Below.refl _ _) _))) ?_); rintro e z1 ⟨m0, a0, c0, zs, b0, d0, ds, rfl, hb1, hv1, HR1⟩; obtain ⟨fa1, fa2, fa3⟩ := Far.of hv1; have hs1 := HS3.out z1 hb1; have n1 : w4.heap.size ≠ z1.heap.size := Nat.ne_of_lt (Nat.lt_of_lt_of_le hlt hb1.size))
            | (go_at_call 8; (with_reducible refine Calls.mono (HML.out _ m0 a0 c0 zs b0 d0 ds (by first | exact hb1 | exact below_alloc1 hb1 _) (by first | exact HR1.out | exact HR1.out.later (alloc_later _ _))) ?_); rintro e z2 ⟨k, a1, c1, us, b1, d1, vs, code, rfl, hb2, hv2, HR2⟩; obtain ⟨fb1, fb2, fb3⟩ := Far.of hv2; have hs2 := HS3.out z2 hb2))
        all_goals
          clear HSM HML HS3 hs0 hs1 hs2 fa1 fa2 fa3 fb1 fb2 fb3
          go_wp2_with fail
          go_meet
        all_goals first | with_reducible exact hid (rn_new hb2 HR2.out) | with_reducible exact hid (rn_old hb2 HR2.out ((Box.made z1 _ _).later hv2 (Box.made z1 _ _).lt) hb1.size) | exact hid (rn_old hb2 HR2.out (((box_made_drew w8 _ _).later hv1 (box_made_drew w8 _ _).lt).later hv2 ((box_made_drew w8 _ _).later hv1 (box_made_drew w8 _ _).lt).lt) (Nat.le_refl _))
      case rest =>
        obtain ⟨pb17, h17, e17, ce17, rs17, p17, cp17, ts17, code17, rfl, rfl, hpb, hrow⟩ := hcut.out.ex
        have hbel := hcut.out.bel
        have S17 := hid hrow.sl
        have K17 := hid hrow.2.2.2.2
        have G17 := hid hpb
        obtain ⟨w9, hww⟩ : ∃ v, wc = v := ⟨_, rfl⟩
        rw [hww] at hbel S17 G17 ⊢
        clear hcut hrow hpb hww HS3 HSM HML HD0 hs0 hlt n0 HWW wc
        have HW13 := hid (bt HW12.out hbel)
        have H113 := hid (H112.out.later hbel H112.out.lt)
        have H413 := hid (H412.out.later hbel H412.out.lt)
        have S113 := hid (And.intro (S112.out.1.later hbel) (S112.out.2.later hbel))
        have S413 := hid (And.intro (S412.out.1.later hbel) (S412.out.2.later hbel))
        clear HW12 H112 H412 S112 S412
        clear hbel
        have cl17_0 : w9.cell? ⟨pb17, 0, none⟩ = some (.bool h17) := G17.out.cell 0
        have cl17_1 : w9.cell? ⟨pb17, 1, none⟩ = some (.slice e17 rs17.length ce17) := G17.out.cell 1
        have cl17_2 : w9.cell? ⟨pb17, 2, none⟩ = some (.slice p17 ts17.length cp17) := G17.out.cell 2
        go_wp2_with fail
        refine Calls.mono (rnear_kn h17 e17 ce17 rs17 p17 cp17 ts17 _ S17.out K17.out 0 (Nat.two_pow_pos _) eq_minus mid_quarter (by decide) ⟨by decide, by decide⟩ sv_kn.2.2.1) ?_
        rintro x w10 ⟨fz, rfl, qfz, hb⟩
        clear cl17_0 cl17_1 cl17_2
        have HW14 := hid (bt HW13.out hb)
        have H114 := hid (H113.out.later hb H113.out.lt)
        have H414 := hid (H413.out.later hb H413.out.lt)
        have H1714 := hid (G17.out.later hb G17.out.lt)
        have S114 := hid (And.intro (S113.out.1.later hb) (S113.out.2.later hb))
        have S414 := hid (And.intro (S413.out.1.later hb) (S413.out.2.later hb))
        have S1714 := hid (And.intro (S17.out.1.later hb) (S17.out.2.later hb))
        clear HW13 H113 H413 G17 S113 S413 S17
        clear hb
        have rfz := neq_of qfz
        clear H1714 S1714
        clear H414 S414
        go_wp2_with fail
        refine Calls.mono (rret_small 9007199254740993 1 _ (by decide) (by decide) (by decide) (by decide)) ?_
        rintro x w11 ⟨h11, e11, ce11, rs11, p11, cp11, ts11, rfl, S11, K11, hb11⟩
        have HW15 := hid (bt HW14.out hb11)
        have H115 := hid (H114.out.later hb11 H114.out.lt)
        have S115 := hid (And.intro (S114.out.1.later hb11) (S114.out.2.later hb11))
        clear HW14 H114 S114
        clear hb11
        go_wp2_with fail
        refine Calls.mono (rnear_kn h11 e11 ce11 rs11 p11 cp11 ts11 _ S11.out K11.out 4845873199050653696 (by decide) eq_odd1 mid_odd1 (by decide) ⟨by decide, by decide⟩ sv_kn.2.2.2.1) ?_
        rintro x w12 ⟨fm, rfl, qfm, hb⟩
        have HW16 := hid (bt HW15.out hb)
        have H116 := hid (H115.out.later hb H115.out.lt)
        have S116 := hid (And.intro (S115.out.1.later hb) (S115.out.2.later hb))
        have S1116 := hid (And.intro (S11.out.1.later hb) (S11.out.2.later hb))
        clear HW15 H115 S115 S11
        clear hb
        have rfm := neq_of qfm
        clear S1116 K11
        go_wp2_with fail
        refine Calls.mono (rret_small 9007199254740995 1 _ (by decide) (by decide) (by decide) (by decide)) ?_
        rintro x w13 ⟨h12, e12, ce12, rs12, p12, cp12, ts12, rfl, S12, K12, hb12⟩
        have HW17 := hid (bt HW16.out hb12)
        have H117 := hid (H116.out.later hb12 H116.out.lt)
        have S117 := hid (And.intro (S116.out.1.later hb12) (S116.out.2.later hb12))
        clear HW16 H116 S116
        clear hb12
        go_wp2_with fail
        refine Calls.mono (rnear_kn h12 e12 ce12 rs12 p12 cp12 ts12 _ S12.out K12.out 4845873199050653698 (by decide) eq_odd3 mid_odd3 (by decide) ⟨by decide, by decide⟩ sv_kn.2.2.2.2.1) ?_
        rintro x w14 ⟨fn, rfl, qfn, hb⟩
        have HW18 := hid (bt HW17.out hb)
        have H118 := hid (H117.out.later hb H117.out.lt)
        have S118 := hid (And.intro (S117.out.1.later hb) (S117.out.2.later hb))
        have S1218 := hid (And.intro (S12.out.1.later hb) (S12.out.2.later hb))
        clear HW17 H117 S117 S12
        clear hb
        have rfn := neq_of qfn
        clear S1218 K12
        have HK : Hid (∀ V, Below w14.heap.size w14 V → V.cell? ⟨w1.heap.size, 0, none⟩ = some (.bool h1) ∧ V.cell? ⟨w1.heap.size, 1, none⟩ = some (.slice e1 rs1.length ce1) ∧ V.cell? ⟨w1.heap.size, 2, none⟩ = some (.slice p1 ts1.length cp1)) := fun V hv => by
          have h := H118.out.later hv H118.out.lt
          exact ⟨h.cell 0, h.cell 1, h.cell 2⟩
        have HD := hid (Below.drew (Below.refl w14.heap.size w14))
        have hs0 := HK.out _ HD.out
        have HS2 : Hid (∀ V, Below w14.heap.size w14 V → Calls Tryz.prog 9 #[.int .i64 0, .int .i64 1] V fun e w' => ∃ h' e' ce' rs' p' cp' ts', e = .returned (.agg #[.bool h', .slice e' (List.length rs') ce', .slice p' (List.length ts') cp']) ∧ (w'.cell? ⟨w1.heap.size, 0, none⟩ = some (.bool h1) ∧ w'.cell? ⟨w1.heap.size, 1, none⟩ = some (.slice e1 rs1.length ce1) ∧ w'.cell? ⟨w1.heap.size, 2, none⟩ = some (.slice p1 ts1.length cp1)) ∧ Hid ((Sl w' (.slice e' rs'.length ce') rs' ∧ Sl w' (.slice p' ts'.length cp') ts') ∧ rchk h' rs' ts' = 0 ∧ rq h' rs' ts' = Rat.divInt 0 1) ∧ Hid (Below w14.heap.size w14 w')) := fun V hv => by
          refine Calls.mono (rret_small 0 1 V (by decide) (by decide) (by decide) (by decide)) ?_
          rintro e w' ⟨h', e', ce', rs', p', cp', ts', rfl, S, K, hb⟩
          exact ⟨h', e', ce', rs', p', cp', ts', rfl, HK.out w' (bt hv hb), ⟨S.out, K.out⟩, bt hv hb⟩
        have HSM : Hid (∀ V h' e' ce' (rs' : List Int) p' cp' (ts' : List Int), Below w14.heap.size w14 V → ((Sl V (.slice e' rs'.length ce') rs' ∧ Sl V (.slice p' ts'.length cp') ts') ∧ rchk h' rs' ts' = 0 ∧ rq h' rs' ts' = Rat.divInt 0 1) → Calls Tryz.prog 11 #[.agg #[.bool h1, .slice e1 rs1.length ce1, .slice p1 ts1.length cp1], .agg #[.bool h', .slice e' (List.length rs') ce', .slice p' (List.length ts') cp']] V fun e w' => e = .returned (.bool true) ∧ (w'.cell? ⟨w1.heap.size, 0, none⟩ = some (.bool h1) ∧ w'.cell? ⟨w1.heap.size, 1, none⟩ = some (.slice e1 rs1.length ce1) ∧ w'.cell? ⟨w1.heap.size, 2, none⟩ = some (.slice p1 ts1.length cp1)) ∧ Hid (Below w14.heap.size w14 w')) := fun V h' e' ce' rs' p' cp' ts' hv hh => by
          refine Calls.mono (rret_same h1 e1 ce1 rs1 p1 cp1 ts1 h' e' ce' rs' p' cp' ts' V _ ⟨S118.out.1.later hv, S118.out.2.later hv⟩ hh.1 K1.out hh.2) ?_
          rintro e w' ⟨rfl, hb⟩
          exact ⟨rfl, HK.out w' (bt hv hb), bt hv hb⟩
        go_upto_region 13 with fail
        go_cut [184] from 125 to 183 (fun s wx => s = .bool false ∧ Hid (Below w14.heap.size w14 wx))
        case first =>
          go_region_held3 (fun V : World => V.cell? ⟨w1.heap.size, 0, none⟩ = some (.bool h1) ∧ V.cell? ⟨w1.heap.size, 1, none⟩ = some (.slice e1 rs1.length ce1) ∧ V.cell? ⟨w1.heap.size, 2, none⟩ = some (.slice p1 ts1.length cp1)) (first | with_reducible exact hsB | with_reducible exact hsA | with_reducible exact hs0)
            (first
              | (go_at_call 9; (with_reducible refine Calls.mono (HS2.out _ HD.out) ?_); rintro e z1 ⟨h', e', ce', rs', p', cp', ts', rfl, hsA, HSA, HBA⟩)
              | (go_at_call 11; (with_reducible refine Calls.mono (HSM.out _ h' e' ce' rs' p' cp' ts' HBA.out HSA.out) ?_); rintro e z2 ⟨rfl, hsB, HBB⟩))
          all_goals
            go_wp2_with fail
            go_meet
          all_goals exact ⟨rfl, HBB⟩
        case rest =>
          obtain ⟨rfl, hbc⟩ := hcut
          have hbel := hbc.out
          obtain ⟨w15, hww⟩ : ∃ v, wc = v := ⟨_, rfl⟩
          rw [hww] at hbel ⊢
          clear hbc hww HK HD hs0 HS2 HSM qfx rfx qfy rfy qfz rfz qfm rfm qfn rfn wc
          have HW19 := hid (bt HW18.out hbel)
          have H119 := hid (H118.out.later hbel H118.out.lt)
          have S119 := hid (And.intro (S118.out.1.later hbel) (S118.out.2.later hbel))
          clear HW18 H118 S118
          clear hbel
          clear H119 S119
          clear K1
          go_wp2_with fail
          refine Calls.mono (HE6.out 9218868437227405311 _ ⟨by decide, by decide⟩ HW19.out) ?_
          rintro x w16 ⟨h25, e25, ce25, rs25, p25, cp25, ts25, rfl, S25, K25, hb⟩
          have HW20 := hid (bt HW19.out hb)
          clear HW19
          clear hb
          have K25 : Hid (rchk h25 rs25 ts25 = 0 ∧ rq h25 rs25 ts25 = qTop) := K25
          have G25 := hid (Box.made w16 24 #[.bool h25, .slice e25 rs25.length ce25, .slice p25 ts25.length cp25])
          have L25 := hid (alloc_later w16 (.cells #[.bool h25, .slice e25 rs25.length ce25, .slice p25 ts25.length cp25] 24))
          obtain ⟨Y25, hY25⟩ : ∃ Y25, w16.alloc (.cells #[.bool h25, .slice e25 rs25.length ce25, .slice p25 ts25.length cp25] 24) = Y25 := ⟨_, rfl⟩
          rw [hY25] at G25 L25
          have HW21 := hid (bt HW20.out L25.out)
          have S2521 := hid (And.intro (S25.out.1.later L25.out) (S25.out.2.later L25.out))
          clear HW20 S25
          go_wp2_with fail
          refine Calls.mono (gap_top _) ?_
          rintro x w17 ⟨G, rfl, HG, qG, hb⟩
          have HW22 := hid (bt HW21.out hb)
          have H2522 := hid (G25.out.later hb G25.out.lt)
          have S2522 := hid (And.intro (S2521.out.1.later hb) (S2521.out.2.later hb))
          clear HW21 G25 S2521
          clear hb hY25
          go_wp2_with fail
          refine Calls.mono (HE6.out G _ HG.out.1 HW22.out) ?_
          rintro x w18 ⟨h26, e26, ce26, rs26, p26, cp26, ts26, rfl, S26, K26, hb⟩
          have HW23 := hid (bt HW22.out hb)
          have H2523 := hid (H2522.out.later hb H2522.out.lt)
          have S2523 := hid (And.intro (S2522.out.1.later hb) (S2522.out.2.later hb))
          clear HW22 H2522 S2522
          clear hb
          rw [HG.out.2] at K26
          go_wp2_with fail
          refine Calls.mono (rret_small 4 1 _ (by decide) (by decide) (by decide) (by decide)) ?_
          rintro x w19 ⟨h27, e27, ce27, rs27, p27, cp27, ts27, rfl, S27, K27, hb27⟩
          have HW24 := hid (bt HW23.out hb27)
          have H2524 := hid (H2523.out.later hb27 H2523.out.lt)
          have S2524 := hid (And.intro (S2523.out.1.later hb27) (S2523.out.2.later hb27))
          have S2624 := hid (And.intro (S26.out.1.later hb27) (S26.out.2.later hb27))
          clear HW23 H2523 S2523 S26
          clear hb27
          go_wp2_with fail
          refine Calls.mono (rret_quo h26 e26 ce26 rs26 p26 cp26 ts26 h27 e27 ce27 rs27 p27 cp27 ts27 _ _ _ S2624.out S27.out K26.out K27.out four_ne nl_quart) ?_
          rintro x w20 ⟨h28, e28, ce28, rs28, p28, cp28, ts28, rfl, S28, K28, hb⟩
          have HW25 := hid (bt HW24.out hb)
          have H2525 := hid (H2524.out.later hb H2524.out.lt)
          have S2525 := hid (And.intro (S2524.out.1.later hb) (S2524.out.2.later hb))
          have S2625 := hid (And.intro (S2624.out.1.later hb) (S2624.out.2.later hb))
          have S2725 := hid (And.intro (S27.out.1.later hb) (S27.out.2.later hb))
          clear HW24 H2524 S2524 S2624 S27
          clear hb S2625 S2725 K26 K27 HG
          have K28 : Hid (rchk h28 rs28 ts28 = 0 ∧ rq h28 rs28 ts28 = qQuart) := K28
          have G28 := hid (Box.made w20 24 #[.bool h28, .slice e28 rs28.length ce28, .slice p28 ts28.length cp28])
          have L28 := hid (alloc_later w20 (.cells #[.bool h28, .slice e28 rs28.length ce28, .slice p28 ts28.length cp28] 24))
          obtain ⟨Y28, hY28⟩ : ∃ Y28, w20.alloc (.cells #[.bool h28, .slice e28 rs28.length ce28, .slice p28 ts28.length cp28] 24) = Y28 := ⟨_, rfl⟩
          rw [hY28] at G28 L28
          have HW26 := hid (bt HW25.out L28.out)
          have H2526 := hid (H2525.out.later L28.out H2525.out.lt)
          have S2526 := hid (And.intro (S2525.out.1.later L28.out) (S2525.out.2.later L28.out))
          have S2826 := hid (And.intro (S28.out.1.later L28.out) (S28.out.2.later L28.out))
          clear HW25 H2525 S2525 S28
          have cl25_0 : Y28.cell? ⟨w16.heap.size, 0, none⟩ = some (.bool h25) := H2526.out.cell 0
          have cl25_1 : Y28.cell? ⟨w16.heap.size, 1, none⟩ = some (.slice e25 rs25.length ce25) := H2526.out.cell 1
          have cl25_2 : Y28.cell? ⟨w16.heap.size, 2, none⟩ = some (.slice p25 ts25.length cp25) := H2526.out.cell 2
          have cl28_0 : Y28.cell? ⟨w20.heap.size, 0, none⟩ = some (.bool h28) := G28.out.cell 0
          have cl28_1 : Y28.cell? ⟨w20.heap.size, 1, none⟩ = some (.slice e28 rs28.length ce28) := G28.out.cell 1
          have cl28_2 : Y28.cell? ⟨w20.heap.size, 2, none⟩ = some (.slice p28 ts28.length cp28) := G28.out.cell 2
          go_wp2_with fail
          refine Calls.mono (rret_add h25 e25 ce25 rs25 p25 cp25 ts25 h28 e28 ce28 rs28 p28 cp28 ts28 _ _ _ S2526.out S2826.out K25.out K28.out nl_below) ?_
          rintro x w21 ⟨h30, e30, ce30, rs30, p30, cp30, ts30, rfl, S30, K30, hb⟩
          clear cl25_0 cl25_1 cl25_2 cl28_0 cl28_1 cl28_2
          have HW27 := hid (bt HW26.out hb)
          have H2527 := hid (H2526.out.later hb H2526.out.lt)
          have H2827 := hid (G28.out.later hb G28.out.lt)
          have S2527 := hid (And.intro (S2526.out.1.later hb) (S2526.out.2.later hb))
          have S2827 := hid (And.intro (S2826.out.1.later hb) (S2826.out.2.later hb))
          clear HW26 H2526 G28 S2526 S2826
          clear hb hY28
          have K30 : Hid (rchk h30 rs30 ts30 = 0 ∧ rq h30 rs30 ts30 = qBelow) := K30
          clear H2527 S2527
          clear K25
          have G30 := hid (Box.made w21 24 #[.bool h30, .slice e30 rs30.length ce30, .slice p30 ts30.length cp30])
          have L30 := hid (alloc_later w21 (.cells #[.bool h30, .slice e30 rs30.length ce30, .slice p30 ts30.length cp30] 24))
          obtain ⟨Y30, hY30⟩ : ∃ Y30, w21.alloc (.cells #[.bool h30, .slice e30 rs30.length ce30, .slice p30 ts30.length cp30] 24) = Y30 := ⟨_, rfl⟩
          rw [hY30] at G30 L30
          have HW28 := hid (bt HW27.out L30.out)
          have H2828 := hid (H2827.out.later L30.out H2827.out.lt)
          have S2828 := hid (And.intro (S2827.out.1.later L30.out) (S2827.out.2.later L30.out))
          have S3028 := hid (And.intro (S30.out.1.later L30.out) (S30.out.2.later L30.out))
          clear HW27 H2827 S2827 S30
          have cl30_0 : Y30.cell? ⟨w21.heap.size, 0, none⟩ = some (.bool h30) := G30.out.cell 0
          have cl30_1 : Y30.cell? ⟨w21.heap.size, 1, none⟩ = some (.slice e30 rs30.length ce30) := G30.out.cell 1
          have cl30_2 : Y30.cell? ⟨w21.heap.size, 2, none⟩ = some (.slice p30 ts30.length cp30) := G30.out.cell 2
          have cl28_0 : Y30.cell? ⟨w20.heap.size, 0, none⟩ = some (.bool h28) := H2828.out.cell 0
          have cl28_1 : Y30.cell? ⟨w20.heap.size, 1, none⟩ = some (.slice e28 rs28.length ce28) := H2828.out.cell 1
          have cl28_2 : Y30.cell? ⟨w20.heap.size, 2, none⟩ = some (.slice p28 ts28.length cp28) := H2828.out.cell 2
          go_wp2_with fail
          refine Calls.mono (rret_add h30 e30 ce30 rs30 p30 cp30 ts30 h28 e28 ce28 rs28 p28 cp28 ts28 _ _ _ S3028.out S2828.out K30.out K28.out nl_edge) ?_
          rintro x w22 ⟨h32, e32, ce32, rs32, p32, cp32, ts32, rfl, S32, K32, hb⟩
          clear cl30_0 cl30_1 cl30_2 cl28_0 cl28_1 cl28_2
          have HW29 := hid (bt HW28.out hb)
          have H2829 := hid (H2828.out.later hb H2828.out.lt)
          have H3029 := hid (G30.out.later hb G30.out.lt)
          have S2829 := hid (And.intro (S2828.out.1.later hb) (S2828.out.2.later hb))
          have S3029 := hid (And.intro (S3028.out.1.later hb) (S3028.out.2.later hb))
          clear HW28 H2828 G30 S2828 S3028
          clear hb hY30
          have K32 : Hid (rchk h32 rs32 ts32 = 0 ∧ rq h32 rs32 ts32 = qEdge) := K32
          clear H2829 S2829
          clear K28
          have G32 := hid (Box.made w22 24 #[.bool h32, .slice e32 rs32.length ce32, .slice p32 ts32.length cp32])
          have L32 := hid (alloc_later w22 (.cells #[.bool h32, .slice e32 rs32.length ce32, .slice p32 ts32.length cp32] 24))
          obtain ⟨Y32, hY32⟩ : ∃ Y32, w22.alloc (.cells #[.bool h32, .slice e32 rs32.length ce32, .slice p32 ts32.length cp32] 24) = Y32 := ⟨_, rfl⟩
          rw [hY32] at G32 L32
          have HW30 := hid (bt HW29.out L32.out)
          have H3030 := hid (H3029.out.later L32.out H3029.out.lt)
          have S3030 := hid (And.intro (S3029.out.1.later L32.out) (S3029.out.2.later L32.out))
          have S3230 := hid (And.intro (S32.out.1.later L32.out) (S32.out.2.later L32.out))
          clear HW29 H3029 S3029 S32
          have cl30_0 : Y32.cell? ⟨w21.heap.size, 0, none⟩ = some (.bool h30) := H3030.out.cell 0
          have cl30_1 : Y32.cell? ⟨w21.heap.size, 1, none⟩ = some (.slice e30 rs30.length ce30) := H3030.out.cell 1
          have cl30_2 : Y32.cell? ⟨w21.heap.size, 2, none⟩ = some (.slice p30 ts30.length cp30) := H3030.out.cell 2
          go_wp2_with fail
          refine Calls.mono (rnear_kn h30 e30 ce30 rs30 p30 cp30 ts30 _ S3030.out K30.out 9218868437227405311 (by decide) eq_below mid_below (by decide) ⟨by decide, by decide⟩ sv_kn.2.2.2.2.2) ?_
          rintro x w23 ⟨fp, rfl, qfp, hb⟩
          clear cl30_0 cl30_1 cl30_2
          have HW31 := hid (bt HW30.out hb)
          have H3031 := hid (H3030.out.later hb H3030.out.lt)
          have H3231 := hid (G32.out.later hb G32.out.lt)
          have S3031 := hid (And.intro (S3030.out.1.later hb) (S3030.out.2.later hb))
          have S3231 := hid (And.intro (S3230.out.1.later hb) (S3230.out.2.later hb))
          clear HW30 H3030 G32 S3030 S3230
          clear hb
          have rfp := neq_of qfp
          clear hY32
          clear H3031 S3031
          have cl32_0 : w23.cell? ⟨w22.heap.size, 0, none⟩ = some (.bool h32) := H3231.out.cell 0
          have cl32_1 : w23.cell? ⟨w22.heap.size, 1, none⟩ = some (.slice e32 rs32.length ce32) := H3231.out.cell 1
          have cl32_2 : w23.cell? ⟨w22.heap.size, 2, none⟩ = some (.slice p32 ts32.length cp32) := H3231.out.cell 2
          go_wp2_with fail
          refine Calls.mono (rnear_over h32 e32 ce32 rs32 p32 cp32 ts32 _ S3231.out K32.out (by decide) eq_edge mid_edge (by decide)) ?_
          rintro x w24 ⟨fr, rfl, hb⟩
          clear cl32_0 cl32_1 cl32_2
          have HW32 := hid (bt HW31.out hb)
          have H3232 := hid (H3231.out.later hb H3231.out.lt)
          have S3232 := hid (And.intro (S3231.out.1.later hb) (S3231.out.2.later hb))
          clear HW31 H3231 S3231
          clear hb
          clear H3232 S3232
          clear K30 K32
          go_wp2_with fail
          refine Calls.mono (next_top _) ?_
          rintro x w25 ⟨rfl, hb⟩
          have HW33 := hid (bt HW32.out hb)
          clear HW32
          clear hb
          have t1 : (FloatKind.f64.format.order 1 1 == some .eq) = true := by decide +kernel
          have t0 : (FloatKind.f64.format.order 0 0 == some .eq) = true := by decide +kernel
          have tm : (FloatKind.f64.format.order 13830554455654793215 13830554455654793215 == some .eq) = true := by decide +kernel
          have t60 : (FloatKind.f64.format.order 4336966441157787648 4336966441157787648 == some .eq) = true := by decide +kernel
          go_wp2_with fail
          refine Calls.mono (next_nought _) ?_
          rintro x w26 ⟨rfl, hb⟩
          have HW34 := hid (bt HW33.out hb)
          clear HW33
          clear hb
          go_wp2_with fail
          refine Calls.mono (next_least _) ?_
          rintro x w27 ⟨rfl, hb⟩
          have HW35 := hid (bt HW34.out hb)
          clear HW34
          clear hb
          go_wp2_with fail
          refine Calls.mono (next_minus _) ?_
          rintro x w28 ⟨rfl, hb⟩
          have HW36 := hid (bt HW35.out hb)
          clear HW35
          clear hb
          go_wp2_with fail
          refine Calls.mono (twosum_over _) ?_
          rintro x w29 ⟨rfl, hb⟩
          have HW37 := hid (bt HW36.out hb)
          clear HW36
          clear hb
          have HFa := hid (FBox.made w29 28 #[.float .f64 4607182418800017408, .float .f64 4336966441157787648, .float .f64 13830554455654793216])
          have HLa := hid (alloc_later w29 (.cells #[.float .f64 4607182418800017408, .float .f64 4336966441157787648, .float .f64 13830554455654793216] 28))
          go_wp2_with fail
          refine Calls.mono (rs_three _ _ HFa.out) ?_
          generalize w29.alloc (.cells #[.float .f64 4607182418800017408, .float .f64 4336966441157787648, .float .f64 13830554455654793216] 28) = Za at *
          have HW38 := hid (bt HW37.out HLa.out)
          clear HW37
          rintro x w30 ⟨rfl, hb⟩
          have HW39 := hid (bt HW38.out hb)
          clear HW38
          clear hb HFa HLa
          have G52 := hid (Box.made w30 42 #[.int .i64 0, .int .i64 0])
          have L52 := hid (alloc_later w30 (.cells #[.int .i64 0, .int .i64 0] 42))
          obtain ⟨Y52, hY52⟩ : ∃ Y52, w30.alloc (.cells #[.int .i64 0, .int .i64 0] 42) = Y52 := ⟨_, rfl⟩
          rw [hY52] at G52 L52
          have HW40 := hid (bt HW39.out L52.out)
          clear HW39
          obtain ⟨⟨zk0, zk1⟩, ⟨zf0, zf1⟩, zs0, zs1⟩ := rn_zero2 G52.out
          go_wp2_with fail
          clear hY52
          clear zk0 zf0 zs0 zk1 zf1 zs1
          refine Calls.mono (HNN.out _) ?_
          rintro x v ⟨rfl, hv⟩
          rw [hv]
          clear hv v
          have HFb := hid (FBox.made Y52 28 #[.float .f64 4607182418800017408, .float .f64 9221120237041090561])
          have HLb := hid (alloc_later Y52 (.cells #[.float .f64 4607182418800017408, .float .f64 9221120237041090561] 28))
          go_wp2_with fail
          refine Calls.mono (rs_two _ _ HFb.out) ?_
          generalize Y52.alloc (.cells #[.float .f64 4607182418800017408, .float .f64 9221120237041090561] 28) = Zb at *
          have HW41 := hid (bt HW40.out HLb.out)
          have H5241 := hid (G52.out.later HLb.out G52.out.lt)
          clear HW40 G52
          rintro x w31 ⟨rfl, hb⟩
          have HW42 := hid (bt HW41.out hb)
          have H5242 := hid (H5241.out.later hb H5241.out.lt)
          clear HW41 H5241
          clear hb HFb HLb
          have G55 := hid (Box.made w31 42 #[.int .i64 8, .int .i64 1])
          have L55 := hid (alloc_later w31 (.cells #[.int .i64 8, .int .i64 1] 42))
          obtain ⟨Y55, hY55⟩ : ∃ Y55, w31.alloc (.cells #[.int .i64 8, .int .i64 1] 42) = Y55 := ⟨_, rfl⟩
          rw [hY55] at G55 L55
          have HW43 := hid (bt HW42.out L55.out)
          have H5243 := hid (H5242.out.later L55.out H5242.out.lt)
          clear HW42 H5242
          go_wp2_with fail
          refine Calls.mono (small13 _) ?_
          rintro x w32 ⟨a0, c0, b0, d0, rfl, S0, hb⟩
          have HW44 := hid (bt HW43.out hb)
          have H5244 := hid (H5243.out.later hb H5243.out.lt)
          have H5544 := hid (G55.out.later hb G55.out.lt)
          clear HW43 H5243 G55
          clear hb hY55
          go_wp2_with fail
          refine Calls.mono (within1 a0 c0 b0 d0 _ (HT.out _ HW44.out) S0.out) ?_
          rintro x w33 ⟨code0, rfl, hb⟩
          have HW45 := hid (bt HW44.out hb)
          have H5245 := hid (H5244.out.later hb H5244.out.lt)
          have H5545 := hid (H5544.out.later hb H5544.out.lt)
          clear HW44 H5244 H5544
          clear hb S0
          go_wp2_with fail
          refine Calls.mono (small13 _) ?_
          rintro x w34 ⟨a0, c0, b0, d0, rfl, S0, hb⟩
          have HW46 := hid (bt HW45.out hb)
          have H5246 := hid (H5245.out.later hb H5245.out.lt)
          have H5546 := hid (H5545.out.later hb H5545.out.lt)
          clear HW45 H5245 H5545
          clear hb
          go_wp2_with fail
          refine Calls.mono (within2 a0 c0 b0 d0 _ (HT.out _ HW46.out) S0.out) ?_
          rintro x w35 ⟨code1, rfl, hb⟩
          have HW47 := hid (bt HW46.out hb)
          have H5247 := hid (H5246.out.later hb H5246.out.lt)
          have H5547 := hid (H5546.out.later hb H5546.out.lt)
          clear HW46 H5246 H5546
          clear hb S0
          go_wp2_with fail
          refine Calls.mono (small12 _) ?_
          rintro x w36 ⟨a0, c0, b0, d0, rfl, S0, hb⟩
          have HW48 := hid (bt HW47.out hb)
          have H5248 := hid (H5247.out.later hb H5247.out.lt)
          have H5548 := hid (H5547.out.later hb H5547.out.lt)
          clear HW47 H5247 H5547
          clear hb
          go_wp2_with fail
          refine Calls.mono (within3 a0 c0 b0 d0 _ (HT.out _ HW48.out) S0.out) ?_
          rintro x w37 ⟨code2, rfl, hb⟩
          have HW49 := hid (bt HW48.out hb)
          have H5249 := hid (H5248.out.later hb H5248.out.lt)
          have H5549 := hid (H5548.out.later hb H5548.out.lt)
          clear HW48 H5248 H5548
          clear hb S0
          have HEF := fun a b V => rnFault a b V
          have cl52_0 : w37.cell? ⟨w30.heap.size, 0, none⟩ = some (.int .i64 0) := H5249.out.cell 0
          have cl52_1 : w37.cell? ⟨w30.heap.size, 1, none⟩ = some (.int .i64 0) := H5249.out.cell 1
          have cl55_0 : w37.cell? ⟨w31.heap.size, 0, none⟩ = some (.int .i64 8) := H5549.out.cell 0
          have cl55_1 : w37.cell? ⟨w31.heap.size, 1, none⟩ = some (.int .i64 1) := H5549.out.cell 1
          go_wp2_with fail
          refine Calls.mono (awake6_any _ (HT.out _ HW49.out)) ?_
          rintro x w38 ⟨rfl, hb⟩
          clear cl52_0 cl52_1 cl55_0 cl55_1
          have HW50 := hid (bt HW49.out hb)
          have H5250 := hid (H5249.out.later hb H5249.out.lt)
          have H5550 := hid (H5549.out.later hb H5549.out.lt)
          clear HW49 H5249 H5549
          clear hb
          go_wp2_with fail
          go_ret
          exact ⟨rfl, HW50.out⟩
end Go.Proofs.YtfppimlmebnaeaaGreatDoor

