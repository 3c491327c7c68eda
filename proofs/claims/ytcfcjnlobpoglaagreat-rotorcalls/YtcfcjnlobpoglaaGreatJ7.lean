/- My texts on the way to RotorCalls, one behind the other: contracts of the program and of the document's answers. -/
import Derived.Test.YtcfcjnlobpoglaaGreatJ4
import Derived.Test.YtcfcjnlobpoglaaGreatJ5
import Derived.Test.YtcfcjnlobpoglaaGreatJ6
import Derived.Deep.RegionHeld3
/- gauss.Same, Norm, Conj, Mul of good numbers, as letters; the laws' unit and lives of layer 5. (tools/mkrq6.py) -/
namespace Go.Proofs.YtcfcjnlobpoglaaGreat
open Go.RowKit
set_option linter.unusedVariables false
set_option linter.unusedSimpArgs false

theorem o_sz1 {x : Int} (h : 0 < x) : sz [x] = 1 := by
  have hx : x ≠ 0 := by omega
  simp [sz, szTo, hx]
theorem o_val1 (x : Int) : val [x] = x := by simp [val, valTo]
/-- The words of a small whole number. -/
theorem o_word {xs : List Int} {x : Int} (wx : Wd xs) (tx : Trimmed xs) (h : val xs = x) (h0 : 0 < x) (h1 : x < 4294967296) : xs = [x] := by
  refine trimmed_eq wx ?_ tx ?_ ?_
  · intro z hz
    have : z = x := by simpa using hz
    omega
  · unfold Trimmed
    exact o_sz1 h0
  · rw [h]
    exact (o_val1 x).symm
theorem o_pos1 {n : Bool} {xs : List Int} {x : Int} (wx : Wd xs) (tx : Trimmed xs) (h : wval n xs = x) (h0 : 0 < x) (h1 : x < 4294967296) : n = false ∧ xs = [x] := by
  have p := val_nonneg wx
  have hn : n = false := by
    cases n
    · rfl
    · unfold wval at h; simp at h; omega
  subst hn
  have h' : val xs = x := by unfold wval at h; simpa using h
  exact ⟨rfl, o_word wx tx h' h0 h1⟩
end Go.Proofs.YtcfcjnlobpoglaaGreat

/- The laws' lives of layer 5: the chapter's first example. (tools/mkrq7.py) -/
namespace Go.Proofs.YtcfcjnlobpoglaaGreat
open Go.RowKit
set_option linter.unusedVariables false
set_option linter.unusedSimpArgs false

theorem olit (w : World) (x : Int) : (w.alloc (.cells #[.int .u32 x] 66)).ownsRow w.heap.size 66 1 (.slice (some ⟨w.heap.size, 0, none⟩) 1 1) 1 [.int .u32 x] := World.ownsRow_lit w #[.int .u32 x] 1 (Nat.le_refl _) (by decide) rfl
theorem olit' {w : World} {b : Nat} (x : Int) (h : w.heap.size = b) : (w.alloc (.cells #[.int .u32 x] 66)).ownsRow b 66 1 (.slice (some ⟨b, 0, none⟩) 1 1) 1 [.int .u32 x] := by subst h; exact olit w x
theorem owd1 {x : Int} (h0 : 0 ≤ x) (h1 : x < 4294967296) : Wd [x] := fun z hz => by
  have : z = x := by simpa using hz
  omega
theorem oOf21 (w : World) : Calls Tryz.prog 6 #[.agg #[.int .i32 2, .int .i32 1]] w fun e w' => ∃ a1 c1 a2 c2 a3 c3 a4 c4, e = .returned (.tuple #[.agg #[.bool false, .slice a1 1 c1, .slice a2 1 c2, .bool false, .slice a3 1 c3, .slice a4 1 c4], .int .i64 0]) ∧ Hid (w'.ownsRow w.heap.size 66 1 (.slice a1 1 c1) 1 [.int .u32 3] ∧ w'.ownsRow w.heap.size 66 1 (.slice a2 1 c2) 1 [.int .u32 5] ∧ w'.ownsRow w.heap.size 66 1 (.slice a3 1 c3) 1 [.int .u32 4] ∧ w'.ownsRow w.heap.size 66 1 (.slice a4 1 c4) 1 [.int .u32 5]) ∧ Hid (Below w.heap.size w w') := by
  refine Calls.mono (oOf_good 2 1 w (by decide)) ?_
  rintro e w' ⟨g, h, a1, c1, a2, c2, a3, c3, a4, c4, rfl, ho, hg, hh, hb, _⟩
  have ig := hg.out
  have ih := hh.out
  rw [o_div1, o_div1] at ig ih
  obtain ⟨⟨i1, i2⟩, ⟨i3, i4⟩, w1, w2, w3, w4⟩ := ig
  obtain ⟨⟨j1, j2⟩, _, v1, v2, _⟩ := ih
  obtain ⟨e1, t1, _⟩ := o_whole w1 w2 i1 i2
  obtain ⟨e2, t2, _⟩ := o_whole w3 w4 i3 i4
  obtain ⟨e3, t3, _⟩ := o_whole v1 v2 j1 j2
  obtain ⟨p1, p2⟩ := o_pos1 w1 t1 (e1.trans (show oRe 2 1 = 3 by decide)) (by decide) (by decide)
  obtain ⟨p3, p4⟩ := o_pos1 w3 t2 (e2.trans (show oIm 2 1 = 4 by decide)) (by decide) (by decide)
  obtain ⟨p5, p6⟩ := o_pos1 v1 t3 (e3.trans (show oNm 2 1 = 5 by decide)) (by decide) (by decide)
  have ho' := ho.out
  rw [p2, p4, p6] at ho'
  rw [p1, p2, p3, p4, p6]
  exact ⟨a1, c1, a2, c2, a3, c3, a4, c4, rfl, ho', hb⟩

set_option maxHeartbeats 3200000 in
set_option maxRecDepth 100000 in
theorem olives_any (w : World) : Calls Tryz.prog 14 #[] w fun e w' => e = .returned (.bool true) ∧ Below w.heap.size w w' := by
  have HD := hid (oOf21 w)
  go_enter Tryz.func14, Tryz.ntmps14
  go_wp2_with fail
  refine Calls.mono HD.out ?_
  rintro e w1 ⟨a1, c1, a2, c2, a3, c3, a4, c4, rfl, ho, hb⟩
  clear HD
  obtain ⟨Y, hY⟩ : ∃ Y, w1.alloc (.cells #[.bool false, .slice none 0 0, .slice none 0 0, .bool false, .slice none 0 0, .slice none 0 0] 28) = Y := ⟨_, rfl⟩
  have HY : Hid (Box Y w1.heap.size 28 #[.bool false, .slice none 0 0, .slice none 0 0, .bool false, .slice none 0 0, .slice none 0 0]) := by rw [← hY]; exact Box.made w1 _ _
  have HYB : Hid (Below w1.heap.size w1 Y) := by rw [← hY]; exact alloc_later _ _
  obtain ⟨A0, A1, A2, A3, A4, A5, qA0, qA1, qA2, qA3, qA4, qA5, ⟨rA0, rA1, rA2, rA3, rA4, rA5⟩, ⟨fA0, fA1, fA2, fA3, fA4, fA5⟩, HA⟩ := rchain6 HY.out (by decide) (.bool false) (.slice a1 1 c1) (.slice a2 1 c2) (.bool false) (.slice a3 1 c3) (.slice a4 1 c4)
  have HBA : Hid (Below w.heap.size w A5) := HA.out.2.2.2.1 _ _ hb.out.size (bt hb.out HYB.out)
  have HO : Hid (A5.ownsRow w.heap.size 66 1 (.slice a1 1 c1) 1 [.int .u32 3] ∧ A5.ownsRow w.heap.size 66 1 (.slice a2 1 c2) 1 [.int .u32 5] ∧ A5.ownsRow w.heap.size 66 1 (.slice a3 1 c3) 1 [.int .u32 4] ∧ A5.ownsRow w.heap.size 66 1 (.slice a4 1 c4) 1 [.int .u32 5]) := by
    have q := ho.out
    have P := HA.out.2.2.1
    exact ⟨P _ _ _ _ (owns_later q.1 HYB.out), P _ _ _ _ (owns_later q.2.1 HYB.out), P _ _ _ _ (owns_later q.2.2.1 HYB.out), P _ _ _ _ (owns_later q.2.2.2 HYB.out)⟩
  have p0 : A5.cell? ⟨w1.heap.size, 0, none⟩ = some (.bool false) := (HA.out.1).cell 0
  have p1 : A5.cell? ⟨w1.heap.size, 1, none⟩ = some (.slice a1 1 c1) := (HA.out.1).cell 1
  have p2 : A5.cell? ⟨w1.heap.size, 2, none⟩ = some (.slice a2 1 c2) := (HA.out.1).cell 2
  have p3 : A5.cell? ⟨w1.heap.size, 3, none⟩ = some (.bool false) := (HA.out.1).cell 3
  have p4 : A5.cell? ⟨w1.heap.size, 4, none⟩ = some (.slice a3 1 c3) := (HA.out.1).cell 4
  have p5 : A5.cell? ⟨w1.heap.size, 5, none⟩ = some (.slice a4 1 c4) := (HA.out.1).cell 5
  obtain ⟨U, hU⟩ : ∃ U, ((((A5.alloc (.cells #[.int .u32 3] 66)).alloc (.cells #[.int .u32 5] 66)).alloc (.cells #[.int .u32 4] 66)).alloc (.cells #[.int .u32 5] 66)) = U := ⟨_, rfl⟩
  have HU : Hid (Below A5.heap.size A5 U) := by rw [← hU]; exact bt (bt (bt (alloc_later _ _) (alloc_later _ _)) (alloc_later _ _)) (alloc_later _ _)
  have HL : Hid (U.ownsRow (A5.heap.size) 66 1 (.slice (some ⟨A5.heap.size, 0, none⟩) 1 1) 1 [.int .u32 3] ∧ U.ownsRow (A5.heap.size + 1) 66 1 (.slice (some ⟨A5.heap.size + 1, 0, none⟩) 1 1) 1 [.int .u32 5] ∧ U.ownsRow (A5.heap.size + 1 + 1) 66 1 (.slice (some ⟨A5.heap.size + 1 + 1, 0, none⟩) 1 1) 1 [.int .u32 4] ∧ U.ownsRow (A5.heap.size + 1 + 1 + 1) 66 1 (.slice (some ⟨A5.heap.size + 1 + 1 + 1, 0, none⟩) 1 1) 1 [.int .u32 5]) := by
    rw [← hU]
    refine ⟨?_, ?_, ?_, ?_⟩
    · exact owns_later (owns_later (owns_later (olit A5 3) (alloc_later _ _)) (alloc_later _ _)) (alloc_later _ _)
    · exact owns_later (owns_later (olit' 5 (by simp)) (alloc_later _ _)) (alloc_later _ _)
    · exact owns_later (olit' 4 (by simp)) (alloc_later _ _)
    · exact olit' 5 (by simp)
  have HS : Hid (Calls Tryz.prog 17 #[.agg #[.bool false, .slice a1 1 c1, .slice a2 1 c2, .bool false, .slice a3 1 c3, .slice a4 1 c4], .agg #[.bool false, .slice (some ⟨A5.heap.size, 0, none⟩) 1 1, .slice (some ⟨A5.heap.size + 1, 0, none⟩) 1 1, .bool false, .slice (some ⟨A5.heap.size + 1 + 1, 0, none⟩) 1 1, .slice (some ⟨A5.heap.size + 1 + 1 + 1, 0, none⟩) 1 1]] U fun x w' => x = .returned (.bool true) ∧ Below U.heap.size U w') :=
    gsameGauss_eq false a1 c1 [3] a2 c2 [5] false a3 c3 [4] a4 c4 [5] (some ⟨A5.heap.size, 0, none⟩) 1 (some ⟨A5.heap.size + 1, 0, none⟩) 1 (some ⟨A5.heap.size + 1 + 1, 0, none⟩) 1 (some ⟨A5.heap.size + 1 + 1 + 1, 0, none⟩) 1 U (Sl.own (owns_later HO.out.1 HU.out) (owd1 (by decide) (by decide))) (Sl.own (owns_later HO.out.2.1 HU.out) (owd1 (by decide) (by decide))) (Sl.own (owns_later HO.out.2.2.1 HU.out) (owd1 (by decide) (by decide))) (Sl.own (owns_later HO.out.2.2.2 HU.out) (owd1 (by decide) (by decide))) (Sl.own HL.out.1 (owd1 (by decide) (by decide))) (Sl.own HL.out.2.1 (owd1 (by decide) (by decide))) (Sl.own HL.out.2.2.1 (owd1 (by decide) (by decide))) (Sl.own HL.out.2.2.2 (owd1 (by decide) (by decide))) (by decide) (by decide) (by decide) (by decide)
  clear HL HO ho hb HYB HY
  go_wp2_with fail
  refine Calls.mono HS.out ?_
  rintro e w2 ⟨rfl, hb2⟩
  have HF := hid (bt (bt HBA.out HU.out) hb2)
  clear HS hb2
  go_wp2_with fail
  go_ret
  exact ⟨rfl, HF.out⟩
end Go.Proofs.YtcfcjnlobpoglaaGreat

/- The law RotorCalls: what the program tells of any two rotors and any power is what the document tells; what is told is new memory. (tools/mkrcalls.py) -/
namespace Go.Proofs.YtcfcjnlobpoglaaGreat
open Go.RowKit
set_option linter.unusedVariables false
set_option linter.unusedSimpArgs false

set_option maxHeartbeats 12800000 in
set_option maxRecDepth 100000 in
theorem rotorCalls_in (f n g m t : Int) (w : World) (hi : in32 f n) (hj : in32 g m) (t0 : -9223372036854775808 ≤ t) (t1 : t ≤ 9223372036854775807) :
    Calls Tryz.prog 3 #[.agg #[.int .i32 f, .int .i32 n], .agg #[.int .i32 g, .int .i32 m], .int .i64 t] w fun e w' => e = .returned (.bool true) ∧ Below w.heap.size w w' := by
  obtain ⟨X, hX⟩ : ∃ X, (w.alloc (.cells #[.int .i32 f, .int .i32 n] 23)).alloc (.cells #[.int .i32 g, .int .i32 m] 23) = X := ⟨_, rfl⟩
  have HW0 : Hid (Below w.heap.size w X) := by rw [← hX]; exact bt (alloc_later _ _) (alloc_later _ _)
  have Hr0 : Hid (Box X w.heap.size 23 #[.int .i32 f, .int .i32 n]) := by rw [← hX]; exact (Box.made w _ _).later (alloc_later _ _) (Box.made w _ _).lt
  have Hb0 : Hid (Box X (w.heap.size + 1) 23 #[.int .i32 g, .int .i32 m]) := by
    have q := Box.made (w.alloc (.cells #[.int .i32 f, .int .i32 n] 23)) 23 #[.int .i32 g, .int .i32 m]
    rw [show (w.alloc (.cells #[.int .i32 f, .int .i32 n] 23)).heap.size = w.heap.size + 1 by simp, hX] at q
    exact q
  have F1 := hid (fun V => oOfQ f n V hi)
  have F2 := hid (fun V => pOfQ f n V hi)
  have F3 := hid (fun V => rconj_any f n V hi)
  have F4 := hid (fun V => pconj_any f n V hi)
  have F5 := hid (fun V => oPowerQ f n t V hi t0 t1)
  have F6 := hid (fun V => pPowerQ f n t V hi t0 t1)
  have F7 := hid (fun V => rorder_any f n g m V hi hj)
  have F8 := hid (fun V => porder_any f n g m V hi hj)
  have F9 := hid (fun V => ocheck_any f n V hi)
  have FA := hid (fun V => pcheck_any f n V hi)
  clear hi hj t0 t1
  generalize ochk f n = E1 at *
  generalize pwE f n t = E2 at *
  generalize (oP f n 1).1 = q1 at *
  generalize (oP f n 1).2 = q2 at *
  generalize (oP f n t).1 = q3 at *
  generalize (oP f n t).2 = q4 at *
  generalize rConj f n = cj at *
  generalize rOrd f n g m = od at *
  obtain ⟨c1, c2, c3⟩ := cj
  obtain ⟨o1, o2_⟩ := od
  dsimp only at F3 F4 F7 F8
  go_enter Tryz.func3, Tryz.ntmps3
  have Zw := hid HW0.out.size
  have HD := hid (F1.out X)
  have cr0 : X.cell? ⟨w.heap.size, 0, none⟩ = some (.int .i32 f) := Hr0.out.cell 0
  have cr1 : X.cell? ⟨w.heap.size, 1, none⟩ = some (.int .i32 n) := Hr0.out.cell 1
  go_wp2_with fail
  clear hX
  refine Calls.mono HD.out ?_
  rintro e w1 ⟨ga, rfl, ok, ik, hb, hc⟩
  clear HD cr0 cr1
  have Nga : Hid (ga.In X.heap.size w1.heap.size) := by
    obtain ⟨W1, h1, h2⟩ := hc.out
    exact G6.in_of ok.out h1 h2
  have Zga : Hid (X.heap.size ≤ w1.heap.size) := hb.out.size
  clear hc
  have Oga0 := hid (ok.out.base HW0.out.size)
  have Iga := hid ik.out
  clear ok ik
  have HW2 := hid (bt HW0.out hb.out)
  have Hr2 := hid (Hr0.out.later hb.out Hr0.out.lt)
  have Hb2 := hid (Hb0.out.later hb.out Hb0.out.lt)
  clear HW0 Hr0 Hb0
  clear hb
  have S1 := hid (Nat.le_refl w1.heap.size)
  obtain ⟨Yga, hYga⟩ : ∃ Y, w1.alloc (.cells #[.bool false, .slice none 0 0, .slice none 0 0, .bool false, .slice none 0 0, .slice none 0 0] 28) = Y := ⟨_, rfl⟩
  have NYga : Hid (Box Yga w1.heap.size 28 #[.bool false, .slice none 0 0, .slice none 0 0, .bool false, .slice none 0 0, .slice none 0 0]) := by rw [← hYga]; exact Box.made w1 _ _
  have BYga : Hid (Below w1.heap.size w1 Yga) := by rw [← hYga]; exact alloc_later _ _
  obtain ⟨Kga0, Kga1, Kga2, Kga3, Kga4, Kga5, qKga0, qKga1, qKga2, qKga3, qKga4, qKga5, ⟨rKga0, rKga1, rKga2, rKga3, rKga4, rKga5⟩, ⟨fKga0, fKga1, fKga2, fKga3, fKga4, fKga5⟩, Pga⟩ := rchain6 NYga.out (by decide) (.bool ga.n) (.slice ga.a ga.xs.length ga.ca) (.slice ga.b ga.ys.length ga.cb) (.bool ga.m) (.slice ga.c ga.us.length ga.cc) (.slice ga.d ga.vs.length ga.cd)
  have HW3 : Hid (Below w.heap.size w Kga5) := Pga.out.2.2.2.1 _ _ HW2.out.size (bt HW2.out BYga.out)
  have Hr3 := hid (Pga.out.2.1 _ _ _ (Nat.ne_of_lt Hr2.out.lt) (Hr2.out.later BYga.out Hr2.out.lt))
  have Hb3 := hid (Pga.out.2.1 _ _ _ (Nat.ne_of_lt Hb2.out.lt) (Hb2.out.later BYga.out Hb2.out.lt))
  have Oga3 := hid (ow_put (Oga0.out.later BYga.out) Pga.out.2.2.1)
  replace S1 := hid (Nat.le_trans S1.out (Nat.le_trans BYga.out.size (Nat.le_of_eq Pga.out.2.2.2.2.symm)))
  have Hga3 := hid Pga.out.1
  clear HW2 Hr2 Hb2 Oga0 NYga BYga Pga
  have HD := hid (F2.out Kga5)
  have cr0 : Kga5.cell? ⟨w.heap.size, 0, none⟩ = some (.int .i32 f) := Hr3.out.cell 0
  have cr1 : Kga5.cell? ⟨w.heap.size, 1, none⟩ = some (.int .i32 n) := Hr3.out.cell 1
  go_wp2_with fail
  clear qKga0 qKga1 qKga2 qKga3 qKga4 qKga5 rKga0 rKga1 rKga2 rKga3 rKga4 rKga5 fKga0 fKga1 fKga2 fKga3 fKga4 fKga5 hYga
  refine Calls.mono HD.out ?_
  rintro e w4 ⟨gb, rfl, ok, ik, hb⟩
  clear HD cr0 cr1
  have Ogb0 := hid (ok.out.base HW3.out.size)
  have Igb := hid ik.out
  clear ok ik
  have HW5 := hid (bt HW3.out hb.out)
  have Hr5 := hid (Hr3.out.later hb.out Hr3.out.lt)
  have Hb5 := hid (Hb3.out.later hb.out Hb3.out.lt)
  have Hga5 := hid (Hga3.out.later hb.out Hga3.out.lt)
  have Oga5 := hid (Oga3.out.later hb.out)
  replace S1 := hid (Nat.le_trans S1.out hb.out.size)
  clear HW3 Hr3 Hb3 Hga3 Oga3
  clear hb
  obtain ⟨Ygb, hYgb⟩ : ∃ Y, w4.alloc (.cells #[.bool false, .slice none 0 0, .slice none 0 0, .bool false, .slice none 0 0, .slice none 0 0] 28) = Y := ⟨_, rfl⟩
  have NYgb : Hid (Box Ygb w4.heap.size 28 #[.bool false, .slice none 0 0, .slice none 0 0, .bool false, .slice none 0 0, .slice none 0 0]) := by rw [← hYgb]; exact Box.made w4 _ _
  have BYgb : Hid (Below w4.heap.size w4 Ygb) := by rw [← hYgb]; exact alloc_later _ _
  obtain ⟨Kgb0, Kgb1, Kgb2, Kgb3, Kgb4, Kgb5, qKgb0, qKgb1, qKgb2, qKgb3, qKgb4, qKgb5, ⟨rKgb0, rKgb1, rKgb2, rKgb3, rKgb4, rKgb5⟩, ⟨fKgb0, fKgb1, fKgb2, fKgb3, fKgb4, fKgb5⟩, Pgb⟩ := rchain6 NYgb.out (by decide) (.bool gb.n) (.slice gb.a gb.xs.length gb.ca) (.slice gb.b gb.ys.length gb.cb) (.bool gb.m) (.slice gb.c gb.us.length gb.cc) (.slice gb.d gb.vs.length gb.cd)
  have HW6 : Hid (Below w.heap.size w Kgb5) := Pgb.out.2.2.2.1 _ _ HW5.out.size (bt HW5.out BYgb.out)
  have Hr6 := hid (Pgb.out.2.1 _ _ _ (Nat.ne_of_lt Hr5.out.lt) (Hr5.out.later BYgb.out Hr5.out.lt))
  have Hb6 := hid (Pgb.out.2.1 _ _ _ (Nat.ne_of_lt Hb5.out.lt) (Hb5.out.later BYgb.out Hb5.out.lt))
  have Hga6 := hid (Pgb.out.2.1 _ _ _ (Nat.ne_of_lt Hga5.out.lt) (Hga5.out.later BYgb.out Hga5.out.lt))
  have Oga6 := hid (ow_put (Oga5.out.later BYgb.out) Pgb.out.2.2.1)
  have Ogb6 := hid (ow_put (Ogb0.out.later BYgb.out) Pgb.out.2.2.1)
  replace S1 := hid (Nat.le_trans S1.out (Nat.le_trans BYgb.out.size (Nat.le_of_eq Pgb.out.2.2.2.2.symm)))
  have Hgb6 := hid Pgb.out.1
  clear HW5 Hr5 Hb5 Hga5 Oga5 Ogb0 NYgb BYgb Pgb
  have HD := hid (F3.out Kgb5)
  have cr0 : Kgb5.cell? ⟨w.heap.size, 0, none⟩ = some (.int .i32 f) := Hr6.out.cell 0
  have cr1 : Kgb5.cell? ⟨w.heap.size, 1, none⟩ = some (.int .i32 n) := Hr6.out.cell 1
  go_wp2_with fail
  clear qKgb0 qKgb1 qKgb2 qKgb3 qKgb4 qKgb5 rKgb0 rKgb1 rKgb2 rKgb3 rKgb4 rKgb5 fKgb0 fKgb1 fKgb2 fKgb3 fKgb4 fKgb5 hYgb
  refine Calls.mono HD.out ?_
  rintro e w7 ⟨rfl, hb⟩
  clear HD cr0 cr1
  have HW8 := hid (bt HW6.out hb)
  have Hr8 := hid (Hr6.out.later hb Hr6.out.lt)
  have Hb8 := hid (Hb6.out.later hb Hb6.out.lt)
  have Hga8 := hid (Hga6.out.later hb Hga6.out.lt)
  have Hgb8 := hid (Hgb6.out.later hb Hgb6.out.lt)
  have Oga8 := hid (Oga6.out.later hb)
  have Ogb8 := hid (Ogb6.out.later hb)
  replace S1 := hid (Nat.le_trans S1.out hb.size)
  clear HW6 Hr6 Hb6 Hga6 Hgb6 Oga6 Ogb6
  clear hb
  obtain ⟨Yc, hYc⟩ : ∃ Y, w7.alloc (.cells #[.int .i32 0, .int .i32 0] 23) = Y := ⟨_, rfl⟩
  have NYc : Hid (Box Yc w7.heap.size 23 #[.int .i32 0, .int .i32 0]) := by rw [← hYc]; exact Box.made w7 _ _
  have BYc : Hid (Below w7.heap.size w7 Yc) := by rw [← hYc]; exact alloc_later _ _
  obtain ⟨Kc0, Kc1, qKc0, qKc1, ⟨rKc0, rKc1⟩, ⟨fKc0, fKc1⟩, Pc⟩ := rchain2 NYc.out (by decide) (.int .i32 c1) (.int .i32 c2)
  have HW9 : Hid (Below w.heap.size w Kc1) := Pc.out.2.2.2.1 _ _ HW8.out.size (bt HW8.out BYc.out)
  have Hr9 := hid (Pc.out.2.1 _ _ _ (Nat.ne_of_lt Hr8.out.lt) (Hr8.out.later BYc.out Hr8.out.lt))
  have Hb9 := hid (Pc.out.2.1 _ _ _ (Nat.ne_of_lt Hb8.out.lt) (Hb8.out.later BYc.out Hb8.out.lt))
  have Hga9 := hid (Pc.out.2.1 _ _ _ (Nat.ne_of_lt Hga8.out.lt) (Hga8.out.later BYc.out Hga8.out.lt))
  have Hgb9 := hid (Pc.out.2.1 _ _ _ (Nat.ne_of_lt Hgb8.out.lt) (Hgb8.out.later BYc.out Hgb8.out.lt))
  have Oga9 := hid (ow_put (Oga8.out.later BYc.out) Pc.out.2.2.1)
  have Ogb9 := hid (ow_put (Ogb8.out.later BYc.out) Pc.out.2.2.1)
  replace S1 := hid (Nat.le_trans S1.out (Nat.le_trans BYc.out.size (Nat.le_of_eq Pc.out.2.2.2.2.symm)))
  have Hc9 := hid Pc.out.1
  clear HW8 Hr8 Hb8 Hga8 Hgb8 Oga8 Ogb8 NYc BYc Pc
  have HD := hid (F4.out Kc1)
  have cr0 : Kc1.cell? ⟨w.heap.size, 0, none⟩ = some (.int .i32 f) := Hr9.out.cell 0
  have cr1 : Kc1.cell? ⟨w.heap.size, 1, none⟩ = some (.int .i32 n) := Hr9.out.cell 1
  go_wp2_with fail
  clear qKc0 qKc1 rKc0 rKc1 fKc0 fKc1 hYc
  refine Calls.mono HD.out ?_
  rintro e w10 ⟨rfl, hb⟩
  clear HD cr0 cr1
  have HW11 := hid (bt HW9.out hb)
  have Hr11 := hid (Hr9.out.later hb Hr9.out.lt)
  have Hb11 := hid (Hb9.out.later hb Hb9.out.lt)
  have Hga11 := hid (Hga9.out.later hb Hga9.out.lt)
  have Hgb11 := hid (Hgb9.out.later hb Hgb9.out.lt)
  have Hc11 := hid (Hc9.out.later hb Hc9.out.lt)
  have Oga11 := hid (Oga9.out.later hb)
  have Ogb11 := hid (Ogb9.out.later hb)
  replace S1 := hid (Nat.le_trans S1.out hb.size)
  clear HW9 Hr9 Hb9 Hga9 Hgb9 Hc9 Oga9 Ogb9
  clear hb
  obtain ⟨Yd, hYd⟩ : ∃ Y, w10.alloc (.cells #[.int .i32 0, .int .i32 0] 23) = Y := ⟨_, rfl⟩
  have NYd : Hid (Box Yd w10.heap.size 23 #[.int .i32 0, .int .i32 0]) := by rw [← hYd]; exact Box.made w10 _ _
  have BYd : Hid (Below w10.heap.size w10 Yd) := by rw [← hYd]; exact alloc_later _ _
  obtain ⟨Kd0, Kd1, qKd0, qKd1, ⟨rKd0, rKd1⟩, ⟨fKd0, fKd1⟩, Pd⟩ := rchain2 NYd.out (by decide) (.int .i32 c1) (.int .i32 c2)
  have HW12 : Hid (Below w.heap.size w Kd1) := Pd.out.2.2.2.1 _ _ HW11.out.size (bt HW11.out BYd.out)
  have Hr12 := hid (Pd.out.2.1 _ _ _ (Nat.ne_of_lt Hr11.out.lt) (Hr11.out.later BYd.out Hr11.out.lt))
  have Hb12 := hid (Pd.out.2.1 _ _ _ (Nat.ne_of_lt Hb11.out.lt) (Hb11.out.later BYd.out Hb11.out.lt))
  have Hga12 := hid (Pd.out.2.1 _ _ _ (Nat.ne_of_lt Hga11.out.lt) (Hga11.out.later BYd.out Hga11.out.lt))
  have Hgb12 := hid (Pd.out.2.1 _ _ _ (Nat.ne_of_lt Hgb11.out.lt) (Hgb11.out.later BYd.out Hgb11.out.lt))
  have Hc12 := hid (Pd.out.2.1 _ _ _ (Nat.ne_of_lt Hc11.out.lt) (Hc11.out.later BYd.out Hc11.out.lt))
  have Oga12 := hid (ow_put (Oga11.out.later BYd.out) Pd.out.2.2.1)
  have Ogb12 := hid (ow_put (Ogb11.out.later BYd.out) Pd.out.2.2.1)
  replace S1 := hid (Nat.le_trans S1.out (Nat.le_trans BYd.out.size (Nat.le_of_eq Pd.out.2.2.2.2.symm)))
  have Hd12 := hid Pd.out.1
  clear HW11 Hr11 Hb11 Hga11 Hgb11 Hc11 Oga11 Ogb11 NYd BYd Pd
  have HD := hid (F5.out Kd1)
  have cr0 : Kd1.cell? ⟨w.heap.size, 0, none⟩ = some (.int .i32 f) := Hr12.out.cell 0
  have cr1 : Kd1.cell? ⟨w.heap.size, 1, none⟩ = some (.int .i32 n) := Hr12.out.cell 1
  go_wp2_with fail
  clear qKd0 qKd1 rKd0 rKd1 fKd0 fKd1 hYd
  refine Calls.mono HD.out ?_
  rintro e w13 ⟨gp, rfl, ok, ik, hb, hc⟩
  clear HD cr0 cr1
  have Ngp : Hid (gp.In Kd1.heap.size w13.heap.size) := by
    obtain ⟨W1, h1, h2⟩ := hc.out
    exact G6.in_of ok.out h1 h2
  have Zgp : Hid (Kd1.heap.size ≤ w13.heap.size) := hb.out.size
  clear hc
  have Ogp0 := hid (ok.out.base HW12.out.size)
  have Igp := hid ik.out
  clear ok ik
  have HW14 := hid (bt HW12.out hb.out)
  have Hr14 := hid (Hr12.out.later hb.out Hr12.out.lt)
  have Hb14 := hid (Hb12.out.later hb.out Hb12.out.lt)
  have Hga14 := hid (Hga12.out.later hb.out Hga12.out.lt)
  have Hgb14 := hid (Hgb12.out.later hb.out Hgb12.out.lt)
  have Hc14 := hid (Hc12.out.later hb.out Hc12.out.lt)
  have Hd14 := hid (Hd12.out.later hb.out Hd12.out.lt)
  have Oga14 := hid (Oga12.out.later hb.out)
  have Ogb14 := hid (Ogb12.out.later hb.out)
  clear HW12 Hr12 Hb12 Hga12 Hgb12 Hc12 Hd12 Oga12 Ogb12
  clear hb
  have S2 := hid (Nat.le_refl w13.heap.size)
  obtain ⟨Ygp, hYgp⟩ : ∃ Y, w13.alloc (.cells #[.bool false, .slice none 0 0, .slice none 0 0, .bool false, .slice none 0 0, .slice none 0 0] 28) = Y := ⟨_, rfl⟩
  have NYgp : Hid (Box Ygp w13.heap.size 28 #[.bool false, .slice none 0 0, .slice none 0 0, .bool false, .slice none 0 0, .slice none 0 0]) := by rw [← hYgp]; exact Box.made w13 _ _
  have BYgp : Hid (Below w13.heap.size w13 Ygp) := by rw [← hYgp]; exact alloc_later _ _
  obtain ⟨Kgp0, Kgp1, Kgp2, Kgp3, Kgp4, Kgp5, qKgp0, qKgp1, qKgp2, qKgp3, qKgp4, qKgp5, ⟨rKgp0, rKgp1, rKgp2, rKgp3, rKgp4, rKgp5⟩, ⟨fKgp0, fKgp1, fKgp2, fKgp3, fKgp4, fKgp5⟩, Pgp⟩ := rchain6 NYgp.out (by decide) (.bool gp.n) (.slice gp.a gp.xs.length gp.ca) (.slice gp.b gp.ys.length gp.cb) (.bool gp.m) (.slice gp.c gp.us.length gp.cc) (.slice gp.d gp.vs.length gp.cd)
  have HW15 : Hid (Below w.heap.size w Kgp5) := Pgp.out.2.2.2.1 _ _ HW14.out.size (bt HW14.out BYgp.out)
  have Hr15 := hid (Pgp.out.2.1 _ _ _ (Nat.ne_of_lt Hr14.out.lt) (Hr14.out.later BYgp.out Hr14.out.lt))
  have Hb15 := hid (Pgp.out.2.1 _ _ _ (Nat.ne_of_lt Hb14.out.lt) (Hb14.out.later BYgp.out Hb14.out.lt))
  have Hga15 := hid (Pgp.out.2.1 _ _ _ (Nat.ne_of_lt Hga14.out.lt) (Hga14.out.later BYgp.out Hga14.out.lt))
  have Hgb15 := hid (Pgp.out.2.1 _ _ _ (Nat.ne_of_lt Hgb14.out.lt) (Hgb14.out.later BYgp.out Hgb14.out.lt))
  have Hc15 := hid (Pgp.out.2.1 _ _ _ (Nat.ne_of_lt Hc14.out.lt) (Hc14.out.later BYgp.out Hc14.out.lt))
  have Hd15 := hid (Pgp.out.2.1 _ _ _ (Nat.ne_of_lt Hd14.out.lt) (Hd14.out.later BYgp.out Hd14.out.lt))
  have Oga15 := hid (ow_put (Oga14.out.later BYgp.out) Pgp.out.2.2.1)
  have Ogb15 := hid (ow_put (Ogb14.out.later BYgp.out) Pgp.out.2.2.1)
  have Ogp15 := hid (ow_put (Ogp0.out.later BYgp.out) Pgp.out.2.2.1)
  replace S2 := hid (Nat.le_trans S2.out (Nat.le_trans BYgp.out.size (Nat.le_of_eq Pgp.out.2.2.2.2.symm)))
  have Hgp15 := hid Pgp.out.1
  clear HW14 Hr14 Hb14 Hga14 Hgb14 Hc14 Hd14 Oga14 Ogb14 Ogp0 NYgp BYgp Pgp
  have HD := hid (F6.out Kgp5)
  have cr0 : Kgp5.cell? ⟨w.heap.size, 0, none⟩ = some (.int .i32 f) := Hr15.out.cell 0
  have cr1 : Kgp5.cell? ⟨w.heap.size, 1, none⟩ = some (.int .i32 n) := Hr15.out.cell 1
  go_wp2_with fail
  clear qKgp0 qKgp1 qKgp2 qKgp3 qKgp4 qKgp5 rKgp0 rKgp1 rKgp2 rKgp3 rKgp4 rKgp5 fKgp0 fKgp1 fKgp2 fKgp3 fKgp4 fKgp5 hYgp
  refine Calls.mono HD.out ?_
  rintro e w16 ⟨gq, rfl, ok, ik, hb⟩
  clear HD cr0 cr1
  have Ogq0 := hid (ok.out.base HW15.out.size)
  have Igq := hid ik.out
  clear ok ik
  have HW17 := hid (bt HW15.out hb.out)
  have Hr17 := hid (Hr15.out.later hb.out Hr15.out.lt)
  have Hb17 := hid (Hb15.out.later hb.out Hb15.out.lt)
  have Hga17 := hid (Hga15.out.later hb.out Hga15.out.lt)
  have Hgb17 := hid (Hgb15.out.later hb.out Hgb15.out.lt)
  have Hc17 := hid (Hc15.out.later hb.out Hc15.out.lt)
  have Hd17 := hid (Hd15.out.later hb.out Hd15.out.lt)
  have Hgp17 := hid (Hgp15.out.later hb.out Hgp15.out.lt)
  have Oga17 := hid (Oga15.out.later hb.out)
  have Ogb17 := hid (Ogb15.out.later hb.out)
  have Ogp17 := hid (Ogp15.out.later hb.out)
  replace S2 := hid (Nat.le_trans S2.out hb.out.size)
  clear HW15 Hr15 Hb15 Hga15 Hgb15 Hc15 Hd15 Hgp15 Oga15 Ogb15 Ogp15
  clear hb
  obtain ⟨Ygq, hYgq⟩ : ∃ Y, w16.alloc (.cells #[.bool false, .slice none 0 0, .slice none 0 0, .bool false, .slice none 0 0, .slice none 0 0] 28) = Y := ⟨_, rfl⟩
  have NYgq : Hid (Box Ygq w16.heap.size 28 #[.bool false, .slice none 0 0, .slice none 0 0, .bool false, .slice none 0 0, .slice none 0 0]) := by rw [← hYgq]; exact Box.made w16 _ _
  have BYgq : Hid (Below w16.heap.size w16 Ygq) := by rw [← hYgq]; exact alloc_later _ _
  obtain ⟨Kgq0, Kgq1, Kgq2, Kgq3, Kgq4, Kgq5, qKgq0, qKgq1, qKgq2, qKgq3, qKgq4, qKgq5, ⟨rKgq0, rKgq1, rKgq2, rKgq3, rKgq4, rKgq5⟩, ⟨fKgq0, fKgq1, fKgq2, fKgq3, fKgq4, fKgq5⟩, Pgq⟩ := rchain6 NYgq.out (by decide) (.bool gq.n) (.slice gq.a gq.xs.length gq.ca) (.slice gq.b gq.ys.length gq.cb) (.bool gq.m) (.slice gq.c gq.us.length gq.cc) (.slice gq.d gq.vs.length gq.cd)
  have HW18 : Hid (Below w.heap.size w Kgq5) := Pgq.out.2.2.2.1 _ _ HW17.out.size (bt HW17.out BYgq.out)
  have Hr18 := hid (Pgq.out.2.1 _ _ _ (Nat.ne_of_lt Hr17.out.lt) (Hr17.out.later BYgq.out Hr17.out.lt))
  have Hb18 := hid (Pgq.out.2.1 _ _ _ (Nat.ne_of_lt Hb17.out.lt) (Hb17.out.later BYgq.out Hb17.out.lt))
  have Hga18 := hid (Pgq.out.2.1 _ _ _ (Nat.ne_of_lt Hga17.out.lt) (Hga17.out.later BYgq.out Hga17.out.lt))
  have Hgb18 := hid (Pgq.out.2.1 _ _ _ (Nat.ne_of_lt Hgb17.out.lt) (Hgb17.out.later BYgq.out Hgb17.out.lt))
  have Hc18 := hid (Pgq.out.2.1 _ _ _ (Nat.ne_of_lt Hc17.out.lt) (Hc17.out.later BYgq.out Hc17.out.lt))
  have Hd18 := hid (Pgq.out.2.1 _ _ _ (Nat.ne_of_lt Hd17.out.lt) (Hd17.out.later BYgq.out Hd17.out.lt))
  have Hgp18 := hid (Pgq.out.2.1 _ _ _ (Nat.ne_of_lt Hgp17.out.lt) (Hgp17.out.later BYgq.out Hgp17.out.lt))
  have Oga18 := hid (ow_put (Oga17.out.later BYgq.out) Pgq.out.2.2.1)
  have Ogb18 := hid (ow_put (Ogb17.out.later BYgq.out) Pgq.out.2.2.1)
  have Ogp18 := hid (ow_put (Ogp17.out.later BYgq.out) Pgq.out.2.2.1)
  have Ogq18 := hid (ow_put (Ogq0.out.later BYgq.out) Pgq.out.2.2.1)
  replace S2 := hid (Nat.le_trans S2.out (Nat.le_trans BYgq.out.size (Nat.le_of_eq Pgq.out.2.2.2.2.symm)))
  have Hgq18 := hid Pgq.out.1
  clear HW17 Hr17 Hb17 Hga17 Hgb17 Hc17 Hd17 Hgp17 Oga17 Ogb17 Ogp17 Ogq0 NYgq BYgq Pgq
  have HD := hid (F7.out Kgq5)
  have cr0 : Kgq5.cell? ⟨w.heap.size, 0, none⟩ = some (.int .i32 f) := Hr18.out.cell 0
  have cr1 : Kgq5.cell? ⟨w.heap.size, 1, none⟩ = some (.int .i32 n) := Hr18.out.cell 1
  have cb0 : Kgq5.cell? ⟨w.heap.size + 1, 0, none⟩ = some (.int .i32 g) := Hb18.out.cell 0
  have cb1 : Kgq5.cell? ⟨w.heap.size + 1, 1, none⟩ = some (.int .i32 m) := Hb18.out.cell 1
  go_wp2_with fail
  clear qKgq0 qKgq1 qKgq2 qKgq3 qKgq4 qKgq5 rKgq0 rKgq1 rKgq2 rKgq3 rKgq4 rKgq5 fKgq0 fKgq1 fKgq2 fKgq3 fKgq4 fKgq5 hYgq
  refine Calls.mono HD.out ?_
  rintro e w19 ⟨rfl, hb⟩
  clear HD cr0 cr1 cb0 cb1
  have HW20 := hid (bt HW18.out hb)
  have Hr20 := hid (Hr18.out.later hb Hr18.out.lt)
  have Hb20 := hid (Hb18.out.later hb Hb18.out.lt)
  have Hga20 := hid (Hga18.out.later hb Hga18.out.lt)
  have Hgb20 := hid (Hgb18.out.later hb Hgb18.out.lt)
  have Hc20 := hid (Hc18.out.later hb Hc18.out.lt)
  have Hd20 := hid (Hd18.out.later hb Hd18.out.lt)
  have Hgp20 := hid (Hgp18.out.later hb Hgp18.out.lt)
  have Hgq20 := hid (Hgq18.out.later hb Hgq18.out.lt)
  have Oga20 := hid (Oga18.out.later hb)
  have Ogb20 := hid (Ogb18.out.later hb)
  have Ogp20 := hid (Ogp18.out.later hb)
  have Ogq20 := hid (Ogq18.out.later hb)
  replace S2 := hid (Nat.le_trans S2.out hb.size)
  clear HW18 Hr18 Hb18 Hga18 Hgb18 Hc18 Hd18 Hgp18 Hgq18 Oga18 Ogb18 Ogp18 Ogq18
  clear hb
  have HD := hid (F8.out w19)
  have cr0 : w19.cell? ⟨w.heap.size, 0, none⟩ = some (.int .i32 f) := Hr20.out.cell 0
  have cr1 : w19.cell? ⟨w.heap.size, 1, none⟩ = some (.int .i32 n) := Hr20.out.cell 1
  have cb0 : w19.cell? ⟨w.heap.size + 1, 0, none⟩ = some (.int .i32 g) := Hb20.out.cell 0
  have cb1 : w19.cell? ⟨w.heap.size + 1, 1, none⟩ = some (.int .i32 m) := Hb20.out.cell 1
  go_wp2_with fail
  refine Calls.mono HD.out ?_
  rintro e w21 ⟨rfl, hb⟩
  clear HD cr0 cr1 cb0 cb1
  have HW22 := hid (bt HW20.out hb)
  have Hr22 := hid (Hr20.out.later hb Hr20.out.lt)
  have Hb22 := hid (Hb20.out.later hb Hb20.out.lt)
  have Hga22 := hid (Hga20.out.later hb Hga20.out.lt)
  have Hgb22 := hid (Hgb20.out.later hb Hgb20.out.lt)
  have Hc22 := hid (Hc20.out.later hb Hc20.out.lt)
  have Hd22 := hid (Hd20.out.later hb Hd20.out.lt)
  have Hgp22 := hid (Hgp20.out.later hb Hgp20.out.lt)
  have Hgq22 := hid (Hgq20.out.later hb Hgq20.out.lt)
  have Oga22 := hid (Oga20.out.later hb)
  have Ogb22 := hid (Ogb20.out.later hb)
  have Ogp22 := hid (Ogp20.out.later hb)
  have Ogq22 := hid (Ogq20.out.later hb)
  replace S2 := hid (Nat.le_trans S2.out hb.size)
  clear HW20 Hr20 Hb20 Hga20 Hgb20 Hc20 Hd20 Hgp20 Hgq20 Oga20 Ogb20 Ogp20 Ogq20
  clear hb
  have HD := hid (F1.out w21)
  have cr0 : w21.cell? ⟨w.heap.size, 0, none⟩ = some (.int .i32 f) := Hr22.out.cell 0
  have cr1 : w21.cell? ⟨w.heap.size, 1, none⟩ = some (.int .i32 n) := Hr22.out.cell 1
  go_wp2_with fail
  refine Calls.mono HD.out ?_
  rintro e w23 ⟨gc, rfl, ok, ik, hb, hc⟩
  clear HD cr0 cr1
  have Ngc : Hid (gc.In w21.heap.size w23.heap.size) := by
    obtain ⟨W1, h1, h2⟩ := hc.out
    exact G6.in_of ok.out h1 h2
  have Zgc : Hid (w21.heap.size ≤ w23.heap.size) := hb.out.size
  clear hc
  have Ogc0 := hid (ok.out.base HW22.out.size)
  have Igc := hid ik.out
  clear ok ik
  have HW24 := hid (bt HW22.out hb.out)
  have Hr24 := hid (Hr22.out.later hb.out Hr22.out.lt)
  have Hb24 := hid (Hb22.out.later hb.out Hb22.out.lt)
  have Hga24 := hid (Hga22.out.later hb.out Hga22.out.lt)
  have Hgb24 := hid (Hgb22.out.later hb.out Hgb22.out.lt)
  have Hc24 := hid (Hc22.out.later hb.out Hc22.out.lt)
  have Hd24 := hid (Hd22.out.later hb.out Hd22.out.lt)
  have Hgp24 := hid (Hgp22.out.later hb.out Hgp22.out.lt)
  have Hgq24 := hid (Hgq22.out.later hb.out Hgq22.out.lt)
  have Oga24 := hid (Oga22.out.later hb.out)
  have Ogb24 := hid (Ogb22.out.later hb.out)
  have Ogp24 := hid (Ogp22.out.later hb.out)
  have Ogq24 := hid (Ogq22.out.later hb.out)
  clear HW22 Hr22 Hb22 Hga22 Hgb22 Hc22 Hd22 Hgp22 Hgq22 Oga22 Ogb22 Ogp22 Ogq22
  clear hb
  obtain ⟨Ygc, hYgc⟩ : ∃ Y, w23.alloc (.cells #[.bool false, .slice none 0 0, .slice none 0 0, .bool false, .slice none 0 0, .slice none 0 0] 28) = Y := ⟨_, rfl⟩
  have NYgc : Hid (Box Ygc w23.heap.size 28 #[.bool false, .slice none 0 0, .slice none 0 0, .bool false, .slice none 0 0, .slice none 0 0]) := by rw [← hYgc]; exact Box.made w23 _ _
  have BYgc : Hid (Below w23.heap.size w23 Ygc) := by rw [← hYgc]; exact alloc_later _ _
  obtain ⟨Kgc0, Kgc1, Kgc2, Kgc3, Kgc4, Kgc5, qKgc0, qKgc1, qKgc2, qKgc3, qKgc4, qKgc5, ⟨rKgc0, rKgc1, rKgc2, rKgc3, rKgc4, rKgc5⟩, ⟨fKgc0, fKgc1, fKgc2, fKgc3, fKgc4, fKgc5⟩, Pgc⟩ := rchain6 NYgc.out (by decide) (.bool gc.n) (.slice gc.a gc.xs.length gc.ca) (.slice gc.b gc.ys.length gc.cb) (.bool gc.m) (.slice gc.c gc.us.length gc.cc) (.slice gc.d gc.vs.length gc.cd)
  have HW25 : Hid (Below w.heap.size w Kgc5) := Pgc.out.2.2.2.1 _ _ HW24.out.size (bt HW24.out BYgc.out)
  have Hr25 := hid (Pgc.out.2.1 _ _ _ (Nat.ne_of_lt Hr24.out.lt) (Hr24.out.later BYgc.out Hr24.out.lt))
  have Hb25 := hid (Pgc.out.2.1 _ _ _ (Nat.ne_of_lt Hb24.out.lt) (Hb24.out.later BYgc.out Hb24.out.lt))
  have Hga25 := hid (Pgc.out.2.1 _ _ _ (Nat.ne_of_lt Hga24.out.lt) (Hga24.out.later BYgc.out Hga24.out.lt))
  have Hgb25 := hid (Pgc.out.2.1 _ _ _ (Nat.ne_of_lt Hgb24.out.lt) (Hgb24.out.later BYgc.out Hgb24.out.lt))
  have Hc25 := hid (Pgc.out.2.1 _ _ _ (Nat.ne_of_lt Hc24.out.lt) (Hc24.out.later BYgc.out Hc24.out.lt))
  have Hd25 := hid (Pgc.out.2.1 _ _ _ (Nat.ne_of_lt Hd24.out.lt) (Hd24.out.later BYgc.out Hd24.out.lt))
  have Hgp25 := hid (Pgc.out.2.1 _ _ _ (Nat.ne_of_lt Hgp24.out.lt) (Hgp24.out.later BYgc.out Hgp24.out.lt))
  have Hgq25 := hid (Pgc.out.2.1 _ _ _ (Nat.ne_of_lt Hgq24.out.lt) (Hgq24.out.later BYgc.out Hgq24.out.lt))
  have Oga25 := hid (ow_put (Oga24.out.later BYgc.out) Pgc.out.2.2.1)
  have Ogb25 := hid (ow_put (Ogb24.out.later BYgc.out) Pgc.out.2.2.1)
  have Ogp25 := hid (ow_put (Ogp24.out.later BYgc.out) Pgc.out.2.2.1)
  have Ogq25 := hid (ow_put (Ogq24.out.later BYgc.out) Pgc.out.2.2.1)
  have Ogc25 := hid (ow_put (Ogc0.out.later BYgc.out) Pgc.out.2.2.1)
  have Hgc25 := hid Pgc.out.1
  clear HW24 Hr24 Hb24 Hga24 Hgb24 Hc24 Hd24 Hgp24 Hgq24 Oga24 Ogb24 Ogp24 Ogq24 Ogc0 NYgc BYgc Pgc
  have HKK : Hid (∀ V, Below Kgc5.heap.size Kgc5 V → V.cell? ⟨w.heap.size, 0, none⟩ = some (.int .i32 f) ∧ V.cell? ⟨w.heap.size, 1, none⟩ = some (.int .i32 n) ∧ V.cell? ⟨w7.heap.size, 0, none⟩ = some (.int .i32 c1) ∧ V.cell? ⟨w7.heap.size, 1, none⟩ = some (.int .i32 c2) ∧ V.cell? ⟨w10.heap.size, 0, none⟩ = some (.int .i32 c1) ∧ V.cell? ⟨w10.heap.size, 1, none⟩ = some (.int .i32 c2) ∧ V.cell? ⟨w1.heap.size, 0, none⟩ = some (.bool ga.n) ∧ V.cell? ⟨w1.heap.size, 1, none⟩ = some (.slice ga.a ga.xs.length ga.ca) ∧ V.cell? ⟨w1.heap.size, 2, none⟩ = some (.slice ga.b ga.ys.length ga.cb) ∧ V.cell? ⟨w1.heap.size, 3, none⟩ = some (.bool ga.m) ∧ V.cell? ⟨w1.heap.size, 4, none⟩ = some (.slice ga.c ga.us.length ga.cc) ∧ V.cell? ⟨w1.heap.size, 5, none⟩ = some (.slice ga.d ga.vs.length ga.cd) ∧ V.cell? ⟨w4.heap.size, 0, none⟩ = some (.bool gb.n) ∧ V.cell? ⟨w4.heap.size, 1, none⟩ = some (.slice gb.a gb.xs.length gb.ca) ∧ V.cell? ⟨w4.heap.size, 2, none⟩ = some (.slice gb.b gb.ys.length gb.cb) ∧ V.cell? ⟨w4.heap.size, 3, none⟩ = some (.bool gb.m) ∧ V.cell? ⟨w4.heap.size, 4, none⟩ = some (.slice gb.c gb.us.length gb.cc) ∧ V.cell? ⟨w4.heap.size, 5, none⟩ = some (.slice gb.d gb.vs.length gb.cd) ∧ V.cell? ⟨w13.heap.size, 0, none⟩ = some (.bool gp.n) ∧ V.cell? ⟨w13.heap.size, 1, none⟩ = some (.slice gp.a gp.xs.length gp.ca) ∧ V.cell? ⟨w13.heap.size, 2, none⟩ = some (.slice gp.b gp.ys.length gp.cb) ∧ V.cell? ⟨w13.heap.size, 3, none⟩ = some (.bool gp.m) ∧ V.cell? ⟨w13.heap.size, 4, none⟩ = some (.slice gp.c gp.us.length gp.cc) ∧ V.cell? ⟨w13.heap.size, 5, none⟩ = some (.slice gp.d gp.vs.length gp.cd) ∧ V.cell? ⟨w16.heap.size, 0, none⟩ = some (.bool gq.n) ∧ V.cell? ⟨w16.heap.size, 1, none⟩ = some (.slice gq.a gq.xs.length gq.ca) ∧ V.cell? ⟨w16.heap.size, 2, none⟩ = some (.slice gq.b gq.ys.length gq.cb) ∧ V.cell? ⟨w16.heap.size, 3, none⟩ = some (.bool gq.m) ∧ V.cell? ⟨w16.heap.size, 4, none⟩ = some (.slice gq.c gq.us.length gq.cc) ∧ V.cell? ⟨w16.heap.size, 5, none⟩ = some (.slice gq.d gq.vs.length gq.cd)) := fun V hv => by
    have xr := Hr25.out.later hv Hr25.out.lt
    have xc := Hc25.out.later hv Hc25.out.lt
    have xd := Hd25.out.later hv Hd25.out.lt
    have xga := Hga25.out.later hv Hga25.out.lt
    have xgb := Hgb25.out.later hv Hgb25.out.lt
    have xgp := Hgp25.out.later hv Hgp25.out.lt
    have xgq := Hgq25.out.later hv Hgq25.out.lt
    exact ⟨xr.cell 0, xr.cell 1, xc.cell 0, xc.cell 1, xd.cell 0, xd.cell 1, xga.cell 0, xga.cell 1, xga.cell 2, xga.cell 3, xga.cell 4, xga.cell 5, xgb.cell 0, xgb.cell 1, xgb.cell 2, xgb.cell 3, xgb.cell 4, xgb.cell 5, xgp.cell 0, xgp.cell 1, xgp.cell 2, xgp.cell 3, xgp.cell 4, xgp.cell 5, xgq.cell 0, xgq.cell 1, xgq.cell 2, xgq.cell 3, xgq.cell 4, xgq.cell 5⟩
  have Y4 : Hid (∀ V, Below Kgc5.heap.size Kgc5 V → Calls Tryz.prog 17 #[.agg #[.bool ga.n, .slice ga.a ga.xs.length ga.ca, .slice ga.b ga.ys.length ga.cb, .bool ga.m, .slice ga.c ga.us.length ga.cc, .slice ga.d ga.vs.length ga.cd], .agg #[.bool gb.n, .slice gb.a gb.xs.length gb.ca, .slice gb.b gb.ys.length gb.cb, .bool gb.m, .slice gb.c gb.us.length gb.cc, .slice gb.d gb.vs.length gb.cd]] V fun e w' => e = .returned (.bool true) ∧ Below V.heap.size V w') := fun V hv => Iga.out.same Igb.out V ((Iga.out.sl Oga25.out).later hv) ((Igb.out.sl Ogb25.out).later hv)
  have Y5 : Hid (∀ V, Below Kgc5.heap.size Kgc5 V → Calls Tryz.prog 17 #[.agg #[.bool gp.n, .slice gp.a gp.xs.length gp.ca, .slice gp.b gp.ys.length gp.cb, .bool gp.m, .slice gp.c gp.us.length gp.cc, .slice gp.d gp.vs.length gp.cd], .agg #[.bool gq.n, .slice gq.a gq.xs.length gq.ca, .slice gq.b gq.ys.length gq.cb, .bool gq.m, .slice gq.c gq.us.length gq.cc, .slice gq.d gq.vs.length gq.cd]] V fun e w' => e = .returned (.bool true) ∧ Below V.heap.size V w') := fun V hv => Igp.out.same Igq.out V ((Igp.out.sl Ogp25.out).later hv) ((Igq.out.sl Ogq25.out).later hv)
  have hEQ := roEq c1 c2 c1 c2
  simp only [BEq.rfl, Bool.and_self] at hEQ
  have HD := hid (Below.drew (Below.refl Kgc5.heap.size Kgc5))
  have hs0 := HKK.out _ HD.out
  go_upto_region 10 with fail
  clear qKgc0 qKgc1 qKgc2 qKgc3 qKgc4 qKgc5 rKgc0 rKgc1 rKgc2 rKgc3 rKgc4 rKgc5 fKgc0 fKgc1 fKgc2 fKgc3 fKgc4 fKgc5 hYgc
  go_region_held3 (fun V : World => V.cell? ⟨w.heap.size, 0, none⟩ = some (.int .i32 f) ∧ V.cell? ⟨w.heap.size, 1, none⟩ = some (.int .i32 n) ∧ V.cell? ⟨w7.heap.size, 0, none⟩ = some (.int .i32 c1) ∧ V.cell? ⟨w7.heap.size, 1, none⟩ = some (.int .i32 c2) ∧ V.cell? ⟨w10.heap.size, 0, none⟩ = some (.int .i32 c1) ∧ V.cell? ⟨w10.heap.size, 1, none⟩ = some (.int .i32 c2) ∧ V.cell? ⟨w1.heap.size, 0, none⟩ = some (.bool ga.n) ∧ V.cell? ⟨w1.heap.size, 1, none⟩ = some (.slice ga.a ga.xs.length ga.ca) ∧ V.cell? ⟨w1.heap.size, 2, none⟩ = some (.slice ga.b ga.ys.length ga.cb) ∧ V.cell? ⟨w1.heap.size, 3, none⟩ = some (.bool ga.m) ∧ V.cell? ⟨w1.heap.size, 4, none⟩ = some (.slice ga.c ga.us.length ga.cc) ∧ V.cell? ⟨w1.heap.size, 5, none⟩ = some (.slice ga.d ga.vs.length ga.cd) ∧ V.cell? ⟨w4.heap.size, 0, none⟩ = some (.bool gb.n) ∧ V.cell? ⟨w4.heap.size, 1, none⟩ = some (.slice gb.a gb.xs.length gb.ca) ∧ V.cell? ⟨w4.heap.size, 2, none⟩ = some (.slice gb.b gb.ys.length gb.cb) ∧ V.cell? ⟨w4.heap.size, 3, none⟩ = some (.bool gb.m) ∧ V.cell? ⟨w4.heap.size, 4, none⟩ = some (.slice gb.c gb.us.length gb.cc) ∧ V.cell? ⟨w4.heap.size, 5, none⟩ = some (.slice gb.d gb.vs.length gb.cd) ∧ V.cell? ⟨w13.heap.size, 0, none⟩ = some (.bool gp.n) ∧ V.cell? ⟨w13.heap.size, 1, none⟩ = some (.slice gp.a gp.xs.length gp.ca) ∧ V.cell? ⟨w13.heap.size, 2, none⟩ = some (.slice gp.b gp.ys.length gp.cb) ∧ V.cell? ⟨w13.heap.size, 3, none⟩ = some (.bool gp.m) ∧ V.cell? ⟨w13.heap.size, 4, none⟩ = some (.slice gp.c gp.us.length gp.cc) ∧ V.cell? ⟨w13.heap.size, 5, none⟩ = some (.slice gp.d gp.vs.length gp.cd) ∧ V.cell? ⟨w16.heap.size, 0, none⟩ = some (.bool gq.n) ∧ V.cell? ⟨w16.heap.size, 1, none⟩ = some (.slice gq.a gq.xs.length gq.ca) ∧ V.cell? ⟨w16.heap.size, 2, none⟩ = some (.slice gq.b gq.ys.length gq.cb) ∧ V.cell? ⟨w16.heap.size, 3, none⟩ = some (.bool gq.m) ∧ V.cell? ⟨w16.heap.size, 4, none⟩ = some (.slice gq.c gq.us.length gq.cc) ∧ V.cell? ⟨w16.heap.size, 5, none⟩ = some (.slice gq.d gq.vs.length gq.cd)) (first | with_reducible exact hs5 | with_reducible exact hs4 | with_reducible exact hs3 | with_reducible exact hs2 | with_reducible exact hs1 | with_reducible exact hs0)
    (first
      | (go_at_call 17; (with_reducible refine Calls.mono (Y5.out _ hb4.out) ?_); rintro x y5 ⟨rfl, hbx⟩; have hb5 := hid (bt hb4.out hbx); clear hbx; have hs5 := HKK.out _ hb5.out; clear hs4)
      | (go_at_call 17; (with_reducible refine Calls.mono (Y4.out _ hb3.out) ?_); rintro x y4 ⟨rfl, hbx⟩; have hb4 := hid (bt hb3.out hbx); clear hbx; have hs4 := HKK.out _ hb4.out; clear hs3)
      | (go_at_call 16; (with_reducible refine Calls.mono (FA.out _) ?_); rintro x y3 ⟨rfl, hbx⟩; have hb3 := hid (bt hb2.out hbx); clear hbx; have hs3 := HKK.out _ hb3.out; clear hs2)
      | (go_at_call 15; (with_reducible refine Calls.mono (F9.out _) ?_); rintro x y2 ⟨rfl, hbx⟩; have hb2 := hid (bt hb1.out hbx); clear hbx; have hs2 := HKK.out _ hb2.out; clear hs1)
      | (go_at_call 14; (with_reducible refine Calls.mono (olives_any _) ?_); rintro x y1 ⟨rfl, hbx⟩; have hb1 := hid (bt HD.out hbx); clear hbx; have hs1 := HKK.out _ hb1.out; clear hs0))
  clear HKK Y4 Y5 hs5 hEQ F1 F2 F3 F4 F5 F6 F7 F8 F9 FA hb1 hb2 hb3 hb4 HD
  clear Hc25
  clear Hd25
  clear Hgb25
  clear Hgq25
  clear Hb25
  clear Hr25
  clear Ogb25 Igb
  clear Ogq25 Igq
  have hbL := hid hb5.out
  clear hb5
  have HW26 := hid (bt HW25.out hbL.out)
  have Hga26 := hid (Hga25.out.later hbL.out Hga25.out.lt)
  have Hgp26 := hid (Hgp25.out.later hbL.out Hgp25.out.lt)
  have Hgc26 := hid (Hgc25.out.later hbL.out Hgc25.out.lt)
  have Oga26 := hid (Oga25.out.later hbL.out)
  have Ogp26 := hid (Ogp25.out.later hbL.out)
  have Ogc26 := hid (Ogc25.out.later hbL.out)
  clear HW25 Hga25 Hgp25 Hgc25 Oga25 Ogp25 Ogc25
  obtain ⟨U, hU⟩ : ∃ U, y5.alloc (.cells #[.bool ga.n, .slice ga.a ga.xs.length ga.ca, .slice ga.b ga.ys.length ga.cb, .bool ga.m, .slice ga.c ga.us.length ga.cc, .slice ga.d ga.vs.length ga.cd, .bool gp.n, .slice gp.a gp.xs.length gp.ca, .slice gp.b gp.ys.length gp.cb, .bool gp.m, .slice gp.c gp.us.length gp.cc, .slice gp.d gp.vs.length gp.cd, .bool gc.n, .slice gc.a gc.xs.length gc.ca, .slice gc.b gc.ys.length gc.cb, .bool gc.m, .slice gc.c gc.us.length gc.cc, .slice gc.d gc.vs.length gc.cd] 28) = U := ⟨_, rfl⟩
  have BU : Hid (Below y5.heap.size y5 U) := by rw [← hU]; exact alloc_later _ _
  have BX : Hid (Box U y5.heap.size 28 #[.bool ga.n, .slice ga.a ga.xs.length ga.ca, .slice ga.b ga.ys.length ga.cb, .bool ga.m, .slice ga.c ga.us.length ga.cc, .slice ga.d ga.vs.length ga.cd, .bool gp.n, .slice gp.a gp.xs.length gp.ca, .slice gp.b gp.ys.length gp.cb, .bool gp.m, .slice gp.c gp.us.length gp.cc, .slice gp.d gp.vs.length gp.cd, .bool gc.n, .slice gc.a gc.xs.length gc.ca, .slice gc.b gc.ys.length gc.cb, .bool gc.m, .slice gc.c gc.us.length gc.cc, .slice gc.d gc.vs.length gc.cd]) := by rw [← hU]; exact Box.made y5 _ _
  have HO1 := hid (Oga26.out.later BU.out)
  have HO2 := hid (Ogp26.out.later BU.out)
  have HO3 := hid (Ogc26.out.later BU.out)
  have HX : Hid (Calls Tryz.prog 18 #[.slice (some ⟨y5.heap.size, 0, none⟩) 3 3] U fun e w' => e = .returned (.bool true) ∧ Below w.heap.size U w') := by
    have zz := hid (bt HW26.out BU.out).size
    refine apartG6 w.heap.size 3 y5.heap.size 3 (fun j => if j = 0 then ga else if j = 1 then gp else gc) U (by omega) (by omega) ?_ zz.out (by omega) ?_ ?_ (fun j => if j = 0 then X.heap.size else if j = 1 then Kd1.heap.size else w21.heap.size) (fun j => if j = 0 then w1.heap.size else if j = 1 then w13.heap.size else w23.heap.size) ?_ ?_ ?_
    · intro V hV j hj
      have H := BX.out.later hV BX.out.lt
      match j, hj with
      | 0, _ => exact ⟨H.cell 0, H.cell 1, H.cell 2, H.cell 3, H.cell 4, H.cell 5⟩
      | 1, _ => exact ⟨H.cell 6, H.cell 7, H.cell 8, H.cell 9, H.cell 10, H.cell 11⟩
      | 2, _ => exact ⟨H.cell 12, H.cell 13, H.cell 14, H.cell 15, H.cell 16, H.cell 17⟩
    · intro j hj
      match j, hj with
      | 0, _ => exact Iga.out.wd
      | 1, _ => exact Igp.out.wd
      | 2, _ => exact Igc.out.wd
    · intro j hj
      match j, hj with
      | 0, _ => exact HO1.out
      | 1, _ => exact HO2.out
      | 2, _ => exact HO3.out
    · intro j hj
      match j, hj with
      | 0, _ => exact Nga.out
      | 1, _ => exact Ngp.out
      | 2, _ => exact Ngc.out
    · intro j hj
      match j, hj with
      | 0, _ => exact Zga.out
      | 1, _ => exact Zgp.out
      | 2, _ => exact Zgc.out
    · intro j hj
      match j, hj with
      | 0, _ => exact S1.out
      | 1, _ => exact S2.out
  have cga0 : y5.cell? ⟨w1.heap.size, 0, none⟩ = some (.bool ga.n) := Hga26.out.cell 0
  have cga1 : y5.cell? ⟨w1.heap.size, 1, none⟩ = some (.slice ga.a ga.xs.length ga.ca) := Hga26.out.cell 1
  have cga2 : y5.cell? ⟨w1.heap.size, 2, none⟩ = some (.slice ga.b ga.ys.length ga.cb) := Hga26.out.cell 2
  have cga3 : y5.cell? ⟨w1.heap.size, 3, none⟩ = some (.bool ga.m) := Hga26.out.cell 3
  have cga4 : y5.cell? ⟨w1.heap.size, 4, none⟩ = some (.slice ga.c ga.us.length ga.cc) := Hga26.out.cell 4
  have cga5 : y5.cell? ⟨w1.heap.size, 5, none⟩ = some (.slice ga.d ga.vs.length ga.cd) := Hga26.out.cell 5
  have cgp0 : y5.cell? ⟨w13.heap.size, 0, none⟩ = some (.bool gp.n) := Hgp26.out.cell 0
  have cgp1 : y5.cell? ⟨w13.heap.size, 1, none⟩ = some (.slice gp.a gp.xs.length gp.ca) := Hgp26.out.cell 1
  have cgp2 : y5.cell? ⟨w13.heap.size, 2, none⟩ = some (.slice gp.b gp.ys.length gp.cb) := Hgp26.out.cell 2
  have cgp3 : y5.cell? ⟨w13.heap.size, 3, none⟩ = some (.bool gp.m) := Hgp26.out.cell 3
  have cgp4 : y5.cell? ⟨w13.heap.size, 4, none⟩ = some (.slice gp.c gp.us.length gp.cc) := Hgp26.out.cell 4
  have cgp5 : y5.cell? ⟨w13.heap.size, 5, none⟩ = some (.slice gp.d gp.vs.length gp.cd) := Hgp26.out.cell 5
  have cgc0 : y5.cell? ⟨w23.heap.size, 0, none⟩ = some (.bool gc.n) := Hgc26.out.cell 0
  have cgc1 : y5.cell? ⟨w23.heap.size, 1, none⟩ = some (.slice gc.a gc.xs.length gc.ca) := Hgc26.out.cell 1
  have cgc2 : y5.cell? ⟨w23.heap.size, 2, none⟩ = some (.slice gc.b gc.ys.length gc.cb) := Hgc26.out.cell 2
  have cgc3 : y5.cell? ⟨w23.heap.size, 3, none⟩ = some (.bool gc.m) := Hgc26.out.cell 3
  have cgc4 : y5.cell? ⟨w23.heap.size, 4, none⟩ = some (.slice gc.c gc.us.length gc.cc) := Hgc26.out.cell 4
  have cgc5 : y5.cell? ⟨w23.heap.size, 5, none⟩ = some (.slice gc.d gc.vs.length gc.cd) := Hgc26.out.cell 5
  go_wp2_with fail
  clear hU cga0 cga1 cga2 cga3 cga4 cga5 cgp0 cgp1 cgp2 cgp3 cgp4 cgp5 cgc0 cgc1 cgc2 cgc3 cgc4 cgc5
  refine Calls.mono HX.out ?_
  rintro e w9 ⟨rfl, hb9⟩
  have HB9 := hid ((bt HW26.out BU.out).trans hb9)
  clear hb9 HX
  go_wp2_with fail
  go_ret
  exact ⟨rfl, HB9.out⟩
end Go.Proofs.YtcfcjnlobpoglaaGreat

