/- My texts on the way to GaussCalls, one behind the other: contracts of the program and of the document's answers. -/
import Derived.Test.YtlleakifnjfdkaaGreatJ2
import Derived.Test.YtlleakifnjfdkaaGreatJ3
import Derived.Test.YtlleakifnjfdkaaGreatJ4
import Derived.Deep.RegionHeld3
import Derived.Deep.CutRange
namespace Go.Proofs.YtlleakifnjfdkaaGreat
set_option maxRecDepth 100000
open Go.RowKit
set_option linter.unusedVariables false
def DTold (w : World) (E : Int) (L : Prop) (q1 q2 : Rat) (x : Ending) (w' : World) : Prop :=
  ∃ n a ca xs b cb ys m c cc us d cd vs code, x = .returned (.tuple #[.agg #[.bool n, .slice a (List.length xs) ca, .slice b (List.length ys) cb, .bool m, .slice c (List.length us) cc, .slice d (List.length vs) cd], .int .i64 code]) ∧ (Sl w' (.slice a xs.length ca) xs ∧ Sl w' (.slice b ys.length cb) ys ∧ Sl w' (.slice c us.length cc) us ∧ Sl w' (.slice d vs.length cd) vs) ∧ GTells E L q1 q2 n xs ys m us vs code ∧ Below w.heap.size w w'
theorem kp_notlong {n : Bool} {xs ys : List Int} (wx : Wd xs) (wy : Wd ys) (h : rchk n xs ys = 0) : ¬ rlong (rq n xs ys) := fun hl => absurd ((kp_self wx wy h).long rfl hl).2.2.2 (by decide)
theorem kp_long_neg {q : Rat} : rlong (-q) ↔ rlong q := by unfold rlong; rw [Rat.neg_num, Rat.neg_den, Int.natAbs_neg]
theorem kpsl_nil (w : World) : Sl w (.slice none 0 0) [] := ⟨none, 0, rfl, rfl, Wd.nil, .inl rfl, Nat.le_refl _, Nat.zero_le _, fun _ => rfl⟩
theorem kp_zero {w W : World} {E : Int} {L : Prop} {q1 q2 : Rat} (h : E ≠ 0) (hb : Below w.heap.size w W) : DTold w E L q1 q2 (.returned (.tuple #[.agg #[.bool false, .slice none 0 0, .slice none 0 0, .bool false, .slice none 0 0, .slice none 0 0], .int .i64 E])) W :=
  ⟨false, none, 0, [], none, 0, [], false, none, 0, [], none, 0, [], E, rfl, ⟨kpsl_nil _, kpsl_nil _, kpsl_nil _, kpsl_nil _⟩, ⟨⟨Wd.nil, Wd.nil, Wd.nil, Wd.nil⟩, fun _ => ⟨⟨rfl, rfl, rfl, rfl, rfl, rfl⟩, rfl⟩, fun he => absurd he h, fun he => absurd he h⟩, hb⟩
set_option maxHeartbeats 1600000 in
theorem d4Neg_any (n : Bool) (a : Option Addr) (ca : Nat) (xs : List Int) (b : Option Addr) (cb : Nat) (ys : List Int) (m : Bool) (c : Option Addr) (cc : Nat) (us : List Int) (d : Option Addr) (cd : Nat) (vs : List Int) (w : World) (sx : Sl w (.slice a xs.length ca) xs) (sy : Sl w (.slice b ys.length cb) ys) (su : Sl w (.slice c us.length cc) us) (sv : Sl w (.slice d vs.length cd) vs) (lx : xs.length ≤ 281474976710656) (ly : ys.length ≤ 281474976710656) (lu : us.length ≤ 281474976710656) (lv : vs.length ≤ 281474976710656) :
    Calls Tryz.prog 30 #[.agg #[.bool n, .slice a xs.length ca, .slice b ys.length cb, .bool m, .slice c us.length cc, .slice d vs.length cd]] w (DTold w (gchk n xs ys m us vs) (rlong (-(rq n xs ys)) ∨ rlong (-(rq m us vs))) (-(rq n xs ys)) (-(rq m us vs))) := by
  obtain ⟨X, hX⟩ : ∃ X, (w.alloc (.cells #[.bool n, .slice a xs.length ca, .slice b ys.length cb, .bool m, .slice c us.length cc, .slice d vs.length cd] 26)).alloc (.cells #[.bool false, .slice none 0 0, .slice none 0 0, .bool false, .slice none 0 0, .slice none 0 0] 26) = X := ⟨_, rfl⟩
  have b1 : Below w.heap.size w X := by rw [← hX]; exact bt (alloc_later _ _) (alloc_later _ _)
  have HA : Hid (Box X w.heap.size 26 #[.bool n, .slice a xs.length ca, .slice b ys.length cb, .bool m, .slice c us.length cc, .slice d vs.length cd]) := by rw [← hX]; exact (Box.made w _ _).later (alloc_later _ _) (Box.made w _ _).lt
  have HR : Hid (Box X (w.heap.size + 1) 26 #[.bool false, .slice none 0 0, .slice none 0 0, .bool false, .slice none 0 0, .slice none 0 0]) := by
    have h := Box.made (w.alloc (.cells #[.bool n, .slice a xs.length ca, .slice b ys.length cb, .bool m, .slice c us.length cc, .slice d vs.length cd] 26)) 26 #[.bool false, .slice none 0 0, .slice none 0 0, .bool false, .slice none 0 0, .slice none 0 0]
    rw [show (w.alloc (.cells #[.bool n, .slice a xs.length ca, .slice b ys.length cb, .bool m, .slice c us.length cc, .slice d vs.length cd] 26)).heap.size = w.heap.size + 1 by simp, hX] at h
    exact h
  have HC := hid (kpcheck_any n a ca xs b cb ys m c cc us d cd vs X (sx.later b1) (sy.later b1) (su.later b1) (sv.later b1) lx ly lu lv)
  have HN2 : Hid (∀ V, Below X.heap.size X V → Calls Tryz.prog 57 #[.agg #[.bool m, .slice c us.length cc, .slice d vs.length cd]] V (RTold V (rchk m us vs) (-(rq m us vs)))) := fun V hv => dNeg_full m c cc us d cd vs V ((su.later b1).later hv) ((sv.later b1).later hv) lu lv
  have HSX := hid (And.intro sx sy)
  have HNL : Hid (gchk n xs ys m us vs = 0 → rchk n xs ys = 0 ∧ rchk m us vs = 0 ∧ ¬ rlong (rq n xs ys) ∧ ¬ rlong (-(rq m us vs))) := fun h => ⟨(gchk_ok h).1, (gchk_ok h).2, kp_notlong sx.wd sy.wd (gchk_ok h).1, fun h2 => kp_notlong su.wd sv.wd (gchk_ok h).2 (kp_long_neg.1 h2)⟩
  have HN1 : Hid (∀ V, Below X.heap.size X V → Calls Tryz.prog 57 #[.agg #[.bool n, .slice a xs.length ca, .slice b ys.length cb]] V (RTold V (rchk n xs ys) (-(rq n xs ys)))) := fun V hv => dNeg_full n a ca xs b cb ys V ((sx.later b1).later hv) ((sy.later b1).later hv) lx ly
  have HB := hid b1
  have hwX : w.heap.size + 1 < X.heap.size := HR.out.lt
  clear sx sy su sv b1 lx ly lu lv
  obtain ⟨k0, k1, k2, k3, k4, k5⟩ := Kl6.of HA.out
  by_cases hz : gchk n xs ys m us vs = 0
  · have HZ := hid (HNL.out hz)
    rw [hz] at HC
    rw [hz]
    clear HNL hz
    go_enter Tryz.func30, Tryz.ntmps30
    go_wp2_with fail
    clear hX
    refine Calls.mono HC.out ?_
    rintro x w1 ⟨rfl, hb1⟩
    have HW1 := hid hb1
    clear hb1 HC k0 k1 k2 k3 k4 k5
    obtain ⟨k0, k1, k2, k3, k4, k5⟩ := Kl6.of (HA.out.later HW1.out HA.out.lt)
    go_wp2_with fail
    refine Calls.mono (HN1.out w1 HW1.out) ?_
    rintro x w2 ⟨n1, v, xs1, u, ys1, code1, rfl, ov1, ou1, ht1, hb2⟩
    obtain ⟨av1, cv1, rfl⟩ := own_slice' ov1
    obtain ⟨au1, cu1, rfl⟩ := own_slice' ou1
    have HV1 := hid ov1
    have HU1 := hid ou1
    have HT1 := hid ht1
    have HW2 := hid (bt HW1.out hb2)
    have h12 : w1.heap.size ≤ w2.heap.size := hb2.size
    clear ov1 ou1 ht1 hb2 HN1 k0 k1 k2 k3 k4 k5
    have HN := hid (Box.made w2 24 #[.bool n1, .slice av1 xs1.length cv1, .slice au1 ys1.length cu1])
    have HNB := hid (alloc_later w2 (.cells #[.bool n1, .slice av1 xs1.length cv1, .slice au1 ys1.length cu1] 24))
    obtain ⟨Z, hZ⟩ : ∃ Z, w2.alloc (.cells #[.bool n1, .slice av1 xs1.length cv1, .slice au1 ys1.length cu1] 24) = Z := ⟨_, rfl⟩
    rw [hZ] at HN HNB
    have HWZ := hid (bt HW2.out HNB.out)
    obtain ⟨k0, k1, k2, k3, k4, k5⟩ := Kl6.of (HA.out.later HWZ.out HA.out.lt)
    go_wp2_with fail
    clear hZ
    refine Calls.mono (HN2.out Z HWZ.out) ?_
    rintro x w3 ⟨n2, v, xs2, u, ys2, code2, rfl, ov2, ou2, ht2, hb3⟩
    obtain ⟨av2, cv2, rfl⟩ := own_slice' ov2
    obtain ⟨au2, cu2, rfl⟩ := own_slice' ou2
    have HV2 := hid ov2
    have HU2 := hid ou2
    have HT2 := hid ht2
    have HB3 := hid hb3
    have HW3 := hid (bt HWZ.out hb3)
    have h13 : Z.heap.size ≤ w3.heap.size := hb3.size
    have h1X : X.heap.size ≤ Z.heap.size := HWZ.out.size
    clear ov2 ou2 ht2 hb3 HN2 k0 k1 k2 k3 k4 k5
    have HM := hid (Box.made w3 24 #[.bool n2, .slice av2 xs2.length cv2, .slice au2 ys2.length cu2])
    have HMB := hid (alloc_later w3 (.cells #[.bool n2, .slice av2 xs2.length cv2, .slice au2 ys2.length cu2] 24))
    obtain ⟨Q, hQ⟩ : ∃ Q, w3.alloc (.cells #[.bool n2, .slice av2 xs2.length cv2, .slice au2 ys2.length cu2] 24) = Q := ⟨_, rfl⟩
    rw [hQ] at HM HMB
    have HWQ := hid (bt HW3.out HMB.out)
    have HRQ := hid (HR.out.later HWQ.out HR.out.lt)
    have e0 : Q.cell? ⟨w3.heap.size, 0, none⟩ = some (.bool n2) := HM.out.cell 0
    have e1 : Q.cell? ⟨w3.heap.size, 1, none⟩ = some (.slice av2 xs2.length cv2) := HM.out.cell 1
    have e2 : Q.cell? ⟨w3.heap.size, 2, none⟩ = some (.slice au2 ys2.length cu2) := HM.out.cell 2
    have f0 := HRQ.out.free 0
    have f1 := HRQ.out.free 1
    have f2 := HRQ.out.free 2
    have f3 := HRQ.out.free 3
    have f4 := HRQ.out.free 4
    have f5 := HRQ.out.free 5
    obtain ⟨m0, m1, m2, m3, m4, m5⟩ := Kl6.of HRQ.out
    have HNQ := hid (HN.out.later (bt HB3.out HMB.out) HN.out.lt)
    have d0 : Q.cell? ⟨w2.heap.size, 0, none⟩ = some (.bool n1) := HNQ.out.cell 0
    have d1 : Q.cell? ⟨w2.heap.size, 1, none⟩ = some (.slice av1 xs1.length cv1) := HNQ.out.cell 1
    have d2 : Q.cell? ⟨w2.heap.size, 2, none⟩ = some (.slice au1 ys1.length cu1) := HNQ.out.cell 2
    go_wp2_with fail
    have B1 := box_put6 HRQ.out (.bool n1) (.slice av1 xs1.length cv1) (.slice au1 ys1.length cu1) (.bool n2) (.slice av2 xs2.length cv2) (.slice au2 ys2.length cu2)
    have G1 := below_put6 (bt HB.out HWQ.out) (w.heap.size + 1) (by omega) (.bool n1) (.slice av1 xs1.length cv1) (.slice au1 ys1.length cu1) (.bool n2) (.slice av2 xs2.length cv2) (.slice au2 ys2.length cu2)
    have P3 := own_put6 (owns_later HV2.out HMB.out) (w.heap.size + 1) (fun g hg => by have := (HV2.out.lt g hg).1; omega) (.bool n1) (.slice av1 xs1.length cv1) (.slice au1 ys1.length cu1) (.bool n2) (.slice av2 xs2.length cv2) (.slice au2 ys2.length cu2)
    have P4 := own_put6 (owns_later HU2.out HMB.out) (w.heap.size + 1) (fun g hg => by have := (HU2.out.lt g hg).1; omega) (.bool n1) (.slice av1 xs1.length cv1) (.slice au1 ys1.length cu1) (.bool n2) (.slice av2 xs2.length cv2) (.slice au2 ys2.length cu2)
    have P1 := own_put6 (owns_later (owns_later HV1.out HNB.out) (bt HB3.out HMB.out)) (w.heap.size + 1) (fun g hg => by have := (HV1.out.lt g hg).1; have := HW1.out.size; omega) (.bool n1) (.slice av1 xs1.length cv1) (.slice au1 ys1.length cu1) (.bool n2) (.slice av2 xs2.length cv2) (.slice au2 ys2.length cu2)
    have P2 := own_put6 (owns_later (owns_later HU1.out HNB.out) (bt HB3.out HMB.out)) (w.heap.size + 1) (fun g hg => by have := (HU1.out.lt g hg).1; have := HW1.out.size; omega) (.bool n1) (.slice av1 xs1.length cv1) (.slice au1 ys1.length cu1) (.bool n2) (.slice av2 xs2.length cv2) (.slice au2 ys2.length cu2)
    clear m0 m1 m2 m3 m4 m5 f0 f1 f2 f3 f4 f5
    refine bodyPost_ret (gres_run (by rfl) B1 _ rfl) rfl ?_
    obtain ⟨c2, r2, s2⟩ := HT2.out.good HZ.out.2.1 HZ.out.2.2.2
    obtain ⟨c1, r1, s1⟩ := HT1.out.good HZ.out.1 (fun h => HZ.out.2.2.1 (kp_long_neg.1 h))
    exact ⟨n1, av1, cv1, xs1, au1, cu1, ys1, n2, av2, cv2, xs2, au2, cu2, ys2, 0, rfl, ⟨Sl.own P1 HT1.out.wx, Sl.own P2 HT1.out.wy, Sl.own P3 HT2.out.wx, Sl.own P4 HT2.out.wy⟩, ⟨⟨HT1.out.wx, HT1.out.wy, HT2.out.wx, HT2.out.wy⟩, fun h => absurd rfl h, fun _ h => absurd h (fun h => h.elim (fun h => HZ.out.2.2.1 (kp_long_neg.1 h)) HZ.out.2.2.2), fun _ _ => ⟨rfl, ⟨r1, s1⟩, r2, s2⟩⟩, G1⟩
  · obtain ⟨r, hr⟩ : ∃ r, gchk n xs ys m us vs = r := ⟨_, rfl⟩
    rw [hr] at hz HC
    rw [hr]
    have HZ := hid hz
    have hz' : (r != 0) = true := by simpa using hz
    clear HNL hr hz
    go_enter Tryz.func30, Tryz.ntmps30
    go_wp2_with fail
    clear hX
    refine Calls.mono HC.out ?_
    rintro x w1 ⟨rfl, hb1⟩
    have HW1 := hid hb1
    clear hb1 HC k0 k1 k2 k3 k4 k5
    have HRQ := hid (HR.out.later HW1.out HR.out.lt)
    have f0 := HRQ.out.free 0
    have f1 := HRQ.out.free 1
    have f2 := HRQ.out.free 2
    have f3 := HRQ.out.free 3
    have f4 := HRQ.out.free 4
    have f5 := HRQ.out.free 5
    obtain ⟨m0, m1, m2, m3, m4, m5⟩ := Kl6.of HRQ.out
    go_wp2_with fail
    have B1 := box_put6 HRQ.out (.bool false) (.slice none 0 0) (.slice none 0 0) (.bool false) (.slice none 0 0) (.slice none 0 0)
    have G1 := below_put6 (bt HB.out HW1.out) (w.heap.size + 1) (by omega) (.bool false) (.slice none 0 0) (.slice none 0 0) (.bool false) (.slice none 0 0) (.slice none 0 0)
    clear m0 m1 m2 m3 m4 m5 f0 f1 f2 f3 f4 f5
    refine bodyPost_ret (gres_run (by rfl) B1 _ rfl) rfl ?_
    exact kp_zero HZ.out G1
set_option maxHeartbeats 1600000 in
theorem d4Conj_any (n : Bool) (a : Option Addr) (ca : Nat) (xs : List Int) (b : Option Addr) (cb : Nat) (ys : List Int) (m : Bool) (c : Option Addr) (cc : Nat) (us : List Int) (d : Option Addr) (cd : Nat) (vs : List Int) (w : World) (sx : Sl w (.slice a xs.length ca) xs) (sy : Sl w (.slice b ys.length cb) ys) (su : Sl w (.slice c us.length cc) us) (sv : Sl w (.slice d vs.length cd) vs) (lx : xs.length ≤ 281474976710656) (ly : ys.length ≤ 281474976710656) (lu : us.length ≤ 281474976710656) (lv : vs.length ≤ 281474976710656) :
    Calls Tryz.prog 39 #[.agg #[.bool n, .slice a xs.length ca, .slice b ys.length cb, .bool m, .slice c us.length cc, .slice d vs.length cd]] w (DTold w (gchk n xs ys m us vs) (rlong (rq n xs ys) ∨ rlong (-(rq m us vs))) (rq n xs ys) (-(rq m us vs))) := by
  obtain ⟨X, hX⟩ : ∃ X, (w.alloc (.cells #[.bool n, .slice a xs.length ca, .slice b ys.length cb, .bool m, .slice c us.length cc, .slice d vs.length cd] 26)).alloc (.cells #[.bool false, .slice none 0 0, .slice none 0 0, .bool false, .slice none 0 0, .slice none 0 0] 26) = X := ⟨_, rfl⟩
  have b1 : Below w.heap.size w X := by rw [← hX]; exact bt (alloc_later _ _) (alloc_later _ _)
  have HA : Hid (Box X w.heap.size 26 #[.bool n, .slice a xs.length ca, .slice b ys.length cb, .bool m, .slice c us.length cc, .slice d vs.length cd]) := by rw [← hX]; exact (Box.made w _ _).later (alloc_later _ _) (Box.made w _ _).lt
  have HR : Hid (Box X (w.heap.size + 1) 26 #[.bool false, .slice none 0 0, .slice none 0 0, .bool false, .slice none 0 0, .slice none 0 0]) := by
    have h := Box.made (w.alloc (.cells #[.bool n, .slice a xs.length ca, .slice b ys.length cb, .bool m, .slice c us.length cc, .slice d vs.length cd] 26)) 26 #[.bool false, .slice none 0 0, .slice none 0 0, .bool false, .slice none 0 0, .slice none 0 0]
    rw [show (w.alloc (.cells #[.bool n, .slice a xs.length ca, .slice b ys.length cb, .bool m, .slice c us.length cc, .slice d vs.length cd] 26)).heap.size = w.heap.size + 1 by simp, hX] at h
    exact h
  have HC := hid (kpcheck_any n a ca xs b cb ys m c cc us d cd vs X (sx.later b1) (sy.later b1) (su.later b1) (sv.later b1) lx ly lu lv)
  have HN2 : Hid (∀ V, Below X.heap.size X V → Calls Tryz.prog 57 #[.agg #[.bool m, .slice c us.length cc, .slice d vs.length cd]] V (RTold V (rchk m us vs) (-(rq m us vs)))) := fun V hv => dNeg_full m c cc us d cd vs V ((su.later b1).later hv) ((sv.later b1).later hv) lu lv
  have HSX := hid (And.intro sx sy)
  have HNL : Hid (gchk n xs ys m us vs = 0 → rchk n xs ys = 0 ∧ rchk m us vs = 0 ∧ ¬ rlong (rq n xs ys) ∧ ¬ rlong (-(rq m us vs))) := fun h => ⟨(gchk_ok h).1, (gchk_ok h).2, kp_notlong sx.wd sy.wd (gchk_ok h).1, fun h2 => kp_notlong su.wd sv.wd (gchk_ok h).2 (kp_long_neg.1 h2)⟩
  have HB := hid b1
  have hwX : w.heap.size + 1 < X.heap.size := HR.out.lt
  clear sx sy su sv b1 lx ly lu lv
  obtain ⟨k0, k1, k2, k3, k4, k5⟩ := Kl6.of HA.out
  by_cases hz : gchk n xs ys m us vs = 0
  · have HZ := hid (HNL.out hz)
    rw [hz] at HC
    rw [hz]
    clear HNL hz
    go_enter Tryz.func39, Tryz.ntmps39
    go_wp2_with fail
    clear hX
    refine Calls.mono HC.out ?_
    rintro x w1 ⟨rfl, hb1⟩
    have HW1 := hid hb1
    clear hb1 HC k0 k1 k2 k3 k4 k5
    obtain ⟨k0, k1, k2, k3, k4, k5⟩ := Kl6.of (HA.out.later HW1.out HA.out.lt)
    go_wp2_with fail
    refine Calls.mono (HN2.out w1 HW1.out) ?_
    rintro x w3 ⟨n2, v, xs2, u, ys2, code2, rfl, ov2, ou2, ht2, hb3⟩
    obtain ⟨av2, cv2, rfl⟩ := own_slice' ov2
    obtain ⟨au2, cu2, rfl⟩ := own_slice' ou2
    have HV2 := hid ov2
    have HU2 := hid ou2
    have HT2 := hid ht2
    have HB3 := hid hb3
    have HW3 := hid (bt HW1.out hb3)
    have h13 : w1.heap.size ≤ w3.heap.size := hb3.size
    have h1X : X.heap.size ≤ w1.heap.size := HW1.out.size
    clear ov2 ou2 ht2 hb3 HN2 k0 k1 k2 k3 k4 k5
    have HM := hid (Box.made w3 24 #[.bool n2, .slice av2 xs2.length cv2, .slice au2 ys2.length cu2])
    have HMB := hid (alloc_later w3 (.cells #[.bool n2, .slice av2 xs2.length cv2, .slice au2 ys2.length cu2] 24))
    obtain ⟨Q, hQ⟩ : ∃ Q, w3.alloc (.cells #[.bool n2, .slice av2 xs2.length cv2, .slice au2 ys2.length cu2] 24) = Q := ⟨_, rfl⟩
    rw [hQ] at HM HMB
    have HWQ := hid (bt HW3.out HMB.out)
    have HRQ := hid (HR.out.later HWQ.out HR.out.lt)
    have e0 : Q.cell? ⟨w3.heap.size, 0, none⟩ = some (.bool n2) := HM.out.cell 0
    have e1 : Q.cell? ⟨w3.heap.size, 1, none⟩ = some (.slice av2 xs2.length cv2) := HM.out.cell 1
    have e2 : Q.cell? ⟨w3.heap.size, 2, none⟩ = some (.slice au2 ys2.length cu2) := HM.out.cell 2
    have f0 := HRQ.out.free 0
    have f1 := HRQ.out.free 1
    have f2 := HRQ.out.free 2
    have f3 := HRQ.out.free 3
    have f4 := HRQ.out.free 4
    have f5 := HRQ.out.free 5
    obtain ⟨m0, m1, m2, m3, m4, m5⟩ := Kl6.of HRQ.out
    obtain ⟨k0, k1, k2, k3, k4, k5⟩ := Kl6.of (HA.out.later HWQ.out HA.out.lt)
    go_wp2_with fail
    have B1 := box_put6 HRQ.out (.bool n) (.slice a xs.length ca) (.slice b ys.length cb) (.bool n2) (.slice av2 xs2.length cv2) (.slice au2 ys2.length cu2)
    have G1 := below_put6 (bt HB.out HWQ.out) (w.heap.size + 1) (by omega) (.bool n) (.slice a xs.length ca) (.slice b ys.length cb) (.bool n2) (.slice av2 xs2.length cv2) (.slice au2 ys2.length cu2)
    have P3 := own_put6 (owns_later HV2.out HMB.out) (w.heap.size + 1) (fun g hg => by have := (HV2.out.lt g hg).1; omega) (.bool n) (.slice a xs.length ca) (.slice b ys.length cb) (.bool n2) (.slice av2 xs2.length cv2) (.slice au2 ys2.length cu2)
    have P4 := own_put6 (owns_later HU2.out HMB.out) (w.heap.size + 1) (fun g hg => by have := (HU2.out.lt g hg).1; omega) (.bool n) (.slice a xs.length ca) (.slice b ys.length cb) (.bool n2) (.slice av2 xs2.length cv2) (.slice au2 ys2.length cu2)
    clear m0 m1 m2 m3 m4 m5 f0 f1 f2 f3 f4 f5
    refine bodyPost_ret (gres_run (by rfl) B1 _ rfl) rfl ?_
    obtain ⟨c2, r2, s2⟩ := HT2.out.good HZ.out.2.1 HZ.out.2.2.2
    exact ⟨n, a, ca, xs, b, cb, ys, n2, av2, cv2, xs2, au2, cu2, ys2, 0, rfl, ⟨HSX.out.1.later G1, HSX.out.2.later G1, Sl.own P3 HT2.out.wx, Sl.own P4 HT2.out.wy⟩, ⟨⟨HSX.out.1.wd, HSX.out.2.wd, HT2.out.wx, HT2.out.wy⟩, fun h => absurd rfl h, fun _ h => absurd h (fun h => h.elim HZ.out.2.2.1 HZ.out.2.2.2), fun _ _ => ⟨rfl, ⟨HZ.out.1, rfl⟩, r2, s2⟩⟩, G1⟩
  · obtain ⟨r, hr⟩ : ∃ r, gchk n xs ys m us vs = r := ⟨_, rfl⟩
    rw [hr] at hz HC
    rw [hr]
    have HZ := hid hz
    have hz' : (r != 0) = true := by simpa using hz
    clear HNL hr hz
    go_enter Tryz.func39, Tryz.ntmps39
    go_wp2_with fail
    clear hX
    refine Calls.mono HC.out ?_
    rintro x w1 ⟨rfl, hb1⟩
    have HW1 := hid hb1
    clear hb1 HC k0 k1 k2 k3 k4 k5
    have HRQ := hid (HR.out.later HW1.out HR.out.lt)
    have f0 := HRQ.out.free 0
    have f1 := HRQ.out.free 1
    have f2 := HRQ.out.free 2
    have f3 := HRQ.out.free 3
    have f4 := HRQ.out.free 4
    have f5 := HRQ.out.free 5
    obtain ⟨m0, m1, m2, m3, m4, m5⟩ := Kl6.of HRQ.out
    go_wp2_with fail
    have B1 := box_put6 HRQ.out (.bool false) (.slice none 0 0) (.slice none 0 0) (.bool false) (.slice none 0 0) (.slice none 0 0)
    have G1 := below_put6 (bt HB.out HW1.out) (w.heap.size + 1) (by omega) (.bool false) (.slice none 0 0) (.slice none 0 0) (.bool false) (.slice none 0 0) (.slice none 0 0)
    clear m0 m1 m2 m3 m4 m5 f0 f1 f2 f3 f4 f5
    refine bodyPost_ret (gres_run (by rfl) B1 _ rfl) rfl ?_
    exact kp_zero HZ.out G1
set_option maxHeartbeats 800000 in
theorem d4Zero_any (n : Bool) (a : Option Addr) (ca : Nat) (xs : List Int) (b : Option Addr) (cb : Nat) (ys : List Int) (m : Bool) (c : Option Addr) (cc : Nat) (us : List Int) (d : Option Addr) (cd : Nat) (vs : List Int) (w : World) (sx : Sl w (.slice a xs.length ca) xs) (sy : Sl w (.slice b ys.length cb) ys) (su : Sl w (.slice c us.length cc) us) (sv : Sl w (.slice d vs.length cd) vs) (lx : xs.length ≤ 281474976710656) (ly : ys.length ≤ 281474976710656) (lu : us.length ≤ 281474976710656) (lv : vs.length ≤ 281474976710656) :
    Calls Tryz.prog 37 #[.agg #[.bool n, .slice a xs.length ca, .slice b ys.length cb, .bool m, .slice c us.length cc, .slice d vs.length cd]] w fun x w' => x = .returned (.bool ((xs.length == 0 && us.length == 0) && (gchk n xs ys m us vs == 0))) ∧ Below w.heap.size w w' := by
  obtain ⟨X, hX⟩ : ∃ X, w.alloc (.cells #[.bool n, .slice a xs.length ca, .slice b ys.length cb, .bool m, .slice c us.length cc, .slice d vs.length cd] 26) = X := ⟨_, rfl⟩
  have b1 : Below w.heap.size w X := by rw [← hX]; exact alloc_later _ _
  have HA : Hid (Box X w.heap.size 26 #[.bool n, .slice a xs.length ca, .slice b ys.length cb, .bool m, .slice c us.length cc, .slice d vs.length cd]) := by rw [← hX]; exact Box.made w _ _
  have HC := hid (kpcheck_any n a ca xs b cb ys m c cc us d cd vs X (sx.later b1) (sy.later b1) (su.later b1) (sv.later b1) lx ly lu lv)
  have HB := hid b1
  clear sx sy su sv b1 ly lv
  obtain ⟨k0, k1, k2, k3, k4, k5⟩ := Kl6.of HA.out
  generalize gchk n xs ys m us vs = r at *
  obtain ⟨res, hres⟩ : ∃ res, ((xs.length == 0 && us.length == 0) && (r == 0)) = res := ⟨_, rfl⟩
  rw [hres]
  have HE := hid hres
  clear hres
  by_cases hz : r = 0
  · subst hz
    go_enter Tryz.func37, Tryz.ntmps37
    go_wp2_with fail
    clear hX
    refine Calls.mono HC.out ?_
    rintro x w1 ⟨rfl, hb1⟩
    have HW1 := hid (bt HB.out hb1)
    clear k0 k1 k2 k3 k4 k5
    obtain ⟨k0, k1, k2, k3, k4, k5⟩ := Kl6.of (HA.out.later hb1 HA.out.lt)
    clear hb1 HC
    by_cases h1 : xs.length = 0
    · have h1' : ((xs.length : Int) == 0) = true := by simp [h1]
      by_cases h2 : us.length = 0
      · have h2' : ((us.length : Int) == 0) = true := by simp [h2]
        have hr : res = true := by rw [← HE.out, h1, h2]; rfl
        subst hr
        clear h1 h2 HE
        go_wp2_with fail
        go_ret
        exact ⟨rfl, HW1.out⟩
      · have h2' : ((us.length : Int) == 0) = false := beq_eq_false_iff_ne.2 (by omega)
        have hr : res = false := by rw [← HE.out, h1, show (us.length == 0) = false from beq_eq_false_iff_ne.2 h2]; rfl
        subst hr
        clear h1 h2 HE
        go_wp2_with fail
        go_ret
        exact ⟨rfl, HW1.out⟩
    · have h1' : ((xs.length : Int) == 0) = false := beq_eq_false_iff_ne.2 (by omega)
      have hr : res = false := by rw [← HE.out, show (xs.length == 0) = false from beq_eq_false_iff_ne.2 h1]; rfl
      subst hr
      clear h1 HE
      go_wp2_with fail
      go_ret
      exact ⟨rfl, HW1.out⟩
  · have h1' : (r == 0) = false := by simpa using hz
    have hr : res = false := by rw [← HE.out, h1', Bool.and_false]
    subst hr
    clear HE
    go_enter Tryz.func37, Tryz.ntmps37
    go_wp2_with fail
    clear hX
    refine Calls.mono HC.out ?_
    rintro x w1 ⟨rfl, hb1⟩
    have HW1 := hid (bt HB.out hb1)
    clear hb1 HC k0 k1 k2 k3 k4 k5
    go_wp2_with fail
    go_ret
    exact ⟨rfl, HW1.out⟩
structure GInv (w : World) (p : Nat) (E : Int) (l : List (Nat × Nat × Array Value)) (V : World) : Prop where
  err : Box V p 53 #[.int .i64 E]
  grown : w.grownBy V (some p)
  box : ∀ x ∈ l, Box V x.1 x.2.1 x.2.2 ∧ x.1 ≠ p
theorem GInv.drew {w V : World} {p : Nat} {E : Int} {l : List (Nat × Nat × Array Value)} (h : GInv w p E l V) : GInv w p E l V.drew := ⟨h.err, ⟨h.grown.os, h.grown.tape, h.grown.output, h.grown.size, h.grown.block⟩, h.box⟩
theorem GInv.step {w V V' : World} {p : Nat} {E code : Int} {l : List (Nat × Nat × Array Value)} (h : GInv w p E l V) (hp : Box V' p 53 #[.int .i64 code]) (hg : V.grownBy V' (some p)) : GInv w p code l V' :=
  ⟨hp, grow_trans h.grown hg, fun x hx => ⟨(h.box x hx).1.kept' hg (fun e => (h.box x hx).2 (Option.some.inj e)), (h.box x hx).2⟩⟩
theorem GInv.alloc {w V : World} {p : Nat} {E : Int} {l : List (Nat × Nat × Array Value)} (h : GInv w p E l V) (ob : Obj) : GInv w p E l (V.alloc ob) :=
  ⟨h.err.later (alloc_later V ob) h.err.lt, grow_trans h.grown (World.grownBy_alloc V ob (some p)), fun x hx => ⟨(h.box x hx).1.later (alloc_later V ob) (h.box x hx).1.lt, (h.box x hx).2⟩⟩
structure GRow (V : World) (base : Nat) (n : Bool) (v : Value) (xs : List Int) (u : Value) (ys : List Int) : Prop where
  ov : V.ownsRow base 63 1 v xs.length (xs.map (Value.int .u32))
  ou : V.ownsRow base 63 1 u ys.length (ys.map (Value.int .u32))
theorem GRow.step {V V' : World} {base p : Nat} {n : Bool} {v u : Value} {xs ys : List Int} (h : GRow V base n v xs u ys) (hp : p < base) (hg : V.grownBy V' (some p)) : GRow V' base n v xs u ys := by
  have hk : ∀ (x : Value), (∀ g, x.ownBlock = some g → base ≤ g) → x.ownBlock = none ∨ x.ownBlock ≠ some p := fun x h1 => by
    cases e : x.ownBlock with
    | none => exact .inl rfl
    | some g => right; intro h; have e2 := Option.some.inj h; have := h1 g e; omega
  exact ⟨World.ownsRow.kept h.ov hg (hk _ (fun g hg => (h.ov.lt g hg).1)), World.ownsRow.kept h.ou hg (hk _ (fun g hg => (h.ou.lt g hg).1))⟩
theorem GRow.sl {V : World} {base : Nat} {n : Bool} {v u : Value} {xs ys : List Int} (h : GRow V base n v xs u ys) (wx : Wd xs) (wy : Wd ys) : Sl V v xs ∧ Sl V u ys := ⟨Sl.own h.ov wx, Sl.own h.ou wy⟩
theorem cells6 {W : World} {b t : Nat} {u0 u1 u2 u3 u4 u5 : Value} (h : Box W b t #[u0, u1, u2, u3, u4, u5]) : W.cell? ⟨b, 0, none⟩ = some u0 ∧ W.cell? ⟨b, 1, none⟩ = some u1 ∧ W.cell? ⟨b, 2, none⟩ = some u2 ∧ W.cell? ⟨b, 3, none⟩ = some u3 ∧ W.cell? ⟨b, 4, none⟩ = some u4 ∧ W.cell? ⟨b, 5, none⟩ = some u5 :=
  ⟨h.cell 0, h.cell 1, h.cell 2, h.cell 3, h.cell 4, h.cell 5⟩
set_option maxHeartbeats 3200000 in
theorem gsquare_any (p : Nat) (E : Int) (n : Bool) (a : Option Addr) (ca : Nat) (xs : List Int) (b : Option Addr) (cb : Nat) (ys : List Int) (m : Bool) (c : Option Addr) (cc : Nat) (us : List Int) (d : Option Addr) (cd : Nat) (vs : List Int) (w : World) (hp : Box w p 53 #[.int .i64 E]) (HS : ∀ V, w.grownBy V (some p) → Sl V (.slice a xs.length ca) xs ∧ Sl V (.slice b ys.length cb) ys ∧ Sl V (.slice c us.length cc) us ∧ Sl V (.slice d vs.length cd) vs) :
    Calls Tryz.prog 34 #[.pointer (some ⟨p, 0, none⟩), .agg #[.bool n, .slice a xs.length ca, .slice b ys.length cb, .bool m, .slice c us.length cc, .slice d vs.length cd]] w fun x w' => ∃ n1 x1 y1 c1 n2 x2 y2 c2, RTells (fstE E (rboth n xs ys n xs ys)) (rq n xs ys * rq n xs ys) n1 x1 y1 c1 ∧ RTells (fstE c1 (rboth m us vs m us vs)) (rq m us vs * rq m us vs) n2 x2 y2 c2 ∧ GTell w p (fstE c2 (rboth n1 x1 y1 n2 x2 y2)) (rq n1 x1 y1 + rq n2 x2 y2) x w' := by
  have e1 : (w.alloc (.cells #[.bool n, .slice a xs.length ca, .slice b ys.length cb, .bool m, .slice c us.length cc, .slice d vs.length cd] 26)).heap.size = w.heap.size + 1 := World.size_alloc _ _
  have hpw : p < w.heap.size := hp.lt
  have HI : Hid (GInv w p E [(w.heap.size, 26, #[.bool n, .slice a xs.length ca, .slice b ys.length cb, .bool m, .slice c us.length cc, .slice d vs.length cd]), (w.heap.size + 1, 24, #[.bool false, .slice none 0 0, .slice none 0 0])] ((w.alloc (.cells #[.bool n, .slice a xs.length ca, .slice b ys.length cb, .bool m, .slice c us.length cc, .slice d vs.length cd] 26)).alloc (.cells #[.bool false, .slice none 0 0, .slice none 0 0] 24))) := by
    have A := Box.made w 26 #[.bool n, .slice a xs.length ca, .slice b ys.length cb, .bool m, .slice c us.length cc, .slice d vs.length cd]
    have B := Box.made (w.alloc (.cells #[.bool n, .slice a xs.length ca, .slice b ys.length cb, .bool m, .slice c us.length cc, .slice d vs.length cd] 26)) 24 #[.bool false, .slice none 0 0, .slice none 0 0]
    refine ⟨(hp.later (alloc_later _ _) hp.lt).later (alloc_later _ _) (hp.later (alloc_later _ _) hp.lt).lt, grow_below (bt (alloc_later _ _) (alloc_later _ _)) _, fun x hx => ?_⟩
    cases hx with
    | head => exact ⟨A.later (alloc_later _ _) A.lt, by show w.heap.size ≠ p; omega⟩
    | tail _ hx =>
      cases hx with
      | head => exact ⟨e1 ▸ B, by show w.heap.size + 1 ≠ p; omega⟩
      | tail _ hx => cases hx
  obtain ⟨X, hX⟩ : ∃ X, (w.alloc (.cells #[.bool n, .slice a xs.length ca, .slice b ys.length cb, .bool m, .slice c us.length cc, .slice d vs.length cd] 26)).alloc (.cells #[.bool false, .slice none 0 0, .slice none 0 0] 24) = X := ⟨_, rfl⟩
  rw [hX] at HI
  have HSS := hid HS
  have HPW := hid hpw
  have H1 : Hid (∀ V EE, GInv w p EE [(w.heap.size, 26, #[.bool n, .slice a xs.length ca, .slice b ys.length cb, .bool m, .slice c us.length cc, .slice d vs.length cd]), (w.heap.size + 1, 24, #[.bool false, .slice none 0 0, .slice none 0 0])] V → Calls Tryz.prog 43 #[.pointer (some ⟨p, 0, none⟩), .agg #[.bool n, .slice a xs.length ca, .slice b ys.length cb], .agg #[.bool n, .slice a xs.length ca, .slice b ys.length cb]] V (fun x w1 => ∃ n1 a1 k1 x1 b1 l1 y1 code, x = .returned (.agg #[.bool n1, .slice a1 (List.length x1) k1, .slice b1 (List.length y1) l1]) ∧ Hid (RTells (fstE EE (rboth n xs ys n xs ys)) (rq n xs ys * rq n xs ys) n1 x1 y1 code) ∧ Hid (GInv w p code [(w.heap.size, 26, #[.bool n, .slice a xs.length ca, .slice b ys.length cb, .bool m, .slice c us.length cc, .slice d vs.length cd]), (w.heap.size + 1, 24, #[.bool false, .slice none 0 0, .slice none 0 0])] w1) ∧ Hid (GRow w1 w.heap.size n1 (.slice a1 (List.length x1) k1) x1 (.slice b1 (List.length y1) l1) y1) ∧ Hid (V.grownBy w1 (some p)) ∧ (w1.cell? ⟨w.heap.size, 0, none⟩ = some (.bool n) ∧ w1.cell? ⟨w.heap.size, 1, none⟩ = some (.slice a xs.length ca) ∧ w1.cell? ⟨w.heap.size, 2, none⟩ = some (.slice b ys.length cb) ∧ w1.cell? ⟨w.heap.size, 3, none⟩ = some (.bool m) ∧ w1.cell? ⟨w.heap.size, 4, none⟩ = some (.slice c us.length cc) ∧ w1.cell? ⟨w.heap.size, 5, none⟩ = some (.slice d vs.length cd)))) := by
    refine hid (fun V EE hv => ?_)
    obtain ⟨h1, h2, h3, h4⟩ := HSS.out V hv.grown
    refine Calls.mono (gproduct_any p EE n a ca xs b cb ys n a ca xs b cb ys V hv.err h1 h2 h1 h2) ?_
    rintro x w1 ⟨k, v, zs, u, ts, code, rfl, ov, ou, ht, hpb, hg, hcut⟩
    obtain ⟨av, cv, rfl⟩ := own_slice' ov
    obtain ⟨au, cu, rfl⟩ := own_slice' ou
    have hi := hv.step hpb hg
    exact ⟨k, av, cv, zs, au, cu, ts, code, rfl, hid ht, hid hi, hid ⟨owns_base ov hv.grown.size, owns_base ou hv.grown.size⟩, hid hg, cells6 (hi.box _ (List.mem_cons_self ..)).1⟩
  have H2 : Hid (∀ V EE, GInv w p EE [(w.heap.size, 26, #[.bool n, .slice a xs.length ca, .slice b ys.length cb, .bool m, .slice c us.length cc, .slice d vs.length cd]), (w.heap.size + 1, 24, #[.bool false, .slice none 0 0, .slice none 0 0])] V → Calls Tryz.prog 43 #[.pointer (some ⟨p, 0, none⟩), .agg #[.bool m, .slice c us.length cc, .slice d vs.length cd], .agg #[.bool m, .slice c us.length cc, .slice d vs.length cd]] V (fun x w1 => ∃ n1 a1 k1 x1 b1 l1 y1 code, x = .returned (.agg #[.bool n1, .slice a1 (List.length x1) k1, .slice b1 (List.length y1) l1]) ∧ Hid (RTells (fstE EE (rboth m us vs m us vs)) (rq m us vs * rq m us vs) n1 x1 y1 code) ∧ Hid (GInv w p code [(w.heap.size, 26, #[.bool n, .slice a xs.length ca, .slice b ys.length cb, .bool m, .slice c us.length cc, .slice d vs.length cd]), (w.heap.size + 1, 24, #[.bool false, .slice none 0 0, .slice none 0 0])] w1) ∧ Hid (GRow w1 w.heap.size n1 (.slice a1 (List.length x1) k1) x1 (.slice b1 (List.length y1) l1) y1) ∧ Hid (V.grownBy w1 (some p)) ∧ (w1.cell? ⟨w.heap.size, 0, none⟩ = some (.bool n) ∧ w1.cell? ⟨w.heap.size, 1, none⟩ = some (.slice a xs.length ca) ∧ w1.cell? ⟨w.heap.size, 2, none⟩ = some (.slice b ys.length cb) ∧ w1.cell? ⟨w.heap.size, 3, none⟩ = some (.bool m) ∧ w1.cell? ⟨w.heap.size, 4, none⟩ = some (.slice c us.length cc) ∧ w1.cell? ⟨w.heap.size, 5, none⟩ = some (.slice d vs.length cd)))) := by
    refine hid (fun V EE hv => ?_)
    obtain ⟨h1, h2, h3, h4⟩ := HSS.out V hv.grown
    refine Calls.mono (gproduct_any p EE m c cc us d cd vs m c cc us d cd vs V hv.err h3 h4 h3 h4) ?_
    rintro x w1 ⟨k, v, zs, u, ts, code, rfl, ov, ou, ht, hpb, hg, hcut⟩
    obtain ⟨av, cv, rfl⟩ := own_slice' ov
    obtain ⟨au, cu, rfl⟩ := own_slice' ou
    have hi := hv.step hpb hg
    exact ⟨k, av, cv, zs, au, cu, ts, code, rfl, hid ht, hid hi, hid ⟨owns_base ov hv.grown.size, owns_base ou hv.grown.size⟩, hid hg, cells6 (hi.box _ (List.mem_cons_self ..)).1⟩
  have H3 : Hid (∀ (V : World) (EE : Int) (n1 : Bool) (a1 : Option Addr) (k1 : Nat) (x1 : List Int) (b1 : Option Addr) (l1 : Nat) (y1 : List Int) (n2 : Bool) (a2 : Option Addr) (k2 : Nat) (x2 : List Int) (b2 : Option Addr) (l2 : Nat) (y2 : List Int), GInv w p EE [(w.heap.size, 26, #[.bool n, .slice a xs.length ca, .slice b ys.length cb, .bool m, .slice c us.length cc, .slice d vs.length cd]), (w.heap.size + 1, 24, #[.bool false, .slice none 0 0, .slice none 0 0])] V → Sl V (.slice a1 x1.length k1) x1 ∧ Sl V (.slice b1 y1.length l1) y1 → Sl V (.slice a2 x2.length k2) x2 ∧ Sl V (.slice b2 y2.length l2) y2 → Calls Tryz.prog 25 #[.pointer (some ⟨p, 0, none⟩), .agg #[.bool n1, .slice a1 x1.length k1, .slice b1 y1.length l1], .agg #[.bool n2, .slice a2 x2.length k2, .slice b2 y2.length l2]] V (fun x w1 => ∃ n3 a3 k3 x3 b3 l3 y3 code, x = .returned (.agg #[.bool n3, .slice a3 (List.length x3) k3, .slice b3 (List.length y3) l3]) ∧ Hid (RTells (fstE EE (rboth n1 x1 y1 n2 x2 y2)) (rq n1 x1 y1 + rq n2 x2 y2) n3 x3 y3 code) ∧ Hid (GInv w p code [(w.heap.size, 26, #[.bool n, .slice a xs.length ca, .slice b ys.length cb, .bool m, .slice c us.length cc, .slice d vs.length cd]), (w.heap.size + 1, 24, #[.bool false, .slice none 0 0, .slice none 0 0])] w1) ∧ Hid (w1.ownsRow V.heap.size 63 1 (.slice a3 (List.length x3) k3) x3.length (x3.map (Value.int .u32)) ∧ w1.ownsRow V.heap.size 63 1 (.slice b3 (List.length y3) l3) y3.length (y3.map (Value.int .u32))) ∧ Hid (Cut V (.slice a3 (List.length x3) k3) (.slice b3 (List.length y3) l3) w1) ∧ (w1.cell? ⟨w.heap.size + 1, 0, none⟩ = some (.bool false) ∧ w1.cell? ⟨w.heap.size + 1, 1, none⟩ = some (.slice none 0 0) ∧ w1.cell? ⟨w.heap.size + 1, 2, none⟩ = some (.slice none 0 0) ∧ w1.frozen? ⟨w.heap.size + 1, 0, none⟩ = false ∧ w1.frozen? ⟨w.heap.size + 1, 1, none⟩ = false ∧ w1.frozen? ⟨w.heap.size + 1, 2, none⟩ = false) ∧ (w1.cell? ⟨w.heap.size, 0, none⟩ = some (.bool n) ∧ w1.cell? ⟨w.heap.size, 1, none⟩ = some (.slice a xs.length ca) ∧ w1.cell? ⟨w.heap.size, 2, none⟩ = some (.slice b ys.length cb) ∧ w1.cell? ⟨w.heap.size, 3, none⟩ = some (.bool m) ∧ w1.cell? ⟨w.heap.size, 4, none⟩ = some (.slice c us.length cc) ∧ w1.cell? ⟨w.heap.size, 5, none⟩ = some (.slice d vs.length cd)))) := by
    refine hid (fun V EE n1 a1 k1 x1 b1 l1 y1 n2 a2 k2 x2 b2 l2 y2 hv h1 h2 => ?_)
    refine Calls.mono (gsum_any p EE n1 a1 k1 x1 b1 l1 y1 n2 a2 k2 x2 b2 l2 y2 V hv.err h1.1 h1.2 h2.1 h2.2) ?_
    rintro x w1 ⟨k, v, zs, u, ts, code, rfl, ov, ou, ht, hpb, hg, hcut⟩
    obtain ⟨av, cv, rfl⟩ := own_slice' ov
    obtain ⟨au, cu, rfl⟩ := own_slice' ou
    have hi := hv.step hpb hg
    have hb2 := (hi.box _ (List.mem_cons_of_mem _ (List.mem_cons_self ..))).1
    exact ⟨k, av, cv, zs, au, cu, ts, code, rfl, hid ht, hid hi, hid ⟨ov, ou⟩, hid hcut, ⟨hb2.cell 0, hb2.cell 1, hb2.cell 2, hb2.free 0, hb2.free 1, hb2.free 2⟩, cells6 (hi.box _ (List.mem_cons_self ..)).1⟩
  have hs00 := cells6 (HI.out.box _ (List.mem_cons_self ..)).1
  have HD := hid HI.out.drew
  obtain ⟨c0, c1, c2, c3, c4, c5⟩ := hs00
  clear HS HSS hp
  go_enter Tryz.func34, Tryz.ntmps34
  go_wp2_with fail
  go_region_held3 (fun V : World => V.cell? ⟨w.heap.size, 0, none⟩ = some (.bool n) ∧ V.cell? ⟨w.heap.size, 1, none⟩ = some (.slice a xs.length ca) ∧ V.cell? ⟨w.heap.size, 2, none⟩ = some (.slice b ys.length cb) ∧ V.cell? ⟨w.heap.size, 3, none⟩ = some (.bool m) ∧ V.cell? ⟨w.heap.size, 4, none⟩ = some (.slice c us.length cc) ∧ V.cell? ⟨w.heap.size, 5, none⟩ = some (.slice d vs.length cd)) (first | exact hs3 | exact cells6 (box_far3 (i3.out.box _ (List.mem_cons_self ..)).1 (by omega) _ _ _) | exact hs2 | exact hs1 | exact hs0 | exact ⟨c0, c1, c2, c3, c4, c5⟩)
    (first
      | (go_at_call 43; with_reducible refine Calls.mono (H2.out w1 e1' i1.out) ?_; rintro x w2 ⟨n2, a2, k2, x2, b2, l2, y2, e2, rfl, t2, i2, r2, g2, hs2⟩)
      | (go_at_call 43; with_reducible refine Calls.mono (H1.out _ E HD.out) ?_; rintro x w1 ⟨n1, a1, k1, x1, b1, l1, y1, e1', rfl, t1, i1, r1, g1, hs1⟩)
      | (go_at_call 25; with_reducible refine Calls.mono (H3.out w2 e2 n1 a1 k1 x1 b1 l1 y1 n2 a2 k2 x2 b2 l2 y2 i2.out ((r1.out.step HPW.out g2.out).sl t1.out.wx t1.out.wy) (r2.out.sl t2.out.wx t2.out.wy)) ?_; rintro x w3 ⟨n3, a3, k3, x3, b3, l3, y3, e3, rfl, t3, i3, r3, cut3, ⟨m0, m1, m2, f0, f1, f2⟩, hs3⟩))
  all_goals
    have hb1 : w.heap.size + 1 < w2.heap.size := (i2.out.box _ (List.mem_cons_of_mem _ (List.mem_cons_self ..))).1.lt
    have HB1 := hid hb1
    clear hs1 hs2 hs3 hb1 H1 H2 H3 HD c0 c1 c2 c3 c4 c5
    go_wp2_with fail
    have hb1 := HB1.out
    have HM := (i3.out.box _ (List.mem_cons_of_mem _ (List.mem_cons_self ..))).1
    have hv : ∀ b', (Value.slice a3 x3.length k3).ownBlock = some b' → b' ≠ w.heap.size + 1 := fun b' hb => by have := (r3.out.1.lt b' hb).1; omega
    have hu : ∀ b', (Value.slice b3 y3.length l3).ownBlock = some b' → b' ≠ w.heap.size + 1 := fun b' hb => by have := (r3.out.2.lt b' hb).1; omega
    have B1 := box_put3 HM (.bool n3) (.slice a3 x3.length k3) (.slice b3 y3.length l3)
    have P1 := box_far3 i3.out.err (show p ≠ w.heap.size + 1 by omega) (.bool n3) (.slice a3 x3.length k3) (.slice b3 y3.length l3)
    have V1 := own_put3' r3.out.1 _ hv (.bool n3) (.slice a3 x3.length k3) (.slice b3 y3.length l3)
    have U1 := own_put3' r3.out.2 _ hu (.bool n3) (.slice a3 x3.length k3) (.slice b3 y3.length l3)
    have G1 := grow_put3 i3.out.grown (w.heap.size + 1) (.bool n3) (.slice a3 x3.length k3) (.slice b3 y3.length l3) (.inl (by omega))
    have hXw : w.heap.size ≤ w2.heap.size := by omega
    refine bodyPost_ret (results_cell_row (by rfl) _ _ (w.heap.size + 1) 24 _ (0, 0) _ (by rfl) B1 Tryz.underlying24 rfl (by kernel_rfl)) rfl ?_
    exact ⟨n1, x1, y1, e1', n2, x2, y2, e2, t1.out, t2.out, n3, _, x3, _, y3, e3, rfl, owns_base V1 hXw, owns_base U1 hXw, t3.out, P1, G1, cut3.out.up hXw (by simp [World.setCell])⟩
theorem gresr_run {fn : Func} {W : World} {b q u : Nat} {cs : Array Value} (hr : fn.results = #[.cell q 24, .tmp u]) (hb : Box W b 24 cs) (tmps : Array Value) (h4 : tmps.getD q undef = .pointer (some ⟨b, 0, none⟩)) (hi : (Tryz.prog.info? 24).map (·.size) = some cs.size := by kernel_rfl) : (results fn tmps).run Tryz.prog W = .ok (.tuple #[.agg cs, tmps.getD u undef]) W := by
  have h := run_loadVar_row (P := Tryz.prog) W b 24 24 cs (0, 0) _ hb Tryz.underlying24 rfl hi
  rw [results_cell_tmp hr, h4]
  simp [asAddr, h]
def PrT (less : Bool) (E e1 : Int) (q1 : Rat) (e2 : Int) (q2 : Rat) (n : Bool) (xs ys : List Int) (code : Int) : Prop :=
  ∃ n1 x1 y1 c1 n2 x2 y2 c2, RTells (fstE E e1) q1 n1 x1 y1 c1 ∧ RTells (fstE c1 e2) q2 n2 x2 y2 c2 ∧ RTells (fstE c2 (rboth n1 x1 y1 n2 x2 y2)) (if less then rq n1 x1 y1 - rq n2 x2 y2 else rq n1 x1 y1 + rq n2 x2 y2) n xs ys code
theorem PrT.err {less : Bool} {E e1 : Int} {q1 : Rat} {e2 : Int} {q2 : Rat} (h : E ≠ 0) : PrT less E e1 q1 e2 q2 false [] [] E :=
  ⟨false, [], [], E, false, [], [], E, by rw [fstE_err _ h]; exact RTells.err h, by rw [fstE_err _ h]; exact RTells.err h, by rw [fstE_err _ h]; exact RTells.err h⟩
theorem PrT.err1 {less : Bool} {e1 : Int} {q1 : Rat} {e2 : Int} {q2 : Rat} {n : Bool} {xs ys : List Int} {c : Int} (t : RTells e1 q1 n xs ys c) (h : c ≠ 0) : PrT less 0 e1 q1 e2 q2 false [] [] c :=
  ⟨n, xs, ys, c, false, [], [], c, by rw [fstE_zero]; exact t, by rw [fstE_err _ h]; exact RTells.err h, by rw [fstE_err _ h]; exact RTells.err h⟩
theorem PrT.err2 {less : Bool} {e1 : Int} {q1 : Rat} {e2 : Int} {q2 : Rat} {n m : Bool} {xs ys us vs : List Int} {c : Int} (t : RTells e1 q1 n xs ys 0) (t2 : RTells e2 q2 m us vs c) (h : c ≠ 0) : PrT less 0 e1 q1 e2 q2 false [] [] c :=
  ⟨n, xs, ys, 0, m, us, vs, c, by rw [fstE_zero]; exact t, by rw [fstE_zero]; exact t2, by rw [fstE_err _ h]; exact RTells.err h⟩
def DRT (w : World) (t : Bool → List Int → List Int → Int → Prop) (x : Ending) (w' : World) : Prop :=
  ∃ n a ca xs b cb ys code, x = .returned (.tuple #[.agg #[.bool n, .slice a (List.length xs) ca, .slice b (List.length ys) cb], .int .i64 code]) ∧ (w'.ownsRow w.heap.size 63 1 (.slice a xs.length ca) xs.length (xs.map (Value.int .u32)) ∧ w'.ownsRow w.heap.size 63 1 (.slice b ys.length cb) ys.length (ys.map (Value.int .u32))) ∧ (Wd xs ∧ Wd ys) ∧ t n xs ys code ∧ Below w.heap.size w w'
theorem kp_len {e : Int} {q : Rat} {n : Bool} {xs ys : List Int} {c : Int} (h : RTells e q n xs ys c) : xs.length ≤ 281474976710656 := by
  by_cases he : e = 0
  · by_cases hl : rlong q
    · rw [(h.long he hl).2.1]; simp
    · have := (rchk_ok (h.good he hl).2.1).1; omega
  · rw [(h.bad he).2.1]; simp
theorem kp_len2 {e : Int} {q : Rat} {n : Bool} {xs ys : List Int} {c : Int} (h : RTells e q n xs ys c) : ys.length ≤ 281474976710656 := by
  by_cases he : e = 0
  · by_cases hl : rlong q
    · rw [(h.long he hl).2.2.1]; simp
    · have := (rchk_ok (h.good he hl).2.1).2.1; omega
  · rw [(h.bad he).2.2.1]; simp
set_option maxHeartbeats 3200000 in
theorem d4pair_more (n1 : Bool) (a1 : Option Addr) (k1 : Nat) (x1 : List Int) (o1 : Option Addr) (l1 : Nat) (y1 : List Int) (n2 : Bool) (a2 : Option Addr) (k2 : Nat) (x2 : List Int) (o2 : Option Addr) (l2 : Nat) (y2 : List Int) (n3 : Bool) (a3 : Option Addr) (k3 : Nat) (x3 : List Int) (o3 : Option Addr) (l3 : Nat) (y3 : List Int) (n4 : Bool) (a4 : Option Addr) (k4 : Nat) (x4 : List Int) (o4 : Option Addr) (l4 : Nat) (y4 : List Int) (w : World) (s1 : Sl w (.slice a1 x1.length k1) x1 ∧ Sl w (.slice o1 y1.length l1) y1) (h1 : x1.length ≤ 281474976710656 ∧ y1.length ≤ 281474976710656) (s2 : Sl w (.slice a2 x2.length k2) x2 ∧ Sl w (.slice o2 y2.length l2) y2) (h2 : x2.length ≤ 281474976710656 ∧ y2.length ≤ 281474976710656) (s3 : Sl w (.slice a3 x3.length k3) x3 ∧ Sl w (.slice o3 y3.length l3) y3) (h3 : x3.length ≤ 281474976710656 ∧ y3.length ≤ 281474976710656) (s4 : Sl w (.slice a4 x4.length k4) x4 ∧ Sl w (.slice o4 y4.length l4) y4) (h4 : x4.length ≤ 281474976710656 ∧ y4.length ≤ 281474976710656) :
    Calls Tryz.prog 32 #[.agg #[.bool n1, .slice a1 x1.length k1, .slice o1 y1.length l1], .agg #[.bool n2, .slice a2 x2.length k2, .slice o2 y2.length l2], .agg #[.bool n3, .slice a3 x3.length k3, .slice o3 y3.length l3], .agg #[.bool n4, .slice a4 x4.length k4, .slice o4 y4.length l4], .bool false] w (DRT w (PrT false 0 (rboth n1 x1 y1 n2 x2 y2) (rq n1 x1 y1 * rq n2 x2 y2) (rboth n3 x3 y3 n4 x4 y4) (rq n3 x3 y3 * rq n4 x4 y4))) := by
  obtain ⟨X, hX⟩ : ∃ X, ((((w.alloc (.cells #[.bool n1, .slice a1 x1.length k1, .slice o1 y1.length l1] 24)).alloc (.cells #[.bool n2, .slice a2 x2.length k2, .slice o2 y2.length l2] 24)).alloc (.cells #[.bool n3, .slice a3 x3.length k3, .slice o3 y3.length l3] 24)).alloc (.cells #[.bool n4, .slice a4 x4.length k4, .slice o4 y4.length l4] 24)).alloc (.cells #[.bool false, .slice none 0 0, .slice none 0 0] 24) = X := ⟨_, rfl⟩
  have b1 : Below w.heap.size w X := by rw [← hX]; exact bt (bt (bt (bt (alloc_later _ _) (alloc_later _ _)) (alloc_later _ _)) (alloc_later _ _)) (alloc_later _ _)
  have HB0 : Hid (Box X (w.heap.size) 24 #[.bool n1, .slice a1 x1.length k1, .slice o1 y1.length l1]) := by
    have h := Box.made w 24 #[.bool n1, .slice a1 x1.length k1, .slice o1 y1.length l1]
    rw [← hX]
    exact h.later (bt (bt (bt (alloc_later _ _) (alloc_later _ _)) (alloc_later _ _)) (alloc_later _ _)) h.lt
  have HB1 : Hid (Box X (w.heap.size + 1) 24 #[.bool n2, .slice a2 x2.length k2, .slice o2 y2.length l2]) := by
    have h := Box.made (w.alloc (.cells #[.bool n1, .slice a1 x1.length k1, .slice o1 y1.length l1] 24)) 24 #[.bool n2, .slice a2 x2.length k2, .slice o2 y2.length l2]
    rw [show (w.alloc (.cells #[.bool n1, .slice a1 x1.length k1, .slice o1 y1.length l1] 24)).heap.size = w.heap.size + 1 by simp] at h
    rw [← hX]
    exact h.later (bt (bt (alloc_later _ _) (alloc_later _ _)) (alloc_later _ _)) h.lt
  have HB2 : Hid (Box X (w.heap.size + 1 + 1) 24 #[.bool n3, .slice a3 x3.length k3, .slice o3 y3.length l3]) := by
    have h := Box.made ((w.alloc (.cells #[.bool n1, .slice a1 x1.length k1, .slice o1 y1.length l1] 24)).alloc (.cells #[.bool n2, .slice a2 x2.length k2, .slice o2 y2.length l2] 24)) 24 #[.bool n3, .slice a3 x3.length k3, .slice o3 y3.length l3]
    rw [show ((w.alloc (.cells #[.bool n1, .slice a1 x1.length k1, .slice o1 y1.length l1] 24)).alloc (.cells #[.bool n2, .slice a2 x2.length k2, .slice o2 y2.length l2] 24)).heap.size = w.heap.size + 1 + 1 by simp] at h
    rw [← hX]
    exact h.later (bt (alloc_later _ _) (alloc_later _ _)) h.lt
  have HB3 : Hid (Box X (w.heap.size + 1 + 1 + 1) 24 #[.bool n4, .slice a4 x4.length k4, .slice o4 y4.length l4]) := by
    have h := Box.made (((w.alloc (.cells #[.bool n1, .slice a1 x1.length k1, .slice o1 y1.length l1] 24)).alloc (.cells #[.bool n2, .slice a2 x2.length k2, .slice o2 y2.length l2] 24)).alloc (.cells #[.bool n3, .slice a3 x3.length k3, .slice o3 y3.length l3] 24)) 24 #[.bool n4, .slice a4 x4.length k4, .slice o4 y4.length l4]
    rw [show (((w.alloc (.cells #[.bool n1, .slice a1 x1.length k1, .slice o1 y1.length l1] 24)).alloc (.cells #[.bool n2, .slice a2 x2.length k2, .slice o2 y2.length l2] 24)).alloc (.cells #[.bool n3, .slice a3 x3.length k3, .slice o3 y3.length l3] 24)).heap.size = w.heap.size + 1 + 1 + 1 by simp] at h
    rw [← hX]
    exact h.later (alloc_later _ _) h.lt
  have HB4 : Hid (Box X (w.heap.size + 1 + 1 + 1 + 1) 24 #[.bool false, .slice none 0 0, .slice none 0 0]) := by
    have h := Box.made ((((w.alloc (.cells #[.bool n1, .slice a1 x1.length k1, .slice o1 y1.length l1] 24)).alloc (.cells #[.bool n2, .slice a2 x2.length k2, .slice o2 y2.length l2] 24)).alloc (.cells #[.bool n3, .slice a3 x3.length k3, .slice o3 y3.length l3] 24)).alloc (.cells #[.bool n4, .slice a4 x4.length k4, .slice o4 y4.length l4] 24)) 24 #[.bool false, .slice none 0 0, .slice none 0 0]
    rw [show ((((w.alloc (.cells #[.bool n1, .slice a1 x1.length k1, .slice o1 y1.length l1] 24)).alloc (.cells #[.bool n2, .slice a2 x2.length k2, .slice o2 y2.length l2] 24)).alloc (.cells #[.bool n3, .slice a3 x3.length k3, .slice o3 y3.length l3] 24)).alloc (.cells #[.bool n4, .slice a4 x4.length k4, .slice o4 y4.length l4] 24)).heap.size = w.heap.size + 1 + 1 + 1 + 1 by simp] at h
    rw [hX] at h
    exact h
  have HM1 : Hid (∀ V, Below X.heap.size X V → Calls Tryz.prog 46 #[.agg #[.bool n1, .slice a1 x1.length k1, .slice o1 y1.length l1], .agg #[.bool n2, .slice a2 x2.length k2, .slice o2 y2.length l2]] V (RTold V (rboth n1 x1 y1 n2 x2 y2) (rq n1 x1 y1 * rq n2 x2 y2))) := fun V hv => dMul_full n1 a1 k1 x1 o1 l1 y1 n2 a2 k2 x2 o2 l2 y2 V ((s1.1.later b1).later hv) ((s1.2.later b1).later hv) ((s2.1.later b1).later hv) ((s2.2.later b1).later hv) h1.1 h1.2 h2.1 h2.2
  have HM2 : Hid (∀ V, Below X.heap.size X V → Calls Tryz.prog 46 #[.agg #[.bool n3, .slice a3 x3.length k3, .slice o3 y3.length l3], .agg #[.bool n4, .slice a4 x4.length k4, .slice o4 y4.length l4]] V (RTold V (rboth n3 x3 y3 n4 x4 y4) (rq n3 x3 y3 * rq n4 x4 y4))) := fun V hv => dMul_full n3 a3 k3 x3 o3 l3 y3 n4 a4 k4 x4 o4 l4 y4 V ((s3.1.later b1).later hv) ((s3.2.later b1).later hv) ((s4.1.later b1).later hv) ((s4.2.later b1).later hv) h3.1 h3.2 h4.1 h4.2
  have HB := hid b1
  have hwX : w.heap.size + 1 + 1 + 1 + 1 < X.heap.size := HB4.out.lt
  clear s1 s2 s3 s4 h1 h2 h3 h4 b1
  have p0 : X.cell? ⟨w.heap.size, 0, none⟩ = some (.bool n1) := HB0.out.cell 0
  have p1 : X.cell? ⟨w.heap.size, 1, none⟩ = some (.slice a1 x1.length k1) := HB0.out.cell 1
  have p2 : X.cell? ⟨w.heap.size, 2, none⟩ = some (.slice o1 y1.length l1) := HB0.out.cell 2
  have q0 : X.cell? ⟨w.heap.size + 1, 0, none⟩ = some (.bool n2) := HB1.out.cell 0
  have q1 : X.cell? ⟨w.heap.size + 1, 1, none⟩ = some (.slice a2 x2.length k2) := HB1.out.cell 1
  have q2 : X.cell? ⟨w.heap.size + 1, 2, none⟩ = some (.slice o2 y2.length l2) := HB1.out.cell 2
  generalize rboth n1 x1 y1 n2 x2 y2 = E1 at *
  generalize rboth n3 x3 y3 n4 x4 y4 = E2 at *
  generalize (rq n1 x1 y1 * rq n2 x2 y2) = Q1 at *
  generalize (rq n3 x3 y3 * rq n4 x4 y4) = Q2 at *
  go_enter Tryz.func32, Tryz.ntmps32
  go_wp2_with fail
  clear hX
  refine Calls.mono (HM1.out X (Below.refl _ _)) ?_
  rintro x w1 ⟨m1, v, u1, u, z1, c1, rfl, ov1, ou1, ht1, hb1⟩
  obtain ⟨av1, cv1, rfl⟩ := own_slice' ov1
  obtain ⟨au1, cu1, rfl⟩ := own_slice' ou1
  have HV1 := hid ov1
  have HU1 := hid ou1
  have HT1 := hid ht1
  have HW1 := hid hb1
  clear ov1 ou1 ht1 hb1 HM1
  clear p0 p1 p2 q0 q1 q2
  have HN := hid (Box.made w1 24 #[.bool m1, .slice av1 u1.length cv1, .slice au1 z1.length cu1])
  have HNB := hid (alloc_later w1 (.cells #[.bool m1, .slice av1 u1.length cv1, .slice au1 z1.length cu1] 24))
  obtain ⟨Z, hZ⟩ : ∃ Z, w1.alloc (.cells #[.bool m1, .slice av1 u1.length cv1, .slice au1 z1.length cu1] 24) = Z := ⟨_, rfl⟩
  rw [hZ] at HN HNB
  have HWZ := hid (bt HW1.out HNB.out)
  by_cases hc1 : c1 = 0
  · subst hc1
    have p0 : Z.cell? ⟨w.heap.size + 1 + 1, 0, none⟩ = some (.bool n3) := (HB2.out.later HWZ.out HB2.out.lt).cell 0
    have p1 : Z.cell? ⟨w.heap.size + 1 + 1, 1, none⟩ = some (.slice a3 x3.length k3) := (HB2.out.later HWZ.out HB2.out.lt).cell 1
    have p2 : Z.cell? ⟨w.heap.size + 1 + 1, 2, none⟩ = some (.slice o3 y3.length l3) := (HB2.out.later HWZ.out HB2.out.lt).cell 2
    have q0 : Z.cell? ⟨w.heap.size + 1 + 1 + 1, 0, none⟩ = some (.bool n4) := (HB3.out.later HWZ.out HB3.out.lt).cell 0
    have q1 : Z.cell? ⟨w.heap.size + 1 + 1 + 1, 1, none⟩ = some (.slice a4 x4.length k4) := (HB3.out.later HWZ.out HB3.out.lt).cell 1
    have q2 : Z.cell? ⟨w.heap.size + 1 + 1 + 1, 2, none⟩ = some (.slice o4 y4.length l4) := (HB3.out.later HWZ.out HB3.out.lt).cell 2
    go_wp2_with fail
    clear hZ
    refine Calls.mono (HM2.out Z HWZ.out) ?_
    rintro x w2 ⟨m2, v, u2, u, z2, c2, rfl, ov2, ou2, ht2, hb2⟩
    obtain ⟨av2, cv2, rfl⟩ := own_slice' ov2
    obtain ⟨au2, cu2, rfl⟩ := own_slice' ou2
    have HV2 := hid ov2
    have HU2 := hid ou2
    have HT2 := hid ht2
    have HB2' := hid hb2
    have HW2 := hid (bt HWZ.out hb2)
    clear ov2 ou2 ht2 hb2 HM2
    clear p0 p1 p2 q0 q1 q2
    have HM := hid (Box.made w2 24 #[.bool m2, .slice av2 u2.length cv2, .slice au2 z2.length cu2])
    have HMB := hid (alloc_later w2 (.cells #[.bool m2, .slice av2 u2.length cv2, .slice au2 z2.length cu2] 24))
    obtain ⟨Q, hQ⟩ : ∃ Q, w2.alloc (.cells #[.bool m2, .slice av2 u2.length cv2, .slice au2 z2.length cu2] 24) = Q := ⟨_, rfl⟩
    rw [hQ] at HM HMB
    have HWQ := hid (bt HW2.out HMB.out)
    have HNQ := hid (HN.out.later (bt HB2'.out HMB.out) HN.out.lt)
    by_cases hc2 : c2 = 0
    · subst hc2
      have HO := hid (dAdd_full m1 av1 cv1 u1 au1 cu1 z1 m2 av2 cv2 u2 au2 cu2 z2 Q ((Sl.own HV1.out HT1.out.wx).later (bt HNB.out (bt HB2'.out HMB.out))) ((Sl.own HU1.out HT1.out.wy).later (bt HNB.out (bt HB2'.out HMB.out))) ((Sl.own HV2.out HT2.out.wx).later HMB.out) ((Sl.own HU2.out HT2.out.wy).later HMB.out) (kp_len HT1.out) (kp_len2 HT1.out) (kp_len HT2.out) (kp_len2 HT2.out))
      have d0 : Q.cell? ⟨w1.heap.size, 0, none⟩ = some (.bool m1) := HNQ.out.cell 0
      have d1 : Q.cell? ⟨w1.heap.size, 1, none⟩ = some (.slice av1 u1.length cv1) := HNQ.out.cell 1
      have d2 : Q.cell? ⟨w1.heap.size, 2, none⟩ = some (.slice au1 z1.length cu1) := HNQ.out.cell 2
      have e0 : Q.cell? ⟨w2.heap.size, 0, none⟩ = some (.bool m2) := HM.out.cell 0
      have e1 : Q.cell? ⟨w2.heap.size, 1, none⟩ = some (.slice av2 u2.length cv2) := HM.out.cell 1
      have e2 : Q.cell? ⟨w2.heap.size, 2, none⟩ = some (.slice au2 z2.length cu2) := HM.out.cell 2
      go_wp2_with fail
      clear hQ
      refine Calls.mono HO.out ?_
      rintro x w3 ⟨m3, v, u3, u, z3, c3, rfl, ov3, ou3, ht3, hb3⟩
      obtain ⟨av3, cv3, rfl⟩ := own_slice' ov3
      obtain ⟨au3, cu3, rfl⟩ := own_slice' ou3
      have HV3 := hid ov3
      have HU3 := hid ou3
      have HT3 := hid ht3
      have HW3 := hid (bt HWQ.out hb3)
      have hXQ : X.heap.size ≤ Q.heap.size := HWQ.out.size
      clear ov3 ou3 ht3 hb3 HO d0 d1 d2 e0 e1 e2
      have HRQ := hid (HB4.out.later HW3.out HB4.out.lt)
      have f0 := HRQ.out.free 0
      have f1 := HRQ.out.free 1
      have f2 := HRQ.out.free 2
      have r0_ : w3.cell? ⟨w.heap.size + 1 + 1 + 1 + 1, 0, none⟩ = some (.bool false) := HRQ.out.cell 0
      have r1_ : w3.cell? ⟨w.heap.size + 1 + 1 + 1 + 1, 1, none⟩ = some (.slice none 0 0) := HRQ.out.cell 1
      have r2_ : w3.cell? ⟨w.heap.size + 1 + 1 + 1 + 1, 2, none⟩ = some (.slice none 0 0) := HRQ.out.cell 2
      go_wp2_with fail
      have B1 := box_put3 HRQ.out (.bool m3) (.slice av3 u3.length cv3) (.slice au3 z3.length cu3)
      have G1 := below_put3 (bt HB.out HW3.out) (w.heap.size + 1 + 1 + 1 + 1) (by omega) (.bool m3) (.slice av3 u3.length cv3) (.slice au3 z3.length cu3)
      clear r0_ r1_ r2_ f0 f1 f2
      refine bodyPost_ret (gresr_run (by rfl) B1 _ rfl) rfl ?_
      have P1 := own_put3' HV3.out (w.heap.size + 1 + 1 + 1 + 1) (fun g hg => by have := (HV3.out.lt g hg).1; omega) (.bool m3) (.slice av3 u3.length cv3) (.slice au3 z3.length cu3)
      have P2 := own_put3' HU3.out (w.heap.size + 1 + 1 + 1 + 1) (fun g hg => by have := (HU3.out.lt g hg).1; omega) (.bool m3) (.slice av3 u3.length cv3) (.slice au3 z3.length cu3)
      exact ⟨m3, av3, cv3, u3, au3, cu3, z3, c3, rfl, ⟨owns_base P1 (by omega), owns_base P2 (by omega)⟩, ⟨HT3.out.wx, HT3.out.wy⟩, ⟨m1, u1, z1, 0, m2, u2, z2, 0, by rw [fstE_zero]; exact HT1.out, by rw [fstE_zero]; exact HT2.out, by rw [fstE_zero]; exact HT3.out⟩, G1⟩
    · have hc' : (c2 != 0) = true := by simpa using hc2
      have HC2 := hid hc2
      clear hc2
      have HRQ := hid (HB4.out.later HWQ.out HB4.out.lt)
      have f0 := HRQ.out.free 0
      have f1 := HRQ.out.free 1
      have f2 := HRQ.out.free 2
      have r0_ : Q.cell? ⟨w.heap.size + 1 + 1 + 1 + 1, 0, none⟩ = some (.bool false) := HRQ.out.cell 0
      have r1_ : Q.cell? ⟨w.heap.size + 1 + 1 + 1 + 1, 1, none⟩ = some (.slice none 0 0) := HRQ.out.cell 1
      have r2_ : Q.cell? ⟨w.heap.size + 1 + 1 + 1 + 1, 2, none⟩ = some (.slice none 0 0) := HRQ.out.cell 2
      go_wp2_with fail
      have B1 := box_put3 HRQ.out (.bool false) (.slice none 0 0) (.slice none 0 0)
      have G1 := below_put3 (bt HB.out HWQ.out) (w.heap.size + 1 + 1 + 1 + 1) (by omega) (.bool false) (.slice none 0 0) (.slice none 0 0)
      clear r0_ r1_ r2_ f0 f1 f2
      refine bodyPost_ret (gresr_run (by rfl) B1 _ rfl) rfl ?_
      exact ⟨false, none, 0, [], none, 0, [], c2, rfl, ⟨World.ownsRow_nil _ _ _ _, World.ownsRow_nil _ _ _ _⟩, ⟨Wd.nil, Wd.nil⟩, PrT.err2 HT1.out HT2.out HC2.out, G1⟩
  · have hc' : (c1 != 0) = true := by simpa using hc1
    have HC1 := hid hc1
    clear hc1
    have HRQ := hid (HB4.out.later HWZ.out HB4.out.lt)
    have f0 := HRQ.out.free 0
    have f1 := HRQ.out.free 1
    have f2 := HRQ.out.free 2
    have r0_ : Z.cell? ⟨w.heap.size + 1 + 1 + 1 + 1, 0, none⟩ = some (.bool false) := HRQ.out.cell 0
    have r1_ : Z.cell? ⟨w.heap.size + 1 + 1 + 1 + 1, 1, none⟩ = some (.slice none 0 0) := HRQ.out.cell 1
    have r2_ : Z.cell? ⟨w.heap.size + 1 + 1 + 1 + 1, 2, none⟩ = some (.slice none 0 0) := HRQ.out.cell 2
    go_wp2_with fail
    have B1 := box_put3 HRQ.out (.bool false) (.slice none 0 0) (.slice none 0 0)
    have G1 := below_put3 (bt HB.out HWZ.out) (w.heap.size + 1 + 1 + 1 + 1) (by omega) (.bool false) (.slice none 0 0) (.slice none 0 0)
    clear r0_ r1_ r2_ f0 f1 f2
    refine bodyPost_ret (gresr_run (by rfl) B1 _ rfl) rfl ?_
    exact ⟨false, none, 0, [], none, 0, [], c1, rfl, ⟨World.ownsRow_nil _ _ _ _, World.ownsRow_nil _ _ _ _⟩, ⟨Wd.nil, Wd.nil⟩, PrT.err1 HT1.out HC1.out, G1⟩
set_option maxHeartbeats 3200000 in
theorem d4pair_less (n1 : Bool) (a1 : Option Addr) (k1 : Nat) (x1 : List Int) (o1 : Option Addr) (l1 : Nat) (y1 : List Int) (n2 : Bool) (a2 : Option Addr) (k2 : Nat) (x2 : List Int) (o2 : Option Addr) (l2 : Nat) (y2 : List Int) (n3 : Bool) (a3 : Option Addr) (k3 : Nat) (x3 : List Int) (o3 : Option Addr) (l3 : Nat) (y3 : List Int) (n4 : Bool) (a4 : Option Addr) (k4 : Nat) (x4 : List Int) (o4 : Option Addr) (l4 : Nat) (y4 : List Int) (w : World) (s1 : Sl w (.slice a1 x1.length k1) x1 ∧ Sl w (.slice o1 y1.length l1) y1) (h1 : x1.length ≤ 281474976710656 ∧ y1.length ≤ 281474976710656) (s2 : Sl w (.slice a2 x2.length k2) x2 ∧ Sl w (.slice o2 y2.length l2) y2) (h2 : x2.length ≤ 281474976710656 ∧ y2.length ≤ 281474976710656) (s3 : Sl w (.slice a3 x3.length k3) x3 ∧ Sl w (.slice o3 y3.length l3) y3) (h3 : x3.length ≤ 281474976710656 ∧ y3.length ≤ 281474976710656) (s4 : Sl w (.slice a4 x4.length k4) x4 ∧ Sl w (.slice o4 y4.length l4) y4) (h4 : x4.length ≤ 281474976710656 ∧ y4.length ≤ 281474976710656) :
    Calls Tryz.prog 32 #[.agg #[.bool n1, .slice a1 x1.length k1, .slice o1 y1.length l1], .agg #[.bool n2, .slice a2 x2.length k2, .slice o2 y2.length l2], .agg #[.bool n3, .slice a3 x3.length k3, .slice o3 y3.length l3], .agg #[.bool n4, .slice a4 x4.length k4, .slice o4 y4.length l4], .bool true] w (DRT w (PrT true 0 (rboth n1 x1 y1 n2 x2 y2) (rq n1 x1 y1 * rq n2 x2 y2) (rboth n3 x3 y3 n4 x4 y4) (rq n3 x3 y3 * rq n4 x4 y4))) := by
  obtain ⟨X, hX⟩ : ∃ X, ((((w.alloc (.cells #[.bool n1, .slice a1 x1.length k1, .slice o1 y1.length l1] 24)).alloc (.cells #[.bool n2, .slice a2 x2.length k2, .slice o2 y2.length l2] 24)).alloc (.cells #[.bool n3, .slice a3 x3.length k3, .slice o3 y3.length l3] 24)).alloc (.cells #[.bool n4, .slice a4 x4.length k4, .slice o4 y4.length l4] 24)).alloc (.cells #[.bool false, .slice none 0 0, .slice none 0 0] 24) = X := ⟨_, rfl⟩
  have b1 : Below w.heap.size w X := by rw [← hX]; exact bt (bt (bt (bt (alloc_later _ _) (alloc_later _ _)) (alloc_later _ _)) (alloc_later _ _)) (alloc_later _ _)
  have HB0 : Hid (Box X (w.heap.size) 24 #[.bool n1, .slice a1 x1.length k1, .slice o1 y1.length l1]) := by
    have h := Box.made w 24 #[.bool n1, .slice a1 x1.length k1, .slice o1 y1.length l1]
    rw [← hX]
    exact h.later (bt (bt (bt (alloc_later _ _) (alloc_later _ _)) (alloc_later _ _)) (alloc_later _ _)) h.lt
  have HB1 : Hid (Box X (w.heap.size + 1) 24 #[.bool n2, .slice a2 x2.length k2, .slice o2 y2.length l2]) := by
    have h := Box.made (w.alloc (.cells #[.bool n1, .slice a1 x1.length k1, .slice o1 y1.length l1] 24)) 24 #[.bool n2, .slice a2 x2.length k2, .slice o2 y2.length l2]
    rw [show (w.alloc (.cells #[.bool n1, .slice a1 x1.length k1, .slice o1 y1.length l1] 24)).heap.size = w.heap.size + 1 by simp] at h
    rw [← hX]
    exact h.later (bt (bt (alloc_later _ _) (alloc_later _ _)) (alloc_later _ _)) h.lt
  have HB2 : Hid (Box X (w.heap.size + 1 + 1) 24 #[.bool n3, .slice a3 x3.length k3, .slice o3 y3.length l3]) := by
    have h := Box.made ((w.alloc (.cells #[.bool n1, .slice a1 x1.length k1, .slice o1 y1.length l1] 24)).alloc (.cells #[.bool n2, .slice a2 x2.length k2, .slice o2 y2.length l2] 24)) 24 #[.bool n3, .slice a3 x3.length k3, .slice o3 y3.length l3]
    rw [show ((w.alloc (.cells #[.bool n1, .slice a1 x1.length k1, .slice o1 y1.length l1] 24)).alloc (.cells #[.bool n2, .slice a2 x2.length k2, .slice o2 y2.length l2] 24)).heap.size = w.heap.size + 1 + 1 by simp] at h
    rw [← hX]
    exact h.later (bt (alloc_later _ _) (alloc_later _ _)) h.lt
  have HB3 : Hid (Box X (w.heap.size + 1 + 1 + 1) 24 #[.bool n4, .slice a4 x4.length k4, .slice o4 y4.length l4]) := by
    have h := Box.made (((w.alloc (.cells #[.bool n1, .slice a1 x1.length k1, .slice o1 y1.length l1] 24)).alloc (.cells #[.bool n2, .slice a2 x2.length k2, .slice o2 y2.length l2] 24)).alloc (.cells #[.bool n3, .slice a3 x3.length k3, .slice o3 y3.length l3] 24)) 24 #[.bool n4, .slice a4 x4.length k4, .slice o4 y4.length l4]
    rw [show (((w.alloc (.cells #[.bool n1, .slice a1 x1.length k1, .slice o1 y1.length l1] 24)).alloc (.cells #[.bool n2, .slice a2 x2.length k2, .slice o2 y2.length l2] 24)).alloc (.cells #[.bool n3, .slice a3 x3.length k3, .slice o3 y3.length l3] 24)).heap.size = w.heap.size + 1 + 1 + 1 by simp] at h
    rw [← hX]
    exact h.later (alloc_later _ _) h.lt
  have HB4 : Hid (Box X (w.heap.size + 1 + 1 + 1 + 1) 24 #[.bool false, .slice none 0 0, .slice none 0 0]) := by
    have h := Box.made ((((w.alloc (.cells #[.bool n1, .slice a1 x1.length k1, .slice o1 y1.length l1] 24)).alloc (.cells #[.bool n2, .slice a2 x2.length k2, .slice o2 y2.length l2] 24)).alloc (.cells #[.bool n3, .slice a3 x3.length k3, .slice o3 y3.length l3] 24)).alloc (.cells #[.bool n4, .slice a4 x4.length k4, .slice o4 y4.length l4] 24)) 24 #[.bool false, .slice none 0 0, .slice none 0 0]
    rw [show ((((w.alloc (.cells #[.bool n1, .slice a1 x1.length k1, .slice o1 y1.length l1] 24)).alloc (.cells #[.bool n2, .slice a2 x2.length k2, .slice o2 y2.length l2] 24)).alloc (.cells #[.bool n3, .slice a3 x3.length k3, .slice o3 y3.length l3] 24)).alloc (.cells #[.bool n4, .slice a4 x4.length k4, .slice o4 y4.length l4] 24)).heap.size = w.heap.size + 1 + 1 + 1 + 1 by simp] at h
    rw [hX] at h
    exact h
  have HM1 : Hid (∀ V, Below X.heap.size X V → Calls Tryz.prog 46 #[.agg #[.bool n1, .slice a1 x1.length k1, .slice o1 y1.length l1], .agg #[.bool n2, .slice a2 x2.length k2, .slice o2 y2.length l2]] V (RTold V (rboth n1 x1 y1 n2 x2 y2) (rq n1 x1 y1 * rq n2 x2 y2))) := fun V hv => dMul_full n1 a1 k1 x1 o1 l1 y1 n2 a2 k2 x2 o2 l2 y2 V ((s1.1.later b1).later hv) ((s1.2.later b1).later hv) ((s2.1.later b1).later hv) ((s2.2.later b1).later hv) h1.1 h1.2 h2.1 h2.2
  have HM2 : Hid (∀ V, Below X.heap.size X V → Calls Tryz.prog 46 #[.agg #[.bool n3, .slice a3 x3.length k3, .slice o3 y3.length l3], .agg #[.bool n4, .slice a4 x4.length k4, .slice o4 y4.length l4]] V (RTold V (rboth n3 x3 y3 n4 x4 y4) (rq n3 x3 y3 * rq n4 x4 y4))) := fun V hv => dMul_full n3 a3 k3 x3 o3 l3 y3 n4 a4 k4 x4 o4 l4 y4 V ((s3.1.later b1).later hv) ((s3.2.later b1).later hv) ((s4.1.later b1).later hv) ((s4.2.later b1).later hv) h3.1 h3.2 h4.1 h4.2
  have HB := hid b1
  have hwX : w.heap.size + 1 + 1 + 1 + 1 < X.heap.size := HB4.out.lt
  clear s1 s2 s3 s4 h1 h2 h3 h4 b1
  have p0 : X.cell? ⟨w.heap.size, 0, none⟩ = some (.bool n1) := HB0.out.cell 0
  have p1 : X.cell? ⟨w.heap.size, 1, none⟩ = some (.slice a1 x1.length k1) := HB0.out.cell 1
  have p2 : X.cell? ⟨w.heap.size, 2, none⟩ = some (.slice o1 y1.length l1) := HB0.out.cell 2
  have q0 : X.cell? ⟨w.heap.size + 1, 0, none⟩ = some (.bool n2) := HB1.out.cell 0
  have q1 : X.cell? ⟨w.heap.size + 1, 1, none⟩ = some (.slice a2 x2.length k2) := HB1.out.cell 1
  have q2 : X.cell? ⟨w.heap.size + 1, 2, none⟩ = some (.slice o2 y2.length l2) := HB1.out.cell 2
  generalize rboth n1 x1 y1 n2 x2 y2 = E1 at *
  generalize rboth n3 x3 y3 n4 x4 y4 = E2 at *
  generalize (rq n1 x1 y1 * rq n2 x2 y2) = Q1 at *
  generalize (rq n3 x3 y3 * rq n4 x4 y4) = Q2 at *
  go_enter Tryz.func32, Tryz.ntmps32
  go_wp2_with fail
  clear hX
  refine Calls.mono (HM1.out X (Below.refl _ _)) ?_
  rintro x w1 ⟨m1, v, u1, u, z1, c1, rfl, ov1, ou1, ht1, hb1⟩
  obtain ⟨av1, cv1, rfl⟩ := own_slice' ov1
  obtain ⟨au1, cu1, rfl⟩ := own_slice' ou1
  have HV1 := hid ov1
  have HU1 := hid ou1
  have HT1 := hid ht1
  have HW1 := hid hb1
  clear ov1 ou1 ht1 hb1 HM1
  clear p0 p1 p2 q0 q1 q2
  have HN := hid (Box.made w1 24 #[.bool m1, .slice av1 u1.length cv1, .slice au1 z1.length cu1])
  have HNB := hid (alloc_later w1 (.cells #[.bool m1, .slice av1 u1.length cv1, .slice au1 z1.length cu1] 24))
  obtain ⟨Z, hZ⟩ : ∃ Z, w1.alloc (.cells #[.bool m1, .slice av1 u1.length cv1, .slice au1 z1.length cu1] 24) = Z := ⟨_, rfl⟩
  rw [hZ] at HN HNB
  have HWZ := hid (bt HW1.out HNB.out)
  by_cases hc1 : c1 = 0
  · subst hc1
    have p0 : Z.cell? ⟨w.heap.size + 1 + 1, 0, none⟩ = some (.bool n3) := (HB2.out.later HWZ.out HB2.out.lt).cell 0
    have p1 : Z.cell? ⟨w.heap.size + 1 + 1, 1, none⟩ = some (.slice a3 x3.length k3) := (HB2.out.later HWZ.out HB2.out.lt).cell 1
    have p2 : Z.cell? ⟨w.heap.size + 1 + 1, 2, none⟩ = some (.slice o3 y3.length l3) := (HB2.out.later HWZ.out HB2.out.lt).cell 2
    have q0 : Z.cell? ⟨w.heap.size + 1 + 1 + 1, 0, none⟩ = some (.bool n4) := (HB3.out.later HWZ.out HB3.out.lt).cell 0
    have q1 : Z.cell? ⟨w.heap.size + 1 + 1 + 1, 1, none⟩ = some (.slice a4 x4.length k4) := (HB3.out.later HWZ.out HB3.out.lt).cell 1
    have q2 : Z.cell? ⟨w.heap.size + 1 + 1 + 1, 2, none⟩ = some (.slice o4 y4.length l4) := (HB3.out.later HWZ.out HB3.out.lt).cell 2
    go_wp2_with fail
    clear hZ
    refine Calls.mono (HM2.out Z HWZ.out) ?_
    rintro x w2 ⟨m2, v, u2, u, z2, c2, rfl, ov2, ou2, ht2, hb2⟩
    obtain ⟨av2, cv2, rfl⟩ := own_slice' ov2
    obtain ⟨au2, cu2, rfl⟩ := own_slice' ou2
    have HV2 := hid ov2
    have HU2 := hid ou2
    have HT2 := hid ht2
    have HB2' := hid hb2
    have HW2 := hid (bt HWZ.out hb2)
    clear ov2 ou2 ht2 hb2 HM2
    clear p0 p1 p2 q0 q1 q2
    have HM := hid (Box.made w2 24 #[.bool m2, .slice av2 u2.length cv2, .slice au2 z2.length cu2])
    have HMB := hid (alloc_later w2 (.cells #[.bool m2, .slice av2 u2.length cv2, .slice au2 z2.length cu2] 24))
    obtain ⟨Q, hQ⟩ : ∃ Q, w2.alloc (.cells #[.bool m2, .slice av2 u2.length cv2, .slice au2 z2.length cu2] 24) = Q := ⟨_, rfl⟩
    rw [hQ] at HM HMB
    have HWQ := hid (bt HW2.out HMB.out)
    have HNQ := hid (HN.out.later (bt HB2'.out HMB.out) HN.out.lt)
    by_cases hc2 : c2 = 0
    · subst hc2
      have HO := hid (dSub_full m1 av1 cv1 u1 au1 cu1 z1 m2 av2 cv2 u2 au2 cu2 z2 Q ((Sl.own HV1.out HT1.out.wx).later (bt HNB.out (bt HB2'.out HMB.out))) ((Sl.own HU1.out HT1.out.wy).later (bt HNB.out (bt HB2'.out HMB.out))) ((Sl.own HV2.out HT2.out.wx).later HMB.out) ((Sl.own HU2.out HT2.out.wy).later HMB.out) (kp_len HT1.out) (kp_len2 HT1.out) (kp_len HT2.out) (kp_len2 HT2.out))
      have d0 : Q.cell? ⟨w1.heap.size, 0, none⟩ = some (.bool m1) := HNQ.out.cell 0
      have d1 : Q.cell? ⟨w1.heap.size, 1, none⟩ = some (.slice av1 u1.length cv1) := HNQ.out.cell 1
      have d2 : Q.cell? ⟨w1.heap.size, 2, none⟩ = some (.slice au1 z1.length cu1) := HNQ.out.cell 2
      have e0 : Q.cell? ⟨w2.heap.size, 0, none⟩ = some (.bool m2) := HM.out.cell 0
      have e1 : Q.cell? ⟨w2.heap.size, 1, none⟩ = some (.slice av2 u2.length cv2) := HM.out.cell 1
      have e2 : Q.cell? ⟨w2.heap.size, 2, none⟩ = some (.slice au2 z2.length cu2) := HM.out.cell 2
      go_wp2_with fail
      clear hQ
      refine Calls.mono HO.out ?_
      rintro x w3 ⟨m3, v, u3, u, z3, c3, rfl, ov3, ou3, ht3, hb3⟩
      obtain ⟨av3, cv3, rfl⟩ := own_slice' ov3
      obtain ⟨au3, cu3, rfl⟩ := own_slice' ou3
      have HV3 := hid ov3
      have HU3 := hid ou3
      have HT3 := hid ht3
      have HW3 := hid (bt HWQ.out hb3)
      have hXQ : X.heap.size ≤ Q.heap.size := HWQ.out.size
      clear ov3 ou3 ht3 hb3 HO d0 d1 d2 e0 e1 e2
      have HRQ := hid (HB4.out.later HW3.out HB4.out.lt)
      have f0 := HRQ.out.free 0
      have f1 := HRQ.out.free 1
      have f2 := HRQ.out.free 2
      have r0_ : w3.cell? ⟨w.heap.size + 1 + 1 + 1 + 1, 0, none⟩ = some (.bool false) := HRQ.out.cell 0
      have r1_ : w3.cell? ⟨w.heap.size + 1 + 1 + 1 + 1, 1, none⟩ = some (.slice none 0 0) := HRQ.out.cell 1
      have r2_ : w3.cell? ⟨w.heap.size + 1 + 1 + 1 + 1, 2, none⟩ = some (.slice none 0 0) := HRQ.out.cell 2
      go_wp2_with fail
      have B1 := box_put3 HRQ.out (.bool m3) (.slice av3 u3.length cv3) (.slice au3 z3.length cu3)
      have G1 := below_put3 (bt HB.out HW3.out) (w.heap.size + 1 + 1 + 1 + 1) (by omega) (.bool m3) (.slice av3 u3.length cv3) (.slice au3 z3.length cu3)
      clear r0_ r1_ r2_ f0 f1 f2
      refine bodyPost_ret (gresr_run (by rfl) B1 _ rfl) rfl ?_
      have P1 := own_put3' HV3.out (w.heap.size + 1 + 1 + 1 + 1) (fun g hg => by have := (HV3.out.lt g hg).1; omega) (.bool m3) (.slice av3 u3.length cv3) (.slice au3 z3.length cu3)
      have P2 := own_put3' HU3.out (w.heap.size + 1 + 1 + 1 + 1) (fun g hg => by have := (HU3.out.lt g hg).1; omega) (.bool m3) (.slice av3 u3.length cv3) (.slice au3 z3.length cu3)
      exact ⟨m3, av3, cv3, u3, au3, cu3, z3, c3, rfl, ⟨owns_base P1 (by omega), owns_base P2 (by omega)⟩, ⟨HT3.out.wx, HT3.out.wy⟩, ⟨m1, u1, z1, 0, m2, u2, z2, 0, by rw [fstE_zero]; exact HT1.out, by rw [fstE_zero]; exact HT2.out, by rw [fstE_zero]; exact HT3.out⟩, G1⟩
    · have hc' : (c2 != 0) = true := by simpa using hc2
      have HC2 := hid hc2
      clear hc2
      have HRQ := hid (HB4.out.later HWQ.out HB4.out.lt)
      have f0 := HRQ.out.free 0
      have f1 := HRQ.out.free 1
      have f2 := HRQ.out.free 2
      have r0_ : Q.cell? ⟨w.heap.size + 1 + 1 + 1 + 1, 0, none⟩ = some (.bool false) := HRQ.out.cell 0
      have r1_ : Q.cell? ⟨w.heap.size + 1 + 1 + 1 + 1, 1, none⟩ = some (.slice none 0 0) := HRQ.out.cell 1
      have r2_ : Q.cell? ⟨w.heap.size + 1 + 1 + 1 + 1, 2, none⟩ = some (.slice none 0 0) := HRQ.out.cell 2
      go_wp2_with fail
      have B1 := box_put3 HRQ.out (.bool false) (.slice none 0 0) (.slice none 0 0)
      have G1 := below_put3 (bt HB.out HWQ.out) (w.heap.size + 1 + 1 + 1 + 1) (by omega) (.bool false) (.slice none 0 0) (.slice none 0 0)
      clear r0_ r1_ r2_ f0 f1 f2
      refine bodyPost_ret (gresr_run (by rfl) B1 _ rfl) rfl ?_
      exact ⟨false, none, 0, [], none, 0, [], c2, rfl, ⟨World.ownsRow_nil _ _ _ _, World.ownsRow_nil _ _ _ _⟩, ⟨Wd.nil, Wd.nil⟩, PrT.err2 HT1.out HT2.out HC2.out, G1⟩
  · have hc' : (c1 != 0) = true := by simpa using hc1
    have HC1 := hid hc1
    clear hc1
    have HRQ := hid (HB4.out.later HWZ.out HB4.out.lt)
    have f0 := HRQ.out.free 0
    have f1 := HRQ.out.free 1
    have f2 := HRQ.out.free 2
    have r0_ : Z.cell? ⟨w.heap.size + 1 + 1 + 1 + 1, 0, none⟩ = some (.bool false) := HRQ.out.cell 0
    have r1_ : Z.cell? ⟨w.heap.size + 1 + 1 + 1 + 1, 1, none⟩ = some (.slice none 0 0) := HRQ.out.cell 1
    have r2_ : Z.cell? ⟨w.heap.size + 1 + 1 + 1 + 1, 2, none⟩ = some (.slice none 0 0) := HRQ.out.cell 2
    go_wp2_with fail
    have B1 := box_put3 HRQ.out (.bool false) (.slice none 0 0) (.slice none 0 0)
    have G1 := below_put3 (bt HB.out HWZ.out) (w.heap.size + 1 + 1 + 1 + 1) (by omega) (.bool false) (.slice none 0 0) (.slice none 0 0)
    clear r0_ r1_ r2_ f0 f1 f2
    refine bodyPost_ret (gresr_run (by rfl) B1 _ rfl) rfl ?_
    exact ⟨false, none, 0, [], none, 0, [], c1, rfl, ⟨World.ownsRow_nil _ _ _ _, World.ownsRow_nil _ _ _ _⟩, ⟨Wd.nil, Wd.nil⟩, PrT.err1 HT1.out HC1.out, G1⟩
set_option maxHeartbeats 800000 in
theorem d4both_any (n : Bool) (a : Option Addr) (ca : Nat) (xs : List Int) (b : Option Addr) (cb : Nat) (ys : List Int) (m : Bool) (c : Option Addr) (cc : Nat) (us : List Int) (d : Option Addr) (cd : Nat) (vs : List Int) (w : World) (sx : Sl w (.slice a xs.length ca) xs) (sy : Sl w (.slice b ys.length cb) ys) (su : Sl w (.slice c us.length cc) us) (sv : Sl w (.slice d vs.length cd) vs) (lx : xs.length ≤ 281474976710656) (ly : ys.length ≤ 281474976710656) (lu : us.length ≤ 281474976710656) (lv : vs.length ≤ 281474976710656) (n2 : Bool) (a2 : Option Addr) (ca2 : Nat) (xs2 : List Int) (b2 : Option Addr) (cb2 : Nat) (ys2 : List Int) (m2 : Bool) (c2 : Option Addr) (cc2 : Nat) (us2 : List Int) (d2 : Option Addr) (cd2 : Nat) (vs2 : List Int) (sx2 : Sl w (.slice a2 xs2.length ca2) xs2) (sy2 : Sl w (.slice b2 ys2.length cb2) ys2) (su2 : Sl w (.slice c2 us2.length cc2) us2) (sv2 : Sl w (.slice d2 vs2.length cd2) vs2) (lx2 : xs2.length ≤ 281474976710656) (ly2 : ys2.length ≤ 281474976710656) (lu2 : us2.length ≤ 281474976710656) (lv2 : vs2.length ≤ 281474976710656) :
    Calls Tryz.prog 27 #[.agg #[.bool n, .slice a xs.length ca, .slice b ys.length cb, .bool m, .slice c us.length cc, .slice d vs.length cd], .agg #[.bool n2, .slice a2 xs2.length ca2, .slice b2 ys2.length cb2, .bool m2, .slice c2 us2.length cc2, .slice d2 vs2.length cd2]] w fun x w' => x = .returned (.int .i64 (fstE (gchk n xs ys m us vs) (gchk n2 xs2 ys2 m2 us2 vs2))) ∧ Below w.heap.size w w' := by
  obtain ⟨X, hX⟩ : ∃ X, (w.alloc (.cells #[.bool n, .slice a xs.length ca, .slice b ys.length cb, .bool m, .slice c us.length cc, .slice d vs.length cd] 26)).alloc (.cells #[.bool n2, .slice a2 xs2.length ca2, .slice b2 ys2.length cb2, .bool m2, .slice c2 us2.length cc2, .slice d2 vs2.length cd2] 26) = X := ⟨_, rfl⟩
  have b1 : Below w.heap.size w X := by rw [← hX]; exact bt (alloc_later _ _) (alloc_later _ _)
  have HB0 : Hid (Box X (w.heap.size) 26 #[.bool n, .slice a xs.length ca, .slice b ys.length cb, .bool m, .slice c us.length cc, .slice d vs.length cd]) := by
    have h := Box.made w 26 #[.bool n, .slice a xs.length ca, .slice b ys.length cb, .bool m, .slice c us.length cc, .slice d vs.length cd]
    rw [← hX]
    exact h.later (alloc_later _ _) h.lt
  have HB1 : Hid (Box X (w.heap.size + 1) 26 #[.bool n2, .slice a2 xs2.length ca2, .slice b2 ys2.length cb2, .bool m2, .slice c2 us2.length cc2, .slice d2 vs2.length cd2]) := by
    have h := Box.made (w.alloc (.cells #[.bool n, .slice a xs.length ca, .slice b ys.length cb, .bool m, .slice c us.length cc, .slice d vs.length cd] 26)) 26 #[.bool n2, .slice a2 xs2.length ca2, .slice b2 ys2.length cb2, .bool m2, .slice c2 us2.length cc2, .slice d2 vs2.length cd2]
    rw [show (w.alloc (.cells #[.bool n, .slice a xs.length ca, .slice b ys.length cb, .bool m, .slice c us.length cc, .slice d vs.length cd] 26)).heap.size = w.heap.size + 1 by simp] at h
    rw [hX] at h
    exact h
  have HC1 := hid (kpcheck_any n a ca xs b cb ys m c cc us d cd vs X (sx.later b1) (sy.later b1) (su.later b1) (sv.later b1) lx ly lu lv)
  have HC2 := hid (fun V (hv : Below X.heap.size X V) => kpcheck_any n2 a2 ca2 xs2 b2 cb2 ys2 m2 c2 cc2 us2 d2 cd2 vs2 V ((sx2.later b1).later hv) ((sy2.later b1).later hv) ((su2.later b1).later hv) ((sv2.later b1).later hv) lx2 ly2 lu2 lv2)
  have HB := hid b1
  clear sx sy su sv sx2 sy2 su2 sv2 b1 lx ly lu lv lx2 ly2 lu2 lv2
  obtain ⟨k0, k1, k2, k3, k4, k5⟩ := Kl6.of HB0.out
  generalize gchk n xs ys m us vs = r at *
  generalize gchk n2 xs2 ys2 m2 us2 vs2 = r2 at *
  by_cases hz : r = 0
  · subst hz
    rw [fstE_zero]
    go_enter Tryz.func27, Tryz.ntmps27
    go_wp2_with fail
    clear hX
    refine Calls.mono HC1.out ?_
    rintro x w1 ⟨rfl, hb1⟩
    have HD := hid (HC2.out w1 hb1)
    have HW1 := hid (bt HB.out hb1)
    clear k0 k1 k2 k3 k4 k5 HC1 HC2
    obtain ⟨k0, k1, k2, k3, k4, k5⟩ := Kl6.of (HB1.out.later hb1 HB1.out.lt)
    clear hb1
    go_wp2_with fail
    refine Calls.mono HD.out ?_
    rintro x w2 ⟨rfl, hb2⟩
    have HW2 := hid (bt HW1.out hb2)
    clear hb2 HD k0 k1 k2 k3 k4 k5
    go_wp2_with fail
    go_ret
    exact ⟨rfl, HW2.out⟩
  · rw [fstE_err _ hz]
    have hz' : (r != 0) = true := by simpa using hz
    go_enter Tryz.func27, Tryz.ntmps27
    go_wp2_with fail
    clear hX
    refine Calls.mono HC1.out ?_
    rintro x w1 ⟨rfl, hb1⟩
    have HW1 := hid (bt HB.out hb1)
    clear hb1 HC1 HC2 k0 k1 k2 k3 k4 k5
    go_wp2_with fail
    go_ret
    exact ⟨rfl, HW1.out⟩
set_option linter.unusedSimpArgs false
structure F3 where
  n : Bool
  a : Option Addr
  ca : Nat
  xs : List Int
  b : Option Addr
  cb : Nat
  ys : List Int
def F3.Ow (f : F3) (V : World) (base : Nat) : Prop := V.ownsRow base 63 1 (.slice f.a f.xs.length f.ca) f.xs.length (f.xs.map (Value.int .u32)) ∧ V.ownsRow base 63 1 (.slice f.b f.ys.length f.cb) f.ys.length (f.ys.map (Value.int .u32))
def F3.Sl2 (f : F3) (V : World) : Prop := Sl V (.slice f.a f.xs.length f.ca) f.xs ∧ Sl V (.slice f.b f.ys.length f.cb) f.ys
theorem F3.Ow.later {f : F3} {V V' : World} {base : Nat} (h : f.Ow V base) (hb : Below V.heap.size V V') : f.Ow V' base := ⟨owns_later h.1 hb, owns_later h.2 hb⟩
theorem F3.Ow.base {f : F3} {V : World} {base base' : Nat} (h : f.Ow V base) (hb : base' ≤ base) : f.Ow V base' := ⟨owns_base h.1 hb, owns_base h.2 hb⟩
theorem F3.Ow.sl {f : F3} {V : World} {base : Nat} (h : f.Ow V base) (w : Wd f.xs ∧ Wd f.ys) : f.Sl2 V := ⟨Sl.own h.1 w.1, Sl.own h.2 w.2⟩
theorem F3.Sl2.later {f : F3} {V V' : World} (h : f.Sl2 V) (hb : Below V.heap.size V V') : f.Sl2 V' := ⟨h.1.later hb, h.2.later hb⟩
theorem f3_put {f : F3} {W A : World} {base : Nat} (h : f.Ow W base) (P : ∀ base v n xs, W.ownsRow base 63 1 v n xs → A.ownsRow base 63 1 v n xs) : f.Ow A base := ⟨P _ _ _ _ h.1, P _ _ _ _ h.2⟩
def QR (w : World) (t : Bool → List Int → List Int → Int → Prop) (x : Ending) (w' : World) : Prop := ∃ (f : F3) (code : Int), x = .returned (.tuple #[.agg #[.bool f.n, .slice f.a f.xs.length f.ca, .slice f.b f.ys.length f.cb], .int .i64 code]) ∧ Hid (f.Ow w' w.heap.size) ∧ Hid ((Wd f.xs ∧ Wd f.ys) ∧ t f.n f.xs f.ys code) ∧ Below w.heap.size w w'
theorem qr_told {w w' : World} {E : Int} {q : Rat} {x : Ending} (h : RTold w E q x w') : QR w (RTells E q) x w' := by
  obtain ⟨n, v, xs, u, ys, c, rfl, ov, ou, ht, hb⟩ := h
  obtain ⟨a, ca, rfl⟩ := own_slice' ov
  obtain ⟨b, cb, rfl⟩ := own_slice' ou
  exact ⟨⟨n, a, ca, xs, b, cb, ys⟩, c, rfl, ⟨ov, ou⟩, ⟨⟨ht.wx, ht.wy⟩, ht⟩, hb⟩
theorem qr_drt {w w' : World} {t : Bool → List Int → List Int → Int → Prop} {x : Ending} (h : DRT w t x w') : QR w t x w' := by
  obtain ⟨n, a, ca, xs, b, cb, ys, c, rfl, ho, hw, ht, hb⟩ := h
  exact ⟨⟨n, a, ca, xs, b, cb, ys⟩, c, rfl, ho, ⟨hw, ht⟩, hb⟩
def gqZ : G6 := ⟨false, none, 0, [], none, 0, [], false, none, 0, [], none, 0, []⟩
theorem gqZ_ow (V : World) (base : Nat) : gqZ.Ow V base := ⟨World.ownsRow_nil _ _ _ _, World.ownsRow_nil _ _ _ _, World.ownsRow_nil _ _ _ _, World.ownsRow_nil _ _ _ _⟩
def DGq (w : World) (E : Int) (L : Prop) (q1 q2 : Rat) (x : Ending) (w' : World) : Prop := ∃ (r : G6) (code : Int), x = .returned (.tuple #[.agg #[.bool r.n, .slice r.a r.xs.length r.ca, .slice r.b r.ys.length r.cb, .bool r.m, .slice r.c r.us.length r.cc, .slice r.d r.vs.length r.cd], .int .i64 code]) ∧ Hid (r.Ow w' w.heap.size) ∧ Hid (GTells E L q1 q2 r.n r.xs r.ys r.m r.us r.vs code) ∧ Below w.heap.size w w'
theorem gq_bad {E : Int} {L : Prop} {q1 q2 : Rat} (h : E ≠ 0) : GTells E L q1 q2 gqZ.n gqZ.xs gqZ.ys gqZ.m gqZ.us gqZ.vs E := ⟨⟨Wd.nil, Wd.nil, Wd.nil, Wd.nil⟩, fun _ => ⟨⟨rfl, rfl, rfl, rfl, rfl, rfl⟩, rfl⟩, fun e => absurd e h, fun e => absurd e h⟩
theorem gq_boxes (w : World) (t1 t2 t3 : Nat) (c1 c2 c3 : Array Value) : Box (((w.alloc (.cells c1 t1)).alloc (.cells c2 t2)).alloc (.cells c3 t3)) w.heap.size t1 c1 ∧ Box (((w.alloc (.cells c1 t1)).alloc (.cells c2 t2)).alloc (.cells c3 t3)) (w.heap.size + 1) t2 c2 ∧ Box (((w.alloc (.cells c1 t1)).alloc (.cells c2 t2)).alloc (.cells c3 t3)) (w.heap.size + 1 + 1) t3 c3 ∧ Below w.heap.size w (((w.alloc (.cells c1 t1)).alloc (.cells c2 t2)).alloc (.cells c3 t3)) := by
  have b1 := Box.made w t1 c1
  have b2 := Box.made (w.alloc (.cells c1 t1)) t2 c2
  have b3 := Box.made ((w.alloc (.cells c1 t1)).alloc (.cells c2 t2)) t3 c3
  have l1 := b1.later (alloc_later (w.alloc (.cells c1 t1)) (.cells c2 t2)) b1.lt
  have l2 := l1.later (alloc_later ((w.alloc (.cells c1 t1)).alloc (.cells c2 t2)) (.cells c3 t3)) l1.lt
  have m2 := b2.later (alloc_later ((w.alloc (.cells c1 t1)).alloc (.cells c2 t2)) (.cells c3 t3)) b2.lt
  refine ⟨l2, ?_, ?_, bt (bt (alloc_later _ _) (alloc_later _ _)) (alloc_later _ _)⟩
  · simpa using m2
  · simpa using b3
def G6.Sh (g : G6) : Prop := g.xs.length ≤ 281474976710656 ∧ g.ys.length ≤ 281474976710656 ∧ g.us.length ≤ 281474976710656 ∧ g.vs.length ≤ 281474976710656
set_option maxHeartbeats 3200000 in
theorem d4Add_q (g h : G6) (w : World) (sg : g.Sl4 w) (sh : h.Sl4 w) (lg : g.Sh) (lh : h.Sh) :
    Calls Tryz.prog 9 #[.agg #[.bool g.n, .slice g.a g.xs.length g.ca, .slice g.b g.ys.length g.cb, .bool g.m, .slice g.c g.us.length g.cc, .slice g.d g.vs.length g.cd], .agg #[.bool h.n, .slice h.a h.xs.length h.ca, .slice h.b h.ys.length h.cb, .bool h.m, .slice h.c h.us.length h.cc, .slice h.d h.vs.length h.cd]] w (DGq w (fstE (gchk g.n g.xs g.ys g.m g.us g.vs) (gchk h.n h.xs h.ys h.m h.us h.vs)) (rlong (rq g.n g.xs g.ys + rq h.n h.xs h.ys) ∨ rlong (rq g.m g.us g.vs + rq h.m h.us h.vs)) (rq g.n g.xs g.ys + rq h.n h.xs h.ys) (rq g.m g.us g.vs + rq h.m h.us h.vs)) := by
  obtain ⟨X, hX⟩ : ∃ X, ((w.alloc (.cells #[.bool g.n, .slice g.a g.xs.length g.ca, .slice g.b g.ys.length g.cb, .bool g.m, .slice g.c g.us.length g.cc, .slice g.d g.vs.length g.cd] 26)).alloc (.cells #[.bool h.n, .slice h.a h.xs.length h.ca, .slice h.b h.ys.length h.cb, .bool h.m, .slice h.c h.us.length h.cc, .slice h.d h.vs.length h.cd] 26)).alloc (.cells #[.bool false, .slice none 0 0, .slice none 0 0, .bool false, .slice none 0 0, .slice none 0 0] 26) = X := ⟨_, rfl⟩
  have HX := hid (gq_boxes w 26 26 26 #[.bool g.n, .slice g.a g.xs.length g.ca, .slice g.b g.ys.length g.cb, .bool g.m, .slice g.c g.us.length g.cc, .slice g.d g.vs.length g.cd] #[.bool h.n, .slice h.a h.xs.length h.ca, .slice h.b h.ys.length h.cb, .bool h.m, .slice h.c h.us.length h.cc, .slice h.d h.vs.length h.cd] #[.bool false, .slice none 0 0, .slice none 0 0, .bool false, .slice none 0 0, .slice none 0 0])
  rw [hX] at HX
  have HW0 := hid HX.out.2.2.2
  have Hg0 := hid HX.out.1
  have Hh0 := hid HX.out.2.1
  have Hres0 := hid HX.out.2.2.1
  clear HX
  have HSg : Hid (∀ V, Below w.heap.size w V → g.Sl4 V) := fun V hv => sg.later hv
  have HSh : Hid (∀ V, Below w.heap.size w V → h.Sl4 V) := fun V hv => sh.later hv
  have Lg := hid lg
  have Lh := hid lh
  clear sg sh lg lh
  have ZZ : Hid (fstE (gchk g.n g.xs g.ys g.m g.us g.vs) (gchk h.n h.xs h.ys h.m h.us h.vs) = 0 → rboth g.n g.xs g.ys h.n h.xs h.ys = 0 ∧ rboth g.m g.us g.vs h.m h.us h.vs = 0) := fun h0 => ⟨rboth_good (gchk_ok (fstE_ok h0).1).1 (gchk_ok (fstE_ok h0).2).1, rboth_good (gchk_ok (fstE_ok h0).1).2 (gchk_ok (fstE_ok h0).2).2⟩
  have HBo := hid (fun V (hv : Below w.heap.size w V) => d4both_any g.n g.a g.ca g.xs g.b g.cb g.ys g.m g.c g.cc g.us g.d g.cd g.vs V (HSg.out V hv).1 (HSg.out V hv).2.1 (HSg.out V hv).2.2.1 (HSg.out V hv).2.2.2 (by have := Lg.out; unfold G6.Sh at this; omega) (by have := Lg.out; unfold G6.Sh at this; omega) (by have := Lg.out; unfold G6.Sh at this; omega) (by have := Lg.out; unfold G6.Sh at this; omega) h.n h.a h.ca h.xs h.b h.cb h.ys h.m h.c h.cc h.us h.d h.cd h.vs (HSh.out V hv).1 (HSh.out V hv).2.1 (HSh.out V hv).2.2.1 (HSh.out V hv).2.2.2 (by have := Lh.out; unfold G6.Sh at this; omega) (by have := Lh.out; unfold G6.Sh at this; omega) (by have := Lh.out; unfold G6.Sh at this; omega) (by have := Lh.out; unfold G6.Sh at this; omega))
  generalize fstE (gchk g.n g.xs g.ys g.m g.us g.vs) (gchk h.n h.xs h.ys h.m h.us h.vs) = E at *
  go_enter Tryz.func9, Tryz.ntmps9
  have HD := hid (HBo.out X HW0.out)
  have cg0 : X.cell? ⟨w.heap.size, 0, none⟩ = some (.bool g.n) := Hg0.out.cell 0
  have cg1 : X.cell? ⟨w.heap.size, 1, none⟩ = some (.slice g.a g.xs.length g.ca) := Hg0.out.cell 1
  have cg2 : X.cell? ⟨w.heap.size, 2, none⟩ = some (.slice g.b g.ys.length g.cb) := Hg0.out.cell 2
  have cg3 : X.cell? ⟨w.heap.size, 3, none⟩ = some (.bool g.m) := Hg0.out.cell 3
  have cg4 : X.cell? ⟨w.heap.size, 4, none⟩ = some (.slice g.c g.us.length g.cc) := Hg0.out.cell 4
  have cg5 : X.cell? ⟨w.heap.size, 5, none⟩ = some (.slice g.d g.vs.length g.cd) := Hg0.out.cell 5
  have ch0 : X.cell? ⟨w.heap.size + 1, 0, none⟩ = some (.bool h.n) := Hh0.out.cell 0
  have ch1 : X.cell? ⟨w.heap.size + 1, 1, none⟩ = some (.slice h.a h.xs.length h.ca) := Hh0.out.cell 1
  have ch2 : X.cell? ⟨w.heap.size + 1, 2, none⟩ = some (.slice h.b h.ys.length h.cb) := Hh0.out.cell 2
  have ch3 : X.cell? ⟨w.heap.size + 1, 3, none⟩ = some (.bool h.m) := Hh0.out.cell 3
  have ch4 : X.cell? ⟨w.heap.size + 1, 4, none⟩ = some (.slice h.c h.us.length h.cc) := Hh0.out.cell 4
  have ch5 : X.cell? ⟨w.heap.size + 1, 5, none⟩ = some (.slice h.d h.vs.length h.cd) := Hh0.out.cell 5
  go_wp2_with fail
  clear hX
  refine Calls.mono HD.out ?_
  rintro e w1 ⟨rfl, hb⟩
  clear HD cg0 cg1 cg2 cg3 cg4 cg5 ch0 ch1 ch2 ch3 ch4 ch5
  clear HBo
  have HW2 := hid (bt HW0.out hb)
  have Hg2 := hid (Hg0.out.later hb Hg0.out.lt)
  have Hh2 := hid (Hh0.out.later hb Hh0.out.lt)
  have Hres2 := hid (Hres0.out.later hb Hres0.out.lt)
  clear HW0 Hg0 Hh0 Hres0
  clear hb
  rcases Decidable.em (¬ E = 0) with hc | hc
  · have HCX := hid hc
    have dd : (E != 0) = true := by simp [hc]
    have de : (E == 0) = false := by simp [hc]
    clear hc
    obtain ⟨C0, C1, C2, C3, C4, C5, qC0, qC1, qC2, qC3, qC4, qC5, ⟨rC0, rC1, rC2, rC3, rC4, rC5⟩, ⟨fC0, fC1, fC2, fC3, fC4, fC5⟩, HCC⟩ := rchain6 Hres2.out (by decide) (.bool false) (.slice none 0 0) (.slice none 0 0) (.bool false) (.slice none 0 0) (.slice none 0 0)
    go_wp2_with fail
    refine bodyPost_ret (gres_run (by rfl) HCC.out.1 _ (by rfl)) rfl ?_
    exact ⟨gqZ, E, rfl, gqZ_ow _ _, gq_bad HCX.out, HCC.out.2.2.2.1 _ _ (by omega) HW2.out⟩
  have hz : E = 0 := Decidable.not_not.1 hc
  subst hz
  clear hc
  have z12 := ZZ.out rfl
  have Z1 := hid z12.1
  have Z2 := hid z12.2
  clear ZZ z12
  have HQ : Hid (Calls Tryz.prog 28 #[.agg #[.bool g.n, .slice g.a g.xs.length g.ca, .slice g.b g.ys.length g.cb], .agg #[.bool h.n, .slice h.a h.xs.length h.ca, .slice h.b h.ys.length h.cb]] w1 (QR w1 (RTells (rboth g.n g.xs g.ys h.n h.xs h.ys) (rq g.n g.xs g.ys + rq h.n h.xs h.ys)))) := Calls.mono (dAdd_full g.n g.a g.ca g.xs g.b g.cb g.ys h.n h.a h.ca h.xs h.b h.cb h.ys w1 (HSg.out w1 HW2.out).1 (HSg.out w1 HW2.out).2.1 (HSh.out w1 HW2.out).1 (HSh.out w1 HW2.out).2.1 (by have := Lg.out; unfold G6.Sh at this; omega) (by have := Lg.out; unfold G6.Sh at this; omega) (by have := Lh.out; unfold G6.Sh at this; omega) (by have := Lh.out; unfold G6.Sh at this; omega)) (fun _ _ q => qr_told q)
  have HD := hid (HQ.out)
  have cg0 : w1.cell? ⟨w.heap.size, 0, none⟩ = some (.bool g.n) := Hg2.out.cell 0
  have cg1 : w1.cell? ⟨w.heap.size, 1, none⟩ = some (.slice g.a g.xs.length g.ca) := Hg2.out.cell 1
  have cg2 : w1.cell? ⟨w.heap.size, 2, none⟩ = some (.slice g.b g.ys.length g.cb) := Hg2.out.cell 2
  have cg3 : w1.cell? ⟨w.heap.size, 3, none⟩ = some (.bool g.m) := Hg2.out.cell 3
  have cg4 : w1.cell? ⟨w.heap.size, 4, none⟩ = some (.slice g.c g.us.length g.cc) := Hg2.out.cell 4
  have cg5 : w1.cell? ⟨w.heap.size, 5, none⟩ = some (.slice g.d g.vs.length g.cd) := Hg2.out.cell 5
  have ch0 : w1.cell? ⟨w.heap.size + 1, 0, none⟩ = some (.bool h.n) := Hh2.out.cell 0
  have ch1 : w1.cell? ⟨w.heap.size + 1, 1, none⟩ = some (.slice h.a h.xs.length h.ca) := Hh2.out.cell 1
  have ch2 : w1.cell? ⟨w.heap.size + 1, 2, none⟩ = some (.slice h.b h.ys.length h.cb) := Hh2.out.cell 2
  have ch3 : w1.cell? ⟨w.heap.size + 1, 3, none⟩ = some (.bool h.m) := Hh2.out.cell 3
  have ch4 : w1.cell? ⟨w.heap.size + 1, 4, none⟩ = some (.slice h.c h.us.length h.cc) := Hh2.out.cell 4
  have ch5 : w1.cell? ⟨w.heap.size + 1, 5, none⟩ = some (.slice h.d h.vs.length h.cd) := Hh2.out.cell 5
  go_wp2_with fail
  refine Calls.mono HD.out ?_
  rintro e w3 ⟨re, cre, rfl, ok, ik, hb⟩
  clear HD cg0 cg1 cg2 cg3 cg4 cg5 ch0 ch1 ch2 ch3 ch4 ch5
  have Ore := hid (ok.out.base HW2.out.size)
  have Ire := hid ik.out
  clear ok ik
  have HW4 := hid (bt HW2.out hb)
  have Hg4 := hid (Hg2.out.later hb Hg2.out.lt)
  have Hh4 := hid (Hh2.out.later hb Hh2.out.lt)
  have Hres4 := hid (Hres2.out.later hb Hres2.out.lt)
  clear HW2 Hg2 Hh2 Hres2
  clear hb
  obtain ⟨Yre, hYre⟩ : ∃ Y, w3.alloc (.cells #[.bool false, .slice none 0 0, .slice none 0 0] 24) = Y := ⟨_, rfl⟩
  have NYre : Hid (Box Yre w3.heap.size 24 #[.bool false, .slice none 0 0, .slice none 0 0]) := by rw [← hYre]; exact Box.made w3 _ _
  have BYre : Hid (Below w3.heap.size w3 Yre) := by rw [← hYre]; exact alloc_later _ _
  obtain ⟨Kre0, Kre1, Kre2, qKre0, qKre1, qKre2, ⟨rKre0, rKre1, rKre2⟩, ⟨fKre0, fKre1, fKre2⟩, Pre⟩ := rchain3 NYre.out (by decide) (.bool re.n) (.slice re.a re.xs.length re.ca) (.slice re.b re.ys.length re.cb)
  have HW5 : Hid (Below w.heap.size w Kre2) := Pre.out.2.2.2.1 _ _ HW4.out.size (bt HW4.out BYre.out)
  have Hg5 := hid (Pre.out.2.1 _ _ _ (Nat.ne_of_lt Hg4.out.lt) (Hg4.out.later BYre.out Hg4.out.lt))
  have Hh5 := hid (Pre.out.2.1 _ _ _ (Nat.ne_of_lt Hh4.out.lt) (Hh4.out.later BYre.out Hh4.out.lt))
  have Hres5 := hid (Pre.out.2.1 _ _ _ (Nat.ne_of_lt Hres4.out.lt) (Hres4.out.later BYre.out Hres4.out.lt))
  replace Ore := hid (f3_put (Ore.out.later BYre.out) Pre.out.2.2.1)
  have Hre5 := hid Pre.out.1
  clear HW4 Hg4 Hh4 Hres4 NYre BYre Pre
  clear HQ
  rcases Decidable.em (¬ cre = 0) with hc | hc
  · have HCX := hid hc
    have dd : (cre != 0) = true := by simp [hc]
    have de : (cre == 0) = false := by simp [hc]
    clear hc
    obtain ⟨C0, C1, C2, C3, C4, C5, qC0, qC1, qC2, qC3, qC4, qC5, ⟨rC0, rC1, rC2, rC3, rC4, rC5⟩, ⟨fC0, fC1, fC2, fC3, fC4, fC5⟩, HCC⟩ := rchain6 Hres5.out (by decide) (.bool false) (.slice none 0 0) (.slice none 0 0) (.bool false) (.slice none 0 0) (.slice none 0 0)
    go_wp2_with fail
    refine bodyPost_ret (gres_run (by rfl) HCC.out.1 _ (by rfl)) rfl ?_
    exact ⟨gqZ, cre, rfl, gqZ_ow _ _, (gtwo (E := 0) (e2 := 0) (q2 := rq g.m g.us g.vs + rq h.m h.us h.vs) (by rw [fstE_zero]; exact Ire.out.2) (by rw [fstE_err _ HCX.out]; exact RTells.err HCX.out) (fun _ => Z1.out) (fun _ => rfl)).2 HCX.out, HCC.out.2.2.2.1 _ _ (by omega) HW5.out⟩
  have hz : cre = 0 := Decidable.not_not.1 hc
  subst hz
  clear hc
  have HQ : Hid (Calls Tryz.prog 28 #[.agg #[.bool g.m, .slice g.c g.us.length g.cc, .slice g.d g.vs.length g.cd], .agg #[.bool h.m, .slice h.c h.us.length h.cc, .slice h.d h.vs.length h.cd]] Kre2 (QR Kre2 (RTells (rboth g.m g.us g.vs h.m h.us h.vs) (rq g.m g.us g.vs + rq h.m h.us h.vs)))) := Calls.mono (dAdd_full g.m g.c g.cc g.us g.d g.cd g.vs h.m h.c h.cc h.us h.d h.cd h.vs Kre2 (HSg.out Kre2 HW5.out).2.2.1 (HSg.out Kre2 HW5.out).2.2.2 (HSh.out Kre2 HW5.out).2.2.1 (HSh.out Kre2 HW5.out).2.2.2 (by have := Lg.out; unfold G6.Sh at this; omega) (by have := Lg.out; unfold G6.Sh at this; omega) (by have := Lh.out; unfold G6.Sh at this; omega) (by have := Lh.out; unfold G6.Sh at this; omega)) (fun _ _ q => qr_told q)
  have HD := hid (HQ.out)
  have cg0 : Kre2.cell? ⟨w.heap.size, 0, none⟩ = some (.bool g.n) := Hg5.out.cell 0
  have cg1 : Kre2.cell? ⟨w.heap.size, 1, none⟩ = some (.slice g.a g.xs.length g.ca) := Hg5.out.cell 1
  have cg2 : Kre2.cell? ⟨w.heap.size, 2, none⟩ = some (.slice g.b g.ys.length g.cb) := Hg5.out.cell 2
  have cg3 : Kre2.cell? ⟨w.heap.size, 3, none⟩ = some (.bool g.m) := Hg5.out.cell 3
  have cg4 : Kre2.cell? ⟨w.heap.size, 4, none⟩ = some (.slice g.c g.us.length g.cc) := Hg5.out.cell 4
  have cg5 : Kre2.cell? ⟨w.heap.size, 5, none⟩ = some (.slice g.d g.vs.length g.cd) := Hg5.out.cell 5
  have ch0 : Kre2.cell? ⟨w.heap.size + 1, 0, none⟩ = some (.bool h.n) := Hh5.out.cell 0
  have ch1 : Kre2.cell? ⟨w.heap.size + 1, 1, none⟩ = some (.slice h.a h.xs.length h.ca) := Hh5.out.cell 1
  have ch2 : Kre2.cell? ⟨w.heap.size + 1, 2, none⟩ = some (.slice h.b h.ys.length h.cb) := Hh5.out.cell 2
  have ch3 : Kre2.cell? ⟨w.heap.size + 1, 3, none⟩ = some (.bool h.m) := Hh5.out.cell 3
  have ch4 : Kre2.cell? ⟨w.heap.size + 1, 4, none⟩ = some (.slice h.c h.us.length h.cc) := Hh5.out.cell 4
  have ch5 : Kre2.cell? ⟨w.heap.size + 1, 5, none⟩ = some (.slice h.d h.vs.length h.cd) := Hh5.out.cell 5
  go_wp2_with fail
  clear qKre0 qKre1 qKre2 rKre0 rKre1 rKre2 fKre0 fKre1 fKre2 hYre
  refine Calls.mono HD.out ?_
  rintro e w6 ⟨im, cim, rfl, ok, ik, hb⟩
  clear HD cg0 cg1 cg2 cg3 cg4 cg5 ch0 ch1 ch2 ch3 ch4 ch5
  have Oim := hid (ok.out.base HW5.out.size)
  have Iim := hid ik.out
  clear ok ik
  have HW7 := hid (bt HW5.out hb)
  have Hg7 := hid (Hg5.out.later hb Hg5.out.lt)
  have Hh7 := hid (Hh5.out.later hb Hh5.out.lt)
  have Hres7 := hid (Hres5.out.later hb Hres5.out.lt)
  have Hre7 := hid (Hre5.out.later hb Hre5.out.lt)
  replace Ore := hid (Ore.out.later hb)
  clear HW5 Hg5 Hh5 Hres5 Hre5
  clear hb
  obtain ⟨Yim, hYim⟩ : ∃ Y, w6.alloc (.cells #[.bool false, .slice none 0 0, .slice none 0 0] 24) = Y := ⟨_, rfl⟩
  have NYim : Hid (Box Yim w6.heap.size 24 #[.bool false, .slice none 0 0, .slice none 0 0]) := by rw [← hYim]; exact Box.made w6 _ _
  have BYim : Hid (Below w6.heap.size w6 Yim) := by rw [← hYim]; exact alloc_later _ _
  obtain ⟨Kim0, Kim1, Kim2, qKim0, qKim1, qKim2, ⟨rKim0, rKim1, rKim2⟩, ⟨fKim0, fKim1, fKim2⟩, Pim⟩ := rchain3 NYim.out (by decide) (.bool im.n) (.slice im.a im.xs.length im.ca) (.slice im.b im.ys.length im.cb)
  have HW8 : Hid (Below w.heap.size w Kim2) := Pim.out.2.2.2.1 _ _ HW7.out.size (bt HW7.out BYim.out)
  have Hg8 := hid (Pim.out.2.1 _ _ _ (Nat.ne_of_lt Hg7.out.lt) (Hg7.out.later BYim.out Hg7.out.lt))
  have Hh8 := hid (Pim.out.2.1 _ _ _ (Nat.ne_of_lt Hh7.out.lt) (Hh7.out.later BYim.out Hh7.out.lt))
  have Hres8 := hid (Pim.out.2.1 _ _ _ (Nat.ne_of_lt Hres7.out.lt) (Hres7.out.later BYim.out Hres7.out.lt))
  have Hre8 := hid (Pim.out.2.1 _ _ _ (Nat.ne_of_lt Hre7.out.lt) (Hre7.out.later BYim.out Hre7.out.lt))
  replace Ore := hid (f3_put (Ore.out.later BYim.out) Pim.out.2.2.1)
  replace Oim := hid (f3_put (Oim.out.later BYim.out) Pim.out.2.2.1)
  have Him8 := hid Pim.out.1
  clear HW7 Hg7 Hh7 Hres7 Hre7 NYim BYim Pim
  clear HQ
  rcases Decidable.em (¬ cim = 0) with hc | hc
  · have HCX := hid hc
    have dd : (cim != 0) = true := by simp [hc]
    have de : (cim == 0) = false := by simp [hc]
    clear hc
    obtain ⟨C0, C1, C2, C3, C4, C5, qC0, qC1, qC2, qC3, qC4, qC5, ⟨rC0, rC1, rC2, rC3, rC4, rC5⟩, ⟨fC0, fC1, fC2, fC3, fC4, fC5⟩, HCC⟩ := rchain6 Hres8.out (by decide) (.bool false) (.slice none 0 0) (.slice none 0 0) (.bool false) (.slice none 0 0) (.slice none 0 0)
    go_wp2_with fail
    refine bodyPost_ret (gres_run (by rfl) HCC.out.1 _ (by rfl)) rfl ?_
    exact ⟨gqZ, cim, rfl, gqZ_ow _ _, (gtwo (E := 0) (by rw [fstE_zero]; exact Ire.out.2) (by rw [fstE_zero]; exact Iim.out.2) (fun _ => Z1.out) (fun _ => Z2.out)).2 HCX.out, HCC.out.2.2.2.1 _ _ (by omega) HW8.out⟩
  have hz : cim = 0 := Decidable.not_not.1 hc
  subst hz
  clear hc
  have TT := (gtwo (E := 0) (by rw [fstE_zero]; exact Ire.out.2) (by rw [fstE_zero]; exact Iim.out.2) (fun _ => Z1.out) (fun _ => Z2.out)).1 rfl
  have HTT := hid TT
  clear TT
  have cre0 : Kim2.cell? ⟨w3.heap.size, 0, none⟩ = some (.bool re.n) := Hre8.out.cell 0
  have cre1 : Kim2.cell? ⟨w3.heap.size, 1, none⟩ = some (.slice re.a re.xs.length re.ca) := Hre8.out.cell 1
  have cre2 : Kim2.cell? ⟨w3.heap.size, 2, none⟩ = some (.slice re.b re.ys.length re.cb) := Hre8.out.cell 2
  have cim0 : Kim2.cell? ⟨w6.heap.size, 0, none⟩ = some (.bool im.n) := Him8.out.cell 0
  have cim1 : Kim2.cell? ⟨w6.heap.size, 1, none⟩ = some (.slice im.a im.xs.length im.ca) := Him8.out.cell 1
  have cim2 : Kim2.cell? ⟨w6.heap.size, 2, none⟩ = some (.slice im.b im.ys.length im.cb) := Him8.out.cell 2
  obtain ⟨C0, C1, C2, C3, C4, C5, qC0, qC1, qC2, qC3, qC4, qC5, ⟨rC0, rC1, rC2, rC3, rC4, rC5⟩, ⟨fC0, fC1, fC2, fC3, fC4, fC5⟩, HCC⟩ := rchain6 Hres8.out (by decide) (.bool re.n) (.slice re.a re.xs.length re.ca) (.slice re.b re.ys.length re.cb) (.bool im.n) (.slice im.a im.xs.length im.ca) (.slice im.b im.ys.length im.cb)
  go_wp2_with fail
  have P := HCC.out.2.2.1
  refine bodyPost_ret (gres_run (by rfl) HCC.out.1 _ (by rfl)) rfl ?_
  exact ⟨⟨re.n, re.a, re.ca, re.xs, re.b, re.cb, re.ys, im.n, im.a, im.ca, im.xs, im.b, im.cb, im.ys⟩, 0, rfl, ⟨P _ _ _ _ Ore.out.1, P _ _ _ _ Ore.out.2, P _ _ _ _ Oim.out.1, P _ _ _ _ Oim.out.2⟩, HTT.out, HCC.out.2.2.2.1 _ _ (by omega) HW8.out⟩
structure Tl (L : Prop) (q : Rat) (n : Bool) (xs ys : List Int) (c : Int) : Prop where
  w : Wd xs ∧ Wd ys
  long : L → n = false ∧ xs = [] ∧ ys = [] ∧ c = 3
  good : ¬ L → c = 0 ∧ rchk n xs ys = 0 ∧ rq n xs ys = q
theorem tl_r {q : Rat} {n : Bool} {xs ys : List Int} {c : Int} (h : RTells 0 q n xs ys c) : Tl (rlong q) q n xs ys c := ⟨⟨h.wx, h.wy⟩, fun l => h.long rfl l, fun l => h.good rfl l⟩
theorem tl_p {less : Bool} {p q : Rat} {n : Bool} {xs ys : List Int} {c : Int} (h : PrT less 0 0 p 0 q n xs ys c) (w : Wd xs ∧ Wd ys) : Tl ((rlong p ∨ rlong q) ∨ rlong (if less then p - q else p + q)) (if less then p - q else p + q) n xs ys c := by
  obtain ⟨n1, x1, y1, c1, n2, x2, y2, c2, t1, t2, t3⟩ := h
  rw [fstE_zero] at t1
  by_cases lp : rlong p
  · obtain ⟨_, _, _, e1⟩ := t1.long rfl lp
    subst e1
    rw [fstE_err _ (by decide)] at t2
    obtain ⟨_, _, _, e2⟩ := t2.bad (by decide)
    subst e2
    rw [fstE_err _ (by decide)] at t3
    exact ⟨w, fun _ => t3.bad (by decide), fun l => absurd (.inl (.inl lp)) l⟩
  · obtain ⟨e1, k1, v1⟩ := t1.good rfl lp
    subst e1
    rw [fstE_zero] at t2
    by_cases lq : rlong q
    · obtain ⟨_, _, _, e2⟩ := t2.long rfl lq
      subst e2
      rw [fstE_err _ (by decide)] at t3
      exact ⟨w, fun _ => t3.bad (by decide), fun l => absurd (.inl (.inr lq)) l⟩
    · obtain ⟨e2, k2, v2⟩ := t2.good rfl lq
      subst e2
      rw [fstE_zero, rboth_good k1 k2, v1, v2] at t3
      refine ⟨w, fun l => ?_, fun l => t3.good rfl (fun h => l (.inr h))⟩
      rcases l with (l | l) | l
      · exact absurd l lp
      · exact absurd l lq
      · exact t3.long rfl l
theorem tl_less {p q : Rat} {n : Bool} {xs ys : List Int} {c : Int} (h : PrT true 0 0 p 0 q n xs ys c) (w : Wd xs ∧ Wd ys) : Tl ((rlong p ∨ rlong q) ∨ rlong (p - q)) (p - q) n xs ys c := by
  have := tl_p h w
  simpa using this
theorem tl_more {p q : Rat} {n : Bool} {xs ys : List Int} {c : Int} (h : PrT false 0 0 p 0 q n xs ys c) (w : Wd xs ∧ Wd ys) : Tl ((rlong p ∨ rlong q) ∨ rlong (p + q)) (p + q) n xs ys c := by
  have := tl_p h w
  simpa using this
theorem Tl.isl {L : Prop} {q : Rat} {n : Bool} {xs ys : List Int} {c : Int} (h : Tl L q n xs ys c) (hc : c ≠ 0) : L := by
  by_cases l : L
  · exact l
  · exact absurd (h.good l).1 hc
theorem Tl.not {L : Prop} {q : Rat} {n : Bool} {xs ys : List Int} (h : Tl L q n xs ys 0) : ¬ L := fun l => absurd (h.long l).2.2.2 (by decide)
theorem gt_first {E : Int} {L1 L2 : Prop} {q q1 q2 : Rat} {n : Bool} {xs ys : List Int} {c : Int} (hE : E = 0) (h : Tl L1 q n xs ys c) (hc : c ≠ 0) (hl : L1 → L2) : GTells E L2 q1 q2 gqZ.n gqZ.xs gqZ.ys gqZ.m gqZ.us gqZ.vs c :=
  ⟨⟨Wd.nil, Wd.nil, Wd.nil, Wd.nil⟩, fun e => absurd hE e, fun _ _ => ⟨⟨rfl, rfl, rfl, rfl, rfl, rfl⟩, (h.long (h.isl hc)).2.2.2⟩, fun _ l => absurd (hl (h.isl hc)) l⟩
theorem gt_both {E : Int} {L1 L2 : Prop} {q1 q2 : Rat} {n m : Bool} {xs ys us vs : List Int} (hE : E = 0) (h1 : Tl L1 q1 n xs ys 0) (h2 : Tl L2 q2 m us vs 0) : GTells E (L1 ∨ L2) q1 q2 n xs ys m us vs 0 :=
  ⟨⟨h1.w.1, h1.w.2, h2.w.1, h2.w.2⟩, fun e => absurd hE e, fun _ l => l.elim (fun l => absurd l h1.not) (fun l => absurd l h2.not), fun _ _ => ⟨rfl, (h1.good h1.not).2, (h2.good h2.not).2⟩⟩
theorem GTells.iff {E : Int} {L L' : Prop} {q1 q2 : Rat} {n m : Bool} {xs ys us vs : List Int} {c : Int} (h : GTells E L q1 q2 n xs ys m us vs c) (hl : L ↔ L') : GTells E L' q1 q2 n xs ys m us vs c := ⟨h.wd, h.bad, fun e l => h.long e (hl.2 l), fun e l => h.good e (fun q => l (hl.1 q))⟩
def F3.Sh (f : F3) : Prop := f.xs.length ≤ 281474976710656 ∧ f.ys.length ≤ 281474976710656
theorem rchk_few {n : Bool} {xs ys : List Int} (h : rchk n xs ys = 0) : xs.length ≤ 281474976710656 ∧ ys.length ≤ 281474976710656 := by
  have := (rchk_ok h).1
  have := (rchk_ok h).2.1
  exact ⟨by omega, by omega⟩
structure GJ (w X : World) (p : Nat) (E : Int) (l : List (Nat × Nat × Array Value)) (V : World) : Prop where
  inv : GInv w p E l V
  gx : X.grownBy V (some p)
structure GB (w X : World) (p : Nat) (l : List (Nat × Nat × Array Value)) : Prop where
  hw : w.heap.size ≤ X.heap.size
  hp : p < w.heap.size
  hl : ∀ x ∈ l, x.1 < X.heap.size
theorem GJ.first {w X : World} {p : Nat} {E : Int} {l : List (Nat × Nat × Array Value)} (h : GInv w p E l X) : GJ w X p E l X.drew := ⟨h.drew, ⟨rfl, rfl, rfl, Nat.le_refl _, fun _ _ _ => rfl⟩⟩
theorem GJ.drew {w X V : World} {p : Nat} {E : Int} {l : List (Nat × Nat × Array Value)} (h : GJ w X p E l V) : GJ w X p E l V.drew := ⟨h.inv.drew, ⟨h.gx.os, h.gx.tape, h.gx.output, h.gx.size, h.gx.block⟩⟩
theorem GJ.start {w X : World} {p : Nat} {E : Int} {l : List (Nat × Nat × Array Value)} (h : GInv w p E l X) : GJ w X p E l X := ⟨h, ⟨rfl, rfl, rfl, Nat.le_refl _, fun _ _ _ => rfl⟩⟩
theorem GJ.alloc {w X V : World} {p : Nat} {E : Int} {l : List (Nat × Nat × Array Value)} (h : GJ w X p E l V) (ob : Obj) : GJ w X p E l (V.alloc ob) := ⟨h.inv.alloc ob, grow_trans h.gx (World.grownBy_alloc V ob (some p))⟩
theorem GJ.step {w X V V' : World} {p : Nat} {E code : Int} {l : List (Nat × Nat × Array Value)} (h : GJ w X p E l V) (hp : Box V' p 53 #[.int .i64 code]) (hg : V.grownBy V' (some p)) : GJ w X p code l V' := ⟨h.inv.step hp hg, grow_trans h.gx hg⟩
theorem GInv.put3 {w V : World} {p : Nat} {E : Int} {l : List (Nat × Nat × Array Value)} (h : GInv w p E l V) (b : Nat) (hb : w.heap.size ≤ b) (hp : p ≠ b) (hl : ∀ x ∈ l, x.1 ≠ b) (u0 u1 u2 : Value) : GInv w p E l (((V.setCell ⟨b, 0, none⟩ u0).setCell ⟨b, 1, none⟩ u1).setCell ⟨b, 2, none⟩ u2) :=
  ⟨box_far3 h.err hp _ _ _, grow_put3 h.grown b _ _ _ (.inl hb), fun x hx => ⟨box_far3 (h.box x hx).1 (hl x hx) _ _ _, (h.box x hx).2⟩⟩
theorem GJ.put3 {w X V : World} {p : Nat} {E : Int} {l : List (Nat × Nat × Array Value)} (h : GJ w X p E l V) (hB : GB w X p l) (b : Nat) (hb : X.heap.size ≤ b) (u0 u1 u2 : Value) : GJ w X p E l (((V.setCell ⟨b, 0, none⟩ u0).setCell ⟨b, 1, none⟩ u1).setCell ⟨b, 2, none⟩ u2) :=
  ⟨h.inv.put3 b (Nat.le_trans hB.hw hb) (by have := hB.hp; have := hB.hw; omega) (fun x hx => by have := hB.hl x hx; omega) _ _ _, grow_put3 h.gx b _ _ _ (.inl hb)⟩
theorem GInv.more {w V : World} {p : Nat} {E : Int} {l : List (Nat × Nat × Array Value)} (h : GInv w p E l V) {b t : Nat} {vs : Array Value} (hb : Box V b t vs) (hne : b ≠ p) : GInv w p E ((b, t, vs) :: l) V := ⟨h.err, h.grown, fun x hx => by
  cases hx with
  | head => exact ⟨hb, hne⟩
  | tail _ hx => exact h.box x hx⟩
theorem GInv.base {w X : World} {p : Nat} {E : Int} {l : List (Nat × Nat × Array Value)} (h : GInv w p E l X) (hp : p < w.heap.size) : GB w X p l := ⟨h.grown.size, hp, fun x hx => (h.box x hx).1.lt⟩
theorem some_ne {b p : Nat} (h : p < b) : some b ≠ some p := fun e => by have := Option.some.inj e; omega
def GStp (w X : World) (p : Nat) (l : List (Nat × Nat × Array Value)) (V : World) (e : Int) (q : Rat) (x : Ending) (w1 : World) : Prop :=
  ∃ n1 a1 k1 x1 b1 l1 y1 code, x = .returned (.agg #[.bool n1, .slice a1 (List.length x1) k1, .slice b1 (List.length y1) l1]) ∧ Hid (RTells e q n1 x1 y1 code) ∧ Hid (GJ w X p code l w1) ∧ Hid (GRow w1 X.heap.size n1 (.slice a1 (List.length x1) k1) x1 (.slice b1 (List.length y1) l1) y1) ∧ Hid (GRow w1 V.heap.size n1 (.slice a1 (List.length x1) k1) x1 (.slice b1 (List.length y1) l1) y1) ∧ Hid (V.grownBy w1 (some p)) ∧ Hid (Cut V (.slice a1 (List.length x1) k1) (.slice b1 (List.length y1) l1) w1) ∧ X.heap.size ≤ w1.heap.size
theorem gstp {w X V : World} {p : Nat} {EE e : Int} {q : Rat} {l : List (Nat × Nat × Array Value)} {k : Nat} {args : Array Value} (hv : GJ w X p EE l V) (H : Calls Tryz.prog k args V (GTell V p e q)) : Calls Tryz.prog k args V (GStp w X p l V e q) := by
  refine Calls.mono H ?_
  rintro x w1 ⟨n1, v, zs, u, ts, code, rfl, ov, ou, ht, hpb, hg, hcut⟩
  obtain ⟨av, cv, rfl⟩ := own_slice' ov
  obtain ⟨au, cu, rfl⟩ := own_slice' ou
  have hi := hv.step hpb hg
  exact ⟨n1, av, cv, zs, au, cu, ts, code, rfl, hid ht, hid hi, hid ⟨owns_base ov hv.gx.size, owns_base ou hv.gx.size⟩, hid ⟨ov, ou⟩, hid hg, hid hcut, hi.gx.size⟩
def G3 (op : Rat → Rat → Rat) (E e1 e2 : Int) (q1 q2 : Rat) (n3 : Bool) (x3 y3 : List Int) (c3 : Int) : Prop := ∃ n1 x1 y1 c1 n2 x2 y2 c2, RTells (fstE E e1) q1 n1 x1 y1 c1 ∧ RTells (fstE c1 e2) q2 n2 x2 y2 c2 ∧ RTells (fstE c2 (rboth n1 x1 y1 n2 x2 y2)) (op (rq n1 x1 y1) (rq n2 x2 y2)) n3 x3 y3 c3
def GCut (w X : World) (p : Nat) (l : List (Nat × Nat × Array Value)) (op : Rat → Rat → Rat) (E e1 e2 : Int) (q1 q2 : Rat) (s : Value) (W : World) : Prop :=
  ∃ b n3 a3 k3 x3 b3 l3 y3 c3, s = .pointer (some ⟨b, 0, none⟩) ∧ X.heap.size ≤ b ∧ G3 op E e1 e2 q1 q2 n3 x3 y3 c3 ∧ GInv w p c3 ((b, 24, #[.bool n3, .slice a3 (List.length x3) k3, .slice b3 (List.length y3) l3]) :: l) W ∧ GRow W X.heap.size n3 (.slice a3 (List.length x3) k3) x3 (.slice b3 (List.length y3) l3) y3 ∧ Cut X (.slice a3 (List.length x3) k3) (.slice b3 (List.length y3) l3) W ∧ X.grownBy W (some p)
theorem gcut_put {w X : World} {p : Nat} {l : List (Nat × Nat × Array Value)} {op : Rat → Rat → Rat} {E e1 e2 : Int} {q1 q2 : Rat} {n1 n2 n3 : Bool} {x1 y1 x2 y2 x3 y3 : List Int} {c1 c2 c3 : Int} {a3 b3 : Option Addr} {k3 l3 : Nat} {w3 V3 : World} {b : Nat} (hB : GB w X p l) (t1 : RTells (fstE E e1) q1 n1 x1 y1 c1) (t2 : RTells (fstE c1 e2) q2 n2 x2 y2 c2) (t3 : RTells (fstE c2 (rboth n1 x1 y1 n2 x2 y2)) (op (rq n1 x1 y1) (rq n2 x2 y2)) n3 x3 y3 c3) (j3 : GJ w X p c3 l w3) (r3 : GRow w3 V3.heap.size n3 (.slice a3 x3.length k3) x3 (.slice b3 y3.length l3) y3) (cut3 : Cut V3 (.slice a3 x3.length k3) (.slice b3 y3.length l3) w3) (hbx : Box w3 b 24 #[.bool false, .slice none 0 0, .slice none 0 0]) (hb3 : b < V3.heap.size) (hXb : X.heap.size ≤ b) :
    GCut w X p l op E e1 e2 q1 q2 (.pointer (some ⟨b, 0, none⟩)) (((w3.setCell ⟨b, 0, none⟩ (.bool n3)).setCell ⟨b, 1, none⟩ (.slice a3 x3.length k3)).setCell ⟨b, 2, none⟩ (.slice b3 y3.length l3)) := by
  have hj := j3.put3 hB b hXb (.bool n3) (.slice a3 x3.length k3) (.slice b3 y3.length l3)
  have hXV : X.heap.size ≤ V3.heap.size := by omega
  refine ⟨b, n3, a3, k3, x3, b3, l3, y3, c3, rfl, hXb, ⟨n1, x1, y1, c1, n2, x2, y2, c2, t1, t2, t3⟩, hj.inv.more (box_put3 hbx _ _ _) (by have := hB.hp; have := hB.hw; omega), ⟨owns_base (own_put3' r3.ov b (fun g hg => by have := (r3.ov.lt g hg).1; omega) _ _ _) hXV, owns_base (own_put3' r3.ou b (fun g hg => by have := (r3.ou.lt g hg).1; omega) _ _ _) hXV⟩, cut3.up hXV (by simp [World.setCell]), hj.gx⟩
theorem gcut_new {w X : World} {p : Nat} {l : List (Nat × Nat × Array Value)} {op : Rat → Rat → Rat} {E e1 e2 : Int} {q1 q2 : Rat} {n1 n2 n3 : Bool} {x1 y1 x2 y2 x3 y3 : List Int} {c1 c2 c3 : Int} {a3 b3 : Option Addr} {k3 l3 : Nat} {w3 V3 : World} (hB : GB w X p l) (t1 : RTells (fstE E e1) q1 n1 x1 y1 c1) (t2 : RTells (fstE c1 e2) q2 n2 x2 y2 c2) (t3 : RTells (fstE c2 (rboth n1 x1 y1 n2 x2 y2)) (op (rq n1 x1 y1) (rq n2 x2 y2)) n3 x3 y3 c3) (j3 : GJ w X p c3 l w3) (r3 : GRow w3 V3.heap.size n3 (.slice a3 x3.length k3) x3 (.slice b3 y3.length l3) y3) (cut3 : Cut V3 (.slice a3 x3.length k3) (.slice b3 y3.length l3) w3) (hXV : X.heap.size ≤ V3.heap.size) :
    GCut w X p l op E e1 e2 q1 q2 (.pointer (some ⟨w3.heap.size, 0, none⟩)) (w3.alloc (.cells #[.bool n3, .slice a3 x3.length k3, .slice b3 y3.length l3] 24)) := by
  have hj := j3.alloc (.cells #[.bool n3, .slice a3 x3.length k3, .slice b3 y3.length l3] 24)
  have hX3 := j3.gx.size
  refine ⟨w3.heap.size, n3, a3, k3, x3, b3, l3, y3, c3, rfl, hX3, ⟨n1, x1, y1, c1, n2, x2, y2, c2, t1, t2, t3⟩, hj.inv.more (Box.made w3 _ _) (by have := hB.hp; have := hB.hw; omega), ⟨owns_base (owns_later r3.ov (alloc_later _ _)) hXV, owns_base (owns_later r3.ou (alloc_later _ _)) hXV⟩, cut3.up hXV (by simp), hj.gx⟩
theorem gbox_far6 {U : World} {b t b' : Nat} {vs : Array Value} (h : Box U b t vs) (hne : b ≠ b') (v0 v1 v2 v3 v4 v5 : Value) : Box ((((((U.setCell ⟨b', 0, none⟩ v0).setCell ⟨b', 1, none⟩ v1).setCell ⟨b', 2, none⟩ v2).setCell ⟨b', 3, none⟩ v3).setCell ⟨b', 4, none⟩ v4).setCell ⟨b', 5, none⟩ v5) b t vs := (((box_far3 h hne v0 v1 v2).other ⟨b', 3, none⟩ v3 hne).other ⟨b', 4, none⟩ v4 hne).other ⟨b', 5, none⟩ v5 hne
theorem grow_put6 {a c : World} {p : Nat} (h : a.grownBy c (some p)) (b : Nat) (u0 u1 u2 u3 u4 u5 : Value) (hb : a.heap.size ≤ b ∨ b = p) : a.grownBy ((((((c.setCell ⟨b, 0, none⟩ u0).setCell ⟨b, 1, none⟩ u1).setCell ⟨b, 2, none⟩ u2).setCell ⟨b, 3, none⟩ u3).setCell ⟨b, 4, none⟩ u4).setCell ⟨b, 5, none⟩ u5) (some p) :=
  grow_put (grow_put (grow_put (grow_put3 h b u0 u1 u2 hb) b 3 u3 hb) b 4 u4 hb) b 5 u5 hb
theorem box3f {W : World} {b t : Nat} {u0 u1 u2 : Value} (h : Box W b t #[u0, u1, u2]) : W.cell? ⟨b, 0, none⟩ = some u0 ∧ W.cell? ⟨b, 1, none⟩ = some u1 ∧ W.cell? ⟨b, 2, none⟩ = some u2 ∧ W.frozen? ⟨b, 0, none⟩ = false ∧ W.frozen? ⟨b, 1, none⟩ = false ∧ W.frozen? ⟨b, 2, none⟩ = false := ⟨h.cell 0, h.cell 1, h.cell 2, h.free 0, h.free 1, h.free 2⟩
def GTimes (w : World) (p : Nat) (E e1 e2 e3 e4 : Int) (q1 q2 q3 q4 : Rat) (x : Ending) (w' : World) : Prop :=
  ∃ n3 a3 k3 x3 b3 l3 y3 c3 n6 a6 k6 x6 b6 l6 y6 c6, x = .returned (.agg #[.bool n3, .slice a3 (List.length x3) k3, .slice b3 (List.length y3) l3, .bool n6, .slice a6 (List.length x6) k6, .slice b6 (List.length y6) l6]) ∧ (GRow w' w.heap.size n3 (.slice a3 (List.length x3) k3) x3 (.slice b3 (List.length y3) l3) y3 ∧ GRow w' w.heap.size n6 (.slice a6 (List.length x6) k6) x6 (.slice b6 (List.length y6) l6) y6) ∧ G3 (· - ·) E e1 e2 q1 q2 n3 x3 y3 c3 ∧ G3 (· + ·) c3 e3 e4 q3 q4 n6 x6 y6 c6 ∧ Box w' p 53 #[.int .i64 c6] ∧ w.grownBy w' (some p) ∧ ∃ W1, Cut w (.slice a3 (List.length x3) k3) (.slice b3 (List.length y3) l3) W1 ∧ Cut W1 (.slice a6 (List.length x6) k6) (.slice b6 (List.length y6) l6) w'
set_option maxHeartbeats 6400000 in
theorem gtimes_any (p : Nat) (E : Int) (n : Bool) (a : Option Addr) (ca : Nat) (xs : List Int) (b : Option Addr) (cb : Nat) (ys : List Int) (m : Bool) (c : Option Addr) (cc : Nat) (us : List Int) (d : Option Addr) (cd : Nat) (vs : List Int) (n2 : Bool) (a2 : Option Addr) (ca2 : Nat) (xs2 : List Int) (b2 : Option Addr) (cb2 : Nat) (ys2 : List Int) (m2 : Bool) (c2 : Option Addr) (cc2 : Nat) (us2 : List Int) (d2 : Option Addr) (cd2 : Nat) (vs2 : List Int) (w : World) (hp : Box w p 53 #[.int .i64 E]) (HS : ∀ V, w.grownBy V (some p) → Sl V (.slice a xs.length ca) xs ∧ Sl V (.slice b ys.length cb) ys ∧ Sl V (.slice c us.length cc) us ∧ Sl V (.slice d vs.length cd) vs ∧ Sl V (.slice a2 xs2.length ca2) xs2 ∧ Sl V (.slice b2 ys2.length cb2) ys2 ∧ Sl V (.slice c2 us2.length cc2) us2 ∧ Sl V (.slice d2 vs2.length cd2) vs2) :
    Calls Tryz.prog 31 #[.pointer (some ⟨p, 0, none⟩), .agg #[.bool n, .slice a xs.length ca, .slice b ys.length cb, .bool m, .slice c us.length cc, .slice d vs.length cd], .agg #[.bool n2, .slice a2 xs2.length ca2, .slice b2 ys2.length cb2, .bool m2, .slice c2 us2.length cc2, .slice d2 vs2.length cd2]] w (GTimes w p E (rboth n xs ys n2 xs2 ys2) (rboth m us vs m2 us2 vs2) (rboth n xs ys m2 us2 vs2) (rboth m us vs n2 xs2 ys2) (rq n xs ys * rq n2 xs2 ys2) (rq m us vs * rq m2 us2 vs2) (rq n xs ys * rq m2 us2 vs2) (rq m us vs * rq n2 xs2 ys2)) := by
  have hpw : p < w.heap.size := hp.lt
  have HPW := hid hpw
  have HSS := hid HS
  have HI : Hid (GInv w p E ((w.heap.size, 26, #[.bool n, .slice a xs.length ca, .slice b ys.length cb, .bool m, .slice c us.length cc, .slice d vs.length cd]) :: (w.heap.size + 1, 26, #[.bool n2, .slice a2 xs2.length ca2, .slice b2 ys2.length cb2, .bool m2, .slice c2 us2.length cc2, .slice d2 vs2.length cd2]) :: (w.heap.size + 1 + 1, 26, #[.bool false, .slice none 0 0, .slice none 0 0, .bool false, .slice none 0 0, .slice none 0 0]) :: []) (((w.alloc (.cells #[.bool n, .slice a xs.length ca, .slice b ys.length cb, .bool m, .slice c us.length cc, .slice d vs.length cd] 26)).alloc (.cells #[.bool n2, .slice a2 xs2.length ca2, .slice b2 ys2.length cb2, .bool m2, .slice c2 us2.length cc2, .slice d2 vs2.length cd2] 26)).alloc (.cells #[.bool false, .slice none 0 0, .slice none 0 0, .bool false, .slice none 0 0, .slice none 0 0] 26))) := by
    have h3 := boxes3r w 26 #[.bool n, .slice a xs.length ca, .slice b ys.length cb, .bool m, .slice c us.length cc, .slice d vs.length cd] #[.bool n2, .slice a2 xs2.length ca2, .slice b2 ys2.length cb2, .bool m2, .slice c2 us2.length cc2, .slice d2 vs2.length cd2] #[.bool false, .slice none 0 0, .slice none 0 0, .bool false, .slice none 0 0, .slice none 0 0]
    refine hid (GInv.more (GInv.more (GInv.more ⟨hp.later h3.2.2.2 hp.lt, grow_below h3.2.2.2 _, fun x hx => by cases hx⟩ h3.2.2.1 (by omega)) h3.2.1 (by omega)) h3.1 (by omega))
  obtain ⟨X, hX⟩ : ∃ X, ((w.alloc (.cells #[.bool n, .slice a xs.length ca, .slice b ys.length cb, .bool m, .slice c us.length cc, .slice d vs.length cd] 26)).alloc (.cells #[.bool n2, .slice a2 xs2.length ca2, .slice b2 ys2.length cb2, .bool m2, .slice c2 us2.length cc2, .slice d2 vs2.length cd2] 26)).alloc (.cells #[.bool false, .slice none 0 0, .slice none 0 0, .bool false, .slice none 0 0, .slice none 0 0] 26) = X := ⟨_, rfl⟩
  rw [hX] at HI
  clear HS hp
  go_enter Tryz.func31, Tryz.ntmps31
  have HK : Hid (∀ V EE, GJ w X p EE ((w.heap.size, 26, #[.bool n, .slice a xs.length ca, .slice b ys.length cb, .bool m, .slice c us.length cc, .slice d vs.length cd]) :: (w.heap.size + 1, 26, #[.bool n2, .slice a2 xs2.length ca2, .slice b2 ys2.length cb2, .bool m2, .slice c2 us2.length cc2, .slice d2 vs2.length cd2]) :: (w.heap.size + 1 + 1, 26, #[.bool false, .slice none 0 0, .slice none 0 0, .bool false, .slice none 0 0, .slice none 0 0]) :: []) V → V.cell? ⟨w.heap.size, 0, none⟩ = some (.bool n) ∧ V.cell? ⟨w.heap.size, 1, none⟩ = some (.slice a xs.length ca) ∧ V.cell? ⟨w.heap.size, 2, none⟩ = some (.slice b ys.length cb) ∧ V.cell? ⟨w.heap.size, 3, none⟩ = some (.bool m) ∧ V.cell? ⟨w.heap.size, 4, none⟩ = some (.slice c us.length cc) ∧ V.cell? ⟨w.heap.size, 5, none⟩ = some (.slice d vs.length cd) ∧ V.cell? ⟨w.heap.size + 1, 0, none⟩ = some (.bool n2) ∧ V.cell? ⟨w.heap.size + 1, 1, none⟩ = some (.slice a2 xs2.length ca2) ∧ V.cell? ⟨w.heap.size + 1, 2, none⟩ = some (.slice b2 ys2.length cb2) ∧ V.cell? ⟨w.heap.size + 1, 3, none⟩ = some (.bool m2) ∧ V.cell? ⟨w.heap.size + 1, 4, none⟩ = some (.slice c2 us2.length cc2) ∧ V.cell? ⟨w.heap.size + 1, 5, none⟩ = some (.slice d2 vs2.length cd2)) := hid (fun V EE hv => by
    obtain ⟨g0, g1, g2, g3, g4, g5⟩ := cells6 (hv.inv.box _ (List.mem_cons_self ..)).1
    obtain ⟨i0, i1, i2, i3, i4, i5⟩ := cells6 (hv.inv.box _ (List.mem_cons_of_mem _ (List.mem_cons_self ..))).1
    exact ⟨g0, g1, g2, g3, g4, g5, i0, i1, i2, i3, i4, i5⟩)
  have H1 : Hid (∀ V EE, GJ w X p EE ((w.heap.size, 26, #[.bool n, .slice a xs.length ca, .slice b ys.length cb, .bool m, .slice c us.length cc, .slice d vs.length cd]) :: (w.heap.size + 1, 26, #[.bool n2, .slice a2 xs2.length ca2, .slice b2 ys2.length cb2, .bool m2, .slice c2 us2.length cc2, .slice d2 vs2.length cd2]) :: (w.heap.size + 1 + 1, 26, #[.bool false, .slice none 0 0, .slice none 0 0, .bool false, .slice none 0 0, .slice none 0 0]) :: []) V → Calls Tryz.prog 43 #[.pointer (some ⟨p, 0, none⟩), .agg #[.bool n, .slice a xs.length ca, .slice b ys.length cb], .agg #[.bool n2, .slice a2 xs2.length ca2, .slice b2 ys2.length cb2]] V (GStp w X p ((w.heap.size, 26, #[.bool n, .slice a xs.length ca, .slice b ys.length cb, .bool m, .slice c us.length cc, .slice d vs.length cd]) :: (w.heap.size + 1, 26, #[.bool n2, .slice a2 xs2.length ca2, .slice b2 ys2.length cb2, .bool m2, .slice c2 us2.length cc2, .slice d2 vs2.length cd2]) :: (w.heap.size + 1 + 1, 26, #[.bool false, .slice none 0 0, .slice none 0 0, .bool false, .slice none 0 0, .slice none 0 0]) :: []) V (fstE EE (rboth n xs ys n2 xs2 ys2)) (rq n xs ys * rq n2 xs2 ys2))) := hid (fun V EE hv => by
    have h := HSS.out V hv.inv.grown
    exact gstp hv (gproduct_any p EE n a ca xs b cb ys n2 a2 ca2 xs2 b2 cb2 ys2 V hv.inv.err h.1 h.2.1 h.2.2.2.2.1 h.2.2.2.2.2.1))
  have H2 : Hid (∀ V EE, GJ w X p EE ((w.heap.size, 26, #[.bool n, .slice a xs.length ca, .slice b ys.length cb, .bool m, .slice c us.length cc, .slice d vs.length cd]) :: (w.heap.size + 1, 26, #[.bool n2, .slice a2 xs2.length ca2, .slice b2 ys2.length cb2, .bool m2, .slice c2 us2.length cc2, .slice d2 vs2.length cd2]) :: (w.heap.size + 1 + 1, 26, #[.bool false, .slice none 0 0, .slice none 0 0, .bool false, .slice none 0 0, .slice none 0 0]) :: []) V → Calls Tryz.prog 43 #[.pointer (some ⟨p, 0, none⟩), .agg #[.bool m, .slice c us.length cc, .slice d vs.length cd], .agg #[.bool m2, .slice c2 us2.length cc2, .slice d2 vs2.length cd2]] V (GStp w X p ((w.heap.size, 26, #[.bool n, .slice a xs.length ca, .slice b ys.length cb, .bool m, .slice c us.length cc, .slice d vs.length cd]) :: (w.heap.size + 1, 26, #[.bool n2, .slice a2 xs2.length ca2, .slice b2 ys2.length cb2, .bool m2, .slice c2 us2.length cc2, .slice d2 vs2.length cd2]) :: (w.heap.size + 1 + 1, 26, #[.bool false, .slice none 0 0, .slice none 0 0, .bool false, .slice none 0 0, .slice none 0 0]) :: []) V (fstE EE (rboth m us vs m2 us2 vs2)) (rq m us vs * rq m2 us2 vs2))) := hid (fun V EE hv => by
    have h := HSS.out V hv.inv.grown
    exact gstp hv (gproduct_any p EE m c cc us d cd vs m2 c2 cc2 us2 d2 cd2 vs2 V hv.inv.err h.2.2.1 h.2.2.2.1 h.2.2.2.2.2.2.1 h.2.2.2.2.2.2.2))
  have H3 : Hid (∀ (V : World) (EE : Int) (n1' : Bool) (a1' : Option Addr) (k1' : Nat) (x1' : List Int) (b1' : Option Addr) (l1' : Nat) (y1' : List Int) (n2' : Bool) (a2' : Option Addr) (k2' : Nat) (x2' : List Int) (b2' : Option Addr) (l2' : Nat) (y2' : List Int), GJ w X p EE ((w.heap.size, 26, #[.bool n, .slice a xs.length ca, .slice b ys.length cb, .bool m, .slice c us.length cc, .slice d vs.length cd]) :: (w.heap.size + 1, 26, #[.bool n2, .slice a2 xs2.length ca2, .slice b2 ys2.length cb2, .bool m2, .slice c2 us2.length cc2, .slice d2 vs2.length cd2]) :: (w.heap.size + 1 + 1, 26, #[.bool false, .slice none 0 0, .slice none 0 0, .bool false, .slice none 0 0, .slice none 0 0]) :: []) V → Sl V (.slice a1' x1'.length k1') x1' ∧ Sl V (.slice b1' y1'.length l1') y1' → Sl V (.slice a2' x2'.length k2') x2' ∧ Sl V (.slice b2' y2'.length l2') y2' → Calls Tryz.prog 29 #[.pointer (some ⟨p, 0, none⟩), .agg #[.bool n1', .slice a1' x1'.length k1', .slice b1' y1'.length l1'], .agg #[.bool n2', .slice a2' x2'.length k2', .slice b2' y2'.length l2']] V (GStp w X p ((w.heap.size, 26, #[.bool n, .slice a xs.length ca, .slice b ys.length cb, .bool m, .slice c us.length cc, .slice d vs.length cd]) :: (w.heap.size + 1, 26, #[.bool n2, .slice a2 xs2.length ca2, .slice b2 ys2.length cb2, .bool m2, .slice c2 us2.length cc2, .slice d2 vs2.length cd2]) :: (w.heap.size + 1 + 1, 26, #[.bool false, .slice none 0 0, .slice none 0 0, .bool false, .slice none 0 0, .slice none 0 0]) :: []) V (fstE EE (rboth n1' x1' y1' n2' x2' y2')) (rq n1' x1' y1' - rq n2' x2' y2'))) := hid (fun V EE n1' a1' k1' x1' b1' l1' y1' n2' a2' k2' x2' b2' l2' y2' hv h1 h2 => gstp hv (gdifference_any p EE n1' a1' k1' x1' b1' l1' y1' n2' a2' k2' x2' b2' l2' y2' V hv.inv.err h1.1 h1.2 h2.1 h2.2))
  have HGB := hid (GInv.base HI.out HPW.out)
  have HD := hid (GJ.first HI.out)
  have HD0 := hid (GJ.start HI.out)
  have hs0 := HK.out _ _ HD.out
  have hwX : w.heap.size ≤ X.heap.size := HGB.out.hw
  have hpX : p < X.heap.size := Nat.lt_of_lt_of_le HPW.out hwX
  go_upto_region 1 with fail
  go_cut [7] from 9 (fun s wx => Hid (GCut w X p ((w.heap.size, 26, #[.bool n, .slice a xs.length ca, .slice b ys.length cb, .bool m, .slice c us.length cc, .slice d vs.length cd]) :: (w.heap.size + 1, 26, #[.bool n2, .slice a2 xs2.length ca2, .slice b2 ys2.length cb2, .bool m2, .slice c2 us2.length cc2, .slice d2 vs2.length cd2]) :: (w.heap.size + 1 + 1, 26, #[.bool false, .slice none 0 0, .slice none 0 0, .bool false, .slice none 0 0, .slice none 0 0]) :: []) (· - ·) E (rboth n xs ys n2 xs2 ys2) (rboth m us vs m2 us2 vs2) (rq n xs ys * rq n2 xs2 ys2) (rq m us vs * rq m2 us2 vs2) s wx))
  case first =>
    go_region_held3 (fun V : World => V.cell? ⟨w.heap.size, 0, none⟩ = some (.bool n) ∧ V.cell? ⟨w.heap.size, 1, none⟩ = some (.slice a xs.length ca) ∧ V.cell? ⟨w.heap.size, 2, none⟩ = some (.slice b ys.length cb) ∧ V.cell? ⟨w.heap.size, 3, none⟩ = some (.bool m) ∧ V.cell? ⟨w.heap.size, 4, none⟩ = some (.slice c us.length cc) ∧ V.cell? ⟨w.heap.size, 5, none⟩ = some (.slice d vs.length cd) ∧ V.cell? ⟨w.heap.size + 1, 0, none⟩ = some (.bool n2) ∧ V.cell? ⟨w.heap.size + 1, 1, none⟩ = some (.slice a2 xs2.length ca2) ∧ V.cell? ⟨w.heap.size + 1, 2, none⟩ = some (.slice b2 ys2.length cb2) ∧ V.cell? ⟨w.heap.size + 1, 3, none⟩ = some (.bool m2) ∧ V.cell? ⟨w.heap.size + 1, 4, none⟩ = some (.slice c2 us2.length cc2) ∧ V.cell? ⟨w.heap.size + 1, 5, none⟩ = some (.slice d2 vs2.length cd2)) (first | exact hs3 | exact hs2 | exact hs1 | exact hs0 | exact HK.out _ _ (j3.out.alloc _) | exact HK.out _ _ (j3.out.put3 HGB.out _ (by omega) _ _ _) | exact HK.out _ _ (j2.out.alloc _) | exact HK.out _ _ (j1.out.alloc _) | exact HK.out _ _ (HD0.out.alloc _) | exact HK.out _ _ (HD0.out.alloc _).drew | exact HK.out _ _ (HD.out.alloc _))
      (first
        | (go_at_call 43; (with_reducible refine Calls.mono (H2.out _ e1 (by first | exact j1.out | exact j1.out.alloc _)) ?_); rintro x w2 ⟨n2', a2', k2', x2', b2', l2', y2', e2, rfl, t2, j2, r2, rv2, g2, cut2, z2⟩; have hs2 := HK.out _ _ j2.out)
        | (go_at_call 43; (with_reducible refine Calls.mono (H1.out _ E (by first | exact HD.out | exact (HD0.out.alloc _).drew | exact HD.out.alloc _)) ?_); rintro x w1 ⟨n1', a1', k1', x1', b1', l1', y1', e1, rfl, t1, j1, r1, rv1, g1, cut1, z1⟩; have hs1 := HK.out _ _ j1.out)
        | (go_at_call 29; (with_reducible refine Calls.mono (H3.out _ e2 n1' a1' k1' x1' b1' l1' y1' n2' a2' k2' x2' b2' l2' y2' (by first | exact j2.out | exact j2.out.alloc _) (by first | exact (r1.out.step hpX g2.out).sl t1.out.wx t1.out.wy | exact (r1.out.step hpX (grow_trans (World.grownBy_alloc _ _ _) g2.out)).sl t1.out.wx t1.out.wy | exact (r1.out.step hpX (grow_trans g2.out (World.grownBy_alloc _ _ _))).sl t1.out.wx t1.out.wy) (by first | exact r2.out.sl t2.out.wx t2.out.wy | exact (r2.out.step hpX (World.grownBy_alloc _ _ _)).sl t2.out.wx t2.out.wy)) ?_); rintro x w3 ⟨n3, a3, k3, x3, b3, l3, y3, e3, rfl, t3, j3, r3, rv3, g3, cut3, z3⟩; have hs3 := HK.out _ _ j3.out; (first | (have HQ2 : Hid (Box w2 X.heap.size 24 #[.bool false, .slice none 0 0, .slice none 0 0]) := hid (((show Box ((X.alloc (.cells #[.bool false, .slice none 0 0, .slice none 0 0] 24)).drew) X.heap.size 24 #[.bool false, .slice none 0 0, .slice none 0 0] from Box.made X 24 #[.bool false, .slice none 0 0, .slice none 0 0]).kept' g1.out (some_ne hpX)).kept' g2.out (some_ne hpX)); have HQ := hid (HQ2.out.kept' g3.out (some_ne hpX)); obtain ⟨q0, q1, q2, f0, f1, f2⟩ := box3f HQ.out) | (have HQ2 : Hid (Box w2 w1.heap.size 24 #[.bool false, .slice none 0 0, .slice none 0 0]) := hid ((Box.made w1 24 #[.bool false, .slice none 0 0, .slice none 0 0]).kept' g2.out (some_ne (Nat.lt_of_lt_of_le hpX z1))); have HQ := hid (HQ2.out.kept' g3.out (some_ne (Nat.lt_of_lt_of_le hpX z1))); obtain ⟨q0, q1, q2, f0, f1, f2⟩ := box3f HQ.out) | (have HQ2 : Hid (Box (w2.alloc (.cells #[.bool false, .slice none 0 0, .slice none 0 0] 24)) w2.heap.size 24 #[.bool false, .slice none 0 0, .slice none 0 0]) := hid (Box.made w2 24 #[.bool false, .slice none 0 0, .slice none 0 0]); have HQ := hid (HQ2.out.kept' g3.out (some_ne (Nat.lt_of_lt_of_le hpX z2))); obtain ⟨q0, q1, q2, f0, f1, f2⟩ := box3f HQ.out) | skip)))
    all_goals
      clear hs0 hs1 hs2 hs3 H1 H2 H3 HK
      go_wp2_with fail
      go_meet
    all_goals first | with_reducible exact hid (gcut_put HGB.out t1.out t2.out t3.out j3.out rv3.out cut3.out HQ.out HQ2.out.lt (by omega)) | with_reducible exact hid (gcut_new HGB.out t1.out t2.out t3.out j3.out rv3.out cut3.out z2)
  case rest =>
    obtain ⟨g7, n3, a3, k3, x3, b3, l3, y3, c3, rfl, hg7, T3, I3, R3, C3, G3'⟩ := hcut.out
    have HT3 := hid T3; have HI3 := hid I3; have HR3 := hid R3; have HC3 := hid C3; have HG3 := hid G3'
    clear T3 I3 R3 C3 G3' hcut HK H1 H2 H3 HGB HD HD0 hs0 hwX hpX
    have HK : Hid (∀ V EE, GJ w wc p EE ((g7, 24, #[.bool n3, .slice a3 x3.length k3, .slice b3 y3.length l3]) :: (w.heap.size, 26, #[.bool n, .slice a xs.length ca, .slice b ys.length cb, .bool m, .slice c us.length cc, .slice d vs.length cd]) :: (w.heap.size + 1, 26, #[.bool n2, .slice a2 xs2.length ca2, .slice b2 ys2.length cb2, .bool m2, .slice c2 us2.length cc2, .slice d2 vs2.length cd2]) :: (w.heap.size + 1 + 1, 26, #[.bool false, .slice none 0 0, .slice none 0 0, .bool false, .slice none 0 0, .slice none 0 0]) :: []) V → V.cell? ⟨w.heap.size, 0, none⟩ = some (.bool n) ∧ V.cell? ⟨w.heap.size, 1, none⟩ = some (.slice a xs.length ca) ∧ V.cell? ⟨w.heap.size, 2, none⟩ = some (.slice b ys.length cb) ∧ V.cell? ⟨w.heap.size, 3, none⟩ = some (.bool m) ∧ V.cell? ⟨w.heap.size, 4, none⟩ = some (.slice c us.length cc) ∧ V.cell? ⟨w.heap.size, 5, none⟩ = some (.slice d vs.length cd) ∧ V.cell? ⟨w.heap.size + 1, 0, none⟩ = some (.bool n2) ∧ V.cell? ⟨w.heap.size + 1, 1, none⟩ = some (.slice a2 xs2.length ca2) ∧ V.cell? ⟨w.heap.size + 1, 2, none⟩ = some (.slice b2 ys2.length cb2) ∧ V.cell? ⟨w.heap.size + 1, 3, none⟩ = some (.bool m2) ∧ V.cell? ⟨w.heap.size + 1, 4, none⟩ = some (.slice c2 us2.length cc2) ∧ V.cell? ⟨w.heap.size + 1, 5, none⟩ = some (.slice d2 vs2.length cd2)) := hid (fun V EE hv => by
      obtain ⟨g0, g1, g2, g3, g4, g5⟩ := cells6 (hv.inv.box _ (List.mem_cons_of_mem _ (List.mem_cons_self ..))).1
      obtain ⟨i0, i1, i2, i3, i4, i5⟩ := cells6 (hv.inv.box _ (List.mem_cons_of_mem _ (List.mem_cons_of_mem _ (List.mem_cons_self ..)))).1
      exact ⟨g0, g1, g2, g3, g4, g5, i0, i1, i2, i3, i4, i5⟩)
    have H1 : Hid (∀ V EE, GJ w wc p EE ((g7, 24, #[.bool n3, .slice a3 x3.length k3, .slice b3 y3.length l3]) :: (w.heap.size, 26, #[.bool n, .slice a xs.length ca, .slice b ys.length cb, .bool m, .slice c us.length cc, .slice d vs.length cd]) :: (w.heap.size + 1, 26, #[.bool n2, .slice a2 xs2.length ca2, .slice b2 ys2.length cb2, .bool m2, .slice c2 us2.length cc2, .slice d2 vs2.length cd2]) :: (w.heap.size + 1 + 1, 26, #[.bool false, .slice none 0 0, .slice none 0 0, .bool false, .slice none 0 0, .slice none 0 0]) :: []) V → Calls Tryz.prog 43 #[.pointer (some ⟨p, 0, none⟩), .agg #[.bool n, .slice a xs.length ca, .slice b ys.length cb], .agg #[.bool m2, .slice c2 us2.length cc2, .slice d2 vs2.length cd2]] V (GStp w wc p ((g7, 24, #[.bool n3, .slice a3 x3.length k3, .slice b3 y3.length l3]) :: (w.heap.size, 26, #[.bool n, .slice a xs.length ca, .slice b ys.length cb, .bool m, .slice c us.length cc, .slice d vs.length cd]) :: (w.heap.size + 1, 26, #[.bool n2, .slice a2 xs2.length ca2, .slice b2 ys2.length cb2, .bool m2, .slice c2 us2.length cc2, .slice d2 vs2.length cd2]) :: (w.heap.size + 1 + 1, 26, #[.bool false, .slice none 0 0, .slice none 0 0, .bool false, .slice none 0 0, .slice none 0 0]) :: []) V (fstE EE (rboth n xs ys m2 us2 vs2)) (rq n xs ys * rq m2 us2 vs2))) := hid (fun V EE hv => by
      have h := HSS.out V hv.inv.grown
      exact gstp hv (gproduct_any p EE n a ca xs b cb ys m2 c2 cc2 us2 d2 cd2 vs2 V hv.inv.err h.1 h.2.1 h.2.2.2.2.2.2.1 h.2.2.2.2.2.2.2))
    have H2 : Hid (∀ V EE, GJ w wc p EE ((g7, 24, #[.bool n3, .slice a3 x3.length k3, .slice b3 y3.length l3]) :: (w.heap.size, 26, #[.bool n, .slice a xs.length ca, .slice b ys.length cb, .bool m, .slice c us.length cc, .slice d vs.length cd]) :: (w.heap.size + 1, 26, #[.bool n2, .slice a2 xs2.length ca2, .slice b2 ys2.length cb2, .bool m2, .slice c2 us2.length cc2, .slice d2 vs2.length cd2]) :: (w.heap.size + 1 + 1, 26, #[.bool false, .slice none 0 0, .slice none 0 0, .bool false, .slice none 0 0, .slice none 0 0]) :: []) V → Calls Tryz.prog 43 #[.pointer (some ⟨p, 0, none⟩), .agg #[.bool m, .slice c us.length cc, .slice d vs.length cd], .agg #[.bool n2, .slice a2 xs2.length ca2, .slice b2 ys2.length cb2]] V (GStp w wc p ((g7, 24, #[.bool n3, .slice a3 x3.length k3, .slice b3 y3.length l3]) :: (w.heap.size, 26, #[.bool n, .slice a xs.length ca, .slice b ys.length cb, .bool m, .slice c us.length cc, .slice d vs.length cd]) :: (w.heap.size + 1, 26, #[.bool n2, .slice a2 xs2.length ca2, .slice b2 ys2.length cb2, .bool m2, .slice c2 us2.length cc2, .slice d2 vs2.length cd2]) :: (w.heap.size + 1 + 1, 26, #[.bool false, .slice none 0 0, .slice none 0 0, .bool false, .slice none 0 0, .slice none 0 0]) :: []) V (fstE EE (rboth m us vs n2 xs2 ys2)) (rq m us vs * rq n2 xs2 ys2))) := hid (fun V EE hv => by
      have h := HSS.out V hv.inv.grown
      exact gstp hv (gproduct_any p EE m c cc us d cd vs n2 a2 ca2 xs2 b2 cb2 ys2 V hv.inv.err h.2.2.1 h.2.2.2.1 h.2.2.2.2.1 h.2.2.2.2.2.1))
    have H3 : Hid (∀ (V : World) (EE : Int) (n1' : Bool) (a1' : Option Addr) (k1' : Nat) (x1' : List Int) (b1' : Option Addr) (l1' : Nat) (y1' : List Int) (n2' : Bool) (a2' : Option Addr) (k2' : Nat) (x2' : List Int) (b2' : Option Addr) (l2' : Nat) (y2' : List Int), GJ w wc p EE ((g7, 24, #[.bool n3, .slice a3 x3.length k3, .slice b3 y3.length l3]) :: (w.heap.size, 26, #[.bool n, .slice a xs.length ca, .slice b ys.length cb, .bool m, .slice c us.length cc, .slice d vs.length cd]) :: (w.heap.size + 1, 26, #[.bool n2, .slice a2 xs2.length ca2, .slice b2 ys2.length cb2, .bool m2, .slice c2 us2.length cc2, .slice d2 vs2.length cd2]) :: (w.heap.size + 1 + 1, 26, #[.bool false, .slice none 0 0, .slice none 0 0, .bool false, .slice none 0 0, .slice none 0 0]) :: []) V → Sl V (.slice a1' x1'.length k1') x1' ∧ Sl V (.slice b1' y1'.length l1') y1' → Sl V (.slice a2' x2'.length k2') x2' ∧ Sl V (.slice b2' y2'.length l2') y2' → Calls Tryz.prog 25 #[.pointer (some ⟨p, 0, none⟩), .agg #[.bool n1', .slice a1' x1'.length k1', .slice b1' y1'.length l1'], .agg #[.bool n2', .slice a2' x2'.length k2', .slice b2' y2'.length l2']] V (GStp w wc p ((g7, 24, #[.bool n3, .slice a3 x3.length k3, .slice b3 y3.length l3]) :: (w.heap.size, 26, #[.bool n, .slice a xs.length ca, .slice b ys.length cb, .bool m, .slice c us.length cc, .slice d vs.length cd]) :: (w.heap.size + 1, 26, #[.bool n2, .slice a2 xs2.length ca2, .slice b2 ys2.length cb2, .bool m2, .slice c2 us2.length cc2, .slice d2 vs2.length cd2]) :: (w.heap.size + 1 + 1, 26, #[.bool false, .slice none 0 0, .slice none 0 0, .bool false, .slice none 0 0, .slice none 0 0]) :: []) V (fstE EE (rboth n1' x1' y1' n2' x2' y2')) (rq n1' x1' y1' + rq n2' x2' y2'))) := hid (fun V EE n1' a1' k1' x1' b1' l1' y1' n2' a2' k2' x2' b2' l2' y2' hv h1 h2 => gstp hv (gsum_any p EE n1' a1' k1' x1' b1' l1' y1' n2' a2' k2' x2' b2' l2' y2' V hv.inv.err h1.1 h1.2 h2.1 h2.2))
    have HGB := hid (GInv.base HI3.out HPW.out)
    have HD := hid (GJ.first HI3.out)
    have HD0 := hid (GJ.start HI3.out)
    have hs0 := HK.out _ _ HD.out
    have hwX : w.heap.size ≤ wc.heap.size := HGB.out.hw
    have hpX : p < wc.heap.size := Nat.lt_of_lt_of_le HPW.out hwX
    go_upto_region 2 with fail
    go_cut [8] from 23 (fun s wx => Hid (GCut w wc p ((g7, 24, #[.bool n3, .slice a3 x3.length k3, .slice b3 y3.length l3]) :: (w.heap.size, 26, #[.bool n, .slice a xs.length ca, .slice b ys.length cb, .bool m, .slice c us.length cc, .slice d vs.length cd]) :: (w.heap.size + 1, 26, #[.bool n2, .slice a2 xs2.length ca2, .slice b2 ys2.length cb2, .bool m2, .slice c2 us2.length cc2, .slice d2 vs2.length cd2]) :: (w.heap.size + 1 + 1, 26, #[.bool false, .slice none 0 0, .slice none 0 0, .bool false, .slice none 0 0, .slice none 0 0]) :: []) (· + ·) c3 (rboth n xs ys m2 us2 vs2) (rboth m us vs n2 xs2 ys2) (rq n xs ys * rq m2 us2 vs2) (rq m us vs * rq n2 xs2 ys2) s wx))
    case first =>
      go_region_held3 (fun V : World => V.cell? ⟨w.heap.size, 0, none⟩ = some (.bool n) ∧ V.cell? ⟨w.heap.size, 1, none⟩ = some (.slice a xs.length ca) ∧ V.cell? ⟨w.heap.size, 2, none⟩ = some (.slice b ys.length cb) ∧ V.cell? ⟨w.heap.size, 3, none⟩ = some (.bool m) ∧ V.cell? ⟨w.heap.size, 4, none⟩ = some (.slice c us.length cc) ∧ V.cell? ⟨w.heap.size, 5, none⟩ = some (.slice d vs.length cd) ∧ V.cell? ⟨w.heap.size + 1, 0, none⟩ = some (.bool n2) ∧ V.cell? ⟨w.heap.size + 1, 1, none⟩ = some (.slice a2 xs2.length ca2) ∧ V.cell? ⟨w.heap.size + 1, 2, none⟩ = some (.slice b2 ys2.length cb2) ∧ V.cell? ⟨w.heap.size + 1, 3, none⟩ = some (.bool m2) ∧ V.cell? ⟨w.heap.size + 1, 4, none⟩ = some (.slice c2 us2.length cc2) ∧ V.cell? ⟨w.heap.size + 1, 5, none⟩ = some (.slice d2 vs2.length cd2)) (first | exact hs3 | exact hs2 | exact hs1 | exact hs0 | exact HK.out _ _ (j3.out.alloc _) | exact HK.out _ _ (j3.out.put3 HGB.out _ (by omega) _ _ _) | exact HK.out _ _ (j2.out.alloc _) | exact HK.out _ _ (j1.out.alloc _) | exact HK.out _ _ (HD0.out.alloc _) | exact HK.out _ _ (HD0.out.alloc _).drew | exact HK.out _ _ (HD.out.alloc _))
        (first
          | (go_at_call 43; (with_reducible refine Calls.mono (H2.out _ e1 (by first | exact j1.out | exact j1.out.alloc _)) ?_); rintro x w2 ⟨n2', a2', k2', x2', b2', l2', y2', e2, rfl, t2, j2, r2, rv2, g2, cut2, z2⟩; have hs2 := HK.out _ _ j2.out)
          | (go_at_call 43; (with_reducible refine Calls.mono (H1.out _ c3 (by first | exact HD.out | exact (HD0.out.alloc _).drew | exact HD.out.alloc _)) ?_); rintro x w1 ⟨n1', a1', k1', x1', b1', l1', y1', e1, rfl, t1, j1, r1, rv1, g1, cut1, z1⟩; have hs1 := HK.out _ _ j1.out)
          | (go_at_call 25; (with_reducible refine Calls.mono (H3.out _ e2 n1' a1' k1' x1' b1' l1' y1' n2' a2' k2' x2' b2' l2' y2' (by first | exact j2.out | exact j2.out.alloc _) (by first | exact (r1.out.step hpX g2.out).sl t1.out.wx t1.out.wy | exact (r1.out.step hpX (grow_trans (World.grownBy_alloc _ _ _) g2.out)).sl t1.out.wx t1.out.wy | exact (r1.out.step hpX (grow_trans g2.out (World.grownBy_alloc _ _ _))).sl t1.out.wx t1.out.wy) (by first | exact r2.out.sl t2.out.wx t2.out.wy | exact (r2.out.step hpX (World.grownBy_alloc _ _ _)).sl t2.out.wx t2.out.wy)) ?_); rintro x w3 ⟨n3, a3, k3, x3, b3, l3, y3, e3, rfl, t3, j3, r3, rv3, g3, cut3, z3⟩; have hs3 := HK.out _ _ j3.out; (first | (have HQ2 : Hid (Box w2 wc.heap.size 24 #[.bool false, .slice none 0 0, .slice none 0 0]) := hid (((show Box ((wc.alloc (.cells #[.bool false, .slice none 0 0, .slice none 0 0] 24)).drew) wc.heap.size 24 #[.bool false, .slice none 0 0, .slice none 0 0] from Box.made wc 24 #[.bool false, .slice none 0 0, .slice none 0 0]).kept' g1.out (some_ne hpX)).kept' g2.out (some_ne hpX)); have HQ := hid (HQ2.out.kept' g3.out (some_ne hpX)); obtain ⟨q0, q1, q2, f0, f1, f2⟩ := box3f HQ.out) | (have HQ2 : Hid (Box w2 w1.heap.size 24 #[.bool false, .slice none 0 0, .slice none 0 0]) := hid ((Box.made w1 24 #[.bool false, .slice none 0 0, .slice none 0 0]).kept' g2.out (some_ne (Nat.lt_of_lt_of_le hpX z1))); have HQ := hid (HQ2.out.kept' g3.out (some_ne (Nat.lt_of_lt_of_le hpX z1))); obtain ⟨q0, q1, q2, f0, f1, f2⟩ := box3f HQ.out) | (have HQ2 : Hid (Box (w2.alloc (.cells #[.bool false, .slice none 0 0, .slice none 0 0] 24)) w2.heap.size 24 #[.bool false, .slice none 0 0, .slice none 0 0]) := hid (Box.made w2 24 #[.bool false, .slice none 0 0, .slice none 0 0]); have HQ := hid (HQ2.out.kept' g3.out (some_ne (Nat.lt_of_lt_of_le hpX z2))); obtain ⟨q0, q1, q2, f0, f1, f2⟩ := box3f HQ.out) | skip)))
      all_goals
        clear hs0 hs1 hs2 hs3 H1 H2 H3 HK
        go_wp2_with fail
        go_meet
      all_goals first | with_reducible exact hid (gcut_put HGB.out t1.out t2.out t3.out j3.out rv3.out cut3.out HQ.out HQ2.out.lt (by omega)) | with_reducible exact hid (gcut_new HGB.out t1.out t2.out t3.out j3.out rv3.out cut3.out z2)
    case rest =>
      obtain ⟨g8, n6, a6, k6, x6, b6, l6, y6, c6, rfl, hg8, T6, I6, R6, C6, G6⟩ := hcut.out
      have hX3 : w.heap.size + 1 + 1 < X.heap.size := (HI.out.box _ (List.mem_cons_of_mem _ (List.mem_cons_of_mem _ (List.mem_cons_self ..)))).1.lt
      have hwc := HG3.out.size
      have HRR := hid (HR3.out.step (show p < X.heap.size by omega) G6)
      have HR6 := hid R6
      have HI6 := hid I6
      have HT6 := hid T6
      have HC6 := hid C6
      have HBR := hid (I6.box _ (List.mem_cons_of_mem _ (List.mem_cons_of_mem _ (List.mem_cons_of_mem _ (List.mem_cons_of_mem _ (List.mem_cons_self ..)))))).1
      obtain ⟨s0, s1, s2, _, _, _⟩ := box3f (I6.box _ (List.mem_cons_of_mem _ (List.mem_cons_self ..))).1
      obtain ⟨t0, t1, t2, _, _, _⟩ := box3f (I6.box _ (List.mem_cons_self ..)).1
      obtain ⟨m0, m1, m2', m3, m4, m5⟩ := cells6 HBR.out
      have f0 := HBR.out.free 0
      have f1 := HBR.out.free 1
      have f2 := HBR.out.free 2
      have f3 := HBR.out.free 3
      have f4 := HBR.out.free 4
      have f5 := HBR.out.free 5
      have hg6 := G6.size
      clear T6 I6 R6 C6 G6 hcut HK H1 H2 H3 HGB HD HD0 hs0 hwX hpX hX HSS
      go_wp2_with fail
      have B1 := box_put6 HBR.out (.bool n3) (.slice a3 x3.length k3) (.slice b3 y3.length l3) (.bool n6) (.slice a6 x6.length k6) (.slice b6 y6.length l6)
      have hne : p ≠ w.heap.size + 1 + 1 := by omega
      have P1 := gbox_far6 HI6.out.err hne (.bool n3) (.slice a3 x3.length k3) (.slice b3 y3.length l3) (.bool n6) (.slice a6 x6.length k6) (.slice b6 y6.length l6)
      have V3 := own_put6 HRR.out.ov (w.heap.size + 1 + 1) (fun g hg => by have := (HRR.out.ov.lt g hg).1; omega) (.bool n3) (.slice a3 x3.length k3) (.slice b3 y3.length l3) (.bool n6) (.slice a6 x6.length k6) (.slice b6 y6.length l6)
      have U3 := own_put6 HRR.out.ou (w.heap.size + 1 + 1) (fun g hg => by have := (HRR.out.ou.lt g hg).1; omega) (.bool n3) (.slice a3 x3.length k3) (.slice b3 y3.length l3) (.bool n6) (.slice a6 x6.length k6) (.slice b6 y6.length l6)
      have V6 := own_put6 HR6.out.ov (w.heap.size + 1 + 1) (fun g hg => by have := (HR6.out.ov.lt g hg).1; omega) (.bool n3) (.slice a3 x3.length k3) (.slice b3 y3.length l3) (.bool n6) (.slice a6 x6.length k6) (.slice b6 y6.length l6)
      have U6 := own_put6 HR6.out.ou (w.heap.size + 1 + 1) (fun g hg => by have := (HR6.out.ou.lt g hg).1; omega) (.bool n3) (.slice a3 x3.length k3) (.slice b3 y3.length l3) (.bool n6) (.slice a6 x6.length k6) (.slice b6 y6.length l6)
      have G1 := grow_put6 HI6.out.grown (w.heap.size + 1 + 1) (.bool n3) (.slice a3 x3.length k3) (.slice b3 y3.length l3) (.bool n6) (.slice a6 x6.length k6) (.slice b6 y6.length l6) (.inl (by omega))
      have hwX : w.heap.size ≤ X.heap.size := by omega
      refine bodyPost_ret (results_cell_row (by rfl) _ _ (w.heap.size + 1 + 1) 26 _ (0, 0) _ (by rfl) B1 Tryz.underlying26 rfl (by kernel_rfl)) rfl ?_
      exact ⟨n3, a3, k3, x3, b3, l3, y3, c3, n6, a6, k6, x6, b6, l6, y6, c6, rfl, ⟨⟨owns_base V3 hwX, owns_base U3 hwX⟩, ⟨owns_base V6 (by omega), owns_base U6 (by omega)⟩⟩, HT3.out, HT6.out, P1, G1, _, HC3.out.up hwX (Nat.le_refl _), HC6.out.up (Nat.le_refl _) (by simp [World.setCell])⟩
structure GT3 (E : Int) (L : Prop) (q : Rat) (n : Bool) (xs ys : List Int) (code : Int) : Prop where
  wx : Wd xs
  wy : Wd ys
  bad : E ≠ 0 → n = false ∧ xs = [] ∧ ys = [] ∧ code = E
  long : E = 0 → L → n = false ∧ xs = [] ∧ ys = [] ∧ code = 3
  good : E = 0 → ¬ L → code = 0 ∧ rchk n xs ys = 0 ∧ rq n xs ys = q
theorem GT3.ok {E : Int} {L : Prop} {q : Rat} {n : Bool} {xs ys : List Int} (h : GT3 E L q n xs ys 0) : E = 0 ∧ ¬ L := by
  by_cases hE : E = 0
  · refine ⟨hE, fun hl => ?_⟩
    have e := (h.long hE hl).2.2.2
    exact absurd e (by decide)
  · exact absurd (h.bad hE).2.2.2.symm hE
theorem GT3.of {E e : Int} {q : Rat} {n : Bool} {xs ys : List Int} {c : Int} (h : RTells (fstE E e) q n xs ys c) (z : E = 0 → e = 0) : GT3 E (rlong q) q n xs ys c := by
  by_cases hE : E = 0
  · subst hE
    rw [fstE_zero, z rfl] at h
    exact ⟨h.wx, h.wy, fun h' => absurd rfl h', fun _ => h.long rfl, fun _ => h.good rfl⟩
  · rw [fstE_err _ hE] at h
    exact ⟨h.wx, h.wy, fun _ => h.bad hE, fun h' => absurd h' hE, fun h' => absurd h' hE⟩
theorem GT3.then {E c1 : Int} {L1 L2 : Prop} {q1 q2 : Rat} {n1 n2 : Bool} {x1 y1 x2 y2 : List Int} {c2 : Int} (h1 : GT3 E L1 q1 n1 x1 y1 c1) (h2 : GT3 c1 L2 q2 n2 x2 y2 c2) : GT3 E (L1 ∨ L2) q2 n2 x2 y2 c2 := by
  refine ⟨h2.wx, h2.wy, fun hE => ?_, fun hE hl => ?_, fun hE hl => ?_⟩
  · have e := (h1.bad hE).2.2.2
    subst e
    exact h2.bad hE
  · by_cases l1 : L1
    · have e := (h1.long hE l1).2.2.2
      subst e
      exact h2.bad (by decide)
    · have e := (h1.good hE l1).1
      subst e
      exact h2.long rfl (hl.resolve_left l1)
  · have e := (h1.good hE (fun h => hl (.inl h))).1
    subst e
    exact h2.good rfl (fun h => hl (.inr h))
theorem g3_tells {op : Rat → Rat → Rat} {E e1 e2 : Int} {q1 q2 : Rat} {n : Bool} {x y : List Int} {c : Int} (h : G3 op E e1 e2 q1 q2 n x y c) (z1 : E = 0 → e1 = 0) (z2 : E = 0 → e2 = 0) : GT3 E ((rlong q1 ∨ rlong q2) ∨ rlong (op q1 q2)) (op q1 q2) n x y c := by
  obtain ⟨n1, x1, y1, c1, n2, x2, y2, c2, t1, t2, t3⟩ := h
  have h1 := GT3.of t1 z1
  have h2 : GT3 c1 (rlong q2) q2 n2 x2 y2 c2 := GT3.of t2 (fun h => by subst h; exact z2 h1.ok.1)
  have h12 := h1.then h2
  by_cases hc : c2 = 0
  · subst hc
    obtain ⟨hE, hl⟩ := h12.ok
    have g2 := h12.good hE hl
    have g1 := h1.good hE (fun h => hl (.inl h))
    rw [rboth0 g1.2.1 g2.2.1, fstE_zero, g1.2.2, g2.2.2] at t3
    exact h12.then ⟨t3.wx, t3.wy, fun h' => absurd rfl h', fun _ => t3.long rfl, fun _ => t3.good rfl⟩
  · rw [fstE_err _ hc] at t3
    exact h12.then ⟨t3.wx, t3.wy, fun _ => t3.bad hc, fun h' => absurd h' hc, fun h' => absurd h' hc⟩
theorem gtwo' {E : Int} {L1 L2 : Prop} {q1 q2 : Rat} {n m : Bool} {xs ys us vs : List Int} {c1 c2 : Int} (h1 : GT3 E L1 q1 n xs ys c1) (h2 : GT3 c1 L2 q2 m us vs c2) :
    (c2 = 0 → GTells E (L1 ∨ L2) q1 q2 n xs ys m us vs c2) ∧ (c2 ≠ 0 → GTells E (L1 ∨ L2) q1 q2 false [] [] false [] [] c2) := by
  have w4 : Wd [] := Wd.nil
  have h12 := h1.then h2
  refine ⟨fun hc => ?_, fun hc => ?_⟩
  · subst hc
    obtain ⟨hE, hl⟩ := h12.ok
    have g2 := h12.good hE hl
    have g1 := h1.good hE (fun h => hl (.inl h))
    exact ⟨⟨h1.wx, h1.wy, h2.wx, h2.wy⟩, fun h => absurd hE h, fun _ h => absurd h hl, fun _ _ => ⟨rfl, g1.2, g2.2⟩⟩
  · refine ⟨⟨w4, w4, w4, w4⟩, fun hE => ⟨⟨rfl, rfl, rfl, rfl, rfl, rfl⟩, (h12.bad hE).2.2.2⟩, fun hE hl => ⟨⟨rfl, rfl, rfl, rfl, rfl, rfl⟩, (h12.long hE hl).2.2.2⟩, fun hE hl => absurd (h12.good hE hl).1 hc⟩
def mlong (q1 q2 r1 r2 : Rat) : Prop := ((rlong (q1 * r1) ∨ rlong (q2 * r2)) ∨ rlong (q1 * r1 - q2 * r2)) ∨ ((rlong (q1 * r2) ∨ rlong (q2 * r1)) ∨ rlong (q1 * r2 + q2 * r1))
set_option maxHeartbeats 3200000 in
theorem d4Scale_q (f : F3) (g : G6) (w : World) (sf : f.Sl2 w) (sg : g.Sl4 w) (lf : f.Sh) (lg : g.Sh) :
    Calls Tryz.prog 17 #[.agg #[.bool f.n, .slice f.a f.xs.length f.ca, .slice f.b f.ys.length f.cb], .agg #[.bool g.n, .slice g.a g.xs.length g.ca, .slice g.b g.ys.length g.cb, .bool g.m, .slice g.c g.us.length g.cc, .slice g.d g.vs.length g.cd]] w (DGq w (fstE (rchk f.n f.xs f.ys) (gchk g.n g.xs g.ys g.m g.us g.vs)) (rlong (rq f.n f.xs f.ys * rq g.n g.xs g.ys) ∨ rlong (rq f.n f.xs f.ys * rq g.m g.us g.vs)) (rq f.n f.xs f.ys * rq g.n g.xs g.ys) (rq f.n f.xs f.ys * rq g.m g.us g.vs)) := by
  obtain ⟨X, hX⟩ : ∃ X, ((w.alloc (.cells #[.bool f.n, .slice f.a f.xs.length f.ca, .slice f.b f.ys.length f.cb] 24)).alloc (.cells #[.bool g.n, .slice g.a g.xs.length g.ca, .slice g.b g.ys.length g.cb, .bool g.m, .slice g.c g.us.length g.cc, .slice g.d g.vs.length g.cd] 26)).alloc (.cells #[.bool false, .slice none 0 0, .slice none 0 0, .bool false, .slice none 0 0, .slice none 0 0] 26) = X := ⟨_, rfl⟩
  have HX := hid (gq_boxes w 24 26 26 #[.bool f.n, .slice f.a f.xs.length f.ca, .slice f.b f.ys.length f.cb] #[.bool g.n, .slice g.a g.xs.length g.ca, .slice g.b g.ys.length g.cb, .bool g.m, .slice g.c g.us.length g.cc, .slice g.d g.vs.length g.cd] #[.bool false, .slice none 0 0, .slice none 0 0, .bool false, .slice none 0 0, .slice none 0 0])
  rw [hX] at HX
  have HW0 := hid HX.out.2.2.2
  have Hf0 := hid HX.out.1
  have Hg0 := hid HX.out.2.1
  have Hres0 := hid HX.out.2.2.1
  clear HX
  have HSf : Hid (∀ V, Below w.heap.size w V → f.Sl2 V) := fun V hv => sf.later hv
  have HSg : Hid (∀ V, Below w.heap.size w V → g.Sl4 V) := fun V hv => sg.later hv
  have Lf := hid lf
  have Lg := hid lg
  clear sf sg lf lg
  have Z1 : Hid (rchk f.n f.xs f.ys = 0 → gchk g.n g.xs g.ys g.m g.us g.vs = 0 → rboth f.n f.xs f.ys g.n g.xs g.ys = 0) := fun a b => rboth_good a (gchk_ok b).1
  have Z2 : Hid (rchk f.n f.xs f.ys = 0 → gchk g.n g.xs g.ys g.m g.us g.vs = 0 → rboth f.n f.xs f.ys g.m g.us g.vs = 0) := fun a b => rboth_good a (gchk_ok b).2
  have HK1 := hid (fun V (hv : Below w.heap.size w V) => check3_any f.n f.a f.ca f.xs f.b f.cb f.ys V (HSf.out V hv).1 (HSf.out V hv).2 Lf.out.1 Lf.out.2)
  have HK2 := hid (fun V (hv : Below w.heap.size w V) => kpcheck_any g.n g.a g.ca g.xs g.b g.cb g.ys g.m g.c g.cc g.us g.d g.cd g.vs V (HSg.out V hv).1 (HSg.out V hv).2.1 (HSg.out V hv).2.2.1 (HSg.out V hv).2.2.2 Lg.out.1 Lg.out.2.1 Lg.out.2.2.1 Lg.out.2.2.2)
  obtain ⟨E1, hE1⟩ : ∃ E, rchk f.n f.xs f.ys = E := ⟨_, rfl⟩
  obtain ⟨E2, hE2⟩ : ∃ E, gchk g.n g.xs g.ys g.m g.us g.vs = E := ⟨_, rfl⟩
  rw [hE1] at HK1 Z1 Z2
  rw [hE2] at HK2 Z1 Z2
  rw [hE1, hE2]
  have HA1 : Hid (E1 ≠ 0 → fstE E1 E2 = E1) := fun h => fstE_err _ h
  have HA2 : Hid (E1 = 0 → fstE E1 E2 = E2) := fun h => by rw [h, fstE_zero]
  generalize fstE E1 E2 = E at *
  clear hE1 hE2
  go_enter Tryz.func17, Tryz.ntmps17
  have HD := hid (HK1.out X HW0.out)
  have cf0 : X.cell? ⟨w.heap.size, 0, none⟩ = some (.bool f.n) := Hf0.out.cell 0
  have cf1 : X.cell? ⟨w.heap.size, 1, none⟩ = some (.slice f.a f.xs.length f.ca) := Hf0.out.cell 1
  have cf2 : X.cell? ⟨w.heap.size, 2, none⟩ = some (.slice f.b f.ys.length f.cb) := Hf0.out.cell 2
  go_wp2_with fail
  clear hX
  refine Calls.mono HD.out ?_
  rintro e w1 ⟨rfl, hb⟩
  clear HD cf0 cf1 cf2
  clear HK1
  have HW2 := hid (bt HW0.out hb)
  have Hf2 := hid (Hf0.out.later hb Hf0.out.lt)
  have Hg2 := hid (Hg0.out.later hb Hg0.out.lt)
  have Hres2 := hid (Hres0.out.later hb Hres0.out.lt)
  clear HW0 Hf0 Hg0 Hres0
  clear hb
  rcases Decidable.em (¬ E1 = 0) with hc | hc
  · have HCX := hid hc
    have dd : (E1 != 0) = true := by simp [hc]
    have de : (E1 == 0) = false := by simp [hc]
    clear hc
    obtain ⟨C0, C1, C2, C3, C4, C5, qC0, qC1, qC2, qC3, qC4, qC5, ⟨rC0, rC1, rC2, rC3, rC4, rC5⟩, ⟨fC0, fC1, fC2, fC3, fC4, fC5⟩, HCC⟩ := rchain6 Hres2.out (by decide) (.bool false) (.slice none 0 0) (.slice none 0 0) (.bool false) (.slice none 0 0) (.slice none 0 0)
    go_wp2_with fail
    refine bodyPost_ret (gres_run (by rfl) HCC.out.1 _ (by rfl)) rfl ?_
    exact ⟨gqZ, E1, rfl, gqZ_ow _ _, (by rw [HA1.out HCX.out]; exact gq_bad HCX.out), HCC.out.2.2.2.1 _ _ (by omega) HW2.out⟩
  have hz : E1 = 0 := Decidable.not_not.1 hc
  subst hz
  clear hc
  have HA3 := hid (HA2.out rfl)
  clear HA1 HA2
  have HD := hid (HK2.out w1 HW2.out)
  have cg0 : w1.cell? ⟨w.heap.size + 1, 0, none⟩ = some (.bool g.n) := Hg2.out.cell 0
  have cg1 : w1.cell? ⟨w.heap.size + 1, 1, none⟩ = some (.slice g.a g.xs.length g.ca) := Hg2.out.cell 1
  have cg2 : w1.cell? ⟨w.heap.size + 1, 2, none⟩ = some (.slice g.b g.ys.length g.cb) := Hg2.out.cell 2
  have cg3 : w1.cell? ⟨w.heap.size + 1, 3, none⟩ = some (.bool g.m) := Hg2.out.cell 3
  have cg4 : w1.cell? ⟨w.heap.size + 1, 4, none⟩ = some (.slice g.c g.us.length g.cc) := Hg2.out.cell 4
  have cg5 : w1.cell? ⟨w.heap.size + 1, 5, none⟩ = some (.slice g.d g.vs.length g.cd) := Hg2.out.cell 5
  go_wp2_with fail
  refine Calls.mono HD.out ?_
  rintro e w3 ⟨rfl, hb⟩
  clear HD cg0 cg1 cg2 cg3 cg4 cg5
  clear HK2
  have HW4 := hid (bt HW2.out hb)
  have Hf4 := hid (Hf2.out.later hb Hf2.out.lt)
  have Hg4 := hid (Hg2.out.later hb Hg2.out.lt)
  have Hres4 := hid (Hres2.out.later hb Hres2.out.lt)
  clear HW2 Hf2 Hg2 Hres2
  clear hb
  rcases Decidable.em (¬ E2 = 0) with hc | hc
  · have HCX := hid hc
    have dd : (E2 != 0) = true := by simp [hc]
    have de : (E2 == 0) = false := by simp [hc]
    clear hc
    obtain ⟨C0, C1, C2, C3, C4, C5, qC0, qC1, qC2, qC3, qC4, qC5, ⟨rC0, rC1, rC2, rC3, rC4, rC5⟩, ⟨fC0, fC1, fC2, fC3, fC4, fC5⟩, HCC⟩ := rchain6 Hres4.out (by decide) (.bool false) (.slice none 0 0) (.slice none 0 0) (.bool false) (.slice none 0 0) (.slice none 0 0)
    go_wp2_with fail
    refine bodyPost_ret (gres_run (by rfl) HCC.out.1 _ (by rfl)) rfl ?_
    exact ⟨gqZ, E2, rfl, gqZ_ow _ _, (by rw [HA3.out]; exact gq_bad HCX.out), HCC.out.2.2.2.1 _ _ (by omega) HW4.out⟩
  have hz : E2 = 0 := Decidable.not_not.1 hc
  subst hz
  clear hc
  have R1 := hid (Z1.out (by first | rfl | trivial) (by first | rfl | trivial))
  have R2 := hid (Z2.out (by first | rfl | trivial) (by first | rfl | trivial))
  clear Z1 Z2
  have HQ : Hid (Calls Tryz.prog 46 #[.agg #[.bool f.n, .slice f.a f.xs.length f.ca, .slice f.b f.ys.length f.cb], .agg #[.bool g.n, .slice g.a g.xs.length g.ca, .slice g.b g.ys.length g.cb]] w3 (QR w3 (Tl (rlong (rq f.n f.xs f.ys * rq g.n g.xs g.ys)) (rq f.n f.xs f.ys * rq g.n g.xs g.ys)))) := by
    have q := dMul_full f.n f.a f.ca f.xs f.b f.cb f.ys g.n g.a g.ca g.xs g.b g.cb g.ys w3 (HSf.out w3 HW4.out).1 (HSf.out w3 HW4.out).2 (HSg.out w3 HW4.out).1 (HSg.out w3 HW4.out).2.1 Lf.out.1 Lf.out.2 Lg.out.1 Lg.out.2.1
    rw [R1.out] at q
    exact Calls.mono q (fun _ _ q => by obtain ⟨f, c, e, o, i, b⟩ := qr_told q; exact ⟨f, c, e, o, ⟨i.out.1, tl_r i.out.2⟩, b⟩)
  have HD := hid (HQ.out)
  have cf0 : w3.cell? ⟨w.heap.size, 0, none⟩ = some (.bool f.n) := Hf4.out.cell 0
  have cf1 : w3.cell? ⟨w.heap.size, 1, none⟩ = some (.slice f.a f.xs.length f.ca) := Hf4.out.cell 1
  have cf2 : w3.cell? ⟨w.heap.size, 2, none⟩ = some (.slice f.b f.ys.length f.cb) := Hf4.out.cell 2
  have cg0 : w3.cell? ⟨w.heap.size + 1, 0, none⟩ = some (.bool g.n) := Hg4.out.cell 0
  have cg1 : w3.cell? ⟨w.heap.size + 1, 1, none⟩ = some (.slice g.a g.xs.length g.ca) := Hg4.out.cell 1
  have cg2 : w3.cell? ⟨w.heap.size + 1, 2, none⟩ = some (.slice g.b g.ys.length g.cb) := Hg4.out.cell 2
  have cg3 : w3.cell? ⟨w.heap.size + 1, 3, none⟩ = some (.bool g.m) := Hg4.out.cell 3
  have cg4 : w3.cell? ⟨w.heap.size + 1, 4, none⟩ = some (.slice g.c g.us.length g.cc) := Hg4.out.cell 4
  have cg5 : w3.cell? ⟨w.heap.size + 1, 5, none⟩ = some (.slice g.d g.vs.length g.cd) := Hg4.out.cell 5
  go_wp2_with fail
  refine Calls.mono HD.out ?_
  rintro e w5 ⟨re, cre, rfl, ok, ik, hb⟩
  clear HD cf0 cf1 cf2 cg0 cg1 cg2 cg3 cg4 cg5
  have Ore := hid (ok.out.base HW4.out.size)
  have Ire := hid ik.out
  clear ok ik
  have HW6 := hid (bt HW4.out hb)
  have Hf6 := hid (Hf4.out.later hb Hf4.out.lt)
  have Hg6 := hid (Hg4.out.later hb Hg4.out.lt)
  have Hres6 := hid (Hres4.out.later hb Hres4.out.lt)
  clear HW4 Hf4 Hg4 Hres4
  clear hb
  obtain ⟨Yre, hYre⟩ : ∃ Y, w5.alloc (.cells #[.bool false, .slice none 0 0, .slice none 0 0] 24) = Y := ⟨_, rfl⟩
  have NYre : Hid (Box Yre w5.heap.size 24 #[.bool false, .slice none 0 0, .slice none 0 0]) := by rw [← hYre]; exact Box.made w5 _ _
  have BYre : Hid (Below w5.heap.size w5 Yre) := by rw [← hYre]; exact alloc_later _ _
  obtain ⟨Kre0, Kre1, Kre2, qKre0, qKre1, qKre2, ⟨rKre0, rKre1, rKre2⟩, ⟨fKre0, fKre1, fKre2⟩, Pre⟩ := rchain3 NYre.out (by decide) (.bool re.n) (.slice re.a re.xs.length re.ca) (.slice re.b re.ys.length re.cb)
  have HW7 : Hid (Below w.heap.size w Kre2) := Pre.out.2.2.2.1 _ _ HW6.out.size (bt HW6.out BYre.out)
  have Hf7 := hid (Pre.out.2.1 _ _ _ (Nat.ne_of_lt Hf6.out.lt) (Hf6.out.later BYre.out Hf6.out.lt))
  have Hg7 := hid (Pre.out.2.1 _ _ _ (Nat.ne_of_lt Hg6.out.lt) (Hg6.out.later BYre.out Hg6.out.lt))
  have Hres7 := hid (Pre.out.2.1 _ _ _ (Nat.ne_of_lt Hres6.out.lt) (Hres6.out.later BYre.out Hres6.out.lt))
  replace Ore := hid (f3_put (Ore.out.later BYre.out) Pre.out.2.2.1)
  have Hre7 := hid Pre.out.1
  clear HW6 Hf6 Hg6 Hres6 NYre BYre Pre
  clear HQ
  rcases Decidable.em (¬ cre = 0) with hc | hc
  · have HCX := hid hc
    have dd : (cre != 0) = true := by simp [hc]
    have de : (cre == 0) = false := by simp [hc]
    clear hc
    obtain ⟨C0, C1, C2, C3, C4, C5, qC0, qC1, qC2, qC3, qC4, qC5, ⟨rC0, rC1, rC2, rC3, rC4, rC5⟩, ⟨fC0, fC1, fC2, fC3, fC4, fC5⟩, HCC⟩ := rchain6 Hres7.out (by decide) (.bool false) (.slice none 0 0) (.slice none 0 0) (.bool false) (.slice none 0 0) (.slice none 0 0)
    go_wp2_with fail
    refine bodyPost_ret (gres_run (by rfl) HCC.out.1 _ (by rfl)) rfl ?_
    exact ⟨gqZ, cre, rfl, gqZ_ow _ _, (gt_first HA3.out Ire.out.2 HCX.out .inl), HCC.out.2.2.2.1 _ _ (by omega) HW7.out⟩
  have hz : cre = 0 := Decidable.not_not.1 hc
  subst hz
  clear hc
  have HQ : Hid (Calls Tryz.prog 46 #[.agg #[.bool f.n, .slice f.a f.xs.length f.ca, .slice f.b f.ys.length f.cb], .agg #[.bool g.m, .slice g.c g.us.length g.cc, .slice g.d g.vs.length g.cd]] Kre2 (QR Kre2 (Tl (rlong (rq f.n f.xs f.ys * rq g.m g.us g.vs)) (rq f.n f.xs f.ys * rq g.m g.us g.vs)))) := by
    have q := dMul_full f.n f.a f.ca f.xs f.b f.cb f.ys g.m g.c g.cc g.us g.d g.cd g.vs Kre2 (HSf.out Kre2 HW7.out).1 (HSf.out Kre2 HW7.out).2 (HSg.out Kre2 HW7.out).2.2.1 (HSg.out Kre2 HW7.out).2.2.2 Lf.out.1 Lf.out.2 Lg.out.2.2.1 Lg.out.2.2.2
    rw [R2.out] at q
    exact Calls.mono q (fun _ _ q => by obtain ⟨f, c, e, o, i, b⟩ := qr_told q; exact ⟨f, c, e, o, ⟨i.out.1, tl_r i.out.2⟩, b⟩)
  have HD := hid (HQ.out)
  have cf0 : Kre2.cell? ⟨w.heap.size, 0, none⟩ = some (.bool f.n) := Hf7.out.cell 0
  have cf1 : Kre2.cell? ⟨w.heap.size, 1, none⟩ = some (.slice f.a f.xs.length f.ca) := Hf7.out.cell 1
  have cf2 : Kre2.cell? ⟨w.heap.size, 2, none⟩ = some (.slice f.b f.ys.length f.cb) := Hf7.out.cell 2
  have cg0 : Kre2.cell? ⟨w.heap.size + 1, 0, none⟩ = some (.bool g.n) := Hg7.out.cell 0
  have cg1 : Kre2.cell? ⟨w.heap.size + 1, 1, none⟩ = some (.slice g.a g.xs.length g.ca) := Hg7.out.cell 1
  have cg2 : Kre2.cell? ⟨w.heap.size + 1, 2, none⟩ = some (.slice g.b g.ys.length g.cb) := Hg7.out.cell 2
  have cg3 : Kre2.cell? ⟨w.heap.size + 1, 3, none⟩ = some (.bool g.m) := Hg7.out.cell 3
  have cg4 : Kre2.cell? ⟨w.heap.size + 1, 4, none⟩ = some (.slice g.c g.us.length g.cc) := Hg7.out.cell 4
  have cg5 : Kre2.cell? ⟨w.heap.size + 1, 5, none⟩ = some (.slice g.d g.vs.length g.cd) := Hg7.out.cell 5
  go_wp2_with fail
  clear qKre0 qKre1 qKre2 rKre0 rKre1 rKre2 fKre0 fKre1 fKre2 hYre
  refine Calls.mono HD.out ?_
  rintro e w8 ⟨im, cim, rfl, ok, ik, hb⟩
  clear HD cf0 cf1 cf2 cg0 cg1 cg2 cg3 cg4 cg5
  have Oim := hid (ok.out.base HW7.out.size)
  have Iim := hid ik.out
  clear ok ik
  have HW9 := hid (bt HW7.out hb)
  have Hf9 := hid (Hf7.out.later hb Hf7.out.lt)
  have Hg9 := hid (Hg7.out.later hb Hg7.out.lt)
  have Hres9 := hid (Hres7.out.later hb Hres7.out.lt)
  have Hre9 := hid (Hre7.out.later hb Hre7.out.lt)
  replace Ore := hid (Ore.out.later hb)
  clear HW7 Hf7 Hg7 Hres7 Hre7
  clear hb
  obtain ⟨Yim, hYim⟩ : ∃ Y, w8.alloc (.cells #[.bool false, .slice none 0 0, .slice none 0 0] 24) = Y := ⟨_, rfl⟩
  have NYim : Hid (Box Yim w8.heap.size 24 #[.bool false, .slice none 0 0, .slice none 0 0]) := by rw [← hYim]; exact Box.made w8 _ _
  have BYim : Hid (Below w8.heap.size w8 Yim) := by rw [← hYim]; exact alloc_later _ _
  obtain ⟨Kim0, Kim1, Kim2, qKim0, qKim1, qKim2, ⟨rKim0, rKim1, rKim2⟩, ⟨fKim0, fKim1, fKim2⟩, Pim⟩ := rchain3 NYim.out (by decide) (.bool im.n) (.slice im.a im.xs.length im.ca) (.slice im.b im.ys.length im.cb)
  have HW10 : Hid (Below w.heap.size w Kim2) := Pim.out.2.2.2.1 _ _ HW9.out.size (bt HW9.out BYim.out)
  have Hf10 := hid (Pim.out.2.1 _ _ _ (Nat.ne_of_lt Hf9.out.lt) (Hf9.out.later BYim.out Hf9.out.lt))
  have Hg10 := hid (Pim.out.2.1 _ _ _ (Nat.ne_of_lt Hg9.out.lt) (Hg9.out.later BYim.out Hg9.out.lt))
  have Hres10 := hid (Pim.out.2.1 _ _ _ (Nat.ne_of_lt Hres9.out.lt) (Hres9.out.later BYim.out Hres9.out.lt))
  have Hre10 := hid (Pim.out.2.1 _ _ _ (Nat.ne_of_lt Hre9.out.lt) (Hre9.out.later BYim.out Hre9.out.lt))
  replace Ore := hid (f3_put (Ore.out.later BYim.out) Pim.out.2.2.1)
  replace Oim := hid (f3_put (Oim.out.later BYim.out) Pim.out.2.2.1)
  have Him10 := hid Pim.out.1
  clear HW9 Hf9 Hg9 Hres9 Hre9 NYim BYim Pim
  clear HQ
  rcases Decidable.em (¬ cim = 0) with hc | hc
  · have HCX := hid hc
    have dd : (cim != 0) = true := by simp [hc]
    have de : (cim == 0) = false := by simp [hc]
    clear hc
    obtain ⟨C0, C1, C2, C3, C4, C5, qC0, qC1, qC2, qC3, qC4, qC5, ⟨rC0, rC1, rC2, rC3, rC4, rC5⟩, ⟨fC0, fC1, fC2, fC3, fC4, fC5⟩, HCC⟩ := rchain6 Hres10.out (by decide) (.bool false) (.slice none 0 0) (.slice none 0 0) (.bool false) (.slice none 0 0) (.slice none 0 0)
    go_wp2_with fail
    refine bodyPost_ret (gres_run (by rfl) HCC.out.1 _ (by rfl)) rfl ?_
    exact ⟨gqZ, cim, rfl, gqZ_ow _ _, (gt_first HA3.out Iim.out.2 HCX.out .inr), HCC.out.2.2.2.1 _ _ (by omega) HW10.out⟩
  have hz : cim = 0 := Decidable.not_not.1 hc
  subst hz
  clear hc
  have HTT := hid (gt_both HA3.out Ire.out.2 Iim.out.2)
  have cre0 : Kim2.cell? ⟨w5.heap.size, 0, none⟩ = some (.bool re.n) := Hre10.out.cell 0
  have cre1 : Kim2.cell? ⟨w5.heap.size, 1, none⟩ = some (.slice re.a re.xs.length re.ca) := Hre10.out.cell 1
  have cre2 : Kim2.cell? ⟨w5.heap.size, 2, none⟩ = some (.slice re.b re.ys.length re.cb) := Hre10.out.cell 2
  have cim0 : Kim2.cell? ⟨w8.heap.size, 0, none⟩ = some (.bool im.n) := Him10.out.cell 0
  have cim1 : Kim2.cell? ⟨w8.heap.size, 1, none⟩ = some (.slice im.a im.xs.length im.ca) := Him10.out.cell 1
  have cim2 : Kim2.cell? ⟨w8.heap.size, 2, none⟩ = some (.slice im.b im.ys.length im.cb) := Him10.out.cell 2
  obtain ⟨C0, C1, C2, C3, C4, C5, qC0, qC1, qC2, qC3, qC4, qC5, ⟨rC0, rC1, rC2, rC3, rC4, rC5⟩, ⟨fC0, fC1, fC2, fC3, fC4, fC5⟩, HCC⟩ := rchain6 Hres10.out (by decide) (.bool re.n) (.slice re.a re.xs.length re.ca) (.slice re.b re.ys.length re.cb) (.bool im.n) (.slice im.a im.xs.length im.ca) (.slice im.b im.ys.length im.cb)
  go_wp2_with fail
  have P := HCC.out.2.2.1
  refine bodyPost_ret (gres_run (by rfl) HCC.out.1 _ (by rfl)) rfl ?_
  exact ⟨⟨re.n, re.a, re.ca, re.xs, re.b, re.cb, re.ys, im.n, im.a, im.ca, im.xs, im.b, im.cb, im.ys⟩, 0, rfl, ⟨P _ _ _ _ Ore.out.1, P _ _ _ _ Ore.out.2, P _ _ _ _ Oim.out.1, P _ _ _ _ Oim.out.2⟩, HTT.out, HCC.out.2.2.2.1 _ _ (by omega) HW10.out⟩
set_option maxHeartbeats 3200000 in
theorem d4Mul_q (g h : G6) (w : World) (sg : g.Sl4 w) (sh : h.Sl4 w) (lg : g.Sh) (lh : h.Sh) :
    Calls Tryz.prog 13 #[.agg #[.bool g.n, .slice g.a g.xs.length g.ca, .slice g.b g.ys.length g.cb, .bool g.m, .slice g.c g.us.length g.cc, .slice g.d g.vs.length g.cd], .agg #[.bool h.n, .slice h.a h.xs.length h.ca, .slice h.b h.ys.length h.cb, .bool h.m, .slice h.c h.us.length h.cc, .slice h.d h.vs.length h.cd]] w (DGq w (fstE (gchk g.n g.xs g.ys g.m g.us g.vs) (gchk h.n h.xs h.ys h.m h.us h.vs)) (mlong (rq g.n g.xs g.ys) (rq g.m g.us g.vs) (rq h.n h.xs h.ys) (rq h.m h.us h.vs)) (rq g.n g.xs g.ys * rq h.n h.xs h.ys - rq g.m g.us g.vs * rq h.m h.us h.vs) (rq g.n g.xs g.ys * rq h.m h.us h.vs + rq g.m g.us g.vs * rq h.n h.xs h.ys)) := by
  obtain ⟨X, hX⟩ : ∃ X, ((w.alloc (.cells #[.bool g.n, .slice g.a g.xs.length g.ca, .slice g.b g.ys.length g.cb, .bool g.m, .slice g.c g.us.length g.cc, .slice g.d g.vs.length g.cd] 26)).alloc (.cells #[.bool h.n, .slice h.a h.xs.length h.ca, .slice h.b h.ys.length h.cb, .bool h.m, .slice h.c h.us.length h.cc, .slice h.d h.vs.length h.cd] 26)).alloc (.cells #[.bool false, .slice none 0 0, .slice none 0 0, .bool false, .slice none 0 0, .slice none 0 0] 26) = X := ⟨_, rfl⟩
  have HX := hid (gq_boxes w 26 26 26 #[.bool g.n, .slice g.a g.xs.length g.ca, .slice g.b g.ys.length g.cb, .bool g.m, .slice g.c g.us.length g.cc, .slice g.d g.vs.length g.cd] #[.bool h.n, .slice h.a h.xs.length h.ca, .slice h.b h.ys.length h.cb, .bool h.m, .slice h.c h.us.length h.cc, .slice h.d h.vs.length h.cd] #[.bool false, .slice none 0 0, .slice none 0 0, .bool false, .slice none 0 0, .slice none 0 0])
  rw [hX] at HX
  have HW0 := hid HX.out.2.2.2
  have Hg0 := hid HX.out.1
  have Hh0 := hid HX.out.2.1
  have Hres0 := hid HX.out.2.2.1
  clear HX
  have HSg : Hid (∀ V, Below w.heap.size w V → g.Sl4 V) := fun V hv => sg.later hv
  have HSh : Hid (∀ V, Below w.heap.size w V → h.Sl4 V) := fun V hv => sh.later hv
  have Lg := hid lg
  have Lh := hid lh
  clear sg sh lg lh
  have ZZ : Hid (fstE (gchk g.n g.xs g.ys g.m g.us g.vs) (gchk h.n h.xs h.ys h.m h.us h.vs) = 0 → rboth g.n g.xs g.ys h.n h.xs h.ys = 0 ∧ rboth g.m g.us g.vs h.m h.us h.vs = 0 ∧ rboth g.n g.xs g.ys h.m h.us h.vs = 0 ∧ rboth g.m g.us g.vs h.n h.xs h.ys = 0) := fun h0 => by
    have a := gchk_ok (fstE_ok h0).1
    have b := gchk_ok (fstE_ok h0).2
    exact ⟨rboth_good a.1 b.1, rboth_good a.2 b.2, rboth_good a.1 b.2, rboth_good a.2 b.1⟩
  have HBo := hid (fun V (hv : Below w.heap.size w V) => d4both_any g.n g.a g.ca g.xs g.b g.cb g.ys g.m g.c g.cc g.us g.d g.cd g.vs V (HSg.out V hv).1 (HSg.out V hv).2.1 (HSg.out V hv).2.2.1 (HSg.out V hv).2.2.2 Lg.out.1 Lg.out.2.1 Lg.out.2.2.1 Lg.out.2.2.2 h.n h.a h.ca h.xs h.b h.cb h.ys h.m h.c h.cc h.us h.d h.cd h.vs (HSh.out V hv).1 (HSh.out V hv).2.1 (HSh.out V hv).2.2.1 (HSh.out V hv).2.2.2 Lh.out.1 Lh.out.2.1 Lh.out.2.2.1 Lh.out.2.2.2)
  generalize fstE (gchk g.n g.xs g.ys g.m g.us g.vs) (gchk h.n h.xs h.ys h.m h.us h.vs) = E at *
  go_enter Tryz.func13, Tryz.ntmps13
  have HD := hid (HBo.out X HW0.out)
  have cg0 : X.cell? ⟨w.heap.size, 0, none⟩ = some (.bool g.n) := Hg0.out.cell 0
  have cg1 : X.cell? ⟨w.heap.size, 1, none⟩ = some (.slice g.a g.xs.length g.ca) := Hg0.out.cell 1
  have cg2 : X.cell? ⟨w.heap.size, 2, none⟩ = some (.slice g.b g.ys.length g.cb) := Hg0.out.cell 2
  have cg3 : X.cell? ⟨w.heap.size, 3, none⟩ = some (.bool g.m) := Hg0.out.cell 3
  have cg4 : X.cell? ⟨w.heap.size, 4, none⟩ = some (.slice g.c g.us.length g.cc) := Hg0.out.cell 4
  have cg5 : X.cell? ⟨w.heap.size, 5, none⟩ = some (.slice g.d g.vs.length g.cd) := Hg0.out.cell 5
  have ch0 : X.cell? ⟨w.heap.size + 1, 0, none⟩ = some (.bool h.n) := Hh0.out.cell 0
  have ch1 : X.cell? ⟨w.heap.size + 1, 1, none⟩ = some (.slice h.a h.xs.length h.ca) := Hh0.out.cell 1
  have ch2 : X.cell? ⟨w.heap.size + 1, 2, none⟩ = some (.slice h.b h.ys.length h.cb) := Hh0.out.cell 2
  have ch3 : X.cell? ⟨w.heap.size + 1, 3, none⟩ = some (.bool h.m) := Hh0.out.cell 3
  have ch4 : X.cell? ⟨w.heap.size + 1, 4, none⟩ = some (.slice h.c h.us.length h.cc) := Hh0.out.cell 4
  have ch5 : X.cell? ⟨w.heap.size + 1, 5, none⟩ = some (.slice h.d h.vs.length h.cd) := Hh0.out.cell 5
  go_wp2_with fail
  clear hX
  refine Calls.mono HD.out ?_
  rintro e w1 ⟨rfl, hb⟩
  clear HD cg0 cg1 cg2 cg3 cg4 cg5 ch0 ch1 ch2 ch3 ch4 ch5
  clear HBo
  have HW2 := hid (bt HW0.out hb)
  have Hg2 := hid (Hg0.out.later hb Hg0.out.lt)
  have Hh2 := hid (Hh0.out.later hb Hh0.out.lt)
  have Hres2 := hid (Hres0.out.later hb Hres0.out.lt)
  clear HW0 Hg0 Hh0 Hres0
  clear hb
  rcases Decidable.em (¬ E = 0) with hc | hc
  · have HCX := hid hc
    have dd : (E != 0) = true := by simp [hc]
    have de : (E == 0) = false := by simp [hc]
    clear hc
    obtain ⟨C0, C1, C2, C3, C4, C5, qC0, qC1, qC2, qC3, qC4, qC5, ⟨rC0, rC1, rC2, rC3, rC4, rC5⟩, ⟨fC0, fC1, fC2, fC3, fC4, fC5⟩, HCC⟩ := rchain6 Hres2.out (by decide) (.bool false) (.slice none 0 0) (.slice none 0 0) (.bool false) (.slice none 0 0) (.slice none 0 0)
    go_wp2_with fail
    refine bodyPost_ret (gres_run (by rfl) HCC.out.1 _ (by rfl)) rfl ?_
    exact ⟨gqZ, E, rfl, gqZ_ow _ _, gq_bad HCX.out, HCC.out.2.2.2.1 _ _ (by omega) HW2.out⟩
  have hz : E = 0 := Decidable.not_not.1 hc
  subst hz
  clear hc
  have RR := hid (ZZ.out rfl)
  clear ZZ
  have HQ : Hid (Calls Tryz.prog 32 #[.agg #[.bool g.n, .slice g.a g.xs.length g.ca, .slice g.b g.ys.length g.cb], .agg #[.bool h.n, .slice h.a h.xs.length h.ca, .slice h.b h.ys.length h.cb], .agg #[.bool g.m, .slice g.c g.us.length g.cc, .slice g.d g.vs.length g.cd], .agg #[.bool h.m, .slice h.c h.us.length h.cc, .slice h.d h.vs.length h.cd], .bool true] w1 (QR w1 (Tl ((rlong (rq g.n g.xs g.ys * rq h.n h.xs h.ys) ∨ rlong (rq g.m g.us g.vs * rq h.m h.us h.vs)) ∨ rlong (rq g.n g.xs g.ys * rq h.n h.xs h.ys - rq g.m g.us g.vs * rq h.m h.us h.vs)) (rq g.n g.xs g.ys * rq h.n h.xs h.ys - rq g.m g.us g.vs * rq h.m h.us h.vs)))) := by
    have q := d4pair_less g.n g.a g.ca g.xs g.b g.cb g.ys h.n h.a h.ca h.xs h.b h.cb h.ys g.m g.c g.cc g.us g.d g.cd g.vs h.m h.c h.cc h.us h.d h.cd h.vs w1 ⟨(HSg.out w1 HW2.out).1, (HSg.out w1 HW2.out).2.1⟩ ⟨Lg.out.1, Lg.out.2.1⟩ ⟨(HSh.out w1 HW2.out).1, (HSh.out w1 HW2.out).2.1⟩ ⟨Lh.out.1, Lh.out.2.1⟩ ⟨(HSg.out w1 HW2.out).2.2.1, (HSg.out w1 HW2.out).2.2.2⟩ ⟨Lg.out.2.2.1, Lg.out.2.2.2⟩ ⟨(HSh.out w1 HW2.out).2.2.1, (HSh.out w1 HW2.out).2.2.2⟩ ⟨Lh.out.2.2.1, Lh.out.2.2.2⟩
    rw [RR.out.1, RR.out.2.1] at q
    exact Calls.mono q (fun _ _ q => by obtain ⟨f, c, e, o, i, b⟩ := qr_drt q; exact ⟨f, c, e, o, ⟨i.out.1, tl_less i.out.2 i.out.1⟩, b⟩)
  have HD := hid (HQ.out)
  have cg0 : w1.cell? ⟨w.heap.size, 0, none⟩ = some (.bool g.n) := Hg2.out.cell 0
  have cg1 : w1.cell? ⟨w.heap.size, 1, none⟩ = some (.slice g.a g.xs.length g.ca) := Hg2.out.cell 1
  have cg2 : w1.cell? ⟨w.heap.size, 2, none⟩ = some (.slice g.b g.ys.length g.cb) := Hg2.out.cell 2
  have cg3 : w1.cell? ⟨w.heap.size, 3, none⟩ = some (.bool g.m) := Hg2.out.cell 3
  have cg4 : w1.cell? ⟨w.heap.size, 4, none⟩ = some (.slice g.c g.us.length g.cc) := Hg2.out.cell 4
  have cg5 : w1.cell? ⟨w.heap.size, 5, none⟩ = some (.slice g.d g.vs.length g.cd) := Hg2.out.cell 5
  have ch0 : w1.cell? ⟨w.heap.size + 1, 0, none⟩ = some (.bool h.n) := Hh2.out.cell 0
  have ch1 : w1.cell? ⟨w.heap.size + 1, 1, none⟩ = some (.slice h.a h.xs.length h.ca) := Hh2.out.cell 1
  have ch2 : w1.cell? ⟨w.heap.size + 1, 2, none⟩ = some (.slice h.b h.ys.length h.cb) := Hh2.out.cell 2
  have ch3 : w1.cell? ⟨w.heap.size + 1, 3, none⟩ = some (.bool h.m) := Hh2.out.cell 3
  have ch4 : w1.cell? ⟨w.heap.size + 1, 4, none⟩ = some (.slice h.c h.us.length h.cc) := Hh2.out.cell 4
  have ch5 : w1.cell? ⟨w.heap.size + 1, 5, none⟩ = some (.slice h.d h.vs.length h.cd) := Hh2.out.cell 5
  go_wp2_with fail
  refine Calls.mono HD.out ?_
  rintro e w3 ⟨re, cre, rfl, ok, ik, hb⟩
  clear HD cg0 cg1 cg2 cg3 cg4 cg5 ch0 ch1 ch2 ch3 ch4 ch5
  have Ore := hid (ok.out.base HW2.out.size)
  have Ire := hid ik.out
  clear ok ik
  have HW4 := hid (bt HW2.out hb)
  have Hg4 := hid (Hg2.out.later hb Hg2.out.lt)
  have Hh4 := hid (Hh2.out.later hb Hh2.out.lt)
  have Hres4 := hid (Hres2.out.later hb Hres2.out.lt)
  clear HW2 Hg2 Hh2 Hres2
  clear hb
  obtain ⟨Yre, hYre⟩ : ∃ Y, w3.alloc (.cells #[.bool false, .slice none 0 0, .slice none 0 0] 24) = Y := ⟨_, rfl⟩
  have NYre : Hid (Box Yre w3.heap.size 24 #[.bool false, .slice none 0 0, .slice none 0 0]) := by rw [← hYre]; exact Box.made w3 _ _
  have BYre : Hid (Below w3.heap.size w3 Yre) := by rw [← hYre]; exact alloc_later _ _
  obtain ⟨Kre0, Kre1, Kre2, qKre0, qKre1, qKre2, ⟨rKre0, rKre1, rKre2⟩, ⟨fKre0, fKre1, fKre2⟩, Pre⟩ := rchain3 NYre.out (by decide) (.bool re.n) (.slice re.a re.xs.length re.ca) (.slice re.b re.ys.length re.cb)
  have HW5 : Hid (Below w.heap.size w Kre2) := Pre.out.2.2.2.1 _ _ HW4.out.size (bt HW4.out BYre.out)
  have Hg5 := hid (Pre.out.2.1 _ _ _ (Nat.ne_of_lt Hg4.out.lt) (Hg4.out.later BYre.out Hg4.out.lt))
  have Hh5 := hid (Pre.out.2.1 _ _ _ (Nat.ne_of_lt Hh4.out.lt) (Hh4.out.later BYre.out Hh4.out.lt))
  have Hres5 := hid (Pre.out.2.1 _ _ _ (Nat.ne_of_lt Hres4.out.lt) (Hres4.out.later BYre.out Hres4.out.lt))
  replace Ore := hid (f3_put (Ore.out.later BYre.out) Pre.out.2.2.1)
  have Hre5 := hid Pre.out.1
  clear HW4 Hg4 Hh4 Hres4 NYre BYre Pre
  clear HQ
  rcases Decidable.em (¬ cre = 0) with hc | hc
  · have HCX := hid hc
    have dd : (cre != 0) = true := by simp [hc]
    have de : (cre == 0) = false := by simp [hc]
    clear hc
    obtain ⟨C0, C1, C2, C3, C4, C5, qC0, qC1, qC2, qC3, qC4, qC5, ⟨rC0, rC1, rC2, rC3, rC4, rC5⟩, ⟨fC0, fC1, fC2, fC3, fC4, fC5⟩, HCC⟩ := rchain6 Hres5.out (by decide) (.bool false) (.slice none 0 0) (.slice none 0 0) (.bool false) (.slice none 0 0) (.slice none 0 0)
    go_wp2_with fail
    refine bodyPost_ret (gres_run (by rfl) HCC.out.1 _ (by rfl)) rfl ?_
    exact ⟨gqZ, cre, rfl, gqZ_ow _ _, (gt_first rfl Ire.out.2 HCX.out .inl), HCC.out.2.2.2.1 _ _ (by omega) HW5.out⟩
  have hz : cre = 0 := Decidable.not_not.1 hc
  subst hz
  clear hc
  have HQ : Hid (Calls Tryz.prog 32 #[.agg #[.bool g.n, .slice g.a g.xs.length g.ca, .slice g.b g.ys.length g.cb], .agg #[.bool h.m, .slice h.c h.us.length h.cc, .slice h.d h.vs.length h.cd], .agg #[.bool g.m, .slice g.c g.us.length g.cc, .slice g.d g.vs.length g.cd], .agg #[.bool h.n, .slice h.a h.xs.length h.ca, .slice h.b h.ys.length h.cb], .bool false] Kre2 (QR Kre2 (Tl ((rlong (rq g.n g.xs g.ys * rq h.m h.us h.vs) ∨ rlong (rq g.m g.us g.vs * rq h.n h.xs h.ys)) ∨ rlong (rq g.n g.xs g.ys * rq h.m h.us h.vs + rq g.m g.us g.vs * rq h.n h.xs h.ys)) (rq g.n g.xs g.ys * rq h.m h.us h.vs + rq g.m g.us g.vs * rq h.n h.xs h.ys)))) := by
    have q := d4pair_more g.n g.a g.ca g.xs g.b g.cb g.ys h.m h.c h.cc h.us h.d h.cd h.vs g.m g.c g.cc g.us g.d g.cd g.vs h.n h.a h.ca h.xs h.b h.cb h.ys Kre2 ⟨(HSg.out Kre2 HW5.out).1, (HSg.out Kre2 HW5.out).2.1⟩ ⟨Lg.out.1, Lg.out.2.1⟩ ⟨(HSh.out Kre2 HW5.out).2.2.1, (HSh.out Kre2 HW5.out).2.2.2⟩ ⟨Lh.out.2.2.1, Lh.out.2.2.2⟩ ⟨(HSg.out Kre2 HW5.out).2.2.1, (HSg.out Kre2 HW5.out).2.2.2⟩ ⟨Lg.out.2.2.1, Lg.out.2.2.2⟩ ⟨(HSh.out Kre2 HW5.out).1, (HSh.out Kre2 HW5.out).2.1⟩ ⟨Lh.out.1, Lh.out.2.1⟩
    rw [RR.out.2.2.1, RR.out.2.2.2] at q
    exact Calls.mono q (fun _ _ q => by obtain ⟨f, c, e, o, i, b⟩ := qr_drt q; exact ⟨f, c, e, o, ⟨i.out.1, tl_more i.out.2 i.out.1⟩, b⟩)
  have HD := hid (HQ.out)
  have cg0 : Kre2.cell? ⟨w.heap.size, 0, none⟩ = some (.bool g.n) := Hg5.out.cell 0
  have cg1 : Kre2.cell? ⟨w.heap.size, 1, none⟩ = some (.slice g.a g.xs.length g.ca) := Hg5.out.cell 1
  have cg2 : Kre2.cell? ⟨w.heap.size, 2, none⟩ = some (.slice g.b g.ys.length g.cb) := Hg5.out.cell 2
  have cg3 : Kre2.cell? ⟨w.heap.size, 3, none⟩ = some (.bool g.m) := Hg5.out.cell 3
  have cg4 : Kre2.cell? ⟨w.heap.size, 4, none⟩ = some (.slice g.c g.us.length g.cc) := Hg5.out.cell 4
  have cg5 : Kre2.cell? ⟨w.heap.size, 5, none⟩ = some (.slice g.d g.vs.length g.cd) := Hg5.out.cell 5
  have ch0 : Kre2.cell? ⟨w.heap.size + 1, 0, none⟩ = some (.bool h.n) := Hh5.out.cell 0
  have ch1 : Kre2.cell? ⟨w.heap.size + 1, 1, none⟩ = some (.slice h.a h.xs.length h.ca) := Hh5.out.cell 1
  have ch2 : Kre2.cell? ⟨w.heap.size + 1, 2, none⟩ = some (.slice h.b h.ys.length h.cb) := Hh5.out.cell 2
  have ch3 : Kre2.cell? ⟨w.heap.size + 1, 3, none⟩ = some (.bool h.m) := Hh5.out.cell 3
  have ch4 : Kre2.cell? ⟨w.heap.size + 1, 4, none⟩ = some (.slice h.c h.us.length h.cc) := Hh5.out.cell 4
  have ch5 : Kre2.cell? ⟨w.heap.size + 1, 5, none⟩ = some (.slice h.d h.vs.length h.cd) := Hh5.out.cell 5
  go_wp2_with fail
  clear qKre0 qKre1 qKre2 rKre0 rKre1 rKre2 fKre0 fKre1 fKre2 hYre
  refine Calls.mono HD.out ?_
  rintro e w6 ⟨im, cim, rfl, ok, ik, hb⟩
  clear HD cg0 cg1 cg2 cg3 cg4 cg5 ch0 ch1 ch2 ch3 ch4 ch5
  have Oim := hid (ok.out.base HW5.out.size)
  have Iim := hid ik.out
  clear ok ik
  have HW7 := hid (bt HW5.out hb)
  have Hg7 := hid (Hg5.out.later hb Hg5.out.lt)
  have Hh7 := hid (Hh5.out.later hb Hh5.out.lt)
  have Hres7 := hid (Hres5.out.later hb Hres5.out.lt)
  have Hre7 := hid (Hre5.out.later hb Hre5.out.lt)
  replace Ore := hid (Ore.out.later hb)
  clear HW5 Hg5 Hh5 Hres5 Hre5
  clear hb
  obtain ⟨Yim, hYim⟩ : ∃ Y, w6.alloc (.cells #[.bool false, .slice none 0 0, .slice none 0 0] 24) = Y := ⟨_, rfl⟩
  have NYim : Hid (Box Yim w6.heap.size 24 #[.bool false, .slice none 0 0, .slice none 0 0]) := by rw [← hYim]; exact Box.made w6 _ _
  have BYim : Hid (Below w6.heap.size w6 Yim) := by rw [← hYim]; exact alloc_later _ _
  obtain ⟨Kim0, Kim1, Kim2, qKim0, qKim1, qKim2, ⟨rKim0, rKim1, rKim2⟩, ⟨fKim0, fKim1, fKim2⟩, Pim⟩ := rchain3 NYim.out (by decide) (.bool im.n) (.slice im.a im.xs.length im.ca) (.slice im.b im.ys.length im.cb)
  have HW8 : Hid (Below w.heap.size w Kim2) := Pim.out.2.2.2.1 _ _ HW7.out.size (bt HW7.out BYim.out)
  have Hg8 := hid (Pim.out.2.1 _ _ _ (Nat.ne_of_lt Hg7.out.lt) (Hg7.out.later BYim.out Hg7.out.lt))
  have Hh8 := hid (Pim.out.2.1 _ _ _ (Nat.ne_of_lt Hh7.out.lt) (Hh7.out.later BYim.out Hh7.out.lt))
  have Hres8 := hid (Pim.out.2.1 _ _ _ (Nat.ne_of_lt Hres7.out.lt) (Hres7.out.later BYim.out Hres7.out.lt))
  have Hre8 := hid (Pim.out.2.1 _ _ _ (Nat.ne_of_lt Hre7.out.lt) (Hre7.out.later BYim.out Hre7.out.lt))
  replace Ore := hid (f3_put (Ore.out.later BYim.out) Pim.out.2.2.1)
  replace Oim := hid (f3_put (Oim.out.later BYim.out) Pim.out.2.2.1)
  have Him8 := hid Pim.out.1
  clear HW7 Hg7 Hh7 Hres7 Hre7 NYim BYim Pim
  clear HQ
  rcases Decidable.em (¬ cim = 0) with hc | hc
  · have HCX := hid hc
    have dd : (cim != 0) = true := by simp [hc]
    have de : (cim == 0) = false := by simp [hc]
    clear hc
    obtain ⟨C0, C1, C2, C3, C4, C5, qC0, qC1, qC2, qC3, qC4, qC5, ⟨rC0, rC1, rC2, rC3, rC4, rC5⟩, ⟨fC0, fC1, fC2, fC3, fC4, fC5⟩, HCC⟩ := rchain6 Hres8.out (by decide) (.bool false) (.slice none 0 0) (.slice none 0 0) (.bool false) (.slice none 0 0) (.slice none 0 0)
    go_wp2_with fail
    refine bodyPost_ret (gres_run (by rfl) HCC.out.1 _ (by rfl)) rfl ?_
    exact ⟨gqZ, cim, rfl, gqZ_ow _ _, (gt_first rfl Iim.out.2 HCX.out .inr), HCC.out.2.2.2.1 _ _ (by omega) HW8.out⟩
  have hz : cim = 0 := Decidable.not_not.1 hc
  subst hz
  clear hc
  have HTT := hid (gt_both rfl Ire.out.2 Iim.out.2)
  have cre0 : Kim2.cell? ⟨w3.heap.size, 0, none⟩ = some (.bool re.n) := Hre8.out.cell 0
  have cre1 : Kim2.cell? ⟨w3.heap.size, 1, none⟩ = some (.slice re.a re.xs.length re.ca) := Hre8.out.cell 1
  have cre2 : Kim2.cell? ⟨w3.heap.size, 2, none⟩ = some (.slice re.b re.ys.length re.cb) := Hre8.out.cell 2
  have cim0 : Kim2.cell? ⟨w6.heap.size, 0, none⟩ = some (.bool im.n) := Him8.out.cell 0
  have cim1 : Kim2.cell? ⟨w6.heap.size, 1, none⟩ = some (.slice im.a im.xs.length im.ca) := Him8.out.cell 1
  have cim2 : Kim2.cell? ⟨w6.heap.size, 2, none⟩ = some (.slice im.b im.ys.length im.cb) := Him8.out.cell 2
  obtain ⟨C0, C1, C2, C3, C4, C5, qC0, qC1, qC2, qC3, qC4, qC5, ⟨rC0, rC1, rC2, rC3, rC4, rC5⟩, ⟨fC0, fC1, fC2, fC3, fC4, fC5⟩, HCC⟩ := rchain6 Hres8.out (by decide) (.bool re.n) (.slice re.a re.xs.length re.ca) (.slice re.b re.ys.length re.cb) (.bool im.n) (.slice im.a im.xs.length im.ca) (.slice im.b im.ys.length im.cb)
  go_wp2_with fail
  have P := HCC.out.2.2.1
  refine bodyPost_ret (gres_run (by rfl) HCC.out.1 _ (by rfl)) rfl ?_
  exact ⟨⟨re.n, re.a, re.ca, re.xs, re.b, re.cb, re.ys, im.n, im.a, im.ca, im.xs, im.b, im.cb, im.ys⟩, 0, rfl, ⟨P _ _ _ _ Ore.out.1, P _ _ _ _ Ore.out.2, P _ _ _ _ Oim.out.1, P _ _ _ _ Oim.out.2⟩, HTT.out, HCC.out.2.2.2.1 _ _ (by omega) HW8.out⟩
def DNg (w : World) (q1 q2 : Rat) (x : Ending) (w' : World) : Prop := ∃ (c : G6) (code : Int), x = .returned (.tuple #[.agg #[.bool c.n, .slice c.a c.xs.length c.ca, .slice c.b c.ys.length c.cb, .bool c.m, .slice c.c c.us.length c.cc, .slice c.d c.vs.length c.cd], .int .i64 code]) ∧ Hid (c.Sl4 w') ∧ Hid ((rchk c.n c.xs c.ys = 0 ∧ rq c.n c.xs c.ys = q1) ∧ (rchk c.m c.us c.vs = 0 ∧ rq c.m c.us c.vs = q2)) ∧ Below w.heap.size w w'
theorem dng_of {w w' : World} {E : Int} {L : Prop} {q1 q2 : Rat} {x : Ending} (h : DTold w E L q1 q2 x w') (hE : E = 0) (hl : ¬ L) : DNg w q1 q2 x w' := by
  obtain ⟨n, a, ca, xs, b, cb, ys, m, c, cc, us, d, cd, vs, code, rfl, hs, ht, hb⟩ := h
  obtain ⟨_, g1, g2⟩ := ht.good hE hl
  exact ⟨⟨n, a, ca, xs, b, cb, ys, m, c, cc, us, d, cd, vs⟩, code, rfl, hs, ⟨g1, g2⟩, hb⟩
theorem gchk_of {n m : Bool} {xs ys us vs : List Int} (a : rchk n xs ys = 0) (b : rchk m us vs = 0) : gchk n xs ys m us vs = 0 := by
  unfold gchk fstE
  rw [if_pos a, b]
theorem dneg_q (h : G6) (w : World) (sh : h.Sl4 w) (lh : h.Sh) (h0 : gchk h.n h.xs h.ys h.m h.us h.vs = 0) :
    Calls Tryz.prog 30 #[.agg #[.bool h.n, .slice h.a h.xs.length h.ca, .slice h.b h.ys.length h.cb, .bool h.m, .slice h.c h.us.length h.cc, .slice h.d h.vs.length h.cd]] w (DNg w (-(rq h.n h.xs h.ys)) (-(rq h.m h.us h.vs))) := by
  refine Calls.mono (d4Neg_any h.n h.a h.ca h.xs h.b h.cb h.ys h.m h.c h.cc h.us h.d h.cd h.vs w sh.1 sh.2.1 sh.2.2.1 sh.2.2.2 lh.1 lh.2.1 lh.2.2.1 lh.2.2.2) ?_
  intro x w' q
  refine dng_of q h0 ?_
  rintro (l | l)
  · exact kp_notlong sh.1.wd sh.2.1.wd (gchk_ok h0).1 (kp_long_neg.1 l)
  · exact kp_notlong sh.2.2.1.wd sh.2.2.2.wd (gchk_ok h0).2 (kp_long_neg.1 l)
theorem dconj_q (h : G6) (w : World) (sh : h.Sl4 w) (lh : h.Sh) (h0 : gchk h.n h.xs h.ys h.m h.us h.vs = 0) :
    Calls Tryz.prog 39 #[.agg #[.bool h.n, .slice h.a h.xs.length h.ca, .slice h.b h.ys.length h.cb, .bool h.m, .slice h.c h.us.length h.cc, .slice h.d h.vs.length h.cd]] w (DNg w (rq h.n h.xs h.ys) (-(rq h.m h.us h.vs))) := by
  refine Calls.mono (d4Conj_any h.n h.a h.ca h.xs h.b h.cb h.ys h.m h.c h.cc h.us h.d h.cd h.vs w sh.1 sh.2.1 sh.2.2.1 sh.2.2.2 lh.1 lh.2.1 lh.2.2.1 lh.2.2.2) ?_
  intro x w' q
  refine dng_of q h0 ?_
  rintro (l | l)
  · exact kp_notlong sh.1.wd sh.2.1.wd (gchk_ok h0).1 l
  · exact kp_notlong sh.2.2.1.wd sh.2.2.2.wd (gchk_ok h0).2 (kp_long_neg.1 l)
set_option maxHeartbeats 3200000 in
theorem d4Sub_q (g h : G6) (w : World) (sg : g.Sl4 w) (sh : h.Sl4 w) (lg : g.Sh) (lh : h.Sh) :
    Calls Tryz.prog 11 #[.agg #[.bool g.n, .slice g.a g.xs.length g.ca, .slice g.b g.ys.length g.cb, .bool g.m, .slice g.c g.us.length g.cc, .slice g.d g.vs.length g.cd], .agg #[.bool h.n, .slice h.a h.xs.length h.ca, .slice h.b h.ys.length h.cb, .bool h.m, .slice h.c h.us.length h.cc, .slice h.d h.vs.length h.cd]] w (DGq w (fstE (gchk g.n g.xs g.ys g.m g.us g.vs) (gchk h.n h.xs h.ys h.m h.us h.vs)) (rlong (rq g.n g.xs g.ys - rq h.n h.xs h.ys) ∨ rlong (rq g.m g.us g.vs - rq h.m h.us h.vs)) (rq g.n g.xs g.ys - rq h.n h.xs h.ys) (rq g.m g.us g.vs - rq h.m h.us h.vs)) := by
  obtain ⟨X, hX⟩ : ∃ X, ((w.alloc (.cells #[.bool g.n, .slice g.a g.xs.length g.ca, .slice g.b g.ys.length g.cb, .bool g.m, .slice g.c g.us.length g.cc, .slice g.d g.vs.length g.cd] 26)).alloc (.cells #[.bool h.n, .slice h.a h.xs.length h.ca, .slice h.b h.ys.length h.cb, .bool h.m, .slice h.c h.us.length h.cc, .slice h.d h.vs.length h.cd] 26)).alloc (.cells #[.bool false, .slice none 0 0, .slice none 0 0, .bool false, .slice none 0 0, .slice none 0 0] 26) = X := ⟨_, rfl⟩
  have HX := hid (gq_boxes w 26 26 26 #[.bool g.n, .slice g.a g.xs.length g.ca, .slice g.b g.ys.length g.cb, .bool g.m, .slice g.c g.us.length g.cc, .slice g.d g.vs.length g.cd] #[.bool h.n, .slice h.a h.xs.length h.ca, .slice h.b h.ys.length h.cb, .bool h.m, .slice h.c h.us.length h.cc, .slice h.d h.vs.length h.cd] #[.bool false, .slice none 0 0, .slice none 0 0, .bool false, .slice none 0 0, .slice none 0 0])
  rw [hX] at HX
  have HW0 := hid HX.out.2.2.2
  have Hg0 := hid HX.out.1
  have Hh0 := hid HX.out.2.1
  have Hres0 := hid HX.out.2.2.1
  clear HX
  have HSg : Hid (∀ V, Below w.heap.size w V → g.Sl4 V) := fun V hv => sg.later hv
  have HSh : Hid (∀ V, Below w.heap.size w V → h.Sl4 V) := fun V hv => sh.later hv
  have Lg := hid lg
  have Lh := hid lh
  clear sg sh lg lh
  have HBo := hid (fun V (hv : Below w.heap.size w V) => d4both_any g.n g.a g.ca g.xs g.b g.cb g.ys g.m g.c g.cc g.us g.d g.cd g.vs V (HSg.out V hv).1 (HSg.out V hv).2.1 (HSg.out V hv).2.2.1 (HSg.out V hv).2.2.2 Lg.out.1 Lg.out.2.1 Lg.out.2.2.1 Lg.out.2.2.2 h.n h.a h.ca h.xs h.b h.cb h.ys h.m h.c h.cc h.us h.d h.cd h.vs (HSh.out V hv).1 (HSh.out V hv).2.1 (HSh.out V hv).2.2.1 (HSh.out V hv).2.2.2 Lh.out.1 Lh.out.2.1 Lh.out.2.2.1 Lh.out.2.2.2)
  have ZZ : Hid (fstE (gchk g.n g.xs g.ys g.m g.us g.vs) (gchk h.n h.xs h.ys h.m h.us h.vs) = 0 → gchk g.n g.xs g.ys g.m g.us g.vs = 0 ∧ gchk h.n h.xs h.ys h.m h.us h.vs = 0) := fun h0 => fstE_ok h0
  generalize fstE (gchk g.n g.xs g.ys g.m g.us g.vs) (gchk h.n h.xs h.ys h.m h.us h.vs) = E at *
  go_enter Tryz.func11, Tryz.ntmps11
  have HD := hid (HBo.out X HW0.out)
  have cg0 : X.cell? ⟨w.heap.size, 0, none⟩ = some (.bool g.n) := Hg0.out.cell 0
  have cg1 : X.cell? ⟨w.heap.size, 1, none⟩ = some (.slice g.a g.xs.length g.ca) := Hg0.out.cell 1
  have cg2 : X.cell? ⟨w.heap.size, 2, none⟩ = some (.slice g.b g.ys.length g.cb) := Hg0.out.cell 2
  have cg3 : X.cell? ⟨w.heap.size, 3, none⟩ = some (.bool g.m) := Hg0.out.cell 3
  have cg4 : X.cell? ⟨w.heap.size, 4, none⟩ = some (.slice g.c g.us.length g.cc) := Hg0.out.cell 4
  have cg5 : X.cell? ⟨w.heap.size, 5, none⟩ = some (.slice g.d g.vs.length g.cd) := Hg0.out.cell 5
  have ch0 : X.cell? ⟨w.heap.size + 1, 0, none⟩ = some (.bool h.n) := Hh0.out.cell 0
  have ch1 : X.cell? ⟨w.heap.size + 1, 1, none⟩ = some (.slice h.a h.xs.length h.ca) := Hh0.out.cell 1
  have ch2 : X.cell? ⟨w.heap.size + 1, 2, none⟩ = some (.slice h.b h.ys.length h.cb) := Hh0.out.cell 2
  have ch3 : X.cell? ⟨w.heap.size + 1, 3, none⟩ = some (.bool h.m) := Hh0.out.cell 3
  have ch4 : X.cell? ⟨w.heap.size + 1, 4, none⟩ = some (.slice h.c h.us.length h.cc) := Hh0.out.cell 4
  have ch5 : X.cell? ⟨w.heap.size + 1, 5, none⟩ = some (.slice h.d h.vs.length h.cd) := Hh0.out.cell 5
  go_wp2_with fail
  clear hX
  refine Calls.mono HD.out ?_
  rintro e w1 ⟨rfl, hb⟩
  clear HD cg0 cg1 cg2 cg3 cg4 cg5 ch0 ch1 ch2 ch3 ch4 ch5
  clear HBo
  have HW2 := hid (bt HW0.out hb)
  have Hg2 := hid (Hg0.out.later hb Hg0.out.lt)
  have Hh2 := hid (Hh0.out.later hb Hh0.out.lt)
  have Hres2 := hid (Hres0.out.later hb Hres0.out.lt)
  clear HW0 Hg0 Hh0 Hres0
  clear hb
  rcases Decidable.em (¬ E = 0) with hc | hc
  · have HCX := hid hc
    have dd : (E != 0) = true := by simp [hc]
    have de : (E == 0) = false := by simp [hc]
    clear hc
    obtain ⟨C0, C1, C2, C3, C4, C5, qC0, qC1, qC2, qC3, qC4, qC5, ⟨rC0, rC1, rC2, rC3, rC4, rC5⟩, ⟨fC0, fC1, fC2, fC3, fC4, fC5⟩, HCC⟩ := rchain6 Hres2.out (by decide) (.bool false) (.slice none 0 0) (.slice none 0 0) (.bool false) (.slice none 0 0) (.slice none 0 0)
    go_wp2_with fail
    refine bodyPost_ret (gres_run (by rfl) HCC.out.1 _ (by rfl)) rfl ?_
    exact ⟨gqZ, E, rfl, gqZ_ow _ _, gq_bad HCX.out, HCC.out.2.2.2.1 _ _ (by omega) HW2.out⟩
  have hz : E = 0 := Decidable.not_not.1 hc
  subst hz
  clear hc
  have RR := hid (ZZ.out (by first | rfl | trivial))
  clear ZZ
  have HD := hid (dneg_q h w1 (HSh.out w1 HW2.out) Lh.out RR.out.2)
  have ch0 : w1.cell? ⟨w.heap.size + 1, 0, none⟩ = some (.bool h.n) := Hh2.out.cell 0
  have ch1 : w1.cell? ⟨w.heap.size + 1, 1, none⟩ = some (.slice h.a h.xs.length h.ca) := Hh2.out.cell 1
  have ch2 : w1.cell? ⟨w.heap.size + 1, 2, none⟩ = some (.slice h.b h.ys.length h.cb) := Hh2.out.cell 2
  have ch3 : w1.cell? ⟨w.heap.size + 1, 3, none⟩ = some (.bool h.m) := Hh2.out.cell 3
  have ch4 : w1.cell? ⟨w.heap.size + 1, 4, none⟩ = some (.slice h.c h.us.length h.cc) := Hh2.out.cell 4
  have ch5 : w1.cell? ⟨w.heap.size + 1, 5, none⟩ = some (.slice h.d h.vs.length h.cd) := Hh2.out.cell 5
  go_wp2_with fail
  refine Calls.mono HD.out ?_
  rintro e w3 ⟨c, code, rfl, sc, ic, hb⟩
  clear HD ch0 ch1 ch2 ch3 ch4 ch5
  have HW4 := hid (bt HW2.out hb)
  have Hg4 := hid (Hg2.out.later hb Hg2.out.lt)
  have Hh4 := hid (Hh2.out.later hb Hh2.out.lt)
  have Hres4 := hid (Hres2.out.later hb Hres2.out.lt)
  clear HW2 Hg2 Hh2 Hres2
  clear hb
  have HBc := hid (Below.refl w3.heap.size w3)
  have Lc : Hid c.Sh := ⟨(rchk_few ic.out.1.1).1, (rchk_few ic.out.1.1).2, (rchk_few ic.out.2.1).1, (rchk_few ic.out.2.1).2⟩
  obtain ⟨Yc, hYc⟩ : ∃ Y, w3.alloc (.cells #[.bool false, .slice none 0 0, .slice none 0 0, .bool false, .slice none 0 0, .slice none 0 0] 26) = Y := ⟨_, rfl⟩
  have NYc : Hid (Box Yc w3.heap.size 26 #[.bool false, .slice none 0 0, .slice none 0 0, .bool false, .slice none 0 0, .slice none 0 0]) := by rw [← hYc]; exact Box.made w3 _ _
  have BYc : Hid (Below w3.heap.size w3 Yc) := by rw [← hYc]; exact alloc_later _ _
  obtain ⟨Kc0, Kc1, Kc2, Kc3, Kc4, Kc5, qKc0, qKc1, qKc2, qKc3, qKc4, qKc5, ⟨rKc0, rKc1, rKc2, rKc3, rKc4, rKc5⟩, ⟨fKc0, fKc1, fKc2, fKc3, fKc4, fKc5⟩, Pc⟩ := rchain6 NYc.out (by decide) (.bool c.n) (.slice c.a c.xs.length c.ca) (.slice c.b c.ys.length c.cb) (.bool c.m) (.slice c.c c.us.length c.cc) (.slice c.d c.vs.length c.cd)
  have HW5 : Hid (Below w.heap.size w Kc5) := Pc.out.2.2.2.1 _ _ HW4.out.size (bt HW4.out BYc.out)
  have Hg5 := hid (Pc.out.2.1 _ _ _ (Nat.ne_of_lt Hg4.out.lt) (Hg4.out.later BYc.out Hg4.out.lt))
  have Hh5 := hid (Pc.out.2.1 _ _ _ (Nat.ne_of_lt Hh4.out.lt) (Hh4.out.later BYc.out Hh4.out.lt))
  have Hres5 := hid (Pc.out.2.1 _ _ _ (Nat.ne_of_lt Hres4.out.lt) (Hres4.out.later BYc.out Hres4.out.lt))
  replace HBc := hid (Pc.out.2.2.2.1 _ _ HBc.out.size (bt HBc.out BYc.out))
  have Hc5 := hid Pc.out.1
  clear HW4 Hg4 Hh4 Hres4 NYc BYc Pc
  have HD := hid (d4Add_q g c Kc5 (HSg.out Kc5 HW5.out) (sc.out.later HBc.out) Lg.out Lc.out)
  have cg0 : Kc5.cell? ⟨w.heap.size, 0, none⟩ = some (.bool g.n) := Hg5.out.cell 0
  have cg1 : Kc5.cell? ⟨w.heap.size, 1, none⟩ = some (.slice g.a g.xs.length g.ca) := Hg5.out.cell 1
  have cg2 : Kc5.cell? ⟨w.heap.size, 2, none⟩ = some (.slice g.b g.ys.length g.cb) := Hg5.out.cell 2
  have cg3 : Kc5.cell? ⟨w.heap.size, 3, none⟩ = some (.bool g.m) := Hg5.out.cell 3
  have cg4 : Kc5.cell? ⟨w.heap.size, 4, none⟩ = some (.slice g.c g.us.length g.cc) := Hg5.out.cell 4
  have cg5 : Kc5.cell? ⟨w.heap.size, 5, none⟩ = some (.slice g.d g.vs.length g.cd) := Hg5.out.cell 5
  have cc0 : Kc5.cell? ⟨w3.heap.size, 0, none⟩ = some (.bool c.n) := Hc5.out.cell 0
  have cc1 : Kc5.cell? ⟨w3.heap.size, 1, none⟩ = some (.slice c.a c.xs.length c.ca) := Hc5.out.cell 1
  have cc2 : Kc5.cell? ⟨w3.heap.size, 2, none⟩ = some (.slice c.b c.ys.length c.cb) := Hc5.out.cell 2
  have cc3 : Kc5.cell? ⟨w3.heap.size, 3, none⟩ = some (.bool c.m) := Hc5.out.cell 3
  have cc4 : Kc5.cell? ⟨w3.heap.size, 4, none⟩ = some (.slice c.c c.us.length c.cc) := Hc5.out.cell 4
  have cc5 : Kc5.cell? ⟨w3.heap.size, 5, none⟩ = some (.slice c.d c.vs.length c.cd) := Hc5.out.cell 5
  go_wp2_with fail
  clear qKc0 qKc1 qKc2 qKc3 qKc4 qKc5 rKc0 rKc1 rKc2 rKc3 rKc4 rKc5 fKc0 fKc1 fKc2 fKc3 fKc4 fKc5 hYc
  refine Calls.mono HD.out ?_
  rintro e w6 ⟨r, cd_, rfl, ok, ik, hb⟩
  clear HD cg0 cg1 cg2 cg3 cg4 cg5 cc0 cc1 cc2 cc3 cc4 cc5
  have It : Hid (GTells 0 (rlong (rq g.n g.xs g.ys - rq h.n h.xs h.ys) ∨ rlong (rq g.m g.us g.vs - rq h.m h.us h.vs)) (rq g.n g.xs g.ys - rq h.n h.xs h.ys) (rq g.m g.us g.vs - rq h.m h.us h.vs) r.n r.xs r.ys r.m r.us r.vs cd_) := by
    have t := ik.out
    rw [RR.out.1, gchk_of ic.out.1.1 ic.out.2.1, fstE_zero, ic.out.1.2, ic.out.2.2, ← Rat.sub_eq_add_neg, ← Rat.sub_eq_add_neg] at t
    exact t
  have Or := hid (ok.out.base HW5.out.size)
  clear ok ik
  have HW7 := hid (bt HW5.out hb)
  have Hg7 := hid (Hg5.out.later hb Hg5.out.lt)
  have Hh7 := hid (Hh5.out.later hb Hh5.out.lt)
  have Hres7 := hid (Hres5.out.later hb Hres5.out.lt)
  have Hc7 := hid (Hc5.out.later hb Hc5.out.lt)
  replace HBc := hid (bt HBc.out hb)
  clear HW5 Hg5 Hh5 Hres5 Hc5
  clear hb
  obtain ⟨C0, C1, C2, C3, C4, C5, qC0, qC1, qC2, qC3, qC4, qC5, ⟨rC0, rC1, rC2, rC3, rC4, rC5⟩, ⟨fC0, fC1, fC2, fC3, fC4, fC5⟩, HCC⟩ := rchain6 Hres7.out (by decide) (.bool r.n) (.slice r.a r.xs.length r.ca) (.slice r.b r.ys.length r.cb) (.bool r.m) (.slice r.c r.us.length r.cc) (.slice r.d r.vs.length r.cd)
  go_wp2_with fail
  have P := HCC.out.2.2.1
  refine bodyPost_ret (gres_run (by rfl) HCC.out.1 _ (by rfl)) rfl ?_
  exact ⟨r, cd_, rfl, ⟨P _ _ _ _ Or.out.1, P _ _ _ _ Or.out.2.1, P _ _ _ _ Or.out.2.2.1, P _ _ _ _ Or.out.2.2.2⟩, It, HCC.out.2.2.2.1 _ _ (by omega) HW7.out⟩
set_option maxHeartbeats 1600000 in
theorem d4Norm_any (n : Bool) (a : Option Addr) (ca : Nat) (xs : List Int) (b : Option Addr) (cb : Nat) (ys : List Int) (m : Bool) (c : Option Addr) (cc : Nat) (us : List Int) (d : Option Addr) (cd : Nat) (vs : List Int) (w : World) (sx : Sl w (.slice a xs.length ca) xs) (sy : Sl w (.slice b ys.length cb) ys) (su : Sl w (.slice c us.length cc) us) (sv : Sl w (.slice d vs.length cd) vs) (lx : xs.length ≤ 281474976710656) (ly : ys.length ≤ 281474976710656) (lu : us.length ≤ 281474976710656) (lv : vs.length ≤ 281474976710656) :
    Calls Tryz.prog 38 #[.agg #[.bool n, .slice a xs.length ca, .slice b ys.length cb, .bool m, .slice c us.length cc, .slice d vs.length cd]] w (DRT w (PrT false (gchk n xs ys m us vs) (rboth n xs ys n xs ys) (rq n xs ys * rq n xs ys) (rboth m us vs m us vs) (rq m us vs * rq m us vs))) := by
  obtain ⟨X, hX⟩ : ∃ X, (w.alloc (.cells #[.bool n, .slice a xs.length ca, .slice b ys.length cb, .bool m, .slice c us.length cc, .slice d vs.length cd] 26)).alloc (.cells #[.bool false, .slice none 0 0, .slice none 0 0] 24) = X := ⟨_, rfl⟩
  have b1 : Below w.heap.size w X := by rw [← hX]; exact bt (alloc_later _ _) (alloc_later _ _)
  have HB0 : Hid (Box X (w.heap.size) 26 #[.bool n, .slice a xs.length ca, .slice b ys.length cb, .bool m, .slice c us.length cc, .slice d vs.length cd]) := by
    have h := Box.made w 26 #[.bool n, .slice a xs.length ca, .slice b ys.length cb, .bool m, .slice c us.length cc, .slice d vs.length cd]
    rw [← hX]
    exact h.later (alloc_later _ _) h.lt
  have HB1 : Hid (Box X (w.heap.size + 1) 24 #[.bool false, .slice none 0 0, .slice none 0 0]) := by
    have h := Box.made (w.alloc (.cells #[.bool n, .slice a xs.length ca, .slice b ys.length cb, .bool m, .slice c us.length cc, .slice d vs.length cd] 26)) 24 #[.bool false, .slice none 0 0, .slice none 0 0]
    rw [show (w.alloc (.cells #[.bool n, .slice a xs.length ca, .slice b ys.length cb, .bool m, .slice c us.length cc, .slice d vs.length cd] 26)).heap.size = w.heap.size + 1 by simp] at h
    rw [hX] at h
    exact h
  have HC := hid (kpcheck_any n a ca xs b cb ys m c cc us d cd vs X (sx.later b1) (sy.later b1) (su.later b1) (sv.later b1) lx ly lu lv)
  have HP := hid (fun V (hv : Below X.heap.size X V) => d4pair_more n a ca xs b cb ys n a ca xs b cb ys m c cc us d cd vs m c cc us d cd vs V ⟨(sx.later b1).later hv, (sy.later b1).later hv⟩ ⟨lx, ly⟩ ⟨(sx.later b1).later hv, (sy.later b1).later hv⟩ ⟨lx, ly⟩ ⟨(su.later b1).later hv, (sv.later b1).later hv⟩ ⟨lu, lv⟩ ⟨(su.later b1).later hv, (sv.later b1).later hv⟩ ⟨lu, lv⟩)
  have HB := hid b1
  have hwX : w.heap.size + 1 < X.heap.size := HB1.out.lt
  clear sx sy su sv b1 lx ly lu lv
  obtain ⟨k0, k1, k2, k3, k4, k5⟩ := Kl6.of HB0.out
  generalize rboth n xs ys n xs ys = E1 at *
  generalize rboth m us vs m us vs = E2 at *
  generalize rq n xs ys * rq n xs ys = Q1 at *
  generalize rq m us vs * rq m us vs = Q2 at *
  generalize gchk n xs ys m us vs = r at *
  by_cases hz : r = 0
  · subst hz
    go_enter Tryz.func38, Tryz.ntmps38
    go_wp2_with fail
    clear hX
    refine Calls.mono HC.out ?_
    rintro x w1 ⟨rfl, hb1⟩
    have HW1 := hid hb1
    clear hb1 HC k0 k1 k2 k3 k4 k5
    have HD := hid (HP.out w1 HW1.out)
    clear HP
    obtain ⟨k0, k1, k2, k3, k4, k5⟩ := Kl6.of (HB0.out.later HW1.out HB0.out.lt)
    go_wp2_with fail
    refine Calls.mono HD.out ?_
    rintro x w3 ⟨m3, av3, cv3, u3, au3, cu3, z3, c3, rfl, ho, hwd, ht, hb3⟩
    have HV3 := hid ho
    have HT3 := hid (And.intro hwd ht)
    have HW3 := hid (bt HW1.out hb3)
    have hXQ : X.heap.size ≤ w1.heap.size := HW1.out.size
    clear ho hwd ht hb3 HD k0 k1 k2 k3 k4 k5
    have HRQ := hid (HB1.out.later HW3.out HB1.out.lt)
    have f0 := HRQ.out.free 0
    have f1 := HRQ.out.free 1
    have f2 := HRQ.out.free 2
    have r0_ : w3.cell? ⟨w.heap.size + 1, 0, none⟩ = some (.bool false) := HRQ.out.cell 0
    have r1_ : w3.cell? ⟨w.heap.size + 1, 1, none⟩ = some (.slice none 0 0) := HRQ.out.cell 1
    have r2_ : w3.cell? ⟨w.heap.size + 1, 2, none⟩ = some (.slice none 0 0) := HRQ.out.cell 2
    go_wp2_with fail
    have B1 := box_put3 HRQ.out (.bool m3) (.slice av3 u3.length cv3) (.slice au3 z3.length cu3)
    have G1 := below_put3 (bt HB.out HW3.out) (w.heap.size + 1) (by omega) (.bool m3) (.slice av3 u3.length cv3) (.slice au3 z3.length cu3)
    clear r0_ r1_ r2_ f0 f1 f2
    refine bodyPost_ret (gresr_run (by rfl) B1 _ rfl) rfl ?_
    have P1 := own_put3' HV3.out.1 (w.heap.size + 1) (fun g hg => by have := (HV3.out.1.lt g hg).1; omega) (.bool m3) (.slice av3 u3.length cv3) (.slice au3 z3.length cu3)
    have P2 := own_put3' HV3.out.2 (w.heap.size + 1) (fun g hg => by have := (HV3.out.2.lt g hg).1; omega) (.bool m3) (.slice av3 u3.length cv3) (.slice au3 z3.length cu3)
    exact ⟨m3, av3, cv3, u3, au3, cu3, z3, c3, rfl, ⟨owns_base P1 (by omega), owns_base P2 (by omega)⟩, HT3.out.1, HT3.out.2, G1⟩
  · have hz' : (r != 0) = true := by simpa using hz
    have HZ := hid hz
    clear hz HP
    go_enter Tryz.func38, Tryz.ntmps38
    go_wp2_with fail
    clear hX
    refine Calls.mono HC.out ?_
    rintro x w1 ⟨rfl, hb1⟩
    have HW1 := hid hb1
    clear hb1 HC k0 k1 k2 k3 k4 k5
    have HRQ := hid (HB1.out.later HW1.out HB1.out.lt)
    have f0 := HRQ.out.free 0
    have f1 := HRQ.out.free 1
    have f2 := HRQ.out.free 2
    have r0_ : w1.cell? ⟨w.heap.size + 1, 0, none⟩ = some (.bool false) := HRQ.out.cell 0
    have r1_ : w1.cell? ⟨w.heap.size + 1, 1, none⟩ = some (.slice none 0 0) := HRQ.out.cell 1
    have r2_ : w1.cell? ⟨w.heap.size + 1, 2, none⟩ = some (.slice none 0 0) := HRQ.out.cell 2
    go_wp2_with fail
    have B1 := box_put3 HRQ.out (.bool false) (.slice none 0 0) (.slice none 0 0)
    have G1 := below_put3 (bt HB.out HW1.out) (w.heap.size + 1) (by omega) (.bool false) (.slice none 0 0) (.slice none 0 0)
    clear r0_ r1_ r2_ f0 f1 f2
    refine bodyPost_ret (gresr_run (by rfl) B1 _ rfl) rfl ?_
    exact ⟨false, none, 0, [], none, 0, [], r, rfl, ⟨World.ownsRow_nil _ _ _ _, World.ownsRow_nil _ _ _ _⟩, ⟨Wd.nil, Wd.nil⟩, PrT.err HZ.out, G1⟩
theorem gsq_nonneg (x : Rat) : 0 ≤ x * x := by
  by_cases h : 0 ≤ x
  · exact Rat.mul_nonneg h h
  · have h' : 0 ≤ -x := by grind
    have := Rat.mul_nonneg h' h'
    grind
theorem gsq_ne {c d : Rat} (h : ¬ (c = 0 ∧ d = 0)) : c * c + d * d ≠ 0 := by
  intro e
  have h1 := gsq_nonneg c
  have h2 := gsq_nonneg d
  have e1 : c * c = 0 := by grind
  have e2 : d * d = 0 := by grind
  exact h ⟨(Rat.mul_eq_zero.1 e1).elim id id, (Rat.mul_eq_zero.1 e2).elim id id⟩
theorem grq_nil (n : Bool) (ys : List Int) : rq n [] ys = 0 := by
  unfold rq
  have e : wval n [] = 0 := by cases n <;> simp [wval, val_nil]
  rw [e, Rat.zero_divInt]
theorem grq_ne {n : Bool} {xs ys : List Int} (wx : Wd xs) (wy : Wd ys) (h : rchk n xs ys = 0) (h0 : xs ≠ []) : rq n xs ys ≠ 0 := by
  obtain ⟨_, _, tx, ty, y0, _, _⟩ := rchk_ok h
  intro e
  unfold rq at e
  have hy := val_pos' wy ty y0
  have hx := val_pos' wx tx (by cases xs with | nil => exact absurd rfl h0 | cons a b => simp)
  rw [← Rat.zero_divInt 1] at e
  have e := (Rat.divInt_eq_divInt_iff (by omega) (by decide)).1 e
  cases n <;> simp [wval] at e <;> omega
theorem g3_bad {op : Rat → Rat → Rat} {E e1 e2 : Int} {q1 q2 : Rat} {n : Bool} {x y : List Int} {c : Int} (h : G3 op E e1 e2 q1 q2 n x y c) (hE : E ≠ 0) (L : Prop) (q : Rat) : GT3 E L q n x y c := by
  obtain ⟨n1, x1, y1, c1, n2, x2, y2, c2, t1, t2, t3⟩ := h
  rw [fstE_err _ hE] at t1
  have h1 := (t1.bad hE).2.2.2
  subst h1
  rw [fstE_err _ hE] at t2
  have h2 := (t2.bad hE).2.2.2
  subst h2
  rw [fstE_err _ hE] at t3
  exact ⟨t3.wx, t3.wy, fun _ => t3.bad hE, fun h => absurd h hE, fun h => absurd h hE⟩
theorem rt_bad {E e : Int} {q : Rat} {n : Bool} {x y : List Int} {c : Int} (h : RTells (fstE E e) q n x y c) (hE : E ≠ 0) (L : Prop) (q' : Rat) : GT3 E L q' n x y c := by
  rw [fstE_err _ hE] at h
  exact ⟨h.wx, h.wy, fun _ => h.bad hE, fun h => absurd h hE, fun h => absurd h hE⟩
theorem gqErr_good {n m : Bool} {xs ys us vs : List Int} (h : rchk n xs ys = 0) (g : rchk m us vs = 0) (h0 : rq m us vs ≠ 0) : qErr n xs ys m us vs = 0 := by
  have h1 : us ≠ [] := fun e => h0 (by rw [e]; exact grq_nil _ _)
  unfold qErr
  rw [if_pos (rboth_good h g), if_neg (fun e => h1 (List.length_eq_zero_iff.1 e))]
def qlong (a b c d : Rat) : Prop := (((((rlong (c * c) ∨ rlong (d * d)) ∨ rlong (c * c + d * d)) ∨ rlong (-d)) ∨ ((rlong (a * c) ∨ rlong (b * -d)) ∨ rlong (a * c - b * -d))) ∨ ((rlong (a * -d) ∨ rlong (b * c)) ∨ rlong (a * -d + b * c))) ∨ rlong ((a * c - b * -d) / (c * c + d * d))
theorem gquo_tells {E : Int} {n m n2 m2 : Bool} {xs ys us vs xs2 ys2 us2 vs2 : List Int} {nN nO n3 n6 n9 nA : Bool} {xN yN xO yO x3 y3 x6 y6 x9 y9 xA yA : List Int} {cN cO c3 c6 c9 cA : Int}
    (z : E = 0 → (rchk n xs ys = 0 ∧ rchk m us vs = 0) ∧ (rchk n2 xs2 ys2 = 0 ∧ rchk m2 us2 vs2 = 0) ∧ ¬ (rq n2 xs2 ys2 = 0 ∧ rq m2 us2 vs2 = 0))
    (hN : G3 (· + ·) E (rboth n2 xs2 ys2 n2 xs2 ys2) (rboth m2 us2 vs2 m2 us2 vs2) (rq n2 xs2 ys2 * rq n2 xs2 ys2) (rq m2 us2 vs2 * rq m2 us2 vs2) nN xN yN cN)
    (tO : RTells (fstE cN (rchk m2 us2 vs2)) (-(rq m2 us2 vs2)) nO xO yO cO)
    (t3 : G3 (· - ·) cO (rboth n xs ys n2 xs2 ys2) (rboth m us vs nO xO yO) (rq n xs ys * rq n2 xs2 ys2) (rq m us vs * rq nO xO yO) n3 x3 y3 c3)
    (t6 : G3 (· + ·) c3 (rboth n xs ys nO xO yO) (rboth m us vs n2 xs2 ys2) (rq n xs ys * rq nO xO yO) (rq m us vs * rq n2 xs2 ys2) n6 x6 y6 c6)
    (t9 : RTells (fstE c6 (qErr n3 x3 y3 nN xN yN)) (rq n3 x3 y3 / rq nN xN yN) n9 x9 y9 c9)
    (tA : RTells (fstE c9 (qErr n6 x6 y6 nN xN yN)) (rq n6 x6 y6 / rq nN xN yN) nA xA yA cA) :
    (cA = 0 → GTells E (qlong (rq n xs ys) (rq m us vs) (rq n2 xs2 ys2) (rq m2 us2 vs2) ∨ rlong ((rq n xs ys * -(rq m2 us2 vs2) + rq m us vs * rq n2 xs2 ys2) / (rq n2 xs2 ys2 * rq n2 xs2 ys2 + rq m2 us2 vs2 * rq m2 us2 vs2))) ((rq n xs ys * rq n2 xs2 ys2 - rq m us vs * -(rq m2 us2 vs2)) / (rq n2 xs2 ys2 * rq n2 xs2 ys2 + rq m2 us2 vs2 * rq m2 us2 vs2)) ((rq n xs ys * -(rq m2 us2 vs2) + rq m us vs * rq n2 xs2 ys2) / (rq n2 xs2 ys2 * rq n2 xs2 ys2 + rq m2 us2 vs2 * rq m2 us2 vs2)) n9 x9 y9 nA xA yA cA) ∧
    (cA ≠ 0 → GTells E (qlong (rq n xs ys) (rq m us vs) (rq n2 xs2 ys2) (rq m2 us2 vs2) ∨ rlong ((rq n xs ys * -(rq m2 us2 vs2) + rq m us vs * rq n2 xs2 ys2) / (rq n2 xs2 ys2 * rq n2 xs2 ys2 + rq m2 us2 vs2 * rq m2 us2 vs2))) ((rq n xs ys * rq n2 xs2 ys2 - rq m us vs * -(rq m2 us2 vs2)) / (rq n2 xs2 ys2 * rq n2 xs2 ys2 + rq m2 us2 vs2 * rq m2 us2 vs2)) ((rq n xs ys * -(rq m2 us2 vs2) + rq m us vs * rq n2 xs2 ys2) / (rq n2 xs2 ys2 * rq n2 xs2 ys2 + rq m2 us2 vs2 * rq m2 us2 vs2)) false [] [] false [] [] cA) := by
  have hN' := g3_tells hN (fun h => rboth0 (z h).2.1.1 (z h).2.1.1) (fun h => rboth0 (z h).2.1.2 (z h).2.1.2)
  have hO : GT3 cN (rlong (-(rq m2 us2 vs2))) (-(rq m2 us2 vs2)) nO xO yO cO := GT3.of tO (fun h => by subst h; exact (z hN'.ok.1).2.1.2)
  have hNO := hN'.then hO
  have h3 : GT3 cO ((rlong (rq n xs ys * rq n2 xs2 ys2) ∨ rlong (rq m us vs * -(rq m2 us2 vs2))) ∨ rlong (rq n xs ys * rq n2 xs2 ys2 - rq m us vs * -(rq m2 us2 vs2))) (rq n xs ys * rq n2 xs2 ys2 - rq m us vs * -(rq m2 us2 vs2)) n3 x3 y3 c3 := by
    by_cases hc : cO = 0
    · subst hc
      obtain ⟨hE, hl⟩ := hNO.ok
      have g := hNO.good hE hl
      rw [g.2.2] at t3
      exact g3_tells t3 (fun _ => rboth0 (z hE).1.1 (z hE).2.1.1) (fun _ => rboth0 (z hE).1.2 g.2.1)
    · exact g3_bad t3 hc _ _
  have hN3 := hNO.then h3
  have h6 : GT3 c3 ((rlong (rq n xs ys * -(rq m2 us2 vs2)) ∨ rlong (rq m us vs * rq n2 xs2 ys2)) ∨ rlong (rq n xs ys * -(rq m2 us2 vs2) + rq m us vs * rq n2 xs2 ys2)) (rq n xs ys * -(rq m2 us2 vs2) + rq m us vs * rq n2 xs2 ys2) n6 x6 y6 c6 := by
    by_cases hc : c3 = 0
    · subst hc
      obtain ⟨hE, hl⟩ := hN3.ok
      have g := hNO.good hE (fun h => hl (.inl h))
      rw [g.2.2] at t6
      exact g3_tells t6 (fun _ => rboth0 (z hE).1.1 g.2.1) (fun _ => rboth0 (z hE).1.2 (z hE).2.1.1)
    · exact g3_bad t6 hc _ _
  have hN6 := hN3.then h6
  have h9 : GT3 c6 (rlong ((rq n xs ys * rq n2 xs2 ys2 - rq m us vs * -(rq m2 us2 vs2)) / (rq n2 xs2 ys2 * rq n2 xs2 ys2 + rq m2 us2 vs2 * rq m2 us2 vs2))) ((rq n xs ys * rq n2 xs2 ys2 - rq m us vs * -(rq m2 us2 vs2)) / (rq n2 xs2 ys2 * rq n2 xs2 ys2 + rq m2 us2 vs2 * rq m2 us2 vs2)) n9 x9 y9 c9 := by
    by_cases hc : c6 = 0
    · subst hc
      obtain ⟨hE, hl⟩ := hN6.ok
      have g := hN3.good hE (fun h => hl (.inl h))
      have gN := hN'.good hE (fun h => hl (.inl (.inl (.inl h))))
      have hne : rq nN xN yN ≠ 0 := by rw [gN.2.2]; exact gsq_ne (z hE).2.2
      have e := gqErr_good g.2.1 gN.2.1 hne
      rw [e, g.2.2, gN.2.2] at t9
      exact GT3.of t9 (fun _ => rfl)
    · exact rt_bad t9 hc _ _
  have hN9 := hN6.then h9
  have hA : GT3 c9 (rlong ((rq n xs ys * -(rq m2 us2 vs2) + rq m us vs * rq n2 xs2 ys2) / (rq n2 xs2 ys2 * rq n2 xs2 ys2 + rq m2 us2 vs2 * rq m2 us2 vs2))) ((rq n xs ys * -(rq m2 us2 vs2) + rq m us vs * rq n2 xs2 ys2) / (rq n2 xs2 ys2 * rq n2 xs2 ys2 + rq m2 us2 vs2 * rq m2 us2 vs2)) nA xA yA cA := by
    by_cases hc : c9 = 0
    · subst hc
      obtain ⟨hE, hl⟩ := hN9.ok
      have g := hN6.good hE (fun h => hl (.inl h))
      have gN := hN'.good hE (fun h => hl (.inl (.inl (.inl (.inl h)))))
      have hne : rq nN xN yN ≠ 0 := by rw [gN.2.2]; exact gsq_ne (z hE).2.2
      have e := gqErr_good g.2.1 gN.2.1 hne
      rw [e, g.2.2, gN.2.2] at tA
      exact GT3.of tA (fun _ => rfl)
    · exact rt_bad tA hc _ _
  exact gtwo' hN9 hA
theorem g6_put {g : G6} {W A : World} {base : Nat} (h : g.Ow W base) (P : ∀ base v n xs, W.ownsRow base 63 1 v n xs → A.ownsRow base 63 1 v n xs) : g.Ow A base := ⟨P _ _ _ _ h.1, P _ _ _ _ h.2.1, P _ _ _ _ h.2.2.1, P _ _ _ _ h.2.2.2⟩
theorem gt_mid {E : Int} {L1 L2 : Prop} {p1 p2 q1 q2 : Rat} {n m : Bool} {xs ys us vs : List Int} {c : Int} (hE : E = 0) (h : GTells 0 L1 p1 p2 n xs ys m us vs c) (hc : c ≠ 0) (hl : L1 → L2) : GTells E L2 q1 q2 gqZ.n gqZ.xs gqZ.ys gqZ.m gqZ.us gqZ.vs c := by
  have l : L1 := by
    by_cases l : L1
    · exact l
    · exact absurd (h.good rfl l).1 hc
  exact ⟨⟨Wd.nil, Wd.nil, Wd.nil, Wd.nil⟩, fun e => absurd hE e, fun _ _ => ⟨⟨rfl, rfl, rfl, rfl, rfl, rfl⟩, (h.long rfl l).2⟩, fun _ k => absurd (hl l) k⟩
theorem gt_not {L : Prop} {q1 q2 : Rat} {n m : Bool} {xs ys us vs : List Int} (h : GTells 0 L q1 q2 n xs ys m us vs 0) : ¬ L := fun l => absurd (h.long rfl l).2 (by decide)
theorem gq_quo {N R M1 M2 Q1 Q2 : Prop} (hN : ¬ N) (hR : ¬ R) (hM : ¬ (M1 ∨ M2)) : (Q1 ∨ Q2) ↔ (((((N ∨ R) ∨ M1) ∨ M2) ∨ Q1) ∨ Q2) := by
  constructor
  · rintro (h | h)
    · exact .inl (.inr h)
    · exact .inr h
  · rintro (((((h | h) | h) | h) | h) | h)
    · exact absurd h hN
    · exact absurd h hR
    · exact absurd (.inl h) hM
    · exact absurd (.inr h) hM
    · exact .inl h
    · exact .inr h
theorem qerr_zero {n m : Bool} {xs ys us vs : List Int} (a : rchk n xs ys = 0) (b : rchk m us vs = 0) (h : rq m us vs ≠ 0) : qErr n xs ys m us vs = 0 := by
  unfold qErr
  rw [rboth_good a b, if_pos rfl]
  rcases Nat.eq_zero_or_pos us.length with q | q
  · exfalso
    apply h
    have e := List.length_eq_zero_iff.1 q
    have e0 : val [] = 0 := rfl
    unfold rq wval
    rw [e, e0]
    cases m <;> simp
  · rw [if_neg (by omega)]
theorem gq_nonzero {h : G6} (w : Wd h.xs ∧ Wd h.ys ∧ Wd h.us ∧ Wd h.vs) (h0 : gchk h.n h.xs h.ys h.m h.us h.vs = 0) (hz : ¬ (h.xs.length = 0 ∧ h.us.length = 0)) : rq h.n h.xs h.ys * rq h.n h.xs h.ys + rq h.m h.us h.vs * rq h.m h.us h.vs ≠ 0 := by
  refine gsq_ne ?_
  rintro ⟨e1, e2⟩
  refine hz ⟨?_, ?_⟩
  · rcases Nat.eq_zero_or_pos h.xs.length with q | q
    · exact q
    · exact absurd e1 (grq_ne w.1 w.2.1 (gchk_ok h0).1 (fun e => by rw [e] at q; exact absurd q (by decide)))
  · rcases Nat.eq_zero_or_pos h.us.length with q | q
    · exact q
    · exact absurd e2 (grq_ne w.2.2.1 w.2.2.2 (gchk_ok h0).2 (fun e => by rw [e] at q; exact absurd q (by decide)))
set_option maxHeartbeats 6400000 in
theorem d4Quo_q (g h : G6) (w : World) (sg : g.Sl4 w) (sh : h.Sl4 w) (lg : g.Sh) (lh : h.Sh) :
    Calls Tryz.prog 15 #[.agg #[.bool g.n, .slice g.a g.xs.length g.ca, .slice g.b g.ys.length g.cb, .bool g.m, .slice g.c g.us.length g.cc, .slice g.d g.vs.length g.cd], .agg #[.bool h.n, .slice h.a h.xs.length h.ca, .slice h.b h.ys.length h.cb, .bool h.m, .slice h.c h.us.length h.cc, .slice h.d h.vs.length h.cd]] w (DGq w (fstE (fstE (gchk g.n g.xs g.ys g.m g.us g.vs) (gchk h.n h.xs h.ys h.m h.us h.vs)) (if h.xs.length = 0 ∧ h.us.length = 0 then 7 else 0)) (qlong (rq g.n g.xs g.ys) (rq g.m g.us g.vs) (rq h.n h.xs h.ys) (rq h.m h.us h.vs) ∨ rlong ((rq g.n g.xs g.ys * -(rq h.m h.us h.vs) + rq g.m g.us g.vs * rq h.n h.xs h.ys) / (rq h.n h.xs h.ys * rq h.n h.xs h.ys + rq h.m h.us h.vs * rq h.m h.us h.vs))) ((rq g.n g.xs g.ys * rq h.n h.xs h.ys - rq g.m g.us g.vs * -(rq h.m h.us h.vs)) / (rq h.n h.xs h.ys * rq h.n h.xs h.ys + rq h.m h.us h.vs * rq h.m h.us h.vs)) ((rq g.n g.xs g.ys * -(rq h.m h.us h.vs) + rq g.m g.us g.vs * rq h.n h.xs h.ys) / (rq h.n h.xs h.ys * rq h.n h.xs h.ys + rq h.m h.us h.vs * rq h.m h.us h.vs))) := by
  have HWh := hid (And.intro sh.1.wd (And.intro sh.2.1.wd (And.intro sh.2.2.1.wd sh.2.2.2.wd)))
  obtain ⟨X, hX⟩ : ∃ X, ((w.alloc (.cells #[.bool g.n, .slice g.a g.xs.length g.ca, .slice g.b g.ys.length g.cb, .bool g.m, .slice g.c g.us.length g.cc, .slice g.d g.vs.length g.cd] 26)).alloc (.cells #[.bool h.n, .slice h.a h.xs.length h.ca, .slice h.b h.ys.length h.cb, .bool h.m, .slice h.c h.us.length h.cc, .slice h.d h.vs.length h.cd] 26)).alloc (.cells #[.bool false, .slice none 0 0, .slice none 0 0, .bool false, .slice none 0 0, .slice none 0 0] 26) = X := ⟨_, rfl⟩
  have HX := hid (gq_boxes w 26 26 26 #[.bool g.n, .slice g.a g.xs.length g.ca, .slice g.b g.ys.length g.cb, .bool g.m, .slice g.c g.us.length g.cc, .slice g.d g.vs.length g.cd] #[.bool h.n, .slice h.a h.xs.length h.ca, .slice h.b h.ys.length h.cb, .bool h.m, .slice h.c h.us.length h.cc, .slice h.d h.vs.length h.cd] #[.bool false, .slice none 0 0, .slice none 0 0, .bool false, .slice none 0 0, .slice none 0 0])
  rw [hX] at HX
  have HW0 := hid HX.out.2.2.2
  have Hg0 := hid HX.out.1
  have Hh0 := hid HX.out.2.1
  have Hres0 := hid HX.out.2.2.1
  clear HX
  have HSg : Hid (∀ V, Below w.heap.size w V → g.Sl4 V) := fun V hv => sg.later hv
  have HSh : Hid (∀ V, Below w.heap.size w V → h.Sl4 V) := fun V hv => sh.later hv
  have Lg := hid lg
  have Lh := hid lh
  clear sg sh lg lh
  have HBo := hid (fun V (hv : Below w.heap.size w V) => d4both_any g.n g.a g.ca g.xs g.b g.cb g.ys g.m g.c g.cc g.us g.d g.cd g.vs V (HSg.out V hv).1 (HSg.out V hv).2.1 (HSg.out V hv).2.2.1 (HSg.out V hv).2.2.2 Lg.out.1 Lg.out.2.1 Lg.out.2.2.1 Lg.out.2.2.2 h.n h.a h.ca h.xs h.b h.cb h.ys h.m h.c h.cc h.us h.d h.cd h.vs (HSh.out V hv).1 (HSh.out V hv).2.1 (HSh.out V hv).2.2.1 (HSh.out V hv).2.2.2 Lh.out.1 Lh.out.2.1 Lh.out.2.2.1 Lh.out.2.2.2)
  have ZZ : Hid (fstE (gchk g.n g.xs g.ys g.m g.us g.vs) (gchk h.n h.xs h.ys h.m h.us h.vs) = 0 → gchk g.n g.xs g.ys g.m g.us g.vs = 0 ∧ gchk h.n h.xs h.ys h.m h.us h.vs = 0) := fun h0 => fstE_ok h0
  have A1 : Hid (fstE (gchk g.n g.xs g.ys g.m g.us g.vs) (gchk h.n h.xs h.ys h.m h.us h.vs) ≠ 0 → fstE (fstE (gchk g.n g.xs g.ys g.m g.us g.vs) (gchk h.n h.xs h.ys h.m h.us h.vs)) (if h.xs.length = 0 ∧ h.us.length = 0 then 7 else 0) = fstE (gchk g.n g.xs g.ys g.m g.us g.vs) (gchk h.n h.xs h.ys h.m h.us h.vs)) := fun h => fstE_err _ h
  have A2 : Hid (fstE (gchk g.n g.xs g.ys g.m g.us g.vs) (gchk h.n h.xs h.ys h.m h.us h.vs) = 0 → (h.xs.length = 0 ∧ h.us.length = 0) → fstE (fstE (gchk g.n g.xs g.ys g.m g.us g.vs) (gchk h.n h.xs h.ys h.m h.us h.vs)) (if h.xs.length = 0 ∧ h.us.length = 0 then 7 else 0) = 7) := fun h0 hz => by rw [h0, fstE_zero, if_pos hz]
  have A3 : Hid (fstE (gchk g.n g.xs g.ys g.m g.us g.vs) (gchk h.n h.xs h.ys h.m h.us h.vs) = 0 → ¬ (h.xs.length = 0 ∧ h.us.length = 0) → fstE (fstE (gchk g.n g.xs g.ys g.m g.us g.vs) (gchk h.n h.xs h.ys h.m h.us h.vs)) (if h.xs.length = 0 ∧ h.us.length = 0 then 7 else 0) = 0) := fun h0 hz => by rw [h0, fstE_zero, if_neg hz]
  generalize fstE (fstE (gchk g.n g.xs g.ys g.m g.us g.vs) (gchk h.n h.xs h.ys h.m h.us h.vs)) (if h.xs.length = 0 ∧ h.us.length = 0 then 7 else 0) = FE at *
  generalize fstE (gchk g.n g.xs g.ys g.m g.us g.vs) (gchk h.n h.xs h.ys h.m h.us h.vs) = E at *
  go_enter Tryz.func15, Tryz.ntmps15
  have HD := hid (HBo.out X HW0.out)
  have cg0 : X.cell? ⟨w.heap.size, 0, none⟩ = some (.bool g.n) := Hg0.out.cell 0
  have cg1 : X.cell? ⟨w.heap.size, 1, none⟩ = some (.slice g.a g.xs.length g.ca) := Hg0.out.cell 1
  have cg2 : X.cell? ⟨w.heap.size, 2, none⟩ = some (.slice g.b g.ys.length g.cb) := Hg0.out.cell 2
  have cg3 : X.cell? ⟨w.heap.size, 3, none⟩ = some (.bool g.m) := Hg0.out.cell 3
  have cg4 : X.cell? ⟨w.heap.size, 4, none⟩ = some (.slice g.c g.us.length g.cc) := Hg0.out.cell 4
  have cg5 : X.cell? ⟨w.heap.size, 5, none⟩ = some (.slice g.d g.vs.length g.cd) := Hg0.out.cell 5
  have ch0 : X.cell? ⟨w.heap.size + 1, 0, none⟩ = some (.bool h.n) := Hh0.out.cell 0
  have ch1 : X.cell? ⟨w.heap.size + 1, 1, none⟩ = some (.slice h.a h.xs.length h.ca) := Hh0.out.cell 1
  have ch2 : X.cell? ⟨w.heap.size + 1, 2, none⟩ = some (.slice h.b h.ys.length h.cb) := Hh0.out.cell 2
  have ch3 : X.cell? ⟨w.heap.size + 1, 3, none⟩ = some (.bool h.m) := Hh0.out.cell 3
  have ch4 : X.cell? ⟨w.heap.size + 1, 4, none⟩ = some (.slice h.c h.us.length h.cc) := Hh0.out.cell 4
  have ch5 : X.cell? ⟨w.heap.size + 1, 5, none⟩ = some (.slice h.d h.vs.length h.cd) := Hh0.out.cell 5
  go_wp2_with fail
  clear hX
  refine Calls.mono HD.out ?_
  rintro e w1 ⟨rfl, hb⟩
  clear HD cg0 cg1 cg2 cg3 cg4 cg5 ch0 ch1 ch2 ch3 ch4 ch5
  clear HBo
  have HW2 := hid (bt HW0.out hb)
  have Hg2 := hid (Hg0.out.later hb Hg0.out.lt)
  have Hh2 := hid (Hh0.out.later hb Hh0.out.lt)
  have Hres2 := hid (Hres0.out.later hb Hres0.out.lt)
  clear HW0 Hg0 Hh0 Hres0
  clear hb
  rcases Decidable.em (¬ E = 0) with hc | hc
  · have HCX := hid hc
    have dd : (E != 0) = true := by simp [hc]
    have de : (E == 0) = false := by simp [hc]
    clear hc
    obtain ⟨C0, C1, C2, C3, C4, C5, qC0, qC1, qC2, qC3, qC4, qC5, ⟨rC0, rC1, rC2, rC3, rC4, rC5⟩, ⟨fC0, fC1, fC2, fC3, fC4, fC5⟩, HCC⟩ := rchain6 Hres2.out (by decide) (.bool false) (.slice none 0 0) (.slice none 0 0) (.bool false) (.slice none 0 0) (.slice none 0 0)
    go_wp2_with fail
    refine bodyPost_ret (gres_run (by rfl) HCC.out.1 _ (by rfl)) rfl ?_
    exact ⟨gqZ, E, rfl, gqZ_ow _ _, (by rw [A1.out HCX.out]; exact gq_bad HCX.out), HCC.out.2.2.2.1 _ _ (by omega) HW2.out⟩
  have hz : E = 0 := Decidable.not_not.1 hc
  subst hz
  clear hc
  have RR := hid (ZZ.out (by first | rfl | trivial))
  have A4 := hid (A2.out (by first | rfl | trivial))
  have A5 := hid (A3.out (by first | rfl | trivial))
  clear ZZ A1 A2 A3
  have HZ0 := hid (d4Zero_any h.n h.a h.ca h.xs h.b h.cb h.ys h.m h.c h.cc h.us h.d h.cd h.vs w1 (HSh.out w1 HW2.out).1 (HSh.out w1 HW2.out).2.1 (HSh.out w1 HW2.out).2.2.1 (HSh.out w1 HW2.out).2.2.2 Lh.out.1 Lh.out.2.1 Lh.out.2.2.1 Lh.out.2.2.2)
  obtain ⟨Zb, hZb⟩ : ∃ Z, ((h.xs.length == 0 && h.us.length == 0) && (gchk h.n h.xs h.ys h.m h.us h.vs == 0)) = Z := ⟨_, rfl⟩
  rw [hZb] at HZ0
  have HZB : Hid (Zb = true ↔ (h.xs.length = 0 ∧ h.us.length = 0)) := by
    rw [RR.out.2] at hZb
    show _ ↔ _
    rw [← hZb]
    simp
  clear hZb
  have HD := hid (HZ0.out)
  have ch0 : w1.cell? ⟨w.heap.size + 1, 0, none⟩ = some (.bool h.n) := Hh2.out.cell 0
  have ch1 : w1.cell? ⟨w.heap.size + 1, 1, none⟩ = some (.slice h.a h.xs.length h.ca) := Hh2.out.cell 1
  have ch2 : w1.cell? ⟨w.heap.size + 1, 2, none⟩ = some (.slice h.b h.ys.length h.cb) := Hh2.out.cell 2
  have ch3 : w1.cell? ⟨w.heap.size + 1, 3, none⟩ = some (.bool h.m) := Hh2.out.cell 3
  have ch4 : w1.cell? ⟨w.heap.size + 1, 4, none⟩ = some (.slice h.c h.us.length h.cc) := Hh2.out.cell 4
  have ch5 : w1.cell? ⟨w.heap.size + 1, 5, none⟩ = some (.slice h.d h.vs.length h.cd) := Hh2.out.cell 5
  go_wp2_with fail
  refine Calls.mono HD.out ?_
  rintro e w3 ⟨rfl, hb⟩
  clear HD ch0 ch1 ch2 ch3 ch4 ch5
  clear HZ0
  have HW4 := hid (bt HW2.out hb)
  have Hg4 := hid (Hg2.out.later hb Hg2.out.lt)
  have Hh4 := hid (Hh2.out.later hb Hh2.out.lt)
  have Hres4 := hid (Hres2.out.later hb Hres2.out.lt)
  clear HW2 Hg2 Hh2 Hres2
  clear hb
  cases Zb
  rotate_left 1
  · obtain ⟨C0, C1, C2, C3, C4, C5, qC0, qC1, qC2, qC3, qC4, qC5, ⟨rC0, rC1, rC2, rC3, rC4, rC5⟩, ⟨fC0, fC1, fC2, fC3, fC4, fC5⟩, HCC⟩ := rchain6 Hres4.out (by decide) (.bool false) (.slice none 0 0) (.slice none 0 0) (.bool false) (.slice none 0 0) (.slice none 0 0)
    go_wp2_with fail
    refine bodyPost_ret (gres_run (by rfl) HCC.out.1 _ (by rfl)) rfl ?_
    exact ⟨gqZ, 7, rfl, gqZ_ow _ _, (by rw [A4.out (HZB.out.1 (by first | rfl | trivial))]; exact gq_bad (by decide)), HCC.out.2.2.2.1 _ _ (by omega) HW4.out⟩
  have hnz : ¬ (h.xs.length = 0 ∧ h.us.length = 0) := fun q => by have := HZB.out.2 q; first | cases this | exact this | simp at this
  have F0 := hid (A5.out hnz)
  have HNZ := hid (gq_nonzero HWh.out RR.out.2 hnz)
  clear A4 A5 HZB hnz
  have HQ : Hid (Calls Tryz.prog 38 #[.agg #[.bool h.n, .slice h.a h.xs.length h.ca, .slice h.b h.ys.length h.cb, .bool h.m, .slice h.c h.us.length h.cc, .slice h.d h.vs.length h.cd]] w3 (QR w3 (Tl ((rlong (rq h.n h.xs h.ys * rq h.n h.xs h.ys) ∨ rlong (rq h.m h.us h.vs * rq h.m h.us h.vs)) ∨ rlong (rq h.n h.xs h.ys * rq h.n h.xs h.ys + rq h.m h.us h.vs * rq h.m h.us h.vs)) (rq h.n h.xs h.ys * rq h.n h.xs h.ys + rq h.m h.us h.vs * rq h.m h.us h.vs)))) := by
    have q := d4Norm_any h.n h.a h.ca h.xs h.b h.cb h.ys h.m h.c h.cc h.us h.d h.cd h.vs w3 (HSh.out w3 HW4.out).1 (HSh.out w3 HW4.out).2.1 (HSh.out w3 HW4.out).2.2.1 (HSh.out w3 HW4.out).2.2.2 Lh.out.1 Lh.out.2.1 Lh.out.2.2.1 Lh.out.2.2.2
    rw [RR.out.2, rboth_good (gchk_ok RR.out.2).1 (gchk_ok RR.out.2).1, rboth_good (gchk_ok RR.out.2).2 (gchk_ok RR.out.2).2] at q
    exact Calls.mono q (fun _ _ q => by obtain ⟨f, c, e, o, i, b⟩ := qr_drt q; exact ⟨f, c, e, o, ⟨i.out.1, tl_more i.out.2 i.out.1⟩, b⟩)
  have HD := hid (HQ.out)
  have ch0 : w3.cell? ⟨w.heap.size + 1, 0, none⟩ = some (.bool h.n) := Hh4.out.cell 0
  have ch1 : w3.cell? ⟨w.heap.size + 1, 1, none⟩ = some (.slice h.a h.xs.length h.ca) := Hh4.out.cell 1
  have ch2 : w3.cell? ⟨w.heap.size + 1, 2, none⟩ = some (.slice h.b h.ys.length h.cb) := Hh4.out.cell 2
  have ch3 : w3.cell? ⟨w.heap.size + 1, 3, none⟩ = some (.bool h.m) := Hh4.out.cell 3
  have ch4 : w3.cell? ⟨w.heap.size + 1, 4, none⟩ = some (.slice h.c h.us.length h.cc) := Hh4.out.cell 4
  have ch5 : w3.cell? ⟨w.heap.size + 1, 5, none⟩ = some (.slice h.d h.vs.length h.cd) := Hh4.out.cell 5
  go_wp2_with fail
  refine Calls.mono HD.out ?_
  rintro e w5 ⟨nr, cnr, rfl, ok, ik, hb⟩
  clear HD ch0 ch1 ch2 ch3 ch4 ch5
  have Onr := hid (ok.out.base HW4.out.size)
  have Inr := hid ik.out
  clear ok ik
  have HW6 := hid (bt HW4.out hb)
  have Hg6 := hid (Hg4.out.later hb Hg4.out.lt)
  have Hh6 := hid (Hh4.out.later hb Hh4.out.lt)
  have Hres6 := hid (Hres4.out.later hb Hres4.out.lt)
  clear HW4 Hg4 Hh4 Hres4
  clear hb
  obtain ⟨Ynr, hYnr⟩ : ∃ Y, w5.alloc (.cells #[.bool false, .slice none 0 0, .slice none 0 0] 24) = Y := ⟨_, rfl⟩
  have NYnr : Hid (Box Ynr w5.heap.size 24 #[.bool false, .slice none 0 0, .slice none 0 0]) := by rw [← hYnr]; exact Box.made w5 _ _
  have BYnr : Hid (Below w5.heap.size w5 Ynr) := by rw [← hYnr]; exact alloc_later _ _
  obtain ⟨Knr0, Knr1, Knr2, qKnr0, qKnr1, qKnr2, ⟨rKnr0, rKnr1, rKnr2⟩, ⟨fKnr0, fKnr1, fKnr2⟩, Pnr⟩ := rchain3 NYnr.out (by decide) (.bool nr.n) (.slice nr.a nr.xs.length nr.ca) (.slice nr.b nr.ys.length nr.cb)
  have HW7 : Hid (Below w.heap.size w Knr2) := Pnr.out.2.2.2.1 _ _ HW6.out.size (bt HW6.out BYnr.out)
  have Hg7 := hid (Pnr.out.2.1 _ _ _ (Nat.ne_of_lt Hg6.out.lt) (Hg6.out.later BYnr.out Hg6.out.lt))
  have Hh7 := hid (Pnr.out.2.1 _ _ _ (Nat.ne_of_lt Hh6.out.lt) (Hh6.out.later BYnr.out Hh6.out.lt))
  have Hres7 := hid (Pnr.out.2.1 _ _ _ (Nat.ne_of_lt Hres6.out.lt) (Hres6.out.later BYnr.out Hres6.out.lt))
  replace Onr := hid (f3_put (Onr.out.later BYnr.out) Pnr.out.2.2.1)
  have Hnr7 := hid Pnr.out.1
  clear HW6 Hg6 Hh6 Hres6 NYnr BYnr Pnr
  clear HQ
  rcases Decidable.em (¬ cnr = 0) with hc | hc
  · have HCX := hid hc
    have dd : (cnr != 0) = true := by simp [hc]
    have de : (cnr == 0) = false := by simp [hc]
    clear hc
    obtain ⟨C0, C1, C2, C3, C4, C5, qC0, qC1, qC2, qC3, qC4, qC5, ⟨rC0, rC1, rC2, rC3, rC4, rC5⟩, ⟨fC0, fC1, fC2, fC3, fC4, fC5⟩, HCC⟩ := rchain6 Hres7.out (by decide) (.bool false) (.slice none 0 0) (.slice none 0 0) (.bool false) (.slice none 0 0) (.slice none 0 0)
    go_wp2_with fail
    refine bodyPost_ret (gres_run (by rfl) HCC.out.1 _ (by rfl)) rfl ?_
    exact ⟨gqZ, cnr, rfl, gqZ_ow _ _, (gt_first F0.out Inr.out.2 HCX.out (fun l => .inl (.inl (.inl (.inl (.inl l)))))), HCC.out.2.2.2.1 _ _ (by omega) HW7.out⟩
  have hz : cnr = 0 := Decidable.not_not.1 hc
  subst hz
  clear hc
  have HN0 := hid Inr.out.2.not
  have GN := hid (Inr.out.2.good HN0.out)
  have HD := hid (dconj_q h Knr2 (HSh.out Knr2 HW7.out) Lh.out RR.out.2)
  have ch0 : Knr2.cell? ⟨w.heap.size + 1, 0, none⟩ = some (.bool h.n) := Hh7.out.cell 0
  have ch1 : Knr2.cell? ⟨w.heap.size + 1, 1, none⟩ = some (.slice h.a h.xs.length h.ca) := Hh7.out.cell 1
  have ch2 : Knr2.cell? ⟨w.heap.size + 1, 2, none⟩ = some (.slice h.b h.ys.length h.cb) := Hh7.out.cell 2
  have ch3 : Knr2.cell? ⟨w.heap.size + 1, 3, none⟩ = some (.bool h.m) := Hh7.out.cell 3
  have ch4 : Knr2.cell? ⟨w.heap.size + 1, 4, none⟩ = some (.slice h.c h.us.length h.cc) := Hh7.out.cell 4
  have ch5 : Knr2.cell? ⟨w.heap.size + 1, 5, none⟩ = some (.slice h.d h.vs.length h.cd) := Hh7.out.cell 5
  go_wp2_with fail
  clear qKnr0 qKnr1 qKnr2 rKnr0 rKnr1 rKnr2 fKnr0 fKnr1 fKnr2 hYnr
  refine Calls.mono HD.out ?_
  rintro e w8 ⟨c, code, rfl, sc, ic, hb⟩
  clear HD ch0 ch1 ch2 ch3 ch4 ch5
  have HW9 := hid (bt HW7.out hb)
  have Hg9 := hid (Hg7.out.later hb Hg7.out.lt)
  have Hh9 := hid (Hh7.out.later hb Hh7.out.lt)
  have Hres9 := hid (Hres7.out.later hb Hres7.out.lt)
  have Hnr9 := hid (Hnr7.out.later hb Hnr7.out.lt)
  replace Onr := hid (Onr.out.later hb)
  clear HW7 Hg7 Hh7 Hres7 Hnr7
  clear hb
  have HBc := hid (Below.refl w8.heap.size w8)
  have Lc : Hid c.Sh := ⟨(rchk_few ic.out.1.1).1, (rchk_few ic.out.1.1).2, (rchk_few ic.out.2.1).1, (rchk_few ic.out.2.1).2⟩
  obtain ⟨Yc, hYc⟩ : ∃ Y, w8.alloc (.cells #[.bool false, .slice none 0 0, .slice none 0 0, .bool false, .slice none 0 0, .slice none 0 0] 26) = Y := ⟨_, rfl⟩
  have NYc : Hid (Box Yc w8.heap.size 26 #[.bool false, .slice none 0 0, .slice none 0 0, .bool false, .slice none 0 0, .slice none 0 0]) := by rw [← hYc]; exact Box.made w8 _ _
  have BYc : Hid (Below w8.heap.size w8 Yc) := by rw [← hYc]; exact alloc_later _ _
  obtain ⟨Kc0, Kc1, Kc2, Kc3, Kc4, Kc5, qKc0, qKc1, qKc2, qKc3, qKc4, qKc5, ⟨rKc0, rKc1, rKc2, rKc3, rKc4, rKc5⟩, ⟨fKc0, fKc1, fKc2, fKc3, fKc4, fKc5⟩, Pc⟩ := rchain6 NYc.out (by decide) (.bool c.n) (.slice c.a c.xs.length c.ca) (.slice c.b c.ys.length c.cb) (.bool c.m) (.slice c.c c.us.length c.cc) (.slice c.d c.vs.length c.cd)
  have HW10 : Hid (Below w.heap.size w Kc5) := Pc.out.2.2.2.1 _ _ HW9.out.size (bt HW9.out BYc.out)
  have Hg10 := hid (Pc.out.2.1 _ _ _ (Nat.ne_of_lt Hg9.out.lt) (Hg9.out.later BYc.out Hg9.out.lt))
  have Hh10 := hid (Pc.out.2.1 _ _ _ (Nat.ne_of_lt Hh9.out.lt) (Hh9.out.later BYc.out Hh9.out.lt))
  have Hres10 := hid (Pc.out.2.1 _ _ _ (Nat.ne_of_lt Hres9.out.lt) (Hres9.out.later BYc.out Hres9.out.lt))
  have Hnr10 := hid (Pc.out.2.1 _ _ _ (Nat.ne_of_lt Hnr9.out.lt) (Hnr9.out.later BYc.out Hnr9.out.lt))
  replace Onr := hid (f3_put (Onr.out.later BYc.out) Pc.out.2.2.1)
  replace HBc := hid (Pc.out.2.2.2.1 _ _ HBc.out.size (bt HBc.out BYc.out))
  have Hc10 := hid Pc.out.1
  clear HW9 Hg9 Hh9 Hres9 Hnr9 NYc BYc Pc
  have HD := hid (d4Mul_q g c Kc5 (HSg.out Kc5 HW10.out) (sc.out.later HBc.out) Lg.out Lc.out)
  have cg0 : Kc5.cell? ⟨w.heap.size, 0, none⟩ = some (.bool g.n) := Hg10.out.cell 0
  have cg1 : Kc5.cell? ⟨w.heap.size, 1, none⟩ = some (.slice g.a g.xs.length g.ca) := Hg10.out.cell 1
  have cg2 : Kc5.cell? ⟨w.heap.size, 2, none⟩ = some (.slice g.b g.ys.length g.cb) := Hg10.out.cell 2
  have cg3 : Kc5.cell? ⟨w.heap.size, 3, none⟩ = some (.bool g.m) := Hg10.out.cell 3
  have cg4 : Kc5.cell? ⟨w.heap.size, 4, none⟩ = some (.slice g.c g.us.length g.cc) := Hg10.out.cell 4
  have cg5 : Kc5.cell? ⟨w.heap.size, 5, none⟩ = some (.slice g.d g.vs.length g.cd) := Hg10.out.cell 5
  have cc0 : Kc5.cell? ⟨w8.heap.size, 0, none⟩ = some (.bool c.n) := Hc10.out.cell 0
  have cc1 : Kc5.cell? ⟨w8.heap.size, 1, none⟩ = some (.slice c.a c.xs.length c.ca) := Hc10.out.cell 1
  have cc2 : Kc5.cell? ⟨w8.heap.size, 2, none⟩ = some (.slice c.b c.ys.length c.cb) := Hc10.out.cell 2
  have cc3 : Kc5.cell? ⟨w8.heap.size, 3, none⟩ = some (.bool c.m) := Hc10.out.cell 3
  have cc4 : Kc5.cell? ⟨w8.heap.size, 4, none⟩ = some (.slice c.c c.us.length c.cc) := Hc10.out.cell 4
  have cc5 : Kc5.cell? ⟨w8.heap.size, 5, none⟩ = some (.slice c.d c.vs.length c.cd) := Hc10.out.cell 5
  go_wp2_with fail
  clear qKc0 qKc1 qKc2 qKc3 qKc4 qKc5 rKc0 rKc1 rKc2 rKc3 rKc4 rKc5 fKc0 fKc1 fKc2 fKc3 fKc4 fKc5 hYc
  refine Calls.mono HD.out ?_
  rintro e w11 ⟨p, cp, rfl, ok, ik, hb⟩
  clear HD cg0 cg1 cg2 cg3 cg4 cg5 cc0 cc1 cc2 cc3 cc4 cc5
  have It : Hid (GTells 0 (mlong (rq g.n g.xs g.ys) (rq g.m g.us g.vs) (rq h.n h.xs h.ys) (-(rq h.m h.us h.vs))) (rq g.n g.xs g.ys * rq h.n h.xs h.ys - rq g.m g.us g.vs * -(rq h.m h.us h.vs)) (rq g.n g.xs g.ys * -(rq h.m h.us h.vs) + rq g.m g.us g.vs * rq h.n h.xs h.ys) p.n p.xs p.ys p.m p.us p.vs cp) := by
    have t := ik.out
    rw [RR.out.1, gchk_of ic.out.1.1 ic.out.2.1, fstE_zero, ic.out.1.2, ic.out.2.2] at t
    exact t
  have Op0 := hid (ok.out.base HW10.out.size)
  clear ok ik sc
  have HW12 := hid (bt HW10.out hb)
  have Hg12 := hid (Hg10.out.later hb Hg10.out.lt)
  have Hh12 := hid (Hh10.out.later hb Hh10.out.lt)
  have Hres12 := hid (Hres10.out.later hb Hres10.out.lt)
  have Hnr12 := hid (Hnr10.out.later hb Hnr10.out.lt)
  have Hc12 := hid (Hc10.out.later hb Hc10.out.lt)
  replace Onr := hid (Onr.out.later hb)
  replace HBc := hid (bt HBc.out hb)
  clear HW10 Hg10 Hh10 Hres10 Hnr10 Hc10
  clear hb HBc
  clear Hc12
  obtain ⟨Yp, hYp⟩ : ∃ Y, w11.alloc (.cells #[.bool false, .slice none 0 0, .slice none 0 0, .bool false, .slice none 0 0, .slice none 0 0] 26) = Y := ⟨_, rfl⟩
  have NYp : Hid (Box Yp w11.heap.size 26 #[.bool false, .slice none 0 0, .slice none 0 0, .bool false, .slice none 0 0, .slice none 0 0]) := by rw [← hYp]; exact Box.made w11 _ _
  have BYp : Hid (Below w11.heap.size w11 Yp) := by rw [← hYp]; exact alloc_later _ _
  obtain ⟨Kp0, Kp1, Kp2, Kp3, Kp4, Kp5, qKp0, qKp1, qKp2, qKp3, qKp4, qKp5, ⟨rKp0, rKp1, rKp2, rKp3, rKp4, rKp5⟩, ⟨fKp0, fKp1, fKp2, fKp3, fKp4, fKp5⟩, Pp⟩ := rchain6 NYp.out (by decide) (.bool p.n) (.slice p.a p.xs.length p.ca) (.slice p.b p.ys.length p.cb) (.bool p.m) (.slice p.c p.us.length p.cc) (.slice p.d p.vs.length p.cd)
  have HW13 : Hid (Below w.heap.size w Kp5) := Pp.out.2.2.2.1 _ _ HW12.out.size (bt HW12.out BYp.out)
  have Hg13 := hid (Pp.out.2.1 _ _ _ (Nat.ne_of_lt Hg12.out.lt) (Hg12.out.later BYp.out Hg12.out.lt))
  have Hh13 := hid (Pp.out.2.1 _ _ _ (Nat.ne_of_lt Hh12.out.lt) (Hh12.out.later BYp.out Hh12.out.lt))
  have Hres13 := hid (Pp.out.2.1 _ _ _ (Nat.ne_of_lt Hres12.out.lt) (Hres12.out.later BYp.out Hres12.out.lt))
  have Hnr13 := hid (Pp.out.2.1 _ _ _ (Nat.ne_of_lt Hnr12.out.lt) (Hnr12.out.later BYp.out Hnr12.out.lt))
  have Op13 := hid (g6_put (Op0.out.later BYp.out) Pp.out.2.2.1)
  replace Onr := hid (f3_put (Onr.out.later BYp.out) Pp.out.2.2.1)
  have Hp13 := hid Pp.out.1
  clear HW12 Hg12 Hh12 Hres12 Hnr12 Op0 NYp BYp Pp
  rcases Decidable.em (¬ cp = 0) with hc | hc
  · have HCX := hid hc
    have dd : (cp != 0) = true := by simp [hc]
    have de : (cp == 0) = false := by simp [hc]
    clear hc
    obtain ⟨C0, C1, C2, C3, C4, C5, qC0, qC1, qC2, qC3, qC4, qC5, ⟨rC0, rC1, rC2, rC3, rC4, rC5⟩, ⟨fC0, fC1, fC2, fC3, fC4, fC5⟩, HCC⟩ := rchain6 Hres13.out (by decide) (.bool false) (.slice none 0 0) (.slice none 0 0) (.bool false) (.slice none 0 0) (.slice none 0 0)
    go_wp2_with fail
    refine bodyPost_ret (gres_run (by rfl) HCC.out.1 _ (by rfl)) rfl ?_
    exact ⟨gqZ, cp, rfl, gqZ_ow _ _, (gt_mid F0.out It.out HCX.out (fun l => .inl (.inl (l.elim (fun l => .inl (.inr l)) .inr)))), HCC.out.2.2.2.1 _ _ (by omega) HW13.out⟩
  have hz : cp = 0 := Decidable.not_not.1 hc
  subst hz
  clear hc
  have HM0 := hid (gt_not It.out)
  have GP := hid (It.out.good rfl HM0.out).2
  have WP := hid It.out.wd
  have HQ : Hid (Calls Tryz.prog 40 #[.agg #[.bool p.n, .slice p.a p.xs.length p.ca, .slice p.b p.ys.length p.cb], .agg #[.bool nr.n, .slice nr.a nr.xs.length nr.ca, .slice nr.b nr.ys.length nr.cb]] Kp5 (QR Kp5 (Tl (rlong ((rq g.n g.xs g.ys * rq h.n h.xs h.ys - rq g.m g.us g.vs * -(rq h.m h.us h.vs)) / (rq h.n h.xs h.ys * rq h.n h.xs h.ys + rq h.m h.us h.vs * rq h.m h.us h.vs))) ((rq g.n g.xs g.ys * rq h.n h.xs h.ys - rq g.m g.us g.vs * -(rq h.m h.us h.vs)) / (rq h.n h.xs h.ys * rq h.n h.xs h.ys + rq h.m h.us h.vs * rq h.m h.us h.vs))))) := by
    have q := dQuo_full p.n p.a p.ca p.xs p.b p.cb p.ys nr.n nr.a nr.ca nr.xs nr.b nr.cb nr.ys Kp5 (Sl.own Op13.out.1 WP.out.1) (Sl.own Op13.out.2.1 WP.out.2.1) (Sl.own Onr.out.1 Inr.out.1.1) (Sl.own Onr.out.2 Inr.out.1.2) (rchk_few GP.out.1.1).1 (rchk_few GP.out.1.1).2 (rchk_few GN.out.2.1).1 (rchk_few GN.out.2.1).2
    rw [qerr_zero GP.out.1.1 GN.out.2.1 (by rw [GN.out.2.2]; exact HNZ.out), GP.out.1.2, GN.out.2.2] at q
    exact Calls.mono q (fun _ _ q => by obtain ⟨f, c, e, o, i, b⟩ := qr_told q; exact ⟨f, c, e, o, ⟨i.out.1, tl_r i.out.2⟩, b⟩)
  have HD := hid (HQ.out)
  have cp0 : Kp5.cell? ⟨w11.heap.size, 0, none⟩ = some (.bool p.n) := Hp13.out.cell 0
  have cp1 : Kp5.cell? ⟨w11.heap.size, 1, none⟩ = some (.slice p.a p.xs.length p.ca) := Hp13.out.cell 1
  have cp2 : Kp5.cell? ⟨w11.heap.size, 2, none⟩ = some (.slice p.b p.ys.length p.cb) := Hp13.out.cell 2
  have cp3 : Kp5.cell? ⟨w11.heap.size, 3, none⟩ = some (.bool p.m) := Hp13.out.cell 3
  have cp4 : Kp5.cell? ⟨w11.heap.size, 4, none⟩ = some (.slice p.c p.us.length p.cc) := Hp13.out.cell 4
  have cp5 : Kp5.cell? ⟨w11.heap.size, 5, none⟩ = some (.slice p.d p.vs.length p.cd) := Hp13.out.cell 5
  have cnr0 : Kp5.cell? ⟨w5.heap.size, 0, none⟩ = some (.bool nr.n) := Hnr13.out.cell 0
  have cnr1 : Kp5.cell? ⟨w5.heap.size, 1, none⟩ = some (.slice nr.a nr.xs.length nr.ca) := Hnr13.out.cell 1
  have cnr2 : Kp5.cell? ⟨w5.heap.size, 2, none⟩ = some (.slice nr.b nr.ys.length nr.cb) := Hnr13.out.cell 2
  go_wp2_with fail
  clear qKp0 qKp1 qKp2 qKp3 qKp4 qKp5 rKp0 rKp1 rKp2 rKp3 rKp4 rKp5 fKp0 fKp1 fKp2 fKp3 fKp4 fKp5 hYp
  refine Calls.mono HD.out ?_
  rintro e w14 ⟨re, cre, rfl, ok, ik, hb⟩
  clear HD cp0 cp1 cp2 cp3 cp4 cp5 cnr0 cnr1 cnr2
  have Ore := hid (ok.out.base HW13.out.size)
  have Ire := hid ik.out
  clear ok ik
  have HW15 := hid (bt HW13.out hb)
  have Hg15 := hid (Hg13.out.later hb Hg13.out.lt)
  have Hh15 := hid (Hh13.out.later hb Hh13.out.lt)
  have Hres15 := hid (Hres13.out.later hb Hres13.out.lt)
  have Hnr15 := hid (Hnr13.out.later hb Hnr13.out.lt)
  have Hp15 := hid (Hp13.out.later hb Hp13.out.lt)
  have Op15 := hid (Op13.out.later hb)
  replace Onr := hid (Onr.out.later hb)
  clear HW13 Hg13 Hh13 Hres13 Hnr13 Hp13 Op13
  clear hb
  obtain ⟨Yre, hYre⟩ : ∃ Y, w14.alloc (.cells #[.bool false, .slice none 0 0, .slice none 0 0] 24) = Y := ⟨_, rfl⟩
  have NYre : Hid (Box Yre w14.heap.size 24 #[.bool false, .slice none 0 0, .slice none 0 0]) := by rw [← hYre]; exact Box.made w14 _ _
  have BYre : Hid (Below w14.heap.size w14 Yre) := by rw [← hYre]; exact alloc_later _ _
  obtain ⟨Kre0, Kre1, Kre2, qKre0, qKre1, qKre2, ⟨rKre0, rKre1, rKre2⟩, ⟨fKre0, fKre1, fKre2⟩, Pre⟩ := rchain3 NYre.out (by decide) (.bool re.n) (.slice re.a re.xs.length re.ca) (.slice re.b re.ys.length re.cb)
  have HW16 : Hid (Below w.heap.size w Kre2) := Pre.out.2.2.2.1 _ _ HW15.out.size (bt HW15.out BYre.out)
  have Hg16 := hid (Pre.out.2.1 _ _ _ (Nat.ne_of_lt Hg15.out.lt) (Hg15.out.later BYre.out Hg15.out.lt))
  have Hh16 := hid (Pre.out.2.1 _ _ _ (Nat.ne_of_lt Hh15.out.lt) (Hh15.out.later BYre.out Hh15.out.lt))
  have Hres16 := hid (Pre.out.2.1 _ _ _ (Nat.ne_of_lt Hres15.out.lt) (Hres15.out.later BYre.out Hres15.out.lt))
  have Hnr16 := hid (Pre.out.2.1 _ _ _ (Nat.ne_of_lt Hnr15.out.lt) (Hnr15.out.later BYre.out Hnr15.out.lt))
  have Hp16 := hid (Pre.out.2.1 _ _ _ (Nat.ne_of_lt Hp15.out.lt) (Hp15.out.later BYre.out Hp15.out.lt))
  have Op16 := hid (g6_put (Op15.out.later BYre.out) Pre.out.2.2.1)
  replace Onr := hid (f3_put (Onr.out.later BYre.out) Pre.out.2.2.1)
  replace Ore := hid (f3_put (Ore.out.later BYre.out) Pre.out.2.2.1)
  have Hre16 := hid Pre.out.1
  clear HW15 Hg15 Hh15 Hres15 Hnr15 Hp15 Op15 NYre BYre Pre
  clear HQ
  rcases Decidable.em (¬ cre = 0) with hc | hc
  · have HCX := hid hc
    have dd : (cre != 0) = true := by simp [hc]
    have de : (cre == 0) = false := by simp [hc]
    clear hc
    obtain ⟨C0, C1, C2, C3, C4, C5, qC0, qC1, qC2, qC3, qC4, qC5, ⟨rC0, rC1, rC2, rC3, rC4, rC5⟩, ⟨fC0, fC1, fC2, fC3, fC4, fC5⟩, HCC⟩ := rchain6 Hres16.out (by decide) (.bool false) (.slice none 0 0) (.slice none 0 0) (.bool false) (.slice none 0 0) (.slice none 0 0)
    go_wp2_with fail
    refine bodyPost_ret (gres_run (by rfl) HCC.out.1 _ (by rfl)) rfl ?_
    exact ⟨gqZ, cre, rfl, gqZ_ow _ _, (gt_first F0.out Ire.out.2 HCX.out (fun l => .inl (.inr l))), HCC.out.2.2.2.1 _ _ (by omega) HW16.out⟩
  have hz : cre = 0 := Decidable.not_not.1 hc
  subst hz
  clear hc
  have HQ : Hid (Calls Tryz.prog 40 #[.agg #[.bool p.m, .slice p.c p.us.length p.cc, .slice p.d p.vs.length p.cd], .agg #[.bool nr.n, .slice nr.a nr.xs.length nr.ca, .slice nr.b nr.ys.length nr.cb]] Kre2 (QR Kre2 (Tl (rlong ((rq g.n g.xs g.ys * -(rq h.m h.us h.vs) + rq g.m g.us g.vs * rq h.n h.xs h.ys) / (rq h.n h.xs h.ys * rq h.n h.xs h.ys + rq h.m h.us h.vs * rq h.m h.us h.vs))) ((rq g.n g.xs g.ys * -(rq h.m h.us h.vs) + rq g.m g.us g.vs * rq h.n h.xs h.ys) / (rq h.n h.xs h.ys * rq h.n h.xs h.ys + rq h.m h.us h.vs * rq h.m h.us h.vs))))) := by
    have q := dQuo_full p.m p.c p.cc p.us p.d p.cd p.vs nr.n nr.a nr.ca nr.xs nr.b nr.cb nr.ys Kre2 (Sl.own Op16.out.2.2.1 WP.out.2.2.1) (Sl.own Op16.out.2.2.2 WP.out.2.2.2) (Sl.own Onr.out.1 Inr.out.1.1) (Sl.own Onr.out.2 Inr.out.1.2) (rchk_few GP.out.2.1).1 (rchk_few GP.out.2.1).2 (rchk_few GN.out.2.1).1 (rchk_few GN.out.2.1).2
    rw [qerr_zero GP.out.2.1 GN.out.2.1 (by rw [GN.out.2.2]; exact HNZ.out), GP.out.2.2, GN.out.2.2] at q
    exact Calls.mono q (fun _ _ q => by obtain ⟨f, c, e, o, i, b⟩ := qr_told q; exact ⟨f, c, e, o, ⟨i.out.1, tl_r i.out.2⟩, b⟩)
  have HD := hid (HQ.out)
  have cp0 : Kre2.cell? ⟨w11.heap.size, 0, none⟩ = some (.bool p.n) := Hp16.out.cell 0
  have cp1 : Kre2.cell? ⟨w11.heap.size, 1, none⟩ = some (.slice p.a p.xs.length p.ca) := Hp16.out.cell 1
  have cp2 : Kre2.cell? ⟨w11.heap.size, 2, none⟩ = some (.slice p.b p.ys.length p.cb) := Hp16.out.cell 2
  have cp3 : Kre2.cell? ⟨w11.heap.size, 3, none⟩ = some (.bool p.m) := Hp16.out.cell 3
  have cp4 : Kre2.cell? ⟨w11.heap.size, 4, none⟩ = some (.slice p.c p.us.length p.cc) := Hp16.out.cell 4
  have cp5 : Kre2.cell? ⟨w11.heap.size, 5, none⟩ = some (.slice p.d p.vs.length p.cd) := Hp16.out.cell 5
  have cnr0 : Kre2.cell? ⟨w5.heap.size, 0, none⟩ = some (.bool nr.n) := Hnr16.out.cell 0
  have cnr1 : Kre2.cell? ⟨w5.heap.size, 1, none⟩ = some (.slice nr.a nr.xs.length nr.ca) := Hnr16.out.cell 1
  have cnr2 : Kre2.cell? ⟨w5.heap.size, 2, none⟩ = some (.slice nr.b nr.ys.length nr.cb) := Hnr16.out.cell 2
  go_wp2_with fail
  clear qKre0 qKre1 qKre2 rKre0 rKre1 rKre2 fKre0 fKre1 fKre2 hYre
  refine Calls.mono HD.out ?_
  rintro e w17 ⟨im, cim, rfl, ok, ik, hb⟩
  clear HD cp0 cp1 cp2 cp3 cp4 cp5 cnr0 cnr1 cnr2
  have Oim := hid (ok.out.base HW16.out.size)
  have Iim := hid ik.out
  clear ok ik
  have HW18 := hid (bt HW16.out hb)
  have Hg18 := hid (Hg16.out.later hb Hg16.out.lt)
  have Hh18 := hid (Hh16.out.later hb Hh16.out.lt)
  have Hres18 := hid (Hres16.out.later hb Hres16.out.lt)
  have Hnr18 := hid (Hnr16.out.later hb Hnr16.out.lt)
  have Hp18 := hid (Hp16.out.later hb Hp16.out.lt)
  have Hre18 := hid (Hre16.out.later hb Hre16.out.lt)
  have Op18 := hid (Op16.out.later hb)
  replace Onr := hid (Onr.out.later hb)
  replace Ore := hid (Ore.out.later hb)
  clear HW16 Hg16 Hh16 Hres16 Hnr16 Hp16 Hre16 Op16
  clear hb
  obtain ⟨Yim, hYim⟩ : ∃ Y, w17.alloc (.cells #[.bool false, .slice none 0 0, .slice none 0 0] 24) = Y := ⟨_, rfl⟩
  have NYim : Hid (Box Yim w17.heap.size 24 #[.bool false, .slice none 0 0, .slice none 0 0]) := by rw [← hYim]; exact Box.made w17 _ _
  have BYim : Hid (Below w17.heap.size w17 Yim) := by rw [← hYim]; exact alloc_later _ _
  obtain ⟨Kim0, Kim1, Kim2, qKim0, qKim1, qKim2, ⟨rKim0, rKim1, rKim2⟩, ⟨fKim0, fKim1, fKim2⟩, Pim⟩ := rchain3 NYim.out (by decide) (.bool im.n) (.slice im.a im.xs.length im.ca) (.slice im.b im.ys.length im.cb)
  have HW19 : Hid (Below w.heap.size w Kim2) := Pim.out.2.2.2.1 _ _ HW18.out.size (bt HW18.out BYim.out)
  have Hg19 := hid (Pim.out.2.1 _ _ _ (Nat.ne_of_lt Hg18.out.lt) (Hg18.out.later BYim.out Hg18.out.lt))
  have Hh19 := hid (Pim.out.2.1 _ _ _ (Nat.ne_of_lt Hh18.out.lt) (Hh18.out.later BYim.out Hh18.out.lt))
  have Hres19 := hid (Pim.out.2.1 _ _ _ (Nat.ne_of_lt Hres18.out.lt) (Hres18.out.later BYim.out Hres18.out.lt))
  have Hnr19 := hid (Pim.out.2.1 _ _ _ (Nat.ne_of_lt Hnr18.out.lt) (Hnr18.out.later BYim.out Hnr18.out.lt))
  have Hp19 := hid (Pim.out.2.1 _ _ _ (Nat.ne_of_lt Hp18.out.lt) (Hp18.out.later BYim.out Hp18.out.lt))
  have Hre19 := hid (Pim.out.2.1 _ _ _ (Nat.ne_of_lt Hre18.out.lt) (Hre18.out.later BYim.out Hre18.out.lt))
  have Op19 := hid (g6_put (Op18.out.later BYim.out) Pim.out.2.2.1)
  replace Onr := hid (f3_put (Onr.out.later BYim.out) Pim.out.2.2.1)
  replace Ore := hid (f3_put (Ore.out.later BYim.out) Pim.out.2.2.1)
  replace Oim := hid (f3_put (Oim.out.later BYim.out) Pim.out.2.2.1)
  have Him19 := hid Pim.out.1
  clear HW18 Hg18 Hh18 Hres18 Hnr18 Hp18 Hre18 Op18 NYim BYim Pim
  clear HQ
  rcases Decidable.em (¬ cim = 0) with hc | hc
  · have HCX := hid hc
    have dd : (cim != 0) = true := by simp [hc]
    have de : (cim == 0) = false := by simp [hc]
    clear hc
    obtain ⟨C0, C1, C2, C3, C4, C5, qC0, qC1, qC2, qC3, qC4, qC5, ⟨rC0, rC1, rC2, rC3, rC4, rC5⟩, ⟨fC0, fC1, fC2, fC3, fC4, fC5⟩, HCC⟩ := rchain6 Hres19.out (by decide) (.bool false) (.slice none 0 0) (.slice none 0 0) (.bool false) (.slice none 0 0) (.slice none 0 0)
    go_wp2_with fail
    refine bodyPost_ret (gres_run (by rfl) HCC.out.1 _ (by rfl)) rfl ?_
    exact ⟨gqZ, cim, rfl, gqZ_ow _ _, (gt_first F0.out Iim.out.2 HCX.out .inr), HCC.out.2.2.2.1 _ _ (by omega) HW19.out⟩
  have hz : cim = 0 := Decidable.not_not.1 hc
  subst hz
  clear hc
  have HRD : Hid (¬ rlong (-(rq h.m h.us h.vs))) := fun l => kp_notlong HWh.out.2.2.1 HWh.out.2.2.2 (gchk_ok RR.out.2).2 (kp_long_neg.1 l)
  have HTT := hid ((gt_both F0.out Ire.out.2 Iim.out.2).iff (gq_quo HN0.out HRD.out HM0.out))
  have cre0 : Kim2.cell? ⟨w14.heap.size, 0, none⟩ = some (.bool re.n) := Hre19.out.cell 0
  have cre1 : Kim2.cell? ⟨w14.heap.size, 1, none⟩ = some (.slice re.a re.xs.length re.ca) := Hre19.out.cell 1
  have cre2 : Kim2.cell? ⟨w14.heap.size, 2, none⟩ = some (.slice re.b re.ys.length re.cb) := Hre19.out.cell 2
  have cim0 : Kim2.cell? ⟨w17.heap.size, 0, none⟩ = some (.bool im.n) := Him19.out.cell 0
  have cim1 : Kim2.cell? ⟨w17.heap.size, 1, none⟩ = some (.slice im.a im.xs.length im.ca) := Him19.out.cell 1
  have cim2 : Kim2.cell? ⟨w17.heap.size, 2, none⟩ = some (.slice im.b im.ys.length im.cb) := Him19.out.cell 2
  obtain ⟨C0, C1, C2, C3, C4, C5, qC0, qC1, qC2, qC3, qC4, qC5, ⟨rC0, rC1, rC2, rC3, rC4, rC5⟩, ⟨fC0, fC1, fC2, fC3, fC4, fC5⟩, HCC⟩ := rchain6 Hres19.out (by decide) (.bool re.n) (.slice re.a re.xs.length re.ca) (.slice re.b re.ys.length re.cb) (.bool im.n) (.slice im.a im.xs.length im.ca) (.slice im.b im.ys.length im.cb)
  go_wp2_with fail
  have P := HCC.out.2.2.1
  refine bodyPost_ret (gres_run (by rfl) HCC.out.1 _ (by rfl)) rfl ?_
  exact ⟨⟨re.n, re.a, re.ca, re.xs, re.b, re.cb, re.ys, im.n, im.a, im.ca, im.xs, im.b, im.cb, im.ys⟩, 0, rfl, ⟨P _ _ _ _ Ore.out.1, P _ _ _ _ Ore.out.2, P _ _ _ _ Oim.out.1, P _ _ _ _ Oim.out.2⟩, HTT.out, HCC.out.2.2.2.1 _ _ (by omega) HW19.out⟩
end Go.Proofs.YtlleakifnjfdkaaGreat
