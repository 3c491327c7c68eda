/- My texts on the way to GaussCalls, one behind the other: contracts of the program and of the document's answers. -/
import Derived.Test.YtlleakifnjfdkaaGreatJ1
import Derived.Test.YtlleakifnjfdkaaGreatJ3
import Derived.Test.YtlleakifnjfdkaaGreatJ4
import Derived.Test.YtlleakifnjfdkaaGreatJ5
import Derived.Deep.RegionHeld3
import Derived.Deep.CutRange
import Derived.Deep.Cut
import Derived.Deep.RegionLaw
namespace Go.Proofs.YtlleakifnjfdkaaGreat
set_option maxRecDepth 100000
open Go.RowKit
set_option linter.unusedVariables false
set_option maxHeartbeats 3200000 in
theorem gAdd_cut (n : Bool) (a : Option Addr) (ca : Nat) (xs : List Int) (b : Option Addr) (cb : Nat) (ys : List Int) (m : Bool) (c : Option Addr) (cc : Nat) (us : List Int) (d : Option Addr) (cd : Nat) (vs : List Int) (n2 : Bool) (a2 : Option Addr) (ca2 : Nat) (xs2 : List Int) (b2' : Option Addr) (cb2 : Nat) (ys2 : List Int) (m2 : Bool) (c2 : Option Addr) (cc2 : Nat) (us2 : List Int) (d2 : Option Addr) (cd2 : Nat) (vs2 : List Int) (w : World) (sx : Sl w (.slice a xs.length ca) xs) (sy : Sl w (.slice b ys.length cb) ys) (su : Sl w (.slice c us.length cc) us) (sv : Sl w (.slice d vs.length cd) vs) (sx2 : Sl w (.slice a2 xs2.length ca2) xs2) (sy2 : Sl w (.slice b2' ys2.length cb2) ys2) (su2 : Sl w (.slice c2 us2.length cc2) us2) (sv2 : Sl w (.slice d2 vs2.length cd2) vs2) :
    Calls Tryz.prog 8 #[.agg #[.bool n, .slice a xs.length ca, .slice b ys.length cb, .bool m, .slice c us.length cc, .slice d vs.length cd], .agg #[.bool n2, .slice a2 xs2.length ca2, .slice b2' ys2.length cb2, .bool m2, .slice c2 us2.length cc2, .slice d2 vs2.length cd2]] w (KToldC w (fstE (gchk n xs ys m us vs) (gchk n2 xs2 ys2 m2 us2 vs2)) (rlong (rq n xs ys + rq n2 xs2 ys2) ∨ rlong (rq m us vs + rq m2 us2 vs2)) (rq n xs ys + rq n2 xs2 ys2) (rq m us vs + rq m2 us2 vs2)) := by
  have HX := hid (boxes3r w 26 #[.bool n, .slice a xs.length ca, .slice b ys.length cb, .bool m, .slice c us.length cc, .slice d vs.length cd] #[.bool n2, .slice a2 xs2.length ca2, .slice b2' ys2.length cb2, .bool m2, .slice c2 us2.length cc2, .slice d2 vs2.length cd2] #[.bool false, .slice none 0 0, .slice none 0 0, .bool false, .slice none 0 0, .slice none 0 0])
  obtain ⟨X, hX⟩ : ∃ X, ((w.alloc (.cells #[.bool n, .slice a xs.length ca, .slice b ys.length cb, .bool m, .slice c us.length cc, .slice d vs.length cd] 26)).alloc (.cells #[.bool n2, .slice a2 xs2.length ca2, .slice b2' ys2.length cb2, .bool m2, .slice c2 us2.length cc2, .slice d2 vs2.length cd2] 26)).alloc (.cells #[.bool false, .slice none 0 0, .slice none 0 0, .bool false, .slice none 0 0, .slice none 0 0] 26) = X := ⟨_, rfl⟩
  rw [hX] at HX
  have HY := hid (Box.made X 26 #[.bool n, .slice a xs.length ca, .slice b ys.length cb, .bool m, .slice c us.length cc, .slice d vs.length cd, .bool n2, .slice a2 xs2.length ca2, .slice b2' ys2.length cb2, .bool m2, .slice c2 us2.length cc2, .slice d2 vs2.length cd2])
  have HYB := hid (alloc_later X (.cells #[.bool n, .slice a xs.length ca, .slice b ys.length cb, .bool m, .slice c us.length cc, .slice d vs.length cd, .bool n2, .slice a2 xs2.length ca2, .slice b2' ys2.length cb2, .bool m2, .slice c2 us2.length cc2, .slice d2 vs2.length cd2] 26))
  obtain ⟨Y, hY⟩ : ∃ Y, X.alloc (.cells #[.bool n, .slice a xs.length ca, .slice b ys.length cb, .bool m, .slice c us.length cc, .slice d vs.length cd, .bool n2, .slice a2 xs2.length ca2, .slice b2' ys2.length cb2, .bool m2, .slice c2 us2.length cc2, .slice d2 vs2.length cd2] 26) = Y := ⟨_, rfl⟩
  rw [hY] at HY HYB
  have HWY := hid (bt HX.out.2.2.2 HYB.out)
  have HL := hid (glookAt2_any X.heap.size n a ca xs b cb ys m c cc us d cd vs n2 a2 ca2 xs2 b2' cb2 ys2 m2 c2 cc2 us2 d2 cd2 vs2 Y HY.out (sx.later HWY.out) (sy.later HWY.out) (su.later HWY.out) (sv.later HWY.out) (sx2.later HWY.out) (sy2.later HWY.out) (su2.later HWY.out) (sv2.later HWY.out))
  have H1 : Hid (∀ V p E, Below w.heap.size w V → Box V p 53 #[.int .i64 E] → Calls Tryz.prog 25 #[.pointer (some ⟨p, 0, none⟩), .agg #[.bool n, .slice a xs.length ca, .slice b ys.length cb], .agg #[.bool n2, .slice a2 xs2.length ca2, .slice b2' ys2.length cb2]] V (GTell V p (fstE E (rboth n xs ys n2 xs2 ys2)) (rq n xs ys + rq n2 xs2 ys2))) := fun V p E hv hb => gsum_any p E n a ca xs b cb ys n2 a2 ca2 xs2 b2' cb2 ys2 V hb (sx.later hv) (sy.later hv) (sx2.later hv) (sy2.later hv)
  have H2 : Hid (∀ V p E, Below w.heap.size w V → Box V p 53 #[.int .i64 E] → Calls Tryz.prog 25 #[.pointer (some ⟨p, 0, none⟩), .agg #[.bool m, .slice c us.length cc, .slice d vs.length cd], .agg #[.bool m2, .slice c2 us2.length cc2, .slice d2 vs2.length cd2]] V (GTell V p (fstE E (rboth m us vs m2 us2 vs2)) (rq m us vs + rq m2 us2 vs2))) := fun V p E hv hb => gsum_any p E m c cc us d cd vs m2 c2 cc2 us2 d2 cd2 vs2 V hb (su.later hv) (sv.later hv) (su2.later hv) (sv2.later hv)
  have HZ1 : Hid (fstE (gchk n xs ys m us vs) (gchk n2 xs2 ys2 m2 us2 vs2) = 0 → rboth n xs ys n2 xs2 ys2 = 0 ∧ rboth m us vs m2 us2 vs2 = 0) := fun h => by
    obtain ⟨h1, h2⟩ := fstE_ok h
    exact ⟨rboth0 (gchk_ok h1).1 (gchk_ok h2).1, rboth0 (gchk_ok h1).2 (gchk_ok h2).2⟩
  generalize fstE (gchk n xs ys m us vs) (gchk n2 xs2 ys2 m2 us2 vs2) = E0 at *
  generalize rboth n xs ys n2 xs2 ys2 = e1 at *
  generalize rboth m us vs m2 us2 vs2 = e2 at *
  generalize rq n xs ys + rq n2 xs2 ys2 = q1 at *
  generalize rq m us vs + rq m2 us2 vs2 = q2 at *
  clear sx sy su sv sx2 sy2 su2 sv2
  have ka0 : X.cell? ⟨w.heap.size, 0, none⟩ = some (.bool n) := HX.out.1.cell 0
  have ka1 : X.cell? ⟨w.heap.size, 1, none⟩ = some (.slice a xs.length ca) := HX.out.1.cell 1
  have ka2 : X.cell? ⟨w.heap.size, 2, none⟩ = some (.slice b ys.length cb) := HX.out.1.cell 2
  have ka3 : X.cell? ⟨w.heap.size, 3, none⟩ = some (.bool m) := HX.out.1.cell 3
  have ka4 : X.cell? ⟨w.heap.size, 4, none⟩ = some (.slice c us.length cc) := HX.out.1.cell 4
  have ka5 : X.cell? ⟨w.heap.size, 5, none⟩ = some (.slice d vs.length cd) := HX.out.1.cell 5
  have kb0 : X.cell? ⟨w.heap.size + 1, 0, none⟩ = some (.bool n2) := HX.out.2.1.cell 0
  have kb1 : X.cell? ⟨w.heap.size + 1, 1, none⟩ = some (.slice a2 xs2.length ca2) := HX.out.2.1.cell 1
  have kb2 : X.cell? ⟨w.heap.size + 1, 2, none⟩ = some (.slice b2' ys2.length cb2) := HX.out.2.1.cell 2
  have kb3 : X.cell? ⟨w.heap.size + 1, 3, none⟩ = some (.bool m2) := HX.out.2.1.cell 3
  have kb4 : X.cell? ⟨w.heap.size + 1, 4, none⟩ = some (.slice c2 us2.length cc2) := HX.out.2.1.cell 4
  have kb5 : X.cell? ⟨w.heap.size + 1, 5, none⟩ = some (.slice d2 vs2.length cd2) := HX.out.2.1.cell 5
  go_enter Tryz.func8, Tryz.ntmps8
  go_wp2_with fail
  refine Calls.mono HL.out ?_
  rintro x w1 ⟨p, rfl, hpl, hpb, hb1⟩
  have HW1 := hid (bt HWY.out hb1)
  have HA1 := hid (HX.out.1.later (bt HYB.out hb1) HX.out.1.lt)
  have HB1 := hid (HX.out.2.1.later (bt HYB.out hb1) HX.out.2.1.lt)
  have HR1 := hid (HX.out.2.2.1.later (bt HYB.out hb1) HX.out.2.2.1.lt)
  have HP1 := hid hpb
  have hpX : X.heap.size < p := Nat.lt_of_lt_of_le HY.out.lt hpl
  have hrX : w.heap.size + 1 + 1 < X.heap.size := HX.out.2.2.1.lt
  clear hpb hb1 hpl HL ka0 ka1 ka2 ka3 ka4 ka5 kb0 kb1 kb2 kb3 kb4 kb5
  have ka0 : w1.cell? ⟨w.heap.size, 0, none⟩ = some (.bool n) := HA1.out.cell 0
  have ka1 : w1.cell? ⟨w.heap.size, 1, none⟩ = some (.slice a xs.length ca) := HA1.out.cell 1
  have ka2 : w1.cell? ⟨w.heap.size, 2, none⟩ = some (.slice b ys.length cb) := HA1.out.cell 2
  have kb0 : w1.cell? ⟨w.heap.size + 1, 0, none⟩ = some (.bool n2) := HB1.out.cell 0
  have kb1 : w1.cell? ⟨w.heap.size + 1, 1, none⟩ = some (.slice a2 xs2.length ca2) := HB1.out.cell 1
  have kb2 : w1.cell? ⟨w.heap.size + 1, 2, none⟩ = some (.slice b2' ys2.length cb2) := HB1.out.cell 2
  go_wp2_with fail
  refine Calls.mono (H1.out _ p E0 HW1.out HP1.out) ?_
  rintro x w2 ⟨k1, v1, zs1, u1, ts1, code1, rfl, ov1, ou1, ht1, hp2, hg2, hcut1⟩
  obtain ⟨av1, cv1, rfl⟩ := own_slice' ov1
  obtain ⟨au1, cu1, rfl⟩ := own_slice' ou1
  have hw12 : w1.heap.size ≤ w2.heap.size := hg2.size
  have hp1l : p < w1.heap.size := HP1.out.lt
  have HW2 : Hid (Below w.heap.size w w2) := HW1.out.grown hg2 HW1.out.size (fun q hq => by have e := Option.some.inj hq; omega)
  have HA2 := hid (HA1.out.kept' hg2 (by intro e; have := Option.some.inj e; omega))
  have HB2 := hid (HB1.out.kept' hg2 (by intro e; have := Option.some.inj e; omega))
  have HR2 := hid (HR1.out.kept' hg2 (by intro e; have := Option.some.inj e; omega))
  have HP2 := hid hp2
  have HV1 := hid ov1
  have HU1 := hid ou1
  have HT1 := hid ht1
  have HC1 := hid hcut1
  have HN := hid (Box.made w2 24 #[.bool k1, .slice av1 zs1.length cv1, .slice au1 ts1.length cu1])
  have HNB := hid (alloc_later w2 (.cells #[.bool k1, .slice av1 zs1.length cv1, .slice au1 ts1.length cu1] 24))
  obtain ⟨Z, hZ⟩ : ∃ Z, w2.alloc (.cells #[.bool k1, .slice av1 zs1.length cv1, .slice au1 ts1.length cu1] 24) = Z := ⟨_, rfl⟩
  rw [hZ] at HN HNB
  have HAZ := hid (HA2.out.later HNB.out HA2.out.lt)
  have HBZ := hid (HB2.out.later HNB.out HB2.out.lt)
  clear ov1 ou1 ht1 hp2 hg2 hcut1 HW1 HA1 HB1 HR1 HP1 H1 ka0 ka1 ka2 kb0 kb1 kb2
  have ka0 : Z.cell? ⟨w.heap.size, 3, none⟩ = some (.bool m) := HAZ.out.cell 3
  have ka1 : Z.cell? ⟨w.heap.size, 4, none⟩ = some (.slice c us.length cc) := HAZ.out.cell 4
  have ka2 : Z.cell? ⟨w.heap.size, 5, none⟩ = some (.slice d vs.length cd) := HAZ.out.cell 5
  have kb0 : Z.cell? ⟨w.heap.size + 1, 3, none⟩ = some (.bool m2) := HBZ.out.cell 3
  have kb1 : Z.cell? ⟨w.heap.size + 1, 4, none⟩ = some (.slice c2 us2.length cc2) := HBZ.out.cell 4
  have kb2 : Z.cell? ⟨w.heap.size + 1, 5, none⟩ = some (.slice d2 vs2.length cd2) := HBZ.out.cell 5
  go_wp2_with fail
  refine Calls.mono (H2.out _ p code1 (bt HW2.out HNB.out) (HP2.out.later HNB.out HP2.out.lt)) ?_
  rintro x w3 ⟨k2, v2, zs2, u2, ts2, code2, rfl, ov2, ou2, ht2, hp3, hg3, hcut2⟩
  obtain ⟨av2, cv2, rfl⟩ := own_slice' ov2
  obtain ⟨au2, cu2, rfl⟩ := own_slice' ou2
  have hZ3 : Z.heap.size ≤ w3.heap.size := hg3.size
  have hw2Z : w2.heap.size < Z.heap.size := HN.out.lt
  have HW3 : Hid (Below w.heap.size w w3) := (bt HW2.out HNB.out).grown hg3 (bt HW2.out HNB.out).size (fun q hq => by have e := Option.some.inj hq; omega)
  have HR3 := hid ((HR2.out.later HNB.out HR2.out.lt).kept' hg3 (by intro e; have := Option.some.inj e; omega))
  have HN3 := hid (HN.out.kept' hg3 (by intro e; have := Option.some.inj e; omega))
  have HP3 := hid hp3
  have hk : ∀ (v : Value) (q : Nat), (∀ g, v.ownBlock = some g → q ≤ g) → p < q → v.ownBlock = none ∨ v.ownBlock ≠ some p := fun v q h1 h2 => by
    cases e : v.ownBlock with
    | none => exact .inl rfl
    | some g => right; intro h; have e2 := Option.some.inj h; have := h1 g e; omega
  have HV3 := hid (World.ownsRow.kept (owns_later HV1.out HNB.out) hg3 (hk _ w1.heap.size (fun g hg => (HV1.out.lt g hg).1) hp1l))
  have HU3 := hid (World.ownsRow.kept (owns_later HU1.out HNB.out) hg3 (hk _ w1.heap.size (fun g hg => (HU1.out.lt g hg).1) hp1l))
  have HV4 := hid ov2
  have HU4 := hid ou2
  have HT2 := hid ht2
  have HC2 := hid hcut2
  clear hk
  have HM := hid (Box.made w3 24 #[.bool k2, .slice av2 zs2.length cv2, .slice au2 ts2.length cu2])
  have HMB := hid (alloc_later w3 (.cells #[.bool k2, .slice av2 zs2.length cv2, .slice au2 ts2.length cu2] 24))
  obtain ⟨Q, hQ⟩ : ∃ Q, w3.alloc (.cells #[.bool k2, .slice av2 zs2.length cv2, .slice au2 ts2.length cu2] 24) = Q := ⟨_, rfl⟩
  rw [hQ] at HM HMB
  have HNQ := hid (HN3.out.later HMB.out HN3.out.lt)
  have HTO := hid (gtold_any p code2 k1 av1 zs1.length cv1 au1 ts1.length cu1 k2 av2 zs2.length cv2 au2 ts2.length cu2 Q (HP3.out.later HMB.out HP3.out.lt))
  clear ov2 ou2 ht2 hp3 hg3 hcut2 H2 ka0 ka1 ka2 kb0 kb1 kb2
  have ka0 : Q.cell? ⟨w2.heap.size, 0, none⟩ = some (.bool k1) := HNQ.out.cell 0
  have ka1 : Q.cell? ⟨w2.heap.size, 1, none⟩ = some (.slice av1 zs1.length cv1) := HNQ.out.cell 1
  have ka2 : Q.cell? ⟨w2.heap.size, 2, none⟩ = some (.slice au1 ts1.length cu1) := HNQ.out.cell 2
  have kb0 : Q.cell? ⟨w3.heap.size, 0, none⟩ = some (.bool k2) := HM.out.cell 0
  have kb1 : Q.cell? ⟨w3.heap.size, 1, none⟩ = some (.slice av2 zs2.length cv2) := HM.out.cell 1
  have kb2 : Q.cell? ⟨w3.heap.size, 2, none⟩ = some (.slice au2 ts2.length cu2) := HM.out.cell 2
  go_wp2_with fail
  refine Calls.mono HTO.out ?_
  rintro x w4 ⟨rfl, hb4⟩
  have HW4x := hid hb4
  have HR4 := hid (HR3.out.later (bt HMB.out hb4) HR3.out.lt)
  have HW4 := hid (bt HW3.out (bt HMB.out hb4))
  have HOO := hid (And.intro (owns_later HV3.out (bt HMB.out hb4)) (And.intro (owns_later HU3.out (bt HMB.out hb4)) (And.intro (owns_later HV4.out (bt HMB.out hb4)) (owns_later HU4.out (bt HMB.out hb4)))))
  have hlo : w.heap.size ≤ w1.heap.size := by omega
  have hlZ : w.heap.size ≤ Z.heap.size := by omega
  clear hb4 ka0 ka1 ka2 kb0 kb1 kb2
  have m0 : w4.cell? ⟨w.heap.size + 1 + 1, 0, none⟩ = some (.bool false) := HR4.out.cell 0
  have m1 : w4.cell? ⟨w.heap.size + 1 + 1, 1, none⟩ = some (.slice none 0 0) := HR4.out.cell 1
  have m2' : w4.cell? ⟨w.heap.size + 1 + 1, 2, none⟩ = some (.slice none 0 0) := HR4.out.cell 2
  have m3 : w4.cell? ⟨w.heap.size + 1 + 1, 3, none⟩ = some (.bool false) := HR4.out.cell 3
  have m4 : w4.cell? ⟨w.heap.size + 1 + 1, 4, none⟩ = some (.slice none 0 0) := HR4.out.cell 4
  have m5 : w4.cell? ⟨w.heap.size + 1 + 1, 5, none⟩ = some (.slice none 0 0) := HR4.out.cell 5
  have f0 := HR4.out.free 0
  have f1 := HR4.out.free 1
  have f2 := HR4.out.free 2
  have f3 := HR4.out.free 3
  have f4 := HR4.out.free 4
  have f5 := HR4.out.free 5
  have HTW := hid (gtwo HT1.out HT2.out (fun h => (HZ1.out h).1) (fun h => (HZ1.out h).2))
  have hsQ := (bt HMB.out HW4x.out).size
  by_cases hc2 : code2 = 0
  · rw [if_pos hc2]
    have HFIN := hid (HTW.out.1 hc2)
    clear HTW hc2
    go_wp2_with fail
    have B1 := box_put6 HR4.out (.bool k1) (.slice av1 zs1.length cv1) (.slice au1 ts1.length cu1) (.bool k2) (.slice av2 zs2.length cv2) (.slice au2 ts2.length cu2)
    have G1 := below_put6 HW4.out (w.heap.size + 1 + 1) (by omega) (.bool k1) (.slice av1 zs1.length cv1) (.slice au1 ts1.length cu1) (.bool k2) (.slice av2 zs2.length cv2) (.slice au2 ts2.length cu2)
    have hXX := HX.out.2.2.2.size
    have hput : ∀ {base k : Nat} {v : Value} {l : List Value}, w4.ownsRow base 63 1 v k l → (∀ g, v.ownBlock = some g → X.heap.size ≤ g) → ((((((w4.setCell ⟨w.heap.size + 1 + 1, 0, none⟩ (.bool k1)).setCell ⟨w.heap.size + 1 + 1, 1, none⟩ (.slice av1 zs1.length cv1)).setCell ⟨w.heap.size + 1 + 1, 2, none⟩ (.slice au1 ts1.length cu1)).setCell ⟨w.heap.size + 1 + 1, 3, none⟩ (.bool k2)).setCell ⟨w.heap.size + 1 + 1, 4, none⟩ (.slice av2 zs2.length cv2)).setCell ⟨w.heap.size + 1 + 1, 5, none⟩ (.slice au2 ts2.length cu2)).ownsRow base 63 1 v k l := fun h hb => own_put6 h _ (fun g hg => by have := hb g hg; omega) _ _ _ _ _ _
    clear m0 m1 m2' m3 m4 m5 f0 f1 f2 f3 f4 f5
    refine bodyPost_ret (gres_run (by rfl) B1 _ rfl) rfl ?_
    exact ⟨k1, av1, cv1, zs1, au1, cu1, ts1, k2, av2, cv2, zs2, au2, cu2, ts2, code2, rfl, ⟨owns_base (hput HOO.out.1 (fun g hg => by have := (HOO.out.1.lt g hg).1; omega)) hlo, owns_base (hput HOO.out.2.1 (fun g hg => by have := (HOO.out.2.1.lt g hg).1; omega)) hlo, owns_base (hput HOO.out.2.2.1 (fun g hg => by have := (HOO.out.2.2.1.lt g hg).1; omega)) hlZ, owns_base (hput HOO.out.2.2.2 (fun g hg => by have := (HOO.out.2.2.2.lt g hg).1; omega)) hlZ⟩, HFIN.out, G1, w2, HC1.out.up hlo (Nat.le_refl _), HC2.out.up HNB.out.size (by simp [World.setCell]; omega)⟩
  · rw [if_neg hc2]
    have HFIN := hid (HTW.out.2 hc2)
    clear HTW hc2
    go_wp2_with fail
    have B1 := box_put6 HR4.out (.bool false) (.slice none 0 0) (.slice none 0 0) (.bool false) (.slice none 0 0) (.slice none 0 0)
    have G1 := below_put6 HW4.out (w.heap.size + 1 + 1) (by omega) (.bool false) (.slice none 0 0) (.slice none 0 0) (.bool false) (.slice none 0 0) (.slice none 0 0)
    clear m0 m1 m2' m3 m4 m5 f0 f1 f2 f3 f4 f5
    refine bodyPost_ret (gres_run (by rfl) B1 _ rfl) rfl ?_
    exact ⟨false, none, 0, [], none, 0, [], false, none, 0, [], none, 0, [], code2, rfl, ⟨World.ownsRow_nil _ _ _ _, World.ownsRow_nil _ _ _ _, World.ownsRow_nil _ _ _ _, World.ownsRow_nil _ _ _ _⟩, HFIN.out, G1, _, kcut_nil _ _ G1.size, kcut_nil _ _ (Nat.le_refl _)⟩
set_option maxHeartbeats 3200000 in
theorem gSub_cut (n : Bool) (a : Option Addr) (ca : Nat) (xs : List Int) (b : Option Addr) (cb : Nat) (ys : List Int) (m : Bool) (c : Option Addr) (cc : Nat) (us : List Int) (d : Option Addr) (cd : Nat) (vs : List Int) (n2 : Bool) (a2 : Option Addr) (ca2 : Nat) (xs2 : List Int) (b2' : Option Addr) (cb2 : Nat) (ys2 : List Int) (m2 : Bool) (c2 : Option Addr) (cc2 : Nat) (us2 : List Int) (d2 : Option Addr) (cd2 : Nat) (vs2 : List Int) (w : World) (sx : Sl w (.slice a xs.length ca) xs) (sy : Sl w (.slice b ys.length cb) ys) (su : Sl w (.slice c us.length cc) us) (sv : Sl w (.slice d vs.length cd) vs) (sx2 : Sl w (.slice a2 xs2.length ca2) xs2) (sy2 : Sl w (.slice b2' ys2.length cb2) ys2) (su2 : Sl w (.slice c2 us2.length cc2) us2) (sv2 : Sl w (.slice d2 vs2.length cd2) vs2) :
    Calls Tryz.prog 10 #[.agg #[.bool n, .slice a xs.length ca, .slice b ys.length cb, .bool m, .slice c us.length cc, .slice d vs.length cd], .agg #[.bool n2, .slice a2 xs2.length ca2, .slice b2' ys2.length cb2, .bool m2, .slice c2 us2.length cc2, .slice d2 vs2.length cd2]] w (KToldC w (fstE (gchk n xs ys m us vs) (gchk n2 xs2 ys2 m2 us2 vs2)) (rlong (rq n xs ys - rq n2 xs2 ys2) ∨ rlong (rq m us vs - rq m2 us2 vs2)) (rq n xs ys - rq n2 xs2 ys2) (rq m us vs - rq m2 us2 vs2)) := by
  have HX := hid (boxes3r w 26 #[.bool n, .slice a xs.length ca, .slice b ys.length cb, .bool m, .slice c us.length cc, .slice d vs.length cd] #[.bool n2, .slice a2 xs2.length ca2, .slice b2' ys2.length cb2, .bool m2, .slice c2 us2.length cc2, .slice d2 vs2.length cd2] #[.bool false, .slice none 0 0, .slice none 0 0, .bool false, .slice none 0 0, .slice none 0 0])
  obtain ⟨X, hX⟩ : ∃ X, ((w.alloc (.cells #[.bool n, .slice a xs.length ca, .slice b ys.length cb, .bool m, .slice c us.length cc, .slice d vs.length cd] 26)).alloc (.cells #[.bool n2, .slice a2 xs2.length ca2, .slice b2' ys2.length cb2, .bool m2, .slice c2 us2.length cc2, .slice d2 vs2.length cd2] 26)).alloc (.cells #[.bool false, .slice none 0 0, .slice none 0 0, .bool false, .slice none 0 0, .slice none 0 0] 26) = X := ⟨_, rfl⟩
  rw [hX] at HX
  have HY := hid (Box.made X 26 #[.bool n, .slice a xs.length ca, .slice b ys.length cb, .bool m, .slice c us.length cc, .slice d vs.length cd, .bool n2, .slice a2 xs2.length ca2, .slice b2' ys2.length cb2, .bool m2, .slice c2 us2.length cc2, .slice d2 vs2.length cd2])
  have HYB := hid (alloc_later X (.cells #[.bool n, .slice a xs.length ca, .slice b ys.length cb, .bool m, .slice c us.length cc, .slice d vs.length cd, .bool n2, .slice a2 xs2.length ca2, .slice b2' ys2.length cb2, .bool m2, .slice c2 us2.length cc2, .slice d2 vs2.length cd2] 26))
  obtain ⟨Y, hY⟩ : ∃ Y, X.alloc (.cells #[.bool n, .slice a xs.length ca, .slice b ys.length cb, .bool m, .slice c us.length cc, .slice d vs.length cd, .bool n2, .slice a2 xs2.length ca2, .slice b2' ys2.length cb2, .bool m2, .slice c2 us2.length cc2, .slice d2 vs2.length cd2] 26) = Y := ⟨_, rfl⟩
  rw [hY] at HY HYB
  have HWY := hid (bt HX.out.2.2.2 HYB.out)
  have HL := hid (glookAt2_any X.heap.size n a ca xs b cb ys m c cc us d cd vs n2 a2 ca2 xs2 b2' cb2 ys2 m2 c2 cc2 us2 d2 cd2 vs2 Y HY.out (sx.later HWY.out) (sy.later HWY.out) (su.later HWY.out) (sv.later HWY.out) (sx2.later HWY.out) (sy2.later HWY.out) (su2.later HWY.out) (sv2.later HWY.out))
  have H1 : Hid (∀ V p E, Below w.heap.size w V → Box V p 53 #[.int .i64 E] → Calls Tryz.prog 29 #[.pointer (some ⟨p, 0, none⟩), .agg #[.bool n, .slice a xs.length ca, .slice b ys.length cb], .agg #[.bool n2, .slice a2 xs2.length ca2, .slice b2' ys2.length cb2]] V (GTell V p (fstE E (rboth n xs ys n2 xs2 ys2)) (rq n xs ys - rq n2 xs2 ys2))) := fun V p E hv hb => gdifference_any p E n a ca xs b cb ys n2 a2 ca2 xs2 b2' cb2 ys2 V hb (sx.later hv) (sy.later hv) (sx2.later hv) (sy2.later hv)
  have H2 : Hid (∀ V p E, Below w.heap.size w V → Box V p 53 #[.int .i64 E] → Calls Tryz.prog 29 #[.pointer (some ⟨p, 0, none⟩), .agg #[.bool m, .slice c us.length cc, .slice d vs.length cd], .agg #[.bool m2, .slice c2 us2.length cc2, .slice d2 vs2.length cd2]] V (GTell V p (fstE E (rboth m us vs m2 us2 vs2)) (rq m us vs - rq m2 us2 vs2))) := fun V p E hv hb => gdifference_any p E m c cc us d cd vs m2 c2 cc2 us2 d2 cd2 vs2 V hb (su.later hv) (sv.later hv) (su2.later hv) (sv2.later hv)
  have HZ1 : Hid (fstE (gchk n xs ys m us vs) (gchk n2 xs2 ys2 m2 us2 vs2) = 0 → rboth n xs ys n2 xs2 ys2 = 0 ∧ rboth m us vs m2 us2 vs2 = 0) := fun h => by
    obtain ⟨h1, h2⟩ := fstE_ok h
    exact ⟨rboth0 (gchk_ok h1).1 (gchk_ok h2).1, rboth0 (gchk_ok h1).2 (gchk_ok h2).2⟩
  generalize fstE (gchk n xs ys m us vs) (gchk n2 xs2 ys2 m2 us2 vs2) = E0 at *
  generalize rboth n xs ys n2 xs2 ys2 = e1 at *
  generalize rboth m us vs m2 us2 vs2 = e2 at *
  generalize rq n xs ys - rq n2 xs2 ys2 = q1 at *
  generalize rq m us vs - rq m2 us2 vs2 = q2 at *
  clear sx sy su sv sx2 sy2 su2 sv2
  have ka0 : X.cell? ⟨w.heap.size, 0, none⟩ = some (.bool n) := HX.out.1.cell 0
  have ka1 : X.cell? ⟨w.heap.size, 1, none⟩ = some (.slice a xs.length ca) := HX.out.1.cell 1
  have ka2 : X.cell? ⟨w.heap.size, 2, none⟩ = some (.slice b ys.length cb) := HX.out.1.cell 2
  have ka3 : X.cell? ⟨w.heap.size, 3, none⟩ = some (.bool m) := HX.out.1.cell 3
  have ka4 : X.cell? ⟨w.heap.size, 4, none⟩ = some (.slice c us.length cc) := HX.out.1.cell 4
  have ka5 : X.cell? ⟨w.heap.size, 5, none⟩ = some (.slice d vs.length cd) := HX.out.1.cell 5
  have kb0 : X.cell? ⟨w.heap.size + 1, 0, none⟩ = some (.bool n2) := HX.out.2.1.cell 0
  have kb1 : X.cell? ⟨w.heap.size + 1, 1, none⟩ = some (.slice a2 xs2.length ca2) := HX.out.2.1.cell 1
  have kb2 : X.cell? ⟨w.heap.size + 1, 2, none⟩ = some (.slice b2' ys2.length cb2) := HX.out.2.1.cell 2
  have kb3 : X.cell? ⟨w.heap.size + 1, 3, none⟩ = some (.bool m2) := HX.out.2.1.cell 3
  have kb4 : X.cell? ⟨w.heap.size + 1, 4, none⟩ = some (.slice c2 us2.length cc2) := HX.out.2.1.cell 4
  have kb5 : X.cell? ⟨w.heap.size + 1, 5, none⟩ = some (.slice d2 vs2.length cd2) := HX.out.2.1.cell 5
  go_enter Tryz.func10, Tryz.ntmps10
  go_wp2_with fail
  refine Calls.mono HL.out ?_
  rintro x w1 ⟨p, rfl, hpl, hpb, hb1⟩
  have HW1 := hid (bt HWY.out hb1)
  have HA1 := hid (HX.out.1.later (bt HYB.out hb1) HX.out.1.lt)
  have HB1 := hid (HX.out.2.1.later (bt HYB.out hb1) HX.out.2.1.lt)
  have HR1 := hid (HX.out.2.2.1.later (bt HYB.out hb1) HX.out.2.2.1.lt)
  have HP1 := hid hpb
  have hpX : X.heap.size < p := Nat.lt_of_lt_of_le HY.out.lt hpl
  have hrX : w.heap.size + 1 + 1 < X.heap.size := HX.out.2.2.1.lt
  clear hpb hb1 hpl HL ka0 ka1 ka2 ka3 ka4 ka5 kb0 kb1 kb2 kb3 kb4 kb5
  have ka0 : w1.cell? ⟨w.heap.size, 0, none⟩ = some (.bool n) := HA1.out.cell 0
  have ka1 : w1.cell? ⟨w.heap.size, 1, none⟩ = some (.slice a xs.length ca) := HA1.out.cell 1
  have ka2 : w1.cell? ⟨w.heap.size, 2, none⟩ = some (.slice b ys.length cb) := HA1.out.cell 2
  have kb0 : w1.cell? ⟨w.heap.size + 1, 0, none⟩ = some (.bool n2) := HB1.out.cell 0
  have kb1 : w1.cell? ⟨w.heap.size + 1, 1, none⟩ = some (.slice a2 xs2.length ca2) := HB1.out.cell 1
  have kb2 : w1.cell? ⟨w.heap.size + 1, 2, none⟩ = some (.slice b2' ys2.length cb2) := HB1.out.cell 2
  go_wp2_with fail
  refine Calls.mono (H1.out _ p E0 HW1.out HP1.out) ?_
  rintro x w2 ⟨k1, v1, zs1, u1, ts1, code1, rfl, ov1, ou1, ht1, hp2, hg2, hcut1⟩
  obtain ⟨av1, cv1, rfl⟩ := own_slice' ov1
  obtain ⟨au1, cu1, rfl⟩ := own_slice' ou1
  have hw12 : w1.heap.size ≤ w2.heap.size := hg2.size
  have hp1l : p < w1.heap.size := HP1.out.lt
  have HW2 : Hid (Below w.heap.size w w2) := HW1.out.grown hg2 HW1.out.size (fun q hq => by have e := Option.some.inj hq; omega)
  have HA2 := hid (HA1.out.kept' hg2 (by intro e; have := Option.some.inj e; omega))
  have HB2 := hid (HB1.out.kept' hg2 (by intro e; have := Option.some.inj e; omega))
  have HR2 := hid (HR1.out.kept' hg2 (by intro e; have := Option.some.inj e; omega))
  have HP2 := hid hp2
  have HV1 := hid ov1
  have HU1 := hid ou1
  have HT1 := hid ht1
  have HC1 := hid hcut1
  have HN := hid (Box.made w2 24 #[.bool k1, .slice av1 zs1.length cv1, .slice au1 ts1.length cu1])
  have HNB := hid (alloc_later w2 (.cells #[.bool k1, .slice av1 zs1.length cv1, .slice au1 ts1.length cu1] 24))
  obtain ⟨Z, hZ⟩ : ∃ Z, w2.alloc (.cells #[.bool k1, .slice av1 zs1.length cv1, .slice au1 ts1.length cu1] 24) = Z := ⟨_, rfl⟩
  rw [hZ] at HN HNB
  have HAZ := hid (HA2.out.later HNB.out HA2.out.lt)
  have HBZ := hid (HB2.out.later HNB.out HB2.out.lt)
  clear ov1 ou1 ht1 hp2 hg2 hcut1 HW1 HA1 HB1 HR1 HP1 H1 ka0 ka1 ka2 kb0 kb1 kb2
  have ka0 : Z.cell? ⟨w.heap.size, 3, none⟩ = some (.bool m) := HAZ.out.cell 3
  have ka1 : Z.cell? ⟨w.heap.size, 4, none⟩ = some (.slice c us.length cc) := HAZ.out.cell 4
  have ka2 : Z.cell? ⟨w.heap.size, 5, none⟩ = some (.slice d vs.length cd) := HAZ.out.cell 5
  have kb0 : Z.cell? ⟨w.heap.size + 1, 3, none⟩ = some (.bool m2) := HBZ.out.cell 3
  have kb1 : Z.cell? ⟨w.heap.size + 1, 4, none⟩ = some (.slice c2 us2.length cc2) := HBZ.out.cell 4
  have kb2 : Z.cell? ⟨w.heap.size + 1, 5, none⟩ = some (.slice d2 vs2.length cd2) := HBZ.out.cell 5
  go_wp2_with fail
  refine Calls.mono (H2.out _ p code1 (bt HW2.out HNB.out) (HP2.out.later HNB.out HP2.out.lt)) ?_
  rintro x w3 ⟨k2, v2, zs2, u2, ts2, code2, rfl, ov2, ou2, ht2, hp3, hg3, hcut2⟩
  obtain ⟨av2, cv2, rfl⟩ := own_slice' ov2
  obtain ⟨au2, cu2, rfl⟩ := own_slice' ou2
  have hZ3 : Z.heap.size ≤ w3.heap.size := hg3.size
  have hw2Z : w2.heap.size < Z.heap.size := HN.out.lt
  have HW3 : Hid (Below w.heap.size w w3) := (bt HW2.out HNB.out).grown hg3 (bt HW2.out HNB.out).size (fun q hq => by have e := Option.some.inj hq; omega)
  have HR3 := hid ((HR2.out.later HNB.out HR2.out.lt).kept' hg3 (by intro e; have := Option.some.inj e; omega))
  have HN3 := hid (HN.out.kept' hg3 (by intro e; have := Option.some.inj e; omega))
  have HP3 := hid hp3
  have hk : ∀ (v : Value) (q : Nat), (∀ g, v.ownBlock = some g → q ≤ g) → p < q → v.ownBlock = none ∨ v.ownBlock ≠ some p := fun v q h1 h2 => by
    cases e : v.ownBlock with
    | none => exact .inl rfl
    | some g => right; intro h; have e2 := Option.some.inj h; have := h1 g e; omega
  have HV3 := hid (World.ownsRow.kept (owns_later HV1.out HNB.out) hg3 (hk _ w1.heap.size (fun g hg => (HV1.out.lt g hg).1) hp1l))
  have HU3 := hid (World.ownsRow.kept (owns_later HU1.out HNB.out) hg3 (hk _ w1.heap.size (fun g hg => (HU1.out.lt g hg).1) hp1l))
  have HV4 := hid ov2
  have HU4 := hid ou2
  have HT2 := hid ht2
  have HC2 := hid hcut2
  clear hk
  have HM := hid (Box.made w3 24 #[.bool k2, .slice av2 zs2.length cv2, .slice au2 ts2.length cu2])
  have HMB := hid (alloc_later w3 (.cells #[.bool k2, .slice av2 zs2.length cv2, .slice au2 ts2.length cu2] 24))
  obtain ⟨Q, hQ⟩ : ∃ Q, w3.alloc (.cells #[.bool k2, .slice av2 zs2.length cv2, .slice au2 ts2.length cu2] 24) = Q := ⟨_, rfl⟩
  rw [hQ] at HM HMB
  have HNQ := hid (HN3.out.later HMB.out HN3.out.lt)
  have HTO := hid (gtold_any p code2 k1 av1 zs1.length cv1 au1 ts1.length cu1 k2 av2 zs2.length cv2 au2 ts2.length cu2 Q (HP3.out.later HMB.out HP3.out.lt))
  clear ov2 ou2 ht2 hp3 hg3 hcut2 H2 ka0 ka1 ka2 kb0 kb1 kb2
  have ka0 : Q.cell? ⟨w2.heap.size, 0, none⟩ = some (.bool k1) := HNQ.out.cell 0
  have ka1 : Q.cell? ⟨w2.heap.size, 1, none⟩ = some (.slice av1 zs1.length cv1) := HNQ.out.cell 1
  have ka2 : Q.cell? ⟨w2.heap.size, 2, none⟩ = some (.slice au1 ts1.length cu1) := HNQ.out.cell 2
  have kb0 : Q.cell? ⟨w3.heap.size, 0, none⟩ = some (.bool k2) := HM.out.cell 0
  have kb1 : Q.cell? ⟨w3.heap.size, 1, none⟩ = some (.slice av2 zs2.length cv2) := HM.out.cell 1
  have kb2 : Q.cell? ⟨w3.heap.size, 2, none⟩ = some (.slice au2 ts2.length cu2) := HM.out.cell 2
  go_wp2_with fail
  refine Calls.mono HTO.out ?_
  rintro x w4 ⟨rfl, hb4⟩
  have HW4x := hid hb4
  have HR4 := hid (HR3.out.later (bt HMB.out hb4) HR3.out.lt)
  have HW4 := hid (bt HW3.out (bt HMB.out hb4))
  have HOO := hid (And.intro (owns_later HV3.out (bt HMB.out hb4)) (And.intro (owns_later HU3.out (bt HMB.out hb4)) (And.intro (owns_later HV4.out (bt HMB.out hb4)) (owns_later HU4.out (bt HMB.out hb4)))))
  have hlo : w.heap.size ≤ w1.heap.size := by omega
  have hlZ : w.heap.size ≤ Z.heap.size := by omega
  clear hb4 ka0 ka1 ka2 kb0 kb1 kb2
  have m0 : w4.cell? ⟨w.heap.size + 1 + 1, 0, none⟩ = some (.bool false) := HR4.out.cell 0
  have m1 : w4.cell? ⟨w.heap.size + 1 + 1, 1, none⟩ = some (.slice none 0 0) := HR4.out.cell 1
  have m2' : w4.cell? ⟨w.heap.size + 1 + 1, 2, none⟩ = some (.slice none 0 0) := HR4.out.cell 2
  have m3 : w4.cell? ⟨w.heap.size + 1 + 1, 3, none⟩ = some (.bool false) := HR4.out.cell 3
  have m4 : w4.cell? ⟨w.heap.size + 1 + 1, 4, none⟩ = some (.slice none 0 0) := HR4.out.cell 4
  have m5 : w4.cell? ⟨w.heap.size + 1 + 1, 5, none⟩ = some (.slice none 0 0) := HR4.out.cell 5
  have f0 := HR4.out.free 0
  have f1 := HR4.out.free 1
  have f2 := HR4.out.free 2
  have f3 := HR4.out.free 3
  have f4 := HR4.out.free 4
  have f5 := HR4.out.free 5
  have HTW := hid (gtwo HT1.out HT2.out (fun h => (HZ1.out h).1) (fun h => (HZ1.out h).2))
  have hsQ := (bt HMB.out HW4x.out).size
  by_cases hc2 : code2 = 0
  · rw [if_pos hc2]
    have HFIN := hid (HTW.out.1 hc2)
    clear HTW hc2
    go_wp2_with fail
    have B1 := box_put6 HR4.out (.bool k1) (.slice av1 zs1.length cv1) (.slice au1 ts1.length cu1) (.bool k2) (.slice av2 zs2.length cv2) (.slice au2 ts2.length cu2)
    have G1 := below_put6 HW4.out (w.heap.size + 1 + 1) (by omega) (.bool k1) (.slice av1 zs1.length cv1) (.slice au1 ts1.length cu1) (.bool k2) (.slice av2 zs2.length cv2) (.slice au2 ts2.length cu2)
    have hXX := HX.out.2.2.2.size
    have hput : ∀ {base k : Nat} {v : Value} {l : List Value}, w4.ownsRow base 63 1 v k l → (∀ g, v.ownBlock = some g → X.heap.size ≤ g) → ((((((w4.setCell ⟨w.heap.size + 1 + 1, 0, none⟩ (.bool k1)).setCell ⟨w.heap.size + 1 + 1, 1, none⟩ (.slice av1 zs1.length cv1)).setCell ⟨w.heap.size + 1 + 1, 2, none⟩ (.slice au1 ts1.length cu1)).setCell ⟨w.heap.size + 1 + 1, 3, none⟩ (.bool k2)).setCell ⟨w.heap.size + 1 + 1, 4, none⟩ (.slice av2 zs2.length cv2)).setCell ⟨w.heap.size + 1 + 1, 5, none⟩ (.slice au2 ts2.length cu2)).ownsRow base 63 1 v k l := fun h hb => own_put6 h _ (fun g hg => by have := hb g hg; omega) _ _ _ _ _ _
    clear m0 m1 m2' m3 m4 m5 f0 f1 f2 f3 f4 f5
    refine bodyPost_ret (gres_run (by rfl) B1 _ rfl) rfl ?_
    exact ⟨k1, av1, cv1, zs1, au1, cu1, ts1, k2, av2, cv2, zs2, au2, cu2, ts2, code2, rfl, ⟨owns_base (hput HOO.out.1 (fun g hg => by have := (HOO.out.1.lt g hg).1; omega)) hlo, owns_base (hput HOO.out.2.1 (fun g hg => by have := (HOO.out.2.1.lt g hg).1; omega)) hlo, owns_base (hput HOO.out.2.2.1 (fun g hg => by have := (HOO.out.2.2.1.lt g hg).1; omega)) hlZ, owns_base (hput HOO.out.2.2.2 (fun g hg => by have := (HOO.out.2.2.2.lt g hg).1; omega)) hlZ⟩, HFIN.out, G1, w2, HC1.out.up hlo (Nat.le_refl _), HC2.out.up HNB.out.size (by simp [World.setCell]; omega)⟩
  · rw [if_neg hc2]
    have HFIN := hid (HTW.out.2 hc2)
    clear HTW hc2
    go_wp2_with fail
    have B1 := box_put6 HR4.out (.bool false) (.slice none 0 0) (.slice none 0 0) (.bool false) (.slice none 0 0) (.slice none 0 0)
    have G1 := below_put6 HW4.out (w.heap.size + 1 + 1) (by omega) (.bool false) (.slice none 0 0) (.slice none 0 0) (.bool false) (.slice none 0 0) (.slice none 0 0)
    clear m0 m1 m2' m3 m4 m5 f0 f1 f2 f3 f4 f5
    refine bodyPost_ret (gres_run (by rfl) B1 _ rfl) rfl ?_
    exact ⟨false, none, 0, [], none, 0, [], false, none, 0, [], none, 0, [], code2, rfl, ⟨World.ownsRow_nil _ _ _ _, World.ownsRow_nil _ _ _ _, World.ownsRow_nil _ _ _ _, World.ownsRow_nil _ _ _ _⟩, HFIN.out, G1, _, kcut_nil _ _ G1.size, kcut_nil _ _ (Nat.le_refl _)⟩
set_option maxHeartbeats 3200000 in
theorem gMul_cut (n : Bool) (a : Option Addr) (ca : Nat) (xs : List Int) (b : Option Addr) (cb : Nat) (ys : List Int) (m : Bool) (c : Option Addr) (cc : Nat) (us : List Int) (d : Option Addr) (cd : Nat) (vs : List Int) (n2 : Bool) (a2 : Option Addr) (ca2 : Nat) (xs2 : List Int) (b2' : Option Addr) (cb2 : Nat) (ys2 : List Int) (m2 : Bool) (c2 : Option Addr) (cc2 : Nat) (us2 : List Int) (d2 : Option Addr) (cd2 : Nat) (vs2 : List Int) (w : World) (sx : Sl w (.slice a xs.length ca) xs) (sy : Sl w (.slice b ys.length cb) ys) (su : Sl w (.slice c us.length cc) us) (sv : Sl w (.slice d vs.length cd) vs) (sx2 : Sl w (.slice a2 xs2.length ca2) xs2) (sy2 : Sl w (.slice b2' ys2.length cb2) ys2) (su2 : Sl w (.slice c2 us2.length cc2) us2) (sv2 : Sl w (.slice d2 vs2.length cd2) vs2) :
    Calls Tryz.prog 12 #[.agg #[.bool n, .slice a xs.length ca, .slice b ys.length cb, .bool m, .slice c us.length cc, .slice d vs.length cd], .agg #[.bool n2, .slice a2 xs2.length ca2, .slice b2' ys2.length cb2, .bool m2, .slice c2 us2.length cc2, .slice d2 vs2.length cd2]] w (KToldC w (fstE (gchk n xs ys m us vs) (gchk n2 xs2 ys2 m2 us2 vs2)) (mlong (rq n xs ys) (rq m us vs) (rq n2 xs2 ys2) (rq m2 us2 vs2)) (rq n xs ys * rq n2 xs2 ys2 - rq m us vs * rq m2 us2 vs2) (rq n xs ys * rq m2 us2 vs2 + rq m us vs * rq n2 xs2 ys2)) := by
  have HX := hid (boxes3r w 26 #[.bool n, .slice a xs.length ca, .slice b ys.length cb, .bool m, .slice c us.length cc, .slice d vs.length cd] #[.bool n2, .slice a2 xs2.length ca2, .slice b2' ys2.length cb2, .bool m2, .slice c2 us2.length cc2, .slice d2 vs2.length cd2] #[.bool false, .slice none 0 0, .slice none 0 0, .bool false, .slice none 0 0, .slice none 0 0])
  obtain ⟨X, hX⟩ : ∃ X, ((w.alloc (.cells #[.bool n, .slice a xs.length ca, .slice b ys.length cb, .bool m, .slice c us.length cc, .slice d vs.length cd] 26)).alloc (.cells #[.bool n2, .slice a2 xs2.length ca2, .slice b2' ys2.length cb2, .bool m2, .slice c2 us2.length cc2, .slice d2 vs2.length cd2] 26)).alloc (.cells #[.bool false, .slice none 0 0, .slice none 0 0, .bool false, .slice none 0 0, .slice none 0 0] 26) = X := ⟨_, rfl⟩
  rw [hX] at HX
  have HY := hid (Box.made X 26 #[.bool n, .slice a xs.length ca, .slice b ys.length cb, .bool m, .slice c us.length cc, .slice d vs.length cd, .bool n2, .slice a2 xs2.length ca2, .slice b2' ys2.length cb2, .bool m2, .slice c2 us2.length cc2, .slice d2 vs2.length cd2])
  have HYB := hid (alloc_later X (.cells #[.bool n, .slice a xs.length ca, .slice b ys.length cb, .bool m, .slice c us.length cc, .slice d vs.length cd, .bool n2, .slice a2 xs2.length ca2, .slice b2' ys2.length cb2, .bool m2, .slice c2 us2.length cc2, .slice d2 vs2.length cd2] 26))
  obtain ⟨Y, hY⟩ : ∃ Y, X.alloc (.cells #[.bool n, .slice a xs.length ca, .slice b ys.length cb, .bool m, .slice c us.length cc, .slice d vs.length cd, .bool n2, .slice a2 xs2.length ca2, .slice b2' ys2.length cb2, .bool m2, .slice c2 us2.length cc2, .slice d2 vs2.length cd2] 26) = Y := ⟨_, rfl⟩
  rw [hY] at HY HYB
  have HWY := hid (bt HX.out.2.2.2 HYB.out)
  have HL := hid (glookAt2_any X.heap.size n a ca xs b cb ys m c cc us d cd vs n2 a2 ca2 xs2 b2' cb2 ys2 m2 c2 cc2 us2 d2 cd2 vs2 Y HY.out (sx.later HWY.out) (sy.later HWY.out) (su.later HWY.out) (sv.later HWY.out) (sx2.later HWY.out) (sy2.later HWY.out) (su2.later HWY.out) (sv2.later HWY.out))
  have H1 : Hid (∀ V p E, Below w.heap.size w V → w.heap.size ≤ p → Box V p 53 #[.int .i64 E] → Calls Tryz.prog 31 #[.pointer (some ⟨p, 0, none⟩), .agg #[.bool n, .slice a xs.length ca, .slice b ys.length cb, .bool m, .slice c us.length cc, .slice d vs.length cd], .agg #[.bool n2, .slice a2 xs2.length ca2, .slice b2' ys2.length cb2, .bool m2, .slice c2 us2.length cc2, .slice d2 vs2.length cd2]] V _) := hid (fun V p E hv hp hb => gtimes_any p E n a ca xs b cb ys m c cc us d cd vs n2 a2 ca2 xs2 b2' cb2 ys2 m2 c2 cc2 us2 d2 cd2 vs2 V hb (fun U hU => by
    have hw : Below w.heap.size w U := hv.grown hU hv.size (fun q hq => by have e := Option.some.inj hq; omega)
    exact ⟨sx.later hw, sy.later hw, su.later hw, sv.later hw, sx2.later hw, sy2.later hw, su2.later hw, sv2.later hw⟩))
  have HZ1 : Hid (fstE (gchk n xs ys m us vs) (gchk n2 xs2 ys2 m2 us2 vs2) = 0 → (rboth n xs ys n2 xs2 ys2 = 0 ∧ rboth m us vs m2 us2 vs2 = 0) ∧ rboth n xs ys m2 us2 vs2 = 0 ∧ rboth m us vs n2 xs2 ys2 = 0) := fun h => by
    obtain ⟨h1, h2⟩ := fstE_ok h
    exact ⟨⟨rboth0 (gchk_ok h1).1 (gchk_ok h2).1, rboth0 (gchk_ok h1).2 (gchk_ok h2).2⟩, rboth0 (gchk_ok h1).1 (gchk_ok h2).2, rboth0 (gchk_ok h1).2 (gchk_ok h2).1⟩
  generalize fstE (gchk n xs ys m us vs) (gchk n2 xs2 ys2 m2 us2 vs2) = E0 at *
  generalize rboth n xs ys n2 xs2 ys2 = e1 at *
  generalize rboth m us vs m2 us2 vs2 = e2 at *
  generalize rboth n xs ys m2 us2 vs2 = e3 at *
  generalize rboth m us vs n2 xs2 ys2 = e4 at *
  generalize rq n xs ys = r1 at *
  generalize rq m us vs = r2 at *
  generalize rq n2 xs2 ys2 = r3 at *
  generalize rq m2 us2 vs2 = r4 at *
  clear sx sy su sv sx2 sy2 su2 sv2
  have ka0 : X.cell? ⟨w.heap.size, 0, none⟩ = some (.bool n) := HX.out.1.cell 0
  have ka1 : X.cell? ⟨w.heap.size, 1, none⟩ = some (.slice a xs.length ca) := HX.out.1.cell 1
  have ka2 : X.cell? ⟨w.heap.size, 2, none⟩ = some (.slice b ys.length cb) := HX.out.1.cell 2
  have ka3 : X.cell? ⟨w.heap.size, 3, none⟩ = some (.bool m) := HX.out.1.cell 3
  have ka4 : X.cell? ⟨w.heap.size, 4, none⟩ = some (.slice c us.length cc) := HX.out.1.cell 4
  have ka5 : X.cell? ⟨w.heap.size, 5, none⟩ = some (.slice d vs.length cd) := HX.out.1.cell 5
  have kb0 : X.cell? ⟨w.heap.size + 1, 0, none⟩ = some (.bool n2) := HX.out.2.1.cell 0
  have kb1 : X.cell? ⟨w.heap.size + 1, 1, none⟩ = some (.slice a2 xs2.length ca2) := HX.out.2.1.cell 1
  have kb2 : X.cell? ⟨w.heap.size + 1, 2, none⟩ = some (.slice b2' ys2.length cb2) := HX.out.2.1.cell 2
  have kb3 : X.cell? ⟨w.heap.size + 1, 3, none⟩ = some (.bool m2) := HX.out.2.1.cell 3
  have kb4 : X.cell? ⟨w.heap.size + 1, 4, none⟩ = some (.slice c2 us2.length cc2) := HX.out.2.1.cell 4
  have kb5 : X.cell? ⟨w.heap.size + 1, 5, none⟩ = some (.slice d2 vs2.length cd2) := HX.out.2.1.cell 5
  go_enter Tryz.func12, Tryz.ntmps12
  go_wp2_with fail
  refine Calls.mono HL.out ?_
  rintro x w1 ⟨p, rfl, hpl, hpb, hb1⟩
  have HW1 := hid (bt HWY.out hb1)
  have HA1 := hid (HX.out.1.later (bt HYB.out hb1) HX.out.1.lt)
  have HB1 := hid (HX.out.2.1.later (bt HYB.out hb1) HX.out.2.1.lt)
  have HR1 := hid (HX.out.2.2.1.later (bt HYB.out hb1) HX.out.2.2.1.lt)
  have HP1 := hid hpb
  have hpX : X.heap.size < p := Nat.lt_of_lt_of_le HY.out.lt hpl
  have hrX : w.heap.size + 1 + 1 < X.heap.size := HX.out.2.2.1.lt
  clear hpb hb1 hpl HL ka0 ka1 ka2 ka3 ka4 ka5 kb0 kb1 kb2 kb3 kb4 kb5
  have ka0 : w1.cell? ⟨w.heap.size, 0, none⟩ = some (.bool n) := HA1.out.cell 0
  have ka1 : w1.cell? ⟨w.heap.size, 1, none⟩ = some (.slice a xs.length ca) := HA1.out.cell 1
  have ka2 : w1.cell? ⟨w.heap.size, 2, none⟩ = some (.slice b ys.length cb) := HA1.out.cell 2
  have ka3 : w1.cell? ⟨w.heap.size, 3, none⟩ = some (.bool m) := HA1.out.cell 3
  have ka4 : w1.cell? ⟨w.heap.size, 4, none⟩ = some (.slice c us.length cc) := HA1.out.cell 4
  have ka5 : w1.cell? ⟨w.heap.size, 5, none⟩ = some (.slice d vs.length cd) := HA1.out.cell 5
  have kb0 : w1.cell? ⟨w.heap.size + 1, 0, none⟩ = some (.bool n2) := HB1.out.cell 0
  have kb1 : w1.cell? ⟨w.heap.size + 1, 1, none⟩ = some (.slice a2 xs2.length ca2) := HB1.out.cell 1
  have kb2 : w1.cell? ⟨w.heap.size + 1, 2, none⟩ = some (.slice b2' ys2.length cb2) := HB1.out.cell 2
  have kb3 : w1.cell? ⟨w.heap.size + 1, 3, none⟩ = some (.bool m2) := HB1.out.cell 3
  have kb4 : w1.cell? ⟨w.heap.size + 1, 4, none⟩ = some (.slice c2 us2.length cc2) := HB1.out.cell 4
  have kb5 : w1.cell? ⟨w.heap.size + 1, 5, none⟩ = some (.slice d2 vs2.length cd2) := HB1.out.cell 5
  go_wp2_with fail
  refine Calls.mono (H1.out _ p E0 HW1.out (by omega) HP1.out) ?_
  rintro x w3 ⟨k1, av1, cv1, zs1, au1, cu1, ts1, c3, k2, av2, cv2, zs2, au2, cu2, ts2, code2, rfl, ⟨⟨ov1, ou1⟩, ⟨ov2, ou2⟩⟩, t3, t6, hp3, hg3, Wc, hca, hcb⟩
  have HCA := hid (And.intro hca hcb)
  clear hca hcb
  have hw13 : w1.heap.size ≤ w3.heap.size := hg3.size
  have hp1l : p < w1.heap.size := HP1.out.lt
  have HW3 : Hid (Below w.heap.size w w3) := HW1.out.grown hg3 HW1.out.size (fun q hq => by have e := Option.some.inj hq; omega)
  have HR3 := hid (HR1.out.kept' hg3 (by intro e; have := Option.some.inj e; omega))
  have HTO := hid (gtold_any p code2 k1 av1 zs1.length cv1 au1 ts1.length cu1 k2 av2 zs2.length cv2 au2 ts2.length cu2 w3 hp3)
  have HO3 := hid (And.intro ov1 (And.intro ou1 (And.intro ov2 ou2)))
  have h3 := g3_tells t3 (fun h => (HZ1.out h).1.1) (fun h => (HZ1.out h).1.2)
  have HTW := hid (gtwo' h3 (g3_tells t6 (fun h => by subst h; exact (HZ1.out h3.ok.1).2.1) (fun h => by subst h; exact (HZ1.out h3.ok.1).2.2)))
  clear h3 t3 t6 hp3 hg3 ov1 ou1 ov2 ou2 H1 ka0 ka1 ka2 ka3 ka4 ka5 kb0 kb1 kb2 kb3 kb4 kb5
  go_wp2_with fail
  refine Calls.mono HTO.out ?_
  rintro x w4 ⟨rfl, hb4⟩
  have HW4x := hid hb4.size
  have HR4 := hid (HR3.out.later hb4 HR3.out.lt)
  have HW4 := hid (bt HW3.out hb4)
  have HOO := hid (And.intro (owns_later HO3.out.1 hb4) (And.intro (owns_later HO3.out.2.1 hb4) (And.intro (owns_later HO3.out.2.2.1 hb4) (owns_later HO3.out.2.2.2 hb4))))
  have hlo : w.heap.size ≤ w1.heap.size := by omega
  clear hb4
  have m0 : w4.cell? ⟨w.heap.size + 1 + 1, 0, none⟩ = some (.bool false) := HR4.out.cell 0
  have m1 : w4.cell? ⟨w.heap.size + 1 + 1, 1, none⟩ = some (.slice none 0 0) := HR4.out.cell 1
  have m2' : w4.cell? ⟨w.heap.size + 1 + 1, 2, none⟩ = some (.slice none 0 0) := HR4.out.cell 2
  have m3 : w4.cell? ⟨w.heap.size + 1 + 1, 3, none⟩ = some (.bool false) := HR4.out.cell 3
  have m4 : w4.cell? ⟨w.heap.size + 1 + 1, 4, none⟩ = some (.slice none 0 0) := HR4.out.cell 4
  have m5 : w4.cell? ⟨w.heap.size + 1 + 1, 5, none⟩ = some (.slice none 0 0) := HR4.out.cell 5
  have f0 := HR4.out.free 0
  have f1 := HR4.out.free 1
  have f2 := HR4.out.free 2
  have f3 := HR4.out.free 3
  have f4 := HR4.out.free 4
  have f5 := HR4.out.free 5
  by_cases hc2 : code2 = 0
  · rw [if_pos hc2]
    have HFIN := hid (HTW.out.1 hc2)
    clear HTW hc2
    go_wp2_with fail
    have B1 := box_put6 HR4.out (.bool k1) (.slice av1 zs1.length cv1) (.slice au1 ts1.length cu1) (.bool k2) (.slice av2 zs2.length cv2) (.slice au2 ts2.length cu2)
    have G1 := below_put6 HW4.out (w.heap.size + 1 + 1) (by omega) (.bool k1) (.slice av1 zs1.length cv1) (.slice au1 ts1.length cu1) (.bool k2) (.slice av2 zs2.length cv2) (.slice au2 ts2.length cu2)
    have hXX := HX.out.2.2.2.size
    have hput : ∀ {base k : Nat} {v : Value} {l : List Value}, w4.ownsRow base 63 1 v k l → (∀ g, v.ownBlock = some g → X.heap.size ≤ g) → ((((((w4.setCell ⟨w.heap.size + 1 + 1, 0, none⟩ (.bool k1)).setCell ⟨w.heap.size + 1 + 1, 1, none⟩ (.slice av1 zs1.length cv1)).setCell ⟨w.heap.size + 1 + 1, 2, none⟩ (.slice au1 ts1.length cu1)).setCell ⟨w.heap.size + 1 + 1, 3, none⟩ (.bool k2)).setCell ⟨w.heap.size + 1 + 1, 4, none⟩ (.slice av2 zs2.length cv2)).setCell ⟨w.heap.size + 1 + 1, 5, none⟩ (.slice au2 ts2.length cu2)).ownsRow base 63 1 v k l := fun h hb => own_put6 h _ (fun g hg => by have := hb g hg; omega) _ _ _ _ _ _
    clear m0 m1 m2' m3 m4 m5 f0 f1 f2 f3 f4 f5
    refine bodyPost_ret (gres_run (by rfl) B1 _ rfl) rfl ?_
    exact ⟨k1, av1, cv1, zs1, au1, cu1, ts1, k2, av2, cv2, zs2, au2, cu2, ts2, code2, rfl, ⟨owns_base (hput HOO.out.1 (fun g hg => by have := (HOO.out.1.lt g hg).1; omega)) hlo, owns_base (hput HOO.out.2.1 (fun g hg => by have := (HOO.out.2.1.lt g hg).1; omega)) hlo, owns_base (hput HOO.out.2.2.1 (fun g hg => by have := (HOO.out.2.2.1.lt g hg).1; omega)) hlo, owns_base (hput HOO.out.2.2.2 (fun g hg => by have := (HOO.out.2.2.2.lt g hg).1; omega)) hlo⟩, HFIN.out, G1, Wc, HCA.out.1.up hlo (Nat.le_refl _), HCA.out.2.up (Nat.le_refl _) (by have := HW4x.out; simp [World.setCell]; omega)⟩
  · rw [if_neg hc2]
    have HFIN := hid (HTW.out.2 hc2)
    clear HTW hc2
    go_wp2_with fail
    have B1 := box_put6 HR4.out (.bool false) (.slice none 0 0) (.slice none 0 0) (.bool false) (.slice none 0 0) (.slice none 0 0)
    have G1 := below_put6 HW4.out (w.heap.size + 1 + 1) (by omega) (.bool false) (.slice none 0 0) (.slice none 0 0) (.bool false) (.slice none 0 0) (.slice none 0 0)
    clear m0 m1 m2' m3 m4 m5 f0 f1 f2 f3 f4 f5
    refine bodyPost_ret (gres_run (by rfl) B1 _ rfl) rfl ?_
    exact ⟨false, none, 0, [], none, 0, [], false, none, 0, [], none, 0, [], code2, rfl, ⟨World.ownsRow_nil _ _ _ _, World.ownsRow_nil _ _ _ _, World.ownsRow_nil _ _ _ _, World.ownsRow_nil _ _ _ _⟩, HFIN.out, G1, _, kcut_nil _ _ G1.size, kcut_nil _ _ (Nat.le_refl _)⟩
theorem gchain6 {W : World} {b t : Nat} {u0 u1 u2 u3 u4 u5 : Value} (h : Box W b t #[u0, u1, u2, u3, u4, u5]) (v0 v1 v2 v3 v4 v5 : Value) : ∃ A0 A1 A2 A3 A4 A5, W.setCell ⟨b, 0, none⟩ v0 = A0 ∧ A0.setCell ⟨b, 1, none⟩ v1 = A1 ∧ A1.setCell ⟨b, 2, none⟩ v2 = A2 ∧ A2.setCell ⟨b, 3, none⟩ v3 = A3 ∧ A3.setCell ⟨b, 4, none⟩ v4 = A4 ∧ A4.setCell ⟨b, 5, none⟩ v5 = A5 ∧ (W.cell? ⟨b, 0, none⟩ = some u0 ∧ A0.cell? ⟨b, 1, none⟩ = some u1 ∧ A1.cell? ⟨b, 2, none⟩ = some u2 ∧ A2.cell? ⟨b, 3, none⟩ = some u3 ∧ A3.cell? ⟨b, 4, none⟩ = some u4 ∧ A4.cell? ⟨b, 5, none⟩ = some u5) ∧ (W.frozen? ⟨b, 0, none⟩ = false ∧ A0.frozen? ⟨b, 1, none⟩ = false ∧ A1.frozen? ⟨b, 2, none⟩ = false ∧ A2.frozen? ⟨b, 3, none⟩ = false ∧ A3.frozen? ⟨b, 4, none⟩ = false ∧ A4.frozen? ⟨b, 5, none⟩ = false) := by
  have h0 : Box _ b t #[v0, u1, u2, u3, u4, u5] := h.set 0 v0
  have h1 : Box _ b t #[v0, v1, u2, u3, u4, u5] := h0.set 1 v1
  have h2 : Box _ b t #[v0, v1, v2, u3, u4, u5] := h1.set 2 v2
  have h3 : Box _ b t #[v0, v1, v2, v3, u4, u5] := h2.set 3 v3
  have h4 : Box _ b t #[v0, v1, v2, v3, v4, u5] := h3.set 4 v4
  exact ⟨_, _, _, _, _, _, rfl, rfl, rfl, rfl, rfl, rfl, ⟨h.cell 0, h0.cell 1, h1.cell 2, h2.cell 3, h3.cell 4, h4.cell 5⟩, h.free 0, h0.free 1, h1.free 2, h2.free 3, h3.free 4, h4.free 5⟩
theorem GInv.put6 {w V : World} {p : Nat} {E : Int} {l : List (Nat × Nat × Array Value)} (h : GInv w p E l V) (b : Nat) (hb : w.heap.size ≤ b) (hp : p ≠ b) (hl : ∀ x ∈ l, x.1 ≠ b) (u0 u1 u2 u3 u4 u5 : Value) : GInv w p E l ((((((V.setCell ⟨b, 0, none⟩ u0).setCell ⟨b, 1, none⟩ u1).setCell ⟨b, 2, none⟩ u2).setCell ⟨b, 3, none⟩ u3).setCell ⟨b, 4, none⟩ u4).setCell ⟨b, 5, none⟩ u5) :=
  ⟨gbox_far6 h.err hp _ _ _ _ _ _, grow_put6 h.grown b _ _ _ _ _ _ (.inl hb), fun x hx => ⟨gbox_far6 (h.box x hx).1 (hl x hx) _ _ _ _ _ _, (h.box x hx).2⟩⟩
theorem GJ.put6 {w X V : World} {p : Nat} {E : Int} {l : List (Nat × Nat × Array Value)} (h : GJ w X p E l V) (hB : GB w X p l) (b : Nat) (hb : X.heap.size ≤ b) (u0 u1 u2 u3 u4 u5 : Value) : GJ w X p E l ((((((V.setCell ⟨b, 0, none⟩ u0).setCell ⟨b, 1, none⟩ u1).setCell ⟨b, 2, none⟩ u2).setCell ⟨b, 3, none⟩ u3).setCell ⟨b, 4, none⟩ u4).setCell ⟨b, 5, none⟩ u5) :=
  ⟨h.inv.put6 b (Nat.le_trans hB.hw hb) (by have := hB.hp; have := hB.hw; omega) (fun x hx => by have := hB.hl x hx; omega) _ _ _ _ _ _, grow_put6 h.gx b _ _ _ _ _ _ (.inl hb)⟩
def GTm (w X : World) (p : Nat) (l : List (Nat × Nat × Array Value)) (V : World) (EE e1 e2 e3 e4 : Int) (q1 q2 q3 q4 : Rat) (x : Ending) (w' : World) : Prop :=
  ∃ n3 a3 k3 x3 b3 l3 y3 c3 n6 a6 k6 x6 b6 l6 y6 c6, x = .returned (.agg #[.bool n3, .slice a3 (List.length x3) k3, .slice b3 (List.length y3) l3, .bool n6, .slice a6 (List.length x6) k6, .slice b6 (List.length y6) l6]) ∧ Hid (G3 (· - ·) EE e1 e2 q1 q2 n3 x3 y3 c3 ∧ G3 (· + ·) c3 e3 e4 q3 q4 n6 x6 y6 c6) ∧ Hid (GJ w X p c6 l w') ∧ Hid (GRow w' V.heap.size n3 (.slice a3 (List.length x3) k3) x3 (.slice b3 (List.length y3) l3) y3 ∧ GRow w' V.heap.size n6 (.slice a6 (List.length x6) k6) x6 (.slice b6 (List.length y6) l6) y6) ∧ Hid (V.grownBy w' (some p)) ∧ X.heap.size ≤ w'.heap.size
theorem gtimesJ {w X V : World} {p : Nat} {EE e1 e2 e3 e4 : Int} {q1 q2 q3 q4 : Rat} {l : List (Nat × Nat × Array Value)} {k : Nat} {args : Array Value} (hv : GJ w X p EE l V) (H : Calls Tryz.prog k args V (GTimes V p EE e1 e2 e3 e4 q1 q2 q3 q4)) : Calls Tryz.prog k args V (GTm w X p l V EE e1 e2 e3 e4 q1 q2 q3 q4) := by
  refine Calls.mono H ?_
  rintro x w1 ⟨n3, a3, k3, x3, b3, l3, y3, c3, n6, a6, k6, x6, b6, l6, y6, c6, rfl, ⟨r3, r6⟩, t3, t6, hpb, hg, _⟩
  have hi := hv.step hpb hg
  exact ⟨n3, a3, k3, x3, b3, l3, y3, c3, n6, a6, k6, x6, b6, l6, y6, c6, rfl, hid ⟨t3, t6⟩, hid hi, hid ⟨r3, r6⟩, hid hg, hi.gx.size⟩
def GCq (w X : World) (p : Nat) (l : List (Nat × Nat × Array Value)) (E eO : Int) (qO : Rat) (F1 F2 : Bool → List Int → List Int → Int) (e1 e2 : Int) (q1 q2 : Rat) (g1 g2 : Rat → Rat) (s : Value) (W : World) : Prop :=
  ∃ b nO xO yO cO n3 a3 k3 x3 b3 l3 y3 c3 n6 a6 k6 x6 b6 l6 y6 c6, s = .pointer (some ⟨b, 0, none⟩) ∧ X.heap.size ≤ b ∧ RTells (fstE E eO) qO nO xO yO cO ∧ G3 (· - ·) cO e1 (F1 nO xO yO) q1 (g1 (rq nO xO yO)) n3 x3 y3 c3 ∧ G3 (· + ·) c3 (F2 nO xO yO) e2 (g2 (rq nO xO yO)) q2 n6 x6 y6 c6 ∧ GInv w p c6 ((b, 26, #[.bool n3, .slice a3 (List.length x3) k3, .slice b3 (List.length y3) l3, .bool n6, .slice a6 (List.length x6) k6, .slice b6 (List.length y6) l6]) :: l) W ∧ GRow W X.heap.size n3 (.slice a3 (List.length x3) k3) x3 (.slice b3 (List.length y3) l3) y3 ∧ GRow W X.heap.size n6 (.slice a6 (List.length x6) k6) x6 (.slice b6 (List.length y6) l6) y6 ∧ X.grownBy W (some p)
theorem gcq_put {w X : World} {p : Nat} {l : List (Nat × Nat × Array Value)} {E eO : Int} {qO : Rat} {F1 F2 : Bool → List Int → List Int → Int} {e1 e2 : Int} {q1 q2 : Rat} {g1 g2 : Rat → Rat} {nO n3 n6 : Bool} {xO yO x3 y3 x6 y6 : List Int} {cO c3 c6 : Int} {a3 b3 a6 b6 : Option Addr} {k3 l3 k6 l6 : Nat} {W w4 V3 : World} {b : Nat} (hB : GB w X p l) (tO : RTells (fstE E eO) qO nO xO yO cO) (tt : G3 (· - ·) cO e1 (F1 nO xO yO) q1 (g1 (rq nO xO yO)) n3 x3 y3 c3 ∧ G3 (· + ·) c3 (F2 nO xO yO) e2 (g2 (rq nO xO yO)) q2 n6 x6 y6 c6) (j : GJ w X p c6 l W) (r4 : GRow w4 V3.heap.size n3 (.slice a3 (List.length x3) k3) x3 (.slice b3 (List.length y3) l3) y3 ∧ GRow w4 V3.heap.size n6 (.slice a6 (List.length x6) k6) x6 (.slice b6 (List.length y6) l6) y6) (hW : Below w4.heap.size w4 W) (hbx : Box W b 26 #[.bool false, .slice none 0 0, .slice none 0 0, .bool false, .slice none 0 0, .slice none 0 0]) (hb3 : b < V3.heap.size ∨ w4.heap.size ≤ b) (hXb : X.heap.size ≤ b) (hXV : X.heap.size ≤ V3.heap.size) :
    GCq w X p l E eO qO F1 F2 e1 e2 q1 q2 g1 g2 (.pointer (some ⟨b, 0, none⟩)) ((((((W.setCell ⟨b, 0, none⟩ (.bool n3)).setCell ⟨b, 1, none⟩ (.slice a3 x3.length k3)).setCell ⟨b, 2, none⟩ (.slice b3 y3.length l3)).setCell ⟨b, 3, none⟩ (.bool n6)).setCell ⟨b, 4, none⟩ (.slice a6 x6.length k6)).setCell ⟨b, 5, none⟩ (.slice b6 y6.length l6)) := by
  have hj := j.put6 hB b hXb (.bool n3) (.slice a3 x3.length k3) (.slice b3 y3.length l3) (.bool n6) (.slice a6 x6.length k6) (.slice b6 y6.length l6)
  have hk : ∀ {v : Value} {k : Nat} {zs : List Value}, w4.ownsRow V3.heap.size 63 1 v k zs → ((((((W.setCell ⟨b, 0, none⟩ (.bool n3)).setCell ⟨b, 1, none⟩ (.slice a3 x3.length k3)).setCell ⟨b, 2, none⟩ (.slice b3 y3.length l3)).setCell ⟨b, 3, none⟩ (.bool n6)).setCell ⟨b, 4, none⟩ (.slice a6 x6.length k6)).setCell ⟨b, 5, none⟩ (.slice b6 y6.length l6)).ownsRow X.heap.size 63 1 v k zs := fun h => owns_base (own_put6 (owns_later h hW) b (fun g hg => by have := h.lt g hg; omega) _ _ _ _ _ _) hXV
  exact ⟨b, nO, xO, yO, cO, n3, a3, k3, x3, b3, l3, y3, c3, n6, a6, k6, x6, b6, l6, y6, c6, rfl, hXb, tO, tt.1, tt.2, hj.inv.more (box_put6 hbx _ _ _ _ _ _) (by have := hB.hp; have := hB.hw; omega), ⟨hk r4.1.ov, hk r4.1.ou⟩, ⟨hk r4.2.ov, hk r4.2.ou⟩, hj.gx⟩
theorem gchainJ {w X W A0 A1 A2 A3 A4 A5 : World} {p : Nat} {E : Int} {l : List (Nat × Nat × Array Value)} {b : Nat} {v0 v1 v2 v3 v4 v5 : Value} (h : GJ w X p E l W) (hB : GB w X p l) (hb : X.heap.size ≤ b) (h0 : W.setCell ⟨b, 0, none⟩ v0 = A0) (h1 : A0.setCell ⟨b, 1, none⟩ v1 = A1) (h2 : A1.setCell ⟨b, 2, none⟩ v2 = A2) (h3 : A2.setCell ⟨b, 3, none⟩ v3 = A3) (h4 : A3.setCell ⟨b, 4, none⟩ v4 = A4) (h5 : A4.setCell ⟨b, 5, none⟩ v5 = A5) : GJ w X p E l A5 := by
  subst h0 h1 h2 h3 h4 h5
  exact h.put6 hB b hb _ _ _ _ _ _
theorem gbox_d {Y w3 : World} {T p : Nat} {Z : Array Value} (g : ((Y.alloc (.cells Z T)).drew).grownBy w3 (some p)) (hp : p < Y.heap.size) : Box w3 Y.heap.size T Z := (show Box ((Y.alloc (.cells Z T)).drew) Y.heap.size T Z from Box.made Y T Z).kept' g (some_ne hp)
theorem gbox_a {Y w3 : World} {T p : Nat} {Z : Array Value} (g : (Y.alloc (.cells Z T)).grownBy w3 (some p)) (hp : p < Y.heap.size) : Box w3 Y.heap.size T Z := (Box.made Y T Z).kept' g (some_ne hp)
theorem gbox_k {V W : World} {b T p : Nat} {Z : Array Value} (h : Box V b T Z) (g : V.grownBy W (some p)) (hp : p < b) : Box W b T Z := h.kept' g (some_ne hp)
theorem gbox_l (Y : World) (T : Nat) (Z : Array Value) : Box (Y.alloc (.cells Z T)) Y.heap.size T Z := Box.made Y T Z
theorem G3.wd {op : Rat → Rat → Rat} {E e1 e2 : Int} {q1 q2 : Rat} {n3 : Bool} {x3 y3 : List Int} {c3 : Int} (h : G3 op E e1 e2 q1 q2 n3 x3 y3 c3) : Wd x3 ∧ Wd y3 := by
  obtain ⟨_, _, _, _, _, _, _, _, _, _, t⟩ := h
  exact ⟨t.wx, t.wy⟩
theorem GInv.belowed {w V V' : World} {p : Nat} {E : Int} {l : List (Nat × Nat × Array Value)} (h : GInv w p E l V) (hb : Below V.heap.size V V') : GInv w p E l V' := ⟨h.err.later hb h.err.lt, grow_trans h.grown (grow_below hb _), fun x hx => ⟨(h.box x hx).1.later hb (h.box x hx).1.lt, (h.box x hx).2⟩⟩
set_option maxHeartbeats 3200000 in
theorem gQuo_zero (n : Bool) (a : Option Addr) (ca : Nat) (xs : List Int) (b : Option Addr) (cb : Nat) (ys : List Int) (m : Bool) (c : Option Addr) (cc : Nat) (us : List Int) (d : Option Addr) (cd : Nat) (vs : List Int) (n2 : Bool) (a2 : Option Addr) (ca2 : Nat) (xs2 : List Int) (b2' : Option Addr) (cb2 : Nat) (ys2 : List Int) (m2 : Bool) (c2 : Option Addr) (cc2 : Nat) (us2 : List Int) (d2 : Option Addr) (cd2 : Nat) (vs2 : List Int) (w : World) (sx : Sl w (.slice a xs.length ca) xs) (sy : Sl w (.slice b ys.length cb) ys) (su : Sl w (.slice c us.length cc) us) (sv : Sl w (.slice d vs.length cd) vs) (sx2 : Sl w (.slice a2 xs2.length ca2) xs2) (sy2 : Sl w (.slice b2' ys2.length cb2) ys2) (su2 : Sl w (.slice c2 us2.length cc2) us2) (sv2 : Sl w (.slice d2 vs2.length cd2) vs2) (h0 : fstE (gchk n xs ys m us vs) (gchk n2 xs2 ys2 m2 us2 vs2) = 0) (hx : xs2.length = 0) (hu : us2.length = 0) :
    Calls Tryz.prog 14 #[.agg #[.bool n, .slice a xs.length ca, .slice b ys.length cb, .bool m, .slice c us.length cc, .slice d vs.length cd], .agg #[.bool n2, .slice a2 xs2.length ca2, .slice b2' ys2.length cb2, .bool m2, .slice c2 us2.length cc2, .slice d2 vs2.length cd2]] w fun x w' => x = .returned (.tuple #[.agg #[.bool false, .slice none 0 0, .slice none 0 0, .bool false, .slice none 0 0, .slice none 0 0], .int .i64 7]) ∧ Below w.heap.size w w' := by
  have HX := hid (boxes3r w 26 #[.bool n, .slice a xs.length ca, .slice b ys.length cb, .bool m, .slice c us.length cc, .slice d vs.length cd] #[.bool n2, .slice a2 xs2.length ca2, .slice b2' ys2.length cb2, .bool m2, .slice c2 us2.length cc2, .slice d2 vs2.length cd2] #[.bool false, .slice none 0 0, .slice none 0 0, .bool false, .slice none 0 0, .slice none 0 0])
  obtain ⟨X, hX⟩ : ∃ X, ((w.alloc (.cells #[.bool n, .slice a xs.length ca, .slice b ys.length cb, .bool m, .slice c us.length cc, .slice d vs.length cd] 26)).alloc (.cells #[.bool n2, .slice a2 xs2.length ca2, .slice b2' ys2.length cb2, .bool m2, .slice c2 us2.length cc2, .slice d2 vs2.length cd2] 26)).alloc (.cells #[.bool false, .slice none 0 0, .slice none 0 0, .bool false, .slice none 0 0, .slice none 0 0] 26) = X := ⟨_, rfl⟩
  rw [hX] at HX
  have HY := hid (Box.made X 26 #[.bool n, .slice a xs.length ca, .slice b ys.length cb, .bool m, .slice c us.length cc, .slice d vs.length cd, .bool n2, .slice a2 xs2.length ca2, .slice b2' ys2.length cb2, .bool m2, .slice c2 us2.length cc2, .slice d2 vs2.length cd2])
  have HYB := hid (alloc_later X (.cells #[.bool n, .slice a xs.length ca, .slice b ys.length cb, .bool m, .slice c us.length cc, .slice d vs.length cd, .bool n2, .slice a2 xs2.length ca2, .slice b2' ys2.length cb2, .bool m2, .slice c2 us2.length cc2, .slice d2 vs2.length cd2] 26))
  obtain ⟨Y, hY⟩ : ∃ Y, X.alloc (.cells #[.bool n, .slice a xs.length ca, .slice b ys.length cb, .bool m, .slice c us.length cc, .slice d vs.length cd, .bool n2, .slice a2 xs2.length ca2, .slice b2' ys2.length cb2, .bool m2, .slice c2 us2.length cc2, .slice d2 vs2.length cd2] 26) = Y := ⟨_, rfl⟩
  rw [hY] at HY HYB
  have HWY := hid (bt HX.out.2.2.2 HYB.out)
  have HL := hid (glookAt2_any X.heap.size n a ca xs b cb ys m c cc us d cd vs n2 a2 ca2 xs2 b2' cb2 ys2 m2 c2 cc2 us2 d2 cd2 vs2 Y HY.out (sx.later HWY.out) (sy.later HWY.out) (su.later HWY.out) (sv.later HWY.out) (sx2.later HWY.out) (sy2.later HWY.out) (su2.later HWY.out) (sv2.later HWY.out))
  rw [h0] at HL
  clear sx sy su sv sx2 sy2 su2 sv2 h0
  have ka0 : X.cell? ⟨w.heap.size, 0, none⟩ = some (.bool n) := HX.out.1.cell 0
  have ka1 : X.cell? ⟨w.heap.size, 1, none⟩ = some (.slice a xs.length ca) := HX.out.1.cell 1
  have ka2 : X.cell? ⟨w.heap.size, 2, none⟩ = some (.slice b ys.length cb) := HX.out.1.cell 2
  have ka3 : X.cell? ⟨w.heap.size, 3, none⟩ = some (.bool m) := HX.out.1.cell 3
  have ka4 : X.cell? ⟨w.heap.size, 4, none⟩ = some (.slice c us.length cc) := HX.out.1.cell 4
  have ka5 : X.cell? ⟨w.heap.size, 5, none⟩ = some (.slice d vs.length cd) := HX.out.1.cell 5
  have kb0 : X.cell? ⟨w.heap.size + 1, 0, none⟩ = some (.bool n2) := HX.out.2.1.cell 0
  have kb1 : X.cell? ⟨w.heap.size + 1, 1, none⟩ = some (.slice a2 xs2.length ca2) := HX.out.2.1.cell 1
  have kb2 : X.cell? ⟨w.heap.size + 1, 2, none⟩ = some (.slice b2' ys2.length cb2) := HX.out.2.1.cell 2
  have kb3 : X.cell? ⟨w.heap.size + 1, 3, none⟩ = some (.bool m2) := HX.out.2.1.cell 3
  have kb4 : X.cell? ⟨w.heap.size + 1, 4, none⟩ = some (.slice c2 us2.length cc2) := HX.out.2.1.cell 4
  have kb5 : X.cell? ⟨w.heap.size + 1, 5, none⟩ = some (.slice d2 vs2.length cd2) := HX.out.2.1.cell 5
  have HNN : Hid ((xs2.length == 0 && us2.length == 0) = true) := by show _ = _; rw [hx, hu]; rfl
  clear hx hu
  go_enter Tryz.func14, Tryz.ntmps14
  go_wp2_with fail
  refine Calls.mono HL.out ?_
  rintro x w1 ⟨p, rfl, hpl, hpb, hb1⟩
  have HW1 := hid (bt HWY.out hb1)
  have HB1 := hid (HX.out.2.1.later (bt HYB.out hb1) HX.out.2.1.lt)
  have HR1 := hid (HX.out.2.2.1.later (bt HYB.out hb1) HX.out.2.2.1.lt)
  have kp : w1.cell? ⟨p, 0, none⟩ = some (.int .i64 0) := hpb.cell 0
  clear hpb hb1 hpl HL ka0 ka1 ka2 ka3 ka4 ka5 kb0 kb1 kb2 kb3 kb4 kb5
  obtain ⟨kb0, kb1, kb2, kb3, kb4, kb5⟩ := cells6 HB1.out
  have HIS := hid (gisNought_any n2 a2 xs2.length ca2 b2' ys2.length cb2 m2 c2 us2.length cc2 d2 vs2.length cd2 w1)
  rw [HNN.out] at HIS
  go_wp2_with fail
  refine Calls.mono HIS.out ?_
  rintro x wI ⟨rfl, hbI⟩
  have HBI := hid hbI
  have HR2 := hid (HR1.out.later hbI HR1.out.lt)
  obtain ⟨A0, A1, A2, A3, A4, A5, hA0, hA1, hA2, hA3, hA4, hA5, ⟨q0, q1, q2, q3, q4, q5⟩, f0, f1, f2, f3, f4, f5⟩ := gchain6 HR2.out (.bool false) (.slice none 0 0) (.slice none 0 0) (.bool false) (.slice none 0 0) (.slice none 0 0)
  clear hbI kb0 kb1 kb2 kb3 kb4 kb5 kp HIS
  go_wp2_with fail
  subst hA0 hA1 hA2 hA3 hA4 hA5
  have B1 := box_put6 HR2.out (.bool false) (.slice none 0 0) (.slice none 0 0) (.bool false) (.slice none 0 0) (.slice none 0 0)
  have G1 := below_put6 (bt HW1.out HBI.out) (w.heap.size + 1 + 1) (by omega) (.bool false) (.slice none 0 0) (.slice none 0 0) (.bool false) (.slice none 0 0) (.slice none 0 0)
  exact bodyPost_ret (gres_run (by rfl) B1 _ rfl) rfl ⟨rfl, G1⟩
set_option linter.unusedSimpArgs false
set_option maxHeartbeats 6400000 in
theorem gQuo_gocut (n : Bool) (a : Option Addr) (ca : Nat) (xs : List Int) (b : Option Addr) (cb : Nat) (ys : List Int) (m : Bool) (c : Option Addr) (cc : Nat) (us : List Int) (d : Option Addr) (cd : Nat) (vs : List Int) (n2 : Bool) (a2 : Option Addr) (ca2 : Nat) (xs2 : List Int) (b2' : Option Addr) (cb2 : Nat) (ys2 : List Int) (m2 : Bool) (c2 : Option Addr) (cc2 : Nat) (us2 : List Int) (d2 : Option Addr) (cd2 : Nat) (vs2 : List Int) (w : World) (sx : Sl w (.slice a xs.length ca) xs) (sy : Sl w (.slice b ys.length cb) ys) (su : Sl w (.slice c us.length cc) us) (sv : Sl w (.slice d vs.length cd) vs) (sx2 : Sl w (.slice a2 xs2.length ca2) xs2) (sy2 : Sl w (.slice b2' ys2.length cb2) ys2) (su2 : Sl w (.slice c2 us2.length cc2) us2) (sv2 : Sl w (.slice d2 vs2.length cd2) vs2) (hz : ¬ (fstE (gchk n xs ys m us vs) (gchk n2 xs2 ys2 m2 us2 vs2) = 0 ∧ xs2.length = 0 ∧ us2.length = 0)) :
    Calls Tryz.prog 14 #[.agg #[.bool n, .slice a xs.length ca, .slice b ys.length cb, .bool m, .slice c us.length cc, .slice d vs.length cd], .agg #[.bool n2, .slice a2 xs2.length ca2, .slice b2' ys2.length cb2, .bool m2, .slice c2 us2.length cc2, .slice d2 vs2.length cd2]] w (KToldC w (fstE (gchk n xs ys m us vs) (gchk n2 xs2 ys2 m2 us2 vs2)) (qlong (rq n xs ys) (rq m us vs) (rq n2 xs2 ys2) (rq m2 us2 vs2) ∨ rlong ((rq n xs ys * -(rq m2 us2 vs2) + rq m us vs * rq n2 xs2 ys2) / (rq n2 xs2 ys2 * rq n2 xs2 ys2 + rq m2 us2 vs2 * rq m2 us2 vs2))) ((rq n xs ys * rq n2 xs2 ys2 - rq m us vs * -(rq m2 us2 vs2)) / (rq n2 xs2 ys2 * rq n2 xs2 ys2 + rq m2 us2 vs2 * rq m2 us2 vs2)) ((rq n xs ys * -(rq m2 us2 vs2) + rq m us vs * rq n2 xs2 ys2) / (rq n2 xs2 ys2 * rq n2 xs2 ys2 + rq m2 us2 vs2 * rq m2 us2 vs2))) := by
  have HX := hid (boxes3r w 26 #[.bool n, .slice a xs.length ca, .slice b ys.length cb, .bool m, .slice c us.length cc, .slice d vs.length cd] #[.bool n2, .slice a2 xs2.length ca2, .slice b2' ys2.length cb2, .bool m2, .slice c2 us2.length cc2, .slice d2 vs2.length cd2] #[.bool false, .slice none 0 0, .slice none 0 0, .bool false, .slice none 0 0, .slice none 0 0])
  obtain ⟨X, hX⟩ : ∃ X, ((w.alloc (.cells #[.bool n, .slice a xs.length ca, .slice b ys.length cb, .bool m, .slice c us.length cc, .slice d vs.length cd] 26)).alloc (.cells #[.bool n2, .slice a2 xs2.length ca2, .slice b2' ys2.length cb2, .bool m2, .slice c2 us2.length cc2, .slice d2 vs2.length cd2] 26)).alloc (.cells #[.bool false, .slice none 0 0, .slice none 0 0, .bool false, .slice none 0 0, .slice none 0 0] 26) = X := ⟨_, rfl⟩
  rw [hX] at HX
  have HY := hid (Box.made X 26 #[.bool n, .slice a xs.length ca, .slice b ys.length cb, .bool m, .slice c us.length cc, .slice d vs.length cd, .bool n2, .slice a2 xs2.length ca2, .slice b2' ys2.length cb2, .bool m2, .slice c2 us2.length cc2, .slice d2 vs2.length cd2])
  have HYB := hid (alloc_later X (.cells #[.bool n, .slice a xs.length ca, .slice b ys.length cb, .bool m, .slice c us.length cc, .slice d vs.length cd, .bool n2, .slice a2 xs2.length ca2, .slice b2' ys2.length cb2, .bool m2, .slice c2 us2.length cc2, .slice d2 vs2.length cd2] 26))
  obtain ⟨Y, hY⟩ : ∃ Y, X.alloc (.cells #[.bool n, .slice a xs.length ca, .slice b ys.length cb, .bool m, .slice c us.length cc, .slice d vs.length cd, .bool n2, .slice a2 xs2.length ca2, .slice b2' ys2.length cb2, .bool m2, .slice c2 us2.length cc2, .slice d2 vs2.length cd2] 26) = Y := ⟨_, rfl⟩
  rw [hY] at HY HYB
  have HWY := hid (bt HX.out.2.2.2 HYB.out)
  have HL := hid (glookAt2_any X.heap.size n a ca xs b cb ys m c cc us d cd vs n2 a2 ca2 xs2 b2' cb2 ys2 m2 c2 cc2 us2 d2 cd2 vs2 Y HY.out (sx.later HWY.out) (sy.later HWY.out) (su.later HWY.out) (sv.later HWY.out) (sx2.later HWY.out) (sy2.later HWY.out) (su2.later HWY.out) (sv2.later HWY.out))
  have wx2 := sx2.wd
  have wy2 := sy2.wd
  have wu2 := su2.wd
  have wv2 := sv2.wd
  have HZ1 : Hid (fstE (gchk n xs ys m us vs) (gchk n2 xs2 ys2 m2 us2 vs2) = 0 → (rchk n xs ys = 0 ∧ rchk m us vs = 0) ∧ (rchk n2 xs2 ys2 = 0 ∧ rchk m2 us2 vs2 = 0) ∧ ¬ (rq n2 xs2 ys2 = 0 ∧ rq m2 us2 vs2 = 0)) := fun h => by
    obtain ⟨h1, h2⟩ := fstE_ok h
    refine ⟨gchk_ok h1, gchk_ok h2, fun e => hz ⟨h, ?_, ?_⟩⟩
    · exact Classical.byContradiction (fun c => grq_ne wx2 wy2 (gchk_ok h2).1 (fun e => c (by rw [e]; rfl)) e.1)
    · exact Classical.byContradiction (fun c => grq_ne wu2 wv2 (gchk_ok h2).2 (fun e => c (by rw [e]; rfl)) e.2)
  have HSS : Hid (∀ V, Below w.heap.size w V → Sl V (.slice a xs.length ca) xs ∧ Sl V (.slice b ys.length cb) ys ∧ Sl V (.slice c us.length cc) us ∧ Sl V (.slice d vs.length cd) vs ∧ Sl V (.slice a2 xs2.length ca2) xs2 ∧ Sl V (.slice b2' ys2.length cb2) ys2 ∧ Sl V (.slice c2 us2.length cc2) us2 ∧ Sl V (.slice d2 vs2.length cd2) vs2) := fun V hw => ⟨sx.later hw, sy.later hw, su.later hw, sv.later hw, sx2.later hw, sy2.later hw, su2.later hw, sv2.later hw⟩
  have hzE : fstE (gchk n xs ys m us vs) (gchk n2 xs2 ys2 m2 us2 vs2) = 0 → ¬ (xs2.length = 0 ∧ us2.length = 0) := fun h e => hz ⟨h, e⟩
  generalize fstE (gchk n xs ys m us vs) (gchk n2 xs2 ys2 m2 us2 vs2) = E0 at *
  clear sx sy su sv sx2 sy2 su2 sv2 hz wx2 wy2 wu2 wv2
  have ka0 : X.cell? ⟨w.heap.size, 0, none⟩ = some (.bool n) := HX.out.1.cell 0
  have ka1 : X.cell? ⟨w.heap.size, 1, none⟩ = some (.slice a xs.length ca) := HX.out.1.cell 1
  have ka2 : X.cell? ⟨w.heap.size, 2, none⟩ = some (.slice b ys.length cb) := HX.out.1.cell 2
  have ka3 : X.cell? ⟨w.heap.size, 3, none⟩ = some (.bool m) := HX.out.1.cell 3
  have ka4 : X.cell? ⟨w.heap.size, 4, none⟩ = some (.slice c us.length cc) := HX.out.1.cell 4
  have ka5 : X.cell? ⟨w.heap.size, 5, none⟩ = some (.slice d vs.length cd) := HX.out.1.cell 5
  have kb0 : X.cell? ⟨w.heap.size + 1, 0, none⟩ = some (.bool n2) := HX.out.2.1.cell 0
  have kb1 : X.cell? ⟨w.heap.size + 1, 1, none⟩ = some (.slice a2 xs2.length ca2) := HX.out.2.1.cell 1
  have kb2 : X.cell? ⟨w.heap.size + 1, 2, none⟩ = some (.slice b2' ys2.length cb2) := HX.out.2.1.cell 2
  have kb3 : X.cell? ⟨w.heap.size + 1, 3, none⟩ = some (.bool m2) := HX.out.2.1.cell 3
  have kb4 : X.cell? ⟨w.heap.size + 1, 4, none⟩ = some (.slice c2 us2.length cc2) := HX.out.2.1.cell 4
  have kb5 : X.cell? ⟨w.heap.size + 1, 5, none⟩ = some (.slice d2 vs2.length cd2) := HX.out.2.1.cell 5
  have HZE := hid hzE
  clear hzE
  go_enter Tryz.func14, Tryz.ntmps14
  go_wp2_with fail
  refine Calls.mono HL.out ?_
  rintro x w1 ⟨p, rfl, hpl, hpb, hb1⟩
  have HW1 := hid (bt HWY.out hb1)
  have hpX0 : X.heap.size < p := Nat.lt_of_lt_of_le HY.out.lt hpl
  have hrX : w.heap.size + 1 + 1 < X.heap.size := HX.out.2.2.1.lt
  have HI : Hid (GInv w1 p E0 ((w.heap.size, 26, #[.bool n, .slice a xs.length ca, .slice b ys.length cb, .bool m, .slice c us.length cc, .slice d vs.length cd]) :: (w.heap.size + 1, 26, #[.bool n2, .slice a2 xs2.length ca2, .slice b2' ys2.length cb2, .bool m2, .slice c2 us2.length cc2, .slice d2 vs2.length cd2]) :: (w.heap.size + 1 + 1, 26, #[.bool false, .slice none 0 0, .slice none 0 0, .bool false, .slice none 0 0, .slice none 0 0]) :: []) w1) := hid (GInv.more (GInv.more (GInv.more ⟨hpb, ⟨rfl, rfl, rfl, Nat.le_refl _, fun _ _ _ => rfl⟩, fun x hx => by cases hx⟩ (HX.out.2.2.1.later (bt HYB.out hb1) HX.out.2.2.1.lt) (by omega)) (HX.out.2.1.later (bt HYB.out hb1) HX.out.2.1.lt) (by omega)) (HX.out.1.later (bt HYB.out hb1) HX.out.1.lt) (by omega))
  have HSV : Hid (∀ V, w1.grownBy V (some p) → Sl V (.slice a xs.length ca) xs ∧ Sl V (.slice b ys.length cb) ys ∧ Sl V (.slice c us.length cc) us ∧ Sl V (.slice d vs.length cd) vs ∧ Sl V (.slice a2 xs2.length ca2) xs2 ∧ Sl V (.slice b2' ys2.length cb2) ys2 ∧ Sl V (.slice c2 us2.length cc2) us2 ∧ Sl V (.slice d2 vs2.length cd2) vs2) := hid (fun V hV => HSS.out V (HW1.out.grown hV HW1.out.size (fun q hq => by have e := Option.some.inj hq; omega)))
  have hp1 : p < w1.heap.size := hpb.lt
  have kp : w1.cell? ⟨p, 0, none⟩ = some (.int .i64 E0) := hpb.cell 0
  have HPW := hid hp1
  clear hpb hb1 hpl HL HSS ka0 ka1 ka2 ka3 ka4 ka5 kb0 kb1 kb2 kb3 kb4 kb5
  obtain ⟨kb0, kb1, kb2, kb3, kb4, kb5⟩ := cells6 (HI.out.box _ (List.mem_cons_of_mem _ (List.mem_cons_self ..))).1
  go_upto_region 2 with fail
  go_cut [23] from 15 (fun s wx => s = .bool false ∧ Hid (GInv w1 p E0 ((w.heap.size, 26, #[.bool n, .slice a xs.length ca, .slice b ys.length cb, .bool m, .slice c us.length cc, .slice d vs.length cd]) :: (w.heap.size + 1, 26, #[.bool n2, .slice a2 xs2.length ca2, .slice b2' ys2.length cb2, .bool m2, .slice c2 us2.length cc2, .slice d2 vs2.length cd2]) :: (w.heap.size + 1 + 1, 26, #[.bool false, .slice none 0 0, .slice none 0 0, .bool false, .slice none 0 0, .slice none 0 0]) :: []) wx))
  case first =>
    by_cases hE : E0 = 0
    · subst hE
      have hnn : (xs2.length == 0 && us2.length == 0) = false := by have := HZE.out rfl; simp only [Bool.and_eq_false_iff, beq_eq_false_iff_ne]; omega
      have HIS := hid (gisNought_any n2 a2 xs2.length ca2 b2' ys2.length cb2 m2 c2 us2.length cc2 d2 vs2.length cd2 w1)
      rw [hnn] at HIS
      clear hnn
      go_wp2_with fail
      refine Calls.mono HIS.out ?_
      rintro x wI ⟨rfl, hbI⟩
      have HBI := hid hbI
      clear hbI
      go_wp2_with fail
      go_meet
      exact ⟨rfl, hid (HI.out.belowed HBI.out)⟩
    · have hE' : (E0 == 0) = false := by simp [hE]
      go_wp2_with fail
      go_meet
      exact ⟨rfl, HI⟩
  case rest =>
    obtain ⟨rfl, HI0⟩ := hcut
    clear kb0 kb1 kb2 kb3 kb4 kb5 kp HI
    obtain ⟨kb0, kb1, kb2, kb3, kb4, kb5⟩ := cells6 (HI0.out.box _ (List.mem_cons_of_mem _ (List.mem_cons_self ..))).1
    have HSQ := hid (gsquare_any p E0 n2 a2 ca2 xs2 b2' cb2 ys2 m2 c2 cc2 us2 d2 cd2 vs2 wc HI0.out.err (fun U hU => by
      have h := HSV.out U (grow_trans HI0.out.grown hU)
      exact ⟨h.2.2.2.2.1, h.2.2.2.2.2.1, h.2.2.2.2.2.2.1, h.2.2.2.2.2.2.2⟩))
    go_wp2_with fail
    refine Calls.mono HSQ.out ?_
    rintro x w2 ⟨n1', x1', y1', c1', n2', x2', y2', c2', t1', t2', nN, vN, xN, uN, yN, cN, rfl, ovN, ouN, tN, hpN, hgN, _⟩
    obtain ⟨aN, kN, rfl⟩ := own_slice' ovN
    obtain ⟨bN, lN, rfl⟩ := own_slice' ouN
    have HTN : Hid (G3 (· + ·) E0 (rboth n2 xs2 ys2 n2 xs2 ys2) (rboth m2 us2 vs2 m2 us2 vs2) (rq n2 xs2 ys2 * rq n2 xs2 ys2) (rq m2 us2 vs2 * rq m2 us2 vs2) nN xN yN cN) := hid ⟨n1', x1', y1', c1', n2', x2', y2', c2', t1', t2', tN⟩
    have HWN := hid (And.intro tN.wx tN.wy)
    have HI1 : Hid (GInv w1 p cN ((w2.heap.size, 24, #[.bool nN, .slice aN xN.length kN, .slice bN yN.length lN]) :: (w.heap.size, 26, #[.bool n, .slice a xs.length ca, .slice b ys.length cb, .bool m, .slice c us.length cc, .slice d vs.length cd]) :: (w.heap.size + 1, 26, #[.bool n2, .slice a2 xs2.length ca2, .slice b2' ys2.length cb2, .bool m2, .slice c2 us2.length cc2, .slice d2 vs2.length cd2]) :: (w.heap.size + 1 + 1, 26, #[.bool false, .slice none 0 0, .slice none 0 0, .bool false, .slice none 0 0, .slice none 0 0]) :: []) (w2.alloc (.cells #[.bool nN, .slice aN xN.length kN, .slice bN yN.length lN] 24))) := hid (((HI0.out.step hpN hgN).alloc _).more (Box.made w2 _ _) (by have := (HI0.out.step hpN hgN).grown.size; omega))
    have HRN : Hid (GRow (w2.alloc (.cells #[.bool nN, .slice aN xN.length kN, .slice bN yN.length lN] 24)) w1.heap.size nN (.slice aN xN.length kN) xN (.slice bN yN.length lN) yN) := hid ((GRow.mk (owns_base ovN HI0.out.grown.size) (owns_base ouN HI0.out.grown.size)).step hp1 (World.grownBy_alloc _ _ _))
    obtain ⟨Y5, hY5⟩ : ∃ Y5, w2.alloc (.cells #[.bool nN, .slice aN xN.length kN, .slice bN yN.length lN] 24) = Y5 := ⟨_, rfl⟩
    rw [hY5] at HI1 HRN
    clear HSQ t1' t2' tN ovN ouN hpN hgN HI0 kb0 kb1 kb2 kb3 kb4 kb5
    have HK : Hid (∀ V EE, GJ w1 Y5 p EE ((w2.heap.size, 24, #[.bool nN, .slice aN xN.length kN, .slice bN yN.length lN]) :: (w.heap.size, 26, #[.bool n, .slice a xs.length ca, .slice b ys.length cb, .bool m, .slice c us.length cc, .slice d vs.length cd]) :: (w.heap.size + 1, 26, #[.bool n2, .slice a2 xs2.length ca2, .slice b2' ys2.length cb2, .bool m2, .slice c2 us2.length cc2, .slice d2 vs2.length cd2]) :: (w.heap.size + 1 + 1, 26, #[.bool false, .slice none 0 0, .slice none 0 0, .bool false, .slice none 0 0, .slice none 0 0]) :: []) V → V.cell? ⟨w.heap.size, 0, none⟩ = some (.bool n) ∧ V.cell? ⟨w.heap.size, 1, none⟩ = some (.slice a xs.length ca) ∧ V.cell? ⟨w.heap.size, 2, none⟩ = some (.slice b ys.length cb) ∧ V.cell? ⟨w.heap.size, 3, none⟩ = some (.bool m) ∧ V.cell? ⟨w.heap.size, 4, none⟩ = some (.slice c us.length cc) ∧ V.cell? ⟨w.heap.size, 5, none⟩ = some (.slice d vs.length cd) ∧ V.cell? ⟨w.heap.size + 1, 0, none⟩ = some (.bool n2) ∧ V.cell? ⟨w.heap.size + 1, 1, none⟩ = some (.slice a2 xs2.length ca2) ∧ V.cell? ⟨w.heap.size + 1, 2, none⟩ = some (.slice b2' ys2.length cb2) ∧ V.cell? ⟨w.heap.size + 1, 3, none⟩ = some (.bool m2) ∧ V.cell? ⟨w.heap.size + 1, 4, none⟩ = some (.slice c2 us2.length cc2) ∧ V.cell? ⟨w.heap.size + 1, 5, none⟩ = some (.slice d2 vs2.length cd2)) := hid (fun V EE hv => by
      obtain ⟨g0, g1, g2, g3, g4, g5⟩ := cells6 (hv.inv.box _ (List.mem_cons_of_mem _ (List.mem_cons_self ..))).1
      obtain ⟨i0, i1, i2, i3, i4, i5⟩ := cells6 (hv.inv.box _ (List.mem_cons_of_mem _ (List.mem_cons_of_mem _ (List.mem_cons_self ..)))).1
      exact ⟨g0, g1, g2, g3, g4, g5, i0, i1, i2, i3, i4, i5⟩)
    have H1 : Hid (∀ V EE, GJ w1 Y5 p EE ((w2.heap.size, 24, #[.bool nN, .slice aN xN.length kN, .slice bN yN.length lN]) :: (w.heap.size, 26, #[.bool n, .slice a xs.length ca, .slice b ys.length cb, .bool m, .slice c us.length cc, .slice d vs.length cd]) :: (w.heap.size + 1, 26, #[.bool n2, .slice a2 xs2.length ca2, .slice b2' ys2.length cb2, .bool m2, .slice c2 us2.length cc2, .slice d2 vs2.length cd2]) :: (w.heap.size + 1 + 1, 26, #[.bool false, .slice none 0 0, .slice none 0 0, .bool false, .slice none 0 0, .slice none 0 0]) :: []) V → Calls Tryz.prog 35 #[.pointer (some ⟨p, 0, none⟩), .agg #[.bool m2, .slice c2 us2.length cc2, .slice d2 vs2.length cd2]] V (GStp w1 Y5 p ((w2.heap.size, 24, #[.bool nN, .slice aN xN.length kN, .slice bN yN.length lN]) :: (w.heap.size, 26, #[.bool n, .slice a xs.length ca, .slice b ys.length cb, .bool m, .slice c us.length cc, .slice d vs.length cd]) :: (w.heap.size + 1, 26, #[.bool n2, .slice a2 xs2.length ca2, .slice b2' ys2.length cb2, .bool m2, .slice c2 us2.length cc2, .slice d2 vs2.length cd2]) :: (w.heap.size + 1 + 1, 26, #[.bool false, .slice none 0 0, .slice none 0 0, .bool false, .slice none 0 0, .slice none 0 0]) :: []) V (fstE EE (rchk m2 us2 vs2)) (-(rq m2 us2 vs2)))) := hid (fun V EE hv => by
      have h := HSV.out V hv.inv.grown
      exact gstp hv (gopposite_any p EE m2 c2 cc2 us2 d2 cd2 vs2 V hv.inv.err h.2.2.2.2.2.2.1 h.2.2.2.2.2.2.2))
    have H2 : Hid (∀ (V : World) (EE : Int) (nO : Bool) (aO : Option Addr) (kO : Nat) (xO : List Int) (bO : Option Addr) (lO : Nat) (yO : List Int), GJ w1 Y5 p EE ((w2.heap.size, 24, #[.bool nN, .slice aN xN.length kN, .slice bN yN.length lN]) :: (w.heap.size, 26, #[.bool n, .slice a xs.length ca, .slice b ys.length cb, .bool m, .slice c us.length cc, .slice d vs.length cd]) :: (w.heap.size + 1, 26, #[.bool n2, .slice a2 xs2.length ca2, .slice b2' ys2.length cb2, .bool m2, .slice c2 us2.length cc2, .slice d2 vs2.length cd2]) :: (w.heap.size + 1 + 1, 26, #[.bool false, .slice none 0 0, .slice none 0 0, .bool false, .slice none 0 0, .slice none 0 0]) :: []) V → (∀ U, V.grownBy U (some p) → Sl U (.slice aO xO.length kO) xO ∧ Sl U (.slice bO yO.length lO) yO) → Calls Tryz.prog 31 #[.pointer (some ⟨p, 0, none⟩), .agg #[.bool n, .slice a xs.length ca, .slice b ys.length cb, .bool m, .slice c us.length cc, .slice d vs.length cd], .agg #[.bool n2, .slice a2 xs2.length ca2, .slice b2' ys2.length cb2, .bool nO, .slice aO xO.length kO, .slice bO yO.length lO]] V (GTm w1 Y5 p ((w2.heap.size, 24, #[.bool nN, .slice aN xN.length kN, .slice bN yN.length lN]) :: (w.heap.size, 26, #[.bool n, .slice a xs.length ca, .slice b ys.length cb, .bool m, .slice c us.length cc, .slice d vs.length cd]) :: (w.heap.size + 1, 26, #[.bool n2, .slice a2 xs2.length ca2, .slice b2' ys2.length cb2, .bool m2, .slice c2 us2.length cc2, .slice d2 vs2.length cd2]) :: (w.heap.size + 1 + 1, 26, #[.bool false, .slice none 0 0, .slice none 0 0, .bool false, .slice none 0 0, .slice none 0 0]) :: []) V EE (rboth n xs ys n2 xs2 ys2) (rboth m us vs nO xO yO) (rboth n xs ys nO xO yO) (rboth m us vs n2 xs2 ys2) (rq n xs ys * rq n2 xs2 ys2) (rq m us vs * rq nO xO yO) (rq n xs ys * rq nO xO yO) (rq m us vs * rq n2 xs2 ys2))) := hid (fun V EE nO aO kO xO bO lO yO hv ho => gtimesJ hv (gtimes_any p EE n a ca xs b cb ys m c cc us d cd vs n2 a2 ca2 xs2 b2' cb2 ys2 nO aO kO xO bO lO yO V hv.inv.err (fun U hU => by
      have h := HSV.out U (grow_trans hv.inv.grown hU)
      exact ⟨h.1, h.2.1, h.2.2.1, h.2.2.2.1, h.2.2.2.2.1, h.2.2.2.2.2.1, (ho U hU).1, (ho U hU).2⟩)))
    have HGB := hid (GInv.base HI1.out HPW.out)
    have HD := hid (GJ.first HI1.out)
    have HD0 := hid (GJ.start HI1.out)
    have hs0 := HK.out _ _ HD.out
    have hwX : w1.heap.size ≤ Y5.heap.size := HGB.out.hw
    have hpX : p < Y5.heap.size := Nat.lt_of_lt_of_le HPW.out hwX
    go_upto_region 5 with fail
    go_cut [8] from 28 (fun s wx => Hid (GCq w1 Y5 p ((w2.heap.size, 24, #[.bool nN, .slice aN xN.length kN, .slice bN yN.length lN]) :: (w.heap.size, 26, #[.bool n, .slice a xs.length ca, .slice b ys.length cb, .bool m, .slice c us.length cc, .slice d vs.length cd]) :: (w.heap.size + 1, 26, #[.bool n2, .slice a2 xs2.length ca2, .slice b2' ys2.length cb2, .bool m2, .slice c2 us2.length cc2, .slice d2 vs2.length cd2]) :: (w.heap.size + 1 + 1, 26, #[.bool false, .slice none 0 0, .slice none 0 0, .bool false, .slice none 0 0, .slice none 0 0]) :: []) cN (rchk m2 us2 vs2) (-(rq m2 us2 vs2)) (fun nO xO yO => rboth m us vs nO xO yO) (fun nO xO yO => rboth n xs ys nO xO yO) (rboth n xs ys n2 xs2 ys2) (rboth m us vs n2 xs2 ys2) (rq n xs ys * rq n2 xs2 ys2) (rq m us vs * rq n2 xs2 ys2) (fun q => rq m us vs * q) (fun q => rq n xs ys * q) s wx))
    case first =>
      go_region_held3 (fun V : World => V.cell? ⟨w.heap.size, 0, none⟩ = some (.bool n) ∧ V.cell? ⟨w.heap.size, 1, none⟩ = some (.slice a xs.length ca) ∧ V.cell? ⟨w.heap.size, 2, none⟩ = some (.slice b ys.length cb) ∧ V.cell? ⟨w.heap.size, 3, none⟩ = some (.bool m) ∧ V.cell? ⟨w.heap.size, 4, none⟩ = some (.slice c us.length cc) ∧ V.cell? ⟨w.heap.size, 5, none⟩ = some (.slice d vs.length cd) ∧ V.cell? ⟨w.heap.size + 1, 0, none⟩ = some (.bool n2) ∧ V.cell? ⟨w.heap.size + 1, 1, none⟩ = some (.slice a2 xs2.length ca2) ∧ V.cell? ⟨w.heap.size + 1, 2, none⟩ = some (.slice b2' ys2.length cb2) ∧ V.cell? ⟨w.heap.size + 1, 3, none⟩ = some (.bool m2) ∧ V.cell? ⟨w.heap.size + 1, 4, none⟩ = some (.slice c2 us2.length cc2) ∧ V.cell? ⟨w.heap.size + 1, 5, none⟩ = some (.slice d2 vs2.length cd2)) (first | with_reducible exact hs4 | with_reducible exact hs3 | with_reducible exact hs2 | with_reducible exact hs1 | with_reducible exact hs0 | with_reducible exact HK.out _ _ (j1.out.alloc _) | with_reducible exact HK.out _ _ (HD0.out.alloc _) | with_reducible exact HK.out _ _ (HD0.out.alloc _).drew | with_reducible exact HK.out _ _ (HD.out.alloc _))
        (first
          | (go_at_call 35; (with_reducible refine Calls.mono (H1.out _ cN (by first | exact HD.out | exact (HD0.out.alloc _).drew)) ?_); rintro x w3 ⟨nO, aO, kO, xO, bO, lO, yO, cO, rfl, t1, j1, r1, rv1, g1, cut1, z1⟩; have hs1 := HK.out _ _ j1.out; clear hs0)
          | (go_at_call 31; (with_reducible refine Calls.mono (H2.out _ cO nO aO kO xO bO lO yO (by first | exact j1.out | exact j1.out.alloc _) (by first | exact fun U hU => (r1.out.step hpX hU).sl t1.out.wx t1.out.wy | exact fun U hU => (r1.out.step hpX (grow_trans (World.grownBy_alloc _ _ _) hU)).sl t1.out.wx t1.out.wy)) ?_); rintro x w4 ⟨n3, a3, k3, x3, b3, l3, y3, c3, n6, a6, k6, x6, b6, l6, y6, c6, rfl, tt, j2, r2, g2, z2⟩; have hs2 := HK.out _ _ j2.out; clear hs1; (first | (with_reducible have HQ2 := hid (gbox_d g1.out hpX); have HQ := hid (gbox_k HQ2.out g2.out hpX); obtain ⟨A0, A1, A2, A3, A4, A5, hA0, hA1, hA2, hA3, hA4, hA5, ⟨q0, q1, q2, q3, q4, q5⟩, f0, f1, f2, f3, f4, f5⟩ := gchain6 HQ.out (.bool n3) (.slice a3 x3.length k3) (.slice b3 y3.length l3) (.bool n6) (.slice a6 x6.length k6) (.slice b6 y6.length l6); have J6 := hid (gchainJ j2.out HGB.out (Nat.le_refl _) hA0 hA1 hA2 hA3 hA4 hA5); have hs4 := HK.out _ _ J6.out) | (with_reducible have HQ := hid (gbox_a g2.out (Nat.lt_of_lt_of_le hpX z1)); have HQ2 := hid (gbox_l w3 26 #[.bool false, .slice none 0 0, .slice none 0 0, .bool false, .slice none 0 0, .slice none 0 0]); obtain ⟨A0, A1, A2, A3, A4, A5, hA0, hA1, hA2, hA3, hA4, hA5, ⟨q0, q1, q2, q3, q4, q5⟩, f0, f1, f2, f3, f4, f5⟩ := gchain6 HQ.out (.bool n3) (.slice a3 x3.length k3) (.slice b3 y3.length l3) (.bool n6) (.slice a6 x6.length k6) (.slice b6 y6.length l6); have J6 := hid (gchainJ j2.out HGB.out z1 hA0 hA1 hA2 hA3 hA4 hA5); have hs4 := HK.out _ _ J6.out) | (have HQ := hid (Box.made w4 26 #[.bool false, .slice none 0 0, .slice none 0 0, .bool false, .slice none 0 0, .slice none 0 0]); have J5 := hid (j2.out.alloc (.cells #[.bool false, .slice none 0 0, .slice none 0 0, .bool false, .slice none 0 0, .slice none 0 0] 26)); have HB5 := hid (alloc_later w4 (.cells #[.bool false, .slice none 0 0, .slice none 0 0, .bool false, .slice none 0 0, .slice none 0 0] 26)); obtain ⟨W5, hW5⟩ : ∃ W5, w4.alloc (.cells #[.bool false, .slice none 0 0, .slice none 0 0, .bool false, .slice none 0 0, .slice none 0 0] 26) = W5 := ⟨_, rfl⟩; rw [hW5] at HQ J5 HB5; have hs3 := HK.out _ _ J5.out; obtain ⟨A0, A1, A2, A3, A4, A5, hA0, hA1, hA2, hA3, hA4, hA5, ⟨q0, q1, q2, q3, q4, q5⟩, f0, f1, f2, f3, f4, f5⟩ := gchain6 HQ.out (.bool n3) (.slice a3 x3.length k3) (.slice b3 y3.length l3) (.bool n6) (.slice a6 x6.length k6) (.slice b6 y6.length l6); have J6 := hid (gchainJ J5.out HGB.out z2 hA0 hA1 hA2 hA3 hA4 hA5); have hs4 := HK.out _ _ J6.out))))
      all_goals
        clear hs2 H1 H2 HK
        go_wp2_with fail
        go_meet
      all_goals (subst hA0 hA1 hA2 hA3 hA4 hA5)
      all_goals first | exact hid (gcq_put HGB.out t1.out tt.out J5.out r2.out HB5.out HQ.out (.inr (Nat.le_refl _)) z2 z1) | exact hid (gcq_put HGB.out t1.out tt.out j2.out r2.out (Below.refl _ _) HQ.out (.inl HQ2.out.lt) (Nat.le_refl _) z1) | exact hid (gcq_put HGB.out t1.out tt.out j2.out r2.out (Below.refl _ _) HQ.out (.inl HQ2.out.lt) z1 (by have := HQ2.out.lt; omega))
    case rest =>
      obtain ⟨g8, nO, xO, yO, cO, n3, a3, k3, x3, b3, l3, y3, c3, n6, a6, k6, x6, b6, l6, y6, c6, rfl, hg8, tO, t3, t6, I8, R3, R6, G8⟩ := hcut.out
      have HTO := hid tO; have HT3 := hid t3; have HT6 := hid t6; have HI8 := hid I8
      have HR3 := hid R3; have HR6 := hid R6
      have HRN8 := hid (HRN.out.step hp1 G8)
      have hp8 : p < Y5.heap.size := hpX
      clear tO t3 t6 I8 R3 R6 G8 hcut HK H1 H2 HGB HD HD0 hs0 HRN HI1 hY5 hwX hpX
      obtain ⟨s0, s1, s2, _, _, _⟩ := cells6 (HI8.out.box _ (List.mem_cons_self ..)).1
      obtain ⟨m0, m1, m2', _, _, _⟩ := box3f (HI8.out.box _ (List.mem_cons_of_mem _ (List.mem_cons_self ..))).1
      have H4 := hid (gquotient_any p c6 n3 a3 k3 x3 b3 l3 y3 nN aN kN xN bN lN yN wc HI8.out.err (HR3.out.sl (G3.wd HT3.out).1 (G3.wd HT3.out).2).1 (HR3.out.sl (G3.wd HT3.out).1 (G3.wd HT3.out).2).2 (HRN8.out.sl HWN.out.1 HWN.out.2).1 (HRN8.out.sl HWN.out.1 HWN.out.2).2)
      go_wp2_with fail
      refine Calls.mono H4.out ?_
      rintro x w5 ⟨k1, v9, zs1, u9', ts1, c9, rfl, ov9, ou9, t9, hp9, hg9, hc5⟩
      obtain ⟨av1, cv1, rfl⟩ := own_slice' ov9
      obtain ⟨au1, cu1, rfl⟩ := own_slice' ou9
      have HC5 := hid hc5
      have HS5 := hid HI8.out.grown.size
      clear hc5
      have HI9 : Hid (GInv w1 p c9 ((w5.heap.size, 24, #[.bool k1, .slice av1 zs1.length cv1, .slice au1 ts1.length cu1]) :: (g8, 26, #[.bool n3, .slice a3 (List.length x3) k3, .slice b3 (List.length y3) l3, .bool n6, .slice a6 (List.length x6) k6, .slice b6 (List.length y6) l6]) :: (w2.heap.size, 24, #[.bool nN, .slice aN xN.length kN, .slice bN yN.length lN]) :: (w.heap.size, 26, #[.bool n, .slice a xs.length ca, .slice b ys.length cb, .bool m, .slice c us.length cc, .slice d vs.length cd]) :: (w.heap.size + 1, 26, #[.bool n2, .slice a2 xs2.length ca2, .slice b2' ys2.length cb2, .bool m2, .slice c2 us2.length cc2, .slice d2 vs2.length cd2]) :: (w.heap.size + 1 + 1, 26, #[.bool false, .slice none 0 0, .slice none 0 0, .bool false, .slice none 0 0, .slice none 0 0]) :: []) (w5.alloc (.cells #[.bool k1, .slice av1 zs1.length cv1, .slice au1 ts1.length cu1] 24))) := hid (((HI8.out.step hp9 hg9).alloc _).more (Box.made w5 _ _) (by have := (HI8.out.step hp9 hg9).grown.size; omega))
      have hgA := grow_trans hg9 (World.grownBy_alloc w5 (.cells #[.bool k1, .slice av1 zs1.length cv1, .slice au1 ts1.length cu1] 24) (some p))
      have HR6A := hid (HR6.out.step hp8 hgA)
      have HRNA := hid (HRN8.out.step hp1 hgA)
      have HR9A := hid ((GRow.mk (n := k1) (owns_base ov9 HI8.out.grown.size) (owns_base ou9 HI8.out.grown.size)).step hp1 (World.grownBy_alloc w5 (.cells #[.bool k1, .slice av1 zs1.length cv1, .slice au1 ts1.length cu1] 24) (some p)))
      have HT9 := hid t9
      obtain ⟨Y6, hY6⟩ : ∃ Y6, w5.alloc (.cells #[.bool k1, .slice av1 zs1.length cv1, .slice au1 ts1.length cu1] 24) = Y6 := ⟨_, rfl⟩
      rw [hY6] at HI9 HR6A HRNA HR9A
      have HS6 : Hid (w5.heap.size ≤ Y6.heap.size) := by rw [← hY6]; exact (alloc_later w5 _).size
      clear H4 hgA t9 ov9 ou9 hp9 hg9 s0 s1 s2 m0 m1 m2' HR6 HRN8 HI8 HR3
      obtain ⟨_, _, _, s3, s4, s5⟩ := cells6 (HI9.out.box _ (List.mem_cons_of_mem _ (List.mem_cons_self ..))).1
      obtain ⟨m0, m1, m2', _, _, _⟩ := box3f (HI9.out.box _ (List.mem_cons_of_mem _ (List.mem_cons_of_mem _ (List.mem_cons_self ..)))).1
      have H5 := hid (gquotient_any p c9 n6 a6 k6 x6 b6 l6 y6 nN aN kN xN bN lN yN Y6 HI9.out.err (HR6A.out.sl (G3.wd HT6.out).1 (G3.wd HT6.out).2).1 (HR6A.out.sl (G3.wd HT6.out).1 (G3.wd HT6.out).2).2 (HRNA.out.sl HWN.out.1 HWN.out.2).1 (HRNA.out.sl HWN.out.1 HWN.out.2).2)
      go_wp2_with fail
      refine Calls.mono H5.out ?_
      rintro x w6 ⟨k2, v9, zs2, u9', ts2, code2, rfl, ov9, ou9, t9, hp9, hg9, hc6⟩
      obtain ⟨av2, cv2, rfl⟩ := own_slice' ov9
      obtain ⟨au2, cu2, rfl⟩ := own_slice' ou9
      have HC6 := hid hc6
      clear hc6
      have HIA : Hid (GInv w1 p code2 ((w6.heap.size, 24, #[.bool k2, .slice av2 zs2.length cv2, .slice au2 ts2.length cu2]) :: (w5.heap.size, 24, #[.bool k1, .slice av1 zs1.length cv1, .slice au1 ts1.length cu1]) :: (g8, 26, #[.bool n3, .slice a3 (List.length x3) k3, .slice b3 (List.length y3) l3, .bool n6, .slice a6 (List.length x6) k6, .slice b6 (List.length y6) l6]) :: (w2.heap.size, 24, #[.bool nN, .slice aN xN.length kN, .slice bN yN.length lN]) :: (w.heap.size, 26, #[.bool n, .slice a xs.length ca, .slice b ys.length cb, .bool m, .slice c us.length cc, .slice d vs.length cd]) :: (w.heap.size + 1, 26, #[.bool n2, .slice a2 xs2.length ca2, .slice b2' ys2.length cb2, .bool m2, .slice c2 us2.length cc2, .slice d2 vs2.length cd2]) :: (w.heap.size + 1 + 1, 26, #[.bool false, .slice none 0 0, .slice none 0 0, .bool false, .slice none 0 0, .slice none 0 0]) :: []) (w6.alloc (.cells #[.bool k2, .slice av2 zs2.length cv2, .slice au2 ts2.length cu2] 24))) := hid (((HI9.out.step hp9 hg9).alloc _).more (Box.made w6 _ _) (by have := (HI9.out.step hp9 hg9).grown.size; omega))
      have hgA := grow_trans hg9 (World.grownBy_alloc w6 (.cells #[.bool k2, .slice av2 zs2.length cv2, .slice au2 ts2.length cu2] 24) (some p))
      have HR9 := hid (HR9A.out.step hp1 hgA)
      have HRA := hid ((GRow.mk (n := k2) (owns_base ov9 HI9.out.grown.size) (owns_base ou9 HI9.out.grown.size)).step hp1 (World.grownBy_alloc w6 (.cells #[.bool k2, .slice av2 zs2.length cv2, .slice au2 ts2.length cu2] 24) (some p)))
      have HTW := hid (gquo_tells HZ1.out HTN.out HTO.out HT3.out HT6.out HT9.out t9)
      obtain ⟨Y7, hY7⟩ : ∃ Y7, w6.alloc (.cells #[.bool k2, .slice av2 zs2.length cv2, .slice au2 ts2.length cu2] 24) = Y7 := ⟨_, rfl⟩
      rw [hY7] at HIA HR9 HRA
      have HS7 : Hid (w6.heap.size ≤ Y7.heap.size) := by rw [← hY7]; exact (alloc_later w6 _).size
      clear H5 hgA t9 ov9 ou9 hp9 hg9 s3 s4 s5 m0 m1 m2' HR6A HRNA HI9 HR9A HT9 HT6 HT3 HTO HTN HZ1
      obtain ⟨s0, s1, s2, _, _, _⟩ := box3f (HIA.out.box _ (List.mem_cons_of_mem _ (List.mem_cons_self ..))).1
      obtain ⟨s3, s4, s5, _, _, _⟩ := box3f (HIA.out.box _ (List.mem_cons_self ..)).1
      have HTL := hid (gtold_any p code2 k1 av1 zs1.length cv1 au1 ts1.length cu1 k2 av2 zs2.length cv2 au2 ts2.length cu2 Y7 HIA.out.err)
      have HR3' := hid (HIA.out.box _ (List.mem_cons_of_mem _ (List.mem_cons_of_mem _ (List.mem_cons_of_mem _ (List.mem_cons_of_mem _ (List.mem_cons_of_mem _ (List.mem_cons_of_mem _ (List.mem_cons_self ..)))))))).1
      have HW3 : Hid (Below w.heap.size w Y7) := hid (HW1.out.grown HIA.out.grown HW1.out.size (fun q hq => by have e := Option.some.inj hq; omega))
      go_wp2_with fail
      refine Calls.mono HTL.out ?_
      rintro x w4 ⟨rfl, hb4⟩
      have HS8 := hid hb4.size
      have HR4 := hid (HR3'.out.later hb4 HR3'.out.lt)
      have HW4 := hid (bt HW3.out hb4)
      have HOO := hid (And.intro (owns_later HR9.out.ov hb4) (And.intro (owns_later HR9.out.ou hb4) (And.intro (owns_later HRA.out.ov hb4) (owns_later HRA.out.ou hb4))))
      have hlo : w.heap.size ≤ w1.heap.size := by omega
      clear hb4 s0 s1 s2 s3 s4 s5
      have m0 : w4.cell? ⟨w.heap.size + 1 + 1, 0, none⟩ = some (.bool false) := HR4.out.cell 0
      have m1 : w4.cell? ⟨w.heap.size + 1 + 1, 1, none⟩ = some (.slice none 0 0) := HR4.out.cell 1
      have m2' : w4.cell? ⟨w.heap.size + 1 + 1, 2, none⟩ = some (.slice none 0 0) := HR4.out.cell 2
      have m3 : w4.cell? ⟨w.heap.size + 1 + 1, 3, none⟩ = some (.bool false) := HR4.out.cell 3
      have m4 : w4.cell? ⟨w.heap.size + 1 + 1, 4, none⟩ = some (.slice none 0 0) := HR4.out.cell 4
      have m5 : w4.cell? ⟨w.heap.size + 1 + 1, 5, none⟩ = some (.slice none 0 0) := HR4.out.cell 5
      have f0 := HR4.out.free 0
      have f1 := HR4.out.free 1
      have f2 := HR4.out.free 2
      have f3 := HR4.out.free 3
      have f4 := HR4.out.free 4
      have f5 := HR4.out.free 5
      by_cases hc2 : code2 = 0
      · rw [if_pos hc2]
        have HFIN := hid (HTW.out.1 hc2)
        clear HTW hc2
        go_wp2_with fail
        have B1 := box_put6 HR4.out (.bool k1) (.slice av1 zs1.length cv1) (.slice au1 ts1.length cu1) (.bool k2) (.slice av2 zs2.length cv2) (.slice au2 ts2.length cu2)
        have G1 := below_put6 HW4.out (w.heap.size + 1 + 1) (by omega) (.bool k1) (.slice av1 zs1.length cv1) (.slice au1 ts1.length cu1) (.bool k2) (.slice av2 zs2.length cv2) (.slice au2 ts2.length cu2)
        have hXX := HX.out.2.2.2.size
        have hput : ∀ {base k : Nat} {v : Value} {l : List Value}, w4.ownsRow base 63 1 v k l → (∀ g, v.ownBlock = some g → X.heap.size ≤ g) → ((((((w4.setCell ⟨w.heap.size + 1 + 1, 0, none⟩ (.bool k1)).setCell ⟨w.heap.size + 1 + 1, 1, none⟩ (.slice av1 zs1.length cv1)).setCell ⟨w.heap.size + 1 + 1, 2, none⟩ (.slice au1 ts1.length cu1)).setCell ⟨w.heap.size + 1 + 1, 3, none⟩ (.bool k2)).setCell ⟨w.heap.size + 1 + 1, 4, none⟩ (.slice av2 zs2.length cv2)).setCell ⟨w.heap.size + 1 + 1, 5, none⟩ (.slice au2 ts2.length cu2)).ownsRow base 63 1 v k l := fun h hb => own_put6 h _ (fun g hg => by have := hb g hg; omega) _ _ _ _ _ _
        clear m0 m1 m2' m3 m4 m5 f0 f1 f2 f3 f4 f5
        refine bodyPost_ret (gres_run (by rfl) B1 _ rfl) rfl ?_
        exact ⟨k1, av1, cv1, zs1, au1, cu1, ts1, k2, av2, cv2, zs2, au2, cu2, ts2, code2, rfl, ⟨owns_base (hput HOO.out.1 (fun g hg => by have := (HOO.out.1.lt g hg).1; omega)) hlo, owns_base (hput HOO.out.2.1 (fun g hg => by have := (HOO.out.2.1.lt g hg).1; omega)) hlo, owns_base (hput HOO.out.2.2.1 (fun g hg => by have := (HOO.out.2.2.1.lt g hg).1; omega)) hlo, owns_base (hput HOO.out.2.2.2 (fun g hg => by have := (HOO.out.2.2.2.lt g hg).1; omega)) hlo⟩, HFIN.out, G1, w5, HC5.out.up (Nat.le_trans hlo HS5.out) (Nat.le_refl _), HC6.out.up HS6.out (by have := HS7.out; have := HS8.out; simp [World.setCell]; omega)⟩
      · rw [if_neg hc2]
        have HFIN := hid (HTW.out.2 hc2)
        clear HTW hc2
        go_wp2_with fail
        have B1 := box_put6 HR4.out (.bool false) (.slice none 0 0) (.slice none 0 0) (.bool false) (.slice none 0 0) (.slice none 0 0)
        have G1 := below_put6 HW4.out (w.heap.size + 1 + 1) (by omega) (.bool false) (.slice none 0 0) (.slice none 0 0) (.bool false) (.slice none 0 0) (.slice none 0 0)
        clear m0 m1 m2' m3 m4 m5 f0 f1 f2 f3 f4 f5
        refine bodyPost_ret (gres_run (by rfl) B1 _ rfl) rfl ?_
        exact ⟨false, none, 0, [], none, 0, [], false, none, 0, [], none, 0, [], code2, rfl, ⟨World.ownsRow_nil _ _ _ _, World.ownsRow_nil _ _ _ _, World.ownsRow_nil _ _ _ _, World.ownsRow_nil _ _ _ _⟩, HFIN.out, G1, _, kcut_nil _ _ G1.size, kcut_nil _ _ (Nat.le_refl _)⟩
theorem gQuo_cut (n : Bool) (a : Option Addr) (ca : Nat) (xs : List Int) (b : Option Addr) (cb : Nat) (ys : List Int) (m : Bool) (c : Option Addr) (cc : Nat) (us : List Int) (d : Option Addr) (cd : Nat) (vs : List Int) (n2 : Bool) (a2 : Option Addr) (ca2 : Nat) (xs2 : List Int) (b2' : Option Addr) (cb2 : Nat) (ys2 : List Int) (m2 : Bool) (c2 : Option Addr) (cc2 : Nat) (us2 : List Int) (d2 : Option Addr) (cd2 : Nat) (vs2 : List Int) (w : World) (sx : Sl w (.slice a xs.length ca) xs) (sy : Sl w (.slice b ys.length cb) ys) (su : Sl w (.slice c us.length cc) us) (sv : Sl w (.slice d vs.length cd) vs) (sx2 : Sl w (.slice a2 xs2.length ca2) xs2) (sy2 : Sl w (.slice b2' ys2.length cb2) ys2) (su2 : Sl w (.slice c2 us2.length cc2) us2) (sv2 : Sl w (.slice d2 vs2.length cd2) vs2) :
    Calls Tryz.prog 14 #[.agg #[.bool n, .slice a xs.length ca, .slice b ys.length cb, .bool m, .slice c us.length cc, .slice d vs.length cd], .agg #[.bool n2, .slice a2 xs2.length ca2, .slice b2' ys2.length cb2, .bool m2, .slice c2 us2.length cc2, .slice d2 vs2.length cd2]] w (KToldC w (fstE (fstE (gchk n xs ys m us vs) (gchk n2 xs2 ys2 m2 us2 vs2)) (if xs2.length = 0 ∧ us2.length = 0 then 7 else 0)) (qlong (rq n xs ys) (rq m us vs) (rq n2 xs2 ys2) (rq m2 us2 vs2) ∨ rlong ((rq n xs ys * -(rq m2 us2 vs2) + rq m us vs * rq n2 xs2 ys2) / (rq n2 xs2 ys2 * rq n2 xs2 ys2 + rq m2 us2 vs2 * rq m2 us2 vs2))) ((rq n xs ys * rq n2 xs2 ys2 - rq m us vs * -(rq m2 us2 vs2)) / (rq n2 xs2 ys2 * rq n2 xs2 ys2 + rq m2 us2 vs2 * rq m2 us2 vs2)) ((rq n xs ys * -(rq m2 us2 vs2) + rq m us vs * rq n2 xs2 ys2) / (rq n2 xs2 ys2 * rq n2 xs2 ys2 + rq m2 us2 vs2 * rq m2 us2 vs2))) := by
  by_cases hz : fstE (gchk n xs ys m us vs) (gchk n2 xs2 ys2 m2 us2 vs2) = 0 ∧ xs2.length = 0 ∧ us2.length = 0
  · rw [hz.1, fstE_zero, if_pos hz.2]
    refine Calls.mono (gQuo_zero n a ca xs b cb ys m c cc us d cd vs n2 a2 ca2 xs2 b2' cb2 ys2 m2 c2 cc2 us2 d2 cd2 vs2 w sx sy su sv sx2 sy2 su2 sv2 hz.1 hz.2.1 hz.2.2) ?_
    rintro x w' ⟨rfl, hb⟩
    exact ⟨false, none, 0, [], none, 0, [], false, none, 0, [], none, 0, [], 7, rfl, ⟨World.ownsRow_nil _ _ _ _, World.ownsRow_nil _ _ _ _, World.ownsRow_nil _ _ _ _, World.ownsRow_nil _ _ _ _⟩, ⟨⟨Wd.nil, Wd.nil, Wd.nil, Wd.nil⟩, fun _ => ⟨⟨rfl, rfl, rfl, rfl, rfl, rfl⟩, rfl⟩, fun h => absurd h (by decide), fun h => absurd h (by decide)⟩, hb, _, kcut_nil _ _ hb.size, kcut_nil _ _ (Nat.le_refl _)⟩
  · have e : fstE (fstE (gchk n xs ys m us vs) (gchk n2 xs2 ys2 m2 us2 vs2)) (if xs2.length = 0 ∧ us2.length = 0 then 7 else 0) = fstE (gchk n xs ys m us vs) (gchk n2 xs2 ys2 m2 us2 vs2) := by
      by_cases h : fstE (gchk n xs ys m us vs) (gchk n2 xs2 ys2 m2 us2 vs2) = 0
      · rw [h, fstE_zero, if_neg (fun h' => hz ⟨h, h'⟩)]
      · exact fstE_err _ h
    rw [e]
    exact gQuo_gocut n a ca xs b cb ys m c cc us d cd vs n2 a2 ca2 xs2 b2' cb2 ys2 m2 c2 cc2 us2 d2 cd2 vs2 w sx sy su sv sx2 sy2 su2 sv2 hz
theorem kboxes3s (w : World) (t t' : Nat) (u v z : Array Value) : Box (((w.alloc (.cells u t)).alloc (.cells v t')).alloc (.cells z t')) w.heap.size t u ∧ Box (((w.alloc (.cells u t)).alloc (.cells v t')).alloc (.cells z t')) (w.heap.size + 1) t' v ∧ Box (((w.alloc (.cells u t)).alloc (.cells v t')).alloc (.cells z t')) (w.heap.size + 1 + 1) t' z ∧ Below w.heap.size w (((w.alloc (.cells u t)).alloc (.cells v t')).alloc (.cells z t')) := by
  have e1 : (w.alloc (.cells u t)).heap.size = w.heap.size + 1 := World.size_alloc _ _
  have e2 : ((w.alloc (.cells u t)).alloc (.cells v t')).heap.size = w.heap.size + 1 + 1 := by rw [World.size_alloc, World.size_alloc]
  have a := Box.made w t u
  have b := Box.made (w.alloc (.cells u t)) t' v
  have c := Box.made ((w.alloc (.cells u t)).alloc (.cells v t')) t' z
  have a2 := a.later (alloc_later (w.alloc (.cells u t)) (.cells v t')) a.lt
  exact ⟨a2.later (alloc_later _ _) a2.lt, e1 ▸ (b.later (alloc_later _ _) b.lt), e2 ▸ c, bt (alloc_later _ _) (bt (alloc_later _ _) (alloc_later _ _))⟩
set_option maxHeartbeats 3200000 in
theorem gScale_cut (h : Bool) (e : Option Addr) (ce : Nat) (rs : List Int) (f : Option Addr) (cf : Nat) (ts : List Int) (n : Bool) (a : Option Addr) (ca : Nat) (xs : List Int) (b : Option Addr) (cb : Nat) (ys : List Int) (m : Bool) (c : Option Addr) (cc : Nat) (us : List Int) (d : Option Addr) (cd : Nat) (vs : List Int) (w : World) (sr : Sl w (.slice e rs.length ce) rs) (st : Sl w (.slice f ts.length cf) ts) (sx : Sl w (.slice a xs.length ca) xs) (sy : Sl w (.slice b ys.length cb) ys) (su : Sl w (.slice c us.length cc) us) (sv : Sl w (.slice d vs.length cd) vs) :
    Calls Tryz.prog 16 #[.agg #[.bool h, .slice e rs.length ce, .slice f ts.length cf], .agg #[.bool n, .slice a xs.length ca, .slice b ys.length cb, .bool m, .slice c us.length cc, .slice d vs.length cd]] w (KToldC w (fstE (rchk h rs ts) (gchk n xs ys m us vs)) (rlong (rq h rs ts * rq n xs ys) ∨ rlong (rq h rs ts * rq m us vs)) (rq h rs ts * rq n xs ys) (rq h rs ts * rq m us vs)) := by
  have HX := hid (kboxes3s w 24 26 #[.bool h, .slice e rs.length ce, .slice f ts.length cf] #[.bool n, .slice a xs.length ca, .slice b ys.length cb, .bool m, .slice c us.length cc, .slice d vs.length cd] #[.bool false, .slice none 0 0, .slice none 0 0, .bool false, .slice none 0 0, .slice none 0 0])
  obtain ⟨X, hX⟩ : ∃ X, ((w.alloc (.cells #[.bool h, .slice e rs.length ce, .slice f ts.length cf] 24)).alloc (.cells #[.bool n, .slice a xs.length ca, .slice b ys.length cb, .bool m, .slice c us.length cc, .slice d vs.length cd] 26)).alloc (.cells #[.bool false, .slice none 0 0, .slice none 0 0, .bool false, .slice none 0 0, .slice none 0 0] 26) = X := ⟨_, rfl⟩
  rw [hX] at HX
  have HCK := hid (rcheck_any h _ rs _ ts X (sr.later HX.out.2.2.2) (st.later HX.out.2.2.2))
  have HLK : Hid (∀ V p E, Below w.heap.size w V → Box V p 53 #[.int .i64 E] → Calls Tryz.prog 42 #[.pointer (some ⟨p, 0, none⟩), .agg #[.bool n, .slice a xs.length ca, .slice b ys.length cb, .bool m, .slice c us.length cc, .slice d vs.length cd]] V fun e w' => e = .returned (.tuple #[]) ∧ Box w' p 53 #[.int .i64 (fstE E (gchk n xs ys m us vs))] ∧ V.grownBy w' (some p)) := fun V p E hv hb => glook_any p E n a ca xs b cb ys m c cc us d cd vs V hb (sx.later hv) (sy.later hv) (su.later hv) (sv.later hv)
  have H1 : Hid (∀ V p E, Below w.heap.size w V → Box V p 53 #[.int .i64 E] → Calls Tryz.prog 43 #[.pointer (some ⟨p, 0, none⟩), .agg #[.bool h, .slice e rs.length ce, .slice f ts.length cf], .agg #[.bool n, .slice a xs.length ca, .slice b ys.length cb]] V (GTell V p (fstE E (rboth h rs ts n xs ys)) (rq h rs ts * rq n xs ys))) := fun V p E hv hb => gproduct_any p E h e ce rs f cf ts n a ca xs b cb ys V hb (sr.later hv) (st.later hv) (sx.later hv) (sy.later hv)
  have H2 : Hid (∀ V p E, Below w.heap.size w V → Box V p 53 #[.int .i64 E] → Calls Tryz.prog 43 #[.pointer (some ⟨p, 0, none⟩), .agg #[.bool h, .slice e rs.length ce, .slice f ts.length cf], .agg #[.bool m, .slice c us.length cc, .slice d vs.length cd]] V (GTell V p (fstE E (rboth h rs ts m us vs)) (rq h rs ts * rq m us vs))) := fun V p E hv hb => gproduct_any p E h e ce rs f cf ts m c cc us d cd vs V hb (sr.later hv) (st.later hv) (su.later hv) (sv.later hv)
  have HZ1 : Hid (fstE (rchk h rs ts) (gchk n xs ys m us vs) = 0 → rboth h rs ts n xs ys = 0 ∧ rboth h rs ts m us vs = 0) := fun hh => by
    obtain ⟨k1, k2⟩ := fstE_ok hh
    obtain ⟨k3, k4⟩ := gchk_ok k2
    exact ⟨rboth0 k1 k3, rboth0 k1 k4⟩
  generalize gchk n xs ys m us vs = eg at *
  generalize rchk h rs ts = er at *
  generalize rboth h rs ts n xs ys = e1 at *
  generalize rboth h rs ts m us vs = e2 at *
  generalize rq h rs ts * rq n xs ys = q1 at *
  generalize rq h rs ts * rq m us vs = q2 at *
  clear sr st sx sy su sv
  have kr0 : X.cell? ⟨w.heap.size, 0, none⟩ = some (.bool h) := HX.out.1.cell 0
  have kr1 : X.cell? ⟨w.heap.size, 1, none⟩ = some (.slice e rs.length ce) := HX.out.1.cell 1
  have kr2 : X.cell? ⟨w.heap.size, 2, none⟩ = some (.slice f ts.length cf) := HX.out.1.cell 2
  go_enter Tryz.func16, Tryz.ntmps16
  go_wp2_with fail
  refine Calls.mono HCK.out ?_
  rintro x w0 ⟨rfl, hb0⟩
  have HSB := hid (Box.made w0 53 #[.int .i64 er])
  have HSA := hid (alloc_later w0 (.cells #[.int .i64 er] 53))
  obtain ⟨Y, hY⟩ : ∃ Y, w0.alloc (.cells #[.int .i64 er] 53) = Y := ⟨_, rfl⟩
  rw [hY] at HSB HSA
  have HXY := hid (bt hb0 HSA.out)
  have hX0 : X.heap.size ≤ w0.heap.size := hb0.size
  have HWY := hid (bt HX.out.2.2.2 HXY.out)
  have HAY := hid (HX.out.2.1.later HXY.out HX.out.2.1.lt)
  clear hb0 HCK kr0 kr1 kr2
  have ka0 : Y.cell? ⟨w.heap.size + 1, 0, none⟩ = some (.bool n) := HAY.out.cell 0
  have ka1 : Y.cell? ⟨w.heap.size + 1, 1, none⟩ = some (.slice a xs.length ca) := HAY.out.cell 1
  have ka2 : Y.cell? ⟨w.heap.size + 1, 2, none⟩ = some (.slice b ys.length cb) := HAY.out.cell 2
  have ka3 : Y.cell? ⟨w.heap.size + 1, 3, none⟩ = some (.bool m) := HAY.out.cell 3
  have ka4 : Y.cell? ⟨w.heap.size + 1, 4, none⟩ = some (.slice c us.length cc) := HAY.out.cell 4
  have ka5 : Y.cell? ⟨w.heap.size + 1, 5, none⟩ = some (.slice d vs.length cd) := HAY.out.cell 5
  go_wp2_with fail
  refine Calls.mono (HLK.out Y w0.heap.size er HWY.out HSB.out) ?_
  rintro x w1 ⟨rfl, hpb, hg1⟩
  have hpX : X.heap.size ≤ w0.heap.size := hX0
  obtain ⟨p, hp⟩ : ∃ p, w0.heap.size = p := ⟨_, rfl⟩
  have HPE := hid hp
  have hrX : w.heap.size + 1 + 1 < X.heap.size := HX.out.2.2.1.lt
  have hYs : Y.heap.size ≤ w1.heap.size := hg1.size
  have HW1 : Hid (Below w.heap.size w w1) := HWY.out.grown hg1 HWY.out.size (fun q hq => by have e := Option.some.inj hq; omega)
  have HA1 := hid (HAY.out.kept' hg1 (by intro e; have := Option.some.inj e; omega))
  have HRR1 := hid ((HX.out.1.later HXY.out HX.out.1.lt).kept' hg1 (by intro e; have := Option.some.inj e; omega))
  have HR1 := hid ((HX.out.2.2.1.later HXY.out HX.out.2.2.1.lt).kept' hg1 (by intro e; have := Option.some.inj e; omega))
  have HP1 := hid hpb
  generalize fstE er eg = E0 at *
  clear hpb hg1 HLK ka0 ka1 ka2 ka3 ka4 ka5 HAY HXY HWY HSB HSA hp HPE
  have hpw1 : w0.heap.size < w1.heap.size := HP1.out.lt
  have ka0 : w1.cell? ⟨w.heap.size + 1, 0, none⟩ = some (.bool n) := HA1.out.cell 0
  have ka1 : w1.cell? ⟨w.heap.size + 1, 1, none⟩ = some (.slice a xs.length ca) := HA1.out.cell 1
  have ka2 : w1.cell? ⟨w.heap.size + 1, 2, none⟩ = some (.slice b ys.length cb) := HA1.out.cell 2
  have kr0 : w1.cell? ⟨w.heap.size, 0, none⟩ = some (.bool h) := HRR1.out.cell 0
  have kr1 : w1.cell? ⟨w.heap.size, 1, none⟩ = some (.slice e rs.length ce) := HRR1.out.cell 1
  have kr2 : w1.cell? ⟨w.heap.size, 2, none⟩ = some (.slice f ts.length cf) := HRR1.out.cell 2
  go_wp2_with fail
  refine Calls.mono (H1.out _ w0.heap.size E0 HW1.out HP1.out) ?_
  rintro x w2 ⟨k1, v1, zs1, u1, ts1, code1, rfl, ov1, ou1, ht1, hp2, hg2, hcut1⟩
  obtain ⟨av1, cv1, rfl⟩ := own_slice' ov1
  obtain ⟨au1, cu1, rfl⟩ := own_slice' ou1
  have hw12 : w1.heap.size ≤ w2.heap.size := hg2.size
  have HW2 : Hid (Below w.heap.size w w2) := HW1.out.grown hg2 HW1.out.size (fun q hq => by have e := Option.some.inj hq; omega)
  have HA2 := hid (HA1.out.kept' hg2 (by intro e; have := Option.some.inj e; omega))
  have HRR2 := hid (HRR1.out.kept' hg2 (by intro e; have := Option.some.inj e; omega))
  have HR2 := hid (HR1.out.kept' hg2 (by intro e; have := Option.some.inj e; omega))
  have HP2 := hid hp2
  have HV1 := hid ov1
  have HU1 := hid ou1
  have HT1 := hid ht1
  have HC1 := hid hcut1
  have HN := hid (Box.made w2 24 #[.bool k1, .slice av1 zs1.length cv1, .slice au1 ts1.length cu1])
  have HNB := hid (alloc_later w2 (.cells #[.bool k1, .slice av1 zs1.length cv1, .slice au1 ts1.length cu1] 24))
  obtain ⟨Z, hZ⟩ : ∃ Z, w2.alloc (.cells #[.bool k1, .slice av1 zs1.length cv1, .slice au1 ts1.length cu1] 24) = Z := ⟨_, rfl⟩
  rw [hZ] at HN HNB
  have HAZ := hid (HA2.out.later HNB.out HA2.out.lt)
  have HRZ := hid (HRR2.out.later HNB.out HRR2.out.lt)
  clear ov1 ou1 ht1 hp2 hg2 hcut1 HW1 HA1 HR1 HP1 H1 ka0 ka1 ka2 kr0 kr1 kr2
  have ka3 : Z.cell? ⟨w.heap.size + 1, 3, none⟩ = some (.bool m) := HAZ.out.cell 3
  have ka4 : Z.cell? ⟨w.heap.size + 1, 4, none⟩ = some (.slice c us.length cc) := HAZ.out.cell 4
  have ka5 : Z.cell? ⟨w.heap.size + 1, 5, none⟩ = some (.slice d vs.length cd) := HAZ.out.cell 5
  have kr0 : Z.cell? ⟨w.heap.size, 0, none⟩ = some (.bool h) := HRZ.out.cell 0
  have kr1 : Z.cell? ⟨w.heap.size, 1, none⟩ = some (.slice e rs.length ce) := HRZ.out.cell 1
  have kr2 : Z.cell? ⟨w.heap.size, 2, none⟩ = some (.slice f ts.length cf) := HRZ.out.cell 2
  go_wp2_with fail
  refine Calls.mono (H2.out _ w0.heap.size code1 (bt HW2.out HNB.out) (HP2.out.later HNB.out HP2.out.lt)) ?_
  rintro x w3 ⟨k2, v2, zs2, u2, ts2, code2, rfl, ov2, ou2, ht2, hp3, hg3, hcut2⟩
  obtain ⟨av2, cv2, rfl⟩ := own_slice' ov2
  obtain ⟨au2, cu2, rfl⟩ := own_slice' ou2
  have hZ3 : Z.heap.size ≤ w3.heap.size := hg3.size
  have hw2Z : w2.heap.size < Z.heap.size := HN.out.lt
  have HW3 : Hid (Below w.heap.size w w3) := (bt HW2.out HNB.out).grown hg3 (bt HW2.out HNB.out).size (fun q hq => by have e := Option.some.inj hq; omega)
  have HR3 := hid ((HR2.out.later HNB.out HR2.out.lt).kept' hg3 (by intro e; have := Option.some.inj e; omega))
  have HN3 := hid (HN.out.kept' hg3 (by intro e; have := Option.some.inj e; omega))
  have HP3 := hid hp3
  have hk : ∀ (v : Value) (q : Nat), (∀ g, v.ownBlock = some g → q ≤ g) → w0.heap.size < q → v.ownBlock = none ∨ v.ownBlock ≠ some w0.heap.size := fun v q h1 h2 => by
    cases e : v.ownBlock with
    | none => exact .inl rfl
    | some g => right; intro h; have e2 := Option.some.inj h; have := h1 g e; omega
  have HV3 := hid (World.ownsRow.kept (owns_later HV1.out HNB.out) hg3 (hk _ w1.heap.size (fun g hg => (HV1.out.lt g hg).1) hpw1))
  have HU3 := hid (World.ownsRow.kept (owns_later HU1.out HNB.out) hg3 (hk _ w1.heap.size (fun g hg => (HU1.out.lt g hg).1) hpw1))
  have HV4 := hid ov2
  have HU4 := hid ou2
  have HT2 := hid ht2
  have HC2 := hid hcut2
  clear hk
  have HM := hid (Box.made w3 24 #[.bool k2, .slice av2 zs2.length cv2, .slice au2 ts2.length cu2])
  have HMB := hid (alloc_later w3 (.cells #[.bool k2, .slice av2 zs2.length cv2, .slice au2 ts2.length cu2] 24))
  obtain ⟨Q, hQ⟩ : ∃ Q, w3.alloc (.cells #[.bool k2, .slice av2 zs2.length cv2, .slice au2 ts2.length cu2] 24) = Q := ⟨_, rfl⟩
  rw [hQ] at HM HMB
  have HNQ := hid (HN3.out.later HMB.out HN3.out.lt)
  have HTO := hid (gtold_any w0.heap.size code2 k1 av1 zs1.length cv1 au1 ts1.length cu1 k2 av2 zs2.length cv2 au2 ts2.length cu2 Q (HP3.out.later HMB.out HP3.out.lt))
  clear ov2 ou2 ht2 hp3 hg3 hcut2 H2 ka3 ka4 ka5 kr0 kr1 kr2
  have ka0 : Q.cell? ⟨w2.heap.size, 0, none⟩ = some (.bool k1) := HNQ.out.cell 0
  have ka1 : Q.cell? ⟨w2.heap.size, 1, none⟩ = some (.slice av1 zs1.length cv1) := HNQ.out.cell 1
  have ka2 : Q.cell? ⟨w2.heap.size, 2, none⟩ = some (.slice au1 ts1.length cu1) := HNQ.out.cell 2
  have kb0 : Q.cell? ⟨w3.heap.size, 0, none⟩ = some (.bool k2) := HM.out.cell 0
  have kb1 : Q.cell? ⟨w3.heap.size, 1, none⟩ = some (.slice av2 zs2.length cv2) := HM.out.cell 1
  have kb2 : Q.cell? ⟨w3.heap.size, 2, none⟩ = some (.slice au2 ts2.length cu2) := HM.out.cell 2
  go_wp2_with fail
  refine Calls.mono HTO.out ?_
  rintro x w4 ⟨rfl, hb4⟩
  have HW4x := hid hb4
  have HR4 := hid (HR3.out.later (bt HMB.out hb4) HR3.out.lt)
  have HW4 := hid (bt HW3.out (bt HMB.out hb4))
  have HOO := hid (And.intro (owns_later HV3.out (bt HMB.out hb4)) (And.intro (owns_later HU3.out (bt HMB.out hb4)) (And.intro (owns_later HV4.out (bt HMB.out hb4)) (owns_later HU4.out (bt HMB.out hb4)))))
  have hlo : w.heap.size ≤ w1.heap.size := by omega
  have hlZ : w.heap.size ≤ Z.heap.size := by omega
  clear hb4 ka0 ka1 ka2 kb0 kb1 kb2
  have m0 : w4.cell? ⟨w.heap.size + 1 + 1, 0, none⟩ = some (.bool false) := HR4.out.cell 0
  have m1 : w4.cell? ⟨w.heap.size + 1 + 1, 1, none⟩ = some (.slice none 0 0) := HR4.out.cell 1
  have m2' : w4.cell? ⟨w.heap.size + 1 + 1, 2, none⟩ = some (.slice none 0 0) := HR4.out.cell 2
  have m3 : w4.cell? ⟨w.heap.size + 1 + 1, 3, none⟩ = some (.bool false) := HR4.out.cell 3
  have m4 : w4.cell? ⟨w.heap.size + 1 + 1, 4, none⟩ = some (.slice none 0 0) := HR4.out.cell 4
  have m5 : w4.cell? ⟨w.heap.size + 1 + 1, 5, none⟩ = some (.slice none 0 0) := HR4.out.cell 5
  have f0 := HR4.out.free 0
  have f1 := HR4.out.free 1
  have f2 := HR4.out.free 2
  have f3 := HR4.out.free 3
  have f4 := HR4.out.free 4
  have f5 := HR4.out.free 5
  have HTW := hid (gtwo HT1.out HT2.out (fun h => (HZ1.out h).1) (fun h => (HZ1.out h).2))
  have hsQ := (bt HMB.out HW4x.out).size
  by_cases hc2 : code2 = 0
  · rw [if_pos hc2]
    have HFIN := hid (HTW.out.1 hc2)
    clear HTW hc2
    go_wp2_with fail
    have B1 := box_put6 HR4.out (.bool k1) (.slice av1 zs1.length cv1) (.slice au1 ts1.length cu1) (.bool k2) (.slice av2 zs2.length cv2) (.slice au2 ts2.length cu2)
    have G1 := below_put6 HW4.out (w.heap.size + 1 + 1) (by omega) (.bool k1) (.slice av1 zs1.length cv1) (.slice au1 ts1.length cu1) (.bool k2) (.slice av2 zs2.length cv2) (.slice au2 ts2.length cu2)
    have hXX := HX.out.2.2.2.size
    have hput : ∀ {base k : Nat} {v : Value} {l : List Value}, w4.ownsRow base 63 1 v k l → (∀ g, v.ownBlock = some g → X.heap.size ≤ g) → ((((((w4.setCell ⟨w.heap.size + 1 + 1, 0, none⟩ (.bool k1)).setCell ⟨w.heap.size + 1 + 1, 1, none⟩ (.slice av1 zs1.length cv1)).setCell ⟨w.heap.size + 1 + 1, 2, none⟩ (.slice au1 ts1.length cu1)).setCell ⟨w.heap.size + 1 + 1, 3, none⟩ (.bool k2)).setCell ⟨w.heap.size + 1 + 1, 4, none⟩ (.slice av2 zs2.length cv2)).setCell ⟨w.heap.size + 1 + 1, 5, none⟩ (.slice au2 ts2.length cu2)).ownsRow base 63 1 v k l := fun h hb => own_put6 h _ (fun g hg => by have := hb g hg; omega) _ _ _ _ _ _
    clear m0 m1 m2' m3 m4 m5 f0 f1 f2 f3 f4 f5
    refine bodyPost_ret (gres_run (by rfl) B1 _ rfl) rfl ?_
    exact ⟨k1, av1, cv1, zs1, au1, cu1, ts1, k2, av2, cv2, zs2, au2, cu2, ts2, code2, rfl, ⟨owns_base (hput HOO.out.1 (fun g hg => by have := (HOO.out.1.lt g hg).1; omega)) hlo, owns_base (hput HOO.out.2.1 (fun g hg => by have := (HOO.out.2.1.lt g hg).1; omega)) hlo, owns_base (hput HOO.out.2.2.1 (fun g hg => by have := (HOO.out.2.2.1.lt g hg).1; omega)) hlZ, owns_base (hput HOO.out.2.2.2 (fun g hg => by have := (HOO.out.2.2.2.lt g hg).1; omega)) hlZ⟩, HFIN.out, G1, w2, HC1.out.up hlo (Nat.le_refl _), HC2.out.up HNB.out.size (by simp [World.setCell]; omega)⟩
  · rw [if_neg hc2]
    have HFIN := hid (HTW.out.2 hc2)
    clear HTW hc2
    go_wp2_with fail
    have B1 := box_put6 HR4.out (.bool false) (.slice none 0 0) (.slice none 0 0) (.bool false) (.slice none 0 0) (.slice none 0 0)
    have G1 := below_put6 HW4.out (w.heap.size + 1 + 1) (by omega) (.bool false) (.slice none 0 0) (.slice none 0 0) (.bool false) (.slice none 0 0) (.slice none 0 0)
    clear m0 m1 m2' m3 m4 m5 f0 f1 f2 f3 f4 f5
    refine bodyPost_ret (gres_run (by rfl) B1 _ rfl) rfl ?_
    exact ⟨false, none, 0, [], none, 0, [], false, none, 0, [], none, 0, [], code2, rfl, ⟨World.ownsRow_nil _ _ _ _, World.ownsRow_nil _ _ _ _, World.ownsRow_nil _ _ _ _, World.ownsRow_nil _ _ _ _⟩, HFIN.out, G1, _, kcut_nil _ _ G1.size, kcut_nil _ _ (Nat.le_refl _)⟩
def anRow (A : Nat → Option Addr) (L C : Nat → Nat) (n : Nat) : List Value := (List.range n).map fun j => .slice (A j) (L j) (C j)
theorem anRow_succ (A : Nat → Option Addr) (L C : Nat → Nat) (n : Nat) : anRow A L C (n + 1) = anRow A L C n ++ [.slice (A n) (L n) (C n)] := by
  unfold anRow
  rw [List.range_succ, List.map_append]
  rfl
theorem anRow_two (A : Nat → Option Addr) (L C : Nat → Nat) (k : Nat) : anRow A L C (2 * (k + 1)) = anRow A L C (2 * k) ++ [.slice (A (2 * k)) (L (2 * k)) (C (2 * k)), .slice (A (2 * k + 1)) (L (2 * k + 1)) (C (2 * k + 1))] := by
  rw [show 2 * (k + 1) = 2 * k + 1 + 1 by omega, anRow_succ, anRow_succ, List.append_assoc]
  rfl
theorem anRow_get (A : Nat → Option Addr) (L C : Nat → Nat) (n j : Nat) (hj : j < n) : (anRow A L C n)[j]? = some (.slice (A j) (L j) (C j)) := by
  unfold anRow
  rw [List.getElem?_map, List.getElem?_range hj]
  rfl
set_option maxHeartbeats 1600000 in
theorem apartRatiosN (base N g cp : Nat) (B : Nat → Bool) (A : Nat → Option Addr) (L C : Nat → Nat) (X : Nat → List Int) (w : World) (hN : N ≤ 500) (hN0 : 0 < N)
    (hk : ∀ V, Below w.heap.size w V → ∀ k, k < N → V.cell? ⟨g, k * 3, none⟩ = some (.bool (B k)) ∧ V.cell? ⟨g, k * 3 + 1, none⟩ = some (.slice (A (2 * k)) (L (2 * k)) (C (2 * k))) ∧ V.cell? ⟨g, k * 3 + 2, none⟩ = some (.slice (A (2 * k + 1)) (L (2 * k + 1)) (C (2 * k + 1))))
    (hbs : base ≤ w.heap.size) (hcp : N ≤ cp) (hwd : ∀ j, j < 2 * N → Wd (X j)) (hlen : ∀ j, j < 2 * N → (X j).length ≤ 1099511627776)
    (hown : ∀ j, j < 2 * N → w.ownsRow base 63 1 (.slice (A j) (L j) (C j)) (X j).length ((X j).map (Value.int .u32)))
    (hap : ∀ i j, i < 2 * N → j < 2 * N → i ≠ j → (Value.slice (A i) (L i) (C i)).ownBlock = none ∨ (Value.slice (A i) (L i) (C i)).ownBlock ≠ (Value.slice (A j) (L j) (C j)).ownBlock) :
    Calls Tryz.prog 49 #[.slice (some ⟨g, 0, none⟩) N cp] w fun e w' => e = .returned (.bool true) ∧ Below base w w' := by
  obtain ⟨i0, hi, hz0, hz1, hz2⟩ := info_parts Tryz.infoL
  have HF := hid (And.intro hwd (And.intro hlen (And.intro hown hap)))
  have HK := hid hk
  have HBS := hid hbs
  clear hk hwd hlen hown hap hbs
  go_enter Tryz.func49, Tryz.ntmps49
  go_wp2_with fail
  go_loopw [3, 4] (fun v t wr => ∃ (k : Nat) (q : Option Addr) (d : Nat), k ≤ N ∧ t = .int .i64 k ∧ v = .slice q (2 * k) d ∧ Hid (wr.ownsRow w.heap.size 22 1 (.slice q (2 * k) d) (2 * k) (anRow A L C (2 * k))) ∧ Hid (Below w.heap.size w wr)) (fun _ t _ => N - (intOf t).toNat)
  case atStart => exact ⟨0, none, 0, Nat.zero_le _, rfl, rfl, World.ownsRow_nil _ _ _ _, Below.refl _ _⟩
  case round =>
    obtain ⟨k, q, d, hkN, rfl, rfl, HO, HB⟩ := hrel
    by_cases hlt : k < N
    · have hk0 : (0 : Int) ≤ ↑k := by omega
      have hk1 : (↑k : Int) < ↑N := by omega
      obtain ⟨e0, e1, e2⟩ := HK.out wr HB.out k hlt
      have hs0 := HK.out _ HB.out.drew k hlt
      have hbA : Below w.heap.size w (wr.alloc (.cells #[.slice (A (2 * k)) (L (2 * k)) (C (2 * k)), .slice (A (2 * k + 1)) (L (2 * k + 1)) (C (2 * k + 1))] 22)).drew := (bt HB.out (alloc_later wr _)).drew
      have HOA : Hid ((wr.alloc (.cells #[.slice (A (2 * k)) (L (2 * k)) (C (2 * k)), .slice (A (2 * k + 1)) (L (2 * k + 1)) (C (2 * k + 1))] 22)).drew.ownsRow w.heap.size 22 1 (.slice q (2 * k) d) (2 * k) (anRow A L C (2 * k))) := owns_later HO.out (bt (alloc_later wr _) (Below.drew (Below.refl _ _)))
      have hsA := HK.out _ hbA k hlt
      have hsz := HB.out.size
      go_wp2_with fail
      go_region_held3 (fun V : World => V.cell? ⟨g, k * 3, none⟩ = some (.bool (B k)) ∧ V.cell? ⟨g, k * 3 + 1, none⟩ = some (.slice (A (2 * k)) (L (2 * k)) (C (2 * k))) ∧ V.cell? ⟨g, k * 3 + 2, none⟩ = some (.slice (A (2 * k + 1)) (L (2 * k + 1)) (C (2 * k + 1)))) (first | exact hs0 | exact hsA | exact hs1 | go_keep)
        (first | (refine step_append_own rfl (.tmp 11) (.tmp 22) 75 rfl w.heap.size 22 i0 (.slice none 0 0) 1 24 Tryz.underlying75 hi hz0 hz1 hz2 rfl (by decide) (.slice q (2 * k) d) (2 * k) (anRow A L C (2 * k)) rfl HOA.out ⟨wr.heap.size, 0, none⟩ 2 2 [.slice (A (2 * k)) (L (2 * k)) (C (2 * k)), .slice (A (2 * k + 1)) (L (2 * k + 1)) (C (2 * k + 1))] rfl rfl (two_cells wr _ _ _) (by simp [Value.oneCell']) (by unfold maxLen; omega) (by omega) hbA.size ?_; intro v1 w1 o1 gr1; have hs1 := HK.out _ (hbA.grown gr1 hbA.size (fun k hk => (HOA.out.lt k hk).1)) k hlt))
      have hb1 : Below w.heap.size w w1 := hbA.grown gr1 hbA.size (fun k hk => (HOA.out.lt k hk).1)
      obtain ⟨q1, d1, hv1⟩ := own_slice o1
      subst hv1
      rw [← anRow_two] at o1
      have HO1 := hid o1
      have HB1 := hid hb1
      clear o1 gr1 hb1 HOA hbA hsA hs0 hs1 e0 e1 e2 hsz HO HB
      go_wp2_with fail
      go_roundw
      case rel => exact ⟨k + 1, q1, d1, by omega, by go_num, rfl, HO1, HB1⟩
      case measure => simp [intOf]; omega
    · have hkk : k = N := by omega
      subst hkk
      have hk1 : ¬ (↑k : Int) < ↑k := by omega
      obtain ⟨gl, hq, hd⟩ : ∃ gl, q = some ⟨gl, 0, none⟩ ∧ 2 * k ≤ d := by
        rcases HO.out.2 with ⟨_, h0⟩ | ⟨g', cap, cur, hv, _, _, h1, _⟩
        · omega
        · cases hv; exact ⟨g', rfl, h1⟩
      subst hq
      have HLs : Hid (Lists wr base gl (2 * k) (fun j => .slice (A j) (L j) (C j)) X) := by
        obtain ⟨cl, hg, hcl⟩ := own_row HO.out
        exact ⟨HF.out.1, HF.out.2.1, fun j hj => owns_later (HF.out.2.2.1 j hj) HB.out, HF.out.2.2.2, ⟨cl, hg, fun j hj => by rw [hcl j hj]; exact anRow_get A L C _ j hj⟩⟩
      have HAP := hid (apart_cap base gl (2 * k) d _ X wr HLs.out (by omega) (by have h1 := HB.out.size; have h2 := HBS.out; omega) hd)
      have HBB := hid (HB.out.mono HBS.out)
      clear HO HB HLs hd HF HK
      go_wp2_with fail
      refine Calls.mono HAP.out ?_
      rintro e w2 ⟨rfl, hb2⟩
      have HB2 := hid (HBB.out.trans hb2)
      clear HAP hb2
      go_wp2_with fail
      go_ret
      exact ⟨rfl, HB2.out⟩
def anCells (B : Nat → Bool) (A : Nat → Option Addr) (L C : Nat → Nat) : Nat → List Value
  | 0 => []
  | n + 1 => anCells B A L C n ++ [.bool (B n), .slice (A (2 * n)) (L (2 * n)) (C (2 * n)), .slice (A (2 * n + 1)) (L (2 * n + 1)) (C (2 * n + 1))]
theorem anCells_len (B : Nat → Bool) (A : Nat → Option Addr) (L C : Nat → Nat) (n : Nat) : (anCells B A L C n).length = n * 3 := by
  induction n with
  | zero => rfl
  | succ n ih =>
    show (anCells B A L C n ++ _).length = _
    rw [List.length_append, ih]
    show n * 3 + 3 = _
    omega
theorem anCells_get (B : Nat → Bool) (A : Nat → Option Addr) (L C : Nat → Nat) (n k : Nat) (hk : k < n) : (anCells B A L C n)[k * 3]? = some (.bool (B k)) ∧ (anCells B A L C n)[k * 3 + 1]? = some (.slice (A (2 * k)) (L (2 * k)) (C (2 * k))) ∧ (anCells B A L C n)[k * 3 + 2]? = some (.slice (A (2 * k + 1)) (L (2 * k + 1)) (C (2 * k + 1))) := by
  induction n with
  | zero => omega
  | succ n ih =>
    have hl := anCells_len B A L C n
    show (anCells B A L C n ++ _)[_]? = _ ∧ (anCells B A L C n ++ _)[_]? = _ ∧ (anCells B A L C n ++ _)[_]? = _
    by_cases h : k < n
    · rw [List.getElem?_append_left (by omega), List.getElem?_append_left (by omega), List.getElem?_append_left (by omega)]
      exact ih h
    · obtain rfl : k = n := by omega
      rw [List.getElem?_append_right (by omega), List.getElem?_append_right (by omega), List.getElem?_append_right (by omega), hl, show k * 3 - k * 3 = 0 by omega, show k * 3 + 1 - k * 3 = 1 by omega, show k * 3 + 2 - k * 3 = 2 by omega]
      exact ⟨rfl, rfl, rfl⟩
theorem anCells_two (B : Nat → Bool) (A : Nat → Option Addr) (L C : Nat → Nat) (k : Nat) : anCells B A L C (2 * (k + 1)) = anCells B A L C (2 * k) ++ [.bool (B (2 * k)), .slice (A (2 * (2 * k))) (L (2 * (2 * k))) (C (2 * (2 * k))), .slice (A (2 * (2 * k) + 1)) (L (2 * (2 * k) + 1)) (C (2 * (2 * k) + 1)), .bool (B (2 * k + 1)), .slice (A (2 * (2 * k + 1))) (L (2 * (2 * k + 1))) (C (2 * (2 * k + 1))), .slice (A (2 * (2 * k + 1) + 1)) (L (2 * (2 * k + 1) + 1)) (C (2 * (2 * k + 1) + 1))] := by
  rw [show 2 * (k + 1) = 2 * k + 1 + 1 by omega]
  show (anCells B A L C (2 * k) ++ _) ++ _ = _
  rw [List.append_assoc]
  rfl
set_option maxHeartbeats 1600000 in
theorem partsOfN (N g cp : Nat) (B : Nat → Bool) (A : Nat → Option Addr) (L C : Nat → Nat) (w : World) (hN : N ≤ 250)
    (hk : ∀ V, Below w.heap.size w V → ∀ k, k < N → V.cell? ⟨g, k * 6, none⟩ = some (.bool (B (2 * k))) ∧ V.cell? ⟨g, k * 6 + 1, none⟩ = some (.slice (A (2 * (2 * k))) (L (2 * (2 * k))) (C (2 * (2 * k)))) ∧ V.cell? ⟨g, k * 6 + 2, none⟩ = some (.slice (A (2 * (2 * k) + 1)) (L (2 * (2 * k) + 1)) (C (2 * (2 * k) + 1))) ∧ V.cell? ⟨g, k * 6 + 3, none⟩ = some (.bool (B (2 * k + 1))) ∧ V.cell? ⟨g, k * 6 + 4, none⟩ = some (.slice (A (2 * (2 * k + 1))) (L (2 * (2 * k + 1))) (C (2 * (2 * k + 1)))) ∧ V.cell? ⟨g, k * 6 + 5, none⟩ = some (.slice (A (2 * (2 * k + 1) + 1)) (L (2 * (2 * k + 1) + 1)) (C (2 * (2 * k + 1) + 1)))) (hcp : N ≤ cp) :
    Calls Tryz.prog 50 #[.slice (some ⟨g, 0, none⟩) N cp] w fun e w' => ∃ v, e = .returned v ∧ w'.ownsRow w.heap.size 24 3 v (2 * N) (anCells B A L C (2 * N)) ∧ Below w.heap.size w w' := by
  obtain ⟨i0, hi, hz0, hz1, hz2⟩ := info_parts Tryz.infoKg
  have HK := hid hk
  clear hk
  go_enter Tryz.func50, Tryz.ntmps50
  go_wp2_with fail
  go_loopw [3, 4] (fun v t wr => ∃ (k : Nat) (q : Option Addr) (d : Nat), k ≤ N ∧ t = .int .i64 k ∧ v = .slice q (2 * k) d ∧ Hid (wr.ownsRow w.heap.size 24 3 (.slice q (2 * k) d) (2 * k) (anCells B A L C (2 * k))) ∧ Hid (Below w.heap.size w wr)) (fun _ t _ => N - (intOf t).toNat)
  case atStart => exact ⟨0, none, 0, Nat.zero_le _, rfl, rfl, World.ownsRow_nil _ _ _ _, Below.refl _ _⟩
  case round =>
    obtain ⟨k, q, d, hkN, rfl, rfl, HO, HB⟩ := hrel
    by_cases hlt : k < N
    · have hk0 : (0 : Int) ≤ ↑k := by omega
      have hk1 : (↑k : Int) < ↑N := by omega
      obtain ⟨e0, e1, e2, e3, e4, e5⟩ := HK.out wr HB.out k hlt
      have hs0 := HK.out _ HB.out.drew k hlt
      have hbA : Below w.heap.size w (wr.alloc (.cells #[.bool (B (2 * k)), .slice (A (2 * (2 * k))) (L (2 * (2 * k))) (C (2 * (2 * k))), .slice (A (2 * (2 * k) + 1)) (L (2 * (2 * k) + 1)) (C (2 * (2 * k) + 1)), .bool (B (2 * k + 1)), .slice (A (2 * (2 * k + 1))) (L (2 * (2 * k + 1))) (C (2 * (2 * k + 1))), .slice (A (2 * (2 * k + 1) + 1)) (L (2 * (2 * k + 1) + 1)) (C (2 * (2 * k + 1) + 1))] 24)).drew := (bt HB.out (alloc_later wr _)).drew
      have HOA : Hid ((wr.alloc (.cells #[.bool (B (2 * k)), .slice (A (2 * (2 * k))) (L (2 * (2 * k))) (C (2 * (2 * k))), .slice (A (2 * (2 * k) + 1)) (L (2 * (2 * k) + 1)) (C (2 * (2 * k) + 1)), .bool (B (2 * k + 1)), .slice (A (2 * (2 * k + 1))) (L (2 * (2 * k + 1))) (C (2 * (2 * k + 1))), .slice (A (2 * (2 * k + 1) + 1)) (L (2 * (2 * k + 1) + 1)) (C (2 * (2 * k + 1) + 1))] 24)).drew.ownsRow w.heap.size 24 3 (.slice q (2 * k) d) (2 * k) (anCells B A L C (2 * k))) := kg_later3 HO.out (bt (alloc_later wr _) (Below.drew (Below.refl _ _)))
      have hsA := HK.out _ hbA k hlt
      have hsz := HB.out.size
      go_wp2_with fail
      go_region_held3 (fun V : World => V.cell? ⟨g, k * 6, none⟩ = some (.bool (B (2 * k))) ∧ V.cell? ⟨g, k * 6 + 1, none⟩ = some (.slice (A (2 * (2 * k))) (L (2 * (2 * k))) (C (2 * (2 * k)))) ∧ V.cell? ⟨g, k * 6 + 2, none⟩ = some (.slice (A (2 * (2 * k) + 1)) (L (2 * (2 * k) + 1)) (C (2 * (2 * k) + 1))) ∧ V.cell? ⟨g, k * 6 + 3, none⟩ = some (.bool (B (2 * k + 1))) ∧ V.cell? ⟨g, k * 6 + 4, none⟩ = some (.slice (A (2 * (2 * k + 1))) (L (2 * (2 * k + 1))) (C (2 * (2 * k + 1)))) ∧ V.cell? ⟨g, k * 6 + 5, none⟩ = some (.slice (A (2 * (2 * k + 1) + 1)) (L (2 * (2 * k + 1) + 1)) (C (2 * (2 * k + 1) + 1)))) (first | exact hs0 | exact hsA | exact hs1 | go_keep)
        (first | (refine step_append_own rfl (.tmp 11) (.tmp 22) 61 rfl w.heap.size 24 i0 (.agg #[.bool false, .slice none 0 0, .slice none 0 0]) 3 56 Tryz.underlying61 hi hz0 hz1 hz2 rfl (by decide) (.slice q (2 * k) d) (2 * k) (anCells B A L C (2 * k)) rfl HOA.out ⟨wr.heap.size, 0, none⟩ 2 2 [.bool (B (2 * k)), .slice (A (2 * (2 * k))) (L (2 * (2 * k))) (C (2 * (2 * k))), .slice (A (2 * (2 * k) + 1)) (L (2 * (2 * k) + 1)) (C (2 * (2 * k) + 1)), .bool (B (2 * k + 1)), .slice (A (2 * (2 * k + 1))) (L (2 * (2 * k + 1))) (C (2 * (2 * k + 1))), .slice (A (2 * (2 * k + 1) + 1)) (L (2 * (2 * k + 1) + 1)) (C (2 * (2 * k + 1) + 1))] rfl rfl (kg_six_cells wr _ _ _ _ _ _ _) (by simp [Value.oneCell']) (by unfold maxLen; omega) (by omega) hbA.size ?_; intro v1 w1 o1 gr1; have hs1 := HK.out _ (hbA.grown gr1 hbA.size (fun k hk => (HOA.out.lt k hk).1)) k hlt))
      have hb1 : Below w.heap.size w w1 := hbA.grown gr1 hbA.size (fun k hk => (HOA.out.lt k hk).1)
      obtain ⟨q1, d1, hv1⟩ := kg_slice3 o1
      subst hv1
      rw [← anCells_two] at o1
      have HO1 := hid o1
      have HB1 := hid hb1
      clear o1 gr1 hb1 HOA hbA hsA hs0 hs1 e0 e1 e2 e3 e4 e5 hsz HO HB
      go_wp2_with fail
      go_roundw
      case rel => exact ⟨k + 1, q1, d1, by omega, by go_num, rfl, HO1, HB1⟩
      case measure => simp [intOf]; omega
    · obtain rfl : k = N := by omega
      have hk1 : ¬ (↑k : Int) < ↑k := by omega
      go_wp2_with fail
      go_ret
      exact ⟨_, rfl, HO.out, HB.out⟩
set_option maxHeartbeats 1600000 in
theorem apartGaussesN (base N g cp : Nat) (B : Nat → Bool) (A : Nat → Option Addr) (L C : Nat → Nat) (X : Nat → List Int) (w : World) (hN : N ≤ 250) (hN0 : 0 < N)
    (hk : ∀ V, Below w.heap.size w V → ∀ k, k < N → V.cell? ⟨g, k * 6, none⟩ = some (.bool (B (2 * k))) ∧ V.cell? ⟨g, k * 6 + 1, none⟩ = some (.slice (A (2 * (2 * k))) (L (2 * (2 * k))) (C (2 * (2 * k)))) ∧ V.cell? ⟨g, k * 6 + 2, none⟩ = some (.slice (A (2 * (2 * k) + 1)) (L (2 * (2 * k) + 1)) (C (2 * (2 * k) + 1))) ∧ V.cell? ⟨g, k * 6 + 3, none⟩ = some (.bool (B (2 * k + 1))) ∧ V.cell? ⟨g, k * 6 + 4, none⟩ = some (.slice (A (2 * (2 * k + 1))) (L (2 * (2 * k + 1))) (C (2 * (2 * k + 1)))) ∧ V.cell? ⟨g, k * 6 + 5, none⟩ = some (.slice (A (2 * (2 * k + 1) + 1)) (L (2 * (2 * k + 1) + 1)) (C (2 * (2 * k + 1) + 1))))
    (hbs : base ≤ w.heap.size) (hcp : N ≤ cp) (hwd : ∀ j, j < 4 * N → Wd (X j)) (hlen : ∀ j, j < 4 * N → (X j).length ≤ 1099511627776)
    (hown : ∀ j, j < 4 * N → w.ownsRow base 63 1 (.slice (A j) (L j) (C j)) (X j).length ((X j).map (Value.int .u32)))
    (hap : ∀ i j, i < 4 * N → j < 4 * N → i ≠ j → (Value.slice (A i) (L i) (C i)).ownBlock = none ∨ (Value.slice (A i) (L i) (C i)).ownBlock ≠ (Value.slice (A j) (L j) (C j)).ownBlock) :
    Calls Tryz.prog 21 #[.slice (some ⟨g, 0, none⟩) N cp] w fun e w' => e = .returned (.bool true) ∧ Below base w w' := by
  have HP := hid (partsOfN N g cp B A L C w hN hk hcp)
  have HF := hid (And.intro hwd (And.intro hlen (And.intro hown hap)))
  clear hwd hlen hown hap hk
  go_enter Tryz.func21, Tryz.ntmps21
  go_wp2_with fail
  refine Calls.mono HP.out ?_
  rintro e w1 ⟨v, rfl, ho, hb⟩
  obtain ⟨q, d, hv⟩ := kg_slice3 ho
  subst hv
  obtain ⟨gl, rfl, hd⟩ : ∃ gl, q = some ⟨gl, 0, none⟩ ∧ 2 * N ≤ d := by
    rcases ho.2 with ⟨_, h0⟩ | ⟨g', cap, cur, hv, _, _, h1, _⟩
    · omega
    · cases hv; exact ⟨g', rfl, h1⟩
  have HA := hid (apartRatiosN base (2 * N) gl d B A L C X w1 (by omega) (by omega) (fun V hbv k hk2 => by
    obtain ⟨cl, hg, hcl⟩ := kg_row3 (kg_later3 ho hbv)
    have hc : ∀ j, V.cell? ⟨gl, j, none⟩ = cl[j]? := fun j => by simp [World.cell?, hg]
    obtain ⟨r0, r1, r2⟩ := anCells_get B A L C (2 * N) k hk2
    exact ⟨by rw [hc, hcl _ (by omega)]; exact r0, by rw [hc, hcl _ (by omega)]; exact r1, by rw [hc, hcl _ (by omega)]; exact r2⟩) (Nat.le_trans hbs hb.size) hd (fun j hj => HF.out.1 j (by omega)) (fun j hj => HF.out.2.1 j (by omega)) (fun j hj => owns_later (HF.out.2.2.1 j (by omega)) hb) (fun i j hi hj hne => HF.out.2.2.2 i j (by omega) (by omega) hne))
  have HB := hid (hb.mono hbs)
  clear ho hb HF HP hd
  go_wp2_with fail
  refine Calls.mono HA.out ?_
  rintro e w2 ⟨rfl, hb2⟩
  have HB2 := hid (HB.out.trans hb2)
  clear HA hb2
  go_wp2_with fail
  go_ret
  exact ⟨rfl, HB2.out⟩
def G6.ra (g : G6) (j : Nat) : Option Addr := if j = 0 then g.a else if j = 1 then g.b else if j = 2 then g.c else g.d
def G6.rl (g : G6) (j : Nat) : List Int := if j = 0 then g.xs else if j = 1 then g.ys else if j = 2 then g.us else g.vs
def G6.rc (g : G6) (j : Nat) : Nat := if j = 0 then g.ca else if j = 1 then g.cb else if j = 2 then g.cc else g.cd
def G6.rn (g : G6) (j : Nat) : Bool := if j = 0 then g.n else g.m
def G6.row (g : G6) (j : Nat) : Value := .slice (g.ra j) (g.rl j).length (g.rc j)
def G6.In (g : G6) (lo hi : Nat) : Prop := Kp4 (.slice g.a g.xs.length g.ca) (.slice g.b g.ys.length g.cb) (.slice g.c g.us.length g.cc) (.slice g.d g.vs.length g.cd) ∧ ∀ j, j < 4 → Within (g.row j) lo hi
theorem G6.four {P : Nat → Prop} (h0 : P 0) (h1 : P 1) (h2 : P 2) (h3 : P 3) : ∀ j, j < 4 → P j
  | 0, _ => h0
  | 1, _ => h1
  | 2, _ => h2
  | 3, _ => h3
  | n + 4, h => absurd h (by omega)
theorem G6.in_of {g : G6} {V W W1 : World} (ho : g.Ow V W.heap.size) (h1 : Cut W (.slice g.a g.xs.length g.ca) (.slice g.b g.ys.length g.cb) W1) (h2 : Cut W1 (.slice g.c g.us.length g.cc) (.slice g.d g.vs.length g.cd) V) : g.In W.heap.size V.heap.size := by
  refine ⟨?_, G6.four (kg_within ho.1) (kg_within ho.2.1) (kg_within ho.2.2.1) (kg_within ho.2.2.2)⟩
  obtain ⟨c, c0, c1, l0, l1⟩ := h1
  obtain ⟨d, d0, d1, m0, m1⟩ := h2
  exact ⟨Kp.far l0 l1 (.inl (Nat.le_refl _)), Kp.far m0 m1 (.inl (Nat.le_refl _)), Kp.far l0 m0 (.inl c1), Kp.far l0 m1 (.inl (by omega)), Kp.far l1 m0 (.inl (Nat.le_refl _)), Kp.far l1 m1 (.inl d0)⟩
theorem G6.Ow.get {g : G6} {V : World} {base : Nat} (h : g.Ow V base) : ∀ j, j < 4 → V.ownsRow base 63 1 (g.row j) (g.rl j).length ((g.rl j).map (Value.int .u32)) := G6.four h.1 h.2.1 h.2.2.1 h.2.2.2
theorem g6_far {N : Nat} {lo up : Nat → Nat} (hlh : ∀ t, t < N → lo t ≤ up t) (hch : ∀ t, t + 1 < N → up t ≤ lo (t + 1)) : ∀ s t, s < t → t < N → up s ≤ lo t := by
  intro s t
  induction t with
  | zero => omega
  | succ t ih =>
    intro h1 h2
    rcases Nat.lt_or_ge s t with h | h
    · have q1 := ih h (by omega)
      have q2 := hlh t (by omega)
      have q3 := hch t (by omega)
      omega
    · obtain rfl : s = t := by omega
      exact hch s h2
def G6.As (p g : G6) : Prop := p.n = g.n ∧ p.xs = g.xs ∧ p.ys = g.ys ∧ p.m = g.m ∧ p.us = g.us ∧ p.vs = g.vs
def F3.As (p g : F3) : Prop := p.n = g.n ∧ p.xs = g.xs ∧ p.ys = g.ys
def G6.Lt (p g : G6) (V : World) (base : Nat) : Prop := p.As g ∧ ∃ g1 g2 g3 g4, (p.a = some ⟨g1, 0, none⟩ ∧ p.b = some ⟨g2, 0, none⟩ ∧ p.c = some ⟨g3, 0, none⟩ ∧ p.d = some ⟨g4, 0, none⟩) ∧ V.ownsRow base 63 1 (.slice (some ⟨g1, 0, none⟩) (g.xs.length + 3) p.ca) (g.xs.length + 3) ((g.xs ++ marks 3).map (Value.int .u32)) ∧ V.ownsRow base 63 1 (.slice (some ⟨g2, 0, none⟩) (g.ys.length + 3) p.cb) (g.ys.length + 3) ((g.ys ++ marks 3).map (Value.int .u32)) ∧ V.ownsRow base 63 1 (.slice (some ⟨g3, 0, none⟩) (g.us.length + 3) p.cc) (g.us.length + 3) ((g.us ++ marks 3).map (Value.int .u32)) ∧ V.ownsRow base 63 1 (.slice (some ⟨g4, 0, none⟩) (g.vs.length + 3) p.cd) (g.vs.length + 3) ((g.vs ++ marks 3).map (Value.int .u32))
def F3.Lt (p g : F3) (V : World) (base : Nat) : Prop := p.As g ∧ ∃ g1 g2, (p.a = some ⟨g1, 0, none⟩ ∧ p.b = some ⟨g2, 0, none⟩) ∧ V.ownsRow base 63 1 (.slice (some ⟨g1, 0, none⟩) (g.xs.length + 3) p.ca) (g.xs.length + 3) ((g.xs ++ marks 3).map (Value.int .u32)) ∧ V.ownsRow base 63 1 (.slice (some ⟨g2, 0, none⟩) (g.ys.length + 3) p.cb) (g.ys.length + 3) ((g.ys ++ marks 3).map (Value.int .u32))
theorem G6.Lt.put {p g : G6} {V W : World} {base : Nat} (h : p.Lt g V base) (P : ∀ base v n xs, V.ownsRow base 63 1 v n xs → W.ownsRow base 63 1 v n xs) : p.Lt g W base := by
  obtain ⟨e, g1, g2, g3, g4, q, o1, o2, o3, o4⟩ := h
  exact ⟨e, g1, g2, g3, g4, q, P _ _ _ _ o1, P _ _ _ _ o2, P _ _ _ _ o3, P _ _ _ _ o4⟩
theorem F3.Lt.put {p g : F3} {V W : World} {base : Nat} (h : p.Lt g V base) (P : ∀ base v n xs, V.ownsRow base 63 1 v n xs → W.ownsRow base 63 1 v n xs) : p.Lt g W base := by
  obtain ⟨e, g1, g2, q, o1, o2⟩ := h
  exact ⟨e, g1, g2, q, P _ _ _ _ o1, P _ _ _ _ o2⟩
theorem G6.Lt.later {p g : G6} {V W : World} {base : Nat} (h : p.Lt g V base) (hb : Below V.heap.size V W) : p.Lt g W base := h.put fun _ _ _ _ o => owns_later o hb
theorem F3.Lt.later {p g : F3} {V W : World} {base : Nat} (h : p.Lt g V base) (hb : Below V.heap.size V W) : p.Lt g W base := h.put fun _ _ _ _ o => owns_later o hb
theorem G6.Lt.base {p g : G6} {V : World} {base base' : Nat} (h : p.Lt g V base) (hb : base' ≤ base) : p.Lt g V base' := by
  obtain ⟨e, g1, g2, g3, g4, q, o1, o2, o3, o4⟩ := h
  exact ⟨e, g1, g2, g3, g4, q, owns_base o1 hb, owns_base o2 hb, owns_base o3 hb, owns_base o4 hb⟩
theorem F3.Lt.base {p g : F3} {V : World} {base base' : Nat} (h : p.Lt g V base) (hb : base' ≤ base) : p.Lt g V base' := by
  obtain ⟨e, g1, g2, q, o1, o2⟩ := h
  exact ⟨e, g1, g2, q, owns_base o1 hb, owns_base o2 hb⟩
theorem G6.Lt.ow {p g : G6} {V : World} {base : Nat} (h : p.Lt g V base) : p.Ow V base := by
  obtain ⟨pn, pa, pca, pxs, pb, pcb, pys, pm, pc, pcc, pus, pd, pcd, pvs⟩ := p
  obtain ⟨⟨e1, e2, e3, e4, e5, e6⟩, g1, g2, g3, g4, ⟨q1, q2, q3, q4⟩, o1, o2, o3, o4⟩ := h
  dsimp only at e1 e2 e3 e4 e5 e6 q1 q2 q3 q4 o1 o2 o3 o4
  subst e1 e2 e3 e4 e5 e6 q1 q2 q3 q4
  exact ⟨klentf o1, klentf o2, klentf o3, klentf o4⟩
theorem F3.Lt.ow {p g : F3} {V : World} {base : Nat} (h : p.Lt g V base) : p.Ow V base := by
  obtain ⟨pn, pa, pca, pxs, pb, pcb, pys⟩ := p
  obtain ⟨⟨e1, e2, e3⟩, g1, g2, ⟨q1, q2⟩, o1, o2⟩ := h
  dsimp only at e1 e2 e3 q1 q2 o1 o2
  subst e1 e2 e3 q1 q2
  exact ⟨klentf o1, klentf o2⟩
theorem gc_owput {g : G6} {W A : World} {base : Nat} (h : g.Ow W base) (P : ∀ base v n xs, W.ownsRow base 63 1 v n xs → A.ownsRow base 63 1 v n xs) : g.Ow A base := ⟨P _ _ _ _ h.1, P _ _ _ _ h.2.1, P _ _ _ _ h.2.2.1, P _ _ _ _ h.2.2.2⟩
def G6.Wds (g : G6) : Prop := Wd g.xs ∧ Wd g.ys ∧ Wd g.us ∧ Wd g.vs
theorem G6.Sl4.wds {g : G6} {V : World} (h : g.Sl4 V) : g.Wds := ⟨h.1.wd, h.2.1.wd, h.2.2.1.wd, h.2.2.2.wd⟩
theorem G6.Ow.slw {g : G6} {V : World} {base : Nat} (h : g.Ow V base) (w : g.Wds) : g.Sl4 V := ⟨Sl.own h.1 w.1, Sl.own h.2.1 w.2.1, Sl.own h.2.2.1 w.2.2.1, Sl.own h.2.2.2 w.2.2.2⟩
theorem G6.As.wds {p g : G6} (h : p.As g) (w : g.Wds) : p.Wds := by
  obtain ⟨_, e1, e2, _, e3, e4⟩ := h
  unfold G6.Wds
  rw [e1, e2, e3, e4]
  exact w
def KGq (w : World) (E : Int) (L : Prop) (q1 q2 : Rat) (x : Ending) (w' : World) : Prop := ∃ (r : G6) (code : Int), x = .returned (.tuple #[.agg #[.bool r.n, .slice r.a r.xs.length r.ca, .slice r.b r.ys.length r.cb, .bool r.m, .slice r.c r.us.length r.cc, .slice r.d r.vs.length r.cd], .int .i64 code]) ∧ Hid (r.Ow w' w.heap.size) ∧ Hid (GTells E L q1 q2 r.n r.xs r.ys r.m r.us r.vs code) ∧ Hid (r.In w.heap.size w'.heap.size) ∧ Below w.heap.size w w'
theorem kgq_of {w w' : World} {E : Int} {L : Prop} {q1 q2 : Rat} {x : Ending} (h : KToldC w E L q1 q2 x w') : KGq w E L q1 q2 x w' := by
  obtain ⟨n, a, ca, xs, b, cb, ys, m, c, cc, us, d, cd, vs, code, rfl, o, t, hb, W1, k1, k2⟩ := h
  refine ⟨⟨n, a, ca, xs, b, cb, ys, m, c, cc, us, d, cd, vs⟩, code, rfl, o, t, ?_, hb⟩
  exact G6.in_of (g := ⟨n, a, ca, xs, b, cb, ys, m, c, cc, us, d, cd, vs⟩) o k1 k2
theorem gcAdd (a b p q : G6) (V : World) (hp : p.As a) (hq : q.As b) (sp : p.Sl4 V) (sq : q.Sl4 V) : Calls Tryz.prog 8 #[.agg #[.bool p.n, .slice p.a p.xs.length p.ca, .slice p.b p.ys.length p.cb, .bool p.m, .slice p.c p.us.length p.cc, .slice p.d p.vs.length p.cd], .agg #[.bool q.n, .slice q.a q.xs.length q.ca, .slice q.b q.ys.length q.cb, .bool q.m, .slice q.c q.us.length q.cc, .slice q.d q.vs.length q.cd]] V (KGq V (fstE (gchk a.n a.xs a.ys a.m a.us a.vs) (gchk b.n b.xs b.ys b.m b.us b.vs)) (rlong (rq a.n a.xs a.ys + rq b.n b.xs b.ys) ∨ rlong (rq a.m a.us a.vs + rq b.m b.us b.vs)) (rq a.n a.xs a.ys + rq b.n b.xs b.ys) (rq a.m a.us a.vs + rq b.m b.us b.vs)) := by
  obtain ⟨pn, pa, pca, pxs, pb, pcb, pys, pm, pc, pcc, pus, pd, pcd, pvs⟩ := p
  obtain ⟨qn, qa, qca, qxs, qb, qcb, qys, qm, qc, qcc, qus, qd, qcd, qvs⟩ := q
  obtain ⟨e1, e2, e3, e4, e5, e6⟩ := hp
  obtain ⟨f1, f2, f3, f4, f5, f6⟩ := hq
  dsimp only at e1 e2 e3 e4 e5 e6 f1 f2 f3 f4 f5 f6
  subst e1 e2 e3 e4 e5 e6 f1 f2 f3 f4 f5 f6
  exact Calls.mono (gAdd_cut _ _ _ _ _ _ _ _ _ _ _ _ _ _ _ _ _ _ _ _ _ _ _ _ _ _ _ _ V sp.1 sp.2.1 sp.2.2.1 sp.2.2.2 sq.1 sq.2.1 sq.2.2.1 sq.2.2.2) fun _ _ h => kgq_of h
theorem gcSub (a b p q : G6) (V : World) (hp : p.As a) (hq : q.As b) (sp : p.Sl4 V) (sq : q.Sl4 V) : Calls Tryz.prog 10 #[.agg #[.bool p.n, .slice p.a p.xs.length p.ca, .slice p.b p.ys.length p.cb, .bool p.m, .slice p.c p.us.length p.cc, .slice p.d p.vs.length p.cd], .agg #[.bool q.n, .slice q.a q.xs.length q.ca, .slice q.b q.ys.length q.cb, .bool q.m, .slice q.c q.us.length q.cc, .slice q.d q.vs.length q.cd]] V (KGq V (fstE (gchk a.n a.xs a.ys a.m a.us a.vs) (gchk b.n b.xs b.ys b.m b.us b.vs)) (rlong (rq a.n a.xs a.ys - rq b.n b.xs b.ys) ∨ rlong (rq a.m a.us a.vs - rq b.m b.us b.vs)) (rq a.n a.xs a.ys - rq b.n b.xs b.ys) (rq a.m a.us a.vs - rq b.m b.us b.vs)) := by
  obtain ⟨pn, pa, pca, pxs, pb, pcb, pys, pm, pc, pcc, pus, pd, pcd, pvs⟩ := p
  obtain ⟨qn, qa, qca, qxs, qb, qcb, qys, qm, qc, qcc, qus, qd, qcd, qvs⟩ := q
  obtain ⟨e1, e2, e3, e4, e5, e6⟩ := hp
  obtain ⟨f1, f2, f3, f4, f5, f6⟩ := hq
  dsimp only at e1 e2 e3 e4 e5 e6 f1 f2 f3 f4 f5 f6
  subst e1 e2 e3 e4 e5 e6 f1 f2 f3 f4 f5 f6
  exact Calls.mono (gSub_cut _ _ _ _ _ _ _ _ _ _ _ _ _ _ _ _ _ _ _ _ _ _ _ _ _ _ _ _ V sp.1 sp.2.1 sp.2.2.1 sp.2.2.2 sq.1 sq.2.1 sq.2.2.1 sq.2.2.2) fun _ _ h => kgq_of h
theorem gcMul (a b p q : G6) (V : World) (hp : p.As a) (hq : q.As b) (sp : p.Sl4 V) (sq : q.Sl4 V) : Calls Tryz.prog 12 #[.agg #[.bool p.n, .slice p.a p.xs.length p.ca, .slice p.b p.ys.length p.cb, .bool p.m, .slice p.c p.us.length p.cc, .slice p.d p.vs.length p.cd], .agg #[.bool q.n, .slice q.a q.xs.length q.ca, .slice q.b q.ys.length q.cb, .bool q.m, .slice q.c q.us.length q.cc, .slice q.d q.vs.length q.cd]] V (KGq V (fstE (gchk a.n a.xs a.ys a.m a.us a.vs) (gchk b.n b.xs b.ys b.m b.us b.vs)) (mlong (rq a.n a.xs a.ys) (rq a.m a.us a.vs) (rq b.n b.xs b.ys) (rq b.m b.us b.vs)) (rq a.n a.xs a.ys * rq b.n b.xs b.ys - rq a.m a.us a.vs * rq b.m b.us b.vs) (rq a.n a.xs a.ys * rq b.m b.us b.vs + rq a.m a.us a.vs * rq b.n b.xs b.ys)) := by
  obtain ⟨pn, pa, pca, pxs, pb, pcb, pys, pm, pc, pcc, pus, pd, pcd, pvs⟩ := p
  obtain ⟨qn, qa, qca, qxs, qb, qcb, qys, qm, qc, qcc, qus, qd, qcd, qvs⟩ := q
  obtain ⟨e1, e2, e3, e4, e5, e6⟩ := hp
  obtain ⟨f1, f2, f3, f4, f5, f6⟩ := hq
  dsimp only at e1 e2 e3 e4 e5 e6 f1 f2 f3 f4 f5 f6
  subst e1 e2 e3 e4 e5 e6 f1 f2 f3 f4 f5 f6
  exact Calls.mono (gMul_cut _ _ _ _ _ _ _ _ _ _ _ _ _ _ _ _ _ _ _ _ _ _ _ _ _ _ _ _ V sp.1 sp.2.1 sp.2.2.1 sp.2.2.2 sq.1 sq.2.1 sq.2.2.1 sq.2.2.2) fun _ _ h => kgq_of h
theorem gcQuo (a b p q : G6) (V : World) (hp : p.As a) (hq : q.As b) (sp : p.Sl4 V) (sq : q.Sl4 V) : Calls Tryz.prog 14 #[.agg #[.bool p.n, .slice p.a p.xs.length p.ca, .slice p.b p.ys.length p.cb, .bool p.m, .slice p.c p.us.length p.cc, .slice p.d p.vs.length p.cd], .agg #[.bool q.n, .slice q.a q.xs.length q.ca, .slice q.b q.ys.length q.cb, .bool q.m, .slice q.c q.us.length q.cc, .slice q.d q.vs.length q.cd]] V (KGq V (fstE (fstE (gchk a.n a.xs a.ys a.m a.us a.vs) (gchk b.n b.xs b.ys b.m b.us b.vs)) (if b.xs.length = 0 ∧ b.us.length = 0 then 7 else 0)) (qlong (rq a.n a.xs a.ys) (rq a.m a.us a.vs) (rq b.n b.xs b.ys) (rq b.m b.us b.vs) ∨ rlong ((rq a.n a.xs a.ys * -(rq b.m b.us b.vs) + rq a.m a.us a.vs * rq b.n b.xs b.ys) / (rq b.n b.xs b.ys * rq b.n b.xs b.ys + rq b.m b.us b.vs * rq b.m b.us b.vs))) ((rq a.n a.xs a.ys * rq b.n b.xs b.ys - rq a.m a.us a.vs * -(rq b.m b.us b.vs)) / (rq b.n b.xs b.ys * rq b.n b.xs b.ys + rq b.m b.us b.vs * rq b.m b.us b.vs)) ((rq a.n a.xs a.ys * -(rq b.m b.us b.vs) + rq a.m a.us a.vs * rq b.n b.xs b.ys) / (rq b.n b.xs b.ys * rq b.n b.xs b.ys + rq b.m b.us b.vs * rq b.m b.us b.vs))) := by
  obtain ⟨pn, pa, pca, pxs, pb, pcb, pys, pm, pc, pcc, pus, pd, pcd, pvs⟩ := p
  obtain ⟨qn, qa, qca, qxs, qb, qcb, qys, qm, qc, qcc, qus, qd, qcd, qvs⟩ := q
  obtain ⟨e1, e2, e3, e4, e5, e6⟩ := hp
  obtain ⟨f1, f2, f3, f4, f5, f6⟩ := hq
  dsimp only at e1 e2 e3 e4 e5 e6 f1 f2 f3 f4 f5 f6
  subst e1 e2 e3 e4 e5 e6 f1 f2 f3 f4 f5 f6
  exact Calls.mono (gQuo_cut _ _ _ _ _ _ _ _ _ _ _ _ _ _ _ _ _ _ _ _ _ _ _ _ _ _ _ _ V sp.1 sp.2.1 sp.2.2.1 sp.2.2.2 sq.1 sq.2.1 sq.2.2.1 sq.2.2.2) fun _ _ h => kgq_of h
theorem gcScale (r s : F3) (a p : G6) (V : World) (hs : s.As r) (hp : p.As a) (ss : s.Sl2 V) (sp : p.Sl4 V) : Calls Tryz.prog 16 #[.agg #[.bool s.n, .slice s.a s.xs.length s.ca, .slice s.b s.ys.length s.cb], .agg #[.bool p.n, .slice p.a p.xs.length p.ca, .slice p.b p.ys.length p.cb, .bool p.m, .slice p.c p.us.length p.cc, .slice p.d p.vs.length p.cd]] V (KGq V (fstE (rchk r.n r.xs r.ys) (gchk a.n a.xs a.ys a.m a.us a.vs)) (rlong (rq r.n r.xs r.ys * rq a.n a.xs a.ys) ∨ rlong (rq r.n r.xs r.ys * rq a.m a.us a.vs)) (rq r.n r.xs r.ys * rq a.n a.xs a.ys) (rq r.n r.xs r.ys * rq a.m a.us a.vs)) := by
  obtain ⟨pn, pa, pca, pxs, pb, pcb, pys, pm, pc, pcc, pus, pd, pcd, pvs⟩ := p
  obtain ⟨sn, sa, sca, sxs, sb, scb, sys⟩ := s
  obtain ⟨e1, e2, e3, e4, e5, e6⟩ := hp
  obtain ⟨f1, f2, f3⟩ := hs
  dsimp only at e1 e2 e3 e4 e5 e6 f1 f2 f3
  subst e1 e2 e3 e4 e5 e6 f1 f2 f3
  exact Calls.mono (gScale_cut _ _ _ _ _ _ _ _ _ _ _ _ _ _ _ _ _ _ _ _ _ V ss.1 ss.2 sp.1 sp.2.1 sp.2.2.1 sp.2.2.2) fun _ _ h => kgq_of h
theorem gcOne {E : Int} {L : Prop} {q1 q2 : Rat} (c c2 c3 : G6) (e e2 e3 : Int) (V : World) (h1 : GTells E L q1 q2 c.n c.xs c.ys c.m c.us c.vs e) (h2 : GTells E L q1 q2 c2.n c2.xs c2.ys c2.m c2.us c2.vs e2) (h3 : GTells E L q1 q2 c3.n c3.xs c3.ys c3.m c3.us c3.vs e3) (s1 : c.Sl4 V) (s2 : c2.Sl4 V) (s3 : c3.Sl4 V) :
    Calls Tryz.prog 18 #[.agg #[.bool c.n, .slice c.a c.xs.length c.ca, .slice c.b c.ys.length c.cb, .bool c.m, .slice c.c c.us.length c.cc, .slice c.d c.vs.length c.cd], .agg #[.bool c2.n, .slice c2.a c2.xs.length c2.ca, .slice c2.b c2.ys.length c2.cb, .bool c2.m, .slice c2.c c2.us.length c2.cc, .slice c2.d c2.vs.length c2.cd], .agg #[.bool c3.n, .slice c3.a c3.xs.length c3.ca, .slice c3.b c3.ys.length c3.cb, .bool c3.m, .slice c3.c c3.us.length c3.cc, .slice c3.d c3.vs.length c3.cd], .int .i64 e, .int .i64 e2, .int .i64 e3] V fun x w' => x = .returned (.bool true) ∧ Below V.heap.size V w' := by
  have f := h1.few
  obtain ⟨a1, a2, a3, a4, a5, a6, a7⟩ := h1.one h2
  obtain ⟨b1, b2, b3, b4, b5, b6, b7⟩ := h1.one h3
  clear h1 h2 h3
  obtain ⟨pn, pa, pca, pxs, pb, pcb, pys, pm, pc, pcc, pus, pd, pcd, pvs⟩ := c2
  obtain ⟨qn, qa, qca, qxs, qb, qcb, qys, qm, qc, qcc, qus, qd, qcd, qvs⟩ := c3
  dsimp only at a1 a2 a3 a4 a5 a6 a7 b1 b2 b3 b4 b5 b6 b7
  subst a1 a2 a3 a4 a5 a6 a7 b1 b2 b3 b4 b5 b6 b7
  exact kone_any _ _ _ _ _ _ _ _ _ _ _ _ _ _ _ _ _ _ _ _ _ _ _ _ _ _ _ _ _ _ _ V s1 s2 s3 (by omega) (by omega) (by omega) (by omega)
theorem gcLent (a : G6) (V : World) (sa : a.Sl4 V) (l1 : a.xs.length ≤ 3000) (l2 : a.ys.length ≤ 3000) (l3 : a.us.length ≤ 3000) (l4 : a.vs.length ≤ 3000) :
    Calls Tryz.prog 6 #[.agg #[.bool a.n, .slice a.a a.xs.length a.ca, .slice a.b a.ys.length a.cb, .bool a.m, .slice a.c a.us.length a.cc, .slice a.d a.vs.length a.cd]] V fun e V' => ∃ p : G6, e = .returned (.agg #[.bool p.n, .slice p.a p.xs.length p.ca, .slice p.b p.ys.length p.cb, .bool p.m, .slice p.c p.us.length p.cc, .slice p.d p.vs.length p.cd]) ∧ Hid (p.Lt a V' V.heap.size) ∧ Hid (p.In V.heap.size V'.heap.size) ∧ Below V.heap.size V V' := by
  refine Calls.mono (klentGauss_any a.n a.a a.ca a.xs a.b a.cb a.ys a.m a.c a.cc a.us a.d a.cd a.vs V sa.1 sa.2.1 sa.2.2.1 sa.2.2.2 (by omega) (by omega) (by omega) (by omega)) ?_
  rintro e V' ⟨g1, c1, g2, c2, g3, c3, g4, c4, rfl, ⟨o1, o2, o3, o4⟩, ⟨h1, h2, h3⟩, hb⟩
  refine ⟨⟨a.n, some ⟨g1, 0, none⟩, c1, a.xs, some ⟨g2, 0, none⟩, c2, a.ys, a.m, some ⟨g3, 0, none⟩, c3, a.us, some ⟨g4, 0, none⟩, c4, a.vs⟩, rfl, ⟨⟨rfl, rfl, rfl, rfl, rfl, rfl⟩, g1, g2, g3, g4, ⟨rfl, rfl, rfl, rfl⟩, o1, o2, o3, o4⟩, ?_, hb⟩
  have k : ∀ (x y : Nat) (l m c d : Nat), x ≠ y → Kp (.slice (some ⟨x, 0, none⟩) l c) (.slice (some ⟨y, 0, none⟩) m d) := fun x y l m c d hne => .inr (by simp [Value.ownBlock]; exact hne)
  refine ⟨⟨k _ _ _ _ _ _ (by omega), k _ _ _ _ _ _ (by omega), k _ _ _ _ _ _ (by omega), k _ _ _ _ _ _ (by omega), k _ _ _ _ _ _ (by omega), k _ _ _ _ _ _ (by omega)⟩, G6.four (kg_within (klentf o1)) (kg_within (klentf o2)) (kg_within (klentf o3)) (kg_within (klentf o4))⟩
theorem gcLentR (a : F3) (V : World) (sa : a.Sl2 V) (l1 : a.xs.length ≤ 3000) (l2 : a.ys.length ≤ 3000) :
    Calls Tryz.prog 7 #[.agg #[.bool a.n, .slice a.a a.xs.length a.ca, .slice a.b a.ys.length a.cb]] V fun e V' => ∃ p : F3, e = .returned (.agg #[.bool p.n, .slice p.a p.xs.length p.ca, .slice p.b p.ys.length p.cb]) ∧ Hid (p.Lt a V' V.heap.size) ∧ Below V.heap.size V V' := by
  refine Calls.mono (lentRatio_any a.n a.a a.ca a.xs a.b a.cb a.ys V sa.1 sa.2 (by omega) (by omega)) ?_
  rintro e V' ⟨g1, c1, g2, c2, rfl, o1, o2, h1, hb⟩
  exact ⟨⟨a.n, some ⟨g1, 0, none⟩, c1, a.xs, some ⟨g2, 0, none⟩, c2, a.ys⟩, rfl, ⟨⟨rfl, rfl, rfl⟩, g1, g2, ⟨rfl, rfl⟩, o1, o2⟩, hb⟩
theorem gcKept (p a : G6) (V : World) (base : Nat) (h : p.Lt a V base) (sa : a.Sl4 V) (l1 : a.xs.length ≤ 3000) (l2 : a.ys.length ≤ 3000) (l3 : a.us.length ≤ 3000) (l4 : a.vs.length ≤ 3000) :
    Calls Tryz.prog 19 #[.agg #[.bool p.n, .slice p.a p.xs.length p.ca, .slice p.b p.ys.length p.cb, .bool p.m, .slice p.c p.us.length p.cc, .slice p.d p.vs.length p.cd], .agg #[.bool a.n, .slice a.a a.xs.length a.ca, .slice a.b a.ys.length a.cb, .bool a.m, .slice a.c a.us.length a.cc, .slice a.d a.vs.length a.cd]] V fun e w' => e = .returned (.bool true) ∧ Below V.heap.size V w' := by
  obtain ⟨pn, pa, pca, pxs, pb, pcb, pys, pm, pc, pcc, pus, pd, pcd, pvs⟩ := p
  obtain ⟨⟨e1, e2, e3, e4, e5, e6⟩, g1, g2, g3, g4, ⟨q1, q2, q3, q4⟩, o1, o2, o3, o4⟩ := h
  dsimp only at e1 e2 e3 e4 e5 e6 q1 q2 q3 q4 o1 o2 o3 o4
  subst e1 e2 e3 e4 e5 e6 q1 q2 q3 q4
  exact kkeptGauss_any a.n a.a a.ca a.xs a.b a.cb a.ys a.m a.c a.cc a.us a.d a.cd a.vs g1 _ g2 _ g3 _ g4 _ base V sa.1 sa.2.1 sa.2.2.1 sa.2.2.2 (by omega) (by omega) (by omega) (by omega) o1 o2 o3 o4
theorem gcKeptR (p a : F3) (V : World) (base : Nat) (h : p.Lt a V base) (sa : a.Sl2 V) (l1 : a.xs.length ≤ 3000) (l2 : a.ys.length ≤ 3000) :
    Calls Tryz.prog 20 #[.agg #[.bool p.n, .slice p.a p.xs.length p.ca, .slice p.b p.ys.length p.cb], .agg #[.bool a.n, .slice a.a a.xs.length a.ca, .slice a.b a.ys.length a.cb]] V fun e w' => e = .returned (.bool true) ∧ Below V.heap.size V w' := by
  obtain ⟨sn, sa', sca, sxs, sb, scb, sys⟩ := p
  obtain ⟨⟨e1, e2, e3⟩, g1, g2, ⟨q1, q2⟩, o1, o2⟩ := h
  dsimp only at e1 e2 e3 q1 q2 o1 o2
  subst e1 e2 e3 q1 q2
  exact keptRatio_any a.n a.a a.ca a.xs a.b a.cb a.ys g1 _ g2 _ base V sa.1 sa.2 (by omega) (by omega) o1 o2
def gv (g : G6) : Array Value := #[.bool g.n, .slice g.a g.xs.length g.ca, .slice g.b g.ys.length g.cb, .bool g.m, .slice g.c g.us.length g.cc, .slice g.d g.vs.length g.cd]
def fv (f : F3) : Array Value := #[.bool f.n, .slice f.a f.xs.length f.ca, .slice f.b f.ys.length f.cb]
def GSt (W : World) (base : Nat) (l : List (Nat × G6)) : Prop := ∀ x ∈ l, Box W x.1 26 (gv x.2) ∧ x.2.Ow W base
theorem GSt.later {W V : World} {base : Nat} {l : List (Nat × G6)} (h : GSt W base l) (hb : Below W.heap.size W V) : GSt V base l := fun x hx => ⟨(h x hx).1.later hb (h x hx).1.lt, (h x hx).2.later hb⟩
theorem GSt.new {W Y A : World} {base : Nat} {l : List (Nat × G6)} {c : G6} (h : GSt W base l) (hY : Below W.heap.size W Y) (hB : ∀ p t' vs, p ≠ W.heap.size → Box Y p t' vs → Box A p t' vs) (hO : ∀ base v n xs, Y.ownsRow base 63 1 v n xs → A.ownsRow base 63 1 v n xs) (hN : Box A W.heap.size 26 (gv c)) (oc : c.Ow W base) : GSt A base ((W.heap.size, c) :: l) := by
  intro x hx
  rcases List.mem_cons.1 hx with rfl | hx
  · exact ⟨hN, gc_owput (oc.later hY) hO⟩
  · have q := h x hx
    exact ⟨hB _ _ _ (Nat.ne_of_lt q.1.lt) (q.1.later hY q.1.lt), gc_owput (q.2.later hY) hO⟩
def GCh (base : Nat) : List G6 → Nat → Prop
  | [], top => base ≤ top
  | g :: l, top => ∃ lo up, g.In lo up ∧ lo ≤ up ∧ up ≤ top ∧ GCh base l lo
theorem GCh.mono {base : Nat} {l : List G6} {t t' : Nat} (h : GCh base l t) (ht : t ≤ t') : GCh base l t' := by
  cases l with
  | nil => exact Nat.le_trans h ht
  | cons g l => obtain ⟨lo, up, a, b, c, d⟩ := h; exact ⟨lo, up, a, b, Nat.le_trans c ht, d⟩
theorem GCh.funs {base : Nat} {l : List G6} {t : Nat} (h : GCh base l t) : ∃ lo up : Nat → Nat, (∀ k, k < l.length → (l.reverse.getD k gqZ).In (lo k) (up k)) ∧ (∀ k, k < l.length → lo k ≤ up k) ∧ (∀ k, k + 1 < l.length → up k ≤ lo (k + 1)) ∧ (∀ k, k < l.length → up k ≤ t) := by
  induction l generalizing t with
  | nil => exact ⟨fun _ => 0, fun _ => 0, fun k h => absurd h (by simp), fun k h => absurd h (by simp), fun k h => absurd h (by simp), fun k h => absurd h (by simp)⟩
  | cons g l ih =>
    obtain ⟨lo, up, a, b, c, d⟩ := h
    obtain ⟨L, U, h1, h2, h3, h4⟩ := ih d
    refine ⟨fun k => if k < l.length then L k else lo, fun k => if k < l.length then U k else up, ?_, ?_, ?_, ?_⟩
    · intro k hk
      rw [List.length_cons] at hk
      dsimp only
      by_cases q : k < l.length
      · rw [if_pos q, if_pos q]
        have e : (g :: l).reverse.getD k gqZ = l.reverse.getD k gqZ := by
          rw [List.reverse_cons, List.getD_eq_getElem?_getD, List.getD_eq_getElem?_getD, List.getElem?_append_left (by simpa using q)]
        rw [e]
        exact h1 k q
      · rw [if_neg q, if_neg q]
        have e : (g :: l).reverse.getD k gqZ = g := by
          obtain rfl : k = l.length := by omega
          rw [List.reverse_cons, List.getD_eq_getElem?_getD, List.getElem?_append_right (by simp)]
          simp
        rw [e]
        exact a
    · intro k hk
      rw [List.length_cons] at hk
      dsimp only
      by_cases q : k < l.length
      · rw [if_pos q, if_pos q]; exact h2 k q
      · rw [if_neg q, if_neg q]; exact b
    · intro k hk
      rw [List.length_cons] at hk
      dsimp only
      by_cases q : k + 1 < l.length
      · rw [if_pos (by omega), if_pos q]; exact h3 k q
      · rw [if_pos (by omega), if_neg q]; exact h4 k (by omega)
    · intro k hk
      rw [List.length_cons] at hk
      dsimp only
      by_cases q : k < l.length
      · rw [if_pos q]; have := h4 k q; omega
      · rw [if_neg q]; exact c
theorem gcApart (base N g cp : Nat) (G : Nat → G6) (w : World) (hN : N ≤ 250) (hN0 : 0 < N)
    (hk : ∀ V, Below w.heap.size w V → ∀ k, k < N → V.cell? ⟨g, k * 6, none⟩ = some (.bool (G k).n) ∧ V.cell? ⟨g, k * 6 + 1, none⟩ = some (.slice (G k).a (G k).xs.length (G k).ca) ∧ V.cell? ⟨g, k * 6 + 2, none⟩ = some (.slice (G k).b (G k).ys.length (G k).cb) ∧ V.cell? ⟨g, k * 6 + 3, none⟩ = some (.bool (G k).m) ∧ V.cell? ⟨g, k * 6 + 4, none⟩ = some (.slice (G k).c (G k).us.length (G k).cc) ∧ V.cell? ⟨g, k * 6 + 5, none⟩ = some (.slice (G k).d (G k).vs.length (G k).cd))
    (hbs : base ≤ w.heap.size) (hcp : N ≤ cp) (hwd : ∀ k, k < N → (G k).Wds) (hfew : ∀ k, k < N → ∀ j, j < 4 → ((G k).rl j).length ≤ 3000) (hown : ∀ k, k < N → (G k).Ow w base) (lo up : Nat → Nat) (hin : ∀ k, k < N → (G k).In (lo k) (up k)) (hlh : ∀ t, t < N → lo t ≤ up t) (hch : ∀ t, t + 1 < N → up t ≤ lo (t + 1)) :
    Calls Tryz.prog 21 #[.slice (some ⟨g, 0, none⟩) N cp] w fun e w' => e = .returned (.bool true) ∧ Below base w w' := by
  have far := g6_far hlh hch
  refine apartGaussesN base N g cp (fun i => (G (i / 2)).rn (i % 2)) (fun j => (G (j / 4)).ra (j % 4)) (fun j => ((G (j / 4)).rl (j % 4)).length) (fun j => (G (j / 4)).rc (j % 4)) (fun j => (G (j / 4)).rl (j % 4)) w hN hN0 ?_ hbs hcp ?_ ?_ ?_ ?_
  · intro V hV k hkN
    have q := hk V hV k hkN
    rw [show 2 * k / 2 = k by omega, show 2 * k % 2 = 0 by omega, show (2 * k + 1) / 2 = k by omega, show (2 * k + 1) % 2 = 1 by omega, show 2 * (2 * k) / 4 = k by omega, show 2 * (2 * k) % 4 = 0 by omega, show (2 * (2 * k) + 1) / 4 = k by omega, show (2 * (2 * k) + 1) % 4 = 1 by omega, show 2 * (2 * k + 1) / 4 = k by omega, show 2 * (2 * k + 1) % 4 = 2 by omega, show (2 * (2 * k + 1) + 1) / 4 = k by omega, show (2 * (2 * k + 1) + 1) % 4 = 3 by omega]
    exact q
  · intro j hj
    exact (G6.four (P := fun i => Wd ((G (j / 4)).rl i)) (hwd (j / 4) (by omega)).1 (hwd (j / 4) (by omega)).2.1 (hwd (j / 4) (by omega)).2.2.1 (hwd (j / 4) (by omega)).2.2.2) (j % 4) (by omega)
  · intro j hj
    have := hfew (j / 4) (by omega) (j % 4) (by omega)
    omega
  · intro j hj
    exact (hown (j / 4) (by omega)).get (j % 4) (by omega)
  · intro i j hi hj hne
    show Kp ((G (i / 4)).row (i % 4)) ((G (j / 4)).row (j % 4))
    have wi := (hin (i / 4) (by omega)).2 (i % 4) (by omega)
    have wj := (hin (j / 4) (by omega)).2 (j % 4) (by omega)
    rcases Nat.lt_trichotomy (i / 4) (j / 4) with h | h | h
    · exact Kp.far wi wj (.inl (far _ _ h (by omega)))
    · rw [h] at wi ⊢
      exact kp_four (v := fun k => (G (j / 4)).row k) (hin (j / 4) (by omega)).1 (i % 4) (j % 4) (by omega) (by omega) (by omega)
    · exact Kp.far wi wj (.inr (far _ _ h (by omega)))
end Go.Proofs.YtlleakifnjfdkaaGreat
