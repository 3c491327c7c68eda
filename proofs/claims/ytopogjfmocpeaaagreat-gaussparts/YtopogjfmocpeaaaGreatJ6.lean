/- My texts on the way to GaussParts, one behind the other: contracts of the program and of the document's answers. -/
import Derived.Test.YtopogjfmocpeaaaGreatJ5
import Derived.Deep.Cut
import Derived.Deep.RegionHeld3
import Derived.Test.YtopogjfmocpeaaaGreatChecked
import Derived.Test.YtopogjfmocpeaaaGreatRows
import Derived.WalkKit
import Derived.ProofKit
import Derived.OpenShut
import Derived.ShutString
import Derived.Below
import Derived.Lib.SmallJoins
import Derived.Deep.Strs
/- The law GaussParts, of numbers that are gone through. (tools/mkgparts.py) -/
namespace Go.Proofs.YtopogjfmocpeaaaGreat
open Go.RowKit
set_option linter.unusedVariables false
set_option linter.unusedSimpArgs false

set_option maxHeartbeats 6400000 in
set_option maxRecDepth 100000 in
theorem gaussParts_go (n : Bool) (a : Option Addr) (ca : Nat) (xs : List Int) (b : Option Addr) (cb : Nat) (ys : List Int) (m : Bool) (c : Option Addr) (cc : Nat) (us : List Int) (d : Option Addr) (cd : Nat) (vs : List Int) (w : World) (sx : Sl w (.slice a xs.length ca) xs) (sy : Sl w (.slice b ys.length cb) ys) (su : Sl w (.slice c us.length cc) us) (sv : Sl w (.slice d vs.length cd) vs) (lx : xs.length ≤ 3000) (ly : ys.length ≤ 3000) (lu : us.length ≤ 3000) (lv : vs.length ≤ 3000) (n2 : Bool) (a2 : Option Addr) (ca2 : Nat) (xs2 : List Int) (b2 : Option Addr) (cb2 : Nat) (ys2 : List Int) (m2 : Bool) (c2 : Option Addr) (cc2 : Nat) (us2 : List Int) (d2 : Option Addr) (cd2 : Nat) (vs2 : List Int) (sx2 : Sl w (.slice a2 xs2.length ca2) xs2) (sy2 : Sl w (.slice b2 ys2.length cb2) ys2) (su2 : Sl w (.slice c2 us2.length cc2) us2) (sv2 : Sl w (.slice d2 vs2.length cd2) vs2) (lx2 : xs2.length ≤ 3000) (ly2 : ys2.length ≤ 3000) (lu2 : us2.length ≤ 3000) (lv2 : vs2.length ≤ 3000) (re im : Int) (re0 : -9223372036854775808 ≤ re) (re1 : re ≤ 9223372036854775807) (im0 : -9223372036854775808 ≤ im) (im1 : im ≤ 9223372036854775807) (q1 : (smH xs.length && smH ys.length) = true) (q2 : (smH us.length && smH vs.length) = true) (q3 : (smH xs2.length && smH ys2.length) = true) (q4 : (smH us2.length && smH vs2.length) = true) :
    Calls Tryz.prog 3 #[.agg #[.bool n, .slice a xs.length ca, .slice b ys.length cb, .bool m, .slice c us.length cc, .slice d vs.length cd], .agg #[.bool n2, .slice a2 xs2.length ca2, .slice b2 ys2.length cb2, .bool m2, .slice c2 us2.length cc2, .slice d2 vs2.length cd2], .int .i64 re, .int .i64 im] w fun e w' => e = .returned (.bool true) ∧ Below w.heap.size w w' := by
  obtain ⟨X, hX⟩ : ∃ X, (w.alloc (.cells #[.bool n, .slice a xs.length ca, .slice b ys.length cb, .bool m, .slice c us.length cc, .slice d vs.length cd] 26)).alloc (.cells #[.bool n2, .slice a2 xs2.length ca2, .slice b2 ys2.length cb2, .bool m2, .slice c2 us2.length cc2, .slice d2 vs2.length cd2] 26) = X := ⟨_, rfl⟩
  have b1 : Below w.heap.size w X := by rw [← hX]; exact bt (alloc_later _ _) (alloc_later _ _)
  have HB0 : Hid (Box X (w.heap.size) 26 #[.bool n, .slice a xs.length ca, .slice b ys.length cb, .bool m, .slice c us.length cc, .slice d vs.length cd]) := by
    have h := Box.made w 26 #[.bool n, .slice a xs.length ca, .slice b ys.length cb, .bool m, .slice c us.length cc, .slice d vs.length cd]
    rw [← hX]
    exact h.later (alloc_later _ _) h.lt
  have HB1 : Hid (Box X (w.heap.size + 1) 26 #[.bool n2, .slice a2 xs2.length ca2, .slice b2 ys2.length cb2, .bool m2, .slice c2 us2.length cc2, .slice d2 vs2.length cd2]) := by
    have h := Box.made (w.alloc (.cells #[.bool n, .slice a xs.length ca, .slice b ys.length cb, .bool m, .slice c us.length cc, .slice d vs.length cd] 26)) 26 #[.bool n2, .slice a2 xs2.length ca2, .slice b2 ys2.length cb2, .bool m2, .slice c2 us2.length cc2, .slice d2 vs2.length cd2]
    rw [show (w.alloc (.cells #[.bool n, .slice a xs.length ca, .slice b ys.length cb, .bool m, .slice c us.length cc, .slice d vs.length cd] 26)).heap.size = w.heap.size + 1 by simp] at h
    rw [hX] at h
    exact h
  have HS1 := hid (kheavy_any n a xs.length ca b ys.length cb m c us.length cc d vs.length cd X)
  have HS2 := hid (fun V => kheavy_any n2 a2 xs2.length ca2 b2 ys2.length cb2 m2 c2 us2.length cc2 d2 vs2.length cd2 V)
  rw [q1, q2] at HS1
  rw [q3, q4] at HS2
  clear q1 q2 q3 q4
  have HRI := hid (And.intro re0 (And.intro re1 (And.intro im0 im1)))
  clear re0 re1 im0 im1
  obtain ⟨k0, k1, k2, k3, k4, k5⟩ := Kl6.of HB0.out
  go_enter Tryz.func3, Tryz.ntmps3
  go_wp2_with fail
  clear hX
  refine Calls.mono HS1.out ?_
  rintro e w1 ⟨rfl, hb1⟩
  have HBU := hid hb1
  clear hb1 HS1 k0 k1 k2 k3 k4 k5
  obtain ⟨k0, k1, k2, k3, k4, k5⟩ := Kl6.of (HB1.out.later HBU.out HB1.out.lt)
  have HC := hid (HS2.out w1)
  clear HS2
  go_wp2_with fail
  refine Calls.mono HC.out ?_
  rintro e w2 ⟨rfl, hb2⟩
  have HBV := hid (bt HBU.out hb2)
  clear hb2 HC k0 k1 k2 k3 k4 k5
  have HK : Hid (∀ V, Below w2.heap.size w2 V → (V.cell? ⟨w.heap.size, 0, none⟩ = some (.bool n) ∧ V.cell? ⟨w.heap.size, 1, none⟩ = some (.slice a xs.length ca) ∧ V.cell? ⟨w.heap.size, 2, none⟩ = some (.slice b ys.length cb) ∧ V.cell? ⟨w.heap.size, 3, none⟩ = some (.bool m) ∧ V.cell? ⟨w.heap.size, 4, none⟩ = some (.slice c us.length cc) ∧ V.cell? ⟨w.heap.size, 5, none⟩ = some (.slice d vs.length cd)) ∧ (V.cell? ⟨w.heap.size + 1, 0, none⟩ = some (.bool n2) ∧ V.cell? ⟨w.heap.size + 1, 1, none⟩ = some (.slice a2 xs2.length ca2) ∧ V.cell? ⟨w.heap.size + 1, 2, none⟩ = some (.slice b2 ys2.length cb2) ∧ V.cell? ⟨w.heap.size + 1, 3, none⟩ = some (.bool m2) ∧ V.cell? ⟨w.heap.size + 1, 4, none⟩ = some (.slice c2 us2.length cc2) ∧ V.cell? ⟨w.heap.size + 1, 5, none⟩ = some (.slice d2 vs2.length cd2))) := fun V hv => ⟨Kl6.of (HB0.out.later (bt HBV.out hv) HB0.out.lt), Kl6.of (HB1.out.later (bt HBV.out hv) HB1.out.lt)⟩
  have HL1 : Hid (∀ V, Below w2.heap.size w2 V → Calls Tryz.prog 5 #[.agg #[.bool n, .slice a xs.length ca, .slice b ys.length cb, .bool m, .slice c us.length cc, .slice d vs.length cd]] V fun e V' => ∃ g1 cg1 g2 cg2 g3 cg3 g4 cg4, e = .returned (.agg #[.bool n, .slice (some ⟨g1, 0, none⟩) xs.length cg1, .slice (some ⟨g2, 0, none⟩) ys.length cg2, .bool m, .slice (some ⟨g3, 0, none⟩) us.length cg3, .slice (some ⟨g4, 0, none⟩) vs.length cg4]) ∧ Hid ((V'.ownsRow V.heap.size 68 1 (.slice (some ⟨g1, 0, none⟩) (xs.length + 3) cg1) (xs.length + 3) ((xs ++ marks 3).map (Value.int .u32)) ∧ V'.ownsRow V.heap.size 68 1 (.slice (some ⟨g2, 0, none⟩) (ys.length + 3) cg2) (ys.length + 3) ((ys ++ marks 3).map (Value.int .u32)) ∧ V'.ownsRow V.heap.size 68 1 (.slice (some ⟨g3, 0, none⟩) (us.length + 3) cg3) (us.length + 3) ((us ++ marks 3).map (Value.int .u32)) ∧ V'.ownsRow V.heap.size 68 1 (.slice (some ⟨g4, 0, none⟩) (vs.length + 3) cg4) (vs.length + 3) ((vs ++ marks 3).map (Value.int .u32))) ∧ (g1 < g2 ∧ g2 < g3 ∧ g3 < g4) ∧ V.heap.size ≤ g1 ∧ g4 < V'.heap.size) ∧ Hid (Below V.heap.size V V') ∧ V.heap.size < V'.heap.size ∧ ((V'.cell? ⟨w.heap.size, 0, none⟩ = some (.bool n) ∧ V'.cell? ⟨w.heap.size, 1, none⟩ = some (.slice a xs.length ca) ∧ V'.cell? ⟨w.heap.size, 2, none⟩ = some (.slice b ys.length cb) ∧ V'.cell? ⟨w.heap.size, 3, none⟩ = some (.bool m) ∧ V'.cell? ⟨w.heap.size, 4, none⟩ = some (.slice c us.length cc) ∧ V'.cell? ⟨w.heap.size, 5, none⟩ = some (.slice d vs.length cd)) ∧ (V'.cell? ⟨w.heap.size + 1, 0, none⟩ = some (.bool n2) ∧ V'.cell? ⟨w.heap.size + 1, 1, none⟩ = some (.slice a2 xs2.length ca2) ∧ V'.cell? ⟨w.heap.size + 1, 2, none⟩ = some (.slice b2 ys2.length cb2) ∧ V'.cell? ⟨w.heap.size + 1, 3, none⟩ = some (.bool m2) ∧ V'.cell? ⟨w.heap.size + 1, 4, none⟩ = some (.slice c2 us2.length cc2) ∧ V'.cell? ⟨w.heap.size + 1, 5, none⟩ = some (.slice d2 vs2.length cd2)))) := fun V hv => by
    refine Calls.mono (klentGauss_any n a ca xs b cb ys m c cc us d cd vs V ((sx.later b1).later (bt HBV.out hv)) ((sy.later b1).later (bt HBV.out hv)) ((su.later b1).later (bt HBV.out hv)) ((sv.later b1).later (bt HBV.out hv)) (by omega) (by omega) (by omega) (by omega)) ?_
    rintro e V' ⟨g1, c1, g2, c2, g3, c3, g4, c4, rfl, ho, hg, hb⟩
    have q1 := (ho.1.lt g1 rfl).1
    have q2 := (ho.2.2.2.lt g4 rfl).2
    exact ⟨g1, c1, g2, c2, g3, c3, g4, c4, rfl, ⟨ho, hg, q1, q2⟩, hb, by omega, HK.out _ (bt hv hb)⟩
  have HL2 : Hid (∀ V, Below w2.heap.size w2 V → Calls Tryz.prog 5 #[.agg #[.bool n2, .slice a2 xs2.length ca2, .slice b2 ys2.length cb2, .bool m2, .slice c2 us2.length cc2, .slice d2 vs2.length cd2]] V fun e V' => ∃ h1 ch1 h2 ch2 h3 ch3 h4 ch4, e = .returned (.agg #[.bool n2, .slice (some ⟨h1, 0, none⟩) xs2.length ch1, .slice (some ⟨h2, 0, none⟩) ys2.length ch2, .bool m2, .slice (some ⟨h3, 0, none⟩) us2.length ch3, .slice (some ⟨h4, 0, none⟩) vs2.length ch4]) ∧ Hid ((V'.ownsRow V.heap.size 68 1 (.slice (some ⟨h1, 0, none⟩) (xs2.length + 3) ch1) (xs2.length + 3) ((xs2 ++ marks 3).map (Value.int .u32)) ∧ V'.ownsRow V.heap.size 68 1 (.slice (some ⟨h2, 0, none⟩) (ys2.length + 3) ch2) (ys2.length + 3) ((ys2 ++ marks 3).map (Value.int .u32)) ∧ V'.ownsRow V.heap.size 68 1 (.slice (some ⟨h3, 0, none⟩) (us2.length + 3) ch3) (us2.length + 3) ((us2 ++ marks 3).map (Value.int .u32)) ∧ V'.ownsRow V.heap.size 68 1 (.slice (some ⟨h4, 0, none⟩) (vs2.length + 3) ch4) (vs2.length + 3) ((vs2 ++ marks 3).map (Value.int .u32))) ∧ (h1 < h2 ∧ h2 < h3 ∧ h3 < h4) ∧ V.heap.size ≤ h1 ∧ h4 < V'.heap.size) ∧ Hid (Below V.heap.size V V') ∧ V.heap.size < V'.heap.size ∧ ((V'.cell? ⟨w.heap.size, 0, none⟩ = some (.bool n) ∧ V'.cell? ⟨w.heap.size, 1, none⟩ = some (.slice a xs.length ca) ∧ V'.cell? ⟨w.heap.size, 2, none⟩ = some (.slice b ys.length cb) ∧ V'.cell? ⟨w.heap.size, 3, none⟩ = some (.bool m) ∧ V'.cell? ⟨w.heap.size, 4, none⟩ = some (.slice c us.length cc) ∧ V'.cell? ⟨w.heap.size, 5, none⟩ = some (.slice d vs.length cd)) ∧ (V'.cell? ⟨w.heap.size + 1, 0, none⟩ = some (.bool n2) ∧ V'.cell? ⟨w.heap.size + 1, 1, none⟩ = some (.slice a2 xs2.length ca2) ∧ V'.cell? ⟨w.heap.size + 1, 2, none⟩ = some (.slice b2 ys2.length cb2) ∧ V'.cell? ⟨w.heap.size + 1, 3, none⟩ = some (.bool m2) ∧ V'.cell? ⟨w.heap.size + 1, 4, none⟩ = some (.slice c2 us2.length cc2) ∧ V'.cell? ⟨w.heap.size + 1, 5, none⟩ = some (.slice d2 vs2.length cd2)))) := fun V hv => by
    refine Calls.mono (klentGauss_any n2 a2 ca2 xs2 b2 cb2 ys2 m2 c2 cc2 us2 d2 cd2 vs2 V ((sx2.later b1).later (bt HBV.out hv)) ((sy2.later b1).later (bt HBV.out hv)) ((su2.later b1).later (bt HBV.out hv)) ((sv2.later b1).later (bt HBV.out hv)) (by omega) (by omega) (by omega) (by omega)) ?_
    rintro e V' ⟨g1, c1, g2, c2, g3, c3, g4, c4, rfl, ho, hg, hb⟩
    have q1 := (ho.1.lt g1 rfl).1
    have q2 := (ho.2.2.2.lt g4 rfl).2
    exact ⟨g1, c1, g2, c2, g3, c3, g4, c4, rfl, ⟨ho, hg, q1, q2⟩, hb, by omega, HK.out _ (bt hv hb)⟩
  have HBW := hid (bt b1 HBV.out)
  have HSA := hid (And.intro sx (And.intro sy (And.intro su sv)))
  have HSB := hid (And.intro sx2 (And.intro sy2 (And.intro su2 sv2)))
  have HLA : Hid ((xs.length ≤ 3000 ∧ ys.length ≤ 3000 ∧ us.length ≤ 3000 ∧ vs.length ≤ 3000) ∧ (xs2.length ≤ 3000 ∧ ys2.length ≤ 3000 ∧ us2.length ≤ 3000 ∧ vs2.length ≤ 3000)) := ⟨⟨lx, ly, lu, lv⟩, ⟨lx2, ly2, lu2, lv2⟩⟩
  clear sx sy su sv sx2 sy2 su2 sv2 b1 lx ly lu lv lx2 ly2 lu2 lv2
  go_upto_region 3 with fail
  refine gparts_region n a ca xs b cb ys m c cc us d cd vs n2 a2 ca2 xs2 b2 cb2 ys2 m2 c2 cc2 us2 d2 cd2 vs2 w w2 HK HL1 HL2 _ _ _ _ _ _ _ _ _ _ _ _ _ _ _ _ _ _ _ _ _ _ _ _ _ _ _ _ _ _ _ _ _ _ _ _ _ _ _ _ _ _ _ (fun s9 s10 u39 u40 u41 u42 wc hcut => ?_)
  obtain ⟨p, q, g1, cg1, g2, cg2, g3, cg3, g4, cg4, h1, ch1, h2, ch2, h3, ch3, h4, ch4, rfl, rfl, HP, HQ, HR, HO, HBL⟩ := hcut.out
  clear hcut HL1 HL2
  have HBX := hid (bt HBW.out HBL.out)
  have HKK : Hid (∀ V, Below wc.heap.size wc V → (V.cell? ⟨w.heap.size, 0, none⟩ = some (.bool n) ∧ V.cell? ⟨w.heap.size, 1, none⟩ = some (.slice a xs.length ca) ∧ V.cell? ⟨w.heap.size, 2, none⟩ = some (.slice b ys.length cb) ∧ V.cell? ⟨w.heap.size, 3, none⟩ = some (.bool m) ∧ V.cell? ⟨w.heap.size, 4, none⟩ = some (.slice c us.length cc) ∧ V.cell? ⟨w.heap.size, 5, none⟩ = some (.slice d vs.length cd)) ∧ (V.cell? ⟨w.heap.size + 1, 0, none⟩ = some (.bool n2) ∧ V.cell? ⟨w.heap.size + 1, 1, none⟩ = some (.slice a2 xs2.length ca2) ∧ V.cell? ⟨w.heap.size + 1, 2, none⟩ = some (.slice b2 ys2.length cb2) ∧ V.cell? ⟨w.heap.size + 1, 3, none⟩ = some (.bool m2) ∧ V.cell? ⟨w.heap.size + 1, 4, none⟩ = some (.slice c2 us2.length cc2) ∧ V.cell? ⟨w.heap.size + 1, 5, none⟩ = some (.slice d2 vs2.length cd2)) ∧ (V.cell? ⟨p, 0, none⟩ = some (.bool n) ∧ V.cell? ⟨p, 1, none⟩ = some (.slice (some ⟨g1, 0, none⟩) xs.length cg1) ∧ V.cell? ⟨p, 2, none⟩ = some (.slice (some ⟨g2, 0, none⟩) ys.length cg2) ∧ V.cell? ⟨p, 3, none⟩ = some (.bool m) ∧ V.cell? ⟨p, 4, none⟩ = some (.slice (some ⟨g3, 0, none⟩) us.length cg3) ∧ V.cell? ⟨p, 5, none⟩ = some (.slice (some ⟨g4, 0, none⟩) vs.length cg4)) ∧ (V.cell? ⟨q, 0, none⟩ = some (.bool n2) ∧ V.cell? ⟨q, 1, none⟩ = some (.slice (some ⟨h1, 0, none⟩) xs2.length ch1) ∧ V.cell? ⟨q, 2, none⟩ = some (.slice (some ⟨h2, 0, none⟩) ys2.length ch2) ∧ V.cell? ⟨q, 3, none⟩ = some (.bool m2) ∧ V.cell? ⟨q, 4, none⟩ = some (.slice (some ⟨h3, 0, none⟩) us2.length ch3) ∧ V.cell? ⟨q, 5, none⟩ = some (.slice (some ⟨h4, 0, none⟩) vs2.length ch4))) := fun V hv => ⟨(HK.out V (bt HBL.out hv)).1, (HK.out V (bt HBL.out hv)).2, Kl6.of (HP.out.later hv HP.out.lt), Kl6.of (HQ.out.later hv HQ.out.lt)⟩
  clear HK
  have Y1 : Hid (∀ V, Below wc.heap.size wc V → Calls Tryz.prog 6 #[.agg #[.bool n, .slice (some ⟨g1, 0, none⟩) xs.length cg1, .slice (some ⟨g2, 0, none⟩) ys.length cg2, .bool m, .slice (some ⟨g3, 0, none⟩) us.length cg3, .slice (some ⟨g4, 0, none⟩) vs.length cg4]] V fun x w' => x = .returned (.int .i64 (gchk n xs ys m us vs)) ∧ Below V.heap.size V w') := fun V hv => gcheck_any n _ xs _ ys m _ us _ vs V ((Sl.own (klentf HR.out.1.1) HSA.out.1.wd).later hv) ((Sl.own (klentf HR.out.1.2.1) HSA.out.2.1.wd).later hv) ((Sl.own (klentf HR.out.1.2.2.1) HSA.out.2.2.1.wd).later hv) ((Sl.own (klentf HR.out.1.2.2.2) HSA.out.2.2.2.wd).later hv)
  have Y2 : Hid (∀ V, Below wc.heap.size wc V → Calls Tryz.prog 7 #[.agg #[.bool n, .slice a xs.length ca, .slice b ys.length cb, .bool m, .slice c us.length cc, .slice d vs.length cd]] V fun x w' => x = .returned (.int .i64 (gchk n xs ys m us vs)) ∧ Below V.heap.size V w') := fun V hv => kpcheck_any n a ca xs b cb ys m c cc us d cd vs V (HSA.out.1.later (bt HBX.out hv)) (HSA.out.2.1.later (bt HBX.out hv)) (HSA.out.2.2.1.later (bt HBX.out hv)) (HSA.out.2.2.2.later (bt HBX.out hv)) (by have := HLA.out.1.1; omega) (by have := HLA.out.1.2.1; omega) (by have := HLA.out.1.2.2.1; omega) (by have := HLA.out.1.2.2.2; omega)
  have Y3 : Hid (∀ V, Below wc.heap.size wc V → Calls Tryz.prog 8 #[.agg #[.bool n, .slice (some ⟨g1, 0, none⟩) xs.length cg1, .slice (some ⟨g2, 0, none⟩) ys.length cg2, .bool m, .slice (some ⟨g3, 0, none⟩) us.length cg3, .slice (some ⟨g4, 0, none⟩) vs.length cg4], .agg #[.bool n2, .slice (some ⟨h1, 0, none⟩) xs2.length ch1, .slice (some ⟨h2, 0, none⟩) ys2.length ch2, .bool m2, .slice (some ⟨h3, 0, none⟩) us2.length ch3, .slice (some ⟨h4, 0, none⟩) vs2.length ch4]] V fun x w' => x = .returned (.bool ((decide (n = n2 ∧ xs = xs2 ∧ ys = ys2) && decide (m = m2 ∧ us = us2 ∧ vs = vs2)) && (gchk n xs ys m us vs == 0))) ∧ Below V.heap.size V w') := fun V hv => gSame_any n (some ⟨g1, 0, none⟩) cg1 xs (some ⟨g2, 0, none⟩) cg2 ys m (some ⟨g3, 0, none⟩) cg3 us (some ⟨g4, 0, none⟩) cg4 vs n2 (some ⟨h1, 0, none⟩) ch1 xs2 (some ⟨h2, 0, none⟩) ch2 ys2 m2 (some ⟨h3, 0, none⟩) ch3 us2 (some ⟨h4, 0, none⟩) ch4 vs2 V ((Sl.own (klentf HR.out.1.1) HSA.out.1.wd).later hv) ((Sl.own (klentf HR.out.1.2.1) HSA.out.2.1.wd).later hv) ((Sl.own (klentf HR.out.1.2.2.1) HSA.out.2.2.1.wd).later hv) ((Sl.own (klentf HR.out.1.2.2.2) HSA.out.2.2.2.wd).later hv) ((Sl.own (klentf HR.out.2.1) HSB.out.1.wd).later hv) ((Sl.own (klentf HR.out.2.2.1) HSB.out.2.1.wd).later hv) ((Sl.own (klentf HR.out.2.2.2.1) HSB.out.2.2.1.wd).later hv) ((Sl.own (klentf HR.out.2.2.2.2) HSB.out.2.2.2.wd).later hv) (by have := HLA.out.1.1; omega) (by have := HLA.out.1.2.1; omega) (by have := HLA.out.1.2.2.1; omega) (by have := HLA.out.1.2.2.2; omega) (by have := HLA.out.2.1; omega) (by have := HLA.out.2.2.1; omega) (by have := HLA.out.2.2.2.1; omega) (by have := HLA.out.2.2.2.2; omega)
  have Y4 : Hid (∀ V, Below wc.heap.size wc V → Calls Tryz.prog 9 #[.agg #[.bool n, .slice a xs.length ca, .slice b ys.length cb, .bool m, .slice c us.length cc, .slice d vs.length cd], .agg #[.bool n2, .slice a2 xs2.length ca2, .slice b2 ys2.length cb2, .bool m2, .slice c2 us2.length cc2, .slice d2 vs2.length cd2]] V fun x w' => x = .returned (.bool ((decide (n = n2 ∧ xs = xs2 ∧ ys = ys2) && decide (m = m2 ∧ us = us2 ∧ vs = vs2)) && (gchk n xs ys m us vs == 0))) ∧ Below V.heap.size V w') := fun V hv => d4Same_any n a ca xs b cb ys m c cc us d cd vs V (HSA.out.1.later (bt HBX.out hv)) (HSA.out.2.1.later (bt HBX.out hv)) (HSA.out.2.2.1.later (bt HBX.out hv)) (HSA.out.2.2.2.later (bt HBX.out hv)) (by have := HLA.out.1.1; omega) (by have := HLA.out.1.2.1; omega) (by have := HLA.out.1.2.2.1; omega) (by have := HLA.out.1.2.2.2; omega) n2 a2 ca2 xs2 b2 cb2 ys2 m2 c2 cc2 us2 d2 cd2 vs2 (HSB.out.1.later (bt HBX.out hv)) (HSB.out.2.1.later (bt HBX.out hv)) (HSB.out.2.2.1.later (bt HBX.out hv)) (HSB.out.2.2.2.later (bt HBX.out hv)) (by have := HLA.out.2.1; omega) (by have := HLA.out.2.2.1; omega) (by have := HLA.out.2.2.2.1; omega) (by have := HLA.out.2.2.2.2; omega)
  have Y5 : Hid (∀ V, Below wc.heap.size wc V → Calls Tryz.prog 8 #[.agg #[.bool n, .slice (some ⟨g1, 0, none⟩) xs.length cg1, .slice (some ⟨g2, 0, none⟩) ys.length cg2, .bool m, .slice (some ⟨g3, 0, none⟩) us.length cg3, .slice (some ⟨g4, 0, none⟩) vs.length cg4], .agg #[.bool n, .slice (some ⟨g1, 0, none⟩) xs.length cg1, .slice (some ⟨g2, 0, none⟩) ys.length cg2, .bool m, .slice (some ⟨g3, 0, none⟩) us.length cg3, .slice (some ⟨g4, 0, none⟩) vs.length cg4]] V fun x w' => x = .returned (.bool ((decide (n = n ∧ xs = xs ∧ ys = ys) && decide (m = m ∧ us = us ∧ vs = vs)) && (gchk n xs ys m us vs == 0))) ∧ Below V.heap.size V w') := fun V hv => gSame_any n (some ⟨g1, 0, none⟩) cg1 xs (some ⟨g2, 0, none⟩) cg2 ys m (some ⟨g3, 0, none⟩) cg3 us (some ⟨g4, 0, none⟩) cg4 vs n (some ⟨g1, 0, none⟩) cg1 xs (some ⟨g2, 0, none⟩) cg2 ys m (some ⟨g3, 0, none⟩) cg3 us (some ⟨g4, 0, none⟩) cg4 vs V ((Sl.own (klentf HR.out.1.1) HSA.out.1.wd).later hv) ((Sl.own (klentf HR.out.1.2.1) HSA.out.2.1.wd).later hv) ((Sl.own (klentf HR.out.1.2.2.1) HSA.out.2.2.1.wd).later hv) ((Sl.own (klentf HR.out.1.2.2.2) HSA.out.2.2.2.wd).later hv) ((Sl.own (klentf HR.out.1.1) HSA.out.1.wd).later hv) ((Sl.own (klentf HR.out.1.2.1) HSA.out.2.1.wd).later hv) ((Sl.own (klentf HR.out.1.2.2.1) HSA.out.2.2.1.wd).later hv) ((Sl.own (klentf HR.out.1.2.2.2) HSA.out.2.2.2.wd).later hv) (by have := HLA.out.1.1; omega) (by have := HLA.out.1.2.1; omega) (by have := HLA.out.1.2.2.1; omega) (by have := HLA.out.1.2.2.2; omega) (by have := HLA.out.1.1; omega) (by have := HLA.out.1.2.1; omega) (by have := HLA.out.1.2.2.1; omega) (by have := HLA.out.1.2.2.2; omega)
  have Y6 : Hid (∀ V, Below wc.heap.size wc V → Calls Tryz.prog 9 #[.agg #[.bool n, .slice a xs.length ca, .slice b ys.length cb, .bool m, .slice c us.length cc, .slice d vs.length cd], .agg #[.bool n, .slice a xs.length ca, .slice b ys.length cb, .bool m, .slice c us.length cc, .slice d vs.length cd]] V fun x w' => x = .returned (.bool ((decide (n = n ∧ xs = xs ∧ ys = ys) && decide (m = m ∧ us = us ∧ vs = vs)) && (gchk n xs ys m us vs == 0))) ∧ Below V.heap.size V w') := fun V hv => d4Same_any n a ca xs b cb ys m c cc us d cd vs V (HSA.out.1.later (bt HBX.out hv)) (HSA.out.2.1.later (bt HBX.out hv)) (HSA.out.2.2.1.later (bt HBX.out hv)) (HSA.out.2.2.2.later (bt HBX.out hv)) (by have := HLA.out.1.1; omega) (by have := HLA.out.1.2.1; omega) (by have := HLA.out.1.2.2.1; omega) (by have := HLA.out.1.2.2.2; omega) n a ca xs b cb ys m c cc us d cd vs (HSA.out.1.later (bt HBX.out hv)) (HSA.out.2.1.later (bt HBX.out hv)) (HSA.out.2.2.1.later (bt HBX.out hv)) (HSA.out.2.2.2.later (bt HBX.out hv)) (by have := HLA.out.1.1; omega) (by have := HLA.out.1.2.1; omega) (by have := HLA.out.1.2.2.1; omega) (by have := HLA.out.1.2.2.2; omega)
  have Y7 : Hid (∀ V, Below wc.heap.size wc V → Calls Tryz.prog 10 #[.agg #[.bool n, .slice (some ⟨g1, 0, none⟩) xs.length cg1, .slice (some ⟨g2, 0, none⟩) ys.length cg2, .bool m, .slice (some ⟨g3, 0, none⟩) us.length cg3, .slice (some ⟨g4, 0, none⟩) vs.length cg4]] V fun x w' => x = .returned (.bool ((xs.length == 0 && us.length == 0) && (gchk n xs ys m us vs == 0))) ∧ Below V.heap.size V w') := fun V hv => gZero_any n (some ⟨g1, 0, none⟩) cg1 xs (some ⟨g2, 0, none⟩) cg2 ys m (some ⟨g3, 0, none⟩) cg3 us (some ⟨g4, 0, none⟩) cg4 vs V ((Sl.own (klentf HR.out.1.1) HSA.out.1.wd).later hv) ((Sl.own (klentf HR.out.1.2.1) HSA.out.2.1.wd).later hv) ((Sl.own (klentf HR.out.1.2.2.1) HSA.out.2.2.1.wd).later hv) ((Sl.own (klentf HR.out.1.2.2.2) HSA.out.2.2.2.wd).later hv)
  have Y8 : Hid (∀ V, Below wc.heap.size wc V → Calls Tryz.prog 11 #[.agg #[.bool n, .slice a xs.length ca, .slice b ys.length cb, .bool m, .slice c us.length cc, .slice d vs.length cd]] V fun x w' => x = .returned (.bool ((xs.length == 0 && us.length == 0) && (gchk n xs ys m us vs == 0))) ∧ Below V.heap.size V w') := fun V hv => d4Zero_any n a ca xs b cb ys m c cc us d cd vs V (HSA.out.1.later (bt HBX.out hv)) (HSA.out.2.1.later (bt HBX.out hv)) (HSA.out.2.2.1.later (bt HBX.out hv)) (HSA.out.2.2.2.later (bt HBX.out hv)) (by have := HLA.out.1.1; omega) (by have := HLA.out.1.2.1; omega) (by have := HLA.out.1.2.2.1; omega) (by have := HLA.out.1.2.2.2; omega)
  generalize ((decide (n = n2 ∧ xs = xs2 ∧ ys = ys2) && decide (m = m2 ∧ us = us2 ∧ vs = vs2)) && (gchk n xs ys m us vs == 0)) = S1 at Y3 Y4
  generalize ((decide (n = n ∧ xs = xs ∧ ys = ys) && decide (m = m ∧ us = us ∧ vs = vs)) && (gchk n xs ys m us vs == 0)) = S2 at Y5 Y6
  generalize ((xs.length == 0 && us.length == 0) && (gchk n xs ys m us vs == 0)) = S3 at Y7 Y8
  have HGC : Hid (∃ r, gchk n xs ys m us vs = r) := ⟨_, rfl⟩
  generalize gchk n xs ys m us vs = R1 at Y1 Y2
  have HD := hid (Below.drew (Below.refl wc.heap.size wc))
  have hs0 := HKK.out _ HD.out
  go_upto_region 4 with fail
  go_region_held3 (fun V : World => (V.cell? ⟨w.heap.size, 0, none⟩ = some (.bool n) ∧ V.cell? ⟨w.heap.size, 1, none⟩ = some (.slice a xs.length ca) ∧ V.cell? ⟨w.heap.size, 2, none⟩ = some (.slice b ys.length cb) ∧ V.cell? ⟨w.heap.size, 3, none⟩ = some (.bool m) ∧ V.cell? ⟨w.heap.size, 4, none⟩ = some (.slice c us.length cc) ∧ V.cell? ⟨w.heap.size, 5, none⟩ = some (.slice d vs.length cd)) ∧ (V.cell? ⟨w.heap.size + 1, 0, none⟩ = some (.bool n2) ∧ V.cell? ⟨w.heap.size + 1, 1, none⟩ = some (.slice a2 xs2.length ca2) ∧ V.cell? ⟨w.heap.size + 1, 2, none⟩ = some (.slice b2 ys2.length cb2) ∧ V.cell? ⟨w.heap.size + 1, 3, none⟩ = some (.bool m2) ∧ V.cell? ⟨w.heap.size + 1, 4, none⟩ = some (.slice c2 us2.length cc2) ∧ V.cell? ⟨w.heap.size + 1, 5, none⟩ = some (.slice d2 vs2.length cd2)) ∧ (V.cell? ⟨p, 0, none⟩ = some (.bool n) ∧ V.cell? ⟨p, 1, none⟩ = some (.slice (some ⟨g1, 0, none⟩) xs.length cg1) ∧ V.cell? ⟨p, 2, none⟩ = some (.slice (some ⟨g2, 0, none⟩) ys.length cg2) ∧ V.cell? ⟨p, 3, none⟩ = some (.bool m) ∧ V.cell? ⟨p, 4, none⟩ = some (.slice (some ⟨g3, 0, none⟩) us.length cg3) ∧ V.cell? ⟨p, 5, none⟩ = some (.slice (some ⟨g4, 0, none⟩) vs.length cg4)) ∧ (V.cell? ⟨q, 0, none⟩ = some (.bool n2) ∧ V.cell? ⟨q, 1, none⟩ = some (.slice (some ⟨h1, 0, none⟩) xs2.length ch1) ∧ V.cell? ⟨q, 2, none⟩ = some (.slice (some ⟨h2, 0, none⟩) ys2.length ch2) ∧ V.cell? ⟨q, 3, none⟩ = some (.bool m2) ∧ V.cell? ⟨q, 4, none⟩ = some (.slice (some ⟨h3, 0, none⟩) us2.length ch3) ∧ V.cell? ⟨q, 5, none⟩ = some (.slice (some ⟨h4, 0, none⟩) vs2.length ch4))) (first | with_reducible exact hs8 | with_reducible exact hs7 | with_reducible exact hs6 | with_reducible exact hs5 | with_reducible exact hs4 | with_reducible exact hs3 | with_reducible exact hs2 | with_reducible exact hs1 | with_reducible exact hs0)
    (first
      | (go_at_call 11; (with_reducible refine Calls.mono (Y8.out _ hb7.out) ?_); rintro x y8 ⟨rfl, hbx⟩; have hb8 := hid (bt hb7.out hbx); clear hbx; have hs8 := HKK.out _ hb8.out; clear hs7)
      | (go_at_call 10; (with_reducible refine Calls.mono (Y7.out _ hb6.out) ?_); rintro x y7 ⟨rfl, hbx⟩; have hb7 := hid (bt hb6.out hbx); clear hbx; have hs7 := HKK.out _ hb7.out; clear hs6)
      | (go_at_call 9; (with_reducible refine Calls.mono (Y6.out _ hb5.out) ?_); rintro x y6 ⟨rfl, hbx⟩; have hb6 := hid (bt hb5.out hbx); clear hbx; have hs6 := HKK.out _ hb6.out; clear hs5)
      | (go_at_call 8; (with_reducible refine Calls.mono (Y5.out _ hb4.out) ?_); rintro x y5 ⟨rfl, hbx⟩; have hb5 := hid (bt hb4.out hbx); clear hbx; have hs5 := HKK.out _ hb5.out; clear hs4)
      | (go_at_call 9; (with_reducible refine Calls.mono (Y4.out _ hb3.out) ?_); rintro x y4 ⟨rfl, hbx⟩; have hb4 := hid (bt hb3.out hbx); clear hbx; have hs4 := HKK.out _ hb4.out; clear hs3)
      | (go_at_call 8; (with_reducible refine Calls.mono (Y3.out _ hb2.out) ?_); rintro x y3 ⟨rfl, hbx⟩; have hb3 := hid (bt hb2.out hbx); clear hbx; have hs3 := HKK.out _ hb3.out; clear hs2)
      | (go_at_call 7; (with_reducible refine Calls.mono (Y2.out _ hb1.out) ?_); rintro x y2 ⟨rfl, hbx⟩; have hb2 := hid (bt hb1.out hbx); clear hbx; have hs2 := HKK.out _ hb2.out; clear hs1)
      | (go_at_call 6; (with_reducible refine Calls.mono (Y1.out _ HD.out) ?_); rintro x y1 ⟨rfl, hbx⟩; have hb1 := hid (bt HD.out hbx); clear hbx; have hs1 := HKK.out _ hb1.out; clear hs0))
  have HX0 := hid (bt HBX.out hb8.out)
  have HXX := hid (bt HBV.out (bt HBL.out hb8.out))
  have HA0 := hid (HB0.out.later HXX.out HB0.out.lt)
  have HBb0 := hid (HB1.out.later HXX.out HB1.out.lt)
  have HP0 := hid (HP.out.later hb8.out HP.out.lt)
  have HQ0 := hid (HQ.out.later hb8.out HQ.out.lt)
  have SRA := hid (And.intro (HSA.out.1.later HX0.out) (And.intro (HSA.out.2.1.later HX0.out) (And.intro (HSA.out.2.2.1.later HX0.out) (HSA.out.2.2.2.later HX0.out))))
  have HWA := hid (And.intro HSA.out.1.wd (And.intro HSA.out.2.1.wd (And.intro HSA.out.2.2.1.wd HSA.out.2.2.2.wd)))
  have SRB := hid (And.intro (HSB.out.1.later HX0.out) (And.intro (HSB.out.2.1.later HX0.out) (And.intro (HSB.out.2.2.1.later HX0.out) (HSB.out.2.2.2.later HX0.out))))
  have HWB := hid (And.intro HSB.out.1.wd (And.intro HSB.out.2.1.wd (And.intro HSB.out.2.2.1.wd HSB.out.2.2.2.wd)))
  have SLA := hid (kpq_rl HR.out.1 hb8.out)
  have SLB := hid (kpq_rl HR.out.2 hb8.out)
  have ZY := hid hb8.out.size
  have ZX := hid HBL.out.size
  clear Y1 Y2 Y3 Y4 Y5 Y6 Y7 Y8 hs8 HKK HR HSA HSB HP HQ HB0 HB1 HXX hb1 hb2 hb3 hb4 hb5 hb6 hb7 HGC
  have HC := hid (kConj_full n (some ⟨g1, 0, none⟩) cg1 xs (some ⟨g2, 0, none⟩) cg2 ys m (some ⟨g3, 0, none⟩) cg3 us (some ⟨g4, 0, none⟩) cg4 vs y8 (Sl.own (klentf SLA.out.1) HWA.out.1) (Sl.own (klentf SLA.out.2.1) HWA.out.2.1) (Sl.own (klentf SLA.out.2.2.1) HWA.out.2.2.1) (Sl.own (klentf SLA.out.2.2.2) HWA.out.2.2.2))
  have clP_0 : y8.cell? ⟨p, 0, none⟩ = some (.bool n) := HP0.out.cell 0
  have clP_1 : y8.cell? ⟨p, 1, none⟩ = some (.slice (some ⟨g1, 0, none⟩) xs.length cg1) := HP0.out.cell 1
  have clP_2 : y8.cell? ⟨p, 2, none⟩ = some (.slice (some ⟨g2, 0, none⟩) ys.length cg2) := HP0.out.cell 2
  have clP_3 : y8.cell? ⟨p, 3, none⟩ = some (.bool m) := HP0.out.cell 3
  have clP_4 : y8.cell? ⟨p, 4, none⟩ = some (.slice (some ⟨g3, 0, none⟩) us.length cg3) := HP0.out.cell 4
  have clP_5 : y8.cell? ⟨p, 5, none⟩ = some (.slice (some ⟨g4, 0, none⟩) vs.length cg4) := HP0.out.cell 5
  go_wp2_with fail
  refine Calls.mono HC.out ?_
  rintro e W1 ⟨c_s, c_e1, c_k1, c_z1, c_f1, c_l1, c_d1, c_t, c_p1, c_q1, c_z2, c_o1, c_r1, c_d2, c_u, rfl, ho, ht, hb, W1_, hc1, hc2⟩
  clear clP_0 clP_1 clP_2 clP_3 clP_4 clP_5
  clear HC
  have HW1 := hid (bt HX0.out hb)
  have Z1 := hid (Below.size hb)
  have HA1 := hid (HA0.out.later hb HA0.out.lt)
  have HB1 := hid (HBb0.out.later hb HBb0.out.lt)
  have HP1 := hid (HP0.out.later hb HP0.out.lt)
  have HQ1 := hid (HQ0.out.later hb HQ0.out.lt)
  have SRA1 := hid (And.intro (SRA.out.1.later hb) (And.intro (SRA.out.2.1.later hb) (And.intro (SRA.out.2.2.1.later hb) (SRA.out.2.2.2.later hb))))
  have SRB1 := hid (And.intro (SRB.out.1.later hb) (And.intro (SRB.out.2.1.later hb) (And.intro (SRB.out.2.2.1.later hb) (SRB.out.2.2.2.later hb))))
  have SLA1 := hid (And.intro (owns_later SLA.out.1 hb) (And.intro (owns_later SLA.out.2.1 hb) (And.intro (owns_later SLA.out.2.2.1 hb) (owns_later SLA.out.2.2.2 hb))))
  have SLB1 := hid (And.intro (owns_later SLB.out.1 hb) (And.intro (owns_later SLB.out.2.1 hb) (And.intro (owns_later SLB.out.2.2.1 hb) (owns_later SLB.out.2.2.2 hb))))
  clear HX0 HA0 HBb0 HP0 HQ0 SRA SRB SLA SLB
  have HTc_ := hid ht
  have Sc_O1 := hid ho
  have HIc_1 := hid (And.intro (kp4_of_cuts hc1 hc2) (And.intro (kg_within ho.1) (And.intro (kg_within ho.2.1) (And.intro (kg_within ho.2.2.1) (kg_within ho.2.2.2)))))
  clear hc1 hc2
  clear ho ht hb
  have Gc_1 := hid (Box.made W1 26 #[.bool c_s, .slice c_e1 c_z1.length c_k1, .slice c_f1 c_d1.length c_l1, .bool c_t, .slice c_p1 c_z2.length c_q1, .slice c_o1 c_d2.length c_r1])
  have Lc_1 := hid (alloc_later W1 (.cells #[.bool c_s, .slice c_e1 c_z1.length c_k1, .slice c_f1 c_d1.length c_l1, .bool c_t, .slice c_p1 c_z2.length c_q1, .slice c_o1 c_d2.length c_r1] 26))
  obtain ⟨Yc_1, hYc_1⟩ : ∃ Yc_1, W1.alloc (.cells #[.bool c_s, .slice c_e1 c_z1.length c_k1, .slice c_f1 c_d1.length c_l1, .bool c_t, .slice c_p1 c_z2.length c_q1, .slice c_o1 c_d2.length c_r1] 26) = Yc_1 := ⟨_, rfl⟩
  rw [hYc_1] at Gc_1 Lc_1
  have HW2 := hid (bt HW1.out Lc_1.out)
  have Z2 := hid (Below.size Lc_1.out)
  have HA2 := hid (HA1.out.later Lc_1.out HA1.out.lt)
  have HB2 := hid (HB1.out.later Lc_1.out HB1.out.lt)
  have HP2 := hid (HP1.out.later Lc_1.out HP1.out.lt)
  have HQ2 := hid (HQ1.out.later Lc_1.out HQ1.out.lt)
  have SRA2 := hid (And.intro (SRA1.out.1.later Lc_1.out) (And.intro (SRA1.out.2.1.later Lc_1.out) (And.intro (SRA1.out.2.2.1.later Lc_1.out) (SRA1.out.2.2.2.later Lc_1.out))))
  have SRB2 := hid (And.intro (SRB1.out.1.later Lc_1.out) (And.intro (SRB1.out.2.1.later Lc_1.out) (And.intro (SRB1.out.2.2.1.later Lc_1.out) (SRB1.out.2.2.2.later Lc_1.out))))
  have SLA2 := hid (And.intro (owns_later SLA1.out.1 Lc_1.out) (And.intro (owns_later SLA1.out.2.1 Lc_1.out) (And.intro (owns_later SLA1.out.2.2.1 Lc_1.out) (owns_later SLA1.out.2.2.2 Lc_1.out))))
  have SLB2 := hid (And.intro (owns_later SLB1.out.1 Lc_1.out) (And.intro (owns_later SLB1.out.2.1 Lc_1.out) (And.intro (owns_later SLB1.out.2.2.1 Lc_1.out) (owns_later SLB1.out.2.2.2 Lc_1.out))))
  have Sc_O12 := hid (And.intro (owns_later Sc_O1.out.1 Lc_1.out) (And.intro (owns_later Sc_O1.out.2.1 Lc_1.out) (And.intro (owns_later Sc_O1.out.2.2.1 Lc_1.out) (owns_later Sc_O1.out.2.2.2 Lc_1.out))))
  clear HW1 HA1 HB1 HP1 HQ1 SRA1 SRB1 SLA1 SLB1 Sc_O1
  have HC := hid (kConj_full n (some ⟨g1, 0, none⟩) cg1 xs (some ⟨g2, 0, none⟩) cg2 ys m (some ⟨g3, 0, none⟩) cg3 us (some ⟨g4, 0, none⟩) cg4 vs Yc_1 (Sl.own (klentf SLA2.out.1) HWA.out.1) (Sl.own (klentf SLA2.out.2.1) HWA.out.2.1) (Sl.own (klentf SLA2.out.2.2.1) HWA.out.2.2.1) (Sl.own (klentf SLA2.out.2.2.2) HWA.out.2.2.2))
  have clP_0 : Yc_1.cell? ⟨p, 0, none⟩ = some (.bool n) := HP2.out.cell 0
  have clP_1 : Yc_1.cell? ⟨p, 1, none⟩ = some (.slice (some ⟨g1, 0, none⟩) xs.length cg1) := HP2.out.cell 1
  have clP_2 : Yc_1.cell? ⟨p, 2, none⟩ = some (.slice (some ⟨g2, 0, none⟩) ys.length cg2) := HP2.out.cell 2
  have clP_3 : Yc_1.cell? ⟨p, 3, none⟩ = some (.bool m) := HP2.out.cell 3
  have clP_4 : Yc_1.cell? ⟨p, 4, none⟩ = some (.slice (some ⟨g3, 0, none⟩) us.length cg3) := HP2.out.cell 4
  have clP_5 : Yc_1.cell? ⟨p, 5, none⟩ = some (.slice (some ⟨g4, 0, none⟩) vs.length cg4) := HP2.out.cell 5
  go_wp2_with fail
  clear hYc_1
  refine Calls.mono HC.out ?_
  rintro e W2 ⟨s_, c_e2, c_k2, z1_, c_f2, c_l2, d1_, t_, c_p2, c_q2, z2_, c_o2, c_r2, d2_, u_, rfl, ho, ht, hb, W1_, hc1, hc2⟩
  clear clP_0 clP_1 clP_2 clP_3 clP_4 clP_5
  clear HC
  have HW3 := hid (bt HW2.out hb)
  have Z3 := hid (Below.size hb)
  have HA3 := hid (HA2.out.later hb HA2.out.lt)
  have HB3 := hid (HB2.out.later hb HB2.out.lt)
  have HP3 := hid (HP2.out.later hb HP2.out.lt)
  have HQ3 := hid (HQ2.out.later hb HQ2.out.lt)
  have Hc_13 := hid (Gc_1.out.later hb Gc_1.out.lt)
  have SRA3 := hid (And.intro (SRA2.out.1.later hb) (And.intro (SRA2.out.2.1.later hb) (And.intro (SRA2.out.2.2.1.later hb) (SRA2.out.2.2.2.later hb))))
  have SRB3 := hid (And.intro (SRB2.out.1.later hb) (And.intro (SRB2.out.2.1.later hb) (And.intro (SRB2.out.2.2.1.later hb) (SRB2.out.2.2.2.later hb))))
  have SLA3 := hid (And.intro (owns_later SLA2.out.1 hb) (And.intro (owns_later SLA2.out.2.1 hb) (And.intro (owns_later SLA2.out.2.2.1 hb) (owns_later SLA2.out.2.2.2 hb))))
  have SLB3 := hid (And.intro (owns_later SLB2.out.1 hb) (And.intro (owns_later SLB2.out.2.1 hb) (And.intro (owns_later SLB2.out.2.2.1 hb) (owns_later SLB2.out.2.2.2 hb))))
  have Sc_O13 := hid (And.intro (owns_later Sc_O12.out.1 hb) (And.intro (owns_later Sc_O12.out.2.1 hb) (And.intro (owns_later Sc_O12.out.2.2.1 hb) (owns_later Sc_O12.out.2.2.2 hb))))
  clear HW2 HA2 HB2 HP2 HQ2 Gc_1 SRA2 SRB2 SLA2 SLB2 Sc_O12
  obtain ⟨rfl, rfl, rfl, rfl, rfl, rfl, rfl⟩ := HTc_.out.one ht
  have Sc_O2 := hid ho
  have HIc_2 := hid (And.intro (kp4_of_cuts hc1 hc2) (And.intro (kg_within ho.1) (And.intro (kg_within ho.2.1) (And.intro (kg_within ho.2.2.1) (kg_within ho.2.2.2)))))
  clear hc1 hc2
  clear ho ht hb
  have Gc_2 := hid (Box.made W2 26 #[.bool c_s, .slice c_e2 c_z1.length c_k2, .slice c_f2 c_d1.length c_l2, .bool c_t, .slice c_p2 c_z2.length c_q2, .slice c_o2 c_d2.length c_r2])
  have Lc_2 := hid (alloc_later W2 (.cells #[.bool c_s, .slice c_e2 c_z1.length c_k2, .slice c_f2 c_d1.length c_l2, .bool c_t, .slice c_p2 c_z2.length c_q2, .slice c_o2 c_d2.length c_r2] 26))
  obtain ⟨Yc_2, hYc_2⟩ : ∃ Yc_2, W2.alloc (.cells #[.bool c_s, .slice c_e2 c_z1.length c_k2, .slice c_f2 c_d1.length c_l2, .bool c_t, .slice c_p2 c_z2.length c_q2, .slice c_o2 c_d2.length c_r2] 26) = Yc_2 := ⟨_, rfl⟩
  rw [hYc_2] at Gc_2 Lc_2
  have HW4 := hid (bt HW3.out Lc_2.out)
  have Z4 := hid (Below.size Lc_2.out)
  have HA4 := hid (HA3.out.later Lc_2.out HA3.out.lt)
  have HB4 := hid (HB3.out.later Lc_2.out HB3.out.lt)
  have HP4 := hid (HP3.out.later Lc_2.out HP3.out.lt)
  have HQ4 := hid (HQ3.out.later Lc_2.out HQ3.out.lt)
  have Hc_14 := hid (Hc_13.out.later Lc_2.out Hc_13.out.lt)
  have SRA4 := hid (And.intro (SRA3.out.1.later Lc_2.out) (And.intro (SRA3.out.2.1.later Lc_2.out) (And.intro (SRA3.out.2.2.1.later Lc_2.out) (SRA3.out.2.2.2.later Lc_2.out))))
  have SRB4 := hid (And.intro (SRB3.out.1.later Lc_2.out) (And.intro (SRB3.out.2.1.later Lc_2.out) (And.intro (SRB3.out.2.2.1.later Lc_2.out) (SRB3.out.2.2.2.later Lc_2.out))))
  have SLA4 := hid (And.intro (owns_later SLA3.out.1 Lc_2.out) (And.intro (owns_later SLA3.out.2.1 Lc_2.out) (And.intro (owns_later SLA3.out.2.2.1 Lc_2.out) (owns_later SLA3.out.2.2.2 Lc_2.out))))
  have SLB4 := hid (And.intro (owns_later SLB3.out.1 Lc_2.out) (And.intro (owns_later SLB3.out.2.1 Lc_2.out) (And.intro (owns_later SLB3.out.2.2.1 Lc_2.out) (owns_later SLB3.out.2.2.2 Lc_2.out))))
  have Sc_O14 := hid (And.intro (owns_later Sc_O13.out.1 Lc_2.out) (And.intro (owns_later Sc_O13.out.2.1 Lc_2.out) (And.intro (owns_later Sc_O13.out.2.2.1 Lc_2.out) (owns_later Sc_O13.out.2.2.2 Lc_2.out))))
  have Sc_O24 := hid (And.intro (owns_later Sc_O2.out.1 Lc_2.out) (And.intro (owns_later Sc_O2.out.2.1 Lc_2.out) (And.intro (owns_later Sc_O2.out.2.2.1 Lc_2.out) (owns_later Sc_O2.out.2.2.2 Lc_2.out))))
  clear HW3 HA3 HB3 HP3 HQ3 Hc_13 SRA3 SRB3 SLA3 SLB3 Sc_O13 Sc_O2
  have HC := hid (d4Conj_any n a ca xs b cb ys m c cc us d cd vs Yc_2 SRA4.out.1 SRA4.out.2.1 SRA4.out.2.2.1 SRA4.out.2.2.2 (by have := HLA.out.1.1; omega) (by have := HLA.out.1.2.1; omega) (by have := HLA.out.1.2.2.1; omega) (by have := HLA.out.1.2.2.2; omega))
  have clA_0 : Yc_2.cell? ⟨w.heap.size, 0, none⟩ = some (.bool n) := HA4.out.cell 0
  have clA_1 : Yc_2.cell? ⟨w.heap.size, 1, none⟩ = some (.slice a xs.length ca) := HA4.out.cell 1
  have clA_2 : Yc_2.cell? ⟨w.heap.size, 2, none⟩ = some (.slice b ys.length cb) := HA4.out.cell 2
  have clA_3 : Yc_2.cell? ⟨w.heap.size, 3, none⟩ = some (.bool m) := HA4.out.cell 3
  have clA_4 : Yc_2.cell? ⟨w.heap.size, 4, none⟩ = some (.slice c us.length cc) := HA4.out.cell 4
  have clA_5 : Yc_2.cell? ⟨w.heap.size, 5, none⟩ = some (.slice d vs.length cd) := HA4.out.cell 5
  go_wp2_with fail
  clear hYc_2
  refine Calls.mono HC.out ?_
  rintro e W3 ⟨s_, c_e3, c_k3, z1_, c_f3, c_l3, d1_, t_, c_p3, c_q3, z2_, c_o3, c_r3, d2_, u_, rfl, ho, ht, hb⟩
  clear clA_0 clA_1 clA_2 clA_3 clA_4 clA_5
  clear HC
  have HW5 := hid (bt HW4.out hb)
  have Z5 := hid (Below.size hb)
  have HA5 := hid (HA4.out.later hb HA4.out.lt)
  have HB5 := hid (HB4.out.later hb HB4.out.lt)
  have HP5 := hid (HP4.out.later hb HP4.out.lt)
  have HQ5 := hid (HQ4.out.later hb HQ4.out.lt)
  have Hc_15 := hid (Hc_14.out.later hb Hc_14.out.lt)
  have Hc_25 := hid (Gc_2.out.later hb Gc_2.out.lt)
  have SRA5 := hid (And.intro (SRA4.out.1.later hb) (And.intro (SRA4.out.2.1.later hb) (And.intro (SRA4.out.2.2.1.later hb) (SRA4.out.2.2.2.later hb))))
  have SRB5 := hid (And.intro (SRB4.out.1.later hb) (And.intro (SRB4.out.2.1.later hb) (And.intro (SRB4.out.2.2.1.later hb) (SRB4.out.2.2.2.later hb))))
  have SLA5 := hid (And.intro (owns_later SLA4.out.1 hb) (And.intro (owns_later SLA4.out.2.1 hb) (And.intro (owns_later SLA4.out.2.2.1 hb) (owns_later SLA4.out.2.2.2 hb))))
  have SLB5 := hid (And.intro (owns_later SLB4.out.1 hb) (And.intro (owns_later SLB4.out.2.1 hb) (And.intro (owns_later SLB4.out.2.2.1 hb) (owns_later SLB4.out.2.2.2 hb))))
  have Sc_O15 := hid (And.intro (owns_later Sc_O14.out.1 hb) (And.intro (owns_later Sc_O14.out.2.1 hb) (And.intro (owns_later Sc_O14.out.2.2.1 hb) (owns_later Sc_O14.out.2.2.2 hb))))
  have Sc_O25 := hid (And.intro (owns_later Sc_O24.out.1 hb) (And.intro (owns_later Sc_O24.out.2.1 hb) (And.intro (owns_later Sc_O24.out.2.2.1 hb) (owns_later Sc_O24.out.2.2.2 hb))))
  clear HW4 HA4 HB4 HP4 HQ4 Hc_14 Gc_2 SRA4 SRB4 SLA4 SLB4 Sc_O14 Sc_O24
  obtain ⟨rfl, rfl, rfl, rfl, rfl, rfl, rfl⟩ := HTc_.out.one ht
  have Sc_D := hid ho
  clear ho ht hb
  have Gc_3 := hid (Box.made W3 26 #[.bool c_s, .slice c_e3 c_z1.length c_k3, .slice c_f3 c_d1.length c_l3, .bool c_t, .slice c_p3 c_z2.length c_q3, .slice c_o3 c_d2.length c_r3])
  have Lc_3 := hid (alloc_later W3 (.cells #[.bool c_s, .slice c_e3 c_z1.length c_k3, .slice c_f3 c_d1.length c_l3, .bool c_t, .slice c_p3 c_z2.length c_q3, .slice c_o3 c_d2.length c_r3] 26))
  obtain ⟨Yc_3, hYc_3⟩ : ∃ Yc_3, W3.alloc (.cells #[.bool c_s, .slice c_e3 c_z1.length c_k3, .slice c_f3 c_d1.length c_l3, .bool c_t, .slice c_p3 c_z2.length c_q3, .slice c_o3 c_d2.length c_r3] 26) = Yc_3 := ⟨_, rfl⟩
  rw [hYc_3] at Gc_3 Lc_3
  have HW6 := hid (bt HW5.out Lc_3.out)
  have Z6 := hid (Below.size Lc_3.out)
  have HA6 := hid (HA5.out.later Lc_3.out HA5.out.lt)
  have HB6 := hid (HB5.out.later Lc_3.out HB5.out.lt)
  have HP6 := hid (HP5.out.later Lc_3.out HP5.out.lt)
  have HQ6 := hid (HQ5.out.later Lc_3.out HQ5.out.lt)
  have Hc_16 := hid (Hc_15.out.later Lc_3.out Hc_15.out.lt)
  have Hc_26 := hid (Hc_25.out.later Lc_3.out Hc_25.out.lt)
  have SRA6 := hid (And.intro (SRA5.out.1.later Lc_3.out) (And.intro (SRA5.out.2.1.later Lc_3.out) (And.intro (SRA5.out.2.2.1.later Lc_3.out) (SRA5.out.2.2.2.later Lc_3.out))))
  have SRB6 := hid (And.intro (SRB5.out.1.later Lc_3.out) (And.intro (SRB5.out.2.1.later Lc_3.out) (And.intro (SRB5.out.2.2.1.later Lc_3.out) (SRB5.out.2.2.2.later Lc_3.out))))
  have SLA6 := hid (And.intro (owns_later SLA5.out.1 Lc_3.out) (And.intro (owns_later SLA5.out.2.1 Lc_3.out) (And.intro (owns_later SLA5.out.2.2.1 Lc_3.out) (owns_later SLA5.out.2.2.2 Lc_3.out))))
  have SLB6 := hid (And.intro (owns_later SLB5.out.1 Lc_3.out) (And.intro (owns_later SLB5.out.2.1 Lc_3.out) (And.intro (owns_later SLB5.out.2.2.1 Lc_3.out) (owns_later SLB5.out.2.2.2 Lc_3.out))))
  have Sc_O16 := hid (And.intro (owns_later Sc_O15.out.1 Lc_3.out) (And.intro (owns_later Sc_O15.out.2.1 Lc_3.out) (And.intro (owns_later Sc_O15.out.2.2.1 Lc_3.out) (owns_later Sc_O15.out.2.2.2 Lc_3.out))))
  have Sc_O26 := hid (And.intro (owns_later Sc_O25.out.1 Lc_3.out) (And.intro (owns_later Sc_O25.out.2.1 Lc_3.out) (And.intro (owns_later Sc_O25.out.2.2.1 Lc_3.out) (owns_later Sc_O25.out.2.2.2 Lc_3.out))))
  have Sc_D6 := hid (And.intro (Sc_D.out.1.later Lc_3.out) (And.intro (Sc_D.out.2.1.later Lc_3.out) (And.intro (Sc_D.out.2.2.1.later Lc_3.out) (Sc_D.out.2.2.2.later Lc_3.out))))
  clear HW5 HA5 HB5 HP5 HQ5 Hc_15 Hc_25 SRA5 SRB5 SLA5 SLB5 Sc_O15 Sc_O25 Sc_D
  have HC := hid (gNeg_cut n (some ⟨g1, 0, none⟩) cg1 xs (some ⟨g2, 0, none⟩) cg2 ys m (some ⟨g3, 0, none⟩) cg3 us (some ⟨g4, 0, none⟩) cg4 vs Yc_3 (Sl.own (klentf SLA6.out.1) HWA.out.1) (Sl.own (klentf SLA6.out.2.1) HWA.out.2.1) (Sl.own (klentf SLA6.out.2.2.1) HWA.out.2.2.1) (Sl.own (klentf SLA6.out.2.2.2) HWA.out.2.2.2))
  have clP_0 : Yc_3.cell? ⟨p, 0, none⟩ = some (.bool n) := HP6.out.cell 0
  have clP_1 : Yc_3.cell? ⟨p, 1, none⟩ = some (.slice (some ⟨g1, 0, none⟩) xs.length cg1) := HP6.out.cell 1
  have clP_2 : Yc_3.cell? ⟨p, 2, none⟩ = some (.slice (some ⟨g2, 0, none⟩) ys.length cg2) := HP6.out.cell 2
  have clP_3 : Yc_3.cell? ⟨p, 3, none⟩ = some (.bool m) := HP6.out.cell 3
  have clP_4 : Yc_3.cell? ⟨p, 4, none⟩ = some (.slice (some ⟨g3, 0, none⟩) us.length cg3) := HP6.out.cell 4
  have clP_5 : Yc_3.cell? ⟨p, 5, none⟩ = some (.slice (some ⟨g4, 0, none⟩) vs.length cg4) := HP6.out.cell 5
  go_wp2_with fail
  clear hYc_3
  refine Calls.mono HC.out ?_
  rintro e W4 ⟨n_s, n_e1, n_k1, n_z1, n_f1, n_l1, n_d1, n_t, n_p1, n_q1, n_z2, n_o1, n_r1, n_d2, n_u, rfl, ho, ht, hb, W1_, hc1, hc2⟩
  clear clP_0 clP_1 clP_2 clP_3 clP_4 clP_5
  clear HC
  have HW7 := hid (bt HW6.out hb)
  have Z7 := hid (Below.size hb)
  have HA7 := hid (HA6.out.later hb HA6.out.lt)
  have HB7 := hid (HB6.out.later hb HB6.out.lt)
  have HP7 := hid (HP6.out.later hb HP6.out.lt)
  have HQ7 := hid (HQ6.out.later hb HQ6.out.lt)
  have Hc_17 := hid (Hc_16.out.later hb Hc_16.out.lt)
  have Hc_27 := hid (Hc_26.out.later hb Hc_26.out.lt)
  have Hc_37 := hid (Gc_3.out.later hb Gc_3.out.lt)
  have SRA7 := hid (And.intro (SRA6.out.1.later hb) (And.intro (SRA6.out.2.1.later hb) (And.intro (SRA6.out.2.2.1.later hb) (SRA6.out.2.2.2.later hb))))
  have SRB7 := hid (And.intro (SRB6.out.1.later hb) (And.intro (SRB6.out.2.1.later hb) (And.intro (SRB6.out.2.2.1.later hb) (SRB6.out.2.2.2.later hb))))
  have SLA7 := hid (And.intro (owns_later SLA6.out.1 hb) (And.intro (owns_later SLA6.out.2.1 hb) (And.intro (owns_later SLA6.out.2.2.1 hb) (owns_later SLA6.out.2.2.2 hb))))
  have SLB7 := hid (And.intro (owns_later SLB6.out.1 hb) (And.intro (owns_later SLB6.out.2.1 hb) (And.intro (owns_later SLB6.out.2.2.1 hb) (owns_later SLB6.out.2.2.2 hb))))
  have Sc_O17 := hid (And.intro (owns_later Sc_O16.out.1 hb) (And.intro (owns_later Sc_O16.out.2.1 hb) (And.intro (owns_later Sc_O16.out.2.2.1 hb) (owns_later Sc_O16.out.2.2.2 hb))))
  have Sc_O27 := hid (And.intro (owns_later Sc_O26.out.1 hb) (And.intro (owns_later Sc_O26.out.2.1 hb) (And.intro (owns_later Sc_O26.out.2.2.1 hb) (owns_later Sc_O26.out.2.2.2 hb))))
  have Sc_D7 := hid (And.intro (Sc_D6.out.1.later hb) (And.intro (Sc_D6.out.2.1.later hb) (And.intro (Sc_D6.out.2.2.1.later hb) (Sc_D6.out.2.2.2.later hb))))
  clear HW6 HA6 HB6 HP6 HQ6 Hc_16 Hc_26 Gc_3 SRA6 SRB6 SLA6 SLB6 Sc_O16 Sc_O26 Sc_D6
  have HTn_ := hid ht
  have Sn_O1 := hid ho
  have HIn_1 := hid (And.intro (kp4_of_cuts hc1 hc2) (And.intro (kg_within ho.1) (And.intro (kg_within ho.2.1) (And.intro (kg_within ho.2.2.1) (kg_within ho.2.2.2)))))
  clear hc1 hc2
  clear ho ht hb
  have Gn_1 := hid (Box.made W4 26 #[.bool n_s, .slice n_e1 n_z1.length n_k1, .slice n_f1 n_d1.length n_l1, .bool n_t, .slice n_p1 n_z2.length n_q1, .slice n_o1 n_d2.length n_r1])
  have Ln_1 := hid (alloc_later W4 (.cells #[.bool n_s, .slice n_e1 n_z1.length n_k1, .slice n_f1 n_d1.length n_l1, .bool n_t, .slice n_p1 n_z2.length n_q1, .slice n_o1 n_d2.length n_r1] 26))
  obtain ⟨Yn_1, hYn_1⟩ : ∃ Yn_1, W4.alloc (.cells #[.bool n_s, .slice n_e1 n_z1.length n_k1, .slice n_f1 n_d1.length n_l1, .bool n_t, .slice n_p1 n_z2.length n_q1, .slice n_o1 n_d2.length n_r1] 26) = Yn_1 := ⟨_, rfl⟩
  rw [hYn_1] at Gn_1 Ln_1
  have HW8 := hid (bt HW7.out Ln_1.out)
  have Z8 := hid (Below.size Ln_1.out)
  have HA8 := hid (HA7.out.later Ln_1.out HA7.out.lt)
  have HB8 := hid (HB7.out.later Ln_1.out HB7.out.lt)
  have HP8 := hid (HP7.out.later Ln_1.out HP7.out.lt)
  have HQ8 := hid (HQ7.out.later Ln_1.out HQ7.out.lt)
  have Hc_18 := hid (Hc_17.out.later Ln_1.out Hc_17.out.lt)
  have Hc_28 := hid (Hc_27.out.later Ln_1.out Hc_27.out.lt)
  have Hc_38 := hid (Hc_37.out.later Ln_1.out Hc_37.out.lt)
  have SRA8 := hid (And.intro (SRA7.out.1.later Ln_1.out) (And.intro (SRA7.out.2.1.later Ln_1.out) (And.intro (SRA7.out.2.2.1.later Ln_1.out) (SRA7.out.2.2.2.later Ln_1.out))))
  have SRB8 := hid (And.intro (SRB7.out.1.later Ln_1.out) (And.intro (SRB7.out.2.1.later Ln_1.out) (And.intro (SRB7.out.2.2.1.later Ln_1.out) (SRB7.out.2.2.2.later Ln_1.out))))
  have SLA8 := hid (And.intro (owns_later SLA7.out.1 Ln_1.out) (And.intro (owns_later SLA7.out.2.1 Ln_1.out) (And.intro (owns_later SLA7.out.2.2.1 Ln_1.out) (owns_later SLA7.out.2.2.2 Ln_1.out))))
  have SLB8 := hid (And.intro (owns_later SLB7.out.1 Ln_1.out) (And.intro (owns_later SLB7.out.2.1 Ln_1.out) (And.intro (owns_later SLB7.out.2.2.1 Ln_1.out) (owns_later SLB7.out.2.2.2 Ln_1.out))))
  have Sc_O18 := hid (And.intro (owns_later Sc_O17.out.1 Ln_1.out) (And.intro (owns_later Sc_O17.out.2.1 Ln_1.out) (And.intro (owns_later Sc_O17.out.2.2.1 Ln_1.out) (owns_later Sc_O17.out.2.2.2 Ln_1.out))))
  have Sc_O28 := hid (And.intro (owns_later Sc_O27.out.1 Ln_1.out) (And.intro (owns_later Sc_O27.out.2.1 Ln_1.out) (And.intro (owns_later Sc_O27.out.2.2.1 Ln_1.out) (owns_later Sc_O27.out.2.2.2 Ln_1.out))))
  have Sc_D8 := hid (And.intro (Sc_D7.out.1.later Ln_1.out) (And.intro (Sc_D7.out.2.1.later Ln_1.out) (And.intro (Sc_D7.out.2.2.1.later Ln_1.out) (Sc_D7.out.2.2.2.later Ln_1.out))))
  have Sn_O18 := hid (And.intro (owns_later Sn_O1.out.1 Ln_1.out) (And.intro (owns_later Sn_O1.out.2.1 Ln_1.out) (And.intro (owns_later Sn_O1.out.2.2.1 Ln_1.out) (owns_later Sn_O1.out.2.2.2 Ln_1.out))))
  clear HW7 HA7 HB7 HP7 HQ7 Hc_17 Hc_27 Hc_37 SRA7 SRB7 SLA7 SLB7 Sc_O17 Sc_O27 Sc_D7 Sn_O1
  have HC := hid (gNeg_cut n (some ⟨g1, 0, none⟩) cg1 xs (some ⟨g2, 0, none⟩) cg2 ys m (some ⟨g3, 0, none⟩) cg3 us (some ⟨g4, 0, none⟩) cg4 vs Yn_1 (Sl.own (klentf SLA8.out.1) HWA.out.1) (Sl.own (klentf SLA8.out.2.1) HWA.out.2.1) (Sl.own (klentf SLA8.out.2.2.1) HWA.out.2.2.1) (Sl.own (klentf SLA8.out.2.2.2) HWA.out.2.2.2))
  have clP_0 : Yn_1.cell? ⟨p, 0, none⟩ = some (.bool n) := HP8.out.cell 0
  have clP_1 : Yn_1.cell? ⟨p, 1, none⟩ = some (.slice (some ⟨g1, 0, none⟩) xs.length cg1) := HP8.out.cell 1
  have clP_2 : Yn_1.cell? ⟨p, 2, none⟩ = some (.slice (some ⟨g2, 0, none⟩) ys.length cg2) := HP8.out.cell 2
  have clP_3 : Yn_1.cell? ⟨p, 3, none⟩ = some (.bool m) := HP8.out.cell 3
  have clP_4 : Yn_1.cell? ⟨p, 4, none⟩ = some (.slice (some ⟨g3, 0, none⟩) us.length cg3) := HP8.out.cell 4
  have clP_5 : Yn_1.cell? ⟨p, 5, none⟩ = some (.slice (some ⟨g4, 0, none⟩) vs.length cg4) := HP8.out.cell 5
  go_wp2_with fail
  clear hYn_1
  refine Calls.mono HC.out ?_
  rintro e W5 ⟨s_, n_e2, n_k2, z1_, n_f2, n_l2, d1_, t_, n_p2, n_q2, z2_, n_o2, n_r2, d2_, u_, rfl, ho, ht, hb, W1_, hc1, hc2⟩
  clear clP_0 clP_1 clP_2 clP_3 clP_4 clP_5
  clear HC
  have HW9 := hid (bt HW8.out hb)
  have Z9 := hid (Below.size hb)
  have HA9 := hid (HA8.out.later hb HA8.out.lt)
  have HB9 := hid (HB8.out.later hb HB8.out.lt)
  have HP9 := hid (HP8.out.later hb HP8.out.lt)
  have HQ9 := hid (HQ8.out.later hb HQ8.out.lt)
  have Hc_19 := hid (Hc_18.out.later hb Hc_18.out.lt)
  have Hc_29 := hid (Hc_28.out.later hb Hc_28.out.lt)
  have Hc_39 := hid (Hc_38.out.later hb Hc_38.out.lt)
  have Hn_19 := hid (Gn_1.out.later hb Gn_1.out.lt)
  have SRA9 := hid (And.intro (SRA8.out.1.later hb) (And.intro (SRA8.out.2.1.later hb) (And.intro (SRA8.out.2.2.1.later hb) (SRA8.out.2.2.2.later hb))))
  have SRB9 := hid (And.intro (SRB8.out.1.later hb) (And.intro (SRB8.out.2.1.later hb) (And.intro (SRB8.out.2.2.1.later hb) (SRB8.out.2.2.2.later hb))))
  have SLA9 := hid (And.intro (owns_later SLA8.out.1 hb) (And.intro (owns_later SLA8.out.2.1 hb) (And.intro (owns_later SLA8.out.2.2.1 hb) (owns_later SLA8.out.2.2.2 hb))))
  have SLB9 := hid (And.intro (owns_later SLB8.out.1 hb) (And.intro (owns_later SLB8.out.2.1 hb) (And.intro (owns_later SLB8.out.2.2.1 hb) (owns_later SLB8.out.2.2.2 hb))))
  have Sc_O19 := hid (And.intro (owns_later Sc_O18.out.1 hb) (And.intro (owns_later Sc_O18.out.2.1 hb) (And.intro (owns_later Sc_O18.out.2.2.1 hb) (owns_later Sc_O18.out.2.2.2 hb))))
  have Sc_O29 := hid (And.intro (owns_later Sc_O28.out.1 hb) (And.intro (owns_later Sc_O28.out.2.1 hb) (And.intro (owns_later Sc_O28.out.2.2.1 hb) (owns_later Sc_O28.out.2.2.2 hb))))
  have Sc_D9 := hid (And.intro (Sc_D8.out.1.later hb) (And.intro (Sc_D8.out.2.1.later hb) (And.intro (Sc_D8.out.2.2.1.later hb) (Sc_D8.out.2.2.2.later hb))))
  have Sn_O19 := hid (And.intro (owns_later Sn_O18.out.1 hb) (And.intro (owns_later Sn_O18.out.2.1 hb) (And.intro (owns_later Sn_O18.out.2.2.1 hb) (owns_later Sn_O18.out.2.2.2 hb))))
  clear HW8 HA8 HB8 HP8 HQ8 Hc_18 Hc_28 Hc_38 Gn_1 SRA8 SRB8 SLA8 SLB8 Sc_O18 Sc_O28 Sc_D8 Sn_O18
  obtain ⟨rfl, rfl, rfl, rfl, rfl, rfl, rfl⟩ := HTn_.out.one ht
  have Sn_O2 := hid ho
  have HIn_2 := hid (And.intro (kp4_of_cuts hc1 hc2) (And.intro (kg_within ho.1) (And.intro (kg_within ho.2.1) (And.intro (kg_within ho.2.2.1) (kg_within ho.2.2.2)))))
  clear hc1 hc2
  clear ho ht hb
  have Gn_2 := hid (Box.made W5 26 #[.bool n_s, .slice n_e2 n_z1.length n_k2, .slice n_f2 n_d1.length n_l2, .bool n_t, .slice n_p2 n_z2.length n_q2, .slice n_o2 n_d2.length n_r2])
  have Ln_2 := hid (alloc_later W5 (.cells #[.bool n_s, .slice n_e2 n_z1.length n_k2, .slice n_f2 n_d1.length n_l2, .bool n_t, .slice n_p2 n_z2.length n_q2, .slice n_o2 n_d2.length n_r2] 26))
  obtain ⟨Yn_2, hYn_2⟩ : ∃ Yn_2, W5.alloc (.cells #[.bool n_s, .slice n_e2 n_z1.length n_k2, .slice n_f2 n_d1.length n_l2, .bool n_t, .slice n_p2 n_z2.length n_q2, .slice n_o2 n_d2.length n_r2] 26) = Yn_2 := ⟨_, rfl⟩
  rw [hYn_2] at Gn_2 Ln_2
  have HW10 := hid (bt HW9.out Ln_2.out)
  have Z10 := hid (Below.size Ln_2.out)
  have HA10 := hid (HA9.out.later Ln_2.out HA9.out.lt)
  have HB10 := hid (HB9.out.later Ln_2.out HB9.out.lt)
  have HP10 := hid (HP9.out.later Ln_2.out HP9.out.lt)
  have HQ10 := hid (HQ9.out.later Ln_2.out HQ9.out.lt)
  have Hc_110 := hid (Hc_19.out.later Ln_2.out Hc_19.out.lt)
  have Hc_210 := hid (Hc_29.out.later Ln_2.out Hc_29.out.lt)
  have Hc_310 := hid (Hc_39.out.later Ln_2.out Hc_39.out.lt)
  have Hn_110 := hid (Hn_19.out.later Ln_2.out Hn_19.out.lt)
  have SRA10 := hid (And.intro (SRA9.out.1.later Ln_2.out) (And.intro (SRA9.out.2.1.later Ln_2.out) (And.intro (SRA9.out.2.2.1.later Ln_2.out) (SRA9.out.2.2.2.later Ln_2.out))))
  have SRB10 := hid (And.intro (SRB9.out.1.later Ln_2.out) (And.intro (SRB9.out.2.1.later Ln_2.out) (And.intro (SRB9.out.2.2.1.later Ln_2.out) (SRB9.out.2.2.2.later Ln_2.out))))
  have SLA10 := hid (And.intro (owns_later SLA9.out.1 Ln_2.out) (And.intro (owns_later SLA9.out.2.1 Ln_2.out) (And.intro (owns_later SLA9.out.2.2.1 Ln_2.out) (owns_later SLA9.out.2.2.2 Ln_2.out))))
  have SLB10 := hid (And.intro (owns_later SLB9.out.1 Ln_2.out) (And.intro (owns_later SLB9.out.2.1 Ln_2.out) (And.intro (owns_later SLB9.out.2.2.1 Ln_2.out) (owns_later SLB9.out.2.2.2 Ln_2.out))))
  have Sc_O110 := hid (And.intro (owns_later Sc_O19.out.1 Ln_2.out) (And.intro (owns_later Sc_O19.out.2.1 Ln_2.out) (And.intro (owns_later Sc_O19.out.2.2.1 Ln_2.out) (owns_later Sc_O19.out.2.2.2 Ln_2.out))))
  have Sc_O210 := hid (And.intro (owns_later Sc_O29.out.1 Ln_2.out) (And.intro (owns_later Sc_O29.out.2.1 Ln_2.out) (And.intro (owns_later Sc_O29.out.2.2.1 Ln_2.out) (owns_later Sc_O29.out.2.2.2 Ln_2.out))))
  have Sc_D10 := hid (And.intro (Sc_D9.out.1.later Ln_2.out) (And.intro (Sc_D9.out.2.1.later Ln_2.out) (And.intro (Sc_D9.out.2.2.1.later Ln_2.out) (Sc_D9.out.2.2.2.later Ln_2.out))))
  have Sn_O110 := hid (And.intro (owns_later Sn_O19.out.1 Ln_2.out) (And.intro (owns_later Sn_O19.out.2.1 Ln_2.out) (And.intro (owns_later Sn_O19.out.2.2.1 Ln_2.out) (owns_later Sn_O19.out.2.2.2 Ln_2.out))))
  have Sn_O210 := hid (And.intro (owns_later Sn_O2.out.1 Ln_2.out) (And.intro (owns_later Sn_O2.out.2.1 Ln_2.out) (And.intro (owns_later Sn_O2.out.2.2.1 Ln_2.out) (owns_later Sn_O2.out.2.2.2 Ln_2.out))))
  clear HW9 HA9 HB9 HP9 HQ9 Hc_19 Hc_29 Hc_39 Hn_19 SRA9 SRB9 SLA9 SLB9 Sc_O19 Sc_O29 Sc_D9 Sn_O19 Sn_O2
  have HC := hid (d4Neg_any n a ca xs b cb ys m c cc us d cd vs Yn_2 SRA10.out.1 SRA10.out.2.1 SRA10.out.2.2.1 SRA10.out.2.2.2 (by have := HLA.out.1.1; omega) (by have := HLA.out.1.2.1; omega) (by have := HLA.out.1.2.2.1; omega) (by have := HLA.out.1.2.2.2; omega))
  have clA_0 : Yn_2.cell? ⟨w.heap.size, 0, none⟩ = some (.bool n) := HA10.out.cell 0
  have clA_1 : Yn_2.cell? ⟨w.heap.size, 1, none⟩ = some (.slice a xs.length ca) := HA10.out.cell 1
  have clA_2 : Yn_2.cell? ⟨w.heap.size, 2, none⟩ = some (.slice b ys.length cb) := HA10.out.cell 2
  have clA_3 : Yn_2.cell? ⟨w.heap.size, 3, none⟩ = some (.bool m) := HA10.out.cell 3
  have clA_4 : Yn_2.cell? ⟨w.heap.size, 4, none⟩ = some (.slice c us.length cc) := HA10.out.cell 4
  have clA_5 : Yn_2.cell? ⟨w.heap.size, 5, none⟩ = some (.slice d vs.length cd) := HA10.out.cell 5
  go_wp2_with fail
  clear hYn_2
  refine Calls.mono HC.out ?_
  rintro e W6 ⟨s_, n_e3, n_k3, z1_, n_f3, n_l3, d1_, t_, n_p3, n_q3, z2_, n_o3, n_r3, d2_, u_, rfl, ho, ht, hb⟩
  clear clA_0 clA_1 clA_2 clA_3 clA_4 clA_5
  clear HC
  have HW11 := hid (bt HW10.out hb)
  have Z11 := hid (Below.size hb)
  have HA11 := hid (HA10.out.later hb HA10.out.lt)
  have HB11 := hid (HB10.out.later hb HB10.out.lt)
  have HP11 := hid (HP10.out.later hb HP10.out.lt)
  have HQ11 := hid (HQ10.out.later hb HQ10.out.lt)
  have Hc_111 := hid (Hc_110.out.later hb Hc_110.out.lt)
  have Hc_211 := hid (Hc_210.out.later hb Hc_210.out.lt)
  have Hc_311 := hid (Hc_310.out.later hb Hc_310.out.lt)
  have Hn_111 := hid (Hn_110.out.later hb Hn_110.out.lt)
  have Hn_211 := hid (Gn_2.out.later hb Gn_2.out.lt)
  have SRA11 := hid (And.intro (SRA10.out.1.later hb) (And.intro (SRA10.out.2.1.later hb) (And.intro (SRA10.out.2.2.1.later hb) (SRA10.out.2.2.2.later hb))))
  have SRB11 := hid (And.intro (SRB10.out.1.later hb) (And.intro (SRB10.out.2.1.later hb) (And.intro (SRB10.out.2.2.1.later hb) (SRB10.out.2.2.2.later hb))))
  have SLA11 := hid (And.intro (owns_later SLA10.out.1 hb) (And.intro (owns_later SLA10.out.2.1 hb) (And.intro (owns_later SLA10.out.2.2.1 hb) (owns_later SLA10.out.2.2.2 hb))))
  have SLB11 := hid (And.intro (owns_later SLB10.out.1 hb) (And.intro (owns_later SLB10.out.2.1 hb) (And.intro (owns_later SLB10.out.2.2.1 hb) (owns_later SLB10.out.2.2.2 hb))))
  have Sc_O111 := hid (And.intro (owns_later Sc_O110.out.1 hb) (And.intro (owns_later Sc_O110.out.2.1 hb) (And.intro (owns_later Sc_O110.out.2.2.1 hb) (owns_later Sc_O110.out.2.2.2 hb))))
  have Sc_O211 := hid (And.intro (owns_later Sc_O210.out.1 hb) (And.intro (owns_later Sc_O210.out.2.1 hb) (And.intro (owns_later Sc_O210.out.2.2.1 hb) (owns_later Sc_O210.out.2.2.2 hb))))
  have Sc_D11 := hid (And.intro (Sc_D10.out.1.later hb) (And.intro (Sc_D10.out.2.1.later hb) (And.intro (Sc_D10.out.2.2.1.later hb) (Sc_D10.out.2.2.2.later hb))))
  have Sn_O111 := hid (And.intro (owns_later Sn_O110.out.1 hb) (And.intro (owns_later Sn_O110.out.2.1 hb) (And.intro (owns_later Sn_O110.out.2.2.1 hb) (owns_later Sn_O110.out.2.2.2 hb))))
  have Sn_O211 := hid (And.intro (owns_later Sn_O210.out.1 hb) (And.intro (owns_later Sn_O210.out.2.1 hb) (And.intro (owns_later Sn_O210.out.2.2.1 hb) (owns_later Sn_O210.out.2.2.2 hb))))
  clear HW10 HA10 HB10 HP10 HQ10 Hc_110 Hc_210 Hc_310 Hn_110 Gn_2 SRA10 SRB10 SLA10 SLB10 Sc_O110 Sc_O210 Sc_D10 Sn_O110 Sn_O210
  obtain ⟨rfl, rfl, rfl, rfl, rfl, rfl, rfl⟩ := HTn_.out.one ht
  have Sn_D := hid ho
  clear ho ht hb
  have Gn_3 := hid (Box.made W6 26 #[.bool n_s, .slice n_e3 n_z1.length n_k3, .slice n_f3 n_d1.length n_l3, .bool n_t, .slice n_p3 n_z2.length n_q3, .slice n_o3 n_d2.length n_r3])
  have Ln_3 := hid (alloc_later W6 (.cells #[.bool n_s, .slice n_e3 n_z1.length n_k3, .slice n_f3 n_d1.length n_l3, .bool n_t, .slice n_p3 n_z2.length n_q3, .slice n_o3 n_d2.length n_r3] 26))
  obtain ⟨Yn_3, hYn_3⟩ : ∃ Yn_3, W6.alloc (.cells #[.bool n_s, .slice n_e3 n_z1.length n_k3, .slice n_f3 n_d1.length n_l3, .bool n_t, .slice n_p3 n_z2.length n_q3, .slice n_o3 n_d2.length n_r3] 26) = Yn_3 := ⟨_, rfl⟩
  rw [hYn_3] at Gn_3 Ln_3
  have HW12 := hid (bt HW11.out Ln_3.out)
  have Z12 := hid (Below.size Ln_3.out)
  have HA12 := hid (HA11.out.later Ln_3.out HA11.out.lt)
  have HB12 := hid (HB11.out.later Ln_3.out HB11.out.lt)
  have HP12 := hid (HP11.out.later Ln_3.out HP11.out.lt)
  have HQ12 := hid (HQ11.out.later Ln_3.out HQ11.out.lt)
  have Hc_112 := hid (Hc_111.out.later Ln_3.out Hc_111.out.lt)
  have Hc_212 := hid (Hc_211.out.later Ln_3.out Hc_211.out.lt)
  have Hc_312 := hid (Hc_311.out.later Ln_3.out Hc_311.out.lt)
  have Hn_112 := hid (Hn_111.out.later Ln_3.out Hn_111.out.lt)
  have Hn_212 := hid (Hn_211.out.later Ln_3.out Hn_211.out.lt)
  have SRA12 := hid (And.intro (SRA11.out.1.later Ln_3.out) (And.intro (SRA11.out.2.1.later Ln_3.out) (And.intro (SRA11.out.2.2.1.later Ln_3.out) (SRA11.out.2.2.2.later Ln_3.out))))
  have SRB12 := hid (And.intro (SRB11.out.1.later Ln_3.out) (And.intro (SRB11.out.2.1.later Ln_3.out) (And.intro (SRB11.out.2.2.1.later Ln_3.out) (SRB11.out.2.2.2.later Ln_3.out))))
  have SLA12 := hid (And.intro (owns_later SLA11.out.1 Ln_3.out) (And.intro (owns_later SLA11.out.2.1 Ln_3.out) (And.intro (owns_later SLA11.out.2.2.1 Ln_3.out) (owns_later SLA11.out.2.2.2 Ln_3.out))))
  have SLB12 := hid (And.intro (owns_later SLB11.out.1 Ln_3.out) (And.intro (owns_later SLB11.out.2.1 Ln_3.out) (And.intro (owns_later SLB11.out.2.2.1 Ln_3.out) (owns_later SLB11.out.2.2.2 Ln_3.out))))
  have Sc_O112 := hid (And.intro (owns_later Sc_O111.out.1 Ln_3.out) (And.intro (owns_later Sc_O111.out.2.1 Ln_3.out) (And.intro (owns_later Sc_O111.out.2.2.1 Ln_3.out) (owns_later Sc_O111.out.2.2.2 Ln_3.out))))
  have Sc_O212 := hid (And.intro (owns_later Sc_O211.out.1 Ln_3.out) (And.intro (owns_later Sc_O211.out.2.1 Ln_3.out) (And.intro (owns_later Sc_O211.out.2.2.1 Ln_3.out) (owns_later Sc_O211.out.2.2.2 Ln_3.out))))
  have Sc_D12 := hid (And.intro (Sc_D11.out.1.later Ln_3.out) (And.intro (Sc_D11.out.2.1.later Ln_3.out) (And.intro (Sc_D11.out.2.2.1.later Ln_3.out) (Sc_D11.out.2.2.2.later Ln_3.out))))
  have Sn_O112 := hid (And.intro (owns_later Sn_O111.out.1 Ln_3.out) (And.intro (owns_later Sn_O111.out.2.1 Ln_3.out) (And.intro (owns_later Sn_O111.out.2.2.1 Ln_3.out) (owns_later Sn_O111.out.2.2.2 Ln_3.out))))
  have Sn_O212 := hid (And.intro (owns_later Sn_O211.out.1 Ln_3.out) (And.intro (owns_later Sn_O211.out.2.1 Ln_3.out) (And.intro (owns_later Sn_O211.out.2.2.1 Ln_3.out) (owns_later Sn_O211.out.2.2.2 Ln_3.out))))
  have Sn_D12 := hid (And.intro (Sn_D.out.1.later Ln_3.out) (And.intro (Sn_D.out.2.1.later Ln_3.out) (And.intro (Sn_D.out.2.2.1.later Ln_3.out) (Sn_D.out.2.2.2.later Ln_3.out))))
  clear HW11 HA11 HB11 HP11 HQ11 Hc_111 Hc_211 Hc_311 Hn_111 Hn_211 SRA11 SRB11 SLA11 SLB11 Sc_O111 Sc_O211 Sc_D11 Sn_O111 Sn_O211 Sn_D
  have HC := hid (gNorm_cut n (some ⟨g1, 0, none⟩) cg1 xs (some ⟨g2, 0, none⟩) cg2 ys m (some ⟨g3, 0, none⟩) cg3 us (some ⟨g4, 0, none⟩) cg4 vs Yn_3 (Sl.own (klentf SLA12.out.1) HWA.out.1) (Sl.own (klentf SLA12.out.2.1) HWA.out.2.1) (Sl.own (klentf SLA12.out.2.2.1) HWA.out.2.2.1) (Sl.own (klentf SLA12.out.2.2.2) HWA.out.2.2.2))
  have clP_0 : Yn_3.cell? ⟨p, 0, none⟩ = some (.bool n) := HP12.out.cell 0
  have clP_1 : Yn_3.cell? ⟨p, 1, none⟩ = some (.slice (some ⟨g1, 0, none⟩) xs.length cg1) := HP12.out.cell 1
  have clP_2 : Yn_3.cell? ⟨p, 2, none⟩ = some (.slice (some ⟨g2, 0, none⟩) ys.length cg2) := HP12.out.cell 2
  have clP_3 : Yn_3.cell? ⟨p, 3, none⟩ = some (.bool m) := HP12.out.cell 3
  have clP_4 : Yn_3.cell? ⟨p, 4, none⟩ = some (.slice (some ⟨g3, 0, none⟩) us.length cg3) := HP12.out.cell 4
  have clP_5 : Yn_3.cell? ⟨p, 5, none⟩ = some (.slice (some ⟨g4, 0, none⟩) vs.length cg4) := HP12.out.cell 5
  go_wp2_with fail
  clear hYn_3
  refine Calls.mono HC.out ?_
  rintro e W7 ⟨n1_, x1_, y1_, c1_, n2_, x2_, y2_, c2_, t1, t2, ms, me1, mk1, mz, mf1, ml1, md, mu, rfl, ho, ht, hb, hc⟩
  clear clP_0 clP_1 clP_2 clP_3 clP_4 clP_5
  clear HC
  have HW13 := hid (bt HW12.out hb)
  have Z13 := hid (Below.size hb)
  have HA13 := hid (HA12.out.later hb HA12.out.lt)
  have HB13 := hid (HB12.out.later hb HB12.out.lt)
  have HP13 := hid (HP12.out.later hb HP12.out.lt)
  have HQ13 := hid (HQ12.out.later hb HQ12.out.lt)
  have Hc_113 := hid (Hc_112.out.later hb Hc_112.out.lt)
  have Hc_213 := hid (Hc_212.out.later hb Hc_212.out.lt)
  have Hc_313 := hid (Hc_312.out.later hb Hc_312.out.lt)
  have Hn_113 := hid (Hn_112.out.later hb Hn_112.out.lt)
  have Hn_213 := hid (Hn_212.out.later hb Hn_212.out.lt)
  have Hn_313 := hid (Gn_3.out.later hb Gn_3.out.lt)
  have SRA13 := hid (And.intro (SRA12.out.1.later hb) (And.intro (SRA12.out.2.1.later hb) (And.intro (SRA12.out.2.2.1.later hb) (SRA12.out.2.2.2.later hb))))
  have SRB13 := hid (And.intro (SRB12.out.1.later hb) (And.intro (SRB12.out.2.1.later hb) (And.intro (SRB12.out.2.2.1.later hb) (SRB12.out.2.2.2.later hb))))
  have SLA13 := hid (And.intro (owns_later SLA12.out.1 hb) (And.intro (owns_later SLA12.out.2.1 hb) (And.intro (owns_later SLA12.out.2.2.1 hb) (owns_later SLA12.out.2.2.2 hb))))
  have SLB13 := hid (And.intro (owns_later SLB12.out.1 hb) (And.intro (owns_later SLB12.out.2.1 hb) (And.intro (owns_later SLB12.out.2.2.1 hb) (owns_later SLB12.out.2.2.2 hb))))
  have Sc_O113 := hid (And.intro (owns_later Sc_O112.out.1 hb) (And.intro (owns_later Sc_O112.out.2.1 hb) (And.intro (owns_later Sc_O112.out.2.2.1 hb) (owns_later Sc_O112.out.2.2.2 hb))))
  have Sc_O213 := hid (And.intro (owns_later Sc_O212.out.1 hb) (And.intro (owns_later Sc_O212.out.2.1 hb) (And.intro (owns_later Sc_O212.out.2.2.1 hb) (owns_later Sc_O212.out.2.2.2 hb))))
  have Sc_D13 := hid (And.intro (Sc_D12.out.1.later hb) (And.intro (Sc_D12.out.2.1.later hb) (And.intro (Sc_D12.out.2.2.1.later hb) (Sc_D12.out.2.2.2.later hb))))
  have Sn_O113 := hid (And.intro (owns_later Sn_O112.out.1 hb) (And.intro (owns_later Sn_O112.out.2.1 hb) (And.intro (owns_later Sn_O112.out.2.2.1 hb) (owns_later Sn_O112.out.2.2.2 hb))))
  have Sn_O213 := hid (And.intro (owns_later Sn_O212.out.1 hb) (And.intro (owns_later Sn_O212.out.2.1 hb) (And.intro (owns_later Sn_O212.out.2.2.1 hb) (owns_later Sn_O212.out.2.2.2 hb))))
  have Sn_D13 := hid (And.intro (Sn_D12.out.1.later hb) (And.intro (Sn_D12.out.2.1.later hb) (And.intro (Sn_D12.out.2.2.1.later hb) (Sn_D12.out.2.2.2.later hb))))
  clear HW12 HA12 HB12 HP12 HQ12 Hc_112 Hc_212 Hc_312 Hn_112 Hn_212 Gn_3 SRA12 SRB12 SLA12 SLB12 Sc_O112 Sc_O212 Sc_D12 Sn_O112 Sn_O212 Sn_D12
  have HTm : Hid (PrT false (gchk n xs ys m us vs) (rboth n xs ys n xs ys) (rq n xs ys * rq n xs ys) (rboth m us vs m us vs) (rq m us vs * rq m us vs) ms mz md mu) := ⟨_, _, _, _, _, _, _, _, t1, t2, ht⟩
  have HWm := hid (And.intro ht.wx ht.wy)
  have HLm := hid (And.intro (kp_len ht) (kp_len2 ht))
  have HGm := hid (And.intro (kpq_len ht) (kpq_len2 ht))
  have SmO1 := hid ho
  have HIm1 := hid (And.intro (kp_of_cut hc) (And.intro (kg_within ho.1) (kg_within ho.2)))
  clear hc t1 t2
  clear ho ht hb
  have Gm1 := hid (Box.made W7 24 #[.bool ms, .slice me1 mz.length mk1, .slice mf1 md.length ml1])
  have Lm1 := hid (alloc_later W7 (.cells #[.bool ms, .slice me1 mz.length mk1, .slice mf1 md.length ml1] 24))
  obtain ⟨Ym1, hYm1⟩ : ∃ Ym1, W7.alloc (.cells #[.bool ms, .slice me1 mz.length mk1, .slice mf1 md.length ml1] 24) = Ym1 := ⟨_, rfl⟩
  rw [hYm1] at Gm1 Lm1
  have HW14 := hid (bt HW13.out Lm1.out)
  have Z14 := hid (Below.size Lm1.out)
  have HA14 := hid (HA13.out.later Lm1.out HA13.out.lt)
  have HB14 := hid (HB13.out.later Lm1.out HB13.out.lt)
  have HP14 := hid (HP13.out.later Lm1.out HP13.out.lt)
  have HQ14 := hid (HQ13.out.later Lm1.out HQ13.out.lt)
  have Hc_114 := hid (Hc_113.out.later Lm1.out Hc_113.out.lt)
  have Hc_214 := hid (Hc_213.out.later Lm1.out Hc_213.out.lt)
  have Hc_314 := hid (Hc_313.out.later Lm1.out Hc_313.out.lt)
  have Hn_114 := hid (Hn_113.out.later Lm1.out Hn_113.out.lt)
  have Hn_214 := hid (Hn_213.out.later Lm1.out Hn_213.out.lt)
  have Hn_314 := hid (Hn_313.out.later Lm1.out Hn_313.out.lt)
  have SRA14 := hid (And.intro (SRA13.out.1.later Lm1.out) (And.intro (SRA13.out.2.1.later Lm1.out) (And.intro (SRA13.out.2.2.1.later Lm1.out) (SRA13.out.2.2.2.later Lm1.out))))
  have SRB14 := hid (And.intro (SRB13.out.1.later Lm1.out) (And.intro (SRB13.out.2.1.later Lm1.out) (And.intro (SRB13.out.2.2.1.later Lm1.out) (SRB13.out.2.2.2.later Lm1.out))))
  have SLA14 := hid (And.intro (owns_later SLA13.out.1 Lm1.out) (And.intro (owns_later SLA13.out.2.1 Lm1.out) (And.intro (owns_later SLA13.out.2.2.1 Lm1.out) (owns_later SLA13.out.2.2.2 Lm1.out))))
  have SLB14 := hid (And.intro (owns_later SLB13.out.1 Lm1.out) (And.intro (owns_later SLB13.out.2.1 Lm1.out) (And.intro (owns_later SLB13.out.2.2.1 Lm1.out) (owns_later SLB13.out.2.2.2 Lm1.out))))
  have Sc_O114 := hid (And.intro (owns_later Sc_O113.out.1 Lm1.out) (And.intro (owns_later Sc_O113.out.2.1 Lm1.out) (And.intro (owns_later Sc_O113.out.2.2.1 Lm1.out) (owns_later Sc_O113.out.2.2.2 Lm1.out))))
  have Sc_O214 := hid (And.intro (owns_later Sc_O213.out.1 Lm1.out) (And.intro (owns_later Sc_O213.out.2.1 Lm1.out) (And.intro (owns_later Sc_O213.out.2.2.1 Lm1.out) (owns_later Sc_O213.out.2.2.2 Lm1.out))))
  have Sc_D14 := hid (And.intro (Sc_D13.out.1.later Lm1.out) (And.intro (Sc_D13.out.2.1.later Lm1.out) (And.intro (Sc_D13.out.2.2.1.later Lm1.out) (Sc_D13.out.2.2.2.later Lm1.out))))
  have Sn_O114 := hid (And.intro (owns_later Sn_O113.out.1 Lm1.out) (And.intro (owns_later Sn_O113.out.2.1 Lm1.out) (And.intro (owns_later Sn_O113.out.2.2.1 Lm1.out) (owns_later Sn_O113.out.2.2.2 Lm1.out))))
  have Sn_O214 := hid (And.intro (owns_later Sn_O213.out.1 Lm1.out) (And.intro (owns_later Sn_O213.out.2.1 Lm1.out) (And.intro (owns_later Sn_O213.out.2.2.1 Lm1.out) (owns_later Sn_O213.out.2.2.2 Lm1.out))))
  have Sn_D14 := hid (And.intro (Sn_D13.out.1.later Lm1.out) (And.intro (Sn_D13.out.2.1.later Lm1.out) (And.intro (Sn_D13.out.2.2.1.later Lm1.out) (Sn_D13.out.2.2.2.later Lm1.out))))
  clear HW13 HA13 HB13 HP13 HQ13 Hc_113 Hc_213 Hc_313 Hn_113 Hn_213 Hn_313 SRA13 SRB13 SLA13 SLB13 Sc_O113 Sc_O213 Sc_D13 Sn_O113 Sn_O213 Sn_D13
  have SmO114 := hid (And.intro (owns_later SmO1.out.1 Lm1.out) (owns_later SmO1.out.2 Lm1.out))
  clear SmO1
  have HC := hid (gNorm_cut n (some ⟨g1, 0, none⟩) cg1 xs (some ⟨g2, 0, none⟩) cg2 ys m (some ⟨g3, 0, none⟩) cg3 us (some ⟨g4, 0, none⟩) cg4 vs Ym1 (Sl.own (klentf SLA14.out.1) HWA.out.1) (Sl.own (klentf SLA14.out.2.1) HWA.out.2.1) (Sl.own (klentf SLA14.out.2.2.1) HWA.out.2.2.1) (Sl.own (klentf SLA14.out.2.2.2) HWA.out.2.2.2))
  have clP_0 : Ym1.cell? ⟨p, 0, none⟩ = some (.bool n) := HP14.out.cell 0
  have clP_1 : Ym1.cell? ⟨p, 1, none⟩ = some (.slice (some ⟨g1, 0, none⟩) xs.length cg1) := HP14.out.cell 1
  have clP_2 : Ym1.cell? ⟨p, 2, none⟩ = some (.slice (some ⟨g2, 0, none⟩) ys.length cg2) := HP14.out.cell 2
  have clP_3 : Ym1.cell? ⟨p, 3, none⟩ = some (.bool m) := HP14.out.cell 3
  have clP_4 : Ym1.cell? ⟨p, 4, none⟩ = some (.slice (some ⟨g3, 0, none⟩) us.length cg3) := HP14.out.cell 4
  have clP_5 : Ym1.cell? ⟨p, 5, none⟩ = some (.slice (some ⟨g4, 0, none⟩) vs.length cg4) := HP14.out.cell 5
  go_wp2_with fail
  clear hYm1
  refine Calls.mono HC.out ?_
  rintro e W8 ⟨n1_, x1_, y1_, c1_, n2_, x2_, y2_, c2_, t1, t2, s_, me2, mk2, z_, mf2, ml2, d_, u_, rfl, ho, ht, hb, hc⟩
  clear clP_0 clP_1 clP_2 clP_3 clP_4 clP_5
  clear HC
  have HW15 := hid (bt HW14.out hb)
  have Z15 := hid (Below.size hb)
  have HA15 := hid (HA14.out.later hb HA14.out.lt)
  have HB15 := hid (HB14.out.later hb HB14.out.lt)
  have HP15 := hid (HP14.out.later hb HP14.out.lt)
  have HQ15 := hid (HQ14.out.later hb HQ14.out.lt)
  have Hc_115 := hid (Hc_114.out.later hb Hc_114.out.lt)
  have Hc_215 := hid (Hc_214.out.later hb Hc_214.out.lt)
  have Hc_315 := hid (Hc_314.out.later hb Hc_314.out.lt)
  have Hn_115 := hid (Hn_114.out.later hb Hn_114.out.lt)
  have Hn_215 := hid (Hn_214.out.later hb Hn_214.out.lt)
  have Hn_315 := hid (Hn_314.out.later hb Hn_314.out.lt)
  have Hm115 := hid (Gm1.out.later hb Gm1.out.lt)
  have SRA15 := hid (And.intro (SRA14.out.1.later hb) (And.intro (SRA14.out.2.1.later hb) (And.intro (SRA14.out.2.2.1.later hb) (SRA14.out.2.2.2.later hb))))
  have SRB15 := hid (And.intro (SRB14.out.1.later hb) (And.intro (SRB14.out.2.1.later hb) (And.intro (SRB14.out.2.2.1.later hb) (SRB14.out.2.2.2.later hb))))
  have SLA15 := hid (And.intro (owns_later SLA14.out.1 hb) (And.intro (owns_later SLA14.out.2.1 hb) (And.intro (owns_later SLA14.out.2.2.1 hb) (owns_later SLA14.out.2.2.2 hb))))
  have SLB15 := hid (And.intro (owns_later SLB14.out.1 hb) (And.intro (owns_later SLB14.out.2.1 hb) (And.intro (owns_later SLB14.out.2.2.1 hb) (owns_later SLB14.out.2.2.2 hb))))
  have Sc_O115 := hid (And.intro (owns_later Sc_O114.out.1 hb) (And.intro (owns_later Sc_O114.out.2.1 hb) (And.intro (owns_later Sc_O114.out.2.2.1 hb) (owns_later Sc_O114.out.2.2.2 hb))))
  have Sc_O215 := hid (And.intro (owns_later Sc_O214.out.1 hb) (And.intro (owns_later Sc_O214.out.2.1 hb) (And.intro (owns_later Sc_O214.out.2.2.1 hb) (owns_later Sc_O214.out.2.2.2 hb))))
  have Sc_D15 := hid (And.intro (Sc_D14.out.1.later hb) (And.intro (Sc_D14.out.2.1.later hb) (And.intro (Sc_D14.out.2.2.1.later hb) (Sc_D14.out.2.2.2.later hb))))
  have Sn_O115 := hid (And.intro (owns_later Sn_O114.out.1 hb) (And.intro (owns_later Sn_O114.out.2.1 hb) (And.intro (owns_later Sn_O114.out.2.2.1 hb) (owns_later Sn_O114.out.2.2.2 hb))))
  have Sn_O215 := hid (And.intro (owns_later Sn_O214.out.1 hb) (And.intro (owns_later Sn_O214.out.2.1 hb) (And.intro (owns_later Sn_O214.out.2.2.1 hb) (owns_later Sn_O214.out.2.2.2 hb))))
  have Sn_D15 := hid (And.intro (Sn_D14.out.1.later hb) (And.intro (Sn_D14.out.2.1.later hb) (And.intro (Sn_D14.out.2.2.1.later hb) (Sn_D14.out.2.2.2.later hb))))
  clear HW14 HA14 HB14 HP14 HQ14 Hc_114 Hc_214 Hc_314 Hn_114 Hn_214 Hn_314 Gm1 SRA14 SRB14 SLA14 SLB14 Sc_O114 Sc_O214 Sc_D14 Sn_O114 Sn_O214 Sn_D14
  have SmO115 := hid (And.intro (owns_later SmO114.out.1 hb) (owns_later SmO114.out.2 hb))
  clear SmO114
  obtain ⟨rfl, rfl, rfl, rfl⟩ := HTm.out.one ⟨_, _, _, _, _, _, _, _, t1, t2, ht⟩
  have SmO2 := hid ho
  have HIm2 := hid (And.intro (kp_of_cut hc) (And.intro (kg_within ho.1) (kg_within ho.2)))
  clear hc t1 t2
  clear ho ht hb
  have Gm2 := hid (Box.made W8 24 #[.bool ms, .slice me2 mz.length mk2, .slice mf2 md.length ml2])
  have Lm2 := hid (alloc_later W8 (.cells #[.bool ms, .slice me2 mz.length mk2, .slice mf2 md.length ml2] 24))
  obtain ⟨Ym2, hYm2⟩ : ∃ Ym2, W8.alloc (.cells #[.bool ms, .slice me2 mz.length mk2, .slice mf2 md.length ml2] 24) = Ym2 := ⟨_, rfl⟩
  rw [hYm2] at Gm2 Lm2
  have HW16 := hid (bt HW15.out Lm2.out)
  have Z16 := hid (Below.size Lm2.out)
  have HA16 := hid (HA15.out.later Lm2.out HA15.out.lt)
  have HB16 := hid (HB15.out.later Lm2.out HB15.out.lt)
  have HP16 := hid (HP15.out.later Lm2.out HP15.out.lt)
  have HQ16 := hid (HQ15.out.later Lm2.out HQ15.out.lt)
  have Hc_116 := hid (Hc_115.out.later Lm2.out Hc_115.out.lt)
  have Hc_216 := hid (Hc_215.out.later Lm2.out Hc_215.out.lt)
  have Hc_316 := hid (Hc_315.out.later Lm2.out Hc_315.out.lt)
  have Hn_116 := hid (Hn_115.out.later Lm2.out Hn_115.out.lt)
  have Hn_216 := hid (Hn_215.out.later Lm2.out Hn_215.out.lt)
  have Hn_316 := hid (Hn_315.out.later Lm2.out Hn_315.out.lt)
  have Hm116 := hid (Hm115.out.later Lm2.out Hm115.out.lt)
  have SRA16 := hid (And.intro (SRA15.out.1.later Lm2.out) (And.intro (SRA15.out.2.1.later Lm2.out) (And.intro (SRA15.out.2.2.1.later Lm2.out) (SRA15.out.2.2.2.later Lm2.out))))
  have SRB16 := hid (And.intro (SRB15.out.1.later Lm2.out) (And.intro (SRB15.out.2.1.later Lm2.out) (And.intro (SRB15.out.2.2.1.later Lm2.out) (SRB15.out.2.2.2.later Lm2.out))))
  have SLA16 := hid (And.intro (owns_later SLA15.out.1 Lm2.out) (And.intro (owns_later SLA15.out.2.1 Lm2.out) (And.intro (owns_later SLA15.out.2.2.1 Lm2.out) (owns_later SLA15.out.2.2.2 Lm2.out))))
  have SLB16 := hid (And.intro (owns_later SLB15.out.1 Lm2.out) (And.intro (owns_later SLB15.out.2.1 Lm2.out) (And.intro (owns_later SLB15.out.2.2.1 Lm2.out) (owns_later SLB15.out.2.2.2 Lm2.out))))
  have Sc_O116 := hid (And.intro (owns_later Sc_O115.out.1 Lm2.out) (And.intro (owns_later Sc_O115.out.2.1 Lm2.out) (And.intro (owns_later Sc_O115.out.2.2.1 Lm2.out) (owns_later Sc_O115.out.2.2.2 Lm2.out))))
  have Sc_O216 := hid (And.intro (owns_later Sc_O215.out.1 Lm2.out) (And.intro (owns_later Sc_O215.out.2.1 Lm2.out) (And.intro (owns_later Sc_O215.out.2.2.1 Lm2.out) (owns_later Sc_O215.out.2.2.2 Lm2.out))))
  have Sc_D16 := hid (And.intro (Sc_D15.out.1.later Lm2.out) (And.intro (Sc_D15.out.2.1.later Lm2.out) (And.intro (Sc_D15.out.2.2.1.later Lm2.out) (Sc_D15.out.2.2.2.later Lm2.out))))
  have Sn_O116 := hid (And.intro (owns_later Sn_O115.out.1 Lm2.out) (And.intro (owns_later Sn_O115.out.2.1 Lm2.out) (And.intro (owns_later Sn_O115.out.2.2.1 Lm2.out) (owns_later Sn_O115.out.2.2.2 Lm2.out))))
  have Sn_O216 := hid (And.intro (owns_later Sn_O215.out.1 Lm2.out) (And.intro (owns_later Sn_O215.out.2.1 Lm2.out) (And.intro (owns_later Sn_O215.out.2.2.1 Lm2.out) (owns_later Sn_O215.out.2.2.2 Lm2.out))))
  have Sn_D16 := hid (And.intro (Sn_D15.out.1.later Lm2.out) (And.intro (Sn_D15.out.2.1.later Lm2.out) (And.intro (Sn_D15.out.2.2.1.later Lm2.out) (Sn_D15.out.2.2.2.later Lm2.out))))
  clear HW15 HA15 HB15 HP15 HQ15 Hc_115 Hc_215 Hc_315 Hn_115 Hn_215 Hn_315 Hm115 SRA15 SRB15 SLA15 SLB15 Sc_O115 Sc_O215 Sc_D15 Sn_O115 Sn_O215 Sn_D15
  have SmO116 := hid (And.intro (owns_later SmO115.out.1 Lm2.out) (owns_later SmO115.out.2 Lm2.out))
  clear SmO115
  have SmO216 := hid (And.intro (owns_later SmO2.out.1 Lm2.out) (owns_later SmO2.out.2 Lm2.out))
  clear SmO2
  have HC := hid (d4Norm_any n a ca xs b cb ys m c cc us d cd vs Ym2 SRA16.out.1 SRA16.out.2.1 SRA16.out.2.2.1 SRA16.out.2.2.2 (by have := HLA.out.1.1; omega) (by have := HLA.out.1.2.1; omega) (by have := HLA.out.1.2.2.1; omega) (by have := HLA.out.1.2.2.2; omega))
  have clA_0 : Ym2.cell? ⟨w.heap.size, 0, none⟩ = some (.bool n) := HA16.out.cell 0
  have clA_1 : Ym2.cell? ⟨w.heap.size, 1, none⟩ = some (.slice a xs.length ca) := HA16.out.cell 1
  have clA_2 : Ym2.cell? ⟨w.heap.size, 2, none⟩ = some (.slice b ys.length cb) := HA16.out.cell 2
  have clA_3 : Ym2.cell? ⟨w.heap.size, 3, none⟩ = some (.bool m) := HA16.out.cell 3
  have clA_4 : Ym2.cell? ⟨w.heap.size, 4, none⟩ = some (.slice c us.length cc) := HA16.out.cell 4
  have clA_5 : Ym2.cell? ⟨w.heap.size, 5, none⟩ = some (.slice d vs.length cd) := HA16.out.cell 5
  go_wp2_with fail
  clear hYm2
  refine Calls.mono HC.out ?_
  rintro e W9 ⟨s_, me3, mk3, z_, mf3, ml3, d_, u_, rfl, ho, hwd_, ht, hb⟩
  clear clA_0 clA_1 clA_2 clA_3 clA_4 clA_5
  clear HC
  have HW17 := hid (bt HW16.out hb)
  have Z17 := hid (Below.size hb)
  have HA17 := hid (HA16.out.later hb HA16.out.lt)
  have HB17 := hid (HB16.out.later hb HB16.out.lt)
  have HP17 := hid (HP16.out.later hb HP16.out.lt)
  have HQ17 := hid (HQ16.out.later hb HQ16.out.lt)
  have Hc_117 := hid (Hc_116.out.later hb Hc_116.out.lt)
  have Hc_217 := hid (Hc_216.out.later hb Hc_216.out.lt)
  have Hc_317 := hid (Hc_316.out.later hb Hc_316.out.lt)
  have Hn_117 := hid (Hn_116.out.later hb Hn_116.out.lt)
  have Hn_217 := hid (Hn_216.out.later hb Hn_216.out.lt)
  have Hn_317 := hid (Hn_316.out.later hb Hn_316.out.lt)
  have Hm117 := hid (Hm116.out.later hb Hm116.out.lt)
  have Hm217 := hid (Gm2.out.later hb Gm2.out.lt)
  have SRA17 := hid (And.intro (SRA16.out.1.later hb) (And.intro (SRA16.out.2.1.later hb) (And.intro (SRA16.out.2.2.1.later hb) (SRA16.out.2.2.2.later hb))))
  have SRB17 := hid (And.intro (SRB16.out.1.later hb) (And.intro (SRB16.out.2.1.later hb) (And.intro (SRB16.out.2.2.1.later hb) (SRB16.out.2.2.2.later hb))))
  have SLA17 := hid (And.intro (owns_later SLA16.out.1 hb) (And.intro (owns_later SLA16.out.2.1 hb) (And.intro (owns_later SLA16.out.2.2.1 hb) (owns_later SLA16.out.2.2.2 hb))))
  have SLB17 := hid (And.intro (owns_later SLB16.out.1 hb) (And.intro (owns_later SLB16.out.2.1 hb) (And.intro (owns_later SLB16.out.2.2.1 hb) (owns_later SLB16.out.2.2.2 hb))))
  have Sc_O117 := hid (And.intro (owns_later Sc_O116.out.1 hb) (And.intro (owns_later Sc_O116.out.2.1 hb) (And.intro (owns_later Sc_O116.out.2.2.1 hb) (owns_later Sc_O116.out.2.2.2 hb))))
  have Sc_O217 := hid (And.intro (owns_later Sc_O216.out.1 hb) (And.intro (owns_later Sc_O216.out.2.1 hb) (And.intro (owns_later Sc_O216.out.2.2.1 hb) (owns_later Sc_O216.out.2.2.2 hb))))
  have Sc_D17 := hid (And.intro (Sc_D16.out.1.later hb) (And.intro (Sc_D16.out.2.1.later hb) (And.intro (Sc_D16.out.2.2.1.later hb) (Sc_D16.out.2.2.2.later hb))))
  have Sn_O117 := hid (And.intro (owns_later Sn_O116.out.1 hb) (And.intro (owns_later Sn_O116.out.2.1 hb) (And.intro (owns_later Sn_O116.out.2.2.1 hb) (owns_later Sn_O116.out.2.2.2 hb))))
  have Sn_O217 := hid (And.intro (owns_later Sn_O216.out.1 hb) (And.intro (owns_later Sn_O216.out.2.1 hb) (And.intro (owns_later Sn_O216.out.2.2.1 hb) (owns_later Sn_O216.out.2.2.2 hb))))
  have Sn_D17 := hid (And.intro (Sn_D16.out.1.later hb) (And.intro (Sn_D16.out.2.1.later hb) (And.intro (Sn_D16.out.2.2.1.later hb) (Sn_D16.out.2.2.2.later hb))))
  clear HW16 HA16 HB16 HP16 HQ16 Hc_116 Hc_216 Hc_316 Hn_116 Hn_216 Hn_316 Hm116 Gm2 SRA16 SRB16 SLA16 SLB16 Sc_O116 Sc_O216 Sc_D16 Sn_O116 Sn_O216 Sn_D16
  have SmO117 := hid (And.intro (owns_later SmO116.out.1 hb) (owns_later SmO116.out.2 hb))
  clear SmO116
  have SmO217 := hid (And.intro (owns_later SmO216.out.1 hb) (owns_later SmO216.out.2 hb))
  clear SmO216
  obtain ⟨rfl, rfl, rfl, rfl⟩ := HTm.out.one ht
  have SmO3 := hid ho
  clear ho ht hb hwd_
  have Gm3 := hid (Box.made W9 24 #[.bool ms, .slice me3 mz.length mk3, .slice mf3 md.length ml3])
  have Lm3 := hid (alloc_later W9 (.cells #[.bool ms, .slice me3 mz.length mk3, .slice mf3 md.length ml3] 24))
  obtain ⟨Ym3, hYm3⟩ : ∃ Ym3, W9.alloc (.cells #[.bool ms, .slice me3 mz.length mk3, .slice mf3 md.length ml3] 24) = Ym3 := ⟨_, rfl⟩
  rw [hYm3] at Gm3 Lm3
  have HW18 := hid (bt HW17.out Lm3.out)
  have Z18 := hid (Below.size Lm3.out)
  have HA18 := hid (HA17.out.later Lm3.out HA17.out.lt)
  have HB18 := hid (HB17.out.later Lm3.out HB17.out.lt)
  have HP18 := hid (HP17.out.later Lm3.out HP17.out.lt)
  have HQ18 := hid (HQ17.out.later Lm3.out HQ17.out.lt)
  have Hc_118 := hid (Hc_117.out.later Lm3.out Hc_117.out.lt)
  have Hc_218 := hid (Hc_217.out.later Lm3.out Hc_217.out.lt)
  have Hc_318 := hid (Hc_317.out.later Lm3.out Hc_317.out.lt)
  have Hn_118 := hid (Hn_117.out.later Lm3.out Hn_117.out.lt)
  have Hn_218 := hid (Hn_217.out.later Lm3.out Hn_217.out.lt)
  have Hn_318 := hid (Hn_317.out.later Lm3.out Hn_317.out.lt)
  have Hm118 := hid (Hm117.out.later Lm3.out Hm117.out.lt)
  have Hm218 := hid (Hm217.out.later Lm3.out Hm217.out.lt)
  have SRA18 := hid (And.intro (SRA17.out.1.later Lm3.out) (And.intro (SRA17.out.2.1.later Lm3.out) (And.intro (SRA17.out.2.2.1.later Lm3.out) (SRA17.out.2.2.2.later Lm3.out))))
  have SRB18 := hid (And.intro (SRB17.out.1.later Lm3.out) (And.intro (SRB17.out.2.1.later Lm3.out) (And.intro (SRB17.out.2.2.1.later Lm3.out) (SRB17.out.2.2.2.later Lm3.out))))
  have SLA18 := hid (And.intro (owns_later SLA17.out.1 Lm3.out) (And.intro (owns_later SLA17.out.2.1 Lm3.out) (And.intro (owns_later SLA17.out.2.2.1 Lm3.out) (owns_later SLA17.out.2.2.2 Lm3.out))))
  have SLB18 := hid (And.intro (owns_later SLB17.out.1 Lm3.out) (And.intro (owns_later SLB17.out.2.1 Lm3.out) (And.intro (owns_later SLB17.out.2.2.1 Lm3.out) (owns_later SLB17.out.2.2.2 Lm3.out))))
  have Sc_O118 := hid (And.intro (owns_later Sc_O117.out.1 Lm3.out) (And.intro (owns_later Sc_O117.out.2.1 Lm3.out) (And.intro (owns_later Sc_O117.out.2.2.1 Lm3.out) (owns_later Sc_O117.out.2.2.2 Lm3.out))))
  have Sc_O218 := hid (And.intro (owns_later Sc_O217.out.1 Lm3.out) (And.intro (owns_later Sc_O217.out.2.1 Lm3.out) (And.intro (owns_later Sc_O217.out.2.2.1 Lm3.out) (owns_later Sc_O217.out.2.2.2 Lm3.out))))
  have Sc_D18 := hid (And.intro (Sc_D17.out.1.later Lm3.out) (And.intro (Sc_D17.out.2.1.later Lm3.out) (And.intro (Sc_D17.out.2.2.1.later Lm3.out) (Sc_D17.out.2.2.2.later Lm3.out))))
  have Sn_O118 := hid (And.intro (owns_later Sn_O117.out.1 Lm3.out) (And.intro (owns_later Sn_O117.out.2.1 Lm3.out) (And.intro (owns_later Sn_O117.out.2.2.1 Lm3.out) (owns_later Sn_O117.out.2.2.2 Lm3.out))))
  have Sn_O218 := hid (And.intro (owns_later Sn_O217.out.1 Lm3.out) (And.intro (owns_later Sn_O217.out.2.1 Lm3.out) (And.intro (owns_later Sn_O217.out.2.2.1 Lm3.out) (owns_later Sn_O217.out.2.2.2 Lm3.out))))
  have Sn_D18 := hid (And.intro (Sn_D17.out.1.later Lm3.out) (And.intro (Sn_D17.out.2.1.later Lm3.out) (And.intro (Sn_D17.out.2.2.1.later Lm3.out) (Sn_D17.out.2.2.2.later Lm3.out))))
  clear HW17 HA17 HB17 HP17 HQ17 Hc_117 Hc_217 Hc_317 Hn_117 Hn_217 Hn_317 Hm117 Hm217 SRA17 SRB17 SLA17 SLB17 Sc_O117 Sc_O217 Sc_D17 Sn_O117 Sn_O217 Sn_D17
  have SmO118 := hid (And.intro (owns_later SmO117.out.1 Lm3.out) (owns_later SmO117.out.2 Lm3.out))
  clear SmO117
  have SmO218 := hid (And.intro (owns_later SmO217.out.1 Lm3.out) (owns_later SmO217.out.2 Lm3.out))
  clear SmO217
  have SmO318 := hid (And.intro (owns_later SmO3.out.1 Lm3.out) (owns_later SmO3.out.2 Lm3.out))
  clear SmO3
  have HC := hid (gInt_cut re im Ym3 HRI.out.1 HRI.out.2.1 HRI.out.2.2.1 HRI.out.2.2.2)
  go_wp2_with fail
  clear hYm3
  refine Calls.mono HC.out ?_
  rintro e W10 ⟨xs_, v1, xz1, v2, xd1, xc1, xt_, v3, xz2, v4, xd2, xc2, rfl, ho, ht1, ht2, hb, W1_, hc1, hc2⟩
  clear HC
  have HW19 := hid (bt HW18.out hb)
  have Z19 := hid (Below.size hb)
  have HA19 := hid (HA18.out.later hb HA18.out.lt)
  have HB19 := hid (HB18.out.later hb HB18.out.lt)
  have HP19 := hid (HP18.out.later hb HP18.out.lt)
  have HQ19 := hid (HQ18.out.later hb HQ18.out.lt)
  have Hc_119 := hid (Hc_118.out.later hb Hc_118.out.lt)
  have Hc_219 := hid (Hc_218.out.later hb Hc_218.out.lt)
  have Hc_319 := hid (Hc_318.out.later hb Hc_318.out.lt)
  have Hn_119 := hid (Hn_118.out.later hb Hn_118.out.lt)
  have Hn_219 := hid (Hn_218.out.later hb Hn_218.out.lt)
  have Hn_319 := hid (Hn_318.out.later hb Hn_318.out.lt)
  have Hm119 := hid (Hm118.out.later hb Hm118.out.lt)
  have Hm219 := hid (Hm218.out.later hb Hm218.out.lt)
  have Hm319 := hid (Gm3.out.later hb Gm3.out.lt)
  have SRA19 := hid (And.intro (SRA18.out.1.later hb) (And.intro (SRA18.out.2.1.later hb) (And.intro (SRA18.out.2.2.1.later hb) (SRA18.out.2.2.2.later hb))))
  have SRB19 := hid (And.intro (SRB18.out.1.later hb) (And.intro (SRB18.out.2.1.later hb) (And.intro (SRB18.out.2.2.1.later hb) (SRB18.out.2.2.2.later hb))))
  have SLA19 := hid (And.intro (owns_later SLA18.out.1 hb) (And.intro (owns_later SLA18.out.2.1 hb) (And.intro (owns_later SLA18.out.2.2.1 hb) (owns_later SLA18.out.2.2.2 hb))))
  have SLB19 := hid (And.intro (owns_later SLB18.out.1 hb) (And.intro (owns_later SLB18.out.2.1 hb) (And.intro (owns_later SLB18.out.2.2.1 hb) (owns_later SLB18.out.2.2.2 hb))))
  have Sc_O119 := hid (And.intro (owns_later Sc_O118.out.1 hb) (And.intro (owns_later Sc_O118.out.2.1 hb) (And.intro (owns_later Sc_O118.out.2.2.1 hb) (owns_later Sc_O118.out.2.2.2 hb))))
  have Sc_O219 := hid (And.intro (owns_later Sc_O218.out.1 hb) (And.intro (owns_later Sc_O218.out.2.1 hb) (And.intro (owns_later Sc_O218.out.2.2.1 hb) (owns_later Sc_O218.out.2.2.2 hb))))
  have Sc_D19 := hid (And.intro (Sc_D18.out.1.later hb) (And.intro (Sc_D18.out.2.1.later hb) (And.intro (Sc_D18.out.2.2.1.later hb) (Sc_D18.out.2.2.2.later hb))))
  have Sn_O119 := hid (And.intro (owns_later Sn_O118.out.1 hb) (And.intro (owns_later Sn_O118.out.2.1 hb) (And.intro (owns_later Sn_O118.out.2.2.1 hb) (owns_later Sn_O118.out.2.2.2 hb))))
  have Sn_O219 := hid (And.intro (owns_later Sn_O218.out.1 hb) (And.intro (owns_later Sn_O218.out.2.1 hb) (And.intro (owns_later Sn_O218.out.2.2.1 hb) (owns_later Sn_O218.out.2.2.2 hb))))
  have Sn_D19 := hid (And.intro (Sn_D18.out.1.later hb) (And.intro (Sn_D18.out.2.1.later hb) (And.intro (Sn_D18.out.2.2.1.later hb) (Sn_D18.out.2.2.2.later hb))))
  clear HW18 HA18 HB18 HP18 HQ18 Hc_118 Hc_218 Hc_318 Hn_118 Hn_218 Hn_318 Hm118 Hm218 Gm3 SRA18 SRB18 SLA18 SLB18 Sc_O118 Sc_O218 Sc_D18 Sn_O118 Sn_O218 Sn_D18
  have SmO119 := hid (And.intro (owns_later SmO118.out.1 hb) (owns_later SmO118.out.2 hb))
  clear SmO118
  have SmO219 := hid (And.intro (owns_later SmO218.out.1 hb) (owns_later SmO218.out.2 hb))
  clear SmO218
  have SmO319 := hid (And.intro (owns_later SmO318.out.1 hb) (owns_later SmO318.out.2 hb))
  clear SmO318
  obtain ⟨xe1, xk1, rfl⟩ := own_slice' ho.1
  obtain ⟨xf1, xl1, rfl⟩ := own_slice' ho.2.1
  obtain ⟨xp1, xq1, rfl⟩ := own_slice' ho.2.2.1
  obtain ⟨xo1, xr1, rfl⟩ := own_slice' ho.2.2.2
  have HTx := hid (And.intro ht1 ht2)
  have SxO1 := hid ho
  have HIx1 := hid (And.intro (kp4_of_cuts hc1 hc2) (And.intro (kg_within ho.1) (And.intro (kg_within ho.2.1) (And.intro (kg_within ho.2.2.1) (kg_within ho.2.2.2)))))
  clear hc1 hc2 ho ht1 ht2 hb
  have HC := hid (gInt_cut re im W10 HRI.out.1 HRI.out.2.1 HRI.out.2.2.1 HRI.out.2.2.2)
  go_wp2_with fail
  refine Calls.mono HC.out ?_
  rintro e W11 ⟨s_, v1, z1_, v2, d1_, c1_, t_, v3, z2_, v4, d2_, c2_, rfl, ho, ht1, ht2, hb, W1_, hc1, hc2⟩
  clear HC
  have HW20 := hid (bt HW19.out hb)
  have Z20 := hid (Below.size hb)
  have HA20 := hid (HA19.out.later hb HA19.out.lt)
  have HB20 := hid (HB19.out.later hb HB19.out.lt)
  have HP20 := hid (HP19.out.later hb HP19.out.lt)
  have HQ20 := hid (HQ19.out.later hb HQ19.out.lt)
  have Hc_120 := hid (Hc_119.out.later hb Hc_119.out.lt)
  have Hc_220 := hid (Hc_219.out.later hb Hc_219.out.lt)
  have Hc_320 := hid (Hc_319.out.later hb Hc_319.out.lt)
  have Hn_120 := hid (Hn_119.out.later hb Hn_119.out.lt)
  have Hn_220 := hid (Hn_219.out.later hb Hn_219.out.lt)
  have Hn_320 := hid (Hn_319.out.later hb Hn_319.out.lt)
  have Hm120 := hid (Hm119.out.later hb Hm119.out.lt)
  have Hm220 := hid (Hm219.out.later hb Hm219.out.lt)
  have Hm320 := hid (Hm319.out.later hb Hm319.out.lt)
  have SRA20 := hid (And.intro (SRA19.out.1.later hb) (And.intro (SRA19.out.2.1.later hb) (And.intro (SRA19.out.2.2.1.later hb) (SRA19.out.2.2.2.later hb))))
  have SRB20 := hid (And.intro (SRB19.out.1.later hb) (And.intro (SRB19.out.2.1.later hb) (And.intro (SRB19.out.2.2.1.later hb) (SRB19.out.2.2.2.later hb))))
  have SLA20 := hid (And.intro (owns_later SLA19.out.1 hb) (And.intro (owns_later SLA19.out.2.1 hb) (And.intro (owns_later SLA19.out.2.2.1 hb) (owns_later SLA19.out.2.2.2 hb))))
  have SLB20 := hid (And.intro (owns_later SLB19.out.1 hb) (And.intro (owns_later SLB19.out.2.1 hb) (And.intro (owns_later SLB19.out.2.2.1 hb) (owns_later SLB19.out.2.2.2 hb))))
  have Sc_O120 := hid (And.intro (owns_later Sc_O119.out.1 hb) (And.intro (owns_later Sc_O119.out.2.1 hb) (And.intro (owns_later Sc_O119.out.2.2.1 hb) (owns_later Sc_O119.out.2.2.2 hb))))
  have Sc_O220 := hid (And.intro (owns_later Sc_O219.out.1 hb) (And.intro (owns_later Sc_O219.out.2.1 hb) (And.intro (owns_later Sc_O219.out.2.2.1 hb) (owns_later Sc_O219.out.2.2.2 hb))))
  have Sc_D20 := hid (And.intro (Sc_D19.out.1.later hb) (And.intro (Sc_D19.out.2.1.later hb) (And.intro (Sc_D19.out.2.2.1.later hb) (Sc_D19.out.2.2.2.later hb))))
  have Sn_O120 := hid (And.intro (owns_later Sn_O119.out.1 hb) (And.intro (owns_later Sn_O119.out.2.1 hb) (And.intro (owns_later Sn_O119.out.2.2.1 hb) (owns_later Sn_O119.out.2.2.2 hb))))
  have Sn_O220 := hid (And.intro (owns_later Sn_O219.out.1 hb) (And.intro (owns_later Sn_O219.out.2.1 hb) (And.intro (owns_later Sn_O219.out.2.2.1 hb) (owns_later Sn_O219.out.2.2.2 hb))))
  have Sn_D20 := hid (And.intro (Sn_D19.out.1.later hb) (And.intro (Sn_D19.out.2.1.later hb) (And.intro (Sn_D19.out.2.2.1.later hb) (Sn_D19.out.2.2.2.later hb))))
  have SxO120 := hid (And.intro (owns_later SxO1.out.1 hb) (And.intro (owns_later SxO1.out.2.1 hb) (And.intro (owns_later SxO1.out.2.2.1 hb) (owns_later SxO1.out.2.2.2 hb))))
  clear HW19 HA19 HB19 HP19 HQ19 Hc_119 Hc_219 Hc_319 Hn_119 Hn_219 Hn_319 Hm119 Hm219 Hm319 SRA19 SRB19 SLA19 SLB19 Sc_O119 Sc_O219 Sc_D19 Sn_O119 Sn_O219 Sn_D19 SxO1
  have SmO120 := hid (And.intro (owns_later SmO119.out.1 hb) (owns_later SmO119.out.2 hb))
  clear SmO119
  have SmO220 := hid (And.intro (owns_later SmO219.out.1 hb) (owns_later SmO219.out.2 hb))
  clear SmO219
  have SmO320 := hid (And.intro (owns_later SmO319.out.1 hb) (owns_later SmO319.out.2 hb))
  clear SmO319
  obtain ⟨xe2, xk2, rfl⟩ := own_slice' ho.1
  obtain ⟨xf2, xl2, rfl⟩ := own_slice' ho.2.1
  obtain ⟨xp2, xq2, rfl⟩ := own_slice' ho.2.2.1
  obtain ⟨xo2, xr2, rfl⟩ := own_slice' ho.2.2.2
  obtain ⟨rfl, rfl, rfl, rfl⟩ := HTx.out.1.same ht1
  obtain ⟨rfl, rfl, rfl, rfl⟩ := HTx.out.2.same ht2
  have SxO2 := hid ho
  have HIx2 := hid (And.intro (kp4_of_cuts hc1 hc2) (And.intro (kg_within ho.1) (And.intro (kg_within ho.2.1) (And.intro (kg_within ho.2.2.1) (kg_within ho.2.2.2)))))
  clear hc1 hc2 ho ht1 ht2 hb
  have Lx := hid (bt (alloc_later W11 (.cells #[.bool xs_, .slice xe1 xz1.length xk1, .slice xf1 xd1.length xl1, .bool xt_, .slice xp1 xz2.length xq1, .slice xo1 xd2.length xr1] 26)) (alloc_later (W11.alloc (.cells #[.bool xs_, .slice xe1 xz1.length xk1, .slice xf1 xd1.length xl1, .bool xt_, .slice xp1 xz2.length xq1, .slice xo1 xd2.length xr1] 26)) (.cells #[.bool xs_, .slice xe2 xz1.length xk2, .slice xf2 xd1.length xl2, .bool xt_, .slice xp2 xz2.length xq2, .slice xo2 xd2.length xr2] 26)))
  obtain ⟨Yx, hYx⟩ : ∃ Yx, (W11.alloc (.cells #[.bool xs_, .slice xe1 xz1.length xk1, .slice xf1 xd1.length xl1, .bool xt_, .slice xp1 xz2.length xq1, .slice xo1 xd2.length xr1] 26)).alloc (.cells #[.bool xs_, .slice xe2 xz1.length xk2, .slice xf2 xd1.length xl2, .bool xt_, .slice xp2 xz2.length xq2, .slice xo2 xd2.length xr2] 26) = Yx := ⟨_, rfl⟩
  have Gx1 : Hid (Box Yx W11.heap.size 26 #[.bool xs_, .slice xe1 xz1.length xk1, .slice xf1 xd1.length xl1, .bool xt_, .slice xp1 xz2.length xq1, .slice xo1 xd2.length xr1]) := by rw [← hYx]; exact (Box.made W11 _ _).later (alloc_later _ _) (Box.made W11 _ _).lt
  have Gx2 : Hid (Box Yx (W11.heap.size + 1) 26 #[.bool xs_, .slice xe2 xz1.length xk2, .slice xf2 xd1.length xl2, .bool xt_, .slice xp2 xz2.length xq2, .slice xo2 xd2.length xr2]) := by rw [← hYx]; exact kpq_newb2
  rw [hYx] at Lx
  have HW21 := hid (bt HW20.out Lx.out)
  have Z21 := hid (Below.size Lx.out)
  have HA21 := hid (HA20.out.later Lx.out HA20.out.lt)
  have HB21 := hid (HB20.out.later Lx.out HB20.out.lt)
  have HP21 := hid (HP20.out.later Lx.out HP20.out.lt)
  have HQ21 := hid (HQ20.out.later Lx.out HQ20.out.lt)
  have Hc_121 := hid (Hc_120.out.later Lx.out Hc_120.out.lt)
  have Hc_221 := hid (Hc_220.out.later Lx.out Hc_220.out.lt)
  have Hc_321 := hid (Hc_320.out.later Lx.out Hc_320.out.lt)
  have Hn_121 := hid (Hn_120.out.later Lx.out Hn_120.out.lt)
  have Hn_221 := hid (Hn_220.out.later Lx.out Hn_220.out.lt)
  have Hn_321 := hid (Hn_320.out.later Lx.out Hn_320.out.lt)
  have Hm121 := hid (Hm120.out.later Lx.out Hm120.out.lt)
  have Hm221 := hid (Hm220.out.later Lx.out Hm220.out.lt)
  have Hm321 := hid (Hm320.out.later Lx.out Hm320.out.lt)
  have SRA21 := hid (And.intro (SRA20.out.1.later Lx.out) (And.intro (SRA20.out.2.1.later Lx.out) (And.intro (SRA20.out.2.2.1.later Lx.out) (SRA20.out.2.2.2.later Lx.out))))
  have SRB21 := hid (And.intro (SRB20.out.1.later Lx.out) (And.intro (SRB20.out.2.1.later Lx.out) (And.intro (SRB20.out.2.2.1.later Lx.out) (SRB20.out.2.2.2.later Lx.out))))
  have SLA21 := hid (And.intro (owns_later SLA20.out.1 Lx.out) (And.intro (owns_later SLA20.out.2.1 Lx.out) (And.intro (owns_later SLA20.out.2.2.1 Lx.out) (owns_later SLA20.out.2.2.2 Lx.out))))
  have SLB21 := hid (And.intro (owns_later SLB20.out.1 Lx.out) (And.intro (owns_later SLB20.out.2.1 Lx.out) (And.intro (owns_later SLB20.out.2.2.1 Lx.out) (owns_later SLB20.out.2.2.2 Lx.out))))
  have Sc_O121 := hid (And.intro (owns_later Sc_O120.out.1 Lx.out) (And.intro (owns_later Sc_O120.out.2.1 Lx.out) (And.intro (owns_later Sc_O120.out.2.2.1 Lx.out) (owns_later Sc_O120.out.2.2.2 Lx.out))))
  have Sc_O221 := hid (And.intro (owns_later Sc_O220.out.1 Lx.out) (And.intro (owns_later Sc_O220.out.2.1 Lx.out) (And.intro (owns_later Sc_O220.out.2.2.1 Lx.out) (owns_later Sc_O220.out.2.2.2 Lx.out))))
  have Sc_D21 := hid (And.intro (Sc_D20.out.1.later Lx.out) (And.intro (Sc_D20.out.2.1.later Lx.out) (And.intro (Sc_D20.out.2.2.1.later Lx.out) (Sc_D20.out.2.2.2.later Lx.out))))
  have Sn_O121 := hid (And.intro (owns_later Sn_O120.out.1 Lx.out) (And.intro (owns_later Sn_O120.out.2.1 Lx.out) (And.intro (owns_later Sn_O120.out.2.2.1 Lx.out) (owns_later Sn_O120.out.2.2.2 Lx.out))))
  have Sn_O221 := hid (And.intro (owns_later Sn_O220.out.1 Lx.out) (And.intro (owns_later Sn_O220.out.2.1 Lx.out) (And.intro (owns_later Sn_O220.out.2.2.1 Lx.out) (owns_later Sn_O220.out.2.2.2 Lx.out))))
  have Sn_D21 := hid (And.intro (Sn_D20.out.1.later Lx.out) (And.intro (Sn_D20.out.2.1.later Lx.out) (And.intro (Sn_D20.out.2.2.1.later Lx.out) (Sn_D20.out.2.2.2.later Lx.out))))
  have SxO121 := hid (And.intro (owns_later SxO120.out.1 Lx.out) (And.intro (owns_later SxO120.out.2.1 Lx.out) (And.intro (owns_later SxO120.out.2.2.1 Lx.out) (owns_later SxO120.out.2.2.2 Lx.out))))
  have SxO221 := hid (And.intro (owns_later SxO2.out.1 Lx.out) (And.intro (owns_later SxO2.out.2.1 Lx.out) (And.intro (owns_later SxO2.out.2.2.1 Lx.out) (owns_later SxO2.out.2.2.2 Lx.out))))
  clear HW20 HA20 HB20 HP20 HQ20 Hc_120 Hc_220 Hc_320 Hn_120 Hn_220 Hn_320 Hm120 Hm220 Hm320 SRA20 SRB20 SLA20 SLB20 Sc_O120 Sc_O220 Sc_D20 Sn_O120 Sn_O220 Sn_D20 SxO120 SxO2
  have SmO121 := hid (And.intro (owns_later SmO120.out.1 Lx.out) (owns_later SmO120.out.2 Lx.out))
  clear SmO120
  have SmO221 := hid (And.intro (owns_later SmO220.out.1 Lx.out) (owns_later SmO220.out.2 Lx.out))
  clear SmO220
  have SmO321 := hid (And.intro (owns_later SmO320.out.1 Lx.out) (owns_later SmO320.out.2 Lx.out))
  clear SmO320
  have HC := hid (d4Int_any re im Yx HRI.out.1 HRI.out.2.1 HRI.out.2.2.1 HRI.out.2.2.2)
  go_wp2_with fail
  clear hYx
  refine Calls.mono HC.out ?_
  rintro e W12 ⟨s_, xe3, xk3, z1_, xf3, xl3, d1_, t_, xp3, xq3, z2_, xo3, xr3, d2_, c1_, c2_, rfl, ho, ht1, ht2, hb⟩
  clear HC
  have HW22 := hid (bt HW21.out hb)
  have Z22 := hid (Below.size hb)
  have HA22 := hid (HA21.out.later hb HA21.out.lt)
  have HB22 := hid (HB21.out.later hb HB21.out.lt)
  have HP22 := hid (HP21.out.later hb HP21.out.lt)
  have HQ22 := hid (HQ21.out.later hb HQ21.out.lt)
  have Hc_122 := hid (Hc_121.out.later hb Hc_121.out.lt)
  have Hc_222 := hid (Hc_221.out.later hb Hc_221.out.lt)
  have Hc_322 := hid (Hc_321.out.later hb Hc_321.out.lt)
  have Hn_122 := hid (Hn_121.out.later hb Hn_121.out.lt)
  have Hn_222 := hid (Hn_221.out.later hb Hn_221.out.lt)
  have Hn_322 := hid (Hn_321.out.later hb Hn_321.out.lt)
  have Hm122 := hid (Hm121.out.later hb Hm121.out.lt)
  have Hm222 := hid (Hm221.out.later hb Hm221.out.lt)
  have Hm322 := hid (Hm321.out.later hb Hm321.out.lt)
  have Hx122 := hid (Gx1.out.later hb Gx1.out.lt)
  have Hx222 := hid (Gx2.out.later hb Gx2.out.lt)
  have SRA22 := hid (And.intro (SRA21.out.1.later hb) (And.intro (SRA21.out.2.1.later hb) (And.intro (SRA21.out.2.2.1.later hb) (SRA21.out.2.2.2.later hb))))
  have SRB22 := hid (And.intro (SRB21.out.1.later hb) (And.intro (SRB21.out.2.1.later hb) (And.intro (SRB21.out.2.2.1.later hb) (SRB21.out.2.2.2.later hb))))
  have SLA22 := hid (And.intro (owns_later SLA21.out.1 hb) (And.intro (owns_later SLA21.out.2.1 hb) (And.intro (owns_later SLA21.out.2.2.1 hb) (owns_later SLA21.out.2.2.2 hb))))
  have SLB22 := hid (And.intro (owns_later SLB21.out.1 hb) (And.intro (owns_later SLB21.out.2.1 hb) (And.intro (owns_later SLB21.out.2.2.1 hb) (owns_later SLB21.out.2.2.2 hb))))
  have Sc_O122 := hid (And.intro (owns_later Sc_O121.out.1 hb) (And.intro (owns_later Sc_O121.out.2.1 hb) (And.intro (owns_later Sc_O121.out.2.2.1 hb) (owns_later Sc_O121.out.2.2.2 hb))))
  have Sc_O222 := hid (And.intro (owns_later Sc_O221.out.1 hb) (And.intro (owns_later Sc_O221.out.2.1 hb) (And.intro (owns_later Sc_O221.out.2.2.1 hb) (owns_later Sc_O221.out.2.2.2 hb))))
  have Sc_D22 := hid (And.intro (Sc_D21.out.1.later hb) (And.intro (Sc_D21.out.2.1.later hb) (And.intro (Sc_D21.out.2.2.1.later hb) (Sc_D21.out.2.2.2.later hb))))
  have Sn_O122 := hid (And.intro (owns_later Sn_O121.out.1 hb) (And.intro (owns_later Sn_O121.out.2.1 hb) (And.intro (owns_later Sn_O121.out.2.2.1 hb) (owns_later Sn_O121.out.2.2.2 hb))))
  have Sn_O222 := hid (And.intro (owns_later Sn_O221.out.1 hb) (And.intro (owns_later Sn_O221.out.2.1 hb) (And.intro (owns_later Sn_O221.out.2.2.1 hb) (owns_later Sn_O221.out.2.2.2 hb))))
  have Sn_D22 := hid (And.intro (Sn_D21.out.1.later hb) (And.intro (Sn_D21.out.2.1.later hb) (And.intro (Sn_D21.out.2.2.1.later hb) (Sn_D21.out.2.2.2.later hb))))
  have SxO122 := hid (And.intro (owns_later SxO121.out.1 hb) (And.intro (owns_later SxO121.out.2.1 hb) (And.intro (owns_later SxO121.out.2.2.1 hb) (owns_later SxO121.out.2.2.2 hb))))
  have SxO222 := hid (And.intro (owns_later SxO221.out.1 hb) (And.intro (owns_later SxO221.out.2.1 hb) (And.intro (owns_later SxO221.out.2.2.1 hb) (owns_later SxO221.out.2.2.2 hb))))
  clear HW21 HA21 HB21 HP21 HQ21 Hc_121 Hc_221 Hc_321 Hn_121 Hn_221 Hn_321 Hm121 Hm221 Hm321 Gx1 Gx2 SRA21 SRB21 SLA21 SLB21 Sc_O121 Sc_O221 Sc_D21 Sn_O121 Sn_O221 Sn_D21 SxO121 SxO221
  have SmO122 := hid (And.intro (owns_later SmO121.out.1 hb) (owns_later SmO121.out.2 hb))
  clear SmO121
  have SmO222 := hid (And.intro (owns_later SmO221.out.1 hb) (owns_later SmO221.out.2 hb))
  clear SmO221
  have SmO322 := hid (And.intro (owns_later SmO321.out.1 hb) (owns_later SmO321.out.2 hb))
  clear SmO321
  obtain ⟨rfl, rfl, rfl, rfl⟩ := HTx.out.1.same ht1
  obtain ⟨rfl, rfl, rfl, rfl⟩ := HTx.out.2.same ht2
  have SxD := hid ho
  clear ho ht1 ht2 hb
  have Gx3 := hid (Box.made W12 26 #[.bool xs_, .slice xe3 xz1.length xk3, .slice xf3 xd1.length xl3, .bool xt_, .slice xp3 xz2.length xq3, .slice xo3 xd2.length xr3])
  have Lx3 := hid (alloc_later W12 (.cells #[.bool xs_, .slice xe3 xz1.length xk3, .slice xf3 xd1.length xl3, .bool xt_, .slice xp3 xz2.length xq3, .slice xo3 xd2.length xr3] 26))
  obtain ⟨Yx3, hYx3⟩ : ∃ Yx3, W12.alloc (.cells #[.bool xs_, .slice xe3 xz1.length xk3, .slice xf3 xd1.length xl3, .bool xt_, .slice xp3 xz2.length xq3, .slice xo3 xd2.length xr3] 26) = Yx3 := ⟨_, rfl⟩
  rw [hYx3] at Gx3 Lx3
  have HW23 := hid (bt HW22.out Lx3.out)
  have Z23 := hid (Below.size Lx3.out)
  have HA23 := hid (HA22.out.later Lx3.out HA22.out.lt)
  have HB23 := hid (HB22.out.later Lx3.out HB22.out.lt)
  have HP23 := hid (HP22.out.later Lx3.out HP22.out.lt)
  have HQ23 := hid (HQ22.out.later Lx3.out HQ22.out.lt)
  have Hc_123 := hid (Hc_122.out.later Lx3.out Hc_122.out.lt)
  have Hc_223 := hid (Hc_222.out.later Lx3.out Hc_222.out.lt)
  have Hc_323 := hid (Hc_322.out.later Lx3.out Hc_322.out.lt)
  have Hn_123 := hid (Hn_122.out.later Lx3.out Hn_122.out.lt)
  have Hn_223 := hid (Hn_222.out.later Lx3.out Hn_222.out.lt)
  have Hn_323 := hid (Hn_322.out.later Lx3.out Hn_322.out.lt)
  have Hm123 := hid (Hm122.out.later Lx3.out Hm122.out.lt)
  have Hm223 := hid (Hm222.out.later Lx3.out Hm222.out.lt)
  have Hm323 := hid (Hm322.out.later Lx3.out Hm322.out.lt)
  have Hx123 := hid (Hx122.out.later Lx3.out Hx122.out.lt)
  have Hx223 := hid (Hx222.out.later Lx3.out Hx222.out.lt)
  have SRA23 := hid (And.intro (SRA22.out.1.later Lx3.out) (And.intro (SRA22.out.2.1.later Lx3.out) (And.intro (SRA22.out.2.2.1.later Lx3.out) (SRA22.out.2.2.2.later Lx3.out))))
  have SRB23 := hid (And.intro (SRB22.out.1.later Lx3.out) (And.intro (SRB22.out.2.1.later Lx3.out) (And.intro (SRB22.out.2.2.1.later Lx3.out) (SRB22.out.2.2.2.later Lx3.out))))
  have SLA23 := hid (And.intro (owns_later SLA22.out.1 Lx3.out) (And.intro (owns_later SLA22.out.2.1 Lx3.out) (And.intro (owns_later SLA22.out.2.2.1 Lx3.out) (owns_later SLA22.out.2.2.2 Lx3.out))))
  have SLB23 := hid (And.intro (owns_later SLB22.out.1 Lx3.out) (And.intro (owns_later SLB22.out.2.1 Lx3.out) (And.intro (owns_later SLB22.out.2.2.1 Lx3.out) (owns_later SLB22.out.2.2.2 Lx3.out))))
  have Sc_O123 := hid (And.intro (owns_later Sc_O122.out.1 Lx3.out) (And.intro (owns_later Sc_O122.out.2.1 Lx3.out) (And.intro (owns_later Sc_O122.out.2.2.1 Lx3.out) (owns_later Sc_O122.out.2.2.2 Lx3.out))))
  have Sc_O223 := hid (And.intro (owns_later Sc_O222.out.1 Lx3.out) (And.intro (owns_later Sc_O222.out.2.1 Lx3.out) (And.intro (owns_later Sc_O222.out.2.2.1 Lx3.out) (owns_later Sc_O222.out.2.2.2 Lx3.out))))
  have Sc_D23 := hid (And.intro (Sc_D22.out.1.later Lx3.out) (And.intro (Sc_D22.out.2.1.later Lx3.out) (And.intro (Sc_D22.out.2.2.1.later Lx3.out) (Sc_D22.out.2.2.2.later Lx3.out))))
  have Sn_O123 := hid (And.intro (owns_later Sn_O122.out.1 Lx3.out) (And.intro (owns_later Sn_O122.out.2.1 Lx3.out) (And.intro (owns_later Sn_O122.out.2.2.1 Lx3.out) (owns_later Sn_O122.out.2.2.2 Lx3.out))))
  have Sn_O223 := hid (And.intro (owns_later Sn_O222.out.1 Lx3.out) (And.intro (owns_later Sn_O222.out.2.1 Lx3.out) (And.intro (owns_later Sn_O222.out.2.2.1 Lx3.out) (owns_later Sn_O222.out.2.2.2 Lx3.out))))
  have Sn_D23 := hid (And.intro (Sn_D22.out.1.later Lx3.out) (And.intro (Sn_D22.out.2.1.later Lx3.out) (And.intro (Sn_D22.out.2.2.1.later Lx3.out) (Sn_D22.out.2.2.2.later Lx3.out))))
  have SxO123 := hid (And.intro (owns_later SxO122.out.1 Lx3.out) (And.intro (owns_later SxO122.out.2.1 Lx3.out) (And.intro (owns_later SxO122.out.2.2.1 Lx3.out) (owns_later SxO122.out.2.2.2 Lx3.out))))
  have SxO223 := hid (And.intro (owns_later SxO222.out.1 Lx3.out) (And.intro (owns_later SxO222.out.2.1 Lx3.out) (And.intro (owns_later SxO222.out.2.2.1 Lx3.out) (owns_later SxO222.out.2.2.2 Lx3.out))))
  have SxD23 := hid (And.intro (SxD.out.1.later Lx3.out) (And.intro (SxD.out.2.1.later Lx3.out) (And.intro (SxD.out.2.2.1.later Lx3.out) (SxD.out.2.2.2.later Lx3.out))))
  clear HW22 HA22 HB22 HP22 HQ22 Hc_122 Hc_222 Hc_322 Hn_122 Hn_222 Hn_322 Hm122 Hm222 Hm322 Hx122 Hx222 SRA22 SRB22 SLA22 SLB22 Sc_O122 Sc_O222 Sc_D22 Sn_O122 Sn_O222 Sn_D22 SxO122 SxO222 SxD
  have SmO123 := hid (And.intro (owns_later SmO122.out.1 Lx3.out) (owns_later SmO122.out.2 Lx3.out))
  clear SmO122
  have SmO223 := hid (And.intro (owns_later SmO222.out.1 Lx3.out) (owns_later SmO222.out.2 Lx3.out))
  clear SmO222
  have SmO323 := hid (And.intro (owns_later SmO322.out.1 Lx3.out) (owns_later SmO322.out.2 Lx3.out))
  clear SmO322
  have HFc := hid HTc_.out.few
  have HFn := hid HTn_.out.few
  have HWc := hid HTc_.out.wd
  have HWn := hid HTn_.out.wd
  have HWx := hid (And.intro HTx.out.1.wx (And.intro HTx.out.1.wy (And.intro HTx.out.2.wx HTx.out.2.wy)))
  have HFx := hid (And.intro (kp_len HTx.out.1) (And.intro (kp_len2 HTx.out.1) (And.intro (kp_len HTx.out.2) (kp_len2 HTx.out.2))))
  have HGx := hid (And.intro (kpq_len HTx.out.1) (And.intro (kpq_len2 HTx.out.1) (And.intro (kpq_len HTx.out.2) (kpq_len2 HTx.out.2))))
  clear HTc_ HTn_ HTm HTx
  have HC := hid (kone_any c_s c_t c_z1 c_d1 c_z2 c_d2 c_e1 c_k1 c_f1 c_l1 c_p1 c_q1 c_o1 c_r1 c_e2 c_k2 c_f2 c_l2 c_p2 c_q2 c_o2 c_r2 c_e3 c_k3 c_f3 c_l3 c_p3 c_q3 c_o3 c_r3 c_u Yx3 ⟨Sl.own Sc_O123.out.1 HWc.out.1, Sl.own Sc_O123.out.2.1 HWc.out.2.1, Sl.own Sc_O123.out.2.2.1 HWc.out.2.2.1, Sl.own Sc_O123.out.2.2.2 HWc.out.2.2.2⟩ ⟨Sl.own Sc_O223.out.1 HWc.out.1, Sl.own Sc_O223.out.2.1 HWc.out.2.1, Sl.own Sc_O223.out.2.2.1 HWc.out.2.2.1, Sl.own Sc_O223.out.2.2.2 HWc.out.2.2.2⟩ Sc_D23.out (by have := HFc.out.1; omega) (by have := HFc.out.2.1; omega) (by have := HFc.out.2.2.1; omega) (by have := HFc.out.2.2.2; omega)  )
  have clc_1_0 : Yx3.cell? ⟨W1.heap.size, 0, none⟩ = some (.bool c_s) := Hc_123.out.cell 0
  have clc_1_1 : Yx3.cell? ⟨W1.heap.size, 1, none⟩ = some (.slice c_e1 c_z1.length c_k1) := Hc_123.out.cell 1
  have clc_1_2 : Yx3.cell? ⟨W1.heap.size, 2, none⟩ = some (.slice c_f1 c_d1.length c_l1) := Hc_123.out.cell 2
  have clc_1_3 : Yx3.cell? ⟨W1.heap.size, 3, none⟩ = some (.bool c_t) := Hc_123.out.cell 3
  have clc_1_4 : Yx3.cell? ⟨W1.heap.size, 4, none⟩ = some (.slice c_p1 c_z2.length c_q1) := Hc_123.out.cell 4
  have clc_1_5 : Yx3.cell? ⟨W1.heap.size, 5, none⟩ = some (.slice c_o1 c_d2.length c_r1) := Hc_123.out.cell 5
  have clc_2_0 : Yx3.cell? ⟨W2.heap.size, 0, none⟩ = some (.bool c_s) := Hc_223.out.cell 0
  have clc_2_1 : Yx3.cell? ⟨W2.heap.size, 1, none⟩ = some (.slice c_e2 c_z1.length c_k2) := Hc_223.out.cell 1
  have clc_2_2 : Yx3.cell? ⟨W2.heap.size, 2, none⟩ = some (.slice c_f2 c_d1.length c_l2) := Hc_223.out.cell 2
  have clc_2_3 : Yx3.cell? ⟨W2.heap.size, 3, none⟩ = some (.bool c_t) := Hc_223.out.cell 3
  have clc_2_4 : Yx3.cell? ⟨W2.heap.size, 4, none⟩ = some (.slice c_p2 c_z2.length c_q2) := Hc_223.out.cell 4
  have clc_2_5 : Yx3.cell? ⟨W2.heap.size, 5, none⟩ = some (.slice c_o2 c_d2.length c_r2) := Hc_223.out.cell 5
  have clc_3_0 : Yx3.cell? ⟨W3.heap.size, 0, none⟩ = some (.bool c_s) := Hc_323.out.cell 0
  have clc_3_1 : Yx3.cell? ⟨W3.heap.size, 1, none⟩ = some (.slice c_e3 c_z1.length c_k3) := Hc_323.out.cell 1
  have clc_3_2 : Yx3.cell? ⟨W3.heap.size, 2, none⟩ = some (.slice c_f3 c_d1.length c_l3) := Hc_323.out.cell 2
  have clc_3_3 : Yx3.cell? ⟨W3.heap.size, 3, none⟩ = some (.bool c_t) := Hc_323.out.cell 3
  have clc_3_4 : Yx3.cell? ⟨W3.heap.size, 4, none⟩ = some (.slice c_p3 c_z2.length c_q3) := Hc_323.out.cell 4
  have clc_3_5 : Yx3.cell? ⟨W3.heap.size, 5, none⟩ = some (.slice c_o3 c_d2.length c_r3) := Hc_323.out.cell 5
  go_wp2_with fail
  clear hYx3
  refine Calls.mono HC.out ?_
  rintro e W13 ⟨rfl, hb⟩
  clear clc_1_0 clc_1_1 clc_1_2 clc_1_3 clc_1_4 clc_1_5 clc_2_0 clc_2_1 clc_2_2 clc_2_3 clc_2_4 clc_2_5 clc_3_0 clc_3_1 clc_3_2 clc_3_3 clc_3_4 clc_3_5
  clear HC
  have HW24 := hid (bt HW23.out hb)
  have Z24 := hid (Below.size hb)
  have HA24 := hid (HA23.out.later hb HA23.out.lt)
  have HB24 := hid (HB23.out.later hb HB23.out.lt)
  have HP24 := hid (HP23.out.later hb HP23.out.lt)
  have HQ24 := hid (HQ23.out.later hb HQ23.out.lt)
  have Hc_124 := hid (Hc_123.out.later hb Hc_123.out.lt)
  have Hc_224 := hid (Hc_223.out.later hb Hc_223.out.lt)
  have Hc_324 := hid (Hc_323.out.later hb Hc_323.out.lt)
  have Hn_124 := hid (Hn_123.out.later hb Hn_123.out.lt)
  have Hn_224 := hid (Hn_223.out.later hb Hn_223.out.lt)
  have Hn_324 := hid (Hn_323.out.later hb Hn_323.out.lt)
  have Hm124 := hid (Hm123.out.later hb Hm123.out.lt)
  have Hm224 := hid (Hm223.out.later hb Hm223.out.lt)
  have Hm324 := hid (Hm323.out.later hb Hm323.out.lt)
  have Hx124 := hid (Hx123.out.later hb Hx123.out.lt)
  have Hx224 := hid (Hx223.out.later hb Hx223.out.lt)
  have Hx324 := hid (Gx3.out.later hb Gx3.out.lt)
  have SRA24 := hid (And.intro (SRA23.out.1.later hb) (And.intro (SRA23.out.2.1.later hb) (And.intro (SRA23.out.2.2.1.later hb) (SRA23.out.2.2.2.later hb))))
  have SRB24 := hid (And.intro (SRB23.out.1.later hb) (And.intro (SRB23.out.2.1.later hb) (And.intro (SRB23.out.2.2.1.later hb) (SRB23.out.2.2.2.later hb))))
  have SLA24 := hid (And.intro (owns_later SLA23.out.1 hb) (And.intro (owns_later SLA23.out.2.1 hb) (And.intro (owns_later SLA23.out.2.2.1 hb) (owns_later SLA23.out.2.2.2 hb))))
  have SLB24 := hid (And.intro (owns_later SLB23.out.1 hb) (And.intro (owns_later SLB23.out.2.1 hb) (And.intro (owns_later SLB23.out.2.2.1 hb) (owns_later SLB23.out.2.2.2 hb))))
  have Sc_O124 := hid (And.intro (owns_later Sc_O123.out.1 hb) (And.intro (owns_later Sc_O123.out.2.1 hb) (And.intro (owns_later Sc_O123.out.2.2.1 hb) (owns_later Sc_O123.out.2.2.2 hb))))
  have Sc_O224 := hid (And.intro (owns_later Sc_O223.out.1 hb) (And.intro (owns_later Sc_O223.out.2.1 hb) (And.intro (owns_later Sc_O223.out.2.2.1 hb) (owns_later Sc_O223.out.2.2.2 hb))))
  have Sc_D24 := hid (And.intro (Sc_D23.out.1.later hb) (And.intro (Sc_D23.out.2.1.later hb) (And.intro (Sc_D23.out.2.2.1.later hb) (Sc_D23.out.2.2.2.later hb))))
  have Sn_O124 := hid (And.intro (owns_later Sn_O123.out.1 hb) (And.intro (owns_later Sn_O123.out.2.1 hb) (And.intro (owns_later Sn_O123.out.2.2.1 hb) (owns_later Sn_O123.out.2.2.2 hb))))
  have Sn_O224 := hid (And.intro (owns_later Sn_O223.out.1 hb) (And.intro (owns_later Sn_O223.out.2.1 hb) (And.intro (owns_later Sn_O223.out.2.2.1 hb) (owns_later Sn_O223.out.2.2.2 hb))))
  have Sn_D24 := hid (And.intro (Sn_D23.out.1.later hb) (And.intro (Sn_D23.out.2.1.later hb) (And.intro (Sn_D23.out.2.2.1.later hb) (Sn_D23.out.2.2.2.later hb))))
  have SxO124 := hid (And.intro (owns_later SxO123.out.1 hb) (And.intro (owns_later SxO123.out.2.1 hb) (And.intro (owns_later SxO123.out.2.2.1 hb) (owns_later SxO123.out.2.2.2 hb))))
  have SxO224 := hid (And.intro (owns_later SxO223.out.1 hb) (And.intro (owns_later SxO223.out.2.1 hb) (And.intro (owns_later SxO223.out.2.2.1 hb) (owns_later SxO223.out.2.2.2 hb))))
  have SxD24 := hid (And.intro (SxD23.out.1.later hb) (And.intro (SxD23.out.2.1.later hb) (And.intro (SxD23.out.2.2.1.later hb) (SxD23.out.2.2.2.later hb))))
  clear HW23 HA23 HB23 HP23 HQ23 Hc_123 Hc_223 Hc_323 Hn_123 Hn_223 Hn_323 Hm123 Hm223 Hm323 Hx123 Hx223 Gx3 SRA23 SRB23 SLA23 SLB23 Sc_O123 Sc_O223 Sc_D23 Sn_O123 Sn_O223 Sn_D23 SxO123 SxO223 SxD23
  have SmO124 := hid (And.intro (owns_later SmO123.out.1 hb) (owns_later SmO123.out.2 hb))
  clear SmO123
  have SmO224 := hid (And.intro (owns_later SmO223.out.1 hb) (owns_later SmO223.out.2 hb))
  clear SmO223
  have SmO324 := hid (And.intro (owns_later SmO323.out.1 hb) (owns_later SmO323.out.2 hb))
  clear SmO323
  clear hb
  have HC := hid (kone_any n_s n_t n_z1 n_d1 n_z2 n_d2 n_e1 n_k1 n_f1 n_l1 n_p1 n_q1 n_o1 n_r1 n_e2 n_k2 n_f2 n_l2 n_p2 n_q2 n_o2 n_r2 n_e3 n_k3 n_f3 n_l3 n_p3 n_q3 n_o3 n_r3 n_u W13 ⟨Sl.own Sn_O124.out.1 HWn.out.1, Sl.own Sn_O124.out.2.1 HWn.out.2.1, Sl.own Sn_O124.out.2.2.1 HWn.out.2.2.1, Sl.own Sn_O124.out.2.2.2 HWn.out.2.2.2⟩ ⟨Sl.own Sn_O224.out.1 HWn.out.1, Sl.own Sn_O224.out.2.1 HWn.out.2.1, Sl.own Sn_O224.out.2.2.1 HWn.out.2.2.1, Sl.own Sn_O224.out.2.2.2 HWn.out.2.2.2⟩ Sn_D24.out (by have := HFn.out.1; omega) (by have := HFn.out.2.1; omega) (by have := HFn.out.2.2.1; omega) (by have := HFn.out.2.2.2; omega)  )
  have cln_1_0 : W13.cell? ⟨W4.heap.size, 0, none⟩ = some (.bool n_s) := Hn_124.out.cell 0
  have cln_1_1 : W13.cell? ⟨W4.heap.size, 1, none⟩ = some (.slice n_e1 n_z1.length n_k1) := Hn_124.out.cell 1
  have cln_1_2 : W13.cell? ⟨W4.heap.size, 2, none⟩ = some (.slice n_f1 n_d1.length n_l1) := Hn_124.out.cell 2
  have cln_1_3 : W13.cell? ⟨W4.heap.size, 3, none⟩ = some (.bool n_t) := Hn_124.out.cell 3
  have cln_1_4 : W13.cell? ⟨W4.heap.size, 4, none⟩ = some (.slice n_p1 n_z2.length n_q1) := Hn_124.out.cell 4
  have cln_1_5 : W13.cell? ⟨W4.heap.size, 5, none⟩ = some (.slice n_o1 n_d2.length n_r1) := Hn_124.out.cell 5
  have cln_2_0 : W13.cell? ⟨W5.heap.size, 0, none⟩ = some (.bool n_s) := Hn_224.out.cell 0
  have cln_2_1 : W13.cell? ⟨W5.heap.size, 1, none⟩ = some (.slice n_e2 n_z1.length n_k2) := Hn_224.out.cell 1
  have cln_2_2 : W13.cell? ⟨W5.heap.size, 2, none⟩ = some (.slice n_f2 n_d1.length n_l2) := Hn_224.out.cell 2
  have cln_2_3 : W13.cell? ⟨W5.heap.size, 3, none⟩ = some (.bool n_t) := Hn_224.out.cell 3
  have cln_2_4 : W13.cell? ⟨W5.heap.size, 4, none⟩ = some (.slice n_p2 n_z2.length n_q2) := Hn_224.out.cell 4
  have cln_2_5 : W13.cell? ⟨W5.heap.size, 5, none⟩ = some (.slice n_o2 n_d2.length n_r2) := Hn_224.out.cell 5
  have cln_3_0 : W13.cell? ⟨W6.heap.size, 0, none⟩ = some (.bool n_s) := Hn_324.out.cell 0
  have cln_3_1 : W13.cell? ⟨W6.heap.size, 1, none⟩ = some (.slice n_e3 n_z1.length n_k3) := Hn_324.out.cell 1
  have cln_3_2 : W13.cell? ⟨W6.heap.size, 2, none⟩ = some (.slice n_f3 n_d1.length n_l3) := Hn_324.out.cell 2
  have cln_3_3 : W13.cell? ⟨W6.heap.size, 3, none⟩ = some (.bool n_t) := Hn_324.out.cell 3
  have cln_3_4 : W13.cell? ⟨W6.heap.size, 4, none⟩ = some (.slice n_p3 n_z2.length n_q3) := Hn_324.out.cell 4
  have cln_3_5 : W13.cell? ⟨W6.heap.size, 5, none⟩ = some (.slice n_o3 n_d2.length n_r3) := Hn_324.out.cell 5
  go_wp2_with fail
  refine Calls.mono HC.out ?_
  rintro e W14 ⟨rfl, hb⟩
  clear cln_1_0 cln_1_1 cln_1_2 cln_1_3 cln_1_4 cln_1_5 cln_2_0 cln_2_1 cln_2_2 cln_2_3 cln_2_4 cln_2_5 cln_3_0 cln_3_1 cln_3_2 cln_3_3 cln_3_4 cln_3_5
  clear HC
  have HW25 := hid (bt HW24.out hb)
  have Z25 := hid (Below.size hb)
  have HA25 := hid (HA24.out.later hb HA24.out.lt)
  have HB25 := hid (HB24.out.later hb HB24.out.lt)
  have HP25 := hid (HP24.out.later hb HP24.out.lt)
  have HQ25 := hid (HQ24.out.later hb HQ24.out.lt)
  have Hc_125 := hid (Hc_124.out.later hb Hc_124.out.lt)
  have Hc_225 := hid (Hc_224.out.later hb Hc_224.out.lt)
  have Hc_325 := hid (Hc_324.out.later hb Hc_324.out.lt)
  have Hn_125 := hid (Hn_124.out.later hb Hn_124.out.lt)
  have Hn_225 := hid (Hn_224.out.later hb Hn_224.out.lt)
  have Hn_325 := hid (Hn_324.out.later hb Hn_324.out.lt)
  have Hm125 := hid (Hm124.out.later hb Hm124.out.lt)
  have Hm225 := hid (Hm224.out.later hb Hm224.out.lt)
  have Hm325 := hid (Hm324.out.later hb Hm324.out.lt)
  have Hx125 := hid (Hx124.out.later hb Hx124.out.lt)
  have Hx225 := hid (Hx224.out.later hb Hx224.out.lt)
  have Hx325 := hid (Hx324.out.later hb Hx324.out.lt)
  have SRA25 := hid (And.intro (SRA24.out.1.later hb) (And.intro (SRA24.out.2.1.later hb) (And.intro (SRA24.out.2.2.1.later hb) (SRA24.out.2.2.2.later hb))))
  have SRB25 := hid (And.intro (SRB24.out.1.later hb) (And.intro (SRB24.out.2.1.later hb) (And.intro (SRB24.out.2.2.1.later hb) (SRB24.out.2.2.2.later hb))))
  have SLA25 := hid (And.intro (owns_later SLA24.out.1 hb) (And.intro (owns_later SLA24.out.2.1 hb) (And.intro (owns_later SLA24.out.2.2.1 hb) (owns_later SLA24.out.2.2.2 hb))))
  have SLB25 := hid (And.intro (owns_later SLB24.out.1 hb) (And.intro (owns_later SLB24.out.2.1 hb) (And.intro (owns_later SLB24.out.2.2.1 hb) (owns_later SLB24.out.2.2.2 hb))))
  have Sc_O125 := hid (And.intro (owns_later Sc_O124.out.1 hb) (And.intro (owns_later Sc_O124.out.2.1 hb) (And.intro (owns_later Sc_O124.out.2.2.1 hb) (owns_later Sc_O124.out.2.2.2 hb))))
  have Sc_O225 := hid (And.intro (owns_later Sc_O224.out.1 hb) (And.intro (owns_later Sc_O224.out.2.1 hb) (And.intro (owns_later Sc_O224.out.2.2.1 hb) (owns_later Sc_O224.out.2.2.2 hb))))
  have Sc_D25 := hid (And.intro (Sc_D24.out.1.later hb) (And.intro (Sc_D24.out.2.1.later hb) (And.intro (Sc_D24.out.2.2.1.later hb) (Sc_D24.out.2.2.2.later hb))))
  have Sn_O125 := hid (And.intro (owns_later Sn_O124.out.1 hb) (And.intro (owns_later Sn_O124.out.2.1 hb) (And.intro (owns_later Sn_O124.out.2.2.1 hb) (owns_later Sn_O124.out.2.2.2 hb))))
  have Sn_O225 := hid (And.intro (owns_later Sn_O224.out.1 hb) (And.intro (owns_later Sn_O224.out.2.1 hb) (And.intro (owns_later Sn_O224.out.2.2.1 hb) (owns_later Sn_O224.out.2.2.2 hb))))
  have Sn_D25 := hid (And.intro (Sn_D24.out.1.later hb) (And.intro (Sn_D24.out.2.1.later hb) (And.intro (Sn_D24.out.2.2.1.later hb) (Sn_D24.out.2.2.2.later hb))))
  have SxO125 := hid (And.intro (owns_later SxO124.out.1 hb) (And.intro (owns_later SxO124.out.2.1 hb) (And.intro (owns_later SxO124.out.2.2.1 hb) (owns_later SxO124.out.2.2.2 hb))))
  have SxO225 := hid (And.intro (owns_later SxO224.out.1 hb) (And.intro (owns_later SxO224.out.2.1 hb) (And.intro (owns_later SxO224.out.2.2.1 hb) (owns_later SxO224.out.2.2.2 hb))))
  have SxD25 := hid (And.intro (SxD24.out.1.later hb) (And.intro (SxD24.out.2.1.later hb) (And.intro (SxD24.out.2.2.1.later hb) (SxD24.out.2.2.2.later hb))))
  clear HW24 HA24 HB24 HP24 HQ24 Hc_124 Hc_224 Hc_324 Hn_124 Hn_224 Hn_324 Hm124 Hm224 Hm324 Hx124 Hx224 Hx324 SRA24 SRB24 SLA24 SLB24 Sc_O124 Sc_O224 Sc_D24 Sn_O124 Sn_O224 Sn_D24 SxO124 SxO224 SxD24
  have SmO125 := hid (And.intro (owns_later SmO124.out.1 hb) (owns_later SmO124.out.2 hb))
  clear SmO124
  have SmO225 := hid (And.intro (owns_later SmO224.out.1 hb) (owns_later SmO224.out.2 hb))
  clear SmO224
  have SmO325 := hid (And.intro (owns_later SmO324.out.1 hb) (owns_later SmO324.out.2 hb))
  clear SmO324
  clear hb
  have HC := hid (kone_any xs_ xt_ xz1 xd1 xz2 xd2 xe1 xk1 xf1 xl1 xp1 xq1 xo1 xr1 xe2 xk2 xf2 xl2 xp2 xq2 xo2 xr2 xe3 xk3 xf3 xl3 xp3 xq3 xo3 xr3 0 W14 ⟨Sl.own SxO125.out.1 HWx.out.1, Sl.own SxO125.out.2.1 HWx.out.2.1, Sl.own SxO125.out.2.2.1 HWx.out.2.2.1, Sl.own SxO125.out.2.2.2 HWx.out.2.2.2⟩ ⟨Sl.own SxO225.out.1 HWx.out.1, Sl.own SxO225.out.2.1 HWx.out.2.1, Sl.own SxO225.out.2.2.1 HWx.out.2.2.1, Sl.own SxO225.out.2.2.2 HWx.out.2.2.2⟩ SxD25.out (by have := HFx.out.1; omega) (by have := HFx.out.2.1; omega) (by have := HFx.out.2.2.1; omega) (by have := HFx.out.2.2.2; omega)  )
  have clx1_0 : W14.cell? ⟨W11.heap.size, 0, none⟩ = some (.bool xs_) := Hx125.out.cell 0
  have clx1_1 : W14.cell? ⟨W11.heap.size, 1, none⟩ = some (.slice xe1 xz1.length xk1) := Hx125.out.cell 1
  have clx1_2 : W14.cell? ⟨W11.heap.size, 2, none⟩ = some (.slice xf1 xd1.length xl1) := Hx125.out.cell 2
  have clx1_3 : W14.cell? ⟨W11.heap.size, 3, none⟩ = some (.bool xt_) := Hx125.out.cell 3
  have clx1_4 : W14.cell? ⟨W11.heap.size, 4, none⟩ = some (.slice xp1 xz2.length xq1) := Hx125.out.cell 4
  have clx1_5 : W14.cell? ⟨W11.heap.size, 5, none⟩ = some (.slice xo1 xd2.length xr1) := Hx125.out.cell 5
  have clx2_0 : W14.cell? ⟨W11.heap.size + 1, 0, none⟩ = some (.bool xs_) := Hx225.out.cell 0
  have clx2_1 : W14.cell? ⟨W11.heap.size + 1, 1, none⟩ = some (.slice xe2 xz1.length xk2) := Hx225.out.cell 1
  have clx2_2 : W14.cell? ⟨W11.heap.size + 1, 2, none⟩ = some (.slice xf2 xd1.length xl2) := Hx225.out.cell 2
  have clx2_3 : W14.cell? ⟨W11.heap.size + 1, 3, none⟩ = some (.bool xt_) := Hx225.out.cell 3
  have clx2_4 : W14.cell? ⟨W11.heap.size + 1, 4, none⟩ = some (.slice xp2 xz2.length xq2) := Hx225.out.cell 4
  have clx2_5 : W14.cell? ⟨W11.heap.size + 1, 5, none⟩ = some (.slice xo2 xd2.length xr2) := Hx225.out.cell 5
  have clx3_0 : W14.cell? ⟨W12.heap.size, 0, none⟩ = some (.bool xs_) := Hx325.out.cell 0
  have clx3_1 : W14.cell? ⟨W12.heap.size, 1, none⟩ = some (.slice xe3 xz1.length xk3) := Hx325.out.cell 1
  have clx3_2 : W14.cell? ⟨W12.heap.size, 2, none⟩ = some (.slice xf3 xd1.length xl3) := Hx325.out.cell 2
  have clx3_3 : W14.cell? ⟨W12.heap.size, 3, none⟩ = some (.bool xt_) := Hx325.out.cell 3
  have clx3_4 : W14.cell? ⟨W12.heap.size, 4, none⟩ = some (.slice xp3 xz2.length xq3) := Hx325.out.cell 4
  have clx3_5 : W14.cell? ⟨W12.heap.size, 5, none⟩ = some (.slice xo3 xd2.length xr3) := Hx325.out.cell 5
  go_wp2_with fail
  refine Calls.mono HC.out ?_
  rintro e W15 ⟨rfl, hb⟩
  clear clx1_0 clx1_1 clx1_2 clx1_3 clx1_4 clx1_5 clx2_0 clx2_1 clx2_2 clx2_3 clx2_4 clx2_5 clx3_0 clx3_1 clx3_2 clx3_3 clx3_4 clx3_5
  clear HC
  have HW26 := hid (bt HW25.out hb)
  have Z26 := hid (Below.size hb)
  have HA26 := hid (HA25.out.later hb HA25.out.lt)
  have HB26 := hid (HB25.out.later hb HB25.out.lt)
  have HP26 := hid (HP25.out.later hb HP25.out.lt)
  have HQ26 := hid (HQ25.out.later hb HQ25.out.lt)
  have Hc_126 := hid (Hc_125.out.later hb Hc_125.out.lt)
  have Hc_226 := hid (Hc_225.out.later hb Hc_225.out.lt)
  have Hc_326 := hid (Hc_325.out.later hb Hc_325.out.lt)
  have Hn_126 := hid (Hn_125.out.later hb Hn_125.out.lt)
  have Hn_226 := hid (Hn_225.out.later hb Hn_225.out.lt)
  have Hn_326 := hid (Hn_325.out.later hb Hn_325.out.lt)
  have Hm126 := hid (Hm125.out.later hb Hm125.out.lt)
  have Hm226 := hid (Hm225.out.later hb Hm225.out.lt)
  have Hm326 := hid (Hm325.out.later hb Hm325.out.lt)
  have Hx126 := hid (Hx125.out.later hb Hx125.out.lt)
  have Hx226 := hid (Hx225.out.later hb Hx225.out.lt)
  have Hx326 := hid (Hx325.out.later hb Hx325.out.lt)
  have SRA26 := hid (And.intro (SRA25.out.1.later hb) (And.intro (SRA25.out.2.1.later hb) (And.intro (SRA25.out.2.2.1.later hb) (SRA25.out.2.2.2.later hb))))
  have SRB26 := hid (And.intro (SRB25.out.1.later hb) (And.intro (SRB25.out.2.1.later hb) (And.intro (SRB25.out.2.2.1.later hb) (SRB25.out.2.2.2.later hb))))
  have SLA26 := hid (And.intro (owns_later SLA25.out.1 hb) (And.intro (owns_later SLA25.out.2.1 hb) (And.intro (owns_later SLA25.out.2.2.1 hb) (owns_later SLA25.out.2.2.2 hb))))
  have SLB26 := hid (And.intro (owns_later SLB25.out.1 hb) (And.intro (owns_later SLB25.out.2.1 hb) (And.intro (owns_later SLB25.out.2.2.1 hb) (owns_later SLB25.out.2.2.2 hb))))
  have Sc_O126 := hid (And.intro (owns_later Sc_O125.out.1 hb) (And.intro (owns_later Sc_O125.out.2.1 hb) (And.intro (owns_later Sc_O125.out.2.2.1 hb) (owns_later Sc_O125.out.2.2.2 hb))))
  have Sc_O226 := hid (And.intro (owns_later Sc_O225.out.1 hb) (And.intro (owns_later Sc_O225.out.2.1 hb) (And.intro (owns_later Sc_O225.out.2.2.1 hb) (owns_later Sc_O225.out.2.2.2 hb))))
  have Sc_D26 := hid (And.intro (Sc_D25.out.1.later hb) (And.intro (Sc_D25.out.2.1.later hb) (And.intro (Sc_D25.out.2.2.1.later hb) (Sc_D25.out.2.2.2.later hb))))
  have Sn_O126 := hid (And.intro (owns_later Sn_O125.out.1 hb) (And.intro (owns_later Sn_O125.out.2.1 hb) (And.intro (owns_later Sn_O125.out.2.2.1 hb) (owns_later Sn_O125.out.2.2.2 hb))))
  have Sn_O226 := hid (And.intro (owns_later Sn_O225.out.1 hb) (And.intro (owns_later Sn_O225.out.2.1 hb) (And.intro (owns_later Sn_O225.out.2.2.1 hb) (owns_later Sn_O225.out.2.2.2 hb))))
  have Sn_D26 := hid (And.intro (Sn_D25.out.1.later hb) (And.intro (Sn_D25.out.2.1.later hb) (And.intro (Sn_D25.out.2.2.1.later hb) (Sn_D25.out.2.2.2.later hb))))
  have SxO126 := hid (And.intro (owns_later SxO125.out.1 hb) (And.intro (owns_later SxO125.out.2.1 hb) (And.intro (owns_later SxO125.out.2.2.1 hb) (owns_later SxO125.out.2.2.2 hb))))
  have SxO226 := hid (And.intro (owns_later SxO225.out.1 hb) (And.intro (owns_later SxO225.out.2.1 hb) (And.intro (owns_later SxO225.out.2.2.1 hb) (owns_later SxO225.out.2.2.2 hb))))
  have SxD26 := hid (And.intro (SxD25.out.1.later hb) (And.intro (SxD25.out.2.1.later hb) (And.intro (SxD25.out.2.2.1.later hb) (SxD25.out.2.2.2.later hb))))
  clear HW25 HA25 HB25 HP25 HQ25 Hc_125 Hc_225 Hc_325 Hn_125 Hn_225 Hn_325 Hm125 Hm225 Hm325 Hx125 Hx225 Hx325 SRA25 SRB25 SLA25 SLB25 Sc_O125 Sc_O225 Sc_D25 Sn_O125 Sn_O225 Sn_D25 SxO125 SxO225 SxD25
  have SmO126 := hid (And.intro (owns_later SmO125.out.1 hb) (owns_later SmO125.out.2 hb))
  clear SmO125
  have SmO226 := hid (And.intro (owns_later SmO225.out.1 hb) (owns_later SmO225.out.2 hb))
  clear SmO225
  have SmO326 := hid (And.intro (owns_later SmO325.out.1 hb) (owns_later SmO325.out.2 hb))
  clear SmO325
  clear hb
  have HC := hid (sameRatio_eq ms _ _ _ _ mz md W15 (Sl.own SmO126.out.1 HWm.out.1) (Sl.own SmO126.out.2 HWm.out.2) (Sl.own SmO326.out.1 HWm.out.1) (Sl.own SmO326.out.2 HWm.out.2) HLm.out.1 HLm.out.2)
  have clm1_0 : W15.cell? ⟨W7.heap.size, 0, none⟩ = some (.bool ms) := Hm126.out.cell 0
  have clm1_1 : W15.cell? ⟨W7.heap.size, 1, none⟩ = some (.slice me1 mz.length mk1) := Hm126.out.cell 1
  have clm1_2 : W15.cell? ⟨W7.heap.size, 2, none⟩ = some (.slice mf1 md.length ml1) := Hm126.out.cell 2
  have clm3_0 : W15.cell? ⟨W9.heap.size, 0, none⟩ = some (.bool ms) := Hm326.out.cell 0
  have clm3_1 : W15.cell? ⟨W9.heap.size, 1, none⟩ = some (.slice me3 mz.length mk3) := Hm326.out.cell 1
  have clm3_2 : W15.cell? ⟨W9.heap.size, 2, none⟩ = some (.slice mf3 md.length ml3) := Hm326.out.cell 2
  go_wp2_with fail
  refine Calls.mono HC.out ?_
  rintro e W16 ⟨rfl, hb⟩
  clear clm1_0 clm1_1 clm1_2 clm3_0 clm3_1 clm3_2
  clear HC
  have HW27 := hid (bt HW26.out hb)
  have Z27 := hid (Below.size hb)
  have HA27 := hid (HA26.out.later hb HA26.out.lt)
  have HB27 := hid (HB26.out.later hb HB26.out.lt)
  have HP27 := hid (HP26.out.later hb HP26.out.lt)
  have HQ27 := hid (HQ26.out.later hb HQ26.out.lt)
  have Hc_127 := hid (Hc_126.out.later hb Hc_126.out.lt)
  have Hc_227 := hid (Hc_226.out.later hb Hc_226.out.lt)
  have Hc_327 := hid (Hc_326.out.later hb Hc_326.out.lt)
  have Hn_127 := hid (Hn_126.out.later hb Hn_126.out.lt)
  have Hn_227 := hid (Hn_226.out.later hb Hn_226.out.lt)
  have Hn_327 := hid (Hn_326.out.later hb Hn_326.out.lt)
  have Hm127 := hid (Hm126.out.later hb Hm126.out.lt)
  have Hm227 := hid (Hm226.out.later hb Hm226.out.lt)
  have Hm327 := hid (Hm326.out.later hb Hm326.out.lt)
  have Hx127 := hid (Hx126.out.later hb Hx126.out.lt)
  have Hx227 := hid (Hx226.out.later hb Hx226.out.lt)
  have Hx327 := hid (Hx326.out.later hb Hx326.out.lt)
  have SRA27 := hid (And.intro (SRA26.out.1.later hb) (And.intro (SRA26.out.2.1.later hb) (And.intro (SRA26.out.2.2.1.later hb) (SRA26.out.2.2.2.later hb))))
  have SRB27 := hid (And.intro (SRB26.out.1.later hb) (And.intro (SRB26.out.2.1.later hb) (And.intro (SRB26.out.2.2.1.later hb) (SRB26.out.2.2.2.later hb))))
  have SLA27 := hid (And.intro (owns_later SLA26.out.1 hb) (And.intro (owns_later SLA26.out.2.1 hb) (And.intro (owns_later SLA26.out.2.2.1 hb) (owns_later SLA26.out.2.2.2 hb))))
  have SLB27 := hid (And.intro (owns_later SLB26.out.1 hb) (And.intro (owns_later SLB26.out.2.1 hb) (And.intro (owns_later SLB26.out.2.2.1 hb) (owns_later SLB26.out.2.2.2 hb))))
  have Sc_O127 := hid (And.intro (owns_later Sc_O126.out.1 hb) (And.intro (owns_later Sc_O126.out.2.1 hb) (And.intro (owns_later Sc_O126.out.2.2.1 hb) (owns_later Sc_O126.out.2.2.2 hb))))
  have Sc_O227 := hid (And.intro (owns_later Sc_O226.out.1 hb) (And.intro (owns_later Sc_O226.out.2.1 hb) (And.intro (owns_later Sc_O226.out.2.2.1 hb) (owns_later Sc_O226.out.2.2.2 hb))))
  have Sc_D27 := hid (And.intro (Sc_D26.out.1.later hb) (And.intro (Sc_D26.out.2.1.later hb) (And.intro (Sc_D26.out.2.2.1.later hb) (Sc_D26.out.2.2.2.later hb))))
  have Sn_O127 := hid (And.intro (owns_later Sn_O126.out.1 hb) (And.intro (owns_later Sn_O126.out.2.1 hb) (And.intro (owns_later Sn_O126.out.2.2.1 hb) (owns_later Sn_O126.out.2.2.2 hb))))
  have Sn_O227 := hid (And.intro (owns_later Sn_O226.out.1 hb) (And.intro (owns_later Sn_O226.out.2.1 hb) (And.intro (owns_later Sn_O226.out.2.2.1 hb) (owns_later Sn_O226.out.2.2.2 hb))))
  have Sn_D27 := hid (And.intro (Sn_D26.out.1.later hb) (And.intro (Sn_D26.out.2.1.later hb) (And.intro (Sn_D26.out.2.2.1.later hb) (Sn_D26.out.2.2.2.later hb))))
  have SxO127 := hid (And.intro (owns_later SxO126.out.1 hb) (And.intro (owns_later SxO126.out.2.1 hb) (And.intro (owns_later SxO126.out.2.2.1 hb) (owns_later SxO126.out.2.2.2 hb))))
  have SxO227 := hid (And.intro (owns_later SxO226.out.1 hb) (And.intro (owns_later SxO226.out.2.1 hb) (And.intro (owns_later SxO226.out.2.2.1 hb) (owns_later SxO226.out.2.2.2 hb))))
  have SxD27 := hid (And.intro (SxD26.out.1.later hb) (And.intro (SxD26.out.2.1.later hb) (And.intro (SxD26.out.2.2.1.later hb) (SxD26.out.2.2.2.later hb))))
  clear HW26 HA26 HB26 HP26 HQ26 Hc_126 Hc_226 Hc_326 Hn_126 Hn_226 Hn_326 Hm126 Hm226 Hm326 Hx126 Hx226 Hx326 SRA26 SRB26 SLA26 SLB26 Sc_O126 Sc_O226 Sc_D26 Sn_O126 Sn_O226 Sn_D26 SxO126 SxO226 SxD26
  have SmO127 := hid (And.intro (owns_later SmO126.out.1 hb) (owns_later SmO126.out.2 hb))
  clear SmO126
  have SmO227 := hid (And.intro (owns_later SmO226.out.1 hb) (owns_later SmO226.out.2 hb))
  clear SmO226
  have SmO327 := hid (And.intro (owns_later SmO326.out.1 hb) (owns_later SmO326.out.2 hb))
  clear SmO326
  clear hb
  have HC := hid (sameRatio_eq ms _ _ _ _ mz md W16 (Sl.own SmO227.out.1 HWm.out.1) (Sl.own SmO227.out.2 HWm.out.2) (Sl.own SmO327.out.1 HWm.out.1) (Sl.own SmO327.out.2 HWm.out.2) HLm.out.1 HLm.out.2)
  have clm2_0 : W16.cell? ⟨W8.heap.size, 0, none⟩ = some (.bool ms) := Hm227.out.cell 0
  have clm2_1 : W16.cell? ⟨W8.heap.size, 1, none⟩ = some (.slice me2 mz.length mk2) := Hm227.out.cell 1
  have clm2_2 : W16.cell? ⟨W8.heap.size, 2, none⟩ = some (.slice mf2 md.length ml2) := Hm227.out.cell 2
  have clm3_0 : W16.cell? ⟨W9.heap.size, 0, none⟩ = some (.bool ms) := Hm327.out.cell 0
  have clm3_1 : W16.cell? ⟨W9.heap.size, 1, none⟩ = some (.slice me3 mz.length mk3) := Hm327.out.cell 1
  have clm3_2 : W16.cell? ⟨W9.heap.size, 2, none⟩ = some (.slice mf3 md.length ml3) := Hm327.out.cell 2
  go_wp2_with fail
  refine Calls.mono HC.out ?_
  rintro e W17 ⟨rfl, hb⟩
  clear clm2_0 clm2_1 clm2_2 clm3_0 clm3_1 clm3_2
  clear HC
  have HW28 := hid (bt HW27.out hb)
  have Z28 := hid (Below.size hb)
  have HA28 := hid (HA27.out.later hb HA27.out.lt)
  have HB28 := hid (HB27.out.later hb HB27.out.lt)
  have HP28 := hid (HP27.out.later hb HP27.out.lt)
  have HQ28 := hid (HQ27.out.later hb HQ27.out.lt)
  have Hc_128 := hid (Hc_127.out.later hb Hc_127.out.lt)
  have Hc_228 := hid (Hc_227.out.later hb Hc_227.out.lt)
  have Hc_328 := hid (Hc_327.out.later hb Hc_327.out.lt)
  have Hn_128 := hid (Hn_127.out.later hb Hn_127.out.lt)
  have Hn_228 := hid (Hn_227.out.later hb Hn_227.out.lt)
  have Hn_328 := hid (Hn_327.out.later hb Hn_327.out.lt)
  have Hm128 := hid (Hm127.out.later hb Hm127.out.lt)
  have Hm228 := hid (Hm227.out.later hb Hm227.out.lt)
  have Hm328 := hid (Hm327.out.later hb Hm327.out.lt)
  have Hx128 := hid (Hx127.out.later hb Hx127.out.lt)
  have Hx228 := hid (Hx227.out.later hb Hx227.out.lt)
  have Hx328 := hid (Hx327.out.later hb Hx327.out.lt)
  have SRA28 := hid (And.intro (SRA27.out.1.later hb) (And.intro (SRA27.out.2.1.later hb) (And.intro (SRA27.out.2.2.1.later hb) (SRA27.out.2.2.2.later hb))))
  have SRB28 := hid (And.intro (SRB27.out.1.later hb) (And.intro (SRB27.out.2.1.later hb) (And.intro (SRB27.out.2.2.1.later hb) (SRB27.out.2.2.2.later hb))))
  have SLA28 := hid (And.intro (owns_later SLA27.out.1 hb) (And.intro (owns_later SLA27.out.2.1 hb) (And.intro (owns_later SLA27.out.2.2.1 hb) (owns_later SLA27.out.2.2.2 hb))))
  have SLB28 := hid (And.intro (owns_later SLB27.out.1 hb) (And.intro (owns_later SLB27.out.2.1 hb) (And.intro (owns_later SLB27.out.2.2.1 hb) (owns_later SLB27.out.2.2.2 hb))))
  have Sc_O128 := hid (And.intro (owns_later Sc_O127.out.1 hb) (And.intro (owns_later Sc_O127.out.2.1 hb) (And.intro (owns_later Sc_O127.out.2.2.1 hb) (owns_later Sc_O127.out.2.2.2 hb))))
  have Sc_O228 := hid (And.intro (owns_later Sc_O227.out.1 hb) (And.intro (owns_later Sc_O227.out.2.1 hb) (And.intro (owns_later Sc_O227.out.2.2.1 hb) (owns_later Sc_O227.out.2.2.2 hb))))
  have Sc_D28 := hid (And.intro (Sc_D27.out.1.later hb) (And.intro (Sc_D27.out.2.1.later hb) (And.intro (Sc_D27.out.2.2.1.later hb) (Sc_D27.out.2.2.2.later hb))))
  have Sn_O128 := hid (And.intro (owns_later Sn_O127.out.1 hb) (And.intro (owns_later Sn_O127.out.2.1 hb) (And.intro (owns_later Sn_O127.out.2.2.1 hb) (owns_later Sn_O127.out.2.2.2 hb))))
  have Sn_O228 := hid (And.intro (owns_later Sn_O227.out.1 hb) (And.intro (owns_later Sn_O227.out.2.1 hb) (And.intro (owns_later Sn_O227.out.2.2.1 hb) (owns_later Sn_O227.out.2.2.2 hb))))
  have Sn_D28 := hid (And.intro (Sn_D27.out.1.later hb) (And.intro (Sn_D27.out.2.1.later hb) (And.intro (Sn_D27.out.2.2.1.later hb) (Sn_D27.out.2.2.2.later hb))))
  have SxO128 := hid (And.intro (owns_later SxO127.out.1 hb) (And.intro (owns_later SxO127.out.2.1 hb) (And.intro (owns_later SxO127.out.2.2.1 hb) (owns_later SxO127.out.2.2.2 hb))))
  have SxO228 := hid (And.intro (owns_later SxO227.out.1 hb) (And.intro (owns_later SxO227.out.2.1 hb) (And.intro (owns_later SxO227.out.2.2.1 hb) (owns_later SxO227.out.2.2.2 hb))))
  have SxD28 := hid (And.intro (SxD27.out.1.later hb) (And.intro (SxD27.out.2.1.later hb) (And.intro (SxD27.out.2.2.1.later hb) (SxD27.out.2.2.2.later hb))))
  clear HW27 HA27 HB27 HP27 HQ27 Hc_127 Hc_227 Hc_327 Hn_127 Hn_227 Hn_327 Hm127 Hm227 Hm327 Hx127 Hx227 Hx327 SRA27 SRB27 SLA27 SLB27 Sc_O127 Sc_O227 Sc_D27 Sn_O127 Sn_O227 Sn_D27 SxO127 SxO227 SxD27
  have SmO128 := hid (And.intro (owns_later SmO127.out.1 hb) (owns_later SmO127.out.2 hb))
  clear SmO127
  have SmO228 := hid (And.intro (owns_later SmO227.out.1 hb) (owns_later SmO227.out.2 hb))
  clear SmO227
  have SmO328 := hid (And.intro (owns_later SmO327.out.1 hb) (owns_later SmO327.out.2 hb))
  clear SmO327
  clear hb
  have HC := hid (kkeptGauss_any n a ca xs b cb ys m c cc us d cd vs g1 cg1 g2 cg2 g3 cg3 g4 cg4 _ W17 SRA28.out.1 SRA28.out.2.1 SRA28.out.2.2.1 SRA28.out.2.2.2 (by have := HLA.out.1.1; omega) (by have := HLA.out.1.2.1; omega) (by have := HLA.out.1.2.2.1; omega) (by have := HLA.out.1.2.2.2; omega) SLA28.out.1 SLA28.out.2.1 SLA28.out.2.2.1 SLA28.out.2.2.2)
  have clP_0 : W17.cell? ⟨p, 0, none⟩ = some (.bool n) := HP28.out.cell 0
  have clP_1 : W17.cell? ⟨p, 1, none⟩ = some (.slice (some ⟨g1, 0, none⟩) xs.length cg1) := HP28.out.cell 1
  have clP_2 : W17.cell? ⟨p, 2, none⟩ = some (.slice (some ⟨g2, 0, none⟩) ys.length cg2) := HP28.out.cell 2
  have clP_3 : W17.cell? ⟨p, 3, none⟩ = some (.bool m) := HP28.out.cell 3
  have clP_4 : W17.cell? ⟨p, 4, none⟩ = some (.slice (some ⟨g3, 0, none⟩) us.length cg3) := HP28.out.cell 4
  have clP_5 : W17.cell? ⟨p, 5, none⟩ = some (.slice (some ⟨g4, 0, none⟩) vs.length cg4) := HP28.out.cell 5
  have clA_0 : W17.cell? ⟨w.heap.size, 0, none⟩ = some (.bool n) := HA28.out.cell 0
  have clA_1 : W17.cell? ⟨w.heap.size, 1, none⟩ = some (.slice a xs.length ca) := HA28.out.cell 1
  have clA_2 : W17.cell? ⟨w.heap.size, 2, none⟩ = some (.slice b ys.length cb) := HA28.out.cell 2
  have clA_3 : W17.cell? ⟨w.heap.size, 3, none⟩ = some (.bool m) := HA28.out.cell 3
  have clA_4 : W17.cell? ⟨w.heap.size, 4, none⟩ = some (.slice c us.length cc) := HA28.out.cell 4
  have clA_5 : W17.cell? ⟨w.heap.size, 5, none⟩ = some (.slice d vs.length cd) := HA28.out.cell 5
  go_wp2_with fail
  refine Calls.mono HC.out ?_
  rintro e W18 ⟨rfl, hb⟩
  clear clP_0 clP_1 clP_2 clP_3 clP_4 clP_5 clA_0 clA_1 clA_2 clA_3 clA_4 clA_5
  clear HC
  have HW29 := hid (bt HW28.out hb)
  have Z29 := hid (Below.size hb)
  have HA29 := hid (HA28.out.later hb HA28.out.lt)
  have HB29 := hid (HB28.out.later hb HB28.out.lt)
  have HP29 := hid (HP28.out.later hb HP28.out.lt)
  have HQ29 := hid (HQ28.out.later hb HQ28.out.lt)
  have Hc_129 := hid (Hc_128.out.later hb Hc_128.out.lt)
  have Hc_229 := hid (Hc_228.out.later hb Hc_228.out.lt)
  have Hc_329 := hid (Hc_328.out.later hb Hc_328.out.lt)
  have Hn_129 := hid (Hn_128.out.later hb Hn_128.out.lt)
  have Hn_229 := hid (Hn_228.out.later hb Hn_228.out.lt)
  have Hn_329 := hid (Hn_328.out.later hb Hn_328.out.lt)
  have Hm129 := hid (Hm128.out.later hb Hm128.out.lt)
  have Hm229 := hid (Hm228.out.later hb Hm228.out.lt)
  have Hm329 := hid (Hm328.out.later hb Hm328.out.lt)
  have Hx129 := hid (Hx128.out.later hb Hx128.out.lt)
  have Hx229 := hid (Hx228.out.later hb Hx228.out.lt)
  have Hx329 := hid (Hx328.out.later hb Hx328.out.lt)
  have SRA29 := hid (And.intro (SRA28.out.1.later hb) (And.intro (SRA28.out.2.1.later hb) (And.intro (SRA28.out.2.2.1.later hb) (SRA28.out.2.2.2.later hb))))
  have SRB29 := hid (And.intro (SRB28.out.1.later hb) (And.intro (SRB28.out.2.1.later hb) (And.intro (SRB28.out.2.2.1.later hb) (SRB28.out.2.2.2.later hb))))
  have SLA29 := hid (And.intro (owns_later SLA28.out.1 hb) (And.intro (owns_later SLA28.out.2.1 hb) (And.intro (owns_later SLA28.out.2.2.1 hb) (owns_later SLA28.out.2.2.2 hb))))
  have SLB29 := hid (And.intro (owns_later SLB28.out.1 hb) (And.intro (owns_later SLB28.out.2.1 hb) (And.intro (owns_later SLB28.out.2.2.1 hb) (owns_later SLB28.out.2.2.2 hb))))
  have Sc_O129 := hid (And.intro (owns_later Sc_O128.out.1 hb) (And.intro (owns_later Sc_O128.out.2.1 hb) (And.intro (owns_later Sc_O128.out.2.2.1 hb) (owns_later Sc_O128.out.2.2.2 hb))))
  have Sc_O229 := hid (And.intro (owns_later Sc_O228.out.1 hb) (And.intro (owns_later Sc_O228.out.2.1 hb) (And.intro (owns_later Sc_O228.out.2.2.1 hb) (owns_later Sc_O228.out.2.2.2 hb))))
  have Sc_D29 := hid (And.intro (Sc_D28.out.1.later hb) (And.intro (Sc_D28.out.2.1.later hb) (And.intro (Sc_D28.out.2.2.1.later hb) (Sc_D28.out.2.2.2.later hb))))
  have Sn_O129 := hid (And.intro (owns_later Sn_O128.out.1 hb) (And.intro (owns_later Sn_O128.out.2.1 hb) (And.intro (owns_later Sn_O128.out.2.2.1 hb) (owns_later Sn_O128.out.2.2.2 hb))))
  have Sn_O229 := hid (And.intro (owns_later Sn_O228.out.1 hb) (And.intro (owns_later Sn_O228.out.2.1 hb) (And.intro (owns_later Sn_O228.out.2.2.1 hb) (owns_later Sn_O228.out.2.2.2 hb))))
  have Sn_D29 := hid (And.intro (Sn_D28.out.1.later hb) (And.intro (Sn_D28.out.2.1.later hb) (And.intro (Sn_D28.out.2.2.1.later hb) (Sn_D28.out.2.2.2.later hb))))
  have SxO129 := hid (And.intro (owns_later SxO128.out.1 hb) (And.intro (owns_later SxO128.out.2.1 hb) (And.intro (owns_later SxO128.out.2.2.1 hb) (owns_later SxO128.out.2.2.2 hb))))
  have SxO229 := hid (And.intro (owns_later SxO228.out.1 hb) (And.intro (owns_later SxO228.out.2.1 hb) (And.intro (owns_later SxO228.out.2.2.1 hb) (owns_later SxO228.out.2.2.2 hb))))
  have SxD29 := hid (And.intro (SxD28.out.1.later hb) (And.intro (SxD28.out.2.1.later hb) (And.intro (SxD28.out.2.2.1.later hb) (SxD28.out.2.2.2.later hb))))
  clear HW28 HA28 HB28 HP28 HQ28 Hc_128 Hc_228 Hc_328 Hn_128 Hn_228 Hn_328 Hm128 Hm228 Hm328 Hx128 Hx228 Hx328 SRA28 SRB28 SLA28 SLB28 Sc_O128 Sc_O228 Sc_D28 Sn_O128 Sn_O228 Sn_D28 SxO128 SxO228 SxD28
  have SmO129 := hid (And.intro (owns_later SmO128.out.1 hb) (owns_later SmO128.out.2 hb))
  clear SmO128
  have SmO229 := hid (And.intro (owns_later SmO228.out.1 hb) (owns_later SmO228.out.2 hb))
  clear SmO228
  have SmO329 := hid (And.intro (owns_later SmO328.out.1 hb) (owns_later SmO328.out.2 hb))
  clear SmO328
  clear hb
  have HC := hid (kkeptGauss_any n2 a2 ca2 xs2 b2 cb2 ys2 m2 c2 cc2 us2 d2 cd2 vs2 h1 ch1 h2 ch2 h3 ch3 h4 ch4 _ W18 SRB29.out.1 SRB29.out.2.1 SRB29.out.2.2.1 SRB29.out.2.2.2 (by have := HLA.out.2.1; omega) (by have := HLA.out.2.2.1; omega) (by have := HLA.out.2.2.2.1; omega) (by have := HLA.out.2.2.2.2; omega) SLB29.out.1 SLB29.out.2.1 SLB29.out.2.2.1 SLB29.out.2.2.2)
  have clQ_0 : W18.cell? ⟨q, 0, none⟩ = some (.bool n2) := HQ29.out.cell 0
  have clQ_1 : W18.cell? ⟨q, 1, none⟩ = some (.slice (some ⟨h1, 0, none⟩) xs2.length ch1) := HQ29.out.cell 1
  have clQ_2 : W18.cell? ⟨q, 2, none⟩ = some (.slice (some ⟨h2, 0, none⟩) ys2.length ch2) := HQ29.out.cell 2
  have clQ_3 : W18.cell? ⟨q, 3, none⟩ = some (.bool m2) := HQ29.out.cell 3
  have clQ_4 : W18.cell? ⟨q, 4, none⟩ = some (.slice (some ⟨h3, 0, none⟩) us2.length ch3) := HQ29.out.cell 4
  have clQ_5 : W18.cell? ⟨q, 5, none⟩ = some (.slice (some ⟨h4, 0, none⟩) vs2.length ch4) := HQ29.out.cell 5
  have clB_0 : W18.cell? ⟨w.heap.size + 1, 0, none⟩ = some (.bool n2) := HB29.out.cell 0
  have clB_1 : W18.cell? ⟨w.heap.size + 1, 1, none⟩ = some (.slice a2 xs2.length ca2) := HB29.out.cell 1
  have clB_2 : W18.cell? ⟨w.heap.size + 1, 2, none⟩ = some (.slice b2 ys2.length cb2) := HB29.out.cell 2
  have clB_3 : W18.cell? ⟨w.heap.size + 1, 3, none⟩ = some (.bool m2) := HB29.out.cell 3
  have clB_4 : W18.cell? ⟨w.heap.size + 1, 4, none⟩ = some (.slice c2 us2.length cc2) := HB29.out.cell 4
  have clB_5 : W18.cell? ⟨w.heap.size + 1, 5, none⟩ = some (.slice d2 vs2.length cd2) := HB29.out.cell 5
  go_wp2_with fail
  refine Calls.mono HC.out ?_
  rintro e W19 ⟨rfl, hb⟩
  clear clQ_0 clQ_1 clQ_2 clQ_3 clQ_4 clQ_5 clB_0 clB_1 clB_2 clB_3 clB_4 clB_5
  clear HC
  have HW30 := hid (bt HW29.out hb)
  have Z30 := hid (Below.size hb)
  have HA30 := hid (HA29.out.later hb HA29.out.lt)
  have HB30 := hid (HB29.out.later hb HB29.out.lt)
  have HP30 := hid (HP29.out.later hb HP29.out.lt)
  have HQ30 := hid (HQ29.out.later hb HQ29.out.lt)
  have Hc_130 := hid (Hc_129.out.later hb Hc_129.out.lt)
  have Hc_230 := hid (Hc_229.out.later hb Hc_229.out.lt)
  have Hc_330 := hid (Hc_329.out.later hb Hc_329.out.lt)
  have Hn_130 := hid (Hn_129.out.later hb Hn_129.out.lt)
  have Hn_230 := hid (Hn_229.out.later hb Hn_229.out.lt)
  have Hn_330 := hid (Hn_329.out.later hb Hn_329.out.lt)
  have Hm130 := hid (Hm129.out.later hb Hm129.out.lt)
  have Hm230 := hid (Hm229.out.later hb Hm229.out.lt)
  have Hm330 := hid (Hm329.out.later hb Hm329.out.lt)
  have Hx130 := hid (Hx129.out.later hb Hx129.out.lt)
  have Hx230 := hid (Hx229.out.later hb Hx229.out.lt)
  have Hx330 := hid (Hx329.out.later hb Hx329.out.lt)
  have SRA30 := hid (And.intro (SRA29.out.1.later hb) (And.intro (SRA29.out.2.1.later hb) (And.intro (SRA29.out.2.2.1.later hb) (SRA29.out.2.2.2.later hb))))
  have SRB30 := hid (And.intro (SRB29.out.1.later hb) (And.intro (SRB29.out.2.1.later hb) (And.intro (SRB29.out.2.2.1.later hb) (SRB29.out.2.2.2.later hb))))
  have SLA30 := hid (And.intro (owns_later SLA29.out.1 hb) (And.intro (owns_later SLA29.out.2.1 hb) (And.intro (owns_later SLA29.out.2.2.1 hb) (owns_later SLA29.out.2.2.2 hb))))
  have SLB30 := hid (And.intro (owns_later SLB29.out.1 hb) (And.intro (owns_later SLB29.out.2.1 hb) (And.intro (owns_later SLB29.out.2.2.1 hb) (owns_later SLB29.out.2.2.2 hb))))
  have Sc_O130 := hid (And.intro (owns_later Sc_O129.out.1 hb) (And.intro (owns_later Sc_O129.out.2.1 hb) (And.intro (owns_later Sc_O129.out.2.2.1 hb) (owns_later Sc_O129.out.2.2.2 hb))))
  have Sc_O230 := hid (And.intro (owns_later Sc_O229.out.1 hb) (And.intro (owns_later Sc_O229.out.2.1 hb) (And.intro (owns_later Sc_O229.out.2.2.1 hb) (owns_later Sc_O229.out.2.2.2 hb))))
  have Sc_D30 := hid (And.intro (Sc_D29.out.1.later hb) (And.intro (Sc_D29.out.2.1.later hb) (And.intro (Sc_D29.out.2.2.1.later hb) (Sc_D29.out.2.2.2.later hb))))
  have Sn_O130 := hid (And.intro (owns_later Sn_O129.out.1 hb) (And.intro (owns_later Sn_O129.out.2.1 hb) (And.intro (owns_later Sn_O129.out.2.2.1 hb) (owns_later Sn_O129.out.2.2.2 hb))))
  have Sn_O230 := hid (And.intro (owns_later Sn_O229.out.1 hb) (And.intro (owns_later Sn_O229.out.2.1 hb) (And.intro (owns_later Sn_O229.out.2.2.1 hb) (owns_later Sn_O229.out.2.2.2 hb))))
  have Sn_D30 := hid (And.intro (Sn_D29.out.1.later hb) (And.intro (Sn_D29.out.2.1.later hb) (And.intro (Sn_D29.out.2.2.1.later hb) (Sn_D29.out.2.2.2.later hb))))
  have SxO130 := hid (And.intro (owns_later SxO129.out.1 hb) (And.intro (owns_later SxO129.out.2.1 hb) (And.intro (owns_later SxO129.out.2.2.1 hb) (owns_later SxO129.out.2.2.2 hb))))
  have SxO230 := hid (And.intro (owns_later SxO229.out.1 hb) (And.intro (owns_later SxO229.out.2.1 hb) (And.intro (owns_later SxO229.out.2.2.1 hb) (owns_later SxO229.out.2.2.2 hb))))
  have SxD30 := hid (And.intro (SxD29.out.1.later hb) (And.intro (SxD29.out.2.1.later hb) (And.intro (SxD29.out.2.2.1.later hb) (SxD29.out.2.2.2.later hb))))
  clear HW29 HA29 HB29 HP29 HQ29 Hc_129 Hc_229 Hc_329 Hn_129 Hn_229 Hn_329 Hm129 Hm229 Hm329 Hx129 Hx229 Hx329 SRA29 SRB29 SLA29 SLB29 Sc_O129 Sc_O229 Sc_D29 Sn_O129 Sn_O229 Sn_D29 SxO129 SxO229 SxD29
  have SmO130 := hid (And.intro (owns_later SmO129.out.1 hb) (owns_later SmO129.out.2 hb))
  clear SmO129
  have SmO230 := hid (And.intro (owns_later SmO229.out.1 hb) (owns_later SmO229.out.2 hb))
  clear SmO229
  have SmO330 := hid (And.intro (owns_later SmO329.out.1 hb) (owns_later SmO329.out.2 hb))
  clear SmO329
  clear hb
  have hF := And.intro HFc.out (And.intro HFn.out (And.intro HGx.out (And.intro HGm.out HLA.out)))
  have hlen : ∀ j, j < 32 → ((fun j => ([xs, ys, us, vs, c_z1, c_d1, c_z2, c_d2, c_z1, c_d1, c_z2, c_d2, n_z1, n_d1, n_z2, n_d2, n_z1, n_d1, n_z2, n_d2, xz1, xd1, xz2, xd2, xz1, xd1, xz2, xd2, mz, md, mz, md] : List (List Int))[j]?.getD []) j).length ≤ 1099511627776 := fun j hj => by
    match j, hj with
    | 0, _ => show xs.length ≤ _; omega
    | 1, _ => show ys.length ≤ _; omega
    | 2, _ => show us.length ≤ _; omega
    | 3, _ => show vs.length ≤ _; omega
    | 4, _ => show c_z1.length ≤ _; omega
    | 5, _ => show c_d1.length ≤ _; omega
    | 6, _ => show c_z2.length ≤ _; omega
    | 7, _ => show c_d2.length ≤ _; omega
    | 8, _ => show c_z1.length ≤ _; omega
    | 9, _ => show c_d1.length ≤ _; omega
    | 10, _ => show c_z2.length ≤ _; omega
    | 11, _ => show c_d2.length ≤ _; omega
    | 12, _ => show n_z1.length ≤ _; omega
    | 13, _ => show n_d1.length ≤ _; omega
    | 14, _ => show n_z2.length ≤ _; omega
    | 15, _ => show n_d2.length ≤ _; omega
    | 16, _ => show n_z1.length ≤ _; omega
    | 17, _ => show n_d1.length ≤ _; omega
    | 18, _ => show n_z2.length ≤ _; omega
    | 19, _ => show n_d2.length ≤ _; omega
    | 20, _ => show xz1.length ≤ _; omega
    | 21, _ => show xd1.length ≤ _; omega
    | 22, _ => show xz2.length ≤ _; omega
    | 23, _ => show xd2.length ≤ _; omega
    | 24, _ => show xz1.length ≤ _; omega
    | 25, _ => show xd1.length ≤ _; omega
    | 26, _ => show xz2.length ≤ _; omega
    | 27, _ => show xd2.length ≤ _; omega
    | 28, _ => show mz.length ≤ _; omega
    | 29, _ => show md.length ≤ _; omega
    | 30, _ => show mz.length ≤ _; omega
    | 31, _ => show md.length ≤ _; omega
    | k_ + 32, h_ => exact absurd h_ (by omega)
  clear hF
  have hwd : ∀ j, j < 32 → Wd ((fun j => ([xs, ys, us, vs, c_z1, c_d1, c_z2, c_d2, c_z1, c_d1, c_z2, c_d2, n_z1, n_d1, n_z2, n_d2, n_z1, n_d1, n_z2, n_d2, xz1, xd1, xz2, xd2, xz1, xd1, xz2, xd2, mz, md, mz, md] : List (List Int))[j]?.getD []) j) := fun j hj => by
    match j, hj with
    | 0, _ => exact HWA.out.1
    | 1, _ => exact HWA.out.2.1
    | 2, _ => exact HWA.out.2.2.1
    | 3, _ => exact HWA.out.2.2.2
    | 4, _ => exact HWc.out.1
    | 5, _ => exact HWc.out.2.1
    | 6, _ => exact HWc.out.2.2.1
    | 7, _ => exact HWc.out.2.2.2
    | 8, _ => exact HWc.out.1
    | 9, _ => exact HWc.out.2.1
    | 10, _ => exact HWc.out.2.2.1
    | 11, _ => exact HWc.out.2.2.2
    | 12, _ => exact HWn.out.1
    | 13, _ => exact HWn.out.2.1
    | 14, _ => exact HWn.out.2.2.1
    | 15, _ => exact HWn.out.2.2.2
    | 16, _ => exact HWn.out.1
    | 17, _ => exact HWn.out.2.1
    | 18, _ => exact HWn.out.2.2.1
    | 19, _ => exact HWn.out.2.2.2
    | 20, _ => exact HWx.out.1
    | 21, _ => exact HWx.out.2.1
    | 22, _ => exact HWx.out.2.2.1
    | 23, _ => exact HWx.out.2.2.2
    | 24, _ => exact HWx.out.1
    | 25, _ => exact HWx.out.2.1
    | 26, _ => exact HWx.out.2.2.1
    | 27, _ => exact HWx.out.2.2.2
    | 28, _ => exact HWm.out.1
    | 29, _ => exact HWm.out.2
    | 30, _ => exact HWm.out.1
    | 31, _ => exact HWm.out.2
    | k_ + 32, h_ => exact absurd h_ (by omega)
  have zY := ZY.out
  have zX := ZX.out
  have zW := HBW.out.size
  have z1_ := Z1.out
  have z2_ := Z2.out
  have z3_ := Z3.out
  have z4_ := Z4.out
  have z5_ := Z5.out
  have z6_ := Z6.out
  have z7_ := Z7.out
  have z8_ := Z8.out
  have z9_ := Z9.out
  have z10_ := Z10.out
  have z11_ := Z11.out
  have z12_ := Z12.out
  have z13_ := Z13.out
  have z14_ := Z14.out
  have z15_ := Z15.out
  have z16_ := Z16.out
  have z17_ := Z17.out
  have z18_ := Z18.out
  have z19_ := Z19.out
  have z20_ := Z20.out
  have z21_ := Z21.out
  have z22_ := Z22.out
  have z23_ := Z23.out
  have z24_ := Z24.out
  have z25_ := Z25.out
  have z26_ := Z26.out
  have z27_ := Z27.out
  have z28_ := Z28.out
  have z29_ := Z29.out
  have z30_ := Z30.out
  have gbc_1 : w.heap.size ≤ y8.heap.size := by omega
  have gbc_2 : w.heap.size ≤ Yc_1.heap.size := by omega
  have gbn_1 : w.heap.size ≤ Yc_3.heap.size := by omega
  have gbn_2 : w.heap.size ≤ Yn_1.heap.size := by omega
  have gbx1 : w.heap.size ≤ Ym3.heap.size := by omega
  have gbx2 : w.heap.size ≤ W10.heap.size := by omega
  have gbm1 : w.heap.size ≤ Yn_3.heap.size := by omega
  have gbm2 : w.heap.size ≤ Ym1.heap.size := by omega
  have hown : ∀ j, j < 32 → W19.ownsRow w.heap.size 68 1 (.slice ((fun j => ([(some ⟨g1, 0, none⟩), (some ⟨g2, 0, none⟩), (some ⟨g3, 0, none⟩), (some ⟨g4, 0, none⟩), c_e1, c_f1, c_p1, c_o1, c_e2, c_f2, c_p2, c_o2, n_e1, n_f1, n_p1, n_o1, n_e2, n_f2, n_p2, n_o2, xe1, xf1, xp1, xo1, xe2, xf2, xp2, xo2, me1, mf1, me2, mf2] : List (Option Addr))[j]?.getD none) j) ((fun j => ([xs.length, ys.length, us.length, vs.length, c_z1.length, c_d1.length, c_z2.length, c_d2.length, c_z1.length, c_d1.length, c_z2.length, c_d2.length, n_z1.length, n_d1.length, n_z2.length, n_d2.length, n_z1.length, n_d1.length, n_z2.length, n_d2.length, xz1.length, xd1.length, xz2.length, xd2.length, xz1.length, xd1.length, xz2.length, xd2.length, mz.length, md.length, mz.length, md.length] : List Nat)[j]?.getD 0) j) ((fun j => ([cg1, cg2, cg3, cg4, c_k1, c_l1, c_q1, c_r1, c_k2, c_l2, c_q2, c_r2, n_k1, n_l1, n_q1, n_r1, n_k2, n_l2, n_q2, n_r2, xk1, xl1, xq1, xr1, xk2, xl2, xq2, xr2, mk1, ml1, mk2, ml2] : List Nat)[j]?.getD 0) j)) ((fun j => ([xs, ys, us, vs, c_z1, c_d1, c_z2, c_d2, c_z1, c_d1, c_z2, c_d2, n_z1, n_d1, n_z2, n_d2, n_z1, n_d1, n_z2, n_d2, xz1, xd1, xz2, xd2, xz1, xd1, xz2, xd2, mz, md, mz, md] : List (List Int))[j]?.getD []) j).length (((fun j => ([xs, ys, us, vs, c_z1, c_d1, c_z2, c_d2, c_z1, c_d1, c_z2, c_d2, n_z1, n_d1, n_z2, n_d2, n_z1, n_d1, n_z2, n_d2, xz1, xd1, xz2, xd2, xz1, xd1, xz2, xd2, mz, md, mz, md] : List (List Int))[j]?.getD []) j).map (Value.int .u32)) := fun j hj => by
    match j, hj with
    | 0, _ => exact owns_base (klentf SLA30.out.1) zW
    | 1, _ => exact owns_base (klentf SLA30.out.2.1) zW
    | 2, _ => exact owns_base (klentf SLA30.out.2.2.1) zW
    | 3, _ => exact owns_base (klentf SLA30.out.2.2.2) zW
    | 4, _ => exact owns_base Sc_O130.out.1 gbc_1
    | 5, _ => exact owns_base Sc_O130.out.2.1 gbc_1
    | 6, _ => exact owns_base Sc_O130.out.2.2.1 gbc_1
    | 7, _ => exact owns_base Sc_O130.out.2.2.2 gbc_1
    | 8, _ => exact owns_base Sc_O230.out.1 gbc_2
    | 9, _ => exact owns_base Sc_O230.out.2.1 gbc_2
    | 10, _ => exact owns_base Sc_O230.out.2.2.1 gbc_2
    | 11, _ => exact owns_base Sc_O230.out.2.2.2 gbc_2
    | 12, _ => exact owns_base Sn_O130.out.1 gbn_1
    | 13, _ => exact owns_base Sn_O130.out.2.1 gbn_1
    | 14, _ => exact owns_base Sn_O130.out.2.2.1 gbn_1
    | 15, _ => exact owns_base Sn_O130.out.2.2.2 gbn_1
    | 16, _ => exact owns_base Sn_O230.out.1 gbn_2
    | 17, _ => exact owns_base Sn_O230.out.2.1 gbn_2
    | 18, _ => exact owns_base Sn_O230.out.2.2.1 gbn_2
    | 19, _ => exact owns_base Sn_O230.out.2.2.2 gbn_2
    | 20, _ => exact owns_base SxO130.out.1 gbx1
    | 21, _ => exact owns_base SxO130.out.2.1 gbx1
    | 22, _ => exact owns_base SxO130.out.2.2.1 gbx1
    | 23, _ => exact owns_base SxO130.out.2.2.2 gbx1
    | 24, _ => exact owns_base SxO230.out.1 gbx2
    | 25, _ => exact owns_base SxO230.out.2.1 gbx2
    | 26, _ => exact owns_base SxO230.out.2.2.1 gbx2
    | 27, _ => exact owns_base SxO230.out.2.2.2 gbx2
    | 28, _ => exact owns_base SmO130.out.1 gbm1
    | 29, _ => exact owns_base SmO130.out.2 gbm1
    | 30, _ => exact owns_base SmO230.out.1 gbm2
    | 31, _ => exact owns_base SmO230.out.2 gbm2
    | k_ + 32, h_ => exact absurd h_ (by omega)
  have iw0 : Within (.slice (some ⟨g1, 0, none⟩) xs.length cg1) w2.heap.size wc.heap.size := fun g hg => by have h1 := HO.out; simp [Value.ownBlock] at hg; omega
  have iw1 : Within (.slice (some ⟨g2, 0, none⟩) ys.length cg2) w2.heap.size wc.heap.size := fun g hg => by have h1 := HO.out; simp [Value.ownBlock] at hg; omega
  have iw2 : Within (.slice (some ⟨g3, 0, none⟩) us.length cg3) w2.heap.size wc.heap.size := fun g hg => by have h1 := HO.out; simp [Value.ownBlock] at hg; omega
  have iw3 : Within (.slice (some ⟨g4, 0, none⟩) vs.length cg4) w2.heap.size wc.heap.size := fun g hg => by have h1 := HO.out; simp [Value.ownBlock] at hg; omega
  have pa : Kp4 (.slice (some ⟨g1, 0, none⟩) xs.length cg1) (.slice (some ⟨g2, 0, none⟩) ys.length cg2) (.slice (some ⟨g3, 0, none⟩) us.length cg3) (.slice (some ⟨g4, 0, none⟩) vs.length cg4) := by
    have h1 := HO.out
    refine ⟨.inr ?_, .inr ?_, .inr ?_, .inr ?_, .inr ?_, .inr ?_⟩ <;> simp [Value.ownBlock] <;> omega
  have hap := kp_sixteen (v := fun j => .slice ((fun j => ([(some ⟨g1, 0, none⟩), (some ⟨g2, 0, none⟩), (some ⟨g3, 0, none⟩), (some ⟨g4, 0, none⟩), c_e1, c_f1, c_p1, c_o1, c_e2, c_f2, c_p2, c_o2, n_e1, n_f1, n_p1, n_o1, n_e2, n_f2, n_p2, n_o2, xe1, xf1, xp1, xo1, xe2, xf2, xp2, xo2, me1, mf1, me2, mf2] : List (Option Addr))[j]?.getD none) j) ((fun j => ([xs.length, ys.length, us.length, vs.length, c_z1.length, c_d1.length, c_z2.length, c_d2.length, c_z1.length, c_d1.length, c_z2.length, c_d2.length, n_z1.length, n_d1.length, n_z2.length, n_d2.length, n_z1.length, n_d1.length, n_z2.length, n_d2.length, xz1.length, xd1.length, xz2.length, xd2.length, xz1.length, xd1.length, xz2.length, xd2.length, mz.length, md.length, mz.length, md.length] : List Nat)[j]?.getD 0) j) ((fun j => ([cg1, cg2, cg3, cg4, c_k1, c_l1, c_q1, c_r1, c_k2, c_l2, c_q2, c_r2, n_k1, n_l1, n_q1, n_r1, n_k2, n_l2, n_q2, n_r2, xk1, xl1, xq1, xr1, xk2, xl2, xq2, xr2, mk1, ml1, mk2, ml2] : List Nat)[j]?.getD 0) j)) (fun j => ([0, 1, 2, 3, 4, 7, 8, 5, 6] : List Nat)[j]?.getD 0) (fun j => ([w2.heap.size, y8.heap.size, Yc_1.heap.size, Yc_3.heap.size, Yn_1.heap.size, Yn_3.heap.size, Ym1.heap.size, Ym3.heap.size, W10.heap.size] : List Nat)[j]?.getD 0) (fun j => ([wc.heap.size, W1.heap.size, W2.heap.size, W4.heap.size, W5.heap.size, W7.heap.size, W8.heap.size, W10.heap.size, W11.heap.size] : List Nat)[j]?.getD 0) (by decide) (by decide) (fun t ht => by
    match t, ht with
    | 0, _ => show w2.heap.size ≤ wc.heap.size; omega
    | 1, _ => show y8.heap.size ≤ W1.heap.size; omega
    | 2, _ => show Yc_1.heap.size ≤ W2.heap.size; omega
    | 3, _ => show Yc_3.heap.size ≤ W4.heap.size; omega
    | 4, _ => show Yn_1.heap.size ≤ W5.heap.size; omega
    | 5, _ => show Yn_3.heap.size ≤ W7.heap.size; omega
    | 6, _ => show Ym1.heap.size ≤ W8.heap.size; omega
    | 7, _ => show Ym3.heap.size ≤ W10.heap.size; omega
    | 8, _ => show W10.heap.size ≤ W11.heap.size; omega) (fun t ht => by
    match t, ht with
    | 0, _ => show wc.heap.size ≤ y8.heap.size; omega
    | 1, _ => show W1.heap.size ≤ Yc_1.heap.size; omega
    | 2, _ => show W2.heap.size ≤ Yc_3.heap.size; omega
    | 3, _ => show W4.heap.size ≤ Yn_1.heap.size; omega
    | 4, _ => show W5.heap.size ≤ Yn_3.heap.size; omega
    | 5, _ => show W7.heap.size ≤ Ym1.heap.size; omega
    | 6, _ => show W8.heap.size ≤ Ym3.heap.size; omega
    | 7, _ => show W10.heap.size ≤ W10.heap.size; omega) (fun g hg a ha => by
    match g, hg, a, ha with
    | 0, _, 0, _ => exact iw0
    | 0, _, 1, _ => exact iw1
    | 0, _, 2, _ => exact iw2
    | 0, _, 3, _ => exact iw3
    | 1, _, 0, _ => exact HIc_1.out.2.1
    | 1, _, 1, _ => exact HIc_1.out.2.2.1
    | 1, _, 2, _ => exact HIc_1.out.2.2.2.1
    | 1, _, 3, _ => exact HIc_1.out.2.2.2.2
    | 2, _, 0, _ => exact HIc_2.out.2.1
    | 2, _, 1, _ => exact HIc_2.out.2.2.1
    | 2, _, 2, _ => exact HIc_2.out.2.2.2.1
    | 2, _, 3, _ => exact HIc_2.out.2.2.2.2
    | 3, _, 0, _ => exact HIn_1.out.2.1
    | 3, _, 1, _ => exact HIn_1.out.2.2.1
    | 3, _, 2, _ => exact HIn_1.out.2.2.2.1
    | 3, _, 3, _ => exact HIn_1.out.2.2.2.2
    | 4, _, 0, _ => exact HIn_2.out.2.1
    | 4, _, 1, _ => exact HIn_2.out.2.2.1
    | 4, _, 2, _ => exact HIn_2.out.2.2.2.1
    | 4, _, 3, _ => exact HIn_2.out.2.2.2.2
    | 5, _, 0, _ => exact HIx1.out.2.1
    | 5, _, 1, _ => exact HIx1.out.2.2.1
    | 5, _, 2, _ => exact HIx1.out.2.2.2.1
    | 5, _, 3, _ => exact HIx1.out.2.2.2.2
    | 6, _, 0, _ => exact HIx2.out.2.1
    | 6, _, 1, _ => exact HIx2.out.2.2.1
    | 6, _, 2, _ => exact HIx2.out.2.2.2.1
    | 6, _, 3, _ => exact HIx2.out.2.2.2.2) (fun g hg a ha => by
    match g, hg, a, ha with
    | 0, _, 0, _ => exact HIm1.out.2.1
    | 0, _, 1, _ => exact HIm1.out.2.2
    | 1, _, 0, _ => exact HIm2.out.2.1
    | 1, _, 1, _ => exact HIm2.out.2.2) (fun g hg => by
    match g, hg with
    | 0, _ => exact pa
    | 1, _ => exact HIc_1.out.1
    | 2, _ => exact HIc_2.out.1
    | 3, _ => exact HIn_1.out.1
    | 4, _ => exact HIn_2.out.1
    | 5, _ => exact HIx1.out.1
    | 6, _ => exact HIx2.out.1) (fun g hg => by
    match g, hg with
    | 0, _ => exact HIm1.out.1
    | 1, _ => exact HIm2.out.1)
  obtain ⟨B, A, L, C, HPO, HAP, HAN⟩ : ∃ (B : Nat → Bool) (A : Nat → Option Addr) (L C : Nat → Nat), Hid (∀ V g, Below W19.heap.size W19 V → Box V g 26 (List.toArray (.bool n :: .slice (some ⟨g1, 0, none⟩) xs.length cg1 :: .slice (some ⟨g2, 0, none⟩) ys.length cg2 :: .bool m :: .slice (some ⟨g3, 0, none⟩) us.length cg3 :: .slice (some ⟨g4, 0, none⟩) vs.length cg4 :: .bool c_s :: .slice c_e1 c_z1.length c_k1 :: .slice c_f1 c_d1.length c_l1 :: .bool c_t :: .slice c_p1 c_z2.length c_q1 :: .slice c_o1 c_d2.length c_r1 :: .bool c_s :: .slice c_e2 c_z1.length c_k2 :: .slice c_f2 c_d1.length c_l2 :: .bool c_t :: .slice c_p2 c_z2.length c_q2 :: .slice c_o2 c_d2.length c_r2 :: .bool n_s :: .slice n_e1 n_z1.length n_k1 :: .slice n_f1 n_d1.length n_l1 :: .bool n_t :: .slice n_p1 n_z2.length n_q1 :: .slice n_o1 n_d2.length n_r1 :: .bool n_s :: .slice n_e2 n_z1.length n_k2 :: .slice n_f2 n_d1.length n_l2 :: .bool n_t :: .slice n_p2 n_z2.length n_q2 :: .slice n_o2 n_d2.length n_r2 :: .bool xs_ :: .slice xe1 xz1.length xk1 :: .slice xf1 xd1.length xl1 :: .bool xt_ :: .slice xp1 xz2.length xq1 :: .slice xo1 xd2.length xr1 :: .bool xs_ :: .slice xe2 xz1.length xk2 :: .slice xf2 xd1.length xl2 :: .bool xt_ :: .slice xp2 xz2.length xq2 :: .slice xo2 xd2.length xr2 :: [])) → Calls Tryz.prog 24 #[.slice (some ⟨g, 0, none⟩) 7 7] V fun e V' => ∃ q d, e = .returned (.slice q 14 d) ∧ Hid (V'.ownsRow W19.heap.size 24 3 (.slice q 14 d) 14 (anCells B A L C 14)) ∧ Hid (Below V.heap.size V V')) ∧ Hid (∀ V q d, Below W19.heap.size W19 V → V.ownsRow W19.heap.size 24 3 (.slice q 16 d) 16 (anCells B A L C 16) → Calls Tryz.prog 23 #[.slice q 16 d] V fun e w' => e = .returned (.bool true) ∧ Hid (Below w.heap.size w w') ∧ Hid (∀ (b : Nat) (o : Obj), V.heap[b]? = some o → (∀ (cl : Array Value) t, o ≠ Obj.cells cl 68 t) → w'.heap[b]? = some o)) ∧ Hid (anCells B A L C 14 ++ [.bool ms, .slice me1 mz.length mk1, .slice mf1 md.length ml1, .bool ms, .slice me2 mz.length mk2, .slice mf2 md.length ml2] = anCells B A L C 16) := by
    refine ⟨(fun j => ([n, m, c_s, c_t, c_s, c_t, n_s, n_t, n_s, n_t, xs_, xt_, xs_, xt_, ms, ms] : List Bool)[j]?.getD false), (fun j => ([(some ⟨g1, 0, none⟩), (some ⟨g2, 0, none⟩), (some ⟨g3, 0, none⟩), (some ⟨g4, 0, none⟩), c_e1, c_f1, c_p1, c_o1, c_e2, c_f2, c_p2, c_o2, n_e1, n_f1, n_p1, n_o1, n_e2, n_f2, n_p2, n_o2, xe1, xf1, xp1, xo1, xe2, xf2, xp2, xo2, me1, mf1, me2, mf2] : List (Option Addr))[j]?.getD none), (fun j => ([xs.length, ys.length, us.length, vs.length, c_z1.length, c_d1.length, c_z2.length, c_d2.length, c_z1.length, c_d1.length, c_z2.length, c_d2.length, n_z1.length, n_d1.length, n_z2.length, n_d2.length, n_z1.length, n_d1.length, n_z2.length, n_d2.length, xz1.length, xd1.length, xz2.length, xd2.length, xz1.length, xd1.length, xz2.length, xd2.length, mz.length, md.length, mz.length, md.length] : List Nat)[j]?.getD 0), (fun j => ([cg1, cg2, cg3, cg4, c_k1, c_l1, c_q1, c_r1, c_k2, c_l2, c_q2, c_r2, n_k1, n_l1, n_q1, n_r1, n_k2, n_l2, n_q2, n_r2, xk1, xl1, xq1, xr1, xk2, xl2, xq2, xr2, mk1, ml1, mk2, ml2] : List Nat)[j]?.getD 0), fun V g hv hbx => ?_, fun V q d hv ho => ?_, ?_⟩
    · refine Calls.mono (partsOfN 7 g 7 (fun j => ([n, m, c_s, c_t, c_s, c_t, n_s, n_t, n_s, n_t, xs_, xt_, xs_, xt_, ms, ms] : List Bool)[j]?.getD false) (fun j => ([(some ⟨g1, 0, none⟩), (some ⟨g2, 0, none⟩), (some ⟨g3, 0, none⟩), (some ⟨g4, 0, none⟩), c_e1, c_f1, c_p1, c_o1, c_e2, c_f2, c_p2, c_o2, n_e1, n_f1, n_p1, n_o1, n_e2, n_f2, n_p2, n_o2, xe1, xf1, xp1, xo1, xe2, xf2, xp2, xo2, me1, mf1, me2, mf2] : List (Option Addr))[j]?.getD none) (fun j => ([xs.length, ys.length, us.length, vs.length, c_z1.length, c_d1.length, c_z2.length, c_d2.length, c_z1.length, c_d1.length, c_z2.length, c_d2.length, n_z1.length, n_d1.length, n_z2.length, n_d2.length, n_z1.length, n_d1.length, n_z2.length, n_d2.length, xz1.length, xd1.length, xz2.length, xd2.length, xz1.length, xd1.length, xz2.length, xd2.length, mz.length, md.length, mz.length, md.length] : List Nat)[j]?.getD 0) (fun j => ([cg1, cg2, cg3, cg4, c_k1, c_l1, c_q1, c_r1, c_k2, c_l2, c_q2, c_r2, n_k1, n_l1, n_q1, n_r1, n_k2, n_l2, n_q2, n_r2, xk1, xl1, xq1, xr1, xk2, xl2, xq2, xr2, mk1, ml1, mk2, ml2] : List Nat)[j]?.getD 0) V (by omega) (fun V1 h1 k hk => by
        have H := hbx.later h1 hbx.lt
        match k, hk with
        | 0, _ => exact ⟨H.cell 0, H.cell 1, H.cell 2, H.cell 3, H.cell 4, H.cell 5⟩
        | 1, _ => exact ⟨H.cell 6, H.cell 7, H.cell 8, H.cell 9, H.cell 10, H.cell 11⟩
        | 2, _ => exact ⟨H.cell 12, H.cell 13, H.cell 14, H.cell 15, H.cell 16, H.cell 17⟩
        | 3, _ => exact ⟨H.cell 18, H.cell 19, H.cell 20, H.cell 21, H.cell 22, H.cell 23⟩
        | 4, _ => exact ⟨H.cell 24, H.cell 25, H.cell 26, H.cell 27, H.cell 28, H.cell 29⟩
        | 5, _ => exact ⟨H.cell 30, H.cell 31, H.cell 32, H.cell 33, H.cell 34, H.cell 35⟩
        | 6, _ => exact ⟨H.cell 36, H.cell 37, H.cell 38, H.cell 39, H.cell 40, H.cell 41⟩) (by omega)) ?_
      rintro e V1 ⟨v, rfl, ho, hb⟩
      obtain ⟨q, d, rfl⟩ := kg_slice3 ho
      exact ⟨q, d, rfl, kpq_base3 ho hv.size, hb⟩
    · obtain ⟨gl, rfl, hd⟩ : ∃ gl, q = some ⟨gl, 0, none⟩ ∧ 16 ≤ d := by
        rcases ho.2 with ⟨_, h0⟩ | ⟨g1_, cap, cur, hv1, _, _, h1, _⟩
        · omega
        · cases hv1; exact ⟨g1_, rfl, h1⟩
      refine Calls.mono (apartRatiosNk w.heap.size 16 gl d (fun j => ([n, m, c_s, c_t, c_s, c_t, n_s, n_t, n_s, n_t, xs_, xt_, xs_, xt_, ms, ms] : List Bool)[j]?.getD false) (fun j => ([(some ⟨g1, 0, none⟩), (some ⟨g2, 0, none⟩), (some ⟨g3, 0, none⟩), (some ⟨g4, 0, none⟩), c_e1, c_f1, c_p1, c_o1, c_e2, c_f2, c_p2, c_o2, n_e1, n_f1, n_p1, n_o1, n_e2, n_f2, n_p2, n_o2, xe1, xf1, xp1, xo1, xe2, xf2, xp2, xo2, me1, mf1, me2, mf2] : List (Option Addr))[j]?.getD none) (fun j => ([xs.length, ys.length, us.length, vs.length, c_z1.length, c_d1.length, c_z2.length, c_d2.length, c_z1.length, c_d1.length, c_z2.length, c_d2.length, n_z1.length, n_d1.length, n_z2.length, n_d2.length, n_z1.length, n_d1.length, n_z2.length, n_d2.length, xz1.length, xd1.length, xz2.length, xd2.length, xz1.length, xd1.length, xz2.length, xd2.length, mz.length, md.length, mz.length, md.length] : List Nat)[j]?.getD 0) (fun j => ([cg1, cg2, cg3, cg4, c_k1, c_l1, c_q1, c_r1, c_k2, c_l2, c_q2, c_r2, n_k1, n_l1, n_q1, n_r1, n_k2, n_l2, n_q2, n_r2, xk1, xl1, xq1, xr1, xk2, xl2, xq2, xr2, mk1, ml1, mk2, ml2] : List Nat)[j]?.getD 0) (fun j => ([xs, ys, us, vs, c_z1, c_d1, c_z2, c_d2, c_z1, c_d1, c_z2, c_d2, n_z1, n_d1, n_z2, n_d2, n_z1, n_d1, n_z2, n_d2, xz1, xd1, xz2, xd2, xz1, xd1, xz2, xd2, mz, md, mz, md] : List (List Int))[j]?.getD []) V (by omega) (by omega) (fun V1 h1 k hk2 => by
        obtain ⟨cl, hg, hcl⟩ := kg_row3 (kg_later3 ho h1)
        have hc : ∀ j, V1.cell? ⟨gl, j, none⟩ = cl[j]? := fun j => by simp [World.cell?, hg]
        obtain ⟨r0, r1, r2⟩ := anCells_get (fun j => ([n, m, c_s, c_t, c_s, c_t, n_s, n_t, n_s, n_t, xs_, xt_, xs_, xt_, ms, ms] : List Bool)[j]?.getD false) (fun j => ([(some ⟨g1, 0, none⟩), (some ⟨g2, 0, none⟩), (some ⟨g3, 0, none⟩), (some ⟨g4, 0, none⟩), c_e1, c_f1, c_p1, c_o1, c_e2, c_f2, c_p2, c_o2, n_e1, n_f1, n_p1, n_o1, n_e2, n_f2, n_p2, n_o2, xe1, xf1, xp1, xo1, xe2, xf2, xp2, xo2, me1, mf1, me2, mf2] : List (Option Addr))[j]?.getD none) (fun j => ([xs.length, ys.length, us.length, vs.length, c_z1.length, c_d1.length, c_z2.length, c_d2.length, c_z1.length, c_d1.length, c_z2.length, c_d2.length, n_z1.length, n_d1.length, n_z2.length, n_d2.length, n_z1.length, n_d1.length, n_z2.length, n_d2.length, xz1.length, xd1.length, xz2.length, xd2.length, xz1.length, xd1.length, xz2.length, xd2.length, mz.length, md.length, mz.length, md.length] : List Nat)[j]?.getD 0) (fun j => ([cg1, cg2, cg3, cg4, c_k1, c_l1, c_q1, c_r1, c_k2, c_l2, c_q2, c_r2, n_k1, n_l1, n_q1, n_r1, n_k2, n_l2, n_q2, n_r2, xk1, xl1, xq1, xr1, xk2, xl2, xq2, xr2, mk1, ml1, mk2, ml2] : List Nat)[j]?.getD 0) 16 k hk2
        exact ⟨by rw [hc, hcl _ (by omega)]; exact r0, by rw [hc, hcl _ (by omega)]; exact r1, by rw [hc, hcl _ (by omega)]; exact r2⟩) (Nat.le_trans HW30.out.size hv.size) hd hwd hlen (fun j hj => owns_later (hown j hj) hv) hap) ?_
      rintro e w1 ⟨rfl, hb, hkp⟩
      exact ⟨rfl, (bt HW30.out hv).trans hb, hkp⟩
    · exact List.append_assoc (anCells (fun j => ([n, m, c_s, c_t, c_s, c_t, n_s, n_t, n_s, n_t, xs_, xt_, xs_, xt_, ms, ms] : List Bool)[j]?.getD false) (fun j => ([(some ⟨g1, 0, none⟩), (some ⟨g2, 0, none⟩), (some ⟨g3, 0, none⟩), (some ⟨g4, 0, none⟩), c_e1, c_f1, c_p1, c_o1, c_e2, c_f2, c_p2, c_o2, n_e1, n_f1, n_p1, n_o1, n_e2, n_f2, n_p2, n_o2, xe1, xf1, xp1, xo1, xe2, xf2, xp2, xo2, me1, mf1, me2, mf2] : List (Option Addr))[j]?.getD none) (fun j => ([xs.length, ys.length, us.length, vs.length, c_z1.length, c_d1.length, c_z2.length, c_d2.length, c_z1.length, c_d1.length, c_z2.length, c_d2.length, n_z1.length, n_d1.length, n_z2.length, n_d2.length, n_z1.length, n_d1.length, n_z2.length, n_d2.length, xz1.length, xd1.length, xz2.length, xd2.length, xz1.length, xd1.length, xz2.length, xd2.length, mz.length, md.length, mz.length, md.length] : List Nat)[j]?.getD 0) (fun j => ([cg1, cg2, cg3, cg4, c_k1, c_l1, c_q1, c_r1, c_k2, c_l2, c_q2, c_r2, n_k1, n_l1, n_q1, n_r1, n_k2, n_l2, n_q2, n_r2, xk1, xl1, xq1, xr1, xk2, xl2, xq2, xr2, mk1, ml1, mk2, ml2] : List Nat)[j]?.getD 0) 14) [_, _, _] [_, _, _] |>.symm ▸ rfl
  clear hwd hlen hown hap iw0 iw1 iw2 iw3 pa zY zX zW gbc_1 gbc_2 gbn_1 gbn_2 gbx1 gbx2 gbm1 gbm2 z1_ z2_ z3_ z4_ z5_ z6_ z7_ z8_ z9_ z10_ z11_ z12_ z13_ z14_ z15_ z16_ z17_ z18_ z19_ z20_ z21_ z22_ z23_ z24_ z25_ z26_ z27_ z28_ z29_ z30_
  have HKK : Hid (∀ V : World, Below W19.heap.size W19 V → (V.cell? ⟨p, 0, none⟩ = some (.bool n) ∧ V.cell? ⟨p, 1, none⟩ = some (.slice (some ⟨g1, 0, none⟩) xs.length cg1) ∧ V.cell? ⟨p, 2, none⟩ = some (.slice (some ⟨g2, 0, none⟩) ys.length cg2) ∧ V.cell? ⟨p, 3, none⟩ = some (.bool m) ∧ V.cell? ⟨p, 4, none⟩ = some (.slice (some ⟨g3, 0, none⟩) us.length cg3) ∧ V.cell? ⟨p, 5, none⟩ = some (.slice (some ⟨g4, 0, none⟩) vs.length cg4)) ∧ (V.cell? ⟨W1.heap.size, 0, none⟩ = some (.bool c_s) ∧ V.cell? ⟨W1.heap.size, 1, none⟩ = some (.slice c_e1 c_z1.length c_k1) ∧ V.cell? ⟨W1.heap.size, 2, none⟩ = some (.slice c_f1 c_d1.length c_l1) ∧ V.cell? ⟨W1.heap.size, 3, none⟩ = some (.bool c_t) ∧ V.cell? ⟨W1.heap.size, 4, none⟩ = some (.slice c_p1 c_z2.length c_q1) ∧ V.cell? ⟨W1.heap.size, 5, none⟩ = some (.slice c_o1 c_d2.length c_r1)) ∧ (V.cell? ⟨W2.heap.size, 0, none⟩ = some (.bool c_s) ∧ V.cell? ⟨W2.heap.size, 1, none⟩ = some (.slice c_e2 c_z1.length c_k2) ∧ V.cell? ⟨W2.heap.size, 2, none⟩ = some (.slice c_f2 c_d1.length c_l2) ∧ V.cell? ⟨W2.heap.size, 3, none⟩ = some (.bool c_t) ∧ V.cell? ⟨W2.heap.size, 4, none⟩ = some (.slice c_p2 c_z2.length c_q2) ∧ V.cell? ⟨W2.heap.size, 5, none⟩ = some (.slice c_o2 c_d2.length c_r2)) ∧ (V.cell? ⟨W4.heap.size, 0, none⟩ = some (.bool n_s) ∧ V.cell? ⟨W4.heap.size, 1, none⟩ = some (.slice n_e1 n_z1.length n_k1) ∧ V.cell? ⟨W4.heap.size, 2, none⟩ = some (.slice n_f1 n_d1.length n_l1) ∧ V.cell? ⟨W4.heap.size, 3, none⟩ = some (.bool n_t) ∧ V.cell? ⟨W4.heap.size, 4, none⟩ = some (.slice n_p1 n_z2.length n_q1) ∧ V.cell? ⟨W4.heap.size, 5, none⟩ = some (.slice n_o1 n_d2.length n_r1)) ∧ (V.cell? ⟨W5.heap.size, 0, none⟩ = some (.bool n_s) ∧ V.cell? ⟨W5.heap.size, 1, none⟩ = some (.slice n_e2 n_z1.length n_k2) ∧ V.cell? ⟨W5.heap.size, 2, none⟩ = some (.slice n_f2 n_d1.length n_l2) ∧ V.cell? ⟨W5.heap.size, 3, none⟩ = some (.bool n_t) ∧ V.cell? ⟨W5.heap.size, 4, none⟩ = some (.slice n_p2 n_z2.length n_q2) ∧ V.cell? ⟨W5.heap.size, 5, none⟩ = some (.slice n_o2 n_d2.length n_r2)) ∧ (V.cell? ⟨W11.heap.size, 0, none⟩ = some (.bool xs_) ∧ V.cell? ⟨W11.heap.size, 1, none⟩ = some (.slice xe1 xz1.length xk1) ∧ V.cell? ⟨W11.heap.size, 2, none⟩ = some (.slice xf1 xd1.length xl1) ∧ V.cell? ⟨W11.heap.size, 3, none⟩ = some (.bool xt_) ∧ V.cell? ⟨W11.heap.size, 4, none⟩ = some (.slice xp1 xz2.length xq1) ∧ V.cell? ⟨W11.heap.size, 5, none⟩ = some (.slice xo1 xd2.length xr1)) ∧ (V.cell? ⟨W11.heap.size + 1, 0, none⟩ = some (.bool xs_) ∧ V.cell? ⟨W11.heap.size + 1, 1, none⟩ = some (.slice xe2 xz1.length xk2) ∧ V.cell? ⟨W11.heap.size + 1, 2, none⟩ = some (.slice xf2 xd1.length xl2) ∧ V.cell? ⟨W11.heap.size + 1, 3, none⟩ = some (.bool xt_) ∧ V.cell? ⟨W11.heap.size + 1, 4, none⟩ = some (.slice xp2 xz2.length xq2) ∧ V.cell? ⟨W11.heap.size + 1, 5, none⟩ = some (.slice xo2 xd2.length xr2)) ∧ (V.cell? ⟨W7.heap.size, 0, none⟩ = some (.bool ms) ∧ V.cell? ⟨W7.heap.size, 1, none⟩ = some (.slice me1 mz.length mk1) ∧ V.cell? ⟨W7.heap.size, 2, none⟩ = some (.slice mf1 md.length ml1)) ∧ (V.cell? ⟨W8.heap.size, 0, none⟩ = some (.bool ms) ∧ V.cell? ⟨W8.heap.size, 1, none⟩ = some (.slice me2 mz.length mk2) ∧ V.cell? ⟨W8.heap.size, 2, none⟩ = some (.slice mf2 md.length ml2))) := fun V hv => ⟨Kl6.of (HP30.out.later hv HP30.out.lt), Kl6.of (Hc_130.out.later hv Hc_130.out.lt), Kl6.of (Hc_230.out.later hv Hc_230.out.lt), Kl6.of (Hn_130.out.later hv Hn_130.out.lt), Kl6.of (Hn_230.out.later hv Hn_230.out.lt), Kl6.of (Hx130.out.later hv Hx130.out.lt), Kl6.of (Hx230.out.later hv Hx230.out.lt), kpq_kl3 (Hm130.out.later hv Hm130.out.lt), kpq_kl3 (Hm230.out.later hv Hm230.out.lt)⟩
  have HKZ : Hid (∀ V w' : World, Below W19.heap.size W19 V → (∀ (b : Nat) (o : Obj), V.heap[b]? = some o → (∀ (cl : Array Value) t, o ≠ Obj.cells cl 68 t) → w'.heap[b]? = some o) → (w'.cell? ⟨p, 0, none⟩ = some (.bool n) ∧ w'.cell? ⟨p, 1, none⟩ = some (.slice (some ⟨g1, 0, none⟩) xs.length cg1) ∧ w'.cell? ⟨p, 2, none⟩ = some (.slice (some ⟨g2, 0, none⟩) ys.length cg2) ∧ w'.cell? ⟨p, 3, none⟩ = some (.bool m) ∧ w'.cell? ⟨p, 4, none⟩ = some (.slice (some ⟨g3, 0, none⟩) us.length cg3) ∧ w'.cell? ⟨p, 5, none⟩ = some (.slice (some ⟨g4, 0, none⟩) vs.length cg4)) ∧ (w'.cell? ⟨W1.heap.size, 0, none⟩ = some (.bool c_s) ∧ w'.cell? ⟨W1.heap.size, 1, none⟩ = some (.slice c_e1 c_z1.length c_k1) ∧ w'.cell? ⟨W1.heap.size, 2, none⟩ = some (.slice c_f1 c_d1.length c_l1) ∧ w'.cell? ⟨W1.heap.size, 3, none⟩ = some (.bool c_t) ∧ w'.cell? ⟨W1.heap.size, 4, none⟩ = some (.slice c_p1 c_z2.length c_q1) ∧ w'.cell? ⟨W1.heap.size, 5, none⟩ = some (.slice c_o1 c_d2.length c_r1)) ∧ (w'.cell? ⟨W2.heap.size, 0, none⟩ = some (.bool c_s) ∧ w'.cell? ⟨W2.heap.size, 1, none⟩ = some (.slice c_e2 c_z1.length c_k2) ∧ w'.cell? ⟨W2.heap.size, 2, none⟩ = some (.slice c_f2 c_d1.length c_l2) ∧ w'.cell? ⟨W2.heap.size, 3, none⟩ = some (.bool c_t) ∧ w'.cell? ⟨W2.heap.size, 4, none⟩ = some (.slice c_p2 c_z2.length c_q2) ∧ w'.cell? ⟨W2.heap.size, 5, none⟩ = some (.slice c_o2 c_d2.length c_r2)) ∧ (w'.cell? ⟨W4.heap.size, 0, none⟩ = some (.bool n_s) ∧ w'.cell? ⟨W4.heap.size, 1, none⟩ = some (.slice n_e1 n_z1.length n_k1) ∧ w'.cell? ⟨W4.heap.size, 2, none⟩ = some (.slice n_f1 n_d1.length n_l1) ∧ w'.cell? ⟨W4.heap.size, 3, none⟩ = some (.bool n_t) ∧ w'.cell? ⟨W4.heap.size, 4, none⟩ = some (.slice n_p1 n_z2.length n_q1) ∧ w'.cell? ⟨W4.heap.size, 5, none⟩ = some (.slice n_o1 n_d2.length n_r1)) ∧ (w'.cell? ⟨W5.heap.size, 0, none⟩ = some (.bool n_s) ∧ w'.cell? ⟨W5.heap.size, 1, none⟩ = some (.slice n_e2 n_z1.length n_k2) ∧ w'.cell? ⟨W5.heap.size, 2, none⟩ = some (.slice n_f2 n_d1.length n_l2) ∧ w'.cell? ⟨W5.heap.size, 3, none⟩ = some (.bool n_t) ∧ w'.cell? ⟨W5.heap.size, 4, none⟩ = some (.slice n_p2 n_z2.length n_q2) ∧ w'.cell? ⟨W5.heap.size, 5, none⟩ = some (.slice n_o2 n_d2.length n_r2)) ∧ (w'.cell? ⟨W11.heap.size, 0, none⟩ = some (.bool xs_) ∧ w'.cell? ⟨W11.heap.size, 1, none⟩ = some (.slice xe1 xz1.length xk1) ∧ w'.cell? ⟨W11.heap.size, 2, none⟩ = some (.slice xf1 xd1.length xl1) ∧ w'.cell? ⟨W11.heap.size, 3, none⟩ = some (.bool xt_) ∧ w'.cell? ⟨W11.heap.size, 4, none⟩ = some (.slice xp1 xz2.length xq1) ∧ w'.cell? ⟨W11.heap.size, 5, none⟩ = some (.slice xo1 xd2.length xr1)) ∧ (w'.cell? ⟨W11.heap.size + 1, 0, none⟩ = some (.bool xs_) ∧ w'.cell? ⟨W11.heap.size + 1, 1, none⟩ = some (.slice xe2 xz1.length xk2) ∧ w'.cell? ⟨W11.heap.size + 1, 2, none⟩ = some (.slice xf2 xd1.length xl2) ∧ w'.cell? ⟨W11.heap.size + 1, 3, none⟩ = some (.bool xt_) ∧ w'.cell? ⟨W11.heap.size + 1, 4, none⟩ = some (.slice xp2 xz2.length xq2) ∧ w'.cell? ⟨W11.heap.size + 1, 5, none⟩ = some (.slice xo2 xd2.length xr2)) ∧ (w'.cell? ⟨W7.heap.size, 0, none⟩ = some (.bool ms) ∧ w'.cell? ⟨W7.heap.size, 1, none⟩ = some (.slice me1 mz.length mk1) ∧ w'.cell? ⟨W7.heap.size, 2, none⟩ = some (.slice mf1 md.length ml1)) ∧ (w'.cell? ⟨W8.heap.size, 0, none⟩ = some (.bool ms) ∧ w'.cell? ⟨W8.heap.size, 1, none⟩ = some (.slice me2 mz.length mk2) ∧ w'.cell? ⟨W8.heap.size, 2, none⟩ = some (.slice mf2 md.length ml2))) := fun V w' hv hk => ⟨Kl6.of (kpq_kept (HP30.out.later hv HP30.out.lt) (by decide) hk), Kl6.of (kpq_kept (Hc_130.out.later hv Hc_130.out.lt) (by decide) hk), Kl6.of (kpq_kept (Hc_230.out.later hv Hc_230.out.lt) (by decide) hk), Kl6.of (kpq_kept (Hn_130.out.later hv Hn_130.out.lt) (by decide) hk), Kl6.of (kpq_kept (Hn_230.out.later hv Hn_230.out.lt) (by decide) hk), Kl6.of (kpq_kept (Hx130.out.later hv Hx130.out.lt) (by decide) hk), Kl6.of (kpq_kept (Hx230.out.later hv Hx230.out.lt) (by decide) hk), kpq_kl3 (kpq_kept (Hm130.out.later hv Hm130.out.lt) (by decide) hk), kpq_kl3 (kpq_kept (Hm230.out.later hv Hm230.out.lt) (by decide) hk)⟩
  have HZ0 := hid HW30.out.size
  have HD0 := hid (Below.drew (Below.refl W19.heap.size W19))
  have HDA := hid (alloc_later W19 (.cells (List.toArray (.bool n :: .slice (some ⟨g1, 0, none⟩) xs.length cg1 :: .slice (some ⟨g2, 0, none⟩) ys.length cg2 :: .bool m :: .slice (some ⟨g3, 0, none⟩) us.length cg3 :: .slice (some ⟨g4, 0, none⟩) vs.length cg4 :: .bool c_s :: .slice c_e1 c_z1.length c_k1 :: .slice c_f1 c_d1.length c_l1 :: .bool c_t :: .slice c_p1 c_z2.length c_q1 :: .slice c_o1 c_d2.length c_r1 :: .bool c_s :: .slice c_e2 c_z1.length c_k2 :: .slice c_f2 c_d1.length c_l2 :: .bool c_t :: .slice c_p2 c_z2.length c_q2 :: .slice c_o2 c_d2.length c_r2 :: .bool n_s :: .slice n_e1 n_z1.length n_k1 :: .slice n_f1 n_d1.length n_l1 :: .bool n_t :: .slice n_p1 n_z2.length n_q1 :: .slice n_o1 n_d2.length n_r1 :: .bool n_s :: .slice n_e2 n_z1.length n_k2 :: .slice n_f2 n_d1.length n_l2 :: .bool n_t :: .slice n_p2 n_z2.length n_q2 :: .slice n_o2 n_d2.length n_r2 :: .bool xs_ :: .slice xe1 xz1.length xk1 :: .slice xf1 xd1.length xl1 :: .bool xt_ :: .slice xp1 xz2.length xq1 :: .slice xo1 xd2.length xr1 :: .bool xs_ :: .slice xe2 xz1.length xk2 :: .slice xf2 xd1.length xl2 :: .bool xt_ :: .slice xp2 xz2.length xq2 :: .slice xo2 xd2.length xr2 :: [])) 26)).drew
  have HDS := hid (alloc_later W19 (.cells #[.bool ms, .slice me1 mz.length mk1, .slice mf1 md.length ml1, .bool ms, .slice me2 mz.length mk2, .slice mf2 md.length ml2] 24)).drew
  have HDB := hid (bt (alloc_later W19 (.cells (List.toArray (.bool n :: .slice (some ⟨g1, 0, none⟩) xs.length cg1 :: .slice (some ⟨g2, 0, none⟩) ys.length cg2 :: .bool m :: .slice (some ⟨g3, 0, none⟩) us.length cg3 :: .slice (some ⟨g4, 0, none⟩) vs.length cg4 :: .bool c_s :: .slice c_e1 c_z1.length c_k1 :: .slice c_f1 c_d1.length c_l1 :: .bool c_t :: .slice c_p1 c_z2.length c_q1 :: .slice c_o1 c_d2.length c_r1 :: .bool c_s :: .slice c_e2 c_z1.length c_k2 :: .slice c_f2 c_d1.length c_l2 :: .bool c_t :: .slice c_p2 c_z2.length c_q2 :: .slice c_o2 c_d2.length c_r2 :: .bool n_s :: .slice n_e1 n_z1.length n_k1 :: .slice n_f1 n_d1.length n_l1 :: .bool n_t :: .slice n_p1 n_z2.length n_q1 :: .slice n_o1 n_d2.length n_r1 :: .bool n_s :: .slice n_e2 n_z1.length n_k2 :: .slice n_f2 n_d1.length n_l2 :: .bool n_t :: .slice n_p2 n_z2.length n_q2 :: .slice n_o2 n_d2.length n_r2 :: .bool xs_ :: .slice xe1 xz1.length xk1 :: .slice xf1 xd1.length xl1 :: .bool xt_ :: .slice xp1 xz2.length xq1 :: .slice xo1 xd2.length xr1 :: .bool xs_ :: .slice xe2 xz1.length xk2 :: .slice xf2 xd1.length xl2 :: .bool xt_ :: .slice xp2 xz2.length xq2 :: .slice xo2 xd2.length xr2 :: [])) 26)) (alloc_later (W19.alloc (.cells (List.toArray (.bool n :: .slice (some ⟨g1, 0, none⟩) xs.length cg1 :: .slice (some ⟨g2, 0, none⟩) ys.length cg2 :: .bool m :: .slice (some ⟨g3, 0, none⟩) us.length cg3 :: .slice (some ⟨g4, 0, none⟩) vs.length cg4 :: .bool c_s :: .slice c_e1 c_z1.length c_k1 :: .slice c_f1 c_d1.length c_l1 :: .bool c_t :: .slice c_p1 c_z2.length c_q1 :: .slice c_o1 c_d2.length c_r1 :: .bool c_s :: .slice c_e2 c_z1.length c_k2 :: .slice c_f2 c_d1.length c_l2 :: .bool c_t :: .slice c_p2 c_z2.length c_q2 :: .slice c_o2 c_d2.length c_r2 :: .bool n_s :: .slice n_e1 n_z1.length n_k1 :: .slice n_f1 n_d1.length n_l1 :: .bool n_t :: .slice n_p1 n_z2.length n_q1 :: .slice n_o1 n_d2.length n_r1 :: .bool n_s :: .slice n_e2 n_z1.length n_k2 :: .slice n_f2 n_d1.length n_l2 :: .bool n_t :: .slice n_p2 n_z2.length n_q2 :: .slice n_o2 n_d2.length n_r2 :: .bool xs_ :: .slice xe1 xz1.length xk1 :: .slice xf1 xd1.length xl1 :: .bool xt_ :: .slice xp1 xz2.length xq1 :: .slice xo1 xd2.length xr1 :: .bool xs_ :: .slice xe2 xz1.length xk2 :: .slice xf2 xd1.length xl2 :: .bool xt_ :: .slice xp2 xz2.length xq2 :: .slice xo2 xd2.length xr2 :: [])) 26)) (.cells #[.bool ms, .slice me1 mz.length mk1, .slice mf1 md.length ml1, .bool ms, .slice me2 mz.length mk2, .slice mf2 md.length ml2] 24))).drew
  have HDC := hid (bt (alloc_later W19 (.cells #[.bool ms, .slice me1 mz.length mk1, .slice mf1 md.length ml1, .bool ms, .slice me2 mz.length mk2, .slice mf2 md.length ml2] 24)) (alloc_later (W19.alloc (.cells #[.bool ms, .slice me1 mz.length mk1, .slice mf1 md.length ml1, .bool ms, .slice me2 mz.length mk2, .slice mf2 md.length ml2] 24)) (.cells (List.toArray (.bool n :: .slice (some ⟨g1, 0, none⟩) xs.length cg1 :: .slice (some ⟨g2, 0, none⟩) ys.length cg2 :: .bool m :: .slice (some ⟨g3, 0, none⟩) us.length cg3 :: .slice (some ⟨g4, 0, none⟩) vs.length cg4 :: .bool c_s :: .slice c_e1 c_z1.length c_k1 :: .slice c_f1 c_d1.length c_l1 :: .bool c_t :: .slice c_p1 c_z2.length c_q1 :: .slice c_o1 c_d2.length c_r1 :: .bool c_s :: .slice c_e2 c_z1.length c_k2 :: .slice c_f2 c_d1.length c_l2 :: .bool c_t :: .slice c_p2 c_z2.length c_q2 :: .slice c_o2 c_d2.length c_r2 :: .bool n_s :: .slice n_e1 n_z1.length n_k1 :: .slice n_f1 n_d1.length n_l1 :: .bool n_t :: .slice n_p1 n_z2.length n_q1 :: .slice n_o1 n_d2.length n_r1 :: .bool n_s :: .slice n_e2 n_z1.length n_k2 :: .slice n_f2 n_d1.length n_l2 :: .bool n_t :: .slice n_p2 n_z2.length n_q2 :: .slice n_o2 n_d2.length n_r2 :: .bool xs_ :: .slice xe1 xz1.length xk1 :: .slice xf1 xd1.length xl1 :: .bool xt_ :: .slice xp1 xz2.length xq1 :: .slice xo1 xd2.length xr1 :: .bool xs_ :: .slice xe2 xz1.length xk2 :: .slice xf2 xd1.length xl2 :: .bool xt_ :: .slice xp2 xz2.length xq2 :: .slice xo2 xd2.length xr2 :: [])) 26))).drew
  have hs0 := HKK.out _ HD0.out
  have hsA := HKK.out _ HDA.out
  have hsS := HKK.out _ HDS.out
  have hsB := HKK.out _ HDB.out
  have hsC := HKK.out _ HDC.out
  have BA : Hid (Box (W19.alloc (.cells (List.toArray (.bool n :: .slice (some ⟨g1, 0, none⟩) xs.length cg1 :: .slice (some ⟨g2, 0, none⟩) ys.length cg2 :: .bool m :: .slice (some ⟨g3, 0, none⟩) us.length cg3 :: .slice (some ⟨g4, 0, none⟩) vs.length cg4 :: .bool c_s :: .slice c_e1 c_z1.length c_k1 :: .slice c_f1 c_d1.length c_l1 :: .bool c_t :: .slice c_p1 c_z2.length c_q1 :: .slice c_o1 c_d2.length c_r1 :: .bool c_s :: .slice c_e2 c_z1.length c_k2 :: .slice c_f2 c_d1.length c_l2 :: .bool c_t :: .slice c_p2 c_z2.length c_q2 :: .slice c_o2 c_d2.length c_r2 :: .bool n_s :: .slice n_e1 n_z1.length n_k1 :: .slice n_f1 n_d1.length n_l1 :: .bool n_t :: .slice n_p1 n_z2.length n_q1 :: .slice n_o1 n_d2.length n_r1 :: .bool n_s :: .slice n_e2 n_z1.length n_k2 :: .slice n_f2 n_d1.length n_l2 :: .bool n_t :: .slice n_p2 n_z2.length n_q2 :: .slice n_o2 n_d2.length n_r2 :: .bool xs_ :: .slice xe1 xz1.length xk1 :: .slice xf1 xd1.length xl1 :: .bool xt_ :: .slice xp1 xz2.length xq1 :: .slice xo1 xd2.length xr1 :: .bool xs_ :: .slice xe2 xz1.length xk2 :: .slice xf2 xd1.length xl2 :: .bool xt_ :: .slice xp2 xz2.length xq2 :: .slice xo2 xd2.length xr2 :: [])) 26)).drew W19.heap.size 26 (List.toArray (.bool n :: .slice (some ⟨g1, 0, none⟩) xs.length cg1 :: .slice (some ⟨g2, 0, none⟩) ys.length cg2 :: .bool m :: .slice (some ⟨g3, 0, none⟩) us.length cg3 :: .slice (some ⟨g4, 0, none⟩) vs.length cg4 :: .bool c_s :: .slice c_e1 c_z1.length c_k1 :: .slice c_f1 c_d1.length c_l1 :: .bool c_t :: .slice c_p1 c_z2.length c_q1 :: .slice c_o1 c_d2.length c_r1 :: .bool c_s :: .slice c_e2 c_z1.length c_k2 :: .slice c_f2 c_d1.length c_l2 :: .bool c_t :: .slice c_p2 c_z2.length c_q2 :: .slice c_o2 c_d2.length c_r2 :: .bool n_s :: .slice n_e1 n_z1.length n_k1 :: .slice n_f1 n_d1.length n_l1 :: .bool n_t :: .slice n_p1 n_z2.length n_q1 :: .slice n_o1 n_d2.length n_r1 :: .bool n_s :: .slice n_e2 n_z1.length n_k2 :: .slice n_f2 n_d1.length n_l2 :: .bool n_t :: .slice n_p2 n_z2.length n_q2 :: .slice n_o2 n_d2.length n_r2 :: .bool xs_ :: .slice xe1 xz1.length xk1 :: .slice xf1 xd1.length xl1 :: .bool xt_ :: .slice xp1 xz2.length xq1 :: .slice xo1 xd2.length xr1 :: .bool xs_ :: .slice xe2 xz1.length xk2 :: .slice xf2 xd1.length xl2 :: .bool xt_ :: .slice xp2 xz2.length xq2 :: .slice xo2 xd2.length xr2 :: []))) := kpq_dr (Box.made W19 _ _)
  have BB : Hid (Box ((W19.alloc (.cells (List.toArray (.bool n :: .slice (some ⟨g1, 0, none⟩) xs.length cg1 :: .slice (some ⟨g2, 0, none⟩) ys.length cg2 :: .bool m :: .slice (some ⟨g3, 0, none⟩) us.length cg3 :: .slice (some ⟨g4, 0, none⟩) vs.length cg4 :: .bool c_s :: .slice c_e1 c_z1.length c_k1 :: .slice c_f1 c_d1.length c_l1 :: .bool c_t :: .slice c_p1 c_z2.length c_q1 :: .slice c_o1 c_d2.length c_r1 :: .bool c_s :: .slice c_e2 c_z1.length c_k2 :: .slice c_f2 c_d1.length c_l2 :: .bool c_t :: .slice c_p2 c_z2.length c_q2 :: .slice c_o2 c_d2.length c_r2 :: .bool n_s :: .slice n_e1 n_z1.length n_k1 :: .slice n_f1 n_d1.length n_l1 :: .bool n_t :: .slice n_p1 n_z2.length n_q1 :: .slice n_o1 n_d2.length n_r1 :: .bool n_s :: .slice n_e2 n_z1.length n_k2 :: .slice n_f2 n_d1.length n_l2 :: .bool n_t :: .slice n_p2 n_z2.length n_q2 :: .slice n_o2 n_d2.length n_r2 :: .bool xs_ :: .slice xe1 xz1.length xk1 :: .slice xf1 xd1.length xl1 :: .bool xt_ :: .slice xp1 xz2.length xq1 :: .slice xo1 xd2.length xr1 :: .bool xs_ :: .slice xe2 xz1.length xk2 :: .slice xf2 xd1.length xl2 :: .bool xt_ :: .slice xp2 xz2.length xq2 :: .slice xo2 xd2.length xr2 :: [])) 26)).alloc (.cells #[.bool ms, .slice me1 mz.length mk1, .slice mf1 md.length ml1, .bool ms, .slice me2 mz.length mk2, .slice mf2 md.length ml2] 24)).drew W19.heap.size 26 (List.toArray (.bool n :: .slice (some ⟨g1, 0, none⟩) xs.length cg1 :: .slice (some ⟨g2, 0, none⟩) ys.length cg2 :: .bool m :: .slice (some ⟨g3, 0, none⟩) us.length cg3 :: .slice (some ⟨g4, 0, none⟩) vs.length cg4 :: .bool c_s :: .slice c_e1 c_z1.length c_k1 :: .slice c_f1 c_d1.length c_l1 :: .bool c_t :: .slice c_p1 c_z2.length c_q1 :: .slice c_o1 c_d2.length c_r1 :: .bool c_s :: .slice c_e2 c_z1.length c_k2 :: .slice c_f2 c_d1.length c_l2 :: .bool c_t :: .slice c_p2 c_z2.length c_q2 :: .slice c_o2 c_d2.length c_r2 :: .bool n_s :: .slice n_e1 n_z1.length n_k1 :: .slice n_f1 n_d1.length n_l1 :: .bool n_t :: .slice n_p1 n_z2.length n_q1 :: .slice n_o1 n_d2.length n_r1 :: .bool n_s :: .slice n_e2 n_z1.length n_k2 :: .slice n_f2 n_d1.length n_l2 :: .bool n_t :: .slice n_p2 n_z2.length n_q2 :: .slice n_o2 n_d2.length n_r2 :: .bool xs_ :: .slice xe1 xz1.length xk1 :: .slice xf1 xd1.length xl1 :: .bool xt_ :: .slice xp1 xz2.length xq1 :: .slice xo1 xd2.length xr1 :: .bool xs_ :: .slice xe2 xz1.length xk2 :: .slice xf2 xd1.length xl2 :: .bool xt_ :: .slice xp2 xz2.length xq2 :: .slice xo2 xd2.length xr2 :: []))) := kpq_dr ((Box.made W19 _ _).later (alloc_later _ _) (Box.made W19 _ _).lt)
  have BB2 : Hid (Box ((W19.alloc (.cells (List.toArray (.bool n :: .slice (some ⟨g1, 0, none⟩) xs.length cg1 :: .slice (some ⟨g2, 0, none⟩) ys.length cg2 :: .bool m :: .slice (some ⟨g3, 0, none⟩) us.length cg3 :: .slice (some ⟨g4, 0, none⟩) vs.length cg4 :: .bool c_s :: .slice c_e1 c_z1.length c_k1 :: .slice c_f1 c_d1.length c_l1 :: .bool c_t :: .slice c_p1 c_z2.length c_q1 :: .slice c_o1 c_d2.length c_r1 :: .bool c_s :: .slice c_e2 c_z1.length c_k2 :: .slice c_f2 c_d1.length c_l2 :: .bool c_t :: .slice c_p2 c_z2.length c_q2 :: .slice c_o2 c_d2.length c_r2 :: .bool n_s :: .slice n_e1 n_z1.length n_k1 :: .slice n_f1 n_d1.length n_l1 :: .bool n_t :: .slice n_p1 n_z2.length n_q1 :: .slice n_o1 n_d2.length n_r1 :: .bool n_s :: .slice n_e2 n_z1.length n_k2 :: .slice n_f2 n_d1.length n_l2 :: .bool n_t :: .slice n_p2 n_z2.length n_q2 :: .slice n_o2 n_d2.length n_r2 :: .bool xs_ :: .slice xe1 xz1.length xk1 :: .slice xf1 xd1.length xl1 :: .bool xt_ :: .slice xp1 xz2.length xq1 :: .slice xo1 xd2.length xr1 :: .bool xs_ :: .slice xe2 xz1.length xk2 :: .slice xf2 xd1.length xl2 :: .bool xt_ :: .slice xp2 xz2.length xq2 :: .slice xo2 xd2.length xr2 :: [])) 26)).alloc (.cells #[.bool ms, .slice me1 mz.length mk1, .slice mf1 md.length ml1, .bool ms, .slice me2 mz.length mk2, .slice mf2 md.length ml2] 24)).drew (W19.heap.size + 1) 24 #[.bool ms, .slice me1 mz.length mk1, .slice mf1 md.length ml1, .bool ms, .slice me2 mz.length mk2, .slice mf2 md.length ml2]) := kpq_dr kpq_newb2
  have BC : Hid (Box ((W19.alloc (.cells #[.bool ms, .slice me1 mz.length mk1, .slice mf1 md.length ml1, .bool ms, .slice me2 mz.length mk2, .slice mf2 md.length ml2] 24)).alloc (.cells (List.toArray (.bool n :: .slice (some ⟨g1, 0, none⟩) xs.length cg1 :: .slice (some ⟨g2, 0, none⟩) ys.length cg2 :: .bool m :: .slice (some ⟨g3, 0, none⟩) us.length cg3 :: .slice (some ⟨g4, 0, none⟩) vs.length cg4 :: .bool c_s :: .slice c_e1 c_z1.length c_k1 :: .slice c_f1 c_d1.length c_l1 :: .bool c_t :: .slice c_p1 c_z2.length c_q1 :: .slice c_o1 c_d2.length c_r1 :: .bool c_s :: .slice c_e2 c_z1.length c_k2 :: .slice c_f2 c_d1.length c_l2 :: .bool c_t :: .slice c_p2 c_z2.length c_q2 :: .slice c_o2 c_d2.length c_r2 :: .bool n_s :: .slice n_e1 n_z1.length n_k1 :: .slice n_f1 n_d1.length n_l1 :: .bool n_t :: .slice n_p1 n_z2.length n_q1 :: .slice n_o1 n_d2.length n_r1 :: .bool n_s :: .slice n_e2 n_z1.length n_k2 :: .slice n_f2 n_d1.length n_l2 :: .bool n_t :: .slice n_p2 n_z2.length n_q2 :: .slice n_o2 n_d2.length n_r2 :: .bool xs_ :: .slice xe1 xz1.length xk1 :: .slice xf1 xd1.length xl1 :: .bool xt_ :: .slice xp1 xz2.length xq1 :: .slice xo1 xd2.length xr1 :: .bool xs_ :: .slice xe2 xz1.length xk2 :: .slice xf2 xd1.length xl2 :: .bool xt_ :: .slice xp2 xz2.length xq2 :: .slice xo2 xd2.length xr2 :: [])) 26)).drew (W19.heap.size + 1) 26 (List.toArray (.bool n :: .slice (some ⟨g1, 0, none⟩) xs.length cg1 :: .slice (some ⟨g2, 0, none⟩) ys.length cg2 :: .bool m :: .slice (some ⟨g3, 0, none⟩) us.length cg3 :: .slice (some ⟨g4, 0, none⟩) vs.length cg4 :: .bool c_s :: .slice c_e1 c_z1.length c_k1 :: .slice c_f1 c_d1.length c_l1 :: .bool c_t :: .slice c_p1 c_z2.length c_q1 :: .slice c_o1 c_d2.length c_r1 :: .bool c_s :: .slice c_e2 c_z1.length c_k2 :: .slice c_f2 c_d1.length c_l2 :: .bool c_t :: .slice c_p2 c_z2.length c_q2 :: .slice c_o2 c_d2.length c_r2 :: .bool n_s :: .slice n_e1 n_z1.length n_k1 :: .slice n_f1 n_d1.length n_l1 :: .bool n_t :: .slice n_p1 n_z2.length n_q1 :: .slice n_o1 n_d2.length n_r1 :: .bool n_s :: .slice n_e2 n_z1.length n_k2 :: .slice n_f2 n_d1.length n_l2 :: .bool n_t :: .slice n_p2 n_z2.length n_q2 :: .slice n_o2 n_d2.length n_r2 :: .bool xs_ :: .slice xe1 xz1.length xk1 :: .slice xf1 xd1.length xl1 :: .bool xt_ :: .slice xp1 xz2.length xq1 :: .slice xo1 xd2.length xr1 :: .bool xs_ :: .slice xe2 xz1.length xk2 :: .slice xf2 xd1.length xl2 :: .bool xt_ :: .slice xp2 xz2.length xq2 :: .slice xo2 xd2.length xr2 :: []))) := kpq_dr kpq_newb2
  have BC2 : Hid (Box ((W19.alloc (.cells #[.bool ms, .slice me1 mz.length mk1, .slice mf1 md.length ml1, .bool ms, .slice me2 mz.length mk2, .slice mf2 md.length ml2] 24)).alloc (.cells (List.toArray (.bool n :: .slice (some ⟨g1, 0, none⟩) xs.length cg1 :: .slice (some ⟨g2, 0, none⟩) ys.length cg2 :: .bool m :: .slice (some ⟨g3, 0, none⟩) us.length cg3 :: .slice (some ⟨g4, 0, none⟩) vs.length cg4 :: .bool c_s :: .slice c_e1 c_z1.length c_k1 :: .slice c_f1 c_d1.length c_l1 :: .bool c_t :: .slice c_p1 c_z2.length c_q1 :: .slice c_o1 c_d2.length c_r1 :: .bool c_s :: .slice c_e2 c_z1.length c_k2 :: .slice c_f2 c_d1.length c_l2 :: .bool c_t :: .slice c_p2 c_z2.length c_q2 :: .slice c_o2 c_d2.length c_r2 :: .bool n_s :: .slice n_e1 n_z1.length n_k1 :: .slice n_f1 n_d1.length n_l1 :: .bool n_t :: .slice n_p1 n_z2.length n_q1 :: .slice n_o1 n_d2.length n_r1 :: .bool n_s :: .slice n_e2 n_z1.length n_k2 :: .slice n_f2 n_d1.length n_l2 :: .bool n_t :: .slice n_p2 n_z2.length n_q2 :: .slice n_o2 n_d2.length n_r2 :: .bool xs_ :: .slice xe1 xz1.length xk1 :: .slice xf1 xd1.length xl1 :: .bool xt_ :: .slice xp1 xz2.length xq1 :: .slice xo1 xd2.length xr1 :: .bool xs_ :: .slice xe2 xz1.length xk2 :: .slice xf2 xd1.length xl2 :: .bool xt_ :: .slice xp2 xz2.length xq2 :: .slice xo2 xd2.length xr2 :: [])) 26)).drew W19.heap.size 24 #[.bool ms, .slice me1 mz.length mk1, .slice mf1 md.length ml1, .bool ms, .slice me2 mz.length mk2, .slice mf2 md.length ml2]) := kpq_dr ((Box.made W19 _ _).later (alloc_later _ _) (Box.made W19 _ _).lt)
  have HPA := hid (HPO.out _ _ HDA.out BA.out)
  have HPB := hid (HPO.out _ _ HDB.out BB.out)
  have HPC := hid (HPO.out _ _ HDC.out BC.out)
  obtain ⟨i0, hi, hz0, hz1, hz2⟩ := info_parts Tryz.infoKg
  clear HPO
  go_upto_region 20 with fail
  go_region_held3 (fun V : World => (V.cell? ⟨p, 0, none⟩ = some (.bool n) ∧ V.cell? ⟨p, 1, none⟩ = some (.slice (some ⟨g1, 0, none⟩) xs.length cg1) ∧ V.cell? ⟨p, 2, none⟩ = some (.slice (some ⟨g2, 0, none⟩) ys.length cg2) ∧ V.cell? ⟨p, 3, none⟩ = some (.bool m) ∧ V.cell? ⟨p, 4, none⟩ = some (.slice (some ⟨g3, 0, none⟩) us.length cg3) ∧ V.cell? ⟨p, 5, none⟩ = some (.slice (some ⟨g4, 0, none⟩) vs.length cg4)) ∧ (V.cell? ⟨W1.heap.size, 0, none⟩ = some (.bool c_s) ∧ V.cell? ⟨W1.heap.size, 1, none⟩ = some (.slice c_e1 c_z1.length c_k1) ∧ V.cell? ⟨W1.heap.size, 2, none⟩ = some (.slice c_f1 c_d1.length c_l1) ∧ V.cell? ⟨W1.heap.size, 3, none⟩ = some (.bool c_t) ∧ V.cell? ⟨W1.heap.size, 4, none⟩ = some (.slice c_p1 c_z2.length c_q1) ∧ V.cell? ⟨W1.heap.size, 5, none⟩ = some (.slice c_o1 c_d2.length c_r1)) ∧ (V.cell? ⟨W2.heap.size, 0, none⟩ = some (.bool c_s) ∧ V.cell? ⟨W2.heap.size, 1, none⟩ = some (.slice c_e2 c_z1.length c_k2) ∧ V.cell? ⟨W2.heap.size, 2, none⟩ = some (.slice c_f2 c_d1.length c_l2) ∧ V.cell? ⟨W2.heap.size, 3, none⟩ = some (.bool c_t) ∧ V.cell? ⟨W2.heap.size, 4, none⟩ = some (.slice c_p2 c_z2.length c_q2) ∧ V.cell? ⟨W2.heap.size, 5, none⟩ = some (.slice c_o2 c_d2.length c_r2)) ∧ (V.cell? ⟨W4.heap.size, 0, none⟩ = some (.bool n_s) ∧ V.cell? ⟨W4.heap.size, 1, none⟩ = some (.slice n_e1 n_z1.length n_k1) ∧ V.cell? ⟨W4.heap.size, 2, none⟩ = some (.slice n_f1 n_d1.length n_l1) ∧ V.cell? ⟨W4.heap.size, 3, none⟩ = some (.bool n_t) ∧ V.cell? ⟨W4.heap.size, 4, none⟩ = some (.slice n_p1 n_z2.length n_q1) ∧ V.cell? ⟨W4.heap.size, 5, none⟩ = some (.slice n_o1 n_d2.length n_r1)) ∧ (V.cell? ⟨W5.heap.size, 0, none⟩ = some (.bool n_s) ∧ V.cell? ⟨W5.heap.size, 1, none⟩ = some (.slice n_e2 n_z1.length n_k2) ∧ V.cell? ⟨W5.heap.size, 2, none⟩ = some (.slice n_f2 n_d1.length n_l2) ∧ V.cell? ⟨W5.heap.size, 3, none⟩ = some (.bool n_t) ∧ V.cell? ⟨W5.heap.size, 4, none⟩ = some (.slice n_p2 n_z2.length n_q2) ∧ V.cell? ⟨W5.heap.size, 5, none⟩ = some (.slice n_o2 n_d2.length n_r2)) ∧ (V.cell? ⟨W11.heap.size, 0, none⟩ = some (.bool xs_) ∧ V.cell? ⟨W11.heap.size, 1, none⟩ = some (.slice xe1 xz1.length xk1) ∧ V.cell? ⟨W11.heap.size, 2, none⟩ = some (.slice xf1 xd1.length xl1) ∧ V.cell? ⟨W11.heap.size, 3, none⟩ = some (.bool xt_) ∧ V.cell? ⟨W11.heap.size, 4, none⟩ = some (.slice xp1 xz2.length xq1) ∧ V.cell? ⟨W11.heap.size, 5, none⟩ = some (.slice xo1 xd2.length xr1)) ∧ (V.cell? ⟨W11.heap.size + 1, 0, none⟩ = some (.bool xs_) ∧ V.cell? ⟨W11.heap.size + 1, 1, none⟩ = some (.slice xe2 xz1.length xk2) ∧ V.cell? ⟨W11.heap.size + 1, 2, none⟩ = some (.slice xf2 xd1.length xl2) ∧ V.cell? ⟨W11.heap.size + 1, 3, none⟩ = some (.bool xt_) ∧ V.cell? ⟨W11.heap.size + 1, 4, none⟩ = some (.slice xp2 xz2.length xq2) ∧ V.cell? ⟨W11.heap.size + 1, 5, none⟩ = some (.slice xo2 xd2.length xr2)) ∧ (V.cell? ⟨W7.heap.size, 0, none⟩ = some (.bool ms) ∧ V.cell? ⟨W7.heap.size, 1, none⟩ = some (.slice me1 mz.length mk1) ∧ V.cell? ⟨W7.heap.size, 2, none⟩ = some (.slice mf1 md.length ml1)) ∧ (V.cell? ⟨W8.heap.size, 0, none⟩ = some (.bool ms) ∧ V.cell? ⟨W8.heap.size, 1, none⟩ = some (.slice me2 mz.length mk2) ∧ V.cell? ⟨W8.heap.size, 2, none⟩ = some (.slice mf2 md.length ml2))) (first | with_reducible exact hs9 | with_reducible exact hsw | with_reducible exact hsua | with_reducible exact hsu | with_reducible exact hsC | with_reducible exact hsB | with_reducible exact hsS | with_reducible exact hsA | with_reducible exact hs0)
    (first
      | (go_at_call 24; (with_reducible refine Calls.mono HPA.out ?_); rintro e u ⟨q, d, rfl, ho, hb⟩; have HU : Hid (Below W19.heap.size W19 u) := bt HDA.out hb.out; have hsu := HKK.out _ HU.out; have HUA : Hid (Below W19.heap.size W19 (u.alloc (.cells #[.bool ms, .slice me1 mz.length mk1, .slice mf1 md.length ml1, .bool ms, .slice me2 mz.length mk2, .slice mf2 md.length ml2] 24))) := bt HU.out (alloc_later u _); have hsua := HKK.out _ HUA.out; have HOA := hid (kg_later3 ho.out (alloc_later u (.cells #[.bool ms, .slice me1 mz.length mk1, .slice mf1 md.length ml1, .bool ms, .slice me2 mz.length mk2, .slice mf2 md.length ml2] 24))); have BXA : Hid (Box (u.alloc (.cells #[.bool ms, .slice me1 mz.length mk1, .slice mf1 md.length ml1, .bool ms, .slice me2 mz.length mk2, .slice mf2 md.length ml2] 24)) u.heap.size 24 #[.bool ms, .slice me1 mz.length mk1, .slice mf1 md.length ml1, .bool ms, .slice me2 mz.length mk2, .slice mf2 md.length ml2]) := Box.made u _ _)
      | (go_at_call 24; (with_reducible refine Calls.mono HPB.out ?_); rintro e u ⟨q, d, rfl, ho, hb⟩; have HU : Hid (Below W19.heap.size W19 u) := bt HDB.out hb.out; have hsu := HKK.out _ HU.out; have BXB := hid (BB2.out.later hb.out BB2.out.lt))
      | (go_at_call 24; (with_reducible refine Calls.mono HPC.out ?_); rintro e u ⟨q, d, rfl, ho, hb⟩; have HU : Hid (Below W19.heap.size W19 u) := bt HDC.out hb.out; have hsu := HKK.out _ HU.out; have BXC := hid (BC2.out.later hb.out BC2.out.lt))
      | (refine step_append_g (by rfl) (.tmp 192) (.tmp 195) 40 (by rfl) W19.heap.size 24 i0 (.agg #[.bool false, .slice none 0 0, .slice none 0 0]) 3 56 Tryz.underlying40 hi hz0 hz1 hz2 rfl (by decide) (.slice q 14 d) 14 (anCells B A L C 14) (by rfl) HOA.out ⟨u.heap.size, 0, none⟩ 2 2 [.bool ms, .slice me1 mz.length mk1, .slice mf1 md.length ml1, .bool ms, .slice me2 mz.length mk2, .slice mf2 md.length ml2] (by rfl) rfl (kpq_six BXA.out) (by simp [Value.oneCell']) (by unfold maxLen; omega) (by omega) HUA.out.size ?_; intro v1 w1 o1 gr1; have HW1 : Hid (Below W19.heap.size W19 w1) := HUA.out.grown gr1 HUA.out.size (fun k hk => (HOA.out.lt k hk).1); obtain ⟨q1, d1, hv1⟩ := kg_slice3 o1; subst hv1; rw [HAN.out] at o1; have HO1 := hid o1; clear o1 gr1; have hsw := HKK.out _ HW1.out)
      | (refine step_append_g (by rfl) (.tmp 192) (.tmp 195) 40 (by rfl) W19.heap.size 24 i0 (.agg #[.bool false, .slice none 0 0, .slice none 0 0]) 3 56 Tryz.underlying40 hi hz0 hz1 hz2 rfl (by decide) (.slice q 14 d) 14 (anCells B A L C 14) (by rfl) ho.out ⟨W19.heap.size + 1, 0, none⟩ 2 2 [.bool ms, .slice me1 mz.length mk1, .slice mf1 md.length ml1, .bool ms, .slice me2 mz.length mk2, .slice mf2 md.length ml2] (by rfl) rfl (kpq_six BXB.out) (by simp [Value.oneCell']) (by unfold maxLen; omega) (by omega) HU.out.size ?_; intro v1 w1 o1 gr1; have HW1 : Hid (Below W19.heap.size W19 w1) := HU.out.grown gr1 HU.out.size (fun k hk => (ho.out.lt k hk).1); obtain ⟨q1, d1, hv1⟩ := kg_slice3 o1; subst hv1; rw [HAN.out] at o1; have HO1 := hid o1; clear o1 gr1; have hsw := HKK.out _ HW1.out)
      | (refine step_append_g (by rfl) (.tmp 192) (.tmp 195) 40 (by rfl) W19.heap.size 24 i0 (.agg #[.bool false, .slice none 0 0, .slice none 0 0]) 3 56 Tryz.underlying40 hi hz0 hz1 hz2 rfl (by decide) (.slice q 14 d) 14 (anCells B A L C 14) (by rfl) ho.out ⟨W19.heap.size, 0, none⟩ 2 2 [.bool ms, .slice me1 mz.length mk1, .slice mf1 md.length ml1, .bool ms, .slice me2 mz.length mk2, .slice mf2 md.length ml2] (by rfl) rfl (kpq_six BXC.out) (by simp [Value.oneCell']) (by unfold maxLen; omega) (by omega) HU.out.size ?_; intro v1 w1 o1 gr1; have HW1 : Hid (Below W19.heap.size W19 w1) := HU.out.grown gr1 HU.out.size (fun k hk => (ho.out.lt k hk).1); obtain ⟨q1, d1, hv1⟩ := kg_slice3 o1; subst hv1; rw [HAN.out] at o1; have HO1 := hid o1; clear o1 gr1; have hsw := HKK.out _ HW1.out)
      | (go_at_call 23; (with_reducible refine Calls.mono (HAP.out _ _ _ HW1.out HO1.out) ?_); rintro e w9 ⟨rfl, hb9, hk9⟩; have hs9 := HKZ.out _ _ HW1.out hk9.out))
  all_goals
    go_wp2_with fail
    go_ret
    exact ⟨rfl, hb9.out⟩
end Go.Proofs.YtopogjfmocpeaaaGreat

/- A complex fraction, a constituent, that came in is read. -/
namespace Go.Proofs.YtopogjfmocpeaaaGreat
open Go.ChangeShapes Go.WideShapes Go.ChangeAt Go.RowKit Go.Joins Go.Deep
set_option linter.unusedVariables false

/-- A slice of words that came in: nil, or a row of 'cap' cells. -/
def InRow (w : World) (a : Option Addr) (len cap : Nat) (zs : List Int) : Prop :=
  (a = none ∧ len = 0 ∧ cap = 0 ∧ zs = []) ∨
  ∃ x, a = some x ∧ len ≤ cap ∧ cap ≤ maxLen ∧ zs.length = cap ∧ (∀ i, i < zs.length → w.cell? (x.add i) = some (.int .u32 (zs.getD i 0))) ∧ ∀ n ∈ zs, (Lit.int .u32 n).wf = true
theorem arr6 {cs : Array Value} (h : cs.size = 6) : ∃ c0 c1 c2 c3 c4 c5, cs = #[c0, c1, c2, c3, c4, c5] := by
  rcases cs with ⟨l⟩
  match l, h with
  | [c0, c1, c2, c3, c4, c5], _ => exact ⟨c0, c1, c2, c3, c4, c5, rfl⟩
theorem in_row {H : Type} {enc : TypeId × Value → H} {w : World} {held : Bool} {n : Nat} {v : Value} {x : DataW H × List MemPlace} (h : DataW.trod enc Tryz.prog w 0 (fun _ => true) held n 22 [v] = some x) : ∃ a len cap zs, v = .slice a len cap ∧ InRow w a len cap zs := by
  rcases open_ints Tryz.underlying22 Tryz.underlying68 (by kernel_rfl) h with ⟨hcs, _⟩ | ⟨x, l, cc, zs, hcs, _, hl, hm, hz, _, hcell, hwz⟩
  · simp at hcs
    exact ⟨none, 0, 0, [], hcs, .inl ⟨rfl, rfl, rfl, rfl⟩⟩
  · simp at hcs
    exact ⟨some x, l, cc, zs, hcs, .inr ⟨_, rfl, hl, hm, by simpa using hz, hcell, hwz⟩⟩
theorem in_ratio {H : Type} {enc : TypeId × Value → H} {w : World} {held : Bool} {n : Nat} {v0 v1 v2 : Value} {x : DataW H × List MemPlace} (h : DataW.trod enc Tryz.prog w 0 (fun _ => true) held n 24 [v0, v1, v2] = some x) :
    ∃ s a len cap zs b lem cbp ys, v0 = .bool s ∧ v1 = .slice a len cap ∧ v2 = .slice b lem cbp ∧ InRow w a len cap zs ∧ InRow w b lem cbp ys := by
  obtain ⟨y0, y1, y2, m, _, _, t0, t1, t2⟩ := trod_struct3 Tryz.underlying24 h
  have k0 : Tryz.prog.cellsOf 4 = 1 := by kernel_rfl
  have k1 : Tryz.prog.cellsOf 22 = 1 := by kernel_rfl
  simp [k0] at t0
  simp [k1] at t1 t2
  obtain ⟨s, hs, _⟩ := DataW.trod_bool Tryz.underlying4 t0
  simp at hs
  obtain ⟨a, len, cap, zs, e1, r1⟩ := in_row t1
  obtain ⟨b, lem, cbp, ys, e2, r2⟩ := in_row t2
  exact ⟨s, a, len, cap, zs, b, lem, cbp, ys, hs, e1, e2, r1, r2⟩
theorem in_gauss {H : Type} {enc : TypeId × Value → H} {w : World} {held : Bool} {n : Nat} {v0 v1 v2 v3 v4 v5 : Value} {x : DataW H × List MemPlace} (h : DataW.trod enc Tryz.prog w 0 (fun _ => true) held n 26 [v0, v1, v2, v3, v4, v5] = some x) :
    (∃ s a len cap zs b lem cbp ys, v0 = .bool s ∧ v1 = .slice a len cap ∧ v2 = .slice b lem cbp ∧ InRow w a len cap zs ∧ InRow w b lem cbp ys) ∧ (∃ s a len cap zs b lem cbp ys, v3 = .bool s ∧ v4 = .slice a len cap ∧ v5 = .slice b lem cbp ∧ InRow w a len cap zs ∧ InRow w b lem cbp ys) := by
  obtain ⟨y0, y1, m, _, _, t0, t1⟩ := trod_struct2 Tryz.underlying26 h
  have k0 : Tryz.prog.cellsOf 24 = 3 := by kernel_rfl
  simp [k0] at t0 t1
  exact ⟨in_ratio t0, in_ratio t1⟩
set_option maxHeartbeats 800000 in
set_option maxRecDepth 100000 in
theorem open_gauss {H : Type} {enc : TypeId × Value → H} {w : World} {held : Bool} {r : Reach} {b0 : Nat} {v : Value} {d : DataW H} {p : List MemPlace} (hv : Value.okWide Tryz.prog w r b0 26 v) (h : DataW.Trod enc Tryz.prog w 0 (fun _ => true) held 26 v d p) :
    ∃ (n : Bool) (a : Option Addr) (len cap : Nat) (zs : List Int) (b : Option Addr) (lem cbp : Nat) (ys : List Int) (m : Bool) (c : Option Addr) (lec cac : Nat) (us : List Int) (e : Option Addr) (lee cae : Nat) (vs : List Int),
      v = .agg #[.bool n, .slice a len cap, .slice b lem cbp, .bool m, .slice c lec cac, .slice e lee cae] ∧ InRow w a len cap zs ∧ InRow w b lem cbp ys ∧ InRow w c lec cac us ∧ InRow w e lee cae vs := by
  obtain ⟨cs, rfl, hsz⟩ := okWide_struct Tryz.underlying26 hv
  obtain ⟨c0, c1, c2, c3, c4, c5, rfl⟩ := arr6 (hsz.trans (by kernel_rfl))
  obtain ⟨fuel, hf⟩ := h
  obtain ⟨⟨n, a, len, cap, zs, b, lem, cbp, ys, e1, e2, e3, r1, r2⟩, m2, c, lec, cac, us, e, lee, cae, vs, e4, e5, e6, r3, r4⟩ := in_gauss (v0 := c0) (v1 := c1) (v2 := c2) (v3 := c3) (v4 := c4) (v5 := c5) hf
  exact ⟨n, a, len, cap, zs, b, lem, cbp, ys, m2, c, lec, cac, us, e, lee, cae, vs, by rw [e1, e2, e3, e4, e5, e6], r1, r2, r3, r4⟩
end Go.Proofs.YtopogjfmocpeaaaGreat

/- The law GaussParts, of whatever comes in. -/
namespace Go.Proofs.YtopogjfmocpeaaaGreat
open Go.RowKit
set_option linter.unusedVariables false

theorem gp_two (w : World) (u v : Array Value) (t : Nat) : Box ((w.alloc (.cells u t)).alloc (.cells v t)) w.heap.size t u ∧ Box ((w.alloc (.cells u t)).alloc (.cells v t)) (w.heap.size + 1) t v ∧ Below w.heap.size w ((w.alloc (.cells u t)).alloc (.cells v t)) :=
  ⟨(Box.made w _ _).later (alloc_later _ _) (Box.made w _ _).lt, kpq_newb2, bt (alloc_later _ _) (alloc_later _ _)⟩
set_option maxHeartbeats 1600000 in
set_option maxRecDepth 100000 in
theorem gaussParts_off (n : Bool) (a : Option Addr) (k1 ca : Nat) (b : Option Addr) (k2 cb : Nat) (m : Bool) (c : Option Addr) (k3 cc : Nat) (d : Option Addr) (k4 cd : Nat) (n2 : Bool) (a2 : Option Addr) (l1 ca2 : Nat) (b2 : Option Addr) (l2 cb2 : Nat) (m2 : Bool) (c2 : Option Addr) (l3 cc2 : Nat) (d2 : Option Addr) (l4 cd2 : Nat) (re im : Int) (w : World) (hq : ((smH k1 && smH k2) && (smH k3 && smH k4)) = false ∨ ((smH l1 && smH l2) && (smH l3 && smH l4)) = false) :
    Calls Tryz.prog 3 #[.agg #[.bool n, .slice a k1 ca, .slice b k2 cb, .bool m, .slice c k3 cc, .slice d k4 cd], .agg #[.bool n2, .slice a2 l1 ca2, .slice b2 l2 cb2, .bool m2, .slice c2 l3 cc2, .slice d2 l4 cd2], .int .i64 re, .int .i64 im] w fun e w' => e = .returned (.bool true) ∧ Below w.heap.size w w' := by
  have HX := hid (gp_two w #[.bool n, .slice a k1 ca, .slice b k2 cb, .bool m, .slice c k3 cc, .slice d k4 cd] #[.bool n2, .slice a2 l1 ca2, .slice b2 l2 cb2, .bool m2, .slice c2 l3 cc2, .slice d2 l4 cd2] 26)
  obtain ⟨P, hP⟩ : ∃ P, (w.alloc (.cells #[.bool n, .slice a k1 ca, .slice b k2 cb, .bool m, .slice c k3 cc, .slice d k4 cd] 26)).alloc (.cells #[.bool n2, .slice a2 l1 ca2, .slice b2 l2 cb2, .bool m2, .slice c2 l3 cc2, .slice d2 l4 cd2] 26) = P := ⟨_, rfl⟩
  rw [hP] at HX
  have HS := hid (kheavy_any n a k1 ca b k2 cb m c k3 cc d k4 cd P)
  have HS2 := hid (fun V => kheavy_any n2 a2 l1 ca2 b2 l2 cb2 m2 c2 l3 cc2 d2 l4 cd2 V)
  have HB := hid HX.out.2.2
  obtain ⟨e0, e1, e2, e3, e4, e5⟩ := Kl6.of HX.out.1
  cases h1 : ((smH k1 && smH k2) && (smH k3 && smH k4))
  · rw [h1] at HS
    clear hq h1
    go_enter Tryz.func3, Tryz.ntmps3
    go_wp2_with fail
    clear hP
    refine Calls.mono HS.out ?_
    rintro e w1 ⟨rfl, hb⟩
    have HB2 := hid (bt HB.out hb)
    clear hb HS e0 e1 e2 e3 e4 e5
    go_wp2_with fail
    go_ret
    exact ⟨rfl, HB2.out⟩
  · rw [h1] at HS
    have h2 : ((smH l1 && smH l2) && (smH l3 && smH l4)) = false := by
      rcases hq with hq | hq
      · rw [h1] at hq
        exact absurd hq (by decide)
      · exact hq
    rw [h2] at HS2
    clear hq h1 h2
    go_enter Tryz.func3, Tryz.ntmps3
    go_wp2_with fail
    clear hP
    refine Calls.mono HS.out ?_
    rintro e w1 ⟨rfl, hb⟩
    have HB2 := hid (bt HB.out hb)
    have HC := hid (HS2.out w1)
    clear e0 e1 e2 e3 e4 e5
    obtain ⟨e0, e1, e2, e3, e4, e5⟩ := Kl6.of (HX.out.2.1.later hb HX.out.2.1.lt)
    clear hb HS HS2
    go_wp2_with fail
    refine Calls.mono HC.out ?_
    rintro e w2 ⟨rfl, hb⟩
    have HB3 := hid (bt HB2.out hb)
    clear hb HC e0 e1 e2 e3 e4 e5
    go_wp2_with fail
    go_ret
    exact ⟨rfl, HB3.out⟩
theorem gp_smH_le {k : Nat} (h : smH k = true) : k ≤ 3000 := by
  unfold smH at h
  simp at h
  omega
theorem gaussParts_in (n0 : Bool) (a0 : Option Addr) (k0 ca0 : Nat) (xs0 : List Int) (b0 : Option Addr) (l0 cb0 : Nat) (ys0 : List Int) (m0 : Bool) (c0 : Option Addr) (kc0 cc0 : Nat) (us0 : List Int) (d0 : Option Addr) (kd0 cd0 : Nat) (vs0 : List Int) (n1 : Bool) (a1 : Option Addr) (k1 ca1 : Nat) (xs1 : List Int) (b1 : Option Addr) (l1 cb1 : Nat) (ys1 : List Int) (m1 : Bool) (c1 : Option Addr) (kc1 cc1 : Nat) (us1 : List Int) (d1 : Option Addr) (kd1 cd1 : Nat) (vs1 : List Int) (re im : Int) (w : World) (h0 : Reads w w.heap.size a0 k0 ca0 xs0) (g0 : Reads w w.heap.size b0 l0 cb0 ys0) (i0 : Reads w w.heap.size c0 kc0 cc0 us0) (j0 : Reads w w.heap.size d0 kd0 cd0 vs0) (h1 : Reads w w.heap.size a1 k1 ca1 xs1) (g1 : Reads w w.heap.size b1 l1 cb1 ys1) (i1 : Reads w w.heap.size c1 kc1 cc1 us1) (j1 : Reads w w.heap.size d1 kd1 cd1 vs1) (re0 : -9223372036854775808 ≤ re) (re1 : re ≤ 9223372036854775807) (im0 : -9223372036854775808 ≤ im) (im1 : im ≤ 9223372036854775807) :
    Calls Tryz.prog 3 #[.agg #[.bool n0, .slice a0 k0 ca0, .slice b0 l0 cb0, .bool m0, .slice c0 kc0 cc0, .slice d0 kd0 cd0], .agg #[.bool n1, .slice a1 k1 ca1, .slice b1 l1 cb1, .bool m1, .slice c1 kc1 cc1, .slice d1 kd1 cd1], .int .i64 re, .int .i64 im] w fun e w' => e = .returned (.bool true) ∧ Below w.heap.size w w' := by
  by_cases hq : ((smH k0 && smH l0) && (smH kc0 && smH kd0)) = false ∨ ((smH k1 && smH l1) && (smH kc1 && smH kd1)) = false
  · exact gaussParts_off n0 a0 k0 ca0 b0 l0 cb0 m0 c0 kc0 cc0 d0 kd0 cd0 n1 a1 k1 ca1 b1 l1 cb1 m1 c1 kc1 cc1 d1 kd1 cd1 re im w hq
  · have q : ((smH k0 && smH l0) && (smH kc0 && smH kd0)) = true := by cases h : ((smH k0 && smH l0) && (smH kc0 && smH kd0)); exact absurd (.inl h) hq; rfl
    have p : ((smH k1 && smH l1) && (smH kc1 && smH kd1)) = true := by cases h : ((smH k1 && smH l1) && (smH kc1 && smH kd1)); exact absurd (.inr h) hq; rfl
    have q' : (smH k0 && smH l0) = true ∧ (smH kc0 && smH kd0) = true := by simpa using q
    have p' : (smH k1 && smH l1) = true ∧ (smH kc1 && smH kd1) = true := by simpa using p
    have r1 : smH k0 = true ∧ smH l0 = true := by simpa using q'.1
    have r2 : smH kc0 = true ∧ smH kd0 = true := by simpa using q'.2
    have s1 : smH k1 = true ∧ smH l1 = true := by simpa using p'.1
    have s2 : smH kc1 = true ∧ smH kd1 = true := by simpa using p'.2
    obtain rfl := h0.1
    obtain rfl := g0.1
    obtain rfl := i0.1
    obtain rfl := j0.1
    obtain rfl := h1.1
    obtain rfl := g1.1
    obtain rfl := i1.1
    obtain rfl := j1.1
    apply gaussParts_go
    all_goals first | exact ⟨_, _, rfl, h0⟩ | exact ⟨_, _, rfl, g0⟩ | exact ⟨_, _, rfl, i0⟩ | exact ⟨_, _, rfl, j0⟩ | exact ⟨_, _, rfl, h1⟩ | exact ⟨_, _, rfl, g1⟩ | exact ⟨_, _, rfl, i1⟩ | exact ⟨_, _, rfl, j1⟩ | exact gp_smH_le r1.1 | exact gp_smH_le r1.2 | exact gp_smH_le r2.1 | exact gp_smH_le r2.2 | exact gp_smH_le s1.1 | exact gp_smH_le s1.2 | exact gp_smH_le s2.1 | exact gp_smH_le s2.2 | exact q'.1 | exact q'.2 | exact p'.1 | exact p'.2 | assumption
end Go.Proofs.YtopogjfmocpeaaaGreat

