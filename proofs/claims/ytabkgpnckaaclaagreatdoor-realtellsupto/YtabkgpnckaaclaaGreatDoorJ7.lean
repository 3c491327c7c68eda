/- My texts on the way to RealTells, one behind the other: contracts of the program and of the document's answers. -/
import Derived.Test.YtabkgpnckaaclaaGreatDoorJ6
import Derived.Deep.RegionHeld3
/- The law RealTells answers true, and writes nothing that was there: whatever two floats and whatever fraction come in. (tools/mkrealtells.py) -/
namespace Go.Proofs.YtabkgpnckaaclaaGreatDoor
open Go.RowKit
set_option linter.unusedVariables false

theorem lentf {W : World} {base g cap : Nat} {xs : List Int} (ho : W.ownsRow base 88 1 (.slice (some ⟨g, 0, none⟩) (xs.length + 3) cap) (xs.length + 3) ((xs ++ marks 3).map (Value.int .u32))) : W.ownsRow base 88 1 (.slice (some ⟨g, 0, none⟩) xs.length cap) xs.length (xs.map (Value.int .u32)) := by
  rw [List.map_append] at ho
  exact owns_front (k := 3) ho (by simp)

theorem RTells.few {e : Int} {q : Rat} {n : Bool} {xs ys : List Int} {code : Int} (h : RTells e q n xs ys code) : xs.length ≤ 2048 ∧ ys.length ≤ 2048 := by
  by_cases he : e = 0
  · by_cases hl : rlong q
    · obtain ⟨_, h1, h2, _⟩ := h.long he hl
      subst h1; subst h2
      exact ⟨by simp, by simp⟩
    · obtain ⟨_, h1, _⟩ := h.good he hl
      obtain ⟨l1, l2, _⟩ := rchk_ok h1
      omega
  · obtain ⟨_, h1, h2, _⟩ := h.bad he
    subst h1; subst h2
    exact ⟨by simp, by simp⟩
set_option maxHeartbeats 800000 in
set_option maxRecDepth 100000 in
theorem ndSameFloat (x : Nat) (w : World) : Calls Tryz.prog 20 #[.float .f64 x, .float .f64 x] w fun e w' => e = .returned (.bool true) ∧ w' = w := by
  cases hn : isnan x with
  | false =>
    have h1 : (FloatKind.f64.format.order x x == some .eq) = true := by rw [order_refl hn]; rfl
    go_enter Tryz.func20, Tryz.ntmps20
    go_wp2_with fail
    go_ret
    exact ⟨rfl, rfl⟩
  | true =>
    have h1 : (FloatKind.f64.format.order x x == some .eq) = false := by rw [order_nan_l hn]; rfl
    have h2 : (FloatKind.f64.format.order x x != some .eq) = true := by rw [order_nan_l hn]; rfl
    go_enter Tryz.func20, Tryz.ntmps20
    go_wp2_with fail
    go_ret
    exact ⟨rfl, rfl⟩
theorem bt_al {w a b : World} {o : Obj} (h : Below w.heap.size w a) (g : Below w.heap.size (a.alloc o) b) : Below w.heap.size w b := (bt h (alloc_later a o)).trans g

set_option maxHeartbeats 6400000 in
set_option maxRecDepth 100000 in
theorem realTells_walk (x y : Nat) (n : Bool) (a : Option Addr) (ca : Nat) (xs : List Int) (b : Option Addr) (cb : Nat) (ys : List Int) (w : World) (hx : x < 18446744073709551616) (hy : y < 18446744073709551616) (hT : TabB w) (sx : Sl w (.slice a xs.length ca) xs) (sy : Sl w (.slice b ys.length cb) ys) (lx : xs.length ≤ 1048576) (ly : ys.length ≤ 1048576) :
    Calls Tryz.prog 3 #[.int .u64 (x : Int), .int .u64 (y : Int), .agg #[.bool n, .slice a xs.length ca, .slice b ys.length cb]] w fun e w' => e = .returned (.bool true) ∧ Below w.heap.size w w' := by
  have FX := from_run x
  have FY := from_run y
  obtain ⟨P, hP⟩ : ∃ P, w.alloc (.cells #[.bool n, .slice a xs.length ca, .slice b ys.length cb] 25) = P := ⟨_, rfl⟩
  have b1 : Below w.heap.size w P := by rw [← hP]; exact alloc_later _ _
  have HW0 := hid b1
  have HZP := hid b1.size
  have HR0 : Hid (Box P w.heap.size 25 #[.bool n, .slice a xs.length ca, .slice b ys.length cb]) := by rw [← hP]; exact Box.made w _ _
  have SR0 := hid (And.intro (sx.later b1) (sy.later b1))
  have ST0 := hid (hT.later b1)
  have HXY := hid (And.intro hx hy)
  have HWD := hid (And.intro sx.wd sy.wd)
  clear sx sy hT b1 hx hy
  go_enter Tryz.func3, Tryz.ntmps3
  have clR_0 : P.cell? ⟨w.heap.size, 0, none⟩ = some (.bool n) := HR0.out.cell 0
  have clR_1 : P.cell? ⟨w.heap.size, 1, none⟩ = some (.slice a xs.length ca) := HR0.out.cell 1
  have clR_2 : P.cell? ⟨w.heap.size, 2, none⟩ = some (.slice b ys.length cb) := HR0.out.cell 2
  go_wp2_with fail
  clear hP FX FY
  refine Calls.mono (lentRatio_any n a ca xs b cb ys P SR0.out.1 SR0.out.2 (by omega) (by omega)) ?_
  rintro e w1 ⟨g1, c1, g2, c2, rfl, o1, o2, hg, hb⟩
  clear clR_0 clR_1 clR_2
  have HG : Hid (P.heap.size ≤ g1 ∧ g1 < g2 ∧ g2 < w1.heap.size) := ⟨(o1.lt g1 rfl).1, hg, (o2.lt g2 rfl).2⟩
  have HW1 := hid (bt HW0.out hb)
  have Z1 := hid (Below.size hb)
  have HR1 := hid (HR0.out.later hb HR0.out.lt)
  have SR1 := hid (And.intro (SR0.out.1.later hb) (SR0.out.2.later hb))
  have ST1 := hid (ST0.out.later hb)
  clear HW0 HR0 SR0 ST0
  have SL0 := hid (And.intro o1 o2)
  clear o1 o2 hg hb
  have GP := hid (Box.made w1 25 #[.bool n, .slice (some ⟨g1, 0, none⟩) xs.length c1, .slice (some ⟨g2, 0, none⟩) ys.length c2])
  have LP := hid (alloc_later w1 (.cells #[.bool n, .slice (some ⟨g1, 0, none⟩) xs.length c1, .slice (some ⟨g2, 0, none⟩) ys.length c2] 25))
  obtain ⟨YP, hYP⟩ : ∃ YP, w1.alloc (.cells #[.bool n, .slice (some ⟨g1, 0, none⟩) xs.length c1, .slice (some ⟨g2, 0, none⟩) ys.length c2] 25) = YP := ⟨_, rfl⟩
  rw [hYP] at GP LP
  have HW2 := hid (bt HW1.out LP.out)
  have Z2 := hid (Below.size LP.out)
  have HR2 := hid (HR1.out.later LP.out HR1.out.lt)
  have SR2 := hid (And.intro (SR1.out.1.later LP.out) (SR1.out.2.later LP.out))
  have ST2 := hid (ST1.out.later LP.out)
  have SL2 := hid (And.intro (owns_later SL0.out.1 LP.out) (owns_later SL0.out.2 LP.out))
  clear HW1 HR1 SR1 ST1 SL0
  have HC := hid (exact_any x YP HXY.out.1 ST2.out)
  go_wp2_with fail
  clear hYP
  refine Calls.mono HC.out ?_
  rintro e w2 ⟨n1, a1, k1, b1, l1, x1, y1, e1, rfl, o1, o2, ht, hab, hb⟩
  clear HC
  have HT1 := hid ht
  have HA1 := hid (And.intro hab (And.intro (Within.owns o1) (Within.owns o2)))
  have HW3 := hid (bt HW2.out hb)
  have Z3 := hid (Below.size hb)
  have HR3 := hid (HR2.out.later hb HR2.out.lt)
  have HP3 := hid (GP.out.later hb GP.out.lt)
  have SR3 := hid (And.intro (SR2.out.1.later hb) (SR2.out.2.later hb))
  have ST3 := hid (ST2.out.later hb)
  have SL3 := hid (And.intro (owns_later SL2.out.1 hb) (owns_later SL2.out.2 hb))
  clear HW2 HR2 GP SR2 ST2 SL2
  have SO1 := hid (And.intro o1 o2)
  clear o1 o2 ht hb hab
  have hz2 := True.intro
  have GA := hid (Box.made w2 25 #[.bool n1, .slice a1 x1.length k1, .slice b1 y1.length l1])
  have LA := hid (alloc_later w2 (.cells #[.bool n1, .slice a1 x1.length k1, .slice b1 y1.length l1] 25))
  obtain ⟨YA, hYA⟩ : ∃ YA, w2.alloc (.cells #[.bool n1, .slice a1 x1.length k1, .slice b1 y1.length l1] 25) = YA := ⟨_, rfl⟩
  rw [hYA] at GA LA
  have HW4 := hid (bt HW3.out LA.out)
  have Z4 := hid (Below.size LA.out)
  have HR4 := hid (HR3.out.later LA.out HR3.out.lt)
  have HP4 := hid (HP3.out.later LA.out HP3.out.lt)
  have SR4 := hid (And.intro (SR3.out.1.later LA.out) (SR3.out.2.later LA.out))
  have ST4 := hid (ST3.out.later LA.out)
  have SL4 := hid (And.intro (owns_later SL3.out.1 LA.out) (owns_later SL3.out.2 LA.out))
  have SO14 := hid (And.intro (owns_later SO1.out.1 LA.out) (owns_later SO1.out.2 LA.out))
  clear HW3 HR3 HP3 SR3 ST3 SL3 SO1
  have HC := hid (ndExact_all x YA HXY.out.1)
  go_wp2_with fail
  clear hYA
  refine Calls.mono HC.out ?_
  rintro e w3 ⟨n2, a2, k2, b2, l2, x2, y2, e2, rfl, o1, o2, ht, hb⟩
  clear HC
  have HT2 := hid ht
  have HW5 := hid (bt HW4.out hb)
  have Z5 := hid (Below.size hb)
  have HR5 := hid (HR4.out.later hb HR4.out.lt)
  have HP5 := hid (HP4.out.later hb HP4.out.lt)
  have HA5 := hid (GA.out.later hb GA.out.lt)
  have SR5 := hid (And.intro (SR4.out.1.later hb) (SR4.out.2.later hb))
  have ST5 := hid (ST4.out.later hb)
  have SL5 := hid (And.intro (owns_later SL4.out.1 hb) (owns_later SL4.out.2 hb))
  have SO15 := hid (And.intro (owns_later SO14.out.1 hb) (owns_later SO14.out.2 hb))
  clear HW4 HR4 HP4 GA SR4 ST4 SL4 SO14
  have SO2 := hid (And.intro o1 o2)
  clear o1 o2 ht hb
  obtain ⟨rfl, rfl, rfl, rfl⟩ := HT1.out.same HT2.out
  have GB := hid (Box.made w3 25 #[.bool n1, .slice a2 x1.length k2, .slice b2 y1.length l2])
  have LB := hid (alloc_later w3 (.cells #[.bool n1, .slice a2 x1.length k2, .slice b2 y1.length l2] 25))
  obtain ⟨YB, hYB⟩ : ∃ YB, w3.alloc (.cells #[.bool n1, .slice a2 x1.length k2, .slice b2 y1.length l2] 25) = YB := ⟨_, rfl⟩
  rw [hYB] at GB LB
  have HW6 := hid (bt HW5.out LB.out)
  have Z6 := hid (Below.size LB.out)
  have HR6 := hid (HR5.out.later LB.out HR5.out.lt)
  have HP6 := hid (HP5.out.later LB.out HP5.out.lt)
  have HA6 := hid (HA5.out.later LB.out HA5.out.lt)
  have SR6 := hid (And.intro (SR5.out.1.later LB.out) (SR5.out.2.later LB.out))
  have ST6 := hid (ST5.out.later LB.out)
  have SL6 := hid (And.intro (owns_later SL5.out.1 LB.out) (owns_later SL5.out.2 LB.out))
  have SO16 := hid (And.intro (owns_later SO15.out.1 LB.out) (owns_later SO15.out.2 LB.out))
  have SO26 := hid (And.intro (owns_later SO2.out.1 LB.out) (owns_later SO2.out.2 LB.out))
  clear HW5 HR5 HP5 HA5 SR5 ST5 SL5 SO15 SO2
  have HC := hid (exact_any x YB HXY.out.1 ST6.out)
  go_wp2_with fail
  clear hYB
  refine Calls.mono HC.out ?_
  rintro e w4 ⟨n3, a3, k3, b3, l3, x3, y3, e3, rfl, o1, o2, ht, hab, hb⟩
  clear HC
  have HT3 := hid ht
  have HA3 := hid (And.intro hab (And.intro (Within.owns o1) (Within.owns o2)))
  have HW7 := hid (bt HW6.out hb)
  have Z7 := hid (Below.size hb)
  have HR7 := hid (HR6.out.later hb HR6.out.lt)
  have HP7 := hid (HP6.out.later hb HP6.out.lt)
  have HA7 := hid (HA6.out.later hb HA6.out.lt)
  have HB7 := hid (GB.out.later hb GB.out.lt)
  have SR7 := hid (And.intro (SR6.out.1.later hb) (SR6.out.2.later hb))
  have ST7 := hid (ST6.out.later hb)
  have SL7 := hid (And.intro (owns_later SL6.out.1 hb) (owns_later SL6.out.2 hb))
  have SO17 := hid (And.intro (owns_later SO16.out.1 hb) (owns_later SO16.out.2 hb))
  have SO27 := hid (And.intro (owns_later SO26.out.1 hb) (owns_later SO26.out.2 hb))
  clear HW6 HR6 HP6 HA6 GB SR6 ST6 SL6 SO16 SO26
  have SO3 := hid (And.intro o1 o2)
  clear o1 o2 ht hb hab
  obtain ⟨rfl, rfl, rfl, rfl⟩ := HT1.out.same HT3.out
  have GC := hid (Box.made w4 25 #[.bool n1, .slice a3 x1.length k3, .slice b3 y1.length l3])
  have LC := hid (alloc_later w4 (.cells #[.bool n1, .slice a3 x1.length k3, .slice b3 y1.length l3] 25))
  obtain ⟨YC, hYC⟩ : ∃ YC, w4.alloc (.cells #[.bool n1, .slice a3 x1.length k3, .slice b3 y1.length l3] 25) = YC := ⟨_, rfl⟩
  rw [hYC] at GC LC
  have HW8 := hid (bt HW7.out LC.out)
  have Z8 := hid (Below.size LC.out)
  have HR8 := hid (HR7.out.later LC.out HR7.out.lt)
  have HP8 := hid (HP7.out.later LC.out HP7.out.lt)
  have HA8 := hid (HA7.out.later LC.out HA7.out.lt)
  have HB8 := hid (HB7.out.later LC.out HB7.out.lt)
  have SR8 := hid (And.intro (SR7.out.1.later LC.out) (SR7.out.2.later LC.out))
  have ST8 := hid (ST7.out.later LC.out)
  have SL8 := hid (And.intro (owns_later SL7.out.1 LC.out) (owns_later SL7.out.2 LC.out))
  have SO18 := hid (And.intro (owns_later SO17.out.1 LC.out) (owns_later SO17.out.2 LC.out))
  have SO28 := hid (And.intro (owns_later SO27.out.1 LC.out) (owns_later SO27.out.2 LC.out))
  have SO38 := hid (And.intro (owns_later SO3.out.1 LC.out) (owns_later SO3.out.2 LC.out))
  clear HW7 HR7 HP7 HA7 HB7 SR7 ST7 SL7 SO17 SO27 SO3
  have HC := hid (nearest_any n _ xs _ ys YC (Sl.own (lentf SL8.out.1) HWD.out.1) (Sl.own (lentf SL8.out.2) HWD.out.2))
  have clP_0 : YC.cell? ⟨w1.heap.size, 0, none⟩ = some (.bool n) := HP8.out.cell 0
  have clP_1 : YC.cell? ⟨w1.heap.size, 1, none⟩ = some (.slice (some ⟨g1, 0, none⟩) xs.length c1) := HP8.out.cell 1
  have clP_2 : YC.cell? ⟨w1.heap.size, 2, none⟩ = some (.slice (some ⟨g2, 0, none⟩) ys.length c2) := HP8.out.cell 2
  go_wp2_with fail
  clear hYC
  refine Calls.mono HC.out ?_
  rintro e w5 ⟨v1, f1, rfl, h1, hb⟩
  clear clP_0 clP_1 clP_2
  clear HC
  have HW9 := hid (bt HW8.out hb)
  have Z9 := hid (Below.size hb)
  have HR9 := hid (HR8.out.later hb HR8.out.lt)
  have HP9 := hid (HP8.out.later hb HP8.out.lt)
  have HA9 := hid (HA8.out.later hb HA8.out.lt)
  have HB9 := hid (HB8.out.later hb HB8.out.lt)
  have HC9 := hid (GC.out.later hb GC.out.lt)
  have SR9 := hid (And.intro (SR8.out.1.later hb) (SR8.out.2.later hb))
  have ST9 := hid (ST8.out.later hb)
  have SL9 := hid (And.intro (owns_later SL8.out.1 hb) (owns_later SL8.out.2 hb))
  have SO19 := hid (And.intro (owns_later SO18.out.1 hb) (owns_later SO18.out.2 hb))
  have SO29 := hid (And.intro (owns_later SO28.out.1 hb) (owns_later SO28.out.2 hb))
  have SO39 := hid (And.intro (owns_later SO38.out.1 hb) (owns_later SO38.out.2 hb))
  clear HW8 HR8 HP8 HA8 HB8 GC SR8 ST8 SL8 SO18 SO28 SO38
  have HN1 := hid h1
  clear h1 hb
  have HC := hid (ndNearest_any n a ca xs b cb ys w5 SR9.out.1 SR9.out.2 (by omega) (by omega))
  have clR_0 : w5.cell? ⟨w.heap.size, 0, none⟩ = some (.bool n) := HR9.out.cell 0
  have clR_1 : w5.cell? ⟨w.heap.size, 1, none⟩ = some (.slice a xs.length ca) := HR9.out.cell 1
  have clR_2 : w5.cell? ⟨w.heap.size, 2, none⟩ = some (.slice b ys.length cb) := HR9.out.cell 2
  go_wp2_with fail
  refine Calls.mono HC.out ?_
  rintro e w6 ⟨v2, f2, rfl, h2, hb⟩
  clear clR_0 clR_1 clR_2
  clear HC
  have HW10 := hid (bt HW9.out hb)
  have Z10 := hid (Below.size hb)
  have HR10 := hid (HR9.out.later hb HR9.out.lt)
  have HP10 := hid (HP9.out.later hb HP9.out.lt)
  have HA10 := hid (HA9.out.later hb HA9.out.lt)
  have HB10 := hid (HB9.out.later hb HB9.out.lt)
  have HC10 := hid (HC9.out.later hb HC9.out.lt)
  have SR10 := hid (And.intro (SR9.out.1.later hb) (SR9.out.2.later hb))
  have ST10 := hid (ST9.out.later hb)
  have SL10 := hid (And.intro (owns_later SL9.out.1 hb) (owns_later SL9.out.2 hb))
  have SO110 := hid (And.intro (owns_later SO19.out.1 hb) (owns_later SO19.out.2 hb))
  have SO210 := hid (And.intro (owns_later SO29.out.1 hb) (owns_later SO29.out.2 hb))
  have SO310 := hid (And.intro (owns_later SO39.out.1 hb) (owns_later SO39.out.2 hb))
  clear HW9 HR9 HP9 HA9 HB9 HC9 SR9 ST9 SL9 SO19 SO29 SO39
  obtain ⟨rfl, rfl⟩ := HN1.out.one h2
  clear h2 hb HN1
  have HC := hid (compare_all x n (some ⟨g1, 0, none⟩) c1 xs (some ⟨g2, 0, none⟩) c2 ys w6 HXY.out.1 ST10.out (Sl.own (lentf SL10.out.1) HWD.out.1) (Sl.own (lentf SL10.out.2) HWD.out.2))
  have clP_0 : w6.cell? ⟨w1.heap.size, 0, none⟩ = some (.bool n) := HP10.out.cell 0
  have clP_1 : w6.cell? ⟨w1.heap.size, 1, none⟩ = some (.slice (some ⟨g1, 0, none⟩) xs.length c1) := HP10.out.cell 1
  have clP_2 : w6.cell? ⟨w1.heap.size, 2, none⟩ = some (.slice (some ⟨g2, 0, none⟩) ys.length c2) := HP10.out.cell 2
  go_wp2_with fail
  refine Calls.mono HC.out ?_
  rintro e w7 ⟨v3, f3, rfl, h3, hb⟩
  clear clP_0 clP_1 clP_2
  clear HC
  have HW11 := hid (bt HW10.out hb)
  have Z11 := hid (Below.size hb)
  have HR11 := hid (HR10.out.later hb HR10.out.lt)
  have HP11 := hid (HP10.out.later hb HP10.out.lt)
  have HA11 := hid (HA10.out.later hb HA10.out.lt)
  have HB11 := hid (HB10.out.later hb HB10.out.lt)
  have HC11 := hid (HC10.out.later hb HC10.out.lt)
  have SR11 := hid (And.intro (SR10.out.1.later hb) (SR10.out.2.later hb))
  have ST11 := hid (ST10.out.later hb)
  have SL11 := hid (And.intro (owns_later SL10.out.1 hb) (owns_later SL10.out.2 hb))
  have SO111 := hid (And.intro (owns_later SO110.out.1 hb) (owns_later SO110.out.2 hb))
  have SO211 := hid (And.intro (owns_later SO210.out.1 hb) (owns_later SO210.out.2 hb))
  have SO311 := hid (And.intro (owns_later SO310.out.1 hb) (owns_later SO310.out.2 hb))
  clear HW10 HR10 HP10 HA10 HB10 HC10 SR10 ST10 SL10 SO110 SO210 SO310
  have HN3 := hid h3
  clear h3 hb
  have HC := hid (ndCompare_all x n a ca xs b cb ys w7 HXY.out.1 SR11.out.1 SR11.out.2 (by omega) (by omega))
  have clR_0 : w7.cell? ⟨w.heap.size, 0, none⟩ = some (.bool n) := HR11.out.cell 0
  have clR_1 : w7.cell? ⟨w.heap.size, 1, none⟩ = some (.slice a xs.length ca) := HR11.out.cell 1
  have clR_2 : w7.cell? ⟨w.heap.size, 2, none⟩ = some (.slice b ys.length cb) := HR11.out.cell 2
  go_wp2_with fail
  refine Calls.mono HC.out ?_
  rintro e w8 ⟨v4, f4, rfl, h4, hb⟩
  clear clR_0 clR_1 clR_2
  clear HC
  have HW12 := hid (bt HW11.out hb)
  have Z12 := hid (Below.size hb)
  have HR12 := hid (HR11.out.later hb HR11.out.lt)
  have HP12 := hid (HP11.out.later hb HP11.out.lt)
  have HA12 := hid (HA11.out.later hb HA11.out.lt)
  have HB12 := hid (HB11.out.later hb HB11.out.lt)
  have HC12 := hid (HC11.out.later hb HC11.out.lt)
  have SR12 := hid (And.intro (SR11.out.1.later hb) (SR11.out.2.later hb))
  have ST12 := hid (ST11.out.later hb)
  have SL12 := hid (And.intro (owns_later SL11.out.1 hb) (owns_later SL11.out.2 hb))
  have SO112 := hid (And.intro (owns_later SO111.out.1 hb) (owns_later SO111.out.2 hb))
  have SO212 := hid (And.intro (owns_later SO211.out.1 hb) (owns_later SO211.out.2 hb))
  have SO312 := hid (And.intro (owns_later SO311.out.1 hb) (owns_later SO311.out.2 hb))
  clear HW11 HR11 HP11 HA11 HB11 HC11 SR11 ST11 SL11 SO111 SO211 SO311
  obtain ⟨rfl, rfl⟩ := HN3.out.one h4
  clear h4 hb HN3
  have HC := hid (within_all x y n (some ⟨g1, 0, none⟩) c1 xs (some ⟨g2, 0, none⟩) c2 ys w8 HXY.out.1 HXY.out.2 ST12.out (Sl.own (lentf SL12.out.1) HWD.out.1) (Sl.own (lentf SL12.out.2) HWD.out.2))
  have clP_0 : w8.cell? ⟨w1.heap.size, 0, none⟩ = some (.bool n) := HP12.out.cell 0
  have clP_1 : w8.cell? ⟨w1.heap.size, 1, none⟩ = some (.slice (some ⟨g1, 0, none⟩) xs.length c1) := HP12.out.cell 1
  have clP_2 : w8.cell? ⟨w1.heap.size, 2, none⟩ = some (.slice (some ⟨g2, 0, none⟩) ys.length c2) := HP12.out.cell 2
  go_wp2_with fail
  refine Calls.mono HC.out ?_
  rintro e w9 ⟨v5, f5, rfl, h5, hb⟩
  clear clP_0 clP_1 clP_2
  clear HC
  have HW13 := hid (bt HW12.out hb)
  have Z13 := hid (Below.size hb)
  have HR13 := hid (HR12.out.later hb HR12.out.lt)
  have HP13 := hid (HP12.out.later hb HP12.out.lt)
  have HA13 := hid (HA12.out.later hb HA12.out.lt)
  have HB13 := hid (HB12.out.later hb HB12.out.lt)
  have HC13 := hid (HC12.out.later hb HC12.out.lt)
  have SR13 := hid (And.intro (SR12.out.1.later hb) (SR12.out.2.later hb))
  have ST13 := hid (ST12.out.later hb)
  have SL13 := hid (And.intro (owns_later SL12.out.1 hb) (owns_later SL12.out.2 hb))
  have SO113 := hid (And.intro (owns_later SO112.out.1 hb) (owns_later SO112.out.2 hb))
  have SO213 := hid (And.intro (owns_later SO212.out.1 hb) (owns_later SO212.out.2 hb))
  have SO313 := hid (And.intro (owns_later SO312.out.1 hb) (owns_later SO312.out.2 hb))
  clear HW12 HR12 HP12 HA12 HB12 HC12 SR12 ST12 SL12 SO112 SO212 SO312
  have HN5 := hid h5
  clear h5 hb
  have HC := hid (ndWithin_all x y n a ca xs b cb ys w9 HXY.out.1 HXY.out.2 SR13.out.1 SR13.out.2 (by omega) (by omega))
  have clR_0 : w9.cell? ⟨w.heap.size, 0, none⟩ = some (.bool n) := HR13.out.cell 0
  have clR_1 : w9.cell? ⟨w.heap.size, 1, none⟩ = some (.slice a xs.length ca) := HR13.out.cell 1
  have clR_2 : w9.cell? ⟨w.heap.size, 2, none⟩ = some (.slice b ys.length cb) := HR13.out.cell 2
  go_wp2_with fail
  refine Calls.mono HC.out ?_
  rintro e wA ⟨v6, f6, rfl, h6, hb⟩
  clear clR_0 clR_1 clR_2
  clear HC
  have HW14 := hid (bt HW13.out hb)
  have Z14 := hid (Below.size hb)
  have HR14 := hid (HR13.out.later hb HR13.out.lt)
  have HP14 := hid (HP13.out.later hb HP13.out.lt)
  have HA14 := hid (HA13.out.later hb HA13.out.lt)
  have HB14 := hid (HB13.out.later hb HB13.out.lt)
  have HC14 := hid (HC13.out.later hb HC13.out.lt)
  have SR14 := hid (And.intro (SR13.out.1.later hb) (SR13.out.2.later hb))
  have ST14 := hid (ST13.out.later hb)
  have SL14 := hid (And.intro (owns_later SL13.out.1 hb) (owns_later SL13.out.2 hb))
  have SO114 := hid (And.intro (owns_later SO113.out.1 hb) (owns_later SO113.out.2 hb))
  have SO214 := hid (And.intro (owns_later SO213.out.1 hb) (owns_later SO213.out.2 hb))
  have SO314 := hid (And.intro (owns_later SO313.out.1 hb) (owns_later SO313.out.2 hb))
  clear HW13 HR13 HP13 HA13 HB13 HC13 SR13 ST13 SL13 SO113 SO213 SO313
  obtain ⟨rfl, rfl⟩ := within_one HN5.out h6
  clear h6 hb HN5
  obtain ⟨N1, N2, hN⟩ : ∃ N1 N2, nxt x = (N1, N2) := ⟨_, _, rfl⟩
  obtain ⟨G1, G2, hGp⟩ : ∃ G1 G2, gapV x = (G1, G2) := ⟨_, _, rfl⟩
  have HNN := hid (And.intro hN hGp)
  clear hN hGp
  have HC := hid (next_any x wA HXY.out.1)
  rw [HNN.out.1] at HC
  go_wp2_with fail
  refine Calls.mono HC.out ?_
  rintro e wB ⟨rfl, hb⟩
  clear HC
  have HW15 := hid (bt HW14.out hb)
  have Z15 := hid (Below.size hb)
  have HR15 := hid (HR14.out.later hb HR14.out.lt)
  have HP15 := hid (HP14.out.later hb HP14.out.lt)
  have HA15 := hid (HA14.out.later hb HA14.out.lt)
  have HB15 := hid (HB14.out.later hb HB14.out.lt)
  have HC15 := hid (HC14.out.later hb HC14.out.lt)
  have SR15 := hid (And.intro (SR14.out.1.later hb) (SR14.out.2.later hb))
  have ST15 := hid (ST14.out.later hb)
  have SL15 := hid (And.intro (owns_later SL14.out.1 hb) (owns_later SL14.out.2 hb))
  have SO115 := hid (And.intro (owns_later SO114.out.1 hb) (owns_later SO114.out.2 hb))
  have SO215 := hid (And.intro (owns_later SO214.out.1 hb) (owns_later SO214.out.2 hb))
  have SO315 := hid (And.intro (owns_later SO314.out.1 hb) (owns_later SO314.out.2 hb))
  clear HW14 HR14 HP14 HA14 HB14 HC14 SR14 ST14 SL14 SO114 SO214 SO314
  clear hb
  have HC := hid (ndNext_any x wB HXY.out.1)
  rw [HNN.out.1] at HC
  go_wp2_with fail
  refine Calls.mono HC.out ?_
  rintro e wC ⟨rfl, hb⟩
  clear HC
  have HW16 := hid (bt HW15.out hb)
  have Z16 := hid (Below.size hb)
  have HR16 := hid (HR15.out.later hb HR15.out.lt)
  have HP16 := hid (HP15.out.later hb HP15.out.lt)
  have HA16 := hid (HA15.out.later hb HA15.out.lt)
  have HB16 := hid (HB15.out.later hb HB15.out.lt)
  have HC16 := hid (HC15.out.later hb HC15.out.lt)
  have SR16 := hid (And.intro (SR15.out.1.later hb) (SR15.out.2.later hb))
  have ST16 := hid (ST15.out.later hb)
  have SL16 := hid (And.intro (owns_later SL15.out.1 hb) (owns_later SL15.out.2 hb))
  have SO116 := hid (And.intro (owns_later SO115.out.1 hb) (owns_later SO115.out.2 hb))
  have SO216 := hid (And.intro (owns_later SO215.out.1 hb) (owns_later SO215.out.2 hb))
  have SO316 := hid (And.intro (owns_later SO315.out.1 hb) (owns_later SO315.out.2 hb))
  clear HW15 HR15 HP15 HA15 HB15 HC15 SR15 ST15 SL15 SO115 SO215 SO315
  clear hb
  have HC := hid (gap_all x wC HXY.out.1)
  rw [HNN.out.2] at HC
  go_wp2_with fail
  refine Calls.mono HC.out ?_
  rintro e wD ⟨rfl, hb⟩
  clear HC
  have HW17 := hid (bt HW16.out hb)
  have Z17 := hid (Below.size hb)
  have HR17 := hid (HR16.out.later hb HR16.out.lt)
  have HP17 := hid (HP16.out.later hb HP16.out.lt)
  have HA17 := hid (HA16.out.later hb HA16.out.lt)
  have HB17 := hid (HB16.out.later hb HB16.out.lt)
  have HC17 := hid (HC16.out.later hb HC16.out.lt)
  have SR17 := hid (And.intro (SR16.out.1.later hb) (SR16.out.2.later hb))
  have ST17 := hid (ST16.out.later hb)
  have SL17 := hid (And.intro (owns_later SL16.out.1 hb) (owns_later SL16.out.2 hb))
  have SO117 := hid (And.intro (owns_later SO116.out.1 hb) (owns_later SO116.out.2 hb))
  have SO217 := hid (And.intro (owns_later SO216.out.1 hb) (owns_later SO216.out.2 hb))
  have SO317 := hid (And.intro (owns_later SO316.out.1 hb) (owns_later SO316.out.2 hb))
  clear HW16 HR16 HP16 HA16 HB16 HC16 SR16 ST16 SL16 SO116 SO216 SO316
  clear hb
  have HC := hid (ndGap_all x wD HXY.out.1)
  rw [HNN.out.2] at HC
  go_wp2_with fail
  refine Calls.mono HC.out ?_
  rintro e wE ⟨rfl, hb⟩
  clear HC
  have HW18 := hid (bt HW17.out hb)
  have Z18 := hid (Below.size hb)
  have HR18 := hid (HR17.out.later hb HR17.out.lt)
  have HP18 := hid (HP17.out.later hb HP17.out.lt)
  have HA18 := hid (HA17.out.later hb HA17.out.lt)
  have HB18 := hid (HB17.out.later hb HB17.out.lt)
  have HC18 := hid (HC17.out.later hb HC17.out.lt)
  have SR18 := hid (And.intro (SR17.out.1.later hb) (SR17.out.2.later hb))
  have ST18 := hid (ST17.out.later hb)
  have SL18 := hid (And.intro (owns_later SL17.out.1 hb) (owns_later SL17.out.2 hb))
  have SO118 := hid (And.intro (owns_later SO117.out.1 hb) (owns_later SO117.out.2 hb))
  have SO218 := hid (And.intro (owns_later SO217.out.1 hb) (owns_later SO217.out.2 hb))
  have SO318 := hid (And.intro (owns_later SO317.out.1 hb) (owns_later SO317.out.2 hb))
  clear HW17 HR17 HP17 HA17 HB17 HC17 SR17 ST17 SL17 SO117 SO217 SO317
  clear hb
  have HSR := hid (sameRatio_eq n1 _ _ _ _ x1 y1 wE (Sl.own SO118.out.1 HT1.out.wx) (Sl.own SO118.out.2 HT1.out.wy) (Sl.own SO218.out.1 HT1.out.wx) (Sl.own SO218.out.2 HT1.out.wy) HT1.out.short.1 HT1.out.short.2)
  have clA_0 : wE.cell? ⟨w2.heap.size, 0, none⟩ = some (.bool n1) := HA18.out.cell 0
  have clA_1 : wE.cell? ⟨w2.heap.size, 1, none⟩ = some (.slice a1 x1.length k1) := HA18.out.cell 1
  have clA_2 : wE.cell? ⟨w2.heap.size, 2, none⟩ = some (.slice b1 y1.length l1) := HA18.out.cell 2
  have clB_0 : wE.cell? ⟨w3.heap.size, 0, none⟩ = some (.bool n1) := HB18.out.cell 0
  have clB_1 : wE.cell? ⟨w3.heap.size, 1, none⟩ = some (.slice a2 x1.length k2) := HB18.out.cell 1
  have clB_2 : wE.cell? ⟨w3.heap.size, 2, none⟩ = some (.slice b2 y1.length l2) := HB18.out.cell 2
  go_wp2_with fail
  refine Calls.mono HSR.out ?_
  rintro e wF ⟨rfl, hb⟩
  clear HSR
  clear clA_0 clA_1 clA_2 clB_0 clB_1 clB_2
  have HW19 := hid (bt HW18.out hb)
  have Z19 := hid (Below.size hb)
  have HR19 := hid (HR18.out.later hb HR18.out.lt)
  have HP19 := hid (HP18.out.later hb HP18.out.lt)
  have HA19 := hid (HA18.out.later hb HA18.out.lt)
  have HB19 := hid (HB18.out.later hb HB18.out.lt)
  have HC19 := hid (HC18.out.later hb HC18.out.lt)
  have SR19 := hid (And.intro (SR18.out.1.later hb) (SR18.out.2.later hb))
  have ST19 := hid (ST18.out.later hb)
  have SL19 := hid (And.intro (owns_later SL18.out.1 hb) (owns_later SL18.out.2 hb))
  have SO119 := hid (And.intro (owns_later SO118.out.1 hb) (owns_later SO118.out.2 hb))
  have SO219 := hid (And.intro (owns_later SO218.out.1 hb) (owns_later SO218.out.2 hb))
  have SO319 := hid (And.intro (owns_later SO318.out.1 hb) (owns_later SO318.out.2 hb))
  clear HW18 HR18 HP18 HA18 HB18 HC18 SR18 ST18 SL18 SO118 SO218 SO318
  clear hb
  go_wp2_with fail
  refine Calls.mono (ndSameFloat v1 _) ?_
  rintro e wF ⟨rfl, rfl⟩
  go_wp2_with fail
  refine Calls.mono (ndSameFloat N1 _) ?_
  rintro e wF ⟨rfl, rfl⟩
  go_wp2_with fail
  refine Calls.mono (ndSameFloat G1 _) ?_
  rintro e wF ⟨rfl, rfl⟩
  have HC := hid (keptRatio_any n a ca xs b cb ys g1 c1 g2 c2 _ wF SR19.out.1 SR19.out.2 (by omega) (by omega) SL19.out.1 SL19.out.2)
  have clP_0 : wF.cell? ⟨w1.heap.size, 0, none⟩ = some (.bool n) := HP19.out.cell 0
  have clP_1 : wF.cell? ⟨w1.heap.size, 1, none⟩ = some (.slice (some ⟨g1, 0, none⟩) xs.length c1) := HP19.out.cell 1
  have clP_2 : wF.cell? ⟨w1.heap.size, 2, none⟩ = some (.slice (some ⟨g2, 0, none⟩) ys.length c2) := HP19.out.cell 2
  have clR_0 : wF.cell? ⟨w.heap.size, 0, none⟩ = some (.bool n) := HR19.out.cell 0
  have clR_1 : wF.cell? ⟨w.heap.size, 1, none⟩ = some (.slice a xs.length ca) := HR19.out.cell 1
  have clR_2 : wF.cell? ⟨w.heap.size, 2, none⟩ = some (.slice b ys.length cb) := HR19.out.cell 2
  go_wp2_with fail
  refine Calls.mono HC.out ?_
  rintro e wG ⟨rfl, hb⟩
  clear HC
  clear clP_0 clP_1 clP_2 clR_0 clR_1 clR_2
  have HW20 := hid (bt HW19.out hb)
  have Z20 := hid (Below.size hb)
  have HR20 := hid (HR19.out.later hb HR19.out.lt)
  have HP20 := hid (HP19.out.later hb HP19.out.lt)
  have HA20 := hid (HA19.out.later hb HA19.out.lt)
  have HB20 := hid (HB19.out.later hb HB19.out.lt)
  have HC20 := hid (HC19.out.later hb HC19.out.lt)
  have SR20 := hid (And.intro (SR19.out.1.later hb) (SR19.out.2.later hb))
  have ST20 := hid (ST19.out.later hb)
  have SL20 := hid (And.intro (owns_later SL19.out.1 hb) (owns_later SL19.out.2 hb))
  have SO120 := hid (And.intro (owns_later SO119.out.1 hb) (owns_later SO119.out.2 hb))
  have SO220 := hid (And.intro (owns_later SO219.out.1 hb) (owns_later SO219.out.2 hb))
  have SO320 := hid (And.intro (owns_later SO319.out.1 hb) (owns_later SO319.out.2 hb))
  clear HW19 HR19 HP19 HA19 HB19 HC19 SR19 ST19 SL19 SO119 SO219 SO319
  clear hb
  have hszB := HW20.out.size
  have sc1 := HT1.out.few
  have z1 := Z1.out
  have z2 := Z2.out
  have z3 := Z3.out
  have z4 := Z4.out
  have z5 := Z5.out
  have z6 := Z6.out
  have z7 := Z7.out
  have z8 := Z8.out
  have z9 := Z9.out
  have zP := HZP.out
  have lf := lentf SL20.out.1
  have lg := lentf SL20.out.2
  have i0 := HA1.out.2.1
  have i1 := HA1.out.2.2
  have i2 := HA3.out.2.1
  have i3 := HA3.out.2.2
  have i4 : Within (.slice (some ⟨g1, 0, none⟩) xs.length c1) P.heap.size w1.heap.size := fun g hg => by have h1 := HG.out; simp [Value.ownBlock] at hg; omega
  have i5 : Within (.slice (some ⟨g2, 0, none⟩) ys.length c2) P.heap.size w1.heap.size := fun g hg => by have h1 := HG.out; simp [Value.ownBlock] at hg; omega
  have p4 : Ap (.slice (some ⟨g1, 0, none⟩) xs.length c1) (.slice (some ⟨g2, 0, none⟩) ys.length c2) := .inr (by have h1 := HG.out; simp [Value.ownBlock]; omega)
  have hbig : ∀ j, j < 6 → (([x1, y1, x1, y1, xs, ys] : List (List Int))[j]?.getD []).length ≤ 1099511627776 := fun j hj => by
    match j, hj with
    | 0, _ => show x1.length ≤ _; omega
    | 1, _ => show y1.length ≤ _; omega
    | 2, _ => show x1.length ≤ _; omega
    | 3, _ => show y1.length ≤ _; omega
    | 4, _ => show xs.length ≤ _; omega
    | 5, _ => show ys.length ≤ _; omega
  have hwd : ∀ j, j < 6 → Wd (([x1, y1, x1, y1, xs, ys] : List (List Int))[j]?.getD []) := fun j hj => by
    match j, hj with
    | 0, _ => exact HT1.out.wx
    | 1, _ => exact HT1.out.wy
    | 2, _ => exact HT1.out.wx
    | 3, _ => exact HT1.out.wy
    | 4, _ => exact HWD.out.1
    | 5, _ => exact HWD.out.2
  have hown : ∀ j, j < 6 → wG.ownsRow w.heap.size 88 1 (([.slice a1 x1.length k1, .slice b1 y1.length l1, .slice a3 x1.length k3, .slice b3 y1.length l3, .slice (some ⟨g1, 0, none⟩) xs.length c1, .slice (some ⟨g2, 0, none⟩) ys.length c2] : List Value)[j]?.getD undef) (([x1, y1, x1, y1, xs, ys] : List (List Int))[j]?.getD []).length ((([x1, y1, x1, y1, xs, ys] : List (List Int))[j]?.getD []).map (Value.int .u32)) := fun j hj => by
    match j, hj with
    | 0, _ => exact owns_base SO120.out.1 (by omega)
    | 1, _ => exact owns_base SO120.out.2 (by omega)
    | 2, _ => exact owns_base SO320.out.1 (by omega)
    | 3, _ => exact owns_base SO320.out.2 (by omega)
    | 4, _ => exact owns_base lf (by omega)
    | 5, _ => exact owns_base lg (by omega)
  have hap := ap_six (v := fun j => ([.slice a1 x1.length k1, .slice b1 y1.length l1, .slice a3 x1.length k3, .slice b3 y1.length l3, .slice (some ⟨g1, 0, none⟩) xs.length c1, .slice (some ⟨g2, 0, none⟩) ys.length c2] : List Value)[j]?.getD undef) _ _ _ _ _ _ i0 i1 i2 i3 i4 i5 (by omega) (by omega) (by omega) (Ap.rows SO120.out.1 SO120.out.2 HA1.out.1) (Ap.rows SO320.out.1 SO320.out.2 HA3.out.1) p4
  have HAP := hid (apartRatios3 w.heap.size n1 n1 n a1 b1 a3 b3 (some ⟨g1, 0, none⟩) (some ⟨g2, 0, none⟩) x1.length y1.length x1.length y1.length xs.length ys.length k1 l1 k3 l3 c1 c2 wG.heap.size (fun j => ([x1, y1, x1, y1, xs, ys] : List (List Int))[j]?.getD []) (wG.alloc (.cells #[.bool n1, .slice a1 x1.length k1, .slice b1 y1.length l1, .bool n1, .slice a3 x1.length k3, .slice b3 y1.length l3, .bool n, .slice (some ⟨g1, 0, none⟩) xs.length c1, .slice (some ⟨g2, 0, none⟩) ys.length c2] 25)) (Box.made wG _ _) (by simp; omega) hwd hbig (fun j hj => owns_later (hown j hj) (alloc_later _ _)) hap)
  clear hap hown hwd hbig i0 i1 i2 i3 i4 i5 p4 lf lg
  have HBB := hid HW20.out
  have clA_0 : wG.cell? ⟨w2.heap.size, 0, none⟩ = some (.bool n1) := HA20.out.cell 0
  have clA_1 : wG.cell? ⟨w2.heap.size, 1, none⟩ = some (.slice a1 x1.length k1) := HA20.out.cell 1
  have clA_2 : wG.cell? ⟨w2.heap.size, 2, none⟩ = some (.slice b1 y1.length l1) := HA20.out.cell 2
  have clC_0 : wG.cell? ⟨w4.heap.size, 0, none⟩ = some (.bool n1) := HC20.out.cell 0
  have clC_1 : wG.cell? ⟨w4.heap.size, 1, none⟩ = some (.slice a3 x1.length k3) := HC20.out.cell 1
  have clC_2 : wG.cell? ⟨w4.heap.size, 2, none⟩ = some (.slice b3 y1.length l3) := HC20.out.cell 2
  have clP_0 : wG.cell? ⟨w1.heap.size, 0, none⟩ = some (.bool n) := HP20.out.cell 0
  have clP_1 : wG.cell? ⟨w1.heap.size, 1, none⟩ = some (.slice (some ⟨g1, 0, none⟩) xs.length c1) := HP20.out.cell 1
  have clP_2 : wG.cell? ⟨w1.heap.size, 2, none⟩ = some (.slice (some ⟨g2, 0, none⟩) ys.length c2) := HP20.out.cell 2
  go_wp2_with fail
  refine Calls.mono HAP.out ?_
  rintro e wH ⟨rfl, hbE⟩
  have HBE := hid (bt_al HBB.out hbE)
  clear hbE HAP
  clear clA_0 clA_1 clA_2 clC_0 clC_1 clC_2 clP_0 clP_1 clP_2
  go_wp2_with fail
  go_ret
  exact ⟨rfl, HBE.out⟩
theorem realTells_in (x y : Int) (x0 : 0 ≤ x) (x1 : x ≤ 18446744073709551615) (y0 : 0 ≤ y) (y1 : y ≤ 18446744073709551615) (n0 : Bool) (a0 : Option Addr) (k0 ca0 : Nat) (xs0 : List Int) (b0 : Option Addr) (l0 cb0 : Nat) (ys0 : List Int) (w : World) (h0 : Reads w w.heap.size a0 k0 ca0 xs0) (g0 : Reads w w.heap.size b0 l0 cb0 ys0) (hn : ca0 ≤ 1048576) (hd : cb0 ≤ 1048576) (htab : TabB w) :
    Calls Tryz.prog 3 #[.int .u64 x, .int .u64 y, .agg #[.bool n0, .slice a0 k0 ca0, .slice b0 l0 cb0]] w fun e w' => e = .returned (.bool true) ∧ Below w.heap.size w w' := by
  have e0 := h0.1
  have f0 := g0.1
  have m0 := h0.2.2.2.1
  have m1 := g0.2.2.2.1
  subst e0
  subst f0
  obtain ⟨X, rfl⟩ := Int.eq_ofNat_of_zero_le x0
  obtain ⟨Y, rfl⟩ := Int.eq_ofNat_of_zero_le y0
  exact realTells_walk X Y n0 a0 ca0 xs0 b0 cb0 ys0 w (by omega) (by omega) htab ⟨_, _, rfl, h0⟩ ⟨_, _, rfl, g0⟩ (by omega) (by omega)

end Go.Proofs.YtabkgpnckaaclaaGreatDoor

