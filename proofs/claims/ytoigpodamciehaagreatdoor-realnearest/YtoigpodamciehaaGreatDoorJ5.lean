/- My texts on the way to RealNearest, one behind the other: contracts of the program and of the document's answers. -/
import Derived.Test.YtoigpodamciehaaGreatDoorJ1
import Derived.Test.YtoigpodamciehaaGreatDoorJ4
import Derived.Deep.RegionHeld3
/- RealNearest: no other float is nearer. -/
namespace Go.Proofs.YtoigpodamciehaaGreatDoor
open Go.RowKit
set_option linter.unusedVariables false

theorem rpos {n : Bool} {xs ys : List Int} (wy : Wd ys) (h : rchk n xs ys = 0) : 0 < val ys := by
  obtain ⟨_, _, _, ty, hy0, _, _⟩ := rchk_ok h
  have e : 0 < sz ys := by rw [show sz ys = ys.length from ty]; exact hy0
  have h := (bits_bounds wy e).2.1
  have := two_pos (bitsOf ys - 1)
  omega
theorem fneg_fi {x : Nat} (h : Fi x) : Fi (fneg x) ∧ sv (fneg x) = -sv x := ⟨Fi.opp h, sv_opp h.1⟩
theorem rat_twice (P M : Int) (hM : M ≠ 0) : Rat.divInt P M + Rat.divInt P M = Rat.divInt (2 * P) M := by
  rw [Rat.divInt_add_divInt _ _ hM hM, Rat.divInt_eq_divInt_iff (Int.mul_ne_zero hM hM) hM]
  grind
/-- A float's fraction over another number. -/
theorem fq_over {x : Nat} (hx : x < 18446744073709551616) (Y : Int) (hY : 0 < Y) : fq x = Rat.divInt (sv x * Y) (2 ^ zP * Y) := by
  have hZ := two_pos zP
  have hp : 0 < (2 : Int) ^ zP * Y := Int.mul_pos hZ hY
  rw [fq_sv hx, Rat.divInt_eq_divInt_iff (by omega) (by omega)]
  generalize (2 : Int) ^ zP = Z
  grind
/-- The signs of a fraction and of its nearest float go together. -/
theorem sign_together {n : Bool} {xs ys : List Int} {x : Nat} {c : Int} (wx : Wd xs) (h : NrT n xs ys x c) (hc : c = 0) {m : Bool} {us vs : List Int} (wu : Wd us) (wv : Wd vs) (g : ExT x m us vs) : 0 ≤ rsgn n xs ys * rsgn m us vs := by
  obtain ⟨h0, X, Y, s, hX, hY, hp, hm, hs, hf, hsv⟩ := nr_sv h hc
  have hv := rpos wv g.1
  have e := g.2.1
  have hZ := two_pos zP
  unfold rsgn
  rw [if_pos h0, if_pos g.1]
  by_cases hu : us.length = 0
  · rw [if_pos hu]; omega
  · rw [if_neg hu]
    by_cases hx : xs.length = 0
    · rw [if_pos hx]; omega
    · rw [if_neg hx]
      have hup : 0 < val us := by
        obtain ⟨_, _, tu, _, _, _, _⟩ := rchk_ok g.1
        have e : 0 < sz us := by rw [show sz us = us.length from tu]; omega
        have h := (bits_bounds wu e).2.1
        have := two_pos (bitsOf us - 1)
        omega
      rw [hsv, wval_sg] at e
      cases n <;> cases m
      · decide
      · exfalso
        rw [sg_t, sg_f, Int.neg_mul] at e
        have p1 : 0 < val us * 2 ^ zP := Int.mul_pos hup hZ
        have p2 : 0 ≤ (rungVal s : Int) * val vs := Int.mul_nonneg (Int.natCast_nonneg _) (Int.le_of_lt hv)
        omega
      · exfalso
        rw [sg_t, sg_f, Int.neg_mul] at e
        have p1 : 0 < val us * 2 ^ zP := Int.mul_pos hup hZ
        have p2 : 0 ≤ (rungVal s : Int) * val vs := Int.mul_nonneg (Int.natCast_nonneg _) (Int.le_of_lt hv)
        omega
      · decide
theorem rsgn_small (n : Bool) (xs ys : List Int) : -1 ≤ rsgn n xs ys ∧ rsgn n xs ys ≤ 1 := by
  unfold rsgn
  split
  · split
    · omega
    · split <;> omega
  · omega

theorem wrap_yes (P : Int) (h0 : 0 ≤ P) (h1 : P ≤ 1) : decide (0 ≤ wrap64 P) = true := decide_eq_true (by unfold wrap64; omega)

set_option maxHeartbeats 6400000 in
set_option maxRecDepth 100000 in
theorem realNearest_any (n : Bool) (a : Option Addr) (ca : Nat) (xs : List Int) (b : Option Addr) (cb : Nat) (ys : List Int) (w : World) (sx : Sl w (.slice a xs.length ca) xs) (sy : Sl w (.slice b ys.length cb) ys) (hT : TabB w) :
    Calls Tryz.prog 3 #[.agg #[.bool n, .slice a xs.length ca, .slice b ys.length cb]] w fun e w' => e = .returned (.bool true) ∧ Below w.heap.size w w' := by
  obtain ⟨X, hX⟩ : ∃ X, w.alloc (.cells #[.bool n, .slice a xs.length ca, .slice b ys.length cb] 24) = X := ⟨_, rfl⟩
  have b1 : Below w.heap.size w X := by rw [← hX]; exact alloc_later _ _
  have HP : Hid (Box X w.heap.size 24 #[.bool n, .slice a xs.length ca, .slice b ys.length cb]) := by rw [← hX]; exact Box.made w _ _
  have HAWK := hid (awake6_any X (hT.later b1))
  have HB1 := hid b1
  have HT1 := hid (hT.later b1)
  have HSL := hid (And.intro (sx.later b1) (sy.later b1))
  have HWD := hid (And.intro sx.wd sy.wd)
  have HCL : Hid (∀ V, Below X.heap.size X V → V.cell? ⟨w.heap.size, 0, none⟩ = some (.bool n) ∧ V.cell? ⟨w.heap.size, 1, none⟩ = some (.slice a xs.length ca) ∧ V.cell? ⟨w.heap.size, 2, none⟩ = some (.slice b ys.length cb)) := fun V hv => by
    have h := HP.out.later hv HP.out.lt
    exact ⟨h.cell 0, h.cell 1, h.cell 2⟩
  have HNR : Hid (∀ V, Below X.heap.size X V → Calls Tryz.prog 5 #[.agg #[.bool n, .slice a xs.length ca, .slice b ys.length cb]] V fun e w' => ∃ x code, e = .returned (.tuple #[.float .f64 x, .int .i64 code]) ∧ Hid (NrT n xs ys x code) ∧ Below V.heap.size V w') := fun V hv => nearest_any n _ xs _ ys V (HSL.out.1.later hv) (HSL.out.2.later hv)
  have HCK : Hid (∀ V, Below X.heap.size X V → Calls Tryz.prog 6 #[.agg #[.bool n, .slice a xs.length ca, .slice b ys.length cb]] V fun e w' => e = .returned (.int .i64 (rchk n xs ys)) ∧ Below V.heap.size V w') := fun V hv => rcheck_any n _ xs _ ys V (HSL.out.1.later hv) (HSL.out.2.later hv)
  clear sx sy b1 hT
  go_enter Tryz.func3, Tryz.ntmps3
  go_wp2_with fail
  clear hX
  refine Calls.mono HAWK.out ?_
  rintro e w1 ⟨rfl, b2⟩
  have HX1 := hid b2
  have HN1 := hid (HNR.out w1 b2)
  obtain ⟨e0, e1, e2⟩ := HCL.out w1 b2
  clear HAWK HNR b2
  go_wp2_with fail
  refine Calls.mono HN1.out ?_
  rintro e w2 ⟨x, code, rfl, HNT, b3⟩
  have HX2 := hid (bt HX1.out b3)
  clear HN1 b3 e0 e1 e2 HX1
  obtain ⟨e0, e1, e2⟩ := HCL.out w2 HX2.out
  by_cases hc : code = 0
  · subst hc
    obtain ⟨hk0, _, _, _, _, _, _, _, _, hxf, _⟩ := nr_sv HNT.out rfl
    have hY := rpos HWD.out.2 hk0
    have HBE := hid (fun y hy => near_best HNT.out rfl y hy)
    have HGP := hid (near_gap HNT.out rfl)
    have hM : 0 < (2 : Int) ^ zP * val ys := Int.mul_pos (two_pos zP) hY
    have HFX := hid hxf
    have HAY : Hid (∀ y V, Fi y → Below X.heap.size X V → Calls Tryz.prog 7 #[.float .f64 y, .agg #[.bool n, .slice a xs.length ca, .slice b ys.length cb]] V (AwT V (sv y * val ys - wval n xs * 2 ^ zP) (2 ^ zP * val ys))) := fun y V hy hv => away_any y n a ca xs b cb ys V hy (HT1.out.later hv) (HSL.out.1.later hv) (HSL.out.2.later hv) hk0 hY
    have HFQ : Hid (∀ y, Fi y → fq y = Rat.divInt (sv y * val ys) (2 ^ zP * val ys)) := fun y hy => fq_over hy.1 (val ys) hY
    have HGV : Hid (∀ G : Nat, sv G = ((2 ^ (funit x + 1074).toNat : Nat) : Int) → ((2 * (sv x * val ys - wval n xs * 2 ^ zP).natAbs : Nat) : Int) ≤ sv G * val ys) := fun G hG => by
      rw [hG]
      have e : ((val ys).natAbs : Int) = val ys := Int.natAbs_of_nonneg (Int.le_of_lt hY)
      have h := HGP.out
      generalize (sv x * val ys - wval n xs * 2 ^ zP).natAbs = A at *
      generalize 2 ^ (funit x + 1074).toNat = B at *
      rw [← e, ← Int.natCast_mul]
      exact Int.ofNat_le.2 h
    have HMM := hid hM
    generalize (2 : Int) ^ zP * val ys = M at *
    have HA0 := hid (HAY.out x w2 HFX.out HX2.out)
    obtain ⟨A, hA⟩ : ∃ A, (sv x * val ys - wval n xs * 2 ^ zP).natAbs = A := ⟨_, rfl⟩
    have HAA := hid hA
    clear hk0 hxf hY hM hA HGP
    go_wp2_with fail
    refine Calls.mono HA0.out ?_
    rintro e w3 ⟨n1, a1, c1, b1, d1, us, vs, fine, rfl, s1, s2, hfine, b4⟩
    obtain ⟨Y, hYY⟩ : ∃ Y, w3.alloc (.cells #[.bool n1, .slice a1 us.length c1, .slice b1 vs.length d1] 24) = Y := ⟨_, rfl⟩
    have b5 : Below w3.heap.size w3 Y := by rw [← hYY]; exact alloc_later _ _
    have HBY : Hid (Box Y w3.heap.size 24 #[.bool n1, .slice a1 us.length c1, .slice b1 vs.length d1]) := by rw [← hYY]; exact Box.made w3 _ _
    have HXY := hid (bt HX2.out (bt b4 b5))
    have HS12 := hid (And.intro (s1.later b5) (s2.later b5))
    have HFN := hid hfine
    clear HA0 s1 s2 hfine b4 b5 e0 e1 e2 HX2
    cases hfi : fine
    · subst hfi
      have y0 : Y.cell? ⟨w3.heap.size, 0, none⟩ = some (.bool n1) := HBY.out.cell 0
      have y1 : Y.cell? ⟨w3.heap.size, 1, none⟩ = some (.slice a1 us.length c1) := HBY.out.cell 1
      have y2 : Y.cell? ⟨w3.heap.size, 2, none⟩ = some (.slice b1 vs.length d1) := HBY.out.cell 2
      have g0 := HBY.out.free 0
      have g1 := HBY.out.free 1
      have g2 := HBY.out.free 2
      have m0 : Y.setCell ⟨w3.heap.size, 0, none⟩ (.bool n1) = Y := HBY.out.same rfl
      have m1 : Y.setCell ⟨w3.heap.size, 1, none⟩ (.slice a1 us.length c1) = Y := HBY.out.same rfl
      have m2 : Y.setCell ⟨w3.heap.size, 2, none⟩ (.slice b1 vs.length d1) = Y := HBY.out.same rfl
      clear HAY HBE HFQ HGV HFN
      go_wp2_with fail
      go_ret
      exact ⟨rfl, bt HB1.out HXY.out⟩
    · subst hfi
      obtain ⟨k1, q1⟩ := HFN.out rfl
      rw [HAA.out] at q1
      have HD := hid (And.intro k1 q1)
      have HGA := hid (gap_any x Y HFX.out)
      have HCY : Hid (∀ V, Below Y.heap.size Y V → V.cell? ⟨w3.heap.size, 0, none⟩ = some (.bool n1) ∧ V.cell? ⟨w3.heap.size, 1, none⟩ = some (.slice a1 us.length c1) ∧ V.cell? ⟨w3.heap.size, 2, none⟩ = some (.slice b1 vs.length d1)) := fun V hv => by
        have h := HBY.out.later hv HBY.out.lt
        exact ⟨h.cell 0, h.cell 1, h.cell 2⟩
      have HNE : Hid (∀ V m c cc (us' : List Int) d cd (vs' : List Int) (Q : Int), Below Y.heap.size Y V → Sl V (.slice c us'.length cc) us' → Sl V (.slice d vs'.length cd) vs' → rchk m us' vs' = 0 → rq m us' vs' = Rat.divInt Q M → (A : Int) ≤ Q → Calls Tryz.prog 10 #[.agg #[.bool n1, .slice a1 us.length c1, .slice b1 vs.length d1], .agg #[.bool m, .slice c us'.length cc, .slice d vs'.length cd]] V fun e w' => e = .returned (.bool true) ∧ Below V.heap.size V w') := fun V m c cc us' d cd vs' Q hv t1 t2 hk hq hle =>
        nearer_yes n1 a1 c1 us b1 d1 vs m c cc us' d cd vs' V (HS12.out.1.later hv) (HS12.out.2.later hv) t1 t2 HD.out.1 hk (over_le (rpos HS12.out.2.wd HD.out.1) (rpos t2.wd hk) HMM.out HD.out.2 hq hle)
      have HAD : Hid (∀ V, Below Y.heap.size Y V → Calls Tryz.prog 9 #[.agg #[.bool n1, .slice a1 us.length c1, .slice b1 vs.length d1], .agg #[.bool n1, .slice a1 us.length c1, .slice b1 vs.length d1]] V (RToldA V 0 (Rat.divInt (2 * (A : Int)) M))) := fun V hv => by
        have h := rAdd_ok n1 a1 c1 us b1 d1 vs n1 a1 c1 us b1 d1 vs V (HS12.out.1.later hv) (HS12.out.2.later hv) (HS12.out.1.later hv) (HS12.out.2.later hv) HD.out.1 HD.out.1
        rw [HD.out.2, rat_twice _ _ (by have := HMM.out; omega)] at h
        exact h
      have HSG : Hid (∀ V m c cc (us' : List Int) d cd (vs' : List Int), Below Y.heap.size Y V → Sl V (.slice c us'.length cc) us' → Sl V (.slice d vs'.length cd) vs' → ExT x m us' vs' → Calls Tryz.prog 13 #[.agg #[.bool m, .slice c us'.length cc, .slice d vs'.length cd]] V fun e w' => ∃ S : Int, e = .returned (.int .i64 S) ∧ Hid (0 ≤ rsgn n xs ys * S) ∧ (-1 ≤ S ∧ S ≤ 1) ∧ Below V.heap.size V w') := fun V m c cc us' d cd vs' hv t1 t2 he => by
        refine Calls.mono (rSign_any m c cc us' d cd vs' V t1 t2) ?_
        rintro e w' ⟨rfl, hb⟩
        exact ⟨_, rfl, sign_together HWD.out.1 HNT.out rfl t1.wd t2.wd he, rsgn_small _ _ _, hb⟩
      have HSR : Hid (∀ V, Below Y.heap.size Y V → Calls Tryz.prog 13 #[.agg #[.bool n, .slice a xs.length ca, .slice b ys.length cb]] V fun e w' => e = .returned (.int .i64 (rsgn n xs ys)) ∧ Below V.heap.size V w') := fun V hv => rSign_any n a ca xs b cb ys V (HSL.out.1.later (bt HXY.out hv)) (HSL.out.2.later (bt HXY.out hv))
      have hrs := rsgn_small n xs ys
      generalize rsgn n xs ys = S0 at *
      have HEF : Hid (∀ y V, Fi y → Below Y.heap.size Y V → Calls Tryz.prog 11 #[.float .f64 y] V fun e w' => ∃ n a ca b cb xs ys, e = .returned (.agg #[.bool n, .slice a (List.length xs) ca, .slice b (List.length ys) cb]) ∧ Hid (Sl w' (.slice a xs.length ca) xs ∧ Sl w' (.slice b ys.length cb) ys ∧ ExT y n xs ys) ∧ Below V.heap.size V w') := fun y V hy hv => by
        refine Calls.mono (exact6_fin y V hy ((HT1.out.later HXY.out).later hv)) ?_
        rintro e w' ⟨n, a, ca, b, cb, xs, ys, rfl, o1, o2, wx, wy, he, hb⟩
        exact ⟨n, a, ca, b, cb, xs, ys, rfl, ⟨Sl.own o1 wx, Sl.own o2 wy, he⟩, hb⟩
      have HCX : Hid (∀ V, Below Y.heap.size Y V → V.cell? ⟨w.heap.size, 0, none⟩ = some (.bool n) ∧ V.cell? ⟨w.heap.size, 1, none⟩ = some (.slice a xs.length ca) ∧ V.cell? ⟨w.heap.size, 2, none⟩ = some (.slice b ys.length cb)) := fun V hv => HCL.out V (bt HXY.out hv)
      have HAZ : Hid (∀ y V, Fi y → Below Y.heap.size Y V → Calls Tryz.prog 7 #[.float .f64 y, .agg #[.bool n, .slice a xs.length ca, .slice b ys.length cb]] V (AwT V (sv y * val ys - wval n xs * 2 ^ zP) M)) := fun y V hy hv => HAY.out y V hy (bt HXY.out hv)
      have HNX : Hid (∀ y V, Fi y → Calls Tryz.prog 12 #[.float .f64 y] V fun e w' => ∃ z k, e = .returned (.tuple #[.float .f64 z, .int .i64 k]) ∧ Hid (k = 0 → Fi z) ∧ Below V.heap.size V w') := fun y V hy => by
        refine Calls.mono (next_any y V hy.1) ?_
        rintro e w' ⟨rfl, hb⟩
        exact ⟨_, _, rfl, fun h0 => (nxt_next hy (by rw [← h0])).1, hb⟩
      have HBQ : Hid (∀ y, Fi y → (A : Int) ≤ ((sv y * val ys - wval n xs * 2 ^ zP).natAbs : Int)) := fun y hy => by
        have h := HBE.out y hy
        rw [HAA.out] at h
        exact Int.ofNat_le.2 h
      have HBW := hid (bt HB1.out HXY.out)
      have hneg : ∀ x, Op.unary .neg (.float .f64 x) = pure (.float .f64 (fneg x)) := fun _ => rfl
      have HFNG := hid (fneg_fi HFX.out)
      clear HFN k1 q1 HAY HBE HCL HCK HNT HSL HT1 HBY
      go_wp2_with fail
      clear hYY
      refine Calls.mono HGA.out ?_
      rintro e w4 ⟨G, rfl, hGf, hGv, b6⟩
      have HG := hid (And.intro hGf (HGV.out G hGv))
      have HY4 := hid b6
      have HA4 := hid (HAD.out w4 b6)
      obtain ⟨y0, y1, y2⟩ := HCY.out w4 b6
      clear HGA hGf hGv b6 HGV HAD
      go_wp2_with fail
      refine Calls.mono HA4.out ?_
      rintro e w5 ⟨n2, v2, us2, u2, vs2, code2, rfl, r1, r2, t2, b7, _⟩
      obtain ⟨a2, c2, rfl⟩ := own_slice' r1
      obtain ⟨b2, d2, rfl⟩ := own_slice' r2
      obtain ⟨Z, hZZ⟩ : ∃ Z, w5.alloc (.cells #[.bool n2, .slice a2 us2.length c2, .slice b2 vs2.length d2] 24) = Z := ⟨_, rfl⟩
      have b8 : Below w5.heap.size w5 Z := by rw [← hZZ]; exact alloc_later _ _
      have HBZ : Hid (Box Z w5.heap.size 24 #[.bool n2, .slice a2 us2.length c2, .slice b2 vs2.length d2]) := by rw [← hZZ]; exact Box.made w5 _ _
      have HYZ := hid (bt HY4.out (bt b7 b8))
      have HS2 := hid (And.intro (Sl.own (owns_later r1 b8) t2.wx) (Sl.own (owns_later r2 b8) t2.wy))
      have HT2 := hid t2
      clear HA4 r1 r2 t2 b7 b8 y0 y1 y2 HY4
      by_cases hc2 : code2 = 0
      · subst hc2
        obtain ⟨k2, q2⟩ := rtells_ok HT2.out
        have HK : Hid (∀ V, Below Z.heap.size Z V → V.cell? ⟨w5.heap.size, 0, none⟩ = some (.bool n2) ∧ V.cell? ⟨w5.heap.size, 1, none⟩ = some (.slice a2 us2.length c2) ∧ V.cell? ⟨w5.heap.size, 2, none⟩ = some (.slice b2 vs2.length d2)) := fun V hv => by
          have h := HBZ.out.later hv HBZ.out.lt
          exact ⟨h.cell 0, h.cell 1, h.cell 2⟩
        have HDZ := hid (Below.drew (Below.refl Z.heap.size Z))
        have hs0 := HK.out _ HDZ.out
        have HE6 : Hid (∀ V, Below Z.heap.size Z V → Calls Tryz.prog 11 #[.float .f64 G] V fun e w' => ∃ n a ca b cb xs ys, e = .returned (.agg #[.bool n, .slice a (List.length xs) ca, .slice b (List.length ys) cb]) ∧ (w'.cell? ⟨w5.heap.size, 0, none⟩ = some (.bool n2) ∧ w'.cell? ⟨w5.heap.size, 1, none⟩ = some (.slice a2 us2.length c2) ∧ w'.cell? ⟨w5.heap.size, 2, none⟩ = some (.slice b2 vs2.length d2)) ∧ Hid (Sl w' (.slice a xs.length ca) xs ∧ Sl w' (.slice b ys.length cb) ys ∧ ExT G n xs ys) ∧ Hid (Below Z.heap.size Z w')) := fun V hv => by
          refine Calls.mono (HEF.out G V HG.out.1 (bt HYZ.out hv)) ?_
          rintro e w' ⟨n, a, ca, b, cb, xs, ys, rfl, h, hb⟩
          exact ⟨n, a, ca, b, cb, xs, ys, rfl, HK.out w' (bt hv hb), h, bt hv hb⟩
        have HN6 : Hid (∀ V m c cc (us' : List Int) d cd (vs' : List Int), Below Z.heap.size Z V → (Sl V (.slice c us'.length cc) us' ∧ Sl V (.slice d vs'.length cd) vs' ∧ ExT G m us' vs') → Calls Tryz.prog 10 #[.agg #[.bool n2, .slice a2 us2.length c2, .slice b2 vs2.length d2], .agg #[.bool m, .slice c us'.length cc, .slice d vs'.length cd]] V fun e w' => e = .returned (.bool true) ∧ (w'.cell? ⟨w5.heap.size, 0, none⟩ = some (.bool n2) ∧ w'.cell? ⟨w5.heap.size, 1, none⟩ = some (.slice a2 us2.length c2) ∧ w'.cell? ⟨w5.heap.size, 2, none⟩ = some (.slice b2 vs2.length d2)) ∧ Hid (Below Z.heap.size Z w')) := fun V m c cc us' d cd vs' hv t => by
          refine Calls.mono (nearer_yes n2 a2 c2 us2 b2 d2 vs2 m c cc us' d cd vs' V (HS2.out.1.later hv) (HS2.out.2.later hv) t.1 t.2.1 k2 t.2.2.1 (over_le (rpos HS2.out.2.wd k2) (rpos t.2.1.wd t.2.2.1) HMM.out q2 (t.2.2.2.2.trans (HFQ.out G HG.out.1)) (by have h := HG.out.2; rw [HAA.out, Int.natCast_mul] at h; exact h))) ?_
          rintro e w' ⟨rfl, hb⟩
          exact ⟨rfl, HK.out w' (bt hv hb), bt hv hb⟩
        clear k2 q2 HT2
        go_wp2_with fail
        clear hZZ
        go_region_held3 (fun V : World => V.cell? ⟨w5.heap.size, 0, none⟩ = some (.bool n2) ∧ V.cell? ⟨w5.heap.size, 1, none⟩ = some (.slice a2 us2.length c2) ∧ V.cell? ⟨w5.heap.size, 2, none⟩ = some (.slice b2 vs2.length d2)) (first | with_reducible exact hsB | with_reducible exact hsA | with_reducible exact hs0)
          (first
            | (go_at_call 11; (with_reducible refine Calls.mono (HE6.out _ HDZ.out) ?_); rintro e w6 ⟨ng, ag, cg, bg, dg, xg, yg, rfl, hsA, HSA, HBA⟩)
            | (go_at_call 10; (with_reducible refine Calls.mono (HN6.out _ ng ag cg xg bg dg yg HBA.out HSA.out) ?_); rintro e w7 ⟨rfl, hsB, HBB⟩))
        all_goals
          have HY7 := hid (bt HYZ.out HBB.out)
          clear HK HDZ hs0 hsA hsB HE6 HN6 HBA HSA HBB HS2 HBZ HYZ
          have HNa1 := hid (fun V => HNX.out (x) V HFX.out)
          go_wp2_with fail
          refine Calls.mono (HNa1.out _) ?_
          rintro e wN1 ⟨z1, k1, rfl, HZF1, bN1⟩
          have HYN1 := hid (bt HY7.out bN1)
          clear HNa1 bN1
          by_cases hk1 : k1 = 0
          · have hzf1 := HZF1.out hk1
            have HAb1 := hid (HAZ.out (z1) wN1 hzf1 HYN1.out)
            have HBb1 := hid (HBQ.out (z1) hzf1)
            obtain ⟨e0, e1, e2⟩ := HCX.out _ HYN1.out
            subst hk1
            clear HZF1
            go_wp2_with fail
            refine Calls.mono HAb1.out ?_
            rintro e wO1 ⟨no, ao, co, bo, do', xo, yo, is, rfl, so1, so2, hio, bO⟩
            obtain ⟨V1, hV1⟩ : ∃ V, wO1.alloc (.cells #[.bool no, .slice ao xo.length co, .slice bo yo.length do'] 24) = V := ⟨_, rfl⟩
            have bV : Below wO1.heap.size wO1 V1 := by rw [← hV1]; exact alloc_later _ _
            have hBV : Box V1 wO1.heap.size 24 #[.bool no, .slice ao xo.length co, .slice bo yo.length do'] := by rw [← hV1]; exact Box.made wO1 _ _
            have HYO1 := hid (bt HYN1.out (bt bO bV))
            have v0 : V1.cell? ⟨wO1.heap.size, 0, none⟩ = some (.bool no) := hBV.cell 0
            have v1 : V1.cell? ⟨wO1.heap.size, 1, none⟩ = some (.slice ao xo.length co) := hBV.cell 1
            have v2 : V1.cell? ⟨wO1.heap.size, 2, none⟩ = some (.slice bo yo.length do') := hBV.cell 2
            have g0 := hBV.free 0
            have g1 := hBV.free 1
            have g2 := hBV.free 2
            have m0 : V1.setCell ⟨wO1.heap.size, 0, none⟩ (.bool no) = V1 := hBV.same rfl
            have m1 : V1.setCell ⟨wO1.heap.size, 1, none⟩ (.slice ao xo.length co) = V1 := hBV.same rfl
            have m2 : V1.setCell ⟨wO1.heap.size, 2, none⟩ (.slice bo yo.length do') = V1 := hBV.same rfl
            obtain ⟨y0, y1, y2⟩ := HCY.out _ HYO1.out
            clear e0 e1 e2
            cases his : is
            · subst his
              clear HAb1 HBb1 so1 so2 hio bO bV hBV
              have HNa2 := hid (fun V => HNX.out (fneg x) V HFNG.out.1)
              go_wp2_with fail
              refine Calls.mono (HNa2.out _) ?_
              rintro e wN2 ⟨z2, k2, rfl, HZF2, bN2⟩
              have HYN2 := hid (bt HYO1.out bN2)
              clear HNa2 bN2
              by_cases hk2 : k2 = 0
              · have hzf2 := (fneg_fi (HZF2.out hk2)).1
                have HAb2 := hid (HAZ.out (fneg z2) wN2 hzf2 HYN2.out)
                have HBb2 := hid (HBQ.out (fneg z2) hzf2)
                obtain ⟨e0, e1, e2⟩ := HCX.out _ HYN2.out
                subst hk2
                clear HZF2
                go_wp2_with fail
                refine Calls.mono HAb2.out ?_
                rintro e wO2 ⟨no, ao, co, bo, do', xo, yo, is, rfl, so1, so2, hio, bO⟩
                obtain ⟨V2, hV2⟩ : ∃ V, wO2.alloc (.cells #[.bool no, .slice ao xo.length co, .slice bo yo.length do'] 24) = V := ⟨_, rfl⟩
                have bV : Below wO2.heap.size wO2 V2 := by rw [← hV2]; exact alloc_later _ _
                have hBV : Box V2 wO2.heap.size 24 #[.bool no, .slice ao xo.length co, .slice bo yo.length do'] := by rw [← hV2]; exact Box.made wO2 _ _
                have HYO2 := hid (bt HYN2.out (bt bO bV))
                have v0 : V2.cell? ⟨wO2.heap.size, 0, none⟩ = some (.bool no) := hBV.cell 0
                have v1 : V2.cell? ⟨wO2.heap.size, 1, none⟩ = some (.slice ao xo.length co) := hBV.cell 1
                have v2 : V2.cell? ⟨wO2.heap.size, 2, none⟩ = some (.slice bo yo.length do') := hBV.cell 2
                have g0 := hBV.free 0
                have g1 := hBV.free 1
                have g2 := hBV.free 2
                have m0 : V2.setCell ⟨wO2.heap.size, 0, none⟩ (.bool no) = V2 := hBV.same rfl
                have m1 : V2.setCell ⟨wO2.heap.size, 1, none⟩ (.slice ao xo.length co) = V2 := hBV.same rfl
                have m2 : V2.setCell ⟨wO2.heap.size, 2, none⟩ (.slice bo yo.length do') = V2 := hBV.same rfl
                obtain ⟨y0, y1, y2⟩ := HCY.out _ HYO2.out
                clear e0 e1 e2
                cases his : is
                · subst his
                  clear HAb2 HBb2 so1 so2 hio bO bV hBV
                  obtain ⟨e0, e1, e2⟩ := HCX.out _ HYO2.out
                  have HSa3 := hid (HSR.out _ HYO2.out)
                  go_wp2_with fail
                  refine Calls.mono HSa3.out ?_
                  rintro e wP ⟨rfl, bP⟩
                  have HYP := hid (bt HYO2.out bP)
                  have HEa := hid (HEF.out x wP HFX.out HYP.out)
                  clear HSa3 bP e0 e1 e2
                  go_wp2_with fail
                  refine Calls.mono HEa.out ?_
                  rintro e wQ ⟨nq, aq, cq, bq, dq, xq, yq, rfl, HQ1, bQ⟩
                  have HYQ := hid (bt HYP.out bQ)
                  have HSb := hid (HSG.out wQ nq aq cq xq bq dq yq HYQ.out HQ1.out.1 HQ1.out.2.1 HQ1.out.2.2)
                  clear HEa bQ
                  go_wp2_with fail
                  refine Calls.mono HSb.out ?_
                  rintro e wR ⟨S1, rfl, HS1, hs1, bR⟩
                  have HFI := hid (bt HBW.out (bt HYQ.out bR))
                  have HP2 : Hid (S0 * S1 ≤ 1) := by
                    show _ ≤ _
                    obtain ⟨u1, u2⟩ := hrs
                    obtain ⟨u3, u4⟩ := hs1
                    have c0 : S0 = -1 ∨ S0 = 0 ∨ S0 = 1 := by omega
                    rcases c0 with h | h | h <;> subst h <;> omega
                  have HWY := hid (wrap_yes _ HS1.out HP2.out)
                  clear HSb bR HS1 HP2
                  go_wp2_with fail
                  go_ret
                  exact ⟨congrArg (fun z => Ending.returned (.bool z)) HWY.out, HFI.out⟩
                · subst his
                  obtain ⟨ko, qo⟩ := hio rfl
                  have HNn2 := hid (HNE.out V2 no ao co xo bo do' yo _ HYO2.out (so1.later bV) (so2.later bV) ko qo HBb2.out)
                  clear HAb2 HBb2 so1 so2 hio bO bV hBV ko qo
                  go_wp2_with fail
                  refine Calls.mono HNn2.out ?_
                  rintro e wM2 ⟨rfl, bM⟩
                  have HYM2 := hid (bt HYO2.out bM)
                  clear HNn2 bM v0 v1 v2 g0 g1 g2 m0 m1 m2 y0 y1 y2 hV2
                  obtain ⟨e0, e1, e2⟩ := HCX.out _ HYM2.out
                  have HSa4 := hid (HSR.out _ HYM2.out)
                  go_wp2_with fail
                  refine Calls.mono HSa4.out ?_
                  rintro e wP ⟨rfl, bP⟩
                  have HYP := hid (bt HYM2.out bP)
                  have HEa := hid (HEF.out x wP HFX.out HYP.out)
                  clear HSa4 bP e0 e1 e2
                  go_wp2_with fail
                  refine Calls.mono HEa.out ?_
                  rintro e wQ ⟨nq, aq, cq, bq, dq, xq, yq, rfl, HQ1, bQ⟩
                  have HYQ := hid (bt HYP.out bQ)
                  have HSb := hid (HSG.out wQ nq aq cq xq bq dq yq HYQ.out HQ1.out.1 HQ1.out.2.1 HQ1.out.2.2)
                  clear HEa bQ
                  go_wp2_with fail
                  refine Calls.mono HSb.out ?_
                  rintro e wR ⟨S1, rfl, HS1, hs1, bR⟩
                  have HFI := hid (bt HBW.out (bt HYQ.out bR))
                  have HP2 : Hid (S0 * S1 ≤ 1) := by
                    show _ ≤ _
                    obtain ⟨u1, u2⟩ := hrs
                    obtain ⟨u3, u4⟩ := hs1
                    have c0 : S0 = -1 ∨ S0 = 0 ∨ S0 = 1 := by omega
                    rcases c0 with h | h | h <;> subst h <;> omega
                  have HWY := hid (wrap_yes _ HS1.out HP2.out)
                  clear HSb bR HS1 HP2
                  go_wp2_with fail
                  go_ret
                  exact ⟨congrArg (fun z => Ending.returned (.bool z)) HWY.out, HFI.out⟩
              · have hkk2 : (k2 == 0) = false := by simp [hk2]
                clear HZF2 hk2
                obtain ⟨e0, e1, e2⟩ := HCX.out _ HYN2.out
                have HSa5 := hid (HSR.out _ HYN2.out)
                go_wp2_with fail
                refine Calls.mono HSa5.out ?_
                rintro e wP ⟨rfl, bP⟩
                have HYP := hid (bt HYN2.out bP)
                have HEa := hid (HEF.out x wP HFX.out HYP.out)
                clear HSa5 bP e0 e1 e2
                go_wp2_with fail
                refine Calls.mono HEa.out ?_
                rintro e wQ ⟨nq, aq, cq, bq, dq, xq, yq, rfl, HQ1, bQ⟩
                have HYQ := hid (bt HYP.out bQ)
                have HSb := hid (HSG.out wQ nq aq cq xq bq dq yq HYQ.out HQ1.out.1 HQ1.out.2.1 HQ1.out.2.2)
                clear HEa bQ
                go_wp2_with fail
                refine Calls.mono HSb.out ?_
                rintro e wR ⟨S1, rfl, HS1, hs1, bR⟩
                have HFI := hid (bt HBW.out (bt HYQ.out bR))
                have HP2 : Hid (S0 * S1 ≤ 1) := by
                  show _ ≤ _
                  obtain ⟨u1, u2⟩ := hrs
                  obtain ⟨u3, u4⟩ := hs1
                  have c0 : S0 = -1 ∨ S0 = 0 ∨ S0 = 1 := by omega
                  rcases c0 with h | h | h <;> subst h <;> omega
                have HWY := hid (wrap_yes _ HS1.out HP2.out)
                clear HSb bR HS1 HP2
                go_wp2_with fail
                go_ret
                exact ⟨congrArg (fun z => Ending.returned (.bool z)) HWY.out, HFI.out⟩
            · subst his
              obtain ⟨ko, qo⟩ := hio rfl
              have HNn1 := hid (HNE.out V1 no ao co xo bo do' yo _ HYO1.out (so1.later bV) (so2.later bV) ko qo HBb1.out)
              clear HAb1 HBb1 so1 so2 hio bO bV hBV ko qo
              go_wp2_with fail
              refine Calls.mono HNn1.out ?_
              rintro e wM1 ⟨rfl, bM⟩
              have HYM1 := hid (bt HYO1.out bM)
              clear HNn1 bM v0 v1 v2 g0 g1 g2 m0 m1 m2 y0 y1 y2 hV1
              have HNa6 := hid (fun V => HNX.out (fneg x) V HFNG.out.1)
              go_wp2_with fail
              refine Calls.mono (HNa6.out _) ?_
              rintro e wN6 ⟨z6, k6, rfl, HZF6, bN6⟩
              have HYN6 := hid (bt HYM1.out bN6)
              clear HNa6 bN6
              by_cases hk6 : k6 = 0
              · have hzf6 := (fneg_fi (HZF6.out hk6)).1
                have HAb6 := hid (HAZ.out (fneg z6) wN6 hzf6 HYN6.out)
                have HBb6 := hid (HBQ.out (fneg z6) hzf6)
                obtain ⟨e0, e1, e2⟩ := HCX.out _ HYN6.out
                subst hk6
                clear HZF6
                go_wp2_with fail
                refine Calls.mono HAb6.out ?_
                rintro e wO6 ⟨no, ao, co, bo, do', xo, yo, is, rfl, so1, so2, hio, bO⟩
                obtain ⟨V6, hV6⟩ : ∃ V, wO6.alloc (.cells #[.bool no, .slice ao xo.length co, .slice bo yo.length do'] 24) = V := ⟨_, rfl⟩
                have bV : Below wO6.heap.size wO6 V6 := by rw [← hV6]; exact alloc_later _ _
                have hBV : Box V6 wO6.heap.size 24 #[.bool no, .slice ao xo.length co, .slice bo yo.length do'] := by rw [← hV6]; exact Box.made wO6 _ _
                have HYO6 := hid (bt HYN6.out (bt bO bV))
                have v0 : V6.cell? ⟨wO6.heap.size, 0, none⟩ = some (.bool no) := hBV.cell 0
                have v1 : V6.cell? ⟨wO6.heap.size, 1, none⟩ = some (.slice ao xo.length co) := hBV.cell 1
                have v2 : V6.cell? ⟨wO6.heap.size, 2, none⟩ = some (.slice bo yo.length do') := hBV.cell 2
                have g0 := hBV.free 0
                have g1 := hBV.free 1
                have g2 := hBV.free 2
                have m0 : V6.setCell ⟨wO6.heap.size, 0, none⟩ (.bool no) = V6 := hBV.same rfl
                have m1 : V6.setCell ⟨wO6.heap.size, 1, none⟩ (.slice ao xo.length co) = V6 := hBV.same rfl
                have m2 : V6.setCell ⟨wO6.heap.size, 2, none⟩ (.slice bo yo.length do') = V6 := hBV.same rfl
                obtain ⟨y0, y1, y2⟩ := HCY.out _ HYO6.out
                clear e0 e1 e2
                cases his : is
                · subst his
                  clear HAb6 HBb6 so1 so2 hio bO bV hBV
                  obtain ⟨e0, e1, e2⟩ := HCX.out _ HYO6.out
                  have HSa7 := hid (HSR.out _ HYO6.out)
                  go_wp2_with fail
                  refine Calls.mono HSa7.out ?_
                  rintro e wP ⟨rfl, bP⟩
                  have HYP := hid (bt HYO6.out bP)
                  have HEa := hid (HEF.out x wP HFX.out HYP.out)
                  clear HSa7 bP e0 e1 e2
                  go_wp2_with fail
                  refine Calls.mono HEa.out ?_
                  rintro e wQ ⟨nq, aq, cq, bq, dq, xq, yq, rfl, HQ1, bQ⟩
                  have HYQ := hid (bt HYP.out bQ)
                  have HSb := hid (HSG.out wQ nq aq cq xq bq dq yq HYQ.out HQ1.out.1 HQ1.out.2.1 HQ1.out.2.2)
                  clear HEa bQ
                  go_wp2_with fail
                  refine Calls.mono HSb.out ?_
                  rintro e wR ⟨S1, rfl, HS1, hs1, bR⟩
                  have HFI := hid (bt HBW.out (bt HYQ.out bR))
                  have HP2 : Hid (S0 * S1 ≤ 1) := by
                    show _ ≤ _
                    obtain ⟨u1, u2⟩ := hrs
                    obtain ⟨u3, u4⟩ := hs1
                    have c0 : S0 = -1 ∨ S0 = 0 ∨ S0 = 1 := by omega
                    rcases c0 with h | h | h <;> subst h <;> omega
                  have HWY := hid (wrap_yes _ HS1.out HP2.out)
                  clear HSb bR HS1 HP2
                  go_wp2_with fail
                  go_ret
                  exact ⟨congrArg (fun z => Ending.returned (.bool z)) HWY.out, HFI.out⟩
                · subst his
                  obtain ⟨ko, qo⟩ := hio rfl
                  have HNn6 := hid (HNE.out V6 no ao co xo bo do' yo _ HYO6.out (so1.later bV) (so2.later bV) ko qo HBb6.out)
                  clear HAb6 HBb6 so1 so2 hio bO bV hBV ko qo
                  go_wp2_with fail
                  refine Calls.mono HNn6.out ?_
                  rintro e wM6 ⟨rfl, bM⟩
                  have HYM6 := hid (bt HYO6.out bM)
                  clear HNn6 bM v0 v1 v2 g0 g1 g2 m0 m1 m2 y0 y1 y2 hV6
                  obtain ⟨e0, e1, e2⟩ := HCX.out _ HYM6.out
                  have HSa8 := hid (HSR.out _ HYM6.out)
                  go_wp2_with fail
                  refine Calls.mono HSa8.out ?_
                  rintro e wP ⟨rfl, bP⟩
                  have HYP := hid (bt HYM6.out bP)
                  have HEa := hid (HEF.out x wP HFX.out HYP.out)
                  clear HSa8 bP e0 e1 e2
                  go_wp2_with fail
                  refine Calls.mono HEa.out ?_
                  rintro e wQ ⟨nq, aq, cq, bq, dq, xq, yq, rfl, HQ1, bQ⟩
                  have HYQ := hid (bt HYP.out bQ)
                  have HSb := hid (HSG.out wQ nq aq cq xq bq dq yq HYQ.out HQ1.out.1 HQ1.out.2.1 HQ1.out.2.2)
                  clear HEa bQ
                  go_wp2_with fail
                  refine Calls.mono HSb.out ?_
                  rintro e wR ⟨S1, rfl, HS1, hs1, bR⟩
                  have HFI := hid (bt HBW.out (bt HYQ.out bR))
                  have HP2 : Hid (S0 * S1 ≤ 1) := by
                    show _ ≤ _
                    obtain ⟨u1, u2⟩ := hrs
                    obtain ⟨u3, u4⟩ := hs1
                    have c0 : S0 = -1 ∨ S0 = 0 ∨ S0 = 1 := by omega
                    rcases c0 with h | h | h <;> subst h <;> omega
                  have HWY := hid (wrap_yes _ HS1.out HP2.out)
                  clear HSb bR HS1 HP2
                  go_wp2_with fail
                  go_ret
                  exact ⟨congrArg (fun z => Ending.returned (.bool z)) HWY.out, HFI.out⟩
              · have hkk6 : (k6 == 0) = false := by simp [hk6]
                clear HZF6 hk6
                obtain ⟨e0, e1, e2⟩ := HCX.out _ HYN6.out
                have HSa9 := hid (HSR.out _ HYN6.out)
                go_wp2_with fail
                refine Calls.mono HSa9.out ?_
                rintro e wP ⟨rfl, bP⟩
                have HYP := hid (bt HYN6.out bP)
                have HEa := hid (HEF.out x wP HFX.out HYP.out)
                clear HSa9 bP e0 e1 e2
                go_wp2_with fail
                refine Calls.mono HEa.out ?_
                rintro e wQ ⟨nq, aq, cq, bq, dq, xq, yq, rfl, HQ1, bQ⟩
                have HYQ := hid (bt HYP.out bQ)
                have HSb := hid (HSG.out wQ nq aq cq xq bq dq yq HYQ.out HQ1.out.1 HQ1.out.2.1 HQ1.out.2.2)
                clear HEa bQ
                go_wp2_with fail
                refine Calls.mono HSb.out ?_
                rintro e wR ⟨S1, rfl, HS1, hs1, bR⟩
                have HFI := hid (bt HBW.out (bt HYQ.out bR))
                have HP2 : Hid (S0 * S1 ≤ 1) := by
                  show _ ≤ _
                  obtain ⟨u1, u2⟩ := hrs
                  obtain ⟨u3, u4⟩ := hs1
                  have c0 : S0 = -1 ∨ S0 = 0 ∨ S0 = 1 := by omega
                  rcases c0 with h | h | h <;> subst h <;> omega
                have HWY := hid (wrap_yes _ HS1.out HP2.out)
                clear HSb bR HS1 HP2
                go_wp2_with fail
                go_ret
                exact ⟨congrArg (fun z => Ending.returned (.bool z)) HWY.out, HFI.out⟩
          · have hkk1 : (k1 == 0) = false := by simp [hk1]
            clear HZF1 hk1
            have HNa10 := hid (fun V => HNX.out (fneg x) V HFNG.out.1)
            go_wp2_with fail
            refine Calls.mono (HNa10.out _) ?_
            rintro e wN10 ⟨z10, k10, rfl, HZF10, bN10⟩
            have HYN10 := hid (bt HYN1.out bN10)
            clear HNa10 bN10
            by_cases hk10 : k10 = 0
            · have hzf10 := (fneg_fi (HZF10.out hk10)).1
              have HAb10 := hid (HAZ.out (fneg z10) wN10 hzf10 HYN10.out)
              have HBb10 := hid (HBQ.out (fneg z10) hzf10)
              obtain ⟨e0, e1, e2⟩ := HCX.out _ HYN10.out
              subst hk10
              clear HZF10
              go_wp2_with fail
              refine Calls.mono HAb10.out ?_
              rintro e wO10 ⟨no, ao, co, bo, do', xo, yo, is, rfl, so1, so2, hio, bO⟩
              obtain ⟨V10, hV10⟩ : ∃ V, wO10.alloc (.cells #[.bool no, .slice ao xo.length co, .slice bo yo.length do'] 24) = V := ⟨_, rfl⟩
              have bV : Below wO10.heap.size wO10 V10 := by rw [← hV10]; exact alloc_later _ _
              have hBV : Box V10 wO10.heap.size 24 #[.bool no, .slice ao xo.length co, .slice bo yo.length do'] := by rw [← hV10]; exact Box.made wO10 _ _
              have HYO10 := hid (bt HYN10.out (bt bO bV))
              have v0 : V10.cell? ⟨wO10.heap.size, 0, none⟩ = some (.bool no) := hBV.cell 0
              have v1 : V10.cell? ⟨wO10.heap.size, 1, none⟩ = some (.slice ao xo.length co) := hBV.cell 1
              have v2 : V10.cell? ⟨wO10.heap.size, 2, none⟩ = some (.slice bo yo.length do') := hBV.cell 2
              have g0 := hBV.free 0
              have g1 := hBV.free 1
              have g2 := hBV.free 2
              have m0 : V10.setCell ⟨wO10.heap.size, 0, none⟩ (.bool no) = V10 := hBV.same rfl
              have m1 : V10.setCell ⟨wO10.heap.size, 1, none⟩ (.slice ao xo.length co) = V10 := hBV.same rfl
              have m2 : V10.setCell ⟨wO10.heap.size, 2, none⟩ (.slice bo yo.length do') = V10 := hBV.same rfl
              obtain ⟨y0, y1, y2⟩ := HCY.out _ HYO10.out
              clear e0 e1 e2
              cases his : is
              · subst his
                clear HAb10 HBb10 so1 so2 hio bO bV hBV
                obtain ⟨e0, e1, e2⟩ := HCX.out _ HYO10.out
                have HSa11 := hid (HSR.out _ HYO10.out)
                go_wp2_with fail
                refine Calls.mono HSa11.out ?_
                rintro e wP ⟨rfl, bP⟩
                have HYP := hid (bt HYO10.out bP)
                have HEa := hid (HEF.out x wP HFX.out HYP.out)
                clear HSa11 bP e0 e1 e2
                go_wp2_with fail
                refine Calls.mono HEa.out ?_
                rintro e wQ ⟨nq, aq, cq, bq, dq, xq, yq, rfl, HQ1, bQ⟩
                have HYQ := hid (bt HYP.out bQ)
                have HSb := hid (HSG.out wQ nq aq cq xq bq dq yq HYQ.out HQ1.out.1 HQ1.out.2.1 HQ1.out.2.2)
                clear HEa bQ
                go_wp2_with fail
                refine Calls.mono HSb.out ?_
                rintro e wR ⟨S1, rfl, HS1, hs1, bR⟩
                have HFI := hid (bt HBW.out (bt HYQ.out bR))
                have HP2 : Hid (S0 * S1 ≤ 1) := by
                  show _ ≤ _
                  obtain ⟨u1, u2⟩ := hrs
                  obtain ⟨u3, u4⟩ := hs1
                  have c0 : S0 = -1 ∨ S0 = 0 ∨ S0 = 1 := by omega
                  rcases c0 with h | h | h <;> subst h <;> omega
                have HWY := hid (wrap_yes _ HS1.out HP2.out)
                clear HSb bR HS1 HP2
                go_wp2_with fail
                go_ret
                exact ⟨congrArg (fun z => Ending.returned (.bool z)) HWY.out, HFI.out⟩
              · subst his
                obtain ⟨ko, qo⟩ := hio rfl
                have HNn10 := hid (HNE.out V10 no ao co xo bo do' yo _ HYO10.out (so1.later bV) (so2.later bV) ko qo HBb10.out)
                clear HAb10 HBb10 so1 so2 hio bO bV hBV ko qo
                go_wp2_with fail
                refine Calls.mono HNn10.out ?_
                rintro e wM10 ⟨rfl, bM⟩
                have HYM10 := hid (bt HYO10.out bM)
                clear HNn10 bM v0 v1 v2 g0 g1 g2 m0 m1 m2 y0 y1 y2 hV10
                obtain ⟨e0, e1, e2⟩ := HCX.out _ HYM10.out
                have HSa12 := hid (HSR.out _ HYM10.out)
                go_wp2_with fail
                refine Calls.mono HSa12.out ?_
                rintro e wP ⟨rfl, bP⟩
                have HYP := hid (bt HYM10.out bP)
                have HEa := hid (HEF.out x wP HFX.out HYP.out)
                clear HSa12 bP e0 e1 e2
                go_wp2_with fail
                refine Calls.mono HEa.out ?_
                rintro e wQ ⟨nq, aq, cq, bq, dq, xq, yq, rfl, HQ1, bQ⟩
                have HYQ := hid (bt HYP.out bQ)
                have HSb := hid (HSG.out wQ nq aq cq xq bq dq yq HYQ.out HQ1.out.1 HQ1.out.2.1 HQ1.out.2.2)
                clear HEa bQ
                go_wp2_with fail
                refine Calls.mono HSb.out ?_
                rintro e wR ⟨S1, rfl, HS1, hs1, bR⟩
                have HFI := hid (bt HBW.out (bt HYQ.out bR))
                have HP2 : Hid (S0 * S1 ≤ 1) := by
                  show _ ≤ _
                  obtain ⟨u1, u2⟩ := hrs
                  obtain ⟨u3, u4⟩ := hs1
                  have c0 : S0 = -1 ∨ S0 = 0 ∨ S0 = 1 := by omega
                  rcases c0 with h | h | h <;> subst h <;> omega
                have HWY := hid (wrap_yes _ HS1.out HP2.out)
                clear HSb bR HS1 HP2
                go_wp2_with fail
                go_ret
                exact ⟨congrArg (fun z => Ending.returned (.bool z)) HWY.out, HFI.out⟩
            · have hkk10 : (k10 == 0) = false := by simp [hk10]
              clear HZF10 hk10
              obtain ⟨e0, e1, e2⟩ := HCX.out _ HYN10.out
              have HSa13 := hid (HSR.out _ HYN10.out)
              go_wp2_with fail
              refine Calls.mono HSa13.out ?_
              rintro e wP ⟨rfl, bP⟩
              have HYP := hid (bt HYN10.out bP)
              have HEa := hid (HEF.out x wP HFX.out HYP.out)
              clear HSa13 bP e0 e1 e2
              go_wp2_with fail
              refine Calls.mono HEa.out ?_
              rintro e wQ ⟨nq, aq, cq, bq, dq, xq, yq, rfl, HQ1, bQ⟩
              have HYQ := hid (bt HYP.out bQ)
              have HSb := hid (HSG.out wQ nq aq cq xq bq dq yq HYQ.out HQ1.out.1 HQ1.out.2.1 HQ1.out.2.2)
              clear HEa bQ
              go_wp2_with fail
              refine Calls.mono HSb.out ?_
              rintro e wR ⟨S1, rfl, HS1, hs1, bR⟩
              have HFI := hid (bt HBW.out (bt HYQ.out bR))
              have HP2 : Hid (S0 * S1 ≤ 1) := by
                show _ ≤ _
                obtain ⟨u1, u2⟩ := hrs
                obtain ⟨u3, u4⟩ := hs1
                have c0 : S0 = -1 ∨ S0 = 0 ∨ S0 = 1 := by omega
                rcases c0 with h | h | h <;> subst h <;> omega
              have HWY := hid (wrap_yes _ HS1.out HP2.out)
              clear HSb bR HS1 HP2
              go_wp2_with fail
              go_ret
              exact ⟨congrArg (fun z => Ending.returned (.bool z)) HWY.out, HFI.out⟩
      · have hc2' : (code2 == 0) = false := by simp [hc2]
        have z0 : Z.cell? ⟨w5.heap.size, 0, none⟩ = some (.bool n2) := HBZ.out.cell 0
        have z1 : Z.cell? ⟨w5.heap.size, 1, none⟩ = some (.slice a2 us2.length c2) := HBZ.out.cell 1
        have z2 : Z.cell? ⟨w5.heap.size, 2, none⟩ = some (.slice b2 vs2.length d2) := HBZ.out.cell 2
        have j0 := HBZ.out.free 0
        have j1 := HBZ.out.free 1
        have j2 := HBZ.out.free 2
        have i0 : Z.setCell ⟨w5.heap.size, 0, none⟩ (.bool n2) = Z := HBZ.out.same rfl
        have i1 : Z.setCell ⟨w5.heap.size, 1, none⟩ (.slice a2 us2.length c2) = Z := HBZ.out.same rfl
        have i2 : Z.setCell ⟨w5.heap.size, 2, none⟩ (.slice b2 vs2.length d2) = Z := HBZ.out.same rfl
        clear hc2 HT2 HS2 HBZ
        go_wp2_with fail
        clear hZZ z0 z1 z2 j0 j1 j2 i0 i1 i2
        go_quiet (fail)
        have HY7 := hid (bdn HYZ.out nq)
        clear HYZ
        have HNa14 := hid (fun V => HNX.out (x) V HFX.out)
        go_wp2_with fail
        refine Calls.mono (HNa14.out _) ?_
        rintro e wN14 ⟨z14, k14, rfl, HZF14, bN14⟩
        have HYN14 := hid (bt HY7.out bN14)
        clear HNa14 bN14
        by_cases hk14 : k14 = 0
        · have hzf14 := HZF14.out hk14
          have HAb14 := hid (HAZ.out (z14) wN14 hzf14 HYN14.out)
          have HBb14 := hid (HBQ.out (z14) hzf14)
          obtain ⟨e0, e1, e2⟩ := HCX.out _ HYN14.out
          subst hk14
          clear HZF14
          go_wp2_with fail
          refine Calls.mono HAb14.out ?_
          rintro e wO14 ⟨no, ao, co, bo, do', xo, yo, is, rfl, so1, so2, hio, bO⟩
          obtain ⟨V14, hV14⟩ : ∃ V, wO14.alloc (.cells #[.bool no, .slice ao xo.length co, .slice bo yo.length do'] 24) = V := ⟨_, rfl⟩
          have bV : Below wO14.heap.size wO14 V14 := by rw [← hV14]; exact alloc_later _ _
          have hBV : Box V14 wO14.heap.size 24 #[.bool no, .slice ao xo.length co, .slice bo yo.length do'] := by rw [← hV14]; exact Box.made wO14 _ _
          have HYO14 := hid (bt HYN14.out (bt bO bV))
          have v0 : V14.cell? ⟨wO14.heap.size, 0, none⟩ = some (.bool no) := hBV.cell 0
          have v1 : V14.cell? ⟨wO14.heap.size, 1, none⟩ = some (.slice ao xo.length co) := hBV.cell 1
          have v2 : V14.cell? ⟨wO14.heap.size, 2, none⟩ = some (.slice bo yo.length do') := hBV.cell 2
          have g0 := hBV.free 0
          have g1 := hBV.free 1
          have g2 := hBV.free 2
          have m0 : V14.setCell ⟨wO14.heap.size, 0, none⟩ (.bool no) = V14 := hBV.same rfl
          have m1 : V14.setCell ⟨wO14.heap.size, 1, none⟩ (.slice ao xo.length co) = V14 := hBV.same rfl
          have m2 : V14.setCell ⟨wO14.heap.size, 2, none⟩ (.slice bo yo.length do') = V14 := hBV.same rfl
          obtain ⟨y0, y1, y2⟩ := HCY.out _ HYO14.out
          clear e0 e1 e2
          cases his : is
          · subst his
            clear HAb14 HBb14 so1 so2 hio bO bV hBV
            have HNa15 := hid (fun V => HNX.out (fneg x) V HFNG.out.1)
            go_wp2_with fail
            refine Calls.mono (HNa15.out _) ?_
            rintro e wN15 ⟨z15, k15, rfl, HZF15, bN15⟩
            have HYN15 := hid (bt HYO14.out bN15)
            clear HNa15 bN15
            by_cases hk15 : k15 = 0
            · have hzf15 := (fneg_fi (HZF15.out hk15)).1
              have HAb15 := hid (HAZ.out (fneg z15) wN15 hzf15 HYN15.out)
              have HBb15 := hid (HBQ.out (fneg z15) hzf15)
              obtain ⟨e0, e1, e2⟩ := HCX.out _ HYN15.out
              subst hk15
              clear HZF15
              go_wp2_with fail
              refine Calls.mono HAb15.out ?_
              rintro e wO15 ⟨no, ao, co, bo, do', xo, yo, is, rfl, so1, so2, hio, bO⟩
              obtain ⟨V15, hV15⟩ : ∃ V, wO15.alloc (.cells #[.bool no, .slice ao xo.length co, .slice bo yo.length do'] 24) = V := ⟨_, rfl⟩
              have bV : Below wO15.heap.size wO15 V15 := by rw [← hV15]; exact alloc_later _ _
              have hBV : Box V15 wO15.heap.size 24 #[.bool no, .slice ao xo.length co, .slice bo yo.length do'] := by rw [← hV15]; exact Box.made wO15 _ _
              have HYO15 := hid (bt HYN15.out (bt bO bV))
              have v0 : V15.cell? ⟨wO15.heap.size, 0, none⟩ = some (.bool no) := hBV.cell 0
              have v1 : V15.cell? ⟨wO15.heap.size, 1, none⟩ = some (.slice ao xo.length co) := hBV.cell 1
              have v2 : V15.cell? ⟨wO15.heap.size, 2, none⟩ = some (.slice bo yo.length do') := hBV.cell 2
              have g0 := hBV.free 0
              have g1 := hBV.free 1
              have g2 := hBV.free 2
              have m0 : V15.setCell ⟨wO15.heap.size, 0, none⟩ (.bool no) = V15 := hBV.same rfl
              have m1 : V15.setCell ⟨wO15.heap.size, 1, none⟩ (.slice ao xo.length co) = V15 := hBV.same rfl
              have m2 : V15.setCell ⟨wO15.heap.size, 2, none⟩ (.slice bo yo.length do') = V15 := hBV.same rfl
              obtain ⟨y0, y1, y2⟩ := HCY.out _ HYO15.out
              clear e0 e1 e2
              cases his : is
              · subst his
                clear HAb15 HBb15 so1 so2 hio bO bV hBV
                obtain ⟨e0, e1, e2⟩ := HCX.out _ HYO15.out
                have HSa16 := hid (HSR.out _ HYO15.out)
                go_wp2_with fail
                refine Calls.mono HSa16.out ?_
                rintro e wP ⟨rfl, bP⟩
                have HYP := hid (bt HYO15.out bP)
                have HEa := hid (HEF.out x wP HFX.out HYP.out)
                clear HSa16 bP e0 e1 e2
                go_wp2_with fail
                refine Calls.mono HEa.out ?_
                rintro e wQ ⟨nq, aq, cq, bq, dq, xq, yq, rfl, HQ1, bQ⟩
                have HYQ := hid (bt HYP.out bQ)
                have HSb := hid (HSG.out wQ nq aq cq xq bq dq yq HYQ.out HQ1.out.1 HQ1.out.2.1 HQ1.out.2.2)
                clear HEa bQ
                go_wp2_with fail
                refine Calls.mono HSb.out ?_
                rintro e wR ⟨S1, rfl, HS1, hs1, bR⟩
                have HFI := hid (bt HBW.out (bt HYQ.out bR))
                have HP2 : Hid (S0 * S1 ≤ 1) := by
                  show _ ≤ _
                  obtain ⟨u1, u2⟩ := hrs
                  obtain ⟨u3, u4⟩ := hs1
                  have c0 : S0 = -1 ∨ S0 = 0 ∨ S0 = 1 := by omega
                  rcases c0 with h | h | h <;> subst h <;> omega
                have HWY := hid (wrap_yes _ HS1.out HP2.out)
                clear HSb bR HS1 HP2
                go_wp2_with fail
                go_ret
                exact ⟨congrArg (fun z => Ending.returned (.bool z)) HWY.out, HFI.out⟩
              · subst his
                obtain ⟨ko, qo⟩ := hio rfl
                have HNn15 := hid (HNE.out V15 no ao co xo bo do' yo _ HYO15.out (so1.later bV) (so2.later bV) ko qo HBb15.out)
                clear HAb15 HBb15 so1 so2 hio bO bV hBV ko qo
                go_wp2_with fail
                refine Calls.mono HNn15.out ?_
                rintro e wM15 ⟨rfl, bM⟩
                have HYM15 := hid (bt HYO15.out bM)
                clear HNn15 bM v0 v1 v2 g0 g1 g2 m0 m1 m2 y0 y1 y2 hV15
                obtain ⟨e0, e1, e2⟩ := HCX.out _ HYM15.out
                have HSa17 := hid (HSR.out _ HYM15.out)
                go_wp2_with fail
                refine Calls.mono HSa17.out ?_
                rintro e wP ⟨rfl, bP⟩
                have HYP := hid (bt HYM15.out bP)
                have HEa := hid (HEF.out x wP HFX.out HYP.out)
                clear HSa17 bP e0 e1 e2
                go_wp2_with fail
                refine Calls.mono HEa.out ?_
                rintro e wQ ⟨nq, aq, cq, bq, dq, xq, yq, rfl, HQ1, bQ⟩
                have HYQ := hid (bt HYP.out bQ)
                have HSb := hid (HSG.out wQ nq aq cq xq bq dq yq HYQ.out HQ1.out.1 HQ1.out.2.1 HQ1.out.2.2)
                clear HEa bQ
                go_wp2_with fail
                refine Calls.mono HSb.out ?_
                rintro e wR ⟨S1, rfl, HS1, hs1, bR⟩
                have HFI := hid (bt HBW.out (bt HYQ.out bR))
                have HP2 : Hid (S0 * S1 ≤ 1) := by
                  show _ ≤ _
                  obtain ⟨u1, u2⟩ := hrs
                  obtain ⟨u3, u4⟩ := hs1
                  have c0 : S0 = -1 ∨ S0 = 0 ∨ S0 = 1 := by omega
                  rcases c0 with h | h | h <;> subst h <;> omega
                have HWY := hid (wrap_yes _ HS1.out HP2.out)
                clear HSb bR HS1 HP2
                go_wp2_with fail
                go_ret
                exact ⟨congrArg (fun z => Ending.returned (.bool z)) HWY.out, HFI.out⟩
            · have hkk15 : (k15 == 0) = false := by simp [hk15]
              clear HZF15 hk15
              obtain ⟨e0, e1, e2⟩ := HCX.out _ HYN15.out
              have HSa18 := hid (HSR.out _ HYN15.out)
              go_wp2_with fail
              refine Calls.mono HSa18.out ?_
              rintro e wP ⟨rfl, bP⟩
              have HYP := hid (bt HYN15.out bP)
              have HEa := hid (HEF.out x wP HFX.out HYP.out)
              clear HSa18 bP e0 e1 e2
              go_wp2_with fail
              refine Calls.mono HEa.out ?_
              rintro e wQ ⟨nq, aq, cq, bq, dq, xq, yq, rfl, HQ1, bQ⟩
              have HYQ := hid (bt HYP.out bQ)
              have HSb := hid (HSG.out wQ nq aq cq xq bq dq yq HYQ.out HQ1.out.1 HQ1.out.2.1 HQ1.out.2.2)
              clear HEa bQ
              go_wp2_with fail
              refine Calls.mono HSb.out ?_
              rintro e wR ⟨S1, rfl, HS1, hs1, bR⟩
              have HFI := hid (bt HBW.out (bt HYQ.out bR))
              have HP2 : Hid (S0 * S1 ≤ 1) := by
                show _ ≤ _
                obtain ⟨u1, u2⟩ := hrs
                obtain ⟨u3, u4⟩ := hs1
                have c0 : S0 = -1 ∨ S0 = 0 ∨ S0 = 1 := by omega
                rcases c0 with h | h | h <;> subst h <;> omega
              have HWY := hid (wrap_yes _ HS1.out HP2.out)
              clear HSb bR HS1 HP2
              go_wp2_with fail
              go_ret
              exact ⟨congrArg (fun z => Ending.returned (.bool z)) HWY.out, HFI.out⟩
          · subst his
            obtain ⟨ko, qo⟩ := hio rfl
            have HNn14 := hid (HNE.out V14 no ao co xo bo do' yo _ HYO14.out (so1.later bV) (so2.later bV) ko qo HBb14.out)
            clear HAb14 HBb14 so1 so2 hio bO bV hBV ko qo
            go_wp2_with fail
            refine Calls.mono HNn14.out ?_
            rintro e wM14 ⟨rfl, bM⟩
            have HYM14 := hid (bt HYO14.out bM)
            clear HNn14 bM v0 v1 v2 g0 g1 g2 m0 m1 m2 y0 y1 y2 hV14
            have HNa19 := hid (fun V => HNX.out (fneg x) V HFNG.out.1)
            go_wp2_with fail
            refine Calls.mono (HNa19.out _) ?_
            rintro e wN19 ⟨z19, k19, rfl, HZF19, bN19⟩
            have HYN19 := hid (bt HYM14.out bN19)
            clear HNa19 bN19
            by_cases hk19 : k19 = 0
            · have hzf19 := (fneg_fi (HZF19.out hk19)).1
              have HAb19 := hid (HAZ.out (fneg z19) wN19 hzf19 HYN19.out)
              have HBb19 := hid (HBQ.out (fneg z19) hzf19)
              obtain ⟨e0, e1, e2⟩ := HCX.out _ HYN19.out
              subst hk19
              clear HZF19
              go_wp2_with fail
              refine Calls.mono HAb19.out ?_
              rintro e wO19 ⟨no, ao, co, bo, do', xo, yo, is, rfl, so1, so2, hio, bO⟩
              obtain ⟨V19, hV19⟩ : ∃ V, wO19.alloc (.cells #[.bool no, .slice ao xo.length co, .slice bo yo.length do'] 24) = V := ⟨_, rfl⟩
              have bV : Below wO19.heap.size wO19 V19 := by rw [← hV19]; exact alloc_later _ _
              have hBV : Box V19 wO19.heap.size 24 #[.bool no, .slice ao xo.length co, .slice bo yo.length do'] := by rw [← hV19]; exact Box.made wO19 _ _
              have HYO19 := hid (bt HYN19.out (bt bO bV))
              have v0 : V19.cell? ⟨wO19.heap.size, 0, none⟩ = some (.bool no) := hBV.cell 0
              have v1 : V19.cell? ⟨wO19.heap.size, 1, none⟩ = some (.slice ao xo.length co) := hBV.cell 1
              have v2 : V19.cell? ⟨wO19.heap.size, 2, none⟩ = some (.slice bo yo.length do') := hBV.cell 2
              have g0 := hBV.free 0
              have g1 := hBV.free 1
              have g2 := hBV.free 2
              have m0 : V19.setCell ⟨wO19.heap.size, 0, none⟩ (.bool no) = V19 := hBV.same rfl
              have m1 : V19.setCell ⟨wO19.heap.size, 1, none⟩ (.slice ao xo.length co) = V19 := hBV.same rfl
              have m2 : V19.setCell ⟨wO19.heap.size, 2, none⟩ (.slice bo yo.length do') = V19 := hBV.same rfl
              obtain ⟨y0, y1, y2⟩ := HCY.out _ HYO19.out
              clear e0 e1 e2
              cases his : is
              · subst his
                clear HAb19 HBb19 so1 so2 hio bO bV hBV
                obtain ⟨e0, e1, e2⟩ := HCX.out _ HYO19.out
                have HSa20 := hid (HSR.out _ HYO19.out)
                go_wp2_with fail
                refine Calls.mono HSa20.out ?_
                rintro e wP ⟨rfl, bP⟩
                have HYP := hid (bt HYO19.out bP)
                have HEa := hid (HEF.out x wP HFX.out HYP.out)
                clear HSa20 bP e0 e1 e2
                go_wp2_with fail
                refine Calls.mono HEa.out ?_
                rintro e wQ ⟨nq, aq, cq, bq, dq, xq, yq, rfl, HQ1, bQ⟩
                have HYQ := hid (bt HYP.out bQ)
                have HSb := hid (HSG.out wQ nq aq cq xq bq dq yq HYQ.out HQ1.out.1 HQ1.out.2.1 HQ1.out.2.2)
                clear HEa bQ
                go_wp2_with fail
                refine Calls.mono HSb.out ?_
                rintro e wR ⟨S1, rfl, HS1, hs1, bR⟩
                have HFI := hid (bt HBW.out (bt HYQ.out bR))
                have HP2 : Hid (S0 * S1 ≤ 1) := by
                  show _ ≤ _
                  obtain ⟨u1, u2⟩ := hrs
                  obtain ⟨u3, u4⟩ := hs1
                  have c0 : S0 = -1 ∨ S0 = 0 ∨ S0 = 1 := by omega
                  rcases c0 with h | h | h <;> subst h <;> omega
                have HWY := hid (wrap_yes _ HS1.out HP2.out)
                clear HSb bR HS1 HP2
                go_wp2_with fail
                go_ret
                exact ⟨congrArg (fun z => Ending.returned (.bool z)) HWY.out, HFI.out⟩
              · subst his
                obtain ⟨ko, qo⟩ := hio rfl
                have HNn19 := hid (HNE.out V19 no ao co xo bo do' yo _ HYO19.out (so1.later bV) (so2.later bV) ko qo HBb19.out)
                clear HAb19 HBb19 so1 so2 hio bO bV hBV ko qo
                go_wp2_with fail
                refine Calls.mono HNn19.out ?_
                rintro e wM19 ⟨rfl, bM⟩
                have HYM19 := hid (bt HYO19.out bM)
                clear HNn19 bM v0 v1 v2 g0 g1 g2 m0 m1 m2 y0 y1 y2 hV19
                obtain ⟨e0, e1, e2⟩ := HCX.out _ HYM19.out
                have HSa21 := hid (HSR.out _ HYM19.out)
                go_wp2_with fail
                refine Calls.mono HSa21.out ?_
                rintro e wP ⟨rfl, bP⟩
                have HYP := hid (bt HYM19.out bP)
                have HEa := hid (HEF.out x wP HFX.out HYP.out)
                clear HSa21 bP e0 e1 e2
                go_wp2_with fail
                refine Calls.mono HEa.out ?_
                rintro e wQ ⟨nq, aq, cq, bq, dq, xq, yq, rfl, HQ1, bQ⟩
                have HYQ := hid (bt HYP.out bQ)
                have HSb := hid (HSG.out wQ nq aq cq xq bq dq yq HYQ.out HQ1.out.1 HQ1.out.2.1 HQ1.out.2.2)
                clear HEa bQ
                go_wp2_with fail
                refine Calls.mono HSb.out ?_
                rintro e wR ⟨S1, rfl, HS1, hs1, bR⟩
                have HFI := hid (bt HBW.out (bt HYQ.out bR))
                have HP2 : Hid (S0 * S1 ≤ 1) := by
                  show _ ≤ _
                  obtain ⟨u1, u2⟩ := hrs
                  obtain ⟨u3, u4⟩ := hs1
                  have c0 : S0 = -1 ∨ S0 = 0 ∨ S0 = 1 := by omega
                  rcases c0 with h | h | h <;> subst h <;> omega
                have HWY := hid (wrap_yes _ HS1.out HP2.out)
                clear HSb bR HS1 HP2
                go_wp2_with fail
                go_ret
                exact ⟨congrArg (fun z => Ending.returned (.bool z)) HWY.out, HFI.out⟩
            · have hkk19 : (k19 == 0) = false := by simp [hk19]
              clear HZF19 hk19
              obtain ⟨e0, e1, e2⟩ := HCX.out _ HYN19.out
              have HSa22 := hid (HSR.out _ HYN19.out)
              go_wp2_with fail
              refine Calls.mono HSa22.out ?_
              rintro e wP ⟨rfl, bP⟩
              have HYP := hid (bt HYN19.out bP)
              have HEa := hid (HEF.out x wP HFX.out HYP.out)
              clear HSa22 bP e0 e1 e2
              go_wp2_with fail
              refine Calls.mono HEa.out ?_
              rintro e wQ ⟨nq, aq, cq, bq, dq, xq, yq, rfl, HQ1, bQ⟩
              have HYQ := hid (bt HYP.out bQ)
              have HSb := hid (HSG.out wQ nq aq cq xq bq dq yq HYQ.out HQ1.out.1 HQ1.out.2.1 HQ1.out.2.2)
              clear HEa bQ
              go_wp2_with fail
              refine Calls.mono HSb.out ?_
              rintro e wR ⟨S1, rfl, HS1, hs1, bR⟩
              have HFI := hid (bt HBW.out (bt HYQ.out bR))
              have HP2 : Hid (S0 * S1 ≤ 1) := by
                show _ ≤ _
                obtain ⟨u1, u2⟩ := hrs
                obtain ⟨u3, u4⟩ := hs1
                have c0 : S0 = -1 ∨ S0 = 0 ∨ S0 = 1 := by omega
                rcases c0 with h | h | h <;> subst h <;> omega
              have HWY := hid (wrap_yes _ HS1.out HP2.out)
              clear HSb bR HS1 HP2
              go_wp2_with fail
              go_ret
              exact ⟨congrArg (fun z => Ending.returned (.bool z)) HWY.out, HFI.out⟩
        · have hkk14 : (k14 == 0) = false := by simp [hk14]
          clear HZF14 hk14
          have HNa23 := hid (fun V => HNX.out (fneg x) V HFNG.out.1)
          go_wp2_with fail
          refine Calls.mono (HNa23.out _) ?_
          rintro e wN23 ⟨z23, k23, rfl, HZF23, bN23⟩
          have HYN23 := hid (bt HYN14.out bN23)
          clear HNa23 bN23
          by_cases hk23 : k23 = 0
          · have hzf23 := (fneg_fi (HZF23.out hk23)).1
            have HAb23 := hid (HAZ.out (fneg z23) wN23 hzf23 HYN23.out)
            have HBb23 := hid (HBQ.out (fneg z23) hzf23)
            obtain ⟨e0, e1, e2⟩ := HCX.out _ HYN23.out
            subst hk23
            clear HZF23
            go_wp2_with fail
            refine Calls.mono HAb23.out ?_
            rintro e wO23 ⟨no, ao, co, bo, do', xo, yo, is, rfl, so1, so2, hio, bO⟩
            obtain ⟨V23, hV23⟩ : ∃ V, wO23.alloc (.cells #[.bool no, .slice ao xo.length co, .slice bo yo.length do'] 24) = V := ⟨_, rfl⟩
            have bV : Below wO23.heap.size wO23 V23 := by rw [← hV23]; exact alloc_later _ _
            have hBV : Box V23 wO23.heap.size 24 #[.bool no, .slice ao xo.length co, .slice bo yo.length do'] := by rw [← hV23]; exact Box.made wO23 _ _
            have HYO23 := hid (bt HYN23.out (bt bO bV))
            have v0 : V23.cell? ⟨wO23.heap.size, 0, none⟩ = some (.bool no) := hBV.cell 0
            have v1 : V23.cell? ⟨wO23.heap.size, 1, none⟩ = some (.slice ao xo.length co) := hBV.cell 1
            have v2 : V23.cell? ⟨wO23.heap.size, 2, none⟩ = some (.slice bo yo.length do') := hBV.cell 2
            have g0 := hBV.free 0
            have g1 := hBV.free 1
            have g2 := hBV.free 2
            have m0 : V23.setCell ⟨wO23.heap.size, 0, none⟩ (.bool no) = V23 := hBV.same rfl
            have m1 : V23.setCell ⟨wO23.heap.size, 1, none⟩ (.slice ao xo.length co) = V23 := hBV.same rfl
            have m2 : V23.setCell ⟨wO23.heap.size, 2, none⟩ (.slice bo yo.length do') = V23 := hBV.same rfl
            obtain ⟨y0, y1, y2⟩ := HCY.out _ HYO23.out
            clear e0 e1 e2
            cases his : is
            · subst his
              clear HAb23 HBb23 so1 so2 hio bO bV hBV
              obtain ⟨e0, e1, e2⟩ := HCX.out _ HYO23.out
              have HSa24 := hid (HSR.out _ HYO23.out)
              go_wp2_with fail
              refine Calls.mono HSa24.out ?_
              rintro e wP ⟨rfl, bP⟩
              have HYP := hid (bt HYO23.out bP)
              have HEa := hid (HEF.out x wP HFX.out HYP.out)
              clear HSa24 bP e0 e1 e2
              go_wp2_with fail
              refine Calls.mono HEa.out ?_
              rintro e wQ ⟨nq, aq, cq, bq, dq, xq, yq, rfl, HQ1, bQ⟩
              have HYQ := hid (bt HYP.out bQ)
              have HSb := hid (HSG.out wQ nq aq cq xq bq dq yq HYQ.out HQ1.out.1 HQ1.out.2.1 HQ1.out.2.2)
              clear HEa bQ
              go_wp2_with fail
              refine Calls.mono HSb.out ?_
              rintro e wR ⟨S1, rfl, HS1, hs1, bR⟩
              have HFI := hid (bt HBW.out (bt HYQ.out bR))
              have HP2 : Hid (S0 * S1 ≤ 1) := by
                show _ ≤ _
                obtain ⟨u1, u2⟩ := hrs
                obtain ⟨u3, u4⟩ := hs1
                have c0 : S0 = -1 ∨ S0 = 0 ∨ S0 = 1 := by omega
                rcases c0 with h | h | h <;> subst h <;> omega
              have HWY := hid (wrap_yes _ HS1.out HP2.out)
              clear HSb bR HS1 HP2
              go_wp2_with fail
              go_ret
              exact ⟨congrArg (fun z => Ending.returned (.bool z)) HWY.out, HFI.out⟩
            · subst his
              obtain ⟨ko, qo⟩ := hio rfl
              have HNn23 := hid (HNE.out V23 no ao co xo bo do' yo _ HYO23.out (so1.later bV) (so2.later bV) ko qo HBb23.out)
              clear HAb23 HBb23 so1 so2 hio bO bV hBV ko qo
              go_wp2_with fail
              refine Calls.mono HNn23.out ?_
              rintro e wM23 ⟨rfl, bM⟩
              have HYM23 := hid (bt HYO23.out bM)
              clear HNn23 bM v0 v1 v2 g0 g1 g2 m0 m1 m2 y0 y1 y2 hV23
              obtain ⟨e0, e1, e2⟩ := HCX.out _ HYM23.out
              have HSa25 := hid (HSR.out _ HYM23.out)
              go_wp2_with fail
              refine Calls.mono HSa25.out ?_
              rintro e wP ⟨rfl, bP⟩
              have HYP := hid (bt HYM23.out bP)
              have HEa := hid (HEF.out x wP HFX.out HYP.out)
              clear HSa25 bP e0 e1 e2
              go_wp2_with fail
              refine Calls.mono HEa.out ?_
              rintro e wQ ⟨nq, aq, cq, bq, dq, xq, yq, rfl, HQ1, bQ⟩
              have HYQ := hid (bt HYP.out bQ)
              have HSb := hid (HSG.out wQ nq aq cq xq bq dq yq HYQ.out HQ1.out.1 HQ1.out.2.1 HQ1.out.2.2)
              clear HEa bQ
              go_wp2_with fail
              refine Calls.mono HSb.out ?_
              rintro e wR ⟨S1, rfl, HS1, hs1, bR⟩
              have HFI := hid (bt HBW.out (bt HYQ.out bR))
              have HP2 : Hid (S0 * S1 ≤ 1) := by
                show _ ≤ _
                obtain ⟨u1, u2⟩ := hrs
                obtain ⟨u3, u4⟩ := hs1
                have c0 : S0 = -1 ∨ S0 = 0 ∨ S0 = 1 := by omega
                rcases c0 with h | h | h <;> subst h <;> omega
              have HWY := hid (wrap_yes _ HS1.out HP2.out)
              clear HSb bR HS1 HP2
              go_wp2_with fail
              go_ret
              exact ⟨congrArg (fun z => Ending.returned (.bool z)) HWY.out, HFI.out⟩
          · have hkk23 : (k23 == 0) = false := by simp [hk23]
            clear HZF23 hk23
            obtain ⟨e0, e1, e2⟩ := HCX.out _ HYN23.out
            have HSa26 := hid (HSR.out _ HYN23.out)
            go_wp2_with fail
            refine Calls.mono HSa26.out ?_
            rintro e wP ⟨rfl, bP⟩
            have HYP := hid (bt HYN23.out bP)
            have HEa := hid (HEF.out x wP HFX.out HYP.out)
            clear HSa26 bP e0 e1 e2
            go_wp2_with fail
            refine Calls.mono HEa.out ?_
            rintro e wQ ⟨nq, aq, cq, bq, dq, xq, yq, rfl, HQ1, bQ⟩
            have HYQ := hid (bt HYP.out bQ)
            have HSb := hid (HSG.out wQ nq aq cq xq bq dq yq HYQ.out HQ1.out.1 HQ1.out.2.1 HQ1.out.2.2)
            clear HEa bQ
            go_wp2_with fail
            refine Calls.mono HSb.out ?_
            rintro e wR ⟨S1, rfl, HS1, hs1, bR⟩
            have HFI := hid (bt HBW.out (bt HYQ.out bR))
            have HP2 : Hid (S0 * S1 ≤ 1) := by
              show _ ≤ _
              obtain ⟨u1, u2⟩ := hrs
              obtain ⟨u3, u4⟩ := hs1
              have c0 : S0 = -1 ∨ S0 = 0 ∨ S0 = 1 := by omega
              rcases c0 with h | h | h <;> subst h <;> omega
            have HWY := hid (wrap_yes _ HS1.out HP2.out)
            clear HSb bR HS1 HP2
            go_wp2_with fail
            go_ret
            exact ⟨congrArg (fun z => Ending.returned (.bool z)) HWY.out, HFI.out⟩
  · have hc1 : (code == 0) = false := by simp [hc]
    have hc2 : (code != 0) = true := by simp [hc]
    have HC2 := hid (HCK.out w2 HX2.out)
    rcases HNT.out with ⟨h0, _, hcode⟩ | ⟨h0, _, _, _, _, _, _, _, hh⟩
    · rw [← hcode] at HC2
      have hself : (code == code) = true := by simp
      clear h0 hcode HNT hc HCK
      go_wp2_with fail
      refine Calls.mono HC2.out ?_
      rintro e w3 ⟨rfl, b3⟩
      have HFI := hid (bt HB1.out (bt HX2.out b3))
      clear HC2 b3 e0 e1 e2
      go_wp2_with fail
      go_ret
      exact ⟨rfl, HFI.out⟩
    · have h9 : code = 9 := by
        rcases hh with ⟨_, _, h⟩ | ⟨_, h, _⟩
        · exact h
        · exact absurd h hc
      subst h9
      rw [h0] at HC2
      have HC3 : Hid (∀ V, Below X.heap.size X V → Calls Tryz.prog 6 #[.agg #[.bool n, .slice a xs.length ca, .slice b ys.length cb]] V fun e w' => e = .returned (.int .i64 0) ∧ Below V.heap.size V w') := fun V hv => by
        have h := HCK.out V hv
        rw [h0] at h
        exact h
      clear h0 hh HNT hc HCK hc1 hc2
      go_wp2_with fail
      refine Calls.mono HC2.out ?_
      rintro e w3 ⟨rfl, b3⟩
      have HX3 := hid (bt HX2.out b3)
      have HC4 := hid (HC3.out w3 HX3.out)
      clear HC2 HC3 b3 e0 e1 e2
      obtain ⟨e0, e1, e2⟩ := HCL.out w3 HX3.out
      go_wp2_with fail
      refine Calls.mono HC4.out ?_
      rintro e w4 ⟨rfl, b4⟩
      have HFI := hid (bt HB1.out (bt HX3.out b4))
      clear HC4 b4 e0 e1 e2
      go_wp2_with fail
      go_ret
      exact ⟨rfl, HFI.out⟩

theorem sl_of1 {w : World} {a : Option Addr} {c : Nat} {xs : List Int} (h : Reads w w.heap.size a xs.length c xs) : Sl w (.slice a xs.length c) xs := ⟨a, c, rfl, h⟩
theorem realNearest_in (n : Bool) (a : Option Addr) (ka ca : Nat) (xs : List Int) (b : Option Addr) (kb cb : Nat) (ys : List Int) (w : World) (ha : Reads w w.heap.size a ka ca xs) (hb : Reads w w.heap.size b kb cb ys) (hT : TabB w) :
    Calls Tryz.prog 3 #[.agg #[.bool n, .slice a ka ca, .slice b kb cb]] w fun e w' => e = .returned (.bool true) ∧ Below w.heap.size w w' := by
  have ea := ha.1
  subst ea
  have eb := hb.1
  subst eb
  exact realNearest_any n a ca xs b cb ys w (sl_of1 ha) (sl_of1 hb) hT

end Go.Proofs.YtoigpodamciehaaGreatDoor

