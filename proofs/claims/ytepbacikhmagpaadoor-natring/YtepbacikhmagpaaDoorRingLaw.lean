/- The law NatRing answers true, and writes nothing that was there: whatever three lists come in, where the library's table of powers of ten stands as its text lays it. -/
import Derived.Test.YtepbacikhmagpaaDoorHelp
namespace Go.Proofs.YtepbacikhmagpaaDoor
open Go.RowKit
set_option linter.unusedVariables false

theorem cmpI_add (x y z : Int) : cmpI (x + z) (y + z) = cmpI x y := by
  unfold cmpI
  by_cases h : x < y
  · rw [if_pos h, if_pos (by omega)]
  · rw [if_neg h, if_neg (by omega)]
    by_cases g : y < x
    · rw [if_pos g, if_pos (by omega)]
    · rw [if_neg g, if_neg (by omega)]
theorem cmpI_neg (x y : Int) : cmpI y x = -cmpI x y := by
  rcases Int.lt_trichotomy x y with h | h | h
  · rw [cmpI_lt h, cmpI_gt h]; rfl
  · rw [cmpI_eq h, cmpI_eq h.symm]; rfl
  · rw [cmpI_gt h, cmpI_lt h]
theorem same_cmp {xs ys : List Int} (hx : Wd xs) (hy : Wd ys) (tx : Trimmed xs) (ty : Trimmed ys) : decide (xs = ys) = (cmpI (val xs) (val ys) == 0) := by
  by_cases h : val xs = val ys
  · rw [decide_eq_true (trimmed_eq hx hy tx ty h), cmpI_eq h]; rfl
  · rw [decide_eq_false (fun e => h (by rw [e]))]
    rcases Int.lt_or_gt_of_ne h with g | g
    · rw [cmpI_lt g]; rfl
    · rw [cmpI_gt g]; rfl
theorem sub_code {xs ys zs : List Int} {c : Int} (hx : Wd xs) (hy : Wd ys) (tx : Trimmed xs) (lx : xs.length ≤ 8192) (h : Tells (if val xs < val ys then 2 else 0) (val xs - val ys) zs c) : (c == 0) = decide (0 ≤ cmpI (val xs) (val ys)) := by
  by_cases g : val xs < val ys
  · rw [if_pos g] at h
    rw [(h.bad (by decide)).1, cmpI_lt g]; rfl
  · rw [if_neg g] at h
    have h1 := val_lt hx
    have h2 := val_nonneg hy
    rw [(h.good rfl (lt_wide (L := xs.length) (by omega) lx)).1]
    have : 0 ≤ cmpI (val xs) (val ys) := by unfold cmpI; rw [if_neg g]; split <;> omega
    rw [decide_eq_true this]; rfl

set_option maxHeartbeats 12800000 in
set_option maxRecDepth 100000 in
theorem natRing_walk (a0 : Option Addr) (n0 cap0 : Nat) (xs : List Int) (a1 : Option Addr) (n1 cap1 : Nat) (ys : List Int) (a2 : Option Addr) (n2 cap2 : Nat) (us : List Int) (w : World)
    (h0 : Reads w w.heap.size a0 n0 cap0 xs) (h1 : Reads w w.heap.size a1 n1 cap1 ys) (h2 : Reads w w.heap.size a2 n2 cap2 us) (htab : Tab w) :
    Calls Tryd.prog 4 #[.slice a0 n0 cap0, .slice a1 n1 cap1, .slice a2 n2 cap2] w fun e w' => e = .returned (.bool true) ∧ Below w.heap.size w w' := by
  have HT := hid htab
  have H1 := hid h1
  have H2 := hid h2
  have HP := hid (put_any a0 n0 cap0 xs w h0)
  clear htab h0 h1 h2
  go_enter Tryd.func4, Tryd.ntmps4
  go_wp2_with fail
  refine Calls.mono HP.out ?_
  rintro e U1 ⟨vA, zA, rfl, sA, tA, lA, hb⟩
  go_wp2_with fail
  refine (put_any a1 n1 cap1 ys U1 (H1.out.later hb hb.size)).mono ?_
  rintro e U2 ⟨vB, zB, rfl, sB, tB, lB, hb2⟩
  replace sA := sA.later hb2
  replace hb := bt hb hb2
  clear hb2
  go_wp2_with fail
  refine (put_any a2 n2 cap2 us U2 (H2.out.later hb hb.size)).mono ?_
  rintro e U3 ⟨vC, zC, rfl, sC, tC, lC, hb2⟩
  replace sA := sA.later hb2
  replace sB := sB.later hb2
  replace hb := bt hb hb2
  clear hb2 HP H1 H2
  go_wp2_with fail
  refine (add_small _ _ zA zB 60 _ sA sB tA tB (by omega) (by omega) (by omega)).mono ?_
  rintro e W1 ⟨vs1, zs1, rfl, ss1, ts1, hvs1, ls1, hbn⟩
  have HVs1 := hid hvs1
  clear hvs1
  replace sA := sA.later hbn
  replace sB := sB.later hbn
  replace sC := sC.later hbn
  replace hb := bt hb hbn
  clear hbn
  go_wp2_with fail
  refine (add_small _ _ zB zA 60 _ sB sA tB tA (by omega) (by omega) (by omega)).mono ?_
  rintro e W2 ⟨vs2, zs2, rfl, ss2, ts2, hvs2, ls2, hbn⟩
  have HVs2 := hid hvs2
  clear hvs2
  replace sA := sA.later hbn
  replace sB := sB.later hbn
  replace sC := sC.later hbn
  replace ss1 := ss1.later hbn
  replace hb := bt hb hbn
  clear hbn
  have heq : zs1 = zs2 := trimmed_eq ss1.wd ss2.wd ts1 ts2 (by rw [HVs1.out, HVs2.out, Int.add_comm])
  have HS := hid (same_sl _ _ zs1 zs2 _ ss1 ss2 (by omega) (by omega))
  rw [decide_eq_true heq] at HS
  clear heq
  go_wp2_with fail
  refine Calls.mono HS.out ?_
  rintro e W3 ⟨rfl, hbn⟩
  replace sA := sA.later hbn
  replace sB := sB.later hbn
  replace sC := sC.later hbn
  replace ss1 := ss1.later hbn
  replace ss2 := ss2.later hbn
  replace hb := bt hb hbn
  clear hbn HS
  clear ss1 ss2
  go_wp2_with fail
  refine (add_small _ _ zA zB 60 _ sA sB tA tB (by omega) (by omega) (by omega)).mono ?_
  rintro e W4 ⟨vs3, zs3, rfl, ss3, ts3, hvs3, ls3, hbn⟩
  have HVs3 := hid hvs3
  clear hvs3
  replace sA := sA.later hbn
  replace sB := sB.later hbn
  replace sC := sC.later hbn
  replace hb := bt hb hbn
  clear hbn
  go_wp2_with fail
  refine (add_small _ _ zs3 zC 61 _ ss3 sC ts3 tC (by omega) (by omega) (by omega)).mono ?_
  rintro e W5 ⟨vs4, zs4, rfl, ss4, ts4, hvs4, ls4, hbn⟩
  have HVs4 := hid hvs4
  clear hvs4
  replace sA := sA.later hbn
  replace sB := sB.later hbn
  replace sC := sC.later hbn
  replace ss3 := ss3.later hbn
  replace hb := bt hb hbn
  clear hbn
  go_wp2_with fail
  refine (add_small _ _ zB zC 60 _ sB sC tB tC (by omega) (by omega) (by omega)).mono ?_
  rintro e W6 ⟨vs5, zs5, rfl, ss5, ts5, hvs5, ls5, hbn⟩
  have HVs5 := hid hvs5
  clear hvs5
  replace sA := sA.later hbn
  replace sB := sB.later hbn
  replace sC := sC.later hbn
  replace ss3 := ss3.later hbn
  replace ss4 := ss4.later hbn
  replace hb := bt hb hbn
  clear hbn
  go_wp2_with fail
  refine (add_small _ _ zA zs5 61 _ sA ss5 tA ts5 (by omega) (by omega) (by omega)).mono ?_
  rintro e W7 ⟨vs6, zs6, rfl, ss6, ts6, hvs6, ls6, hbn⟩
  have HVs6 := hid hvs6
  clear hvs6
  replace sA := sA.later hbn
  replace sB := sB.later hbn
  replace sC := sC.later hbn
  replace ss3 := ss3.later hbn
  replace ss4 := ss4.later hbn
  replace ss5 := ss5.later hbn
  replace hb := bt hb hbn
  clear hbn
  have heq : zs4 = zs6 := trimmed_eq ss4.wd ss6.wd ts4 ts6 (by rw [HVs4.out, HVs6.out, HVs3.out, HVs5.out, Int.add_assoc])
  have HS := hid (same_sl _ _ zs4 zs6 _ ss4 ss6 (by omega) (by omega))
  rw [decide_eq_true heq] at HS
  clear heq
  go_wp2_with fail
  refine Calls.mono HS.out ?_
  rintro e W8 ⟨rfl, hbn⟩
  replace sA := sA.later hbn
  replace sB := sB.later hbn
  replace sC := sC.later hbn
  replace ss3 := ss3.later hbn
  replace ss4 := ss4.later hbn
  replace ss5 := ss5.later hbn
  replace ss6 := ss6.later hbn
  replace hb := bt hb hbn
  clear hbn HS
  clear ss3 ss4 ss5 ss6
  go_wp2_with fail
  refine (mul_small _ _ zA zB 60 60 _ sA sB tA tB (by omega) (by omega) (by omega) (by omega)).mono ?_
  rintro e W9 ⟨vp1, zp1, rfl, sp1, tp1, hvp1, lp1, hbn⟩
  have HVp1 := hid hvp1
  clear hvp1
  replace sA := sA.later hbn
  replace sB := sB.later hbn
  replace sC := sC.later hbn
  replace hb := bt hb hbn
  clear hbn
  go_wp2_with fail
  refine (mul_small _ _ zB zA 60 60 _ sB sA tB tA (by omega) (by omega) (by omega) (by omega)).mono ?_
  rintro e W10 ⟨vp2, zp2, rfl, sp2, tp2, hvp2, lp2, hbn⟩
  have HVp2 := hid hvp2
  clear hvp2
  replace sA := sA.later hbn
  replace sB := sB.later hbn
  replace sC := sC.later hbn
  replace sp1 := sp1.later hbn
  replace hb := bt hb hbn
  clear hbn
  have heq : zp1 = zp2 := trimmed_eq sp1.wd sp2.wd tp1 tp2 (by rw [HVp1.out, HVp2.out, Int.mul_comm])
  have HS := hid (same_sl _ _ zp1 zp2 _ sp1 sp2 (by omega) (by omega))
  rw [decide_eq_true heq] at HS
  clear heq
  go_wp2_with fail
  refine Calls.mono HS.out ?_
  rintro e W11 ⟨rfl, hbn⟩
  replace sA := sA.later hbn
  replace sB := sB.later hbn
  replace sC := sC.later hbn
  replace sp1 := sp1.later hbn
  replace sp2 := sp2.later hbn
  replace hb := bt hb hbn
  clear hbn HS
  clear sp1 sp2
  go_wp2_with fail
  refine (mul_small _ _ zA zB 60 60 _ sA sB tA tB (by omega) (by omega) (by omega) (by omega)).mono ?_
  rintro e W12 ⟨vp3, zp3, rfl, sp3, tp3, hvp3, lp3, hbn⟩
  have HVp3 := hid hvp3
  clear hvp3
  replace sA := sA.later hbn
  replace sB := sB.later hbn
  replace sC := sC.later hbn
  replace hb := bt hb hbn
  clear hbn
  go_wp2_with fail
  refine (mul_small _ _ zp3 zC 120 60 _ sp3 sC tp3 tC (by omega) (by omega) (by omega) (by omega)).mono ?_
  rintro e W13 ⟨vp4, zp4, rfl, sp4, tp4, hvp4, lp4, hbn⟩
  have HVp4 := hid hvp4
  clear hvp4
  replace sA := sA.later hbn
  replace sB := sB.later hbn
  replace sC := sC.later hbn
  replace sp3 := sp3.later hbn
  replace hb := bt hb hbn
  clear hbn
  go_wp2_with fail
  refine (mul_small _ _ zB zC 60 60 _ sB sC tB tC (by omega) (by omega) (by omega) (by omega)).mono ?_
  rintro e W14 ⟨vp5, zp5, rfl, sp5, tp5, hvp5, lp5, hbn⟩
  have HVp5 := hid hvp5
  clear hvp5
  replace sA := sA.later hbn
  replace sB := sB.later hbn
  replace sC := sC.later hbn
  replace sp3 := sp3.later hbn
  replace sp4 := sp4.later hbn
  replace hb := bt hb hbn
  clear hbn
  go_wp2_with fail
  refine (mul_small _ _ zA zp5 60 120 _ sA sp5 tA tp5 (by omega) (by omega) (by omega) (by omega)).mono ?_
  rintro e W15 ⟨vp6, zp6, rfl, sp6, tp6, hvp6, lp6, hbn⟩
  have HVp6 := hid hvp6
  clear hvp6
  replace sA := sA.later hbn
  replace sB := sB.later hbn
  replace sC := sC.later hbn
  replace sp3 := sp3.later hbn
  replace sp4 := sp4.later hbn
  replace sp5 := sp5.later hbn
  replace hb := bt hb hbn
  clear hbn
  have heq : zp4 = zp6 := trimmed_eq sp4.wd sp6.wd tp4 tp6 (by rw [HVp4.out, HVp6.out, HVp3.out, HVp5.out, Int.mul_assoc])
  have HS := hid (same_sl _ _ zp4 zp6 _ sp4 sp6 (by omega) (by omega))
  rw [decide_eq_true heq] at HS
  clear heq
  go_wp2_with fail
  refine Calls.mono HS.out ?_
  rintro e W16 ⟨rfl, hbn⟩
  replace sA := sA.later hbn
  replace sB := sB.later hbn
  replace sC := sC.later hbn
  replace sp3 := sp3.later hbn
  replace sp4 := sp4.later hbn
  replace sp5 := sp5.later hbn
  replace sp6 := sp6.later hbn
  replace hb := bt hb hbn
  clear hbn HS
  clear sp3 sp4 sp5 sp6
  go_wp2_with fail
  refine (add_small _ _ zB zC 60 _ sB sC tB tC (by omega) (by omega) (by omega)).mono ?_
  rintro e W17 ⟨vq1, zq1, rfl, sq1, tq1, hvq1, lq1, hbn⟩
  have HVq1 := hid hvq1
  clear hvq1
  replace sA := sA.later hbn
  replace sB := sB.later hbn
  replace sC := sC.later hbn
  replace hb := bt hb hbn
  clear hbn
  go_wp2_with fail
  refine (mul_small _ _ zA zq1 60 61 _ sA sq1 tA tq1 (by omega) (by omega) (by omega) (by omega)).mono ?_
  rintro e W18 ⟨vq2, zq2, rfl, sq2, tq2, hvq2, lq2, hbn⟩
  have HVq2 := hid hvq2
  clear hvq2
  replace sA := sA.later hbn
  replace sB := sB.later hbn
  replace sC := sC.later hbn
  replace sq1 := sq1.later hbn
  replace hb := bt hb hbn
  clear hbn
  go_wp2_with fail
  refine (mul_small _ _ zA zB 60 60 _ sA sB tA tB (by omega) (by omega) (by omega) (by omega)).mono ?_
  rintro e W19 ⟨vq3, zq3, rfl, sq3, tq3, hvq3, lq3, hbn⟩
  have HVq3 := hid hvq3
  clear hvq3
  replace sA := sA.later hbn
  replace sB := sB.later hbn
  replace sC := sC.later hbn
  replace sq1 := sq1.later hbn
  replace sq2 := sq2.later hbn
  replace hb := bt hb hbn
  clear hbn
  go_wp2_with fail
  refine (mul_small _ _ zA zC 60 60 _ sA sC tA tC (by omega) (by omega) (by omega) (by omega)).mono ?_
  rintro e W20 ⟨vq4, zq4, rfl, sq4, tq4, hvq4, lq4, hbn⟩
  have HVq4 := hid hvq4
  clear hvq4
  replace sA := sA.later hbn
  replace sB := sB.later hbn
  replace sC := sC.later hbn
  replace sq1 := sq1.later hbn
  replace sq2 := sq2.later hbn
  replace sq3 := sq3.later hbn
  replace hb := bt hb hbn
  clear hbn
  go_wp2_with fail
  refine (add_small _ _ zq3 zq4 120 _ sq3 sq4 tq3 tq4 (by omega) (by omega) (by omega)).mono ?_
  rintro e W21 ⟨vq5, zq5, rfl, sq5, tq5, hvq5, lq5, hbn⟩
  have HVq5 := hid hvq5
  clear hvq5
  replace sA := sA.later hbn
  replace sB := sB.later hbn
  replace sC := sC.later hbn
  replace sq1 := sq1.later hbn
  replace sq2 := sq2.later hbn
  replace sq3 := sq3.later hbn
  replace sq4 := sq4.later hbn
  replace hb := bt hb hbn
  clear hbn
  have heq : zq2 = zq5 := trimmed_eq sq2.wd sq5.wd tq2 tq5 (by rw [HVq2.out, HVq5.out, HVq1.out, HVq3.out, HVq4.out, Int.mul_add])
  have HS := hid (same_sl _ _ zq2 zq5 _ sq2 sq5 (by omega) (by omega))
  rw [decide_eq_true heq] at HS
  clear heq
  go_wp2_with fail
  refine Calls.mono HS.out ?_
  rintro e W22 ⟨rfl, hbn⟩
  replace sA := sA.later hbn
  replace sB := sB.later hbn
  replace sC := sC.later hbn
  replace sq1 := sq1.later hbn
  replace sq2 := sq2.later hbn
  replace sq3 := sq3.later hbn
  replace sq4 := sq4.later hbn
  replace sq5 := sq5.later hbn
  replace hb := bt hb hbn
  clear hbn HS
  clear sq1 sq2 sq3 sq4 sq5
  go_wp2_with fail
  refine (add_small _ _ zA zB 60 _ sA sB tA tB (by omega) (by omega) (by omega)).mono ?_
  rintro e W23 ⟨vd0, zd0, rfl, sd0, td0, hvd0, ld0, hbn⟩
  have HVd0 := hid hvd0
  clear hvd0
  replace sA := sA.later hbn
  replace sB := sB.later hbn
  replace sC := sC.later hbn
  replace hb := bt hb hbn
  clear hbn
  have e1 := both_good (chk_good (xs := zd0) (by omega) td0) (chk_good (xs := zB) (by omega) tB)
  have e2 : ¬ val zd0 < val zB := by have := HVd0.out; have := val_nonneg sA.wd; omega
  have HS := hid (sub_sl _ _ zd0 zB _ sd0 sB (by omega) (by omega))
  rw [if_pos e1, if_neg e2] at HS
  clear e1 e2
  go_wp2_with fail
  refine Calls.mono HS.out ?_
  rintro e W24 ⟨vD, zD, cD, rfl, oD, tD, hbn⟩
  have h60 : val zA < 4294967296 ^ 60 := by have h1 := val_lt sA.wd; have h2 : (4294967296 : Int) ^ zA.length ≤ 4294967296 ^ 60 := pw_le (by omega); omega
  have hdv : val zd0 - val zB = val zA := by have := HVd0.out; omega
  rw [hdv] at tD
  obtain ⟨rfl, hvD⟩ := tD.good rfl (lt_wide h60 (by omega))
  have hzD : zD = zA := trimmed_eq tD.wd sA.wd tD.trim tA hvD
  subst hzD
  have sD := Sl.own oD tD.wd
  replace sA := sA.later hbn
  replace sB := sB.later hbn
  replace sC := sC.later hbn
  replace sd0 := sd0.later hbn
  replace hb := bt hb hbn
  clear hbn HS h60 hdv hvD oD tD
  clear sd0
  obtain ⟨c1, hc1⟩ : ∃ c1, c1 = cmpI (val zD) (val zB) := ⟨_, rfl⟩
  have bc : -1 ≤ c1 ∧ c1 ≤ 1 := by rw [hc1]; unfold cmpI; split <;> (try split) <;> omega
  have HC1 := hid hc1
  clear hc1
  have HS := hid (compare_sl _ _ zD zB _ sA sB (by omega) (by omega))
  rw [← HC1.out] at HS
  go_wp2_with fail
  refine Calls.mono HS.out ?_
  rintro e W25 ⟨rfl, hbn⟩
  replace sA := sA.later hbn
  replace sB := sB.later hbn
  replace sC := sC.later hbn
  replace sD := sD.later hbn
  replace hb := bt hb hbn
  clear hbn HS
  go_wp2_with fail
  refine (add_small _ _ zD zC 60 _ sA sC tA tC (by omega) (by omega) (by omega)).mono ?_
  rintro e W26 ⟨vx1, zx1, rfl, sx1, tx1, hvx1, lx1, hbn⟩
  have HVx1 := hid hvx1
  clear hvx1
  replace sA := sA.later hbn
  replace sB := sB.later hbn
  replace sC := sC.later hbn
  replace sD := sD.later hbn
  replace hb := bt hb hbn
  clear hbn
  go_wp2_with fail
  refine (add_small _ _ zB zC 60 _ sB sC tB tC (by omega) (by omega) (by omega)).mono ?_
  rintro e W27 ⟨vx2, zx2, rfl, sx2, tx2, hvx2, lx2, hbn⟩
  have HVx2 := hid hvx2
  clear hvx2
  replace sA := sA.later hbn
  replace sB := sB.later hbn
  replace sC := sC.later hbn
  replace sD := sD.later hbn
  replace sx1 := sx1.later hbn
  replace hb := bt hb hbn
  clear hbn
  have HS := hid (compare_sl _ _ zx1 zx2 _ sx1 sx2 (by omega) (by omega))
  rw [HVx1.out, HVx2.out, cmpI_add, ← HC1.out] at HS
  go_wp2_with fail
  refine Calls.mono HS.out ?_
  rintro e W28 ⟨rfl, hbn⟩
  replace sA := sA.later hbn
  replace sB := sB.later hbn
  replace sC := sC.later hbn
  replace sD := sD.later hbn
  replace sx1 := sx1.later hbn
  replace sx2 := sx2.later hbn
  replace hb := bt hb hbn
  clear hbn HS
  clear sx1 sx2
  have HS := hid (compare_sl _ _ zD zB _ sA sB (by omega) (by omega))
  rw [← HC1.out] at HS
  go_wp2_with fail
  refine Calls.mono HS.out ?_
  rintro e W29 ⟨rfl, hbn⟩
  replace sA := sA.later hbn
  replace sB := sB.later hbn
  replace sC := sC.later hbn
  replace sD := sD.later hbn
  replace hb := bt hb hbn
  clear hbn HS
  have HS := hid (compare_sl _ _ zB zD _ sB sA (by omega) (by omega))
  rw [cmpI_neg, ← HC1.out] at HS
  go_wp2_with fail
  refine Calls.mono HS.out ?_
  rintro e W30 ⟨rfl, hbn⟩
  replace sA := sA.later hbn
  replace sB := sB.later hbn
  replace sC := sC.later hbn
  replace sD := sD.later hbn
  replace hb := bt hb hbn
  clear hbn HS
  have HS := hid (compare_sl _ _ zD zB _ sA sB (by omega) (by omega))
  rw [← HC1.out] at HS
  go_wp2_with fail
  refine Calls.mono HS.out ?_
  rintro e W31 ⟨rfl, hbn⟩
  replace sA := sA.later hbn
  replace sB := sB.later hbn
  replace sC := sC.later hbn
  replace sD := sD.later hbn
  replace hb := bt hb hbn
  clear hbn HS
  have hsb : decide (zD = zB) = (c1 == 0) := by rw [HC1.out]; exact same_cmp sA.wd sB.wd tA tB
  have HS := hid (same_sl _ _ zD zB _ sA sB (by omega) (by omega))
  rw [hsb] at HS
  clear hsb
  go_wp2_with fail
  refine Calls.mono HS.out ?_
  rintro e W32 ⟨rfl, hbn⟩
  replace sA := sA.later hbn
  replace sB := sB.later hbn
  replace sC := sC.later hbn
  replace sD := sD.later hbn
  replace hb := bt hb hbn
  clear hbn HS
  have e1 := both_good (chk_good (xs := zD) (by omega) tA) (chk_good (xs := zB) (by omega) tB)
  have HS := hid (sub_sl _ _ zD zB _ sA sB (by omega) (by omega))
  rw [if_pos e1] at HS
  clear e1
  go_wp2_with fail
  refine Calls.mono HS.out ?_
  rintro e W33 ⟨vF, zF, cF, rfl, oF, tF, hbn⟩
  have hcF : (cF == 0) = decide (0 ≤ c1) := by rw [HC1.out]; exact sub_code sA.wd sB.wd tA (by omega) tF
  have HCF := hid hcF
  replace sA := sA.later hbn
  replace sB := sB.later hbn
  replace sC := sC.later hbn
  replace sD := sD.later hbn
  replace hb := bt hb hbn
  clear hbn HS oF tF hcF
  go_wp2_with fail
  refine (awake_any _ (HT.out.later hb)).mono ?_
  rintro e W34 ⟨rfl, hbn⟩
  replace sA := sA.later hbn
  replace sB := sB.later hbn
  replace sC := sC.later hbn
  replace sD := sD.later hbn
  replace hb := bt hb hbn
  clear hbn
  have HS := hid (same_sl _ _ zD zD _ sD sA (by omega) (by omega))
  rw [decide_eq_true (rfl : zD = zD)] at HS
  go_wp2_with fail
  refine Calls.mono HS.out ?_
  rintro e W35 ⟨rfl, hbn⟩
  replace sA := sA.later hbn
  replace sB := sB.later hbn
  replace sC := sC.later hbn
  replace sD := sD.later hbn
  replace hb := bt hb hbn
  clear hbn HS
  have HS := hid (compare_sl _ _ zD zB _ sA sB (by omega) (by omega))
  rw [← HC1.out] at HS
  go_wp2_with fail
  refine Calls.mono HS.out ?_
  rintro e W36 ⟨rfl, hbn⟩
  replace sA := sA.later hbn
  replace sB := sB.later hbn
  replace sC := sC.later hbn
  replace sD := sD.later hbn
  replace hb := bt hb hbn
  clear hbn HS
  have hcF := HCF.out
  go_wp2_with fail
  go_ret
  exact ⟨rfl, hb⟩
end Go.Proofs.YtepbacikhmagpaaDoor
