/- The law NatDivides answers true, and writes nothing that was there: whatever lists come in, where the library's table of powers of ten stands as its text lays it. -/
import Derived.Test.YtbcangblmadnpaaDoorDividesA
namespace Go.Proofs.YtbcangblmadnpaaDoor
open Go.RowKit
set_option linter.unusedVariables false

set_option maxHeartbeats 12800000 in
set_option maxRecDepth 100000 in
theorem natDivides_walk (a0 : Option Addr) (n0 cap0 : Nat) (xs : List Int) (a1 : Option Addr) (n1 cap1 : Nat) (ys : List Int) (a2 : Option Addr) (n2 cap2 : Nat) (zs : List Int) (w : World)
    (h0 : Reads w w.heap.size a0 n0 cap0 xs) (h1 : Reads w w.heap.size a1 n1 cap1 ys) (h2 : Reads w w.heap.size a2 n2 cap2 zs) (htab : Tab w) :
    Calls Tryd.prog 5 #[.slice a0 n0 cap0, .slice a1 n1 cap1, .slice a2 n2 cap2] w fun e w' => e = .returned (.bool true) ∧ Below w.heap.size w w' := by
  have H0 := hid h0
  have H1 := hid h1
  have H2 := hid h2
  have HA := hid (awake_any w htab)
  have w1' : Wd [1] := Wd.one (by omega)
  have t1' : Trimmed [1] := rfl
  clear htab h0 h1 h2
  go_enter Tryd.func5, Tryd.ntmps5
  go_wp2_with fail
  refine Calls.mono HA.out ?_
  rintro e U0 ⟨rfl, hb⟩
  go_wp2_with fail
  refine (put_any a0 n0 cap0 xs U0 (H0.out.later hb hb.size)).mono ?_
  rintro e U1 ⟨vA, zA, rfl, sA, tA, lA, hb2⟩
  replace hb := bt hb hb2
  clear hb2 H0 HA
  go_wp2_with fail
  refine (put_any a1 n1 cap1 ys U1 (H1.out.later hb hb.size)).mono ?_
  rintro e U2 ⟨vB, zB, rfl, sB, tB, lB, hb2⟩
  replace sA := sA.later hb2
  replace hb := bt hb hb2
  clear hb2 H1
  go_wp2_with fail
  refine (put_any a2 n2 cap2 zs U2 (H2.out.later hb hb.size)).mono ?_
  rintro e U3 ⟨vC, zC, rfl, sC, tC, lC, hb2⟩
  replace sA := sA.later hb2
  replace sB := sB.later hb2
  replace hb := bt hb hb2
  clear hb2 H2
  have wA := sA.wd
  have wB := sB.wd
  have wC := sC.wd
  have HA0 := hid (And.intro (val_nonneg wA) (lt60 wA lA))
  have HB0 := hid (And.intro (val_nonneg wB) (lt60 wB lB))
  have HC0 := hid (And.intro (val_nonneg wC) (lt60 wC lC))
  obtain ⟨aA, cA, hvA, _⟩ := sA
  subst hvA
  have sA : Sl U3 (.slice aA zA.length cA) zA := ⟨aA, cA, rfl, by assumption⟩
  obtain ⟨aB, cB, hvB, _⟩ := sB
  subst hvB
  have sB : Sl U3 (.slice aB zB.length cB) zB := ⟨aB, cB, rfl, by assumption⟩
  by_cases hB : zB.length = 0
  · by_cases hA : zA.length = 0
    · obtain rfl : zA = [] := List.eq_nil_of_length_eq_zero hA
      clear hA
      obtain rfl : zB = [] := List.eq_nil_of_length_eq_zero hB
      clear hB
      have HH := hid (divMod_zero _ _ [] U3 sA sB (by first | omega | simp) tA)
      go_wp2_with fail
      refine Calls.mono HH.out ?_
      rintro e U4 ⟨rfl, hb2⟩
      replace sA := sA.later hb2
      replace sB := sB.later hb2
      replace sC := sC.later hb2
      replace hb := bt hb hb2
      clear hb2
      clear HH
      have hlt : gcdI (val []) (val []) < 4294967296 ^ 60 := by have h1 := HA0.out; have h2 := HB0.out; rcases gcdI_le h1.1 h2.1 with e | e <;> omega
      have HLT := hid hlt
      clear hlt
      have HT := gcd_sl _ _ [] [] U4 sA sB (by first | omega | simp) (by first | omega | simp)
      rw [both_good (chk_good (by first | omega | simp) tA) (chk_good (by first | omega | simp) tB)] at HT
      have HH := hid (Calls.mono HT (fun x w' h => Told.num h 60 HLT.out (by first | omega | simp)))
      clear HT
      go_wp2_with fail
      refine Calls.mono HH.out ?_
      rintro e U5 ⟨aD, cD, zD, rfl, sD, tD, hvD, lD, hb2⟩
      replace sA := sA.later hb2
      replace sB := sB.later hb2
      replace sC := sC.later hb2
      replace hb := bt hb hb2
      clear hb2
      clear HH
      have hzD : zD = [] := trimmed_eq sD.wd Wd.nil tD Trimmed.nil (by rw [hvD]; rfl)
      subst hzD
      clear hvD
      go_wp2_with fail
      go_ret
      exact ⟨rfl, hb⟩
    · have qA : ((zA.length : Int) == 0) = false := by simp; exact fun e => hA (by rw [e]; rfl)
      have pA : 0 < zA.length := by omega
      clear hA
      obtain rfl : zB = [] := List.eq_nil_of_length_eq_zero hB
      clear hB
      have HH := hid (divMod_zero _ _ zA U3 sA sB (by first | omega | simp) tA)
      go_wp2_with fail
      refine Calls.mono HH.out ?_
      rintro e U4 ⟨rfl, hb2⟩
      replace sA := sA.later hb2
      replace sB := sB.later hb2
      replace sC := sC.later hb2
      replace hb := bt hb hb2
      clear hb2
      clear HH
      have hlt : gcdI (val zA) (val []) < 4294967296 ^ 60 := by have h1 := HA0.out; have h2 := HB0.out; rcases gcdI_le h1.1 h2.1 with e | e <;> omega
      have HLT := hid hlt
      clear hlt
      have HT := gcd_sl _ _ zA [] U4 sA sB (by first | omega | simp) (by first | omega | simp)
      rw [both_good (chk_good (by first | omega | simp) tA) (chk_good (by first | omega | simp) tB)] at HT
      have HH := hid (Calls.mono HT (fun x w' h => Told.num h 60 HLT.out (by first | omega | simp)))
      clear HT
      go_wp2_with fail
      refine Calls.mono HH.out ?_
      rintro e U5 ⟨aD, cD, zD, rfl, sD, tD, hvD, lD, hb2⟩
      replace sA := sA.later hb2
      replace sB := sB.later hb2
      replace sC := sC.later hb2
      replace hb := bt hb hb2
      clear hb2
      clear HH
      have wD := sD.wd
      have hg0 : 0 < gcdI (val zA) (val []) := gcdI_pos (.inl (by have := val_pos wA tA (by first | omega | simp); omega))
      have HG0 := hid hg0
      have HVD := hid hvD
      have hD : 0 < zD.length := by
        have e := trimmed_zero wD tD
        by_cases c : zD.length = 0
        · have := e.1 c; omega
        · omega
      have qD : ((zD.length : Int) == 0) = false := by simp; exact fun e => by rw [e] at hD; simp at hD
      clear hg0 hvD
      have HH := hid (divMod_any _ _ zA zD U5 sA sD (by first | omega | simp) (by first | omega | simp) tA tD hD)
      go_wp2_with fail
      refine Calls.mono HH.out ?_
      rintro e U6 ⟨vX, vV, zX, zV, rfl, sX, sV, tX, tV, hq, hr, hb2⟩
      replace sA := sA.later hb2
      replace sB := sB.later hb2
      replace sC := sC.later hb2
      replace sD := sD.later hb2
      replace hb := bt hb hb2
      clear hb2
      clear HH
      obtain ⟨aV, cV, hvV, _⟩ := sV
      subst hvV
      have sV : Sl U6 (.slice aV zV.length cV) zV := ⟨aV, cV, rfl, by assumption⟩
      have wX := sX.wd
      have nV := val_nonneg sV.wd
      rw [HVD.out] at hq hr
      have hz : val zV = 0 := rest_none (g := gcdI (val zA) (val [])) (by first | exact Int.gcd_dvd_left .. | exact Int.gcd_dvd_right ..) hq nV hr
      have hn : zV = [] := trimmed_eq sV.wd Wd.nil tV Trimmed.nil (by rw [hz]; rfl)
      have hq' : val zA = val zX * gcdI (val zA) (val []) := by omega
      have HEX := hid hq'
      have lX : zX.length ≤ 60 := len_of_lt wX tX (by have := quot_le hq HG0.out nV (val_nonneg wX); have := HA0.out; omega)
      subst hn
      clear hq hr hz hq' nV
      have HH := hid (divMod_any _ _ [] zD U6 sB sD (by first | omega | simp) (by first | omega | simp) tB tD hD)
      go_wp2_with fail
      refine Calls.mono HH.out ?_
      rintro e U7 ⟨vY, vT, zY, zT, rfl, sY, sT, tY, tT, hq, hr, hb2⟩
      replace sA := sA.later hb2
      replace sB := sB.later hb2
      replace sC := sC.later hb2
      replace sD := sD.later hb2
      replace sX := sX.later hb2
      replace sV := sV.later hb2
      replace hb := bt hb hb2
      clear hb2
      clear HH
      obtain ⟨aT, cT, hvT, _⟩ := sT
      subst hvT
      have sT : Sl U7 (.slice aT zT.length cT) zT := ⟨aT, cT, rfl, by assumption⟩
      have wY := sY.wd
      have nT := val_nonneg sT.wd
      rw [HVD.out] at hq hr
      have hz : val zT = 0 := rest_none (g := gcdI (val zA) (val [])) (by first | exact Int.gcd_dvd_left .. | exact Int.gcd_dvd_right ..) hq nT hr
      have hn : zT = [] := trimmed_eq sT.wd Wd.nil tT Trimmed.nil (by rw [hz]; rfl)
      have hq' : val [] = val zY * gcdI (val zA) (val []) := by omega
      have HEY := hid hq'
      have lY : zY.length ≤ 60 := len_of_lt wY tY (by have := quot_le hq HG0.out nT (val_nonneg wY); have := HB0.out; omega)
      subst hn
      clear hq hr hz hq' nT
      have h1g : gcdI (val zX) (val zY) = 1 := gcd_parts HG0.out HEX.out HEY.out
      have HT := gcd_sl _ _ zX zY U7 sX sY (by first | omega | simp) (by first | omega | simp)
      rw [both_good (chk_good (by first | omega | simp) tX) (chk_good (by first | omega | simp) tY), h1g] at HT
      have HH := hid (Calls.mono HT (fun x w' h => Told.num h 60 one60 (by first | omega | simp)))
      clear HT h1g
      go_wp2_with fail
      refine Calls.mono HH.out ?_
      rintro e U8 ⟨aO, cO, zO, rfl, sO, tO, hvO, lO, hb2⟩
      replace sA := sA.later hb2
      replace sB := sB.later hb2
      replace sC := sC.later hb2
      replace sD := sD.later hb2
      replace sX := sX.later hb2
      replace sV := sV.later hb2
      replace sY := sY.later hb2
      replace sT := sT.later hb2
      replace hb := bt hb hb2
      clear hb2
      clear HH
      have hzO : zO = [1] := trimmed_eq sO.wd w1' tO t1' (by rw [hvO, val_one])
      subst hzO
      clear hvO lO
      clear sX sY sV sT tX tY lX lY wX wY tV tT
      have HH := hid (mul_small _ _ zA zC 60 60 U8 sA sC tA tC lA lC (by first | omega | simp) (by first | omega | simp))
      go_wp2_with fail
      refine Calls.mono HH.out ?_
      rintro e U9 ⟨vP, zP, rfl, sP, tP, hvP, lP, hb2⟩
      replace sA := sA.later hb2
      replace sB := sB.later hb2
      replace sC := sC.later hb2
      replace sD := sD.later hb2
      replace sO := sO.later hb2
      replace hb := bt hb hb2
      clear hb2
      clear HH
      have HH := hid (mul_small _ _ [] zC 60 60 U9 sB sC tB tC lB lC (by first | omega | simp) (by first | omega | simp))
      go_wp2_with fail
      refine Calls.mono HH.out ?_
      rintro e U10 ⟨vN, zN, rfl, sN, tN, hvN, lN, hb2⟩
      replace sA := sA.later hb2
      replace sB := sB.later hb2
      replace sC := sC.later hb2
      replace sD := sD.later hb2
      replace sO := sO.later hb2
      replace sP := sP.later hb2
      replace hb := bt hb hb2
      clear hb2
      clear HH
      have hgc : gcdI (val zP) (val zN) = val zD * val zC := by rw [hvP, hvN, HVD.out]; exact gcd_times HC0.out.1
      have HGC := hid hgc
      have HT := gcd_sl _ _ zP zN U10 sP sN (by first | omega | simp) (by first | omega | simp)
      rw [both_good (chk_good (by first | omega | simp) tP) (chk_good (by first | omega | simp) tN), hgc] at HT
      have hlt : val zD * val zC < 4294967296 ^ 120 := by
        have h1 := lt60 wD lD
        have h2 := HC0.out
        have h3 : val zD * val zC ≤ 4294967296 ^ 60 * val zC := Int.mul_le_mul_of_nonneg_right (by first | omega | simp) h2.1
        have h4 : (4294967296 : Int) ^ 60 * val zC < 4294967296 ^ 60 * 4294967296 ^ 60 := Int.mul_lt_mul_of_pos_left h2.2 (pw_pos 60)
        rw [show (120 : Nat) = 60 + 60 from rfl, Int.pow_add]
        exact Int.lt_of_le_of_lt h3 h4
      have HLT2 := hid hlt
      have HH := hid (Calls.mono HT (fun x w' h => Told.num h 120 HLT2.out (by first | omega | simp)))
      clear HT hgc hlt hvP hvN
      go_wp2_with fail
      refine Calls.mono HH.out ?_
      rintro e U11 ⟨aG, cG, zG, rfl, sG, tG, hvG, lG, hb2⟩
      replace sA := sA.later hb2
      replace sB := sB.later hb2
      replace sC := sC.later hb2
      replace sD := sD.later hb2
      replace sO := sO.later hb2
      replace sP := sP.later hb2
      replace sN := sN.later hb2
      replace hb := bt hb hb2
      clear hb2
      clear HH
      have HVG := hid hvG
      clear hvG
      clear sP sN tP tN lP lN
      have sl := Sl.lit' U11 _ [1] #[.int .u32 1] 1 rfl w1' (by unfold maxLen; simp) rfl rfl
      have HH := hid (same_sl _ _ [1] [1] _ (sO.later (alloc_later U11 (.cells #[.int .u32 1] 43))) sl (by simp) (by simp))
      rw [decide_eq_true rfl] at HH
      clear sO sA sB sl
      replace sC := sC.later (alloc_later U11 (.cells #[.int .u32 1] 43))
      replace sD := sD.later (alloc_later U11 (.cells #[.int .u32 1] 43))
      replace sG := sG.later (alloc_later U11 (.cells #[.int .u32 1] 43))
      replace hb := bt hb (alloc_later U11 (.cells #[.int .u32 1] 43))
      have HLV := hid (And.intro sC (And.intro sD (And.intro sG hb)))
      clear sC sD sG hb
      go_wp2_with fail
      refine Calls.mono HH.out ?_
      rintro e U12 ⟨rfl, hb2⟩
      obtain ⟨sC, sD, sG, hb⟩ := HLV.out
      replace sC := sC.later hb2
      replace sD := sD.later hb2
      replace sG := sG.later hb2
      replace hb := bt hb hb2
      clear hb2 HH HLV
      have HH := hid (mul_small _ _ zD zC 60 60 U12 sD sC tD tC lD lC (by first | omega | simp) (by first | omega | simp))
      go_wp2_with fail
      refine Calls.mono HH.out ?_
      rintro e U13 ⟨vK, zK, rfl, sK, tK, hvK, lK, hb2⟩
      replace sC := sC.later hb2
      replace sD := sD.later hb2
      replace sG := sG.later hb2
      replace hb := bt hb hb2
      clear hb2
      clear HH
      have hGK : zG = zK := trimmed_eq sG.wd sK.wd tG tK (by rw [HVG.out, hvK])
      rw [← hGK] at sK
      have HH := hid (same_sl _ _ zG zG U13 sG sK (by first | omega | simp) (by first | omega | simp))
      rw [decide_eq_true rfl] at HH
      clear hGK hvK lK tK sK sG sC sD
      go_wp2_with fail
      refine Calls.mono HH.out ?_
      rintro e U14 ⟨rfl, hb2⟩
      replace hb := bt hb hb2
      clear hb2 HH
      go_wp2_with fail
      go_ret
      exact ⟨rfl, hb⟩
  · by_cases hA : zA.length = 0
    · obtain rfl : zA = [] := List.eq_nil_of_length_eq_zero hA
      clear hA
      have qB : ((zB.length : Int) == 0) = false := by simp; exact fun e => hB (by rw [e]; rfl)
      have pB : 0 < zB.length := by omega
      clear hB
      have vB1 := val_pos wB tB (by first | omega | simp)
      have HVB1 := hid vB1
      clear vB1
      have HH := hid (divMod_any _ _ [] zB U3 sA sB (by first | omega | simp) (by first | omega | simp) tA tB (by first | omega | simp))
      go_wp2_with fail
      refine Calls.mono HH.out ?_
      rintro e U4 ⟨vQ, vR, zQ, zR, rfl, sQ, sR, tQ, tR, hq, hr, hb2⟩
      replace sA := sA.later hb2
      replace sB := sB.later hb2
      replace sC := sC.later hb2
      replace hb := bt hb hb2
      clear hb2
      clear HH
      have HQR := hid (And.intro hq hr)
      clear hq hr
      have wQ := sQ.wd
      have wR := sR.wd
      have lQ : zQ.length ≤ 60 := len_of_lt wQ tQ (by have := quot_le HQR.out.1 HVB1.out (val_nonneg wR) (val_nonneg wQ); have := HA0.out; omega)
      have lR : zR.length ≤ 60 := len_of_lt wR tR (by have := HQR.out.2; have := HB0.out; omega)
      have HH := hid (mul_small _ _ zQ zB 60 60 U4 sQ sB tQ tB lQ lB (by first | omega | simp) (by first | omega | simp))
      go_wp2_with fail
      refine Calls.mono HH.out ?_
      rintro e U5 ⟨vM, zM, rfl, sM, tM, hvM, lM, hb2⟩
      replace sA := sA.later hb2
      replace sB := sB.later hb2
      replace sC := sC.later hb2
      replace sQ := sQ.later hb2
      replace sR := sR.later hb2
      replace hb := bt hb hb2
      clear hb2
      clear HH
      have HH := hid (add_small _ _ zM zR 120 U5 sM sR tM tR (by first | omega | simp) (by first | omega | simp) (by first | omega | simp))
      go_wp2_with fail
      refine Calls.mono HH.out ?_
      rintro e U6 ⟨vS, zS, rfl, sS, tS, hvS, lS, hb2⟩
      replace sA := sA.later hb2
      replace sB := sB.later hb2
      replace sC := sC.later hb2
      replace sQ := sQ.later hb2
      replace sR := sR.later hb2
      replace sM := sM.later hb2
      replace hb := bt hb hb2
      clear hb2
      clear HH
      have hSA : zS = [] := trimmed_eq sS.wd wA tS tA (by rw [hvS, hvM]; exact HQR.out.1.symm)
      rw [hSA] at sS lS
      clear hSA hvS hvM
      have HH := hid (same_sl _ _ [] [] U6 sS sA (by first | omega | simp) (by first | omega | simp))
      rw [decide_eq_true rfl] at HH
      go_wp2_with fail
      refine Calls.mono HH.out ?_
      rintro e U7 ⟨rfl, hb2⟩
      replace sA := sA.later hb2
      replace sB := sB.later hb2
      replace sC := sC.later hb2
      replace sQ := sQ.later hb2
      replace sR := sR.later hb2
      replace sM := sM.later hb2
      replace sS := sS.later hb2
      replace hb := bt hb hb2
      clear hb2
      clear HH
      clear sS sM tS tM lS lM
      have HH := hid (compare_sl _ _ zR zB U7 sR sB (by first | omega | simp) (by first | omega | simp))
      rw [cmpI_lt HQR.out.2] at HH
      go_wp2_with fail
      refine Calls.mono HH.out ?_
      rintro e U8 ⟨rfl, hb2⟩
      replace sA := sA.later hb2
      replace sB := sB.later hb2
      replace sC := sC.later hb2
      replace sQ := sQ.later hb2
      replace sR := sR.later hb2
      replace hb := bt hb hb2
      clear hb2
      clear HH
      clear sQ sR tQ tR lQ lR wQ wR
      have hlt : gcdI (val []) (val zB) < 4294967296 ^ 60 := by have h1 := HA0.out; have h2 := HB0.out; rcases gcdI_le h1.1 h2.1 with e | e <;> omega
      have HLT := hid hlt
      clear hlt
      have HT := gcd_sl _ _ [] zB U8 sA sB (by first | omega | simp) (by first | omega | simp)
      rw [both_good (chk_good (by first | omega | simp) tA) (chk_good (by first | omega | simp) tB)] at HT
      have HH := hid (Calls.mono HT (fun x w' h => Told.num h 60 HLT.out (by first | omega | simp)))
      clear HT
      go_wp2_with fail
      refine Calls.mono HH.out ?_
      rintro e U9 ⟨aD, cD, zD, rfl, sD, tD, hvD, lD, hb2⟩
      replace sA := sA.later hb2
      replace sB := sB.later hb2
      replace sC := sC.later hb2
      replace hb := bt hb hb2
      clear hb2
      clear HH
      have wD := sD.wd
      have hg0 : 0 < gcdI (val []) (val zB) := gcdI_pos (.inr (by have := HVB1.out; omega))
      have HG0 := hid hg0
      have HVD := hid hvD
      have hD : 0 < zD.length := by
        have e := trimmed_zero wD tD
        by_cases c : zD.length = 0
        · have := e.1 c; omega
        · omega
      have qD : ((zD.length : Int) == 0) = false := by simp; exact fun e => by rw [e] at hD; simp at hD
      clear hg0 hvD
      have HH := hid (divMod_any _ _ [] zD U9 sA sD (by first | omega | simp) (by first | omega | simp) tA tD hD)
      go_wp2_with fail
      refine Calls.mono HH.out ?_
      rintro e U10 ⟨vX, vV, zX, zV, rfl, sX, sV, tX, tV, hq, hr, hb2⟩
      replace sA := sA.later hb2
      replace sB := sB.later hb2
      replace sC := sC.later hb2
      replace sD := sD.later hb2
      replace hb := bt hb hb2
      clear hb2
      clear HH
      obtain ⟨aV, cV, hvV, _⟩ := sV
      subst hvV
      have sV : Sl U10 (.slice aV zV.length cV) zV := ⟨aV, cV, rfl, by assumption⟩
      have wX := sX.wd
      have nV := val_nonneg sV.wd
      rw [HVD.out] at hq hr
      have hz : val zV = 0 := rest_none (g := gcdI (val []) (val zB)) (by first | exact Int.gcd_dvd_left .. | exact Int.gcd_dvd_right ..) hq nV hr
      have hn : zV = [] := trimmed_eq sV.wd Wd.nil tV Trimmed.nil (by rw [hz]; rfl)
      have hq' : val [] = val zX * gcdI (val []) (val zB) := by omega
      have HEX := hid hq'
      have lX : zX.length ≤ 60 := len_of_lt wX tX (by have := quot_le hq HG0.out nV (val_nonneg wX); have := HA0.out; omega)
      subst hn
      clear hq hr hz hq' nV
      have HH := hid (divMod_any _ _ zB zD U10 sB sD (by first | omega | simp) (by first | omega | simp) tB tD hD)
      go_wp2_with fail
      refine Calls.mono HH.out ?_
      rintro e U11 ⟨vY, vT, zY, zT, rfl, sY, sT, tY, tT, hq, hr, hb2⟩
      replace sA := sA.later hb2
      replace sB := sB.later hb2
      replace sC := sC.later hb2
      replace sD := sD.later hb2
      replace sX := sX.later hb2
      replace sV := sV.later hb2
      replace hb := bt hb hb2
      clear hb2
      clear HH
      obtain ⟨aT, cT, hvT, _⟩ := sT
      subst hvT
      have sT : Sl U11 (.slice aT zT.length cT) zT := ⟨aT, cT, rfl, by assumption⟩
      have wY := sY.wd
      have nT := val_nonneg sT.wd
      rw [HVD.out] at hq hr
      have hz : val zT = 0 := rest_none (g := gcdI (val []) (val zB)) (by first | exact Int.gcd_dvd_left .. | exact Int.gcd_dvd_right ..) hq nT hr
      have hn : zT = [] := trimmed_eq sT.wd Wd.nil tT Trimmed.nil (by rw [hz]; rfl)
      have hq' : val zB = val zY * gcdI (val []) (val zB) := by omega
      have HEY := hid hq'
      have lY : zY.length ≤ 60 := len_of_lt wY tY (by have := quot_le hq HG0.out nT (val_nonneg wY); have := HB0.out; omega)
      subst hn
      clear hq hr hz hq' nT
      have h1g : gcdI (val zX) (val zY) = 1 := gcd_parts HG0.out HEX.out HEY.out
      have HT := gcd_sl _ _ zX zY U11 sX sY (by first | omega | simp) (by first | omega | simp)
      rw [both_good (chk_good (by first | omega | simp) tX) (chk_good (by first | omega | simp) tY), h1g] at HT
      have HH := hid (Calls.mono HT (fun x w' h => Told.num h 60 one60 (by first | omega | simp)))
      clear HT h1g
      go_wp2_with fail
      refine Calls.mono HH.out ?_
      rintro e U12 ⟨aO, cO, zO, rfl, sO, tO, hvO, lO, hb2⟩
      replace sA := sA.later hb2
      replace sB := sB.later hb2
      replace sC := sC.later hb2
      replace sD := sD.later hb2
      replace sX := sX.later hb2
      replace sV := sV.later hb2
      replace sY := sY.later hb2
      replace sT := sT.later hb2
      replace hb := bt hb hb2
      clear hb2
      clear HH
      have hzO : zO = [1] := trimmed_eq sO.wd w1' tO t1' (by rw [hvO, val_one])
      subst hzO
      clear hvO lO
      clear sX sY sV sT tX tY lX lY wX wY tV tT
      have HH := hid (mul_small _ _ [] zC 60 60 U12 sA sC tA tC lA lC (by first | omega | simp) (by first | omega | simp))
      go_wp2_with fail
      refine Calls.mono HH.out ?_
      rintro e U13 ⟨vP, zP, rfl, sP, tP, hvP, lP, hb2⟩
      replace sA := sA.later hb2
      replace sB := sB.later hb2
      replace sC := sC.later hb2
      replace sD := sD.later hb2
      replace sO := sO.later hb2
      replace hb := bt hb hb2
      clear hb2
      clear HH
      have HH := hid (mul_small _ _ zB zC 60 60 U13 sB sC tB tC lB lC (by first | omega | simp) (by first | omega | simp))
      go_wp2_with fail
      refine Calls.mono HH.out ?_
      rintro e U14 ⟨vN, zN, rfl, sN, tN, hvN, lN, hb2⟩
      replace sA := sA.later hb2
      replace sB := sB.later hb2
      replace sC := sC.later hb2
      replace sD := sD.later hb2
      replace sO := sO.later hb2
      replace sP := sP.later hb2
      replace hb := bt hb hb2
      clear hb2
      clear HH
      have hgc : gcdI (val zP) (val zN) = val zD * val zC := by rw [hvP, hvN, HVD.out]; exact gcd_times HC0.out.1
      have HGC := hid hgc
      have HT := gcd_sl _ _ zP zN U14 sP sN (by first | omega | simp) (by first | omega | simp)
      rw [both_good (chk_good (by first | omega | simp) tP) (chk_good (by first | omega | simp) tN), hgc] at HT
      have hlt : val zD * val zC < 4294967296 ^ 120 := by
        have h1 := lt60 wD lD
        have h2 := HC0.out
        have h3 : val zD * val zC ≤ 4294967296 ^ 60 * val zC := Int.mul_le_mul_of_nonneg_right (by first | omega | simp) h2.1
        have h4 : (4294967296 : Int) ^ 60 * val zC < 4294967296 ^ 60 * 4294967296 ^ 60 := Int.mul_lt_mul_of_pos_left h2.2 (pw_pos 60)
        rw [show (120 : Nat) = 60 + 60 from rfl, Int.pow_add]
        exact Int.lt_of_le_of_lt h3 h4
      have HLT2 := hid hlt
      have HH := hid (Calls.mono HT (fun x w' h => Told.num h 120 HLT2.out (by first | omega | simp)))
      clear HT hgc hlt hvP hvN
      go_wp2_with fail
      refine Calls.mono HH.out ?_
      rintro e U15 ⟨aG, cG, zG, rfl, sG, tG, hvG, lG, hb2⟩
      replace sA := sA.later hb2
      replace sB := sB.later hb2
      replace sC := sC.later hb2
      replace sD := sD.later hb2
      replace sO := sO.later hb2
      replace sP := sP.later hb2
      replace sN := sN.later hb2
      replace hb := bt hb hb2
      clear hb2
      clear HH
      have HVG := hid hvG
      clear hvG
      clear sP sN tP tN lP lN
      have sl := Sl.lit' U15 _ [1] #[.int .u32 1] 1 rfl w1' (by unfold maxLen; simp) rfl rfl
      have HH := hid (same_sl _ _ [1] [1] _ (sO.later (alloc_later U15 (.cells #[.int .u32 1] 43))) sl (by simp) (by simp))
      rw [decide_eq_true rfl] at HH
      clear sO sA sB sl
      replace sC := sC.later (alloc_later U15 (.cells #[.int .u32 1] 43))
      replace sD := sD.later (alloc_later U15 (.cells #[.int .u32 1] 43))
      replace sG := sG.later (alloc_later U15 (.cells #[.int .u32 1] 43))
      replace hb := bt hb (alloc_later U15 (.cells #[.int .u32 1] 43))
      have HLV := hid (And.intro sC (And.intro sD (And.intro sG hb)))
      clear sC sD sG hb
      go_wp2_with fail
      refine Calls.mono HH.out ?_
      rintro e U16 ⟨rfl, hb2⟩
      obtain ⟨sC, sD, sG, hb⟩ := HLV.out
      replace sC := sC.later hb2
      replace sD := sD.later hb2
      replace sG := sG.later hb2
      replace hb := bt hb hb2
      clear hb2 HH HLV
      have HH := hid (mul_small _ _ zD zC 60 60 U16 sD sC tD tC lD lC (by first | omega | simp) (by first | omega | simp))
      go_wp2_with fail
      refine Calls.mono HH.out ?_
      rintro e U17 ⟨vK, zK, rfl, sK, tK, hvK, lK, hb2⟩
      replace sC := sC.later hb2
      replace sD := sD.later hb2
      replace sG := sG.later hb2
      replace hb := bt hb hb2
      clear hb2
      clear HH
      have hGK : zG = zK := trimmed_eq sG.wd sK.wd tG tK (by rw [HVG.out, hvK])
      rw [← hGK] at sK
      have HH := hid (same_sl _ _ zG zG U17 sG sK (by first | omega | simp) (by first | omega | simp))
      rw [decide_eq_true rfl] at HH
      clear hGK hvK lK tK sK sG sC sD
      go_wp2_with fail
      refine Calls.mono HH.out ?_
      rintro e U18 ⟨rfl, hb2⟩
      replace hb := bt hb hb2
      clear hb2 HH
      go_wp2_with fail
      go_ret
      exact ⟨rfl, hb⟩
    · have qA : ((zA.length : Int) == 0) = false := by simp; exact fun e => hA (by rw [e]; rfl)
      have pA : 0 < zA.length := by omega
      clear hA
      have qB : ((zB.length : Int) == 0) = false := by simp; exact fun e => hB (by rw [e]; rfl)
      have pB : 0 < zB.length := by omega
      clear hB
      have vB1 := val_pos wB tB (by first | omega | simp)
      have HVB1 := hid vB1
      clear vB1
      have HH := hid (divMod_any _ _ zA zB U3 sA sB (by first | omega | simp) (by first | omega | simp) tA tB (by first | omega | simp))
      go_wp2_with fail
      refine Calls.mono HH.out ?_
      rintro e U4 ⟨vQ, vR, zQ, zR, rfl, sQ, sR, tQ, tR, hq, hr, hb2⟩
      replace sA := sA.later hb2
      replace sB := sB.later hb2
      replace sC := sC.later hb2
      replace hb := bt hb hb2
      clear hb2
      clear HH
      have HQR := hid (And.intro hq hr)
      clear hq hr
      have wQ := sQ.wd
      have wR := sR.wd
      have lQ : zQ.length ≤ 60 := len_of_lt wQ tQ (by have := quot_le HQR.out.1 HVB1.out (val_nonneg wR) (val_nonneg wQ); have := HA0.out; omega)
      have lR : zR.length ≤ 60 := len_of_lt wR tR (by have := HQR.out.2; have := HB0.out; omega)
      have HH := hid (mul_small _ _ zQ zB 60 60 U4 sQ sB tQ tB lQ lB (by first | omega | simp) (by first | omega | simp))
      go_wp2_with fail
      refine Calls.mono HH.out ?_
      rintro e U5 ⟨vM, zM, rfl, sM, tM, hvM, lM, hb2⟩
      replace sA := sA.later hb2
      replace sB := sB.later hb2
      replace sC := sC.later hb2
      replace sQ := sQ.later hb2
      replace sR := sR.later hb2
      replace hb := bt hb hb2
      clear hb2
      clear HH
      have HH := hid (add_small _ _ zM zR 120 U5 sM sR tM tR (by first | omega | simp) (by first | omega | simp) (by first | omega | simp))
      go_wp2_with fail
      refine Calls.mono HH.out ?_
      rintro e U6 ⟨vS, zS, rfl, sS, tS, hvS, lS, hb2⟩
      replace sA := sA.later hb2
      replace sB := sB.later hb2
      replace sC := sC.later hb2
      replace sQ := sQ.later hb2
      replace sR := sR.later hb2
      replace sM := sM.later hb2
      replace hb := bt hb hb2
      clear hb2
      clear HH
      have hSA : zS = zA := trimmed_eq sS.wd wA tS tA (by rw [hvS, hvM]; exact HQR.out.1.symm)
      rw [hSA] at sS lS
      clear hSA hvS hvM
      have HH := hid (same_sl _ _ zA zA U6 sS sA (by first | omega | simp) (by first | omega | simp))
      rw [decide_eq_true rfl] at HH
      go_wp2_with fail
      refine Calls.mono HH.out ?_
      rintro e U7 ⟨rfl, hb2⟩
      replace sA := sA.later hb2
      replace sB := sB.later hb2
      replace sC := sC.later hb2
      replace sQ := sQ.later hb2
      replace sR := sR.later hb2
      replace sM := sM.later hb2
      replace sS := sS.later hb2
      replace hb := bt hb hb2
      clear hb2
      clear HH
      clear sS sM tS tM lS lM
      have HH := hid (compare_sl _ _ zR zB U7 sR sB (by first | omega | simp) (by first | omega | simp))
      rw [cmpI_lt HQR.out.2] at HH
      go_wp2_with fail
      refine Calls.mono HH.out ?_
      rintro e U8 ⟨rfl, hb2⟩
      replace sA := sA.later hb2
      replace sB := sB.later hb2
      replace sC := sC.later hb2
      replace sQ := sQ.later hb2
      replace sR := sR.later hb2
      replace hb := bt hb hb2
      clear hb2
      clear HH
      clear sQ sR tQ tR lQ lR wQ wR
      have hlt : gcdI (val zA) (val zB) < 4294967296 ^ 60 := by have h1 := HA0.out; have h2 := HB0.out; rcases gcdI_le h1.1 h2.1 with e | e <;> omega
      have HLT := hid hlt
      clear hlt
      have HT := gcd_sl _ _ zA zB U8 sA sB (by first | omega | simp) (by first | omega | simp)
      rw [both_good (chk_good (by first | omega | simp) tA) (chk_good (by first | omega | simp) tB)] at HT
      have HH := hid (Calls.mono HT (fun x w' h => Told.num h 60 HLT.out (by first | omega | simp)))
      clear HT
      go_wp2_with fail
      refine Calls.mono HH.out ?_
      rintro e U9 ⟨aD, cD, zD, rfl, sD, tD, hvD, lD, hb2⟩
      replace sA := sA.later hb2
      replace sB := sB.later hb2
      replace sC := sC.later hb2
      replace hb := bt hb hb2
      clear hb2
      clear HH
      have wD := sD.wd
      have hg0 : 0 < gcdI (val zA) (val zB) := gcdI_pos (.inr (by have := HVB1.out; omega))
      have HG0 := hid hg0
      have HVD := hid hvD
      have hD : 0 < zD.length := by
        have e := trimmed_zero wD tD
        by_cases c : zD.length = 0
        · have := e.1 c; omega
        · omega
      have qD : ((zD.length : Int) == 0) = false := by simp; exact fun e => by rw [e] at hD; simp at hD
      clear hg0 hvD
      have HH := hid (divMod_any _ _ zA zD U9 sA sD (by first | omega | simp) (by first | omega | simp) tA tD hD)
      go_wp2_with fail
      refine Calls.mono HH.out ?_
      rintro e U10 ⟨vX, vV, zX, zV, rfl, sX, sV, tX, tV, hq, hr, hb2⟩
      replace sA := sA.later hb2
      replace sB := sB.later hb2
      replace sC := sC.later hb2
      replace sD := sD.later hb2
      replace hb := bt hb hb2
      clear hb2
      clear HH
      obtain ⟨aV, cV, hvV, _⟩ := sV
      subst hvV
      have sV : Sl U10 (.slice aV zV.length cV) zV := ⟨aV, cV, rfl, by assumption⟩
      have wX := sX.wd
      have nV := val_nonneg sV.wd
      rw [HVD.out] at hq hr
      have hz : val zV = 0 := rest_none (g := gcdI (val zA) (val zB)) (by first | exact Int.gcd_dvd_left .. | exact Int.gcd_dvd_right ..) hq nV hr
      have hn : zV = [] := trimmed_eq sV.wd Wd.nil tV Trimmed.nil (by rw [hz]; rfl)
      have hq' : val zA = val zX * gcdI (val zA) (val zB) := by omega
      have HEX := hid hq'
      have lX : zX.length ≤ 60 := len_of_lt wX tX (by have := quot_le hq HG0.out nV (val_nonneg wX); have := HA0.out; omega)
      subst hn
      clear hq hr hz hq' nV
      have HH := hid (divMod_any _ _ zB zD U10 sB sD (by first | omega | simp) (by first | omega | simp) tB tD hD)
      go_wp2_with fail
      refine Calls.mono HH.out ?_
      rintro e U11 ⟨vY, vT, zY, zT, rfl, sY, sT, tY, tT, hq, hr, hb2⟩
      replace sA := sA.later hb2
      replace sB := sB.later hb2
      replace sC := sC.later hb2
      replace sD := sD.later hb2
      replace sX := sX.later hb2
      replace sV := sV.later hb2
      replace hb := bt hb hb2
      clear hb2
      clear HH
      obtain ⟨aT, cT, hvT, _⟩ := sT
      subst hvT
      have sT : Sl U11 (.slice aT zT.length cT) zT := ⟨aT, cT, rfl, by assumption⟩
      have wY := sY.wd
      have nT := val_nonneg sT.wd
      rw [HVD.out] at hq hr
      have hz : val zT = 0 := rest_none (g := gcdI (val zA) (val zB)) (by first | exact Int.gcd_dvd_left .. | exact Int.gcd_dvd_right ..) hq nT hr
      have hn : zT = [] := trimmed_eq sT.wd Wd.nil tT Trimmed.nil (by rw [hz]; rfl)
      have hq' : val zB = val zY * gcdI (val zA) (val zB) := by omega
      have HEY := hid hq'
      have lY : zY.length ≤ 60 := len_of_lt wY tY (by have := quot_le hq HG0.out nT (val_nonneg wY); have := HB0.out; omega)
      subst hn
      clear hq hr hz hq' nT
      have h1g : gcdI (val zX) (val zY) = 1 := gcd_parts HG0.out HEX.out HEY.out
      have HT := gcd_sl _ _ zX zY U11 sX sY (by first | omega | simp) (by first | omega | simp)
      rw [both_good (chk_good (by first | omega | simp) tX) (chk_good (by first | omega | simp) tY), h1g] at HT
      have HH := hid (Calls.mono HT (fun x w' h => Told.num h 60 one60 (by first | omega | simp)))
      clear HT h1g
      go_wp2_with fail
      refine Calls.mono HH.out ?_
      rintro e U12 ⟨aO, cO, zO, rfl, sO, tO, hvO, lO, hb2⟩
      replace sA := sA.later hb2
      replace sB := sB.later hb2
      replace sC := sC.later hb2
      replace sD := sD.later hb2
      replace sX := sX.later hb2
      replace sV := sV.later hb2
      replace sY := sY.later hb2
      replace sT := sT.later hb2
      replace hb := bt hb hb2
      clear hb2
      clear HH
      have hzO : zO = [1] := trimmed_eq sO.wd w1' tO t1' (by rw [hvO, val_one])
      subst hzO
      clear hvO lO
      clear sX sY sV sT tX tY lX lY wX wY tV tT
      have HH := hid (mul_small _ _ zA zC 60 60 U12 sA sC tA tC lA lC (by first | omega | simp) (by first | omega | simp))
      go_wp2_with fail
      refine Calls.mono HH.out ?_
      rintro e U13 ⟨vP, zP, rfl, sP, tP, hvP, lP, hb2⟩
      replace sA := sA.later hb2
      replace sB := sB.later hb2
      replace sC := sC.later hb2
      replace sD := sD.later hb2
      replace sO := sO.later hb2
      replace hb := bt hb hb2
      clear hb2
      clear HH
      have HH := hid (mul_small _ _ zB zC 60 60 U13 sB sC tB tC lB lC (by first | omega | simp) (by first | omega | simp))
      go_wp2_with fail
      refine Calls.mono HH.out ?_
      rintro e U14 ⟨vN, zN, rfl, sN, tN, hvN, lN, hb2⟩
      replace sA := sA.later hb2
      replace sB := sB.later hb2
      replace sC := sC.later hb2
      replace sD := sD.later hb2
      replace sO := sO.later hb2
      replace sP := sP.later hb2
      replace hb := bt hb hb2
      clear hb2
      clear HH
      have hgc : gcdI (val zP) (val zN) = val zD * val zC := by rw [hvP, hvN, HVD.out]; exact gcd_times HC0.out.1
      have HGC := hid hgc
      have HT := gcd_sl _ _ zP zN U14 sP sN (by first | omega | simp) (by first | omega | simp)
      rw [both_good (chk_good (by first | omega | simp) tP) (chk_good (by first | omega | simp) tN), hgc] at HT
      have hlt : val zD * val zC < 4294967296 ^ 120 := by
        have h1 := lt60 wD lD
        have h2 := HC0.out
        have h3 : val zD * val zC ≤ 4294967296 ^ 60 * val zC := Int.mul_le_mul_of_nonneg_right (by first | omega | simp) h2.1
        have h4 : (4294967296 : Int) ^ 60 * val zC < 4294967296 ^ 60 * 4294967296 ^ 60 := Int.mul_lt_mul_of_pos_left h2.2 (pw_pos 60)
        rw [show (120 : Nat) = 60 + 60 from rfl, Int.pow_add]
        exact Int.lt_of_le_of_lt h3 h4
      have HLT2 := hid hlt
      have HH := hid (Calls.mono HT (fun x w' h => Told.num h 120 HLT2.out (by first | omega | simp)))
      clear HT hgc hlt hvP hvN
      go_wp2_with fail
      refine Calls.mono HH.out ?_
      rintro e U15 ⟨aG, cG, zG, rfl, sG, tG, hvG, lG, hb2⟩
      replace sA := sA.later hb2
      replace sB := sB.later hb2
      replace sC := sC.later hb2
      replace sD := sD.later hb2
      replace sO := sO.later hb2
      replace sP := sP.later hb2
      replace sN := sN.later hb2
      replace hb := bt hb hb2
      clear hb2
      clear HH
      have HVG := hid hvG
      clear hvG
      clear sP sN tP tN lP lN
      have sl := Sl.lit' U15 _ [1] #[.int .u32 1] 1 rfl w1' (by unfold maxLen; simp) rfl rfl
      have HH := hid (same_sl _ _ [1] [1] _ (sO.later (alloc_later U15 (.cells #[.int .u32 1] 43))) sl (by simp) (by simp))
      rw [decide_eq_true rfl] at HH
      clear sO sA sB sl
      replace sC := sC.later (alloc_later U15 (.cells #[.int .u32 1] 43))
      replace sD := sD.later (alloc_later U15 (.cells #[.int .u32 1] 43))
      replace sG := sG.later (alloc_later U15 (.cells #[.int .u32 1] 43))
      replace hb := bt hb (alloc_later U15 (.cells #[.int .u32 1] 43))
      have HLV := hid (And.intro sC (And.intro sD (And.intro sG hb)))
      clear sC sD sG hb
      go_wp2_with fail
      refine Calls.mono HH.out ?_
      rintro e U16 ⟨rfl, hb2⟩
      obtain ⟨sC, sD, sG, hb⟩ := HLV.out
      replace sC := sC.later hb2
      replace sD := sD.later hb2
      replace sG := sG.later hb2
      replace hb := bt hb hb2
      clear hb2 HH HLV
      have HH := hid (mul_small _ _ zD zC 60 60 U16 sD sC tD tC lD lC (by first | omega | simp) (by first | omega | simp))
      go_wp2_with fail
      refine Calls.mono HH.out ?_
      rintro e U17 ⟨vK, zK, rfl, sK, tK, hvK, lK, hb2⟩
      replace sC := sC.later hb2
      replace sD := sD.later hb2
      replace sG := sG.later hb2
      replace hb := bt hb hb2
      clear hb2
      clear HH
      have hGK : zG = zK := trimmed_eq sG.wd sK.wd tG tK (by rw [HVG.out, hvK])
      rw [← hGK] at sK
      have HH := hid (same_sl _ _ zG zG U17 sG sK (by first | omega | simp) (by first | omega | simp))
      rw [decide_eq_true rfl] at HH
      clear hGK hvK lK tK sK sG sC sD
      go_wp2_with fail
      refine Calls.mono HH.out ?_
      rintro e U18 ⟨rfl, hb2⟩
      replace hb := bt hb hb2
      clear hb2 HH
      go_wp2_with fail
      go_ret
      exact ⟨rfl, hb⟩
end Go.Proofs.YtbcangblmadnpaaDoor
