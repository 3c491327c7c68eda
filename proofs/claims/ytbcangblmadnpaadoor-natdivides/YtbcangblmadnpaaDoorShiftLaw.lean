/- The law NatShifts answers true, and writes nothing that was there: whatever list and number come in, where the library's table of powers of ten stands as its text lays it. -/
import Derived.Test.YtbcangblmadnpaaDoorDivAny
import Derived.Test.YtbcangblmadnpaaDoorLaw
namespace Go.Proofs.YtbcangblmadnpaaDoor
open Go.RowKit
set_option linter.unusedVariables false

/-- A number and no error, in new memory. -/
def Num2 (w : World) (t : Int) (L : Nat) (x : Ending) (w' : World) : Prop := ∃ a cap zs, x = .returned (.tuple #[.slice a zs.length cap, .int .i64 0]) ∧ Sl w' (.slice a zs.length cap) zs ∧ Trimmed zs ∧ val zs = t ∧ zs.length ≤ L ∧ Below w.heap.size w w'
theorem Told.num {w w' : World} {t : Int} {x : Ending} (h : Told w 0 t x w') (L : Nat) (hlt : t < 4294967296 ^ L) (hL : L ≤ 8192) : Num2 w t L x w' := by
  obtain ⟨v, zs, code, rfl, ho, ht, hb⟩ := h
  obtain ⟨rfl, hv⟩ := ht.good rfl (lt_wide hlt hL)
  have s := Sl.own ho ht.wd
  obtain ⟨a, cap, rfl, hr⟩ := s
  exact ⟨a, cap, zs, rfl, ⟨a, cap, rfl, hr⟩, ht.trim, hv, len_of_lt ht.wd ht.trim (by rw [hv]; exact hlt), hb⟩
theorem shl_lt {x : Int} {L K M : Nat} (h0 : 0 ≤ x) (h : x < 4294967296 ^ L) (hK : K ≤ 32 * M) : x * 2 ^ K < 4294967296 ^ (L + M) := by
  rw [Int.pow_add]
  have p := two_pos K
  have e1 : (2 : Int) ^ K ≤ 4294967296 ^ M := by rw [pw_two]; exact two_le hK
  have e2 : x * 2 ^ K < 4294967296 ^ L * 2 ^ K := Int.mul_lt_mul_of_pos_right h p
  have e3 : (4294967296 : Int) ^ L * 2 ^ K ≤ 4294967296 ^ L * 4294967296 ^ M := Int.mul_le_mul_of_nonneg_left e1 (Int.le_of_lt (pw_pos L))
  omega
theorem shr_lt {x : Int} {L K : Nat} (h0 : 0 ≤ x) (h : x < 4294967296 ^ L) : x / 2 ^ K < 4294967296 ^ L := by
  have : x / 2 ^ K ≤ x := Int.ediv_le_self _ h0
  omega
theorem bits_shl {zA zU : List Int} {K : Nat} (wA : Wd zA) (wU : Wd zU) (hp : 0 < sz zA) (h : val zU = val zA * 2 ^ K) : bitsOf zU = bitsOf zA + K := by
  obtain ⟨b1, b2, b3, _, _⟩ := bits_bounds wA hp
  have p := two_pos K
  refine bits_is wU _ (by omega) ?_ ?_
  · have e : (2 : Int) ^ (bitsOf zA - 1) * 2 ^ K ≤ val zA * 2 ^ K := Int.mul_le_mul_of_nonneg_right b2 (Int.le_of_lt p)
    rw [← Int.pow_add] at e
    rw [h, show bitsOf zA + K - 1 = bitsOf zA - 1 + K by omega]; exact e
  · have e : val zA * 2 ^ K < 2 ^ bitsOf zA * 2 ^ K := Int.mul_lt_mul_of_pos_right b3 p
    rw [← Int.pow_add] at e
    rw [h]; exact e

set_option maxHeartbeats 6400000 in
set_option maxRecDepth 100000 in
theorem natShifts_walk (a0 : Option Addr) (n0 cap0 : Nat) (xs : List Int) (nn : Int) (w : World)
    (h0 : Reads w w.heap.size a0 n0 cap0 xs) (hn0 : 0 ≤ nn) (hn1 : nn ≤ 65535) (htab : Tab w) :
    Calls Tryd.prog 6 #[.slice a0 n0 cap0, .int .u16 nn] w fun e w' => e = .returned (.bool true) ∧ Below w.heap.size w w' := by
  have H0 := hid h0
  have HA := hid (awake_any w htab)
  obtain ⟨K, hK⟩ : ∃ K : Nat, nn % 3000 = (K : Int) := ⟨(nn % 3000).toNat, by omega⟩
  have hK3 : K ≤ 2999 := by omega
  have w1' : Wd [1] := Wd.one (by omega)
  have t1' : Trimmed [1] := rfl
  clear htab h0
  go_enter Tryd.func6, Tryd.ntmps6
  go_wp2_with fail
  refine Calls.mono HA.out ?_
  rintro e U0 ⟨rfl, hb⟩
  go_wp2_with fail
  refine (put_any a0 n0 cap0 xs U0 (H0.out.later hb hb.size)).mono ?_
  rintro e U1 ⟨vA, zA, rfl, sA, tA, lA, hb2⟩
  replace hb := bt hb hb2
  clear hb2 H0 HA
  have wA := sA.wd
  have HW := hid (And.intro (val_nonneg wA) (val_lt wA))
  have hA60 : val zA < 4294967296 ^ 60 := by have := HW.out.2; have := pw_le lA; omega
  have HA60 := hid hA60
  obtain ⟨aA, cA, hvA, _⟩ := sA
  subst hvA
  have sA : Sl U1 (.slice aA zA.length cA) zA := ⟨aA, cA, rfl, by assumption⟩
  have HS1 := hid (Calls.mono (shift_up _ zA K U1 sA (by omega) tA (by omega)) (fun x w' h => Told.num h (60 + 94) (shl_lt HW.out.1 HA60.out (by omega)) (by omega)))
  clear hA60
  go_wp2_with fail
  refine Calls.mono HS1.out ?_
  rintro e U2 ⟨aU, cU, zU, rfl, sU, tU, hvU, lU, hb2⟩
  replace sA := sA.later hb2
  replace hb := bt hb hb2
  clear hb2 HS1
  have wU := sU.wd
  have sl := Sl.lit' U2 _ [1] #[.int .u32 1] 1 rfl w1' (by unfold maxLen; simp) rfl rfl
  have HS2 := hid (Calls.mono (shift_up _ [1] K _ sl (by simp) t1' (by omega)) (fun x w' h => Told.num h (1 + 94) (shl_lt (by rw [val_one]; omega) (by rw [val_one]; decide) (by omega)) (by omega)))
  have sA2 := sA.later (alloc_later U2 (.cells #[.int .u32 1] 43))
  have sU2 := sU.later (alloc_later U2 (.cells #[.int .u32 1] 43))
  have hb2 := bt hb (alloc_later U2 (.cells #[.int .u32 1] 43))
  have HG := hid (And.intro sA2 (And.intro sU2 hb2))
  have HVU := hid hvU
  clear sl sA sU hb sA2 sU2 hb2 hvU
  go_wp2_with fail
  refine Calls.mono HS2.out ?_
  rintro e U3 ⟨aP, cP, zP, rfl, sP, tP, hvP, lP, hb2⟩
  have sA := HG.out.1.later hb2
  have sU := HG.out.2.1.later hb2
  have hb := bt HG.out.2.2 hb2
  rw [val_one, Int.one_mul] at hvP
  have wP := sP.wd
  have HVP := hid hvP
  clear HG hb2 HS2 hvP
  have HS3 := hid (Calls.mono (shift_neg _ zA K U3 sA (by omega) tA (by omega)) (fun x w' h => Told.num h 60 (shr_lt HW.out.1 HA60.out) (by omega)))
  go_wp2_with fail
  refine Calls.mono HS3.out ?_
  rintro e U4 ⟨aD, cD, zD, rfl, sD, tD, hvD, lD, hb2⟩
  replace sA := sA.later hb2
  replace sU := sU.later hb2
  replace sP := sP.later hb2
  replace hb := bt hb hb2
  have wD := sD.wd
  have HVD := hid hvD
  clear hb2 HS3 hvD
  have hUK : val zU / 2 ^ K = val zA := by rw [HVU.out]; exact Int.mul_ediv_cancel _ (by have := two_pos K; omega)
  have HS4 := hid (Calls.mono (shift_neg _ zU K U4 sU (by omega) tU (by omega)) (fun x w' h => Told.num h 60 (by rw [hUK]; exact HA60.out) (by omega)))
  rw [hUK] at HS4
  clear hUK
  go_wp2_with fail
  refine Calls.mono HS4.out ?_
  rintro e U5 ⟨aB, cB, zB, rfl, sB, tB, hvB, lB, hb2⟩
  replace sA := sA.later hb2
  replace sU := sU.later hb2
  replace sP := sP.later hb2
  replace sD := sD.later hb2
  replace hb := bt hb hb2
  have hzB : zB = zA := trimmed_eq sB.wd wA tB tA hvB
  subst hzB
  clear hb2 HS4 hvB
  have hP0 : 0 < zP.length := by
    by_cases c : zP.length = 0
    · have : zP = [] := List.eq_nil_of_length_eq_zero c
      have h := HVP.out
      rw [this, val_nil] at h
      have := two_pos K
      omega
    · omega
  have HDM := hid (divMod_any _ _ zB zP U5 sA sP (by omega) (by omega) tA tP hP0)
  clear hP0
  go_wp2_with fail
  refine Calls.mono HDM.out ?_
  rintro e U6 ⟨vQ, vR, zQ, zR, rfl, sQ, sR, tQ, tR, hq, hr, hb2⟩
  replace sA := sA.later hb2
  replace sU := sU.later hb2
  replace sP := sP.later hb2
  replace sD := sD.later hb2
  replace sB := sB.later hb2
  replace hb := bt hb hb2
  have hQD : zQ = zD := by
    refine trimmed_eq sQ.wd wD tQ tD ?_
    have hp := two_pos K
    have r0 := val_nonneg sR.wd
    rw [HVP.out] at hq hr
    rw [HVD.out, hq, Int.add_comm, Int.add_mul_ediv_right _ _ (by omega), Int.ediv_eq_zero_of_lt r0 hr]
    omega
  subst hQD
  clear hb2 HDM hq hr tR sR
  have HMM := hid (mul_small _ _ zB zP 60 (1 + 94) U6 sA sP tA tP lA lP (by omega) (by omega))
  have HBU := hid (bits_sl _ zU U6 sU (by omega))
  have HBA := hid (bits_sl _ zB U6 sA (by omega))
  have HG := hid (And.intro sA (And.intro sU (And.intro sP (And.intro sD (And.intro sB (And.intro sQ hb))))))
  have hbP : bitsOf zP = K + 1 := bits_is wP (K + 1) (by omega) (by rw [HVP.out]; exact Int.le_refl _) (by rw [HVP.out, Int.pow_succ]; have := two_pos K; omega)
  have HBP := hid hbP
  clear sA sU sP sD sB sQ hb hbP
  by_cases hA0 : zB.length = 0
  · have hzA : zB = [] := List.eq_nil_of_length_eq_zero hA0
    have hzU : zU = [] := trimmed_eq wU Wd.nil tU Trimmed.nil (by rw [HVU.out, hzA, val_nil]; omega)
    subst hzA
    subst hzU
    have hbz : bitsOf [] = 0 := rfl
    rw [hbz] at HBU HBA
    clear hbz hA0
    by_cases hK0 : K = 0
    · subst hK0
      go_wp2_with fail
      refine Calls.mono HBU.out ?_
      rintro e w' ⟨rfl, rfl⟩
      go_wp2_with fail
      refine Calls.mono HBA.out ?_
      rintro e w' ⟨rfl, rfl⟩
      go_wp2_with fail
      refine Calls.mono HMM.out ?_
      rintro e U7 ⟨vM, zM, rfl, sM, tM, hvM, lM, hb2⟩
      obtain ⟨sA, sU, sP, sD, sB, sQ, hb⟩ := HG.out
      replace sA := sA.later hb2
      replace sU := sU.later hb2
      replace sP := sP.later hb2
      replace sD := sD.later hb2
      replace sB := sB.later hb2
      replace sQ := sQ.later hb2
      replace hb := bt hb hb2
      have hUM : [] = zM := trimmed_eq wU sM.wd tU tM (by first | (rw [hvM, val_nil, Int.zero_mul]; done) | rw [hvM, HVU.out, HVP.out])
      have hlM := lM
      rw [← hUM] at sM hlM
      have HSS := hid (same_sl _ _ [] [] U7 sU sM (by first | omega | simp) (by first | omega | simp))
      rw [decide_eq_true rfl] at HSS
      have HG2 := hid (And.intro sA (And.intro sP (And.intro sD (And.intro sB (And.intro sQ hb)))))
      clear sA sU sP sD sB sQ hb hUM hvM sM tM hlM lM hb2 HMM HBU HBA HG
      go_wp2_with fail
      refine Calls.mono HSS.out ?_
      rintro e U8 ⟨rfl, hb2⟩
      obtain ⟨sA, sP, sD, sB, sQ, hb⟩ := HG2.out
      replace sA := sA.later hb2
      replace sP := sP.later hb2
      replace sD := sD.later hb2
      replace sB := sB.later hb2
      replace sQ := sQ.later hb2
      replace hb := bt hb hb2
      have HSS2 := hid (same_sl _ _ zQ zQ U8 sD sQ (by omega) (by omega))
      rw [decide_eq_true rfl] at HSS2
      have HG3 := hid (And.intro sA (And.intro sP (And.intro sB hb)))
      clear sA sP sD sB sQ hb hb2 HSS HG2
      go_wp2_with fail
      refine Calls.mono HSS2.out ?_
      rintro e U9 ⟨rfl, hb2⟩
      obtain ⟨sA, sP, sB, hb⟩ := HG3.out
      replace sA := sA.later hb2
      replace sP := sP.later hb2
      replace sB := sB.later hb2
      replace hb := bt hb hb2
      have HSS3 := hid (same_sl _ _ [] [] U9 sB sA (by first | omega | simp) (by first | omega | simp))
      rw [decide_eq_true rfl] at HSS3
      have HG4 := hid (And.intro sP hb)
      clear sA sP sB hb hb2 HSS2 HG3
      go_wp2_with fail
      refine Calls.mono HSS3.out ?_
      rintro e U10 ⟨rfl, hb2⟩
      obtain ⟨sP, hb⟩ := HG4.out
      replace sP := sP.later hb2
      replace hb := bt hb hb2
      have HBPP := hid (bits_sl _ zP U10 sP (by omega))
      rw [HBP.out] at HBPP
      clear sP hb2 HSS3 HG4
      go_wp2_with fail
      refine Calls.mono HBPP.out ?_
      rintro e w' ⟨rfl, rfl⟩
      go_wp2_with fail
      go_ret
      exact ⟨rfl, hb⟩
    · have hKn : ((0 : Int) == (K : Int)) = false := by simp; omega
      go_wp2_with fail
      refine Calls.mono HBU.out ?_
      rintro e w' ⟨rfl, rfl⟩
      go_wp2_with fail
      refine Calls.mono HBA.out ?_
      rintro e w' ⟨rfl, rfl⟩
      go_wp2_with fail
      refine Calls.mono HMM.out ?_
      rintro e U7 ⟨vM, zM, rfl, sM, tM, hvM, lM, hb2⟩
      obtain ⟨sA, sU, sP, sD, sB, sQ, hb⟩ := HG.out
      replace sA := sA.later hb2
      replace sU := sU.later hb2
      replace sP := sP.later hb2
      replace sD := sD.later hb2
      replace sB := sB.later hb2
      replace sQ := sQ.later hb2
      replace hb := bt hb hb2
      have hUM : [] = zM := trimmed_eq wU sM.wd tU tM (by first | (rw [hvM, val_nil, Int.zero_mul]; done) | rw [hvM, HVU.out, HVP.out])
      have hlM := lM
      rw [← hUM] at sM hlM
      have HSS := hid (same_sl _ _ [] [] U7 sU sM (by first | omega | simp) (by first | omega | simp))
      rw [decide_eq_true rfl] at HSS
      have HG2 := hid (And.intro sA (And.intro sP (And.intro sD (And.intro sB (And.intro sQ hb)))))
      clear sA sU sP sD sB sQ hb hUM hvM sM tM hlM lM hb2 HMM HBU HBA HG
      go_wp2_with fail
      refine Calls.mono HSS.out ?_
      rintro e U8 ⟨rfl, hb2⟩
      obtain ⟨sA, sP, sD, sB, sQ, hb⟩ := HG2.out
      replace sA := sA.later hb2
      replace sP := sP.later hb2
      replace sD := sD.later hb2
      replace sB := sB.later hb2
      replace sQ := sQ.later hb2
      replace hb := bt hb hb2
      have HSS2 := hid (same_sl _ _ zQ zQ U8 sD sQ (by omega) (by omega))
      rw [decide_eq_true rfl] at HSS2
      have HG3 := hid (And.intro sA (And.intro sP (And.intro sB hb)))
      clear sA sP sD sB sQ hb hb2 HSS HG2
      go_wp2_with fail
      refine Calls.mono HSS2.out ?_
      rintro e U9 ⟨rfl, hb2⟩
      obtain ⟨sA, sP, sB, hb⟩ := HG3.out
      replace sA := sA.later hb2
      replace sP := sP.later hb2
      replace sB := sB.later hb2
      replace hb := bt hb hb2
      have HSS3 := hid (same_sl _ _ [] [] U9 sB sA (by first | omega | simp) (by first | omega | simp))
      rw [decide_eq_true rfl] at HSS3
      have HG4 := hid (And.intro sP hb)
      clear sA sP sB hb hb2 HSS2 HG3
      go_wp2_with fail
      refine Calls.mono HSS3.out ?_
      rintro e U10 ⟨rfl, hb2⟩
      obtain ⟨sP, hb⟩ := HG4.out
      replace sP := sP.later hb2
      replace hb := bt hb hb2
      have HBPP := hid (bits_sl _ zP U10 sP (by omega))
      rw [HBP.out] at HBPP
      clear sP hb2 HSS3 HG4
      go_wp2_with fail
      refine Calls.mono HBPP.out ?_
      rintro e w' ⟨rfl, rfl⟩
      go_wp2_with fail
      go_ret
      exact ⟨rfl, hb⟩
  · have hbb := bits_shl wA wU (by rw [tA]; omega) HVU.out
    rw [hbb] at HBU
    obtain ⟨bA, hbA⟩ : ∃ bA, bitsOf zB = bA := ⟨_, rfl⟩
    rw [hbA] at HBU HBA
    have hbl : bA ≤ 1920 := by
      have := (bits_bounds wA (by rw [tA]; omega)).2.2.2.1
      rw [hbA, tA] at this
      omega
    clear hbb hbA hA0
    go_wp2_with fail
    refine Calls.mono HBU.out ?_
    rintro e w' ⟨rfl, rfl⟩
    go_wp2_with fail
    refine Calls.mono HBA.out ?_
    rintro e w' ⟨rfl, rfl⟩
    go_wp2_with fail
    refine Calls.mono HMM.out ?_
    rintro e U7 ⟨vM, zM, rfl, sM, tM, hvM, lM, hb2⟩
    obtain ⟨sA, sU, sP, sD, sB, sQ, hb⟩ := HG.out
    replace sA := sA.later hb2
    replace sU := sU.later hb2
    replace sP := sP.later hb2
    replace sD := sD.later hb2
    replace sB := sB.later hb2
    replace sQ := sQ.later hb2
    replace hb := bt hb hb2
    have hUM : zU = zM := trimmed_eq wU sM.wd tU tM (by first | (rw [hvM, val_nil, Int.zero_mul]; done) | rw [hvM, HVU.out, HVP.out])
    have hlM := lM
    rw [← hUM] at sM hlM
    have HSS := hid (same_sl _ _ zU zU U7 sU sM (by first | omega | simp) (by first | omega | simp))
    rw [decide_eq_true rfl] at HSS
    have HG2 := hid (And.intro sA (And.intro sP (And.intro sD (And.intro sB (And.intro sQ hb)))))
    clear sA sU sP sD sB sQ hb hUM hvM sM tM hlM lM hb2 HMM HBU HBA HG
    go_wp2_with fail
    refine Calls.mono HSS.out ?_
    rintro e U8 ⟨rfl, hb2⟩
    obtain ⟨sA, sP, sD, sB, sQ, hb⟩ := HG2.out
    replace sA := sA.later hb2
    replace sP := sP.later hb2
    replace sD := sD.later hb2
    replace sB := sB.later hb2
    replace sQ := sQ.later hb2
    replace hb := bt hb hb2
    have HSS2 := hid (same_sl _ _ zQ zQ U8 sD sQ (by omega) (by omega))
    rw [decide_eq_true rfl] at HSS2
    have HG3 := hid (And.intro sA (And.intro sP (And.intro sB hb)))
    clear sA sP sD sB sQ hb hb2 HSS HG2
    go_wp2_with fail
    refine Calls.mono HSS2.out ?_
    rintro e U9 ⟨rfl, hb2⟩
    obtain ⟨sA, sP, sB, hb⟩ := HG3.out
    replace sA := sA.later hb2
    replace sP := sP.later hb2
    replace sB := sB.later hb2
    replace hb := bt hb hb2
    have HSS3 := hid (same_sl _ _ zB zB U9 sB sA (by first | omega | simp) (by first | omega | simp))
    rw [decide_eq_true rfl] at HSS3
    have HG4 := hid (And.intro sP hb)
    clear sA sP sB hb hb2 HSS2 HG3
    go_wp2_with fail
    refine Calls.mono HSS3.out ?_
    rintro e U10 ⟨rfl, hb2⟩
    obtain ⟨sP, hb⟩ := HG4.out
    replace sP := sP.later hb2
    replace hb := bt hb hb2
    have HBPP := hid (bits_sl _ zP U10 sP (by omega))
    rw [HBP.out] at HBPP
    clear sP hb2 HSS3 HG4
    go_wp2_with fail
    refine Calls.mono HBPP.out ?_
    rintro e w' ⟨rfl, rfl⟩
    go_wp2_with fail
    go_ret
    exact ⟨rfl, hb⟩
end Go.Proofs.YtbcangblmadnpaaDoor
