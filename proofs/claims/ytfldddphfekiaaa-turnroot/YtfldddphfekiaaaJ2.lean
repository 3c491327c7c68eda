/- My texts on the way to TurnRoot, one behind the other: contracts of the program and of the document's answers. -/
import Derived.Test.YtfldddphfekiaaaJ1
import Derived.Deep.RegionHeld3
import Derived.KernelRfl
/- How far sine and cosine, as the machine makes them, are from the polynomials; the polynomials' squares add up to nearly 1; so the size of a root is nearly 1. Written by tools/mkfe2.py. Nothing here speaks of the program. -/
namespace Go.Proofs.Ytfldddphfekiaaa
open Go.RowKit
set_option linter.unusedVariables false
set_option maxRecDepth 4000

/-- A polynomial's value, the lowest coefficient first. -/
def ev : List Rat → Rat → Rat
  | [], _ => 0
  | a :: l, x => a + x * ev l x
theorem ev_cons (a : Rat) (l : List Rat) (x : Rat) : ev (a :: l) x = a + x * ev l x := rfl
theorem ev_one (a x : Rat) : ev [a] x = a := by simp only [ev]; grind
theorem ev_step (a : Rat) (l : List Rat) (x : Rat) : ev l x * x + a = ev (a :: l) x := by rw [ev_cons]; grind
theorem sin_step (y : Rat) (l : List Rat) (q : Rat) : y + y * q * ev l q = y * ev (1 :: l) q := by rw [ev_cons]; grind
def addP : List Rat → List Rat → List Rat
  | [], m => m
  | a :: l, [] => a :: l
  | a :: l, b :: m => (a + b) :: addP l m
def sclP (c : Rat) : List Rat → List Rat
  | [] => []
  | a :: l => (c * a) :: sclP c l
def mulP : List Rat → List Rat → List Rat
  | [], _ => []
  | a :: l, m => addP (sclP a m) (0 :: mulP l m)
theorem ev_addP (x : Rat) : ∀ l m, ev (addP l m) x = ev l x + ev m x
  | [], m => by simp only [addP, ev]; grind
  | a :: l, [] => by simp only [addP, ev]; grind
  | a :: l, b :: m => by simp only [addP, ev]; rw [ev_addP x l m]; grind
theorem ev_sclP (c x : Rat) : ∀ l, ev (sclP c l) x = c * ev l x
  | [] => by simp only [sclP, ev]; grind
  | a :: l => by simp only [sclP, ev]; rw [ev_sclP c x l]; grind
theorem ev_mulP (x : Rat) : ∀ l m, ev (mulP l m) x = ev l x * ev m x
  | [], m => by simp only [mulP, ev]; grind
  | a :: l, m => by simp only [mulP]; rw [ev_addP, ev_sclP, ev_cons, ev_cons, ev_mulP x l m]; grind
def rab (a : Rat) : Rat := if a < 0 then -a else a
def abP (B : Rat) : List Rat → Rat
  | [] => 0
  | a :: l => rab a + B * abP B l
theorem ev_abP {x B : Rat} (h0 : -B ≤ x) (h1 : x ≤ B) : ∀ l, -(abP B l) ≤ ev l x ∧ ev l x ≤ abP B l
  | [] => by simp only [abP, ev]; grind
  | a :: l => by
    have ih := ev_abP h0 h1 l
    have b := box_mul h0 h1 ih.1 ih.2
    have r : -(rab a) ≤ a ∧ a ≤ rab a := by unfold rab; split <;> grind
    simp only [abP, ev]
    grind
theorem Ap.cast {x : Nat} {v v' B e : Rat} (h : Ap x v B e) (g : v = v') : Ap x v' B e := g ▸ h
theorem one_ap : Ap 4607182418800017408 1 1 0 := by
  refine ⟨⟨by decide, by decide⟩, by decide +kernel, by decide +kernel, ?_, ?_⟩ <;> decide +kernel
theorem gr_n1 : Gr 1022 2 (1 / 9007199254740992) := ⟨by decide, by decide, by decide +kernel, by decide +kernel⟩
theorem gr_0 : Gr 1021 1 (1 / 18014398509481984) := ⟨by decide, by decide, by decide +kernel, by decide +kernel⟩
theorem gr_1 : Gr 1020 (1 / 2) (1 / 36028797018963968) := ⟨by decide, by decide, by decide +kernel, by decide +kernel⟩
theorem gr_2 : Gr 1019 (1 / 4) (1 / 72057594037927936) := ⟨by decide, by decide, by decide +kernel, by decide +kernel⟩
theorem gr_3 : Gr 1018 (1 / 8) (1 / 144115188075855872) := ⟨by decide, by decide, by decide +kernel, by decide +kernel⟩
theorem gr_4 : Gr 1017 (1 / 16) (1 / 288230376151711744) := ⟨by decide, by decide, by decide +kernel, by decide +kernel⟩
theorem gr_5 : Gr 1016 (1 / 32) (1 / 576460752303423488) := ⟨by decide, by decide, by decide +kernel, by decide +kernel⟩
theorem gr_6 : Gr 1015 (1 / 64) (1 / 1152921504606846976) := ⟨by decide, by decide, by decide +kernel, by decide +kernel⟩
theorem gr_7 : Gr 1014 (1 / 128) (1 / 2305843009213693952) := ⟨by decide, by decide, by decide +kernel, by decide +kernel⟩
theorem gr_9 : Gr 1012 (1 / 512) (1 / 9223372036854775808) := ⟨by decide, by decide, by decide +kernel, by decide +kernel⟩
theorem gr_10 : Gr 1011 (1 / 1024) (1 / 18446744073709551616) := ⟨by decide, by decide, by decide +kernel, by decide +kernel⟩
theorem gr_12 : Gr 1009 (1 / 4096) (1 / 73786976294838206464) := ⟨by decide, by decide, by decide +kernel, by decide +kernel⟩
theorem gr_15 : Gr 1006 (1 / 32768) (1 / 590295810358705651712) := ⟨by decide, by decide, by decide +kernel, by decide +kernel⟩
theorem gr_18 : Gr 1003 (1 / 262144) (1 / 4722366482869645213696) := ⟨by decide, by decide, by decide +kernel, by decide +kernel⟩
theorem gr_19 : Gr 1002 (1 / 524288) (1 / 9444732965739290427392) := ⟨by decide, by decide, by decide +kernel, by decide +kernel⟩
theorem gr_21 : Gr 1000 (1 / 2097152) (1 / 37778931862957161709568) := ⟨by decide, by decide, by decide +kernel, by decide +kernel⟩
theorem gr_22 : Gr 999 (1 / 4194304) (1 / 75557863725914323419136) := ⟨by decide, by decide, by decide +kernel, by decide +kernel⟩
theorem gr_25 : Gr 996 (1 / 33554432) (1 / 604462909807314587353088) := ⟨by decide, by decide, by decide +kernel, by decide +kernel⟩
theorem gr_28 : Gr 993 (1 / 268435456) (1 / 4835703278458516698824704) := ⟨by decide, by decide, by decide +kernel, by decide +kernel⟩
theorem gr_29 : Gr 992 (1 / 536870912) (1 / 9671406556917033397649408) := ⟨by decide, by decide, by decide +kernel, by decide +kernel⟩
theorem gr_32 : Gr 989 (1 / 4294967296) (1 / 77371252455336267181195264) := ⟨by decide, by decide, by decide +kernel, by decide +kernel⟩
theorem gr_33 : Gr 988 (1 / 8589934592) (1 / 154742504910672534362390528) := ⟨by decide, by decide, by decide +kernel, by decide +kernel⟩
theorem gr_36 : Gr 985 (1 / 68719476736) (1 / 1237940039285380274899124224) := ⟨by decide, by decide, by decide +kernel, by decide +kernel⟩
theorem gr_37 : Gr 984 (1 / 137438953472) (1 / 2475880078570760549798248448) := ⟨by decide, by decide, by decide +kernel, by decide +kernel⟩
theorem gr_40 : Gr 981 (1 / 1099511627776) (1 / 19807040628566084398385987584) := ⟨by decide, by decide, by decide +kernel, by decide +kernel⟩
theorem gr_44 : Gr 977 (1 / 17592186044416) (1 / 316912650057057350374175801344) := ⟨by decide, by decide, by decide +kernel, by decide +kernel⟩
theorem gr_49 : Gr 972 (1 / 562949953421312) (1 / 10141204801825835211973625643008) := ⟨by decide, by decide, by decide +kernel, by decide +kernel⟩
def cL : List Rat := [1, (-1 / 2), (1 / 24), (-1 / 720), (1 / 40320), (-1 / 3628800), (1 / 479001600), (-1 / 87178291200), (1 / 20922789888000)]
def sL : List Rat := [1, (-1 / 6), (1 / 120), (-1 / 5040), (1 / 362880), (-1 / 39916800), (1 / 6227020800), (-1 / 1307674368000)]
theorem sinA_0 : Ap 13648976655441704991 (-1 / 1307674368000) (440829 / 576460752303423488) (4790310577 / 680564733841876926926749214863536422912) := by
  refine ⟨⟨by decide, by decide⟩, by decide +kernel, by decide +kernel, ?_, ?_⟩ <;> decide +kernel
theorem sinA_1 : Ap 4460272573143870729 (1 / 6227020800) (1481185359 / 9223372036854775808) (2141276915529 / 170141183460469231731687303715884105728) := by
  refine ⟨⟨by decide, by decide⟩, by decide +kernel, by decide +kernel, ?_, ?_⟩ <;> decide +kernel
theorem sinA_2 : Ap 13716528800881525988 (-1 / 39916800) (231064915947 / 9223372036854775808) (1972023525145731 / 1361129467683753853853498429727072845824) := by
  refine ⟨⟨by decide, by decide⟩, by decide +kernel, by decide +kernel, ?_, ?_⟩ <;> decide +kernel
theorem sinA_3 : Ap 4523617214285662004 (1 / 362880) (50834281508239 / 18446744073709551616) (252951384784994293 / 1361129467683753853853498429727072845824) := by
  refine ⟨⟨by decide, by decide⟩, by decide +kernel, by decide +kernel, ?_, ?_⟩ <;> decide +kernel
theorem sinA_4 : Ap 13774824197408792602 (-1 / 5040) (1830034134296583 / 9223372036854775808) (234244369189962561 / 1361129467683753853853498429727072845824) := by
  refine ⟨⟨by decide, by decide⟩, by decide +kernel, by decide +kernel, ?_, ?_⟩ <;> decide +kernel
theorem sinA_5 : Ap 4575957461383581969 (1 / 120) (153722867280912931 / 18446744073709551616) (157412216095654840457 / 1361129467683753853853498429727072845824) := by
  refine ⟨⟨by decide, by decide⟩, by decide +kernel, by decide +kernel, ?_, ?_⟩ <;> decide +kernel
theorem sinA_6 : Ap 13818544856648471893 (-1 / 6) (3074457345618258603 / 18446744073709551616) (12592977287652387236523 / 1361129467683753853853498429727072845824) := by
  refine ⟨⟨by decide, by decide⟩, by decide +kernel, by decide +kernel, ?_, ?_⟩ <;> decide +kernel
theorem cosA_0 : Ap 4407590220077447199 (1 / 20922789888000) (440829 / 9223372036854775808) (598788823 / 1361129467683753853853498429727072845824) := by
  refine ⟨⟨by decide, by decide⟩, by decide +kernel, by decide +kernel, ?_, ?_⟩ <;> decide +kernel
theorem cosA_1 : Ap 13666517717442657437 (-1 / 87178291200) (211597909 / 18446744073709551616) (70287067695 / 340282366920938463463374607431768211456) := by
  refine ⟨⟨by decide, by decide⟩, by decide +kernel, by decide +kernel, ?_, ?_⟩ <;> decide +kernel
theorem cosA_2 : Ap 4477122120089393304 (1 / 479001600) (38510819325 / 18446744073709551616) (164335293762145 / 1361129467683753853853498429727072845824) := by
  refine ⟨⟨by decide, by decide⟩, by decide +kernel, by decide +kernel, ?_, ?_⟩ <;> decide +kernel
theorem cosA_3 : Ap 13732177094651715420 (-1 / 3628800) (635428518853 / 2305843009213693952) (4043867093980365 / 170141183460469231731687303715884105728) := by
  refine ⟨⟨by decide, by decide⟩, by decide +kernel, by decide +kernel, ?_, ?_⟩ <;> decide +kernel
theorem cosA_4 : Ap 4537941361671905306 (1 / 40320) (228754266787073 / 9223372036854775808) (29280546148745321 / 1361129467683753853853498429727072845824) := by
  refine ⟨⟨by decide, by decide⟩, by decide +kernel, by decide +kernel, ?_, ?_⟩ <;> decide +kernel
theorem cosA_5 : Ap 13787419979223755799 (-1 / 720) (6405119470038039 / 4611686018427387904) (72147265710508468543 / 1361129467683753853853498429727072845824) := by
  refine ⟨⟨by decide, by decide⟩, by decide +kernel, by decide +kernel, ?_, ?_⟩ <;> decide +kernel
theorem cosA_6 : Ap 4586165620538955093 (1 / 24) (768614336404564651 / 18446744073709551616) (3148244321913096809131 / 1361129467683753853853498429727072845824) := by
  refine ⟨⟨by decide, by decide⟩, by decide +kernel, by decide +kernel, ?_, ?_⟩ <;> decide +kernel
theorem cosA_7 : Ap 13826050856027422720 (-1 / 2) (1 / 2) 0 := by
  refine ⟨⟨by decide, by decide⟩, by decide +kernel, by decide +kernel, ?_, ?_⟩ <;> decide +kernel
theorem sinA_horn_ap {q r : Nat} (hq : Ap q (rv q) (173627916808751 / 281474976710656) 0) (h : Horn q 13648976655441704991 (sinC.drop 1) r) : Ap r (ev [(-1 / 6), (1 / 120), (-1 / 5040), (1 / 362880), (-1 / 39916800), (1 / 6227020800), (-1 / 1307674368000)] (rv q)) (3170686008859340611 / 18446744073709551616) (4114594642882428676807 / 170141183460469231731687303715884105728) := by
  obtain ⟨p1, s1, m1, a1, ⟨p2, s2, m2, a2, ⟨p3, s3, m3, a3, ⟨p4, s4, m4, a4, ⟨p5, s5, m5, a5, ⟨p6, s6, m6, a6, rfl⟩⟩⟩⟩⟩⟩ := h
  have h0 : Ap 13648976655441704991 (ev [(-1 / 1307674368000)] (rv q)) (440829 / 576460752303423488) (4790310577 / 680564733841876926926749214863536422912) := sinA_0.cast (ev_one _ _).symm
  have u1 := Ap.mul (B2 := (543851 / 1152921504606846976)) (e2 := (74629285531 / 1361129467683753853853498429727072845824)) h0 hq m1 gr_40 (by decide +kernel) (by decide +kernel) (by decide +kernel)
  have h1 : Ap s1 (ev [(1 / 6227020800), (-1 / 1307674368000)] (rv q)) (1485536167 / 9223372036854775808) (34797030654179 / 1361129467683753853853498429727072845824) := (Ap.add (B2 := (1485536167 / 9223372036854775808)) (e2 := (34797030654179 / 1361129467683753853853498429727072845824)) u1 sinA_1 a1 gr_32 (by decide +kernel) (by decide +kernel) (by decide +kernel)).cast (ev_step _ _ _)
  have u2 := Ap.mul (B2 := (1832706787 / 18446744073709551616)) (e2 := (30260650952791 / 1361129467683753853853498429727072845824)) h1 hq m2 gr_33 (by decide +kernel) (by decide +kernel) (by decide +kernel)
  have h2 : Ap s2 (ev [(-1 / 39916800), (1 / 6227020800), (-1 / 1307674368000)] (rv q)) (463962538681 / 18446744073709551616) (2127041994891885 / 680564733841876926926749214863536422912) := (Ap.add (B2 := (463962538681 / 18446744073709551616)) (e2 := (2127041994891885 / 680564733841876926926749214863536422912)) u2 sinA_2 a2 gr_25 (by decide +kernel) (by decide +kernel) (by decide +kernel)).cast (ev_step _ _ _)
  have u3 := Ap.mul (B2 := (286195419607 / 18446744073709551616)) (e2 := (609491586618263 / 170141183460469231731687303715884105728)) h2 hq m3 gr_25 (by decide +kernel) (by decide +kernel) (by decide +kernel)
  have h3 : Ap s3 (ev [(1 / 362880), (-1 / 39916800), (1 / 6227020800), (-1 / 1307674368000)] (rv q)) (25560238463923 / 9223372036854775808) (546057693629652141 / 1361129467683753853853498429727072845824) := (Ap.add (B2 := (25560238463923 / 9223372036854775808)) (e2 := (546057693629652141 / 1361129467683753853853498429727072845824)) u3 sinA_3 a3 gr_18 (by decide +kernel) (by decide +kernel) (by decide +kernel)).cast (ev_step _ _ _)
  have u4 := Ap.mul (B2 := (15766840127277 / 9223372036854775808)) (e2 := (480951026594350935 / 1361129467683753853853498429727072845824)) h3 hq m4 gr_19 (by decide +kernel) (by decide +kernel) (by decide +kernel)
  have h4 : Ap s4 (ev [(-1 / 5040), (1 / 362880), (-1 / 39916800), (1 / 6227020800), (-1 / 1307674368000)] (rv q)) (461450243605965 / 2305843009213693952) (2395242433686733139 / 170141183460469231731687303715884105728) := (Ap.add (B2 := (461450243605965 / 2305843009213693952)) (e2 := (2395242433686733139 / 170141183460469231731687303715884105728)) u4 sinA_4 a4 gr_12 (by decide +kernel) (by decide +kernel) (by decide +kernel)).cast (ev_step _ _ _)
  have u5 := Ap.mul (B2 := (569291419397149 / 4611686018427387904)) (e2 := (30266791706304838921 / 1361129467683753853853498429727072845824)) h4 hq m5 gr_12 (by decide +kernel) (by decide +kernel) (by decide +kernel)
  have h5 : Ap s5 (ev [(1 / 120), (-1 / 5040), (1 / 362880), (-1 / 39916800), (1 / 6227020800), (-1 / 1307674368000)] (rv q)) (156000032958501527 / 18446744073709551616) (684135314259685491401 / 680564733841876926926749214863536422912) := (Ap.add (B2 := (156000032958501527 / 18446744073709551616)) (e2 := (684135314259685491401 / 680564733841876926926749214863536422912)) u5 sinA_5 a5 gr_6 (by decide +kernel) (by decide +kernel) (by decide +kernel)).cast (ev_step _ _ _)
  have u6 := Ap.mul (B2 := (12028582905135251 / 2305843009213693952)) (e2 := (1434313923928461323149 / 1361129467683753853853498429727072845824)) h5 hq m6 gr_7 (by decide +kernel) (by decide +kernel) (by decide +kernel)
  have h6 : Ap r (ev [(-1 / 6), (1 / 120), (-1 / 5040), (1 / 362880), (-1 / 39916800), (1 / 6227020800), (-1 / 1307674368000)] (rv q)) (3170686008859340611 / 18446744073709551616) (4114594642882428676807 / 170141183460469231731687303715884105728) := (Ap.add (B2 := (3170686008859340611 / 18446744073709551616)) (e2 := (4114594642882428676807 / 170141183460469231731687303715884105728)) u6 sinA_6 a6 gr_2 (by decide +kernel) (by decide +kernel) (by decide +kernel)).cast (ev_step _ _ _)
  exact h6
theorem cosA_horn_ap {q r : Nat} (hq : Ap q (rv q) (173627916808751 / 281474976710656) 0) (h : Horn q 4407590220077447199 (cosC.drop 1) r) : Ap r (ev [(-1 / 2), (1 / 24), (-1 / 720), (1 / 40320), (-1 / 3628800), (1 / 479001600), (-1 / 87178291200), (1 / 20922789888000)] (rv q)) (9707348825889345363 / 18446744073709551616) (82904595442300432605321 / 1361129467683753853853498429727072845824) := by
  obtain ⟨p1, s1, m1, a1, ⟨p2, s2, m2, a2, ⟨p3, s3, m3, a3, ⟨p4, s4, m4, a4, ⟨p5, s5, m5, a5, ⟨p6, s6, m6, a6, ⟨p7, s7, m7, a7, rfl⟩⟩⟩⟩⟩⟩⟩ := h
  have h0 : Ap 4407590220077447199 (ev [(1 / 20922789888000)] (rv q)) (440829 / 9223372036854775808) (598788823 / 1361129467683753853853498429727072845824) := cosA_0.cast (ev_one _ _).symm
  have u1 := Ap.mul (B2 := (543851 / 18446744073709551616)) (e2 := (4664330347 / 1361129467683753853853498429727072845824)) h0 hq m1 gr_44 (by decide +kernel) (by decide +kernel) (by decide +kernel)
  have h1 : Ap s1 (ev [(-1 / 87178291200), (1 / 20922789888000)] (rv q)) (3314715 / 288230376151711744) (1385324228903 / 1361129467683753853853498429727072845824) := (Ap.add (B2 := (3314715 / 288230376151711744)) (e2 := (1385324228903 / 1361129467683753853853498429727072845824)) u1 cosA_1 a1 gr_36 (by decide +kernel) (by decide +kernel) (by decide +kernel)).cast (ev_step _ _ _)
  have u2 := Ap.mul (B2 := (16357463 / 2305843009213693952)) (e2 := (702146722773 / 680564733841876926926749214863536422912)) h1 hq m2 gr_37 (by decide +kernel) (by decide +kernel) (by decide +kernel)
  have h2 : Ap s2 (ev [(1 / 479001600), (-1 / 87178291200), (1 / 20922789888000)] (rv q)) (38641679029 / 18446744073709551616) (447214563918347 / 1361129467683753853853498429727072845824) := (Ap.add (B2 := (38641679029 / 18446744073709551616)) (e2 := (447214563918347 / 1361129467683753853853498429727072845824)) u2 cosA_2 a2 gr_28 (by decide +kernel) (by decide +kernel) (by decide +kernel)).cast (ev_step _ _ _)
  have u3 := Ap.mul (B2 := (23836130339 / 18446744073709551616)) (e2 := (416601915122815 / 1361129467683753853853498429727072845824)) h2 hq m3 gr_29 (by decide +kernel) (by decide +kernel) (by decide +kernel)
  have h3 : Ap s3 (ev [(-1 / 3628800), (1 / 479001600), (-1 / 87178291200), (1 / 20922789888000)] (rv q)) (5107264281163 / 18446744073709551616) (68796335685929703 / 1361129467683753853853498429727072845824) := (Ap.add (B2 := (5107264281163 / 18446744073709551616)) (e2 := (68796335685929703 / 1361129467683753853853498429727072845824)) u3 cosA_3 a3 gr_21 (by decide +kernel) (by decide +kernel) (by decide +kernel)).cast (ev_step _ _ _)
  have u4 := Ap.mul (B2 := (3150417376681 / 18446744073709551616)) (e2 := (60451437101024041 / 1361129467683753853853498429727072845824)) h3 hq m4 gr_22 (by decide +kernel) (by decide +kernel) (by decide +kernel)
  have h4 : Ap s4 (ev [(1 / 40320), (-1 / 3628800), (1 / 479001600), (-1 / 87178291200), (1 / 20922789888000)] (rv q)) (460658950950827 / 18446744073709551616) (1197787496231731657 / 680564733841876926926749214863536422912) := (Ap.add (B2 := (460658950950827 / 18446744073709551616)) (e2 := (1197787496231731657 / 680564733841876926926749214863536422912)) u4 cosA_4 a4 gr_15 (by decide +kernel) (by decide +kernel) (by decide +kernel)).cast (ev_step _ _ _)
  have u5 := Ap.mul (B2 := (142078800303297 / 9223372036854775808)) (e2 := (945888525565251795 / 340282366920938463463374607431768211456)) h4 hq m5 gr_15 (by decide +kernel) (by decide +kernel) (by decide +kernel)
  have h5 : Ap s5 (ev [(-1 / 720), (1 / 40320), (-1 / 3628800), (1 / 479001600), (-1 / 87178291200), (1 / 20922789888000)] (rv q)) (12952317740379375 / 9223372036854775808) (223504772402445888651 / 1361129467683753853853498429727072845824) := (Ap.add (B2 := (12952317740379375 / 9223372036854775808)) (e2 := (223504772402445888651 / 1361129467683753853853498429727072845824)) u5 cosA_5 a5 gr_9 (by decide +kernel) (by decide +kernel) (by decide +kernel)).cast (ev_step _ _ _)
  have u6 := Ap.mul (B2 := (499352547557641 / 576460752303423488)) (e2 := (211655956630316707563 / 1361129467683753853853498429727072845824)) h5 hq m6 gr_10 (by decide +kernel) (by decide +kernel) (by decide +kernel)
  have h6 : Ap s6 (ev [(1 / 24), (-1 / 720), (1 / 40320), (-1 / 3628800), (1 / 479001600), (-1 / 87178291200), (1 / 20922789888000)] (rv q)) (784593617926409163 / 18446744073709551616) (4041133380706529365195 / 680564733841876926926749214863536422912) := (Ap.add (B2 := (784593617926409163 / 18446744073709551616)) (e2 := (4041133380706529365195 / 680564733841876926926749214863536422912)) u6 cosA_6 a6 gr_4 (by decide +kernel) (by decide +kernel) (by decide +kernel)).cast (ev_step _ _ _)
  have u7 := Ap.mul (B2 := (483976789034569555 / 18446744073709551616)) (e2 := (7346731716386109186185 / 1361129467683753853853498429727072845824)) h6 hq m7 gr_5 (by decide +kernel) (by decide +kernel) (by decide +kernel)
  have h7 : Ap r (ev [(-1 / 2), (1 / 24), (-1 / 720), (1 / 40320), (-1 / 3628800), (1 / 479001600), (-1 / 87178291200), (1 / 20922789888000)] (rv q)) (9707348825889345363 / 18446744073709551616) (82904595442300432605321 / 1361129467683753853853498429727072845824) := (Ap.add (B2 := (9707348825889345363 / 18446744073709551616)) (e2 := (82904595442300432605321 / 1361129467683753853853498429727072845824)) u7 cosA_7 a7 gr_0 (by decide +kernel) (by decide +kernel) (by decide +kernel)).cast (ev_step _ _ _)
  exact h7
theorem cos_ap {y q r h b : Nat} (hq : Ap q (rv q) (173627916808751 / 281474976710656) 0) (h2 : Horn q 4407590220077447199 (cosC.drop 1) h) (h3 : FN .mul q h b) (h4 : FN .add 4607182418800017408 b r) : Ap r (ev cL (rv q)) (24434724867141247205 / 18446744073709551616) (15002148863611071526207 / 85070591730234615865843651857942052864) := by
  have w := cosA_horn_ap hq h2
  have u := Ap.mul (B2 := (5987980793431695589 / 18446744073709551616)) (e2 := (5557415897871781098815 / 85070591730234615865843651857942052864)) hq w h3 gr_1 (by decide +kernel) (by decide +kernel) (by decide +kernel)
  exact (Ap.add (B2 := (24434724867141247205 / 18446744073709551616)) (e2 := (15002148863611071526207 / 85070591730234615865843651857942052864)) one_ap u h4 gr_n1 (by decide +kernel) (by decide +kernel) (by decide +kernel)).cast rfl
theorem sin_ap {y q r h a b : Nat} (hy : Ap y (rv y) (884279719003555 / 1125899906842624) 0) (hq : Ap q (rv q) (173627916808751 / 281474976710656) 0) (h2 : Horn q 13648976655441704991 (sinC.drop 1) h) (h3 : FN .mul y q a) (h4 : FN .mul a h b) (h5 : FN .add y b r) : Ap r (rv y * ev sL (rv q)) (2003018863849453115 / 2305843009213693952) (26860861032089762570771 / 340282366920938463463374607431768211456) := by
  have w := sinA_horn_ap hq h2
  have ua := Ap.mul (B2 := (4468475395313433787 / 9223372036854775808)) (e2 := (1 / 36028797018963968)) hy hq h3 gr_1 (by decide +kernel) (by decide +kernel) (by decide +kernel)
  have ub := Ap.mul (B2 := (192013999330172475 / 2305843009213693952)) (e2 := (7971395100611181715987 / 340282366920938463463374607431768211456)) ua w h4 gr_3 (by decide +kernel) (by decide +kernel) (by decide +kernel)
  exact (Ap.add (B2 := (2003018863849453115 / 2305843009213693952)) (e2 := (26860861032089762570771 / 340282366920938463463374607431768211456)) hy ub h5 gr_0 (by decide +kernel) (by decide +kernel) (by decide +kernel)).cast (sin_step _ _ _)

theorem pyth_poly {Q : Rat} (h0 : -(173627916808751 / 281474976710656) ≤ Q) (h1 : Q ≤ (173627916808751 / 281474976710656)) : -(51180158045966785253161 / 680564733841876926926749214863536422912) ≤ ev cL Q * ev cL Q + Q * (ev sL Q * ev sL Q) - 1 ∧ ev cL Q * ev cL Q + Q * (ev sL Q * ev sL Q) - 1 ≤ (51180158045966785253161 / 680564733841876926926749214863536422912) := by
  have e : ev (addP (addP (mulP cL cL) (0 :: mulP sL sL)) [-1]) Q = ev cL Q * ev cL Q + Q * (ev sL Q * ev sL Q) - 1 := by
    rw [ev_addP, ev_addP, ev_mulP, ev_cons, ev_mulP]
    simp only [ev]
    grind
  have h := ev_abP h0 h1 (addP (addP (mulP cL cL) (0 :: mulP sL sL)) [-1])
  rw [e] at h
  have d : abP (173627916808751 / 281474976710656) (addP (addP (mulP cL cL) (0 :: mulP sL sL)) [-1]) ≤ (51180158045966785253161 / 680564733841876926926749214863536422912) := by decide +kernel
  grind
theorem sig_le {Q : Rat} (h0 : -(173627916808751 / 281474976710656) ≤ Q) (h1 : Q ≤ (173627916808751 / 281474976710656)) : -(10201291305214482385 / 9223372036854775808) ≤ ev sL Q ∧ ev sL Q ≤ (10201291305214482385 / 9223372036854775808) := by
  have h := ev_abP h0 h1 sL
  have d : abP (173627916808751 / 281474976710656) sL ≤ (10201291305214482385 / 9223372036854775808) := by decide +kernel
  grind
/-- A square, where the number is known but for e. -/
theorem sq_near {r v B e : Rat} (h1 : -B ≤ v) (h2 : v ≤ B) (h3 : -e ≤ r - v) (h4 : r - v ≤ e) : -(e * (2 * B + e)) ≤ r * r - v * v ∧ r * r - v * v ≤ e * (2 * B + e) := by
  have a := box_mul h3 h4 h1 h2
  have b := box_mul h3 h4 h3 h4
  constructor <;> grind
theorem sq_near' {r v B e : Rat} (h1 : -B ≤ r) (h2 : r ≤ B) (h3 : -e ≤ r - v) (h4 : r - v ≤ e) : -(e * (2 * B + e)) ≤ r * r - v * v ∧ r * r - v * v ≤ e * (2 * B + e) := by
  have a := box_mul h3 h4 h1 h2
  have b := box_mul h3 h4 h3 h4
  constructor <;> grind
theorem in_rv {x : Nat} {lo hi : Int} (h : In 1024 lo hi x) : (lo : Rat) * (1 / 1125899906842624) ≤ rv x ∧ rv x ≤ (hi : Rat) * (1 / 1125899906842624) := by
  obtain ⟨f, a, b⟩ := h
  have hb := bT_pos
  obtain ⟨P, hP⟩ : ∃ P : Int, ((2 ^ 1024 : Nat) : Int) = P := ⟨_, rfl⟩
  have e : (P : Rat) = (1 / 1125899906842624) * bT := by rw [← hP]; decide +kernel
  rw [hP] at a b
  have A := Rat.intCast_le_intCast.2 a
  have B := Rat.intCast_le_intCast.2 b
  rw [Rat.intCast_mul, e, rv_sv] at A B
  constructor
  · have := pos_of (a := rv x - (lo : Rat) * (1 / 1125899906842624)) hb (by grind)
    grind
  · have := pos_of (a := (hi : Rat) * (1 / 1125899906842624) - rv x) hb (by grind)
    grind
/-- The squares of a cosine and a sine, as the machine makes them, add up to nearly 1. -/
theorem pyth {y c s : Nat} (hy : In 1024 0 884279719003555 y) (hc : CosR y c) (hs : SineR y s) : -(430762280389531978938799 / 680564733841876926926749214863536422912) ≤ rv c * rv c + rv s * rv s - 1 ∧ rv c * rv c + rv s * rv s - 1 ≤ (430762280389531978938799 / 680564733841876926926749214863536422912) := by
  have ic := in_rv (cos_in hy hc)
  obtain ⟨q, h, b, h1, h2, h3, h4⟩ := hc
  obtain ⟨q', h', a', b', g1, g2, g3, g4, g5⟩ := hs
  have iq : In 1024 (0) (694511667235004) q := In.mul hy hy h1 (s := 50) (by decide) (by decide) (by decide) (by decide) (by decide) (by decide) (by decide) (by decide) (by decide) (by decide) (by decide) (by decide) (by decide)
  obtain rfl := h1.same g1 iq.1
  have ry := in_rv hy
  have rq := in_rv iq
  have k0 : ((0 : Int) : Rat) * (1 / 1125899906842624) = 0 := by decide +kernel
  have k1 : ((884279719003555 : Int) : Rat) * (1 / 1125899906842624) = (884279719003555 / 1125899906842624) := by decide +kernel
  have k2 : ((694511667235004 : Int) : Rat) * (1 / 1125899906842624) = (173627916808751 / 281474976710656) := by decide +kernel
  have k3 : ((1125899906842624 : Int) : Rat) * (1 / 1125899906842624) = 1 := by decide +kernel
  rw [k0, k1] at ry
  rw [k0, k2] at rq
  rw [k0, k3] at ic
  have ay : Ap y (rv y) (884279719003555 / 1125899906842624) 0 := ⟨hy.1, by grind, by grind, by grind, by grind⟩
  have aq : Ap q (rv q) (173627916808751 / 281474976710656) 0 := ⟨iq.1, by grind, by grind, by grind, by grind⟩
  have C := cos_ap (y := y) aq h2 h3 h4
  have S := sin_ap ay aq g2 g3 g4 g5
  have P := pyth_poly aq.lo aq.hi
  have G := sig_le aq.lo aq.hi
  have G2 := box_mul G.1 G.2 G.1 G.2
  have by2 := box_mul ay.lo ay.hi ay.lo ay.hi
  have m0 : (884279719003555 / 1125899906842624) * (884279719003555 / 1125899906842624) ≤ (1 : Rat) := by decide +kernel
  have D := (rmul gr_0 hy.1 hy.1 h1 (by grind) (by grind)).2
  have D2 := box_mul D.1 D.2 G2.1 G2.2
  have c2 := sq_near' (B := 1) (by grind) ic.2 C.dl C.dh
  have s2 := sq_near S.lo S.hi S.dl S.dh
  have t : (15002148863611071526207 / 85070591730234615865843651857942052864) * (2 * 1 + (15002148863611071526207 / 85070591730234615865843651857942052864)) + (26860861032089762570771 / 340282366920938463463374607431768211456) * (2 * (2003018863849453115 / 2305843009213693952) + (26860861032089762570771 / 340282366920938463463374607431768211456)) + 1 / 18014398509481984 * ((10201291305214482385 / 9223372036854775808) * (10201291305214482385 / 9223372036854775808)) + (51180158045966785253161 / 680564733841876926926749214863536422912) ≤ (430762280389531978938799 / 680564733841876926926749214863536422912) := by decide +kernel
  generalize ev cL (rv q) = CC at *
  generalize ev sL (rv q) = SS at *
  have e : rv y * SS * (rv y * SS) = rv q * (SS * SS) - (rv q - rv y * rv y) * (SS * SS) := by grind
  rw [e] at s2
  generalize rv c * rv c = X1 at *
  generalize rv s * rv s = X2 at *
  generalize CC * CC = X3 at *
  generalize rv q * (SS * SS) = X4 at *
  generalize (rv q - rv y * rv y) * (SS * SS) = X5 at *
  clear e G2 by2 D C S G ry rq ic ay aq
  constructor <;> grind
end Go.Proofs.Ytfldddphfekiaaa

/- A quotient of two whole numbers, as the machine makes it, is the float nearest to the fraction: it hangs on the fraction alone. Nothing here speaks of the program. -/
namespace Go.Proofs.Ytfldddphfekiaaa
open Go.RowKit
set_option linter.unusedVariables false

theorem read_small {x : Nat} (h : x < 9218868437227405312) : ∃ m a, Ieee.double.read x = .number false m (-1074 + (a : Nat)) ∧ m * 2 ^ a = rungVal x ∧ m < 9007199254740992 := by
  have e : x % 9223372036854775808 = x := Nat.mod_eq_of_lt (by omega)
  have e0 : x / 9223372036854775808 = 0 := Nat.div_eq_of_lt (by omega)
  unfold Ieee.Format.read
  simp only [dbl_sign, dbl_inf, dbl_binade, dbl_least]
  rw [e, e0]
  by_cases hb : x < 4503599627370496
  · rw [if_pos hb]
    exact ⟨_, 0, rfl, by rw [rungVal, if_pos hb]; simp, by omega⟩
  · rw [if_neg hb, if_pos h]
    exact ⟨_, _, rfl, by rw [rungVal, if_neg hb], by omega⟩

theorem rung_dvd' {r e : Nat} (h : 2 ^ (52 + e) ≤ rungVal r) : ∃ q, rungVal r = q * 2 ^ e := by
  have b52 : (2 : Nat) ^ 52 = 4503599627370496 := by decide
  have hp := Nat.two_pow_pos e
  unfold rungVal at h ⊢
  by_cases hr : r < 4503599627370496
  · rw [if_pos hr] at h ⊢
    by_cases he : e = 0
    · subst he; exact ⟨r, by simp⟩
    · exfalso
      have h1 : 2 ^ 52 ≤ 2 ^ (52 + e) := Nat.pow_le_pow_right (by decide) (by omega)
      omega
  · rw [if_neg hr] at h ⊢
    have hm : r % 4503599627370496 < 4503599627370496 := Nat.mod_lt _ (by decide)
    generalize r % 4503599627370496 = fr at *
    generalize r / 4503599627370496 - 1 = E at *
    by_cases hE : e ≤ E
    · refine ⟨(4503599627370496 + fr) * 2 ^ (E - e), ?_⟩
      rw [Nat.mul_assoc, ← Nat.pow_add, show E - e + e = E by omega]
    · exfalso
      have b53 : (2 : Nat) ^ 53 = 9007199254740992 := by decide
      have h1 : (4503599627370496 + fr) * 2 ^ E < 2 ^ 53 * 2 ^ E := Nat.mul_lt_mul_of_pos_right (by omega) (Nat.two_pow_pos E)
      rw [← Nat.pow_add] at h1
      have h2 : 2 ^ (53 + E) ≤ 2 ^ (52 + e) := Nat.pow_le_pow_right (by decide) (by omega)
      omega

theorem four_mul (N X : Nat) : 2 * (2 * N * X) = N * (4 * X) := by grind

/-- The last digit tells that something is left over: the nearest is that of the whole quotient. -/
theorem sticky {N n f P s : Nat} (hn : 0 < n) (hf : f = N / n) (hr : N % n ≠ 0) (h54 : 18014398509481984 ≤ 2 * f) (hP1 : 53 ≤ P + 1) (hP2 : P ≤ 1990) (h : Mid ((2 * f + 1) * 2 ^ P) 1 s) : Mid (2 * N * 2 ^ P) n s := by
  have hdm := Nat.div_add_mod N n
  have hml := Nat.mod_lt N hn
  rw [← hf] at hdm
  have hp := Nat.two_pow_pos P
  obtain ⟨r0, l1, l2⟩ := rep 4503599627370496 (P + 2) (by decide) (by omega) (by omega)
  have p2 : 2 ^ (P + 2) = 4 * 2 ^ P := by rw [Nat.pow_add]; omega
  have p54 : 2 ^ (52 + (P + 2)) = 4503599627370496 * 2 ^ (P + 2) := by rw [Nat.pow_add]
  have g0 := h.ge (by decide) (r := r0) (by omega) (by
    rw [l2, p2, Nat.mul_one]
    have := Nat.mul_le_mul_right (2 ^ P) (show 18014398509481984 ≤ 2 * f + 1 by omega)
    omega)
  have dv : ∀ r, r0 ≤ r → ∃ t, rungVal r = t * (4 * 2 ^ P) := by
    intro r hr
    have := rungVal_le hr
    rw [l2] at this
    obtain ⟨t, ht⟩ := rung_dvd' (r := r) (e := P + 2) (by rw [p54]; exact this)
    exact ⟨t, by rw [ht, p2]⟩
  obtain ⟨t0, ht0⟩ := dv s g0
  obtain ⟨t1, ht1⟩ := dv (s + 1) (by omega)
  have cut : ∀ t, (2 * f + 1) * 2 ^ P * 2 ≤ t * (4 * 2 ^ P) → f + 1 ≤ t := by
    intro t ht
    have e1 : (2 * f + 1) * 2 ^ P * 2 = (2 * (2 * f + 1)) * 2 ^ P := by rw [Nat.mul_comm, ← Nat.mul_assoc]
    have e2 : t * (4 * 2 ^ P) = (4 * t) * 2 ^ P := by rw [← Nat.mul_assoc, Nat.mul_comm t 4]
    rw [e1, e2] at ht
    have := Nat.le_of_mul_le_mul_right ht hp
    omega
  have cut2 : ∀ t, t * (4 * 2 ^ P) ≤ (2 * f + 1) * 2 ^ P * 2 → t ≤ f := by
    intro t ht
    have e1 : (2 * f + 1) * 2 ^ P * 2 = (2 * (2 * f + 1)) * 2 ^ P := by rw [Nat.mul_comm, ← Nat.mul_assoc]
    have e2 : t * (4 * 2 ^ P) = (4 * t) * 2 ^ P := by rw [← Nat.mul_assoc, Nat.mul_comm t 4]
    rw [e1, e2] at ht
    have := Nat.le_of_mul_le_mul_right ht hp
    omega
  have big : ∀ t, f + 1 ≤ t → 2 * (2 * N * 2 ^ P) < t * (4 * 2 ^ P) * n := by
    intro t ht
    have e1 : 2 * (2 * N * 2 ^ P) = N * (4 * 2 ^ P) := four_mul N (2 ^ P)
    have e2 : t * (4 * 2 ^ P) * n = (n * t) * (4 * 2 ^ P) := by rw [Nat.mul_right_comm, Nat.mul_comm t n]
    rw [e1, e2]
    refine Nat.mul_lt_mul_of_pos_right ?_ (by omega)
    have := Nat.mul_le_mul_left n ht
    rw [Nat.mul_add, Nat.mul_one] at this
    omega
  have small : ∀ t, t ≤ f → t * (4 * 2 ^ P) * n < 2 * (2 * N * 2 ^ P) := by
    intro t ht
    have e1 : 2 * (2 * N * 2 ^ P) = N * (4 * 2 ^ P) := four_mul N (2 ^ P)
    have e2 : t * (4 * 2 ^ P) * n = (n * t) * (4 * 2 ^ P) := by rw [Nat.mul_right_comm, Nat.mul_comm t n]
    rw [e1, e2]
    refine Nat.mul_lt_mul_of_pos_right ?_ (by omega)
    have := Nat.mul_le_mul_left n ht
    omega
  have UP : s < 9218868437227405312 → 2 * (2 * N * 2 ^ P) < (rungVal s + rungVal (s + 1)) * n := by
    intro hs
    have w := h.up hs
    rw [Nat.mul_one, ht0, ht1, ← Nat.add_mul] at w
    rw [ht0, ht1, ← Nat.add_mul]
    exact big _ (cut _ (by omega))
  have DN : 1 ≤ s → (rungVal (s - 1) + rungVal s) * n < 2 * (2 * N * 2 ^ P) := by
    intro hs
    have w := h.down hs
    rcases Nat.lt_or_eq_of_le g0 with g | g
    · obtain ⟨t2, ht2⟩ := dv (s - 1) (by omega)
      rw [Nat.mul_one, ht0, ht2, ← Nat.add_mul] at w
      rw [ht0, ht2, ← Nat.add_mul]
      exact small _ (cut2 _ (by omega))
    · subst g
      have lt := rungVal_lt (show r0 - 1 < r0 by omega)
      have h1 : (rungVal (r0 - 1) + rungVal r0) * n < (2 * rungVal r0) * n := Nat.mul_lt_mul_of_pos_right (by omega) hn
      have h2 : (2 * rungVal r0) * n ≤ 2 * (2 * N * 2 ^ P) := by
        rw [l2, p2]
        have e1 : 2 * (2 * N * 2 ^ P) = N * (4 * 2 ^ P) := four_mul N (2 ^ P)
        have e2 : (2 * (4503599627370496 * (4 * 2 ^ P))) * n = (n * 9007199254740992) * (4 * 2 ^ P) := by
          rw [← Nat.mul_assoc 2, Nat.mul_right_comm, Nat.mul_comm _ n]
        rw [e1, e2]
        refine Nat.mul_le_mul_right _ ?_
        have := Nat.mul_le_mul_left n (show 9007199254740992 ≤ f by omega)
        omega
      omega
  exact ⟨h.top, fun hs => Nat.le_of_lt (UP hs), fun hs => Nat.le_of_lt (DN hs), fun hs e => by have := UP hs; omega, fun hs e => by have := DN hs; omega⟩

theorem quo_mid {a q f : Nat} (ha : a ≤ 4294967296) (h0 : 0 < q) (hq : q ≤ 4294967296) (h : FN .quo (floatOfInt .f64 (a : Int)) (floatOfInt .f64 (q : Int)) f) (E : Nat) (hE : E = 1074) : Mid (a * 2 ^ E) q f := by
  have hx := floatOfInt_nonneg a (by omega)
  have hy := floatOfInt_nonneg q (by omega)
  have vx : rungVal (floatOfInt .f64 (a : Int)) = a * 2 ^ E := by
    have := (int_in (a : Int) (by omega) (by omega)).of_eq
    rw [sv_low (by omega), ← hE, ← Int.natCast_mul] at this
    exact Int.ofNat.inj this
  have vy : rungVal (floatOfInt .f64 (q : Int)) = q * 2 ^ E := by
    have := (int_in (q : Int) (by omega) (by omega)).of_eq
    rw [sv_low (by omega), ← hE, ← Int.natCast_mul] at this
    exact Int.ofNat.inj this
  generalize floatOfInt .f64 (a : Int) = x at *
  generalize floatOfInt .f64 (q : Int) = y at *
  obtain ⟨m, i, e1, v1, s1⟩ := read_small hx
  obtain ⟨n, j, e2, v2, s2⟩ := read_small hy
  rw [vx] at v1
  rw [vy] at v2
  have hpE := Nat.two_pow_pos E
  have hn0 : n ≠ 0 := by
    intro e
    rw [e, Nat.zero_mul] at v2
    have := Nat.mul_pos h0 hpE
    omega
  have hn : 0 < n := Nat.pos_of_ne_zero hn0
  by_cases hm0 : m = 0
  · have e : floatBits .quo .f64 x y = some 0 := by
      show (((Ieee.double.read x).quotient _ (Ieee.double.read y)).map Ieee.double.write) = _
      rw [e1, e2, hm0]
      simp only [Ieee.Datum.quotient, if_neg hn0]
      simp [Ieee.Format.write, Ieee.Format.nearest, Ieee.Format.word]
    obtain rfl := h.eq e
    rw [← v1, hm0, Nat.zero_mul]
    exact mid_zero q
  · have a0 : 0 < a := by
      rcases Nat.eq_zero_or_pos a with e | e
      · rw [e, Nat.zero_mul] at v1
        have := Nat.mul_pos (Nat.pos_of_ne_zero hm0) (Nat.two_pow_pos i)
        omega
      · exact e
    generalize hmore : 54 + n.log2 - m.log2 = more
    have e : floatBits .quo .f64 x y = some (Ieee.double.nearest false (2 * (m <<< more / n) + (m <<< more % n != 0).toNat) (-1074 + (i : Int) - (-1074 + (j : Int)) - (more : Int) - 1)) := by
      show (((Ieee.double.read x).quotient (52 + 2) (Ieee.double.read y)).map Ieee.double.write) = _
      rw [e1, e2]
      simp only [Ieee.Datum.quotient, if_neg hn0]
      rw [hmore]
      rfl
    obtain rfl := h.eq e
    -- the digits
    have lm : 2 ^ m.log2 ≤ m := Nat.log2_self_le hm0
    have lm2 : m < 2 ^ (m.log2 + 1) := Nat.lt_log2_self
    have ln : 2 ^ n.log2 ≤ n := Nat.log2_self_le hn0
    have ln2 : n < 2 ^ (n.log2 + 1) := Nat.lt_log2_self
    have b1 : m.log2 < 53 := by
      have : 2 ^ m.log2 < 2 ^ 53 := Nat.lt_of_le_of_lt lm (by omega)
      exact (Nat.pow_lt_pow_iff_right (by decide)).1 this
    have b2 : E < m.log2 + 1 + i := by
      have g1 : 2 ^ E ≤ a * 2 ^ E := Nat.le_mul_of_pos_left _ a0
      have g2 : m * 2 ^ i < 2 ^ (m.log2 + 1 + i) := by rw [Nat.pow_add]; exact Nat.mul_lt_mul_of_pos_right lm2 (Nat.two_pow_pos i)
      exact (Nat.pow_lt_pow_iff_right (by decide)).1 (Nat.lt_of_le_of_lt g1 (by rw [← v1]; exact g2))
    have b3 : n.log2 + j < 33 + E := by
      have g1 : 2 ^ (n.log2 + j) ≤ n * 2 ^ j := by rw [Nat.pow_add]; exact Nat.mul_le_mul_right _ ln
      have g2 : q * 2 ^ E < 2 ^ (33 + E) := by rw [Nat.pow_add]; exact Nat.mul_lt_mul_of_pos_right (by omega) hpE
      exact (Nat.pow_lt_pow_iff_right (by decide)).1 (Nat.lt_of_le_of_lt g1 (by rw [v2]; exact g2))
    have b4 : m.log2 + i < 33 + E := by
      have g1 : 2 ^ (m.log2 + i) ≤ m * 2 ^ i := by rw [Nat.pow_add]; exact Nat.mul_le_mul_right _ lm
      have g2 : a * 2 ^ E < 2 ^ (33 + E) := by rw [Nat.pow_add]; exact Nat.mul_lt_mul_of_pos_right (by omega) hpE
      exact (Nat.pow_lt_pow_iff_right (by decide)).1 (Nat.lt_of_le_of_lt g1 (by rw [v1]; exact g2))
    have b5 : E < n.log2 + 1 + j := by
      have g1 : 2 ^ E ≤ q * 2 ^ E := Nat.le_mul_of_pos_left _ h0
      have g2 : n * 2 ^ j < 2 ^ (n.log2 + 1 + j) := by rw [Nat.pow_add]; exact Nat.mul_lt_mul_of_pos_right ln2 (Nat.two_pow_pos j)
      exact (Nat.pow_lt_pow_iff_right (by decide)).1 (Nat.lt_of_le_of_lt g1 (by rw [← v2]; exact g2))
    obtain ⟨P, hP⟩ : ∃ P : Nat, more + 1 + P + j = i + E := ⟨i + E - (more + 1 + j), by omega⟩
    have hP1 : 53 ≤ P + 1 := by omega
    have hP2 : P ≤ 1990 := by omega
    have ep : (-1074 + (i : Int) - (-1074 + (j : Int)) - (more : Int) - 1 + 1074).toNat = P := by omega
    have ep2 : (-(-1074 + (i : Int) - (-1074 + (j : Int)) - (more : Int) - 1 + 1074)).toNat = 0 := by omega
    -- many digits
    have hN : m <<< more = m * 2 ^ more := Nat.shiftLeft_eq ..
    rw [hN]
    have hf : 9007199254740992 ≤ m * 2 ^ more / n := by
      rw [Nat.le_div_iff_mul_le hn]
      have g1 : 2 ^ (m.log2 + more) ≤ m * 2 ^ more := by rw [Nat.pow_add]; exact Nat.mul_le_mul_right _ lm
      have g2 : 2 ^ (53 + (n.log2 + 1)) ≤ 2 ^ (m.log2 + more) := Nat.pow_le_pow_right (by decide) (by omega)
      have g3 : 2 ^ (53 + (n.log2 + 1)) = 9007199254740992 * 2 ^ (n.log2 + 1) := by rw [Nat.pow_add]
      have g4 : 9007199254740992 * n ≤ 9007199254740992 * 2 ^ (n.log2 + 1) := Nat.mul_le_mul_left _ (by omega)
      omega
    have fin : ∀ s, Mid (2 * (m * 2 ^ more) * 2 ^ P) n s → Mid (a * 2 ^ E) q s := by
      intro s g
      have g2 := g.scale (2 ^ j) (Nat.two_pow_pos j)
      have ea : 2 * (m * 2 ^ more) * 2 ^ P * 2 ^ j = a * 2 ^ E * 2 ^ E := by
        rw [← v1]
        have : 2 * (m * 2 ^ more) * 2 ^ P * 2 ^ j = m * 2 ^ (more + 1 + P + j) := by
          rw [Nat.pow_add, Nat.pow_add, Nat.pow_add]
          simp only [Nat.mul_comm, Nat.mul_left_comm, Nat.mul_assoc, Nat.pow_one]
        rw [this, hP, Nat.pow_add, Nat.mul_assoc]
      rw [ea, v2] at g2
      exact g2.back _ hpE
    by_cases hr : m * 2 ^ more % n = 0
    · have hz : (m * 2 ^ more % n != 0).toNat = 0 := by simp [hr]
      rw [hz, Nat.add_zero]
      obtain ⟨s, es, ms⟩ := near_is_mid false (2 * (m * 2 ^ more / n)) (-1074 + (i : Int) - (-1074 + (j : Int)) - (more : Int) - 1) (by omega)
      rw [ep, ep2] at ms
      rw [es, word_pos]
      have hdm := Nat.div_add_mod (m * 2 ^ more) n
      rw [hr, Nat.add_zero] at hdm
      have ms2 := ms.scale n hn
      rw [show 2 ^ 0 * n = n by omega] at ms2
      refine fin s ?_
      rw [show 2 * (m * 2 ^ more / n) * 2 ^ P * n = 2 * (n * (m * 2 ^ more / n)) * 2 ^ P by
        simp only [Nat.mul_comm, Nat.mul_left_comm, Nat.mul_assoc], hdm] at ms2
      exact ms2
    · have hz : (m * 2 ^ more % n != 0).toNat = 1 := by simp [hr]
      rw [hz]
      obtain ⟨s, es, ms⟩ := near_is_mid false (2 * (m * 2 ^ more / n) + 1) (-1074 + (i : Int) - (-1074 + (j : Int)) - (more : Int) - 1) (by omega)
      rw [ep, ep2] at ms
      rw [es, word_pos]
      exact fin s (sticky hn rfl hr (by omega) hP1 hP2 ms)

/-- A quotient hangs on the fraction alone. -/
theorem quo_same {a q a' q' f f' : Nat} (ha : a ≤ 4294967296) (h0 : 0 < q) (hq : q ≤ 4294967296) (ha' : a' ≤ 4294967296) (h0' : 0 < q') (hq' : q' ≤ 4294967296) (h : FN .quo (floatOfInt .f64 (a : Int)) (floatOfInt .f64 (q : Int)) f) (h' : FN .quo (floatOfInt .f64 (a' : Int)) (floatOfInt .f64 (q' : Int)) f') (e : a * q' = a' * q) : f = f' := by
  obtain ⟨E, hE⟩ : ∃ E, E = 1074 := ⟨_, rfl⟩
  have m := (quo_mid ha h0 hq h E hE).scale q' h0'
  have m' := (quo_mid ha' h0' hq' h' E hE).scale q h0
  rw [Nat.mul_right_comm, e, Nat.mul_right_comm a', ] at m
  rw [Nat.mul_comm q' q] at m'
  exact m.unique (Nat.mul_pos h0 h0') m'
end Go.Proofs.Ytfldddphfekiaaa

/- package turn: Sub, Neg, Times, Of: of every turn, every two numbers. -/
namespace Go.Proofs.Ytfldddphfekiaaa
open Go.RowKit
set_option linter.unusedVariables false

/-- What Neg tells. -/
def negR (p q : Int) : Int × Int × Int := if okI p q then ((-p) % q, q, 0) else (0, 0, 180)

set_option maxHeartbeats 1600000 in
set_option maxRecDepth 100000 in
theorem tneg_any (p q : Int) (w : World) (h : in64 p q) :
    Calls Try.prog 8 #[.agg #[.int .i64 p, .int .i64 q]] w fun e w' => e = .returned (tV (negR p q)) ∧ Below w.heap.size w w' := by
  have HX := hid (boxes2 w 23 #[.int .i64 p, .int .i64 q] #[.int .i64 0, .int .i64 0])
  have HC := hid (fun V => tcheck_any p q V h.1.1 h.1.2 h.2.1 h.2.2)
  have HO := hid (chk_or p q)
  have HV1 : Hid (okI p q → negR p q = ((-p) % q, q, 0)) := fun h => by unfold negR; rw [if_pos h]
  have HV2 : Hid (¬ okI p q → negR p q = (0, 0, 180)) := fun h => by unfold negR; rw [if_neg h]
  have HK : Hid (okI p q → ∀ V, Calls Try.prog 18 #[.agg #[.int .i64 p, .int .i64 q]] V fun e w' => e = .returned (.agg #[.int .i64 ((-p) % q), .int .i64 q]) ∧ Below V.heap.size V w') := fun h V => tback_any p q V h.2.2.1 h.2.2.2.1 h.2.1
  clear h
  obtain ⟨r', hr'⟩ : ∃ r', (-p) % q = r' := ⟨_, rfl⟩
  rw [hr'] at HV1 HK
  clear hr'
  go_enter Try.func8, Try.ntmps8
  go_wp2_with fail
  generalize (w.alloc (.cells #[.int .i64 p, .int .i64 q] 23)).alloc (.cells #[.int .i64 0, .int .i64 0] 23) = X at *
  refine Calls.mono (HC.out X) ?_
  rintro e w1 ⟨rfl, hb1⟩
  obtain ⟨c0, c1, f0, f1⟩ := fbox_facts HX.out.1 hb1
  obtain ⟨c2, c3, f2, f3⟩ := fbox_facts HX.out.2.1 hb1
  rcases HO.out with ⟨e, ho⟩ | ⟨e, ho⟩
  · rw [e]
    have HR := hid (HV1.out ho)
    have HK' := hid (HK.out ho)
    clear HO HV1 HV2 HK e ho HC
    go_wp2_with fail
    refine Calls.mono (HK'.out w1) ?_
    rintro e w2 ⟨rfl, hb2⟩
    clear c0 c1 c2 c3 f0 f1 f2 f3 HK'
    obtain ⟨c2, c3, f2, f3⟩ := fbox_facts HX.out.2.1 (b2 hb1 hb2)
    have HB := hid (b2 HX.out.2.2 (b2 hb1 hb2))
    clear hb1 hb2 HX
    go_wp2_with fail
    refine bodyPost_ret (v := Value.tuple #[.agg #[.int .i64 r', .int .i64 q], .int .i64 0]) (by simp [results, Try.results8, go_sem, c2, c3]) rfl ?_
    exact ⟨by rw [HR.out]; rfl, fput2 HB.out _ (by omega) _ _⟩
  · rw [e]
    have HR := hid (HV2.out ho)
    have HB := hid (b2 HX.out.2.2 hb1)
    clear HO HV1 HV2 HK e ho HC hb1
    go_wp2_with fail
    refine bodyPost_ret (v := Value.tuple #[.agg #[.int .i64 0, .int .i64 0], .int .i64 180]) (by simp [results, Try.results8, go_sem, c2, c3]) rfl ?_
    exact ⟨by rw [HR.out]; rfl, fput2 HB.out _ (by omega) _ _⟩

theorem tlowI (p q : Int) (w : World) (h0 : 0 ≤ p) (h1 : p < q) (h2 : q ≤ 4294967296) :
    Calls Try.prog 19 #[.int .u64 p, .int .u64 q] w fun e w' => e = .returned (tV (lowR p.toNat q.toNat)) ∧ Below w.heap.size w w' := by
  obtain ⟨a, rfl⟩ := Int.eq_ofNat_of_zero_le h0
  obtain ⟨b, rfl⟩ := Int.eq_ofNat_of_zero_le (show 0 ≤ q by omega)
  exact tlowest_any a b w (by omega) (by omega)
theorem twithI (p q : Int) (w : World) (h0 : -9223372036854775808 ≤ p) (h1 : p ≤ 9223372036854775807) (hq : 0 < q) (hq' : q ≤ 4294967296) :
    Calls Try.prog 20 #[.int .i64 p, .int .i64 q] w fun e w' => e = .returned (.int .i64 (p % q)) ∧ w' = w := by
  obtain ⟨b, rfl⟩ := Int.eq_ofNat_of_zero_le (show 0 ≤ q by omega)
  exact twithin_any p b w h0 h1 (by omega) (by omega)

/-- What Times tells. -/
def timesR (p q n : Int) : Int × Int × Int := if okI p q then lowR ((p * n) % q).toNat q.toNat else (0, 0, 180)
theorem prod_in {p q n : Int} (h0 : 0 ≤ p) (h1 : p < q) (h2 : q ≤ 4294967296) (n0 : -2147483648 ≤ n) (n1 : n ≤ 2147483647) : -9223372036854775808 ≤ p * n ∧ p * n ≤ 9223372036854775807 := by
  have a : p * n ≤ p * 2147483647 := Int.mul_le_mul_of_nonneg_left n1 h0
  have b : p * (-2147483648) ≤ p * n := Int.mul_le_mul_of_nonneg_left n0 h0
  omega

/-- What Of tells. -/
def ofR (p q : Int) : Int × Int × Int := if q = 0 then (0, 0, 7) else if q < 0 ∨ 4294967296 < q then (0, 0, 2) else lowR (p % q).toNat q.toNat

set_option maxHeartbeats 1600000 in
set_option maxRecDepth 100000 in
theorem tof_any (p q : Int) (w : World) (h : in64 p q) :
    Calls Try.prog 9 #[.int .i64 p, .int .i64 q] w fun e w' => e = .returned (tV (ofR p q)) ∧ Below w.heap.size w w' := by
  have HX := hid (boxes1 w 23 #[.int .i64 0, .int .i64 0])
  obtain ⟨c4, c5, f4, f5⟩ := fbox_facts HX.out.1 (Below.refl _ _)
  obtain ⟨⟨p0, p1⟩, q0, q1⟩ := h
  by_cases h0 : q = 0
  · subst h0
    have HR : Hid (ofR p 0 = (0, 0, 7)) := by show _ = _; unfold ofR; rw [if_pos rfl]
    go_enter Try.func9, Try.ntmps9
    go_wp2_with fail
    refine bodyPost_ret (v := Value.tuple #[.agg #[.int .i64 0, .int .i64 0], .int .i64 7]) (by simp [results, Try.results9, go_sem, c4, c5]) rfl ?_
    exact ⟨by rw [HR.out]; rfl, HX.out.2⟩
  · by_cases h1 : q < 0 ∨ 4294967296 < q
    · have HR : Hid (ofR p q = (0, 0, 2)) := by show _ = _; unfold ofR; rw [if_neg h0, if_pos h1]
      go_enter Try.func9, Try.ntmps9
      go_wp2_with fail
      all_goals
        refine bodyPost_ret (v := Value.tuple #[.agg #[.int .i64 0, .int .i64 0], .int .i64 2]) (by simp [results, Try.results9, go_sem, c4, c5]) rfl ?_
        exact ⟨by rw [HR.out]; rfl, HX.out.2⟩
    · have HR : Hid (ofR p q = lowR (p % q).toNat q.toNat) := by show _ = _; unfold ofR; rw [if_neg h0, if_neg h1]
      have g1 : 0 < q := by omega
      have g2 : q ≤ 4294967296 := by omega
      have g7 : 0 ≤ p % q := Int.emod_nonneg _ h0
      have g8 : p % q < q := Int.emod_lt_of_pos _ g1
      have h1' : ¬ q < 0 := by omega
      clear h1
      go_enter Try.func9, Try.ntmps9
      go_wp2_with fail
      refine Calls.mono (twithI _ q _ p0 p1 g1 g2) ?_
      rintro e w2 ⟨rfl, rfl⟩
      go_wp2_with fail
      refine Calls.mono (tlowI _ q _ g7 g8 g2) ?_
      rintro e w3 ⟨rfl, hb2⟩
      clear c4 c5 f4 f5
      obtain ⟨c2, c3, f2, f3⟩ := fbox_facts HX.out.1 hb2
      have HB := hid (b2 HX.out.2 hb2)
      clear hb2 HX
      rw [← HR.out]
      obtain ⟨T, hT⟩ : ∃ T, ofR p q = T := ⟨_, rfl⟩
      have HT := hid hT
      rw [hT]
      clear hT HR
      obtain ⟨t1, t2, t3⟩ := T
      rw [show tV (t1, t2, t3) = Value.tuple #[.agg #[.int .i64 t1, .int .i64 t2], .int .i64 t3] from rfl]
      go_wp2_with fail
      refine bodyPost_ret (v := Value.tuple #[.agg #[.int .i64 t1, .int .i64 t2], .int .i64 t3]) (by simp [results, Try.results9, go_sem, c2, c3]) rfl ?_
      exact ⟨by rw [HT.out]; rfl, fput2 HB.out _ (Nat.le_refl _) _ _⟩
end Go.Proofs.Ytfldddphfekiaaa

/- Turns are a group: sums, opposites, multiples of sizes, whole turns left out. Nothing here speaks of the program. -/
namespace Go.Proofs.Ytfldddphfekiaaa
open Go.RowKit
set_option linter.unusedVariables false

/-- A size in lowest terms, or refused. -/
def canon (r : Rat) : Int × Int × Int := if r.den ≤ 4294967296 then (r.num, (r.den : Int), 0) else (0, 0, 3)

theorem frac_bounds (x : Rat) : 0 ≤ frac x ∧ frac x < 1 := by
  unfold frac
  have a := Rat.floor_le x
  have b := Rat.lt_floor_add_one x
  rw [Rat.intCast_add] at b
  constructor
  · grind
  · have : (((1 : Int) : Rat)) = 1 := rfl
    grind
theorem frac_self {x : Rat} (h0 : 0 ≤ x) (h1 : x < 1) : frac x = x := frac_unique 0 (by simp; grind) h0 h1
theorem frac_add_frac (x y : Rat) : frac (x + frac y) = frac (x + y) := by
  have e : x + y = (x + frac y) + (y.floor : Rat) := by unfold frac; grind
  rw [e, frac_add_int]
theorem frac_frac_add (x y : Rat) : frac (frac x + y) = frac (x + y) := by
  rw [Rat.add_comm, frac_add_frac, Rat.add_comm]

theorem lowR_canon (p q : Nat) (hq : 0 < q) : lowR p q = canon (mkRat p q) := by
  obtain ⟨a, b⟩ := mkRat_nd p q hq
  unfold lowR canon
  rw [a, b]

theorem mkRat_unit (z : Int) (q : Nat) (hq : 0 < q) (h0 : 0 ≤ z) (h1 : z < q) : 0 ≤ mkRat z q ∧ mkRat z q < 1 := by
  rw [Rat.mkRat_eq_div]
  have hq' : (0 : Rat) < (q : Rat) := by exact_mod_cast hq
  have h0' : (0 : Rat) ≤ (z : Rat) := by exact_mod_cast h0
  have h1' : (z : Rat) < ((q : Int) : Rat) := by exact_mod_cast h1
  have e : (((q : Int) : Rat)) = (q : Rat) := rfl
  rw [e] at h1'
  constructor
  · refine Rat.not_lt.1 fun h => ?_
    rw [Rat.div_lt_iff hq'] at h; grind
  · rw [Rat.div_lt_iff hq']; grind

/-- What is left of whole turns. -/
theorem mkRat_mod (z : Int) (q : Nat) (hq : 0 < q) : mkRat (z % q) q = frac (mkRat z q) := by
  have hb := mkRat_unit (z % q) q hq (Int.emod_nonneg _ (by omega)) (Int.emod_lt_of_pos _ (by omega))
  refine (frac_unique (z / q) ?_ hb.1 hb.2).symm
  have hq' : ((q : Rat)) ≠ 0 := by
    intro h; have : q = 0 := by exact_mod_cast h
    omega
  rw [Rat.mkRat_eq_div, Rat.mkRat_eq_div]
  have e : (z : Rat) = ((z % q : Int) : Rat) + ((z / q : Int) : Rat) * (q : Rat) := by
    have := Int.emod_add_mul_ediv z q
    have e2 : ((((z % q) + q * (z / q) : Int)) : Rat) = (z : Rat) := by rw [this]
    rw [Rat.intCast_add, Rat.intCast_mul] at e2
    have e3 : (((q : Int) : Rat)) = (q : Rat) := rfl
    rw [e3] at e2
    grind
  rw [e]
  grind

/-- A turn's size. -/
def vI (p q : Int) : Rat := mkRat p q.toNat

theorem vI_nd {p q : Int} (h : okI p q) : (vI p q).num = p ∧ ((vI p q).den : Int) = q ∧ 0 ≤ vI p q ∧ vI p q < 1 := by
  obtain ⟨h1, h2, h3, h4, h5⟩ := h
  obtain ⟨a, rfl⟩ := Int.eq_ofNat_of_zero_le h3
  obtain ⟨b, rfl⟩ := Int.eq_ofNat_of_zero_le (show 0 ≤ q by omega)
  have e := mkRat_nd a b (by omega)
  simp only [Int.toNat_natCast] at h5
  rw [h5, Nat.div_one, Nat.div_one] at e
  unfold vI
  simp only [Int.toNat_natCast]
  have u := mkRat_unit a b (by omega) (by omega) (by omega)
  exact ⟨e.1, by rw [e.2], u.1, u.2⟩
theorem canon_vI {p q : Int} (h : okI p q) : canon (vI p q) = (p, q, 0) := by
  obtain ⟨a, b, _, _⟩ := vI_nd h
  have := h.2.1
  unfold canon
  rw [if_pos (by omega), a, b]
theorem canon_ok {r : Rat} (h0 : 0 ≤ r) (h1 : r < 1) (hd : r.den ≤ 4294967296) : okI r.num r.den ∧ vI r.num r.den = r := by
  have hn : 0 ≤ r.num := Rat.num_nonneg.2 h0
  have hdp := r.den_pos
  have hl : r.num < (r.den : Int) := by
    have h2 : mkRat r.num r.den < 1 := by rw [Rat.mkRat_self]; exact h1
    have hq' : (0 : Rat) < (r.den : Rat) := by exact_mod_cast hdp
    rw [Rat.mkRat_eq_div, Rat.div_lt_iff hq'] at h2
    have e : (r.num : Rat) < (((r.den : Int)) : Rat) := by
      have e3 : ((((r.den : Int)) : Rat)) = (r.den : Rat) := rfl
      rw [e3]; grind
    exact_mod_cast e
  refine ⟨⟨by omega, by omega, hn, hl, ?_⟩, ?_⟩
  · have := r.reduced
    unfold Nat.Coprime at this
    rw [← this]
    simp only [Int.toNat_natCast]
    congr 1
    omega
  · unfold vI; simp only [Int.toNat_natCast]; exact Rat.mkRat_self r
theorem canon_cases (r : Rat) : (canon r = (r.num, (r.den : Int), 0) ∧ r.den ≤ 4294967296) ∨ (canon r = (0, 0, 3) ∧ ¬ r.den ≤ 4294967296) := by
  unfold canon
  by_cases h : r.den ≤ 4294967296
  · rw [if_pos h]; exact .inl ⟨rfl, h⟩
  · rw [if_neg h]; exact .inr ⟨rfl, h⟩

theorem sumR_canon {p q r s : Nat} (hq : 0 < q) (hs : 0 < s) : sumR p q r s = canon (frac (mkRat p q + mkRat r s)) := by
  have hd : 0 < Nat.gcd q s := Nat.gcd_pos_of_pos_right _ hs
  obtain ⟨a, ha⟩ := Nat.gcd_dvd_left q s
  obtain ⟨b, hb⟩ := Nat.gcd_dvd_right q s
  have e1 : q / Nat.gcd q s = a := Nat.div_eq_of_eq_mul_right hd ha
  have e2 : s / Nat.gcd q s = b := Nat.div_eq_of_eq_mul_right hd hb
  have a0 : 0 < a := by
    rcases Nat.eq_zero_or_pos a with h | h
    · rw [h] at ha; omega
    · exact h
  unfold sumR
  rw [e1, e2]
  have hW : 0 < a * s := Nat.mul_pos a0 hs
  rw [lowR_canon _ _ hW]
  congr 1
  have h1 := mkRat_mod ((p * b + r * a : Nat) : Int) (a * s) hW
  have h2 : (((p * b + r * a : Nat) : Int)) % ((a * s : Nat) : Int) = (((p * b + r * a) % (a * s) : Nat) : Int) := rfl
  rw [h2] at h1
  rw [h1]
  congr 1
  rw [Rat.mkRat_add_mkRat _ _ (by omega) (by omega)]
  generalize hD : Nat.gcd q s = d at *
  have e3 : ((p : Int) * (s : Int) + (r : Int) * (q : Int)) = (((p * b + r * a : Nat) : Int)) * (d : Int) := by
    rw [ha, hb]; push_cast; grind
  have e4 : q * s = (a * s) * d := by rw [ha]; grind
  rw [e3, e4, Rat.mkRat_mul_right (by omega)]

theorem nat_of {p q : Int} (h : okI p q) : ∃ a b : Nat, p = a ∧ q = b ∧ 0 < b := by
  obtain ⟨h1, h2, h3, h4, h5⟩ := h
  obtain ⟨a, rfl⟩ := Int.eq_ofNat_of_zero_le h3
  obtain ⟨b, rfl⟩ := Int.eq_ofNat_of_zero_le (show 0 ≤ q by omega)
  exact ⟨a, b, rfl, rfl, by omega⟩
theorem addR_canon {p q r s : Int} (h : okI p q) (g : okI r s) : addR p q r s = canon (frac (vI p q + vI r s)) := by
  unfold addR
  rw [if_pos ⟨h, g⟩]
  obtain ⟨a, b, rfl, rfl, hb⟩ := nat_of h
  obtain ⟨c, d, rfl, rfl, hd⟩ := nat_of g
  unfold vI
  simp only [Int.toNat_natCast]
  exact sumR_canon hb hd
theorem vI_neg {p q : Int} (h : okI p q) : vI ((-p) % q) q = frac (-(vI p q)) := by
  obtain ⟨a, b, rfl, rfl, hb⟩ := nat_of h
  unfold vI
  simp only [Int.toNat_natCast]
  rw [mkRat_mod _ _ hb, Rat.neg_mkRat]
theorem times_v {p q : Int} (h : okI p q) (n : Int) : mkRat ((p * n) % q) q.toNat = frac ((n : Rat) * vI p q) := by
  obtain ⟨a, b, rfl, rfl, hb⟩ := nat_of h
  unfold vI
  simp only [Int.toNat_natCast]
  rw [mkRat_mod _ _ hb]
  congr 1
  rw [Rat.mkRat_eq_div, Rat.mkRat_eq_div, Rat.intCast_mul]
  grind
theorem timesR_canon {p q : Int} (h : okI p q) (n : Int) : timesR p q n = canon (frac ((n : Rat) * vI p q)) := by
  unfold timesR
  rw [if_pos h, ← times_v h]
  have hq : 0 < q.toNat := by have := h.1; omega
  rw [lowR_canon _ _ hq]
  congr 2
  have := Int.emod_nonneg (p * n) (show q ≠ 0 by have := h.1; omega)
  omega
theorem times_den {p q : Int} (h : okI p q) (n : Int) : (frac ((n : Rat) * vI p q)).den ≤ 4294967296 := by
  rw [← times_v h, Rat.den_mkRat]
  have := h.2.1
  split
  · omega
  · exact Nat.le_trans (Nat.div_le_self _ _) (by omega)

/-- Sums in any order. -/
theorem add_comm' {p q r s : Int} (h : okI p q) (g : okI r s) : addR p q r s = addR r s p q := by
  rw [addR_canon h g, addR_canon g h, Rat.add_comm]
theorem add_told {p q r s : Int} (h : okI p q) (g : okI r s) (e : (addR p q r s).2.2 = 0) : okI (addR p q r s).1 (addR p q r s).2.1 ∧ vI (addR p q r s).1 (addR p q r s).2.1 = frac (vI p q + vI r s) := by
  rw [addR_canon h g] at e ⊢
  have b := frac_bounds (vI p q + vI r s)
  rcases canon_cases (frac (vI p q + vI r s)) with ⟨e1, hd⟩ | ⟨e1, _⟩
  · rw [e1]; exact canon_ok b.1 b.2 hd
  · rw [e1] at e; exact absurd e (by decide)
theorem add_assoc' {p q r s t u : Int} (h : okI p q) (g : okI r s) (k : okI t u) (e : (addR p q r s).2.2 = 0) (f : (addR r s t u).2.2 = 0) : addR (addR p q r s).1 (addR p q r s).2.1 t u = addR p q (addR r s t u).1 (addR r s t u).2.1 := by
  obtain ⟨o1, v1⟩ := add_told h g e
  obtain ⟨o2, v2⟩ := add_told g k f
  rw [addR_canon o1 k, addR_canon h o2, v1, v2, frac_frac_add, frac_add_frac, Rat.add_assoc]
theorem sub_back' {p q r s : Int} (h : okI p q) (g : okI r s) (e : (addR p q r s).2.2 = 0) : subR (addR p q r s).1 (addR p q r s).2.1 r s = (p, q, 0) := by
  obtain ⟨o1, v1⟩ := add_told h g e
  unfold subR
  rw [if_pos ⟨o1, g⟩, addR_canon o1 (gcd_back g), v1, vI_neg g, frac_frac_add, frac_add_frac]
  have e2 : vI p q + vI r s + -vI r s = vI p q := by grind
  obtain ⟨_, _, b0, b1⟩ := vI_nd h
  rw [e2, frac_self b0 b1, canon_vI h]
theorem ok01 : okI 0 1 := ⟨by decide, by decide, by decide, by decide, by decide⟩
theorem v01 : vI 0 1 = 0 := by unfold vI; simp
theorem neg_zero' {p q : Int} (h : okI p q) : negR p q = ((-p) % q, q, 0) ∧ addR p q ((-p) % q) q = (0, 1, 0) := by
  refine ⟨by unfold negR; rw [if_pos h], ?_⟩
  rw [addR_canon h (gcd_back h), vI_neg h, frac_add_frac]
  have e2 : vI p q + -vI p q = 0 := by grind
  rw [e2, frac_self (Rat.le_refl) (by decide), ← v01, canon_vI ok01]
/-- A turn added again and again. -/
def iterR (p q : Int) (i : Nat) : Int × Int × Int := canon (frac (((i : Int) : Rat) * vI p q))
theorem iter_ok {p q : Int} (h : okI p q) (i : Nat) : (iterR p q i).2.2 = 0 ∧ okI (iterR p q i).1 (iterR p q i).2.1 ∧ vI (iterR p q i).1 (iterR p q i).2.1 = frac (((i : Int) : Rat) * vI p q) := by
  have b := frac_bounds (((i : Int) : Rat) * vI p q)
  have hd := times_den h (i : Int)
  unfold iterR
  rcases canon_cases (frac (((i : Int) : Rat) * vI p q)) with ⟨e1, hd⟩ | ⟨e1, hn⟩
  · rw [e1]; exact ⟨rfl, canon_ok b.1 b.2 hd⟩
  · exact absurd hd hn
theorem iter_zero (p q : Int) : iterR p q 0 = (0, 1, 0) := by
  unfold iterR
  have e : (((0 : Nat) : Int) : Rat) * vI p q = 0 := by simp
  rw [e, frac_self (Rat.le_refl) (by decide), ← v01, canon_vI ok01]
theorem iter_succ {p q : Int} (h : okI p q) (i : Nat) : addR (iterR p q i).1 (iterR p q i).2.1 p q = iterR p q (i + 1) := by
  obtain ⟨_, o, v⟩ := iter_ok h i
  rw [addR_canon o h, v, frac_frac_add]
  unfold iterR
  congr 2
  have e : (((i + 1 : Nat) : Int) : Rat) = ((i : Int) : Rat) + 1 := by
    rw [Int.natCast_add, Rat.intCast_add]; rfl
  rw [e]; grind
theorem times_iter {p q : Int} (h : okI p q) (n : Nat) : timesR p q (n : Int) = iterR p q n := timesR_canon h n

end Go.Proofs.Ytfldddphfekiaaa

/- The number at nought and at the quarters; slackwaterkit.SameNumber; the law's own add and lives. -/
namespace Go.Proofs.Ytfldddphfekiaaa
open Go.RowKit
set_option linter.unusedVariables false

theorem fn_det {op : BinOp} {x y r s : Nat} (h : FN op x y r) (g : floatBits op .f64 x y = some s) : r = s := by
  rcases h.2 with h | ⟨h, _⟩
  · rw [h] at g; exact Option.some.inj g
  · rw [h] at g; cases g

theorem hornS0 {r : Nat} (h : Horn 0 13648976655441704991 (sinC.drop 1) r) : r = 13818544856648471893 := by
  obtain ⟨p1, s1, m1, a1, ⟨p2, s2, m2, a2, ⟨p3, s3, m3, a3, ⟨p4, s4, m4, a4, ⟨p5, s5, m5, a5, ⟨p6, s6, m6, a6, rfl⟩⟩⟩⟩⟩⟩ := h
  obtain rfl := fn_det m1 (show floatBits .mul .f64 13648976655441704991 0 = some 9223372036854775808 by kernel_rfl)
  obtain rfl := fn_det a1 (show floatBits .add .f64 9223372036854775808 4460272573143870729 = some 4460272573143870729 by kernel_rfl)
  obtain rfl := fn_det m2 (show floatBits .mul .f64 4460272573143870729 0 = some 0 by kernel_rfl)
  obtain rfl := fn_det a2 (show floatBits .add .f64 0 13716528800881525988 = some 13716528800881525988 by kernel_rfl)
  obtain rfl := fn_det m3 (show floatBits .mul .f64 13716528800881525988 0 = some 9223372036854775808 by kernel_rfl)
  obtain rfl := fn_det a3 (show floatBits .add .f64 9223372036854775808 4523617214285662004 = some 4523617214285662004 by kernel_rfl)
  obtain rfl := fn_det m4 (show floatBits .mul .f64 4523617214285662004 0 = some 0 by kernel_rfl)
  obtain rfl := fn_det a4 (show floatBits .add .f64 0 13774824197408792602 = some 13774824197408792602 by kernel_rfl)
  obtain rfl := fn_det m5 (show floatBits .mul .f64 13774824197408792602 0 = some 9223372036854775808 by kernel_rfl)
  obtain rfl := fn_det a5 (show floatBits .add .f64 9223372036854775808 4575957461383581969 = some 4575957461383581969 by kernel_rfl)
  obtain rfl := fn_det m6 (show floatBits .mul .f64 4575957461383581969 0 = some 0 by kernel_rfl)
  obtain rfl := fn_det a6 (show floatBits .add .f64 0 13818544856648471893 = some 13818544856648471893 by kernel_rfl)
  rfl
theorem hornC0 {r : Nat} (h : Horn 0 4407590220077447199 (cosC.drop 1) r) : r = 13826050856027422720 := by
  obtain ⟨p1, s1, m1, a1, ⟨p2, s2, m2, a2, ⟨p3, s3, m3, a3, ⟨p4, s4, m4, a4, ⟨p5, s5, m5, a5, ⟨p6, s6, m6, a6, ⟨p7, s7, m7, a7, rfl⟩⟩⟩⟩⟩⟩⟩ := h
  obtain rfl := fn_det m1 (show floatBits .mul .f64 4407590220077447199 0 = some 0 by kernel_rfl)
  obtain rfl := fn_det a1 (show floatBits .add .f64 0 13666517717442657437 = some 13666517717442657437 by kernel_rfl)
  obtain rfl := fn_det m2 (show floatBits .mul .f64 13666517717442657437 0 = some 9223372036854775808 by kernel_rfl)
  obtain rfl := fn_det a2 (show floatBits .add .f64 9223372036854775808 4477122120089393304 = some 4477122120089393304 by kernel_rfl)
  obtain rfl := fn_det m3 (show floatBits .mul .f64 4477122120089393304 0 = some 0 by kernel_rfl)
  obtain rfl := fn_det a3 (show floatBits .add .f64 0 13732177094651715420 = some 13732177094651715420 by kernel_rfl)
  obtain rfl := fn_det m4 (show floatBits .mul .f64 13732177094651715420 0 = some 9223372036854775808 by kernel_rfl)
  obtain rfl := fn_det a4 (show floatBits .add .f64 9223372036854775808 4537941361671905306 = some 4537941361671905306 by kernel_rfl)
  obtain rfl := fn_det m5 (show floatBits .mul .f64 4537941361671905306 0 = some 0 by kernel_rfl)
  obtain rfl := fn_det a5 (show floatBits .add .f64 0 13787419979223755799 = some 13787419979223755799 by kernel_rfl)
  obtain rfl := fn_det m6 (show floatBits .mul .f64 13787419979223755799 0 = some 9223372036854775808 by kernel_rfl)
  obtain rfl := fn_det a6 (show floatBits .add .f64 9223372036854775808 4586165620538955093 = some 4586165620538955093 by kernel_rfl)
  obtain rfl := fn_det m7 (show floatBits .mul .f64 4586165620538955093 0 = some 0 by kernel_rfl)
  obtain rfl := fn_det a7 (show floatBits .add .f64 0 13826050856027422720 = some 13826050856027422720 by kernel_rfl)
  rfl
theorem sine0 {r : Nat} (h : SineR 0 r) : r = 0 := by
  obtain ⟨q, h, a, b, h1, h2, h3, h4, h5⟩ := h
  obtain rfl := fn_det h1 (show floatBits .mul .f64 0 0 = some 0 by kernel_rfl)
  obtain rfl := hornS0 h2
  obtain rfl := fn_det h3 (show floatBits .mul .f64 0 0 = some 0 by kernel_rfl)
  obtain rfl := fn_det h4 (show floatBits .mul .f64 0 13818544856648471893 = some 9223372036854775808 by kernel_rfl)
  exact fn_det h5 (by kernel_rfl)
theorem cos0 {r : Nat} (h : CosR 0 r) : r = 4607182418800017408 := by
  obtain ⟨q, h, b, h1, h2, h4, h5⟩ := h
  obtain rfl := fn_det h1 (show floatBits .mul .f64 0 0 = some 0 by kernel_rfl)
  obtain rfl := hornC0 h2
  obtain rfl := fn_det h4 (show floatBits .mul .f64 0 13826050856027422720 = some 9223372036854775808 by kernel_rfl)
  exact fn_det h5 (by kernel_rfl)
/-- At the beginning of an even eighth. -/
theorem rootK0 {k q re im : Nat} (hq : floatBits .quo .f64 (floatOfInt .f64 ((0 : Nat) : Int)) (floatOfInt .f64 (q : Int)) = some 0) (h : RootK k 0 q re im) : re = nz (octV k 4607182418800017408 0).1 ∧ im = nz (octV k 4607182418800017408 0).2 := by
  obtain ⟨f, y, c, s, h1, h2, h3, h4, h5, h6⟩ := h
  obtain rfl := fn_det h1 hq
  obtain rfl := fn_det h2 (show floatBits .mul .f64 0 4605249457297304856 = some 0 by kernel_rfl)
  obtain rfl := cos0 h3
  obtain rfl := sine0 h4
  exact ⟨h5, h6⟩
theorem root34 {re im : Nat} (h : RootR 3 4 re im) : re = 0 ∧ im = 13830554455654793216 := by
  have h' : RootK 6 0 4 re im := h
  have e := rootK0 (by kernel_rfl) h'
  rw [e.1, e.2]
  decide

set_option maxHeartbeats 800000 in
set_option maxRecDepth 100000 in
theorem sameNumber_eq (a b : Nat) (w : World) (ha : fin a = true) (hb : fin b = true) :
    Calls Try.prog 7 #[.complex .f64 a b, .complex .f64 a b] w fun e w' => e = .returned (.bool true) ∧ w' = w := by
  have H1 := hid (sameFloat_eq a w ha)
  have H2 := hid (sameFloat_eq b w hb)
  clear ha hb
  go_enter Try.func7, Try.ntmps7
  go_wp2_with fail
  refine Calls.mono H1.out ?_
  rintro e w1 ⟨rfl, rfl⟩
  go_wp2_with fail
  refine Calls.mono H2.out ?_
  rintro e w2 ⟨rfl, rfl⟩
  go_wp2_with fail
  go_ret
  exact ⟨rfl, rfl⟩

set_option maxHeartbeats 800000 in
set_option maxRecDepth 100000 in
theorem tlives_any (w : World) :
    Calls Try.prog 4 #[] w fun e w' => e = .returned (.bool true) ∧ Below w.heap.size w w' := by
  go_enter Try.func4, Try.ntmps4
  go_wp2_with fail
  refine Calls.mono (tof_any (-1) 4 _ ⟨⟨by decide, by decide⟩, by decide, by decide⟩) ?_
  rintro e w1 ⟨rfl, hb1⟩
  rw [show tV (ofR (-1) 4) = Value.tuple #[.agg #[.int .i64 3, .int .i64 4], .int .i64 0] by unfold tV; rw [show ofR (-1) 4 = (3, 4, 0) by decide]; rfl]
  have HX := hid (boxes1 w1 23 #[.int .i64 3, .int .i64 4])
  have HR := hid (fun V => troot_ok 3 4 V (by decide) (by decide) (by decide))
  have HN := hid (fun V => sameNumber_eq 0 13830554455654793216 V (by decide) (by decide))
  go_wp2_with fail
  generalize w1.alloc (.cells #[.int .i64 3, .int .i64 4] 23) = X at *
  refine Calls.mono (HR.out X) ?_
  rintro e w2 ⟨re, im, rfl, hr, hb2⟩
  obtain ⟨rfl, rfl⟩ := root34 hr
  obtain ⟨c0, c1, f0, f1⟩ := fbox_facts HX.out.1 hb2
  have HB := hid (b2 hb1 (b2 HX.out.2 hb2))
  clear hr hb1 hb2 HX HR
  go_wp2_with fail
  refine Calls.mono (HN.out _) ?_
  rintro e w3 ⟨rfl, rfl⟩
  go_wp2_with fail
  go_ret
  exact ⟨rfl, HB.out⟩
end Go.Proofs.Ytfldddphfekiaaa

/- The number at a turn: what it is a quarter and half a turn further and at the opposite; its size is nearly 1. Nothing here speaks of the program. -/
namespace Go.Proofs.Ytfldddphfekiaaa
open Go.RowKit
set_option linter.unusedVariables false

theorem fi0 : Fi 0 := ⟨by decide, by decide⟩
theorem Fi.neg {x : Nat} (h : Fi x) : Fi (fneg x) := Fi.opp h
theorem sv_fneg {x : Nat} (h : Fi x) : sv (fneg x) = -sv x := sv_opp h.1
theorem Fi.nz {x : Nat} (h : Fi x) : Fi (nz x) := by
  unfold Go.Proofs.Ytfldddphfekiaaa.nz
  split
  · exact fi0
  · exact h
theorem sv_nz {x : Nat} (h : Fi x) : sv (nz x) = sv x := by
  unfold nz
  split
  · rename_i g
    rw [order_sv h fi0] at g
    have : compare (sv x) (sv 0) = .eq := by
      cases e : compare (sv x) (sv 0) <;> rw [e] at g <;> first | rfl | (revert g; decide)
    exact (Int.compare_eq_eq.1 this).symm
  · rfl

def plS (k : Nat) (a b : Int) : Int × Int := if k ≤ 1 then (a, b) else if k ≤ 3 then (-b, a) else if k ≤ 5 then (-a, -b) else (b, -a)
def octS (k : Nat) (c s : Int) : Int × Int := if k % 2 = 1 then plS k s c else plS k c s
theorem pl_sv {k a b : Nat} (ha : Fi a) (hb : Fi b) : (Fi (plV k a b).1 ∧ Fi (plV k a b).2) ∧ sv (plV k a b).1 = (plS k (sv a) (sv b)).1 ∧ sv (plV k a b).2 = (plS k (sv a) (sv b)).2 := by
  unfold plV plS
  split
  · exact ⟨⟨ha, hb⟩, rfl, rfl⟩
  · split
    · exact ⟨⟨hb.neg, ha⟩, sv_fneg hb, rfl⟩
    · split
      · exact ⟨⟨ha.neg, hb.neg⟩, sv_fneg ha, sv_fneg hb⟩
      · exact ⟨⟨hb.neg.neg, ha.neg⟩, by rw [sv_fneg hb.neg, sv_fneg hb, Int.neg_neg], sv_fneg ha⟩
theorem oct_sv {k c s : Nat} (hc : Fi c) (hs : Fi s) : (Fi (nz (octV k c s).1) ∧ Fi (nz (octV k c s).2)) ∧ sv (nz (octV k c s).1) = (octS k (sv c) (sv s)).1 ∧ sv (nz (octV k c s).2) = (octS k (sv c) (sv s)).2 := by
  unfold octV octS
  split
  · have p := pl_sv (k := k) hs hc
    exact ⟨⟨p.1.1.nz, p.1.2.nz⟩, by rw [sv_nz p.1.1]; exact p.2.1, by rw [sv_nz p.1.2]; exact p.2.2⟩
  · have p := pl_sv (k := k) hc hs
    exact ⟨⟨p.1.1.nz, p.1.2.nz⟩, by rw [sv_nz p.1.1]; exact p.2.1, by rw [sv_nz p.1.2]; exact p.2.2⟩

/-- What stands behind the number at a turn. -/
structure RV (k a q re im y c s : Nat) : Prop where
  hy : In 1024 0 884279719003555 y
  hc : CosR y c
  hs : SineR y s
  fc : Fi c
  fs : Fi s
  fr : Fi re
  fm : Fi im
  er : sv re = (octS k (sv c) (sv s)).1
  em : sv im = (octS k (sv c) (sv s)).2

theorem root_vals {k a q re im : Nat} (ha : a ≤ q) (h0 : 0 < q) (hq : q ≤ 4294967296) (h : RootK k a q re im) : ∃ f y c s, FN .quo (floatOfInt .f64 (a : Int)) (floatOfInt .f64 (q : Int)) f ∧ Fi f ∧ FN .mul f 4605249457297304856 y ∧ RV k a q re im y c s := by
  obtain ⟨f, y, c, s, h1, h2, h3, h4, rfl, rfl⟩ := h
  have fi := in_below_one (quo_le (floatOfInt_nonneg q (by omega)) (floatOfInt_pos h0 (by omega)) (floatOfInt_mono ha (by omega)) h1)
  have iy : In 1024 (0) (884279719003555) y := In.mul fi pi4_in h2 (s := 50) (by decide) (by decide) (by decide) (by decide) (by decide) (by decide) (by decide) (by decide) (by decide) (by decide) (by decide) (by decide) (by decide)
  have fc := (cos_in iy h3).1
  have fs := (sin_in iy h4).1
  have o := oct_sv (k := k) fc fs
  exact ⟨f, y, c, s, h1, fi.1, h2, iy, h3, h4, fc, fs, o.1.1, o.1.2, o.2.1, o.2.2⟩

theorem root_pair {k a q re im k' a' q' re' im' : Nat} (ha : a ≤ q) (h0 : 0 < q) (hq : q ≤ 4294967296) (h : RootK k a q re im) (ha' : a' ≤ q') (h0' : 0 < q') (hq' : q' ≤ 4294967296) (h' : RootK k' a' q' re' im') (e : a * q' = a' * q) :
    ∃ C S : Int, sv re = (octS k C S).1 ∧ sv im = (octS k C S).2 ∧ sv re' = (octS k' C S).1 ∧ sv im' = (octS k' C S).2 ∧ (a = 0 → S = 0) := by
  obtain ⟨f, y, c, s, h1, h2, h3, R⟩ := root_vals ha h0 hq h
  obtain ⟨f', y', c', s', h1', h2', h3', R'⟩ := root_vals ha' h0' hq' h'
  obtain rfl := quo_same (by omega) h0 hq (by omega) h0' hq' h1 h1' e
  obtain rfl := h3.same h3' R.hy.1
  obtain rfl := R.hc.same R'.hc R.fc
  obtain rfl := R.hs.same R'.hs R.fs
  refine ⟨_, _, R.er, R.em, R'.er, R'.em, ?_⟩
  rintro rfl
  obtain ⟨E, hE⟩ : ∃ E, E = 1074 := ⟨_, rfl⟩
  have m := quo_mid (by omega) h0 hq h1 E hE
  rw [Nat.zero_mul] at m
  obtain rfl := m.unique h0 (mid_zero q)
  obtain rfl := fn_det h3 (show floatBits .mul .f64 0 4605249457297304856 = some 0 by kernel_rfl)
  obtain rfl := sine0 R.hs
  decide

theorem oct_quarter {k : Nat} (hk : k < 8) (C S : Int) : octS ((k + 2) % 8) C S = (-(octS k C S).2, (octS k C S).1) := by
  rcases (by omega : k = 0 ∨ k = 1 ∨ k = 2 ∨ k = 3 ∨ k = 4 ∨ k = 5 ∨ k = 6 ∨ k = 7) with rfl | rfl | rfl | rfl | rfl | rfl | rfl | rfl <;> simp [octS, plS]
theorem oct_half {k : Nat} (hk : k < 8) (C S : Int) : octS ((k + 4) % 8) C S = (-(octS k C S).1, -(octS k C S).2) := by
  rcases (by omega : k = 0 ∨ k = 1 ∨ k = 2 ∨ k = 3 ∨ k = 4 ∨ k = 5 ∨ k = 6 ∨ k = 7) with rfl | rfl | rfl | rfl | rfl | rfl | rfl | rfl <;> simp [octS, plS]
theorem oct_conj {k : Nat} (hk : k < 8) (C S : Int) : octS (7 - k) C S = ((octS k C S).1, -(octS k C S).2) := by
  rcases (by omega : k = 0 ∨ k = 1 ∨ k = 2 ∨ k = 3 ∨ k = 4 ∨ k = 5 ∨ k = 6 ∨ k = 7) with rfl | rfl | rfl | rfl | rfl | rfl | rfl | rfl <;> simp [octS, plS]
theorem oct_conj0 {k : Nat} (hk : k < 8) (he : k % 2 = 0) (C : Int) : octS ((8 - k) % 8) C 0 = ((octS k C 0).1, -(octS k C 0).2) := by
  rcases (by omega : k = 0 ∨ k = 2 ∨ k = 4 ∨ k = 6) with rfl | rfl | rfl | rfl <;> simp [octS, plS]

/-- The eighth and how far into it, c eighths further. -/
theorem eighth_add {p q p' q' c : Nat} {z : Int} (h0 : 0 < q) (h0' : 0 < q') (hp : p < q) (hp' : p' < q') (e : 8 * (p' : Int) * q = (q' : Int) * (8 * p + c * q - 8 * z * q)) (hc : c % 2 = 0) :
    8 * p' / q' = (8 * p / q + c) % 8 ∧ rootA p q * q' = rootA p' q' * q := by
  have d := Nat.div_add_mod (8 * p) q
  have d' := Nat.div_add_mod (8 * p') q'
  have m := Nat.mod_lt (8 * p) h0
  have m' := Nat.mod_lt (8 * p') h0'
  have k8 : 8 * p / q < 8 := Nat.div_lt_of_lt_mul (by omega)
  have k8' : 8 * p' / q' < 8 := Nat.div_lt_of_lt_mul (by omega)
  unfold rootA
  generalize 8 * p / q = k at *
  generalize 8 * p % q = r at *
  generalize 8 * p' / q' = k' at *
  generalize 8 * p' % q' = r' at *
  have E : (q : Int) * q' * ((k' : Int) - k - c + 8 * z) = (q' : Int) * r - q * r' := by
    have e1 : (8 * (p : Int)) = q * k + r := by exact_mod_cast d.symm
    have e2 : (8 * (p' : Int)) = q' * k' + r' := by exact_mod_cast d'.symm
    rw [e1, e2] at e
    grind
  have Q : (0 : Int) < (q : Int) * q' := Int.mul_pos (by omega) (by omega)
  have l1 : (q' : Int) * r < q * q' := by
    have := Int.mul_lt_mul_of_pos_left (show (r : Int) < q by omega) (show (0 : Int) < q' by omega)
    rw [Int.mul_comm (q : Int)]; exact this
  have l2 : (q : Int) * r' < q * q' := Int.mul_lt_mul_of_pos_left (show (r' : Int) < q' by omega) (show (0 : Int) < q by omega)
  have l3 : 0 ≤ (q' : Int) * r := Int.mul_nonneg (by omega) (by omega)
  have l4 : 0 ≤ (q : Int) * r' := Int.mul_nonneg (by omega) (by omega)
  have t0 : (k' : Int) - k - c + 8 * z = 0 := by
    generalize (k' : Int) - k - c + 8 * z = t at *
    generalize (q : Int) * q' = G at *
    rcases Int.lt_trichotomy t 0 with g | g | g
    · have := Int.mul_le_mul_of_nonneg_left (show t ≤ -1 by omega) (show 0 ≤ G by omega)
      omega
    · exact g
    · have := Int.mul_le_mul_of_nonneg_left (show 1 ≤ t by omega) (show 0 ≤ G by omega)
      omega
  rw [t0, Int.mul_zero] at E
  have E2 : q' * r = q * r' := by
    have : ((q' * r : Nat) : Int) = ((q * r' : Nat) : Int) := by rw [Int.natCast_mul, Int.natCast_mul]; omega
    exact_mod_cast this
  refine ⟨by omega, ?_⟩
  by_cases ho : k % 2 = 1
  · rw [if_pos ho, if_pos (by omega), Nat.sub_mul, Nat.sub_mul, Nat.mul_comm r q', E2, Nat.mul_comm r' q, Nat.mul_comm q q']
  · rw [if_neg ho, if_neg (by omega), Nat.mul_comm r q', E2, Nat.mul_comm]

theorem rootA_le {p q : Nat} (h0 : 0 < q) : rootA p q ≤ q := by
  have := Nat.mod_lt (8 * p) h0
  unfold rootA; split <;> omega

/-- A number c eighths further: c is 2 or 4. -/
theorem root_on {p q p' q' re im re' im' c : Nat} {z : Int} (h0 : 0 < q) (hq : q ≤ 4294967296) (h0' : 0 < q') (hq' : q' ≤ 4294967296) (hp : p < q) (hp' : p' < q') (e : 8 * (p' : Int) * q = (q' : Int) * (8 * p + c * q - 8 * z * q)) (hc : c % 2 = 0) (h : RootR p q re im) (h' : RootR p' q' re' im') :
    ∃ k C S, k < 8 ∧ sv re = (octS k C S).1 ∧ sv im = (octS k C S).2 ∧ sv re' = (octS ((k + c) % 8) C S).1 ∧ sv im' = (octS ((k + c) % 8) C S).2 := by
  obtain ⟨e1, e2⟩ := eighth_add h0 h0' hp hp' e hc
  obtain ⟨C, S, a1, a2, a3, a4, _⟩ := root_pair (rootA_le h0) h0 hq h (rootA_le h0') h0' hq' h' e2
  rw [e1] at a3 a4
  exact ⟨_, C, S, Nat.div_lt_of_lt_mul (by omega), a1, a2, a3, a4⟩

theorem root_quarter {p q p' q' re im re' im' : Nat} {z : Int} (h0 : 0 < q) (hq : q ≤ 4294967296) (h0' : 0 < q') (hq' : q' ≤ 4294967296) (hp : p < q) (hp' : p' < q') (e : 8 * (p' : Int) * q = (q' : Int) * (8 * p + (2 : Nat) * q - 8 * z * q)) (h : RootR p q re im) (h' : RootR p' q' re' im') :
    sv re' = -sv im ∧ sv im' = sv re := by
  obtain ⟨k, C, S, hk, a1, a2, a3, a4⟩ := root_on h0 hq h0' hq' hp hp' e (by decide) h h'
  rw [oct_quarter hk] at a3 a4
  rw [a1, a2, a3, a4]
  exact ⟨rfl, rfl⟩
theorem root_half {p q p' q' re im re' im' : Nat} {z : Int} (h0 : 0 < q) (hq : q ≤ 4294967296) (h0' : 0 < q') (hq' : q' ≤ 4294967296) (hp : p < q) (hp' : p' < q') (e : 8 * (p' : Int) * q = (q' : Int) * (8 * p + (4 : Nat) * q - 8 * z * q)) (h : RootR p q re im) (h' : RootR p' q' re' im') :
    sv re' = -sv re ∧ sv im' = -sv im := by
  obtain ⟨k, C, S, hk, a1, a2, a3, a4⟩ := root_on h0 hq h0' hq' hp hp' e (by decide) h h'
  rw [oct_half hk] at a3 a4
  rw [a1, a2, a3, a4]
  exact ⟨rfl, rfl⟩

/-- The opposite turn. -/
theorem root_neg {p q p' re im re' im' : Nat} (hq : q ≤ 4294967296) (hp : p < q) (hp' : p' < q) (e : p' + p = q ∨ (p = 0 ∧ p' = 0)) (hg : Nat.gcd p q = 1) (h8 : q ≠ 8) (h : RootR p q re im) (h' : RootR p' q re' im') :
    sv re' = sv re ∧ sv im' = -sv im := by
  have h0 : 0 < q := by omega
  by_cases hz : 8 * p % q = 0
  · -- at a quarter
    have hd : q ∣ 8 := by
      have : q ∣ 8 * p := Nat.dvd_of_mod_eq_zero hz
      exact Nat.Coprime.dvd_of_dvd_mul_right (Nat.Coprime.symm hg) this
    have hle : q ≤ 8 := Nat.le_of_dvd (by decide) hd
    have hc : (8 * p / q) % 2 = 0 ∧ 8 * p' / q = (8 - 8 * p / q) % 8 ∧ 8 * p' % q = 0 := by
      rcases (by omega : q = 1 ∨ q = 2 ∨ q = 3 ∨ q = 4 ∨ q = 5 ∨ q = 6 ∨ q = 7) with rfl | rfl | rfl | rfl | rfl | rfl | rfl
      all_goals first | (exfalso; revert hd; decide) | skip
      · have : p = 0 := by omega
        subst this; have : p' = 0 := by omega
        subst this; decide
      · rcases (by omega : p = 0 ∨ p = 1) with rfl | rfl
        · exfalso; revert hg; decide
        · have : p' = 1 := by omega
          subst this; decide
      · rcases (by omega : p = 0 ∨ p = 1 ∨ p = 2 ∨ p = 3) with rfl | rfl | rfl | rfl
        · exfalso; revert hg; decide
        · have : p' = 3 := by omega
          subst this; decide
        · exfalso; revert hg; decide
        · have : p' = 1 := by omega
          subst this; decide
    have k8 : 8 * p / q < 8 := Nat.div_lt_of_lt_mul (by omega)
    have a1 : rootA p q = 0 := by unfold rootA; rw [if_neg (by omega)]; exact hz
    have a2 : rootA p' q = 0 := by unfold rootA; rw [if_neg (by omega)]; exact hc.2.2
    obtain ⟨C, S, b1, b2, b3, b4, b5⟩ := root_pair (rootA_le h0) h0 hq h (rootA_le h0) h0 hq h' (by rw [a1, a2])
    obtain rfl := b5 a1
    rw [hc.2.1, oct_conj0 k8 hc.1] at b3 b4
    rw [b1, b2, b3, b4]
    exact ⟨rfl, rfl⟩
  · have hpp : p' + p = q := by
      rcases e with e | ⟨e, _⟩
      · exact e
      · rw [e] at hz; simp at hz
    have d := Nat.div_add_mod (8 * p) q
    have m := Nat.mod_lt (8 * p) h0
    have k8 : 8 * p / q < 8 := Nat.div_lt_of_lt_mul (by omega)
    have e8 : 8 * p' = q - 8 * p % q + q * (7 - 8 * p / q) := by
      have e1 : q * (7 - 8 * p / q) + q * (8 * p / q) = 7 * q := by rw [← Nat.mul_add, show 7 - 8 * p / q + 8 * p / q = 7 by omega, Nat.mul_comm]
      omega
    have dv : 8 * p' / q = 7 - 8 * p / q := by
      rw [e8, Nat.add_mul_div_left _ _ h0, Nat.div_eq_of_lt (by omega)]; omega
    have md : 8 * p' % q = q - 8 * p % q := by
      rw [e8, Nat.add_mul_mod_self_left, Nat.mod_eq_of_lt (by omega)]
    have ea : rootA p q * q = rootA p' q * q := by
      unfold rootA
      rw [dv, md]
      by_cases ho : 8 * p / q % 2 = 1
      · rw [if_pos ho, if_neg (by omega)]
      · rw [if_neg ho, if_pos (by omega)]
        congr 1; omega
    obtain ⟨C, S, b1, b2, b3, b4, _⟩ := root_pair (rootA_le h0) h0 hq h (rootA_le h0) h0 hq h' ea
    rw [dv, oct_conj k8] at b3 b4
    rw [b1, b2, b3, b4]
    exact ⟨rfl, rfl⟩

theorem rv_eq {x y : Nat} (h : sv x = sv y) : rv x = rv y := by unfold rv; rw [h]
theorem rv_opp {x y : Nat} (h : sv x = -sv y) : rv x = -rv y := by
  have := bT_pos
  unfold rv; rw [h, Rat.intCast_neg, Rat.div_def, Rat.div_def, Rat.neg_mul]
theorem oct_sq (k : Nat) (C S : Int) : (((octS k C S).1 = C ∨ (octS k C S).1 = -C) ∧ ((octS k C S).2 = S ∨ (octS k C S).2 = -S)) ∨ (((octS k C S).1 = S ∨ (octS k C S).1 = -S) ∧ ((octS k C S).2 = C ∨ (octS k C S).2 = -C)) := by
  unfold octS plS
  split <;> split
  all_goals first | (split) | skip
  all_goals first | (split) | skip
  all_goals simp
theorem sq_of {x c : Nat} (h : sv x = sv c ∨ sv x = -sv c) : rv x * rv x = rv c * rv c := by
  rcases h with h | h
  · rw [rv_eq h]
  · rw [rv_opp h]; grind
theorem le_one {x : Nat} (h : Unit1 x) : -1 ≤ rv x ∧ rv x ≤ 1 := by
  have := in_rv h
  have k1 : ((1125899906842624 : Int) : Rat) * (1 / 1125899906842624) = 1 := by decide +kernel
  have k2 : ((-1125899906842624 : Int) : Rat) * (1 / 1125899906842624) = -1 := by decide +kernel
  rw [k1, k2] at this
  exact this

/-- The size of the number at a turn is nearly 1. -/
theorem root_size {p q re im A B T d : Nat} (hp : p < q) (hq : q ≤ 4294967296) (h : RootR p q re im) (hA : FN .mul re re A) (hB : FN .mul im im B) (hT : FN .add A B T) (hd : FN .sub T 4607182418800017408 d) :
    (Fi re ∧ Fi im ∧ Fi A ∧ Fi B ∧ Fi T ∧ Fi d) ∧ -(1 / 562949953421312) ≤ rv d ∧ rv d ≤ 1 / 562949953421312 := by
  have u := root_in hp (by omega) h
  obtain ⟨f, y, c, s, h1, h2, h3, R⟩ := root_vals (rootA_le (by omega)) (by omega) hq h
  have P := pyth R.hy R.hc R.hs
  have r1 := le_one u.1
  have r2 := le_one u.2
  have s1 := box_mul r1.1 r1.2 r1.1 r1.2
  have s2 := box_mul r2.1 r2.2 r2.1 r2.2
  have PQ : rv re * rv re + rv im * rv im = rv c * rv c + rv s * rv s := by
    have o := oct_sq (8 * p / q) (sv c) (sv s)
    rw [← R.er, ← R.em] at o
    rcases o with ⟨a, b⟩ | ⟨a, b⟩
    · rw [sq_of a, sq_of b]
    · rw [sq_of a, sq_of b]; grind
  obtain ⟨fA, a1, a2⟩ := rmul gr_0 R.fr R.fr hA (by grind) (by grind)
  obtain ⟨fB, b1, b2⟩ := rmul gr_0 R.fm R.fm hB (by grind) (by grind)
  rw [← PQ] at P
  generalize rv re * rv re = X at *
  generalize rv im * rv im = Y at *
  clear PQ
  obtain ⟨fT, t1, t2⟩ := radd gr_n1 fA fB hT (by grind) (by grind)
  have hd' := sub_fopp (by decide) hd
  have f1 : Fi 4607182418800017408 := ⟨by decide, by decide⟩
  have v1 : rv (fopp 4607182418800017408) = -1 := by decide +kernel
  obtain ⟨fd, d1, d2⟩ := radd gr_49 fT f1.opp hd' (by rw [v1]; grind) (by rw [v1]; grind)
  rw [v1] at d1 d2
  exact ⟨⟨R.fr, R.fm, fA, fB, fT, fd⟩, by grind, by grind⟩
end Go.Proofs.Ytfldddphfekiaaa

/- The law TurnGroup answers true, and writes nothing that was there: whatever three turns and whatever number come in. -/
namespace Go.Proofs.Ytfldddphfekiaaa
open Go.RowKit
set_option linter.unusedVariables false

set_option maxHeartbeats 1600000 in
set_option maxRecDepth 100000 in
theorem ladd_any (p q r s x1 x2 x3 : Int) (b : Bool) (w : World) (h : in64 p q) (g : in64 r s) (hX : addR p q r s = (x1, x2, x3)) (hb : (x3 == 0) = b) :
    Calls Try.prog 6 #[.agg #[.int .i64 p, .int .i64 q], .agg #[.int .i64 r, .int .i64 s]] w fun e w' => e = .returned (.tuple #[.agg #[.int .i64 x1, .int .i64 x2], .bool b]) ∧ Below w.heap.size w w' := by
  have HX := hid (boxes3 w 23 #[.int .i64 p, .int .i64 q] #[.int .i64 r, .int .i64 s] #[.int .i64 0, .int .i64 0])
  have HA := hid (fun V => tadd_any p q r s V h g)
  rw [hX] at HA
  clear h g hX
  go_enter Try.func6, Try.ntmps6
  go_wp2_with fail
  generalize ((w.alloc (.cells #[.int .i64 p, .int .i64 q] 23)).alloc (.cells #[.int .i64 r, .int .i64 s] 23)).alloc (.cells #[.int .i64 0, .int .i64 0] 23) = X at *
  refine Calls.mono (HA.out X) ?_
  rintro e w1 ⟨rfl, hb1⟩
  rw [show tV (x1, x2, x3) = Value.tuple #[.agg #[.int .i64 x1, .int .i64 x2], .int .i64 x3] from rfl]
  have HY := hid (boxes1 w1 23 #[.int .i64 x1, .int .i64 x2])
  obtain ⟨Y, hY⟩ : ∃ Y, w1.alloc (.cells #[.int .i64 x1, .int .i64 x2] 23) = Y := ⟨_, rfl⟩
  rw [hY] at HY
  obtain ⟨c4, c5, f4, f5⟩ := fbox_facts HX.out.2.2.1 (b2 hb1 HY.out.2)
  obtain ⟨c6, c7, f6, f7⟩ := fbox_facts HY.out.1 (Below.refl _ _)
  have HB := hid (b2 HX.out.2.2.2 (b2 hb1 HY.out.2))
  clear HX HY HA hb1
  go_wp2_with fail
  refine bodyPost_ret (v := .tuple #[.agg #[.int .i64 x1, .int .i64 x2], .bool b]) (by simp [results, Try.results6, go_sem, c4, c5]) rfl ?_
  exact ⟨rfl, fput2 HB.out _ (by omega) _ _⟩

theorem canon_in (r : Rat) (h0 : 0 ≤ r) (h1 : r < 1) : in64 (canon r).1 (canon r).2.1 := by
  rcases canon_cases r with ⟨e, hd⟩ | ⟨e, _⟩
  · obtain ⟨⟨a, b, c, d, _⟩, _⟩ := canon_ok h0 h1 hd
    rw [e]
    refine ⟨⟨?_, ?_⟩, ?_, ?_⟩ <;> simp only <;> omega
  · rw [e]; exact ⟨⟨by decide, by decide⟩, by decide, by decide⟩
theorem add_in (p q r s : Int) : in64 (addR p q r s).1 (addR p q r s).2.1 := by
  by_cases h : okI p q ∧ okI r s
  · rw [addR_canon h.1 h.2]; exact canon_in _ (frac_bounds _).1 (frac_bounds _).2
  · unfold addR; rw [if_neg h]; exact ⟨⟨by decide, by decide⟩, by decide, by decide⟩
theorem okI.in64 {p q : Int} (h : okI p q) : in64 p q := by
  obtain ⟨a, b, c, d, _⟩ := h
  exact ⟨⟨by omega, by omega⟩, by omega, by omega⟩
theorem chk0_any (p q : Int) (w : World) (h : okI p q) : Calls Try.prog 10 #[.agg #[.int .i64 p, .int .i64 q]] w fun e w' => e = .returned (.int .i64 0) ∧ Below w.heap.size w w' := by
  have e := tcheck_any p q w h.in64.1.1 h.in64.1.2 h.in64.2.1 h.in64.2.2
  rw [show chk p q = 0 by unfold chk; rw [if_pos h]] at e
  exact e

theorem chk180_any (p q : Int) (w : World) (h : in64 p q) (hn : ¬ okI p q) : Calls Try.prog 10 #[.agg #[.int .i64 p, .int .i64 q]] w fun e w' => e = .returned (.int .i64 180) ∧ Below w.heap.size w w' := by
  have e := tcheck_any p q w h.1.1 h.1.2 h.2.1 h.2.2
  rw [show chk p q = 180 by unfold chk; rw [if_neg hn]] at e
  exact e

end Go.Proofs.Ytfldddphfekiaaa

/- The law TurnRoot answers true, and writes nothing that was there: whatever turn comes in. Written by tools/mktroot.py. -/
namespace Go.Proofs.Ytfldddphfekiaaa
open Go.RowKit
set_option linter.unusedVariables false

theorem fn_all (op : BinOp) (x y : Nat) : ∃ r, FN op x y r := by
  cases h : floatBits op .f64 x y with
  | some r => exact ⟨r, FN.some h⟩
  | none => exact ⟨_, FN.none 0 h⟩
theorem FN.fi_some {op : BinOp} {x y r : Nat} (h : FN op x y r) (f : Fi r) : floatBits op .f64 x y = Option.some r := by
  rcases h.2 with g | ⟨_, g⟩
  · exact g
  · rw [f.notnan] at g; cases g
theorem le_sv {x y : Nat} (h : rv x ≤ rv y) : sv x ≤ sv y := by
  have hb := bT_pos
  apply Rat.intCast_le_intCast.1
  rw [rv_sv, rv_sv]
  have := Rat.mul_nonneg (show 0 ≤ rv y - rv x by grind) (Rat.le_of_lt hb)
  grind
theorem not_gt {x y : Nat} (hx : Fi x) (hy : Fi y) (h : rv x ≤ rv y) : (FloatKind.f64.format.order x y == some .gt) = false := by
  rw [order_sv hx hy]
  have := le_sv h
  rcases Int.lt_or_eq_of_le this with g | g
  · rw [Int.compare_eq_lt.2 g]; rfl
  · rw [Int.compare_eq_eq.2 g]; rfl
theorem not_lt {x y : Nat} (hx : Fi x) (hy : Fi y) (h : rv y ≤ rv x) : (FloatKind.f64.format.order x y == some .lt) = false := by
  rw [order_sv hx hy]
  have := le_sv h
  rcases Int.lt_or_eq_of_le this with g | g
  · rw [Int.compare_eq_gt.2 g]; rfl
  · rw [Int.compare_eq_eq.2 g.symm]; rfl

set_option maxHeartbeats 800000 in
set_option maxRecDepth 100000 in
theorem sameFloat_sv (x y : Nat) (w : World) (hx : Fi x) (hy : Fi y) (h : sv x = sv y) :
    Calls Try.prog 17 #[.float .f64 x, .float .f64 y] w fun e w' => e = .returned (.bool true) ∧ w' = w := by
  have HO : (FloatKind.f64.format.order x y == some .eq) = true := by rw [order_sv hx hy, Int.compare_eq_eq.2 h]; rfl
  clear hx hy h
  go_enter Try.func17, Try.ntmps17
  go_wp2
  go_ret
  exact ⟨rfl, rfl⟩

set_option maxHeartbeats 800000 in
set_option maxRecDepth 100000 in
theorem sameNumber_sv (a b c d : Nat) (w : World) (ha : Fi a) (hb : Fi b) (hc : Fi c) (hd : Fi d) (h1 : sv a = sv c) (h2 : sv b = sv d) :
    Calls Try.prog 7 #[.complex .f64 a b, .complex .f64 c d] w fun e w' => e = .returned (.bool true) ∧ w' = w := by
  have H1 := hid (sameFloat_sv a c w ha hc h1)
  have H2 := hid (sameFloat_sv b d w hb hd h2)
  clear ha hb hc hd h1 h2
  go_enter Try.func7, Try.ntmps7
  go_wp2_with fail
  refine Calls.mono H1.out ?_
  rintro e w1 ⟨rfl, rfl⟩
  go_wp2_with fail
  refine Calls.mono H2.out ?_
  rintro e w2 ⟨rfl, rfl⟩
  go_wp2_with fail
  go_ret
  exact ⟨rfl, rfl⟩

theorem vI_mul {p q : Int} (h : okI p q) : vI p q * (q : Rat) = (p : Rat) := by
  obtain ⟨a, b, rfl, rfl, hb⟩ := nat_of h
  unfold vI
  rw [Rat.mkRat_eq_div, Int.toNat_natCast]
  have : ((b : Nat) : Rat) ≠ 0 := by
    intro e; have : b = 0 := by exact_mod_cast e
    omega
  have e : (((b : Nat) : Int) : Rat) = ((b : Nat) : Rat) := rfl
  rw [e, Rat.div_mul_cancel this]
/-- A part of a turn further: c eighths. -/
theorem add_part {p q r s x1 x2 : Int} {c : Nat} (h : okI p q) (g : okI r s) (hc : 8 * r = c * s) (e : addR p q r s = (x1, x2, 0)) : okI x1 x2 ∧ ∃ z : Int, 8 * x1 * q = x2 * (8 * p + c * q - 8 * z * q) := by
  have t := add_told h g (by rw [e])
  rw [e] at t
  refine ⟨t.1, (vI p q + vI r s).floor, ?_⟩
  have v1 := vI_mul h
  have v2 := vI_mul g
  have v3 := vI_mul t.1
  have v4 := t.2
  unfold frac at v4
  simp only at v3 v4
  generalize (vI p q + vI r s).floor = z at *
  have hs : (s : Rat) ≠ 0 := by
    intro e; have : s = 0 := by exact_mod_cast e
    have := g.1; omega
  have hc' : 8 * (r : Rat) = (c : Rat) * (s : Rat) := by exact_mod_cast hc
  have v5 : 8 * vI r s = (c : Rat) := by
    have e2 : (8 * vI r s - (c : Rat)) * (s : Rat) = 0 := by grind
    rcases Rat.mul_eq_zero.1 e2 with e3 | e3
    · grind
    · exact absurd e3 hs
  have E : 8 * (x1 : Rat) * (q : Rat) = (x2 : Rat) * (8 * (p : Rat) + (c : Rat) * (q : Rat) - 8 * (z : Rat) * (q : Rat)) := by
    rw [← v3, v4, ← v1]
    grind
  exact_mod_cast E
theorem one_c : Fi 4607182418800017408 ∧ rv 4607182418800017408 = 1 := ⟨⟨by decide, by decide⟩, by decide +kernel⟩
theorem none_c : Fi 13830554455654793216 ∧ rv 13830554455654793216 = -1 := ⟨⟨by decide, by decide⟩, by decide +kernel⟩
theorem eps_c : Fi 4386506037058863104 ∧ rv 4386506037058863104 = 1 / 562949953421312 := ⟨⟨by decide, by decide⟩, by decide +kernel⟩
theorem neps_c : Fi 13609878073913638912 ∧ rv 13609878073913638912 = -(1 / 562949953421312) := ⟨⟨by decide, by decide⟩, by decide +kernel⟩
theorem neg_nat {p q : Nat} (h : okI (p : Int) (q : Int)) : ∃ K : Nat, (-(p : Int)) % (q : Int) = (K : Int) ∧ (K + p = q ∨ (p = 0 ∧ K = 0)) ∧ K < q := by
  obtain ⟨a, b, c, d, e⟩ := h
  by_cases h0 : p = 0
  · subst h0; exact ⟨0, by simp, .inr ⟨rfl, rfl⟩, by omega⟩
  · refine ⟨q - p, ?_, .inl (by omega), by omega⟩
    rw [← Int.add_emod_right, Int.emod_eq_of_lt (by omega) (by omega)]
    omega
theorem okI.nat {p q : Nat} (h : okI (p : Int) (q : Int)) : p < q ∧ q ≤ 4294967296 ∧ Nat.gcd p q = 1 ∧ 0 < q := by
  obtain ⟨a, b, c, d, e⟩ := h
  exact ⟨by omega, by omega, by simpa using e, by omega⟩
theorem root_fi {p q re im : Nat} (hp : p < q) (hq : q ≤ 4294967296) (h : RootR p q re im) : Fi re ∧ Fi im := by
  have u := root_in hp (by omega) h
  exact ⟨u.1.1, u.2.1⟩

set_option maxHeartbeats 6400000 in
set_option maxRecDepth 100000 in
theorem turnRoot_110 (p q K : Nat) (x1 x2 : Nat) (zx : Int) (y1 y2 : Nat) (zy : Int) (w : World) (hp : okI p q) (hK : (-(p : Int)) % (q : Int) = (K : Int)) (hK2 : K + p = q ∨ (p = 0 ∧ K = 0)) (hX : addR p q 1 4 = ((x1 : Int), (x2 : Int), 0)) (ox : okI x1 x2) (ex : 8 * (x1 : Int) * q = (x2 : Int) * (8 * p + (2 : Nat) * q - 8 * zx * q)) (hY : addR p q 1 2 = ((y1 : Int), (y2 : Int), 0)) (oy : okI y1 y2) (ey : 8 * (y1 : Int) * q = (y2 : Int) * (8 * p + (4 : Nat) * q - 8 * zy * q)) (h8 : ¬ (q : Int) = 8) :
    Calls Try.prog 3 #[.agg #[.int .i64 (p : Int), .int .i64 (q : Int)]] w fun e w' => e = .returned (.bool true) ∧ Below w.heap.size w w' := by
  have HL := hid tlives_any
  have HX := hid (boxes1 w 23 #[.int .i64 (p : Int), .int .i64 (q : Int)])
  have np := hp.nat
  have ok : okI (K : Int) q := by rw [← hK]; exact gcd_back hp
  have nk := ok.nat
  have HRt := hid (fun V => troot_ok p q V np.1 np.2.1 np.2.2.1)
  have HRn := hid (fun V => troot_ok K q V nk.1 nk.2.1 nk.2.2.1)
  have i4 : in64 1 4 := ⟨⟨by decide, by decide⟩, by decide, by decide⟩
  have i2 : in64 1 2 := ⟨⟨by decide, by decide⟩, by decide, by decide⟩
  have nx := ox.nat
  have HRx := hid (fun V => troot_ok x1 x2 V nx.1 nx.2.1 nx.2.2.1)
  have HAx := hid (fun V => ladd_any p q 1 4 x1 x2 0 true V hp.in64 i4 hX rfl)
  have Qx := hid (And.intro nx ex)
  clear nx ox ex hX
  have ny := oy.nat
  have HRy := hid (fun V => troot_ok y1 y2 V ny.1 ny.2.1 ny.2.2.1)
  have HAy := hid (fun V => ladd_any p q 1 2 y1 y2 0 true V hp.in64 i2 hY rfl)
  have Qy := hid (And.intro ny ey)
  clear ny oy ey hY
  have HNg := hid (fun V => tneg_any p q V hp.in64)
  rw [(neg_zero' hp).1, hK, show tV ((K : Int), (q : Int), 0) = Value.tuple #[.agg #[.int .i64 (K : Int), .int .i64 (q : Int)], .int .i64 0] from rfl] at HNg
  have H8 := hid h8
  have HP := hid (And.intro np (And.intro nk hK2))
  have hN : ∀ x, Op.unary .neg (.float .f64 x) = pure (.float .f64 (fneg x)) := fun _ => rfl
  clear np nk ok i4 i2 hp hK hK2 h8
  have HB := hid HX.out.2
  have HBt := hid HX.out.1
  clear HX
  go_enter Try.func3, Try.ntmps3
  go_wp2_with fail
  generalize w.alloc (.cells #[.int .i64 (p : Int), .int .i64 (q : Int)] 23) = w0 at *
  refine Calls.mono (HL.out _) ?_
  rintro e w1 ⟨rfl, hb⟩
  replace HBt := hid (HBt.out.later hb HBt.out.lt)
  replace HB := hid (b2 HB.out hb)
  clear hb
  obtain ⟨ct0, ct1, ft0, ft1⟩ := fbox_facts HBt.out (Below.refl _ _)
  go_wp2_with fail
  refine Calls.mono (HRt.out _) ?_
  rintro e w2 ⟨re, im, rfl, hr, hb⟩
  clear ct0 ct1 ft0 ft1
  replace HBt := hid (HBt.out.later hb HBt.out.lt)
  replace HB := hid (b2 HB.out hb)
  clear hb
  obtain ⟨A, hA⟩ := fn_all .mul re re
  obtain ⟨B, hB⟩ := fn_all .mul im im
  obtain ⟨S, hS⟩ := fn_all .add A B
  obtain ⟨d, hd⟩ := fn_all .sub S 4607182418800017408
  have Z := root_size HP.out.1.1 HP.out.1.2.1 hr hA hB hS hd
  have U := root_in HP.out.1.1 (by have := HP.out.1.2.1; omega) hr
  have r1 := le_one U.1
  have r2 := le_one U.2
  have g1 := not_gt Z.1.1 one_c.1 (by rw [one_c.2]; exact r1.2)
  have g2 := not_lt Z.1.1 none_c.1 (by rw [none_c.2]; exact r1.1)
  have g3 := not_gt Z.1.2.1 one_c.1 (by rw [one_c.2]; exact r2.2)
  have g4 := not_lt Z.1.2.1 none_c.1 (by rw [none_c.2]; exact r2.1)
  have g5 := not_gt Z.1.2.2.2.2.2 eps_c.1 (by rw [eps_c.2]; exact Z.2.2)
  have g6 := not_lt Z.1.2.2.2.2.2 neps_c.1 (by rw [neps_c.2]; exact Z.2.1)
  have b1 : ∀ V, (binOp .mul 29 (.float .f64 re) (.float .f64 re)).run Try.prog V = .ok (.float .f64 A) V := fun V => run_float_arith V _ _ _ _ _ _ (hA.fi_some Z.1.2.2.1)
  have b2' : ∀ V, (binOp .mul 29 (.float .f64 im) (.float .f64 im)).run Try.prog V = .ok (.float .f64 B) V := fun V => run_float_arith V _ _ _ _ _ _ (hB.fi_some Z.1.2.2.2.1)
  have b3 : ∀ V, (binOp .add 29 (.float .f64 A) (.float .f64 B)).run Try.prog V = .ok (.float .f64 S) V := fun V => run_float_arith V _ _ _ _ _ _ (hS.fi_some Z.1.2.2.2.2.1)
  have b4 : ∀ V, (binOp .sub 29 (.float .f64 S) (.float .f64 4607182418800017408)).run Try.prog V = .ok (.float .f64 d) V := fun V => run_float_arith V _ _ _ _ _ _ (hd.fi_some Z.1.2.2.2.2.2)
  have HF := hid (And.intro Z.1.1 (And.intro Z.1.2.1 hr))
  clear Z U r1 r2 hA hB hS hd hr
  obtain ⟨ct0, ct1, ft0, ft1⟩ := fbox_facts HBt.out (Below.refl _ _)
  go_wp2_with fail
  clear g1 g2 g3 g4 g5 g6 b1 b2' b3 b4
  refine Calls.mono (HAx.out _) ?_
  rintro e w3 ⟨rfl, hb⟩
  clear ct0 ct1 ft0 ft1
  replace HBt := hid (HBt.out.later hb HBt.out.lt)
  replace HB := hid (b2 HB.out hb)
  clear hb
  have HN := hid (boxes1 w3 23 #[.int .i64 (x1 : Int), .int .i64 (x2 : Int)])
  obtain ⟨w4, hW⟩ : ∃ w4, w3.alloc (.cells #[.int .i64 (x1 : Int), .int .i64 (x2 : Int)] 23) = w4 := ⟨_, rfl⟩
  rw [hW] at HN
  replace HBt := hid (HBt.out.later HN.out.2 HBt.out.lt)
  replace HB := hid (b2 HB.out HN.out.2)
  have HBx := hid HN.out.1
  clear HN
  obtain ⟨ct0, ct1, ft0, ft1⟩ := fbox_facts HBt.out (Below.refl _ _)
  obtain ⟨cx0, cx1, fx0, fx1⟩ := fbox_facts HBx.out (Below.refl _ _)
  go_wp2_with fail
  clear hW
  refine Calls.mono (HAy.out _) ?_
  rintro e w5 ⟨rfl, hb⟩
  clear ct0 ct1 ft0 ft1
  clear cx0 cx1 fx0 fx1
  replace HBt := hid (HBt.out.later hb HBt.out.lt)
  replace HBx := hid (HBx.out.later hb HBx.out.lt)
  replace HB := hid (b2 HB.out hb)
  clear hb
  have HN := hid (boxes1 w5 23 #[.int .i64 (y1 : Int), .int .i64 (y2 : Int)])
  obtain ⟨w6, hW⟩ : ∃ w6, w5.alloc (.cells #[.int .i64 (y1 : Int), .int .i64 (y2 : Int)] 23) = w6 := ⟨_, rfl⟩
  rw [hW] at HN
  replace HBt := hid (HBt.out.later HN.out.2 HBt.out.lt)
  replace HBx := hid (HBx.out.later HN.out.2 HBx.out.lt)
  replace HB := hid (b2 HB.out HN.out.2)
  have HBy := hid HN.out.1
  clear HN
  obtain ⟨ct0, ct1, ft0, ft1⟩ := fbox_facts HBt.out (Below.refl _ _)
  obtain ⟨cx0, cx1, fx0, fx1⟩ := fbox_facts HBx.out (Below.refl _ _)
  obtain ⟨cy0, cy1, fy0, fy1⟩ := fbox_facts HBy.out (Below.refl _ _)
  go_wp2_with fail
  clear hW
  refine Calls.mono (HRx.out _) ?_
  rintro e w7 ⟨rex, imx, rfl, hr, hb⟩
  clear ct0 ct1 ft0 ft1
  clear cx0 cx1 fx0 fx1
  clear cy0 cy1 fy0 fy1
  replace HBt := hid (HBt.out.later hb HBt.out.lt)
  replace HBx := hid (HBx.out.later hb HBx.out.lt)
  replace HBy := hid (HBy.out.later hb HBy.out.lt)
  replace HB := hid (b2 HB.out hb)
  clear hb
  have HS := hid (fun V => sameNumber_sv rex imx (fneg im) re V (root_fi Qx.out.1.1 Qx.out.1.2.1 hr).1 (root_fi Qx.out.1.1 Qx.out.1.2.1 hr).2 HF.out.2.1.neg HF.out.1 (by rw [sv_fneg HF.out.2.1]; exact (root_quarter HP.out.1.2.2.2 HP.out.1.2.1 Qx.out.1.2.2.2 Qx.out.1.2.1 HP.out.1.1 Qx.out.1.1 Qx.out.2 HF.out.2.2 hr).1) (root_quarter HP.out.1.2.2.2 HP.out.1.2.1 Qx.out.1.2.2.2 Qx.out.1.2.1 HP.out.1.1 Qx.out.1.1 Qx.out.2 HF.out.2.2 hr).2)
  clear hr
  obtain ⟨ct0, ct1, ft0, ft1⟩ := fbox_facts HBt.out (Below.refl _ _)
  obtain ⟨cx0, cx1, fx0, fx1⟩ := fbox_facts HBx.out (Below.refl _ _)
  obtain ⟨cy0, cy1, fy0, fy1⟩ := fbox_facts HBy.out (Below.refl _ _)
  go_wp2_with fail
  refine Calls.mono (HS.out _) ?_
  rintro e wz ⟨rfl, rfl⟩
  clear HS
  go_wp2_with fail
  refine Calls.mono (HRy.out _) ?_
  rintro e w8 ⟨rey, imy, rfl, hr, hb⟩
  clear ct0 ct1 ft0 ft1
  clear cx0 cx1 fx0 fx1
  clear cy0 cy1 fy0 fy1
  replace HBt := hid (HBt.out.later hb HBt.out.lt)
  replace HBx := hid (HBx.out.later hb HBx.out.lt)
  replace HBy := hid (HBy.out.later hb HBy.out.lt)
  replace HB := hid (b2 HB.out hb)
  clear hb
  have HS := hid (fun V => sameNumber_sv rey imy (fneg re) (fneg im) V (root_fi Qy.out.1.1 Qy.out.1.2.1 hr).1 (root_fi Qy.out.1.1 Qy.out.1.2.1 hr).2 HF.out.1.neg HF.out.2.1.neg (by rw [sv_fneg HF.out.1]; exact (root_half HP.out.1.2.2.2 HP.out.1.2.1 Qy.out.1.2.2.2 Qy.out.1.2.1 HP.out.1.1 Qy.out.1.1 Qy.out.2 HF.out.2.2 hr).1) (by rw [sv_fneg HF.out.2.1]; exact (root_half HP.out.1.2.2.2 HP.out.1.2.1 Qy.out.1.2.2.2 Qy.out.1.2.1 HP.out.1.1 Qy.out.1.1 Qy.out.2 HF.out.2.2 hr).2))
  clear hr
  obtain ⟨ct0, ct1, ft0, ft1⟩ := fbox_facts HBt.out (Below.refl _ _)
  obtain ⟨cx0, cx1, fx0, fx1⟩ := fbox_facts HBx.out (Below.refl _ _)
  obtain ⟨cy0, cy1, fy0, fy1⟩ := fbox_facts HBy.out (Below.refl _ _)
  go_wp2_with fail
  refine Calls.mono (HS.out _) ?_
  rintro e wz ⟨rfl, rfl⟩
  clear HS
  go_wp2_with fail
  refine Calls.mono (HNg.out _) ?_
  rintro e w9 ⟨rfl, hb⟩
  clear ct0 ct1 ft0 ft1
  clear cx0 cx1 fx0 fx1
  clear cy0 cy1 fy0 fy1
  replace HBt := hid (HBt.out.later hb HBt.out.lt)
  replace HBx := hid (HBx.out.later hb HBx.out.lt)
  replace HBy := hid (HBy.out.later hb HBy.out.lt)
  replace HB := hid (b2 HB.out hb)
  clear hb
  have HN := hid (boxes1 w9 23 #[.int .i64 (K : Int), .int .i64 (q : Int)])
  obtain ⟨w10, hW⟩ : ∃ w10, w9.alloc (.cells #[.int .i64 (K : Int), .int .i64 (q : Int)] 23) = w10 := ⟨_, rfl⟩
  rw [hW] at HN
  replace HBt := hid (HBt.out.later HN.out.2 HBt.out.lt)
  replace HBx := hid (HBx.out.later HN.out.2 HBx.out.lt)
  replace HBy := hid (HBy.out.later HN.out.2 HBy.out.lt)
  replace HB := hid (b2 HB.out HN.out.2)
  have HBn := hid HN.out.1
  clear HN
  obtain ⟨ct0, ct1, ft0, ft1⟩ := fbox_facts HBt.out (Below.refl _ _)
  obtain ⟨cx0, cx1, fx0, fx1⟩ := fbox_facts HBx.out (Below.refl _ _)
  obtain ⟨cy0, cy1, fy0, fy1⟩ := fbox_facts HBy.out (Below.refl _ _)
  obtain ⟨cn0, cn1, fn0, fn1⟩ := fbox_facts HBn.out (Below.refl _ _)
  go_wp2_with fail
  clear hW
  refine Calls.mono (HRn.out _) ?_
  rintro e w11 ⟨ren, imn, rfl, hr, hb⟩
  clear ct0 ct1 ft0 ft1
  clear cx0 cx1 fx0 fx1
  clear cy0 cy1 fy0 fy1
  clear cn0 cn1 fn0 fn1
  replace HBt := hid (HBt.out.later hb HBt.out.lt)
  replace HBx := hid (HBx.out.later hb HBx.out.lt)
  replace HBy := hid (HBy.out.later hb HBy.out.lt)
  replace HBn := hid (HBn.out.later hb HBn.out.lt)
  replace HB := hid (b2 HB.out hb)
  clear hb
  have h8 := H8.out
  have HS := hid (fun V => sameNumber_sv ren imn re (fneg im) V (root_fi HP.out.2.1.1 HP.out.2.1.2.1 hr).1 (root_fi HP.out.2.1.1 HP.out.2.1.2.1 hr).2 HF.out.1 HF.out.2.1.neg (root_neg HP.out.1.2.1 HP.out.1.1 HP.out.2.1.1 HP.out.2.2 HP.out.1.2.2.1 (by omega) HF.out.2.2 hr).1 (by rw [sv_fneg HF.out.2.1]; exact (root_neg HP.out.1.2.1 HP.out.1.1 HP.out.2.1.1 HP.out.2.2 HP.out.1.2.2.1 (by omega) HF.out.2.2 hr).2))
  clear hr
  obtain ⟨ct0, ct1, ft0, ft1⟩ := fbox_facts HBt.out (Below.refl _ _)
  obtain ⟨cx0, cx1, fx0, fx1⟩ := fbox_facts HBx.out (Below.refl _ _)
  obtain ⟨cy0, cy1, fy0, fy1⟩ := fbox_facts HBy.out (Below.refl _ _)
  obtain ⟨cn0, cn1, fn0, fn1⟩ := fbox_facts HBn.out (Below.refl _ _)
  go_wp2_with fail
  refine Calls.mono (HS.out _) ?_
  rintro e wz ⟨rfl, rfl⟩
  go_wp2_with fail
  go_ret
  exact ⟨rfl, HB.out⟩

set_option maxHeartbeats 6400000 in
set_option maxRecDepth 100000 in
theorem turnRoot_111 (p q K : Nat) (x1 x2 : Nat) (zx : Int) (y1 y2 : Nat) (zy : Int) (w : World) (hp : okI p q) (hK : (-(p : Int)) % (q : Int) = (K : Int)) (hK2 : K + p = q ∨ (p = 0 ∧ K = 0)) (hX : addR p q 1 4 = ((x1 : Int), (x2 : Int), 0)) (ox : okI x1 x2) (ex : 8 * (x1 : Int) * q = (x2 : Int) * (8 * p + (2 : Nat) * q - 8 * zx * q)) (hY : addR p q 1 2 = ((y1 : Int), (y2 : Int), 0)) (oy : okI y1 y2) (ey : 8 * (y1 : Int) * q = (y2 : Int) * (8 * p + (4 : Nat) * q - 8 * zy * q)) (h8 : (q : Int) = 8) :
    Calls Try.prog 3 #[.agg #[.int .i64 (p : Int), .int .i64 (q : Int)]] w fun e w' => e = .returned (.bool true) ∧ Below w.heap.size w w' := by
  have HL := hid tlives_any
  have HX := hid (boxes1 w 23 #[.int .i64 (p : Int), .int .i64 (q : Int)])
  have np := hp.nat
  have ok : okI (K : Int) q := by rw [← hK]; exact gcd_back hp
  have nk := ok.nat
  have HRt := hid (fun V => troot_ok p q V np.1 np.2.1 np.2.2.1)
  have HRn := hid (fun V => troot_ok K q V nk.1 nk.2.1 nk.2.2.1)
  have i4 : in64 1 4 := ⟨⟨by decide, by decide⟩, by decide, by decide⟩
  have i2 : in64 1 2 := ⟨⟨by decide, by decide⟩, by decide, by decide⟩
  have nx := ox.nat
  have HRx := hid (fun V => troot_ok x1 x2 V nx.1 nx.2.1 nx.2.2.1)
  have HAx := hid (fun V => ladd_any p q 1 4 x1 x2 0 true V hp.in64 i4 hX rfl)
  have Qx := hid (And.intro nx ex)
  clear nx ox ex hX
  have ny := oy.nat
  have HRy := hid (fun V => troot_ok y1 y2 V ny.1 ny.2.1 ny.2.2.1)
  have HAy := hid (fun V => ladd_any p q 1 2 y1 y2 0 true V hp.in64 i2 hY rfl)
  have Qy := hid (And.intro ny ey)
  clear ny oy ey hY
  have HNg := hid (fun V => tneg_any p q V hp.in64)
  rw [(neg_zero' hp).1, hK, show tV ((K : Int), (q : Int), 0) = Value.tuple #[.agg #[.int .i64 (K : Int), .int .i64 (q : Int)], .int .i64 0] from rfl] at HNg
  have H8 := hid h8
  have HP := hid (And.intro np (And.intro nk hK2))
  have hN : ∀ x, Op.unary .neg (.float .f64 x) = pure (.float .f64 (fneg x)) := fun _ => rfl
  clear np nk ok i4 i2 hp hK hK2 h8
  have HB := hid HX.out.2
  have HBt := hid HX.out.1
  clear HX
  go_enter Try.func3, Try.ntmps3
  go_wp2_with fail
  generalize w.alloc (.cells #[.int .i64 (p : Int), .int .i64 (q : Int)] 23) = w0 at *
  refine Calls.mono (HL.out _) ?_
  rintro e w1 ⟨rfl, hb⟩
  replace HBt := hid (HBt.out.later hb HBt.out.lt)
  replace HB := hid (b2 HB.out hb)
  clear hb
  obtain ⟨ct0, ct1, ft0, ft1⟩ := fbox_facts HBt.out (Below.refl _ _)
  go_wp2_with fail
  refine Calls.mono (HRt.out _) ?_
  rintro e w2 ⟨re, im, rfl, hr, hb⟩
  clear ct0 ct1 ft0 ft1
  replace HBt := hid (HBt.out.later hb HBt.out.lt)
  replace HB := hid (b2 HB.out hb)
  clear hb
  obtain ⟨A, hA⟩ := fn_all .mul re re
  obtain ⟨B, hB⟩ := fn_all .mul im im
  obtain ⟨S, hS⟩ := fn_all .add A B
  obtain ⟨d, hd⟩ := fn_all .sub S 4607182418800017408
  have Z := root_size HP.out.1.1 HP.out.1.2.1 hr hA hB hS hd
  have U := root_in HP.out.1.1 (by have := HP.out.1.2.1; omega) hr
  have r1 := le_one U.1
  have r2 := le_one U.2
  have g1 := not_gt Z.1.1 one_c.1 (by rw [one_c.2]; exact r1.2)
  have g2 := not_lt Z.1.1 none_c.1 (by rw [none_c.2]; exact r1.1)
  have g3 := not_gt Z.1.2.1 one_c.1 (by rw [one_c.2]; exact r2.2)
  have g4 := not_lt Z.1.2.1 none_c.1 (by rw [none_c.2]; exact r2.1)
  have g5 := not_gt Z.1.2.2.2.2.2 eps_c.1 (by rw [eps_c.2]; exact Z.2.2)
  have g6 := not_lt Z.1.2.2.2.2.2 neps_c.1 (by rw [neps_c.2]; exact Z.2.1)
  have b1 : ∀ V, (binOp .mul 29 (.float .f64 re) (.float .f64 re)).run Try.prog V = .ok (.float .f64 A) V := fun V => run_float_arith V _ _ _ _ _ _ (hA.fi_some Z.1.2.2.1)
  have b2' : ∀ V, (binOp .mul 29 (.float .f64 im) (.float .f64 im)).run Try.prog V = .ok (.float .f64 B) V := fun V => run_float_arith V _ _ _ _ _ _ (hB.fi_some Z.1.2.2.2.1)
  have b3 : ∀ V, (binOp .add 29 (.float .f64 A) (.float .f64 B)).run Try.prog V = .ok (.float .f64 S) V := fun V => run_float_arith V _ _ _ _ _ _ (hS.fi_some Z.1.2.2.2.2.1)
  have b4 : ∀ V, (binOp .sub 29 (.float .f64 S) (.float .f64 4607182418800017408)).run Try.prog V = .ok (.float .f64 d) V := fun V => run_float_arith V _ _ _ _ _ _ (hd.fi_some Z.1.2.2.2.2.2)
  have HF := hid (And.intro Z.1.1 (And.intro Z.1.2.1 hr))
  clear Z U r1 r2 hA hB hS hd hr
  obtain ⟨ct0, ct1, ft0, ft1⟩ := fbox_facts HBt.out (Below.refl _ _)
  go_wp2_with fail
  clear g1 g2 g3 g4 g5 g6 b1 b2' b3 b4
  refine Calls.mono (HAx.out _) ?_
  rintro e w3 ⟨rfl, hb⟩
  clear ct0 ct1 ft0 ft1
  replace HBt := hid (HBt.out.later hb HBt.out.lt)
  replace HB := hid (b2 HB.out hb)
  clear hb
  have HN := hid (boxes1 w3 23 #[.int .i64 (x1 : Int), .int .i64 (x2 : Int)])
  obtain ⟨w4, hW⟩ : ∃ w4, w3.alloc (.cells #[.int .i64 (x1 : Int), .int .i64 (x2 : Int)] 23) = w4 := ⟨_, rfl⟩
  rw [hW] at HN
  replace HBt := hid (HBt.out.later HN.out.2 HBt.out.lt)
  replace HB := hid (b2 HB.out HN.out.2)
  have HBx := hid HN.out.1
  clear HN
  obtain ⟨ct0, ct1, ft0, ft1⟩ := fbox_facts HBt.out (Below.refl _ _)
  obtain ⟨cx0, cx1, fx0, fx1⟩ := fbox_facts HBx.out (Below.refl _ _)
  go_wp2_with fail
  clear hW
  refine Calls.mono (HAy.out _) ?_
  rintro e w5 ⟨rfl, hb⟩
  clear ct0 ct1 ft0 ft1
  clear cx0 cx1 fx0 fx1
  replace HBt := hid (HBt.out.later hb HBt.out.lt)
  replace HBx := hid (HBx.out.later hb HBx.out.lt)
  replace HB := hid (b2 HB.out hb)
  clear hb
  have HN := hid (boxes1 w5 23 #[.int .i64 (y1 : Int), .int .i64 (y2 : Int)])
  obtain ⟨w6, hW⟩ : ∃ w6, w5.alloc (.cells #[.int .i64 (y1 : Int), .int .i64 (y2 : Int)] 23) = w6 := ⟨_, rfl⟩
  rw [hW] at HN
  replace HBt := hid (HBt.out.later HN.out.2 HBt.out.lt)
  replace HBx := hid (HBx.out.later HN.out.2 HBx.out.lt)
  replace HB := hid (b2 HB.out HN.out.2)
  have HBy := hid HN.out.1
  clear HN
  obtain ⟨ct0, ct1, ft0, ft1⟩ := fbox_facts HBt.out (Below.refl _ _)
  obtain ⟨cx0, cx1, fx0, fx1⟩ := fbox_facts HBx.out (Below.refl _ _)
  obtain ⟨cy0, cy1, fy0, fy1⟩ := fbox_facts HBy.out (Below.refl _ _)
  go_wp2_with fail
  clear hW
  refine Calls.mono (HRx.out _) ?_
  rintro e w7 ⟨rex, imx, rfl, hr, hb⟩
  clear ct0 ct1 ft0 ft1
  clear cx0 cx1 fx0 fx1
  clear cy0 cy1 fy0 fy1
  replace HBt := hid (HBt.out.later hb HBt.out.lt)
  replace HBx := hid (HBx.out.later hb HBx.out.lt)
  replace HBy := hid (HBy.out.later hb HBy.out.lt)
  replace HB := hid (b2 HB.out hb)
  clear hb
  have HS := hid (fun V => sameNumber_sv rex imx (fneg im) re V (root_fi Qx.out.1.1 Qx.out.1.2.1 hr).1 (root_fi Qx.out.1.1 Qx.out.1.2.1 hr).2 HF.out.2.1.neg HF.out.1 (by rw [sv_fneg HF.out.2.1]; exact (root_quarter HP.out.1.2.2.2 HP.out.1.2.1 Qx.out.1.2.2.2 Qx.out.1.2.1 HP.out.1.1 Qx.out.1.1 Qx.out.2 HF.out.2.2 hr).1) (root_quarter HP.out.1.2.2.2 HP.out.1.2.1 Qx.out.1.2.2.2 Qx.out.1.2.1 HP.out.1.1 Qx.out.1.1 Qx.out.2 HF.out.2.2 hr).2)
  clear hr
  obtain ⟨ct0, ct1, ft0, ft1⟩ := fbox_facts HBt.out (Below.refl _ _)
  obtain ⟨cx0, cx1, fx0, fx1⟩ := fbox_facts HBx.out (Below.refl _ _)
  obtain ⟨cy0, cy1, fy0, fy1⟩ := fbox_facts HBy.out (Below.refl _ _)
  go_wp2_with fail
  refine Calls.mono (HS.out _) ?_
  rintro e wz ⟨rfl, rfl⟩
  clear HS
  go_wp2_with fail
  refine Calls.mono (HRy.out _) ?_
  rintro e w8 ⟨rey, imy, rfl, hr, hb⟩
  clear ct0 ct1 ft0 ft1
  clear cx0 cx1 fx0 fx1
  clear cy0 cy1 fy0 fy1
  replace HBt := hid (HBt.out.later hb HBt.out.lt)
  replace HBx := hid (HBx.out.later hb HBx.out.lt)
  replace HBy := hid (HBy.out.later hb HBy.out.lt)
  replace HB := hid (b2 HB.out hb)
  clear hb
  have HS := hid (fun V => sameNumber_sv rey imy (fneg re) (fneg im) V (root_fi Qy.out.1.1 Qy.out.1.2.1 hr).1 (root_fi Qy.out.1.1 Qy.out.1.2.1 hr).2 HF.out.1.neg HF.out.2.1.neg (by rw [sv_fneg HF.out.1]; exact (root_half HP.out.1.2.2.2 HP.out.1.2.1 Qy.out.1.2.2.2 Qy.out.1.2.1 HP.out.1.1 Qy.out.1.1 Qy.out.2 HF.out.2.2 hr).1) (by rw [sv_fneg HF.out.2.1]; exact (root_half HP.out.1.2.2.2 HP.out.1.2.1 Qy.out.1.2.2.2 Qy.out.1.2.1 HP.out.1.1 Qy.out.1.1 Qy.out.2 HF.out.2.2 hr).2))
  clear hr
  obtain ⟨ct0, ct1, ft0, ft1⟩ := fbox_facts HBt.out (Below.refl _ _)
  obtain ⟨cx0, cx1, fx0, fx1⟩ := fbox_facts HBx.out (Below.refl _ _)
  obtain ⟨cy0, cy1, fy0, fy1⟩ := fbox_facts HBy.out (Below.refl _ _)
  go_wp2_with fail
  refine Calls.mono (HS.out _) ?_
  rintro e wz ⟨rfl, rfl⟩
  clear HS
  go_wp2_with fail
  refine Calls.mono (HNg.out _) ?_
  rintro e w9 ⟨rfl, hb⟩
  clear ct0 ct1 ft0 ft1
  clear cx0 cx1 fx0 fx1
  clear cy0 cy1 fy0 fy1
  replace HBt := hid (HBt.out.later hb HBt.out.lt)
  replace HBx := hid (HBx.out.later hb HBx.out.lt)
  replace HBy := hid (HBy.out.later hb HBy.out.lt)
  replace HB := hid (b2 HB.out hb)
  clear hb
  have HN := hid (boxes1 w9 23 #[.int .i64 (K : Int), .int .i64 (q : Int)])
  obtain ⟨w10, hW⟩ : ∃ w10, w9.alloc (.cells #[.int .i64 (K : Int), .int .i64 (q : Int)] 23) = w10 := ⟨_, rfl⟩
  rw [hW] at HN
  replace HBt := hid (HBt.out.later HN.out.2 HBt.out.lt)
  replace HBx := hid (HBx.out.later HN.out.2 HBx.out.lt)
  replace HBy := hid (HBy.out.later HN.out.2 HBy.out.lt)
  replace HB := hid (b2 HB.out HN.out.2)
  have HBn := hid HN.out.1
  clear HN
  obtain ⟨ct0, ct1, ft0, ft1⟩ := fbox_facts HBt.out (Below.refl _ _)
  obtain ⟨cx0, cx1, fx0, fx1⟩ := fbox_facts HBx.out (Below.refl _ _)
  obtain ⟨cy0, cy1, fy0, fy1⟩ := fbox_facts HBy.out (Below.refl _ _)
  obtain ⟨cn0, cn1, fn0, fn1⟩ := fbox_facts HBn.out (Below.refl _ _)
  go_wp2_with fail
  clear hW
  refine Calls.mono (HRn.out _) ?_
  rintro e w11 ⟨ren, imn, rfl, hr, hb⟩
  clear ct0 ct1 ft0 ft1
  clear cx0 cx1 fx0 fx1
  clear cy0 cy1 fy0 fy1
  clear cn0 cn1 fn0 fn1
  replace HBt := hid (HBt.out.later hb HBt.out.lt)
  replace HBx := hid (HBx.out.later hb HBx.out.lt)
  replace HBy := hid (HBy.out.later hb HBy.out.lt)
  replace HBn := hid (HBn.out.later hb HBn.out.lt)
  replace HB := hid (b2 HB.out hb)
  clear hb
  have h8 := H8.out
  obtain ⟨ct0, ct1, ft0, ft1⟩ := fbox_facts HBt.out (Below.refl _ _)
  obtain ⟨cx0, cx1, fx0, fx1⟩ := fbox_facts HBx.out (Below.refl _ _)
  obtain ⟨cy0, cy1, fy0, fy1⟩ := fbox_facts HBy.out (Below.refl _ _)
  obtain ⟨cn0, cn1, fn0, fn1⟩ := fbox_facts HBn.out (Below.refl _ _)
  go_wp2_with fail
  go_ret
  exact ⟨rfl, HB.out⟩

set_option maxHeartbeats 6400000 in
set_option maxRecDepth 100000 in
theorem turnRoot_100 (p q K : Nat) (x1 x2 : Nat) (zx : Int) (y1 y2 y3 : Int) (w : World) (hp : okI p q) (hK : (-(p : Int)) % (q : Int) = (K : Int)) (hK2 : K + p = q ∨ (p = 0 ∧ K = 0)) (hX : addR p q 1 4 = ((x1 : Int), (x2 : Int), 0)) (ox : okI x1 x2) (ex : 8 * (x1 : Int) * q = (x2 : Int) * (8 * p + (2 : Nat) * q - 8 * zx * q)) (hY : addR p q 1 2 = (y1, y2, y3)) (ny : ¬ y3 = 0) (h8 : ¬ (q : Int) = 8) :
    Calls Try.prog 3 #[.agg #[.int .i64 (p : Int), .int .i64 (q : Int)]] w fun e w' => e = .returned (.bool true) ∧ Below w.heap.size w w' := by
  have HL := hid tlives_any
  have HX := hid (boxes1 w 23 #[.int .i64 (p : Int), .int .i64 (q : Int)])
  have np := hp.nat
  have ok : okI (K : Int) q := by rw [← hK]; exact gcd_back hp
  have nk := ok.nat
  have HRt := hid (fun V => troot_ok p q V np.1 np.2.1 np.2.2.1)
  have HRn := hid (fun V => troot_ok K q V nk.1 nk.2.1 nk.2.2.1)
  have i4 : in64 1 4 := ⟨⟨by decide, by decide⟩, by decide, by decide⟩
  have i2 : in64 1 2 := ⟨⟨by decide, by decide⟩, by decide, by decide⟩
  have nx := ox.nat
  have HRx := hid (fun V => troot_ok x1 x2 V nx.1 nx.2.1 nx.2.2.1)
  have HAx := hid (fun V => ladd_any p q 1 4 x1 x2 0 true V hp.in64 i4 hX rfl)
  have Qx := hid (And.intro nx ex)
  clear nx ox ex hX
  have HAy := hid (fun V => ladd_any p q 1 2 y1 y2 y3 false V hp.in64 i2 hY (by simp [ny]))
  clear ny hY
  have HNg := hid (fun V => tneg_any p q V hp.in64)
  rw [(neg_zero' hp).1, hK, show tV ((K : Int), (q : Int), 0) = Value.tuple #[.agg #[.int .i64 (K : Int), .int .i64 (q : Int)], .int .i64 0] from rfl] at HNg
  have H8 := hid h8
  have HP := hid (And.intro np (And.intro nk hK2))
  have hN : ∀ x, Op.unary .neg (.float .f64 x) = pure (.float .f64 (fneg x)) := fun _ => rfl
  clear np nk ok i4 i2 hp hK hK2 h8
  have HB := hid HX.out.2
  have HBt := hid HX.out.1
  clear HX
  go_enter Try.func3, Try.ntmps3
  go_wp2_with fail
  generalize w.alloc (.cells #[.int .i64 (p : Int), .int .i64 (q : Int)] 23) = w0 at *
  refine Calls.mono (HL.out _) ?_
  rintro e w1 ⟨rfl, hb⟩
  replace HBt := hid (HBt.out.later hb HBt.out.lt)
  replace HB := hid (b2 HB.out hb)
  clear hb
  obtain ⟨ct0, ct1, ft0, ft1⟩ := fbox_facts HBt.out (Below.refl _ _)
  go_wp2_with fail
  refine Calls.mono (HRt.out _) ?_
  rintro e w2 ⟨re, im, rfl, hr, hb⟩
  clear ct0 ct1 ft0 ft1
  replace HBt := hid (HBt.out.later hb HBt.out.lt)
  replace HB := hid (b2 HB.out hb)
  clear hb
  obtain ⟨A, hA⟩ := fn_all .mul re re
  obtain ⟨B, hB⟩ := fn_all .mul im im
  obtain ⟨S, hS⟩ := fn_all .add A B
  obtain ⟨d, hd⟩ := fn_all .sub S 4607182418800017408
  have Z := root_size HP.out.1.1 HP.out.1.2.1 hr hA hB hS hd
  have U := root_in HP.out.1.1 (by have := HP.out.1.2.1; omega) hr
  have r1 := le_one U.1
  have r2 := le_one U.2
  have g1 := not_gt Z.1.1 one_c.1 (by rw [one_c.2]; exact r1.2)
  have g2 := not_lt Z.1.1 none_c.1 (by rw [none_c.2]; exact r1.1)
  have g3 := not_gt Z.1.2.1 one_c.1 (by rw [one_c.2]; exact r2.2)
  have g4 := not_lt Z.1.2.1 none_c.1 (by rw [none_c.2]; exact r2.1)
  have g5 := not_gt Z.1.2.2.2.2.2 eps_c.1 (by rw [eps_c.2]; exact Z.2.2)
  have g6 := not_lt Z.1.2.2.2.2.2 neps_c.1 (by rw [neps_c.2]; exact Z.2.1)
  have b1 : ∀ V, (binOp .mul 29 (.float .f64 re) (.float .f64 re)).run Try.prog V = .ok (.float .f64 A) V := fun V => run_float_arith V _ _ _ _ _ _ (hA.fi_some Z.1.2.2.1)
  have b2' : ∀ V, (binOp .mul 29 (.float .f64 im) (.float .f64 im)).run Try.prog V = .ok (.float .f64 B) V := fun V => run_float_arith V _ _ _ _ _ _ (hB.fi_some Z.1.2.2.2.1)
  have b3 : ∀ V, (binOp .add 29 (.float .f64 A) (.float .f64 B)).run Try.prog V = .ok (.float .f64 S) V := fun V => run_float_arith V _ _ _ _ _ _ (hS.fi_some Z.1.2.2.2.2.1)
  have b4 : ∀ V, (binOp .sub 29 (.float .f64 S) (.float .f64 4607182418800017408)).run Try.prog V = .ok (.float .f64 d) V := fun V => run_float_arith V _ _ _ _ _ _ (hd.fi_some Z.1.2.2.2.2.2)
  have HF := hid (And.intro Z.1.1 (And.intro Z.1.2.1 hr))
  clear Z U r1 r2 hA hB hS hd hr
  obtain ⟨ct0, ct1, ft0, ft1⟩ := fbox_facts HBt.out (Below.refl _ _)
  go_wp2_with fail
  clear g1 g2 g3 g4 g5 g6 b1 b2' b3 b4
  refine Calls.mono (HAx.out _) ?_
  rintro e w3 ⟨rfl, hb⟩
  clear ct0 ct1 ft0 ft1
  replace HBt := hid (HBt.out.later hb HBt.out.lt)
  replace HB := hid (b2 HB.out hb)
  clear hb
  have HN := hid (boxes1 w3 23 #[.int .i64 (x1 : Int), .int .i64 (x2 : Int)])
  obtain ⟨w4, hW⟩ : ∃ w4, w3.alloc (.cells #[.int .i64 (x1 : Int), .int .i64 (x2 : Int)] 23) = w4 := ⟨_, rfl⟩
  rw [hW] at HN
  replace HBt := hid (HBt.out.later HN.out.2 HBt.out.lt)
  replace HB := hid (b2 HB.out HN.out.2)
  have HBx := hid HN.out.1
  clear HN
  obtain ⟨ct0, ct1, ft0, ft1⟩ := fbox_facts HBt.out (Below.refl _ _)
  obtain ⟨cx0, cx1, fx0, fx1⟩ := fbox_facts HBx.out (Below.refl _ _)
  go_wp2_with fail
  clear hW
  refine Calls.mono (HAy.out _) ?_
  rintro e w5 ⟨rfl, hb⟩
  clear ct0 ct1 ft0 ft1
  clear cx0 cx1 fx0 fx1
  replace HBt := hid (HBt.out.later hb HBt.out.lt)
  replace HBx := hid (HBx.out.later hb HBx.out.lt)
  replace HB := hid (b2 HB.out hb)
  clear hb
  have HN := hid (boxes1 w5 23 #[.int .i64 (y1 : Int), .int .i64 (y2 : Int)])
  obtain ⟨w6, hW⟩ : ∃ w6, w5.alloc (.cells #[.int .i64 (y1 : Int), .int .i64 (y2 : Int)] 23) = w6 := ⟨_, rfl⟩
  rw [hW] at HN
  replace HBt := hid (HBt.out.later HN.out.2 HBt.out.lt)
  replace HBx := hid (HBx.out.later HN.out.2 HBx.out.lt)
  replace HB := hid (b2 HB.out HN.out.2)
  have HBy := hid HN.out.1
  clear HN
  obtain ⟨ct0, ct1, ft0, ft1⟩ := fbox_facts HBt.out (Below.refl _ _)
  obtain ⟨cx0, cx1, fx0, fx1⟩ := fbox_facts HBx.out (Below.refl _ _)
  obtain ⟨cy0, cy1, fy0, fy1⟩ := fbox_facts HBy.out (Below.refl _ _)
  go_wp2_with fail
  clear hW
  refine Calls.mono (HRx.out _) ?_
  rintro e w7 ⟨rex, imx, rfl, hr, hb⟩
  clear ct0 ct1 ft0 ft1
  clear cx0 cx1 fx0 fx1
  clear cy0 cy1 fy0 fy1
  replace HBt := hid (HBt.out.later hb HBt.out.lt)
  replace HBx := hid (HBx.out.later hb HBx.out.lt)
  replace HBy := hid (HBy.out.later hb HBy.out.lt)
  replace HB := hid (b2 HB.out hb)
  clear hb
  have HS := hid (fun V => sameNumber_sv rex imx (fneg im) re V (root_fi Qx.out.1.1 Qx.out.1.2.1 hr).1 (root_fi Qx.out.1.1 Qx.out.1.2.1 hr).2 HF.out.2.1.neg HF.out.1 (by rw [sv_fneg HF.out.2.1]; exact (root_quarter HP.out.1.2.2.2 HP.out.1.2.1 Qx.out.1.2.2.2 Qx.out.1.2.1 HP.out.1.1 Qx.out.1.1 Qx.out.2 HF.out.2.2 hr).1) (root_quarter HP.out.1.2.2.2 HP.out.1.2.1 Qx.out.1.2.2.2 Qx.out.1.2.1 HP.out.1.1 Qx.out.1.1 Qx.out.2 HF.out.2.2 hr).2)
  clear hr
  obtain ⟨ct0, ct1, ft0, ft1⟩ := fbox_facts HBt.out (Below.refl _ _)
  obtain ⟨cx0, cx1, fx0, fx1⟩ := fbox_facts HBx.out (Below.refl _ _)
  obtain ⟨cy0, cy1, fy0, fy1⟩ := fbox_facts HBy.out (Below.refl _ _)
  go_wp2_with fail
  refine Calls.mono (HS.out _) ?_
  rintro e wz ⟨rfl, rfl⟩
  clear HS
  go_wp2_with fail
  refine Calls.mono (HNg.out _) ?_
  rintro e w8 ⟨rfl, hb⟩
  clear ct0 ct1 ft0 ft1
  clear cx0 cx1 fx0 fx1
  clear cy0 cy1 fy0 fy1
  replace HBt := hid (HBt.out.later hb HBt.out.lt)
  replace HBx := hid (HBx.out.later hb HBx.out.lt)
  replace HBy := hid (HBy.out.later hb HBy.out.lt)
  replace HB := hid (b2 HB.out hb)
  clear hb
  have HN := hid (boxes1 w8 23 #[.int .i64 (K : Int), .int .i64 (q : Int)])
  obtain ⟨w9, hW⟩ : ∃ w9, w8.alloc (.cells #[.int .i64 (K : Int), .int .i64 (q : Int)] 23) = w9 := ⟨_, rfl⟩
  rw [hW] at HN
  replace HBt := hid (HBt.out.later HN.out.2 HBt.out.lt)
  replace HBx := hid (HBx.out.later HN.out.2 HBx.out.lt)
  replace HBy := hid (HBy.out.later HN.out.2 HBy.out.lt)
  replace HB := hid (b2 HB.out HN.out.2)
  have HBn := hid HN.out.1
  clear HN
  obtain ⟨ct0, ct1, ft0, ft1⟩ := fbox_facts HBt.out (Below.refl _ _)
  obtain ⟨cx0, cx1, fx0, fx1⟩ := fbox_facts HBx.out (Below.refl _ _)
  obtain ⟨cy0, cy1, fy0, fy1⟩ := fbox_facts HBy.out (Below.refl _ _)
  obtain ⟨cn0, cn1, fn0, fn1⟩ := fbox_facts HBn.out (Below.refl _ _)
  go_wp2_with fail
  clear hW
  refine Calls.mono (HRn.out _) ?_
  rintro e w10 ⟨ren, imn, rfl, hr, hb⟩
  clear ct0 ct1 ft0 ft1
  clear cx0 cx1 fx0 fx1
  clear cy0 cy1 fy0 fy1
  clear cn0 cn1 fn0 fn1
  replace HBt := hid (HBt.out.later hb HBt.out.lt)
  replace HBx := hid (HBx.out.later hb HBx.out.lt)
  replace HBy := hid (HBy.out.later hb HBy.out.lt)
  replace HBn := hid (HBn.out.later hb HBn.out.lt)
  replace HB := hid (b2 HB.out hb)
  clear hb
  have h8 := H8.out
  have HS := hid (fun V => sameNumber_sv ren imn re (fneg im) V (root_fi HP.out.2.1.1 HP.out.2.1.2.1 hr).1 (root_fi HP.out.2.1.1 HP.out.2.1.2.1 hr).2 HF.out.1 HF.out.2.1.neg (root_neg HP.out.1.2.1 HP.out.1.1 HP.out.2.1.1 HP.out.2.2 HP.out.1.2.2.1 (by omega) HF.out.2.2 hr).1 (by rw [sv_fneg HF.out.2.1]; exact (root_neg HP.out.1.2.1 HP.out.1.1 HP.out.2.1.1 HP.out.2.2 HP.out.1.2.2.1 (by omega) HF.out.2.2 hr).2))
  clear hr
  obtain ⟨ct0, ct1, ft0, ft1⟩ := fbox_facts HBt.out (Below.refl _ _)
  obtain ⟨cx0, cx1, fx0, fx1⟩ := fbox_facts HBx.out (Below.refl _ _)
  obtain ⟨cy0, cy1, fy0, fy1⟩ := fbox_facts HBy.out (Below.refl _ _)
  obtain ⟨cn0, cn1, fn0, fn1⟩ := fbox_facts HBn.out (Below.refl _ _)
  go_wp2_with fail
  refine Calls.mono (HS.out _) ?_
  rintro e wz ⟨rfl, rfl⟩
  go_wp2_with fail
  go_ret
  exact ⟨rfl, HB.out⟩

set_option maxHeartbeats 6400000 in
set_option maxRecDepth 100000 in
theorem turnRoot_101 (p q K : Nat) (x1 x2 : Nat) (zx : Int) (y1 y2 y3 : Int) (w : World) (hp : okI p q) (hK : (-(p : Int)) % (q : Int) = (K : Int)) (hK2 : K + p = q ∨ (p = 0 ∧ K = 0)) (hX : addR p q 1 4 = ((x1 : Int), (x2 : Int), 0)) (ox : okI x1 x2) (ex : 8 * (x1 : Int) * q = (x2 : Int) * (8 * p + (2 : Nat) * q - 8 * zx * q)) (hY : addR p q 1 2 = (y1, y2, y3)) (ny : ¬ y3 = 0) (h8 : (q : Int) = 8) :
    Calls Try.prog 3 #[.agg #[.int .i64 (p : Int), .int .i64 (q : Int)]] w fun e w' => e = .returned (.bool true) ∧ Below w.heap.size w w' := by
  have HL := hid tlives_any
  have HX := hid (boxes1 w 23 #[.int .i64 (p : Int), .int .i64 (q : Int)])
  have np := hp.nat
  have ok : okI (K : Int) q := by rw [← hK]; exact gcd_back hp
  have nk := ok.nat
  have HRt := hid (fun V => troot_ok p q V np.1 np.2.1 np.2.2.1)
  have HRn := hid (fun V => troot_ok K q V nk.1 nk.2.1 nk.2.2.1)
  have i4 : in64 1 4 := ⟨⟨by decide, by decide⟩, by decide, by decide⟩
  have i2 : in64 1 2 := ⟨⟨by decide, by decide⟩, by decide, by decide⟩
  have nx := ox.nat
  have HRx := hid (fun V => troot_ok x1 x2 V nx.1 nx.2.1 nx.2.2.1)
  have HAx := hid (fun V => ladd_any p q 1 4 x1 x2 0 true V hp.in64 i4 hX rfl)
  have Qx := hid (And.intro nx ex)
  clear nx ox ex hX
  have HAy := hid (fun V => ladd_any p q 1 2 y1 y2 y3 false V hp.in64 i2 hY (by simp [ny]))
  clear ny hY
  have HNg := hid (fun V => tneg_any p q V hp.in64)
  rw [(neg_zero' hp).1, hK, show tV ((K : Int), (q : Int), 0) = Value.tuple #[.agg #[.int .i64 (K : Int), .int .i64 (q : Int)], .int .i64 0] from rfl] at HNg
  have H8 := hid h8
  have HP := hid (And.intro np (And.intro nk hK2))
  have hN : ∀ x, Op.unary .neg (.float .f64 x) = pure (.float .f64 (fneg x)) := fun _ => rfl
  clear np nk ok i4 i2 hp hK hK2 h8
  have HB := hid HX.out.2
  have HBt := hid HX.out.1
  clear HX
  go_enter Try.func3, Try.ntmps3
  go_wp2_with fail
  generalize w.alloc (.cells #[.int .i64 (p : Int), .int .i64 (q : Int)] 23) = w0 at *
  refine Calls.mono (HL.out _) ?_
  rintro e w1 ⟨rfl, hb⟩
  replace HBt := hid (HBt.out.later hb HBt.out.lt)
  replace HB := hid (b2 HB.out hb)
  clear hb
  obtain ⟨ct0, ct1, ft0, ft1⟩ := fbox_facts HBt.out (Below.refl _ _)
  go_wp2_with fail
  refine Calls.mono (HRt.out _) ?_
  rintro e w2 ⟨re, im, rfl, hr, hb⟩
  clear ct0 ct1 ft0 ft1
  replace HBt := hid (HBt.out.later hb HBt.out.lt)
  replace HB := hid (b2 HB.out hb)
  clear hb
  obtain ⟨A, hA⟩ := fn_all .mul re re
  obtain ⟨B, hB⟩ := fn_all .mul im im
  obtain ⟨S, hS⟩ := fn_all .add A B
  obtain ⟨d, hd⟩ := fn_all .sub S 4607182418800017408
  have Z := root_size HP.out.1.1 HP.out.1.2.1 hr hA hB hS hd
  have U := root_in HP.out.1.1 (by have := HP.out.1.2.1; omega) hr
  have r1 := le_one U.1
  have r2 := le_one U.2
  have g1 := not_gt Z.1.1 one_c.1 (by rw [one_c.2]; exact r1.2)
  have g2 := not_lt Z.1.1 none_c.1 (by rw [none_c.2]; exact r1.1)
  have g3 := not_gt Z.1.2.1 one_c.1 (by rw [one_c.2]; exact r2.2)
  have g4 := not_lt Z.1.2.1 none_c.1 (by rw [none_c.2]; exact r2.1)
  have g5 := not_gt Z.1.2.2.2.2.2 eps_c.1 (by rw [eps_c.2]; exact Z.2.2)
  have g6 := not_lt Z.1.2.2.2.2.2 neps_c.1 (by rw [neps_c.2]; exact Z.2.1)
  have b1 : ∀ V, (binOp .mul 29 (.float .f64 re) (.float .f64 re)).run Try.prog V = .ok (.float .f64 A) V := fun V => run_float_arith V _ _ _ _ _ _ (hA.fi_some Z.1.2.2.1)
  have b2' : ∀ V, (binOp .mul 29 (.float .f64 im) (.float .f64 im)).run Try.prog V = .ok (.float .f64 B) V := fun V => run_float_arith V _ _ _ _ _ _ (hB.fi_some Z.1.2.2.2.1)
  have b3 : ∀ V, (binOp .add 29 (.float .f64 A) (.float .f64 B)).run Try.prog V = .ok (.float .f64 S) V := fun V => run_float_arith V _ _ _ _ _ _ (hS.fi_some Z.1.2.2.2.2.1)
  have b4 : ∀ V, (binOp .sub 29 (.float .f64 S) (.float .f64 4607182418800017408)).run Try.prog V = .ok (.float .f64 d) V := fun V => run_float_arith V _ _ _ _ _ _ (hd.fi_some Z.1.2.2.2.2.2)
  have HF := hid (And.intro Z.1.1 (And.intro Z.1.2.1 hr))
  clear Z U r1 r2 hA hB hS hd hr
  obtain ⟨ct0, ct1, ft0, ft1⟩ := fbox_facts HBt.out (Below.refl _ _)
  go_wp2_with fail
  clear g1 g2 g3 g4 g5 g6 b1 b2' b3 b4
  refine Calls.mono (HAx.out _) ?_
  rintro e w3 ⟨rfl, hb⟩
  clear ct0 ct1 ft0 ft1
  replace HBt := hid (HBt.out.later hb HBt.out.lt)
  replace HB := hid (b2 HB.out hb)
  clear hb
  have HN := hid (boxes1 w3 23 #[.int .i64 (x1 : Int), .int .i64 (x2 : Int)])
  obtain ⟨w4, hW⟩ : ∃ w4, w3.alloc (.cells #[.int .i64 (x1 : Int), .int .i64 (x2 : Int)] 23) = w4 := ⟨_, rfl⟩
  rw [hW] at HN
  replace HBt := hid (HBt.out.later HN.out.2 HBt.out.lt)
  replace HB := hid (b2 HB.out HN.out.2)
  have HBx := hid HN.out.1
  clear HN
  obtain ⟨ct0, ct1, ft0, ft1⟩ := fbox_facts HBt.out (Below.refl _ _)
  obtain ⟨cx0, cx1, fx0, fx1⟩ := fbox_facts HBx.out (Below.refl _ _)
  go_wp2_with fail
  clear hW
  refine Calls.mono (HAy.out _) ?_
  rintro e w5 ⟨rfl, hb⟩
  clear ct0 ct1 ft0 ft1
  clear cx0 cx1 fx0 fx1
  replace HBt := hid (HBt.out.later hb HBt.out.lt)
  replace HBx := hid (HBx.out.later hb HBx.out.lt)
  replace HB := hid (b2 HB.out hb)
  clear hb
  have HN := hid (boxes1 w5 23 #[.int .i64 (y1 : Int), .int .i64 (y2 : Int)])
  obtain ⟨w6, hW⟩ : ∃ w6, w5.alloc (.cells #[.int .i64 (y1 : Int), .int .i64 (y2 : Int)] 23) = w6 := ⟨_, rfl⟩
  rw [hW] at HN
  replace HBt := hid (HBt.out.later HN.out.2 HBt.out.lt)
  replace HBx := hid (HBx.out.later HN.out.2 HBx.out.lt)
  replace HB := hid (b2 HB.out HN.out.2)
  have HBy := hid HN.out.1
  clear HN
  obtain ⟨ct0, ct1, ft0, ft1⟩ := fbox_facts HBt.out (Below.refl _ _)
  obtain ⟨cx0, cx1, fx0, fx1⟩ := fbox_facts HBx.out (Below.refl _ _)
  obtain ⟨cy0, cy1, fy0, fy1⟩ := fbox_facts HBy.out (Below.refl _ _)
  go_wp2_with fail
  clear hW
  refine Calls.mono (HRx.out _) ?_
  rintro e w7 ⟨rex, imx, rfl, hr, hb⟩
  clear ct0 ct1 ft0 ft1
  clear cx0 cx1 fx0 fx1
  clear cy0 cy1 fy0 fy1
  replace HBt := hid (HBt.out.later hb HBt.out.lt)
  replace HBx := hid (HBx.out.later hb HBx.out.lt)
  replace HBy := hid (HBy.out.later hb HBy.out.lt)
  replace HB := hid (b2 HB.out hb)
  clear hb
  have HS := hid (fun V => sameNumber_sv rex imx (fneg im) re V (root_fi Qx.out.1.1 Qx.out.1.2.1 hr).1 (root_fi Qx.out.1.1 Qx.out.1.2.1 hr).2 HF.out.2.1.neg HF.out.1 (by rw [sv_fneg HF.out.2.1]; exact (root_quarter HP.out.1.2.2.2 HP.out.1.2.1 Qx.out.1.2.2.2 Qx.out.1.2.1 HP.out.1.1 Qx.out.1.1 Qx.out.2 HF.out.2.2 hr).1) (root_quarter HP.out.1.2.2.2 HP.out.1.2.1 Qx.out.1.2.2.2 Qx.out.1.2.1 HP.out.1.1 Qx.out.1.1 Qx.out.2 HF.out.2.2 hr).2)
  clear hr
  obtain ⟨ct0, ct1, ft0, ft1⟩ := fbox_facts HBt.out (Below.refl _ _)
  obtain ⟨cx0, cx1, fx0, fx1⟩ := fbox_facts HBx.out (Below.refl _ _)
  obtain ⟨cy0, cy1, fy0, fy1⟩ := fbox_facts HBy.out (Below.refl _ _)
  go_wp2_with fail
  refine Calls.mono (HS.out _) ?_
  rintro e wz ⟨rfl, rfl⟩
  clear HS
  go_wp2_with fail
  refine Calls.mono (HNg.out _) ?_
  rintro e w8 ⟨rfl, hb⟩
  clear ct0 ct1 ft0 ft1
  clear cx0 cx1 fx0 fx1
  clear cy0 cy1 fy0 fy1
  replace HBt := hid (HBt.out.later hb HBt.out.lt)
  replace HBx := hid (HBx.out.later hb HBx.out.lt)
  replace HBy := hid (HBy.out.later hb HBy.out.lt)
  replace HB := hid (b2 HB.out hb)
  clear hb
  have HN := hid (boxes1 w8 23 #[.int .i64 (K : Int), .int .i64 (q : Int)])
  obtain ⟨w9, hW⟩ : ∃ w9, w8.alloc (.cells #[.int .i64 (K : Int), .int .i64 (q : Int)] 23) = w9 := ⟨_, rfl⟩
  rw [hW] at HN
  replace HBt := hid (HBt.out.later HN.out.2 HBt.out.lt)
  replace HBx := hid (HBx.out.later HN.out.2 HBx.out.lt)
  replace HBy := hid (HBy.out.later HN.out.2 HBy.out.lt)
  replace HB := hid (b2 HB.out HN.out.2)
  have HBn := hid HN.out.1
  clear HN
  obtain ⟨ct0, ct1, ft0, ft1⟩ := fbox_facts HBt.out (Below.refl _ _)
  obtain ⟨cx0, cx1, fx0, fx1⟩ := fbox_facts HBx.out (Below.refl _ _)
  obtain ⟨cy0, cy1, fy0, fy1⟩ := fbox_facts HBy.out (Below.refl _ _)
  obtain ⟨cn0, cn1, fn0, fn1⟩ := fbox_facts HBn.out (Below.refl _ _)
  go_wp2_with fail
  clear hW
  refine Calls.mono (HRn.out _) ?_
  rintro e w10 ⟨ren, imn, rfl, hr, hb⟩
  clear ct0 ct1 ft0 ft1
  clear cx0 cx1 fx0 fx1
  clear cy0 cy1 fy0 fy1
  clear cn0 cn1 fn0 fn1
  replace HBt := hid (HBt.out.later hb HBt.out.lt)
  replace HBx := hid (HBx.out.later hb HBx.out.lt)
  replace HBy := hid (HBy.out.later hb HBy.out.lt)
  replace HBn := hid (HBn.out.later hb HBn.out.lt)
  replace HB := hid (b2 HB.out hb)
  clear hb
  have h8 := H8.out
  obtain ⟨ct0, ct1, ft0, ft1⟩ := fbox_facts HBt.out (Below.refl _ _)
  obtain ⟨cx0, cx1, fx0, fx1⟩ := fbox_facts HBx.out (Below.refl _ _)
  obtain ⟨cy0, cy1, fy0, fy1⟩ := fbox_facts HBy.out (Below.refl _ _)
  obtain ⟨cn0, cn1, fn0, fn1⟩ := fbox_facts HBn.out (Below.refl _ _)
  go_wp2_with fail
  go_ret
  exact ⟨rfl, HB.out⟩

set_option maxHeartbeats 6400000 in
set_option maxRecDepth 100000 in
theorem turnRoot_010 (p q K : Nat) (x1 x2 x3 : Int) (y1 y2 : Nat) (zy : Int) (w : World) (hp : okI p q) (hK : (-(p : Int)) % (q : Int) = (K : Int)) (hK2 : K + p = q ∨ (p = 0 ∧ K = 0)) (hX : addR p q 1 4 = (x1, x2, x3)) (nx : ¬ x3 = 0) (hY : addR p q 1 2 = ((y1 : Int), (y2 : Int), 0)) (oy : okI y1 y2) (ey : 8 * (y1 : Int) * q = (y2 : Int) * (8 * p + (4 : Nat) * q - 8 * zy * q)) (h8 : ¬ (q : Int) = 8) :
    Calls Try.prog 3 #[.agg #[.int .i64 (p : Int), .int .i64 (q : Int)]] w fun e w' => e = .returned (.bool true) ∧ Below w.heap.size w w' := by
  have HL := hid tlives_any
  have HX := hid (boxes1 w 23 #[.int .i64 (p : Int), .int .i64 (q : Int)])
  have np := hp.nat
  have ok : okI (K : Int) q := by rw [← hK]; exact gcd_back hp
  have nk := ok.nat
  have HRt := hid (fun V => troot_ok p q V np.1 np.2.1 np.2.2.1)
  have HRn := hid (fun V => troot_ok K q V nk.1 nk.2.1 nk.2.2.1)
  have i4 : in64 1 4 := ⟨⟨by decide, by decide⟩, by decide, by decide⟩
  have i2 : in64 1 2 := ⟨⟨by decide, by decide⟩, by decide, by decide⟩
  have HAx := hid (fun V => ladd_any p q 1 4 x1 x2 x3 false V hp.in64 i4 hX (by simp [nx]))
  clear nx hX
  have ny := oy.nat
  have HRy := hid (fun V => troot_ok y1 y2 V ny.1 ny.2.1 ny.2.2.1)
  have HAy := hid (fun V => ladd_any p q 1 2 y1 y2 0 true V hp.in64 i2 hY rfl)
  have Qy := hid (And.intro ny ey)
  clear ny oy ey hY
  have HNg := hid (fun V => tneg_any p q V hp.in64)
  rw [(neg_zero' hp).1, hK, show tV ((K : Int), (q : Int), 0) = Value.tuple #[.agg #[.int .i64 (K : Int), .int .i64 (q : Int)], .int .i64 0] from rfl] at HNg
  have H8 := hid h8
  have HP := hid (And.intro np (And.intro nk hK2))
  have hN : ∀ x, Op.unary .neg (.float .f64 x) = pure (.float .f64 (fneg x)) := fun _ => rfl
  clear np nk ok i4 i2 hp hK hK2 h8
  have HB := hid HX.out.2
  have HBt := hid HX.out.1
  clear HX
  go_enter Try.func3, Try.ntmps3
  go_wp2_with fail
  generalize w.alloc (.cells #[.int .i64 (p : Int), .int .i64 (q : Int)] 23) = w0 at *
  refine Calls.mono (HL.out _) ?_
  rintro e w1 ⟨rfl, hb⟩
  replace HBt := hid (HBt.out.later hb HBt.out.lt)
  replace HB := hid (b2 HB.out hb)
  clear hb
  obtain ⟨ct0, ct1, ft0, ft1⟩ := fbox_facts HBt.out (Below.refl _ _)
  go_wp2_with fail
  refine Calls.mono (HRt.out _) ?_
  rintro e w2 ⟨re, im, rfl, hr, hb⟩
  clear ct0 ct1 ft0 ft1
  replace HBt := hid (HBt.out.later hb HBt.out.lt)
  replace HB := hid (b2 HB.out hb)
  clear hb
  obtain ⟨A, hA⟩ := fn_all .mul re re
  obtain ⟨B, hB⟩ := fn_all .mul im im
  obtain ⟨S, hS⟩ := fn_all .add A B
  obtain ⟨d, hd⟩ := fn_all .sub S 4607182418800017408
  have Z := root_size HP.out.1.1 HP.out.1.2.1 hr hA hB hS hd
  have U := root_in HP.out.1.1 (by have := HP.out.1.2.1; omega) hr
  have r1 := le_one U.1
  have r2 := le_one U.2
  have g1 := not_gt Z.1.1 one_c.1 (by rw [one_c.2]; exact r1.2)
  have g2 := not_lt Z.1.1 none_c.1 (by rw [none_c.2]; exact r1.1)
  have g3 := not_gt Z.1.2.1 one_c.1 (by rw [one_c.2]; exact r2.2)
  have g4 := not_lt Z.1.2.1 none_c.1 (by rw [none_c.2]; exact r2.1)
  have g5 := not_gt Z.1.2.2.2.2.2 eps_c.1 (by rw [eps_c.2]; exact Z.2.2)
  have g6 := not_lt Z.1.2.2.2.2.2 neps_c.1 (by rw [neps_c.2]; exact Z.2.1)
  have b1 : ∀ V, (binOp .mul 29 (.float .f64 re) (.float .f64 re)).run Try.prog V = .ok (.float .f64 A) V := fun V => run_float_arith V _ _ _ _ _ _ (hA.fi_some Z.1.2.2.1)
  have b2' : ∀ V, (binOp .mul 29 (.float .f64 im) (.float .f64 im)).run Try.prog V = .ok (.float .f64 B) V := fun V => run_float_arith V _ _ _ _ _ _ (hB.fi_some Z.1.2.2.2.1)
  have b3 : ∀ V, (binOp .add 29 (.float .f64 A) (.float .f64 B)).run Try.prog V = .ok (.float .f64 S) V := fun V => run_float_arith V _ _ _ _ _ _ (hS.fi_some Z.1.2.2.2.2.1)
  have b4 : ∀ V, (binOp .sub 29 (.float .f64 S) (.float .f64 4607182418800017408)).run Try.prog V = .ok (.float .f64 d) V := fun V => run_float_arith V _ _ _ _ _ _ (hd.fi_some Z.1.2.2.2.2.2)
  have HF := hid (And.intro Z.1.1 (And.intro Z.1.2.1 hr))
  clear Z U r1 r2 hA hB hS hd hr
  obtain ⟨ct0, ct1, ft0, ft1⟩ := fbox_facts HBt.out (Below.refl _ _)
  go_wp2_with fail
  clear g1 g2 g3 g4 g5 g6 b1 b2' b3 b4
  refine Calls.mono (HAx.out _) ?_
  rintro e w3 ⟨rfl, hb⟩
  clear ct0 ct1 ft0 ft1
  replace HBt := hid (HBt.out.later hb HBt.out.lt)
  replace HB := hid (b2 HB.out hb)
  clear hb
  have HN := hid (boxes1 w3 23 #[.int .i64 (x1 : Int), .int .i64 (x2 : Int)])
  obtain ⟨w4, hW⟩ : ∃ w4, w3.alloc (.cells #[.int .i64 (x1 : Int), .int .i64 (x2 : Int)] 23) = w4 := ⟨_, rfl⟩
  rw [hW] at HN
  replace HBt := hid (HBt.out.later HN.out.2 HBt.out.lt)
  replace HB := hid (b2 HB.out HN.out.2)
  have HBx := hid HN.out.1
  clear HN
  obtain ⟨ct0, ct1, ft0, ft1⟩ := fbox_facts HBt.out (Below.refl _ _)
  obtain ⟨cx0, cx1, fx0, fx1⟩ := fbox_facts HBx.out (Below.refl _ _)
  go_wp2_with fail
  clear hW
  refine Calls.mono (HAy.out _) ?_
  rintro e w5 ⟨rfl, hb⟩
  clear ct0 ct1 ft0 ft1
  clear cx0 cx1 fx0 fx1
  replace HBt := hid (HBt.out.later hb HBt.out.lt)
  replace HBx := hid (HBx.out.later hb HBx.out.lt)
  replace HB := hid (b2 HB.out hb)
  clear hb
  have HN := hid (boxes1 w5 23 #[.int .i64 (y1 : Int), .int .i64 (y2 : Int)])
  obtain ⟨w6, hW⟩ : ∃ w6, w5.alloc (.cells #[.int .i64 (y1 : Int), .int .i64 (y2 : Int)] 23) = w6 := ⟨_, rfl⟩
  rw [hW] at HN
  replace HBt := hid (HBt.out.later HN.out.2 HBt.out.lt)
  replace HBx := hid (HBx.out.later HN.out.2 HBx.out.lt)
  replace HB := hid (b2 HB.out HN.out.2)
  have HBy := hid HN.out.1
  clear HN
  obtain ⟨ct0, ct1, ft0, ft1⟩ := fbox_facts HBt.out (Below.refl _ _)
  obtain ⟨cx0, cx1, fx0, fx1⟩ := fbox_facts HBx.out (Below.refl _ _)
  obtain ⟨cy0, cy1, fy0, fy1⟩ := fbox_facts HBy.out (Below.refl _ _)
  go_wp2_with fail
  clear hW
  refine Calls.mono (HRy.out _) ?_
  rintro e w7 ⟨rey, imy, rfl, hr, hb⟩
  clear ct0 ct1 ft0 ft1
  clear cx0 cx1 fx0 fx1
  clear cy0 cy1 fy0 fy1
  replace HBt := hid (HBt.out.later hb HBt.out.lt)
  replace HBx := hid (HBx.out.later hb HBx.out.lt)
  replace HBy := hid (HBy.out.later hb HBy.out.lt)
  replace HB := hid (b2 HB.out hb)
  clear hb
  have HS := hid (fun V => sameNumber_sv rey imy (fneg re) (fneg im) V (root_fi Qy.out.1.1 Qy.out.1.2.1 hr).1 (root_fi Qy.out.1.1 Qy.out.1.2.1 hr).2 HF.out.1.neg HF.out.2.1.neg (by rw [sv_fneg HF.out.1]; exact (root_half HP.out.1.2.2.2 HP.out.1.2.1 Qy.out.1.2.2.2 Qy.out.1.2.1 HP.out.1.1 Qy.out.1.1 Qy.out.2 HF.out.2.2 hr).1) (by rw [sv_fneg HF.out.2.1]; exact (root_half HP.out.1.2.2.2 HP.out.1.2.1 Qy.out.1.2.2.2 Qy.out.1.2.1 HP.out.1.1 Qy.out.1.1 Qy.out.2 HF.out.2.2 hr).2))
  clear hr
  obtain ⟨ct0, ct1, ft0, ft1⟩ := fbox_facts HBt.out (Below.refl _ _)
  obtain ⟨cx0, cx1, fx0, fx1⟩ := fbox_facts HBx.out (Below.refl _ _)
  obtain ⟨cy0, cy1, fy0, fy1⟩ := fbox_facts HBy.out (Below.refl _ _)
  go_wp2_with fail
  refine Calls.mono (HS.out _) ?_
  rintro e wz ⟨rfl, rfl⟩
  clear HS
  go_wp2_with fail
  refine Calls.mono (HNg.out _) ?_
  rintro e w8 ⟨rfl, hb⟩
  clear ct0 ct1 ft0 ft1
  clear cx0 cx1 fx0 fx1
  clear cy0 cy1 fy0 fy1
  replace HBt := hid (HBt.out.later hb HBt.out.lt)
  replace HBx := hid (HBx.out.later hb HBx.out.lt)
  replace HBy := hid (HBy.out.later hb HBy.out.lt)
  replace HB := hid (b2 HB.out hb)
  clear hb
  have HN := hid (boxes1 w8 23 #[.int .i64 (K : Int), .int .i64 (q : Int)])
  obtain ⟨w9, hW⟩ : ∃ w9, w8.alloc (.cells #[.int .i64 (K : Int), .int .i64 (q : Int)] 23) = w9 := ⟨_, rfl⟩
  rw [hW] at HN
  replace HBt := hid (HBt.out.later HN.out.2 HBt.out.lt)
  replace HBx := hid (HBx.out.later HN.out.2 HBx.out.lt)
  replace HBy := hid (HBy.out.later HN.out.2 HBy.out.lt)
  replace HB := hid (b2 HB.out HN.out.2)
  have HBn := hid HN.out.1
  clear HN
  obtain ⟨ct0, ct1, ft0, ft1⟩ := fbox_facts HBt.out (Below.refl _ _)
  obtain ⟨cx0, cx1, fx0, fx1⟩ := fbox_facts HBx.out (Below.refl _ _)
  obtain ⟨cy0, cy1, fy0, fy1⟩ := fbox_facts HBy.out (Below.refl _ _)
  obtain ⟨cn0, cn1, fn0, fn1⟩ := fbox_facts HBn.out (Below.refl _ _)
  go_wp2_with fail
  clear hW
  refine Calls.mono (HRn.out _) ?_
  rintro e w10 ⟨ren, imn, rfl, hr, hb⟩
  clear ct0 ct1 ft0 ft1
  clear cx0 cx1 fx0 fx1
  clear cy0 cy1 fy0 fy1
  clear cn0 cn1 fn0 fn1
  replace HBt := hid (HBt.out.later hb HBt.out.lt)
  replace HBx := hid (HBx.out.later hb HBx.out.lt)
  replace HBy := hid (HBy.out.later hb HBy.out.lt)
  replace HBn := hid (HBn.out.later hb HBn.out.lt)
  replace HB := hid (b2 HB.out hb)
  clear hb
  have h8 := H8.out
  have HS := hid (fun V => sameNumber_sv ren imn re (fneg im) V (root_fi HP.out.2.1.1 HP.out.2.1.2.1 hr).1 (root_fi HP.out.2.1.1 HP.out.2.1.2.1 hr).2 HF.out.1 HF.out.2.1.neg (root_neg HP.out.1.2.1 HP.out.1.1 HP.out.2.1.1 HP.out.2.2 HP.out.1.2.2.1 (by omega) HF.out.2.2 hr).1 (by rw [sv_fneg HF.out.2.1]; exact (root_neg HP.out.1.2.1 HP.out.1.1 HP.out.2.1.1 HP.out.2.2 HP.out.1.2.2.1 (by omega) HF.out.2.2 hr).2))
  clear hr
  obtain ⟨ct0, ct1, ft0, ft1⟩ := fbox_facts HBt.out (Below.refl _ _)
  obtain ⟨cx0, cx1, fx0, fx1⟩ := fbox_facts HBx.out (Below.refl _ _)
  obtain ⟨cy0, cy1, fy0, fy1⟩ := fbox_facts HBy.out (Below.refl _ _)
  obtain ⟨cn0, cn1, fn0, fn1⟩ := fbox_facts HBn.out (Below.refl _ _)
  go_wp2_with fail
  refine Calls.mono (HS.out _) ?_
  rintro e wz ⟨rfl, rfl⟩
  go_wp2_with fail
  go_ret
  exact ⟨rfl, HB.out⟩

set_option maxHeartbeats 6400000 in
set_option maxRecDepth 100000 in
theorem turnRoot_011 (p q K : Nat) (x1 x2 x3 : Int) (y1 y2 : Nat) (zy : Int) (w : World) (hp : okI p q) (hK : (-(p : Int)) % (q : Int) = (K : Int)) (hK2 : K + p = q ∨ (p = 0 ∧ K = 0)) (hX : addR p q 1 4 = (x1, x2, x3)) (nx : ¬ x3 = 0) (hY : addR p q 1 2 = ((y1 : Int), (y2 : Int), 0)) (oy : okI y1 y2) (ey : 8 * (y1 : Int) * q = (y2 : Int) * (8 * p + (4 : Nat) * q - 8 * zy * q)) (h8 : (q : Int) = 8) :
    Calls Try.prog 3 #[.agg #[.int .i64 (p : Int), .int .i64 (q : Int)]] w fun e w' => e = .returned (.bool true) ∧ Below w.heap.size w w' := by
  have HL := hid tlives_any
  have HX := hid (boxes1 w 23 #[.int .i64 (p : Int), .int .i64 (q : Int)])
  have np := hp.nat
  have ok : okI (K : Int) q := by rw [← hK]; exact gcd_back hp
  have nk := ok.nat
  have HRt := hid (fun V => troot_ok p q V np.1 np.2.1 np.2.2.1)
  have HRn := hid (fun V => troot_ok K q V nk.1 nk.2.1 nk.2.2.1)
  have i4 : in64 1 4 := ⟨⟨by decide, by decide⟩, by decide, by decide⟩
  have i2 : in64 1 2 := ⟨⟨by decide, by decide⟩, by decide, by decide⟩
  have HAx := hid (fun V => ladd_any p q 1 4 x1 x2 x3 false V hp.in64 i4 hX (by simp [nx]))
  clear nx hX
  have ny := oy.nat
  have HRy := hid (fun V => troot_ok y1 y2 V ny.1 ny.2.1 ny.2.2.1)
  have HAy := hid (fun V => ladd_any p q 1 2 y1 y2 0 true V hp.in64 i2 hY rfl)
  have Qy := hid (And.intro ny ey)
  clear ny oy ey hY
  have HNg := hid (fun V => tneg_any p q V hp.in64)
  rw [(neg_zero' hp).1, hK, show tV ((K : Int), (q : Int), 0) = Value.tuple #[.agg #[.int .i64 (K : Int), .int .i64 (q : Int)], .int .i64 0] from rfl] at HNg
  have H8 := hid h8
  have HP := hid (And.intro np (And.intro nk hK2))
  have hN : ∀ x, Op.unary .neg (.float .f64 x) = pure (.float .f64 (fneg x)) := fun _ => rfl
  clear np nk ok i4 i2 hp hK hK2 h8
  have HB := hid HX.out.2
  have HBt := hid HX.out.1
  clear HX
  go_enter Try.func3, Try.ntmps3
  go_wp2_with fail
  generalize w.alloc (.cells #[.int .i64 (p : Int), .int .i64 (q : Int)] 23) = w0 at *
  refine Calls.mono (HL.out _) ?_
  rintro e w1 ⟨rfl, hb⟩
  replace HBt := hid (HBt.out.later hb HBt.out.lt)
  replace HB := hid (b2 HB.out hb)
  clear hb
  obtain ⟨ct0, ct1, ft0, ft1⟩ := fbox_facts HBt.out (Below.refl _ _)
  go_wp2_with fail
  refine Calls.mono (HRt.out _) ?_
  rintro e w2 ⟨re, im, rfl, hr, hb⟩
  clear ct0 ct1 ft0 ft1
  replace HBt := hid (HBt.out.later hb HBt.out.lt)
  replace HB := hid (b2 HB.out hb)
  clear hb
  obtain ⟨A, hA⟩ := fn_all .mul re re
  obtain ⟨B, hB⟩ := fn_all .mul im im
  obtain ⟨S, hS⟩ := fn_all .add A B
  obtain ⟨d, hd⟩ := fn_all .sub S 4607182418800017408
  have Z := root_size HP.out.1.1 HP.out.1.2.1 hr hA hB hS hd
  have U := root_in HP.out.1.1 (by have := HP.out.1.2.1; omega) hr
  have r1 := le_one U.1
  have r2 := le_one U.2
  have g1 := not_gt Z.1.1 one_c.1 (by rw [one_c.2]; exact r1.2)
  have g2 := not_lt Z.1.1 none_c.1 (by rw [none_c.2]; exact r1.1)
  have g3 := not_gt Z.1.2.1 one_c.1 (by rw [one_c.2]; exact r2.2)
  have g4 := not_lt Z.1.2.1 none_c.1 (by rw [none_c.2]; exact r2.1)
  have g5 := not_gt Z.1.2.2.2.2.2 eps_c.1 (by rw [eps_c.2]; exact Z.2.2)
  have g6 := not_lt Z.1.2.2.2.2.2 neps_c.1 (by rw [neps_c.2]; exact Z.2.1)
  have b1 : ∀ V, (binOp .mul 29 (.float .f64 re) (.float .f64 re)).run Try.prog V = .ok (.float .f64 A) V := fun V => run_float_arith V _ _ _ _ _ _ (hA.fi_some Z.1.2.2.1)
  have b2' : ∀ V, (binOp .mul 29 (.float .f64 im) (.float .f64 im)).run Try.prog V = .ok (.float .f64 B) V := fun V => run_float_arith V _ _ _ _ _ _ (hB.fi_some Z.1.2.2.2.1)
  have b3 : ∀ V, (binOp .add 29 (.float .f64 A) (.float .f64 B)).run Try.prog V = .ok (.float .f64 S) V := fun V => run_float_arith V _ _ _ _ _ _ (hS.fi_some Z.1.2.2.2.2.1)
  have b4 : ∀ V, (binOp .sub 29 (.float .f64 S) (.float .f64 4607182418800017408)).run Try.prog V = .ok (.float .f64 d) V := fun V => run_float_arith V _ _ _ _ _ _ (hd.fi_some Z.1.2.2.2.2.2)
  have HF := hid (And.intro Z.1.1 (And.intro Z.1.2.1 hr))
  clear Z U r1 r2 hA hB hS hd hr
  obtain ⟨ct0, ct1, ft0, ft1⟩ := fbox_facts HBt.out (Below.refl _ _)
  go_wp2_with fail
  clear g1 g2 g3 g4 g5 g6 b1 b2' b3 b4
  refine Calls.mono (HAx.out _) ?_
  rintro e w3 ⟨rfl, hb⟩
  clear ct0 ct1 ft0 ft1
  replace HBt := hid (HBt.out.later hb HBt.out.lt)
  replace HB := hid (b2 HB.out hb)
  clear hb
  have HN := hid (boxes1 w3 23 #[.int .i64 (x1 : Int), .int .i64 (x2 : Int)])
  obtain ⟨w4, hW⟩ : ∃ w4, w3.alloc (.cells #[.int .i64 (x1 : Int), .int .i64 (x2 : Int)] 23) = w4 := ⟨_, rfl⟩
  rw [hW] at HN
  replace HBt := hid (HBt.out.later HN.out.2 HBt.out.lt)
  replace HB := hid (b2 HB.out HN.out.2)
  have HBx := hid HN.out.1
  clear HN
  obtain ⟨ct0, ct1, ft0, ft1⟩ := fbox_facts HBt.out (Below.refl _ _)
  obtain ⟨cx0, cx1, fx0, fx1⟩ := fbox_facts HBx.out (Below.refl _ _)
  go_wp2_with fail
  clear hW
  refine Calls.mono (HAy.out _) ?_
  rintro e w5 ⟨rfl, hb⟩
  clear ct0 ct1 ft0 ft1
  clear cx0 cx1 fx0 fx1
  replace HBt := hid (HBt.out.later hb HBt.out.lt)
  replace HBx := hid (HBx.out.later hb HBx.out.lt)
  replace HB := hid (b2 HB.out hb)
  clear hb
  have HN := hid (boxes1 w5 23 #[.int .i64 (y1 : Int), .int .i64 (y2 : Int)])
  obtain ⟨w6, hW⟩ : ∃ w6, w5.alloc (.cells #[.int .i64 (y1 : Int), .int .i64 (y2 : Int)] 23) = w6 := ⟨_, rfl⟩
  rw [hW] at HN
  replace HBt := hid (HBt.out.later HN.out.2 HBt.out.lt)
  replace HBx := hid (HBx.out.later HN.out.2 HBx.out.lt)
  replace HB := hid (b2 HB.out HN.out.2)
  have HBy := hid HN.out.1
  clear HN
  obtain ⟨ct0, ct1, ft0, ft1⟩ := fbox_facts HBt.out (Below.refl _ _)
  obtain ⟨cx0, cx1, fx0, fx1⟩ := fbox_facts HBx.out (Below.refl _ _)
  obtain ⟨cy0, cy1, fy0, fy1⟩ := fbox_facts HBy.out (Below.refl _ _)
  go_wp2_with fail
  clear hW
  refine Calls.mono (HRy.out _) ?_
  rintro e w7 ⟨rey, imy, rfl, hr, hb⟩
  clear ct0 ct1 ft0 ft1
  clear cx0 cx1 fx0 fx1
  clear cy0 cy1 fy0 fy1
  replace HBt := hid (HBt.out.later hb HBt.out.lt)
  replace HBx := hid (HBx.out.later hb HBx.out.lt)
  replace HBy := hid (HBy.out.later hb HBy.out.lt)
  replace HB := hid (b2 HB.out hb)
  clear hb
  have HS := hid (fun V => sameNumber_sv rey imy (fneg re) (fneg im) V (root_fi Qy.out.1.1 Qy.out.1.2.1 hr).1 (root_fi Qy.out.1.1 Qy.out.1.2.1 hr).2 HF.out.1.neg HF.out.2.1.neg (by rw [sv_fneg HF.out.1]; exact (root_half HP.out.1.2.2.2 HP.out.1.2.1 Qy.out.1.2.2.2 Qy.out.1.2.1 HP.out.1.1 Qy.out.1.1 Qy.out.2 HF.out.2.2 hr).1) (by rw [sv_fneg HF.out.2.1]; exact (root_half HP.out.1.2.2.2 HP.out.1.2.1 Qy.out.1.2.2.2 Qy.out.1.2.1 HP.out.1.1 Qy.out.1.1 Qy.out.2 HF.out.2.2 hr).2))
  clear hr
  obtain ⟨ct0, ct1, ft0, ft1⟩ := fbox_facts HBt.out (Below.refl _ _)
  obtain ⟨cx0, cx1, fx0, fx1⟩ := fbox_facts HBx.out (Below.refl _ _)
  obtain ⟨cy0, cy1, fy0, fy1⟩ := fbox_facts HBy.out (Below.refl _ _)
  go_wp2_with fail
  refine Calls.mono (HS.out _) ?_
  rintro e wz ⟨rfl, rfl⟩
  clear HS
  go_wp2_with fail
  refine Calls.mono (HNg.out _) ?_
  rintro e w8 ⟨rfl, hb⟩
  clear ct0 ct1 ft0 ft1
  clear cx0 cx1 fx0 fx1
  clear cy0 cy1 fy0 fy1
  replace HBt := hid (HBt.out.later hb HBt.out.lt)
  replace HBx := hid (HBx.out.later hb HBx.out.lt)
  replace HBy := hid (HBy.out.later hb HBy.out.lt)
  replace HB := hid (b2 HB.out hb)
  clear hb
  have HN := hid (boxes1 w8 23 #[.int .i64 (K : Int), .int .i64 (q : Int)])
  obtain ⟨w9, hW⟩ : ∃ w9, w8.alloc (.cells #[.int .i64 (K : Int), .int .i64 (q : Int)] 23) = w9 := ⟨_, rfl⟩
  rw [hW] at HN
  replace HBt := hid (HBt.out.later HN.out.2 HBt.out.lt)
  replace HBx := hid (HBx.out.later HN.out.2 HBx.out.lt)
  replace HBy := hid (HBy.out.later HN.out.2 HBy.out.lt)
  replace HB := hid (b2 HB.out HN.out.2)
  have HBn := hid HN.out.1
  clear HN
  obtain ⟨ct0, ct1, ft0, ft1⟩ := fbox_facts HBt.out (Below.refl _ _)
  obtain ⟨cx0, cx1, fx0, fx1⟩ := fbox_facts HBx.out (Below.refl _ _)
  obtain ⟨cy0, cy1, fy0, fy1⟩ := fbox_facts HBy.out (Below.refl _ _)
  obtain ⟨cn0, cn1, fn0, fn1⟩ := fbox_facts HBn.out (Below.refl _ _)
  go_wp2_with fail
  clear hW
  refine Calls.mono (HRn.out _) ?_
  rintro e w10 ⟨ren, imn, rfl, hr, hb⟩
  clear ct0 ct1 ft0 ft1
  clear cx0 cx1 fx0 fx1
  clear cy0 cy1 fy0 fy1
  clear cn0 cn1 fn0 fn1
  replace HBt := hid (HBt.out.later hb HBt.out.lt)
  replace HBx := hid (HBx.out.later hb HBx.out.lt)
  replace HBy := hid (HBy.out.later hb HBy.out.lt)
  replace HBn := hid (HBn.out.later hb HBn.out.lt)
  replace HB := hid (b2 HB.out hb)
  clear hb
  have h8 := H8.out
  obtain ⟨ct0, ct1, ft0, ft1⟩ := fbox_facts HBt.out (Below.refl _ _)
  obtain ⟨cx0, cx1, fx0, fx1⟩ := fbox_facts HBx.out (Below.refl _ _)
  obtain ⟨cy0, cy1, fy0, fy1⟩ := fbox_facts HBy.out (Below.refl _ _)
  obtain ⟨cn0, cn1, fn0, fn1⟩ := fbox_facts HBn.out (Below.refl _ _)
  go_wp2_with fail
  go_ret
  exact ⟨rfl, HB.out⟩

set_option maxHeartbeats 6400000 in
set_option maxRecDepth 100000 in
theorem turnRoot_000 (p q K : Nat) (x1 x2 x3 : Int) (y1 y2 y3 : Int) (w : World) (hp : okI p q) (hK : (-(p : Int)) % (q : Int) = (K : Int)) (hK2 : K + p = q ∨ (p = 0 ∧ K = 0)) (hX : addR p q 1 4 = (x1, x2, x3)) (nx : ¬ x3 = 0) (hY : addR p q 1 2 = (y1, y2, y3)) (ny : ¬ y3 = 0) (h8 : ¬ (q : Int) = 8) :
    Calls Try.prog 3 #[.agg #[.int .i64 (p : Int), .int .i64 (q : Int)]] w fun e w' => e = .returned (.bool true) ∧ Below w.heap.size w w' := by
  have HL := hid tlives_any
  have HX := hid (boxes1 w 23 #[.int .i64 (p : Int), .int .i64 (q : Int)])
  have np := hp.nat
  have ok : okI (K : Int) q := by rw [← hK]; exact gcd_back hp
  have nk := ok.nat
  have HRt := hid (fun V => troot_ok p q V np.1 np.2.1 np.2.2.1)
  have HRn := hid (fun V => troot_ok K q V nk.1 nk.2.1 nk.2.2.1)
  have i4 : in64 1 4 := ⟨⟨by decide, by decide⟩, by decide, by decide⟩
  have i2 : in64 1 2 := ⟨⟨by decide, by decide⟩, by decide, by decide⟩
  have HAx := hid (fun V => ladd_any p q 1 4 x1 x2 x3 false V hp.in64 i4 hX (by simp [nx]))
  clear nx hX
  have HAy := hid (fun V => ladd_any p q 1 2 y1 y2 y3 false V hp.in64 i2 hY (by simp [ny]))
  clear ny hY
  have HNg := hid (fun V => tneg_any p q V hp.in64)
  rw [(neg_zero' hp).1, hK, show tV ((K : Int), (q : Int), 0) = Value.tuple #[.agg #[.int .i64 (K : Int), .int .i64 (q : Int)], .int .i64 0] from rfl] at HNg
  have H8 := hid h8
  have HP := hid (And.intro np (And.intro nk hK2))
  have hN : ∀ x, Op.unary .neg (.float .f64 x) = pure (.float .f64 (fneg x)) := fun _ => rfl
  clear np nk ok i4 i2 hp hK hK2 h8
  have HB := hid HX.out.2
  have HBt := hid HX.out.1
  clear HX
  go_enter Try.func3, Try.ntmps3
  go_wp2_with fail
  generalize w.alloc (.cells #[.int .i64 (p : Int), .int .i64 (q : Int)] 23) = w0 at *
  refine Calls.mono (HL.out _) ?_
  rintro e w1 ⟨rfl, hb⟩
  replace HBt := hid (HBt.out.later hb HBt.out.lt)
  replace HB := hid (b2 HB.out hb)
  clear hb
  obtain ⟨ct0, ct1, ft0, ft1⟩ := fbox_facts HBt.out (Below.refl _ _)
  go_wp2_with fail
  refine Calls.mono (HRt.out _) ?_
  rintro e w2 ⟨re, im, rfl, hr, hb⟩
  clear ct0 ct1 ft0 ft1
  replace HBt := hid (HBt.out.later hb HBt.out.lt)
  replace HB := hid (b2 HB.out hb)
  clear hb
  obtain ⟨A, hA⟩ := fn_all .mul re re
  obtain ⟨B, hB⟩ := fn_all .mul im im
  obtain ⟨S, hS⟩ := fn_all .add A B
  obtain ⟨d, hd⟩ := fn_all .sub S 4607182418800017408
  have Z := root_size HP.out.1.1 HP.out.1.2.1 hr hA hB hS hd
  have U := root_in HP.out.1.1 (by have := HP.out.1.2.1; omega) hr
  have r1 := le_one U.1
  have r2 := le_one U.2
  have g1 := not_gt Z.1.1 one_c.1 (by rw [one_c.2]; exact r1.2)
  have g2 := not_lt Z.1.1 none_c.1 (by rw [none_c.2]; exact r1.1)
  have g3 := not_gt Z.1.2.1 one_c.1 (by rw [one_c.2]; exact r2.2)
  have g4 := not_lt Z.1.2.1 none_c.1 (by rw [none_c.2]; exact r2.1)
  have g5 := not_gt Z.1.2.2.2.2.2 eps_c.1 (by rw [eps_c.2]; exact Z.2.2)
  have g6 := not_lt Z.1.2.2.2.2.2 neps_c.1 (by rw [neps_c.2]; exact Z.2.1)
  have b1 : ∀ V, (binOp .mul 29 (.float .f64 re) (.float .f64 re)).run Try.prog V = .ok (.float .f64 A) V := fun V => run_float_arith V _ _ _ _ _ _ (hA.fi_some Z.1.2.2.1)
  have b2' : ∀ V, (binOp .mul 29 (.float .f64 im) (.float .f64 im)).run Try.prog V = .ok (.float .f64 B) V := fun V => run_float_arith V _ _ _ _ _ _ (hB.fi_some Z.1.2.2.2.1)
  have b3 : ∀ V, (binOp .add 29 (.float .f64 A) (.float .f64 B)).run Try.prog V = .ok (.float .f64 S) V := fun V => run_float_arith V _ _ _ _ _ _ (hS.fi_some Z.1.2.2.2.2.1)
  have b4 : ∀ V, (binOp .sub 29 (.float .f64 S) (.float .f64 4607182418800017408)).run Try.prog V = .ok (.float .f64 d) V := fun V => run_float_arith V _ _ _ _ _ _ (hd.fi_some Z.1.2.2.2.2.2)
  have HF := hid (And.intro Z.1.1 (And.intro Z.1.2.1 hr))
  clear Z U r1 r2 hA hB hS hd hr
  obtain ⟨ct0, ct1, ft0, ft1⟩ := fbox_facts HBt.out (Below.refl _ _)
  go_wp2_with fail
  clear g1 g2 g3 g4 g5 g6 b1 b2' b3 b4
  refine Calls.mono (HAx.out _) ?_
  rintro e w3 ⟨rfl, hb⟩
  clear ct0 ct1 ft0 ft1
  replace HBt := hid (HBt.out.later hb HBt.out.lt)
  replace HB := hid (b2 HB.out hb)
  clear hb
  have HN := hid (boxes1 w3 23 #[.int .i64 (x1 : Int), .int .i64 (x2 : Int)])
  obtain ⟨w4, hW⟩ : ∃ w4, w3.alloc (.cells #[.int .i64 (x1 : Int), .int .i64 (x2 : Int)] 23) = w4 := ⟨_, rfl⟩
  rw [hW] at HN
  replace HBt := hid (HBt.out.later HN.out.2 HBt.out.lt)
  replace HB := hid (b2 HB.out HN.out.2)
  have HBx := hid HN.out.1
  clear HN
  obtain ⟨ct0, ct1, ft0, ft1⟩ := fbox_facts HBt.out (Below.refl _ _)
  obtain ⟨cx0, cx1, fx0, fx1⟩ := fbox_facts HBx.out (Below.refl _ _)
  go_wp2_with fail
  clear hW
  refine Calls.mono (HAy.out _) ?_
  rintro e w5 ⟨rfl, hb⟩
  clear ct0 ct1 ft0 ft1
  clear cx0 cx1 fx0 fx1
  replace HBt := hid (HBt.out.later hb HBt.out.lt)
  replace HBx := hid (HBx.out.later hb HBx.out.lt)
  replace HB := hid (b2 HB.out hb)
  clear hb
  have HN := hid (boxes1 w5 23 #[.int .i64 (y1 : Int), .int .i64 (y2 : Int)])
  obtain ⟨w6, hW⟩ : ∃ w6, w5.alloc (.cells #[.int .i64 (y1 : Int), .int .i64 (y2 : Int)] 23) = w6 := ⟨_, rfl⟩
  rw [hW] at HN
  replace HBt := hid (HBt.out.later HN.out.2 HBt.out.lt)
  replace HBx := hid (HBx.out.later HN.out.2 HBx.out.lt)
  replace HB := hid (b2 HB.out HN.out.2)
  have HBy := hid HN.out.1
  clear HN
  obtain ⟨ct0, ct1, ft0, ft1⟩ := fbox_facts HBt.out (Below.refl _ _)
  obtain ⟨cx0, cx1, fx0, fx1⟩ := fbox_facts HBx.out (Below.refl _ _)
  obtain ⟨cy0, cy1, fy0, fy1⟩ := fbox_facts HBy.out (Below.refl _ _)
  go_wp2_with fail
  clear hW
  refine Calls.mono (HNg.out _) ?_
  rintro e w7 ⟨rfl, hb⟩
  clear ct0 ct1 ft0 ft1
  clear cx0 cx1 fx0 fx1
  clear cy0 cy1 fy0 fy1
  replace HBt := hid (HBt.out.later hb HBt.out.lt)
  replace HBx := hid (HBx.out.later hb HBx.out.lt)
  replace HBy := hid (HBy.out.later hb HBy.out.lt)
  replace HB := hid (b2 HB.out hb)
  clear hb
  have HN := hid (boxes1 w7 23 #[.int .i64 (K : Int), .int .i64 (q : Int)])
  obtain ⟨w8, hW⟩ : ∃ w8, w7.alloc (.cells #[.int .i64 (K : Int), .int .i64 (q : Int)] 23) = w8 := ⟨_, rfl⟩
  rw [hW] at HN
  replace HBt := hid (HBt.out.later HN.out.2 HBt.out.lt)
  replace HBx := hid (HBx.out.later HN.out.2 HBx.out.lt)
  replace HBy := hid (HBy.out.later HN.out.2 HBy.out.lt)
  replace HB := hid (b2 HB.out HN.out.2)
  have HBn := hid HN.out.1
  clear HN
  obtain ⟨ct0, ct1, ft0, ft1⟩ := fbox_facts HBt.out (Below.refl _ _)
  obtain ⟨cx0, cx1, fx0, fx1⟩ := fbox_facts HBx.out (Below.refl _ _)
  obtain ⟨cy0, cy1, fy0, fy1⟩ := fbox_facts HBy.out (Below.refl _ _)
  obtain ⟨cn0, cn1, fn0, fn1⟩ := fbox_facts HBn.out (Below.refl _ _)
  go_wp2_with fail
  clear hW
  refine Calls.mono (HRn.out _) ?_
  rintro e w9 ⟨ren, imn, rfl, hr, hb⟩
  clear ct0 ct1 ft0 ft1
  clear cx0 cx1 fx0 fx1
  clear cy0 cy1 fy0 fy1
  clear cn0 cn1 fn0 fn1
  replace HBt := hid (HBt.out.later hb HBt.out.lt)
  replace HBx := hid (HBx.out.later hb HBx.out.lt)
  replace HBy := hid (HBy.out.later hb HBy.out.lt)
  replace HBn := hid (HBn.out.later hb HBn.out.lt)
  replace HB := hid (b2 HB.out hb)
  clear hb
  have h8 := H8.out
  have HS := hid (fun V => sameNumber_sv ren imn re (fneg im) V (root_fi HP.out.2.1.1 HP.out.2.1.2.1 hr).1 (root_fi HP.out.2.1.1 HP.out.2.1.2.1 hr).2 HF.out.1 HF.out.2.1.neg (root_neg HP.out.1.2.1 HP.out.1.1 HP.out.2.1.1 HP.out.2.2 HP.out.1.2.2.1 (by omega) HF.out.2.2 hr).1 (by rw [sv_fneg HF.out.2.1]; exact (root_neg HP.out.1.2.1 HP.out.1.1 HP.out.2.1.1 HP.out.2.2 HP.out.1.2.2.1 (by omega) HF.out.2.2 hr).2))
  clear hr
  obtain ⟨ct0, ct1, ft0, ft1⟩ := fbox_facts HBt.out (Below.refl _ _)
  obtain ⟨cx0, cx1, fx0, fx1⟩ := fbox_facts HBx.out (Below.refl _ _)
  obtain ⟨cy0, cy1, fy0, fy1⟩ := fbox_facts HBy.out (Below.refl _ _)
  obtain ⟨cn0, cn1, fn0, fn1⟩ := fbox_facts HBn.out (Below.refl _ _)
  go_wp2_with fail
  refine Calls.mono (HS.out _) ?_
  rintro e wz ⟨rfl, rfl⟩
  go_wp2_with fail
  go_ret
  exact ⟨rfl, HB.out⟩

set_option maxHeartbeats 6400000 in
set_option maxRecDepth 100000 in
theorem turnRoot_001 (p q K : Nat) (x1 x2 x3 : Int) (y1 y2 y3 : Int) (w : World) (hp : okI p q) (hK : (-(p : Int)) % (q : Int) = (K : Int)) (hK2 : K + p = q ∨ (p = 0 ∧ K = 0)) (hX : addR p q 1 4 = (x1, x2, x3)) (nx : ¬ x3 = 0) (hY : addR p q 1 2 = (y1, y2, y3)) (ny : ¬ y3 = 0) (h8 : (q : Int) = 8) :
    Calls Try.prog 3 #[.agg #[.int .i64 (p : Int), .int .i64 (q : Int)]] w fun e w' => e = .returned (.bool true) ∧ Below w.heap.size w w' := by
  have HL := hid tlives_any
  have HX := hid (boxes1 w 23 #[.int .i64 (p : Int), .int .i64 (q : Int)])
  have np := hp.nat
  have ok : okI (K : Int) q := by rw [← hK]; exact gcd_back hp
  have nk := ok.nat
  have HRt := hid (fun V => troot_ok p q V np.1 np.2.1 np.2.2.1)
  have HRn := hid (fun V => troot_ok K q V nk.1 nk.2.1 nk.2.2.1)
  have i4 : in64 1 4 := ⟨⟨by decide, by decide⟩, by decide, by decide⟩
  have i2 : in64 1 2 := ⟨⟨by decide, by decide⟩, by decide, by decide⟩
  have HAx := hid (fun V => ladd_any p q 1 4 x1 x2 x3 false V hp.in64 i4 hX (by simp [nx]))
  clear nx hX
  have HAy := hid (fun V => ladd_any p q 1 2 y1 y2 y3 false V hp.in64 i2 hY (by simp [ny]))
  clear ny hY
  have HNg := hid (fun V => tneg_any p q V hp.in64)
  rw [(neg_zero' hp).1, hK, show tV ((K : Int), (q : Int), 0) = Value.tuple #[.agg #[.int .i64 (K : Int), .int .i64 (q : Int)], .int .i64 0] from rfl] at HNg
  have H8 := hid h8
  have HP := hid (And.intro np (And.intro nk hK2))
  have hN : ∀ x, Op.unary .neg (.float .f64 x) = pure (.float .f64 (fneg x)) := fun _ => rfl
  clear np nk ok i4 i2 hp hK hK2 h8
  have HB := hid HX.out.2
  have HBt := hid HX.out.1
  clear HX
  go_enter Try.func3, Try.ntmps3
  go_wp2_with fail
  generalize w.alloc (.cells #[.int .i64 (p : Int), .int .i64 (q : Int)] 23) = w0 at *
  refine Calls.mono (HL.out _) ?_
  rintro e w1 ⟨rfl, hb⟩
  replace HBt := hid (HBt.out.later hb HBt.out.lt)
  replace HB := hid (b2 HB.out hb)
  clear hb
  obtain ⟨ct0, ct1, ft0, ft1⟩ := fbox_facts HBt.out (Below.refl _ _)
  go_wp2_with fail
  refine Calls.mono (HRt.out _) ?_
  rintro e w2 ⟨re, im, rfl, hr, hb⟩
  clear ct0 ct1 ft0 ft1
  replace HBt := hid (HBt.out.later hb HBt.out.lt)
  replace HB := hid (b2 HB.out hb)
  clear hb
  obtain ⟨A, hA⟩ := fn_all .mul re re
  obtain ⟨B, hB⟩ := fn_all .mul im im
  obtain ⟨S, hS⟩ := fn_all .add A B
  obtain ⟨d, hd⟩ := fn_all .sub S 4607182418800017408
  have Z := root_size HP.out.1.1 HP.out.1.2.1 hr hA hB hS hd
  have U := root_in HP.out.1.1 (by have := HP.out.1.2.1; omega) hr
  have r1 := le_one U.1
  have r2 := le_one U.2
  have g1 := not_gt Z.1.1 one_c.1 (by rw [one_c.2]; exact r1.2)
  have g2 := not_lt Z.1.1 none_c.1 (by rw [none_c.2]; exact r1.1)
  have g3 := not_gt Z.1.2.1 one_c.1 (by rw [one_c.2]; exact r2.2)
  have g4 := not_lt Z.1.2.1 none_c.1 (by rw [none_c.2]; exact r2.1)
  have g5 := not_gt Z.1.2.2.2.2.2 eps_c.1 (by rw [eps_c.2]; exact Z.2.2)
  have g6 := not_lt Z.1.2.2.2.2.2 neps_c.1 (by rw [neps_c.2]; exact Z.2.1)
  have b1 : ∀ V, (binOp .mul 29 (.float .f64 re) (.float .f64 re)).run Try.prog V = .ok (.float .f64 A) V := fun V => run_float_arith V _ _ _ _ _ _ (hA.fi_some Z.1.2.2.1)
  have b2' : ∀ V, (binOp .mul 29 (.float .f64 im) (.float .f64 im)).run Try.prog V = .ok (.float .f64 B) V := fun V => run_float_arith V _ _ _ _ _ _ (hB.fi_some Z.1.2.2.2.1)
  have b3 : ∀ V, (binOp .add 29 (.float .f64 A) (.float .f64 B)).run Try.prog V = .ok (.float .f64 S) V := fun V => run_float_arith V _ _ _ _ _ _ (hS.fi_some Z.1.2.2.2.2.1)
  have b4 : ∀ V, (binOp .sub 29 (.float .f64 S) (.float .f64 4607182418800017408)).run Try.prog V = .ok (.float .f64 d) V := fun V => run_float_arith V _ _ _ _ _ _ (hd.fi_some Z.1.2.2.2.2.2)
  have HF := hid (And.intro Z.1.1 (And.intro Z.1.2.1 hr))
  clear Z U r1 r2 hA hB hS hd hr
  obtain ⟨ct0, ct1, ft0, ft1⟩ := fbox_facts HBt.out (Below.refl _ _)
  go_wp2_with fail
  clear g1 g2 g3 g4 g5 g6 b1 b2' b3 b4
  refine Calls.mono (HAx.out _) ?_
  rintro e w3 ⟨rfl, hb⟩
  clear ct0 ct1 ft0 ft1
  replace HBt := hid (HBt.out.later hb HBt.out.lt)
  replace HB := hid (b2 HB.out hb)
  clear hb
  have HN := hid (boxes1 w3 23 #[.int .i64 (x1 : Int), .int .i64 (x2 : Int)])
  obtain ⟨w4, hW⟩ : ∃ w4, w3.alloc (.cells #[.int .i64 (x1 : Int), .int .i64 (x2 : Int)] 23) = w4 := ⟨_, rfl⟩
  rw [hW] at HN
  replace HBt := hid (HBt.out.later HN.out.2 HBt.out.lt)
  replace HB := hid (b2 HB.out HN.out.2)
  have HBx := hid HN.out.1
  clear HN
  obtain ⟨ct0, ct1, ft0, ft1⟩ := fbox_facts HBt.out (Below.refl _ _)
  obtain ⟨cx0, cx1, fx0, fx1⟩ := fbox_facts HBx.out (Below.refl _ _)
  go_wp2_with fail
  clear hW
  refine Calls.mono (HAy.out _) ?_
  rintro e w5 ⟨rfl, hb⟩
  clear ct0 ct1 ft0 ft1
  clear cx0 cx1 fx0 fx1
  replace HBt := hid (HBt.out.later hb HBt.out.lt)
  replace HBx := hid (HBx.out.later hb HBx.out.lt)
  replace HB := hid (b2 HB.out hb)
  clear hb
  have HN := hid (boxes1 w5 23 #[.int .i64 (y1 : Int), .int .i64 (y2 : Int)])
  obtain ⟨w6, hW⟩ : ∃ w6, w5.alloc (.cells #[.int .i64 (y1 : Int), .int .i64 (y2 : Int)] 23) = w6 := ⟨_, rfl⟩
  rw [hW] at HN
  replace HBt := hid (HBt.out.later HN.out.2 HBt.out.lt)
  replace HBx := hid (HBx.out.later HN.out.2 HBx.out.lt)
  replace HB := hid (b2 HB.out HN.out.2)
  have HBy := hid HN.out.1
  clear HN
  obtain ⟨ct0, ct1, ft0, ft1⟩ := fbox_facts HBt.out (Below.refl _ _)
  obtain ⟨cx0, cx1, fx0, fx1⟩ := fbox_facts HBx.out (Below.refl _ _)
  obtain ⟨cy0, cy1, fy0, fy1⟩ := fbox_facts HBy.out (Below.refl _ _)
  go_wp2_with fail
  clear hW
  refine Calls.mono (HNg.out _) ?_
  rintro e w7 ⟨rfl, hb⟩
  clear ct0 ct1 ft0 ft1
  clear cx0 cx1 fx0 fx1
  clear cy0 cy1 fy0 fy1
  replace HBt := hid (HBt.out.later hb HBt.out.lt)
  replace HBx := hid (HBx.out.later hb HBx.out.lt)
  replace HBy := hid (HBy.out.later hb HBy.out.lt)
  replace HB := hid (b2 HB.out hb)
  clear hb
  have HN := hid (boxes1 w7 23 #[.int .i64 (K : Int), .int .i64 (q : Int)])
  obtain ⟨w8, hW⟩ : ∃ w8, w7.alloc (.cells #[.int .i64 (K : Int), .int .i64 (q : Int)] 23) = w8 := ⟨_, rfl⟩
  rw [hW] at HN
  replace HBt := hid (HBt.out.later HN.out.2 HBt.out.lt)
  replace HBx := hid (HBx.out.later HN.out.2 HBx.out.lt)
  replace HBy := hid (HBy.out.later HN.out.2 HBy.out.lt)
  replace HB := hid (b2 HB.out HN.out.2)
  have HBn := hid HN.out.1
  clear HN
  obtain ⟨ct0, ct1, ft0, ft1⟩ := fbox_facts HBt.out (Below.refl _ _)
  obtain ⟨cx0, cx1, fx0, fx1⟩ := fbox_facts HBx.out (Below.refl _ _)
  obtain ⟨cy0, cy1, fy0, fy1⟩ := fbox_facts HBy.out (Below.refl _ _)
  obtain ⟨cn0, cn1, fn0, fn1⟩ := fbox_facts HBn.out (Below.refl _ _)
  go_wp2_with fail
  clear hW
  refine Calls.mono (HRn.out _) ?_
  rintro e w9 ⟨ren, imn, rfl, hr, hb⟩
  clear ct0 ct1 ft0 ft1
  clear cx0 cx1 fx0 fx1
  clear cy0 cy1 fy0 fy1
  clear cn0 cn1 fn0 fn1
  replace HBt := hid (HBt.out.later hb HBt.out.lt)
  replace HBx := hid (HBx.out.later hb HBx.out.lt)
  replace HBy := hid (HBy.out.later hb HBy.out.lt)
  replace HBn := hid (HBn.out.later hb HBn.out.lt)
  replace HB := hid (b2 HB.out hb)
  clear hb
  have h8 := H8.out
  obtain ⟨ct0, ct1, ft0, ft1⟩ := fbox_facts HBt.out (Below.refl _ _)
  obtain ⟨cx0, cx1, fx0, fx1⟩ := fbox_facts HBx.out (Below.refl _ _)
  obtain ⟨cy0, cy1, fy0, fy1⟩ := fbox_facts HBy.out (Below.refl _ _)
  obtain ⟨cn0, cn1, fn0, fn1⟩ := fbox_facts HBn.out (Below.refl _ _)
  go_wp2_with fail
  go_ret
  exact ⟨rfl, HB.out⟩

set_option maxHeartbeats 1600000 in
set_option maxRecDepth 100000 in
theorem turnRoot_bad (p q : Int) (w : World) (h : in64 p q) (hn : ¬ okI p q) :
    Calls Try.prog 3 #[.agg #[.int .i64 p, .int .i64 q]] w fun e w' => e = .returned (.bool true) ∧ Below w.heap.size w w' := by
  have HL := hid tlives_any
  have HX := hid (boxes1 w 23 #[.int .i64 p, .int .i64 q])
  have HR := hid (fun V => troot_err p q V h hn)
  have hz : (FloatKind.f64.format.order 0 0 == some .eq) = true := by decide
  clear h hn
  go_enter Try.func3, Try.ntmps3
  go_wp2_with fail
  generalize w.alloc (.cells #[.int .i64 p, .int .i64 q] 23) = X at *
  refine Calls.mono (HL.out _) ?_
  rintro e w1 ⟨rfl, hb1⟩
  obtain ⟨c0, c1, f0, f1⟩ := fbox_facts HX.out.1 hb1
  go_wp2_with fail
  refine Calls.mono (HR.out _) ?_
  rintro e w2 ⟨rfl, hb2⟩
  have HB := hid (b2 HX.out.2 (b2 hb1 hb2))
  clear hb1 hb2 HX c0 c1 f0 f1
  go_wp2_with fail
  go_ret
  exact ⟨rfl, HB.out⟩

theorem turnRoot_law (p q : Int) (w : World) (h : in64 p q) :
    Calls Try.prog 3 #[.agg #[.int .i64 p, .int .i64 q]] w fun e w' => e = .returned (.bool true) ∧ Below w.heap.size w w' := by
  by_cases hp : okI p q
  · obtain ⟨a, b, rfl, rfl, hb⟩ := nat_of hp
    obtain ⟨K, hK, hK2, _⟩ := neg_nat hp
    have o4 : okI 1 4 := ⟨by decide, by decide, by decide, by decide, by decide⟩
    have o2 : okI 1 2 := ⟨by decide, by decide, by decide, by decide, by decide⟩
    rcases hX : addR a b 1 4 with ⟨x1, x2, x3⟩
    rcases hY : addR a b 1 2 with ⟨y1, y2, y3⟩
    have fx : x3 = 0 → ∃ (u v : Nat) (z : Int), addR a b 1 4 = ((u : Int), (v : Int), 0) ∧ okI u v ∧ 8 * (u : Int) * b = (v : Int) * (8 * a + (2 : Nat) * b - 8 * z * b) := by
      rintro rfl
      obtain ⟨ok, z, e⟩ := add_part (c := 2) hp o4 (by decide) hX
      obtain ⟨u, v, rfl, rfl, _⟩ := nat_of ok
      exact ⟨u, v, z, hX, ok, e⟩
    have fy : y3 = 0 → ∃ (u v : Nat) (z : Int), addR a b 1 2 = ((u : Int), (v : Int), 0) ∧ okI u v ∧ 8 * (u : Int) * b = (v : Int) * (8 * a + (4 : Nat) * b - 8 * z * b) := by
      rintro rfl
      obtain ⟨ok, z, e⟩ := add_part (c := 4) hp o2 (by decide) hY
      obtain ⟨u, v, rfl, rfl, _⟩ := nat_of ok
      exact ⟨u, v, z, hY, ok, e⟩
    by_cases gx : x3 = 0
    · obtain ⟨u, v, z, e1, e2, e3⟩ := fx gx
      by_cases gy : y3 = 0
      · obtain ⟨u', v', z', e1', e2', e3'⟩ := fy gy
        by_cases h8 : (b : Int) = 8
        · exact turnRoot_111 a b K u v z u' v' z' w hp hK hK2 e1 e2 e3 e1' e2' e3' h8
        · exact turnRoot_110 a b K u v z u' v' z' w hp hK hK2 e1 e2 e3 e1' e2' e3' h8
      · by_cases h8 : (b : Int) = 8
        · exact turnRoot_101 a b K u v z y1 y2 y3 w hp hK hK2 e1 e2 e3 hY gy h8
        · exact turnRoot_100 a b K u v z y1 y2 y3 w hp hK hK2 e1 e2 e3 hY gy h8
    · by_cases gy : y3 = 0
      · obtain ⟨u', v', z', e1', e2', e3'⟩ := fy gy
        by_cases h8 : (b : Int) = 8
        · exact turnRoot_011 a b K x1 x2 x3 u' v' z' w hp hK hK2 hX gx e1' e2' e3' h8
        · exact turnRoot_010 a b K x1 x2 x3 u' v' z' w hp hK hK2 hX gx e1' e2' e3' h8
      · by_cases h8 : (b : Int) = 8
        · exact turnRoot_001 a b K x1 x2 x3 y1 y2 y3 w hp hK hK2 hX gx hY gy h8
        · exact turnRoot_000 a b K x1 x2 x3 y1 y2 y3 w hp hK hK2 hX gx hY gy h8
  · exact turnRoot_bad p q w h hp
end Go.Proofs.Ytfldddphfekiaaa

