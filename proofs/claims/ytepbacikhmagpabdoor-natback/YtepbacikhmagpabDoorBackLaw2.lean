/- The law NatBack answers true, and writes nothing that was there: whatever list and text come in, where the library's table of powers of ten stands as its text lays it. -/
import Derived.Test.YtepbacikhmagpabDoorBackLaw
namespace Go.Proofs.YtepbacikhmagpabDoor
open Go.RowKit
open Go.Lib (decDigits nDigits decDigits_length)
set_option linter.unusedVariables false

theorem pErr_num {s : ByteArray} (hs : s.size ≤ 65536) (h : IsNum s.data.toList) : pErr s = 0 := by unfold pErr; rw [if_neg (by omega), if_pos h]
theorem pErr_not {s : ByteArray} (hs : s.size ≤ 65536) (h : ¬ IsNum s.data.toList) : pErr s = 110 := by unfold pErr; rw [if_neg (by omega), if_neg h]
theorem rightTo_zero {l : List UInt8} (h1 : 0 < l.length) (h2 : l[0]?.getD 0 = 48 → l.length ≤ 1) : rightTo l 0 = true := by
  unfold rightTo; exact decide_eq_true ⟨h1, h2, fun j hj => by omega⟩
theorem rightTo_empty {l : List UInt8} (h : l.length = 0) (k : Nat) : rightTo l k = false := by
  unfold rightTo; exact decide_eq_false (fun g => by have := g.1; omega)
theorem rightTo_nought {l : List UInt8} (h : l[0]?.getD 0 = 48) (h1 : 1 < l.length) (k : Nat) : rightTo l k = false := by
  unfold rightTo; exact decide_eq_false (fun g => by have := g.2.1 h; omega)

/-- What stands when the law looks at its text: cut to 500 signs. -/
theorem text_start (S : ByteArray) : (S.size = 0 ∧ S = ⟨#[]⟩ ∧ rightTo S.data.toList 0 = false) ∨
    (∃ h : 0 < S.size, (S[0].toNat : Int) = 48 ∧ 1 < S.size ∧ rightTo S.data.toList 0 = false) ∨
    (∃ h : 0 < S.size, (S[0].toNat : Int) = 48 ∧ S.size = 1 ∧ rightTo S.data.toList 0 = true) ∨
    (∃ h : 0 < S.size, ¬ (S[0].toNat : Int) = 48 ∧ rightTo S.data.toList 0 = true) := by
  have hl := size_list S
  by_cases h0 : S.size = 0
  · refine .inl ⟨h0, ?_, rightTo_empty (by omega) 0⟩
    obtain ⟨d⟩ := S
    have : d = #[] := Array.eq_empty_of_size_eq_zero h0
    rw [this]
  · have hp : 0 < S.size := by omega
    have b0 := byte_at S 0 hp
    by_cases c : (S[0].toNat : Int) = 48
    · have hc48 : S[0] = 48 := UInt8.toNat_inj.1 (by show S[0].toNat = 48; omega)
      by_cases c1 : 1 < S.size
      · exact .inr (.inl ⟨hp, c, c1, rightTo_nought (by rw [b0, hc48]; rfl) (by omega) 0⟩)
      · exact .inr (.inr (.inl ⟨hp, c, by omega, rightTo_zero (by omega) (fun _ => by omega)⟩))
    · exact .inr (.inr (.inr ⟨hp, c, rightTo_zero (by omega) (fun e => by
        rw [b0] at e
        have e : S[0] = 48 := e
        exact absurd (by rw [e]; rfl) c)⟩))

open Classical in
set_option maxHeartbeats 6400000 in
set_option maxRecDepth 100000 in
theorem natBack_walk (a0 : Option Addr) (n0 cap0 : Nat) (xs : List Int) (s : ByteArray) (w : World)
    (h0 : Reads w w.heap.size a0 n0 cap0 xs) (hs : s.size ≤ maxLen) (htab : Tab w) :
    Calls Tryd.prog 3 #[.slice a0 n0 cap0, .string s] w fun e w' => e = .returned (.bool true) ∧ Below w.heap.size w w' := by
  have HT := hid htab
  have H0 := hid h0
  have HA := hid (awake_any w htab)
  have hsm := hs
  unfold maxLen at hsm
  clear htab h0 hs
  go_enter Tryd.func3, Tryd.ntmps3
  go_wp2_with fail
  refine Calls.mono HA.out ?_
  rintro e U0 ⟨rfl, hb⟩
  go_wp2_with fail
  refine (put_any a0 n0 cap0 xs U0 (H0.out.later hb hb.size)).mono ?_
  rintro e U1 ⟨vA, zA, rfl, sA, tA, lA, hb2⟩
  replace hb := bt hb hb2
  clear hb2 H0 HA
  have ck := chk_good (by omega) tA
  have HP := hid (print_any vA zA U1 sA (by omega) (HT.out.later hb))
  rw [ck, if_pos rfl] at HP
  have wA := sA.wd
  have n1 := val_nonneg wA
  have n2 := val_lt wA
  have hdf := digits_few n1 n2
  obtain ⟨hnum, hval, _⟩ := isNum_dec (val zA).toNat
  obtain ⟨T, hT⟩ : ∃ T : ByteArray, T = ⟨(decDigits (val zA).toNat).toArray⟩ := ⟨_, rfl⟩
  have hTl : T.data.toList = decDigits (val zA).toNat := by rw [hT]
  have hTs : T.size = (decDigits (val zA).toNat).length := list_size T hTl
  have hTs2 : T.size ≤ 65536 := by rw [hTs, decDigits_length]; omega
  rw [← hT] at HP
  have HLT := hid n2
  clear ck n2 hdf hT
  go_wp2_with fail
  refine Calls.mono HP.out ?_
  rintro e U2 ⟨rfl, hb2⟩
  replace sA := sA.later hb2
  replace hb := bt hb hb2
  clear hb2 HP
  have HQ := hid (parse_any T U2 (by unfold maxLen; omega))
  rw [pErr_num hTs2 (by rw [hTl]; exact hnum), hTs, hTl, hval] at HQ
  clear hnum hval hTl hTs hTs2
  go_wp2_with fail
  refine Calls.mono HQ.out ?_
  rintro e U3 ⟨vB, zB, code, rfl, oB, tellB, hb2⟩
  rw [show (((val zA).toNat : Nat) : Int) = val zA by omega] at tellB
  obtain ⟨rfl, hvB⟩ := tellB.good rfl (lt_wide HLT.out (by omega))
  have hzz : zB = zA := trimmed_eq tellB.wd wA tellB.trim tA hvB
  subst hzz
  replace sA := sA.later hb2
  have sB := Sl.own oB wA
  replace hb := bt hb hb2
  have HS := hid (same_sl vA vB zB zB U3 sA sB (by omega) (by omega))
  rw [decide_eq_true rfl] at HS
  clear hb2 HQ oB tellB hvB sA sB n1 HLT tA lA wA
  go_wp2_with fail
  refine Calls.mono HS.out ?_
  rintro e U4 ⟨rfl, hb2⟩
  replace hb := bt hb hb2
  clear hb2 HS
  obtain ⟨S, hS5, hcase⟩ : ∃ S : ByteArray, S.size ≤ 500 ∧ ((500 < s.size ∧ s.extract 0 500 = S ∧ S.size = 500) ∨ (s.size ≤ 500 ∧ S = s)) := by
    by_cases h5 : 500 < s.size
    · have z : (s.extract 0 500).size = 500 := by
        rw [list_size _ (extract_list s 0 500), List.length_take, List.length_drop, size_list]; omega
      exact ⟨s.extract 0 500, by omega, .inl ⟨h5, rfl, z⟩⟩
    · exact ⟨s, by omega, .inr ⟨by omega, rfl⟩⟩
  have hts := text_start S
  have HSL := hid (size_list S)
  have HBS := hid hb
  clear hb
  rcases hcase with ⟨h5, hex, h500⟩ | ⟨h5, hex⟩
  · rcases hts with ⟨z, e, R⟩ | ⟨hp, c, c1, R⟩ | ⟨hp, c, c1, R⟩ | ⟨hp, c, R⟩
    · omega
    · have HR := hid R
      have c48 : ((S[0].toNat : Int) != 48) = false := by simp [c]
      have c49 : ((S.size : Int) == 1) = false := by simp; omega
      clear R c
      go_wp2_with fail
      go_loop [11, 12] (fun r t => ∃ (k : Nat) (b : Bool), k ≤ S.size ∧ t = .int .i64 k ∧ r = .bool b ∧ Hid (rightTo S.data.toList k = b)) (fun _ t => S.size - (intOf t).toNat)
      case atStart => exact ⟨0, _, by omega, rfl, rfl, HR⟩
      case round =>
        obtain ⟨k, b, hk, rfl, rfl, HB⟩ := hrel
        by_cases hlt : k < S.size
        · have bk := byte_at S k hlt
          cases b with
          | false =>
            have HB' := hid (rightTo_no HB.out)
            clear bk
            go_wp2_with fail
            go_round
            case rel => exact ⟨k + 1, _, by omega, by go_num, rfl, HB'⟩
            case measure => simp [intOf]; omega
          | true =>
            by_cases d1 : (S[k].toNat : Int) < 48
            · have HB' := hid (rightTo_bad bk (fun g => by omega))
              have d1' : ¬ (48 ≤ (S[k].toNat : Int)) := by omega
              clear bk
              go_wp2_with fail
              go_round
              case rel => exact ⟨k + 1, _, by omega, by go_num, rfl, HB'⟩
              case measure => simp [intOf]; omega
            · have d1' : 48 ≤ (S[k].toNat : Int) := by omega
              by_cases d2 : (S[k].toNat : Int) ≤ 57
              · have HB' := hid (rightTo_good HB.out bk ⟨d1', d2⟩)
                clear bk
                go_wp2_with fail
                go_round
                case rel => exact ⟨k + 1, _, by omega, by go_num, rfl, HB'⟩
                case measure => simp [intOf]; omega
              · have HB' := hid (rightTo_bad bk (fun g => d2 g.2))
                clear bk
                go_wp2_with fail
                go_round
                case rel => exact ⟨k + 1, _, by omega, by go_num, rfl, HB'⟩
                case measure => simp [intOf]; omega
        · have hkn : k = S.size := by omega
          subst hkn
          have hb2 := HB.out
          rw [← HSL.out, rightTo_all] at hb2
          have HQ := hid (parse_any S U4 (by unfold maxLen; omega))
          by_cases hnum : IsNum S.data.toList
          · rw [decide_eq_true hnum] at hb2
            subst hb2
            rw [pErr_num (by omega) hnum] at HQ
            have hbd := numTo_bounds hnum.2.2 S.size
            have hdn := dec_num (S.data.toList.length - 1) S.data.toList (by have := hnum.1; omega) hnum
            rw [HSL.out] at hdn
            have hlt2 : numTo S.data.toList S.size < 4294967296 ^ S.size := by
              have e : (10 : Int) ^ S.size ≤ 4294967296 ^ S.size := by
                have e : (10 : Nat) ^ S.size ≤ 4294967296 ^ S.size := Nat.pow_le_pow_left (by decide) _
                have := Int.ofNat_le.2 e
                rw [Int.natCast_pow, Int.natCast_pow] at this
                exact this
              omega
            have HLT2 := hid hlt2
            have HDN := hid hdn
            clear hbd hlt2 hdn hnum HB
            go_wp2_with fail
            refine Calls.mono HQ.out ?_
            rintro e U5 ⟨vC, zC, code, rfl, oC, tellC, hb5⟩
            obtain ⟨rfl, hvC⟩ := tellC.good rfl (lt_wide HLT2.out (by omega))
            have lC := len_of_lt tellC.wd tellC.trim (L := S.size) (by rw [hvC]; exact HLT2.out)
            have hb6 := bt HBS.out hb5
            have HP := hid (print_any vC zC U5 (Sl.own oC tellC.wd) (by omega) (HT.out.later hb6))
            rw [chk_good (by omega) tellC.trim, if_pos rfl, hvC, HDN.out] at HP
            have hSS : (⟨S.data.toList.toArray⟩ : ByteArray) = S := by obtain ⟨d⟩ := S; simp
            rw [hSS] at HP
            have HB6 := hid hb6
            clear oC tellC hvC lC hb5 hb6 hSS HQ
            go_wp2_with fail
            refine Calls.mono HP.out ?_
            rintro e U6 ⟨rfl, hb7⟩
            have hb8 := bt HB6.out hb7
            clear hb7 HP HB6
            go_wp2_with fail
            go_ret
            exact ⟨rfl, hb8⟩
          · rw [decide_eq_false hnum] at hb2
            subst hb2
            rw [pErr_not (by omega) hnum] at HQ
            clear hnum HB
            go_wp2_with fail
            refine Calls.mono HQ.out ?_
            rintro e U5 ⟨vC, zC, code, rfl, oC, tellC, hb5⟩
            obtain ⟨rfl, rfl⟩ := tellC.bad (by decide)
            obtain ⟨aC, cC, rfl⟩ := own_slice' oC
            have hb6 := bt HBS.out hb5
            clear oC tellC hb5 HQ
            go_wp2_with fail
            go_ret
            exact ⟨rfl, hb6⟩
    · omega
    · have HR := hid R
      have c48 : ((S[0].toNat : Int) != 48) = true := by simp [c]
      clear R c
      go_wp2_with fail
      go_loop [11, 12] (fun r t => ∃ (k : Nat) (b : Bool), k ≤ S.size ∧ t = .int .i64 k ∧ r = .bool b ∧ Hid (rightTo S.data.toList k = b)) (fun _ t => S.size - (intOf t).toNat)
      case atStart => exact ⟨0, _, by omega, rfl, rfl, HR⟩
      case round =>
        obtain ⟨k, b, hk, rfl, rfl, HB⟩ := hrel
        by_cases hlt : k < S.size
        · have bk := byte_at S k hlt
          cases b with
          | false =>
            have HB' := hid (rightTo_no HB.out)
            clear bk
            go_wp2_with fail
            go_round
            case rel => exact ⟨k + 1, _, by omega, by go_num, rfl, HB'⟩
            case measure => simp [intOf]; omega
          | true =>
            by_cases d1 : (S[k].toNat : Int) < 48
            · have HB' := hid (rightTo_bad bk (fun g => by omega))
              have d1' : ¬ (48 ≤ (S[k].toNat : Int)) := by omega
              clear bk
              go_wp2_with fail
              go_round
              case rel => exact ⟨k + 1, _, by omega, by go_num, rfl, HB'⟩
              case measure => simp [intOf]; omega
            · have d1' : 48 ≤ (S[k].toNat : Int) := by omega
              by_cases d2 : (S[k].toNat : Int) ≤ 57
              · have HB' := hid (rightTo_good HB.out bk ⟨d1', d2⟩)
                clear bk
                go_wp2_with fail
                go_round
                case rel => exact ⟨k + 1, _, by omega, by go_num, rfl, HB'⟩
                case measure => simp [intOf]; omega
              · have HB' := hid (rightTo_bad bk (fun g => d2 g.2))
                clear bk
                go_wp2_with fail
                go_round
                case rel => exact ⟨k + 1, _, by omega, by go_num, rfl, HB'⟩
                case measure => simp [intOf]; omega
        · have hkn : k = S.size := by omega
          subst hkn
          have hb2 := HB.out
          rw [← HSL.out, rightTo_all] at hb2
          have HQ := hid (parse_any S U4 (by unfold maxLen; omega))
          by_cases hnum : IsNum S.data.toList
          · rw [decide_eq_true hnum] at hb2
            subst hb2
            rw [pErr_num (by omega) hnum] at HQ
            have hbd := numTo_bounds hnum.2.2 S.size
            have hdn := dec_num (S.data.toList.length - 1) S.data.toList (by have := hnum.1; omega) hnum
            rw [HSL.out] at hdn
            have hlt2 : numTo S.data.toList S.size < 4294967296 ^ S.size := by
              have e : (10 : Int) ^ S.size ≤ 4294967296 ^ S.size := by
                have e : (10 : Nat) ^ S.size ≤ 4294967296 ^ S.size := Nat.pow_le_pow_left (by decide) _
                have := Int.ofNat_le.2 e
                rw [Int.natCast_pow, Int.natCast_pow] at this
                exact this
              omega
            have HLT2 := hid hlt2
            have HDN := hid hdn
            clear hbd hlt2 hdn hnum HB
            go_wp2_with fail
            refine Calls.mono HQ.out ?_
            rintro e U5 ⟨vC, zC, code, rfl, oC, tellC, hb5⟩
            obtain ⟨rfl, hvC⟩ := tellC.good rfl (lt_wide HLT2.out (by omega))
            have lC := len_of_lt tellC.wd tellC.trim (L := S.size) (by rw [hvC]; exact HLT2.out)
            have hb6 := bt HBS.out hb5
            have HP := hid (print_any vC zC U5 (Sl.own oC tellC.wd) (by omega) (HT.out.later hb6))
            rw [chk_good (by omega) tellC.trim, if_pos rfl, hvC, HDN.out] at HP
            have hSS : (⟨S.data.toList.toArray⟩ : ByteArray) = S := by obtain ⟨d⟩ := S; simp
            rw [hSS] at HP
            have HB6 := hid hb6
            clear oC tellC hvC lC hb5 hb6 hSS HQ
            go_wp2_with fail
            refine Calls.mono HP.out ?_
            rintro e U6 ⟨rfl, hb7⟩
            have hb8 := bt HB6.out hb7
            clear hb7 HP HB6
            go_wp2_with fail
            go_ret
            exact ⟨rfl, hb8⟩
          · rw [decide_eq_false hnum] at hb2
            subst hb2
            rw [pErr_not (by omega) hnum] at HQ
            clear hnum HB
            go_wp2_with fail
            refine Calls.mono HQ.out ?_
            rintro e U5 ⟨vC, zC, code, rfl, oC, tellC, hb5⟩
            obtain ⟨rfl, rfl⟩ := tellC.bad (by decide)
            obtain ⟨aC, cC, rfl⟩ := own_slice' oC
            have hb6 := bt HBS.out hb5
            clear oC tellC hb5 HQ
            go_wp2_with fail
            go_ret
            exact ⟨rfl, hb6⟩
  · subst hex
    rcases hts with ⟨z, e, R⟩ | ⟨hp, c, c1, R⟩ | ⟨hp, c, c1, R⟩ | ⟨hp, c, R⟩
    · have HR := hid R
      clear R e
      go_wp2_with fail
      go_loop [11, 12] (fun r t => ∃ (k : Nat) (b : Bool), k ≤ S.size ∧ t = .int .i64 k ∧ r = .bool b ∧ Hid (rightTo S.data.toList k = b)) (fun _ t => S.size - (intOf t).toNat)
      case atStart => exact ⟨0, _, by omega, rfl, rfl, HR⟩
      case round =>
        obtain ⟨k, b, hk, rfl, rfl, HB⟩ := hrel
        by_cases hlt : k < S.size
        · omega
        · have hkn : k = S.size := by omega
          subst hkn
          have hb2 := HB.out
          rw [← HSL.out, rightTo_all] at hb2
          have HQ := hid (parse_any S U4 (by unfold maxLen; omega))
          by_cases hnum : IsNum S.data.toList
          · rw [decide_eq_true hnum] at hb2
            subst hb2
            rw [pErr_num (by omega) hnum] at HQ
            have hbd := numTo_bounds hnum.2.2 S.size
            have hdn := dec_num (S.data.toList.length - 1) S.data.toList (by have := hnum.1; omega) hnum
            rw [HSL.out] at hdn
            have hlt2 : numTo S.data.toList S.size < 4294967296 ^ S.size := by
              have e : (10 : Int) ^ S.size ≤ 4294967296 ^ S.size := by
                have e : (10 : Nat) ^ S.size ≤ 4294967296 ^ S.size := Nat.pow_le_pow_left (by decide) _
                have := Int.ofNat_le.2 e
                rw [Int.natCast_pow, Int.natCast_pow] at this
                exact this
              omega
            have HLT2 := hid hlt2
            have HDN := hid hdn
            clear hbd hlt2 hdn hnum HB
            go_wp2_with fail
            refine Calls.mono HQ.out ?_
            rintro e U5 ⟨vC, zC, code, rfl, oC, tellC, hb5⟩
            obtain ⟨rfl, hvC⟩ := tellC.good rfl (lt_wide HLT2.out (by omega))
            have lC := len_of_lt tellC.wd tellC.trim (L := S.size) (by rw [hvC]; exact HLT2.out)
            have hb6 := bt HBS.out hb5
            have HP := hid (print_any vC zC U5 (Sl.own oC tellC.wd) (by omega) (HT.out.later hb6))
            rw [chk_good (by omega) tellC.trim, if_pos rfl, hvC, HDN.out] at HP
            have hSS : (⟨S.data.toList.toArray⟩ : ByteArray) = S := by obtain ⟨d⟩ := S; simp
            rw [hSS] at HP
            have HB6 := hid hb6
            clear oC tellC hvC lC hb5 hb6 hSS HQ
            go_wp2_with fail
            refine Calls.mono HP.out ?_
            rintro e U6 ⟨rfl, hb7⟩
            have hb8 := bt HB6.out hb7
            clear hb7 HP HB6
            go_wp2_with fail
            go_ret
            exact ⟨rfl, hb8⟩
          · rw [decide_eq_false hnum] at hb2
            subst hb2
            rw [pErr_not (by omega) hnum] at HQ
            clear hnum HB
            go_wp2_with fail
            refine Calls.mono HQ.out ?_
            rintro e U5 ⟨vC, zC, code, rfl, oC, tellC, hb5⟩
            obtain ⟨rfl, rfl⟩ := tellC.bad (by decide)
            obtain ⟨aC, cC, rfl⟩ := own_slice' oC
            have hb6 := bt HBS.out hb5
            clear oC tellC hb5 HQ
            go_wp2_with fail
            go_ret
            exact ⟨rfl, hb6⟩
    · have HR := hid R
      have c48 : ((S[0].toNat : Int) != 48) = false := by simp [c]
      have c49 : ((S.size : Int) == 1) = false := by simp; omega
      clear R c
      go_wp2_with fail
      go_loop [11, 12] (fun r t => ∃ (k : Nat) (b : Bool), k ≤ S.size ∧ t = .int .i64 k ∧ r = .bool b ∧ Hid (rightTo S.data.toList k = b)) (fun _ t => S.size - (intOf t).toNat)
      case atStart => exact ⟨0, _, by omega, rfl, rfl, HR⟩
      case round =>
        obtain ⟨k, b, hk, rfl, rfl, HB⟩ := hrel
        by_cases hlt : k < S.size
        · have bk := byte_at S k hlt
          cases b with
          | false =>
            have HB' := hid (rightTo_no HB.out)
            clear bk
            go_wp2_with fail
            go_round
            case rel => exact ⟨k + 1, _, by omega, by go_num, rfl, HB'⟩
            case measure => simp [intOf]; omega
          | true =>
            by_cases d1 : (S[k].toNat : Int) < 48
            · have HB' := hid (rightTo_bad bk (fun g => by omega))
              have d1' : ¬ (48 ≤ (S[k].toNat : Int)) := by omega
              clear bk
              go_wp2_with fail
              go_round
              case rel => exact ⟨k + 1, _, by omega, by go_num, rfl, HB'⟩
              case measure => simp [intOf]; omega
            · have d1' : 48 ≤ (S[k].toNat : Int) := by omega
              by_cases d2 : (S[k].toNat : Int) ≤ 57
              · have HB' := hid (rightTo_good HB.out bk ⟨d1', d2⟩)
                clear bk
                go_wp2_with fail
                go_round
                case rel => exact ⟨k + 1, _, by omega, by go_num, rfl, HB'⟩
                case measure => simp [intOf]; omega
              · have HB' := hid (rightTo_bad bk (fun g => d2 g.2))
                clear bk
                go_wp2_with fail
                go_round
                case rel => exact ⟨k + 1, _, by omega, by go_num, rfl, HB'⟩
                case measure => simp [intOf]; omega
        · have hkn : k = S.size := by omega
          subst hkn
          have hb2 := HB.out
          rw [← HSL.out, rightTo_all] at hb2
          have HQ := hid (parse_any S U4 (by unfold maxLen; omega))
          by_cases hnum : IsNum S.data.toList
          · rw [decide_eq_true hnum] at hb2
            subst hb2
            rw [pErr_num (by omega) hnum] at HQ
            have hbd := numTo_bounds hnum.2.2 S.size
            have hdn := dec_num (S.data.toList.length - 1) S.data.toList (by have := hnum.1; omega) hnum
            rw [HSL.out] at hdn
            have hlt2 : numTo S.data.toList S.size < 4294967296 ^ S.size := by
              have e : (10 : Int) ^ S.size ≤ 4294967296 ^ S.size := by
                have e : (10 : Nat) ^ S.size ≤ 4294967296 ^ S.size := Nat.pow_le_pow_left (by decide) _
                have := Int.ofNat_le.2 e
                rw [Int.natCast_pow, Int.natCast_pow] at this
                exact this
              omega
            have HLT2 := hid hlt2
            have HDN := hid hdn
            clear hbd hlt2 hdn hnum HB
            go_wp2_with fail
            refine Calls.mono HQ.out ?_
            rintro e U5 ⟨vC, zC, code, rfl, oC, tellC, hb5⟩
            obtain ⟨rfl, hvC⟩ := tellC.good rfl (lt_wide HLT2.out (by omega))
            have lC := len_of_lt tellC.wd tellC.trim (L := S.size) (by rw [hvC]; exact HLT2.out)
            have hb6 := bt HBS.out hb5
            have HP := hid (print_any vC zC U5 (Sl.own oC tellC.wd) (by omega) (HT.out.later hb6))
            rw [chk_good (by omega) tellC.trim, if_pos rfl, hvC, HDN.out] at HP
            have hSS : (⟨S.data.toList.toArray⟩ : ByteArray) = S := by obtain ⟨d⟩ := S; simp
            rw [hSS] at HP
            have HB6 := hid hb6
            clear oC tellC hvC lC hb5 hb6 hSS HQ
            go_wp2_with fail
            refine Calls.mono HP.out ?_
            rintro e U6 ⟨rfl, hb7⟩
            have hb8 := bt HB6.out hb7
            clear hb7 HP HB6
            go_wp2_with fail
            go_ret
            exact ⟨rfl, hb8⟩
          · rw [decide_eq_false hnum] at hb2
            subst hb2
            rw [pErr_not (by omega) hnum] at HQ
            clear hnum HB
            go_wp2_with fail
            refine Calls.mono HQ.out ?_
            rintro e U5 ⟨vC, zC, code, rfl, oC, tellC, hb5⟩
            obtain ⟨rfl, rfl⟩ := tellC.bad (by decide)
            obtain ⟨aC, cC, rfl⟩ := own_slice' oC
            have hb6 := bt HBS.out hb5
            clear oC tellC hb5 HQ
            go_wp2_with fail
            go_ret
            exact ⟨rfl, hb6⟩
    · have HR := hid R
      have c48 : ((S[0].toNat : Int) != 48) = false := by simp [c]
      have c49 : ((S.size : Int) == 1) = true := by simp [c1]
      clear R c
      go_wp2_with fail
      go_loop [11, 12] (fun r t => ∃ (k : Nat) (b : Bool), k ≤ S.size ∧ t = .int .i64 k ∧ r = .bool b ∧ Hid (rightTo S.data.toList k = b)) (fun _ t => S.size - (intOf t).toNat)
      case atStart => exact ⟨0, _, by omega, rfl, rfl, HR⟩
      case round =>
        obtain ⟨k, b, hk, rfl, rfl, HB⟩ := hrel
        by_cases hlt : k < S.size
        · have bk := byte_at S k hlt
          cases b with
          | false =>
            have HB' := hid (rightTo_no HB.out)
            clear bk
            go_wp2_with fail
            go_round
            case rel => exact ⟨k + 1, _, by omega, by go_num, rfl, HB'⟩
            case measure => simp [intOf]; omega
          | true =>
            by_cases d1 : (S[k].toNat : Int) < 48
            · have HB' := hid (rightTo_bad bk (fun g => by omega))
              have d1' : ¬ (48 ≤ (S[k].toNat : Int)) := by omega
              clear bk
              go_wp2_with fail
              go_round
              case rel => exact ⟨k + 1, _, by omega, by go_num, rfl, HB'⟩
              case measure => simp [intOf]; omega
            · have d1' : 48 ≤ (S[k].toNat : Int) := by omega
              by_cases d2 : (S[k].toNat : Int) ≤ 57
              · have HB' := hid (rightTo_good HB.out bk ⟨d1', d2⟩)
                clear bk
                go_wp2_with fail
                go_round
                case rel => exact ⟨k + 1, _, by omega, by go_num, rfl, HB'⟩
                case measure => simp [intOf]; omega
              · have HB' := hid (rightTo_bad bk (fun g => d2 g.2))
                clear bk
                go_wp2_with fail
                go_round
                case rel => exact ⟨k + 1, _, by omega, by go_num, rfl, HB'⟩
                case measure => simp [intOf]; omega
        · have hkn : k = S.size := by omega
          subst hkn
          have hb2 := HB.out
          rw [← HSL.out, rightTo_all] at hb2
          have HQ := hid (parse_any S U4 (by unfold maxLen; omega))
          by_cases hnum : IsNum S.data.toList
          · rw [decide_eq_true hnum] at hb2
            subst hb2
            rw [pErr_num (by omega) hnum] at HQ
            have hbd := numTo_bounds hnum.2.2 S.size
            have hdn := dec_num (S.data.toList.length - 1) S.data.toList (by have := hnum.1; omega) hnum
            rw [HSL.out] at hdn
            have hlt2 : numTo S.data.toList S.size < 4294967296 ^ S.size := by
              have e : (10 : Int) ^ S.size ≤ 4294967296 ^ S.size := by
                have e : (10 : Nat) ^ S.size ≤ 4294967296 ^ S.size := Nat.pow_le_pow_left (by decide) _
                have := Int.ofNat_le.2 e
                rw [Int.natCast_pow, Int.natCast_pow] at this
                exact this
              omega
            have HLT2 := hid hlt2
            have HDN := hid hdn
            clear hbd hlt2 hdn hnum HB
            go_wp2_with fail
            refine Calls.mono HQ.out ?_
            rintro e U5 ⟨vC, zC, code, rfl, oC, tellC, hb5⟩
            obtain ⟨rfl, hvC⟩ := tellC.good rfl (lt_wide HLT2.out (by omega))
            have lC := len_of_lt tellC.wd tellC.trim (L := S.size) (by rw [hvC]; exact HLT2.out)
            have hb6 := bt HBS.out hb5
            have HP := hid (print_any vC zC U5 (Sl.own oC tellC.wd) (by omega) (HT.out.later hb6))
            rw [chk_good (by omega) tellC.trim, if_pos rfl, hvC, HDN.out] at HP
            have hSS : (⟨S.data.toList.toArray⟩ : ByteArray) = S := by obtain ⟨d⟩ := S; simp
            rw [hSS] at HP
            have HB6 := hid hb6
            clear oC tellC hvC lC hb5 hb6 hSS HQ
            go_wp2_with fail
            refine Calls.mono HP.out ?_
            rintro e U6 ⟨rfl, hb7⟩
            have hb8 := bt HB6.out hb7
            clear hb7 HP HB6
            go_wp2_with fail
            go_ret
            exact ⟨rfl, hb8⟩
          · rw [decide_eq_false hnum] at hb2
            subst hb2
            rw [pErr_not (by omega) hnum] at HQ
            clear hnum HB
            go_wp2_with fail
            refine Calls.mono HQ.out ?_
            rintro e U5 ⟨vC, zC, code, rfl, oC, tellC, hb5⟩
            obtain ⟨rfl, rfl⟩ := tellC.bad (by decide)
            obtain ⟨aC, cC, rfl⟩ := own_slice' oC
            have hb6 := bt HBS.out hb5
            clear oC tellC hb5 HQ
            go_wp2_with fail
            go_ret
            exact ⟨rfl, hb6⟩
    · have HR := hid R
      have c48 : ((S[0].toNat : Int) != 48) = true := by simp [c]
      clear R c
      go_wp2_with fail
      go_loop [11, 12] (fun r t => ∃ (k : Nat) (b : Bool), k ≤ S.size ∧ t = .int .i64 k ∧ r = .bool b ∧ Hid (rightTo S.data.toList k = b)) (fun _ t => S.size - (intOf t).toNat)
      case atStart => exact ⟨0, _, by omega, rfl, rfl, HR⟩
      case round =>
        obtain ⟨k, b, hk, rfl, rfl, HB⟩ := hrel
        by_cases hlt : k < S.size
        · have bk := byte_at S k hlt
          cases b with
          | false =>
            have HB' := hid (rightTo_no HB.out)
            clear bk
            go_wp2_with fail
            go_round
            case rel => exact ⟨k + 1, _, by omega, by go_num, rfl, HB'⟩
            case measure => simp [intOf]; omega
          | true =>
            by_cases d1 : (S[k].toNat : Int) < 48
            · have HB' := hid (rightTo_bad bk (fun g => by omega))
              have d1' : ¬ (48 ≤ (S[k].toNat : Int)) := by omega
              clear bk
              go_wp2_with fail
              go_round
              case rel => exact ⟨k + 1, _, by omega, by go_num, rfl, HB'⟩
              case measure => simp [intOf]; omega
            · have d1' : 48 ≤ (S[k].toNat : Int) := by omega
              by_cases d2 : (S[k].toNat : Int) ≤ 57
              · have HB' := hid (rightTo_good HB.out bk ⟨d1', d2⟩)
                clear bk
                go_wp2_with fail
                go_round
                case rel => exact ⟨k + 1, _, by omega, by go_num, rfl, HB'⟩
                case measure => simp [intOf]; omega
              · have HB' := hid (rightTo_bad bk (fun g => d2 g.2))
                clear bk
                go_wp2_with fail
                go_round
                case rel => exact ⟨k + 1, _, by omega, by go_num, rfl, HB'⟩
                case measure => simp [intOf]; omega
        · have hkn : k = S.size := by omega
          subst hkn
          have hb2 := HB.out
          rw [← HSL.out, rightTo_all] at hb2
          have HQ := hid (parse_any S U4 (by unfold maxLen; omega))
          by_cases hnum : IsNum S.data.toList
          · rw [decide_eq_true hnum] at hb2
            subst hb2
            rw [pErr_num (by omega) hnum] at HQ
            have hbd := numTo_bounds hnum.2.2 S.size
            have hdn := dec_num (S.data.toList.length - 1) S.data.toList (by have := hnum.1; omega) hnum
            rw [HSL.out] at hdn
            have hlt2 : numTo S.data.toList S.size < 4294967296 ^ S.size := by
              have e : (10 : Int) ^ S.size ≤ 4294967296 ^ S.size := by
                have e : (10 : Nat) ^ S.size ≤ 4294967296 ^ S.size := Nat.pow_le_pow_left (by decide) _
                have := Int.ofNat_le.2 e
                rw [Int.natCast_pow, Int.natCast_pow] at this
                exact this
              omega
            have HLT2 := hid hlt2
            have HDN := hid hdn
            clear hbd hlt2 hdn hnum HB
            go_wp2_with fail
            refine Calls.mono HQ.out ?_
            rintro e U5 ⟨vC, zC, code, rfl, oC, tellC, hb5⟩
            obtain ⟨rfl, hvC⟩ := tellC.good rfl (lt_wide HLT2.out (by omega))
            have lC := len_of_lt tellC.wd tellC.trim (L := S.size) (by rw [hvC]; exact HLT2.out)
            have hb6 := bt HBS.out hb5
            have HP := hid (print_any vC zC U5 (Sl.own oC tellC.wd) (by omega) (HT.out.later hb6))
            rw [chk_good (by omega) tellC.trim, if_pos rfl, hvC, HDN.out] at HP
            have hSS : (⟨S.data.toList.toArray⟩ : ByteArray) = S := by obtain ⟨d⟩ := S; simp
            rw [hSS] at HP
            have HB6 := hid hb6
            clear oC tellC hvC lC hb5 hb6 hSS HQ
            go_wp2_with fail
            refine Calls.mono HP.out ?_
            rintro e U6 ⟨rfl, hb7⟩
            have hb8 := bt HB6.out hb7
            clear hb7 HP HB6
            go_wp2_with fail
            go_ret
            exact ⟨rfl, hb8⟩
          · rw [decide_eq_false hnum] at hb2
            subst hb2
            rw [pErr_not (by omega) hnum] at HQ
            clear hnum HB
            go_wp2_with fail
            refine Calls.mono HQ.out ?_
            rintro e U5 ⟨vC, zC, code, rfl, oC, tellC, hb5⟩
            obtain ⟨rfl, rfl⟩ := tellC.bad (by decide)
            obtain ⟨aC, cC, rfl⟩ := own_slice' oC
            have hb6 := bt HBS.out hb5
            clear oC tellC hb5 HQ
            go_wp2_with fail
            go_ret
            exact ⟨rfl, hb6⟩
end Go.Proofs.YtepbacikhmagpabDoor
