/- The law WholeBack answers true, and writes nothing that was there: whatever whole numbers and text come in, where the library's table of powers of ten stands as its text lays it. -/
import Derived.Test.YtbcangblmadnpacDoorWhText
import Derived.Test.YtbcangblmadnpacDoorWhV
namespace Go.Proofs.YtbcangblmadnpacDoor
open Go.RowKit Go.Lib
set_option linter.unusedVariables false

theorem str_same (s : ByteArray) : (s.toList == s.toList) = true := by simp
theorem str_other {s t : ByteArray} (h : ¬ s = t) : (s.toList == t.toList) = false := by
  rw [toList_data, toList_data]
  exact beq_eq_false_iff_ne.2 (fun e => h (ByteArray.ext (Array.toList_inj.1 e)))

set_option maxHeartbeats 25600000 in
set_option maxRecDepth 100000 in
theorem wholeBack_good (nA : Bool) (aA : Option Addr) (cA : Nat) (xA : List Int) (nB : Bool) (aB : Option Addr) (cB : Nat) (xB : List Int) (s : ByteArray) (w : World)
    (sA : Sl w (.slice aA xA.length cA) xA) (sB : Sl w (.slice aB xB.length cB) xB) (hs63 : s.size ≤ 9223372036854775807) (hA63 : xA.length ≤ 9223372036854775807) (hB63 : xB.length ≤ 9223372036854775807) (htab : Tab w) :
    Calls Tryd.prog 4 #[.agg #[.bool nA, .slice aA xA.length cA], .agg #[.bool nB, .slice aB xB.length cB], .string s] w fun e w' => e = .returned (.bool true) ∧ Below w.heap.size w w' := by
  have wA := sA.wd
  have wB := sB.wd
  have HTAB := hid htab
  have hb := Below.refl w.heap.size w
  clear htab
  go_enter Tryd.func4, Tryd.ntmps4
  have HH := hid (lives_any ((w.alloc (.cells #[.bool nA, .slice aA xA.length cA] 24)).alloc (.cells #[.bool nB, .slice aB xB.length cB] 24)))
  go_wp2_with fail
  refine Calls.mono HH.out ?_
  rintro e U1 ⟨rfl, hb2⟩
  have hb3 := bt (show Below w.heap.size w ((w.alloc (.cells #[.bool nA, .slice aA xA.length cA] 24)).alloc (.cells #[.bool nB, .slice aB xB.length cB] 24)) from (bt (alloc_later _ _) (alloc_later _ _))) hb2
  have vA : Vr U1 w.heap.size nA aA cA xA := Vr.new sA (bt (alloc_later _ _) hb2)
  clear sA
  have vBx := Vr.new (n := nB) (sB.later (alloc_later w (.cells #[.bool nA, .slice aA xA.length cA] 24))) hb2
  have vB : Vr U1 (w.heap.size + 1) nB aB cB xB := by rw [show (w.alloc (.cells #[.bool nA, .slice aA xA.length cA] 24)).heap.size = w.heap.size + 1 by simp] at vBx; exact vBx
  clear vBx
  clear sB
  replace hb := bt hb hb3
  clear hb2 hb3 HH
  by_cases hA4 : 40 < xA.length
  · have hA4' : (40 : Int) < (xA.length : Int) := by omega
    have iA0 := vA.c0
    have iA1 := vA.c1
    have iAb := vA.box.lt
    have iB0 := vB.c0
    have iB1 := vB.c1
    have iBb := vB.box.lt
    go_wp2_with fail
    go_ret
    exact ⟨rfl, hb⟩
  · have hA4' : ¬ (40 : Int) < (xA.length : Int) := by omega
    by_cases hB4 : 40 < xB.length
    · have hB4' : (40 : Int) < (xB.length : Int) := by omega
      have iA0 := vA.c0
      have iA1 := vA.c1
      have iAb := vA.box.lt
      have iB0 := vB.c0
      have iB1 := vB.c1
      have iBb := vB.box.lt
      go_wp2_with fail
      go_ret
      exact ⟨rfl, hb⟩
    · have hB4' : ¬ (40 : Int) < (xB.length : Int) := by omega
      by_cases hs4 : 400 < s.size
      · have hs4' : (400 : Int) < (s.size : Int) := by omega
        have iA0 := vA.c0
        have iA1 := vA.c1
        have iAb := vA.box.lt
        have iB0 := vB.c0
        have iB1 := vB.c1
        have iBb := vB.box.lt
        go_wp2_with fail
        go_ret
        exact ⟨rfl, hb⟩
      · have hs4' : ¬ (400 : Int) < (s.size : Int) := by omega
        have hs400 : s.size ≤ 400 := by omega
        clear hs4
        by_cases hA : wchk nA xA = 0
        · have HbA := hid (below40 (n := nA) wA (by omega : xA.length ≤ 40))
          have HH := hid (wprint_any nA _ xA _ (vA.sl.later (Below.refl U1.heap.size U1)) hA (HTAB.out.later (bt hb (Below.refl U1.heap.size U1))))
          have iA0 := vA.c0
          have iA1 := vA.c1
          have iAb := vA.box.lt
          have iB0 := vB.c0
          have iB1 := vB.c1
          have iBb := vB.box.lt
          go_wp2_with fail
          refine Calls.mono HH.out ?_
          rintro e U2 ⟨T, rfl, hT, hb2⟩
          clear iA0 iA1 iAb iB0 iB1 iBb
          have hb3 := bt (Below.refl U1.heap.size U1) hb2
          replace vA := vA.later hb3
          replace vB := vB.later hb3
          replace hb := bt hb hb3
          clear hb2 hb3 HH
          obtain ⟨hTs, hTe, hTv⟩ := text_parse wA hA T hT
          have HH := hid (wparse_any T U2 hTs)
          rw [hTe, hTv] at HH
          have HT := hid hT
          clear hTs hTe hTv hT
          go_wp2_with fail
          refine Calls.mono HH.out ?_
          rintro e U3 ⟨nX, vXx, zX, ccX, rfl, oX, wtX, hb2⟩
          have hb3 := bt (Below.refl U2.heap.size U2) hb2
          replace vA := vA.later hb3
          replace vB := vB.later hb3
          replace hb := bt hb hb3
          clear hb2 hb3 HH
          obtain ⟨rfl, hvX⟩ := wtX.good rfl (by have := HbA.out; have := lim40_le; have := lim40_pos; omega) (by have := HbA.out; have := lim40_le; have := lim40_pos; omega)
          obtain ⟨aX, cX, hq⟩ := own_slice' oX
          subst hq
          have sX := Sl.own oX wtX.wd
          have kX := wchk_good wtX.len wtX.trim wtX.sign
          have HVX := hid hvX
          clear oX hvX wtX
          by_cases hB : wchk nB xB = 0
          · have HH := hid (wprint_any nB _ xB _ (vB.sl.later (show Below U3.heap.size U3 (U3.alloc (.cells #[.bool nX, .slice aX zX.length cX] 24)) from (alloc_later _ _))) hB (HTAB.out.later (bt hb (show Below U3.heap.size U3 (U3.alloc (.cells #[.bool nX, .slice aX zX.length cX] 24)) from (alloc_later _ _)))))
            have iB0 := vB.c0
            have iB1 := vB.c1
            have iBb := vB.box.lt
            have iB2 := (vB.later (show Below U3.heap.size U3 (U3.alloc (.cells #[.bool nX, .slice aX zX.length cX] 24)) from (alloc_later _ _))).c0
            have iB3 := (vB.later (show Below U3.heap.size U3 (U3.alloc (.cells #[.bool nX, .slice aX zX.length cX] 24)) from (alloc_later _ _))).c1
            go_wp2_with fail
            refine Calls.mono HH.out ?_
            rintro e U4 ⟨T2, rfl, hT2, hb2⟩
            clear iB0 iB1 iBb iB2 iB3
            have hb3 := bt (show Below U3.heap.size U3 (U3.alloc (.cells #[.bool nX, .slice aX zX.length cX] 24)) from (alloc_later _ _)) hb2
            replace vA := vA.later hb3
            replace vB := vB.later hb3
            have vX : Vr U4 U3.heap.size nX aX cX zX := Vr.new sX hb2
            clear sX
            replace hb := bt hb hb3
            clear hb2 hb3 HH
            have HI := hid (text_inj wA wB hA hB T T2 HT.out hT2)
            clear hT2 HT
            have HH := hid (lawSame_any nX _ zX nA _ xA _ (vX.sl.later (Below.refl U4.heap.size U4)) (vA.sl.later (Below.refl U4.heap.size U4)) kX hA HVX.out)
            have iX0 := vX.c0
            have iX1 := vX.c1
            have iXb := vX.box.lt
            have iA0 := vA.c0
            have iA1 := vA.c1
            have iAb := vA.box.lt
            go_wp2_with fail
            refine Calls.mono HH.out ?_
            rintro e U5 ⟨rfl, hb2⟩
            clear iX0 iX1 iXb iA0 iA1 iAb
            have hb3 := bt (Below.refl U4.heap.size U4) hb2
            replace vA := vA.later hb3
            replace vB := vB.later hb3
            replace vX := vX.later hb3
            replace hb := bt hb hb3
            clear hb2 hb3 HH
            by_cases hEQ : nA = nB ∧ xA = xB
            · have hTT : T = T2 := HI.out.2 hEQ
              subst hTT
              have hss := str_same T
              have HH := hid (sameWhole_any nA _ xA nB _ xB _ (vA.sl.later (Below.refl U5.heap.size U5)) (vB.sl.later (Below.refl U5.heap.size U5)) (by omega) (by omega))
              rw [decide_eq_true hEQ] at HH
              clear hEQ HI
              have iA0 := vA.c0
              have iA1 := vA.c1
              have iAb := vA.box.lt
              have iB0 := vB.c0
              have iB1 := vB.c1
              have iBb := vB.box.lt
              go_wp2_with fail
              refine Calls.mono HH.out ?_
              rintro e U6 ⟨rfl, hb2⟩
              clear iA0 iA1 iAb iB0 iB1 iBb
              have hb3 := bt (Below.refl U5.heap.size U5) hb2
              replace vA := vA.later hb3
              replace vB := vB.later hb3
              replace vX := vX.later hb3
              replace hb := bt hb hb3
              clear hb2 hb3 HH
              by_cases hE : wpErr s = 0
              · have HH := hid (wparse_any s U6 (by omega))
                rw [hE] at HH
                go_wp2_with fail
                refine Calls.mono HH.out ?_
                rintro e U7 ⟨nY, vYx, zY, ccY, rfl, oY, wtY, hb2⟩
                have hb3 := bt (Below.refl U6.heap.size U6) hb2
                replace vA := vA.later hb3
                replace vB := vB.later hb3
                replace vX := vX.later hb3
                replace hb := bt hb hb3
                clear hb2 hb3 HH
                obtain ⟨rfl, hvY⟩ := wtY.good rfl (num_small s hs400 hE).1 (num_small s hs400 hE).2
                obtain ⟨aY, cY, hq⟩ := own_slice' oY
                subst hq
                have sY := Sl.own oY wtY.wd
                have kY := wchk_good wtY.len wtY.trim wtY.sign
                have HPT := hid (parse_text s hE wtY.wd kY hvY)
                clear oY hvY wtY
                have HH := hid (wprint_any nY _ zY _ (sY.later (show Below U7.heap.size U7 (U7.alloc (.cells #[.bool nY, .slice aY zY.length cY] 24)) from (alloc_later _ _))) kY (HTAB.out.later (bt hb (show Below U7.heap.size U7 (U7.alloc (.cells #[.bool nY, .slice aY zY.length cY] 24)) from (alloc_later _ _)))))
                go_wp2_with fail
                refine Calls.mono HH.out ?_
                rintro e U8 ⟨T3, rfl, hT3, hb2⟩
                have hb3 := bt (show Below U7.heap.size U7 (U7.alloc (.cells #[.bool nY, .slice aY zY.length cY] 24)) from (alloc_later _ _)) hb2
                replace vA := vA.later hb3
                replace vB := vB.later hb3
                replace vX := vX.later hb3
                have vY : Vr U8 U7.heap.size nY aY cY zY := Vr.new sY hb2
                clear sY
                replace hb := bt hb hb3
                clear hb2 hb3 HH
                have hTs : T3 = s := ByteArray.ext (Array.toList_inj.1 (hT3.trans HPT.out))
                subst hTs
                have hss := str_same T3
                clear hT3
                go_wp2_with fail
                go_ret
                exact ⟨rfl, hb⟩
              · obtain ⟨ce, hce⟩ : ∃ ce, wpErr s = ce := ⟨_, rfl⟩
                rw [hce] at hE
                have hcb : (ce != 0) = true := by simp [hE]
                have HH := hid (wparse_any s U6 (by omega))
                rw [hce] at HH
                go_wp2_with fail
                refine Calls.mono HH.out ?_
                rintro e U7 ⟨nY, vYx, zY, ccY, rfl, oY, wtY, hb2⟩
                have hb3 := bt (Below.refl U6.heap.size U6) hb2
                replace vA := vA.later hb3
                replace vB := vB.later hb3
                replace vX := vX.later hb3
                replace hb := bt hb hb3
                clear hb2 hb3 HH
                obtain ⟨rfl, rfl, rfl⟩ := wtY.bad hE
                obtain ⟨aY, cY, hq⟩ := own_slice' oY
                subst hq
                have sY := Sl.own oY wtY.wd
                clear oY wtY hce hE
                have HH := hid (sameWhole_any false _ [] false _ [] _ (sY.later (show Below U7.heap.size U7 (U7.alloc (.cells #[.bool false, .slice aY 0 cY] 24)) from (alloc_later _ _))) (show Sl (U7.alloc (.cells #[.bool false, .slice aY 0 cY] 24)) (.slice none 0 0) [] from ⟨none, 0, rfl, rfl, Wd.nil, .inl rfl, Nat.le_refl _, Nat.zero_le _, fun _ => rfl⟩) (by simp) (by simp))
                rw [show decide (false = false ∧ ([] : List Int) = []) = true from decide_eq_true ⟨rfl, rfl⟩] at HH
                go_wp2_with fail
                refine Calls.mono HH.out ?_
                rintro e U8 ⟨rfl, hb2⟩
                have hb3 := bt (show Below U7.heap.size U7 (U7.alloc (.cells #[.bool false, .slice aY 0 cY] 24)) from (alloc_later _ _)) hb2
                replace vA := vA.later hb3
                replace vB := vB.later hb3
                replace vX := vX.later hb3
                have vY : Vr U8 U7.heap.size false aY cY ([] : List Int) := Vr.new sY hb2
                clear sY
                replace hb := bt hb hb3
                clear hb2 hb3 HH
                go_wp2_with fail
                go_ret
                exact ⟨rfl, hb⟩
            · have hTT : ¬ T = T2 := fun e => hEQ (HI.out.1 e)
              have hss := str_other hTT
              have HH := hid (sameWhole_any nA _ xA nB _ xB _ (vA.sl.later (Below.refl U5.heap.size U5)) (vB.sl.later (Below.refl U5.heap.size U5)) (by omega) (by omega))
              rw [decide_eq_false hEQ] at HH
              clear hEQ HI
              have iA0 := vA.c0
              have iA1 := vA.c1
              have iAb := vA.box.lt
              have iB0 := vB.c0
              have iB1 := vB.c1
              have iBb := vB.box.lt
              go_wp2_with fail
              refine Calls.mono HH.out ?_
              rintro e U6 ⟨rfl, hb2⟩
              clear iA0 iA1 iAb iB0 iB1 iBb
              have hb3 := bt (Below.refl U5.heap.size U5) hb2
              replace vA := vA.later hb3
              replace vB := vB.later hb3
              replace vX := vX.later hb3
              replace hb := bt hb hb3
              clear hb2 hb3 HH
              by_cases hE : wpErr s = 0
              · have HH := hid (wparse_any s U6 (by omega))
                rw [hE] at HH
                go_wp2_with fail
                refine Calls.mono HH.out ?_
                rintro e U7 ⟨nY, vYx, zY, ccY, rfl, oY, wtY, hb2⟩
                have hb3 := bt (Below.refl U6.heap.size U6) hb2
                replace vA := vA.later hb3
                replace vB := vB.later hb3
                replace vX := vX.later hb3
                replace hb := bt hb hb3
                clear hb2 hb3 HH
                obtain ⟨rfl, hvY⟩ := wtY.good rfl (num_small s hs400 hE).1 (num_small s hs400 hE).2
                obtain ⟨aY, cY, hq⟩ := own_slice' oY
                subst hq
                have sY := Sl.own oY wtY.wd
                have kY := wchk_good wtY.len wtY.trim wtY.sign
                have HPT := hid (parse_text s hE wtY.wd kY hvY)
                clear oY hvY wtY
                have HH := hid (wprint_any nY _ zY _ (sY.later (show Below U7.heap.size U7 (U7.alloc (.cells #[.bool nY, .slice aY zY.length cY] 24)) from (alloc_later _ _))) kY (HTAB.out.later (bt hb (show Below U7.heap.size U7 (U7.alloc (.cells #[.bool nY, .slice aY zY.length cY] 24)) from (alloc_later _ _)))))
                go_wp2_with fail
                refine Calls.mono HH.out ?_
                rintro e U8 ⟨T3, rfl, hT3, hb2⟩
                have hb3 := bt (show Below U7.heap.size U7 (U7.alloc (.cells #[.bool nY, .slice aY zY.length cY] 24)) from (alloc_later _ _)) hb2
                replace vA := vA.later hb3
                replace vB := vB.later hb3
                replace vX := vX.later hb3
                have vY : Vr U8 U7.heap.size nY aY cY zY := Vr.new sY hb2
                clear sY
                replace hb := bt hb hb3
                clear hb2 hb3 HH
                have hTs : T3 = s := ByteArray.ext (Array.toList_inj.1 (hT3.trans HPT.out))
                subst hTs
                have hss := str_same T3
                clear hT3
                go_wp2_with fail
                go_ret
                exact ⟨rfl, hb⟩
              · obtain ⟨ce, hce⟩ : ∃ ce, wpErr s = ce := ⟨_, rfl⟩
                rw [hce] at hE
                have hcb : (ce != 0) = true := by simp [hE]
                have HH := hid (wparse_any s U6 (by omega))
                rw [hce] at HH
                go_wp2_with fail
                refine Calls.mono HH.out ?_
                rintro e U7 ⟨nY, vYx, zY, ccY, rfl, oY, wtY, hb2⟩
                have hb3 := bt (Below.refl U6.heap.size U6) hb2
                replace vA := vA.later hb3
                replace vB := vB.later hb3
                replace vX := vX.later hb3
                replace hb := bt hb hb3
                clear hb2 hb3 HH
                obtain ⟨rfl, rfl, rfl⟩ := wtY.bad hE
                obtain ⟨aY, cY, hq⟩ := own_slice' oY
                subst hq
                have sY := Sl.own oY wtY.wd
                clear oY wtY hce hE
                have HH := hid (sameWhole_any false _ [] false _ [] _ (sY.later (show Below U7.heap.size U7 (U7.alloc (.cells #[.bool false, .slice aY 0 cY] 24)) from (alloc_later _ _))) (show Sl (U7.alloc (.cells #[.bool false, .slice aY 0 cY] 24)) (.slice none 0 0) [] from ⟨none, 0, rfl, rfl, Wd.nil, .inl rfl, Nat.le_refl _, Nat.zero_le _, fun _ => rfl⟩) (by simp) (by simp))
                rw [show decide (false = false ∧ ([] : List Int) = []) = true from decide_eq_true ⟨rfl, rfl⟩] at HH
                go_wp2_with fail
                refine Calls.mono HH.out ?_
                rintro e U8 ⟨rfl, hb2⟩
                have hb3 := bt (show Below U7.heap.size U7 (U7.alloc (.cells #[.bool false, .slice aY 0 cY] 24)) from (alloc_later _ _)) hb2
                replace vA := vA.later hb3
                replace vB := vB.later hb3
                replace vX := vX.later hb3
                have vY : Vr U8 U7.heap.size false aY cY ([] : List Int) := Vr.new sY hb2
                clear sY
                replace hb := bt hb hb3
                clear hb2 hb3 HH
                go_wp2_with fail
                go_ret
                exact ⟨rfl, hb⟩
          · obtain ⟨cb, hcb⟩ : ∃ cb, wchk nB xB = cb := ⟨_, rfl⟩
            have hB' := hB
            rw [hcb] at hB'
            have hcz : (cb == 0) = false := by simp [hB']
            have HH := hid (wprint_err nB _ xB _ (vB.sl.later (show Below U3.heap.size U3 (U3.alloc (.cells #[.bool nX, .slice aX zX.length cX] 24)) from (alloc_later _ _))) (by omega) hB)
            rw [hcb] at HH
            clear hcb hB hB' HT
            have iB0 := vB.c0
            have iB1 := vB.c1
            have iBb := vB.box.lt
            have iB2 := (vB.later (show Below U3.heap.size U3 (U3.alloc (.cells #[.bool nX, .slice aX zX.length cX] 24)) from (alloc_later _ _))).c0
            have iB3 := (vB.later (show Below U3.heap.size U3 (U3.alloc (.cells #[.bool nX, .slice aX zX.length cX] 24)) from (alloc_later _ _))).c1
            go_wp2_with fail
            refine Calls.mono HH.out ?_
            rintro e U4 ⟨rfl, hb2⟩
            clear iB0 iB1 iBb iB2 iB3
            have hb3 := bt (show Below U3.heap.size U3 (U3.alloc (.cells #[.bool nX, .slice aX zX.length cX] 24)) from (alloc_later _ _)) hb2
            replace vA := vA.later hb3
            replace vB := vB.later hb3
            have vX : Vr U4 U3.heap.size nX aX cX zX := Vr.new sX hb2
            clear sX
            replace hb := bt hb hb3
            clear hb2 hb3 HH
            have HH := hid (lawSame_any nX _ zX nA _ xA _ (vX.sl.later (Below.refl U4.heap.size U4)) (vA.sl.later (Below.refl U4.heap.size U4)) kX hA HVX.out)
            have iX0 := vX.c0
            have iX1 := vX.c1
            have iXb := vX.box.lt
            have iA0 := vA.c0
            have iA1 := vA.c1
            have iAb := vA.box.lt
            go_wp2_with fail
            refine Calls.mono HH.out ?_
            rintro e U5 ⟨rfl, hb2⟩
            clear iX0 iX1 iXb iA0 iA1 iAb
            have hb3 := bt (Below.refl U4.heap.size U4) hb2
            replace vA := vA.later hb3
            replace vB := vB.later hb3
            replace vX := vX.later hb3
            replace hb := bt hb hb3
            clear hb2 hb3 HH
            by_cases hE : wpErr s = 0
            · have HH := hid (wparse_any s U5 (by omega))
              rw [hE] at HH
              go_wp2_with fail
              refine Calls.mono HH.out ?_
              rintro e U6 ⟨nY, vYx, zY, ccY, rfl, oY, wtY, hb2⟩
              have hb3 := bt (Below.refl U5.heap.size U5) hb2
              replace vA := vA.later hb3
              replace vB := vB.later hb3
              replace vX := vX.later hb3
              replace hb := bt hb hb3
              clear hb2 hb3 HH
              obtain ⟨rfl, hvY⟩ := wtY.good rfl (num_small s hs400 hE).1 (num_small s hs400 hE).2
              obtain ⟨aY, cY, hq⟩ := own_slice' oY
              subst hq
              have sY := Sl.own oY wtY.wd
              have kY := wchk_good wtY.len wtY.trim wtY.sign
              have HPT := hid (parse_text s hE wtY.wd kY hvY)
              clear oY hvY wtY
              have HH := hid (wprint_any nY _ zY _ (sY.later (show Below U6.heap.size U6 (U6.alloc (.cells #[.bool nY, .slice aY zY.length cY] 24)) from (alloc_later _ _))) kY (HTAB.out.later (bt hb (show Below U6.heap.size U6 (U6.alloc (.cells #[.bool nY, .slice aY zY.length cY] 24)) from (alloc_later _ _)))))
              go_wp2_with fail
              refine Calls.mono HH.out ?_
              rintro e U7 ⟨T3, rfl, hT3, hb2⟩
              have hb3 := bt (show Below U6.heap.size U6 (U6.alloc (.cells #[.bool nY, .slice aY zY.length cY] 24)) from (alloc_later _ _)) hb2
              replace vA := vA.later hb3
              replace vB := vB.later hb3
              replace vX := vX.later hb3
              have vY : Vr U7 U6.heap.size nY aY cY zY := Vr.new sY hb2
              clear sY
              replace hb := bt hb hb3
              clear hb2 hb3 HH
              have hTs : T3 = s := ByteArray.ext (Array.toList_inj.1 (hT3.trans HPT.out))
              subst hTs
              have hss := str_same T3
              clear hT3
              go_wp2_with fail
              go_ret
              exact ⟨rfl, hb⟩
            · obtain ⟨ce, hce⟩ : ∃ ce, wpErr s = ce := ⟨_, rfl⟩
              rw [hce] at hE
              have hcb : (ce != 0) = true := by simp [hE]
              have HH := hid (wparse_any s U5 (by omega))
              rw [hce] at HH
              go_wp2_with fail
              refine Calls.mono HH.out ?_
              rintro e U6 ⟨nY, vYx, zY, ccY, rfl, oY, wtY, hb2⟩
              have hb3 := bt (Below.refl U5.heap.size U5) hb2
              replace vA := vA.later hb3
              replace vB := vB.later hb3
              replace vX := vX.later hb3
              replace hb := bt hb hb3
              clear hb2 hb3 HH
              obtain ⟨rfl, rfl, rfl⟩ := wtY.bad hE
              obtain ⟨aY, cY, hq⟩ := own_slice' oY
              subst hq
              have sY := Sl.own oY wtY.wd
              clear oY wtY hce hE
              have HH := hid (sameWhole_any false _ [] false _ [] _ (sY.later (show Below U6.heap.size U6 (U6.alloc (.cells #[.bool false, .slice aY 0 cY] 24)) from (alloc_later _ _))) (show Sl (U6.alloc (.cells #[.bool false, .slice aY 0 cY] 24)) (.slice none 0 0) [] from ⟨none, 0, rfl, rfl, Wd.nil, .inl rfl, Nat.le_refl _, Nat.zero_le _, fun _ => rfl⟩) (by simp) (by simp))
              rw [show decide (false = false ∧ ([] : List Int) = []) = true from decide_eq_true ⟨rfl, rfl⟩] at HH
              go_wp2_with fail
              refine Calls.mono HH.out ?_
              rintro e U7 ⟨rfl, hb2⟩
              have hb3 := bt (show Below U6.heap.size U6 (U6.alloc (.cells #[.bool false, .slice aY 0 cY] 24)) from (alloc_later _ _)) hb2
              replace vA := vA.later hb3
              replace vB := vB.later hb3
              replace vX := vX.later hb3
              have vY : Vr U7 U6.heap.size false aY cY ([] : List Int) := Vr.new sY hb2
              clear sY
              replace hb := bt hb hb3
              clear hb2 hb3 HH
              go_wp2_with fail
              go_ret
              exact ⟨rfl, hb⟩
        · obtain ⟨ca, hca⟩ : ∃ ca, wchk nA xA = ca := ⟨_, rfl⟩
          have hA' := hA
          rw [hca] at hA'
          have hcz : (ca == 0) = false := by simp [hA']
          have HH := hid (wprint_err nA _ xA _ (vA.sl.later (Below.refl U1.heap.size U1)) (by omega) hA)
          rw [hca] at HH
          clear hca hA hA'
          have iA0 := vA.c0
          have iA1 := vA.c1
          have iAb := vA.box.lt
          have iB0 := vB.c0
          have iB1 := vB.c1
          have iBb := vB.box.lt
          go_wp2_with fail
          refine Calls.mono HH.out ?_
          rintro e U2 ⟨rfl, hb2⟩
          clear iA0 iA1 iAb iB0 iB1 iBb
          have hb3 := bt (Below.refl U1.heap.size U1) hb2
          replace vA := vA.later hb3
          replace vB := vB.later hb3
          replace hb := bt hb hb3
          clear hb2 hb3 HH
          by_cases hE : wpErr s = 0
          · have HH := hid (wparse_any s U2 (by omega))
            rw [hE] at HH
            go_wp2_with fail
            refine Calls.mono HH.out ?_
            rintro e U3 ⟨nY, vYx, zY, ccY, rfl, oY, wtY, hb2⟩
            have hb3 := bt (Below.refl U2.heap.size U2) hb2
            replace vA := vA.later hb3
            replace vB := vB.later hb3
            replace hb := bt hb hb3
            clear hb2 hb3 HH
            obtain ⟨rfl, hvY⟩ := wtY.good rfl (num_small s hs400 hE).1 (num_small s hs400 hE).2
            obtain ⟨aY, cY, hq⟩ := own_slice' oY
            subst hq
            have sY := Sl.own oY wtY.wd
            have kY := wchk_good wtY.len wtY.trim wtY.sign
            have HPT := hid (parse_text s hE wtY.wd kY hvY)
            clear oY hvY wtY
            have HH := hid (wprint_any nY _ zY _ (sY.later (show Below U3.heap.size U3 (U3.alloc (.cells #[.bool nY, .slice aY zY.length cY] 24)) from (alloc_later _ _))) kY (HTAB.out.later (bt hb (show Below U3.heap.size U3 (U3.alloc (.cells #[.bool nY, .slice aY zY.length cY] 24)) from (alloc_later _ _)))))
            go_wp2_with fail
            refine Calls.mono HH.out ?_
            rintro e U4 ⟨T3, rfl, hT3, hb2⟩
            have hb3 := bt (show Below U3.heap.size U3 (U3.alloc (.cells #[.bool nY, .slice aY zY.length cY] 24)) from (alloc_later _ _)) hb2
            replace vA := vA.later hb3
            replace vB := vB.later hb3
            have vY : Vr U4 U3.heap.size nY aY cY zY := Vr.new sY hb2
            clear sY
            replace hb := bt hb hb3
            clear hb2 hb3 HH
            have hTs : T3 = s := ByteArray.ext (Array.toList_inj.1 (hT3.trans HPT.out))
            subst hTs
            have hss := str_same T3
            clear hT3
            go_wp2_with fail
            go_ret
            exact ⟨rfl, hb⟩
          · obtain ⟨ce, hce⟩ : ∃ ce, wpErr s = ce := ⟨_, rfl⟩
            rw [hce] at hE
            have hcb : (ce != 0) = true := by simp [hE]
            have HH := hid (wparse_any s U2 (by omega))
            rw [hce] at HH
            go_wp2_with fail
            refine Calls.mono HH.out ?_
            rintro e U3 ⟨nY, vYx, zY, ccY, rfl, oY, wtY, hb2⟩
            have hb3 := bt (Below.refl U2.heap.size U2) hb2
            replace vA := vA.later hb3
            replace vB := vB.later hb3
            replace hb := bt hb hb3
            clear hb2 hb3 HH
            obtain ⟨rfl, rfl, rfl⟩ := wtY.bad hE
            obtain ⟨aY, cY, hq⟩ := own_slice' oY
            subst hq
            have sY := Sl.own oY wtY.wd
            clear oY wtY hce hE
            have HH := hid (sameWhole_any false _ [] false _ [] _ (sY.later (show Below U3.heap.size U3 (U3.alloc (.cells #[.bool false, .slice aY 0 cY] 24)) from (alloc_later _ _))) (show Sl (U3.alloc (.cells #[.bool false, .slice aY 0 cY] 24)) (.slice none 0 0) [] from ⟨none, 0, rfl, rfl, Wd.nil, .inl rfl, Nat.le_refl _, Nat.zero_le _, fun _ => rfl⟩) (by simp) (by simp))
            rw [show decide (false = false ∧ ([] : List Int) = []) = true from decide_eq_true ⟨rfl, rfl⟩] at HH
            go_wp2_with fail
            refine Calls.mono HH.out ?_
            rintro e U4 ⟨rfl, hb2⟩
            have hb3 := bt (show Below U3.heap.size U3 (U3.alloc (.cells #[.bool false, .slice aY 0 cY] 24)) from (alloc_later _ _)) hb2
            replace vA := vA.later hb3
            replace vB := vB.later hb3
            have vY : Vr U4 U3.heap.size false aY cY ([] : List Int) := Vr.new sY hb2
            clear sY
            replace hb := bt hb hb3
            clear hb2 hb3 HH
            go_wp2_with fail
            go_ret
            exact ⟨rfl, hb⟩

theorem wholeBack_walk (n0 : Bool) (a0 : Option Addr) (k0 c0 : Nat) (x0 : List Int) (n1 : Bool) (a1 : Option Addr) (k1 c1 : Nat) (x1 : List Int) (s : ByteArray) (w : World)
    (h0 : Reads w w.heap.size a0 k0 c0 x0) (h1 : Reads w w.heap.size a1 k1 c1 x1) (h2 : s.size ≤ maxLen) (htab : Tab w) :
    Calls Tryd.prog 4 #[.agg #[.bool n0, .slice a0 k0 c0], .agg #[.bool n1, .slice a1 k1 c1], .string s] w fun e w' => e = .returned (.bool true) ∧ Below w.heap.size w w' := by
  have e0 := h0.1
  have e1 := h1.1
  have b0 : k0 ≤ 9223372036854775807 := by have := h0.2.2.2.1; have := h0.2.2.2.2.1; unfold maxLen at this; omega
  have b1 : k1 ≤ 9223372036854775807 := by have := h1.2.2.2.1; have := h1.2.2.2.2.1; unfold maxLen at this; omega
  subst e0
  subst e1
  exact wholeBack_good n0 a0 c0 x0 n1 a1 c1 x1 s w ⟨_, _, rfl, h0⟩ ⟨_, _, rfl, h1⟩ (by unfold maxLen at h2; omega) b0 b1 htab
end Go.Proofs.YtbcangblmadnpacDoor
