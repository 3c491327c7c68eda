/- My texts on the way to RatioNames, one behind the other: contracts of the program and of the document's answers. -/
import Derived.Test.YtmncfbjoplfikaaGreatDoorJ1
import Derived.Test.YtmncfbjoplfikaaGreatDoorJ4
import Derived.Deep.RegionHeld3
/- RatioNames: chapter 3's examples. -/
namespace Go.Proofs.YtmncfbjoplfikaaGreatDoor
open Go.RowKit Go.Lib
set_option linter.unusedVariables false

set_option maxHeartbeats 12800000 in
set_option maxRecDepth 100000 in
theorem ratioNames_any (w : World) (htab : Tab w) :
    Calls Tryz.prog 3 #[] w fun e w' => e = .returned (.bool true) ∧ Below w.heap.size w w' := by
  have HW0 := hid (Below.refl w.heap.size w)
  have HT : Hid (∀ V, Below w.heap.size w V → Tab V) := fun V hv => htab.later hv
  obtain ⟨M, mk, hM⟩ := rx_make49
  have HM := hid hM
  clear hM
  clear htab
  go_enter Tryz.func3, Tryz.ntmps3
  go_wp2_with fail
  refine Calls.mono (rx_Small 0 (-7) _ (by decide) (by decide) (by decide) (by decide) (by decide) x07) ?_
  rintro x v1 ⟨a1, c1, b1, d1, rfl, S1, hb⟩
  have HW1 := hid (bt HW0.out hb)
  clear HW0
  clear hb
  have Gb1 := hid (Box.made v1 24 #[.bool false, .slice a1 0 c1, .slice b1 1 d1])
  have Lb1 := hid (alloc_later v1 (.cells #[.bool false, .slice a1 0 c1, .slice b1 1 d1] 24))
  obtain ⟨Yb1, hYb1⟩ : ∃ Yb1, v1.alloc (.cells #[.bool false, .slice a1 0 c1, .slice b1 1 d1] 24) = Yb1 := ⟨_, rfl⟩
  rw [hYb1] at Gb1 Lb1
  have HW2 := hid (bt HW1.out Lb1.out)
  have S12 := hid (And.intro (S1.out.1.later Lb1.out) (S1.out.2.later Lb1.out))
  clear HW1 S1
  go_wp2_with fail
  refine Calls.mono (rx_Small0 _) ?_
  rintro x v2 ⟨a2, c2, b2, d2, rfl, hb⟩
  have HW3 := hid (bt HW2.out hb)
  have Hb13 := hid (Gb1.out.later hb Gb1.out.lt)
  have S13 := hid (And.intro (S12.out.1.later hb) (S12.out.2.later hb))
  clear HW2 Gb1 S12
  clear hYb1
  clear hb
  have Gb2 := hid (Box.made v2 24 #[.bool false, .slice a2 0 c2, .slice b2 0 d2])
  have Lb2 := hid (alloc_later v2 (.cells #[.bool false, .slice a2 0 c2, .slice b2 0 d2] 24))
  obtain ⟨Yb2, hYb2⟩ : ∃ Yb2, v2.alloc (.cells #[.bool false, .slice a2 0 c2, .slice b2 0 d2] 24) = Yb2 := ⟨_, rfl⟩
  rw [hYb2] at Gb2 Lb2
  have HW4 := hid (bt HW3.out Lb2.out)
  have Hb14 := hid (Hb13.out.later Lb2.out Hb13.out.lt)
  have S14 := hid (And.intro (S13.out.1.later Lb2.out) (S13.out.2.later Lb2.out))
  clear HW3 Hb13 S13
  go_wp2_with fail
  refine Calls.mono (rx_small (1) (2) _ (by decide) (by decide) (by decide) (by decide) (by decide) x12) ?_
  rintro x v3 ⟨a3, c3, b3, d3, rfl, S3, hb⟩
  have HW5 := hid (bt HW4.out hb)
  have Hb15 := hid (Hb14.out.later hb Hb14.out.lt)
  have Hb25 := hid (Gb2.out.later hb Gb2.out.lt)
  have S15 := hid (And.intro (S14.out.1.later hb) (S14.out.2.later hb))
  clear HW4 Hb14 Gb2 S14
  clear hYb2
  clear hb
  clear Hb25
  go_wp2_with fail
  refine Calls.mono (rx_small (1) (2) _ (by decide) (by decide) (by decide) (by decide) (by decide) x12) ?_
  rintro x v4 ⟨a4, c4, b4, d4, rfl, S4, hb⟩
  have HW6 := hid (bt HW5.out hb)
  have Hb16 := hid (Hb15.out.later hb Hb15.out.lt)
  have S16 := hid (And.intro (S15.out.1.later hb) (S15.out.2.later hb))
  have S36 := hid (And.intro (S3.out.1.later hb) (S3.out.2.later hb))
  clear HW5 Hb15 S15 S3
  clear hb
  go_wp2_with fail
  refine Calls.mono (rx_sub a3 c3 b3 d3 a4 c4 b4 d4 _ S36.out S4.out) ?_
  rintro x v5 ⟨a5, c5, b5, d5, rfl, S5, hb⟩
  have HW7 := hid (bt HW6.out hb)
  have Hb17 := hid (Hb16.out.later hb Hb16.out.lt)
  have S17 := hid (And.intro (S16.out.1.later hb) (S16.out.2.later hb))
  have S37 := hid (And.intro (S36.out.1.later hb) (S36.out.2.later hb))
  have S47 := hid (And.intro (S4.out.1.later hb) (S4.out.2.later hb))
  clear HW6 Hb16 S16 S36 S4
  clear hb
  clear S37
  clear S47
  have Gb5 := hid (Box.made v5 24 #[.bool false, .slice a5 0 c5, .slice b5 1 d5])
  have Lb5 := hid (alloc_later v5 (.cells #[.bool false, .slice a5 0 c5, .slice b5 1 d5] 24))
  obtain ⟨Yb5, hYb5⟩ : ∃ Yb5, v5.alloc (.cells #[.bool false, .slice a5 0 c5, .slice b5 1 d5] 24) = Yb5 := ⟨_, rfl⟩
  rw [hYb5] at Gb5 Lb5
  have HW8 := hid (bt HW7.out Lb5.out)
  have Hb18 := hid (Hb17.out.later Lb5.out Hb17.out.lt)
  have S18 := hid (And.intro (S17.out.1.later Lb5.out) (S17.out.2.later Lb5.out))
  have S58 := hid (And.intro (S5.out.1.later Lb5.out) (S5.out.2.later Lb5.out))
  clear HW7 Hb17 S17 S5
  go_wp2_with fail
  refine Calls.mono (rx_small (-3) (2) _ (by decide) (by decide) (by decide) (by decide) (by decide) xm32) ?_
  rintro x v6 ⟨a6, c6, b6, d6, rfl, S6, hb⟩
  have HW9 := hid (bt HW8.out hb)
  have Hb19 := hid (Hb18.out.later hb Hb18.out.lt)
  have Hb59 := hid (Gb5.out.later hb Gb5.out.lt)
  have S19 := hid (And.intro (S18.out.1.later hb) (S18.out.2.later hb))
  have S59 := hid (And.intro (S58.out.1.later hb) (S58.out.2.later hb))
  clear HW8 Hb18 Gb5 S18 S58
  clear hYb5
  clear hb
  go_wp2_with fail
  refine Calls.mono (rx_small (4) (3) _ (by decide) (by decide) (by decide) (by decide) (by decide) x43) ?_
  rintro x v7 ⟨a7, c7, b7, d7, rfl, S7, hb⟩
  have HW10 := hid (bt HW9.out hb)
  have Hb110 := hid (Hb19.out.later hb Hb19.out.lt)
  have Hb510 := hid (Hb59.out.later hb Hb59.out.lt)
  have S110 := hid (And.intro (S19.out.1.later hb) (S19.out.2.later hb))
  have S510 := hid (And.intro (S59.out.1.later hb) (S59.out.2.later hb))
  have S610 := hid (And.intro (S6.out.1.later hb) (S6.out.2.later hb))
  clear HW9 Hb19 Hb59 S19 S59 S6
  clear hb
  go_wp2_with fail
  refine Calls.mono (rx_mul a6 c6 b6 d6 a7 c7 b7 d7 _ S610.out S7.out) ?_
  rintro x v8 ⟨a8, c8, b8, d8, rfl, S8, hb⟩
  have HW11 := hid (bt HW10.out hb)
  have Hb111 := hid (Hb110.out.later hb Hb110.out.lt)
  have Hb511 := hid (Hb510.out.later hb Hb510.out.lt)
  have S111 := hid (And.intro (S110.out.1.later hb) (S110.out.2.later hb))
  have S511 := hid (And.intro (S510.out.1.later hb) (S510.out.2.later hb))
  have S611 := hid (And.intro (S610.out.1.later hb) (S610.out.2.later hb))
  have S711 := hid (And.intro (S7.out.1.later hb) (S7.out.2.later hb))
  clear HW10 Hb110 Hb510 S110 S510 S610 S7
  clear hb
  clear S611
  clear S711
  have Gb7 := hid (Box.made v8 24 #[.bool true, .slice a8 1 c8, .slice b8 1 d8])
  have Lb7 := hid (alloc_later v8 (.cells #[.bool true, .slice a8 1 c8, .slice b8 1 d8] 24))
  obtain ⟨Yb7, hYb7⟩ : ∃ Yb7, v8.alloc (.cells #[.bool true, .slice a8 1 c8, .slice b8 1 d8] 24) = Yb7 := ⟨_, rfl⟩
  rw [hYb7] at Gb7 Lb7
  have HW12 := hid (bt HW11.out Lb7.out)
  have Hb112 := hid (Hb111.out.later Lb7.out Hb111.out.lt)
  have Hb512 := hid (Hb511.out.later Lb7.out Hb511.out.lt)
  have S112 := hid (And.intro (S111.out.1.later Lb7.out) (S111.out.2.later Lb7.out))
  have S512 := hid (And.intro (S511.out.1.later Lb7.out) (S511.out.2.later Lb7.out))
  have S812 := hid (And.intro (S8.out.1.later Lb7.out) (S8.out.2.later Lb7.out))
  clear HW11 Hb111 Hb511 S111 S511 S8
  have HS3 : Hid (∀ V, Below Yb7.heap.size Yb7 V → V.cell? ⟨v1.heap.size, 0, none⟩ = some (.bool false) ∧ V.cell? ⟨v1.heap.size, 1, none⟩ = some (.slice a1 0 c1) ∧ V.cell? ⟨v1.heap.size, 2, none⟩ = some (.slice b1 1 d1)) := fun V hv => by
    have h := Hb112.out.later hv Hb112.out.lt
    exact ⟨h.cell 0, h.cell 1, h.cell 2⟩
  have HSM : Hid (∀ V, Below Yb7.heap.size Yb7 V → Calls Tryz.prog 6 #[.int .i64 1, .int .i64 1] V fun e w' => ∃ a ca b cb, e = .returned (.agg #[.bool false, .slice a 1 ca, .slice b 1 cb]) ∧ Hid (Sl w' (.slice a 1 ca) [1] ∧ Sl w' (.slice b 1 cb) [1]) ∧ Below V.heap.size V w' ∧ Below Yb7.heap.size Yb7 w') := fun V hv => by
    refine Calls.mono (rx_small 1 1 V (by decide) (by decide) (by decide) (by decide) (by decide) x11) ?_
    rintro x w' ⟨a, ca, b, cb, rfl, s, hb⟩
    exact ⟨a, ca, b, cb, rfl, s, hb, bt hv hb⟩
  have HQU : Hid (∀ V a ca b cb, Below Yb7.heap.size Yb7 V → (Sl V (.slice a 1 ca) [1] ∧ Sl V (.slice b 1 cb) [1]) → Calls Tryz.prog 8 #[.agg #[.bool false, .slice a 1 ca, .slice b 1 cb], .agg #[.bool false, .slice a1 0 c1, .slice b1 1 d1]] V fun e w' => ∃ a ca b cb, e = .returned (.tuple #[.agg #[.bool false, .slice a 0 ca, .slice b 0 cb], .int .i64 7]) ∧ Below V.heap.size V w' ∧ Below Yb7.heap.size Yb7 w') := fun V a ca b cb hv hs => by
    refine Calls.mono (rx_quo0 a ca b cb a1 c1 b1 d1 V hs ⟨S112.out.1.later hv, S112.out.2.later hv⟩) ?_
    rintro x w' ⟨a, ca, b, cb, rfl, hb⟩
    exact ⟨a, ca, b, cb, rfl, hb, bt hv hb⟩
  have HD0 := hid (Below.drew (Below.refl Yb7.heap.size Yb7))
  have hs0 := HS3.out _ HD0.out
  have hlt : v1.heap.size < Yb7.heap.size := Hb112.out.lt
  have n0 : v1.heap.size ≠ Yb7.heap.size := Nat.ne_of_lt hlt
  go_upto_region 5 with fail
  clear hYb7
  go_cut [9, 10] from 56 to 61 (fun s s7 wx => s7 = .int .i64 7 ∧ Hid (Below Yb7.heap.size Yb7 wx))
  case first =>
    go_region_held3 (fun V : World => V.cell? ⟨v1.heap.size, 0, none⟩ = some (.bool false) ∧ V.cell? ⟨v1.heap.size, 1, none⟩ = some (.slice a1 0 c1) ∧ V.cell? ⟨v1.heap.size, 2, none⟩ = some (.slice b1 1 d1)) (first | with_reducible exact hs2 | with_reducible exact hs1 | with_reducible exact hs0 | (refine HS3.out _ ?_; repeat' first | exact hb2 | exact hb1 | exact HD0.out | exact Below.refl _ _ | refine rx_balloc1 ?_ _ | refine Below.drew ?_ | refine rx_put3 ?_ _ ?_ _ _ _ | exact Nat.le_refl _ | exact hb1.size | exact hb2.size | omega))
      (first
        | (go_at_call 6; (with_reducible refine Calls.mono (HSM.out _ (by repeat' first | exact HD0.out | refine rx_balloc1 ?_ _ | refine Below.drew ?_ | exact Below.refl _ _)) ?_); rintro e z1 ⟨a0, ca0, b0, cb0, rfl, HR1, hv1, hb1⟩; obtain ⟨fa1, fa2, fa3⟩ := rx_far hv1; have hs1 := HS3.out z1 hb1; have hl1 := hb1.size)
        | (go_at_call 8; (with_reducible refine Calls.mono (HQU.out _ a0 ca0 b0 cb0 (by first | exact hb1 | exact rx_balloc1 hb1 _) (by first | exact HR1.out | exact ⟨HR1.out.1.later (alloc_later _ _), HR1.out.2.later (alloc_later _ _)⟩)) ?_); rintro e z2 ⟨q1, q2, q3, q4, rfl, hv2, hb2⟩; obtain ⟨fb1, fb2, fb3⟩ := rx_far hv2; have hs2 := HS3.out z2 hb2; have hl2 := hb2.size))
    all_goals
      clear HSM HQU HS3 hs0 hs1 hs2 fa1 fa2 fa3 fb1 fb2 fb3
      go_wp2_with fail
      go_meet
    all_goals
      refine ⟨rfl, hid ?_⟩
      repeat' first | exact hb2 | refine rx_balloc1 ?_ _ | refine rx_put3 ?_ _ ?_ _ _ _ | exact Nat.le_refl _ | exact hl1 | exact hl2 | omega
  case rest =>
    obtain ⟨rfl, hbc⟩ := hcut
    have hbel := hbc.out
    obtain ⟨v9, hww⟩ : ∃ v, wc = v := ⟨_, rfl⟩
    rw [hww] at hbel ⊢
    clear hbc hww wc HS3 HSM HQU HD0 hs0 hlt n0
    have HW13 := hid (bt HW12.out hbel)
    have Hb113 := hid (Hb112.out.later hbel Hb112.out.lt)
    have Hb513 := hid (Hb512.out.later hbel Hb512.out.lt)
    have Hb713 := hid (Gb7.out.later hbel Gb7.out.lt)
    have S113 := hid (And.intro (S112.out.1.later hbel) (S112.out.2.later hbel))
    have S513 := hid (And.intro (S512.out.1.later hbel) (S512.out.2.later hbel))
    have S813 := hid (And.intro (S812.out.1.later hbel) (S812.out.2.later hbel))
    clear HW12 Hb112 Hb512 Gb7 S112 S512 S812
    clear hbel
    have e1 := hid (rx_at1 v9 #[.int .u32 2] 30 (.cells #[.int .u32 4] 30))
    have e2 := hid (rx_at2 v9 #[.int .u32 4] 30 (.cells #[.int .u32 2] 30))
    have hb : Below v9.heap.size v9 ((v9.alloc (.cells #[.int .u32 2] 30)).alloc (.cells #[.int .u32 4] 30)) := bt (alloc_later _ _) (alloc_later _ _)
    obtain ⟨Y6, hYY6⟩ : ∃ Y, (v9.alloc (.cells #[.int .u32 2] 30)).alloc (.cells #[.int .u32 4] 30) = Y := ⟨_, rfl⟩
    rw [hYY6] at e1 e2 hb
    have SP := hid (And.intro (rx_sl_one e1.out (by decide)) (rx_sl_one e2.out (by decide)))
    clear e1 e2
    have HW14 := hid (bt HW13.out hb)
    have Hb114 := hid (Hb113.out.later hb Hb113.out.lt)
    have Hb514 := hid (Hb513.out.later hb Hb513.out.lt)
    have Hb714 := hid (Hb713.out.later hb Hb713.out.lt)
    have S114 := hid (And.intro (S113.out.1.later hb) (S113.out.2.later hb))
    have S514 := hid (And.intro (S513.out.1.later hb) (S513.out.2.later hb))
    have S814 := hid (And.intro (S813.out.1.later hb) (S813.out.2.later hb))
    clear HW13 Hb113 Hb513 Hb713 S113 S513 S813
    clear hb
    have clb1_0 : Y6.cell? ⟨v1.heap.size, 0, none⟩ = some (.bool false) := Hb114.out.cell 0
    have clb1_1 : Y6.cell? ⟨v1.heap.size, 1, none⟩ = some (.slice a1 0 c1) := Hb114.out.cell 1
    have clb1_2 : Y6.cell? ⟨v1.heap.size, 2, none⟩ = some (.slice b1 1 d1) := Hb114.out.cell 2
    go_wp2_with fail
    refine Calls.mono (rx_add_rough _ _ _ _ a1 c1 b1 d1 _ SP.out S114.out) ?_
    rintro x v10 ⟨a11, c11, b11, d11, rfl, hb⟩
    clear clb1_0 clb1_1 clb1_2
    have HW15 := hid (bt HW14.out hb)
    have Hb115 := hid (Hb114.out.later hb Hb114.out.lt)
    have Hb515 := hid (Hb514.out.later hb Hb514.out.lt)
    have Hb715 := hid (Hb714.out.later hb Hb714.out.lt)
    have S115 := hid (And.intro (S114.out.1.later hb) (S114.out.2.later hb))
    have S515 := hid (And.intro (S514.out.1.later hb) (S514.out.2.later hb))
    have S815 := hid (And.intro (S814.out.1.later hb) (S814.out.2.later hb))
    clear HW14 Hb114 Hb514 Hb714 S114 S514 S814
    clear hYY6
    clear hb
    clear SP
    have Gb11 := hid (Box.made v10 24 #[.bool false, .slice a11 0 c11, .slice b11 0 d11])
    have Lb11 := hid (alloc_later v10 (.cells #[.bool false, .slice a11 0 c11, .slice b11 0 d11] 24))
    obtain ⟨Yb11, hYb11⟩ : ∃ Yb11, v10.alloc (.cells #[.bool false, .slice a11 0 c11, .slice b11 0 d11] 24) = Yb11 := ⟨_, rfl⟩
    rw [hYb11] at Gb11 Lb11
    have HW16 := hid (bt HW15.out Lb11.out)
    have Hb116 := hid (Hb115.out.later Lb11.out Hb115.out.lt)
    have Hb516 := hid (Hb515.out.later Lb11.out Hb515.out.lt)
    have Hb716 := hid (Hb715.out.later Lb11.out Hb715.out.lt)
    have S116 := hid (And.intro (S115.out.1.later Lb11.out) (S115.out.2.later Lb11.out))
    have S516 := hid (And.intro (S515.out.1.later Lb11.out) (S515.out.2.later Lb11.out))
    have S816 := hid (And.intro (S815.out.1.later Lb11.out) (S815.out.2.later Lb11.out))
    clear HW15 Hb115 Hb515 Hb715 S115 S515 S815
    have HS3 : Hid (∀ V, Below Yb11.heap.size Yb11 V → V.cell? ⟨v1.heap.size, 0, none⟩ = some (.bool false) ∧ V.cell? ⟨v1.heap.size, 1, none⟩ = some (.slice a1 0 c1) ∧ V.cell? ⟨v1.heap.size, 2, none⟩ = some (.slice b1 1 d1)) := fun V hv => by
      have h := Hb116.out.later hv Hb116.out.lt
      exact ⟨h.cell 0, h.cell 1, h.cell 2⟩
    have HAL : Hid (∀ V g h, Below Yb11.heap.size Yb11 V → Box V g 30 M → Box V h 30 #[.int .u32 1] → Calls Tryz.prog 9 #[.agg #[.bool false, .slice (some ⟨g, 0, none⟩) 2049 2049, .slice (some ⟨h, 0, none⟩) 1 1], .agg #[.bool false, .slice a1 0 c1, .slice b1 1 d1]] V fun e w' => ∃ a ca b cb, e = .returned (.tuple #[.agg #[.bool false, .slice a 0 ca, .slice b 0 cb], .int .i64 3]) ∧ Below V.heap.size V w' ∧ Below Yb11.heap.size Yb11 w') := fun V g h hv hg hh => by
      refine Calls.mono (rx_add_long _ _ _ _ a1 c1 b1 d1 V (HM.out V g hg) (rx_sl_one hh (by decide)) ⟨S116.out.1.later hv, S116.out.2.later hv⟩) ?_
      rintro x w' ⟨a, ca, b, cb, rfl, hb⟩
      exact ⟨a, ca, b, cb, rfl, hb, bt hv hb⟩
    have HD0 := hid (Below.drew (Below.refl Yb11.heap.size Yb11))
    have hs0 := HS3.out _ HD0.out
    go_upto_region 7 with fail
    clear hYb11
    go_cut [13, 14] from 70 to 77 (fun s s7 wx => s7 = .int .i64 3 ∧ Hid (Below Yb11.heap.size Yb11 wx))
    case first =>
      go_region_held3 (fun V : World => V.cell? ⟨v1.heap.size, 0, none⟩ = some (.bool false) ∧ V.cell? ⟨v1.heap.size, 1, none⟩ = some (.slice a1 0 c1) ∧ V.cell? ⟨v1.heap.size, 2, none⟩ = some (.slice b1 1 d1)) (first | with_reducible exact hs2 | with_reducible exact hs1 | with_reducible exact hs0 | (refine HS3.out _ ?_; repeat' first | exact hb2 | exact hb1 | exact HD0.out | exact Below.refl _ _ | refine rx_balloc1 ?_ _ | refine Below.drew ?_ | refine rx_put3 ?_ _ ?_ _ _ _ | exact Nat.le_refl _ | exact hb2.size | omega))
        (first
          | (go_at_call 9; (with_reducible refine Calls.mono (HAL.out _ _ _ (by repeat' first | exact HD0.out | refine rx_balloc1 ?_ _ | refine Below.drew ?_ | exact Below.refl _ _) (by (try with_reducible refine rx_bdrew ?_); first | with_reducible exact rx_at1 _ _ _ _ | with_reducible exact rx_at2 _ _ _ _ | with_reducible exact rx_at1' _ _ _ _ _ | with_reducible exact rx_at2' _ _ _ _ _ | with_reducible exact rx_at3 _ _ _ _ _) (by (try with_reducible refine rx_bdrew ?_); first | with_reducible exact rx_at1 _ _ _ _ | with_reducible exact rx_at2 _ _ _ _ | with_reducible exact rx_at1' _ _ _ _ _ | with_reducible exact rx_at2' _ _ _ _ _ | with_reducible exact rx_at3 _ _ _ _ _)) ?_); rintro e z2 ⟨q1, q2, q3, q4, rfl, hv2, hb2⟩; obtain ⟨fb1, fb2, fb3⟩ := rx_far hv2; have hs2 := HS3.out z2 hb2; have hl2 := hb2.size))
      all_goals
        clear HAL HS3 hs0 hs2 fb1 fb2 fb3
        go_wp2_with fail
        go_meet
      all_goals
        refine ⟨rfl, hid ?_⟩
        repeat' first | exact hb2 | refine rx_balloc1 ?_ _ | refine rx_put3 ?_ _ ?_ _ _ _ | exact Nat.le_refl _ | exact hl2 | omega
    case rest =>
      obtain ⟨rfl, hbc⟩ := hcut
      have hbel := hbc.out
      obtain ⟨v11, hww⟩ : ∃ v, wc = v := ⟨_, rfl⟩
      rw [hww] at hbel ⊢
      clear hbc hww wc HS3 HAL HD0 hs0
      have HW17 := hid (bt HW16.out hbel)
      have Hb117 := hid (Hb116.out.later hbel Hb116.out.lt)
      have Hb517 := hid (Hb516.out.later hbel Hb516.out.lt)
      have Hb717 := hid (Hb716.out.later hbel Hb716.out.lt)
      have Hb1117 := hid (Gb11.out.later hbel Gb11.out.lt)
      have S117 := hid (And.intro (S116.out.1.later hbel) (S116.out.2.later hbel))
      have S517 := hid (And.intro (S516.out.1.later hbel) (S516.out.2.later hbel))
      have S817 := hid (And.intro (S816.out.1.later hbel) (S816.out.2.later hbel))
      clear HW16 Hb116 Hb516 Hb716 Gb11 S116 S516 S816
      clear hbel
      clear Hb1117
      go_wp2_with fail
      refine Calls.mono (rx_Small (-9223372036854775808) 1 _ (by decide) (by decide) (by decide) (by decide) (by decide) xleast) ?_
      rintro x v12 ⟨a15, c15, b15, d15, rfl, S15, hb⟩
      have HW18 := hid (bt HW17.out hb)
      have Hb118 := hid (Hb117.out.later hb Hb117.out.lt)
      have Hb518 := hid (Hb517.out.later hb Hb517.out.lt)
      have Hb718 := hid (Hb717.out.later hb Hb717.out.lt)
      have S118 := hid (And.intro (S117.out.1.later hb) (S117.out.2.later hb))
      have S518 := hid (And.intro (S517.out.1.later hb) (S517.out.2.later hb))
      have S818 := hid (And.intro (S817.out.1.later hb) (S817.out.2.later hb))
      clear HW17 Hb117 Hb517 Hb717 S117 S517 S817
      clear hb
      have Gb15 := hid (Box.made v12 24 #[.bool true, .slice a15 2 c15, .slice b15 1 d15])
      have Lb15 := hid (alloc_later v12 (.cells #[.bool true, .slice a15 2 c15, .slice b15 1 d15] 24))
      obtain ⟨Yb15, hYb15⟩ : ∃ Yb15, v12.alloc (.cells #[.bool true, .slice a15 2 c15, .slice b15 1 d15] 24) = Yb15 := ⟨_, rfl⟩
      rw [hYb15] at Gb15 Lb15
      have HW19 := hid (bt HW18.out Lb15.out)
      have Hb119 := hid (Hb118.out.later Lb15.out Hb118.out.lt)
      have Hb519 := hid (Hb518.out.later Lb15.out Hb518.out.lt)
      have Hb719 := hid (Hb718.out.later Lb15.out Hb718.out.lt)
      have S119 := hid (And.intro (S118.out.1.later Lb15.out) (S118.out.2.later Lb15.out))
      have S519 := hid (And.intro (S518.out.1.later Lb15.out) (S518.out.2.later Lb15.out))
      have S819 := hid (And.intro (S818.out.1.later Lb15.out) (S818.out.2.later Lb15.out))
      have S1519 := hid (And.intro (S15.out.1.later Lb15.out) (S15.out.2.later Lb15.out))
      clear HW18 Hb118 Hb518 Hb718 S118 S518 S818 S15
      have clb1_0 : Yb15.cell? ⟨v1.heap.size, 0, none⟩ = some (.bool false) := Hb119.out.cell 0
      have clb1_1 : Yb15.cell? ⟨v1.heap.size, 1, none⟩ = some (.slice a1 0 c1) := Hb119.out.cell 1
      have clb1_2 : Yb15.cell? ⟨v1.heap.size, 2, none⟩ = some (.slice b1 1 d1) := Hb119.out.cell 2
      go_wp2_with fail
      refine Calls.mono (rx_is false a1 c1 [] b1 d1 [1] 0 1 _ ⟨#[48]⟩ _ S119.out x07 tx0 (HT.out _ HW19.out)) ?_
      rintro x v13 ⟨rfl, hb⟩
      clear clb1_0 clb1_1 clb1_2
      have HW20 := hid (bt HW19.out hb)
      have Hb120 := hid (Hb119.out.later hb Hb119.out.lt)
      have Hb520 := hid (Hb519.out.later hb Hb519.out.lt)
      have Hb720 := hid (Hb719.out.later hb Hb719.out.lt)
      have Hb1520 := hid (Gb15.out.later hb Gb15.out.lt)
      have S120 := hid (And.intro (S119.out.1.later hb) (S119.out.2.later hb))
      have S520 := hid (And.intro (S519.out.1.later hb) (S519.out.2.later hb))
      have S820 := hid (And.intro (S819.out.1.later hb) (S819.out.2.later hb))
      have S1520 := hid (And.intro (S1519.out.1.later hb) (S1519.out.2.later hb))
      clear HW19 Hb119 Hb519 Hb719 Gb15 S119 S519 S819 S1519
      clear hYb15
      clear hb
      have clb5_0 : v13.cell? ⟨v5.heap.size, 0, none⟩ = some (.bool false) := Hb520.out.cell 0
      have clb5_1 : v13.cell? ⟨v5.heap.size, 1, none⟩ = some (.slice a5 0 c5) := Hb520.out.cell 1
      have clb5_2 : v13.cell? ⟨v5.heap.size, 2, none⟩ = some (.slice b5 1 d5) := Hb520.out.cell 2
      go_wp2_with fail
      refine Calls.mono (rx_is false a5 c5 [] b5 d5 [1] 0 1 _ ⟨#[48]⟩ _ S520.out x0s tx0 (HT.out _ HW20.out)) ?_
      rintro x v14 ⟨rfl, hb⟩
      clear clb5_0 clb5_1 clb5_2
      have HW21 := hid (bt HW20.out hb)
      have Hb121 := hid (Hb120.out.later hb Hb120.out.lt)
      have Hb521 := hid (Hb520.out.later hb Hb520.out.lt)
      have Hb721 := hid (Hb720.out.later hb Hb720.out.lt)
      have Hb1521 := hid (Hb1520.out.later hb Hb1520.out.lt)
      have S121 := hid (And.intro (S120.out.1.later hb) (S120.out.2.later hb))
      have S521 := hid (And.intro (S520.out.1.later hb) (S520.out.2.later hb))
      have S821 := hid (And.intro (S820.out.1.later hb) (S820.out.2.later hb))
      have S1521 := hid (And.intro (S1520.out.1.later hb) (S1520.out.2.later hb))
      clear HW20 Hb120 Hb520 Hb720 Hb1520 S120 S520 S820 S1520
      clear hb
      have clb7_0 : v14.cell? ⟨v8.heap.size, 0, none⟩ = some (.bool true) := Hb721.out.cell 0
      have clb7_1 : v14.cell? ⟨v8.heap.size, 1, none⟩ = some (.slice a8 1 c8) := Hb721.out.cell 1
      have clb7_2 : v14.cell? ⟨v8.heap.size, 2, none⟩ = some (.slice b8 1 d8) := Hb721.out.cell 2
      go_wp2_with fail
      refine Calls.mono (rx_is true a8 c8 [2] b8 d8 [1] 1 1 _ ⟨#[45, 50]⟩ _ S821.out xm2 txm2 (HT.out _ HW21.out)) ?_
      rintro x v15 ⟨rfl, hb⟩
      clear clb7_0 clb7_1 clb7_2
      have HW22 := hid (bt HW21.out hb)
      have Hb122 := hid (Hb121.out.later hb Hb121.out.lt)
      have Hb522 := hid (Hb521.out.later hb Hb521.out.lt)
      have Hb722 := hid (Hb721.out.later hb Hb721.out.lt)
      have Hb1522 := hid (Hb1521.out.later hb Hb1521.out.lt)
      have S122 := hid (And.intro (S121.out.1.later hb) (S121.out.2.later hb))
      have S522 := hid (And.intro (S521.out.1.later hb) (S521.out.2.later hb))
      have S822 := hid (And.intro (S821.out.1.later hb) (S821.out.2.later hb))
      have S1522 := hid (And.intro (S1521.out.1.later hb) (S1521.out.2.later hb))
      clear HW21 Hb121 Hb521 Hb721 Hb1521 S121 S521 S821 S1521
      clear hb
      have clb15_0 : v15.cell? ⟨v12.heap.size, 0, none⟩ = some (.bool true) := Hb1522.out.cell 0
      have clb15_1 : v15.cell? ⟨v12.heap.size, 1, none⟩ = some (.slice a15 2 c15) := Hb1522.out.cell 1
      have clb15_2 : v15.cell? ⟨v12.heap.size, 2, none⟩ = some (.slice b15 1 d15) := Hb1522.out.cell 2
      go_wp2_with fail
      refine Calls.mono (rx_is true a15 c15 [0, 2147483648] b15 d15 [1] 2 1 _ ⟨#[45, 57, 50, 50, 51, 51, 55, 50, 48, 51, 54, 56, 53, 52, 55, 55, 53, 56, 48, 56]⟩ _ S1522.out xleast txleast (HT.out _ HW22.out)) ?_
      rintro x v16 ⟨rfl, hb⟩
      clear clb15_0 clb15_1 clb15_2
      have HW23 := hid (bt HW22.out hb)
      have Hb123 := hid (Hb122.out.later hb Hb122.out.lt)
      have Hb523 := hid (Hb522.out.later hb Hb522.out.lt)
      have Hb723 := hid (Hb722.out.later hb Hb722.out.lt)
      have Hb1523 := hid (Hb1522.out.later hb Hb1522.out.lt)
      have S123 := hid (And.intro (S122.out.1.later hb) (S122.out.2.later hb))
      have S523 := hid (And.intro (S522.out.1.later hb) (S522.out.2.later hb))
      have S823 := hid (And.intro (S822.out.1.later hb) (S822.out.2.later hb))
      have S1523 := hid (And.intro (S1522.out.1.later hb) (S1522.out.2.later hb))
      clear HW22 Hb122 Hb522 Hb722 Hb1522 S122 S522 S822 S1522
      clear hb
      clear S123
      clear S523
      clear S823
      clear S1523
      clear Hb123
      clear Hb523
      clear Hb723
      clear Hb1523
      have Gtxt := hid (Box.made v16 9 #[.string ⟨#[]⟩, .string ⟨#[52, 47, 50]⟩, .string ⟨#[51, 47, 49]⟩, .string ⟨#[45, 48]⟩, .string ⟨#[43, 49]⟩, .string ⟨#[49, 47, 48]⟩, .string ⟨#[48, 49]⟩, .string ⟨#[49, 47]⟩, .string ⟨#[47, 50]⟩, .string ⟨#[49, 32, 47, 50]⟩, .string ⟨#[49, 47, 50, 47, 51]⟩, .string ⟨#[48, 47, 53]⟩, .string ⟨#[45, 45, 49]⟩, .string ⟨#[49, 47, 45, 50]⟩, .string ⟨#[45]⟩, .string ⟨#[49, 46, 53]⟩])
      have Ltxt := hid (alloc_later v16 (.cells #[.string ⟨#[]⟩, .string ⟨#[52, 47, 50]⟩, .string ⟨#[51, 47, 49]⟩, .string ⟨#[45, 48]⟩, .string ⟨#[43, 49]⟩, .string ⟨#[49, 47, 48]⟩, .string ⟨#[48, 49]⟩, .string ⟨#[49, 47]⟩, .string ⟨#[47, 50]⟩, .string ⟨#[49, 32, 47, 50]⟩, .string ⟨#[49, 47, 50, 47, 51]⟩, .string ⟨#[48, 47, 53]⟩, .string ⟨#[45, 45, 49]⟩, .string ⟨#[49, 47, 45, 50]⟩, .string ⟨#[45]⟩, .string ⟨#[49, 46, 53]⟩] 9))
      obtain ⟨Ytxt, hYtxt⟩ : ∃ Ytxt, v16.alloc (.cells #[.string ⟨#[]⟩, .string ⟨#[52, 47, 50]⟩, .string ⟨#[51, 47, 49]⟩, .string ⟨#[45, 48]⟩, .string ⟨#[43, 49]⟩, .string ⟨#[49, 47, 48]⟩, .string ⟨#[48, 49]⟩, .string ⟨#[49, 47]⟩, .string ⟨#[47, 50]⟩, .string ⟨#[49, 32, 47, 50]⟩, .string ⟨#[49, 47, 50, 47, 51]⟩, .string ⟨#[48, 47, 53]⟩, .string ⟨#[45, 45, 49]⟩, .string ⟨#[49, 47, 45, 50]⟩, .string ⟨#[45]⟩, .string ⟨#[49, 46, 53]⟩] 9) = Ytxt := ⟨_, rfl⟩
      rw [hYtxt] at Gtxt Ltxt
      have HW24 := hid (bt HW23.out Ltxt.out)
      clear HW23
      go_wp2_with fail
      clear hYtxt
      refine wp_loop_rounds 17 ?_
      rw [rounds_succ]
      have cltxt_0 : Ytxt.cell? ⟨v16.heap.size, 0, none⟩ = some (.string ⟨#[]⟩) := Gtxt.out.cell 0
      go_wp2_with fail
      refine Calls.mono (rx_parse ⟨#[]⟩ _ (by decide) xb0) ?_
      rintro x u0 ⟨at0, ct0, bt0, dt0, rfl, hb⟩
      clear cltxt_0
      have HW25 := hid (bt HW24.out hb)
      have Htxt25 := hid (Gtxt.out.later hb Gtxt.out.lt)
      clear HW24 Gtxt
      clear hb
      have Gbt0 := hid (Box.made u0 24 #[.bool false, .slice at0 0 ct0, .slice bt0 0 dt0])
      have Lbt0 := hid (alloc_later u0 (.cells #[.bool false, .slice at0 0 ct0, .slice bt0 0 dt0] 24))
      obtain ⟨Ybt0, hYbt0⟩ : ∃ Ybt0, u0.alloc (.cells #[.bool false, .slice at0 0 ct0, .slice bt0 0 dt0] 24) = Ybt0 := ⟨_, rfl⟩
      rw [hYbt0] at Gbt0 Lbt0
      have HW26 := hid (bt HW25.out Lbt0.out)
      have Htxt26 := hid (Htxt25.out.later Lbt0.out Htxt25.out.lt)
      clear HW25 Htxt25
      go_wp2_with fail
      clear hYbt0
      clear Gbt0
      rw [rounds_succ]
      have cltxt_1 : Ybt0.cell? ⟨v16.heap.size, 1, none⟩ = some (.string ⟨#[52, 47, 50]⟩) := Htxt26.out.cell 1
      go_wp2_with fail
      refine Calls.mono (rx_parse ⟨#[52, 47, 50]⟩ _ (by decide) xb1) ?_
      rintro x u1 ⟨at1, ct1, bt1, dt1, rfl, hb⟩
      clear cltxt_1
      have HW27 := hid (bt HW26.out hb)
      have Htxt27 := hid (Htxt26.out.later hb Htxt26.out.lt)
      clear HW26 Htxt26
      clear hb
      have Gbt1 := hid (Box.made u1 24 #[.bool false, .slice at1 0 ct1, .slice bt1 0 dt1])
      have Lbt1 := hid (alloc_later u1 (.cells #[.bool false, .slice at1 0 ct1, .slice bt1 0 dt1] 24))
      obtain ⟨Ybt1, hYbt1⟩ : ∃ Ybt1, u1.alloc (.cells #[.bool false, .slice at1 0 ct1, .slice bt1 0 dt1] 24) = Ybt1 := ⟨_, rfl⟩
      rw [hYbt1] at Gbt1 Lbt1
      have HW28 := hid (bt HW27.out Lbt1.out)
      have Htxt28 := hid (Htxt27.out.later Lbt1.out Htxt27.out.lt)
      clear HW27 Htxt27
      go_wp2_with fail
      clear hYbt1
      clear Gbt1
      rw [rounds_succ]
      have cltxt_2 : Ybt1.cell? ⟨v16.heap.size, 2, none⟩ = some (.string ⟨#[51, 47, 49]⟩) := Htxt28.out.cell 2
      go_wp2_with fail
      refine Calls.mono (rx_parse ⟨#[51, 47, 49]⟩ _ (by decide) xb2) ?_
      rintro x u2 ⟨at2, ct2, bt2, dt2, rfl, hb⟩
      clear cltxt_2
      have HW29 := hid (bt HW28.out hb)
      have Htxt29 := hid (Htxt28.out.later hb Htxt28.out.lt)
      clear HW28 Htxt28
      clear hb
      have Gbt2 := hid (Box.made u2 24 #[.bool false, .slice at2 0 ct2, .slice bt2 0 dt2])
      have Lbt2 := hid (alloc_later u2 (.cells #[.bool false, .slice at2 0 ct2, .slice bt2 0 dt2] 24))
      obtain ⟨Ybt2, hYbt2⟩ : ∃ Ybt2, u2.alloc (.cells #[.bool false, .slice at2 0 ct2, .slice bt2 0 dt2] 24) = Ybt2 := ⟨_, rfl⟩
      rw [hYbt2] at Gbt2 Lbt2
      have HW30 := hid (bt HW29.out Lbt2.out)
      have Htxt30 := hid (Htxt29.out.later Lbt2.out Htxt29.out.lt)
      clear HW29 Htxt29
      go_wp2_with fail
      clear hYbt2
      clear Gbt2
      rw [rounds_succ]
      have cltxt_3 : Ybt2.cell? ⟨v16.heap.size, 3, none⟩ = some (.string ⟨#[45, 48]⟩) := Htxt30.out.cell 3
      go_wp2_with fail
      refine Calls.mono (rx_parse ⟨#[45, 48]⟩ _ (by decide) xb3) ?_
      rintro x u3 ⟨at3, ct3, bt3, dt3, rfl, hb⟩
      clear cltxt_3
      have HW31 := hid (bt HW30.out hb)
      have Htxt31 := hid (Htxt30.out.later hb Htxt30.out.lt)
      clear HW30 Htxt30
      clear hb
      have Gbt3 := hid (Box.made u3 24 #[.bool false, .slice at3 0 ct3, .slice bt3 0 dt3])
      have Lbt3 := hid (alloc_later u3 (.cells #[.bool false, .slice at3 0 ct3, .slice bt3 0 dt3] 24))
      obtain ⟨Ybt3, hYbt3⟩ : ∃ Ybt3, u3.alloc (.cells #[.bool false, .slice at3 0 ct3, .slice bt3 0 dt3] 24) = Ybt3 := ⟨_, rfl⟩
      rw [hYbt3] at Gbt3 Lbt3
      have HW32 := hid (bt HW31.out Lbt3.out)
      have Htxt32 := hid (Htxt31.out.later Lbt3.out Htxt31.out.lt)
      clear HW31 Htxt31
      go_wp2_with fail
      clear hYbt3
      clear Gbt3
      rw [rounds_succ]
      have cltxt_4 : Ybt3.cell? ⟨v16.heap.size, 4, none⟩ = some (.string ⟨#[43, 49]⟩) := Htxt32.out.cell 4
      go_wp2_with fail
      refine Calls.mono (rx_parse ⟨#[43, 49]⟩ _ (by decide) xb4) ?_
      rintro x u4 ⟨at4, ct4, bt4, dt4, rfl, hb⟩
      clear cltxt_4
      have HW33 := hid (bt HW32.out hb)
      have Htxt33 := hid (Htxt32.out.later hb Htxt32.out.lt)
      clear HW32 Htxt32
      clear hb
      have Gbt4 := hid (Box.made u4 24 #[.bool false, .slice at4 0 ct4, .slice bt4 0 dt4])
      have Lbt4 := hid (alloc_later u4 (.cells #[.bool false, .slice at4 0 ct4, .slice bt4 0 dt4] 24))
      obtain ⟨Ybt4, hYbt4⟩ : ∃ Ybt4, u4.alloc (.cells #[.bool false, .slice at4 0 ct4, .slice bt4 0 dt4] 24) = Ybt4 := ⟨_, rfl⟩
      rw [hYbt4] at Gbt4 Lbt4
      have HW34 := hid (bt HW33.out Lbt4.out)
      have Htxt34 := hid (Htxt33.out.later Lbt4.out Htxt33.out.lt)
      clear HW33 Htxt33
      go_wp2_with fail
      clear hYbt4
      clear Gbt4
      rw [rounds_succ]
      have cltxt_5 : Ybt4.cell? ⟨v16.heap.size, 5, none⟩ = some (.string ⟨#[49, 47, 48]⟩) := Htxt34.out.cell 5
      go_wp2_with fail
      refine Calls.mono (rx_parse ⟨#[49, 47, 48]⟩ _ (by decide) xb5) ?_
      rintro x u5 ⟨at5, ct5, bt5, dt5, rfl, hb⟩
      clear cltxt_5
      have HW35 := hid (bt HW34.out hb)
      have Htxt35 := hid (Htxt34.out.later hb Htxt34.out.lt)
      clear HW34 Htxt34
      clear hb
      have Gbt5 := hid (Box.made u5 24 #[.bool false, .slice at5 0 ct5, .slice bt5 0 dt5])
      have Lbt5 := hid (alloc_later u5 (.cells #[.bool false, .slice at5 0 ct5, .slice bt5 0 dt5] 24))
      obtain ⟨Ybt5, hYbt5⟩ : ∃ Ybt5, u5.alloc (.cells #[.bool false, .slice at5 0 ct5, .slice bt5 0 dt5] 24) = Ybt5 := ⟨_, rfl⟩
      rw [hYbt5] at Gbt5 Lbt5
      have HW36 := hid (bt HW35.out Lbt5.out)
      have Htxt36 := hid (Htxt35.out.later Lbt5.out Htxt35.out.lt)
      clear HW35 Htxt35
      go_wp2_with fail
      clear hYbt5
      clear Gbt5
      rw [rounds_succ]
      have cltxt_6 : Ybt5.cell? ⟨v16.heap.size, 6, none⟩ = some (.string ⟨#[48, 49]⟩) := Htxt36.out.cell 6
      go_wp2_with fail
      refine Calls.mono (rx_parse ⟨#[48, 49]⟩ _ (by decide) xb6) ?_
      rintro x u6 ⟨at6, ct6, bt6, dt6, rfl, hb⟩
      clear cltxt_6
      have HW37 := hid (bt HW36.out hb)
      have Htxt37 := hid (Htxt36.out.later hb Htxt36.out.lt)
      clear HW36 Htxt36
      clear hb
      have Gbt6 := hid (Box.made u6 24 #[.bool false, .slice at6 0 ct6, .slice bt6 0 dt6])
      have Lbt6 := hid (alloc_later u6 (.cells #[.bool false, .slice at6 0 ct6, .slice bt6 0 dt6] 24))
      obtain ⟨Ybt6, hYbt6⟩ : ∃ Ybt6, u6.alloc (.cells #[.bool false, .slice at6 0 ct6, .slice bt6 0 dt6] 24) = Ybt6 := ⟨_, rfl⟩
      rw [hYbt6] at Gbt6 Lbt6
      have HW38 := hid (bt HW37.out Lbt6.out)
      have Htxt38 := hid (Htxt37.out.later Lbt6.out Htxt37.out.lt)
      clear HW37 Htxt37
      go_wp2_with fail
      clear hYbt6
      clear Gbt6
      rw [rounds_succ]
      have cltxt_7 : Ybt6.cell? ⟨v16.heap.size, 7, none⟩ = some (.string ⟨#[49, 47]⟩) := Htxt38.out.cell 7
      go_wp2_with fail
      refine Calls.mono (rx_parse ⟨#[49, 47]⟩ _ (by decide) xb7) ?_
      rintro x u7 ⟨at7, ct7, bt7, dt7, rfl, hb⟩
      clear cltxt_7
      have HW39 := hid (bt HW38.out hb)
      have Htxt39 := hid (Htxt38.out.later hb Htxt38.out.lt)
      clear HW38 Htxt38
      clear hb
      have Gbt7 := hid (Box.made u7 24 #[.bool false, .slice at7 0 ct7, .slice bt7 0 dt7])
      have Lbt7 := hid (alloc_later u7 (.cells #[.bool false, .slice at7 0 ct7, .slice bt7 0 dt7] 24))
      obtain ⟨Ybt7, hYbt7⟩ : ∃ Ybt7, u7.alloc (.cells #[.bool false, .slice at7 0 ct7, .slice bt7 0 dt7] 24) = Ybt7 := ⟨_, rfl⟩
      rw [hYbt7] at Gbt7 Lbt7
      have HW40 := hid (bt HW39.out Lbt7.out)
      have Htxt40 := hid (Htxt39.out.later Lbt7.out Htxt39.out.lt)
      clear HW39 Htxt39
      go_wp2_with fail
      clear hYbt7
      clear Gbt7
      rw [rounds_succ]
      have cltxt_8 : Ybt7.cell? ⟨v16.heap.size, 8, none⟩ = some (.string ⟨#[47, 50]⟩) := Htxt40.out.cell 8
      go_wp2_with fail
      refine Calls.mono (rx_parse ⟨#[47, 50]⟩ _ (by decide) xb8) ?_
      rintro x u8 ⟨at8, ct8, bt8, dt8, rfl, hb⟩
      clear cltxt_8
      have HW41 := hid (bt HW40.out hb)
      have Htxt41 := hid (Htxt40.out.later hb Htxt40.out.lt)
      clear HW40 Htxt40
      clear hb
      have Gbt8 := hid (Box.made u8 24 #[.bool false, .slice at8 0 ct8, .slice bt8 0 dt8])
      have Lbt8 := hid (alloc_later u8 (.cells #[.bool false, .slice at8 0 ct8, .slice bt8 0 dt8] 24))
      obtain ⟨Ybt8, hYbt8⟩ : ∃ Ybt8, u8.alloc (.cells #[.bool false, .slice at8 0 ct8, .slice bt8 0 dt8] 24) = Ybt8 := ⟨_, rfl⟩
      rw [hYbt8] at Gbt8 Lbt8
      have HW42 := hid (bt HW41.out Lbt8.out)
      have Htxt42 := hid (Htxt41.out.later Lbt8.out Htxt41.out.lt)
      clear HW41 Htxt41
      go_wp2_with fail
      clear hYbt8
      clear Gbt8
      rw [rounds_succ]
      have cltxt_9 : Ybt8.cell? ⟨v16.heap.size, 9, none⟩ = some (.string ⟨#[49, 32, 47, 50]⟩) := Htxt42.out.cell 9
      go_wp2_with fail
      refine Calls.mono (rx_parse ⟨#[49, 32, 47, 50]⟩ _ (by decide) xb9) ?_
      rintro x u9 ⟨at9, ct9, bt9, dt9, rfl, hb⟩
      clear cltxt_9
      have HW43 := hid (bt HW42.out hb)
      have Htxt43 := hid (Htxt42.out.later hb Htxt42.out.lt)
      clear HW42 Htxt42
      clear hb
      have Gbt9 := hid (Box.made u9 24 #[.bool false, .slice at9 0 ct9, .slice bt9 0 dt9])
      have Lbt9 := hid (alloc_later u9 (.cells #[.bool false, .slice at9 0 ct9, .slice bt9 0 dt9] 24))
      obtain ⟨Ybt9, hYbt9⟩ : ∃ Ybt9, u9.alloc (.cells #[.bool false, .slice at9 0 ct9, .slice bt9 0 dt9] 24) = Ybt9 := ⟨_, rfl⟩
      rw [hYbt9] at Gbt9 Lbt9
      have HW44 := hid (bt HW43.out Lbt9.out)
      have Htxt44 := hid (Htxt43.out.later Lbt9.out Htxt43.out.lt)
      clear HW43 Htxt43
      go_wp2_with fail
      clear hYbt9
      clear Gbt9
      rw [rounds_succ]
      have cltxt_10 : Ybt9.cell? ⟨v16.heap.size, 10, none⟩ = some (.string ⟨#[49, 47, 50, 47, 51]⟩) := Htxt44.out.cell 10
      go_wp2_with fail
      refine Calls.mono (rx_parse ⟨#[49, 47, 50, 47, 51]⟩ _ (by decide) xb10) ?_
      rintro x u10 ⟨at10, ct10, bt10, dt10, rfl, hb⟩
      clear cltxt_10
      have HW45 := hid (bt HW44.out hb)
      have Htxt45 := hid (Htxt44.out.later hb Htxt44.out.lt)
      clear HW44 Htxt44
      clear hb
      have Gbt10 := hid (Box.made u10 24 #[.bool false, .slice at10 0 ct10, .slice bt10 0 dt10])
      have Lbt10 := hid (alloc_later u10 (.cells #[.bool false, .slice at10 0 ct10, .slice bt10 0 dt10] 24))
      obtain ⟨Ybt10, hYbt10⟩ : ∃ Ybt10, u10.alloc (.cells #[.bool false, .slice at10 0 ct10, .slice bt10 0 dt10] 24) = Ybt10 := ⟨_, rfl⟩
      rw [hYbt10] at Gbt10 Lbt10
      have HW46 := hid (bt HW45.out Lbt10.out)
      have Htxt46 := hid (Htxt45.out.later Lbt10.out Htxt45.out.lt)
      clear HW45 Htxt45
      go_wp2_with fail
      clear hYbt10
      clear Gbt10
      rw [rounds_succ]
      have cltxt_11 : Ybt10.cell? ⟨v16.heap.size, 11, none⟩ = some (.string ⟨#[48, 47, 53]⟩) := Htxt46.out.cell 11
      go_wp2_with fail
      refine Calls.mono (rx_parse ⟨#[48, 47, 53]⟩ _ (by decide) xb11) ?_
      rintro x u11 ⟨at11, ct11, bt11, dt11, rfl, hb⟩
      clear cltxt_11
      have HW47 := hid (bt HW46.out hb)
      have Htxt47 := hid (Htxt46.out.later hb Htxt46.out.lt)
      clear HW46 Htxt46
      clear hb
      have Gbt11 := hid (Box.made u11 24 #[.bool false, .slice at11 0 ct11, .slice bt11 0 dt11])
      have Lbt11 := hid (alloc_later u11 (.cells #[.bool false, .slice at11 0 ct11, .slice bt11 0 dt11] 24))
      obtain ⟨Ybt11, hYbt11⟩ : ∃ Ybt11, u11.alloc (.cells #[.bool false, .slice at11 0 ct11, .slice bt11 0 dt11] 24) = Ybt11 := ⟨_, rfl⟩
      rw [hYbt11] at Gbt11 Lbt11
      have HW48 := hid (bt HW47.out Lbt11.out)
      have Htxt48 := hid (Htxt47.out.later Lbt11.out Htxt47.out.lt)
      clear HW47 Htxt47
      go_wp2_with fail
      clear hYbt11
      clear Gbt11
      rw [rounds_succ]
      have cltxt_12 : Ybt11.cell? ⟨v16.heap.size, 12, none⟩ = some (.string ⟨#[45, 45, 49]⟩) := Htxt48.out.cell 12
      go_wp2_with fail
      refine Calls.mono (rx_parse ⟨#[45, 45, 49]⟩ _ (by decide) xb12) ?_
      rintro x u12 ⟨at12, ct12, bt12, dt12, rfl, hb⟩
      clear cltxt_12
      have HW49 := hid (bt HW48.out hb)
      have Htxt49 := hid (Htxt48.out.later hb Htxt48.out.lt)
      clear HW48 Htxt48
      clear hb
      have Gbt12 := hid (Box.made u12 24 #[.bool false, .slice at12 0 ct12, .slice bt12 0 dt12])
      have Lbt12 := hid (alloc_later u12 (.cells #[.bool false, .slice at12 0 ct12, .slice bt12 0 dt12] 24))
      obtain ⟨Ybt12, hYbt12⟩ : ∃ Ybt12, u12.alloc (.cells #[.bool false, .slice at12 0 ct12, .slice bt12 0 dt12] 24) = Ybt12 := ⟨_, rfl⟩
      rw [hYbt12] at Gbt12 Lbt12
      have HW50 := hid (bt HW49.out Lbt12.out)
      have Htxt50 := hid (Htxt49.out.later Lbt12.out Htxt49.out.lt)
      clear HW49 Htxt49
      go_wp2_with fail
      clear hYbt12
      clear Gbt12
      rw [rounds_succ]
      have cltxt_13 : Ybt12.cell? ⟨v16.heap.size, 13, none⟩ = some (.string ⟨#[49, 47, 45, 50]⟩) := Htxt50.out.cell 13
      go_wp2_with fail
      refine Calls.mono (rx_parse ⟨#[49, 47, 45, 50]⟩ _ (by decide) xb13) ?_
      rintro x u13 ⟨at13, ct13, bt13, dt13, rfl, hb⟩
      clear cltxt_13
      have HW51 := hid (bt HW50.out hb)
      have Htxt51 := hid (Htxt50.out.later hb Htxt50.out.lt)
      clear HW50 Htxt50
      clear hb
      have Gbt13 := hid (Box.made u13 24 #[.bool false, .slice at13 0 ct13, .slice bt13 0 dt13])
      have Lbt13 := hid (alloc_later u13 (.cells #[.bool false, .slice at13 0 ct13, .slice bt13 0 dt13] 24))
      obtain ⟨Ybt13, hYbt13⟩ : ∃ Ybt13, u13.alloc (.cells #[.bool false, .slice at13 0 ct13, .slice bt13 0 dt13] 24) = Ybt13 := ⟨_, rfl⟩
      rw [hYbt13] at Gbt13 Lbt13
      have HW52 := hid (bt HW51.out Lbt13.out)
      have Htxt52 := hid (Htxt51.out.later Lbt13.out Htxt51.out.lt)
      clear HW51 Htxt51
      go_wp2_with fail
      clear hYbt13
      clear Gbt13
      rw [rounds_succ]
      have cltxt_14 : Ybt13.cell? ⟨v16.heap.size, 14, none⟩ = some (.string ⟨#[45]⟩) := Htxt52.out.cell 14
      go_wp2_with fail
      refine Calls.mono (rx_parse ⟨#[45]⟩ _ (by decide) xb14) ?_
      rintro x u14 ⟨at14, ct14, bt14, dt14, rfl, hb⟩
      clear cltxt_14
      have HW53 := hid (bt HW52.out hb)
      have Htxt53 := hid (Htxt52.out.later hb Htxt52.out.lt)
      clear HW52 Htxt52
      clear hb
      have Gbt14 := hid (Box.made u14 24 #[.bool false, .slice at14 0 ct14, .slice bt14 0 dt14])
      have Lbt14 := hid (alloc_later u14 (.cells #[.bool false, .slice at14 0 ct14, .slice bt14 0 dt14] 24))
      obtain ⟨Ybt14, hYbt14⟩ : ∃ Ybt14, u14.alloc (.cells #[.bool false, .slice at14 0 ct14, .slice bt14 0 dt14] 24) = Ybt14 := ⟨_, rfl⟩
      rw [hYbt14] at Gbt14 Lbt14
      have HW54 := hid (bt HW53.out Lbt14.out)
      have Htxt54 := hid (Htxt53.out.later Lbt14.out Htxt53.out.lt)
      clear HW53 Htxt53
      go_wp2_with fail
      clear hYbt14
      clear Gbt14
      rw [rounds_succ]
      have cltxt_15 : Ybt14.cell? ⟨v16.heap.size, 15, none⟩ = some (.string ⟨#[49, 46, 53]⟩) := Htxt54.out.cell 15
      go_wp2_with fail
      refine Calls.mono (rx_parse ⟨#[49, 46, 53]⟩ _ (by decide) xb15) ?_
      rintro x u15 ⟨at15, ct15, bt15, dt15, rfl, hb⟩
      clear cltxt_15
      have HW55 := hid (bt HW54.out hb)
      have Htxt55 := hid (Htxt54.out.later hb Htxt54.out.lt)
      clear HW54 Htxt54
      clear hb
      have Gbt15 := hid (Box.made u15 24 #[.bool false, .slice at15 0 ct15, .slice bt15 0 dt15])
      have Lbt15 := hid (alloc_later u15 (.cells #[.bool false, .slice at15 0 ct15, .slice bt15 0 dt15] 24))
      obtain ⟨Ybt15, hYbt15⟩ : ∃ Ybt15, u15.alloc (.cells #[.bool false, .slice at15 0 ct15, .slice bt15 0 dt15] 24) = Ybt15 := ⟨_, rfl⟩
      rw [hYbt15] at Gbt15 Lbt15
      have HW56 := hid (bt HW55.out Lbt15.out)
      have Htxt56 := hid (Htxt55.out.later Lbt15.out Htxt55.out.lt)
      clear HW55 Htxt55
      go_wp2_with fail
      clear hYbt15
      clear Gbt15
      rw [rounds_succ]
      clear Htxt56
      go_wp2_with fail
      refine Calls.mono (rx_small (1) (2) _ (by decide) (by decide) (by decide) (by decide) (by decide) x12) ?_
      rintro x s1 ⟨a21, c21, b21, d21, rfl, S21, hb⟩
      have HW57 := hid (bt HW56.out hb)
      clear HW56
      clear hb
      go_wp2_with fail
      refine Calls.mono (rx_small (1) (3) _ (by decide) (by decide) (by decide) (by decide) (by decide) x13) ?_
      rintro x s2 ⟨a22, c22, b22, d22, rfl, S22, hb⟩
      have HW58 := hid (bt HW57.out hb)
      have S2158 := hid (And.intro (S21.out.1.later hb) (S21.out.2.later hb))
      clear HW57 S21
      clear hb
      go_wp2_with fail
      refine Calls.mono (rx_small (1) (6) _ (by decide) (by decide) (by decide) (by decide) (by decide) x16) ?_
      rintro x s3 ⟨a23, c23, b23, d23, rfl, S23, hb⟩
      have HW59 := hid (bt HW58.out hb)
      have S2159 := hid (And.intro (S2158.out.1.later hb) (S2158.out.2.later hb))
      have S2259 := hid (And.intro (S22.out.1.later hb) (S22.out.2.later hb))
      clear HW58 S2158 S22
      clear hb
      have Gbl := hid (Box.made s3 24 #[.bool false, .slice a21 1 c21, .slice b21 1 d21, .bool false, .slice a22 1 c22, .slice b22 1 d22, .bool false, .slice a23 1 c23, .slice b23 1 d23])
      have Lbl := hid (alloc_later s3 (.cells #[.bool false, .slice a21 1 c21, .slice b21 1 d21, .bool false, .slice a22 1 c22, .slice b22 1 d22, .bool false, .slice a23 1 c23, .slice b23 1 d23] 24))
      obtain ⟨Ybl, hYbl⟩ : ∃ Ybl, s3.alloc (.cells #[.bool false, .slice a21 1 c21, .slice b21 1 d21, .bool false, .slice a22 1 c22, .slice b22 1 d22, .bool false, .slice a23 1 c23, .slice b23 1 d23] 24) = Ybl := ⟨_, rfl⟩
      rw [hYbl] at Gbl Lbl
      have HW60 := hid (bt HW59.out Lbl.out)
      have S2160 := hid (And.intro (S2159.out.1.later Lbl.out) (S2159.out.2.later Lbl.out))
      have S2260 := hid (And.intro (S2259.out.1.later Lbl.out) (S2259.out.2.later Lbl.out))
      have S2360 := hid (And.intro (S23.out.1.later Lbl.out) (S23.out.2.later Lbl.out))
      clear HW59 S2159 S2259 S23
      go_wp2_with fail
      refine Calls.mono (rx_sum3 _ a21 c21 b21 d21 a22 c22 b22 d22 a23 c23 b23 d23 _ Gbl.out S2160.out S2260.out S2360.out) ?_
      rintro x s4 ⟨a24, c24, b24, d24, rfl, S24, hb⟩
      have HW61 := hid (bt HW60.out hb)
      have Hbl61 := hid (Gbl.out.later hb Gbl.out.lt)
      have S2161 := hid (And.intro (S2160.out.1.later hb) (S2160.out.2.later hb))
      have S2261 := hid (And.intro (S2260.out.1.later hb) (S2260.out.2.later hb))
      have S2361 := hid (And.intro (S2360.out.1.later hb) (S2360.out.2.later hb))
      clear HW60 Gbl S2160 S2260 S2360
      clear hYbl
      clear hb
      clear S2161
      clear S2261
      clear S2361
      clear Hbl61
      have e1 := hid (rx_at1 s4 #[.bool false, .slice a24 1 c24, .slice b24 1 d24] 24 (.cells #[.int .i64 0, .int .i64 0] 35))
      have e2 := hid (rx_at2 s4 #[.int .i64 0, .int .i64 0] 35 (.cells #[.bool false, .slice a24 1 c24, .slice b24 1 d24] 24))
      have hb : Below s4.heap.size s4 ((s4.alloc (.cells #[.bool false, .slice a24 1 c24, .slice b24 1 d24] 24)).alloc (.cells #[.int .i64 0, .int .i64 0] 35)) := bt (alloc_later _ _) (alloc_later _ _)
      obtain ⟨s5, hYs5⟩ : ∃ Y, (s4.alloc (.cells #[.bool false, .slice a24 1 c24, .slice b24 1 d24] 24)).alloc (.cells #[.int .i64 0, .int .i64 0] 35) = Y := ⟨_, rfl⟩
      rw [hYs5] at e1 e2 hb
      have HW62 := hid (bt HW61.out hb)
      have S2462 := hid (And.intro (S24.out.1.later hb) (S24.out.2.later hb))
      clear HW61 S24
      clear hb
      have HBr24 := e1
      have HBf24 := e2
      clear e1 e2
      obtain ⟨⟨zk0, zk1⟩, ⟨zf0, zf1⟩, zs0, zs1⟩ := rx_zero2 HBf24.out
      go_wp2_with fail
      refine Calls.mono (rx_small (1) (1) _ (by decide) (by decide) (by decide) (by decide) (by decide) x11) ?_
      rintro x s6 ⟨a25, c25, b25, d25, rfl, S25, hb⟩
      have HW63 := hid (bt HW62.out hb)
      have Hbr2463 := hid (HBr24.out.later hb HBr24.out.lt)
      have Hbf2463 := hid (HBf24.out.later hb HBf24.out.lt)
      have S2463 := hid (And.intro (S2462.out.1.later hb) (S2462.out.2.later hb))
      clear HW62 HBr24 HBf24 S2462
      clear zk0 zk1 zf0 zf1 zs0 zs1
      clear hYs5
      clear hb
      have Go1 := hid (Box.made s6 30 #[.int .u32 1])
      have Lo1 := hid (alloc_later s6 (.cells #[.int .u32 1] 30))
      obtain ⟨Yo1, hYo1⟩ : ∃ Yo1, s6.alloc (.cells #[.int .u32 1] 30) = Yo1 := ⟨_, rfl⟩
      rw [hYo1] at Go1 Lo1
      have HW64 := hid (bt HW63.out Lo1.out)
      have Hbr2464 := hid (Hbr2463.out.later Lo1.out Hbr2463.out.lt)
      have Hbf2464 := hid (Hbf2463.out.later Lo1.out Hbf2463.out.lt)
      have S2464 := hid (And.intro (S2463.out.1.later Lo1.out) (S2463.out.2.later Lo1.out))
      have S2564 := hid (And.intro (S25.out.1.later Lo1.out) (S25.out.2.later Lo1.out))
      clear HW63 Hbr2463 Hbf2463 S2463 S25
      have SO := hid (rx_sl_one Go1.out (by decide))
      have Gm := hid (Box.made Yo1 24 #[.bool false, .slice a25 1 c25, .slice b25 1 d25, .bool false, .slice (some ⟨s6.heap.size, 0, none⟩) 1 1, .slice none 0 0])
      have Lm := hid (alloc_later Yo1 (.cells #[.bool false, .slice a25 1 c25, .slice b25 1 d25, .bool false, .slice (some ⟨s6.heap.size, 0, none⟩) 1 1, .slice none 0 0] 24))
      obtain ⟨Ym, hYm⟩ : ∃ Ym, Yo1.alloc (.cells #[.bool false, .slice a25 1 c25, .slice b25 1 d25, .bool false, .slice (some ⟨s6.heap.size, 0, none⟩) 1 1, .slice none 0 0] 24) = Ym := ⟨_, rfl⟩
      rw [hYm] at Gm Lm
      have HW65 := hid (bt HW64.out Lm.out)
      have Hbr2465 := hid (Hbr2464.out.later Lm.out Hbr2464.out.lt)
      have Hbf2465 := hid (Hbf2464.out.later Lm.out Hbf2464.out.lt)
      have Ho165 := hid (Go1.out.later Lm.out Go1.out.lt)
      have S2465 := hid (And.intro (S2464.out.1.later Lm.out) (S2464.out.2.later Lm.out))
      have S2565 := hid (And.intro (S2564.out.1.later Lm.out) (S2564.out.2.later Lm.out))
      have So65 := hid (SO.out.later Lm.out)
      clear HW64 Hbr2464 Hbf2464 Go1 S2464 S2564 SO
      go_wp2_with fail
      refine Calls.mono (rx_sum2 _ a25 c25 b25 d25 _ _ Gm.out S2565.out So65.out) ?_
      rintro x s7 ⟨a26, c26, b26, d26, rfl, hb⟩
      have HW66 := hid (bt HW65.out hb)
      have Hbr2466 := hid (Hbr2465.out.later hb Hbr2465.out.lt)
      have Hbf2466 := hid (Hbf2465.out.later hb Hbf2465.out.lt)
      have Ho166 := hid (Ho165.out.later hb Ho165.out.lt)
      have Hm66 := hid (Gm.out.later hb Gm.out.lt)
      have S2466 := hid (And.intro (S2465.out.1.later hb) (S2465.out.2.later hb))
      have S2566 := hid (And.intro (S2565.out.1.later hb) (S2565.out.2.later hb))
      have So66 := hid (So65.out.later hb)
      clear HW65 Hbr2465 Hbf2465 Ho165 Gm S2465 S2565 So65
      clear hYm
      clear hYo1
      clear hb
      clear S2566
      clear So66
      clear Hm66 Ho166
      have e1 := hid (rx_at1 s7 #[.bool false, .slice a26 0 c26, .slice b26 0 d26] 24 (.cells #[.int .i64 11, .int .i64 1] 35))
      have e2 := hid (rx_at2 s7 #[.int .i64 11, .int .i64 1] 35 (.cells #[.bool false, .slice a26 0 c26, .slice b26 0 d26] 24))
      have hb : Below s7.heap.size s7 ((s7.alloc (.cells #[.bool false, .slice a26 0 c26, .slice b26 0 d26] 24)).alloc (.cells #[.int .i64 11, .int .i64 1] 35)) := bt (alloc_later _ _) (alloc_later _ _)
      obtain ⟨s8, hYs8⟩ : ∃ Y, (s7.alloc (.cells #[.bool false, .slice a26 0 c26, .slice b26 0 d26] 24)).alloc (.cells #[.int .i64 11, .int .i64 1] 35) = Y := ⟨_, rfl⟩
      rw [hYs8] at e1 e2 hb
      have HW67 := hid (bt HW66.out hb)
      have Hbr2467 := hid (Hbr2466.out.later hb Hbr2466.out.lt)
      have Hbf2467 := hid (Hbf2466.out.later hb Hbf2466.out.lt)
      have S2467 := hid (And.intro (S2466.out.1.later hb) (S2466.out.2.later hb))
      clear HW66 Hbr2466 Hbf2466 S2466
      clear hb
      have HBr26 := e1
      have HBf26 := e2
      clear e1 e2
      have HEF := fun a b V => rxFault a b V
      have clbf24_0 : s8.cell? ⟨s4.heap.size + 1, 0, none⟩ = some (.int .i64 0) := Hbf2467.out.cell 0
      have clbf24_1 : s8.cell? ⟨s4.heap.size + 1, 1, none⟩ = some (.int .i64 0) := Hbf2467.out.cell 1
      have clbr24_0 : s8.cell? ⟨s4.heap.size, 0, none⟩ = some (.bool false) := Hbr2467.out.cell 0
      have clbr24_1 : s8.cell? ⟨s4.heap.size, 1, none⟩ = some (.slice a24 1 c24) := Hbr2467.out.cell 1
      have clbr24_2 : s8.cell? ⟨s4.heap.size, 2, none⟩ = some (.slice b24 1 d24) := Hbr2467.out.cell 2
      go_wp2_with fail
      refine Calls.mono (rx_is false a24 c24 [1] b24 d24 [1] 1 1 _ ⟨#[49]⟩ _ S2467.out x11 tx1 (HT.out _ HW67.out)) ?_
      rintro x s9 ⟨rfl, hb⟩
      clear clbf24_0 clbf24_1 clbr24_0 clbr24_1 clbr24_2
      have HW68 := hid (bt HW67.out hb)
      have Hbr2468 := hid (Hbr2467.out.later hb Hbr2467.out.lt)
      have Hbf2468 := hid (Hbf2467.out.later hb Hbf2467.out.lt)
      have Hbr2668 := hid (HBr26.out.later hb HBr26.out.lt)
      have Hbf2668 := hid (HBf26.out.later hb HBf26.out.lt)
      have S2468 := hid (And.intro (S2467.out.1.later hb) (S2467.out.2.later hb))
      clear HW67 Hbr2467 Hbf2467 HBr26 HBf26 S2467
      clear hYs8
      clear hb
      clear S2468
      have clbf26_0 : s9.cell? ⟨s7.heap.size + 1, 0, none⟩ = some (.int .i64 11) := Hbf2668.out.cell 0
      have clbf26_1 : s9.cell? ⟨s7.heap.size + 1, 1, none⟩ = some (.int .i64 1) := Hbf2668.out.cell 1
      have e1 := hid (rx_at1 s9 #[.int .i64 7, .int .i64 2, .int .i64 (-7), .int .i64 2, .int .i64 (-3), .int .i64 1, .int .i64 0, .int .i64 1, .int .i64 (-1), .int .i64 5] 2 (.cells #[.int .i64 3, .int .i64 (-4), .int .i64 (-3), .int .i64 0, .int .i64 (-1)] 2))
      have e2 := hid (rx_at2 s9 #[.int .i64 3, .int .i64 (-4), .int .i64 (-3), .int .i64 0, .int .i64 (-1)] 2 (.cells #[.int .i64 7, .int .i64 2, .int .i64 (-7), .int .i64 2, .int .i64 (-3), .int .i64 1, .int .i64 0, .int .i64 1, .int .i64 (-1), .int .i64 5] 2))
      have hb : Below s9.heap.size s9 ((s9.alloc (.cells #[.int .i64 7, .int .i64 2, .int .i64 (-7), .int .i64 2, .int .i64 (-3), .int .i64 1, .int .i64 0, .int .i64 1, .int .i64 (-1), .int .i64 5] 2)).alloc (.cells #[.int .i64 3, .int .i64 (-4), .int .i64 (-3), .int .i64 0, .int .i64 (-1)] 2)) := bt (alloc_later _ _) (alloc_later _ _)
      obtain ⟨Yf, hYf⟩ : ∃ Y, (s9.alloc (.cells #[.int .i64 7, .int .i64 2, .int .i64 (-7), .int .i64 2, .int .i64 (-3), .int .i64 1, .int .i64 0, .int .i64 1, .int .i64 (-1), .int .i64 5] 2)).alloc (.cells #[.int .i64 3, .int .i64 (-4), .int .i64 (-3), .int .i64 0, .int .i64 (-1)] 2) = Y := ⟨_, rfl⟩
      rw [hYf] at e1 e2 hb
      have HW69 := hid (bt HW68.out hb)
      have Hbr2469 := hid (Hbr2468.out.later hb Hbr2468.out.lt)
      have Hbf2469 := hid (Hbf2468.out.later hb Hbf2468.out.lt)
      have Hbr2669 := hid (Hbr2668.out.later hb Hbr2668.out.lt)
      have Hbf2669 := hid (Hbf2668.out.later hb Hbf2668.out.lt)
      clear HW68 Hbr2468 Hbf2468 Hbr2668 Hbf2668
      clear hb
      have HBfl := e1
      have HBwt := e2
      clear e1 e2
      go_wp2_with fail
      clear hYf clbf26_0 clbf26_1
      clear Hbf2469 Hbr2469 Hbf2669 Hbr2669
      refine wp_loop_rounds 6 ?_
      rw [rounds_succ]
      have KX : Hid (RXn false [7] 1 [2] 1 (Rat.divInt (7) (2))) := (xk_lit false 7 2 _ (by decide) (by decide) (by decide) (by decide +kernel))
      have LW : Hid (RxW (3) false [3] 1) := (rxw1 false 3 (3) (by decide) (by decide))
      have KR : Hid (RXn false [3] 1 [1] 1 (Rat.divInt (3) 1)) := (xk_lit false 3 1 _ (by decide) (by decide) (by decide) (by decide +kernel))
      have HS3 : Hid (∀ V, Below Yf.heap.size Yf V → V.cell? ⟨s9.heap.size, 0, none⟩ = some (.int .i64 7) ∧ V.cell? ⟨s9.heap.size, 1, none⟩ = some (.int .i64 2)) := fun V hv => ⟨(HBfl.out.later hv HBfl.out.lt).cell 0, (HBfl.out.later hv HBfl.out.lt).cell 1⟩
      have HSM : Hid (∀ V, Below Yf.heap.size Yf V → Calls Tryz.prog 6 #[.int .i64 7, .int .i64 2] V fun e w' => ∃ a ca b cb, e = .returned (.agg #[.bool false, .slice a 1 ca, .slice b 1 cb]) ∧ Hid (Sl w' (.slice a 1 ca) [7] ∧ Sl w' (.slice b 1 cb) [2]) ∧ Below V.heap.size V w' ∧ Below Yf.heap.size Yf w') := fun V hv => by
        refine Calls.mono (rx_small (7) (2) V (by decide) (by decide) (by decide) (by decide) (by decide) KX.out) ?_
        rintro x w' ⟨a, ca, b, cb, rfl, s, hb⟩
        exact ⟨a, ca, b, cb, rfl, s, hb, bt hv hb⟩
      have HFL := hid (fun V a ca b cb hv s => rx_floor_reg Yf KX.out LW.out (by decide) V a ca b cb hv s)
      have HD0 := hid (Below.drew (Below.refl Yf.heap.size Yf))
      have hs0 := HS3.out _ HD0.out
      have hw1 : IntKind.i64.wrap (2 * 0) = 0 := by decide
      have hw2 : IntKind.i64.wrap (0 + 1) = 1 := by decide
      have hw3 : IntKind.i64.wrap 0 = 0 := by decide
      have hw4 : IntKind.i64.wrap 1 = 1 := by decide
      go_upto_region 27 with fail
      go_cut [28, 29] from 174 to 189 (fun s28 s29 wx => Hid (RxCut Yf false [3] 1 s28 s29 wx))
      case first =>
        go_region_held3 (fun V : World => V.cell? ⟨s9.heap.size, 0, none⟩ = some (.int .i64 7) ∧ V.cell? ⟨s9.heap.size, 1, none⟩ = some (.int .i64 2)) (first | with_reducible exact hs2 | with_reducible exact hs1 | with_reducible exact hs0 | (refine HS3.out _ ?_; repeat' first | exact hb2 | exact hb1 | exact HD0.out | exact Below.refl _ _ | refine rx_balloc1 ?_ _ | refine Below.drew ?_ | refine below_put2 ?_ _ ?_ _ _ | exact Nat.le_refl _ | exact hb1.size | exact hb2.size | omega))
          (first
            | (go_at_call 6; (with_reducible refine Calls.mono (HSM.out _ (by repeat' first | exact HD0.out | refine rx_balloc1 ?_ _ | refine Below.drew ?_ | exact Below.refl _ _)) ?_); rintro e z1 ⟨a0, ca0, b0, cb0, rfl, HR1, hv1, hb1⟩; obtain ⟨fa1, fa2, fa3⟩ := rx_far hv1; have hs1 := HS3.out z1 hb1; have hl1 := hb1.size)
            | (go_at_call 13; (with_reducible refine Calls.mono (HFL.out _ a0 ca0 b0 cb0 (by first | exact hb1 | exact rx_balloc1 hb1 _) (by first | exact HR1.out | exact ⟨HR1.out.1.later (alloc_later _ _), HR1.out.2.later (alloc_later _ _)⟩)) ?_); rintro e z2 ⟨q1, q2, rfl, hb2, hv2, HR2⟩; obtain ⟨fb1, fb2, fb3⟩ := rx_far hv2; have hs2 := HS3.out z2 hb2; have hl2 := hb2.size))
        all_goals
          clear HSM HFL HS3 hs0 hs1 hs2 fa1 fa2 fa3 fb1 fb2 fb3
          go_wp2_with fail
          go_meet
        all_goals first | with_reducible exact hid (rx_new hb2 HR2.out) | with_reducible exact hid (rx_old hb2 HR2.out ((Box.made z1 _ _).later hv2 (Box.made z1 _ _).lt) hl1) | exact hid (rx_old hb2 HR2.out (((Box.made Yf.drew _ _).later hv1 (Box.made Yf.drew _ _).lt).later hv2 ((Box.made Yf.drew _ _).later hv1 (Box.made Yf.drew _ _).lt).lt) (Nat.le_refl _)) | exact hid (rx_old hb2 HR2.out (((Box.made Yf _ _).later hv1 (Box.made Yf _ _).lt).later hv2 ((Box.made Yf _ _).later hv1 (Box.made Yf _ _).lt).lt) (Nat.le_refl _))
      case rest =>
        obtain ⟨p28, aw, cw, rfl, rfl, hpb, hrow⟩ := hcut.out.ex
        have hbel := hcut.out.bel
        have Slow := hid (Sl.own hrow LW.out.wd)
        have Glow := hid hpb
        obtain ⟨r0a, hww⟩ : ∃ v, wc = v := ⟨_, rfl⟩
        rw [hww] at hbel Slow Glow ⊢
        clear hcut hrow hpb hww HS3 HSM HFL HD0 hs0 hw1 hw2 hw3 hw4 wc
        have Slow : Hid (Sl r0a (.slice aw 1 cw) [3]) := Slow
        have HW70 := hid (bt HW69.out hbel)
        have Hfl70 := hid (HBfl.out.later hbel HBfl.out.lt)
        have Hwt70 := hid (HBwt.out.later hbel HBwt.out.lt)
        clear HW69 HBfl HBwt
        clear hbel
        have cllow_0 : r0a.cell? ⟨p28, 0, none⟩ = some (.bool false) := Glow.out.cell 0
        have cllow_1 : r0a.cell? ⟨p28, 1, none⟩ = some (.slice aw 1 cw) := Glow.out.cell 1
        have Gone := hid (Box.made r0a 30 #[.int .u32 1])
        have Lone := hid (alloc_later r0a (.cells #[.int .u32 1] 30))
        obtain ⟨Yone, hYone⟩ : ∃ Yone, r0a.alloc (.cells #[.int .u32 1] 30) = Yone := ⟨_, rfl⟩
        rw [hYone] at Gone Lone
        have HW71 := hid (bt HW70.out Lone.out)
        have Hfl71 := hid (Hfl70.out.later Lone.out Hfl70.out.lt)
        have Hwt71 := hid (Hwt70.out.later Lone.out Hwt70.out.lt)
        have Hlow71 := hid (Glow.out.later Lone.out Glow.out.lt)
        have Slow71 := hid (Slow.out.later Lone.out)
        clear HW70 Hfl70 Hwt70 Glow Slow
        have SO := hid (rx_sl_one Gone.out (by decide))
        go_wp2_with fail
        refine Calls.mono (rx_made LW.out KR.out aw cw _ _ _ Slow71.out SO.out) ?_
        rintro x r0b ⟨a, c, b, d, rfl, Sr, hb⟩
        clear hYone cllow_0 cllow_1
        have HW72 := hid (bt HW71.out hb)
        have Hfl72 := hid (Hfl71.out.later hb Hfl71.out.lt)
        have Hwt72 := hid (Hwt71.out.later hb Hwt71.out.lt)
        have Hlow72 := hid (Hlow71.out.later hb Hlow71.out.lt)
        have Hone72 := hid (Gone.out.later hb Gone.out.lt)
        have Slow72 := hid (Slow71.out.later hb)
        have So72 := hid (SO.out.later hb)
        clear HW71 Hfl71 Hwt71 Hlow71 Gone Slow71 SO
        clear hb
        clear So72
        clear Slow72
        clear Hone72 Hlow72 LW
        have Gr30 := hid (Box.made r0b 24 #[.bool false, .slice a 1 c, .slice b 1 d])
        have Lr30 := hid (alloc_later r0b (.cells #[.bool false, .slice a 1 c, .slice b 1 d] 24))
        obtain ⟨Yr30, hYr30⟩ : ∃ Yr30, r0b.alloc (.cells #[.bool false, .slice a 1 c, .slice b 1 d] 24) = Yr30 := ⟨_, rfl⟩
        rw [hYr30] at Gr30 Lr30
        have HW73 := hid (bt HW72.out Lr30.out)
        have Hfl73 := hid (Hfl72.out.later Lr30.out Hfl72.out.lt)
        have Hwt73 := hid (Hwt72.out.later Lr30.out Hwt72.out.lt)
        have Sr73 := hid (And.intro (Sr.out.1.later Lr30.out) (Sr.out.2.later Lr30.out))
        clear HW72 Hfl72 Hwt72 Sr
        have HK : Hid (∀ V, Below Yr30.heap.size Yr30 V → V.cell? ⟨r0b.heap.size, 0, none⟩ = some (.bool false) ∧ V.cell? ⟨r0b.heap.size, 1, none⟩ = some (.slice a 1 c) ∧ V.cell? ⟨r0b.heap.size, 2, none⟩ = some (.slice b 1 d) ∧ V.cell? ⟨s9.heap.size + 1, 0, none⟩ = some (.int .i64 3)) := fun V hv => by
          have h := Gr30.out.later hv Gr30.out.lt
          exact ⟨h.cell 0, h.cell 1, h.cell 2, (Hwt73.out.later hv Hwt73.out.lt).cell 0⟩
        have HD := hid (Below.drew (Below.refl Yr30.heap.size Yr30))
        have hs0 := HK.out _ HD.out
        have HS2 : Hid (∀ V, Below Yr30.heap.size Yr30 V → Calls Tryz.prog 6 #[.int .i64 3, .int .i64 1] V fun e w' => ∃ a' c' b' d', e = .returned (.agg #[.bool false, .slice a' 1 c', .slice b' 1 d']) ∧ (w'.cell? ⟨r0b.heap.size, 0, none⟩ = some (.bool false) ∧ w'.cell? ⟨r0b.heap.size, 1, none⟩ = some (.slice a 1 c) ∧ w'.cell? ⟨r0b.heap.size, 2, none⟩ = some (.slice b 1 d) ∧ w'.cell? ⟨s9.heap.size + 1, 0, none⟩ = some (.int .i64 3)) ∧ Hid (Sl w' (.slice a' 1 c') [3] ∧ Sl w' (.slice b' 1 d') [1]) ∧ Hid (Below Yr30.heap.size Yr30 w')) := fun V hv => by
          refine Calls.mono (rx_small (3) 1 V (by decide) (by decide) (by decide) (by decide) (by decide) KR.out) ?_
          rintro e w' ⟨a', c', b', d', rfl, s, hb⟩
          exact ⟨a', c', b', d', rfl, HK.out w' (bt hv hb), s.out, bt hv hb⟩
        have HSM : Hid (∀ V a' c' b' d', Below Yr30.heap.size Yr30 V → (Sl V (.slice a' 1 c') [3] ∧ Sl V (.slice b' 1 d') [1]) → Calls Tryz.prog 15 #[.agg #[.bool false, .slice a 1 c, .slice b 1 d], .agg #[.bool false, .slice a' 1 c', .slice b' 1 d']] V fun e w' => e = .returned (.bool true) ∧ (w'.cell? ⟨r0b.heap.size, 0, none⟩ = some (.bool false) ∧ w'.cell? ⟨r0b.heap.size, 1, none⟩ = some (.slice a 1 c) ∧ w'.cell? ⟨r0b.heap.size, 2, none⟩ = some (.slice b 1 d) ∧ w'.cell? ⟨s9.heap.size + 1, 0, none⟩ = some (.int .i64 3)) ∧ Hid (Below Yr30.heap.size Yr30 w')) := fun V a' c' b' d' hv hh => by
          refine Calls.mono (rx_same KR.out a c b d a' c' b' d' V ⟨Sr73.out.1.later hv, Sr73.out.2.later hv⟩ hh) ?_
          rintro e w' ⟨rfl, hb⟩
          exact ⟨rfl, HK.out w' (bt hv hb), bt hv hb⟩
        go_upto_region 29 with fail
        clear hYr30
        go_cut [212] from 197 to 211 (fun s wx => s = .bool false ∧ Hid (Below Yr30.heap.size Yr30 wx))
        case first =>
          go_region_held3 (fun V : World => V.cell? ⟨r0b.heap.size, 0, none⟩ = some (.bool false) ∧ V.cell? ⟨r0b.heap.size, 1, none⟩ = some (.slice a 1 c) ∧ V.cell? ⟨r0b.heap.size, 2, none⟩ = some (.slice b 1 d) ∧ V.cell? ⟨s9.heap.size + 1, 0, none⟩ = some (.int .i64 3)) (first | with_reducible exact hsB | with_reducible exact hsA | with_reducible exact hs0)
            (first
              | (go_at_call 6; (with_reducible refine Calls.mono (HS2.out _ HD.out) ?_); rintro e z1 ⟨a', c', b', d', rfl, hsA, HSA, HBA⟩)
              | (go_at_call 15; (with_reducible refine Calls.mono (HSM.out _ a' c' b' d' HBA.out HSA.out) ?_); rintro e z2 ⟨rfl, hsB, HBB⟩))
          all_goals
            go_wp2_with fail
            go_meet
          all_goals exact ⟨rfl, HBB⟩
        case rest =>
          obtain ⟨rfl, hbc⟩ := hcut
          have hbel := hbc.out
          obtain ⟨r0c, hww⟩ : ∃ v, wc = v := ⟨_, rfl⟩
          rw [hww] at hbel ⊢
          clear hbc hww wc HK HD hs0 HS2 HSM
          have HW74 := hid (bt HW73.out hbel)
          have Hfl74 := hid (Hfl73.out.later hbel Hfl73.out.lt)
          have Hwt74 := hid (Hwt73.out.later hbel Hwt73.out.lt)
          have Hr3074 := hid (Gr30.out.later hbel Gr30.out.lt)
          have Sr74 := hid (And.intro (Sr73.out.1.later hbel) (Sr73.out.2.later hbel))
          clear HW73 Hfl73 Hwt73 Gr30 Sr73
          clear hbel
          clear Sr74
          clear Hr3074 KX KR
          go_wp2_with fail
          rw [rounds_succ]
          have KX : Hid (RXn true [7] 1 [2] 1 (Rat.divInt (-7) (2))) := (xk_lit true 7 2 _ (by decide) (by decide) (by decide) (by decide +kernel))
          have LW : Hid (RxW (-4) true [4] 1) := (rxw1 true 4 (-4) (by decide) (by decide))
          have KR : Hid (RXn true [4] 1 [1] 1 (Rat.divInt (-4) 1)) := (xk_lit true 4 1 _ (by decide) (by decide) (by decide) (by decide +kernel))
          have HS3 : Hid (∀ V, Below r0c.heap.size r0c V → V.cell? ⟨s9.heap.size, 2, none⟩ = some (.int .i64 (-7)) ∧ V.cell? ⟨s9.heap.size, 3, none⟩ = some (.int .i64 2)) := fun V hv => ⟨(Hfl74.out.later hv Hfl74.out.lt).cell 2, (Hfl74.out.later hv Hfl74.out.lt).cell 3⟩
          have HSM : Hid (∀ V, Below r0c.heap.size r0c V → Calls Tryz.prog 6 #[.int .i64 (-7), .int .i64 2] V fun e w' => ∃ a ca b cb, e = .returned (.agg #[.bool true, .slice a 1 ca, .slice b 1 cb]) ∧ Hid (Sl w' (.slice a 1 ca) [7] ∧ Sl w' (.slice b 1 cb) [2]) ∧ Below V.heap.size V w' ∧ Below r0c.heap.size r0c w') := fun V hv => by
            refine Calls.mono (rx_small (-7) (2) V (by decide) (by decide) (by decide) (by decide) (by decide) KX.out) ?_
            rintro x w' ⟨a, ca, b, cb, rfl, s, hb⟩
            exact ⟨a, ca, b, cb, rfl, s, hb, bt hv hb⟩
          have HFL := hid (fun V a ca b cb hv s => rx_floor_reg r0c KX.out LW.out (by decide) V a ca b cb hv s)
          have HD0 := hid (Below.drew (Below.refl r0c.heap.size r0c))
          have hs0 := HS3.out _ HD0.out
          have hw1 : IntKind.i64.wrap (2 * 1) = 2 := by decide
          have hw2 : IntKind.i64.wrap (2 + 1) = 3 := by decide
          have hw3 : IntKind.i64.wrap 2 = 2 := by decide
          have hw4 : IntKind.i64.wrap 3 = 3 := by decide
          go_upto_region 27 with fail
          go_cut [28, 29] from 174 to 189 (fun s28 s29 wx => Hid (RxCut r0c true [4] 1 s28 s29 wx))
          case first =>
            go_region_held3 (fun V : World => V.cell? ⟨s9.heap.size, 2, none⟩ = some (.int .i64 (-7)) ∧ V.cell? ⟨s9.heap.size, 3, none⟩ = some (.int .i64 2)) (first | with_reducible exact hs2 | with_reducible exact hs1 | with_reducible exact hs0 | (refine HS3.out _ ?_; repeat' first | exact hb2 | exact hb1 | exact HD0.out | exact Below.refl _ _ | refine rx_balloc1 ?_ _ | refine Below.drew ?_ | refine below_put2 ?_ _ ?_ _ _ | exact Nat.le_refl _ | exact hb1.size | exact hb2.size | omega))
              (first
                | (go_at_call 6; (with_reducible refine Calls.mono (HSM.out _ (by repeat' first | exact HD0.out | refine rx_balloc1 ?_ _ | refine Below.drew ?_ | exact Below.refl _ _)) ?_); rintro e z1 ⟨a0, ca0, b0, cb0, rfl, HR1, hv1, hb1⟩; obtain ⟨fa1, fa2, fa3⟩ := rx_far hv1; have hs1 := HS3.out z1 hb1; have hl1 := hb1.size)
                | (go_at_call 13; (with_reducible refine Calls.mono (HFL.out _ a0 ca0 b0 cb0 (by first | exact hb1 | exact rx_balloc1 hb1 _) (by first | exact HR1.out | exact ⟨HR1.out.1.later (alloc_later _ _), HR1.out.2.later (alloc_later _ _)⟩)) ?_); rintro e z2 ⟨q1, q2, rfl, hb2, hv2, HR2⟩; obtain ⟨fb1, fb2, fb3⟩ := rx_far hv2; have hs2 := HS3.out z2 hb2; have hl2 := hb2.size))
            all_goals
              clear HSM HFL HS3 hs0 hs1 hs2 fa1 fa2 fa3 fb1 fb2 fb3
              go_wp2_with fail
              go_meet
            all_goals first | with_reducible exact hid (rx_new hb2 HR2.out) | with_reducible exact hid (rx_old hb2 HR2.out ((Box.made z1 _ _).later hv2 (Box.made z1 _ _).lt) hl1) | exact hid (rx_old hb2 HR2.out (((Box.made r0c.drew _ _).later hv1 (Box.made r0c.drew _ _).lt).later hv2 ((Box.made r0c.drew _ _).later hv1 (Box.made r0c.drew _ _).lt).lt) (Nat.le_refl _)) | exact hid (rx_old hb2 HR2.out (((Box.made r0c _ _).later hv1 (Box.made r0c _ _).lt).later hv2 ((Box.made r0c _ _).later hv1 (Box.made r0c _ _).lt).lt) (Nat.le_refl _))
          case rest =>
            obtain ⟨p28, aw, cw, rfl, rfl, hpb, hrow⟩ := hcut.out.ex
            have hbel := hcut.out.bel
            have Slow := hid (Sl.own hrow LW.out.wd)
            have Glow := hid hpb
            obtain ⟨r1a, hww⟩ : ∃ v, wc = v := ⟨_, rfl⟩
            rw [hww] at hbel Slow Glow ⊢
            clear hcut hrow hpb hww HS3 HSM HFL HD0 hs0 hw1 hw2 hw3 hw4 wc
            have Slow : Hid (Sl r1a (.slice aw 1 cw) [4]) := Slow
            have HW75 := hid (bt HW74.out hbel)
            have Hfl75 := hid (Hfl74.out.later hbel Hfl74.out.lt)
            have Hwt75 := hid (Hwt74.out.later hbel Hwt74.out.lt)
            clear HW74 Hfl74 Hwt74
            clear hbel
            have cllow_0 : r1a.cell? ⟨p28, 0, none⟩ = some (.bool true) := Glow.out.cell 0
            have cllow_1 : r1a.cell? ⟨p28, 1, none⟩ = some (.slice aw 1 cw) := Glow.out.cell 1
            have Gone := hid (Box.made r1a 30 #[.int .u32 1])
            have Lone := hid (alloc_later r1a (.cells #[.int .u32 1] 30))
            obtain ⟨Yone, hYone⟩ : ∃ Yone, r1a.alloc (.cells #[.int .u32 1] 30) = Yone := ⟨_, rfl⟩
            rw [hYone] at Gone Lone
            have HW76 := hid (bt HW75.out Lone.out)
            have Hfl76 := hid (Hfl75.out.later Lone.out Hfl75.out.lt)
            have Hwt76 := hid (Hwt75.out.later Lone.out Hwt75.out.lt)
            have Hlow76 := hid (Glow.out.later Lone.out Glow.out.lt)
            have Slow76 := hid (Slow.out.later Lone.out)
            clear HW75 Hfl75 Hwt75 Glow Slow
            have SO := hid (rx_sl_one Gone.out (by decide))
            go_wp2_with fail
            refine Calls.mono (rx_made LW.out KR.out aw cw _ _ _ Slow76.out SO.out) ?_
            rintro x r1b ⟨a, c, b, d, rfl, Sr, hb⟩
            clear hYone cllow_0 cllow_1
            have HW77 := hid (bt HW76.out hb)
            have Hfl77 := hid (Hfl76.out.later hb Hfl76.out.lt)
            have Hwt77 := hid (Hwt76.out.later hb Hwt76.out.lt)
            have Hlow77 := hid (Hlow76.out.later hb Hlow76.out.lt)
            have Hone77 := hid (Gone.out.later hb Gone.out.lt)
            have Slow77 := hid (Slow76.out.later hb)
            have So77 := hid (SO.out.later hb)
            clear HW76 Hfl76 Hwt76 Hlow76 Gone Slow76 SO
            clear hb
            clear So77
            clear Slow77
            clear Hone77 Hlow77 LW
            have Gr30 := hid (Box.made r1b 24 #[.bool true, .slice a 1 c, .slice b 1 d])
            have Lr30 := hid (alloc_later r1b (.cells #[.bool true, .slice a 1 c, .slice b 1 d] 24))
            obtain ⟨Yr30, hYr30⟩ : ∃ Yr30, r1b.alloc (.cells #[.bool true, .slice a 1 c, .slice b 1 d] 24) = Yr30 := ⟨_, rfl⟩
            rw [hYr30] at Gr30 Lr30
            have HW78 := hid (bt HW77.out Lr30.out)
            have Hfl78 := hid (Hfl77.out.later Lr30.out Hfl77.out.lt)
            have Hwt78 := hid (Hwt77.out.later Lr30.out Hwt77.out.lt)
            have Sr78 := hid (And.intro (Sr.out.1.later Lr30.out) (Sr.out.2.later Lr30.out))
            clear HW77 Hfl77 Hwt77 Sr
            have HK : Hid (∀ V, Below Yr30.heap.size Yr30 V → V.cell? ⟨r1b.heap.size, 0, none⟩ = some (.bool true) ∧ V.cell? ⟨r1b.heap.size, 1, none⟩ = some (.slice a 1 c) ∧ V.cell? ⟨r1b.heap.size, 2, none⟩ = some (.slice b 1 d) ∧ V.cell? ⟨s9.heap.size + 1, 1, none⟩ = some (.int .i64 (-4))) := fun V hv => by
              have h := Gr30.out.later hv Gr30.out.lt
              exact ⟨h.cell 0, h.cell 1, h.cell 2, (Hwt78.out.later hv Hwt78.out.lt).cell 1⟩
            have HD := hid (Below.drew (Below.refl Yr30.heap.size Yr30))
            have hs0 := HK.out _ HD.out
            have HS2 : Hid (∀ V, Below Yr30.heap.size Yr30 V → Calls Tryz.prog 6 #[.int .i64 (-4), .int .i64 1] V fun e w' => ∃ a' c' b' d', e = .returned (.agg #[.bool true, .slice a' 1 c', .slice b' 1 d']) ∧ (w'.cell? ⟨r1b.heap.size, 0, none⟩ = some (.bool true) ∧ w'.cell? ⟨r1b.heap.size, 1, none⟩ = some (.slice a 1 c) ∧ w'.cell? ⟨r1b.heap.size, 2, none⟩ = some (.slice b 1 d) ∧ w'.cell? ⟨s9.heap.size + 1, 1, none⟩ = some (.int .i64 (-4))) ∧ Hid (Sl w' (.slice a' 1 c') [4] ∧ Sl w' (.slice b' 1 d') [1]) ∧ Hid (Below Yr30.heap.size Yr30 w')) := fun V hv => by
              refine Calls.mono (rx_small (-4) 1 V (by decide) (by decide) (by decide) (by decide) (by decide) KR.out) ?_
              rintro e w' ⟨a', c', b', d', rfl, s, hb⟩
              exact ⟨a', c', b', d', rfl, HK.out w' (bt hv hb), s.out, bt hv hb⟩
            have HSM : Hid (∀ V a' c' b' d', Below Yr30.heap.size Yr30 V → (Sl V (.slice a' 1 c') [4] ∧ Sl V (.slice b' 1 d') [1]) → Calls Tryz.prog 15 #[.agg #[.bool true, .slice a 1 c, .slice b 1 d], .agg #[.bool true, .slice a' 1 c', .slice b' 1 d']] V fun e w' => e = .returned (.bool true) ∧ (w'.cell? ⟨r1b.heap.size, 0, none⟩ = some (.bool true) ∧ w'.cell? ⟨r1b.heap.size, 1, none⟩ = some (.slice a 1 c) ∧ w'.cell? ⟨r1b.heap.size, 2, none⟩ = some (.slice b 1 d) ∧ w'.cell? ⟨s9.heap.size + 1, 1, none⟩ = some (.int .i64 (-4))) ∧ Hid (Below Yr30.heap.size Yr30 w')) := fun V a' c' b' d' hv hh => by
              refine Calls.mono (rx_same KR.out a c b d a' c' b' d' V ⟨Sr78.out.1.later hv, Sr78.out.2.later hv⟩ hh) ?_
              rintro e w' ⟨rfl, hb⟩
              exact ⟨rfl, HK.out w' (bt hv hb), bt hv hb⟩
            go_upto_region 29 with fail
            clear hYr30
            go_cut [212] from 197 to 211 (fun s wx => s = .bool false ∧ Hid (Below Yr30.heap.size Yr30 wx))
            case first =>
              go_region_held3 (fun V : World => V.cell? ⟨r1b.heap.size, 0, none⟩ = some (.bool true) ∧ V.cell? ⟨r1b.heap.size, 1, none⟩ = some (.slice a 1 c) ∧ V.cell? ⟨r1b.heap.size, 2, none⟩ = some (.slice b 1 d) ∧ V.cell? ⟨s9.heap.size + 1, 1, none⟩ = some (.int .i64 (-4))) (first | with_reducible exact hsB | with_reducible exact hsA | with_reducible exact hs0)
                (first
                  | (go_at_call 6; (with_reducible refine Calls.mono (HS2.out _ HD.out) ?_); rintro e z1 ⟨a', c', b', d', rfl, hsA, HSA, HBA⟩)
                  | (go_at_call 15; (with_reducible refine Calls.mono (HSM.out _ a' c' b' d' HBA.out HSA.out) ?_); rintro e z2 ⟨rfl, hsB, HBB⟩))
              all_goals
                go_wp2_with fail
                go_meet
              all_goals exact ⟨rfl, HBB⟩
            case rest =>
              obtain ⟨rfl, hbc⟩ := hcut
              have hbel := hbc.out
              obtain ⟨r1c, hww⟩ : ∃ v, wc = v := ⟨_, rfl⟩
              rw [hww] at hbel ⊢
              clear hbc hww wc HK HD hs0 HS2 HSM
              have HW79 := hid (bt HW78.out hbel)
              have Hfl79 := hid (Hfl78.out.later hbel Hfl78.out.lt)
              have Hwt79 := hid (Hwt78.out.later hbel Hwt78.out.lt)
              have Hr3079 := hid (Gr30.out.later hbel Gr30.out.lt)
              have Sr79 := hid (And.intro (Sr78.out.1.later hbel) (Sr78.out.2.later hbel))
              clear HW78 Hfl78 Hwt78 Gr30 Sr78
              clear hbel
              clear Sr79
              clear Hr3079 KX KR
              go_wp2_with fail
              rw [rounds_succ]
              have KX : Hid (RXn true [3] 1 [1] 1 (Rat.divInt (-3) (1))) := (xk_lit true 3 1 _ (by decide) (by decide) (by decide) (by decide +kernel))
              have LW : Hid (RxW (-3) true [3] 1) := (rxw1 true 3 (-3) (by decide) (by decide))
              have KR : Hid (RXn true [3] 1 [1] 1 (Rat.divInt (-3) 1)) := (xk_lit true 3 1 _ (by decide) (by decide) (by decide) (by decide +kernel))
              have HS3 : Hid (∀ V, Below r1c.heap.size r1c V → V.cell? ⟨s9.heap.size, 4, none⟩ = some (.int .i64 (-3)) ∧ V.cell? ⟨s9.heap.size, 5, none⟩ = some (.int .i64 1)) := fun V hv => ⟨(Hfl79.out.later hv Hfl79.out.lt).cell 4, (Hfl79.out.later hv Hfl79.out.lt).cell 5⟩
              have HSM : Hid (∀ V, Below r1c.heap.size r1c V → Calls Tryz.prog 6 #[.int .i64 (-3), .int .i64 1] V fun e w' => ∃ a ca b cb, e = .returned (.agg #[.bool true, .slice a 1 ca, .slice b 1 cb]) ∧ Hid (Sl w' (.slice a 1 ca) [3] ∧ Sl w' (.slice b 1 cb) [1]) ∧ Below V.heap.size V w' ∧ Below r1c.heap.size r1c w') := fun V hv => by
                refine Calls.mono (rx_small (-3) (1) V (by decide) (by decide) (by decide) (by decide) (by decide) KX.out) ?_
                rintro x w' ⟨a, ca, b, cb, rfl, s, hb⟩
                exact ⟨a, ca, b, cb, rfl, s, hb, bt hv hb⟩
              have HFL := hid (fun V a ca b cb hv s => rx_floor_reg r1c KX.out LW.out (by decide) V a ca b cb hv s)
              have HD0 := hid (Below.drew (Below.refl r1c.heap.size r1c))
              have hs0 := HS3.out _ HD0.out
              have hw1 : IntKind.i64.wrap (2 * 2) = 4 := by decide
              have hw2 : IntKind.i64.wrap (4 + 1) = 5 := by decide
              have hw3 : IntKind.i64.wrap 4 = 4 := by decide
              have hw4 : IntKind.i64.wrap 5 = 5 := by decide
              go_upto_region 27 with fail
              go_cut [28, 29] from 174 to 189 (fun s28 s29 wx => Hid (RxCut r1c true [3] 1 s28 s29 wx))
              case first =>
                go_region_held3 (fun V : World => V.cell? ⟨s9.heap.size, 4, none⟩ = some (.int .i64 (-3)) ∧ V.cell? ⟨s9.heap.size, 5, none⟩ = some (.int .i64 1)) (first | with_reducible exact hs2 | with_reducible exact hs1 | with_reducible exact hs0 | (refine HS3.out _ ?_; repeat' first | exact hb2 | exact hb1 | exact HD0.out | exact Below.refl _ _ | refine rx_balloc1 ?_ _ | refine Below.drew ?_ | refine below_put2 ?_ _ ?_ _ _ | exact Nat.le_refl _ | exact hb1.size | exact hb2.size | omega))
                  (first
                    | (go_at_call 6; (with_reducible refine Calls.mono (HSM.out _ (by repeat' first | exact HD0.out | refine rx_balloc1 ?_ _ | refine Below.drew ?_ | exact Below.refl _ _)) ?_); rintro e z1 ⟨a0, ca0, b0, cb0, rfl, HR1, hv1, hb1⟩; obtain ⟨fa1, fa2, fa3⟩ := rx_far hv1; have hs1 := HS3.out z1 hb1; have hl1 := hb1.size)
                    | (go_at_call 13; (with_reducible refine Calls.mono (HFL.out _ a0 ca0 b0 cb0 (by first | exact hb1 | exact rx_balloc1 hb1 _) (by first | exact HR1.out | exact ⟨HR1.out.1.later (alloc_later _ _), HR1.out.2.later (alloc_later _ _)⟩)) ?_); rintro e z2 ⟨q1, q2, rfl, hb2, hv2, HR2⟩; obtain ⟨fb1, fb2, fb3⟩ := rx_far hv2; have hs2 := HS3.out z2 hb2; have hl2 := hb2.size))
                all_goals
                  clear HSM HFL HS3 hs0 hs1 hs2 fa1 fa2 fa3 fb1 fb2 fb3
                  go_wp2_with fail
                  go_meet
                all_goals first | with_reducible exact hid (rx_new hb2 HR2.out) | with_reducible exact hid (rx_old hb2 HR2.out ((Box.made z1 _ _).later hv2 (Box.made z1 _ _).lt) hl1) | exact hid (rx_old hb2 HR2.out (((Box.made r1c.drew _ _).later hv1 (Box.made r1c.drew _ _).lt).later hv2 ((Box.made r1c.drew _ _).later hv1 (Box.made r1c.drew _ _).lt).lt) (Nat.le_refl _)) | exact hid (rx_old hb2 HR2.out (((Box.made r1c _ _).later hv1 (Box.made r1c _ _).lt).later hv2 ((Box.made r1c _ _).later hv1 (Box.made r1c _ _).lt).lt) (Nat.le_refl _))
              case rest =>
                obtain ⟨p28, aw, cw, rfl, rfl, hpb, hrow⟩ := hcut.out.ex
                have hbel := hcut.out.bel
                have Slow := hid (Sl.own hrow LW.out.wd)
                have Glow := hid hpb
                obtain ⟨r2a, hww⟩ : ∃ v, wc = v := ⟨_, rfl⟩
                rw [hww] at hbel Slow Glow ⊢
                clear hcut hrow hpb hww HS3 HSM HFL HD0 hs0 hw1 hw2 hw3 hw4 wc
                have Slow : Hid (Sl r2a (.slice aw 1 cw) [3]) := Slow
                have HW80 := hid (bt HW79.out hbel)
                have Hfl80 := hid (Hfl79.out.later hbel Hfl79.out.lt)
                have Hwt80 := hid (Hwt79.out.later hbel Hwt79.out.lt)
                clear HW79 Hfl79 Hwt79
                clear hbel
                have cllow_0 : r2a.cell? ⟨p28, 0, none⟩ = some (.bool true) := Glow.out.cell 0
                have cllow_1 : r2a.cell? ⟨p28, 1, none⟩ = some (.slice aw 1 cw) := Glow.out.cell 1
                have Gone := hid (Box.made r2a 30 #[.int .u32 1])
                have Lone := hid (alloc_later r2a (.cells #[.int .u32 1] 30))
                obtain ⟨Yone, hYone⟩ : ∃ Yone, r2a.alloc (.cells #[.int .u32 1] 30) = Yone := ⟨_, rfl⟩
                rw [hYone] at Gone Lone
                have HW81 := hid (bt HW80.out Lone.out)
                have Hfl81 := hid (Hfl80.out.later Lone.out Hfl80.out.lt)
                have Hwt81 := hid (Hwt80.out.later Lone.out Hwt80.out.lt)
                have Hlow81 := hid (Glow.out.later Lone.out Glow.out.lt)
                have Slow81 := hid (Slow.out.later Lone.out)
                clear HW80 Hfl80 Hwt80 Glow Slow
                have SO := hid (rx_sl_one Gone.out (by decide))
                go_wp2_with fail
                refine Calls.mono (rx_made LW.out KR.out aw cw _ _ _ Slow81.out SO.out) ?_
                rintro x r2b ⟨a, c, b, d, rfl, Sr, hb⟩
                clear hYone cllow_0 cllow_1
                have HW82 := hid (bt HW81.out hb)
                have Hfl82 := hid (Hfl81.out.later hb Hfl81.out.lt)
                have Hwt82 := hid (Hwt81.out.later hb Hwt81.out.lt)
                have Hlow82 := hid (Hlow81.out.later hb Hlow81.out.lt)
                have Hone82 := hid (Gone.out.later hb Gone.out.lt)
                have Slow82 := hid (Slow81.out.later hb)
                have So82 := hid (SO.out.later hb)
                clear HW81 Hfl81 Hwt81 Hlow81 Gone Slow81 SO
                clear hb
                clear So82
                clear Slow82
                clear Hone82 Hlow82 LW
                have Gr30 := hid (Box.made r2b 24 #[.bool true, .slice a 1 c, .slice b 1 d])
                have Lr30 := hid (alloc_later r2b (.cells #[.bool true, .slice a 1 c, .slice b 1 d] 24))
                obtain ⟨Yr30, hYr30⟩ : ∃ Yr30, r2b.alloc (.cells #[.bool true, .slice a 1 c, .slice b 1 d] 24) = Yr30 := ⟨_, rfl⟩
                rw [hYr30] at Gr30 Lr30
                have HW83 := hid (bt HW82.out Lr30.out)
                have Hfl83 := hid (Hfl82.out.later Lr30.out Hfl82.out.lt)
                have Hwt83 := hid (Hwt82.out.later Lr30.out Hwt82.out.lt)
                have Sr83 := hid (And.intro (Sr.out.1.later Lr30.out) (Sr.out.2.later Lr30.out))
                clear HW82 Hfl82 Hwt82 Sr
                have HK : Hid (∀ V, Below Yr30.heap.size Yr30 V → V.cell? ⟨r2b.heap.size, 0, none⟩ = some (.bool true) ∧ V.cell? ⟨r2b.heap.size, 1, none⟩ = some (.slice a 1 c) ∧ V.cell? ⟨r2b.heap.size, 2, none⟩ = some (.slice b 1 d) ∧ V.cell? ⟨s9.heap.size + 1, 2, none⟩ = some (.int .i64 (-3))) := fun V hv => by
                  have h := Gr30.out.later hv Gr30.out.lt
                  exact ⟨h.cell 0, h.cell 1, h.cell 2, (Hwt83.out.later hv Hwt83.out.lt).cell 2⟩
                have HD := hid (Below.drew (Below.refl Yr30.heap.size Yr30))
                have hs0 := HK.out _ HD.out
                have HS2 : Hid (∀ V, Below Yr30.heap.size Yr30 V → Calls Tryz.prog 6 #[.int .i64 (-3), .int .i64 1] V fun e w' => ∃ a' c' b' d', e = .returned (.agg #[.bool true, .slice a' 1 c', .slice b' 1 d']) ∧ (w'.cell? ⟨r2b.heap.size, 0, none⟩ = some (.bool true) ∧ w'.cell? ⟨r2b.heap.size, 1, none⟩ = some (.slice a 1 c) ∧ w'.cell? ⟨r2b.heap.size, 2, none⟩ = some (.slice b 1 d) ∧ w'.cell? ⟨s9.heap.size + 1, 2, none⟩ = some (.int .i64 (-3))) ∧ Hid (Sl w' (.slice a' 1 c') [3] ∧ Sl w' (.slice b' 1 d') [1]) ∧ Hid (Below Yr30.heap.size Yr30 w')) := fun V hv => by
                  refine Calls.mono (rx_small (-3) 1 V (by decide) (by decide) (by decide) (by decide) (by decide) KR.out) ?_
                  rintro e w' ⟨a', c', b', d', rfl, s, hb⟩
                  exact ⟨a', c', b', d', rfl, HK.out w' (bt hv hb), s.out, bt hv hb⟩
                have HSM : Hid (∀ V a' c' b' d', Below Yr30.heap.size Yr30 V → (Sl V (.slice a' 1 c') [3] ∧ Sl V (.slice b' 1 d') [1]) → Calls Tryz.prog 15 #[.agg #[.bool true, .slice a 1 c, .slice b 1 d], .agg #[.bool true, .slice a' 1 c', .slice b' 1 d']] V fun e w' => e = .returned (.bool true) ∧ (w'.cell? ⟨r2b.heap.size, 0, none⟩ = some (.bool true) ∧ w'.cell? ⟨r2b.heap.size, 1, none⟩ = some (.slice a 1 c) ∧ w'.cell? ⟨r2b.heap.size, 2, none⟩ = some (.slice b 1 d) ∧ w'.cell? ⟨s9.heap.size + 1, 2, none⟩ = some (.int .i64 (-3))) ∧ Hid (Below Yr30.heap.size Yr30 w')) := fun V a' c' b' d' hv hh => by
                  refine Calls.mono (rx_same KR.out a c b d a' c' b' d' V ⟨Sr83.out.1.later hv, Sr83.out.2.later hv⟩ hh) ?_
                  rintro e w' ⟨rfl, hb⟩
                  exact ⟨rfl, HK.out w' (bt hv hb), bt hv hb⟩
                go_upto_region 29 with fail
                clear hYr30
                go_cut [212] from 197 to 211 (fun s wx => s = .bool false ∧ Hid (Below Yr30.heap.size Yr30 wx))
                case first =>
                  go_region_held3 (fun V : World => V.cell? ⟨r2b.heap.size, 0, none⟩ = some (.bool true) ∧ V.cell? ⟨r2b.heap.size, 1, none⟩ = some (.slice a 1 c) ∧ V.cell? ⟨r2b.heap.size, 2, none⟩ = some (.slice b 1 d) ∧ V.cell? ⟨s9.heap.size + 1, 2, none⟩ = some (.int .i64 (-3))) (first | with_reducible exact hsB | with_reducible exact hsA | with_reducible exact hs0)
                    (first
                      | (go_at_call 6; (with_reducible refine Calls.mono (HS2.out _ HD.out) ?_); rintro e z1 ⟨a', c', b', d', rfl, hsA, HSA, HBA⟩)
                      | (go_at_call 15; (with_reducible refine Calls.mono (HSM.out _ a' c' b' d' HBA.out HSA.out) ?_); rintro e z2 ⟨rfl, hsB, HBB⟩))
                  all_goals
                    go_wp2_with fail
                    go_meet
                  all_goals exact ⟨rfl, HBB⟩
                case rest =>
                  obtain ⟨rfl, hbc⟩ := hcut
                  have hbel := hbc.out
                  obtain ⟨r2c, hww⟩ : ∃ v, wc = v := ⟨_, rfl⟩
                  rw [hww] at hbel ⊢
                  clear hbc hww wc HK HD hs0 HS2 HSM
                  have HW84 := hid (bt HW83.out hbel)
                  have Hfl84 := hid (Hfl83.out.later hbel Hfl83.out.lt)
                  have Hwt84 := hid (Hwt83.out.later hbel Hwt83.out.lt)
                  have Hr3084 := hid (Gr30.out.later hbel Gr30.out.lt)
                  have Sr84 := hid (And.intro (Sr83.out.1.later hbel) (Sr83.out.2.later hbel))
                  clear HW83 Hfl83 Hwt83 Gr30 Sr83
                  clear hbel
                  clear Sr84
                  clear Hr3084 KX KR
                  go_wp2_with fail
                  rw [rounds_succ]
                  have KX : Hid (RXn false [] 0 [1] 1 (Rat.divInt (0) (1))) := (xk_zero _ (by decide +kernel))
                  have LW : Hid (RxW (0) false [] 0) := rxw0
                  have KR : Hid (RXn false [] 0 [1] 1 (Rat.divInt (0) 1)) := (xk_zero _ (by decide +kernel))
                  have HS3 : Hid (∀ V, Below r2c.heap.size r2c V → V.cell? ⟨s9.heap.size, 6, none⟩ = some (.int .i64 0) ∧ V.cell? ⟨s9.heap.size, 7, none⟩ = some (.int .i64 1)) := fun V hv => ⟨(Hfl84.out.later hv Hfl84.out.lt).cell 6, (Hfl84.out.later hv Hfl84.out.lt).cell 7⟩
                  have HSM : Hid (∀ V, Below r2c.heap.size r2c V → Calls Tryz.prog 6 #[.int .i64 0, .int .i64 1] V fun e w' => ∃ a ca b cb, e = .returned (.agg #[.bool false, .slice a 0 ca, .slice b 1 cb]) ∧ Hid (Sl w' (.slice a 0 ca) [] ∧ Sl w' (.slice b 1 cb) [1]) ∧ Below V.heap.size V w' ∧ Below r2c.heap.size r2c w') := fun V hv => by
                    refine Calls.mono (rx_small (0) (1) V (by decide) (by decide) (by decide) (by decide) (by decide) KX.out) ?_
                    rintro x w' ⟨a, ca, b, cb, rfl, s, hb⟩
                    exact ⟨a, ca, b, cb, rfl, s, hb, bt hv hb⟩
                  have HFL := hid (fun V a ca b cb hv s => rx_floor_reg r2c KX.out LW.out (by decide) V a ca b cb hv s)
                  have HD0 := hid (Below.drew (Below.refl r2c.heap.size r2c))
                  have hs0 := HS3.out _ HD0.out
                  have hw1 : IntKind.i64.wrap (2 * 3) = 6 := by decide
                  have hw2 : IntKind.i64.wrap (6 + 1) = 7 := by decide
                  have hw3 : IntKind.i64.wrap 6 = 6 := by decide
                  have hw4 : IntKind.i64.wrap 7 = 7 := by decide
                  go_upto_region 27 with fail
                  go_cut [28, 29] from 174 to 189 (fun s28 s29 wx => Hid (RxCut r2c false [] 0 s28 s29 wx))
                  case first =>
                    go_region_held3 (fun V : World => V.cell? ⟨s9.heap.size, 6, none⟩ = some (.int .i64 0) ∧ V.cell? ⟨s9.heap.size, 7, none⟩ = some (.int .i64 1)) (first | with_reducible exact hs2 | with_reducible exact hs1 | with_reducible exact hs0 | (refine HS3.out _ ?_; repeat' first | exact hb2 | exact hb1 | exact HD0.out | exact Below.refl _ _ | refine rx_balloc1 ?_ _ | refine Below.drew ?_ | refine below_put2 ?_ _ ?_ _ _ | exact Nat.le_refl _ | exact hb1.size | exact hb2.size | omega))
                      (first
                        | (go_at_call 6; (with_reducible refine Calls.mono (HSM.out _ (by repeat' first | exact HD0.out | refine rx_balloc1 ?_ _ | refine Below.drew ?_ | exact Below.refl _ _)) ?_); rintro e z1 ⟨a0, ca0, b0, cb0, rfl, HR1, hv1, hb1⟩; obtain ⟨fa1, fa2, fa3⟩ := rx_far hv1; have hs1 := HS3.out z1 hb1; have hl1 := hb1.size)
                        | (go_at_call 13; (with_reducible refine Calls.mono (HFL.out _ a0 ca0 b0 cb0 (by first | exact hb1 | exact rx_balloc1 hb1 _) (by first | exact HR1.out | exact ⟨HR1.out.1.later (alloc_later _ _), HR1.out.2.later (alloc_later _ _)⟩)) ?_); rintro e z2 ⟨q1, q2, rfl, hb2, hv2, HR2⟩; obtain ⟨fb1, fb2, fb3⟩ := rx_far hv2; have hs2 := HS3.out z2 hb2; have hl2 := hb2.size))
                    all_goals
                      clear HSM HFL HS3 hs0 hs1 hs2 fa1 fa2 fa3 fb1 fb2 fb3
                      go_wp2_with fail
                      go_meet
                    all_goals first | with_reducible exact hid (rx_new hb2 HR2.out) | with_reducible exact hid (rx_old hb2 HR2.out ((Box.made z1 _ _).later hv2 (Box.made z1 _ _).lt) hl1) | exact hid (rx_old hb2 HR2.out (((Box.made r2c.drew _ _).later hv1 (Box.made r2c.drew _ _).lt).later hv2 ((Box.made r2c.drew _ _).later hv1 (Box.made r2c.drew _ _).lt).lt) (Nat.le_refl _)) | exact hid (rx_old hb2 HR2.out (((Box.made r2c _ _).later hv1 (Box.made r2c _ _).lt).later hv2 ((Box.made r2c _ _).later hv1 (Box.made r2c _ _).lt).lt) (Nat.le_refl _))
                  case rest =>
                    obtain ⟨p28, aw, cw, rfl, rfl, hpb, hrow⟩ := hcut.out.ex
                    have hbel := hcut.out.bel
                    have Slow := hid (Sl.own hrow LW.out.wd)
                    have Glow := hid hpb
                    obtain ⟨r3a, hww⟩ : ∃ v, wc = v := ⟨_, rfl⟩
                    rw [hww] at hbel Slow Glow ⊢
                    clear hcut hrow hpb hww HS3 HSM HFL HD0 hs0 hw1 hw2 hw3 hw4 wc
                    have Slow : Hid (Sl r3a (.slice aw 0 cw) []) := Slow
                    have HW85 := hid (bt HW84.out hbel)
                    have Hfl85 := hid (Hfl84.out.later hbel Hfl84.out.lt)
                    have Hwt85 := hid (Hwt84.out.later hbel Hwt84.out.lt)
                    clear HW84 Hfl84 Hwt84
                    clear hbel
                    have cllow_0 : r3a.cell? ⟨p28, 0, none⟩ = some (.bool false) := Glow.out.cell 0
                    have cllow_1 : r3a.cell? ⟨p28, 1, none⟩ = some (.slice aw 0 cw) := Glow.out.cell 1
                    have Gone := hid (Box.made r3a 30 #[.int .u32 1])
                    have Lone := hid (alloc_later r3a (.cells #[.int .u32 1] 30))
                    obtain ⟨Yone, hYone⟩ : ∃ Yone, r3a.alloc (.cells #[.int .u32 1] 30) = Yone := ⟨_, rfl⟩
                    rw [hYone] at Gone Lone
                    have HW86 := hid (bt HW85.out Lone.out)
                    have Hfl86 := hid (Hfl85.out.later Lone.out Hfl85.out.lt)
                    have Hwt86 := hid (Hwt85.out.later Lone.out Hwt85.out.lt)
                    have Hlow86 := hid (Glow.out.later Lone.out Glow.out.lt)
                    have Slow86 := hid (Slow.out.later Lone.out)
                    clear HW85 Hfl85 Hwt85 Glow Slow
                    have SO := hid (rx_sl_one Gone.out (by decide))
                    go_wp2_with fail
                    refine Calls.mono (rx_made LW.out KR.out aw cw _ _ _ Slow86.out SO.out) ?_
                    rintro x r3b ⟨a, c, b, d, rfl, Sr, hb⟩
                    clear hYone cllow_0 cllow_1
                    have HW87 := hid (bt HW86.out hb)
                    have Hfl87 := hid (Hfl86.out.later hb Hfl86.out.lt)
                    have Hwt87 := hid (Hwt86.out.later hb Hwt86.out.lt)
                    have Hlow87 := hid (Hlow86.out.later hb Hlow86.out.lt)
                    have Hone87 := hid (Gone.out.later hb Gone.out.lt)
                    have Slow87 := hid (Slow86.out.later hb)
                    have So87 := hid (SO.out.later hb)
                    clear HW86 Hfl86 Hwt86 Hlow86 Gone Slow86 SO
                    clear hb
                    clear So87
                    clear Slow87
                    clear Hone87 Hlow87 LW
                    have Gr30 := hid (Box.made r3b 24 #[.bool false, .slice a 0 c, .slice b 1 d])
                    have Lr30 := hid (alloc_later r3b (.cells #[.bool false, .slice a 0 c, .slice b 1 d] 24))
                    obtain ⟨Yr30, hYr30⟩ : ∃ Yr30, r3b.alloc (.cells #[.bool false, .slice a 0 c, .slice b 1 d] 24) = Yr30 := ⟨_, rfl⟩
                    rw [hYr30] at Gr30 Lr30
                    have HW88 := hid (bt HW87.out Lr30.out)
                    have Hfl88 := hid (Hfl87.out.later Lr30.out Hfl87.out.lt)
                    have Hwt88 := hid (Hwt87.out.later Lr30.out Hwt87.out.lt)
                    have Sr88 := hid (And.intro (Sr.out.1.later Lr30.out) (Sr.out.2.later Lr30.out))
                    clear HW87 Hfl87 Hwt87 Sr
                    have HK : Hid (∀ V, Below Yr30.heap.size Yr30 V → V.cell? ⟨r3b.heap.size, 0, none⟩ = some (.bool false) ∧ V.cell? ⟨r3b.heap.size, 1, none⟩ = some (.slice a 0 c) ∧ V.cell? ⟨r3b.heap.size, 2, none⟩ = some (.slice b 1 d) ∧ V.cell? ⟨s9.heap.size + 1, 3, none⟩ = some (.int .i64 0)) := fun V hv => by
                      have h := Gr30.out.later hv Gr30.out.lt
                      exact ⟨h.cell 0, h.cell 1, h.cell 2, (Hwt88.out.later hv Hwt88.out.lt).cell 3⟩
                    have HD := hid (Below.drew (Below.refl Yr30.heap.size Yr30))
                    have hs0 := HK.out _ HD.out
                    have HS2 : Hid (∀ V, Below Yr30.heap.size Yr30 V → Calls Tryz.prog 6 #[.int .i64 0, .int .i64 1] V fun e w' => ∃ a' c' b' d', e = .returned (.agg #[.bool false, .slice a' 0 c', .slice b' 1 d']) ∧ (w'.cell? ⟨r3b.heap.size, 0, none⟩ = some (.bool false) ∧ w'.cell? ⟨r3b.heap.size, 1, none⟩ = some (.slice a 0 c) ∧ w'.cell? ⟨r3b.heap.size, 2, none⟩ = some (.slice b 1 d) ∧ w'.cell? ⟨s9.heap.size + 1, 3, none⟩ = some (.int .i64 0)) ∧ Hid (Sl w' (.slice a' 0 c') [] ∧ Sl w' (.slice b' 1 d') [1]) ∧ Hid (Below Yr30.heap.size Yr30 w')) := fun V hv => by
                      refine Calls.mono (rx_small (0) 1 V (by decide) (by decide) (by decide) (by decide) (by decide) KR.out) ?_
                      rintro e w' ⟨a', c', b', d', rfl, s, hb⟩
                      exact ⟨a', c', b', d', rfl, HK.out w' (bt hv hb), s.out, bt hv hb⟩
                    have HSM : Hid (∀ V a' c' b' d', Below Yr30.heap.size Yr30 V → (Sl V (.slice a' 0 c') [] ∧ Sl V (.slice b' 1 d') [1]) → Calls Tryz.prog 15 #[.agg #[.bool false, .slice a 0 c, .slice b 1 d], .agg #[.bool false, .slice a' 0 c', .slice b' 1 d']] V fun e w' => e = .returned (.bool true) ∧ (w'.cell? ⟨r3b.heap.size, 0, none⟩ = some (.bool false) ∧ w'.cell? ⟨r3b.heap.size, 1, none⟩ = some (.slice a 0 c) ∧ w'.cell? ⟨r3b.heap.size, 2, none⟩ = some (.slice b 1 d) ∧ w'.cell? ⟨s9.heap.size + 1, 3, none⟩ = some (.int .i64 0)) ∧ Hid (Below Yr30.heap.size Yr30 w')) := fun V a' c' b' d' hv hh => by
                      refine Calls.mono (rx_same KR.out a c b d a' c' b' d' V ⟨Sr88.out.1.later hv, Sr88.out.2.later hv⟩ hh) ?_
                      rintro e w' ⟨rfl, hb⟩
                      exact ⟨rfl, HK.out w' (bt hv hb), bt hv hb⟩
                    go_upto_region 29 with fail
                    clear hYr30
                    go_cut [212] from 197 to 211 (fun s wx => s = .bool false ∧ Hid (Below Yr30.heap.size Yr30 wx))
                    case first =>
                      go_region_held3 (fun V : World => V.cell? ⟨r3b.heap.size, 0, none⟩ = some (.bool false) ∧ V.cell? ⟨r3b.heap.size, 1, none⟩ = some (.slice a 0 c) ∧ V.cell? ⟨r3b.heap.size, 2, none⟩ = some (.slice b 1 d) ∧ V.cell? ⟨s9.heap.size + 1, 3, none⟩ = some (.int .i64 0)) (first | with_reducible exact hsB | with_reducible exact hsA | with_reducible exact hs0)
                        (first
                          | (go_at_call 6; (with_reducible refine Calls.mono (HS2.out _ HD.out) ?_); rintro e z1 ⟨a', c', b', d', rfl, hsA, HSA, HBA⟩)
                          | (go_at_call 15; (with_reducible refine Calls.mono (HSM.out _ a' c' b' d' HBA.out HSA.out) ?_); rintro e z2 ⟨rfl, hsB, HBB⟩))
                      all_goals
                        go_wp2_with fail
                        go_meet
                      all_goals exact ⟨rfl, HBB⟩
                    case rest =>
                      obtain ⟨rfl, hbc⟩ := hcut
                      have hbel := hbc.out
                      obtain ⟨r3c, hww⟩ : ∃ v, wc = v := ⟨_, rfl⟩
                      rw [hww] at hbel ⊢
                      clear hbc hww wc HK HD hs0 HS2 HSM
                      have HW89 := hid (bt HW88.out hbel)
                      have Hfl89 := hid (Hfl88.out.later hbel Hfl88.out.lt)
                      have Hwt89 := hid (Hwt88.out.later hbel Hwt88.out.lt)
                      have Hr3089 := hid (Gr30.out.later hbel Gr30.out.lt)
                      have Sr89 := hid (And.intro (Sr88.out.1.later hbel) (Sr88.out.2.later hbel))
                      clear HW88 Hfl88 Hwt88 Gr30 Sr88
                      clear hbel
                      clear Sr89
                      clear Hr3089 KX KR
                      go_wp2_with fail
                      rw [rounds_succ]
                      have KX : Hid (RXn true [1] 1 [5] 1 (Rat.divInt (-1) (5))) := (xk_lit true 1 5 _ (by decide) (by decide) (by decide) (by decide +kernel))
                      have LW : Hid (RxW (-1) true [1] 1) := (rxw1 true 1 (-1) (by decide) (by decide))
                      have KR : Hid (RXn true [1] 1 [1] 1 (Rat.divInt (-1) 1)) := (xk_lit true 1 1 _ (by decide) (by decide) (by decide) (by decide +kernel))
                      have HS3 : Hid (∀ V, Below r3c.heap.size r3c V → V.cell? ⟨s9.heap.size, 8, none⟩ = some (.int .i64 (-1)) ∧ V.cell? ⟨s9.heap.size, 9, none⟩ = some (.int .i64 5)) := fun V hv => ⟨(Hfl89.out.later hv Hfl89.out.lt).cell 8, (Hfl89.out.later hv Hfl89.out.lt).cell 9⟩
                      have HSM : Hid (∀ V, Below r3c.heap.size r3c V → Calls Tryz.prog 6 #[.int .i64 (-1), .int .i64 5] V fun e w' => ∃ a ca b cb, e = .returned (.agg #[.bool true, .slice a 1 ca, .slice b 1 cb]) ∧ Hid (Sl w' (.slice a 1 ca) [1] ∧ Sl w' (.slice b 1 cb) [5]) ∧ Below V.heap.size V w' ∧ Below r3c.heap.size r3c w') := fun V hv => by
                        refine Calls.mono (rx_small (-1) (5) V (by decide) (by decide) (by decide) (by decide) (by decide) KX.out) ?_
                        rintro x w' ⟨a, ca, b, cb, rfl, s, hb⟩
                        exact ⟨a, ca, b, cb, rfl, s, hb, bt hv hb⟩
                      have HFL := hid (fun V a ca b cb hv s => rx_floor_reg r3c KX.out LW.out (by decide) V a ca b cb hv s)
                      have HD0 := hid (Below.drew (Below.refl r3c.heap.size r3c))
                      have hs0 := HS3.out _ HD0.out
                      have hw1 : IntKind.i64.wrap (2 * 4) = 8 := by decide
                      have hw2 : IntKind.i64.wrap (8 + 1) = 9 := by decide
                      have hw3 : IntKind.i64.wrap 8 = 8 := by decide
                      have hw4 : IntKind.i64.wrap 9 = 9 := by decide
                      go_upto_region 27 with fail
                      go_cut [28, 29] from 174 to 189 (fun s28 s29 wx => Hid (RxCut r3c true [1] 1 s28 s29 wx))
                      case first =>
                        go_region_held3 (fun V : World => V.cell? ⟨s9.heap.size, 8, none⟩ = some (.int .i64 (-1)) ∧ V.cell? ⟨s9.heap.size, 9, none⟩ = some (.int .i64 5)) (first | with_reducible exact hs2 | with_reducible exact hs1 | with_reducible exact hs0 | (refine HS3.out _ ?_; repeat' first | exact hb2 | exact hb1 | exact HD0.out | exact Below.refl _ _ | refine rx_balloc1 ?_ _ | refine Below.drew ?_ | refine below_put2 ?_ _ ?_ _ _ | exact Nat.le_refl _ | exact hb1.size | exact hb2.size | omega))
                          (first
                            | (go_at_call 6; (with_reducible refine Calls.mono (HSM.out _ (by repeat' first | exact HD0.out | refine rx_balloc1 ?_ _ | refine Below.drew ?_ | exact Below.refl _ _)) ?_); rintro e z1 ⟨a0, ca0, b0, cb0, rfl, HR1, hv1, hb1⟩; obtain ⟨fa1, fa2, fa3⟩ := rx_far hv1; have hs1 := HS3.out z1 hb1; have hl1 := hb1.size)
                            | (go_at_call 13; (with_reducible refine Calls.mono (HFL.out _ a0 ca0 b0 cb0 (by first | exact hb1 | exact rx_balloc1 hb1 _) (by first | exact HR1.out | exact ⟨HR1.out.1.later (alloc_later _ _), HR1.out.2.later (alloc_later _ _)⟩)) ?_); rintro e z2 ⟨q1, q2, rfl, hb2, hv2, HR2⟩; obtain ⟨fb1, fb2, fb3⟩ := rx_far hv2; have hs2 := HS3.out z2 hb2; have hl2 := hb2.size))
                        all_goals
                          clear HSM HFL HS3 hs0 hs1 hs2 fa1 fa2 fa3 fb1 fb2 fb3
                          go_wp2_with fail
                          go_meet
                        all_goals first | with_reducible exact hid (rx_new hb2 HR2.out) | with_reducible exact hid (rx_old hb2 HR2.out ((Box.made z1 _ _).later hv2 (Box.made z1 _ _).lt) hl1) | exact hid (rx_old hb2 HR2.out (((Box.made r3c.drew _ _).later hv1 (Box.made r3c.drew _ _).lt).later hv2 ((Box.made r3c.drew _ _).later hv1 (Box.made r3c.drew _ _).lt).lt) (Nat.le_refl _)) | exact hid (rx_old hb2 HR2.out (((Box.made r3c _ _).later hv1 (Box.made r3c _ _).lt).later hv2 ((Box.made r3c _ _).later hv1 (Box.made r3c _ _).lt).lt) (Nat.le_refl _))
                      case rest =>
                        obtain ⟨p28, aw, cw, rfl, rfl, hpb, hrow⟩ := hcut.out.ex
                        have hbel := hcut.out.bel
                        have Slow := hid (Sl.own hrow LW.out.wd)
                        have Glow := hid hpb
                        obtain ⟨r4a, hww⟩ : ∃ v, wc = v := ⟨_, rfl⟩
                        rw [hww] at hbel Slow Glow ⊢
                        clear hcut hrow hpb hww HS3 HSM HFL HD0 hs0 hw1 hw2 hw3 hw4 wc
                        have Slow : Hid (Sl r4a (.slice aw 1 cw) [1]) := Slow
                        have HW90 := hid (bt HW89.out hbel)
                        have Hfl90 := hid (Hfl89.out.later hbel Hfl89.out.lt)
                        have Hwt90 := hid (Hwt89.out.later hbel Hwt89.out.lt)
                        clear HW89 Hfl89 Hwt89
                        clear hbel
                        have cllow_0 : r4a.cell? ⟨p28, 0, none⟩ = some (.bool true) := Glow.out.cell 0
                        have cllow_1 : r4a.cell? ⟨p28, 1, none⟩ = some (.slice aw 1 cw) := Glow.out.cell 1
                        have Gone := hid (Box.made r4a 30 #[.int .u32 1])
                        have Lone := hid (alloc_later r4a (.cells #[.int .u32 1] 30))
                        obtain ⟨Yone, hYone⟩ : ∃ Yone, r4a.alloc (.cells #[.int .u32 1] 30) = Yone := ⟨_, rfl⟩
                        rw [hYone] at Gone Lone
                        have HW91 := hid (bt HW90.out Lone.out)
                        have Hfl91 := hid (Hfl90.out.later Lone.out Hfl90.out.lt)
                        have Hwt91 := hid (Hwt90.out.later Lone.out Hwt90.out.lt)
                        have Hlow91 := hid (Glow.out.later Lone.out Glow.out.lt)
                        have Slow91 := hid (Slow.out.later Lone.out)
                        clear HW90 Hfl90 Hwt90 Glow Slow
                        have SO := hid (rx_sl_one Gone.out (by decide))
                        go_wp2_with fail
                        refine Calls.mono (rx_made LW.out KR.out aw cw _ _ _ Slow91.out SO.out) ?_
                        rintro x r4b ⟨a, c, b, d, rfl, Sr, hb⟩
                        clear hYone cllow_0 cllow_1
                        have HW92 := hid (bt HW91.out hb)
                        have Hfl92 := hid (Hfl91.out.later hb Hfl91.out.lt)
                        have Hwt92 := hid (Hwt91.out.later hb Hwt91.out.lt)
                        have Hlow92 := hid (Hlow91.out.later hb Hlow91.out.lt)
                        have Hone92 := hid (Gone.out.later hb Gone.out.lt)
                        have Slow92 := hid (Slow91.out.later hb)
                        have So92 := hid (SO.out.later hb)
                        clear HW91 Hfl91 Hwt91 Hlow91 Gone Slow91 SO
                        clear hb
                        clear So92
                        clear Slow92
                        clear Hone92 Hlow92 LW
                        have Gr30 := hid (Box.made r4b 24 #[.bool true, .slice a 1 c, .slice b 1 d])
                        have Lr30 := hid (alloc_later r4b (.cells #[.bool true, .slice a 1 c, .slice b 1 d] 24))
                        obtain ⟨Yr30, hYr30⟩ : ∃ Yr30, r4b.alloc (.cells #[.bool true, .slice a 1 c, .slice b 1 d] 24) = Yr30 := ⟨_, rfl⟩
                        rw [hYr30] at Gr30 Lr30
                        have HW93 := hid (bt HW92.out Lr30.out)
                        have Hfl93 := hid (Hfl92.out.later Lr30.out Hfl92.out.lt)
                        have Hwt93 := hid (Hwt92.out.later Lr30.out Hwt92.out.lt)
                        have Sr93 := hid (And.intro (Sr.out.1.later Lr30.out) (Sr.out.2.later Lr30.out))
                        clear HW92 Hfl92 Hwt92 Sr
                        have HK : Hid (∀ V, Below Yr30.heap.size Yr30 V → V.cell? ⟨r4b.heap.size, 0, none⟩ = some (.bool true) ∧ V.cell? ⟨r4b.heap.size, 1, none⟩ = some (.slice a 1 c) ∧ V.cell? ⟨r4b.heap.size, 2, none⟩ = some (.slice b 1 d) ∧ V.cell? ⟨s9.heap.size + 1, 4, none⟩ = some (.int .i64 (-1))) := fun V hv => by
                          have h := Gr30.out.later hv Gr30.out.lt
                          exact ⟨h.cell 0, h.cell 1, h.cell 2, (Hwt93.out.later hv Hwt93.out.lt).cell 4⟩
                        have HD := hid (Below.drew (Below.refl Yr30.heap.size Yr30))
                        have hs0 := HK.out _ HD.out
                        have HS2 : Hid (∀ V, Below Yr30.heap.size Yr30 V → Calls Tryz.prog 6 #[.int .i64 (-1), .int .i64 1] V fun e w' => ∃ a' c' b' d', e = .returned (.agg #[.bool true, .slice a' 1 c', .slice b' 1 d']) ∧ (w'.cell? ⟨r4b.heap.size, 0, none⟩ = some (.bool true) ∧ w'.cell? ⟨r4b.heap.size, 1, none⟩ = some (.slice a 1 c) ∧ w'.cell? ⟨r4b.heap.size, 2, none⟩ = some (.slice b 1 d) ∧ w'.cell? ⟨s9.heap.size + 1, 4, none⟩ = some (.int .i64 (-1))) ∧ Hid (Sl w' (.slice a' 1 c') [1] ∧ Sl w' (.slice b' 1 d') [1]) ∧ Hid (Below Yr30.heap.size Yr30 w')) := fun V hv => by
                          refine Calls.mono (rx_small (-1) 1 V (by decide) (by decide) (by decide) (by decide) (by decide) KR.out) ?_
                          rintro e w' ⟨a', c', b', d', rfl, s, hb⟩
                          exact ⟨a', c', b', d', rfl, HK.out w' (bt hv hb), s.out, bt hv hb⟩
                        have HSM : Hid (∀ V a' c' b' d', Below Yr30.heap.size Yr30 V → (Sl V (.slice a' 1 c') [1] ∧ Sl V (.slice b' 1 d') [1]) → Calls Tryz.prog 15 #[.agg #[.bool true, .slice a 1 c, .slice b 1 d], .agg #[.bool true, .slice a' 1 c', .slice b' 1 d']] V fun e w' => e = .returned (.bool true) ∧ (w'.cell? ⟨r4b.heap.size, 0, none⟩ = some (.bool true) ∧ w'.cell? ⟨r4b.heap.size, 1, none⟩ = some (.slice a 1 c) ∧ w'.cell? ⟨r4b.heap.size, 2, none⟩ = some (.slice b 1 d) ∧ w'.cell? ⟨s9.heap.size + 1, 4, none⟩ = some (.int .i64 (-1))) ∧ Hid (Below Yr30.heap.size Yr30 w')) := fun V a' c' b' d' hv hh => by
                          refine Calls.mono (rx_same KR.out a c b d a' c' b' d' V ⟨Sr93.out.1.later hv, Sr93.out.2.later hv⟩ hh) ?_
                          rintro e w' ⟨rfl, hb⟩
                          exact ⟨rfl, HK.out w' (bt hv hb), bt hv hb⟩
                        go_upto_region 29 with fail
                        clear hYr30
                        go_cut [212] from 197 to 211 (fun s wx => s = .bool false ∧ Hid (Below Yr30.heap.size Yr30 wx))
                        case first =>
                          go_region_held3 (fun V : World => V.cell? ⟨r4b.heap.size, 0, none⟩ = some (.bool true) ∧ V.cell? ⟨r4b.heap.size, 1, none⟩ = some (.slice a 1 c) ∧ V.cell? ⟨r4b.heap.size, 2, none⟩ = some (.slice b 1 d) ∧ V.cell? ⟨s9.heap.size + 1, 4, none⟩ = some (.int .i64 (-1))) (first | with_reducible exact hsB | with_reducible exact hsA | with_reducible exact hs0)
                            (first
                              | (go_at_call 6; (with_reducible refine Calls.mono (HS2.out _ HD.out) ?_); rintro e z1 ⟨a', c', b', d', rfl, hsA, HSA, HBA⟩)
                              | (go_at_call 15; (with_reducible refine Calls.mono (HSM.out _ a' c' b' d' HBA.out HSA.out) ?_); rintro e z2 ⟨rfl, hsB, HBB⟩))
                          all_goals
                            go_wp2_with fail
                            go_meet
                          all_goals exact ⟨rfl, HBB⟩
                        case rest =>
                          obtain ⟨rfl, hbc⟩ := hcut
                          have hbel := hbc.out
                          obtain ⟨r4c, hww⟩ : ∃ v, wc = v := ⟨_, rfl⟩
                          rw [hww] at hbel ⊢
                          clear hbc hww wc HK HD hs0 HS2 HSM
                          have HW94 := hid (bt HW93.out hbel)
                          have Hfl94 := hid (Hfl93.out.later hbel Hfl93.out.lt)
                          have Hwt94 := hid (Hwt93.out.later hbel Hwt93.out.lt)
                          have Hr3094 := hid (Gr30.out.later hbel Gr30.out.lt)
                          have Sr94 := hid (And.intro (Sr93.out.1.later hbel) (Sr93.out.2.later hbel))
                          clear HW93 Hfl93 Hwt93 Gr30 Sr93
                          clear hbel
                          clear Sr94
                          clear Hr3094 KX KR
                          go_wp2_with fail
                          rw [rounds_succ]
                          clear Hfl94 Hwt94
                          have Go31 := hid (Box.made r4c 30 #[.int .u32 1])
                          have Lo31 := hid (alloc_later r4c (.cells #[.int .u32 1] 30))
                          obtain ⟨Yo31, hYo31⟩ : ∃ Yo31, r4c.alloc (.cells #[.int .u32 1] 30) = Yo31 := ⟨_, rfl⟩
                          rw [hYo31] at Go31 Lo31
                          have HW95 := hid (bt HW94.out Lo31.out)
                          clear HW94
                          have SO := hid (rx_sl_one Go31.out (by decide))
                          go_wp2_with fail
                          refine Calls.mono (rx_make_z _ _ _ SO.out) ?_
                          rintro x t1 ⟨a32, c32, b32, d32, rfl, hb⟩
                          have HW96 := hid (bt HW95.out hb)
                          have Ho3196 := hid (Go31.out.later hb Go31.out.lt)
                          have So96 := hid (SO.out.later hb)
                          clear HW95 Go31 SO
                          clear hYo31
                          clear hb
                          clear So96
                          clear Ho3196
                          have Gb32 := hid (Box.made t1 24 #[.bool false, .slice a32 0 c32, .slice b32 0 d32])
                          have Lb32 := hid (alloc_later t1 (.cells #[.bool false, .slice a32 0 c32, .slice b32 0 d32] 24))
                          obtain ⟨Yb32, hYb32⟩ : ∃ Yb32, t1.alloc (.cells #[.bool false, .slice a32 0 c32, .slice b32 0 d32] 24) = Yb32 := ⟨_, rfl⟩
                          rw [hYb32] at Gb32 Lb32
                          have HW97 := hid (bt HW96.out Lb32.out)
                          clear HW96
                          go_wp2_with fail
                          refine Calls.mono (rx_make_n _) ?_
                          rintro x t2 ⟨a34, c34, b34, d34, rfl, hb⟩
                          have HW98 := hid (bt HW97.out hb)
                          have Hb3298 := hid (Gb32.out.later hb Gb32.out.lt)
                          clear HW97 Gb32
                          clear hYb32
                          clear hb
                          clear Hb3298
                          have Gb34 := hid (Box.made t2 24 #[.bool false, .slice a34 0 c34, .slice b34 0 d34])
                          have Lb34 := hid (alloc_later t2 (.cells #[.bool false, .slice a34 0 c34, .slice b34 0 d34] 24))
                          obtain ⟨Yb34, hYb34⟩ : ∃ Yb34, t2.alloc (.cells #[.bool false, .slice a34 0 c34, .slice b34 0 d34] 24) = Yb34 := ⟨_, rfl⟩
                          rw [hYb34] at Gb34 Lb34
                          have HW99 := hid (bt HW98.out Lb34.out)
                          clear HW98
                          go_wp2_with fail
                          refine Calls.mono (rawake_any _ (HT.out _ HW99.out)) ?_
                          rintro x t3 ⟨rfl, hb⟩
                          have HW100 := hid (bt HW99.out hb)
                          have Hb34100 := hid (Gb34.out.later hb Gb34.out.lt)
                          clear HW99 Gb34
                          clear hYb34
                          clear hb
                          go_wp2_with fail
                          go_ret
                          exact ⟨rfl, HW100.out⟩
end Go.Proofs.YtmncfbjoplfikaaGreatDoor

