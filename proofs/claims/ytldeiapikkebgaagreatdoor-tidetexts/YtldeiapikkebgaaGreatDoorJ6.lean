/- My texts on the way to TideTexts, one behind the other: contracts of the program and of the document's answers. -/
import Derived.Test.YtldeiapikkebgaaGreatDoorJ5
import Derived.Deep.RegionHeld3
/- The document's answer for Parse of a fraction, way by way: without a sign. -/
namespace Go.Proofs.YtldeiapikkebgaaGreatDoor
open Go.RowKit Go.Lib
set_option linter.unusedVariables false

set_option maxHeartbeats 6400000 in
set_option maxRecDepth 100000 in
theorem dparse_C1e (s : ByteArray) (w : World) (hs : s.size ≤ 65536) (h0 : s.size = 0) (n : Nat) (hd : Digs s.data.toList 0 n 0) (q : Rat) :
    Calls Tryz.prog 57 #[.string s] w (RTold w 130 q) := by
  have HB := hid (alloc_later w (.cells #[.bool false, .slice none 0 0, .slice none 0 0] 26))
  have HZ := hid (Box.made w 26 #[.bool false, .slice none 0 0, .slice none 0 0])
  have hs' : ¬ (65536 : Int) < (s.size : Int) := by omega
  have hz0 : ¬ (0 : Int) < (s.size : Int) := by omega
  have HD := hid hd
  clear hd
  go_enter Tryz.func57, Tryz.ntmps57
  have HH := hid (digits_any s 0 (w.alloc (.cells #[.bool false, .slice none 0 0, .slice none 0 0] 26)) hs (by omega))
  go_wp2_with fail
  refine Calls.mono HH.out ?_
  rintro e w1 ⟨n', r', rfl, HD', rfl⟩
  obtain ⟨rfl, rfl⟩ := Digs.uniq HD.out HD'.out
  clear HH HD'
  obtain ⟨r0, r1, r2, f0, f1, f2⟩ := res_box3 HZ.out (Below.refl (w.alloc (.cells #[.bool false, .slice none 0 0, .slice none 0 0] 26)).heap.size (w.alloc (.cells #[.bool false, .slice none 0 0, .slice none 0 0] 26)))
  have HBA := hid (bt HB.out (Below.refl (w.alloc (.cells #[.bool false, .slice none 0 0, .slice none 0 0] 26)).heap.size (w.alloc (.cells #[.bool false, .slice none 0 0, .slice none 0 0] 26))))
  go_wp2_with fail
  refine bodyPost_ret (v := .tuple #[.agg #[.bool false, .slice none 0 0, .slice none 0 0], .int .i64 130]) (by simp [results, Tryz.results57, go_sem, r0, r1, r2]) rfl ?_
  exact RTold.zero (by decide) HB.out

set_option maxHeartbeats 6400000 in
set_option maxRecDepth 100000 in
theorem dparse_C10 (s : ByteArray) (w : World) (hs : s.size ≤ 65536) (h0 : 0 < s.size) (hc : ¬ s[0] = 45) (n : Nat) (hd : Digs s.data.toList 0 n 0) (q : Rat) :
    Calls Tryz.prog 57 #[.string s] w (RTold w 130 q) := by
  have HB := hid (alloc_later w (.cells #[.bool false, .slice none 0 0, .slice none 0 0] 26))
  have HZ := hid (Box.made w 26 #[.bool false, .slice none 0 0, .slice none 0 0])
  have hs' : ¬ (65536 : Int) < (s.size : Int) := by omega
  have hz0 : (0 : Int) < (s.size : Int) := by omega
  have hq0 : ((s[0].toNat : Int) == 45) = false := byte_no (d := 45) hc rfl
  have HD := hid hd
  clear hd
  go_enter Tryz.func57, Tryz.ntmps57
  have HH := hid (digits_any s 0 (w.alloc (.cells #[.bool false, .slice none 0 0, .slice none 0 0] 26)) hs (by omega))
  go_wp2_with fail
  refine Calls.mono HH.out ?_
  rintro e w1 ⟨n', r', rfl, HD', rfl⟩
  obtain ⟨rfl, rfl⟩ := Digs.uniq HD.out HD'.out
  clear HH HD'
  obtain ⟨r0, r1, r2, f0, f1, f2⟩ := res_box3 HZ.out (Below.refl (w.alloc (.cells #[.bool false, .slice none 0 0, .slice none 0 0] 26)).heap.size (w.alloc (.cells #[.bool false, .slice none 0 0, .slice none 0 0] 26)))
  have HBA := hid (bt HB.out (Below.refl (w.alloc (.cells #[.bool false, .slice none 0 0, .slice none 0 0] 26)).heap.size (w.alloc (.cells #[.bool false, .slice none 0 0, .slice none 0 0] 26))))
  go_wp2_with fail
  refine bodyPost_ret (v := .tuple #[.agg #[.bool false, .slice none 0 0, .slice none 0 0], .int .i64 130]) (by simp [results, Tryz.results57, go_sem, r0, r1, r2]) rfl ?_
  exact RTold.zero (by decide) HB.out

set_option maxHeartbeats 6400000 in
set_option maxRecDepth 100000 in
theorem dparse_E0 (s : ByteArray) (w : World) (hs : s.size ≤ 65536) (h0 : 0 < s.size) (hc : ¬ s[0] = 45) (n r : Nat) (hd : Digs s.data.toList 0 n r) (hr : r ≠ 0) (he : 0 + r = s.size) (q : Rat) (hq : Rat.divInt (sg false (numTo ((s.data.toList.drop 0).take r) ((s.data.toList.drop 0).take r).length)) 1 = q) :
    Calls Tryz.prog 57 #[.string s] w (RTold w 0 q) := by
  have HB := hid (alloc_later w (.cells #[.bool false, .slice none 0 0, .slice none 0 0] 26))
  have HZ := hid (Box.made w 26 #[.bool false, .slice none 0 0, .slice none 0 0])
  have hs' : ¬ (65536 : Int) < (s.size : Int) := by omega
  have hz0 : (0 : Int) < (s.size : Int) := by omega
  have hq0 : ((s[0].toNat : Int) == 45) = false := byte_no (d := 45) hc rfl
  have HD := hid hd
  obtain ⟨hrn, hN⟩ := digs_num hd hr
  subst hrn
  have HLN := hid hd.1.len
  have HNM := hid hN
  have hls := size_list s
  have hr1 : ((r : Int) == 0) = false := beq_eq_false_iff_ne.2 (by omega)
  clear hN hd
  have hbA := HLN.out
  rw [hls] at hbA
  have HWB : Hid ((0 : Int) ≤ (r : Int) ∧ (r : Int) ≤ 1000000) := ⟨by omega, by omega⟩
  have ht1 : (r : Int).toNat = 0 + r := by omega
  have hb1 : (0 : Int) ≤ (r : Int) := by omega
  have hb2 : (r : Int) ≤ (s.size : Int) := by omega
  have hb3 : (0 : Int) ≤ (r : Int) := by omega
  have HX1 : Hid ((s.extract 0 r).data.toList = (s.data.toList.drop 0).take r) := by show _ = _; rw [extract_list]; congr 1
  have hx1 : (s.extract 0 r).size ≤ 65536 := by rw [← size_list, HX1.out, List.length_take, List.length_drop]; omega
  have hlt : ¬ (r : Int) < (s.size : Int) := by omega
  have HQQ := hid hq
  clear hq he hls
  obtain ⟨hw1, hw2⟩ := wrapI HWB.out.1 HWB.out.2
  clear HWB
  go_enter Tryz.func57, Tryz.ntmps57
  have HH := hid (digits_any s 0 (w.alloc (.cells #[.bool false, .slice none 0 0, .slice none 0 0] 26)) hs (by omega))
  go_wp2_with fail
  refine Calls.mono HH.out ?_
  rintro e w1 ⟨n', r', rfl, HD', rfl⟩
  obtain ⟨rfl, rfl⟩ := Digs.uniq HD.out HD'.out
  clear HH HD'
  have HH := hid (number_good (s.extract 0 r) (w.alloc (.cells #[.bool false, .slice none 0 0, .slice none 0 0] 26)) hx1 _ HX1.out HNM.out)
  go_wp2_with fail
  refine Calls.mono HH.out ?_
  rintro e w2 ⟨a2, z2, c2, rfl, H2, hb2⟩
  clear HH hx1 HX1
  generalize s.extract 0 r = T1 at *
  have HH := hid (one3_any w2)
  go_wp2_with fail
  refine Calls.mono HH.out ?_
  rintro e w3 ⟨g3, rfl, o3, hb3⟩
  clear HH
  have HB3 := hid (bt hb2 hb3)
  have HO3 := hid o3
  have HZ2 := hid ((Sl.own H2.out.1.1 H2.out.1.2.1).later hb3)
  have HL2 := hid (And.intro H2.out.2 H2.out.1.2.2.1)
  have HQ : Hid (Rat.divInt (sg false (val z2)) (val [1]) = q) := by show _ = _; rw [H2.out.1.2.2.2, show val [1] = 1 by simp [val, valTo]]; exact HQQ.out
  clear o3 hb2 hb3 H2 HQQ
  have HO : Calls Tryz.prog 80 #[.bool false, .slice a2 z2.length c2, .slice (some ⟨g3, 0, none⟩) 1 1] w3 (RTold w3 0 (Rat.divInt (sg false (val z2)) (val [1]))) := of3_any false _ _ z2 _ _ [1] w3 HZ2.out (Sl.own (xs := [1]) HO3.out (Wd.one (by omega))) HL2.out.1 (by simp) HL2.out.2 rfl (by simp)
  rw [HQ.out] at HO
  have HH := hid (HO)
  go_wp2_with fail
  refine Calls.mono HH.out ?_
  rintro e w9 ⟨k9, v9, z9, u9, d9, code, rfl, o9, p9, t9, hb9⟩
  clear HH
  obtain ⟨a9, c9, hv⟩ := own_slice' o9
  subst hv
  obtain ⟨b9, l9, hv⟩ := own_slice' p9
  subst hv
  have hbX := bt HB3.out hb9
  obtain ⟨r0, r1, r2, f0, f1, f2⟩ := res_box3 HZ.out hbX
  have HBW := hid (bt HB.out hbX)
  have hzz := (HB3.out).size
  have HE9 := hid (And.intro (owns_base o9 hzz) (And.intro (owns_base p9 hzz) t9))
  have HLT : Hid (w.heap.size < (w.alloc (.cells #[.bool false, .slice none 0 0, .slice none 0 0] 26)).heap.size) := by show _ < _; simp
  clear hbX o9 p9 t9 hb9 hzz HO
  go_wp2_with fail
  refine bodyPost_ret (v := .tuple #[.agg #[.bool k9, .slice a9 z9.length c9, .slice b9 d9.length l9], .int .i64 code]) (by simp [results, Tryz.results57, go_sem, r0, r1, r2]) rfl ?_
  exact RTold.put HE9.out w.heap.size HLT.out (Nat.le_refl _) HBW.out _ _ _

set_option maxHeartbeats 6400000 in
set_option maxRecDepth 100000 in
theorem dparse_B0 (s : ByteArray) (w : World) (hs : s.size ≤ 65536) (h0 : 0 < s.size) (hc : ¬ s[0] = 45) (n r : Nat) (hd : Digs s.data.toList 0 n r) (hr : r ≠ 0) (he : 0 + r < s.size) (hc2 : ¬ s[0 + r] = 47) (q : Rat) :
    Calls Tryz.prog 57 #[.string s] w (RTold w 130 q) := by
  have HB := hid (alloc_later w (.cells #[.bool false, .slice none 0 0, .slice none 0 0] 26))
  have HZ := hid (Box.made w 26 #[.bool false, .slice none 0 0, .slice none 0 0])
  have hs' : ¬ (65536 : Int) < (s.size : Int) := by omega
  have hz0 : (0 : Int) < (s.size : Int) := by omega
  have hq0 : ((s[0].toNat : Int) == 45) = false := byte_no (d := 45) hc rfl
  have HD := hid hd
  obtain ⟨hrn, hN⟩ := digs_num hd hr
  subst hrn
  have HLN := hid hd.1.len
  have HNM := hid hN
  have hls := size_list s
  have hr1 : ((r : Int) == 0) = false := beq_eq_false_iff_ne.2 (by omega)
  clear hN hd
  have hbA := HLN.out
  rw [hls] at hbA
  have HWB : Hid ((0 : Int) ≤ (r : Int) ∧ (r : Int) ≤ 1000000) := ⟨by omega, by omega⟩
  have ht1 : (r : Int).toNat = 0 + r := by omega
  have hb1 : (0 : Int) ≤ (r : Int) := by omega
  have hb2 : (r : Int) ≤ (s.size : Int) := by omega
  have hb3 : (0 : Int) ≤ (r : Int) := by omega
  have HX1 : Hid ((s.extract 0 r).data.toList = (s.data.toList.drop 0).take r) := by show _ = _; rw [extract_list]; congr 1
  have hx1 : (s.extract 0 r).size ≤ 65536 := by rw [← size_list, HX1.out, List.length_take, List.length_drop]; omega
  have hlt : (r : Int) < (s.size : Int) := by omega
  have hlb : r < s.size := by omega
  have hcb : ((s[r].toNat : Int) == 47) = false := byte_no (d := 47) (by have e := hc2; simp only [Nat.zero_add] at e; exact e) rfl
  clear hc2 hls
  obtain ⟨hw1, hw2⟩ := wrapI HWB.out.1 HWB.out.2
  clear HWB
  go_enter Tryz.func57, Tryz.ntmps57
  have HH := hid (digits_any s 0 (w.alloc (.cells #[.bool false, .slice none 0 0, .slice none 0 0] 26)) hs (by omega))
  go_wp2_with fail
  refine Calls.mono HH.out ?_
  rintro e w1 ⟨n', r', rfl, HD', rfl⟩
  obtain ⟨rfl, rfl⟩ := Digs.uniq HD.out HD'.out
  clear HH HD'
  have HH := hid (number_good (s.extract 0 r) (w.alloc (.cells #[.bool false, .slice none 0 0, .slice none 0 0] 26)) hx1 _ HX1.out HNM.out)
  go_wp2_with fail
  refine Calls.mono HH.out ?_
  rintro e w2 ⟨a2, z2, c2, rfl, H2, hb2⟩
  clear HH hx1 HX1
  generalize s.extract 0 r = T1 at *
  have HH := hid (one3_any w2)
  go_wp2_with fail
  refine Calls.mono HH.out ?_
  rintro e w3 ⟨g3, rfl, o3, hb3⟩
  clear HH
  obtain ⟨r0, r1, r2, f0, f1, f2⟩ := res_box3 HZ.out (bt hb2 hb3)
  have HBA := hid (bt HB.out (bt hb2 hb3))
  go_wp2_with fail
  refine bodyPost_ret (v := .tuple #[.agg #[.bool false, .slice none 0 0, .slice none 0 0], .int .i64 130]) (by simp [results, Tryz.results57, go_sem, r0, r1, r2]) rfl ?_
  exact RTold.zero (by decide) (below_put3 HBA.out _ (Nat.le_refl _) _ _ _)

set_option maxHeartbeats 6400000 in
set_option maxRecDepth 100000 in
theorem dparse_F10 (s : ByteArray) (w : World) (hs : s.size ≤ 65536) (h0 : 0 < s.size) (hc : ¬ s[0] = 45) (n r : Nat) (hd : Digs s.data.toList 0 n r) (hr : r ≠ 0) (he : 0 + r < s.size) (hc2 : s[0 + r] = 47) (m p : Nat) (hd2 : Digs s.data.toList (r + 1) m p) (hp : p = 0) (q : Rat) :
    Calls Tryz.prog 57 #[.string s] w (RTold w 130 q) := by
  have HB := hid (alloc_later w (.cells #[.bool false, .slice none 0 0, .slice none 0 0] 26))
  have HZ := hid (Box.made w 26 #[.bool false, .slice none 0 0, .slice none 0 0])
  have hs' : ¬ (65536 : Int) < (s.size : Int) := by omega
  have hz0 : (0 : Int) < (s.size : Int) := by omega
  have hq0 : ((s[0].toNat : Int) == 45) = false := byte_no (d := 45) hc rfl
  have HD := hid hd
  obtain ⟨hrn, hN⟩ := digs_num hd hr
  subst hrn
  have HLN := hid hd.1.len
  have HNM := hid hN
  have hls := size_list s
  have hr1 : ((r : Int) == 0) = false := beq_eq_false_iff_ne.2 (by omega)
  clear hN hd
  have hbA := HLN.out
  rw [hls] at hbA
  have HWB : Hid ((0 : Int) ≤ (r : Int) ∧ (r : Int) ≤ 1000000) := ⟨by omega, by omega⟩
  have ht1 : (r : Int).toNat = 0 + r := by omega
  have hb1 : (0 : Int) ≤ (r : Int) := by omega
  have hb2 : (r : Int) ≤ (s.size : Int) := by omega
  have hb3 : (0 : Int) ≤ (r : Int) := by omega
  have HX1 : Hid ((s.extract 0 r).data.toList = (s.data.toList.drop 0).take r) := by show _ = _; rw [extract_list]; congr 1
  have hx1 : (s.extract 0 r).size ≤ 65536 := by rw [← size_list, HX1.out, List.length_take, List.length_drop]; omega
  have hlt : (r : Int) < (s.size : Int) := by omega
  have hlb : r < s.size := by omega
  have hcb : ((s[r].toNat : Int) == 47) = true := byte_yes (d := 47) (by have e := hc2; simp only [Nat.zero_add] at e; exact e) rfl
  have HWU : Hid ((0 : Int) ≤ ((r : Int) + 1) ∧ ((r : Int) + 1) ≤ 1000000) := ⟨by omega, by omega⟩
  have HD2 := hid hd2
  have hlm := hd2.1.len
  rw [hls] at hlm
  have hpm : p ≤ m := by rcases hd2.2 with e | e <;> omega
  have HWV : Hid ((0 : Int) ≤ ((r : Int) + 1) + (p : Int) ∧ ((r : Int) + 1) + (p : Int) ≤ 1000000) := ⟨by omega, by omega⟩
  have HKB : Hid ((((r + 1) : Nat) : Int) = ((r : Int) + 1)) := cast1 r
  have HDG : Hid (∀ V, Calls Tryz.prog 78 #[.string s, .int .i64 ((r : Int) + 1)] V fun e V' => ∃ n1 r1 : Nat, e = .returned (.int .i64 r1) ∧ Hid (Digs s.data.toList (r + 1) n1 r1) ∧ V = V') := fun V => by
    have e := digits_any s (r + 1) V hs hlb
    rw [HKB.out] at e
    exact e
  clear hc2 hd2
  have hp0 : ((p : Int) == 0) = true := by rw [hp]; rfl
  clear hp hls
  obtain ⟨hw1, hw2⟩ := wrapI HWB.out.1 HWB.out.2
  clear HWB
  obtain ⟨hu1, hu2⟩ := wrapI HWU.out.1 HWU.out.2
  clear HWU
  obtain ⟨hv1, hv2⟩ := wrapI HWV.out.1 HWV.out.2
  clear HWV
  go_enter Tryz.func57, Tryz.ntmps57
  have HH := hid (digits_any s 0 (w.alloc (.cells #[.bool false, .slice none 0 0, .slice none 0 0] 26)) hs (by omega))
  go_wp2_with fail
  refine Calls.mono HH.out ?_
  rintro e w1 ⟨n', r', rfl, HD', rfl⟩
  obtain ⟨rfl, rfl⟩ := Digs.uniq HD.out HD'.out
  clear HH HD'
  have HH := hid (number_good (s.extract 0 r) (w.alloc (.cells #[.bool false, .slice none 0 0, .slice none 0 0] 26)) hx1 _ HX1.out HNM.out)
  go_wp2_with fail
  refine Calls.mono HH.out ?_
  rintro e w2 ⟨a2, z2, c2, rfl, H2, hb2⟩
  clear HH hx1 HX1
  generalize s.extract 0 r = T1 at *
  have HH := hid (one3_any w2)
  go_wp2_with fail
  refine Calls.mono HH.out ?_
  rintro e w3 ⟨g3, rfl, o3, hb3⟩
  clear HH
  have HH := hid (HDG.out w3)
  go_wp2_with fail
  refine Calls.mono HH.out ?_
  rintro e w4 ⟨m', p', rfl, HD', rfl⟩
  obtain ⟨rfl, rfl⟩ := Digs.uniq HD2.out HD'.out
  clear HH HD' HDG
  obtain ⟨r0, r1, r2, f0, f1, f2⟩ := res_box3 HZ.out (bt hb2 hb3)
  have HBA := hid (bt HB.out (bt hb2 hb3))
  go_wp2_with fail
  refine bodyPost_ret (v := .tuple #[.agg #[.bool false, .slice none 0 0, .slice none 0 0], .int .i64 130]) (by simp [results, Tryz.results57, go_sem, r0, r1, r2]) rfl ?_
  exact RTold.zero (by decide) (below_put3 HBA.out _ (Nat.le_refl _) _ _ _)

set_option maxHeartbeats 6400000 in
set_option maxRecDepth 100000 in
theorem dparse_F20 (s : ByteArray) (w : World) (hs : s.size ≤ 65536) (h0 : 0 < s.size) (hc : ¬ s[0] = 45) (n r : Nat) (hd : Digs s.data.toList 0 n r) (hr : r ≠ 0) (he : 0 + r < s.size) (hc2 : s[0 + r] = 47) (m p : Nat) (hd2 : Digs s.data.toList (r + 1) m p) (hp : p ≠ 0) (hq2 : (r + 1) + p ≠ s.size) (q : Rat) :
    Calls Tryz.prog 57 #[.string s] w (RTold w 130 q) := by
  have HB := hid (alloc_later w (.cells #[.bool false, .slice none 0 0, .slice none 0 0] 26))
  have HZ := hid (Box.made w 26 #[.bool false, .slice none 0 0, .slice none 0 0])
  have hs' : ¬ (65536 : Int) < (s.size : Int) := by omega
  have hz0 : (0 : Int) < (s.size : Int) := by omega
  have hq0 : ((s[0].toNat : Int) == 45) = false := byte_no (d := 45) hc rfl
  have HD := hid hd
  obtain ⟨hrn, hN⟩ := digs_num hd hr
  subst hrn
  have HLN := hid hd.1.len
  have HNM := hid hN
  have hls := size_list s
  have hr1 : ((r : Int) == 0) = false := beq_eq_false_iff_ne.2 (by omega)
  clear hN hd
  have hbA := HLN.out
  rw [hls] at hbA
  have HWB : Hid ((0 : Int) ≤ (r : Int) ∧ (r : Int) ≤ 1000000) := ⟨by omega, by omega⟩
  have ht1 : (r : Int).toNat = 0 + r := by omega
  have hb1 : (0 : Int) ≤ (r : Int) := by omega
  have hb2 : (r : Int) ≤ (s.size : Int) := by omega
  have hb3 : (0 : Int) ≤ (r : Int) := by omega
  have HX1 : Hid ((s.extract 0 r).data.toList = (s.data.toList.drop 0).take r) := by show _ = _; rw [extract_list]; congr 1
  have hx1 : (s.extract 0 r).size ≤ 65536 := by rw [← size_list, HX1.out, List.length_take, List.length_drop]; omega
  have hlt : (r : Int) < (s.size : Int) := by omega
  have hlb : r < s.size := by omega
  have hcb : ((s[r].toNat : Int) == 47) = true := byte_yes (d := 47) (by have e := hc2; simp only [Nat.zero_add] at e; exact e) rfl
  have HWU : Hid ((0 : Int) ≤ ((r : Int) + 1) ∧ ((r : Int) + 1) ≤ 1000000) := ⟨by omega, by omega⟩
  have HD2 := hid hd2
  have hlm := hd2.1.len
  rw [hls] at hlm
  have hpm : p ≤ m := by rcases hd2.2 with e | e <;> omega
  have HWV : Hid ((0 : Int) ≤ ((r : Int) + 1) + (p : Int) ∧ ((r : Int) + 1) + (p : Int) ≤ 1000000) := ⟨by omega, by omega⟩
  have HKB : Hid ((((r + 1) : Nat) : Int) = ((r : Int) + 1)) := cast1 r
  have HDG : Hid (∀ V, Calls Tryz.prog 78 #[.string s, .int .i64 ((r : Int) + 1)] V fun e V' => ∃ n1 r1 : Nat, e = .returned (.int .i64 r1) ∧ Hid (Digs s.data.toList (r + 1) n1 r1) ∧ V = V') := fun V => by
    have e := digits_any s (r + 1) V hs hlb
    rw [HKB.out] at e
    exact e
  clear hc2 hd2
  have hp0 : ((p : Int) == 0) = false := beq_eq_false_iff_ne.2 (by omega)
  have hp1 : (((r : Int) + 1) + (p : Int) == (s.size : Int)) = false := beq_eq_false_iff_ne.2 (by omega)
  have hp2 : (((r : Int) + 1) + (p : Int) != (s.size : Int)) = true := bne_iff_ne.2 (by omega)
  clear hp hq2 hls
  obtain ⟨hw1, hw2⟩ := wrapI HWB.out.1 HWB.out.2
  clear HWB
  obtain ⟨hu1, hu2⟩ := wrapI HWU.out.1 HWU.out.2
  clear HWU
  obtain ⟨hv1, hv2⟩ := wrapI HWV.out.1 HWV.out.2
  clear HWV
  go_enter Tryz.func57, Tryz.ntmps57
  have HH := hid (digits_any s 0 (w.alloc (.cells #[.bool false, .slice none 0 0, .slice none 0 0] 26)) hs (by omega))
  go_wp2_with fail
  refine Calls.mono HH.out ?_
  rintro e w1 ⟨n', r', rfl, HD', rfl⟩
  obtain ⟨rfl, rfl⟩ := Digs.uniq HD.out HD'.out
  clear HH HD'
  have HH := hid (number_good (s.extract 0 r) (w.alloc (.cells #[.bool false, .slice none 0 0, .slice none 0 0] 26)) hx1 _ HX1.out HNM.out)
  go_wp2_with fail
  refine Calls.mono HH.out ?_
  rintro e w2 ⟨a2, z2, c2, rfl, H2, hb2⟩
  clear HH hx1 HX1
  generalize s.extract 0 r = T1 at *
  have HH := hid (one3_any w2)
  go_wp2_with fail
  refine Calls.mono HH.out ?_
  rintro e w3 ⟨g3, rfl, o3, hb3⟩
  clear HH
  have HH := hid (HDG.out w3)
  go_wp2_with fail
  refine Calls.mono HH.out ?_
  rintro e w4 ⟨m', p', rfl, HD', rfl⟩
  obtain ⟨rfl, rfl⟩ := Digs.uniq HD2.out HD'.out
  clear HH HD' HDG
  obtain ⟨r0, r1, r2, f0, f1, f2⟩ := res_box3 HZ.out (bt hb2 hb3)
  have HBA := hid (bt HB.out (bt hb2 hb3))
  go_wp2_with fail
  refine bodyPost_ret (v := .tuple #[.agg #[.bool false, .slice none 0 0, .slice none 0 0], .int .i64 130]) (by simp [results, Tryz.results57, go_sem, r0, r1, r2]) rfl ?_
  exact RTold.zero (by decide) (below_put3 HBA.out _ (Nat.le_refl _) _ _ _)

set_option maxHeartbeats 6400000 in
set_option maxRecDepth 100000 in
theorem dparse_G00 (s : ByteArray) (w : World) (hs : s.size ≤ 65536) (h0 : 0 < s.size) (hc : ¬ s[0] = 45) (n r : Nat) (hd : Digs s.data.toList 0 n r) (hr : r ≠ 0) (he : 0 + r < s.size) (hc2 : s[0 + r] = 47) (m p : Nat) (hd2 : Digs s.data.toList (r + 1) m p) (hp : p ≠ 0) (hq2 : (r + 1) + p = s.size) (hn2 : IsNum (s.data.toList.drop (r + 1))) (hY : (numTo (s.data.toList.drop (r + 1)) (s.data.toList.drop (r + 1)).length) = 0) (q : Rat) :
    Calls Tryz.prog 57 #[.string s] w (RTold w 130 q) := by
  have HB := hid (alloc_later w (.cells #[.bool false, .slice none 0 0, .slice none 0 0] 26))
  have HZ := hid (Box.made w 26 #[.bool false, .slice none 0 0, .slice none 0 0])
  have hs' : ¬ (65536 : Int) < (s.size : Int) := by omega
  have hz0 : (0 : Int) < (s.size : Int) := by omega
  have hq0 : ((s[0].toNat : Int) == 45) = false := byte_no (d := 45) hc rfl
  have HD := hid hd
  obtain ⟨hrn, hN⟩ := digs_num hd hr
  subst hrn
  have HLN := hid hd.1.len
  have HNM := hid hN
  have hls := size_list s
  have hr1 : ((r : Int) == 0) = false := beq_eq_false_iff_ne.2 (by omega)
  clear hN hd
  have hbA := HLN.out
  rw [hls] at hbA
  have HWB : Hid ((0 : Int) ≤ (r : Int) ∧ (r : Int) ≤ 1000000) := ⟨by omega, by omega⟩
  have ht1 : (r : Int).toNat = 0 + r := by omega
  have hb1 : (0 : Int) ≤ (r : Int) := by omega
  have hb2 : (r : Int) ≤ (s.size : Int) := by omega
  have hb3 : (0 : Int) ≤ (r : Int) := by omega
  have HX1 : Hid ((s.extract 0 r).data.toList = (s.data.toList.drop 0).take r) := by show _ = _; rw [extract_list]; congr 1
  have hx1 : (s.extract 0 r).size ≤ 65536 := by rw [← size_list, HX1.out, List.length_take, List.length_drop]; omega
  have hlt : (r : Int) < (s.size : Int) := by omega
  have hlb : r < s.size := by omega
  have hcb : ((s[r].toNat : Int) == 47) = true := byte_yes (d := 47) (by have e := hc2; simp only [Nat.zero_add] at e; exact e) rfl
  have HWU : Hid ((0 : Int) ≤ ((r : Int) + 1) ∧ ((r : Int) + 1) ≤ 1000000) := ⟨by omega, by omega⟩
  have HD2 := hid hd2
  have hlm := hd2.1.len
  rw [hls] at hlm
  have hpm : p ≤ m := by rcases hd2.2 with e | e <;> omega
  have HWV : Hid ((0 : Int) ≤ ((r : Int) + 1) + (p : Int) ∧ ((r : Int) + 1) + (p : Int) ≤ 1000000) := ⟨by omega, by omega⟩
  have HKB : Hid ((((r + 1) : Nat) : Int) = ((r : Int) + 1)) := cast1 r
  have HDG : Hid (∀ V, Calls Tryz.prog 78 #[.string s, .int .i64 ((r : Int) + 1)] V fun e V' => ∃ n1 r1 : Nat, e = .returned (.int .i64 r1) ∧ Hid (Digs s.data.toList (r + 1) n1 r1) ∧ V = V') := fun V => by
    have e := digits_any s (r + 1) V hs hlb
    rw [HKB.out] at e
    exact e
  clear hc2 hd2
  have hp0 : ((p : Int) == 0) = false := beq_eq_false_iff_ne.2 (by omega)
  have hp1 : (((r : Int) + 1) + (p : Int) == (s.size : Int)) = true := beq_iff_eq.2 (by omega)
  have hp2 : (((r : Int) + 1) + (p : Int) != (s.size : Int)) = false := by rw [bne, hp1]; rfl
  have HX2 : Hid ((s.extract (r + 1) s.size).data.toList = s.data.toList.drop (r + 1)) := by show _ = _; rw [extract_list]; exact List.take_of_length_le (by rw [List.length_drop]; omega)
  have hx2 : (s.extract (r + 1) s.size).size ≤ 65536 := by rw [← size_list, HX2.out, List.length_drop]; omega
  have hy1 : (0 : Int) ≤ ((r : Int) + 1) := by omega
  have hy2 : ((r : Int) + 1) ≤ (s.size : Int) := by omega
  have hy3 : ((r : Int) + 1).toNat = (r + 1) := by omega
  have HN2 := hid hn2
  clear hp hq2 hn2 hls
  have HY := hid hY
  clear hY
  obtain ⟨hw1, hw2⟩ := wrapI HWB.out.1 HWB.out.2
  clear HWB
  obtain ⟨hu1, hu2⟩ := wrapI HWU.out.1 HWU.out.2
  clear HWU
  obtain ⟨hv1, hv2⟩ := wrapI HWV.out.1 HWV.out.2
  clear HWV
  go_enter Tryz.func57, Tryz.ntmps57
  have HH := hid (digits_any s 0 (w.alloc (.cells #[.bool false, .slice none 0 0, .slice none 0 0] 26)) hs (by omega))
  go_wp2_with fail
  refine Calls.mono HH.out ?_
  rintro e w1 ⟨n', r', rfl, HD', rfl⟩
  obtain ⟨rfl, rfl⟩ := Digs.uniq HD.out HD'.out
  clear HH HD'
  have HH := hid (number_good (s.extract 0 r) (w.alloc (.cells #[.bool false, .slice none 0 0, .slice none 0 0] 26)) hx1 _ HX1.out HNM.out)
  go_wp2_with fail
  refine Calls.mono HH.out ?_
  rintro e w2 ⟨a2, z2, c2, rfl, H2, hb2⟩
  clear HH hx1 HX1
  generalize s.extract 0 r = T1 at *
  have HH := hid (one3_any w2)
  go_wp2_with fail
  refine Calls.mono HH.out ?_
  rintro e w3 ⟨g3, rfl, o3, hb3⟩
  clear HH
  have HH := hid (HDG.out w3)
  go_wp2_with fail
  refine Calls.mono HH.out ?_
  rintro e w4 ⟨m', p', rfl, HD', rfl⟩
  obtain ⟨rfl, rfl⟩ := Digs.uniq HD2.out HD'.out
  clear HH HD' HDG
  have HH := hid (number_good (s.extract (r + 1) s.size) w3 hx2 _ HX2.out HN2.out)
  go_wp2_with fail
  refine Calls.mono HH.out ?_
  rintro e w4 ⟨a4, z4, c4, rfl, H4, hb4⟩
  clear HH hx2 HX2
  generalize s.extract (r + 1) s.size = T2 at *
  have HB4 := hid (bt (bt hb2 hb3) hb4)
  have HO2 := hid (H2.out.1.later (bt hb3 hb4))
  have HL2 := hid (And.intro H2.out.2 H2.out.1.2.2.1)
  have HO4 := hid H4.out.1
  have HL4 := hid H4.out.2
  have lz2 := H2.out.2
  have lz4 := H4.out.2
  clear hb2 hb3 hb4 H2 H4 o3
  have HG := refGcd_sl _ _ z2 z4 w4 HO2.out.sl HO4.out.sl (by omega) (by omega)
  rw [both_good (chk_good lz2 HO2.out.2.2.1) (chk_good lz4 HO4.out.2.2.1)] at HG
  have HGW := hid (gcd_wide HO2.out.2.1 HO4.out.2.1 (both_good (chk_good lz2 HO2.out.2.2.1) (chk_good lz4 HO4.out.2.2.1)))
  have HH := hid HG
  clear HG
  go_wp2_with fail
  refine Calls.mono HH.out ?_
  rintro e w5 ⟨v5, z5, cd5, rfl, o5, t5, hb5⟩
  obtain ⟨a5, c5, hv⟩ := own_slice' o5
  subst hv
  obtain ⟨hc5, hv5⟩ := t5.good rfl HGW.out
  have l5 : z5.length ≤ 8192 := len_of_lt t5.wd t5.trim (by rw [hv5]; exact HGW.out)
  have HO5 := hid (And.intro (Sl.own o5 t5.wd) (And.intro t5.wd (And.intro t5.trim hv5)))
  have HB5 := hid (bt HB4.out hb5)
  have HZ2 := hid (HO2.out.sl.later hb5)
  have HZ4 := hid (HO4.out.sl.later hb5)
  clear HH o5 t5 hc5 hv5 HGW hb5
  have hl4 : ((z4.length : Int) == 0) = true := by
    have e : z4.length = 0 := by
      by_cases c : z4.length = 0
      · exact c
      · have e2 := val_pos' HO4.out.2.1 HO4.out.2.2.1 (by omega); rw [HO4.out.2.2.2, HY.out] at e2; omega
    rw [e]; rfl
  obtain ⟨r0, r1, r2, f0, f1, f2⟩ := res_box3 HZ.out HB5.out
  have HBA := hid (bt HB.out HB5.out)
  go_wp2_with fail
  refine bodyPost_ret (v := .tuple #[.agg #[.bool false, .slice none 0 0, .slice none 0 0], .int .i64 130]) (by simp [results, Tryz.results57, go_sem, r0, r1, r2]) rfl ?_
  exact RTold.zero (by decide) (below_put3 HBA.out _ (Nat.le_refl _) _ _ _)

set_option maxHeartbeats 6400000 in
set_option maxRecDepth 100000 in
theorem dparse_G10 (s : ByteArray) (w : World) (hs : s.size ≤ 65536) (h0 : 0 < s.size) (hc : ¬ s[0] = 45) (n r : Nat) (hd : Digs s.data.toList 0 n r) (hr : r ≠ 0) (he : 0 + r < s.size) (hc2 : s[0 + r] = 47) (m p : Nat) (hd2 : Digs s.data.toList (r + 1) m p) (hp : p ≠ 0) (hq2 : (r + 1) + p = s.size) (hn2 : IsNum (s.data.toList.drop (r + 1))) (hY : (numTo (s.data.toList.drop (r + 1)) (s.data.toList.drop (r + 1)).length) = 1) (q : Rat) :
    Calls Tryz.prog 57 #[.string s] w (RTold w 130 q) := by
  have HB := hid (alloc_later w (.cells #[.bool false, .slice none 0 0, .slice none 0 0] 26))
  have HZ := hid (Box.made w 26 #[.bool false, .slice none 0 0, .slice none 0 0])
  have hs' : ¬ (65536 : Int) < (s.size : Int) := by omega
  have hz0 : (0 : Int) < (s.size : Int) := by omega
  have hq0 : ((s[0].toNat : Int) == 45) = false := byte_no (d := 45) hc rfl
  have HD := hid hd
  obtain ⟨hrn, hN⟩ := digs_num hd hr
  subst hrn
  have HLN := hid hd.1.len
  have HNM := hid hN
  have hls := size_list s
  have hr1 : ((r : Int) == 0) = false := beq_eq_false_iff_ne.2 (by omega)
  clear hN hd
  have hbA := HLN.out
  rw [hls] at hbA
  have HWB : Hid ((0 : Int) ≤ (r : Int) ∧ (r : Int) ≤ 1000000) := ⟨by omega, by omega⟩
  have ht1 : (r : Int).toNat = 0 + r := by omega
  have hb1 : (0 : Int) ≤ (r : Int) := by omega
  have hb2 : (r : Int) ≤ (s.size : Int) := by omega
  have hb3 : (0 : Int) ≤ (r : Int) := by omega
  have HX1 : Hid ((s.extract 0 r).data.toList = (s.data.toList.drop 0).take r) := by show _ = _; rw [extract_list]; congr 1
  have hx1 : (s.extract 0 r).size ≤ 65536 := by rw [← size_list, HX1.out, List.length_take, List.length_drop]; omega
  have hlt : (r : Int) < (s.size : Int) := by omega
  have hlb : r < s.size := by omega
  have hcb : ((s[r].toNat : Int) == 47) = true := byte_yes (d := 47) (by have e := hc2; simp only [Nat.zero_add] at e; exact e) rfl
  have HWU : Hid ((0 : Int) ≤ ((r : Int) + 1) ∧ ((r : Int) + 1) ≤ 1000000) := ⟨by omega, by omega⟩
  have HD2 := hid hd2
  have hlm := hd2.1.len
  rw [hls] at hlm
  have hpm : p ≤ m := by rcases hd2.2 with e | e <;> omega
  have HWV : Hid ((0 : Int) ≤ ((r : Int) + 1) + (p : Int) ∧ ((r : Int) + 1) + (p : Int) ≤ 1000000) := ⟨by omega, by omega⟩
  have HKB : Hid ((((r + 1) : Nat) : Int) = ((r : Int) + 1)) := cast1 r
  have HDG : Hid (∀ V, Calls Tryz.prog 78 #[.string s, .int .i64 ((r : Int) + 1)] V fun e V' => ∃ n1 r1 : Nat, e = .returned (.int .i64 r1) ∧ Hid (Digs s.data.toList (r + 1) n1 r1) ∧ V = V') := fun V => by
    have e := digits_any s (r + 1) V hs hlb
    rw [HKB.out] at e
    exact e
  clear hc2 hd2
  have hp0 : ((p : Int) == 0) = false := beq_eq_false_iff_ne.2 (by omega)
  have hp1 : (((r : Int) + 1) + (p : Int) == (s.size : Int)) = true := beq_iff_eq.2 (by omega)
  have hp2 : (((r : Int) + 1) + (p : Int) != (s.size : Int)) = false := by rw [bne, hp1]; rfl
  have HX2 : Hid ((s.extract (r + 1) s.size).data.toList = s.data.toList.drop (r + 1)) := by show _ = _; rw [extract_list]; exact List.take_of_length_le (by rw [List.length_drop]; omega)
  have hx2 : (s.extract (r + 1) s.size).size ≤ 65536 := by rw [← size_list, HX2.out, List.length_drop]; omega
  have hy1 : (0 : Int) ≤ ((r : Int) + 1) := by omega
  have hy2 : ((r : Int) + 1) ≤ (s.size : Int) := by omega
  have hy3 : ((r : Int) + 1).toNat = (r + 1) := by omega
  have HN2 := hid hn2
  clear hp hq2 hn2 hls
  have HY1 := hid hY
  have HY : Hid (¬ (numTo (s.data.toList.drop (r + 1)) (s.data.toList.drop (r + 1)).length) = 0) := by show ¬ _; omega
  clear hY
  obtain ⟨hw1, hw2⟩ := wrapI HWB.out.1 HWB.out.2
  clear HWB
  obtain ⟨hu1, hu2⟩ := wrapI HWU.out.1 HWU.out.2
  clear HWU
  obtain ⟨hv1, hv2⟩ := wrapI HWV.out.1 HWV.out.2
  clear HWV
  go_enter Tryz.func57, Tryz.ntmps57
  have HH := hid (digits_any s 0 (w.alloc (.cells #[.bool false, .slice none 0 0, .slice none 0 0] 26)) hs (by omega))
  go_wp2_with fail
  refine Calls.mono HH.out ?_
  rintro e w1 ⟨n', r', rfl, HD', rfl⟩
  obtain ⟨rfl, rfl⟩ := Digs.uniq HD.out HD'.out
  clear HH HD'
  have HH := hid (number_good (s.extract 0 r) (w.alloc (.cells #[.bool false, .slice none 0 0, .slice none 0 0] 26)) hx1 _ HX1.out HNM.out)
  go_wp2_with fail
  refine Calls.mono HH.out ?_
  rintro e w2 ⟨a2, z2, c2, rfl, H2, hb2⟩
  clear HH hx1 HX1
  generalize s.extract 0 r = T1 at *
  have HH := hid (one3_any w2)
  go_wp2_with fail
  refine Calls.mono HH.out ?_
  rintro e w3 ⟨g3, rfl, o3, hb3⟩
  clear HH
  have HH := hid (HDG.out w3)
  go_wp2_with fail
  refine Calls.mono HH.out ?_
  rintro e w4 ⟨m', p', rfl, HD', rfl⟩
  obtain ⟨rfl, rfl⟩ := Digs.uniq HD2.out HD'.out
  clear HH HD' HDG
  have HH := hid (number_good (s.extract (r + 1) s.size) w3 hx2 _ HX2.out HN2.out)
  go_wp2_with fail
  refine Calls.mono HH.out ?_
  rintro e w4 ⟨a4, z4, c4, rfl, H4, hb4⟩
  clear HH hx2 HX2
  generalize s.extract (r + 1) s.size = T2 at *
  have HB4 := hid (bt (bt hb2 hb3) hb4)
  have HO2 := hid (H2.out.1.later (bt hb3 hb4))
  have HL2 := hid (And.intro H2.out.2 H2.out.1.2.2.1)
  have HO4 := hid H4.out.1
  have HL4 := hid H4.out.2
  have lz2 := H2.out.2
  have lz4 := H4.out.2
  clear hb2 hb3 hb4 H2 H4 o3
  have HG := refGcd_sl _ _ z2 z4 w4 HO2.out.sl HO4.out.sl (by omega) (by omega)
  rw [both_good (chk_good lz2 HO2.out.2.2.1) (chk_good lz4 HO4.out.2.2.1)] at HG
  have HGW := hid (gcd_wide HO2.out.2.1 HO4.out.2.1 (both_good (chk_good lz2 HO2.out.2.2.1) (chk_good lz4 HO4.out.2.2.1)))
  have HH := hid HG
  clear HG
  go_wp2_with fail
  refine Calls.mono HH.out ?_
  rintro e w5 ⟨v5, z5, cd5, rfl, o5, t5, hb5⟩
  obtain ⟨a5, c5, hv⟩ := own_slice' o5
  subst hv
  obtain ⟨hc5, hv5⟩ := t5.good rfl HGW.out
  have l5 : z5.length ≤ 8192 := len_of_lt t5.wd t5.trim (by rw [hv5]; exact HGW.out)
  have HO5 := hid (And.intro (Sl.own o5 t5.wd) (And.intro t5.wd (And.intro t5.trim hv5)))
  have HB5 := hid (bt HB4.out hb5)
  have HZ2 := hid (HO2.out.sl.later hb5)
  have HZ4 := hid (HO4.out.sl.later hb5)
  clear HH o5 t5 hc5 hv5 HGW hb5
  have hl4 : ((z4.length : Int) == 0) = false := by
    apply beq_eq_false_iff_ne.2
    intro e
    have e3 : z4 = [] := List.length_eq_zero_iff.1 (by omega)
    have e2 := HO4.out.2.2.2
    rw [e3] at e2
    exact HY.out (by rw [← e2]; simp [val, valTo])
  have HH := hid (one3_any w5)
  go_wp2_with fail
  refine Calls.mono HH.out ?_
  rintro e w6 ⟨g6, rfl, o6, hb6⟩
  clear HH
  have HSM : Calls Tryz.prog 45 #[.slice a4 z4.length c4, .slice (some ⟨g6, 0, none⟩) 1 1] w6 fun e w' => e = .returned (.bool (decide (z4 = [1]))) ∧ Below w6.heap.size w6 w' := same3_sl _ _ z4 [1] w6 (HZ4.out.later hb6) (Sl.own (xs := [1]) o6 (Wd.one (by omega))) (by omega) (by simp)
  rw [decide_eq_true ((one_iff HO4.out.2.1 HO4.out.2.2.1).2 (HO4.out.2.2.2.trans HY1.out))] at HSM
  have HH := hid HSM
  clear HSM
  go_wp2_with fail
  refine Calls.mono HH.out ?_
  rintro e w7 ⟨rfl, hb7⟩
  clear HH
  obtain ⟨r0, r1, r2, f0, f1, f2⟩ := res_box3 HZ.out (bt HB5.out (bt hb6 hb7))
  have HBA := hid (bt HB.out (bt HB5.out (bt hb6 hb7)))
  go_wp2_with fail
  refine bodyPost_ret (v := .tuple #[.agg #[.bool false, .slice none 0 0, .slice none 0 0], .int .i64 130]) (by simp [results, Tryz.results57, go_sem, r0, r1, r2]) rfl ?_
  exact RTold.zero (by decide) (below_put3 HBA.out _ (Nat.le_refl _) _ _ _)

set_option maxHeartbeats 6400000 in
set_option maxRecDepth 100000 in
theorem dparse_G20 (s : ByteArray) (w : World) (hs : s.size ≤ 65536) (h0 : 0 < s.size) (hc : ¬ s[0] = 45) (n r : Nat) (hd : Digs s.data.toList 0 n r) (hr : r ≠ 0) (he : 0 + r < s.size) (hc2 : s[0 + r] = 47) (m p : Nat) (hd2 : Digs s.data.toList (r + 1) m p) (hp : p ≠ 0) (hq2 : (r + 1) + p = s.size) (hn2 : IsNum (s.data.toList.drop (r + 1))) (hY : ¬ (numTo (s.data.toList.drop (r + 1)) (s.data.toList.drop (r + 1)).length) = 0) (hY1 : ¬ (numTo (s.data.toList.drop (r + 1)) (s.data.toList.drop (r + 1)).length) = 1) (hg : ¬ gcdI (numTo ((s.data.toList.drop 0).take r) ((s.data.toList.drop 0).take r).length) (numTo (s.data.toList.drop (r + 1)) (s.data.toList.drop (r + 1)).length) = 1) (q : Rat) :
    Calls Tryz.prog 57 #[.string s] w (RTold w 130 q) := by
  have HB := hid (alloc_later w (.cells #[.bool false, .slice none 0 0, .slice none 0 0] 26))
  have HZ := hid (Box.made w 26 #[.bool false, .slice none 0 0, .slice none 0 0])
  have hs' : ¬ (65536 : Int) < (s.size : Int) := by omega
  have hz0 : (0 : Int) < (s.size : Int) := by omega
  have hq0 : ((s[0].toNat : Int) == 45) = false := byte_no (d := 45) hc rfl
  have HD := hid hd
  obtain ⟨hrn, hN⟩ := digs_num hd hr
  subst hrn
  have HLN := hid hd.1.len
  have HNM := hid hN
  have hls := size_list s
  have hr1 : ((r : Int) == 0) = false := beq_eq_false_iff_ne.2 (by omega)
  clear hN hd
  have hbA := HLN.out
  rw [hls] at hbA
  have HWB : Hid ((0 : Int) ≤ (r : Int) ∧ (r : Int) ≤ 1000000) := ⟨by omega, by omega⟩
  have ht1 : (r : Int).toNat = 0 + r := by omega
  have hb1 : (0 : Int) ≤ (r : Int) := by omega
  have hb2 : (r : Int) ≤ (s.size : Int) := by omega
  have hb3 : (0 : Int) ≤ (r : Int) := by omega
  have HX1 : Hid ((s.extract 0 r).data.toList = (s.data.toList.drop 0).take r) := by show _ = _; rw [extract_list]; congr 1
  have hx1 : (s.extract 0 r).size ≤ 65536 := by rw [← size_list, HX1.out, List.length_take, List.length_drop]; omega
  have hlt : (r : Int) < (s.size : Int) := by omega
  have hlb : r < s.size := by omega
  have hcb : ((s[r].toNat : Int) == 47) = true := byte_yes (d := 47) (by have e := hc2; simp only [Nat.zero_add] at e; exact e) rfl
  have HWU : Hid ((0 : Int) ≤ ((r : Int) + 1) ∧ ((r : Int) + 1) ≤ 1000000) := ⟨by omega, by omega⟩
  have HD2 := hid hd2
  have hlm := hd2.1.len
  rw [hls] at hlm
  have hpm : p ≤ m := by rcases hd2.2 with e | e <;> omega
  have HWV : Hid ((0 : Int) ≤ ((r : Int) + 1) + (p : Int) ∧ ((r : Int) + 1) + (p : Int) ≤ 1000000) := ⟨by omega, by omega⟩
  have HKB : Hid ((((r + 1) : Nat) : Int) = ((r : Int) + 1)) := cast1 r
  have HDG : Hid (∀ V, Calls Tryz.prog 78 #[.string s, .int .i64 ((r : Int) + 1)] V fun e V' => ∃ n1 r1 : Nat, e = .returned (.int .i64 r1) ∧ Hid (Digs s.data.toList (r + 1) n1 r1) ∧ V = V') := fun V => by
    have e := digits_any s (r + 1) V hs hlb
    rw [HKB.out] at e
    exact e
  clear hc2 hd2
  have hp0 : ((p : Int) == 0) = false := beq_eq_false_iff_ne.2 (by omega)
  have hp1 : (((r : Int) + 1) + (p : Int) == (s.size : Int)) = true := beq_iff_eq.2 (by omega)
  have hp2 : (((r : Int) + 1) + (p : Int) != (s.size : Int)) = false := by rw [bne, hp1]; rfl
  have HX2 : Hid ((s.extract (r + 1) s.size).data.toList = s.data.toList.drop (r + 1)) := by show _ = _; rw [extract_list]; exact List.take_of_length_le (by rw [List.length_drop]; omega)
  have hx2 : (s.extract (r + 1) s.size).size ≤ 65536 := by rw [← size_list, HX2.out, List.length_drop]; omega
  have hy1 : (0 : Int) ≤ ((r : Int) + 1) := by omega
  have hy2 : ((r : Int) + 1) ≤ (s.size : Int) := by omega
  have hy3 : ((r : Int) + 1).toNat = (r + 1) := by omega
  have HN2 := hid hn2
  clear hp hq2 hn2 hls
  have HY := hid hY
  have HY1 := hid hY1
  have HGG := hid hg
  clear hY hY1 hg
  obtain ⟨hw1, hw2⟩ := wrapI HWB.out.1 HWB.out.2
  clear HWB
  obtain ⟨hu1, hu2⟩ := wrapI HWU.out.1 HWU.out.2
  clear HWU
  obtain ⟨hv1, hv2⟩ := wrapI HWV.out.1 HWV.out.2
  clear HWV
  go_enter Tryz.func57, Tryz.ntmps57
  have HH := hid (digits_any s 0 (w.alloc (.cells #[.bool false, .slice none 0 0, .slice none 0 0] 26)) hs (by omega))
  go_wp2_with fail
  refine Calls.mono HH.out ?_
  rintro e w1 ⟨n', r', rfl, HD', rfl⟩
  obtain ⟨rfl, rfl⟩ := Digs.uniq HD.out HD'.out
  clear HH HD'
  have HH := hid (number_good (s.extract 0 r) (w.alloc (.cells #[.bool false, .slice none 0 0, .slice none 0 0] 26)) hx1 _ HX1.out HNM.out)
  go_wp2_with fail
  refine Calls.mono HH.out ?_
  rintro e w2 ⟨a2, z2, c2, rfl, H2, hb2⟩
  clear HH hx1 HX1
  generalize s.extract 0 r = T1 at *
  have HH := hid (one3_any w2)
  go_wp2_with fail
  refine Calls.mono HH.out ?_
  rintro e w3 ⟨g3, rfl, o3, hb3⟩
  clear HH
  have HH := hid (HDG.out w3)
  go_wp2_with fail
  refine Calls.mono HH.out ?_
  rintro e w4 ⟨m', p', rfl, HD', rfl⟩
  obtain ⟨rfl, rfl⟩ := Digs.uniq HD2.out HD'.out
  clear HH HD' HDG
  have HH := hid (number_good (s.extract (r + 1) s.size) w3 hx2 _ HX2.out HN2.out)
  go_wp2_with fail
  refine Calls.mono HH.out ?_
  rintro e w4 ⟨a4, z4, c4, rfl, H4, hb4⟩
  clear HH hx2 HX2
  generalize s.extract (r + 1) s.size = T2 at *
  have HB4 := hid (bt (bt hb2 hb3) hb4)
  have HO2 := hid (H2.out.1.later (bt hb3 hb4))
  have HL2 := hid (And.intro H2.out.2 H2.out.1.2.2.1)
  have HO4 := hid H4.out.1
  have HL4 := hid H4.out.2
  have lz2 := H2.out.2
  have lz4 := H4.out.2
  clear hb2 hb3 hb4 H2 H4 o3
  have HG := refGcd_sl _ _ z2 z4 w4 HO2.out.sl HO4.out.sl (by omega) (by omega)
  rw [both_good (chk_good lz2 HO2.out.2.2.1) (chk_good lz4 HO4.out.2.2.1)] at HG
  have HGW := hid (gcd_wide HO2.out.2.1 HO4.out.2.1 (both_good (chk_good lz2 HO2.out.2.2.1) (chk_good lz4 HO4.out.2.2.1)))
  have HH := hid HG
  clear HG
  go_wp2_with fail
  refine Calls.mono HH.out ?_
  rintro e w5 ⟨v5, z5, cd5, rfl, o5, t5, hb5⟩
  obtain ⟨a5, c5, hv⟩ := own_slice' o5
  subst hv
  obtain ⟨hc5, hv5⟩ := t5.good rfl HGW.out
  have l5 : z5.length ≤ 8192 := len_of_lt t5.wd t5.trim (by rw [hv5]; exact HGW.out)
  have HO5 := hid (And.intro (Sl.own o5 t5.wd) (And.intro t5.wd (And.intro t5.trim hv5)))
  have HB5 := hid (bt HB4.out hb5)
  have HZ2 := hid (HO2.out.sl.later hb5)
  have HZ4 := hid (HO4.out.sl.later hb5)
  clear HH o5 t5 hc5 hv5 HGW hb5
  have hl4 : ((z4.length : Int) == 0) = false := by
    apply beq_eq_false_iff_ne.2
    intro e
    have e3 : z4 = [] := List.length_eq_zero_iff.1 (by omega)
    have e2 := HO4.out.2.2.2
    rw [e3] at e2
    exact HY.out (by rw [← e2]; simp [val, valTo])
  have HH := hid (one3_any w5)
  go_wp2_with fail
  refine Calls.mono HH.out ?_
  rintro e w6 ⟨g6, rfl, o6, hb6⟩
  clear HH
  have HSM : Calls Tryz.prog 45 #[.slice a4 z4.length c4, .slice (some ⟨g6, 0, none⟩) 1 1] w6 fun e w' => e = .returned (.bool (decide (z4 = [1]))) ∧ Below w6.heap.size w6 w' := same3_sl _ _ z4 [1] w6 (HZ4.out.later hb6) (Sl.own (xs := [1]) o6 (Wd.one (by omega))) (by omega) (by simp)
  rw [decide_eq_false (fun e => HY1.out (HO4.out.2.2.2.symm.trans ((one_iff HO4.out.2.1 HO4.out.2.2.1).1 e)))] at HSM
  have HH := hid HSM
  clear HSM
  go_wp2_with fail
  refine Calls.mono HH.out ?_
  rintro e w7 ⟨rfl, hb7⟩
  clear HH
  have HB7 := hid (bt hb6 hb7)
  clear hb6 hb7 o6
  have HH := hid (one3_any w7)
  go_wp2_with fail
  refine Calls.mono HH.out ?_
  rintro e w8 ⟨g8, rfl, o8, hb8⟩
  clear HH
  have HSM : Calls Tryz.prog 45 #[.slice a5 z5.length c5, .slice (some ⟨g8, 0, none⟩) 1 1] w8 fun e w' => e = .returned (.bool (decide (z5 = [1]))) ∧ Below w8.heap.size w8 w' := same3_sl _ _ z5 [1] w8 (HO5.out.1.later (bt HB7.out hb8)) (Sl.own (xs := [1]) o8 (Wd.one (by omega))) (by omega) (by simp)
  rw [decide_eq_false (fun e => HGG.out (by have e2 := (one_iff HO5.out.2.1 HO5.out.2.2.1).1 e; rw [HO5.out.2.2.2, HO2.out.2.2.2, HO4.out.2.2.2] at e2; exact e2))] at HSM
  have HH := hid HSM
  clear HSM
  go_wp2_with fail
  refine Calls.mono HH.out ?_
  rintro e w9 ⟨rfl, hb9⟩
  clear HH
  obtain ⟨r0, r1, r2, f0, f1, f2⟩ := res_box3 HZ.out (bt HB5.out (bt HB7.out (bt hb8 hb9)))
  have HBA := hid (bt HB.out (bt HB5.out (bt HB7.out (bt hb8 hb9))))
  go_wp2_with fail
  refine bodyPost_ret (v := .tuple #[.agg #[.bool false, .slice none 0 0, .slice none 0 0], .int .i64 130]) (by simp [results, Tryz.results57, go_sem, r0, r1, r2]) rfl ?_
  exact RTold.zero (by decide) (below_put3 HBA.out _ (Nat.le_refl _) _ _ _)

set_option maxHeartbeats 6400000 in
set_option maxRecDepth 100000 in
theorem dparse_G30 (s : ByteArray) (w : World) (hs : s.size ≤ 65536) (h0 : 0 < s.size) (hc : ¬ s[0] = 45) (n r : Nat) (hd : Digs s.data.toList 0 n r) (hr : r ≠ 0) (he : 0 + r < s.size) (hc2 : s[0 + r] = 47) (m p : Nat) (hd2 : Digs s.data.toList (r + 1) m p) (hp : p ≠ 0) (hq2 : (r + 1) + p = s.size) (hn2 : IsNum (s.data.toList.drop (r + 1))) (hY : ¬ (numTo (s.data.toList.drop (r + 1)) (s.data.toList.drop (r + 1)).length) = 0) (hY1 : ¬ (numTo (s.data.toList.drop (r + 1)) (s.data.toList.drop (r + 1)).length) = 1) (hg : gcdI (numTo ((s.data.toList.drop 0).take r) ((s.data.toList.drop 0).take r).length) (numTo (s.data.toList.drop (r + 1)) (s.data.toList.drop (r + 1)).length) = 1) (q : Rat) (hq : Rat.divInt (sg false (numTo ((s.data.toList.drop 0).take r) ((s.data.toList.drop 0).take r).length)) (numTo (s.data.toList.drop (r + 1)) (s.data.toList.drop (r + 1)).length) = q) :
    Calls Tryz.prog 57 #[.string s] w (RTold w 0 q) := by
  have HB := hid (alloc_later w (.cells #[.bool false, .slice none 0 0, .slice none 0 0] 26))
  have HZ := hid (Box.made w 26 #[.bool false, .slice none 0 0, .slice none 0 0])
  have hs' : ¬ (65536 : Int) < (s.size : Int) := by omega
  have hz0 : (0 : Int) < (s.size : Int) := by omega
  have hq0 : ((s[0].toNat : Int) == 45) = false := byte_no (d := 45) hc rfl
  have HD := hid hd
  obtain ⟨hrn, hN⟩ := digs_num hd hr
  subst hrn
  have HLN := hid hd.1.len
  have HNM := hid hN
  have hls := size_list s
  have hr1 : ((r : Int) == 0) = false := beq_eq_false_iff_ne.2 (by omega)
  clear hN hd
  have hbA := HLN.out
  rw [hls] at hbA
  have HWB : Hid ((0 : Int) ≤ (r : Int) ∧ (r : Int) ≤ 1000000) := ⟨by omega, by omega⟩
  have ht1 : (r : Int).toNat = 0 + r := by omega
  have hb1 : (0 : Int) ≤ (r : Int) := by omega
  have hb2 : (r : Int) ≤ (s.size : Int) := by omega
  have hb3 : (0 : Int) ≤ (r : Int) := by omega
  have HX1 : Hid ((s.extract 0 r).data.toList = (s.data.toList.drop 0).take r) := by show _ = _; rw [extract_list]; congr 1
  have hx1 : (s.extract 0 r).size ≤ 65536 := by rw [← size_list, HX1.out, List.length_take, List.length_drop]; omega
  have hlt : (r : Int) < (s.size : Int) := by omega
  have hlb : r < s.size := by omega
  have hcb : ((s[r].toNat : Int) == 47) = true := byte_yes (d := 47) (by have e := hc2; simp only [Nat.zero_add] at e; exact e) rfl
  have HWU : Hid ((0 : Int) ≤ ((r : Int) + 1) ∧ ((r : Int) + 1) ≤ 1000000) := ⟨by omega, by omega⟩
  have HD2 := hid hd2
  have hlm := hd2.1.len
  rw [hls] at hlm
  have hpm : p ≤ m := by rcases hd2.2 with e | e <;> omega
  have HWV : Hid ((0 : Int) ≤ ((r : Int) + 1) + (p : Int) ∧ ((r : Int) + 1) + (p : Int) ≤ 1000000) := ⟨by omega, by omega⟩
  have HKB : Hid ((((r + 1) : Nat) : Int) = ((r : Int) + 1)) := cast1 r
  have HDG : Hid (∀ V, Calls Tryz.prog 78 #[.string s, .int .i64 ((r : Int) + 1)] V fun e V' => ∃ n1 r1 : Nat, e = .returned (.int .i64 r1) ∧ Hid (Digs s.data.toList (r + 1) n1 r1) ∧ V = V') := fun V => by
    have e := digits_any s (r + 1) V hs hlb
    rw [HKB.out] at e
    exact e
  clear hc2 hd2
  have hp0 : ((p : Int) == 0) = false := beq_eq_false_iff_ne.2 (by omega)
  have hp1 : (((r : Int) + 1) + (p : Int) == (s.size : Int)) = true := beq_iff_eq.2 (by omega)
  have hp2 : (((r : Int) + 1) + (p : Int) != (s.size : Int)) = false := by rw [bne, hp1]; rfl
  have HX2 : Hid ((s.extract (r + 1) s.size).data.toList = s.data.toList.drop (r + 1)) := by show _ = _; rw [extract_list]; exact List.take_of_length_le (by rw [List.length_drop]; omega)
  have hx2 : (s.extract (r + 1) s.size).size ≤ 65536 := by rw [← size_list, HX2.out, List.length_drop]; omega
  have hy1 : (0 : Int) ≤ ((r : Int) + 1) := by omega
  have hy2 : ((r : Int) + 1) ≤ (s.size : Int) := by omega
  have hy3 : ((r : Int) + 1).toNat = (r + 1) := by omega
  have HN2 := hid hn2
  clear hp hq2 hn2 hls
  have HY := hid hY
  have HY1 := hid hY1
  have HGG := hid hg
  have HQQ := hid hq
  clear hY hY1 hg hq
  obtain ⟨hw1, hw2⟩ := wrapI HWB.out.1 HWB.out.2
  clear HWB
  obtain ⟨hu1, hu2⟩ := wrapI HWU.out.1 HWU.out.2
  clear HWU
  obtain ⟨hv1, hv2⟩ := wrapI HWV.out.1 HWV.out.2
  clear HWV
  go_enter Tryz.func57, Tryz.ntmps57
  have HH := hid (digits_any s 0 (w.alloc (.cells #[.bool false, .slice none 0 0, .slice none 0 0] 26)) hs (by omega))
  go_wp2_with fail
  refine Calls.mono HH.out ?_
  rintro e w1 ⟨n', r', rfl, HD', rfl⟩
  obtain ⟨rfl, rfl⟩ := Digs.uniq HD.out HD'.out
  clear HH HD'
  have HH := hid (number_good (s.extract 0 r) (w.alloc (.cells #[.bool false, .slice none 0 0, .slice none 0 0] 26)) hx1 _ HX1.out HNM.out)
  go_wp2_with fail
  refine Calls.mono HH.out ?_
  rintro e w2 ⟨a2, z2, c2, rfl, H2, hb2⟩
  clear HH hx1 HX1
  generalize s.extract 0 r = T1 at *
  have HH := hid (one3_any w2)
  go_wp2_with fail
  refine Calls.mono HH.out ?_
  rintro e w3 ⟨g3, rfl, o3, hb3⟩
  clear HH
  have HH := hid (HDG.out w3)
  go_wp2_with fail
  refine Calls.mono HH.out ?_
  rintro e w4 ⟨m', p', rfl, HD', rfl⟩
  obtain ⟨rfl, rfl⟩ := Digs.uniq HD2.out HD'.out
  clear HH HD' HDG
  have HH := hid (number_good (s.extract (r + 1) s.size) w3 hx2 _ HX2.out HN2.out)
  go_wp2_with fail
  refine Calls.mono HH.out ?_
  rintro e w4 ⟨a4, z4, c4, rfl, H4, hb4⟩
  clear HH hx2 HX2
  generalize s.extract (r + 1) s.size = T2 at *
  have HB4 := hid (bt (bt hb2 hb3) hb4)
  have HO2 := hid (H2.out.1.later (bt hb3 hb4))
  have HL2 := hid (And.intro H2.out.2 H2.out.1.2.2.1)
  have HO4 := hid H4.out.1
  have HL4 := hid H4.out.2
  have lz2 := H2.out.2
  have lz4 := H4.out.2
  clear hb2 hb3 hb4 H2 H4 o3
  have HG := refGcd_sl _ _ z2 z4 w4 HO2.out.sl HO4.out.sl (by omega) (by omega)
  rw [both_good (chk_good lz2 HO2.out.2.2.1) (chk_good lz4 HO4.out.2.2.1)] at HG
  have HGW := hid (gcd_wide HO2.out.2.1 HO4.out.2.1 (both_good (chk_good lz2 HO2.out.2.2.1) (chk_good lz4 HO4.out.2.2.1)))
  have HH := hid HG
  clear HG
  go_wp2_with fail
  refine Calls.mono HH.out ?_
  rintro e w5 ⟨v5, z5, cd5, rfl, o5, t5, hb5⟩
  obtain ⟨a5, c5, hv⟩ := own_slice' o5
  subst hv
  obtain ⟨hc5, hv5⟩ := t5.good rfl HGW.out
  have l5 : z5.length ≤ 8192 := len_of_lt t5.wd t5.trim (by rw [hv5]; exact HGW.out)
  have HO5 := hid (And.intro (Sl.own o5 t5.wd) (And.intro t5.wd (And.intro t5.trim hv5)))
  have HB5 := hid (bt HB4.out hb5)
  have HZ2 := hid (HO2.out.sl.later hb5)
  have HZ4 := hid (HO4.out.sl.later hb5)
  clear HH o5 t5 hc5 hv5 HGW hb5
  have hl4 : ((z4.length : Int) == 0) = false := by
    apply beq_eq_false_iff_ne.2
    intro e
    have e3 : z4 = [] := List.length_eq_zero_iff.1 (by omega)
    have e2 := HO4.out.2.2.2
    rw [e3] at e2
    exact HY.out (by rw [← e2]; simp [val, valTo])
  have HH := hid (one3_any w5)
  go_wp2_with fail
  refine Calls.mono HH.out ?_
  rintro e w6 ⟨g6, rfl, o6, hb6⟩
  clear HH
  have HSM : Calls Tryz.prog 45 #[.slice a4 z4.length c4, .slice (some ⟨g6, 0, none⟩) 1 1] w6 fun e w' => e = .returned (.bool (decide (z4 = [1]))) ∧ Below w6.heap.size w6 w' := same3_sl _ _ z4 [1] w6 (HZ4.out.later hb6) (Sl.own (xs := [1]) o6 (Wd.one (by omega))) (by omega) (by simp)
  rw [decide_eq_false (fun e => HY1.out (HO4.out.2.2.2.symm.trans ((one_iff HO4.out.2.1 HO4.out.2.2.1).1 e)))] at HSM
  have HH := hid HSM
  clear HSM
  go_wp2_with fail
  refine Calls.mono HH.out ?_
  rintro e w7 ⟨rfl, hb7⟩
  clear HH
  have HB7 := hid (bt hb6 hb7)
  clear hb6 hb7 o6
  have HH := hid (one3_any w7)
  go_wp2_with fail
  refine Calls.mono HH.out ?_
  rintro e w8 ⟨g8, rfl, o8, hb8⟩
  clear HH
  have HSM : Calls Tryz.prog 45 #[.slice a5 z5.length c5, .slice (some ⟨g8, 0, none⟩) 1 1] w8 fun e w' => e = .returned (.bool (decide (z5 = [1]))) ∧ Below w8.heap.size w8 w' := same3_sl _ _ z5 [1] w8 (HO5.out.1.later (bt HB7.out hb8)) (Sl.own (xs := [1]) o8 (Wd.one (by omega))) (by omega) (by simp)
  rw [decide_eq_true ((one_iff HO5.out.2.1 HO5.out.2.2.1).2 (by rw [HO5.out.2.2.2, HO2.out.2.2.2, HO4.out.2.2.2]; exact HGG.out))] at HSM
  have HH := hid HSM
  clear HSM
  go_wp2_with fail
  refine Calls.mono HH.out ?_
  rintro e wa ⟨rfl, hba⟩
  clear HH
  have HBA := hid (bt HB7.out (bt hb8 hba))
  have HBB := hid (bt HB5.out HBA.out)
  replace HZ2 := hid (HZ2.out.later HBA.out)
  replace HZ4 := hid (HZ4.out.later HBA.out)
  have HQ : Hid (Rat.divInt (sg false (val z2)) (val z4) = q) := by show _ = _; rw [HO2.out.2.2.2, HO4.out.2.2.2]; exact HQQ.out
  have hz4p : 0 < z4.length := by
    by_cases c : z4.length = 0
    · rw [c] at hl4; simp at hl4
    · omega
  clear hb8 hba HB7 HB5 HO5 o8 hl4
  have HO : Calls Tryz.prog 80 #[.bool false, .slice a2 z2.length c2, .slice a4 z4.length c4] wa (RTold wa 0 (Rat.divInt (sg false (val z2)) (val z4))) := of3_any false _ _ z2 _ _ z4 wa HZ2.out HZ4.out HL2.out.1 HL4.out HL2.out.2 HO4.out.2.2.1 hz4p
  rw [HQ.out] at HO
  have HH := hid (HO)
  go_wp2_with fail
  refine Calls.mono HH.out ?_
  rintro e w9 ⟨k9, v9, z9, u9, d9, code, rfl, o9, p9, t9, hb9⟩
  clear HH
  obtain ⟨a9, c9, hv⟩ := own_slice' o9
  subst hv
  obtain ⟨b9, l9, hv⟩ := own_slice' p9
  subst hv
  have hbX := bt HBB.out hb9
  obtain ⟨r0, r1, r2, f0, f1, f2⟩ := res_box3 HZ.out hbX
  have HBW := hid (bt HB.out hbX)
  have hzz := (HBB.out).size
  have HE9 := hid (And.intro (owns_base o9 hzz) (And.intro (owns_base p9 hzz) t9))
  have HLT : Hid (w.heap.size < (w.alloc (.cells #[.bool false, .slice none 0 0, .slice none 0 0] 26)).heap.size) := by show _ < _; simp
  clear hbX o9 p9 t9 hb9 hzz HO
  go_wp2_with fail
  refine bodyPost_ret (v := .tuple #[.agg #[.bool k9, .slice a9 z9.length c9, .slice b9 d9.length l9], .int .i64 code]) (by simp [results, Tryz.results57, go_sem, r0, r1, r2]) rfl ?_
  exact RTold.put HE9.out w.heap.size HLT.out (Nat.le_refl _) HBW.out _ _ _
end Go.Proofs.YtldeiapikkebgaaGreatDoor

/- The document's answer for Parse of a fraction, way by way: behind a minus. -/
namespace Go.Proofs.YtldeiapikkebgaaGreatDoor
open Go.RowKit Go.Lib
set_option linter.unusedVariables false

set_option maxHeartbeats 6400000 in
set_option maxRecDepth 100000 in
theorem dparse_C11 (s : ByteArray) (w : World) (hs : s.size ≤ 65536) (h0 : 0 < s.size) (hc : s[0] = 45) (n : Nat) (hd : Digs s.data.toList 1 n 0) (q : Rat) :
    Calls Tryz.prog 57 #[.string s] w (RTold w 130 q) := by
  have HB := hid (alloc_later w (.cells #[.bool false, .slice none 0 0, .slice none 0 0] 26))
  have HZ := hid (Box.made w 26 #[.bool false, .slice none 0 0, .slice none 0 0])
  have hs' : ¬ (65536 : Int) < (s.size : Int) := by omega
  have hz0 : (0 : Int) < (s.size : Int) := by omega
  have hq0 : ((s[0].toNat : Int) == 45) = true := byte_yes (d := 45) hc rfl
  have HD := hid hd
  clear hd
  go_enter Tryz.func57, Tryz.ntmps57
  have HH := hid (digits_any s 1 (w.alloc (.cells #[.bool false, .slice none 0 0, .slice none 0 0] 26)) hs (by omega))
  go_wp2_with fail
  refine Calls.mono HH.out ?_
  rintro e w1 ⟨n', r', rfl, HD', rfl⟩
  obtain ⟨rfl, rfl⟩ := Digs.uniq HD.out HD'.out
  clear HH HD'
  obtain ⟨r0, r1, r2, f0, f1, f2⟩ := res_box3 HZ.out (Below.refl (w.alloc (.cells #[.bool false, .slice none 0 0, .slice none 0 0] 26)).heap.size (w.alloc (.cells #[.bool false, .slice none 0 0, .slice none 0 0] 26)))
  have HBA := hid (bt HB.out (Below.refl (w.alloc (.cells #[.bool false, .slice none 0 0, .slice none 0 0] 26)).heap.size (w.alloc (.cells #[.bool false, .slice none 0 0, .slice none 0 0] 26))))
  go_wp2_with fail
  refine bodyPost_ret (v := .tuple #[.agg #[.bool false, .slice none 0 0, .slice none 0 0], .int .i64 130]) (by simp [results, Tryz.results57, go_sem, r0, r1, r2]) rfl ?_
  exact RTold.zero (by decide) HB.out

set_option maxHeartbeats 6400000 in
set_option maxRecDepth 100000 in
theorem dparse_C2 (s : ByteArray) (w : World) (hs : s.size ≤ 65536) (h0 : 0 < s.size) (hc : s[0] = 45) (n r : Nat) (hd : Digs s.data.toList 1 n r) (hr : r ≠ 0) (h1 : 1 < s.size) (hz : s[1] = 48) (q : Rat) :
    Calls Tryz.prog 57 #[.string s] w (RTold w 130 q) := by
  have HB := hid (alloc_later w (.cells #[.bool false, .slice none 0 0, .slice none 0 0] 26))
  have HZ := hid (Box.made w 26 #[.bool false, .slice none 0 0, .slice none 0 0])
  have hs' : ¬ (65536 : Int) < (s.size : Int) := by omega
  have hz0 : (0 : Int) < (s.size : Int) := by omega
  have hq0 : ((s[0].toNat : Int) == 45) = true := byte_yes (d := 45) hc rfl
  have HD := hid hd
  have hr1 : ((r : Int) == 0) = false := beq_eq_false_iff_ne.2 (by omega)
  have hz1 : ((s[1].toNat : Int) == 48) = true := byte_yes (d := 48) (hz) rfl
  clear hd hz
  go_enter Tryz.func57, Tryz.ntmps57
  have HH := hid (digits_any s 1 (w.alloc (.cells #[.bool false, .slice none 0 0, .slice none 0 0] 26)) hs (by omega))
  go_wp2_with fail
  refine Calls.mono HH.out ?_
  rintro e w1 ⟨n', r', rfl, HD', rfl⟩
  obtain ⟨rfl, rfl⟩ := Digs.uniq HD.out HD'.out
  clear HH HD'
  obtain ⟨r0, r1, r2, f0, f1, f2⟩ := res_box3 HZ.out (Below.refl (w.alloc (.cells #[.bool false, .slice none 0 0, .slice none 0 0] 26)).heap.size (w.alloc (.cells #[.bool false, .slice none 0 0, .slice none 0 0] 26)))
  have HBA := hid (bt HB.out (Below.refl (w.alloc (.cells #[.bool false, .slice none 0 0, .slice none 0 0] 26)).heap.size (w.alloc (.cells #[.bool false, .slice none 0 0, .slice none 0 0] 26))))
  go_wp2_with fail
  refine bodyPost_ret (v := .tuple #[.agg #[.bool false, .slice none 0 0, .slice none 0 0], .int .i64 130]) (by simp [results, Tryz.results57, go_sem, r0, r1, r2]) rfl ?_
  exact RTold.zero (by decide) HB.out

set_option maxHeartbeats 6400000 in
set_option maxRecDepth 100000 in
theorem dparse_E1 (s : ByteArray) (w : World) (hs : s.size ≤ 65536) (h0 : 0 < s.size) (hc : s[0] = 45) (n r : Nat) (hd : Digs s.data.toList 1 n r) (hr : r ≠ 0) (h1 : 1 < s.size) (hz : ¬ s[1] = 48) (he : 1 + r = s.size) (q : Rat) (hq : Rat.divInt (sg true (numTo ((s.data.toList.drop 1).take r) ((s.data.toList.drop 1).take r).length)) 1 = q) :
    Calls Tryz.prog 57 #[.string s] w (RTold w 0 q) := by
  have HB := hid (alloc_later w (.cells #[.bool false, .slice none 0 0, .slice none 0 0] 26))
  have HZ := hid (Box.made w 26 #[.bool false, .slice none 0 0, .slice none 0 0])
  have hs' : ¬ (65536 : Int) < (s.size : Int) := by omega
  have hz0 : (0 : Int) < (s.size : Int) := by omega
  have hq0 : ((s[0].toNat : Int) == 45) = true := byte_yes (d := 45) hc rfl
  have HD := hid hd
  obtain ⟨hrn, hN⟩ := digs_num hd hr
  subst hrn
  have HLN := hid hd.1.len
  have HNM := hid hN
  have hls := size_list s
  have hr1 : ((r : Int) == 0) = false := beq_eq_false_iff_ne.2 (by omega)
  have hz1 : ((s[1].toNat : Int) == 48) = false := byte_no (d := 48) (hz) rfl
  clear hN hd hz
  have hbA := HLN.out
  rw [hls] at hbA
  have HWB : Hid ((0 : Int) ≤ (1 + (r : Int)) ∧ (1 + (r : Int)) ≤ 1000000) := ⟨by omega, by omega⟩
  have ht1 : (1 + (r : Int)).toNat = 1 + r := by omega
  have hb1 : (0 : Int) ≤ (1 + (r : Int)) := by omega
  have hb2 : (1 + (r : Int)) ≤ (s.size : Int) := by omega
  have hb3 : (1 : Int) ≤ (1 + (r : Int)) := by omega
  have HX1 : Hid ((s.extract 1 (1 + r)).data.toList = (s.data.toList.drop 1).take r) := by show _ = _; rw [extract_list]; congr 1; omega
  have hx1 : (s.extract 1 (1 + r)).size ≤ 65536 := by rw [← size_list, HX1.out, List.length_take, List.length_drop]; omega
  have hlt : ¬ (1 + (r : Int)) < (s.size : Int) := by omega
  have HQQ := hid hq
  clear hq he hls
  obtain ⟨hw1, hw2⟩ := wrapI HWB.out.1 HWB.out.2
  clear HWB
  go_enter Tryz.func57, Tryz.ntmps57
  have HH := hid (digits_any s 1 (w.alloc (.cells #[.bool false, .slice none 0 0, .slice none 0 0] 26)) hs (by omega))
  go_wp2_with fail
  refine Calls.mono HH.out ?_
  rintro e w1 ⟨n', r', rfl, HD', rfl⟩
  obtain ⟨rfl, rfl⟩ := Digs.uniq HD.out HD'.out
  clear HH HD'
  have HH := hid (number_good (s.extract 1 (1 + r)) (w.alloc (.cells #[.bool false, .slice none 0 0, .slice none 0 0] 26)) hx1 _ HX1.out HNM.out)
  go_wp2_with fail
  refine Calls.mono HH.out ?_
  rintro e w2 ⟨a2, z2, c2, rfl, H2, hb2⟩
  clear HH hx1 HX1
  generalize s.extract 1 (1 + r) = T1 at *
  have HH := hid (one3_any w2)
  go_wp2_with fail
  refine Calls.mono HH.out ?_
  rintro e w3 ⟨g3, rfl, o3, hb3⟩
  clear HH
  have HB3 := hid (bt hb2 hb3)
  have HO3 := hid o3
  have HZ2 := hid ((Sl.own H2.out.1.1 H2.out.1.2.1).later hb3)
  have HL2 := hid (And.intro H2.out.2 H2.out.1.2.2.1)
  have HQ : Hid (Rat.divInt (sg true (val z2)) (val [1]) = q) := by show _ = _; rw [H2.out.1.2.2.2, show val [1] = 1 by simp [val, valTo]]; exact HQQ.out
  clear o3 hb2 hb3 H2 HQQ
  have HO : Calls Tryz.prog 80 #[.bool true, .slice a2 z2.length c2, .slice (some ⟨g3, 0, none⟩) 1 1] w3 (RTold w3 0 (Rat.divInt (sg true (val z2)) (val [1]))) := of3_any true _ _ z2 _ _ [1] w3 HZ2.out (Sl.own (xs := [1]) HO3.out (Wd.one (by omega))) HL2.out.1 (by simp) HL2.out.2 rfl (by simp)
  rw [HQ.out] at HO
  have HH := hid (HO)
  go_wp2_with fail
  refine Calls.mono HH.out ?_
  rintro e w9 ⟨k9, v9, z9, u9, d9, code, rfl, o9, p9, t9, hb9⟩
  clear HH
  obtain ⟨a9, c9, hv⟩ := own_slice' o9
  subst hv
  obtain ⟨b9, l9, hv⟩ := own_slice' p9
  subst hv
  have hbX := bt HB3.out hb9
  obtain ⟨r0, r1, r2, f0, f1, f2⟩ := res_box3 HZ.out hbX
  have HBW := hid (bt HB.out hbX)
  have hzz := (HB3.out).size
  have HE9 := hid (And.intro (owns_base o9 hzz) (And.intro (owns_base p9 hzz) t9))
  have HLT : Hid (w.heap.size < (w.alloc (.cells #[.bool false, .slice none 0 0, .slice none 0 0] 26)).heap.size) := by show _ < _; simp
  clear hbX o9 p9 t9 hb9 hzz HO
  go_wp2_with fail
  refine bodyPost_ret (v := .tuple #[.agg #[.bool k9, .slice a9 z9.length c9, .slice b9 d9.length l9], .int .i64 code]) (by simp [results, Tryz.results57, go_sem, r0, r1, r2]) rfl ?_
  exact RTold.put HE9.out w.heap.size HLT.out (Nat.le_refl _) HBW.out _ _ _

set_option maxHeartbeats 6400000 in
set_option maxRecDepth 100000 in
theorem dparse_B1 (s : ByteArray) (w : World) (hs : s.size ≤ 65536) (h0 : 0 < s.size) (hc : s[0] = 45) (n r : Nat) (hd : Digs s.data.toList 1 n r) (hr : r ≠ 0) (h1 : 1 < s.size) (hz : ¬ s[1] = 48) (he : 1 + r < s.size) (hc2 : ¬ s[1 + r] = 47) (q : Rat) :
    Calls Tryz.prog 57 #[.string s] w (RTold w 130 q) := by
  have HB := hid (alloc_later w (.cells #[.bool false, .slice none 0 0, .slice none 0 0] 26))
  have HZ := hid (Box.made w 26 #[.bool false, .slice none 0 0, .slice none 0 0])
  have hs' : ¬ (65536 : Int) < (s.size : Int) := by omega
  have hz0 : (0 : Int) < (s.size : Int) := by omega
  have hq0 : ((s[0].toNat : Int) == 45) = true := byte_yes (d := 45) hc rfl
  have HD := hid hd
  obtain ⟨hrn, hN⟩ := digs_num hd hr
  subst hrn
  have HLN := hid hd.1.len
  have HNM := hid hN
  have hls := size_list s
  have hr1 : ((r : Int) == 0) = false := beq_eq_false_iff_ne.2 (by omega)
  have hz1 : ((s[1].toNat : Int) == 48) = false := byte_no (d := 48) (hz) rfl
  clear hN hd hz
  have hbA := HLN.out
  rw [hls] at hbA
  have HWB : Hid ((0 : Int) ≤ (1 + (r : Int)) ∧ (1 + (r : Int)) ≤ 1000000) := ⟨by omega, by omega⟩
  have ht1 : (1 + (r : Int)).toNat = 1 + r := by omega
  have hb1 : (0 : Int) ≤ (1 + (r : Int)) := by omega
  have hb2 : (1 + (r : Int)) ≤ (s.size : Int) := by omega
  have hb3 : (1 : Int) ≤ (1 + (r : Int)) := by omega
  have HX1 : Hid ((s.extract 1 (1 + r)).data.toList = (s.data.toList.drop 1).take r) := by show _ = _; rw [extract_list]; congr 1; omega
  have hx1 : (s.extract 1 (1 + r)).size ≤ 65536 := by rw [← size_list, HX1.out, List.length_take, List.length_drop]; omega
  have hlt : (1 + (r : Int)) < (s.size : Int) := by omega
  have hlb : 1 + r < s.size := by omega
  have hcb : ((s[1 + r].toNat : Int) == 47) = false := byte_no (d := 47) (by exact hc2) rfl
  clear hc2 hls
  obtain ⟨hw1, hw2⟩ := wrapI HWB.out.1 HWB.out.2
  clear HWB
  go_enter Tryz.func57, Tryz.ntmps57
  have HH := hid (digits_any s 1 (w.alloc (.cells #[.bool false, .slice none 0 0, .slice none 0 0] 26)) hs (by omega))
  go_wp2_with fail
  refine Calls.mono HH.out ?_
  rintro e w1 ⟨n', r', rfl, HD', rfl⟩
  obtain ⟨rfl, rfl⟩ := Digs.uniq HD.out HD'.out
  clear HH HD'
  have HH := hid (number_good (s.extract 1 (1 + r)) (w.alloc (.cells #[.bool false, .slice none 0 0, .slice none 0 0] 26)) hx1 _ HX1.out HNM.out)
  go_wp2_with fail
  refine Calls.mono HH.out ?_
  rintro e w2 ⟨a2, z2, c2, rfl, H2, hb2⟩
  clear HH hx1 HX1
  generalize s.extract 1 (1 + r) = T1 at *
  have HH := hid (one3_any w2)
  go_wp2_with fail
  refine Calls.mono HH.out ?_
  rintro e w3 ⟨g3, rfl, o3, hb3⟩
  clear HH
  obtain ⟨r0, r1, r2, f0, f1, f2⟩ := res_box3 HZ.out (bt hb2 hb3)
  have HBA := hid (bt HB.out (bt hb2 hb3))
  go_wp2_with fail
  refine bodyPost_ret (v := .tuple #[.agg #[.bool false, .slice none 0 0, .slice none 0 0], .int .i64 130]) (by simp [results, Tryz.results57, go_sem, r0, r1, r2]) rfl ?_
  exact RTold.zero (by decide) (below_put3 HBA.out _ (Nat.le_refl _) _ _ _)

set_option maxHeartbeats 6400000 in
set_option maxRecDepth 100000 in
theorem dparse_F11 (s : ByteArray) (w : World) (hs : s.size ≤ 65536) (h0 : 0 < s.size) (hc : s[0] = 45) (n r : Nat) (hd : Digs s.data.toList 1 n r) (hr : r ≠ 0) (h1 : 1 < s.size) (hz : ¬ s[1] = 48) (he : 1 + r < s.size) (hc2 : s[1 + r] = 47) (m p : Nat) (hd2 : Digs s.data.toList (1 + r + 1) m p) (hp : p = 0) (q : Rat) :
    Calls Tryz.prog 57 #[.string s] w (RTold w 130 q) := by
  have HB := hid (alloc_later w (.cells #[.bool false, .slice none 0 0, .slice none 0 0] 26))
  have HZ := hid (Box.made w 26 #[.bool false, .slice none 0 0, .slice none 0 0])
  have hs' : ¬ (65536 : Int) < (s.size : Int) := by omega
  have hz0 : (0 : Int) < (s.size : Int) := by omega
  have hq0 : ((s[0].toNat : Int) == 45) = true := byte_yes (d := 45) hc rfl
  have HD := hid hd
  obtain ⟨hrn, hN⟩ := digs_num hd hr
  subst hrn
  have HLN := hid hd.1.len
  have HNM := hid hN
  have hls := size_list s
  have hr1 : ((r : Int) == 0) = false := beq_eq_false_iff_ne.2 (by omega)
  have hz1 : ((s[1].toNat : Int) == 48) = false := byte_no (d := 48) (hz) rfl
  clear hN hd hz
  have hbA := HLN.out
  rw [hls] at hbA
  have HWB : Hid ((0 : Int) ≤ (1 + (r : Int)) ∧ (1 + (r : Int)) ≤ 1000000) := ⟨by omega, by omega⟩
  have ht1 : (1 + (r : Int)).toNat = 1 + r := by omega
  have hb1 : (0 : Int) ≤ (1 + (r : Int)) := by omega
  have hb2 : (1 + (r : Int)) ≤ (s.size : Int) := by omega
  have hb3 : (1 : Int) ≤ (1 + (r : Int)) := by omega
  have HX1 : Hid ((s.extract 1 (1 + r)).data.toList = (s.data.toList.drop 1).take r) := by show _ = _; rw [extract_list]; congr 1; omega
  have hx1 : (s.extract 1 (1 + r)).size ≤ 65536 := by rw [← size_list, HX1.out, List.length_take, List.length_drop]; omega
  have hlt : (1 + (r : Int)) < (s.size : Int) := by omega
  have hlb : 1 + r < s.size := by omega
  have hcb : ((s[1 + r].toNat : Int) == 47) = true := byte_yes (d := 47) (by exact hc2) rfl
  have HWU : Hid ((0 : Int) ≤ (1 + (r : Int) + 1) ∧ (1 + (r : Int) + 1) ≤ 1000000) := ⟨by omega, by omega⟩
  have HD2 := hid hd2
  have hlm := hd2.1.len
  rw [hls] at hlm
  have hpm : p ≤ m := by rcases hd2.2 with e | e <;> omega
  have HWV : Hid ((0 : Int) ≤ (1 + (r : Int) + 1) + (p : Int) ∧ (1 + (r : Int) + 1) + (p : Int) ≤ 1000000) := ⟨by omega, by omega⟩
  have HKB : Hid ((((1 + r + 1) : Nat) : Int) = (1 + (r : Int) + 1)) := cast2 r
  have HDG : Hid (∀ V, Calls Tryz.prog 78 #[.string s, .int .i64 (1 + (r : Int) + 1)] V fun e V' => ∃ n1 r1 : Nat, e = .returned (.int .i64 r1) ∧ Hid (Digs s.data.toList (1 + r + 1) n1 r1) ∧ V = V') := fun V => by
    have e := digits_any s (1 + r + 1) V hs hlb
    rw [HKB.out] at e
    exact e
  clear hc2 hd2
  have hp0 : ((p : Int) == 0) = true := by rw [hp]; rfl
  clear hp hls
  obtain ⟨hw1, hw2⟩ := wrapI HWB.out.1 HWB.out.2
  clear HWB
  obtain ⟨hu1, hu2⟩ := wrapI HWU.out.1 HWU.out.2
  clear HWU
  obtain ⟨hv1, hv2⟩ := wrapI HWV.out.1 HWV.out.2
  clear HWV
  go_enter Tryz.func57, Tryz.ntmps57
  have HH := hid (digits_any s 1 (w.alloc (.cells #[.bool false, .slice none 0 0, .slice none 0 0] 26)) hs (by omega))
  go_wp2_with fail
  refine Calls.mono HH.out ?_
  rintro e w1 ⟨n', r', rfl, HD', rfl⟩
  obtain ⟨rfl, rfl⟩ := Digs.uniq HD.out HD'.out
  clear HH HD'
  have HH := hid (number_good (s.extract 1 (1 + r)) (w.alloc (.cells #[.bool false, .slice none 0 0, .slice none 0 0] 26)) hx1 _ HX1.out HNM.out)
  go_wp2_with fail
  refine Calls.mono HH.out ?_
  rintro e w2 ⟨a2, z2, c2, rfl, H2, hb2⟩
  clear HH hx1 HX1
  generalize s.extract 1 (1 + r) = T1 at *
  have HH := hid (one3_any w2)
  go_wp2_with fail
  refine Calls.mono HH.out ?_
  rintro e w3 ⟨g3, rfl, o3, hb3⟩
  clear HH
  have HH := hid (HDG.out w3)
  go_wp2_with fail
  refine Calls.mono HH.out ?_
  rintro e w4 ⟨m', p', rfl, HD', rfl⟩
  obtain ⟨rfl, rfl⟩ := Digs.uniq HD2.out HD'.out
  clear HH HD' HDG
  obtain ⟨r0, r1, r2, f0, f1, f2⟩ := res_box3 HZ.out (bt hb2 hb3)
  have HBA := hid (bt HB.out (bt hb2 hb3))
  go_wp2_with fail
  refine bodyPost_ret (v := .tuple #[.agg #[.bool false, .slice none 0 0, .slice none 0 0], .int .i64 130]) (by simp [results, Tryz.results57, go_sem, r0, r1, r2]) rfl ?_
  exact RTold.zero (by decide) (below_put3 HBA.out _ (Nat.le_refl _) _ _ _)

set_option maxHeartbeats 6400000 in
set_option maxRecDepth 100000 in
theorem dparse_F21 (s : ByteArray) (w : World) (hs : s.size ≤ 65536) (h0 : 0 < s.size) (hc : s[0] = 45) (n r : Nat) (hd : Digs s.data.toList 1 n r) (hr : r ≠ 0) (h1 : 1 < s.size) (hz : ¬ s[1] = 48) (he : 1 + r < s.size) (hc2 : s[1 + r] = 47) (m p : Nat) (hd2 : Digs s.data.toList (1 + r + 1) m p) (hp : p ≠ 0) (hq2 : (1 + r + 1) + p ≠ s.size) (q : Rat) :
    Calls Tryz.prog 57 #[.string s] w (RTold w 130 q) := by
  have HB := hid (alloc_later w (.cells #[.bool false, .slice none 0 0, .slice none 0 0] 26))
  have HZ := hid (Box.made w 26 #[.bool false, .slice none 0 0, .slice none 0 0])
  have hs' : ¬ (65536 : Int) < (s.size : Int) := by omega
  have hz0 : (0 : Int) < (s.size : Int) := by omega
  have hq0 : ((s[0].toNat : Int) == 45) = true := byte_yes (d := 45) hc rfl
  have HD := hid hd
  obtain ⟨hrn, hN⟩ := digs_num hd hr
  subst hrn
  have HLN := hid hd.1.len
  have HNM := hid hN
  have hls := size_list s
  have hr1 : ((r : Int) == 0) = false := beq_eq_false_iff_ne.2 (by omega)
  have hz1 : ((s[1].toNat : Int) == 48) = false := byte_no (d := 48) (hz) rfl
  clear hN hd hz
  have hbA := HLN.out
  rw [hls] at hbA
  have HWB : Hid ((0 : Int) ≤ (1 + (r : Int)) ∧ (1 + (r : Int)) ≤ 1000000) := ⟨by omega, by omega⟩
  have ht1 : (1 + (r : Int)).toNat = 1 + r := by omega
  have hb1 : (0 : Int) ≤ (1 + (r : Int)) := by omega
  have hb2 : (1 + (r : Int)) ≤ (s.size : Int) := by omega
  have hb3 : (1 : Int) ≤ (1 + (r : Int)) := by omega
  have HX1 : Hid ((s.extract 1 (1 + r)).data.toList = (s.data.toList.drop 1).take r) := by show _ = _; rw [extract_list]; congr 1; omega
  have hx1 : (s.extract 1 (1 + r)).size ≤ 65536 := by rw [← size_list, HX1.out, List.length_take, List.length_drop]; omega
  have hlt : (1 + (r : Int)) < (s.size : Int) := by omega
  have hlb : 1 + r < s.size := by omega
  have hcb : ((s[1 + r].toNat : Int) == 47) = true := byte_yes (d := 47) (by exact hc2) rfl
  have HWU : Hid ((0 : Int) ≤ (1 + (r : Int) + 1) ∧ (1 + (r : Int) + 1) ≤ 1000000) := ⟨by omega, by omega⟩
  have HD2 := hid hd2
  have hlm := hd2.1.len
  rw [hls] at hlm
  have hpm : p ≤ m := by rcases hd2.2 with e | e <;> omega
  have HWV : Hid ((0 : Int) ≤ (1 + (r : Int) + 1) + (p : Int) ∧ (1 + (r : Int) + 1) + (p : Int) ≤ 1000000) := ⟨by omega, by omega⟩
  have HKB : Hid ((((1 + r + 1) : Nat) : Int) = (1 + (r : Int) + 1)) := cast2 r
  have HDG : Hid (∀ V, Calls Tryz.prog 78 #[.string s, .int .i64 (1 + (r : Int) + 1)] V fun e V' => ∃ n1 r1 : Nat, e = .returned (.int .i64 r1) ∧ Hid (Digs s.data.toList (1 + r + 1) n1 r1) ∧ V = V') := fun V => by
    have e := digits_any s (1 + r + 1) V hs hlb
    rw [HKB.out] at e
    exact e
  clear hc2 hd2
  have hp0 : ((p : Int) == 0) = false := beq_eq_false_iff_ne.2 (by omega)
  have hp1 : ((1 + (r : Int) + 1) + (p : Int) == (s.size : Int)) = false := beq_eq_false_iff_ne.2 (by omega)
  have hp2 : ((1 + (r : Int) + 1) + (p : Int) != (s.size : Int)) = true := bne_iff_ne.2 (by omega)
  clear hp hq2 hls
  obtain ⟨hw1, hw2⟩ := wrapI HWB.out.1 HWB.out.2
  clear HWB
  obtain ⟨hu1, hu2⟩ := wrapI HWU.out.1 HWU.out.2
  clear HWU
  obtain ⟨hv1, hv2⟩ := wrapI HWV.out.1 HWV.out.2
  clear HWV
  go_enter Tryz.func57, Tryz.ntmps57
  have HH := hid (digits_any s 1 (w.alloc (.cells #[.bool false, .slice none 0 0, .slice none 0 0] 26)) hs (by omega))
  go_wp2_with fail
  refine Calls.mono HH.out ?_
  rintro e w1 ⟨n', r', rfl, HD', rfl⟩
  obtain ⟨rfl, rfl⟩ := Digs.uniq HD.out HD'.out
  clear HH HD'
  have HH := hid (number_good (s.extract 1 (1 + r)) (w.alloc (.cells #[.bool false, .slice none 0 0, .slice none 0 0] 26)) hx1 _ HX1.out HNM.out)
  go_wp2_with fail
  refine Calls.mono HH.out ?_
  rintro e w2 ⟨a2, z2, c2, rfl, H2, hb2⟩
  clear HH hx1 HX1
  generalize s.extract 1 (1 + r) = T1 at *
  have HH := hid (one3_any w2)
  go_wp2_with fail
  refine Calls.mono HH.out ?_
  rintro e w3 ⟨g3, rfl, o3, hb3⟩
  clear HH
  have HH := hid (HDG.out w3)
  go_wp2_with fail
  refine Calls.mono HH.out ?_
  rintro e w4 ⟨m', p', rfl, HD', rfl⟩
  obtain ⟨rfl, rfl⟩ := Digs.uniq HD2.out HD'.out
  clear HH HD' HDG
  obtain ⟨r0, r1, r2, f0, f1, f2⟩ := res_box3 HZ.out (bt hb2 hb3)
  have HBA := hid (bt HB.out (bt hb2 hb3))
  go_wp2_with fail
  refine bodyPost_ret (v := .tuple #[.agg #[.bool false, .slice none 0 0, .slice none 0 0], .int .i64 130]) (by simp [results, Tryz.results57, go_sem, r0, r1, r2]) rfl ?_
  exact RTold.zero (by decide) (below_put3 HBA.out _ (Nat.le_refl _) _ _ _)

set_option maxHeartbeats 6400000 in
set_option maxRecDepth 100000 in
theorem dparse_G01 (s : ByteArray) (w : World) (hs : s.size ≤ 65536) (h0 : 0 < s.size) (hc : s[0] = 45) (n r : Nat) (hd : Digs s.data.toList 1 n r) (hr : r ≠ 0) (h1 : 1 < s.size) (hz : ¬ s[1] = 48) (he : 1 + r < s.size) (hc2 : s[1 + r] = 47) (m p : Nat) (hd2 : Digs s.data.toList (1 + r + 1) m p) (hp : p ≠ 0) (hq2 : (1 + r + 1) + p = s.size) (hn2 : IsNum (s.data.toList.drop (1 + r + 1))) (hY : (numTo (s.data.toList.drop (1 + r + 1)) (s.data.toList.drop (1 + r + 1)).length) = 0) (q : Rat) :
    Calls Tryz.prog 57 #[.string s] w (RTold w 130 q) := by
  have HB := hid (alloc_later w (.cells #[.bool false, .slice none 0 0, .slice none 0 0] 26))
  have HZ := hid (Box.made w 26 #[.bool false, .slice none 0 0, .slice none 0 0])
  have hs' : ¬ (65536 : Int) < (s.size : Int) := by omega
  have hz0 : (0 : Int) < (s.size : Int) := by omega
  have hq0 : ((s[0].toNat : Int) == 45) = true := byte_yes (d := 45) hc rfl
  have HD := hid hd
  obtain ⟨hrn, hN⟩ := digs_num hd hr
  subst hrn
  have HLN := hid hd.1.len
  have HNM := hid hN
  have hls := size_list s
  have hr1 : ((r : Int) == 0) = false := beq_eq_false_iff_ne.2 (by omega)
  have hz1 : ((s[1].toNat : Int) == 48) = false := byte_no (d := 48) (hz) rfl
  clear hN hd hz
  have hbA := HLN.out
  rw [hls] at hbA
  have HWB : Hid ((0 : Int) ≤ (1 + (r : Int)) ∧ (1 + (r : Int)) ≤ 1000000) := ⟨by omega, by omega⟩
  have ht1 : (1 + (r : Int)).toNat = 1 + r := by omega
  have hb1 : (0 : Int) ≤ (1 + (r : Int)) := by omega
  have hb2 : (1 + (r : Int)) ≤ (s.size : Int) := by omega
  have hb3 : (1 : Int) ≤ (1 + (r : Int)) := by omega
  have HX1 : Hid ((s.extract 1 (1 + r)).data.toList = (s.data.toList.drop 1).take r) := by show _ = _; rw [extract_list]; congr 1; omega
  have hx1 : (s.extract 1 (1 + r)).size ≤ 65536 := by rw [← size_list, HX1.out, List.length_take, List.length_drop]; omega
  have hlt : (1 + (r : Int)) < (s.size : Int) := by omega
  have hlb : 1 + r < s.size := by omega
  have hcb : ((s[1 + r].toNat : Int) == 47) = true := byte_yes (d := 47) (by exact hc2) rfl
  have HWU : Hid ((0 : Int) ≤ (1 + (r : Int) + 1) ∧ (1 + (r : Int) + 1) ≤ 1000000) := ⟨by omega, by omega⟩
  have HD2 := hid hd2
  have hlm := hd2.1.len
  rw [hls] at hlm
  have hpm : p ≤ m := by rcases hd2.2 with e | e <;> omega
  have HWV : Hid ((0 : Int) ≤ (1 + (r : Int) + 1) + (p : Int) ∧ (1 + (r : Int) + 1) + (p : Int) ≤ 1000000) := ⟨by omega, by omega⟩
  have HKB : Hid ((((1 + r + 1) : Nat) : Int) = (1 + (r : Int) + 1)) := cast2 r
  have HDG : Hid (∀ V, Calls Tryz.prog 78 #[.string s, .int .i64 (1 + (r : Int) + 1)] V fun e V' => ∃ n1 r1 : Nat, e = .returned (.int .i64 r1) ∧ Hid (Digs s.data.toList (1 + r + 1) n1 r1) ∧ V = V') := fun V => by
    have e := digits_any s (1 + r + 1) V hs hlb
    rw [HKB.out] at e
    exact e
  clear hc2 hd2
  have hp0 : ((p : Int) == 0) = false := beq_eq_false_iff_ne.2 (by omega)
  have hp1 : ((1 + (r : Int) + 1) + (p : Int) == (s.size : Int)) = true := beq_iff_eq.2 (by omega)
  have hp2 : ((1 + (r : Int) + 1) + (p : Int) != (s.size : Int)) = false := by rw [bne, hp1]; rfl
  have HX2 : Hid ((s.extract (1 + r + 1) s.size).data.toList = s.data.toList.drop (1 + r + 1)) := by show _ = _; rw [extract_list]; exact List.take_of_length_le (by rw [List.length_drop]; omega)
  have hx2 : (s.extract (1 + r + 1) s.size).size ≤ 65536 := by rw [← size_list, HX2.out, List.length_drop]; omega
  have hy1 : (0 : Int) ≤ (1 + (r : Int) + 1) := by omega
  have hy2 : (1 + (r : Int) + 1) ≤ (s.size : Int) := by omega
  have hy3 : (1 + (r : Int) + 1).toNat = (1 + r + 1) := by omega
  have HN2 := hid hn2
  clear hp hq2 hn2 hls
  have HY := hid hY
  clear hY
  obtain ⟨hw1, hw2⟩ := wrapI HWB.out.1 HWB.out.2
  clear HWB
  obtain ⟨hu1, hu2⟩ := wrapI HWU.out.1 HWU.out.2
  clear HWU
  obtain ⟨hv1, hv2⟩ := wrapI HWV.out.1 HWV.out.2
  clear HWV
  go_enter Tryz.func57, Tryz.ntmps57
  have HH := hid (digits_any s 1 (w.alloc (.cells #[.bool false, .slice none 0 0, .slice none 0 0] 26)) hs (by omega))
  go_wp2_with fail
  refine Calls.mono HH.out ?_
  rintro e w1 ⟨n', r', rfl, HD', rfl⟩
  obtain ⟨rfl, rfl⟩ := Digs.uniq HD.out HD'.out
  clear HH HD'
  have HH := hid (number_good (s.extract 1 (1 + r)) (w.alloc (.cells #[.bool false, .slice none 0 0, .slice none 0 0] 26)) hx1 _ HX1.out HNM.out)
  go_wp2_with fail
  refine Calls.mono HH.out ?_
  rintro e w2 ⟨a2, z2, c2, rfl, H2, hb2⟩
  clear HH hx1 HX1
  generalize s.extract 1 (1 + r) = T1 at *
  have HH := hid (one3_any w2)
  go_wp2_with fail
  refine Calls.mono HH.out ?_
  rintro e w3 ⟨g3, rfl, o3, hb3⟩
  clear HH
  have HH := hid (HDG.out w3)
  go_wp2_with fail
  refine Calls.mono HH.out ?_
  rintro e w4 ⟨m', p', rfl, HD', rfl⟩
  obtain ⟨rfl, rfl⟩ := Digs.uniq HD2.out HD'.out
  clear HH HD' HDG
  have HH := hid (number_good (s.extract (1 + r + 1) s.size) w3 hx2 _ HX2.out HN2.out)
  go_wp2_with fail
  refine Calls.mono HH.out ?_
  rintro e w4 ⟨a4, z4, c4, rfl, H4, hb4⟩
  clear HH hx2 HX2
  generalize s.extract (1 + r + 1) s.size = T2 at *
  have HB4 := hid (bt (bt hb2 hb3) hb4)
  have HO2 := hid (H2.out.1.later (bt hb3 hb4))
  have HL2 := hid (And.intro H2.out.2 H2.out.1.2.2.1)
  have HO4 := hid H4.out.1
  have HL4 := hid H4.out.2
  have lz2 := H2.out.2
  have lz4 := H4.out.2
  clear hb2 hb3 hb4 H2 H4 o3
  have HG := refGcd_sl _ _ z2 z4 w4 HO2.out.sl HO4.out.sl (by omega) (by omega)
  rw [both_good (chk_good lz2 HO2.out.2.2.1) (chk_good lz4 HO4.out.2.2.1)] at HG
  have HGW := hid (gcd_wide HO2.out.2.1 HO4.out.2.1 (both_good (chk_good lz2 HO2.out.2.2.1) (chk_good lz4 HO4.out.2.2.1)))
  have HH := hid HG
  clear HG
  go_wp2_with fail
  refine Calls.mono HH.out ?_
  rintro e w5 ⟨v5, z5, cd5, rfl, o5, t5, hb5⟩
  obtain ⟨a5, c5, hv⟩ := own_slice' o5
  subst hv
  obtain ⟨hc5, hv5⟩ := t5.good rfl HGW.out
  have l5 : z5.length ≤ 8192 := len_of_lt t5.wd t5.trim (by rw [hv5]; exact HGW.out)
  have HO5 := hid (And.intro (Sl.own o5 t5.wd) (And.intro t5.wd (And.intro t5.trim hv5)))
  have HB5 := hid (bt HB4.out hb5)
  have HZ2 := hid (HO2.out.sl.later hb5)
  have HZ4 := hid (HO4.out.sl.later hb5)
  clear HH o5 t5 hc5 hv5 HGW hb5
  have hl4 : ((z4.length : Int) == 0) = true := by
    have e : z4.length = 0 := by
      by_cases c : z4.length = 0
      · exact c
      · have e2 := val_pos' HO4.out.2.1 HO4.out.2.2.1 (by omega); rw [HO4.out.2.2.2, HY.out] at e2; omega
    rw [e]; rfl
  obtain ⟨r0, r1, r2, f0, f1, f2⟩ := res_box3 HZ.out HB5.out
  have HBA := hid (bt HB.out HB5.out)
  go_wp2_with fail
  refine bodyPost_ret (v := .tuple #[.agg #[.bool false, .slice none 0 0, .slice none 0 0], .int .i64 130]) (by simp [results, Tryz.results57, go_sem, r0, r1, r2]) rfl ?_
  exact RTold.zero (by decide) (below_put3 HBA.out _ (Nat.le_refl _) _ _ _)

set_option maxHeartbeats 6400000 in
set_option maxRecDepth 100000 in
theorem dparse_G11 (s : ByteArray) (w : World) (hs : s.size ≤ 65536) (h0 : 0 < s.size) (hc : s[0] = 45) (n r : Nat) (hd : Digs s.data.toList 1 n r) (hr : r ≠ 0) (h1 : 1 < s.size) (hz : ¬ s[1] = 48) (he : 1 + r < s.size) (hc2 : s[1 + r] = 47) (m p : Nat) (hd2 : Digs s.data.toList (1 + r + 1) m p) (hp : p ≠ 0) (hq2 : (1 + r + 1) + p = s.size) (hn2 : IsNum (s.data.toList.drop (1 + r + 1))) (hY : (numTo (s.data.toList.drop (1 + r + 1)) (s.data.toList.drop (1 + r + 1)).length) = 1) (q : Rat) :
    Calls Tryz.prog 57 #[.string s] w (RTold w 130 q) := by
  have HB := hid (alloc_later w (.cells #[.bool false, .slice none 0 0, .slice none 0 0] 26))
  have HZ := hid (Box.made w 26 #[.bool false, .slice none 0 0, .slice none 0 0])
  have hs' : ¬ (65536 : Int) < (s.size : Int) := by omega
  have hz0 : (0 : Int) < (s.size : Int) := by omega
  have hq0 : ((s[0].toNat : Int) == 45) = true := byte_yes (d := 45) hc rfl
  have HD := hid hd
  obtain ⟨hrn, hN⟩ := digs_num hd hr
  subst hrn
  have HLN := hid hd.1.len
  have HNM := hid hN
  have hls := size_list s
  have hr1 : ((r : Int) == 0) = false := beq_eq_false_iff_ne.2 (by omega)
  have hz1 : ((s[1].toNat : Int) == 48) = false := byte_no (d := 48) (hz) rfl
  clear hN hd hz
  have hbA := HLN.out
  rw [hls] at hbA
  have HWB : Hid ((0 : Int) ≤ (1 + (r : Int)) ∧ (1 + (r : Int)) ≤ 1000000) := ⟨by omega, by omega⟩
  have ht1 : (1 + (r : Int)).toNat = 1 + r := by omega
  have hb1 : (0 : Int) ≤ (1 + (r : Int)) := by omega
  have hb2 : (1 + (r : Int)) ≤ (s.size : Int) := by omega
  have hb3 : (1 : Int) ≤ (1 + (r : Int)) := by omega
  have HX1 : Hid ((s.extract 1 (1 + r)).data.toList = (s.data.toList.drop 1).take r) := by show _ = _; rw [extract_list]; congr 1; omega
  have hx1 : (s.extract 1 (1 + r)).size ≤ 65536 := by rw [← size_list, HX1.out, List.length_take, List.length_drop]; omega
  have hlt : (1 + (r : Int)) < (s.size : Int) := by omega
  have hlb : 1 + r < s.size := by omega
  have hcb : ((s[1 + r].toNat : Int) == 47) = true := byte_yes (d := 47) (by exact hc2) rfl
  have HWU : Hid ((0 : Int) ≤ (1 + (r : Int) + 1) ∧ (1 + (r : Int) + 1) ≤ 1000000) := ⟨by omega, by omega⟩
  have HD2 := hid hd2
  have hlm := hd2.1.len
  rw [hls] at hlm
  have hpm : p ≤ m := by rcases hd2.2 with e | e <;> omega
  have HWV : Hid ((0 : Int) ≤ (1 + (r : Int) + 1) + (p : Int) ∧ (1 + (r : Int) + 1) + (p : Int) ≤ 1000000) := ⟨by omega, by omega⟩
  have HKB : Hid ((((1 + r + 1) : Nat) : Int) = (1 + (r : Int) + 1)) := cast2 r
  have HDG : Hid (∀ V, Calls Tryz.prog 78 #[.string s, .int .i64 (1 + (r : Int) + 1)] V fun e V' => ∃ n1 r1 : Nat, e = .returned (.int .i64 r1) ∧ Hid (Digs s.data.toList (1 + r + 1) n1 r1) ∧ V = V') := fun V => by
    have e := digits_any s (1 + r + 1) V hs hlb
    rw [HKB.out] at e
    exact e
  clear hc2 hd2
  have hp0 : ((p : Int) == 0) = false := beq_eq_false_iff_ne.2 (by omega)
  have hp1 : ((1 + (r : Int) + 1) + (p : Int) == (s.size : Int)) = true := beq_iff_eq.2 (by omega)
  have hp2 : ((1 + (r : Int) + 1) + (p : Int) != (s.size : Int)) = false := by rw [bne, hp1]; rfl
  have HX2 : Hid ((s.extract (1 + r + 1) s.size).data.toList = s.data.toList.drop (1 + r + 1)) := by show _ = _; rw [extract_list]; exact List.take_of_length_le (by rw [List.length_drop]; omega)
  have hx2 : (s.extract (1 + r + 1) s.size).size ≤ 65536 := by rw [← size_list, HX2.out, List.length_drop]; omega
  have hy1 : (0 : Int) ≤ (1 + (r : Int) + 1) := by omega
  have hy2 : (1 + (r : Int) + 1) ≤ (s.size : Int) := by omega
  have hy3 : (1 + (r : Int) + 1).toNat = (1 + r + 1) := by omega
  have HN2 := hid hn2
  clear hp hq2 hn2 hls
  have HY1 := hid hY
  have HY : Hid (¬ (numTo (s.data.toList.drop (1 + r + 1)) (s.data.toList.drop (1 + r + 1)).length) = 0) := by show ¬ _; omega
  clear hY
  obtain ⟨hw1, hw2⟩ := wrapI HWB.out.1 HWB.out.2
  clear HWB
  obtain ⟨hu1, hu2⟩ := wrapI HWU.out.1 HWU.out.2
  clear HWU
  obtain ⟨hv1, hv2⟩ := wrapI HWV.out.1 HWV.out.2
  clear HWV
  go_enter Tryz.func57, Tryz.ntmps57
  have HH := hid (digits_any s 1 (w.alloc (.cells #[.bool false, .slice none 0 0, .slice none 0 0] 26)) hs (by omega))
  go_wp2_with fail
  refine Calls.mono HH.out ?_
  rintro e w1 ⟨n', r', rfl, HD', rfl⟩
  obtain ⟨rfl, rfl⟩ := Digs.uniq HD.out HD'.out
  clear HH HD'
  have HH := hid (number_good (s.extract 1 (1 + r)) (w.alloc (.cells #[.bool false, .slice none 0 0, .slice none 0 0] 26)) hx1 _ HX1.out HNM.out)
  go_wp2_with fail
  refine Calls.mono HH.out ?_
  rintro e w2 ⟨a2, z2, c2, rfl, H2, hb2⟩
  clear HH hx1 HX1
  generalize s.extract 1 (1 + r) = T1 at *
  have HH := hid (one3_any w2)
  go_wp2_with fail
  refine Calls.mono HH.out ?_
  rintro e w3 ⟨g3, rfl, o3, hb3⟩
  clear HH
  have HH := hid (HDG.out w3)
  go_wp2_with fail
  refine Calls.mono HH.out ?_
  rintro e w4 ⟨m', p', rfl, HD', rfl⟩
  obtain ⟨rfl, rfl⟩ := Digs.uniq HD2.out HD'.out
  clear HH HD' HDG
  have HH := hid (number_good (s.extract (1 + r + 1) s.size) w3 hx2 _ HX2.out HN2.out)
  go_wp2_with fail
  refine Calls.mono HH.out ?_
  rintro e w4 ⟨a4, z4, c4, rfl, H4, hb4⟩
  clear HH hx2 HX2
  generalize s.extract (1 + r + 1) s.size = T2 at *
  have HB4 := hid (bt (bt hb2 hb3) hb4)
  have HO2 := hid (H2.out.1.later (bt hb3 hb4))
  have HL2 := hid (And.intro H2.out.2 H2.out.1.2.2.1)
  have HO4 := hid H4.out.1
  have HL4 := hid H4.out.2
  have lz2 := H2.out.2
  have lz4 := H4.out.2
  clear hb2 hb3 hb4 H2 H4 o3
  have HG := refGcd_sl _ _ z2 z4 w4 HO2.out.sl HO4.out.sl (by omega) (by omega)
  rw [both_good (chk_good lz2 HO2.out.2.2.1) (chk_good lz4 HO4.out.2.2.1)] at HG
  have HGW := hid (gcd_wide HO2.out.2.1 HO4.out.2.1 (both_good (chk_good lz2 HO2.out.2.2.1) (chk_good lz4 HO4.out.2.2.1)))
  have HH := hid HG
  clear HG
  go_wp2_with fail
  refine Calls.mono HH.out ?_
  rintro e w5 ⟨v5, z5, cd5, rfl, o5, t5, hb5⟩
  obtain ⟨a5, c5, hv⟩ := own_slice' o5
  subst hv
  obtain ⟨hc5, hv5⟩ := t5.good rfl HGW.out
  have l5 : z5.length ≤ 8192 := len_of_lt t5.wd t5.trim (by rw [hv5]; exact HGW.out)
  have HO5 := hid (And.intro (Sl.own o5 t5.wd) (And.intro t5.wd (And.intro t5.trim hv5)))
  have HB5 := hid (bt HB4.out hb5)
  have HZ2 := hid (HO2.out.sl.later hb5)
  have HZ4 := hid (HO4.out.sl.later hb5)
  clear HH o5 t5 hc5 hv5 HGW hb5
  have hl4 : ((z4.length : Int) == 0) = false := by
    apply beq_eq_false_iff_ne.2
    intro e
    have e3 : z4 = [] := List.length_eq_zero_iff.1 (by omega)
    have e2 := HO4.out.2.2.2
    rw [e3] at e2
    exact HY.out (by rw [← e2]; simp [val, valTo])
  have HH := hid (one3_any w5)
  go_wp2_with fail
  refine Calls.mono HH.out ?_
  rintro e w6 ⟨g6, rfl, o6, hb6⟩
  clear HH
  have HSM : Calls Tryz.prog 45 #[.slice a4 z4.length c4, .slice (some ⟨g6, 0, none⟩) 1 1] w6 fun e w' => e = .returned (.bool (decide (z4 = [1]))) ∧ Below w6.heap.size w6 w' := same3_sl _ _ z4 [1] w6 (HZ4.out.later hb6) (Sl.own (xs := [1]) o6 (Wd.one (by omega))) (by omega) (by simp)
  rw [decide_eq_true ((one_iff HO4.out.2.1 HO4.out.2.2.1).2 (HO4.out.2.2.2.trans HY1.out))] at HSM
  have HH := hid HSM
  clear HSM
  go_wp2_with fail
  refine Calls.mono HH.out ?_
  rintro e w7 ⟨rfl, hb7⟩
  clear HH
  obtain ⟨r0, r1, r2, f0, f1, f2⟩ := res_box3 HZ.out (bt HB5.out (bt hb6 hb7))
  have HBA := hid (bt HB.out (bt HB5.out (bt hb6 hb7)))
  go_wp2_with fail
  refine bodyPost_ret (v := .tuple #[.agg #[.bool false, .slice none 0 0, .slice none 0 0], .int .i64 130]) (by simp [results, Tryz.results57, go_sem, r0, r1, r2]) rfl ?_
  exact RTold.zero (by decide) (below_put3 HBA.out _ (Nat.le_refl _) _ _ _)

set_option maxHeartbeats 6400000 in
set_option maxRecDepth 100000 in
theorem dparse_G21 (s : ByteArray) (w : World) (hs : s.size ≤ 65536) (h0 : 0 < s.size) (hc : s[0] = 45) (n r : Nat) (hd : Digs s.data.toList 1 n r) (hr : r ≠ 0) (h1 : 1 < s.size) (hz : ¬ s[1] = 48) (he : 1 + r < s.size) (hc2 : s[1 + r] = 47) (m p : Nat) (hd2 : Digs s.data.toList (1 + r + 1) m p) (hp : p ≠ 0) (hq2 : (1 + r + 1) + p = s.size) (hn2 : IsNum (s.data.toList.drop (1 + r + 1))) (hY : ¬ (numTo (s.data.toList.drop (1 + r + 1)) (s.data.toList.drop (1 + r + 1)).length) = 0) (hY1 : ¬ (numTo (s.data.toList.drop (1 + r + 1)) (s.data.toList.drop (1 + r + 1)).length) = 1) (hg : ¬ gcdI (numTo ((s.data.toList.drop 1).take r) ((s.data.toList.drop 1).take r).length) (numTo (s.data.toList.drop (1 + r + 1)) (s.data.toList.drop (1 + r + 1)).length) = 1) (q : Rat) :
    Calls Tryz.prog 57 #[.string s] w (RTold w 130 q) := by
  have HB := hid (alloc_later w (.cells #[.bool false, .slice none 0 0, .slice none 0 0] 26))
  have HZ := hid (Box.made w 26 #[.bool false, .slice none 0 0, .slice none 0 0])
  have hs' : ¬ (65536 : Int) < (s.size : Int) := by omega
  have hz0 : (0 : Int) < (s.size : Int) := by omega
  have hq0 : ((s[0].toNat : Int) == 45) = true := byte_yes (d := 45) hc rfl
  have HD := hid hd
  obtain ⟨hrn, hN⟩ := digs_num hd hr
  subst hrn
  have HLN := hid hd.1.len
  have HNM := hid hN
  have hls := size_list s
  have hr1 : ((r : Int) == 0) = false := beq_eq_false_iff_ne.2 (by omega)
  have hz1 : ((s[1].toNat : Int) == 48) = false := byte_no (d := 48) (hz) rfl
  clear hN hd hz
  have hbA := HLN.out
  rw [hls] at hbA
  have HWB : Hid ((0 : Int) ≤ (1 + (r : Int)) ∧ (1 + (r : Int)) ≤ 1000000) := ⟨by omega, by omega⟩
  have ht1 : (1 + (r : Int)).toNat = 1 + r := by omega
  have hb1 : (0 : Int) ≤ (1 + (r : Int)) := by omega
  have hb2 : (1 + (r : Int)) ≤ (s.size : Int) := by omega
  have hb3 : (1 : Int) ≤ (1 + (r : Int)) := by omega
  have HX1 : Hid ((s.extract 1 (1 + r)).data.toList = (s.data.toList.drop 1).take r) := by show _ = _; rw [extract_list]; congr 1; omega
  have hx1 : (s.extract 1 (1 + r)).size ≤ 65536 := by rw [← size_list, HX1.out, List.length_take, List.length_drop]; omega
  have hlt : (1 + (r : Int)) < (s.size : Int) := by omega
  have hlb : 1 + r < s.size := by omega
  have hcb : ((s[1 + r].toNat : Int) == 47) = true := byte_yes (d := 47) (by exact hc2) rfl
  have HWU : Hid ((0 : Int) ≤ (1 + (r : Int) + 1) ∧ (1 + (r : Int) + 1) ≤ 1000000) := ⟨by omega, by omega⟩
  have HD2 := hid hd2
  have hlm := hd2.1.len
  rw [hls] at hlm
  have hpm : p ≤ m := by rcases hd2.2 with e | e <;> omega
  have HWV : Hid ((0 : Int) ≤ (1 + (r : Int) + 1) + (p : Int) ∧ (1 + (r : Int) + 1) + (p : Int) ≤ 1000000) := ⟨by omega, by omega⟩
  have HKB : Hid ((((1 + r + 1) : Nat) : Int) = (1 + (r : Int) + 1)) := cast2 r
  have HDG : Hid (∀ V, Calls Tryz.prog 78 #[.string s, .int .i64 (1 + (r : Int) + 1)] V fun e V' => ∃ n1 r1 : Nat, e = .returned (.int .i64 r1) ∧ Hid (Digs s.data.toList (1 + r + 1) n1 r1) ∧ V = V') := fun V => by
    have e := digits_any s (1 + r + 1) V hs hlb
    rw [HKB.out] at e
    exact e
  clear hc2 hd2
  have hp0 : ((p : Int) == 0) = false := beq_eq_false_iff_ne.2 (by omega)
  have hp1 : ((1 + (r : Int) + 1) + (p : Int) == (s.size : Int)) = true := beq_iff_eq.2 (by omega)
  have hp2 : ((1 + (r : Int) + 1) + (p : Int) != (s.size : Int)) = false := by rw [bne, hp1]; rfl
  have HX2 : Hid ((s.extract (1 + r + 1) s.size).data.toList = s.data.toList.drop (1 + r + 1)) := by show _ = _; rw [extract_list]; exact List.take_of_length_le (by rw [List.length_drop]; omega)
  have hx2 : (s.extract (1 + r + 1) s.size).size ≤ 65536 := by rw [← size_list, HX2.out, List.length_drop]; omega
  have hy1 : (0 : Int) ≤ (1 + (r : Int) + 1) := by omega
  have hy2 : (1 + (r : Int) + 1) ≤ (s.size : Int) := by omega
  have hy3 : (1 + (r : Int) + 1).toNat = (1 + r + 1) := by omega
  have HN2 := hid hn2
  clear hp hq2 hn2 hls
  have HY := hid hY
  have HY1 := hid hY1
  have HGG := hid hg
  clear hY hY1 hg
  obtain ⟨hw1, hw2⟩ := wrapI HWB.out.1 HWB.out.2
  clear HWB
  obtain ⟨hu1, hu2⟩ := wrapI HWU.out.1 HWU.out.2
  clear HWU
  obtain ⟨hv1, hv2⟩ := wrapI HWV.out.1 HWV.out.2
  clear HWV
  go_enter Tryz.func57, Tryz.ntmps57
  have HH := hid (digits_any s 1 (w.alloc (.cells #[.bool false, .slice none 0 0, .slice none 0 0] 26)) hs (by omega))
  go_wp2_with fail
  refine Calls.mono HH.out ?_
  rintro e w1 ⟨n', r', rfl, HD', rfl⟩
  obtain ⟨rfl, rfl⟩ := Digs.uniq HD.out HD'.out
  clear HH HD'
  have HH := hid (number_good (s.extract 1 (1 + r)) (w.alloc (.cells #[.bool false, .slice none 0 0, .slice none 0 0] 26)) hx1 _ HX1.out HNM.out)
  go_wp2_with fail
  refine Calls.mono HH.out ?_
  rintro e w2 ⟨a2, z2, c2, rfl, H2, hb2⟩
  clear HH hx1 HX1
  generalize s.extract 1 (1 + r) = T1 at *
  have HH := hid (one3_any w2)
  go_wp2_with fail
  refine Calls.mono HH.out ?_
  rintro e w3 ⟨g3, rfl, o3, hb3⟩
  clear HH
  have HH := hid (HDG.out w3)
  go_wp2_with fail
  refine Calls.mono HH.out ?_
  rintro e w4 ⟨m', p', rfl, HD', rfl⟩
  obtain ⟨rfl, rfl⟩ := Digs.uniq HD2.out HD'.out
  clear HH HD' HDG
  have HH := hid (number_good (s.extract (1 + r + 1) s.size) w3 hx2 _ HX2.out HN2.out)
  go_wp2_with fail
  refine Calls.mono HH.out ?_
  rintro e w4 ⟨a4, z4, c4, rfl, H4, hb4⟩
  clear HH hx2 HX2
  generalize s.extract (1 + r + 1) s.size = T2 at *
  have HB4 := hid (bt (bt hb2 hb3) hb4)
  have HO2 := hid (H2.out.1.later (bt hb3 hb4))
  have HL2 := hid (And.intro H2.out.2 H2.out.1.2.2.1)
  have HO4 := hid H4.out.1
  have HL4 := hid H4.out.2
  have lz2 := H2.out.2
  have lz4 := H4.out.2
  clear hb2 hb3 hb4 H2 H4 o3
  have HG := refGcd_sl _ _ z2 z4 w4 HO2.out.sl HO4.out.sl (by omega) (by omega)
  rw [both_good (chk_good lz2 HO2.out.2.2.1) (chk_good lz4 HO4.out.2.2.1)] at HG
  have HGW := hid (gcd_wide HO2.out.2.1 HO4.out.2.1 (both_good (chk_good lz2 HO2.out.2.2.1) (chk_good lz4 HO4.out.2.2.1)))
  have HH := hid HG
  clear HG
  go_wp2_with fail
  refine Calls.mono HH.out ?_
  rintro e w5 ⟨v5, z5, cd5, rfl, o5, t5, hb5⟩
  obtain ⟨a5, c5, hv⟩ := own_slice' o5
  subst hv
  obtain ⟨hc5, hv5⟩ := t5.good rfl HGW.out
  have l5 : z5.length ≤ 8192 := len_of_lt t5.wd t5.trim (by rw [hv5]; exact HGW.out)
  have HO5 := hid (And.intro (Sl.own o5 t5.wd) (And.intro t5.wd (And.intro t5.trim hv5)))
  have HB5 := hid (bt HB4.out hb5)
  have HZ2 := hid (HO2.out.sl.later hb5)
  have HZ4 := hid (HO4.out.sl.later hb5)
  clear HH o5 t5 hc5 hv5 HGW hb5
  have hl4 : ((z4.length : Int) == 0) = false := by
    apply beq_eq_false_iff_ne.2
    intro e
    have e3 : z4 = [] := List.length_eq_zero_iff.1 (by omega)
    have e2 := HO4.out.2.2.2
    rw [e3] at e2
    exact HY.out (by rw [← e2]; simp [val, valTo])
  have HH := hid (one3_any w5)
  go_wp2_with fail
  refine Calls.mono HH.out ?_
  rintro e w6 ⟨g6, rfl, o6, hb6⟩
  clear HH
  have HSM : Calls Tryz.prog 45 #[.slice a4 z4.length c4, .slice (some ⟨g6, 0, none⟩) 1 1] w6 fun e w' => e = .returned (.bool (decide (z4 = [1]))) ∧ Below w6.heap.size w6 w' := same3_sl _ _ z4 [1] w6 (HZ4.out.later hb6) (Sl.own (xs := [1]) o6 (Wd.one (by omega))) (by omega) (by simp)
  rw [decide_eq_false (fun e => HY1.out (HO4.out.2.2.2.symm.trans ((one_iff HO4.out.2.1 HO4.out.2.2.1).1 e)))] at HSM
  have HH := hid HSM
  clear HSM
  go_wp2_with fail
  refine Calls.mono HH.out ?_
  rintro e w7 ⟨rfl, hb7⟩
  clear HH
  have HB7 := hid (bt hb6 hb7)
  clear hb6 hb7 o6
  have HH := hid (one3_any w7)
  go_wp2_with fail
  refine Calls.mono HH.out ?_
  rintro e w8 ⟨g8, rfl, o8, hb8⟩
  clear HH
  have HSM : Calls Tryz.prog 45 #[.slice a5 z5.length c5, .slice (some ⟨g8, 0, none⟩) 1 1] w8 fun e w' => e = .returned (.bool (decide (z5 = [1]))) ∧ Below w8.heap.size w8 w' := same3_sl _ _ z5 [1] w8 (HO5.out.1.later (bt HB7.out hb8)) (Sl.own (xs := [1]) o8 (Wd.one (by omega))) (by omega) (by simp)
  rw [decide_eq_false (fun e => HGG.out (by have e2 := (one_iff HO5.out.2.1 HO5.out.2.2.1).1 e; rw [HO5.out.2.2.2, HO2.out.2.2.2, HO4.out.2.2.2] at e2; exact e2))] at HSM
  have HH := hid HSM
  clear HSM
  go_wp2_with fail
  refine Calls.mono HH.out ?_
  rintro e w9 ⟨rfl, hb9⟩
  clear HH
  obtain ⟨r0, r1, r2, f0, f1, f2⟩ := res_box3 HZ.out (bt HB5.out (bt HB7.out (bt hb8 hb9)))
  have HBA := hid (bt HB.out (bt HB5.out (bt HB7.out (bt hb8 hb9))))
  go_wp2_with fail
  refine bodyPost_ret (v := .tuple #[.agg #[.bool false, .slice none 0 0, .slice none 0 0], .int .i64 130]) (by simp [results, Tryz.results57, go_sem, r0, r1, r2]) rfl ?_
  exact RTold.zero (by decide) (below_put3 HBA.out _ (Nat.le_refl _) _ _ _)

set_option maxHeartbeats 6400000 in
set_option maxRecDepth 100000 in
theorem dparse_G31 (s : ByteArray) (w : World) (hs : s.size ≤ 65536) (h0 : 0 < s.size) (hc : s[0] = 45) (n r : Nat) (hd : Digs s.data.toList 1 n r) (hr : r ≠ 0) (h1 : 1 < s.size) (hz : ¬ s[1] = 48) (he : 1 + r < s.size) (hc2 : s[1 + r] = 47) (m p : Nat) (hd2 : Digs s.data.toList (1 + r + 1) m p) (hp : p ≠ 0) (hq2 : (1 + r + 1) + p = s.size) (hn2 : IsNum (s.data.toList.drop (1 + r + 1))) (hY : ¬ (numTo (s.data.toList.drop (1 + r + 1)) (s.data.toList.drop (1 + r + 1)).length) = 0) (hY1 : ¬ (numTo (s.data.toList.drop (1 + r + 1)) (s.data.toList.drop (1 + r + 1)).length) = 1) (hg : gcdI (numTo ((s.data.toList.drop 1).take r) ((s.data.toList.drop 1).take r).length) (numTo (s.data.toList.drop (1 + r + 1)) (s.data.toList.drop (1 + r + 1)).length) = 1) (q : Rat) (hq : Rat.divInt (sg true (numTo ((s.data.toList.drop 1).take r) ((s.data.toList.drop 1).take r).length)) (numTo (s.data.toList.drop (1 + r + 1)) (s.data.toList.drop (1 + r + 1)).length) = q) :
    Calls Tryz.prog 57 #[.string s] w (RTold w 0 q) := by
  have HB := hid (alloc_later w (.cells #[.bool false, .slice none 0 0, .slice none 0 0] 26))
  have HZ := hid (Box.made w 26 #[.bool false, .slice none 0 0, .slice none 0 0])
  have hs' : ¬ (65536 : Int) < (s.size : Int) := by omega
  have hz0 : (0 : Int) < (s.size : Int) := by omega
  have hq0 : ((s[0].toNat : Int) == 45) = true := byte_yes (d := 45) hc rfl
  have HD := hid hd
  obtain ⟨hrn, hN⟩ := digs_num hd hr
  subst hrn
  have HLN := hid hd.1.len
  have HNM := hid hN
  have hls := size_list s
  have hr1 : ((r : Int) == 0) = false := beq_eq_false_iff_ne.2 (by omega)
  have hz1 : ((s[1].toNat : Int) == 48) = false := byte_no (d := 48) (hz) rfl
  clear hN hd hz
  have hbA := HLN.out
  rw [hls] at hbA
  have HWB : Hid ((0 : Int) ≤ (1 + (r : Int)) ∧ (1 + (r : Int)) ≤ 1000000) := ⟨by omega, by omega⟩
  have ht1 : (1 + (r : Int)).toNat = 1 + r := by omega
  have hb1 : (0 : Int) ≤ (1 + (r : Int)) := by omega
  have hb2 : (1 + (r : Int)) ≤ (s.size : Int) := by omega
  have hb3 : (1 : Int) ≤ (1 + (r : Int)) := by omega
  have HX1 : Hid ((s.extract 1 (1 + r)).data.toList = (s.data.toList.drop 1).take r) := by show _ = _; rw [extract_list]; congr 1; omega
  have hx1 : (s.extract 1 (1 + r)).size ≤ 65536 := by rw [← size_list, HX1.out, List.length_take, List.length_drop]; omega
  have hlt : (1 + (r : Int)) < (s.size : Int) := by omega
  have hlb : 1 + r < s.size := by omega
  have hcb : ((s[1 + r].toNat : Int) == 47) = true := byte_yes (d := 47) (by exact hc2) rfl
  have HWU : Hid ((0 : Int) ≤ (1 + (r : Int) + 1) ∧ (1 + (r : Int) + 1) ≤ 1000000) := ⟨by omega, by omega⟩
  have HD2 := hid hd2
  have hlm := hd2.1.len
  rw [hls] at hlm
  have hpm : p ≤ m := by rcases hd2.2 with e | e <;> omega
  have HWV : Hid ((0 : Int) ≤ (1 + (r : Int) + 1) + (p : Int) ∧ (1 + (r : Int) + 1) + (p : Int) ≤ 1000000) := ⟨by omega, by omega⟩
  have HKB : Hid ((((1 + r + 1) : Nat) : Int) = (1 + (r : Int) + 1)) := cast2 r
  have HDG : Hid (∀ V, Calls Tryz.prog 78 #[.string s, .int .i64 (1 + (r : Int) + 1)] V fun e V' => ∃ n1 r1 : Nat, e = .returned (.int .i64 r1) ∧ Hid (Digs s.data.toList (1 + r + 1) n1 r1) ∧ V = V') := fun V => by
    have e := digits_any s (1 + r + 1) V hs hlb
    rw [HKB.out] at e
    exact e
  clear hc2 hd2
  have hp0 : ((p : Int) == 0) = false := beq_eq_false_iff_ne.2 (by omega)
  have hp1 : ((1 + (r : Int) + 1) + (p : Int) == (s.size : Int)) = true := beq_iff_eq.2 (by omega)
  have hp2 : ((1 + (r : Int) + 1) + (p : Int) != (s.size : Int)) = false := by rw [bne, hp1]; rfl
  have HX2 : Hid ((s.extract (1 + r + 1) s.size).data.toList = s.data.toList.drop (1 + r + 1)) := by show _ = _; rw [extract_list]; exact List.take_of_length_le (by rw [List.length_drop]; omega)
  have hx2 : (s.extract (1 + r + 1) s.size).size ≤ 65536 := by rw [← size_list, HX2.out, List.length_drop]; omega
  have hy1 : (0 : Int) ≤ (1 + (r : Int) + 1) := by omega
  have hy2 : (1 + (r : Int) + 1) ≤ (s.size : Int) := by omega
  have hy3 : (1 + (r : Int) + 1).toNat = (1 + r + 1) := by omega
  have HN2 := hid hn2
  clear hp hq2 hn2 hls
  have HY := hid hY
  have HY1 := hid hY1
  have HGG := hid hg
  have HQQ := hid hq
  clear hY hY1 hg hq
  obtain ⟨hw1, hw2⟩ := wrapI HWB.out.1 HWB.out.2
  clear HWB
  obtain ⟨hu1, hu2⟩ := wrapI HWU.out.1 HWU.out.2
  clear HWU
  obtain ⟨hv1, hv2⟩ := wrapI HWV.out.1 HWV.out.2
  clear HWV
  go_enter Tryz.func57, Tryz.ntmps57
  have HH := hid (digits_any s 1 (w.alloc (.cells #[.bool false, .slice none 0 0, .slice none 0 0] 26)) hs (by omega))
  go_wp2_with fail
  refine Calls.mono HH.out ?_
  rintro e w1 ⟨n', r', rfl, HD', rfl⟩
  obtain ⟨rfl, rfl⟩ := Digs.uniq HD.out HD'.out
  clear HH HD'
  have HH := hid (number_good (s.extract 1 (1 + r)) (w.alloc (.cells #[.bool false, .slice none 0 0, .slice none 0 0] 26)) hx1 _ HX1.out HNM.out)
  go_wp2_with fail
  refine Calls.mono HH.out ?_
  rintro e w2 ⟨a2, z2, c2, rfl, H2, hb2⟩
  clear HH hx1 HX1
  generalize s.extract 1 (1 + r) = T1 at *
  have HH := hid (one3_any w2)
  go_wp2_with fail
  refine Calls.mono HH.out ?_
  rintro e w3 ⟨g3, rfl, o3, hb3⟩
  clear HH
  have HH := hid (HDG.out w3)
  go_wp2_with fail
  refine Calls.mono HH.out ?_
  rintro e w4 ⟨m', p', rfl, HD', rfl⟩
  obtain ⟨rfl, rfl⟩ := Digs.uniq HD2.out HD'.out
  clear HH HD' HDG
  have HH := hid (number_good (s.extract (1 + r + 1) s.size) w3 hx2 _ HX2.out HN2.out)
  go_wp2_with fail
  refine Calls.mono HH.out ?_
  rintro e w4 ⟨a4, z4, c4, rfl, H4, hb4⟩
  clear HH hx2 HX2
  generalize s.extract (1 + r + 1) s.size = T2 at *
  have HB4 := hid (bt (bt hb2 hb3) hb4)
  have HO2 := hid (H2.out.1.later (bt hb3 hb4))
  have HL2 := hid (And.intro H2.out.2 H2.out.1.2.2.1)
  have HO4 := hid H4.out.1
  have HL4 := hid H4.out.2
  have lz2 := H2.out.2
  have lz4 := H4.out.2
  clear hb2 hb3 hb4 H2 H4 o3
  have HG := refGcd_sl _ _ z2 z4 w4 HO2.out.sl HO4.out.sl (by omega) (by omega)
  rw [both_good (chk_good lz2 HO2.out.2.2.1) (chk_good lz4 HO4.out.2.2.1)] at HG
  have HGW := hid (gcd_wide HO2.out.2.1 HO4.out.2.1 (both_good (chk_good lz2 HO2.out.2.2.1) (chk_good lz4 HO4.out.2.2.1)))
  have HH := hid HG
  clear HG
  go_wp2_with fail
  refine Calls.mono HH.out ?_
  rintro e w5 ⟨v5, z5, cd5, rfl, o5, t5, hb5⟩
  obtain ⟨a5, c5, hv⟩ := own_slice' o5
  subst hv
  obtain ⟨hc5, hv5⟩ := t5.good rfl HGW.out
  have l5 : z5.length ≤ 8192 := len_of_lt t5.wd t5.trim (by rw [hv5]; exact HGW.out)
  have HO5 := hid (And.intro (Sl.own o5 t5.wd) (And.intro t5.wd (And.intro t5.trim hv5)))
  have HB5 := hid (bt HB4.out hb5)
  have HZ2 := hid (HO2.out.sl.later hb5)
  have HZ4 := hid (HO4.out.sl.later hb5)
  clear HH o5 t5 hc5 hv5 HGW hb5
  have hl4 : ((z4.length : Int) == 0) = false := by
    apply beq_eq_false_iff_ne.2
    intro e
    have e3 : z4 = [] := List.length_eq_zero_iff.1 (by omega)
    have e2 := HO4.out.2.2.2
    rw [e3] at e2
    exact HY.out (by rw [← e2]; simp [val, valTo])
  have HH := hid (one3_any w5)
  go_wp2_with fail
  refine Calls.mono HH.out ?_
  rintro e w6 ⟨g6, rfl, o6, hb6⟩
  clear HH
  have HSM : Calls Tryz.prog 45 #[.slice a4 z4.length c4, .slice (some ⟨g6, 0, none⟩) 1 1] w6 fun e w' => e = .returned (.bool (decide (z4 = [1]))) ∧ Below w6.heap.size w6 w' := same3_sl _ _ z4 [1] w6 (HZ4.out.later hb6) (Sl.own (xs := [1]) o6 (Wd.one (by omega))) (by omega) (by simp)
  rw [decide_eq_false (fun e => HY1.out (HO4.out.2.2.2.symm.trans ((one_iff HO4.out.2.1 HO4.out.2.2.1).1 e)))] at HSM
  have HH := hid HSM
  clear HSM
  go_wp2_with fail
  refine Calls.mono HH.out ?_
  rintro e w7 ⟨rfl, hb7⟩
  clear HH
  have HB7 := hid (bt hb6 hb7)
  clear hb6 hb7 o6
  have HH := hid (one3_any w7)
  go_wp2_with fail
  refine Calls.mono HH.out ?_
  rintro e w8 ⟨g8, rfl, o8, hb8⟩
  clear HH
  have HSM : Calls Tryz.prog 45 #[.slice a5 z5.length c5, .slice (some ⟨g8, 0, none⟩) 1 1] w8 fun e w' => e = .returned (.bool (decide (z5 = [1]))) ∧ Below w8.heap.size w8 w' := same3_sl _ _ z5 [1] w8 (HO5.out.1.later (bt HB7.out hb8)) (Sl.own (xs := [1]) o8 (Wd.one (by omega))) (by omega) (by simp)
  rw [decide_eq_true ((one_iff HO5.out.2.1 HO5.out.2.2.1).2 (by rw [HO5.out.2.2.2, HO2.out.2.2.2, HO4.out.2.2.2]; exact HGG.out))] at HSM
  have HH := hid HSM
  clear HSM
  go_wp2_with fail
  refine Calls.mono HH.out ?_
  rintro e wa ⟨rfl, hba⟩
  clear HH
  have HBA := hid (bt HB7.out (bt hb8 hba))
  have HBB := hid (bt HB5.out HBA.out)
  replace HZ2 := hid (HZ2.out.later HBA.out)
  replace HZ4 := hid (HZ4.out.later HBA.out)
  have HQ : Hid (Rat.divInt (sg true (val z2)) (val z4) = q) := by show _ = _; rw [HO2.out.2.2.2, HO4.out.2.2.2]; exact HQQ.out
  have hz4p : 0 < z4.length := by
    by_cases c : z4.length = 0
    · rw [c] at hl4; simp at hl4
    · omega
  clear hb8 hba HB7 HB5 HO5 o8 hl4
  have HO : Calls Tryz.prog 80 #[.bool true, .slice a2 z2.length c2, .slice a4 z4.length c4] wa (RTold wa 0 (Rat.divInt (sg true (val z2)) (val z4))) := of3_any true _ _ z2 _ _ z4 wa HZ2.out HZ4.out HL2.out.1 HL4.out HL2.out.2 HO4.out.2.2.1 hz4p
  rw [HQ.out] at HO
  have HH := hid (HO)
  go_wp2_with fail
  refine Calls.mono HH.out ?_
  rintro e w9 ⟨k9, v9, z9, u9, d9, code, rfl, o9, p9, t9, hb9⟩
  clear HH
  obtain ⟨a9, c9, hv⟩ := own_slice' o9
  subst hv
  obtain ⟨b9, l9, hv⟩ := own_slice' p9
  subst hv
  have hbX := bt HBB.out hb9
  obtain ⟨r0, r1, r2, f0, f1, f2⟩ := res_box3 HZ.out hbX
  have HBW := hid (bt HB.out hbX)
  have hzz := (HBB.out).size
  have HE9 := hid (And.intro (owns_base o9 hzz) (And.intro (owns_base p9 hzz) t9))
  have HLT : Hid (w.heap.size < (w.alloc (.cells #[.bool false, .slice none 0 0, .slice none 0 0] 26)).heap.size) := by show _ < _; simp
  clear hbX o9 p9 t9 hb9 hzz HO
  go_wp2_with fail
  refine bodyPost_ret (v := .tuple #[.agg #[.bool k9, .slice a9 z9.length c9, .slice b9 d9.length l9], .int .i64 code]) (by simp [results, Tryz.results57, go_sem, r0, r1, r2]) rfl ?_
  exact RTold.put HE9.out w.heap.size HLT.out (Nat.le_refl _) HBW.out _ _ _
end Go.Proofs.YtldeiapikkebgaaGreatDoor

/- The document's answer for Parse of a fraction, for any text. -/
namespace Go.Proofs.YtldeiapikkebgaaGreatDoor
open Go.RowKit Go.Lib
set_option linter.unusedVariables false

set_option maxHeartbeats 3200000 in
set_option maxRecDepth 100000 in
theorem dparse_long (s : ByteArray) (w : World) (hs : 65536 < s.size) (hm : s.size ≤ 9223372036854775807) (q : Rat) : Calls Tryz.prog 57 #[.string s] w (RTold w 3 q) := by
  have hs' : (65536 : Int) < (s.size : Int) := by omega
  go_enter Tryz.func57, Tryz.ntmps57
  go_wp2_with fail
  refine bodyPost_ret (v := .tuple #[.agg #[.bool false, .slice none 0 0, .slice none 0 0], .int .i64 3]) (by simp [results, Tryz.results57, go_sem]) rfl ?_
  exact RTold.zero (by decide) (alloc_later _ _)

theorem dparse_A0 (s : ByteArray) (w : World) (hs : s.size ≤ 65536) (h0 : 0 < s.size) (hc : ¬ s[0] = 45) : Calls Tryz.prog 57 #[.string s] w (RTold w (prErr s) (rpq s.data.toList)) := by
  have hl := size_list s
  have hn : rneg s.data.toList = false := by
    unfold rneg
    rw [byte_at s 0 h0]
    exact decide_eq_false (fun e => hc (Option.some.inj e))
  have ef : from' s.data.toList = 0 := by unfold from'; rw [hn]; rfl
  obtain ⟨n, r, hd⟩ := digs_ex (l := s.data.toList) (A := 0) (by omega)
  have hd' : Digs s.data.toList (from' s.data.toList) n r := by rw [ef]; exact hd
  by_cases hr : r = 0
  · subst hr
    rw [prErr_bad hs (bad_first hd')]
    exact dparse_C10 s w hs h0 hc n hd _
  · obtain ⟨hrn, hN⟩ := digs_num hd hr
    have hln := hd.1.len
    rw [hl] at hln
    · by_cases he : 0 + r = s.size
      · obtain ⟨g1, g2, g3⟩ := good_end hd' hr (by rw [ef, hl, ← hrn]; exact he) (fun e => by rw [hn] at e; cases e)
        rw [prErr_good hs g1]
        refine dparse_E0 s w hs h0 hc n r hd hr he _ ?_
        unfold rpq
        rw [hn, g2, g3, ef, hrn]
      · have hlt : 0 + r < s.size := by omega
        by_cases hc2 : s[0 + r] = 47
        · have hat : s.data.toList[from' s.data.toList + n]? = some 47 := by rw [ef, ← hrn, byte_at s (0 + r) hlt, hc2]
          obtain ⟨m, p, hd2⟩ := digs_ex (l := s.data.toList) (A := (r + 1)) (by omega)
          have hd2' : Digs s.data.toList (from' s.data.toList + n + 1) m p := by rw [ef, ← hrn]; rw [Nat.zero_add]; exact hd2
          by_cases hp : p = 0
          · rw [prErr_bad hs (bad_behind hd'.1 hat hd2' (.inl hp))]
            exact dparse_F10 s w hs h0 hc n r hd hr hlt hc2 m p hd2 hp _
          · by_cases hq2 : (r + 1) + p = s.size
            · obtain ⟨n2, v1, v2, hi⟩ := both_num hd' hr hat hd2' hp (by rw [ef, ← hrn, hl]; omega) (fun e => by rw [hn] at e; cases e)
              have ek : from' s.data.toList + n + 1 = (r + 1) := by rw [ef, ← hrn]; omega
              rw [ek] at n2 v2
              rw [ef, ← hrn] at v1
              by_cases hY : numTo (s.data.toList.drop (r + 1)) (s.data.toList.drop (r + 1)).length = 0
              · rw [prErr_bad hs (fun g => by have := (hi.1 g).1; rw [v2, hY] at this; omega)]
                exact dparse_G00 s w hs h0 hc n r hd hr hlt hc2 m p hd2 hp hq2 n2 hY _
              · by_cases hY1 : numTo (s.data.toList.drop (r + 1)) (s.data.toList.drop (r + 1)).length = 1
                · rw [prErr_bad hs (fun g => (hi.1 g).2.1 (v2.trans hY1))]
                  exact dparse_G10 s w hs h0 hc n r hd hr hlt hc2 m p hd2 hp hq2 n2 hY1 _
                · by_cases hg : gcdI (numTo ((s.data.toList.drop 0).take r) ((s.data.toList.drop 0).take r).length) (numTo (s.data.toList.drop (r + 1)) (s.data.toList.drop (r + 1)).length) = 1
                  · have h00 := (numTo_bounds n2.2.2 (s.data.toList.drop (r + 1)).length).1
                    rw [prErr_good hs (hi.2 ⟨by rw [v2]; omega, by rw [v2]; exact hY1, by rw [v1, v2]; exact hg⟩)]
                    refine dparse_G30 s w hs h0 hc n r hd hr hlt hc2 m p hd2 hp hq2 n2 hY hY1 hg _ ?_
                    unfold rpq
                    rw [hn, v1, v2]
                  · rw [prErr_bad hs (fun g => hg (by have := (hi.1 g).2.2; rw [v1, v2] at this; exact this))]
                    exact dparse_G20 s w hs h0 hc n r hd hr hlt hc2 m p hd2 hp hq2 n2 hY hY1 hg _
            · rw [prErr_bad hs (bad_behind hd'.1 hat hd2' (.inr (by rw [ef, ← hrn, hl]; omega)))]
              exact dparse_F20 s w hs h0 hc n r hd hr hlt hc2 m p hd2 hp hq2 _
        · rw [prErr_bad hs (fun g => up_other hd'.1 (by rw [ef, ← hrn, hl]; exact hlt) (by rw [ef, ← hrn, byte_list s (0 + r) hlt]; exact hc2) g.1)]
          exact dparse_B0 s w hs h0 hc n r hd hr hlt hc2 _

theorem dparse_A1 (s : ByteArray) (w : World) (hs : s.size ≤ 65536) (h0 : 0 < s.size) (hc : s[0] = 45) : Calls Tryz.prog 57 #[.string s] w (RTold w (prErr s) (rpq s.data.toList)) := by
  have hl := size_list s
  have hn : rneg s.data.toList = true := by
    unfold rneg
    rw [byte_at s 0 h0]
    rw [hc]; rfl
  have ef : from' s.data.toList = 1 := by unfold from'; rw [hn]; rfl
  obtain ⟨n, r, hd⟩ := digs_ex (l := s.data.toList) (A := 1) (by omega)
  have hd' : Digs s.data.toList (from' s.data.toList) n r := by rw [ef]; exact hd
  by_cases hr : r = 0
  · subst hr
    rw [prErr_bad hs (bad_first hd')]
    exact dparse_C11 s w hs h0 hc n hd _
  · obtain ⟨hrn, hN⟩ := digs_num hd hr
    have hln := hd.1.len
    rw [hl] at hln
    have h1 : 1 < s.size := by omega
    by_cases hz : s[1] = 48
    · rw [prErr_bad hs (bad_zero hd' hr hn (by rw [byte_list s 1 h1]; exact hz))]
      exact dparse_C2 s w hs h0 hc n r hd hr h1 hz _
    · by_cases he : 1 + r = s.size
      · obtain ⟨g1, g2, g3⟩ := good_end hd' hr (by rw [ef, hl, ← hrn]; exact he) (fun _ => by rw [byte_list s 1 h1]; exact hz)
        rw [prErr_good hs g1]
        refine dparse_E1 s w hs h0 hc n r hd hr h1 hz he _ ?_
        unfold rpq
        rw [hn, g2, g3, ef, hrn]
      · have hlt : 1 + r < s.size := by omega
        by_cases hc2 : s[1 + r] = 47
        · have hat : s.data.toList[from' s.data.toList + n]? = some 47 := by rw [ef, ← hrn, byte_at s (1 + r) hlt, hc2]
          obtain ⟨m, p, hd2⟩ := digs_ex (l := s.data.toList) (A := (1 + r + 1)) (by omega)
          have hd2' : Digs s.data.toList (from' s.data.toList + n + 1) m p := by rw [ef, ← hrn]; exact hd2
          by_cases hp : p = 0
          · rw [prErr_bad hs (bad_behind hd'.1 hat hd2' (.inl hp))]
            exact dparse_F11 s w hs h0 hc n r hd hr h1 hz hlt hc2 m p hd2 hp _
          · by_cases hq2 : (1 + r + 1) + p = s.size
            · obtain ⟨n2, v1, v2, hi⟩ := both_num hd' hr hat hd2' hp (by rw [ef, ← hrn, hl]; omega) (fun _ => by rw [byte_list s 1 h1]; exact hz)
              have ek : from' s.data.toList + n + 1 = (1 + r + 1) := by rw [ef, ← hrn]
              rw [ek] at n2 v2
              rw [ef, ← hrn] at v1
              by_cases hY : numTo (s.data.toList.drop (1 + r + 1)) (s.data.toList.drop (1 + r + 1)).length = 0
              · rw [prErr_bad hs (fun g => by have := (hi.1 g).1; rw [v2, hY] at this; omega)]
                exact dparse_G01 s w hs h0 hc n r hd hr h1 hz hlt hc2 m p hd2 hp hq2 n2 hY _
              · by_cases hY1 : numTo (s.data.toList.drop (1 + r + 1)) (s.data.toList.drop (1 + r + 1)).length = 1
                · rw [prErr_bad hs (fun g => (hi.1 g).2.1 (v2.trans hY1))]
                  exact dparse_G11 s w hs h0 hc n r hd hr h1 hz hlt hc2 m p hd2 hp hq2 n2 hY1 _
                · by_cases hg : gcdI (numTo ((s.data.toList.drop 1).take r) ((s.data.toList.drop 1).take r).length) (numTo (s.data.toList.drop (1 + r + 1)) (s.data.toList.drop (1 + r + 1)).length) = 1
                  · have h00 := (numTo_bounds n2.2.2 (s.data.toList.drop (1 + r + 1)).length).1
                    rw [prErr_good hs (hi.2 ⟨by rw [v2]; omega, by rw [v2]; exact hY1, by rw [v1, v2]; exact hg⟩)]
                    refine dparse_G31 s w hs h0 hc n r hd hr h1 hz hlt hc2 m p hd2 hp hq2 n2 hY hY1 hg _ ?_
                    unfold rpq
                    rw [hn, v1, v2]
                  · rw [prErr_bad hs (fun g => hg (by have := (hi.1 g).2.2; rw [v1, v2] at this; exact this))]
                    exact dparse_G21 s w hs h0 hc n r hd hr h1 hz hlt hc2 m p hd2 hp hq2 n2 hY hY1 hg _
            · rw [prErr_bad hs (bad_behind hd'.1 hat hd2' (.inr (by rw [ef, ← hrn, hl]; omega)))]
              exact dparse_F21 s w hs h0 hc n r hd hr h1 hz hlt hc2 m p hd2 hp hq2 _
        · rw [prErr_bad hs (fun g => up_other hd'.1 (by rw [ef, ← hrn, hl]; exact hlt) (by rw [ef, ← hrn, byte_list s (1 + r) hlt]; exact hc2) g.1)]
          exact dparse_B1 s w hs h0 hc n r hd hr h1 hz hlt hc2 _

theorem dparse_any (s : ByteArray) (w : World) (hm : s.size ≤ 9223372036854775807) : Calls Tryz.prog 57 #[.string s] w (RTold w (prErr s) (rpq s.data.toList)) := by
  by_cases hs : s.size ≤ 65536
  · by_cases h0 : s.size = 0
    · have hl := size_list s
      have hn : s.data.toList = [] := List.length_eq_zero_iff.1 (by omega)
      have ef : from' s.data.toList = 0 := by rw [hn]; rfl
      obtain ⟨n, r, hd⟩ := digs_ex (l := s.data.toList) (A := 0) (by omega)
      have hr : r = 0 := by
        have h1 := hd.1.len
        rcases hd.2 with e | e <;> omega
      subst hr
      rw [prErr_bad hs (bad_first (by rw [ef]; exact hd))]
      exact dparse_C1e s w hs h0 n hd _
    · by_cases hc : s[0] = 45
      · exact dparse_A1 s w hs (by omega) hc
      · exact dparse_A0 s w hs (by omega) hc
  · rw [prErr_long (by omega)]
    exact dparse_long s w (by omega) hm _
end Go.Proofs.YtldeiapikkebgaaGreatDoor

