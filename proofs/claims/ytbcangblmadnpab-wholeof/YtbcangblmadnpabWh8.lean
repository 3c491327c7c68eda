/- The document's own made and Of of layer 2. -/
import Derived.Test.YtbcangblmadnpabWh7
namespace Go.Proofs.Ytbcangblmadnpab
open Go.RowKit
set_option linter.unusedVariables false

set_option maxHeartbeats 3200000 in
set_option maxRecDepth 100000 in
theorem made_any (n : Bool) (v : Value) (xs : List Int) (w : World) (h : Sl w v xs) (hn : xs.length ≤ 549755813888) :
    Calls Try.prog 19 #[.bool n, v] w fun e w' => ∃ v', e = .returned (.agg #[.bool (n && decide (0 < sz xs)), v']) ∧ w'.ownsRow w.heap.size 42 1 v' (sz xs) ((trimmed xs).map (Value.int .u32)) ∧ Below w.heap.size w w' := by
  obtain ⟨i0, hi, hz0, hz1, hz2⟩ := info_parts Try.infoW
  have HB := hid (alloc_later w (.cells #[.bool false, .slice none 0 0] 24))
  have HT := hid (refTrim_sl v xs _ (h.later HB.out) (by omega))
  have HWD := hid h.wd.trimmed
  have sx := sz_le xs
  obtain ⟨a, cap, rfl, hr⟩ := h
  clear hr
  generalize trimmed xs = zs at *
  generalize sz xs = k at *
  cases n with
  | false =>
    have HNB : Hid ((false && decide (0 < k)) = false) := rfl
    go_enter Try.func19, Try.ntmps19
    go_wp2_with fail
    refine Calls.mono HT.out ?_
    rintro e w1 ⟨v1, rfl, o1, hb1⟩
    have hs1 := hb1.size
    have HB1 := hid hb1
    clear hb1
    have hrd := Reads.own o1 HWD.out
    have hlo : (zs.map (Value.int .u32)).length = k := by have := o1.1; omega
    rcases o1.2 with ⟨h1, h2⟩ | ⟨g, cp, cur, h1, _⟩
    · subst h1
      subst h2
      have hz : zs = [] := List.eq_nil_of_length_eq_zero (by simpa using hlo)
      subst hz
      clear hrd o1
      have ho2 : w1.ownsRow w1.heap.size 42 1 (.slice none 0 0) 0 [] := World.ownsRow_nil _ _ _ _
      have hb2 := Below.refl w1.heap.size w1
      obtain ⟨r0, r1, f0, f1⟩ := res_box (Box.made w _ _) (bt HB1.out hb2)
      have HO2 := hid (owns_base ho2 HB1.out.size)
      have HBW := hid (bt HB.out (bt HB1.out hb2))
      clear ho2 hb2
      go_wp2_with (at_builtin; refine wpList_append_own_none rfl _ _ 22 rfl w1.heap.size 42 i0 1 Try.underlying22 hi _ 0 [] rfl (World.ownsRow_nil _ _ _ _) rfl ?_)
      refine bodyPost_ret (v := .agg #[.bool false, .slice none 0 0]) (by simp [results, Try.results19, go_sem, r0, r1]) rfl ?_
      refine ⟨_, by rw [HNB.out], ?_, below_put2 HBW.out _ (Nat.le_refl _) _ _⟩
      exact owns_base (own_put2 (by simpa using HO2.out) w.heap.size (fun g hg => by have := (World.ownsRow.lt HO2.out g hg).1; simp at this; omega) _ _) (by simp)
    · subst h1
      obtain ⟨aa, cc, hv, hrr⟩ := hrd
      simp only [Value.slice.injEq] at hv
      obtain ⟨rfl, _, rfl⟩ := hv
      have HN := hid (copy_news hrr)
      have HLn : Hid ((zs.map (Value.int .u32)).length = k * 1) := by show _ = _; omega
      clear o1 hrr
      go_wp2_with (at_builtin; refine wpList_append_own _ rfl _ _ 22 rfl w1.heap.size 42 i0 (.int .u32 0) 1 4 Try.underlying22 hi hz0 hz1 hz2 rfl (by decide) _ 0 [] rfl (World.ownsRow_nil _ _ _ _) ⟨g, 0, none⟩ k cp (zs.map (Value.int .u32)) rfl HLn.out HN.out (ints_oneCell _ _) (by unfold maxLen; omega) (by omega) (Nat.le_refl _) ?_)
      intro v2 w2 ho2x hg2 _
      have ho2 : w2.ownsRow w1.heap.size 42 1 v2 k (zs.map (Value.int .u32)) := by simpa using ho2x
      clear ho2x
      have hb2 : Below w1.heap.size w1 w2 := (Below.refl _ _).grown hg2 (Nat.le_refl _) (fun k hk => by simp [Value.ownBlock] at hk)
      obtain ⟨r0, r1, f0, f1⟩ := res_box (Box.made w _ _) (bt HB1.out hb2)
      have HO2 := hid (owns_base ho2 HB1.out.size)
      have HBW := hid (bt HB.out (bt HB1.out hb2))
      obtain ⟨a2, c2, hs2⟩ := own_slice' ho2
      subst hs2
      clear ho2 hb2 hg2
      go_wp2_with fail
      refine bodyPost_ret (v := .agg #[.bool false, .slice a2 k c2]) (by simp [results, Try.results19, go_sem, r0, r1]) rfl ?_
      refine ⟨_, by rw [HNB.out], ?_, below_put2 HBW.out _ (Nat.le_refl _) _ _⟩
      exact owns_base (own_put2 (by simpa using HO2.out) w.heap.size (fun g hg => by have := (World.ownsRow.lt HO2.out g hg).1; simp at this; omega) _ _) (by simp)
  | true =>
    by_cases hk : 0 < k
    · have hk' : (0 : Int) < (k : Int) := by omega
      have HNB : Hid ((true && decide (0 < k)) = true) := by show _ = _; simp [hk]
      go_enter Try.func19, Try.ntmps19
      go_wp2_with fail
      refine Calls.mono HT.out ?_
      rintro e w1 ⟨v1, rfl, o1, hb1⟩
      have hs1 := hb1.size
      have HB1 := hid hb1
      clear hb1
      have hrd := Reads.own o1 HWD.out
      have hlo : (zs.map (Value.int .u32)).length = k := by have := o1.1; omega
      rcases o1.2 with ⟨h1, h2⟩ | ⟨g, cp, cur, h1, _⟩
      · subst h1
        subst h2
        have hz : zs = [] := List.eq_nil_of_length_eq_zero (by simpa using hlo)
        subst hz
        clear hrd o1
        have ho2 : w1.ownsRow w1.heap.size 42 1 (.slice none 0 0) 0 [] := World.ownsRow_nil _ _ _ _
        have hb2 := Below.refl w1.heap.size w1
        obtain ⟨r0, r1, f0, f1⟩ := res_box (Box.made w _ _) (bt HB1.out hb2)
        have HO2 := hid (owns_base ho2 HB1.out.size)
        have HBW := hid (bt HB.out (bt HB1.out hb2))
        clear ho2 hb2
        go_wp2_with (at_builtin; refine wpList_append_own_none rfl _ _ 22 rfl w1.heap.size 42 i0 1 Try.underlying22 hi _ 0 [] rfl (World.ownsRow_nil _ _ _ _) rfl ?_)
        exact absurd hk (by omega)
      · subst h1
        obtain ⟨aa, cc, hv, hrr⟩ := hrd
        simp only [Value.slice.injEq] at hv
        obtain ⟨rfl, _, rfl⟩ := hv
        have HN := hid (copy_news hrr)
        have HLn : Hid ((zs.map (Value.int .u32)).length = k * 1) := by show _ = _; omega
        clear o1 hrr
        go_wp2_with (at_builtin; refine wpList_append_own _ rfl _ _ 22 rfl w1.heap.size 42 i0 (.int .u32 0) 1 4 Try.underlying22 hi hz0 hz1 hz2 rfl (by decide) _ 0 [] rfl (World.ownsRow_nil _ _ _ _) ⟨g, 0, none⟩ k cp (zs.map (Value.int .u32)) rfl HLn.out HN.out (ints_oneCell _ _) (by unfold maxLen; omega) (by omega) (Nat.le_refl _) ?_)
        intro v2 w2 ho2x hg2 _
        have ho2 : w2.ownsRow w1.heap.size 42 1 v2 k (zs.map (Value.int .u32)) := by simpa using ho2x
        clear ho2x
        have hb2 : Below w1.heap.size w1 w2 := (Below.refl _ _).grown hg2 (Nat.le_refl _) (fun k hk => by simp [Value.ownBlock] at hk)
        obtain ⟨r0, r1, f0, f1⟩ := res_box (Box.made w _ _) (bt HB1.out hb2)
        have HO2 := hid (owns_base ho2 HB1.out.size)
        have HBW := hid (bt HB.out (bt HB1.out hb2))
        obtain ⟨a2, c2, hs2⟩ := own_slice' ho2
        subst hs2
        clear ho2 hb2 hg2
        go_wp2_with fail
        refine bodyPost_ret (v := .agg #[.bool true, .slice a2 k c2]) (by simp [results, Try.results19, go_sem, r0, r1]) rfl ?_
        refine ⟨_, by rw [HNB.out], ?_, below_put2 HBW.out _ (Nat.le_refl _) _ _⟩
        exact owns_base (own_put2 (by simpa using HO2.out) w.heap.size (fun g hg => by have := (World.ownsRow.lt HO2.out g hg).1; simp at this; omega) _ _) (by simp)
    · have hk' : ¬ (0 : Int) < (k : Int) := by omega
      have HNB : Hid ((true && decide (0 < k)) = false) := by show _ = _; simp [hk]
      go_enter Try.func19, Try.ntmps19
      go_wp2_with fail
      refine Calls.mono HT.out ?_
      rintro e w1 ⟨v1, rfl, o1, hb1⟩
      have hs1 := hb1.size
      have HB1 := hid hb1
      clear hb1
      have hrd := Reads.own o1 HWD.out
      have hlo : (zs.map (Value.int .u32)).length = k := by have := o1.1; omega
      rcases o1.2 with ⟨h1, h2⟩ | ⟨g, cp, cur, h1, _⟩
      · subst h1
        subst h2
        have hz : zs = [] := List.eq_nil_of_length_eq_zero (by simpa using hlo)
        subst hz
        clear hrd o1
        have ho2 : w1.ownsRow w1.heap.size 42 1 (.slice none 0 0) 0 [] := World.ownsRow_nil _ _ _ _
        have hb2 := Below.refl w1.heap.size w1
        obtain ⟨r0, r1, f0, f1⟩ := res_box (Box.made w _ _) (bt HB1.out hb2)
        have HO2 := hid (owns_base ho2 HB1.out.size)
        have HBW := hid (bt HB.out (bt HB1.out hb2))
        clear ho2 hb2
        go_wp2_with (at_builtin; refine wpList_append_own_none rfl _ _ 22 rfl w1.heap.size 42 i0 1 Try.underlying22 hi _ 0 [] rfl (World.ownsRow_nil _ _ _ _) rfl ?_)
        refine bodyPost_ret (v := .agg #[.bool false, .slice none 0 0]) (by simp [results, Try.results19, go_sem, r0, r1]) rfl ?_
        refine ⟨_, by rw [HNB.out], ?_, below_put2 HBW.out _ (Nat.le_refl _) _ _⟩
        exact owns_base (own_put2 (by simpa using HO2.out) w.heap.size (fun g hg => by have := (World.ownsRow.lt HO2.out g hg).1; simp at this; omega) _ _) (by simp)
      · subst h1
        obtain ⟨aa, cc, hv, hrr⟩ := hrd
        simp only [Value.slice.injEq] at hv
        obtain ⟨rfl, _, rfl⟩ := hv
        have HN := hid (copy_news hrr)
        have HLn : Hid ((zs.map (Value.int .u32)).length = k * 1) := by show _ = _; omega
        clear o1 hrr
        go_wp2_with (at_builtin; refine wpList_append_own _ rfl _ _ 22 rfl w1.heap.size 42 i0 (.int .u32 0) 1 4 Try.underlying22 hi hz0 hz1 hz2 rfl (by decide) _ 0 [] rfl (World.ownsRow_nil _ _ _ _) ⟨g, 0, none⟩ k cp (zs.map (Value.int .u32)) rfl HLn.out HN.out (ints_oneCell _ _) (by unfold maxLen; omega) (by omega) (Nat.le_refl _) ?_)
        intro v2 w2 ho2x hg2 _
        have ho2 : w2.ownsRow w1.heap.size 42 1 v2 k (zs.map (Value.int .u32)) := by simpa using ho2x
        clear ho2x
        have hb2 : Below w1.heap.size w1 w2 := (Below.refl _ _).grown hg2 (Nat.le_refl _) (fun k hk => by simp [Value.ownBlock] at hk)
        obtain ⟨r0, r1, f0, f1⟩ := res_box (Box.made w _ _) (bt HB1.out hb2)
        have HO2 := hid (owns_base ho2 HB1.out.size)
        have HBW := hid (bt HB.out (bt HB1.out hb2))
        obtain ⟨a2, c2, hs2⟩ := own_slice' ho2
        subst hs2
        clear ho2 hb2 hg2
        go_wp2_with fail
        refine bodyPost_ret (v := .agg #[.bool false, .slice a2 k c2]) (by simp [results, Try.results19, go_sem, r0, r1]) rfl ?_
        refine ⟨_, by rw [HNB.out], ?_, below_put2 HBW.out _ (Nat.le_refl _) _ _⟩
        exact owns_base (own_put2 (by simpa using HO2.out) w.heap.size (fun g hg => by have := (World.ownsRow.lt HO2.out g hg).1; simp at this; omega) _ _) (by simp)

set_option maxHeartbeats 1600000 in
set_option maxRecDepth 100000 in
theorem refOf2_any (x : Int) (w : World) (h0 : -9223372036854775808 ≤ x) (h1 : x ≤ 9223372036854775807) :
    Calls Try.prog 7 #[.int .i64 x] w (WIs w x) := by
  obtain ⟨y, hy⟩ : ∃ y : Int, y = (x.natAbs : Int) := ⟨_, rfl⟩
  have y0 : 0 ≤ y ∧ y ≤ 18446744073709551615 := by omega
  have hw := of_wd y y0.1 y0.2
  have hb0 : Below w.heap.size w ((w.alloc (.cells #[.bool false, .slice none 0 0] 24)).alloc (.cells #[.int .u32 (y % 4294967296), .int .u32 (y / 4294967296)] 42)) := bt (alloc_later _ _) (alloc_later _ _)
  have HB := hid hb0
  have HXB := hid (Box.later (Box.made w 24 #[.bool false, .slice none 0 0]) (alloc_later _ (.cells #[.int .u32 (y % 4294967296), .int .u32 (y / 4294967296)] 42)) (by simp))
  have sl := Sl.lit' (w.alloc (.cells #[.bool false, .slice none 0 0] 24)) (w.heap.size + 1) [y % 4294967296, y / 4294967296] #[.int .u32 (y % 4294967296), .int .u32 (y / 4294967296)] 2 (by simp) hw (by unfold maxLen; simp) rfl rfl
  have HV := hid (of_val y y0.1 y0.2)
  have HT := hid (Trimmed.trimmed [y % 4294967296, y / 4294967296])
  have HWD := hid hw.trimmed
  have HLE : Hid (sz [y % 4294967296, y / 4294967296] ≤ 2) := sz_le _
  have HLN := hid (length_trimmed [y % 4294967296, y / 4294967296])
  have HMD := hid (fun n => made_any n _ _ _ sl (by simp))
  clear sl hb0
  have yd : 0 ≤ y / 4294967296 ∧ y / 4294967296 ≤ 4294967295 := by omega
  have HSZ : Hid (w.heap.size < ((w.alloc (.cells #[.bool false, .slice none 0 0] 24)).alloc (.cells #[.int .u32 (y % 4294967296), .int .u32 (y / 4294967296)] 42)).heap.size) := HXB.out.lt
  by_cases hx : x < 0
  · skip
    have hyx : y = -x := by omega
    have hc : IntKind.u64.wrap x = 18446744073709551616 + x := by rw [IntKind.wrap_u64]; omega
    have hc2 : IntKind.u64.wrap (-(18446744073709551616 + x)) = y := by rw [IntKind.wrap_u64]; omega
    have HYX := hid hyx
    have HM := hid (HMD.out true)
    have hm1 : IntKind.u32.wrap y = y % 4294967296 := IntKind.wrap_u32 y
    have hm2 : IntKind.u32.wrap (y / 4294967296) = y / 4294967296 := by rw [IntKind.wrap_u32]; omega
    clear hy hyx hw HMD
    go_enter Try.func7, Try.ntmps7
    go_wp2_with fail
    refine Calls.mono HM.out ?_
    rintro e w2 ⟨v2, rfl, o2, hb2⟩
    generalize trimmed [y % 4294967296, y / 4294967296] = zs at *
    generalize sz [y % 4294967296, y / 4294967296] = k at *
    obtain ⟨a1, c1, hv1⟩ := own_slice' o2
    subst hv1
    obtain ⟨r0, r1, f0, f1⟩ := res_box HXB.out hb2
    have HBW := hid (bt HB.out hb2)
    have HO2 := hid o2
    obtain ⟨nb, hnb⟩ : ∃ nb, (true && decide (0 < k)) = nb := ⟨_, rfl⟩
    rw [hnb]
    have HNB := hid hnb
    clear hb2 o2 hnb HM
    go_wp2_with fail
    refine bodyPost_ret (v := .agg #[.bool nb, .slice a1 k c1]) (by simp [results, Try.results7, go_sem, r0, r1]) rfl ?_
    refine ⟨nb, _, zs, rfl, ?_, HWD.out, HT.out, by rw [HLN.out]; exact HLE.out, ?_, ?_, below_put2 HBW.out _ (Nat.le_refl _) _ _⟩
    · rw [HLN.out]
      exact owns_base (own_put2 HO2.out w.heap.size (fun g hg => by have := (World.ownsRow.lt HO2.out g hg).1; have := HSZ.out; omega) _ _) (by have := HSZ.out; omega)
    · rw [← HNB.out, HLN.out]; by_cases c : 0 < k <;> simp [c]
    · have hkp : 0 < k := by
        by_cases c : 0 < k
        · exact c
        · have e0 : zs = [] := List.eq_nil_of_length_eq_zero (by rw [HLN.out]; omega)
          have := HV.out
          rw [e0, val_nil] at this
          have := HYX.out
          omega
      rw [← HNB.out, show (true && decide (0 < k)) = true by simp [hkp]]
      show -(val zs) = x
      rw [HV.out, HYX.out]; omega
  · skip
    have hyx : y = x := by omega
    have hc : IntKind.u64.wrap x = y := by rw [IntKind.wrap_u64]; omega
    have HYX := hid hyx
    have HM := hid (HMD.out false)
    have hm1 : IntKind.u32.wrap y = y % 4294967296 := IntKind.wrap_u32 y
    have hm2 : IntKind.u32.wrap (y / 4294967296) = y / 4294967296 := by rw [IntKind.wrap_u32]; omega
    clear hy hyx hw HMD
    go_enter Try.func7, Try.ntmps7
    go_wp2_with fail
    refine Calls.mono HM.out ?_
    rintro e w2 ⟨v2, rfl, o2, hb2⟩
    generalize trimmed [y % 4294967296, y / 4294967296] = zs at *
    generalize sz [y % 4294967296, y / 4294967296] = k at *
    obtain ⟨a1, c1, hv1⟩ := own_slice' o2
    subst hv1
    obtain ⟨r0, r1, f0, f1⟩ := res_box HXB.out hb2
    have HBW := hid (bt HB.out hb2)
    have HO2 := hid o2
    obtain ⟨nb, hnb⟩ : ∃ nb, (false && decide (0 < k)) = nb := ⟨_, rfl⟩
    rw [hnb]
    have HNB := hid hnb
    clear hb2 o2 hnb HM
    go_wp2_with fail
    refine bodyPost_ret (v := .agg #[.bool nb, .slice a1 k c1]) (by simp [results, Try.results7, go_sem, r0, r1]) rfl ?_
    refine ⟨nb, _, zs, rfl, ?_, HWD.out, HT.out, by rw [HLN.out]; exact HLE.out, ?_, ?_, below_put2 HBW.out _ (Nat.le_refl _) _ _⟩
    · rw [HLN.out]
      exact owns_base (own_put2 HO2.out w.heap.size (fun g hg => by have := (World.ownsRow.lt HO2.out g hg).1; have := HSZ.out; omega) _ _) (by have := HSZ.out; omega)
    · left; rw [← HNB.out]; rfl
    · rw [← HNB.out]
      show val zs = x
      rw [HV.out, HYX.out]
end Go.Proofs.Ytbcangblmadnpab
