/- My texts on the way to RotorCalls, one behind the other: contracts of the program and of the document's answers. -/
import Derived.Test.YtcfcjnlobpoglaaGreatJ1
import Derived.Deep.QuietTactic
import Derived.BigQuiet
import Derived.Deep.RegionHeld3
/- Whole numbers: whole.power, Power: powers of every number, or the error. -/
namespace Go.Proofs.YtcfcjnlobpoglaaGreat
open Go.RowKit
set_option linter.unusedVariables false

theorem WTells.tooLong {t : Int} (h : wlim ≤ t ∨ t ≤ -wlim) : WTells 0 t false [] 3 := ⟨Wd.nil, Trimmed.nil, .inl rfl, by simp, fun h' => absurd rfl h', fun _ _ => ⟨rfl, rfl, rfl⟩, fun _ h1 h2 => by rcases h with h | h <;> omega⟩
theorem WTells.is {t : Int} {n : Bool} {zs : List Int} (hw : Wd zs) (hk : wchk n zs = 0) (hv : wval n zs = t) : WTells 0 t n zs 0 := by
  obtain ⟨l, tt, s⟩ := wchk_ok hk
  have hb := below2048 hw l
  have h0 := val_nonneg hw
  refine ⟨hw, tt, s, l, fun h' => absurd rfl h', fun _ h1 => ?_, fun _ _ _ => ⟨rfl, hv⟩⟩
  exfalso
  rw [← hv] at h1
  cases n <;> simp [wval] at h1 <;> omega

end Go.Proofs.YtcfcjnlobpoglaaGreat

/- Whole numbers: whole.Sub; slackwaterlaw02.add, mul, same: of numbers that may be. -/
namespace Go.Proofs.YtcfcjnlobpoglaaGreat
open Go.RowKit
set_option linter.unusedVariables false

end Go.Proofs.YtcfcjnlobpoglaaGreat

/- The document's own made and Of of layer 2. -/
namespace Go.Proofs.YtcfcjnlobpoglaaGreat
open Go.RowKit
set_option linter.unusedVariables false

set_option maxHeartbeats 3200000 in
set_option maxRecDepth 100000 in
theorem made_any (n : Bool) (v : Value) (xs : List Int) (w : World) (h : Sl w v xs) (hn : xs.length ≤ 549755813888) :
    Calls Tryz.prog 58 #[.bool n, v] w fun e w' => ∃ v', e = .returned (.agg #[.bool (n && decide (0 < sz xs)), v']) ∧ w'.ownsRow w.heap.size 66 1 v' (sz xs) ((trimmed xs).map (Value.int .u32)) ∧ Below w.heap.size w w' := by
  obtain ⟨i0, hi, hz0, hz1, hz2⟩ := info_parts Tryz.infoW
  have HB := hid (alloc_later w (.cells #[.bool false, .slice none 0 0] 59))
  have HT := hid (refTrim_sl v xs _ (h.later HB.out) (by omega))
  have HWD := hid h.wd.trimmed
  have sx := sz_le xs
  obtain ⟨a, cap, rfl, hr⟩ := h
  clear hr
  generalize trimmed xs = zs at *
  generalize sz xs = k at *
  cases n with
  | false =>
    have HNB : Hid ((false && decide (0 < k)) = false) := rfl
    go_enter Tryz.func58, Tryz.ntmps58
    go_wp2_with fail
    refine Calls.mono HT.out ?_
    rintro e w1 ⟨v1, rfl, o1, hb1⟩
    have hs1 := hb1.size
    have HB1 := hid hb1
    clear hb1
    have hrd := Reads.own o1 HWD.out
    have hlo : (zs.map (Value.int .u32)).length = k := by have := o1.1; omega
    rcases o1.2 with ⟨h1, h2⟩ | ⟨g, cp, cur, h1, _⟩
    · subst h1
      subst h2
      have hz : zs = [] := List.eq_nil_of_length_eq_zero (by simpa using hlo)
      subst hz
      clear hrd o1
      have ho2 : w1.ownsRow w1.heap.size 66 1 (.slice none 0 0) 0 [] := World.ownsRow_nil _ _ _ _
      have hb2 := Below.refl w1.heap.size w1
      obtain ⟨r0, r1, f0, f1⟩ := res_box (Box.made w _ _) (bt HB1.out hb2)
      have HO2 := hid (owns_base ho2 HB1.out.size)
      have HBW := hid (bt HB.out (bt HB1.out hb2))
      clear ho2 hb2
      go_wp2_with (at_builtin; refine wpList_append_own_none rfl _ _ 24 rfl w1.heap.size 66 i0 1 Tryz.underlying24 hi _ 0 [] rfl (World.ownsRow_nil _ _ _ _) rfl ?_)
      refine bodyPost_ret (v := .agg #[.bool false, .slice none 0 0]) (by simp [results, Tryz.results58, go_sem, r0, r1]) rfl ?_
      refine ⟨_, by rw [HNB.out], ?_, below_put2 HBW.out _ (Nat.le_refl _) _ _⟩
      exact owns_base (own_put2 (by simpa using HO2.out) w.heap.size (fun g hg => by have := (World.ownsRow.lt HO2.out g hg).1; simp at this; omega) _ _) (by simp)
    · subst h1
      obtain ⟨aa, cc, hv, hrr⟩ := hrd
      simp only [Value.slice.injEq] at hv
      obtain ⟨rfl, _, rfl⟩ := hv
      have HN := hid (copy_news hrr)
      have HLn : Hid ((zs.map (Value.int .u32)).length = k * 1) := by show _ = _; omega
      clear o1 hrr
      go_wp2_with (at_builtin; refine wpList_append_own _ rfl _ _ 24 rfl w1.heap.size 66 i0 (.int .u32 0) 1 4 Tryz.underlying24 hi hz0 hz1 hz2 rfl (by decide) _ 0 [] rfl (World.ownsRow_nil _ _ _ _) ⟨g, 0, none⟩ k cp (zs.map (Value.int .u32)) rfl HLn.out HN.out (ints_oneCell _ _) (by unfold maxLen; omega) (by omega) (Nat.le_refl _) ?_)
      intro v2 w2 ho2x hg2 _
      have ho2 : w2.ownsRow w1.heap.size 66 1 v2 k (zs.map (Value.int .u32)) := by simpa using ho2x
      clear ho2x
      have hb2 : Below w1.heap.size w1 w2 := (Below.refl _ _).grown hg2 (Nat.le_refl _) (fun k hk => by simp [Value.ownBlock] at hk)
      obtain ⟨r0, r1, f0, f1⟩ := res_box (Box.made w _ _) (bt HB1.out hb2)
      have HO2 := hid (owns_base ho2 HB1.out.size)
      have HBW := hid (bt HB.out (bt HB1.out hb2))
      obtain ⟨a2, c2, hs2⟩ := own_slice' ho2
      subst hs2
      clear ho2 hb2 hg2
      go_wp2_with fail
      refine bodyPost_ret (v := .agg #[.bool false, .slice a2 k c2]) (by simp [results, Tryz.results58, go_sem, r0, r1]) rfl ?_
      refine ⟨_, by rw [HNB.out], ?_, below_put2 HBW.out _ (Nat.le_refl _) _ _⟩
      exact owns_base (own_put2 (by simpa using HO2.out) w.heap.size (fun g hg => by have := (World.ownsRow.lt HO2.out g hg).1; simp at this; omega) _ _) (by simp)
  | true =>
    by_cases hk : 0 < k
    · have hk' : (0 : Int) < (k : Int) := by omega
      have HNB : Hid ((true && decide (0 < k)) = true) := by show _ = _; simp [hk]
      go_enter Tryz.func58, Tryz.ntmps58
      go_wp2_with fail
      refine Calls.mono HT.out ?_
      rintro e w1 ⟨v1, rfl, o1, hb1⟩
      have hs1 := hb1.size
      have HB1 := hid hb1
      clear hb1
      have hrd := Reads.own o1 HWD.out
      have hlo : (zs.map (Value.int .u32)).length = k := by have := o1.1; omega
      rcases o1.2 with ⟨h1, h2⟩ | ⟨g, cp, cur, h1, _⟩
      · subst h1
        subst h2
        have hz : zs = [] := List.eq_nil_of_length_eq_zero (by simpa using hlo)
        subst hz
        clear hrd o1
        have ho2 : w1.ownsRow w1.heap.size 66 1 (.slice none 0 0) 0 [] := World.ownsRow_nil _ _ _ _
        have hb2 := Below.refl w1.heap.size w1
        obtain ⟨r0, r1, f0, f1⟩ := res_box (Box.made w _ _) (bt HB1.out hb2)
        have HO2 := hid (owns_base ho2 HB1.out.size)
        have HBW := hid (bt HB.out (bt HB1.out hb2))
        clear ho2 hb2
        go_wp2_with (at_builtin; refine wpList_append_own_none rfl _ _ 24 rfl w1.heap.size 66 i0 1 Tryz.underlying24 hi _ 0 [] rfl (World.ownsRow_nil _ _ _ _) rfl ?_)
        exact absurd hk (by omega)
      · subst h1
        obtain ⟨aa, cc, hv, hrr⟩ := hrd
        simp only [Value.slice.injEq] at hv
        obtain ⟨rfl, _, rfl⟩ := hv
        have HN := hid (copy_news hrr)
        have HLn : Hid ((zs.map (Value.int .u32)).length = k * 1) := by show _ = _; omega
        clear o1 hrr
        go_wp2_with (at_builtin; refine wpList_append_own _ rfl _ _ 24 rfl w1.heap.size 66 i0 (.int .u32 0) 1 4 Tryz.underlying24 hi hz0 hz1 hz2 rfl (by decide) _ 0 [] rfl (World.ownsRow_nil _ _ _ _) ⟨g, 0, none⟩ k cp (zs.map (Value.int .u32)) rfl HLn.out HN.out (ints_oneCell _ _) (by unfold maxLen; omega) (by omega) (Nat.le_refl _) ?_)
        intro v2 w2 ho2x hg2 _
        have ho2 : w2.ownsRow w1.heap.size 66 1 v2 k (zs.map (Value.int .u32)) := by simpa using ho2x
        clear ho2x
        have hb2 : Below w1.heap.size w1 w2 := (Below.refl _ _).grown hg2 (Nat.le_refl _) (fun k hk => by simp [Value.ownBlock] at hk)
        obtain ⟨r0, r1, f0, f1⟩ := res_box (Box.made w _ _) (bt HB1.out hb2)
        have HO2 := hid (owns_base ho2 HB1.out.size)
        have HBW := hid (bt HB.out (bt HB1.out hb2))
        obtain ⟨a2, c2, hs2⟩ := own_slice' ho2
        subst hs2
        clear ho2 hb2 hg2
        go_wp2_with fail
        refine bodyPost_ret (v := .agg #[.bool true, .slice a2 k c2]) (by simp [results, Tryz.results58, go_sem, r0, r1]) rfl ?_
        refine ⟨_, by rw [HNB.out], ?_, below_put2 HBW.out _ (Nat.le_refl _) _ _⟩
        exact owns_base (own_put2 (by simpa using HO2.out) w.heap.size (fun g hg => by have := (World.ownsRow.lt HO2.out g hg).1; simp at this; omega) _ _) (by simp)
    · have hk' : ¬ (0 : Int) < (k : Int) := by omega
      have HNB : Hid ((true && decide (0 < k)) = false) := by show _ = _; simp [hk]
      go_enter Tryz.func58, Tryz.ntmps58
      go_wp2_with fail
      refine Calls.mono HT.out ?_
      rintro e w1 ⟨v1, rfl, o1, hb1⟩
      have hs1 := hb1.size
      have HB1 := hid hb1
      clear hb1
      have hrd := Reads.own o1 HWD.out
      have hlo : (zs.map (Value.int .u32)).length = k := by have := o1.1; omega
      rcases o1.2 with ⟨h1, h2⟩ | ⟨g, cp, cur, h1, _⟩
      · subst h1
        subst h2
        have hz : zs = [] := List.eq_nil_of_length_eq_zero (by simpa using hlo)
        subst hz
        clear hrd o1
        have ho2 : w1.ownsRow w1.heap.size 66 1 (.slice none 0 0) 0 [] := World.ownsRow_nil _ _ _ _
        have hb2 := Below.refl w1.heap.size w1
        obtain ⟨r0, r1, f0, f1⟩ := res_box (Box.made w _ _) (bt HB1.out hb2)
        have HO2 := hid (owns_base ho2 HB1.out.size)
        have HBW := hid (bt HB.out (bt HB1.out hb2))
        clear ho2 hb2
        go_wp2_with (at_builtin; refine wpList_append_own_none rfl _ _ 24 rfl w1.heap.size 66 i0 1 Tryz.underlying24 hi _ 0 [] rfl (World.ownsRow_nil _ _ _ _) rfl ?_)
        refine bodyPost_ret (v := .agg #[.bool false, .slice none 0 0]) (by simp [results, Tryz.results58, go_sem, r0, r1]) rfl ?_
        refine ⟨_, by rw [HNB.out], ?_, below_put2 HBW.out _ (Nat.le_refl _) _ _⟩
        exact owns_base (own_put2 (by simpa using HO2.out) w.heap.size (fun g hg => by have := (World.ownsRow.lt HO2.out g hg).1; simp at this; omega) _ _) (by simp)
      · subst h1
        obtain ⟨aa, cc, hv, hrr⟩ := hrd
        simp only [Value.slice.injEq] at hv
        obtain ⟨rfl, _, rfl⟩ := hv
        have HN := hid (copy_news hrr)
        have HLn : Hid ((zs.map (Value.int .u32)).length = k * 1) := by show _ = _; omega
        clear o1 hrr
        go_wp2_with (at_builtin; refine wpList_append_own _ rfl _ _ 24 rfl w1.heap.size 66 i0 (.int .u32 0) 1 4 Tryz.underlying24 hi hz0 hz1 hz2 rfl (by decide) _ 0 [] rfl (World.ownsRow_nil _ _ _ _) ⟨g, 0, none⟩ k cp (zs.map (Value.int .u32)) rfl HLn.out HN.out (ints_oneCell _ _) (by unfold maxLen; omega) (by omega) (Nat.le_refl _) ?_)
        intro v2 w2 ho2x hg2 _
        have ho2 : w2.ownsRow w1.heap.size 66 1 v2 k (zs.map (Value.int .u32)) := by simpa using ho2x
        clear ho2x
        have hb2 : Below w1.heap.size w1 w2 := (Below.refl _ _).grown hg2 (Nat.le_refl _) (fun k hk => by simp [Value.ownBlock] at hk)
        obtain ⟨r0, r1, f0, f1⟩ := res_box (Box.made w _ _) (bt HB1.out hb2)
        have HO2 := hid (owns_base ho2 HB1.out.size)
        have HBW := hid (bt HB.out (bt HB1.out hb2))
        obtain ⟨a2, c2, hs2⟩ := own_slice' ho2
        subst hs2
        clear ho2 hb2 hg2
        go_wp2_with fail
        refine bodyPost_ret (v := .agg #[.bool false, .slice a2 k c2]) (by simp [results, Tryz.results58, go_sem, r0, r1]) rfl ?_
        refine ⟨_, by rw [HNB.out], ?_, below_put2 HBW.out _ (Nat.le_refl _) _ _⟩
        exact owns_base (own_put2 (by simpa using HO2.out) w.heap.size (fun g hg => by have := (World.ownsRow.lt HO2.out g hg).1; simp at this; omega) _ _) (by simp)

set_option maxHeartbeats 1600000 in
set_option maxRecDepth 100000 in
theorem refOf2_any (x : Int) (w : World) (h0 : -9223372036854775808 ≤ x) (h1 : x ≤ 9223372036854775807) :
    Calls Tryz.prog 29 #[.int .i64 x] w (WIs w x) := by
  obtain ⟨y, hy⟩ : ∃ y : Int, y = (x.natAbs : Int) := ⟨_, rfl⟩
  have y0 : 0 ≤ y ∧ y ≤ 18446744073709551615 := by omega
  have hw := of_wd y y0.1 y0.2
  have hb0 : Below w.heap.size w ((w.alloc (.cells #[.bool false, .slice none 0 0] 59)).alloc (.cells #[.int .u32 (y % 4294967296), .int .u32 (y / 4294967296)] 66)) := bt (alloc_later _ _) (alloc_later _ _)
  have HB := hid hb0
  have HXB := hid (Box.later (Box.made w 59 #[.bool false, .slice none 0 0]) (alloc_later _ (.cells #[.int .u32 (y % 4294967296), .int .u32 (y / 4294967296)] 66)) (by simp))
  have sl := Sl.lit' (w.alloc (.cells #[.bool false, .slice none 0 0] 59)) (w.heap.size + 1) [y % 4294967296, y / 4294967296] #[.int .u32 (y % 4294967296), .int .u32 (y / 4294967296)] 2 (by simp) hw (by unfold maxLen; simp) rfl rfl
  have HV := hid (of_val y y0.1 y0.2)
  have HT := hid (Trimmed.trimmed [y % 4294967296, y / 4294967296])
  have HWD := hid hw.trimmed
  have HLE : Hid (sz [y % 4294967296, y / 4294967296] ≤ 2) := sz_le _
  have HLN := hid (length_trimmed [y % 4294967296, y / 4294967296])
  have HMD := hid (fun n => made_any n _ _ _ sl (by simp))
  clear sl hb0
  have yd : 0 ≤ y / 4294967296 ∧ y / 4294967296 ≤ 4294967295 := by omega
  have HSZ : Hid (w.heap.size < ((w.alloc (.cells #[.bool false, .slice none 0 0] 59)).alloc (.cells #[.int .u32 (y % 4294967296), .int .u32 (y / 4294967296)] 66)).heap.size) := HXB.out.lt
  by_cases hx : x < 0
  · skip
    have hyx : y = -x := by omega
    have hc : IntKind.u64.wrap x = 18446744073709551616 + x := by rw [IntKind.wrap_u64]; omega
    have hc2 : IntKind.u64.wrap (-(18446744073709551616 + x)) = y := by rw [IntKind.wrap_u64]; omega
    have HYX := hid hyx
    have HM := hid (HMD.out true)
    have hm1 : IntKind.u32.wrap y = y % 4294967296 := IntKind.wrap_u32 y
    have hm2 : IntKind.u32.wrap (y / 4294967296) = y / 4294967296 := by rw [IntKind.wrap_u32]; omega
    clear hy hyx hw HMD
    go_enter Tryz.func29, Tryz.ntmps29
    go_wp2_with fail
    refine Calls.mono HM.out ?_
    rintro e w2 ⟨v2, rfl, o2, hb2⟩
    generalize trimmed [y % 4294967296, y / 4294967296] = zs at *
    generalize sz [y % 4294967296, y / 4294967296] = k at *
    obtain ⟨a1, c1, hv1⟩ := own_slice' o2
    subst hv1
    obtain ⟨r0, r1, f0, f1⟩ := res_box HXB.out hb2
    have HBW := hid (bt HB.out hb2)
    have HO2 := hid o2
    obtain ⟨nb, hnb⟩ : ∃ nb, (true && decide (0 < k)) = nb := ⟨_, rfl⟩
    rw [hnb]
    have HNB := hid hnb
    clear hb2 o2 hnb HM
    go_wp2_with fail
    refine bodyPost_ret (v := .agg #[.bool nb, .slice a1 k c1]) (by simp [results, Tryz.results29, go_sem, r0, r1]) rfl ?_
    refine ⟨nb, _, zs, rfl, ?_, HWD.out, HT.out, by rw [HLN.out]; exact HLE.out, ?_, ?_, below_put2 HBW.out _ (Nat.le_refl _) _ _⟩
    · rw [HLN.out]
      exact owns_base (own_put2 HO2.out w.heap.size (fun g hg => by have := (World.ownsRow.lt HO2.out g hg).1; have := HSZ.out; omega) _ _) (by have := HSZ.out; omega)
    · rw [← HNB.out, HLN.out]; by_cases c : 0 < k <;> simp [c]
    · have hkp : 0 < k := by
        by_cases c : 0 < k
        · exact c
        · have e0 : zs = [] := List.eq_nil_of_length_eq_zero (by rw [HLN.out]; omega)
          have := HV.out
          rw [e0, val_nil] at this
          have := HYX.out
          omega
      rw [← HNB.out, show (true && decide (0 < k)) = true by simp [hkp]]
      show -(val zs) = x
      rw [HV.out, HYX.out]; omega
  · skip
    have hyx : y = x := by omega
    have hc : IntKind.u64.wrap x = y := by rw [IntKind.wrap_u64]; omega
    have HYX := hid hyx
    have HM := hid (HMD.out false)
    have hm1 : IntKind.u32.wrap y = y % 4294967296 := IntKind.wrap_u32 y
    have hm2 : IntKind.u32.wrap (y / 4294967296) = y / 4294967296 := by rw [IntKind.wrap_u32]; omega
    clear hy hyx hw HMD
    go_enter Tryz.func29, Tryz.ntmps29
    go_wp2_with fail
    refine Calls.mono HM.out ?_
    rintro e w2 ⟨v2, rfl, o2, hb2⟩
    generalize trimmed [y % 4294967296, y / 4294967296] = zs at *
    generalize sz [y % 4294967296, y / 4294967296] = k at *
    obtain ⟨a1, c1, hv1⟩ := own_slice' o2
    subst hv1
    obtain ⟨r0, r1, f0, f1⟩ := res_box HXB.out hb2
    have HBW := hid (bt HB.out hb2)
    have HO2 := hid o2
    obtain ⟨nb, hnb⟩ : ∃ nb, (false && decide (0 < k)) = nb := ⟨_, rfl⟩
    rw [hnb]
    have HNB := hid hnb
    clear hb2 o2 hnb HM
    go_wp2_with fail
    refine bodyPost_ret (v := .agg #[.bool nb, .slice a1 k c1]) (by simp [results, Tryz.results29, go_sem, r0, r1]) rfl ?_
    refine ⟨nb, _, zs, rfl, ?_, HWD.out, HT.out, by rw [HLN.out]; exact HLE.out, ?_, ?_, below_put2 HBW.out _ (Nat.le_refl _) _ _⟩
    · rw [HLN.out]
      exact owns_base (own_put2 HO2.out w.heap.size (fun g hg => by have := (World.ownsRow.lt HO2.out g hg).1; have := HSZ.out; omega) _ _) (by have := HSZ.out; omega)
    · left; rw [← HNB.out]; rfl
    · rw [← HNB.out]
      show val zs = x
      rw [HV.out, HYX.out]
end Go.Proofs.YtcfcjnlobpoglaaGreat

/- The document's own sum of natural numbers: slackwaterref01.Plus: of every two lists that can be read. -/
namespace Go.Proofs.YtcfcjnlobpoglaaGreat
open Go.RowKit
set_option linter.unusedVariables false

/-- One number, trimmed, in new memory. -/
def Ref1 (w : World) (t : Int) (x : Ending) (w' : World) : Prop := ∃ v zs, x = .returned v ∧ w'.ownsRow w.heap.size 66 1 v zs.length (zs.map (Value.int .u32)) ∧ Wd zs ∧ Trimmed zs ∧ val zs = t ∧ Below w.heap.size w w'
theorem plus_end {us : List Int} (hw : Wd us) (n : Nat) (c V : Int) (hl : us.length = n) (h0 : 0 ≤ c) (h1 : V < 4294967296 ^ n) (h : valTo us n + c * 4294967296 ^ n = V) : val us = V := by
  have b := valTo_bounds hw n
  have hp := pw_pos n
  have hc : c = 0 := by
    by_cases z : c = 0
    · exact z
    · have e1 : 1 * 4294967296 ^ n ≤ c * 4294967296 ^ n := Int.mul_le_mul_of_nonneg_right (by omega) (by omega)
      omega
  rw [hc] at h
  rw [← valTo_stable us n (by omega)]
  omega

set_option maxHeartbeats 3200000 in
set_option maxRecDepth 100000 in
theorem refPlus_any (a : Option Addr) (n cap : Nat) (xs : List Int) (b : Option Addr) (m cap' : Nat) (ys : List Int) (w : World) (h : Reads w w.heap.size a n cap xs) (g : Reads w w.heap.size b m cap' ys) (hn : n ≤ 549755813888) (hm : m ≤ 549755813888) :
    Calls Tryz.prog 59 #[.slice a n cap, .slice b m cap'] w (Ref1 w (val xs + val ys)) := by
  obtain ⟨i0, hi, hz0, hz1, hz2⟩ := info_parts Tryz.infoW
  have HX := hid h
  have HY := hid g
  have WX := hid (And.intro h.2.1 g.2.1)
  have HLL := hid (And.intro h.1 g.1)
  have hn := (by omega : n ≤ 281474976710656)
  have hm := (by omega : m ≤ 281474976710656)
  have v1 := val_lt h.2.1
  have v2 := val_lt g.2.1
  rw [h.1] at v1
  rw [g.1] at v2
  by_cases hnm : n < m
  · have HLT : Hid (val xs + val ys < 4294967296 ^ (m + 1)) := by
      have p := pw_le (show n ≤ m by omega)
      have q := pw_succ m
      have r := pw_pos m
      show _ < _
      omega
    clear h g v1 v2
    go_enter Tryz.func59, Tryz.ntmps59
    go_wp2_with (at_make; refine wpList_make_full _ rfl _ _ 24 rfl w.heap.size 66 i0 (.int .u32 0) 1 Tryz.underlying24 hi hz0 hz1 _ _ _ _ (m + 1) rfl rfl (by omega) (by omega) (by rw [hz2]; omega) (by unfold maxLen; omega) (Nat.le_refl _) ?_)
    intro w1 hown hgrow
    have hbel : Below w.heap.size w w1 := (Below.refl _ _).grown hgrow (Nat.le_refl _) (fun k hk => by simp at hk)
    have HO := hid (OwnW.made hown)
    clear hown hgrow
    go_wp2_with fail
    go_loopw [7, 8] (fun c t wr => ∃ (k : Nat) (cc : Int) (us : List Int), k ≤ m + 1 ∧ t = .int .i64 k ∧ c = .int .u64 cc ∧ 0 ≤ cc ∧ cc ≤ 1 ∧ Wd us ∧ Hid (valTo us k + cc * 4294967296 ^ k = valTo xs k + valTo ys k) ∧ OwnW wr w.heap.size w.heap.size (m + 1) us ∧ Below w.heap.size w wr) (fun _ t _ => m + 1 - (intOf t).toNat)
    case atStart => exact ⟨0, 0, _, by omega, rfl, rfl, by omega, by omega, Wd.replicate _, show _ = _ by simp [valTo], HO.out, hbel⟩
    case round =>
      obtain ⟨k, cc, us, hk, rfl, rfl, c0, c1, hwu, HV, ho, hb⟩ := hrel
      by_cases hlt : k ≤ m
      · have hlt' : (k : Int) ≤ (m : Int) := by omega
        have y1 := ho.cell k (by omega)
        have f1 := ho.free k
        have bx := WX.out.1.at k
        have by' := WX.out.2.at k
        have hlu := ho.len
        have HW1 := hid (word_any _ _ _ xs _ (k : Int) wr (HX.out.later hb (Nat.le_refl _)) hn (by omega))
        have HW2 := hid (word_any _ _ _ ys _ (k : Int) wr (HY.out.later hb (Nat.le_refl _)) hm (by omega))
        rw [Int.toNat_natCast] at HW1 HW2
        obtain ⟨T, hT⟩ : ∃ T, xs[k]?.getD 0 + ys[k]?.getD 0 + cc = T := ⟨_, rfl⟩
        have HV' := hid (sum_step xs ys us k cc T (by omega) (by omega) HV.out)
        have HO' := hid (ho.set k (T % 4294967296))
        have HB' := hid (hb.setCell (p := ⟨w.heap.size, k, none⟩) (Nat.le_refl _) (.int .u32 (T % 4294967296)))
        have T0 : 0 ≤ T ∧ T ≤ 8589934591 := by omega
        clear hlu ho hb HV
        go_wp2_with fail
        refine Calls.mono HW1.out ?_
        rintro e w' ⟨rfl, rfl⟩
        go_wp2_with fail
        refine Calls.mono HW2.out ?_
        rintro e w' ⟨rfl, rfl⟩
        go_wp2_with fail
        go_roundw
        case rel => exact ⟨k + 1, T / 4294967296, us.set k (T % 4294967296), by omega, by go_num, by go_num, by omega, by omega, hwu.set _ (by omega), HV', HO'.out, HB'.out⟩
        case measure => simp [intOf]; omega
      · obtain rfl : k = m + 1 := by omega
        have hlu := ho.len
        have hsum : valTo xs (m + 1) + valTo ys (m + 1) = val xs + val ys := by rw [valTo_stable xs _ (by have := HLL.out; omega), valTo_stable ys _ (by have := HLL.out; omega)]
        have HF : Hid (val us = val xs + val ys) := plus_end hwu (m + 1) cc _ hlu c0 HLT.out (by rw [← hsum]; exact HV.out)
        have HR := hid (refTrim_sl (.slice (some ⟨w.heap.size, 0, none⟩) us.length us.length) us wr (Sl.own (owns_len (show wr.ownsRow w.heap.size 66 1 (.slice (some ⟨w.heap.size, 0, none⟩) us.length us.length) us.length (us.map (Value.int .u32)) by rw [hlu]; exact ho)) hwu) (by omega))
        rw [hlu] at HR
        have hle : ¬ (((m + 1 : Nat) : Int) ≤ (m : Int)) := by omega
        clear hsum ho HV
        go_wp2_with fail
        refine Calls.mono HR.out ?_
        rintro e w3 ⟨v3, rfl, o3, hb3⟩
        have HO3 := hid (owns_base (owns_len o3) hb.size)
        have hbF := bt hb hb3
        clear o3 hb3
        go_wp2_with fail
        go_ret
        exact ⟨v3, _, rfl, HO3.out, hwu.trimmed, Trimmed.trimmed _, by rw [val_trimmed]; exact HF.out, hbF⟩
  · have HLT : Hid (val xs + val ys < 4294967296 ^ (n + 1)) := by
      have p := pw_le (show m ≤ n by omega)
      have q := pw_succ n
      have r := pw_pos n
      show _ < _
      omega
    clear h g v1 v2
    go_enter Tryz.func59, Tryz.ntmps59
    go_wp2_with (at_make; refine wpList_make_full _ rfl _ _ 24 rfl w.heap.size 66 i0 (.int .u32 0) 1 Tryz.underlying24 hi hz0 hz1 _ _ _ _ (n + 1) rfl rfl (by omega) (by omega) (by rw [hz2]; omega) (by unfold maxLen; omega) (Nat.le_refl _) ?_)
    intro w1 hown hgrow
    have hbel : Below w.heap.size w w1 := (Below.refl _ _).grown hgrow (Nat.le_refl _) (fun k hk => by simp at hk)
    have HO := hid (OwnW.made hown)
    clear hown hgrow
    go_wp2_with fail
    go_loopw [7, 8] (fun c t wr => ∃ (k : Nat) (cc : Int) (us : List Int), k ≤ n + 1 ∧ t = .int .i64 k ∧ c = .int .u64 cc ∧ 0 ≤ cc ∧ cc ≤ 1 ∧ Wd us ∧ Hid (valTo us k + cc * 4294967296 ^ k = valTo xs k + valTo ys k) ∧ OwnW wr w.heap.size w.heap.size (n + 1) us ∧ Below w.heap.size w wr) (fun _ t _ => n + 1 - (intOf t).toNat)
    case atStart => exact ⟨0, 0, _, by omega, rfl, rfl, by omega, by omega, Wd.replicate _, show _ = _ by simp [valTo], HO.out, hbel⟩
    case round =>
      obtain ⟨k, cc, us, hk, rfl, rfl, c0, c1, hwu, HV, ho, hb⟩ := hrel
      by_cases hlt : k ≤ n
      · have hlt' : (k : Int) ≤ (n : Int) := by omega
        have y1 := ho.cell k (by omega)
        have f1 := ho.free k
        have bx := WX.out.1.at k
        have by' := WX.out.2.at k
        have hlu := ho.len
        have HW1 := hid (word_any _ _ _ xs _ (k : Int) wr (HX.out.later hb (Nat.le_refl _)) hn (by omega))
        have HW2 := hid (word_any _ _ _ ys _ (k : Int) wr (HY.out.later hb (Nat.le_refl _)) hm (by omega))
        rw [Int.toNat_natCast] at HW1 HW2
        obtain ⟨T, hT⟩ : ∃ T, xs[k]?.getD 0 + ys[k]?.getD 0 + cc = T := ⟨_, rfl⟩
        have HV' := hid (sum_step xs ys us k cc T (by omega) (by omega) HV.out)
        have HO' := hid (ho.set k (T % 4294967296))
        have HB' := hid (hb.setCell (p := ⟨w.heap.size, k, none⟩) (Nat.le_refl _) (.int .u32 (T % 4294967296)))
        have T0 : 0 ≤ T ∧ T ≤ 8589934591 := by omega
        clear hlu ho hb HV
        go_wp2_with fail
        refine Calls.mono HW1.out ?_
        rintro e w' ⟨rfl, rfl⟩
        go_wp2_with fail
        refine Calls.mono HW2.out ?_
        rintro e w' ⟨rfl, rfl⟩
        go_wp2_with fail
        go_roundw
        case rel => exact ⟨k + 1, T / 4294967296, us.set k (T % 4294967296), by omega, by go_num, by go_num, by omega, by omega, hwu.set _ (by omega), HV', HO'.out, HB'.out⟩
        case measure => simp [intOf]; omega
      · obtain rfl : k = n + 1 := by omega
        have hlu := ho.len
        have hsum : valTo xs (n + 1) + valTo ys (n + 1) = val xs + val ys := by rw [valTo_stable xs _ (by have := HLL.out; omega), valTo_stable ys _ (by have := HLL.out; omega)]
        have HF : Hid (val us = val xs + val ys) := plus_end hwu (n + 1) cc _ hlu c0 HLT.out (by rw [← hsum]; exact HV.out)
        have HR := hid (refTrim_sl (.slice (some ⟨w.heap.size, 0, none⟩) us.length us.length) us wr (Sl.own (owns_len (show wr.ownsRow w.heap.size 66 1 (.slice (some ⟨w.heap.size, 0, none⟩) us.length us.length) us.length (us.map (Value.int .u32)) by rw [hlu]; exact ho)) hwu) (by omega))
        rw [hlu] at HR
        have hle : ¬ (((n + 1 : Nat) : Int) ≤ (n : Int)) := by omega
        clear hsum ho HV
        go_wp2_with fail
        refine Calls.mono HR.out ?_
        rintro e w3 ⟨v3, rfl, o3, hb3⟩
        have HO3 := hid (owns_base (owns_len o3) hb.size)
        have hbF := bt hb hb3
        clear o3 hb3
        go_wp2_with fail
        go_ret
        exact ⟨v3, _, rfl, HO3.out, hwu.trimmed, Trimmed.trimmed _, by rw [val_trimmed]; exact HF.out, hbF⟩
end Go.Proofs.YtcfcjnlobpoglaaGreat

/- The document's own difference and product of natural numbers: slackwaterref01.Less, Times: of every two lists that can be read. -/
namespace Go.Proofs.YtcfcjnlobpoglaaGreat
open Go.RowKit
set_option linter.unusedVariables false

theorem bdw {B : Nat} {a w : World} (h : Below B a w) (n : Nat) : Below B a (w.drewN n) := h.trans ⟨rfl, rfl, rfl, Nat.le_refl _, fun _ _ => rfl⟩
theorem less_step (xs ys us : List Int) (k : Nat) (cc z c' : Int) (hk : k < us.length) (ht : z - c' * 4294967296 = xs[k]?.getD 0 - (ys[k]?.getD 0 + cc)) (h : valTo us k - cc * 4294967296 ^ k = valTo xs k - valTo ys k) :
    valTo (us.set k z) (k + 1) - c' * 4294967296 ^ (k + 1) = valTo xs (k + 1) - valTo ys (k + 1) := by
  rw [valTo_set us k z hk, valTo_succ, valTo_succ, pw_succ]
  generalize (4294967296 : Int) ^ k = P at *
  generalize xs[k]?.getD 0 = x at *
  generalize ys[k]?.getD 0 = y at *
  grind
theorem less_end {us : List Int} (hw : Wd us) (n : Nat) (c V : Int) (hl : us.length = n) (h0 : 0 ≤ c) (hV : 0 ≤ V) (h : valTo us n - c * 4294967296 ^ n = V) : val us = V := by
  have b := valTo_bounds hw n
  have hp := pw_pos n
  have hc : c = 0 := by
    by_cases z : c = 0
    · exact z
    · have e1 : 1 * 4294967296 ^ n ≤ c * 4294967296 ^ n := Int.mul_le_mul_of_nonneg_right (by omega) (by omega)
      omega
  rw [hc] at h
  rw [← valTo_stable us n (by omega)]
  omega
theorem word_q {a : Option Addr} {n cap : Nat} {zs : List Int} {B : Nat} {wr : World} (k : Nat) (h : Reads wr B a n cap zs) (hn : n ≤ 281474976710656) (j : Nat) :
    Calls Tryz.prog 82 #[.slice a n cap, .int .i64 (k : Int)] (wr.drewN j) fun e w' => e = .returned (.int .u32 (zs[k]?.getD 0)) ∧ w' = wr.drewN j := by
  have e := word_any a n cap zs B (k : Int) (wr.drewN j) (h.later (bdw (Below.refl _ _) j) (Nat.le_refl _)) hn (by omega)
  rw [Int.toNat_natCast] at e
  exact Calls.mono e (fun _ _ h => ⟨h.1, h.2.symm⟩)

set_option maxHeartbeats 3200000 in
set_option maxRecDepth 100000 in
theorem refLess_any (a : Option Addr) (n cap : Nat) (xs : List Int) (b : Option Addr) (m cap' : Nat) (ys : List Int) (w : World) (h : Reads w w.heap.size a n cap xs) (g : Reads w w.heap.size b m cap' ys) (hn : n ≤ 549755813888) (hm : m ≤ 549755813888) (hle : val ys ≤ val xs) :
    Calls Tryz.prog 61 #[.slice a n cap, .slice b m cap'] w (Ref1 w (val xs - val ys)) := by
  obtain ⟨i0, hi, hz0, hz1, hz2⟩ := info_parts Tryz.infoW
  have HY := hid g
  have WX := hid (And.intro h.2.1 g.2.1)
  have hm' := (by omega : m ≤ 281474976710656)
  have HLE := hid hle
  have hlx := h.1
  have HYV : Hid (valTo ys n = val ys) := by
    show _ = _
    have v1 := val_lt h.2.1
    rw [hlx] at v1
    have hs : sz ys ≤ n := by
      have := len_of_lt g.2.1.trimmed (Trimmed.trimmed ys) (L := n) (by rw [val_trimmed]; omega)
      rwa [length_trimmed] at this
    exact valTo_sz ys n hs
  have HXV : Hid (valTo xs n = val xs) := valTo_stable xs n (by omega)
  have cells : ∀ k, k < n → ∃ b1 o1, a = some ⟨b1, o1, none⟩ ∧ b1 < w.heap.size ∧ w.cell? ⟨b1, o1 + k, none⟩ = some (.int .u32 (xs[k]?.getD 0)) := fun k hk => by
    rcases h.2.2.1 with h0 | ⟨b1, o1, e1, l1, c1⟩
    · omega
    · exact ⟨b1, o1, e1, l1, c1 k hk⟩
  have HCS := hid cells
  have hcap := h.2.2.2.1
  clear h g hle hlx cells
  go_enter Tryz.func61, Tryz.ntmps61
  go_wp2_with (at_make; refine wpList_make_full _ rfl _ _ 24 rfl w.heap.size 66 i0 (.int .u32 0) 1 Tryz.underlying24 hi hz0 hz1 _ _ _ _ n rfl rfl (by omega) (by omega) (by rw [hz2]; omega) (by unfold maxLen; omega) (Nat.le_refl _) ?_)
  intro w1 hown hgrow
  have hbel : Below w.heap.size w w1 := (Below.refl _ _).grown hgrow (Nat.le_refl _) (fun k hk => by simp at hk)
  have HO := hid (OwnW.made hown)
  clear hown hgrow
  go_wp2_with fail
  go_loopw [6, 7] (fun c t wr => ∃ (k : Nat) (cc : Int) (us : List Int), k ≤ n ∧ t = .int .i64 k ∧ c = .int .u64 cc ∧ 0 ≤ cc ∧ cc ≤ 1 ∧ Wd us ∧ Hid (valTo us k - cc * 4294967296 ^ k = valTo xs k - valTo ys k) ∧ OwnW wr w.heap.size w.heap.size n us ∧ Below w.heap.size w wr) (fun _ t _ => n - (intOf t).toNat)
  case atStart => exact ⟨0, 0, _, by omega, rfl, rfl, by omega, by omega, Wd.replicate _, show _ = _ by simp [valTo], HO.out, hbel⟩
  case round =>
    obtain ⟨k, cc, us, hk, rfl, rfl, c0, c1, hwu, HV, ho, hb⟩ := hrel
    by_cases hlt : k < n
    · obtain ⟨b1, o1, rfl, l1, cx⟩ := HCS.out k hlt
      have x1 : wr.cell? ⟨b1, o1 + k, none⟩ = some (.int .u32 (xs[k]?.getD 0)) := (hb.cell (p := ⟨b1, o1 + k, none⟩) l1).trans cx
      have y1 := ho.cell k (by omega)
      have f1 := ho.free k
      have bx := WX.out.1.at k
      have by' := WX.out.2.at k
      have hlu := ho.len
      have HW2 := hid (word_q k (HY.out.later hb (Nat.le_refl _)) hm')
      have HST := hid (fun z c' => less_step xs ys us k cc z c' (by omega))
      have HOB : Hid (∀ j Z, OwnW ((wr.drewN j).setCell ⟨w.heap.size, k, none⟩ (.int .u32 Z)) w.heap.size w.heap.size n (us.set k Z) ∧ Below w.heap.size w ((wr.drewN j).setCell ⟨w.heap.size, k, none⟩ (.int .u32 Z))) := fun j Z =>
        ⟨OwnW.set (show OwnW (wr.drewN j) _ _ _ _ from ho) k Z, (bdw hb j).setCell (p := ⟨w.heap.size, k, none⟩) (Nat.le_refl _) _⟩
      obtain ⟨x, hx⟩ : ∃ x, xs[k]?.getD 0 = x := ⟨_, rfl⟩
      obtain ⟨y, hy⟩ : ∃ y, ys[k]?.getD 0 = y := ⟨_, rfl⟩
      rw [hx] at x1 bx HST
      rw [hy] at by' HW2 HST
      clear hlu ho hb hx hy cx
      by_cases hxy : x < y + cc
      · go_wp2_with fail
        go_quiet ((go_at_call 82; exact Calls.quiet_of_same (HW2.out _)))
        go_wp2_with fail
        go_roundw
        case rel => exact ⟨k + 1, 1, us.set k (x + 4294967296 - (y + cc)), by omega, by go_num, by go_num, by omega, by omega, hwu.set _ (by omega), HST.out _ _ (by omega) HV.out, (HOB.out _ _).1, (HOB.out _ _).2⟩
        case measure => simp [intOf]; omega
      · go_wp2_with fail
        go_quiet ((go_at_call 82; exact Calls.quiet_of_same (HW2.out _)))
        go_wp2_with fail
        go_roundw
        case rel => exact ⟨k + 1, 0, us.set k (x - (y + cc)), by omega, by go_num, by go_num, by omega, by omega, hwu.set _ (by omega), HST.out _ _ (by omega) HV.out, (HOB.out _ _).1, (HOB.out _ _).2⟩
        case measure => simp [intOf]; omega
    · obtain rfl : k = n := by omega
      have hlu := ho.len
      have HF : Hid (val us = val xs - val ys) := less_end hwu k cc _ hlu c0 (by have := HLE.out; omega) (by rw [← HXV.out, ← HYV.out]; exact HV.out)
      have HR := hid (refTrim_sl (.slice (some ⟨w.heap.size, 0, none⟩) us.length us.length) us wr (Sl.own (owns_len (show wr.ownsRow w.heap.size 66 1 (.slice (some ⟨w.heap.size, 0, none⟩) us.length us.length) us.length (us.map (Value.int .u32)) by rw [hlu]; exact ho)) hwu) (by omega))
      rw [hlu] at HR
      clear ho HV
      go_wp2_with fail
      refine Calls.mono HR.out ?_
      rintro e w3 ⟨v3, rfl, o3, hb3⟩
      have HO3 := hid (owns_base (owns_len o3) hb.size)
      have hbF := bt hb hb3
      clear o3 hb3
      go_wp2_with fail
      go_ret
      exact ⟨v3, _, rfl, HO3.out, hwu.trimmed, Trimmed.trimmed _, by rw [val_trimmed]; exact HF.out, hbF⟩
end Go.Proofs.YtcfcjnlobpoglaaGreat

/- The document's own product of natural numbers: slackwaterref01.Times: of every two lists that can be read. -/
namespace Go.Proofs.YtcfcjnlobpoglaaGreat
open Go.RowKit
set_option linter.unusedVariables false

theorem Reads.cells {w : World} {B : Nat} {a : Option Addr} {n cap : Nat} {zs : List Int} (h : Reads w B a n cap zs) : ∀ k, k < n → ∃ b1 o1, a = some ⟨b1, o1, none⟩ ∧ b1 < B ∧ w.cell? ⟨b1, o1 + k, none⟩ = some (.int .u32 (zs[k]?.getD 0)) := fun k hk => by
  rcases h.2.2.1 with h0 | ⟨b1, o1, e1, l1, c1⟩
  · omega
  · exact ⟨b1, o1, e1, l1, c1 k hk⟩
theorem replicate_zero (n j : Nat) : (List.replicate n (0 : Int))[j]?.getD 0 = 0 := by rw [List.getElem?_replicate]; split <;> rfl
/-- Behind a row of a product. -/
theorem row_end (xs zs us ys : List Int) (k m : Nat) (c : Int) (hl : k + m < us.length) (hku : ∀ j, j < k ∨ k + m ≤ j → us[j]?.getD 0 = ys[j]?.getD 0) (hvu : segTo us k m + c * 4294967296 ^ m = segTo ys k m + xs[k]?.getD 0 * val zs) (hv : valTo ys (k + m) = valTo xs k * val zs) :
    valTo (us.set (k + m) c) (k + 1 + m) = valTo xs (k + 1) * val zs := by
  rw [show k + 1 + m = k + m + 1 by omega, valTo_set us (k + m) c (by omega), valTo_seg us k m, valTo_congr us ys k (fun j hj => hku j (by omega)), valTo_succ, Int.add_mul, ← hv, valTo_seg ys k m]
  have e1 : (4294967296 : Int) ^ (k + m) = 4294967296 ^ m * 4294967296 ^ k := by rw [Nat.add_comm, Int.pow_add]
  rw [e1, ← Int.mul_assoc, Int.add_assoc, ← Int.add_mul, hvu, Int.add_mul, ← Int.add_assoc]
  congr 1
  rw [Int.mul_assoc, Int.mul_comm (val zs), ← Int.mul_assoc]

set_option maxHeartbeats 6400000 in
set_option maxRecDepth 100000 in
theorem refTimes_any (a : Option Addr) (n cap : Nat) (xs : List Int) (b : Option Addr) (m cap' : Nat) (ys : List Int) (w : World) (h : Reads w w.heap.size a n cap xs) (g : Reads w w.heap.size b m cap' ys) (hn : n ≤ 274877906944) (hm : m ≤ 274877906944) :
    Calls Tryz.prog 62 #[.slice a n cap, .slice b m cap'] w (Ref1 w (val xs * val ys)) := by
  obtain ⟨i0, hi, hz0, hz1, hz2⟩ := info_parts Tryz.infoW
  have WX := hid (And.intro h.2.1 g.2.1)
  have HL := hid (And.intro h.1 g.1)
  have HCX := hid h.cells
  have HCY := hid g.cells
  have hcap := h.2.2.2.1
  have hcap' := g.2.2.2.1
  clear h g
  go_enter Tryz.func62, Tryz.ntmps62
  go_wp2_with (at_make; refine wpList_make_full _ rfl _ _ 24 rfl w.heap.size 66 i0 (.int .u32 0) 1 Tryz.underlying24 hi hz0 hz1 _ _ _ _ (n + m) rfl rfl (by omega) (by omega) (by rw [hz2]; omega) (by unfold maxLen; omega) (Nat.le_refl _) ?_)
  intro w1 hown hgrow
  have hbel : Below w.heap.size w w1 := (Below.refl _ _).grown hgrow (Nat.le_refl _) (fun k hk => by simp at hk)
  have HO := hid (OwnW.made hown)
  clear hown hgrow
  go_wp2_with fail
  go_loopw [6] (fun t wr => ∃ (k : Nat) (us : List Int), k ≤ n ∧ t = .int .i64 k ∧ Wd us ∧ Hid (valTo us (k + m) = valTo xs k * val ys) ∧ Hid (∀ j, k + m ≤ j → us[j]?.getD 0 = 0) ∧ OwnW wr w.heap.size w.heap.size (n + m) us ∧ Below w.heap.size w wr) (fun t _ => n - (intOf t).toNat)
  case atStart =>
    refine ⟨0, _, by omega, rfl, Wd.replicate _, ?_, fun j _ => replicate_zero _ j, HO.out, hbel⟩
    show _ = _
    rw [valTo_congr _ [] _ (fun j _ => by rw [replicate_zero]; rfl), valTo_stable [] _ (by simp), val_nil]
    simp [valTo]
  case round =>
    obtain ⟨k, us, hk, rfl, hwu, HV, HK, ho, hb⟩ := hrel
    by_cases hlt : k < n
    · obtain ⟨b1, o1, rfl, l1, cx⟩ := HCX.out k hlt
      have bx := WX.out.1.at k
      have HRE := hid (fun c vs => row_end xs ys vs us k m c)
      obtain ⟨x, hx⟩ : ∃ x, xs[k]?.getD 0 = x := ⟨_, rfl⟩
      rw [hx] at cx bx HRE
      have HCELL := hid cx
      have HO1 := hid ho
      have HB1 := hid hb
      clear hx cx ho hb
      go_wp2_with fail
      go_loopw [7, 8] (fun c t wr2 => ∃ (q : Nat) (cc : Int) (vs : List Int), q ≤ m ∧ t = .int .i64 q ∧ c = .int .u64 cc ∧ 0 ≤ cc ∧ cc ≤ 4294967295 ∧ Wd vs ∧ Hid (segTo vs k q + cc * 4294967296 ^ q = segTo us k q + x * valTo ys q) ∧ Hid (∀ j, j < k ∨ k + q ≤ j → vs[j]?.getD 0 = us[j]?.getD 0) ∧ OwnW wr2 w.heap.size w.heap.size (n + m) vs ∧ Below w.heap.size w wr2) (fun _ t _ => m - (intOf t).toNat)
      case atStart => exact ⟨0, 0, us, by omega, rfl, rfl, by omega, by omega, hwu, show _ = _ by simp [segTo, valTo], fun _ _ => rfl, HO1.out, HB1.out⟩
      case round =>
        obtain ⟨q, cc, vs, hq, rfl, rfl, c0, c1, hwv, HV2, HK2, ho, hb⟩ := hrel
        by_cases hlt2 : q < m
        · obtain ⟨b2, o2, rfl, l2, cy⟩ := HCY.out q hlt2
          have x1 : wr.cell? ⟨b1, o1 + k, none⟩ = some (.int .u32 x) := (hb.cell (p := ⟨b1, o1 + k, none⟩) l1).trans HCELL.out
          have x2 : wr.cell? ⟨b2, o2 + q, none⟩ = some (.int .u32 (ys[q]?.getD 0)) := (hb.cell (p := ⟨b2, o2 + q, none⟩) l2).trans cy
          have y1 := ho.cell (k + q) (by omega)
          have f1 := ho.free (k + q)
          have b2' := WX.out.2.at q
          have b3 := hwv.at (k + q)
          have hlu := ho.len
          have bp := prod_word x (ys[q]?.getD 0) bx b2'
          obtain ⟨t, ht⟩ : ∃ t, cc + (x * ys[q]?.getD 0 + vs[k + q]?.getD 0) = t := ⟨_, rfl⟩
          have HVN : Hid (segTo (vs.set (k + q) (t % 4294967296)) k (q + 1) + t / 4294967296 * 4294967296 ^ (q + 1) = segTo us k (q + 1) + x * valTo ys (q + 1)) := by
            have e := mul_step ys vs k q 0 x cc t (by omega) ht _ HV2.out
            rw [HK2.out (k + q) (by omega)] at e
            exact e
          have HKN : Hid (∀ j, j < k ∨ k + (q + 1) ≤ j → (vs.set (k + q) (t % 4294967296))[j]?.getD 0 = us[j]?.getD 0) := fun j hj => by
            rw [List.getElem?_set, if_neg (by omega)]
            exact HK2.out j (by omega)
          have HOB : Hid (∀ j Z, OwnW ((wr.drewN j).setCell ⟨w.heap.size, k + q, none⟩ (.int .u32 Z)) w.heap.size w.heap.size (n + m) (vs.set (k + q) Z) ∧ Below w.heap.size w ((wr.drewN j).setCell ⟨w.heap.size, k + q, none⟩ (.int .u32 Z))) := fun j Z =>
            ⟨OwnW.set (show OwnW (wr.drewN j) _ _ _ _ from ho) (k + q) Z, (bdw hb j).setCell (p := ⟨w.heap.size, k + q, none⟩) (Nat.le_refl _) _⟩
          obtain ⟨y, hy⟩ : ∃ y, ys[q]?.getD 0 = y := ⟨_, rfl⟩
          obtain ⟨u, hu⟩ : ∃ u, vs[k + q]?.getD 0 = u := ⟨_, rfl⟩
          rw [hy] at x2 b2' bp ht
          rw [hu] at y1 b3 ht
          obtain ⟨p, hp⟩ : ∃ p, x * y = p := ⟨_, rfl⟩
          rw [hp] at bp ht
          have hT : p + u + cc = t := by omega
          have T0 : 0 ≤ t ∧ t ≤ 18446744073709551615 := by omega
          clear hlu ho hb HV2 HK2 ht hy hu cy
          go_wp2_with fail
          go_quiet (fail)
          go_wp2_with fail
          go_roundw
          case rel => exact ⟨q + 1, t / 4294967296, vs.set (k + q) (t % 4294967296), by omega, by go_num, by go_num, by omega, by omega, hwv.set _ (by omega), HVN, HKN, (HOB.out _ _).1, (HOB.out _ _).2⟩
          case measure => simp [intOf]; omega
        · obtain rfl : q = m := by omega
          have hlu := ho.len
          have y1 := ho.cell (k + q) (by omega)
          have f1 := ho.free (k + q)
          have HVN := hid (HRE.out cc vs (by omega) HK2.out (by have e := HV2.out; rw [valTo_stable ys q (by have := HL.out.2; omega)] at e; exact e) HV.out)
          have HKN : Hid (∀ j, k + 1 + q ≤ j → (vs.set (k + q) cc)[j]?.getD 0 = 0) := fun j hj => by
            rw [List.getElem?_set, if_neg (by omega), HK2.out j (by omega)]
            exact HK.out j (by omega)
          have HOB := hid (And.intro (ho.set (k + q) cc) (hb.setCell (p := ⟨w.heap.size, k + q, none⟩) (Nat.le_refl _) (.int .u32 cc)))
          clear hlu ho hb HV2 HK2 HV HK HRE
          go_wp2_with fail
          go_roundw
          case rel => exact ⟨k + 1, vs.set (k + q) cc, by omega, by go_num, hwv.set _ ⟨c0, c1⟩, HVN, HKN, HOB.out.1, HOB.out.2⟩
          case measure => simp [intOf]; omega
    · obtain rfl : k = n := by omega
      have hlu := ho.len
      have HF : Hid (val us = val xs * val ys) := by
        show _ = _
        have e := HV.out
        rw [valTo_stable us _ (by omega), valTo_stable xs k (by have := HL.out.1; omega)] at e
        exact e
      have HR := hid (refTrim_sl (.slice (some ⟨w.heap.size, 0, none⟩) us.length us.length) us wr (Sl.own (owns_len (show wr.ownsRow w.heap.size 66 1 (.slice (some ⟨w.heap.size, 0, none⟩) us.length us.length) us.length (us.map (Value.int .u32)) by rw [hlu]; exact ho)) hwu) (by omega))
      rw [hlu] at HR
      clear ho HV HK
      go_wp2_with fail
      refine Calls.mono HR.out ?_
      rintro e w3 ⟨v3, rfl, o3, hb3⟩
      have HO3 := hid (owns_base (owns_len o3) hb.size)
      have hbF := bt hb hb3
      clear o3 hb3
      go_wp2_with fail
      go_ret
      exact ⟨v3, _, rfl, HO3.out, hwu.trimmed, Trimmed.trimmed _, by rw [val_trimmed]; exact HF.out, hbF⟩
end Go.Proofs.YtcfcjnlobpoglaaGreat

/- The document's own division by one word and its shifts: slackwaterref01.small, Up, Down: of every list that can be read. -/
namespace Go.Proofs.YtcfcjnlobpoglaaGreat
open Go.RowKit
set_option linter.unusedVariables false

set_option maxHeartbeats 3200000 in
set_option maxRecDepth 100000 in
theorem refSmall_any (a : Option Addr) (n cap : Nat) (xs : List Int) (x : Int) (w : World) (h : Reads w w.heap.size a n cap xs) (hn : n ≤ 549755813888) (hx : 1 ≤ x ∧ x ≤ 4294967295) :
    Calls Tryz.prog 73 #[.slice a n cap, .int .u32 x] w fun e w' => ∃ v zs r, e = .returned (.tuple #[v, .int .u32 r]) ∧ w'.ownsRow w.heap.size 66 1 v zs.length (zs.map (Value.int .u32)) ∧ Wd zs ∧ Trimmed zs ∧ val xs = val zs * x + r ∧ 0 ≤ r ∧ r < x ∧ Below w.heap.size w w' := by
  obtain ⟨i0, hi, hz0, hz1, hz2⟩ := info_parts Tryz.infoW
  have hx1 := hx.1
  have hx2 := hx.2
  have WX := hid h.2.1
  have HL := hid h.1
  have HCX := hid h.cells
  have hcap := h.2.2.2.1
  clear h hx
  go_enter Tryz.func73, Tryz.ntmps73
  go_wp2_with (at_make; refine wpList_make_full _ rfl _ _ 24 rfl w.heap.size 66 i0 (.int .u32 0) 1 Tryz.underlying24 hi hz0 hz1 _ _ _ _ n rfl rfl (by omega) (by omega) (by rw [hz2]; omega) (by unfold maxLen; omega) (Nat.le_refl _) ?_)
  intro w1 hown hgrow
  have hbel : Below w.heap.size w w1 := (Below.refl _ _).grown hgrow (Nat.le_refl _) (fun k hk => by simp at hk)
  have HO := hid (OwnW.made hown)
  clear hown hgrow
  go_wp2_with fail
  go_loopw [7, 8] (fun c t wr => ∃ (k : Nat) (r : Int) (us : List Int), k ≤ n ∧ t = .int .i64 ((k : Int) - 1) ∧ c = .int .u64 r ∧ 0 ≤ r ∧ r < x ∧ Wd us ∧ Hid (segTo xs k (n - k) = segTo us k (n - k) * x + r) ∧ OwnW wr w.heap.size w.heap.size n us ∧ Below w.heap.size w wr) (fun _ t _ => (intOf t + 1).toNat)
  case atStart => exact ⟨n, 0, _, by omega, rfl, rfl, by omega, by omega, Wd.replicate _, show _ = _ by rw [Nat.sub_self]; simp [segTo], HO.out, hbel⟩
  case round =>
    obtain ⟨k, r, us, hk, rfl, rfl, r0, r1, hwu, HV, ho, hb⟩ := hrel
    rcases k with _ | k
    · have hlu := ho.len
      have HF : Hid (val xs = val us * x + r) := by
        show _ = _
        have e := HV.out
        rw [segTo_zero, segTo_zero, valTo_stable xs _ (by have := HL.out; omega), valTo_stable us _ (by omega)] at e
        exact e
      have HR := hid (refTrim_sl (.slice (some ⟨w.heap.size, 0, none⟩) us.length us.length) us wr (Sl.own (owns_len (show wr.ownsRow w.heap.size 66 1 (.slice (some ⟨w.heap.size, 0, none⟩) us.length us.length) us.length (us.map (Value.int .u32)) by rw [hlu]; exact ho)) hwu) (by omega))
      rw [hlu] at HR
      clear ho HV
      go_wp2_with fail
      refine Calls.mono HR.out ?_
      rintro e w3 ⟨v3, rfl, o3, hb3⟩
      have HO3 := hid (owns_base (owns_len o3) hb.size)
      have hbF := bt hb hb3
      clear o3 hb3
      go_wp2_with fail
      go_ret2
      exact ⟨v3, _, r, rfl, HO3.out, hwu.trimmed, Trimmed.trimmed _, by rw [val_trimmed]; exact HF.out, r0, r1, hbF⟩
    · have ek : (((k + 1 : Nat) : Int) - 1) = (k : Int) := by omega
      rw [ek]
      clear ek
      obtain ⟨b1, o1, rfl, l1, cx⟩ := HCX.out k (by omega)
      have x1 : wr.cell? ⟨b1, o1 + k, none⟩ = some (.int .u32 (xs[k]?.getD 0)) := (hb.cell (p := ⟨b1, o1 + k, none⟩) l1).trans cx
      have y1 := ho.cell k (by omega)
      have f1 := ho.free k
      have bu := WX.out.at k
      have hlu := ho.len
      obtain ⟨t, ht⟩ : ∃ t, t = xs[k]?.getD 0 + r * 4294967296 := ⟨_, rfl⟩
      obtain ⟨t0, q0, q1, m0, m1⟩ := div_word x r (xs[k]?.getD 0) t hx1 r0 r1 bu ht
      have t2 : t ≤ 18446744073709551615 := by omega
      have HV' := hid (div_step xs us n k x r t (by omega) hlu.symm ht HV.out)
      have HO' := hid (ho.set k (t / x))
      have HB' := hid (hb.setCell (p := ⟨w.heap.size, k, none⟩) (Nat.le_refl _) (.int .u32 (t / x)))
      have hT : r * 4294967296 + xs[k]?.getD 0 = t := by omega
      have hxz : ¬ x = 0 := by omega
      clear hlu ho hb HV ht cx
      go_wp2_with fail
      go_roundw
      case rel => exact ⟨k, t % x, us.set k (t / x), by omega, rfl, rfl, m0, m1, hwu.set k ⟨q0, q1⟩, HV', HO'.out, HB'.out⟩
      case measure => simp [intOf]

/-- A word moved up lays a multiple of the power into its place, and less than the power into the next one. -/
theorem up_word (x : Int) (t : Nat) (ht : t ≤ 31) (x0 : 0 ≤ x) (x1 : x ≤ 4294967295) : x * 2 ^ t % 4294967296 ≤ 4294967296 - 2 ^ t ∧ 0 ≤ x * 2 ^ t / 4294967296 ∧ x * 2 ^ t / 4294967296 < 2 ^ t := by
  have hp := two_pos t
  have hs := two_split t (by omega)
  have hr := two_pos (32 - t)
  refine ⟨?_, Int.ediv_nonneg (Int.mul_nonneg x0 (by omega)) (by omega), Int.ediv_lt_of_lt_mul (by omega) ?_⟩
  · have e : x * 2 ^ t % 4294967296 = x % 2 ^ (32 - t) * 2 ^ t := by
      rw [hs, Int.mul_comm x, Int.mul_emod_mul_of_pos _ _ hp, Int.mul_comm]
    rw [e]
    have h1 := Int.emod_lt_of_pos x hr
    have h2 : (x % 2 ^ (32 - t) + 1) * 2 ^ t ≤ 2 ^ (32 - t) * 2 ^ t := Int.mul_le_mul_of_nonneg_right (by omega) (by omega)
    rw [Int.mul_comm (2 ^ (32 - t)), ← hs] at h2
    rw [Int.add_mul] at h2
    omega
  · have h2 : x * 2 ^ t < 4294967296 * 2 ^ t := Int.mul_lt_mul_of_pos_right (by omega) hp
    rw [Int.mul_comm (2 ^ t)]
    exact h2
theorem up_step (xs us : List Int) (W k : Nat) (Q c lo hi p : Int) (hk : W + k + 1 < us.length) (hc : us[W + k]?.getD 0 = c) (hp : xs[k]?.getD 0 * Q = p) (hl : p = lo + hi * 4294967296) (h : segTo us W (k + 1) = valTo xs k * Q) :
    segTo ((us.set (W + k) (c + lo)).set (W + k + 1) hi) W (k + 1 + 1) = valTo xs (k + 1) * Q := by
  rw [show W + k + 1 = W + (k + 1) by omega, segTo_set _ W (k + 1) hi (by rw [List.length_set]; omega), segTo_set us W k _ (by omega), valTo_succ, pw_succ]
  rw [segTo_succ, hc] at h
  generalize (4294967296 : Int) ^ k = P at *
  generalize segTo us W k = S at *
  generalize valTo xs k = V at *
  generalize xs[k]?.getD 0 = X at *
  grind

set_option maxHeartbeats 3200000 in
set_option maxRecDepth 100000 in
theorem refUp_any (a : Option Addr) (n cap : Nat) (xs : List Int) (W t : Nat) (M : Int) (w : World) (h : Reads w w.heap.size a n cap xs) (hn : n ≤ 274877906944) (hn0 : 0 < n) (hW : W ≤ 274877906944) (ht : t ≤ 31) (hM : M = 32 * W + t) :
    Calls Tryz.prog 76 #[.slice a n cap, .int .i64 M] w (Ref1 w (val xs * 2 ^ t * 4294967296 ^ W)) := by
  obtain ⟨i0, hi, hz0, hz1, hz2⟩ := info_parts Tryz.infoW
  have WX := hid h.2.1
  have HL := hid h.1
  have HCX := hid h.cells
  have hcap := h.2.2.2.1
  have hq : M / 32 = (W : Int) := by omega
  have hr : M % 32 = (t : Int) := by omega
  have hM0 : 0 ≤ M := by omega
  have hM1 : M ≤ 9000000000000 := by omega
  have hnz : ((n : Int) == 0) = false := by simp; omega
  clear h hM
  go_enter Tryz.func76, Tryz.ntmps76
  go_wp2_with (at_make; refine wpList_make_full _ rfl _ _ 24 rfl w.heap.size 66 i0 (.int .u32 0) 1 Tryz.underlying24 hi hz0 hz1 _ _ _ _ (n + W + 1) rfl rfl (by omega) (by omega) (by rw [hz2]; omega) (by unfold maxLen; omega) (Nat.le_refl _) ?_)
  intro w1 hown hgrow
  have hbel : Below w.heap.size w w1 := (Below.refl _ _).grown hgrow (Nat.le_refl _) (fun k hk => by simp at hk)
  have HO := hid (OwnW.made hown)
  clear hown hgrow
  go_wp2_with fail
  go_loopw [6] (fun z wr => ∃ (k : Nat) (us : List Int), k ≤ n ∧ z = .int .i64 k ∧ Wd us ∧ Hid (us[W + k]?.getD 0 < 2 ^ t) ∧ Hid (segTo us W (k + 1) = valTo xs k * 2 ^ t) ∧ Hid (∀ j, j < W ∨ W + k + 1 ≤ j → us[j]?.getD 0 = 0) ∧ OwnW wr w.heap.size w.heap.size (n + W + 1) us ∧ Below w.heap.size w wr) (fun z _ => n - (intOf z).toNat)
  case atStart =>
    refine ⟨0, _, by omega, rfl, Wd.replicate _, ?_, ?_, fun j _ => replicate_zero _ j, HO.out, hbel⟩
    · show _ < _
      rw [replicate_zero]; exact two_pos t
    · show _ = _
      rw [segTo_succ, Nat.add_zero, replicate_zero]; simp [segTo, valTo]
  case round =>
    obtain ⟨k, us, hk, rfl, hwu, HC, HV, HK, ho, hb⟩ := hrel
    by_cases hlt : k < n
    · obtain ⟨b1, o1, rfl, l1, cx⟩ := HCX.out k (by omega)
      have x1 : wr.cell? ⟨b1, o1 + k, none⟩ = some (.int .u32 (xs[k]?.getD 0)) := (hb.cell (p := ⟨b1, o1 + k, none⟩) l1).trans cx
      have y1 := ho.cell (W + k) (by omega)
      have f1 := ho.free (W + k)
      have bx := WX.out.at k
      have hlu := ho.len
      have bc := hwu.at (W + k)
      obtain ⟨u1, u2, u3⟩ := up_word _ t ht bx.1 bx.2
      obtain ⟨q0, q1, q2, q3⟩ := shl_word _ t ht bx.1 bx.2
      have c1 := HC.out
      have HST := hid (fun c lo hi p => up_step xs us W k (2 ^ t) c lo hi p (by omega))
      have HOB : Hid (∀ A B, OwnW ((wr.setCell ⟨w.heap.size, W + k, none⟩ (.int .u32 A)).setCell ⟨w.heap.size, W + k + 1, none⟩ (.int .u32 B)) w.heap.size w.heap.size (n + W + 1) ((us.set (W + k) A).set (W + k + 1) B) ∧ Below w.heap.size w ((wr.setCell ⟨w.heap.size, W + k, none⟩ (.int .u32 A)).setCell ⟨w.heap.size, W + k + 1, none⟩ (.int .u32 B))) := fun A B =>
        ⟨(ho.set (W + k) A).set (W + k + 1) B, (hb.setCell (p := ⟨w.heap.size, W + k, none⟩) (Nat.le_refl _) _).setCell (p := ⟨w.heap.size, W + k + 1, none⟩) (Nat.le_refl _) _⟩
      have HF2 : Hid (∀ A, (wr.setCell ⟨w.heap.size, W + k, none⟩ (.int .u32 A)).cell? ⟨w.heap.size, W + k + 1, none⟩ = some (.int .u32 ((us.set (W + k) A)[W + k + 1]?.getD 0)) ∧ (wr.setCell ⟨w.heap.size, W + k, none⟩ (.int .u32 A)).frozen? ⟨w.heap.size, W + k + 1, none⟩ = false) := fun A => ⟨(ho.set (W + k) A).cell (W + k + 1) (by omega), (ho.set (W + k) A).free _⟩
      obtain ⟨X, hX⟩ : ∃ X, xs[k]?.getD 0 = X := ⟨_, rfl⟩
      obtain ⟨c, hc⟩ : ∃ c, us[W + k]?.getD 0 = c := ⟨_, rfl⟩
      rw [hX] at x1 bx HST u1 u2 u3 q0 q1
      rw [hc] at y1 c1 bc HST
      obtain ⟨p, hp⟩ : ∃ p, X * 2 ^ t = p := ⟨_, rfl⟩
      rw [hp] at u1 u2 u3 q0 q1
      obtain ⟨lo, hlo⟩ : ∃ lo, p % 4294967296 = lo := ⟨_, rfl⟩
      obtain ⟨hi', hhi⟩ : ∃ hi', p / 4294967296 = hi' := ⟨_, rfl⟩
      have hpl : p = lo + hi' * 4294967296 := by omega
      have HSV := hid (HST.out c lo hi' p rfl hp hpl HV.out)
      have HOB2 := hid (HOB.out (c + lo) hi')
      obtain ⟨g1, g2⟩ := HF2.out (c + lo)
      have lo0 : 0 ≤ lo := by omega
      rw [hlo] at u1
      rw [hhi] at u2 u3
      have hcl : c + lo ≤ 4294967295 := by omega
      have hi1 : hi' ≤ 4294967295 := by omega
      have HU3 := hid u3
      have p1 : p ≤ 18446744073709551615 := by omega
      have hkW : ((k : Int) + (W : Int)) = ((W + k : Nat) : Int) := by omega
      have hkW1 : (((W + k : Nat) : Int) + 1) = ((W + k + 1 : Nat) : Int) := by omega
      have HKN : Hid (∀ j, j < W ∨ W + (k + 1) + 1 ≤ j → ((us.set (W + k) (c + lo)).set (W + k + 1) hi')[j]?.getD 0 = 0) := fun j hj => by
        rw [List.getElem?_set, if_neg (by omega), List.getElem?_set, if_neg (by omega)]
        exact HK.out j (by omega)
      have HCN : Hid (((us.set (W + k) (c + lo)).set (W + k + 1) hi')[W + (k + 1)]?.getD 0 < 2 ^ t) := by
        show _ < _
        rw [show W + (k + 1) = W + k + 1 by omega, List.getElem?_set, if_pos rfl, if_pos (by rw [List.length_set]; omega)]
        exact HU3.out
      have HWN := hid ((hwu.set (W + k) (show 0 ≤ c + lo ∧ c + lo ≤ 4294967295 by omega)).set (W + k + 1) (show 0 ≤ hi' ∧ hi' ≤ 4294967295 by omega))
      clear hlu ho hb HV HK HC cx hX hc hpl u1 u3 q1 q2 q3 c1 HST HOB HF2
      go_wp2_with fail
      go_roundw
      case rel => exact ⟨k + 1, _, by omega, by go_num, HWN.out, HCN, HSV, HKN, HOB2.out.1, HOB2.out.2⟩
      case measure => simp [intOf]; omega
    · obtain rfl : k = n := by omega
      have hlu := ho.len
      have HF : Hid (val us = val xs * 2 ^ t * 4294967296 ^ W) := by
        show _ = _
        rw [← valTo_stable us (W + (k + 1)) (by omega), valTo_seg us W (k + 1), HV.out, valTo_stable xs k (by have := HL.out; omega), valTo_congr us [] W (fun j hj => by rw [HK.out j (.inl hj)]; rfl), valTo_stable [] _ (by simp), val_nil]
        omega
      have HR := hid (refTrim_sl (.slice (some ⟨w.heap.size, 0, none⟩) us.length us.length) us wr (Sl.own (owns_len (show wr.ownsRow w.heap.size 66 1 (.slice (some ⟨w.heap.size, 0, none⟩) us.length us.length) us.length (us.map (Value.int .u32)) by rw [hlu]; exact ho)) hwu) (by omega))
      rw [hlu] at HR
      clear ho HV HK HC
      go_wp2_with fail
      refine Calls.mono HR.out ?_
      rintro e w3 ⟨v3, rfl, o3, hb3⟩
      have HO3 := hid (owns_base (owns_len o3) hb.size)
      have hbF := bt hb hb3
      clear o3 hb3
      go_wp2_with fail
      go_ret
      exact ⟨v3, _, rfl, HO3.out, hwu.trimmed, Trimmed.trimmed _, by rw [val_trimmed]; exact HF.out, hbF⟩
end Go.Proofs.YtcfcjnlobpoglaaGreat

/- The document's own shift down: slackwaterref01.Down: of every list that can be read. -/
namespace Go.Proofs.YtcfcjnlobpoglaaGreat
open Go.RowKit
set_option linter.unusedVariables false

theorem Reads.behind {w : World} {B : Nat} {b o n cap : Nat} {zs : List Int} (h : Reads w B (some ⟨b, o, none⟩) n cap zs) (W : Nat) (hW : W < n) : Reads w B (some ⟨b, o + W, none⟩) (n - W) (cap - W) (zs.drop W) := by
  obtain ⟨h1, h2, h3, h4, h5, h6⟩ := h
  refine ⟨by rw [List.length_drop]; omega, h2.drop W, ?_, by omega, by omega, fun e => by simp at e⟩
  rcases h3 with h3 | ⟨b', o', ha, hlt, hc⟩
  · omega
  · right
    simp only [Option.some.injEq, Addr.mk.injEq] at ha
    obtain ⟨rfl, rfl, _⟩ := ha
    refine ⟨b, o + W, rfl, hlt, fun j hj => ?_⟩
    rw [Nat.add_assoc, hc (W + j) (by omega), List.getElem?_drop]
theorem down_val (xs us : List Int) (W m t : Nat) (wx : Wd xs) (ht : t ≤ 31) (hlen : xs.length = W + m) (hpt : ∀ j, j < m → us[j]?.getD 0 = (xs[W + j]?.getD 0 + xs[W + (j + 1)]?.getD 0 * 4294967296) / 2 ^ t % 4294967296) :
    ∀ d k, k + d = m → segTo us k d = segTo xs (W + k) d / 2 ^ t
  | 0, k, h => by show (0 : Int) = 0 / 2 ^ t; simp
  | d + 1, k, h => by
    have ih := down_val xs us W m t wx ht hlen hpt d (k + 1) (by omega)
    have bx := wx.at (W + k)
    have hw := lower_word (segTo xs (W + (k + 1)) d) (xs[W + k]?.getD 0) (xs[W + (k + 1)]?.getD 0) (2 ^ t) (2 ^ (32 - t)) (segTo_nonneg wx _ _) (by rw [segTo_low wx (W + (k + 1)) d (fun h => by rw [List.getElem?_eq_none (by omega)]; rfl)]) bx.1 bx.2 (two_pos t) (two_split t (by omega))
    rw [segTo_cons, segTo_cons, hpt k (by omega), ih, hw]
    rfl
theorem down_all (xs us : List Int) (W m t : Nat) (wx : Wd xs) (ht : t ≤ 31) (hlen : xs.length = W + m) (hlu : us.length = m) (hpt : ∀ j, j < m → us[j]?.getD 0 = (xs[W + j]?.getD 0 + xs[W + (j + 1)]?.getD 0 * 4294967296) / 2 ^ t % 4294967296) :
    val us = val xs / 4294967296 ^ W / 2 ^ t := by
  have e := down_val xs us W m t wx ht hlen hpt m 0 (by omega)
  rw [segTo_zero, Nat.add_zero, valTo_stable us _ (by omega)] at e
  rw [e, ← valTo_stable xs (W + m) (by omega), valTo_seg xs W m]
  have b := valTo_bounds wx W
  rw [Int.add_mul_ediv_right _ _ (by have := pw_pos W; omega), Int.ediv_eq_zero_of_lt b.1 b.2]
  simp

set_option maxHeartbeats 3200000 in
set_option maxRecDepth 100000 in
theorem refDown_none (a : Option Addr) (n cap : Nat) (W t : Nat) (M : Int) (w : World) (hn : n ≤ 274877906944) (hW : n ≤ W) (hW' : W ≤ 274877906944) (ht : t ≤ 31) (hM : M = 32 * W + t) :
    Calls Tryz.prog 78 #[.slice a n cap, .int .i64 M] w fun e w' => e = .returned (.slice none 0 0) ∧ w = w' := by
  have hq : M / 32 = (W : Int) := by omega
  have hM0 : 0 ≤ M := by omega
  have hM1 : M ≤ 9000000000000 := by omega
  have hle : (n : Int) ≤ (W : Int) := by omega
  clear hM
  go_enter Tryz.func78, Tryz.ntmps78
  go_wp2_with fail
  go_ret
  exact ⟨rfl, rfl⟩

set_option maxHeartbeats 3200000 in
set_option maxRecDepth 100000 in
theorem refDown_any (a : Option Addr) (n cap : Nat) (xs : List Int) (W t : Nat) (M : Int) (w : World) (h : Reads w w.heap.size a n cap xs) (hn : n ≤ 274877906944) (hW : W < n) (ht : t ≤ 31) (hM : M = 32 * W + t) :
    Calls Tryz.prog 78 #[.slice a n cap, .int .i64 M] w (Ref1 w (val xs / 4294967296 ^ W / 2 ^ t)) := by
  obtain ⟨i0, hi, hz0, hz1, hz2⟩ := info_parts Tryz.infoW
  rcases h.2.2.1 with h0 | ⟨b1, o1, rfl, hb1, hc1⟩
  · omega
  obtain ⟨m, hm⟩ : ∃ m, n = W + m := ⟨n - W, by omega⟩
  subst hm
  have WX := hid h.2.1
  have HL := hid h.1
  have HR := h.behind W hW
  have hnm : W + m - W = m := by omega
  rw [hnm] at HR
  have HRB := hid HR
  have HCX := hid hc1
  have hcap := h.2.2.2.1
  have hq : M / 32 = (W : Int) := by omega
  have hr : M % 32 = (t : Int) := by omega
  have hM0 : 0 ≤ M := by omega
  have hM1 : M ≤ 9000000000000 := by omega
  have hlt : ¬ ((W + m : Nat) : Int) ≤ (W : Int) := by omega
  have him : (((W + m : Nat) : Int) - (W : Int)) = (m : Int) := by omega
  have hcz : ¬ cap = W := by omega
  have hm0 : 0 < m := by omega
  clear h hM HR hc1
  go_enter Tryz.func78, Tryz.ntmps78
  go_wp2_with (at_make; refine wpList_make_full _ rfl _ _ 24 rfl w.heap.size 66 i0 (.int .u32 0) 1 Tryz.underlying24 hi hz0 hz1 _ _ _ _ m rfl rfl (by omega) (by omega) (by rw [hz2]; omega) (by unfold maxLen; omega) (Nat.le_refl _) ?_)
  intro w1 hown hgrow
  have hbel : Below w.heap.size w w1 := (Below.refl _ _).grown hgrow (Nat.le_refl _) (fun k hk => by simp at hk)
  have HO := hid (OwnW.made hown)
  clear hown hgrow
  go_wp2_with fail
  go_loopw [7] (fun z wr => ∃ (k : Nat) (us : List Int), k ≤ m ∧ z = .int .i64 k ∧ Wd us ∧ Hid (∀ j, j < k → us[j]?.getD 0 = (xs[W + j]?.getD 0 + xs[W + (j + 1)]?.getD 0 * 4294967296) / 2 ^ t % 4294967296) ∧ OwnW wr w.heap.size w.heap.size m us ∧ Below w.heap.size w wr) (fun z _ => m - (intOf z).toNat)
  case atStart => exact ⟨0, _, by omega, rfl, Wd.replicate _, fun j hj => by omega, HO.out, hbel⟩
  case round =>
    obtain ⟨k, us, hk, rfl, hwu, HV, ho, hb⟩ := hrel
    by_cases hlt2 : k < m
    · have x1 : wr.cell? ⟨b1, o1 + W + k, none⟩ = some (.int .u32 (xs[W + k]?.getD 0)) := by
        have e := (hb.cell (p := ⟨b1, o1 + (W + k), none⟩) hb1).trans (HCX.out (W + k) (by omega))
        rw [Nat.add_assoc]; exact e
      have y1 := ho.cell k (by omega)
      have f1 := ho.free k
      have bx := WX.out.at (W + k)
      have bz := WX.out.at (W + (k + 1))
      have hlu := ho.len
      have HW2 := hid (word_q (k + 1) (HRB.out.later hb (Nat.le_refl _)) (by omega))
      rw [List.getElem?_drop, show ((k + 1 : Nat) : Int) = (k : Int) + 1 by omega] at HW2
      have HOB : Hid (∀ j Z, OwnW ((wr.drewN j).setCell ⟨w.heap.size, k, none⟩ (.int .u32 Z)) w.heap.size w.heap.size m (us.set k Z) ∧ Below w.heap.size w ((wr.drewN j).setCell ⟨w.heap.size, k, none⟩ (.int .u32 Z))) := fun j Z =>
        ⟨OwnW.set (show OwnW (wr.drewN j) _ _ _ _ from ho) k Z, (bdw hb j).setCell (p := ⟨w.heap.size, k, none⟩) (Nat.le_refl _) _⟩
      have HPT : Hid (∀ Z, Z = (xs[W + k]?.getD 0 + xs[W + (k + 1)]?.getD 0 * 4294967296) / 2 ^ t % 4294967296 → ∀ j, j < k + 1 → (us.set k Z)[j]?.getD 0 = (xs[W + j]?.getD 0 + xs[W + (j + 1)]?.getD 0 * 4294967296) / 2 ^ t % 4294967296) := fun Z hZ j hj => by
        rw [List.getElem?_set]
        by_cases e : k = j
        · subst e
          rw [if_pos rfl, if_pos (by omega)]; exact hZ
        · rw [if_neg e]; exact HV.out j (by omega)
      obtain ⟨x, hx⟩ : ∃ x, xs[W + k]?.getD 0 = x := ⟨_, rfl⟩
      obtain ⟨z, hz⟩ : ∃ z, xs[W + (k + 1)]?.getD 0 = z := ⟨_, rfl⟩
      rw [hx] at x1 bx HPT
      rw [hz] at bz HW2 HPT
      obtain ⟨u, hu⟩ : ∃ u, z * 4294967296 + x = u := ⟨_, rfl⟩
      have u0 : 0 ≤ u ∧ u ≤ 18446744073709551615 := by omega
      have hQ := two_pos t
      have q0 : 0 ≤ u / 2 ^ t := Int.ediv_nonneg (by omega) (by omega)
      have q1 : u / 2 ^ t ≤ 18446744073709551615 := by
        have : u / 2 ^ t ≤ u := Int.ediv_le_self _ (by omega)
        omega
      obtain ⟨q, hq'⟩ : ∃ q, u / 2 ^ t = q := ⟨_, rfl⟩
      rw [hq'] at q0 q1
      have HPQ := hid (HPT.out (q % 4294967296) (by rw [← hq', ← hu, Int.add_comm x]))
      clear hlu ho hb HV HPT hx hz hQ
      go_wp2_with fail
      go_quiet ((go_at_call 82; exact Calls.quiet_of_same (HW2.out _)))
      go_wp2_with fail
      go_roundw
      case rel => exact ⟨k + 1, us.set k (q % 4294967296), by omega, by go_num, hwu.set _ (by omega), HPQ, (HOB.out _ _).1, (HOB.out _ _).2⟩
      case measure => simp [intOf]; omega
    · obtain rfl : k = m := by omega
      have hlu := ho.len
      have HF := hid (down_all xs us W k t WX.out ht HL.out hlu HV.out)
      have HR := hid (refTrim_sl (.slice (some ⟨w.heap.size, 0, none⟩) us.length us.length) us wr (Sl.own (owns_len (show wr.ownsRow w.heap.size 66 1 (.slice (some ⟨w.heap.size, 0, none⟩) us.length us.length) us.length (us.map (Value.int .u32)) by rw [hlu]; exact ho)) hwu) (by omega))
      rw [hlu] at HR
      clear ho HV
      go_wp2_with fail
      refine Calls.mono HR.out ?_
      rintro e w3 ⟨v3, rfl, o3, hb3⟩
      have HO3 := hid (owns_base (owns_len o3) hb.size)
      have hbF := bt hb hb3
      clear o3 hb3
      go_wp2_with fail
      go_ret
      exact ⟨v3, _, rfl, HO3.out, hwu.trimmed, Trimmed.trimmed _, by rw [val_trimmed]; exact HF.out, hbF⟩
end Go.Proofs.YtcfcjnlobpoglaaGreat

/- The document's own long division, its parts: slackwaterref01.below, off, digit; its calls at any slice that can be read. -/
namespace Go.Proofs.YtcfcjnlobpoglaaGreat
open Go.RowKit
set_option linter.unusedVariables false

theorem refPlus_sl (v u : Value) (xs ys : List Int) (w : World) (h : Sl w v xs) (g : Sl w u ys) (hn : xs.length ≤ 549755813888) (hm : ys.length ≤ 549755813888) : Calls Tryz.prog 59 #[v, u] w (Ref1 w (val xs + val ys)) := by
  obtain ⟨a, cap, rfl, hr⟩ := h
  obtain ⟨b, cap', rfl, gr⟩ := g
  exact refPlus_any a _ cap xs b _ cap' ys w hr gr hn hm
theorem refLess_sl (v u : Value) (xs ys : List Int) (w : World) (h : Sl w v xs) (g : Sl w u ys) (hn : xs.length ≤ 549755813888) (hm : ys.length ≤ 549755813888) (hle : val ys ≤ val xs) : Calls Tryz.prog 61 #[v, u] w (Ref1 w (val xs - val ys)) := by
  obtain ⟨a, cap, rfl, hr⟩ := h
  obtain ⟨b, cap', rfl, gr⟩ := g
  exact refLess_any a _ cap xs b _ cap' ys w hr gr hn hm hle
theorem refTimes_sl (v u : Value) (xs ys : List Int) (w : World) (h : Sl w v xs) (g : Sl w u ys) (hn : xs.length ≤ 274877906944) (hm : ys.length ≤ 274877906944) : Calls Tryz.prog 62 #[v, u] w (Ref1 w (val xs * val ys)) := by
  obtain ⟨a, cap, rfl, hr⟩ := h
  obtain ⟨b, cap', rfl, gr⟩ := g
  exact refTimes_any a _ cap xs b _ cap' ys w hr gr hn hm
theorem refOf_val (x : Int) (w : World) (h0 : 0 ≤ x) (h1 : x ≤ 18446744073709551615) : Calls Tryz.prog 74 #[.int .u64 x] w (Ref1 w x) := by
  refine Calls.mono (refOf_any x w h0 h1) ?_
  rintro e w' ⟨v, rfl, o, hb⟩
  refine ⟨v, _, rfl, owns_len o, (of_wd x h0 h1).trimmed, Trimmed.trimmed _, ?_, hb⟩
  rw [val_trimmed, val_two]
  omega
theorem Ref1.slice {w w' : World} {t : Int} {x : Ending} (h : Ref1 w t x w') : ∃ a c zs, x = .returned (.slice a zs.length c) ∧ w'.ownsRow w.heap.size 66 1 (.slice a zs.length c) zs.length (zs.map (Value.int .u32)) ∧ Wd zs ∧ Trimmed zs ∧ val zs = t ∧ Below w.heap.size w w' := by
  obtain ⟨v, zs, rfl, o, h1, h2, h3, h4⟩ := h
  obtain ⟨a, c, hs⟩ := own_slice' o
  subst hs
  exact ⟨a, c, zs, rfl, o, h1, h2, h3, h4⟩

set_option maxHeartbeats 1600000 in
set_option maxRecDepth 100000 in
theorem refBelow_any (v u : Value) (rs ds : List Int) (x : Int) (w : World) (h : Sl w v rs) (g : Sl w u ds) (hn : rs.length ≤ 274877906944) (hm : ds.length ≤ 274877906944) (x0 : 0 ≤ x) (x1 : x ≤ 4294967295) :
    Calls Tryz.prog 90 #[v, u, .int .u64 x] w fun e w' => e = .returned (.bool (decide (val rs < val ds * x))) ∧ Below w.heap.size w w' := by
  have HO := hid (refOf_val x w x0 (by omega))
  have HX := hid h
  have HD := hid g
  have HN := hid (And.intro hn hm)
  have HX1 := hid x1
  clear h g hn hm x1
  go_enter Tryz.func90, Tryz.ntmps90
  go_wp2_with fail
  refine Calls.mono HO.out ?_
  intro e w1 h1
  obtain ⟨a1, c1, zs, rfl, o1, wz, tz, vz, hb1⟩ := h1.slice
  have lz : zs.length ≤ 1 := len_of_lt wz tz (by rw [vz]; have := HX1.out; omega)
  have HT := hid (refTimes_sl _ _ ds zs w1 (HD.out.later hb1) (Sl.own o1 wz) HN.out.2 (by omega))
  rw [vz] at HT
  have HB1 := hid hb1
  have lzd : zs.length + ds.length ≤ 274877906945 := by have := HN.out.2; omega
  clear h1 o1 wz tz vz hb1 HO
  go_wp2_with fail
  refine Calls.mono HT.out ?_
  intro e w2 h2
  obtain ⟨a2, c2, ps, rfl, o2, wp, tp, vp, hb2⟩ := h2.slice
  have HB2 := hid (bt HB1.out hb2)
  have lp : ps.length ≤ 281474976710656 := by
    have hl := val_lt HD.out.wd
    have e1 : val ps < 4294967296 ^ (ds.length + 1) := by
      rw [vp, pw_succ]
      have p := pw_pos ds.length
      have d0 := val_nonneg HD.out.wd
      have := HX1.out
      have a1 : val ds * x ≤ val ds * 4294967296 := Int.mul_le_mul_of_nonneg_left (by omega) d0
      have a2 : val ds * 4294967296 < 4294967296 ^ ds.length * 4294967296 := Int.mul_lt_mul_of_pos_right hl (by omega)
      omega
    have := len_of_lt wp tp e1
    have := HN.out
    omega
  have HC := hid (refCompare_sl _ _ rs ps w2 (HX.out.later HB2.out) (Sl.own o2 wp) (by have := HN.out; omega) lp)
  rw [vp] at HC
  clear h2 o2 wp tp vp hb2 HT lp HB1
  by_cases hlt : val rs < val ds * x
  · rw [cmpI_lt hlt] at HC
    have HE : Hid (decide (val rs < val ds * x) = true) := decide_eq_true hlt
    clear hlt
    go_wp2_with fail
    refine Calls.mono HC.out ?_
    rintro e w3 ⟨rfl, rfl⟩
    go_wp2_with fail
    go_ret
    exact ⟨ret_bool HE.out.symm, HB2.out⟩
  · have HE : Hid (decide (val rs < val ds * x) = false) := decide_eq_false hlt
    obtain ⟨c, hc, hc'⟩ : ∃ c, cmpI (val rs) (val ds * x) = c ∧ (c = 0 ∨ c = 1) := by
      by_cases e : val rs = val ds * x
      · exact ⟨0, cmpI_eq e, .inl rfl⟩
      · exact ⟨1, cmpI_gt (by omega), .inr rfl⟩
    rw [hc] at HC
    clear hlt hc
    rcases hc' with rfl | rfl
    · go_wp2_with fail
      refine Calls.mono HC.out ?_
      rintro e w3 ⟨rfl, rfl⟩
      go_wp2_with fail
      go_ret
      exact ⟨ret_bool HE.out.symm, HB2.out⟩
    · go_wp2_with fail
      refine Calls.mono HC.out ?_
      rintro e w3 ⟨rfl, rfl⟩
      go_wp2_with fail
      go_ret
      exact ⟨ret_bool HE.out.symm, HB2.out⟩

theorem valTo_mid (ys : List Int) (i l : Nat) : ∀ k, k ≤ l → valTo ((ys.drop i).take l) k = segTo ys i k
  | 0, _ => rfl
  | k + 1, h => by rw [valTo_succ, segTo_succ, valTo_mid ys i l k (by omega), List.getElem?_take, if_pos (by omega), List.getElem?_drop]
theorem val_mid (ys : List Int) (i l : Nat) (h : i + l ≤ ys.length) : val ((ys.drop i).take l) = segTo ys i l := by
  rw [← valTo_mid ys i l l (Nat.le_refl _), valTo_stable _ _ (by rw [List.length_take, List.length_drop]; omega)]
theorem OwnC.mid {w : World} {base g n cap : Nat} {ys : List Int} (h : OwnC w base g n cap ys) (hw : Wd ys) (i l c : Nat) (hil : i + l ≤ n) (hc : l ≤ c) (hcm : c ≤ maxLen) : Sl w (.slice (some ⟨g, i, none⟩) l c) ((ys.drop i).take l) := by
  have hl := h.len
  have hll : ((ys.drop i).take l).length = l := by rw [List.length_take, List.length_drop]; omega
  refine ⟨some ⟨g, i, none⟩, c, by rw [hll], ?_⟩
  rw [hll]
  refine ⟨hll, (hw.drop i).take l, .inr ⟨g, i, rfl, (World.ownsRow.lt h g rfl).2, fun j hj => ?_⟩, hc, hcm, fun e => by simp at e⟩
  rw [h.cell (i + j) (by omega), List.getElem?_take, if_pos hj, List.getElem?_drop]

set_option maxHeartbeats 3200000 in
set_option maxRecDepth 100000 in
theorem refOff_any (base g n cap i l c : Nat) (ys : List Int) (u : Value) (ds : List Int) (x : Int) (w : World) (ho : OwnC w base g n cap ys) (hwy : Wd ys) (hil : i + l ≤ n) (hc : l ≤ c) (hcm : c ≤ maxLen) (hn : n ≤ 137438953472) (hd : Sl w u ds) (hm : ds.length ≤ 137438953472) (x0 : 0 ≤ x) (x1 : x ≤ 4294967295) (hle : val ds * x ≤ segTo ys i l) :
    Calls Tryz.prog 91 #[.slice (some ⟨g, i, none⟩) l c, u, .int .u64 x] w fun e w' => ∃ us, e = .returned (.tuple #[]) ∧ OwnC w' base g n cap us ∧ Wd us ∧ (∀ j, j < i ∨ i + l ≤ j → us[j]?.getD 0 = ys[j]?.getD 0) ∧ segTo us i l = segTo ys i l - val ds * x ∧ w.grownBy w' (some g) := by
  have hgw := (World.ownsRow.lt ho g rfl).2
  have hly := ho.len
  have hll : ((ys.drop i).take l).length = l := by rw [List.length_take, List.length_drop]; omega
  have hvm := val_mid ys i l (by omega)
  have HSR := hid (ho.mid hwy i l c hil hc hcm)
  have HO := hid (refOf_val x w x0 (by omega))
  have HD := hid hd
  have HOY := hid ho
  have HX1 := hid x1
  have HLE := hid hle
  have HVM := hid hvm
  have HLL := hid hll
  clear hd x1 hle ho hvm hll
  go_enter Tryz.func91, Tryz.ntmps91
  go_wp2_with fail
  refine Calls.mono HO.out ?_
  intro e w1 h1
  obtain ⟨a1, c1, zs, rfl, o1, wz, tz, vz, hb1⟩ := h1.slice
  have lz : zs.length ≤ 1 := len_of_lt wz tz (by rw [vz]; have := HX1.out; omega)
  have HT := hid (refTimes_sl _ _ ds zs w1 (HD.out.later hb1) (Sl.own o1 wz) (by omega) (by omega))
  rw [vz] at HT
  have HB1 := hid hb1
  clear h1 o1 wz tz vz hb1 HO lz
  go_wp2_with fail
  refine Calls.mono HT.out ?_
  intro e w2 h2
  obtain ⟨a2, c2, ps, rfl, o2, wp, tp, vp, hb2⟩ := h2.slice
  have HB2 := hid (bt HB1.out hb2)
  have lp : ps.length ≤ 549755813888 := by
    have e1 : val ps < 4294967296 ^ l := by rw [vp]; have := HLE.out; have := (segTo_bounds hwy i l).2; omega
    have := len_of_lt wp tp e1
    omega
  have HF := hid (refLess_sl _ _ ((ys.drop i).take l) ps w2 (HSR.out.later HB2.out) (Sl.own o2 wp) (by rw [HLL.out]; omega) lp (by rw [vp, HVM.out]; exact HLE.out))
  rw [vp, HVM.out] at HF
  clear h2 o2 wp tp vp hb2 HT lp HB1
  go_wp2_with fail
  refine Calls.mono HF.out ?_
  intro e w3 h3
  obtain ⟨a3, c3, qs, rfl, o3, wq, tq, vq, hb3⟩ := h3.slice
  have HB3 := hid (bt HB2.out hb3)
  have lq : qs.length ≤ l := len_of_lt wq tq (by
    rw [vq]
    have h5 := (segTo_bounds hwy i l).2
    have h6 : 0 ≤ val ds * x := Int.mul_nonneg (val_nonneg HD.out.wd) x0
    omega)
  have HQ := hid o3
  have HVQ := hid vq
  have HNE : Hid ((Value.slice a3 qs.length c3).ownBlock = none ∨ (Value.slice a3 qs.length c3).ownBlock ≠ some g) := by
    cases hv : (Value.slice a3 qs.length c3).ownBlock with
    | none => exact .inl rfl
    | some k =>
      right
      intro e
      have e1 := (World.ownsRow.lt o3 k hv).1
      have e2 := HB2.out.size
      have e3 := Option.some.inj e
      omega
  have HOW : Hid (OwnC w3 base g n cap ys) := owns_later HOY.out HB3.out
  have HG3 := hid (grown_of_below HB3.out (some g))
  clear h3 o3 vq hb3 HF HB2 HB3 HOY HSR
  go_wp2_with fail
  go_loopw [7] (fun t wr => ∃ (k : Nat) (us : List Int), k ≤ l ∧ t = .int .i64 k ∧ Wd us ∧ Hid (∀ j, j < i ∨ i + k ≤ j → us[j]?.getD 0 = ys[j]?.getD 0) ∧ Hid (∀ j, j < k → us[i + j]?.getD 0 = qs[j]?.getD 0) ∧ OwnC wr base g n cap us ∧ w3.grownBy wr (some g)) (fun t _ => l - (intOf t).toNat)
  case atStart => exact ⟨0, ys, by omega, rfl, hwy, fun _ _ => rfl, fun j hj => by omega, HOW.out, World.grownBy.refl _ _⟩
  case round =>
    obtain ⟨k, us, hk, rfl, hwu, HK, HQK, hou, hg⟩ := hrel
    by_cases hlt : k < l
    · have y1 := hou.cell (i + k) (by omega)
      have f1 := hou.free (i + k)
      have hlu := hou.len
      have hsq := Sl.own (World.ownsRow.kept HQ.out hg HNE.out) wq
      obtain ⟨aq, cq, hv, hrq⟩ := hsq
      simp only [Value.slice.injEq, true_and] at hv
      obtain ⟨rfl, rfl⟩ := hv
      have HW := hid (word_any _ _ _ qs _ (k : Int) wr hrq (by omega) (by omega))
      rw [Int.toNat_natCast] at HW
      have bq := wq.at k
      have HKN : Hid (∀ j, j < i ∨ i + (k + 1) ≤ j → (us.set (i + k) (qs[k]?.getD 0))[j]?.getD 0 = ys[j]?.getD 0) := fun j hj => by
        rw [List.getElem?_set, if_neg (by omega)]
        exact HK.out j (by omega)
      have HQN : Hid (∀ j, j < k + 1 → (us.set (i + k) (qs[k]?.getD 0))[i + j]?.getD 0 = qs[j]?.getD 0) := fun j hj => by
        rw [List.getElem?_set]
        by_cases e : k = j
        · subst e; rw [if_pos rfl, if_pos (by omega)]; rfl
        · rw [if_neg (by omega)]; exact HQK.out j (by omega)
      have HO' := hid (hou.set (i + k) (qs[k]?.getD 0)).1
      have HG' := hid (grown_trans hg (hou.set (i + k) (qs[k]?.getD 0)).2)
      have hw' := hwu.set (i + k) bq
      have HW' := hid hw'
      obtain ⟨q, hq⟩ : ∃ q, qs[k]?.getD 0 = q := ⟨_, rfl⟩
      rw [hq] at HW HKN HQN HO' HG' HW' bq
      clear hlu hou hg HK HQK hq hrq hw'
      go_wp2_with fail
      refine Calls.mono HW.out ?_
      rintro e w' ⟨rfl, rfl⟩
      go_wp2_with fail
      go_roundw
      case rel => exact ⟨k + 1, us.set (i + k) q, by omega, by go_num, HW'.out, HKN, HQN, HO'.out, HG'.out⟩
      case measure => simp [intOf]; omega
    · obtain rfl : k = l := by omega
      have HS : Hid (segTo us i k = segTo ys i k - val ds * x) := by
        show _ = _
        rw [← HVQ.out, ← valTo_stable qs k lq, ← segTo_zero]
        have e : ∀ j, j ≤ k → segTo us i j = segTo qs 0 j := fun j hj => by
          induction j with
          | zero => rfl
          | succ j ih => rw [segTo_succ, segTo_succ, ih (by omega), HQK.out j (by omega), Nat.zero_add]
        exact e k (Nat.le_refl _)
      clear HQK
      go_wp2_with fail
      go_end0
      exact ⟨us, rfl, hou, hwu, HK.out, HS.out, grown_trans HG3.out hg⟩
end Go.Proofs.YtcfcjnlobpoglaaGreat

/- The document's own whole numbers: slackwaterref02.Check, Product. -/
namespace Go.Proofs.YtcfcjnlobpoglaaGreat
open Go.RowKit
set_option linter.unusedVariables false

/-- A whole number in its one form, of any length, in new memory. -/
def WNum (w : World) (t : Int) (x : Ending) (w' : World) : Prop := ∃ n v zs, x = .returned (.agg #[.bool n, v]) ∧ w'.ownsRow w.heap.size 66 1 v zs.length (zs.map (Value.int .u32)) ∧ Wd zs ∧ Trimmed zs ∧ (n = false ∨ 0 < zs.length) ∧ wval n zs = t ∧ Below w.heap.size w w'
theorem made_num (n : Bool) (v : Value) (xs : List Int) (w : World) (h : Sl w v xs) (hn : xs.length ≤ 549755813888) : Calls Tryz.prog 58 #[.bool n, v] w (WNum w (wval n xs)) := by
  refine Calls.mono (made_any n v xs w h hn) ?_
  rintro e w' ⟨v', rfl, o, hb⟩
  refine ⟨_, v', trimmed xs, rfl, owns_len o, h.wd.trimmed, Trimmed.trimmed _, ?_, ?_, hb⟩
  · rw [length_trimmed]
    by_cases c : 0 < sz xs
    · exact .inr c
    · left; simp [c]
  · by_cases c : 0 < sz xs
    · simp only [wval, val_trimmed, c, decide_true, Bool.and_true]
    · have e0 : val (trimmed xs) = 0 := trimmed_zero' (by rw [length_trimmed]; omega)
      have e1 : val xs = 0 := by rw [← val_trimmed]; exact e0
      simp only [wval, e0, e1]
      cases n <;> simp

set_option maxHeartbeats 6400000 in
set_option maxRecDepth 100000 in
theorem refProduct_any (n : Bool) (a : Option Addr) (ca : Nat) (xs : List Int) (m : Bool) (b : Option Addr) (cb : Nat) (ys : List Int) (w : World) (h : Sl w (.slice a xs.length ca) xs) (g : Sl w (.slice b ys.length cb) ys) (lx : xs.length ≤ 100000) (ly : ys.length ≤ 100000) :
    Calls Tryz.prog 32 #[.agg #[.bool n, .slice a xs.length ca], .agg #[.bool m, .slice b ys.length cb]] w (WNum w (wval n xs * wval m ys)) := by
  have wx := h.wd
  have wy := g.wd
  have HB : Hid (Below w.heap.size w (((w.alloc (.cells #[.bool n, .slice a xs.length ca] 59)).alloc (.cells #[.bool m, .slice b ys.length cb] 59)).alloc (.cells #[.bool false, .slice none 0 0] 59))) := bt (bt (alloc_later _ _) (alloc_later _ _)) (alloc_later _ _)
  have HZ : Hid (Box (((w.alloc (.cells #[.bool n, .slice a xs.length ca] 59)).alloc (.cells #[.bool m, .slice b ys.length cb] 59)).alloc (.cells #[.bool false, .slice none 0 0] 59)) (w.heap.size + 1 + 1) 59 #[.bool false, .slice none 0 0]) := by
    have e := Box.made ((w.alloc (.cells #[.bool n, .slice a xs.length ca] 59)).alloc (.cells #[.bool m, .slice b ys.length cb] 59)) 59 #[.bool false, .slice none 0 0]
    simp at e
    exact e
  have HN : Hid (Box (((w.alloc (.cells #[.bool n, .slice a xs.length ca] 59)).alloc (.cells #[.bool m, .slice b ys.length cb] 59)).alloc (.cells #[.bool false, .slice none 0 0] 59)) w.heap.size 59 #[.bool n, .slice a xs.length ca]) := Box.later (Box.made w _ _) (bt (alloc_later _ _) (alloc_later _ _)) (by simp)
  have HM : Hid (Box (((w.alloc (.cells #[.bool n, .slice a xs.length ca] 59)).alloc (.cells #[.bool m, .slice b ys.length cb] 59)).alloc (.cells #[.bool false, .slice none 0 0] 59)) (w.heap.size + 1) 59 #[.bool m, .slice b ys.length cb]) := by
    have e := Box.later (Box.made (w.alloc (.cells #[.bool n, .slice a xs.length ca] 59)) 59 #[.bool m, .slice b ys.length cb]) (alloc_later ((w.alloc (.cells #[.bool n, .slice a xs.length ca] 59)).alloc (.cells #[.bool m, .slice b ys.length cb] 59)) (.cells #[.bool false, .slice none 0 0] 59)) (by simp)
    simp at e
    exact e
  have HS := hid (And.intro (h.later HB.out) (g.later HB.out))
  have HL := hid (And.intro lx ly)
  have HWW := hid (And.intro wx wy)
  have HE : Hid (sg (n != m) (val xs * val ys) = wval n xs * wval m ys) := mul_sign n m _ _
  clear h g wx wy lx ly
  go_enter Tryz.func32, Tryz.ntmps32
  go_wp2_with fail
  generalize (((w.alloc (.cells #[.bool n, .slice a xs.length ca] 59)).alloc (.cells #[.bool m, .slice b ys.length cb] 59)).alloc (.cells #[.bool false, .slice none 0 0] 59)) = X at *
  have HK : Hid (∀ V, Below X.heap.size X V → V.cell? ⟨w.heap.size, 0, none⟩ = some (.bool n) ∧ V.cell? ⟨w.heap.size, 1, none⟩ = some (.slice a xs.length ca) ∧ V.cell? ⟨w.heap.size + 1, 0, none⟩ = some (.bool m) ∧ V.cell? ⟨w.heap.size + 1, 1, none⟩ = some (.slice b ys.length cb)) := fun V hb => by
    obtain ⟨p0, p1, _, _⟩ := (HN.out.later hb HN.out.lt).c2
    obtain ⟨q0, q1, _, _⟩ := (HM.out.later hb HM.out.lt).c2
    exact ⟨p0, p1, q0, q1⟩
  have hs0 := HK.out _ (Below.drew (Below.refl _ X))
  have HT : Hid (Calls Tryz.prog 62 #[.slice a xs.length ca, .slice b ys.length cb] X.drew fun e w1 => ∃ a1 c1 z1, e = .returned (.slice a1 z1.length c1) ∧ Hid (Sl w1 (.slice a1 z1.length c1) z1 ∧ val z1 = val xs * val ys ∧ z1.length ≤ 549755813888 ∧ Below X.heap.size X w1) ∧ w1.cell? ⟨w.heap.size, 0, none⟩ = some (.bool n) ∧ w1.cell? ⟨w.heap.size, 1, none⟩ = some (.slice a xs.length ca) ∧ w1.cell? ⟨w.heap.size + 1, 0, none⟩ = some (.bool m) ∧ w1.cell? ⟨w.heap.size + 1, 1, none⟩ = some (.slice b ys.length cb)) := by
    refine Calls.mono (refTimes_sl _ _ xs ys _ (HS.out.1.later (Below.drew (Below.refl _ X))) (HS.out.2.later (Below.drew (Below.refl _ X))) (by have := HL.out; omega) (by have := HL.out; omega)) ?_
    intro e w1 h1
    obtain ⟨a1, c1, z1, rfl, o1, wz, tz, vz, hb1⟩ := h1.slice
    have hbX : Below X.heap.size X w1 := bt (Below.drew (Below.refl _ X)) hb1
    refine ⟨a1, c1, z1, rfl, ⟨Sl.own o1 wz, vz, ?_, hbX⟩, HK.out w1 hbX⟩
    have h5 : val z1 < 4294967296 ^ (xs.length + ys.length) := by
      rw [vz, Int.pow_add]
      have p1 := val_lt HWW.out.1
      have p2 := val_lt HWW.out.2
      have p3 := val_nonneg HWW.out.1
      have p4 := val_nonneg HWW.out.2
      have p5 := pw_pos xs.length
      have e1 : val xs * val ys ≤ val xs * 4294967296 ^ ys.length := Int.mul_le_mul_of_nonneg_left (by omega) p3
      have e2 : val xs * 4294967296 ^ ys.length < 4294967296 ^ xs.length * 4294967296 ^ ys.length := Int.mul_lt_mul_of_pos_right p1 (pw_pos _)
      omega
    have := len_of_lt wz tz h5
    have := HL.out
    omega
  have HMD : Hid (∀ w1 a1 c1 z1, Sl w1 (.slice a1 (List.length z1) c1) z1 → val z1 = val xs * val ys → z1.length ≤ 549755813888 → Below X.heap.size X w1 → Calls Tryz.prog 58 #[.bool (!(n == m)), .slice a1 (List.length z1) c1] w1 fun e w2 => ∃ k a2 c2 z2, e = .returned (.agg #[.bool k, .slice a2 (List.length z2) c2]) ∧ Hid (w2.ownsRow X.heap.size 66 1 (.slice a2 z2.length c2) z2.length (z2.map (Value.int .u32)) ∧ Wd z2 ∧ Trimmed z2 ∧ (k = false ∨ 0 < z2.length) ∧ wval k z2 = wval n xs * wval m ys ∧ Below X.heap.size X w2) ∧ (w2.cell? ⟨w.heap.size, 0, none⟩ = some (.bool n) ∧ w2.cell? ⟨w.heap.size, 1, none⟩ = some (.slice a xs.length ca) ∧ w2.cell? ⟨w.heap.size + 1, 0, none⟩ = some (.bool m) ∧ w2.cell? ⟨w.heap.size + 1, 1, none⟩ = some (.slice b ys.length cb)) ∧ w2.cell? ⟨w.heap.size + 1 + 1, 0, none⟩ = some (.bool false) ∧ w2.cell? ⟨w.heap.size + 1 + 1, 1, none⟩ = some (.slice none 0 0) ∧ w2.frozen? ⟨w.heap.size + 1 + 1, 0, none⟩ = false ∧ w2.frozen? ⟨w.heap.size + 1 + 1, 1, none⟩ = false) := fun w1 a1 c1 z1 s1 v1 l1 hb1 => by
    refine Calls.mono (made_num (!(n == m)) _ z1 w1 s1 l1) ?_
    rintro e w2 ⟨k, v2, z2, rfl, o2, wz, tz, sz2, vz, hb2⟩
    obtain ⟨a2, c2, hs⟩ := own_slice' o2
    subst hs
    refine ⟨k, a2, c2, z2, rfl, ⟨owns_base o2 hb1.size, wz, tz, sz2, ?_, bt hb1 hb2⟩, HK.out w2 (bt hb1 hb2), (HZ.out.later (bt hb1 hb2) HZ.out.lt).c2⟩
    rw [vz, ← HE.out, ← v1]
    rfl
  have hq0 : w.heap.size + 1 + 1 ≠ w.heap.size := by omega
  clear HS HL HWW HE
  go_region_held3 (fun V : World => V.cell? ⟨w.heap.size, 0, none⟩ = some (.bool n) ∧ V.cell? ⟨w.heap.size, 1, none⟩ = some (.slice a xs.length ca) ∧ V.cell? ⟨w.heap.size + 1, 0, none⟩ = some (.bool m) ∧ V.cell? ⟨w.heap.size + 1, 1, none⟩ = some (.slice b ys.length cb)) (first | exact hs2 | exact hs1 | exact hs0 | (simp [hs2, World.cell?_setCell_far, hq0]))
    (first
      | (go_at_call 58; with_reducible refine Calls.mono (HMD.out _ _ _ _ HE1.out.1 HE1.out.2.1 HE1.out.2.2.1 HE1.out.2.2.2) ?_; rintro e w2 ⟨k2, a2, c2, z2, rfl, HE2, hs2, r0, r1, f0, f1⟩)
      | (go_at_call 62; with_reducible refine Calls.mono HT.out ?_; rintro e w1 ⟨a1, c1, z1, rfl, HE1, hs1⟩))
  all_goals
    have HZ2 := hid (HZ.out.later HE2.out.2.2.2.2.2 HZ.out.lt)
    have HO := hid (own_put2 (owns_base HE2.out.1 HB.out.size) (w.heap.size + 1 + 1) (own_ne_box HE2.out.1 HZ2.out (by decide)) (.bool k2) (.slice a2 z2.length c2))
    have HBN := hid (below_put2 (bt HB.out HE2.out.2.2.2.2.2) (w.heap.size + 1 + 1) (by omega) (.bool k2) (.slice a2 z2.length c2))
    have HR := hid (And.intro HE2.out.2.1 (And.intro HE2.out.2.2.1 (And.intro HE2.out.2.2.2.1 HE2.out.2.2.2.2.1)))
    clear HK HT HMD HE1 HE2 HZ HN HM HB hs0 hs1 hs2
    go_wp2_with fail
    refine bodyPost_ret (v := .agg #[.bool k2, .slice a2 z2.length c2]) (by simp [results, Tryz.results32, go_sem, r0, r1]) rfl ?_
    exact ⟨k2, _, z2, rfl, HO.out, HR.out.1, HR.out.2.1, HR.out.2.2.1, HR.out.2.2.2, HBN.out⟩
end Go.Proofs.YtcfcjnlobpoglaaGreat

/- Whole numbers: the errors of the program's calls, Neg, Sign; the document's told, both, Opposite, Neg, Abs, and the errors of its Add, Sub, Mul, Gcd. -/
namespace Go.Proofs.YtcfcjnlobpoglaaGreat
open Go.RowKit
set_option linter.unusedVariables false

set_option maxHeartbeats 3200000 in
set_option maxRecDepth 100000 in
theorem refOpposite_any (n : Bool) (v : Value) (xs : List Int) (w : World) (h : Sl w v xs) (hn : xs.length ≤ 549755813888) :
    Calls Tryz.prog 30 #[.agg #[.bool n, v]] w (WNum w (-(wval n xs))) := by
  obtain ⟨a, cap, rfl, hr⟩ := h
  have h : Sl w (.slice a xs.length cap) xs := ⟨a, cap, rfl, hr⟩
  clear hr
  have HB : Hid (Below w.heap.size w ((w.alloc (.cells #[.bool n, .slice a xs.length cap] 59)).alloc (.cells #[.bool false, .slice none 0 0] 59))) := bt (alloc_later _ _) (alloc_later _ _)
  have HXB : Hid (Box ((w.alloc (.cells #[.bool n, .slice a xs.length cap] 59)).alloc (.cells #[.bool false, .slice none 0 0] 59)) (w.heap.size + 1) 59 #[.bool false, .slice none 0 0]) := by
    have e := Box.made (w.alloc (.cells #[.bool n, .slice a xs.length cap] 59)) 59 #[.bool false, .slice none 0 0]
    simp at e
    exact e
  have HMD := hid (made_num (!n) _ xs ((w.alloc (.cells #[.bool n, .slice a xs.length cap] 59)).alloc (.cells #[.bool false, .slice none 0 0] 59)) (h.later HB.out) (by omega))
  have HV : Hid (wval (!n) xs = -(wval n xs)) := by show _ = _; cases n <;> simp [wval]
  clear h
  go_enter Tryz.func30, Tryz.ntmps30
  go_wp2_with fail
  refine Calls.mono HMD.out ?_
  generalize ((w.alloc (.cells #[.bool n, .slice a xs.length cap] 59)).alloc (.cells #[.bool false, .slice none 0 0] 59)) = X at *
  rintro e w2 ⟨k2, v2, z2, rfl, o2, wz2, tz2, s2, vz2, hb2⟩
  obtain ⟨a2, c2, hs2⟩ := own_slice' o2
  subst hs2
  have HX2 := hid (HXB.out.later hb2 HXB.out.lt)
  obtain ⟨r0, r1, f0, f1⟩ := HX2.out.c2
  have HO := hid (own_put2 (owns_base o2 HB.out.size) (w.heap.size + 1) (own_ne_box o2 HX2.out (by decide)) (.bool k2) (.slice a2 z2.length c2))
  have HBN := hid (below_put2 (bt HB.out hb2) (w.heap.size + 1) (by omega) (.bool k2) (.slice a2 z2.length c2))
  have HR := hid (And.intro wz2 (And.intro tz2 (And.intro s2 (vz2.trans HV.out))))
  clear o2 wz2 tz2 s2 vz2 hb2 HMD
  go_wp2_with fail
  refine bodyPost_ret (v := .agg #[.bool k2, .slice a2 z2.length c2]) (by simp [results, Tryz.results30, go_sem, r0, r1]) rfl ?_
  exact ⟨k2, _, z2, rfl, HO.out, HR.out.1, HR.out.2.1, HR.out.2.2.1, HR.out.2.2.2, HBN.out⟩

end Go.Proofs.YtcfcjnlobpoglaaGreat

/- The document's own whole numbers: Plus, Less: of any length. -/
namespace Go.Proofs.YtcfcjnlobpoglaaGreat
open Go.RowKit
set_option linter.unusedVariables false

theorem ref_len {z : List Int} {L : Nat} (wz : Wd z) (tz : Trimmed z) (h : val z < 4294967296 ^ L) (hL : L ≤ 549755813888) : z.length ≤ 549755813888 := Nat.le_trans (len_of_lt wz tz h) hL
theorem pw_both {x y : Int} {j k : Nat} (hx : x < 4294967296 ^ j) (hy : y < 4294967296 ^ k) (x0 : 0 ≤ x) (y0 : 0 ≤ y) : x + y < 4294967296 ^ (j + k + 1) := by
  have h1 : (4294967296 : Int) ^ j ≤ 4294967296 ^ (j + k) := pw_le (by omega)
  have h2 : (4294967296 : Int) ^ k ≤ 4294967296 ^ (j + k) := pw_le (by omega)
  rw [Int.pow_succ]
  have h3 := pw_pos (j + k)
  generalize (4294967296 : Int) ^ (j + k) = Y at *
  omega

set_option maxHeartbeats 12800000 in
set_option maxRecDepth 100000 in
theorem refWPlus_any (n : Bool) (a : Option Addr) (ca : Nat) (xs : List Int) (m : Bool) (b : Option Addr) (cb : Nat) (ys : List Int) (w : World) (h : Sl w (.slice a xs.length ca) xs) (g : Sl w (.slice b ys.length cb) ys) (lx : xs.length ≤ 1000000) (ly : ys.length ≤ 1000000) :
    Calls Tryz.prog 31 #[.agg #[.bool n, .slice a xs.length ca], .agg #[.bool m, .slice b ys.length cb]] w (WNum w (wval n xs + wval m ys)) := by
  have x1 := val_lt h.wd
  have y1 := val_lt g.wd
  have x0 := val_nonneg h.wd
  have y0 := val_nonneg g.wd
  have HB : Hid (Below w.heap.size w (((w.alloc (.cells #[.bool n, .slice a xs.length ca] 59)).alloc (.cells #[.bool m, .slice b ys.length cb] 59)).alloc (.cells #[.bool false, .slice none 0 0] 59))) := bt (bt (alloc_later _ _) (alloc_later _ _)) (alloc_later _ _)
  have HZ : Hid (Box (((w.alloc (.cells #[.bool n, .slice a xs.length ca] 59)).alloc (.cells #[.bool m, .slice b ys.length cb] 59)).alloc (.cells #[.bool false, .slice none 0 0] 59)) (w.heap.size + 1 + 1) 59 #[.bool false, .slice none 0 0]) := by
    have e := Box.made ((w.alloc (.cells #[.bool n, .slice a xs.length ca] 59)).alloc (.cells #[.bool m, .slice b ys.length cb] 59)) 59 #[.bool false, .slice none 0 0]
    simp at e
    exact e
  have HN : Hid (Box (((w.alloc (.cells #[.bool n, .slice a xs.length ca] 59)).alloc (.cells #[.bool m, .slice b ys.length cb] 59)).alloc (.cells #[.bool false, .slice none 0 0] 59)) w.heap.size 59 #[.bool n, .slice a xs.length ca]) := Box.later (Box.later (Box.made w _ _) (alloc_later _ _) (by simp)) (alloc_later _ _) (by simp; omega)
  have HM : Hid (Box (((w.alloc (.cells #[.bool n, .slice a xs.length ca] 59)).alloc (.cells #[.bool m, .slice b ys.length cb] 59)).alloc (.cells #[.bool false, .slice none 0 0] 59)) (w.heap.size + 1) 59 #[.bool m, .slice b ys.length cb]) := by
    have e := Box.later (Box.made (w.alloc (.cells #[.bool n, .slice a xs.length ca] 59)) 59 #[.bool m, .slice b ys.length cb]) (alloc_later ((w.alloc (.cells #[.bool n, .slice a xs.length ca] 59)).alloc (.cells #[.bool m, .slice b ys.length cb] 59)) (.cells #[.bool false, .slice none 0 0] 59)) (by simp)
    simp at e
    exact e
  have HS := hid (And.intro (h.later HB.out) (g.later HB.out))
  have HL := hid (And.intro lx ly)
  clear h g
  by_cases hnm : n = m
  · subst hnm
    have HE : Hid (∀ z1, val z1 = val xs + val ys → wval n z1 = wval n xs + wval n ys) := fun z1 e => by
      cases n <;> simp [wval] <;> omega
    have HLZ : Hid (∀ z1, Wd z1 → Trimmed z1 → val z1 = val xs + val ys → z1.length ≤ 549755813888) := fun z1 wz tz vz => ref_len wz tz (by rw [vz]; exact pw_both x1 y1 x0 y0) (by omega)
    clear x0 x1 y0 y1 lx ly
    go_enter Tryz.func31, Tryz.ntmps31
    go_wp2_with fail
    generalize (((w.alloc (.cells #[.bool n, .slice a xs.length ca] 59)).alloc (.cells #[.bool n, .slice b ys.length cb] 59)).alloc (.cells #[.bool false, .slice none 0 0] 59)) = X at *
    have HK : Hid (∀ V, Below X.heap.size X V → V.cell? ⟨w.heap.size, 0, none⟩ = some (.bool n) ∧ V.cell? ⟨w.heap.size, 1, none⟩ = some (.slice a xs.length ca) ∧ V.cell? ⟨w.heap.size + 1, 0, none⟩ = some (.bool n) ∧ V.cell? ⟨w.heap.size + 1, 1, none⟩ = some (.slice b ys.length cb)) := fun V hb => by
      obtain ⟨p0, p1, _, _⟩ := (HN.out.later hb HN.out.lt).c2
      obtain ⟨q0, q1, _, _⟩ := (HM.out.later hb HM.out.lt).c2
      exact ⟨p0, p1, q0, q1⟩
    have hs0 := HK.out _ (Below.drew (Below.refl _ X))
    have HT : Hid (Calls Tryz.prog 59 #[.slice a xs.length ca, .slice b ys.length cb] X.drew fun e w1 => ∃ a1 c1 z1, e = .returned (.slice a1 (List.length z1) c1) ∧ Hid (Sl w1 (.slice a1 z1.length c1) z1 ∧ val z1 = val xs + val ys ∧ z1.length ≤ 549755813888 ∧ Below X.heap.size X w1) ∧ w1.cell? ⟨w.heap.size, 0, none⟩ = some (.bool n) ∧ w1.cell? ⟨w.heap.size, 1, none⟩ = some (.slice a xs.length ca) ∧ w1.cell? ⟨w.heap.size + 1, 0, none⟩ = some (.bool n) ∧ w1.cell? ⟨w.heap.size + 1, 1, none⟩ = some (.slice b ys.length cb)) := by
      have hbd : Below X.heap.size X X.drew := Below.drew (Below.refl _ X)
      refine Calls.mono (refPlus_sl _ _ xs ys _ (HS.out.1.later hbd) (HS.out.2.later hbd) (by have := HL.out; omega) (by have := HL.out; omega)) ?_
      intro e w1 h1
      obtain ⟨a1, c1, z1, rfl, o1, wz, tz, vz, hb1⟩ := h1.slice
      have hbX : Below X.heap.size X w1 := bt hbd hb1
      exact ⟨a1, c1, z1, rfl, ⟨Sl.own o1 wz, vz, HLZ.out z1 wz tz vz, hbX⟩, HK.out w1 hbX⟩
    have HMD : Hid (∀ w1 a1 c1 z1, Sl w1 (.slice a1 (List.length z1) c1) z1 → val z1 = val xs + val ys → z1.length ≤ 549755813888 → Below X.heap.size X w1 → Calls Tryz.prog 58 #[.bool n, .slice a1 z1.length c1] w1 fun e w2 => ∃ k2 a2 c2 z2, e = .returned (.agg #[.bool k2, .slice a2 (List.length z2) c2]) ∧ Hid (w2.ownsRow X.heap.size 66 1 (.slice a2 z2.length c2) z2.length (z2.map (Value.int .u32)) ∧ Wd z2 ∧ Trimmed z2 ∧ (k2 = false ∨ 0 < z2.length) ∧ wval k2 z2 = wval n xs + wval n ys ∧ Below X.heap.size X w2) ∧ (w2.cell? ⟨w.heap.size, 0, none⟩ = some (.bool n) ∧ w2.cell? ⟨w.heap.size, 1, none⟩ = some (.slice a xs.length ca) ∧ w2.cell? ⟨w.heap.size + 1, 0, none⟩ = some (.bool n) ∧ w2.cell? ⟨w.heap.size + 1, 1, none⟩ = some (.slice b ys.length cb)) ∧ w2.cell? ⟨w.heap.size + 1 + 1, 0, none⟩ = some (.bool false) ∧ w2.cell? ⟨w.heap.size + 1 + 1, 1, none⟩ = some (.slice none 0 0) ∧ w2.frozen? ⟨w.heap.size + 1 + 1, 0, none⟩ = false ∧ w2.frozen? ⟨w.heap.size + 1 + 1, 1, none⟩ = false) := fun w1 a1 c1 z1 s1 v1 l1 hb1 => by
      refine Calls.mono (made_num n _ z1 w1 s1 l1) ?_
      rintro e w2 ⟨k, v2, z2, rfl, o2, wz, tz, sz2, vz, hb2⟩
      obtain ⟨a2, c2, hs⟩ := own_slice' o2
      subst hs
      refine ⟨k, a2, c2, z2, rfl, ⟨owns_base o2 hb1.size, wz, tz, sz2, ?_, bt hb1 hb2⟩, HK.out w2 (bt hb1 hb2), (HZ.out.later (bt hb1 hb2) HZ.out.lt).c2⟩
      rw [vz]
      exact HE.out z1 v1
    have hq0 : w.heap.size + 1 + 1 ≠ w.heap.size := by omega
    clear HS HE HLZ HL
    go_region_held3 (fun V : World => V.cell? ⟨w.heap.size, 0, none⟩ = some (.bool n) ∧ V.cell? ⟨w.heap.size, 1, none⟩ = some (.slice a xs.length ca) ∧ V.cell? ⟨w.heap.size + 1, 0, none⟩ = some (.bool n) ∧ V.cell? ⟨w.heap.size + 1, 1, none⟩ = some (.slice b ys.length cb)) (first | exact hs2 | exact hs1 | exact hs0 | (simp [hs2, World.cell?_setCell_far, hq0]))
      (first
        | (go_at_call 58; with_reducible refine Calls.mono (HMD.out _ _ _ _ HE1.out.1 HE1.out.2.1 HE1.out.2.2.1 HE1.out.2.2.2) ?_; rintro e w2 ⟨k2, a2, c2, z2, rfl, HE2, hs2, r0, r1, f0, f1⟩)
        | (go_at_call 59; with_reducible refine Calls.mono HT.out ?_; rintro e w1 ⟨a1, c1, z1, rfl, HE1, hs1⟩))
    all_goals
      have HZ2 := hid (HZ.out.later HE2.out.2.2.2.2.2 HZ.out.lt)
      have HO := hid (own_put2 (owns_base HE2.out.1 HB.out.size) (w.heap.size + 1 + 1) (own_ne_box HE2.out.1 HZ2.out (by decide)) (.bool k2) (.slice a2 z2.length c2))
      have HBN := hid (below_put2 (bt HB.out HE2.out.2.2.2.2.2) (w.heap.size + 1 + 1) (by omega) (.bool k2) (.slice a2 z2.length c2))
      have HR := hid (And.intro HE2.out.2.1 (And.intro HE2.out.2.2.1 (And.intro HE2.out.2.2.2.1 HE2.out.2.2.2.2.1)))
      clear HK HT HMD HE1 HE2 HZ HN HM HB hs0 hs1 hs2
      go_wp2_with fail
      refine bodyPost_ret (v := .agg #[.bool k2, .slice a2 z2.length c2]) (by simp [results, Tryz.results31, go_sem, r0, r1]) rfl ?_
      exact ⟨k2, _, z2, rfl, HO.out, HR.out.1, HR.out.2.1, HR.out.2.2.1, HR.out.2.2.2, HBN.out⟩
  · have hnb : (n == m) = false := by cases n <;> cases m <;> simp at hnm ⊢
    have HC := hid (refCompare_sl _ _ xs ys (((w.alloc (.cells #[.bool n, .slice a xs.length ca] 59)).alloc (.cells #[.bool m, .slice b ys.length cb] 59)).alloc (.cells #[.bool false, .slice none 0 0] 59)) HS.out.1 HS.out.2 (by omega) (by omega))
    by_cases hlt : val xs < val ys
    · rw [cmpI_lt hlt] at HC
      have HE : Hid (∀ z1, val z1 = val ys - val xs → wval m z1 = wval n xs + wval m ys) := fun z1 e => by
        cases n <;> cases m <;> simp at hnm <;> simp [wval] <;> omega
      have HLZ : Hid (∀ z1, Wd z1 → Trimmed z1 → val z1 = val ys - val xs → z1.length ≤ 549755813888) := fun z1 wz tz vz => ref_len (L := ys.length) wz tz (by rw [vz]; generalize (4294967296 : Int) ^ ys.length = Y at *; omega) (by omega)
      have HLT : Hid (val xs ≤ val ys) := Int.le_of_lt hlt
      clear x0 x1 y0 y1 lx ly hlt hnm
      go_enter Tryz.func31, Tryz.ntmps31
      go_wp2_with fail
      refine Calls.mono HC.out ?_
      generalize (((w.alloc (.cells #[.bool n, .slice a xs.length ca] 59)).alloc (.cells #[.bool m, .slice b ys.length cb] 59)).alloc (.cells #[.bool false, .slice none 0 0] 59)) = X0 at *
      rintro e w1 ⟨rfl, rfl⟩
      clear HC
      obtain ⟨p0, p1, p2, p3⟩ := HN.out.c2
      obtain ⟨q0, q1, q2, q3⟩ := HM.out.c2
      go_wp2_with fail
      clear p0 p1 p2 p3 q0 q1 q2 q3
      have hY : ∃ X, (((X0.setCell ⟨w.heap.size, 0, none⟩ (.bool m)).setCell ⟨w.heap.size, 1, none⟩ (.slice b ys.length cb)).setCell ⟨w.heap.size + 1, 0, none⟩ (.bool n)).setCell ⟨w.heap.size + 1, 1, none⟩ (.slice a xs.length ca) = X := ⟨_, rfl⟩
      obtain ⟨X, hX⟩ := hY
      have hN := (HN.out.put2 (.bool m) (.slice b ys.length cb)).far2 (b' := w.heap.size + 1) (by omega) (.bool n) (.slice a xs.length ca)
      have hM := (HM.out.far2 (b' := w.heap.size) (by omega) (.bool m) (.slice b ys.length cb)).put2 (.bool n) (.slice a xs.length ca)
      have hZ := (HZ.out.far2 (b' := w.heap.size) (by omega) (.bool m) (.slice b ys.length cb)).far2 (b' := w.heap.size + 1) (by omega) (.bool n) (.slice a xs.length ca)
      have hS1 := (HS.out.1.put2 HN.out (.bool m) (.slice b ys.length cb)).put2 (HM.out.far2 (b' := w.heap.size) (by omega) (.bool m) (.slice b ys.length cb)) (.bool n) (.slice a xs.length ca)
      have hS2 := (HS.out.2.put2 HN.out (.bool m) (.slice b ys.length cb)).put2 (HM.out.far2 (b' := w.heap.size) (by omega) (.bool m) (.slice b ys.length cb)) (.bool n) (.slice a xs.length ca)
      have hB := below_put2 (below_put2 HB.out w.heap.size (Nat.le_refl _) (.bool m) (.slice b ys.length cb)) (w.heap.size + 1) (by omega) (.bool n) (.slice a xs.length ca)
      rw [hX] at hN hM hZ hS1 hS2 hB ⊢
      replace HN := hid hN
      replace HM := hid hM
      replace HZ := hid hZ
      replace HS := hid (And.intro hS1 hS2)
      replace HB := hid hB
      clear hN hM hZ hS1 hS2 hB hX
      have HK : Hid (∀ V, Below X.heap.size X V → V.cell? ⟨w.heap.size, 0, none⟩ = some (.bool m) ∧ V.cell? ⟨w.heap.size, 1, none⟩ = some (.slice b ys.length cb) ∧ V.cell? ⟨w.heap.size + 1, 0, none⟩ = some (.bool n) ∧ V.cell? ⟨w.heap.size + 1, 1, none⟩ = some (.slice a xs.length ca)) := fun V hb => by
        obtain ⟨p0, p1, _, _⟩ := (HN.out.later hb HN.out.lt).c2
        obtain ⟨q0, q1, _, _⟩ := (HM.out.later hb HM.out.lt).c2
        exact ⟨p0, p1, q0, q1⟩
      have hs0 := HK.out _ (Below.drew (Below.refl _ X))
      have HT : Hid (Calls Tryz.prog 61 #[.slice b ys.length cb, .slice a xs.length ca] X.drew fun e w1 => ∃ a1 c1 z1, e = .returned (.slice a1 (List.length z1) c1) ∧ Hid (Sl w1 (.slice a1 z1.length c1) z1 ∧ val z1 = val ys - val xs ∧ z1.length ≤ 549755813888 ∧ Below X.heap.size X w1) ∧ w1.cell? ⟨w.heap.size, 0, none⟩ = some (.bool m) ∧ w1.cell? ⟨w.heap.size, 1, none⟩ = some (.slice b ys.length cb) ∧ w1.cell? ⟨w.heap.size + 1, 0, none⟩ = some (.bool n) ∧ w1.cell? ⟨w.heap.size + 1, 1, none⟩ = some (.slice a xs.length ca)) := by
        have hbd : Below X.heap.size X X.drew := Below.drew (Below.refl _ X)
        refine Calls.mono (refLess_sl _ _ ys xs _ (HS.out.2.later hbd) (HS.out.1.later hbd) (by have := HL.out; omega) (by have := HL.out; omega) HLT.out) ?_
        intro e w1 h1
        obtain ⟨a1, c1, z1, rfl, o1, wz, tz, vz, hb1⟩ := h1.slice
        have hbX : Below X.heap.size X w1 := bt hbd hb1
        exact ⟨a1, c1, z1, rfl, ⟨Sl.own o1 wz, vz, HLZ.out z1 wz tz vz, hbX⟩, HK.out w1 hbX⟩
      have HMD : Hid (∀ w1 a1 c1 z1, Sl w1 (.slice a1 (List.length z1) c1) z1 → val z1 = val ys - val xs → z1.length ≤ 549755813888 → Below X.heap.size X w1 → Calls Tryz.prog 58 #[.bool m, .slice a1 z1.length c1] w1 fun e w2 => ∃ k2 a2 c2 z2, e = .returned (.agg #[.bool k2, .slice a2 (List.length z2) c2]) ∧ Hid (w2.ownsRow X.heap.size 66 1 (.slice a2 z2.length c2) z2.length (z2.map (Value.int .u32)) ∧ Wd z2 ∧ Trimmed z2 ∧ (k2 = false ∨ 0 < z2.length) ∧ wval k2 z2 = wval n xs + wval m ys ∧ Below X.heap.size X w2) ∧ (w2.cell? ⟨w.heap.size, 0, none⟩ = some (.bool m) ∧ w2.cell? ⟨w.heap.size, 1, none⟩ = some (.slice b ys.length cb) ∧ w2.cell? ⟨w.heap.size + 1, 0, none⟩ = some (.bool n) ∧ w2.cell? ⟨w.heap.size + 1, 1, none⟩ = some (.slice a xs.length ca)) ∧ w2.cell? ⟨w.heap.size + 1 + 1, 0, none⟩ = some (.bool false) ∧ w2.cell? ⟨w.heap.size + 1 + 1, 1, none⟩ = some (.slice none 0 0) ∧ w2.frozen? ⟨w.heap.size + 1 + 1, 0, none⟩ = false ∧ w2.frozen? ⟨w.heap.size + 1 + 1, 1, none⟩ = false) := fun w1 a1 c1 z1 s1 v1 l1 hb1 => by
        refine Calls.mono (made_num m _ z1 w1 s1 l1) ?_
        rintro e w2 ⟨k, v2, z2, rfl, o2, wz, tz, sz2, vz, hb2⟩
        obtain ⟨a2, c2, hs⟩ := own_slice' o2
        subst hs
        refine ⟨k, a2, c2, z2, rfl, ⟨owns_base o2 hb1.size, wz, tz, sz2, ?_, bt hb1 hb2⟩, HK.out w2 (bt hb1 hb2), (HZ.out.later (bt hb1 hb2) HZ.out.lt).c2⟩
        rw [vz]
        exact HE.out z1 v1
      have hq0 : w.heap.size + 1 + 1 ≠ w.heap.size := by omega
      clear HS HE HLZ HL
      go_region_held3 (fun V : World => V.cell? ⟨w.heap.size, 0, none⟩ = some (.bool m) ∧ V.cell? ⟨w.heap.size, 1, none⟩ = some (.slice b ys.length cb) ∧ V.cell? ⟨w.heap.size + 1, 0, none⟩ = some (.bool n) ∧ V.cell? ⟨w.heap.size + 1, 1, none⟩ = some (.slice a xs.length ca)) (first | exact hs2 | exact hs1 | exact hs0 | (simp [hs2, World.cell?_setCell_far, hq0]))
        (first
          | (go_at_call 58; with_reducible refine Calls.mono (HMD.out _ _ _ _ HE1.out.1 HE1.out.2.1 HE1.out.2.2.1 HE1.out.2.2.2) ?_; rintro e w2 ⟨k2, a2, c2, z2, rfl, HE2, hs2, r0, r1, f0, f1⟩)
          | (go_at_call 61; with_reducible refine Calls.mono HT.out ?_; rintro e w1 ⟨a1, c1, z1, rfl, HE1, hs1⟩))
      all_goals
        have HZ2 := hid (HZ.out.later HE2.out.2.2.2.2.2 HZ.out.lt)
        have HO := hid (own_put2 (owns_base HE2.out.1 HB.out.size) (w.heap.size + 1 + 1) (own_ne_box HE2.out.1 HZ2.out (by decide)) (.bool k2) (.slice a2 z2.length c2))
        have HBN := hid (below_put2 (bt HB.out HE2.out.2.2.2.2.2) (w.heap.size + 1 + 1) (by omega) (.bool k2) (.slice a2 z2.length c2))
        have HR := hid (And.intro HE2.out.2.1 (And.intro HE2.out.2.2.1 (And.intro HE2.out.2.2.2.1 HE2.out.2.2.2.2.1)))
        clear HK HT HMD HE1 HE2 HZ HN HM HB hs0 hs1 hs2
        go_wp2_with fail
        refine bodyPost_ret (v := .agg #[.bool k2, .slice a2 z2.length c2]) (by simp [results, Tryz.results31, go_sem, r0, r1]) rfl ?_
        exact ⟨k2, _, z2, rfl, HO.out, HR.out.1, HR.out.2.1, HR.out.2.2.1, HR.out.2.2.2, HBN.out⟩
    · obtain ⟨c, hcc, hcv⟩ : ∃ c, cmpI (val xs) (val ys) = c ∧ ¬ c < 0 ∧ c ≤ 1 := by
        by_cases e : val xs = val ys
        · exact ⟨0, cmpI_eq e, by omega, by omega⟩
        · exact ⟨1, cmpI_gt (by omega), by omega, by omega⟩
      obtain ⟨c0, c1⟩ := hcv
      rw [hcc] at HC
      have HE : Hid (∀ z1, val z1 = val xs - val ys → wval n z1 = wval n xs + wval m ys) := fun z1 e => by
        cases n <;> cases m <;> simp at hnm <;> simp [wval] <;> omega
      have HLZ : Hid (∀ z1, Wd z1 → Trimmed z1 → val z1 = val xs - val ys → z1.length ≤ 549755813888) := fun z1 wz tz vz => ref_len (L := xs.length) wz tz (by rw [vz]; generalize (4294967296 : Int) ^ xs.length = Y at *; omega) (by omega)
      have HLT : Hid (val ys ≤ val xs) := Int.not_lt.1 hlt
      clear x0 x1 y0 y1 lx ly hlt hnm hcc
      go_enter Tryz.func31, Tryz.ntmps31
      go_wp2_with fail
      refine Calls.mono HC.out ?_
      generalize (((w.alloc (.cells #[.bool n, .slice a xs.length ca] 59)).alloc (.cells #[.bool m, .slice b ys.length cb] 59)).alloc (.cells #[.bool false, .slice none 0 0] 59)) = X at *
      rintro e w1 ⟨rfl, rfl⟩
      clear HC
      go_wp2_with fail
      have HK : Hid (∀ V, Below X.heap.size X V → V.cell? ⟨w.heap.size, 0, none⟩ = some (.bool n) ∧ V.cell? ⟨w.heap.size, 1, none⟩ = some (.slice a xs.length ca) ∧ V.cell? ⟨w.heap.size + 1, 0, none⟩ = some (.bool m) ∧ V.cell? ⟨w.heap.size + 1, 1, none⟩ = some (.slice b ys.length cb)) := fun V hb => by
        obtain ⟨p0, p1, _, _⟩ := (HN.out.later hb HN.out.lt).c2
        obtain ⟨q0, q1, _, _⟩ := (HM.out.later hb HM.out.lt).c2
        exact ⟨p0, p1, q0, q1⟩
      have hs0 := HK.out _ (Below.drew (Below.refl _ X))
      have HT : Hid (Calls Tryz.prog 61 #[.slice a xs.length ca, .slice b ys.length cb] X.drew fun e w1 => ∃ a1 c1 z1, e = .returned (.slice a1 (List.length z1) c1) ∧ Hid (Sl w1 (.slice a1 z1.length c1) z1 ∧ val z1 = val xs - val ys ∧ z1.length ≤ 549755813888 ∧ Below X.heap.size X w1) ∧ w1.cell? ⟨w.heap.size, 0, none⟩ = some (.bool n) ∧ w1.cell? ⟨w.heap.size, 1, none⟩ = some (.slice a xs.length ca) ∧ w1.cell? ⟨w.heap.size + 1, 0, none⟩ = some (.bool m) ∧ w1.cell? ⟨w.heap.size + 1, 1, none⟩ = some (.slice b ys.length cb)) := by
        have hbd : Below X.heap.size X X.drew := Below.drew (Below.refl _ X)
        refine Calls.mono (refLess_sl _ _ xs ys _ (HS.out.1.later hbd) (HS.out.2.later hbd) (by have := HL.out; omega) (by have := HL.out; omega) HLT.out) ?_
        intro e w1 h1
        obtain ⟨a1, c1, z1, rfl, o1, wz, tz, vz, hb1⟩ := h1.slice
        have hbX : Below X.heap.size X w1 := bt hbd hb1
        exact ⟨a1, c1, z1, rfl, ⟨Sl.own o1 wz, vz, HLZ.out z1 wz tz vz, hbX⟩, HK.out w1 hbX⟩
      have HMD : Hid (∀ w1 a1 c1 z1, Sl w1 (.slice a1 (List.length z1) c1) z1 → val z1 = val xs - val ys → z1.length ≤ 549755813888 → Below X.heap.size X w1 → Calls Tryz.prog 58 #[.bool n, .slice a1 z1.length c1] w1 fun e w2 => ∃ k2 a2 c2 z2, e = .returned (.agg #[.bool k2, .slice a2 (List.length z2) c2]) ∧ Hid (w2.ownsRow X.heap.size 66 1 (.slice a2 z2.length c2) z2.length (z2.map (Value.int .u32)) ∧ Wd z2 ∧ Trimmed z2 ∧ (k2 = false ∨ 0 < z2.length) ∧ wval k2 z2 = wval n xs + wval m ys ∧ Below X.heap.size X w2) ∧ (w2.cell? ⟨w.heap.size, 0, none⟩ = some (.bool n) ∧ w2.cell? ⟨w.heap.size, 1, none⟩ = some (.slice a xs.length ca) ∧ w2.cell? ⟨w.heap.size + 1, 0, none⟩ = some (.bool m) ∧ w2.cell? ⟨w.heap.size + 1, 1, none⟩ = some (.slice b ys.length cb)) ∧ w2.cell? ⟨w.heap.size + 1 + 1, 0, none⟩ = some (.bool false) ∧ w2.cell? ⟨w.heap.size + 1 + 1, 1, none⟩ = some (.slice none 0 0) ∧ w2.frozen? ⟨w.heap.size + 1 + 1, 0, none⟩ = false ∧ w2.frozen? ⟨w.heap.size + 1 + 1, 1, none⟩ = false) := fun w1 a1 c1 z1 s1 v1 l1 hb1 => by
        refine Calls.mono (made_num n _ z1 w1 s1 l1) ?_
        rintro e w2 ⟨k, v2, z2, rfl, o2, wz, tz, sz2, vz, hb2⟩
        obtain ⟨a2, c2, hs⟩ := own_slice' o2
        subst hs
        refine ⟨k, a2, c2, z2, rfl, ⟨owns_base o2 hb1.size, wz, tz, sz2, ?_, bt hb1 hb2⟩, HK.out w2 (bt hb1 hb2), (HZ.out.later (bt hb1 hb2) HZ.out.lt).c2⟩
        rw [vz]
        exact HE.out z1 v1
      have hq0 : w.heap.size + 1 + 1 ≠ w.heap.size := by omega
      clear HS HE HLZ HL
      go_region_held3 (fun V : World => V.cell? ⟨w.heap.size, 0, none⟩ = some (.bool n) ∧ V.cell? ⟨w.heap.size, 1, none⟩ = some (.slice a xs.length ca) ∧ V.cell? ⟨w.heap.size + 1, 0, none⟩ = some (.bool m) ∧ V.cell? ⟨w.heap.size + 1, 1, none⟩ = some (.slice b ys.length cb)) (first | exact hs2 | exact hs1 | exact hs0 | (simp [hs2, World.cell?_setCell_far, hq0]))
        (first
          | (go_at_call 58; with_reducible refine Calls.mono (HMD.out _ _ _ _ HE1.out.1 HE1.out.2.1 HE1.out.2.2.1 HE1.out.2.2.2) ?_; rintro e w2 ⟨k2, a2, c2, z2, rfl, HE2, hs2, r0, r1, f0, f1⟩)
          | (go_at_call 61; with_reducible refine Calls.mono HT.out ?_; rintro e w1 ⟨a1, c1, z1, rfl, HE1, hs1⟩))
      all_goals
        have HZ2 := hid (HZ.out.later HE2.out.2.2.2.2.2 HZ.out.lt)
        have HO := hid (own_put2 (owns_base HE2.out.1 HB.out.size) (w.heap.size + 1 + 1) (own_ne_box HE2.out.1 HZ2.out (by decide)) (.bool k2) (.slice a2 z2.length c2))
        have HBN := hid (below_put2 (bt HB.out HE2.out.2.2.2.2.2) (w.heap.size + 1 + 1) (by omega) (.bool k2) (.slice a2 z2.length c2))
        have HR := hid (And.intro HE2.out.2.1 (And.intro HE2.out.2.2.1 (And.intro HE2.out.2.2.2.1 HE2.out.2.2.2.2.1)))
        clear HK HT HMD HE1 HE2 HZ HN HM HB hs0 hs1 hs2
        go_wp2_with fail
        refine bodyPost_ret (v := .agg #[.bool k2, .slice a2 z2.length c2]) (by simp [results, Tryz.results31, go_sem, r0, r1]) rfl ?_
        exact ⟨k2, _, z2, rfl, HO.out, HR.out.1, HR.out.2.1, HR.out.2.2.1, HR.out.2.2.2, HBN.out⟩
end Go.Proofs.YtcfcjnlobpoglaaGreat

/- The document's own whole numbers: Less, of any length; Add, Sub, Mul: of numbers that may be. -/
namespace Go.Proofs.YtcfcjnlobpoglaaGreat
open Go.RowKit
set_option linter.unusedVariables false

theorem neg_len {k m : Bool} {z ys : List Int} (wz : Wd z) (tz : Trimmed z) (wy : Wd ys) (h : wval k z = -(wval m ys)) : z.length ≤ ys.length := by
  refine len_of_lt wz tz ?_
  have h1 := val_lt wy
  have h2 := val_nonneg wy
  have h3 := val_nonneg wz
  generalize (4294967296 : Int) ^ ys.length = Y at *
  cases k <;> cases m <;> simp [wval] at h <;> omega

set_option maxHeartbeats 6400000 in
set_option maxRecDepth 100000 in
theorem refWLess_any (n : Bool) (a : Option Addr) (ca : Nat) (xs : List Int) (m : Bool) (b : Option Addr) (cb : Nat) (ys : List Int) (w : World) (h : Sl w (.slice a xs.length ca) xs) (g : Sl w (.slice b ys.length cb) ys) (lx : xs.length ≤ 1000000) (ly : ys.length ≤ 1000000) :
    Calls Tryz.prog 33 #[.agg #[.bool n, .slice a xs.length ca], .agg #[.bool m, .slice b ys.length cb]] w (WNum w (wval n xs - wval m ys)) := by
  have wy := g.wd
  have HB : Hid (Below w.heap.size w (((w.alloc (.cells #[.bool n, .slice a xs.length ca] 59)).alloc (.cells #[.bool m, .slice b ys.length cb] 59)).alloc (.cells #[.bool false, .slice none 0 0] 59))) := bt (bt (alloc_later _ _) (alloc_later _ _)) (alloc_later _ _)
  have HZ : Hid (Box (((w.alloc (.cells #[.bool n, .slice a xs.length ca] 59)).alloc (.cells #[.bool m, .slice b ys.length cb] 59)).alloc (.cells #[.bool false, .slice none 0 0] 59)) (w.heap.size + 1 + 1) 59 #[.bool false, .slice none 0 0]) := by
    have e := Box.made ((w.alloc (.cells #[.bool n, .slice a xs.length ca] 59)).alloc (.cells #[.bool m, .slice b ys.length cb] 59)) 59 #[.bool false, .slice none 0 0]
    simp at e
    exact e
  have HN : Hid (Box (((w.alloc (.cells #[.bool n, .slice a xs.length ca] 59)).alloc (.cells #[.bool m, .slice b ys.length cb] 59)).alloc (.cells #[.bool false, .slice none 0 0] 59)) w.heap.size 59 #[.bool n, .slice a xs.length ca]) := Box.later (Box.later (Box.made w _ _) (alloc_later _ _) (by simp)) (alloc_later _ _) (by simp; omega)
  have HM : Hid (Box (((w.alloc (.cells #[.bool n, .slice a xs.length ca] 59)).alloc (.cells #[.bool m, .slice b ys.length cb] 59)).alloc (.cells #[.bool false, .slice none 0 0] 59)) (w.heap.size + 1) 59 #[.bool m, .slice b ys.length cb]) := by
    have e := Box.later (Box.made (w.alloc (.cells #[.bool n, .slice a xs.length ca] 59)) 59 #[.bool m, .slice b ys.length cb]) (alloc_later ((w.alloc (.cells #[.bool n, .slice a xs.length ca] 59)).alloc (.cells #[.bool m, .slice b ys.length cb] 59)) (.cells #[.bool false, .slice none 0 0] 59)) (by simp)
    simp at e
    exact e
  have HS := hid (And.intro (h.later HB.out) (g.later HB.out))
  have HL := hid (And.intro lx ly)
  have HWY := hid wy
  clear h g lx ly wy
  go_enter Tryz.func33, Tryz.ntmps33
  go_wp2_with fail
  generalize (((w.alloc (.cells #[.bool n, .slice a xs.length ca] 59)).alloc (.cells #[.bool m, .slice b ys.length cb] 59)).alloc (.cells #[.bool false, .slice none 0 0] 59)) = X at *
  have HK : Hid (∀ V, Below X.heap.size X V → V.cell? ⟨w.heap.size, 0, none⟩ = some (.bool n) ∧ V.cell? ⟨w.heap.size, 1, none⟩ = some (.slice a xs.length ca) ∧ V.cell? ⟨w.heap.size + 1, 0, none⟩ = some (.bool m) ∧ V.cell? ⟨w.heap.size + 1, 1, none⟩ = some (.slice b ys.length cb)) := fun V hb => by
    obtain ⟨p0, p1, _, _⟩ := (HN.out.later hb HN.out.lt).c2
    obtain ⟨q0, q1, _, _⟩ := (HM.out.later hb HM.out.lt).c2
    exact ⟨p0, p1, q0, q1⟩
  have hs0 := HK.out _ (Below.drew (Below.refl _ X))
  have HT : Hid (Calls Tryz.prog 30 #[.agg #[.bool m, .slice b ys.length cb]] X.drew fun e w1 => ∃ k1 a1 c1 z1, e = .returned (.agg #[.bool k1, .slice a1 (List.length z1) c1]) ∧ Hid (Sl w1 (.slice a1 z1.length c1) z1 ∧ wval k1 z1 = -(wval m ys) ∧ z1.length ≤ 1000000 ∧ Below X.heap.size X w1) ∧ w1.cell? ⟨w.heap.size, 0, none⟩ = some (.bool n) ∧ w1.cell? ⟨w.heap.size, 1, none⟩ = some (.slice a xs.length ca) ∧ w1.cell? ⟨w.heap.size + 1, 0, none⟩ = some (.bool m) ∧ w1.cell? ⟨w.heap.size + 1, 1, none⟩ = some (.slice b ys.length cb)) := by
    have hbd : Below X.heap.size X X.drew := Below.drew (Below.refl _ X)
    refine Calls.mono (refOpposite_any m _ ys _ (HS.out.2.later hbd) (by have := HL.out; omega)) ?_
    rintro e w1 ⟨k1, v1, z1, rfl, o1, wz, tz, sz1, vz, hb1⟩
    obtain ⟨a1, c1, hs⟩ := own_slice' o1
    subst hs
    have hbX : Below X.heap.size X w1 := bt hbd hb1
    exact ⟨k1, a1, c1, z1, rfl, ⟨Sl.own o1 wz, vz, by have := neg_len wz tz HWY.out vz; have := HL.out; omega, hbX⟩, HK.out w1 hbX⟩
  have HP : Hid (∀ w1 k1 a1 c1 z1, Sl w1 (.slice a1 (List.length z1) c1) z1 → wval k1 z1 = -(wval m ys) → z1.length ≤ 1000000 → Below X.heap.size X w1 → Calls Tryz.prog 31 #[.agg #[.bool n, .slice a xs.length ca], .agg #[.bool k1, .slice a1 z1.length c1]] w1 fun e w2 => ∃ k2 a2 c2 z2, e = .returned (.agg #[.bool k2, .slice a2 (List.length z2) c2]) ∧ Hid (w2.ownsRow X.heap.size 66 1 (.slice a2 z2.length c2) z2.length (z2.map (Value.int .u32)) ∧ Wd z2 ∧ Trimmed z2 ∧ (k2 = false ∨ 0 < z2.length) ∧ wval k2 z2 = wval n xs - wval m ys ∧ Below X.heap.size X w2) ∧ (w2.cell? ⟨w.heap.size, 0, none⟩ = some (.bool n) ∧ w2.cell? ⟨w.heap.size, 1, none⟩ = some (.slice a xs.length ca) ∧ w2.cell? ⟨w.heap.size + 1, 0, none⟩ = some (.bool m) ∧ w2.cell? ⟨w.heap.size + 1, 1, none⟩ = some (.slice b ys.length cb)) ∧ w2.cell? ⟨w.heap.size + 1 + 1, 0, none⟩ = some (.bool false) ∧ w2.cell? ⟨w.heap.size + 1 + 1, 1, none⟩ = some (.slice none 0 0) ∧ w2.frozen? ⟨w.heap.size + 1 + 1, 0, none⟩ = false ∧ w2.frozen? ⟨w.heap.size + 1 + 1, 1, none⟩ = false) := fun w1 k1 a1 c1 z1 s1 v1 l1 hb1 => by
    refine Calls.mono (refWPlus_any n a ca xs k1 a1 c1 z1 w1 (HS.out.1.later hb1) s1 HL.out.1 l1) ?_
    rintro e w2 ⟨k, v2, z2, rfl, o2, wz, tz, sz2, vz, hb2⟩
    obtain ⟨a2, c2, hs⟩ := own_slice' o2
    subst hs
    refine ⟨k, a2, c2, z2, rfl, ⟨owns_base o2 hb1.size, wz, tz, sz2, ?_, bt hb1 hb2⟩, HK.out w2 (bt hb1 hb2), (HZ.out.later (bt hb1 hb2) HZ.out.lt).c2⟩
    rw [vz, v1]
    omega
  have hq0 : w.heap.size + 1 + 1 ≠ w.heap.size := by omega
  clear HS HL HWY
  go_region_held3 (fun V : World => V.cell? ⟨w.heap.size, 0, none⟩ = some (.bool n) ∧ V.cell? ⟨w.heap.size, 1, none⟩ = some (.slice a xs.length ca) ∧ V.cell? ⟨w.heap.size + 1, 0, none⟩ = some (.bool m) ∧ V.cell? ⟨w.heap.size + 1, 1, none⟩ = some (.slice b ys.length cb)) (first | exact hs2 | exact hs1 | exact hs0 | (simp [hs2, World.cell?_setCell_far, hq0]))
    (first
      | (go_at_call 31; with_reducible refine Calls.mono (HP.out _ _ _ _ _ HE1.out.1 HE1.out.2.1 HE1.out.2.2.1 HE1.out.2.2.2) ?_; rintro e w2 ⟨k2, a2, c2, z2, rfl, HE2, hs2, r0, r1, f0, f1⟩)
      | (go_at_call 30; with_reducible refine Calls.mono HT.out ?_; rintro e w1 ⟨k1, a1, c1, z1, rfl, HE1, hs1⟩))
  all_goals
    have HZ2 := hid (HZ.out.later HE2.out.2.2.2.2.2 HZ.out.lt)
    have HO := hid (own_put2 (owns_base HE2.out.1 HB.out.size) (w.heap.size + 1 + 1) (own_ne_box HE2.out.1 HZ2.out (by decide)) (.bool k2) (.slice a2 z2.length c2))
    have HBN := hid (below_put2 (bt HB.out HE2.out.2.2.2.2.2) (w.heap.size + 1 + 1) (by omega) (.bool k2) (.slice a2 z2.length c2))
    have HR := hid (And.intro HE2.out.2.1 (And.intro HE2.out.2.2.1 (And.intro HE2.out.2.2.2.1 HE2.out.2.2.2.2.1)))
    clear HK HT HP HE1 HE2 HZ HN HM HB hs0 hs1 hs2
    go_wp2_with fail
    refine bodyPost_ret (v := .agg #[.bool k2, .slice a2 z2.length c2]) (by simp [results, Tryz.results33, go_sem, r0, r1]) rfl ?_
    exact ⟨k2, _, z2, rfl, HO.out, HR.out.1, HR.out.2.1, HR.out.2.2.1, HR.out.2.2.2, HBN.out⟩

end Go.Proofs.YtcfcjnlobpoglaaGreat

/- Whole numbers of the document's, each one letter's worth: its row is the call's own; in a box; what the document's sums and products tell of them. -/
namespace Go.Proofs.YtcfcjnlobpoglaaGreat
open Go.RowKit
set_option linter.unusedVariables false

/-- A whole number that stands. -/
def DW (V : World) (n : Bool) (a : Option Addr) (k c : Nat) (t : Int) : Prop := ∃ xs : List Int, k = xs.length ∧ V.ownsRow 0 66 1 (.slice a k c) k (xs.map (Value.int .u32)) ∧ Wd xs ∧ Trimmed xs ∧ (n = false ∨ 0 < k) ∧ wval n xs = t
theorem DW.later {V V' : World} {n : Bool} {a : Option Addr} {k c : Nat} {t : Int} (h : DW V n a k c t) (hb : Below V.heap.size V V') : DW V' n a k c t := by
  obtain ⟨xs, h1, h2, h3⟩ := h
  exact ⟨xs, h1, owns_later h2 hb, h3⟩
theorem DW.drew {V : World} {n : Bool} {a : Option Addr} {k c : Nat} {t : Int} (h : DW V n a k c t) : DW V.drew n a k c t := h
/-- What a call tells: a number, in new memory. -/
def DR (V : World) (t : Int) (e : Ending) (V' : World) : Prop := ∃ n a k c, e = .returned (.agg #[.bool n, .slice a k c]) ∧ DW V' n a k c t ∧ Below V.heap.size V V'
theorem dr_wnum {V : World} {t : Int} {e : Ending} {V' : World} (h : WNum V t e V') : DR V t e V' := by
  obtain ⟨n, v, zs, rfl, o, w, tz, s, q, hb⟩ := h
  obtain ⟨a, c, rfl⟩ := own_slice' o
  exact ⟨n, a, zs.length, c, rfl, ⟨zs, rfl, owns_base o (Nat.zero_le _), w, tz, s, q⟩, hb⟩
theorem dr_wis {V : World} {t : Int} {e : Ending} {V' : World} (h : WIs V t e V') : DR V t e V' := by
  obtain ⟨n, v, zs, rfl, o, w, tz, _, s, q, hb⟩ := h
  exact dr_wnum ⟨n, v, zs, rfl, o, w, tz, s, q, hb⟩
/-- How great a number may be here: of at most 3000 words. -/
def dlim (L : Nat) : Nat := 4294967296 ^ L
theorem DW.len {V : World} {n : Bool} {a : Option Addr} {k c : Nat} {t : Int} (h : DW V n a k c t) {L : Nat} (hL : t.natAbs < dlim L) : k ≤ L := by
  obtain ⟨xs, rfl, _, hw, ht, _, hv⟩ := h
  refine len_of_lt hw ht ?_
  have h0 := val_nonneg hw
  have e : val xs = (t.natAbs : Int) := by
    subst hv
    unfold wval
    cases n <;> simp <;> omega
  rw [e]
  unfold dlim at hL
  have q := Int.ofNat_lt.2 hL
  rw [Int.natCast_pow] at q
  exact q
theorem dProduct {V : World} {n m : Bool} {a b : Option Addr} {k c j d : Nat} {t s : Int} (h : DW V n a k c t) (g : DW V m b j d s) (lk : k ≤ 100000) (lj : j ≤ 100000) :
    Calls Tryz.prog 32 #[.agg #[.bool n, .slice a k c], .agg #[.bool m, .slice b j d]] V (DR V (t * s)) := by
  obtain ⟨xs, rfl, o1, w1, _, _, rfl⟩ := h
  obtain ⟨ys, rfl, o2, w2, _, _, rfl⟩ := g
  exact Calls.mono (refProduct_any n a c xs m b d ys V (Sl.own o1 w1) (Sl.own o2 w2) lk lj) (fun _ _ h => dr_wnum h)
theorem dPlus {V : World} {n m : Bool} {a b : Option Addr} {k c j d : Nat} {t s : Int} (h : DW V n a k c t) (g : DW V m b j d s) (lk : k ≤ 100000) (lj : j ≤ 100000) :
    Calls Tryz.prog 31 #[.agg #[.bool n, .slice a k c], .agg #[.bool m, .slice b j d]] V (DR V (t + s)) := by
  obtain ⟨xs, rfl, o1, w1, _, _, rfl⟩ := h
  obtain ⟨ys, rfl, o2, w2, _, _, rfl⟩ := g
  exact Calls.mono (refWPlus_any n a c xs m b d ys V (Sl.own o1 w1) (Sl.own o2 w2) (by omega) (by omega)) (fun _ _ h => dr_wnum h)
theorem dLess {V : World} {n m : Bool} {a b : Option Addr} {k c j d : Nat} {t s : Int} (h : DW V n a k c t) (g : DW V m b j d s) (lk : k ≤ 100000) (lj : j ≤ 100000) :
    Calls Tryz.prog 33 #[.agg #[.bool n, .slice a k c], .agg #[.bool m, .slice b j d]] V (DR V (t - s)) := by
  obtain ⟨xs, rfl, o1, w1, _, _, rfl⟩ := h
  obtain ⟨ys, rfl, o2, w2, _, _, rfl⟩ := g
  exact Calls.mono (refWLess_any n a c xs m b d ys V (Sl.own o1 w1) (Sl.own o2 w2) (by omega) (by omega)) (fun _ _ h => dr_wnum h)
theorem dOpposite {V : World} {n : Bool} {a : Option Addr} {k c : Nat} {t : Int} (h : DW V n a k c t) (lk : k ≤ 100000) :
    Calls Tryz.prog 30 #[.agg #[.bool n, .slice a k c]] V (DR V (-t)) := by
  obtain ⟨xs, rfl, o1, w1, _, _, rfl⟩ := h
  exact Calls.mono (refOpposite_any n _ xs V (Sl.own o1 w1) (by omega)) (fun _ _ h => dr_wnum h)
theorem dOf (x : Int) (V : World) (h0 : -9223372036854775808 ≤ x) (h1 : x ≤ 9223372036854775807) :
    Calls Tryz.prog 29 #[.int .i64 x] V (DR V x) := Calls.mono (refOf2_any x V h0 h1) (fun _ _ h => dr_wis h)
/-- A number in its box. -/
def NB (V : World) (b : Nat) (t : Int) : Prop := ∃ n a k c, Box V b 59 #[.bool n, .slice a k c] ∧ DW V n a k c t
theorem NB.later {V V' : World} {b : Nat} {t : Int} (h : NB V b t) (hb : Below V.heap.size V V') : NB V' b t := by
  obtain ⟨n, a, k, c, h1, h2⟩ := h
  exact ⟨n, a, k, c, h1.later hb h1.lt, h2.later hb⟩
theorem NB.lt {V : World} {b : Nat} {t : Int} (h : NB V b t) : b < V.heap.size := by
  obtain ⟨n, a, k, c, h1, h2⟩ := h
  exact h1.lt
/-- A store into a box of two cells: the numbers in other boxes stay, and those that stand by themselves. -/
theorem DW.put {V : World} {n : Bool} {a : Option Addr} {k c : Nat} {t : Int} (h : DW V n a k c t) {b : Nat} {vs : Array Value} (hb : Box V b 59 vs) (v0 v1 : Value) : DW ((V.setCell ⟨b, 0, none⟩ v0).setCell ⟨b, 1, none⟩ v1) n a k c t := by
  obtain ⟨xs, h1, h2, h3⟩ := h
  exact ⟨xs, h1, own_put2 h2 b (own_ne_box h2 hb (by decide)) _ _, h3⟩
theorem NB.put {V : World} {b b' : Nat} {t : Int} (h : NB V b t) {vs : Array Value} (hb : Box V b' 59 vs) (hne : b ≠ b') (v0 v1 : Value) : NB ((V.setCell ⟨b', 0, none⟩ v0).setCell ⟨b', 1, none⟩ v1) b t := by
  obtain ⟨n, a, k, c, h1, h2⟩ := h
  exact ⟨n, a, k, c, h1.far2 hne _ _, h2.put hb _ _⟩
theorem NB.set {V : World} {b : Nat} {t : Int} {u0 u1 : Value} (hb : Box V b 59 #[u0, u1]) {n : Bool} {a : Option Addr} {k c : Nat} (h : DW V n a k c t) : NB ((V.setCell ⟨b, 0, none⟩ (.bool n)).setCell ⟨b, 1, none⟩ (.slice a k c)) b t :=
  ⟨n, a, k, c, hb.put2 _ _, h.put hb _ _⟩
theorem NB.made {V : World} {n : Bool} {a : Option Addr} {k c : Nat} {t : Int} (h : DW V n a k c t) : NB (V.alloc (.cells #[.bool n, .slice a k c] 59)) V.heap.size t := ⟨n, a, k, c, Box.made V _ _, h.later (alloc_later V _)⟩
end Go.Proofs.YtcfcjnlobpoglaaGreat

