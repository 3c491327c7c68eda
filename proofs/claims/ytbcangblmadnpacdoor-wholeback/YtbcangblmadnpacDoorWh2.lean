/- Whole numbers: whole.told, Of, Int64; slackwaterkit.SameWhole; slackwaterlaw02.is, of: of every number whose words can be read. -/
import Derived.Test.YtbcangblmadnpacDoorWh1
namespace Go.Proofs.YtbcangblmadnpacDoor
open Go.RowKit
set_option linter.unusedVariables false

/-- The cells of a struct of two that stood when a callee began. -/
theorem res_box {X w1 : World} {b t : Nat} {v0 v1 : Value} (hX : Box X b t #[v0, v1]) (hb : Below X.heap.size X w1) : w1.cell? ⟨b, 0, none⟩ = some v0 ∧ w1.cell? ⟨b, 1, none⟩ = some v1 ∧ w1.frozen? ⟨b, 0, none⟩ = false ∧ w1.frozen? ⟨b, 1, none⟩ = false := by
  have h := hX.later hb hX.lt
  exact ⟨h.cell 0, h.cell 1, h.free 0, h.free 1⟩
theorem below_put2 {B : Nat} {a w : World} (h : Below B a w) (b : Nat) (hb : B ≤ b) (v0 v1 : Value) : Below B a ((w.setCell ⟨b, 0, none⟩ v0).setCell ⟨b, 1, none⟩ v1) :=
  (h.setCell (p := ⟨b, 0, none⟩) hb _).setCell (p := ⟨b, 1, none⟩) hb _

theorem grown_set (w : World) (p : Addr) (v : Value) : w.grownBy (w.setCell p v) (some p.block) := ⟨rfl, rfl, rfl, by simp [World.setCell], fun k hk hne => Below.heap_setCell w p v k (fun e => hne (by rw [e]))⟩
theorem own_put2 {w : World} {base e n : Nat} {v : Value} {xs : List Value} (h : w.ownsRow base e 1 v n xs) (b : Nat) (hb : ∀ g, v.ownBlock = some g → g ≠ b) (v0 v1 : Value) : ((w.setCell ⟨b, 0, none⟩ v0).setCell ⟨b, 1, none⟩ v1).ownsRow base e 1 v n xs := by
  have hne : v.ownBlock = none ∨ v.ownBlock ≠ some b := by
    cases hv : v.ownBlock with
    | none => exact .inl rfl
    | some g => right; intro e; exact hb g hv (Option.some.inj e)
  exact World.ownsRow.kept (World.ownsRow.kept h (grown_set w ⟨b, 0, none⟩ v0) hne) (grown_set _ ⟨b, 1, none⟩ v1) hne

/-- What told tells. -/
def toldV (n : Bool) (a : Option Addr) (k cap : Nat) (e : Int) : Value := if 2048 < k then .tuple #[.agg #[.bool false, .slice none 0 0], .int .i64 3] else if e = 0 then .tuple #[.agg #[.bool (n && decide (0 < k)), .slice a k cap], .int .i64 0] else .tuple #[.agg #[.bool false, .slice none 0 0], .int .i64 e]

set_option maxHeartbeats 800000 in
set_option maxRecDepth 100000 in
theorem wtold_any (n : Bool) (a : Option Addr) (k cap : Nat) (e : Int) (w : World) (he : -1000 ≤ e ∧ e ≤ 1000) :
    Calls Tryd.prog 28 #[.bool n, .slice a k cap, .int .i64 e] w fun x w' => x = .returned (toldV n a k cap e) ∧ Below w.heap.size w w' := by
  have HB := hid (alloc_later w (.cells #[.bool false, .slice none 0 0] 24))
  by_cases h1 : 2048 < k
  · have HW : Hid (toldV n a k cap e = .tuple #[.agg #[.bool false, .slice none 0 0], .int .i64 3]) := by show _ = _; unfold toldV; rw [if_pos h1]
    have h1' : (2048 : Int) < (k : Int) := by omega
    clear h1
    go_enter Tryd.func28, Tryd.ntmps28
    go_wp2_with fail
    go_returns
    exact ⟨by rw [HW.out], HB.out⟩
  · have h1' : ¬ (2048 : Int) < (k : Int) := by omega
    by_cases h2 : e = 0
    · subst h2
      have HW : Hid (toldV n a k cap 0 = .tuple #[.agg #[.bool (n && decide (0 < k)), .slice a k cap], .int .i64 0]) := by show _ = _; unfold toldV; rw [if_neg h1, if_pos rfl]
      have HF := hid (formed_any n a k cap (w.alloc (.cells #[.bool false, .slice none 0 0] 24)))
      obtain ⟨nb, hnb⟩ : ∃ nb, (n && decide (0 < k)) = nb := ⟨_, rfl⟩
      rw [hnb] at HW HF
      clear h1 hnb
      go_enter Tryd.func28, Tryd.ntmps28
      go_wp2_with fail
      refine Calls.mono HF.out ?_
      rintro x w1 ⟨rfl, hb1⟩
      obtain ⟨r0, r1, f0, f1⟩ := res_box (Box.made w _ _) hb1
      have hbA := bt HB.out hb1
      clear hb1
      go_wp2_with fail
      refine bodyPost_ret (v := .tuple #[.agg #[.bool nb, .slice a k cap], .int .i64 0]) (by simp [results, Tryd.results28, go_sem, r0, r1]) rfl ?_
      exact ⟨by rw [HW.out], below_put2 hbA _ (Nat.le_refl _) _ _⟩
    · have HW : Hid (toldV n a k cap e = .tuple #[.agg #[.bool false, .slice none 0 0], .int .i64 e]) := by show _ = _; unfold toldV; rw [if_neg h1, if_neg h2]
      have h2' : (e != 0) = true := by simp [h2]
      clear h1 h2
      go_enter Tryd.func28, Tryd.ntmps28
      go_wp2_with fail
      go_returns
      exact ⟨by rw [HW.out], HB.out⟩

/-- A whole number in new memory. -/
def WIs (w : World) (t : Int) (x : Ending) (w' : World) : Prop := ∃ n v zs, x = .returned (.agg #[.bool n, v]) ∧ w'.ownsRow w.heap.size 40 1 v zs.length (zs.map (Value.int .u32)) ∧ Wd zs ∧ Trimmed zs ∧ zs.length ≤ 2 ∧ (n = false ∨ 0 < zs.length) ∧ wval n zs = t ∧ Below w.heap.size w w'

theorem of_val (x : Int) (h0 : 0 ≤ x) (h1 : x ≤ 18446744073709551615) : val (trimmed [x % 4294967296, x / 4294967296]) = x := by
  rw [val_trimmed, val_two]; omega

set_option maxHeartbeats 1600000 in
set_option maxRecDepth 100000 in
theorem wof_any (x : Int) (w : World) (h0 : -9223372036854775808 ≤ x) (h1 : x ≤ 9223372036854775807) :
    Calls Tryd.prog 39 #[.int .i64 x] w (WIs w x) := by
  have HB := hid (alloc_later w (.cells #[.bool false, .slice none 0 0] 24))
  obtain ⟨y, hy⟩ : ∃ y : Int, y = (x.natAbs : Int) := ⟨_, rfl⟩
  have y0 : 0 ≤ y ∧ y ≤ 18446744073709551615 := by omega
  have HO := hid (of_any y (w.alloc (.cells #[.bool false, .slice none 0 0] 24)) y0.1 y0.2)
  have HV := hid (of_val y y0.1 y0.2)
  have hw := of_wd y y0.1 y0.2
  have HT := hid (Trimmed.trimmed [y % 4294967296, y / 4294967296])
  have HWD := hid hw.trimmed
  have HLE : Hid (sz [y % 4294967296, y / 4294967296] ≤ 2) := sz_le _
  have HLN := hid (length_trimmed [y % 4294967296, y / 4294967296])
  by_cases hx : x < 0
  · have hyx : y = -x := by omega
    have hc : IntKind.u64.wrap x = 18446744073709551616 + x := by rw [IntKind.wrap_u64]; omega
    have hc2 : IntKind.u64.wrap (-(18446744073709551616 + x)) = y := by rw [IntKind.wrap_u64]; omega
    have HYX := hid hyx
    generalize trimmed [y % 4294967296, y / 4294967296] = zs at *
    generalize sz [y % 4294967296, y / 4294967296] = k at *
    clear hy hyx hw
    go_enter Tryd.func39, Tryd.ntmps39
    go_wp2_with fail
    refine Calls.mono HO.out ?_
    rintro e w1 ⟨v1, rfl, o1, hb1⟩
    obtain ⟨a1, c1, hv1⟩ := own_slice' o1
    subst hv1
    have HF := hid (formed_any true a1 k c1 w1)
    have hs1 := hb1.size
    have HO1 := hid o1
    obtain ⟨nb, hnb⟩ : ∃ nb, (true && decide (0 < k)) = nb := ⟨_, rfl⟩
    rw [hnb] at HF
    have HNB := hid hnb
    clear o1 hnb HO
    go_wp2_with fail
    refine Calls.mono HF.out ?_
    rintro e w2 ⟨rfl, hb2⟩
    obtain ⟨r0, r1, f0, f1⟩ := res_box (Box.made w _ _) (bt hb1 hb2)
    have HBW := hid (bt HB.out (bt hb1 hb2))
    have HO2 := hid (owns_later HO1.out hb2)
    clear hb1 hb2
    go_wp2_with fail
    refine bodyPost_ret (v := .agg #[.bool nb, .slice a1 k c1]) (by simp [results, Tryd.results39, go_sem, r0, r1]) rfl ?_
    refine ⟨nb, _, zs, rfl, ?_, HWD.out, HT.out, by rw [HLN.out]; exact HLE.out, ?_, ?_, below_put2 HBW.out _ (Nat.le_refl _) _ _⟩
    · rw [HLN.out]
      exact owns_base (own_put2 HO2.out w.heap.size (fun g hg => by have := (World.ownsRow.lt HO2.out g hg).1; simp at this; omega) _ _) (by simp)
    · rw [← HNB.out, HLN.out]; by_cases c : 0 < k <;> simp [c]
    · have hkp : 0 < k := by
        by_cases c : 0 < k
        · exact c
        · have e0 : zs = [] := List.eq_nil_of_length_eq_zero (by rw [HLN.out]; omega)
          have := HV.out
          rw [e0, val_nil] at this
          have := HYX.out
          omega
      rw [← HNB.out, show (true && decide (0 < k)) = true by simp [hkp]]
      show -(val zs) = x
      rw [HV.out, HYX.out]; omega
  · have hyx : y = x := by omega
    have hc : IntKind.u64.wrap x = y := by rw [IntKind.wrap_u64]; omega
    have HYX := hid hyx
    generalize trimmed [y % 4294967296, y / 4294967296] = zs at *
    generalize sz [y % 4294967296, y / 4294967296] = k at *
    clear hy hyx hw
    go_enter Tryd.func39, Tryd.ntmps39
    go_wp2_with fail
    refine Calls.mono HO.out ?_
    rintro e w1 ⟨v1, rfl, o1, hb1⟩
    obtain ⟨a1, c1, hv1⟩ := own_slice' o1
    subst hv1
    have HF := hid (formed_any false a1 k c1 w1)
    have hs1 := hb1.size
    have HO1 := hid o1
    obtain ⟨nb, hnb⟩ : ∃ nb, (false && decide (0 < k)) = nb := ⟨_, rfl⟩
    rw [hnb] at HF
    have HNB := hid hnb
    clear o1 hnb HO
    go_wp2_with fail
    refine Calls.mono HF.out ?_
    rintro e w2 ⟨rfl, hb2⟩
    obtain ⟨r0, r1, f0, f1⟩ := res_box (Box.made w _ _) (bt hb1 hb2)
    have HBW := hid (bt HB.out (bt hb1 hb2))
    have HO2 := hid (owns_later HO1.out hb2)
    clear hb1 hb2
    go_wp2_with fail
    refine bodyPost_ret (v := .agg #[.bool nb, .slice a1 k c1]) (by simp [results, Tryd.results39, go_sem, r0, r1]) rfl ?_
    refine ⟨nb, _, zs, rfl, ?_, HWD.out, HT.out, by rw [HLN.out]; exact HLE.out, ?_, ?_, below_put2 HBW.out _ (Nat.le_refl _) _ _⟩
    · rw [HLN.out]
      exact owns_base (own_put2 HO2.out w.heap.size (fun g hg => by have := (World.ownsRow.lt HO2.out g hg).1; simp at this; omega) _ _) (by simp)
    · left; rw [← HNB.out]; rfl
    · rw [← HNB.out]
      show val zs = x
      rw [HV.out, HYX.out]

/-- What Int64 tells. -/
def i64of (n : Bool) (xs : List Int) : Int × Bool := if wchk n xs = 0 ∧ -9223372036854775808 ≤ wval n xs ∧ wval n xs ≤ 9223372036854775807 then (wval n xs, true) else (0, false)
end Go.Proofs.YtbcangblmadnpacDoor
