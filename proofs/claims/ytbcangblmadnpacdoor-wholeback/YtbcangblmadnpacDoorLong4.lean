/- nat.nextWord: one word of a quotient. -/
import Derived.Test.YtbcangblmadnpacDoorLong3
namespace Go.Proofs.YtbcangblmadnpacDoor
open Go.RowKit
set_option linter.unusedVariables false

theorem grown_of_below {w w' : World} (hb : Below w.heap.size w w') (r : Option Nat) : w.grownBy w' r := ⟨hb.os, hb.tape, hb.output, hb.size, fun k hk _ => hb.block k hk⟩

set_option maxHeartbeats 800000 in
set_option maxRecDepth 100000 in
theorem nextWord_any (base g N i e cap : Nat) (ys : List Int) (b : Option Addr) (cap' : Nat) (ds : List Int) (w : World) (ho : OwnW w base g N ys) (hwy : Wd ys) (him : i + (e + 2) + 1 ≤ N) (hcap : cap = N - i) (hN : N ≤ 1099511627776)
    (h : Reads w base b (e + 2) cap' ds) (hh : 1 ≤ ds[e + 1]?.getD 0) (hLD : segTo ys i (e + 3) < 4294967296 * val ds) :
    Calls Tryd.prog 96 #[.slice (some ⟨g, i, none⟩) (e + 2 + 1) cap, .slice b (e + 2) cap'] w fun x w' => ∃ (q : Int) (us : List Int), x = .returned (.int .u32 q) ∧ 0 ≤ q ∧ q ≤ 4294967295 ∧ OwnW w' base g N us ∧ Wd us ∧
      (∀ j, j < i ∨ i + (e + 2) + 1 ≤ j → us[j]?.getD 0 = ys[j]?.getD 0) ∧ segTo us i (e + 3) = segTo ys i (e + 3) - q * val ds ∧ segTo us i (e + 3) < val ds ∧ w.grownBy w' (some g) := by
  subst hcap
  have hbase := ho.base
  have hbw : base ≤ w.heap.size := by omega
  have HG := hid (guess_any base g N i e _ ys b cap' ds w ho hwy him rfl hN h hh hLD)
  have vd := val_lt h.2.1
  have vd0 := val_nonneg h.2.1
  rw [h.1] at vd
  have sb := segTo_bounds hwy i (e + 3)
  have hpw : (4294967296 : Int) ^ (e + 2) ≤ 4294967296 ^ (e + 3) := pw_le (by omega)
  have HF := hid (And.intro vd (And.intro vd0 (And.intro sb hpw)))
  have HR := hid h
  have HO := hid ho
  clear h ho vd vd0 sb hpw hLD
  go_enter Tryd.func96, Tryd.ntmps96
  go_wp2_with fail
  refine Calls.mono HG.out ?_
  rintro x w1 ⟨q, rfl, q0, q1, ha, hb, hbel⟩
  rw [Int.add_mul, Int.one_mul] at ha
  have HA := hid ha
  have HBB := hid hb
  clear ha hb
  have o1 : OwnW w1 base g N ys := owns_later HO.out hbel
  have r1 := HR.out.later (hbel.mono hbw) (Nat.le_refl _)
  have hs1 := hbel.size
  have HT := hid (takeTimes_any base g N i (e + 2) _ ys b cap' ds q w1 o1 hwy him rfl hN r1 (by omega) ⟨q0, q1⟩)
  have hbel' : Below base w w1 := hbel.mono hbw
  have hg1 := grown_of_below hbel (some g)
  clear o1 HG HO hbel
  go_wp2_with fail
  refine Calls.mono HT.out ?_
  rintro x w2 ⟨sh, us, rfl, o2, wu, ku, hv, hg2⟩
  have hg3 := grown_trans hg1 hg2
  have hb2 : Below base w1 w2 := (Below.refl _ _).grown hg2 (by omega) (fun k hk => by simp at hk; omega)
  have sb2 := segTo_bounds wu i (e + 3)
  rw [show e + 2 + 1 = e + 3 from rfl] at hv
  obtain ⟨vd, vd0, sb, hpw⟩ := HF.out
  have ha := HA.out
  have hb := HBB.out
  cases sh with
  | false =>
    rw [if_neg (by decide)] at hv
    have hlt : segTo us i (e + 3) < val ds := by omega
    have HV : Hid (segTo us i (e + 3) = segTo ys i (e + 3) - q * val ds) := by show _ = _; omega
    have HLT := hid hlt
    clear hv sb sb2 hpw vd vd0 ha hb hlt HT
    go_wp2_with fail
    go_ret
    exact ⟨q, us, rfl, q0, q1, o2, wu, ku, HV.out, HLT.out, hg3⟩
  | true =>
    rw [if_pos rfl] at hv
    have hq1 : 1 ≤ q := by
      by_cases c : q = 0
      · rw [c] at hv; simp at hv; omega
      · omega
    have hbs := hbel'.size
    have HB := hid (giveBack_any base g N i (e + 2) _ us b cap' ds w2 o2 wu him rfl hN (r1.later hb2 (Nat.le_refl _)) (by omega))
    have HV := hid hv
    clear hv o2 ha hb HT vd vd0 sb hpw sb2
    go_wp2_with fail
    refine Calls.mono HB.out ?_
    rintro x w3 ⟨c, zs, rfl, o3, wz, hc, kz, hvz, hg4⟩
    have sb2 := segTo_bounds wu i (e + 3)
    have sb3 := segTo_bounds wz i (e + 3)
    obtain ⟨vd, vd0, sb, hpw⟩ := HF.out
    rw [show e + 2 + 1 = e + 3 from rfl] at hvz
    have e1 : (q - 1) * val ds = q * val ds - val ds := by rw [Int.sub_mul, Int.one_mul]
    have hc1 : c = 1 := by
      rcases hc with hc | hc
      · rw [hc] at hvz
        have := HV.out
        have := HBB.out
        simp at hvz
        omega
      · exact hc
    rw [hc1, Int.one_mul] at hvz
    have HV2 : Hid (segTo zs i (e + 3) = segTo ys i (e + 3) - (q - 1) * val ds) := by show _ = _; rw [e1]; have := HV.out; omega
    have HLT : Hid (segTo zs i (e + 3) < val ds) := by show _ < _; have := HV.out; have := HA.out; have := HBB.out; omega
    have HO3 := hid o3
    have HKZ : Hid (∀ j, j < i ∨ i + (e + 2) + 1 ≤ j → zs[j]?.getD 0 = ys[j]?.getD 0) := fun j hj => by rw [kz j hj]; exact ku j hj
    have hg5 := grown_trans hg3 hg4
    have hqq : IntKind.u32.wrap (q - 1) = q - 1 := by rw [IntKind.wrap_u32]; omega
    clear hvz o3 kz ku e1 hg4 hg3 HB sb sb2 sb3 hpw vd vd0
    go_wp2_with fail
    go_ret
    exact ⟨q - 1, zs, rfl, by omega, by omega, HO3.out, wz, HKZ.out, HV2.out, HLT.out, hg5⟩
end Go.Proofs.YtbcangblmadnpacDoor
