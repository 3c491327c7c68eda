/- My texts on the way to PartsExact, one behind the other: contracts of the program and of the document's answers. -/
import Derived.Test.YtabkgpnckaaclaaGreatDoorL1
import Derived.BigQuiet
import Derived.Deep.LoopGhost
import Derived.Handy
import Derived.Deep.CutRange
import Derived.Deep.Cut
import Derived.Deep.RegionHeld3
import Derived.WalkKit
import Derived.WalkLawsBesides
import Derived.WalkSpells
import Derived.Test.YtabkgpnckaaclaaGreatDoorChecked
/- The document's own long division, its parts: slackwaterref01.below, off, digit; its calls at any slice that can be read. -/
namespace Go.Proofs.YtabkgpnckaaclaaGreatDoor
open Go.RowKit
set_option linter.unusedVariables false

theorem refLess_sl (v u : Value) (xs ys : List Int) (w : World) (h : Sl w v xs) (g : Sl w u ys) (hn : xs.length ≤ 549755813888) (hm : ys.length ≤ 549755813888) (hle : val ys ≤ val xs) : Calls Tryz.prog 137 #[v, u] w (Ref1 w (val xs - val ys)) := by
  obtain ⟨a, cap, rfl, hr⟩ := h
  obtain ⟨b, cap', rfl, gr⟩ := g
  exact refLess_any a _ cap xs b _ cap' ys w hr gr hn hm hle
theorem refTimes_sl (v u : Value) (xs ys : List Int) (w : World) (h : Sl w v xs) (g : Sl w u ys) (hn : xs.length ≤ 274877906944) (hm : ys.length ≤ 274877906944) : Calls Tryz.prog 138 #[v, u] w (Ref1 w (val xs * val ys)) := by
  obtain ⟨a, cap, rfl, hr⟩ := h
  obtain ⟨b, cap', rfl, gr⟩ := g
  exact refTimes_any a _ cap xs b _ cap' ys w hr gr hn hm
theorem refOf_val (x : Int) (w : World) (h0 : 0 ≤ x) (h1 : x ≤ 18446744073709551615) : Calls Tryz.prog 66 #[.int .u64 x] w (Ref1 w x) := by
  refine Calls.mono (refOf_any x w h0 h1) ?_
  rintro e w' ⟨v, rfl, o, hb⟩
  refine ⟨v, _, rfl, owns_len o, (of_wd x h0 h1).trimmed, Trimmed.trimmed _, ?_, hb⟩
  rw [val_trimmed, val_two]
  omega
theorem Ref1.slice {w w' : World} {t : Int} {x : Ending} (h : Ref1 w t x w') : ∃ a c zs, x = .returned (.slice a zs.length c) ∧ w'.ownsRow w.heap.size 88 1 (.slice a zs.length c) zs.length (zs.map (Value.int .u32)) ∧ Wd zs ∧ Trimmed zs ∧ val zs = t ∧ Below w.heap.size w w' := by
  obtain ⟨v, zs, rfl, o, h1, h2, h3, h4⟩ := h
  obtain ⟨a, c, hs⟩ := own_slice' o
  subst hs
  exact ⟨a, c, zs, rfl, o, h1, h2, h3, h4⟩

set_option maxHeartbeats 1600000 in
set_option maxRecDepth 100000 in
theorem refBelow_any (v u : Value) (rs ds : List Int) (x : Int) (w : World) (h : Sl w v rs) (g : Sl w u ds) (hn : rs.length ≤ 274877906944) (hm : ds.length ≤ 274877906944) (x0 : 0 ≤ x) (x1 : x ≤ 4294967295) :
    Calls Tryz.prog 159 #[v, u, .int .u64 x] w fun e w' => e = .returned (.bool (decide (val rs < val ds * x))) ∧ Below w.heap.size w w' := by
  have HO := hid (refOf_val x w x0 (by omega))
  have HX := hid h
  have HD := hid g
  have HN := hid (And.intro hn hm)
  have HX1 := hid x1
  clear h g hn hm x1
  go_enter Tryz.func159, Tryz.ntmps159
  go_wp2_with fail
  refine Calls.mono HO.out ?_
  intro e w1 h1
  obtain ⟨a1, c1, zs, rfl, o1, wz, tz, vz, hb1⟩ := h1.slice
  have lz : zs.length ≤ 1 := len_of_lt wz tz (by rw [vz]; have := HX1.out; omega)
  have HT := hid (refTimes_sl _ _ ds zs w1 (HD.out.later hb1) (Sl.own o1 wz) HN.out.2 (by omega))
  rw [vz] at HT
  have HB1 := hid hb1
  have lzd : zs.length + ds.length ≤ 274877906945 := by have := HN.out.2; omega
  clear h1 o1 wz tz vz hb1 HO
  go_wp2_with fail
  refine Calls.mono HT.out ?_
  intro e w2 h2
  obtain ⟨a2, c2, ps, rfl, o2, wp, tp, vp, hb2⟩ := h2.slice
  have HB2 := hid (bt HB1.out hb2)
  have lp : ps.length ≤ 281474976710656 := by
    have hl := val_lt HD.out.wd
    have e1 : val ps < 4294967296 ^ (ds.length + 1) := by
      rw [vp, pw_succ]
      have p := pw_pos ds.length
      have d0 := val_nonneg HD.out.wd
      have := HX1.out
      have a1 : val ds * x ≤ val ds * 4294967296 := Int.mul_le_mul_of_nonneg_left (by omega) d0
      have a2 : val ds * 4294967296 < 4294967296 ^ ds.length * 4294967296 := Int.mul_lt_mul_of_pos_right hl (by omega)
      omega
    have := len_of_lt wp tp e1
    have := HN.out
    omega
  have HC := hid (refCompare_sl _ _ rs ps w2 (HX.out.later HB2.out) (Sl.own o2 wp) (by have := HN.out; omega) lp)
  rw [vp] at HC
  clear h2 o2 wp tp vp hb2 HT lp HB1
  by_cases hlt : val rs < val ds * x
  · rw [cmpI_lt hlt] at HC
    have HE : Hid (decide (val rs < val ds * x) = true) := decide_eq_true hlt
    clear hlt
    go_wp2_with fail
    refine Calls.mono HC.out ?_
    rintro e w3 ⟨rfl, rfl⟩
    go_wp2_with fail
    go_ret
    exact ⟨ret_bool HE.out.symm, HB2.out⟩
  · have HE : Hid (decide (val rs < val ds * x) = false) := decide_eq_false hlt
    obtain ⟨c, hc, hc'⟩ : ∃ c, cmpI (val rs) (val ds * x) = c ∧ (c = 0 ∨ c = 1) := by
      by_cases e : val rs = val ds * x
      · exact ⟨0, cmpI_eq e, .inl rfl⟩
      · exact ⟨1, cmpI_gt (by omega), .inr rfl⟩
    rw [hc] at HC
    clear hlt hc
    rcases hc' with rfl | rfl
    · go_wp2_with fail
      refine Calls.mono HC.out ?_
      rintro e w3 ⟨rfl, rfl⟩
      go_wp2_with fail
      go_ret
      exact ⟨ret_bool HE.out.symm, HB2.out⟩
    · go_wp2_with fail
      refine Calls.mono HC.out ?_
      rintro e w3 ⟨rfl, rfl⟩
      go_wp2_with fail
      go_ret
      exact ⟨ret_bool HE.out.symm, HB2.out⟩

theorem valTo_mid (ys : List Int) (i l : Nat) : ∀ k, k ≤ l → valTo ((ys.drop i).take l) k = segTo ys i k
  | 0, _ => rfl
  | k + 1, h => by rw [valTo_succ, segTo_succ, valTo_mid ys i l k (by omega), List.getElem?_take, if_pos (by omega), List.getElem?_drop]
theorem val_mid (ys : List Int) (i l : Nat) (h : i + l ≤ ys.length) : val ((ys.drop i).take l) = segTo ys i l := by
  rw [← valTo_mid ys i l l (Nat.le_refl _), valTo_stable _ _ (by rw [List.length_take, List.length_drop]; omega)]
theorem OwnC.mid {w : World} {base g n cap : Nat} {ys : List Int} (h : OwnC w base g n cap ys) (hw : Wd ys) (i l c : Nat) (hil : i + l ≤ n) (hc : l ≤ c) (hcm : c ≤ maxLen) : Sl w (.slice (some ⟨g, i, none⟩) l c) ((ys.drop i).take l) := by
  have hl := h.len
  have hll : ((ys.drop i).take l).length = l := by rw [List.length_take, List.length_drop]; omega
  refine ⟨some ⟨g, i, none⟩, c, by rw [hll], ?_⟩
  rw [hll]
  refine ⟨hll, (hw.drop i).take l, .inr ⟨g, i, rfl, (World.ownsRow.lt h g rfl).2, fun j hj => ?_⟩, hc, hcm, fun e => by simp at e⟩
  rw [h.cell (i + j) (by omega), List.getElem?_take, if_pos hj, List.getElem?_drop]

set_option maxHeartbeats 3200000 in
set_option maxRecDepth 100000 in
theorem refOff_any (base g n cap i l c : Nat) (ys : List Int) (u : Value) (ds : List Int) (x : Int) (w : World) (ho : OwnC w base g n cap ys) (hwy : Wd ys) (hil : i + l ≤ n) (hc : l ≤ c) (hcm : c ≤ maxLen) (hn : n ≤ 137438953472) (hd : Sl w u ds) (hm : ds.length ≤ 137438953472) (x0 : 0 ≤ x) (x1 : x ≤ 4294967295) (hle : val ds * x ≤ segTo ys i l) :
    Calls Tryz.prog 160 #[.slice (some ⟨g, i, none⟩) l c, u, .int .u64 x] w fun e w' => ∃ us, e = .returned (.tuple #[]) ∧ OwnC w' base g n cap us ∧ Wd us ∧ (∀ j, j < i ∨ i + l ≤ j → us[j]?.getD 0 = ys[j]?.getD 0) ∧ segTo us i l = segTo ys i l - val ds * x ∧ w.grownBy w' (some g) := by
  have hgw := (World.ownsRow.lt ho g rfl).2
  have hly := ho.len
  have hll : ((ys.drop i).take l).length = l := by rw [List.length_take, List.length_drop]; omega
  have hvm := val_mid ys i l (by omega)
  have HSR := hid (ho.mid hwy i l c hil hc hcm)
  have HO := hid (refOf_val x w x0 (by omega))
  have HD := hid hd
  have HOY := hid ho
  have HX1 := hid x1
  have HLE := hid hle
  have HVM := hid hvm
  have HLL := hid hll
  clear hd x1 hle ho hvm hll
  go_enter Tryz.func160, Tryz.ntmps160
  go_wp2_with fail
  refine Calls.mono HO.out ?_
  intro e w1 h1
  obtain ⟨a1, c1, zs, rfl, o1, wz, tz, vz, hb1⟩ := h1.slice
  have lz : zs.length ≤ 1 := len_of_lt wz tz (by rw [vz]; have := HX1.out; omega)
  have HT := hid (refTimes_sl _ _ ds zs w1 (HD.out.later hb1) (Sl.own o1 wz) (by omega) (by omega))
  rw [vz] at HT
  have HB1 := hid hb1
  clear h1 o1 wz tz vz hb1 HO lz
  go_wp2_with fail
  refine Calls.mono HT.out ?_
  intro e w2 h2
  obtain ⟨a2, c2, ps, rfl, o2, wp, tp, vp, hb2⟩ := h2.slice
  have HB2 := hid (bt HB1.out hb2)
  have lp : ps.length ≤ 549755813888 := by
    have e1 : val ps < 4294967296 ^ l := by rw [vp]; have := HLE.out; have := (segTo_bounds hwy i l).2; omega
    have := len_of_lt wp tp e1
    omega
  have HF := hid (refLess_sl _ _ ((ys.drop i).take l) ps w2 (HSR.out.later HB2.out) (Sl.own o2 wp) (by rw [HLL.out]; omega) lp (by rw [vp, HVM.out]; exact HLE.out))
  rw [vp, HVM.out] at HF
  clear h2 o2 wp tp vp hb2 HT lp HB1
  go_wp2_with fail
  refine Calls.mono HF.out ?_
  intro e w3 h3
  obtain ⟨a3, c3, qs, rfl, o3, wq, tq, vq, hb3⟩ := h3.slice
  have HB3 := hid (bt HB2.out hb3)
  have lq : qs.length ≤ l := len_of_lt wq tq (by
    rw [vq]
    have h5 := (segTo_bounds hwy i l).2
    have h6 : 0 ≤ val ds * x := Int.mul_nonneg (val_nonneg HD.out.wd) x0
    omega)
  have HQ := hid o3
  have HVQ := hid vq
  have HNE : Hid ((Value.slice a3 qs.length c3).ownBlock = none ∨ (Value.slice a3 qs.length c3).ownBlock ≠ some g) := by
    cases hv : (Value.slice a3 qs.length c3).ownBlock with
    | none => exact .inl rfl
    | some k =>
      right
      intro e
      have e1 := (World.ownsRow.lt o3 k hv).1
      have e2 := HB2.out.size
      have e3 := Option.some.inj e
      omega
  have HOW : Hid (OwnC w3 base g n cap ys) := owns_later HOY.out HB3.out
  have HG3 := hid (grown_of_below HB3.out (some g))
  clear h3 o3 vq hb3 HF HB2 HB3 HOY HSR
  go_wp2_with fail
  go_loopw [7] (fun t wr => ∃ (k : Nat) (us : List Int), k ≤ l ∧ t = .int .i64 k ∧ Wd us ∧ Hid (∀ j, j < i ∨ i + k ≤ j → us[j]?.getD 0 = ys[j]?.getD 0) ∧ Hid (∀ j, j < k → us[i + j]?.getD 0 = qs[j]?.getD 0) ∧ OwnC wr base g n cap us ∧ w3.grownBy wr (some g)) (fun t _ => l - (intOf t).toNat)
  case atStart => exact ⟨0, ys, by omega, rfl, hwy, fun _ _ => rfl, fun j hj => by omega, HOW.out, World.grownBy.refl _ _⟩
  case round =>
    obtain ⟨k, us, hk, rfl, hwu, HK, HQK, hou, hg⟩ := hrel
    by_cases hlt : k < l
    · have y1 := hou.cell (i + k) (by omega)
      have f1 := hou.free (i + k)
      have hlu := hou.len
      have hsq := Sl.own (World.ownsRow.kept HQ.out hg HNE.out) wq
      obtain ⟨aq, cq, hv, hrq⟩ := hsq
      simp only [Value.slice.injEq, true_and] at hv
      obtain ⟨rfl, rfl⟩ := hv
      have HW := hid (word_any _ _ _ qs _ (k : Int) wr hrq (by omega) (by omega))
      rw [Int.toNat_natCast] at HW
      have bq := wq.at k
      have HKN : Hid (∀ j, j < i ∨ i + (k + 1) ≤ j → (us.set (i + k) (qs[k]?.getD 0))[j]?.getD 0 = ys[j]?.getD 0) := fun j hj => by
        rw [List.getElem?_set, if_neg (by omega)]
        exact HK.out j (by omega)
      have HQN : Hid (∀ j, j < k + 1 → (us.set (i + k) (qs[k]?.getD 0))[i + j]?.getD 0 = qs[j]?.getD 0) := fun j hj => by
        rw [List.getElem?_set]
        by_cases e : k = j
        · subst e; rw [if_pos rfl, if_pos (by omega)]; rfl
        · rw [if_neg (by omega)]; exact HQK.out j (by omega)
      have HO' := hid (hou.set (i + k) (qs[k]?.getD 0)).1
      have HG' := hid (grown_trans hg (hou.set (i + k) (qs[k]?.getD 0)).2)
      have hw' := hwu.set (i + k) bq
      have HW' := hid hw'
      obtain ⟨q, hq⟩ : ∃ q, qs[k]?.getD 0 = q := ⟨_, rfl⟩
      rw [hq] at HW HKN HQN HO' HG' HW' bq
      clear hlu hou hg HK HQK hq hrq hw'
      go_wp2_with fail
      refine Calls.mono HW.out ?_
      rintro e w' ⟨rfl, rfl⟩
      go_wp2_with fail
      go_roundw
      case rel => exact ⟨k + 1, us.set (i + k) q, by omega, by go_num, HW'.out, HKN, HQN, HO'.out, HG'.out⟩
      case measure => simp [intOf]; omega
    · obtain rfl : k = l := by omega
      have HS : Hid (segTo us i k = segTo ys i k - val ds * x) := by
        show _ = _
        rw [← HVQ.out, ← valTo_stable qs k lq, ← segTo_zero]
        have e : ∀ j, j ≤ k → segTo us i j = segTo qs 0 j := fun j hj => by
          induction j with
          | zero => rfl
          | succ j ih => rw [segTo_succ, segTo_succ, ih (by omega), HQK.out j (by omega), Nat.zero_add]
        exact e k (Nat.le_refl _)
      clear HQK
      go_wp2_with fail
      go_end0
      exact ⟨us, rfl, hou, hwu, HK.out, HS.out, grown_trans HG3.out hg⟩
end Go.Proofs.YtabkgpnckaaclaaGreatDoor

/- The document's own long division, one word of it: slackwaterref01.digit. -/
namespace Go.Proofs.YtabkgpnckaaclaaGreatDoor
open Go.RowKit
set_option linter.unusedVariables false

/-- The first words tell the quotient's word, or more. -/
theorem digit_guess (P lo top dl dt q S D : Int) (hP : 0 < P) (lo1 : lo < P) (dl0 : 0 ≤ dl) (hd : 1 ≤ dt) (hS : S = lo + top * P) (hD : D = dl + dt * P) (q0 : 0 ≤ q) (hq : q * D ≤ S) : q ≤ top / dt := by
  have e1 : q * (dt * P) ≤ q * D := Int.mul_le_mul_of_nonneg_left (by omega) q0
  have e2 : q * dt * P < (top + 1) * P := by rw [Int.mul_assoc, Int.add_mul]; omega
  have e3 := Int.lt_of_mul_lt_mul_right e2 (by omega)
  exact Int.le_ediv_of_mul_le (by omega) (by omega)
theorem seg_two (ys : List Int) (i e : Nat) : segTo ys i (e + 2) = segTo ys i e + (ys[i + e]?.getD 0 + ys[i + (e + 1)]?.getD 0 * 4294967296) * 4294967296 ^ e := by
  rw [segTo_succ, segTo_succ, pw_succ]
  generalize (4294967296 : Int) ^ e = P
  grind
theorem val_top (ds : List Int) (e : Nat) (h : ds.length = e + 1) : val ds = valTo ds e + ds[e]?.getD 0 * 4294967296 ^ e := by
  unfold val; rw [h, valTo_succ]

set_option maxHeartbeats 3200000 in
set_option maxRecDepth 100000 in
theorem refDigit_any (base g n cap i e c : Nat) (ys : List Int) (b : Option Addr) (cap' : Nat) (ds : List Int) (w : World) (ho : OwnC w base g n cap ys) (hwy : Wd ys) (hil : i + (e + 2) ≤ n) (hc : e + 2 ≤ c) (hcm : c ≤ maxLen) (hn : n ≤ 137438953472) (hd : Sl w (.slice b (e + 1) cap') ds) (hlen : ds.length = e + 1) (hh : 1 ≤ ds[e]?.getD 0) (hLD : segTo ys i (e + 2) < 4294967296 * val ds) :
    Calls Tryz.prog 146 #[.slice (some ⟨g, i, none⟩) (e + 2) c, .slice b (e + 1) cap'] w fun x w' => ∃ (q : Int) (us : List Int), x = .returned (.int .u32 q) ∧ 0 ≤ q ∧ q ≤ 4294967295 ∧ OwnC w' base g n cap us ∧ Wd us ∧ (∀ j, j < i ∨ i + (e + 2) ≤ j → us[j]?.getD 0 = ys[j]?.getD 0) ∧ segTo us i (e + 2) = segTo ys i (e + 2) - q * val ds ∧ segTo us i (e + 2) < val ds ∧ w.grownBy w' (some g) := by
  have hwd := hd.wd
  have hD1 := val_top ds e hlen
  have hS1 := seg_two ys i e
  have P0 := pw_pos e
  have lob := segTo_bounds hwy i e
  have dlb := valTo_bounds hwd e
  have hD0 : 0 < val ds := by
    rw [hD1]
    have : 1 * (4294967296 : Int) ^ e ≤ ds[e]?.getD 0 * 4294967296 ^ e := Int.mul_le_mul_of_nonneg_right hh (by omega)
    omega
  have hS0 := (segTo_bounds hwy i (e + 2)).1
  obtain ⟨q, hq⟩ : ∃ q, segTo ys i (e + 2) / val ds = q := ⟨_, rfl⟩
  have q0 : 0 ≤ q := by rw [← hq]; exact Int.ediv_nonneg hS0 (by omega)
  have hq1 : q * val ds ≤ segTo ys i (e + 2) := by rw [← hq]; exact Int.ediv_mul_le _ (by omega)
  have hq2 : segTo ys i (e + 2) < (q + 1) * val ds := by rw [← hq]; exact Int.lt_ediv_add_one_mul_self _ hD0
  have q1 : q ≤ 4294967295 := by
    have : q * val ds < 4294967296 * val ds := by omega
    have := Int.lt_of_mul_lt_mul_right this (by omega)
    omega
  have bu0 := hwy.at (i + e)
  have bu1 := hwy.at (i + (e + 1))
  have bd := hwd.at e
  have y0 := ho.cell (i + e) (by omega)
  have y1 := ho.cell (i + (e + 1)) (by omega)
  have hG := digit_guess (4294967296 ^ e) (segTo ys i e) (ys[i + e]?.getD 0 + ys[i + (e + 1)]?.getD 0 * 4294967296) (valTo ds e) (ds[e]?.getD 0) q _ _ P0 lob.2 dlb.1 hh hS1 hD1 q0 hq1
  obtain ⟨bd1, od1, rfl, ldd, d1⟩ : ∃ b1 o1, b = some ⟨b1, o1, none⟩ ∧ b1 < w.heap.size ∧ w.cell? ⟨b1, o1 + e, none⟩ = some (.int .u32 (ds[e]?.getD 0)) := by
    obtain ⟨a', cap'', hv, hr⟩ := hd
    rw [hlen] at hv hr
    simp only [Value.slice.injEq, true_and] at hv
    obtain ⟨rfl, rfl⟩ := hv
    exact hr.cells e (by omega)
  have hly := ho.len
  have HBE := hid (fun ww (hb : Below w.heap.size w ww) X (h0 : 0 ≤ X) (h1 : X ≤ 4294967295) => refBelow_any _ _ ((ys.drop i).take (e + 2)) ds X ww ((ho.mid hwy i (e + 2) c hil hc hcm).later hb) (hd.later hb) (by rw [List.length_take, List.length_drop]; omega) (by omega) h0 h1)
  rw [val_mid ys i (e + 2) (by omega)] at HBE
  have HOF := hid (fun ww (hb : Below w.heap.size w ww) => refOff_any base g n cap i (e + 2) c ys _ ds q ww (owns_later ho hb) hwy hil hc hcm hn (hd.later hb) (by omega) q0 q1 (by rw [Int.mul_comm]; exact hq1))
  have HQ := hid (And.intro hq1 hq2)
  have HWY := hid hwy
  have HD0 := hid hD0
  obtain ⟨u0, hu0⟩ : ∃ u0, ys[i + e]?.getD 0 = u0 := ⟨_, rfl⟩
  obtain ⟨u1, hu1⟩ : ∃ u1, ys[i + (e + 1)]?.getD 0 = u1 := ⟨_, rfl⟩
  obtain ⟨dt, hdt⟩ : ∃ dt, ds[e]?.getD 0 = dt := ⟨_, rfl⟩
  rw [hu0] at y0 bu0 hG
  rw [hu1] at y1 bu1 hG
  rw [hdt] at d1 bd hG hh
  obtain ⟨top, htop⟩ : ∃ top, u1 * 4294967296 + u0 = top := ⟨_, rfl⟩
  have t0 : 0 ≤ top ∧ top ≤ 18446744073709551615 := by omega
  rw [show u0 + u1 * 4294967296 = top by omega] at hG
  have g0 : 0 ≤ top / dt := Int.ediv_nonneg (by omega) (by omega)
  have g1 : top / dt ≤ top := Int.ediv_le_self _ (by omega)
  have hdz : ¬ dt = 0 := by omega
  obtain ⟨G, hGG⟩ : ∃ G, top / dt = G := ⟨_, rfl⟩
  rw [hGG] at hG g0 g1
  have hei : (e : Int) + 1 - 1 = (e : Int) := by omega
  clear hwd hD1 hS1 P0 lob dlb hD0 hS0 hq hq1 hq2 ho hd hlen hLD hu0 hu1 hdt hwy hly
  by_cases hmin : G ≤ 4294967295
  · go_enter Tryz.func146, Tryz.ntmps146
    go_wp2_with fail
    go_quiet (fail)
    go_wp2_with fail
    clear hGG htop
    go_loopw [7] (fun t wr => ∃ X : Int, t = .int .u64 X ∧ q ≤ X ∧ X ≤ 4294967295 ∧ Below w.heap.size w wr) (fun t _ => (intOf t).toNat)
    case atStart => exact ⟨G, rfl, by omega, by omega, bdw (Below.refl _ _) _⟩
    case round =>
      obtain ⟨X, rfl, hX0, hX1, hb⟩ := hrel
      have HB := hid hb
      have HC := hid (HBE.out wr hb X (by omega) hX1)
      by_cases hlt : q < X
      · have hdec : decide (segTo ys i (e + 2) < val ds * X) = true := decide_eq_true (by
          have a1 := HQ.out.2
          have a2 : (q + 1) * val ds ≤ X * val ds := Int.mul_le_mul_of_nonneg_right (by omega) (Int.le_of_lt HD0.out)
          rw [Int.mul_comm (val ds)]
          omega)
        rw [hdec] at HC
        clear hb hdec
        go_wp2_with fail
        refine Calls.mono HC.out ?_
        rintro x w2 ⟨rfl, hb2⟩
        have HB2 := hid (bt HB.out hb2)
        clear hb2
        go_wp2_with fail
        go_roundw
        case rel => exact ⟨X - 1, rfl, by omega, by omega, HB2.out⟩
        case measure => simp [intOf]; omega
      · obtain rfl : X = q := by omega
        have hdec : decide (segTo ys i (e + 2) < val ds * X) = false := decide_eq_false (by
          have a1 := HQ.out.1
          rw [Int.mul_comm (val ds)]
          omega)
        rw [hdec] at HC
        clear hb hdec
        go_wp2_with fail
        refine Calls.mono HC.out ?_
        rintro x w2 ⟨rfl, hb2⟩
        have HB2 := hid (bt HB.out hb2)
        have HF := hid (HOF.out w2 HB2.out)
        clear hb2 HC HBE HOF
        go_wp2_with fail
        refine Calls.mono HF.out ?_
        rintro x w3 ⟨us, rfl, o3, w3', k3, s3, g3⟩
        have HR := hid (And.intro o3 (And.intro w3' (And.intro k3 (And.intro s3 (grown_trans (grown_of_below HB2.out (some g)) g3)))))
        clear o3 w3' k3 s3 g3 HF
        go_wp2_with fail
        go_ret
        refine ⟨X, us, rfl, q0, q1, HR.out.1, HR.out.2.1, HR.out.2.2.1, by rw [Int.mul_comm]; exact HR.out.2.2.2.1, ?_, HR.out.2.2.2.2⟩
        have a1 := HR.out.2.2.2.1
        have a2 := HQ.out.2
        rw [Int.mul_comm] at a1
        rw [Int.add_mul] at a2
        omega
  · go_enter Tryz.func146, Tryz.ntmps146
    go_wp2_with fail
    go_quiet (fail)
    go_wp2_with fail
    clear hGG htop
    go_loopw [7] (fun t wr => ∃ X : Int, t = .int .u64 X ∧ q ≤ X ∧ X ≤ 4294967295 ∧ Below w.heap.size w wr) (fun t _ => (intOf t).toNat)
    case atStart => exact ⟨4294967295, rfl, by omega, by omega, bdw (Below.refl _ _) _⟩
    case round =>
      obtain ⟨X, rfl, hX0, hX1, hb⟩ := hrel
      have HB := hid hb
      have HC := hid (HBE.out wr hb X (by omega) hX1)
      by_cases hlt : q < X
      · have hdec : decide (segTo ys i (e + 2) < val ds * X) = true := decide_eq_true (by
          have a1 := HQ.out.2
          have a2 : (q + 1) * val ds ≤ X * val ds := Int.mul_le_mul_of_nonneg_right (by omega) (Int.le_of_lt HD0.out)
          rw [Int.mul_comm (val ds)]
          omega)
        rw [hdec] at HC
        clear hb hdec
        go_wp2_with fail
        refine Calls.mono HC.out ?_
        rintro x w2 ⟨rfl, hb2⟩
        have HB2 := hid (bt HB.out hb2)
        clear hb2
        go_wp2_with fail
        go_roundw
        case rel => exact ⟨X - 1, rfl, by omega, by omega, HB2.out⟩
        case measure => simp [intOf]; omega
      · obtain rfl : X = q := by omega
        have hdec : decide (segTo ys i (e + 2) < val ds * X) = false := decide_eq_false (by
          have a1 := HQ.out.1
          rw [Int.mul_comm (val ds)]
          omega)
        rw [hdec] at HC
        clear hb hdec
        go_wp2_with fail
        refine Calls.mono HC.out ?_
        rintro x w2 ⟨rfl, hb2⟩
        have HB2 := hid (bt HB.out hb2)
        have HF := hid (HOF.out w2 HB2.out)
        clear hb2 HC HBE HOF
        go_wp2_with fail
        refine Calls.mono HF.out ?_
        rintro x w3 ⟨us, rfl, o3, w3', k3, s3, g3⟩
        have HR := hid (And.intro o3 (And.intro w3' (And.intro k3 (And.intro s3 (grown_trans (grown_of_below HB2.out (some g)) g3)))))
        clear o3 w3' k3 s3 g3 HF
        go_wp2_with fail
        go_ret
        refine ⟨X, us, rfl, q0, q1, HR.out.1, HR.out.2.1, HR.out.2.2.1, by rw [Int.mul_comm]; exact HR.out.2.2.2.1, ?_, HR.out.2.2.2.2⟩
        have a1 := HR.out.2.2.2.1
        have a2 := HQ.out.2
        rw [Int.mul_comm] at a1
        rw [Int.add_mul] at a2
        omega
end Go.Proofs.YtabkgpnckaaclaaGreatDoor

/- The document's own quotient and rest: slackwaterref01.Over. -/
namespace Go.Proofs.YtabkgpnckaaclaaGreatDoor
open Go.RowKit
set_option linter.unusedVariables false

/-- A quotient and a rest, in new memory. -/
def Ref2 (w : World) (xs ys : List Int) (x : Ending) (w' : World) : Prop := ∃ v zs u rs, x = .returned (.tuple #[v, u]) ∧ w'.ownsRow w.heap.size 88 1 v zs.length (zs.map (Value.int .u32)) ∧ w'.ownsRow w.heap.size 88 1 u rs.length (rs.map (Value.int .u32)) ∧ Wd zs ∧ Wd rs ∧ Trimmed zs ∧ Trimmed rs ∧ val xs = val zs * val ys + val rs ∧ val rs < val ys ∧ Below w.heap.size w w'
theorem refDown_zero (v : Value) (xs : List Int) (t : Nat) (w : World) (h : Sl w v xs) (hn : xs.length ≤ 274877906944) (ht : t ≤ 31) :
    Calls Tryz.prog 124 #[v, .int .i64 (t : Int)] w (Ref1 w (val xs / 2 ^ t)) := by
  obtain ⟨a, cap, rfl, hr⟩ := h
  by_cases h0 : xs.length = 0
  · refine Calls.mono (refDown_none a xs.length cap 0 t (t : Int) w hn (by omega) (by omega) ht (by omega)) ?_
    rintro e w' ⟨rfl, rfl⟩
    have hx : xs = [] := List.eq_nil_of_length_eq_zero h0
    refine ⟨_, [], rfl, World.ownsRow_nil _ _ _ _, Wd.nil, Trimmed.nil, ?_, Below.refl _ _⟩
    rw [hx, val_nil]; simp
  · have e := refDown_any a xs.length cap xs 0 t (t : Int) w hr hn (by omega) ht (by omega)
    rw [Int.pow_zero, Int.ediv_one] at e
    exact e
theorem refUp_zero (v : Value) (xs : List Int) (t : Nat) (w : World) (h : Sl w v xs) (hn : xs.length ≤ 274877906944) (h0 : 0 < xs.length) (ht : t ≤ 31) :
    Calls Tryz.prog 125 #[v, .int .i64 (t : Int)] w (Ref1 w (val xs * 2 ^ t)) := by
  obtain ⟨a, cap, rfl, hr⟩ := h
  have e := refUp_any a xs.length cap xs 0 t (t : Int) w hr hn h0 (by omega) ht (by omega)
  rw [Int.pow_zero, Int.mul_one] at e
  exact e
/-- A stretch of one word more that is below the divisor has a nought at its end. -/
theorem seg_end {vs : List Int} (wv : Wd vs) (k m : Nat) {D : Int} (hD : D < 4294967296 ^ m) (h : segTo vs k (m + 1) < D) : vs[k + m]?.getD 0 = 0 := by
  have hb := wv.at (k + m)
  have sb := segTo_nonneg wv k m
  by_cases c : vs[k + m]?.getD 0 = 0
  · exact c
  · have : 1 * (4294967296 : Int) ^ m ≤ vs[k + m]?.getD 0 * 4294967296 ^ m := Int.mul_le_mul_of_nonneg_right (by omega) (Int.le_of_lt (pw_pos m))
    rw [segTo_succ] at h
    omega
theorem bits_gap {ys : List Int} (hy : Trimmed ys) (e : Nat) (hl : ys.length = e + 2) (h1 : ys[e + 1]?.getD 0 ≤ 4294967295) : 32 * ((e : Int) + 2) - (bitsOf ys : Int) = ((32 - Lib.bitLen (ys[e + 1]?.getD 0).toNat : Nat) : Int) := by
  have hs : sz ys = e + 2 := by rw [← hl]; exact hy
  have hb := bitLen_le32 _ h1
  unfold bitsOf
  rw [hs, if_neg (by omega), show e + 2 - 1 = e + 1 by omega]
  omega
theorem len_of_ge {zs : List Int} (hw : Wd zs) {L : Nat} (h : (4294967296 : Int) ^ L ≤ val zs) : L < zs.length := by
  by_cases c : L < zs.length
  · exact c
  · have h1 := val_lt hw
    have h2 := pw_le (show zs.length ≤ L by omega)
    omega
theorem val_snoc_zero (ls : List Int) : val (ls ++ [0]) = val ls := by
  refine val_eq_of fun j => ?_
  rw [List.getElem?_append]
  split
  · rfl
  · rw [List.getElem?_eq_none (l := ls) (by omega)]
    by_cases e : j - ls.length = 0
    · rw [e]; rfl
    · rw [List.getElem?_eq_none (by simp; omega)]
theorem own_shape0 {w : World} {base e n : Nat} {v : Value} {xs : List Value} (h : w.ownsRow base e 1 v n xs) (hn : 0 < n) : ∃ g cap, v = .slice (some ⟨g, 0, none⟩) n cap ∧ base ≤ g ∧ g < w.heap.size ∧ n ≤ cap ∧ cap ≤ maxLen := by
  obtain ⟨g, cap, rfl, h1, h2⟩ := own_shape' h hn
  have := World.ownsRow.lt h g rfl
  exact ⟨g, cap, rfl, this.1, this.2, h1, h2⟩

set_option maxHeartbeats 1600000 in
set_option maxRecDepth 100000 in
theorem refOver_less (v u : Value) (xs ys : List Int) (w : World) (h : Sl w v xs) (g : Sl w u ys) (hn : xs.length ≤ 8200) (hm : ys.length ≤ 8200) (hlt : val xs < val ys) :
    Calls Tryz.prog 129 #[v, u] w (Ref2 w xs ys) := by
  have HC := hid (refCompare_sl _ _ xs ys w h g (by omega) (by omega))
  rw [cmpI_lt hlt] at HC
  have HT := hid (refTrim_sl _ xs w h (by omega))
  have HLT := hid hlt
  have HW := hid h.wd
  clear h g hlt
  go_enter Tryz.func129, Tryz.ntmps129
  go_wp2_with fail
  refine Calls.mono HC.out ?_
  rintro e w1 ⟨rfl, rfl⟩
  go_wp2_with fail
  refine Calls.mono HT.out ?_
  rintro e w2 ⟨v2, rfl, o2, hb2⟩
  have HO := hid (And.intro (owns_len o2) hb2)
  clear o2 hb2
  go_wp2_with fail
  go_ret2
  exact ⟨_, [], v2, _, rfl, World.ownsRow_nil _ _ _ _, HO.out.1, Wd.nil, HW.out.trimmed, Trimmed.nil, Trimmed.trimmed _, by rw [val_trimmed, val_nil]; omega, by rw [val_trimmed]; exact HLT.out, HO.out.2⟩

set_option maxHeartbeats 1600000 in
set_option maxRecDepth 100000 in
theorem refOver_word (v u : Value) (xs : List Int) (y : Int) (w : World) (h : Sl w v xs) (g : Sl w u [y]) (hn : xs.length ≤ 8200) (hy : 1 ≤ y) (hge : y ≤ val xs) :
    Calls Tryz.prog 129 #[v, u] w (Ref2 w xs [y]) := by
  have HC := hid (refCompare_sl _ _ xs [y] w h g (by omega) (by simp))
  have by' := g.wd.at 0
  simp at by'
  obtain ⟨a, cap, rfl, hr⟩ := h
  obtain ⟨b, cap', rfl, gr⟩ := g
  obtain ⟨b1, o1, rfl, l1, c1⟩ := gr.cells 0 (by simp)
  simp at c1
  have hcap := gr.2.2.2.1
  simp at hcap
  have HS := hid (refSmall_any a _ cap xs y w hr (by omega) ⟨hy, by omega⟩)
  rw [val_one] at HC
  obtain ⟨cc, hcc, hcv⟩ : ∃ c, cmpI (val xs) y = c ∧ (c = 0 ∨ c = 1) := by
    by_cases e : val xs = y
    · exact ⟨0, cmpI_eq e, .inl rfl⟩
    · exact ⟨1, cmpI_gt (by omega), .inr rfl⟩
  rw [hcc] at HC
  have hl1 : List.length [y] = 1 := rfl
  rw [hl1] at HC ⊢
  clear hr gr hge hcc hl1
  rcases hcv with rfl | rfl
  all_goals
    go_enter Tryz.func129, Tryz.ntmps129
    go_wp2_with fail
    refine Calls.mono HC.out ?_
    rintro e w1 ⟨rfl, rfl⟩
    go_wp2_with fail
    refine Calls.mono HS.out ?_
    rintro e w2 ⟨v2, zs, r, rfl, o2, wz, tz, hv, r0, r1, hb2⟩
    have r2 : r ≤ 4294967295 := by omega
    have HO := hid (refOf_val r w2 r0 (by omega))
    have HR := hid (And.intro o2 (And.intro hb2 (And.intro hv r1)))
    clear o2 hb2 hv HC HS r1
    go_wp2_with fail
    refine Calls.mono HO.out ?_
    rintro e w3 ⟨v3, rs, rfl, o3, wr, tr, hvr, hb3⟩
    have HQ := hid (And.intro (owns_base o3 HR.out.2.1.size) (And.intro (owns_later HR.out.1 hb3) (And.intro (bt HR.out.2.1 hb3) hvr)))
    clear o3 hb3 hvr HO
    go_wp2_with fail
    go_ret2
    exact ⟨v2, zs, v3, rs, rfl, HQ.out.2.1, HQ.out.1, wz, wr, tz, tr, by rw [HQ.out.2.2.2, val_one]; exact HR.out.2.2.1, by rw [HQ.out.2.2.2, val_one]; exact HR.out.2.2.2, HQ.out.2.2.1⟩
end Go.Proofs.YtabkgpnckaaclaaGreatDoor

/- The document's own long division, whole: slackwaterref01.Over of any two numbers. -/
namespace Go.Proofs.YtabkgpnckaaclaaGreatDoor
open Go.RowKit
set_option linter.unusedVariables false

theorem grown_set' (w : World) (p : Addr) (v : Value) : w.grownBy (w.setCell p v) (some p.block) :=
  ⟨rfl, rfl, rfl, by simp [World.setCell], fun k _ hne => Below.heap_setCell w p v k (fun e => hne (by rw [e]))⟩

set_option maxHeartbeats 12800000 in
set_option maxRecDepth 100000 in
theorem refOver_long (v u : Value) (xs ys : List Int) (e : Nat) (w : World) (h : Sl w v xs) (g : Sl w u ys) (hn : xs.length ≤ 8200) (hm : ys.length ≤ 8200) (hx : Trimmed xs) (hy : Trimmed ys) (hl : ys.length = e + 2) (hge : val ys ≤ val xs) :
    Calls Tryz.prog 129 #[v, u] w (Ref2 w xs ys) := by
  obtain ⟨i0, hi, hz0, hz1, hz2⟩ := info_parts Tryz.infoW
  have wx := h.wd
  have wy := g.wd
  have hyx := len_of_lt wy hy (L := xs.length) (by have := val_lt wx; omega)
  obtain ⟨s1, s2, s3, s4, s5⟩ := normal wy hy e hl
  have hgap := bits_gap hy e hl s2
  obtain ⟨t, ht⟩ : ∃ t, 32 - Lib.bitLen (ys[e + 1]?.getD 0).toNat = t := ⟨_, rfl⟩
  rw [ht] at s3 s4 s5 hgap
  have HC := hid (refCompare_sl _ _ xs ys w h g (by omega) (by omega))
  obtain ⟨cc, hcc, hcv⟩ : ∃ c, cmpI (val xs) (val ys) = c ∧ (c = 0 ∨ c = 1) := by
    by_cases e : val xs = val ys
    · exact ⟨0, cmpI_eq e, .inl rfl⟩
    · exact ⟨1, cmpI_gt (by omega), .inr rfl⟩
  rw [hcc] at HC
  have HB := hid (refBits_sl _ ys w g (by omega))
  have HSX := hid h
  have HSY := hid g
  have HN := hid (And.intro s4 (And.intro s5 (And.intro hge hl)))
  have hyn : e + 2 ≤ xs.length := by omega
  obtain ⟨a, cap, rfl, hr⟩ := h
  obtain ⟨b, cap', rfl, gr⟩ := g
  rw [hl] at HC HB ⊢
  obtain ⟨B, hB⟩ : ∃ B, bitsOf ys = B := ⟨_, rfl⟩
  rw [hB] at HB hgap
  have hB0 : (B : Int) ≤ 1000000 := by omega
  have HY' : Hid (Sl w (.slice b (e + 2) cap') ys) := by have e1 := HSY.out; rw [hl] at e1; exact e1
  clear hr gr hcc s1 s2 s4 s5 ht hge hl hB HSY hm hyx
  have hnl : ¬ cc < 0 := by omega
  have hc1 : cc ≤ 1 := by omega
  clear hcv
  skip
  · skip
    go_enter Tryz.func129, Tryz.ntmps129
    go_wp2_with fail
    refine Calls.mono HC.out ?_
    rintro x w' ⟨rfl, rfl⟩
    clear HC
    go_wp2_with fail
    refine Calls.mono HB.out ?_
    rintro x wB ⟨rfl, hbB⟩
    have HU1 := hid (refUp_zero _ ys t wB (HY'.out.later hbB) (by have := HN.out.2.2.2; omega) (by have := HN.out.2.2.2; omega) s3)
    have HBB := hid hbB
    clear hbB HB
    go_wp2_with fail
    refine Calls.mono HU1.out ?_
    intro x w1 h1
    obtain ⟨a1, c1, ds, rfl, oD, wD, tD, vD, hb1⟩ := h1.slice
    have hDl : ds.length = e + 2 := by
      have l1 := len_of_lt wD tD (L := e + 2) (by rw [vD]; exact HN.out.1)
      have l2 := len_of_ge wD (L := e + 1) (by
        rw [vD]
        have q1 := HN.out.2.1
        have q2 : (4294967296 : Int) ^ (e + 2) = 4294967296 ^ (e + 1) * 4294967296 := pw_succ (e + 1)
        have q3 := pw_pos (e + 1)
        omega)
      omega
    have hDt := top_one wD e hDl (by rw [vD]; exact HN.out.2.1)
    have HDG : Hid ((4294967296 : Int) ^ (e + 1) ≤ val ds) := by
      show _ ≤ _
      rw [vD]
      have q1 := HN.out.2.1
      have q2 : (4294967296 : Int) ^ (e + 2) = 4294967296 ^ (e + 1) * 4294967296 := pw_succ (e + 1)
      have q3 := pw_pos (e + 1)
      omega
    have HDM : Hid (val ds < 4294967296 ^ (e + 2)) := by show _ < _; rw [vD]; exact HN.out.1
    have HB1 := hid (bt HBB.out hb1)
    have HD := hid (Sl.own oD wD)
    rw [hDl] at HD
    have HU2 := hid (refUp_zero _ xs t w1 (HSX.out.later HB1.out) (by omega) (by omega) s3)
    have HVD := hid vD
    have HDl := hid hDl
    have HDt := hid hDt
    have HWD := hid wD
    rw [hDl]
    clear h1 oD wD tD vD hb1 hDl hDt HU1 HBB
    go_wp2_with fail
    refine Calls.mono HU2.out ?_
    intro x w2 h2
    obtain ⟨a2, c2, ls, rfl, oL, wL, tL, vL, hb2⟩ := h2.slice
    have hLl : e + 2 ≤ ls.length := by
      have := len_of_ge wL (L := e + 1) (by
        rw [vL]
        have q1 := HN.out.2.1
        have q2 : (4294967296 : Int) ^ (e + 2) = 4294967296 ^ (e + 1) * 4294967296 := pw_succ (e + 1)
        have q3 := pw_pos (e + 1)
        have q4 : val ys * 2 ^ t ≤ val xs * 2 ^ t := Int.mul_le_mul_of_nonneg_right HN.out.2.2.1 (Int.le_of_lt (two_pos t))
        omega)
      omega
    have hLm : ls.length ≤ 8201 := len_of_lt wL tL (by
      rw [vL]
      have q1 := val_lt wx
      have q2 : (4294967296 : Int) ^ (xs.length + 1) ≤ 4294967296 ^ 8201 := pw_le (by omega)
      have q3 : (2 : Int) ^ t ≤ 2 ^ 32 := two_le (by omega)
      have q4 : val xs * 2 ^ t ≤ val xs * 2 ^ 32 := Int.mul_le_mul_of_nonneg_left q3 (val_nonneg wx)
      rw [pw_succ] at q2
      generalize (4294967296 : Int) ^ 8201 = Z at *
      generalize (4294967296 : Int) ^ xs.length = Y at *
      have q5 : (2 : Int) ^ 32 = 4294967296 := by decide
      rw [q5] at q4
      omega)
    have hs2 := hb2.size
    have HVL := hid vL
    have HB2 := hid hb2
    have HWL := hid wL
    have oL' := oL
    obtain ⟨R, hR⟩ : ∃ R, R = ls.map (Value.int .u32) := ⟨_, rfl⟩
    obtain ⟨L, hL⟩ : ∃ L, ls.length = L := ⟨_, rfl⟩
    rw [← hR, hL] at oL
    rw [hL] at hLl hLm ⊢
    have HRL : Hid (R ++ [.int .u32 0] = (ls ++ [0]).map (Value.int .u32)) := by show _ = _; rw [hR]; simp
    have HLL := hid hL
    clear h2 oL' vL hb2 HU2 hR hL tL wL
    go_wp2_with (at_builtin; refine wpList_append_own _ rfl _ _ 23 rfl w1.heap.size 88 i0 (.int .u32 0) 1 4 Tryz.underlying23 hi hz0 hz1 hz2 rfl (by decide) _ _ _ rfl (oL.alloc _) ⟨w2.heap.size, 0, none⟩ 1 1 [.int .u32 0] rfl rfl (cell_one_new _ _ _) (by simp [Value.oneCell']) (by unfold maxLen; omega) (by omega) (by simp; omega) ?_)
    intro v3 w3 o3 hg3 _
    have hb3 : Below w1.heap.size w1 w3 := (HB2.out.alloc (by omega) _).grown hg3 (by simp; omega) (fun g hg => (oL.lt g hg).1)
    clear hg3 oL
    rw [HRL.out] at o3
    obtain ⟨gR, cR, hv3, gb, gl, cl, cm⟩ := own_shape0 o3 (by omega)
    subst hv3
    obtain ⟨K, hK1, hK2⟩ : ∃ K, L + 1 ≤ K + (e + 2) ∧ K + (e + 2) ≤ L + 1 := ⟨L + 1 - (e + 2), by omega, by omega⟩
    have HO3 : Hid (OwnC w3 w1.heap.size gR (L + 1) cR (ls ++ [0])) := o3
    have HB3 := hid hb3
    have hs3 := hb3.size
    have hKi : ((L : Int) + 1 - ((e : Int) + 2)) = (K : Int) := by omega
    clear o3 hb3 HRL
    go_wp2_with (at_make; refine wpList_make_full _ rfl _ _ 23 rfl w3.heap.size 88 i0 (.int .u32 0) 1 Tryz.underlying23 hi hz0 hz1 _ _ _ _ K rfl rfl (by omega) (by omega) (by rw [hz2]; omega) (by unfold maxLen; omega) (Nat.le_refl _) ?_)
    intro w4 hown hgrow
    have hbel4 : Below w3.heap.size w3 w4 := (Below.refl _ _).grown hgrow (Nat.le_refl _) (fun k hk => by simp at hk)
    have HOQ := hid (OwnW.made hown)
    have HB4 := hid hbel4
    clear hown hgrow hbel4
    go_wp2_with fail
    go_loopw [12] (fun z wr => ∃ (k : Nat) (us qs : List Int), k ≤ K ∧ z = .int .i64 ((k : Int) - 1) ∧ Wd us ∧ Wd qs ∧ Hid (val ls = valTo us (k + (e + 2)) + segTo qs k (K - k) * val ds * 4294967296 ^ k) ∧ Hid (segTo us k (e + 2) < val ds) ∧ Hid (∀ j, k + (e + 2) ≤ j → us[j]?.getD 0 = 0) ∧
      OwnC wr w1.heap.size gR (L + 1) cR us ∧ OwnW wr w3.heap.size w3.heap.size K qs ∧ Below w1.heap.size w1 wr) (fun z _ => (intOf z + 1).toNat)
    case atStart =>
      have hl0 : (ls ++ [0]).length = L + 1 := by rw [List.length_append, HLL.out]; rfl
      have hw0 : Wd (ls ++ [0]) := HWL.out.append (Wd.one (by omega))
      have hz0' : (ls ++ [0])[K + (e + 1)]?.getD 0 = 0 := by
        rw [List.getElem?_append, if_neg (by have := HLL.out; omega), show K + (e + 1) - ls.length = 0 by have := HLL.out; omega]; rfl
      refine ⟨K, ls ++ [0], List.replicate K 0, Nat.le_refl _, rfl, hw0, Wd.replicate _, ?_, ?_, ?_, owns_later HO3.out HB4.out, HOQ.out, HB3.out.trans (HB4.out.mono hs3)⟩
      · show _ = _
        rw [valTo_stable _ _ (by rw [hl0]; omega), val_snoc_zero, Nat.sub_self]
        simp [segTo]
      · show _ < _
        have q1 := (segTo_bounds hw0 K (e + 1)).2
        have q2 := HDG.out
        rw [show e + 2 = e + 1 + 1 by omega, segTo_succ, hz0', Int.zero_mul]
        omega
      · intro j hj
        rw [List.getElem?_eq_none (by rw [hl0]; omega)]; rfl
    case round =>
      obtain ⟨k, us, qs, hk, rfl, wu, wq, HV, HS, HZ, oU, oQ, hb⟩ := hrel
      have hbs := hb.size
      have hqb := oQ.base
      have hub := (World.ownsRow.lt oU gR rfl)
      have hlu := oU.len
      have hlq := oQ.len
      rcases k with _ | k
      · have hval : val us = valTo us (e + 2) := by
          have e1 : ∀ m, e + 2 ≤ m → valTo us m = valTo us (e + 2) := fun m hm => by
            induction m with
            | zero => omega
            | succ m ih =>
              by_cases c : e + 2 = m + 1
              · rw [c]
              · rw [valTo_succ, HZ.out m (by omega), ih (by omega)]; omega
          rw [← valTo_stable us (L + 1) (by omega)]
          exact e1 (L + 1) (by omega)
        have HF : Hid (val xs = val qs * val ys + val us / 2 ^ t ∧ val us / 2 ^ t < val ys) := by
          have e1 := HV.out
          have e2 := HS.out
          rw [segTo_zero, ← hval] at e2
          rw [segTo_zero, Nat.zero_add, Nat.sub_zero, valTo_stable qs K (by omega), Int.pow_zero, Int.mul_one, HVL.out, HVD.out, ← hval, ← Int.mul_assoc] at e1
          rw [HVD.out] at e2
          have hp := two_pos t
          have e3 : val us = (val xs - val qs * val ys) * 2 ^ t := by rw [Int.sub_mul]; omega
          have e4 : val us / 2 ^ t = val xs - val qs * val ys := by rw [e3]; exact Int.mul_ediv_cancel _ (by omega)
          refine ⟨by rw [e4]; omega, Int.ediv_lt_of_lt_mul hp e2⟩
        have hsQ : Sl wr (.slice (some ⟨w3.heap.size, 0, none⟩) K K) qs := by
          have e1 := Sl.own oQ wq
          exact e1
        have HTQ := hid (refTrim_sl _ qs wr hsQ (by omega))
        have HUO := hid oU
        have HBW : Hid (Below w.heap.size w wr) := HB1.out.trans (hb.mono HB1.out.size)
        clear HV HS HZ oU oQ hsQ hval hb
        go_wp2_with fail
        refine Calls.mono HTQ.out ?_
        rintro x w5 ⟨v5, rfl, o5, hb5⟩
        have HT5 := hid (And.intro o5 hb5)
        have HTR := hid (refTrim_sl _ us w5 (Sl.own (owns_later HUO.out hb5) wu) (by omega))
        clear o5 hb5 HTQ
        go_wp2_with fail
        refine Calls.mono HTR.out ?_
        rintro x w6 ⟨v6, rfl, o6, hb6⟩
        have HDN := hid (refDown_zero v6 (trimmed us) t w6 (Sl.own o6 wu.trimmed) (by rw [length_trimmed]; have := sz_le us; omega) s3)
        rw [val_trimmed] at HDN
        have HB6 := hid hb6
        clear o6 hb6 HTR
        go_wp2_with fail
        refine Calls.mono HDN.out ?_
        rintro x w7 ⟨v7, rs, rfl, o7, w7', t7, hv7, hb7⟩
        have HE := hid (And.intro o7 (And.intro hv7 hb7))
        clear o7 hv7 hb7 HDN
        go_wp2_with fail
        go_ret2
        have hb57 := bt HB6.out HE.out.2.2
        have hb07 := bt HBW.out (bt HT5.out.2 hb57)
        refine ⟨v5, _, v7, rs, rfl, owns_base (owns_len (owns_later HT5.out.1 hb57)) HBW.out.size, owns_base HE.out.1 (by have := HBW.out.size; have := HT5.out.2.size; have := HB6.out.size; omega), wq.trimmed, w7', Trimmed.trimmed _, t7, ?_, ?_, hb07⟩
        · rw [val_trimmed, HE.out.2.1]; exact HF.out.1
        · rw [HE.out.2.1]; exact HF.out.2
      · have ek : (((k + 1 : Nat) : Int) - 1) = (k : Int) := by omega
        rw [ek]
        clear ek
        have hs1 : segTo us k (e + 2 + 1) < 4294967296 * val ds := by
          have b0 := wu.at k
          have q := HS.out
          rw [segTo_cons]
          omega
        have HDG2 := hid (refDigit_any w1.heap.size gR (L + 1) cR k (e + 1) (cR - k) us a1 c1 ds wr oU wu (by omega) (by omega) (by omega) (by omega) (HD.out.later hb) HDl.out HDt.out hs1)
        have HOQ2 := hid oQ
        have HB5 := hid hb
        have hck : ¬ cR = k := by omega
        have HLS := hid (fun vs q wv => long_step us vs qs (e + 2) K k (val ls) (val ds) q (by omega) hlq wv HDM.out HV.out)
        have HZ2 := hid HZ.out
        clear oU oQ hb hs1 HV HS HZ
        go_wp2_with fail
        rw [show k + (e + 2) + 1 - k = e + 1 + 2 by omega]
        refine Calls.mono HDG2.out ?_
        rintro x w5 ⟨q, vs, rfl, q0, q1, oV, wv, kV, sV, ltV, gV⟩
        have hnq : (w3.heap.size : Nat) ≠ gR := by omega
        have oQ5 : OwnW w5 w3.heap.size w3.heap.size K qs := World.ownsRow.kept HOQ2.out gV (.inr (fun e => hnq (Option.some.inj e)))
        have y1 := oQ5.cell k (by omega)
        have f1 := oQ5.free k
        have HQ6 := hid (oQ5.set k q)
        have HR6 : Hid (OwnC (w5.setCell ⟨w3.heap.size, k, none⟩ (.int .u32 q)) w1.heap.size gR (L + 1) cR vs) := World.ownsRow.kept oV (grown_set' w5 ⟨w3.heap.size, k, none⟩ (.int .u32 q)) (.inr (fun e => hnq (Option.some.inj e).symm))
        have HB6 : Hid (Below w1.heap.size w1 (w5.setCell ⟨w3.heap.size, k, none⟩ (.int .u32 q))) := (HB5.out.grown gV hbs (fun g hg => by have := Option.some.inj hg; omega)).setCell (p := ⟨w3.heap.size, k, none⟩) hs3 _
        obtain ⟨r1, r2⟩ := HLS.out vs q wv (fun j hj => kV j (.inl hj)) sV ltV
        have HR := hid (And.intro r1 r2)
        have HZN : Hid (∀ j, k + (e + 2) ≤ j → vs[j]?.getD 0 = 0) := fun j hj => by
          by_cases c : j = k + (e + 2)
          · rw [c]; exact seg_end wv k (e + 2) HDM.out ltV
          · rw [kV j (.inr (by omega))]; exact HZ2.out j (by omega)
        clear oV kV sV ltV gV oQ5 r1 r2 HLS HZ2 HDG2
        go_wp2_with fail
        go_roundw
        case rel => exact ⟨k, vs, qs.set k q, by omega, rfl, wv, wq.set k ⟨q0, q1⟩, HR.out.1, HR.out.2, HZN, HR6.out, HQ6.out, HB6.out⟩
        case measure => simp [intOf]

theorem refOver_any (v u : Value) (xs ys : List Int) (w : World) (h : Sl w v xs) (g : Sl w u ys) (hn : xs.length ≤ 8200) (hm : ys.length ≤ 8200) (hx : Trimmed xs) (hy : Trimmed ys) (h0 : 0 < ys.length) :
    Calls Tryz.prog 129 #[v, u] w (Ref2 w xs ys) := by
  by_cases hlt : val xs < val ys
  · exact refOver_less v u xs ys w h g hn hm hlt
  · by_cases h1 : ys.length = 1
    · obtain ⟨y, rfl⟩ := List.length_eq_one_iff.1 h1
      have hy1 : 1 ≤ y := by
        have b := g.wd.head
        by_cases c : y = 0
        · subst c; exact absurd hy (by unfold Trimmed; decide)
        · omega
      rw [val_one] at hlt
      exact refOver_word v u xs y w h g hn hy1 (by omega)
    · exact refOver_long v u xs ys (ys.length - 2) w h g hn hm hx hy (by omega) (by omega)
end Go.Proofs.YtabkgpnckaaclaaGreatDoor

/- nat.smallDivisor: the greatest common divisor where the second number has at most two words, in new memory. -/
namespace Go.Proofs.YtabkgpnckaaclaaGreatDoor
open Go.RowKit
set_option linter.unusedVariables false

/-- The greatest common divisor, as a whole number. -/
def gcdI (x y : Int) : Int := (Int.gcd x y : Int)
theorem gcdI_zero (x : Int) (h : 0 ≤ x) : gcdI x 0 = x := by unfold gcdI; rw [Int.gcd_zero_right]; omega
theorem gcdI_comm (x y : Int) : gcdI x y = gcdI y x := by unfold gcdI; rw [Int.gcd_comm]
theorem gcdI_mod (x y : Int) : gcdI x y = gcdI y (x % y) := by
  unfold gcdI
  congr 1
  have e := Int.mul_ediv_add_emod x y
  have h : Int.gcd y x = Int.gcd y (x % y) := by
    have h2 : Int.gcd y (x / y * y + x % y) = Int.gcd y (x % y) := Int.gcd_mul_right_add_right y (x % y) (x / y)
    rw [Int.mul_comm, e] at h2
    exact h2
  rw [Int.gcd_comm, h]
theorem gcdI_rest {x y q r : Int} (h : x = q * y + r) : gcdI x y = gcdI y r := by
  unfold gcdI
  congr 1
  rw [Int.gcd_comm, h]
  exact Int.gcd_mul_right_add_right y r q

/-- One number, in new memory. -/
def Told1 (w : World) (t : Int) (x : Ending) (w' : World) : Prop := ∃ v zs, x = .returned v ∧ w'.ownsRow w.heap.size 88 1 v zs.length (zs.map (Value.int .u32)) ∧ Wd zs ∧ Trimmed zs ∧ val zs = t ∧ Below w.heap.size w w'

theorem val_le2 {ys : List Int} (hw : Wd ys) (h : ys.length ≤ 2) : val ys ≤ 18446744073709551615 := by
  have h1 := val_lt hw
  have h2 : (4294967296 : Int) ^ ys.length ≤ 4294967296 ^ 2 := pw_le h
  omega
theorem u64of_eq {ys : List Int} (h : ys.length ≤ 2) : u64of ys = val ys := by
  unfold u64of
  rw [if_pos (by have := sz_le ys; omega)]

set_option maxHeartbeats 1600000 in
set_option maxRecDepth 100000 in
theorem smallDivisor_any (v u : Value) (xs ys : List Int) (w : World) (h : Sl w v xs) (g : Sl w u ys) (hn : xs.length ≤ 8192) (hx : Trimmed xs) (hy : Trimmed ys) (hl : ys.length ≤ 2) :
    Calls Tryz.prog 144 #[v, u] w (Told1 w (gcdI (val xs) (val ys))) := by
  have wx := h.wd
  have wy := g.wd
  by_cases h0 : ys.length = 0
  · have hz : ys = [] := List.eq_nil_of_length_eq_zero h0
    subst hz
    have HT := hid (trim_sl v xs w h (by omega))
    rw [show sz xs = xs.length from hx, trimmed_of hx] at HT
    have HG : Hid (val xs = gcdI (val xs) (val [])) := by show _ = _; rw [val_nil, gcdI_zero _ (val_nonneg wx)]
    obtain ⟨b, cap', rfl, gr⟩ := g
    clear h gr h0
    go_enter Tryz.func144, Tryz.ntmps144
    go_wp2_with fail
    refine Calls.mono HT.out ?_
    rintro e w1 ⟨v1, rfl, o1, hb⟩
    have HO := hid o1
    clear o1
    go_wp2_with fail
    go_ret
    exact ⟨v1, xs, rfl, HO.out, wx, hx, HG.out, hb⟩
  · have HD := hid (divide_any v u xs ys w h g hn (by omega) hx hy (by omega))
    have HGS := hid g
    obtain ⟨b, cap', rfl, gr⟩ := g
    have hz : ((ys.length : Int) == 0) = false := by simp; exact fun e => h0 (by rw [e]; rfl)
    clear h gr h0
    go_enter Tryz.func144, Tryz.ntmps144
    go_wp2_with fail
    refine Calls.mono HD.out ?_
    rintro e w1 ⟨v1, u1, q, r, c, rfl, oq, orr, _, _, _, _, wq, wR, tq, tr, hv, hlt, hb⟩
    have sR := Sl.own orr wR
    have lr : r.length ≤ 2 := len_of_lt wR tr (by have h1 := val_lt wy; have h2 : (4294967296 : Int) ^ ys.length ≤ 4294967296 ^ 2 := pw_le hl; omega)
    have HU1 := hid (uint64_sl _ ys w1 (HGS.out.later hb) (by omega))
    rw [u64of_eq hl] at HU1
    have HGG := hid (gcdI_rest hv)
    have HSR := hid sR
    have py := val_le2 wy hl
    have pr := val_le2 wR lr
    have py0 := val_nonneg wy
    have pr0 := val_nonneg wR
    obtain ⟨Y, hY⟩ : ∃ Y, val ys = Y := ⟨_, rfl⟩
    obtain ⟨R, hR⟩ : ∃ R, val r = R := ⟨_, rfl⟩
    rw [hY] at HU1 HGG py py0 ⊢
    rw [hR] at HGG pr pr0
    have HR := hid hR
    have HY := hid hY
    clear oq orr hv hlt sR HD HGS hY hR
    go_wp2_with fail
    refine Calls.mono HU1.out ?_
    rintro e w2 ⟨rfl, hb2⟩
    have HU2 := hid (uint64_sl _ r w2 (HSR.out.later hb2) (by omega))
    rw [u64of_eq lr, HR.out] at HU2
    have hb3 := bt hb hb2
    clear hb hb2 HU1 HSR
    go_wp2_with fail
    refine Calls.mono HU2.out ?_
    rintro e w3 ⟨rfl, hb2⟩
    have hb := bt hb3 hb2
    clear hb3 hb2 HU2
    go_wp2_with fail
    go_loopw [7, 9] (fun c d ww => ∃ (p q : Int), c = .int .u64 p ∧ d = .int .u64 q ∧ 0 ≤ p ∧ p ≤ 18446744073709551615 ∧ 0 ≤ q ∧ q ≤ 18446744073709551615 ∧ Hid (gcdI p q = gcdI (val xs) Y) ∧ Below w.heap.size w ww) (fun _ d _ => (intOf d).toNat)
    case atStart => exact ⟨Y, R, rfl, rfl, py0, py, pr0, pr, HGG.out.symm, hb⟩
    case round =>
      obtain ⟨p, q, rfl, rfl, p0, p1, q0, q1, HG, hbw⟩ := hrel
      by_cases hq : q = 0
      · subst hq
        have HF : Hid (p = gcdI (val xs) Y) := by show _ = _; rw [← HG.out, gcdI_zero p p0]
        have HOF := hid (of_any p wr p0 p1)
        go_wp2_with fail
        refine Calls.mono HOF.out ?_
        rintro e w4 ⟨v4, rfl, o4, hb4⟩
        have HO := hid (owns_base (owns_len o4) hbw.size)
        have hb5 := bt hbw hb4
        clear o4 hb4 HOF
        go_wp2_with fail
        go_ret
        exact ⟨v4, _, rfl, HO.out, (of_wd p p0 p1).trimmed, Trimmed.trimmed _, by rw [val_trimmed, val_two, HY.out, ← HF.out]; omega, hb5⟩
      · have hne : (q != 0) = true := by simp [hq]
        have m0 : 0 ≤ p % q := Int.emod_nonneg _ hq
        have m1 : p % q < q := Int.emod_lt_of_pos _ (by omega)
        have HG' : Hid (gcdI q (p % q) = gcdI (val xs) Y) := by show _ = _; rw [← gcdI_mod]; exact HG.out
        go_wp2_with fail
        go_quiet (fail)
        go_wp2_with fail
        go_roundw
        case rel => exact ⟨q, p % q, rfl, by go_num, q0, q1, m0, by omega, HG', bdn hbw _⟩
        case measure => simp [intOf]; omega
end Go.Proofs.YtabkgpnckaaclaaGreatDoor

/- The document's own greatest common divisor: slackwaterref01.Common. -/
namespace Go.Proofs.YtabkgpnckaaclaaGreatDoor
open Go.RowKit
set_option linter.unusedVariables false

set_option maxHeartbeats 3200000 in
set_option maxRecDepth 100000 in
theorem refCommon_any (v u : Value) (xs ys : List Int) (w : World) (h : Sl w v xs) (g : Sl w u ys) (hn : xs.length ≤ 8200) (hm : ys.length ≤ 8200) (hx : Trimmed xs) (hy : Trimmed ys) :
    Calls Tryz.prog 107 #[v, u] w (Ref1 w (gcdI (val xs) (val ys))) := by
  have HS := hid (And.intro h g)
  obtain ⟨a, cap, rfl, hr⟩ := h
  obtain ⟨b, cap', rfl, gr⟩ := g
  clear hr gr
  go_enter Tryz.func107, Tryz.ntmps107
  go_wp2_with fail
  go_loopg [0, 1] (val ys).toNat (fun k s0 s1 wr => ∃ (a : Option Addr) (c : Nat) (us : List Int) (b : Option Addr) (d : Nat) (vs : List Int), s0 = .slice a us.length c ∧ s1 = .slice b vs.length d ∧ us.length ≤ 8200 ∧ vs.length ≤ 8200 ∧ Hid (Sl wr (.slice a us.length c) us ∧ Sl wr (.slice b vs.length d) vs ∧ Trimmed us ∧ Trimmed vs ∧ (k : Int) = val vs ∧ gcdI (val us) (val vs) = gcdI (val xs) (val ys)) ∧ Below w.heap.size w wr)
  case atStart => exact ⟨a, cap, xs, b, cap', ys, rfl, rfl, hn, hm, ⟨HS.out.1, HS.out.2, hx, hy, by have := val_nonneg HS.out.2.wd; omega, rfl⟩, Below.refl _ _⟩
  case round =>
    obtain ⟨a1, c1, us, b1, d1, vs, rfl, rfl, lu, lv, HR, hb⟩ := hrel
    by_cases h0 : vs.length = 0
    · have HF : Hid (val us = gcdI (val xs) (val ys)) := by
        have e1 : vs = [] := List.eq_nil_of_length_eq_zero h0
        have e2 := HR.out.2.2.2.2.2
        rw [e1, val_nil, gcdI_zero _ (val_nonneg HR.out.1.wd)] at e2
        exact e2
      have HT := hid (refTrim_sl _ us wr HR.out.1 (by omega))
      have HW := hid HR.out.1.wd
      rw [h0]
      clear HR HS h0 lv
      go_wp2_with fail
      refine Calls.mono HT.out ?_
      rintro e w3 ⟨v3, rfl, o3, hb3⟩
      have HO3 := hid (owns_base (owns_len o3) hb.size)
      have hbF := bt hb hb3
      clear o3 hb3
      go_wp2_with fail
      go_ret
      exact ⟨v3, _, rfl, HO3.out, HW.out.trimmed, Trimmed.trimmed _, by rw [val_trimmed]; exact HF.out, hbF⟩
    · have hpos : (0 : Int) < (vs.length : Int) := by omega
      have HO := hid (refOver_any _ _ us vs wr HR.out.1 HR.out.2.1 lu lv HR.out.2.2.1 HR.out.2.2.2.1 (by omega))
      have HB := hid hb
      clear hb HS
      go_wp2_with fail
      refine Calls.mono HO.out ?_
      rintro e w2 ⟨v2, zs, v3, rs, rfl, o2, o3, wz, wr', tz, tr, hv, hlt, hb2⟩
      obtain ⟨a3, c3, hs⟩ := own_slice' o3
      subst hs
      have lr : rs.length ≤ 8200 := by
        have := len_of_lt wr' tr (L := vs.length) (by have := val_lt HR.out.2.1.wd; omega)
        omega
      have HN : Hid (Sl w2 (.slice b1 vs.length d1) vs ∧ Sl w2 (.slice a3 rs.length c3) rs ∧ Trimmed vs ∧ Trimmed rs ∧ ((val rs).toNat : Int) = val rs ∧ gcdI (val vs) (val rs) = gcdI (val xs) (val ys)) :=
        ⟨HR.out.2.1.later hb2, Sl.own o3 wr', HR.out.2.2.2.1, tr, by have := val_nonneg wr'; omega, by rw [← HR.out.2.2.2.2.2]; exact (gcdI_rest hv).symm⟩
      have HM : Hid ((val rs).toNat < (val vs).toNat) := by have := val_nonneg wr'; show _ < _; omega
      have HBN := hid (bt HB.out hb2)
      have HKK := hid HR.out.2.2.2.2.1
      clear o2 o3 hv hlt hb2 HR HO HB
      go_wp2_with fail
      go_roundg (val rs).toNat
      case rel => exact ⟨b1, d1, vs, a3, c3, rs, rfl, rfl, lv, lr, HN, HBN.out⟩
      case measure => have := HM.out; have := HKK.out; omega
end Go.Proofs.YtabkgpnckaaclaaGreatDoor

/- The document's own calls that may refuse: slackwaterref01.both, told, Add, Sub, Mul, DivMod, Gcd: of every two lists that can be read. -/
namespace Go.Proofs.YtabkgpnckaaclaaGreatDoor
open Go.RowKit
set_option linter.unusedVariables false

set_option maxHeartbeats 800000 in
set_option maxRecDepth 100000 in
theorem refBoth_sl (v u : Value) (xs ys : List Int) (w : World) (h : Sl w v xs) (g : Sl w u ys) (hn : xs.length ≤ 281474976710656) (hm : ys.length ≤ 281474976710656) :
    Calls Tryz.prog 105 #[v, u] w fun e w' => e = .returned (.int .i64 (both xs ys)) ∧ w = w' := by
  have H1 := hid (refCheck_sl v xs w h hn)
  have H2 := hid (refCheck_sl u ys w g hm)
  by_cases hc : chk xs = 0
  · have HE : Hid (both xs ys = chk ys) := by show _ = _; unfold both; rw [if_pos hc]
    rw [hc] at H1
    clear h g hc
    go_enter Tryz.func105, Tryz.ntmps105
    go_wp2_with fail
    refine Calls.mono H1.out ?_
    rintro e w1 ⟨rfl, rfl⟩
    go_wp2_with fail
    refine Calls.mono H2.out ?_
    rintro e w1 ⟨rfl, rfl⟩
    go_wp2_with fail
    go_ret
    exact ⟨ret_int HE.out.symm, rfl⟩
  · have HE : Hid (both xs ys = chk xs) := by show _ = _; unfold both; rw [if_neg hc]
    have hc' : (chk xs == 0) = false := by simpa using hc
    clear h g hc
    go_enter Tryz.func105, Tryz.ntmps105
    go_wp2_with fail
    refine Calls.mono H1.out ?_
    rintro e w1 ⟨rfl, rfl⟩
    go_wp2_with fail
    go_ret
    exact ⟨ret_int HE.out.symm, rfl⟩
set_option maxHeartbeats 1600000 in
set_option maxRecDepth 100000 in
theorem refGcd_sl (v u : Value) (xs ys : List Int) (w : World) (h : Sl w v xs) (g : Sl w u ys) (hn : xs.length ≤ 281474976710656) (hm : ys.length ≤ 281474976710656) :
    Calls Tryz.prog 77 #[v, u] w (Told w (both xs ys) (gcdI (val xs) (val ys))) := by
  by_cases hb : both xs ys = 0
  · have HB := hid (refBoth_sl v u xs ys w h g hn hm)
    rw [hb] at HB
    obtain ⟨k1, k2⟩ := both_ok hb
    obtain ⟨lx, tx⟩ := chk_ok k1
    obtain ⟨ly, ty⟩ := chk_ok k2
    have HP := hid (refCommon_any v u xs ys w h g (by omega) (by omega) tx ty)
    rw [hb]
    clear h g hb k1 k2
    go_enter Tryz.func77, Tryz.ntmps77
    go_wp2_with fail
    refine Calls.mono HB.out ?_
    rintro e w1 ⟨rfl, rfl⟩
    go_wp2_with fail
    refine Calls.mono HP.out ?_
    intro e w2 h2
    obtain ⟨a2, c2, zs, rfl, o2, wz, tz, vz, hb2⟩ := h2.slice
    have hwd := trimmed_wide wz tz vz
    have HR := hid (And.intro o2 (And.intro wz (And.intro tz (And.intro vz (And.intro hwd hb2)))))
    by_cases hlen : 8192 < zs.length
    · have HT := hid (refTold_long a2 zs.length c2 w2 hlen)
      have HL := hid (hwd.1 hlen)
      clear h2 o2 wz tz vz hwd hb2 hlen
      go_wp2_with fail
      refine Calls.mono HT.out ?_
      rintro e w3 ⟨rfl, rfl⟩
      go_wp2_with fail
      go_ret2
      exact ⟨_, [], 3, rfl, World.ownsRow_nil _ _ _ _, Tells.tooLong HL.out, HR.out.2.2.2.2.2⟩
    · have HT := hid (refTold_ok a2 zs.length c2 w2 (by omega))
      have HL := hid (Int.not_le.1 fun h => hlen (hwd.2 h))
      clear h2 o2 wz tz vz hwd hb2 hlen
      go_wp2_with fail
      refine Calls.mono HT.out ?_
      rintro e w3 ⟨rfl, rfl⟩
      go_wp2_with fail
      go_ret2
      exact ⟨_, zs, 0, rfl, HR.out.1, Tells.ok HR.out.2.1 HR.out.2.2.1 HR.out.2.2.2.1 HL.out, HR.out.2.2.2.2.2⟩
  · have HB := hid (refBoth_sl v u xs ys w h g hn hm)
    have hb' : (both xs ys == 0) = false := by simpa using hb
    have HE := hid hb
    clear h g hb
    go_enter Tryz.func77, Tryz.ntmps77
    go_wp2_with fail
    refine Calls.mono HB.out ?_
    rintro e w1 ⟨rfl, rfl⟩
    go_wp2_with fail
    go_ret2
    exact ⟨_, [], _, rfl, World.ownsRow_nil _ _ _ _, Tells.err HE.out, Below.refl _ _⟩

set_option maxHeartbeats 1600000 in
set_option maxRecDepth 100000 in
theorem refDivMod_any (v u : Value) (xs ys : List Int) (w : World) (h : Sl w v xs) (g : Sl w u ys) (lx : xs.length ≤ 8192) (ly : ys.length ≤ 8192) (tx : Trimmed xs) (ty : Trimmed ys) (h0 : 0 < ys.length) :
    Calls Tryz.prog 109 #[v, u] w fun e w' => ∃ v1 u1 q r, e = .returned (.tuple #[v1, u1, .int .i64 0]) ∧ w'.ownsRow w.heap.size 88 1 v1 q.length (q.map (Value.int .u32)) ∧ w'.ownsRow w.heap.size 88 1 u1 r.length (r.map (Value.int .u32)) ∧ Wd q ∧ Wd r ∧ Trimmed q ∧ Trimmed r ∧ val xs = val q * val ys + val r ∧ val r < val ys ∧ Below w.heap.size w w' := by
  have HB := hid (refBoth_sl v u xs ys w h g (by omega) (by omega))
  have HP := hid (refOver_any v u xs ys w h g (by omega) (by omega) tx ty h0)
  rw [both_good (chk_good lx tx) (chk_good ly ty)] at HB
  obtain ⟨a, cap, rfl, hr⟩ := h
  obtain ⟨b, cap', rfl, gr⟩ := g
  have h1 : ((ys.length : Int) == 0) = false := by simp; exact fun e => by rw [e] at h0; simp at h0
  clear hr gr
  go_enter Tryz.func109, Tryz.ntmps109
  go_wp2_with fail
  refine Calls.mono HB.out ?_
  rintro e w1 ⟨rfl, rfl⟩
  go_wp2_with fail
  refine Calls.mono HP.out ?_
  rintro e w2 ⟨v2, zs, v3, rs, rfl, o2, o3, wz, wr', tz, tr, hv, hlt, hb2⟩
  have HR := hid (And.intro o2 (And.intro o3 (And.intro hv (And.intro hlt hb2))))
  clear o2 o3 hv hlt hb2 HP HB
  go_wp2_with fail
  go_ret3
  exact ⟨v2, v3, zs, rs, rfl, HR.out.1, HR.out.2.1, wz, wr', tz, tr, HR.out.2.2.1, HR.out.2.2.2.1, HR.out.2.2.2.2⟩
end Go.Proofs.YtabkgpnckaaclaaGreatDoor

/- Fractions as plain arithmetic: numerator over denominator with nothing in common; sums and products as they are worked with what is in common taken out first. Nothing here speaks of the program. -/
namespace Go.Proofs.YtabkgpnckaaclaaGreatDoor
open Go.RowKit

theorem gcd1 {x y : Int} : gcdI x y = 1 ↔ Int.gcd x y = 1 := by unfold gcdI; omega
theorem q_parts {a b x y g : Int} (hg : g = gcdI a b) (h0 : 0 < g) (hx : a = x * g) (hy : b = y * g) : gcdI x y = 1 := by
  have e : gcdI (x * g) (y * g) = gcdI x y * g := by
    show ((Int.gcd (x * g) (y * g) : Nat) : Int) = (Int.gcd x y : Int) * g
    rw [Int.gcd_mul_right, Int.natCast_mul]
    congr 1
    omega
  rw [← hx, ← hy, ← hg] at e
  have e2 : g * 1 = g * gcdI x y := by rw [Int.mul_one, Int.mul_comm]; exact e
  exact (Int.eq_of_mul_eq_mul_left (by omega) e2).symm

theorem fr_num {x d : Int} (hd : 0 < d) (h : gcdI x d = 1) : (Rat.divInt x d).num = x ∧ ((Rat.divInt x d).den : Int) = d := by
  have h1 : Int.gcd d x = 1 := by rw [Int.gcd_comm]; exact gcd1.1 h
  constructor
  · rw [Rat.num_divInt, h1, Int.sign_eq_one_of_pos hd]; simp
  · rw [Rat.den_divInt, h1, if_neg (by omega)]; simp; omega
theorem fr_inj {x d y e : Int} (hd : 0 < d) (h : gcdI x d = 1) (he : 0 < e) (g : gcdI y e = 1) (hq : Rat.divInt x d = Rat.divInt y e) : x = y ∧ d = e := by
  obtain ⟨a1, a2⟩ := fr_num hd h
  obtain ⟨b1, b2⟩ := fr_num he g
  exact ⟨by rw [← a1, ← b1, hq], by rw [← a2, ← b2, hq]⟩
theorem pos_left {x y : Int} (h : 0 < x * y) (hy : 0 < y) : 0 < x := by
  rcases Int.lt_trichotomy x 0 with h1 | h1 | h1
  · have := Int.mul_neg_of_neg_of_pos h1 hy; omega
  · subst h1; simp at h
  · exact h1
theorem fr_make {x d g p e : Int} (hd : 0 < d) (hg : g = gcdI x d) (hp : x = p * g) (he : d = e * g) : 0 < e ∧ gcdI p e = 1 ∧ Rat.divInt p e = Rat.divInt x d := by
  have hg0 : 0 < g := by
    have : 0 < Int.gcd x d := Int.gcd_pos_iff.2 (Or.inr (by omega))
    rw [hg]; unfold gcdI; omega
  have e0 : 0 < e := pos_left (by omega) hg0
  refine ⟨e0, q_parts hg hg0 hp he, ?_⟩
  rw [Rat.divInt_eq_divInt_iff (by omega) (by omega), hp, he]
  grind
end Go.Proofs.YtabkgpnckaaclaaGreatDoor

/- nat.leap: one more of Euclid's steps, and whether it holds. -/
namespace Go.Proofs.YtabkgpnckaaclaaGreatDoor
open Go.RowKit
set_option linter.unusedVariables false

set_option maxHeartbeats 400000 in
set_option maxRecDepth 100000 in
theorem sizeOf_any (x : Int) (w : World) (h0 : -4611686018427387904 ≤ x) (h1 : x ≤ 4611686018427387904) :
    Calls Tryz.prog 164 #[.int .i64 x] w fun e w' => e = .returned (.int .i64 (x.natAbs : Int)) ∧ w = w' := by
  by_cases h : x < 0
  · go_enter Tryz.func164, Tryz.ntmps164
    go_wp2_with fail
    go_ret
    exact ⟨ret_int (by omega), rfl⟩
  · go_enter Tryz.func164, Tryz.ntmps164
    go_wp2_with fail
    go_ret
    exact ⟨ret_int (by omega), rfl⟩

set_option maxHeartbeats 800000 in
set_option maxRecDepth 100000 in
theorem step_any (s a b c d q : Int) (w : World) (hs : 0 ≤ s ∧ s ≤ 4611686018427387904) (h1 : IntKind.i64.wrap (q * c) = q * c) (h2 : IntKind.i64.wrap (q * d) = q * d) (h3 : IntKind.i64.wrap (a - q * c) = a - q * c) (h4 : IntKind.i64.wrap (b - q * d) = b - q * d) :
    Calls Tryz.prog 153 #[.agg #[.int .i64 s, .int .i64 a, .int .i64 b, .int .i64 c, .int .i64 d], .int .i64 q] w fun e w' => e = .returned (.agg #[.int .i64 (s + 1), .int .i64 c, .int .i64 d, .int .i64 (a - q * c), .int .i64 (b - q * d)]) ∧ Below w.heap.size w w' := by
  go_enter Tryz.func153, Tryz.ntmps153
  go_wp2_with fail
  go_returns
  exact ⟨rfl, bt (alloc_later _ _) (alloc_later _ _)⟩

set_option maxHeartbeats 800000 in
set_option maxRecDepth 100000 in
theorem holds_any (s a b c d p q : Int) (w : World) (hb : -4611686018427387904 ≤ b ∧ b ≤ 4611686018427387904) (hd : -4611686018427387904 ≤ d ∧ d ≤ 4611686018427387904) (hp : 0 ≤ p ∧ p ≤ 4611686018427387904) (hq : 0 ≤ q ∧ q ≤ 4611686018427387904)
    (hsum : (b.natAbs : Int) + (d.natAbs : Int) ≤ 9223372036854775807) :
    Calls Tryz.prog 154 #[.agg #[.int .i64 s, .int .i64 a, .int .i64 b, .int .i64 c, .int .i64 d], .int .i64 p, .int .i64 q] w fun e w' => e = .returned (.bool (decide ((d.natAbs : Int) ≤ q ∧ (b.natAbs : Int) + (d.natAbs : Int) ≤ p - q))) ∧ Below w.heap.size w w' := by
  have HB := hid (fun ww => Calls.mono (sizeOf_any b ww hb.1 hb.2) (R' := fun e w' => e = .returned (.int .i64 (b.natAbs : Int)) ∧ w' = ww) (fun _ _ h => ⟨h.1, h.2.symm⟩))
  have HD := hid (fun ww => Calls.mono (sizeOf_any d ww hd.1 hd.2) (R' := fun e w' => e = .returned (.int .i64 (d.natAbs : Int)) ∧ w' = ww) (fun _ _ h => ⟨h.1, h.2.symm⟩))
  have f0 : 0 ≤ (b.natAbs : Int) := by omega
  have s0 : 0 ≤ (d.natAbs : Int) := by omega
  obtain ⟨F, hF⟩ : ∃ F : Int, (b.natAbs : Int) = F := ⟨_, rfl⟩
  obtain ⟨S, hS⟩ : ∃ S : Int, (d.natAbs : Int) = S := ⟨_, rfl⟩
  rw [hF] at HB f0 hsum ⊢
  rw [hS] at HD s0 hsum ⊢
  clear hF hS hb hd
  by_cases c1 : S ≤ q
  · by_cases c2 : F + S ≤ p - q
    · have HR : Hid (decide (S ≤ q ∧ F + S ≤ p - q) = true) := decide_eq_true ⟨c1, c2⟩
      go_enter Tryz.func154, Tryz.ntmps154
      go_wp2_with fail
      go_quiet ((go_at_call 164; first | exact Calls.quiet_of_same (HB.out _) | exact Calls.quiet_of_same (HD.out _)))
      go_wp2_with fail
      go_returns
      exact ⟨ret_bool (by first | exact HR.out.symm | (simp; omega)), bdn (alloc_later _ _) _⟩
    · have HR : Hid (decide (S ≤ q ∧ F + S ≤ p - q) = false) := decide_eq_false (fun h => c2 h.2)
      go_enter Tryz.func154, Tryz.ntmps154
      go_wp2_with fail
      go_quiet ((go_at_call 164; first | exact Calls.quiet_of_same (HB.out _) | exact Calls.quiet_of_same (HD.out _)))
      go_wp2_with fail
      go_returns
      exact ⟨ret_bool (by first | exact HR.out.symm | (simp; omega)), bdn (alloc_later _ _) _⟩
  · have HR : Hid (decide (S ≤ q ∧ F + S ≤ p - q) = false) := decide_eq_false (fun h => c1 h.1)
    go_enter Tryz.func154, Tryz.ntmps154
    go_wp2_with fail
    go_quiet ((go_at_call 164; first | exact Calls.quiet_of_same (HB.out _) | exact Calls.quiet_of_same (HD.out _)))
    go_wp2_with fail
    go_returns
    exact ⟨ret_bool (by first | exact HR.out.symm | (simp; omega)), bdn (alloc_later _ _) _⟩
end Go.Proofs.YtabkgpnckaaclaaGreatDoor

/- nat.highest: the highest 62 bits of three words or more, moved up by the first one's noughts. -/
namespace Go.Proofs.YtabkgpnckaaclaaGreatDoor
open Go.RowKit
set_option linter.unusedVariables false

theorem val_three (xs : List Int) (e : Nat) (h : xs.length = e + 3) : val xs = valTo xs e + (xs[e]?.getD 0 + (xs[e + 1]?.getD 0 + xs[e + 2]?.getD 0 * 4294967296) * 4294967296) * 4294967296 ^ e := by
  have := seg_three xs 0 e
  rw [segTo_zero, segTo_zero] at this
  simp only [Nat.zero_add] at this
  unfold val
  rw [h]
  exact this
/-- The top three words, moved down. -/
theorem high_value (h2 h1 h0 : Int) (s : Nat) (hs : s ≤ 31) (b0 : 0 ≤ h0) : ((h1 + h2 * 4294967296) * 2 ^ s + h0 / 2 ^ (32 - s)) / 4 = (h0 + (h1 + h2 * 4294967296) * 4294967296) / 2 ^ (34 - s) := by
  have p := two_pos (32 - s)
  have e1 : (2 : Int) ^ (34 - s) = 2 ^ (32 - s) * 4 := by rw [show 34 - s = (32 - s) + 2 by omega, Int.pow_add]; rfl
  have e2 : (4294967296 : Int) = 2 ^ s * 2 ^ (32 - s) := two_split s (by omega)
  have e3 : (h0 + (h1 + h2 * 4294967296) * 4294967296) / 2 ^ (32 - s) = (h1 + h2 * 4294967296) * 2 ^ s + h0 / 2 ^ (32 - s) := by
    have : (h1 + h2 * 4294967296) * 4294967296 = (h1 + h2 * 4294967296) * 2 ^ s * 2 ^ (32 - s) := by rw [Int.mul_assoc, ← e2]
    rw [this, Int.add_mul_ediv_right _ _ (by omega)]
    omega
  rw [e1, ← Int.ediv_ediv_of_nonneg (by omega), e3]

theorem or_shl (c x : Int) (t : Nat) (c0 : 0 ≤ c) (c1 : c < 2 ^ t) (x0 : 0 ≤ x) (hp : x * 2 ^ t + c ≤ 18446744073709551615) : bits BinOp.or IntKind.u64 (x * 2 ^ t) c = x * 2 ^ t + c := by
  have h1 := two_pos t
  have h3 : 0 ≤ x * 2 ^ t := Int.mul_nonneg x0 (Int.le_of_lt h1)
  obtain ⟨C, rfl⟩ := Int.eq_ofNat_of_zero_le c0
  obtain ⟨X, rfl⟩ := Int.eq_ofNat_of_zero_le x0
  have e1 : (X : Int) * 2 ^ t = ((X * 2 ^ t : Nat) : Int) := by rw [Int.natCast_mul, Int.natCast_pow]; rfl
  have e2 : ((2 ^ t : Nat) : Int) = 2 ^ t := by rw [Int.natCast_pow]; rfl
  rw [e1] at hp ⊢
  rw [← e2] at c1
  rw [u64_or _ _ (by omega) (by omega) (by omega) (by omega), Int.toNat_natCast, Int.toNat_natCast, nat_join t _ _ (Nat.mul_mod_left _ _) (Int.ofNat_lt.1 c1)]
  omega

set_option maxHeartbeats 800000 in
set_option maxRecDepth 100000 in
theorem highest_any (a : Option Addr) (e cap : Nat) (xs : List Int) (s : Nat) (w : World) (h : Reads w w.heap.size a (e + 3) cap xs) (hn : e ≤ 8192) (hs : s ≤ 31) (hfit : xs[e + 2]?.getD 0 * 2 ^ s < 4294967296) :
    Calls Tryz.prog 152 #[.slice a (e + 3) cap, .int .i64 s] w fun x w' => x = .returned (.int .i64 (val xs / 4294967296 ^ e / 2 ^ (34 - s))) ∧ 0 ≤ val xs / 4294967296 ^ e / 2 ^ (34 - s) ∧ val xs / 4294967296 ^ e / 2 ^ (34 - s) < 4611686018427387904 ∧ Below w.heap.size w w' := by
  rcases h.2.2.1 with h0 | ⟨b2, o2, rfl, hb2, hc2⟩
  · omega
  · have hwz := h.2.1
    have c2 := hc2 (e + 2) (by omega)
    have c1 := hc2 (e + 1) (by omega)
    have c0 := hc2 e (by omega)
    have b2' := hwz.at (e + 2)
    have b1' := hwz.at (e + 1)
    have b0' := hwz.at e
    have hv := val_three xs e h.1
    have vb := valTo_bounds hwz e
    have hT : val xs / 4294967296 ^ e = xs[e]?.getD 0 + (xs[e + 1]?.getD 0 + xs[e + 2]?.getD 0 * 4294967296) * 4294967296 := by
      rw [hv, Int.add_mul_ediv_right _ _ (by have := pw_pos e; omega), Int.ediv_eq_zero_of_lt vb.1 vb.2]
      omega
    rw [hT]
    generalize xs[e + 2]?.getD 0 = H2 at *
    generalize xs[e + 1]?.getD 0 = H1 at *
    generalize xs[e]?.getD 0 = H0 at *
    rw [← high_value H2 H1 H0 s hs b0'.1]
    obtain ⟨t, ht⟩ : ∃ t, t = H1 + H2 * 4294967296 := ⟨_, rfl⟩
    have hor : bits BinOp.or IntKind.u64 (H2 * 4294967296) H1 = t := by rw [or_join H2 _ b2'.1 b2'.2 b1'.1 b1'.2, ht]
    rw [← ht]
    have ps := two_pos s
    have pr := two_pos (32 - s)
    have t0 : 0 ≤ t := by omega
    obtain ⟨r, hr⟩ : ∃ r : Nat, r = 32 - s := ⟨_, rfl⟩
    have hri : (32 : Int) - (s : Int) = (r : Int) := by omega
    have e2 : (4294967296 : Int) = 2 ^ s * 2 ^ r := by rw [hr]; exact two_split s (by omega)
    rw [← hr] at pr ⊢
    have hH : H2 + 1 ≤ 2 ^ r := Int.lt_of_mul_lt_mul_left (show 2 ^ s * H2 < 2 ^ s * 2 ^ r by rw [← e2, Int.mul_comm]; exact hfit) (by omega)
    have hts : (t + 1) * 2 ^ s ≤ 18446744073709551616 := by
      have a1 : (t + 1) * 2 ^ s ≤ (H2 + 1) * 4294967296 * 2 ^ s := Int.mul_le_mul_of_nonneg_right (by omega) (by omega)
      have a2 : (H2 + 1) * 2 ^ s ≤ 2 ^ r * 2 ^ s := Int.mul_le_mul_of_nonneg_right hH (by omega)
      rw [Int.mul_comm (2 ^ r), ← e2] at a2
      rw [Int.mul_assoc, Int.mul_comm 4294967296, ← Int.mul_assoc] at a1
      omega
    rw [Int.add_mul, Int.one_mul] at hts
    have k0 : 0 ≤ H0 / 2 ^ r := Int.ediv_nonneg b0'.1 (by omega)
    have k1 : H0 / 2 ^ r < 2 ^ s := Int.ediv_lt_of_lt_mul pr (by rw [← e2]; omega)
    have m0 : 0 ≤ t * 2 ^ s := Int.mul_nonneg t0 (by omega)
    have hor2 := or_shl (H0 / 2 ^ r) t s k0 k1 t0 (by omega)
    obtain ⟨k, hk⟩ : ∃ k, H0 / 2 ^ r = k := ⟨_, rfl⟩
    obtain ⟨m, hm⟩ : ∃ m, t * 2 ^ s = m := ⟨_, rfl⟩
    rw [hk] at k0 k1 hor2 ⊢
    rw [hm] at m0 hts hor2 ⊢
    obtain ⟨u, hu⟩ : ∃ u, m + k = u := ⟨_, rfl⟩
    rw [hu] at hor2 ⊢
    have u0 : 0 ≤ u := by omega
    have u1 : u ≤ 18446744073709551615 := by omega
    have m1 : m ≤ 18446744073709551615 := by omega
    have t1 : t ≤ 18446744073709551615 := by omega
    have HPS := hid ps
    clear hc2 h hv vb hT hfit e2 hH hr hu hts k1 ps pr ht
    go_enter Tryz.func152, Tryz.ntmps152
    go_wp2_with fail
    go_quiet (fail)
    go_wp2_with fail
    go_quiet (fail)
    go_wp2_with fail
    go_ret
    exact ⟨ret_int (by omega), by omega, by omega, by first | exact bdn (Below.refl _ _) _ | exact bdn (bdn (Below.refl _ _) _) _⟩
end Go.Proofs.YtabkgpnckaaclaaGreatDoor

/- A struct's memory: a block of its cells. -/
namespace Go.Proofs.YtabkgpnckaaclaaGreatDoor
open Go.RowKit
set_option linter.unusedVariables false

/-- A struct's memory. -/
def Box (w : World) (b t : Nat) (vs : Array Value) : Prop := w.heap[b]? = some (.cells vs t (0, 0))
theorem Box.cell {w : World} {b t : Nat} {vs : Array Value} (h : Box w b t vs) (j : Nat) : w.cell? ⟨b, j, none⟩ = vs[j]? := by
  unfold Box at h
  simp [World.cell?, h]
theorem Box.free {w : World} {b t : Nat} {vs : Array Value} (h : Box w b t vs) (j : Nat) : w.frozen? ⟨b, j, none⟩ = false := by
  unfold Box at h
  simp [World.frozen?, h]
theorem Box.later {w w' : World} {B b t : Nat} {vs : Array Value} (h : Box w b t vs) (hb : Below B w w') (hlt : b < B) : Box w' b t vs := by
  unfold Box at *
  rw [hb.block b hlt]; exact h
theorem Box.lt {w : World} {b t : Nat} {vs : Array Value} (h : Box w b t vs) : b < w.heap.size := by
  unfold Box at h
  have : w.heap[b]?.isSome := by rw [h]; rfl
  simpa using this
theorem Box.made (w : World) (t : Nat) (vs : Array Value) : Box (w.alloc (.cells vs t)) w.heap.size t vs := by
  unfold Box
  show (w.heap.push _)[w.heap.size]? = _
  rw [Array.getElem?_push, if_pos rfl]
theorem Box.other {w : World} {b t : Nat} {vs : Array Value} (h : Box w b t vs) (p : Addr) (v : Value) (hne : b ≠ p.block) : Box (w.setCell p v) b t vs := by
  unfold Box at *
  rw [Below.heap_setCell w p v b hne]; exact h
theorem Box.drewN {w : World} {b t : Nat} {vs : Array Value} (h : Box w b t vs) (n : Nat) : Box (w.drewN n) b t vs := h
theorem Box.set {w : World} {b t : Nat} {vs : Array Value} (h : Box w b t vs) (j : Nat) (v : Value) : Box (w.setCell ⟨b, j, none⟩ v) b t (vs.setIfInBounds j v) := by
  unfold Box at *
  simp only [World.setCell, Array.getElem?_modify, if_pos, h]
  simp
end Go.Proofs.YtabkgpnckaaclaaGreatDoor

/- (nat.leap).apply: two numbers in own memory become two sums of multiples of them. -/
namespace Go.Proofs.YtabkgpnckaaclaaGreatDoor
open Go.RowKit
set_option linter.unusedVariables false

theorem OwnC.drewN {w : World} {base g n cap : Nat} {ys : List Int} (h : OwnC w base g n cap ys) (m : Nat) : OwnC (w.drewN m) base g n cap ys := h

theorem OwnC.base {w : World} {base g n cap : Nat} {ys : List Int} (h : OwnC w base g n cap ys) : base ≤ g ∧ g < w.heap.size := World.ownsRow.lt h g rfl

theorem apply_step (xs ys us : List Int) (k : Nat) (a b c p1 p2 T : Int) (hk : k < us.length) (h1 : a * xs[k]?.getD 0 = p1) (h2 : b * ys[k]?.getD 0 = p2) (hT : c + (p1 + p2) = T)
    (h : valTo us k + c * 4294967296 ^ k = a * valTo xs k + b * valTo ys k) :
    valTo (us.set k (T % 4294967296)) (k + 1) + T / 4294967296 * 4294967296 ^ (k + 1) = a * valTo xs (k + 1) + b * valTo ys (k + 1) := by
  rw [valTo_set us k _ hk, valTo_succ xs, valTo_succ ys, pw_succ, Int.mul_add, Int.mul_add, ← Int.mul_assoc a, ← Int.mul_assoc b, h1, h2]
  have e := carry_step (4294967296 ^ k) (T % 4294967296) (T / 4294967296) T (by omega)
  have e2 : T * 4294967296 ^ k = c * 4294967296 ^ k + (p1 * 4294967296 ^ k + p2 * 4294967296 ^ k) := by
    rw [← hT, Int.add_mul, Int.add_mul]
  omega

/-- Two factors of unlike signs, below 2^31 in size. -/
def Coef (a b : Int) : Prop := (0 ≤ a ∧ a ≤ 2147483647 ∧ -2147483647 ≤ b ∧ b ≤ 0) ∨ (-2147483647 ≤ a ∧ a ≤ 0 ∧ 0 ≤ b ∧ b ≤ 2147483647)
theorem coef_pos (a v : Int) (h0 : 0 ≤ a) (h1 : a ≤ 2147483647) (v0 : 0 ≤ v) (v1 : v ≤ 4294967295) : 0 ≤ a * v ∧ a * v ≤ 9223372030412324865 := by
  have e1 := Int.mul_nonneg h0 v0
  have e2 : a * v ≤ 2147483647 * v := Int.mul_le_mul_of_nonneg_right h1 v0
  omega
theorem coef_neg (a v : Int) (h0 : -2147483647 ≤ a) (h1 : a ≤ 0) (v0 : 0 ≤ v) (v1 : v ≤ 4294967295) : -9223372030412324865 ≤ a * v ∧ a * v ≤ 0 := by
  have := coef_pos (-a) v (by omega) (by omega) v0 v1
  rw [Int.neg_mul] at this
  omega
theorem Coef.bounds {a b : Int} (h : Coef a b) {v w p1 p2 : Int} (v0 : 0 ≤ v ∧ v ≤ 4294967295) (w0 : 0 ≤ w ∧ w ≤ 4294967295) (h1 : a * v = p1) (h2 : b * w = p2) :
    (-9223372030412324865 ≤ p1 ∧ p1 ≤ 9223372030412324865) ∧ (-9223372030412324865 ≤ p2 ∧ p2 ≤ 9223372030412324865) ∧ (-9223372030412324865 ≤ p1 + p2 ∧ p1 + p2 ≤ 9223372030412324865) := by
  rcases h with ⟨a0, a1, b0, b1⟩ | ⟨a0, a1, b0, b1⟩
  · have e1 := coef_pos a v a0 a1 v0.1 v0.2
    have e2 := coef_neg b w b0 b1 w0.1 w0.2
    omega
  · have e1 := coef_neg a v a0 a1 v0.1 v0.2
    have e2 := coef_pos b w b0 b1 w0.1 w0.2
    omega
theorem Coef.wide {a b : Int} (h : Coef a b) : (-2147483647 ≤ a ∧ a ≤ 2147483647) ∧ (-2147483647 ≤ b ∧ b ≤ 2147483647) := by
  rcases h with h | h <;> omega

/-- What is left of a number when nothing is carried out. -/
theorem apply_end {us : List Int} (hw : Wd us) (n : Nat) (c V : Int) (hl : us.length = n) (h0 : 0 ≤ V) (h1 : V < 4294967296 ^ n) (h : valTo us n + c * 4294967296 ^ n = V) : val us = V := by
  have b := valTo_bounds hw n
  have hp := pw_pos n
  have hc : c = 0 := by
    have e1 : c * 4294967296 ^ n < 1 * 4294967296 ^ n := by omega
    have e2 : (-1) * 4294967296 ^ n < c * 4294967296 ^ n := by omega
    have e3 := Int.lt_of_mul_lt_mul_right e1 (by omega)
    have e4 := Int.lt_of_mul_lt_mul_right e2 (by omega)
    omega
  rw [hc] at h
  rw [← valTo_stable us n (by omega)]
  omega

set_option maxHeartbeats 3200000 in
set_option maxRecDepth 100000 in
theorem apply_any (base gx gy n capx capy : Nat) (xs ys : List Int) (s a b c d : Int) (w : World) (hx : OwnC w base gx n capx xs) (hy : OwnC w base gy n capy ys) (hne : gx ≠ gy) (wx : Wd xs) (wy : Wd ys) (hn : n ≤ 8192)
    (h1 : Coef a b) (h2 : Coef c d) (x0 : 0 ≤ a * val xs + b * val ys) (x1 : a * val xs + b * val ys < 4294967296 ^ n) (y0 : 0 ≤ c * val xs + d * val ys) (y1 : c * val xs + d * val ys < 4294967296 ^ n) :
    Calls Tryz.prog 142 #[.agg #[.int .i64 s, .int .i64 a, .int .i64 b, .int .i64 c, .int .i64 d], .slice (some ⟨gx, 0, none⟩) n capx, .slice (some ⟨gy, 0, none⟩) n capy] w fun e w' => ∃ us vs, e = .returned (.tuple #[]) ∧ OwnC w' base gx n capx us ∧ OwnC w' base gy n capy vs ∧ Wd us ∧ Wd vs ∧
      val us = a * val xs + b * val ys ∧ val vs = c * val xs + d * val ys ∧ Below base w w' := by
  have bx := hx.base
  have by' := hy.base
  have cx := hx.cap
  have cy := hy.cap
  have lx := hx.len
  have ly := hy.len
  unfold maxLen at cx cy
  have HX0 := hid (And.intro x0 (And.intro x1 (And.intro y0 y1)))
  have HL := hid (And.intro lx ly)
  have hne2 : ¬ gx = gy := hne
  have hne3 : ¬ gy = gx := fun e => hne e.symm
  have HOX := hid (owns_later hx (alloc_later w (.cells #[.int .i64 s, .int .i64 a, .int .i64 b, .int .i64 c, .int .i64 d] 139)))
  have HOY := hid (owns_later hy (alloc_later w (.cells #[.int .i64 s, .int .i64 a, .int .i64 b, .int .i64 c, .int .i64 d] 139)))
  have HBX := hid (Box.made w 139 #[.int .i64 s, .int .i64 a, .int .i64 b, .int .i64 c, .int .i64 d])
  have HW := hid (And.intro h1.wide h2.wide)
  have H1 := hid h1
  have H2 := hid h2
  clear x0 x1 y0 y1 hx hy lx ly h1 h2 hne
  have hncy : n ≤ capy := cy.1
  go_enter Tryz.func142, Tryz.ntmps142
  go_wp2_with fail
  go_loopw [6, 7, 17] (fun cu cv t wr => ∃ (k : Nat) (c1 c2 : Int) (us vs : List Int), k ≤ n ∧ t = .int .i64 k ∧ cu = .int .i64 c1 ∧ cv = .int .i64 c2 ∧ -2147483647 ≤ c1 ∧ c1 ≤ 2147483647 ∧ -2147483647 ≤ c2 ∧ c2 ≤ 2147483647 ∧ Wd us ∧ Wd vs ∧
    Hid (valTo us k + c1 * 4294967296 ^ k = a * valTo xs k + b * valTo ys k) ∧ Hid (valTo vs k + c2 * 4294967296 ^ k = c * valTo xs k + d * valTo ys k) ∧ Hid (∀ j, k ≤ j → us[j]?.getD 0 = xs[j]?.getD 0 ∧ vs[j]?.getD 0 = ys[j]?.getD 0) ∧
    OwnC wr base gx n capx us ∧ OwnC wr base gy n capy vs ∧ Box wr w.heap.size 139 #[.int .i64 s, .int .i64 a, .int .i64 b, .int .i64 c, .int .i64 d] ∧ Below base w wr) (fun _ _ t _ => n - (intOf t).toNat)
  case atStart => exact ⟨0, 0, 0, xs, ys, by omega, rfl, rfl, rfl, by omega, by omega, by omega, by omega, wx, wy, show _ = _ by simp [valTo], show _ = _ by simp [valTo], fun _ _ => ⟨rfl, rfl⟩, HOX.out, HOY.out, HBX.out, (alloc_later _ _).mono (by omega)⟩
  case round =>
    obtain ⟨k, c1, c2, us, vs, hk, rfl, rfl, rfl, c10, c11, c20, c21, wu, wv, HV1, HV2, HK, ou, ov, hbox, hbel⟩ := hrel
    by_cases hlt : k < n
    · have u1 := ou.cell k hlt
      have v1 := ov.cell k hlt
      have fu := ou.free k
      have fv := ov.free k
      have q1 : wr.cell? ⟨w.heap.size, 1, none⟩ = some (.int .i64 a) := hbox.cell 1
      have q2 : wr.cell? ⟨w.heap.size, 2, none⟩ = some (.int .i64 b) := hbox.cell 2
      have q3 : wr.cell? ⟨w.heap.size, 3, none⟩ = some (.int .i64 c) := hbox.cell 3
      have q4 : wr.cell? ⟨w.heap.size, 4, none⟩ = some (.int .i64 d) := hbox.cell 4
      have bv := wu.at k
      have bw := wv.at k
      have hk2 := HK.out k (Nat.le_refl _)
      rw [hk2.1] at u1 bv
      rw [hk2.2] at v1 bw
      obtain ⟨p1, hp1⟩ : ∃ p, a * xs[k]?.getD 0 = p := ⟨_, rfl⟩
      obtain ⟨p2, hp2⟩ : ∃ p, b * ys[k]?.getD 0 = p := ⟨_, rfl⟩
      obtain ⟨p3, hp3⟩ : ∃ p, c * xs[k]?.getD 0 = p := ⟨_, rfl⟩
      obtain ⟨p4, hp4⟩ : ∃ p, d * ys[k]?.getD 0 = p := ⟨_, rfl⟩
      have B1 := H1.out.bounds bv bw hp1 hp2
      have B2 := H2.out.bounds bv bw hp3 hp4
      obtain ⟨T, hT⟩ : ∃ T, c1 + (p1 + p2) = T := ⟨_, rfl⟩
      obtain ⟨U, hU⟩ : ∃ U, c2 + (p3 + p4) = U := ⟨_, rfl⟩
      have hlu := ou.len
      have hlv := ov.len
      have HV1' := hid (apply_step xs ys us k a b c1 p1 p2 T (by omega) hp1 hp2 hT HV1.out)
      have HV2' := hid (apply_step xs ys vs k c d c2 p3 p4 U (by omega) hp3 hp4 hU HV2.out)
      have T0 : -9223372032559808512 ≤ T ∧ T ≤ 9223372032559808512 := by omega
      have U0 : -9223372032559808512 ≤ U ∧ U ≤ 9223372032559808512 := by omega
      obtain ⟨z, hz⟩ : ∃ z, T % 4294967296 = z := ⟨_, rfl⟩
      obtain ⟨y, hy⟩ : ∃ y, U % 4294967296 = y := ⟨_, rfl⟩
      have z0 : 0 ≤ z ∧ z ≤ 4294967295 := by omega
      have y0 : 0 ≤ y ∧ y ≤ 4294967295 := by omega
      have hwz : IntKind.u32.wrap T = z := by rw [IntKind.wrap_u32, hz]
      have hwy : IntKind.u32.wrap U = y := by rw [IntKind.wrap_u32, hy]
      rw [hz] at HV1'
      rw [hy] at HV2'
      have HK' : Hid (∀ j, k + 1 ≤ j → (us.set k z)[j]?.getD 0 = xs[j]?.getD 0 ∧ (vs.set k y)[j]?.getD 0 = ys[j]?.getD 0) := fun j hj => by
        rw [List.getElem?_set, if_neg (by omega), List.getElem?_set, if_neg (by omega)]
        exact HK.out j (by omega)
      have HC : Hid ((-2147483647 ≤ T / 4294967296 ∧ T / 4294967296 ≤ 2147483647) ∧ (-2147483647 ≤ U / 4294967296 ∧ U / 4294967296 ≤ 2147483647)) := by show _ ∧ _; omega
      have hout : ∀ m, OwnC (((wr.drewN m).setCell ⟨gx, k, none⟩ (.int .u32 z)).setCell ⟨gy, k, none⟩ (.int .u32 y)) base gx n capx (us.set k z) ∧ OwnC (((wr.drewN m).setCell ⟨gx, k, none⟩ (.int .u32 z)).setCell ⟨gy, k, none⟩ (.int .u32 y)) base gy n capy (vs.set k y) ∧
          Box (((wr.drewN m).setCell ⟨gx, k, none⟩ (.int .u32 z)).setCell ⟨gy, k, none⟩ (.int .u32 y)) w.heap.size 139 #[.int .i64 s, .int .i64 a, .int .i64 b, .int .i64 c, .int .i64 d] ∧ Below base w (((wr.drewN m).setCell ⟨gx, k, none⟩ (.int .u32 z)).setCell ⟨gy, k, none⟩ (.int .u32 y)) := fun m => by
        have s1 := OwnC.set (ou.drewN m) k z
        have o2 : OwnC ((wr.drewN m).setCell ⟨gx, k, none⟩ (.int .u32 z)) base gy n capy vs := World.ownsRow.kept (ov.drewN m) s1.2 (by right; intro e; simp [Value.ownBlock] at e; omega)
        have s2 := OwnC.set o2 k y
        have o1 := World.ownsRow.kept s1.1 s2.2 (by right; intro e; simp [Value.ownBlock] at e; omega)
        refine ⟨o1, s2.1, (Box.other (Box.other (hbox.drewN m) _ _ (by show _ ≠ gx; omega)) _ _ (by show _ ≠ gy; omega)), ?_⟩
        exact ((bdn hbel m).setCell (p := ⟨gx, k, none⟩) bx.1 _).setCell (p := ⟨gy, k, none⟩) by'.1 _
      have HOUT := hid hout
      have hwn : w.heap.size < wr.heap.size := hbox.lt
      clear hout hlu hlv ou ov hbox hbel HV1 HV2 HK hk2 hz hy HOX HOY HBX
      go_wp2_with fail
      go_quiet (fail)
      go_wp2_with fail
      go_roundw
      case rel => exact ⟨k + 1, T / 4294967296, U / 4294967296, us.set k z, vs.set k y, by omega, by go_num, by go_num, by go_num, HC.out.1.1, HC.out.1.2, HC.out.2.1, HC.out.2.2, wu.set _ z0, wv.set _ y0, HV1', HV2', HK', (HOUT.out _).1, (HOUT.out _).2.1, (HOUT.out _).2.2.1, (HOUT.out _).2.2.2⟩
      case measure => simp [intOf]; omega
    · have hkn : k = n := by omega
      subst hkn
      have hlu := ou.len
      have hlv := ov.len
      have HF1 : Hid (val us = a * val xs + b * val ys) := apply_end wu k c1 _ hlu HX0.out.1 HX0.out.2.1 (by have e := HV1.out; rw [valTo_stable xs k (by have := HL.out.1; omega), valTo_stable ys k (by have := HL.out.2; omega)] at e; exact e)
      have HF2 : Hid (val vs = c * val xs + d * val ys) := apply_end wv k c2 _ hlv HX0.out.2.2.1 HX0.out.2.2.2 (by have e := HV2.out; rw [valTo_stable xs k (by have := HL.out.1; omega), valTo_stable ys k (by have := HL.out.2; omega)] at e; exact e)
      have HO1 := hid ou
      have HO2 := hid ov
      clear ou ov hlu hlv
      go_wp2_with fail
      go_end0
      exact ⟨us, vs, rfl, HO1.out, HO2.out, wu, wv, HF1.out, HF2.out, hbel⟩
end Go.Proofs.YtabkgpnckaaclaaGreatDoor

/- Euclid's steps, many at once: plain arithmetic, nothing of the program. -/
namespace Go.Proofs.YtabkgpnckaaclaaGreatDoor
open Go.RowKit
set_option linter.unusedVariables false

/-- The sizes of a leap's four factors and its sign, after s steps. -/
structure Lp (s g A B C D : Int) : Prop where
  a0 : 0 ≤ A
  b0 : 0 ≤ B
  c0 : 0 ≤ C
  cd : C ≤ D
  d1 : 1 ≤ D
  det : A * D - B * C = g
  sgn : g = 1 ∨ g = -1
  way : (s = 0 ∧ A = 1 ∧ B = 0 ∧ C = 0 ∧ D = 1) ∨ (1 ≤ s ∧ A ≤ B ∧ 1 ≤ B ∧ B ≤ D ∧ 1 ≤ C)

theorem Lp.first : Lp 0 1 1 0 0 1 := ⟨by omega, by omega, by omega, by omega, by omega, by omega, .inl rfl, .inl ⟨rfl, rfl, rfl, rfl, rfl⟩⟩

theorem Lp.step {s g A B C D Q : Int} (h : Lp s g A B C D) (hQ : 1 ≤ Q) : Lp (s + 1) (-g) C D (A + Q * C) (B + Q * D) := by
  obtain ⟨a0, b0, c0, cd, d1, det, sgn, way⟩ := h
  have q1 : 0 ≤ Q * C := Int.mul_nonneg (by omega) c0
  have q2 : Q * C ≤ Q * D := Int.mul_le_mul_of_nonneg_left cd (by omega)
  have q3 : 1 * D ≤ Q * D := Int.mul_le_mul_of_nonneg_right hQ (by omega)
  have q4 : 1 * C ≤ Q * C := Int.mul_le_mul_of_nonneg_right hQ c0
  rw [Int.one_mul] at q3 q4
  have hdet : C * (B + Q * D) - D * (A + Q * C) = -g := by
    rw [Int.mul_add, Int.mul_add, Int.mul_comm C B, Int.mul_comm D A, ← Int.mul_assoc C, ← Int.mul_assoc D, Int.mul_comm C Q, Int.mul_comm D Q, Int.mul_assoc Q C, Int.mul_assoc Q D, Int.mul_comm D C]
    omega
  rcases way with ⟨e0, e1, e2, e3, e4⟩ | ⟨w1, w2, w3, w4, w5⟩
  · subst e1 e2 e3 e4
    refine ⟨by omega, by omega, by omega, by omega, by omega, hdet, by omega, .inr ⟨by omega, by omega, by omega, by omega, by omega⟩⟩
  · refine ⟨by omega, by omega, by omega, by omega, by omega, hdet, by omega, .inr ⟨by omega, by omega, by omega, by omega, by omega⟩⟩

/-- One step of the division: the first pair out of the later one. -/
theorem pair_step {A B C D Q p q r p0 q0 : Int} (hp : p = Q * q + r) (h1 : p0 = D * p + B * q) (h2 : q0 = C * p + A * q) :
    p0 = (B + Q * D) * q + D * r ∧ q0 = (A + Q * C) * q + C * r := by
  subst hp
  constructor
  · rw [h1, Int.mul_add, Int.add_mul, ← Int.mul_assoc, Int.mul_comm D Q]; omega
  · rw [h2, Int.mul_add, Int.add_mul, ← Int.mul_assoc, Int.mul_comm C Q]; omega

/-- The later pair out of the first one. -/
theorem pair_back {g A B C D p q p0 q0 : Int} (det : A * D - B * C = g) (sgn : g = 1 ∨ g = -1) (h1 : p0 = D * p + B * q) (h2 : q0 = C * p + A * q) :
    p = g * A * p0 + -(g * B) * q0 ∧ q = -(g * C) * p0 + g * D * q0 := by
  have e1 : A * p0 - B * q0 = g * p := by
    rw [h1, h2, Int.mul_add, Int.mul_add, ← Int.mul_assoc A D, ← Int.mul_assoc B C, ← Int.mul_assoc A B, ← Int.mul_assoc B A, Int.mul_comm B A, ← det, Int.sub_mul]; omega
  have e2 : D * q0 - C * p0 = g * q := by
    rw [h1, h2, Int.mul_add, Int.mul_add, ← Int.mul_assoc D C, ← Int.mul_assoc C D, ← Int.mul_assoc D A, ← Int.mul_assoc C B, Int.mul_comm D A, Int.mul_comm C B, Int.mul_comm D C, ← det, Int.sub_mul]; omega
  rcases sgn with rfl | rfl
  · simp only [Int.one_mul, Int.neg_mul] at *
    omega
  · simp only [Int.neg_mul, Int.one_mul, Int.neg_neg] at *
    omega

/-- What is below the highest bits changes a sum of two multiples with unlike signs by less than the greater one. -/
theorem low_part {C D K xl yl : Int} (c0 : 0 ≤ C) (cd : C ≤ D) (x0 : 0 ≤ xl) (x1 : xl < K) (y0 : 0 ≤ yl) (y1 : yl < K) : -(D * (K - 1)) ≤ D * yl - C * xl ∧ D * yl - C * xl ≤ D * (K - 1) ∧ -(D * (K - 1)) ≤ C * xl - D * yl := by
  have e1 : D * yl ≤ D * (K - 1) := Int.mul_le_mul_of_nonneg_left (by omega) (by omega)
  have e2 : C * xl ≤ C * (K - 1) := Int.mul_le_mul_of_nonneg_left (by omega) c0
  have e3 : C * (K - 1) ≤ D * (K - 1) := Int.mul_le_mul_of_nonneg_right cd (by omega)
  have e4 : 0 ≤ D * yl := Int.mul_nonneg (by omega) y0
  have e5 : 0 ≤ C * xl := Int.mul_nonneg c0 x0
  omega

/-- What a leap does to two numbers whose highest bits it was found by. -/
structure Leaps (X Y a b c d : Int) : Prop where
  ab : Coef a b
  cd : Coef c d
  pos : 0 ≤ c * X + d * Y
  lt : c * X + d * Y < a * X + b * Y
  le : a * X + b * Y ≤ X
  less : (a * X + b * Y) + (c * X + d * Y) < X + Y
  same : gcdI (a * X + b * Y) (c * X + d * Y) = gcdI X Y

theorem gcd_dvd_of {x y u v a b c d : Int} (h1 : u = a * x + b * y) (h2 : v = c * x + d * y) : Int.gcd x y ∣ Int.gcd u v := by
  rw [← Int.ofNat_dvd]
  exact Int.dvd_coe_gcd (by rw [h1]; exact Int.dvd_add (Int.dvd_mul_of_dvd_right (Int.gcd_dvd_left ..)) (Int.dvd_mul_of_dvd_right (Int.gcd_dvd_right ..))) (by rw [h2]; exact Int.dvd_add (Int.dvd_mul_of_dvd_right (Int.gcd_dvd_left ..)) (Int.dvd_mul_of_dvd_right (Int.gcd_dvd_right ..)))

theorem leaps_of {s g A B C D p q K xl yl X Y : Int} (h : Lp s g A B C D) (hs : 1 ≤ s) (hK : 1 ≤ K) (x0 : 0 ≤ xl) (x1 : xl < K) (y0 : 0 ≤ yl) (y1 : yl < K)
    (hX : X = (D * p + B * q) * K + xl) (hY : Y = (C * p + A * q) * K + yl) (hD : D ≤ 2147483647) (hq : D ≤ q) (hpq : B + D ≤ p - q) : Leaps X Y (g * A) (-(g * B)) (-(g * C)) (g * D) := by
  obtain ⟨a0, b0, c0, cd, d1, det, sgn, way⟩ := h
  obtain ⟨_, w2, w3, w4, w5⟩ : 1 ≤ s ∧ A ≤ B ∧ 1 ≤ B ∧ B ≤ D ∧ 1 ≤ C := by
    rcases way with ⟨e, _⟩ | h
    · omega
    · exact h
  have hcoef : Coef (g * A) (-(g * B)) ∧ Coef (-(g * C)) (g * D) := by
    rcases sgn with rfl | rfl
    · simp only [Int.one_mul]; exact ⟨.inl ⟨by omega, by omega, by omega, by omega⟩, .inr ⟨by omega, by omega, by omega, by omega⟩⟩
    · simp only [Int.neg_mul, Int.one_mul, Int.neg_neg]; exact ⟨.inr ⟨by omega, by omega, by omega, by omega⟩, .inl ⟨by omega, by omega, by omega, by omega⟩⟩
  -- the two sums, by the highest bits and by what is below
  obtain ⟨u, hu⟩ : ∃ u, g * A * X + -(g * B) * Y = u := ⟨_, rfl⟩
  obtain ⟨v, hv⟩ : ∃ v, -(g * C) * X + g * D * Y = v := ⟨_, rfl⟩
  have pb := pair_back (p := p) (q := q) det sgn rfl rfl
  have hue : u = p * K + g * (A * xl - B * yl) := by
    rw [← hu, hX, hY]
    have e := pb.1
    generalize D * p + B * q = P at *
    generalize C * p + A * q = R at *
    rw [e, Int.mul_add, Int.mul_add, Int.add_mul, ← Int.mul_assoc, ← Int.mul_assoc, Int.mul_sub, ← Int.mul_assoc g A, ← Int.mul_assoc g B, Int.neg_mul (g * B) yl]
    omega
  have hve : v = q * K + g * (D * yl - C * xl) := by
    rw [← hv, hX, hY]
    have e := pb.2
    generalize D * p + B * q = P at *
    generalize C * p + A * q = R at *
    rw [e, Int.mul_add, Int.mul_add, Int.add_mul, ← Int.mul_assoc, ← Int.mul_assoc, Int.mul_sub, ← Int.mul_assoc g D, ← Int.mul_assoc g C, Int.neg_mul (g * C) xl]
    omega
  have hXe : X = D * u + B * v := by
    have e : g * g = 1 := by rcases sgn with rfl | rfl <;> rfl
    have e1 : D * u + B * v = g * (A * D - B * C) * X := by
      rw [← hu, ← hv, Int.mul_add, Int.mul_add, Int.mul_sub, Int.sub_mul]
      have f1 : D * (g * A * X) = g * (A * D) * X := by rw [← Int.mul_assoc, Int.mul_comm D, Int.mul_assoc g A D]
      have f2 : D * (-(g * B) * Y) = -(g * B * D * Y) := by rw [Int.neg_mul, Int.mul_neg, ← Int.mul_assoc, Int.mul_comm D (g * B)]
      have f3 : B * (-(g * C) * X) = -(g * (B * C) * X) := by rw [Int.neg_mul, Int.mul_neg, ← Int.mul_assoc, Int.mul_comm B (g * C), Int.mul_assoc g C B, Int.mul_comm C B]
      have f4 : B * (g * D * Y) = g * B * D * Y := by rw [← Int.mul_assoc, ← Int.mul_assoc, Int.mul_comm B g]
      rw [f1, f2, f3, f4]
      omega
    rw [e1, det, e, Int.one_mul]
  have hYe : Y = C * u + A * v := by
    have e : g * g = 1 := by rcases sgn with rfl | rfl <;> rfl
    have e1 : C * u + A * v = g * (A * D - B * C) * Y := by
      rw [← hu, ← hv, Int.mul_add, Int.mul_add, Int.mul_sub, Int.sub_mul]
      have f1 : C * (g * A * X) = g * A * C * X := by rw [← Int.mul_assoc, Int.mul_comm C (g * A)]
      have f2 : C * (-(g * B) * Y) = -(g * (B * C) * Y) := by rw [Int.neg_mul, Int.mul_neg, ← Int.mul_assoc, Int.mul_comm C (g * B), Int.mul_assoc g B C]
      have f3 : A * (-(g * C) * X) = -(g * A * C * X) := by rw [Int.neg_mul, Int.mul_neg, ← Int.mul_assoc, ← Int.mul_assoc, Int.mul_comm A g]
      have f4 : A * (g * D * Y) = g * (A * D) * Y := by rw [← Int.mul_assoc, ← Int.mul_assoc, Int.mul_comm A g, Int.mul_assoc g A D]
      rw [f1, f2, f3, f4]
      omega
    rw [e1, det, e, Int.one_mul]
  have l1 := low_part (C := C) (D := D) (K := K) c0 cd x0 x1 y0 y1
  have l2 := low_part (C := A + C) (D := B + D) (K := K) (xl := xl) (yl := yl) (by omega) (by omega) x0 x1 y0 y1
  have k1 : D * K ≤ q * K := Int.mul_le_mul_of_nonneg_right hq (by omega)
  have k2 : (B + D) * K ≤ (p - q) * K := Int.mul_le_mul_of_nonneg_right hpq (by omega)
  rw [Int.mul_sub, Int.mul_one] at l1 l2
  rw [Int.sub_mul] at k2
  rw [Int.add_mul (A) C xl, Int.add_mul B D yl] at l2
  have v0 : 0 ≤ v := by
    rw [hve]
    rcases sgn with rfl | rfl
    · rw [Int.one_mul]; omega
    · rw [Int.neg_mul, Int.one_mul]; omega
  have uv : v < u := by
    rw [hve, hue]
    rcases sgn with rfl | rfl
    · rw [Int.one_mul, Int.one_mul]; omega
    · rw [Int.neg_mul, Int.one_mul, Int.neg_mul, Int.one_mul]; omega
  have m1 : 1 * u ≤ D * u := Int.mul_le_mul_of_nonneg_right d1 (by omega)
  have m2 : 0 ≤ B * v := Int.mul_nonneg b0 v0
  have m2' : 1 * v ≤ B * v := Int.mul_le_mul_of_nonneg_right w3 v0
  have m3 : 1 * u ≤ C * u := Int.mul_le_mul_of_nonneg_right w5 (by omega)
  have m4 : 0 ≤ A * v := Int.mul_nonneg a0 v0
  refine ⟨hcoef.1, hcoef.2, ?_, ?_, ?_, ?_, ?_⟩
  · rw [hv]; exact v0
  · rw [hu, hv]; exact uv
  · rw [hu]; omega
  · rw [hu, hv]; omega
  · rw [hu, hv]
    unfold gcdI
    congr 1
    exact Nat.dvd_antisymm (gcd_dvd_of (x := u) (y := v) hXe hYe) (gcd_dvd_of (x := X) (y := Y) hu.symm hv.symm)

/-- How great the factors of a step are, whether it holds or not. -/
theorem Lp.small {s g A B C D p q P0 : Int} (h : Lp s g A B C D) (hp : 1 ≤ p) (hq : 0 ≤ q) (h1 : P0 = D * p + B * q) (hP : P0 ≤ 4611686018427387903) : D ≤ 4611686018427387903 := by
  have e1 : D * 1 ≤ D * p := Int.mul_le_mul_of_nonneg_left hp (by have := h.d1; omega)
  have e2 : 0 ≤ B * q := Int.mul_nonneg h.b0 hq
  omega
theorem Lp.held {s g A B C D p q P0 : Int} (h : Lp s g A B C D) (hq : D ≤ q) (hpq : B + D ≤ p - q) (h1 : P0 = D * p + B * q) (hP : P0 ≤ 4611686018427387903) : D ≤ 2147483647 := by
  by_cases c : D ≤ 2147483647
  · exact c
  · have hb := h.b0
    have e1 : D * 2147483648 ≤ D * p := Int.mul_le_mul_of_nonneg_left (by omega) (by omega)
    have e2 : 0 ≤ B * q := Int.mul_nonneg h.b0 (by omega)
    omega
end Go.Proofs.YtabkgpnckaaclaaGreatDoor

/- nat.look: the leap that the highest bits of two numbers tell. -/
namespace Go.Proofs.YtabkgpnckaaclaaGreatDoor
open Go.RowKit
set_option linter.unusedVariables false

theorem lead_fit (x : Int) (h0 : 1 ≤ x) (h1 : x ≤ 4294967295) (t : Nat) (ht : 32 - Lib.bitLen x.toNat = t) : t ≤ 31 ∧ ∀ y : Int, 0 ≤ y → y ≤ x → y * 2 ^ t < 4294967296 := by
  obtain ⟨a, b, c⟩ := bitLen_bounds x h0 h1
  have h2 := bitLen_le32 x h1
  refine ⟨by omega, fun y hy hyx => ?_⟩
  have e := two_split (Lib.bitLen x.toNat) h2
  rw [ht] at e
  have hp := two_pos t
  have e1 : (y + 1) * 2 ^ t ≤ 2 ^ Lib.bitLen x.toNat * 2 ^ t := Int.mul_le_mul_of_nonneg_right (by omega) (by omega)
  rw [Int.add_mul] at e1
  omega

/-- What look tells. -/
def Looked (w : World) (X Y : Int) (x : Ending) (w' : World) : Prop := ∃ s a b c d : Int, x = .returned (.agg #[.int .i64 s, .int .i64 a, .int .i64 b, .int .i64 c, .int .i64 d]) ∧ 0 ≤ s ∧ s ≤ 4611686018427387904 ∧ (s = 0 ∨ (1 ≤ s ∧ Leaps X Y a b c d)) ∧ Below w.heap.size w w'

theorem Box.put5 {w : World} {b t : Nat} {z0 z1 z2 z3 z4 : Value} (h : Box w b t #[z0, z1, z2, z3, z4]) (v0 v1 v2 v3 v4 : Value) :
    Box (((((w.setCell ⟨b, 0, none⟩ v0).setCell ⟨b, 1, none⟩ v1).setCell ⟨b, 2, none⟩ v2).setCell ⟨b, 3, none⟩ v3).setCell ⟨b, 4, none⟩ v4) b t #[v0, v1, v2, v3, v4] :=
  ((((h.set 0 v0).set 1 v1).set 2 v2).set 3 v3).set 4 v4
theorem below_put5 {B : Nat} {a w : World} (h : Below B a w) (b : Nat) (hb : B ≤ b) (v0 v1 v2 v3 v4 : Value) :
    Below B a (((((w.setCell ⟨b, 0, none⟩ v0).setCell ⟨b, 1, none⟩ v1).setCell ⟨b, 2, none⟩ v2).setCell ⟨b, 3, none⟩ v3).setCell ⟨b, 4, none⟩ v4) :=
  ((((h.setCell (p := ⟨b, 0, none⟩) hb _).setCell (p := ⟨b, 1, none⟩) hb _).setCell (p := ⟨b, 2, none⟩) hb _).setCell (p := ⟨b, 3, none⟩) hb _).setCell (p := ⟨b, 4, none⟩) hb _

theorem new_box {wr w5 : World} {vs : Array Value} {t : Nat} (hb : Below (wr.alloc (.cells vs t)).drew.heap.size (wr.alloc (.cells vs t)).drew w5) : Box w5 wr.heap.size t vs ∧ Below wr.heap.size wr w5 := by
  have h1 : Below (wr.alloc (.cells vs t)).heap.size (wr.alloc (.cells vs t)) w5 := (Below.refl _ (wr.alloc (.cells vs t))).drew.trans hb
  exact ⟨(Box.made wr t vs).later h1 (by simp), bt (alloc_later _ _) h1⟩
theorem Box.put5_other {w : World} {b t b' : Nat} {vs : Array Value} (h : Box w b t vs) (hne : b ≠ b') (v0 v1 v2 v3 v4 : Value) :
    Box (((((w.setCell ⟨b', 0, none⟩ v0).setCell ⟨b', 1, none⟩ v1).setCell ⟨b', 2, none⟩ v2).setCell ⟨b', 3, none⟩ v3).setCell ⟨b', 4, none⟩ v4) b t vs :=
  ((((h.other ⟨b', 0, none⟩ _ hne).other ⟨b', 1, none⟩ _ hne).other ⟨b', 2, none⟩ _ hne).other ⟨b', 3, none⟩ _ hne).other ⟨b', 4, none⟩ _ hne

theorem top_le {xs ys : List Int} (wx : Wd xs) (wy : Wd ys) (n : Nat) (lx : xs.length = n + 1) (ly : ys.length = n + 1) (h : val ys ≤ val xs) : ys[n]?.getD 0 ≤ xs[n]?.getD 0 := by
  by_cases c : ys[n]?.getD 0 ≤ xs[n]?.getD 0
  · exact c
  · have := val_lt_of wx wy n (by omega) (fun j hj => by rw [List.getElem?_eq_none (by omega), List.getElem?_eq_none (by omega)])
    omega

/-- The sizes that a step's factors have. -/
theorem step_sizes {s g A B C D p q a b c d Q : Int} (h : Lp s g A B C D) (hQ : 1 ≤ Q) (hD : B + Q * D ≤ 4611686018427387903) (ha : a = g * A) (hb : b = -(g * B)) (hc : c = -(g * C)) (hd : d = g * D) :
    IntKind.i64.wrap (Q * c) = Q * c ∧ IntKind.i64.wrap (Q * d) = Q * d ∧ IntKind.i64.wrap (a - Q * c) = a - Q * c ∧ IntKind.i64.wrap (b - Q * d) = b - Q * d ∧ d = -(-g * D) ∧ c = -g * C ∧ a - Q * c = -(-g * (A + Q * C)) ∧ b - Q * d = -g * (B + Q * D) := by
  obtain ⟨a0, b0, c0, cd, d1, det, sgn, way⟩ := h
  have q1 : 0 ≤ Q * C := Int.mul_nonneg (by omega) c0
  have q2 : Q * C ≤ Q * D := Int.mul_le_mul_of_nonneg_left cd (by omega)
  have q3 : 0 ≤ Q * D := Int.mul_nonneg (by omega) (by omega)
  have q4 : 1 * D ≤ Q * D := Int.mul_le_mul_of_nonneg_right hQ (by omega)
  have hA : A ≤ B + Q * D := by rcases way with ⟨_, e1, _, _, e4⟩ | ⟨_, w2, _, _, _⟩ <;> omega
  have f1 : d = -(-g * D) := by rw [hd, Int.neg_mul, Int.neg_neg]
  have f2 : c = -g * C := by rw [hc, Int.neg_mul]
  have f3 : a - Q * c = -(-g * (A + Q * C)) := by
    rw [ha, hc, Int.neg_mul, Int.neg_neg, Int.mul_neg, Int.mul_add, ← Int.mul_assoc Q, ← Int.mul_assoc g Q, Int.mul_comm Q g]; omega
  have f4 : b - Q * d = -g * (B + Q * D) := by
    rw [hb, hd, Int.neg_mul, Int.mul_add, ← Int.mul_assoc Q, ← Int.mul_assoc g Q, Int.mul_comm Q g]; omega
  have bb : (-4611686018427387903 ≤ Q * c ∧ Q * c ≤ 4611686018427387903) ∧ (-4611686018427387903 ≤ Q * d ∧ Q * d ≤ 4611686018427387903) ∧ (-4611686018427387903 ≤ a ∧ a ≤ 4611686018427387903) ∧ (-4611686018427387903 ≤ b ∧ b ≤ 4611686018427387903) := by
    rcases sgn with rfl | rfl
    · rw [Int.one_mul] at ha hb hc hd
      rw [hc, hd, ha, hb, Int.mul_neg]
      omega
    · rw [Int.neg_mul, Int.one_mul] at ha hb hc hd
      rw [Int.neg_neg] at hb hc
      rw [hc, hd, ha, hb, Int.mul_neg]
      omega
  exact ⟨IntWalk.i64_in _ (by omega), IntWalk.i64_in _ (by omega), IntWalk.i64_in _ (by omega), IntWalk.i64_in _ (by omega), f1, f2, f3, f4⟩

theorem abs_of {g A a : Int} (h : 0 ≤ A) (sgn : g = 1 ∨ g = -1) (ha : a = g * A ∨ a = -(g * A)) : (a.natAbs : Int) = A := by
  rcases sgn with rfl | rfl
  · simp only [Int.one_mul] at ha; omega
  · simp only [Int.neg_mul, Int.one_mul] at ha; omega

set_option maxHeartbeats 3200000 in
set_option maxRecDepth 100000 in
theorem look_any (a : Option Addr) (e cap : Nat) (xs : List Int) (b : Option Addr) (cap' : Nat) (ys : List Int) (w : World) (h : Reads w w.heap.size a (e + 3) cap xs) (g : Reads w w.heap.size b (e + 3) cap' ys) (hn : e ≤ 8192) (htop : 1 ≤ xs[e + 2]?.getD 0) (hle : val ys ≤ val xs) :
    Calls Tryz.prog 141 #[.slice a (e + 3) cap, .slice b (e + 3) cap'] w (Looked w (val xs) (val ys)) := by
  have bt0 := h.2.1.at (e + 2)
  have bt1 := g.2.1.at (e + 2)
  have hty := top_le h.2.1 g.2.1 (e + 2) h.1 g.1 hle
  obtain ⟨t, ht⟩ : ∃ t, 32 - Lib.bitLen (xs[e + 2]?.getD 0).toNat = t := ⟨_, rfl⟩
  obtain ⟨t31, hfit⟩ := lead_fit _ htop bt0.2 t ht
  have HLD := hid (fun ww => lead_any (xs[e + 2]?.getD 0) ww htop bt0.2)
  rw [ht] at HLD
  have HX := hid (fun ww (hb : Below w.heap.size w ww) => highest_any a e cap xs t ww (h.later hb hb.size) hn t31 (hfit _ (by omega) (Int.le_refl _)))
  have HY := hid (fun ww (hb : Below w.heap.size w ww) => highest_any b e cap' ys t ww (g.later hb hb.size) hn t31 (hfit _ bt1.1 hty))
  -- the highest bits, and what is below them
  have nx := val_nonneg h.2.1
  have ny := val_nonneg g.2.1
  have kp : (0 : Int) < 4294967296 ^ e * 2 ^ (34 - t) := Int.mul_pos (pw_pos e) (two_pos _)
  have dx : val xs / 4294967296 ^ e / 2 ^ (34 - t) = val xs / (4294967296 ^ e * 2 ^ (34 - t)) := Int.ediv_ediv_of_nonneg (Int.le_of_lt (pw_pos e))
  have dy : val ys / 4294967296 ^ e / 2 ^ (34 - t) = val ys / (4294967296 ^ e * 2 ^ (34 - t)) := Int.ediv_ediv_of_nonneg (Int.le_of_lt (pw_pos e))
  rw [dx] at HX
  rw [dy] at HY
  obtain ⟨K, hK⟩ : ∃ K : Int, 4294967296 ^ e * 2 ^ (34 - t) = K := ⟨_, rfl⟩
  rw [hK] at HX HY kp
  have mx := Int.mul_ediv_add_emod (val xs) K
  have my := Int.mul_ediv_add_emod (val ys) K
  have lx := Int.emod_lt_of_pos (val xs) kp
  have ly := Int.emod_lt_of_pos (val ys) kp
  have lx0 := Int.emod_nonneg (val xs) (show K ≠ 0 by omega)
  have ly0 := Int.emod_nonneg (val ys) (show K ≠ 0 by omega)
  have pq : val ys / K ≤ val xs / K := Int.ediv_le_ediv kp hle
  have q00 : 0 ≤ val ys / K := Int.ediv_nonneg ny (by omega)
  obtain ⟨p0, hp0⟩ : ∃ p, val xs / K = p := ⟨_, rfl⟩
  obtain ⟨q0, hq0⟩ : ∃ p, val ys / K = p := ⟨_, rfl⟩
  rw [hp0] at HX mx pq
  rw [hq0] at HY my pq q00
  have HK := hid (And.intro kp (And.intro mx (And.intro my (And.intro lx (And.intro ly (And.intro lx0 ly0))))))
  rcases h.2.2.1 with h0 | ⟨b2, o2, rfl, hb2, hc2⟩
  · omega
  have hc0 := hc2 (e + 2) (by omega)
  clear dx dy hK mx my lx ly lx0 ly0 hp0 hq0 kp hc2 h g hfit ht hty bt1 nx ny hle
  generalize xs[e + 2]?.getD 0 = top at *
  go_enter Tryz.func141, Tryz.ntmps141
  go_wp2_with fail
  refine Calls.mono (HLD.out _) ?_
  rintro x w' ⟨rfl, rfl⟩
  go_wp2_with fail
  refine Calls.mono (HX.out _ (alloc_later _ _)) ?_
  rintro x w2 ⟨rfl, p00, p01, hb2'⟩
  have hbA := bt (alloc_later _ _) hb2'
  have HR2 := hid (Box.later (Box.made w 139 #[.int .i64 0, .int .i64 0, .int .i64 0, .int .i64 0, .int .i64 0]) hb2' (by simp))
  go_wp2_with fail
  refine Calls.mono (HY.out _ hbA) ?_
  rintro x w3 ⟨rfl, _, q01, hb3⟩
  have hbB := bt hbA hb3
  have HR3 := hid (Box.later HR2.out hb3 HR2.out.lt)
  have hs3 := HR3.out.lt
  have HBB := hid hbB
  clear hb3 hb2' hbA hbB HR2 HX HY HLD hc0
  go_wp2_with fail
  go_loopw [6, 7] (fun c1 c2 wr => ∃ (s f A B C D p q a b c d : Int), c1 = .int .i64 p ∧ c2 = .int .i64 q ∧ 0 ≤ q ∧ q ≤ p ∧ p ≤ 4611686018427387903 ∧ 0 ≤ s ∧ s + q ≤ 4611686018427387903 ∧ Hid (Lp s f A B C D) ∧ Hid (p0 = D * p + B * q ∧ q0 = C * p + A * q) ∧ Hid (a = f * A ∧ b = -(f * B) ∧ c = -(f * C) ∧ d = f * D) ∧ Hid (s = 0 ∨ (D ≤ q ∧ B + D ≤ p - q)) ∧
    Box wr w3.heap.size 139 #[.int .i64 s, .int .i64 a, .int .i64 b, .int .i64 c, .int .i64 d] ∧ Box wr w.heap.size 139 #[.int .i64 0, .int .i64 0, .int .i64 0, .int .i64 0, .int .i64 0] ∧ Below w.heap.size w wr) (fun _ c2 _ => (intOf c2).toNat)
  case atStart => exact ⟨0, 1, 1, 0, 0, 1, p0, q0, 1, 0, 0, 1, rfl, rfl, q00, pq, by omega, by omega, by omega, Lp.first, show _ ∧ _ by omega, show _ ∧ _ by omega, .inl rfl, Box.made _ _ _, HR3.out.later (alloc_later _ _) hs3, bt HBB.out (alloc_later _ _)⟩
  case round =>
    obtain ⟨s, f, A, B, C, D, p, q, a', b', c', d', rfl, rfl, qa, qb, pa, sa, sq, HLP, HPQ, HAB, HH, box, res, hbel⟩ := hrel
    have k0 : wr.cell? ⟨w3.heap.size, 0, none⟩ = some (.int .i64 s) := box.cell 0
    have k1 : wr.cell? ⟨w3.heap.size, 1, none⟩ = some (.int .i64 a') := box.cell 1
    have k2 : wr.cell? ⟨w3.heap.size, 2, none⟩ = some (.int .i64 b') := box.cell 2
    have k3 : wr.cell? ⟨w3.heap.size, 3, none⟩ = some (.int .i64 c') := box.cell 3
    have k4 : wr.cell? ⟨w3.heap.size, 4, none⟩ = some (.int .i64 d') := box.cell 4
    have HFIN : Hid (s = 0 ∨ (1 ≤ s ∧ Leaps (val xs) (val ys) a' b' c' d')) := by
      rcases HH.out with h0 | ⟨h1, h2⟩
      · exact .inl h0
      · by_cases hs0 : s = 0
        · exact .inl hs0
        · right
          obtain ⟨e1, e2, e3, e4⟩ := HAB.out
          obtain ⟨kp, mx, my, lx, ly, lx0, ly0⟩ := HK.out
          refine ⟨by omega, ?_⟩
          rw [e1, e2, e3, e4]
          exact leaps_of HLP.out (by omega) (by omega) lx0 lx ly0 ly (by rw [← HPQ.out.1, Int.mul_comm]; exact mx.symm) (by rw [← HPQ.out.2, Int.mul_comm]; exact my.symm) (HLP.out.held h1 h2 HPQ.out.1 (by omega)) h1 h2
    by_cases hq : q = 0
    · subst hq
      have r0 : wr.cell? ⟨w.heap.size, 0, none⟩ = some (.int .i64 0) := res.cell 0
      have r1 : wr.cell? ⟨w.heap.size, 1, none⟩ = some (.int .i64 0) := res.cell 1
      have r2 : wr.cell? ⟨w.heap.size, 2, none⟩ = some (.int .i64 0) := res.cell 2
      have r3 : wr.cell? ⟨w.heap.size, 3, none⟩ = some (.int .i64 0) := res.cell 3
      have r4 : wr.cell? ⟨w.heap.size, 4, none⟩ = some (.int .i64 0) := res.cell 4
      have g0 := res.free 0
      have g1 := res.free 1
      have g2 := res.free 2
      have g3 := res.free 3
      have g4 := res.free 4
      go_wp2_with fail
      refine bodyPost_ret (v := .agg #[.int .i64 s, .int .i64 a', .int .i64 b', .int .i64 c', .int .i64 d']) (by simp [results, Tryz.results141, go_sem, r0, r1, r2, r3, r4]) rfl ?_
      exact ⟨s, a', b', c', d', rfl, sa, by omega, HFIN.out, ((((hbel.setCell (p := ⟨w.heap.size, 0, none⟩) (Nat.le_refl _) _).setCell (p := ⟨w.heap.size, 1, none⟩) (Nat.le_refl _) _).setCell (p := ⟨w.heap.size, 2, none⟩) (Nat.le_refl _) _).setCell (p := ⟨w.heap.size, 3, none⟩) (Nat.le_refl _) _).setCell (p := ⟨w.heap.size, 4, none⟩) (Nat.le_refl _) _⟩
    · have q1 : 1 ≤ q := by omega
      have hne : (q != 0) = true := by simp [hq]
      have Q1 : 1 ≤ p / q := (Int.le_ediv_iff_mul_le (by omega)).2 (by omega)
      have hpe := Int.mul_ediv_add_emod p q
      have m0' : 0 ≤ p % q := Int.emod_nonneg _ hq
      have m1 : p % q < q := Int.emod_lt_of_pos _ (by omega)
      have td : p.tdiv q = p / q := Int.tdiv_eq_ediv_of_nonneg (by omega)
      have tm : p.tmod q = p % q := Int.tmod_eq_emod_of_nonneg (by omega)
      have Qp : p / q ≤ p := Int.ediv_le_self _ (by omega)
      obtain ⟨Q, hQ⟩ : ∃ Q, p / q = Q := ⟨_, rfl⟩
      obtain ⟨r, hr⟩ : ∃ r, p % q = r := ⟨_, rfl⟩
      rw [hQ] at Q1 hpe td Qp
      rw [hr] at m0' m1 hpe tm
      have wQ : IntKind.i64.wrap Q = Q := IntWalk.i64_in _ (by omega)
      have ps := pair_step (Q := Q) (q := q) (r := r) (by rw [Int.mul_comm]; exact hpe.symm) HPQ.out.1 HPQ.out.2
      have lp' := HLP.out.step Q1
      have hD := lp'.small q1 m0' ps.1 (by omega)
      obtain ⟨e1, e2, e3, e4⟩ := HAB.out
      obtain ⟨w1', w2', w3', w4', f1, f2, f3, f4⟩ := step_sizes (p := p) (q := q) HLP.out Q1 hD e1 e2 e3 e4
      have HST := hid (fun ww => Calls.mono (step_any s a' b' c' d' Q ww ⟨sa, by omega⟩ w1' w2' w3' w4') (R' := fun e w' => e = .returned (.agg #[.int .i64 (s + 1), .int .i64 c', .int .i64 d', .int .i64 (a' - Q * c'), .int .i64 (b' - Q * d')]) ∧ Below ww.heap.size ww w' ∧
        (wr.heap.size < ww.heap.size → ∀ j, w'.cell? ⟨wr.heap.size, j, none⟩ = ww.cell? ⟨wr.heap.size, j, none⟩) ∧ (wr.heap.size < ww.heap.size → ∀ j, w'.frozen? ⟨wr.heap.size, j, none⟩ = ww.frozen? ⟨wr.heap.size, j, none⟩)) (fun _ _ h => ⟨h.1, h.2, fun hlt j => h.2.cell hlt, fun hlt j => h.2.frozen hlt⟩))
      obtain ⟨c2, hc2⟩ : ∃ c2, a' - Q * c' = c2 := ⟨_, rfl⟩
      obtain ⟨d2, hd2⟩ : ∃ d2, b' - Q * d' = d2 := ⟨_, rfl⟩
      rw [hc2] at f3 HST
      rw [hd2] at f4 HST
      obtain ⟨C2, hC2⟩ : ∃ C2, A + Q * C = C2 := ⟨_, rfl⟩
      obtain ⟨D2, hD2⟩ : ∃ D2, B + Q * D = D2 := ⟨_, rfl⟩
      rw [hC2] at lp' ps f3
      rw [hD2] at lp' ps f4 hD
      have ad := abs_of (a := d') lp'.b0 lp'.sgn (.inr f1)
      have ad2 := abs_of (a := d2) (by have := lp'.d1; omega) lp'.sgn (.inl f4)
      have lD : D ≤ D2 := by
        rcases lp'.way with ⟨x0, _⟩ | ⟨_, _, _, x3, _⟩
        · omega
        · exact x3
      have lD0 := lp'.b0
      have HHO := hid (fun ww => holds_any (s + 1) c' d' c2 d2 q r ww (by omega) (by omega) (by omega) (by omega) (by omega))
      rw [ad, ad2] at HHO
      have HLP' := hid lp'
      have HPS := hid ps
      have HAB' : Hid (c' = -f * C ∧ d' = -(-f * D) ∧ c2 = -(-f * C2) ∧ d2 = -f * D2) := ⟨f2, f1, f3, f4⟩
      have hbs := box.lt
      have hrs := res.lt
      have HBX := hid box
      have HRS := hid res
      have HBL := hid hbel
      clear lp' ps f1 f2 f3 f4 e1 e2 e3 e4 ad ad2 hC2 hD2 hc2 hd2 w1' w2' w3' w4' hpe box res hbel HLP HPQ HAB HH lD lD0 hD
      go_upto_region 5 with fail
      go_cut [9, 10] from 25 to 42 (fun n9 n10 wx => ∃ b9 : Nat, n9 = .pointer (some ⟨b9, 0, none⟩) ∧ n10 = .int .i64 r ∧ Box wx b9 139 #[.int .i64 (s + 1), .int .i64 c', .int .i64 d', .int .i64 c2, .int .i64 d2] ∧ wr.heap.size ≤ b9 ∧ Below wr.heap.size wr wx)
      case first =>
        go_region_with (go_at_call 153; with_reducible refine Calls.mono (HST.out _) ?_; rintro e w5 ⟨rfl, hb5, hx5, hy5⟩)
        all_goals
          go_wp2_with fail
          go_meet
        · exact ⟨_, rfl, rfl, Box.made _ _ _, hb5.size, bt ((Below.refl _ wr).drew.trans hb5) (alloc_later _ _)⟩
        · exact ⟨_, rfl, rfl, (new_box hb5).1.put5 _ _ _ _ _, Nat.le_refl _, below_put5 (new_box hb5).2 _ (Nat.le_refl _) _ _ _ _ _⟩
        · exact ⟨_, rfl, rfl, (new_box hb5).1.put5 _ _ _ _ _, Nat.le_refl _, below_put5 (new_box hb5).2 _ (Nat.le_refl _) _ _ _ _ _⟩
      case rest =>
        obtain ⟨b9, rfl, rfl, box9, hb9, hbw⟩ := hcut
        have n0 : wc.cell? ⟨b9, 0, none⟩ = some (.int .i64 (s + 1)) := box9.cell 0
        have n1 : wc.cell? ⟨b9, 1, none⟩ = some (.int .i64 c') := box9.cell 1
        have n2 : wc.cell? ⟨b9, 2, none⟩ = some (.int .i64 d') := box9.cell 2
        have n3 : wc.cell? ⟨b9, 3, none⟩ = some (.int .i64 c2) := box9.cell 3
        have n4 : wc.cell? ⟨b9, 4, none⟩ = some (.int .i64 d2) := box9.cell 4
        go_wp2_with fail
        refine Calls.mono (HHO.out _) ?_
        rintro e w6 ⟨rfl, hb6⟩
        have box8 := (HBX.out.later hbw hbs).later hb6 (HBX.out.later hbw hbs).lt
        have res8 := (HRS.out.later hbw hrs).later hb6 (HRS.out.later hbw hrs).lt
        have box6 := box9.later hb6 box9.lt
        have hbel : Below w.heap.size w w6 := bt HBL.out (bt hbw hb6)
        have hne6 : ¬ b9 = w3.heap.size := by omega
        have hne7 : ¬ w3.heap.size = b9 := by omega
        clear n0 n1 n2 n3 n4 k0 k1 k2 k3 k4 HST
        by_cases hh : D2 ≤ r ∧ D + D2 ≤ q - r
        · have hdec : decide (D2 ≤ r ∧ D + D2 ≤ q - r) = true := decide_eq_true hh
          rw [hdec]
          clear hdec
          have n0 : w6.cell? ⟨b9, 0, none⟩ = some (.int .i64 (s + 1)) := box6.cell 0
          have n1 : w6.cell? ⟨b9, 1, none⟩ = some (.int .i64 c') := box6.cell 1
          have n2 : w6.cell? ⟨b9, 2, none⟩ = some (.int .i64 d') := box6.cell 2
          have n3 : w6.cell? ⟨b9, 3, none⟩ = some (.int .i64 c2) := box6.cell 3
          have n4 : w6.cell? ⟨b9, 4, none⟩ = some (.int .i64 d2) := box6.cell 4
          have f0 := box8.free 0
          have f1 := box8.free 1
          have f2 := box8.free 2
          have f3 := box8.free 3
          have f4 := box8.free 4
          have m0 : w6.cell? ⟨w3.heap.size, 0, none⟩ = some (.int .i64 s) := box8.cell 0
          have m1 : w6.cell? ⟨w3.heap.size, 1, none⟩ = some (.int .i64 a') := box8.cell 1
          have m2 : w6.cell? ⟨w3.heap.size, 2, none⟩ = some (.int .i64 b') := box8.cell 2
          have m3 : w6.cell? ⟨w3.heap.size, 3, none⟩ = some (.int .i64 c') := box8.cell 3
          have m4 : w6.cell? ⟨w3.heap.size, 4, none⟩ = some (.int .i64 d') := box8.cell 4
          have HNX := hid (box8.put5 (.int .i64 (s + 1)) (.int .i64 c') (.int .i64 d') (.int .i64 c2) (.int .i64 d2))
          have HRX := hid (res8.put5_other (show w.heap.size ≠ w3.heap.size by omega) (.int .i64 (s + 1)) (.int .i64 c') (.int .i64 d') (.int .i64 c2) (.int .i64 d2))
          have HBX' := hid (below_put5 hbel w3.heap.size (by omega) (.int .i64 (s + 1)) (.int .i64 c') (.int .i64 d') (.int .i64 c2) (.int .i64 d2))
          have HHD := hid hh
          clear box6 box8 res8 box9 hbel hh hbw hb6
          go_wp2_with fail
          go_roundw
          case rel => exact ⟨s + 1, -f, C, D, C2, D2, q, r, c', d', c2, d2, rfl, rfl, m0', by omega, by omega, by omega, by omega, HLP', HPS, HAB', .inr HHD.out, HNX.out, HRX.out, HBX'.out⟩
          case measure => simp [intOf]; omega
        · have hdec : decide (D2 ≤ r ∧ D + D2 ≤ q - r) = false := decide_eq_false hh
          rw [hdec]
          clear hdec
          have m0 : w6.cell? ⟨w3.heap.size, 0, none⟩ = some (.int .i64 s) := box8.cell 0
          have m1 : w6.cell? ⟨w3.heap.size, 1, none⟩ = some (.int .i64 a') := box8.cell 1
          have m2 : w6.cell? ⟨w3.heap.size, 2, none⟩ = some (.int .i64 b') := box8.cell 2
          have m3 : w6.cell? ⟨w3.heap.size, 3, none⟩ = some (.int .i64 c') := box8.cell 3
          have m4 : w6.cell? ⟨w3.heap.size, 4, none⟩ = some (.int .i64 d') := box8.cell 4
          have r0 : w6.cell? ⟨w.heap.size, 0, none⟩ = some (.int .i64 0) := res8.cell 0
          have r1 : w6.cell? ⟨w.heap.size, 1, none⟩ = some (.int .i64 0) := res8.cell 1
          have r2 : w6.cell? ⟨w.heap.size, 2, none⟩ = some (.int .i64 0) := res8.cell 2
          have r3 : w6.cell? ⟨w.heap.size, 3, none⟩ = some (.int .i64 0) := res8.cell 3
          have r4 : w6.cell? ⟨w.heap.size, 4, none⟩ = some (.int .i64 0) := res8.cell 4
          have g0 := res8.free 0
          have g1 := res8.free 1
          have g2 := res8.free 2
          have g3 := res8.free 3
          have g4 := res8.free 4
          clear box6 box8 res8 box9 hh hbw hb6
          go_wp2_with fail
          refine bodyPost_ret (v := .agg #[.int .i64 s, .int .i64 a', .int .i64 b', .int .i64 c', .int .i64 d']) (by simp [results, Tryz.results141, go_sem, r0, r1, r2, r3, r4]) rfl ?_
          exact ⟨s, a', b', c', d', rfl, sa, by omega, HFIN.out, below_put5 hbel w.heap.size (Nat.le_refl _) _ _ _ _ _⟩
end Go.Proofs.YtabkgpnckaaclaaGreatDoor

/- nat.replace: a number in own memory becomes its rest by another one. -/
namespace Go.Proofs.YtabkgpnckaaclaaGreatDoor
open Go.RowKit
set_option linter.unusedVariables false

/-- Words set to nought, one behind the other. -/
theorem clear_cells {base g n cap : Nat} : ∀ (k o : Nat) (w : World) (zs : List Int), OwnC w base g n cap zs →
    ∃ us, OwnC (w.setCells g o (List.replicate k (.int .u32 0))) base g n cap us ∧ (∀ j, o ≤ j → j < o + k → us[j]?.getD 0 = 0) ∧ (∀ j, j < o → us[j]?.getD 0 = zs[j]?.getD 0) ∧ w.grownBy (w.setCells g o (List.replicate k (.int .u32 0))) (some g)
  | 0, o, w, zs, h => ⟨zs, h, fun j h1 h2 => by omega, fun _ _ => rfl, World.grownBy.refl _ _⟩
  | k + 1, o, w, zs, h => by
    obtain ⟨h1, hg⟩ := OwnC.set h o 0
    obtain ⟨us, h2, h3, h4, h5⟩ := clear_cells k (o + 1) _ _ h1
    refine ⟨us, h2, fun j a b => ?_, fun j a => ?_, grown_trans hg h5⟩
    · by_cases e : j = o
      · rw [h4 j (by omega), e, List.getElem?_set, if_pos rfl]
        split <;> rfl
      · exact h3 j (by omega) (by omega)
    · rw [h4 j (by omega), List.getElem?_set, if_neg (by omega)]

/-- A copy into an own row. -/
theorem copy_into {w : World} {ops : Array Oper} {rest : List Oper} {o : Oper} {a : Act} {Q : Exit → Act → World → Prop} (hgd : o.guard = none) (d s : Operand) (ho : o.op = .call { callee := .builtin .copy, args := #[d, s], argTypes := #[23, 23] })
    (base g n cap : Nat) (zs : List Int) (sp : Option Addr) (m scap B : Nat) (rs : List Int) (hd : a.eval d = .slice (some ⟨g, 0, none⟩) n cap) (hs : a.eval s = .slice sp m scap) (hO : OwnC w base g n cap zs) (wz : Wd zs) (hR : Reads w B sp m scap rs) (hm : m ≤ n)
    (h : ∀ w' us, Hid (OwnC w' base g n cap us) → Hid (∀ j, us[j]?.getD 0 = if j < m then rs[j]?.getD 0 else zs[j]?.getD 0) → Wd us → w.grownBy w' (some g) → wpList Tryz.prog ops Q rest (a.put o.dst (goInt m)) w') :
    wpList Tryz.prog ops Q (o :: rest) a w := by
  obtain ⟨i0, hi, hz0, hz1, hz2⟩ := info_parts Tryz.infoW
  have hlr := hR.1
  have hlz := hO.len
  by_cases h0 : m = 0
  · subst h0
    refine wpList_copy_nothing hgd d s _ _ ho 88 Tryz.underlying23 (by rw [hi]; simp [hz1]) _ sp n cap 0 scap hd hs (Nat.zero_min _) ?_
    exact h w zs hO (fun j => by rw [if_neg (by omega)]) wz (World.grownBy.refl _ _)
  · obtain ⟨ad, rfl, hcs⟩ := copy_cells hR m (Nat.le_refl _) (by omega)
    rw [List.take_of_length_le (by omega)] at hcs
    rcases hO.2 with ⟨h', _⟩ | ⟨g', cap', cur, h', hb, hg, hnc, hcm, hsz, ht⟩
    · simp at h'
    · simp only [Value.slice.injEq, Option.some.injEq, Addr.mk.injEq, and_true, true_and] at h'
      obtain ⟨rfl, rfl⟩ := h'
      have hlen : (rs.map (Value.int .u32)).length = m := by simp [hlr]
      have hzl : (zs.map (Value.int .u32)).length = n := by simp [hlz]
      rw [Nat.mul_one] at ht hsz
      refine wpList_copy_own hgd d s _ _ ho 88 Tryz.underlying23 (by rw [hi]; simp [hz1]) g 0 n cap ad m scap hd hs cur 88 hg (rs.map (Value.int .u32)) (by rw [hlen]; exact (Nat.min_eq_left hm).symm) hcs (by rw [hlen, hsz]; omega) (ints_oneCell _ _) ?_
      rw [hlen]
      refine h _ (rs ++ zs.drop m) ?_ (fun j => ?_) (hR.2.1.append (wz.drop m)) ?_
      · refine ⟨by simp; omega, .inr ⟨g, cap, _, rfl, hb, setRow_heap w g cur _ _ _ hg, hnc, hcm, by simp [hsz, hlr]; omega, ?_⟩⟩
        rw [Nat.mul_one]
        simp only [List.take_zero, List.nil_append, Nat.zero_add]
        rw [List.map_append, List.map_drop, ← ht]
        have e1 : n = (rs.map (Value.int .u32)).length + (n - m) := by rw [hlen]; omega
        conv => lhs; rw [e1]
        rw [List.take_length_add_append, ← List.drop_take]
      · rw [List.getElem?_append, hlr]
        by_cases c : j < m
        · rw [if_pos c, if_pos c]
        · rw [if_neg c, if_neg c, List.getElem?_drop, show m + (j - m) = j by omega]
      · exact ⟨rfl, rfl, rfl, by simp [World.setRow], fun k hk hne => setRow_other w g k _ (fun e => hne (by rw [e]))⟩

theorem OwnC.reads {w : World} {base g n cap : Nat} {ys : List Int} (h : OwnC w base g n cap ys) (hw : Wd ys) : Reads w w.heap.size (some ⟨g, 0, none⟩) n cap ys := by
  obtain ⟨a, c, hv, hr⟩ := Reads.own h hw
  simp only [Value.slice.injEq] at hv
  obtain ⟨rfl, _, rfl⟩ := hv
  exact hr
theorem OwnC.sl {w : World} {base g n cap : Nat} {ys : List Int} (h : OwnC w base g n cap ys) (hw : Wd ys) : Sl w (.slice (some ⟨g, 0, none⟩) n cap) ys := by
  have e := h.len
  subst e
  exact ⟨_, _, rfl, h.reads hw⟩

set_option maxHeartbeats 1600000 in
set_option maxRecDepth 100000 in
theorem replace_any (base gx gy n capx capy : Nat) (xs ys : List Int) (w : World) (hx : OwnC w base gx n capx xs) (hy : OwnC w base gy n capy ys) (hne : gx ≠ gy) (wx : Wd xs) (wy : Wd ys) (hn : n ≤ 8192) (tx : Trimmed xs) (h0 : 0 < sz ys) :
    Calls Tryz.prog 143 #[.slice (some ⟨gx, 0, none⟩) n capx, .slice (some ⟨gy, 0, none⟩) n capy] w fun e w' => ∃ (us : List Int) (q : Int), e = .returned (.tuple #[]) ∧ OwnC w' base gx n capx us ∧ OwnC w' base gy n capy ys ∧ Wd us ∧
      val xs = q * val ys + val us ∧ val us < val ys ∧ Below base w w' := by
  have bx := hx.base
  have by' := hy.base
  have cx := hx.cap
  have cy := hy.cap
  have lx := hx.len
  have ly := hy.len
  have sy := sz_le ys
  unfold maxLen at cx cy
  have HSZ := hid (size_any _ _ _ ys _ w (hy.reads wy) (by omega))
  have hyt : OwnC w base gy (sz ys) capy (trimmed ys) := hy.take (sz ys) (by omega)
  have HDV := hid (divide_any _ _ xs (trimmed ys) w (hx.sl wx) (hyt.sl wy.trimmed) (by omega) (by rw [length_trimmed]; omega) tx (Trimmed.trimmed _) (by rw [length_trimmed]; exact h0))
  have HOX := hid hx
  have HOY := hid hy
  have hszn : sz ys ≤ n := by omega
  have hsc : sz ys ≤ capy := by omega
  have n0 : 0 < n := by omega
  have hvl : val ys < 4294967296 ^ n := by have := val_lt wy; rw [ly] at this; exact this
  have HVL := hid hvl
  have HVT := hid (val_trimmed ys)
  clear hx hy hyt lx ly sy hvl
  obtain ⟨S, hS⟩ : ∃ S, sz ys = S := ⟨_, rfl⟩
  rw [hS] at HSZ HDV hszn hsc h0
  clear hS
  go_enter Tryz.func143, Tryz.ntmps143
  go_wp2_with fail
  refine Calls.mono HSZ.out ?_
  rintro e w' ⟨rfl, rfl⟩
  go_wp2_with fail
  refine Calls.mono HDV.out ?_
  rintro e w1 ⟨v1, u1, q, r, c, rfl, oq, orr, _, _, _, _, wq, wR, tq, tr, hv, hlt, hb1⟩
  rw [HVT.out] at hv hlt
  obtain ⟨a1, c1, rfl, hrr⟩ := Reads.own orr wR
  have lr : r.length ≤ n := len_of_lt wR tr (by have := HVL.out; omega)
  have ox1 : OwnC w1 base gx n capx xs := owns_later HOX.out hb1
  have oy1 : OwnC w1 base gy n capy ys := owns_later HOY.out hb1
  have hs1 := hb1.size
  obtain ⟨us, ou, hu0, _, hgu⟩ := clear_cells n 0 w1 xs ox1
  have hcl : ∀ ty, (Builtin.clear_ #[23] ty #[.slice (some ⟨gx, 0, none⟩) n capx]).run Tryz.prog w1 = .ok (.tuple #[]) (w1.setCells gx 0 (List.replicate n (.int .u32 0))) := fun ty =>
    Go.Lib.run_clear_slice w1 23 88 ty (.int .u32 0) Tryz.underlying23 (fun w => Tryz.zeroValue88 w) rfl rfl gx 0 n capx n0 (fun j hj => by rw [Nat.zero_add, ox1.cell j hj]; rfl) (fun j hj => by rw [Nat.zero_add]; exact ox1.free j)
  have oy2 := World.ownsRow.kept oy1 hgu (by right; intro e; simp [Value.ownBlock] at e; omega)
  have hb2 : Below base w1 (w1.setCells gx 0 (List.replicate n (.int .u32 0))) := (Below.refl _ _).grown hgu (by omega) (fun k hk => by simp at hk; omega)
  have hrr2 : Reads (w1.setCells gx 0 (List.replicate n (.int .u32 0))) w1.heap.size a1 r.length c1 r := by
    obtain ⟨r1, r2, r3, r4⟩ := hrr
    refine ⟨r1, r2, r3.imp id ?_, r4⟩
    rintro ⟨b, o, rfl, hb, hc⟩
    refine ⟨b, o, rfl, hb, fun j hj => ?_⟩
    have hbb := orr.lt b rfl
    exact hgu.cell (hc j hj) (by intro e; simp at e; omega)
  have hul := ou.len
  have hus : ∀ j : Nat, us[j]?.getD 0 = 0 := fun j => by
    by_cases cj : j < n
    · exact hu0 j (Nat.zero_le _) (by omega)
    · rw [List.getElem?_eq_none (by omega)]; rfl
  have wu : Wd us := fun z hz => by
    obtain ⟨j, hj, rfl⟩ := List.mem_iff_getElem.1 hz
    have := hus j
    rw [List.getElem?_eq_getElem hj] at this
    simp at this
    omega
  have hbB : Below base w (w1.setCells gx 0 (List.replicate n (.int .u32 0))) := (hb1.mono (by omega)).trans hb2
  have HUS := hid hus
  have HOU := hid ou
  have HOY2 := hid oy2
  have HRR := hid hrr2
  have HBB := hid hbB
  have HV := hid (And.intro hv hlt)
  have hs2 := hgu.size
  generalize w1.setCells gx 0 (List.replicate n (.int .u32 0)) = w2 at *
  clear oq orr hv hlt hb1 hrr ox1 oy1 ou hu0 hgu oy2 hb2 hrr2 hul hus hbB HOX HOY HSZ HDV
  go_wp2_with (refine copy_into rfl (.tmp 16) (.tmp 17) rfl base gx n capx us a1 r.length c1 _ r rfl rfl HOU.out wu HRR.out lr ?_)
  intro w3 ts HO3 HE3 wt hg3
  have HF : Hid (OwnC w3 base gy n capy ys) := World.ownsRow.kept HOY2.out hg3 (by right; intro e; simp [Value.ownBlock] at e; omega)
  have hb3 : Below base w w3 := HBB.out.trans ((Below.refl _ _).grown hg3 (by omega) (fun k hk => by simp at hk; omega))
  have HVV : Hid (val ts = val r) := val_eq_of (fun j => by
    rw [HE3.out j]
    split
    · rfl
    · rw [HUS.out j, List.getElem?_eq_none (by omega)]; rfl)
  clear hg3
  go_wp2_with fail
  go_end0
  exact ⟨ts, val q, rfl, HO3.out, HF.out, wt, by rw [HVV.out]; exact HV.out.1, by rw [HVV.out]; exact HV.out.2, hb3⟩
end Go.Proofs.YtabkgpnckaaclaaGreatDoor

/- nat.commonDivisor, nat.Gcd: the greatest common divisor of every two numbers, in new memory. -/
namespace Go.Proofs.YtabkgpnckaaclaaGreatDoor
open Go.RowKit
set_option linter.unusedVariables false

theorem val_take {zs : List Int} (k : Nat) (h : sz zs ≤ k) : val (zs.take k) = val zs := val_eq_of fun j => by
  rw [List.getElem?_take]
  split
  · rfl
  · rw [sz_behind zs j (by omega)]; rfl
theorem sz_mono {us vs : List Int} (wu : Wd us) (wv : Wd vs) (h : val vs ≤ val us) : sz vs ≤ sz us := by
  have := len_le_of_val wu.trimmed wv.trimmed (Trimmed.trimmed vs) (by rw [val_trimmed, val_trimmed]; exact h)
  rwa [length_trimmed, length_trimmed] at this
theorem list_same {us xs : List Int} (hl : us.length = xs.length) (h : ∀ j : Nat, us[j]?.getD 0 = xs[j]?.getD 0) : us = xs := by
  refine List.ext_getElem hl (fun j h1 h2 => ?_)
  have := h j
  rwa [List.getElem?_eq_getElem h1, List.getElem?_eq_getElem h2] at this

/-- Two new rows of noughts. -/
theorem two_made (wc : World) (base n : Nat) (M : Array Value) (hb : base ≤ wc.heap.size) (hn : n ≤ 8192) (hM : M = ((List.replicate n (0 : Int)).map (Value.int .u32)).toArray) :
    OwnC ((wc.alloc (.cells M 88)).alloc (.cells M 88)).drew base wc.heap.size n n (List.replicate n 0) ∧ OwnC ((wc.alloc (.cells M 88)).alloc (.cells M 88)).drew base (wc.heap.size + 1) n n (List.replicate n 0) ∧ Below wc.heap.size wc ((wc.alloc (.cells M 88)).alloc (.cells M 88)).drew := by
  subst hM
  have m : n ≤ maxLen := by unfold maxLen; omega
  have h1 : OwnC (wc.alloc (.cells ((List.replicate n (0 : Int)).map (Value.int .u32)).toArray 88)) base wc.heap.size n n (List.replicate n 0) := whole_row (Box.made wc _ _) (by simp) hb m
  have h2 : OwnC ((wc.alloc (.cells ((List.replicate n (0 : Int)).map (Value.int .u32)).toArray 88)).alloc (.cells ((List.replicate n (0 : Int)).map (Value.int .u32)).toArray 88)) base (wc.heap.size + 1) n n (List.replicate n 0) := by
    have := Box.made (wc.alloc (.cells ((List.replicate n (0 : Int)).map (Value.int .u32)).toArray 88)) 88 ((List.replicate n (0 : Int)).map (Value.int .u32)).toArray
    rw [show (wc.alloc (.cells ((List.replicate n (0 : Int)).map (Value.int .u32)).toArray 88)).heap.size = wc.heap.size + 1 by simp] at this
    exact whole_row this (by simp) (by omega) m
  exact ⟨owns_later h1 (alloc_later _ _).drew, h2, (bt (alloc_later _ _) (alloc_later _ _)).drew⟩

set_option maxHeartbeats 3200000 in
set_option maxRecDepth 100000 in
theorem commonDivisor_any (v u : Value) (xs ys : List Int) (w : World) (h : Sl w v xs) (g : Sl w u ys) (hn : xs.length ≤ 8192) (hm : ys.length ≤ 8192) (hx : Trimmed xs) (hy : Trimmed ys) :
    Calls Tryz.prog 127 #[v, u] w (Told1 w (gcdI (val xs) (val ys))) := by
  obtain ⟨i0, hi, hz0, hz1, hz2⟩ := info_parts Tryz.infoW
  have CC := hid (compare_sl v u xs ys w h g (by omega) (by omega))
  have wx := h.wd
  have wy := g.wd
  obtain ⟨a, cap, rfl, hr⟩ := h
  obtain ⟨b, cap', rfl, gr⟩ := g
  obtain ⟨c, hc⟩ : ∃ c, cmpI (val xs) (val ys) = c := ⟨_, rfl⟩
  rw [hc] at CC
  have HC := hid hc
  have HX := hid hr
  have HY := hid gr
  clear hc hr gr
  go_enter Tryz.func127, Tryz.ntmps127
  go_upto_if 12 with (go_at_call 111; refine Calls.mono CC.out ?_; rintro x w1 ⟨rfl, hb1⟩)
  go_cut [0, 1] from 13 to 14 (fun s0 s1 wx => ∃ (a0 : Option Addr) (n cp : Nat) (b0 : Option Addr) (m cp' : Nat) (x1 y1 : List Int), s0 = .slice a0 n cp ∧ s1 = .slice b0 m cp' ∧ Hid (Reads wx w.heap.size a0 n cp x1) ∧ Hid (Reads wx w.heap.size b0 m cp' y1) ∧ Hid (Trimmed x1) ∧ n ≤ 8192 ∧ m ≤ n ∧ Hid (val y1 ≤ val x1) ∧ Hid (gcdI (val x1) (val y1) = gcdI (val xs) (val ys)) ∧ Below w.heap.size w wx)
  case first =>
    have HB1 := hid hb1
    by_cases hlt : val xs < val ys
    · have hc1 : c = -1 := by rw [← HC.out, cmpI_lt hlt]
      have HL := hid hlt
      clear hlt
      subst hc1
      go_wp2_with fail
      go_meet
      case rel => exact ⟨_, _, _, _, _, _, ys, xs, rfl, rfl, HY.out.later HB1.out (Nat.le_refl _), HX.out.later HB1.out (Nat.le_refl _), hy, hm, len_le_of_val wy wx hx (Int.le_of_lt HL.out), Int.le_of_lt HL.out, gcdI_comm _ _, HB1.out⟩
    · have hci : 0 ≤ c := by rw [← HC.out]; unfold cmpI; rw [if_neg hlt]; split <;> omega
      have HL : Hid (val ys ≤ val xs) := by show _ ≤ _; omega
      clear hlt
      go_wp2_with fail
      go_meet
      case rel => exact ⟨_, _, _, _, _, _, xs, ys, rfl, rfl, HX.out.later HB1.out (Nat.le_refl _), HY.out.later HB1.out (Nat.le_refl _), hx, hn, len_le_of_val wx wy hy HL.out, HL.out, rfl, HB1.out⟩
  case rest =>
    obtain ⟨a0, n, cp, b0, m, cp', x1, y1, rfl, rfl, HR1, HR2, HT1, n8, hmn, HLE, HG, hbel⟩ := hcut
    clear HX HY CC HC wx wy hn hm hx hy
    go_upto_region 3 with fail
    go_cut [5, 6] from 15 to 20 (fun s5 s6 wx => ∃ g1 g2 : Nat, s5 = .slice (some ⟨g1, 0, none⟩) n n ∧ s6 = .slice (some ⟨g2, 0, none⟩) n n ∧ g1 ≠ g2 ∧ OwnC wx w.heap.size g1 n n (List.replicate n 0) ∧ OwnC wx w.heap.size g2 n n (List.replicate n 0) ∧ Below wc.heap.size wc wx)
    case first =>
      obtain ⟨M, hM⟩ : ∃ M, madeCells #[Value.int .u32 0] n = M := ⟨_, rfl⟩
      have hmk : ∀ ww, (Instr.makeSlice 23 (.int .i64 (n : Int)) (.int .i64 (n : Int))).run Tryz.prog ww = .ok (.slice (some ⟨ww.heap.size, 0, none⟩) n n) (ww.alloc (.cells M 88)) := fun ww => by
        have := run_make (P := Tryz.prog) ww 23 88 i0 (.int .u32 0) Tryz.underlying23 hi hz0 .i64 .i64 (n : Int) (n : Int) (by omega) (by omega) (by rw [hz2]; omega) (by omega)
        rw [hz1, Int.toNat_natCast, Nat.mul_one, show (Value.int .u32 0).cells = #[Value.int .u32 0] from rfl, hM] at this
        exact this
      have HM : Hid (M = ((List.replicate n (0 : Int)).map (Value.int .u32)).toArray) := by
        show _ = _
        rw [← made_words, hM]
      clear hM
      have HTM := hid (two_made wc w.heap.size n M hbel.size n8 HM.out)
      clear HM
      go_region
      all_goals go_wp2_with fail
      all_goals go_meet
      · exact ⟨_, _, rfl, rfl, by omega, HTM.out.1, HTM.out.2.1, HTM.out.2.2⟩
      · exact ⟨_, _, rfl, rfl, by omega, HTM.out.2.1, HTM.out.1, HTM.out.2.2⟩
    case rest =>
      rename World => w5
      obtain ⟨g1, g2, rfl, rfl, hne, o1, o2, hb2⟩ := hcut
      have hbA := hbel.trans (hb2.mono hbel.size)
      have HR1' := hid (HR1.out.later (hb2.mono hbel.size) (Nat.le_refl _))
      have HR2' := hid (HR2.out.later (hb2.mono hbel.size) (Nat.le_refl _))
      have l1 := HR1.out.1
      have l2 := HR2.out.1
      have wx1 := HR1.out.2.1
      have wy1 := HR2.out.2.1
      have b1 := o1.base
      have b2 := o2.base
      have HO1 := hid o1
      have HO2 := hid o2
      clear o1 o2 hbel hb2 HR1 HR2 hb1
      go_wp2_with (refine copy_into rfl (.tmp 21) (.tmp 22) rfl w.heap.size g1 n n (List.replicate n 0) a0 n cp _ x1 rfl rfl HO1.out (Wd.replicate n) HR1'.out (Nat.le_refl _) ?_)
      intro w6 us HU HUE wu hg6
      have hus : us = x1 := list_same (by rw [HU.out.len, l1]) (fun j => by
        rw [HUE.out j]
        split
        · rfl
        · rw [List.getElem?_eq_none (by simp; omega), List.getElem?_eq_none (by omega)])
      subst hus
      have hb6 : Below w.heap.size w5 w6 := (Below.refl _ _).grown hg6 (by omega) (fun k hk => by simp at hk; omega)
      have o2' : OwnC w6 w.heap.size g2 n n (List.replicate n 0) := World.ownsRow.kept HO2.out hg6 (by right; intro e; simp [Value.ownBlock] at e; omega)
      have HO2' := hid o2'
      have hbB := hbA.trans hb6
      have HR2b := hid (HR2'.out.later hb6 (Nat.le_refl _))
      have hs6 := hb6.size
      clear o2' hb6 hg6 HUE hbA HO1 HO2 HR1' HR2'
      go_wp2_with (refine copy_into rfl (.tmp 24) (.tmp 25) rfl w.heap.size g2 n n (List.replicate n 0) b0 m cp' _ y1 rfl rfl HO2'.out (Wd.replicate n) HR2b.out hmn ?_)
      intro w7 vs HVO HVE wv hg7
      have hvv : val vs = val y1 := val_eq_of (fun j => by
        rw [HVE.out j]
        split
        · rfl
        · rw [List.getElem?_eq_none (by omega : y1.length ≤ j), List.getElem?_replicate]
          split <;> rfl)
      have o1' : OwnC w7 w.heap.size g1 n n us := World.ownsRow.kept HU.out hg7 (by right; intro e; simp [Value.ownBlock] at e; omega)
      have hbC := hbB.trans ((Below.refl _ w6).grown hg7 (by omega) (fun k hk => by simp at hk; omega))
      have HO1 := hid o1'
      rw [← hvv] at HLE HG
      clear o1' hg7 HVE hbB HO2' HR2b HU hvv b1 b2 hs6
      generalize hGG : gcdI (val xs) (val ys) = G at *
      clear hGG
      go_wp2_with fail
      go_loopg [5, 6] (val us + val vs).toNat (fun k s5 s6 wr => ∃ (g1 g2 q : Nat) (us vs : List Int), s5 = .slice (some ⟨g1, 0, none⟩) q n ∧ s6 = .slice (some ⟨g2, 0, none⟩) q n ∧ q ≤ n ∧ g1 ≠ g2 ∧ OwnC wr w.heap.size g1 q n us ∧ OwnC wr w.heap.size g2 q n vs ∧ Wd us ∧ Wd vs ∧ Hid (Trimmed us) ∧ Hid (val vs ≤ val us) ∧ Hid ((k : Int) = val us + val vs) ∧ Hid (gcdI (val us) (val vs) = G) ∧ Below w.heap.size w wr)
      case atStart =>
        have n1 := val_nonneg wu
        have n2 := val_nonneg wv
        exact ⟨g1, g2, n, us, vs, rfl, rfl, Nat.le_refl _, hne, HO1.out, HVO.out, wu, wv, HT1, HLE, (show _ = _ by omega), HG, hbC⟩
      case round =>
        clear HO1 HVO HT1 HLE HG hbC wu wv hne wx1 wy1 l1 l2
        obtain ⟨h1, h2, q, xx, yy, rfl, rfl, hq, hne, o1, o2, wxx, wyy, HT, HLE, HK, HG, hbel⟩ := hrel
        have b1 := o1.base
        have b2 := o2.base
        have l1 := o1.len
        have l2 := o2.len
        have sy := sz_le yy
        rw [l2] at sy
        have HSZ := hid (fun ww (hb : Below wr.heap.size wr ww) => size_any _ _ _ yy _ ww ((o2.reads wyy).later hb hb.size) (by omega))
        by_cases hs : 2 < sz yy
        · obtain ⟨e, rfl⟩ : ∃ e, q = e + 3 := ⟨q - 3, by omega⟩
          have ht3 : sz xx = e + 3 := by have := HT.out; unfold Trimmed at this; omega
          have tb := wxx.at (e + 2)
          have tt := sz_top xx (by omega)
          rw [ht3, show e + 3 - 1 = e + 2 by omega] at tt
          have HLK := hid (look_any _ e n xx _ n yy wr (o1.reads wxx) (o2.reads wyy) (by omega) (by omega) HLE.out)
          have hs' : (2 : Int) < (sz yy : Int) := by omega
          have HSY := hid hs
          have nx := val_nonneg wxx
          have ny := val_nonneg wyy
          have HO1 := hid o1
          have HO2 := hid o2
          have HL1 := hid l1
          have HL2 := hid l2
          have hvx : val xx < 4294967296 ^ (e + 3) := by have := val_lt wxx; rw [l1] at this; exact this
          have HVX := hid hvx
          have HT3 := hid ht3
          clear tb tt o1 o2 hs hvx ht3 l1 l2
          obtain ⟨S, hS⟩ : ∃ S, sz yy = S := ⟨_, rfl⟩
          rw [hS] at HSZ hs' HSY sy
          have HS := hid hS
          clear hS
          go_wp2_with fail
          refine Calls.mono (HSZ.out _ (Below.refl _ _)) ?_
          rintro x w' ⟨rfl, rfl⟩
          go_wp2_with fail
          refine Calls.mono HLK.out ?_
          rintro x w8 ⟨s, a, b, c, d, rfl, s0, s1, hss, hb8⟩
          have hb9 : Below wr.heap.size wr (w8.alloc (.cells #[.int .i64 s, .int .i64 a, .int .i64 b, .int .i64 c, .int .i64 d] 139)) := bt hb8 (alloc_later _ _)
          have hs9 := hb9.size
          have o1' : OwnC _ w.heap.size h1 (e + 3) n xx := owns_later HO1.out hb9
          have o2' : OwnC _ w.heap.size h2 (e + 3) n yy := owns_later HO2.out hb9
          rcases hss with h0 | ⟨hs1, lp⟩
          · subst h0
            have HRP := hid (replace_any w.heap.size h1 h2 (e + 3) n n xx yy _ o1' o2' hne wxx wyy (by omega) HT.out (by have := HS.out; have := HSY.out; omega))
            have HB9 := hid (bt hbel hb9)
            clear o1' o2' hb9 HLK HSZ
            go_wp2_with fail
            refine Calls.mono HRP.out ?_
            rintro x w10 ⟨rs, qt, rfl, p1, p2, wrs, hv, hlt, hb10⟩
            have HSZ2 := hid (size_any _ _ _ yy _ w10 (p2.reads wyy) (by omega))
            rw [HS.out] at HSZ2
            have hbD : Below w.heap.size w w10 := HB9.out.trans hb10
            have hrs : sz rs ≤ S := by have := sz_mono wyy wrs (Int.le_of_lt hlt); rw [HS.out] at this; exact this
            have q1 : ∀ k, OwnC (w10.drewN k) w.heap.size h2 S n (yy.take S) := fun k => (p2.take S sy).drewN k
            have q2 : ∀ k, OwnC (w10.drewN k) w.heap.size h1 S n (rs.take S) := fun k => (p1.take S sy).drewN k
            have HQ1 := hid q1
            have HQ2 := hid q2
            have HV1 : Hid (val (yy.take S) = val yy) := val_take S (by rw [HS.out]; exact Nat.le_refl _)
            have HV2 : Hid (val (rs.take S) = val rs) := val_take S hrs
            have HTS : Hid (Trimmed (yy.take S)) := by
              have := Trimmed.trimmed yy
              unfold trimmed at this
              rw [HS.out] at this
              exact this
            have HGG : Hid (gcdI (val yy) (val rs) = G) := by show _ = _; rw [← HG.out]; exact (gcdI_rest hv).symm
            have HLT := hid hlt
            have hSn : S ≤ n := by omega
            have nr := val_nonneg wrs
            have hne2 : h2 ≠ h1 := fun e => hne e.symm
            clear p1 p2 hv hlt hb10 q1 q2 hrs HRP
            go_wp2_with fail
            refine Calls.mono HSZ2.out ?_
            rintro x w' ⟨rfl, rfl⟩
            go_wp2_with fail
            go_quiet (fail)
            go_wp2_with fail
            go_roundg (val yy + val rs).toNat
            case rel => exact ⟨h2, h1, S, yy.take S, rs.take S, rfl, rfl, hSn, hne2, HQ1.out _, HQ2.out _, wyy.take S, wrs.take S, HTS, (show _ ≤ _ by rw [HV1.out, HV2.out]; exact Int.le_of_lt HLT.out), (show _ = _ by rw [HV1.out, HV2.out]; omega), (show _ = _ by rw [HV1.out, HV2.out]; exact HGG.out), bdn hbD _⟩
            case measure => have := HK.out; have := HLE.out; have := HLT.out; omega
          · have HAP := hid (apply_any w.heap.size h1 h2 (e + 3) n n xx yy s a b c d _ o1' o2' hne wxx wyy (by omega) lp.ab lp.cd (by have := lp.pos; have := lp.lt; omega) (by have := lp.le; have := HVX.out; omega) lp.pos (by have := lp.lt; have := lp.le; have := HVX.out; omega))
            have HB9 := hid (bt hbel hb9)
            have HLP := hid lp
            clear o1' o2' hb9 HLK HSZ lp
            go_wp2_with fail
            refine Calls.mono HAP.out ?_
            rintro x w10 ⟨us, vs, rfl, p1, p2, wus, wvs, hv1, hv2, hb10⟩
            have hbD : Below w.heap.size w w10 := HB9.out.trans hb10
            have HSZ2 := hid (size_any _ _ _ us _ w10 (p1.reads wus) (by omega))
            have su := sz_le us
            rw [p1.len] at su
            obtain ⟨T, hT⟩ : ∃ T, sz us = T := ⟨_, rfl⟩
            rw [hT] at HSZ2 su
            have hvs : sz vs ≤ T := by rw [← hT]; exact sz_mono wus wvs (by rw [hv1, hv2]; exact Int.le_of_lt HLP.out.lt)
            have q1 : ∀ k, OwnC (w10.drewN k) w.heap.size h1 T n (us.take T) := fun k => (p1.take T su).drewN k
            have q2 : ∀ k, OwnC (w10.drewN k) w.heap.size h2 T n (vs.take T) := fun k => (p2.take T su).drewN k
            have HQ1 := hid q1
            have HQ2 := hid q2
            have HV1 : Hid (val (us.take T) = a * val xx + b * val yy) := by show _ = _; rw [val_take T (by omega), hv1]
            have HV2 : Hid (val (vs.take T) = c * val xx + d * val yy) := by show _ = _; rw [val_take T hvs, hv2]
            have HTS : Hid (Trimmed (us.take T)) := by
              have := Trimmed.trimmed us
              unfold trimmed at this
              rw [hT] at this
              exact this
            have hSn : T ≤ n := by omega
            have n1 := val_nonneg wus
            have n2 := val_nonneg wvs
            rw [hv1] at n1
            rw [hv2] at n2
            have HN := hid (And.intro n1 n2)
            clear p1 p2 hv1 hv2 hb10 q1 q2 hvs HAP hT n1 n2
            go_wp2_with fail
            refine Calls.mono HSZ2.out ?_
            rintro x w' ⟨rfl, rfl⟩
            go_wp2_with fail
            go_quiet (fail)
            go_wp2_with fail
            go_roundg ((a * val xx + b * val yy) + (c * val xx + d * val yy)).toNat
            case rel => exact ⟨h1, h2, T, us.take T, vs.take T, rfl, rfl, hSn, hne, HQ1.out _, HQ2.out _, wus.take T, wvs.take T, HTS, (show _ ≤ _ by rw [HV1.out, HV2.out]; exact Int.le_of_lt HLP.out.lt), (show _ = _ by rw [HV1.out, HV2.out]; have := HN.out; omega), (show _ = _ by rw [HV1.out, HV2.out, HLP.out.same]; exact HG.out), bdn hbD _⟩
            case measure => have := HK.out; have := HLP.out.less; have := HN.out; omega
        · have hs' : ¬ (2 : Int) < (sz yy : Int) := by omega
          have ot : OwnC wr w.heap.size h2 (sz yy) n (trimmed yy) := o2.take (sz yy) (by omega)
          have HSD := hid (smallDivisor_any _ _ xx (trimmed yy) wr (o1.sl wxx) (ot.sl wyy.trimmed) (by omega) HT.out (Trimmed.trimmed _) (by rw [length_trimmed]; omega))
          rw [val_trimmed, HG.out] at HSD
          have hsq : sz yy ≤ n := by omega
          clear ot o1 o2
          obtain ⟨S, hS⟩ : ∃ S, sz yy = S := ⟨_, rfl⟩
          rw [hS] at HSZ hs' HSD sy hsq
          clear hS
          go_wp2_with fail
          refine Calls.mono (HSZ.out _ (Below.refl _ _)) ?_
          rintro x w' ⟨rfl, rfl⟩
          go_wp2_with fail
          refine Calls.mono (HSZ.out _ (Below.refl _ _)) ?_
          rintro x w' ⟨rfl, rfl⟩
          go_wp2_with fail
          refine Calls.mono HSD.out ?_
          rintro x w9 ⟨v9, zs, rfl, o9, w9', t9, hv9, hb9⟩
          have HO9 := hid (owns_base o9 hbel.size)
          have hb := bt hbel hb9
          clear o9 HSD HSZ
          go_wp2_with fail
          go_ret
          exact ⟨v9, zs, rfl, HO9.out, w9', t9, hv9, hb⟩

theorem gcdI_le {x y : Int} (hx : 0 ≤ x) (hy : 0 ≤ y) : gcdI x y ≤ x ∨ gcdI x y ≤ y := by
  by_cases h : x = 0
  · subst h; right; rw [gcdI_comm, gcdI_zero y hy]; exact Int.le_refl _
  · left; exact Int.le_of_dvd (by omega) (Int.gcd_dvd_left ..)
set_option maxHeartbeats 800000 in
set_option maxRecDepth 100000 in
theorem gcd_sl (v u : Value) (xs ys : List Int) (w : World) (h : Sl w v xs) (g : Sl w u ys) (hn : xs.length ≤ 281474976710656) (hm : ys.length ≤ 281474976710656) :
    Calls Tryz.prog 101 #[v, u] w (Told w (both xs ys) (gcdI (val xs) (val ys))) := by
  by_cases hb : both xs ys = 0
  · have HB := hid (checkBoth_sl v u xs ys w h g hn hm)
    rw [hb] at HB ⊢
    obtain ⟨c1, c2⟩ := both_ok hb
    obtain ⟨lx, tx⟩ := chk_ok c1
    obtain ⟨ly, ty⟩ := chk_ok c2
    have HD := hid (commonDivisor_any v u xs ys w h g lx ly tx ty)
    have HW : Hid (gcdI (val xs) (val ys) < wide) := by
      show _ < _
      have a1 := lt_wide (val_lt h.wd) lx
      have a2 := lt_wide (val_lt g.wd) ly
      rcases gcdI_le (val_nonneg h.wd) (val_nonneg g.wd) with e | e <;> omega
    clear h g hb c1 c2 tx ty
    go_enter Tryz.func101, Tryz.ntmps101
    go_wp2_with fail
    refine Calls.mono HB.out ?_
    rintro e w' ⟨rfl, rfl⟩
    go_wp2_with fail
    refine Calls.mono HD.out ?_
    rintro e w1 ⟨v1, zs, rfl, o1, wz, tz, hv, hbel⟩
    have HO := hid o1
    have HV := hid hv
    clear o1 hv HD HB
    go_wp2_with fail
    go_ret2
    exact ⟨v1, zs, 0, rfl, HO.out, Tells.ok wz tz HV.out HW.out, hbel⟩
  · have HB := hid (checkBoth_sl v u xs ys w h g hn hm)
    have HT := hid (Tells.err (t := gcdI (val xs) (val ys)) hb)
    have hbb : (both xs ys != 0) = true := by simp [hb]
    obtain ⟨e, he⟩ : ∃ e, both xs ys = e := ⟨_, rfl⟩
    rw [he] at HB HT hbb hb ⊢
    clear h g he
    go_enter Tryz.func101, Tryz.ntmps101
    go_wp2_with fail
    refine Calls.mono HB.out ?_
    rintro e w' ⟨rfl, rfl⟩
    go_wp2_with fail
    go_ret2
    exact ⟨_, [], e, rfl, World.ownsRow_nil _ _ _ _, HT.out, Below.refl _ _⟩
end Go.Proofs.YtabkgpnckaaclaaGreatDoor

/- Whole numbers, a sign and words: whole.Check, checkBoth, formed, told, Of, Int64; slackwaterkit.SameWhole: of every number whose words can be read. -/
namespace Go.Proofs.YtabkgpnckaaclaaGreatDoor
open Go.RowKit
set_option linter.unusedVariables false

/-- What whole.Check tells. -/
def wchk (n : Bool) (xs : List Int) : Int := if 2048 < xs.length then 3 else if chk xs = 0 ∧ (n = false ∨ 0 < xs.length) then 0 else 11
/-- The number that a sign and words are. -/
def wval (n : Bool) (xs : List Int) : Int := if n then -(val xs) else val xs
end Go.Proofs.YtabkgpnckaaclaaGreatDoor

/- Whole numbers: whole.told, Of, Int64; slackwaterkit.SameWhole; slackwaterlaw02.is, of: of every number whose words can be read. -/
namespace Go.Proofs.YtabkgpnckaaclaaGreatDoor
open Go.RowKit
set_option linter.unusedVariables false

theorem grown_set (w : World) (p : Addr) (v : Value) : w.grownBy (w.setCell p v) (some p.block) := ⟨rfl, rfl, rfl, by simp [World.setCell], fun k hk hne => Below.heap_setCell w p v k (fun e => hne (by rw [e]))⟩
theorem own_put2 {w : World} {base e n : Nat} {v : Value} {xs : List Value} (h : w.ownsRow base e 1 v n xs) (b : Nat) (hb : ∀ g, v.ownBlock = some g → g ≠ b) (v0 v1 : Value) : ((w.setCell ⟨b, 0, none⟩ v0).setCell ⟨b, 1, none⟩ v1).ownsRow base e 1 v n xs := by
  have hne : v.ownBlock = none ∨ v.ownBlock ≠ some b := by
    cases hv : v.ownBlock with
    | none => exact .inl rfl
    | some g => right; intro e; exact hb g hv (Option.some.inj e)
  exact World.ownsRow.kept (World.ownsRow.kept h (grown_set w ⟨b, 0, none⟩ v0) hne) (grown_set _ ⟨b, 1, none⟩ v1) hne

end Go.Proofs.YtabkgpnckaaclaaGreatDoor

/- Whole numbers: whole.Int64, slackwaterkit.SameWhole, slackwaterlaw02.of, slackwaterlaw02.is: of every number whose words can be read. -/
namespace Go.Proofs.YtabkgpnckaaclaaGreatDoor
open Go.RowKit
set_option linter.unusedVariables false

end Go.Proofs.YtabkgpnckaaclaaGreatDoor

/- Whole numbers: whole.unlike, difference, sum, Add: of every number whose words can be read. -/
namespace Go.Proofs.YtabkgpnckaaclaaGreatDoor
open Go.RowKit
set_option linter.unusedVariables false

/-- What a number of at most 2,048 words is below. -/
def wlim : Int := 4294967296 ^ 2048
/-- What a call tells that may refuse: e is the error of what is handed in, t the number. -/
structure WTells (e t : Int) (n : Bool) (zs : List Int) (code : Int) : Prop where
  wd : Wd zs
  trim : Trimmed zs
  sign : n = false ∨ 0 < zs.length
  len : zs.length ≤ 2048
  bad : e ≠ 0 → n = false ∧ zs = [] ∧ code = e
  long : e = 0 → (wlim ≤ t ∨ t ≤ -wlim) → n = false ∧ zs = [] ∧ code = 3
  good : e = 0 → -wlim < t → t < wlim → code = 0 ∧ wval n zs = t
theorem WTells.err {e t : Int} (h : e ≠ 0) : WTells e t false [] e := ⟨Wd.nil, Trimmed.nil, .inl rfl, by simp, fun _ => ⟨rfl, rfl, rfl⟩, fun h' => absurd h' h, fun h' => absurd h' h⟩

theorem len2048 {zs : List Int} (hw : Wd zs) (ht : Trimmed zs) : 2048 < zs.length ↔ wlim ≤ val zs := by
  unfold wlim
  constructor
  · intro h
    have h1 := val_ge hw ht (by omega)
    have h2 : (4294967296 : Int) ^ 2048 ≤ 4294967296 ^ (zs.length - 1) := pw_le (by omega)
    exact Int.le_trans h2 h1
  · intro h
    by_cases c : 2048 < zs.length
    · exact c
    · have h1 := val_lt hw
      have h2 : (4294967296 : Int) ^ zs.length ≤ 4294967296 ^ 2048 := pw_le (by omega)
      exact absurd (Int.lt_of_lt_of_le h1 h2) (Int.not_lt.2 h)
theorem trimmed_zero' {us : List Int} (h : us.length = 0) : val us = 0 := by rw [List.eq_nil_of_length_eq_zero h]; rfl

/-- A size with a sign. -/
def sg (n : Bool) (t : Int) : Int := if n then -t else t
end Go.Proofs.YtabkgpnckaaclaaGreatDoor

/- Whole numbers: whole.Add, product, Mul, Gcd, Sub: of every two numbers whose words can be read. -/
namespace Go.Proofs.YtabkgpnckaaclaaGreatDoor
open Go.RowKit
set_option linter.unusedVariables false

end Go.Proofs.YtabkgpnckaaclaaGreatDoor

/- Whole numbers: whole.divide, DivMod: quotient and rest, the rest never below 0. -/
namespace Go.Proofs.YtabkgpnckaaclaaGreatDoor
open Go.RowKit
set_option linter.unusedVariables false

theorem val_pos' {zs : List Int} (hw : Wd zs) (ht : Trimmed zs) (h : 0 < zs.length) : 1 ≤ val zs := by
  have h1 := val_ge hw ht h
  have h2 := pw_pos (zs.length - 1)
  omega
end Go.Proofs.YtabkgpnckaaclaaGreatDoor

/- Fractions: ratio.words, isOne, inOneForm, Check, checkBoth, told: of every fraction whose words can be read. -/
namespace Go.Proofs.YtabkgpnckaaclaaGreatDoor
open Go.RowKit
set_option linter.unusedVariables false

/-- A fraction is in its one form. -/
def rform (n : Bool) (xs ys : List Int) : Prop := both xs ys = 0 ∧ 0 < ys.length ∧ (n = false ∨ 0 < xs.length) ∧ gcdI (val xs) (val ys) = 1
instance (n : Bool) (xs ys : List Int) : Decidable (rform n xs ys) := by unfold rform; infer_instance
/-- What ratio.Check tells. -/
def rchk (n : Bool) (xs ys : List Int) : Int := if 2048 < max xs.length ys.length then 3 else if rform n xs ys then 0 else 11
/-- The fraction itself. -/
def rq (n : Bool) (xs ys : List Int) : Rat := Rat.divInt (wval n xs) (val ys)
theorem res_box3 {X w1 : World} {b t : Nat} {v0 v1 v2 : Value} (hX : Box X b t #[v0, v1, v2]) (hb : Below X.heap.size X w1) : w1.cell? ⟨b, 0, none⟩ = some v0 ∧ w1.cell? ⟨b, 1, none⟩ = some v1 ∧ w1.cell? ⟨b, 2, none⟩ = some v2 ∧ w1.frozen? ⟨b, 0, none⟩ = false ∧ w1.frozen? ⟨b, 1, none⟩ = false ∧ w1.frozen? ⟨b, 2, none⟩ = false := by
  have h := hX.later hb hX.lt
  exact ⟨h.cell 0, h.cell 1, h.cell 2, h.free 0, h.free 1, h.free 2⟩
theorem below_put3 {B : Nat} {a w : World} (h : Below B a w) (b : Nat) (hb : B ≤ b) (v0 v1 v2 : Value) : Below B a (((w.setCell ⟨b, 0, none⟩ v0).setCell ⟨b, 1, none⟩ v1).setCell ⟨b, 2, none⟩ v2) :=
  ((h.setCell (p := ⟨b, 0, none⟩) hb _).setCell (p := ⟨b, 1, none⟩) hb _).setCell (p := ⟨b, 2, none⟩) hb _
theorem own_put3 {w : World} {base e n : Nat} {v : Value} {xs : List Value} (h : w.ownsRow base e 1 v n xs) (b : Nat) (hb : ∀ g, v.ownBlock = some g → g ≠ b) (v0 v1 v2 : Value) : (((w.setCell ⟨b, 0, none⟩ v0).setCell ⟨b, 1, none⟩ v1).setCell ⟨b, 2, none⟩ v2).ownsRow base e 1 v n xs := by
  have hne : v.ownBlock = none ∨ v.ownBlock ≠ some b := by
    cases hv : v.ownBlock with
    | none => exact .inl rfl
    | some g => right; intro e; exact hb g hv (Option.some.inj e)
  exact World.ownsRow.kept (World.ownsRow.kept (World.ownsRow.kept h (grown_set w ⟨b, 0, none⟩ v0) hne) (grown_set _ ⟨b, 1, none⟩ v1) hne) (grown_set _ ⟨b, 2, none⟩ v2) hne
theorem rform_no_den {n : Bool} {xs ys : List Int} (h : ys.length = 0) : decide (rform n xs ys) = false := decide_eq_false fun e => by have := e.2.1; omega
theorem rform_no_sign {xs ys : List Int} (h : xs.length = 0) : decide (rform true xs ys) = false := decide_eq_false fun e => e.2.2.1.elim (fun e => by cases e) (fun e => by omega)
theorem rform_no_both {n : Bool} {xs ys : List Int} (h : both xs ys ≠ 0) : decide (rform n xs ys) = false := decide_eq_false fun e => h e.1
theorem one_iff {zs : List Int} (hw : Wd zs) (ht : Trimmed zs) : zs = [1] ↔ val zs = 1 := by
  constructor
  · rintro rfl; simp [val, valTo]
  · intro h
    exact trimmed_eq hw (Wd.one (by omega)) ht rfl (by rw [h]; simp [val, valTo])
theorem gcd_wide {xs ys : List Int} (wx : Wd xs) (wy : Wd ys) (h : both xs ys = 0) : gcdI (val xs) (val ys) < wide := by
  obtain ⟨h1, h2⟩ := both_ok h
  have l1 := (chk_ok h1).1
  have l2 := (chk_ok h2).1
  have a1 : val xs < wide := Int.lt_of_lt_of_le (val_lt wx) (pw_le l1)
  have a2 : val ys < wide := Int.lt_of_lt_of_le (val_lt wy) (pw_le l2)
  rcases gcdI_le (val_nonneg wx) (val_nonneg wy) with e | e <;> omega

set_option maxHeartbeats 800000 in
set_option maxRecDepth 100000 in
theorem rwords_any (n : Bool) (a : Option Addr) (k c : Nat) (b : Option Addr) (l d : Nat) (w : World) :
    Calls Tryz.prog 69 #[.agg #[.bool n, .slice a k c, .slice b l d]] w fun e w' => e = .returned (.int .i64 ((max k l : Nat) : Int)) ∧ Below w.heap.size w w' := by
  have HB := hid (alloc_later w (.cells #[.bool n, .slice a k c, .slice b l d] 25))
  by_cases h : k < l
  · have HM : Hid (max k l = l) := Nat.max_eq_right (by omega)
    go_enter Tryz.func69, Tryz.ntmps69
    go_wp2_with fail
    go_ret
    exact ⟨ret_int (by rw [HM.out]), HB.out⟩
  · have HM : Hid (max k l = k) := Nat.max_eq_left (by omega)
    go_enter Tryz.func69, Tryz.ntmps69
    go_wp2_with fail
    go_ret
    exact ⟨ret_int (by rw [HM.out]), HB.out⟩

set_option maxHeartbeats 800000 in
set_option maxRecDepth 100000 in
theorem isOne_any (v : Value) (xs : List Int) (w : World) (h : Sl w v xs) :
    Calls Tryz.prog 102 #[v] w fun e w' => e = .returned (.bool (decide (xs = [1]))) ∧ w = w' := by
  obtain ⟨a, cap, rfl, hl, hw, hc, hcap⟩ := h
  by_cases h1 : xs.length = 1
  · obtain ⟨x, rfl⟩ := List.length_eq_one_iff.1 h1
    rcases hc with h0 | ⟨b, o, rfl, hb, hc⟩
    · simp at h0
    · have c0 := hc 0 (by simp)
      simp at c0
      have hx := hw.head
      clear hc hw h1 hl hcap
      by_cases e : x = 1
      · subst e
        go_enter Tryz.func102, Tryz.ntmps102
        go_wp2_with fail
        go_ret
        exact ⟨ret_bool rfl, rfl⟩
      · have HD : Hid (decide (([x] : List Int) = [1]) = false) := decide_eq_false (by simp [e])
        have e' : (x == 1) = false := by simp [e]
        clear e
        go_enter Tryz.func102, Tryz.ntmps102
        go_wp2_with fail
        go_ret
        exact ⟨ret_bool HD.out.symm, rfl⟩
  · have HD : Hid (decide (xs = [1]) = false) := decide_eq_false (fun e => h1 (by rw [e]; rfl))
    have h1' : ((xs.length : Int) == 1) = false := by simp; omega
    clear hc hw hl hcap h1
    go_enter Tryz.func102, Tryz.ntmps102
    go_wp2_with fail
    go_ret
    exact ⟨ret_bool HD.out.symm, rfl⟩

set_option maxHeartbeats 1600000 in
set_option maxRecDepth 100000 in
theorem inOneForm_any (n : Bool) (v : Value) (xs : List Int) (u : Value) (ys : List Int) (w : World) (h : Sl w v xs) (g : Sl w u ys) (hn : xs.length ≤ 281474976710656) (hm : ys.length ≤ 281474976710656) :
    Calls Tryz.prog 70 #[.agg #[.bool n, v, u]] w fun e w' => e = .returned (.bool (decide (rform n xs ys))) ∧ Below w.heap.size w w' := by
  have HB := hid (alloc_later w (.cells #[.bool n, v, u] 25))
  have HG := hid (gcd_sl v u xs ys _ (h.later HB.out) (g.later HB.out) hn hm)
  have wx := h.wd
  have wy := g.wd
  obtain ⟨a, cap, rfl, hr⟩ := h
  obtain ⟨b, cap', rfl, gr⟩ := g
  clear hr gr
  by_cases hy : ys.length = 0
  · have HD := hid (rform_no_den (n := n) (xs := xs) hy)
    rw [hy] at HB ⊢
    clear HG hy hm
    go_enter Tryz.func70, Tryz.ntmps70
    go_wp2_with fail
    go_ret
    exact ⟨ret_bool HD.out.symm, HB.out⟩
  · have hy' : ((ys.length : Int) == 0) = false := by simp; exact fun e => hy (by rw [e]; rfl)
    have hy0 : 0 < ys.length := by omega
    have key : (n = false ∨ 0 < xs.length) → Calls Tryz.prog 70 #[.agg #[.bool n, .slice a xs.length cap, .slice b ys.length cap']] w fun e w' => e = .returned (.bool (decide (rform n xs ys))) ∧ Below w.heap.size w w' := by
      intro hs
      by_cases hz : both xs ys = 0
      · have HWD := hid (gcd_wide wx wy hz)
        have HF : Hid (∀ zs, Wd zs → Trimmed zs → val zs = gcdI (val xs) (val ys) → decide (zs = [1]) = decide (rform n xs ys)) := fun zs h1 h2 h3 => by
          have e1 := one_iff h1 h2
          have e2 : (zs = [1]) ↔ rform n xs ys := ⟨fun e => ⟨hz, hy0, hs, by rw [← h3]; exact e1.1 e⟩, fun e => e1.2 (by rw [h3]; exact e.2.2.2)⟩
          exact decide_eq_decide.2 e2
        rw [hz] at HG
        clear hz hy wx wy hy0
        cases n with
        | false =>
          go_enter Tryz.func70, Tryz.ntmps70
          go_wp2_with fail
          refine Calls.mono HG.out ?_
          rintro e w1 ⟨v1, zs, code, rfl, o1, t1, hb1⟩
          obtain ⟨rfl, hv1⟩ := t1.good rfl HWD.out
          have HO := hid (isOne_any v1 zs w1 (Sl.own o1 t1.wd))
          rw [HF.out zs t1.wd t1.trim hv1] at HO
          have hbA := bt HB.out hb1
          obtain ⟨a1, c1, hs1⟩ := own_slice' o1
          subst hs1
          clear hb1 o1 t1 hv1 HG HF
          go_wp2_with fail
          refine Calls.mono HO.out ?_
          rintro e w2 ⟨rfl, rfl⟩
          go_wp2_with fail
          go_ret
          exact ⟨rfl, hbA⟩
        | true =>
          have hx' : ((xs.length : Int) == 0) = false := by
            have : 0 < xs.length := hs.elim (fun e => by cases e) id
            simp; exact fun e => by rw [e] at this; simp at this
          clear hs
          go_enter Tryz.func70, Tryz.ntmps70
          go_wp2_with fail
          refine Calls.mono HG.out ?_
          rintro e w1 ⟨v1, zs, code, rfl, o1, t1, hb1⟩
          obtain ⟨rfl, hv1⟩ := t1.good rfl HWD.out
          have HO := hid (isOne_any v1 zs w1 (Sl.own o1 t1.wd))
          rw [HF.out zs t1.wd t1.trim hv1] at HO
          have hbA := bt HB.out hb1
          obtain ⟨a1, c1, hs1⟩ := own_slice' o1
          subst hs1
          clear hb1 o1 t1 hv1 HG HF
          go_wp2_with fail
          refine Calls.mono HO.out ?_
          rintro e w2 ⟨rfl, rfl⟩
          go_wp2_with fail
          go_ret
          exact ⟨rfl, hbA⟩
      · have HD := hid (rform_no_both (n := n) hz)
        obtain ⟨ec, hec⟩ : ∃ ec, both xs ys = ec := ⟨_, rfl⟩
        rw [hec] at hz HG
        have hz' : (ec == 0) = false := by simp [hz]
        clear hec hy wx wy hy0
        cases n with
        | false =>
          go_enter Tryz.func70, Tryz.ntmps70
          go_wp2_with fail
          refine Calls.mono HG.out ?_
          rintro e w1 ⟨v1, zs, code, rfl, o1, t1, hb1⟩
          obtain ⟨rfl, _⟩ := t1.bad hz
          have hbA := bt HB.out hb1
          obtain ⟨a1, c1, hs1⟩ := own_slice' o1
          subst hs1
          clear hb1 o1 t1 HG hz
          go_wp2_with fail
          go_ret
          exact ⟨ret_bool HD.out.symm, hbA⟩
        | true =>
          have hx' : ((xs.length : Int) == 0) = false := by
            have : 0 < xs.length := hs.elim (fun e => by cases e) id
            simp; exact fun e => by rw [e] at this; simp at this
          clear hs
          go_enter Tryz.func70, Tryz.ntmps70
          go_wp2_with fail
          refine Calls.mono HG.out ?_
          rintro e w1 ⟨v1, zs, code, rfl, o1, t1, hb1⟩
          obtain ⟨rfl, _⟩ := t1.bad hz
          have hbA := bt HB.out hb1
          obtain ⟨a1, c1, hs1⟩ := own_slice' o1
          subst hs1
          clear hb1 o1 t1 HG hz
          go_wp2_with fail
          go_ret
          exact ⟨ret_bool HD.out.symm, hbA⟩
    by_cases hx : n = false ∨ 0 < xs.length
    · exact key hx
    · have hn1 : n = true := by
        cases n with
        | false => exact absurd (.inl rfl) hx
        | true => rfl
      have hx0 : xs.length = 0 := by
        by_cases c : 0 < xs.length
        · exact absurd (.inr c) hx
        · omega
      subst hn1
      have HD := hid (rform_no_sign (ys := ys) hx0)
      rw [hx0] at HB ⊢
      clear key hx0 HG hx wx wy hy hy0
      go_enter Tryz.func70, Tryz.ntmps70
      go_wp2_with fail
      go_ret
      exact ⟨ret_bool HD.out.symm, HB.out⟩
end Go.Proofs.YtabkgpnckaaclaaGreatDoor

/- Fractions: ratio.Check, checkBoth, told: of every fraction whose words can be read; what a call tells that may refuse. -/
namespace Go.Proofs.YtabkgpnckaaclaaGreatDoor
open Go.RowKit
set_option linter.unusedVariables false

theorem rchk_ok {n : Bool} {xs ys : List Int} (h : rchk n xs ys = 0) : xs.length ≤ 2048 ∧ ys.length ≤ 2048 ∧ Trimmed xs ∧ Trimmed ys ∧ 0 < ys.length ∧ (n = false ∨ 0 < xs.length) ∧ gcdI (val xs) (val ys) = 1 := by
  unfold rchk at h
  by_cases h1 : 2048 < max xs.length ys.length
  · rw [if_pos h1] at h; omega
  · rw [if_neg h1] at h
    by_cases h2 : rform n xs ys
    · obtain ⟨a, b⟩ := both_ok h2.1
      exact ⟨by omega, by omega, (chk_ok a).2, (chk_ok b).2, h2.2.1, h2.2.2.1, h2.2.2.2⟩
    · rw [if_neg h2] at h; omega
theorem rchk_good {n : Bool} {xs ys : List Int} (lx : xs.length ≤ 2048) (ly : ys.length ≤ 2048) (tx : Trimmed xs) (ty : Trimmed ys) (h0 : 0 < ys.length) (hs : n = false ∨ 0 < xs.length) (hg : gcdI (val xs) (val ys) = 1) : rchk n xs ys = 0 := by
  unfold rchk
  rw [if_neg (by omega), if_pos ⟨both_good (chk_good (by omega) tx) (chk_good (by omega) ty), h0, hs, hg⟩]

set_option maxHeartbeats 1600000 in
set_option maxRecDepth 100000 in
theorem rcheck_any (n : Bool) (v : Value) (xs : List Int) (u : Value) (ys : List Int) (w : World) (h : Sl w v xs) (g : Sl w u ys) :
    Calls Tryz.prog 40 #[.agg #[.bool n, v, u]] w fun e w' => e = .returned (.int .i64 (rchk n xs ys)) ∧ Below w.heap.size w w' := by
  have HX := hid (Box.made w 25 #[.bool n, v, u])
  have HB := hid (alloc_later w (.cells #[.bool n, v, u] 25))
  have HI : Hid (∀ w1, Below (w.alloc (.cells #[.bool n, v, u] 25)).heap.size (w.alloc (.cells #[.bool n, v, u] 25)) w1 → ¬ 2048 < max xs.length ys.length → Calls Tryz.prog 70 #[.agg #[.bool n, v, u]] w1 fun e w' => e = .returned (.bool (decide (rform n xs ys))) ∧ Below w1.heap.size w1 w') := fun w1 hb hle => inOneForm_any n v xs u ys w1 ((h.later HB.out).later hb) ((g.later HB.out).later hb) (by omega) (by omega)
  obtain ⟨a, cap, rfl, hr⟩ := h
  obtain ⟨b, cap', rfl, gr⟩ := g
  clear hr gr
  have HW := hid (rwords_any n a xs.length cap b ys.length cap' (w.alloc (.cells #[.bool n, .slice a xs.length cap, .slice b ys.length cap'] 25)))
  obtain ⟨M, hM⟩ : ∃ M, max xs.length ys.length = M := ⟨_, rfl⟩
  have HR : Hid (rchk n xs ys = if 2048 < M then 3 else if rform n xs ys then 0 else 11) := by show _ = _; unfold rchk; rw [hM]
  rw [hM] at HW HI
  clear hM
  by_cases hm : 2048 < M
  · have hm' : (2048 : Int) < (M : Int) := by omega
    rw [if_pos hm] at HR
    clear hm HI
    go_enter Tryz.func40, Tryz.ntmps40
    go_wp2_with fail
    refine Calls.mono HW.out ?_
    rintro e w1 ⟨rfl, hb1⟩
    have hbA := bt HB.out hb1
    clear hb1
    go_wp2_with fail
    go_ret
    exact ⟨ret_int HR.out.symm, hbA⟩
  · have hm' : ¬ (2048 : Int) < (M : Int) := by omega
    rw [if_neg hm] at HR
    have HNM := hid hm
    clear hm
    by_cases hf : rform n xs ys
    · rw [if_pos hf] at HR
      rw [decide_eq_true hf] at HI
      clear hf
      go_enter Tryz.func40, Tryz.ntmps40
      go_wp2_with fail
      refine Calls.mono HW.out ?_
      rintro e w1 ⟨rfl, hb1⟩
      obtain ⟨c0, c1, c2, _, _, _⟩ := res_box3 HX.out hb1
      have HI1 := hid (HI.out w1 hb1 HNM.out)
      have hbA := bt HB.out hb1
      clear hb1 HI
      go_wp2_with fail
      refine Calls.mono HI1.out ?_
      rintro e w2 ⟨rfl, hb2⟩
      have hbB := bt hbA hb2
      clear hb2
      go_wp2_with fail
      go_ret
      exact ⟨ret_int HR.out.symm, hbB⟩
    · rw [if_neg hf] at HR
      rw [decide_eq_false hf] at HI
      clear hf
      go_enter Tryz.func40, Tryz.ntmps40
      go_wp2_with fail
      refine Calls.mono HW.out ?_
      rintro e w1 ⟨rfl, hb1⟩
      obtain ⟨c0, c1, c2, _, _, _⟩ := res_box3 HX.out hb1
      have HI1 := hid (HI.out w1 hb1 HNM.out)
      have hbA := bt HB.out hb1
      clear hb1 HI
      go_wp2_with fail
      refine Calls.mono HI1.out ?_
      rintro e w2 ⟨rfl, hb2⟩
      have hbB := bt hbA hb2
      clear hb2
      go_wp2_with fail
      go_ret
      exact ⟨ret_int HR.out.symm, hbB⟩

/-- What checkBoth tells. -/
def rboth (n : Bool) (xs ys : List Int) (m : Bool) (us vs : List Int) : Int := if rchk n xs ys = 0 then rchk m us vs else rchk n xs ys
/-- A fraction has too many words. -/
def rlong (q : Rat) : Prop := wlim ≤ (q.num.natAbs : Int) ∨ wlim ≤ (q.den : Int)
/-- What a call tells that may refuse: e is the error of what is handed in, q the fraction. -/
structure RTells (e : Int) (q : Rat) (n : Bool) (xs ys : List Int) (code : Int) : Prop where
  wx : Wd xs
  wy : Wd ys
  bad : e ≠ 0 → n = false ∧ xs = [] ∧ ys = [] ∧ code = e
  long : e = 0 → rlong q → n = false ∧ xs = [] ∧ ys = [] ∧ code = 3
  good : e = 0 → ¬ rlong q → code = 0 ∧ rchk n xs ys = 0 ∧ rq n xs ys = q
def RTold (w : World) (e : Int) (q : Rat) (x : Ending) (w' : World) : Prop :=
  ∃ n v xs u ys code, x = .returned (.tuple #[.agg #[.bool n, v, u], .int .i64 code]) ∧ w'.ownsRow w.heap.size 88 1 v xs.length (xs.map (Value.int .u32)) ∧ w'.ownsRow w.heap.size 88 1 u ys.length (ys.map (Value.int .u32)) ∧ RTells e q n xs ys code ∧ Below w.heap.size w w'
theorem RTells.err {e : Int} {q : Rat} (h : e ≠ 0) : RTells e q false [] [] e := ⟨Wd.nil, Wd.nil, fun _ => ⟨rfl, rfl, rfl, rfl⟩, fun h' => absurd h' h, fun h' => absurd h' h⟩

/-- What told tells. -/
def rtoldV (n : Bool) (a : Option Addr) (k c : Nat) (b : Option Addr) (l d : Nat) : Value := if 2048 < max k l then .tuple #[.agg #[.bool false, .slice none 0 0, .slice none 0 0], .int .i64 3] else .tuple #[.agg #[.bool (n && decide (0 < k)), .slice a k c, .slice b l d], .int .i64 0]
theorem gcd_sg (n : Bool) (x d : Int) : gcdI (sg n x) d = gcdI x d := by
  cases n
  · rfl
  · show ((Int.gcd (-x) d : Nat) : Int) = _
    rw [Int.neg_gcd]; rfl
theorem abs_sg (n : Bool) {x : Int} (h : 0 ≤ x) : ((sg n x).natAbs : Int) = x := by
  cases n <;> simp [sg] <;> omega
/-- What told makes of a numerator and a denominator with nothing in common. -/
theorem rtells_of {n : Bool} {zs ds : List Int} (wz : Wd zs) (tz : Trimmed zs) (wd : Wd ds) (td : Trimmed ds) (hd : 0 < val ds) (hg : gcdI (val zs) (val ds) = 1) :
    ∃ m us vs c, (∀ a ca b cb, rtoldV n a zs.length ca b ds.length cb = .tuple #[.agg #[.bool m, if c = 0 then .slice a zs.length ca else .slice none 0 0, if c = 0 then .slice b ds.length cb else .slice none 0 0], .int .i64 c]) ∧ (if c = 0 then us = zs else us = []) ∧ (if c = 0 then vs = ds else vs = []) ∧ RTells 0 (Rat.divInt (sg n (val zs)) (val ds)) m us vs c := by
  have hz0 := val_nonneg wz
  obtain ⟨e1, e2⟩ := fr_num (x := sg n (val zs)) hd (by rw [gcd_sg]; exact hg)
  have hl : rlong (Rat.divInt (sg n (val zs)) (val ds)) ↔ 2048 < max zs.length ds.length := by
    unfold rlong
    rw [e1, e2, abs_sg n hz0, ← len2048 wz tz, ← len2048 wd td]
    omega
  by_cases h : 2048 < max zs.length ds.length
  · refine ⟨false, [], [], 3, fun a ca b cb => by unfold rtoldV; rw [if_pos h]; rfl, by simp, by simp, ⟨Wd.nil, Wd.nil, fun h => absurd rfl h, fun _ _ => ⟨rfl, rfl, rfl, rfl⟩, fun _ h' => absurd (hl.2 h) h'⟩⟩
  · have hd0 : 0 < ds.length := by
      by_cases c : 0 < ds.length
      · exact c
      · have := trimmed_zero' (us := ds) (by omega); omega
    refine ⟨n && decide (0 < zs.length), zs, ds, 0, fun a ca b cb => by unfold rtoldV; rw [if_neg h]; rfl, by simp, by simp, ⟨wz, wd, fun h => absurd rfl h, fun _ h' => absurd (hl.1 h') h, fun _ _ => ⟨rfl, rchk_good (by omega) (by omega) tz td hd0 ?_ hg, ?_⟩⟩⟩
    · by_cases c : 0 < zs.length
      · exact .inr c
      · left; simp [c]
    · unfold rq
      congr 1
      by_cases c : 0 < zs.length
      · simp [c, wval, sg]
      · rw [List.eq_nil_of_length_eq_zero (show zs.length = 0 by omega)]
        cases n <;> simp [wval, sg, val, valTo]

end Go.Proofs.YtabkgpnckaaclaaGreatDoor

/- Fractions: ratio.sum, difference, product, quotient, commonDivisor, signedSum: of numbers that are short enough. -/
namespace Go.Proofs.YtabkgpnckaaclaaGreatDoor
open Go.RowKit
set_option linter.unusedVariables false

end Go.Proofs.YtabkgpnckaaclaaGreatDoor

/- A struct variable that is written: what lies elsewhere stays. -/
namespace Go.Proofs.YtabkgpnckaaclaaGreatDoor
open Go.RowKit
set_option linter.unusedVariables false

theorem Sl.put2 {U : World} {v : Value} {xs : List Int} {b t : Nat} {n : Bool} {a : Option Addr} {k c : Nat} (h : Sl U v xs) (hb : Box U b t #[.bool n, .slice a k c]) (v0 v1 : Value) : Sl ((U.setCell ⟨b, 0, none⟩ v0).setCell ⟨b, 1, none⟩ v1) v xs := by
  obtain ⟨a', cap, rfl, h1, h2, h3, h4⟩ := h
  refine ⟨a', cap, rfl, h1, h2, ?_, h4⟩
  rcases h3 with h0 | ⟨bb, o, rfl, hlt, hc⟩
  · exact .inl h0
  · by_cases hl : xs.length = 0
    · exact .inl hl
    · right
      have hne : bb ≠ b := fun e => by
        subst e
        have e1 := hc 0 (by omega)
        rw [Nat.add_zero, hb.cell o] at e1
        match o with
        | 0 => simp at e1
        | 1 => simp at e1
        | o + 2 => simp at e1
      refine ⟨bb, o, rfl, by simpa [World.setCell] using hlt, fun j hj => ?_⟩
      have e1 := World.cell?_of_block (w := U) (w' := U.setCell ⟨b, 0, none⟩ v0) (a := ⟨bb, o + j, none⟩) (Below.heap_setCell U ⟨b, 0, none⟩ v0 bb hne)
      have e2 := World.cell?_of_block (w := U.setCell ⟨b, 0, none⟩ v0) (w' := (U.setCell ⟨b, 0, none⟩ v0).setCell ⟨b, 1, none⟩ v1) (a := ⟨bb, o + j, none⟩) (Below.heap_setCell _ ⟨b, 1, none⟩ v1 bb hne)
      rw [e2, e1]
      exact hc j hj
theorem Box.put2 {U : World} {b t : Nat} {u0 u1 : Value} (h : Box U b t #[u0, u1]) (v0 v1 : Value) : Box ((U.setCell ⟨b, 0, none⟩ v0).setCell ⟨b, 1, none⟩ v1) b t #[v0, v1] := (h.set 0 v0).set 1 v1
theorem Box.far2 {U : World} {b t b' : Nat} {vs : Array Value} (h : Box U b t vs) (hne : b ≠ b') (v0 v1 : Value) : Box ((U.setCell ⟨b', 0, none⟩ v0).setCell ⟨b', 1, none⟩ v1) b t vs := (h.other ⟨b', 0, none⟩ v0 hne).other ⟨b', 1, none⟩ v1 hne
theorem own_ne_box {U : World} {base e n b t : Nat} {v : Value} {xs : List Value} {vs : Array Value} (h : U.ownsRow base e 1 v n xs) (hb : Box U b t vs) (hne : e ≠ t) : ∀ g, v.ownBlock = some g → g ≠ b := fun g hg => by
  rcases h.2 with ⟨rfl, _⟩ | ⟨g1, c1, u1, rfl, _, hg1, _⟩
  · simp [Value.ownBlock] at hg
  · simp [Value.ownBlock] at hg
    subst hg
    intro e1
    subst e1
    unfold Box at hb
    rw [hg1] at hb
    simp at hb
    exact hne hb.2
/-- A whole number in memory that may be, in new memory. -/
structure Pb (U : World) (base b : Nat) (n : Bool) (a : Option Addr) (c : Nat) (zs : List Int) : Prop where
  box : Box U b 136 #[.bool n, .slice a zs.length c]
  own : U.ownsRow base 88 1 (.slice a zs.length c) zs.length (zs.map (Value.int .u32))
  wd : Wd zs
  ok : wchk n zs = 0
/-- A whole number in memory that may be. -/
structure Ab (U : World) (b : Nat) (n : Bool) (a : Option Addr) (c : Nat) (xs : List Int) : Prop where
  box : Box U b 136 #[.bool n, .slice a xs.length c]
  sl : Sl U (.slice a xs.length c) xs
  ok : wchk n xs = 0
theorem Pb.later {U V : World} {base b : Nat} {n : Bool} {a : Option Addr} {c : Nat} {zs : List Int} (h : Pb U base b n a c zs) (hb : Below U.heap.size U V) : Pb V base b n a c zs := ⟨h.box.later hb h.box.lt, owns_later h.own hb, h.wd, h.ok⟩
theorem Ab.later {U V : World} {b : Nat} {n : Bool} {a : Option Addr} {c : Nat} {zs : List Int} (h : Ab U b n a c zs) (hb : Below U.heap.size U V) : Ab V b n a c zs := ⟨h.box.later hb h.box.lt, h.sl.later hb, h.ok⟩
theorem Pb.far {U : World} {base b : Nat} {n : Bool} {a : Option Addr} {c : Nat} {zs : List Int} (h : Pb U base b n a c zs) {b' : Nat} {n' : Bool} {a' : Option Addr} {k' c' : Nat} (hb : Box U b' 136 #[.bool n', .slice a' k' c']) (hne : b ≠ b') (v0 v1 : Value) : Pb ((U.setCell ⟨b', 0, none⟩ v0).setCell ⟨b', 1, none⟩ v1) base b n a c zs :=
  ⟨h.box.far2 hne v0 v1, own_put2 h.own b' (own_ne_box h.own hb (by decide)) v0 v1, h.wd, h.ok⟩
theorem Ab.far {U : World} {b : Nat} {n : Bool} {a : Option Addr} {c : Nat} {zs : List Int} (h : Ab U b n a c zs) {b' : Nat} {n' : Bool} {a' : Option Addr} {k' c' : Nat} (hb : Box U b' 136 #[.bool n', .slice a' k' c']) (hne : b ≠ b') (v0 v1 : Value) : Ab ((U.setCell ⟨b', 0, none⟩ v0).setCell ⟨b', 1, none⟩ v1) b n a c zs :=
  ⟨h.box.far2 hne v0 v1, h.sl.put2 hb v0 v1, h.ok⟩
theorem Pb.put {U : World} {base b : Nat} {n' : Bool} {a' : Option Addr} {k' c' : Nat} (hb : Box U b 136 #[.bool n', .slice a' k' c']) {n : Bool} {a : Option Addr} {c : Nat} {zs : List Int} (ho : U.ownsRow base 88 1 (.slice a zs.length c) zs.length (zs.map (Value.int .u32))) (hw : Wd zs) (hk : wchk n zs = 0) :
    Pb ((U.setCell ⟨b, 0, none⟩ (.bool n)).setCell ⟨b, 1, none⟩ (.slice a zs.length c)) base b n a c zs := ⟨hb.put2 _ _, own_put2 ho b (own_ne_box ho hb (by decide)) _ _, hw, hk⟩
theorem Ab.put {U : World} {b : Nat} {n' : Bool} {a' : Option Addr} {k' c' : Nat} (hb : Box U b 136 #[.bool n', .slice a' k' c']) {n : Bool} {a : Option Addr} {c : Nat} {zs : List Int} (hs : Sl U (.slice a zs.length c) zs) (hk : wchk n zs = 0) :
    Ab ((U.setCell ⟨b, 0, none⟩ (.bool n)).setCell ⟨b, 1, none⟩ (.slice a zs.length c)) b n a c zs := ⟨hb.put2 _ _, hs.put2 hb _ _, hk⟩
theorem Pb.c {U : World} {base b : Nat} {n : Bool} {a : Option Addr} {c : Nat} {zs : List Int} (h : Pb U base b n a c zs) : U.cell? ⟨b, 0, none⟩ = some (.bool n) ∧ U.cell? ⟨b, 1, none⟩ = some (.slice a zs.length c) ∧ U.frozen? ⟨b, 0, none⟩ = false ∧ U.frozen? ⟨b, 1, none⟩ = false := ⟨h.box.cell 0, h.box.cell 1, h.box.free 0, h.box.free 1⟩
theorem Ab.c {U : World} {b : Nat} {n : Bool} {a : Option Addr} {c : Nat} {zs : List Int} (h : Ab U b n a c zs) : U.cell? ⟨b, 0, none⟩ = some (.bool n) ∧ U.cell? ⟨b, 1, none⟩ = some (.slice a zs.length c) ∧ U.frozen? ⟨b, 0, none⟩ = false ∧ U.frozen? ⟨b, 1, none⟩ = false := ⟨h.box.cell 0, h.box.cell 1, h.box.free 0, h.box.free 1⟩
theorem Box.c2 {U : World} {b t : Nat} {u0 u1 : Value} (h : Box U b t #[u0, u1]) : U.cell? ⟨b, 0, none⟩ = some u0 ∧ U.cell? ⟨b, 1, none⟩ = some u1 ∧ U.frozen? ⟨b, 0, none⟩ = false ∧ U.frozen? ⟨b, 1, none⟩ = false := ⟨h.cell 0, h.cell 1, h.free 0, h.free 1⟩
end Go.Proofs.YtabkgpnckaaclaaGreatDoor

/- The laws of layer 2: lives (two of the chapter's examples hold); the document's own made, Of. -/
namespace Go.Proofs.YtabkgpnckaaclaaGreatDoor
open Go.RowKit
set_option linter.unusedVariables false

theorem wlim_big : (18446744073709551616 : Int) ≤ wlim := by
  have : (4294967296 : Int) ^ 2 ≤ 4294967296 ^ 2048 := pw_le (by omega)
  unfold wlim
  have e : (4294967296 : Int) ^ 2 = 18446744073709551616 := by decide
  rw [e] at this
  exact this
theorem WTells.num {t : Int} {n : Bool} {zs : List Int} {code : Int} (h : WTells 0 t n zs code) (h0 : -18446744073709551616 < t) (h1 : t < 18446744073709551616) : code = 0 ∧ wval n zs = t := by
  have := wlim_big
  exact h.good rfl (by omega) (by omega)
end Go.Proofs.YtabkgpnckaaclaaGreatDoor

/- The document's own whole numbers: slackwaterref02.Check, Product. -/
namespace Go.Proofs.YtabkgpnckaaclaaGreatDoor
open Go.RowKit
set_option linter.unusedVariables false

end Go.Proofs.YtabkgpnckaaclaaGreatDoor

/- The document's own fractions: over, trimmed, whole, one, size. -/
namespace Go.Proofs.YtabkgpnckaaclaaGreatDoor
open Go.RowKit
set_option linter.unusedVariables false

set_option maxHeartbeats 800000 in
set_option maxRecDepth 100000 in
theorem over3_any (v u : Value) (xs ys : List Int) (w : World) (h : Sl w v xs) (g : Sl w u ys) (lx : xs.length ≤ 8192) (ly : ys.length ≤ 8192) (tx : Trimmed xs) (ty : Trimmed ys) (h0 : 0 < ys.length) :
    Calls Tryz.prog 100 #[v, u] w (Told1 w (val xs / val ys)) := by
  have HH := hid (refDivMod_any v u xs ys w h g lx ly tx ty h0)
  obtain ⟨a, cap, rfl, hr⟩ := h
  obtain ⟨b, cap', rfl, gr⟩ := g
  clear hr gr
  go_enter Tryz.func100, Tryz.ntmps100
  go_wp2_with fail
  refine Calls.mono HH.out ?_
  rintro e w1 ⟨v1, v2, q, r, rfl, o1, o2, wq, wr, tq, tr, hq, hr, hb1⟩
  have hv : val q = val xs / val ys := by
    have r0 := val_nonneg wr
    rw [hq, Int.add_comm, Int.add_mul_ediv_right _ _ (by omega), Int.ediv_eq_zero_of_lt r0 hr]
    omega
  obtain ⟨a1, c1, hs1⟩ := own_slice' o1
  subst hs1
  obtain ⟨a2, c2, hs2⟩ := own_slice' o2
  subst hs2
  have HE := hid (And.intro o1 (And.intro wq (And.intro tq (And.intro hv hb1))))
  clear o1 o2 wq wr tq tr hq hr hb1 hv HH
  go_wp2_with fail
  go_ret
  exact ⟨_, q, rfl, HE.out.1, HE.out.2.1, HE.out.2.2.1, HE.out.2.2.2.1, HE.out.2.2.2.2⟩

set_option maxHeartbeats 1600000 in
set_option maxRecDepth 100000 in
theorem trimmed3_any (v : Value) (xs : List Int) (w : World) (h : Sl w v xs) (hn : xs.length ≤ 281474976710656) :
    Calls Tryz.prog 76 #[v] w fun e w' => e = .returned (.bool (decide (sz xs = xs.length))) ∧ Below w.heap.size w w' := by
  have wx := h.wd
  obtain ⟨a, cap, rfl, hr⟩ := h
  have HCL := hid hr.cells
  have hcap := hr.2.2.2.1
  have hcap2 := hr.2.2.2.2.1
  have HB := hid (Below.refl w.heap.size w)
  clear hr
  have hcl : Trimmed xs ↔ xs.length = 0 ∨ ¬ xs[xs.length - 1]?.getD 0 = 0 := by rw [← sz_eq_iff]; exact Iff.rfl
  obtain ⟨k, hk⟩ : ∃ k, xs.length = k := ⟨_, rfl⟩
  rw [hk] at hcl
  by_cases h0 : k = 0
  · subst h0
    have HW : Hid (decide (sz xs = xs.length) = true) := by show _ = _; exact decide_eq_true (hcl.2 (.inl rfl))
    rw [HW.out, hk]
    clear hk hcl HCL wx
    go_enter Tryz.func76, Tryz.ntmps76
    go_wp2_with fail
    go_ret
    exact ⟨rfl, HB.out⟩
  · obtain ⟨m, hm⟩ : ∃ m, k = m + 1 := ⟨k - 1, by omega⟩
    subst hm
    have bx := wx.at m
    rw [show m + 1 - 1 = m by omega] at hcl
    have hkz : ((m : Int) + 1 == 0) = false := beq_eq_false_iff_ne.2 (by omega)
    have hm1 : (m : Int) ≤ 281474976710656 := by omega
    rw [hk] at HCL hcap ⊢
    obtain ⟨b1, o1, rfl, l1, cx⟩ := HCL.out m (by omega)
    have him : ((m + 1 : Nat) : Int) - 1 = (m : Int) := by omega
    by_cases hz : xs[m]?.getD 0 = 0
    · have HW : Hid (decide (sz xs = xs.length) = false) := by show _ = _; exact decide_eq_false (fun h => (hcl.1 h).elim (fun e => by omega) (fun e => e hz))
      rw [hk] at HW
      rw [HW.out]
      rw [hz] at cx
      clear hk hcl HCL hz bx wx
      go_enter Tryz.func76, Tryz.ntmps76
      go_wp2_with fail
      go_ret
      exact ⟨rfl, HB.out⟩
    · have HW : Hid (decide (sz xs = xs.length) = true) := by show _ = _; exact decide_eq_true (hcl.2 (.inr hz))
      rw [hk] at HW
      rw [HW.out]
      obtain ⟨X, hX⟩ : ∃ X, xs[m]?.getD 0 = X := ⟨_, rfl⟩
      rw [hX] at cx hz bx
      have hzb : (X != 0) = true := by simp [hz]
      clear hk hcl HCL hX wx
      go_enter Tryz.func76, Tryz.ntmps76
      go_wp2_with fail
      go_ret
      exact ⟨rfl, HB.out⟩

theorem one3_any (w : World) : Calls Tryz.prog 79 #[] w fun e w' => ∃ g, e = .returned (.slice (some ⟨g, 0, none⟩) 1 1) ∧ w'.ownsRow w.heap.size 88 1 (.slice (some ⟨g, 0, none⟩) 1 1) 1 ([(1 : Int)].map (Value.int .u32)) ∧ Below w.heap.size w w' := by
  have HO : Hid ((w.alloc (.cells #[.int .u32 1] 88)).ownsRow w.heap.size 88 1 (.slice (some ⟨w.heap.size, 0, none⟩) 1 1) 1 ([(1 : Int)].map (Value.int .u32))) := ⟨rfl, .inr ⟨w.heap.size, 1, #[.int .u32 1], rfl, Nat.le_refl _, Box.made w _ _, Nat.le_refl _, by unfold maxLen; simp, rfl, rfl⟩⟩
  have HB := hid (alloc_later w (.cells #[.int .u32 1] 88))
  go_enter Tryz.func79, Tryz.ntmps79
  go_wp2_with fail
  go_ret
  exact ⟨w.heap.size, rfl, HO.out, HB.out⟩
end Go.Proofs.YtabkgpnckaaclaaGreatDoor

/- The document's own floats (slackwaterref06): shifted, scaled, even: of numbers that are not too long. -/
namespace Go.Proofs.YtabkgpnckaaclaaGreatDoor
open Go.RowKit
set_option linter.unusedVariables false

theorem nd_wide {xs : List Int} {n : Nat} (wx : Wd xs) (lx : xs.length ≤ 4400) (hn : n ≤ 70000) : val xs * 2 ^ n < wide := by
  have h1 := val_lt wx
  have h0 := val_nonneg wx
  rw [wide_two]
  generalize hM : (262144 : Nat) = M
  have e1 : (4294967296 : Int) ^ xs.length = 2 ^ (32 * xs.length) := by rw [Int.pow_mul]; rfl
  rw [e1] at h1
  have hp : (0 : Int) < 2 ^ n := Int.pow_pos (by decide)
  have h2 : val xs * 2 ^ n < 2 ^ (32 * xs.length) * 2 ^ n := Int.mul_lt_mul_of_pos_right h1 hp
  rw [← Int.pow_add] at h2
  have h3 : (2 : Int) ^ (32 * xs.length + n) ≤ 2 ^ M := by
    have h4 : 2 ^ (32 * xs.length + n) ≤ 2 ^ M := Nat.pow_le_pow_right (by decide) (by omega)
    have h5 := Int.ofNat_le.2 h4
    rw [Int.natCast_pow, Int.natCast_pow] at h5
    exact h5
  exact Int.lt_of_lt_of_le h2 h3

theorem nd_len {zs : List Int} (wz : Wd zs) (tz : Trimmed zs) (h : val zs < wide) : zs.length ≤ 8192 := len_of_lt wz tz h
theorem nd_two {x : Int} (h : x < 18446744073709551616) : x < 4294967296 ^ 2 := by
  have e : (4294967296 : Int) ^ 2 = 18446744073709551616 := by decide
  omega
theorem nd_chk {xs : List Int} (tx : Trimmed xs) (lx : xs.length ≤ 8192) : chk xs = 0 := by
  unfold chk
  rw [if_neg (by omega), if_pos (show sz xs = xs.length from tx)]

set_option maxHeartbeats 800000 in
set_option maxRecDepth 100000 in
theorem ndShifted_any (v : Value) (xs : List Int) (n : Nat) (w : World) (h : Sl w v xs) (wx : Wd xs) (tx : Trimmed xs) (lx : xs.length ≤ 4400) (hn : n ≤ 70000) :
    Calls Tryz.prog 67 #[v, .int .i64 (n : Int)] w (Ref1 w (val xs * 2 ^ n)) := by
  have HH := hid (refShift_full v xs (n : Int) w h (by omega) (by omega) (by omega))
  have HE : Hid (shErr xs (n : Int) = 0 ∧ shVal xs (n : Int) = val xs * 2 ^ n ∧ val xs * 2 ^ n < wide) := by
    refine ⟨shErr_ok (nd_chk tx (by omega)) (by omega), ?_, nd_wide wx lx hn⟩
    unfold shVal
    rw [if_neg (by omega)]
    rfl
  obtain ⟨a, cap, rfl, hr⟩ := h
  clear hr wx tx lx hn
  go_enter Tryz.func67, Tryz.ntmps67
  go_wp2_with fail
  refine Calls.mono HH.out ?_
  rintro e w1 ⟨v1, zs, code, rfl, o1, ht, hb1⟩
  have hg := ht.good HE.out.1 (by rw [HE.out.2.1]; exact HE.out.2.2)
  have hv : val zs = val xs * 2 ^ n := hg.2.trans HE.out.2.1
  have HF := hid (And.intro o1 (And.intro ht.wd (And.intro ht.trim (And.intro hv hb1))))
  obtain ⟨a1, c1, hs1⟩ := own_slice' o1
  subst hs1
  clear o1 ht hb1 hg hv HH HE
  go_wp2_with fail
  go_ret
  exact ⟨_, zs, rfl, HF.out.1, HF.out.2.1, HF.out.2.2.1, HF.out.2.2.2.1, HF.out.2.2.2.2⟩

/-- Two numbers, each as it came or new: what scaled tells. -/
def Sc2 (w : World) (A D : Int) (x : Ending) (w' : World) : Prop := ∃ a ca b cb zs ds, x = .returned (.tuple #[.slice a (List.length zs) ca, .slice b (List.length ds) cb]) ∧ Sl w' (.slice a zs.length ca) zs ∧ Sl w' (.slice b ds.length cb) ds ∧ Wd zs ∧ Wd ds ∧ Trimmed zs ∧ Trimmed ds ∧ val zs = A ∧ val ds = D ∧ zs.length ≤ 8192 ∧ ds.length ≤ 8192 ∧ Below w.heap.size w w'

set_option maxHeartbeats 800000 in
set_option maxRecDepth 100000 in
theorem ndScaled_down (a : Option Addr) (ca : Nat) (xs : List Int) (b : Option Addr) (cb : Nat) (ys : List Int) (n : Nat) (w : World) (h : Sl w (.slice a xs.length ca) xs) (g : Sl w (.slice b ys.length cb) ys) (wx : Wd xs) (tx : Trimmed xs) (wy : Wd ys) (ty : Trimmed ys) (lx : xs.length ≤ 4400) (ly : ys.length ≤ 4400) (hn : n + 1 ≤ 70000) :
    Calls Tryz.prog 81 #[.slice a xs.length ca, .slice b ys.length cb, .int .i64 (-((n : Int) + 1))] w (Sc2 w (val xs * 2 ^ (n + 1)) (val ys)) := by
  have HH := hid (ndShifted_any _ xs (n + 1) w h wx tx lx hn)
  have HG := hid (And.intro g (And.intro wy ty))
  have HL : Hid (val xs * 2 ^ (n + 1) < wide ∧ ys.length ≤ 8192) := ⟨nd_wide wx lx hn, by omega⟩
  clear h g wx tx wy ty lx ly
  have e0 : -((n : Int) + 1) < 0 := by omega
  rw [show ((n + 1 : Nat) : Int) = (n : Int) + 1 by omega] at HH
  go_enter Tryz.func81, Tryz.ntmps81
  go_wp2_with fail
  refine Calls.mono HH.out ?_
  rintro e w1 ⟨v1, zs, rfl, o1, wz, tz, hv, hb1⟩
  have HF := hid (And.intro (Sl.own o1 wz) (And.intro wz (And.intro tz (And.intro hv hb1))))
  have HZ := hid (nd_len wz tz (by rw [hv]; exact HL.out.1))
  obtain ⟨a1, c1, hs1⟩ := own_slice' o1
  subst hs1
  clear o1 wz tz hv hb1 HH e0
  go_wp2_with fail
  go_ret2
  exact ⟨_, _, _, _, zs, ys, rfl, HF.out.1, HG.out.1.later HF.out.2.2.2.2, HF.out.2.1, HG.out.2.1, HF.out.2.2.1, HG.out.2.2, HF.out.2.2.2.1, rfl, HZ.out, HL.out.2, HF.out.2.2.2.2⟩

set_option maxHeartbeats 800000 in
set_option maxRecDepth 100000 in
theorem ndScaled_up (a : Option Addr) (ca : Nat) (xs : List Int) (b : Option Addr) (cb : Nat) (ys : List Int) (n : Nat) (w : World) (h : Sl w (.slice a xs.length ca) xs) (g : Sl w (.slice b ys.length cb) ys) (wx : Wd xs) (tx : Trimmed xs) (wy : Wd ys) (ty : Trimmed ys) (lx : xs.length ≤ 4400) (ly : ys.length ≤ 4400) (hn : n ≤ 70000) :
    Calls Tryz.prog 81 #[.slice a xs.length ca, .slice b ys.length cb, .int .i64 (n : Int)] w (Sc2 w (val xs) (val ys * 2 ^ n)) := by
  have HH := hid (ndShifted_any _ ys n w g wy ty ly hn)
  have HG := hid (And.intro h (And.intro wx tx))
  have HL : Hid (val ys * 2 ^ n < wide ∧ xs.length ≤ 8192) := ⟨nd_wide wy ly hn, by omega⟩
  clear h g wx tx wy ty lx ly
  have e0 : ¬ (n : Int) < 0 := by omega
  go_enter Tryz.func81, Tryz.ntmps81
  go_wp2_with fail
  refine Calls.mono HH.out ?_
  rintro e w1 ⟨v1, zs, rfl, o1, wz, tz, hv, hb1⟩
  have HF := hid (And.intro (Sl.own o1 wz) (And.intro wz (And.intro tz (And.intro hv hb1))))
  have HZ := hid (nd_len wz tz (by rw [hv]; exact HL.out.1))
  obtain ⟨a1, c1, hs1⟩ := own_slice' o1
  subst hs1
  clear o1 wz tz hv hb1 HH e0
  go_wp2_with fail
  go_ret2
  exact ⟨_, _, _, _, xs, zs, rfl, HG.out.1.later HF.out.2.2.2.2, HF.out.1, HG.out.2.1, HF.out.2.1, HG.out.2.2, HF.out.2.2.1, rfl, HF.out.2.2.2.1, HL.out.2, HZ.out, HF.out.2.2.2.2⟩

theorem ndScaled_any (a : Option Addr) (ca : Nat) (xs : List Int) (b : Option Addr) (cb : Nat) (ys : List Int) (p : Int) (w : World) (h : Sl w (.slice a xs.length ca) xs) (g : Sl w (.slice b ys.length cb) ys) (wx : Wd xs) (tx : Trimmed xs) (wy : Wd ys) (ty : Trimmed ys) (lx : xs.length ≤ 4400) (ly : ys.length ≤ 4400) (p0 : -70000 ≤ p) (p1 : p ≤ 70000) :
    Calls Tryz.prog 81 #[.slice a xs.length ca, .slice b ys.length cb, .int .i64 p] w (Sc2 w (val xs * 2 ^ (-p).toNat) (val ys * 2 ^ p.toNat)) := by
  by_cases hp : p < 0
  · obtain ⟨n, hn⟩ : ∃ n : Nat, p = -((n : Int) + 1) := ⟨(-p - 1).toNat, by omega⟩
    subst hn
    have e := ndScaled_down a ca xs b cb ys n w h g wx tx wy ty lx ly (by omega)
    rw [show (- -((n : Int) + 1)).toNat = n + 1 by omega, show (-((n : Int) + 1)).toNat = 0 by omega, Int.pow_zero, Int.mul_one]
    exact e
  · obtain ⟨n, rfl⟩ := Int.eq_ofNat_of_zero_le (show 0 ≤ p by omega)
    have e := ndScaled_up a ca xs b cb ys n w h g wx tx wy ty lx ly (by omega)
    rw [show (-(n : Int)).toNat = 0 by omega, show ((n : Int)).toNat = n by omega, Int.pow_zero, Int.mul_one]
    exact e

end Go.Proofs.YtabkgpnckaaclaaGreatDoor

/- Floats of 64 bits by their bits: which are finite, what a sum or difference of two gives, the sum of two with what was lost of it, as plain functions of the bits. Nothing here speaks of the program. -/
namespace Go.Proofs.YtabkgpnckaaclaaGreatDoor

/-- Neither an infinity nor NaN: by the bits. -/
def fin (x : Nat) : Bool := x / 4503599627370496 % 2048 != 2047

theorem fin_iff (x : Nat) : fin x = true ↔ x % 9223372036854775808 < 9218868437227405312 := by
  unfold fin
  simp only [bne_iff_ne, ne_eq]
  omega

theorem dbl_sign : Ieee.double.signWeight = 9223372036854775808 := by decide
theorem dbl_inf : Ieee.double.infRung = 9218868437227405312 := by decide
theorem dbl_binade : Ieee.double.binade = 4503599627370496 := by decide

theorem read_fin {x : Nat} (h : fin x = true) : ∃ s m e, Ieee.double.read x = .number s m e := by
  rw [fin_iff] at h
  unfold Ieee.Format.read
  simp only [dbl_sign, dbl_inf, dbl_binade]
  split
  · exact ⟨_, _, _, rfl⟩
  · first | exact ⟨_, _, _, rfl⟩ | (rw [if_pos h]; exact ⟨_, _, _, rfl⟩)

theorem read_not {x : Nat} (h : fin x = false) : (∃ s, Ieee.double.read x = .infinity s) ∨ ∃ s f, Ieee.double.read x = .nan s f := by
  have h' : ¬ x % 9223372036854775808 < 9218868437227405312 := fun g => by rw [(fin_iff x).2 g] at h; exact Bool.noConfusion h
  unfold Ieee.Format.read
  simp only [dbl_sign, dbl_inf, dbl_binade]
  rw [if_neg (by omega), if_neg h']
  split
  · exact Or.inl ⟨_, rfl⟩
  · exact Or.inr ⟨_, _, rfl⟩

theorem write_inf (s : Bool) : fin (Ieee.double.write (.infinity s)) = false := by
  cases s <;> decide

theorem nan_cut (x y t : Nat) : fin (Question.cut (.nanBits .f64 x y) t) = false ∧ Question.cut (.nanBits .f64 x y) t < 18446744073709551616 := by
  simp only [Question.cut]
  have hu : (t / 2) % (2 ^ 52 - 1) < 4503599627370495 := Nat.mod_lt _ (by decide)
  have hv : t % 2 = 0 ∨ t % 2 = 1 := by omega
  generalize (t / 2) % (2 ^ 52 - 1) = u at hu ⊢
  generalize t % 2 = v at hv ⊢
  constructor
  · cases hh : fin (v * 2 ^ 63 + 0x7ff0000000000000 + 1 + u)
    · rfl
    · rw [fin_iff] at hh; rcases hv with rfl | rfl <;> omega
  · rcases hv with rfl | rfl <;> omega

/-- What the machine hands back: the bits of the answer, or, where there is none, some NaN. -/
def FR (op : BinOp) (x y r : Nat) : Prop := r < 18446744073709551616 ∧ (floatBits op .f64 x y = some r ∨ (floatBits op .f64 x y = none ∧ fin r = false))

theorem FR.det {op : BinOp} {x y r s : Nat} (h : FR op x y r) (g : floatBits op .f64 x y = some s) : r = s := by
  rcases h.2 with h | ⟨h, _⟩
  · rw [h] at g; exact Option.some.inj g
  · rw [h] at g; cases g

theorem FR.some {op : BinOp} {x y r : Nat} (h : floatBits op .f64 x y = .some r) : FR op x y r := by
  have := floatBits_wf h
  simp [Lit.wf] at this
  exact ⟨this, Or.inl h⟩
theorem FR.none {op : BinOp} {x y : Nat} (t : Nat) (h : floatBits op .f64 x y = .none) : FR op x y (Question.cut (.nanBits .f64 x y) t) :=
  ⟨(nan_cut x y t).2, Or.inr ⟨h, (nan_cut x y t).1⟩⟩

theorem sum_back {d c : Ieee.Datum} {r : Nat} (h : (d.sum c).map Ieee.double.write = .some r) (hf : fin r = true) : (∃ s m e, d = .number s m e) ∧ ∃ s m e, c = .number s m e := by
  cases d with
  | nan s f => simp [Ieee.Datum.sum] at h
  | infinity s =>
    cases c with
    | nan t f => simp [Ieee.Datum.sum] at h
    | infinity t =>
      simp only [Ieee.Datum.sum] at h
      split at h
      · cases h; rw [write_inf] at hf; cases hf
      · cases h
    | number t m e => simp only [Ieee.Datum.sum] at h; cases h; rw [write_inf] at hf; cases hf
  | number s m e =>
    cases c with
    | nan t f => simp [Ieee.Datum.sum] at h
    | infinity t => simp only [Ieee.Datum.sum] at h; cases h; rw [write_inf] at hf; cases hf
    | number t n j => exact ⟨⟨_, _, _, rfl⟩, ⟨_, _, _, rfl⟩⟩

theorem fin_of_read {x : Nat} {s : Bool} {m : Nat} {e : Int} (h : Ieee.double.read x = .number s m e) : fin x = true := by
  cases hx : fin x
  · rcases read_not hx with ⟨_, g⟩ | ⟨_, _, g⟩ <;> rw [g] at h <;> cases h
  · rfl

theorem add_back {x y r : Nat} (h : floatBits .add .f64 x y = .some r) (hf : fin r = true) : fin x = true ∧ fin y = true := by
  obtain ⟨⟨_, _, _, h1⟩, ⟨_, _, _, h2⟩⟩ := sum_back h hf
  exact ⟨fin_of_read h1, fin_of_read h2⟩
theorem sub_back {x y r : Nat} (h : floatBits .sub .f64 x y = .some r) (hf : fin r = true) : fin x = true ∧ fin y = true := by
  obtain ⟨⟨_, _, _, h1⟩, ⟨s, m, e, h2⟩⟩ := sum_back h hf
  refine ⟨fin_of_read h1, ?_⟩
  cases hy : fin y
  · rcases read_not hy with ⟨_, g⟩ | ⟨_, _, g⟩ <;> (have g' : FloatKind.f64.format.read y = _ := g; rw [g'] at h2; cases h2)
  · rfl

theorem FR.addBack {x y r : Nat} (h : FR .add x y r) (hf : fin r = true) : floatBits .add .f64 x y = .some r ∧ fin x = true ∧ fin y = true := by
  rcases h.2 with h | ⟨_, g⟩
  · exact ⟨h, add_back h hf⟩
  · rw [g] at hf; cases hf
theorem FR.subBack {x y r : Nat} (h : FR .sub x y r) (hf : fin r = true) : floatBits .sub .f64 x y = .some r ∧ fin x = true ∧ fin y = true := by
  rcases h.2 with h | ⟨_, g⟩
  · exact ⟨h, sub_back h hf⟩
  · rw [g] at hf; cases hf

theorem run_sub (P : Program) (w : World) (t : TypeId) (x y : Nat) (h : floatBits .sub .f64 x y = .none) :
    (binOp .sub t (.float .f64 x) (.float .f64 y)).run P w = .ok (.float .f64 (Question.cut (.nanBits .f64 x y) (w.tape w.drawn (.nanBits .f64 x y)))) w.drew := by
  have h' : FloatKind.f64.format.sub x y = .none := h
  simp [binOp, Op.floatArith, h', Question.forced]

/-- The sum of two finite floats and what was lost of it; nothing, where one of both is not finite. -/
def chain (a b : Nat) : Option (Nat × Nat) :=
  match floatBits .add .f64 a b with
  | .none => .none
  | .some s => if fin s then
      match floatBits .sub .f64 s a with
      | .none => .none
      | .some t =>
        match floatBits .sub .f64 s t with
        | .none => .none
        | .some d =>
          match floatBits .sub .f64 a d, floatBits .sub .f64 b t with
          | .some p, .some q =>
            match floatBits .add .f64 p q with
            | .none => .none
            | .some e => if fin e then .some (s, e) else .none
          | _, _ => .none
    else .none

/-- The steps as the machine goes them. -/
def Two (a b s e : Nat) : Prop := ∃ t d p q, FR .add a b s ∧ FR .sub s a t ∧ FR .sub s t d ∧ FR .sub a d p ∧ FR .sub b t q ∧ FR .add p q e

theorem Two.good {a b s e : Nat} (h : Two a b s e) (hs : fin s = true) (he : fin e = true) : chain a b = .some (s, e) := by
  obtain ⟨t, d, p, q, h1, h2, h3, h4, h5, h6⟩ := h
  obtain ⟨g6, fp, fq⟩ := h6.addBack he
  obtain ⟨g5, _, ft⟩ := h5.subBack fq
  obtain ⟨g4, _, fd⟩ := h4.subBack fp
  obtain ⟨g3, _, _⟩ := h3.subBack fd
  obtain ⟨g2, _, _⟩ := h2.subBack ft
  obtain ⟨g1, _, _⟩ := h1.addBack hs
  simp only [chain, g1, g2, g3, g4, g5, g6, hs, he, if_true]

theorem chain_back {a b : Nat} {u : Nat × Nat} (h : chain a b = .some u) : fin u.1 = true ∧ fin u.2 = true ∧ ∀ s e, Two a b s e → s = u.1 ∧ e = u.2 := by
  unfold chain at h
  split at h
  · cases h
  rename_i s g1
  split at h
  · rename_i hs
    split at h
    · cases h
    rename_i t g2
    split at h
    · cases h
    rename_i d g3
    split at h
    · rename_i p q g4 g5
      split at h
      · cases h
      rename_i e g6
      split at h
      · rename_i he
        cases h
        refine ⟨hs, he, fun s' e' hh => ?_⟩
        obtain ⟨t', d', p', q', h1, h2, h3, h4, h5, h6⟩ := hh
        have e1 := h1.det g1
        subst e1
        have e2 := h2.det g2
        subst e2
        have e3 := h3.det g3
        subst e3
        have e4 := h4.det g4
        subst e4
        have e5 := h5.det g5
        subst e5
        exact ⟨rfl, h6.det g6⟩
      · cases h
    · cases h
  · cases h

theorem Two.bad {a b s e : Nat} (h : Two a b s e) (hb : fin s = false ∨ fin e = false) : chain a b = .none := by
  cases hc : chain a b with
  | none => rfl
  | some u =>
    obtain ⟨h1, h2, h3⟩ := chain_back hc
    obtain ⟨e1, e2⟩ := h3 _ _ h
    rcases hb with hb | hb
    · rw [e1, h1] at hb; cases hb
    · rw [e2, h2] at hb; cases hb

end Go.Proofs.YtabkgpnckaaclaaGreatDoor

/- Floats of 64 bits that are NaN, by their bits; which answers are alike; the order of sizes is that of their bits. Nothing here speaks of the program. -/
namespace Go.Proofs.YtabkgpnckaaclaaGreatDoor

/-- NaN, by the bits. -/
def isnan (x : Nat) : Bool := decide (9218868437227405312 < x % 9223372036854775808)

theorem isnan_iff (x : Nat) : isnan x = true ↔ 9218868437227405312 < x % 9223372036854775808 := by simp [isnan]

theorem read_isnan {x : Nat} (h : isnan x = true) : ∃ s f, Ieee.double.read x = .nan s f := by
  rw [isnan_iff] at h
  unfold Ieee.Format.read
  simp only [dbl_sign, dbl_inf, dbl_binade]
  rw [if_neg (by omega), if_neg (by omega), if_neg (by omega)]
  exact ⟨_, _, rfl⟩

theorem read_notnan {x : Nat} (h : isnan x = false) : (∃ s, Ieee.double.read x = .infinity s) ∨ ∃ s m e, Ieee.double.read x = .number s m e := by
  have h' : ¬ 9218868437227405312 < x % 9223372036854775808 := fun g => by rw [(isnan_iff x).2 g] at h; cases h
  unfold Ieee.Format.read
  simp only [dbl_sign, dbl_inf, dbl_binade]
  split
  · exact Or.inr ⟨_, _, _, rfl⟩
  split
  · exact Or.inr ⟨_, _, _, rfl⟩
  rw [if_pos (by omega)]
  exact Or.inl ⟨_, rfl⟩

theorem order_nan_l {x y : Nat} (h : isnan x = true) : FloatKind.f64.format.order x y = none := by
  obtain ⟨s, f, e⟩ := read_isnan h
  show (Ieee.double.read x).order (Ieee.double.read y) = none
  rw [e]
  cases Ieee.double.read y <;> rfl
theorem order_refl {x : Nat} (h : isnan x = false) : FloatKind.f64.format.order x x = some .eq := by
  show (Ieee.double.read x).order (Ieee.double.read x) = _
  rcases read_notnan h with ⟨s, e⟩ | ⟨s, m, i, e⟩ <;> rw [e] <;> simp [Ieee.Datum.order]
theorem neq_self (x : Nat) : (FloatKind.f64.format.order x x != some .eq) = isnan x := by
  cases h : isnan x
  · rw [order_refl h]; rfl
  · rw [order_nan_l h]; rfl

theorem isnan_cut (x y t : Nat) : isnan (Question.cut (.nanBits .f64 x y) t) = true ∧ Question.cut (.nanBits .f64 x y) t < 18446744073709551616 := by
  refine ⟨?_, (nan_cut x y t).2⟩
  rw [isnan_iff]
  simp only [Question.cut]
  have hu : (t / 2) % (2 ^ 52 - 1) < 4503599627370495 := Nat.mod_lt _ (by decide)
  have hv : t % 2 = 0 ∨ t % 2 = 1 := by omega
  generalize (t / 2) % (2 ^ 52 - 1) = u at hu ⊢
  generalize t % 2 = v at hv ⊢
  rcases hv with rfl | rfl <;> omega

/-- What the machine hands back: the bits of the answer, or, where there is none, some NaN. -/
def FN (op : BinOp) (x y r : Nat) : Prop := r < 18446744073709551616 ∧ (floatBits op .f64 x y = some r ∨ (floatBits op .f64 x y = none ∧ isnan r = true))
/-- The same bits, or NaN both. -/
def Al (x y : Nat) : Prop := x = y ∨ (isnan x = true ∧ isnan y = true)

theorem Al.refl (x : Nat) : Al x x := .inl rfl

theorem FN.some {op : BinOp} {x y r : Nat} (h : floatBits op .f64 x y = .some r) : FN op x y r := by
  have := floatBits_wf h
  simp [Lit.wf] at this
  exact ⟨this, Or.inl h⟩
theorem FN.none {op : BinOp} {x y : Nat} (t : Nat) (h : floatBits op .f64 x y = .none) : FN op x y (Question.cut (.nanBits .f64 x y) t) :=
  ⟨(isnan_cut x y t).2, Or.inr ⟨h, (isnan_cut x y t).1⟩⟩

/-- The root: its bits, or some NaN. -/
def FQ (x r : Nat) : Prop := r < 18446744073709551616 ∧ (Ieee.double.sqrt x = some r ∨ (Ieee.double.sqrt x = none ∧ isnan r = true))
/-- Same, of reals. -/
def sameR (x y : Nat) : Bool := isnan x && isnan y || x == y
theorem Al.same {x y : Nat} (h : Al x y) : sameR x y = true := by
  rcases h with rfl | ⟨h1, h2⟩
  · simp [sameR]
  · simp [sameR, h1, h2]

/-! ### The order of sizes -/

/-- The number at a rung, in units of the least float. -/
def rungVal (r : Nat) : Nat := if r < 4503599627370496 then r else (4503599627370496 + r % 4503599627370496) * 2 ^ (r / 4503599627370496 - 1)

theorem rungVal_lt {r s : Nat} (h : r < s) : rungVal r < rungVal s := by
  unfold rungVal
  by_cases hr : r < 4503599627370496
  · rw [if_pos hr]
    by_cases hs : s < 4503599627370496
    · rw [if_pos hs]; exact h
    · rw [if_neg hs]
      have hp : 0 < 2 ^ (s / 4503599627370496 - 1) := Nat.two_pow_pos _
      have : 4503599627370496 * 1 ≤ (4503599627370496 + s % 4503599627370496) * 2 ^ (s / 4503599627370496 - 1) := Nat.mul_le_mul (by omega) hp
      omega
  · have hs : ¬ s < 4503599627370496 := by omega
    rw [if_neg hr, if_neg hs]
    have hd : r / 4503599627370496 ≤ s / 4503599627370496 := Nat.div_le_div_right (by omega)
    rcases Nat.lt_or_eq_of_le hd with hd | hd
    · have e1 : s / 4503599627370496 - 1 = (r / 4503599627370496 - 1) + 1 + (s / 4503599627370496 - r / 4503599627370496 - 1) := by omega
      generalize hk : s / 4503599627370496 - r / 4503599627370496 - 1 = k at e1
      rw [e1, Nat.pow_add, Nat.pow_succ]
      have hp : 0 < 2 ^ (r / 4503599627370496 - 1) := Nat.two_pow_pos _
      have hq : 0 < 2 ^ k := Nat.two_pow_pos _
      have a1 : (4503599627370496 + r % 4503599627370496) * 2 ^ (r / 4503599627370496 - 1) < (4503599627370496 * 2) * 2 ^ (r / 4503599627370496 - 1) := Nat.mul_lt_mul_of_pos_right (by omega) hp
      have a2 : (4503599627370496 * 2) * 2 ^ (r / 4503599627370496 - 1) = 4503599627370496 * (2 ^ (r / 4503599627370496 - 1) * 2) * 1 := by rw [Nat.mul_assoc, Nat.mul_comm 2, Nat.mul_one]
      have a3 : 4503599627370496 * (2 ^ (r / 4503599627370496 - 1) * 2) * 1 ≤ 4503599627370496 * (2 ^ (r / 4503599627370496 - 1) * 2) * 2 ^ k := Nat.mul_le_mul_left _ hq
      have a4 : 4503599627370496 * (2 ^ (r / 4503599627370496 - 1) * 2) * 2 ^ k = 4503599627370496 * (2 ^ (r / 4503599627370496 - 1) * 2 * 2 ^ k) := Nat.mul_assoc _ _ _
      have a5 : 4503599627370496 * (2 ^ (r / 4503599627370496 - 1) * 2 * 2 ^ k) ≤ (4503599627370496 + s % 4503599627370496) * (2 ^ (r / 4503599627370496 - 1) * 2 * 2 ^ k) := Nat.mul_le_mul_right _ (by omega)
      omega
    · rw [← hd]
      exact Nat.mul_lt_mul_of_pos_right (by omega) (Nat.two_pow_pos _)

theorem rungVal_le {r s : Nat} (h : r ≤ s) : rungVal r ≤ rungVal s := by
  rcases Nat.lt_or_eq_of_le h with h | rfl
  · exact Nat.le_of_lt (rungVal_lt h)
  · exact Nat.le_refl _

theorem rungVal_cmp (r s : Nat) : compare (rungVal r) (rungVal s) = compare r s := by
  rcases Nat.lt_trichotomy r s with h | rfl | h
  · rw [Nat.compare_eq_lt.2 h, Nat.compare_eq_lt.2 (rungVal_lt h)]
  · simp
  · rw [Nat.compare_eq_gt.2 h, Nat.compare_eq_gt.2 (rungVal_lt h)]

theorem dbl_least : Ieee.double.leastPlace = -1074 := by decide

/-- What a finite word stands for. -/
theorem read_num {x : Nat} (h : x % 9223372036854775808 < 9218868437227405312) :
    ∃ m a, Ieee.double.read x = .number (x / 9223372036854775808 % 2 == 1) m (-1074 + (a : Nat)) ∧ m * 2 ^ a = rungVal (x % 9223372036854775808) := by
  unfold Ieee.Format.read
  simp only [dbl_sign, dbl_inf, dbl_binade, dbl_least]
  by_cases hb : x % 9223372036854775808 < 4503599627370496
  · rw [if_pos hb]
    exact ⟨_, 0, rfl, by rw [rungVal, if_pos hb]; simp⟩
  · rw [if_neg hb, if_pos h]
    exact ⟨_, _, rfl, by rw [rungVal, if_neg hb]⟩

theorem shl_cmp (m n a b : Nat) : compare (Ieee.signed false m (((-1074 + (a : Nat) : Int) - min (-1074 + (a : Nat) : Int) (-1074 + (b : Nat) : Int))).toNat) (Ieee.signed false n (((-1074 + (b : Nat) : Int) - min (-1074 + (a : Nat) : Int) (-1074 + (b : Nat) : Int))).toNat) = compare (m * 2 ^ a) (n * 2 ^ b) := by
  have e1 : ((-1074 + (a : Nat) : Int) - min (-1074 + (a : Nat) : Int) (-1074 + (b : Nat) : Int)).toNat = a - min a b := by omega
  have e2 : ((-1074 + (b : Nat) : Int) - min (-1074 + (a : Nat) : Int) (-1074 + (b : Nat) : Int)).toNat = b - min a b := by omega
  rw [e1, e2]
  simp only [Ieee.signed, Nat.shiftLeft_eq]
  have hp : 0 < 2 ^ min a b := Nat.two_pow_pos _
  have f1 : m * 2 ^ a = m * 2 ^ (a - min a b) * 2 ^ min a b := by rw [Nat.mul_assoc, ← Nat.pow_add]; congr 2; omega
  have f2 : n * 2 ^ b = n * 2 ^ (b - min a b) * 2 ^ min a b := by rw [Nat.mul_assoc, ← Nat.pow_add]; congr 2; omega
  rw [f1, f2]
  generalize m * 2 ^ (a - min a b) = u
  generalize n * 2 ^ (b - min a b) = v
  generalize 2 ^ min a b = p at hp
  simp only [Bool.false_eq_true, if_false]
  rcases Nat.lt_trichotomy u v with h | rfl | h
  · rw [Nat.compare_eq_lt.2 (Nat.mul_lt_mul_of_pos_right h hp)]
    exact Int.compare_eq_lt.2 (by omega)
  · simp
  · rw [Nat.compare_eq_gt.2 (Nat.mul_lt_mul_of_pos_right h hp)]
    exact Int.compare_eq_gt.2 (by omega)

/-- Of sizes the order is that of their bits. -/
theorem order_pos {x y : Nat} (hx : x ≤ 9218868437227405312) (hy : y ≤ 9218868437227405312) : FloatKind.f64.format.order x y = some (compare x y) := by
  show (Ieee.double.read x).order (Ieee.double.read y) = _
  have inf : Ieee.double.read 9218868437227405312 = .infinity false := by decide
  have hm : ∀ z : Nat, z < 9218868437227405312 → z % 9223372036854775808 = z ∧ (z / 9223372036854775808 % 2 == 1) = false := fun z hz => ⟨Nat.mod_eq_of_lt (by omega), by rw [Nat.div_eq_of_lt (by omega)]; rfl⟩
  rcases Nat.lt_or_eq_of_le hx with gx | rfl
  · obtain ⟨m, a, ex, vx⟩ := read_num (x := x) (by rw [(hm x gx).1]; exact gx)
    rw [(hm x gx).1] at vx
    rw [(hm x gx).2] at ex
    rcases Nat.lt_or_eq_of_le hy with gy | rfl
    · obtain ⟨n, b, ey, vy⟩ := read_num (x := y) (by rw [(hm y gy).1]; exact gy)
      rw [(hm y gy).1] at vy
      rw [(hm y gy).2] at ey
      rw [ex, ey]
      simp only [Ieee.Datum.order]
      rw [shl_cmp, vx, vy, rungVal_cmp]
    · rw [ex, inf, Nat.compare_eq_lt.2 gx]; rfl
  · rcases Nat.lt_or_eq_of_le hy with gy | rfl
    · obtain ⟨n, b, ey, vy⟩ := read_num (x := y) (by rw [(hm y gy).1]; exact gy)
      rw [ey, inf, Nat.compare_eq_gt.2 gy]; rfl
    · rw [inf]; simp [Ieee.Datum.order]

end Go.Proofs.YtabkgpnckaaclaaGreatDoor

/- real.finite, real.twoSum, real.TwoSum and the document's Finite, TwoSum, of any floats, by their bits. -/
namespace Go.Proofs.YtabkgpnckaaclaaGreatDoor
open Go.RowKit
set_option linter.unusedVariables false

theorem fin_int (x : Nat) (hx : x < 18446744073709551616) : (bits .and .u64 ((x : Int) / 4503599627370496) 2047 != 2047) = fin x := by
  have e : bits .and .u64 ((x : Int) / 4503599627370496) 2047 = ((x / 4503599627370496 % 2048 : Nat) : Int) := by
    have e0 : (x : Int) / 4503599627370496 = ((x / 4503599627370496 : Nat) : Int) := by omega
    rw [e0]
    have e1 := u64_and_nat (x / 4503599627370496) 2047 (by omega) (by omega)
    have e2 : x / 4503599627370496 &&& 2047 = x / 4503599627370496 % 2048 := Nat.and_two_pow_sub_one_eq_mod _ 11
    rw [e2] at e1
    exact e1
  rw [e]
  unfold fin
  by_cases h : x / 4503599627370496 % 2048 = 2047
  · rw [h]; rfl
  · rw [bne_iff_ne.2 h, bne_iff_ne.2 (by omega)]

/-- What the machine hands back, and the world behind it. -/
def fval (op : BinOp) (V : World) (x y : Nat) : Nat := match floatBits op .f64 x y with
  | .some r => r
  | .none => Question.cut (.nanBits .f64 x y) (V.tape V.drawn (.nanBits .f64 x y))
def fwld (op : BinOp) (V : World) (x y : Nat) : World := match floatBits op .f64 x y with
  | .some _ => V
  | .none => V.drew
theorem fwld_below (op : BinOp) {B : Nat} {U V : World} (x y : Nat) (h : Below B U V) : Below B U (fwld op V x y) := by
  cases e : floatBits op .f64 x y with
  | some r => simp only [fwld, e]; exact h
  | none => simp only [fwld, e]; exact h.drew
theorem fsub_run (P : Program) (t : TypeId) (V : World) (x y : Nat) : (binOp .sub t (.float .f64 x) (.float .f64 y)).run P V = .ok (.float .f64 (fval .sub V x y)) (fwld .sub V x y) := by
  cases h : floatBits .sub .f64 x y with
  | some r => simp only [fval, fwld, h]; exact run_float_arith V _ _ _ _ _ _ h
  | none => simp only [fval, fwld, h]; exact run_sub P V t x y h

theorem bits_run (x : Nat) (w : World) : (callFunc 50 #[.float .f64 x]).run Tryz.prog w = .ok (.value (.int .u64 (x : Int))) w := by
  rw [run_callFunc_extern (fn := Tryz.f50) Tryz.func50 (by kernel_rfl) (by kernel_rfl) (by kernel_rfl) (e := Extern.MathFloatBits.float64bits) (by kernel_rfl)]
  rfl
theorem from_run (x : Nat) (w : World) : (callFunc 5 #[.int .u64 (x : Int)]).run Tryz.prog w = .ok (.value (.float .f64 x)) w := by
  rw [run_callFunc_extern (fn := Tryz.f5) Tryz.func5 (by kernel_rfl) (by kernel_rfl) (by kernel_rfl) (e := Extern.MathFloatBits.float64frombits) (by kernel_rfl)]
  rfl

set_option maxHeartbeats 800000 in
set_option maxRecDepth 100000 in
theorem finite_any (x : Nat) (w : World) (hx : x < 18446744073709551616) :
    Calls Tryz.prog 35 #[.float .f64 x] w fun e w' => e = .returned (.bool (fin x)) ∧ w' = w := by
  have HB := bits_run x w
  have HI := hid (fin_int x hx)
  clear hx
  go_enter Tryz.func35, Tryz.ntmps35
  go_wp2
  go_ret
  exact ⟨congrArg (fun b => Ending.returned (.bool b)) HI.out, rfl⟩

set_option maxHeartbeats 800000 in
set_option maxRecDepth 100000 in
theorem refFinite_any (x : Nat) (w : World) (hx : x < 18446744073709551616) :
    Calls Tryz.prog 38 #[.float .f64 x] w fun e w' => e = .returned (.bool (fin x)) ∧ w' = w := by
  have HB := bits_run x w
  have HI := hid (fin_int x hx)
  clear hx
  go_enter Tryz.func38, Tryz.ntmps38
  go_wp2
  go_ret
  exact ⟨congrArg (fun b => Ending.returned (.bool b)) HI.out, rfl⟩

theorem Two.lt {a b s e : Nat} (h : Two a b s e) : s < 18446744073709551616 ∧ e < 18446744073709551616 := by
  obtain ⟨t, d, p, q, h1, h2, h3, h4, h5, h6⟩ := h
  exact ⟨h1.1, h6.1⟩

end Go.Proofs.YtabkgpnckaaclaaGreatDoor

/- The calls of parts and of the document's answers for it, of any complex numbers, by their parts' bits. -/
namespace Go.Proofs.YtabkgpnckaaclaaGreatDoor
open Go.RowKit
set_option linter.unusedVariables false

theorem fval_fn (op : BinOp) (V : World) (x y : Nat) : FN op x y (fval op V x y) := by
  cases h : floatBits op .f64 x y with
  | some r => simp only [fval, h]; exact FN.some h
  | none => simp only [fval, h]; exact FN.none _ h
theorem fmul_run (P : Program) (t : TypeId) (V : World) (x y : Nat) : (binOp .mul t (.float .f64 x) (.float .f64 y)).run P V = .ok (.float .f64 (fval .mul V x y)) (fwld .mul V x y) := by
  cases h : floatBits .mul .f64 x y with
  | some r => simp only [fval, fwld, h]; exact run_float_arith V _ _ _ _ _ _ h
  | none =>
    have h' : FloatKind.f64.format.mul x y = .none := h
    simp only [fval, fwld, h]
    simp [binOp, Op.floatArith, h', Question.forced]
/-- The other sign. -/
def fneg (x : Nat) : Nat := Op.negFloat .f64 x

set_option maxHeartbeats 800000 in
set_option maxRecDepth 100000 in
theorem mIsNaN_any (x : Nat) (w : World) :
    Calls Tryz.prog 119 #[.float .f64 x] w fun e w' => e = .returned (.bool (isnan x)) ∧ w' = w := by
  have h := neq_self x
  go_enter Tryz.func119, Tryz.ntmps119
  go_wp2
  go_ret
  exact ⟨rfl, rfl⟩

theorem absBits (x : Nat) (h : x < 18446744073709551616) : bits .andNot .u64 (x : Int) 9223372036854775808 = ((x % 9223372036854775808 : Nat) : Int) := by
  have e := u64_andNot_nat x 9223372036854775808 h (by decide)
  have e2 : x &&& (18446744073709551615 - 9223372036854775808) = x % 9223372036854775808 := Nat.and_two_pow_sub_one_eq_mod _ 63
  rw [e2] at e
  exact e

set_option maxHeartbeats 800000 in
set_option maxRecDepth 100000 in
theorem mAbs_any (x : Nat) (w : World) (h : x < 18446744073709551616) :
    Calls Tryz.prog 51 #[.float .f64 x] w fun e w' => e = .returned (.float .f64 (x % 9223372036854775808)) ∧ w' = w := by
  have HB := bits_run x
  have HF := from_run (x % 9223372036854775808)
  have HA := absBits x h
  generalize x % 9223372036854775808 = y at *
  clear h
  go_enter Tryz.func51, Tryz.ntmps51
  go_wp2
  go_ret
  exact ⟨rfl, rfl⟩

set_option maxHeartbeats 800000 in
set_option maxRecDepth 100000 in
theorem mInf_any (w : World) :
    Calls Tryz.prog 72 #[.int .i64 1] w fun e w' => e = .returned (.float .f64 9218868437227405312) ∧ w' = w := by
  have HF : ∀ V, (callFunc 5 #[.int .u64 9218868437227405312]).run Tryz.prog V = .ok (.value (.float .f64 9218868437227405312)) V := from_run 9218868437227405312
  go_enter Tryz.func72, Tryz.ntmps72
  go_wp2
  go_ret
  exact ⟨rfl, rfl⟩

/-- An infinity, by the size's bits. -/
def isinf (x : Nat) : Bool := x == 9218868437227405312

theorem gt_max {x : Nat} (h : x < 9223372036854775808) : (FloatKind.f64.format.order x 9218868437227405311 == some .gt) = isinf x := by
  by_cases hn : isnan x = true
  · rw [order_nan_l hn]
    rw [isnan_iff] at hn
    have : x ≠ 9218868437227405312 := by rintro rfl; revert hn; decide
    simp [isinf, this]
  · have hx : x ≤ 9218868437227405312 := by rw [isnan_iff] at hn; omega
    rw [order_pos hx (by decide)]
    by_cases e : x = 9218868437227405312
    · subst e; decide
    · have : x ≤ 9218868437227405311 := by omega
      have hc : compare x 9218868437227405311 ≠ .gt := by
        intro g; rw [Nat.compare_eq_gt] at g; omega
      cases hh : compare x 9218868437227405311
      · simp [isinf, e]
      · simp [isinf, e]
      · exact absurd hh hc

set_option maxHeartbeats 800000 in
set_option maxRecDepth 100000 in
theorem mIsInf0_any (x : Nat) (w : World) (h : x < 18446744073709551616) :
    Calls Tryz.prog 118 #[.float .f64 x, .int .i64 0] w fun e w' => e = .returned (.bool (isinf (x % 9223372036854775808))) ∧ w' = w := by
  have HA := hid (mAbs_any x w h)
  have HG := gt_max (x := x % 9223372036854775808) (by omega)
  generalize x % 9223372036854775808 = y at *
  clear h
  go_enter Tryz.func118, Tryz.ntmps118
  go_wp2_with fail
  refine Calls.mono HA.out ?_
  rintro e w2 ⟨rfl, rfl⟩
  go_wp2
  go_ret
  exact ⟨rfl, rfl⟩

theorem natBeq (x y : Nat) : ((x : Int) == (y : Int)) = (x == y) := by
  by_cases h : x = y
  · subst h; simp
  · rw [beq_eq_false_iff_ne.2 h, beq_eq_false_iff_ne.2 (by omega)]

end Go.Proofs.YtabkgpnckaaclaaGreatDoor

/- real's inner calls: a float taken apart, how many bits a number has, a number shifted, words of 64 bits. -/
namespace Go.Proofs.YtabkgpnckaaclaaGreatDoor
open Go.RowKit
set_option linter.unusedVariables false

/-- The count and the unit of a finite float, by its bits. -/
def fcount (x : Nat) : Nat := if x / 4503599627370496 % 2048 = 0 then x % 4503599627370496 else 4503599627370496 + x % 4503599627370496
def funit (x : Nat) : Int := if x / 4503599627370496 % 2048 = 0 then -1074 else -1074 + ((x / 4503599627370496 % 2048 : Nat) : Int) - 1

theorem fcount_lt (x : Nat) : fcount x < 9007199254740992 := by unfold fcount; split <;> omega
theorem funit_le (x : Nat) : -1074 ≤ funit x ∧ funit x ≤ 972 := by unfold funit; split <;> omega

theorem and52 (x : Nat) (hx : x < 18446744073709551616) : bits .and .u64 (x : Int) 4503599627370495 = ((x % 4503599627370496 : Nat) : Int) := by
  have e1 := u64_and_nat x 4503599627370495 hx (by omega)
  have e2 : x &&& 4503599627370495 = x % 4503599627370496 := Nat.and_two_pow_sub_one_eq_mod _ 52
  rw [e2] at e1
  exact e1
theorem and2047 (x : Nat) (hx : x < 18446744073709551616) : bits .and .u64 ((x : Int) / 4503599627370496) 2047 = ((x / 4503599627370496 % 2048 : Nat) : Int) := by
  have e0 : (x : Int) / 4503599627370496 = ((x / 4503599627370496 : Nat) : Int) := by omega
  rw [e0]
  have e1 := u64_and_nat (x / 4503599627370496) 2047 (by omega) (by omega)
  have e2 : x / 4503599627370496 &&& 2047 = x / 4503599627370496 % 2048 := Nat.and_two_pow_sub_one_eq_mod _ 11
  rw [e2] at e1
  exact e1
theorem or52 (m : Nat) (hm : m < 4503599627370496) : bits .or .u64 (m : Int) 4503599627370496 = ((4503599627370496 + m : Nat) : Int) := by
  have e1 := u64_or_nat m 4503599627370496 (by omega) (by omega)
  have e2 : m ||| 4503599627370496 = 4503599627370496 + m := by
    rw [Nat.or_comm]
    exact nat_join 52 4503599627370496 m (by decide) hm
  rw [e2] at e1
  exact e1

set_option maxHeartbeats 1600000 in
set_option maxRecDepth 100000 in
theorem takeApart_any (x : Nat) (w : World) (hx : x < 18446744073709551616) :
    Calls Tryz.prog 37 #[.float .f64 x] w fun e w' => e = .returned (.agg #[.bool (x / 9223372036854775808 == 1), .int .u64 (fcount x : Int), .int .i64 (funit x)]) ∧ Below w.heap.size w w' := by
  have HB := bits_run x
  have h1 := and52 x hx
  have h2 := and2047 x hx
  have h3 : (((x : Int) / 9223372036854775808) == 1) = (x / 9223372036854775808 == 1) := by
    have e0 : (x : Int) / 9223372036854775808 = ((x / 9223372036854775808 : Nat) : Int) := by omega
    rw [e0]
    exact natBeq (x / 9223372036854775808) 1
  have h4 := or52 (x % 4503599627370496) (by omega)
  have hc := fcount_lt x
  generalize hs : (x / 9223372036854775808 == 1) = sgn at *
  by_cases hz : x / 4503599627370496 % 2048 = 0
  · have ec : fcount x = x % 4503599627370496 := by unfold fcount; rw [if_pos hz]
    have eu : funit x = -1074 := by unfold funit; rw [if_pos hz]
    rw [hz] at h2
    rw [ec, eu]
    generalize x % 4503599627370496 = m at *
    clear hz ec eu hs h4 hc
    go_enter Tryz.func37, Tryz.ntmps37
    go_wp2
    go_returns
    exact ⟨rfl, (alloc_later _ _).trans ((alloc_later _ _).mono (by simp))⟩
  · have ec : fcount x = 4503599627370496 + x % 4503599627370496 := by unfold fcount; rw [if_neg hz]
    have eu : funit x = -1074 + ((x / 4503599627370496 % 2048 : Nat) : Int) - 1 := by unfold funit; rw [if_neg hz]
    rw [ec, eu]
    have hE : x / 4503599627370496 % 2048 < 2048 := by omega
    generalize x / 4503599627370496 % 2048 = E at *
    generalize hM : 4503599627370496 + x % 4503599627370496 = M at *
    generalize x % 4503599627370496 = m at *
    have hm : (m : Int) ≤ 18446744073709551615 := by omega
    clear ec eu hs hM
    go_enter Tryz.func37, Tryz.ntmps37
    go_wp2
    go_returns
    exact ⟨by rw [show (-1074 : Int) + ((E : Int) - 1) = -1074 + (E : Int) - 1 by omega], (alloc_later _ _).trans ((alloc_later _ _).mono (by simp))⟩

set_option maxHeartbeats 800000 in
set_option maxRecDepth 100000 in
theorem rlength_any (a : Option Addr) (n cap : Nat) (xs : List Int) (w : World) (h : Reads w w.heap.size a (n + 1) cap xs) (hn : n ≤ 1048576) (tx : Trimmed xs) :
    Calls Tryz.prog 97 #[.slice a (n + 1) cap] w fun e w' => e = .returned (.int .i64 (bitsOf xs : Int)) ∧ w' = w := by
  have hl := h.1
  have hs : sz xs = n + 1 := by rw [tx]; exact hl
  have tp := sz_top xs (by omega)
  rw [hs, Nat.add_sub_cancel] at tp
  have b := h.2.1.at n
  have HU : Hid ((bitsOf xs : Int) = (n : Int) * 32 + (Lib.bitLen (xs[n]?.getD 0).toNat : Int)) := by
    show _ = _
    unfold bitsOf
    rw [hs, if_neg (by omega), Nat.add_sub_cancel]
    omega
  rcases h.2.2.1 with h0 | ⟨g, o, rfl, hg, hc⟩
  · omega
  have c0 := hc n (by omega)
  generalize xs[n]?.getD 0 = x at *
  have HL := hid (lead_any x w (by omega) b.2)
  have h32 := bitLen_le32 x b.2
  generalize Lib.bitLen x.toNat = L at *
  generalize hq : 32 - L = q at *
  have HQ := hid hq
  clear hc h hs hl tp tx hq
  go_enter Tryz.func97, Tryz.ntmps97
  go_wp2_with fail
  refine Calls.mono HL.out ?_
  rintro e w' ⟨rfl, rfl⟩
  have hq32 : q ≤ 32 := by have := HQ.out; omega
  go_wp2_with fail
  go_ret
  exact ⟨ret_int (by have := HQ.out; have := HU.out; omega), rfl⟩

end Go.Proofs.YtabkgpnckaaclaaGreatDoor

/- real.shifted: a number above 0 times a power of two, in new memory. -/
namespace Go.Proofs.YtabkgpnckaaclaaGreatDoor
open Go.RowKit
set_option linter.unusedVariables false

theorem or_lo32 (c X : Int) (t : Nat) (ht : t ≤ 31) (c0 : 0 ≤ c) (c1 : c < 2 ^ t) (x0 : 0 ≤ X) (x1 : X ≤ 4294967295) : bits BinOp.or IntKind.u32 c (X * 2 ^ t % 4294967296) = c + X * 2 ^ t % 4294967296 := by
  obtain ⟨C, rfl⟩ := Int.eq_ofNat_of_zero_le c0
  obtain ⟨Y, rfl⟩ := Int.eq_ofNat_of_zero_le x0
  have e2 : ((2 ^ t : Nat) : Int) = 2 ^ t := by rw [Int.natCast_pow]; rfl
  have e1 : (Y : Int) * 2 ^ t % 4294967296 = ((Y * 2 ^ t % 4294967296 : Nat) : Int) := by rw [← e2]; omega
  have h32 : (2 : Int) ^ t ≤ 2 ^ 31 := two_le ht
  rw [e1]
  rw [← e2] at c1
  have c2 : C < 2 ^ t := Int.ofNat_lt.1 c1
  have hd : Y * 2 ^ t % 4294967296 % 2 ^ t = 0 := by
    have hv : 2 ^ t ∣ 4294967296 := ⟨2 ^ (32 - t), by rw [← Nat.pow_add, show t + (32 - t) = 32 by omega]⟩
    rw [Nat.mod_mod_of_dvd _ hv]
    exact Nat.mul_mod_left _ _
  have hm := Nat.mod_lt (Y * 2 ^ t) (show 0 < 4294967296 by decide)
  have b31 : (2 : Int) ^ 31 = 2147483648 := by decide
  rw [u32_or_nat C _ (by omega) (by omega), Nat.or_comm, nat_join t _ C hd c2]
  omega

theorem up_stay (xs us : List Int) (W k : Nat) (Q c lo hi p : Int) (hk : W + k < us.length) (hb : us[W + k + 1]?.getD 0 = 0) (hc : us[W + k]?.getD 0 = c) (hp : xs[k]?.getD 0 * Q = p) (hl : p = lo + hi * 4294967296) (h0 : hi = 0) (h : segTo us W (k + 1) = valTo xs k * Q) :
    segTo (us.set (W + k) (c + lo)) W (k + 1 + 1) = valTo xs (k + 1) * Q := by
  rw [segTo_succ, segTo_set us W k _ (by omega), valTo_succ, show W + (k + 1) = W + k + 1 by omega, List.getElem?_set, if_neg (by omega), hb]
  rw [segTo_succ, hc] at h
  subst h0
  generalize (4294967296 : Int) ^ k = P at *
  generalize segTo us W k = S at *
  generalize valTo xs k = V at *
  generalize xs[k]?.getD 0 = X at *
  grind

set_option maxHeartbeats 3200000 in
set_option maxRecDepth 100000 in
theorem rshifted_any (a : Option Addr) (n cap : Nat) (xs : List Int) (W t : Nat) (M : Int) (w : World) (h : Reads w w.heap.size a (n + 1) cap xs) (hn : n ≤ 1048576) (tx : Trimmed xs) (hW : W ≤ 1048576) (ht : t ≤ 31) (hM : M = 32 * W + t) :
    Calls Tryz.prog 65 #[.slice a (n + 1) cap, .int .i64 M] w fun e w' => ∃ ys : List Int, e = .returned (.slice (some ⟨w.heap.size, 0, none⟩) ys.length ys.length) ∧ OwnW w' w.heap.size w.heap.size ys.length ys ∧ Wd ys ∧ Trimmed ys ∧ val ys = val xs * 2 ^ t * 4294967296 ^ W ∧ Below w.heap.size w w' := by
  obtain ⟨i0, hi, hz0, hz1, hz2⟩ := info_parts Tryz.infoW
  have HLEN := hid (rlength_any a n cap xs w h hn tx)
  have WX := hid h.2.1
  have HL := hid h.1
  have HCX := hid h.cells
  have hcap := h.2.2.2.1
  have hsz : sz xs = n + 1 := by rw [tx]; exact h.1
  obtain ⟨b1, b2, b3, b4, b5⟩ := bits_bounds h.2.1 (by omega)
  rw [hsz] at b4 b5
  have HBB := hid (And.intro b2 b3)
  have HUB : Hid (bitsOf xs = n * 32 + Lib.bitLen (xs[n]?.getD 0).toNat) := by
    show _ = _
    unfold bitsOf
    rw [hsz, if_neg (by omega), Nat.add_sub_cancel]
  have hq : M / 32 = (W : Int) := by omega
  have hr : M % 32 = (t : Int) := by omega
  have hM0 : 0 ≤ M := by omega
  have hM1 : M ≤ 33554463 := by omega
  obtain ⟨N, hN⟩ : ∃ N : Nat, ((bitsOf xs : Int) + M + 31) / 32 = (N : Int) := ⟨(((bitsOf xs : Int) + M + 31) / 32).toNat, by omega⟩
  have hN1 : W + n + 1 ≤ N := by omega
  have hN2 : N ≤ W + n + 2 := by omega
  have HNB : Hid (32 * ((N : Int) - 1) < (bitsOf xs : Int) + M ∧ (bitsOf xs : Int) + M ≤ 32 * (N : Int)) := by constructor <;> omega
  have hL2 : bitsOf xs ≤ 33554464 := by omega
  have HM := hid hM
  clear h hM b1 b2 b3 b4 b5 hsz tx
  go_enter Tryz.func65, Tryz.ntmps65
  go_wp2_with fail
  refine Calls.mono HLEN.out ?_
  rintro e w1 ⟨rfl, rfl⟩
  clear HLEN
  go_wp2_with (at_make; refine wpList_make_full _ rfl _ _ 23 rfl w1.heap.size 88 i0 (.int .u32 0) 1 Tryz.underlying23 hi hz0 hz1 _ _ _ _ N rfl rfl (by omega) (by omega) (by rw [hz2]; omega) (by unfold maxLen; omega) (Nat.le_refl _) ?_)
  intro w2 hown hgrow
  have hbel : Below w1.heap.size w1 w2 := (Below.refl _ _).grown hgrow (Nat.le_refl _) (fun k hk => by simp at hk)
  have HO := hid (OwnW.made hown)
  clear hown hgrow
  have HTOP : Hid (∀ X, xs[n]?.getD 0 = X → 4294967296 ≤ X * 2 ^ t → W + n + 1 < N) := fun X hX hp => by
    have hb := WX.out.at n
    rw [hX] at hb
    have ub : bitsOf xs = n * 32 + Lib.bitLen X.toNat := by
      have e := HUB.out
      rw [hX] at e
      exact e
    by_cases hx1 : 1 ≤ X
    · obtain ⟨_, _, l3⟩ := bitLen_bounds X hx1 hb.2
      have l4 : 33 ≤ Lib.bitLen X.toNat + t := by
        by_cases hc : 33 ≤ Lib.bitLen X.toNat + t
        · exact hc
        · exfalso
          have p := two_pos t
          have e1 : X * 2 ^ t < 2 ^ Lib.bitLen X.toNat * 2 ^ t := Int.mul_lt_mul_of_pos_right l3 p
          rw [← Int.pow_add] at e1
          have e2 : (2 : Int) ^ (Lib.bitLen X.toNat + t) ≤ 2 ^ 32 := two_le (by omega)
          have e3 : (2 : Int) ^ 32 = 4294967296 := by decide
          omega
      have := HNB.out
      have := HM.out
      omega
    · have : X = 0 := by omega
      subst this
      omega
  go_wp2_with fail
  go_loopw [19] (fun z wr => ∃ (k : Nat) (us : List Int), k ≤ n + 1 ∧ z = .int .i64 k ∧ Wd us ∧ Hid (us[W + k]?.getD 0 < 2 ^ t) ∧ Hid (segTo us W (k + 1) = valTo xs k * 2 ^ t) ∧ Hid (∀ j, j < W ∨ W + k + 1 ≤ j → us[j]?.getD 0 = 0) ∧ OwnW wr w1.heap.size w1.heap.size N us ∧ Below w1.heap.size w1 wr) (fun z _ => n + 1 - (intOf z).toNat)
  case atStart =>
    refine ⟨0, _, by omega, rfl, Wd.replicate _, ?_, ?_, fun j _ => replicate_zero _ j, HO.out, hbel⟩
    · show _ < _
      rw [replicate_zero]; exact two_pos t
    · show _ = _
      rw [segTo_succ, Nat.add_zero, replicate_zero]; simp [segTo, valTo]
  case round =>
    obtain ⟨k, us, hk, rfl, hwu, HC, HV, HK, ho, hb⟩ := hrel
    by_cases hlt : k < n + 1
    · obtain ⟨b1, o1, rfl, l1, cx⟩ := HCX.out k (by omega)
      have x1 : wr.cell? ⟨b1, o1 + k, none⟩ = some (.int .u32 (xs[k]?.getD 0)) := (hb.cell (p := ⟨b1, o1 + k, none⟩) l1).trans cx
      have y1 := ho.cell (W + k) (by omega)
      have f1 := ho.free (W + k)
      have bx := WX.out.at k
      have hlu := ho.len
      have bc := hwu.at (W + k)
      obtain ⟨u1, u2, u3⟩ := up_word _ t ht bx.1 bx.2
      obtain ⟨q0, q1, q2, q3⟩ := shl_word _ t ht bx.1 bx.2
      have hor := or_lo32 (us[W + k]?.getD 0) (xs[k]?.getD 0) t ht bc.1 HC.out bx.1 bx.2
      have c1 := HC.out
      have HTK : Hid (4294967296 ≤ xs[k]?.getD 0 * 2 ^ t → W + k + 1 < N) := fun hp => by
        by_cases hkn : k = n
        · subst hkn; exact HTOP.out _ rfl hp
        · omega
      have HST := hid (fun c lo hi p (hk : W + k + 1 < us.length) => up_step xs us W k (2 ^ t) c lo hi p hk)
      have HST0 := hid (fun c lo hi p => up_stay xs us W k (2 ^ t) c lo hi p (by omega) (HK.out _ (.inr (by omega))))
      obtain ⟨X, hX⟩ : ∃ X, xs[k]?.getD 0 = X := ⟨_, rfl⟩
      obtain ⟨c, hc⟩ : ∃ c, us[W + k]?.getD 0 = c := ⟨_, rfl⟩
      rw [hX] at x1 bx HST HST0 u1 u2 u3 q0 q1 hor HTK
      rw [hc] at y1 c1 bc HST HST0 hor
      obtain ⟨p, hp⟩ : ∃ p, X * 2 ^ t = p := ⟨_, rfl⟩
      rw [hp] at u1 u2 u3 q0 q1 hor HTK
      obtain ⟨lo, hlo⟩ : ∃ lo, p % 4294967296 = lo := ⟨_, rfl⟩
      obtain ⟨hi', hhi⟩ : ∃ hi', p / 4294967296 = hi' := ⟨_, rfl⟩
      have hpl : p = lo + hi' * 4294967296 := by omega
      rw [hlo] at u1 hor
      rw [hhi] at u2 u3
      have lo0 : 0 ≤ lo := by omega
      have lo1 : lo ≤ 4294967295 := by omega
      have hcl : c + lo ≤ 4294967295 := by omega
      have hi1 : hi' ≤ 4294967295 := by omega
      have HU3 := hid u3
      have p1 : p ≤ 18446744073709551615 := by omega
      have hkW : (M / 32 + (k : Int)) = ((W + k : Nat) : Int) := by omega
      have hkW1 : (((W + k : Nat) : Int) + 1) = ((W + k + 1 : Nat) : Int) := by omega
      have HWU := hid hwu
      have HOO := hid ho
      have HBO := hid hb
      by_cases hz : hi' = 0
      · have hzd : decide (0 < hi') = false := by simp; omega
        have elo : lo = p := by rw [hz] at hpl; omega
        subst elo
        have HSV := hid (HST0.out c lo hi' lo rfl hp hpl hz HV.out)
        have HKN : Hid (∀ j, j < W ∨ W + (k + 1) + 1 ≤ j → (us.set (W + k) (c + lo))[j]?.getD 0 = 0) := fun j hj => by
          rw [List.getElem?_set, if_neg (by omega)]
          exact HK.out j (by omega)
        have HCN : Hid ((us.set (W + k) (c + lo))[W + (k + 1)]?.getD 0 < 2 ^ t) := by
          show _ < _
          rw [show W + (k + 1) = W + k + 1 by omega, List.getElem?_set, if_neg (by omega), HK.out _ (.inr (by omega))]
          exact two_pos t
        have HWN := hid (HWU.out.set (W + k) (show 0 ≤ c + lo ∧ c + lo ≤ 4294967295 by omega))
        have HO1 := hid (HOO.out.set (W + k) (c + lo))
        have HB1 := hid (HBO.out.setCell (p := ⟨w1.heap.size, W + k, none⟩) (Nat.le_refl _) (.int .u32 (c + lo)))
        subst hz
        clear hlu ho hb HV HK HC cx hX hc hpl u1 u2 u3 q1 q2 q3 c1 HST HST0 HTK HOO HBO HWU
        go_wp2_with fail
        go_roundw
        case rel => exact ⟨k + 1, _, by omega, by go_num, HWN.out, HCN, HSV, HKN, HO1.out, HB1.out⟩
        case measure => simp [intOf]; omega
      · have hNk := HTK.out (by omega)
        have hzd : decide (0 < hi') = true := by simp; omega
        have HSV := hid (HST.out c lo hi' p (by omega) rfl hp hpl HV.out)
        have HOB2 : Hid (OwnW ((wr.setCell ⟨w1.heap.size, W + k, none⟩ (.int .u32 (c + lo))).setCell ⟨w1.heap.size, W + k + 1, none⟩ (.int .u32 hi')) w1.heap.size w1.heap.size N ((us.set (W + k) (c + lo)).set (W + k + 1) hi') ∧ Below w1.heap.size w1 ((wr.setCell ⟨w1.heap.size, W + k, none⟩ (.int .u32 (c + lo))).setCell ⟨w1.heap.size, W + k + 1, none⟩ (.int .u32 hi'))) :=
          ⟨(ho.set (W + k) _).set (W + k + 1) _, (hb.setCell (p := ⟨w1.heap.size, W + k, none⟩) (Nat.le_refl _) _).setCell (p := ⟨w1.heap.size, W + k + 1, none⟩) (Nat.le_refl _) _⟩
        have g1 := (ho.set (W + k) (c + lo)).cell (W + k + 1) (by omega)
        have g2 := (ho.set (W + k) (c + lo)).free (W + k + 1)
        have HKN : Hid (∀ j, j < W ∨ W + (k + 1) + 1 ≤ j → ((us.set (W + k) (c + lo)).set (W + k + 1) hi')[j]?.getD 0 = 0) := fun j hj => by
          rw [List.getElem?_set, if_neg (by omega), List.getElem?_set, if_neg (by omega)]
          exact HK.out j (by omega)
        have HCN : Hid (((us.set (W + k) (c + lo)).set (W + k + 1) hi')[W + (k + 1)]?.getD 0 < 2 ^ t) := by
          show _ < _
          rw [show W + (k + 1) = W + k + 1 by omega, List.getElem?_set, if_pos rfl, if_pos (by rw [List.length_set]; omega)]
          exact HU3.out
        have HWN := hid ((HWU.out.set (W + k) (show 0 ≤ c + lo ∧ c + lo ≤ 4294967295 by omega)).set (W + k + 1) (show 0 ≤ hi' ∧ hi' ≤ 4294967295 by omega))
        clear hlu ho hb HV HK HC cx hX hc hpl u1 u3 q1 q2 q3 c1 HST HST0 HTK HOO HBO HWU
        go_wp2_with fail
        go_roundw
        case rel => exact ⟨k + 1, _, by omega, by go_num, HWN.out, HCN, HSV, HKN, HOB2.out.1, HOB2.out.2⟩
        case measure => simp [intOf]; omega
    · obtain rfl : k = n + 1 := by omega
      have hlu := ho.len
      have HF : val us = val xs * 2 ^ t * 4294967296 ^ W := by
        rw [← valTo_stable us (W + (n + 1 + 1)) (by omega), valTo_seg us W (n + 1 + 1), HV.out, valTo_stable xs (n + 1) (by have := HL.out; omega), valTo_congr us [] W (fun j hj => by rw [HK.out j (.inl hj)]; rfl), valTo_stable [] _ (by simp), val_nil]
        omega
      have HT : Hid (Trimmed us) := by
        show sz us = us.length
        rw [sz_eq_iff]
        right
        intro h0
        obtain ⟨m, hm⟩ : ∃ m, us.length = m + 1 := ⟨N - 1, by omega⟩
        rw [hm, Nat.add_sub_cancel] at h0
        have v1 : val us = valTo us m := by
          rw [← valTo_stable us (m + 1) (by omega), valTo_succ, h0]; omega
        have v2 := (valTo_bounds hwu m).2
        have v3 := HBB.out.1
        have hn3 := HNB.out
        have hm3 := HM.out
        have p1 := two_pos t
        have p2 := pw_pos W
        have v4 : (2 : Int) ^ (bitsOf xs - 1) * 2 ^ t ≤ val xs * 2 ^ t := Int.mul_le_mul_of_nonneg_right v3 (Int.le_of_lt p1)
        have v5 : (2 : Int) ^ (bitsOf xs - 1) * 2 ^ t * 4294967296 ^ W ≤ val xs * 2 ^ t * 4294967296 ^ W := Int.mul_le_mul_of_nonneg_right v4 (Int.le_of_lt p2)
        rw [pw_two W, ← Int.pow_add, ← Int.pow_add, ← pw_two W, ← HF, v1] at v5
        rw [pw_two m] at v2
        have v6 : (2 : Int) ^ (32 * m) ≤ 2 ^ (bitsOf xs - 1 + t + 32 * W) := two_le (by omega)
        omega
      have HF' := hid HF
      have hNl : N = us.length := hlu.symm
      subst hNl
      clear HV HK HC HF hlu
      go_wp2_with fail
      go_ret
      exact ⟨us, rfl, ho, hwu, HT.out, HF'.out, hb⟩

end Go.Proofs.YtabkgpnckaaclaaGreatDoor

/- real.double, real.compare: a number doubled in place, two of as many words held against each other. -/
namespace Go.Proofs.YtabkgpnckaaclaaGreatDoor
open Go.RowKit
set_option linter.unusedVariables false

theorem or_dbl (x c : Int) (x0 : 0 ≤ x) (x1 : x ≤ 4294967295) (c0 : 0 ≤ c) (c1 : c ≤ 1) : bits BinOp.or IntKind.u32 (x * 2 % 4294967296) c = x * 2 % 4294967296 + c := by
  obtain ⟨X, rfl⟩ := Int.eq_ofNat_of_zero_le x0
  obtain ⟨C, rfl⟩ := Int.eq_ofNat_of_zero_le c0
  have e : (X : Int) * 2 % 4294967296 = ((X * 2 % 4294967296 : Nat) : Int) := by omega
  rw [e, u32_or_nat _ C (by omega) (by omega), nat_join 1 _ C (by omega) (by omega)]
  omega

theorem dbl_step (ys us : List Int) (k : Nat) (c x : Int) (hk : k < us.length) (hx : ys[k]?.getD 0 = x) (h : valTo us k + c * 4294967296 ^ k = 2 * valTo ys k) (x0 : 0 ≤ x) (x1 : x ≤ 4294967295) :
    valTo (us.set k (x * 2 % 4294967296 + c)) (k + 1) + x / 2147483648 * 4294967296 ^ (k + 1) = 2 * valTo ys (k + 1) := by
  rw [valTo_set us k _ hk, valTo_succ, hx, pw_succ]
  have e : x * 2 = x * 2 % 4294967296 + x / 2147483648 * 4294967296 := by omega
  generalize x * 2 % 4294967296 = lo at *
  generalize x / 2147483648 = hi at *
  generalize (4294967296 : Int) ^ k = P at *
  have e2 : x * 2 * P = (lo + hi * 4294967296) * P := by rw [e]
  have e3 : x * 2 * P = 2 * (x * P) := by rw [Int.mul_comm x 2, Int.mul_assoc]
  have e4 : (lo + hi * 4294967296) * P = lo * P + hi * (P * 4294967296) := by rw [Int.add_mul, Int.mul_assoc, Int.mul_comm 4294967296 P]
  rw [Int.add_mul, Int.mul_add]
  omega

set_option maxHeartbeats 1600000 in
set_option maxRecDepth 100000 in
theorem rdouble_any (base g n cap : Nat) (ys : List Int) (w : World) (ho : OwnC w base g n cap ys) (hwy : Wd ys) (hn : n ≤ 1048576) :
    Calls Tryz.prog 103 #[.slice (some ⟨g, 0, none⟩) n cap] w fun e w' => ∃ (zs : List Int) (c : Int), e = .returned (.tuple #[]) ∧ OwnC w' base g n cap zs ∧ Wd zs ∧ val zs + c * 4294967296 ^ n = 2 * val ys ∧ 0 ≤ c ∧ c ≤ 1 ∧ w.grownBy w' (some g) := by
  have hcap := ho.cap
  have hlen := ho.len
  have HLN := hid hlen
  clear hlen
  go_enter Tryz.func103, Tryz.ntmps103
  go_wp2_with fail
  go_loopw [2, 7] (fun cv z wr => ∃ (k : Nat) (c : Int) (us : List Int), k ≤ n ∧ z = .int .i64 k ∧ cv = .int .u32 c ∧ 0 ≤ c ∧ c ≤ 1 ∧ Wd us ∧ Hid (valTo us k + c * 4294967296 ^ k = 2 * valTo ys k) ∧ Hid (∀ j, k ≤ j → us[j]?.getD 0 = ys[j]?.getD 0) ∧ OwnC wr base g n cap us ∧ w.grownBy wr (some g)) (fun _ z _ => n - (intOf z).toNat)
  case atStart => exact ⟨0, 0, ys, by omega, rfl, rfl, by omega, by omega, hwy, show _ = _ by simp [valTo], fun _ _ => rfl, ho, World.grownBy.refl _ _⟩
  case round =>
    obtain ⟨k, c, us, hk, rfl, rfl, c0, c1, hwu, HV, HK, hou, hg⟩ := hrel
    by_cases hlt : k < n
    · have y1 := hou.cell k hlt
      have f1 := hou.free k
      have bu := hwu.at k
      have hlu := hou.len
      have hxy : ys[k]?.getD 0 = us[k]?.getD 0 := (HK.out k (Nat.le_refl _)).symm
      have HV' := hid (dbl_step ys us k c _ (by omega) hxy HV.out bu.1 bu.2)
      have hor := or_dbl (us[k]?.getD 0) c bu.1 bu.2 c0 c1
      have HK' : Hid (∀ j, k + 1 ≤ j → (us.set k (us[k]?.getD 0 * 2 % 4294967296 + c))[j]?.getD 0 = ys[j]?.getD 0) := fun j hj => by
        rw [List.getElem?_set, if_neg (by omega)]; exact HK.out j (by omega)
      have HO' := hid (hou.set k (us[k]?.getD 0 * 2 % 4294967296 + c)).1
      have HG' := hid (grown_trans hg (hou.set k (us[k]?.getD 0 * 2 % 4294967296 + c)).2)
      have HW' := hid (hwu.set k (show 0 ≤ us[k]?.getD 0 * 2 % 4294967296 + c ∧ us[k]?.getD 0 * 2 % 4294967296 + c ≤ 4294967295 by omega))
      generalize us[k]?.getD 0 = x at *
      have hx31 : x / 2147483648 ≤ 1 := by omega
      have hx30 : 0 ≤ x / 2147483648 := by omega
      clear hlu hou hg HV HK hxy hwu
      go_wp2_with fail
      go_roundw
      case rel => exact ⟨k + 1, x / 2147483648, us.set k (x * 2 % 4294967296 + c), by omega, by go_num, by go_num, hx30, hx31, HW'.out, HV', HK', HO'.out, HG'.out⟩
      case measure => simp [intOf]; omega
    · have hkn : k = n := by omega
      subst hkn
      have HF : Hid (val us + c * 4294967296 ^ k = 2 * val ys) := by
        show _ = _
        have e := HV.out
        rw [valTo_stable us k (by have := hou.len; omega), valTo_stable ys k (by have := HLN.out; omega)] at e
        exact e
      clear HV
      go_wp2_with fail
      go_end0
      exact ⟨us, c, rfl, hou, hwu, HF.out, c0, c1, hg⟩

theorem cmp_no {xs ys : List Int} {k : Nat} (hx : Wd xs) (hy : Wd ys) (h : ∀ j, k + 1 ≤ j → xs[j]?.getD 0 = ys[j]?.getD 0) (hlt : xs[k]?.getD 0 < ys[k]?.getD 0) : cmpI (val xs) (val ys) = -1 := cmpI_lt (val_lt_of hx hy k hlt (fun j hj => h j hj))
theorem cmp_yes {xs ys : List Int} {k : Nat} (hx : Wd xs) (hy : Wd ys) (h : ∀ j, k + 1 ≤ j → xs[j]?.getD 0 = ys[j]?.getD 0) (hlt : ys[k]?.getD 0 < xs[k]?.getD 0) : cmpI (val xs) (val ys) = 1 := cmpI_gt (val_lt_of hy hx k hlt (fun j hj => (h j hj).symm))

set_option maxHeartbeats 1600000 in
set_option maxRecDepth 100000 in
theorem rcompare_any (a : Option Addr) (n cap : Nat) (xs : List Int) (b : Option Addr) (cap' : Nat) (ys : List Int) (w : World) (h : Reads w w.heap.size a n cap xs) (g : Reads w w.heap.size b n cap' ys) (hn : n ≤ 1048576) :
    Calls Tryz.prog 74 #[.slice a n cap, .slice b n cap'] w fun e w' => e = .returned (.int .i64 (cmpI (val xs) (val ys))) ∧ Below w.heap.size w w' := by
  have HCX := hid h.cells
  have HCY := hid g.cells
  have HW := hid (And.intro h.2.1 g.2.1)
  have HZ : Hid (∀ j, n ≤ j → xs[j]?.getD 0 = ys[j]?.getD 0) := fun j hj => by
    have e1 := h.1
    have e2 := g.1
    rw [List.getElem?_eq_none (by omega), List.getElem?_eq_none (by omega)]
  have hp := h.2.2.2.1
  have hp' := g.2.2.2.1
  obtain ⟨cc, hcc⟩ : ∃ cc, cmpI (val xs) (val ys) = cc := ⟨_, rfl⟩
  have HCC := hid hcc
  rw [hcc]
  clear h g hcc
  go_enter Tryz.func74, Tryz.ntmps74
  go_wp2_with fail
  go_loopw [5] (fun z wr => ∃ k : Nat, k ≤ n ∧ z = .int .i64 ((k : Int) - 1) ∧ Hid (∀ j, k ≤ j → xs[j]?.getD 0 = ys[j]?.getD 0) ∧ Below w.heap.size w wr) (fun z _ => (intOf z + 1).toNat)
  case atStart => exact ⟨n, Nat.le_refl _, rfl, fun j hj => HZ.out j hj, Below.refl _ _⟩
  case round =>
    obtain ⟨k, hk, rfl, HE, hb⟩ := hrel
    rcases k with _ | k
    · have HV : Hid (cc = 0) := by
        show _ = _
        rw [← HCC.out]
        exact cmpI_eq (val_eq_of (fun j => HE.out j (Nat.zero_le _)))
      clear HE
      go_wp2_with fail
      go_ret
      exact ⟨ret_int HV.out.symm, hb⟩
    · have ek : (((k + 1 : Nat) : Int) - 1) = (k : Int) := by omega
      rw [ek]
      clear ek
      obtain ⟨g1, o1, rfl, l1, c1⟩ := HCX.out k (by omega)
      obtain ⟨g2, o2, rfl, l2, c2⟩ := HCY.out k (by omega)
      have x1 : wr.cell? ⟨g1, o1 + k, none⟩ = some (.int .u32 (xs[k]?.getD 0)) := (hb.cell (p := ⟨g1, o1 + k, none⟩) l1).trans c1
      have y1 : wr.cell? ⟨g2, o2 + k, none⟩ = some (.int .u32 (ys[k]?.getD 0)) := (hb.cell (p := ⟨g2, o2 + k, none⟩) l2).trans c2
      have HNO := hid (fun h => cmp_no HW.out.1 HW.out.2 HE.out h)
      have HYES := hid (fun h => cmp_yes HW.out.1 HW.out.2 HE.out h)
      have HEQ : Hid (xs[k]?.getD 0 = ys[k]?.getD 0 → ∀ j, k ≤ j → xs[j]?.getD 0 = ys[j]?.getD 0) := fun h j hj => by
        rcases Nat.lt_or_eq_of_le hj with g | g
        · exact HE.out j g
        · subst g; exact h
      have HB := hid hb
      generalize xs[k]?.getD 0 = x at *
      generalize ys[k]?.getD 0 = y at *
      clear c1 c2 HE hb HZ
      by_cases hlt : x < y
      · have HV := hid (HNO.out hlt)
        rw [HCC.out] at HV
        go_wp2_with fail
        go_quiet (fail)
        go_wp2_with fail
        go_ret
        exact ⟨ret_int HV.out.symm, bdn HB.out _⟩
      · by_cases hgt : y < x
        · have HV := hid (HYES.out hgt)
          rw [HCC.out] at HV
          go_wp2_with fail
          go_quiet (fail)
          go_wp2_with fail
          go_quiet (fail)
          go_wp2_with fail
          go_ret
          exact ⟨ret_int HV.out.symm, bdn (bdn HB.out _) _⟩
        · have HE' := hid (HEQ.out (by omega))
          go_wp2_with fail
          go_quiet (fail)
          go_wp2_with fail
          go_quiet (fail)
          go_wp2_with fail
          go_roundw
          case rel => exact ⟨k, by omega, rfl, HE', bdn HB.out _⟩
          case measure => simp [intOf]

end Go.Proofs.YtabkgpnckaaclaaGreatDoor

