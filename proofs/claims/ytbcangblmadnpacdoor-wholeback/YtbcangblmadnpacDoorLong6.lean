/- nat.divideLong: quotient and rest by two words or more, in new memory. -/
import Derived.Test.YtbcangblmadnpacDoorLong5
namespace Go.Proofs.YtbcangblmadnpacDoor
open Go.RowKit
set_option linter.unusedVariables false

set_option maxHeartbeats 800000 in
set_option maxRecDepth 100000 in
theorem divideLong_any (v u : Value) (xs ys : List Int) (e : Nat) (w : World) (h : Sl w v xs) (g : Sl w u ys) (hn : xs.length ≤ 8192) (hx : Trimmed xs) (hy : Trimmed ys) (hl : ys.length = e + 2) (hge : ys.length ≤ xs.length) :
    Calls Tryd.prog 87 #[v, u] w (Divided w xs ys) := by
  obtain ⟨i0, hi, hz0, hz1, hz2⟩ := info_parts Tryd.infoW
  have wx := h.wd
  have wy := g.wd
  obtain ⟨a, cap, rfl, hr⟩ := h
  obtain ⟨b, cap', rfl, gr⟩ := g
  obtain ⟨n, hnn⟩ : ∃ n, xs.length = n := ⟨_, rfl⟩
  rw [hl] at gr hge ⊢
  rw [hnn] at hr hn hge ⊢
  obtain ⟨K, hK⟩ : ∃ K, e + 2 + K = n + 1 := ⟨n + 1 - (e + 2), by omega⟩
  obtain ⟨s1, s2, s3, s4, s5⟩ := normal wy hy e hl
  obtain ⟨t, ht⟩ : ∃ t, 32 - Lib.bitLen (ys[e + 1]?.getD 0).toNat = t := ⟨_, rfl⟩
  have HLD := hid (lead_any (ys[e + 1]?.getD 0) w s1 s2)
  rw [ht] at s3 s4 s5 HLD
  have HR1 := hid (raise_zero b (e + 2) cap' ys t w gr (by omega) (by omega) s3)
  rcases gr.2.2.1 with h0 | ⟨b2, o2, rfl, hb2, hc2⟩
  · omega
  have hc0 := hc2 (e + 1) (by omega)
  have HX := hid hr
  have HN := hid (And.intro hnn hl)
  have HS4 := hid s4
  have HS5 := hid s5
  generalize ys[e + 1]?.getD 0 = top at *
  clear hc2 gr hr hnn hl s4 s5 ht
  go_enter Tryd.func87, Tryd.ntmps87
  go_wp2_with fail
  refine Calls.mono HLD.out ?_
  rintro x w' ⟨rfl, rfl⟩
  go_wp2_with fail
  refine Calls.mono HR1.out ?_
  rintro x w1 ⟨dF, rfl, oF, wF, hvF, hb1⟩
  have hlF := oF.len
  have hvd : val (dF.take (e + 2)) = val ys * 2 ^ t := by rw [top_nought wF (e + 2) (by omega) (by rw [hvF]; exact HS4.out), hvF]
  have oD : OwnC w1 w.heap.size w.heap.size (e + 2) (e + 2 + 1) (dF.take (e + 2)) := OwnC.take (cap := e + 2 + 1) oF (e + 2) (by omega)
  have wD : Wd (dF.take (e + 2)) := wF.take _
  have lD : (dF.take (e + 2)).length = e + 2 := by rw [List.length_take]; omega
  generalize dF.take (e + 2) = ds at *
  have hg1 := oF.base
  have hs1 := hb1.size
  have hrD : Reads w1 w1.heap.size (some ⟨w.heap.size, 0, none⟩) (e + 2) (e + 2 + 1) ds := by
    obtain ⟨a, cap, hv, hr⟩ := Reads.own oD wD
    simp only [Value.slice.injEq] at hv
    obtain ⟨rfl, _, rfl⟩ := hv
    exact hr
  have HR2 := hid (raise_zero a n cap xs t w1 (HX.out.later hb1 hs1) (by omega) (by omega) s3)
  have HVD := hid hvd
  have HRD := hid hrD
  have HLDS := hid lD
  have HB1 := hid hb1
  clear oF wF hvF hlF hvd oD hrD lD hb1 HLD HR1 HX
  go_wp2_with fail
  refine Calls.mono HR2.out ?_
  rintro x w2 ⟨lf, rfl, oL, wL, hvL, hb2'⟩
  have hs2 := hb2'.size
  have hgL := oL.base
  have HVL := hid hvL
  have HOL := hid oL
  have HB2 := hid hb2'
  have hKi : ((n : Int) - ((e : Int) + 2) + 1) = (K : Int) := by omega
  clear hvL oL hb2' HR2
  go_wp2_with (at_make; refine wpList_make_full _ rfl _ _ 22 rfl w2.heap.size 40 i0 (.int .u32 0) 1 Tryd.underlying22 hi hz0 hz1 _ _ _ _ K rfl rfl (by omega) (by omega) (by rw [hz2]; omega) (by unfold maxLen; omega) (Nat.le_refl _) ?_)
  intro w3 hown hgrow
  have hbel3 : Below w2.heap.size w2 w3 := (Below.refl _ _).grown hgrow (Nat.le_refl _) (fun k hk => by simp at hk)
  have hs3 := hbel3.size
  have HOQ := hid (OwnW.made hown)
  have HB3 := hid hbel3
  have hgQ := (OwnW.made hown).base
  clear hown hgrow hbel3
  go_wp2_with fail
  go_loopw [9] (fun z wr => ∃ (k : Nat) (us qs : List Int), k ≤ K ∧ z = .int .i64 ((k : Int) - 1) ∧ Wd us ∧ Wd qs ∧ Hid (val lf = valTo us (k + (e + 2)) + segTo qs k (K - k) * val ds * 4294967296 ^ k) ∧ Hid (segTo us k (e + 2) < val ds) ∧
    OwnW wr w1.heap.size w1.heap.size (n + 1) us ∧ OwnW wr w2.heap.size w2.heap.size K qs ∧ Below w1.heap.size w1 wr) (fun z _ => (intOf z + 1).toNat)
  case atStart =>
    have hll := HOL.out.len
    have hKm : K + (e + 2) = n + 1 := by omega
    have hst := long_start (val lf) (val ds) n (e + 2) K (val xs) t s3 hK (by have := val_lt wx; rw [HN.out.1] at this; exact this) (val_nonneg wx) HVL.out (by rw [HVD.out]; exact HS5.out)
    refine ⟨K, lf, List.replicate K 0, Nat.le_refl _, rfl, wL, Wd.replicate _, ?_, ?_, owns_later HOL.out HB3.out, HOQ.out, HB2.out.trans (HB3.out.mono hs2)⟩
    · show _ = _
      rw [hKm, valTo_stable lf _ (by omega), Nat.sub_self]
      simp [segTo]
    · show _ < _
      have e1 : val lf = valTo lf K + segTo lf K (e + 2) * 4294967296 ^ K := by rw [← valTo_seg, hKm, valTo_stable lf _ (by omega)]
      have b := (valTo_bounds wL K).1
      exact Int.lt_of_mul_lt_mul_right (show segTo lf K (e + 2) * 4294967296 ^ K < val ds * 4294967296 ^ K by omega) (Int.le_of_lt (pw_pos K))
  case round =>
    obtain ⟨k, us, qs, hk, rfl, wu, wq, HV, HS, oU, oQ, hb⟩ := hrel
    have hbs := hb.size
    have hqb := oQ.base
    rcases k with _ | k
    · have oT : OwnC wr w1.heap.size w1.heap.size (e + 2) (n + 1) (us.take (e + 2)) := OwnC.take (cap := n + 1) oU (e + 2) (by omega)
      have hrT : Reads wr wr.heap.size (some ⟨w1.heap.size, 0, none⟩) (e + 2) (n + 1) (us.take (e + 2)) := by
        obtain ⟨a, cap, hv, hr⟩ := Reads.own oT (wu.take _)
        simp only [Value.slice.injEq] at hv
        obtain ⟨rfl, _, rfl⟩ := hv
        exact hr
      have hlu := oU.len
      have hlq := oQ.len
      have hvR : val (us.take (e + 2)) = valTo us (e + 2) := by
        unfold val
        rw [List.length_take, Nat.min_eq_left (by omega), valTo_congr (us.take (e + 2)) us _ (fun j hj => by rw [List.getElem?_take, if_pos hj])]
      have HF : Hid (val xs = val qs * val ys + val (us.take (e + 2)) / 2 ^ t ∧ val (us.take (e + 2)) / 2 ^ t < val ys) := by
        have e1 := HV.out
        have e2 := HS.out
        rw [segTo_zero] at e2
        rw [segTo_zero, Nat.zero_add, Nat.sub_zero, valTo_stable qs K (by omega), Int.pow_zero, Int.mul_one, HVL.out, HVD.out, ← hvR, ← Int.mul_assoc] at e1
        rw [← hvR, HVD.out] at e2
        have hp := two_pos t
        have e3 : val (us.take (e + 2)) = (val xs - val qs * val ys) * 2 ^ t := by rw [Int.sub_mul]; omega
        have e4 : val (us.take (e + 2)) / 2 ^ t = val xs - val qs * val ys := by rw [e3]; exact Int.mul_ediv_cancel _ (by omega)
        refine ⟨by rw [e4]; omega, Int.ediv_lt_of_lt_mul hp e2⟩
      have HLW := hid (lower_zero (some ⟨w1.heap.size, 0, none⟩) (e + 2) (n + 1) (us.take (e + 2)) t wr hrT (by omega) (by omega) s3)
      have HOQ' := hid oQ
      have HBW : Hid (Below w.heap.size w wr) := HB1.out.trans (hb.mono hs1)
      clear oT hrT hvR hlu HV HS oU oQ hb
      go_wp2_with fail
      refine Calls.mono HLW.out ?_
      rintro x w5 ⟨rs, rfl, oR, wR, hvR, hb5⟩
      have hs5 := hb5.size
      have oQ5 : OwnC w5 w2.heap.size w2.heap.size K K qs := owns_later HOQ'.out hb5
      have sq := sz_le qs
      rw [hlq] at sq
      have hlr := oR.len
      have sr := sz_le rs
      rw [hlr] at sr
      have hrQ : Reads w5.drew w5.heap.size (some ⟨w2.heap.size, 0, none⟩) K K qs := by
        obtain ⟨a, cap, hv, hr⟩ := Reads.own oQ5 wq
        simp only [Value.slice.injEq] at hv
        obtain ⟨rfl, _, rfl⟩ := hv
        exact hr
      have hrR : Reads w5.drew w5.heap.size (some ⟨wr.heap.size, 0, none⟩) (e + 2) (e + 2) rs := by
        obtain ⟨a, cap, hv, hr⟩ := Reads.own oR wR
        simp only [Value.slice.injEq] at hv
        obtain ⟨rfl, _, rfl⟩ := hv
        exact hr
      have HZ1 := hid (size_any _ _ _ qs _ w5.drew hrQ (by omega))
      have HZ2 := hid (size_any _ _ _ rs _ w5.drew hrR (by omega))
      have hbR := oR.base
      have HFIN : Hid (Divided w xs ys (.returned (.tuple #[.slice (some ⟨w2.heap.size, 0, none⟩) (sz qs) K, .slice (some ⟨wr.heap.size, 0, none⟩) (sz rs) (e + 2)])) w5.drew) := by
        have hbd : Below w5.heap.size w5 w5.drew := (Below.refl _ w5).drew
        refine ⟨_, _, trimmed qs, trimmed rs, wr.heap.size, rfl, ?_, ?_, ?_, ?_, by omega, by show wr.heap.size ≤ w5.heap.size; omega, wq.trimmed, wR.trimmed, Trimmed.trimmed _, Trimmed.trimmed _, ?_, ?_, HBW.out.trans ((hb5.mono (by omega)).trans (hbd.mono (by omega)))⟩
        · rw [length_trimmed]
          have o1 : w5.ownsRow w2.heap.size 40 1 (.slice (some ⟨w2.heap.size, 0, none⟩) (sz qs) K) (sz qs) ((trimmed qs).map (Value.int .u32)) := OwnC.take oQ5 (sz qs) sq
          exact owns_base (owns_later o1 hbd) (by omega)
        · rw [length_trimmed]
          have o1 : w5.ownsRow wr.heap.size 40 1 (.slice (some ⟨wr.heap.size, 0, none⟩) (sz rs) (e + 2)) (sz rs) ((trimmed rs).map (Value.int .u32)) := OwnC.take (cap := e + 2) oR (sz rs) sr
          exact owns_base (owns_later o1 hbd) (by omega)
        · intro g hg; simp [Value.ownBlock] at hg; omega
        · intro g hg; simp [Value.ownBlock] at hg; show _ ∧ g < w5.heap.size; omega
        · rw [val_trimmed, val_trimmed, hvR]; exact HF.out.1
        · rw [val_trimmed, hvR]; exact HF.out.2
      clear oR oQ5 hrQ hrR hvR hb5 hlr hlq HF HLW
      go_wp2_with fail
      go_region_with (first | (go_at_call 63; with_reducible refine Calls.mono HZ1.out ?_; rintro e w' ⟨rfl, rfl⟩) | (go_at_call 63; with_reducible refine Calls.mono HZ2.out ?_; rintro e w' ⟨rfl, rfl⟩))
      all_goals
        go_wp2
        go_ret2
        exact HFIN.out
    · have ek : (((k + 1 : Nat) : Int) - 1) = (k : Int) := by omega
      rw [ek]
      clear ek
      have bu := wu.at k
      have hseg : segTo us k (e + 3) = us[k]?.getD 0 + segTo us (k + 1) (e + 2) * 4294967296 := segTo_cons us (e + 2) k
      have hLD : segTo us k (e + 3) < 4294967296 * val ds := by rw [hseg]; have := HS.out; omega
      have HNW := hid (nextWord_any w1.heap.size w1.heap.size (n + 1) k e _ us (some ⟨w.heap.size, 0, none⟩) (e + 2 + 1) ds wr oU wu (by omega) rfl (by omega) (HRD.out.later hb (Nat.le_refl _)) (top_one wD e HLDS.out (by rw [HVD.out]; exact HS5.out)) hLD)
      have HOQ' := hid oQ
      have HB' := hid hb
      have hne : ¬ n + 1 = k := by omega
      clear hLD hseg bu oU oQ hb
      go_wp2_with fail
      rw [show k + (e + 2) + 1 - k = e + 2 + 1 by omega]
      refine Calls.mono HNW.out ?_
      rintro x w6 ⟨q, vs, rfl, q0, q1, oV, wv, kv, hsv, hlv, hg6⟩
      have oQ6 : OwnW w6 w2.heap.size w2.heap.size K qs := World.ownsRow.kept HOQ'.out hg6 (by right; intro e; simp [Value.ownBlock] at e; omega)
      have y1 := oQ6.cell k (by omega)
      have f1 := oQ6.free k
      have hlq := oQ6.len
      have hsv' : segTo vs k (e + 2 + 1) = segTo us k (e + 2 + 1) - q * val ds := hsv
      have hlv' : segTo vs k (e + 2 + 1) < val ds := hlv
      have hst := long_step us vs qs (e + 2) K k (val lf) (val ds) q (by omega) hlq wv (by rw [HVD.out]; exact HS4.out) HV.out (fun j hj => kv j (.inl hj)) hsv' hlv'
      have HST1 := hid hst.1
      have HST2 := hid hst.2
      have hos := OwnC.set (cap := K) oQ6 k q
      have HOQ2 : Hid (OwnW (w6.setCell ⟨w2.heap.size, k, none⟩ (.int .u32 q)) w2.heap.size w2.heap.size K (qs.set k q)) := hos.1
      have HOU : Hid (OwnW (w6.setCell ⟨w2.heap.size, k, none⟩ (.int .u32 q)) w1.heap.size w1.heap.size (n + 1) vs) := World.ownsRow.kept oV hos.2 (by right; intro e; simp [Value.ownBlock] at e; omega)
      have hb6 : Below w1.heap.size wr w6 := (Below.refl _ _).grown hg6 hbs (fun k hk => by simp at hk; omega)
      have HB6 : Hid (Below w1.heap.size w1 (w6.setCell ⟨w2.heap.size, k, none⟩ (.int .u32 q))) := (HB'.out.trans hb6).setCell (p := ⟨w2.heap.size, k, none⟩) hs2 (.int .u32 q)
      clear oQ6 hlq hsv hlv hsv' hlv' hst hos hb6 hg6 oV kv HNW HOQ' HB' HV HS
      go_wp2_with fail
      go_roundw
      case rel => exact ⟨k, vs, qs.set k q, by omega, by go_num, wv, wq.set _ ⟨q0, q1⟩, HST1, HST2, HOU.out, HOQ2.out, HB6.out⟩
      case measure => simp [intOf]
end Go.Proofs.YtbcangblmadnpacDoor
