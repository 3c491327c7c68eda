/- My texts on the way to RatioTexts, one behind the other: contracts of the program and of the document's answers. -/
import Derived.Test.YtbnhpkelnoolhaaGreatDoorJ2
import Derived.Deep.LoopGhost
import Derived.Deep.RegionHeld3
import Derived.Deep.RegionLaw
import Derived.LoopN
import Derived.Test.YtbnhpkelnoolhaaGreatDoorShelf
import Derived.Lib.ItoaMem
import Derived.Lib.ItoaLen
import Derived.Lib.Walk
/- The document's own long division, whole: slackwaterref01.Over of any two numbers. -/
namespace Go.Proofs.YtbnhpkelnoolhaaGreatDoor
open Go.RowKit
set_option linter.unusedVariables false

theorem grown_set' (w : World) (p : Addr) (v : Value) : w.grownBy (w.setCell p v) (some p.block) :=
  ⟨rfl, rfl, rfl, by simp [World.setCell], fun k _ hne => Below.heap_setCell w p v k (fun e => hne (by rw [e]))⟩

set_option maxHeartbeats 12800000 in
set_option maxRecDepth 100000 in
theorem refOver_long (v u : Value) (xs ys : List Int) (e : Nat) (w : World) (h : Sl w v xs) (g : Sl w u ys) (hn : xs.length ≤ 8200) (hm : ys.length ≤ 8200) (hx : Trimmed xs) (hy : Trimmed ys) (hl : ys.length = e + 2) (hge : val ys ≤ val xs) :
    Calls Tryz.prog 101 #[v, u] w (Ref2 w xs ys) := by
  obtain ⟨i0, hi, hz0, hz1, hz2⟩ := info_parts Tryz.infoW
  have wx := h.wd
  have wy := g.wd
  have hyx := len_of_lt wy hy (L := xs.length) (by have := val_lt wx; omega)
  obtain ⟨s1, s2, s3, s4, s5⟩ := normal wy hy e hl
  have hgap := bits_gap hy e hl s2
  obtain ⟨t, ht⟩ : ∃ t, 32 - Lib.bitLen (ys[e + 1]?.getD 0).toNat = t := ⟨_, rfl⟩
  rw [ht] at s3 s4 s5 hgap
  have HC := hid (refCompare_sl _ _ xs ys w h g (by omega) (by omega))
  obtain ⟨cc, hcc, hcv⟩ : ∃ c, cmpI (val xs) (val ys) = c ∧ (c = 0 ∨ c = 1) := by
    by_cases e : val xs = val ys
    · exact ⟨0, cmpI_eq e, .inl rfl⟩
    · exact ⟨1, cmpI_gt (by omega), .inr rfl⟩
  rw [hcc] at HC
  have HB := hid (refBits_sl _ ys w g (by omega))
  have HSX := hid h
  have HSY := hid g
  have HN := hid (And.intro s4 (And.intro s5 (And.intro hge hl)))
  have hyn : e + 2 ≤ xs.length := by omega
  obtain ⟨a, cap, rfl, hr⟩ := h
  obtain ⟨b, cap', rfl, gr⟩ := g
  rw [hl] at HC HB ⊢
  obtain ⟨B, hB⟩ : ∃ B, bitsOf ys = B := ⟨_, rfl⟩
  rw [hB] at HB hgap
  have hB0 : (B : Int) ≤ 1000000 := by omega
  have HY' : Hid (Sl w (.slice b (e + 2) cap') ys) := by have e1 := HSY.out; rw [hl] at e1; exact e1
  clear hr gr hcc s1 s2 s4 s5 ht hge hl hB HSY hm hyx
  have hnl : ¬ cc < 0 := by omega
  have hc1 : cc ≤ 1 := by omega
  clear hcv
  skip
  · skip
    go_enter Tryz.func101, Tryz.ntmps101
    go_wp2_with fail
    refine Calls.mono HC.out ?_
    rintro x w' ⟨rfl, rfl⟩
    clear HC
    go_wp2_with fail
    refine Calls.mono HB.out ?_
    rintro x wB ⟨rfl, hbB⟩
    have HU1 := hid (refUp_zero _ ys t wB (HY'.out.later hbB) (by have := HN.out.2.2.2; omega) (by have := HN.out.2.2.2; omega) s3)
    have HBB := hid hbB
    clear hbB HB
    go_wp2_with fail
    refine Calls.mono HU1.out ?_
    intro x w1 h1
    obtain ⟨a1, c1, ds, rfl, oD, wD, tD, vD, hb1⟩ := h1.slice
    have hDl : ds.length = e + 2 := by
      have l1 := len_of_lt wD tD (L := e + 2) (by rw [vD]; exact HN.out.1)
      have l2 := len_of_ge wD (L := e + 1) (by
        rw [vD]
        have q1 := HN.out.2.1
        have q2 : (4294967296 : Int) ^ (e + 2) = 4294967296 ^ (e + 1) * 4294967296 := pw_succ (e + 1)
        have q3 := pw_pos (e + 1)
        omega)
      omega
    have hDt := top_one wD e hDl (by rw [vD]; exact HN.out.2.1)
    have HDG : Hid ((4294967296 : Int) ^ (e + 1) ≤ val ds) := by
      show _ ≤ _
      rw [vD]
      have q1 := HN.out.2.1
      have q2 : (4294967296 : Int) ^ (e + 2) = 4294967296 ^ (e + 1) * 4294967296 := pw_succ (e + 1)
      have q3 := pw_pos (e + 1)
      omega
    have HDM : Hid (val ds < 4294967296 ^ (e + 2)) := by show _ < _; rw [vD]; exact HN.out.1
    have HB1 := hid (bt HBB.out hb1)
    have HD := hid (Sl.own oD wD)
    rw [hDl] at HD
    have HU2 := hid (refUp_zero _ xs t w1 (HSX.out.later HB1.out) (by omega) (by omega) s3)
    have HVD := hid vD
    have HDl := hid hDl
    have HDt := hid hDt
    have HWD := hid wD
    rw [hDl]
    clear h1 oD wD tD vD hb1 hDl hDt HU1 HBB
    go_wp2_with fail
    refine Calls.mono HU2.out ?_
    intro x w2 h2
    obtain ⟨a2, c2, ls, rfl, oL, wL, tL, vL, hb2⟩ := h2.slice
    have hLl : e + 2 ≤ ls.length := by
      have := len_of_ge wL (L := e + 1) (by
        rw [vL]
        have q1 := HN.out.2.1
        have q2 : (4294967296 : Int) ^ (e + 2) = 4294967296 ^ (e + 1) * 4294967296 := pw_succ (e + 1)
        have q3 := pw_pos (e + 1)
        have q4 : val ys * 2 ^ t ≤ val xs * 2 ^ t := Int.mul_le_mul_of_nonneg_right HN.out.2.2.1 (Int.le_of_lt (two_pos t))
        omega)
      omega
    have hLm : ls.length ≤ 8201 := len_of_lt wL tL (by
      rw [vL]
      have q1 := val_lt wx
      have q2 : (4294967296 : Int) ^ (xs.length + 1) ≤ 4294967296 ^ 8201 := pw_le (by omega)
      have q3 : (2 : Int) ^ t ≤ 2 ^ 32 := two_le (by omega)
      have q4 : val xs * 2 ^ t ≤ val xs * 2 ^ 32 := Int.mul_le_mul_of_nonneg_left q3 (val_nonneg wx)
      rw [pw_succ] at q2
      generalize (4294967296 : Int) ^ 8201 = Z at *
      generalize (4294967296 : Int) ^ xs.length = Y at *
      have q5 : (2 : Int) ^ 32 = 4294967296 := by decide
      rw [q5] at q4
      omega)
    have hs2 := hb2.size
    have HVL := hid vL
    have HB2 := hid hb2
    have HWL := hid wL
    have oL' := oL
    obtain ⟨R, hR⟩ : ∃ R, R = ls.map (Value.int .u32) := ⟨_, rfl⟩
    obtain ⟨L, hL⟩ : ∃ L, ls.length = L := ⟨_, rfl⟩
    rw [← hR, hL] at oL
    rw [hL] at hLl hLm ⊢
    have HRL : Hid (R ++ [.int .u32 0] = (ls ++ [0]).map (Value.int .u32)) := by show _ = _; rw [hR]; simp
    have HLL := hid hL
    clear h2 oL' vL hb2 HU2 hR hL tL wL
    go_wp2_with (at_builtin; refine wpList_append_own _ rfl _ _ 22 rfl w1.heap.size 40 i0 (.int .u32 0) 1 4 Tryz.underlying22 hi hz0 hz1 hz2 rfl (by decide) _ _ _ rfl (oL.alloc _) ⟨w2.heap.size, 0, none⟩ 1 1 [.int .u32 0] rfl rfl (cell_one_new _ _ _) (by simp [Value.oneCell']) (by unfold maxLen; omega) (by omega) (by simp; omega) ?_)
    intro v3 w3 o3 hg3 _
    have hb3 : Below w1.heap.size w1 w3 := (HB2.out.alloc (by omega) _).grown hg3 (by simp; omega) (fun g hg => (oL.lt g hg).1)
    clear hg3 oL
    rw [HRL.out] at o3
    obtain ⟨gR, cR, hv3, gb, gl, cl, cm⟩ := own_shape0 o3 (by omega)
    subst hv3
    obtain ⟨K, hK1, hK2⟩ : ∃ K, L + 1 ≤ K + (e + 2) ∧ K + (e + 2) ≤ L + 1 := ⟨L + 1 - (e + 2), by omega, by omega⟩
    have HO3 : Hid (OwnC w3 w1.heap.size gR (L + 1) cR (ls ++ [0])) := o3
    have HB3 := hid hb3
    have hs3 := hb3.size
    have hKi : ((L : Int) + 1 - ((e : Int) + 2)) = (K : Int) := by omega
    clear o3 hb3 HRL
    go_wp2_with (at_make; refine wpList_make_full _ rfl _ _ 22 rfl w3.heap.size 40 i0 (.int .u32 0) 1 Tryz.underlying22 hi hz0 hz1 _ _ _ _ K rfl rfl (by omega) (by omega) (by rw [hz2]; omega) (by unfold maxLen; omega) (Nat.le_refl _) ?_)
    intro w4 hown hgrow
    have hbel4 : Below w3.heap.size w3 w4 := (Below.refl _ _).grown hgrow (Nat.le_refl _) (fun k hk => by simp at hk)
    have HOQ := hid (OwnW.made hown)
    have HB4 := hid hbel4
    clear hown hgrow hbel4
    go_wp2_with fail
    go_loopw [12] (fun z wr => ∃ (k : Nat) (us qs : List Int), k ≤ K ∧ z = .int .i64 ((k : Int) - 1) ∧ Wd us ∧ Wd qs ∧ Hid (val ls = valTo us (k + (e + 2)) + segTo qs k (K - k) * val ds * 4294967296 ^ k) ∧ Hid (segTo us k (e + 2) < val ds) ∧ Hid (∀ j, k + (e + 2) ≤ j → us[j]?.getD 0 = 0) ∧
      OwnC wr w1.heap.size gR (L + 1) cR us ∧ OwnW wr w3.heap.size w3.heap.size K qs ∧ Below w1.heap.size w1 wr) (fun z _ => (intOf z + 1).toNat)
    case atStart =>
      have hl0 : (ls ++ [0]).length = L + 1 := by rw [List.length_append, HLL.out]; rfl
      have hw0 : Wd (ls ++ [0]) := HWL.out.append (Wd.one (by omega))
      have hz0' : (ls ++ [0])[K + (e + 1)]?.getD 0 = 0 := by
        rw [List.getElem?_append, if_neg (by have := HLL.out; omega), show K + (e + 1) - ls.length = 0 by have := HLL.out; omega]; rfl
      refine ⟨K, ls ++ [0], List.replicate K 0, Nat.le_refl _, rfl, hw0, Wd.replicate _, ?_, ?_, ?_, owns_later HO3.out HB4.out, HOQ.out, HB3.out.trans (HB4.out.mono hs3)⟩
      · show _ = _
        rw [valTo_stable _ _ (by rw [hl0]; omega), val_snoc_zero, Nat.sub_self]
        simp [segTo]
      · show _ < _
        have q1 := (segTo_bounds hw0 K (e + 1)).2
        have q2 := HDG.out
        rw [show e + 2 = e + 1 + 1 by omega, segTo_succ, hz0', Int.zero_mul]
        omega
      · intro j hj
        rw [List.getElem?_eq_none (by rw [hl0]; omega)]; rfl
    case round =>
      obtain ⟨k, us, qs, hk, rfl, wu, wq, HV, HS, HZ, oU, oQ, hb⟩ := hrel
      have hbs := hb.size
      have hqb := oQ.base
      have hub := (World.ownsRow.lt oU gR rfl)
      have hlu := oU.len
      have hlq := oQ.len
      rcases k with _ | k
      · have hval : val us = valTo us (e + 2) := by
          have e1 : ∀ m, e + 2 ≤ m → valTo us m = valTo us (e + 2) := fun m hm => by
            induction m with
            | zero => omega
            | succ m ih =>
              by_cases c : e + 2 = m + 1
              · rw [c]
              · rw [valTo_succ, HZ.out m (by omega), ih (by omega)]; omega
          rw [← valTo_stable us (L + 1) (by omega)]
          exact e1 (L + 1) (by omega)
        have HF : Hid (val xs = val qs * val ys + val us / 2 ^ t ∧ val us / 2 ^ t < val ys) := by
          have e1 := HV.out
          have e2 := HS.out
          rw [segTo_zero, ← hval] at e2
          rw [segTo_zero, Nat.zero_add, Nat.sub_zero, valTo_stable qs K (by omega), Int.pow_zero, Int.mul_one, HVL.out, HVD.out, ← hval, ← Int.mul_assoc] at e1
          rw [HVD.out] at e2
          have hp := two_pos t
          have e3 : val us = (val xs - val qs * val ys) * 2 ^ t := by rw [Int.sub_mul]; omega
          have e4 : val us / 2 ^ t = val xs - val qs * val ys := by rw [e3]; exact Int.mul_ediv_cancel _ (by omega)
          refine ⟨by rw [e4]; omega, Int.ediv_lt_of_lt_mul hp e2⟩
        have hsQ : Sl wr (.slice (some ⟨w3.heap.size, 0, none⟩) K K) qs := by
          have e1 := Sl.own oQ wq
          exact e1
        have HTQ := hid (refTrim_sl _ qs wr hsQ (by omega))
        have HUO := hid oU
        have HBW : Hid (Below w.heap.size w wr) := HB1.out.trans (hb.mono HB1.out.size)
        clear HV HS HZ oU oQ hsQ hval hb
        go_wp2_with fail
        refine Calls.mono HTQ.out ?_
        rintro x w5 ⟨v5, rfl, o5, hb5⟩
        have HT5 := hid (And.intro o5 hb5)
        have HTR := hid (refTrim_sl _ us w5 (Sl.own (owns_later HUO.out hb5) wu) (by omega))
        clear o5 hb5 HTQ
        go_wp2_with fail
        refine Calls.mono HTR.out ?_
        rintro x w6 ⟨v6, rfl, o6, hb6⟩
        have HDN := hid (refDown_zero v6 (trimmed us) t w6 (Sl.own o6 wu.trimmed) (by rw [length_trimmed]; have := sz_le us; omega) s3)
        rw [val_trimmed] at HDN
        have HB6 := hid hb6
        clear o6 hb6 HTR
        go_wp2_with fail
        refine Calls.mono HDN.out ?_
        rintro x w7 ⟨v7, rs, rfl, o7, w7', t7, hv7, hb7⟩
        have HE := hid (And.intro o7 (And.intro hv7 hb7))
        clear o7 hv7 hb7 HDN
        go_wp2_with fail
        go_ret2
        have hb57 := bt HB6.out HE.out.2.2
        have hb07 := bt HBW.out (bt HT5.out.2 hb57)
        refine ⟨v5, _, v7, rs, rfl, owns_base (owns_len (owns_later HT5.out.1 hb57)) HBW.out.size, owns_base HE.out.1 (by have := HBW.out.size; have := HT5.out.2.size; have := HB6.out.size; omega), wq.trimmed, w7', Trimmed.trimmed _, t7, ?_, ?_, hb07⟩
        · rw [val_trimmed, HE.out.2.1]; exact HF.out.1
        · rw [HE.out.2.1]; exact HF.out.2
      · have ek : (((k + 1 : Nat) : Int) - 1) = (k : Int) := by omega
        rw [ek]
        clear ek
        have hs1 : segTo us k (e + 2 + 1) < 4294967296 * val ds := by
          have b0 := wu.at k
          have q := HS.out
          rw [segTo_cons]
          omega
        have HDG2 := hid (refDigit_any w1.heap.size gR (L + 1) cR k (e + 1) (cR - k) us a1 c1 ds wr oU wu (by omega) (by omega) (by omega) (by omega) (HD.out.later hb) HDl.out HDt.out hs1)
        have HOQ2 := hid oQ
        have HB5 := hid hb
        have hck : ¬ cR = k := by omega
        have HLS := hid (fun vs q wv => long_step us vs qs (e + 2) K k (val ls) (val ds) q (by omega) hlq wv HDM.out HV.out)
        have HZ2 := hid HZ.out
        clear oU oQ hb hs1 HV HS HZ
        go_wp2_with fail
        rw [show k + (e + 2) + 1 - k = e + 1 + 2 by omega]
        refine Calls.mono HDG2.out ?_
        rintro x w5 ⟨q, vs, rfl, q0, q1, oV, wv, kV, sV, ltV, gV⟩
        have hnq : (w3.heap.size : Nat) ≠ gR := by omega
        have oQ5 : OwnW w5 w3.heap.size w3.heap.size K qs := World.ownsRow.kept HOQ2.out gV (.inr (fun e => hnq (Option.some.inj e)))
        have y1 := oQ5.cell k (by omega)
        have f1 := oQ5.free k
        have HQ6 := hid (oQ5.set k q)
        have HR6 : Hid (OwnC (w5.setCell ⟨w3.heap.size, k, none⟩ (.int .u32 q)) w1.heap.size gR (L + 1) cR vs) := World.ownsRow.kept oV (grown_set' w5 ⟨w3.heap.size, k, none⟩ (.int .u32 q)) (.inr (fun e => hnq (Option.some.inj e).symm))
        have HB6 : Hid (Below w1.heap.size w1 (w5.setCell ⟨w3.heap.size, k, none⟩ (.int .u32 q))) := (HB5.out.grown gV hbs (fun g hg => by have := Option.some.inj hg; omega)).setCell (p := ⟨w3.heap.size, k, none⟩) hs3 _
        obtain ⟨r1, r2⟩ := HLS.out vs q wv (fun j hj => kV j (.inl hj)) sV ltV
        have HR := hid (And.intro r1 r2)
        have HZN : Hid (∀ j, k + (e + 2) ≤ j → vs[j]?.getD 0 = 0) := fun j hj => by
          by_cases c : j = k + (e + 2)
          · rw [c]; exact seg_end wv k (e + 2) HDM.out ltV
          · rw [kV j (.inr (by omega))]; exact HZ2.out j (by omega)
        clear oV kV sV ltV gV oQ5 r1 r2 HLS HZ2 HDG2
        go_wp2_with fail
        go_roundw
        case rel => exact ⟨k, vs, qs.set k q, by omega, rfl, wv, wq.set k ⟨q0, q1⟩, HR.out.1, HR.out.2, HZN, HR6.out, HQ6.out, HB6.out⟩
        case measure => simp [intOf]

theorem refOver_any (v u : Value) (xs ys : List Int) (w : World) (h : Sl w v xs) (g : Sl w u ys) (hn : xs.length ≤ 8200) (hm : ys.length ≤ 8200) (hx : Trimmed xs) (hy : Trimmed ys) (h0 : 0 < ys.length) :
    Calls Tryz.prog 101 #[v, u] w (Ref2 w xs ys) := by
  by_cases hlt : val xs < val ys
  · exact refOver_less v u xs ys w h g hn hm hlt
  · by_cases h1 : ys.length = 1
    · obtain ⟨y, rfl⟩ := List.length_eq_one_iff.1 h1
      have hy1 : 1 ≤ y := by
        have b := g.wd.head
        by_cases c : y = 0
        · subst c; exact absurd hy (by unfold Trimmed; decide)
        · omega
      rw [val_one] at hlt
      exact refOver_word v u xs y w h g hn hy1 (by omega)
    · exact refOver_long v u xs ys (ys.length - 2) w h g hn hm hx hy (by omega) (by omega)
end Go.Proofs.YtbnhpkelnoolhaaGreatDoor

/- The document's own greatest common divisor: slackwaterref01.Common. -/
namespace Go.Proofs.YtbnhpkelnoolhaaGreatDoor
open Go.RowKit
set_option linter.unusedVariables false

set_option maxHeartbeats 3200000 in
set_option maxRecDepth 100000 in
theorem refCommon_any (v u : Value) (xs ys : List Int) (w : World) (h : Sl w v xs) (g : Sl w u ys) (hn : xs.length ≤ 8200) (hm : ys.length ≤ 8200) (hx : Trimmed xs) (hy : Trimmed ys) :
    Calls Tryz.prog 73 #[v, u] w (Ref1 w (gcdI (val xs) (val ys))) := by
  have HS := hid (And.intro h g)
  obtain ⟨a, cap, rfl, hr⟩ := h
  obtain ⟨b, cap', rfl, gr⟩ := g
  clear hr gr
  go_enter Tryz.func73, Tryz.ntmps73
  go_wp2_with fail
  go_loopg [0, 1] (val ys).toNat (fun k s0 s1 wr => ∃ (a : Option Addr) (c : Nat) (us : List Int) (b : Option Addr) (d : Nat) (vs : List Int), s0 = .slice a us.length c ∧ s1 = .slice b vs.length d ∧ us.length ≤ 8200 ∧ vs.length ≤ 8200 ∧ Hid (Sl wr (.slice a us.length c) us ∧ Sl wr (.slice b vs.length d) vs ∧ Trimmed us ∧ Trimmed vs ∧ (k : Int) = val vs ∧ gcdI (val us) (val vs) = gcdI (val xs) (val ys)) ∧ Below w.heap.size w wr)
  case atStart => exact ⟨a, cap, xs, b, cap', ys, rfl, rfl, hn, hm, ⟨HS.out.1, HS.out.2, hx, hy, by have := val_nonneg HS.out.2.wd; omega, rfl⟩, Below.refl _ _⟩
  case round =>
    obtain ⟨a1, c1, us, b1, d1, vs, rfl, rfl, lu, lv, HR, hb⟩ := hrel
    by_cases h0 : vs.length = 0
    · have HF : Hid (val us = gcdI (val xs) (val ys)) := by
        have e1 : vs = [] := List.eq_nil_of_length_eq_zero h0
        have e2 := HR.out.2.2.2.2.2
        rw [e1, val_nil, gcdI_zero _ (val_nonneg HR.out.1.wd)] at e2
        exact e2
      have HT := hid (refTrim_sl _ us wr HR.out.1 (by omega))
      have HW := hid HR.out.1.wd
      rw [h0]
      clear HR HS h0 lv
      go_wp2_with fail
      refine Calls.mono HT.out ?_
      rintro e w3 ⟨v3, rfl, o3, hb3⟩
      have HO3 := hid (owns_base (owns_len o3) hb.size)
      have hbF := bt hb hb3
      clear o3 hb3
      go_wp2_with fail
      go_ret
      exact ⟨v3, _, rfl, HO3.out, HW.out.trimmed, Trimmed.trimmed _, by rw [val_trimmed]; exact HF.out, hbF⟩
    · have hpos : (0 : Int) < (vs.length : Int) := by omega
      have HO := hid (refOver_any _ _ us vs wr HR.out.1 HR.out.2.1 lu lv HR.out.2.2.1 HR.out.2.2.2.1 (by omega))
      have HB := hid hb
      clear hb HS
      go_wp2_with fail
      refine Calls.mono HO.out ?_
      rintro e w2 ⟨v2, zs, v3, rs, rfl, o2, o3, wz, wr', tz, tr, hv, hlt, hb2⟩
      obtain ⟨a3, c3, hs⟩ := own_slice' o3
      subst hs
      have lr : rs.length ≤ 8200 := by
        have := len_of_lt wr' tr (L := vs.length) (by have := val_lt HR.out.2.1.wd; omega)
        omega
      have HN : Hid (Sl w2 (.slice b1 vs.length d1) vs ∧ Sl w2 (.slice a3 rs.length c3) rs ∧ Trimmed vs ∧ Trimmed rs ∧ ((val rs).toNat : Int) = val rs ∧ gcdI (val vs) (val rs) = gcdI (val xs) (val ys)) :=
        ⟨HR.out.2.1.later hb2, Sl.own o3 wr', HR.out.2.2.2.1, tr, by have := val_nonneg wr'; omega, by rw [← HR.out.2.2.2.2.2]; exact (gcdI_rest hv).symm⟩
      have HM : Hid ((val rs).toNat < (val vs).toNat) := by have := val_nonneg wr'; show _ < _; omega
      have HBN := hid (bt HB.out hb2)
      have HKK := hid HR.out.2.2.2.2.1
      clear o2 o3 hv hlt hb2 HR HO HB
      go_wp2_with fail
      go_roundg (val rs).toNat
      case rel => exact ⟨b1, d1, vs, a3, c3, rs, rfl, rfl, lv, lr, HN, HBN.out⟩
      case measure => have := HM.out; have := HKK.out; omega
end Go.Proofs.YtbnhpkelnoolhaaGreatDoor

/- The document's told: a number, if it is not too long. -/
namespace Go.Proofs.YtbnhpkelnoolhaaGreatDoor
open Go.RowKit
set_option linter.unusedVariables false

set_option maxHeartbeats 800000 in
set_option maxRecDepth 100000 in
theorem refTold_ok (a : Option Addr) (n c : Nat) (w : World) (h : n ≤ 8192) :
    Calls Tryz.prog 72 #[.slice a n c] w fun e w' => e = .returned (.tuple #[.slice a n c, .int .i64 0]) ∧ w = w' := by
  have h' : ¬ (8192 : Int) < (n : Int) := by omega
  go_enter Tryz.func72, Tryz.ntmps72
  go_wp2_with fail
  go_ret2
  exact ⟨rfl, rfl⟩
set_option maxHeartbeats 800000 in
set_option maxRecDepth 100000 in
theorem refTold_long (a : Option Addr) (n c : Nat) (w : World) (h : 8192 < n) :
    Calls Tryz.prog 72 #[.slice a n c] w fun e w' => e = .returned (.tuple #[.slice none 0 0, .int .i64 3]) ∧ w = w' := by
  have h' : (8192 : Int) < (n : Int) := by omega
  go_enter Tryz.func72, Tryz.ntmps72
  go_wp2_with fail
  go_ret2
  exact ⟨rfl, rfl⟩
theorem trimmed_wide {zs : List Int} {t : Int} (hw : Wd zs) (ht : Trimmed zs) (hv : val zs = t) : 8192 < zs.length ↔ wide ≤ t := by
  rw [← hv, ← wide_iff hw]
  have e : sz zs = zs.length := ht
  rw [e]
end Go.Proofs.YtbnhpkelnoolhaaGreatDoor

/- The document's own calls that may refuse: slackwaterref01.both, told, Add, Sub, Mul, DivMod, Gcd: of every two lists that can be read. -/
namespace Go.Proofs.YtbnhpkelnoolhaaGreatDoor
open Go.RowKit
set_option linter.unusedVariables false

set_option maxHeartbeats 800000 in
set_option maxRecDepth 100000 in
theorem refBoth_sl (v u : Value) (xs ys : List Int) (w : World) (h : Sl w v xs) (g : Sl w u ys) (hn : xs.length ≤ 281474976710656) (hm : ys.length ≤ 281474976710656) :
    Calls Tryz.prog 71 #[v, u] w fun e w' => e = .returned (.int .i64 (both xs ys)) ∧ w = w' := by
  have H1 := hid (refCheck_sl v xs w h hn)
  have H2 := hid (refCheck_sl u ys w g hm)
  by_cases hc : chk xs = 0
  · have HE : Hid (both xs ys = chk ys) := by show _ = _; unfold both; rw [if_pos hc]
    rw [hc] at H1
    clear h g hc
    go_enter Tryz.func71, Tryz.ntmps71
    go_wp2_with fail
    refine Calls.mono H1.out ?_
    rintro e w1 ⟨rfl, rfl⟩
    go_wp2_with fail
    refine Calls.mono H2.out ?_
    rintro e w1 ⟨rfl, rfl⟩
    go_wp2_with fail
    go_ret
    exact ⟨ret_int HE.out.symm, rfl⟩
  · have HE : Hid (both xs ys = chk xs) := by show _ = _; unfold both; rw [if_neg hc]
    have hc' : (chk xs == 0) = false := by simpa using hc
    clear h g hc
    go_enter Tryz.func71, Tryz.ntmps71
    go_wp2_with fail
    refine Calls.mono H1.out ?_
    rintro e w1 ⟨rfl, rfl⟩
    go_wp2_with fail
    go_ret
    exact ⟨ret_int HE.out.symm, rfl⟩
set_option maxHeartbeats 1600000 in
set_option maxRecDepth 100000 in
theorem refGcd_sl (v u : Value) (xs ys : List Int) (w : World) (h : Sl w v xs) (g : Sl w u ys) (hn : xs.length ≤ 281474976710656) (hm : ys.length ≤ 281474976710656) :
    Calls Tryz.prog 40 #[v, u] w (Told w (both xs ys) (gcdI (val xs) (val ys))) := by
  by_cases hb : both xs ys = 0
  · have HB := hid (refBoth_sl v u xs ys w h g hn hm)
    rw [hb] at HB
    obtain ⟨k1, k2⟩ := both_ok hb
    obtain ⟨lx, tx⟩ := chk_ok k1
    obtain ⟨ly, ty⟩ := chk_ok k2
    have HP := hid (refCommon_any v u xs ys w h g (by omega) (by omega) tx ty)
    rw [hb]
    clear h g hb k1 k2
    go_enter Tryz.func40, Tryz.ntmps40
    go_wp2_with fail
    refine Calls.mono HB.out ?_
    rintro e w1 ⟨rfl, rfl⟩
    go_wp2_with fail
    refine Calls.mono HP.out ?_
    intro e w2 h2
    obtain ⟨a2, c2, zs, rfl, o2, wz, tz, vz, hb2⟩ := h2.slice
    have hwd := trimmed_wide wz tz vz
    have HR := hid (And.intro o2 (And.intro wz (And.intro tz (And.intro vz (And.intro hwd hb2)))))
    by_cases hlen : 8192 < zs.length
    · have HT := hid (refTold_long a2 zs.length c2 w2 hlen)
      have HL := hid (hwd.1 hlen)
      clear h2 o2 wz tz vz hwd hb2 hlen
      go_wp2_with fail
      refine Calls.mono HT.out ?_
      rintro e w3 ⟨rfl, rfl⟩
      go_wp2_with fail
      go_ret2
      exact ⟨_, [], 3, rfl, World.ownsRow_nil _ _ _ _, Tells.tooLong HL.out, HR.out.2.2.2.2.2⟩
    · have HT := hid (refTold_ok a2 zs.length c2 w2 (by omega))
      have HL := hid (Int.not_le.1 fun h => hlen (hwd.2 h))
      clear h2 o2 wz tz vz hwd hb2 hlen
      go_wp2_with fail
      refine Calls.mono HT.out ?_
      rintro e w3 ⟨rfl, rfl⟩
      go_wp2_with fail
      go_ret2
      exact ⟨_, zs, 0, rfl, HR.out.1, Tells.ok HR.out.2.1 HR.out.2.2.1 HR.out.2.2.2.1 HL.out, HR.out.2.2.2.2.2⟩
  · have HB := hid (refBoth_sl v u xs ys w h g hn hm)
    have hb' : (both xs ys == 0) = false := by simpa using hb
    have HE := hid hb
    clear h g hb
    go_enter Tryz.func40, Tryz.ntmps40
    go_wp2_with fail
    refine Calls.mono HB.out ?_
    rintro e w1 ⟨rfl, rfl⟩
    go_wp2_with fail
    go_ret2
    exact ⟨_, [], _, rfl, World.ownsRow_nil _ _ _ _, Tells.err HE.out, Below.refl _ _⟩

set_option maxHeartbeats 1600000 in
set_option maxRecDepth 100000 in
theorem refDivMod_any (v u : Value) (xs ys : List Int) (w : World) (h : Sl w v xs) (g : Sl w u ys) (lx : xs.length ≤ 8192) (ly : ys.length ≤ 8192) (tx : Trimmed xs) (ty : Trimmed ys) (h0 : 0 < ys.length) :
    Calls Tryz.prog 103 #[v, u] w fun e w' => ∃ v1 u1 q r, e = .returned (.tuple #[v1, u1, .int .i64 0]) ∧ w'.ownsRow w.heap.size 40 1 v1 q.length (q.map (Value.int .u32)) ∧ w'.ownsRow w.heap.size 40 1 u1 r.length (r.map (Value.int .u32)) ∧ Wd q ∧ Wd r ∧ Trimmed q ∧ Trimmed r ∧ val xs = val q * val ys + val r ∧ val r < val ys ∧ Below w.heap.size w w' := by
  have HB := hid (refBoth_sl v u xs ys w h g (by omega) (by omega))
  have HP := hid (refOver_any v u xs ys w h g (by omega) (by omega) tx ty h0)
  rw [both_good (chk_good lx tx) (chk_good ly ty)] at HB
  obtain ⟨a, cap, rfl, hr⟩ := h
  obtain ⟨b, cap', rfl, gr⟩ := g
  have h1 : ((ys.length : Int) == 0) = false := by simp; exact fun e => by rw [e] at h0; simp at h0
  clear hr gr
  go_enter Tryz.func103, Tryz.ntmps103
  go_wp2_with fail
  refine Calls.mono HB.out ?_
  rintro e w1 ⟨rfl, rfl⟩
  go_wp2_with fail
  refine Calls.mono HP.out ?_
  rintro e w2 ⟨v2, zs, v3, rs, rfl, o2, o3, wz, wr', tz, tr, hv, hlt, hb2⟩
  have HR := hid (And.intro o2 (And.intro o3 (And.intro hv (And.intro hlt hb2))))
  clear o2 o3 hv hlt hb2 HP HB
  go_wp2_with fail
  go_ret3
  exact ⟨v2, v3, zs, rs, rfl, HR.out.1, HR.out.2.1, wz, wr', tz, tr, HR.out.2.2.1, HR.out.2.2.2.1, HR.out.2.2.2.2⟩
set_option maxHeartbeats 1600000 in
set_option maxRecDepth 100000 in
theorem refDivMod_err (v u : Value) (xs ys : List Int) (w : World) (h : Sl w v xs) (g : Sl w u ys) (hn : xs.length ≤ 281474976710656) (hm : ys.length ≤ 281474976710656) (hb : both xs ys ≠ 0) :
    Calls Tryz.prog 103 #[v, u] w fun e w' => e = .returned (.tuple #[.slice none 0 0, .slice none 0 0, .int .i64 (both xs ys)]) ∧ w = w' := by
  have HB := hid (refBoth_sl v u xs ys w h g hn hm)
  have hb' : (both xs ys == 0) = false := by simpa using hb
  have HE := hid hb
  clear h g hb
  go_enter Tryz.func103, Tryz.ntmps103
  go_wp2_with fail
  refine Calls.mono HB.out ?_
  rintro e w1 ⟨rfl, rfl⟩
  go_wp2_with fail
  go_ret3
  exact ⟨rfl, rfl⟩
set_option maxHeartbeats 1600000 in
set_option maxRecDepth 100000 in
theorem refDivMod_zero (v u : Value) (xs : List Int) (w : World) (h : Sl w v xs) (g : Sl w u []) (hn : xs.length ≤ 281474976710656) (hb : both xs [] = 0) :
    Calls Tryz.prog 103 #[v, u] w fun e w' => e = .returned (.tuple #[.slice none 0 0, .slice none 0 0, .int .i64 7]) ∧ w = w' := by
  have HB := hid (refBoth_sl v u xs [] w h g hn (by simp))
  rw [hb] at HB
  obtain ⟨a, cap, rfl, hr⟩ := h
  obtain ⟨b, cap', rfl, gr⟩ := g
  have hl0 : List.length ([] : List Int) = 0 := rfl
  rw [hl0] at HB ⊢
  clear hr gr hl0
  go_enter Tryz.func103, Tryz.ntmps103
  go_wp2_with fail
  refine Calls.mono HB.out ?_
  rintro e w1 ⟨rfl, rfl⟩
  go_wp2_with fail
  go_ret3
  exact ⟨rfl, rfl⟩
end Go.Proofs.YtbnhpkelnoolhaaGreatDoor

/- A struct variable that is written: what lies elsewhere stays. -/
namespace Go.Proofs.YtbnhpkelnoolhaaGreatDoor
open Go.RowKit
set_option linter.unusedVariables false

theorem Sl.put2 {U : World} {v : Value} {xs : List Int} {b t : Nat} {n : Bool} {a : Option Addr} {k c : Nat} (h : Sl U v xs) (hb : Box U b t #[.bool n, .slice a k c]) (v0 v1 : Value) : Sl ((U.setCell ⟨b, 0, none⟩ v0).setCell ⟨b, 1, none⟩ v1) v xs := by
  obtain ⟨a', cap, rfl, h1, h2, h3, h4⟩ := h
  refine ⟨a', cap, rfl, h1, h2, ?_, h4⟩
  rcases h3 with h0 | ⟨bb, o, rfl, hlt, hc⟩
  · exact .inl h0
  · by_cases hl : xs.length = 0
    · exact .inl hl
    · right
      have hne : bb ≠ b := fun e => by
        subst e
        have e1 := hc 0 (by omega)
        rw [Nat.add_zero, hb.cell o] at e1
        match o with
        | 0 => simp at e1
        | 1 => simp at e1
        | o + 2 => simp at e1
      refine ⟨bb, o, rfl, by simpa [World.setCell] using hlt, fun j hj => ?_⟩
      have e1 := World.cell?_of_block (w := U) (w' := U.setCell ⟨b, 0, none⟩ v0) (a := ⟨bb, o + j, none⟩) (Below.heap_setCell U ⟨b, 0, none⟩ v0 bb hne)
      have e2 := World.cell?_of_block (w := U.setCell ⟨b, 0, none⟩ v0) (w' := (U.setCell ⟨b, 0, none⟩ v0).setCell ⟨b, 1, none⟩ v1) (a := ⟨bb, o + j, none⟩) (Below.heap_setCell _ ⟨b, 1, none⟩ v1 bb hne)
      rw [e2, e1]
      exact hc j hj
theorem Box.put2 {U : World} {b t : Nat} {u0 u1 : Value} (h : Box U b t #[u0, u1]) (v0 v1 : Value) : Box ((U.setCell ⟨b, 0, none⟩ v0).setCell ⟨b, 1, none⟩ v1) b t #[v0, v1] := (h.set 0 v0).set 1 v1
theorem Box.far2 {U : World} {b t b' : Nat} {vs : Array Value} (h : Box U b t vs) (hne : b ≠ b') (v0 v1 : Value) : Box ((U.setCell ⟨b', 0, none⟩ v0).setCell ⟨b', 1, none⟩ v1) b t vs := (h.other ⟨b', 0, none⟩ v0 hne).other ⟨b', 1, none⟩ v1 hne
theorem own_ne_box {U : World} {base e n b t : Nat} {v : Value} {xs : List Value} {vs : Array Value} (h : U.ownsRow base e 1 v n xs) (hb : Box U b t vs) (hne : e ≠ t) : ∀ g, v.ownBlock = some g → g ≠ b := fun g hg => by
  rcases h.2 with ⟨rfl, _⟩ | ⟨g1, c1, u1, rfl, _, hg1, _⟩
  · simp [Value.ownBlock] at hg
  · simp [Value.ownBlock] at hg
    subst hg
    intro e1
    subst e1
    unfold Box at hb
    rw [hg1] at hb
    simp at hb
    exact hne hb.2
/-- A whole number in memory that may be, in new memory. -/
structure Pb (U : World) (base b : Nat) (n : Bool) (a : Option Addr) (c : Nat) (zs : List Int) : Prop where
  box : Box U b 49 #[.bool n, .slice a zs.length c]
  own : U.ownsRow base 40 1 (.slice a zs.length c) zs.length (zs.map (Value.int .u32))
  wd : Wd zs
  ok : wchk n zs = 0
/-- A whole number in memory that may be. -/
structure Ab (U : World) (b : Nat) (n : Bool) (a : Option Addr) (c : Nat) (xs : List Int) : Prop where
  box : Box U b 49 #[.bool n, .slice a xs.length c]
  sl : Sl U (.slice a xs.length c) xs
  ok : wchk n xs = 0
theorem Pb.later {U V : World} {base b : Nat} {n : Bool} {a : Option Addr} {c : Nat} {zs : List Int} (h : Pb U base b n a c zs) (hb : Below U.heap.size U V) : Pb V base b n a c zs := ⟨h.box.later hb h.box.lt, owns_later h.own hb, h.wd, h.ok⟩
theorem Ab.later {U V : World} {b : Nat} {n : Bool} {a : Option Addr} {c : Nat} {zs : List Int} (h : Ab U b n a c zs) (hb : Below U.heap.size U V) : Ab V b n a c zs := ⟨h.box.later hb h.box.lt, h.sl.later hb, h.ok⟩
theorem Pb.far {U : World} {base b : Nat} {n : Bool} {a : Option Addr} {c : Nat} {zs : List Int} (h : Pb U base b n a c zs) {b' : Nat} {n' : Bool} {a' : Option Addr} {k' c' : Nat} (hb : Box U b' 49 #[.bool n', .slice a' k' c']) (hne : b ≠ b') (v0 v1 : Value) : Pb ((U.setCell ⟨b', 0, none⟩ v0).setCell ⟨b', 1, none⟩ v1) base b n a c zs :=
  ⟨h.box.far2 hne v0 v1, own_put2 h.own b' (own_ne_box h.own hb (by decide)) v0 v1, h.wd, h.ok⟩
theorem Ab.far {U : World} {b : Nat} {n : Bool} {a : Option Addr} {c : Nat} {zs : List Int} (h : Ab U b n a c zs) {b' : Nat} {n' : Bool} {a' : Option Addr} {k' c' : Nat} (hb : Box U b' 49 #[.bool n', .slice a' k' c']) (hne : b ≠ b') (v0 v1 : Value) : Ab ((U.setCell ⟨b', 0, none⟩ v0).setCell ⟨b', 1, none⟩ v1) b n a c zs :=
  ⟨h.box.far2 hne v0 v1, h.sl.put2 hb v0 v1, h.ok⟩
theorem Pb.put {U : World} {base b : Nat} {n' : Bool} {a' : Option Addr} {k' c' : Nat} (hb : Box U b 49 #[.bool n', .slice a' k' c']) {n : Bool} {a : Option Addr} {c : Nat} {zs : List Int} (ho : U.ownsRow base 40 1 (.slice a zs.length c) zs.length (zs.map (Value.int .u32))) (hw : Wd zs) (hk : wchk n zs = 0) :
    Pb ((U.setCell ⟨b, 0, none⟩ (.bool n)).setCell ⟨b, 1, none⟩ (.slice a zs.length c)) base b n a c zs := ⟨hb.put2 _ _, own_put2 ho b (own_ne_box ho hb (by decide)) _ _, hw, hk⟩
theorem Ab.put {U : World} {b : Nat} {n' : Bool} {a' : Option Addr} {k' c' : Nat} (hb : Box U b 49 #[.bool n', .slice a' k' c']) {n : Bool} {a : Option Addr} {c : Nat} {zs : List Int} (hs : Sl U (.slice a zs.length c) zs) (hk : wchk n zs = 0) :
    Ab ((U.setCell ⟨b, 0, none⟩ (.bool n)).setCell ⟨b, 1, none⟩ (.slice a zs.length c)) b n a c zs := ⟨hb.put2 _ _, hs.put2 hb _ _, hk⟩
theorem Pb.c {U : World} {base b : Nat} {n : Bool} {a : Option Addr} {c : Nat} {zs : List Int} (h : Pb U base b n a c zs) : U.cell? ⟨b, 0, none⟩ = some (.bool n) ∧ U.cell? ⟨b, 1, none⟩ = some (.slice a zs.length c) ∧ U.frozen? ⟨b, 0, none⟩ = false ∧ U.frozen? ⟨b, 1, none⟩ = false := ⟨h.box.cell 0, h.box.cell 1, h.box.free 0, h.box.free 1⟩
theorem Ab.c {U : World} {b : Nat} {n : Bool} {a : Option Addr} {c : Nat} {zs : List Int} (h : Ab U b n a c zs) : U.cell? ⟨b, 0, none⟩ = some (.bool n) ∧ U.cell? ⟨b, 1, none⟩ = some (.slice a zs.length c) ∧ U.frozen? ⟨b, 0, none⟩ = false ∧ U.frozen? ⟨b, 1, none⟩ = false := ⟨h.box.cell 0, h.box.cell 1, h.box.free 0, h.box.free 1⟩
theorem Box.c2 {U : World} {b t : Nat} {u0 u1 : Value} (h : Box U b t #[u0, u1]) : U.cell? ⟨b, 0, none⟩ = some u0 ∧ U.cell? ⟨b, 1, none⟩ = some u1 ∧ U.frozen? ⟨b, 0, none⟩ = false ∧ U.frozen? ⟨b, 1, none⟩ = false := ⟨h.cell 0, h.cell 1, h.free 0, h.free 1⟩
theorem wchk_one {n : Bool} {zs : List Int} (l : zs.length ≤ 2048) (t : Trimmed zs) (s : n = false ∨ 0 < zs.length) : wchk n zs = 0 := wchk_good l t s
end Go.Proofs.YtbnhpkelnoolhaaGreatDoor

/- The document's own whole numbers: slackwaterref02.Check, Product. -/
namespace Go.Proofs.YtbnhpkelnoolhaaGreatDoor
open Go.RowKit
set_option linter.unusedVariables false

theorem chk_last {xs : List Int} (hl : xs.length ≤ 2048) : chk xs = 0 ↔ xs.length = 0 ∨ ¬ xs[xs.length - 1]?.getD 0 = 0 := by
  rw [← sz_eq_iff]
  constructor
  · intro h; exact (chk_ok h).2
  · intro h; exact chk_good (by omega) h

/-- A whole number in its one form, of any length, in new memory. -/
def WNum (w : World) (t : Int) (x : Ending) (w' : World) : Prop := ∃ n v zs, x = .returned (.agg #[.bool n, v]) ∧ w'.ownsRow w.heap.size 40 1 v zs.length (zs.map (Value.int .u32)) ∧ Wd zs ∧ Trimmed zs ∧ (n = false ∨ 0 < zs.length) ∧ wval n zs = t ∧ Below w.heap.size w w'
end Go.Proofs.YtbnhpkelnoolhaaGreatDoor

/- The document's own fractions: over, trimmed, whole, one, size. -/
namespace Go.Proofs.YtbnhpkelnoolhaaGreatDoor
open Go.RowKit
set_option linter.unusedVariables false

set_option maxHeartbeats 800000 in
set_option maxRecDepth 100000 in
theorem over3_any (v u : Value) (xs ys : List Int) (w : World) (h : Sl w v xs) (g : Sl w u ys) (lx : xs.length ≤ 8192) (ly : ys.length ≤ 8192) (tx : Trimmed xs) (ty : Trimmed ys) (h0 : 0 < ys.length) :
    Calls Tryz.prog 74 #[v, u] w (Told1 w (val xs / val ys)) := by
  have HH := hid (refDivMod_any v u xs ys w h g lx ly tx ty h0)
  obtain ⟨a, cap, rfl, hr⟩ := h
  obtain ⟨b, cap', rfl, gr⟩ := g
  clear hr gr
  go_enter Tryz.func74, Tryz.ntmps74
  go_wp2_with fail
  refine Calls.mono HH.out ?_
  rintro e w1 ⟨v1, v2, q, r, rfl, o1, o2, wq, wr, tq, tr, hq, hr, hb1⟩
  have hv : val q = val xs / val ys := by
    have r0 := val_nonneg wr
    rw [hq, Int.add_comm, Int.add_mul_ediv_right _ _ (by omega), Int.ediv_eq_zero_of_lt r0 hr]
    omega
  obtain ⟨a1, c1, hs1⟩ := own_slice' o1
  subst hs1
  obtain ⟨a2, c2, hs2⟩ := own_slice' o2
  subst hs2
  have HE := hid (And.intro o1 (And.intro wq (And.intro tq (And.intro hv hb1))))
  clear o1 o2 wq wr tq tr hq hr hb1 hv HH
  go_wp2_with fail
  go_ret
  exact ⟨_, q, rfl, HE.out.1, HE.out.2.1, HE.out.2.2.1, HE.out.2.2.2.1, HE.out.2.2.2.2⟩

set_option maxHeartbeats 1600000 in
set_option maxRecDepth 100000 in
theorem trimmed3_any (v : Value) (xs : List Int) (w : World) (h : Sl w v xs) (hn : xs.length ≤ 281474976710656) :
    Calls Tryz.prog 63 #[v] w fun e w' => e = .returned (.bool (decide (sz xs = xs.length))) ∧ Below w.heap.size w w' := by
  have wx := h.wd
  obtain ⟨a, cap, rfl, hr⟩ := h
  have HCL := hid hr.cells
  have hcap := hr.2.2.2.1
  have hcap2 := hr.2.2.2.2.1
  have HB := hid (Below.refl w.heap.size w)
  clear hr
  have hcl : Trimmed xs ↔ xs.length = 0 ∨ ¬ xs[xs.length - 1]?.getD 0 = 0 := by rw [← sz_eq_iff]; exact Iff.rfl
  obtain ⟨k, hk⟩ : ∃ k, xs.length = k := ⟨_, rfl⟩
  rw [hk] at hcl
  by_cases h0 : k = 0
  · subst h0
    have HW : Hid (decide (sz xs = xs.length) = true) := by show _ = _; exact decide_eq_true (hcl.2 (.inl rfl))
    rw [HW.out, hk]
    clear hk hcl HCL wx
    go_enter Tryz.func63, Tryz.ntmps63
    go_wp2_with fail
    go_ret
    exact ⟨rfl, HB.out⟩
  · obtain ⟨m, hm⟩ : ∃ m, k = m + 1 := ⟨k - 1, by omega⟩
    subst hm
    have bx := wx.at m
    rw [show m + 1 - 1 = m by omega] at hcl
    have hkz : ((m : Int) + 1 == 0) = false := beq_eq_false_iff_ne.2 (by omega)
    have hm1 : (m : Int) ≤ 281474976710656 := by omega
    rw [hk] at HCL hcap ⊢
    obtain ⟨b1, o1, rfl, l1, cx⟩ := HCL.out m (by omega)
    have him : ((m + 1 : Nat) : Int) - 1 = (m : Int) := by omega
    by_cases hz : xs[m]?.getD 0 = 0
    · have HW : Hid (decide (sz xs = xs.length) = false) := by show _ = _; exact decide_eq_false (fun h => (hcl.1 h).elim (fun e => by omega) (fun e => e hz))
      rw [hk] at HW
      rw [HW.out]
      rw [hz] at cx
      clear hk hcl HCL hz bx wx
      go_enter Tryz.func63, Tryz.ntmps63
      go_wp2_with fail
      go_ret
      exact ⟨rfl, HB.out⟩
    · have HW : Hid (decide (sz xs = xs.length) = true) := by show _ = _; exact decide_eq_true (hcl.2 (.inr hz))
      rw [hk] at HW
      rw [HW.out]
      obtain ⟨X, hX⟩ : ∃ X, xs[m]?.getD 0 = X := ⟨_, rfl⟩
      rw [hX] at cx hz bx
      have hzb : (X != 0) = true := by simp [hz]
      clear hk hcl HCL hX wx
      go_enter Tryz.func63, Tryz.ntmps63
      go_wp2_with fail
      go_ret
      exact ⟨rfl, HB.out⟩

theorem one3_any (w : World) : Calls Tryz.prog 34 #[] w fun e w' => ∃ g, e = .returned (.slice (some ⟨g, 0, none⟩) 1 1) ∧ w'.ownsRow w.heap.size 40 1 (.slice (some ⟨g, 0, none⟩) 1 1) 1 ([(1 : Int)].map (Value.int .u32)) ∧ Below w.heap.size w w' := by
  have HO : Hid ((w.alloc (.cells #[.int .u32 1] 40)).ownsRow w.heap.size 40 1 (.slice (some ⟨w.heap.size, 0, none⟩) 1 1) 1 ([(1 : Int)].map (Value.int .u32))) := ⟨rfl, .inr ⟨w.heap.size, 1, #[.int .u32 1], rfl, Nat.le_refl _, Box.made w _ _, Nat.le_refl _, by unfold maxLen; simp, rfl, rfl⟩⟩
  have HB := hid (alloc_later w (.cells #[.int .u32 1] 40))
  go_enter Tryz.func34, Tryz.ntmps34
  go_wp2_with fail
  go_ret
  exact ⟨w.heap.size, rfl, HO.out, HB.out⟩
end Go.Proofs.YtbnhpkelnoolhaaGreatDoor

/- Fractions: ratio.signedSum: numbers with signs added. -/
namespace Go.Proofs.YtbnhpkelnoolhaaGreatDoor
open Go.RowKit
set_option linter.unusedVariables false

/-- A number with a sign (0 may have one), in new memory. -/
def WVal (w : World) (t : Int) (x : Ending) (w' : World) : Prop := ∃ n v zs, x = .returned (.agg #[.bool n, v]) ∧ w'.ownsRow w.heap.size 40 1 v zs.length (zs.map (Value.int .u32)) ∧ Wd zs ∧ Trimmed zs ∧ wval n zs = t ∧ Below w.heap.size w w'
/-- A number told in new memory. -/
def One (U w' : World) (v : Value) (zs : List Int) (t : Int) : Prop := w'.ownsRow U.heap.size 40 1 v zs.length (zs.map (Value.int .u32)) ∧ Wd zs ∧ Trimmed zs ∧ val zs = t
theorem One.later {U V W : World} {v : Value} {zs : List Int} {t : Int} (h : One U V v zs t) (hb : Below V.heap.size V W) : One U W v zs t := ⟨owns_later h.1 hb, h.2⟩
theorem One.base {U U' V : World} {v : Value} {zs : List Int} {t : Int} (h : One U V v zs t) (hb : U'.heap.size ≤ U.heap.size) : One U' V v zs t := ⟨owns_base h.1 hb, h.2⟩
theorem One.sl {U V : World} {v : Value} {zs : List Int} {t : Int} (h : One U V v zs t) : Sl V v zs := Sl.own h.1 h.2.1
/-- A callee's contract, at each world that may come up in a region: with what stays beside it. -/
theorem told1_at {U : World} {f : Nat} {args : Array Value} {t : Int} (S : World → Prop) (hS : ∀ w', Below U.heap.size U w' → S w') (ww : World) (hb : Below U.heap.size U ww) (C : Calls Tryz.prog f args ww (Told1 ww t)) :
    Calls Tryz.prog f args ww fun e w' => ∃ a2 zs c2, e = .returned (.slice a2 zs.length c2) ∧ Hid (One U w' (.slice a2 zs.length c2) zs t) ∧ S w' ∧ Below U.heap.size U w' ∧ Hid (Below ww.heap.size ww w') :=
  Calls.mono C fun e w' h => by
    obtain ⟨v, zs, rfl, o, h1, h2, h3, hb2⟩ := h
    obtain ⟨a2, c2, hs2⟩ := own_slice' o
    subst hs2
    exact ⟨a2, zs, c2, rfl, ⟨owns_base o hb.size, h1, h2, h3⟩, hS w' (bt hb hb2), bt hb hb2, hb2⟩

set_option maxHeartbeats 6400000 in
set_option maxRecDepth 100000 in
theorem rsigned_any (n : Bool) (v : Value) (xs : List Int) (m0 : Bool) (u : Value) (ys : List Int) (w : World) (h : Sl w v xs) (g : Sl w u ys) (lx : xs.length ≤ 8191) (ly : ys.length ≤ 8191) (tx : Trimmed xs) (ty : Trimmed ys) :
    Calls Tryz.prog 77 #[.agg #[.bool n, v], .agg #[.bool m0, u]] w (WVal w (wval n xs + wval m0 ys)) := by
  obtain ⟨a, cap, rfl, hr⟩ := h
  obtain ⟨b, cap', rfl, gr⟩ := g
  have h : Sl w (.slice a xs.length cap) xs := ⟨a, cap, rfl, hr⟩
  have g : Sl w (.slice b ys.length cap') ys := ⟨b, cap', rfl, gr⟩
  clear hr gr
  have HB : Hid (Below w.heap.size w (((w.alloc (.cells #[.bool n, .slice a xs.length cap] 49)).alloc (.cells #[.bool m0, .slice b ys.length cap'] 49)).alloc (.cells #[.bool false, .slice none 0 0] 49))) := bt (bt (alloc_later _ _) (alloc_later _ _)) (alloc_later _ _)
  have HXB : Hid (Box (((w.alloc (.cells #[.bool n, .slice a xs.length cap] 49)).alloc (.cells #[.bool m0, .slice b ys.length cap'] 49)).alloc (.cells #[.bool false, .slice none 0 0] 49)) (w.heap.size + 1 + 1) 49 #[.bool false, .slice none 0 0]) := by
    have e := Box.made ((w.alloc (.cells #[.bool n, .slice a xs.length cap] 49)).alloc (.cells #[.bool m0, .slice b ys.length cap'] 49)) 49 #[.bool false, .slice none 0 0]
    simp at e
    exact e
  have HXR : Hid (w.heap.size ≤ w.heap.size + 1 + 1 ∧ w.heap.size + 1 + 1 < (((w.alloc (.cells #[.bool n, .slice a xs.length cap] 49)).alloc (.cells #[.bool m0, .slice b ys.length cap'] 49)).alloc (.cells #[.bool false, .slice none 0 0] 49)).heap.size) := ⟨by omega, HXB.out.lt⟩
  have HN : Hid (Box (((w.alloc (.cells #[.bool n, .slice a xs.length cap] 49)).alloc (.cells #[.bool m0, .slice b ys.length cap'] 49)).alloc (.cells #[.bool false, .slice none 0 0] 49)) w.heap.size 49 #[.bool n, .slice a xs.length cap]) := Box.later (Box.made w _ _) (bt (alloc_later _ _) (alloc_later _ _)) (by simp)
  have HM : Hid (Box (((w.alloc (.cells #[.bool n, .slice a xs.length cap] 49)).alloc (.cells #[.bool m0, .slice b ys.length cap'] 49)).alloc (.cells #[.bool false, .slice none 0 0] 49)) (w.heap.size + 1) 49 #[.bool m0, .slice b ys.length cap']) := by
    have e := Box.later (Box.made (w.alloc (.cells #[.bool n, .slice a xs.length cap] 49)) 49 #[.bool m0, .slice b ys.length cap']) (alloc_later ((w.alloc (.cells #[.bool n, .slice a xs.length cap] 49)).alloc (.cells #[.bool m0, .slice b ys.length cap'] 49)) (.cells #[.bool false, .slice none 0 0] 49)) (by simp)
    simp at e
    exact e
  have HSL := hid (And.intro (h.later HB.out) (g.later HB.out))
  have HCM := hid (compare_sl _ _ xs ys _ HSL.out.1 HSL.out.2 (by omega) (by omega))
  clear h g
  cases n with
  | false =>
    cases m0 with
    | false =>
      clear HCM
      have HBU := hid HB.out
      have HUS : Hid (w.heap.size + 1 + 1 < (((w.alloc (.cells #[.bool false, .slice a xs.length cap] 49)).alloc (.cells #[.bool false, .slice b ys.length cap'] 49)).alloc (.cells #[.bool false, .slice none 0 0] 49)).heap.size) := HXR.out.2
      go_enter Tryz.func77, Tryz.ntmps77
      have HK : Hid (∀ w', Below (((w.alloc (.cells #[.bool false, .slice a xs.length cap] 49)).alloc (.cells #[.bool false, .slice b ys.length cap'] 49)).alloc (.cells #[.bool false, .slice none 0 0] 49)).heap.size (((w.alloc (.cells #[.bool false, .slice a xs.length cap] 49)).alloc (.cells #[.bool false, .slice b ys.length cap'] 49)).alloc (.cells #[.bool false, .slice none 0 0] 49)) w' → (fun w' : World => ((fun w' : World => w'.cell? ⟨w.heap.size, 0, none⟩ = some (.bool false) ∧ w'.cell? ⟨w.heap.size, 1, none⟩ = some (.slice a xs.length cap) ∧ w'.cell? ⟨w.heap.size + 1, 0, none⟩ = some (.bool false) ∧ w'.cell? ⟨w.heap.size + 1, 1, none⟩ = some (.slice b ys.length cap'))) w' ∧ w'.cell? ⟨w.heap.size + 1 + 1, 0, none⟩ = some (.bool false) ∧ w'.cell? ⟨w.heap.size + 1 + 1, 1, none⟩ = some (.slice none 0 0) ∧ w'.frozen? ⟨w.heap.size + 1 + 1, 0, none⟩ = false ∧ w'.frozen? ⟨w.heap.size + 1 + 1, 1, none⟩ = false) w') := fun w' hb => by
        have hx : Below (((w.alloc (.cells #[.bool false, .slice a xs.length cap] 49)).alloc (.cells #[.bool false, .slice b ys.length cap'] 49)).alloc (.cells #[.bool false, .slice none 0 0] 49)).heap.size _ w' := hb
        obtain ⟨r0, r1, f0, f1⟩ := res_box HXB.out hx
        obtain ⟨p0, p1, _, _⟩ := res_box HN.out hx
        obtain ⟨q0, q1, _, _⟩ := res_box HM.out hx
        exact ⟨⟨p0, p1, q0, q1⟩, r0, r1, f0, f1⟩
      have HF := hid (fun ww (hb : Below (((w.alloc (.cells #[.bool false, .slice a xs.length cap] 49)).alloc (.cells #[.bool false, .slice b ys.length cap'] 49)).alloc (.cells #[.bool false, .slice none 0 0] 49)).heap.size (((w.alloc (.cells #[.bool false, .slice a xs.length cap] 49)).alloc (.cells #[.bool false, .slice b ys.length cap'] 49)).alloc (.cells #[.bool false, .slice none 0 0] 49)) ww) => told1_at _ HK.out ww hb (rsum_any _ _ xs ys ww (HSL.out.1.later hb) (HSL.out.2.later hb) lx ly tx ty))
      have hs0 := (HK.out _ (Below.drew (Below.refl _ (((w.alloc (.cells #[.bool false, .slice a xs.length cap] 49)).alloc (.cells #[.bool false, .slice b ys.length cap'] 49)).alloc (.cells #[.bool false, .slice none 0 0] 49))))).1
      have hq0 : w.heap.size + 1 + 1 ≠ w.heap.size := by omega
      go_wp2_with fail
      go_region_held3 (fun w' : World => w'.cell? ⟨w.heap.size, 0, none⟩ = some (.bool false) ∧ w'.cell? ⟨w.heap.size, 1, none⟩ = some (.slice a xs.length cap) ∧ w'.cell? ⟨w.heap.size + 1, 0, none⟩ = some (.bool false) ∧ w'.cell? ⟨w.heap.size + 1, 1, none⟩ = some (.slice b ys.length cap')) (first | exact hs1 | exact hs0 | (simp [hs1, World.cell?_setCell_far, hq0]))
        (first | (go_at_call 104; refine Calls.mono (HF.out _ (Below.drew (Below.refl _ _))) ?_; rintro e w2 ⟨a2, zs, c2, rfl, HE, ⟨hs1, r0, r1, f0, f1⟩, hb2, _⟩))
      all_goals
        go_wp2_with fail
        refine bodyPost_ret (v := .agg #[.bool false, .slice a2 zs.length c2]) (by simp [results, Tryz.results77, go_sem, r0, r1]) rfl ?_
        refine ⟨false, _, zs, rfl, owns_base (own_put2 HE.out.1 _ (fun g hg => ?_) _ _) (by have := HXR.out; have := HBU.out.size; omega), HE.out.2.1, HE.out.2.2.1, ?_, below_put2 (bt HBU.out hb2) _ (by have := HXR.out; omega) _ _⟩
        · have h1 := (World.ownsRow.lt HE.out.1 g hg).1
          have h2 := HXR.out
          have h3 := HUS.out
          omega
        · have e := HE.out.2.2.2
          show _ = _
          simp [wval] at e ⊢
          omega
    | true =>
      by_cases hlt : val xs < val ys
      · rw [cmpI_lt hlt] at HCM
        go_enter Tryz.func77, Tryz.ntmps77
        go_wp2_with fail
        refine Calls.mono HCM.out ?_
        rintro e w1 ⟨rfl, hb1⟩
        obtain ⟨p0, p1, _, _⟩ := res_box HN.out hb1
        obtain ⟨q0, q1, _, _⟩ := res_box HM.out hb1
        have HB1 := hid hb1
        have HBU := hid (bt HB.out hb1)
        have HUS : Hid (w.heap.size + 1 + 1 < w1.heap.size) := by
          show _ < _
          have h1 := HXR.out.2
          have h2 := HB1.out.size
          omega
        clear hb1 HCM
        have HK : Hid (∀ w', Below w1.heap.size w1 w' → (fun w' : World => ((fun w' : World => w'.cell? ⟨w.heap.size, 0, none⟩ = some (.bool false) ∧ w'.cell? ⟨w.heap.size, 1, none⟩ = some (.slice a xs.length cap) ∧ w'.cell? ⟨w.heap.size + 1, 0, none⟩ = some (.bool true) ∧ w'.cell? ⟨w.heap.size + 1, 1, none⟩ = some (.slice b ys.length cap'))) w' ∧ w'.cell? ⟨w.heap.size + 1 + 1, 0, none⟩ = some (.bool false) ∧ w'.cell? ⟨w.heap.size + 1 + 1, 1, none⟩ = some (.slice none 0 0) ∧ w'.frozen? ⟨w.heap.size + 1 + 1, 0, none⟩ = false ∧ w'.frozen? ⟨w.heap.size + 1 + 1, 1, none⟩ = false) w') := fun w' hb => by
          have hx : Below (((w.alloc (.cells #[.bool false, .slice a xs.length cap] 49)).alloc (.cells #[.bool true, .slice b ys.length cap'] 49)).alloc (.cells #[.bool false, .slice none 0 0] 49)).heap.size _ w' := bt HB1.out hb
          obtain ⟨r0, r1, f0, f1⟩ := res_box HXB.out hx
          obtain ⟨p0, p1, _, _⟩ := res_box HN.out hx
          obtain ⟨q0, q1, _, _⟩ := res_box HM.out hx
          exact ⟨⟨p0, p1, q0, q1⟩, r0, r1, f0, f1⟩
        have HF := hid (fun ww (hb : Below w1.heap.size w1 ww) => told1_at _ HK.out ww hb (rdiff_any _ _ ys xs ww ((HSL.out.2.later HB1.out).later hb) ((HSL.out.1.later HB1.out).later hb) (by omega) (by omega) ty tx (by omega)))
        have hs0 := (HK.out _ (Below.drew (Below.refl _ w1))).1
        have hq0 : w.heap.size + 1 + 1 ≠ w.heap.size := by omega
        go_wp2_with fail
        go_region_held3 (fun w' : World => w'.cell? ⟨w.heap.size, 0, none⟩ = some (.bool false) ∧ w'.cell? ⟨w.heap.size, 1, none⟩ = some (.slice a xs.length cap) ∧ w'.cell? ⟨w.heap.size + 1, 0, none⟩ = some (.bool true) ∧ w'.cell? ⟨w.heap.size + 1, 1, none⟩ = some (.slice b ys.length cap')) (first | exact hs1 | exact hs0 | (simp [hs1, World.cell?_setCell_far, hq0]))
          (first | (go_at_call 106; refine Calls.mono (HF.out _ (Below.drew (Below.refl _ _))) ?_; rintro e w2 ⟨a2, zs, c2, rfl, HE, ⟨hs1, r0, r1, f0, f1⟩, hb2, _⟩))
        all_goals
          go_wp2_with fail
          refine bodyPost_ret (v := .agg #[.bool true, .slice a2 zs.length c2]) (by simp [results, Tryz.results77, go_sem, r0, r1]) rfl ?_
          refine ⟨true, _, zs, rfl, owns_base (own_put2 HE.out.1 _ (fun g hg => ?_) _ _) (by have := HXR.out; have := HBU.out.size; omega), HE.out.2.1, HE.out.2.2.1, ?_, below_put2 (bt HBU.out hb2) _ (by have := HXR.out; omega) _ _⟩
          · have h1 := (World.ownsRow.lt HE.out.1 g hg).1
            have h2 := HXR.out
            have h3 := HUS.out
            omega
          · have e := HE.out.2.2.2
            show _ = _
            simp [wval] at e ⊢
            omega
      · have hc0 : (0 : Int) ≤ cmpI (val xs) (val ys) := by
          by_cases c : val ys < val xs
          · rw [cmpI_gt c]; omega
          · rw [cmpI_eq (by omega)]; omega
        obtain ⟨cv, hcv⟩ : ∃ cv, cmpI (val xs) (val ys) = cv := ⟨_, rfl⟩
        rw [hcv] at HCM hc0
        have hc1 : ¬ cv < 0 := by omega
        clear hcv hc0
        go_enter Tryz.func77, Tryz.ntmps77
        go_wp2_with fail
        refine Calls.mono HCM.out ?_
        rintro e w1 ⟨rfl, hb1⟩
        obtain ⟨p0, p1, _, _⟩ := res_box HN.out hb1
        obtain ⟨q0, q1, _, _⟩ := res_box HM.out hb1
        have HB1 := hid hb1
        have HBU := hid (bt HB.out hb1)
        have HUS : Hid (w.heap.size + 1 + 1 < w1.heap.size) := by
          show _ < _
          have h1 := HXR.out.2
          have h2 := HB1.out.size
          omega
        clear hb1 HCM
        have HK : Hid (∀ w', Below w1.heap.size w1 w' → (fun w' : World => ((fun w' : World => w'.cell? ⟨w.heap.size, 0, none⟩ = some (.bool false) ∧ w'.cell? ⟨w.heap.size, 1, none⟩ = some (.slice a xs.length cap) ∧ w'.cell? ⟨w.heap.size + 1, 0, none⟩ = some (.bool true) ∧ w'.cell? ⟨w.heap.size + 1, 1, none⟩ = some (.slice b ys.length cap'))) w' ∧ w'.cell? ⟨w.heap.size + 1 + 1, 0, none⟩ = some (.bool false) ∧ w'.cell? ⟨w.heap.size + 1 + 1, 1, none⟩ = some (.slice none 0 0) ∧ w'.frozen? ⟨w.heap.size + 1 + 1, 0, none⟩ = false ∧ w'.frozen? ⟨w.heap.size + 1 + 1, 1, none⟩ = false) w') := fun w' hb => by
          have hx : Below (((w.alloc (.cells #[.bool false, .slice a xs.length cap] 49)).alloc (.cells #[.bool true, .slice b ys.length cap'] 49)).alloc (.cells #[.bool false, .slice none 0 0] 49)).heap.size _ w' := bt HB1.out hb
          obtain ⟨r0, r1, f0, f1⟩ := res_box HXB.out hx
          obtain ⟨p0, p1, _, _⟩ := res_box HN.out hx
          obtain ⟨q0, q1, _, _⟩ := res_box HM.out hx
          exact ⟨⟨p0, p1, q0, q1⟩, r0, r1, f0, f1⟩
        have HF := hid (fun ww (hb : Below w1.heap.size w1 ww) => told1_at _ HK.out ww hb (rdiff_any _ _ xs ys ww ((HSL.out.1.later HB1.out).later hb) ((HSL.out.2.later HB1.out).later hb) (by omega) (by omega) tx ty (by omega)))
        have hs0 := (HK.out _ (Below.drew (Below.refl _ w1))).1
        have hq0 : w.heap.size + 1 + 1 ≠ w.heap.size := by omega
        go_wp2_with fail
        go_region_held3 (fun w' : World => w'.cell? ⟨w.heap.size, 0, none⟩ = some (.bool false) ∧ w'.cell? ⟨w.heap.size, 1, none⟩ = some (.slice a xs.length cap) ∧ w'.cell? ⟨w.heap.size + 1, 0, none⟩ = some (.bool true) ∧ w'.cell? ⟨w.heap.size + 1, 1, none⟩ = some (.slice b ys.length cap')) (first | exact hs1 | exact hs0 | (simp [hs1, World.cell?_setCell_far, hq0]))
          (first | (go_at_call 106; refine Calls.mono (HF.out _ (Below.drew (Below.refl _ _))) ?_; rintro e w2 ⟨a2, zs, c2, rfl, HE, ⟨hs1, r0, r1, f0, f1⟩, hb2, _⟩))
        all_goals
          go_wp2_with fail
          refine bodyPost_ret (v := .agg #[.bool false, .slice a2 zs.length c2]) (by simp [results, Tryz.results77, go_sem, r0, r1]) rfl ?_
          refine ⟨false, _, zs, rfl, owns_base (own_put2 HE.out.1 _ (fun g hg => ?_) _ _) (by have := HXR.out; have := HBU.out.size; omega), HE.out.2.1, HE.out.2.2.1, ?_, below_put2 (bt HBU.out hb2) _ (by have := HXR.out; omega) _ _⟩
          · have h1 := (World.ownsRow.lt HE.out.1 g hg).1
            have h2 := HXR.out
            have h3 := HUS.out
            omega
          · have e := HE.out.2.2.2
            show _ = _
            simp [wval] at e ⊢
            omega
  | true =>
    cases m0 with
    | false =>
      by_cases hlt : val xs < val ys
      · rw [cmpI_lt hlt] at HCM
        go_enter Tryz.func77, Tryz.ntmps77
        go_wp2_with fail
        refine Calls.mono HCM.out ?_
        rintro e w1 ⟨rfl, hb1⟩
        obtain ⟨p0, p1, _, _⟩ := res_box HN.out hb1
        obtain ⟨q0, q1, _, _⟩ := res_box HM.out hb1
        have HB1 := hid hb1
        have HBU := hid (bt HB.out hb1)
        have HUS : Hid (w.heap.size + 1 + 1 < w1.heap.size) := by
          show _ < _
          have h1 := HXR.out.2
          have h2 := HB1.out.size
          omega
        clear hb1 HCM
        have HK : Hid (∀ w', Below w1.heap.size w1 w' → (fun w' : World => ((fun w' : World => w'.cell? ⟨w.heap.size, 0, none⟩ = some (.bool true) ∧ w'.cell? ⟨w.heap.size, 1, none⟩ = some (.slice a xs.length cap) ∧ w'.cell? ⟨w.heap.size + 1, 0, none⟩ = some (.bool false) ∧ w'.cell? ⟨w.heap.size + 1, 1, none⟩ = some (.slice b ys.length cap'))) w' ∧ w'.cell? ⟨w.heap.size + 1 + 1, 0, none⟩ = some (.bool false) ∧ w'.cell? ⟨w.heap.size + 1 + 1, 1, none⟩ = some (.slice none 0 0) ∧ w'.frozen? ⟨w.heap.size + 1 + 1, 0, none⟩ = false ∧ w'.frozen? ⟨w.heap.size + 1 + 1, 1, none⟩ = false) w') := fun w' hb => by
          have hx : Below (((w.alloc (.cells #[.bool true, .slice a xs.length cap] 49)).alloc (.cells #[.bool false, .slice b ys.length cap'] 49)).alloc (.cells #[.bool false, .slice none 0 0] 49)).heap.size _ w' := bt HB1.out hb
          obtain ⟨r0, r1, f0, f1⟩ := res_box HXB.out hx
          obtain ⟨p0, p1, _, _⟩ := res_box HN.out hx
          obtain ⟨q0, q1, _, _⟩ := res_box HM.out hx
          exact ⟨⟨p0, p1, q0, q1⟩, r0, r1, f0, f1⟩
        have HF := hid (fun ww (hb : Below w1.heap.size w1 ww) => told1_at _ HK.out ww hb (rdiff_any _ _ ys xs ww ((HSL.out.2.later HB1.out).later hb) ((HSL.out.1.later HB1.out).later hb) (by omega) (by omega) ty tx (by omega)))
        have hs0 := (HK.out _ (Below.drew (Below.refl _ w1))).1
        have hq0 : w.heap.size + 1 + 1 ≠ w.heap.size := by omega
        go_wp2_with fail
        go_region_held3 (fun w' : World => w'.cell? ⟨w.heap.size, 0, none⟩ = some (.bool true) ∧ w'.cell? ⟨w.heap.size, 1, none⟩ = some (.slice a xs.length cap) ∧ w'.cell? ⟨w.heap.size + 1, 0, none⟩ = some (.bool false) ∧ w'.cell? ⟨w.heap.size + 1, 1, none⟩ = some (.slice b ys.length cap')) (first | exact hs1 | exact hs0 | (simp [hs1, World.cell?_setCell_far, hq0]))
          (first | (go_at_call 106; refine Calls.mono (HF.out _ (Below.drew (Below.refl _ _))) ?_; rintro e w2 ⟨a2, zs, c2, rfl, HE, ⟨hs1, r0, r1, f0, f1⟩, hb2, _⟩))
        all_goals
          go_wp2_with fail
          refine bodyPost_ret (v := .agg #[.bool false, .slice a2 zs.length c2]) (by simp [results, Tryz.results77, go_sem, r0, r1]) rfl ?_
          refine ⟨false, _, zs, rfl, owns_base (own_put2 HE.out.1 _ (fun g hg => ?_) _ _) (by have := HXR.out; have := HBU.out.size; omega), HE.out.2.1, HE.out.2.2.1, ?_, below_put2 (bt HBU.out hb2) _ (by have := HXR.out; omega) _ _⟩
          · have h1 := (World.ownsRow.lt HE.out.1 g hg).1
            have h2 := HXR.out
            have h3 := HUS.out
            omega
          · have e := HE.out.2.2.2
            show _ = _
            simp [wval] at e ⊢
            omega
      · have hc0 : (0 : Int) ≤ cmpI (val xs) (val ys) := by
          by_cases c : val ys < val xs
          · rw [cmpI_gt c]; omega
          · rw [cmpI_eq (by omega)]; omega
        obtain ⟨cv, hcv⟩ : ∃ cv, cmpI (val xs) (val ys) = cv := ⟨_, rfl⟩
        rw [hcv] at HCM hc0
        have hc1 : ¬ cv < 0 := by omega
        clear hcv hc0
        go_enter Tryz.func77, Tryz.ntmps77
        go_wp2_with fail
        refine Calls.mono HCM.out ?_
        rintro e w1 ⟨rfl, hb1⟩
        obtain ⟨p0, p1, _, _⟩ := res_box HN.out hb1
        obtain ⟨q0, q1, _, _⟩ := res_box HM.out hb1
        have HB1 := hid hb1
        have HBU := hid (bt HB.out hb1)
        have HUS : Hid (w.heap.size + 1 + 1 < w1.heap.size) := by
          show _ < _
          have h1 := HXR.out.2
          have h2 := HB1.out.size
          omega
        clear hb1 HCM
        have HK : Hid (∀ w', Below w1.heap.size w1 w' → (fun w' : World => ((fun w' : World => w'.cell? ⟨w.heap.size, 0, none⟩ = some (.bool true) ∧ w'.cell? ⟨w.heap.size, 1, none⟩ = some (.slice a xs.length cap) ∧ w'.cell? ⟨w.heap.size + 1, 0, none⟩ = some (.bool false) ∧ w'.cell? ⟨w.heap.size + 1, 1, none⟩ = some (.slice b ys.length cap'))) w' ∧ w'.cell? ⟨w.heap.size + 1 + 1, 0, none⟩ = some (.bool false) ∧ w'.cell? ⟨w.heap.size + 1 + 1, 1, none⟩ = some (.slice none 0 0) ∧ w'.frozen? ⟨w.heap.size + 1 + 1, 0, none⟩ = false ∧ w'.frozen? ⟨w.heap.size + 1 + 1, 1, none⟩ = false) w') := fun w' hb => by
          have hx : Below (((w.alloc (.cells #[.bool true, .slice a xs.length cap] 49)).alloc (.cells #[.bool false, .slice b ys.length cap'] 49)).alloc (.cells #[.bool false, .slice none 0 0] 49)).heap.size _ w' := bt HB1.out hb
          obtain ⟨r0, r1, f0, f1⟩ := res_box HXB.out hx
          obtain ⟨p0, p1, _, _⟩ := res_box HN.out hx
          obtain ⟨q0, q1, _, _⟩ := res_box HM.out hx
          exact ⟨⟨p0, p1, q0, q1⟩, r0, r1, f0, f1⟩
        have HF := hid (fun ww (hb : Below w1.heap.size w1 ww) => told1_at _ HK.out ww hb (rdiff_any _ _ xs ys ww ((HSL.out.1.later HB1.out).later hb) ((HSL.out.2.later HB1.out).later hb) (by omega) (by omega) tx ty (by omega)))
        have hs0 := (HK.out _ (Below.drew (Below.refl _ w1))).1
        have hq0 : w.heap.size + 1 + 1 ≠ w.heap.size := by omega
        go_wp2_with fail
        go_region_held3 (fun w' : World => w'.cell? ⟨w.heap.size, 0, none⟩ = some (.bool true) ∧ w'.cell? ⟨w.heap.size, 1, none⟩ = some (.slice a xs.length cap) ∧ w'.cell? ⟨w.heap.size + 1, 0, none⟩ = some (.bool false) ∧ w'.cell? ⟨w.heap.size + 1, 1, none⟩ = some (.slice b ys.length cap')) (first | exact hs1 | exact hs0 | (simp [hs1, World.cell?_setCell_far, hq0]))
          (first | (go_at_call 106; refine Calls.mono (HF.out _ (Below.drew (Below.refl _ _))) ?_; rintro e w2 ⟨a2, zs, c2, rfl, HE, ⟨hs1, r0, r1, f0, f1⟩, hb2, _⟩))
        all_goals
          go_wp2_with fail
          refine bodyPost_ret (v := .agg #[.bool true, .slice a2 zs.length c2]) (by simp [results, Tryz.results77, go_sem, r0, r1]) rfl ?_
          refine ⟨true, _, zs, rfl, owns_base (own_put2 HE.out.1 _ (fun g hg => ?_) _ _) (by have := HXR.out; have := HBU.out.size; omega), HE.out.2.1, HE.out.2.2.1, ?_, below_put2 (bt HBU.out hb2) _ (by have := HXR.out; omega) _ _⟩
          · have h1 := (World.ownsRow.lt HE.out.1 g hg).1
            have h2 := HXR.out
            have h3 := HUS.out
            omega
          · have e := HE.out.2.2.2
            show _ = _
            simp [wval] at e ⊢
            omega
    | true =>
      clear HCM
      have HBU := hid HB.out
      have HUS : Hid (w.heap.size + 1 + 1 < (((w.alloc (.cells #[.bool true, .slice a xs.length cap] 49)).alloc (.cells #[.bool true, .slice b ys.length cap'] 49)).alloc (.cells #[.bool false, .slice none 0 0] 49)).heap.size) := HXR.out.2
      go_enter Tryz.func77, Tryz.ntmps77
      have HK : Hid (∀ w', Below (((w.alloc (.cells #[.bool true, .slice a xs.length cap] 49)).alloc (.cells #[.bool true, .slice b ys.length cap'] 49)).alloc (.cells #[.bool false, .slice none 0 0] 49)).heap.size (((w.alloc (.cells #[.bool true, .slice a xs.length cap] 49)).alloc (.cells #[.bool true, .slice b ys.length cap'] 49)).alloc (.cells #[.bool false, .slice none 0 0] 49)) w' → (fun w' : World => ((fun w' : World => w'.cell? ⟨w.heap.size, 0, none⟩ = some (.bool true) ∧ w'.cell? ⟨w.heap.size, 1, none⟩ = some (.slice a xs.length cap) ∧ w'.cell? ⟨w.heap.size + 1, 0, none⟩ = some (.bool true) ∧ w'.cell? ⟨w.heap.size + 1, 1, none⟩ = some (.slice b ys.length cap'))) w' ∧ w'.cell? ⟨w.heap.size + 1 + 1, 0, none⟩ = some (.bool false) ∧ w'.cell? ⟨w.heap.size + 1 + 1, 1, none⟩ = some (.slice none 0 0) ∧ w'.frozen? ⟨w.heap.size + 1 + 1, 0, none⟩ = false ∧ w'.frozen? ⟨w.heap.size + 1 + 1, 1, none⟩ = false) w') := fun w' hb => by
        have hx : Below (((w.alloc (.cells #[.bool true, .slice a xs.length cap] 49)).alloc (.cells #[.bool true, .slice b ys.length cap'] 49)).alloc (.cells #[.bool false, .slice none 0 0] 49)).heap.size _ w' := hb
        obtain ⟨r0, r1, f0, f1⟩ := res_box HXB.out hx
        obtain ⟨p0, p1, _, _⟩ := res_box HN.out hx
        obtain ⟨q0, q1, _, _⟩ := res_box HM.out hx
        exact ⟨⟨p0, p1, q0, q1⟩, r0, r1, f0, f1⟩
      have HF := hid (fun ww (hb : Below (((w.alloc (.cells #[.bool true, .slice a xs.length cap] 49)).alloc (.cells #[.bool true, .slice b ys.length cap'] 49)).alloc (.cells #[.bool false, .slice none 0 0] 49)).heap.size (((w.alloc (.cells #[.bool true, .slice a xs.length cap] 49)).alloc (.cells #[.bool true, .slice b ys.length cap'] 49)).alloc (.cells #[.bool false, .slice none 0 0] 49)) ww) => told1_at _ HK.out ww hb (rsum_any _ _ xs ys ww (HSL.out.1.later hb) (HSL.out.2.later hb) lx ly tx ty))
      have hs0 := (HK.out _ (Below.drew (Below.refl _ (((w.alloc (.cells #[.bool true, .slice a xs.length cap] 49)).alloc (.cells #[.bool true, .slice b ys.length cap'] 49)).alloc (.cells #[.bool false, .slice none 0 0] 49))))).1
      have hq0 : w.heap.size + 1 + 1 ≠ w.heap.size := by omega
      go_wp2_with fail
      go_region_held3 (fun w' : World => w'.cell? ⟨w.heap.size, 0, none⟩ = some (.bool true) ∧ w'.cell? ⟨w.heap.size, 1, none⟩ = some (.slice a xs.length cap) ∧ w'.cell? ⟨w.heap.size + 1, 0, none⟩ = some (.bool true) ∧ w'.cell? ⟨w.heap.size + 1, 1, none⟩ = some (.slice b ys.length cap')) (first | exact hs1 | exact hs0 | (simp [hs1, World.cell?_setCell_far, hq0]))
        (first | (go_at_call 104; refine Calls.mono (HF.out _ (Below.drew (Below.refl _ _))) ?_; rintro e w2 ⟨a2, zs, c2, rfl, HE, ⟨hs1, r0, r1, f0, f1⟩, hb2, _⟩))
      all_goals
        go_wp2_with fail
        refine bodyPost_ret (v := .agg #[.bool true, .slice a2 zs.length c2]) (by simp [results, Tryz.results77, go_sem, r0, r1]) rfl ?_
        refine ⟨true, _, zs, rfl, owns_base (own_put2 HE.out.1 _ (fun g hg => ?_) _ _) (by have := HXR.out; have := HBU.out.size; omega), HE.out.2.1, HE.out.2.2.1, ?_, below_put2 (bt HBU.out hb2) _ (by have := HXR.out; omega) _ _⟩
        · have h1 := (World.ownsRow.lt HE.out.1 g hg).1
          have h2 := HXR.out
          have h3 := HUS.out
          omega
        · have e := HE.out.2.2.2
          show _ = _
          simp [wval] at e ⊢
          omega
end Go.Proofs.YtbnhpkelnoolhaaGreatDoor

/- Fractions: ratio.add, multiply: sums and products of fractions, what is in common taken out first. -/
namespace Go.Proofs.YtbnhpkelnoolhaaGreatDoor
open Go.RowKit
set_option linter.unusedVariables false

theorem div_gcd_left {x y g : Int} (hg : g = gcdI x y) : x = x / g * g := (Int.ediv_mul_cancel (by rw [hg]; exact Int.gcd_dvd_left ..)).symm
theorem div_gcd_right {x y g : Int} (hg : g = gcdI x y) : y = y / g * g := (Int.ediv_mul_cancel (by rw [hg]; exact Int.gcd_dvd_right ..)).symm
theorem gcd_pos_right {x y : Int} (h : 0 < y) : 0 < gcdI x y := by
  have : 0 < Int.gcd x y := Int.gcd_pos_iff.2 (Or.inr (by omega))
  unfold gcdI; omega
theorem gcd_le_right {x y : Int} (h : 0 < y) : gcdI x y ≤ y := Int.le_of_dvd h (Int.gcd_dvd_right ..)
theorem sg_mul (n : Bool) (x y : Int) : sg n (x * y) = sg n x * y := by cases n <;> simp [sg, Int.neg_mul]
/-- What add works out. -/
theorem add_parts {n m nn : Bool} {xs ys us vs : List Int} {g rA rB p1 p2 N s q1 e den : Int} (hy : 0 < val ys) (hv : 0 < val vs) (h1 : gcdI (val xs) (val ys) = 1) (h2 : gcdI (val us) (val vs) = 1)
    (hg : g = gcdI (val ys) (val vs)) (hA : rA = val ys / g) (hB : rB = val vs / g) (hp1 : p1 = val xs * rB) (hp2 : p2 = val us * rA) (hN : sg nn N = sg n p1 + sg m p2) (hs : s = gcdI N g) (hq : q1 = N / s) (he : e = val vs / s) (hd : den = rA * e) :
    0 < den ∧ gcdI q1 den = 1 ∧ Rat.divInt (sg nn q1) den = rq n xs ys + rq m us vs := by
  have g0 : 0 < g := by rw [hg]; exact gcd_pos_right hv
  have k1 : val ys = rA * g := by rw [hA]; exact div_gcd_left hg
  have k2 : val vs = rB * g := by rw [hB]; exact div_gcd_right hg
  have k3 : N = q1 * s := by rw [hq]; exact div_gcd_left hs
  have sg' : s ∣ g := by rw [hs]; exact Int.gcd_dvd_right ..
  have k4 : val vs = e * s := by rw [he]; exact (Int.ediv_mul_cancel (Int.dvd_trans sg' ⟨rB, by rw [k2, Int.mul_comm]⟩)).symm
  have hN' : sg nn N = sg n (val xs) * rB + sg m (val us) * rA := by rw [hN, hp1, hp2, sg_mul, sg_mul]
  have hs' : s = gcdI (sg nn N) g := by rw [gcd_sg]; exact hs
  have r := fr_add (a := sg n (val xs)) (c := sg m (val us)) (p := sg nn q1) hy hv (by rw [gcd_sg]; exact h1) (by rw [gcd_sg]; exact h2) hg k1 k2 hN' hs' (by rw [← sg_mul, ← k3]) k4
  rw [← hd, gcd_sg] at r
  exact r
/-- What multiply works out. -/
theorem mul_parts {n m : Bool} {xs ys us vs : List Int} {f s num den : Int} (hy : 0 < val ys) (hv : 0 < val vs) (h1 : gcdI (val xs) (val ys) = 1) (h2 : gcdI (val us) (val vs) = 1)
    (hf : f = gcdI (val xs) (val vs)) (hs : s = gcdI (val us) (val ys)) (hn : num = val xs / f * (val us / s)) (hd : den = val ys / s * (val vs / f)) :
    0 < den ∧ gcdI num den = 1 ∧ Rat.divInt (sg (n != m) num) den = rq n xs ys * rq m us vs := by
  have r := fr_mul (a := sg n (val xs)) (c := sg m (val us)) (a1 := sg n (val xs / f)) (c1 := sg m (val us / s)) hy hv (by rw [gcd_sg]; exact h1) (by rw [gcd_sg]; exact h2) (by rw [gcd_sg]; exact hf) (by rw [gcd_sg]; exact hs) (by rw [← sg_mul, ← div_gcd_left hf]) (div_gcd_right hf) (by rw [← sg_mul, ← div_gcd_left hs]) (div_gcd_right hs)
  have e : sg n (val xs / f) * sg m (val us / s) = sg (n != m) num := by rw [hn]; exact (mul_sign n m _ _).symm
  rw [e, ← hd, gcd_sg] at r
  exact r
theorem WVal.at {U ww : World} {f : Nat} {args : Array Value} {t : Int} (S : World → Prop) (hS : ∀ w', Below U.heap.size U w' → S w') (hb : Below U.heap.size U ww) (C : Calls Tryz.prog f args ww (WVal ww t)) :
    Calls Tryz.prog f args ww fun e w' => ∃ k a2 zs c2, e = .returned (.agg #[.bool k, .slice a2 zs.length c2]) ∧ Hid (∃ T, One U w' (.slice a2 zs.length c2) zs T ∧ sg k T = t) ∧ S w' ∧ Below U.heap.size U w' ∧ Hid (Below ww.heap.size ww w') :=
  Calls.mono C fun e w' h => by
    obtain ⟨k, v, zs, rfl, o, h1, h2, h3, hb2⟩ := h
    obtain ⟨a2, c2, hs2⟩ := own_slice' o
    subst hs2
    exact ⟨k, a2, zs, c2, rfl, ⟨val zs, ⟨owns_base o hb.size, h1, h2, rfl⟩, h3⟩, hS w' (bt hb hb2), bt hb hb2, hb2⟩
theorem mul_4096 {x y : Int} (h0 : 0 ≤ x) (hx : x < 4294967296 ^ 2048) (g0 : 0 ≤ y) (hy : y < 4294967296 ^ 2048) : x * y < 4294967296 ^ 4096 := by
  have e : (4294967296 : Int) ^ 4096 = 4294967296 ^ 2048 * 4294967296 ^ 2048 := by rw [← Int.pow_add]
  have p := pw_pos 2048
  rw [e]
  generalize (4294967296 : Int) ^ 2048 = P at *
  have e1 : x * y ≤ x * P := Int.mul_le_mul_of_nonneg_left (by omega) h0
  have e2 : x * P < P * P := Int.mul_lt_mul_of_pos_right hx p
  omega
theorem own_len {v : Value} {zs : List Int} {U V : World} {t : Int} (h : One U V v zs t) {L : Nat} (hl : t < 4294967296 ^ L) : zs.length ≤ L := len_of_lt h.2.1 h.2.2.1 (by rw [h.2.2.2]; exact hl)
theorem own_pos {v : Value} {zs : List Int} {U V : World} {t : Int} (h : One U V v zs t) (h0 : 0 < t) : 0 < zs.length := by
  by_cases c : 0 < zs.length
  · exact c
  · have := trimmed_zero' (us := zs) (by omega)
    have := h.2.2.2
    omega
/-- What told tells of a numerator and a denominator with nothing in common. -/
theorem rtold_at {U ww : World} {n : Bool} {a : Option Addr} {ca : Nat} {zs : List Int} {b : Option Addr} {cb : Nat} {ds : List Int} {s t : Int} {q : Rat} (S : World → Prop) (hS : ∀ w', Below U.heap.size U w' → S w') (hb : Below U.heap.size U ww) (h1 : One U ww (.slice a zs.length ca) zs s) (h2 : One U ww (.slice b ds.length cb) ds t) (hd : 0 < t) (hg : gcdI s t = 1) (hq : Rat.divInt (sg n s) t = q) :
    Calls Tryz.prog 37 #[.bool n, .slice a zs.length ca, .slice b ds.length cb] ww fun e w' => ∃ k a8 z8 c8 a9 z9 c9 code, e = .returned (.tuple #[.agg #[.bool k, .slice a8 (List.length z8) c8, .slice a9 (List.length z9) c9], .int .i64 code]) ∧ Hid (w'.ownsRow U.heap.size 40 1 (.slice a8 (List.length z8) c8) z8.length (z8.map (Value.int .u32)) ∧ w'.ownsRow U.heap.size 40 1 (.slice a9 (List.length z9) c9) z9.length (z9.map (Value.int .u32)) ∧ RTells 0 q k z8 z9 code) ∧ S w' ∧ Below U.heap.size U w' := by
  obtain ⟨o1, w1, t1, v1⟩ := h1
  obtain ⟨o2, w2, t2, v2⟩ := h2
  obtain ⟨k, us, vs, c, e1, e2, e3, r⟩ := rtells_of (n := n) w1 t1 w2 t2 (by rw [v2]; exact hd) (by rw [v1, v2]; exact hg)
  rw [v1, v2, hq] at r
  refine Calls.mono (rtold_any n a zs.length ca b ds.length cb ww) fun e w' h => ?_
  obtain ⟨rfl, hb2⟩ := h
  rw [e1]
  by_cases z : c = 0
  · rw [if_pos z] at e2 e3
    subst e2; subst e3
    refine ⟨k, a, us, ca, b, vs, cb, c, by rw [if_pos z, if_pos z], ⟨owns_later o1 hb2, owns_later o2 hb2, r⟩, hS w' (bt hb hb2), bt hb hb2⟩
  · rw [if_neg z] at e2 e3
    subst e2; subst e3
    exact ⟨k, none, [], 0, none, [], 0, c, by rw [if_neg z, if_neg z]; rfl, ⟨World.ownsRow_nil _ _ _ _, World.ownsRow_nil _ _ _ _, r⟩, hS w' (bt hb hb2), bt hb hb2⟩
/-- What lies in blocks that were there stays, said so that the walk can use it. -/
def Far (ww w' : World) : Prop := (∀ H, H < ww.heap.size → H < w'.heap.size) ∧ (∀ H j, H < ww.heap.size → w'.cell? ⟨H, j, none⟩ = ww.cell? ⟨H, j, none⟩) ∧ (∀ H j, H < ww.heap.size → w'.frozen? ⟨H, j, none⟩ = ww.frozen? ⟨H, j, none⟩)
theorem Far.of {ww w' : World} (h : Below ww.heap.size ww w') : Far ww w' := ⟨fun H hl => Nat.lt_of_lt_of_le hl h.size, fun H j hl => h.cell (p := ⟨H, j, none⟩) hl, fun H j hl => h.frozen (p := ⟨H, j, none⟩) hl⟩
theorem quot_by {U ww : World} {a : Option Addr} {ca : Nat} {xs : List Int} {a1 : Option Addr} {z1 : List Int} {c1 : Nat} {g : Int} (S : World → Prop) (hS : ∀ w', Below U.heap.size U w' → S w') (hb : Below U.heap.size U ww) (hx : Sl ww (.slice a xs.length ca) xs) (lx : xs.length ≤ 8192) (tx : Trimmed xs) (h : One U ww (.slice a1 z1.length c1) z1 g) (h0 : 0 < g) (hl : g < 4294967296 ^ 2048) :
    Calls Tryz.prog 55 #[.slice a xs.length ca, .slice a1 z1.length c1] ww fun e w' => ∃ a2 zs c2, e = .returned (.slice a2 zs.length c2) ∧ Hid (One U w' (.slice a2 zs.length c2) zs (val xs / g)) ∧ S w' ∧ Below U.heap.size U w' ∧ Hid (Below ww.heap.size ww w') := by
  have e := rquot_any _ _ xs z1 ww hx h.sl lx (by have := own_len h hl; omega) tx h.2.2.1 (own_pos h h0)
  rw [h.2.2.2] at e
  exact told1_at S hS ww hb e
theorem RTold.put {w U w3 : World} {e : Int} {q : Rat} {k : Bool} {v u : Value} {zs ds : List Int} {code : Int} (h : w3.ownsRow U.heap.size 40 1 v zs.length (zs.map (Value.int .u32)) ∧ w3.ownsRow U.heap.size 40 1 u ds.length (ds.map (Value.int .u32)) ∧ RTells e q k zs ds code) (b : Nat) (hb : b < U.heap.size) (hw : w.heap.size ≤ b) (hbw : Below w.heap.size w w3) (x y z : Value) :
    RTold w e q (.returned (.tuple #[.agg #[.bool k, v, u], .int .i64 code])) (((w3.setCell ⟨b, 0, none⟩ x).setCell ⟨b, 1, none⟩ y).setCell ⟨b, 2, none⟩ z) :=
  ⟨k, v, zs, u, ds, code, rfl, owns_base (own_put3 h.1 b (fun g hg => by have := (World.ownsRow.lt h.1 g hg).1; omega) _ _ _) (by omega), owns_base (own_put3 h.2.1 b (fun g hg => by have := (World.ownsRow.lt h.2.1 g hg).1; omega) _ _ _) (by omega), h.2.2, below_put3 hbw b hw _ _ _⟩

set_option maxHeartbeats 6400000 in
set_option maxRecDepth 100000 in
theorem rmultiply_any (n : Bool) (a : Option Addr) (ca : Nat) (xs : List Int) (b : Option Addr) (cb : Nat) (ys : List Int) (m : Bool) (c : Option Addr) (cc : Nat) (us : List Int) (d : Option Addr) (cd : Nat) (vs : List Int) (w : World)
    (sx : Sl w (.slice a xs.length ca) xs) (sy : Sl w (.slice b ys.length cb) ys) (su : Sl w (.slice c us.length cc) us) (sv : Sl w (.slice d vs.length cd) vs) (lx : xs.length ≤ 2048) (ly : ys.length ≤ 2048) (lu : us.length ≤ 2048) (lv : vs.length ≤ 2048) (tx : Trimmed xs) (ty : Trimmed ys) (tu : Trimmed us) (tv : Trimmed vs) (hy : 0 < val ys) (hv : 0 < val vs) (h1 : gcdI (val xs) (val ys) = 1) (h2 : gcdI (val us) (val vs) = 1) :
    Calls Tryz.prog 50 #[.agg #[.bool n, .slice a xs.length ca, .slice b ys.length cb], .agg #[.bool m, .slice c us.length cc, .slice d vs.length cd]] w (RTold w 0 (rq n xs ys * rq m us vs)) := by
  have wx := sx.wd
  have wy := sy.wd
  have wu := su.wd
  have wv := sv.wd
  have HB : Hid (Below w.heap.size w (((w.alloc (.cells #[.bool n, .slice a xs.length ca, .slice b ys.length cb] 24)).alloc (.cells #[.bool m, .slice c us.length cc, .slice d vs.length cd] 24)).alloc (.cells #[.bool false, .slice none 0 0, .slice none 0 0] 24))) := bt (bt (alloc_later _ _) (alloc_later _ _)) (alloc_later _ _)
  have HZ : Hid (Box (((w.alloc (.cells #[.bool n, .slice a xs.length ca, .slice b ys.length cb] 24)).alloc (.cells #[.bool m, .slice c us.length cc, .slice d vs.length cd] 24)).alloc (.cells #[.bool false, .slice none 0 0, .slice none 0 0] 24)) (w.heap.size + 1 + 1) 24 #[.bool false, .slice none 0 0, .slice none 0 0]) := by
    have e := Box.made ((w.alloc (.cells #[.bool n, .slice a xs.length ca, .slice b ys.length cb] 24)).alloc (.cells #[.bool m, .slice c us.length cc, .slice d vs.length cd] 24)) 24 #[.bool false, .slice none 0 0, .slice none 0 0]
    simp at e
    exact e
  have HK : Hid (∀ w', Below (((w.alloc (.cells #[.bool n, .slice a xs.length ca, .slice b ys.length cb] 24)).alloc (.cells #[.bool m, .slice c us.length cc, .slice d vs.length cd] 24)).alloc (.cells #[.bool false, .slice none 0 0, .slice none 0 0] 24)).heap.size (((w.alloc (.cells #[.bool n, .slice a xs.length ca, .slice b ys.length cb] 24)).alloc (.cells #[.bool m, .slice c us.length cc, .slice d vs.length cd] 24)).alloc (.cells #[.bool false, .slice none 0 0, .slice none 0 0] 24)) w' → w'.cell? ⟨w.heap.size, 0, none⟩ = some (.bool n) ∧ w'.cell? ⟨w.heap.size, 1, none⟩ = some (.slice a xs.length ca) ∧ w'.cell? ⟨w.heap.size, 2, none⟩ = some (.slice b ys.length cb) ∧ w'.cell? ⟨w.heap.size + 1, 0, none⟩ = some (.bool m) ∧ w'.cell? ⟨w.heap.size + 1, 1, none⟩ = some (.slice c us.length cc) ∧ w'.cell? ⟨w.heap.size + 1, 2, none⟩ = some (.slice d vs.length cd)) := fun w' hx => by
    have hA : Box (((w.alloc (.cells #[.bool n, .slice a xs.length ca, .slice b ys.length cb] 24)).alloc (.cells #[.bool m, .slice c us.length cc, .slice d vs.length cd] 24)).alloc (.cells #[.bool false, .slice none 0 0, .slice none 0 0] 24)) w.heap.size 24 #[.bool n, .slice a xs.length ca, .slice b ys.length cb] := Box.later (Box.made w _ _) (bt (alloc_later _ _) (alloc_later _ _)) (by simp)
    have hB : Box (((w.alloc (.cells #[.bool n, .slice a xs.length ca, .slice b ys.length cb] 24)).alloc (.cells #[.bool m, .slice c us.length cc, .slice d vs.length cd] 24)).alloc (.cells #[.bool false, .slice none 0 0, .slice none 0 0] 24)) (w.heap.size + 1) 24 #[.bool m, .slice c us.length cc, .slice d vs.length cd] := by
      have e := Box.later (Box.made (w.alloc (.cells #[.bool n, .slice a xs.length ca, .slice b ys.length cb] 24)) 24 #[.bool m, .slice c us.length cc, .slice d vs.length cd]) (alloc_later ((w.alloc (.cells #[.bool n, .slice a xs.length ca, .slice b ys.length cb] 24)).alloc (.cells #[.bool m, .slice c us.length cc, .slice d vs.length cd] 24)) (.cells #[.bool false, .slice none 0 0, .slice none 0 0] 24)) (by simp)
      simp at e
      exact e
    obtain ⟨p0, p1, p2, _⟩ := res_box3 hA hx
    obtain ⟨q0, q1, q2, _⟩ := res_box3 hB hx
    exact ⟨p0, p1, p2, q0, q1, q2⟩
  have HXS : Hid (w.heap.size + 1 + 1 < (((w.alloc (.cells #[.bool n, .slice a xs.length ca, .slice b ys.length cb] 24)).alloc (.cells #[.bool m, .slice c us.length cc, .slice d vs.length cd] 24)).alloc (.cells #[.bool false, .slice none 0 0, .slice none 0 0] 24)).heap.size) := HZ.out.lt
  have HSL := hid (And.intro (sx.later HB.out) (And.intro (sy.later HB.out) (And.intro (su.later HB.out) (sv.later HB.out))))
  have HP := hid (And.intro hy (And.intro hv (And.intro h1 h2)))
  clear sx sy su sv
  have HF0 : Hid (0 < gcdI (val xs) (val vs) ∧ gcdI (val xs) (val vs) ≤ val vs ∧ 0 < gcdI (val us) (val ys) ∧ gcdI (val us) (val ys) ≤ val ys) := ⟨gcd_pos_right hv, gcd_le_right hv, gcd_pos_right hy, gcd_le_right hy⟩
  have HL : Hid (val xs < 4294967296 ^ 2048 ∧ val ys < 4294967296 ^ 2048 ∧ val us < 4294967296 ^ 2048 ∧ val vs < 4294967296 ^ 2048) := ⟨below2048 wx lx, below2048 wy ly, below2048 wu lu, below2048 wv lv⟩
  have HNN : Hid (0 ≤ val xs ∧ 0 ≤ val us) := ⟨val_nonneg wx, val_nonneg wu⟩
  have HC1 := hid (fun ww (hb : Below (((w.alloc (.cells #[.bool n, .slice a xs.length ca, .slice b ys.length cb] 24)).alloc (.cells #[.bool m, .slice c us.length cc, .slice d vs.length cd] 24)).alloc (.cells #[.bool false, .slice none 0 0, .slice none 0 0] 24)).heap.size (((w.alloc (.cells #[.bool n, .slice a xs.length ca, .slice b ys.length cb] 24)).alloc (.cells #[.bool m, .slice c us.length cc, .slice d vs.length cd] 24)).alloc (.cells #[.bool false, .slice none 0 0, .slice none 0 0] 24)) ww) => told1_at _ HK.out ww hb (rcommon_any _ _ xs vs ww (HSL.out.1.later hb) (HSL.out.2.2.2.later hb) (by omega) (by omega) tx tv))
  have HC2 := hid (fun ww (hb : Below (((w.alloc (.cells #[.bool n, .slice a xs.length ca, .slice b ys.length cb] 24)).alloc (.cells #[.bool m, .slice c us.length cc, .slice d vs.length cd] 24)).alloc (.cells #[.bool false, .slice none 0 0, .slice none 0 0] 24)).heap.size (((w.alloc (.cells #[.bool n, .slice a xs.length ca, .slice b ys.length cb] 24)).alloc (.cells #[.bool m, .slice c us.length cc, .slice d vs.length cd] 24)).alloc (.cells #[.bool false, .slice none 0 0, .slice none 0 0] 24)) ww) => told1_at _ HK.out ww hb (rcommon_any _ _ us ys ww (HSL.out.2.2.1.later hb) (HSL.out.2.1.later hb) (by omega) (by omega) tu ty))
  -- quotients by what was found, at each world behind it
  have HQX := hid (fun ww (hv' : Below (((w.alloc (.cells #[.bool n, .slice a xs.length ca, .slice b ys.length cb] 24)).alloc (.cells #[.bool m, .slice c us.length cc, .slice d vs.length cd] 24)).alloc (.cells #[.bool false, .slice none 0 0, .slice none 0 0] 24)).heap.size (((w.alloc (.cells #[.bool n, .slice a xs.length ca, .slice b ys.length cb] 24)).alloc (.cells #[.bool m, .slice c us.length cc, .slice d vs.length cd] 24)).alloc (.cells #[.bool false, .slice none 0 0, .slice none 0 0] 24)) ww) (a1 : Option Addr) (z1 : List Int) (c1 : Nat) (h : One (((w.alloc (.cells #[.bool n, .slice a xs.length ca, .slice b ys.length cb] 24)).alloc (.cells #[.bool m, .slice c us.length cc, .slice d vs.length cd] 24)).alloc (.cells #[.bool false, .slice none 0 0, .slice none 0 0] 24)) ww (.slice a1 z1.length c1) z1 (gcdI (val xs) (val vs))) => quot_by _ HK.out hv' (HSL.out.1.later hv') (by omega) tx h HF0.out.1 (by have := HF0.out; have := HL.out; omega))
  have HQV := hid (fun ww (hv' : Below (((w.alloc (.cells #[.bool n, .slice a xs.length ca, .slice b ys.length cb] 24)).alloc (.cells #[.bool m, .slice c us.length cc, .slice d vs.length cd] 24)).alloc (.cells #[.bool false, .slice none 0 0, .slice none 0 0] 24)).heap.size (((w.alloc (.cells #[.bool n, .slice a xs.length ca, .slice b ys.length cb] 24)).alloc (.cells #[.bool m, .slice c us.length cc, .slice d vs.length cd] 24)).alloc (.cells #[.bool false, .slice none 0 0, .slice none 0 0] 24)) ww) (a1 : Option Addr) (z1 : List Int) (c1 : Nat) (h : One (((w.alloc (.cells #[.bool n, .slice a xs.length ca, .slice b ys.length cb] 24)).alloc (.cells #[.bool m, .slice c us.length cc, .slice d vs.length cd] 24)).alloc (.cells #[.bool false, .slice none 0 0, .slice none 0 0] 24)) ww (.slice a1 z1.length c1) z1 (gcdI (val xs) (val vs))) => quot_by _ HK.out hv' (HSL.out.2.2.2.later hv') (by omega) tv h HF0.out.1 (by have := HF0.out; have := HL.out; omega))
  have HQU := hid (fun ww (hv' : Below (((w.alloc (.cells #[.bool n, .slice a xs.length ca, .slice b ys.length cb] 24)).alloc (.cells #[.bool m, .slice c us.length cc, .slice d vs.length cd] 24)).alloc (.cells #[.bool false, .slice none 0 0, .slice none 0 0] 24)).heap.size (((w.alloc (.cells #[.bool n, .slice a xs.length ca, .slice b ys.length cb] 24)).alloc (.cells #[.bool m, .slice c us.length cc, .slice d vs.length cd] 24)).alloc (.cells #[.bool false, .slice none 0 0, .slice none 0 0] 24)) ww) (a1 : Option Addr) (z1 : List Int) (c1 : Nat) (h : One (((w.alloc (.cells #[.bool n, .slice a xs.length ca, .slice b ys.length cb] 24)).alloc (.cells #[.bool m, .slice c us.length cc, .slice d vs.length cd] 24)).alloc (.cells #[.bool false, .slice none 0 0, .slice none 0 0] 24)) ww (.slice a1 z1.length c1) z1 (gcdI (val us) (val ys))) => quot_by _ HK.out hv' (HSL.out.2.2.1.later hv') (by omega) tu h HF0.out.2.2.1 (by have := HF0.out; have := HL.out; omega))
  have HQY := hid (fun ww (hv' : Below (((w.alloc (.cells #[.bool n, .slice a xs.length ca, .slice b ys.length cb] 24)).alloc (.cells #[.bool m, .slice c us.length cc, .slice d vs.length cd] 24)).alloc (.cells #[.bool false, .slice none 0 0, .slice none 0 0] 24)).heap.size (((w.alloc (.cells #[.bool n, .slice a xs.length ca, .slice b ys.length cb] 24)).alloc (.cells #[.bool m, .slice c us.length cc, .slice d vs.length cd] 24)).alloc (.cells #[.bool false, .slice none 0 0, .slice none 0 0] 24)) ww) (a1 : Option Addr) (z1 : List Int) (c1 : Nat) (h : One (((w.alloc (.cells #[.bool n, .slice a xs.length ca, .slice b ys.length cb] 24)).alloc (.cells #[.bool m, .slice c us.length cc, .slice d vs.length cd] 24)).alloc (.cells #[.bool false, .slice none 0 0, .slice none 0 0] 24)) ww (.slice a1 z1.length c1) z1 (gcdI (val us) (val ys))) => quot_by _ HK.out hv' (HSL.out.2.1.later hv') (by omega) ty h HF0.out.2.2.1 (by have := HF0.out; have := HL.out; omega))
  have HPR := hid (fun ww (hv' : Below (((w.alloc (.cells #[.bool n, .slice a xs.length ca, .slice b ys.length cb] 24)).alloc (.cells #[.bool m, .slice c us.length cc, .slice d vs.length cd] 24)).alloc (.cells #[.bool false, .slice none 0 0, .slice none 0 0] 24)).heap.size (((w.alloc (.cells #[.bool n, .slice a xs.length ca, .slice b ys.length cb] 24)).alloc (.cells #[.bool m, .slice c us.length cc, .slice d vs.length cd] 24)).alloc (.cells #[.bool false, .slice none 0 0, .slice none 0 0] 24)) ww) (a1 : Option Addr) (z1 : List Int) (c1 : Nat) (s1 : Int) (h : One (((w.alloc (.cells #[.bool n, .slice a xs.length ca, .slice b ys.length cb] 24)).alloc (.cells #[.bool m, .slice c us.length cc, .slice d vs.length cd] 24)).alloc (.cells #[.bool false, .slice none 0 0, .slice none 0 0] 24)) ww (.slice a1 z1.length c1) z1 s1) (a2 : Option Addr) (z2 : List Int) (c2 : Nat) (s2 : Int) (g : One (((w.alloc (.cells #[.bool n, .slice a xs.length ca, .slice b ys.length cb] 24)).alloc (.cells #[.bool m, .slice c us.length cc, .slice d vs.length cd] 24)).alloc (.cells #[.bool false, .slice none 0 0, .slice none 0 0] 24)) ww (.slice a2 z2.length c2) z2 s2) (k1 : s1 < 4294967296 ^ 2048) (k2 : s2 < 4294967296 ^ 2048) => told1_at _ HK.out ww hv' (show Calls Tryz.prog 78 #[.slice a1 z1.length c1, .slice a2 z2.length c2] ww (Told1 ww (s1 * s2)) by
    have e := rprod_any _ _ z1 z2 ww h.sl g.sl (by have := own_len h k1; have := own_len g k2; omega) h.2.2.1 g.2.2.1
    rw [h.2.2.2, g.2.2.2] at e
    exact e))
  have HD : Hid (val xs / gcdI (val xs) (val vs) < 4294967296 ^ 2048 ∧ val us / gcdI (val us) (val ys) < 4294967296 ^ 2048 ∧ val ys / gcdI (val us) (val ys) < 4294967296 ^ 2048 ∧ val vs / gcdI (val xs) (val vs) < 4294967296 ^ 2048) := by
    have q1 := Int.ediv_le_self (gcdI (val xs) (val vs)) HNN.out.1
    have q2 := Int.ediv_le_self (gcdI (val us) (val ys)) HNN.out.2
    have q3 := Int.ediv_le_self (a := val ys) (gcdI (val us) (val ys)) (by omega)
    have q4 := Int.ediv_le_self (a := val vs) (gcdI (val xs) (val vs)) (by omega)
    have := HL.out
    refine ⟨?_, ?_, ?_, ?_⟩ <;> omega
  have hs0 := HK.out _ (Below.drew (Below.refl _ (((w.alloc (.cells #[.bool n, .slice a xs.length ca, .slice b ys.length cb] 24)).alloc (.cells #[.bool m, .slice c us.length cc, .slice d vs.length cd] 24)).alloc (.cells #[.bool false, .slice none 0 0, .slice none 0 0] 24))))
  go_enter Tryz.func50, Tryz.ntmps50
  go_wp2_with fail
  go_region_held3 (fun w' : World => w'.cell? ⟨w.heap.size, 0, none⟩ = some (.bool n) ∧ w'.cell? ⟨w.heap.size, 1, none⟩ = some (.slice a xs.length ca) ∧ w'.cell? ⟨w.heap.size, 2, none⟩ = some (.slice b ys.length cb) ∧ w'.cell? ⟨w.heap.size + 1, 0, none⟩ = some (.bool m) ∧ w'.cell? ⟨w.heap.size + 1, 1, none⟩ = some (.slice c us.length cc) ∧ w'.cell? ⟨w.heap.size + 1, 2, none⟩ = some (.slice d vs.length cd)) (first | exact hs2 | exact hs1 | exact hs0)
    (first
      | (go_at_call 54; with_reducible refine Calls.mono (HC2.out _ hb1) ?_; rintro e w2 ⟨a2, z2, c2, rfl, HE2, hs2, hb2, HS2⟩)
      | (go_at_call 54; with_reducible refine Calls.mono (HC1.out _ (Below.drew (Below.refl _ _))) ?_; rintro e w1 ⟨a1, z1, c1, rfl, HE1, hs1, hb1, HS1⟩))
  have hb2d := hb2.drew
  have HO1 := hid ((HE1.out.later HS2.out).later (Below.drew (Below.refl _ w2)))
  have HO2 := hid (HE2.out.later (Below.drew (Below.refl _ w2)))
  have hs0 := HK.out _ hb2d
  clear hs1 hs2 hb1 HC1 HC2 HE1 HE2 HS1 HS2
  go_wp2_with fail
  go_region_held3 (fun w' : World => w'.cell? ⟨w.heap.size, 0, none⟩ = some (.bool n) ∧ w'.cell? ⟨w.heap.size, 1, none⟩ = some (.slice a xs.length ca) ∧ w'.cell? ⟨w.heap.size, 2, none⟩ = some (.slice b ys.length cb) ∧ w'.cell? ⟨w.heap.size + 1, 0, none⟩ = some (.bool m) ∧ w'.cell? ⟨w.heap.size + 1, 1, none⟩ = some (.slice c us.length cc) ∧ w'.cell? ⟨w.heap.size + 1, 2, none⟩ = some (.slice d vs.length cd)) (first | exact hs5 | exact hs4 | exact hs3 | exact hs0)
    (first
      | (go_at_call 78; with_reducible refine Calls.mono (HPR.out _ hb4 _ _ _ _ (HE3.out.later HS4.out) _ _ _ _ HE4.out HD.out.1 HD.out.2.1) ?_; rintro e w5 ⟨a5, z5, c5, rfl, HE5, hs5, hb5, HS5⟩)
      | (go_at_call 55; with_reducible refine Calls.mono (HQU.out _ hb3 _ _ _ (HO2.out.later HS3.out)) ?_; rintro e w4 ⟨a4, z4, c4, rfl, HE4, hs4, hb4, HS4⟩)
      | (go_at_call 55; with_reducible refine Calls.mono (HQX.out _ hb2d _ _ _ HO1.out) ?_; rintro e w3 ⟨a3, z3, c3, rfl, HE3, hs3, hb3, HS3⟩))
  have hb5d := hb5.drew
  have HO1' := hid ((((HO1.out.later HS3.out).later HS4.out).later HS5.out).later (Below.drew (Below.refl _ w5)))
  have HO2' := hid ((((HO2.out.later HS3.out).later HS4.out).later HS5.out).later (Below.drew (Below.refl _ w5)))
  have HO5 := hid (HE5.out.later (Below.drew (Below.refl _ w5)))
  clear hs0 hs3 hs4 hs5 HO1 HO2 hb3 hb4 hb2 hb2d HE3 HE4 HE5 HS3 HS4 HS5
  have hs0 := HK.out _ hb5d
  go_wp2_with fail
  go_region_held3 (fun w' : World => w'.cell? ⟨w.heap.size, 0, none⟩ = some (.bool n) ∧ w'.cell? ⟨w.heap.size, 1, none⟩ = some (.slice a xs.length ca) ∧ w'.cell? ⟨w.heap.size, 2, none⟩ = some (.slice b ys.length cb) ∧ w'.cell? ⟨w.heap.size + 1, 0, none⟩ = some (.bool m) ∧ w'.cell? ⟨w.heap.size + 1, 1, none⟩ = some (.slice c us.length cc) ∧ w'.cell? ⟨w.heap.size + 1, 2, none⟩ = some (.slice d vs.length cd)) (first | exact hs8 | exact hs7 | exact hs6 | exact hs0)
    (first
      | (go_at_call 78; with_reducible refine Calls.mono (HPR.out _ hb7 _ _ _ _ (HE6.out.later HS7.out) _ _ _ _ HE7.out HD.out.2.2.1 HD.out.2.2.2) ?_; rintro e w8 ⟨a8, z8, c8, rfl, HE8, hs8, hb8, HS8⟩)
      | (go_at_call 55; with_reducible refine Calls.mono (HQV.out _ hb6 _ _ _ (HO1'.out.later HS6.out)) ?_; rintro e w7 ⟨a7, z7, c7, rfl, HE7, hs7, hb7, HS7⟩)
      | (go_at_call 55; with_reducible refine Calls.mono (HQY.out _ hb5d _ _ _ HO2'.out) ?_; rintro e w6 ⟨a6, z6, c6, rfl, HE6, hs6, hb6, HS6⟩))
  have HN := hid (((HO5.out.later HS6.out).later HS7.out).later HS8.out)
  have hmp := mul_parts (n := n) (m := m) HP.out.1 HP.out.2.1 HP.out.2.2.1 HP.out.2.2.2 rfl rfl rfl rfl
  have HT := hid (fun ww (hb : Below (((w.alloc (.cells #[.bool n, .slice a xs.length ca, .slice b ys.length cb] 24)).alloc (.cells #[.bool m, .slice c us.length cc, .slice d vs.length cd] 24)).alloc (.cells #[.bool false, .slice none 0 0, .slice none 0 0] 24)).heap.size (((w.alloc (.cells #[.bool n, .slice a xs.length ca, .slice b ys.length cb] 24)).alloc (.cells #[.bool m, .slice c us.length cc, .slice d vs.length cd] 24)).alloc (.cells #[.bool false, .slice none 0 0, .slice none 0 0] 24)) ww) (g1 : One (((w.alloc (.cells #[.bool n, .slice a xs.length ca, .slice b ys.length cb] 24)).alloc (.cells #[.bool m, .slice c us.length cc, .slice d vs.length cd] 24)).alloc (.cells #[.bool false, .slice none 0 0, .slice none 0 0] 24)) ww (.slice a5 z5.length c5) z5 _) (g2 : One (((w.alloc (.cells #[.bool n, .slice a xs.length ca, .slice b ys.length cb] 24)).alloc (.cells #[.bool m, .slice c us.length cc, .slice d vs.length cd] 24)).alloc (.cells #[.bool false, .slice none 0 0, .slice none 0 0] 24)) ww (.slice a8 z8.length c8) z8 _) => rtold_at _ HK.out hb g1 g2 hmp.1 hmp.2.1 hmp.2.2)
  obtain ⟨g0, g1, g2, g3, g4, g5⟩ := hs8
  have HBX := hid hb8
  have HE8' := hid HE8.out
  clear hs0 hs6 hs7 hb5 hb5d hb6 hb7 hb8 HO1' HO2' HO5 HE6 HE7 HE8 HS6 HS7 HS8 hmp HQX HQV HQU HQY HPR
  go_wp2_with fail
  refine Calls.mono (HT.out _ HBX.out HN.out HE8'.out) ?_
  rintro e w9 ⟨k9, a9, z9, c9, aA, zA, cA, code, rfl, HR, _, hb9⟩
  obtain ⟨y0, y1, y2, f0, f1, f2⟩ := res_box3 HZ.out hb9
  have HBW := hid (bt HB.out hb9)
  clear hb9 g0 g1 g2 g3 g4 g5 HT HN HE8'
  go_wp2_with fail
  refine bodyPost_ret (v := .tuple #[.agg #[.bool k9, .slice a9 z9.length c9, .slice aA zA.length cA], .int .i64 code]) (by simp [results, Tryz.results50, go_sem, y0, y1, y2]) rfl ?_
  exact RTold.put HR.out (w.heap.size + 1 + 1) HXS.out (by omega) HBW.out _ _ _
end Go.Proofs.YtbnhpkelnoolhaaGreatDoor

/- Whole numbers: whole.divide, DivMod as in Wh6, and besides: quotient and rest lie apart. -/
namespace Go.Proofs.YtbnhpkelnoolhaaGreatDoor
open Go.RowKit
set_option linter.unusedVariables false

/-- The first lies below a cut, the second from it on: both new. -/
def Cut (w : World) (v u : Value) (w' : World) : Prop := ∃ c, w.heap.size ≤ c ∧ c ≤ w'.heap.size ∧ Lies v w.heap.size c ∧ Lies u c w'.heap.size
theorem Cut.up {w w' W W' : World} {v u : Value} (h : Cut w v u w') (h0 : W.heap.size ≤ w.heap.size) (h1 : w'.heap.size ≤ W'.heap.size) : Cut W v u W' := by
  obtain ⟨c, c0, c1, l0, l1⟩ := h
  exact ⟨c, Nat.le_trans h0 c0, Nat.le_trans c1 h1, fun g hg => ⟨Nat.le_trans h0 (l0 g hg).1, (l0 g hg).2⟩, fun g hg => ⟨(l1 g hg).1, Nat.lt_of_lt_of_le (l1 g hg).2 h1⟩⟩

set_option maxHeartbeats 800000 in
set_option maxRecDepth 100000 in
theorem divMod_cut (v u : Value) (xs ys : List Int) (w : World) (h : Sl w v xs) (g : Sl w u ys) (lx : xs.length ≤ 8192) (ly : ys.length ≤ 8192) (tx : Trimmed xs) (ty : Trimmed ys) (h0 : 0 < ys.length) :
    Calls Tryz.prog 83 #[v, u] w fun e w' => ∃ v1 u1 q r, e = .returned (.tuple #[v1, u1, .int .i64 0]) ∧ w'.ownsRow w.heap.size 40 1 v1 q.length (q.map (Value.int .u32)) ∧ w'.ownsRow w.heap.size 40 1 u1 r.length (r.map (Value.int .u32)) ∧ Wd q ∧ Wd r ∧ Trimmed q ∧ Trimmed r ∧ val xs = val q * val ys + val r ∧ val r < val ys ∧ Below w.heap.size w w' ∧ Cut w v1 u1 w' := by
  have HB := hid (checkBoth_sl v u xs ys w h g (by omega) (by omega))
  rw [both_good (chk_good lx tx) (chk_good ly ty)] at HB
  have HD : Hid (Calls Tryz.prog 110 #[v, u] w (Divided w xs ys)) := divide_any v u xs ys w h g lx ly tx ty h0
  obtain ⟨b, cap', rfl, gr⟩ := g
  have hz : ((ys.length : Int) == 0) = false := by simp; exact fun e => by rw [e] at h0; simp at h0
  clear gr h ty
  go_enter Tryz.func83, Tryz.ntmps83
  go_wp2_with fail
  refine Calls.mono HB.out ?_
  rintro e w' ⟨rfl, rfl⟩
  go_wp2_with fail
  refine Calls.mono HD.out ?_
  rintro e w1 ⟨v1, u1, q, r, c, rfl, oq, orr, i1, i2, i3, i4, wq, wr, tq, tr, hv, hlt, hbel⟩
  have HCU : Hid (Cut w v1 u1 w1) := ⟨c, i3, i4, i1, i2⟩
  have HQ := hid oq
  have HR := hid orr
  have HV := hid hv
  have HLT := hid hlt
  clear oq orr hv hlt i1 i2 i3 i4
  go_wp2
  go_ret3
  exact ⟨v1, u1, q, r, rfl, HQ.out, HR.out, wq, wr, tq, tr, HV.out, HLT.out, hbel, HCU.out⟩

/-- A size and a rest, in new memory, apart. -/
def WPartsA (w : World) (n : Bool) (xs ys : List Int) (x : Ending) (w' : World) : Prop := ∃ v1 u1 q r, x = .returned (.tuple #[v1, u1]) ∧ w'.ownsRow w.heap.size 40 1 v1 q.length (q.map (Value.int .u32)) ∧ w'.ownsRow w.heap.size 40 1 u1 r.length (r.map (Value.int .u32)) ∧ Wd q ∧ Wd r ∧ Trimmed q ∧ Trimmed r ∧ q.length ≤ 2048 ∧ r.length ≤ 2048 ∧
  val xs = val q * val ys + sg n (val r) ∧ val r < val ys ∧ Below w.heap.size w w' ∧ Cut w v1 u1 w'
set_option maxHeartbeats 3200000 in
set_option maxRecDepth 100000 in
theorem wdivide_cut (n : Bool) (v : Value) (xs : List Int) (m0 : Bool) (u : Value) (ys : List Int) (w : World) (h : Sl w v xs) (g : Sl w u ys) (lx : xs.length ≤ 2048) (ly : ys.length ≤ 2048) (tx : Trimmed xs) (ty : Trimmed ys) (h0 : 0 < ys.length) :
    Calls Tryz.prog 81 #[.agg #[.bool n, v], .agg #[.bool m0, u]] w (WPartsA w n xs ys) := by
  have wx := h.wd
  have wy := g.wd
  have HY1 := hid (val_pos' wy ty h0)
  have HXL := hid (below2048 wx lx)
  have HYL := hid (below2048 wy ly)
  obtain ⟨a, cap, rfl, hr⟩ := h
  obtain ⟨b, cap', rfl, gr⟩ := g
  have h : Sl w (.slice a xs.length cap) xs := ⟨a, cap, rfl, hr⟩
  have g : Sl w (.slice b ys.length cap') ys := ⟨b, cap', rfl, gr⟩
  clear hr gr
  have HB : Hid (Below w.heap.size w ((w.alloc (.cells #[.bool n, .slice a xs.length cap] 49)).alloc (.cells #[.bool m0, .slice b ys.length cap'] 49))) := bt (alloc_later _ _) (alloc_later _ _)
  have HN : Hid (Box ((w.alloc (.cells #[.bool n, .slice a xs.length cap] 49)).alloc (.cells #[.bool m0, .slice b ys.length cap'] 49)) w.heap.size 49 #[.bool n, .slice a xs.length cap]) := Box.later (Box.made w _ _) (alloc_later _ _) (by simp)
  have HM : Hid (Box ((w.alloc (.cells #[.bool n, .slice a xs.length cap] 49)).alloc (.cells #[.bool m0, .slice b ys.length cap'] 49)) (w.heap.size + 1) 49 #[.bool m0, .slice b ys.length cap']) := by
    have e := Box.made (w.alloc (.cells #[.bool n, .slice a xs.length cap] 49)) 49 #[.bool m0, .slice b ys.length cap']
    simp at e
    exact e
  have HXS : Hid (w.heap.size ≤ ((w.alloc (.cells #[.bool n, .slice a xs.length cap] 49)).alloc (.cells #[.bool m0, .slice b ys.length cap'] 49)).heap.size) := HB.out.size
  have HD := hid (divMod_cut _ _ xs ys _ (h.later HB.out) (g.later HB.out) (by omega) (by omega) tx ty h0)
  have HG := hid (g.later HB.out)
  clear h g
  cases n with
  | false =>
    go_enter Tryz.func81, Tryz.ntmps81
    go_wp2_with fail
    refine Calls.mono HD.out ?_
    rintro e w1 ⟨v1, u1, q, r, rfl, oq, orr, wq, wr, tq, tr, hv, hlt, hb1, hcu⟩
    obtain ⟨p0, p1, _, _⟩ := res_box HN.out hb1
    obtain ⟨q0, q1, _, _⟩ := res_box HM.out hb1
    have hq := q_le hv HY1.out (val_nonneg wq) (val_nonneg wr)
    have hr0 := val_nonneg wr
    have HF : Hid (WPartsA w false xs ys (.returned (.tuple #[v1, u1])) w1) := ⟨v1, u1, q, r, rfl, owns_base oq HXS.out, owns_base orr HXS.out, wq, wr, tq, tr, short2048 wq tq (by have := HXL.out; omega), short2048 wr tr (by have := HYL.out; omega), hv, hlt, bt HB.out hb1, hcu.up HXS.out (Nat.le_refl _)⟩
    obtain ⟨a1, k1, hv1⟩ := own_slice' oq
    obtain ⟨a2, k2, hv2⟩ := own_slice' orr
    subst hv1
    subst hv2
    clear oq orr hv hlt hb1 hcu hq hr0
    go_wp2_with fail
    go_ret2
    exact HF.out
  | true =>
    go_enter Tryz.func81, Tryz.ntmps81
    go_wp2_with fail
    refine Calls.mono HD.out ?_
    rintro e w1 ⟨v1, u1, q, r, rfl, oq, orr, wq, wr, tq, tr, hv, hlt, hb1, hcu⟩
    obtain ⟨p0, p1, _, _⟩ := res_box HN.out hb1
    obtain ⟨q0, q1, _, _⟩ := res_box HM.out hb1
    have hq := q_le hv HY1.out (val_nonneg wq) (val_nonneg wr)
    have hr0 := val_nonneg wr
    have hq0 := val_nonneg wq
    by_cases hr : r.length = 0
    · have hrn : r = [] := List.eq_nil_of_length_eq_zero hr
      subst hrn
      have HF : Hid (WPartsA w true xs ys (.returned (.tuple #[v1, u1])) w1) := ⟨v1, u1, q, [], rfl, owns_base oq HXS.out, owns_base orr HXS.out, wq, wr, tq, tr, short2048 wq tq (by have := HXL.out; omega), by simp, by rw [hv]; rfl, hlt, bt HB.out hb1, hcu.up HXS.out (Nat.le_refl _)⟩
      obtain ⟨a1, k1, hv1⟩ := own_slice' oq
      obtain ⟨a2, k2, hv2⟩ := own_slice' orr
      subst hv1
      subst hv2
      clear oq orr hv hlt hb1 hcu hq hr0 hr
      go_wp2_with fail
      go_ret2
      exact HF.out
    · have hr1 := val_pos' wr tr (by omega)
      have hrb : ((r.length : Int) == 0) = false := by simp; exact fun e => hr (by rw [e]; rfl)
      have lq : q.length ≤ 2048 := short2048 wq tq (by have := HXL.out; omega)
      have lr : r.length ≤ 2048 := short2048 wr tr (by have := HYL.out; omega)
      have HQ := hid (Sl.own oq wq)
      have HR := hid (Sl.own orr wr)
      obtain ⟨a1, k1, hv1⟩ := own_slice' oq
      obtain ⟨a2, k2, hv2⟩ := own_slice' orr
      subst hv1
      subst hv2
      have HOF := hid (of_any 1 w1 (by omega) (by omega))
      have HB1 := hid hb1
      have HVL := hid (And.intro hv (And.intro hlt (And.intro hq (And.intro hr0 (And.intro hq0 hr1)))))
      clear oq orr hv hlt hb1 hcu hq hr0 hq0 hr1 hr HD
      go_wp2_with fail
      refine Calls.mono HOF.out ?_
      rintro e w2 ⟨v2, rfl, o2, hb2⟩
      have s2 := Sl.own (owns_len o2) (of_wd 1 (by omega) (by omega)).trimmed
      have e2 : trimmed [1 % 4294967296, 1 / 4294967296] = [1] := by decide
      rw [e2] at s2
      have HAD := hid (add_sl _ _ q [1] w2 (HQ.out.later hb2) s2 (by omega) (by simp))
      rw [both_good (chk_good (by omega) tq) (chk_good (by simp) (show Trimmed [1] from rfl)), val_one] at HAD
      have HB2 := hid (bt HB1.out hb2)
      have HR2 := hid (HR.out.later hb2)
      clear o2 hb2 s2 e2 HOF HR HQ p0 p1 q0 q1
      go_wp2_with fail
      refine Calls.mono HAD.out ?_
      rintro e w3 ⟨v3, z3, c3, rfl, o3, t3, hb3⟩
      have hw3 : val q + 1 < wide := by have := HVL.out; have := HXL.out; have := wide2048; omega
      obtain ⟨rfl, hv3⟩ := t3.good rfl hw3
      have w3' := t3.wd
      have tt3 := t3.trim
      obtain ⟨a3, k3, hs3⟩ := own_slice' o3
      subst hs3
      obtain ⟨q0, q1, _, _⟩ := res_box HM.out (bt HB2.out hb3)
      have HSB := hid (sub_sl _ _ ys r w3 ((HG.out.later HB2.out).later hb3) (HR2.out.later hb3) (by omega) (by omega))
      rw [if_pos (both_good (chk_good (by omega) ty) (chk_good (by omega) tr)), if_neg (by have := HVL.out.2.1; omega)] at HSB
      have HB3 := hid (bt HB2.out hb3)
      have HO3 := hid o3
      have HV3 := hid hv3
      clear o3 t3 hb3 hv3 hw3 HAD HR2
      go_wp2_with fail
      refine Calls.mono HSB.out ?_
      rintro e w4 ⟨v4, z4, c4, rfl, o4, t4, hb4⟩
      have hw4 : val ys - val r < wide := by have := HVL.out; have := HYL.out; have := wide2048; omega
      obtain ⟨rfl, hv4⟩ := t4.good rfl hw4
      have w4' := t4.wd
      have tt4 := t4.trim
      obtain ⟨a4, k4, hs4⟩ := own_slice' o4
      subst hs4
      have HF : Hid (WPartsA w true xs ys (.returned (.tuple #[.slice a3 z3.length k3, .slice a4 z4.length k4])) w4) := by
        obtain ⟨g1, g2, g3, g4, g5, g6⟩ := HVL.out
        refine ⟨_, _, z3, z4, rfl, owns_base (owns_later HO3.out hb4) (by have := HXS.out; have := HB2.out.size; omega), owns_base o4 (by have := HXS.out; have := HB3.out.size; omega), w3', w4', tt3, tt4, short2048 w3' tt3 (by rw [HV3.out]; have := HXL.out; omega), short2048 w4' tt4 (by rw [hv4]; have := HYL.out; omega), ?_, by rw [hv4]; omega, bt HB.out (bt HB3.out hb4), ⟨w3.heap.size, Nat.le_trans HXS.out HB3.out.size, hb4.size, fun g hg => ⟨Nat.le_trans (Nat.le_trans HXS.out HB2.out.size) (HO3.out.lt g hg).1, (HO3.out.lt g hg).2⟩, fun g hg => o4.lt g hg⟩⟩
        rw [HV3.out, hv4, Int.add_mul, Int.one_mul]
        show _ = _ + -(val ys - val r)
        omega
      clear o4 t4 hb4 hv4 hw4 HSB q0 q1
      go_wp2_with fail
      go_ret2
      exact HF.out

/-- Quotient and rest of whole numbers, in new memory, apart. -/
def WDivA (w : World) (X Y : Int) (x : Ending) (w' : World) : Prop := ∃ nq vq zq vr zr, x = .returned (.tuple #[.agg #[.bool nq, vq], .agg #[.bool false, vr], .int .i64 0]) ∧ w'.ownsRow w.heap.size 40 1 vq zq.length (zq.map (Value.int .u32)) ∧ w'.ownsRow w.heap.size 40 1 vr zr.length (zr.map (Value.int .u32)) ∧ Wd zq ∧ Wd zr ∧ Trimmed zq ∧ Trimmed zr ∧ zq.length ≤ 2048 ∧ zr.length ≤ 2048 ∧ (nq = false ∨ 0 < zq.length) ∧
  X = wval nq zq * Y + val zr ∧ val zr < (Y.natAbs : Int) ∧ Below w.heap.size w w' ∧ Cut w vq vr w'
set_option maxHeartbeats 3200000 in
set_option maxRecDepth 100000 in
theorem wdivMod_cut (n : Bool) (v : Value) (xs : List Int) (m0 : Bool) (u : Value) (ys : List Int) (w : World) (h : Sl w v xs) (g : Sl w u ys) (hx : wchk n xs = 0) (hy : wchk m0 ys = 0) (h0 : 0 < ys.length) :
    Calls Tryz.prog 52 #[.agg #[.bool n, v], .agg #[.bool m0, u]] w (WDivA w (wval n xs) (wval m0 ys)) := by
  obtain ⟨lx, tx, _⟩ := wchk_ok hx
  obtain ⟨ly, ty, _⟩ := wchk_ok hy
  have wx := h.wd
  have wy := g.wd
  obtain ⟨a, cap, rfl, hr⟩ := h
  obtain ⟨b, cap', rfl, gr⟩ := g
  have h : Sl w (.slice a xs.length cap) xs := ⟨a, cap, rfl, hr⟩
  have g : Sl w (.slice b ys.length cap') ys := ⟨b, cap', rfl, gr⟩
  clear hr gr
  have HB : Hid (Below w.heap.size w ((((w.alloc (.cells #[.bool n, .slice a xs.length cap] 49)).alloc (.cells #[.bool m0, .slice b ys.length cap'] 49)).alloc (.cells #[.bool false, .slice none 0 0] 49)).alloc (.cells #[.bool false, .slice none 0 0] 49))) := bt (bt (bt (alloc_later _ _) (alloc_later _ _)) (alloc_later _ _)) (alloc_later _ _)
  have HN : Hid (Box ((((w.alloc (.cells #[.bool n, .slice a xs.length cap] 49)).alloc (.cells #[.bool m0, .slice b ys.length cap'] 49)).alloc (.cells #[.bool false, .slice none 0 0] 49)).alloc (.cells #[.bool false, .slice none 0 0] 49)) w.heap.size 49 #[.bool n, .slice a xs.length cap]) := Box.later (Box.made w _ _) (bt (bt (alloc_later _ _) (alloc_later _ _)) (alloc_later _ _)) (by simp)
  have HM : Hid (Box ((((w.alloc (.cells #[.bool n, .slice a xs.length cap] 49)).alloc (.cells #[.bool m0, .slice b ys.length cap'] 49)).alloc (.cells #[.bool false, .slice none 0 0] 49)).alloc (.cells #[.bool false, .slice none 0 0] 49)) (w.heap.size + 1) 49 #[.bool m0, .slice b ys.length cap']) := by
    have e := Box.later (Box.made (w.alloc (.cells #[.bool n, .slice a xs.length cap] 49)) 49 #[.bool m0, .slice b ys.length cap']) (bt (alloc_later ((w.alloc (.cells #[.bool n, .slice a xs.length cap] 49)).alloc (.cells #[.bool m0, .slice b ys.length cap'] 49)) (.cells #[.bool false, .slice none 0 0] 49)) (alloc_later _ (.cells #[.bool false, .slice none 0 0] 49))) (by simp)
    simp at e
    exact e
  have HZ1 : Hid (Box ((((w.alloc (.cells #[.bool n, .slice a xs.length cap] 49)).alloc (.cells #[.bool m0, .slice b ys.length cap'] 49)).alloc (.cells #[.bool false, .slice none 0 0] 49)).alloc (.cells #[.bool false, .slice none 0 0] 49)) (w.heap.size + 1 + 1) 49 #[.bool false, .slice none 0 0]) := by
    have e := Box.later (Box.made ((w.alloc (.cells #[.bool n, .slice a xs.length cap] 49)).alloc (.cells #[.bool m0, .slice b ys.length cap'] 49)) 49 #[.bool false, .slice none 0 0]) (alloc_later (((w.alloc (.cells #[.bool n, .slice a xs.length cap] 49)).alloc (.cells #[.bool m0, .slice b ys.length cap'] 49)).alloc (.cells #[.bool false, .slice none 0 0] 49)) (.cells #[.bool false, .slice none 0 0] 49)) (by simp)
    simp at e
    exact e
  have HZ2 : Hid (Box ((((w.alloc (.cells #[.bool n, .slice a xs.length cap] 49)).alloc (.cells #[.bool m0, .slice b ys.length cap'] 49)).alloc (.cells #[.bool false, .slice none 0 0] 49)).alloc (.cells #[.bool false, .slice none 0 0] 49)) (w.heap.size + 1 + 1 + 1) 49 #[.bool false, .slice none 0 0]) := by
    have e := Box.made (((w.alloc (.cells #[.bool n, .slice a xs.length cap] 49)).alloc (.cells #[.bool m0, .slice b ys.length cap'] 49)).alloc (.cells #[.bool false, .slice none 0 0] 49)) 49 #[.bool false, .slice none 0 0]
    simp at e
    exact e
  have HXS : Hid (w.heap.size + 1 + 1 + 1 < ((((w.alloc (.cells #[.bool n, .slice a xs.length cap] 49)).alloc (.cells #[.bool m0, .slice b ys.length cap'] 49)).alloc (.cells #[.bool false, .slice none 0 0] 49)).alloc (.cells #[.bool false, .slice none 0 0] 49)).heap.size) := HZ2.out.lt
  have HCB := hid (wcheckBoth_any n _ xs m0 _ ys _ (h.later HB.out) (g.later HB.out) (by omega) (by omega))
  rw [wboth_good hx hy] at HCB
  have HIN := hid (fun w1 (hb : Below _ ((((w.alloc (.cells #[.bool n, .slice a xs.length cap] 49)).alloc (.cells #[.bool m0, .slice b ys.length cap'] 49)).alloc (.cells #[.bool false, .slice none 0 0] 49)).alloc (.cells #[.bool false, .slice none 0 0] 49)) w1) => wdivide_cut n _ xs m0 _ ys w1 ((h.later HB.out).later hb) ((g.later HB.out).later hb) lx ly tx ty h0)
  have hyb : ((ys.length : Int) == 0) = false := by simp; exact fun e => by rw [e] at h0; simp at h0
  clear h g hx hy
  go_enter Tryz.func52, Tryz.ntmps52
  go_wp2_with fail
  refine Calls.mono HCB.out ?_
  rintro e w1 ⟨rfl, hb1⟩
  obtain ⟨p0, p1, _, _⟩ := res_box HN.out hb1
  obtain ⟨q0, q1, _, _⟩ := res_box HM.out hb1
  have HIN1 := hid (HIN.out w1 hb1)
  have HB1 := hid hb1
  clear hb1 HIN
  go_wp2_with fail
  refine Calls.mono HIN1.out ?_
  rintro e w2 ⟨v1, u1, q, r, rfl, oq, orr, wq, wr, tq, tr, lq, lr, hv, hlt, hb2, hcu⟩
  obtain ⟨a1, k1, hs1⟩ := own_slice' oq
  obtain ⟨a2, k2, hs2⟩ := own_slice' orr
  subst hs1
  subst hs2
  have HB2 := hid (bt HB1.out hb2)
  obtain ⟨p0, p1, _, _⟩ := res_box HN.out HB2.out
  obtain ⟨q0, q1, _, _⟩ := res_box HM.out HB2.out
  have HU := hid (wunlike_any n a xs.length cap m0 b ys.length cap' w2)
  have HOQ := hid (owns_base oq HB1.out.size)
  have HOR := hid (owns_base orr HB1.out.size)
  have HVV := hid (And.intro hv hlt)
  have HCU := hid (hcu.up (Nat.le_trans HB.out.size HB1.out.size) (Nat.le_refl w2.heap.size))
  clear hcu
  obtain ⟨sn, hsn⟩ : ∃ sn, (n != m0) = sn := ⟨_, rfl⟩
  rw [hsn] at HU
  have HSN := hid hsn
  clear oq orr hv hlt hb2 hsn HIN1
  go_wp2_with fail
  refine Calls.mono HU.out ?_
  rintro e w3 ⟨rfl, hb3⟩
  have HF1 := hid (formed_any sn a1 q.length k1 w3)
  have HB3 := hid (bt HB2.out hb3)
  have HS3 := hid hb3.size
  have HOQ3 := hid (owns_later HOQ.out hb3)
  have HOR3 := hid (owns_later HOR.out hb3)
  obtain ⟨nb, hnb⟩ : ∃ nb, (sn && decide (0 < q.length)) = nb := ⟨_, rfl⟩
  rw [hnb] at HF1
  have HNB := hid hnb
  clear hb3 hnb p0 p1 q0 q1 HU HOQ HOR
  go_wp2_with fail
  refine Calls.mono HF1.out ?_
  rintro e w4 ⟨rfl, hb4⟩
  have HF2 := hid (formed_any false a2 r.length k2 w4)
  have HB4 := hid (bt HB3.out hb4)
  have HS4 := hid (Nat.le_trans HS3.out hb4.size)
  have HOQ4 := hid (owns_later HOQ3.out hb4)
  have HOR4 := hid (owns_later HOR3.out hb4)
  rw [Bool.false_and] at HF2
  clear hb4 HF1 HOQ3 HOR3
  go_wp2_with fail
  refine Calls.mono HF2.out ?_
  rintro e w5 ⟨rfl, hb5⟩
  obtain ⟨r0, r1, f0, f1⟩ := res_box HZ1.out (bt HB4.out hb5)
  obtain ⟨s0, s1, g0, g1⟩ := res_box HZ2.out (bt HB4.out hb5)
  have HOQ5 := hid (owns_later HOQ4.out hb5)
  have HOR5 := hid (owns_later HOR4.out hb5)
  have HB5 := hid (bt HB.out (bt HB4.out hb5))
  have HS5 := hid (Nat.le_trans HS4.out hb5.size)
  clear hb5 HF2 HOQ4 HOR4
  go_wp2_with fail
  refine bodyPost_ret (v := .tuple #[.agg #[.bool nb, .slice a1 q.length k1], .agg #[.bool false, .slice a2 r.length k2], .int .i64 0]) (by simp [results, Tryz.results52, go_sem, r0, r1, s0, s1]) rfl ?_
  have hge : ∀ (z : Value) (zs : List Int), w5.ownsRow ((((w.alloc (.cells #[.bool n, .slice a xs.length cap] 49)).alloc (.cells #[.bool m0, .slice b ys.length cap'] 49)).alloc (.cells #[.bool false, .slice none 0 0] 49)).alloc (.cells #[.bool false, .slice none 0 0] 49)).heap.size 40 1 z zs.length (zs.map (Value.int .u32)) → ∀ g, z.ownBlock = some g → g ≠ w.heap.size + 1 + 1 ∧ g ≠ w.heap.size + 1 + 1 + 1 := fun z zs ho g hg => by
    have h1 := (World.ownsRow.lt ho g hg).1
    have h2 := HXS.out
    omega
  have hwn : wval nb q = sg sn (val q) := by
    rw [← HNB.out]
    unfold wval sg
    cases sn with
    | false => rfl
    | true =>
      by_cases c : 0 < q.length
      · simp [c]
      · have e0 : val q = 0 := trimmed_zero' (by omega)
        simp [c, e0]
  refine ⟨nb, _, q, _, r, rfl, owns_base (own_put2 (own_put2 HOQ5.out _ (fun g hg => (hge _ q HOQ5.out g hg).1) _ _) _ (fun g hg => (hge _ q HOQ5.out g hg).2) _ _) (by have := HXS.out; omega), owns_base (own_put2 (own_put2 HOR5.out _ (fun g hg => (hge _ r HOR5.out g hg).1) _ _) _ (fun g hg => (hge _ r HOR5.out g hg).2) _ _) (by have := HXS.out; omega), wq, wr, tq, tr, lq, lr, ?_, ?_, ?_, below_put2 (below_put2 HB5.out _ (by omega) _ _) _ (by omega) _ _, HCU.out.up (Nat.le_refl _) (by simpa using HS5.out)⟩
  · rw [← HNB.out]
    by_cases c : 0 < q.length
    · exact .inr c
    · left; simp [c]
  · rw [hwn, ← HSN.out]
    exact div_sign HVV.out.1
  · have e1 := HVV.out.2
    have e2 := val_nonneg wy
    unfold wval
    cases m0 <;> simp <;> omega
end Go.Proofs.YtbnhpkelnoolhaaGreatDoor

/- Fractions: ratio.Make: of two whole numbers, in whatever form; Num and Den lie apart. -/
namespace Go.Proofs.YtbnhpkelnoolhaaGreatDoor
open Go.RowKit
set_option linter.unusedVariables false

/-- A fraction told in new memory, Num and Den apart. -/
def RToldA (w : World) (e : Int) (q : Rat) (x : Ending) (w' : World) : Prop :=
  ∃ n v xs u ys code, x = .returned (.tuple #[.agg #[.bool n, v, u], .int .i64 code]) ∧ w'.ownsRow w.heap.size 40 1 v xs.length (xs.map (Value.int .u32)) ∧ w'.ownsRow w.heap.size 40 1 u ys.length (ys.map (Value.int .u32)) ∧ RTells e q n xs ys code ∧ Below w.heap.size w w' ∧ Cut w v u w'
theorem RTells.same {e : Int} {q : Rat} {n m : Bool} {xs ys us vs : List Int} {c d : Int} (h : RTells e q n xs ys c) (g : RTells e q m us vs d) : n = m ∧ xs = us ∧ ys = vs ∧ c = d := by
  by_cases he : e = 0
  · by_cases hl : rlong q
    · obtain ⟨a1, a2, a3, a4⟩ := h.long he hl
      obtain ⟨b1, b2, b3, b4⟩ := g.long he hl
      exact ⟨by rw [a1, b1], by rw [a2, b2], by rw [a3, b3], by rw [a4, b4]⟩
    · obtain ⟨a1, a2, a3⟩ := h.good he hl
      obtain ⟨b1, b2, b3⟩ := g.good he hl
      obtain ⟨_, _, tx, ty, y0, sx, gx⟩ := rchk_ok a2
      obtain ⟨_, _, tu, tv, v0, su, gu⟩ := rchk_ok b2
      have py := val_pos' h.wy ty y0
      have pv := val_pos' g.wy tv v0
      have e1 := fr_inj (x := wval n xs) (d := val ys) (y := wval m us) (e := val vs) (by omega) (by rw [show wval n xs = sg n (val xs) from rfl, gcd_sg]; exact gx) (by omega) (by rw [show wval m us = sg m (val us) from rfl, gcd_sg]; exact gu) (a3.trans b3.symm)
      have e2 : n = m ∧ xs = us := by
        have x0 := val_nonneg h.wx
        have u0 := val_nonneg g.wx
        have e3 := e1.1
        cases n <;> cases m
        · exact ⟨rfl, trimmed_eq h.wx g.wx tx tu e3⟩
        · have e4 : val xs = -(val us) := e3
          have := val_pos' g.wx tu (su.elim (fun e => by cases e) id)
          omega
        · have e4 : -(val xs) = val us := e3
          have := val_pos' h.wx tx (sx.elim (fun e => by cases e) id)
          omega
        · have e4 : -(val xs) = -(val us) := e3
          exact ⟨rfl, trimmed_eq h.wx g.wx tx tu (by omega)⟩
      exact ⟨e2.1, e2.2, trimmed_eq h.wy g.wy ty tv e1.2, by rw [a1, b1]⟩
  · obtain ⟨a1, a2, a3, a4⟩ := h.bad he
    obtain ⟨b1, b2, b3, b4⟩ := g.bad he
    exact ⟨by rw [a1, b1], by rw [a2, b2], by rw [a3, b3], by rw [a4, b4]⟩
theorem RTells.len {e : Int} {q : Rat} {n : Bool} {xs ys : List Int} {c : Int} (h : RTells e q n xs ys c) : xs.length ≤ 2048 ∧ ys.length ≤ 2048 := by
  by_cases he : e = 0
  · by_cases hl : rlong q
    · obtain ⟨_, a2, a3, _⟩ := h.long he hl
      rw [a2, a3]; simp
    · obtain ⟨l1, l2, _⟩ := rchk_ok (h.good he hl).2.1
      exact ⟨l1, l2⟩
  · obtain ⟨_, a2, a3, _⟩ := h.bad he
    rw [a2, a3]; simp
theorem make_parts {n m : Bool} {xs ys : List Int} (hx : 0 ≤ val xs) (hy : 0 < val ys) :
    0 < val ys / gcdI (val xs) (val ys) ∧ gcdI (val xs / gcdI (val xs) (val ys)) (val ys / gcdI (val xs) (val ys)) = 1 ∧ Rat.divInt (sg (n != m) (val xs / gcdI (val xs) (val ys))) (val ys / gcdI (val xs) (val ys)) = Rat.divInt (wval n xs) (wval m ys) := by
  obtain ⟨e1, e2, e3⟩ := fr_make (x := val xs) (d := val ys) (p := val xs / gcdI (val xs) (val ys)) (e := val ys / gcdI (val xs) (val ys)) hy rfl (div_gcd_left rfl) (div_gcd_right rfl)
  refine ⟨e1, e2, ?_⟩
  generalize val xs / gcdI (val xs) (val ys) = p at *
  generalize val ys / gcdI (val xs) (val ys) = e at *
  cases n <;> cases m <;> simp [sg, wval, e3, Rat.divInt_neg', ← Rat.neg_divInt]
/-- A callee's contract, at each world that may come up in a region: with what stays beside it, and where what is told lies. -/
theorem told1_in {U : World} {f : Nat} {args : Array Value} {t : Int} (S : World → Prop) (hS : ∀ w', Below U.heap.size U w' → S w') (ww : World) (hb : Below U.heap.size U ww) (C : Calls Tryz.prog f args ww (Told1 ww t)) :
    Calls Tryz.prog f args ww fun e w' => ∃ a2 zs c2, e = .returned (.slice a2 zs.length c2) ∧ Hid (One U w' (.slice a2 zs.length c2) zs t ∧ Lies (.slice a2 zs.length c2) ww.heap.size w'.heap.size) ∧ S w' ∧ Below U.heap.size U w' ∧ Hid (Below ww.heap.size ww w') :=
  Calls.mono C fun e w' h => by
    obtain ⟨v, zs, rfl, o, h1, h2, h3, hb2⟩ := h
    obtain ⟨a2, c2, hs2⟩ := own_slice' o
    subst hs2
    exact ⟨a2, zs, c2, rfl, ⟨⟨owns_base o hb.size, h1, h2, h3⟩, fun g hg => o.lt g hg⟩, hS w' (bt hb hb2), bt hb hb2, hb2⟩
theorem quot_in {U ww : World} {a : Option Addr} {ca : Nat} {xs : List Int} {a1 : Option Addr} {z1 : List Int} {c1 : Nat} {g : Int} (S : World → Prop) (hS : ∀ w', Below U.heap.size U w' → S w') (hb : Below U.heap.size U ww) (hx : Sl ww (.slice a xs.length ca) xs) (lx : xs.length ≤ 8192) (tx : Trimmed xs) (h : One U ww (.slice a1 z1.length c1) z1 g) (h0 : 0 < g) (hl : g < 4294967296 ^ 2048) :
    Calls Tryz.prog 55 #[.slice a xs.length ca, .slice a1 z1.length c1] ww fun e w' => ∃ a2 zs c2, e = .returned (.slice a2 zs.length c2) ∧ Hid (One U w' (.slice a2 zs.length c2) zs (val xs / g) ∧ Lies (.slice a2 zs.length c2) ww.heap.size w'.heap.size) ∧ S w' ∧ Below U.heap.size U w' ∧ Hid (Below ww.heap.size ww w') := by
  have e := rquot_any _ _ xs z1 ww hx h.sl lx (by have := own_len h hl; omega) tx h.2.2.1 (own_pos h h0)
  rw [h.2.2.2] at e
  exact told1_in S hS ww hb e
theorem cut_two {U u V W : World} {v w : Value} (h0 : U.heap.size ≤ u.heap.size) (h1 : u.heap.size ≤ V.heap.size) (h2 : V.heap.size ≤ W.heap.size) (l1 : Lies v u.heap.size V.heap.size) (l2 : Lies w V.heap.size W.heap.size) : Cut U v w W :=
  ⟨V.heap.size, Nat.le_trans h0 h1, h2, fun g hg => ⟨Nat.le_trans h0 (l1 g hg).1, (l1 g hg).2⟩, l2⟩
/-- What told tells, where numerator and denominator lie apart. -/
theorem rtold_cut {U ww : World} {n : Bool} {a : Option Addr} {ca : Nat} {zs : List Int} {b : Option Addr} {cb : Nat} {ds : List Int} {s t : Int} {q : Rat} (S : World → Prop) (hS : ∀ w', Below U.heap.size U w' → S w') (hb : Below U.heap.size U ww) (h1 : One U ww (.slice a zs.length ca) zs s) (h2 : One U ww (.slice b ds.length cb) ds t) (hc : Cut U (.slice a zs.length ca) (.slice b ds.length cb) ww) (hd : 0 < t) (hg : gcdI s t = 1) (hq : Rat.divInt (sg n s) t = q) :
    Calls Tryz.prog 37 #[.bool n, .slice a zs.length ca, .slice b ds.length cb] ww fun e w' => ∃ k a8 z8 c8 a9 z9 c9 code, e = .returned (.tuple #[.agg #[.bool k, .slice a8 (List.length z8) c8, .slice a9 (List.length z9) c9], .int .i64 code]) ∧ Hid (w'.ownsRow U.heap.size 40 1 (.slice a8 (List.length z8) c8) z8.length (z8.map (Value.int .u32)) ∧ w'.ownsRow U.heap.size 40 1 (.slice a9 (List.length z9) c9) z9.length (z9.map (Value.int .u32)) ∧ RTells 0 q k z8 z9 code ∧ Cut U (.slice a8 (List.length z8) c8) (.slice a9 (List.length z9) c9) w') ∧ S w' ∧ Below U.heap.size U w' := by
  obtain ⟨o1, w1, t1, v1⟩ := h1
  obtain ⟨o2, w2, t2, v2⟩ := h2
  obtain ⟨k, us, vs, c, e1, e2, e3, r⟩ := rtells_of (n := n) w1 t1 w2 t2 (by rw [v2]; exact hd) (by rw [v1, v2]; exact hg)
  rw [v1, v2, hq] at r
  refine Calls.mono (rtold_any n a zs.length ca b ds.length cb ww) fun e w' h => ?_
  obtain ⟨rfl, hb2⟩ := h
  rw [e1]
  by_cases z : c = 0
  · rw [if_pos z] at e2 e3
    subst e2; subst e3
    refine ⟨k, a, us, ca, b, vs, cb, c, by rw [if_pos z, if_pos z], ⟨owns_later o1 hb2, owns_later o2 hb2, r, hc.up (Nat.le_refl _) hb2.size⟩, hS w' (bt hb hb2), bt hb hb2⟩
  · rw [if_neg z] at e2 e3
    subst e2; subst e3
    exact ⟨k, none, [], 0, none, [], 0, c, by rw [if_neg z, if_neg z]; rfl, ⟨World.ownsRow_nil _ _ _ _, World.ownsRow_nil _ _ _ _, r, ⟨U.heap.size, Nat.le_refl _, (bt hb hb2).size, fun g hg => by simp [Value.ownBlock] at hg, fun g hg => by simp [Value.ownBlock] at hg⟩⟩, hS w' (bt hb hb2), bt hb hb2⟩
theorem RToldA.put {w U w3 : World} {e : Int} {q : Rat} {k : Bool} {v u : Value} {zs ds : List Int} {code : Int} (h : w3.ownsRow U.heap.size 40 1 v zs.length (zs.map (Value.int .u32)) ∧ w3.ownsRow U.heap.size 40 1 u ds.length (ds.map (Value.int .u32)) ∧ RTells e q k zs ds code ∧ Cut U v u w3) (b : Nat) (hb : b < U.heap.size) (hw : w.heap.size ≤ b) (hbw : Below w.heap.size w w3) (x y z : Value) :
    RToldA w e q (.returned (.tuple #[.agg #[.bool k, v, u], .int .i64 code])) (((w3.setCell ⟨b, 0, none⟩ x).setCell ⟨b, 1, none⟩ y).setCell ⟨b, 2, none⟩ z) :=
  ⟨k, v, zs, u, ds, code, rfl, owns_base (own_put3 h.1 b (fun g hg => by have := (World.ownsRow.lt h.1 g hg).1; omega) _ _ _) (by omega), owns_base (own_put3 h.2.1 b (fun g hg => by have := (World.ownsRow.lt h.2.1 g hg).1; omega) _ _ _) (by omega), h.2.2.1, below_put3 hbw b hw _ _ _, h.2.2.2.up (by omega) (by simp)⟩
/-- The error of Make. -/
def mkErr (n : Bool) (xs : List Int) (m : Bool) (ys : List Int) : Int := if wboth n xs m ys = 0 then (if ys.length = 0 then 7 else 0) else wboth n xs m ys
end Go.Proofs.YtbnhpkelnoolhaaGreatDoor

/- The laws of layer 2: lives (two of the chapter's examples hold); the document's own made, Of. -/
namespace Go.Proofs.YtbnhpkelnoolhaaGreatDoor
open Go.RowKit
set_option linter.unusedVariables false

theorem wlim_big : (18446744073709551616 : Int) ≤ wlim := by
  have : (4294967296 : Int) ^ 2 ≤ 4294967296 ^ 2048 := pw_le (by omega)
  unfold wlim
  have e : (4294967296 : Int) ^ 2 = 18446744073709551616 := by decide
  rw [e] at this
  exact this
theorem WTells.num {t : Int} {n : Bool} {zs : List Int} {code : Int} (h : WTells 0 t n zs code) (h0 : -18446744073709551616 < t) (h1 : t < 18446744073709551616) : code = 0 ∧ wval n zs = t := by
  have := wlim_big
  exact h.good rfl (by omega) (by omega)
theorem wval_pos {n : Bool} {zs : List Int} (hw : Wd zs) (h : 0 < wval n zs) : n = false ∧ val zs = wval n zs := by
  have := val_nonneg hw
  cases n with
  | false => exact ⟨rfl, rfl⟩
  | true => have e : wval true zs = -(val zs) := rfl; omega

end Go.Proofs.YtbnhpkelnoolhaaGreatDoor

/- The document's own fractions: Of: a fraction of a sign and two sizes, in its one form. -/
namespace Go.Proofs.YtbnhpkelnoolhaaGreatDoor
open Go.RowKit
set_option linter.unusedVariables false

theorem rt_zero (n : Bool) (ys : List Int) : RTells 0 (Rat.divInt (sg n (val [])) (val ys)) false [] [1] 0 := by
  have e : Rat.divInt (sg n (val [])) (val ys) = Rat.divInt 0 1 := by cases n <;> simp [sg, val, valTo]
  rw [e]
  obtain ⟨e1, e2⟩ := fr_num (x := 0) (d := 1) (by omega) (by decide)
  have hk : rchk false [] [1] = 0 := rchk_good (by simp) (by simp) rfl rfl (by simp) (.inl rfl) (by decide)
  refine ⟨Wd.nil, Wd.one (by omega), fun h => absurd rfl h, fun _ hl => ?_, fun _ _ => ⟨rfl, hk, ?_⟩⟩
  · exfalso
    unfold rlong at hl
    rw [e1, e2] at hl
    have := wlim_big
    simp at hl
    omega
  · unfold rq
    rfl
theorem RTold.later {w W W' : World} {e : Int} {q : Rat} {x : Ending} (h : RTold w e q x W) (hb : Below W.heap.size W W') : RTold w e q x W' := by
  obtain ⟨n, v, xs, u, ys, code, rfl, o1, o2, t, hbw⟩ := h
  exact ⟨n, v, xs, u, ys, code, rfl, owns_later o1 hb, owns_later o2 hb, t, bt hbw hb⟩
theorem rt_rlong {n : Bool} {zs ds : List Int} (wz : Wd zs) (tz : Trimmed zs) (wd : Wd ds) (td : Trimmed ds) (hd : 0 < val ds) (hg : gcdI (val zs) (val ds) = 1) : rlong (Rat.divInt (sg n (val zs)) (val ds)) ↔ 2048 < max zs.length ds.length := by
  have hz0 := val_nonneg wz
  obtain ⟨e1, e2⟩ := fr_num (x := sg n (val zs)) hd (by rw [gcd_sg]; exact hg)
  unfold rlong
  rw [e1, e2, abs_sg n hz0, ← len2048 wz tz, ← len2048 wd td]
  omega
theorem rt_good {n : Bool} {zs ds : List Int} (wz : Wd zs) (tz : Trimmed zs) (wd : Wd ds) (td : Trimmed ds) (hz : 0 < zs.length) (hd : 0 < val ds) (hg : gcdI (val zs) (val ds) = 1) (l1 : zs.length ≤ 2048) (l2 : ds.length ≤ 2048) : RTells 0 (Rat.divInt (sg n (val zs)) (val ds)) n zs ds 0 := by
  have hl := rt_rlong (n := n) wz tz wd td hd hg
  have hd0 : 0 < ds.length := by
    by_cases c : 0 < ds.length
    · exact c
    · have := trimmed_zero' (us := ds) (by omega); omega
  exact ⟨wz, wd, fun h => absurd rfl h, fun _ h' => absurd (hl.1 h') (by omega), fun _ _ => ⟨rfl, rchk_good l1 l2 tz td hd0 (.inr hz) hg, rfl⟩⟩
theorem rt_long {n : Bool} {zs ds : List Int} (wz : Wd zs) (tz : Trimmed zs) (wd : Wd ds) (td : Trimmed ds) (hd : 0 < val ds) (hg : gcdI (val zs) (val ds) = 1) (h : 2048 < zs.length ∨ 2048 < ds.length) : RTells 0 (Rat.divInt (sg n (val zs)) (val ds)) false [] [] 3 := by
  have hl := rt_rlong (n := n) wz tz wd td hd hg
  exact ⟨Wd.nil, Wd.nil, fun h => absurd rfl h, fun _ _ => ⟨rfl, rfl, rfl, rfl⟩, fun _ h' => absurd (hl.2 (by omega)) h'⟩

set_option maxHeartbeats 3200000 in
set_option maxRecDepth 100000 in
theorem of3_any (n : Bool) (a : Option Addr) (ca : Nat) (xs : List Int) (b : Option Addr) (cb : Nat) (ys : List Int) (w : World) (h : Sl w (.slice a xs.length ca) xs) (g : Sl w (.slice b ys.length cb) ys) (lx : xs.length ≤ 8192) (ly : ys.length ≤ 8192) (tx : Trimmed xs) (ty : Trimmed ys) (h0 : 0 < ys.length) :
    Calls Tryz.prog 41 #[.bool n, .slice a xs.length ca, .slice b ys.length cb] w (RTold w 0 (Rat.divInt (sg n (val xs)) (val ys))) := by
  have wx := h.wd
  have wy := g.wd
  have HB : Hid (Below w.heap.size w (w.alloc (.cells #[.bool false, .slice none 0 0, .slice none 0 0] 24))) := alloc_later _ _
  have HZ : Hid (Box (w.alloc (.cells #[.bool false, .slice none 0 0, .slice none 0 0] 24)) w.heap.size 24 #[.bool false, .slice none 0 0, .slice none 0 0]) := Box.made w _ _
  have HLT : Hid (w.heap.size < (w.alloc (.cells #[.bool false, .slice none 0 0, .slice none 0 0] 24)).heap.size) := HZ.out.lt
  by_cases hx : xs.length = 0
  · obtain rfl : xs = [] := List.eq_nil_of_length_eq_zero hx
    obtain ⟨K, hK⟩ : ∃ K, K = ([] : List Int).length := ⟨_, rfl⟩
    have hK0 : ((K : Int) == 0) = true := by rw [hK]; rfl
    have HT := hid (rt_zero n ys)
    have HO := hid (one3_any (w.alloc (.cells #[.bool false, .slice none 0 0, .slice none 0 0] 24)))
    rw [← hK]
    obtain ⟨q, hq⟩ : ∃ q, q = Rat.divInt (sg n (val [])) (val ys) := ⟨_, rfl⟩
    rw [← hq] at HT ⊢
    clear hx hK h g hq
    go_enter Tryz.func41, Tryz.ntmps41
    go_wp2_with fail
    refine Calls.mono HO.out ?_
    generalize (w.alloc (.cells #[.bool false, .slice none 0 0, .slice none 0 0] 24)) = X at *
    rintro e w1 ⟨g1, rfl, o1, hb1⟩
    obtain ⟨y0, y1, y2, f0, f1, f2⟩ := res_box3 HZ.out hb1
    have HR : Hid (w1.ownsRow X.heap.size 40 1 (.slice none 0 0) ([] : List Int).length (([] : List Int).map (Value.int .u32)) ∧ w1.ownsRow X.heap.size 40 1 (.slice (some ⟨g1, 0, none⟩) 1 1) [(1 : Int)].length ([(1 : Int)].map (Value.int .u32)) ∧ RTells 0 q false [] [1] 0) := ⟨World.ownsRow_nil _ _ _ _, o1, HT.out⟩
    have HBW := hid (bt HB.out hb1)
    clear o1 hb1 HO
    go_wp2_with fail
    refine bodyPost_ret (v := .tuple #[.agg #[.bool false, .slice none 0 0, .slice (some ⟨g1, 0, none⟩) 1 1], .int .i64 0]) (by simp [results, Tryz.results41, go_sem, y0, y1, y2]) rfl ?_
    exact RTold.put HR.out w.heap.size HLT.out (Nat.le_refl _) HBW.out _ _ _
  · have hx' : ((xs.length : Int) == 0) = false := beq_eq_false_iff_ne.2 (by omega)
    have hz := both_good (chk_good lx tx) (chk_good ly ty)
    have HW := hid (gcd_wide wx wy hz)
    have HG := hid (refGcd_sl _ _ xs ys (w.alloc (.cells #[.bool false, .slice none 0 0, .slice none 0 0] 24)) (h.later HB.out) (g.later HB.out) (by omega) (by omega))
    rw [hz] at HG
    have HS := hid (And.intro (h.later HB.out) (g.later HB.out))
    have HPY : Hid (0 < val ys) := by have := val_pos' wy ty h0; show _ < _; omega
    have HPX : Hid (0 < val xs) := by have := val_pos' wx tx (by omega); show _ < _; omega
    have HMP := hid (make_parts (n := n) (m := false) (val_nonneg wx) HPY.out)
    have HGP : Hid (0 < gcdI (val xs) (val ys) ∧ gcdI (val xs) (val ys) ≤ val ys ∧ gcdI (val xs) (val ys) ≤ val xs) := ⟨gcd_pos_right HPY.out, gcd_le_right HPY.out, Int.le_of_dvd HPX.out (Int.gcd_dvd_left ..)⟩
    have hnf : (n != false) = n := by cases n <;> rfl
    rw [hnf] at HMP
    have HTT := hid (And.intro tx ty)
    have HWY := hid (And.intro wx wy)
    obtain ⟨q, hq⟩ : ∃ q, q = Rat.divInt (sg n (val xs)) (val ys) := ⟨_, rfl⟩
    rw [← hq]
    have HQ := hid hq
    clear hx hz h g hq hnf tx ty wx wy
    go_enter Tryz.func41, Tryz.ntmps41
    go_wp2_with fail
    refine Calls.mono HG.out ?_
    generalize (w.alloc (.cells #[.bool false, .slice none 0 0, .slice none 0 0] 24)) = X at *
    rintro e w1 ⟨v1, z1, c1, rfl, o1, t1, hb1⟩
    obtain ⟨rfl, hv1⟩ := t1.good rfl HW.out
    obtain ⟨a1, k1, hs1⟩ := own_slice' o1
    subst hs1
    have l1 : z1.length ≤ 8192 := by
      refine Nat.le_trans (len_of_lt t1.wd t1.trim (L := ys.length) ?_) ly
      rw [hv1]
      have := HGP.out
      have := val_lt HWY.out.2
      omega
    have p1 : 0 < z1.length := by
      by_cases c : 0 < z1.length
      · exact c
      · have := trimmed_zero' (us := z1) (by omega)
        have := HGP.out
        omega
    have HS1 := hid (Sl.own o1 t1.wd)
    have HO1 := hid (over3_any _ _ xs z1 w1 (HS.out.1.later hb1) HS1.out lx l1 HTT.out.1 t1.trim p1)
    have HO2 := hid (fun ww (hb : Below w1.heap.size w1 ww) => over3_any _ _ ys z1 ww ((HS.out.2.later hb1).later hb) (HS1.out.later hb) ly l1 HTT.out.2 t1.trim p1)
    rw [hv1] at HO1 HO2
    have HB1 := hid hb1
    clear o1 t1 hv1 hb1 HG
    go_wp2_with fail
    refine Calls.mono HO1.out ?_
    rintro e w2 ⟨v2, z2, rfl, o2, wd2, tr2, hv2, hb2⟩
    obtain ⟨a2, k2, hs2⟩ := own_slice' o2
    subst hs2
    have HC2 := hid (HO2.out w2 hb2)
    have HN2 := hid (And.intro (owns_base o2 HB1.out.size) (And.intro wd2 (And.intro tr2 hv2)))
    have HB2 := hid (bt HB1.out hb2)
    clear o2 wd2 tr2 hv2 hb2 HO1 HO2 HS1
    go_wp2_with fail
    refine Calls.mono HC2.out ?_
    rintro e w3 ⟨v3, z3, rfl, o3, wd3, tr3, hv3, hb3⟩
    obtain ⟨a3, k3, hs3⟩ := own_slice' o3
    subst hs3
    have HN3 := hid (And.intro (owns_later HN2.out.1 hb3) (And.intro (owns_base o3 HB2.out.size) (And.intro wd3 (And.intro tr3 hv3))))
    have HB3 := hid (bt HB2.out hb3)
    have HBR := hid (bt HB3.out (alloc_later w3 (.cells #[.bool n, .slice a2 z2.length k2, .slice a3 z3.length k3] 24)))
    obtain ⟨y0, y1, y2, f0, f1, f2⟩ := res_box3 HZ.out HB3.out
    have hlt : w.heap.size < w3.heap.size := Nat.lt_of_lt_of_le HLT.out HB3.out.size
    have HGZ : Hid (gcdI (val z2) (val z3) = 1 ∧ 0 < val z3 ∧ 0 < z2.length) := by
      refine ⟨by rw [HN2.out.2.2.2, hv3]; exact HMP.out.2.1, by rw [hv3]; exact HMP.out.1, ?_⟩
      by_cases c : 0 < z2.length
      · exact c
      · have e0 := trimmed_zero' (us := z2) (by omega)
        have e1 := HN2.out.2.2.2
        have e2 := HGP.out
        have e3 : 1 ≤ val xs / gcdI (val xs) (val ys) := Int.le_ediv_of_mul_le e2.1 (by omega)
        omega
    have HQQ : Hid (q = Rat.divInt (sg n (val z2)) (val z3)) := by
      show _ = _
      rw [HQ.out, HN2.out.2.2.2, hv3]
      exact HMP.out.2.2.symm
    clear o3 wd3 tr3 hv3 hb3 HC2
    by_cases hl2 : 2048 < z2.length
    · have hl2' : (2048 : Int) < (z2.length : Int) := by omega
      have HR : Hid (w3.ownsRow X.heap.size 40 1 (.slice none 0 0) ([] : List Int).length (([] : List Int).map (Value.int .u32)) ∧ w3.ownsRow X.heap.size 40 1 (.slice none 0 0) ([] : List Int).length (([] : List Int).map (Value.int .u32)) ∧ RTells 0 q false [] [] 3) := ⟨World.ownsRow_nil _ _ _ _, World.ownsRow_nil _ _ _ _, by rw [HQQ.out]; exact rt_long HN2.out.2.1 HN2.out.2.2.1 HN3.out.2.2.1 HN3.out.2.2.2.1 HGZ.out.2.1 HGZ.out.1 (.inl hl2)⟩
      clear hl2 HW HMP HGP HTT HWY HQ HS HPX HPY HN2 HN3 HGZ HQQ HBR l1 p1 lx ly h0
      go_wp2_with fail
      refine bodyPost_ret (v := .tuple #[.agg #[.bool false, .slice none 0 0, .slice none 0 0], .int .i64 3]) (by simp [results, Tryz.results41, go_sem, y0, y1, y2, hlt]) rfl ?_
      exact (RTold.put HR.out w.heap.size HLT.out (Nat.le_refl _) (bt HB.out HB3.out) _ _ _).later (alloc_later _ _)
    · have hl2' : ¬ (2048 : Int) < (z2.length : Int) := by omega
      by_cases hl3 : 2048 < z3.length
      · have hl3' : (2048 : Int) < (z3.length : Int) := by omega
        have HR : Hid (w3.ownsRow X.heap.size 40 1 (.slice none 0 0) ([] : List Int).length (([] : List Int).map (Value.int .u32)) ∧ w3.ownsRow X.heap.size 40 1 (.slice none 0 0) ([] : List Int).length (([] : List Int).map (Value.int .u32)) ∧ RTells 0 q false [] [] 3) := ⟨World.ownsRow_nil _ _ _ _, World.ownsRow_nil _ _ _ _, by rw [HQQ.out]; exact rt_long HN2.out.2.1 HN2.out.2.2.1 HN3.out.2.2.1 HN3.out.2.2.2.1 HGZ.out.2.1 HGZ.out.1 (.inr hl3)⟩
        clear hl2 hl3 HW HMP HGP HTT HWY HQ HS HPX HPY HN2 HN3 HGZ HQQ HBR l1 p1 lx ly h0
        go_wp2_with fail
        refine bodyPost_ret (v := .tuple #[.agg #[.bool false, .slice none 0 0, .slice none 0 0], .int .i64 3]) (by simp [results, Tryz.results41, go_sem, y0, y1, y2, hlt]) rfl ?_
        exact (RTold.put HR.out w.heap.size HLT.out (Nat.le_refl _) (bt HB.out HB3.out) _ _ _).later (alloc_later _ _)
      · have hl3' : ¬ (2048 : Int) < (z3.length : Int) := by omega
        have HR : Hid (w3.ownsRow X.heap.size 40 1 (.slice a2 z2.length k2) z2.length (z2.map (Value.int .u32)) ∧ w3.ownsRow X.heap.size 40 1 (.slice a3 z3.length k3) z3.length (z3.map (Value.int .u32)) ∧ RTells 0 q n z2 z3 0) := ⟨HN3.out.1, HN3.out.2.1, by rw [HQQ.out]; exact rt_good HN2.out.2.1 HN2.out.2.2.1 HN3.out.2.2.1 HN3.out.2.2.2.1 HGZ.out.2.2 HGZ.out.2.1 HGZ.out.1 (by omega) (by omega)⟩
        clear hl2 hl3 HW HMP HGP HTT HWY HQ HS HPX HPY HN2 HN3 HGZ HQQ HBR l1 p1 lx ly h0
        go_wp2_with fail
        refine bodyPost_ret (v := .tuple #[.agg #[.bool n, .slice a2 z2.length k2, .slice a3 z3.length k3], .int .i64 0]) (by simp [results, Tryz.results41, go_sem, y0, y1, y2, hlt]) rfl ?_
        exact (RTold.put HR.out w.heap.size HLT.out (Nat.le_refl _) (bt HB.out HB3.out) _ _ _).later (alloc_later _ _)
end Go.Proofs.YtbnhpkelnoolhaaGreatDoor

/- Fractions: ratio.Make, ratio.Small. -/
namespace Go.Proofs.YtbnhpkelnoolhaaGreatDoor
open Go.RowKit
set_option linter.unusedVariables false

set_option maxHeartbeats 3200000 in
set_option maxRecDepth 100000 in
theorem rmake_e1 (n : Bool) (a : Option Addr) (ca : Nat) (xs : List Int) (m : Bool) (b : Option Addr) (cb : Nat) (ys : List Int) (w : World) (h : Sl w (.slice a xs.length ca) xs) (g : Sl w (.slice b ys.length cb) ys) (lx : xs.length ≤ 281474976710656) (ly : ys.length ≤ 281474976710656) (hx : wchk n xs ≠ 0) (q : Rat) :
    Calls Tryz.prog 26 #[.agg #[.bool n, .slice a xs.length ca], .agg #[.bool m, .slice b ys.length cb]] w (RToldA w (wchk n xs) q) := by
  have HB : Hid (Below w.heap.size w (((w.alloc (.cells #[.bool n, .slice a xs.length ca] 49)).alloc (.cells #[.bool m, .slice b ys.length cb] 49)).alloc (.cells #[.bool false, .slice none 0 0, .slice none 0 0] 24))) := bt (bt (alloc_later _ _) (alloc_later _ _)) (alloc_later _ _)
  have HZ : Hid (Box (((w.alloc (.cells #[.bool n, .slice a xs.length ca] 49)).alloc (.cells #[.bool m, .slice b ys.length cb] 49)).alloc (.cells #[.bool false, .slice none 0 0, .slice none 0 0] 24)) (w.heap.size + 1 + 1) 24 #[.bool false, .slice none 0 0, .slice none 0 0]) := by
    have e := Box.made ((w.alloc (.cells #[.bool n, .slice a xs.length ca] 49)).alloc (.cells #[.bool m, .slice b ys.length cb] 49)) 24 #[.bool false, .slice none 0 0, .slice none 0 0]
    simp at e
    exact e
  have HN : Hid (Box (((w.alloc (.cells #[.bool n, .slice a xs.length ca] 49)).alloc (.cells #[.bool m, .slice b ys.length cb] 49)).alloc (.cells #[.bool false, .slice none 0 0, .slice none 0 0] 24)) w.heap.size 49 #[.bool n, .slice a xs.length ca]) := Box.later (Box.later (Box.made w _ _) (alloc_later _ _) (by simp)) (alloc_later _ _) (by simp; omega)
  have HM : Hid (Box (((w.alloc (.cells #[.bool n, .slice a xs.length ca] 49)).alloc (.cells #[.bool m, .slice b ys.length cb] 49)).alloc (.cells #[.bool false, .slice none 0 0, .slice none 0 0] 24)) (w.heap.size + 1) 49 #[.bool m, .slice b ys.length cb]) := by
    have e := Box.later (Box.made (w.alloc (.cells #[.bool n, .slice a xs.length ca] 49)) 49 #[.bool m, .slice b ys.length cb]) (alloc_later ((w.alloc (.cells #[.bool n, .slice a xs.length ca] 49)).alloc (.cells #[.bool m, .slice b ys.length cb] 49)) (.cells #[.bool false, .slice none 0 0, .slice none 0 0] 24)) (by simp)
    simp at e
    exact e
  have HS := hid (And.intro (h.later HB.out) (g.later HB.out))
  have HXS : Hid (w.heap.size + 1 + 1 < (((w.alloc (.cells #[.bool n, .slice a xs.length ca] 49)).alloc (.cells #[.bool m, .slice b ys.length cb] 49)).alloc (.cells #[.bool false, .slice none 0 0, .slice none 0 0] 24)).heap.size) := HZ.out.lt
  have HC1 := hid (wcheck_any n _ xs _ HS.out.1 lx)
  obtain ⟨e1, he1⟩ : ∃ e1, wchk n xs = e1 := ⟨_, rfl⟩
  rw [he1] at HC1 hx ⊢
  have hx' : (e1 == 0) = false := beq_eq_false_iff_ne.2 hx
  have HE := hid hx
  clear he1 hx
  clear h g
  go_enter Tryz.func26, Tryz.ntmps26
  go_wp2_with fail
  refine Calls.mono HC1.out ?_
  generalize (((w.alloc (.cells #[.bool n, .slice a xs.length ca] 49)).alloc (.cells #[.bool m, .slice b ys.length cb] 49)).alloc (.cells #[.bool false, .slice none 0 0, .slice none 0 0] 24)) = X at *
  rintro e w1 ⟨rfl, hb1⟩
  have HB1 := hid hb1
  clear hb1 HC1
  obtain ⟨y0, y1, y2, f0, f1, f2⟩ := res_box3 HZ.out HB1.out
  have HBN := hid (below_put3 (bt HB.out HB1.out) (w.heap.size + 1 + 1) (by omega) (.bool false) (.slice none 0 0) (.slice none 0 0))
  clear HN HM HZ HS
  go_wp2_with fail
  refine bodyPost_ret (v := .tuple #[.agg #[.bool false, .slice none 0 0, .slice none 0 0], .int .i64 e1]) (by simp [results, Tryz.results26, go_sem, y0, y1, y2]) rfl ?_
  exact ⟨false, _, [], _, [], _, rfl, World.ownsRow_nil _ _ _ _, World.ownsRow_nil _ _ _ _, RTells.err HE.out, HBN.out, ⟨w.heap.size, Nat.le_refl _, HBN.out.size, fun g hg => by simp [Value.ownBlock] at hg, fun g hg => by simp [Value.ownBlock] at hg⟩⟩

set_option maxHeartbeats 3200000 in
set_option maxRecDepth 100000 in
theorem rmake_e2 (n : Bool) (a : Option Addr) (ca : Nat) (xs : List Int) (m : Bool) (b : Option Addr) (cb : Nat) (ys : List Int) (w : World) (h : Sl w (.slice a xs.length ca) xs) (g : Sl w (.slice b ys.length cb) ys) (lx : xs.length ≤ 281474976710656) (ly : ys.length ≤ 281474976710656) (hx : wchk n xs = 0) (hy : wchk m ys ≠ 0) (q : Rat) :
    Calls Tryz.prog 26 #[.agg #[.bool n, .slice a xs.length ca], .agg #[.bool m, .slice b ys.length cb]] w (RToldA w (wchk m ys) q) := by
  have HB : Hid (Below w.heap.size w (((w.alloc (.cells #[.bool n, .slice a xs.length ca] 49)).alloc (.cells #[.bool m, .slice b ys.length cb] 49)).alloc (.cells #[.bool false, .slice none 0 0, .slice none 0 0] 24))) := bt (bt (alloc_later _ _) (alloc_later _ _)) (alloc_later _ _)
  have HZ : Hid (Box (((w.alloc (.cells #[.bool n, .slice a xs.length ca] 49)).alloc (.cells #[.bool m, .slice b ys.length cb] 49)).alloc (.cells #[.bool false, .slice none 0 0, .slice none 0 0] 24)) (w.heap.size + 1 + 1) 24 #[.bool false, .slice none 0 0, .slice none 0 0]) := by
    have e := Box.made ((w.alloc (.cells #[.bool n, .slice a xs.length ca] 49)).alloc (.cells #[.bool m, .slice b ys.length cb] 49)) 24 #[.bool false, .slice none 0 0, .slice none 0 0]
    simp at e
    exact e
  have HN : Hid (Box (((w.alloc (.cells #[.bool n, .slice a xs.length ca] 49)).alloc (.cells #[.bool m, .slice b ys.length cb] 49)).alloc (.cells #[.bool false, .slice none 0 0, .slice none 0 0] 24)) w.heap.size 49 #[.bool n, .slice a xs.length ca]) := Box.later (Box.later (Box.made w _ _) (alloc_later _ _) (by simp)) (alloc_later _ _) (by simp; omega)
  have HM : Hid (Box (((w.alloc (.cells #[.bool n, .slice a xs.length ca] 49)).alloc (.cells #[.bool m, .slice b ys.length cb] 49)).alloc (.cells #[.bool false, .slice none 0 0, .slice none 0 0] 24)) (w.heap.size + 1) 49 #[.bool m, .slice b ys.length cb]) := by
    have e := Box.later (Box.made (w.alloc (.cells #[.bool n, .slice a xs.length ca] 49)) 49 #[.bool m, .slice b ys.length cb]) (alloc_later ((w.alloc (.cells #[.bool n, .slice a xs.length ca] 49)).alloc (.cells #[.bool m, .slice b ys.length cb] 49)) (.cells #[.bool false, .slice none 0 0, .slice none 0 0] 24)) (by simp)
    simp at e
    exact e
  have HS := hid (And.intro (h.later HB.out) (g.later HB.out))
  have HXS : Hid (w.heap.size + 1 + 1 < (((w.alloc (.cells #[.bool n, .slice a xs.length ca] 49)).alloc (.cells #[.bool m, .slice b ys.length cb] 49)).alloc (.cells #[.bool false, .slice none 0 0, .slice none 0 0] 24)).heap.size) := HZ.out.lt
  have HC1 := hid (wcheck_any n _ xs _ HS.out.1 lx)
  rw [hx] at HC1
  obtain ⟨e1, he1⟩ : ∃ e1, wchk m ys = e1 := ⟨_, rfl⟩
  have HC2 := hid (fun ww (hb : Below _ (((w.alloc (.cells #[.bool n, .slice a xs.length ca] 49)).alloc (.cells #[.bool m, .slice b ys.length cb] 49)).alloc (.cells #[.bool false, .slice none 0 0, .slice none 0 0] 24)) ww) => wcheck_any m _ ys ww (HS.out.2.later hb) ly)
  rw [he1] at HC2 hy ⊢
  have hy' : (e1 == 0) = false := beq_eq_false_iff_ne.2 hy
  have HE := hid hy
  clear he1 hy hx
  clear h g
  go_enter Tryz.func26, Tryz.ntmps26
  go_wp2_with fail
  refine Calls.mono HC1.out ?_
  generalize (((w.alloc (.cells #[.bool n, .slice a xs.length ca] 49)).alloc (.cells #[.bool m, .slice b ys.length cb] 49)).alloc (.cells #[.bool false, .slice none 0 0, .slice none 0 0] 24)) = X at *
  rintro e w1 ⟨rfl, hb1⟩
  have HB1 := hid hb1
  clear hb1 HC1
  have HC := hid (HC2.out w1 HB1.out)
  obtain ⟨q0, q1, _, _⟩ := (HM.out.later HB1.out HM.out.lt).c2
  clear HC2
  go_wp2_with fail
  refine Calls.mono HC.out ?_
  rintro e w2 ⟨rfl, hb2⟩
  have HB2 := hid (bt HB1.out hb2)
  clear hb2 HC q0 q1
  obtain ⟨y0, y1, y2, f0, f1, f2⟩ := res_box3 HZ.out HB2.out
  have HBN := hid (below_put3 (bt HB.out HB2.out) (w.heap.size + 1 + 1) (by omega) (.bool false) (.slice none 0 0) (.slice none 0 0))
  clear HN HM HZ HS
  go_wp2_with fail
  refine bodyPost_ret (v := .tuple #[.agg #[.bool false, .slice none 0 0, .slice none 0 0], .int .i64 e1]) (by simp [results, Tryz.results26, go_sem, y0, y1, y2]) rfl ?_
  exact ⟨false, _, [], _, [], _, rfl, World.ownsRow_nil _ _ _ _, World.ownsRow_nil _ _ _ _, RTells.err HE.out, HBN.out, ⟨w.heap.size, Nat.le_refl _, HBN.out.size, fun g hg => by simp [Value.ownBlock] at hg, fun g hg => by simp [Value.ownBlock] at hg⟩⟩

set_option maxHeartbeats 3200000 in
set_option maxRecDepth 100000 in
theorem rmake_z (n : Bool) (a : Option Addr) (ca : Nat) (xs : List Int) (m : Bool) (b : Option Addr) (cb : Nat) (ys : List Int) (w : World) (h : Sl w (.slice a xs.length ca) xs) (g : Sl w (.slice b ys.length cb) ys) (lx : xs.length ≤ 281474976710656) (ly : ys.length ≤ 281474976710656) (hx : wchk n xs = 0) (hy : wchk m ys = 0) (h0 : ys.length = 0) (q : Rat) :
    Calls Tryz.prog 26 #[.agg #[.bool n, .slice a xs.length ca], .agg #[.bool m, .slice b ys.length cb]] w (RToldA w 7 q) := by
  have HB : Hid (Below w.heap.size w (((w.alloc (.cells #[.bool n, .slice a xs.length ca] 49)).alloc (.cells #[.bool m, .slice b ys.length cb] 49)).alloc (.cells #[.bool false, .slice none 0 0, .slice none 0 0] 24))) := bt (bt (alloc_later _ _) (alloc_later _ _)) (alloc_later _ _)
  have HZ : Hid (Box (((w.alloc (.cells #[.bool n, .slice a xs.length ca] 49)).alloc (.cells #[.bool m, .slice b ys.length cb] 49)).alloc (.cells #[.bool false, .slice none 0 0, .slice none 0 0] 24)) (w.heap.size + 1 + 1) 24 #[.bool false, .slice none 0 0, .slice none 0 0]) := by
    have e := Box.made ((w.alloc (.cells #[.bool n, .slice a xs.length ca] 49)).alloc (.cells #[.bool m, .slice b ys.length cb] 49)) 24 #[.bool false, .slice none 0 0, .slice none 0 0]
    simp at e
    exact e
  have HN : Hid (Box (((w.alloc (.cells #[.bool n, .slice a xs.length ca] 49)).alloc (.cells #[.bool m, .slice b ys.length cb] 49)).alloc (.cells #[.bool false, .slice none 0 0, .slice none 0 0] 24)) w.heap.size 49 #[.bool n, .slice a xs.length ca]) := Box.later (Box.later (Box.made w _ _) (alloc_later _ _) (by simp)) (alloc_later _ _) (by simp; omega)
  have HM : Hid (Box (((w.alloc (.cells #[.bool n, .slice a xs.length ca] 49)).alloc (.cells #[.bool m, .slice b ys.length cb] 49)).alloc (.cells #[.bool false, .slice none 0 0, .slice none 0 0] 24)) (w.heap.size + 1) 49 #[.bool m, .slice b ys.length cb]) := by
    have e := Box.later (Box.made (w.alloc (.cells #[.bool n, .slice a xs.length ca] 49)) 49 #[.bool m, .slice b ys.length cb]) (alloc_later ((w.alloc (.cells #[.bool n, .slice a xs.length ca] 49)).alloc (.cells #[.bool m, .slice b ys.length cb] 49)) (.cells #[.bool false, .slice none 0 0, .slice none 0 0] 24)) (by simp)
    simp at e
    exact e
  have HS := hid (And.intro (h.later HB.out) (g.later HB.out))
  have HXS : Hid (w.heap.size + 1 + 1 < (((w.alloc (.cells #[.bool n, .slice a xs.length ca] 49)).alloc (.cells #[.bool m, .slice b ys.length cb] 49)).alloc (.cells #[.bool false, .slice none 0 0, .slice none 0 0] 24)).heap.size) := HZ.out.lt
  have HC1 := hid (wcheck_any n _ xs _ HS.out.1 lx)
  rw [hx] at HC1
  have HC2 := hid (fun ww (hb : Below _ (((w.alloc (.cells #[.bool n, .slice a xs.length ca] 49)).alloc (.cells #[.bool m, .slice b ys.length cb] 49)).alloc (.cells #[.bool false, .slice none 0 0, .slice none 0 0] 24)) ww) => wcheck_any m _ ys ww (HS.out.2.later hb) ly)
  rw [hy] at HC2
  have h0' : ((ys.length : Int) == 0) = true := by rw [h0]; rfl
  have HE : Hid ((7 : Int) ≠ 0) := by show _ ≠ _; omega
  clear hx hy h0
  clear h g
  go_enter Tryz.func26, Tryz.ntmps26
  go_wp2_with fail
  refine Calls.mono HC1.out ?_
  generalize (((w.alloc (.cells #[.bool n, .slice a xs.length ca] 49)).alloc (.cells #[.bool m, .slice b ys.length cb] 49)).alloc (.cells #[.bool false, .slice none 0 0, .slice none 0 0] 24)) = X at *
  rintro e w1 ⟨rfl, hb1⟩
  have HB1 := hid hb1
  clear hb1 HC1
  have HC := hid (HC2.out w1 HB1.out)
  obtain ⟨q0, q1, _, _⟩ := (HM.out.later HB1.out HM.out.lt).c2
  clear HC2
  go_wp2_with fail
  refine Calls.mono HC.out ?_
  rintro e w2 ⟨rfl, hb2⟩
  have HB2 := hid (bt HB1.out hb2)
  clear hb2 HC q0 q1
  obtain ⟨q0, q1, _, _⟩ := (HM.out.later HB2.out HM.out.lt).c2
  obtain ⟨y0, y1, y2, f0, f1, f2⟩ := res_box3 HZ.out HB2.out
  have HBN := hid (below_put3 (bt HB.out HB2.out) (w.heap.size + 1 + 1) (by omega) (.bool false) (.slice none 0 0) (.slice none 0 0))
  clear HN HM HZ HS
  go_wp2_with fail
  refine bodyPost_ret (v := .tuple #[.agg #[.bool false, .slice none 0 0, .slice none 0 0], .int .i64 7]) (by simp [results, Tryz.results26, go_sem, y0, y1, y2]) rfl ?_
  exact ⟨false, _, [], _, [], _, rfl, World.ownsRow_nil _ _ _ _, World.ownsRow_nil _ _ _ _, RTells.err HE.out, HBN.out, ⟨w.heap.size, Nat.le_refl _, HBN.out.size, fun g hg => by simp [Value.ownBlock] at hg, fun g hg => by simp [Value.ownBlock] at hg⟩⟩

set_option maxHeartbeats 6400000 in
set_option maxRecDepth 100000 in
theorem rmake_ok (n : Bool) (a : Option Addr) (ca : Nat) (xs : List Int) (m : Bool) (b : Option Addr) (cb : Nat) (ys : List Int) (w : World) (h : Sl w (.slice a xs.length ca) xs) (g : Sl w (.slice b ys.length cb) ys) (lx : xs.length ≤ 281474976710656) (ly : ys.length ≤ 281474976710656) (hx : wchk n xs = 0) (hy : wchk m ys = 0) (h0 : 0 < ys.length) :
    Calls Tryz.prog 26 #[.agg #[.bool n, .slice a xs.length ca], .agg #[.bool m, .slice b ys.length cb]] w (RToldA w 0 (Rat.divInt (wval n xs) (wval m ys))) := by
  obtain ⟨kx, tx, _⟩ := wchk_ok hx
  obtain ⟨ky, ty, _⟩ := wchk_ok hy
  have wx := h.wd
  have wy := g.wd
  have HB : Hid (Below w.heap.size w (((w.alloc (.cells #[.bool n, .slice a xs.length ca] 49)).alloc (.cells #[.bool m, .slice b ys.length cb] 49)).alloc (.cells #[.bool false, .slice none 0 0, .slice none 0 0] 24))) := bt (bt (alloc_later _ _) (alloc_later _ _)) (alloc_later _ _)
  have HZ : Hid (Box (((w.alloc (.cells #[.bool n, .slice a xs.length ca] 49)).alloc (.cells #[.bool m, .slice b ys.length cb] 49)).alloc (.cells #[.bool false, .slice none 0 0, .slice none 0 0] 24)) (w.heap.size + 1 + 1) 24 #[.bool false, .slice none 0 0, .slice none 0 0]) := by
    have e := Box.made ((w.alloc (.cells #[.bool n, .slice a xs.length ca] 49)).alloc (.cells #[.bool m, .slice b ys.length cb] 49)) 24 #[.bool false, .slice none 0 0, .slice none 0 0]
    simp at e
    exact e
  have HN : Hid (Box (((w.alloc (.cells #[.bool n, .slice a xs.length ca] 49)).alloc (.cells #[.bool m, .slice b ys.length cb] 49)).alloc (.cells #[.bool false, .slice none 0 0, .slice none 0 0] 24)) w.heap.size 49 #[.bool n, .slice a xs.length ca]) := Box.later (Box.later (Box.made w _ _) (alloc_later _ _) (by simp)) (alloc_later _ _) (by simp; omega)
  have HM : Hid (Box (((w.alloc (.cells #[.bool n, .slice a xs.length ca] 49)).alloc (.cells #[.bool m, .slice b ys.length cb] 49)).alloc (.cells #[.bool false, .slice none 0 0, .slice none 0 0] 24)) (w.heap.size + 1) 49 #[.bool m, .slice b ys.length cb]) := by
    have e := Box.later (Box.made (w.alloc (.cells #[.bool n, .slice a xs.length ca] 49)) 49 #[.bool m, .slice b ys.length cb]) (alloc_later ((w.alloc (.cells #[.bool n, .slice a xs.length ca] 49)).alloc (.cells #[.bool m, .slice b ys.length cb] 49)) (.cells #[.bool false, .slice none 0 0, .slice none 0 0] 24)) (by simp)
    simp at e
    exact e
  have HS := hid (And.intro (h.later HB.out) (g.later HB.out))
  have HXS : Hid (w.heap.size + 1 + 1 < (((w.alloc (.cells #[.bool n, .slice a xs.length ca] 49)).alloc (.cells #[.bool m, .slice b ys.length cb] 49)).alloc (.cells #[.bool false, .slice none 0 0, .slice none 0 0] 24)).heap.size) := HZ.out.lt
  have HC1 := hid (wcheck_any n _ xs _ HS.out.1 lx)
  rw [hx] at HC1
  have HC2 := hid (fun ww (hb : Below _ (((w.alloc (.cells #[.bool n, .slice a xs.length ca] 49)).alloc (.cells #[.bool m, .slice b ys.length cb] 49)).alloc (.cells #[.bool false, .slice none 0 0, .slice none 0 0] 24)) ww) => wcheck_any m _ ys ww (HS.out.2.later hb) ly)
  rw [hy] at HC2
  have h0' : ((ys.length : Int) == 0) = false := beq_eq_false_iff_ne.2 (by omega)
  have HPY : Hid (0 < val ys) := by have := val_pos' wy ty h0; show _ < _; omega
  have HG : Hid (0 < gcdI (val xs) (val ys) ∧ gcdI (val xs) (val ys) ≤ val ys ∧ val ys < 4294967296 ^ 2048) := ⟨gcd_pos_right HPY.out, gcd_le_right HPY.out, below2048 wy ky⟩
  have HMP := hid (make_parts (n := n) (m := m) (val_nonneg wx) HPY.out)
  have HTT := hid (And.intro tx ty)
  obtain ⟨s, hs⟩ : ∃ s, (!(n == m)) = s := ⟨_, rfl⟩
  have HSG := hid (show (n != m) = s from hs)
  clear h g hx hy h0 tx ty
  go_enter Tryz.func26, Tryz.ntmps26
  go_wp2_with fail
  refine Calls.mono HC1.out ?_
  generalize (((w.alloc (.cells #[.bool n, .slice a xs.length ca] 49)).alloc (.cells #[.bool m, .slice b ys.length cb] 49)).alloc (.cells #[.bool false, .slice none 0 0, .slice none 0 0] 24)) = X at *
  rintro e w1 ⟨rfl, hb1⟩
  have HB1 := hid hb1
  clear hb1 HC1
  have HC := hid (HC2.out w1 HB1.out)
  obtain ⟨q0, q1, _, _⟩ := (HM.out.later HB1.out HM.out.lt).c2
  clear HC2
  go_wp2_with fail
  refine Calls.mono HC.out ?_
  rintro e w2 ⟨rfl, hb2⟩
  have HB2 := hid (bt HB1.out hb2)
  clear hb2 HC q0 q1
  have HK : Hid (∀ V, Below X.heap.size X V → V.cell? ⟨w.heap.size, 0, none⟩ = some (.bool n) ∧ V.cell? ⟨w.heap.size, 1, none⟩ = some (.slice a xs.length ca) ∧ V.cell? ⟨w.heap.size + 1, 0, none⟩ = some (.bool m) ∧ V.cell? ⟨w.heap.size + 1, 1, none⟩ = some (.slice b ys.length cb)) := fun V hb => by
    obtain ⟨p0, p1, _, _⟩ := (HN.out.later hb HN.out.lt).c2
    obtain ⟨q0, q1, _, _⟩ := (HM.out.later hb HM.out.lt).c2
    exact ⟨p0, p1, q0, q1⟩
  have HCM := hid (told1_at _ HK.out w2 HB2.out (rcommon_any _ _ xs ys w2 (HS.out.1.later HB2.out) (HS.out.2.later HB2.out) (by omega) (by omega) HTT.out.1 HTT.out.2))
  obtain ⟨p0, p1, q0, q1⟩ := HK.out w2 HB2.out
  go_wp2_with fail
  refine Calls.mono HCM.out ?_
  rintro e w3 ⟨a3, z3, c3, rfl, HE3, _, hb3, HS3⟩
  have hb3d := hb3.drew
  have HO3 := hid (HE3.out.later (Below.drew (Below.refl _ w3)))
  clear HCM HE3 HS3 p0 p1 q0 q1
  have hs0 := HK.out _ hb3d
  have HQX := hid (fun ww (hv' : Below X.heap.size X ww) (h : One X ww (.slice a3 z3.length c3) z3 (gcdI (val xs) (val ys))) => quot_in _ HK.out hv' (HS.out.1.later hv') (by omega) HTT.out.1 h HG.out.1 (by have := HG.out; omega))
  have HQY := hid (fun ww (hv' : Below X.heap.size X ww) (h : One X ww (.slice a3 z3.length c3) z3 (gcdI (val xs) (val ys))) => quot_in _ HK.out hv' (HS.out.2.later hv') (by omega) HTT.out.2 h HG.out.1 (by have := HG.out; omega))
  have HTL := hid (fun (ww : World) (hb : Below X.heap.size X ww) (a4 : Option Addr) (z4 : List Int) (c4 : Nat) (a5 : Option Addr) (z5 : List Int) (c5 : Nat) (g1 : One X ww (.slice a4 z4.length c4) z4 (val xs / gcdI (val xs) (val ys))) (g2 : One X ww (.slice a5 z5.length c5) z5 (val ys / gcdI (val xs) (val ys))) (hc : Cut X (.slice a4 z4.length c4) (.slice a5 z5.length c5) ww) => rtold_cut (n := s) (q := Rat.divInt (wval n xs) (wval m ys)) _ HK.out hb g1 g2 hc HMP.out.1 HMP.out.2.1 (by rw [← HSG.out]; exact HMP.out.2.2))
  have hq0 : w.heap.size + 1 + 1 ≠ w.heap.size := by omega
  have hq1 : w.heap.size + 1 + 1 ≠ w.heap.size + 1 := by omega
  clear HTT HG HPY
  go_wp2_with fail
  go_region_held3 (fun V : World => V.cell? ⟨w.heap.size, 0, none⟩ = some (.bool n) ∧ V.cell? ⟨w.heap.size, 1, none⟩ = some (.slice a xs.length ca) ∧ V.cell? ⟨w.heap.size + 1, 0, none⟩ = some (.bool m) ∧ V.cell? ⟨w.heap.size + 1, 1, none⟩ = some (.slice b ys.length cb)) (first | exact hs9 | exact hs5 | exact hs4 | exact hs0 | (simp [hs9, World.cell?_setCell_far, hq0]))
    (first
      | (go_at_call 37; with_reducible refine Calls.mono (HTL.out _ hb5 _ _ _ _ _ _ (HE4.out.1.later HS5.out) HE5.out.1 (cut_two hb3d.size HS4.out.size HS5.out.size HE4.out.2 HE5.out.2)) ?_; rintro e w9 ⟨k9, a8, z8, c8, a9, z9, c9, code, rfl, HE9, hs9, hb9⟩; obtain ⟨y0, y1, y2, f0, f1, f2⟩ := res_box3 HZ.out hb9)
      | (go_at_call 55; with_reducible refine Calls.mono (HQY.out _ hb4 (HO3.out.later HS4.out)) ?_; rintro e w5 ⟨a5, z5, c5, rfl, HE5, hs5, hb5, HS5⟩)
      | (go_at_call 55; with_reducible refine Calls.mono (HQX.out _ hb3d HO3.out) ?_; rintro e w4 ⟨a4, z4, c4, rfl, HE4, hs4, hb4, HS4⟩))
  all_goals
    have HBW := hid (bt HB.out hb9)
    have HR := hid HE9.out
    clear HK HQX HQY HTL HE4 HE5 HE9 HS4 HS5 HO3 hs0 hs4 hs5 hs9 hb3 hb3d hb4 hb5 hb9 HMP HSG
    go_wp2_with fail
    refine bodyPost_ret (v := .tuple #[.agg #[.bool k9, .slice a8 z8.length c8, .slice a9 z9.length c9], .int .i64 code]) (by simp [results, Tryz.results26, go_sem, y0, y1, y2]) rfl ?_
    exact RToldA.put HR.out (w.heap.size + 1 + 1) HXS.out (by omega) HBW.out _ _ _

theorem rmake_any (n : Bool) (a : Option Addr) (ca : Nat) (xs : List Int) (m : Bool) (b : Option Addr) (cb : Nat) (ys : List Int) (w : World) (h : Sl w (.slice a xs.length ca) xs) (g : Sl w (.slice b ys.length cb) ys) (lx : xs.length ≤ 281474976710656) (ly : ys.length ≤ 281474976710656) :
    Calls Tryz.prog 26 #[.agg #[.bool n, .slice a xs.length ca], .agg #[.bool m, .slice b ys.length cb]] w (RToldA w (mkErr n xs m ys) (Rat.divInt (wval n xs) (wval m ys))) := by
  unfold mkErr
  by_cases hb : wboth n xs m ys = 0
  · obtain ⟨hx, hy⟩ := wboth_ok hb
    rw [if_pos hb]
    by_cases h0 : ys.length = 0
    · rw [if_pos h0]
      exact rmake_z n a ca xs m b cb ys w h g lx ly hx hy h0 _
    · rw [if_neg h0]
      exact rmake_ok n a ca xs m b cb ys w h g lx ly hx hy (by omega)
  · rw [if_neg hb]
    unfold wboth at hb ⊢
    by_cases hx : wchk n xs = 0
    · rw [if_pos hx] at hb ⊢
      exact rmake_e2 n a ca xs m b cb ys w h g lx ly hx hb _
    · rw [if_neg hx]
      exact rmake_e1 n a ca xs m b cb ys w h g lx ly hx _
end Go.Proofs.YtbnhpkelnoolhaaGreatDoor

/- Fractions: ratio.Small. -/
namespace Go.Proofs.YtbnhpkelnoolhaaGreatDoor
open Go.RowKit
set_option linter.unusedVariables false

theorem small_err {n m : Bool} {zs us : List Int} {y : Int} (l1 : zs.length ≤ 2) (t1 : Trimmed zs) (s1 : n = false ∨ 0 < zs.length) (w2 : Wd us) (l2 : us.length ≤ 2) (t2 : Trimmed us) (s2 : m = false ∨ 0 < us.length) (v2 : wval m us = y) : mkErr n zs m us = if y = 0 then 7 else 0 := by
  unfold mkErr
  rw [wboth_good (wchk_good (by omega) t1 s1) (wchk_good (by omega) t2 s2), if_pos rfl]
  by_cases c : us.length = 0
  · have e0 : val us = 0 := trimmed_zero' c
    have : y = 0 := by rw [← v2]; cases m <;> simp [wval, e0]
    rw [if_pos c, if_pos this]
  · have e0 := val_pos' w2 t2 (by omega)
    have : ¬ y = 0 := by rw [← v2]; cases m <;> simp [wval] <;> omega
    rw [if_neg c, if_neg this]

set_option maxHeartbeats 1600000 in
set_option maxRecDepth 100000 in
theorem rsmall_any (x y : Int) (w : World) (x0 : -9223372036854775808 ≤ x) (x1 : x ≤ 9223372036854775807) (y0 : -9223372036854775808 ≤ y) (y1 : y ≤ 9223372036854775807) :
    Calls Tryz.prog 17 #[.int .i64 x, .int .i64 y] w (RToldA w (if y = 0 then 7 else 0) (Rat.divInt x y)) := by
  have HB : Hid (Below w.heap.size w (w.alloc (.cells #[.bool false, .slice none 0 0, .slice none 0 0] 24))) := alloc_later _ _
  have HZ : Hid (Box (w.alloc (.cells #[.bool false, .slice none 0 0, .slice none 0 0] 24)) w.heap.size 24 #[.bool false, .slice none 0 0, .slice none 0 0]) := Box.made w _ _
  have HO1 := hid (wof_any x (w.alloc (.cells #[.bool false, .slice none 0 0, .slice none 0 0] 24)) x0 x1)
  obtain ⟨E, hE⟩ : ∃ E : Int, (if y = 0 then (7 : Int) else 0) = E := ⟨_, rfl⟩
  rw [hE]
  have HE := hid hE
  clear hE
  go_enter Tryz.func17, Tryz.ntmps17
  go_wp2_with fail
  refine Calls.mono HO1.out ?_
  generalize (w.alloc (.cells #[.bool false, .slice none 0 0, .slice none 0 0] 24)) = X at *
  rintro e w1 ⟨n1, v1, z1, rfl, o1, wd1, t1, l1, s1, hv1, hb1⟩
  obtain ⟨a1, c1, hs1⟩ := own_slice' o1
  subst hs1
  have HO2 := hid (wof_any y w1 y0 y1)
  have HS1 := hid (Sl.own o1 wd1)
  have HV1 := hid (And.intro t1 (And.intro s1 hv1))
  have HB1 := hid hb1
  clear o1 wd1 t1 s1 hv1 hb1 HO1
  go_wp2_with fail
  refine Calls.mono HO2.out ?_
  rintro e w2 ⟨n2, v2, z2, rfl, o2, wd2, t2, l2, s2, hv2, hb2⟩
  obtain ⟨a2, c2, hs2⟩ := own_slice' o2
  subst hs2
  have HM := hid (rmake_any n1 a1 c1 z1 n2 a2 c2 z2 w2 (HS1.out.later hb2) (Sl.own o2 wd2) (by omega) (by omega))
  rw [small_err l1 HV1.out.1 HV1.out.2.1 wd2 l2 t2 s2 hv2, HE.out, HV1.out.2.2, hv2] at HM
  have HB2 := hid (bt HB1.out hb2)
  clear o2 wd2 t2 s2 hv2 hb2 HO2 HS1 HV1
  go_wp2_with fail
  refine Calls.mono HM.out ?_
  rintro e w3 ⟨k3, v3, z3, u3, r3, code, rfl, o3, o4, t3, hb3, hc3⟩
  obtain ⟨a3, c3, hs3⟩ := own_slice' o3
  subst hs3
  obtain ⟨a4, c4, hs4⟩ := own_slice' o4
  subst hs4
  have HR := hid (And.intro o3 (And.intro o4 (And.intro t3 hc3)))
  obtain ⟨y0', y1', y2', f0, f1, f2⟩ := res_box3 HZ.out (bt HB2.out hb3)
  have HBW := hid (bt HB.out (bt HB2.out hb3))
  have HLT : Hid (w.heap.size < w2.heap.size) := Nat.lt_of_lt_of_le HZ.out.lt HB2.out.size
  clear o3 o4 t3 hb3 hc3 HM
  go_wp2_with fail
  refine bodyPost_ret (v := .tuple #[.agg #[.bool k3, .slice a3 z3.length c3, .slice a4 r3.length c4], .int .i64 code]) (by simp [results, Tryz.results17, go_sem, y0', y1', y2']) rfl ?_
  exact RToldA.put HR.out w.heap.size HLT.out (Nat.le_refl _) HBW.out _ _ _
end Go.Proofs.YtbnhpkelnoolhaaGreatDoor

/- The document's own fractions: Make, size, Small. -/
namespace Go.Proofs.YtbnhpkelnoolhaaGreatDoor
open Go.RowKit
set_option linter.unusedVariables false

theorem div_sg {n m : Bool} {xs ys : List Int} : Rat.divInt (sg (n != m) (val xs)) (val ys) = Rat.divInt (wval n xs) (wval m ys) := by
  cases n <;> cases m <;> simp [sg, wval, Rat.divInt_neg', ← Rat.neg_divInt]

end Go.Proofs.YtbnhpkelnoolhaaGreatDoor

/- The document's own fractions: Small; two fractions with the same words. -/
namespace Go.Proofs.YtbnhpkelnoolhaaGreatDoor
open Go.RowKit
set_option linter.unusedVariables false

theorem small_sg {x y : Int} {s : Bool} (h : (decide (x < 0) != decide (y < 0)) = s) : Rat.divInt (sg s (x.natAbs : Int)) (y.natAbs : Int) = Rat.divInt x y := by
  subst h
  by_cases hx : x < 0 <;> by_cases hy : y < 0
  · have e1 : (x.natAbs : Int) = -x := by omega
    have e2 : (y.natAbs : Int) = -y := by omega
    rw [e1, e2]; simp [hx, hy, sg, Rat.neg_divInt_neg]
  · have e1 : (x.natAbs : Int) = -x := by omega
    have e2 : (y.natAbs : Int) = y := by omega
    rw [e1, e2]; simp [hx, hy, sg]
  · have e1 : (x.natAbs : Int) = x := by omega
    have e2 : (y.natAbs : Int) = -y := by omega
    rw [e1, e2]; simp [hx, hy, sg, Rat.divInt_neg']
  · have e1 : (x.natAbs : Int) = x := by omega
    have e2 : (y.natAbs : Int) = y := by omega
    rw [e1, e2]; simp [hx, hy, sg]

set_option maxHeartbeats 1600000 in
set_option maxRecDepth 100000 in
theorem sameRatio_eq (n : Bool) (v u v' u' : Value) (xs ys : List Int) (w : World) (h : Sl w v xs) (g : Sl w u ys) (h' : Sl w v' xs) (g' : Sl w u' ys) (lx : xs.length ≤ 281474976710656) (ly : ys.length ≤ 281474976710656) :
    Calls Tryz.prog 11 #[.agg #[.bool n, v, u], .agg #[.bool n, v', u']] w fun e w' => e = .returned (.bool true) ∧ Below w.heap.size w w' := by
  have HB : Hid (Below w.heap.size w ((w.alloc (.cells #[.bool n, v, u] 24)).alloc (.cells #[.bool n, v', u'] 24))) := bt (alloc_later _ _) (alloc_later _ _)
  have HN : Hid (Box ((w.alloc (.cells #[.bool n, v, u] 24)).alloc (.cells #[.bool n, v', u'] 24)) w.heap.size 24 #[.bool n, v, u]) := Box.later (Box.made w _ _) (alloc_later _ _) (by simp)
  have HM : Hid (Box ((w.alloc (.cells #[.bool n, v, u] 24)).alloc (.cells #[.bool n, v', u'] 24)) (w.heap.size + 1) 24 #[.bool n, v', u']) := by
    have e := Box.made (w.alloc (.cells #[.bool n, v, u] 24)) 24 #[.bool n, v', u']
    simp at e
    exact e
  have H1 := hid (same_sl v v' xs xs _ (h.later HB.out) (h'.later HB.out) lx lx)
  rw [decide_eq_true rfl] at H1
  have H2 := hid (fun ww (hb : Below _ ((w.alloc (.cells #[.bool n, v, u] 24)).alloc (.cells #[.bool n, v', u'] 24)) ww) => same_sl u u' ys ys ww ((g.later HB.out).later hb) ((g'.later HB.out).later hb) ly ly)
  rw [decide_eq_true rfl] at H2
  have hbb : (n == n) = true := by simp
  obtain ⟨a, ca, rfl, hr⟩ := h
  obtain ⟨b, cb, rfl, gr⟩ := g
  obtain ⟨a', ca', rfl, hr'⟩ := h'
  obtain ⟨b', cb', rfl, gr'⟩ := g'
  clear hr gr hr' gr'
  go_enter Tryz.func11, Tryz.ntmps11
  go_wp2_with fail
  refine Calls.mono H1.out ?_
  generalize ((w.alloc (.cells #[.bool n, .slice a xs.length ca, .slice b ys.length cb] 24)).alloc (.cells #[.bool n, .slice a' xs.length ca', .slice b' ys.length cb'] 24)) = X at *
  rintro e w1 ⟨rfl, hb1⟩
  obtain ⟨p0, p1, p2, _, _, _⟩ := res_box3 HN.out hb1
  obtain ⟨q0, q1, q2, _, _, _⟩ := res_box3 HM.out hb1
  have HC := hid (H2.out w1 hb1)
  have HB1 := hid (bt HB.out hb1)
  clear hb1 H1 H2
  go_wp2_with fail
  refine Calls.mono HC.out ?_
  rintro e w2 ⟨rfl, hb2⟩
  have HBN := hid (bt HB1.out hb2)
  clear hb2 HC
  go_wp2_with fail
  go_ret
  exact ⟨rfl, HBN.out⟩
end Go.Proofs.YtbnhpkelnoolhaaGreatDoor

/- Lists that lie apart: the kit's ApartWords, for a list of lists with room behind it. -/
namespace Go.Proofs.YtbnhpkelnoolhaaGreatDoor
open Go.RowKit
set_option linter.unusedVariables false

set_option maxHeartbeats 3200000 in
set_option maxRecDepth 100000 in
theorem apart_cap (base bl m cp : Nat) (V : Nat → Value) (X : Nat → List Int) (w : World) (h : Lists w base bl m V X) (hm : m ≤ 1000) (hbs : base ≤ w.heap.size) (hcp : m ≤ cp) :
    Calls Tryz.prog 44 #[.slice (some ⟨bl, 0, none⟩) m cp] w fun e w' => e = .returned (.bool true) ∧ Below base w w' := by
  obtain ⟨i0, hi, hz0, hz1, hz2⟩ := info_parts Tryz.infoL
  obtain ⟨hwd, hlen, hown, hap, hrow⟩ := h
  have hbl : bl < w.heap.size := by obtain ⟨cl, h1, _⟩ := hrow; exact block_lt h1
  have HO := hid hown
  have HA := hid hap
  have HR := hid hrow
  have HW := hid hwd
  have HN := hid hlen
  clear hown hap hrow hwd hlen
  go_enter Tryz.func44, Tryz.ntmps44
  go_wp2_with (at_make; refine wpList_make_full _ rfl _ _ 66 rfl w.heap.size 22 i0 (.slice none 0 0) 1 Tryz.underlying66 hi hz0 hz1 _ _ _ _ m rfl rfl (by omega) (by omega) (by rw [hz2]; omega) (by unfold maxLen; omega) (Nat.le_refl _) ?_)
  intro w1 hown1 hgrow1
  have H1 : Hid (I1 w m X 0 w1) := ⟨_, by have := hown1.1; omega, row_whole hown1, fun j hj => by omega, (Below.refl _ _).grown hgrow1 (Nat.le_refl _) (fun k hk => by simp at hk)⟩
  clear hown1 hgrow1
  go_wp2_with fail
  go_loopw [4] (fun t wr => ∃ k : Nat, k ≤ m ∧ t = .int .i64 k ∧ Hid (I1 w m X k wr)) (fun t _ => m - (intOf t).toNat)
  case atStart => exact ⟨0, by omega, rfl, H1⟩
  case round =>
    obtain ⟨k, hk, rfl, HI⟩ := hrel
    by_cases hlt : k < m
    · obtain ⟨us, ul, ug, uu, ub⟩ := HI.out
      have hgw := block_lt ug
      have ubs := ub.size
      have hcl : wr.cell? ⟨bl, k, none⟩ = some (V k) := (ub.cell (p := ⟨bl, k, none⟩) hbl).trans (row_cell HR.out k hlt)
      have hsl : Sl wr (V k) (X k) := (Sl.own (HO.out k hlt) (HW.out k hlt)).later ub
      have hX := HN.out k hlt
      have HS := hid hsl
      obtain ⟨a1, c1, hv, hr⟩ := hsl
      rw [hv] at hcl
      clear uu ub hr
      go_wp2_with fail
      rw [← hv]
      refine (copyWords_sl _ (X k) _ HS.out hX).mono ?_
      rintro e w2 ⟨v, rfl, ho2, hb2⟩
      have HI2 := hid (HI.out.step hlt ho2 hb2)
      have hc2 : w2.cell? ⟨w.heap.size, k, none⟩ = some (us.toArray[k]?.getD undef) := by
        rw [cell_of_row w2 w.heap.size k us.toArray 22 (0, 0) ((hb2.block _ hgw).trans ug)]
        simp [ul, hlt]
      have hf2 : w2.frozen? ⟨w.heap.size, k, none⟩ = false := frozen_of_row w2 w.heap.size k us.toArray 22 ((hb2.block _ hgw).trans ug)
      obtain ⟨a3, c3, hv3, _⟩ := Sl.own ho2 (HW.out k hlt)
      rw [hv3] at HI2 ⊢
      clear ho2 hb2 ug
      go_wp2_with fail
      go_roundw
      case rel => exact ⟨k + 1, by omega, by go_num, HI2⟩
      case measure => simp [intOf]; omega
    · have hkm : k = m := by omega
      subst hkm
      obtain ⟨us, ul, ug, uu, ub⟩ := HI.out
      obtain ⟨w2, hw2⟩ : ∃ w2 : World, w2 = wr := ⟨_, rfl⟩
      subst hw2
      obtain ⟨gw, hgw⟩ : ∃ gw, gw = w.heap.size := ⟨_, rfl⟩
      have H2 : Hid (I2 w base bl gw k V (fun j => us[j]?.getD undef) X 0 w2) := by
        subst hgw
        refine ⟨fun j hj => ?_, fun j hj => ?_, fun j hj g e => ((HO.out j hj).lt g e).2, ?_, ⟨us.toArray, ug, fun j hj => ?_⟩, ub.mono hbs⟩
        · rw [if_neg (by omega)]; exact owns_later (HO.out j hj) ub
        · obtain ⟨u, h1, h2⟩ := uu j hj
          simp only [h1]; exact h2
        · obtain ⟨cl, h1, h2⟩ := HR.out
          exact ⟨cl, (ub.block _ (block_lt h1)).trans h1, h2⟩
        · simp [ul, hj]
      obtain ⟨U, hU⟩ : ∃ U : Nat → Value, U = fun j => us[j]?.getD undef := ⟨_, rfl⟩
      rw [← hU] at H2
      have hgwl : gw < w2.heap.size := by rw [hgw]; exact block_lt ug
      have hb2 : base ≤ w2.heap.size := by omega
      rw [← hgw]
      clear hU ug uu ub HI ul hgw HO HR H1
      go_wp2_with fail
      go_loopw [5] (fun t wr => ∃ i : Nat, i ≤ k ∧ t = .int .i64 i ∧ Hid (I2 w base bl gw k V U X i wr) ∧ w2.heap.size ≤ wr.heap.size) (fun t _ => k - (intOf t).toNat)
      case atStart => exact ⟨0, by omega, rfl, H2, Nat.le_refl _⟩
      case round =>
        obtain ⟨i, hi', rfl, HJ, hws⟩ := hrel
        by_cases hlt : i < k
        · have hcl : wr.cell? ⟨bl, i, none⟩ = some (V i) := row_cell HJ.out.rowL i hlt
          have hcw : wr.cell? ⟨gw, i, none⟩ = some (U i) := row_cell HJ.out.rowW i hlt
          have sv : Sl wr (V i) (X i) := by
            have := HJ.out.lists i hlt
            rw [if_neg (by omega)] at this
            exact Sl.own this (HW.out i hlt)
          have su : Sl wr (U i) (X i) := Sl.own (HJ.out.was i hlt) (HW.out i hlt)
          have hX := HN.out i hlt
          obtain ⟨a1, c1, hv1, hr1⟩ := sv
          obtain ⟨a2, c2, hv2, hr2⟩ := su
          rw [hv1] at hcl
          rw [hv2] at hcw
          have hcld : wr.drew.cell? ⟨bl, i, none⟩ = some (.slice a1 (X i).length c1) := hcl
          have hcwd : wr.drew.cell? ⟨gw, i, none⟩ = some (.slice a2 (X i).length c2) := hcw
          have HC := hid (same_any a1 _ c1 (X i) a2 _ c2 (X i) wr.drew hr1 hr2 (by omega) (by omega))
          clear hr1 hr2
          go_wp2_with fail
          go_region_with (go_at_call 42; refine Calls.mono HC.out ?_; rintro e wa ⟨rfl, hba⟩)
          all_goals
            have hbw : Below wr.heap.size wr wa := ((Below.refl _ wr).drew).trans hba
            have HJ2 := hid (HJ.out.later hbw (by omega))
            have hsz2 := hbw.size
            have hcl2 : wa.cell? ⟨bl, i, none⟩ = some (V i) := row_cell HJ2.out.rowL i hlt
            rw [hv1] at hcl2
            have hown : wa.ownsRow base 40 1 (V i) (X i).length ((X i).map (Value.int .u32)) := by
              have := HJ2.out.lists i hlt
              rwa [if_neg (by omega)] at this
            have HOV := hid (over_sl base _ _ (X i) wa (HW.out i hlt) hown)
            have hdd : decide (X i = X i) = true := by simp
            clear hba hbw hown hcl hcw hcld hcwd HC
            go_wp2_with fail
            rw [← hv1]
            refine Calls.mono HOV.out ?_
            rintro e wb ⟨rfl, hob, hgb⟩
            have HJ3 := hid (HJ2.out.step hlt (by omega) HA.out hob hgb)
            have hs3 := hgb.size
            rw [hv1]
            clear hob hgb
            go_wp2_with fail
            go_roundw
            case rel => exact ⟨i + 1, by omega, by go_num, HJ3, by omega⟩
            case measure => simp [intOf]; omega
        · have hik : i = k := by omega
          subst hik
          obtain ⟨w3, hw3⟩ : ∃ w3 : World, w3 = wr := ⟨_, rfl⟩
          subst hw3
          have hws3 := hws
          have facts : ∀ wr, Below w3.heap.size w3 wr → ∀ c, c < i → ∃ a1 c1 a2 c2, wr.cell? ⟨bl, c, none⟩ = some (.slice a1 (X c).length c1) ∧ wr.cell? ⟨gw, c, none⟩ = some (.slice a2 (X c).length c2) ∧
              ((X c).length = 0 ∨ ∃ b1 o1 b2 o2, a1 = some ⟨b1, o1, none⟩ ∧ a2 = some ⟨b2, o2, none⟩ ∧ (∀ j, j < (X c).length → wr.cell? ⟨b1, o1 + j, none⟩ = some (.int .u32 (4294967295 - (X c)[j]?.getD 0))) ∧
                (∀ j, j < (X c).length → wr.cell? ⟨b2, o2 + j, none⟩ = some (.int .u32 ((X c)[j]?.getD 0)))) := by
            intro wr hb c hc
            have HJ' := HJ.out.later hb (by omega)
            have hcl : wr.cell? ⟨bl, c, none⟩ = some (V c) := row_cell HJ'.rowL c hc
            have hcw : wr.cell? ⟨gw, c, none⟩ = some (U c) := row_cell HJ'.rowW c hc
            have hl := HJ'.lists c hc
            rw [if_pos hc] at hl
            obtain ⟨a1, c1, hv1, r1⟩ := Reads.own hl (HW.out c hc).compl
            obtain ⟨a2, c2, hv2, r2⟩ := Reads.own (HJ'.was c hc) (HW.out c hc)
            refine ⟨a1, c1, a2, c2, by rw [hcl, hv1], by rw [hcw, hv2], ?_⟩
            by_cases h0 : (X c).length = 0
            · exact .inl h0
            · right
              rcases r1.2.2.1 with e | ⟨b1, o1, e1, _, g1⟩
              · omega
              · rcases r2.2.2.1 with e | ⟨b2, o2, e2, _, g2⟩
                · omega
                · exact ⟨b1, o1, b2, o2, e1, e2, fun j hj => by rw [g1 j hj, compl_get _ j hj], g2⟩
          have HB := hid HJ.out.below
          have HF := hid facts
          clear facts HJ H2 hi'
          go_wp2_with fail
          go_loopw [6] (fun t wr => ∃ c : Nat, c ≤ i ∧ t = .int .i64 c ∧ Below w3.heap.size w3 wr) (fun t _ => i - (intOf t).toNat)
          case atStart => exact ⟨0, by omega, rfl, Below.refl _ _⟩
          case round =>
            obtain ⟨c, hc, rfl, hb3⟩ := hrel
            by_cases hlt : c < i
            · obtain ⟨w4, hw4⟩ : ∃ w4 : World, w4 = wr := ⟨_, rfl⟩
              subst hw4
              have hX := HN.out c hlt
              have hwc := HW.out c hlt
              obtain ⟨n, hn⟩ : ∃ n, n = (X c).length := ⟨_, rfl⟩
              rw [← hn] at hX
              have HNN := hid hn
              clear hn
              go_wp2_with fail
              go_loopw [7] (fun t wr => ∃ k : Nat, k ≤ n ∧ t = .int .i64 k ∧ Below w3.heap.size w3 wr) (fun t _ => n - (intOf t).toNat)
              case atStart => exact ⟨0, by omega, rfl, hb3⟩
              case round =>
                obtain ⟨k, hk, rfl, hb4⟩ := hrel
                obtain ⟨a1, c1, a2, c2, f1, f2, f3⟩ := HF.out wr hb4 c hlt
                rw [← HNN.out] at f1 f2 f3
                by_cases hkn : k < n
                · rcases f3 with f3 | ⟨b1, o1, b2, o2, e1, e2, g1, g2⟩
                  · omega
                  · have x1 := g1 k hkn
                    have x2 := g2 k hkn
                    rw [e1] at f1
                    rw [e2] at f2
                    have hbd := hwc.at k
                    obtain ⟨z, hz⟩ : ∃ z, z = (X c)[k]?.getD 0 := ⟨_, rfl⟩
                    rw [← hz] at x1 x2 hbd
                    have hnot := not_u32 z hbd.1 hbd.2
                    have f1d : wr.drew.cell? ⟨bl, c, none⟩ = some (.slice (some ⟨b1, o1, none⟩) n c1) := f1
                    have f2d : wr.drew.cell? ⟨gw, c, none⟩ = some (.slice (some ⟨b2, o2, none⟩) n c2) := f2
                    have x1d : wr.drew.cell? ⟨b1, o1 + k, none⟩ = some (.int .u32 (4294967295 - z)) := x1
                    have x2d : wr.drew.cell? ⟨b2, o2 + k, none⟩ = some (.int .u32 z) := x2
                    have hne : (4294967295 - z != 4294967295 - z) = false := by simp
                    clear hz e1 e2 g1 g2
                    go_wp2
                    go_region
                    all_goals go_wp2
                    all_goals
                      go_roundw
                      case rel => exact ⟨k + 1, by omega, by go_num, hb4.drew⟩
                      case measure => simp [intOf]; omega
                · clear f3
                  go_wp2
                  go_roundw
                  case rel => exact ⟨c + 1, by omega, by go_num, hb4⟩
                  case measure => simp [intOf]; omega
            · go_wp2
              go_ret
              exact ⟨rfl, HB.out.trans (hb3.mono (by omega))⟩
end Go.Proofs.YtbnhpkelnoolhaaGreatDoor

/- The kit's ApartRatios of three fractions. -/
namespace Go.Proofs.YtbnhpkelnoolhaaGreatDoor
open Go.RowKit
set_option linter.unusedVariables false

/-- append to a row of the call's own, as one step of a region. -/
theorem step_append_own {P : Program} {ops : Array Oper} {o : Oper} {a : Act} {w : World} {K : Act → World → Prop} {Q : Exit → Act → World → Prop} {E : Prop}
    (hg : o.guard = none) (s x : Operand) (t : TypeId) (hop : o.op = Op.call { callee := Callee.builtin Builtin.append, args := #[s, x], argTypes := #[t, t] })
    (base : Nat) (e : TypeId) (i : TypeInfo) (z : Value) (size bytes : Nat) (h1 : P.underlying t = some (.slice e)) (h2 : P.info? e = some i) (h3 : i.zero = some z) (h4 : i.size = size) (h5 : i.bytes = bytes) (h6 : z.cells.size = size) (h7 : 0 < size)
    (v : Value) (n : Nat) (xs : List Value) (hs : a.eval s = v) (hown : w.ownsRow base e size v n xs)
    (ad : Addr) (m c : Nat) (news : List Value) (hx : a.eval x = .slice (some ad) m c) (hn : news.length = m * size) (hc : ∀ j u, news[j]? = some u → w.cell? (ad.add j) = some u) (h1c : ∀ u ∈ news, u.oneCell' = true)
    (b1 : n + m ≤ maxLen) (b2 : (n + m) * bytes ≤ 140737488355328) (hbase : base ≤ w.heap.size)
    (hK : ∀ v' w', w'.ownsRow base e size v' (n + m) (xs ++ news) → w.grownBy w' v.ownBlock → K (a.put o.dst v') w') :
    if Region.wanted o (yielded ops a.tmps) = true then Oper.wp P o a w K Q else E := by
  have hw : Region.wanted o (yielded ops a.tmps) = true := by simp [Region.wanted, hg]
  rw [if_pos hw]
  obtain ⟨v', w', hrun, r1, r2, _⟩ := run_append_own (P := P) w base t o.type e i z size bytes h1 h2 h3 h4 h5 h6 h7 v n xs hown ad m c news hn hc h1c b1 b2 hbase
  unfold Oper.wp
  simp [execOp, hop, resolve, invoke, builtin, hs, hx, hrun, Result.andThen]
  exact hK v' w' r1 r2
theorem two_cells (w : World) (u0 u1 : Value) (t : Nat) : ∀ j u, [u0, u1][j]? = some u → ((w.alloc (.cells #[u0, u1] t)).drew).cell? ((⟨w.heap.size, 0, none⟩ : Addr).add j) = some u := by
  intro j u h
  have hb := Box.made w t #[u0, u1]
  match j, h with
  | 0, h => obtain rfl : u0 = u := by simpa using h
            exact hb.cell 0
  | 1, h => obtain rfl : u1 = u := by simpa using h
            exact hb.cell 1
  | n + 2, h => simp at h

theorem own_row {w : World} {base e n g cap : Nat} {xs : List Value} (h : w.ownsRow base e 1 (.slice (some ⟨g, 0, none⟩) n cap) n xs) : ∃ cl : Array Value, w.heap[g]? = some (.cells cl e (0, 0)) ∧ ∀ j, j < n → cl[j]? = xs[j]? := by
  rcases h.2 with ⟨h1, _⟩ | ⟨g', cap', cur, hv, _, hg, _, _, _, ht⟩
  · cases h1
  · cases hv
    refine ⟨cur, hg, fun j hj => ?_⟩
    rw [← ht, List.getElem?_take, if_pos (by omega), Array.getElem?_toList]

set_option maxHeartbeats 1600000 in
set_option maxRecDepth 100000 in
theorem apartRatios3 (base : Nat) (b0 b1 b2 : Bool) (a0 a1 a2 a3 a4 a5 : Option Addr) (k0 k1 k2 k3 k4 k5 c0 c1 c2 c3 c4 c5 : Nat) (g : Nat) (X : Nat → List Int) (w : World) (hbx : Box w g 24 #[.bool b0, .slice a0 k0 c0, .slice a1 k1 c1, .bool b1, .slice a2 k2 c2, .slice a3 k3 c3, .bool b2, .slice a4 k4 c4, .slice a5 k5 c5]) (hbs : base ≤ w.heap.size)
    (hwd : ∀ j, j < 6 → Wd (X j)) (hlen : ∀ j, j < 6 → (X j).length ≤ 1099511627776) (hown : ∀ j, j < 6 → w.ownsRow base 40 1 (([.slice a0 k0 c0, .slice a1 k1 c1, .slice a2 k2 c2, .slice a3 k3 c3, .slice a4 k4 c4, .slice a5 k5 c5] : List Value)[j]?.getD undef) (X j).length ((X j).map (Value.int .u32)))
    (hap : ∀ i j, i < 6 → j < 6 → i ≠ j → (([.slice a0 k0 c0, .slice a1 k1 c1, .slice a2 k2 c2, .slice a3 k3 c3, .slice a4 k4 c4, .slice a5 k5 c5] : List Value)[i]?.getD undef).ownBlock = none ∨ (([.slice a0 k0 c0, .slice a1 k1 c1, .slice a2 k2 c2, .slice a3 k3 c3, .slice a4 k4 c4, .slice a5 k5 c5] : List Value)[i]?.getD undef).ownBlock ≠ (([.slice a0 k0 c0, .slice a1 k1 c1, .slice a2 k2 c2, .slice a3 k3 c3, .slice a4 k4 c4, .slice a5 k5 c5] : List Value)[j]?.getD undef).ownBlock) :
    Calls Tryz.prog 13 #[.slice (some ⟨g, 0, none⟩) 3 3] w fun e w' => e = .returned (.bool true) ∧ Below base w w' := by
  obtain ⟨i0, hi, hz0, hz1, hz2⟩ := info_parts Tryz.infoL
  have HBX := hid hbx
  have HF := hid (And.intro hwd (And.intro hlen (And.intro hown hap)))
  have HK : Hid (∀ V, Below w.heap.size w V → V.cell? ⟨g, 1, none⟩ = some (.slice a0 k0 c0) ∧ V.cell? ⟨g, 2, none⟩ = some (.slice a1 k1 c1) ∧ V.cell? ⟨g, 4, none⟩ = some (.slice a2 k2 c2) ∧ V.cell? ⟨g, 5, none⟩ = some (.slice a3 k3 c3) ∧ V.cell? ⟨g, 7, none⟩ = some (.slice a4 k4 c4) ∧ V.cell? ⟨g, 8, none⟩ = some (.slice a5 k5 c5)) := fun V hb => by
    have h := HBX.out.later hb HBX.out.lt
    exact ⟨h.cell 1, h.cell 2, h.cell 4, h.cell 5, h.cell 7, h.cell 8⟩
  clear hbx hwd hlen hown hap
  go_enter Tryz.func13, Tryz.ntmps13
  go_wp2_with fail
  refine wp_loop_rounds 4 ?_
  have HO : Hid (w.ownsRow w.heap.size 22 1 (.slice none 0 0) 0 []) := World.ownsRow_nil _ _ _ _
  have hb : Below w.heap.size w w := Below.refl _ _
  rw [rounds_succ]
  have hs0 := HK.out w hb
  obtain ⟨e0, e1, e2, e3, e4, e5⟩ := hs0
  have hs0 := HK.out _ hb.drew
  have HOA : Hid ((w.alloc (.cells #[.slice a0 k0 c0, .slice a1 k1 c1] 22)).drew.ownsRow w.heap.size 22 1 (.slice none 0 0) 0 []) := owns_later HO.out (bt (alloc_later w (.cells #[.slice a0 k0 c0, .slice a1 k1 c1] 22)) (Below.drew (Below.refl _ _)))
  have hbA : Below w.heap.size w (w.alloc (.cells #[.slice a0 k0 c0, .slice a1 k1 c1] 22)).drew := (bt hb (alloc_later w (.cells #[.slice a0 k0 c0, .slice a1 k1 c1] 22))).drew
  have hsA := HK.out _ hbA
  have hsz := hb.size
  go_wp2_with fail
  go_region_held3 (fun V : World => V.cell? ⟨g, 1, none⟩ = some (.slice a0 k0 c0) ∧ V.cell? ⟨g, 2, none⟩ = some (.slice a1 k1 c1) ∧ V.cell? ⟨g, 4, none⟩ = some (.slice a2 k2 c2) ∧ V.cell? ⟨g, 5, none⟩ = some (.slice a3 k3 c3) ∧ V.cell? ⟨g, 7, none⟩ = some (.slice a4 k4 c4) ∧ V.cell? ⟨g, 8, none⟩ = some (.slice a5 k5 c5)) (first | exact hs0 | exact hsA | exact hs1 | go_keep)
    (first | (refine step_append_own rfl (.tmp 11) (.tmp 22) 66 rfl w.heap.size 22 i0 (.slice none 0 0) 1 24 Tryz.underlying66 hi hz0 hz1 hz2 rfl (by decide) (.slice none 0 0) 0 [] rfl HOA.out ⟨w.heap.size, 0, none⟩ 2 2 [.slice a0 k0 c0, .slice a1 k1 c1] rfl rfl (two_cells w _ _ _) (by simp [Value.oneCell']) (by unfold maxLen; omega) (by omega) hbA.size ?_; intro v1 w1 o1 gr1; have hs1 := HK.out w1 (hbA.grown gr1 hbA.size (fun k hk => (HOA.out.lt k hk).1))))
  have hb1 : Below w.heap.size w w1 := hbA.grown gr1 hbA.size (fun k hk => (HOA.out.lt k hk).1)
  obtain ⟨q1, d1, hv1⟩ := own_slice o1
  subst hv1
  replace HO := hid o1
  replace hb := hb1
  clear o1 gr1 hb1 HOA hbA hsA hs0 hs1 e0 e1 e2 e3 e4 e5 hsz
  go_wp2_with fail
  rw [rounds_succ]
  have hs0 := HK.out w1 hb
  obtain ⟨e0, e1, e2, e3, e4, e5⟩ := hs0
  have hs0 := HK.out _ hb.drew
  have HOA : Hid ((w1.alloc (.cells #[.slice a2 k2 c2, .slice a3 k3 c3] 22)).drew.ownsRow w.heap.size 22 1 (.slice q1 2 d1) 2 ([] ++ [.slice a0 k0 c0, .slice a1 k1 c1])) := owns_later HO.out (bt (alloc_later w1 (.cells #[.slice a2 k2 c2, .slice a3 k3 c3] 22)) (Below.drew (Below.refl _ _)))
  have hbA : Below w.heap.size w (w1.alloc (.cells #[.slice a2 k2 c2, .slice a3 k3 c3] 22)).drew := (bt hb (alloc_later w1 (.cells #[.slice a2 k2 c2, .slice a3 k3 c3] 22))).drew
  have hsA := HK.out _ hbA
  have hsz := hb.size
  go_wp2_with fail
  go_region_held3 (fun V : World => V.cell? ⟨g, 1, none⟩ = some (.slice a0 k0 c0) ∧ V.cell? ⟨g, 2, none⟩ = some (.slice a1 k1 c1) ∧ V.cell? ⟨g, 4, none⟩ = some (.slice a2 k2 c2) ∧ V.cell? ⟨g, 5, none⟩ = some (.slice a3 k3 c3) ∧ V.cell? ⟨g, 7, none⟩ = some (.slice a4 k4 c4) ∧ V.cell? ⟨g, 8, none⟩ = some (.slice a5 k5 c5)) (first | exact hs0 | exact hsA | exact hs2 | go_keep)
    (first | (refine step_append_own rfl (.tmp 11) (.tmp 22) 66 rfl w.heap.size 22 i0 (.slice none 0 0) 1 24 Tryz.underlying66 hi hz0 hz1 hz2 rfl (by decide) (.slice q1 2 d1) 2 ([] ++ [.slice a0 k0 c0, .slice a1 k1 c1]) rfl HOA.out ⟨w1.heap.size, 0, none⟩ 2 2 [.slice a2 k2 c2, .slice a3 k3 c3] rfl rfl (two_cells w1 _ _ _) (by simp [Value.oneCell']) (by unfold maxLen; omega) (by omega) hbA.size ?_; intro v2 w2 o2 gr2; have hs2 := HK.out w2 (hbA.grown gr2 hbA.size (fun k hk => (HOA.out.lt k hk).1))))
  have hb2 : Below w.heap.size w w2 := hbA.grown gr2 hbA.size (fun k hk => (HOA.out.lt k hk).1)
  obtain ⟨q2, d2, hv2⟩ := own_slice o2
  subst hv2
  replace HO := hid o2
  replace hb := hb2
  clear o2 gr2 hb2 HOA hbA hsA hs0 hs2 e0 e1 e2 e3 e4 e5 hsz
  go_wp2_with fail
  rw [rounds_succ]
  have hs0 := HK.out w2 hb
  obtain ⟨e0, e1, e2, e3, e4, e5⟩ := hs0
  have hs0 := HK.out _ hb.drew
  have HOA : Hid ((w2.alloc (.cells #[.slice a4 k4 c4, .slice a5 k5 c5] 22)).drew.ownsRow w.heap.size 22 1 (.slice q2 4 d2) 4 (([] ++ [.slice a0 k0 c0, .slice a1 k1 c1]) ++ [.slice a2 k2 c2, .slice a3 k3 c3])) := owns_later HO.out (bt (alloc_later w2 (.cells #[.slice a4 k4 c4, .slice a5 k5 c5] 22)) (Below.drew (Below.refl _ _)))
  have hbA : Below w.heap.size w (w2.alloc (.cells #[.slice a4 k4 c4, .slice a5 k5 c5] 22)).drew := (bt hb (alloc_later w2 (.cells #[.slice a4 k4 c4, .slice a5 k5 c5] 22))).drew
  have hsA := HK.out _ hbA
  have hsz := hb.size
  go_wp2_with fail
  go_region_held3 (fun V : World => V.cell? ⟨g, 1, none⟩ = some (.slice a0 k0 c0) ∧ V.cell? ⟨g, 2, none⟩ = some (.slice a1 k1 c1) ∧ V.cell? ⟨g, 4, none⟩ = some (.slice a2 k2 c2) ∧ V.cell? ⟨g, 5, none⟩ = some (.slice a3 k3 c3) ∧ V.cell? ⟨g, 7, none⟩ = some (.slice a4 k4 c4) ∧ V.cell? ⟨g, 8, none⟩ = some (.slice a5 k5 c5)) (first | exact hs0 | exact hsA | exact hs3 | go_keep)
    (first | (refine step_append_own rfl (.tmp 11) (.tmp 22) 66 rfl w.heap.size 22 i0 (.slice none 0 0) 1 24 Tryz.underlying66 hi hz0 hz1 hz2 rfl (by decide) (.slice q2 4 d2) 4 (([] ++ [.slice a0 k0 c0, .slice a1 k1 c1]) ++ [.slice a2 k2 c2, .slice a3 k3 c3]) rfl HOA.out ⟨w2.heap.size, 0, none⟩ 2 2 [.slice a4 k4 c4, .slice a5 k5 c5] rfl rfl (two_cells w2 _ _ _) (by simp [Value.oneCell']) (by unfold maxLen; omega) (by omega) hbA.size ?_; intro v3 w3 o3 gr3; have hs3 := HK.out w3 (hbA.grown gr3 hbA.size (fun k hk => (HOA.out.lt k hk).1))))
  have hb3 : Below w.heap.size w w3 := hbA.grown gr3 hbA.size (fun k hk => (HOA.out.lt k hk).1)
  obtain ⟨q3, d3, hv3⟩ := own_slice o3
  subst hv3
  replace HO := hid o3
  replace hb := hb3
  clear o3 gr3 hb3 HOA hbA hsA hs0 hs3 e0 e1 e2 e3 e4 e5 hsz
  go_wp2_with fail
  rw [rounds_succ]
  obtain ⟨gl, cap, hv, hcap, _⟩ := own_shape HO.out (by omega)
  obtain ⟨rfl, rfl⟩ : q3 = some ⟨gl, 0, none⟩ ∧ d3 = cap := by simpa using hv
  clear hv
  have HLs : Hid (Lists w3 base gl 6 (fun j => ([.slice a0 k0 c0, .slice a1 k1 c1, .slice a2 k2 c2, .slice a3 k3 c3, .slice a4 k4 c4, .slice a5 k5 c5] : List Value)[j]?.getD undef) X) := by
    obtain ⟨cl, hg, hcl⟩ := own_row HO.out
    refine ⟨HF.out.1, HF.out.2.1, fun j hj => owns_later (HF.out.2.2.1 j hj) hb, HF.out.2.2.2, ⟨cl, hg, fun j hj => ?_⟩⟩
    rw [hcl j hj]
    match j, hj with
    | 0, _ => rfl
    | 1, _ => rfl
    | 2, _ => rfl
    | 3, _ => rfl
    | 4, _ => rfl
    | 5, _ => rfl
  have HAP := hid (apart_cap base gl 6 d3 _ X w3 HLs.out (by omega) (by have := hb.size; omega) hcap)
  have HBB := hid (hb.mono hbs)
  clear HLs HO hb hcap
  clear HK HF HBX
  go_wp2_with fail
  refine Calls.mono HAP.out ?_
  rintro e wE ⟨rfl, hbE⟩
  have HBE := hid (HBB.out.trans hbE)
  clear hbE HAP
  go_wp2_with fail
  go_ret
  exact ⟨rfl, HBE.out⟩
end Go.Proofs.YtbnhpkelnoolhaaGreatDoor

/- Whole numbers that are lent to a call: slackwaterkit.LentWhole, KeptWhole; the law's own comparison. -/
namespace Go.Proofs.YtbnhpkelnoolhaaGreatDoor
open Go.RowKit
set_option linter.unusedVariables false

theorem own_room {w : World} {base e n : Nat} {v : Value} {xs : List Value} (h : w.ownsRow base e 1 v n xs) (hn : 0 < n) : ∃ g cap, v = .slice (some ⟨g, 0, none⟩) n cap ∧ n ≤ cap ∧ cap ≤ 9223372036854775807 := by
  obtain ⟨g, cap, rfl, h1, h2⟩ := own_shape' h hn
  exact ⟨g, cap, rfl, h1, by unfold maxLen at h2; omega⟩

end Go.Proofs.YtbnhpkelnoolhaaGreatDoor

/- Fractions that are lent to a call: slackwaterkit.LentRatio, KeptRatio. -/
namespace Go.Proofs.YtbnhpkelnoolhaaGreatDoor
open Go.RowKit
set_option linter.unusedVariables false

set_option maxHeartbeats 6400000 in
set_option maxRecDepth 100000 in
theorem lentRatio_any (n : Bool) (a : Option Addr) (ca : Nat) (xs : List Int) (b : Option Addr) (cb : Nat) (ys : List Int) (w : World) (sx : Sl w (.slice a xs.length ca) xs) (sy : Sl w (.slice b ys.length cb) ys) (lx : xs.length ≤ 549755813888) (ly : ys.length ≤ 549755813888) :
    Calls Tryz.prog 6 #[.agg #[.bool n, .slice a xs.length ca, .slice b ys.length cb]] w fun e w' => ∃ g1 c1 g2 c2, e = .returned (.agg #[.bool n, .slice (some ⟨g1, 0, none⟩) xs.length c1, .slice (some ⟨g2, 0, none⟩) ys.length c2]) ∧ w'.ownsRow w.heap.size 40 1 (.slice (some ⟨g1, 0, none⟩) (xs.length + 3) c1) (xs.length + 3) ((xs ++ marks 3).map (Value.int .u32)) ∧ w'.ownsRow w.heap.size 40 1 (.slice (some ⟨g2, 0, none⟩) (ys.length + 3) c2) (ys.length + 3) ((ys ++ marks 3).map (Value.int .u32)) ∧ g1 < g2 ∧ Below w.heap.size w w' := by
  have HB : Hid (Below w.heap.size w ((w.alloc (.cells #[.bool n, .slice a xs.length ca, .slice b ys.length cb] 24)).alloc (.cells #[.bool false, .slice none 0 0, .slice none 0 0] 24))) := bt (alloc_later _ _) (alloc_later _ _)
  have HA : Hid (Box ((w.alloc (.cells #[.bool n, .slice a xs.length ca, .slice b ys.length cb] 24)).alloc (.cells #[.bool false, .slice none 0 0, .slice none 0 0] 24)) w.heap.size 24 #[.bool n, .slice a xs.length ca, .slice b ys.length cb]) := Box.later (Box.made w _ _) (alloc_later _ _) (by simp)
  have HZ : Hid (Box ((w.alloc (.cells #[.bool n, .slice a xs.length ca, .slice b ys.length cb] 24)).alloc (.cells #[.bool false, .slice none 0 0, .slice none 0 0] 24)) (w.heap.size + 1) 24 #[.bool false, .slice none 0 0, .slice none 0 0]) := by
    have e := Box.made (w.alloc (.cells #[.bool n, .slice a xs.length ca, .slice b ys.length cb] 24)) 24 #[.bool false, .slice none 0 0, .slice none 0 0]
    simp at e
    exact e
  have HS := hid (And.intro (sx.later HB.out) (sy.later HB.out))
  clear sx sy
  go_enter Tryz.func6, Tryz.ntmps6
  go_wp2_with fail
  generalize ((w.alloc (.cells #[.bool n, .slice a xs.length ca, .slice b ys.length cb] 24)).alloc (.cells #[.bool false, .slice none 0 0, .slice none 0 0] 24)) = X at *
  have HK : Hid (∀ V, Below X.heap.size X V → (V.cell? ⟨w.heap.size, 0, none⟩ = some (.bool n) ∧ V.cell? ⟨w.heap.size, 1, none⟩ = some (.slice a xs.length ca) ∧ V.cell? ⟨w.heap.size, 2, none⟩ = some (.slice b ys.length cb))) := fun V hb => by
    obtain ⟨p0, p1, p2, _, _, _⟩ := res_box3 HA.out hb
    exact ⟨p0, p1, p2⟩
  have hs0 := HK.out _ (Below.drew (Below.refl _ X))
  have HL1 : Hid (∀ V, Below X.heap.size X V → Calls Tryz.prog 27 #[.slice a xs.length ca] V fun e V' => ∃ g cap, e = .returned (.slice (some ⟨g, 0, none⟩) (xs.length + 3) cap) ∧ xs.length + 3 ≤ cap ∧ cap ≤ 9223372036854775807 ∧ (xs.length : Int) ≤ (cap : Int) ∧ Hid (V'.ownsRow X.heap.size 40 1 (.slice (some ⟨g, 0, none⟩) (xs.length + 3) cap) (xs.length + 3) ((xs ++ marks 3).map (Value.int .u32)) ∧ Below V.heap.size V V' ∧ Below X.heap.size X V' ∧ V.heap.size ≤ g ∧ g < V'.heap.size) ∧ (V'.cell? ⟨w.heap.size, 0, none⟩ = some (.bool n) ∧ V'.cell? ⟨w.heap.size, 1, none⟩ = some (.slice a xs.length ca) ∧ V'.cell? ⟨w.heap.size, 2, none⟩ = some (.slice b ys.length cb)) ∧ V'.cell? ⟨w.heap.size + 1, 0, none⟩ = some (.bool false) ∧ V'.cell? ⟨w.heap.size + 1, 1, none⟩ = some (.slice none 0 0) ∧ V'.cell? ⟨w.heap.size + 1, 2, none⟩ = some (.slice none 0 0) ∧ V'.frozen? ⟨w.heap.size + 1, 0, none⟩ = false ∧ V'.frozen? ⟨w.heap.size + 1, 1, none⟩ = false ∧ V'.frozen? ⟨w.heap.size + 1, 2, none⟩ = false) := fun V hb => by
    refine Calls.mono (lentWords_sl _ xs _ (HS.out.1.later hb) lx) ?_
    rintro e V' ⟨v1, rfl, o1, hb1⟩
    obtain ⟨g, cap, hv, h1, h2⟩ := own_room o1 (by omega)
    subst hv
    have hbX : Below X.heap.size X V' := bt hb hb1
    exact ⟨g, cap, rfl, h1, h2, by omega, ⟨owns_base o1 hb.size, hb1, hbX, (o1.lt g rfl).1, (o1.lt g rfl).2⟩, HK.out V' hbX, res_box3 HZ.out hbX⟩
  have HL2 : Hid (∀ V, Below X.heap.size X V → Calls Tryz.prog 27 #[.slice b ys.length cb] V fun e V' => ∃ g cap, e = .returned (.slice (some ⟨g, 0, none⟩) (ys.length + 3) cap) ∧ ys.length + 3 ≤ cap ∧ cap ≤ 9223372036854775807 ∧ (ys.length : Int) ≤ (cap : Int) ∧ Hid (V'.ownsRow X.heap.size 40 1 (.slice (some ⟨g, 0, none⟩) (ys.length + 3) cap) (ys.length + 3) ((ys ++ marks 3).map (Value.int .u32)) ∧ Below V.heap.size V V' ∧ Below X.heap.size X V' ∧ V.heap.size ≤ g ∧ g < V'.heap.size) ∧ (V'.cell? ⟨w.heap.size, 0, none⟩ = some (.bool n) ∧ V'.cell? ⟨w.heap.size, 1, none⟩ = some (.slice a xs.length ca) ∧ V'.cell? ⟨w.heap.size, 2, none⟩ = some (.slice b ys.length cb)) ∧ V'.cell? ⟨w.heap.size + 1, 0, none⟩ = some (.bool false) ∧ V'.cell? ⟨w.heap.size + 1, 1, none⟩ = some (.slice none 0 0) ∧ V'.cell? ⟨w.heap.size + 1, 2, none⟩ = some (.slice none 0 0) ∧ V'.frozen? ⟨w.heap.size + 1, 0, none⟩ = false ∧ V'.frozen? ⟨w.heap.size + 1, 1, none⟩ = false ∧ V'.frozen? ⟨w.heap.size + 1, 2, none⟩ = false) := fun V hb => by
    refine Calls.mono (lentWords_sl _ ys _ (HS.out.2.later hb) ly) ?_
    rintro e V' ⟨v1, rfl, o1, hb1⟩
    obtain ⟨g, cap, hv, h1, h2⟩ := own_room o1 (by omega)
    subst hv
    have hbX : Below X.heap.size X V' := bt hb hb1
    exact ⟨g, cap, rfl, h1, h2, by omega, ⟨owns_base o1 hb.size, hb1, hbX, (o1.lt g rfl).1, (o1.lt g rfl).2⟩, HK.out V' hbX, res_box3 HZ.out hbX⟩
  have hx0 : (0 : Int) ≤ (xs.length : Int) := by omega
  have hlx : xs.length ≤ 9223372036854775807 := by omega
  have hy0 : (0 : Int) ≤ (ys.length : Int) := by omega
  have hly : ys.length ≤ 9223372036854775807 := by omega
  clear HS HA
  go_region_held3 (fun V : World => (V.cell? ⟨w.heap.size, 0, none⟩ = some (.bool n) ∧ V.cell? ⟨w.heap.size, 1, none⟩ = some (.slice a xs.length ca) ∧ V.cell? ⟨w.heap.size, 2, none⟩ = some (.slice b ys.length cb))) (first | exact hs2 | exact hs1 | exact hs0 | (simp [hs2, World.cell?_setCell_far]))
    (first
      | (go_at_call 27; with_reducible refine Calls.mono (HL2.out _ HE1.out.2.2.1) ?_; rintro e w2 ⟨g2, c2, rfl, hd1, hd2, hd3, HE2, hs2, r0, r1, r2, f0, f1, f2⟩)
      | (go_at_call 27; with_reducible refine Calls.mono (HL1.out _ (Below.drew (Below.refl _ X))) ?_; rintro e w1 ⟨g1, c1, rfl, hc1, hc2, hc3, HE1, hs1, y0, y1, y2, z0, z1, z2⟩))
  all_goals
    have HZ2 := hid (HZ.out.later HE2.out.2.2.1 HZ.out.lt)
    have HO1 := hid (own_put3 (owns_base (owns_later HE1.out.1 HE2.out.2.1) HB.out.size) (w.heap.size + 1) (own_ne_box (owns_later HE1.out.1 HE2.out.2.1) HZ2.out (by decide)) (.bool n) (.slice (some ⟨g1, 0, none⟩) xs.length c1) (.slice (some ⟨g2, 0, none⟩) ys.length c2))
    have HO2 := hid (own_put3 (owns_base HE2.out.1 HB.out.size) (w.heap.size + 1) (own_ne_box HE2.out.1 HZ2.out (by decide)) (.bool n) (.slice (some ⟨g1, 0, none⟩) xs.length c1) (.slice (some ⟨g2, 0, none⟩) ys.length c2))
    have HBN := hid (below_put3 (bt HB.out HE2.out.2.2.1) (w.heap.size + 1) (by omega) (.bool n) (.slice (some ⟨g1, 0, none⟩) xs.length c1) (.slice (some ⟨g2, 0, none⟩) ys.length c2))
    have HG : Hid (g1 < g2) := by have e1 := HE1.out.2.2.2.2; have e2 := HE2.out.2.2.2.1; show _ < _; omega
    clear HK HL1 HL2 HE1 HE2 HZ HB HZ2 hs0 hs1 hs2 y0 y1 y2 z0 z1 z2
    go_wp2_with fail
    refine bodyPost_ret (v := .agg #[.bool n, .slice (some ⟨g1, 0, none⟩) xs.length c1, .slice (some ⟨g2, 0, none⟩) ys.length c2]) (by simp [results, Tryz.results6, go_sem, r0, r1, r2]) rfl ?_
    exact ⟨g1, c1, g2, c2, rfl, HO1.out, HO2.out, HG.out, HBN.out⟩

set_option maxHeartbeats 6400000 in
set_option maxRecDepth 100000 in
theorem keptRatio_any (n : Bool) (a : Option Addr) (ca : Nat) (xs : List Int) (b : Option Addr) (cb : Nat) (ys : List Int) (g1 c1 g2 c2 base : Nat) (w : World) (sx : Sl w (.slice a xs.length ca) xs) (sy : Sl w (.slice b ys.length cb) ys) (lx : xs.length ≤ 274877906944) (ly : ys.length ≤ 274877906944) (o1 : w.ownsRow base 40 1 (.slice (some ⟨g1, 0, none⟩) (xs.length + 3) c1) (xs.length + 3) ((xs ++ marks 3).map (Value.int .u32))) (o2 : w.ownsRow base 40 1 (.slice (some ⟨g2, 0, none⟩) (ys.length + 3) c2) (ys.length + 3) ((ys ++ marks 3).map (Value.int .u32))) :
    Calls Tryz.prog 12 #[.agg #[.bool n, .slice (some ⟨g1, 0, none⟩) xs.length c1, .slice (some ⟨g2, 0, none⟩) ys.length c2], .agg #[.bool n, .slice a xs.length ca, .slice b ys.length cb]] w fun e w' => e = .returned (.bool true) ∧ Below w.heap.size w w' := by
  have hcap1 : xs.length + 3 ≤ c1 ∧ c1 ≤ 9223372036854775807 := by
    obtain ⟨g', cap', hv, h1, h2⟩ := own_room o1 (by omega)
    simp only [Value.slice.injEq, Option.some.injEq, Addr.mk.injEq, and_true, true_and] at hv
    obtain ⟨rfl, rfl⟩ := hv
    exact ⟨h1, h2⟩
  have wf1 : Wd (xs ++ marks 3) := sx.wd.append (Wd.marks 3)
  have lf1 : (xs ++ marks 3).length = xs.length + 3 := by rw [List.length_append, marks_len 3 (by omega)]
  have hcap2 : ys.length + 3 ≤ c2 ∧ c2 ≤ 9223372036854775807 := by
    obtain ⟨g', cap', hv, h1, h2⟩ := own_room o2 (by omega)
    simp only [Value.slice.injEq, Option.some.injEq, Addr.mk.injEq, and_true, true_and] at hv
    obtain ⟨rfl, rfl⟩ := hv
    exact ⟨h1, h2⟩
  have wf2 : Wd (ys ++ marks 3) := sy.wd.append (Wd.marks 3)
  have lf2 : (ys ++ marks 3).length = ys.length + 3 := by rw [List.length_append, marks_len 3 (by omega)]
  have HO := hid (And.intro (Sl.own o1 wf1) (Sl.own o2 wf2))
  have HS := hid (And.intro sx sy)
  have HB : Hid (Below w.heap.size w ((w.alloc (.cells #[.bool n, .slice (some ⟨g1, 0, none⟩) xs.length c1, .slice (some ⟨g2, 0, none⟩) ys.length c2] 24)).alloc (.cells #[.bool n, .slice a xs.length ca, .slice b ys.length cb] 24))) := bt (alloc_later _ _) (alloc_later _ _)
  have HA : Hid (Box ((w.alloc (.cells #[.bool n, .slice (some ⟨g1, 0, none⟩) xs.length c1, .slice (some ⟨g2, 0, none⟩) ys.length c2] 24)).alloc (.cells #[.bool n, .slice a xs.length ca, .slice b ys.length cb] 24)) w.heap.size 24 #[.bool n, .slice (some ⟨g1, 0, none⟩) xs.length c1, .slice (some ⟨g2, 0, none⟩) ys.length c2]) := Box.later (Box.made w _ _) (alloc_later _ _) (by simp)
  have HZ : Hid (Box ((w.alloc (.cells #[.bool n, .slice (some ⟨g1, 0, none⟩) xs.length c1, .slice (some ⟨g2, 0, none⟩) ys.length c2] 24)).alloc (.cells #[.bool n, .slice a xs.length ca, .slice b ys.length cb] 24)) (w.heap.size + 1) 24 #[.bool n, .slice a xs.length ca, .slice b ys.length cb]) := by
    have e := Box.made (w.alloc (.cells #[.bool n, .slice (some ⟨g1, 0, none⟩) xs.length c1, .slice (some ⟨g2, 0, none⟩) ys.length c2] 24)) 24 #[.bool n, .slice a xs.length ca, .slice b ys.length cb]
    simp at e
    exact e
  have hc1 := hcap1.1
  have hm1 := hcap1.2
  have hll1 : ((xs.length : Int) == (xs.length : Int)) = true := by simp
  have hx1 : (0 : Int) ≤ (xs.length : Int) + 3 := by omega
  have hxc1 : (xs.length : Int) + 3 ≤ (c1 : Int) := by omega
  have hwr1 : IntKind.i64.wrap ((xs.length : Int) + 3) = (xs.length : Int) + 3 := by rw [IntKind.wrap_i64]; omega
  have htn1 : ((xs.length : Int) + 3).toNat = xs.length + 3 := by omega
  have hc2 := hcap2.1
  have hm2 := hcap2.2
  have hll2 : ((ys.length : Int) == (ys.length : Int)) = true := by simp
  have hx2 : (0 : Int) ≤ (ys.length : Int) + 3 := by omega
  have hxc2 : (ys.length : Int) + 3 ≤ (c2 : Int) := by omega
  have hwr2 : IntKind.i64.wrap ((ys.length : Int) + 3) = (ys.length : Int) + 3 := by rw [IntKind.wrap_i64]; omega
  have htn2 : ((ys.length : Int) + 3).toNat = ys.length + 3 := by omega
  have hnn : (n == n) = true := by simp
  clear o1 o2 hcap1 hcap2 sx sy
  go_enter Tryz.func12, Tryz.ntmps12
  go_wp2_with fail
  generalize ((w.alloc (.cells #[.bool n, .slice (some ⟨g1, 0, none⟩) xs.length c1, .slice (some ⟨g2, 0, none⟩) ys.length c2] 24)).alloc (.cells #[.bool n, .slice a xs.length ca, .slice b ys.length cb] 24)) = X at *
  have HK : Hid (∀ V, Below X.heap.size X V → (V.cell? ⟨w.heap.size, 0, none⟩ = some (.bool n) ∧ V.cell? ⟨w.heap.size, 1, none⟩ = some (.slice (some ⟨g1, 0, none⟩) xs.length c1) ∧ V.cell? ⟨w.heap.size, 2, none⟩ = some (.slice (some ⟨g2, 0, none⟩) ys.length c2) ∧ V.cell? ⟨w.heap.size + 1, 0, none⟩ = some (.bool n) ∧ V.cell? ⟨w.heap.size + 1, 1, none⟩ = some (.slice a xs.length ca) ∧ V.cell? ⟨w.heap.size + 1, 2, none⟩ = some (.slice b ys.length cb))) := fun V hb => by
    obtain ⟨p0, p1, p2, _, _, _⟩ := res_box3 HA.out hb
    obtain ⟨q0, q1, q2, _, _, _⟩ := res_box3 HZ.out hb
    exact ⟨p0, p1, p2, q0, q1, q2⟩
  have hs0 := HK.out _ (Below.drew (Below.refl _ X))
  have HL1 : Hid (∀ V, Below X.heap.size X V → Calls Tryz.prog 43 #[.slice (some ⟨g1, 0, none⟩) (xs.length + 3) c1, .slice a xs.length ca] V fun e V' => e = .returned (.bool true) ∧ Hid (Below X.heap.size X V') ∧ (V'.cell? ⟨w.heap.size, 0, none⟩ = some (.bool n) ∧ V'.cell? ⟨w.heap.size, 1, none⟩ = some (.slice (some ⟨g1, 0, none⟩) xs.length c1) ∧ V'.cell? ⟨w.heap.size, 2, none⟩ = some (.slice (some ⟨g2, 0, none⟩) ys.length c2) ∧ V'.cell? ⟨w.heap.size + 1, 0, none⟩ = some (.bool n) ∧ V'.cell? ⟨w.heap.size + 1, 1, none⟩ = some (.slice a xs.length ca) ∧ V'.cell? ⟨w.heap.size + 1, 2, none⟩ = some (.slice b ys.length cb))) := fun V hb => by
    have e := keptWords_sl _ _ (xs ++ marks 3) xs V (HO.out.1.later (bt HB.out hb)) (HS.out.1.later (bt HB.out hb)) (by omega) lx
    rw [decide_eq_true rfl] at e
    refine Calls.mono e ?_
    rintro e V' ⟨rfl, hb1⟩
    have hbX : Below X.heap.size X V' := bt hb hb1
    exact ⟨rfl, hbX, HK.out V' hbX⟩
  have HL2 : Hid (∀ V, Below X.heap.size X V → Calls Tryz.prog 43 #[.slice (some ⟨g2, 0, none⟩) (ys.length + 3) c2, .slice b ys.length cb] V fun e V' => e = .returned (.bool true) ∧ Hid (Below X.heap.size X V') ∧ (V'.cell? ⟨w.heap.size, 0, none⟩ = some (.bool n) ∧ V'.cell? ⟨w.heap.size, 1, none⟩ = some (.slice (some ⟨g1, 0, none⟩) xs.length c1) ∧ V'.cell? ⟨w.heap.size, 2, none⟩ = some (.slice (some ⟨g2, 0, none⟩) ys.length c2) ∧ V'.cell? ⟨w.heap.size + 1, 0, none⟩ = some (.bool n) ∧ V'.cell? ⟨w.heap.size + 1, 1, none⟩ = some (.slice a xs.length ca) ∧ V'.cell? ⟨w.heap.size + 1, 2, none⟩ = some (.slice b ys.length cb))) := fun V hb => by
    have e := keptWords_sl _ _ (ys ++ marks 3) ys V (HO.out.2.later (bt HB.out hb)) (HS.out.2.later (bt HB.out hb)) (by omega) ly
    rw [decide_eq_true rfl] at e
    refine Calls.mono e ?_
    rintro e V' ⟨rfl, hb1⟩
    have hbX : Below X.heap.size X V' := bt hb hb1
    exact ⟨rfl, hbX, HK.out V' hbX⟩
  clear HA HZ wf1 wf2 lf1 lf2 HO HS
  go_region_held3 (fun V : World => (V.cell? ⟨w.heap.size, 0, none⟩ = some (.bool n) ∧ V.cell? ⟨w.heap.size, 1, none⟩ = some (.slice (some ⟨g1, 0, none⟩) xs.length c1) ∧ V.cell? ⟨w.heap.size, 2, none⟩ = some (.slice (some ⟨g2, 0, none⟩) ys.length c2) ∧ V.cell? ⟨w.heap.size + 1, 0, none⟩ = some (.bool n) ∧ V.cell? ⟨w.heap.size + 1, 1, none⟩ = some (.slice a xs.length ca) ∧ V.cell? ⟨w.heap.size + 1, 2, none⟩ = some (.slice b ys.length cb))) (first | exact hs2 | exact hs1 | exact hs0 | exact HK.out _ (Below.drew HE1.out))
    (first
      | (go_at_call 43; with_reducible refine Calls.mono (HL2.out _ (by first | exact HE1.out | exact Below.drew HE1.out)) ?_; rintro e w2 ⟨rfl, HE2, hs2⟩)
      | (go_at_call 43; with_reducible refine Calls.mono (HL1.out _ (Below.drew (Below.refl _ X))) ?_; rintro e w1 ⟨rfl, HE1, hs1⟩))
  all_goals
    have HBN := hid (bt HB.out HE2.out)
    clear HK HL1 HL2 HE1 HE2 HB hs0 hs1 hs2
    go_wp2_with fail
    go_ret
    exact ⟨rfl, HBN.out⟩
end Go.Proofs.YtbnhpkelnoolhaaGreatDoor

/- The document's own fractions: same words; Check. -/
namespace Go.Proofs.YtbnhpkelnoolhaaGreatDoor
open Go.RowKit
set_option linter.unusedVariables false

set_option maxHeartbeats 800000 in
set_option maxRecDepth 100000 in
theorem same3_any (a : Option Addr) (n cap : Nat) (xs : List Int) (b : Option Addr) (m cap' : Nat) (ys : List Int) (w : World) (h : Reads w w.heap.size a n cap xs) (g : Reads w w.heap.size b m cap' ys) (hn : n ≤ 281474976710656) (hm : m ≤ 281474976710656) :
    Calls Tryz.prog 33 #[.slice a n cap, .slice b m cap'] w fun e w' => e = .returned (.bool (decide (xs = ys))) ∧ Below w.heap.size w w' := by
  obtain ⟨hl, hw, hc, hcap⟩ := h
  obtain ⟨gl, gw, gc, gcap⟩ := g
  by_cases hnm : n = m
  · subst hnm
    have htt : ((n : Int) != (n : Int)) = false := by simp
    rcases hc with h0 | ⟨b1, o1, rfl, hb1, hc⟩
    · subst h0
      have hx : xs = [] := List.eq_nil_of_length_eq_zero hl
      have hy : ys = [] := List.eq_nil_of_length_eq_zero gl
      subst hx; subst hy
      go_enter Tryz.func33, Tryz.ntmps33
      go_wp2
      refine wp_loop_rounds 1 ?_
      rw [rounds_succ]
      go_wp2
      go_ret
      exact ⟨rfl, Below.refl _ _⟩
    · rcases gc with g0 | ⟨b2, o2, rfl, hb2, gc⟩
      · subst g0
        have hx : xs = [] := List.eq_nil_of_length_eq_zero hl
        have hy : ys = [] := List.eq_nil_of_length_eq_zero gl
        subst hx; subst hy
        go_enter Tryz.func33, Tryz.ntmps33
        go_wp2
        refine wp_loop_rounds 1 ?_
        rw [rounds_succ]
        go_wp2
        go_ret
        exact ⟨rfl, Below.refl _ _⟩
      · have HL : Hid (xs.length = n ∧ ys.length = n) := ⟨hl, gl⟩
        clear hl gl
        go_enter Tryz.func33, Tryz.ntmps33
        go_wp2
        go_loopw [5] (fun t wr => ∃ k : Nat, k ≤ n ∧ t = .int .i64 k ∧ xs.take k = ys.take k ∧ Below w.heap.size w wr) (fun t _ => n - (intOf t).toNat)
        case atStart => exact ⟨0, Nat.zero_le _, rfl, rfl, Below.refl _ _⟩
        case round =>
          obtain ⟨k, hk, rfl, hs, hbel⟩ := hrel
          have HS : Hid (xs.take k = ys.take k) := hs
          clear hs
          by_cases hlt : k < n
          · have hcx : wr.cell? ⟨b1, o1 + k, none⟩ = some (.int .u32 (xs[k]?.getD 0)) := (hbel.cell (p := ⟨b1, o1 + k, none⟩) hb1).trans (hc k hlt)
            have hcy : wr.cell? ⟨b2, o2 + k, none⟩ = some (.int .u32 (ys[k]?.getD 0)) := (hbel.cell (p := ⟨b2, o2 + k, none⟩) hb2).trans (gc k hlt)
            by_cases he : xs[k]?.getD 0 = ys[k]?.getD 0
            · have hne : (xs[k]?.getD 0 != ys[k]?.getD 0) = false := by simp [he]
              have HE : Hid (xs[k]?.getD 0 = ys[k]?.getD 0) := he
              clear he
              go_wp2
              go_region

              all_goals go_wp2

              all_goals
                go_roundw
                case rel => exact ⟨k + 1, by omega, by go_num, take_same HS.out (by have := HL.out; omega) (by have := HL.out; omega) HE.out, hbel.drew⟩
                case measure => simp [intOf]; omega
            · have hne : (xs[k]?.getD 0 != ys[k]?.getD 0) = true := by simp [he]
              have HE : Hid (¬ xs[k]?.getD 0 = ys[k]?.getD 0) := he
              clear he
              go_wp2
              go_region
              all_goals go_wp2
              all_goals
                go_ret
                exact ⟨ret_bool (decide_eq_false fun e => HE.out (by rw [e])).symm, hbel.drew⟩
          · have hkn : k = n := by omega
            subst hkn
            go_wp2
            go_ret
            exact ⟨ret_bool (decide_eq_true (by have := HS.out; have hl := HL.out; rwa [List.take_of_length_le (by omega), List.take_of_length_le (by omega)] at this)).symm, hbel⟩
  · have hne : ((n : Int) != (m : Int)) = true := by simp; omega
    have hd : decide (xs = ys) = false := decide_eq_false fun e => hnm (by rw [← hl, ← gl, e])
    have HD : Hid (decide (xs = ys) = false) := hd
    clear hd hc gc
    go_enter Tryz.func33, Tryz.ntmps33
    go_wp2
    go_ret
    exact ⟨ret_bool HD.out.symm, Below.refl _ _⟩

theorem same3_sl (v u : Value) (xs ys : List Int) (w : World) (h : Sl w v xs) (g : Sl w u ys) (hn : xs.length ≤ 281474976710656) (hm : ys.length ≤ 281474976710656) :
    Calls Tryz.prog 33 #[v, u] w fun e w' => e = .returned (.bool (decide (xs = ys))) ∧ Below w.heap.size w w' := by
  obtain ⟨a, ca, rfl, hr⟩ := h
  obtain ⟨b, cb, rfl, gr⟩ := g
  exact same3_any a _ ca xs b _ cb ys w hr gr hn hm
theorem rchk_long {n : Bool} {xs ys : List Int} (h : 2048 < xs.length ∨ 2048 < ys.length) : rchk n xs ys = 3 := by unfold rchk; rw [if_pos (by omega)]
theorem rchk_rough {n : Bool} {xs ys : List Int} (l1 : xs.length ≤ 2048) (l2 : ys.length ≤ 2048) (h : ¬ rform n xs ys) : rchk n xs ys = 11 := by unfold rchk; rw [if_neg (by omega), if_neg h]
theorem Tells.len' {e t : Int} {zs : List Int} {c : Int} (h : Tells e t zs c) : zs.length ≤ 8192 := by
  by_cases he : e = 0
  · by_cases hl : wide ≤ t
    · rw [(h.long he hl).2]; simp
    · have e1 := (h.good he (by omega)).2
      exact len_of_lt h.wd h.trim (by rw [e1]; exact Int.not_le.1 hl)
  · rw [(h.bad he).2]; simp
theorem rform_trim {n : Bool} {xs ys : List Int} (h : rform n xs ys) : sz xs = xs.length ∧ sz ys = ys.length := ⟨(chk_ok (both_ok h.1).1).2, (chk_ok (both_ok h.1).2).2⟩

set_option maxHeartbeats 1600000 in
set_option maxRecDepth 100000 in
theorem check3_any (n : Bool) (a : Option Addr) (ca : Nat) (xs : List Int) (b : Option Addr) (cb : Nat) (ys : List Int) (w : World) (sx : Sl w (.slice a xs.length ca) xs) (sy : Sl w (.slice b ys.length cb) ys) (lx : xs.length ≤ 281474976710656) (ly : ys.length ≤ 281474976710656) :
    Calls Tryz.prog 31 #[.agg #[.bool n, .slice a xs.length ca, .slice b ys.length cb]] w fun e w' => e = .returned (.int .i64 (rchk n xs ys)) ∧ Below w.heap.size w w' := by
  have wx := sx.wd
  have wy := sy.wd
  have HB := hid (alloc_later w (.cells #[.bool n, .slice a xs.length ca, .slice b ys.length cb] 24))
  have HN := hid (Box.made w 24 #[.bool n, .slice a xs.length ca, .slice b ys.length cb])
  have HS := hid (And.intro (sx.later HB.out) (sy.later HB.out))
  have HR := hid (Below.refl (w.alloc (.cells #[.bool n, .slice a xs.length ca, .slice b ys.length cb] 24)).heap.size (w.alloc (.cells #[.bool n, .slice a xs.length ca, .slice b ys.length cb] 24)))
  have HT1 := hid (fun ww (hb : Below (w.alloc (.cells #[.bool n, .slice a xs.length ca, .slice b ys.length cb] 24)).heap.size (w.alloc (.cells #[.bool n, .slice a xs.length ca, .slice b ys.length cb] 24)) ww) => trimmed3_any _ xs ww (HS.out.1.later hb) lx)
  have HT2 := hid (fun ww (hb : Below (w.alloc (.cells #[.bool n, .slice a xs.length ca, .slice b ys.length cb] 24)).heap.size (w.alloc (.cells #[.bool n, .slice a xs.length ca, .slice b ys.length cb] 24)) ww) => trimmed3_any _ ys ww (HS.out.2.later hb) ly)
  clear sx sy
  by_cases h1 : 2048 < xs.length
  · rw [rchk_long (.inl h1)]
    have h1' : (2048 : Int) < (xs.length : Int) := by omega
    clear h1
    go_enter Tryz.func31, Tryz.ntmps31
    go_wp2_with fail
    go_ret
    exact ⟨rfl, HB.out⟩
  · have h1' : ¬ (2048 : Int) < (xs.length : Int) := by omega
    by_cases h2 : 2048 < ys.length
    · rw [rchk_long (.inr h2)]
      have h2' : (2048 : Int) < (ys.length : Int) := by omega
      clear h1 h2
      go_enter Tryz.func31, Tryz.ntmps31
      go_wp2_with fail
      go_ret
      exact ⟨rfl, HB.out⟩
    · have h2' : ¬ (2048 : Int) < (ys.length : Int) := by omega
      have HL : Hid (xs.length ≤ 2048 ∧ ys.length ≤ 2048) := ⟨by omega, by omega⟩
      clear h1 h2
      by_cases h3 : sz xs = xs.length
      · rw [decide_eq_true h3] at HT1
        by_cases h4 : sz ys = ys.length
        · rw [decide_eq_true h4] at HT2
          by_cases h5 : ys.length = 0
          · rw [rchk_rough HL.out.1 HL.out.2 (fun h => by have := h.2.1; omega)]
            have h5' : ((ys.length : Int) == 0) = true := by rw [h5]; rfl
            clear h3 h4 h5
            go_enter Tryz.func31, Tryz.ntmps31
            go_wp2_with fail
            refine Calls.mono (HT1.out _ HR.out) ?_
            generalize (w.alloc (.cells #[.bool n, .slice a xs.length ca, .slice b ys.length cb] 24)) = X at *
            rintro e w1 ⟨rfl, hb1⟩
            obtain ⟨p0, p1, p2, _⟩ := res_box3 HN.out hb1
            have HC := hid (HT2.out w1 hb1)
            have HB1 := hid hb1
            clear hb1
            go_wp2_with fail
            refine Calls.mono HC.out ?_
            rintro e w2 ⟨rfl, hb2⟩
            have HB2 := hid (bt HB1.out hb2)
            clear hb2 p0 p1 p2
            obtain ⟨p0, p1, p2, _⟩ := res_box3 HN.out HB2.out
            go_wp2_with fail
            go_ret
            exact ⟨rfl, bt HB.out HB2.out⟩
          · have h5' : ((ys.length : Int) == 0) = false := beq_eq_false_iff_ne.2 (by omega)
            have HBO : Hid (both xs ys = 0) := both_good (chk_good (by have := HL.out; omega) h3) (chk_good (by have := HL.out; omega) h4)
            have HGW := hid (gcd_wide wx wy HBO.out)
            by_cases h6 : xs.length = 0
            · have h6' : ((xs.length : Int) == 0) = true := by rw [h6]; rfl
              cases n with
              | true =>
                rw [rchk_rough HL.out.1 HL.out.2 (fun h => h.2.2.1.elim (fun e => by cases e) (fun e => by omega))]
                clear h3 h4 h5 h6
                go_enter Tryz.func31, Tryz.ntmps31
                go_wp2_with fail
                refine Calls.mono (HT1.out _ HR.out) ?_
                generalize (w.alloc (.cells #[.bool true, .slice a xs.length ca, .slice b ys.length cb] 24)) = X at *
                rintro e w1 ⟨rfl, hb1⟩
                obtain ⟨p0, p1, p2, _⟩ := res_box3 HN.out hb1
                have HC := hid (HT2.out w1 hb1)
                have HB1 := hid hb1
                clear hb1
                go_wp2_with fail
                refine Calls.mono HC.out ?_
                rintro e w2 ⟨rfl, hb2⟩
                have HB2 := hid (bt HB1.out hb2)
                clear hb2 p0 p1 p2
                obtain ⟨p0, p1, p2, _⟩ := res_box3 HN.out HB2.out
                go_wp2_with fail
                go_ret
                exact ⟨rfl, bt HB.out HB2.out⟩
              | false =>
                by_cases hg : gcdI (val xs) (val ys) = 1
                · rw [show rchk false xs ys = 0 from rchk_good HL.out.1 HL.out.2 h3 h4 (by omega) (.inl rfl) hg]
                  have HGG : Hid (decide (gcdI (val xs) (val ys) = 1) = true) := decide_eq_true hg
                  clear h3 h4 h5 h6 hg
                  go_enter Tryz.func31, Tryz.ntmps31
                  go_wp2_with fail
                  refine Calls.mono (HT1.out _ HR.out) ?_
                  generalize (w.alloc (.cells #[.bool false, .slice a xs.length ca, .slice b ys.length cb] 24)) = X at *
                  rintro e w1 ⟨rfl, hb1⟩
                  obtain ⟨p0, p1, p2, _⟩ := res_box3 HN.out hb1
                  have HC := hid (HT2.out w1 hb1)
                  have HB1 := hid hb1
                  clear hb1
                  go_wp2_with fail
                  refine Calls.mono HC.out ?_
                  rintro e w2 ⟨rfl, hb2⟩
                  have HB2 := hid (bt HB1.out hb2)
                  clear hb2 p0 p1 p2
                  obtain ⟨p0, p1, p2, _⟩ := res_box3 HN.out HB2.out
                  have HG := hid (refGcd_sl _ _ xs ys w2 (HS.out.1.later HB2.out) (HS.out.2.later HB2.out) lx ly)
                  rw [HBO.out] at HG
                  go_wp2_with fail
                  refine Calls.mono HG.out ?_
                  rintro e w3 ⟨v3, z3, c3, rfl, o3, t3, hb3⟩
                  obtain ⟨rfl, hv3⟩ := t3.good rfl HGW.out
                  obtain ⟨a3, k3, hs3⟩ := own_slice' o3
                  subst hs3
                  have HZ3 := hid (And.intro (Sl.own o3 t3.wd) (And.intro t3.trim hv3))
                  have l3 : z3.length ≤ 8192 := t3.len'
                  have HB3 := hid (bt HB2.out hb3)
                  have HO := hid (one3_any w3)
                  clear o3 t3 hv3 hb3 HG HC p0 p1 p2
                  go_wp2_with fail
                  refine Calls.mono HO.out ?_
                  rintro e w4 ⟨g4, rfl, o4, hb4⟩
                  have HQ := hid (same3_sl _ _ z3 [1] w4 (HZ3.out.1.later hb4) (Sl.own o4 (Wd.one (by omega))) (by omega) (by simp))
                  have HEQ : Hid (decide (z3 = [1]) = decide (gcdI (val xs) (val ys) = 1)) := by
                    show _ = _
                    congr 1
                    rw [← HZ3.out.2.2]
                    exact propext (one_iff HZ3.out.1.wd HZ3.out.2.1)
                  rw [HEQ.out, HGG.out] at HQ
                  have HB4 := hid (bt HB3.out hb4)
                  clear o4 hb4 HO HEQ
                  go_wp2_with fail
                  refine Calls.mono HQ.out ?_
                  rintro e w5 ⟨rfl, hb5⟩
                  have HBN := hid (bt HB.out (bt HB4.out hb5))
                  clear hb5
                  go_wp2_with fail
                  go_ret
                  exact ⟨rfl, HBN.out⟩
                · rw [rchk_rough HL.out.1 HL.out.2 (fun h => hg h.2.2.2)]
                  have HGG : Hid (decide (gcdI (val xs) (val ys) = 1) = false) := decide_eq_false hg
                  clear h3 h4 h5 h6 hg
                  go_enter Tryz.func31, Tryz.ntmps31
                  go_wp2_with fail
                  refine Calls.mono (HT1.out _ HR.out) ?_
                  generalize (w.alloc (.cells #[.bool false, .slice a xs.length ca, .slice b ys.length cb] 24)) = X at *
                  rintro e w1 ⟨rfl, hb1⟩
                  obtain ⟨p0, p1, p2, _⟩ := res_box3 HN.out hb1
                  have HC := hid (HT2.out w1 hb1)
                  have HB1 := hid hb1
                  clear hb1
                  go_wp2_with fail
                  refine Calls.mono HC.out ?_
                  rintro e w2 ⟨rfl, hb2⟩
                  have HB2 := hid (bt HB1.out hb2)
                  clear hb2 p0 p1 p2
                  obtain ⟨p0, p1, p2, _⟩ := res_box3 HN.out HB2.out
                  have HG := hid (refGcd_sl _ _ xs ys w2 (HS.out.1.later HB2.out) (HS.out.2.later HB2.out) lx ly)
                  rw [HBO.out] at HG
                  go_wp2_with fail
                  refine Calls.mono HG.out ?_
                  rintro e w3 ⟨v3, z3, c3, rfl, o3, t3, hb3⟩
                  obtain ⟨rfl, hv3⟩ := t3.good rfl HGW.out
                  obtain ⟨a3, k3, hs3⟩ := own_slice' o3
                  subst hs3
                  have HZ3 := hid (And.intro (Sl.own o3 t3.wd) (And.intro t3.trim hv3))
                  have l3 : z3.length ≤ 8192 := t3.len'
                  have HB3 := hid (bt HB2.out hb3)
                  have HO := hid (one3_any w3)
                  clear o3 t3 hv3 hb3 HG HC p0 p1 p2
                  go_wp2_with fail
                  refine Calls.mono HO.out ?_
                  rintro e w4 ⟨g4, rfl, o4, hb4⟩
                  have HQ := hid (same3_sl _ _ z3 [1] w4 (HZ3.out.1.later hb4) (Sl.own o4 (Wd.one (by omega))) (by omega) (by simp))
                  have HEQ : Hid (decide (z3 = [1]) = decide (gcdI (val xs) (val ys) = 1)) := by
                    show _ = _
                    congr 1
                    rw [← HZ3.out.2.2]
                    exact propext (one_iff HZ3.out.1.wd HZ3.out.2.1)
                  rw [HEQ.out, HGG.out] at HQ
                  have HB4 := hid (bt HB3.out hb4)
                  clear o4 hb4 HO HEQ
                  go_wp2_with fail
                  refine Calls.mono HQ.out ?_
                  rintro e w5 ⟨rfl, hb5⟩
                  have HBN := hid (bt HB.out (bt HB4.out hb5))
                  clear hb5
                  go_wp2_with fail
                  go_ret
                  exact ⟨rfl, HBN.out⟩
            · have h6' : ((xs.length : Int) == 0) = false := beq_eq_false_iff_ne.2 (by omega)
              by_cases hg : gcdI (val xs) (val ys) = 1
              · rw [show rchk n xs ys = 0 from rchk_good HL.out.1 HL.out.2 h3 h4 (by omega) (.inr (by omega)) hg]
                have HGG : Hid (decide (gcdI (val xs) (val ys) = 1) = true) := decide_eq_true hg
                clear h3 h4 h5 h6 hg
                go_enter Tryz.func31, Tryz.ntmps31
                go_wp2_with fail
                refine Calls.mono (HT1.out _ HR.out) ?_
                generalize (w.alloc (.cells #[.bool n, .slice a xs.length ca, .slice b ys.length cb] 24)) = X at *
                rintro e w1 ⟨rfl, hb1⟩
                obtain ⟨p0, p1, p2, _⟩ := res_box3 HN.out hb1
                have HC := hid (HT2.out w1 hb1)
                have HB1 := hid hb1
                clear hb1
                go_wp2_with fail
                refine Calls.mono HC.out ?_
                rintro e w2 ⟨rfl, hb2⟩
                have HB2 := hid (bt HB1.out hb2)
                clear hb2 p0 p1 p2
                obtain ⟨p0, p1, p2, _⟩ := res_box3 HN.out HB2.out
                have HG := hid (refGcd_sl _ _ xs ys w2 (HS.out.1.later HB2.out) (HS.out.2.later HB2.out) lx ly)
                rw [HBO.out] at HG
                go_wp2_with fail
                refine Calls.mono HG.out ?_
                rintro e w3 ⟨v3, z3, c3, rfl, o3, t3, hb3⟩
                obtain ⟨rfl, hv3⟩ := t3.good rfl HGW.out
                obtain ⟨a3, k3, hs3⟩ := own_slice' o3
                subst hs3
                have HZ3 := hid (And.intro (Sl.own o3 t3.wd) (And.intro t3.trim hv3))
                have l3 : z3.length ≤ 8192 := t3.len'
                have HB3 := hid (bt HB2.out hb3)
                have HO := hid (one3_any w3)
                clear o3 t3 hv3 hb3 HG HC p0 p1 p2
                go_wp2_with fail
                refine Calls.mono HO.out ?_
                rintro e w4 ⟨g4, rfl, o4, hb4⟩
                have HQ := hid (same3_sl _ _ z3 [1] w4 (HZ3.out.1.later hb4) (Sl.own o4 (Wd.one (by omega))) (by omega) (by simp))
                have HEQ : Hid (decide (z3 = [1]) = decide (gcdI (val xs) (val ys) = 1)) := by
                  show _ = _
                  congr 1
                  rw [← HZ3.out.2.2]
                  exact propext (one_iff HZ3.out.1.wd HZ3.out.2.1)
                rw [HEQ.out, HGG.out] at HQ
                have HB4 := hid (bt HB3.out hb4)
                clear o4 hb4 HO HEQ
                go_wp2_with fail
                refine Calls.mono HQ.out ?_
                rintro e w5 ⟨rfl, hb5⟩
                have HBN := hid (bt HB.out (bt HB4.out hb5))
                clear hb5
                go_wp2_with fail
                go_ret
                exact ⟨rfl, HBN.out⟩
              · rw [rchk_rough HL.out.1 HL.out.2 (fun h => hg h.2.2.2)]
                have HGG : Hid (decide (gcdI (val xs) (val ys) = 1) = false) := decide_eq_false hg
                clear h3 h4 h5 h6 hg
                go_enter Tryz.func31, Tryz.ntmps31
                go_wp2_with fail
                refine Calls.mono (HT1.out _ HR.out) ?_
                generalize (w.alloc (.cells #[.bool n, .slice a xs.length ca, .slice b ys.length cb] 24)) = X at *
                rintro e w1 ⟨rfl, hb1⟩
                obtain ⟨p0, p1, p2, _⟩ := res_box3 HN.out hb1
                have HC := hid (HT2.out w1 hb1)
                have HB1 := hid hb1
                clear hb1
                go_wp2_with fail
                refine Calls.mono HC.out ?_
                rintro e w2 ⟨rfl, hb2⟩
                have HB2 := hid (bt HB1.out hb2)
                clear hb2 p0 p1 p2
                obtain ⟨p0, p1, p2, _⟩ := res_box3 HN.out HB2.out
                have HG := hid (refGcd_sl _ _ xs ys w2 (HS.out.1.later HB2.out) (HS.out.2.later HB2.out) lx ly)
                rw [HBO.out] at HG
                go_wp2_with fail
                refine Calls.mono HG.out ?_
                rintro e w3 ⟨v3, z3, c3, rfl, o3, t3, hb3⟩
                obtain ⟨rfl, hv3⟩ := t3.good rfl HGW.out
                obtain ⟨a3, k3, hs3⟩ := own_slice' o3
                subst hs3
                have HZ3 := hid (And.intro (Sl.own o3 t3.wd) (And.intro t3.trim hv3))
                have l3 : z3.length ≤ 8192 := t3.len'
                have HB3 := hid (bt HB2.out hb3)
                have HO := hid (one3_any w3)
                clear o3 t3 hv3 hb3 HG HC p0 p1 p2
                go_wp2_with fail
                refine Calls.mono HO.out ?_
                rintro e w4 ⟨g4, rfl, o4, hb4⟩
                have HQ := hid (same3_sl _ _ z3 [1] w4 (HZ3.out.1.later hb4) (Sl.own o4 (Wd.one (by omega))) (by omega) (by simp))
                have HEQ : Hid (decide (z3 = [1]) = decide (gcdI (val xs) (val ys) = 1)) := by
                  show _ = _
                  congr 1
                  rw [← HZ3.out.2.2]
                  exact propext (one_iff HZ3.out.1.wd HZ3.out.2.1)
                rw [HEQ.out, HGG.out] at HQ
                have HB4 := hid (bt HB3.out hb4)
                clear o4 hb4 HO HEQ
                go_wp2_with fail
                refine Calls.mono HQ.out ?_
                rintro e w5 ⟨rfl, hb5⟩
                have HBN := hid (bt HB.out (bt HB4.out hb5))
                clear hb5
                go_wp2_with fail
                go_ret
                exact ⟨rfl, HBN.out⟩
        · rw [decide_eq_false h4] at HT2
          rw [rchk_rough HL.out.1 HL.out.2 (fun h => h4 (rform_trim h).2)]
          clear h3 h4
          go_enter Tryz.func31, Tryz.ntmps31
          go_wp2_with fail
          refine Calls.mono (HT1.out _ HR.out) ?_
          generalize (w.alloc (.cells #[.bool n, .slice a xs.length ca, .slice b ys.length cb] 24)) = X at *
          rintro e w1 ⟨rfl, hb1⟩
          obtain ⟨p0, p1, p2, _⟩ := res_box3 HN.out hb1
          have HC := hid (HT2.out w1 hb1)
          have HB1 := hid (bt HB.out hb1)
          clear hb1
          go_wp2_with fail
          refine Calls.mono HC.out ?_
          rintro e w2 ⟨rfl, hb2⟩
          have HBN := hid (bt HB1.out hb2)
          clear hb2
          go_wp2_with fail
          go_ret
          exact ⟨rfl, HBN.out⟩
      · rw [decide_eq_false h3] at HT1
        rw [rchk_rough HL.out.1 HL.out.2 (fun h => h3 (rform_trim h).1)]
        clear h3
        go_enter Tryz.func31, Tryz.ntmps31
        go_wp2_with fail
        refine Calls.mono (HT1.out _ HR.out) ?_
        rintro e w1 ⟨rfl, hb1⟩
        have HBN := hid (bt HB.out hb1)
        clear hb1
        go_wp2_with fail
        go_ret
        exact ⟨rfl, HBN.out⟩
end Go.Proofs.YtbnhpkelnoolhaaGreatDoor

/- strconv.FormatUint to the base 10 tells a number's digits: of every number of 64 bits, where the library's table of powers of ten stands as its text lays it. -/
namespace Go.Proofs.YtbnhpkelnoolhaaGreatDoor
open Go.RowKit Go.Lib Go.Sort
set_option linter.unusedVariables false

/-- The table of powers of ten stands as the library's text lays it. -/
def Tab (w : World) : Prop := Lib.TabIs Tryz.prog w "internal/strconv.uint64pow10" .u64 Lib.pow10Tab
theorem Tab.later {w w' : World} (h : Tab w) (hb : Below w.heap.size w w') : Tab w' := by
  unfold Tab Lib.TabIs World.var? at *
  cases hg : Tryz.prog.globalNamed "internal/strconv.uint64pow10" with
  | none => simp [hg] at h
  | some g =>
    simp only [hg, Option.bind_some] at h ⊢
    have hlt : g < w.heap.size := by
      rcases Nat.lt_or_ge g w.heap.size with h' | h'
      · exact h'
      · rw [Array.getElem?_eq_none h'] at h; simp at h
    rw [hb.block g hlt]
    exact h

theorem holds_zero0 (w : World) (T : TypeId) (nd : Nat) (hs : nd ≤ 24) : Holds (fun (b : UInt8) => Value.int .u8 (b.toNat : Int)) (w.alloc (.cells zeros24 T)) w.heap.size 0 (Array.replicate nd (0 : UInt8)) := fun j hj => by
  have hj' : j < nd := by simpa using hj
  refine ⟨?_, World.frozen?_alloc_new _ _ _ _⟩
  rw [World.cell?_alloc_new, zeros24_at _ (by omega), getElem!_pos _ j hj]
  simp
theorem fin_pos0 (w : World) (o : Obj) (dk : Array UInt8) (k : Nat) : Below w.heap.size w ((putRow (fun (b : UInt8) => Value.int .u8 (b.toNat : Int)) (w.alloc o) w.heap.size 0 dk).drewN k) := by
  rw [alloc_eq_grow]
  obtain ⟨os', _, e⟩ := putRow_grow_new (fun (b : UInt8) => Value.int .u8 (b.toNat : Int)) w #[o] w.heap.size 0 dk (Nat.le_refl _)
  rw [e]
  refine ⟨rfl, rfl, rfl, ?_, fun j hj => ?_⟩
  · show w.heap.size ≤ (w.heap ++ os').size
    simp
  · show (w.heap ++ os')[j]? = _
    rw [Array.getElem?_append_left hj]

set_option maxHeartbeats 3200000 in
set_option maxRecDepth 100000 in
theorem formatUint_any (u : Nat) (hu64 : u < 18446744073709551616) (w : World) (htab : Tab w) :
    Calls Tryz.prog 86 #[.int .u64 u, .int .i64 10] w fun e w' => e = .returned (.string ⟨(Lib.decDigits u).toArray⟩) ∧ Below w.heap.size w w' := by
  by_cases hs : u < 100
  · have hlt : (u : Int) < 100 := by omega
    go_enter Tryz.func86, Tryz.ntmps86
    go_wp2_with fail
    refine (Tryz.internal_strconv_small u hs _).mono ?_
    rintro e w' ⟨rfl, rfl⟩
    go_wp2
    go_ret
    exact ⟨rfl, Below.refl _ _⟩
  · have hu1 : 1 ≤ u := by omega
    have hge : ¬ (u : Int) < 100 := by omega
    have hnd20 : Lib.nDigits u ≤ 20 := nDigits_le20 u hu64
    have hnd24 : Lib.nDigits u ≤ 24 := by omega
    have hal : Tryz.prog.arrayLen 125 = 24 := by kernel_rfl
    have hsl : ∀ W, (Instr.sliceAt 125 (.pointer (some ⟨w.heap.size, 0, none⟩)) none (some (.int .i64 (Lib.nDigits u : Int))) none).run Tryz.prog W = .ok (.slice (some ⟨w.heap.size, 0, none⟩) (Lib.nDigits u) 24) W := fun W => by
      rw [run_sliceAt_array_h W 125 ⟨w.heap.size, 0, none⟩ (by kernel_rfl) .i64 (Lib.nDigits u : Int) (by omega) (by rw [hal]; omega)]
      go_simp
    have hH0 := holds_zero0 w 125 (Lib.nDigits u) (by omega)
    have hfmt := Tryz.internal_strconv_formatBase10 w.heap.size 0 24 u (Array.replicate (Lib.nDigits u) 0) (w.alloc (.cells Lib.zeros24 125)) hH0 (by rw [Array.size_replicate]; exact Lib.lt_pow_nDigits u) hu64 (by rw [Array.size_replicate]; omega)
    rw [Array.size_replicate] at hfmt
    have HH0 := hid hH0
    have HFM := hid hfmt
    have HT := hid (Lib.tabIs_alloc htab (.cells Lib.zeros24 125))
    clear hH0 hal hfmt htab
    go_enter Tryz.func86, Tryz.ntmps86
    go_wp2_with fail
    refine (Tryz.internal_strconv_numDigits u hu1 hu64 _ HT.out).mono ?_
    rintro e w' ⟨rfl, rfl⟩
    go_wp2_with fail
    refine Calls.mono HFM.out ?_
    rintro e w' ⟨rfl, k, v', dk, rfl, hF⟩
    have HF := hid hF
    have hcv : (convert 79 9 (.slice (some ⟨w.heap.size, 0, none⟩) (Lib.nDigits u) 24)).run Tryz.prog ((putRow (fun (b : UInt8) => Value.int .u8 (b.toNat : Int)) (w.alloc (.cells Lib.zeros24 125)) w.heap.size 0 dk).drewN k) = .ok (.string ⟨(Lib.decDigits u).toArray⟩) ((putRow (fun (b : UInt8) => Value.int .u8 (b.toNat : Int)) (w.alloc (.cells Lib.zeros24 125)) w.heap.size 0 dk).drewN k) := by
      have h := run_convert_bytes_back (P := Tryz.prog) ((putRow (fun (b : UInt8) => Value.int .u8 (b.toNat : Int)) (w.alloc (.cells Lib.zeros24 125)) w.heap.size 0 dk).drewN k) 79 9 5 ⟨w.heap.size, 0, none⟩ 24 (Lib.decDigits u) Tryz.underlying79 Tryz.underlying5 Tryz.underlying9 (fun j hj => by
        rw [Lib.add_plain, Lib.row_is_numeral hF j hj, World.cell?_drewN]
        exact cell?_putRow (fun (b : UInt8) => Value.int .u8 (b.toNat : Int)) _ w.heap.size 0 _ dk HH0.out (by rw [hF.size, Array.size_replicate]) j (by rw [hF.size]; rw [Lib.decDigits_length] at hj; exact hj))
      rw [Lib.decDigits_length] at h
      exact h
    clear hF
    go_wp2
    go_ret
    exact ⟨rfl, fin_pos0 w _ dk k⟩

set_option maxHeartbeats 800000 in
set_option maxRecDepth 100000 in
theorem format_any (u : Nat) (hu64 : u < 18446744073709551616) (w : World) (htab : Tab w) :
    Calls Tryz.prog 59 #[.int .u64 u, .int .i64 10] w fun e w' => e = .returned (.string ⟨(Lib.decDigits u).toArray⟩) ∧ Below w.heap.size w w' := by
  go_enter Tryz.func59, Tryz.ntmps59
  go_wp2_with fail
  refine (formatUint_any u hu64 w htab).mono ?_
  rintro e w' ⟨rfl, hb⟩
  go_wp2
  go_ret
  exact ⟨rfl, hb⟩
end Go.Proofs.YtbnhpkelnoolhaaGreatDoor

/- nat.split tells a number's pieces of nine digits, the lowest first, in new memory. -/
namespace Go.Proofs.YtbnhpkelnoolhaaGreatDoor
open Go.RowKit
set_option linter.unusedVariables false

/-- The value of pieces of nine digits. -/
def pval : List Int → Int
  | [] => 0
  | p :: ps => p + pval ps * 1000000000
theorem pval_snoc : ∀ (ps : List Int) (p : Int), pval (ps ++ [p]) = pval ps + p * 1000000000 ^ ps.length
  | [], p => by simp [pval]
  | q :: ps, p => by
    show q + pval (ps ++ [p]) * 1000000000 = q + pval ps * 1000000000 + p * 1000000000 ^ (ps.length + 1)
    rw [pval_snoc ps p, Int.add_mul, Int.pow_succ, ← Int.mul_assoc, Int.add_assoc]
/-- Each number is a piece of nine digits. -/
def Pc (ps : List Int) : Prop := ∀ p ∈ ps, 0 ≤ p ∧ p < 1000000000
theorem Pc.snoc {ps : List Int} (h : Pc ps) {p : Int} (h0 : 0 ≤ p ∧ p < 1000000000) : Pc (ps ++ [p]) := fun q hq => by
  rcases List.mem_append.1 hq with hq | hq
  · exact h q hq
  · simp at hq; rw [hq]; exact h0
theorem Pc.at {ps : List Int} (h : Pc ps) (j : Nat) : 0 ≤ ps[j]?.getD 0 ∧ ps[j]?.getD 0 < 1000000000 := by
  by_cases hj : j < ps.length
  · rw [List.getElem?_eq_getElem hj]; exact h _ (List.getElem_mem hj)
  · rw [List.getElem?_eq_none (by omega)]; exact ⟨by decide, by decide⟩
theorem pval_nonneg {ps : List Int} (h : Pc ps) : 0 ≤ pval ps := by
  induction ps with
  | nil => exact Int.le_refl _
  | cons p ps ih =>
    have h1 := h p List.mem_cons_self
    have h2 := ih (fun q hq => h q (List.mem_cons_of_mem _ hq))
    show 0 ≤ p + pval ps * 1000000000
    omega

/-- So many pieces a number of at most 8,192 words has. -/
theorem pieces_few (xs ps : List Int) (v : Int) (K : Nat) (hx : Wd xs) (hl : xs.length ≤ K) (hp : Pc ps) (hv : 1 ≤ v) (h : val xs = pval ps + v * 1000000000 ^ ps.length) : 29 * ps.length < 32 * K := by
  have h1 := val_lt hx
  have h2 : (4294967296 : Int) ^ xs.length ≤ 4294967296 ^ K := pw_le hl
  have h3 := pval_nonneg hp
  have h4 : (0 : Int) < 1000000000 ^ ps.length := Int.pow_pos (by decide)
  have h5 : 1 * (1000000000 : Int) ^ ps.length ≤ v * 1000000000 ^ ps.length := Int.mul_le_mul_of_nonneg_right hv (Int.le_of_lt h4)
  have h6 : (1000000000 : Int) ^ ps.length < 4294967296 ^ K := by omega
  have h7 : (1000000000 : Nat) ^ ps.length < 4294967296 ^ K := by
    refine Int.ofNat_lt.1 ?_
    rw [Int.natCast_pow, Int.natCast_pow]
    exact h6
  have h8 : (2 ^ 29 : Nat) ^ ps.length ≤ 1000000000 ^ ps.length := Nat.pow_le_pow_left (by decide) _
  have h9 : (4294967296 : Nat) ^ K = 2 ^ (32 * K) := by rw [show (4294967296 : Nat) = 2 ^ 32 by decide, ← Nat.pow_mul]
  rw [h9] at h7
  rw [← Nat.pow_mul] at h8
  have h10 : 2 ^ (29 * ps.length) < 2 ^ (32 * K) := Nat.lt_of_le_of_lt h8 h7
  exact (Nat.pow_lt_pow_iff_right (a := 2) (by decide)).1 h10

theorem trimmed_zero {us : List Int} (hw : Wd us) (ht : Trimmed us) : us.length = 0 ↔ val us = 0 := by
  constructor
  · intro h
    rw [List.eq_nil_of_length_eq_zero h]; rfl
  · intro h
    have := trimmed_eq hw Wd.nil ht Trimmed.nil (by rw [h, val_nil])
    rw [this]; rfl

set_option maxHeartbeats 3200000 in
set_option maxRecDepth 100000 in
theorem split_any (v : Value) (xs : List Int) (w : World) (h : Sl w v xs) (hn : xs.length ≤ 8192) (hx : Trimmed xs) (hpos : 0 < xs.length) :
    Calls Tryz.prog 58 #[v] w fun e w' => ∃ (vp : Value) (ps : List Int), e = .returned vp ∧ w'.ownsRow w.heap.size 40 1 vp ps.length (ps.map (Value.int .u32)) ∧ Pc ps ∧ pval ps = val xs ∧ 0 < ps.length ∧ ps.length ≤ 9040 ∧ 0 < ps[ps.length - 1]?.getD 0 ∧ Below w.heap.size w w' := by
  obtain ⟨i0, hi, hz0, hz1, hz2⟩ := info_parts Tryz.infoW
  have wx := h.wd
  have HX := hid hx
  clear hx
  go_enter Tryz.func58, Tryz.ntmps58
  go_wp2_with fail
  refine (trim_sl v xs w h (by omega)).mono ?_
  rintro e w1 ⟨vt, rfl, ot, hb1⟩
  rw [show sz xs = xs.length from HX.out, trimmed_of HX.out] at ot
  obtain ⟨gl, cl, hvl, hcl1, hcl2⟩ := own_shape' ot hpos
  rw [hvl] at ot ⊢
  have hgl := ot.lt gl rfl
  have hcl3 : cl ≤ 9223372036854775807 := by unfold maxLen at hcl2; omega
  clear hcl2 hvl h
  go_wp2_with fail
  go_loopg [3, 4] (val xs).toNat (fun k l p wr => ∃ (n : Nat) (us ps : List Int), l = .slice (some ⟨gl, 0, none⟩) n cl ∧ n ≤ xs.length ∧ OwnC wr w.heap.size gl n cl us ∧ Wd us ∧ Trimmed us ∧ Hid ((k : Int) = val us) ∧
    wr.ownsRow (gl + 1) 40 1 p ps.length (ps.map (Value.int .u32)) ∧ Pc ps ∧ Hid (val xs = pval ps + val us * 1000000000 ^ ps.length) ∧ ps.length ≤ 9040 ∧ Hid (n = 0 → 0 < ps.length ∧ 0 < ps[ps.length - 1]?.getD 0) ∧ Below w.heap.size w wr)
  case atStart => exact ⟨xs.length, xs, [], rfl, Nat.le_refl _, ot, wx, HX.out, show _ = _ by have := val_nonneg wx; omega, World.ownsRow_nil _ _ _ _, fun _ h => by simp at h, show _ = _ by simp [pval], by simp, fun e => by omega, hb1⟩
  case round =>
    obtain ⟨n, us, ps, rfl, hnx, ho, hwu, htu, HKK, hop, hpc, HV, hpl, HL, hb⟩ := hrel
    have hlu := ho.len
    rcases n with _ | n
    · have hu0 : us = [] := List.eq_nil_of_length_eq_zero hlu
      have HV' : Hid (pval ps = val xs) := by show _ = _; rw [HV.out, hu0, val_nil]; simp
      have HL' := hid (HL.out rfl)
      have HO' := hid (owns_base (base' := w.heap.size) hop (by omega))
      clear HV HL hop ho hu0 hlu HKK
      go_wp2_with fail
      go_ret
      exact ⟨_, ps, rfl, HO'.out, hpc, HV'.out, HL'.out.1, hpl, HL'.out.2, hb⟩
    · have hv1 : 1 ≤ val us := by
        have h0 := val_nonneg hwu
        have h1 := (trimmed_zero hwu htu)
        have : ¬ val us = 0 := fun e => by have := h1.2 e; omega
        omega
      have hfew : ps.length ≤ 9039 := by have := pieces_few xs ps (val us) 8192 wx hn hpc hv1 HV.out; omega
      have HW1 := hid hv1
      have HLU := hid hlu
      clear hv1 hlu
      go_wp2_with fail
      refine (divideByWord_any _ _ _ _ us 1000000000 wr ho hwu (by omega) ⟨by omega, by omega⟩).mono ?_
      rintro e w2 ⟨r, qs, rfl, r0, r1, oq, hwq, hvq, hg2⟩
      have hop2 := hop.kept hg2 (by
        cases e : u4.ownBlock with
        | none => exact .inl rfl
        | some g => right; intro e2; have := hop.lt g e; simp at e2; omega)
      have hgs := hg2.size
      have hgl2 : gl < w2.heap.size := (World.ownsRow.lt oq gl rfl).2
      have hbs := hb.size
      have hb2 : Below w.heap.size w w2 := hb.grown hg2 (by omega) (fun k hk => by simp at hk; omega)
      obtain ⟨R, hR⟩ : ∃ R, R = ps.map (Value.int .u32) := ⟨_, rfl⟩
      have HM : Hid ((ps ++ [r]).map (Value.int .u32) = R ++ [.int .u32 r]) := by show _ = _; rw [hR]; simp
      rw [← hR] at hop2
      have HOQ := hid oq
      have HVQ := hid hvq
      clear hR hop ho hg2 hb oq hvq
      go_wp2_with (at_builtin; refine wpList_append_own _ rfl _ _ 22 rfl (gl + 1) 40 i0 (.int .u32 0) 1 4 Tryz.underlying22 hi hz0 hz1 hz2 rfl (by decide) _ _ _ rfl (hop2.alloc _) ⟨w2.heap.size, 0, none⟩ 1 1 [.int .u32 r] rfl rfl (cell_one_new _ _ _) (by simp [Value.oneCell']) (by unfold maxLen; omega) (by omega) (by simp; omega) ?_)
      intro v3 w3 op3 hg3 _
      have hb3 : Below w.heap.size w w3 := (hb2.alloc (by omega) _).grown hg3 (by simp; omega) (fun g hg => by have := hop2.lt g hg; omega)
      have oq3 : OwnC w3 w.heap.size gl (n + 1) cl qs := by
        have := World.ownsRow.kept (World.ownsRow.alloc HOQ.out (.cells #[.int .u32 r] 40)) hg3 (by
          right
          intro e
          have := hop2.lt gl e.symm
          omega)
        exact this
      have sx := sz_le qs
      rw [oq3.len] at sx
      have hr3 : Reads w3 w3.heap.size (some ⟨gl, 0, none⟩) (n + 1) cl qs := by
        obtain ⟨a, cap, hv, hr⟩ := Reads.own oq3 hwq
        simp only [Value.slice.injEq] at hv
        obtain ⟨rfl, _, rfl⟩ := hv
        exact hr
      have HQ3 := hid (oq3.take (sz qs) sx)
      have HP3 := hid op3
      have HR3 := hid hr3
      have hc3 := oq3.cap
      have hc4 : cl ≤ 9223372036854775807 := hcl3
      clear hg3 op3 oq3 hr3 hop2 hc3
      go_wp2_with fail
      refine (size_any _ _ _ qs _ _ HR3.out (by omega)).mono ?_
      rintro e w4 ⟨rfl, rfl⟩
      have e1 : val us = val qs * 1000000000 + r := HVQ.out
      have HKK' : Hid (((val qs).toNat : Int) = val (trimmed qs)) := by show _ = _; rw [val_trimmed]; have := val_nonneg hwq; omega
      have HV' : Hid (val xs = pval (ps ++ [r]) + val (trimmed qs) * 1000000000 ^ (ps ++ [r]).length) := by
        show _ = _
        rw [val_trimmed, pval_snoc, HV.out, e1, List.length_append, List.length_singleton, Int.pow_succ, Int.add_mul, Int.mul_assoc, Int.mul_comm 1000000000 (1000000000 ^ ps.length), ← Int.mul_assoc]
        omega
      have HL' : Hid (sz qs = 0 → 0 < (ps ++ [r]).length ∧ 0 < (ps ++ [r])[(ps ++ [r]).length - 1]?.getD 0) := fun e0 => by
        refine ⟨by simp, ?_⟩
        have e2 : val qs = 0 := by rw [val_sz, e0]; rfl
        have := HW1.out
        simp
        omega
      have hless : (val qs).toNat < gk := by have := HKK.out; have := HW1.out; have := val_nonneg hwq; omega
      have HLS := hid hless
      have HPL : Hid ((ps ++ [r]).length ≤ 9040) := by show _ ≤ _; simp; omega
      have HPP : Hid (w3.ownsRow (gl + 1) 40 1 v3 (ps ++ [r]).length ((ps ++ [r]).map (Value.int .u32))) := by
        show World.ownsRow _ _ _ _ _ _ _
        rw [HM.out, List.length_append, List.length_singleton]
        exact HP3.out
      clear e1 hless HP3
      go_wp2_with fail
      go_roundg (val qs).toNat
      case measure => exact HLS.out
      case rel => exact ⟨sz qs, trimmed qs, ps ++ [r], rfl, by omega, HQ3.out, hwq.trimmed, Trimmed.trimmed _, HKK', HPP.out, hpc.snoc ⟨r0, r1⟩, HV', HPL.out, HL', hb3⟩
end Go.Proofs.YtbnhpkelnoolhaaGreatDoor

