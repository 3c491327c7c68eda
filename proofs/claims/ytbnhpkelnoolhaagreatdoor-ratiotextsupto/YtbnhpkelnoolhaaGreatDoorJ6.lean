/- My texts on the way to RatioTexts, one behind the other: contracts of the program and of the document's answers. -/
import Derived.Test.YtbnhpkelnoolhaaGreatDoorJ5
/- The law RatioTexts answers true, and writes nothing that was there: whatever fraction of lists that are not too long and whatever text come in. -/
namespace Go.Proofs.YtbnhpkelnoolhaaGreatDoor
open Go.RowKit Go.Lib
set_option linter.unusedVariables false

theorem lent_front {W : World} {base g cap : Nat} {xs : List Int} (ho : W.ownsRow base 40 1 (.slice (some ⟨g, 0, none⟩) (xs.length + 3) cap) (xs.length + 3) ((xs ++ marks 3).map (Value.int .u32))) : W.ownsRow base 40 1 (.slice (some ⟨g, 0, none⟩) xs.length cap) xs.length (xs.map (Value.int .u32)) := by
  rw [List.map_append] at ho
  exact owns_front (k := 3) ho (by simp)
/-- 6 lists of the call's own, made one behind the other, in a list of lists. -/
theorem six_apart {w : World} {b b1 b2 b3 b4 b5 b6 n1 n2 n3 n4 n5 n6 : Nat} {v1 v2 v3 v4 v5 v6 : Value} {x1 x2 x3 x4 x5 x6 : List Int} (c1 c2 c3 c4 c5 c6 c7 : Nat) (hm : c1 ≤ c2 ∧ c2 ≤ c3 ∧ c3 ≤ c4 ∧ c4 ≤ c5 ∧ c5 ≤ c6 ∧ c6 ≤ c7)
    (o1 : w.ownsRow b1 40 1 v1 n1 (x1.map (Value.int .u32))) (d1 : Wd x1) (l1 : x1.length ≤ 2000000) (e1 : b ≤ b1)
    (o2 : w.ownsRow b2 40 1 v2 n2 (x2.map (Value.int .u32))) (d2 : Wd x2) (l2 : x2.length ≤ 2000000) (e2 : b ≤ b2)
    (o3 : w.ownsRow b3 40 1 v3 n3 (x3.map (Value.int .u32))) (d3 : Wd x3) (l3 : x3.length ≤ 2000000) (e3 : b ≤ b3)
    (o4 : w.ownsRow b4 40 1 v4 n4 (x4.map (Value.int .u32))) (d4 : Wd x4) (l4 : x4.length ≤ 2000000) (e4 : b ≤ b4)
    (o5 : w.ownsRow b5 40 1 v5 n5 (x5.map (Value.int .u32))) (d5 : Wd x5) (l5 : x5.length ≤ 2000000) (e5 : b ≤ b5)
    (o6 : w.ownsRow b6 40 1 v6 n6 (x6.map (Value.int .u32))) (d6 : Wd x6) (l6 : x6.length ≤ 2000000) (e6 : b ≤ b6)
    (i1 : Within v1 c3 c4) (i2 : Within v2 c4 c5) (i3 : Within v3 c5 c6) (i4 : Within v4 c6 c7) (i5 : Within v5 c1 c2) (i6 : Within v6 c2 c3) :
    (∀ j, j < 6 → Wd (([x1, x2, x3, x4, x5, x6] : List (List Int))[j]?.getD [])) ∧ (∀ j, j < 6 → (([x1, x2, x3, x4, x5, x6] : List (List Int))[j]?.getD []).length ≤ 1099511627776) ∧ (∀ j, j < 6 → w.ownsRow b 40 1 (([v1, v2, v3, v4, v5, v6] : List Value)[j]?.getD undef) (([x1, x2, x3, x4, x5, x6] : List (List Int))[j]?.getD []).length ((([x1, x2, x3, x4, x5, x6] : List (List Int))[j]?.getD []).map (Value.int .u32))) ∧ ∀ i j, i < 6 → j < 6 → i ≠ j → (([v1, v2, v3, v4, v5, v6] : List Value)[i]?.getD undef).ownBlock = none ∨ (([v1, v2, v3, v4, v5, v6] : List Value)[i]?.getD undef).ownBlock ≠ (([v1, v2, v3, v4, v5, v6] : List Value)[j]?.getD undef).ownBlock := by
  have k1 : x1.length = n1 := by have := o1.1; simpa using this
  have k2 : x2.length = n2 := by have := o2.1; simpa using this
  have k3 : x3.length = n3 := by have := o3.1; simpa using this
  have k4 : x4.length = n4 := by have := o4.1; simpa using this
  have k5 : x5.length = n5 := by have := o5.1; simpa using this
  have k6 : x6.length = n6 := by have := o6.1; simpa using this
  subst k1; subst k2; subst k3; subst k4; subst k5; subst k6
  obtain ⟨m1, m2, m3, m4, m5, m6⟩ := hm
  refine ⟨fun j hj => ?_, fun j hj => ?_, fun j hj => ?_, apart_perm (V := fun j => ([v1, v2, v3, v4, v5, v6] : List Value)[j]?.getD undef) (fun j => [c1, c2, c3, c4, c5, c6, c7][j]?.getD 0) (fun j => ([2, 3, 4, 5, 0, 1] : List Nat)[j]?.getD 0) (fun j hj => ?_) (by decide) (by decide) (fun j hj => ?_)⟩
  · match j, hj with
    | 0, _ => exact d1
    | 1, _ => exact d2
    | 2, _ => exact d3
    | 3, _ => exact d4
    | 4, _ => exact d5
    | 5, _ => exact d6
  · match j, hj with
    | 0, _ => show x1.length ≤ _; omega
    | 1, _ => show x2.length ≤ _; omega
    | 2, _ => show x3.length ≤ _; omega
    | 3, _ => show x4.length ≤ _; omega
    | 4, _ => show x5.length ≤ _; omega
    | 5, _ => show x6.length ≤ _; omega
  · match j, hj with
    | 0, _ => exact owns_base o1 e1
    | 1, _ => exact owns_base o2 e2
    | 2, _ => exact owns_base o3 e3
    | 3, _ => exact owns_base o4 e4
    | 4, _ => exact owns_base o5 e5
    | 5, _ => exact owns_base o6 e6
  · match j, hj with
    | 0, _ => exact m1
    | 1, _ => exact m2
    | 2, _ => exact m3
    | 3, _ => exact m4
    | 4, _ => exact m5
    | 5, _ => exact m6
  · match j, hj with
    | 0, _ => exact i1
    | 1, _ => exact i2
    | 2, _ => exact i3
    | 3, _ => exact i4
    | 4, _ => exact i5
    | 5, _ => exact i6

theorem St.own {w W : World} {l : List (Nat × Array Value)} {r : List (Nat × Value × List Int)} (h : St w W l r) {base : Nat} {v : Value} {zs : List Int} (hm : (base, v, zs) ∈ r) : W.ownsRow base 40 1 v zs.length (zs.map (Value.int .u32)) := h.row _ hm
/-- A fraction's text, none of one that may not be. -/
def rsaid (n : Bool) (xs ys : List Int) : List UInt8 := if rchk n xs ys = 0 then rtext n xs ys else []
theorem rPrint_full (n : Bool) (a : Option Addr) (ca : Nat) (xs : List Int) (b : Option Addr) (cb : Nat) (ys : List Int) (w : World) (sx : Sl w (.slice a xs.length ca) xs) (sy : Sl w (.slice b ys.length cb) ys) (htab : Tab w) :
    Calls Tryz.prog 7 #[.agg #[.bool n, .slice a xs.length ca, .slice b ys.length cb]] w fun e w' => ∃ T : ByteArray, e = .returned (.tuple #[.string T, .int .i64 (rchk n xs ys)]) ∧ T.data.toList = rsaid n xs ys ∧ Below w.heap.size w w' := by
  by_cases h : rchk n xs ys = 0
  · unfold rsaid
    rw [if_pos h, h]
    exact rPrint_ok n a ca xs b cb ys w sx sy h htab
  · unfold rsaid
    rw [if_neg h]
    refine Calls.mono (rPrint_err n a ca xs b cb ys w sx sy h) ?_
    rintro e w' ⟨rfl, hb⟩
    exact ⟨_, rfl, rfl, hb⟩
theorem dPrint_full (n : Bool) (a : Option Addr) (ca : Nat) (xs : List Int) (b : Option Addr) (cb : Nat) (ys : List Int) (w : World) (sx : Sl w (.slice a xs.length ca) xs) (sy : Sl w (.slice b ys.length cb) ys) (lx : xs.length ≤ 281474976710656) (ly : ys.length ≤ 281474976710656) :
    Calls Tryz.prog 8 #[.agg #[.bool n, .slice a xs.length ca, .slice b ys.length cb]] w fun e w' => ∃ T : ByteArray, e = .returned (.tuple #[.string T, .int .i64 (rchk n xs ys)]) ∧ T.data.toList = rsaid n xs ys ∧ Below w.heap.size w w' := by
  by_cases h : rchk n xs ys = 0
  · unfold rsaid
    rw [if_pos h, h]
    exact dPrint_ok n a ca xs b cb ys w sx sy h
  · unfold rsaid
    rw [if_neg h]
    refine Calls.mono (dPrint_err n a ca xs b cb ys w sx sy lx ly h) ?_
    rintro e w' ⟨rfl, hb⟩
    exact ⟨_, rfl, rfl, hb⟩

set_option maxHeartbeats 25600000 in
set_option maxRecDepth 100000 in
theorem ratioTexts_walk (n0 : Bool) (a0 : Option Addr) (ca0 : Nat) (xs0 : List Int) (b0 : Option Addr) (cb0 : Nat) (ys0 : List Int) (s : ByteArray) (w : World) (s0 : Sl w (.slice a0 xs0.length ca0) xs0) (t0 : Sl w (.slice b0 ys0.length cb0) ys0) (hm : s.size ≤ 9223372036854775807) (lx0 : xs0.length ≤ 1048576) (ly0 : ys0.length ≤ 1048576) (htab : Tab w) :
    Calls Tryz.prog 3 #[.agg #[.bool n0, .slice a0 xs0.length ca0, .slice b0 ys0.length cb0], .string s] w fun e w' => e = .returned (.bool true) ∧ Below w.heap.size w w' := by
  have wx0 := s0.wd
  have wy0 := t0.wd
  have S0 := hid (And.intro s0 t0)
  clear s0 t0
  have H0 : St w w [] [] := ⟨(fun p hp => by cases hp), (fun p hp => by cases hp), Below.refl _ _⟩
  have H := hid (H0.put n0 (.slice a0 xs0.length ca0) (.slice b0 ys0.length cb0))
  have HTAB := hid htab
  obtain ⟨E1, hE1⟩ : ∃ e, rchk n0 xs0 ys0 = e := ⟨_, rfl⟩
  have HE1 := hid hE1
  clear htab H0 hE1
  have hx0 := (alloc_later w (.cells #[.bool n0, .slice a0 xs0.length ca0, .slice b0 ys0.length cb0] 24)).size
  go_enter Tryz.func3, Tryz.ntmps3
  have HC := hid (lentRatio_any n0 a0 ca0 xs0 b0 cb0 ys0 (w.alloc (.cells #[.bool n0, .slice a0 xs0.length ca0, .slice b0 ys0.length cb0] 24)) (S0.out.1.later H.out.bel) (S0.out.2.later H.out.bel) (by omega) (by omega))
  obtain ⟨p00, p01, p02⟩ := H.out.get (.head _)
  go_wp2_with fail
  refine Calls.mono HC.out ?_
  generalize (w.alloc (.cells #[.bool n0, .slice a0 xs0.length ca0, .slice b0 ys0.length cb0] 24)) = X at *
  rintro e w1 ⟨g1, c1, g2, c2, rfl, oa, ob, hg12, hb⟩
  clear p00 p01 p02
  clear HC
  have HLA := hid oa
  have HLB := hid ob
  have hga := (oa.lt g1 rfl)
  have hgb := (ob.lt g2 rfl)
  clear oa ob
  have hz1 := hb.size
  replace H := hid (H.out.later hb)
  clear hb
  replace H := hid (H.out.put n0 (.slice (some ⟨g1, 0, none⟩) xs0.length c1) (.slice (some ⟨g2, 0, none⟩) ys0.length c2))
  have hy1 := (alloc_later w1 (.cells #[.bool n0, .slice (some ⟨g1, 0, none⟩) xs0.length c1, .slice (some ⟨g2, 0, none⟩) ys0.length c2] 24)).size
  replace HLA := hid (owns_later HLA.out (alloc_later w1 (.cells #[.bool n0, .slice (some ⟨g1, 0, none⟩) xs0.length c1, .slice (some ⟨g2, 0, none⟩) ys0.length c2] 24)))
  replace HLB := hid (owns_later HLB.out (alloc_later w1 (.cells #[.bool n0, .slice (some ⟨g1, 0, none⟩) xs0.length c1, .slice (some ⟨g2, 0, none⟩) ys0.length c2] 24)))
  have HK := rPrint_full n0 _ _ xs0 _ _ ys0 (w1.alloc (.cells #[.bool n0, .slice (some ⟨g1, 0, none⟩) xs0.length c1, .slice (some ⟨g2, 0, none⟩) ys0.length c2] 24)) (Sl.own (lent_front HLA.out) wx0) (Sl.own (lent_front HLB.out) wy0) (HTAB.out.later H.out.bel)
  rw [HE1.out] at HK
  have HC := hid (HK)
  obtain ⟨p00, p01, p02⟩ := H.out.get (.head _)
  go_wp2_with fail
  refine Calls.mono HC.out ?_
  generalize (w1.alloc (.cells #[.bool n0, .slice (some ⟨g1, 0, none⟩) xs0.length c1, .slice (some ⟨g2, 0, none⟩) ys0.length c2] 24)) = V1 at *
  rintro e w2 ⟨T, rfl, hT, hb⟩
  clear p00 p01 p02
  clear HC
  clear HK
  have HTT := hid hT
  clear hT
  have hz2 := hb.size
  replace H := hid (H.out.later hb)
  replace HLA := hid (owns_later HLA.out hb)
  replace HLB := hid (owns_later HLB.out hb)
  clear hb
  have HK := dPrint_full n0 _ _ xs0 _ _ ys0 w2 (S0.out.1.later H.out.bel) (S0.out.2.later H.out.bel) (by omega) (by omega)
  rw [HE1.out] at HK
  have HC := hid (HK)
  obtain ⟨p00, p01, p02⟩ := H.out.get (.tail _ (.head _))
  go_wp2_with fail
  refine Calls.mono HC.out ?_
  rintro e w3 ⟨U, rfl, hU, hb⟩
  clear p00 p01 p02
  clear HC
  clear HK
  obtain rfl : T = U := ByteArray.ext (Array.toList_inj.1 (HTT.out.trans hU.symm))
  clear hU HTT
  have hq0 : (T.toList == T.toList) = true := by simp
  have hz3 := hb.size
  replace H := hid (H.out.later hb)
  replace HLA := hid (owns_later HLA.out hb)
  replace HLB := hid (owns_later HLB.out hb)
  clear hb
  have HC := hid (rparse_full s w3 hm)
  go_wp2_with fail
  refine Calls.mono HC.out ?_
  rintro e w4 ⟨N1, U1, Z1, T1, D1, C1, rfl, o1, q1, t1, hb, hcut⟩
  clear HC
  obtain ⟨A1, K1, hs⟩ := own_slice' o1
  subst hs
  obtain ⟨B1, L1, hs⟩ := own_slice' q1
  subst hs
  obtain ⟨cc1, hc1, hd1, li, lj⟩ := hcut
  have HI1 := hid li
  have HJ1 := hid lj
  clear li lj
  have HT1 := hid t1
  have wz1 := t1.wx
  have wd1 := t1.wy
  obtain ⟨lz1, ld1⟩ := t1.len
  clear t1
  have hz4 := hb.size
  replace H := hid (H.out.later hb)
  replace HLA := hid (owns_later HLA.out hb)
  replace HLB := hid (owns_later HLB.out hb)
  clear hb
  replace H := hid (H.out.more o1)
  clear o1
  replace H := hid (H.out.more q1)
  clear q1
  replace H := hid (H.out.put N1 (.slice A1 Z1.length K1) (.slice B1 D1.length L1))
  have hy4 := (alloc_later w4 (.cells #[.bool N1, .slice A1 Z1.length K1, .slice B1 D1.length L1] 24)).size
  replace HLA := hid (owns_later HLA.out (alloc_later w4 (.cells #[.bool N1, .slice A1 Z1.length K1, .slice B1 D1.length L1] 24)))
  replace HLB := hid (owns_later HLB.out (alloc_later w4 (.cells #[.bool N1, .slice A1 Z1.length K1, .slice B1 D1.length L1] 24)))
  have HC := hid (rparse_full s (w4.alloc (.cells #[.bool N1, .slice A1 Z1.length K1, .slice B1 D1.length L1] 24)) hm)
  go_wp2_with fail
  refine Calls.mono HC.out ?_
  generalize (w4.alloc (.cells #[.bool N1, .slice A1 Z1.length K1, .slice B1 D1.length L1] 24)) = V4 at *
  rintro e w5 ⟨N2, U2, Z2, T2, D2, C2, rfl, o2, q2, t2, hb, hcut⟩
  clear HC
  obtain ⟨A2, K2, hs⟩ := own_slice' o2
  subst hs
  obtain ⟨B2, L2, hs⟩ := own_slice' q2
  subst hs
  obtain ⟨cc2, hc2, hd2, li, lj⟩ := hcut
  have HI2 := hid li
  have HJ2 := hid lj
  clear li lj
  obtain ⟨rfl, rfl, rfl, rfl⟩ := HT1.out.same t2
  clear t2
  have hz5 := hb.size
  replace H := hid (H.out.later hb)
  replace HLA := hid (owns_later HLA.out hb)
  replace HLB := hid (owns_later HLB.out hb)
  clear hb
  replace H := hid (H.out.more o2)
  clear o2
  replace H := hid (H.out.more q2)
  clear q2
  replace H := hid (H.out.put N1 (.slice A2 Z1.length K2) (.slice B2 D1.length L2))
  have hy5 := (alloc_later w5 (.cells #[.bool N1, .slice A2 Z1.length K2, .slice B2 D1.length L2] 24)).size
  replace HLA := hid (owns_later HLA.out (alloc_later w5 (.cells #[.bool N1, .slice A2 Z1.length K2, .slice B2 D1.length L2] 24)))
  replace HLB := hid (owns_later HLB.out (alloc_later w5 (.cells #[.bool N1, .slice A2 Z1.length K2, .slice B2 D1.length L2] 24)))
  have HC := hid (dparse_any s (w5.alloc (.cells #[.bool N1, .slice A2 Z1.length K2, .slice B2 D1.length L2] 24)) hm)
  go_wp2_with fail
  refine Calls.mono HC.out ?_
  generalize (w5.alloc (.cells #[.bool N1, .slice A2 Z1.length K2, .slice B2 D1.length L2] 24)) = V5 at *
  rintro e w6 ⟨N3, U3, Z3, T3, D3, C3, rfl, o3, q3, t3, hb⟩
  clear HC
  obtain ⟨A3, K3, hs⟩ := own_slice' o3
  subst hs
  obtain ⟨B3, L3, hs⟩ := own_slice' q3
  subst hs
  obtain ⟨rfl, rfl, rfl, rfl⟩ := HT1.out.same t3
  clear t3
  have hz6 := hb.size
  replace H := hid (H.out.later hb)
  replace HLA := hid (owns_later HLA.out hb)
  replace HLB := hid (owns_later HLB.out hb)
  clear hb
  replace H := hid (H.out.more o3)
  clear o3
  replace H := hid (H.out.more q3)
  clear q3
  replace H := hid (H.out.put N1 (.slice A3 Z1.length K3) (.slice B3 D1.length L3))
  have hy6 := (alloc_later w6 (.cells #[.bool N1, .slice A3 Z1.length K3, .slice B3 D1.length L3] 24)).size
  replace HLA := hid (owns_later HLA.out (alloc_later w6 (.cells #[.bool N1, .slice A3 Z1.length K3, .slice B3 D1.length L3] 24)))
  replace HLB := hid (owns_later HLB.out (alloc_later w6 (.cells #[.bool N1, .slice A3 Z1.length K3, .slice B3 D1.length L3] 24)))
  have HC := hid (sameRatio_eq N1 _ _ _ _ Z1 D1 (w6.alloc (.cells #[.bool N1, .slice A3 Z1.length K3, .slice B3 D1.length L3] 24)) (H.out.sl wz1 (.tail _ (.tail _ (.tail _ (.tail _ (.tail _ (.head _))))))) (H.out.sl wd1 (.tail _ (.tail _ (.tail _ (.tail _ (.head _)))))) (H.out.sl wz1 (.tail _ (.head _))) (H.out.sl wd1 (.head _)) (by omega) (by omega))
  obtain ⟨p00, p01, p02⟩ := H.out.get (.tail _ (.tail _ (.head _)))
  obtain ⟨p10, p11, p12⟩ := H.out.get (.head _)
  go_wp2_with fail
  refine Calls.mono HC.out ?_
  generalize (w6.alloc (.cells #[.bool N1, .slice A3 Z1.length K3, .slice B3 D1.length L3] 24)) = V6 at *
  rintro e w7 ⟨rfl, hb⟩
  clear p00 p01 p02 p10 p11 p12
  clear HC
  have hz7 := hb.size
  replace H := hid (H.out.later hb)
  replace HLA := hid (owns_later HLA.out hb)
  replace HLB := hid (owns_later HLB.out hb)
  clear hb
  have HC := hid (keptRatio_any n0 a0 ca0 xs0 b0 cb0 ys0 g1 c1 g2 c2 _ w7 (S0.out.1.later H.out.bel) (S0.out.2.later H.out.bel) (by omega) (by omega) HLA.out HLB.out)
  obtain ⟨p00, p01, p02⟩ := H.out.get (.tail _ (.tail _ (.tail _ (.head _))))
  obtain ⟨p10, p11, p12⟩ := H.out.get (.tail _ (.tail _ (.tail _ (.tail _ (.head _)))))
  go_wp2_with fail
  refine Calls.mono HC.out ?_
  rintro e w8 ⟨rfl, hb⟩
  clear p00 p01 p02 p10 p11 p12
  clear HC
  have hz8 := hb.size
  replace H := hid (H.out.later hb)
  replace HLA := hid (owns_later HLA.out hb)
  replace HLB := hid (owns_later HLB.out hb)
  clear hb
  have hszB := H.out.bel.size
  have HIA : Hid (Within (.slice (some ⟨g1, 0, none⟩) xs0.length c1) X.heap.size (g1 + 1)) := fun g hg => by simp [Value.ownBlock] at hg; omega
  have HIB : Hid (Within (.slice (some ⟨g2, 0, none⟩) ys0.length c2) (g1 + 1) w3.heap.size) := fun g hg => by simp [Value.ownBlock] at hg; omega
  have HL := hid (six_apart (b := w.heap.size) X.heap.size (g1 + 1) w3.heap.size cc1 V4.heap.size cc2 w5.heap.size (by omega) (H.out.own (.tail _ (.tail _ (.tail _ (.tail _ (.tail _ (.head _))))))) wz1 (by omega) (by omega) (H.out.own (.tail _ (.tail _ (.tail _ (.tail _ (.head _)))))) wd1 (by omega) (by omega) (H.out.own (.tail _ (.tail _ (.tail _ (.head _))))) wz1 (by omega) (by omega) (H.out.own (.tail _ (.tail _ (.head _)))) wd1 (by omega) (by omega) (lent_front HLA.out) wx0 (by omega) (by omega) (lent_front HLB.out) wy0 (by omega) (by omega) HI1.out (Within.up HJ1.out (by omega)) HI2.out HJ2.out HIA.out HIB.out)
  have HAP := hid (apartRatios3 w.heap.size N1 N1 n0 A1 B1 A2 B2 (some ⟨g1, 0, none⟩) (some ⟨g2, 0, none⟩) Z1.length D1.length Z1.length D1.length xs0.length ys0.length K1 L1 K2 L2 c1 c2 w8.heap.size (fun j => ([Z1, D1, Z1, D1, xs0, ys0] : List (List Int))[j]?.getD []) (w8.alloc (.cells #[.bool N1, .slice A1 Z1.length K1, .slice B1 D1.length L1, .bool N1, .slice A2 Z1.length K2, .slice B2 D1.length L2, .bool n0, .slice (some ⟨g1, 0, none⟩) xs0.length c1, .slice (some ⟨g2, 0, none⟩) ys0.length c2] 24)) (Box.made w8 _ _) (by simp; omega) HL.out.1 HL.out.2.1 (fun j hj => owns_later (HL.out.2.2.1 j hj) (alloc_later _ _)) HL.out.2.2.2)
  obtain ⟨p00, p01, p02⟩ := H.out.get (.tail _ (.tail _ (.head _)))
  obtain ⟨p10, p11, p12⟩ := H.out.get (.tail _ (.head _))
  obtain ⟨p20, p21, p22⟩ := H.out.get (.tail _ (.tail _ (.tail _ (.head _))))
  have HBB := hid H.out.bel
  clear HL HIA HIB HI1 HI2 HJ1 HJ2 HT1 HLA HLB S0
  go_wp2_with fail
  refine Calls.mono HAP.out ?_
  rintro e wE ⟨rfl, hbE⟩
  have HBE := hid (bt_alloc HBB.out hbE)
  clear hbE HAP
  go_wp2_with fail
  go_ret
  exact ⟨rfl, HBE.out⟩

theorem ratioTexts_in (n0 : Bool) (a0 : Option Addr) (k0 ca0 : Nat) (xs0 : List Int) (b0 : Option Addr) (l0 cb0 : Nat) (ys0 : List Int) (s : ByteArray) (w : World) (h0 : Reads w w.heap.size a0 k0 ca0 xs0) (g0 : Reads w w.heap.size b0 l0 cb0 ys0) (hm : s.size ≤ maxLen) (hn : ca0 ≤ 1048576) (hd : cb0 ≤ 1048576) (htab : Tab w) :
    Calls Tryz.prog 3 #[.agg #[.bool n0, .slice a0 k0 ca0, .slice b0 l0 cb0], .string s] w fun e w' => e = .returned (.bool true) ∧ Below w.heap.size w w' := by
  have e0 := h0.1
  have f0 := g0.1
  have m0 := h0.2.2.2.1
  have m1 := g0.2.2.2.1
  subst e0
  subst f0
  unfold maxLen at hm
  exact ratioTexts_walk n0 a0 ca0 xs0 b0 cb0 ys0 s w ⟨_, _, rfl, h0⟩ ⟨_, _, rfl, g0⟩ (by omega) (by omega) (by omega) htab
end Go.Proofs.YtbnhpkelnoolhaaGreatDoor

