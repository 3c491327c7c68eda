/- Whole numbers: DivMod by nothing; the law's divides: DivMod and Gcd are what they are called. -/
import Derived.Test.YtbcangblmadnpacWh10
namespace Go.Proofs.Ytbcangblmadnpac
open Go.RowKit
set_option linter.unusedVariables false

/-- A whole number in memory, and its words. -/
structure Vr (U : World) (b : Nat) (n : Bool) (a : Option Addr) (c : Nat) (xs : List Int) : Prop where
  box : Box U b 24 #[.bool n, .slice a xs.length c]
  sl : Sl U (.slice a xs.length c) xs
theorem Vr.later {U V : World} {b : Nat} {n : Bool} {a : Option Addr} {c : Nat} {xs : List Int} (h : Vr U b n a c xs) (hb : Below U.heap.size U V) : Vr V b n a c xs := ⟨h.box.later hb h.box.lt, h.sl.later hb⟩
theorem Vr.c0 {U : World} {b : Nat} {n : Bool} {a : Option Addr} {c : Nat} {xs : List Int} (h : Vr U b n a c xs) : U.cell? ⟨b, 0, none⟩ = some (.bool n) := h.box.cell 0
theorem Vr.c1 {U : World} {b : Nat} {n : Bool} {a : Option Addr} {c : Nat} {xs : List Int} (h : Vr U b n a c xs) : U.cell? ⟨b, 1, none⟩ = some (.slice a xs.length c) := h.box.cell 1
theorem Vr.new {U V : World} {n : Bool} {a : Option Addr} {c : Nat} {xs : List Int} (h : Sl U (.slice a xs.length c) xs) (hb : Below (U.alloc (.cells #[.bool n, .slice a xs.length c] 24)).heap.size (U.alloc (.cells #[.bool n, .slice a xs.length c] 24)) V) : Vr V U.heap.size n a c xs :=
  Vr.later ⟨Box.made U _ _, h.later (alloc_later _ _)⟩ hb

set_option maxHeartbeats 3200000 in
set_option maxRecDepth 100000 in
theorem wdivMod_zero (n : Bool) (v : Value) (xs : List Int) (m0 : Bool) (u : Value) (w : World) (h : Sl w v xs) (g : Sl w u []) (hx : wchk n xs = 0) (hy : wchk m0 [] = 0) :
    Calls Try.prog 13 #[.agg #[.bool n, v], .agg #[.bool m0, u]] w fun e w' => e = .returned (.tuple #[.agg #[.bool false, .slice none 0 0], .agg #[.bool false, .slice none 0 0], .int .i64 7]) ∧ Below w.heap.size w w' := by
  obtain ⟨lx, tx, _⟩ := wchk_ok hx
  obtain ⟨ys, hys⟩ : ∃ ys : List Int, ys = [] := ⟨_, rfl⟩
  rw [← hys] at g hy
  obtain ⟨a, cap, rfl, hr⟩ := h
  obtain ⟨b, cap', rfl, gr⟩ := g
  have h : Sl w (.slice a xs.length cap) xs := ⟨a, cap, rfl, hr⟩
  have g : Sl w (.slice b ys.length cap') ys := ⟨b, cap', rfl, gr⟩
  clear hr gr
  have HB : Hid (Below w.heap.size w ((((w.alloc (.cells #[.bool n, .slice a xs.length cap] 24)).alloc (.cells #[.bool m0, .slice b ys.length cap'] 24)).alloc (.cells #[.bool false, .slice none 0 0] 24)).alloc (.cells #[.bool false, .slice none 0 0] 24))) := bt (bt (bt (alloc_later _ _) (alloc_later _ _)) (alloc_later _ _)) (alloc_later _ _)
  have HM : Hid (Box ((((w.alloc (.cells #[.bool n, .slice a xs.length cap] 24)).alloc (.cells #[.bool m0, .slice b ys.length cap'] 24)).alloc (.cells #[.bool false, .slice none 0 0] 24)).alloc (.cells #[.bool false, .slice none 0 0] 24)) (w.heap.size + 1) 24 #[.bool m0, .slice b ys.length cap']) := by
    have e := Box.later (Box.made (w.alloc (.cells #[.bool n, .slice a xs.length cap] 24)) 24 #[.bool m0, .slice b ys.length cap']) (bt (alloc_later ((w.alloc (.cells #[.bool n, .slice a xs.length cap] 24)).alloc (.cells #[.bool m0, .slice b ys.length cap'] 24)) (.cells #[.bool false, .slice none 0 0] 24)) (alloc_later _ (.cells #[.bool false, .slice none 0 0] 24))) (by simp)
    simp at e
    exact e
  have HZ1 : Hid (Box ((((w.alloc (.cells #[.bool n, .slice a xs.length cap] 24)).alloc (.cells #[.bool m0, .slice b ys.length cap'] 24)).alloc (.cells #[.bool false, .slice none 0 0] 24)).alloc (.cells #[.bool false, .slice none 0 0] 24)) (w.heap.size + 1 + 1) 24 #[.bool false, .slice none 0 0]) := by
    have e := Box.later (Box.made ((w.alloc (.cells #[.bool n, .slice a xs.length cap] 24)).alloc (.cells #[.bool m0, .slice b ys.length cap'] 24)) 24 #[.bool false, .slice none 0 0]) (alloc_later (((w.alloc (.cells #[.bool n, .slice a xs.length cap] 24)).alloc (.cells #[.bool m0, .slice b ys.length cap'] 24)).alloc (.cells #[.bool false, .slice none 0 0] 24)) (.cells #[.bool false, .slice none 0 0] 24)) (by simp)
    simp at e
    exact e
  have HZ2 : Hid (Box ((((w.alloc (.cells #[.bool n, .slice a xs.length cap] 24)).alloc (.cells #[.bool m0, .slice b ys.length cap'] 24)).alloc (.cells #[.bool false, .slice none 0 0] 24)).alloc (.cells #[.bool false, .slice none 0 0] 24)) (w.heap.size + 1 + 1 + 1) 24 #[.bool false, .slice none 0 0]) := by
    have e := Box.made (((w.alloc (.cells #[.bool n, .slice a xs.length cap] 24)).alloc (.cells #[.bool m0, .slice b ys.length cap'] 24)).alloc (.cells #[.bool false, .slice none 0 0] 24)) 24 #[.bool false, .slice none 0 0]
    simp at e
    exact e
  have HCB := hid (wcheckBoth_any n _ xs m0 _ ys _ (h.later HB.out) (g.later HB.out) (by omega) (by rw [hys]; simp))
  rw [wboth_good hx hy] at HCB
  have hyl : ys.length = 0 := by rw [hys]; rfl
  rw [hyl] at HB HM HZ1 HZ2 HCB ⊢
  clear h g hx hy hyl hys
  go_enter Try.func13, Try.ntmps13
  go_wp2_with fail
  refine Calls.mono HCB.out ?_
  rintro e w1 ⟨rfl, hb1⟩
  obtain ⟨q0, q1, _, _⟩ := res_box HM.out hb1
  obtain ⟨r0, r1, f0, f1⟩ := res_box HZ1.out hb1
  obtain ⟨s0, s1, g0, g1⟩ := res_box HZ2.out hb1
  have HBW := hid (bt HB.out hb1)
  clear hb1
  go_wp2_with fail
  go_region
  all_goals
    go_wp2_with fail
    refine bodyPost_ret (v := .tuple #[.agg #[.bool false, .slice none 0 0], .agg #[.bool false, .slice none 0 0], .int .i64 7]) (by simp [results, Try.results13, go_sem, r0, r1, s0, s1]) rfl ?_
    first
      | exact ⟨rfl, (below_put2 (below_put2 HBW.out _ (by omega) _ _) _ (by omega) _ _).drew⟩
      | exact ⟨rfl, below_put2 (below_put2 HBW.out.drew _ (by omega) _ _) _ (by omega) _ _⟩

/-- What a number of at most 40 words is below. -/
def lim40 : Int := 4294967296 ^ 40
theorem lim40_pos : 0 < lim40 := pw_pos 40
theorem lim40_le : 2 * lim40 ≤ wlim := by
  unfold lim40 wlim
  have e : (4294967296 : Int) ^ (40 + 1) ≤ 4294967296 ^ 2048 := pw_le (by omega)
  rw [pw_succ] at e
  have := pw_pos 40
  generalize (4294967296 : Int) ^ 40 = P at *
  generalize (4294967296 : Int) ^ 2048 = Q at *
  omega
theorem below40 {n : Bool} {zs : List Int} (hw : Wd zs) (hl : zs.length ≤ 40) : -lim40 < wval n zs ∧ wval n zs < lim40 := by
  have h1 := val_lt hw
  have h2 : (4294967296 : Int) ^ zs.length ≤ 4294967296 ^ 40 := pw_le hl
  have h3 := val_nonneg hw
  have h4 : val zs < lim40 := Int.lt_of_lt_of_le h1 h2
  have h5 := lim40_pos
  cases n <;> simp [wval] <;> omega
theorem abs_wval (n : Bool) {xs : List Int} (hw : Wd xs) : ((wval n xs).natAbs : Int) = val xs := by
  have := val_nonneg hw
  cases n <;> simp [wval] <;> omega
theorem gcd_abs (x y : Int) : ((gcdI x y).natAbs : Int) = gcdI x y := by have := gcdI_nonneg x y; omega
/-- A rest below the divisor's size leaves the product no greater than the number and that size. -/
theorem prod_small {X Y Q R : Int} (h : X = Q * Y + R) (hr : R < (Y.natAbs : Int)) (h0 : 0 ≤ R) (hX : -lim40 < X ∧ X < lim40) (hB : -lim40 < Y ∧ Y < lim40) : -wlim < Q * Y ∧ Q * Y < wlim := by
  have := lim40_le
  omega
theorem rest_gone (n : Bool) {zr xs : List Int} {g Q : Int} (hw : Wd zr) (ht : Trimmed zr) (hg : 0 < g) (hd : g ∣ val xs) (h : wval n xs = Q * g + val zr) (hr : val zr < g) : zr = [] ∧ wval n xs = Q * g := by
  have hd' : g ∣ wval n xs := by
    cases n
    · exact hd
    · exact Int.dvd_neg.2 hd
  have e : val zr = 0 := by
    have h0 := val_nonneg hw
    obtain ⟨k, hk⟩ := hd'
    rw [hk] at h
    have e1 : val zr = (k - Q) * g := by rw [Int.sub_mul, Int.mul_comm k g]; omega
    have hx : k - Q < 1 := Int.lt_of_mul_lt_mul_right (show (k - Q) * g < 1 * g by omega) (by omega)
    have hx0 : 0 ≤ k - Q := by
      by_cases c : 0 ≤ k - Q
      · exact c
      · have : (k - Q) * g < 0 * g := Int.mul_lt_mul_of_pos_right (by omega) hg
        omega
    have : k - Q = 0 := by omega
    rw [e1, this, Int.zero_mul]
  exact ⟨trimmed_eq hw Wd.nil ht Trimmed.nil (by rw [e]; rfl), by omega⟩
theorem abs_prod {n m : Bool} {xs zs : List Int} {g : Int} (wx : Wd xs) (wz : Wd zs) (hg : 0 < g) (h : wval n xs = wval m zs * g) : val xs = val zs * g := by
  have e1 := abs_wval n wx
  have e2 := abs_wval m wz
  rw [h, Int.natAbs_mul, Int.natCast_mul, e2] at e1
  rw [← e1]
  congr 1
  omega
theorem gcd_ones {a b x y : Int} (hg : 0 < gcdI a b) (hx : a = x * gcdI a b) (hy : b = y * gcdI a b) : gcdI x y = 1 := by
  have e : gcdI (x * gcdI a b) (y * gcdI a b) = gcdI x y * gcdI a b := by
    have h0 := gcdI_nonneg a b
    generalize gcdI a b = g at *
    show ((Int.gcd (x * g) (y * g) : Nat) : Int) = (Int.gcd x y : Int) * g
    rw [Int.gcd_mul_right, Int.natCast_mul]
    congr 1
    omega
  rw [← hx, ← hy] at e
  have e2 : gcdI a b * 1 = gcdI a b * gcdI x y := by rw [Int.mul_one, Int.mul_comm]; exact e
  exact (Int.eq_of_mul_eq_mul_left (by omega) e2).symm
theorem gcd_pos' {a b : Int} (h : b ≠ 0) : 0 < gcdI a b := by
  have := Int.gcd_pos_iff.2 (Or.inr h : a ≠ 0 ∨ b ≠ 0)
  unfold gcdI
  omega

set_option maxHeartbeats 12800000 in
set_option maxRecDepth 100000 in
theorem lawDivides_any (nA : Bool) (aA : Option Addr) (cA : Nat) (xA : List Int) (nB : Bool) (aB : Option Addr) (cB : Nat) (xB : List Int) (w : World) (sA : Sl w (.slice aA xA.length cA) xA) (sB : Sl w (.slice aB xB.length cB) xB) (hA : wchk nA xA = 0) (hB : wchk nB xB = 0) (lA : xA.length ≤ 40) (lB : xB.length ≤ 40) :
    Calls Try.prog 10 #[.agg #[.bool nA, .slice aA xA.length cA], .agg #[.bool nB, .slice aB xB.length cB]] w fun e w' => e = .returned (.bool true) ∧ Below w.heap.size w w' := by
  have wA := sA.wd
  have wB := sB.wd
  have hb := Below.refl w.heap.size w
  have HSA := hid (below40 (n := nA) wA lA)
  have HSB := hid (below40 (n := nB) wB lB)
  by_cases hz : xB.length = 0
  · obtain rfl : xB = [] := List.eq_nil_of_length_eq_zero hz
    clear hz
    go_enter Try.func10, Try.ntmps10
    have HH := hid (wdivMod_zero nA _ xA nB _ _ (sA.later (show Below w.heap.size w ((w.alloc (.cells #[.bool nA, .slice aA xA.length cA] 24)).alloc (.cells #[.bool nB, .slice aB ([] : List Int).length cB] 24)) from (bt (alloc_later _ _) (alloc_later _ _)))) (sB.later (show Below w.heap.size w ((w.alloc (.cells #[.bool nA, .slice aA xA.length cA] 24)).alloc (.cells #[.bool nB, .slice aB ([] : List Int).length cB] 24)) from (bt (alloc_later _ _) (alloc_later _ _)))) hA hB)
    go_wp2_with fail
    refine Calls.mono HH.out ?_
    rintro e U1 ⟨rfl, hb2⟩
    have hb3 := bt (show Below w.heap.size w ((w.alloc (.cells #[.bool nA, .slice aA xA.length cA] 24)).alloc (.cells #[.bool nB, .slice aB ([] : List Int).length cB] 24)) from (bt (alloc_later _ _) (alloc_later _ _))) hb2
    have vA : Vr U1 w.heap.size nA aA cA xA := Vr.new sA (bt (alloc_later _ _) hb2)
    clear sA
    have vBx := Vr.new (n := nB) (sB.later (alloc_later w (.cells #[.bool nA, .slice aA xA.length cA] 24))) hb2
    have vB : Vr U1 (w.heap.size + 1) nB aB cB ([] : List Int) := by rw [show (w.alloc (.cells #[.bool nA, .slice aA xA.length cA] 24)).heap.size = w.heap.size + 1 by simp] at vBx; exact vBx
    clear vBx
    clear sB
    replace hb := bt hb hb3
    clear hb2 hb3 HH
    have iB0 := vB.c0
    have iB1 := vB.c1
    have iBb := vB.box.lt
    have iB2 := (vB.later (show Below U1.heap.size U1 ((U1.alloc (.cells #[.bool false, .slice none 0 0] 24)).alloc (.cells #[.bool false, .slice none 0 0] 24)) from (bt (alloc_later _ _) (alloc_later _ _)))).c0
    have iB3 := (vB.later (show Below U1.heap.size U1 ((U1.alloc (.cells #[.bool false, .slice none 0 0] 24)).alloc (.cells #[.bool false, .slice none 0 0] 24)) from (bt (alloc_later _ _) (alloc_later _ _)))).c1
    go_wp2_with fail
    go_ret
    first | exact ⟨rfl, bt hb (bt (alloc_later _ _) (alloc_later _ _))⟩ | exact ⟨rfl, hb⟩
  · have hB0 : 0 < xB.length := by omega
    have qB : ((xB.length : Int) == 0) = false := by simp; exact fun e => hz (by rw [e]; rfl)
    obtain ⟨_, tB, _⟩ := wchk_ok hB
    have hb1 := val_pos' wB tB hB0
    have HBB : Hid (val xB < wlim) := below2048 wB (by omega)
    have HGL : Hid (0 < gcdI (val xA) (val xB) ∧ gcdI (val xA) (val xB) < wlim) := ⟨gcd_pos' (by omega), by
      have a1 := below2048 wA (by omega)
      have a2 := HBB.out
      rcases gcdI_le (val_nonneg wA) (val_nonneg wB) with e | e <;> omega⟩
    clear hz hb1 tB
    go_enter Try.func10, Try.ntmps10
    have HH := hid (wdivMod_any nA _ xA nB _ xB _ (sA.later (show Below w.heap.size w ((w.alloc (.cells #[.bool nA, .slice aA xA.length cA] 24)).alloc (.cells #[.bool nB, .slice aB xB.length cB] 24)) from (bt (alloc_later _ _) (alloc_later _ _)))) (sB.later (show Below w.heap.size w ((w.alloc (.cells #[.bool nA, .slice aA xA.length cA] 24)).alloc (.cells #[.bool nB, .slice aB xB.length cB] 24)) from (bt (alloc_later _ _) (alloc_later _ _)))) hA hB hB0)
    go_wp2_with fail
    refine Calls.mono HH.out ?_
    rintro e U1 ⟨nQ, vQ, zQ, vR, zR, rfl, oQ, oR, wQ, wR, tQ, tR, lQ, lR, ngQ, hq, hr, hb2⟩
    have hb3 := bt (show Below w.heap.size w ((w.alloc (.cells #[.bool nA, .slice aA xA.length cA] 24)).alloc (.cells #[.bool nB, .slice aB xB.length cB] 24)) from (bt (alloc_later _ _) (alloc_later _ _))) hb2
    have vA : Vr U1 w.heap.size nA aA cA xA := Vr.new sA (bt (alloc_later _ _) hb2)
    clear sA
    have vBx := Vr.new (n := nB) (sB.later (alloc_later w (.cells #[.bool nA, .slice aA xA.length cA] 24))) hb2
    have vB : Vr U1 (w.heap.size + 1) nB aB cB xB := by rw [show (w.alloc (.cells #[.bool nA, .slice aA xA.length cA] 24)).heap.size = w.heap.size + 1 by simp] at vBx; exact vBx
    clear vBx
    clear sB
    replace hb := bt hb hb3
    clear hb2 hb3 HH
    obtain ⟨aQ, cQ, hs⟩ := own_slice' oQ
    subst hs
    obtain ⟨aR, cR, hs⟩ := own_slice' oR
    subst hs
    have sQ := Sl.own oQ wQ
    have sR := Sl.own oR wR
    clear oQ oR
    have kQ := wchk_good lQ tQ ngQ
    have kR := wchk_good (n := false) lR tR (.inl rfl)
    have HQR := hid (And.intro hq hr)
    have r0 := val_nonneg wR
    have HR0 := hid r0
    clear hq hr r0 tQ tR ngQ
    have HBD := hid (prod_small HQR.out.1 HQR.out.2 HR0.out HSA.out HSB.out)
    have HH := hid (lawMul_any nQ _ zQ nB _ xB _ (sQ.later (show Below U1.heap.size U1 ((U1.alloc (.cells #[.bool nQ, .slice aQ zQ.length cQ] 24)).alloc (.cells #[.bool false, .slice aR zR.length cR] 24)) from (bt (alloc_later _ _) (alloc_later _ _)))) (vB.sl.later (show Below U1.heap.size U1 ((U1.alloc (.cells #[.bool nQ, .slice aQ zQ.length cQ] 24)).alloc (.cells #[.bool false, .slice aR zR.length cR] 24)) from (bt (alloc_later _ _) (alloc_later _ _)))) kQ hB HBD.out.1 HBD.out.2)
    have iB0 := vB.c0
    have iB1 := vB.c1
    have iBb := vB.box.lt
    have iB2 := (vB.later (show Below U1.heap.size U1 ((U1.alloc (.cells #[.bool nQ, .slice aQ zQ.length cQ] 24)).alloc (.cells #[.bool false, .slice aR zR.length cR] 24)) from (bt (alloc_later _ _) (alloc_later _ _)))).c0
    have iB3 := (vB.later (show Below U1.heap.size U1 ((U1.alloc (.cells #[.bool nQ, .slice aQ zQ.length cQ] 24)).alloc (.cells #[.bool false, .slice aR zR.length cR] 24)) from (bt (alloc_later _ _) (alloc_later _ _)))).c1
    go_wp2_with fail
    refine Calls.mono HH.out ?_
    rintro e U2 ⟨nP, vP, zP, rfl, oP, wP, kP, hvP, hb2⟩
    clear iB0 iB1 iBb iB2 iB3
    have hb3 := bt (show Below U1.heap.size U1 ((U1.alloc (.cells #[.bool nQ, .slice aQ zQ.length cQ] 24)).alloc (.cells #[.bool false, .slice aR zR.length cR] 24)) from (bt (alloc_later _ _) (alloc_later _ _))) hb2
    replace vA := vA.later hb3
    replace vB := vB.later hb3
    have vQ : Vr U2 U1.heap.size nQ aQ cQ zQ := Vr.new sQ (bt (alloc_later _ _) hb2)
    clear sQ
    have vRx := Vr.new (n := false) (sR.later (alloc_later U1 (.cells #[.bool nQ, .slice aQ zQ.length cQ] 24))) hb2
    have vR : Vr U2 (U1.heap.size + 1) false aR cR zR := by rw [show (U1.alloc (.cells #[.bool nQ, .slice aQ zQ.length cQ] 24)).heap.size = U1.heap.size + 1 by simp] at vRx; exact vRx
    clear vRx
    clear sR
    replace hb := bt hb hb3
    clear hb2 hb3 HH
    obtain ⟨aP, cP, hs⟩ := own_slice' oP
    subst hs
    have sP := Sl.own oP wP
    have HVP := hid hvP
    clear oP hvP
    have hsum : wval nP zP + wval false zR = wval nA xA := by rw [HVP.out]; exact HQR.out.1.symm
    have HSM := hid hsum
    have HH := hid (lawAdd_any nP _ zP false _ zR _ (sP.later (show Below U2.heap.size U2 (U2.alloc (.cells #[.bool nP, .slice aP zP.length cP] 24)) from (alloc_later _ _))) (vR.sl.later (show Below U2.heap.size U2 (U2.alloc (.cells #[.bool nP, .slice aP zP.length cP] 24)) from (alloc_later _ _))) kP kR (by rw [hsum]; have := HSA.out; have := lim40_le; have := lim40_pos; omega) (by rw [hsum]; have := HSA.out; have := lim40_le; have := lim40_pos; omega))
    have iR0 := vR.c0
    have iR1 := vR.c1
    have iRb := vR.box.lt
    have iR2 := (vR.later (show Below U2.heap.size U2 (U2.alloc (.cells #[.bool nP, .slice aP zP.length cP] 24)) from (alloc_later _ _))).c0
    have iR3 := (vR.later (show Below U2.heap.size U2 (U2.alloc (.cells #[.bool nP, .slice aP zP.length cP] 24)) from (alloc_later _ _))).c1
    go_wp2_with fail
    refine Calls.mono HH.out ?_
    rintro e U3 ⟨nS, vS, zS, rfl, oS, wS, kS, hvS, hb2⟩
    clear iR0 iR1 iRb iR2 iR3
    have hb3 := bt (show Below U2.heap.size U2 (U2.alloc (.cells #[.bool nP, .slice aP zP.length cP] 24)) from (alloc_later _ _)) hb2
    replace vA := vA.later hb3
    replace vB := vB.later hb3
    replace vQ := vQ.later hb3
    replace vR := vR.later hb3
    have vP : Vr U3 U2.heap.size nP aP cP zP := Vr.new sP hb2
    clear sP
    replace hb := bt hb hb3
    clear hb2 hb3 HH
    rw [hsum] at hvS
    obtain ⟨aS, cS, hs⟩ := own_slice' oS
    subst hs
    have sS := Sl.own oS wS
    have HVS := hid hvS
    clear oS hvS hsum
    have HH := hid (wabs_any nB _ xB _ (vB.sl.later (show Below U3.heap.size U3 (U3.alloc (.cells #[.bool nS, .slice aS zS.length cS] 24)) from (alloc_later _ _))) hB)
    have iB0 := vB.c0
    have iB1 := vB.c1
    have iBb := vB.box.lt
    have iB2 := (vB.later (show Below U3.heap.size U3 (U3.alloc (.cells #[.bool nS, .slice aS zS.length cS] 24)) from (alloc_later _ _))).c0
    have iB3 := (vB.later (show Below U3.heap.size U3 (U3.alloc (.cells #[.bool nS, .slice aS zS.length cS] 24)) from (alloc_later _ _))).c1
    go_wp2_with fail
    refine Calls.mono HH.out ?_
    rintro e U4 ⟨nT, vT, zT, ccT, rfl, oT, wtT, hb2⟩
    clear iB0 iB1 iBb iB2 iB3
    have hb3 := bt (show Below U3.heap.size U3 (U3.alloc (.cells #[.bool nS, .slice aS zS.length cS] 24)) from (alloc_later _ _)) hb2
    replace vA := vA.later hb3
    replace vB := vB.later hb3
    replace vQ := vQ.later hb3
    replace vR := vR.later hb3
    replace vP := vP.later hb3
    have vS : Vr U4 U3.heap.size nS aS cS zS := Vr.new sS hb2
    clear sS
    replace hb := bt hb hb3
    clear hb2 hb3 HH
    obtain ⟨rfl, hvT⟩ := wtT.good rfl (by have := HSB.out; have := val_nonneg wB; have := wlim_pos; omega) (by have := HBB.out; omega)
    obtain ⟨aT, cT, hs⟩ := own_slice' oT
    subst hs
    have sT := Sl.own oT wtT.wd
    have kT := wchk_good wtT.len wtT.trim wtT.sign
    have HVT := hid hvT
    clear oT wtT hvT
    have hcm : cmpI (wval false zR) (wval nT zT) = -1 := by rw [HVT.out]; exact cmpI_lt (by show val zR < val xB; have := HQR.out.2; rw [abs_wval nB wB] at this; exact this)
    have HH := hid (wcompare_any false _ zR nT _ zT _ (vR.sl.later (show Below U4.heap.size U4 (U4.alloc (.cells #[.bool nT, .slice aT zT.length cT] 24)) from (alloc_later _ _))) (sT.later (show Below U4.heap.size U4 (U4.alloc (.cells #[.bool nT, .slice aT zT.length cT] 24)) from (alloc_later _ _))) kR kT)
    rw [hcm] at HH
    clear hcm
    have iR0 := vR.c0
    have iR1 := vR.c1
    have iRb := vR.box.lt
    have iR2 := (vR.later (show Below U4.heap.size U4 (U4.alloc (.cells #[.bool nT, .slice aT zT.length cT] 24)) from (alloc_later _ _))).c0
    have iR3 := (vR.later (show Below U4.heap.size U4 (U4.alloc (.cells #[.bool nT, .slice aT zT.length cT] 24)) from (alloc_later _ _))).c1
    go_wp2_with fail
    refine Calls.mono HH.out ?_
    rintro e U5 ⟨rfl, hb2⟩
    clear iR0 iR1 iRb iR2 iR3
    have hb3 := bt (show Below U4.heap.size U4 (U4.alloc (.cells #[.bool nT, .slice aT zT.length cT] 24)) from (alloc_later _ _)) hb2
    replace vA := vA.later hb3
    replace vB := vB.later hb3
    replace vQ := vQ.later hb3
    replace vR := vR.later hb3
    replace vP := vP.later hb3
    replace vS := vS.later hb3
    have vT : Vr U5 U4.heap.size nT aT cT zT := Vr.new sT hb2
    clear sT
    replace hb := bt hb hb3
    clear hb2 hb3 HH
    have HH := hid (lawSame_any nS _ zS nA _ xA _ (vS.sl.later (Below.refl U5.heap.size U5)) (vA.sl.later (Below.refl U5.heap.size U5)) kS hA HVS.out)
    have iR0 := vR.c0
    have iR1 := vR.c1
    have iRb := vR.box.lt
    have iS0 := vS.c0
    have iS1 := vS.c1
    have iSb := vS.box.lt
    have iA0 := vA.c0
    have iA1 := vA.c1
    have iAb := vA.box.lt
    go_wp2_with fail
    refine Calls.mono HH.out ?_
    rintro e U6 ⟨rfl, hb2⟩
    clear iR0 iR1 iRb iS0 iS1 iSb iA0 iA1 iAb
    have hb3 := bt (Below.refl U5.heap.size U5) hb2
    replace vA := vA.later hb3
    replace vB := vB.later hb3
    replace vQ := vQ.later hb3
    replace vR := vR.later hb3
    replace vP := vP.later hb3
    replace vS := vS.later hb3
    replace vT := vT.later hb3
    replace hb := bt hb hb3
    clear hb2 hb3 HH
    clear vQ vR vP vS vT
    clear kQ kR kP kS kT
    have HH := hid (wgcd_any nA _ xA nB _ xB _ (vA.sl.later (Below.refl U6.heap.size U6)) (vB.sl.later (Below.refl U6.heap.size U6)) hA hB)
    have iA0 := vA.c0
    have iA1 := vA.c1
    have iAb := vA.box.lt
    have iB0 := vB.c0
    have iB1 := vB.c1
    have iBb := vB.box.lt
    go_wp2_with fail
    refine Calls.mono HH.out ?_
    rintro e U7 ⟨nD, vD, zD, ccD, rfl, oD, wtD, hb2⟩
    clear iA0 iA1 iAb iB0 iB1 iBb
    have hb3 := bt (Below.refl U6.heap.size U6) hb2
    replace vA := vA.later hb3
    replace vB := vB.later hb3
    replace hb := bt hb hb3
    clear hb2 hb3 HH
    obtain ⟨rfl, hvD⟩ := wtD.good rfl (by have := HGL.out; have := wlim_pos; omega) (by have := HGL.out; omega)
    obtain ⟨rfl, hvD'⟩ := wval_pos wtD.wd (by rw [hvD]; exact HGL.out.1)
    have hD0 : 0 < zD.length := by
      by_cases c : 0 < zD.length
      · exact c
      · have e0 := trimmed_zero' (us := zD) (by omega)
        have := HGL.out
        omega
    have qD : ((zD.length : Int) == 0) = false := by simp; exact fun e => by rw [e] at hD0; simp at hD0
    obtain ⟨aD, cD, hs⟩ := own_slice' oD
    subst hs
    have sD := Sl.own oD wtD.wd
    have kD := wchk_good wtD.len wtD.trim (n := false) (.inl rfl)
    have HVD : Hid (wval false zD = gcdI (val xA) (val xB)) := hvD
    have wD := wtD.wd
    clear oD wtD hvD hvD'
    have HH := hid (wdivMod_any nA _ xA false _ zD _ (vA.sl.later (show Below U7.heap.size U7 (U7.alloc (.cells #[.bool false, .slice aD zD.length cD] 24)) from (alloc_later _ _))) (sD.later (show Below U7.heap.size U7 (U7.alloc (.cells #[.bool false, .slice aD zD.length cD] 24)) from (alloc_later _ _))) hA kD hD0)
    have iA0 := vA.c0
    have iA1 := vA.c1
    have iAb := vA.box.lt
    have iA2 := (vA.later (show Below U7.heap.size U7 (U7.alloc (.cells #[.bool false, .slice aD zD.length cD] 24)) from (alloc_later _ _))).c0
    have iA3 := (vA.later (show Below U7.heap.size U7 (U7.alloc (.cells #[.bool false, .slice aD zD.length cD] 24)) from (alloc_later _ _))).c1
    go_wp2_with fail
    refine Calls.mono HH.out ?_
    rintro e U8 ⟨nV, vV, zV, vY, zY, rfl, oV, oY, wV, wY, tV, tY, lV, lY, ngV, hq, hr, hb2⟩
    clear iA0 iA1 iAb iA2 iA3
    have hb3 := bt (show Below U7.heap.size U7 (U7.alloc (.cells #[.bool false, .slice aD zD.length cD] 24)) from (alloc_later _ _)) hb2
    replace vA := vA.later hb3
    replace vB := vB.later hb3
    have vD : Vr U8 U7.heap.size false aD cD zD := Vr.new sD hb2
    clear sD
    replace hb := bt hb hb3
    clear hb2 hb3 HH
    obtain ⟨aV, cV, hs⟩ := own_slice' oV
    subst hs
    obtain ⟨aY, cY, hs⟩ := own_slice' oY
    subst hs
    have sV := Sl.own oV wV
    have sY := Sl.own oY wY
    clear oV oY
    have kV := wchk_good lV tV ngV
    rw [HVD.out] at hq hr
    obtain ⟨hn, he⟩ := rest_gone nA wY tY HGL.out.1 (show gcdI (val xA) (val xB) ∣ val xA from Int.gcd_dvd_left ..) hq (by rw [gcd_abs] at hr; exact hr)
    subst hn
    have HEV := hid he
    clear hq hr he tV tY ngV lY
    have HH := hid (wdivMod_any nB _ xB false _ zD _ (vB.sl.later (show Below U8.heap.size U8 ((U8.alloc (.cells #[.bool nV, .slice aV zV.length cV] 24)).alloc (.cells #[.bool false, .slice aY 0 cY] 24)) from (bt (alloc_later _ _) (alloc_later _ _)))) (vD.sl.later (show Below U8.heap.size U8 ((U8.alloc (.cells #[.bool nV, .slice aV zV.length cV] 24)).alloc (.cells #[.bool false, .slice aY 0 cY] 24)) from (bt (alloc_later _ _) (alloc_later _ _)))) hB kD hD0)
    have iB0 := vB.c0
    have iB1 := vB.c1
    have iBb := vB.box.lt
    have iB2 := (vB.later (show Below U8.heap.size U8 ((U8.alloc (.cells #[.bool nV, .slice aV zV.length cV] 24)).alloc (.cells #[.bool false, .slice aY 0 cY] 24)) from (bt (alloc_later _ _) (alloc_later _ _)))).c0
    have iB3 := (vB.later (show Below U8.heap.size U8 ((U8.alloc (.cells #[.bool nV, .slice aV zV.length cV] 24)).alloc (.cells #[.bool false, .slice aY 0 cY] 24)) from (bt (alloc_later _ _) (alloc_later _ _)))).c1
    have iD0 := vD.c0
    have iD1 := vD.c1
    have iDb := vD.box.lt
    have iD2 := (vD.later (show Below U8.heap.size U8 ((U8.alloc (.cells #[.bool nV, .slice aV zV.length cV] 24)).alloc (.cells #[.bool false, .slice aY 0 cY] 24)) from (bt (alloc_later _ _) (alloc_later _ _)))).c0
    have iD3 := (vD.later (show Below U8.heap.size U8 ((U8.alloc (.cells #[.bool nV, .slice aV zV.length cV] 24)).alloc (.cells #[.bool false, .slice aY 0 cY] 24)) from (bt (alloc_later _ _) (alloc_later _ _)))).c1
    go_wp2_with fail
    refine Calls.mono HH.out ?_
    rintro e U9 ⟨nO, vO, zO, vL, zL, rfl, oO, oL, wO, wL, tO, tL, lO, lL, ngO, hq, hr, hb2⟩
    clear iB0 iB1 iBb iB2 iB3 iD0 iD1 iDb iD2 iD3
    have hb3 := bt (show Below U8.heap.size U8 ((U8.alloc (.cells #[.bool nV, .slice aV zV.length cV] 24)).alloc (.cells #[.bool false, .slice aY 0 cY] 24)) from (bt (alloc_later _ _) (alloc_later _ _))) hb2
    replace vA := vA.later hb3
    replace vB := vB.later hb3
    replace vD := vD.later hb3
    have vV : Vr U9 U8.heap.size nV aV cV zV := Vr.new sV (bt (alloc_later _ _) hb2)
    clear sV
    have vYx := Vr.new (n := false) (sY.later (alloc_later U8 (.cells #[.bool nV, .slice aV zV.length cV] 24))) hb2
    have vY : Vr U9 (U8.heap.size + 1) false aY cY ([] : List Int) := by rw [show (U8.alloc (.cells #[.bool nV, .slice aV zV.length cV] 24)).heap.size = U8.heap.size + 1 by simp] at vYx; exact vYx
    clear vYx
    clear sY
    replace hb := bt hb hb3
    clear hb2 hb3 HH
    obtain ⟨aO, cO, hs⟩ := own_slice' oO
    subst hs
    obtain ⟨aL, cL, hs⟩ := own_slice' oL
    subst hs
    have sO := Sl.own oO wO
    have sL := Sl.own oL wL
    clear oO oL
    have kO := wchk_good lO tO ngO
    rw [HVD.out] at hq hr
    obtain ⟨hn, he⟩ := rest_gone nB wL tL HGL.out.1 (show gcdI (val xA) (val xB) ∣ val xB from Int.gcd_dvd_right ..) hq (by rw [gcd_abs] at hr; exact hr)
    subst hn
    have HEO := hid he
    clear hq hr he tO tL ngO lL
    have h1g : gcdI (val zV) (val zO) = 1 := gcd_ones HGL.out.1 (abs_prod wA wV HGL.out.1 HEV.out) (abs_prod wB wO HGL.out.1 HEO.out)
    have HH := hid (wgcd_any nV _ zV nO _ zO _ (vV.sl.later (show Below U9.heap.size U9 ((U9.alloc (.cells #[.bool nO, .slice aO zO.length cO] 24)).alloc (.cells #[.bool false, .slice aL 0 cL] 24)) from (bt (alloc_later _ _) (alloc_later _ _)))) (sO.later (show Below U9.heap.size U9 ((U9.alloc (.cells #[.bool nO, .slice aO zO.length cO] 24)).alloc (.cells #[.bool false, .slice aL 0 cL] 24)) from (bt (alloc_later _ _) (alloc_later _ _)))) kV kO)
    rw [h1g] at HH
    have iV0 := vV.c0
    have iV1 := vV.c1
    have iVb := vV.box.lt
    have iV2 := (vV.later (show Below U9.heap.size U9 ((U9.alloc (.cells #[.bool nO, .slice aO zO.length cO] 24)).alloc (.cells #[.bool false, .slice aL 0 cL] 24)) from (bt (alloc_later _ _) (alloc_later _ _)))).c0
    have iV3 := (vV.later (show Below U9.heap.size U9 ((U9.alloc (.cells #[.bool nO, .slice aO zO.length cO] 24)).alloc (.cells #[.bool false, .slice aL 0 cL] 24)) from (bt (alloc_later _ _) (alloc_later _ _)))).c1
    go_wp2_with fail
    refine Calls.mono HH.out ?_
    rintro e U10 ⟨nI, vI, zI, ccI, rfl, oI, wtI, hb2⟩
    clear iV0 iV1 iVb iV2 iV3
    have hb3 := bt (show Below U9.heap.size U9 ((U9.alloc (.cells #[.bool nO, .slice aO zO.length cO] 24)).alloc (.cells #[.bool false, .slice aL 0 cL] 24)) from (bt (alloc_later _ _) (alloc_later _ _))) hb2
    replace vA := vA.later hb3
    replace vB := vB.later hb3
    replace vD := vD.later hb3
    replace vV := vV.later hb3
    replace vY := vY.later hb3
    have vO : Vr U10 U9.heap.size nO aO cO zO := Vr.new sO (bt (alloc_later _ _) hb2)
    clear sO
    have vLx := Vr.new (n := false) (sL.later (alloc_later U9 (.cells #[.bool nO, .slice aO zO.length cO] 24))) hb2
    have vL : Vr U10 (U9.heap.size + 1) false aL cL ([] : List Int) := by rw [show (U9.alloc (.cells #[.bool nO, .slice aO zO.length cO] 24)).heap.size = U9.heap.size + 1 by simp] at vLx; exact vLx
    clear vLx
    clear sL
    replace hb := bt hb hb3
    clear hb2 hb3 HH
    obtain ⟨rfl, hvI⟩ := wtI.num (by omega) (by omega)
    obtain ⟨aI, cI, hs⟩ := own_slice' oI
    subst hs
    have sI := Sl.own oI wtI.wd
    have hI : i64of nI zI = (1, true) := by have e := i64of_yes (n := nI) (xs := zI) ⟨wchk_good wtI.len wtI.trim wtI.sign, by omega, by omega⟩; rw [hvI] at e; exact e
    have lI := wtI.len
    clear oI wtI hvI h1g
    have HH := hid (lawIs_any nI _ zI 1 _ (sI.later (show Below U10.heap.size U10 (U10.alloc (.cells #[.bool nI, .slice aI zI.length cI] 24)) from (alloc_later _ _))) (by omega))
    rw [decide_eq_true hI] at HH
    clear hI
    have iY0 := vY.c0
    have iY1 := vY.c1
    have iYb := vY.box.lt
    have iY2 := (vY.later (show Below U10.heap.size U10 (U10.alloc (.cells #[.bool nI, .slice aI zI.length cI] 24)) from (alloc_later _ _))).c0
    have iY3 := (vY.later (show Below U10.heap.size U10 (U10.alloc (.cells #[.bool nI, .slice aI zI.length cI] 24)) from (alloc_later _ _))).c1
    have iL0 := vL.c0
    have iL1 := vL.c1
    have iLb := vL.box.lt
    have iL2 := (vL.later (show Below U10.heap.size U10 (U10.alloc (.cells #[.bool nI, .slice aI zI.length cI] 24)) from (alloc_later _ _))).c0
    have iL3 := (vL.later (show Below U10.heap.size U10 (U10.alloc (.cells #[.bool nI, .slice aI zI.length cI] 24)) from (alloc_later _ _))).c1
    go_wp2_with fail
    refine Calls.mono HH.out ?_
    rintro e U11 ⟨rfl, hb2⟩
    clear iY0 iY1 iYb iY2 iY3 iL0 iL1 iLb iL2 iL3
    have hb3 := bt (show Below U10.heap.size U10 (U10.alloc (.cells #[.bool nI, .slice aI zI.length cI] 24)) from (alloc_later _ _)) hb2
    replace vA := vA.later hb3
    replace vB := vB.later hb3
    replace vD := vD.later hb3
    replace vV := vV.later hb3
    replace vY := vY.later hb3
    replace vO := vO.later hb3
    replace vL := vL.later hb3
    have vI : Vr U11 U10.heap.size nI aI cI zI := Vr.new sI hb2
    clear sI
    replace hb := bt hb hb3
    clear hb2 hb3 HH
    go_wp2_with fail
    go_ret
    exact ⟨rfl, hb⟩
end Go.Proofs.Ytbcangblmadnpac
