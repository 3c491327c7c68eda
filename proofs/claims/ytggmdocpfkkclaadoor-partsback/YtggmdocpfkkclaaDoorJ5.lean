/- My texts on the way to PartsBack, one behind the other: contracts of the program and of the document's answers. -/
import Derived.Test.YtggmdocpfkkclaaDoorJ1
import Derived.Test.YtggmdocpfkkclaaDoorJ4
/- PartsBack: exactly, and back. -/
namespace Go.Proofs.YtggmdocpfkkclaaDoor
open Go.RowKit
set_option linter.unusedVariables false

theorem small_len {k : Nat} (h : decide (k ≤ 40 ∨ 2048 < k ∧ k < 2057) = true) (g : k ≤ 2048) : k ≤ 40 := by
  have := of_decide_eq_true h
  omega
theorem smallB_len {k l : Nat} (h : smallB k l = true) (g1 : k ≤ 2048) (g2 : l ≤ 2048) : k ≤ 40 ∧ l ≤ 40 := by
  unfold smallB at h
  rw [Bool.and_eq_true] at h
  exact ⟨small_len h.1 g1, small_len h.2 g2⟩

set_option maxHeartbeats 3200000 in
set_option maxRecDepth 100000 in
theorem partsBack_any (p q : Nat) (hp : p < 18446744073709551616) (hq : q < 18446744073709551616) (n : Bool) (a : Option Addr) (ca : Nat) (xs : List Int) (b : Option Addr) (cb : Nat) (ys : List Int) (m : Bool) (c : Option Addr) (cc : Nat) (us : List Int) (d : Option Addr) (cd : Nat) (vs : List Int) (w : World) (sx : Sl w (.slice a xs.length ca) xs) (sy : Sl w (.slice b ys.length cb) ys) (su : Sl w (.slice c us.length cc) us) (sw : Sl w (.slice d vs.length cd) vs) (hT : TabB w) :
    Calls Tryd.prog 3 #[.agg #[.int .u64 (p : Int), .int .u64 (q : Int)], .agg #[.bool n, .slice a xs.length ca, .slice b ys.length cb, .bool m, .slice c us.length cc, .slice d vs.length cd]] w fun e w' => e = .returned (.bool true) ∧ Below w.heap.size w w' := by
  obtain ⟨X, hX⟩ : ∃ X, (w.alloc (.cells #[.int .u64 (p : Int), .int .u64 (q : Int)] 24)).alloc (.cells #[.bool n, .slice a xs.length ca, .slice b ys.length cb, .bool m, .slice c us.length cc, .slice d vs.length cd] 29) = X := ⟨_, rfl⟩
  have b1 : Below w.heap.size w X := by rw [← hX]; exact bt (alloc_later _ _) (alloc_later _ _)
  have HP : Hid (Box X w.heap.size 24 #[.int .u64 (p : Int), .int .u64 (q : Int)]) := by rw [← hX]; exact (Box.made w _ _).later (alloc_later _ _) (Box.made w _ _).lt
  have HQ : Hid (Box X (w.heap.size + 1) 29 #[.bool n, .slice a xs.length ca, .slice b ys.length cb, .bool m, .slice c us.length cc, .slice d vs.length cd]) := by
    have h := Box.made (w.alloc (.cells #[.int .u64 (p : Int), .int .u64 (q : Int)] 24)) 29 #[.bool n, .slice a xs.length ca, .slice b ys.length cb, .bool m, .slice c us.length cc, .slice d vs.length cd]
    rw [show (w.alloc (.cells #[.int .u64 (p : Int), .int .u64 (q : Int)] 24)).heap.size = w.heap.size + 1 by simp, hX] at h
    exact h
  have HAW := hid (pawake_any X (hT.later b1))
  have HB1 := hid b1
  have HT1 := hid (hT.later b1)
  have HSL := hid (And.intro (sx.later b1) (And.intro (sy.later b1) (And.intro (su.later b1) (sw.later b1))))
  have HZ := hid (fun V => lawZ_any p q V)
  have HFF := hid (fun V => zpFinite_any p q V hp hq)
  have HCP : Hid (∀ V, Below X.heap.size X V → V.cell? ⟨w.heap.size, 0, none⟩ = some (.int .u64 (p : Int)) ∧ V.cell? ⟨w.heap.size, 1, none⟩ = some (.int .u64 (q : Int))) := fun V hv => by
    have h := HP.out.later hv HP.out.lt
    exact ⟨h.cell 0, h.cell 1⟩
  have HCL : Hid (∀ V, Below X.heap.size X V → V.cell? ⟨w.heap.size + 1, 0, none⟩ = some (.bool n) ∧ V.cell? ⟨w.heap.size + 1, 1, none⟩ = some (.slice a xs.length ca) ∧ V.cell? ⟨w.heap.size + 1, 2, none⟩ = some (.slice b ys.length cb) ∧ V.cell? ⟨w.heap.size + 1, 3, none⟩ = some (.bool m) ∧ V.cell? ⟨w.heap.size + 1, 4, none⟩ = some (.slice c us.length cc) ∧ V.cell? ⟨w.heap.size + 1, 5, none⟩ = some (.slice d vs.length cd)) := fun V hv => by
    have h := HQ.out.later hv HQ.out.lt
    exact ⟨h.cell 0, h.cell 1, h.cell 2, h.cell 3, h.cell 4, h.cell 5⟩
  have HS1 := hid (fun V => lSmall_any n a xs.length ca b ys.length cb V)
  have HS2 := hid (fun V => lSmall_any m c us.length cc d vs.length cd V)
  obtain ⟨sm1, hsm1⟩ : ∃ s, smallB xs.length ys.length = s := ⟨_, rfl⟩
  obtain ⟨sm2, hsm2⟩ : ∃ s, smallB us.length vs.length = s := ⟨_, rfl⟩
  rw [hsm1] at HS1
  rw [hsm2] at HS2
  have HSM := hid (And.intro hsm1 hsm2)
  have HNA : Hid (∀ V, Below X.heap.size X V → Calls Tryd.prog 9 #[.agg #[.bool n, .slice a xs.length ca, .slice b ys.length cb, .bool m, .slice c us.length cc, .slice d vs.length cd]] V fun e w' => ∃ p q code, e = .returned (.tuple #[.complex .f64 p q, .int .i64 code]) ∧ Hid (PNT n xs ys m us vs p q code) ∧ Below V.heap.size V w') := fun V hv => pnearest_any n a ca xs b cb ys m c cc us d cd vs V (HSL.out.1.later hv) (HSL.out.2.1.later hv) (HSL.out.2.2.1.later hv) (HSL.out.2.2.2.later hv)
  have HN1 : Hid (∀ x V, Below X.heap.size X V → NrT n xs ys x 0 → sm1 = true → Calls Tryd.prog 12 #[.float .f64 x, .agg #[.bool n, .slice a xs.length ca, .slice b ys.length cb]] V fun e w' => e = .returned (.bool true) ∧ Below V.heap.size V w') := fun x V hv hn hs => by
    have hk := rchk_ok (nr_sv hn rfl).1
    have hl := smallB_len (HSM.out.1.trans hs) hk.1 hk.2.1
    exact nearest7_yes x n a ca xs b cb ys V (HT1.out.later hv) (HSL.out.1.later hv) (HSL.out.2.1.later hv) hn hl.1 hl.2
  have HN2 : Hid (∀ x V, Below X.heap.size X V → NrT m us vs x 0 → sm2 = true → Calls Tryd.prog 12 #[.float .f64 x, .agg #[.bool m, .slice c us.length cc, .slice d vs.length cd]] V fun e w' => e = .returned (.bool true) ∧ Below V.heap.size V w') := fun x V hv hn hs => by
    have hk := rchk_ok (nr_sv hn rfl).1
    have hl := smallB_len (HSM.out.2.trans hs) hk.1 hk.2.1
    exact nearest7_yes x m c cc us d cd vs V (HT1.out.later hv) (HSL.out.2.2.1.later hv) (HSL.out.2.2.2.later hv) hn hl.1 hl.2
  have q00 : (FloatKind.f64.format.order 0 0 == some .eq) = true := by decide
  clear sx sy su sw b1 hT hsm1 hsm2 HP HQ
  go_enter Tryd.func3, Tryd.ntmps3
  go_wp2_with fail
  clear hX
  refine Calls.mono HAW.out ?_
  rintro e w1 ⟨rfl, b2⟩
  have HX1 := hid b2
  obtain ⟨e0, e1⟩ := HCP.out w1 b2
  clear HAW b2
  go_wp2_with fail
  refine Calls.mono (HZ.out _) ?_
  rintro e w2 ⟨rfl, b3⟩
  have HX2 := hid (bt HX1.out b3)
  clear HZ b3 HX1 e0 e1
  by_cases hf : (fin p && fin q) = true
  · obtain ⟨f1, f2⟩ := Bool.and_eq_true_iff.1 hf
    have g1 := (fi_fin hp).1 f1
    have g2 := (fi_fin hq).1 f2
    have HE := hid (pexact_fin p q w2 g1 g2 (HT1.out.later HX2.out))
    rw [hf] at HFF
    have HGG := hid (And.intro g1 g2)
    clear hf f1 f2 g1 g2 hp hq
    go_wp2_with fail
    refine Calls.mono HE.out ?_
    rintro e w3 ⟨s, a2, ca2, b2, cb2, zs, ds, t, a3, ca3, b3, cb3, zs', ds', rfl, s1, s2, s3, s4, he1, he2, b4⟩
    obtain ⟨Y, hYY⟩ : ∃ Y, w3.alloc (.cells #[.bool s, .slice a2 zs.length ca2, .slice b2 ds.length cb2, .bool t, .slice a3 zs'.length ca3, .slice b3 ds'.length cb3] 29) = Y := ⟨_, rfl⟩
    have b5 : Below w3.heap.size w3 Y := by rw [← hYY]; exact alloc_later _ _
    have hBY : Box Y w3.heap.size 29 #[.bool s, .slice a2 zs.length ca2, .slice b2 ds.length cb2, .bool t, .slice a3 zs'.length ca3, .slice b3 ds'.length cb3] := by rw [← hYY]; exact Box.made w3 _ _
    have HXY := hid (bt HX2.out (bt b4 b5))
    have HNY := hid (pnearest_any s a2 ca2 zs b2 cb2 ds t a3 ca3 zs' b3 cb3 ds' Y (s1.later b5) (s2.later b5) (s3.later b5) (s4.later b5))
    have y0 : Y.cell? ⟨w3.heap.size, 0, none⟩ = some (.bool s) := hBY.cell 0
    have y1 : Y.cell? ⟨w3.heap.size, 1, none⟩ = some (.slice a2 zs.length ca2) := hBY.cell 1
    have y2 : Y.cell? ⟨w3.heap.size, 2, none⟩ = some (.slice b2 ds.length cb2) := hBY.cell 2
    have y3 : Y.cell? ⟨w3.heap.size, 3, none⟩ = some (.bool t) := hBY.cell 3
    have y4 : Y.cell? ⟨w3.heap.size, 4, none⟩ = some (.slice a3 zs'.length ca3) := hBY.cell 4
    have y5 : Y.cell? ⟨w3.heap.size, 5, none⟩ = some (.slice b3 ds'.length cb3) := hBY.cell 5
    have HHE := hid (And.intro he1 he2)
    clear HE s1 s2 s3 s4 he1 he2 b4 b5 hBY HX2
    go_wp2_with fail
    clear hYY
    refine Calls.mono (HFF.out _) ?_
    rintro e w4 ⟨rfl, hw4⟩
    rw [hw4]
    clear hw4 w4 HFF
    go_wp2_with fail
    refine Calls.mono HNY.out ?_
    rintro e w5 ⟨bp, bq, code, rfl, hpn, b6⟩
    have HE5 : Hid (code = 0 ∧ (Fi bp ∧ sv bp = sv p) ∧ (Fi bq ∧ sv bq = sv q)) := by
      rcases hpn with ⟨h0, h1, h2⟩ | ⟨h0, _, _, h | ⟨x, c, hc, hn⟩ | ⟨x, c, hc, hn⟩⟩
      · have k1 := pnr_of_ext HGG.out.1 HHE.out.1 h1
        have k2 := pnr_of_ext HGG.out.2 HHE.out.2 h2
        exact ⟨h0, k1.2, k2.2⟩
      · exfalso
        apply h
        unfold gchk fstE
        rw [HHE.out.1.1, HHE.out.2.1]
        rfl
      · exact absurd (pnr_of_ext HGG.out.1 HHE.out.1 hn).1 hc
      · exact absurd (pnr_of_ext HGG.out.2 HHE.out.2 hn).1 hc
    obtain ⟨hc0, ⟨k1, k2⟩, k3, k4⟩ := HE5.out
    subst hc0
    have HEQ := hid (fun V => zpEqual_any bp bq p q V)
    have f1 : feq bp p = true := by unfold feq; rw [ord_eq k1 HGG.out.1]; exact decide_eq_true k2
    have f2 : feq bq q = true := by unfold feq; rw [ord_eq k3 HGG.out.2]; exact decide_eq_true k4
    rw [f1, f2, Bool.true_and] at HEQ
    have HX5 := hid (bt HXY.out b6)
    clear HNY hpn b6 HE5 k1 k2 k3 k4 f1 f2 y0 y1 y2 y3 y4 y5 HXY HHE HGG
    go_wp2_with fail
    refine Calls.mono (HEQ.out _) ?_
    rintro e w6 ⟨rfl, hw6⟩
    rw [hw6]
    clear hw6 w6 HEQ
    obtain ⟨e0, e1, e2, e3, e4, e5⟩ := HCL.out _ HX5.out
    have HSa := hid (HS1.out)
    go_wp2_with fail
    refine Calls.mono (HSa.out _) ?_
    rintro e wA ⟨rfl, bA⟩
    have HXA := hid (bt HX5.out bA)
    clear HSa HS1 bA e0 e1 e2 e3 e4 e5
    obtain ⟨e0, e1, e2, e3, e4, e5⟩ := HCL.out _ HXA.out
    cases hs1 : sm1
    · subst hs1
      go_wp2_with fail
      go_ret
      exact ⟨rfl, bt HB1.out HXA.out⟩
    · subst hs1
      go_wp2_with fail
      refine Calls.mono (HS2.out _) ?_
      rintro e wB ⟨rfl, bB⟩
      have HXB := hid (bt HXA.out bB)
      clear HS2 bB e0 e1 e2 e3 e4 e5
      obtain ⟨e0, e1, e2, e3, e4, e5⟩ := HCL.out _ HXB.out
      cases hs2 : sm2
      · subst hs2
        go_wp2_with fail
        go_ret
        exact ⟨rfl, bt HB1.out HXB.out⟩
      · subst hs2
        have HNc := hid (HNA.out _ HXB.out)
        go_wp2_with fail
        refine Calls.mono HNc.out ?_
        rintro e wC ⟨p', q', code, rfl, HPN, bC⟩
        have HXC := hid (bt HXB.out bC)
        clear HNc HNA bC e0 e1 e2 e3 e4 e5
        rcases HPN.out with ⟨h0, hn1, hn2⟩ | ⟨h0, h1, h2, _⟩
        · subst h0
          have HNd := hid (HN1.out p' wC HXC.out hn1 (by simp))
          have HNe := hid (fun V hv => HN2.out q' V hv hn2 (by simp))
          obtain ⟨e0, e1, e2, e3, e4, e5⟩ := HCL.out _ HXC.out
          clear hn1 hn2 HPN HN1 HN2
          go_wp2_with fail
          refine Calls.mono HNd.out ?_
          rintro e wD ⟨rfl, bD⟩
          have HXD := hid (bt HXC.out bD)
          have HNf := hid (HNe.out wD HXD.out)
          clear HNd HNe bD e0 e1 e2 e3 e4 e5
          obtain ⟨e0, e1, e2, e3, e4, e5⟩ := HCL.out _ HXD.out
          go_wp2_with fail
          refine Calls.mono HNf.out ?_
          rintro e wE ⟨rfl, bE⟩
          have HFI := hid (bt HB1.out (bt HXD.out bE))
          clear HNf bE
          go_wp2_with fail
          go_ret
          exact ⟨rfl, HFI.out⟩
        · have h0' : (code == 0) = false := by simp [h0]
          subst h1
          subst h2
          clear h0 HPN HN1 HN2
          go_wp2_with fail
          go_ret
          exact ⟨rfl, bt HB1.out HXC.out⟩
  · have hf' : (fin p && fin q) = false := by cases h : (fin p && fin q) <;> simp_all
    have HE := hid (pexact_bad p q w2 hp hq (HT1.out.later HX2.out) hf')
    rw [hf'] at HFF
    clear hf hf' hp hq
    go_wp2_with fail
    refine Calls.mono HE.out ?_
    rintro e w3 ⟨rfl, b4⟩
    obtain ⟨Y, hYY⟩ : ∃ Y, w3.alloc (.cells #[.bool false, .slice none 0 0, .slice none 0 0, .bool false, .slice none 0 0, .slice none 0 0] 29) = Y := ⟨_, rfl⟩
    have b5 : Below w3.heap.size w3 Y := by rw [← hYY]; exact alloc_later _ _
    have hBY : Box Y w3.heap.size 29 #[.bool false, .slice none 0 0, .slice none 0 0, .bool false, .slice none 0 0, .slice none 0 0] := by rw [← hYY]; exact Box.made w3 _ _
    obtain ⟨⟨s0, s1, s2, s3, s4, s5⟩, ⟨t0, t1, t2, t3, t4, t5⟩, v0, v1, v2, v3, v4, v5⟩ := zero_box6 hBY
    have HX5 := hid (bt HX2.out (bt b4 b5))
    clear HE b4 b5 hBY HX2
    go_wp2_with fail
    refine Calls.mono (HFF.out _) ?_
    rintro e w4 ⟨rfl, hw4⟩
    rw [hw4]
    clear hw4 w4 HFF
    obtain ⟨e0, e1, e2, e3, e4, e5⟩ := HCL.out _ HX5.out
    have HSa := hid (HS1.out)
    go_wp2_with fail
    refine Calls.mono (HSa.out _) ?_
    rintro e wA ⟨rfl, bA⟩
    have HXA := hid (bt HX5.out bA)
    clear HSa HS1 bA e0 e1 e2 e3 e4 e5
    obtain ⟨e0, e1, e2, e3, e4, e5⟩ := HCL.out _ HXA.out
    cases hs1 : sm1
    · subst hs1
      go_wp2_with fail
      go_ret
      exact ⟨rfl, bt HB1.out HXA.out⟩
    · subst hs1
      go_wp2_with fail
      refine Calls.mono (HS2.out _) ?_
      rintro e wB ⟨rfl, bB⟩
      have HXB := hid (bt HXA.out bB)
      clear HS2 bB e0 e1 e2 e3 e4 e5
      obtain ⟨e0, e1, e2, e3, e4, e5⟩ := HCL.out _ HXB.out
      cases hs2 : sm2
      · subst hs2
        go_wp2_with fail
        go_ret
        exact ⟨rfl, bt HB1.out HXB.out⟩
      · subst hs2
        have HNc := hid (HNA.out _ HXB.out)
        go_wp2_with fail
        refine Calls.mono HNc.out ?_
        rintro e wC ⟨p', q', code, rfl, HPN, bC⟩
        have HXC := hid (bt HXB.out bC)
        clear HNc HNA bC e0 e1 e2 e3 e4 e5
        rcases HPN.out with ⟨h0, hn1, hn2⟩ | ⟨h0, h1, h2, _⟩
        · subst h0
          have HNd := hid (HN1.out p' wC HXC.out hn1 (by simp))
          have HNe := hid (fun V hv => HN2.out q' V hv hn2 (by simp))
          obtain ⟨e0, e1, e2, e3, e4, e5⟩ := HCL.out _ HXC.out
          clear hn1 hn2 HPN HN1 HN2
          go_wp2_with fail
          refine Calls.mono HNd.out ?_
          rintro e wD ⟨rfl, bD⟩
          have HXD := hid (bt HXC.out bD)
          have HNf := hid (HNe.out wD HXD.out)
          clear HNd HNe bD e0 e1 e2 e3 e4 e5
          obtain ⟨e0, e1, e2, e3, e4, e5⟩ := HCL.out _ HXD.out
          go_wp2_with fail
          refine Calls.mono HNf.out ?_
          rintro e wE ⟨rfl, bE⟩
          have HFI := hid (bt HB1.out (bt HXD.out bE))
          clear HNf bE
          go_wp2_with fail
          go_ret
          exact ⟨rfl, HFI.out⟩
        · have h0' : (code == 0) = false := by simp [h0]
          subst h1
          subst h2
          clear h0 HPN HN1 HN2
          go_wp2_with fail
          go_ret
          exact ⟨rfl, bt HB1.out HXC.out⟩
theorem psl_of {w : World} {a : Option Addr} {c : Nat} {xs : List Int} (h : Reads w w.heap.size a xs.length c xs) : Sl w (.slice a xs.length c) xs := ⟨a, c, rfl, h⟩
theorem partsBack_in (P Q : Int) (p0 : 0 ≤ P) (p1 : P ≤ 18446744073709551615) (q0 : 0 ≤ Q) (q1 : Q ≤ 18446744073709551615) (n : Bool) (a : Option Addr) (ka ca : Nat) (xs : List Int) (b : Option Addr) (kb cb : Nat) (ys : List Int) (m : Bool) (c : Option Addr) (kc cc : Nat) (us : List Int) (d : Option Addr) (kd cd : Nat) (vs : List Int) (w : World) (ha : Reads w w.heap.size a ka ca xs) (hb : Reads w w.heap.size b kb cb ys) (hc : Reads w w.heap.size c kc cc us) (hd : Reads w w.heap.size d kd cd vs) (hT : TabB w) :
    Calls Tryd.prog 3 #[.agg #[.int .u64 P, .int .u64 Q], .agg #[.bool n, .slice a ka ca, .slice b kb cb, .bool m, .slice c kc cc, .slice d kd cd]] w fun e w' => e = .returned (.bool true) ∧ Below w.heap.size w w' := by
  obtain ⟨p, rfl⟩ := Int.eq_ofNat_of_zero_le p0
  obtain ⟨q, rfl⟩ := Int.eq_ofNat_of_zero_le q0
  have ea := ha.1
  subst ea
  have eb := hb.1
  subst eb
  have ec := hc.1
  subst ec
  have ed := hd.1
  subst ed
  exact partsBack_any p q (by omega) (by omega) n a ca xs b cb ys m c cc us d cd vs w (psl_of ha) (psl_of hb) (psl_of hc) (psl_of hd) hT

end Go.Proofs.YtggmdocpfkkclaaDoor

