/- My texts on the way to TideBack, one behind the other: contracts of the program and of the document's answers. -/
import Derived.Test.YtiaebiaeolaocaaGreatDoorJ1
import Derived.Test.YtiaebiaeolaocaaGreatDoorJ3
import Derived.Test.YtiaebiaeolaocaaGreatDoorJ6
import Derived.Deep.Cut
/- TideBack: of every constituent, fraction and text: there and back. -/
namespace Go.Proofs.YtiaebiaeolaocaaGreatDoor
open Go.RowKit
set_option linter.unusedVariables false
set_option linter.unusedSimpArgs false

theorem zk11f : rchk false [1] [1] = 0 := rchk_good (by simp) (by simp) rfl rfl (by simp) (.inl rfl) (by decide)
theorem zover {q : Rat} (h : q ≠ 0) (x : Rat) : 1 / q * (q * x) = x := by
  rw [← Rat.mul_assoc, Rat.div_def, Rat.one_mul, Rat.inv_mul_cancel _ h, Rat.one_mul]

set_option maxHeartbeats 12800000 in
set_option maxRecDepth 100000 in
theorem tideBack_walk (s0 : ByteArray) (f r : Int) (n : Bool) (a : Option Addr) (ca : Nat) (xs : List Int) (b : Option Addr) (cb : Nat) (ys : List Int) (m : Bool) (c : Option Addr) (cc : Nat) (us : List Int) (d : Option Addr) (cd : Nat) (vs : List Int) (h : Bool) (e : Option Addr) (ce : Nat) (rs : List Int) (p : Option Addr) (cp : Nat) (ts : List Int) (t0 : ByteArray) (w : World) (hz : s0.size ≤ 9223372036854775807) (hr : in32 f r) (ht0 : t0.size ≤ 9223372036854775807) (sx : Sl w (.slice a xs.length ca) xs) (sy : Sl w (.slice b ys.length cb) ys) (su : Sl w (.slice c us.length cc) us) (sv : Sl w (.slice d vs.length cd) vs) (sr : Sl w (.slice e rs.length ce) rs) (st : Sl w (.slice p ts.length cp) ts) (htab : Tab w) (herr : ErrT w) :
    Calls Tryz.prog 3 #[.agg #[.string s0, .int .i32 f, .int .i32 r, .bool n, .slice a xs.length ca, .slice b ys.length cb, .bool m, .slice c us.length cc, .slice d vs.length cd], .agg #[.bool h, .slice e rs.length ce, .slice p ts.length cp], .string t0] w fun x w' => x = .returned (.bool true) ∧ Below w.heap.size w w' := by
  have HX := hid (boxes2m w 30 26 #[.string s0, .int .i32 f, .int .i32 r, .bool n, .slice a xs.length ca, .slice b ys.length cb, .bool m, .slice c us.length cc, .slice d vs.length cd] #[.bool h, .slice e rs.length ce, .slice p ts.length cp])
  obtain ⟨X, hX⟩ : ∃ X, (w.alloc (.cells #[.string s0, .int .i32 f, .int .i32 r, .bool n, .slice a xs.length ca, .slice b ys.length cb, .bool m, .slice c us.length cc, .slice d vs.length cd] 30)).alloc (.cells #[.bool h, .slice e rs.length ce, .slice p ts.length cp] 26) = X := ⟨_, rfl⟩
  rw [hX] at HX
  have HB0 := hid HX.out.2.2
  have HA0 := hid HX.out.1
  have HR0 := hid HX.out.2.1
  have SA0 := hid (And.intro (sx.later HB0.out) (And.intro (sy.later HB0.out) (And.intro (su.later HB0.out) (sv.later HB0.out))))
  have SR0 := hid (And.intro (sr.later HB0.out) (st.later HB0.out))
  have HTAB : Hid (∀ V, Below w.heap.size w V → Tab V) := fun V hv => htab.later hv
  have HERR : Hid (∀ V, Below w.heap.size w V → ErrT V) := fun V hv => herr.later hv
  have HZ0 := hid hz
  have HIN := hid hr
  have HAW := hid (tawake_any X (htab.later HB0.out) (herr.later HB0.out))
  clear HX sx sy su sv sr st htab herr hr hz
  go_enter Tryz.func3, Tryz.ntmps3
  go_wp2_with fail
  refine Calls.mono (HAW.out) ?_
  rintro x w1 ⟨rfl, hbw⟩
  have HW1 := hid (bt HB0.out hbw)
  have HA1 := hid (HA0.out.later hbw HA0.out.lt)
  have HR1 := hid (HR0.out.later hbw HR0.out.lt)
  have SA1 := hid (And.intro (SA0.out.1.later hbw) (And.intro (SA0.out.2.1.later hbw) (And.intro (SA0.out.2.2.1.later hbw) (SA0.out.2.2.2.later hbw))))
  have SR1 := hid (And.intro (SR0.out.1.later hbw) (SR0.out.2.later hbw))
  clear HB0 HA0 HR0 SA0 SR0
  clear hbw HAW
  have HT0 : Hid ((t0.extract 0 2000).size ≤ 2000) := by show _ ≤ _; rw [ByteArray.size_extract]; omega
  go_upto_if 33 with fail
  go_cut [2] from 34 (fun sv wx => Hid (∃ t : ByteArray, sv = .string t ∧ t.size ≤ 2000 ∧ wx = w1))
  case first =>
    by_cases hlong : 2000 < (t0.size : Int)
    · go_wp2_with fail
      go_meet
      exact ⟨_, rfl, HT0.out, rfl⟩
    · have hle : t0.size ≤ 2000 := by omega
      have HLE := hid hle
      clear hle
      go_wp2_with fail
      go_meet
      exact ⟨t0, rfl, HLE.out, rfl⟩
  case rest =>
    obtain ⟨t, e1, ht, e2⟩ := hcut.out
    subst e1
    subst wc
    clear hcut HT0
    have HPB := hid (tparse_both t w1 ht (HTAB.out _ HW1.out) (HERR.out _ HW1.out))
    go_wp2_with fail
    refine Calls.mono (HPB.out) ?_
    rintro x w2 ⟨S, F, R, n0, a0, ca0, xs0, b0, cb0, ys0, m0, c0, cc0, us0, d0, cd0, vs0, code, rfl, hs0, hk0, hb2⟩
    have HW2 := hid (bt HW1.out hb2.out)
    have HA2 := hid (HA1.out.later hb2.out HA1.out.lt)
    have HR2 := hid (HR1.out.later hb2.out HR1.out.lt)
    have SA2 := hid (And.intro (SA1.out.1.later hb2.out) (And.intro (SA1.out.2.1.later hb2.out) (And.intro (SA1.out.2.2.1.later hb2.out) (SA1.out.2.2.2.later hb2.out))))
    have SR2 := hid (And.intro (SR1.out.1.later hb2.out) (SR1.out.2.later hb2.out))
    clear HW1 HA1 HR1 SA1 SR1
    have SX := hs0
    clear hb2 HPB
    have GX := hid (Box.made w2 30 #[.string S, .int .i32 F, .int .i32 R, .bool n0, .slice a0 xs0.length ca0, .slice b0 ys0.length cb0, .bool m0, .slice c0 us0.length cc0, .slice d0 vs0.length cd0])
    have LX := hid (alloc_later w2 (.cells #[.string S, .int .i32 F, .int .i32 R, .bool n0, .slice a0 xs0.length ca0, .slice b0 ys0.length cb0, .bool m0, .slice c0 us0.length cc0, .slice d0 vs0.length cd0] 30))
    obtain ⟨YX, hYX⟩ : ∃ YX, w2.alloc (.cells #[.string S, .int .i32 F, .int .i32 R, .bool n0, .slice a0 xs0.length ca0, .slice b0 ys0.length cb0, .bool m0, .slice c0 us0.length cc0, .slice d0 vs0.length cd0] 30) = YX := ⟨_, rfl⟩
    rw [hYX] at GX LX
    have HW3 := hid (bt HW2.out LX.out)
    have HA3 := hid (HA2.out.later LX.out HA2.out.lt)
    have HR3 := hid (HR2.out.later LX.out HR2.out.lt)
    have SA3 := hid (And.intro (SA2.out.1.later LX.out) (And.intro (SA2.out.2.1.later LX.out) (And.intro (SA2.out.2.2.1.later LX.out) (SA2.out.2.2.2.later LX.out))))
    have SR3 := hid (And.intro (SR2.out.1.later LX.out) (SR2.out.2.later LX.out))
    have SX3 := hid (And.intro (SX.out.1.later LX.out) (And.intro (SX.out.2.1.later LX.out) (And.intro (SX.out.2.2.1.later LX.out) (SX.out.2.2.2.later LX.out))))
    clear HW2 HA2 HR2 SA2 SR2 SX
    go_upto_if 42 with fail
    go_cut [10, 11] from 43 (fun s10 s11 wx => Hid (Below YX.heap.size YX wx))
    case first =>
      by_cases hc : code = 0
      · obtain ⟨k1_, k2_, k3_, k4_⟩ := hk0.out hc
        subst hc
        have HPX := hid (tprint_good S F R n0 a0 ca0 xs0 b0 cb0 ys0 m0 c0 cc0 us0 d0 cd0 vs0 YX SX3.out.1 SX3.out.2.1 SX3.out.2.2.1 SX3.out.2.2.2 (by omega) k2_ (HTAB.out _ HW3.out) k3_ (by
          have e := congrArg List.length k4_
          have e2 : t.data.toList.length = t.size := Array.length_toList
          unfold ttext at e
          simp only [List.length_append, List.length_cons] at e
          omega) (by
          rw [k4_]
          have e2 : t.data.toList.length = t.size := Array.length_toList
          omega))
        rw [k4_] at HPX
        have HTT : Hid ((⟨t.data.toList.toArray⟩ : ByteArray) = t) := by show _ = _; simp
        rw [HTT.out] at HPX
        have HCX : Hid (∀ V, Below YX.heap.size YX V → _) := fun V hv => tCheck_any S F R n0 a0 ca0 xs0 b0 cb0 ys0 m0 c0 cc0 us0 d0 cd0 vs0 V (by omega) k2_ (SX3.out.1.later hv) (SX3.out.2.1.later hv) (SX3.out.2.2.1.later hv) (SX3.out.2.2.2.later hv)
        rw [k3_] at HCX
        clear k1_ k2_ k3_ k4_
        have X_0 : YX.cell? ⟨w2.heap.size, 0, none⟩ = some (.string S) := GX.out.cell 0
        have X_1 : YX.cell? ⟨w2.heap.size, 1, none⟩ = some (.int .i32 F) := GX.out.cell 1
        have X_2 : YX.cell? ⟨w2.heap.size, 2, none⟩ = some (.int .i32 R) := GX.out.cell 2
        have X_3 : YX.cell? ⟨w2.heap.size, 3, none⟩ = some (.bool n0) := GX.out.cell 3
        have X_4 : YX.cell? ⟨w2.heap.size, 4, none⟩ = some (.slice a0 xs0.length ca0) := GX.out.cell 4
        have X_5 : YX.cell? ⟨w2.heap.size, 5, none⟩ = some (.slice b0 ys0.length cb0) := GX.out.cell 5
        have X_6 : YX.cell? ⟨w2.heap.size, 6, none⟩ = some (.bool m0) := GX.out.cell 6
        have X_7 : YX.cell? ⟨w2.heap.size, 7, none⟩ = some (.slice c0 us0.length cc0) := GX.out.cell 7
        have X_8 : YX.cell? ⟨w2.heap.size, 8, none⟩ = some (.slice d0 vs0.length cd0) := GX.out.cell 8
        go_wp2_with fail
        refine Calls.mono HPX.out ?_
        rintro x w3 ⟨rfl, hb3⟩
        clear X_0 X_1 X_2 X_3 X_4 X_5 X_6 X_7 X_8
        have HX3 := hid (GX.out.later hb3 GX.out.lt)
        have HB3_ := hid hb3
        clear hb3 HPX HTT
        have X_0 : w3.cell? ⟨w2.heap.size, 0, none⟩ = some (.string S) := HX3.out.cell 0
        have X_1 : w3.cell? ⟨w2.heap.size, 1, none⟩ = some (.int .i32 F) := HX3.out.cell 1
        have X_2 : w3.cell? ⟨w2.heap.size, 2, none⟩ = some (.int .i32 R) := HX3.out.cell 2
        have X_3 : w3.cell? ⟨w2.heap.size, 3, none⟩ = some (.bool n0) := HX3.out.cell 3
        have X_4 : w3.cell? ⟨w2.heap.size, 4, none⟩ = some (.slice a0 xs0.length ca0) := HX3.out.cell 4
        have X_5 : w3.cell? ⟨w2.heap.size, 5, none⟩ = some (.slice b0 ys0.length cb0) := HX3.out.cell 5
        have X_6 : w3.cell? ⟨w2.heap.size, 6, none⟩ = some (.bool m0) := HX3.out.cell 6
        have X_7 : w3.cell? ⟨w2.heap.size, 7, none⟩ = some (.slice c0 us0.length cc0) := HX3.out.cell 7
        have X_8 : w3.cell? ⟨w2.heap.size, 8, none⟩ = some (.slice d0 vs0.length cd0) := HX3.out.cell 8
        go_wp2_with fail
        refine Calls.mono (HCX.out w3 HB3_.out) ?_
        rintro x w4 ⟨rfl, hb4⟩
        clear X_0 X_1 X_2 X_3 X_4 X_5 X_6 X_7 X_8
        have HB4_ := hid (bt HB3_.out hb4)
        clear hb4 HCX
        go_wp2_with fail
        go_meet
        exact HB4_
      · have hc1 : (code == 0) = false := by simpa using hc
        go_wp2_with fail
        go_meet
        exact Below.refl _ _
    case rest =>
      have hbc := hid hcut.out
      clear hcut hk0 hs0
      have HW4 := hid (bt HW3.out hbc.out)
      have HA4 := hid (HA3.out.later hbc.out HA3.out.lt)
      have HR4 := hid (HR3.out.later hbc.out HR3.out.lt)
      have SA4 := hid (And.intro (SA3.out.1.later hbc.out) (And.intro (SA3.out.2.1.later hbc.out) (And.intro (SA3.out.2.2.1.later hbc.out) (SA3.out.2.2.2.later hbc.out))))
      have SR4 := hid (And.intro (SR3.out.1.later hbc.out) (SR3.out.2.later hbc.out))
      clear HW3 HA3 HR3 SA3 SR3
      clear hbc
      have A_0 : wc.cell? ⟨w.heap.size, 0, none⟩ = some (.string s0) := HA4.out.cell 0
      have A_1 : wc.cell? ⟨w.heap.size, 1, none⟩ = some (.int .i32 f) := HA4.out.cell 1
      have A_2 : wc.cell? ⟨w.heap.size, 2, none⟩ = some (.int .i32 r) := HA4.out.cell 2
      have A_3 : wc.cell? ⟨w.heap.size, 3, none⟩ = some (.bool n) := HA4.out.cell 3
      have A_4 : wc.cell? ⟨w.heap.size, 4, none⟩ = some (.slice a xs.length ca) := HA4.out.cell 4
      have A_5 : wc.cell? ⟨w.heap.size, 5, none⟩ = some (.slice b ys.length cb) := HA4.out.cell 5
      have A_6 : wc.cell? ⟨w.heap.size, 6, none⟩ = some (.bool m) := HA4.out.cell 6
      have A_7 : wc.cell? ⟨w.heap.size, 7, none⟩ = some (.slice c us.length cc) := HA4.out.cell 7
      have A_8 : wc.cell? ⟨w.heap.size, 8, none⟩ = some (.slice d vs.length cd) := HA4.out.cell 8
      go_wp2_with fail
      refine Calls.mono (tCheck_any s0 f r n a ca xs b cb ys m c cc us d cd vs wc HZ0.out HIN.out SA4.out.1 SA4.out.2.1 SA4.out.2.2.1 SA4.out.2.2.2) ?_
      rintro x u1 ⟨rfl, hb1⟩
      clear A_0 A_1 A_2 A_3 A_4 A_5 A_6 A_7 A_8
      have HW5 := hid (bt HW4.out hb1)
      have HA5 := hid (HA4.out.later hb1 HA4.out.lt)
      have HR5 := hid (HR4.out.later hb1 HR4.out.lt)
      have SA5 := hid (And.intro (SA4.out.1.later hb1) (And.intro (SA4.out.2.1.later hb1) (And.intro (SA4.out.2.2.1.later hb1) (SA4.out.2.2.2.later hb1))))
      have SR5 := hid (And.intro (SR4.out.1.later hb1) (SR4.out.2.later hb1))
      clear HW4 HA4 HR4 SA4 SR4
      clear hb1
      by_cases hTC : tchk s0.data.toList f r (gchk n xs ys m us vs) = 0
      · have HTC := hid hTC
        rw [hTC]
        clear hTC
        have HGK := hid (gchk_ok (tchk_ok HTC.out).2.2)
        have l1 := (rchk_ok HGK.out.1).1
        have l2 := (rchk_ok HGK.out.1).2.1
        have l3 := (rchk_ok HGK.out.2).1
        have l4 := (rchk_ok HGK.out.2).2.1
        have HSMA : Hid (((smallL xs.length 20 && smallL ys.length 20) && (smallL us.length 20 && smallL vs.length 20)) = (decide ((xs.length : Int) ≤ 20) && decide ((ys.length : Int) ≤ 20) && (decide ((us.length : Int) ≤ 20) && decide ((vs.length : Int) ≤ 20)))) := by
          show _ = _
          rw [smallL_short l1, smallL_short l2, smallL_short l3, smallL_short l4]
        clear l1 l2 l3 l4
        have A_0 : u1.cell? ⟨w.heap.size, 0, none⟩ = some (.string s0) := HA5.out.cell 0
        have A_1 : u1.cell? ⟨w.heap.size, 1, none⟩ = some (.int .i32 f) := HA5.out.cell 1
        have A_2 : u1.cell? ⟨w.heap.size, 2, none⟩ = some (.int .i32 r) := HA5.out.cell 2
        have A_3 : u1.cell? ⟨w.heap.size, 3, none⟩ = some (.bool n) := HA5.out.cell 3
        have A_4 : u1.cell? ⟨w.heap.size, 4, none⟩ = some (.slice a xs.length ca) := HA5.out.cell 4
        have A_5 : u1.cell? ⟨w.heap.size, 5, none⟩ = some (.slice b ys.length cb) := HA5.out.cell 5
        have A_6 : u1.cell? ⟨w.heap.size, 6, none⟩ = some (.bool m) := HA5.out.cell 6
        have A_7 : u1.cell? ⟨w.heap.size, 7, none⟩ = some (.slice c us.length cc) := HA5.out.cell 7
        have A_8 : u1.cell? ⟨w.heap.size, 8, none⟩ = some (.slice d vs.length cd) := HA5.out.cell 8
        go_wp2_with fail
        refine Calls.mono (tSmall_any s0 f r n a xs.length ca b ys.length cb m c us.length cc d vs.length cd 20 u1) ?_
        rintro x u2 ⟨rfl, hb2⟩
        clear A_0 A_1 A_2 A_3 A_4 A_5 A_6 A_7 A_8
        have HW6 := hid (bt HW5.out hb2)
        have HA6 := hid (HA5.out.later hb2 HA5.out.lt)
        have HR6 := hid (HR5.out.later hb2 HR5.out.lt)
        have SA6 := hid (And.intro (SA5.out.1.later hb2) (And.intro (SA5.out.2.1.later hb2) (And.intro (SA5.out.2.2.1.later hb2) (SA5.out.2.2.2.later hb2))))
        have SR6 := hid (And.intro (SR5.out.1.later hb2) (SR5.out.2.later hb2))
        clear HW5 HA5 HR5 SA5 SR5
        clear hb2
        rw [HSMA.out]
        by_cases hsm : (decide ((xs.length : Int) ≤ 20) && decide ((ys.length : Int) ≤ 20) && (decide ((us.length : Int) ≤ 20) && decide ((vs.length : Int) ≤ 20))) = true
        · rw [hsm]
          have HLA : Hid (xs.length ≤ 20 ∧ ys.length ≤ 20 ∧ us.length ≤ 20 ∧ vs.length ≤ 20) := by
            simp only [Bool.and_eq_true, decide_eq_true_eq] at hsm
            exact ⟨by omega, by omega, by omega, by omega⟩
          clear hsm HSMA
          have lx20 : ¬ 20 < (xs.length : Int) := by have := HLA.out.1; omega
          have HGT := hid (zgtext_few (n := n) (m := m) SA6.out.1.wd SA6.out.2.1.wd SA6.out.2.2.1.wd SA6.out.2.2.2.wd HLA.out.1 HLA.out.2.1 HLA.out.2.2.1 HLA.out.2.2.2)
          have HTL : Hid ((ttext s0.data.toList f r (gtext n xs ys m us vs)).length ≤ 65536) := by
            have hb := trok_in (trok (tchk_ok HTC.out).2.1)
            have z1 := zitoa_short f hb.1.1 hb.1.2
            have z2 := zitoa_short r hb.2.1 hb.2.2
            have z3 := (tname_ok (tchk_ok HTC.out).1).2
            have z4 := HGT.out
            show (ttext s0.data.toList f r (gtext n xs ys m us vs)).length ≤ 65536
            unfold ttext
            simp only [List.length_append, List.length_cons]
            omega
          have HPA := hid (tprint_good s0 f r n a ca xs b cb ys m c cc us d cd vs u2 SA6.out.1 SA6.out.2.1 SA6.out.2.2.1 SA6.out.2.2.2 HZ0.out HIN.out (HTAB.out _ HW6.out) HTC.out (by have := HGT.out; omega) HTL.out)
          have HRD := hid (fun V hv => tparse_text (nm := s0) (f := f) (r := r) (n := n) (m := m) SA6.out.1.wd SA6.out.2.1.wd SA6.out.2.2.1.wd SA6.out.2.2.2.wd HTC.out HTL.out V (HTAB.out V hv) (HERR.out V hv))
          generalize (⟨(ttext s0.data.toList f r (gtext n xs ys m us vs)).toArray⟩ : ByteArray) = TX at *
          have A_0 : u2.cell? ⟨w.heap.size, 0, none⟩ = some (.string s0) := HA6.out.cell 0
          have A_1 : u2.cell? ⟨w.heap.size, 1, none⟩ = some (.int .i32 f) := HA6.out.cell 1
          have A_2 : u2.cell? ⟨w.heap.size, 2, none⟩ = some (.int .i32 r) := HA6.out.cell 2
          have A_3 : u2.cell? ⟨w.heap.size, 3, none⟩ = some (.bool n) := HA6.out.cell 3
          have A_4 : u2.cell? ⟨w.heap.size, 4, none⟩ = some (.slice a xs.length ca) := HA6.out.cell 4
          have A_5 : u2.cell? ⟨w.heap.size, 5, none⟩ = some (.slice b ys.length cb) := HA6.out.cell 5
          have A_6 : u2.cell? ⟨w.heap.size, 6, none⟩ = some (.bool m) := HA6.out.cell 6
          have A_7 : u2.cell? ⟨w.heap.size, 7, none⟩ = some (.slice c us.length cc) := HA6.out.cell 7
          have A_8 : u2.cell? ⟨w.heap.size, 8, none⟩ = some (.slice d vs.length cd) := HA6.out.cell 8
          go_wp2_with fail
          refine Calls.mono (HPA.out) ?_
          rintro x u3 ⟨rfl, hb3⟩
          clear A_0 A_1 A_2 A_3 A_4 A_5 A_6 A_7 A_8
          have HW7 := hid (bt HW6.out hb3)
          have HA7 := hid (HA6.out.later hb3 HA6.out.lt)
          have HR7 := hid (HR6.out.later hb3 HR6.out.lt)
          have SA7 := hid (And.intro (SA6.out.1.later hb3) (And.intro (SA6.out.2.1.later hb3) (And.intro (SA6.out.2.2.1.later hb3) (SA6.out.2.2.2.later hb3))))
          have SR7 := hid (And.intro (SR6.out.1.later hb3) (SR6.out.2.later hb3))
          clear HW6 HA6 HR6 SA6 SR6
          clear hb3 HPA HGT HTL
          go_wp2_with fail
          refine Calls.mono (HRD.out _ HW7.out) ?_
          rintro x u4 ⟨n1, a1, ca1, xs1, b1, cb1, ys1, m1, c1, cc1, us1, d1, cd1, vs1, rfl, hs1, hq1, hb4⟩
          have HW8 := hid (bt HW7.out hb4.out)
          have HA8 := hid (HA7.out.later hb4.out HA7.out.lt)
          have HR8 := hid (HR7.out.later hb4.out HR7.out.lt)
          have SA8 := hid (And.intro (SA7.out.1.later hb4.out) (And.intro (SA7.out.2.1.later hb4.out) (And.intro (SA7.out.2.2.1.later hb4.out) (SA7.out.2.2.2.later hb4.out))))
          have SR8 := hid (And.intro (SR7.out.1.later hb4.out) (SR7.out.2.later hb4.out))
          clear HW7 HA7 HR7 SA7 SR7
          have SB := hs1
          have QB := hq1
          clear hb4 HRD lx20
          have GB := hid (Box.made u4 30 #[.string s0, .int .i32 f, .int .i32 r, .bool n1, .slice a1 xs1.length ca1, .slice b1 ys1.length cb1, .bool m1, .slice c1 us1.length cc1, .slice d1 vs1.length cd1])
          have LB := hid (alloc_later u4 (.cells #[.string s0, .int .i32 f, .int .i32 r, .bool n1, .slice a1 xs1.length ca1, .slice b1 ys1.length cb1, .bool m1, .slice c1 us1.length cc1, .slice d1 vs1.length cd1] 30))
          obtain ⟨YB, hYB⟩ : ∃ YB, u4.alloc (.cells #[.string s0, .int .i32 f, .int .i32 r, .bool n1, .slice a1 xs1.length ca1, .slice b1 ys1.length cb1, .bool m1, .slice c1 us1.length cc1, .slice d1 vs1.length cd1] 30) = YB := ⟨_, rfl⟩
          rw [hYB] at GB LB
          have HW9 := hid (bt HW8.out LB.out)
          have HA9 := hid (HA8.out.later LB.out HA8.out.lt)
          have HR9 := hid (HR8.out.later LB.out HR8.out.lt)
          have SA9 := hid (And.intro (SA8.out.1.later LB.out) (And.intro (SA8.out.2.1.later LB.out) (And.intro (SA8.out.2.2.1.later LB.out) (SA8.out.2.2.2.later LB.out))))
          have SR9 := hid (And.intro (SR8.out.1.later LB.out) (SR8.out.2.later LB.out))
          have SB9 := hid (And.intro (SB.out.1.later LB.out) (And.intro (SB.out.2.1.later LB.out) (And.intro (SB.out.2.2.1.later LB.out) (SB.out.2.2.2.later LB.out))))
          clear HW8 HA8 HR8 SA8 SR8 SB
          have HQA : Hid (GQ n xs ys m us vs (rq n xs ys) (rq m us vs)) := ⟨⟨HGK.out.1, rfl⟩, HGK.out.2, rfl⟩
          have HSM := hid (tsame_eq s0 f r f r n a ca xs b cb ys m c cc us d cd vs n1 a1 ca1 xs1 b1 cb1 ys1 m1 c1 cc1 us1 d1 cd1 vs1 YB SA9.out SB9.out HQA.out QB.out rfl rfl)
          have A_0 : YB.cell? ⟨w.heap.size, 0, none⟩ = some (.string s0) := HA9.out.cell 0
          have A_1 : YB.cell? ⟨w.heap.size, 1, none⟩ = some (.int .i32 f) := HA9.out.cell 1
          have A_2 : YB.cell? ⟨w.heap.size, 2, none⟩ = some (.int .i32 r) := HA9.out.cell 2
          have A_3 : YB.cell? ⟨w.heap.size, 3, none⟩ = some (.bool n) := HA9.out.cell 3
          have A_4 : YB.cell? ⟨w.heap.size, 4, none⟩ = some (.slice a xs.length ca) := HA9.out.cell 4
          have A_5 : YB.cell? ⟨w.heap.size, 5, none⟩ = some (.slice b ys.length cb) := HA9.out.cell 5
          have A_6 : YB.cell? ⟨w.heap.size, 6, none⟩ = some (.bool m) := HA9.out.cell 6
          have A_7 : YB.cell? ⟨w.heap.size, 7, none⟩ = some (.slice c us.length cc) := HA9.out.cell 7
          have A_8 : YB.cell? ⟨w.heap.size, 8, none⟩ = some (.slice d vs.length cd) := HA9.out.cell 8
          have B_0 : YB.cell? ⟨u4.heap.size, 0, none⟩ = some (.string s0) := GB.out.cell 0
          have B_1 : YB.cell? ⟨u4.heap.size, 1, none⟩ = some (.int .i32 f) := GB.out.cell 1
          have B_2 : YB.cell? ⟨u4.heap.size, 2, none⟩ = some (.int .i32 r) := GB.out.cell 2
          have B_3 : YB.cell? ⟨u4.heap.size, 3, none⟩ = some (.bool n1) := GB.out.cell 3
          have B_4 : YB.cell? ⟨u4.heap.size, 4, none⟩ = some (.slice a1 xs1.length ca1) := GB.out.cell 4
          have B_5 : YB.cell? ⟨u4.heap.size, 5, none⟩ = some (.slice b1 ys1.length cb1) := GB.out.cell 5
          have B_6 : YB.cell? ⟨u4.heap.size, 6, none⟩ = some (.bool m1) := GB.out.cell 6
          have B_7 : YB.cell? ⟨u4.heap.size, 7, none⟩ = some (.slice c1 us1.length cc1) := GB.out.cell 7
          have B_8 : YB.cell? ⟨u4.heap.size, 8, none⟩ = some (.slice d1 vs1.length cd1) := GB.out.cell 8
          go_wp2_with fail
          refine Calls.mono (HSM.out) ?_
          rintro x u5 ⟨rfl, hb5⟩
          clear A_0 A_1 A_2 A_3 A_4 A_5 A_6 A_7 A_8 B_0 B_1 B_2 B_3 B_4 B_5 B_6 B_7 B_8
          have HW10 := hid (bt HW9.out hb5)
          have HA10 := hid (HA9.out.later hb5 HA9.out.lt)
          have HR10 := hid (HR9.out.later hb5 HR9.out.lt)
          have HB10 := hid (GB.out.later hb5 GB.out.lt)
          have SA10 := hid (And.intro (SA9.out.1.later hb5) (And.intro (SA9.out.2.1.later hb5) (And.intro (SA9.out.2.2.1.later hb5) (SA9.out.2.2.2.later hb5))))
          have SR10 := hid (And.intro (SR9.out.1.later hb5) (SR9.out.2.later hb5))
          have SB10 := hid (And.intro (SB9.out.1.later hb5) (And.intro (SB9.out.2.1.later hb5) (And.intro (SB9.out.2.2.1.later hb5) (SB9.out.2.2.2.later hb5))))
          clear HW9 HA9 HR9 GB SA9 SR9 SB9
          clear hb5 HSM
          have HCJ := hid (tconj_good s0 f r n a ca xs b cb ys m c cc us d cd vs u5 SA10.out.1 SA10.out.2.1 SA10.out.2.2.1 SA10.out.2.2.2 HZ0.out HIN.out HTC.out)
          have A_0 : u5.cell? ⟨w.heap.size, 0, none⟩ = some (.string s0) := HA10.out.cell 0
          have A_1 : u5.cell? ⟨w.heap.size, 1, none⟩ = some (.int .i32 f) := HA10.out.cell 1
          have A_2 : u5.cell? ⟨w.heap.size, 2, none⟩ = some (.int .i32 r) := HA10.out.cell 2
          have A_3 : u5.cell? ⟨w.heap.size, 3, none⟩ = some (.bool n) := HA10.out.cell 3
          have A_4 : u5.cell? ⟨w.heap.size, 4, none⟩ = some (.slice a xs.length ca) := HA10.out.cell 4
          have A_5 : u5.cell? ⟨w.heap.size, 5, none⟩ = some (.slice b ys.length cb) := HA10.out.cell 5
          have A_6 : u5.cell? ⟨w.heap.size, 6, none⟩ = some (.bool m) := HA10.out.cell 6
          have A_7 : u5.cell? ⟨w.heap.size, 7, none⟩ = some (.slice c us.length cc) := HA10.out.cell 7
          have A_8 : u5.cell? ⟨w.heap.size, 8, none⟩ = some (.slice d vs.length cd) := HA10.out.cell 8
          go_wp2_with fail
          refine Calls.mono (HCJ.out) ?_
          rintro x u6 ⟨n2, a2, ca2, xs2, b2, cb2, ys2, m2, c2, cc2, us2, d2, cd2, vs2, rfl, hs2, hq2, hb6⟩
          clear A_0 A_1 A_2 A_3 A_4 A_5 A_6 A_7 A_8
          have HW11 := hid (bt HW10.out hb6.out)
          have HA11 := hid (HA10.out.later hb6.out HA10.out.lt)
          have HR11 := hid (HR10.out.later hb6.out HR10.out.lt)
          have SA11 := hid (And.intro (SA10.out.1.later hb6.out) (And.intro (SA10.out.2.1.later hb6.out) (And.intro (SA10.out.2.2.1.later hb6.out) (SA10.out.2.2.2.later hb6.out))))
          have SR11 := hid (And.intro (SR10.out.1.later hb6.out) (SR10.out.2.later hb6.out))
          clear HW10 HA10 HR10 SA10 SR10
          have SC := hs2
          have QC := hq2
          clear hb6 HCJ
          have GC := hid (Box.made u6 30 #[.string s0, .int .i32 f, .int .i32 (-r), .bool n2, .slice a2 xs2.length ca2, .slice b2 ys2.length cb2, .bool m2, .slice c2 us2.length cc2, .slice d2 vs2.length cd2])
          have LC := hid (alloc_later u6 (.cells #[.string s0, .int .i32 f, .int .i32 (-r), .bool n2, .slice a2 xs2.length ca2, .slice b2 ys2.length cb2, .bool m2, .slice c2 us2.length cc2, .slice d2 vs2.length cd2] 30))
          obtain ⟨YC, hYC⟩ : ∃ YC, u6.alloc (.cells #[.string s0, .int .i32 f, .int .i32 (-r), .bool n2, .slice a2 xs2.length ca2, .slice b2 ys2.length cb2, .bool m2, .slice c2 us2.length cc2, .slice d2 vs2.length cd2] 30) = YC := ⟨_, rfl⟩
          rw [hYC] at GC LC
          have HW12 := hid (bt HW11.out LC.out)
          have HA12 := hid (HA11.out.later LC.out HA11.out.lt)
          have HR12 := hid (HR11.out.later LC.out HR11.out.lt)
          have SA12 := hid (And.intro (SA11.out.1.later LC.out) (And.intro (SA11.out.2.1.later LC.out) (And.intro (SA11.out.2.2.1.later LC.out) (SA11.out.2.2.2.later LC.out))))
          have SR12 := hid (And.intro (SR11.out.1.later LC.out) (SR11.out.2.later LC.out))
          have SC12 := hid (And.intro (SC.out.1.later LC.out) (And.intro (SC.out.2.1.later LC.out) (And.intro (SC.out.2.2.1.later LC.out) (SC.out.2.2.2.later LC.out))))
          clear HW11 HA11 HR11 SA11 SR11 SC
          have HT2 : Hid (tchk s0.data.toList f (-r) (gchk n2 xs2 ys2 m2 us2 vs2) = 0) := by
            show _ = _
            rw [QC.out.chk, tchk_rest _ _ _ (tchk_ok HTC.out).1, trok_neg (tchk_ok HTC.out).2.1, fstE_zero]
          have HIN2 : Hid (in32 f (-r)) := by
            have hb := trok_in (trok (tchk_ok HTC.out).2.1)
            exact ⟨by omega, by omega⟩
          have HCD := hid (tconj_good s0 f (-r) n2 a2 ca2 xs2 b2 cb2 ys2 m2 c2 cc2 us2 d2 cd2 vs2 YC SC12.out.1 SC12.out.2.1 SC12.out.2.2.1 SC12.out.2.2.2 HZ0.out HIN2.out HT2.out)
          rw [QC.out.1.2, QC.out.2.2, Rat.neg_neg, Int.neg_neg] at HCD
          have C_0 : YC.cell? ⟨u6.heap.size, 0, none⟩ = some (.string s0) := GC.out.cell 0
          have C_1 : YC.cell? ⟨u6.heap.size, 1, none⟩ = some (.int .i32 f) := GC.out.cell 1
          have C_2 : YC.cell? ⟨u6.heap.size, 2, none⟩ = some (.int .i32 (-r)) := GC.out.cell 2
          have C_3 : YC.cell? ⟨u6.heap.size, 3, none⟩ = some (.bool n2) := GC.out.cell 3
          have C_4 : YC.cell? ⟨u6.heap.size, 4, none⟩ = some (.slice a2 xs2.length ca2) := GC.out.cell 4
          have C_5 : YC.cell? ⟨u6.heap.size, 5, none⟩ = some (.slice b2 ys2.length cb2) := GC.out.cell 5
          have C_6 : YC.cell? ⟨u6.heap.size, 6, none⟩ = some (.bool m2) := GC.out.cell 6
          have C_7 : YC.cell? ⟨u6.heap.size, 7, none⟩ = some (.slice c2 us2.length cc2) := GC.out.cell 7
          have C_8 : YC.cell? ⟨u6.heap.size, 8, none⟩ = some (.slice d2 vs2.length cd2) := GC.out.cell 8
          go_wp2_with fail
          refine Calls.mono (HCD.out) ?_
          rintro x u7 ⟨n3, a3, ca3, xs3, b3, cb3, ys3, m3, c3, cc3, us3, d3, cd3, vs3, rfl, hs3, hq3, hb7⟩
          clear C_0 C_1 C_2 C_3 C_4 C_5 C_6 C_7 C_8
          have HW13 := hid (bt HW12.out hb7.out)
          have HA13 := hid (HA12.out.later hb7.out HA12.out.lt)
          have HR13 := hid (HR12.out.later hb7.out HR12.out.lt)
          have HC13 := hid (GC.out.later hb7.out GC.out.lt)
          have SA13 := hid (And.intro (SA12.out.1.later hb7.out) (And.intro (SA12.out.2.1.later hb7.out) (And.intro (SA12.out.2.2.1.later hb7.out) (SA12.out.2.2.2.later hb7.out))))
          have SR13 := hid (And.intro (SR12.out.1.later hb7.out) (SR12.out.2.later hb7.out))
          have SC13 := hid (And.intro (SC12.out.1.later hb7.out) (And.intro (SC12.out.2.1.later hb7.out) (And.intro (SC12.out.2.2.1.later hb7.out) (SC12.out.2.2.2.later hb7.out))))
          clear HW12 HA12 HR12 GC SA12 SR12 SC12
          have SD := hs3
          have QD := hq3
          clear hb7 HCD
          have GD := hid (Box.made u7 30 #[.string s0, .int .i32 f, .int .i32 r, .bool n3, .slice a3 xs3.length ca3, .slice b3 ys3.length cb3, .bool m3, .slice c3 us3.length cc3, .slice d3 vs3.length cd3])
          have LD := hid (alloc_later u7 (.cells #[.string s0, .int .i32 f, .int .i32 r, .bool n3, .slice a3 xs3.length ca3, .slice b3 ys3.length cb3, .bool m3, .slice c3 us3.length cc3, .slice d3 vs3.length cd3] 30))
          obtain ⟨YD, hYD⟩ : ∃ YD, u7.alloc (.cells #[.string s0, .int .i32 f, .int .i32 r, .bool n3, .slice a3 xs3.length ca3, .slice b3 ys3.length cb3, .bool m3, .slice c3 us3.length cc3, .slice d3 vs3.length cd3] 30) = YD := ⟨_, rfl⟩
          rw [hYD] at GD LD
          have HW14 := hid (bt HW13.out LD.out)
          have HA14 := hid (HA13.out.later LD.out HA13.out.lt)
          have HR14 := hid (HR13.out.later LD.out HR13.out.lt)
          have HC14 := hid (HC13.out.later LD.out HC13.out.lt)
          have SA14 := hid (And.intro (SA13.out.1.later LD.out) (And.intro (SA13.out.2.1.later LD.out) (And.intro (SA13.out.2.2.1.later LD.out) (SA13.out.2.2.2.later LD.out))))
          have SR14 := hid (And.intro (SR13.out.1.later LD.out) (SR13.out.2.later LD.out))
          have SC14 := hid (And.intro (SC13.out.1.later LD.out) (And.intro (SC13.out.2.1.later LD.out) (And.intro (SC13.out.2.2.1.later LD.out) (SC13.out.2.2.2.later LD.out))))
          have SD14 := hid (And.intro (SD.out.1.later LD.out) (And.intro (SD.out.2.1.later LD.out) (And.intro (SD.out.2.2.1.later LD.out) (SD.out.2.2.2.later LD.out))))
          clear HW13 HA13 HR13 HC13 SA13 SR13 SC13 SD
          have HRC : Hid (∀ V, Calls Tryz.prog 11 #[.agg #[.int .i32 f, .int .i32 r]] V fun e w' => e = .returned (.tuple #[.agg #[.int .i32 f, .int .i32 (-r)], .int .i64 0]) ∧ Below V.heap.size V w') := fun V => by
            have hk := rconj_any f r V HIN.out
            have e : rConj f r = (f, -r, 0) := if_pos (trok (tchk_ok HTC.out).2.1)
            rw [e] at hk
            exact hk
          have A_1 : YD.cell? ⟨w.heap.size, 1, none⟩ = some (.int .i32 f) := HA14.out.cell 1
          have A_2 : YD.cell? ⟨w.heap.size, 2, none⟩ = some (.int .i32 r) := HA14.out.cell 2
          go_wp2_with fail
          refine Calls.mono (HRC.out _) ?_
          rintro x u8 ⟨rfl, hb8⟩
          clear A_1 A_2
          have HW15 := hid (bt HW14.out hb8)
          have HA15 := hid (HA14.out.later hb8 HA14.out.lt)
          have HR15 := hid (HR14.out.later hb8 HR14.out.lt)
          have HC15 := hid (HC14.out.later hb8 HC14.out.lt)
          have HD15 := hid (GD.out.later hb8 GD.out.lt)
          have SA15 := hid (And.intro (SA14.out.1.later hb8) (And.intro (SA14.out.2.1.later hb8) (And.intro (SA14.out.2.2.1.later hb8) (SA14.out.2.2.2.later hb8))))
          have SR15 := hid (And.intro (SR14.out.1.later hb8) (SR14.out.2.later hb8))
          have SC15 := hid (And.intro (SC14.out.1.later hb8) (And.intro (SC14.out.2.1.later hb8) (And.intro (SC14.out.2.2.1.later hb8) (SC14.out.2.2.2.later hb8))))
          have SD15 := hid (And.intro (SD14.out.1.later hb8) (And.intro (SD14.out.2.1.later hb8) (And.intro (SD14.out.2.2.1.later hb8) (SD14.out.2.2.2.later hb8))))
          clear HW14 HA14 HR14 HC14 GD SA14 SR14 SC14 SD14
          clear hb8 HRC
          have GP := hid (Box.made u8 23 #[.int .i32 f, .int .i32 (-r)])
          have LP := hid (alloc_later u8 (.cells #[.int .i32 f, .int .i32 (-r)] 23))
          obtain ⟨YP, hYP⟩ : ∃ YP, u8.alloc (.cells #[.int .i32 f, .int .i32 (-r)] 23) = YP := ⟨_, rfl⟩
          rw [hYP] at GP LP
          have HW16 := hid (bt HW15.out LP.out)
          have HA16 := hid (HA15.out.later LP.out HA15.out.lt)
          have HR16 := hid (HR15.out.later LP.out HR15.out.lt)
          have HC16 := hid (HC15.out.later LP.out HC15.out.lt)
          have HD16 := hid (HD15.out.later LP.out HD15.out.lt)
          have SA16 := hid (And.intro (SA15.out.1.later LP.out) (And.intro (SA15.out.2.1.later LP.out) (And.intro (SA15.out.2.2.1.later LP.out) (SA15.out.2.2.2.later LP.out))))
          have SR16 := hid (And.intro (SR15.out.1.later LP.out) (SR15.out.2.later LP.out))
          have SC16 := hid (And.intro (SC15.out.1.later LP.out) (And.intro (SC15.out.2.1.later LP.out) (And.intro (SC15.out.2.2.1.later LP.out) (SC15.out.2.2.2.later LP.out))))
          have SD16 := hid (And.intro (SD15.out.1.later LP.out) (And.intro (SD15.out.2.1.later LP.out) (And.intro (SD15.out.2.2.1.later LP.out) (SD15.out.2.2.2.later LP.out))))
          clear HW15 HA15 HR15 HC15 HD15 SA15 SR15 SC15 SD15
          have HGC := hid (gconj_good n a ca xs b cb ys m c cc us d cd vs YP SA16.out.1 SA16.out.2.1 SA16.out.2.2.1 SA16.out.2.2.2 (tchk_ok HTC.out).2.2)
          have A_3 : YP.cell? ⟨w.heap.size, 3, none⟩ = some (.bool n) := HA16.out.cell 3
          have A_4 : YP.cell? ⟨w.heap.size, 4, none⟩ = some (.slice a xs.length ca) := HA16.out.cell 4
          have A_5 : YP.cell? ⟨w.heap.size, 5, none⟩ = some (.slice b ys.length cb) := HA16.out.cell 5
          have A_6 : YP.cell? ⟨w.heap.size, 6, none⟩ = some (.bool m) := HA16.out.cell 6
          have A_7 : YP.cell? ⟨w.heap.size, 7, none⟩ = some (.slice c us.length cc) := HA16.out.cell 7
          have A_8 : YP.cell? ⟨w.heap.size, 8, none⟩ = some (.slice d vs.length cd) := HA16.out.cell 8
          go_wp2_with fail
          refine Calls.mono (HGC.out) ?_
          rintro x u9 ⟨n4, a4, ca4, xs4, b4, cb4, ys4, m4, c4, cc4, us4, d4, cd4, vs4, rfl, hs4, hq4, hb9⟩
          clear A_3 A_4 A_5 A_6 A_7 A_8
          have HW17 := hid (bt HW16.out hb9.out)
          have HA17 := hid (HA16.out.later hb9.out HA16.out.lt)
          have HR17 := hid (HR16.out.later hb9.out HR16.out.lt)
          have HC17 := hid (HC16.out.later hb9.out HC16.out.lt)
          have HD17 := hid (HD16.out.later hb9.out HD16.out.lt)
          have HP17 := hid (GP.out.later hb9.out GP.out.lt)
          have SA17 := hid (And.intro (SA16.out.1.later hb9.out) (And.intro (SA16.out.2.1.later hb9.out) (And.intro (SA16.out.2.2.1.later hb9.out) (SA16.out.2.2.2.later hb9.out))))
          have SR17 := hid (And.intro (SR16.out.1.later hb9.out) (SR16.out.2.later hb9.out))
          have SC17 := hid (And.intro (SC16.out.1.later hb9.out) (And.intro (SC16.out.2.1.later hb9.out) (And.intro (SC16.out.2.2.1.later hb9.out) (SC16.out.2.2.2.later hb9.out))))
          have SD17 := hid (And.intro (SD16.out.1.later hb9.out) (And.intro (SD16.out.2.1.later hb9.out) (And.intro (SD16.out.2.2.1.later hb9.out) (SD16.out.2.2.2.later hb9.out))))
          clear HW16 HA16 HR16 HC16 HD16 GP SA16 SR16 SC16 SD16
          have SV := hs4
          have QV := hq4
          clear hb9 HGC
          have GV := hid (Box.made u9 28 #[.bool n4, .slice a4 xs4.length ca4, .slice b4 ys4.length cb4, .bool m4, .slice c4 us4.length cc4, .slice d4 vs4.length cd4])
          have LV := hid (alloc_later u9 (.cells #[.bool n4, .slice a4 xs4.length ca4, .slice b4 ys4.length cb4, .bool m4, .slice c4 us4.length cc4, .slice d4 vs4.length cd4] 28))
          obtain ⟨YV, hYV⟩ : ∃ YV, u9.alloc (.cells #[.bool n4, .slice a4 xs4.length ca4, .slice b4 ys4.length cb4, .bool m4, .slice c4 us4.length cc4, .slice d4 vs4.length cd4] 28) = YV := ⟨_, rfl⟩
          rw [hYV] at GV LV
          have HW18 := hid (bt HW17.out LV.out)
          have HA18 := hid (HA17.out.later LV.out HA17.out.lt)
          have HR18 := hid (HR17.out.later LV.out HR17.out.lt)
          have HC18 := hid (HC17.out.later LV.out HC17.out.lt)
          have HD18 := hid (HD17.out.later LV.out HD17.out.lt)
          have HP18 := hid (HP17.out.later LV.out HP17.out.lt)
          have SA18 := hid (And.intro (SA17.out.1.later LV.out) (And.intro (SA17.out.2.1.later LV.out) (And.intro (SA17.out.2.2.1.later LV.out) (SA17.out.2.2.2.later LV.out))))
          have SR18 := hid (And.intro (SR17.out.1.later LV.out) (SR17.out.2.later LV.out))
          have SC18 := hid (And.intro (SC17.out.1.later LV.out) (And.intro (SC17.out.2.1.later LV.out) (And.intro (SC17.out.2.2.1.later LV.out) (SC17.out.2.2.2.later LV.out))))
          have SD18 := hid (And.intro (SD17.out.1.later LV.out) (And.intro (SD17.out.2.1.later LV.out) (And.intro (SD17.out.2.2.1.later LV.out) (SD17.out.2.2.2.later LV.out))))
          have SV18 := hid (And.intro (SV.out.1.later LV.out) (And.intro (SV.out.2.1.later LV.out) (And.intro (SV.out.2.2.1.later LV.out) (SV.out.2.2.2.later LV.out))))
          clear HW17 HA17 HR17 HC17 HD17 HP17 SA17 SR17 SC17 SD17 SV
          have HSM := hid (tsame_eq s0 f r f r n a ca xs b cb ys m c cc us d cd vs n3 a3 ca3 xs3 b3 cb3 ys3 m3 c3 cc3 us3 d3 cd3 vs3 YV SA18.out SD18.out HQA.out QD.out rfl rfl)
          have hEQ := troEq f (-r) f (-r)
          rw [show ((f == f) && (-r == -r)) = true by simp] at hEQ
          have A_0 : YV.cell? ⟨w.heap.size, 0, none⟩ = some (.string s0) := HA18.out.cell 0
          have A_1 : YV.cell? ⟨w.heap.size, 1, none⟩ = some (.int .i32 f) := HA18.out.cell 1
          have A_2 : YV.cell? ⟨w.heap.size, 2, none⟩ = some (.int .i32 r) := HA18.out.cell 2
          have A_3 : YV.cell? ⟨w.heap.size, 3, none⟩ = some (.bool n) := HA18.out.cell 3
          have A_4 : YV.cell? ⟨w.heap.size, 4, none⟩ = some (.slice a xs.length ca) := HA18.out.cell 4
          have A_5 : YV.cell? ⟨w.heap.size, 5, none⟩ = some (.slice b ys.length cb) := HA18.out.cell 5
          have A_6 : YV.cell? ⟨w.heap.size, 6, none⟩ = some (.bool m) := HA18.out.cell 6
          have A_7 : YV.cell? ⟨w.heap.size, 7, none⟩ = some (.slice c us.length cc) := HA18.out.cell 7
          have A_8 : YV.cell? ⟨w.heap.size, 8, none⟩ = some (.slice d vs.length cd) := HA18.out.cell 8
          have D_0 : YV.cell? ⟨u7.heap.size, 0, none⟩ = some (.string s0) := HD18.out.cell 0
          have D_1 : YV.cell? ⟨u7.heap.size, 1, none⟩ = some (.int .i32 f) := HD18.out.cell 1
          have D_2 : YV.cell? ⟨u7.heap.size, 2, none⟩ = some (.int .i32 r) := HD18.out.cell 2
          have D_3 : YV.cell? ⟨u7.heap.size, 3, none⟩ = some (.bool n3) := HD18.out.cell 3
          have D_4 : YV.cell? ⟨u7.heap.size, 4, none⟩ = some (.slice a3 xs3.length ca3) := HD18.out.cell 4
          have D_5 : YV.cell? ⟨u7.heap.size, 5, none⟩ = some (.slice b3 ys3.length cb3) := HD18.out.cell 5
          have D_6 : YV.cell? ⟨u7.heap.size, 6, none⟩ = some (.bool m3) := HD18.out.cell 6
          have D_7 : YV.cell? ⟨u7.heap.size, 7, none⟩ = some (.slice c3 us3.length cc3) := HD18.out.cell 7
          have D_8 : YV.cell? ⟨u7.heap.size, 8, none⟩ = some (.slice d3 vs3.length cd3) := HD18.out.cell 8
          have C_0 : YV.cell? ⟨u6.heap.size, 0, none⟩ = some (.string s0) := HC18.out.cell 0
          have C_1 : YV.cell? ⟨u6.heap.size, 1, none⟩ = some (.int .i32 f) := HC18.out.cell 1
          have C_2 : YV.cell? ⟨u6.heap.size, 2, none⟩ = some (.int .i32 (-r)) := HC18.out.cell 2
          have C_3 : YV.cell? ⟨u6.heap.size, 3, none⟩ = some (.bool n2) := HC18.out.cell 3
          have C_4 : YV.cell? ⟨u6.heap.size, 4, none⟩ = some (.slice a2 xs2.length ca2) := HC18.out.cell 4
          have C_5 : YV.cell? ⟨u6.heap.size, 5, none⟩ = some (.slice b2 ys2.length cb2) := HC18.out.cell 5
          have C_6 : YV.cell? ⟨u6.heap.size, 6, none⟩ = some (.bool m2) := HC18.out.cell 6
          have C_7 : YV.cell? ⟨u6.heap.size, 7, none⟩ = some (.slice c2 us2.length cc2) := HC18.out.cell 7
          have C_8 : YV.cell? ⟨u6.heap.size, 8, none⟩ = some (.slice d2 vs2.length cd2) := HC18.out.cell 8
          have P_0 : YV.cell? ⟨u8.heap.size, 0, none⟩ = some (.int .i32 f) := HP18.out.cell 0
          have P_1 : YV.cell? ⟨u8.heap.size, 1, none⟩ = some (.int .i32 (-r)) := HP18.out.cell 1
          have V_0 : YV.cell? ⟨u9.heap.size, 0, none⟩ = some (.bool n4) := GV.out.cell 0
          have V_1 : YV.cell? ⟨u9.heap.size, 1, none⟩ = some (.slice a4 xs4.length ca4) := GV.out.cell 1
          have V_2 : YV.cell? ⟨u9.heap.size, 2, none⟩ = some (.slice b4 ys4.length cb4) := GV.out.cell 2
          have V_3 : YV.cell? ⟨u9.heap.size, 3, none⟩ = some (.bool m4) := GV.out.cell 3
          have V_4 : YV.cell? ⟨u9.heap.size, 4, none⟩ = some (.slice c4 us4.length cc4) := GV.out.cell 4
          have V_5 : YV.cell? ⟨u9.heap.size, 5, none⟩ = some (.slice d4 vs4.length cd4) := GV.out.cell 5
          go_wp2_with fail
          refine Calls.mono (HSM.out) ?_
          rintro x uA ⟨rfl, hbA⟩
          clear A_0 A_1 A_2 A_3 A_4 A_5 A_6 A_7 A_8 D_0 D_1 D_2 D_3 D_4 D_5 D_6 D_7 D_8 C_0 C_1 C_2 C_3 C_4 C_5 C_6 C_7 C_8 P_0 P_1 V_0 V_1 V_2 V_3 V_4 V_5
          have HW19 := hid (bt HW18.out hbA)
          have HA19 := hid (HA18.out.later hbA HA18.out.lt)
          have HR19 := hid (HR18.out.later hbA HR18.out.lt)
          have HC19 := hid (HC18.out.later hbA HC18.out.lt)
          have HD19 := hid (HD18.out.later hbA HD18.out.lt)
          have HP19 := hid (HP18.out.later hbA HP18.out.lt)
          have HV19 := hid (GV.out.later hbA GV.out.lt)
          have SA19 := hid (And.intro (SA18.out.1.later hbA) (And.intro (SA18.out.2.1.later hbA) (And.intro (SA18.out.2.2.1.later hbA) (SA18.out.2.2.2.later hbA))))
          have SR19 := hid (And.intro (SR18.out.1.later hbA) (SR18.out.2.later hbA))
          have SC19 := hid (And.intro (SC18.out.1.later hbA) (And.intro (SC18.out.2.1.later hbA) (And.intro (SC18.out.2.2.1.later hbA) (SC18.out.2.2.2.later hbA))))
          have SD19 := hid (And.intro (SD18.out.1.later hbA) (And.intro (SD18.out.2.1.later hbA) (And.intro (SD18.out.2.2.1.later hbA) (SD18.out.2.2.2.later hbA))))
          have SV19 := hid (And.intro (SV18.out.1.later hbA) (And.intro (SV18.out.2.1.later hbA) (And.intro (SV18.out.2.2.1.later hbA) (SV18.out.2.2.2.later hbA))))
          clear HW18 HA18 HR18 HC18 HD18 HP18 GV SA18 SR18 SC18 SD18 SV18
          clear hbA HSM
          have HSG := hid (gsame_eq n2 a2 ca2 xs2 b2 cb2 ys2 m2 c2 cc2 us2 d2 cd2 vs2 n4 a4 ca4 xs4 b4 cb4 ys4 m4 c4 cc4 us4 d4 cd4 vs4 uA SC19.out SV19.out QC.out QV.out)
          have C_0 : uA.cell? ⟨u6.heap.size, 0, none⟩ = some (.string s0) := HC19.out.cell 0
          have C_1 : uA.cell? ⟨u6.heap.size, 1, none⟩ = some (.int .i32 f) := HC19.out.cell 1
          have C_2 : uA.cell? ⟨u6.heap.size, 2, none⟩ = some (.int .i32 (-r)) := HC19.out.cell 2
          have C_3 : uA.cell? ⟨u6.heap.size, 3, none⟩ = some (.bool n2) := HC19.out.cell 3
          have C_4 : uA.cell? ⟨u6.heap.size, 4, none⟩ = some (.slice a2 xs2.length ca2) := HC19.out.cell 4
          have C_5 : uA.cell? ⟨u6.heap.size, 5, none⟩ = some (.slice b2 ys2.length cb2) := HC19.out.cell 5
          have C_6 : uA.cell? ⟨u6.heap.size, 6, none⟩ = some (.bool m2) := HC19.out.cell 6
          have C_7 : uA.cell? ⟨u6.heap.size, 7, none⟩ = some (.slice c2 us2.length cc2) := HC19.out.cell 7
          have C_8 : uA.cell? ⟨u6.heap.size, 8, none⟩ = some (.slice d2 vs2.length cd2) := HC19.out.cell 8
          have P_0 : uA.cell? ⟨u8.heap.size, 0, none⟩ = some (.int .i32 f) := HP19.out.cell 0
          have P_1 : uA.cell? ⟨u8.heap.size, 1, none⟩ = some (.int .i32 (-r)) := HP19.out.cell 1
          have V_0 : uA.cell? ⟨u9.heap.size, 0, none⟩ = some (.bool n4) := HV19.out.cell 0
          have V_1 : uA.cell? ⟨u9.heap.size, 1, none⟩ = some (.slice a4 xs4.length ca4) := HV19.out.cell 1
          have V_2 : uA.cell? ⟨u9.heap.size, 2, none⟩ = some (.slice b4 ys4.length cb4) := HV19.out.cell 2
          have V_3 : uA.cell? ⟨u9.heap.size, 3, none⟩ = some (.bool m4) := HV19.out.cell 3
          have V_4 : uA.cell? ⟨u9.heap.size, 4, none⟩ = some (.slice c4 us4.length cc4) := HV19.out.cell 4
          have V_5 : uA.cell? ⟨u9.heap.size, 5, none⟩ = some (.slice d4 vs4.length cd4) := HV19.out.cell 5
          have A_0 : uA.cell? ⟨w.heap.size, 0, none⟩ = some (.string s0) := HA19.out.cell 0
          go_wp2_with fail
          refine Calls.mono (HSG.out) ?_
          rintro x uB ⟨rfl, hbB⟩
          clear C_0 C_1 C_2 C_3 C_4 C_5 C_6 C_7 C_8 P_0 P_1 V_0 V_1 V_2 V_3 V_4 V_5 A_0
          have HW20 := hid (bt HW19.out hbB)
          have HA20 := hid (HA19.out.later hbB HA19.out.lt)
          have HR20 := hid (HR19.out.later hbB HR19.out.lt)
          have HC20 := hid (HC19.out.later hbB HC19.out.lt)
          have HD20 := hid (HD19.out.later hbB HD19.out.lt)
          have HP20 := hid (HP19.out.later hbB HP19.out.lt)
          have HV20 := hid (HV19.out.later hbB HV19.out.lt)
          have SA20 := hid (And.intro (SA19.out.1.later hbB) (And.intro (SA19.out.2.1.later hbB) (And.intro (SA19.out.2.2.1.later hbB) (SA19.out.2.2.2.later hbB))))
          have SR20 := hid (And.intro (SR19.out.1.later hbB) (SR19.out.2.later hbB))
          have SC20 := hid (And.intro (SC19.out.1.later hbB) (And.intro (SC19.out.2.1.later hbB) (And.intro (SC19.out.2.2.1.later hbB) (SC19.out.2.2.2.later hbB))))
          have SD20 := hid (And.intro (SD19.out.1.later hbB) (And.intro (SD19.out.2.1.later hbB) (And.intro (SD19.out.2.2.1.later hbB) (SD19.out.2.2.2.later hbB))))
          have SV20 := hid (And.intro (SV19.out.1.later hbB) (And.intro (SV19.out.2.1.later hbB) (And.intro (SV19.out.2.2.1.later hbB) (SV19.out.2.2.2.later hbB))))
          clear HW19 HA19 HR19 HC19 HD19 HP19 HV19 SA19 SR19 SC19 SD19 SV19
          clear hbB HSG
          have C_0 : uB.cell? ⟨u6.heap.size, 0, none⟩ = some (.string s0) := HC20.out.cell 0
          have A_0 : uB.cell? ⟨w.heap.size, 0, none⟩ = some (.string s0) := HA20.out.cell 0
          by_cases hrk : rchk h rs ts = 0
          · have R_0 : uB.cell? ⟨w.heap.size + 1, 0, none⟩ = some (.bool h) := HR20.out.cell 0
            have R_1 : uB.cell? ⟨w.heap.size + 1, 1, none⟩ = some (.slice e rs.length ce) := HR20.out.cell 1
            have R_2 : uB.cell? ⟨w.heap.size + 1, 2, none⟩ = some (.slice p ts.length cp) := HR20.out.cell 2
            go_wp2_with fail
            refine Calls.mono (rcheck_any h _ rs _ ts uB SR20.out.1 SR20.out.2) ?_
            rintro x v1 ⟨rfl, hb1⟩
            clear R_0 R_1 R_2
            have HW21 := hid (bt HW20.out hb1)
            have HA21 := hid (HA20.out.later hb1 HA20.out.lt)
            have HR21 := hid (HR20.out.later hb1 HR20.out.lt)
            have SA21 := hid (And.intro (SA20.out.1.later hb1) (And.intro (SA20.out.2.1.later hb1) (And.intro (SA20.out.2.2.1.later hb1) (SA20.out.2.2.2.later hb1))))
            have SR21 := hid (And.intro (SR20.out.1.later hb1) (SR20.out.2.later hb1))
            clear HW20 HA20 HR20 SA20 SR20
            clear hb1
            have HRK := hid hrk
            rw [hrk]
            clear hrk
            have R_0 : v1.cell? ⟨w.heap.size + 1, 0, none⟩ = some (.bool h) := HR21.out.cell 0
            have R_1 : v1.cell? ⟨w.heap.size + 1, 1, none⟩ = some (.slice e rs.length ce) := HR21.out.cell 1
            have R_2 : v1.cell? ⟨w.heap.size + 1, 2, none⟩ = some (.slice p ts.length cp) := HR21.out.cell 2
            go_wp2_with fail
            refine Calls.mono (rSign_any h e ce rs p cp ts v1 SR21.out.1 SR21.out.2) ?_
            rintro x v2 ⟨rfl, hb2⟩
            clear R_0 R_1 R_2
            have HW22 := hid (bt HW21.out hb2)
            have HA22 := hid (HA21.out.later hb2 HA21.out.lt)
            have HR22 := hid (HR21.out.later hb2 HR21.out.lt)
            have SA22 := hid (And.intro (SA21.out.1.later hb2) (And.intro (SA21.out.2.1.later hb2) (And.intro (SA21.out.2.2.1.later hb2) (SA21.out.2.2.2.later hb2))))
            have SR22 := hid (And.intro (SR21.out.1.later hb2) (SR21.out.2.later hb2))
            clear HW21 HA21 HR21 SA21 SR21
            clear hb2
            by_cases h0 : rs.length = 0
            · have e0 : rsgn h rs ts = 0 := by unfold rsgn; rw [if_pos HRK.out, if_pos h0]
              rw [e0]
              clear e0
              go_wp2_with fail
              go_ret
              exact ⟨rfl, HW22.out⟩
            · have e0 : (rsgn h rs ts == 0) = false := by unfold rsgn; rw [if_pos HRK.out, if_neg h0]; cases h <;> rfl
              generalize rsgn h rs ts = SG at *
              have R_1 : v2.cell? ⟨w.heap.size + 1, 1, none⟩ = some (.slice e rs.length ce) := HR22.out.cell 1
              have R_2 : v2.cell? ⟨w.heap.size + 1, 2, none⟩ = some (.slice p ts.length cp) := HR22.out.cell 2
              by_cases l1 : 20 < (rs.length : Int)
              · go_wp2_with fail
                go_ret
                exact ⟨rfl, HW22.out⟩
              by_cases l2 : 20 < (ts.length : Int)
              · go_wp2_with fail
                go_ret
                exact ⟨rfl, HW22.out⟩
              have HN0 := hid h0
              have l1n : rs.length ≤ 20 := by omega
              have l2n : ts.length ≤ 20 := by omega
              have HLR := hid (And.intro l1n l2n)
              clear l1n l2n h0
              go_wp2_with fail
              refine Calls.mono (zsmall_kn 1 1 v2 (by decide) (by decide) (by decide) (by decide) (by decide) false 1 1 (zw 1 (by decide) (by decide)) (zw 1 (by decide) (by decide)) zk11f (by decide +kernel)) ?_
              rintro x v3 ⟨ea, ca_, eb, cb_, rfl, hs3, hb3⟩
              clear R_1 R_2
              clear e0 l1 l2
              have HW23 := hid (bt HW22.out hb3.out)
              have HA23 := hid (HA22.out.later hb3.out HA22.out.lt)
              have HR23 := hid (HR22.out.later hb3.out HR22.out.lt)
              have SA23 := hid (And.intro (SA22.out.1.later hb3.out) (And.intro (SA22.out.2.1.later hb3.out) (And.intro (SA22.out.2.2.1.later hb3.out) (SA22.out.2.2.2.later hb3.out))))
              have SR23 := hid (And.intro (SR22.out.1.later hb3.out) (SR22.out.2.later hb3.out))
              clear HW22 HA22 HR22 SA22 SR22
              have SU := hid (And.intro (Sl.own (xs := [1]) hs3.out.1 (zw 1 (by decide) (by decide))) (Sl.own (xs := [1]) hs3.out.2 (zw 1 (by decide) (by decide))))
              clear hs3 hb3
              have GU := hid (Box.made v3 26 #[.bool false, .slice ea 1 ca_, .slice eb 1 cb_])
              have LU := hid (alloc_later v3 (.cells #[.bool false, .slice ea 1 ca_, .slice eb 1 cb_] 26))
              obtain ⟨YU, hYU⟩ : ∃ YU, v3.alloc (.cells #[.bool false, .slice ea 1 ca_, .slice eb 1 cb_] 26) = YU := ⟨_, rfl⟩
              rw [hYU] at GU LU
              have HW24 := hid (bt HW23.out LU.out)
              have HA24 := hid (HA23.out.later LU.out HA23.out.lt)
              have HR24 := hid (HR23.out.later LU.out HR23.out.lt)
              have SA24 := hid (And.intro (SA23.out.1.later LU.out) (And.intro (SA23.out.2.1.later LU.out) (And.intro (SA23.out.2.2.1.later LU.out) (SA23.out.2.2.2.later LU.out))))
              have SR24 := hid (And.intro (SR23.out.1.later LU.out) (SR23.out.2.later LU.out))
              have SU24 := hid (And.intro (SU.out.1.later LU.out) (SU.out.2.later LU.out))
              clear HW23 HA23 HR23 SA23 SR23 SU
              have HQ := hid (rok_of (rQuo_full false ea ca_ [1] eb cb_ [1] h e ce rs p cp ts YU SU24.out.1 SU24.out.2 SR24.out.1 SR24.out.2) (by unfold qErr; rw [rboth_good zk11f HRK.out, if_pos rfl, if_neg HN0.out]) (zshort_div (zw 1 (by decide) (by decide)) (zw 1 (by decide) (by decide)) SR24.out.1.wd SR24.out.2.wd zk11f HRK.out (by decide) (by decide) HLR.out.1 HLR.out.2))
              have U_0 : YU.cell? ⟨v3.heap.size, 0, none⟩ = some (.bool false) := GU.out.cell 0
              have U_1 : YU.cell? ⟨v3.heap.size, 1, none⟩ = some (.slice ea 1 ca_) := GU.out.cell 1
              have U_2 : YU.cell? ⟨v3.heap.size, 2, none⟩ = some (.slice eb 1 cb_) := GU.out.cell 2
              have R_0 : YU.cell? ⟨w.heap.size + 1, 0, none⟩ = some (.bool h) := HR24.out.cell 0
              have R_1 : YU.cell? ⟨w.heap.size + 1, 1, none⟩ = some (.slice e rs.length ce) := HR24.out.cell 1
              have R_2 : YU.cell? ⟨w.heap.size + 1, 2, none⟩ = some (.slice p ts.length cp) := HR24.out.cell 2
              go_wp2_with fail
              refine Calls.mono (HQ.out) ?_
              rintro x v4 ⟨ho, eo, ceo, rso, po, cpo, tso, rfl, hs4, hq4, hb4⟩
              clear U_0 U_1 U_2 R_0 R_1 R_2
              have HW25 := hid (bt HW24.out hb4.out)
              have HA25 := hid (HA24.out.later hb4.out HA24.out.lt)
              have HR25 := hid (HR24.out.later hb4.out HR24.out.lt)
              have HU25 := hid (GU.out.later hb4.out GU.out.lt)
              have SA25 := hid (And.intro (SA24.out.1.later hb4.out) (And.intro (SA24.out.2.1.later hb4.out) (And.intro (SA24.out.2.2.1.later hb4.out) (SA24.out.2.2.2.later hb4.out))))
              have SR25 := hid (And.intro (SR24.out.1.later hb4.out) (SR24.out.2.later hb4.out))
              have SU25 := hid (And.intro (SU24.out.1.later hb4.out) (SU24.out.2.later hb4.out))
              clear HW24 HA24 HR24 GU SA24 SR24 SU24
              have SO := hs4
              have QO := hq4
              clear hb4 HQ
              have GO := hid (Box.made v4 26 #[.bool ho, .slice eo rso.length ceo, .slice po tso.length cpo])
              have LO := hid (alloc_later v4 (.cells #[.bool ho, .slice eo rso.length ceo, .slice po tso.length cpo] 26))
              obtain ⟨YO, hYO⟩ : ∃ YO, v4.alloc (.cells #[.bool ho, .slice eo rso.length ceo, .slice po tso.length cpo] 26) = YO := ⟨_, rfl⟩
              rw [hYO] at GO LO
              have HW26 := hid (bt HW25.out LO.out)
              have HA26 := hid (HA25.out.later LO.out HA25.out.lt)
              have HR26 := hid (HR25.out.later LO.out HR25.out.lt)
              have HU26 := hid (HU25.out.later LO.out HU25.out.lt)
              have SA26 := hid (And.intro (SA25.out.1.later LO.out) (And.intro (SA25.out.2.1.later LO.out) (And.intro (SA25.out.2.2.1.later LO.out) (SA25.out.2.2.2.later LO.out))))
              have SR26 := hid (And.intro (SR25.out.1.later LO.out) (SR25.out.2.later LO.out))
              have SU26 := hid (And.intro (SU25.out.1.later LO.out) (SU25.out.2.later LO.out))
              have SO26 := hid (And.intro (SO.out.1.later LO.out) (SO.out.2.later LO.out))
              clear HW25 HA25 HR25 HU25 SA25 SR25 SU25 SO
              have HM := hid (tscale_good h e ce rs p cp ts s0 f r n a ca xs b cb ys m c cc us d cd vs YO SA26.out.1 SA26.out.2.1 SA26.out.2.2.1 SA26.out.2.2.2 SR26.out.1 SR26.out.2 HZ0.out HIN.out HTC.out HRK.out ⟨zshort_mul SR26.out.1.wd SR26.out.2.wd SA26.out.1.wd SA26.out.2.1.wd HRK.out HGK.out.1 HLR.out.1 HLR.out.2 HLA.out.1 HLA.out.2.1, zshort_mul SR26.out.1.wd SR26.out.2.wd SA26.out.2.2.1.wd SA26.out.2.2.2.wd HRK.out HGK.out.2 HLR.out.1 HLR.out.2 HLA.out.2.2.1 HLA.out.2.2.2⟩)
              have R_0 : YO.cell? ⟨w.heap.size + 1, 0, none⟩ = some (.bool h) := HR26.out.cell 0
              have R_1 : YO.cell? ⟨w.heap.size + 1, 1, none⟩ = some (.slice e rs.length ce) := HR26.out.cell 1
              have R_2 : YO.cell? ⟨w.heap.size + 1, 2, none⟩ = some (.slice p ts.length cp) := HR26.out.cell 2
              have A_0 : YO.cell? ⟨w.heap.size, 0, none⟩ = some (.string s0) := HA26.out.cell 0
              have A_1 : YO.cell? ⟨w.heap.size, 1, none⟩ = some (.int .i32 f) := HA26.out.cell 1
              have A_2 : YO.cell? ⟨w.heap.size, 2, none⟩ = some (.int .i32 r) := HA26.out.cell 2
              have A_3 : YO.cell? ⟨w.heap.size, 3, none⟩ = some (.bool n) := HA26.out.cell 3
              have A_4 : YO.cell? ⟨w.heap.size, 4, none⟩ = some (.slice a xs.length ca) := HA26.out.cell 4
              have A_5 : YO.cell? ⟨w.heap.size, 5, none⟩ = some (.slice b ys.length cb) := HA26.out.cell 5
              have A_6 : YO.cell? ⟨w.heap.size, 6, none⟩ = some (.bool m) := HA26.out.cell 6
              have A_7 : YO.cell? ⟨w.heap.size, 7, none⟩ = some (.slice c us.length cc) := HA26.out.cell 7
              have A_8 : YO.cell? ⟨w.heap.size, 8, none⟩ = some (.slice d vs.length cd) := HA26.out.cell 8
              go_wp2_with fail
              refine Calls.mono (HM.out) ?_
              rintro x v5 ⟨n5, a5, ca5, xs5, b5, cb5, ys5, m5, c5, cc5, us5, d5, cd5, vs5, rfl, hs5, hq5, hb5⟩
              clear R_0 R_1 R_2 A_0 A_1 A_2 A_3 A_4 A_5 A_6 A_7 A_8
              have HW27 := hid (bt HW26.out hb5.out)
              have HA27 := hid (HA26.out.later hb5.out HA26.out.lt)
              have HR27 := hid (HR26.out.later hb5.out HR26.out.lt)
              have HU27 := hid (HU26.out.later hb5.out HU26.out.lt)
              have HO27 := hid (GO.out.later hb5.out GO.out.lt)
              have SA27 := hid (And.intro (SA26.out.1.later hb5.out) (And.intro (SA26.out.2.1.later hb5.out) (And.intro (SA26.out.2.2.1.later hb5.out) (SA26.out.2.2.2.later hb5.out))))
              have SR27 := hid (And.intro (SR26.out.1.later hb5.out) (SR26.out.2.later hb5.out))
              have SU27 := hid (And.intro (SU26.out.1.later hb5.out) (SU26.out.2.later hb5.out))
              have SO27 := hid (And.intro (SO26.out.1.later hb5.out) (SO26.out.2.later hb5.out))
              clear HW26 HA26 HR26 HU26 GO SA26 SR26 SU26 SO26
              have SM := hs5
              have QM := hq5
              clear hb5 HM
              have GM := hid (Box.made v5 30 #[.string s0, .int .i32 f, .int .i32 r, .bool n5, .slice a5 xs5.length ca5, .slice b5 ys5.length cb5, .bool m5, .slice c5 us5.length cc5, .slice d5 vs5.length cd5])
              have LM := hid (alloc_later v5 (.cells #[.string s0, .int .i32 f, .int .i32 r, .bool n5, .slice a5 xs5.length ca5, .slice b5 ys5.length cb5, .bool m5, .slice c5 us5.length cc5, .slice d5 vs5.length cd5] 30))
              obtain ⟨YM, hYM⟩ : ∃ YM, v5.alloc (.cells #[.string s0, .int .i32 f, .int .i32 r, .bool n5, .slice a5 xs5.length ca5, .slice b5 ys5.length cb5, .bool m5, .slice c5 us5.length cc5, .slice d5 vs5.length cd5] 30) = YM := ⟨_, rfl⟩
              rw [hYM] at GM LM
              have HW28 := hid (bt HW27.out LM.out)
              have HA28 := hid (HA27.out.later LM.out HA27.out.lt)
              have HR28 := hid (HR27.out.later LM.out HR27.out.lt)
              have HU28 := hid (HU27.out.later LM.out HU27.out.lt)
              have HO28 := hid (HO27.out.later LM.out HO27.out.lt)
              have SA28 := hid (And.intro (SA27.out.1.later LM.out) (And.intro (SA27.out.2.1.later LM.out) (And.intro (SA27.out.2.2.1.later LM.out) (SA27.out.2.2.2.later LM.out))))
              have SR28 := hid (And.intro (SR27.out.1.later LM.out) (SR27.out.2.later LM.out))
              have SU28 := hid (And.intro (SU27.out.1.later LM.out) (SU27.out.2.later LM.out))
              have SO28 := hid (And.intro (SO27.out.1.later LM.out) (SO27.out.2.later LM.out))
              have SM28 := hid (And.intro (SM.out.1.later LM.out) (And.intro (SM.out.2.1.later LM.out) (And.intro (SM.out.2.2.1.later LM.out) (SM.out.2.2.2.later LM.out))))
              clear HW27 HA27 HR27 HU27 HO27 SA27 SR27 SU27 SO27 SM
              have HQ0 : Hid (rq h rs ts ≠ 0) := rq_zero SR28.out.1.wd SR28.out.2.wd HRK.out (fun e => HN0.out (by rw [e]; rfl))
              have HE1 : Hid (rq ho rso tso * rq n5 xs5 ys5 = rq n xs ys ∧ rq ho rso tso * rq m5 us5 vs5 = rq m us vs) := by
                rw [QO.out.2, QM.out.1.2, QM.out.2.2]
                have e1 : rq false [1] [1] = 1 := by decide +kernel
                rw [e1]
                exact ⟨zover HQ0.out _, zover HQ0.out _⟩
              have HT5 : Hid (tchk s0.data.toList f r (gchk n5 xs5 ys5 m5 us5 vs5) = 0) := by
                show _ = _
                rw [QM.out.chk, tchk_rest _ _ _ (tchk_ok HTC.out).1, (tchk_ok HTC.out).2.1, fstE_zero]
              have HNN := hid (tscale_good ho eo ceo rso po cpo tso s0 f r n5 a5 ca5 xs5 b5 cb5 ys5 m5 c5 cc5 us5 d5 cd5 vs5 YM SM28.out.1 SM28.out.2.1 SM28.out.2.2.1 SM28.out.2.2.2 SO28.out.1 SO28.out.2 HZ0.out HIN.out HT5.out QO.out.1 (by rw [HE1.out.1, HE1.out.2]; exact ⟨znotlong SA28.out.1.wd SA28.out.2.1.wd HGK.out.1, znotlong SA28.out.2.2.1.wd SA28.out.2.2.2.wd HGK.out.2⟩))
              rw [HE1.out.1, HE1.out.2] at HNN
              have O_0 : YM.cell? ⟨v4.heap.size, 0, none⟩ = some (.bool ho) := HO28.out.cell 0
              have O_1 : YM.cell? ⟨v4.heap.size, 1, none⟩ = some (.slice eo rso.length ceo) := HO28.out.cell 1
              have O_2 : YM.cell? ⟨v4.heap.size, 2, none⟩ = some (.slice po tso.length cpo) := HO28.out.cell 2
              have M_0 : YM.cell? ⟨v5.heap.size, 0, none⟩ = some (.string s0) := GM.out.cell 0
              have M_1 : YM.cell? ⟨v5.heap.size, 1, none⟩ = some (.int .i32 f) := GM.out.cell 1
              have M_2 : YM.cell? ⟨v5.heap.size, 2, none⟩ = some (.int .i32 r) := GM.out.cell 2
              have M_3 : YM.cell? ⟨v5.heap.size, 3, none⟩ = some (.bool n5) := GM.out.cell 3
              have M_4 : YM.cell? ⟨v5.heap.size, 4, none⟩ = some (.slice a5 xs5.length ca5) := GM.out.cell 4
              have M_5 : YM.cell? ⟨v5.heap.size, 5, none⟩ = some (.slice b5 ys5.length cb5) := GM.out.cell 5
              have M_6 : YM.cell? ⟨v5.heap.size, 6, none⟩ = some (.bool m5) := GM.out.cell 6
              have M_7 : YM.cell? ⟨v5.heap.size, 7, none⟩ = some (.slice c5 us5.length cc5) := GM.out.cell 7
              have M_8 : YM.cell? ⟨v5.heap.size, 8, none⟩ = some (.slice d5 vs5.length cd5) := GM.out.cell 8
              go_wp2_with fail
              refine Calls.mono (HNN.out) ?_
              rintro x v6 ⟨n6, a6, ca6, xs6, b6, cb6, ys6, m6, c6, cc6, us6, d6, cd6, vs6, rfl, hs6, hq6, hb6⟩
              clear O_0 O_1 O_2 M_0 M_1 M_2 M_3 M_4 M_5 M_6 M_7 M_8
              have HW29 := hid (bt HW28.out hb6.out)
              have HA29 := hid (HA28.out.later hb6.out HA28.out.lt)
              have HR29 := hid (HR28.out.later hb6.out HR28.out.lt)
              have HU29 := hid (HU28.out.later hb6.out HU28.out.lt)
              have HO29 := hid (HO28.out.later hb6.out HO28.out.lt)
              have HM29 := hid (GM.out.later hb6.out GM.out.lt)
              have SA29 := hid (And.intro (SA28.out.1.later hb6.out) (And.intro (SA28.out.2.1.later hb6.out) (And.intro (SA28.out.2.2.1.later hb6.out) (SA28.out.2.2.2.later hb6.out))))
              have SR29 := hid (And.intro (SR28.out.1.later hb6.out) (SR28.out.2.later hb6.out))
              have SU29 := hid (And.intro (SU28.out.1.later hb6.out) (SU28.out.2.later hb6.out))
              have SO29 := hid (And.intro (SO28.out.1.later hb6.out) (SO28.out.2.later hb6.out))
              have SM29 := hid (And.intro (SM28.out.1.later hb6.out) (And.intro (SM28.out.2.1.later hb6.out) (And.intro (SM28.out.2.2.1.later hb6.out) (SM28.out.2.2.2.later hb6.out))))
              clear HW28 HA28 HR28 HU28 HO28 GM SA28 SR28 SU28 SO28 SM28
              have SN := hs6
              have QN := hq6
              clear hb6 HNN
              have GN := hid (Box.made v6 30 #[.string s0, .int .i32 f, .int .i32 r, .bool n6, .slice a6 xs6.length ca6, .slice b6 ys6.length cb6, .bool m6, .slice c6 us6.length cc6, .slice d6 vs6.length cd6])
              have LN := hid (alloc_later v6 (.cells #[.string s0, .int .i32 f, .int .i32 r, .bool n6, .slice a6 xs6.length ca6, .slice b6 ys6.length cb6, .bool m6, .slice c6 us6.length cc6, .slice d6 vs6.length cd6] 30))
              obtain ⟨YN, hYN⟩ : ∃ YN, v6.alloc (.cells #[.string s0, .int .i32 f, .int .i32 r, .bool n6, .slice a6 xs6.length ca6, .slice b6 ys6.length cb6, .bool m6, .slice c6 us6.length cc6, .slice d6 vs6.length cd6] 30) = YN := ⟨_, rfl⟩
              rw [hYN] at GN LN
              have HW30 := hid (bt HW29.out LN.out)
              have HA30 := hid (HA29.out.later LN.out HA29.out.lt)
              have HR30 := hid (HR29.out.later LN.out HR29.out.lt)
              have HU30 := hid (HU29.out.later LN.out HU29.out.lt)
              have HO30 := hid (HO29.out.later LN.out HO29.out.lt)
              have HM30 := hid (HM29.out.later LN.out HM29.out.lt)
              have SA30 := hid (And.intro (SA29.out.1.later LN.out) (And.intro (SA29.out.2.1.later LN.out) (And.intro (SA29.out.2.2.1.later LN.out) (SA29.out.2.2.2.later LN.out))))
              have SR30 := hid (And.intro (SR29.out.1.later LN.out) (SR29.out.2.later LN.out))
              have SU30 := hid (And.intro (SU29.out.1.later LN.out) (SU29.out.2.later LN.out))
              have SO30 := hid (And.intro (SO29.out.1.later LN.out) (SO29.out.2.later LN.out))
              have SM30 := hid (And.intro (SM29.out.1.later LN.out) (And.intro (SM29.out.2.1.later LN.out) (And.intro (SM29.out.2.2.1.later LN.out) (SM29.out.2.2.2.later LN.out))))
              have SN30 := hid (And.intro (SN.out.1.later LN.out) (And.intro (SN.out.2.1.later LN.out) (And.intro (SN.out.2.2.1.later LN.out) (SN.out.2.2.2.later LN.out))))
              clear HW29 HA29 HR29 HU29 HO29 HM29 SA29 SR29 SU29 SO29 SM29 SN
              have HSM := hid (tsame_eq s0 f r f r n6 a6 ca6 xs6 b6 cb6 ys6 m6 c6 cc6 us6 d6 cd6 vs6 n a ca xs b cb ys m c cc us d cd vs YN SN30.out SA30.out QN.out (And.intro (And.intro HGK.out.1 rfl) (And.intro HGK.out.2 rfl)) rfl rfl)
              have N_0 : YN.cell? ⟨v6.heap.size, 0, none⟩ = some (.string s0) := GN.out.cell 0
              have N_1 : YN.cell? ⟨v6.heap.size, 1, none⟩ = some (.int .i32 f) := GN.out.cell 1
              have N_2 : YN.cell? ⟨v6.heap.size, 2, none⟩ = some (.int .i32 r) := GN.out.cell 2
              have N_3 : YN.cell? ⟨v6.heap.size, 3, none⟩ = some (.bool n6) := GN.out.cell 3
              have N_4 : YN.cell? ⟨v6.heap.size, 4, none⟩ = some (.slice a6 xs6.length ca6) := GN.out.cell 4
              have N_5 : YN.cell? ⟨v6.heap.size, 5, none⟩ = some (.slice b6 ys6.length cb6) := GN.out.cell 5
              have N_6 : YN.cell? ⟨v6.heap.size, 6, none⟩ = some (.bool m6) := GN.out.cell 6
              have N_7 : YN.cell? ⟨v6.heap.size, 7, none⟩ = some (.slice c6 us6.length cc6) := GN.out.cell 7
              have N_8 : YN.cell? ⟨v6.heap.size, 8, none⟩ = some (.slice d6 vs6.length cd6) := GN.out.cell 8
              have A_0 : YN.cell? ⟨w.heap.size, 0, none⟩ = some (.string s0) := HA30.out.cell 0
              have A_1 : YN.cell? ⟨w.heap.size, 1, none⟩ = some (.int .i32 f) := HA30.out.cell 1
              have A_2 : YN.cell? ⟨w.heap.size, 2, none⟩ = some (.int .i32 r) := HA30.out.cell 2
              have A_3 : YN.cell? ⟨w.heap.size, 3, none⟩ = some (.bool n) := HA30.out.cell 3
              have A_4 : YN.cell? ⟨w.heap.size, 4, none⟩ = some (.slice a xs.length ca) := HA30.out.cell 4
              have A_5 : YN.cell? ⟨w.heap.size, 5, none⟩ = some (.slice b ys.length cb) := HA30.out.cell 5
              have A_6 : YN.cell? ⟨w.heap.size, 6, none⟩ = some (.bool m) := HA30.out.cell 6
              have A_7 : YN.cell? ⟨w.heap.size, 7, none⟩ = some (.slice c us.length cc) := HA30.out.cell 7
              have A_8 : YN.cell? ⟨w.heap.size, 8, none⟩ = some (.slice d vs.length cd) := HA30.out.cell 8
              go_wp2_with fail
              refine Calls.mono (HSM.out) ?_
              rintro x v7 ⟨rfl, hb7⟩
              clear N_0 N_1 N_2 N_3 N_4 N_5 N_6 N_7 N_8 A_0 A_1 A_2 A_3 A_4 A_5 A_6 A_7 A_8
              have HW31 := hid (bt HW30.out hb7)
              have HA31 := hid (HA30.out.later hb7 HA30.out.lt)
              have HR31 := hid (HR30.out.later hb7 HR30.out.lt)
              have HU31 := hid (HU30.out.later hb7 HU30.out.lt)
              have HO31 := hid (HO30.out.later hb7 HO30.out.lt)
              have HM31 := hid (HM30.out.later hb7 HM30.out.lt)
              have HN31 := hid (GN.out.later hb7 GN.out.lt)
              have SA31 := hid (And.intro (SA30.out.1.later hb7) (And.intro (SA30.out.2.1.later hb7) (And.intro (SA30.out.2.2.1.later hb7) (SA30.out.2.2.2.later hb7))))
              have SR31 := hid (And.intro (SR30.out.1.later hb7) (SR30.out.2.later hb7))
              have SU31 := hid (And.intro (SU30.out.1.later hb7) (SU30.out.2.later hb7))
              have SO31 := hid (And.intro (SO30.out.1.later hb7) (SO30.out.2.later hb7))
              have SM31 := hid (And.intro (SM30.out.1.later hb7) (And.intro (SM30.out.2.1.later hb7) (And.intro (SM30.out.2.2.1.later hb7) (SM30.out.2.2.2.later hb7))))
              have SN31 := hid (And.intro (SN30.out.1.later hb7) (And.intro (SN30.out.2.1.later hb7) (And.intro (SN30.out.2.2.1.later hb7) (SN30.out.2.2.2.later hb7))))
              clear HW30 HA30 HR30 HU30 HO30 HM30 GN SA30 SR30 SU30 SO30 SM30 SN30
              clear hb7 HSM
              go_wp2_with fail
              go_ret
              exact ⟨rfl, HW31.out⟩
          · have R_0 : uB.cell? ⟨w.heap.size + 1, 0, none⟩ = some (.bool h) := HR20.out.cell 0
            have R_1 : uB.cell? ⟨w.heap.size + 1, 1, none⟩ = some (.slice e rs.length ce) := HR20.out.cell 1
            have R_2 : uB.cell? ⟨w.heap.size + 1, 2, none⟩ = some (.slice p ts.length cp) := HR20.out.cell 2
            go_wp2_with fail
            refine Calls.mono (rcheck_any h _ rs _ ts uB SR20.out.1 SR20.out.2) ?_
            rintro x v1 ⟨rfl, hb1⟩
            clear R_0 R_1 R_2
            have hrk1 : (rchk h rs ts == 0) = false := by simp [hrk]
            have hrk2 : (rchk h rs ts != 0) = true := by simp [hrk]
            have HZ := hid (bt HW20.out hb1)
            clear hb1
            go_wp2_with fail
            go_ret
            exact ⟨rfl, HZ.out⟩
        · have hsm' : (decide ((xs.length : Int) ≤ 20) && decide ((ys.length : Int) ≤ 20) && (decide ((us.length : Int) ≤ 20) && decide ((vs.length : Int) ≤ 20))) = false := by simpa using hsm
          rw [hsm']
          clear hsm hsm' HSMA
          go_wp2_with fail
          go_ret
          exact ⟨rfl, HW6.out⟩
      · have q1_ : (tchk s0.data.toList f r (gchk n xs ys m us vs) == 0) = false := by simp [hTC]
        have q2_ : (tchk s0.data.toList f r (gchk n xs ys m us vs) != 0) = true := by simp [hTC]
        generalize tchk s0.data.toList f r (gchk n xs ys m us vs) = TC at *
        go_wp2_with fail
        go_ret
        exact ⟨rfl, HW5.out⟩
end Go.Proofs.YtiaebiaeolaocaaGreatDoor

/- TideBack, of arguments as they come in. -/
namespace Go.Proofs.YtiaebiaeolaocaaGreatDoor
open Go.RowKit
set_option linter.unusedVariables false

theorem in32_wf {f g : Int} (h : (Lit.int .i32 f).wf = true ∧ (Lit.int .i32 g).wf = true) : in32 f g := by
  have h1 : IntKind.i32.min = -2147483648 := rfl
  have h2 : IntKind.i32.max = 2147483647 := rfl
  obtain ⟨a, b⟩ := h
  simp [Lit.wf, Bool.and_eq_true] at a b
  unfold in32
  omega
theorem tideBack_in (s : ByteArray) (f g : Int) (n : Bool) (a : Option Addr) (ka ca : Nat) (xs : List Int) (b : Option Addr) (kb cb : Nat) (ys : List Int) (m : Bool) (c : Option Addr) (kc cc : Nat) (us : List Int) (d : Option Addr) (kd cd : Nat) (vs : List Int) (h : Bool) (e : Option Addr) (ke ce : Nat) (rs : List Int) (p : Option Addr) (kp cp : Nat) (ts : List Int) (t : ByteArray) (w : World) (hz : s.size ≤ maxLen) (hr : in32 f g) (ht : t.size ≤ maxLen) (h1 : Reads w w.heap.size a ka ca xs) (h2 : Reads w w.heap.size b kb cb ys) (h3 : Reads w w.heap.size c kc cc us) (h4 : Reads w w.heap.size d kd cd vs) (h5 : Reads w w.heap.size e ke ce rs) (h6 : Reads w w.heap.size p kp cp ts) (htab : Tab w) (herr : ErrT w) :
    Calls Tryz.prog 3 #[.agg #[.string s, .int .i32 f, .int .i32 g, .bool n, .slice a ka ca, .slice b kb cb, .bool m, .slice c kc cc, .slice d kd cd], .agg #[.bool h, .slice e ke ce, .slice p kp cp], .string t] w fun x w' => x = .returned (.bool true) ∧ Below w.heap.size w w' := by
  have e1 := h1.1; have e2 := h2.1; have e3 := h3.1; have e4 := h4.1; have e5 := h5.1; have e6 := h6.1
  subst e1; subst e2; subst e3; subst e4; subst e5; subst e6
  have hm : maxLen ≤ 9223372036854775807 := by unfold maxLen; omega
  exact tideBack_walk s f g n a ca xs b cb ys m c cc us d cd vs h e ce rs p cp ts t w (by omega) hr (by omega) ⟨_, _, rfl, h1⟩ ⟨_, _, rfl, h2⟩ ⟨_, _, rfl, h3⟩ ⟨_, _, rfl, h4⟩ ⟨_, _, rfl, h5⟩ ⟨_, _, rfl, h6⟩ htab herr
end Go.Proofs.YtiaebiaeolaocaaGreatDoor

