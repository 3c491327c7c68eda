/- The law NatLists answers true, and writes nothing that was there: whatever two lists and number come in. -/
import Derived.Test.YtepbacikhmagpaaLaw
namespace Go.Proofs.Ytepbacikhmagpaa
open Go.RowKit
set_option linter.unusedVariables false

theorem own_slice {w : World} {base e n : Nat} {v : Value} {xs : List Value} (h : w.ownsRow base e 1 v n xs) : ∃ a cap, v = .slice a n cap := by
  rcases h.2 with ⟨h1, h0⟩ | ⟨g, cap, cur, hv, _⟩
  · subst h0; exact ⟨_, _, h1⟩
  · exact ⟨_, _, hv⟩
theorem own_shape {w : World} {base e n : Nat} {v : Value} {xs : List Value} (h : w.ownsRow base e 1 v n xs) (hn : 0 < n) : ∃ g cap, v = .slice (some ⟨g, 0, none⟩) n cap ∧ n ≤ cap ∧ cap ≤ maxLen := by
  rcases h.2 with ⟨_, h0⟩ | ⟨g, cap, cur, hv, _, _, h1, h2, _⟩
  · omega
  · exact ⟨g, cap, hv, h1, h2⟩

/-- Five lists of the call's own, made one behind the other, in a list of lists. -/
theorem five_lists {w : World} {b b1 b2 b3 b4 b5 n1 n2 n3 n4 n5 : Nat} {v1 v2 v3 v4 v5 : Value} {x1 x2 x3 x4 x5 : List Int} {c1 c2 c3 c4 c5 c6 : Nat}
    (o1 : w.ownsRow b1 42 1 v1 n1 (x1.map (Value.int .u32))) (d1 : Wd x1) (l1 : x1.length ≤ 1000000) (e1 : b ≤ b1)
    (o2 : w.ownsRow b2 42 1 v2 n2 (x2.map (Value.int .u32))) (d2 : Wd x2) (l2 : x2.length ≤ 1000000) (e2 : b ≤ b2)
    (o3 : w.ownsRow b3 42 1 v3 n3 (x3.map (Value.int .u32))) (d3 : Wd x3) (l3 : x3.length ≤ 1000000) (e3 : b ≤ b3)
    (o4 : w.ownsRow b4 42 1 v4 n4 (x4.map (Value.int .u32))) (d4 : Wd x4) (l4 : x4.length ≤ 1000000) (e4 : b ≤ b4)
    (o5 : w.ownsRow b5 42 1 v5 n5 (x5.map (Value.int .u32))) (d5 : Wd x5) (l5 : x5.length ≤ 1000000) (e5 : b ≤ b5)
    (i1 : Within v1 c1 c2) (m1 : c1 ≤ c2) (i2 : Within v2 c2 c3) (m2 : c2 ≤ c3) (i3 : Within v3 c3 c4) (m3 : c3 ≤ c4) (i4 : Within v4 c4 c5) (m4 : c4 ≤ c5) (i5 : Within v5 c5 c6) (m5 : c5 ≤ c6) :
    Lists (w.alloc (.cells #[v1, v2, v3, v4, v5] 22)) b w.heap.size 5 (fun j => [v1, v2, v3, v4, v5][j]?.getD undef) (fun j => [x1, x2, x3, x4, x5][j]?.getD []) := by
  have k1 : x1.length = n1 := by have := o1.1; simpa using this
  have k2 : x2.length = n2 := by have := o2.1; simpa using this
  have k3 : x3.length = n3 := by have := o3.1; simpa using this
  have k4 : x4.length = n4 := by have := o4.1; simpa using this
  have k5 : x5.length = n5 := by have := o5.1; simpa using this
  subst k1; subst k2; subst k3; subst k4; subst k5
  refine ⟨fun j hj => ?_, fun j hj => ?_, fun j hj => ?_, apart_of (fun j => [c1, c2, c3, c4, c5, c6][j]?.getD 0) (fun j hj => ?_) (fun j hj => ?_), ⟨_, heap_alloc_new w _, fun j hj => ?_⟩⟩
  · match j, hj with
    | 0, _ => exact d1
    | 1, _ => exact d2
    | 2, _ => exact d3
    | 3, _ => exact d4
    | 4, _ => exact d5
  · match j, hj with
    | 0, _ => show x1.length ≤ _; omega
    | 1, _ => show x2.length ≤ _; omega
    | 2, _ => show x3.length ≤ _; omega
    | 3, _ => show x4.length ≤ _; omega
    | 4, _ => show x5.length ≤ _; omega
  · match j, hj with
    | 0, _ => exact owns_base (o1.alloc _) e1
    | 1, _ => exact owns_base (o2.alloc _) e2
    | 2, _ => exact owns_base (o3.alloc _) e3
    | 3, _ => exact owns_base (o4.alloc _) e4
    | 4, _ => exact owns_base (o5.alloc _) e5
  · match j, hj with
    | 0, _ => exact m1
    | 1, _ => exact m2
    | 2, _ => exact m3
    | 3, _ => exact m4
    | 4, _ => exact m5
  · match j, hj with
    | 0, _ => exact i1
    | 1, _ => exact i2
    | 2, _ => exact i3
    | 3, _ => exact i4
    | 4, _ => exact i5
  · match j, hj with
    | 0, _ => rfl
    | 1, _ => rfl
    | 2, _ => rfl
    | 3, _ => rfl
    | 4, _ => rfl

set_option maxHeartbeats 3200000 in
set_option maxRecDepth 100000 in
theorem natLists_walk (a0 : Option Addr) (n0 cap0 : Nat) (xs : List Int) (a1 : Option Addr) (n1 cap1 : Nat) (ys : List Int) (x : Int) (w : World)
    (h : Reads w w.heap.size a0 n0 cap0 xs) (g : Reads w w.heap.size a1 n1 cap1 ys) (x0 : 0 ≤ x) (x1 : x ≤ 18446744073709551615) :
    Calls Try.prog 3 #[.slice a0 n0 cap0, .slice a1 n1 cap1, .int .u64 x] w fun e w' => e = .returned (.bool true) ∧ Below w.heap.size w w' := by
  have hn0 : n0 ≤ 9223372036854775807 := by have := h.2.2.2.1; have := h.2.2.2.2.1; unfold maxLen at this; omega
  have hn1 : n1 ≤ 9223372036854775807 := by have := g.2.2.2.1; have := g.2.2.2.2.1; unfold maxLen at this; omega
  by_cases hv0 : heavy n0 = true
  · have HC := hid (heavy_any a0 n0 cap0 w hn0)
    rw [hv0] at HC
    clear h g hv0
    go_enter Try.func3, Try.ntmps3
    go_wp2_with fail
    refine Calls.mono HC.out ?_
    rintro e w' ⟨rfl, rfl⟩
    go_wp2_with fail
    go_ret
    exact ⟨rfl, Below.refl _ _⟩
  · have hv0 : heavy n0 = false := by simpa using hv0
    have HC0 := hid (heavy_any a0 n0 cap0 w hn0)
    rw [hv0] at HC0
    by_cases hv1 : heavy n1 = true
    · have HC := hid (heavy_any a1 n1 cap1 w hn1)
      rw [hv1] at HC
      clear h g hv0 hv1
      go_enter Try.func3, Try.ntmps3
      go_wp2_with fail
      refine Calls.mono HC0.out ?_
      rintro e w' ⟨rfl, rfl⟩
      go_wp2_with fail
      refine Calls.mono HC.out ?_
      rintro e w' ⟨rfl, rfl⟩
      go_wp2_with fail
      go_ret
      exact ⟨rfl, Below.refl _ _⟩
    · have hv1 : heavy n1 = false := by simpa using hv1
      have HC1 := hid (heavy_any a1 n1 cap1 w hn1)
      rw [hv1] at HC1
      have b0 : n0 ≤ 8201 := by unfold heavy at hv0; have := of_decide_eq_false hv0; omega
      have b1 : n1 ≤ 8201 := by unfold heavy at hv1; have := of_decide_eq_false hv1; omega
      have lx := h.1
      have ly := g.1
      have wx := h.2.1
      have wy := g.2.1
      have sx := sz_le xs
      have sa : Sl w (.slice a0 n0 cap0) xs := ⟨a0, cap0, by rw [lx], by rw [lx]; exact h⟩
      have sb : Sl w (.slice a1 n1 cap1) ys := ⟨a1, cap1, by rw [ly], by rw [ly]; exact g⟩
      have LX := hid lx
      have LY := hid ly
      clear h g hv0 hv1 lx ly hn0 hn1
      go_enter Try.func3, Try.ntmps3
      go_wp2_with fail
      refine Calls.mono HC0.out ?_
      rintro e w' ⟨rfl, rfl⟩
      go_wp2_with fail
      refine Calls.mono HC1.out ?_
      rintro e w' ⟨rfl, rfl⟩
      clear HC0 HC1
      go_wp2_with fail
      refine (lentWords_sl _ xs _ sa (by rw [LX.out]; omega)).mono ?_
      rintro e w1 ⟨vf, rfl, of, hb1⟩
      replace sa := sa.later hb1
      replace sb := sb.later hb1
      go_wp2_with fail
      refine (lentWords_sl _ ys _ sb (by rw [LY.out]; omega)).mono ?_
      rintro e w2 ⟨vm, rfl, om, hb2⟩
      have of2 := owns_later of hb2
      replace sa := sa.later hb2
      replace sb := sb.later hb2
      go_wp2_with fail
      rw [LX.out] at of2
      rw [LY.out] at om
      obtain ⟨gf, capf, hvf, hcf, hcmf⟩ := own_shape of2 (by omega)
      obtain ⟨gm, capm, hvm, hcm, hcmm⟩ := own_shape om (by omega)
      rw [hvf, hvm]
      have hcmf' : capf ≤ 9223372036854775807 := by unfold maxLen at hcmf; omega
      have hcmm' : capm ≤ 9223372036854775807 := by unfold maxLen at hcmm; omega
      clear hcmf hcmm
      go_region
      go_wp2_with fail
      have hb3 : Below w.heap.size w w2.drew := (bt hb1 hb2).drew
      have hb12 : Below w1.heap.size w1 w2.drew := hb2.drew
      have sp : Sl w2.drew (.slice (some ⟨gf, 0, none⟩) n0 capf) xs := by
        rw [hvf, List.map_append] at of2
        exact Sl.own (w := w2) (owns_front (k := 3) of2 (by simp [LX.out])) wx
      have sq : Sl w2.drew (.slice (some ⟨gm, 0, none⟩) n1 capm) ys := by
        rw [hvm, List.map_append] at om
        exact Sl.own (w := w2) (owns_front (k := 3) om (by simp [LY.out])) wy
      have of3 : w2.drew.ownsRow w.heap.size 42 1 (.slice (some ⟨gf, 0, none⟩) (n0 + 3) capf) (n0 + 3) ((xs ++ marks 3).map (Value.int .u32)) := by rw [hvf] at of2; exact of2
      have om3 : w2.drew.ownsRow w1.heap.size 42 1 (.slice (some ⟨gm, 0, none⟩) (n1 + 3) capm) (n1 + 3) ((ys ++ marks 3).map (Value.int .u32)) := by rw [hvm] at om; exact om
      replace sa : Sl w2.drew _ xs := sa
      replace sb : Sl w2.drew _ ys := sb
      obtain ⟨W, hW⟩ : ∃ W, W = w2.drew := ⟨_, rfl⟩
      rw [← hW] at hb3 hb12 sp sq of3 om3 sa sb ⊢
      clear hW of of2 om hb1 hb2 hvf hvm
      have s0 : w.heap.size ≤ W.heap.size := hb3.size
      have inF : Within (.slice (some ⟨gf, 0, none⟩) (n0 + 3) capf) w.heap.size W.heap.size := Within.own of3 (Nat.le_refl _)
      have lnx : xs.length ≤ 8201 := by rw [LX.out]; exact b0
      have lny : ys.length ≤ 8201 := by rw [LY.out]; exact b1
      have wt := wx.trimmed
      have wo := (of_wd x x0 x1).trimmed
      have lt : (trimmed xs).length ≤ 8201 := by rw [length_trimmed]; omega
      have lo : (trimmed [x % 4294967296, x / 4294967296]).length ≤ 2 := by rw [length_trimmed]; exact sz_le _
      obtain ⟨T, hT⟩ : ∃ T, T = trimmed xs := ⟨_, rfl⟩
      obtain ⟨O, hO⟩ : ∃ O, O = trimmed [x % 4294967296, x / 4294967296] := ⟨_, rfl⟩
      have CT := fun v W h => trim_sl v xs W h (by omega)
      have CRT := fun v W h => refTrim_sl v xs W h (by omega)
      have CO := fun W => of_any x W x0 x1
      have CRO := fun W => refOf_any x W x0 x1
      rw [← hT] at wt lt CT CRT
      rw [← hO] at wo lo CO CRO
      have HCT := hid CT
      have HCRT := hid CRT
      have HCO := hid CO
      have HCRO := hid CRO
      clear hT hO CT CRT CO CRO sx LX LY
      refine (HCT.out _ _ sp).mono ?_
      rintro e w3 ⟨vt, rfl, ot, hb⟩
      have invt : Within vt W.heap.size w3.heap.size := Within.own ot (Nat.le_refl _)
      have hszw3 := hb.size
      replace sa := sa.later hb
      replace sb := sb.later hb
      replace sp := sp.later hb
      replace sq := sq.later hb
      replace of3 := owns_later of3 hb
      replace om3 := owns_later om3 hb
      replace hb3 := bt hb3 hb
      clear hb
      go_wp2_with fail
      refine (HCT.out _ _ sp).mono ?_
      rintro e w4 ⟨vu, rfl, ou, hb⟩
      have invu : Within vu w3.heap.size w4.heap.size := Within.own ou (Nat.le_refl _)
      have hszw4 := hb.size
      replace sa := sa.later hb
      replace sb := sb.later hb
      replace sp := sp.later hb
      replace sq := sq.later hb
      replace of3 := owns_later of3 hb
      replace om3 := owns_later om3 hb
      replace ot := owns_later ot hb
      replace hb3 := bt hb3 hb
      clear hb
      go_wp2_with fail
      refine (HCO.out _).mono ?_
      rintro e w5 ⟨vo, rfl, oo, hb⟩
      have invo : Within vo w4.heap.size w5.heap.size := Within.own oo (Nat.le_refl _)
      have hszw5 := hb.size
      replace sa := sa.later hb
      replace sb := sb.later hb
      replace sp := sp.later hb
      replace sq := sq.later hb
      replace of3 := owns_later of3 hb
      replace om3 := owns_later om3 hb
      replace ot := owns_later ot hb
      replace ou := owns_later ou hb
      replace hb3 := bt hb3 hb
      clear hb
      go_wp2_with fail
      refine (HCO.out _).mono ?_
      rintro e w6 ⟨vr, rfl, oq, hb⟩
      have invr : Within vr w5.heap.size w6.heap.size := Within.own oq (Nat.le_refl _)
      have hszw6 := hb.size
      replace sa := sa.later hb
      replace sb := sb.later hb
      replace sp := sp.later hb
      replace sq := sq.later hb
      replace of3 := owns_later of3 hb
      replace om3 := owns_later om3 hb
      replace ot := owns_later ot hb
      replace ou := owns_later ou hb
      replace oo := owns_later oo hb
      replace hb3 := bt hb3 hb
      clear hb
      go_wp2_with fail
      refine (uint64_sl _ xs _ sp (by omega)).mono ?_
      rintro e w7 ⟨rfl, hb⟩
      replace sa := sa.later hb
      replace sb := sb.later hb
      replace sp := sp.later hb
      replace sq := sq.later hb
      replace of3 := owns_later of3 hb
      replace om3 := owns_later om3 hb
      replace ot := owns_later ot hb
      replace ou := owns_later ou hb
      replace oo := owns_later oo hb
      replace oq := owns_later oq hb
      replace hb3 := bt hb3 hb
      clear hb
      go_wp2_with fail
      refine (refUint64_sl _ xs _ sa (by omega)).mono ?_
      rintro e w8 ⟨rfl, hb⟩
      replace sa := sa.later hb
      replace sb := sb.later hb
      replace sp := sp.later hb
      replace sq := sq.later hb
      replace of3 := owns_later of3 hb
      replace om3 := owns_later om3 hb
      replace ot := owns_later ot hb
      replace ou := owns_later ou hb
      replace oo := owns_later oo hb
      replace oq := owns_later oq hb
      replace hb3 := bt hb3 hb
      clear hb
      go_wp2_with fail
      refine (check_sl _ xs _ sp (by omega)).mono ?_
      rintro e w' ⟨rfl, rfl⟩
      go_wp2_with fail
      refine (refCheck_sl _ xs _ sa (by omega)).mono ?_
      rintro e w' ⟨rfl, rfl⟩
      go_wp2_with fail
      refine (compare_sl _ _ xs ys _ sp sq (by omega) (by omega)).mono ?_
      rintro e w9 ⟨rfl, hb⟩
      replace sa := sa.later hb
      replace sb := sb.later hb
      replace sp := sp.later hb
      replace sq := sq.later hb
      replace of3 := owns_later of3 hb
      replace om3 := owns_later om3 hb
      replace ot := owns_later ot hb
      replace ou := owns_later ou hb
      replace oo := owns_later oo hb
      replace oq := owns_later oq hb
      replace hb3 := bt hb3 hb
      clear hb
      go_wp2_with fail
      refine (refCompare_sl _ _ xs ys _ sa sb (by omega) (by omega)).mono ?_
      rintro e w' ⟨rfl, rfl⟩
      go_wp2_with fail
      refine (bits_sl _ xs _ sp (by omega)).mono ?_
      rintro e w' ⟨rfl, rfl⟩
      go_wp2_with fail
      refine (refBits_sl _ xs _ sa (by omega)).mono ?_
      rintro e w10 ⟨rfl, hb⟩
      replace sa := sa.later hb
      replace sb := sb.later hb
      replace sp := sp.later hb
      replace sq := sq.later hb
      replace of3 := owns_later of3 hb
      replace om3 := owns_later om3 hb
      replace ot := owns_later ot hb
      replace ou := owns_later ou hb
      replace oo := owns_later oo hb
      replace oq := owns_later oq hb
      replace hb3 := bt hb3 hb
      clear hb
      clear sp sq
      have dT : decide (T = T) = true := by simp
      have dO : decide (O = O) = true := by simp
      go_wp2_with fail
      refine (HCRT.out _ _ sa).mono ?_
      rintro e w11 ⟨vt2, rfl, ot2, hb⟩
      replace sa := sa.later hb
      replace sb := sb.later hb
      replace of3 := owns_later of3 hb
      replace om3 := owns_later om3 hb
      replace ot := owns_later ot hb
      replace ou := owns_later ou hb
      replace oo := owns_later oo hb
      replace oq := owns_later oq hb
      replace hb3 := bt hb3 hb
      clear hb
      go_wp2_with fail
      refine (same_sl _ _ T T _ (Sl.own ot wt) (Sl.own ot2 wt) (by omega) (by omega)).mono ?_
      rintro e w12 ⟨rfl, hb⟩
      replace sa := sa.later hb
      replace sb := sb.later hb
      replace of3 := owns_later of3 hb
      replace om3 := owns_later om3 hb
      replace ot := owns_later ot hb
      replace ou := owns_later ou hb
      replace oo := owns_later oo hb
      replace oq := owns_later oq hb
      replace hb3 := bt hb3 hb
      clear hb
      clear ot2
      go_wp2_with fail
      refine (same_sl _ _ T T _ (Sl.own ou wt) (Sl.own ot wt) (by omega) (by omega)).mono ?_
      rintro e w13 ⟨rfl, hb⟩
      replace sa := sa.later hb
      replace sb := sb.later hb
      replace of3 := owns_later of3 hb
      replace om3 := owns_later om3 hb
      replace ot := owns_later ot hb
      replace ou := owns_later ou hb
      replace oo := owns_later oo hb
      replace oq := owns_later oq hb
      replace hb3 := bt hb3 hb
      clear hb
      go_wp2_with fail
      refine (HCRO.out _).mono ?_
      rintro e w14 ⟨vo2, rfl, oo2, hb⟩
      replace sa := sa.later hb
      replace sb := sb.later hb
      replace of3 := owns_later of3 hb
      replace om3 := owns_later om3 hb
      replace ot := owns_later ot hb
      replace ou := owns_later ou hb
      replace oo := owns_later oo hb
      replace oq := owns_later oq hb
      replace hb3 := bt hb3 hb
      clear hb
      go_wp2_with fail
      refine (same_sl _ _ O O _ (Sl.own oo wo) (Sl.own oo2 wo) (by omega) (by omega)).mono ?_
      rintro e w15 ⟨rfl, hb⟩
      replace sa := sa.later hb
      replace sb := sb.later hb
      replace of3 := owns_later of3 hb
      replace om3 := owns_later om3 hb
      replace ot := owns_later ot hb
      replace ou := owns_later ou hb
      replace oo := owns_later oo hb
      replace oq := owns_later oq hb
      replace hb3 := bt hb3 hb
      clear hb
      clear oo2
      go_wp2_with fail
      refine (same_sl _ _ O O _ (Sl.own oq wo) (Sl.own oo wo) (by omega) (by omega)).mono ?_
      rintro e w16 ⟨rfl, hb⟩
      replace sa := sa.later hb
      replace sb := sb.later hb
      replace of3 := owns_later of3 hb
      replace om3 := owns_later om3 hb
      replace ot := owns_later ot hb
      replace ou := owns_later ou hb
      replace oo := owns_later oo hb
      replace oq := owns_later oq hb
      replace hb3 := bt hb3 hb
      clear hb
      have wf : Wd (xs ++ marks 3) := wx.append (Wd.marks 3)
      have wm : Wd (ys ++ marks 3) := wy.append (Wd.marks 3)
      have lf : (xs ++ marks 3).length ≤ 8204 := by rw [List.length_append, marks_len 3 (by omega)]; omega
      have lm : (ys ++ marks 3).length ≤ 8204 := by rw [List.length_append, marks_len 3 (by omega)]; omega
      have dF : decide (xs ++ marks 3 = xs ++ marks 3) = true := by simp
      have dM : decide (ys ++ marks 3 = ys ++ marks 3) = true := by simp
      go_wp2_with fail
      refine (keptWords_sl _ _ (xs ++ marks 3) xs _ (Sl.own of3 wf) sa (by omega) (by omega)).mono ?_
      rintro e w17 ⟨rfl, hb⟩
      replace sa := sa.later hb
      replace sb := sb.later hb
      replace of3 := owns_later of3 hb
      replace om3 := owns_later om3 hb
      replace ot := owns_later ot hb
      replace ou := owns_later ou hb
      replace oo := owns_later oo hb
      replace oq := owns_later oq hb
      replace hb3 := bt hb3 hb
      clear hb
      go_wp2_with fail
      refine (keptWords_sl _ _ (ys ++ marks 3) ys _ (Sl.own om3 wm) sb (by omega) (by omega)).mono ?_
      rintro e w18 ⟨rfl, hb⟩
      replace sa := sa.later hb
      replace sb := sb.later hb
      replace of3 := owns_later of3 hb
      replace om3 := owns_later om3 hb
      replace ot := owns_later ot hb
      replace ou := owns_later ou hb
      replace oo := owns_later oo hb
      replace oq := owns_later oq hb
      replace hb3 := bt hb3 hb
      clear hb
      clear sa sb dT dO dF dM HCT HCRT HCO HCRO
      obtain ⟨at', ct, ht⟩ := own_slice ot
      obtain ⟨au, cu, hu⟩ := own_slice ou
      obtain ⟨ao, co, ho⟩ := own_slice oo
      obtain ⟨aq, cq, hq⟩ := own_slice oq
      rw [ht] at ot invt
      rw [hu] at ou invu
      rw [ho] at oo invo
      rw [hq] at oq invr
      rw [ht, hu, ho, hq]
      have HL := hid (five_lists (b := w.heap.size) of3 wf (by omega) (Nat.le_refl _) ot wt (by omega) (by omega) ou wt (by omega) (by omega) oo wo (by omega) (by omega) oq wo (by omega) (by omega) inF s0 invt (by omega) invu (by omega) invo (by omega) invr (by omega))
      clear ht hu ho hq of3 om3 ot ou oo oq
      go_wp2_with fail
      refine (apart_any w.heap.size _ 5 _ _ _ HL.out (by omega) (by have := hb3.size; simp; omega)).mono ?_
      rintro e w19 ⟨rfl, hb⟩
      have hbe : Below w.heap.size w w19 := (hb3.alloc hb3.size _).trans hb
      go_wp2_with fail
      go_ret
      exact ⟨rfl, hbe⟩
end Go.Proofs.Ytepbacikhmagpaa
