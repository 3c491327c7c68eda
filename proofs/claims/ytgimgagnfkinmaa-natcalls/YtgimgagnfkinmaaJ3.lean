/- My texts on the way to NatCalls, one behind the other: contracts of the program and of the document's answers. -/
import Derived.Test.YtgimgagnfkinmaaJ2
/- The law NatCalls answers true, and writes nothing that was there: whatever two lists come in. -/
namespace Go.Proofs.Ytgimgagnfkinmaa
open Go.RowKit
set_option linter.unusedVariables false

theorem own_slice {w : World} {base e n : Nat} {v : Value} {xs : List Value} (h : w.ownsRow base e 1 v n xs) : ∃ a cap, v = .slice a n cap := by
  rcases h.2 with ⟨h1, h0⟩ | ⟨g, cap, cur, hv, _⟩
  · subst h0; exact ⟨_, _, h1⟩
  · exact ⟨_, _, hv⟩
theorem own_shape {w : World} {base e n : Nat} {v : Value} {xs : List Value} (h : w.ownsRow base e 1 v n xs) (hn : 0 < n) : ∃ g cap, v = .slice (some ⟨g, 0, none⟩) n cap ∧ n ≤ cap ∧ cap ≤ maxLen := by
  rcases h.2 with ⟨_, h0⟩ | ⟨g, cap, cur, hv, _, _, h1, h2, _⟩
  · omega
  · exact ⟨g, cap, hv, h1, h2⟩

theorem Within.up {v : Value} {lo hi hi' : Nat} (h : Within v lo hi) (hh : hi ≤ hi') : Within v lo hi' := fun g hg => by have := h g hg; omega
theorem bt_alloc {a w w' : World} {o : Obj} (h : Below a.heap.size a w) (hb : Below a.heap.size (w.alloc o) w') : Below a.heap.size a w' := (h.alloc h.size _).trans hb
theorem apart_perm {m : Nat} {V : Nat → Value} (c p : Nat → Nat) (hc : ∀ k, k < m → c k ≤ c (k + 1)) (hp : ∀ k, k < m → p k < m) (hi : ∀ i, i < m → ∀ j, j < m → p i = p j → i = j) (hv : ∀ k, k < m → Within (V k) (c (p k)) (c (p k + 1))) :
    ∀ i j, i < m → j < m → i ≠ j → (V i).ownBlock = none ∨ (V i).ownBlock ≠ (V j).ownBlock := by
  have mono : ∀ d i, i + d ≤ m → c i ≤ c (i + d) := by
    intro d
    induction d with
    | zero => intro i _; exact Nat.le_refl _
    | succ d ih =>
      intro i h
      have h1 := ih i (by omega)
      have h2 := hc (i + d) (by omega)
      show c i ≤ c (i + d + 1)
      omega
  intro i j hi' hj' hij
  cases e1 : (V i).ownBlock with
  | none => exact .inl rfl
  | some g =>
    right
    intro e2
    have a1 := hv i hi' g e1
    have a2 := hv j hj' g e2.symm
    have pi := hp i hi'
    have pj := hp j hj'
    have hne : p i ≠ p j := fun e => hij (hi i hi' j hj' e)
    rcases Nat.lt_or_gt_of_ne hne with h | h
    · have := mono (p j - (p i + 1)) (p i + 1) (by omega)
      rw [show p i + 1 + (p j - (p i + 1)) = p j by omega] at this
      omega
    · have := mono (p i - (p j + 1)) (p j + 1) (by omega)
      rw [show p j + 1 + (p i - (p j + 1)) = p i by omega] at this
      omega
/-- 14 lists of the call's own, made one behind the other, in a list of lists. -/
theorem fourteen_lists {w : World} {b b1 b2 b3 b4 b5 b6 b7 b8 b9 b10 b11 b12 b13 b14 n1 n2 n3 n4 n5 n6 n7 n8 n9 n10 n11 n12 n13 n14 : Nat} {v1 v2 v3 v4 v5 v6 v7 v8 v9 v10 v11 v12 v13 v14 : Value} {x1 x2 x3 x4 x5 x6 x7 x8 x9 x10 x11 x12 x13 x14 : List Int} (c1 c2 c3 c4 c5 c6 c7 c8 c9 c10 c11 c12 c13 c14 c15 : Nat) (hm : c1 ≤ c2 ∧ c2 ≤ c3 ∧ c3 ≤ c4 ∧ c4 ≤ c5 ∧ c5 ≤ c6 ∧ c6 ≤ c7 ∧ c7 ≤ c8 ∧ c8 ≤ c9 ∧ c9 ≤ c10 ∧ c10 ≤ c11 ∧ c11 ≤ c12 ∧ c12 ≤ c13 ∧ c13 ≤ c14 ∧ c14 ≤ c15)
    (o1 : w.ownsRow b1 43 1 v1 n1 (x1.map (Value.int .u32))) (d1 : Wd x1) (l1 : x1.length ≤ 1000000) (e1 : b ≤ b1)
    (o2 : w.ownsRow b2 43 1 v2 n2 (x2.map (Value.int .u32))) (d2 : Wd x2) (l2 : x2.length ≤ 1000000) (e2 : b ≤ b2)
    (o3 : w.ownsRow b3 43 1 v3 n3 (x3.map (Value.int .u32))) (d3 : Wd x3) (l3 : x3.length ≤ 1000000) (e3 : b ≤ b3)
    (o4 : w.ownsRow b4 43 1 v4 n4 (x4.map (Value.int .u32))) (d4 : Wd x4) (l4 : x4.length ≤ 1000000) (e4 : b ≤ b4)
    (o5 : w.ownsRow b5 43 1 v5 n5 (x5.map (Value.int .u32))) (d5 : Wd x5) (l5 : x5.length ≤ 1000000) (e5 : b ≤ b5)
    (o6 : w.ownsRow b6 43 1 v6 n6 (x6.map (Value.int .u32))) (d6 : Wd x6) (l6 : x6.length ≤ 1000000) (e6 : b ≤ b6)
    (o7 : w.ownsRow b7 43 1 v7 n7 (x7.map (Value.int .u32))) (d7 : Wd x7) (l7 : x7.length ≤ 1000000) (e7 : b ≤ b7)
    (o8 : w.ownsRow b8 43 1 v8 n8 (x8.map (Value.int .u32))) (d8 : Wd x8) (l8 : x8.length ≤ 1000000) (e8 : b ≤ b8)
    (o9 : w.ownsRow b9 43 1 v9 n9 (x9.map (Value.int .u32))) (d9 : Wd x9) (l9 : x9.length ≤ 1000000) (e9 : b ≤ b9)
    (o10 : w.ownsRow b10 43 1 v10 n10 (x10.map (Value.int .u32))) (d10 : Wd x10) (l10 : x10.length ≤ 1000000) (e10 : b ≤ b10)
    (o11 : w.ownsRow b11 43 1 v11 n11 (x11.map (Value.int .u32))) (d11 : Wd x11) (l11 : x11.length ≤ 1000000) (e11 : b ≤ b11)
    (o12 : w.ownsRow b12 43 1 v12 n12 (x12.map (Value.int .u32))) (d12 : Wd x12) (l12 : x12.length ≤ 1000000) (e12 : b ≤ b12)
    (o13 : w.ownsRow b13 43 1 v13 n13 (x13.map (Value.int .u32))) (d13 : Wd x13) (l13 : x13.length ≤ 1000000) (e13 : b ≤ b13)
    (o14 : w.ownsRow b14 43 1 v14 n14 (x14.map (Value.int .u32))) (d14 : Wd x14) (l14 : x14.length ≤ 1000000) (e14 : b ≤ b14)
    (i1 : Within v1 c1 c2) (i2 : Within v2 c2 c3) (i3 : Within v3 c3 c4) (i4 : Within v4 c4 c5) (i5 : Within v5 c5 c6) (i6 : Within v6 c6 c7) (i7 : Within v7 c7 c8) (i8 : Within v8 c8 c9) (i9 : Within v9 c9 c10) (i10 : Within v10 c11 c12) (i11 : Within v11 c10 c11) (i12 : Within v12 c12 c13) (i13 : Within v13 c13 c14) (i14 : Within v14 c14 c15) :
    Lists (w.alloc (.cells #[v1, v2, v3, v4, v5, v6, v7, v8, v9, v10, v11, v12, v13, v14] 22)) b w.heap.size 14 (fun j => [v1, v2, v3, v4, v5, v6, v7, v8, v9, v10, v11, v12, v13, v14][j]?.getD undef) (fun j => [x1, x2, x3, x4, x5, x6, x7, x8, x9, x10, x11, x12, x13, x14][j]?.getD []) := by
  have k1 : x1.length = n1 := by have := o1.1; simpa using this
  have k2 : x2.length = n2 := by have := o2.1; simpa using this
  have k3 : x3.length = n3 := by have := o3.1; simpa using this
  have k4 : x4.length = n4 := by have := o4.1; simpa using this
  have k5 : x5.length = n5 := by have := o5.1; simpa using this
  have k6 : x6.length = n6 := by have := o6.1; simpa using this
  have k7 : x7.length = n7 := by have := o7.1; simpa using this
  have k8 : x8.length = n8 := by have := o8.1; simpa using this
  have k9 : x9.length = n9 := by have := o9.1; simpa using this
  have k10 : x10.length = n10 := by have := o10.1; simpa using this
  have k11 : x11.length = n11 := by have := o11.1; simpa using this
  have k12 : x12.length = n12 := by have := o12.1; simpa using this
  have k13 : x13.length = n13 := by have := o13.1; simpa using this
  have k14 : x14.length = n14 := by have := o14.1; simpa using this
  subst k1; subst k2; subst k3; subst k4; subst k5; subst k6; subst k7; subst k8; subst k9; subst k10; subst k11; subst k12; subst k13; subst k14
  obtain ⟨m1, m2, m3, m4, m5, m6, m7, m8, m9, m10, m11, m12, m13, m14⟩ := hm
  refine ⟨fun j hj => ?_, fun j hj => ?_, fun j hj => ?_, apart_perm (fun j => [c1, c2, c3, c4, c5, c6, c7, c8, c9, c10, c11, c12, c13, c14, c15][j]?.getD 0) (fun j => ([0, 1, 2, 3, 4, 5, 6, 7, 8, 10, 9, 11, 12, 13] : List Nat)[j]?.getD 0) (fun j hj => ?_) (by decide) (by decide) (fun j hj => ?_), ⟨_, heap_alloc_new w _, fun j hj => ?_⟩⟩
  · match j, hj with
    | 0, _ => exact d1
    | 1, _ => exact d2
    | 2, _ => exact d3
    | 3, _ => exact d4
    | 4, _ => exact d5
    | 5, _ => exact d6
    | 6, _ => exact d7
    | 7, _ => exact d8
    | 8, _ => exact d9
    | 9, _ => exact d10
    | 10, _ => exact d11
    | 11, _ => exact d12
    | 12, _ => exact d13
    | 13, _ => exact d14
  · match j, hj with
    | 0, _ => show x1.length ≤ _; omega
    | 1, _ => show x2.length ≤ _; omega
    | 2, _ => show x3.length ≤ _; omega
    | 3, _ => show x4.length ≤ _; omega
    | 4, _ => show x5.length ≤ _; omega
    | 5, _ => show x6.length ≤ _; omega
    | 6, _ => show x7.length ≤ _; omega
    | 7, _ => show x8.length ≤ _; omega
    | 8, _ => show x9.length ≤ _; omega
    | 9, _ => show x10.length ≤ _; omega
    | 10, _ => show x11.length ≤ _; omega
    | 11, _ => show x12.length ≤ _; omega
    | 12, _ => show x13.length ≤ _; omega
    | 13, _ => show x14.length ≤ _; omega
  · match j, hj with
    | 0, _ => exact owns_base (o1.alloc _) e1
    | 1, _ => exact owns_base (o2.alloc _) e2
    | 2, _ => exact owns_base (o3.alloc _) e3
    | 3, _ => exact owns_base (o4.alloc _) e4
    | 4, _ => exact owns_base (o5.alloc _) e5
    | 5, _ => exact owns_base (o6.alloc _) e6
    | 6, _ => exact owns_base (o7.alloc _) e7
    | 7, _ => exact owns_base (o8.alloc _) e8
    | 8, _ => exact owns_base (o9.alloc _) e9
    | 9, _ => exact owns_base (o10.alloc _) e10
    | 10, _ => exact owns_base (o11.alloc _) e11
    | 11, _ => exact owns_base (o12.alloc _) e12
    | 12, _ => exact owns_base (o13.alloc _) e13
    | 13, _ => exact owns_base (o14.alloc _) e14
  · match j, hj with
    | 0, _ => exact m1
    | 1, _ => exact m2
    | 2, _ => exact m3
    | 3, _ => exact m4
    | 4, _ => exact m5
    | 5, _ => exact m6
    | 6, _ => exact m7
    | 7, _ => exact m8
    | 8, _ => exact m9
    | 9, _ => exact m10
    | 10, _ => exact m11
    | 11, _ => exact m12
    | 12, _ => exact m13
    | 13, _ => exact m14
  · match j, hj with
    | 0, _ => exact i1
    | 1, _ => exact i2
    | 2, _ => exact i3
    | 3, _ => exact i4
    | 4, _ => exact i5
    | 5, _ => exact i6
    | 6, _ => exact i7
    | 7, _ => exact i8
    | 8, _ => exact i9
    | 9, _ => exact i10
    | 10, _ => exact i11
    | 11, _ => exact i12
    | 12, _ => exact i13
    | 13, _ => exact i14
  · match j, hj with
    | 0, _ => rfl
    | 1, _ => rfl
    | 2, _ => rfl
    | 3, _ => rfl
    | 4, _ => rfl
    | 5, _ => rfl
    | 6, _ => rfl
    | 7, _ => rfl
    | 8, _ => rfl
    | 9, _ => rfl
    | 10, _ => rfl
    | 11, _ => rfl
    | 12, _ => rfl
    | 13, _ => rfl

set_option maxHeartbeats 12800000 in
set_option maxRecDepth 100000 in
theorem natCalls_walk (a0 : Option Addr) (n0 cap0 : Nat) (xs : List Int) (a1 : Option Addr) (n1 cap1 : Nat) (ys : List Int) (w : World)
    (h : Reads w w.heap.size a0 n0 cap0 xs) (g : Reads w w.heap.size a1 n1 cap1 ys) :
    Calls Try.prog 3 #[.slice a0 n0 cap0, .slice a1 n1 cap1] w fun e w' => e = .returned (.bool true) ∧ Below w.heap.size w w' := by
  have hn0 : n0 ≤ 9223372036854775807 := by have := h.2.2.2.1; have := h.2.2.2.2.1; unfold maxLen at this; omega
  have hn1 : n1 ≤ 9223372036854775807 := by have := g.2.2.2.1; have := g.2.2.2.2.1; unfold maxLen at this; omega
  by_cases hv0 : heavy n0 = true
  · have HC := hid (heavy_any a0 n0 cap0 w hn0)
    rw [hv0] at HC
    clear h g hv0
    go_enter Try.func3, Try.ntmps3
    go_wp2_with fail
    refine Calls.mono HC.out ?_
    rintro e w' ⟨rfl, rfl⟩
    go_wp2_with fail
    go_ret
    exact ⟨rfl, Below.refl _ _⟩
  · have hv0 : heavy n0 = false := by simpa using hv0
    have HC0 := hid (heavy_any a0 n0 cap0 w hn0)
    rw [hv0] at HC0
    by_cases hv1 : heavy n1 = true
    · have HC := hid (heavy_any a1 n1 cap1 w hn1)
      rw [hv1] at HC
      clear h g hv0 hv1
      go_enter Try.func3, Try.ntmps3
      go_wp2_with fail
      refine Calls.mono HC0.out ?_
      rintro e w' ⟨rfl, rfl⟩
      go_wp2_with fail
      refine Calls.mono HC.out ?_
      rintro e w' ⟨rfl, rfl⟩
      go_wp2_with fail
      go_ret
      exact ⟨rfl, Below.refl _ _⟩
    · have hv1 : heavy n1 = false := by simpa using hv1
      have HC1 := hid (heavy_any a1 n1 cap1 w hn1)
      rw [hv1] at HC1
      have b0 : n0 ≤ 8201 := by unfold heavy at hv0; have := of_decide_eq_false hv0; omega
      have b1 : n1 ≤ 8201 := by unfold heavy at hv1; have := of_decide_eq_false hv1; omega
      have lx := h.1
      have ly := g.1
      have wx := h.2.1
      have wy := g.2.1
      have sa : Sl w (.slice a0 n0 cap0) xs := ⟨a0, cap0, by rw [lx], by rw [lx]; exact h⟩
      have sb : Sl w (.slice a1 n1 cap1) ys := ⟨a1, cap1, by rw [ly], by rw [ly]; exact g⟩
      have LX := hid lx
      have LY := hid ly
      clear h g hv0 hv1 lx ly hn0 hn1
      go_enter Try.func3, Try.ntmps3
      go_wp2_with fail
      refine Calls.mono HC0.out ?_
      rintro e w' ⟨rfl, rfl⟩
      go_wp2_with fail
      refine Calls.mono HC1.out ?_
      rintro e w' ⟨rfl, rfl⟩
      clear HC0 HC1
      go_wp2_with fail
      refine (lentWords_sl _ xs _ sa (by rw [LX.out]; omega)).mono ?_
      rintro e w1 ⟨vf, rfl, of, hb1⟩
      have inF := Within.own of (Nat.le_refl _)
      replace sa := sa.later hb1
      replace sb := sb.later hb1
      go_wp2_with fail
      refine (lentWords_sl _ ys _ sb (by rw [LY.out]; omega)).mono ?_
      rintro e w2 ⟨vm, rfl, om, hb2⟩
      have inM := Within.own om (Nat.le_refl _)
      have hsz1 := hb1.size
      have hsz2 := hb2.size
      have of2 := owns_later of hb2
      replace sa := sa.later hb2
      replace sb := sb.later hb2
      go_wp2_with fail
      rw [LX.out] at of2
      rw [LY.out] at om
      obtain ⟨gf, capf, hvf, hcf, hcmf⟩ := own_shape of2 (by omega)
      obtain ⟨gm, capm, hvm, hcm, hcmm⟩ := own_shape om (by omega)
      rw [hvf, hvm]
      rw [hvf] at inF
      rw [hvm] at inM
      have hcmf' : capf ≤ 9223372036854775807 := by unfold maxLen at hcmf; omega
      have hcmm' : capm ≤ 9223372036854775807 := by unfold maxLen at hcmm; omega
      clear hcmf hcmm
      go_region
      go_wp2_with fail
      have hb3 : Below w.heap.size w w2.drew := (bt hb1 hb2).drew
      have hb12 : Below w1.heap.size w1 w2.drew := hb2.drew
      have sp : Sl w2.drew (.slice (some ⟨gf, 0, none⟩) n0 capf) xs := by
        rw [hvf, List.map_append] at of2
        exact Sl.own (w := w2) (owns_front (k := 3) of2 (by simp [LX.out])) wx
      have sq : Sl w2.drew (.slice (some ⟨gm, 0, none⟩) n1 capm) ys := by
        rw [hvm, List.map_append] at om
        exact Sl.own (w := w2) (owns_front (k := 3) om (by simp [LY.out])) wy
      have of3 : w2.drew.ownsRow w.heap.size 43 1 (.slice (some ⟨gf, 0, none⟩) (n0 + 3) capf) (n0 + 3) ((xs ++ marks 3).map (Value.int .u32)) := by rw [hvf] at of2; exact of2
      have om3 : w2.drew.ownsRow w1.heap.size 43 1 (.slice (some ⟨gm, 0, none⟩) (n1 + 3) capm) (n1 + 3) ((ys ++ marks 3).map (Value.int .u32)) := by rw [hvm] at om; exact om
      replace sa : Sl w2.drew _ xs := sa
      replace sb : Sl w2.drew _ ys := sb
      obtain ⟨W, hW⟩ : ∃ W, W = w2.drew := ⟨_, rfl⟩
      have hWs : W.heap.size = w2.heap.size := by rw [hW]; rfl
      rw [← hWs] at inM hsz2
      rw [← hW] at hb3 hb12 sp sq of3 om3 sa sb ⊢
      clear hWs
      clear hW of of2 om hb1 hb2 hvf hvm
      have s0 : w.heap.size ≤ W.heap.size := hb3.size
      have lnx : xs.length ≤ 8201 := by rw [LX.out]; exact b0
      have lny : ys.length ≤ 8201 := by rw [LY.out]; exact b1
      refine (add_sl _ _ xs ys _ sp sq (by omega) (by omega)).mono ?_
      rintro e w3 ⟨vs1, zs1, cs1, rfl, os1, ts1, hb⟩
      have hszw3 := hb.size
      obtain ⟨avs1, kvs1, hs⟩ := own_slice' os1
      subst hs
      have invs1 := Within.own os1 (Nat.le_refl _)
      replace sa := sa.later hb
      replace sb := sb.later hb
      replace sp := sp.later hb
      replace sq := sq.later hb
      replace of3 := owns_later of3 hb
      replace om3 := owns_later om3 hb
      replace hb3 := bt hb3 hb
      clear hb
      go_wp2_with fail
      refine (add_sl _ _ xs ys _ sp sq (by omega) (by omega)).mono ?_
      rintro e w4 ⟨vs2, zs2, cs2, rfl, os2, ts2, hb⟩
      have hszw4 := hb.size
      obtain ⟨avs2, kvs2, hs⟩ := own_slice' os2
      subst hs
      have invs2 := Within.own os2 (Nat.le_refl _)
      replace sa := sa.later hb
      replace sb := sb.later hb
      replace sp := sp.later hb
      replace sq := sq.later hb
      replace of3 := owns_later of3 hb
      replace om3 := owns_later om3 hb
      replace os1 := owns_later os1 hb
      replace hb3 := bt hb3 hb
      clear hb
      obtain ⟨rfl, rfl⟩ := ts2.same ts1
      clear ts2
      go_wp2_with fail
      refine (refAdd_sl _ _ xs ys _ sa sb (by omega) (by omega)).mono ?_
      rintro e w5 ⟨vs3, zs3, cs3, rfl, os3, ts3, hb⟩
      have hszw5 := hb.size
      replace sa := sa.later hb
      replace sb := sb.later hb
      replace sp := sp.later hb
      replace sq := sq.later hb
      replace of3 := owns_later of3 hb
      replace om3 := owns_later om3 hb
      replace os1 := owns_later os1 hb
      replace os2 := owns_later os2 hb
      replace hb3 := bt hb3 hb
      clear hb
      obtain ⟨rfl, rfl⟩ := ts3.same ts1
      have ws := ts1.wd
      have ls := ts1.len
      clear ts3 ts1
      go_wp2_with fail
      refine (sub_sl _ _ xs ys _ sp sq (by omega) (by omega)).mono ?_
      rintro e w6 ⟨vd1, zd1, cd1, rfl, od1, td1, hb⟩
      have hszw6 := hb.size
      obtain ⟨avd1, kvd1, hs⟩ := own_slice' od1
      subst hs
      have invd1 := Within.own od1 (Nat.le_refl _)
      replace sa := sa.later hb
      replace sb := sb.later hb
      replace sp := sp.later hb
      replace sq := sq.later hb
      replace of3 := owns_later of3 hb
      replace om3 := owns_later om3 hb
      replace os1 := owns_later os1 hb
      replace os2 := owns_later os2 hb
      replace os3 := owns_later os3 hb
      replace hb3 := bt hb3 hb
      clear hb
      go_wp2_with fail
      refine (sub_sl _ _ xs ys _ sp sq (by omega) (by omega)).mono ?_
      rintro e w7 ⟨vd2, zd2, cd2, rfl, od2, td2, hb⟩
      have hszw7 := hb.size
      obtain ⟨avd2, kvd2, hs⟩ := own_slice' od2
      subst hs
      have invd2 := Within.own od2 (Nat.le_refl _)
      replace sa := sa.later hb
      replace sb := sb.later hb
      replace sp := sp.later hb
      replace sq := sq.later hb
      replace of3 := owns_later of3 hb
      replace om3 := owns_later om3 hb
      replace os1 := owns_later os1 hb
      replace os2 := owns_later os2 hb
      replace os3 := owns_later os3 hb
      replace od1 := owns_later od1 hb
      replace hb3 := bt hb3 hb
      clear hb
      obtain ⟨rfl, rfl⟩ := td2.same td1
      clear td2
      go_wp2_with fail
      refine (refSub_sl _ _ xs ys _ sa sb (by omega) (by omega)).mono ?_
      rintro e w8 ⟨vd3, zd3, cd3, rfl, od3, td3, hb⟩
      have hszw8 := hb.size
      replace sa := sa.later hb
      replace sb := sb.later hb
      replace sp := sp.later hb
      replace sq := sq.later hb
      replace of3 := owns_later of3 hb
      replace om3 := owns_later om3 hb
      replace os1 := owns_later os1 hb
      replace os2 := owns_later os2 hb
      replace os3 := owns_later os3 hb
      replace od1 := owns_later od1 hb
      replace od2 := owns_later od2 hb
      replace hb3 := bt hb3 hb
      clear hb
      obtain ⟨rfl, rfl⟩ := td3.same td1
      have wd := td1.wd
      have ld := td1.len
      clear td3 td1
      go_wp2_with fail
      refine (mul_sl _ _ xs ys _ sp sq (by omega) (by omega)).mono ?_
      rintro e w9 ⟨vp1, zp1, cp1, rfl, op1, tp1, hb⟩
      have hszw9 := hb.size
      obtain ⟨avp1, kvp1, hs⟩ := own_slice' op1
      subst hs
      have invp1 := Within.own op1 (Nat.le_refl _)
      replace sa := sa.later hb
      replace sb := sb.later hb
      replace sp := sp.later hb
      replace sq := sq.later hb
      replace of3 := owns_later of3 hb
      replace om3 := owns_later om3 hb
      replace os1 := owns_later os1 hb
      replace os2 := owns_later os2 hb
      replace os3 := owns_later os3 hb
      replace od1 := owns_later od1 hb
      replace od2 := owns_later od2 hb
      replace od3 := owns_later od3 hb
      replace hb3 := bt hb3 hb
      clear hb
      go_wp2_with fail
      refine (mul_sl _ _ xs ys _ sp sq (by omega) (by omega)).mono ?_
      rintro e w10 ⟨vp2, zp2, cp2, rfl, op2, tp2, hb⟩
      have hszw10 := hb.size
      obtain ⟨avp2, kvp2, hs⟩ := own_slice' op2
      subst hs
      have invp2 := Within.own op2 (Nat.le_refl _)
      replace sa := sa.later hb
      replace sb := sb.later hb
      replace sp := sp.later hb
      replace sq := sq.later hb
      replace of3 := owns_later of3 hb
      replace om3 := owns_later om3 hb
      replace os1 := owns_later os1 hb
      replace os2 := owns_later os2 hb
      replace os3 := owns_later os3 hb
      replace od1 := owns_later od1 hb
      replace od2 := owns_later od2 hb
      replace od3 := owns_later od3 hb
      replace op1 := owns_later op1 hb
      replace hb3 := bt hb3 hb
      clear hb
      obtain ⟨rfl, rfl⟩ := tp2.same tp1
      clear tp2
      go_wp2_with fail
      refine (refMul_sl _ _ xs ys _ sa sb (by omega) (by omega)).mono ?_
      rintro e w11 ⟨vp3, zp3, cp3, rfl, op3, tp3, hb⟩
      have hszw11 := hb.size
      replace sa := sa.later hb
      replace sb := sb.later hb
      replace sp := sp.later hb
      replace sq := sq.later hb
      replace of3 := owns_later of3 hb
      replace om3 := owns_later om3 hb
      replace os1 := owns_later os1 hb
      replace os2 := owns_later os2 hb
      replace os3 := owns_later os3 hb
      replace od1 := owns_later od1 hb
      replace od2 := owns_later od2 hb
      replace od3 := owns_later od3 hb
      replace op1 := owns_later op1 hb
      replace op2 := owns_later op2 hb
      replace hb3 := bt hb3 hb
      clear hb
      obtain ⟨rfl, rfl⟩ := tp3.same tp1
      have wp := tp1.wd
      have lp := tp1.len
      clear tp3 tp1
      go_wp2_with fail
      refine (divMod_full _ _ xs ys _ sp sq (by omega) (by omega)).mono ?_
      rintro e w12 ⟨vx1, vy1, zx1, zy1, cx1, kk1, rfl, ox1, oy1, invx1, invy1, ka1, kb1, tx1, hb⟩
      have hszw12 := hb.size
      obtain ⟨avx1, kvx1, hs⟩ := own_slice' ox1
      subst hs
      obtain ⟨avy1, kvy1, hs⟩ := own_slice' oy1
      subst hs
      replace sa := sa.later hb
      replace sb := sb.later hb
      replace sp := sp.later hb
      replace sq := sq.later hb
      replace of3 := owns_later of3 hb
      replace om3 := owns_later om3 hb
      replace os1 := owns_later os1 hb
      replace os2 := owns_later os2 hb
      replace os3 := owns_later os3 hb
      replace od1 := owns_later od1 hb
      replace od2 := owns_later od2 hb
      replace od3 := owns_later od3 hb
      replace op1 := owns_later op1 hb
      replace op2 := owns_later op2 hb
      replace op3 := owns_later op3 hb
      replace hb3 := bt hb3 hb
      clear hb
      go_wp2_with fail
      refine (divMod_full _ _ xs ys _ sp sq (by omega) (by omega)).mono ?_
      rintro e w13 ⟨vx2, vy2, zx2, zy2, cx2, kk2, rfl, ox2, oy2, invx2, invy2, ka2, kb2, tx2, hb⟩
      have hszw13 := hb.size
      obtain ⟨avx2, kvx2, hs⟩ := own_slice' ox2
      subst hs
      obtain ⟨avy2, kvy2, hs⟩ := own_slice' oy2
      subst hs
      replace sa := sa.later hb
      replace sb := sb.later hb
      replace sp := sp.later hb
      replace sq := sq.later hb
      replace of3 := owns_later of3 hb
      replace om3 := owns_later om3 hb
      replace os1 := owns_later os1 hb
      replace os2 := owns_later os2 hb
      replace os3 := owns_later os3 hb
      replace od1 := owns_later od1 hb
      replace od2 := owns_later od2 hb
      replace od3 := owns_later od3 hb
      replace op1 := owns_later op1 hb
      replace op2 := owns_later op2 hb
      replace op3 := owns_later op3 hb
      replace ox1 := owns_later ox1 hb
      replace oy1 := owns_later oy1 hb
      replace hb3 := bt hb3 hb
      clear hb
      obtain ⟨rfl, rfl, rfl⟩ := tx2.same tx1
      clear tx2
      go_wp2_with fail
      refine (refDivMod_full _ _ xs ys _ sa sb (by omega) (by omega)).mono ?_
      rintro e w14 ⟨vx3, vy3, zx3, zy3, cx3, rfl, ox3, oy3, tx3, hb⟩
      have hszw14 := hb.size
      replace sa := sa.later hb
      replace sb := sb.later hb
      replace sp := sp.later hb
      replace sq := sq.later hb
      replace of3 := owns_later of3 hb
      replace om3 := owns_later om3 hb
      replace os1 := owns_later os1 hb
      replace os2 := owns_later os2 hb
      replace os3 := owns_later os3 hb
      replace od1 := owns_later od1 hb
      replace od2 := owns_later od2 hb
      replace od3 := owns_later od3 hb
      replace op1 := owns_later op1 hb
      replace op2 := owns_later op2 hb
      replace op3 := owns_later op3 hb
      replace ox1 := owns_later ox1 hb
      replace oy1 := owns_later oy1 hb
      replace ox2 := owns_later ox2 hb
      replace oy2 := owns_later oy2 hb
      replace hb3 := bt hb3 hb
      clear hb
      obtain ⟨rfl, rfl, rfl⟩ := tx3.same tx1
      have wxq := tx1.wq
      have wxr := tx1.wr
      obtain ⟨lxq, lxr⟩ := tx1.len wx wy
      clear tx3 tx1
      go_wp2_with fail
      refine (gcd_sl _ _ xs ys _ sp sq (by omega) (by omega)).mono ?_
      rintro e w15 ⟨vg1, zg1, cg1, rfl, og1, tg1, hb⟩
      have hszw15 := hb.size
      obtain ⟨avg1, kvg1, hs⟩ := own_slice' og1
      subst hs
      have invg1 := Within.own og1 (Nat.le_refl _)
      replace sa := sa.later hb
      replace sb := sb.later hb
      replace sp := sp.later hb
      replace sq := sq.later hb
      replace of3 := owns_later of3 hb
      replace om3 := owns_later om3 hb
      replace os1 := owns_later os1 hb
      replace os2 := owns_later os2 hb
      replace os3 := owns_later os3 hb
      replace od1 := owns_later od1 hb
      replace od2 := owns_later od2 hb
      replace od3 := owns_later od3 hb
      replace op1 := owns_later op1 hb
      replace op2 := owns_later op2 hb
      replace op3 := owns_later op3 hb
      replace ox1 := owns_later ox1 hb
      replace oy1 := owns_later oy1 hb
      replace ox2 := owns_later ox2 hb
      replace oy2 := owns_later oy2 hb
      replace ox3 := owns_later ox3 hb
      replace oy3 := owns_later oy3 hb
      replace hb3 := bt hb3 hb
      clear hb
      go_wp2_with fail
      refine (gcd_sl _ _ xs ys _ sp sq (by omega) (by omega)).mono ?_
      rintro e w16 ⟨vg2, zg2, cg2, rfl, og2, tg2, hb⟩
      have hszw16 := hb.size
      obtain ⟨avg2, kvg2, hs⟩ := own_slice' og2
      subst hs
      have invg2 := Within.own og2 (Nat.le_refl _)
      replace sa := sa.later hb
      replace sb := sb.later hb
      replace sp := sp.later hb
      replace sq := sq.later hb
      replace of3 := owns_later of3 hb
      replace om3 := owns_later om3 hb
      replace os1 := owns_later os1 hb
      replace os2 := owns_later os2 hb
      replace os3 := owns_later os3 hb
      replace od1 := owns_later od1 hb
      replace od2 := owns_later od2 hb
      replace od3 := owns_later od3 hb
      replace op1 := owns_later op1 hb
      replace op2 := owns_later op2 hb
      replace op3 := owns_later op3 hb
      replace ox1 := owns_later ox1 hb
      replace oy1 := owns_later oy1 hb
      replace ox2 := owns_later ox2 hb
      replace oy2 := owns_later oy2 hb
      replace ox3 := owns_later ox3 hb
      replace oy3 := owns_later oy3 hb
      replace og1 := owns_later og1 hb
      replace hb3 := bt hb3 hb
      clear hb
      obtain ⟨rfl, rfl⟩ := tg2.same tg1
      clear tg2
      go_wp2_with fail
      refine (refGcd_sl _ _ xs ys _ sa sb (by omega) (by omega)).mono ?_
      rintro e w17 ⟨vg3, zg3, cg3, rfl, og3, tg3, hb⟩
      have hszw17 := hb.size
      replace sa := sa.later hb
      replace sb := sb.later hb
      replace sp := sp.later hb
      replace sq := sq.later hb
      replace of3 := owns_later of3 hb
      replace om3 := owns_later om3 hb
      replace os1 := owns_later os1 hb
      replace os2 := owns_later os2 hb
      replace os3 := owns_later os3 hb
      replace od1 := owns_later od1 hb
      replace od2 := owns_later od2 hb
      replace od3 := owns_later od3 hb
      replace op1 := owns_later op1 hb
      replace op2 := owns_later op2 hb
      replace op3 := owns_later op3 hb
      replace ox1 := owns_later ox1 hb
      replace oy1 := owns_later oy1 hb
      replace ox2 := owns_later ox2 hb
      replace oy2 := owns_later oy2 hb
      replace ox3 := owns_later ox3 hb
      replace oy3 := owns_later oy3 hb
      replace og1 := owns_later og1 hb
      replace og2 := owns_later og2 hb
      replace hb3 := bt hb3 hb
      clear hb
      obtain ⟨rfl, rfl⟩ := tg3.same tg1
      have wg := tg1.wd
      have lg := tg1.len
      clear tg3 tg1
      go_wp2_with fail
      clear sp sq
      refine (lawOne_any _ _ _ zs3 cs3 _ (Sl.own os1 ws) (Sl.own os2 ws) (Sl.own os3 ws) (by omega)).mono ?_
      rintro e w18 ⟨rfl, hb⟩
      have hszw18 := hb.size
      clear os3
      replace sa := sa.later hb
      replace sb := sb.later hb
      replace of3 := owns_later of3 hb
      replace om3 := owns_later om3 hb
      replace os1 := owns_later os1 hb
      replace os2 := owns_later os2 hb
      replace od1 := owns_later od1 hb
      replace od2 := owns_later od2 hb
      replace od3 := owns_later od3 hb
      replace op1 := owns_later op1 hb
      replace op2 := owns_later op2 hb
      replace op3 := owns_later op3 hb
      replace ox1 := owns_later ox1 hb
      replace oy1 := owns_later oy1 hb
      replace ox2 := owns_later ox2 hb
      replace oy2 := owns_later oy2 hb
      replace ox3 := owns_later ox3 hb
      replace oy3 := owns_later oy3 hb
      replace og1 := owns_later og1 hb
      replace og2 := owns_later og2 hb
      replace og3 := owns_later og3 hb
      replace hb3 := bt hb3 hb
      clear hb
      go_wp2_with fail
      refine (lawOne_any _ _ _ zd3 cd3 _ (Sl.own od1 wd) (Sl.own od2 wd) (Sl.own od3 wd) (by omega)).mono ?_
      rintro e w19 ⟨rfl, hb⟩
      have hszw19 := hb.size
      clear od3
      replace sa := sa.later hb
      replace sb := sb.later hb
      replace of3 := owns_later of3 hb
      replace om3 := owns_later om3 hb
      replace os1 := owns_later os1 hb
      replace os2 := owns_later os2 hb
      replace od1 := owns_later od1 hb
      replace od2 := owns_later od2 hb
      replace op1 := owns_later op1 hb
      replace op2 := owns_later op2 hb
      replace op3 := owns_later op3 hb
      replace ox1 := owns_later ox1 hb
      replace oy1 := owns_later oy1 hb
      replace ox2 := owns_later ox2 hb
      replace oy2 := owns_later oy2 hb
      replace ox3 := owns_later ox3 hb
      replace oy3 := owns_later oy3 hb
      replace og1 := owns_later og1 hb
      replace og2 := owns_later og2 hb
      replace og3 := owns_later og3 hb
      replace hb3 := bt hb3 hb
      clear hb
      go_wp2_with fail
      refine (lawOne_any _ _ _ zp3 cp3 _ (Sl.own op1 wp) (Sl.own op2 wp) (Sl.own op3 wp) (by omega)).mono ?_
      rintro e w20 ⟨rfl, hb⟩
      have hszw20 := hb.size
      clear op3
      replace sa := sa.later hb
      replace sb := sb.later hb
      replace of3 := owns_later of3 hb
      replace om3 := owns_later om3 hb
      replace os1 := owns_later os1 hb
      replace os2 := owns_later os2 hb
      replace od1 := owns_later od1 hb
      replace od2 := owns_later od2 hb
      replace op1 := owns_later op1 hb
      replace op2 := owns_later op2 hb
      replace ox1 := owns_later ox1 hb
      replace oy1 := owns_later oy1 hb
      replace ox2 := owns_later ox2 hb
      replace oy2 := owns_later oy2 hb
      replace ox3 := owns_later ox3 hb
      replace oy3 := owns_later oy3 hb
      replace og1 := owns_later og1 hb
      replace og2 := owns_later og2 hb
      replace og3 := owns_later og3 hb
      replace hb3 := bt hb3 hb
      clear hb
      go_wp2_with fail
      refine (lawOne_any _ _ _ zx3 cx3 _ (Sl.own ox1 wxq) (Sl.own ox2 wxq) (Sl.own ox3 wxq) (by omega)).mono ?_
      rintro e w21 ⟨rfl, hb⟩
      have hszw21 := hb.size
      clear ox3
      replace sa := sa.later hb
      replace sb := sb.later hb
      replace of3 := owns_later of3 hb
      replace om3 := owns_later om3 hb
      replace os1 := owns_later os1 hb
      replace os2 := owns_later os2 hb
      replace od1 := owns_later od1 hb
      replace od2 := owns_later od2 hb
      replace op1 := owns_later op1 hb
      replace op2 := owns_later op2 hb
      replace ox1 := owns_later ox1 hb
      replace oy1 := owns_later oy1 hb
      replace ox2 := owns_later ox2 hb
      replace oy2 := owns_later oy2 hb
      replace oy3 := owns_later oy3 hb
      replace og1 := owns_later og1 hb
      replace og2 := owns_later og2 hb
      replace og3 := owns_later og3 hb
      replace hb3 := bt hb3 hb
      clear hb
      go_wp2_with fail
      refine (lawOne_any _ _ _ zy3 cx3 _ (Sl.own oy1 wxr) (Sl.own oy2 wxr) (Sl.own oy3 wxr) (by omega)).mono ?_
      rintro e w22 ⟨rfl, hb⟩
      have hszw22 := hb.size
      clear oy3
      replace sa := sa.later hb
      replace sb := sb.later hb
      replace of3 := owns_later of3 hb
      replace om3 := owns_later om3 hb
      replace os1 := owns_later os1 hb
      replace os2 := owns_later os2 hb
      replace od1 := owns_later od1 hb
      replace od2 := owns_later od2 hb
      replace op1 := owns_later op1 hb
      replace op2 := owns_later op2 hb
      replace ox1 := owns_later ox1 hb
      replace oy1 := owns_later oy1 hb
      replace ox2 := owns_later ox2 hb
      replace oy2 := owns_later oy2 hb
      replace og1 := owns_later og1 hb
      replace og2 := owns_later og2 hb
      replace og3 := owns_later og3 hb
      replace hb3 := bt hb3 hb
      clear hb
      go_wp2_with fail
      refine (lawOne_any _ _ _ zg3 cg3 _ (Sl.own og1 wg) (Sl.own og2 wg) (Sl.own og3 wg) (by omega)).mono ?_
      rintro e w23 ⟨rfl, hb⟩
      have hszw23 := hb.size
      clear og3
      replace sa := sa.later hb
      replace sb := sb.later hb
      replace of3 := owns_later of3 hb
      replace om3 := owns_later om3 hb
      replace os1 := owns_later os1 hb
      replace os2 := owns_later os2 hb
      replace od1 := owns_later od1 hb
      replace od2 := owns_later od2 hb
      replace op1 := owns_later op1 hb
      replace op2 := owns_later op2 hb
      replace ox1 := owns_later ox1 hb
      replace oy1 := owns_later oy1 hb
      replace ox2 := owns_later ox2 hb
      replace oy2 := owns_later oy2 hb
      replace og1 := owns_later og1 hb
      replace og2 := owns_later og2 hb
      replace hb3 := bt hb3 hb
      clear hb
      go_wp2_with fail
      have wf : Wd (xs ++ marks 3) := wx.append (Wd.marks 3)
      have wmm : Wd (ys ++ marks 3) := wy.append (Wd.marks 3)
      have lf : (xs ++ marks 3).length ≤ 8204 := by rw [List.length_append, marks_len 3 (by omega)]; omega
      have lmm : (ys ++ marks 3).length ≤ 8204 := by rw [List.length_append, marks_len 3 (by omega)]; omega
      have HK1 := hid (keptWords_sl _ _ (xs ++ marks 3) xs _ (Sl.own of3 wf) sa (by omega) (by omega))
      rw [decide_eq_true rfl] at HK1
      refine (HK1.out).mono ?_
      rintro e w24 ⟨rfl, hb⟩
      have hszw24 := hb.size
      clear HK1
      replace sa := sa.later hb
      replace sb := sb.later hb
      replace of3 := owns_later of3 hb
      replace om3 := owns_later om3 hb
      replace os1 := owns_later os1 hb
      replace os2 := owns_later os2 hb
      replace od1 := owns_later od1 hb
      replace od2 := owns_later od2 hb
      replace op1 := owns_later op1 hb
      replace op2 := owns_later op2 hb
      replace ox1 := owns_later ox1 hb
      replace oy1 := owns_later oy1 hb
      replace ox2 := owns_later ox2 hb
      replace oy2 := owns_later oy2 hb
      replace og1 := owns_later og1 hb
      replace og2 := owns_later og2 hb
      replace hb3 := bt hb3 hb
      clear hb
      go_wp2_with fail
      have HK2 := hid (keptWords_sl _ _ (ys ++ marks 3) ys _ (Sl.own om3 wmm) sb (by omega) (by omega))
      rw [decide_eq_true rfl] at HK2
      refine (HK2.out).mono ?_
      rintro e w25 ⟨rfl, hb⟩
      have hszw25 := hb.size
      clear HK2
      replace sa := sa.later hb
      replace sb := sb.later hb
      replace of3 := owns_later of3 hb
      replace om3 := owns_later om3 hb
      replace os1 := owns_later os1 hb
      replace os2 := owns_later os2 hb
      replace od1 := owns_later od1 hb
      replace od2 := owns_later od2 hb
      replace op1 := owns_later op1 hb
      replace op2 := owns_later op2 hb
      replace ox1 := owns_later ox1 hb
      replace oy1 := owns_later oy1 hb
      replace ox2 := owns_later ox2 hb
      replace oy2 := owns_later oy2 hb
      replace og1 := owns_later og1 hb
      replace og2 := owns_later og2 hb
      replace hb3 := bt hb3 hb
      clear hb
      have hz := hb3.size
      have HL := hid (fourteen_lists (b := w.heap.size) w.heap.size w1.heap.size W.heap.size w3.heap.size w5.heap.size w6.heap.size w8.heap.size w9.heap.size w11.heap.size kk1 w12.heap.size kk2 w14.heap.size w15.heap.size w16.heap.size (by omega) of3 wf (by omega) (by omega) om3 wmm (by omega) (by omega) os1 ws (by omega) (by omega) os2 ws (by omega) (by omega) od1 wd (by omega) (by omega) od2 wd (by omega) (by omega) op1 wp (by omega) (by omega) op2 wp (by omega) (by omega) ox1 wxq (by omega) (by omega) ox2 wxq (by omega) (by omega) oy1 wxr (by omega) (by omega) oy2 wxr (by omega) (by omega) og1 wg (by omega) (by omega) og2 wg (by omega) (by omega) inF inM invs1 (invs2.up (by omega)) invd1 (invd2.up (by omega)) invp1 (invp2.up (by omega)) invx1 invx2 invy1 (invy2.up (by omega)) invg1 invg2)
      have HA := hid (apart_any _ _ _ _ _ _ HL.out (by omega) (by simp; omega))
      clear HL of3 om3 os1 os2 od1 od2 op1 op2 ox1 oy1 ox2 oy2 og1 og2 inF inM invs1 invs2 invd1 invd2 invp1 invp2 invx1 invx2 invy1 invy2 invg1 invg2 sa sb
      have HB3 := hid hb3
      clear hb3
      go_wp2_with fail
      refine Calls.mono HA.out ?_
      rintro e wE ⟨rfl, hbE⟩
      have HBE := hid (bt_alloc HB3.out hbE)
      clear hbE HA
      go_wp2_with fail
      go_ret
      exact ⟨rfl, HBE.out⟩
end Go.Proofs.Ytgimgagnfkinmaa

