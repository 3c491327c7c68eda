/- My texts on the way to NodalTells, one behind the other: contracts of the program and of the document's answers. -/
import Derived.Test.YtodihhokodnmkaaJ2
import Derived.ArgAppend
import Derived.Laws.AppendOwnNone
import Derived.Deep.Slices
import Derived.OpenShut
import Derived.ChangeArms
/- The law NodalMeans. -/
namespace Go.Proofs.Ytodihhokodnmkaa
open Go.RowKit Go.Shelf
set_option linter.unusedVariables false
set_option linter.unusedSimpArgs false

theorem quo_some {x y : Nat} (hx : Fi x) (hy : Fi y) (h0 : sv y ≠ 0) : ∃ r, floatBits .quo .f64 x y = some r := by
  obtain ⟨m, a, e1, v1⟩ := read_num hx.2
  obtain ⟨n, b, e2, v2⟩ := read_num hy.2
  have hn : n ≠ 0 := by
    intro h
    subst h
    rw [Nat.zero_mul] at v2
    have := sv_abs y
    rw [← v2] at this
    omega
  have e : floatBits .quo .f64 x y = (((Ieee.double.read x).quotient (Ieee.double.fractionBits + 2) (Ieee.double.read y)).map Ieee.double.write) := rfl
  rw [e, e1, e2]
  simp only [Ieee.Datum.quotient, if_neg hn, Option.map]
  exact ⟨_, rfl⟩

set_option maxHeartbeats 800000 in
set_option maxRecDepth 100000 in
theorem nsameFloat (x : Nat) (w : World) : Calls Try.prog 14 #[.float .f64 x, .float .f64 x] w fun e w' => e = .returned (.bool true) ∧ w' = w := by
  cases hn : isnan x with
  | false =>
    have h1 : (FloatKind.f64.format.order x x == some .eq) = true := by rw [order_refl hn]; rfl
    go_enter Try.func14, Try.ntmps14
    go_wp2_with fail
    go_ret
    exact ⟨rfl, rfl⟩
  | true =>
    have h1 : (FloatKind.f64.format.order x x == some .eq) = false := by rw [order_nan_l hn]; rfl
    have h2 : (FloatKind.f64.format.order x x != some .eq) = true := by rw [order_nan_l hn]; rfl
    go_enter Try.func14, Try.ntmps14
    go_wp2_with fail
    go_ret
    exact ⟨rfl, rfl⟩

set_option maxHeartbeats 800000 in
set_option maxRecDepth 100000 in
theorem nrMean_span (n : ByteArray) (a b E : Int) (w : World) (ha : I64 a) (hb : I64 b) (hE : spnR a b = E) (h0 : (E == 0) = false) :
    Calls Try.prog 17 #[.string n, .int .i64 a, .int .i64 b] w fun e w' => e = .returned (.tuple #[.float .f64 0, .int .i64 E]) ∧ Below w.heap.size w w' := by
  have HSp := hid (fun V => cdspn_any a b V ha hb)
  rw [hE] at HSp
  clear ha hb hE
  go_enter Try.func17, Try.ntmps17
  go_wp2_with fail
  refine Calls.mono (HSp.out _) ?_
  rintro e w1 ⟨rfl, rfl⟩
  go_wp2_with fail
  go_returns
  exact ⟨rfl, Below.refl _ _⟩
set_option maxHeartbeats 800000 in
set_option maxRecDepth 100000 in
theorem nrMean_same (n : ByteArray) (a b : Int) (w : World) (ha : I64 a) (hb : I64 b) (hE : spnR a b = 0) (h0 : (a == b) = true) :
    Calls Try.prog 17 #[.string n, .int .i64 a, .int .i64 b] w fun e w' => e = .returned (.tuple #[.float .f64 0, .int .i64 2]) ∧ Below w.heap.size w w' := by
  have HSp := hid (fun V => cdspn_any a b V ha hb)
  rw [hE] at HSp
  clear ha hb hE
  go_enter Try.func17, Try.ntmps17
  go_wp2_with fail
  refine Calls.mono (HSp.out _) ?_
  rintro e w1 ⟨rfl, rfl⟩
  go_wp2_with fail
  go_returns
  exact ⟨rfl, Below.refl _ _⟩
set_option maxHeartbeats 800000 in
set_option maxRecDepth 100000 in
theorem nrMean_none (n : ByteArray) (a b : Int) (w : World) (ha : I64 a) (hb : I64 b) (hE : spnR a b = 0) (h0 : (a == b) = false) (hn : ndK n.toList = none) :
    Calls Try.prog 17 #[.string n, .int .i64 a, .int .i64 b] w fun e w' => e = .returned (.tuple #[.float .f64 0, .int .i64 6]) ∧ Below w.heap.size w w' := by
  have HSp := hid (fun V => cdspn_any a b V ha hb)
  rw [hE] at HSp
  have HR := hid (fun V => nrrow_any n V)
  rw [hn, show nrV none = Value.tuple #[.float .f64 0, .float .f64 0, .float .f64 0, .bool false] from rfl] at HR
  clear ha hb hE hn
  go_enter Try.func17, Try.ntmps17
  go_wp2_with fail
  refine Calls.mono (HSp.out _) ?_
  rintro e w1 ⟨rfl, rfl⟩
  go_wp2_with fail
  refine Calls.mono (HR.out _) ?_
  rintro e w2 ⟨rfl, rfl⟩
  go_wp2_with fail
  go_returns
  exact ⟨rfl, Below.refl _ _⟩

theorem ndI7 {l : List UInt8} {k : Nat} (h : ndK l = some k) : k < 7 := by
  unfold ndK at h
  repeat' split at h
  all_goals first | (cases h; decide) | cases h

/-- What both tell. -/
theorem mean_both (n : ByteArray) (a b : Int) (ha : I64 a) (hb : I64 b) : ∃ r E, (∀ w, Calls Try.prog 16 #[.string n, .int .i64 a, .int .i64 b] w fun e w' => e = .returned (.tuple #[.float .f64 r, .int .i64 E]) ∧ Below w.heap.size w w') ∧
    (∀ w, Calls Try.prog 17 #[.string n, .int .i64 a, .int .i64 b] w fun e w' => e = .returned (.tuple #[.float .f64 r, .int .i64 E]) ∧ Below w.heap.size w w') := by
  by_cases h0 : spnR a b = 0
  · have hs : ¬ (a < 0 ∨ 1048577 < b ∨ b < a) ∧ ¬ 4096 < b - a := by
      unfold spnR at h0
      by_cases h : a < 0 ∨ 1048577 < b ∨ b < a
      · rw [if_pos h] at h0; cases h0
      · by_cases g : 4096 < b - a
        · rw [if_neg h, if_pos g] at h0; cases h0
        · exact ⟨h, g⟩
    by_cases h1 : a = b
    · exact ⟨0, 2, fun w => ndMean_same n a b w ha hb h0 (by simp [h1]), fun w => nrMean_same n a b w ha hb h0 (by simp [h1])⟩
    · have h1' : (a == b) = false := by simp [h1]
      cases hk : ndK n.toList with
      | none => exact ⟨0, 6, fun w => ndMean_none n a b w ha hb h0 h1' hk, fun w => nrMean_none n a b w ha hb h0 h1' hk⟩
      | some k =>
        obtain ⟨A, rfl⟩ := Int.eq_ofNat_of_zero_le (show 0 ≤ a by omega)
        obtain ⟨m, hm⟩ : ∃ m : Nat, b = ((A + m : Nat) : Int) := ⟨(b - A).toNat, by omega⟩
        subst hm
        have hk7 := ndI7 hk
        have hex : ∀ j, ∃ f, (∃ re im p, NodeR (A + j) re im ∧ floatBits .mul .f64 (ndS k) re = some p ∧ floatBits .add .f64 p (ndB k) = some f) ∧ In 1034 549755813888 1649267441664 f := by
          intro j
          obtain ⟨re, im, hN⟩ := node_ex (A + j)
          obtain ⟨p, f, f1, f2, f3, -⟩ := fac_ex hN.unit.1 hk7
          exact ⟨f, ⟨re, im, p, hN, f1, f2⟩, f3.coarse (by decide) (by decide)⟩
        obtain ⟨f, hf⟩ := Classical.axiomOfChoice hex
        have hi : ∀ j, In 1034 549755813888 1649267441664 (f j) := fun j => (hf j).2
        have i1 := mnS_in hi (List.range m) (by rw [List.length_range]; omega)
        have i2 := int_in (m : Int) (by omega) (by omega)
        obtain ⟨r, hr⟩ := quo_some i1.1 i2.1 (by
          rw [i2.of_eq]
          have := Nat.two_pow_pos 1074
          generalize 2 ^ 1074 = P at *
          have := Int.mul_pos (show (0 : Int) < (m : Int) by omega) (show (0 : Int) < (P : Int) by omega)
          omega)
        exact ⟨r, 0, fun w => ndMean_ok n k A m r f w hk (by omega) (by omega) (by omega) (fun j _ => (hf j).1) hi hr, fun w => nrMean_ok n k A m r f w hk (by omega) (by omega) (by omega) (fun j _ => (hf j).1) hi hr⟩
  · have h' : (spnR a b == 0) = false := by simp [h0]
    exact ⟨0, spnR a b, fun w => ndMean_span n a b _ w ha hb rfl h', fun w => nrMean_span n a b _ w ha hb rfl h'⟩

set_option maxHeartbeats 1600000 in
set_option maxRecDepth 100000 in
theorem nrNames_any (w : World) :
    Calls Try.prog 18 #[] w fun e w' => e = .returned (.slice (some ⟨w.heap.size, 0, none⟩) 10 10) ∧ FBox w' w.heap.size 9 ndA ∧ Below w.heap.size w w' ∧ w'.heap.size = w.heap.size + 1 := by
  have HX := hid (boxes1 w 9 ndA)
  have HS : Hid ((w.alloc (.cells ndA 9)).heap.size = w.heap.size + 1) := World.size_alloc _ _
  go_enter Try.func18, Try.ntmps18
  go_wp2_with fail
  go_ret
  exact ⟨rfl, HX.out.1, HX.out.2, HS.out⟩

set_option maxHeartbeats 6400000 in
set_option maxRecDepth 100000 in
theorem nodalMeans_any (n : ByteArray) (a b : Int) (w : World) (ha : I64 a) (hb : I64 b) :
    Calls Try.prog 4 #[.string n, .int .i64 a, .int .i64 b] w fun e w' => e = .returned (.bool true) ∧ Below w.heap.size w w' := by
  obtain ⟨r, E, m1, m2⟩ := mean_both n a b ha hb
  have H1 := hid m1
  have H2 := hid m2
  have HN := hid ndNames_any
  have HR := hid nrNames_any
  have HS := hid (fun V => nsameFloat r V)
  clear m1 m2 ha hb
  go_enter Try.func4, Try.ntmps4
  go_wp2_with fail
  refine Calls.mono (H1.out _) ?_
  rintro e w1 ⟨rfl, hb1⟩
  go_wp2_with fail
  refine Calls.mono (H2.out _) ?_
  rintro e w2 ⟨rfl, hb2⟩
  go_wp2_with fail
  refine Calls.mono (HR.out _) ?_
  rintro e w3 ⟨rfl, hf3, hb3, hs3⟩
  have HS3 := hid hs3
  clear hs3
  go_wp2_with fail
  refine Calls.mono (HN.out _) ?_
  rintro e w4 ⟨rfl, hf4, hb4, hs4⟩
  have HS4 := hid hs4
  clear hs4
  go_wp2_with fail
  refine Calls.mono (HN.out _) ?_
  rintro e w5 ⟨rfl, hf5, hb5, hs5⟩
  have HS5 := hid hs5
  clear hs5
  have HW : Hid (FBox w5 w2.heap.size 9 ndA ∧ FBox w5 w3.heap.size 9 ndA ∧ FBox w5 w4.heap.size 9 ndA ∧ Below w.heap.size w w5) := ⟨hf3.later (b2 hb4 hb5) hf3.lt, hf4.later hb5 hf4.lt, hf5, b2 hb1 (b2 hb2 (b2 hb3 (b2 hb4 hb5)))⟩
  have HL : Hid (w.heap.size ≤ w2.heap.size ∧ w2.heap.size < w3.heap.size ∧ w3.heap.size < w4.heap.size ∧ w4.heap.size < w5.heap.size) := by
    have h1 := Nat.le_trans hb1.size hb2.size
    have h2 := HS3.out
    have h3 := HS4.out
    have h4 := HS5.out
    exact ⟨h1, by omega, by omega, by omega⟩
  clear hf3 hb3 hf4 hb4 hf5 hb5 hb1 hb2 H1 H2 HS3 HS4 HS5 HR
  generalize w2.heap.size = g2 at *
  generalize w3.heap.size = g3 at *
  generalize w4.heap.size = g4 at *
  go_wp2_with fail
  refine Calls.mono (HS.out _) ?_
  rintro e w6 ⟨rfl, rfl⟩
  go_wp2_with fail
  go_loopw [14] (fun i wr => ∃ k : Nat, k ≤ 10 ∧ i = .int .i64 (k : Int) ∧ Hid (∃ cur : Array Value, cur.size = 10 ∧ FBox wr g2 9 ndA ∧ FBox wr g3 9 cur ∧ FBox wr g4 9 ndA ∧ Below w.heap.size w wr)) (fun i _ => 10 - (intOf i).toNat)
  case atStart => exact ⟨0, by decide, rfl, ⟨ndA, rfl, HW.out.1, HW.out.2.1, HW.out.2.2.1, HW.out.2.2.2⟩⟩
  case round =>
    obtain ⟨k, hk, rfl, HC⟩ := hrel
    by_cases hlt : k < 10
    · obtain ⟨cur, hc, k1, k2, k3, k4⟩ := HC.out
      have c0 : wr.cell? ⟨g3, k, none⟩ = some cur[k] := by rw [k2.cell k]; simp [hc, hlt]
      have c1 := k2.free k
      have h1 : (k : Int) < 10 := by omega
      have hl := HL.out
      have HE : Hid (∃ cur : Array Value, cur.size = 10 ∧ FBox (wr.setCell ⟨g3, k, none⟩ (.string { data := #[111, 118, 101, 114] })) g2 9 ndA ∧ FBox (wr.setCell ⟨g3, k, none⟩ (.string { data := #[111, 118, 101, 114] })) g3 9 cur ∧ FBox (wr.setCell ⟨g3, k, none⟩ (.string { data := #[111, 118, 101, 114] })) g4 9 ndA ∧ Below w.heap.size w (wr.setCell ⟨g3, k, none⟩ (.string { data := #[111, 118, 101, 114] }))) :=
        ⟨_, by rw [Array.size_setIfInBounds]; exact hc, k1.other _ _ (by show g2 ≠ g3; omega), k2.set k _, k3.other _ _ (by show g4 ≠ g3; omega), k4.setCell (p := ⟨g3, k, none⟩) (show w.heap.size ≤ g3 by omega) _⟩
      clear k1 k2 k3 k4 HC HW hl
      go_wp2_with fail
      refine ⟨⟨k + 1, by omega, by go_num, HE⟩, by simp [intOf]; omega⟩
    · obtain rfl : k = 10 := by omega
      obtain ⟨cur, hc, k1, k2, k3, k4⟩ := HC.out
      have HW2 : Hid (FBox wr g2 9 ndA ∧ FBox wr g4 9 ndA ∧ Below w.heap.size w wr) := ⟨k1, k3, k4⟩
      clear k1 k2 k3 k4 HC HW
      go_wp2_with fail
      refine Calls.mono (HN.out _) ?_
      rintro e w7 ⟨rfl, hf7, hb7, -⟩
      have HV : Hid (FBox w7 g2 9 ndA ∧ FBox w7 g4 9 ndA ∧ FBox w7 wr.heap.size 9 ndA ∧ Below w.heap.size w w7) := ⟨HW2.out.1.later hb7 HW2.out.1.lt, HW2.out.2.1.later hb7 HW2.out.2.1.lt, hf7, b2 HW2.out.2.2 hb7⟩
      clear hf7 hb7 HW2 HN
      generalize wr.heap.size = g5 at *
      go_wp2_with fail
      go_loopw [16] (fun i wr => ∃ k : Nat, k ≤ 10 ∧ i = .int .i64 (k : Int) ∧ Hid (FBox wr g2 9 ndA ∧ FBox wr g4 9 ndA ∧ FBox wr g5 9 ndA ∧ Below w.heap.size w wr)) (fun i _ => 10 - (intOf i).toNat)
      case atStart => exact ⟨0, by decide, rfl, HV⟩
      case round =>
        obtain ⟨k, hk, rfl, HC⟩ := hrel
        by_cases hlt : k < 10
        · have c0 : wr.cell? ⟨g2, k, none⟩ = some (.string (ndN k)) := (HC.out.1.cell k).trans (ndA_at hlt)
          have c1 : wr.cell? ⟨g4, k, none⟩ = some (.string (ndN k)) := (HC.out.2.1.cell k).trans (ndA_at hlt)
          have c2 : wr.cell? ⟨g5, k, none⟩ = some (.string (ndN k)) := (HC.out.2.2.1.cell k).trans (ndA_at hlt)
          have h1 : (k : Int) < 10 := by omega
          generalize ndN k = nk at *
          have h2 : (nk.toList == nk.toList) = true := by simp
          go_wp2_with fail
          go_quiet (fail)
          go_wp2_with fail
          refine ⟨⟨k + 1, by omega, by go_num, ⟨HC.out.1.drewN _, HC.out.2.1.drewN _, HC.out.2.2.1.drewN _, bdrewN HC.out.2.2.2 _⟩⟩, by simp [intOf]; omega⟩
        · obtain rfl : k = 10 := by omega
          go_wp2_with fail
          go_ret
          exact ⟨rfl, HC.out.2.2.2⟩
end Go.Proofs.Ytodihhokodnmkaa

/- The whole number nearest to a float, found by looking at the one below, itself and the one above, each difference rounded. Nothing here speaks of the program. -/
namespace Go.Proofs.Ytodihhokodnmkaa
open Go.RowKit
set_option linter.unusedVariables false

/-- A float that is not too small is a whole number of units. -/
theorem rung_dvd {r e : Nat} (h : 2 ^ (52 + e) ≤ rungVal r) : ∃ q, rungVal r = q * 2 ^ e := by
  have b52 : (2 : Nat) ^ 52 = 4503599627370496 := by decide
  have hp := Nat.two_pow_pos e
  unfold rungVal at h ⊢
  by_cases hr : r < 4503599627370496
  · rw [if_pos hr] at h ⊢
    by_cases he : e = 0
    · subst he; exact ⟨r, by simp⟩
    · exfalso
      have h1 : 2 ^ 52 ≤ 2 ^ (52 + e) := Nat.pow_le_pow_right (by decide) (by omega)
      omega
  · rw [if_neg hr] at h ⊢
    have hm : r % 4503599627370496 < 4503599627370496 := Nat.mod_lt _ (by decide)
    generalize r % 4503599627370496 = fr at *
    generalize r / 4503599627370496 - 1 = E at *
    by_cases hE : e ≤ E
    · refine ⟨(4503599627370496 + fr) * 2 ^ (E - e), ?_⟩
      rw [Nat.mul_assoc, ← Nat.pow_add, show E - e + e = E by omega]
    · exfalso
      have b53 : (2 : Nat) ^ 53 = 9007199254740992 := by decide
      have h1 : (4503599627370496 + fr) * 2 ^ E < 2 ^ 53 * 2 ^ E := Nat.mul_lt_mul_of_pos_right (by omega) (Nat.two_pow_pos E)
      rw [← Nat.pow_add] at h1
      have h2 : 2 ^ (53 + E) ≤ 2 ^ (52 + e) := Nat.pow_le_pow_right (by decide) (by omega)
      omega

/-- What is a float's number is told exactly. -/
theorem RN.self {A : Int} {D v : Nat} (h : RN A 1 D) (f : Fi v) (e : A = sv v) : sv D = A ∧ Fi D := by
  obtain ⟨neg, s, rfl, n1, n2, m⟩ := h
  have hv := sv_abs v
  rw [← e] at hv
  have h1 := m.le (by decide) (r := v % 9223372036854775808) (by rw [← hv]; omega)
  have h2 := m.ge (by decide) (r := v % 9223372036854775808) (by have := f.2; omega) (by rw [← hv]; omega)
  have hs : s = v % 9223372036854775808 := by omega
  subst hs
  refine ⟨?_, word_fi _ f.2⟩
  rw [sv_word _ _ (by have := f.2; omega), ← hv]
  cases neg
  · simp only [Bool.false_eq_true, if_false]
    by_cases hz : A < 0
    · cases n1 hz
    · omega
  · simp only [if_true]
    by_cases hz : 0 < A
    · cases n2 hz
    · omega
/-- A whole number of units of 2^k, at most 2^53 of them, is told exactly. -/
theorem RN.exact {A q : Int} {D k : Nat} (h : RN A 1 D) (e : A = q * ((2 ^ k : Nat) : Int)) (k1 : 53 ≤ k) (k2 : k ≤ 2044) (b1 : -9007199254740992 ≤ q) (b2 : q ≤ 9007199254740992) : sv D = A ∧ Fi D := by
  have hi := h.bounds (by decide) (k := k) (lo := q) (hi := q) k1 k2 b1 b2 (by rw [e]; simp) (by rw [e]; simp)
  exact ⟨by rw [hi.of_eq, e], hi.1⟩

/-- How a difference stands to -0.5 and 0.5. -/
def MidT (D : Nat) : Prop := (FloatKind.f64.format.order D 13826050856027422720 == some .gt) = true ∧ (FloatKind.f64.format.order D 4602678819172646912 == some .lt) = true
def PlusT (D : Nat) : Prop := (FloatKind.f64.format.order D 13826050856027422720 == some .gt) = true ∧ (FloatKind.f64.format.order D 4602678819172646912 == some .lt) = false ∧ (FloatKind.f64.format.order D 4602678819172646912 == some .eq) = true
def MinusT (D : Nat) : Prop := (FloatKind.f64.format.order D 13826050856027422720 == some .gt) = false ∧ (FloatKind.f64.format.order D 4602678819172646912 == some .eq) = false ∧ (FloatKind.f64.format.order D 13826050856027422720 == some .eq) = true
def HighT (D : Nat) : Prop := (FloatKind.f64.format.order D 13826050856027422720 == some .gt) = true ∧ (FloatKind.f64.format.order D 4602678819172646912 == some .lt) = false ∧ (FloatKind.f64.format.order D 4602678819172646912 == some .eq) = false ∧ (FloatKind.f64.format.order D 13826050856027422720 == some .eq) = false
theorem half_val : sv 4602678819172646912 = ((2 ^ 1073 : Nat) : Int) := by decide +kernel
theorem nhalf_val : sv 13826050856027422720 = -((2 ^ 1073 : Nat) : Int) := by decide +kernel
theorem half_sv (H : Nat) (hH : H = 2 ^ 1073) : sv 4602678819172646912 = (H : Int) ∧ sv 13826050856027422720 = -(H : Int) ∧ Fi 4602678819172646912 ∧ Fi 13826050856027422720 := by
  rw [half_val, nhalf_val, hH]
  exact ⟨rfl, rfl, ⟨by decide, by decide⟩, ⟨by decide, by decide⟩⟩
theorem midT {D H : Nat} (hH : H = 2 ^ 1073) (f : Fi D) (h1 : -(H : Int) < sv D) (h2 : sv D < (H : Int)) : MidT D := by
  obtain ⟨a, b, c, d⟩ := half_sv H hH
  refine ⟨?_, ?_⟩
  · rw [order_sv f d, b, Int.compare_eq_gt.2 h1]; rfl
  · rw [order_sv f c, a, Int.compare_eq_lt.2 h2]; rfl
theorem plusT {D H : Nat} (hH : H = 2 ^ 1073) (hp : 0 < H) (f : Fi D) (h1 : sv D = (H : Int)) : PlusT D := by
  obtain ⟨a, b, c, d⟩ := half_sv H hH
  refine ⟨?_, ?_, ?_⟩
  · rw [order_sv f d, b, Int.compare_eq_gt.2 (by omega)]; rfl
  · rw [order_sv f c, a, h1, Int.compare_eq_eq.2 rfl]; rfl
  · rw [order_sv f c, a, h1, Int.compare_eq_eq.2 rfl]; rfl
theorem minusT {D H : Nat} (hH : H = 2 ^ 1073) (hp : 0 < H) (f : Fi D) (h1 : sv D = -(H : Int)) : MinusT D := by
  obtain ⟨a, b, c, d⟩ := half_sv H hH
  refine ⟨?_, ?_, ?_⟩
  · rw [order_sv f d, b, h1, Int.compare_eq_eq.2 rfl]; rfl
  · rw [order_sv f c, a, Int.compare_eq_lt.2 (by omega)]; rfl
  · rw [order_sv f d, b, h1, Int.compare_eq_eq.2 rfl]; rfl
theorem highT {D H : Nat} (hH : H = 2 ^ 1073) (hp : 0 < H) (f : Fi D) (h1 : (H : Int) < sv D) : HighT D := by
  obtain ⟨a, b, c, d⟩ := half_sv H hH
  refine ⟨?_, ?_, ?_, ?_⟩
  · rw [order_sv f d, b, Int.compare_eq_gt.2 (by omega)]; rfl
  · rw [order_sv f c, a, Int.compare_eq_gt.2 h1]; rfl
  · rw [order_sv f c, a, Int.compare_eq_gt.2 h1]; rfl
  · rw [order_sv f d, b, Int.compare_eq_gt.2 (by omega)]; rfl

/-- What the search tells. -/
def NearS (N n : Int) (D1 D2 D3 : Nat) : Prop :=
  (n = N - 1 ∧ (MidT D1 ∨ (PlusT D1 ∧ (N - 1) % 2 = 0))) ∨
  (n = N ∧ (HighT D1 ∨ (PlusT D1 ∧ (N - 1) % 2 = 1)) ∧ (MidT D2 ∨ (PlusT D2 ∧ N % 2 = 0) ∨ (MinusT D2 ∧ N % 2 = 0))) ∨
  (n = N + 1 ∧ HighT D1 ∧ (HighT D2 ∨ (PlusT D2 ∧ N % 2 = 1)) ∧ (MidT D3 ∨ (MinusT D3 ∧ (N + 1) % 2 = 0)))

theorem sv_dvd {u e : Nat} (h : 2 ^ (52 + e) ≤ (sv u).natAbs) : ∃ q : Int, sv u = q * ((2 ^ e : Nat) : Int) := by
  have hv := sv_abs u
  rw [hv] at h
  obtain ⟨q, hq⟩ := rung_dvd h
  rw [hq] at hv
  generalize 2 ^ e = P at *
  by_cases hs : 0 ≤ sv u
  · exact ⟨q, by rw [← Int.natCast_mul]; omega⟩
  · exact ⟨-q, by rw [Int.neg_mul, ← Int.natCast_mul]; omega⟩

/-- A difference of a float and a whole number, as the machine makes it. -/
theorem sub_int {u : Nat} (f : Fi u) {k : Int} (h1 : -300000 ≤ k) (h2 : k ≤ 300000) (E : Nat) (hE : E = 1074) (hb : (sv u).natAbs ≤ 240000 * 2 ^ E) : ∃ D, floatBits .sub .f64 u (floatOfInt .f64 k) = some D ∧ Fi D ∧ RN (sv u - k * ((2 ^ E : Nat) : Int)) 1 D := by
  have hk := int_in k (by omega) (by omega)
  have hkv := hk.of_eq
  rw [← hE] at hkv
  have hex : ∃ D, FN .sub u (floatOfInt .f64 k) D := by
    cases h : floatBits .sub .f64 u (floatOfInt .f64 k) with
    | some r => exact ⟨r, FN.some h⟩
    | none => exact ⟨_, FN.none 0 h⟩
  obtain ⟨D, hD⟩ := hex
  have hR := sub_rn f hk.1 hD
  rw [hkv] at hR
  have hi := hR.bounds (by decide) (k := E) (lo := -600000) (hi := 600000) (by omega) (by omega) (by decide) (by decide) (by
    generalize 2 ^ E = P at *
    have e1 : (-300000 : Int) * (P : Int) ≤ k * (P : Int) := Int.mul_le_mul_of_nonneg_right h1 (Int.natCast_nonneg _)
    have e2 : k * (P : Int) ≤ 300000 * (P : Int) := Int.mul_le_mul_of_nonneg_right h2 (Int.natCast_nonneg _)
    omega) (by
    generalize 2 ^ E = P at *
    have e1 : (-300000 : Int) * (P : Int) ≤ k * (P : Int) := Int.mul_le_mul_of_nonneg_right h1 (Int.natCast_nonneg _)
    have e2 : k * (P : Int) ≤ 300000 * (P : Int) := Int.mul_le_mul_of_nonneg_right h2 (Int.natCast_nonneg _)
    omega)
  refine ⟨D, ?_, hi.1, hR⟩
  rcases hD.2 with h | ⟨_, h⟩
  · exact h
  · rw [hi.1.notnan] at h; cases h

/-- Where a rounded number is not below a whole number of units, and not above another. -/
theorem RN.ge {A lo : Int} {D k : Nat} (h : RN A 1 D) (k1 : 53 ≤ k) (k2 : k ≤ 2044) (hlo : -9007199254740992 ≤ lo) (hhi : lo ≤ 9007199254740992) (hA : lo * ((2 ^ k : Nat) : Int) ≤ A) (hA2 : A ≤ 9007199254740992 * ((2 ^ k : Nat) : Int)) : lo * ((2 ^ k : Nat) : Int) ≤ sv D :=
  (h.bounds (by decide) (k := k) (lo := lo) (hi := 9007199254740992) k1 k2 hlo (by decide) (by rw [show ((1 : Nat) : Int) = 1 from rfl, Int.mul_one]; exact hA) (by rw [show ((1 : Nat) : Int) = 1 from rfl, Int.mul_one]; exact hA2)).2.1

theorem he_of {M F P H : Nat} {R : Nat} (hP : P = 2 * H) (hF : F < P) (h : (R = M ∧ F < H) ∨ (R = M ∧ F = H ∧ M % 2 = 0) ∨ (R = M + 1 ∧ H < F) ∨ (R = M + 1 ∧ F = H ∧ (M + 1) % 2 = 0)) : HE (M * P + F) P R := by
  have e1 : 2 * (M * P + F) = 2 * (M * P) + 2 * F := by omega
  have e2 : (2 * M + 1) * P = 2 * (M * P) + P := by rw [Nat.add_mul, Nat.one_mul, Nat.mul_assoc]
  have e3 : (2 * (M + 1) + 1) * P = 2 * (M * P) + 3 * P := by rw [show 2 * (M + 1) + 1 = 2 * M + 3 by omega, Nat.add_mul, Nat.mul_assoc]
  have e4 : 2 * M * P = 2 * (M * P) := Nat.mul_assoc ..
  have e5 : 2 * (M + 1) * P = 2 * (M * P) + 2 * P := by rw [Nat.mul_assoc, Nat.add_mul, Nat.one_mul]; omega
  generalize M * P = Q at *
  rcases h with ⟨rfl, h⟩ | ⟨rfl, h, g⟩ | ⟨rfl, h⟩ | ⟨rfl, h, g⟩
  · exact ⟨by omega, by omega, fun _ => by omega, fun _ => by omega⟩
  · exact ⟨by omega, by omega, fun _ => by omega, fun _ => by omega⟩
  · exact ⟨by omega, by omega, fun _ => by omega, fun _ => by omega⟩
  · exact ⟨by omega, by omega, fun _ => by omega, fun _ => by omega⟩

theorem RN.unit {A X q m : Int} {k C D : Nat} (h : RN A 1 D) (hX : X = q * ((2 ^ k : Nat) : Int)) (hA : A = X - m * ((C * 2 ^ k : Nat) : Int)) (k1 : 53 ≤ k) (k2 : k ≤ 2044) (b1 : -9007199254740992 * ((2 ^ k : Nat) : Int) ≤ A) (b2 : A ≤ 9007199254740992 * ((2 ^ k : Nat) : Int)) : sv D = A ∧ Fi D := by
  have e : A = (q - m * (C : Int)) * ((2 ^ k : Nat) : Int) := by rw [hA, hX, Int.sub_mul, Int.natCast_mul, Int.mul_assoc]
  have hp := Nat.two_pow_pos k
  refine RN.exact h e k1 k2 ?_ ?_
  · rw [e] at b1; exact mulD_le hp b1
  · rw [e] at b2; exact mulD_le hp b2

theorem near_search {u : Nat} (f : Fi u) (hb : (sv u).natAbs ≤ 240000 * 2 ^ 1074) : ∃ n D1 D2 D3, RI u n ∧ floatBits .sub .f64 u (floatOfInt .f64 (Int.tdiv (sv u) ((2 ^ 1074 : Nat) : Int) - 1)) = some D1 ∧ floatBits .sub .f64 u (floatOfInt .f64 (Int.tdiv (sv u) ((2 ^ 1074 : Nat) : Int))) = some D2 ∧ floatBits .sub .f64 u (floatOfInt .f64 (Int.tdiv (sv u) ((2 ^ 1074 : Nat) : Int) + 1)) = some D3 ∧ NearS (Int.tdiv (sv u) ((2 ^ 1074 : Nat) : Int)) n D1 D2 D3 := by
  obtain ⟨E, hE⟩ : ∃ E, E = 1074 := ⟨_, rfl⟩
  obtain ⟨e0, he0⟩ : ∃ e0, e0 = 1073 := ⟨_, rfl⟩
  obtain ⟨e1, he1⟩ : ∃ e1, e1 = 1021 := ⟨_, rfl⟩
  obtain ⟨e2, he2⟩ : ∃ e2, e2 = 1022 := ⟨_, rfl⟩
  obtain ⟨H, hH'⟩ : ∃ H, H = 2 ^ e0 := ⟨_, rfl⟩
  have hH : H = 2 ^ 1073 := by rw [hH', he0]
  have pP : 2 ^ E = 2 * H := by rw [hH', show E = e0 + 1 by omega, Nat.pow_succ, Nat.mul_comm]
  have pH : H = 4503599627370496 * 2 ^ e1 := by rw [hH', show e0 = 52 + e1 by omega, Nat.pow_add]
  have pU : 2 ^ e2 = 2 * 2 ^ e1 := by rw [show e2 = e1 + 1 by omega, Nat.pow_succ, Nat.mul_comm]
  have pe1 : 2 ^ (52 + e1) = H := by rw [pH, Nat.pow_add]
  have pe2 : 2 ^ (52 + e2) = 2 * H := by rw [pH, Nat.pow_add, pU]; omega
  have hU0 := Nat.two_pow_pos e1
  have hH0 : 0 < H := by omega
  have cP1 : 9007199254740992 * 2 ^ e1 = 2 * H := by omega
  have cP2 : 4503599627370496 * 2 ^ e2 = 2 * H := by omega
  have hRI : ∀ n : Int, HE (sv u).natAbs (2 ^ E) n.natAbs → (sv u < 0 → n ≤ 0) → (0 < sv u → 0 ≤ n) → RI u n := fun n h1 h2 h3 => ⟨by rw [show (1074 : Nat) = E from hE.symm]; exact h1, h2, h3⟩
  rw [show (1074 : Nat) = E from hE.symm] at hb ⊢
  have dv1 : Hid (H ≤ (sv u).natAbs → ∃ q : Int, sv u = q * ((2 ^ e1 : Nat) : Int)) := fun h => sv_dvd (by rw [pe1]; exact h)
  have dv2 : Hid (2 * H ≤ (sv u).natAbs → ∃ q : Int, sv u = q * ((2 ^ e2 : Nat) : Int)) := fun h => sv_dvd (by rw [pe2]; exact h)
  -- the whole part and the rest
  obtain ⟨M, F, hMF, hF, hM⟩ : ∃ M F, (sv u).natAbs = M * (2 * H) + F ∧ F < 2 * H ∧ M ≤ 240000 := by
    refine ⟨(sv u).natAbs / (2 * H), (sv u).natAbs % (2 * H), ?_, Nat.mod_lt _ (by omega), ?_⟩
    · have := Nat.div_add_mod (sv u).natAbs (2 * H); rw [Nat.mul_comm] at this; exact this.symm
    · rw [pP] at hb
      exact Nat.div_le_of_le_mul (by rw [Nat.mul_comm]; exact hb)
  have mP : M * (2 * H) = M * 2 ^ E := by rw [pP]
  have hsub : ∀ k : Int, -300000 ≤ k → k ≤ 300000 → ∃ D, floatBits .sub .f64 u (floatOfInt .f64 k) = some D ∧ Fi D ∧ RN (sv u - k * ((2 ^ E : Nat) : Int)) 1 D := fun k h1 h2 => sub_int f h1 h2 E hE hb
  rw [pP] at hsub ⊢
  have t1 : 53 ≤ e1 := by omega
  have t2 : e1 ≤ 2044 := by omega
  have t3 : 53 ≤ e2 := by omega
  have t4 : e2 ≤ 2044 := by omega
  have t5 : 53 ≤ E := by omega
  have t6 : E ≤ 2044 := by omega
  have kM : ((M : Nat) : Int) * ((2 * H : Nat) : Int) = ((M * (2 * H) : Nat) : Int) := (Int.natCast_mul ..).symm
  have hHE := fun R h => he_of (M := M) (F := F) (P := 2 * H) (H := H) (R := R) rfl hF h
  rw [← hMF] at hHE
  by_cases hs : 0 ≤ sv u
  · have hX : sv u = ((M * (2 * H) : Nat) : Int) + (F : Int) := by omega
    have hN : Int.tdiv (sv u) ((2 * H : Nat) : Int) = (M : Int) := by
      rw [Int.tdiv_eq_ediv_of_nonneg hs, hX]
      rw [Int.natCast_mul, Int.add_comm, Int.add_mul_ediv_right _ _ (by omega), Int.ediv_eq_zero_of_lt (by omega) (by omega), Int.zero_add]
    rw [hN]
    obtain ⟨D1, s1, f1, r1⟩ := hsub ((M : Int) - 1) (by omega) (by omega)
    obtain ⟨D2, s2, f2, r2⟩ := hsub (M : Int) (by omega) (by omega)
    obtain ⟨D3, s3, f3, r3⟩ := hsub ((M : Int) + 1) (by omega) (by omega)
    have a1 : sv u - ((M : Int) - 1) * ((2 * H : Nat) : Int) = ((2 * H : Nat) : Int) + (F : Int) := by rw [Int.sub_mul, kM, hX]; omega
    have a2 : sv u - (M : Int) * ((2 * H : Nat) : Int) = (F : Int) := by rw [kM, hX]; omega
    have a3 : sv u - ((M : Int) + 1) * ((2 * H : Nat) : Int) = (F : Int) - ((2 * H : Nat) : Int) := by rw [Int.add_mul, kM, hX]; omega
    have T1 : HighT D1 := by
      rw [a1] at r1
      have g := RN.ge r1 t5 t6 (lo := 1) (by decide) (by decide) (by rw [pP]; omega) (by rw [pP]; omega)
      rw [pP] at g
      exact highT hH hH0 f1 (by omega)
    have T2 : sv D2 = (F : Int) := by
      by_cases hM0 : M = 0
      · have e : sv u = (F : Int) := by rw [hX, hM0]; simp
        rw [a2] at r2
        exact (RN.self r2 f e.symm).1
      · obtain ⟨q, hq⟩ := dv2.out (by rw [hMF]; have := Nat.le_mul_of_pos_left (2 * H) (show 0 < M by omega); omega)
        have g := RN.unit (m := (M : Int)) (C := 4503599627370496) r2 hq (by rw [cP2]) t3 t4 (by rw [a2]; omega) (by rw [a2]; omega)
        rw [g.1, a2]
    rcases Nat.lt_trichotomy F H with hFH | hFH | hFH
    · exact ⟨M, D1, D2, D3, hRI _ (by rw [pP, Int.natAbs_natCast]; exact hHE M (.inl ⟨rfl, hFH⟩)) (fun h => by omega) (fun _ => by omega), s1, s2, s3, .inr (.inl ⟨rfl, .inl T1, .inl (midT hH f2 (by omega) (by omega))⟩)⟩
    · by_cases hev : M % 2 = 0
      · exact ⟨M, D1, D2, D3, hRI _ (by rw [pP, Int.natAbs_natCast]; exact hHE M (.inr (.inl ⟨rfl, hFH, hev⟩))) (fun h => by omega) (fun _ => by omega), s1, s2, s3, .inr (.inl ⟨rfl, .inl T1, .inr (.inl ⟨plusT hH hH0 f2 (by omega), by omega⟩)⟩)⟩
      · obtain ⟨q, hq⟩ := dv1.out (by rw [hMF]; omega)
        have g := RN.unit (m := (M : Int) + 1) (C := 9007199254740992) r3 hq (by rw [cP1]) t1 t2 (by rw [a3]; omega) (by rw [a3]; omega)
        rw [a3] at g
        exact ⟨(M : Int) + 1, D1, D2, D3, hRI _ (by rw [pP, show ((M : Int) + 1).natAbs = M + 1 by omega]; exact hHE (M + 1) (.inr (.inr (.inr ⟨rfl, hFH, by omega⟩)))) (fun h => by omega) (fun _ => by omega), s1, s2, s3, .inr (.inr ⟨rfl, T1, .inr ⟨plusT hH hH0 f2 (by omega), by omega⟩, .inr ⟨minusT hH hH0 f3 (by rw [g.1]; omega), by omega⟩⟩)⟩
    · obtain ⟨q, hq⟩ := dv1.out (by rw [hMF]; omega)
      have g := RN.unit (m := (M : Int) + 1) (C := 9007199254740992) r3 hq (by rw [cP1]) t1 t2 (by rw [a3]; omega) (by rw [a3]; omega)
      rw [a3] at g
      exact ⟨(M : Int) + 1, D1, D2, D3, hRI _ (by rw [pP, show ((M : Int) + 1).natAbs = M + 1 by omega]; exact hHE (M + 1) (.inr (.inr (.inl ⟨rfl, hFH⟩)))) (fun h => by omega) (fun _ => by omega), s1, s2, s3, .inr (.inr ⟨rfl, T1, .inl (highT hH hH0 f2 (by omega)), .inl (midT hH f3 (by rw [g.1]; omega) (by rw [g.1]; omega))⟩)⟩
  · have hX : sv u = -((M * (2 * H) : Nat) : Int) - (F : Int) := by omega
    have hN : Int.tdiv (sv u) ((2 * H : Nat) : Int) = -(M : Int) := by
      rw [show sv u = -(((M * (2 * H) : Nat) : Int) + (F : Int)) by omega, Int.neg_tdiv, Int.tdiv_eq_ediv_of_nonneg (by omega)]
      rw [Int.natCast_mul, Int.add_comm, Int.add_mul_ediv_right _ _ (by omega), Int.ediv_eq_zero_of_lt (by omega) (by omega), Int.zero_add]
    rw [hN]
    obtain ⟨D1, s1, f1, r1⟩ := hsub (-(M : Int) - 1) (by omega) (by omega)
    obtain ⟨D2, s2, f2, r2⟩ := hsub (-(M : Int)) (by omega) (by omega)
    obtain ⟨D3, s3, f3, r3⟩ := hsub (-(M : Int) + 1) (by omega) (by omega)
    have a1 : sv u - (-(M : Int) - 1) * ((2 * H : Nat) : Int) = ((2 * H : Nat) : Int) - (F : Int) := by rw [Int.sub_mul, Int.neg_mul, kM, hX]; omega
    have a2 : sv u - (-(M : Int)) * ((2 * H : Nat) : Int) = -(F : Int) := by rw [Int.neg_mul, kM, hX]; omega
    have T2 : sv D2 = -(F : Int) := by
      by_cases hM0 : M = 0
      · have e : sv u = -(F : Int) := by rw [hX, hM0]; simp
        rw [a2] at r2
        exact (RN.self r2 f e.symm).1
      · obtain ⟨q, hq⟩ := dv2.out (by rw [hMF]; have := Nat.le_mul_of_pos_left (2 * H) (show 0 < M by omega); omega)
        have g := RN.unit (m := -(M : Int)) (C := 4503599627370496) r2 hq (by rw [cP2]) t3 t4 (by rw [a2]; omega) (by rw [a2]; omega)
        rw [g.1, a2]
    rcases Nat.lt_trichotomy F H with hFH | hFH | hFH
    · have T1 : HighT D1 ∨ (PlusT D1 ∧ (-(M : Int) - 1) % 2 = 1) := by
        by_cases hM0 : M = 0
        · rw [a1] at r1
          have g := RN.ge r1 t1 t2 (lo := 4503599627370496) (by decide) (by decide) (by omega) (by omega)
          rcases Int.lt_or_eq_of_le (show (H : Int) ≤ sv D1 by omega) with h | h
          · exact .inl (highT hH hH0 f1 h)
          · exact .inr ⟨plusT hH hH0 f1 h.symm, by omega⟩
        · obtain ⟨q, hq⟩ := dv2.out (by rw [hMF]; have := Nat.le_mul_of_pos_left (2 * H) (show 0 < M by omega); omega)
          have g := RN.unit (m := -(M : Int) - 1) (C := 4503599627370496) r1 hq (by rw [cP2]) t3 t4 (by rw [a1]; omega) (by rw [a1]; omega)
          rw [a1] at g
          exact .inl (highT hH hH0 f1 (by rw [g.1]; omega))
      exact ⟨-(M : Int), D1, D2, D3, hRI _ (by rw [pP, show (-(M : Int)).natAbs = M by omega]; exact hHE M (.inl ⟨rfl, hFH⟩)) (fun h => by omega) (fun _ => by omega), s1, s2, s3, .inr (.inl ⟨rfl, T1, .inl (midT hH f2 (by omega) (by omega))⟩)⟩
    · obtain ⟨q, hq⟩ := dv1.out (by rw [hMF]; omega)
      have g := RN.unit (m := -(M : Int) - 1) (C := 9007199254740992) r1 hq (by rw [cP1]) t1 t2 (by rw [a1]; omega) (by rw [a1]; omega)
      rw [a1] at g
      have T1 : PlusT D1 := plusT hH hH0 f1 (by rw [g.1]; omega)
      by_cases hev : (M + 1) % 2 = 0
      · exact ⟨-(M : Int) - 1, D1, D2, D3, hRI _ (by rw [pP, show (-(M : Int) - 1).natAbs = M + 1 by omega]; exact hHE (M + 1) (.inr (.inr (.inr ⟨rfl, hFH, hev⟩)))) (fun h => by omega) (fun _ => by omega), s1, s2, s3, .inl ⟨rfl, .inr ⟨T1, by omega⟩⟩⟩
      · exact ⟨-(M : Int), D1, D2, D3, hRI _ (by rw [pP, show (-(M : Int)).natAbs = M by omega]; exact hHE M (.inr (.inl ⟨rfl, hFH, by omega⟩))) (fun h => by omega) (fun _ => by omega), s1, s2, s3, .inr (.inl ⟨rfl, .inr ⟨T1, by omega⟩, .inr (.inr ⟨minusT hH hH0 f2 (by omega), by omega⟩)⟩)⟩
    · obtain ⟨q, hq⟩ := dv1.out (by rw [hMF]; omega)
      have g := RN.unit (m := -(M : Int) - 1) (C := 9007199254740992) r1 hq (by rw [cP1]) t1 t2 (by rw [a1]; omega) (by rw [a1]; omega)
      rw [a1] at g
      exact ⟨-(M : Int) - 1, D1, D2, D3, hRI _ (by rw [pP, show (-(M : Int) - 1).natAbs = M + 1 by omega]; exact hHE (M + 1) (.inr (.inr (.inl ⟨rfl, hFH⟩)))) (fun h => by omega) (fun _ => by omega), s1, s2, s3, .inl ⟨rfl, .inl (midT hH f1 (by rw [g.1]; omega) (by rw [g.1]; omega))⟩⟩
end Go.Proofs.Ytodihhokodnmkaa

/- The document's answers of layer 12: nearest, Turn, Times. -/
namespace Go.Proofs.Ytodihhokodnmkaa
open Go.RowKit Go.Shelf
set_option linter.unusedVariables false
set_option linter.unusedSimpArgs false

theorem tmod2_even {k : Int} (h : k % 2 = 0) : (Int.tmod k 2 == 0) = true := by
  have : Int.tmod k 2 = 0 := Int.tmod_eq_zero_of_dvd (Int.dvd_of_emod_eq_zero h)
  rw [this]; rfl
theorem tmod2_odd {k : Int} (h : k % 2 = 1) : (Int.tmod k 2 == 0) = false := by
  have : Int.tmod k 2 ≠ 0 := fun e => by
    have := Int.emod_eq_zero_of_dvd (Int.dvd_of_tmod_eq_zero e)
    omega
  simpa using this
theorem tmod2_wrap (k : Int) : IntKind.i64.wrap (Int.tmod k 2) = Int.tmod k 2 := by
  have h1 := Int.tmod_lt_of_pos k (show (0 : Int) < 2 by decide)
  have h2 : -2 < Int.tmod k 2 := by
    have := Int.tmod_lt_of_pos (-k) (show (0 : Int) < 2 by decide)
    rw [Int.neg_tmod] at this
    omega
  rw [IntKind.wrap_i64]; omega

set_option maxHeartbeats 6400000 in
set_option maxRecDepth 100000 in
theorem nrnearest_any (u : Nat) (N n : Int) (D1 D2 D3 : Nat) (w : World) (h0 : floatToIntVal .f64 u .i64 = some N) (hN : -300000 ≤ N ∧ N ≤ 300000) (h1 : floatBits .sub .f64 u (floatOfInt .f64 (N - 1)) = some D1) (h2 : floatBits .sub .f64 u (floatOfInt .f64 N) = some D2) (h3 : floatBits .sub .f64 u (floatOfInt .f64 (N + 1)) = some D3) (hs : NearS N n D1 D2 D3) :
    Calls Try.prog 28 #[.float .f64 u] w fun e w' => e = .returned (.int .i64 n) ∧ w' = w := by
  have rC : ∀ V, (convert 27 2 (.float .f64 u)).run Try.prog V = .ok (.int .i64 N) V := fun V => run_convert_float_int V _ _ _ _ _ _ (by kernel_rfl) (by kernel_rfl) h0
  have r1 : ∀ V, (binOp .sub 27 (.float .f64 u) (.float .f64 (floatOfInt .f64 (N - 1)))).run Try.prog V = .ok (.float .f64 D1) V := fun V => run_float_arith V _ _ _ _ _ _ h1
  have r2 : ∀ V, (binOp .sub 27 (.float .f64 u) (.float .f64 (floatOfInt .f64 N))).run Try.prog V = .ok (.float .f64 D2) V := fun V => run_float_arith V _ _ _ _ _ _ h2
  have r3 : ∀ V, (binOp .sub 27 (.float .f64 u) (.float .f64 (floatOfInt .f64 (N + 1)))).run Try.prog V = .ok (.float .f64 D3) V := fun V => run_float_arith V _ _ _ _ _ _ h3
  obtain ⟨n0, n1⟩ := hN
  have w1 : IntKind.i64.wrap (N - 1) = N - 1 := by rw [IntKind.wrap_i64]; omega
  have w2 : IntKind.i64.wrap (N + 1) = N + 1 := by rw [IntKind.wrap_i64]; omega
  have w3 : IntKind.i64.wrap (N - 1 + 1) = N := by rw [IntKind.wrap_i64]; omega
  have l1 : N - 1 ≤ N + 1 := by omega
  have l2 : N ≤ N + 1 := by omega
  have q1 := tmod2_wrap (N - 1)
  have q2 := tmod2_wrap N
  have q3 := tmod2_wrap (N + 1)
  clear h0 h1 h2 h3
  rcases hs with ⟨rfl, hs⟩ | ⟨rfl, hs1, hs2⟩ | ⟨rfl, hs1, hs2, hs3⟩
  · rcases hs with ⟨m1a, m1b⟩ | ⟨⟨m1a, m1b, m1c⟩, m1e⟩
    · go_enter Try.func28, Try.ntmps28
      go_wp2_with fail
      refine wp_loop_rounds 1 ?_
      rw [rounds_succ]
      go_wp2_with fail
      go_ret
      exact ⟨rfl, rfl⟩
    · have t1 := tmod2_even m1e
      go_enter Try.func28, Try.ntmps28
      go_wp2_with fail
      refine wp_loop_rounds 1 ?_
      rw [rounds_succ]
      go_wp2_with fail
      go_ret
      exact ⟨rfl, rfl⟩
  · rcases hs1 with ⟨m1a, m1b, m1c, m1d⟩ | ⟨⟨m1a, m1b, m1c⟩, m1e⟩
    · rcases hs2 with ⟨m2a, m2b⟩ | ⟨⟨m2a, m2b, m2c⟩, m2e⟩ | ⟨⟨m2a, m2b, m2c⟩, m2e⟩
      · go_enter Try.func28, Try.ntmps28
        go_wp2_with fail
        refine wp_loop_rounds 2 ?_
        rw [rounds_succ]
        go_wp2_with fail
        rw [rounds_succ]
        go_wp2_with fail
        go_ret
        exact ⟨rfl, rfl⟩
      · have t2 := tmod2_even m2e
        go_enter Try.func28, Try.ntmps28
        go_wp2_with fail
        refine wp_loop_rounds 2 ?_
        rw [rounds_succ]
        go_wp2_with fail
        rw [rounds_succ]
        go_wp2_with fail
        go_ret
        exact ⟨rfl, rfl⟩
      · have t2 := tmod2_even m2e
        go_enter Try.func28, Try.ntmps28
        go_wp2_with fail
        refine wp_loop_rounds 2 ?_
        rw [rounds_succ]
        go_wp2_with fail
        rw [rounds_succ]
        go_wp2_with fail
        go_ret
        exact ⟨rfl, rfl⟩
    · have t1 := tmod2_odd m1e
      rcases hs2 with ⟨m2a, m2b⟩ | ⟨⟨m2a, m2b, m2c⟩, m2e⟩ | ⟨⟨m2a, m2b, m2c⟩, m2e⟩
      · go_enter Try.func28, Try.ntmps28
        go_wp2_with fail
        refine wp_loop_rounds 2 ?_
        rw [rounds_succ]
        go_wp2_with fail
        rw [rounds_succ]
        go_wp2_with fail
        go_ret
        exact ⟨rfl, rfl⟩
      · have t2 := tmod2_even m2e
        go_enter Try.func28, Try.ntmps28
        go_wp2_with fail
        refine wp_loop_rounds 2 ?_
        rw [rounds_succ]
        go_wp2_with fail
        rw [rounds_succ]
        go_wp2_with fail
        go_ret
        exact ⟨rfl, rfl⟩
      · have t2 := tmod2_even m2e
        go_enter Try.func28, Try.ntmps28
        go_wp2_with fail
        refine wp_loop_rounds 2 ?_
        rw [rounds_succ]
        go_wp2_with fail
        rw [rounds_succ]
        go_wp2_with fail
        go_ret
        exact ⟨rfl, rfl⟩
  · obtain ⟨m1a, m1b, m1c, m1d⟩ := hs1
    rcases hs2 with ⟨m2a, m2b, m2c, m2d⟩ | ⟨⟨m2a, m2b, m2c⟩, m2e⟩
    · rcases hs3 with ⟨m3a, m3b⟩ | ⟨⟨m3a, m3b, m3c⟩, m3e⟩
      · go_enter Try.func28, Try.ntmps28
        go_wp2_with fail
        refine wp_loop_rounds 3 ?_
        rw [rounds_succ]
        go_wp2_with fail
        rw [rounds_succ]
        go_wp2_with fail
        rw [rounds_succ]
        go_wp2_with fail
        go_ret
        exact ⟨rfl, rfl⟩
      · have t3 := tmod2_even m3e
        go_enter Try.func28, Try.ntmps28
        go_wp2_with fail
        refine wp_loop_rounds 3 ?_
        rw [rounds_succ]
        go_wp2_with fail
        rw [rounds_succ]
        go_wp2_with fail
        rw [rounds_succ]
        go_wp2_with fail
        go_ret
        exact ⟨rfl, rfl⟩
    · have t2 := tmod2_odd m2e
      rcases hs3 with ⟨m3a, m3b⟩ | ⟨⟨m3a, m3b, m3c⟩, m3e⟩
      · go_enter Try.func28, Try.ntmps28
        go_wp2_with fail
        refine wp_loop_rounds 3 ?_
        rw [rounds_succ]
        go_wp2_with fail
        rw [rounds_succ]
        go_wp2_with fail
        rw [rounds_succ]
        go_wp2_with fail
        go_ret
        exact ⟨rfl, rfl⟩
      · have t3 := tmod2_even m3e
        go_enter Try.func28, Try.ntmps28
        go_wp2_with fail
        refine wp_loop_rounds 3 ?_
        rw [rounds_succ]
        go_wp2_with fail
        rw [rounds_succ]
        go_wp2_with fail
        rw [rounds_succ]
        go_wp2_with fail
        go_ret
        exact ⟨rfl, rfl⟩

set_option maxHeartbeats 1600000 in
set_option maxRecDepth 100000 in
theorem nrTurn_ok (n : ByteArray) (k t re im u : Nat) (m : Int) (p g : Nat) (w : World) (hk : ndK n.toList = some k) (ht : t ≤ 1048576) (h : NodeR t re im) (h1 : floatBits .mul .f64 (ndC k) im = some u)
    (HNr : Hid (∀ V, Calls Try.prog 28 #[.float .f64 u] V fun e w' => e = .returned (.int .i64 m) ∧ w' = V)) (hm : m.natAbs ≤ 237000) (hp : m % ((3600000 : Nat) : Int) = (p : Int)) (hg : Nat.gcd p 3600000 = g) :
    Calls Try.prog 10 #[.string n, .int .i64 (t : Int)] w fun e w' => e = .returned (.tuple #[.agg #[.int .i64 ((p / g : Nat) : Int), .int .i64 ((3600000 / g : Nat) : Int)], .int .i64 0]) ∧ Below w.heap.size w w' := by
  have HN := hid (fun V => nrNode_ok t re im V ht h)
  have HR := hid (fun V => nrrow_any n V)
  rw [hk, show nrV (some k) = Value.tuple #[.float .f64 (ndB k), .float .f64 (ndS k), .float .f64 (ndC k), .bool true] from rfl] at HR
  have rM : ∀ V, (binOp .mul 27 (.float .f64 (ndC k)) (.float .f64 im)).run Try.prog V = .ok (.float .f64 u) V := fun V => run_float_arith V _ _ _ _ _ _ h1
  have HT := hid (fun V => nrTurned_any m 3600000 p g V ⟨by omega, by omega⟩ (by decide) (by decide) hp hg)
  rw [show ((3600000 : Nat) : Int) = 3600000 from rfl] at HT
  generalize ndB k = rb at *
  generalize ndS k = rs at *
  generalize ndC k = rc at *
  generalize p / g = P1 at *
  generalize 3600000 / g = W1 at *
  have HX := hid (boxes1 w 31 #[.int .i64 0, .int .i64 0])
  clear hk ht h h1 hp hg hm
  go_enter Try.func10, Try.ntmps10
  go_wp2_with fail
  generalize w.alloc (.cells #[.int .i64 0, .int .i64 0] 31) = X at *
  refine Calls.mono (HN.out _) ?_
  rintro e w1 ⟨rfl, hb1⟩
  go_wp2_with fail
  refine Calls.mono (HR.out _) ?_
  rintro e w2 ⟨rfl, rfl⟩
  go_wp2_with fail
  refine Calls.mono (HNr.out _) ?_
  rintro e w3 ⟨rfl, rfl⟩
  go_wp2_with fail
  refine Calls.mono (HT.out _) ?_
  rintro e w4 ⟨rfl, hb4⟩
  obtain ⟨c0, c1, f0, f1⟩ := fbox_facts HX.out.1 (b2 hb1 hb4)
  have HB := hid (b2 HX.out.2 (b2 hb1 hb4))
  clear hb1 hb4 HX
  go_wp2_with fail
  refine bodyPost_ret (v := Value.tuple #[.agg #[.int .i64 (P1 : Int), .int .i64 (W1 : Int)], .int .i64 0]) (by simp [results, Try.results10, go_sem, c0, c1]) rfl ?_
  exact ⟨rfl, fput2 HB.out _ (Nat.le_refl _) _ _⟩
set_option maxHeartbeats 1600000 in
set_option maxRecDepth 100000 in
theorem nrTurn_none (n : ByteArray) (t re im : Nat) (w : World) (hk : ndK n.toList = none) (ht : t ≤ 1048576) (h : NodeR t re im) :
    Calls Try.prog 10 #[.string n, .int .i64 (t : Int)] w fun e w' => e = .returned (.tuple #[.agg #[.int .i64 0, .int .i64 0], .int .i64 6]) ∧ Below w.heap.size w w' := by
  have HN := hid (fun V => nrNode_ok t re im V ht h)
  have HR := hid (fun V => nrrow_any n V)
  rw [hk, show nrV none = Value.tuple #[.float .f64 0, .float .f64 0, .float .f64 0, .bool false] from rfl] at HR
  have HX := hid (boxes1 w 31 #[.int .i64 0, .int .i64 0])
  clear hk ht h
  go_enter Try.func10, Try.ntmps10
  go_wp2_with fail
  generalize w.alloc (.cells #[.int .i64 0, .int .i64 0] 31) = X at *
  refine Calls.mono (HN.out _) ?_
  rintro e w1 ⟨rfl, hb1⟩
  go_wp2_with fail
  refine Calls.mono (HR.out _) ?_
  rintro e w2 ⟨rfl, rfl⟩
  obtain ⟨c0, c1, f0, f1⟩ := fbox_facts HX.out.1 hb1
  have HB := hid (b2 HX.out.2 hb1)
  clear hb1 HX
  go_wp2_with fail
  refine bodyPost_ret (v := Value.tuple #[.agg #[.int .i64 0, .int .i64 0], .int .i64 6]) (by simp [results, Try.results10, go_sem, c0, c1]) rfl ?_
  exact ⟨rfl, by first | exact fput2 HB.out _ (Nat.le_refl _) _ _ | exact HB.out⟩
set_option maxHeartbeats 1600000 in
set_option maxRecDepth 100000 in
theorem nrTurn_err (n : ByteArray) (t : Int) (w : World) (h : ¬ (0 ≤ t ∧ t ≤ 1048576)) :
    Calls Try.prog 10 #[.string n, .int .i64 t] w fun e w' => e = .returned (.tuple #[.agg #[.int .i64 0, .int .i64 0], .int .i64 2]) ∧ Below w.heap.size w w' := by
  have HN := hid (fun V => nrNode_err t V h)
  have HX := hid (boxes1 w 31 #[.int .i64 0, .int .i64 0])
  clear h
  go_enter Try.func10, Try.ntmps10
  go_wp2_with fail
  generalize w.alloc (.cells #[.int .i64 0, .int .i64 0] 31) = X at *
  refine Calls.mono (HN.out _) ?_
  rintro e w1 ⟨rfl, rfl⟩
  obtain ⟨c0, c1, f0, f1⟩ := fbox_facts HX.out.1 (Below.refl _ _)
  have HB := hid HX.out.2
  clear HX
  go_wp2_with fail
  refine bodyPost_ret (v := Value.tuple #[.agg #[.int .i64 0, .int .i64 0], .int .i64 2]) (by simp [results, Try.results10, go_sem, c0, c1]) rfl ?_
  exact ⟨rfl, by first | exact fput2 HB.out _ (Nat.le_refl _) _ _ | exact HB.out⟩

/-- The turn of so many 3,600,000ths, by its parts. -/
theorem of_eq {n : Int} {p g : Nat} (hp : n % ((3600000 : Nat) : Int) = (p : Int)) (hg : Nat.gcd p 3600000 = g) : ofR n 3600000 = (((p / g : Nat) : Int), ((3600000 / g : Nat) : Int), 0) ∧ g * (3600000 / g) = 3600000 ∧ g * (p / g) = p ∧ 0 < g := by
  have hg0 : 0 < g := by rw [← hg]; exact Nat.gcd_pos_of_pos_right _ (by decide)
  have hd : g ∣ 3600000 := by rw [← hg]; exact Nat.gcd_dvd_right _ _
  have hdl : g ∣ p := by rw [← hg]; exact Nat.gcd_dvd_left _ _
  refine ⟨?_, Nat.mul_div_cancel' hd, Nat.mul_div_cancel' hdl, hg0⟩
  unfold ofR
  rw [if_neg (by decide), if_neg (by decide), show (3600000 : Int).toNat = 3600000 from rfl]
  have e : (n % 3600000).toNat = p := by rw [show (3600000 : Int) = ((3600000 : Nat) : Int) from rfl, hp]; rfl
  rw [e]
  unfold lowR
  rw [hg, if_pos (Nat.le_trans (Nat.div_le_self _ _) (by decide))]

/-- All that both tell of one name. -/
theorem nr_vals {re im t : Nat} {F : Nat → Nat} {N : Nat → Int} (h : NdV re im F N) (ht : t ≤ 1048576) (hn : NodeR t re im) {s : ByteArray} {k : Nat} (hk : ndK s.toList = some k) (hk7 : k < 7) :
    ∃ p g, N k % ((3600000 : Nat) : Int) = ((p : Nat) : Int) ∧ Nat.gcd p 3600000 = g ∧ (∀ w, Calls Try.prog 8 #[.string s, .int .i64 (t : Int)] w fun e w' => e = .returned (.tuple #[.float .f64 (F k), .int .i64 0]) ∧ Below w.heap.size w w') ∧
      (∀ w, Calls Try.prog 10 #[.string s, .int .i64 (t : Int)] w fun e w' => e = .returned (.tuple #[.agg #[.int .i64 ((p / g : Nat) : Int), .int .i64 ((3600000 / g : Nat) : Int)], .int .i64 0]) ∧ Below w.heap.size w w') := by
  obtain ⟨pp, f1, f2, f3, -⟩ := h.fac k hk7
  obtain ⟨u, v, u1, u2, u3, u4, u5, u6, -⟩ := h.turn k hk7
  obtain ⟨p, hp⟩ : ∃ p : Nat, N k % ((3600000 : Nat) : Int) = (p : Int) := ⟨(N k % ((3600000 : Nat) : Int)).toNat, by have := Int.emod_nonneg (N k) (show ((3600000 : Nat) : Int) ≠ 0 by decide); omega⟩
  obtain ⟨E, hE⟩ : ∃ E, E = 1074 := ⟨_, rfl⟩
  have hb : (sv u).natAbs ≤ 240000 * 2 ^ 1074 := by
    have hh := u5.1.up
    rw [show (1074 : Nat) = E from hE.symm] at hh ⊢
    generalize 2 ^ E = P at *
    have h2 : (2 * (N k).natAbs + 1) * P ≤ 480000 * P := Nat.mul_le_mul_right _ (by omega)
    omega
  refine ⟨p, _, hp, rfl, fun w => nrFactor_ok s k t re im pp (F k) w hk ht hn f1 f2, fun w => ?_⟩
  obtain ⟨n', D1, D2, D3, hR, s1, s2, s3, hS⟩ := near_search u2 hb
  obtain rfl := hR.one u5
  have hNb : -300000 ≤ Int.tdiv (sv u) ((2 ^ 1074 : Nat) : Int) ∧ Int.tdiv (sv u) ((2 ^ 1074 : Nat) : Int) ≤ 300000 := by
    rw [show (1074 : Nat) = E from hE.symm] at hb ⊢
    have hp0 := Nat.two_pow_pos E
    generalize 2 ^ E = P at *
    have q := Int.natAbs_tdiv (sv u) (P : Int)
    have hq : (sv u).natAbs / P ≤ 240000 := Nat.div_le_of_le_mul (by rw [Nat.mul_comm]; exact hb)
    rw [Int.natAbs_natCast] at q
    have hq' : (Int.tdiv (sv u) (P : Int)).natAbs ≤ 240000 := by rw [q]; exact hq
    omega
  have hto := toI64 u2 1074 rfl (by omega) (by omega)
  exact nrTurn_ok s k t re im u (N k) p _ w hk ht hn u1 (hid fun V => nrnearest_any u _ (N k) D1 D2 D3 V hto hNb s1 s2 s3 hS) u6 hp rfl

/-- The parts of the first turns, added. -/
def nrSm (N : Nat → Int) (K : Nat → Nat) : Nat → Nat
  | 0 => 0
  | j + 1 => nrSm N K j + (N (K j) % ((3600000 : Nat) : Int)).toNat
theorem nrSm_mod (N : Nat → Int) (K : Nat → Nat) : ∀ j, ((nrSm N K j : Nat) : Int) % 3600000 = ndSm N K j % 3600000
  | 0 => rfl
  | j + 1 => by
    have ih := nrSm_mod N K j
    have h0 := Int.emod_nonneg (N (K j)) (show ((3600000 : Nat) : Int) ≠ 0 by decide)
    show ((nrSm N K j + (N (K j) % ((3600000 : Nat) : Int)).toNat : Nat) : Int) % 3600000 = (ndSm N K j + N (K j)) % 3600000
    rw [Int.natCast_add, Int.toNat_of_nonneg h0, show ((3600000 : Nat) : Int) = 3600000 from rfl]
    omega
theorem nrSm_le (N : Nat → Int) (K : Nat → Nat) : ∀ j, nrSm N K j ≤ j * 3600000
  | 0 => by simp [nrSm]
  | j + 1 => by
    have ih := nrSm_le N K j
    have h1 := Int.emod_lt_of_pos (N (K j)) (show (0 : Int) < ((3600000 : Nat) : Int) by decide)
    show nrSm N K j + (N (K j) % ((3600000 : Nat) : Int)).toNat ≤ (j + 1) * 3600000
    omega

theorem res_put {V : World} {b0 b1 t0 t1 : Nat} {v0 v1 v2 v3 : Value} (h0 : FBox V b0 t0 #[v0, v1]) (h1 : FBox V b1 t1 #[v2, v3]) (hne : b0 ≠ b1) (p q x y : Value) :
    FBox ((((V.setCell ⟨b0, 0, none⟩ p).setCell ⟨b0, 1, none⟩ q).setCell ⟨b1, 0, none⟩ x).setCell ⟨b1, 1, none⟩ y) b0 t0 #[p, q] ∧ FBox ((((V.setCell ⟨b0, 0, none⟩ p).setCell ⟨b0, 1, none⟩ q).setCell ⟨b1, 0, none⟩ x).setCell ⟨b1, 1, none⟩ y) b1 t1 #[x, y] :=
  ⟨(((h0.set 0 p).set 1 q).other _ _ hne).other _ _ hne, (((h1.other _ _ (Ne.symm hne)).other _ _ (Ne.symm hne)).set 0 x).set 1 y⟩

set_option maxHeartbeats 1600000 in
set_option maxRecDepth 100000 in
theorem nrTimes_long (a : Option Addr) (n cap : Nat) (t : Int) (w : World) (hn : 8 < n) :
    Calls Try.prog 12 #[.slice a n cap, .int .i64 t] w fun x w' => x = .returned (.tuple #[.float .f64 0, .agg #[.int .i64 0, .int .i64 0], .agg #[.int .i64 3, .int .i64 (-1)]]) ∧ Below w.heap.size w w' := by
  have h1 : (8 : Int) < (n : Int) := by omega
  have HX := hid (boxes3t w 31 35 31 #[.int .i64 0, .int .i64 0] #[.int .i64 0, .int .i64 0] #[.int .i64 0, .int .i64 0])
  go_enter Try.func12, Try.ntmps12
  go_wp2_with fail
  generalize ((w.alloc (.cells #[.int .i64 0, .int .i64 0] 31)).alloc (.cells #[.int .i64 0, .int .i64 0] 35)).alloc (.cells #[.int .i64 0, .int .i64 0] 31) = X at *
  obtain ⟨c0, c1, cf0, cf1⟩ := fbox_facts HX.out.1 (Below.refl _ _)
  obtain ⟨d0, d1, df0, df1⟩ := fbox_facts HX.out.2.1 (Below.refl _ _)
  obtain ⟨n0, n1, nf0, nf1⟩ := fbox_facts HX.out.2.2.1 (Below.refl _ _)
  have HU := hid (res_put HX.out.1 HX.out.2.1 (show w.heap.size ≠ w.heap.size + 1 by omega) (.int .i64 0) (.int .i64 0) (.int .i64 3) (.int .i64 (-1)))
  have HBU := hid (fput2 (fput2 HX.out.2.2.2 w.heap.size (Nat.le_refl _) (.int .i64 0) (.int .i64 0)) (w.heap.size + 1) (by omega) (.int .i64 3) (.int .i64 (-1)))
  go_region
  all_goals
    go_wp2_with fail
    generalize ((((X.setCell ⟨w.heap.size, 0, none⟩ (.int .i64 0)).setCell ⟨w.heap.size, 1, none⟩ (.int .i64 0)).setCell ⟨w.heap.size + 1, 0, none⟩ (.int .i64 3)).setCell ⟨w.heap.size + 1, 1, none⟩ (.int .i64 (-1))) = U at *
    have x0 : U.drew.cell? ⟨w.heap.size, 0, none⟩ = some (.int .i64 0) := HU.out.1.cell 0
    have x1 : U.drew.cell? ⟨w.heap.size, 1, none⟩ = some (.int .i64 0) := HU.out.1.cell 1
    have y0 : U.drew.cell? ⟨w.heap.size + 1, 0, none⟩ = some (.int .i64 3) := HU.out.2.cell 0
    have y1 : U.drew.cell? ⟨w.heap.size + 1, 1, none⟩ = some (.int .i64 (-1)) := HU.out.2.cell 1
    have HBD := hid (Below.drew HBU.out)
    generalize U.drew = U' at *
    refine bodyPost_ret (v := .tuple #[.float .f64 0, .agg #[(.int .i64 0), (.int .i64 0)], .agg #[(.int .i64 3), (.int .i64 (-1))]]) (by simp [results, Try.results12, go_sem, x0, x1, y0, y1]) rfl ?_
    exact ⟨rfl, HBD.out⟩
set_option maxHeartbeats 1600000 in
set_option maxRecDepth 100000 in
theorem nrTimes_tick (a : Option Addr) (n cap : Nat) (t : Int) (w : World) (hn : n ≤ 8) (ht : ¬ (0 ≤ t ∧ t ≤ 1048576)) :
    Calls Try.prog 12 #[.slice a n cap, .int .i64 t] w fun x w' => x = .returned (.tuple #[.float .f64 0, .agg #[.int .i64 0, .int .i64 0], .agg #[.int .i64 2, .int .i64 (-1)]]) ∧ Below w.heap.size w w' := by
  have h1 : ¬ (8 : Int) < (n : Int) := by omega
  have HN := hid (fun V => nrNode_err t V ht)
  have HX := hid (boxes3t w 31 35 31 #[.int .i64 0, .int .i64 0] #[.int .i64 0, .int .i64 0] #[.int .i64 0, .int .i64 0])
  clear hn ht
  go_enter Try.func12, Try.ntmps12
  go_wp2_with fail
  generalize ((w.alloc (.cells #[.int .i64 0, .int .i64 0] 31)).alloc (.cells #[.int .i64 0, .int .i64 0] 35)).alloc (.cells #[.int .i64 0, .int .i64 0] 31) = X at *
  refine Calls.mono (HN.out _) ?_
  rintro e w1 ⟨rfl, rfl⟩
  obtain ⟨X, rfl⟩ : ∃ X, X = w1 := ⟨_, rfl⟩
  obtain ⟨c0, c1, cf0, cf1⟩ := fbox_facts HX.out.1 (Below.refl _ _)
  obtain ⟨d0, d1, df0, df1⟩ := fbox_facts HX.out.2.1 (Below.refl _ _)
  obtain ⟨n0, n1, nf0, nf1⟩ := fbox_facts HX.out.2.2.1 (Below.refl _ _)
  have HU := hid (res_put HX.out.1 HX.out.2.1 (show w.heap.size ≠ w.heap.size + 1 by omega) (.int .i64 0) (.int .i64 0) (.int .i64 2) (.int .i64 (-1)))
  have HBU := hid (fput2 (fput2 HX.out.2.2.2 w.heap.size (Nat.le_refl _) (.int .i64 0) (.int .i64 0)) (w.heap.size + 1) (by omega) (.int .i64 2) (.int .i64 (-1)))
  go_wp2_with fail
  go_region
  all_goals
    go_wp2_with fail
    generalize ((((X.setCell ⟨w.heap.size, 0, none⟩ (.int .i64 0)).setCell ⟨w.heap.size, 1, none⟩ (.int .i64 0)).setCell ⟨w.heap.size + 1, 0, none⟩ (.int .i64 2)).setCell ⟨w.heap.size + 1, 1, none⟩ (.int .i64 (-1))) = U at *
    have x0 : U.drew.cell? ⟨w.heap.size, 0, none⟩ = some (.int .i64 0) := HU.out.1.cell 0
    have x1 : U.drew.cell? ⟨w.heap.size, 1, none⟩ = some (.int .i64 0) := HU.out.1.cell 1
    have y0 : U.drew.cell? ⟨w.heap.size + 1, 0, none⟩ = some (.int .i64 2) := HU.out.2.cell 0
    have y1 : U.drew.cell? ⟨w.heap.size + 1, 1, none⟩ = some (.int .i64 (-1)) := HU.out.2.cell 1
    have HBD := hid (Below.drew HBU.out)
    generalize U.drew = U' at *
    refine bodyPost_ret (v := .tuple #[.float .f64 0, .agg #[(.int .i64 0), (.int .i64 0)], .agg #[(.int .i64 2), (.int .i64 (-1))]]) (by simp [results, Try.results12, go_sem, x0, x1, y0, y1]) rfl ?_
    exact ⟨rfl, HBD.out⟩
end Go.Proofs.Ytodihhokodnmkaa

/- The document's answers of layer 12: Times, of every list of names. -/
namespace Go.Proofs.Ytodihhokodnmkaa
open Go.RowKit Go.Shelf
set_option linter.unusedVariables false
set_option linter.unusedSimpArgs false

set_option maxHeartbeats 3200000 in
set_option maxRecDepth 100000 in
theorem nrTimes_any (a : Option Addr) (n cap : Nat) (t : Nat) (w : World) (re im : Nat) (F : Nat → Nat) (N : Nat → Int) (nm : Nat → ByteArray) (K : Nat → Nat) (m : Nat) (R : Value) (hn : n ≤ 8) (hm : m ≤ n) (hw : RdT w a n nm) (hcap : n ≤ cap) (ht : t ≤ 1048576) (hN : NodeR t re im)
    (hv : NdV re im F N) (hg : ∀ j, j < m → ndK (nm j).toList = some (K j) ∧ K j < 7) (hb : m < n → ndK (nm m).toList = none)
    (hr1 : m = n → ∃ p q, ofR (ndSm N K n) 3600000 = (p, q, 0) ∧ R = .tuple #[.float .f64 (ndPr F K n), .agg #[.int .i64 p, .int .i64 q], .agg #[.int .i64 0, .int .i64 0]])
    (hr2 : m < n → R = .tuple #[.float .f64 0, .agg #[.int .i64 0, .int .i64 0], .agg #[.int .i64 6, .int .i64 (m : Int)]]) :
    Calls Try.prog 12 #[.slice a n cap, .int .i64 (t : Int)] w fun x w' => x = .returned R ∧ Below w.heap.size w w' := by
  have h1 : ¬ (8 : Int) < (n : Int) := by omega
  have HN := hid (fun V => nrNode_ok t re im V ht hN)
  have HX := hid (boxes3t w 31 35 31 #[.int .i64 0, .int .i64 0] #[.int .i64 0, .int .i64 0] #[.int .i64 0, .int .i64 0])
  have HW : Hid (∀ V, Below w.heap.size w V → RdT V a n nm) := fun V hV => hw.later hV
  have HR1 := hid hr1
  have HR2 := hid hr2
  have HG := hid hg
  have HBd := hid hb
  have HV := hid hv
  have HND := hid hN
  have HL : Hid (n ≤ 8 ∧ m ≤ n ∧ n ≤ cap ∧ t ≤ 1048576) := ⟨hn, hm, hcap, ht⟩
  clear hn hm hw hcap hv hg hb hr1 hr2 ht hN
  go_enter Try.func12, Try.ntmps12
  go_wp2_with fail
  generalize ((w.alloc (.cells #[.int .i64 0, .int .i64 0] 31)).alloc (.cells #[.int .i64 0, .int .i64 0] 35)).alloc (.cells #[.int .i64 0, .int .i64 0] 31) = X at *
  refine Calls.mono (HN.out _) ?_
  rintro e w1 ⟨rfl, hb1⟩
  have HI : Hid (FBox w1 w.heap.size 31 #[.int .i64 0, .int .i64 0] ∧ FBox w1 (w.heap.size + 1) 35 #[.int .i64 0, .int .i64 0] ∧ FBox w1 (w.heap.size + 1 + 1) 31 #[.int .i64 0, .int .i64 0] ∧ Below w.heap.size w w1) := ⟨HX.out.1.later hb1 HX.out.1.lt, HX.out.2.1.later hb1 HX.out.2.1.lt, HX.out.2.2.1.later hb1 HX.out.2.2.1.lt, b2 HX.out.2.2.2 hb1⟩
  clear hb1 HX HN
  go_wp2_with fail
  go_loopw [12, 10, 11] (fun i pr sm wr => ∃ k : Nat, k ≤ m ∧ i = .int .i64 (k : Int) ∧ pr = .float .f64 (ndPr F K k) ∧ sm = .int .i64 ((nrSm N K k : Nat) : Int) ∧ Hid (FBox wr w.heap.size 31 #[.int .i64 0, .int .i64 0] ∧ FBox wr (w.heap.size + 1) 35 #[.int .i64 0, .int .i64 0] ∧ FBox wr (w.heap.size + 1 + 1) 31 #[.int .i64 0, .int .i64 0] ∧ Below w.heap.size w wr)) (fun i _ _ _ => n - (intOf i).toNat)
  case atStart => exact ⟨0, by omega, rfl, rfl, rfl, HI⟩
  case round =>
    obtain ⟨k, hk, rfl, rfl, rfl, HC⟩ := hrel
    clear HI
    by_cases hkm : k < m
    · obtain ⟨g1, g2⟩ := HG.out k hkm
      have hkn : k < n := by have := HL.out; omega
      obtain ⟨p, g, e1, e2, e3, e4⟩ := nr_vals HV.out HL.out.2.2.2 HND.out g1 g2
      have HF := hid e3
      have HT := hid e4
      obtain ⟨o1, o2, o3, o4⟩ := of_eq e1 e2
      have hmul := ndPr_step HV.out (K := K) (n := m) (fun j hj => (HG.out j hj).2) hkm (by have := HL.out; omega)
      have rM : ∀ V, (binOp .mul 27 (.float .f64 (ndPr F K k)) (.float .f64 (F (K k)))).run Try.prog V = .ok (.float .f64 (ndPr F K (k + 1))) V := fun V => run_float_arith V _ _ _ _ _ _ hmul
      obtain ⟨pn, hpn⟩ : ∃ pn, pn = ndPr F K (k + 1) := ⟨_, rfl⟩
      rw [← hpn] at rM
      have HPN := hid hpn
      have hsn : nrSm N K (k + 1) = nrSm N K k + p := by
        show nrSm N K k + (N (K k) % ((3600000 : Nat) : Int)).toNat = _
        rw [e1]; rfl
      have hsl := nrSm_le N K (k + 1)
      have hk8 : k + 1 ≤ 8 := by have := HL.out; omega
      rw [hsn] at hsl
      obtain ⟨sn, hsn'⟩ : ∃ sn, sn = nrSm N K k + p := ⟨_, rfl⟩
      rw [← hsn'] at hsn hsl
      have HSN := hid hsn
      rcases HW.out wr HC.out.2.2.2 with h0 | ⟨bb, oo, rfl, hlt, hc⟩
      · omega
      have cn := hc k hkn
      have hlb : bb < w.heap.size := by
        rcases HW.out w (Below.refl _ _) with h0 | ⟨b', o', hb', hlt', -⟩
        · omega
        · cases hb'; exact hlt'
      have j1 : (k : Int) < (n : Int) := by omega
      have j2 : n ≤ cap := HL.out.2.2.1
      -- the turn's part, times how often its whole goes into all
      have w0 : 0 < 3600000 / g := by
        by_cases hz : 3600000 / g = 0
        · rw [hz, Nat.mul_zero] at o2; omega
        · exact Nat.pos_of_ne_zero hz
      have hwl : 3600000 / g ≤ 3600000 := Nat.div_le_self _ _
      have hpl : p / g ≤ p := Nat.div_le_self _ _
      have hp3 : p < 3600000 := by have := Int.emod_lt_of_pos (N (K k)) (show (0 : Int) < ((3600000 : Nat) : Int) by decide); omega
      have hgl : g ≤ 3600000 := Nat.le_of_dvd (by decide) (by rw [← e2]; exact Nat.gcd_dvd_right _ _)
      have q0 : ((3600000 / g : Nat) : Int) ≠ 0 := by omega
      have q1 : Int.tdiv 3600000 ((3600000 / g : Nat) : Int) = (g : Int) := by
        rw [Int.tdiv_eq_ediv_of_nonneg (by decide)]
        generalize 3600000 / g = W1 at *
        have e : (3600000 : Int) = (g : Int) * (W1 : Int) := by rw [← Int.natCast_mul, o2]; rfl
        rw [e, Int.mul_ediv_cancel _ q0]
      have q2 : ((p / g : Nat) : Int) * (g : Int) = (p : Int) := by rw [← Int.natCast_mul, Nat.mul_comm, o3]
      generalize p / g = P1 at *
      generalize 3600000 / g = W1 at *
      generalize ndPr F K k = po at *
      generalize F (K k) = fk at *
      generalize nrSm N K k = so at *
      generalize nm k = nk at *
      have q3 : IntKind.i64.wrap (g : Int) = (g : Int) := by rw [IntKind.wrap_i64]; omega
      have q4 : IntKind.i64.wrap (p : Int) = (p : Int) := by rw [IntKind.wrap_i64]; omega
      have q5 : (so : Int) + (p : Int) = (sn : Int) := by omega
      have q6 : IntKind.i64.wrap (sn : Int) = (sn : Int) := by rw [IntKind.wrap_i64]; omega
      clear g1 g2 e1 e2 e3 e4 o1 o2 o3 o4 hmul hpn hsn hsl hsn' hc w0 hwl hpl hp3 hgl
      go_wp2_with fail
      refine Calls.mono (HF.out _) ?_
      rintro e w2 ⟨rfl, hb2⟩
      have cn2 : w2.cell? ⟨bb, oo + k, none⟩ = some (.string nk) := (hb2.cell (p := ⟨bb, oo + k, none⟩) (Nat.lt_of_lt_of_le hlb HC.out.2.2.2.size)).trans cn
      go_wp2_with fail
      refine Calls.mono (HT.out _) ?_
      rintro e w3 ⟨rfl, hb3⟩
      have hx := boxes1 w3 31 #[.int .i64 (P1 : Int), .int .i64 (W1 : Int)]
      obtain ⟨y0, y1, yf0, yf1⟩ := fbox_facts hx.1 (Below.refl _ _)
      have hB := b2 (b2 hb2 hb3) hx.2
      have HE : Hid (FBox (w3.alloc (.cells #[.int .i64 (P1 : Int), .int .i64 (W1 : Int)] 31)) w.heap.size 31 #[.int .i64 0, .int .i64 0] ∧ FBox (w3.alloc (.cells #[.int .i64 (P1 : Int), .int .i64 (W1 : Int)] 31)) (w.heap.size + 1) 35 #[.int .i64 0, .int .i64 0] ∧ FBox (w3.alloc (.cells #[.int .i64 (P1 : Int), .int .i64 (W1 : Int)] 31)) (w.heap.size + 1 + 1) 31 #[.int .i64 0, .int .i64 0] ∧ Below w.heap.size w (w3.alloc (.cells #[.int .i64 (P1 : Int), .int .i64 (W1 : Int)] 31))) := ⟨HC.out.1.later hB HC.out.1.lt, HC.out.2.1.later hB HC.out.2.1.lt, HC.out.2.2.1.later hB HC.out.2.2.1.lt, b2 HC.out.2.2.2 hB⟩
      clear hb2 hb3 hx hB HF HT cn cn2
      go_wp2_with fail
      generalize w3.alloc (.cells #[.int .i64 (P1 : Int), .int .i64 (W1 : Int)] 31) = X3 at *
      go_quiet (fail)
      go_wp2_with fail
      refine ⟨⟨k + 1, by omega, by go_num, by rw [HPN.out], by rw [HSN.out], ⟨HE.out.1.drewN _, HE.out.2.1.drewN _, HE.out.2.2.1.drewN _, bdrewN HE.out.2.2.2 _⟩⟩, by simp [intOf]; omega⟩
    · obtain rfl : k = m := by omega
      by_cases hkn : k < n
      · have HF := hid (fun V => nrFactor_none (nm k) t re im V (HBd.out hkn) HL.out.2.2.2 HND.out)
        have HEq := hid (HR2.out hkn)
        rcases HW.out wr HC.out.2.2.2 with h0 | ⟨bb, oo, rfl, hlt, hc⟩
        · omega
        have cn := hc k hkn
        have j1 : (k : Int) < (n : Int) := by omega
        have j2 : n ≤ cap := HL.out.2.2.1
        generalize ndPr F K k = po at *
        generalize nrSm N K k = so at *
        generalize nm k = nk at *
        clear HR1 HR2 HG HBd HV HW hc
        go_wp2_with fail
        refine Calls.mono (HF.out _) ?_
        rintro e V9 ⟨rfl, hb2⟩
        have HC9 : Hid (FBox V9 w.heap.size 31 #[.int .i64 0, .int .i64 0] ∧ FBox V9 (w.heap.size + 1) 35 #[.int .i64 0, .int .i64 0] ∧ FBox V9 (w.heap.size + 1 + 1) 31 #[.int .i64 0, .int .i64 0] ∧ Below w.heap.size w V9) := ⟨HC.out.1.later hb2 HC.out.1.lt, HC.out.2.1.later hb2 HC.out.2.1.lt, HC.out.2.2.1.later hb2 HC.out.2.2.1.lt, b2 HC.out.2.2.2 hb2⟩
        obtain ⟨c0, c1, cf0, cf1⟩ := fbox_facts HC9.out.1 (Below.refl _ _)
        obtain ⟨d0, d1, df0, df1⟩ := fbox_facts HC9.out.2.1 (Below.refl _ _)
        obtain ⟨n0, n1, nf0, nf1⟩ := fbox_facts HC9.out.2.2.1 (Below.refl _ _)
        have HU := hid (res_put HC9.out.1 HC9.out.2.1 (show w.heap.size ≠ w.heap.size + 1 by omega) (.int .i64 0) (.int .i64 0) (.int .i64 6) (.int .i64 (k : Int)))
        have HBU := hid (fput2 (fput2 HC9.out.2.2.2 w.heap.size (Nat.le_refl _) (.int .i64 0) (.int .i64 0)) (w.heap.size + 1) (by omega) (.int .i64 6) (.int .i64 (k : Int)))
        clear hb2 HC HF
        go_wp2_with fail
        go_region
        all_goals
          go_wp2_with fail
          generalize ((((V9.setCell ⟨w.heap.size, 0, none⟩ (.int .i64 0)).setCell ⟨w.heap.size, 1, none⟩ (.int .i64 0)).setCell ⟨w.heap.size + 1, 0, none⟩ (.int .i64 6)).setCell ⟨w.heap.size + 1, 1, none⟩ (.int .i64 (k : Int))) = U at *
          have x0 : U.drew.cell? ⟨w.heap.size, 0, none⟩ = some (.int .i64 0) := HU.out.1.cell 0
          have x1 : U.drew.cell? ⟨w.heap.size, 1, none⟩ = some (.int .i64 0) := HU.out.1.cell 1
          have y0 : U.drew.cell? ⟨w.heap.size + 1, 0, none⟩ = some (.int .i64 6) := HU.out.2.cell 0
          have y1 : U.drew.cell? ⟨w.heap.size + 1, 1, none⟩ = some (.int .i64 (k : Int)) := HU.out.2.cell 1
          have HBD := hid (Below.drew HBU.out)
          generalize U.drew = U' at *
          refine bodyPost_ret (v := .tuple #[.float .f64 0, .agg #[(.int .i64 0), (.int .i64 0)], .agg #[(.int .i64 6), (.int .i64 (k : Int))]]) (by simp [results, Try.results12, go_sem, x0, x1, y0, y1]) rfl ?_
          exact ⟨by rw [HEq.out], HBD.out⟩
      · obtain rfl : k = n := by have := HL.out; omega
        obtain ⟨p', q', o1, o2⟩ := HR1.out rfl
        have HEq := hid o2
        have hmod := nrSm_mod N K k
        obtain ⟨pp, hpp⟩ : ∃ pp : Nat, ((nrSm N K k : Nat) : Int) % ((3600000 : Nat) : Int) = (pp : Int) := ⟨(((nrSm N K k : Nat) : Int) % ((3600000 : Nat) : Int)).toNat, by have := Int.emod_nonneg ((nrSm N K k : Nat) : Int) (show ((3600000 : Nat) : Int) ≠ 0 by decide); omega⟩
        have hle := nrSm_le N K k
        have hk8 : k ≤ 8 := HL.out.1
        have HT := hid (fun V => nrTurned_any ((nrSm N K k : Nat) : Int) 3600000 pp _ V ⟨by omega, by omega⟩ (by decide) (by decide) hpp rfl)
        have hpq := of_eq (n := ndSm N K k) (p := pp) (by rw [show ((3600000 : Nat) : Int) = 3600000 from rfl] at hpp ⊢; rw [← hmod]; exact hpp) rfl
        rw [o1] at hpq
        obtain ⟨ha, hb⟩ : p' = ((pp / Nat.gcd pp 3600000 : Nat) : Int) ∧ q' = ((3600000 / Nat.gcd pp 3600000 : Nat) : Int) := by
          have := hpq.1
          simp only [Prod.mk.injEq] at this
          exact ⟨this.1, this.2.1⟩
        rw [← ha, ← hb, show ((3600000 : Nat) : Int) = 3600000 from rfl] at HT
        clear ha hb hpq hpp hmod o1 o2 hle hk8 HR1 HR2 HG HBd HV HW
        generalize ndPr F K k = po at *
        generalize ((nrSm N K k : Nat) : Int) = so at *
        obtain ⟨c0, c1, cf0, cf1⟩ := fbox_facts HC.out.1 (Below.refl _ _)
        obtain ⟨d0, d1, df0, df1⟩ := fbox_facts HC.out.2.1 (Below.refl _ _)
        go_wp2_with fail
        refine Calls.mono (HT.out _) ?_
        rintro e V9 ⟨rfl, hb2⟩
        obtain ⟨c0, c1, cf0, cf1⟩ := fbox_facts HC.out.1 hb2
        obtain ⟨d0, d1, df0, df1⟩ := fbox_facts HC.out.2.1 hb2
        have HU := hid (res_put (HC.out.1.later hb2 HC.out.1.lt) (HC.out.2.1.later hb2 HC.out.2.1.lt) (show w.heap.size ≠ w.heap.size + 1 by omega) (.int .i64 p') (.int .i64 q') (.int .i64 0) (.int .i64 0))
        have HBU := hid (fput2 (fput2 (b2 HC.out.2.2.2 hb2) w.heap.size (Nat.le_refl _) (.int .i64 p') (.int .i64 q')) (w.heap.size + 1) (by omega) (.int .i64 0) (.int .i64 0))
        clear hb2 HC HT
        go_wp2_with fail
        generalize ((((V9.setCell ⟨w.heap.size, 0, none⟩ (.int .i64 p')).setCell ⟨w.heap.size, 1, none⟩ (.int .i64 q')).setCell ⟨w.heap.size + 1, 0, none⟩ (.int .i64 0)).setCell ⟨w.heap.size + 1, 1, none⟩ (.int .i64 0)) = U at *
        have x0 : U.cell? ⟨w.heap.size, 0, none⟩ = some (.int .i64 p') := HU.out.1.cell 0
        have x1 : U.cell? ⟨w.heap.size, 1, none⟩ = some (.int .i64 q') := HU.out.1.cell 1
        have y0 : U.cell? ⟨w.heap.size + 1, 0, none⟩ = some (.int .i64 0) := HU.out.2.cell 0
        have y1 : U.cell? ⟨w.heap.size + 1, 1, none⟩ = some (.int .i64 0) := HU.out.2.cell 1
        refine bodyPost_ret (v := .tuple #[.float .f64 po, .agg #[.int .i64 p', .int .i64 q'], .agg #[.int .i64 0, .int .i64 0]]) (by simp [results, Try.results12, go_sem, x0, x1, y0, y1]) rfl ?_
        exact ⟨by rw [HEq.out], HBU.out⟩
end Go.Proofs.Ytodihhokodnmkaa

/- The law NodalParts. -/
namespace Go.Proofs.Ytodihhokodnmkaa
open Go.RowKit
set_option linter.unusedVariables false

/-- Which names are picked. -/
def ptI (Z : Nat → Int) (j : Nat) : Nat := (Z j % 10).toNat
theorem ptI_lt (Z : Nat → Int) (j : Nat) : ptI Z j < 10 := by
  have h0 := Int.emod_nonneg (Z j) (show (10 : Int) ≠ 0 by decide)
  have h1 := Int.emod_lt_of_pos (Z j) (show (0 : Int) < 10 by decide)
  unfold ptI; omega
def ptK (Z : Nat → Int) (j : Nat) : Nat := ndI (ptI Z j)
def ptN (Z : Nat → Int) (j : Nat) : ByteArray := ndN (ptI Z j)
def ptL (Z : Nat → Int) (n : Nat) : List Value := (List.range n).map fun j => .string (ptN Z j)
theorem ptL_len (Z : Nat → Int) (n : Nat) : (ptL Z n).length = n := by unfold ptL; simp
theorem ptL_succ (Z : Nat → Int) (n : Nat) : ptL Z (n + 1) = ptL Z n ++ [.string (ptN Z n)] := by unfold ptL; rw [List.range_succ, List.map_append]; rfl
theorem ptL_at (Z : Nat → Int) (n j : Nat) (hj : j < n) : (ptL Z n)[j]? = some (.string (ptN Z j)) := by
  unfold ptL; rw [List.getElem?_map, List.getElem?_range hj]; rfl

theorem Try.infoS : (Try.prog.info? 9).map (fun i => (i.zero, i.size, i.bytes)) = some (some (.string { data := #[] }), 1, 16) := by kernel_rfl

theorem ndEqF (a b : Int) (w : World) : (Op.equalIn 10000 35 (.agg #[.int .i64 a, .int .i64 b]) (.agg #[.int .i64 a, .int .i64 b])).run Try.prog w = .ok true w := by
  have u1 := Try.underlying24
  have a1 := Try.isAgg24
  have z1 := Try.sizeOf24
  have u3 := Try.underlying3
  have a3 := Try.isAgg3
  have z3 := Try.sizeOf3
  have hS : Try.prog.underlying 35 = some (.struct (Try.prog.fieldsOf 35)) := by kernel_rfl
  rw [show (10000 : Nat) = 9999 + 1 from rfl, run_equalIn_agg w 9999 35 _ _ hS (by kernel_rfl)]
  simp only [Program.fieldsOf, Try.underlying35]
  go_simp
theorem ndcell_block {w : World} {b o : Nat} {v : Value} (h : w.cell? ⟨b, o, none⟩ = some v) : b < w.heap.size := by
  by_cases hb : b < w.heap.size
  · exact hb
  · have : w.heap[b]? = none := by simpa using hb
    simp [World.cell?, this] at h
theorem own_base {w : World} {base e k : Nat} {v : Value} {xs : List Value} (h : w.ownsRow base e 1 v k xs) (g : Nat) (hg : v.ownBlock = some g) : base ≤ g := by
  rcases h.2 with ⟨rfl, _⟩ | ⟨g', cap, cur, rfl, hb, _⟩
  · cases hg
  · cases hg; exact hb

end Go.Proofs.Ytodihhokodnmkaa

/- A list of texts that came in is read. -/
namespace Go.Proofs.Ytodihhokodnmkaa
open Go.RowKit Go.ChangeShapes Go.WideShapes Go.Deep
set_option linter.unusedVariables false

theorem txl_of_trod {H : Type} {enc : TypeId × Value → H} {P : Program} {w : World} {held : Bool} {t e : TypeId} {n : Nat} {v : Value} {x : DataW H × List MemPlace} (ht : P.underlying t = some (.slice e)) (he : P.underlying e = some .string) (ce : P.cellsOf e = 1)
    (h : DataW.trod enc P w 0 (fun _ => true) held n t [v] = some x) :
    ∃ a len cap, ∃ nm : Nat → ByteArray, v = .slice a len cap ∧ len ≤ cap ∧ (a = none → len = 0 ∧ cap = 0) ∧ RdT w a len nm := by
  rcases open_slice1 ht ce h with ⟨h0, _⟩ | ⟨a, len, cap, m, k, V, D, Pl, hcs, _, hl, hm, hmm, hx, hel⟩
  · simp at h0
    exact ⟨none, 0, 0, fun _ => ByteArray.empty, h0, Nat.le_refl _, fun _ => ⟨rfl, rfl⟩, .inl rfl⟩
  · simp at hcs
    have hlm : len ≤ m := by rw [hmm]; split <;> omega
    obtain ⟨nm, hnm⟩ := choose_lt (α := ByteArray) (n := len) (p := fun i s => w.cell? (a.add i) = some (.string s)) (fun i hi => by
      obtain ⟨h1, h2⟩ := hel i (by omega)
      obtain ⟨s, e1, _, _⟩ := DataW.trod_string he h2
      simp at e1
      rw [e1] at h1
      exact ⟨s, h1⟩)
    refine ⟨some a, len, cap, nm, hcs, hl, (fun h => by cases h), ?_⟩
    by_cases hz : len = 0
    · exact .inl hz
    right
    obtain ⟨b, o, spot⟩ := a
    have hc0 := hnm 0 (by omega)
    have hs : spot = none := by simpa [Addr.add] using World.cell?_spot hc0
    subst hs
    refine ⟨b, o, rfl, ndcell_block (by simpa [Addr.add] using hc0), fun j hj => ?_⟩
    have := hnm j hj
    rw [Addr.add_lit] at this
    exact this
end Go.Proofs.Ytodihhokodnmkaa

/- The law NodalTells. -/
namespace Go.Proofs.Ytodihhokodnmkaa
open Go.RowKit Go.Shelf
set_option linter.unusedVariables false
set_option linter.unusedSimpArgs false

set_option maxHeartbeats 800000 in
set_option maxRecDepth 100000 in
theorem nsameNumber (a b : Nat) (w : World) : Calls Try.prog 13 #[.complex .f64 a b, .complex .f64 a b] w fun e w' => e = .returned (.bool true) ∧ w' = w := by
  have H1 := hid (fun V => nsameFloat a V)
  have H2 := hid (fun V => nsameFloat b V)
  go_enter Try.func13, Try.ntmps13
  go_wp2_with fail
  refine Calls.mono (H1.out _) ?_
  rintro e w1 ⟨rfl, rfl⟩
  go_wp2_with fail
  refine Calls.mono (H2.out _) ?_
  rintro e w2 ⟨rfl, rfl⟩
  go_wp2_with fail
  go_ret
  exact ⟨rfl, rfl⟩

theorem node_both (t : Int) (ht : I64 t) : ∃ re im E, (∀ w, Calls Try.prog 5 #[.int .i64 t] w fun e w' => e = .returned (.tuple #[.complex .f64 re im, .int .i64 E]) ∧ Below w.heap.size w w') ∧ (∀ w, Calls Try.prog 6 #[.int .i64 t] w fun e w' => e = .returned (.tuple #[.complex .f64 re im, .int .i64 E]) ∧ Below w.heap.size w w') := by
  by_cases h : 0 ≤ t ∧ t ≤ 1048576
  · obtain ⟨T, rfl⟩ := Int.eq_ofNat_of_zero_le h.1
    obtain ⟨re, im, hN⟩ := node_ex T
    exact ⟨re, im, 0, fun w => ndNode_ok T re im w (by omega) hN, fun w => nrNode_ok T re im w (by omega) hN⟩
  · exact ⟨0, 0, 2, fun w => ndNode_err t w ht h, fun w => Calls.mono (nrNode_err t w h) fun e w' ⟨h1, h2⟩ => ⟨h1, by rw [h2]; exact Below.refl _ _⟩⟩
theorem factor_both (s : ByteArray) (t : Int) (ht : I64 t) : ∃ f E, (∀ w, Calls Try.prog 7 #[.string s, .int .i64 t] w fun e w' => e = .returned (.tuple #[.float .f64 f, .int .i64 E]) ∧ Below w.heap.size w w') ∧ (∀ w, Calls Try.prog 8 #[.string s, .int .i64 t] w fun e w' => e = .returned (.tuple #[.float .f64 f, .int .i64 E]) ∧ Below w.heap.size w w') := by
  by_cases h : 0 ≤ t ∧ t ≤ 1048576
  · obtain ⟨T, rfl⟩ := Int.eq_ofNat_of_zero_le h.1
    obtain ⟨re, im, hN⟩ := node_ex T
    have hT : T ≤ 1048576 := by omega
    cases hk : ndK s.toList with
    | none => exact ⟨0, 6, fun w => ndFactor_err s T 6 w rfl (hid fun V => ndat_none s T re im V (hid fun V => ndNode_ok T re im V hT hN) (hid fun V => by have := ndfind_any s V; rw [hk] at this; exact this)), fun w => nrFactor_none s T re im w hk hT hN⟩
    | some k =>
      obtain ⟨p, f, f1, f2, -⟩ := fac_ex hN.unit.1 (ndI7 hk)
      exact ⟨f, 0, fun w => ndFactor_k hk hT hN f1 f2 w, fun w => nrFactor_ok s k T re im p f w hk hT hN f1 f2⟩
  · exact ⟨0, 2, fun w => ndFactor_err s t 2 w rfl (hid fun V => ndat_err s t V (hid fun V => ndNode_err t V ht h)), fun w => Calls.mono (nrFactor_err s t w h) fun e w' ⟨h1, h2⟩ => ⟨h1, by rw [h2]; exact Below.refl _ _⟩⟩
theorem turn_both (s : ByteArray) (t : Int) (ht : I64 t) : ∃ x y E, (∀ w, Calls Try.prog 9 #[.string s, .int .i64 t] w fun e w' => e = .returned (.tuple #[.agg #[.int .i64 x, .int .i64 y], .int .i64 E]) ∧ Below w.heap.size w w') ∧ (∀ w, Calls Try.prog 10 #[.string s, .int .i64 t] w fun e w' => e = .returned (.tuple #[.agg #[.int .i64 x, .int .i64 y], .int .i64 E]) ∧ Below w.heap.size w w') := by
  by_cases h : 0 ≤ t ∧ t ≤ 1048576
  · obtain ⟨T, rfl⟩ := Int.eq_ofNat_of_zero_le h.1
    obtain ⟨re, im, hN⟩ := node_ex T
    have hT : T ≤ 1048576 := by omega
    cases hk : ndK s.toList with
    | none => exact ⟨0, 0, 6, fun w => ndTurn_err s T 6 w rfl (hid fun V => ndat_none s T re im V (hid fun V => ndNode_ok T re im V hT hN) (hid fun V => by have := ndfind_any s V; rw [hk] at this; exact this)), fun w => nrTurn_none s T re im w hk hT hN⟩
    | some k =>
      obtain ⟨F, N, hv⟩ := nd_vals hN.unit.1 hN.unit.2
      obtain ⟨p, g, e1, e2, -, e4⟩ := nr_vals hv hT hN hk (ndI7 hk)
      obtain ⟨u, v, u1, u2, u3, u4, u5, u6, -⟩ := hv.turn k (ndI7 hk)
      refine ⟨_, _, 0, fun w => ?_, e4⟩
      have := ndTurn_k hk hT hN u1 u2 u3 u4 u6 w
      rw [(of_eq e1 e2).1] at this
      exact this
  · exact ⟨0, 0, 2, fun w => ndTurn_err s t 2 w rfl (hid fun V => ndat_err s t V (hid fun V => ndNode_err t V ht h)), fun w => nrTurn_err s t w h⟩
/-- The first place whose name is none of the table's. -/
theorem first_bad (nm : Nat → ByteArray) : ∀ n, ∃ m, m ≤ n ∧ (∀ j, j < m → ndK (nm j).toList ≠ none) ∧ (m < n → ndK (nm m).toList = none)
  | 0 => ⟨0, Nat.le_refl _, fun j hj => absurd hj (by omega), fun h => absurd h (by omega)⟩
  | n + 1 => by
    obtain ⟨m, h1, h2, h3⟩ := first_bad nm n
    by_cases hm : m < n
    · exact ⟨m, by omega, h2, fun _ => h3 hm⟩
    · obtain rfl : m = n := by omega
      cases hk : ndK (nm m).toList with
      | none => exact ⟨m, by omega, h2, fun _ => hk⟩
      | some k =>
        refine ⟨m + 1, by omega, fun j hj => ?_, fun h => absurd h (by omega)⟩
        by_cases hj' : j < m
        · exact h2 j hj'
        · obtain rfl : j = m := by omega
          rw [hk]; exact fun h => by cases h
theorem times_both (nm : Nat → ByteArray) (n : Nat) (t : Int) (ht : I64 t) : ∃ c p q e i, (∀ (w : World) (a : Option Addr) (cap : Nat), RdT w a n nm → n ≤ cap → Calls Try.prog 11 #[.slice a n cap, .int .i64 t] w fun x w' => x = .returned (.tuple #[.float .f64 c, .agg #[.int .i64 p, .int .i64 q], .agg #[.int .i64 e, .int .i64 i]]) ∧ Below w.heap.size w w') ∧
    (∀ (w : World) (a : Option Addr) (cap : Nat), RdT w a n nm → n ≤ cap → Calls Try.prog 12 #[.slice a n cap, .int .i64 t] w fun x w' => x = .returned (.tuple #[.float .f64 c, .agg #[.int .i64 p, .int .i64 q], .agg #[.int .i64 e, .int .i64 i]]) ∧ Below w.heap.size w w') := by
  by_cases hn : 8 < n
  · exact ⟨0, 0, 0, 3, -1, fun w a cap _ _ => ndTimes_long a n cap t w hn, fun w a cap _ _ => nrTimes_long a n cap t w hn⟩
  by_cases h : 0 ≤ t ∧ t ≤ 1048576
  · obtain ⟨T, rfl⟩ := Int.eq_ofNat_of_zero_le h.1
    obtain ⟨re, im, hN⟩ := node_ex T
    have hT : T ≤ 1048576 := by omega
    obtain ⟨F, N, hv⟩ := nd_vals hN.unit.1 hN.unit.2
    obtain ⟨m, m1, m2, m3⟩ := first_bad nm n
    have hg : ∀ j, j < m → ndK (nm j).toList = some ((ndK (nm j).toList).getD 0) ∧ (ndK (nm j).toList).getD 0 < 7 := fun j hj => by
      have := m2 j hj
      cases hk : ndK (nm j).toList with
      | none => exact absurd hk this
      | some k => exact ⟨rfl, ndI7 hk⟩
    obtain ⟨x, y, z, o1, -⟩ := of_parts (ndSm N (fun j => (ndK (nm j).toList).getD 0) n)
    have prog : ∀ (R : Value), (m = n → R = .tuple #[.float .f64 (ndPr F (fun j => (ndK (nm j).toList).getD 0) n), .agg #[.int .i64 x, .int .i64 y], .agg #[.int .i64 0, .int .i64 0]]) → (m < n → R = .tuple #[.float .f64 0, .agg #[.int .i64 0, .int .i64 0], .agg #[.int .i64 6, .int .i64 (m : Int)]]) →
        (∀ (w : World) (a : Option Addr) (cap : Nat), RdT w a n nm → n ≤ cap → Calls Try.prog 11 #[.slice a n cap, .int .i64 (T : Int)] w fun x w' => x = .returned R ∧ Below w.heap.size w w') ∧ (∀ (w : World) (a : Option Addr) (cap : Nat), RdT w a n nm → n ≤ cap → Calls Try.prog 12 #[.slice a n cap, .int .i64 (T : Int)] w fun x w' => x = .returned R ∧ Below w.heap.size w w') := by
      intro R r1 r2
      refine ⟨fun w a cap hw hc => ?_, fun w a cap hw hc => nrTimes_any a n cap T w re im F N nm _ m R (by omega) m1 hw hc hT hN hv hg m3 (fun h => ⟨_, _, o1, r1 h⟩) r2⟩
      rcases hw with rfl | hw
      · obtain rfl : m = 0 := by omega
        have e := r1 rfl
        rw [show ofR (ndSm N (fun j => (ndK (nm j).toList).getD 0) 0) 3600000 = (0, 1, 0) from of_zero] at o1
        obtain ⟨ex, ey⟩ : (x : Int) = 0 ∧ (y : Int) = 1 := by simp only [Prod.mk.injEq] at o1; exact ⟨o1.1.symm, o1.2.1.symm⟩
        rw [e, ex, ey]
        exact ndTimes_nil a cap T w re im (hid fun V => ndNode_ok T re im V hT hN)
      · exact ndTimes_any a n cap T w re im F N nm _ m R (by omega) m1 hw hc hv hg m3 (fun h => ⟨_, _, o1, r1 h⟩) r2 (hid fun V => ndNode_ok T re im V hT hN)
    by_cases hm : m = n
    · obtain ⟨q1, q2⟩ := prog _ (fun _ => rfl) (fun h => absurd h (by omega))
      exact ⟨_, _, _, _, _, q1, q2⟩
    · obtain ⟨q1, q2⟩ := prog _ (fun h => absurd h hm) (fun _ => rfl)
      exact ⟨_, _, _, _, _, q1, q2⟩
  · exact ⟨0, 0, 0, 2, -1, fun w a cap _ _ => ndTimes_tick a n cap t w (by omega) (hid fun V => ndNode_err t V ht h), fun w a cap _ _ => nrTimes_tick a n cap t w (by omega) h⟩
def tlL (nm : Nat → ByteArray) (n : Nat) : List Value := (List.range n).map fun j => .string (nm j)
theorem tlL_len (nm : Nat → ByteArray) (n : Nat) : (tlL nm n).length = n := by unfold tlL; simp
theorem tlL_at (nm : Nat → ByteArray) (n j : Nat) (hj : j < n) : (tlL nm n)[j]? = some (.string (nm j)) := by
  unfold tlL; rw [List.getElem?_map, List.getElem?_range hj]; rfl
theorem tlL_one (nm : Nat → ByteArray) (n : Nat) : ∀ u ∈ tlL nm n, u.oneCell' = true := by
  intro u hu
  unfold tlL at hu
  obtain ⟨j, _, rfl⟩ := List.mem_map.1 hu
  rfl

set_option maxHeartbeats 6400000 in
set_option maxRecDepth 100000 in
theorem nodalTells_walk (s : ByteArray) (a : Option Addr) (n cap : Nat) (nm : Nat → ByteArray) (t : Int) (w : World) (ht : I64 t) (hcap : n ≤ cap) (hr : RdT w a n nm) (h0 : a = none → n = 0 ∧ cap = 0) :
    Calls Try.prog 3 #[.string s, .slice a n cap, .int .i64 t] w fun e w' => e = .returned (.bool true) ∧ Below w.heap.size w w' := by
  by_cases hn : 100 < n
  · have h1 : (100 : Int) < (n : Int) := by omega
    clear hr h0 hcap ht
    go_enter Try.func3, Try.ntmps3
    go_wp2_with fail
    go_ret
    exact ⟨rfl, Below.refl _ _⟩
  have h1 : ¬ (100 : Int) < (n : Int) := by omega
  obtain ⟨re, im, E1, b1, b1'⟩ := node_both t ht
  obtain ⟨fa, E2, b2a, b2b⟩ := factor_both s t ht
  obtain ⟨x, y, E3, b3a, b3b⟩ := turn_both s t ht
  obtain ⟨c, p, q, e4, i4, b4a, b4b⟩ := times_both nm n t ht
  have H1 := hid b1
  have H1' := hid b1'
  have H2 := hid b2a
  have H2' := hid b2b
  have H3 := hid b3a
  have H3' := hid b3b
  have H4 := hid b4a
  have H4' := hid b4b
  have HS1 := hid (fun V => nsameNumber re im V)
  have HS2 := hid (fun V => nsameFloat fa V)
  have HS3 := hid (fun V => nsameFloat c V)
  have HS4 := hid (fun V => ndsame_eq x y V)
  have HS5 := hid (fun V => ndsame_eq p q V)
  have hEQ := ndEqF e4 i4
  have HRd : Hid (∀ V, Below w.heap.size w V → RdT V a n nm) := fun V hV => hr.later hV
  have HL : Hid (n ≤ 100 ∧ n ≤ cap) := ⟨by omega, hcap⟩
  have HA0 := hid h0
  obtain ⟨i0, hi, hz0, hz1, hz2⟩ := info_parts Try.infoS
  clear b1 b1' b2a b2b b3a b3b b4a b4b ht hcap hr h0 hn
  go_enter Try.func3, Try.ntmps3
  go_wp2_with fail
  refine Calls.mono (H1.out _) ?_
  rintro e w1 ⟨rfl, hb1⟩
  go_wp2_with fail
  refine Calls.mono (H1'.out _) ?_
  rintro e w2 ⟨rfl, hb2⟩
  go_wp2_with fail
  refine Calls.mono (H2.out _) ?_
  rintro e w3 ⟨rfl, hb3⟩
  go_wp2_with fail
  refine Calls.mono (H2'.out _) ?_
  rintro e w4 ⟨rfl, hb4⟩
  go_wp2_with fail
  refine Calls.mono (H3.out _) ?_
  rintro e w5 ⟨rfl, hb5⟩
  have hxu := boxes1 w5 31 #[.int .i64 x, .int .i64 y]
  have HB5 := hid (b2 (b2 (b2 hb1 hb2) (b2 hb3 hb4)) (b2 hb5 hxu.2))
  have HU := hid hxu.1
  clear hb1 hb2 hb3 hb4 hb5 hxu H1 H1' H2 H2' H3
  go_wp2_with fail
  generalize w5.alloc (.cells #[.int .i64 x, .int .i64 y] 31) = X5 at *
  refine Calls.mono (H3'.out _) ?_
  rintro e w6 ⟨rfl, hb6⟩
  have hxv := boxes1 w6 31 #[.int .i64 x, .int .i64 y]
  have HB6 := hid (b2 HB5.out (b2 hb6 hxv.2))
  have HV := hid hxv.1
  replace HU := hid (HU.out.later (b2 hb6 hxv.2) HU.out.lt)
  clear hb6 hxv HB5 H3'
  have hown0 : ∀ X : World, (X.alloc (.cells #[] 9)).ownsRow X.heap.size 9 1 (.slice (some ⟨X.heap.size, 0, none⟩) 0 0) 0 [] := fun X => World.ownsRow_lit X #[] 0 (Nat.le_refl _) (Nat.zero_le _) rfl
  obtain ⟨X6, hX6⟩ : ∃ X6, w6.alloc (.cells #[.int .i64 x, .int .i64 y] 31) = X6 := ⟨_, rfl⟩
  rw [hX6] at HB6 HU HV
  have hal := boxes1 X6 9 #[]
  have hown := hown0 X6
  have HOne := hid (tlL_one nm n)
  have HLen := hid (tlL_len nm n)
  have HNews : Hid (∀ ad, a = some ad → ∀ j u, (tlL nm n)[j]? = some u → (X6.alloc (.cells #[] 9)).cell? (ad.add j) = some u) := fun ad ha j u hj => by
    have hj1 : j < n := by have := (List.getElem?_eq_some_iff.1 hj).1; rw [tlL_len] at this; exact this
    rcases HRd.out _ (b2 HB6.out hal.2) with h | ⟨bb, oo, hb, -, hc⟩
    · omega
    · rw [hb] at ha
      cases ha
      rw [Addr.add_lit, hc j hj1, ← hj, tlL_at nm n j hj1]
  have hn100 : n ≤ 100 := HL.out.1
  clear hown0
  cases a with
  | none =>
    obtain ⟨rfl, rfl⟩ := HA0.out rfl
    have hal8 := boxes1 (X6.alloc (.cells #[] 9)) 9 #[.string { data := #[77, 50] }, .string { data := #[98, 101, 104, 105, 110, 100] }]
    rw [World.size_alloc] at hal8
    have hown8 := owns_later hown (boxes1 (X6.alloc (.cells #[] 9)) 9 #[.string { data := #[77, 50] }, .string { data := #[98, 101, 104, 105, 110, 100] }]).2
    have hbel8 := b2 hal.2 (boxes1 (X6.alloc (.cells #[] 9)) 9 #[.string { data := #[77, 50] }, .string { data := #[98, 101, 104, 105, 110, 100] }]).2
    have hsz8 := hbel8.size
    have hnw8 : ∀ (j : Nat) (u : Value), [.string { data := #[77, 50] }, .string { data := #[98, 101, 104, 105, 110, 100] }][j]? = some u → ((X6.alloc (.cells #[] 9)).alloc (.cells #[.string { data := #[77, 50] }, .string { data := #[98, 101, 104, 105, 110, 100] }] 9)).cell? ((⟨X6.heap.size + 1, 0, none⟩ : Addr).add j) = some u := by
      intro j u hj
      rw [Addr.add_lit, Nat.zero_add, hal8.1.cell j]
      match j, hj with
      | 0, hj => exact hj
      | 1, hj => exact hj
      | j + 2, hj => simp at hj
    go_wp2_with (at_builtin; first | refine wpList_append_own_none rfl _ _ 22 rfl X6.heap.size 9 i0 1 Try.underlying22 hi _ 0 [] rfl hown rfl ?_ | refine wpList_append_own _ rfl _ _ 22 rfl X6.heap.size 9 i0 (.string { data := #[] }) 1 16 Try.underlying22 hi hz0 hz1 hz2 rfl (by decide) _ 0 [] rfl hown8 ⟨X6.heap.size + 1, 0, none⟩ 2 2 [.string { data := #[77, 50] }, .string { data := #[98, 101, 104, 105, 110, 100] }] rfl rfl hnw8 (by simp [Value.oneCell']) (by decide) (by decide) hsz8 ?_)
    intro v2 w8 hown2 hgrow2 _
    have hb8 : Below X6.heap.size X6 w8 := hbel8.grown hgrow2 hsz8 (fun g hg => own_base hown8 g hg)
    rcases hown2.2 with ⟨rfl, h00⟩ | ⟨g, cap2, cur, rfl, hbg, hg, hnc, hcm, hcs, htk⟩
    · omega
    have hown2' : w8.ownsRow X6.heap.size 9 1 (.slice (some ⟨g, 0, none⟩) (2) cap2) (2) (tlL nm 0 ++ [.string { data := #[77, 50] }, .string { data := #[98, 101, 104, 105, 110, 100] }]) := hown2
    have hglt : g < w8.heap.size := (Array.getElem?_eq_some_iff.1 hg).1
    have HCell : Hid (∀ V, Below w8.heap.size w8 V → (∀ j, j < 0 → V.cell? ⟨g, j, none⟩ = some (.string (nm j))) ∧ V.cell? ⟨g, 0, none⟩ = some (.string { data := #[77, 50] }) ∧ V.cell? ⟨g, 0 + 1, none⟩ = some (.string { data := #[98, 101, 104, 105, 110, 100] })) := fun V hV => by
      refine ⟨fun j hj => ?_, ?_, ?_⟩
      · rw [hV.cell (p := ⟨g, j, none⟩) hglt, hown2'.cellAt j (by omega), List.getElem?_append_left (by rw [tlL_len]; exact hj)]
        exact tlL_at nm 0 j hj
      · rw [hV.cell (p := ⟨g, 0, none⟩) hglt, hown2'.cellAt 0 (by omega), List.getElem?_append_right (by rw [tlL_len]; exact Nat.le_refl _), tlL_len, Nat.sub_self]
        rfl
      · rw [hV.cell (p := ⟨g, 0 + 1, none⟩) hglt, hown2'.cellAt (0 + 1) (by omega), List.getElem?_append_right (by rw [tlL_len]; omega), tlL_len, show 0 + 1 - 0 = 1 by omega]
        rfl
    have hrd8 : RdT w8 (some ⟨g, 0, none⟩) 0 nm := .inr ⟨g, 0, rfl, hglt, fun j hj => by rw [Nat.zero_add]; exact (HCell.out w8 (Below.refl _ _)).1 j hj⟩
    have HT1 := hid (H4.out w8 (some ⟨g, 0, none⟩) cap2 hrd8 (by omega))
    have hz1' : 0 ≤ cap2 := by omega
    have HB8 := hid (b2 HB6.out hb8)
    replace HU := hid (HU.out.later hb8 HU.out.lt)
    replace HV := hid (HV.out.later hb8 HV.out.lt)
    clear hown2 hown2' hgrow2 hbg hg hcm hcs htk hb8 hrd8 hown8 hbel8 hsz8
    go_wp2_with fail
    refine Calls.mono HT1.out ?_
    rintro e w9 ⟨rfl, hb9⟩
    have hx9 := boxes2t w9 31 35 #[.int .i64 p, .int .i64 q] #[.int .i64 e4, .int .i64 i4]
    have hB9 := b2 hb9 hx9.2.2
    have HP9 := hid hx9.1
    have HF9 := hid hx9.2.1
    have HBg : Hid (Below w8.heap.size w8 _) := hB9
    replace HU := hid (HU.out.later hB9 HU.out.lt)
    replace HV := hid (HV.out.later hB9 HV.out.lt)
    have HB9 := hid (b2 HB8.out hB9)
    clear hb9 hx9 hB9 HB8 HT1
    go_wp2_with fail
    generalize ((w9.alloc (.cells #[.int .i64 p, .int .i64 q] 31)).alloc (.cells #[.int .i64 e4, .int .i64 i4] 35)) = X9 at *
    refine Calls.mono (H4'.out X9 _ _ (HRd.out X9 HB9.out) HL.out.2) ?_
    rintro e w10 ⟨rfl, hb10⟩
    have hx10 := boxes2t w10 31 35 #[.int .i64 p, .int .i64 q] #[.int .i64 e4, .int .i64 i4]
    have hB10 := b2 hb10 hx10.2.2
    replace HU := hid (HU.out.later hB10 HU.out.lt)
    replace HV := hid (HV.out.later hB10 HV.out.lt)
    replace HP9 := hid (HP9.out.later hB10 HP9.out.lt)
    replace HF9 := hid (HF9.out.later hB10 HF9.out.lt)
    replace HBg := hid (b2 HBg.out hB10)
    have HQ10 := hid hx10.1
    have HG10 := hid hx10.2.1
    have HB10 := hid (b2 HB9.out hB10)
    clear hb10 hx10 hB10 HB9 H4 H4'
    obtain ⟨a0, a1, -⟩ := fbox_facts HF9.out (Below.refl _ _)
    obtain ⟨c0, c1, -⟩ := fbox_facts HG10.out (Below.refl _ _)
    go_wp2_with fail
    generalize ((w10.alloc (.cells #[.int .i64 p, .int .i64 q] 31)).alloc (.cells #[.int .i64 e4, .int .i64 i4] 35)) = X10 at *
    clear a0 a1 c0 c1
    refine Calls.mono (HS1.out _) ?_
    rintro e w11 ⟨rfl, rfl⟩
    go_wp2_with fail
    refine Calls.mono (HS2.out _) ?_
    rintro e w12 ⟨rfl, rfl⟩
    go_wp2_with fail
    refine Calls.mono (HS3.out _) ?_
    rintro e w13 ⟨rfl, rfl⟩
    obtain ⟨u0, u1, -⟩ := fbox_facts HU.out (Below.refl _ _)
    obtain ⟨v0, v1', -⟩ := fbox_facts HV.out (Below.refl _ _)
    go_wp2_with fail
    clear u0 u1 v0 v1'
    refine Calls.mono (HS4.out _) ?_
    rintro e w14 ⟨rfl, hb14⟩
    obtain ⟨p0, p1, -⟩ := fbox_facts HP9.out hb14
    obtain ⟨q0, q1, -⟩ := fbox_facts HQ10.out hb14
    replace HBg := hid (b2 HBg.out hb14)
    have HB14 := hid (b2 HB10.out hb14)
    clear hb14 HB10 HP9 HQ10 HU HV HF9 HG10
    go_wp2_with fail
    clear p0 p1 q0 q1
    refine Calls.mono (HS5.out _) ?_
    rintro e w15 ⟨rfl, hb15⟩
    have HI : Hid (Below w8.heap.size w8 w15 ∧ Below w.heap.size w w15) := ⟨b2 HBg.out hb15, b2 HB14.out hb15⟩
    clear hb15 HBg HB14 HS1 HS2 HS3 HS4 HS5
    go_wp2_with fail
    go_loopw [26] (fun i wr => ∃ k : Nat, k ≤ 0 ∧ i = .int .i64 (k : Int) ∧ Hid (Below w8.heap.size w8 wr ∧ Below w.heap.size w wr)) (fun i _ => 0 - (intOf i).toNat)
    case atStart => exact ⟨0, by omega, rfl, HI⟩
    case round =>
      obtain ⟨k, hk, rfl, HC⟩ := hrel
      clear HI
      by_cases hlt : k < 0
      · exfalso; omega
      · obtain rfl : k = 0 := by omega
        obtain ⟨-, cA, cB⟩ := HCell.out wr HC.out.1
        go_wp2_with fail
        go_ret
        exact ⟨rfl, HC.out.2⟩
  | some ad =>
    have hnews := HNews.out ad rfl
    go_wp2_with (at_builtin; refine wpList_append_own _ rfl _ _ 22 rfl X6.heap.size 9 i0 (.string { data := #[] }) 1 16 Try.underlying22 hi hz0 hz1 hz2 rfl (by decide) _ 0 [] rfl hown ad n cap (tlL nm n) rfl (by rw [HLen.out, Nat.mul_one]) hnews HOne.out (by unfold maxLen; omega) (by omega) hal.2.size ?_)
    intro v1 w7 hown1 hgrow1 _
    have hb7 : Below X6.heap.size X6 w7 := hal.2.grown hgrow1 hal.2.size (fun g hg => by cases hg; exact Nat.le_refl _)
    have hal8 := boxes1 w7 9 #[.string { data := #[77, 50] }, .string { data := #[98, 101, 104, 105, 110, 100] }]
    have hown8 := owns_later hown1 hal8.2
    have hbel8 := b2 hb7 hal8.2
    have hsz8 := hbel8.size
    clear hgrow1 hown1 hb7
    have hnw8 : ∀ (j : Nat) (u : Value), [.string { data := #[77, 50] }, .string { data := #[98, 101, 104, 105, 110, 100] }][j]? = some u → (w7.alloc (.cells #[.string { data := #[77, 50] }, .string { data := #[98, 101, 104, 105, 110, 100] }] 9)).cell? ((⟨w7.heap.size, 0, none⟩ : Addr).add j) = some u := by
      intro j u hj
      rw [Addr.add_lit, Nat.zero_add, hal8.1.cell j]
      match j, hj with
      | 0, hj => exact hj
      | 1, hj => exact hj
      | j + 2, hj => simp at hj
    go_wp2_with (at_builtin; refine wpList_append_own _ rfl _ _ 22 rfl X6.heap.size 9 i0 (.string { data := #[] }) 1 16 Try.underlying22 hi hz0 hz1 hz2 rfl (by decide) _ n (tlL nm n) rfl hown8 ⟨w7.heap.size, 0, none⟩ 2 2 [.string { data := #[77, 50] }, .string { data := #[98, 101, 104, 105, 110, 100] }] rfl rfl hnw8 (by simp [Value.oneCell']) (by unfold maxLen; omega) (by omega) hsz8 ?_)
    intro v2 w8 hown2 hgrow2 _
    have hb8 : Below X6.heap.size X6 w8 := hbel8.grown hgrow2 hsz8 (fun g hg => own_base hown8 g hg)
    rcases hown2.2 with ⟨rfl, h00⟩ | ⟨g, cap2, cur, rfl, hbg, hg, hnc, hcm, hcs, htk⟩
    · omega
    have hown2' : w8.ownsRow X6.heap.size 9 1 (.slice (some ⟨g, 0, none⟩) (n + 2) cap2) (n + 2) (tlL nm n ++ [.string { data := #[77, 50] }, .string { data := #[98, 101, 104, 105, 110, 100] }]) := hown2
    have hglt : g < w8.heap.size := (Array.getElem?_eq_some_iff.1 hg).1
    have HCell : Hid (∀ V, Below w8.heap.size w8 V → (∀ j, j < n → V.cell? ⟨g, j, none⟩ = some (.string (nm j))) ∧ V.cell? ⟨g, n, none⟩ = some (.string { data := #[77, 50] }) ∧ V.cell? ⟨g, n + 1, none⟩ = some (.string { data := #[98, 101, 104, 105, 110, 100] })) := fun V hV => by
      refine ⟨fun j hj => ?_, ?_, ?_⟩
      · rw [hV.cell (p := ⟨g, j, none⟩) hglt, hown2'.cellAt j (by omega), List.getElem?_append_left (by rw [tlL_len]; exact hj)]
        exact tlL_at nm n j hj
      · rw [hV.cell (p := ⟨g, n, none⟩) hglt, hown2'.cellAt n (by omega), List.getElem?_append_right (by rw [tlL_len]; exact Nat.le_refl _), tlL_len, Nat.sub_self]
        rfl
      · rw [hV.cell (p := ⟨g, n + 1, none⟩) hglt, hown2'.cellAt (n + 1) (by omega), List.getElem?_append_right (by rw [tlL_len]; omega), tlL_len, show n + 1 - n = 1 by omega]
        rfl
    have hrd8 : RdT w8 (some ⟨g, 0, none⟩) n nm := .inr ⟨g, 0, rfl, hglt, fun j hj => by rw [Nat.zero_add]; exact (HCell.out w8 (Below.refl _ _)).1 j hj⟩
    have HT1 := hid (H4.out w8 (some ⟨g, 0, none⟩) cap2 hrd8 (by omega))
    have hz1' : n ≤ cap2 := by omega
    have HB8 := hid (b2 HB6.out hb8)
    replace HU := hid (HU.out.later hb8 HU.out.lt)
    replace HV := hid (HV.out.later hb8 HV.out.lt)
    clear hown2 hown2' hgrow2 hbg hg hcm hcs htk hb8 hrd8 hown8 hbel8 hsz8
    go_wp2_with fail
    refine Calls.mono HT1.out ?_
    rintro e w9 ⟨rfl, hb9⟩
    have hx9 := boxes2t w9 31 35 #[.int .i64 p, .int .i64 q] #[.int .i64 e4, .int .i64 i4]
    have hB9 := b2 hb9 hx9.2.2
    have HP9 := hid hx9.1
    have HF9 := hid hx9.2.1
    have HBg : Hid (Below w8.heap.size w8 _) := hB9
    replace HU := hid (HU.out.later hB9 HU.out.lt)
    replace HV := hid (HV.out.later hB9 HV.out.lt)
    have HB9 := hid (b2 HB8.out hB9)
    clear hb9 hx9 hB9 HB8 HT1
    go_wp2_with fail
    generalize ((w9.alloc (.cells #[.int .i64 p, .int .i64 q] 31)).alloc (.cells #[.int .i64 e4, .int .i64 i4] 35)) = X9 at *
    refine Calls.mono (H4'.out X9 _ _ (HRd.out X9 HB9.out) HL.out.2) ?_
    rintro e w10 ⟨rfl, hb10⟩
    have hx10 := boxes2t w10 31 35 #[.int .i64 p, .int .i64 q] #[.int .i64 e4, .int .i64 i4]
    have hB10 := b2 hb10 hx10.2.2
    replace HU := hid (HU.out.later hB10 HU.out.lt)
    replace HV := hid (HV.out.later hB10 HV.out.lt)
    replace HP9 := hid (HP9.out.later hB10 HP9.out.lt)
    replace HF9 := hid (HF9.out.later hB10 HF9.out.lt)
    replace HBg := hid (b2 HBg.out hB10)
    have HQ10 := hid hx10.1
    have HG10 := hid hx10.2.1
    have HB10 := hid (b2 HB9.out hB10)
    clear hb10 hx10 hB10 HB9 H4 H4'
    obtain ⟨a0, a1, -⟩ := fbox_facts HF9.out (Below.refl _ _)
    obtain ⟨c0, c1, -⟩ := fbox_facts HG10.out (Below.refl _ _)
    go_wp2_with fail
    generalize ((w10.alloc (.cells #[.int .i64 p, .int .i64 q] 31)).alloc (.cells #[.int .i64 e4, .int .i64 i4] 35)) = X10 at *
    clear a0 a1 c0 c1
    refine Calls.mono (HS1.out _) ?_
    rintro e w11 ⟨rfl, rfl⟩
    go_wp2_with fail
    refine Calls.mono (HS2.out _) ?_
    rintro e w12 ⟨rfl, rfl⟩
    go_wp2_with fail
    refine Calls.mono (HS3.out _) ?_
    rintro e w13 ⟨rfl, rfl⟩
    obtain ⟨u0, u1, -⟩ := fbox_facts HU.out (Below.refl _ _)
    obtain ⟨v0, v1', -⟩ := fbox_facts HV.out (Below.refl _ _)
    go_wp2_with fail
    clear u0 u1 v0 v1'
    refine Calls.mono (HS4.out _) ?_
    rintro e w14 ⟨rfl, hb14⟩
    obtain ⟨p0, p1, -⟩ := fbox_facts HP9.out hb14
    obtain ⟨q0, q1, -⟩ := fbox_facts HQ10.out hb14
    replace HBg := hid (b2 HBg.out hb14)
    have HB14 := hid (b2 HB10.out hb14)
    clear hb14 HB10 HP9 HQ10 HU HV HF9 HG10
    go_wp2_with fail
    clear p0 p1 q0 q1
    refine Calls.mono (HS5.out _) ?_
    rintro e w15 ⟨rfl, hb15⟩
    have HI : Hid (Below w8.heap.size w8 w15 ∧ Below w.heap.size w w15) := ⟨b2 HBg.out hb15, b2 HB14.out hb15⟩
    clear hb15 HBg HB14 HS1 HS2 HS3 HS4 HS5
    go_wp2_with fail
    go_loopw [26] (fun i wr => ∃ k : Nat, k ≤ n ∧ i = .int .i64 (k : Int) ∧ Hid (Below w8.heap.size w8 wr ∧ Below w.heap.size w wr)) (fun i _ => n - (intOf i).toNat)
    case atStart => exact ⟨0, by omega, rfl, HI⟩
    case round =>
      obtain ⟨k, hk, rfl, HC⟩ := hrel
      clear HI
      by_cases hlt : k < n
      · rcases HRd.out wr HC.out.2 with h | ⟨bb, oo, hb, -, hc⟩
        · omega
        cases hb
        have cA := (HCell.out wr HC.out.1).1 k hlt
        have cB := hc k hlt
        have j1 : (k : Int) < (n : Int) := by omega
        have j2 : (k : Int) < ((n + 2 : Nat) : Int) := by omega
        have j3 : n ≤ cap := HL.out.2
        generalize nm k = nk at *
        have h2 : (nk.toList == nk.toList) = true := by simp
        clear hc
        go_wp2_with fail
        first
          | (go_quiet (fail)
             go_wp2_with fail
             refine ⟨⟨k + 1, by omega, by go_num, ⟨bdrewN HC.out.1 _, bdrewN HC.out.2 _⟩⟩, by simp [intOf]; omega⟩)
          | refine ⟨⟨k + 1, by omega, by go_num, HC⟩, by simp [intOf]; omega⟩
      · obtain rfl : k = n := by omega
        obtain ⟨-, cA, cB⟩ := HCell.out wr HC.out.1
        go_wp2_with fail
        go_ret
        exact ⟨rfl, HC.out.2⟩
end Go.Proofs.Ytodihhokodnmkaa

