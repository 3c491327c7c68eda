/- My texts on the way to NodalMeans, one behind the other: contracts of the program and of the document's answers. -/
import Derived.Test.YtodihhokodnmkaaJ2
/- The law NodalMeans. -/
namespace Go.Proofs.Ytodihhokodnmkaa
open Go.RowKit Go.Shelf
set_option linter.unusedVariables false
set_option linter.unusedSimpArgs false

theorem quo_some {x y : Nat} (hx : Fi x) (hy : Fi y) (h0 : sv y ≠ 0) : ∃ r, floatBits .quo .f64 x y = some r := by
  obtain ⟨m, a, e1, v1⟩ := read_num hx.2
  obtain ⟨n, b, e2, v2⟩ := read_num hy.2
  have hn : n ≠ 0 := by
    intro h
    subst h
    rw [Nat.zero_mul] at v2
    have := sv_abs y
    rw [← v2] at this
    omega
  have e : floatBits .quo .f64 x y = (((Ieee.double.read x).quotient (Ieee.double.fractionBits + 2) (Ieee.double.read y)).map Ieee.double.write) := rfl
  rw [e, e1, e2]
  simp only [Ieee.Datum.quotient, if_neg hn, Option.map]
  exact ⟨_, rfl⟩

set_option maxHeartbeats 800000 in
set_option maxRecDepth 100000 in
theorem nsameFloat (x : Nat) (w : World) : Calls Try.prog 14 #[.float .f64 x, .float .f64 x] w fun e w' => e = .returned (.bool true) ∧ w' = w := by
  cases hn : isnan x with
  | false =>
    have h1 : (FloatKind.f64.format.order x x == some .eq) = true := by rw [order_refl hn]; rfl
    go_enter Try.func14, Try.ntmps14
    go_wp2_with fail
    go_ret
    exact ⟨rfl, rfl⟩
  | true =>
    have h1 : (FloatKind.f64.format.order x x == some .eq) = false := by rw [order_nan_l hn]; rfl
    have h2 : (FloatKind.f64.format.order x x != some .eq) = true := by rw [order_nan_l hn]; rfl
    go_enter Try.func14, Try.ntmps14
    go_wp2_with fail
    go_ret
    exact ⟨rfl, rfl⟩

set_option maxHeartbeats 800000 in
set_option maxRecDepth 100000 in
theorem nrMean_span (n : ByteArray) (a b E : Int) (w : World) (ha : I64 a) (hb : I64 b) (hE : spnR a b = E) (h0 : (E == 0) = false) :
    Calls Try.prog 17 #[.string n, .int .i64 a, .int .i64 b] w fun e w' => e = .returned (.tuple #[.float .f64 0, .int .i64 E]) ∧ Below w.heap.size w w' := by
  have HSp := hid (fun V => cdspn_any a b V ha hb)
  rw [hE] at HSp
  clear ha hb hE
  go_enter Try.func17, Try.ntmps17
  go_wp2_with fail
  refine Calls.mono (HSp.out _) ?_
  rintro e w1 ⟨rfl, rfl⟩
  go_wp2_with fail
  go_returns
  exact ⟨rfl, Below.refl _ _⟩
set_option maxHeartbeats 800000 in
set_option maxRecDepth 100000 in
theorem nrMean_same (n : ByteArray) (a b : Int) (w : World) (ha : I64 a) (hb : I64 b) (hE : spnR a b = 0) (h0 : (a == b) = true) :
    Calls Try.prog 17 #[.string n, .int .i64 a, .int .i64 b] w fun e w' => e = .returned (.tuple #[.float .f64 0, .int .i64 2]) ∧ Below w.heap.size w w' := by
  have HSp := hid (fun V => cdspn_any a b V ha hb)
  rw [hE] at HSp
  clear ha hb hE
  go_enter Try.func17, Try.ntmps17
  go_wp2_with fail
  refine Calls.mono (HSp.out _) ?_
  rintro e w1 ⟨rfl, rfl⟩
  go_wp2_with fail
  go_returns
  exact ⟨rfl, Below.refl _ _⟩
set_option maxHeartbeats 800000 in
set_option maxRecDepth 100000 in
theorem nrMean_none (n : ByteArray) (a b : Int) (w : World) (ha : I64 a) (hb : I64 b) (hE : spnR a b = 0) (h0 : (a == b) = false) (hn : ndK n.toList = none) :
    Calls Try.prog 17 #[.string n, .int .i64 a, .int .i64 b] w fun e w' => e = .returned (.tuple #[.float .f64 0, .int .i64 6]) ∧ Below w.heap.size w w' := by
  have HSp := hid (fun V => cdspn_any a b V ha hb)
  rw [hE] at HSp
  have HR := hid (fun V => nrrow_any n V)
  rw [hn, show nrV none = Value.tuple #[.float .f64 0, .float .f64 0, .float .f64 0, .bool false] from rfl] at HR
  clear ha hb hE hn
  go_enter Try.func17, Try.ntmps17
  go_wp2_with fail
  refine Calls.mono (HSp.out _) ?_
  rintro e w1 ⟨rfl, rfl⟩
  go_wp2_with fail
  refine Calls.mono (HR.out _) ?_
  rintro e w2 ⟨rfl, rfl⟩
  go_wp2_with fail
  go_returns
  exact ⟨rfl, Below.refl _ _⟩

theorem ndI7 {l : List UInt8} {k : Nat} (h : ndK l = some k) : k < 7 := by
  unfold ndK at h
  repeat' split at h
  all_goals first | (cases h; decide) | cases h

/-- What both tell. -/
theorem mean_both (n : ByteArray) (a b : Int) (ha : I64 a) (hb : I64 b) : ∃ r E, (∀ w, Calls Try.prog 16 #[.string n, .int .i64 a, .int .i64 b] w fun e w' => e = .returned (.tuple #[.float .f64 r, .int .i64 E]) ∧ Below w.heap.size w w') ∧
    (∀ w, Calls Try.prog 17 #[.string n, .int .i64 a, .int .i64 b] w fun e w' => e = .returned (.tuple #[.float .f64 r, .int .i64 E]) ∧ Below w.heap.size w w') := by
  by_cases h0 : spnR a b = 0
  · have hs : ¬ (a < 0 ∨ 1048577 < b ∨ b < a) ∧ ¬ 4096 < b - a := by
      unfold spnR at h0
      by_cases h : a < 0 ∨ 1048577 < b ∨ b < a
      · rw [if_pos h] at h0; cases h0
      · by_cases g : 4096 < b - a
        · rw [if_neg h, if_pos g] at h0; cases h0
        · exact ⟨h, g⟩
    by_cases h1 : a = b
    · exact ⟨0, 2, fun w => ndMean_same n a b w ha hb h0 (by simp [h1]), fun w => nrMean_same n a b w ha hb h0 (by simp [h1])⟩
    · have h1' : (a == b) = false := by simp [h1]
      cases hk : ndK n.toList with
      | none => exact ⟨0, 6, fun w => ndMean_none n a b w ha hb h0 h1' hk, fun w => nrMean_none n a b w ha hb h0 h1' hk⟩
      | some k =>
        obtain ⟨A, rfl⟩ := Int.eq_ofNat_of_zero_le (show 0 ≤ a by omega)
        obtain ⟨m, hm⟩ : ∃ m : Nat, b = ((A + m : Nat) : Int) := ⟨(b - A).toNat, by omega⟩
        subst hm
        have hk7 := ndI7 hk
        have hex : ∀ j, ∃ f, (∃ re im p, NodeR (A + j) re im ∧ floatBits .mul .f64 (ndS k) re = some p ∧ floatBits .add .f64 p (ndB k) = some f) ∧ In 1034 549755813888 1649267441664 f := by
          intro j
          obtain ⟨re, im, hN⟩ := node_ex (A + j)
          obtain ⟨p, f, f1, f2, f3, -⟩ := fac_ex hN.unit.1 hk7
          exact ⟨f, ⟨re, im, p, hN, f1, f2⟩, f3.coarse (by decide) (by decide)⟩
        obtain ⟨f, hf⟩ := Classical.axiomOfChoice hex
        have hi : ∀ j, In 1034 549755813888 1649267441664 (f j) := fun j => (hf j).2
        have i1 := mnS_in hi (List.range m) (by rw [List.length_range]; omega)
        have i2 := int_in (m : Int) (by omega) (by omega)
        obtain ⟨r, hr⟩ := quo_some i1.1 i2.1 (by
          rw [i2.of_eq]
          have := Nat.two_pow_pos 1074
          generalize 2 ^ 1074 = P at *
          have := Int.mul_pos (show (0 : Int) < (m : Int) by omega) (show (0 : Int) < (P : Int) by omega)
          omega)
        exact ⟨r, 0, fun w => ndMean_ok n k A m r f w hk (by omega) (by omega) (by omega) (fun j _ => (hf j).1) hi hr, fun w => nrMean_ok n k A m r f w hk (by omega) (by omega) (by omega) (fun j _ => (hf j).1) hi hr⟩
  · have h' : (spnR a b == 0) = false := by simp [h0]
    exact ⟨0, spnR a b, fun w => ndMean_span n a b _ w ha hb rfl h', fun w => nrMean_span n a b _ w ha hb rfl h'⟩

set_option maxHeartbeats 1600000 in
set_option maxRecDepth 100000 in
theorem nrNames_any (w : World) :
    Calls Try.prog 18 #[] w fun e w' => e = .returned (.slice (some ⟨w.heap.size, 0, none⟩) 10 10) ∧ FBox w' w.heap.size 9 ndA ∧ Below w.heap.size w w' ∧ w'.heap.size = w.heap.size + 1 := by
  have HX := hid (boxes1 w 9 ndA)
  have HS : Hid ((w.alloc (.cells ndA 9)).heap.size = w.heap.size + 1) := World.size_alloc _ _
  go_enter Try.func18, Try.ntmps18
  go_wp2_with fail
  go_ret
  exact ⟨rfl, HX.out.1, HX.out.2, HS.out⟩

set_option maxHeartbeats 6400000 in
set_option maxRecDepth 100000 in
theorem nodalMeans_any (n : ByteArray) (a b : Int) (w : World) (ha : I64 a) (hb : I64 b) :
    Calls Try.prog 4 #[.string n, .int .i64 a, .int .i64 b] w fun e w' => e = .returned (.bool true) ∧ Below w.heap.size w w' := by
  obtain ⟨r, E, m1, m2⟩ := mean_both n a b ha hb
  have H1 := hid m1
  have H2 := hid m2
  have HN := hid ndNames_any
  have HR := hid nrNames_any
  have HS := hid (fun V => nsameFloat r V)
  clear m1 m2 ha hb
  go_enter Try.func4, Try.ntmps4
  go_wp2_with fail
  refine Calls.mono (H1.out _) ?_
  rintro e w1 ⟨rfl, hb1⟩
  go_wp2_with fail
  refine Calls.mono (H2.out _) ?_
  rintro e w2 ⟨rfl, hb2⟩
  go_wp2_with fail
  refine Calls.mono (HR.out _) ?_
  rintro e w3 ⟨rfl, hf3, hb3, hs3⟩
  have HS3 := hid hs3
  clear hs3
  go_wp2_with fail
  refine Calls.mono (HN.out _) ?_
  rintro e w4 ⟨rfl, hf4, hb4, hs4⟩
  have HS4 := hid hs4
  clear hs4
  go_wp2_with fail
  refine Calls.mono (HN.out _) ?_
  rintro e w5 ⟨rfl, hf5, hb5, hs5⟩
  have HS5 := hid hs5
  clear hs5
  have HW : Hid (FBox w5 w2.heap.size 9 ndA ∧ FBox w5 w3.heap.size 9 ndA ∧ FBox w5 w4.heap.size 9 ndA ∧ Below w.heap.size w w5) := ⟨hf3.later (b2 hb4 hb5) hf3.lt, hf4.later hb5 hf4.lt, hf5, b2 hb1 (b2 hb2 (b2 hb3 (b2 hb4 hb5)))⟩
  have HL : Hid (w.heap.size ≤ w2.heap.size ∧ w2.heap.size < w3.heap.size ∧ w3.heap.size < w4.heap.size ∧ w4.heap.size < w5.heap.size) := by
    have h1 := Nat.le_trans hb1.size hb2.size
    have h2 := HS3.out
    have h3 := HS4.out
    have h4 := HS5.out
    exact ⟨h1, by omega, by omega, by omega⟩
  clear hf3 hb3 hf4 hb4 hf5 hb5 hb1 hb2 H1 H2 HS3 HS4 HS5 HR
  generalize w2.heap.size = g2 at *
  generalize w3.heap.size = g3 at *
  generalize w4.heap.size = g4 at *
  go_wp2_with fail
  refine Calls.mono (HS.out _) ?_
  rintro e w6 ⟨rfl, rfl⟩
  go_wp2_with fail
  go_loopw [14] (fun i wr => ∃ k : Nat, k ≤ 10 ∧ i = .int .i64 (k : Int) ∧ Hid (∃ cur : Array Value, cur.size = 10 ∧ FBox wr g2 9 ndA ∧ FBox wr g3 9 cur ∧ FBox wr g4 9 ndA ∧ Below w.heap.size w wr)) (fun i _ => 10 - (intOf i).toNat)
  case atStart => exact ⟨0, by decide, rfl, ⟨ndA, rfl, HW.out.1, HW.out.2.1, HW.out.2.2.1, HW.out.2.2.2⟩⟩
  case round =>
    obtain ⟨k, hk, rfl, HC⟩ := hrel
    by_cases hlt : k < 10
    · obtain ⟨cur, hc, k1, k2, k3, k4⟩ := HC.out
      have c0 : wr.cell? ⟨g3, k, none⟩ = some cur[k] := by rw [k2.cell k]; simp [hc, hlt]
      have c1 := k2.free k
      have h1 : (k : Int) < 10 := by omega
      have hl := HL.out
      have HE : Hid (∃ cur : Array Value, cur.size = 10 ∧ FBox (wr.setCell ⟨g3, k, none⟩ (.string { data := #[111, 118, 101, 114] })) g2 9 ndA ∧ FBox (wr.setCell ⟨g3, k, none⟩ (.string { data := #[111, 118, 101, 114] })) g3 9 cur ∧ FBox (wr.setCell ⟨g3, k, none⟩ (.string { data := #[111, 118, 101, 114] })) g4 9 ndA ∧ Below w.heap.size w (wr.setCell ⟨g3, k, none⟩ (.string { data := #[111, 118, 101, 114] }))) :=
        ⟨_, by rw [Array.size_setIfInBounds]; exact hc, k1.other _ _ (by show g2 ≠ g3; omega), k2.set k _, k3.other _ _ (by show g4 ≠ g3; omega), k4.setCell (p := ⟨g3, k, none⟩) (show w.heap.size ≤ g3 by omega) _⟩
      clear k1 k2 k3 k4 HC HW hl
      go_wp2_with fail
      refine ⟨⟨k + 1, by omega, by go_num, HE⟩, by simp [intOf]; omega⟩
    · obtain rfl : k = 10 := by omega
      obtain ⟨cur, hc, k1, k2, k3, k4⟩ := HC.out
      have HW2 : Hid (FBox wr g2 9 ndA ∧ FBox wr g4 9 ndA ∧ Below w.heap.size w wr) := ⟨k1, k3, k4⟩
      clear k1 k2 k3 k4 HC HW
      go_wp2_with fail
      refine Calls.mono (HN.out _) ?_
      rintro e w7 ⟨rfl, hf7, hb7, -⟩
      have HV : Hid (FBox w7 g2 9 ndA ∧ FBox w7 g4 9 ndA ∧ FBox w7 wr.heap.size 9 ndA ∧ Below w.heap.size w w7) := ⟨HW2.out.1.later hb7 HW2.out.1.lt, HW2.out.2.1.later hb7 HW2.out.2.1.lt, hf7, b2 HW2.out.2.2 hb7⟩
      clear hf7 hb7 HW2 HN
      generalize wr.heap.size = g5 at *
      go_wp2_with fail
      go_loopw [16] (fun i wr => ∃ k : Nat, k ≤ 10 ∧ i = .int .i64 (k : Int) ∧ Hid (FBox wr g2 9 ndA ∧ FBox wr g4 9 ndA ∧ FBox wr g5 9 ndA ∧ Below w.heap.size w wr)) (fun i _ => 10 - (intOf i).toNat)
      case atStart => exact ⟨0, by decide, rfl, HV⟩
      case round =>
        obtain ⟨k, hk, rfl, HC⟩ := hrel
        by_cases hlt : k < 10
        · have c0 : wr.cell? ⟨g2, k, none⟩ = some (.string (ndN k)) := (HC.out.1.cell k).trans (ndA_at hlt)
          have c1 : wr.cell? ⟨g4, k, none⟩ = some (.string (ndN k)) := (HC.out.2.1.cell k).trans (ndA_at hlt)
          have c2 : wr.cell? ⟨g5, k, none⟩ = some (.string (ndN k)) := (HC.out.2.2.1.cell k).trans (ndA_at hlt)
          have h1 : (k : Int) < 10 := by omega
          generalize ndN k = nk at *
          have h2 : (nk.toList == nk.toList) = true := by simp
          go_wp2_with fail
          go_quiet (fail)
          go_wp2_with fail
          refine ⟨⟨k + 1, by omega, by go_num, ⟨HC.out.1.drewN _, HC.out.2.1.drewN _, HC.out.2.2.1.drewN _, bdrewN HC.out.2.2.2 _⟩⟩, by simp [intOf]; omega⟩
        · obtain rfl : k = 10 := by omega
          go_wp2_with fail
          go_ret
          exact ⟨rfl, HC.out.2.2.2⟩
end Go.Proofs.Ytodihhokodnmkaa

