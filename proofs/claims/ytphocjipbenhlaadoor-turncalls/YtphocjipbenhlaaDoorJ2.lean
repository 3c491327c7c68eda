/- My texts on the way to TurnCalls, one behind the other: contracts of the program and of the document's answers. -/
import Derived.Test.YtphocjipbenhlaaDoorJ1
/- The law TurnCalls answers true, and writes nothing that was there: whatever two turns and whatever number come in, where the library's table of powers of ten stands as its text lays it. -/
namespace Go.Proofs.YtphocjipbenhlaaDoor
open Go.RowKit
set_option linter.unusedVariables false

theorem isnan_of_al {x y : Nat} (h : Al x y) : (FloatKind.f64.format.order x y == some .eq) = true ∨ (isnan x = true ∧ isnan y = true) := by
  rcases h with rfl | h
  · cases hx : isnan x
    · left; rw [order_refl hx]; rfl
    · right; exact ⟨rfl, rfl⟩
  · exact .inr h

set_option maxHeartbeats 800000 in
set_option maxRecDepth 100000 in
theorem sameFloat_al (x y : Nat) (w : World) (h : Al x y) :
    Calls Tryd.prog 44 #[.float .f64 x, .float .f64 y] w fun e w' => e = .returned (.bool true) ∧ w' = w := by
  rcases isnan_of_al h with h1 | ⟨h1, h2⟩
  · clear h
    go_enter Tryd.func44, Tryd.ntmps44
    go_wp2
    go_ret
    exact ⟨rfl, rfl⟩
  · have e1 := neq_self x
    have e2 := neq_self y
    have e3 := order_nan_l (y := y) h1
    rw [h1] at e1
    rw [h2] at e2
    clear h h1 h2
    go_enter Tryd.func44, Tryd.ntmps44
    go_wp2
    go_ret
    exact ⟨rfl, rfl⟩
set_option maxHeartbeats 800000 in
set_option maxRecDepth 100000 in
theorem sameNumber_al (a b c d : Nat) (w : World) (h : Al a c) (g : Al b d) :
    Calls Tryd.prog 19 #[.complex .f64 a b, .complex .f64 c d] w fun e w' => e = .returned (.bool true) ∧ w' = w := by
  have H1 := hid (sameFloat_al a c w h)
  have H2 := hid (sameFloat_al b d w g)
  clear h g
  go_enter Tryd.func19, Tryd.ntmps19
  go_wp2_with fail
  refine Calls.mono H1.out ?_
  rintro e w1 ⟨rfl, rfl⟩
  go_wp2_with fail
  refine Calls.mono H2.out ?_
  rintro e w2 ⟨rfl, rfl⟩
  go_wp2_with fail
  go_ret
  exact ⟨rfl, rfl⟩

theorem isnan_fneg (x : Nat) : isnan (fneg x) = isnan x := by
  have e : (x ^^^ 2 ^ 63) % 2 ^ 63 = x % 2 ^ 63 := by
    rw [Nat.xor_mod_two_pow, Nat.mod_self, Nat.xor_zero]
  show decide (9218868437227405312 < (x ^^^ 2 ^ 63) % 2 ^ 63) = decide (9218868437227405312 < x % 2 ^ 63)
  rw [e]
theorem fneg_al {x y : Nat} (h : Al x y) : Al (fneg x) (fneg y) := by
  rcases h with rfl | ⟨h, g⟩
  · exact .refl _
  · right; exact ⟨by rw [isnan_fneg]; exact h, by rw [isnan_fneg]; exact g⟩
theorem nz_al {x y : Nat} (h : Al x y) : Al (nz x) (nz y) := by
  rcases h with rfl | ⟨h, g⟩
  · exact .refl _
  · right
    unfold nz
    rw [order_nan_l h, order_nan_l g]
    exact ⟨h, g⟩
theorem plV_al {k a b a' b' : Nat} (h : Al a a') (g : Al b b') : Al (plV k a b).1 (plV k a' b').1 ∧ Al (plV k a b).2 (plV k a' b').2 := by
  unfold plV
  split
  · exact ⟨h, g⟩
  · split
    · exact ⟨fneg_al g, h⟩
    · split
      · exact ⟨fneg_al h, fneg_al g⟩
      · exact ⟨fneg_al (fneg_al g), fneg_al h⟩
theorem octV_al {k a b a' b' : Nat} (h : Al a a') (g : Al b b') : Al (octV k a b).1 (octV k a' b').1 ∧ Al (octV k a b).2 (octV k a' b').2 := by
  unfold octV
  split
  · exact plV_al g h
  · exact plV_al h g
theorem RootR.al {p q re im re' im' : Nat} (h : RootR p q re im) (h' : RootR p q re' im') : Al re re' ∧ Al im im' := by
  obtain ⟨f, y, c, s, h1, h2, h3, h4, h5, h6⟩ := h
  obtain ⟨f', y', c', s', h1', h2', h3', h4', h5', h6'⟩ := h'
  have af := h1.al h1' (.refl _) (.refl _)
  have ay := h2.al h2' af (.refl _)
  have ac := h3.al h3' ay
  have as' := h4.al h4' ay
  have o := octV_al (k := 8 * p / q) ac as'
  rw [h5, h6, h5', h6']
  exact ⟨nz_al o.1, nz_al o.2⟩

set_option maxHeartbeats 6400000 in
set_option maxRecDepth 100000 in
theorem turnCalls_ok (p q r s n x1 x2 x3 s1 s2 s3 n1 n2 n3 t1 t2 t3 c1 c2 k : Int) (S : ByteArray) (pe : Int) (w : World) (h1 : in64 p q) (h2 : in64 r s) (m0 : -2147483648 ≤ n) (m1 : n ≤ 2147483647) (htab : TabT w)
    (hX : addR p q r s = (x1, x2, x3)) (hS : subR p q r s = (s1, s2, s3)) (hN : negR p q = (n1, n2, n3)) (hT : timesR p q n = (t1, t2, t3)) (hC : cmpR p q r s = (c1, c2)) (hK : chk p q = k) (hP : pV (printR p q) = .tuple #[.string S, .int .i64 pe]) (ho : okI p q) :
    Calls Tryd.prog 3 #[.agg #[.int .i64 p, .int .i64 q], .agg #[.int .i64 r, .int .i64 s], .int .i32 n] w fun e w' => e = .returned (.bool true) ∧ Below w.heap.size w w' := by
  have HX := hid (boxes2 w 23 #[.int .i64 p, .int .i64 q] #[.int .i64 r, .int .i64 s])
  have HLV := hid tlives_any
  have HA1 := hid (fun V => tadd_any p q r s V h1 h2)
  have HA2 := hid (fun V => dadd_any p q r s V h1 h2)
  rw [hX, show tV (x1, x2, x3) = Value.tuple #[.agg #[.int .i64 x1, .int .i64 x2], .int .i64 x3] from rfl] at HA1 HA2
  have HS1 := hid (fun V => tsub_any p q r s V h1 h2)
  have HS2 := hid (fun V => dsub_any p q r s V h1 h2)
  rw [hS, show tV (s1, s2, s3) = Value.tuple #[.agg #[.int .i64 s1, .int .i64 s2], .int .i64 s3] from rfl] at HS1 HS2
  have HN1 := hid (fun V => tneg_any p q V h1)
  have HN2 := hid (fun V => dneg_any p q V h1)
  rw [hN, show tV (n1, n2, n3) = Value.tuple #[.agg #[.int .i64 n1, .int .i64 n2], .int .i64 n3] from rfl] at HN1 HN2
  have HT1 := hid (fun V => ttimes_any p q n V h1 m0 m1)
  have HT2 := hid (fun V => dtimes_any p q n V h1 m0 m1)
  rw [hT, show tV (t1, t2, t3) = Value.tuple #[.agg #[.int .i64 t1, .int .i64 t2], .int .i64 t3] from rfl] at HT1 HT2
  have HC1 := hid (fun V => tcompare_any p q r s V h1 h2)
  have HC2 := hid (fun V => dcompare_any p q r s V h1 h2)
  rw [hC, show cV (c1, c2) = Value.tuple #[.int .i64 c1, .int .i64 c2] from rfl] at HC1 HC2
  have HK1 := hid (fun V => tcheck_any p q V h1.1.1 h1.1.2 h1.2.1 h1.2.2)
  have HK2 := hid (fun V => dcheck_any p q V h1.1.1 h1.1.2 h1.2.1 h1.2.2)
  rw [hK] at HK1 HK2
  have HP1 : Hid (∀ V, Below w.heap.size w V → Calls Tryd.prog 17 #[.agg #[.int .i64 p, .int .i64 q]] V fun e w' => e = .returned (pV (printR p q)) ∧ Below V.heap.size V w') := fun V hv => tprint_any p q V h1 (htab.later hv)
  have HP2 := hid (fun V => dprint_any p q V h1)
  rw [hP] at HP1 HP2
  obtain ⟨o1, o2, o3, o4, o5⟩ := id ho
  have HR1 : Hid (∀ V, Calls Tryd.prog 15 #[.agg #[.int .i64 p, .int .i64 q]] V fun e w' => ∃ re im, e = .returned (.tuple #[.complex .f64 re im, .int .i64 0]) ∧ RootR p.toNat q.toNat re im ∧ Below V.heap.size V w') := fun V => by
    obtain ⟨a, rfl⟩ := Int.eq_ofNat_of_zero_le o3
    obtain ⟨b, rfl⟩ := Int.eq_ofNat_of_zero_le (show 0 ≤ q by omega)
    exact troot_ok a b V (by omega) (by omega) (by simpa using o5)
  have HR2 : Hid (∀ V, Calls Tryd.prog 16 #[.agg #[.int .i64 p, .int .i64 q]] V fun e w' => ∃ re im, e = .returned (.tuple #[.complex .f64 re im, .int .i64 0]) ∧ RootR p.toNat q.toNat re im ∧ Below V.heap.size V w') := fun V => by
    obtain ⟨a, rfl⟩ := Int.eq_ofNat_of_zero_le o3
    obtain ⟨b, rfl⟩ := Int.eq_ofNat_of_zero_le (show 0 ≤ q by omega)
    exact droot_ok a b V (by omega) (by omega) (by simpa using o5)
  clear o1 o2 o3 o4 o5
  have HBa := hid HX.out.1
  have HBb := hid HX.out.2.1
  have HB := hid HX.out.2.2
  clear h1 h2 hX hS hN hT hC hK hP ho HX htab
  go_enter Tryd.func3, Tryd.ntmps3
  go_wp2_with fail
  generalize (w.alloc (.cells #[.int .i64 p, .int .i64 q] 23)).alloc (.cells #[.int .i64 r, .int .i64 s] 23) = X at *
  refine Calls.mono (HA1.out _) ?_
  rintro e w1 ⟨rfl, hb⟩
  replace HBa := hid (HBa.out.later hb HBa.out.lt)
  replace HBb := hid (HBb.out.later hb HBb.out.lt)
  replace HB := hid (b2 HB.out hb)
  clear hb
  have NEax : Hid (w.heap.size ≠ w1.heap.size ∧ w.heap.size ≤ w1.heap.size) := ⟨by have := HBa.out.lt; omega, by have := HBa.out.lt; omega⟩
  have NEbx : Hid (w.heap.size + 1 ≠ w1.heap.size ∧ w.heap.size + 1 ≤ w1.heap.size) := ⟨by have := HBb.out.lt; omega, by have := HBb.out.lt; omega⟩
  have HN := hid (boxes1 w1 23 #[.int .i64 x1, .int .i64 x2])
  obtain ⟨w2, hW⟩ : ∃ w2, w1.alloc (.cells #[.int .i64 x1, .int .i64 x2] 23) = w2 := ⟨_, rfl⟩
  rw [hW] at HN
  replace HBa := hid (HBa.out.later HN.out.2 HBa.out.lt)
  replace HBb := hid (HBb.out.later HN.out.2 HBb.out.lt)
  replace HB := hid (b2 HB.out HN.out.2)
  have HBx := hid HN.out.1
  clear HN
  obtain ⟨ca0, ca1, fa0, fa1⟩ := fbox_facts HBa.out (Below.refl _ _)
  obtain ⟨cb0, cb1, fb0, fb1⟩ := fbox_facts HBb.out (Below.refl _ _)
  go_wp2_with fail
  clear hW
  refine Calls.mono (HA2.out _) ?_
  rintro e w3 ⟨rfl, hb⟩
  replace HBa := hid (HBa.out.later hb HBa.out.lt)
  replace HBb := hid (HBb.out.later hb HBb.out.lt)
  replace HBx := hid (HBx.out.later hb HBx.out.lt)
  replace HB := hid (b2 HB.out hb)
  clear hb
  clear ca0 ca1 fa0 fa1
  clear cb0 cb1 fb0 fb1
  have NEay : Hid (w.heap.size ≠ w3.heap.size ∧ w.heap.size ≤ w3.heap.size) := ⟨by have := HBa.out.lt; omega, by have := HBa.out.lt; omega⟩
  have NEby : Hid (w.heap.size + 1 ≠ w3.heap.size ∧ w.heap.size + 1 ≤ w3.heap.size) := ⟨by have := HBb.out.lt; omega, by have := HBb.out.lt; omega⟩
  have NExy : Hid (w1.heap.size ≠ w3.heap.size ∧ w1.heap.size ≤ w3.heap.size) := ⟨by have := HBx.out.lt; omega, by have := HBx.out.lt; omega⟩
  have HN := hid (boxes1 w3 23 #[.int .i64 x1, .int .i64 x2])
  obtain ⟨w4, hW⟩ : ∃ w4, w3.alloc (.cells #[.int .i64 x1, .int .i64 x2] 23) = w4 := ⟨_, rfl⟩
  rw [hW] at HN
  replace HBa := hid (HBa.out.later HN.out.2 HBa.out.lt)
  replace HBb := hid (HBb.out.later HN.out.2 HBb.out.lt)
  replace HBx := hid (HBx.out.later HN.out.2 HBx.out.lt)
  replace HB := hid (b2 HB.out HN.out.2)
  have HBy := hid HN.out.1
  clear HN
  obtain ⟨ca0, ca1, fa0, fa1⟩ := fbox_facts HBa.out (Below.refl _ _)
  obtain ⟨cb0, cb1, fb0, fb1⟩ := fbox_facts HBb.out (Below.refl _ _)
  go_wp2_with fail
  clear hW
  refine Calls.mono (HS1.out _) ?_
  rintro e w5 ⟨rfl, hb⟩
  replace HBa := hid (HBa.out.later hb HBa.out.lt)
  replace HBb := hid (HBb.out.later hb HBb.out.lt)
  replace HBx := hid (HBx.out.later hb HBx.out.lt)
  replace HBy := hid (HBy.out.later hb HBy.out.lt)
  replace HB := hid (b2 HB.out hb)
  clear hb
  clear ca0 ca1 fa0 fa1
  clear cb0 cb1 fb0 fb1
  have NEaz : Hid (w.heap.size ≠ w5.heap.size ∧ w.heap.size ≤ w5.heap.size) := ⟨by have := HBa.out.lt; omega, by have := HBa.out.lt; omega⟩
  have NEbz : Hid (w.heap.size + 1 ≠ w5.heap.size ∧ w.heap.size + 1 ≤ w5.heap.size) := ⟨by have := HBb.out.lt; omega, by have := HBb.out.lt; omega⟩
  have NExz : Hid (w1.heap.size ≠ w5.heap.size ∧ w1.heap.size ≤ w5.heap.size) := ⟨by have := HBx.out.lt; omega, by have := HBx.out.lt; omega⟩
  have NEyz : Hid (w3.heap.size ≠ w5.heap.size ∧ w3.heap.size ≤ w5.heap.size) := ⟨by have := HBy.out.lt; omega, by have := HBy.out.lt; omega⟩
  have HN := hid (boxes1 w5 23 #[.int .i64 s1, .int .i64 s2])
  obtain ⟨w6, hW⟩ : ∃ w6, w5.alloc (.cells #[.int .i64 s1, .int .i64 s2] 23) = w6 := ⟨_, rfl⟩
  rw [hW] at HN
  replace HBa := hid (HBa.out.later HN.out.2 HBa.out.lt)
  replace HBb := hid (HBb.out.later HN.out.2 HBb.out.lt)
  replace HBx := hid (HBx.out.later HN.out.2 HBx.out.lt)
  replace HBy := hid (HBy.out.later HN.out.2 HBy.out.lt)
  replace HB := hid (b2 HB.out HN.out.2)
  have HBz := hid HN.out.1
  clear HN
  obtain ⟨ca0, ca1, fa0, fa1⟩ := fbox_facts HBa.out (Below.refl _ _)
  obtain ⟨cb0, cb1, fb0, fb1⟩ := fbox_facts HBb.out (Below.refl _ _)
  go_wp2_with fail
  clear hW
  refine Calls.mono (HS2.out _) ?_
  rintro e w7 ⟨rfl, hb⟩
  replace HBa := hid (HBa.out.later hb HBa.out.lt)
  replace HBb := hid (HBb.out.later hb HBb.out.lt)
  replace HBx := hid (HBx.out.later hb HBx.out.lt)
  replace HBy := hid (HBy.out.later hb HBy.out.lt)
  replace HBz := hid (HBz.out.later hb HBz.out.lt)
  replace HB := hid (b2 HB.out hb)
  clear hb
  clear ca0 ca1 fa0 fa1
  clear cb0 cb1 fb0 fb1
  have NEau : Hid (w.heap.size ≠ w7.heap.size ∧ w.heap.size ≤ w7.heap.size) := ⟨by have := HBa.out.lt; omega, by have := HBa.out.lt; omega⟩
  have NEbu : Hid (w.heap.size + 1 ≠ w7.heap.size ∧ w.heap.size + 1 ≤ w7.heap.size) := ⟨by have := HBb.out.lt; omega, by have := HBb.out.lt; omega⟩
  have NExu : Hid (w1.heap.size ≠ w7.heap.size ∧ w1.heap.size ≤ w7.heap.size) := ⟨by have := HBx.out.lt; omega, by have := HBx.out.lt; omega⟩
  have NEyu : Hid (w3.heap.size ≠ w7.heap.size ∧ w3.heap.size ≤ w7.heap.size) := ⟨by have := HBy.out.lt; omega, by have := HBy.out.lt; omega⟩
  have NEzu : Hid (w5.heap.size ≠ w7.heap.size ∧ w5.heap.size ≤ w7.heap.size) := ⟨by have := HBz.out.lt; omega, by have := HBz.out.lt; omega⟩
  have HN := hid (boxes1 w7 23 #[.int .i64 s1, .int .i64 s2])
  obtain ⟨w8, hW⟩ : ∃ w8, w7.alloc (.cells #[.int .i64 s1, .int .i64 s2] 23) = w8 := ⟨_, rfl⟩
  rw [hW] at HN
  replace HBa := hid (HBa.out.later HN.out.2 HBa.out.lt)
  replace HBb := hid (HBb.out.later HN.out.2 HBb.out.lt)
  replace HBx := hid (HBx.out.later HN.out.2 HBx.out.lt)
  replace HBy := hid (HBy.out.later HN.out.2 HBy.out.lt)
  replace HBz := hid (HBz.out.later HN.out.2 HBz.out.lt)
  replace HB := hid (b2 HB.out HN.out.2)
  have HBu := hid HN.out.1
  clear HN
  obtain ⟨cx0, cx1, fx0, fx1⟩ := fbox_facts HBx.out (Below.refl _ _)
  obtain ⟨cy0, cy1, fy0, fy1⟩ := fbox_facts HBy.out (Below.refl _ _)
  obtain ⟨cz0, cz1, fz0, fz1⟩ := fbox_facts HBz.out (Below.refl _ _)
  obtain ⟨cu0, cu1, fu0, fu1⟩ := fbox_facts HBu.out (Below.refl _ _)
  go_wp2_with fail
  clear hW
  refine Calls.mono (HLV.out _) ?_
  rintro e w9 ⟨rfl, hb⟩
  replace HBa := hid (HBa.out.later hb HBa.out.lt)
  replace HBb := hid (HBb.out.later hb HBb.out.lt)
  replace HBx := hid (HBx.out.later hb HBx.out.lt)
  replace HBy := hid (HBy.out.later hb HBy.out.lt)
  replace HBz := hid (HBz.out.later hb HBz.out.lt)
  replace HBu := hid (HBu.out.later hb HBu.out.lt)
  replace HB := hid (b2 HB.out hb)
  clear hb
  clear cx0 cx1 fx0 fx1
  clear cy0 cy1 fy0 fy1
  clear cz0 cz1 fz0 fz1
  clear cu0 cu1 fu0 fu1
  obtain ⟨cx0, cx1, fx0, fx1⟩ := fbox_facts HBx.out (Below.refl _ _)
  obtain ⟨cy0, cy1, fy0, fy1⟩ := fbox_facts HBy.out (Below.refl _ _)
  obtain ⟨cz0, cz1, fz0, fz1⟩ := fbox_facts HBz.out (Below.refl _ _)
  obtain ⟨cu0, cu1, fu0, fu1⟩ := fbox_facts HBu.out (Below.refl _ _)
  obtain ⟨ca0, ca1, fa0, fa1⟩ := fbox_facts HBa.out (Below.refl _ _)
  go_wp2_with fail
  refine Calls.mono (HN1.out _) ?_
  rintro e wa ⟨rfl, hb⟩
  replace HBa := hid (HBa.out.later hb HBa.out.lt)
  replace HBb := hid (HBb.out.later hb HBb.out.lt)
  replace HBx := hid (HBx.out.later hb HBx.out.lt)
  replace HBy := hid (HBy.out.later hb HBy.out.lt)
  replace HBz := hid (HBz.out.later hb HBz.out.lt)
  replace HBu := hid (HBu.out.later hb HBu.out.lt)
  replace HB := hid (b2 HB.out hb)
  clear hb
  clear cx0 cx1 fx0 fx1
  clear cy0 cy1 fy0 fy1
  clear cz0 cz1 fz0 fz1
  clear cu0 cu1 fu0 fu1
  clear ca0 ca1 fa0 fa1
  obtain ⟨cx0, cx1, fx0, fx1⟩ := fbox_facts HBx.out (Below.refl _ _)
  obtain ⟨wb, hW⟩ : ∃ wb, (wa.setCell ⟨w1.heap.size, 0, none⟩ (.int .i64 n1)).setCell ⟨w1.heap.size, 1, none⟩ (.int .i64 n2) = wb := ⟨_, rfl⟩
  have H2a : FBox wb (w.heap.size) 23 #[.int .i64 p, .int .i64 q] := by rw [← hW]; exact (HBa.out.other _ _ NEax.out.1).other _ _ NEax.out.1
  have H2b : FBox wb (w.heap.size + 1) 23 #[.int .i64 r, .int .i64 s] := by rw [← hW]; exact (HBb.out.other _ _ NEbx.out.1).other _ _ NEbx.out.1
  have H2y : FBox wb (w3.heap.size) 23 #[.int .i64 x1, .int .i64 x2] := by rw [← hW]; exact (HBy.out.other _ _ (Ne.symm NExy.out.1)).other _ _ (Ne.symm NExy.out.1)
  have H2z : FBox wb (w5.heap.size) 23 #[.int .i64 s1, .int .i64 s2] := by rw [← hW]; exact (HBz.out.other _ _ (Ne.symm NExz.out.1)).other _ _ (Ne.symm NExz.out.1)
  have H2u : FBox wb (w7.heap.size) 23 #[.int .i64 s1, .int .i64 s2] := by rw [← hW]; exact (HBu.out.other _ _ (Ne.symm NExu.out.1)).other _ _ (Ne.symm NExu.out.1)
  have H2x : FBox wb (w1.heap.size) 23 #[.int .i64 n1, .int .i64 n2] := by rw [← hW]; exact (HBx.out.set 0 (.int .i64 n1)).set 1 (.int .i64 n2)
  have H2B : Below w.heap.size w wb := by rw [← hW]; exact fput2 HB.out _ NEax.out.2 _ _
  replace HBa := hid H2a
  replace HBb := hid H2b
  replace HBx := hid H2x
  replace HBy := hid H2y
  replace HBz := hid H2z
  replace HBu := hid H2u
  replace HB := hid H2B
  clear H2a H2b H2x H2y H2z H2u H2B
  obtain ⟨ka0, ka1, ga0, ga1⟩ := fbox_facts HBa.out (Below.refl _ _)
  go_wp2_with fail
  clear hW cx0 cx1 fx0 fx1
  clear ka0 ka1 ga0 ga1
  refine Calls.mono (HN2.out _) ?_
  rintro e wc ⟨rfl, hb⟩
  replace HBa := hid (HBa.out.later hb HBa.out.lt)
  replace HBb := hid (HBb.out.later hb HBb.out.lt)
  replace HBx := hid (HBx.out.later hb HBx.out.lt)
  replace HBy := hid (HBy.out.later hb HBy.out.lt)
  replace HBz := hid (HBz.out.later hb HBz.out.lt)
  replace HBu := hid (HBu.out.later hb HBu.out.lt)
  replace HB := hid (b2 HB.out hb)
  clear hb
  obtain ⟨cy0, cy1, fy0, fy1⟩ := fbox_facts HBy.out (Below.refl _ _)
  obtain ⟨wd, hW⟩ : ∃ wd, (wc.setCell ⟨w3.heap.size, 0, none⟩ (.int .i64 n1)).setCell ⟨w3.heap.size, 1, none⟩ (.int .i64 n2) = wd := ⟨_, rfl⟩
  have H2a : FBox wd (w.heap.size) 23 #[.int .i64 p, .int .i64 q] := by rw [← hW]; exact (HBa.out.other _ _ NEay.out.1).other _ _ NEay.out.1
  have H2b : FBox wd (w.heap.size + 1) 23 #[.int .i64 r, .int .i64 s] := by rw [← hW]; exact (HBb.out.other _ _ NEby.out.1).other _ _ NEby.out.1
  have H2x : FBox wd (w1.heap.size) 23 #[.int .i64 n1, .int .i64 n2] := by rw [← hW]; exact (HBx.out.other _ _ NExy.out.1).other _ _ NExy.out.1
  have H2z : FBox wd (w5.heap.size) 23 #[.int .i64 s1, .int .i64 s2] := by rw [← hW]; exact (HBz.out.other _ _ (Ne.symm NEyz.out.1)).other _ _ (Ne.symm NEyz.out.1)
  have H2u : FBox wd (w7.heap.size) 23 #[.int .i64 s1, .int .i64 s2] := by rw [← hW]; exact (HBu.out.other _ _ (Ne.symm NEyu.out.1)).other _ _ (Ne.symm NEyu.out.1)
  have H2y : FBox wd (w3.heap.size) 23 #[.int .i64 n1, .int .i64 n2] := by rw [← hW]; exact (HBy.out.set 0 (.int .i64 n1)).set 1 (.int .i64 n2)
  have H2B : Below w.heap.size w wd := by rw [← hW]; exact fput2 HB.out _ NEay.out.2 _ _
  replace HBa := hid H2a
  replace HBb := hid H2b
  replace HBx := hid H2x
  replace HBy := hid H2y
  replace HBz := hid H2z
  replace HBu := hid H2u
  replace HB := hid H2B
  clear H2a H2b H2x H2y H2z H2u H2B
  obtain ⟨ka0, ka1, ga0, ga1⟩ := fbox_facts HBa.out (Below.refl _ _)
  go_wp2_with fail
  clear hW cy0 cy1 fy0 fy1
  clear ka0 ka1 ga0 ga1
  refine Calls.mono (HT1.out _) ?_
  rintro e we ⟨rfl, hb⟩
  replace HBa := hid (HBa.out.later hb HBa.out.lt)
  replace HBb := hid (HBb.out.later hb HBb.out.lt)
  replace HBx := hid (HBx.out.later hb HBx.out.lt)
  replace HBy := hid (HBy.out.later hb HBy.out.lt)
  replace HBz := hid (HBz.out.later hb HBz.out.lt)
  replace HBu := hid (HBu.out.later hb HBu.out.lt)
  replace HB := hid (b2 HB.out hb)
  clear hb
  obtain ⟨cz0, cz1, fz0, fz1⟩ := fbox_facts HBz.out (Below.refl _ _)
  obtain ⟨wf, hW⟩ : ∃ wf, (we.setCell ⟨w5.heap.size, 0, none⟩ (.int .i64 t1)).setCell ⟨w5.heap.size, 1, none⟩ (.int .i64 t2) = wf := ⟨_, rfl⟩
  have H2a : FBox wf (w.heap.size) 23 #[.int .i64 p, .int .i64 q] := by rw [← hW]; exact (HBa.out.other _ _ NEaz.out.1).other _ _ NEaz.out.1
  have H2b : FBox wf (w.heap.size + 1) 23 #[.int .i64 r, .int .i64 s] := by rw [← hW]; exact (HBb.out.other _ _ NEbz.out.1).other _ _ NEbz.out.1
  have H2x : FBox wf (w1.heap.size) 23 #[.int .i64 n1, .int .i64 n2] := by rw [← hW]; exact (HBx.out.other _ _ NExz.out.1).other _ _ NExz.out.1
  have H2y : FBox wf (w3.heap.size) 23 #[.int .i64 n1, .int .i64 n2] := by rw [← hW]; exact (HBy.out.other _ _ NEyz.out.1).other _ _ NEyz.out.1
  have H2u : FBox wf (w7.heap.size) 23 #[.int .i64 s1, .int .i64 s2] := by rw [← hW]; exact (HBu.out.other _ _ (Ne.symm NEzu.out.1)).other _ _ (Ne.symm NEzu.out.1)
  have H2z : FBox wf (w5.heap.size) 23 #[.int .i64 t1, .int .i64 t2] := by rw [← hW]; exact (HBz.out.set 0 (.int .i64 t1)).set 1 (.int .i64 t2)
  have H2B : Below w.heap.size w wf := by rw [← hW]; exact fput2 HB.out _ NEaz.out.2 _ _
  replace HBa := hid H2a
  replace HBb := hid H2b
  replace HBx := hid H2x
  replace HBy := hid H2y
  replace HBz := hid H2z
  replace HBu := hid H2u
  replace HB := hid H2B
  clear H2a H2b H2x H2y H2z H2u H2B
  obtain ⟨ka0, ka1, ga0, ga1⟩ := fbox_facts HBa.out (Below.refl _ _)
  go_wp2_with fail
  clear hW cz0 cz1 fz0 fz1
  clear ka0 ka1 ga0 ga1
  refine Calls.mono (HT2.out _) ?_
  rintro e wg ⟨rfl, hb⟩
  replace HBa := hid (HBa.out.later hb HBa.out.lt)
  replace HBb := hid (HBb.out.later hb HBb.out.lt)
  replace HBx := hid (HBx.out.later hb HBx.out.lt)
  replace HBy := hid (HBy.out.later hb HBy.out.lt)
  replace HBz := hid (HBz.out.later hb HBz.out.lt)
  replace HBu := hid (HBu.out.later hb HBu.out.lt)
  replace HB := hid (b2 HB.out hb)
  clear hb
  obtain ⟨cu0, cu1, fu0, fu1⟩ := fbox_facts HBu.out (Below.refl _ _)
  obtain ⟨wh, hW⟩ : ∃ wh, (wg.setCell ⟨w7.heap.size, 0, none⟩ (.int .i64 t1)).setCell ⟨w7.heap.size, 1, none⟩ (.int .i64 t2) = wh := ⟨_, rfl⟩
  have H2a : FBox wh (w.heap.size) 23 #[.int .i64 p, .int .i64 q] := by rw [← hW]; exact (HBa.out.other _ _ NEau.out.1).other _ _ NEau.out.1
  have H2b : FBox wh (w.heap.size + 1) 23 #[.int .i64 r, .int .i64 s] := by rw [← hW]; exact (HBb.out.other _ _ NEbu.out.1).other _ _ NEbu.out.1
  have H2x : FBox wh (w1.heap.size) 23 #[.int .i64 n1, .int .i64 n2] := by rw [← hW]; exact (HBx.out.other _ _ NExu.out.1).other _ _ NExu.out.1
  have H2y : FBox wh (w3.heap.size) 23 #[.int .i64 n1, .int .i64 n2] := by rw [← hW]; exact (HBy.out.other _ _ NEyu.out.1).other _ _ NEyu.out.1
  have H2z : FBox wh (w5.heap.size) 23 #[.int .i64 t1, .int .i64 t2] := by rw [← hW]; exact (HBz.out.other _ _ NEzu.out.1).other _ _ NEzu.out.1
  have H2u : FBox wh (w7.heap.size) 23 #[.int .i64 t1, .int .i64 t2] := by rw [← hW]; exact (HBu.out.set 0 (.int .i64 t1)).set 1 (.int .i64 t2)
  have H2B : Below w.heap.size w wh := by rw [← hW]; exact fput2 HB.out _ NEau.out.2 _ _
  replace HBa := hid H2a
  replace HBb := hid H2b
  replace HBx := hid H2x
  replace HBy := hid H2y
  replace HBz := hid H2z
  replace HBu := hid H2u
  replace HB := hid H2B
  clear H2a H2b H2x H2y H2z H2u H2B
  obtain ⟨ka0, ka1, ga0, ga1⟩ := fbox_facts HBa.out (Below.refl _ _)
  obtain ⟨kb0, kb1, gb0, gb1⟩ := fbox_facts HBb.out (Below.refl _ _)
  go_wp2_with fail
  clear hW cu0 cu1 fu0 fu1
  clear ka0 ka1 ga0 ga1 kb0 kb1 gb0 gb1
  refine Calls.mono (HC1.out _) ?_
  rintro e wi ⟨rfl, hb⟩
  replace HBa := hid (HBa.out.later hb HBa.out.lt)
  replace HBb := hid (HBb.out.later hb HBb.out.lt)
  replace HBx := hid (HBx.out.later hb HBx.out.lt)
  replace HBy := hid (HBy.out.later hb HBy.out.lt)
  replace HBz := hid (HBz.out.later hb HBz.out.lt)
  replace HBu := hid (HBu.out.later hb HBu.out.lt)
  replace HB := hid (b2 HB.out hb)
  clear hb
  obtain ⟨ca0, ca1, fa0, fa1⟩ := fbox_facts HBa.out (Below.refl _ _)
  obtain ⟨cb0, cb1, fb0, fb1⟩ := fbox_facts HBb.out (Below.refl _ _)
  go_wp2_with fail
  refine Calls.mono (HC2.out _) ?_
  rintro e wj ⟨rfl, hb⟩
  replace HBa := hid (HBa.out.later hb HBa.out.lt)
  replace HBb := hid (HBb.out.later hb HBb.out.lt)
  replace HBx := hid (HBx.out.later hb HBx.out.lt)
  replace HBy := hid (HBy.out.later hb HBy.out.lt)
  replace HBz := hid (HBz.out.later hb HBz.out.lt)
  replace HBu := hid (HBu.out.later hb HBu.out.lt)
  replace HB := hid (b2 HB.out hb)
  clear hb
  clear ca0 ca1 fa0 fa1
  clear cb0 cb1 fb0 fb1
  obtain ⟨cx0, cx1, fx0, fx1⟩ := fbox_facts HBx.out (Below.refl _ _)
  obtain ⟨cy0, cy1, fy0, fy1⟩ := fbox_facts HBy.out (Below.refl _ _)
  obtain ⟨cz0, cz1, fz0, fz1⟩ := fbox_facts HBz.out (Below.refl _ _)
  obtain ⟨cu0, cu1, fu0, fu1⟩ := fbox_facts HBu.out (Below.refl _ _)
  obtain ⟨ca0, ca1, fa0, fa1⟩ := fbox_facts HBa.out (Below.refl _ _)
  go_wp2_with fail
  refine Calls.mono (HR1.out _) ?_
  rintro e wk ⟨re, im, rfl, hr1, hb⟩
  replace HBa := hid (HBa.out.later hb HBa.out.lt)
  replace HBb := hid (HBb.out.later hb HBb.out.lt)
  replace HBx := hid (HBx.out.later hb HBx.out.lt)
  replace HBy := hid (HBy.out.later hb HBy.out.lt)
  replace HBz := hid (HBz.out.later hb HBz.out.lt)
  replace HBu := hid (HBu.out.later hb HBu.out.lt)
  replace HB := hid (b2 HB.out hb)
  clear hb
  clear cx0 cx1 fx0 fx1
  clear cy0 cy1 fy0 fy1
  clear cz0 cz1 fz0 fz1
  clear cu0 cu1 fu0 fu1
  clear ca0 ca1 fa0 fa1
  obtain ⟨ca0, ca1, fa0, fa1⟩ := fbox_facts HBa.out (Below.refl _ _)
  go_wp2_with fail
  refine Calls.mono (HR2.out _) ?_
  rintro e wl ⟨re2, im2, rfl, hr2, hb⟩
  have HAL := hid (hr1.al hr2)
  clear hr1 hr2
  replace HBa := hid (HBa.out.later hb HBa.out.lt)
  replace HBb := hid (HBb.out.later hb HBb.out.lt)
  replace HBx := hid (HBx.out.later hb HBx.out.lt)
  replace HBy := hid (HBy.out.later hb HBy.out.lt)
  replace HBz := hid (HBz.out.later hb HBz.out.lt)
  replace HBu := hid (HBu.out.later hb HBu.out.lt)
  replace HB := hid (b2 HB.out hb)
  clear hb
  clear ca0 ca1 fa0 fa1
  obtain ⟨ca0, ca1, fa0, fa1⟩ := fbox_facts HBa.out (Below.refl _ _)
  go_wp2_with fail
  refine Calls.mono (HP1.out _ HB.out) ?_
  rintro e wm ⟨rfl, hb⟩
  replace HBa := hid (HBa.out.later hb HBa.out.lt)
  replace HBb := hid (HBb.out.later hb HBb.out.lt)
  replace HBx := hid (HBx.out.later hb HBx.out.lt)
  replace HBy := hid (HBy.out.later hb HBy.out.lt)
  replace HBz := hid (HBz.out.later hb HBz.out.lt)
  replace HBu := hid (HBu.out.later hb HBu.out.lt)
  replace HB := hid (b2 HB.out hb)
  clear hb
  clear ca0 ca1 fa0 fa1
  obtain ⟨ca0, ca1, fa0, fa1⟩ := fbox_facts HBa.out (Below.refl _ _)
  go_wp2_with fail
  refine Calls.mono (HP2.out _) ?_
  rintro e wn ⟨rfl, hb⟩
  replace HBa := hid (HBa.out.later hb HBa.out.lt)
  replace HBb := hid (HBb.out.later hb HBb.out.lt)
  replace HBx := hid (HBx.out.later hb HBx.out.lt)
  replace HBy := hid (HBy.out.later hb HBy.out.lt)
  replace HBz := hid (HBz.out.later hb HBz.out.lt)
  replace HBu := hid (HBu.out.later hb HBu.out.lt)
  replace HB := hid (b2 HB.out hb)
  clear hb
  clear ca0 ca1 fa0 fa1
  obtain ⟨ca0, ca1, fa0, fa1⟩ := fbox_facts HBa.out (Below.refl _ _)
  go_wp2_with fail
  clear ca0 ca1 fa0 fa1
  have HF : Hid (∀ V, Below wn.heap.size wn V → V.cell? ⟨w.heap.size, 0, none⟩ = some (.int .i64 p) ∧ V.cell? ⟨w.heap.size, 1, none⟩ = some (.int .i64 q)) := fun V hv => by
    obtain ⟨c0, c1, _, _⟩ := fbox_facts HBa.out hv
    exact ⟨c0, c1⟩
  have hs0 := HF.out _ (Below.refl _ wn).drew
  have hd0 := hid (Below.refl wn.heap.size wn).drew
  have HSN := hid (fun V => sameNumber_al _ _ _ _ V HAL.out.1 HAL.out.2)
  have H1 : Hid (∀ ww, Below wn.heap.size wn ww → Calls Tryd.prog 20 #[.agg #[.int .i64 p, .int .i64 q]] ww fun e w' => e = .returned (.int .i64 k) ∧ (w'.cell? ⟨w.heap.size, 0, none⟩ = some (.int .i64 p) ∧ w'.cell? ⟨w.heap.size, 1, none⟩ = some (.int .i64 q)) ∧ Below wn.heap.size wn w') := fun ww hv => by
    refine Calls.mono (HK1.out ww) ?_
    rintro e w' ⟨rfl, h⟩
    exact ⟨rfl, HF.out _ (b2 hv h), b2 hv h⟩
  have H2 : Hid (∀ ww, Below wn.heap.size wn ww → Calls Tryd.prog 21 #[.agg #[.int .i64 p, .int .i64 q]] ww fun e w' => e = .returned (.int .i64 k) ∧ (w'.cell? ⟨w.heap.size, 0, none⟩ = some (.int .i64 p) ∧ w'.cell? ⟨w.heap.size, 1, none⟩ = some (.int .i64 q)) ∧ Below wn.heap.size wn w') := fun ww hv => by
    refine Calls.mono (HK2.out ww) ?_
    rintro e w' ⟨rfl, h⟩
    exact ⟨rfl, HF.out _ (b2 hv h), b2 hv h⟩
  clear HF HK1 HK2
  go_region_held3 (fun V : World => V.cell? ⟨w.heap.size, 0, none⟩ = some (.int .i64 p) ∧ V.cell? ⟨w.heap.size, 1, none⟩ = some (.int .i64 q)) (first | exact hs2 | exact hs1 | exact hs0)
    (first
      | (go_at_call 19; with_reducible refine Calls.mono (HSN.out _) ?_; rintro e w' ⟨rfl, hw'⟩; subst hw')
      | (go_at_call 21; with_reducible refine Calls.mono (H2.out _ hb2) ?_; rintro e wp ⟨rfl, hs2, hb3⟩)
      | (go_at_call 20; with_reducible refine Calls.mono (H1.out _ hd0.out) ?_; rintro e wo ⟨rfl, hs1, hb2⟩))
  all_goals
    have HBE := hid (b2 HB.out hb3)
    clear hs0 hs1 hs2 hb2 hb3 H1 H2 hd0 HSN
    go_wp2_with fail
    go_ret
    exact ⟨rfl, HBE.out⟩

set_option maxHeartbeats 6400000 in
set_option maxRecDepth 100000 in
theorem turnCalls_err (p q r s n x1 x2 x3 s1 s2 s3 n1 n2 n3 t1 t2 t3 c1 c2 k : Int) (S : ByteArray) (pe : Int) (w : World) (h1 : in64 p q) (h2 : in64 r s) (m0 : -2147483648 ≤ n) (m1 : n ≤ 2147483647) (htab : TabT w)
    (hX : addR p q r s = (x1, x2, x3)) (hS : subR p q r s = (s1, s2, s3)) (hN : negR p q = (n1, n2, n3)) (hT : timesR p q n = (t1, t2, t3)) (hC : cmpR p q r s = (c1, c2)) (hK : chk p q = k) (hP : pV (printR p q) = .tuple #[.string S, .int .i64 pe]) (ho : ¬ okI p q) :
    Calls Tryd.prog 3 #[.agg #[.int .i64 p, .int .i64 q], .agg #[.int .i64 r, .int .i64 s], .int .i32 n] w fun e w' => e = .returned (.bool true) ∧ Below w.heap.size w w' := by
  have HX := hid (boxes2 w 23 #[.int .i64 p, .int .i64 q] #[.int .i64 r, .int .i64 s])
  have HLV := hid tlives_any
  have HA1 := hid (fun V => tadd_any p q r s V h1 h2)
  have HA2 := hid (fun V => dadd_any p q r s V h1 h2)
  rw [hX, show tV (x1, x2, x3) = Value.tuple #[.agg #[.int .i64 x1, .int .i64 x2], .int .i64 x3] from rfl] at HA1 HA2
  have HS1 := hid (fun V => tsub_any p q r s V h1 h2)
  have HS2 := hid (fun V => dsub_any p q r s V h1 h2)
  rw [hS, show tV (s1, s2, s3) = Value.tuple #[.agg #[.int .i64 s1, .int .i64 s2], .int .i64 s3] from rfl] at HS1 HS2
  have HN1 := hid (fun V => tneg_any p q V h1)
  have HN2 := hid (fun V => dneg_any p q V h1)
  rw [hN, show tV (n1, n2, n3) = Value.tuple #[.agg #[.int .i64 n1, .int .i64 n2], .int .i64 n3] from rfl] at HN1 HN2
  have HT1 := hid (fun V => ttimes_any p q n V h1 m0 m1)
  have HT2 := hid (fun V => dtimes_any p q n V h1 m0 m1)
  rw [hT, show tV (t1, t2, t3) = Value.tuple #[.agg #[.int .i64 t1, .int .i64 t2], .int .i64 t3] from rfl] at HT1 HT2
  have HC1 := hid (fun V => tcompare_any p q r s V h1 h2)
  have HC2 := hid (fun V => dcompare_any p q r s V h1 h2)
  rw [hC, show cV (c1, c2) = Value.tuple #[.int .i64 c1, .int .i64 c2] from rfl] at HC1 HC2
  have HK1 := hid (fun V => tcheck_any p q V h1.1.1 h1.1.2 h1.2.1 h1.2.2)
  have HK2 := hid (fun V => dcheck_any p q V h1.1.1 h1.1.2 h1.2.1 h1.2.2)
  rw [hK] at HK1 HK2
  have HP1 : Hid (∀ V, Below w.heap.size w V → Calls Tryd.prog 17 #[.agg #[.int .i64 p, .int .i64 q]] V fun e w' => e = .returned (pV (printR p q)) ∧ Below V.heap.size V w') := fun V hv => tprint_any p q V h1 (htab.later hv)
  have HP2 := hid (fun V => dprint_any p q V h1)
  rw [hP] at HP1 HP2
  have HR1 := hid (fun V => troot_err p q V h1 ho)
  have HR2 := hid (fun V => droot_err p q V h1 ho)
  have HBa := hid HX.out.1
  have HBb := hid HX.out.2.1
  have HB := hid HX.out.2.2
  clear h1 h2 hX hS hN hT hC hK hP ho HX htab
  go_enter Tryd.func3, Tryd.ntmps3
  go_wp2_with fail
  generalize (w.alloc (.cells #[.int .i64 p, .int .i64 q] 23)).alloc (.cells #[.int .i64 r, .int .i64 s] 23) = X at *
  refine Calls.mono (HA1.out _) ?_
  rintro e w1 ⟨rfl, hb⟩
  replace HBa := hid (HBa.out.later hb HBa.out.lt)
  replace HBb := hid (HBb.out.later hb HBb.out.lt)
  replace HB := hid (b2 HB.out hb)
  clear hb
  have NEax : Hid (w.heap.size ≠ w1.heap.size ∧ w.heap.size ≤ w1.heap.size) := ⟨by have := HBa.out.lt; omega, by have := HBa.out.lt; omega⟩
  have NEbx : Hid (w.heap.size + 1 ≠ w1.heap.size ∧ w.heap.size + 1 ≤ w1.heap.size) := ⟨by have := HBb.out.lt; omega, by have := HBb.out.lt; omega⟩
  have HN := hid (boxes1 w1 23 #[.int .i64 x1, .int .i64 x2])
  obtain ⟨w2, hW⟩ : ∃ w2, w1.alloc (.cells #[.int .i64 x1, .int .i64 x2] 23) = w2 := ⟨_, rfl⟩
  rw [hW] at HN
  replace HBa := hid (HBa.out.later HN.out.2 HBa.out.lt)
  replace HBb := hid (HBb.out.later HN.out.2 HBb.out.lt)
  replace HB := hid (b2 HB.out HN.out.2)
  have HBx := hid HN.out.1
  clear HN
  obtain ⟨ca0, ca1, fa0, fa1⟩ := fbox_facts HBa.out (Below.refl _ _)
  obtain ⟨cb0, cb1, fb0, fb1⟩ := fbox_facts HBb.out (Below.refl _ _)
  go_wp2_with fail
  clear hW
  refine Calls.mono (HA2.out _) ?_
  rintro e w3 ⟨rfl, hb⟩
  replace HBa := hid (HBa.out.later hb HBa.out.lt)
  replace HBb := hid (HBb.out.later hb HBb.out.lt)
  replace HBx := hid (HBx.out.later hb HBx.out.lt)
  replace HB := hid (b2 HB.out hb)
  clear hb
  clear ca0 ca1 fa0 fa1
  clear cb0 cb1 fb0 fb1
  have NEay : Hid (w.heap.size ≠ w3.heap.size ∧ w.heap.size ≤ w3.heap.size) := ⟨by have := HBa.out.lt; omega, by have := HBa.out.lt; omega⟩
  have NEby : Hid (w.heap.size + 1 ≠ w3.heap.size ∧ w.heap.size + 1 ≤ w3.heap.size) := ⟨by have := HBb.out.lt; omega, by have := HBb.out.lt; omega⟩
  have NExy : Hid (w1.heap.size ≠ w3.heap.size ∧ w1.heap.size ≤ w3.heap.size) := ⟨by have := HBx.out.lt; omega, by have := HBx.out.lt; omega⟩
  have HN := hid (boxes1 w3 23 #[.int .i64 x1, .int .i64 x2])
  obtain ⟨w4, hW⟩ : ∃ w4, w3.alloc (.cells #[.int .i64 x1, .int .i64 x2] 23) = w4 := ⟨_, rfl⟩
  rw [hW] at HN
  replace HBa := hid (HBa.out.later HN.out.2 HBa.out.lt)
  replace HBb := hid (HBb.out.later HN.out.2 HBb.out.lt)
  replace HBx := hid (HBx.out.later HN.out.2 HBx.out.lt)
  replace HB := hid (b2 HB.out HN.out.2)
  have HBy := hid HN.out.1
  clear HN
  obtain ⟨ca0, ca1, fa0, fa1⟩ := fbox_facts HBa.out (Below.refl _ _)
  obtain ⟨cb0, cb1, fb0, fb1⟩ := fbox_facts HBb.out (Below.refl _ _)
  go_wp2_with fail
  clear hW
  refine Calls.mono (HS1.out _) ?_
  rintro e w5 ⟨rfl, hb⟩
  replace HBa := hid (HBa.out.later hb HBa.out.lt)
  replace HBb := hid (HBb.out.later hb HBb.out.lt)
  replace HBx := hid (HBx.out.later hb HBx.out.lt)
  replace HBy := hid (HBy.out.later hb HBy.out.lt)
  replace HB := hid (b2 HB.out hb)
  clear hb
  clear ca0 ca1 fa0 fa1
  clear cb0 cb1 fb0 fb1
  have NEaz : Hid (w.heap.size ≠ w5.heap.size ∧ w.heap.size ≤ w5.heap.size) := ⟨by have := HBa.out.lt; omega, by have := HBa.out.lt; omega⟩
  have NEbz : Hid (w.heap.size + 1 ≠ w5.heap.size ∧ w.heap.size + 1 ≤ w5.heap.size) := ⟨by have := HBb.out.lt; omega, by have := HBb.out.lt; omega⟩
  have NExz : Hid (w1.heap.size ≠ w5.heap.size ∧ w1.heap.size ≤ w5.heap.size) := ⟨by have := HBx.out.lt; omega, by have := HBx.out.lt; omega⟩
  have NEyz : Hid (w3.heap.size ≠ w5.heap.size ∧ w3.heap.size ≤ w5.heap.size) := ⟨by have := HBy.out.lt; omega, by have := HBy.out.lt; omega⟩
  have HN := hid (boxes1 w5 23 #[.int .i64 s1, .int .i64 s2])
  obtain ⟨w6, hW⟩ : ∃ w6, w5.alloc (.cells #[.int .i64 s1, .int .i64 s2] 23) = w6 := ⟨_, rfl⟩
  rw [hW] at HN
  replace HBa := hid (HBa.out.later HN.out.2 HBa.out.lt)
  replace HBb := hid (HBb.out.later HN.out.2 HBb.out.lt)
  replace HBx := hid (HBx.out.later HN.out.2 HBx.out.lt)
  replace HBy := hid (HBy.out.later HN.out.2 HBy.out.lt)
  replace HB := hid (b2 HB.out HN.out.2)
  have HBz := hid HN.out.1
  clear HN
  obtain ⟨ca0, ca1, fa0, fa1⟩ := fbox_facts HBa.out (Below.refl _ _)
  obtain ⟨cb0, cb1, fb0, fb1⟩ := fbox_facts HBb.out (Below.refl _ _)
  go_wp2_with fail
  clear hW
  refine Calls.mono (HS2.out _) ?_
  rintro e w7 ⟨rfl, hb⟩
  replace HBa := hid (HBa.out.later hb HBa.out.lt)
  replace HBb := hid (HBb.out.later hb HBb.out.lt)
  replace HBx := hid (HBx.out.later hb HBx.out.lt)
  replace HBy := hid (HBy.out.later hb HBy.out.lt)
  replace HBz := hid (HBz.out.later hb HBz.out.lt)
  replace HB := hid (b2 HB.out hb)
  clear hb
  clear ca0 ca1 fa0 fa1
  clear cb0 cb1 fb0 fb1
  have NEau : Hid (w.heap.size ≠ w7.heap.size ∧ w.heap.size ≤ w7.heap.size) := ⟨by have := HBa.out.lt; omega, by have := HBa.out.lt; omega⟩
  have NEbu : Hid (w.heap.size + 1 ≠ w7.heap.size ∧ w.heap.size + 1 ≤ w7.heap.size) := ⟨by have := HBb.out.lt; omega, by have := HBb.out.lt; omega⟩
  have NExu : Hid (w1.heap.size ≠ w7.heap.size ∧ w1.heap.size ≤ w7.heap.size) := ⟨by have := HBx.out.lt; omega, by have := HBx.out.lt; omega⟩
  have NEyu : Hid (w3.heap.size ≠ w7.heap.size ∧ w3.heap.size ≤ w7.heap.size) := ⟨by have := HBy.out.lt; omega, by have := HBy.out.lt; omega⟩
  have NEzu : Hid (w5.heap.size ≠ w7.heap.size ∧ w5.heap.size ≤ w7.heap.size) := ⟨by have := HBz.out.lt; omega, by have := HBz.out.lt; omega⟩
  have HN := hid (boxes1 w7 23 #[.int .i64 s1, .int .i64 s2])
  obtain ⟨w8, hW⟩ : ∃ w8, w7.alloc (.cells #[.int .i64 s1, .int .i64 s2] 23) = w8 := ⟨_, rfl⟩
  rw [hW] at HN
  replace HBa := hid (HBa.out.later HN.out.2 HBa.out.lt)
  replace HBb := hid (HBb.out.later HN.out.2 HBb.out.lt)
  replace HBx := hid (HBx.out.later HN.out.2 HBx.out.lt)
  replace HBy := hid (HBy.out.later HN.out.2 HBy.out.lt)
  replace HBz := hid (HBz.out.later HN.out.2 HBz.out.lt)
  replace HB := hid (b2 HB.out HN.out.2)
  have HBu := hid HN.out.1
  clear HN
  obtain ⟨cx0, cx1, fx0, fx1⟩ := fbox_facts HBx.out (Below.refl _ _)
  obtain ⟨cy0, cy1, fy0, fy1⟩ := fbox_facts HBy.out (Below.refl _ _)
  obtain ⟨cz0, cz1, fz0, fz1⟩ := fbox_facts HBz.out (Below.refl _ _)
  obtain ⟨cu0, cu1, fu0, fu1⟩ := fbox_facts HBu.out (Below.refl _ _)
  go_wp2_with fail
  clear hW
  refine Calls.mono (HLV.out _) ?_
  rintro e w9 ⟨rfl, hb⟩
  replace HBa := hid (HBa.out.later hb HBa.out.lt)
  replace HBb := hid (HBb.out.later hb HBb.out.lt)
  replace HBx := hid (HBx.out.later hb HBx.out.lt)
  replace HBy := hid (HBy.out.later hb HBy.out.lt)
  replace HBz := hid (HBz.out.later hb HBz.out.lt)
  replace HBu := hid (HBu.out.later hb HBu.out.lt)
  replace HB := hid (b2 HB.out hb)
  clear hb
  clear cx0 cx1 fx0 fx1
  clear cy0 cy1 fy0 fy1
  clear cz0 cz1 fz0 fz1
  clear cu0 cu1 fu0 fu1
  obtain ⟨cx0, cx1, fx0, fx1⟩ := fbox_facts HBx.out (Below.refl _ _)
  obtain ⟨cy0, cy1, fy0, fy1⟩ := fbox_facts HBy.out (Below.refl _ _)
  obtain ⟨cz0, cz1, fz0, fz1⟩ := fbox_facts HBz.out (Below.refl _ _)
  obtain ⟨cu0, cu1, fu0, fu1⟩ := fbox_facts HBu.out (Below.refl _ _)
  obtain ⟨ca0, ca1, fa0, fa1⟩ := fbox_facts HBa.out (Below.refl _ _)
  go_wp2_with fail
  refine Calls.mono (HN1.out _) ?_
  rintro e wa ⟨rfl, hb⟩
  replace HBa := hid (HBa.out.later hb HBa.out.lt)
  replace HBb := hid (HBb.out.later hb HBb.out.lt)
  replace HBx := hid (HBx.out.later hb HBx.out.lt)
  replace HBy := hid (HBy.out.later hb HBy.out.lt)
  replace HBz := hid (HBz.out.later hb HBz.out.lt)
  replace HBu := hid (HBu.out.later hb HBu.out.lt)
  replace HB := hid (b2 HB.out hb)
  clear hb
  clear cx0 cx1 fx0 fx1
  clear cy0 cy1 fy0 fy1
  clear cz0 cz1 fz0 fz1
  clear cu0 cu1 fu0 fu1
  clear ca0 ca1 fa0 fa1
  obtain ⟨cx0, cx1, fx0, fx1⟩ := fbox_facts HBx.out (Below.refl _ _)
  obtain ⟨wb, hW⟩ : ∃ wb, (wa.setCell ⟨w1.heap.size, 0, none⟩ (.int .i64 n1)).setCell ⟨w1.heap.size, 1, none⟩ (.int .i64 n2) = wb := ⟨_, rfl⟩
  have H2a : FBox wb (w.heap.size) 23 #[.int .i64 p, .int .i64 q] := by rw [← hW]; exact (HBa.out.other _ _ NEax.out.1).other _ _ NEax.out.1
  have H2b : FBox wb (w.heap.size + 1) 23 #[.int .i64 r, .int .i64 s] := by rw [← hW]; exact (HBb.out.other _ _ NEbx.out.1).other _ _ NEbx.out.1
  have H2y : FBox wb (w3.heap.size) 23 #[.int .i64 x1, .int .i64 x2] := by rw [← hW]; exact (HBy.out.other _ _ (Ne.symm NExy.out.1)).other _ _ (Ne.symm NExy.out.1)
  have H2z : FBox wb (w5.heap.size) 23 #[.int .i64 s1, .int .i64 s2] := by rw [← hW]; exact (HBz.out.other _ _ (Ne.symm NExz.out.1)).other _ _ (Ne.symm NExz.out.1)
  have H2u : FBox wb (w7.heap.size) 23 #[.int .i64 s1, .int .i64 s2] := by rw [← hW]; exact (HBu.out.other _ _ (Ne.symm NExu.out.1)).other _ _ (Ne.symm NExu.out.1)
  have H2x : FBox wb (w1.heap.size) 23 #[.int .i64 n1, .int .i64 n2] := by rw [← hW]; exact (HBx.out.set 0 (.int .i64 n1)).set 1 (.int .i64 n2)
  have H2B : Below w.heap.size w wb := by rw [← hW]; exact fput2 HB.out _ NEax.out.2 _ _
  replace HBa := hid H2a
  replace HBb := hid H2b
  replace HBx := hid H2x
  replace HBy := hid H2y
  replace HBz := hid H2z
  replace HBu := hid H2u
  replace HB := hid H2B
  clear H2a H2b H2x H2y H2z H2u H2B
  obtain ⟨ka0, ka1, ga0, ga1⟩ := fbox_facts HBa.out (Below.refl _ _)
  go_wp2_with fail
  clear hW cx0 cx1 fx0 fx1
  clear ka0 ka1 ga0 ga1
  refine Calls.mono (HN2.out _) ?_
  rintro e wc ⟨rfl, hb⟩
  replace HBa := hid (HBa.out.later hb HBa.out.lt)
  replace HBb := hid (HBb.out.later hb HBb.out.lt)
  replace HBx := hid (HBx.out.later hb HBx.out.lt)
  replace HBy := hid (HBy.out.later hb HBy.out.lt)
  replace HBz := hid (HBz.out.later hb HBz.out.lt)
  replace HBu := hid (HBu.out.later hb HBu.out.lt)
  replace HB := hid (b2 HB.out hb)
  clear hb
  obtain ⟨cy0, cy1, fy0, fy1⟩ := fbox_facts HBy.out (Below.refl _ _)
  obtain ⟨wd, hW⟩ : ∃ wd, (wc.setCell ⟨w3.heap.size, 0, none⟩ (.int .i64 n1)).setCell ⟨w3.heap.size, 1, none⟩ (.int .i64 n2) = wd := ⟨_, rfl⟩
  have H2a : FBox wd (w.heap.size) 23 #[.int .i64 p, .int .i64 q] := by rw [← hW]; exact (HBa.out.other _ _ NEay.out.1).other _ _ NEay.out.1
  have H2b : FBox wd (w.heap.size + 1) 23 #[.int .i64 r, .int .i64 s] := by rw [← hW]; exact (HBb.out.other _ _ NEby.out.1).other _ _ NEby.out.1
  have H2x : FBox wd (w1.heap.size) 23 #[.int .i64 n1, .int .i64 n2] := by rw [← hW]; exact (HBx.out.other _ _ NExy.out.1).other _ _ NExy.out.1
  have H2z : FBox wd (w5.heap.size) 23 #[.int .i64 s1, .int .i64 s2] := by rw [← hW]; exact (HBz.out.other _ _ (Ne.symm NEyz.out.1)).other _ _ (Ne.symm NEyz.out.1)
  have H2u : FBox wd (w7.heap.size) 23 #[.int .i64 s1, .int .i64 s2] := by rw [← hW]; exact (HBu.out.other _ _ (Ne.symm NEyu.out.1)).other _ _ (Ne.symm NEyu.out.1)
  have H2y : FBox wd (w3.heap.size) 23 #[.int .i64 n1, .int .i64 n2] := by rw [← hW]; exact (HBy.out.set 0 (.int .i64 n1)).set 1 (.int .i64 n2)
  have H2B : Below w.heap.size w wd := by rw [← hW]; exact fput2 HB.out _ NEay.out.2 _ _
  replace HBa := hid H2a
  replace HBb := hid H2b
  replace HBx := hid H2x
  replace HBy := hid H2y
  replace HBz := hid H2z
  replace HBu := hid H2u
  replace HB := hid H2B
  clear H2a H2b H2x H2y H2z H2u H2B
  obtain ⟨ka0, ka1, ga0, ga1⟩ := fbox_facts HBa.out (Below.refl _ _)
  go_wp2_with fail
  clear hW cy0 cy1 fy0 fy1
  clear ka0 ka1 ga0 ga1
  refine Calls.mono (HT1.out _) ?_
  rintro e we ⟨rfl, hb⟩
  replace HBa := hid (HBa.out.later hb HBa.out.lt)
  replace HBb := hid (HBb.out.later hb HBb.out.lt)
  replace HBx := hid (HBx.out.later hb HBx.out.lt)
  replace HBy := hid (HBy.out.later hb HBy.out.lt)
  replace HBz := hid (HBz.out.later hb HBz.out.lt)
  replace HBu := hid (HBu.out.later hb HBu.out.lt)
  replace HB := hid (b2 HB.out hb)
  clear hb
  obtain ⟨cz0, cz1, fz0, fz1⟩ := fbox_facts HBz.out (Below.refl _ _)
  obtain ⟨wf, hW⟩ : ∃ wf, (we.setCell ⟨w5.heap.size, 0, none⟩ (.int .i64 t1)).setCell ⟨w5.heap.size, 1, none⟩ (.int .i64 t2) = wf := ⟨_, rfl⟩
  have H2a : FBox wf (w.heap.size) 23 #[.int .i64 p, .int .i64 q] := by rw [← hW]; exact (HBa.out.other _ _ NEaz.out.1).other _ _ NEaz.out.1
  have H2b : FBox wf (w.heap.size + 1) 23 #[.int .i64 r, .int .i64 s] := by rw [← hW]; exact (HBb.out.other _ _ NEbz.out.1).other _ _ NEbz.out.1
  have H2x : FBox wf (w1.heap.size) 23 #[.int .i64 n1, .int .i64 n2] := by rw [← hW]; exact (HBx.out.other _ _ NExz.out.1).other _ _ NExz.out.1
  have H2y : FBox wf (w3.heap.size) 23 #[.int .i64 n1, .int .i64 n2] := by rw [← hW]; exact (HBy.out.other _ _ NEyz.out.1).other _ _ NEyz.out.1
  have H2u : FBox wf (w7.heap.size) 23 #[.int .i64 s1, .int .i64 s2] := by rw [← hW]; exact (HBu.out.other _ _ (Ne.symm NEzu.out.1)).other _ _ (Ne.symm NEzu.out.1)
  have H2z : FBox wf (w5.heap.size) 23 #[.int .i64 t1, .int .i64 t2] := by rw [← hW]; exact (HBz.out.set 0 (.int .i64 t1)).set 1 (.int .i64 t2)
  have H2B : Below w.heap.size w wf := by rw [← hW]; exact fput2 HB.out _ NEaz.out.2 _ _
  replace HBa := hid H2a
  replace HBb := hid H2b
  replace HBx := hid H2x
  replace HBy := hid H2y
  replace HBz := hid H2z
  replace HBu := hid H2u
  replace HB := hid H2B
  clear H2a H2b H2x H2y H2z H2u H2B
  obtain ⟨ka0, ka1, ga0, ga1⟩ := fbox_facts HBa.out (Below.refl _ _)
  go_wp2_with fail
  clear hW cz0 cz1 fz0 fz1
  clear ka0 ka1 ga0 ga1
  refine Calls.mono (HT2.out _) ?_
  rintro e wg ⟨rfl, hb⟩
  replace HBa := hid (HBa.out.later hb HBa.out.lt)
  replace HBb := hid (HBb.out.later hb HBb.out.lt)
  replace HBx := hid (HBx.out.later hb HBx.out.lt)
  replace HBy := hid (HBy.out.later hb HBy.out.lt)
  replace HBz := hid (HBz.out.later hb HBz.out.lt)
  replace HBu := hid (HBu.out.later hb HBu.out.lt)
  replace HB := hid (b2 HB.out hb)
  clear hb
  obtain ⟨cu0, cu1, fu0, fu1⟩ := fbox_facts HBu.out (Below.refl _ _)
  obtain ⟨wh, hW⟩ : ∃ wh, (wg.setCell ⟨w7.heap.size, 0, none⟩ (.int .i64 t1)).setCell ⟨w7.heap.size, 1, none⟩ (.int .i64 t2) = wh := ⟨_, rfl⟩
  have H2a : FBox wh (w.heap.size) 23 #[.int .i64 p, .int .i64 q] := by rw [← hW]; exact (HBa.out.other _ _ NEau.out.1).other _ _ NEau.out.1
  have H2b : FBox wh (w.heap.size + 1) 23 #[.int .i64 r, .int .i64 s] := by rw [← hW]; exact (HBb.out.other _ _ NEbu.out.1).other _ _ NEbu.out.1
  have H2x : FBox wh (w1.heap.size) 23 #[.int .i64 n1, .int .i64 n2] := by rw [← hW]; exact (HBx.out.other _ _ NExu.out.1).other _ _ NExu.out.1
  have H2y : FBox wh (w3.heap.size) 23 #[.int .i64 n1, .int .i64 n2] := by rw [← hW]; exact (HBy.out.other _ _ NEyu.out.1).other _ _ NEyu.out.1
  have H2z : FBox wh (w5.heap.size) 23 #[.int .i64 t1, .int .i64 t2] := by rw [← hW]; exact (HBz.out.other _ _ NEzu.out.1).other _ _ NEzu.out.1
  have H2u : FBox wh (w7.heap.size) 23 #[.int .i64 t1, .int .i64 t2] := by rw [← hW]; exact (HBu.out.set 0 (.int .i64 t1)).set 1 (.int .i64 t2)
  have H2B : Below w.heap.size w wh := by rw [← hW]; exact fput2 HB.out _ NEau.out.2 _ _
  replace HBa := hid H2a
  replace HBb := hid H2b
  replace HBx := hid H2x
  replace HBy := hid H2y
  replace HBz := hid H2z
  replace HBu := hid H2u
  replace HB := hid H2B
  clear H2a H2b H2x H2y H2z H2u H2B
  obtain ⟨ka0, ka1, ga0, ga1⟩ := fbox_facts HBa.out (Below.refl _ _)
  obtain ⟨kb0, kb1, gb0, gb1⟩ := fbox_facts HBb.out (Below.refl _ _)
  go_wp2_with fail
  clear hW cu0 cu1 fu0 fu1
  clear ka0 ka1 ga0 ga1 kb0 kb1 gb0 gb1
  refine Calls.mono (HC1.out _) ?_
  rintro e wi ⟨rfl, hb⟩
  replace HBa := hid (HBa.out.later hb HBa.out.lt)
  replace HBb := hid (HBb.out.later hb HBb.out.lt)
  replace HBx := hid (HBx.out.later hb HBx.out.lt)
  replace HBy := hid (HBy.out.later hb HBy.out.lt)
  replace HBz := hid (HBz.out.later hb HBz.out.lt)
  replace HBu := hid (HBu.out.later hb HBu.out.lt)
  replace HB := hid (b2 HB.out hb)
  clear hb
  obtain ⟨ca0, ca1, fa0, fa1⟩ := fbox_facts HBa.out (Below.refl _ _)
  obtain ⟨cb0, cb1, fb0, fb1⟩ := fbox_facts HBb.out (Below.refl _ _)
  go_wp2_with fail
  refine Calls.mono (HC2.out _) ?_
  rintro e wj ⟨rfl, hb⟩
  replace HBa := hid (HBa.out.later hb HBa.out.lt)
  replace HBb := hid (HBb.out.later hb HBb.out.lt)
  replace HBx := hid (HBx.out.later hb HBx.out.lt)
  replace HBy := hid (HBy.out.later hb HBy.out.lt)
  replace HBz := hid (HBz.out.later hb HBz.out.lt)
  replace HBu := hid (HBu.out.later hb HBu.out.lt)
  replace HB := hid (b2 HB.out hb)
  clear hb
  clear ca0 ca1 fa0 fa1
  clear cb0 cb1 fb0 fb1
  obtain ⟨cx0, cx1, fx0, fx1⟩ := fbox_facts HBx.out (Below.refl _ _)
  obtain ⟨cy0, cy1, fy0, fy1⟩ := fbox_facts HBy.out (Below.refl _ _)
  obtain ⟨cz0, cz1, fz0, fz1⟩ := fbox_facts HBz.out (Below.refl _ _)
  obtain ⟨cu0, cu1, fu0, fu1⟩ := fbox_facts HBu.out (Below.refl _ _)
  obtain ⟨ca0, ca1, fa0, fa1⟩ := fbox_facts HBa.out (Below.refl _ _)
  go_wp2_with fail
  refine Calls.mono (HR1.out _) ?_
  rintro e wk ⟨rfl, hb⟩
  replace HBa := hid (HBa.out.later hb HBa.out.lt)
  replace HBb := hid (HBb.out.later hb HBb.out.lt)
  replace HBx := hid (HBx.out.later hb HBx.out.lt)
  replace HBy := hid (HBy.out.later hb HBy.out.lt)
  replace HBz := hid (HBz.out.later hb HBz.out.lt)
  replace HBu := hid (HBu.out.later hb HBu.out.lt)
  replace HB := hid (b2 HB.out hb)
  clear hb
  clear cx0 cx1 fx0 fx1
  clear cy0 cy1 fy0 fy1
  clear cz0 cz1 fz0 fz1
  clear cu0 cu1 fu0 fu1
  clear ca0 ca1 fa0 fa1
  obtain ⟨ca0, ca1, fa0, fa1⟩ := fbox_facts HBa.out (Below.refl _ _)
  go_wp2_with fail
  refine Calls.mono (HR2.out _) ?_
  rintro e wl ⟨rfl, hb⟩
  replace HBa := hid (HBa.out.later hb HBa.out.lt)
  replace HBb := hid (HBb.out.later hb HBb.out.lt)
  replace HBx := hid (HBx.out.later hb HBx.out.lt)
  replace HBy := hid (HBy.out.later hb HBy.out.lt)
  replace HBz := hid (HBz.out.later hb HBz.out.lt)
  replace HBu := hid (HBu.out.later hb HBu.out.lt)
  replace HB := hid (b2 HB.out hb)
  clear hb
  clear ca0 ca1 fa0 fa1
  obtain ⟨ca0, ca1, fa0, fa1⟩ := fbox_facts HBa.out (Below.refl _ _)
  go_wp2_with fail
  refine Calls.mono (HP1.out _ HB.out) ?_
  rintro e wm ⟨rfl, hb⟩
  replace HBa := hid (HBa.out.later hb HBa.out.lt)
  replace HBb := hid (HBb.out.later hb HBb.out.lt)
  replace HBx := hid (HBx.out.later hb HBx.out.lt)
  replace HBy := hid (HBy.out.later hb HBy.out.lt)
  replace HBz := hid (HBz.out.later hb HBz.out.lt)
  replace HBu := hid (HBu.out.later hb HBu.out.lt)
  replace HB := hid (b2 HB.out hb)
  clear hb
  clear ca0 ca1 fa0 fa1
  obtain ⟨ca0, ca1, fa0, fa1⟩ := fbox_facts HBa.out (Below.refl _ _)
  go_wp2_with fail
  refine Calls.mono (HP2.out _) ?_
  rintro e wn ⟨rfl, hb⟩
  replace HBa := hid (HBa.out.later hb HBa.out.lt)
  replace HBb := hid (HBb.out.later hb HBb.out.lt)
  replace HBx := hid (HBx.out.later hb HBx.out.lt)
  replace HBy := hid (HBy.out.later hb HBy.out.lt)
  replace HBz := hid (HBz.out.later hb HBz.out.lt)
  replace HBu := hid (HBu.out.later hb HBu.out.lt)
  replace HB := hid (b2 HB.out hb)
  clear hb
  clear ca0 ca1 fa0 fa1
  obtain ⟨ca0, ca1, fa0, fa1⟩ := fbox_facts HBa.out (Below.refl _ _)
  go_wp2_with fail
  clear ca0 ca1 fa0 fa1
  have HF : Hid (∀ V, Below wn.heap.size wn V → V.cell? ⟨w.heap.size, 0, none⟩ = some (.int .i64 p) ∧ V.cell? ⟨w.heap.size, 1, none⟩ = some (.int .i64 q)) := fun V hv => by
    obtain ⟨c0, c1, _, _⟩ := fbox_facts HBa.out hv
    exact ⟨c0, c1⟩
  have hs0 := HF.out _ (Below.refl _ wn).drew
  have hd0 := hid (Below.refl wn.heap.size wn).drew
  have HSN := hid (fun V => sameNumber_al _ _ _ _ V (.refl 0) (.refl 0))
  have H1 : Hid (∀ ww, Below wn.heap.size wn ww → Calls Tryd.prog 20 #[.agg #[.int .i64 p, .int .i64 q]] ww fun e w' => e = .returned (.int .i64 k) ∧ (w'.cell? ⟨w.heap.size, 0, none⟩ = some (.int .i64 p) ∧ w'.cell? ⟨w.heap.size, 1, none⟩ = some (.int .i64 q)) ∧ Below wn.heap.size wn w') := fun ww hv => by
    refine Calls.mono (HK1.out ww) ?_
    rintro e w' ⟨rfl, h⟩
    exact ⟨rfl, HF.out _ (b2 hv h), b2 hv h⟩
  have H2 : Hid (∀ ww, Below wn.heap.size wn ww → Calls Tryd.prog 21 #[.agg #[.int .i64 p, .int .i64 q]] ww fun e w' => e = .returned (.int .i64 k) ∧ (w'.cell? ⟨w.heap.size, 0, none⟩ = some (.int .i64 p) ∧ w'.cell? ⟨w.heap.size, 1, none⟩ = some (.int .i64 q)) ∧ Below wn.heap.size wn w') := fun ww hv => by
    refine Calls.mono (HK2.out ww) ?_
    rintro e w' ⟨rfl, h⟩
    exact ⟨rfl, HF.out _ (b2 hv h), b2 hv h⟩
  clear HF HK1 HK2
  go_region_held3 (fun V : World => V.cell? ⟨w.heap.size, 0, none⟩ = some (.int .i64 p) ∧ V.cell? ⟨w.heap.size, 1, none⟩ = some (.int .i64 q)) (first | exact hs2 | exact hs1 | exact hs0)
    (first
      | (go_at_call 19; with_reducible refine Calls.mono (HSN.out _) ?_; rintro e w' ⟨rfl, hw'⟩; subst hw')
      | (go_at_call 21; with_reducible refine Calls.mono (H2.out _ hb2) ?_; rintro e wp ⟨rfl, hs2, hb3⟩)
      | (go_at_call 20; with_reducible refine Calls.mono (H1.out _ hd0.out) ?_; rintro e wo ⟨rfl, hs1, hb2⟩))
  all_goals
    have HBE := hid (b2 HB.out hb3)
    clear hs0 hs1 hs2 hb2 hb3 H1 H2 hd0 HSN
    go_wp2_with fail
    go_ret
    exact ⟨rfl, HBE.out⟩

theorem turnCalls_walk (p q r s n : Int) (w : World) (h1 : in64 p q) (h2 : in64 r s) (m0 : -2147483648 ≤ n) (m1 : n ≤ 2147483647) (htab : TabT w) :
    Calls Tryd.prog 3 #[.agg #[.int .i64 p, .int .i64 q], .agg #[.int .i64 r, .int .i64 s], .int .i32 n] w fun e w' => e = .returned (.bool true) ∧ Below w.heap.size w w' := by
  by_cases ho : okI p q
  · exact turnCalls_ok p q r s n _ _ _ _ _ _ _ _ _ _ _ _ _ _ _ _ _ w h1 h2 m0 m1 htab rfl rfl rfl rfl rfl rfl rfl ho
  · exact turnCalls_err p q r s n _ _ _ _ _ _ _ _ _ _ _ _ _ _ _ _ _ w h1 h2 m0 m1 htab rfl rfl rfl rfl rfl rfl rfl ho
end Go.Proofs.YtphocjipbenhlaaDoor

