/- My texts on the way to WholePower, one behind the other: contracts of the program and of the document's answers. -/
import Derived.Test.YtgimgagnfkinmaaJ2
/- The law WholePower answers true, and writes nothing that was there: whatever number and exponent come in. -/
namespace Go.Proofs.Ytgimgagnfkinmaa
open Go.RowKit
set_option linter.unusedVariables false

theorem wsame2 {n m : Bool} {xs ys : List Int} (wx : Wd xs) (wy : Wd ys) (tx : Trimmed xs) (ty : Trimmed ys) (nx : n = false ∨ 0 < xs.length) (ny : m = false ∨ 0 < ys.length) (h : wval n xs = wval m ys) : n = m ∧ xs = ys := by
  have x0 := val_nonneg wx
  have y0 := val_nonneg wy
  cases n <;> cases m
  · exact ⟨rfl, trimmed_eq wx wy tx ty h⟩
  · have e : val xs = -(val ys) := h
    have := val_pos' wy ty (ny.elim (fun e => by cases e) id)
    omega
  · have e : -(val xs) = val ys := h
    have := val_pos' wx tx (nx.elim (fun e => by cases e) id)
    omega
  · have e : -(val xs) = -(val ys) := h
    exact ⟨rfl, trimmed_eq wx wy tx ty (by omega)⟩
theorem WTells.same {e t : Int} {n m : Bool} {zs ys : List Int} {c d : Int} (h : WTells e t n zs c) (g : WTells e t m ys d) : n = m ∧ zs = ys ∧ c = d := by
  by_cases he : e = 0
  · by_cases hl : wlim ≤ t ∨ t ≤ -wlim
    · obtain ⟨a1, a2, a3⟩ := h.long he hl
      obtain ⟨b1, b2, b3⟩ := g.long he hl
      exact ⟨by rw [a1, b1], by rw [a2, b2], by rw [a3, b3]⟩
    · obtain ⟨a1, a2⟩ := h.good he (by omega) (by omega)
      obtain ⟨b1, b2⟩ := g.good he (by omega) (by omega)
      obtain ⟨r1, r2⟩ := wsame2 h.wd g.wd h.trim g.trim h.sign g.sign (by rw [a2, b2])
      exact ⟨r1, r2, by rw [a1, b1]⟩
  · obtain ⟨a1, a2, a3⟩ := h.bad he
    obtain ⟨b1, b2, b3⟩ := g.bad he
    exact ⟨by rw [a1, b1], by rw [a2, b2], by rw [a3, b3]⟩
/-- 2 lists of the call's own, made one behind the other, in a list of lists. -/
theorem two_apart {w : World} {b b1 b2 n1 n2 : Nat} {v1 v2 : Value} {x1 x2 : List Int} (c1 c2 c3 : Nat) (hm : c1 ≤ c2 ∧ c2 ≤ c3)
    (o1 : w.ownsRow b1 43 1 v1 n1 (x1.map (Value.int .u32))) (d1 : Wd x1) (l1 : x1.length ≤ 2000000) (e1 : b ≤ b1)
    (o2 : w.ownsRow b2 43 1 v2 n2 (x2.map (Value.int .u32))) (d2 : Wd x2) (l2 : x2.length ≤ 2000000) (e2 : b ≤ b2)
    (i1 : Within v1 c1 c2) (i2 : Within v2 c2 c3) :
    Lists (w.alloc (.cells #[v1, v2] 22)) b w.heap.size 2 (fun j => [v1, v2][j]?.getD undef) (fun j => [x1, x2][j]?.getD []) := by
  have k1 : x1.length = n1 := by have := o1.1; simpa using this
  have k2 : x2.length = n2 := by have := o2.1; simpa using this
  subst k1; subst k2
  obtain ⟨m1, m2⟩ := hm
  refine ⟨fun j hj => ?_, fun j hj => ?_, fun j hj => ?_, apart_perm (fun j => [c1, c2, c3][j]?.getD 0) (fun j => ([0, 1] : List Nat)[j]?.getD 0) (fun j hj => ?_) (by decide) (by decide) (fun j hj => ?_), ⟨_, heap_alloc_new w _, fun j hj => ?_⟩⟩
  · match j, hj with
    | 0, _ => exact d1
    | 1, _ => exact d2
  · match j, hj with
    | 0, _ => show x1.length ≤ _; omega
    | 1, _ => show x2.length ≤ _; omega
  · match j, hj with
    | 0, _ => exact owns_base (o1.alloc _) e1
    | 1, _ => exact owns_base (o2.alloc _) e2
  · match j, hj with
    | 0, _ => exact m1
    | 1, _ => exact m2
  · match j, hj with
    | 0, _ => exact i1
    | 1, _ => exact i2
  · match j, hj with
    | 0, _ => rfl
    | 1, _ => rfl

set_option maxHeartbeats 12800000 in
set_option maxRecDepth 100000 in
theorem wholePower_walk (n : Bool) (a : Option Addr) (k c : Nat) (xs : List Int) (N : Int) (w : World) (h : Reads w w.heap.size a k c xs) (hk : k ≤ 1048576) (n0 : -9223372036854775808 ≤ N) (n1 : N ≤ 9223372036854775807) :
    Calls Try.prog 4 #[.agg #[.bool n, .slice a k c], .int .i64 N] w fun e w' => e = .returned (.bool true) ∧ Below w.heap.size w w' := by
  have hlx := h.1
  subst hlx
  have hs : Sl w (.slice a xs.length c) xs := ⟨a, c, rfl, h⟩
  have wx := h.2.1
  clear h
  have HB : Hid (Below w.heap.size w (w.alloc (.cells #[.bool n, .slice a xs.length c] 35))) := alloc_later _ _
  have HX : Hid (Box (w.alloc (.cells #[.bool n, .slice a xs.length c] 35)) w.heap.size 35 #[.bool n, .slice a xs.length c]) := Box.made w _ _
  have HS := hid (hs.later HB.out)
  have HL := hid (lives_any (w.alloc (.cells #[.bool n, .slice a xs.length c] 35)))
  clear hs
  have quick : ∀ P : Prop, (4 < xs.length ∧ xs.length ≤ 2048 → P) → ((¬ (4 : Int) < (xs.length : Int) ∨ ((4 : Int) < (xs.length : Int) ∧ ¬ (xs.length : Int) ≤ 2048)) → P) → P := fun P h1 h2 => by
    by_cases e : 4 < xs.length ∧ xs.length ≤ 2048
    · exact h1 e
    · exact h2 (by omega)
  refine quick _ ?_ ?_
  · rintro ⟨e1, e2⟩
    have e1' : (4 : Int) < (xs.length : Int) := by omega
    have e2' : (xs.length : Int) ≤ 2048 := by omega
    clear quick e1 e2
    go_enter Try.func4, Try.ntmps4
    go_wp2_with fail
    refine Calls.mono HL.out ?_
    rintro e w1 ⟨rfl, hb1⟩
    obtain ⟨x0, x1, _, _⟩ := (HX.out.later hb1 HX.out.lt).c2
    have HBN := hid (bt HB.out hb1)
    clear hb1
    go_wp2_with fail
    go_ret
    exact ⟨rfl, HBN.out⟩
  · intro hlen
    clear quick
    by_cases hN : 300 < N ∧ N ≤ 4096
    · obtain ⟨hN1, hN2⟩ := hN
      rcases hlen with l1 | ⟨l1, l2⟩
      all_goals
        go_enter Try.func4, Try.ntmps4
        go_wp2_with fail
        refine Calls.mono HL.out ?_
        rintro e w1 ⟨rfl, hb1⟩
        obtain ⟨x0, x1, _, _⟩ := (HX.out.later hb1 HX.out.lt).c2
        have HBN := hid (bt HB.out hb1)
        clear hb1
        go_wp2_with fail
        go_ret
        exact ⟨rfl, HBN.out⟩
    · have hN' : ¬ 300 < N ∨ (300 < N ∧ ¬ N ≤ 4096) := by omega
      clear hN
      have ox : ∀ (W : World) (base g cap : Nat), W.ownsRow base 43 1 (.slice (some ⟨g, 0, none⟩) (xs.length + 3) cap) (xs.length + 3) ((xs ++ marks 3).map (Value.int .u32)) → W.ownsRow base 43 1 (.slice (some ⟨g, 0, none⟩) xs.length cap) xs.length (xs.map (Value.int .u32)) := fun W base g cap ho => by
        rw [List.map_append] at ho
        exact owns_front (k := 3) ho (by simp)
      have HOX := hid ox
      clear ox
      rcases hlen with l1 | ⟨l1, l2⟩ <;> rcases hN' with q1 | ⟨q1, q2⟩
      all_goals
        go_enter Try.func4, Try.ntmps4
        go_wp2_with fail
        refine Calls.mono HL.out ?_
        rintro e w1 ⟨rfl, hb1⟩
        have HX1 := hid (HX.out.later hb1 HX.out.lt)
        obtain ⟨x0, x1, _, _⟩ := HX1.out.c2
        have HB1 := hid (bt HB.out hb1)
        have HB1S : Hid (w.heap.size ≤ w1.heap.size) := HB1.out.size
        have HS1 := hid (HS.out.later hb1)
        have HLW := hid (lentWhole_any n _ xs w1 HS1.out (by omega))
        clear hb1 HX HB HS HL
        go_wp2_with fail
        refine Calls.mono HLW.out ?_
        rintro e w2 ⟨g, cap, rfl, o2, hb2⟩
        have HV2 : Hid (Below w1.heap.size w1 (w2.alloc (.cells #[.bool n, .slice (some ⟨g, 0, none⟩) xs.length cap] 35))) := bt hb2 (alloc_later _ _)
        have HX2 := hid (HX1.out.later HV2.out HX1.out.lt)
        have HS2 := hid (HS1.out.later HV2.out)
        have HB2 := hid (bt HB1.out HV2.out)
        have HO2 := hid (owns_later o2 (alloc_later w2 (.cells #[.bool n, .slice (some ⟨g, 0, none⟩) xs.length cap] 35)))
        have HA2 : Hid (Box (w2.alloc (.cells #[.bool n, .slice (some ⟨g, 0, none⟩) xs.length cap] 35)) w2.heap.size 35 #[.bool n, .slice (some ⟨g, 0, none⟩) xs.length cap]) := Box.made w2 _ _
        have HI2 := hid (Within.own o2 (Nat.le_refl _))
        have hsz1 := hb2.size
        have HP2 := hid (wPow_any n _ xs N _ (Sl.own (HOX.out _ _ _ _ HO2.out) wx) (by omega) n0 n1)
        have hw2 : (w2.alloc (.cells #[.bool n, .slice (some ⟨g, 0, none⟩) xs.length cap] 35)).heap.size = w2.heap.size + 1 := by simp
        clear o2 hb2 HX1 HB1 HS1 HLW x0 x1 HV2
        go_wp2_with fail
        refine Calls.mono HP2.out ?_
        generalize (w2.alloc (.cells #[.bool n, .slice (some ⟨g, 0, none⟩) xs.length cap] 35)) = V2 at *
        rintro e w3 ⟨n3, v3, z3, c3, rfl, o3, t3, hb3⟩
        obtain ⟨a3, k3, hs⟩ := own_slice' o3
        subst hs
        have HV3 : Hid (Below V2.heap.size V2 (w3.alloc (.cells #[.bool n3, .slice a3 z3.length k3] 35))) := bt hb3 (alloc_later _ _)
        have HX3 := hid (HX2.out.later HV3.out HX2.out.lt)
        obtain ⟨x0, x1, _, _⟩ := HX3.out.c2
        have y0 := HX2.out.later hb3 HX2.out.lt
        obtain ⟨y0, y1, _, _⟩ := y0.c2
        have HA3 := hid (HA2.out.later HV3.out HA2.out.lt)
        have HS3 := hid (HS2.out.later HV3.out)
        have HB3 := hid (bt HB2.out HV3.out)
        have HO3 := hid (owns_later HO2.out HV3.out)
        have HP3 : Hid (Box (w3.alloc (.cells #[.bool n3, .slice a3 z3.length k3] 35)) w3.heap.size 35 #[.bool n3, .slice a3 z3.length k3]) := Box.made w3 _ _
        have HQ3 := hid (owns_later o3 (alloc_later w3 (.cells #[.bool n3, .slice a3 z3.length k3] 35)))
        have HI3 := hid (Within.own o3 (Nat.le_refl _))
        have hsz3 := hb3.size
        have HT3 := hid t3
        have HRP := hid (refPow_any n _ xs N _ HS3.out (by omega) n0 n1)
        have hw3 : (w3.alloc (.cells #[.bool n3, .slice a3 z3.length k3] 35)).heap.size = w3.heap.size + 1 := by simp
        clear o3 t3 hb3 HX2 HA2 HS2 HB2 HO2 HP2 HV3
        go_wp2_with fail
        refine Calls.mono HRP.out ?_
        generalize (w3.alloc (.cells #[.bool n3, .slice a3 z3.length k3] 35)) = V3 at *
        rintro e w4 ⟨n4, v4, z4, c4, rfl, o4, t4, hb4⟩
        obtain ⟨rfl, rfl, rfl⟩ := t4.same HT3.out
        obtain ⟨a4, k4, hs⟩ := own_slice' o4
        subst hs
        have HV4 : Hid (Below V3.heap.size V3 (w4.alloc (.cells #[.bool n4, .slice a4 z4.length k4] 35))) := bt hb4 (alloc_later _ _)
        have HX4 := hid (HX3.out.later HV4.out HX3.out.lt)
        have HA4 := hid (HA3.out.later HV4.out HA3.out.lt)
        have HP4 := hid (HP3.out.later HV4.out HP3.out.lt)
        have HS4 := hid (HS3.out.later HV4.out)
        have HB4 := hid (bt HB3.out HV4.out)
        have HO4 := hid (owns_later HO3.out HV4.out)
        have HQ4 := hid (owns_later HQ3.out HV4.out)
        have hwz := HT3.out.wd
        have hlz := HT3.out.len
        have HN4 := hid (lawOne2_any n4 _ _ z4 c4 _ (Sl.own HQ4.out hwz) (Sl.own (owns_later o4 (alloc_later w4 (.cells #[.bool n4, .slice a4 z4.length k4] 35))) hwz) (by omega))
        obtain ⟨p0, p1, _, _⟩ := HP4.out.c2
        obtain ⟨pp0, pp1, _, _⟩ := (HP3.out.later hb4 HP3.out.lt).c2
        have hsz4 := hb4.size
        have hw4 : (w4.alloc (.cells #[.bool n4, .slice a4 z4.length k4] 35)).heap.size = w4.heap.size + 1 := by simp
        clear o4 t4 hb4 HX3 HA3 HP3 HS3 HB3 HO3 HQ3 HRP HV4 HT3 x0 x1 y0 y1
        go_wp2_with fail
        refine Calls.mono HN4.out ?_
        generalize (w4.alloc (.cells #[.bool n4, .slice a4 z4.length k4] 35)) = V4 at *
        rintro e w5 ⟨rfl, hb5⟩
        have HX5 := hid (HX4.out.later hb5 HX4.out.lt)
        have HA5 := hid (HA4.out.later hb5 HA4.out.lt)
        have HP5 := hid (HP4.out.later hb5 HP4.out.lt)
        have HS5 := hid (HS4.out.later hb5)
        have HB5 := hid (bt HB4.out hb5)
        have HO5 := hid (owns_later HO4.out hb5)
        have HQ5 := hid (owns_later HQ4.out hb5)
        obtain ⟨x0, x1, _, _⟩ := HX5.out.c2
        obtain ⟨y0, y1, _, _⟩ := HA5.out.c2
        have HKW := hid (keptWhole_any n _ xs g cap _ w5 HS5.out (by omega) HO5.out)
        have hsz5 := hb5.size
        clear hb5 HX4 HA4 HP4 HS4 HB4 HO4 HQ4 HN4 p0 p1 pp0 pp1
        go_wp2_with fail
        refine Calls.mono HKW.out ?_
        rintro e w6 ⟨rfl, hb6⟩
        have HA6 := hid (HA5.out.later hb6 HA5.out.lt)
        have HP6 := hid (HP5.out.later hb6 HP5.out.lt)
        have HB6 := hid (bt HB5.out hb6)
        have HO6 := hid (HOX.out _ _ _ _ (owns_later HO5.out hb6))
        have HQ6 := hid (owns_later HQ5.out hb6)
        have hsz6 := hb6.size
        have hszB := HB6.out.size
        have hszP := HP6.out.lt
        clear hb6 HX5 HA5 HP5 HS5 HB5 HO5 HQ5 HKW x0 x1 y0 y1
        obtain ⟨y0, y1, _, _⟩ := HA6.out.c2
        obtain ⟨p0, p1, _, _⟩ := HP6.out.c2
        have hI : Within (.slice (some ⟨g, 0, none⟩) xs.length cap) w1.heap.size w2.heap.size := HI2.out
        have HL2 := hid (two_apart (b := w.heap.size) w1.heap.size V2.heap.size w3.heap.size (by omega) HO6.out wx (by omega) (by have := HB1S.out; omega) HQ6.out hwz (by omega) (by have := HB1S.out; omega) (hI.up (by omega)) HI3.out)
        have HAP := hid (apart_any _ _ _ _ _ _ HL2.out (by omega) (by simp; omega))
        clear HL2 hI HI2 HI3 HO6 HQ6 HA6 HP6
        go_wp2_with fail
        refine Calls.mono HAP.out ?_
        rintro e wE ⟨rfl, hbE⟩
        have HBE := hid (bt_alloc HB6.out hbE)
        clear hbE HAP
        go_wp2_with fail
        go_ret
        exact ⟨rfl, HBE.out⟩
end Go.Proofs.Ytgimgagnfkinmaa

