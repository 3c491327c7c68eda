/- My texts on the way to GaussCalls, one behind the other: contracts of the program and of the document's answers. -/
import Derived.Test.YtlleakifnjfdkaaGreatJ1
import Derived.Test.YtlleakifnjfdkaaGreatJ2
import Derived.Test.YtlleakifnjfdkaaGreatJ3
import Derived.Deep.RegionHeld3
import Derived.Deep.RegionLaw
import Derived.Laws.AppendOwnNone
import Derived.LoopN
import Derived.Laws.CopyOwn
namespace Go.Proofs.YtlleakifnjfdkaaGreat
set_option maxRecDepth 100000
open Go.RowKit
set_option linter.unusedVariables false
theorem rt_zero (n : Bool) (ys : List Int) : RTells 0 (Rat.divInt (sg n (val [])) (val ys)) false [] [1] 0 := by
  have e : Rat.divInt (sg n (val [])) (val ys) = Rat.divInt 0 1 := by cases n <;> simp [sg, val, valTo]
  rw [e]
  obtain ⟨e1, e2⟩ := fr_num (x := 0) (d := 1) (by omega) (by decide)
  have hk : rchk false [] [1] = 0 := rchk_good (by simp) (by simp) rfl rfl (by simp) (.inl rfl) (by decide)
  refine ⟨Wd.nil, Wd.one (by omega), fun h => absurd rfl h, fun _ hl => ?_, fun _ _ => ⟨rfl, hk, ?_⟩⟩
  · exfalso
    unfold rlong at hl
    rw [e1, e2] at hl
    have := wlim_big
    simp at hl
    omega
  · unfold rq
    rfl
theorem RTold.later {w W W' : World} {e : Int} {q : Rat} {x : Ending} (h : RTold w e q x W) (hb : Below W.heap.size W W') : RTold w e q x W' := by
  obtain ⟨n, v, xs, u, ys, code, rfl, o1, o2, t, hbw⟩ := h
  exact ⟨n, v, xs, u, ys, code, rfl, owns_later o1 hb, owns_later o2 hb, t, bt hbw hb⟩
theorem rt_rlong {n : Bool} {zs ds : List Int} (wz : Wd zs) (tz : Trimmed zs) (wd : Wd ds) (td : Trimmed ds) (hd : 0 < val ds) (hg : gcdI (val zs) (val ds) = 1) : rlong (Rat.divInt (sg n (val zs)) (val ds)) ↔ 2048 < max zs.length ds.length := by
  have hz0 := val_nonneg wz
  obtain ⟨e1, e2⟩ := fr_num (x := sg n (val zs)) hd (by rw [gcd_sg]; exact hg)
  unfold rlong
  rw [e1, e2, abs_sg n hz0, ← len2048 wz tz, ← len2048 wd td]
  omega
theorem rt_good {n : Bool} {zs ds : List Int} (wz : Wd zs) (tz : Trimmed zs) (wd : Wd ds) (td : Trimmed ds) (hz : 0 < zs.length) (hd : 0 < val ds) (hg : gcdI (val zs) (val ds) = 1) (l1 : zs.length ≤ 2048) (l2 : ds.length ≤ 2048) : RTells 0 (Rat.divInt (sg n (val zs)) (val ds)) n zs ds 0 := by
  have hl := rt_rlong (n := n) wz tz wd td hd hg
  have hd0 : 0 < ds.length := by
    by_cases c : 0 < ds.length
    · exact c
    · have := trimmed_zero' (us := ds) (by omega); omega
  exact ⟨wz, wd, fun h => absurd rfl h, fun _ h' => absurd (hl.1 h') (by omega), fun _ _ => ⟨rfl, rchk_good l1 l2 tz td hd0 (.inr hz) hg, rfl⟩⟩
theorem rt_long {n : Bool} {zs ds : List Int} (wz : Wd zs) (tz : Trimmed zs) (wd : Wd ds) (td : Trimmed ds) (hd : 0 < val ds) (hg : gcdI (val zs) (val ds) = 1) (h : 2048 < zs.length ∨ 2048 < ds.length) : RTells 0 (Rat.divInt (sg n (val zs)) (val ds)) false [] [] 3 := by
  have hl := rt_rlong (n := n) wz tz wd td hd hg
  exact ⟨Wd.nil, Wd.nil, fun h => absurd rfl h, fun _ _ => ⟨rfl, rfl, rfl, rfl⟩, fun _ h' => absurd (hl.2 (by omega)) h'⟩
set_option maxHeartbeats 3200000 in
theorem of3_any (n : Bool) (a : Option Addr) (ca : Nat) (xs : List Int) (b : Option Addr) (cb : Nat) (ys : List Int) (w : World) (h : Sl w (.slice a xs.length ca) xs) (g : Sl w (.slice b ys.length cb) ys) (lx : xs.length ≤ 8192) (ly : ys.length ≤ 8192) (tx : Trimmed xs) (ty : Trimmed ys) (h0 : 0 < ys.length) :
    Calls Tryz.prog 61 #[.bool n, .slice a xs.length ca, .slice b ys.length cb] w (RTold w 0 (Rat.divInt (sg n (val xs)) (val ys))) := by
  have wx := h.wd
  have wy := g.wd
  have HB : Hid (Below w.heap.size w (w.alloc (.cells #[.bool false, .slice none 0 0, .slice none 0 0] 24))) := alloc_later _ _
  have HZ : Hid (Box (w.alloc (.cells #[.bool false, .slice none 0 0, .slice none 0 0] 24)) w.heap.size 24 #[.bool false, .slice none 0 0, .slice none 0 0]) := Box.made w _ _
  have HLT : Hid (w.heap.size < (w.alloc (.cells #[.bool false, .slice none 0 0, .slice none 0 0] 24)).heap.size) := HZ.out.lt
  by_cases hx : xs.length = 0
  · obtain rfl : xs = [] := List.eq_nil_of_length_eq_zero hx
    obtain ⟨K, hK⟩ : ∃ K, K = ([] : List Int).length := ⟨_, rfl⟩
    have hK0 : ((K : Int) == 0) = true := by rw [hK]; rfl
    have HT := hid (rt_zero n ys)
    have HO := hid (one3_any (w.alloc (.cells #[.bool false, .slice none 0 0, .slice none 0 0] 24)))
    rw [← hK]
    obtain ⟨q, hq⟩ : ∃ q, q = Rat.divInt (sg n (val [])) (val ys) := ⟨_, rfl⟩
    rw [← hq] at HT ⊢
    clear hx hK h g hq
    go_enter Tryz.func61, Tryz.ntmps61
    go_wp2_with fail
    refine Calls.mono HO.out ?_
    generalize (w.alloc (.cells #[.bool false, .slice none 0 0, .slice none 0 0] 24)) = X at *
    rintro e w1 ⟨g1, rfl, o1, hb1⟩
    obtain ⟨y0, y1, y2, f0, f1, f2⟩ := res_box3 HZ.out hb1
    have HR : Hid (w1.ownsRow X.heap.size 63 1 (.slice none 0 0) ([] : List Int).length (([] : List Int).map (Value.int .u32)) ∧ w1.ownsRow X.heap.size 63 1 (.slice (some ⟨g1, 0, none⟩) 1 1) [(1 : Int)].length ([(1 : Int)].map (Value.int .u32)) ∧ RTells 0 q false [] [1] 0) := ⟨World.ownsRow_nil _ _ _ _, o1, HT.out⟩
    have HBW := hid (bt HB.out hb1)
    clear o1 hb1 HO
    go_wp2_with fail
    refine bodyPost_ret (v := .tuple #[.agg #[.bool false, .slice none 0 0, .slice (some ⟨g1, 0, none⟩) 1 1], .int .i64 0]) (by simp [results, Tryz.results61, go_sem, y0, y1, y2]) rfl ?_
    exact RTold.put HR.out w.heap.size HLT.out (Nat.le_refl _) HBW.out _ _ _
  · have hx' : ((xs.length : Int) == 0) = false := beq_eq_false_iff_ne.2 (by omega)
    have hz := both_good (chk_good lx tx) (chk_good ly ty)
    have HW := hid (gcd_wide wx wy hz)
    have HG := hid (refGcd_sl _ _ xs ys (w.alloc (.cells #[.bool false, .slice none 0 0, .slice none 0 0] 24)) (h.later HB.out) (g.later HB.out) (by omega) (by omega))
    rw [hz] at HG
    have HS := hid (And.intro (h.later HB.out) (g.later HB.out))
    have HPY : Hid (0 < val ys) := by have := val_pos' wy ty h0; show _ < _; omega
    have HPX : Hid (0 < val xs) := by have := val_pos' wx tx (by omega); show _ < _; omega
    have HMP := hid (make_parts (n := n) (m := false) (val_nonneg wx) HPY.out)
    have HGP : Hid (0 < gcdI (val xs) (val ys) ∧ gcdI (val xs) (val ys) ≤ val ys ∧ gcdI (val xs) (val ys) ≤ val xs) := ⟨gcd_pos_right HPY.out, gcd_le_right HPY.out, Int.le_of_dvd HPX.out (Int.gcd_dvd_left ..)⟩
    have hnf : (n != false) = n := by cases n <;> rfl
    rw [hnf] at HMP
    have HTT := hid (And.intro tx ty)
    have HWY := hid (And.intro wx wy)
    obtain ⟨q, hq⟩ : ∃ q, q = Rat.divInt (sg n (val xs)) (val ys) := ⟨_, rfl⟩
    rw [← hq]
    have HQ := hid hq
    clear hx hz h g hq hnf tx ty wx wy
    go_enter Tryz.func61, Tryz.ntmps61
    go_wp2_with fail
    refine Calls.mono HG.out ?_
    generalize (w.alloc (.cells #[.bool false, .slice none 0 0, .slice none 0 0] 24)) = X at *
    rintro e w1 ⟨v1, z1, c1, rfl, o1, t1, hb1⟩
    obtain ⟨rfl, hv1⟩ := t1.good rfl HW.out
    obtain ⟨a1, k1, hs1⟩ := own_slice' o1
    subst hs1
    have l1 : z1.length ≤ 8192 := by
      refine Nat.le_trans (len_of_lt t1.wd t1.trim (L := ys.length) ?_) ly
      rw [hv1]
      have := HGP.out
      have := val_lt HWY.out.2
      omega
    have p1 : 0 < z1.length := by
      by_cases c : 0 < z1.length
      · exact c
      · have := trimmed_zero' (us := z1) (by omega)
        have := HGP.out
        omega
    have HS1 := hid (Sl.own o1 t1.wd)
    have HO1 := hid (over3_any _ _ xs z1 w1 (HS.out.1.later hb1) HS1.out lx l1 HTT.out.1 t1.trim p1)
    have HO2 := hid (fun ww (hb : Below w1.heap.size w1 ww) => over3_any _ _ ys z1 ww ((HS.out.2.later hb1).later hb) (HS1.out.later hb) ly l1 HTT.out.2 t1.trim p1)
    rw [hv1] at HO1 HO2
    have HB1 := hid hb1
    clear o1 t1 hv1 hb1 HG
    go_wp2_with fail
    refine Calls.mono HO1.out ?_
    rintro e w2 ⟨v2, z2, rfl, o2, wd2, tr2, hv2, hb2⟩
    obtain ⟨a2, k2, hs2⟩ := own_slice' o2
    subst hs2
    have HC2 := hid (HO2.out w2 hb2)
    have HN2 := hid (And.intro (owns_base o2 HB1.out.size) (And.intro wd2 (And.intro tr2 hv2)))
    have HB2 := hid (bt HB1.out hb2)
    clear o2 wd2 tr2 hv2 hb2 HO1 HO2 HS1
    go_wp2_with fail
    refine Calls.mono HC2.out ?_
    rintro e w3 ⟨v3, z3, rfl, o3, wd3, tr3, hv3, hb3⟩
    obtain ⟨a3, k3, hs3⟩ := own_slice' o3
    subst hs3
    have HN3 := hid (And.intro (owns_later HN2.out.1 hb3) (And.intro (owns_base o3 HB2.out.size) (And.intro wd3 (And.intro tr3 hv3))))
    have HB3 := hid (bt HB2.out hb3)
    have HBR := hid (bt HB3.out (alloc_later w3 (.cells #[.bool n, .slice a2 z2.length k2, .slice a3 z3.length k3] 24)))
    obtain ⟨y0, y1, y2, f0, f1, f2⟩ := res_box3 HZ.out HB3.out
    have hlt : w.heap.size < w3.heap.size := Nat.lt_of_lt_of_le HLT.out HB3.out.size
    have HGZ : Hid (gcdI (val z2) (val z3) = 1 ∧ 0 < val z3 ∧ 0 < z2.length) := by
      refine ⟨by rw [HN2.out.2.2.2, hv3]; exact HMP.out.2.1, by rw [hv3]; exact HMP.out.1, ?_⟩
      by_cases c : 0 < z2.length
      · exact c
      · have e0 := trimmed_zero' (us := z2) (by omega)
        have e1 := HN2.out.2.2.2
        have e2 := HGP.out
        have e3 : 1 ≤ val xs / gcdI (val xs) (val ys) := Int.le_ediv_of_mul_le e2.1 (by omega)
        omega
    have HQQ : Hid (q = Rat.divInt (sg n (val z2)) (val z3)) := by
      show _ = _
      rw [HQ.out, HN2.out.2.2.2, hv3]
      exact HMP.out.2.2.symm
    clear o3 wd3 tr3 hv3 hb3 HC2
    by_cases hl2 : 2048 < z2.length
    · have hl2' : (2048 : Int) < (z2.length : Int) := by omega
      have HR : Hid (w3.ownsRow X.heap.size 63 1 (.slice none 0 0) ([] : List Int).length (([] : List Int).map (Value.int .u32)) ∧ w3.ownsRow X.heap.size 63 1 (.slice none 0 0) ([] : List Int).length (([] : List Int).map (Value.int .u32)) ∧ RTells 0 q false [] [] 3) := ⟨World.ownsRow_nil _ _ _ _, World.ownsRow_nil _ _ _ _, by rw [HQQ.out]; exact rt_long HN2.out.2.1 HN2.out.2.2.1 HN3.out.2.2.1 HN3.out.2.2.2.1 HGZ.out.2.1 HGZ.out.1 (.inl hl2)⟩
      clear hl2 HW HMP HGP HTT HWY HQ HS HPX HPY HN2 HN3 HGZ HQQ HBR l1 p1 lx ly h0
      go_wp2_with fail
      refine bodyPost_ret (v := .tuple #[.agg #[.bool false, .slice none 0 0, .slice none 0 0], .int .i64 3]) (by simp [results, Tryz.results61, go_sem, y0, y1, y2, hlt]) rfl ?_
      exact (RTold.put HR.out w.heap.size HLT.out (Nat.le_refl _) (bt HB.out HB3.out) _ _ _).later (alloc_later _ _)
    · have hl2' : ¬ (2048 : Int) < (z2.length : Int) := by omega
      by_cases hl3 : 2048 < z3.length
      · have hl3' : (2048 : Int) < (z3.length : Int) := by omega
        have HR : Hid (w3.ownsRow X.heap.size 63 1 (.slice none 0 0) ([] : List Int).length (([] : List Int).map (Value.int .u32)) ∧ w3.ownsRow X.heap.size 63 1 (.slice none 0 0) ([] : List Int).length (([] : List Int).map (Value.int .u32)) ∧ RTells 0 q false [] [] 3) := ⟨World.ownsRow_nil _ _ _ _, World.ownsRow_nil _ _ _ _, by rw [HQQ.out]; exact rt_long HN2.out.2.1 HN2.out.2.2.1 HN3.out.2.2.1 HN3.out.2.2.2.1 HGZ.out.2.1 HGZ.out.1 (.inr hl3)⟩
        clear hl2 hl3 HW HMP HGP HTT HWY HQ HS HPX HPY HN2 HN3 HGZ HQQ HBR l1 p1 lx ly h0
        go_wp2_with fail
        refine bodyPost_ret (v := .tuple #[.agg #[.bool false, .slice none 0 0, .slice none 0 0], .int .i64 3]) (by simp [results, Tryz.results61, go_sem, y0, y1, y2, hlt]) rfl ?_
        exact (RTold.put HR.out w.heap.size HLT.out (Nat.le_refl _) (bt HB.out HB3.out) _ _ _).later (alloc_later _ _)
      · have hl3' : ¬ (2048 : Int) < (z3.length : Int) := by omega
        have HR : Hid (w3.ownsRow X.heap.size 63 1 (.slice a2 z2.length k2) z2.length (z2.map (Value.int .u32)) ∧ w3.ownsRow X.heap.size 63 1 (.slice a3 z3.length k3) z3.length (z3.map (Value.int .u32)) ∧ RTells 0 q n z2 z3 0) := ⟨HN3.out.1, HN3.out.2.1, by rw [HQQ.out]; exact rt_good HN2.out.2.1 HN2.out.2.2.1 HN3.out.2.2.1 HN3.out.2.2.2.1 HGZ.out.2.2 HGZ.out.2.1 HGZ.out.1 (by omega) (by omega)⟩
        clear hl2 hl3 HW HMP HGP HTT HWY HQ HS HPX HPY HN2 HN3 HGZ HQQ HBR l1 p1 lx ly h0
        go_wp2_with fail
        refine bodyPost_ret (v := .tuple #[.agg #[.bool n, .slice a2 z2.length k2, .slice a3 z3.length k3], .int .i64 0]) (by simp [results, Tryz.results61, go_sem, y0, y1, y2, hlt]) rfl ?_
        exact (RTold.put HR.out w.heap.size HLT.out (Nat.le_refl _) (bt HB.out HB3.out) _ _ _).later (alloc_later _ _)
set_option maxHeartbeats 800000 in
theorem same3_any (a : Option Addr) (n cap : Nat) (xs : List Int) (b : Option Addr) (m cap' : Nat) (ys : List Int) (w : World) (h : Reads w w.heap.size a n cap xs) (g : Reads w w.heap.size b m cap' ys) (hn : n ≤ 281474976710656) (hm : m ≤ 281474976710656) :
    Calls Tryz.prog 69 #[.slice a n cap, .slice b m cap'] w fun e w' => e = .returned (.bool (decide (xs = ys))) ∧ Below w.heap.size w w' := by
  obtain ⟨hl, hw, hc, hcap⟩ := h
  obtain ⟨gl, gw, gc, gcap⟩ := g
  by_cases hnm : n = m
  · subst hnm
    have htt : ((n : Int) != (n : Int)) = false := by simp
    rcases hc with h0 | ⟨b1, o1, rfl, hb1, hc⟩
    · subst h0
      have hx : xs = [] := List.eq_nil_of_length_eq_zero hl
      have hy : ys = [] := List.eq_nil_of_length_eq_zero gl
      subst hx; subst hy
      go_enter Tryz.func69, Tryz.ntmps69
      go_wp2
      refine wp_loop_rounds 1 ?_
      rw [rounds_succ]
      go_wp2
      go_ret
      exact ⟨rfl, Below.refl _ _⟩
    · rcases gc with g0 | ⟨b2, o2, rfl, hb2, gc⟩
      · subst g0
        have hx : xs = [] := List.eq_nil_of_length_eq_zero hl
        have hy : ys = [] := List.eq_nil_of_length_eq_zero gl
        subst hx; subst hy
        go_enter Tryz.func69, Tryz.ntmps69
        go_wp2
        refine wp_loop_rounds 1 ?_
        rw [rounds_succ]
        go_wp2
        go_ret
        exact ⟨rfl, Below.refl _ _⟩
      · have HL : Hid (xs.length = n ∧ ys.length = n) := ⟨hl, gl⟩
        clear hl gl
        go_enter Tryz.func69, Tryz.ntmps69
        go_wp2
        go_loopw [5] (fun t wr => ∃ k : Nat, k ≤ n ∧ t = .int .i64 k ∧ xs.take k = ys.take k ∧ Below w.heap.size w wr) (fun t _ => n - (intOf t).toNat)
        case atStart => exact ⟨0, Nat.zero_le _, rfl, rfl, Below.refl _ _⟩
        case round =>
          obtain ⟨k, hk, rfl, hs, hbel⟩ := hrel
          have HS : Hid (xs.take k = ys.take k) := hs
          clear hs
          by_cases hlt : k < n
          · have hcx : wr.cell? ⟨b1, o1 + k, none⟩ = some (.int .u32 (xs[k]?.getD 0)) := (hbel.cell (p := ⟨b1, o1 + k, none⟩) hb1).trans (hc k hlt)
            have hcy : wr.cell? ⟨b2, o2 + k, none⟩ = some (.int .u32 (ys[k]?.getD 0)) := (hbel.cell (p := ⟨b2, o2 + k, none⟩) hb2).trans (gc k hlt)
            by_cases he : xs[k]?.getD 0 = ys[k]?.getD 0
            · have hne : (xs[k]?.getD 0 != ys[k]?.getD 0) = false := by simp [he]
              have HE : Hid (xs[k]?.getD 0 = ys[k]?.getD 0) := he
              clear he
              go_wp2
              go_region
              all_goals go_wp2
              all_goals
                go_roundw
                case rel => exact ⟨k + 1, by omega, by go_num, take_same HS.out (by have := HL.out; omega) (by have := HL.out; omega) HE.out, hbel.drew⟩
                case measure => simp [intOf]; omega
            · have hne : (xs[k]?.getD 0 != ys[k]?.getD 0) = true := by simp [he]
              have HE : Hid (¬ xs[k]?.getD 0 = ys[k]?.getD 0) := he
              clear he
              go_wp2
              go_region
              all_goals go_wp2
              all_goals
                go_ret
                exact ⟨ret_bool (decide_eq_false fun e => HE.out (by rw [e])).symm, hbel.drew⟩
          · have hkn : k = n := by omega
            subst hkn
            go_wp2
            go_ret
            exact ⟨ret_bool (decide_eq_true (by have := HS.out; have hl := HL.out; rwa [List.take_of_length_le (by omega), List.take_of_length_le (by omega)] at this)).symm, hbel⟩
  · have hne : ((n : Int) != (m : Int)) = true := by simp; omega
    have hd : decide (xs = ys) = false := decide_eq_false fun e => hnm (by rw [← hl, ← gl, e])
    have HD : Hid (decide (xs = ys) = false) := hd
    clear hd hc gc
    go_enter Tryz.func69, Tryz.ntmps69
    go_wp2
    go_ret
    exact ⟨ret_bool HD.out.symm, Below.refl _ _⟩
theorem same3_sl (v u : Value) (xs ys : List Int) (w : World) (h : Sl w v xs) (g : Sl w u ys) (hn : xs.length ≤ 281474976710656) (hm : ys.length ≤ 281474976710656) :
    Calls Tryz.prog 69 #[v, u] w fun e w' => e = .returned (.bool (decide (xs = ys))) ∧ Below w.heap.size w w' := by
  obtain ⟨a, ca, rfl, hr⟩ := h
  obtain ⟨b, cb, rfl, gr⟩ := g
  exact same3_any a _ ca xs b _ cb ys w hr gr hn hm
theorem rchk_long {n : Bool} {xs ys : List Int} (h : 2048 < xs.length ∨ 2048 < ys.length) : rchk n xs ys = 3 := by unfold rchk; rw [if_pos (by omega)]
theorem rchk_rough {n : Bool} {xs ys : List Int} (l1 : xs.length ≤ 2048) (l2 : ys.length ≤ 2048) (h : ¬ rform n xs ys) : rchk n xs ys = 11 := by unfold rchk; rw [if_neg (by omega), if_neg h]
theorem Tells.len' {e t : Int} {zs : List Int} {c : Int} (h : Tells e t zs c) : zs.length ≤ 8192 := by
  by_cases he : e = 0
  · by_cases hl : wide ≤ t
    · rw [(h.long he hl).2]; simp
    · have e1 := (h.good he (by omega)).2
      exact len_of_lt h.wd h.trim (by rw [e1]; exact Int.not_le.1 hl)
  · rw [(h.bad he).2]; simp
theorem rform_trim {n : Bool} {xs ys : List Int} (h : rform n xs ys) : sz xs = xs.length ∧ sz ys = ys.length := ⟨(chk_ok (both_ok h.1).1).2, (chk_ok (both_ok h.1).2).2⟩
set_option maxHeartbeats 1600000 in
theorem check3_any (n : Bool) (a : Option Addr) (ca : Nat) (xs : List Int) (b : Option Addr) (cb : Nat) (ys : List Int) (w : World) (sx : Sl w (.slice a xs.length ca) xs) (sy : Sl w (.slice b ys.length cb) ys) (lx : xs.length ≤ 281474976710656) (ly : ys.length ≤ 281474976710656) :
    Calls Tryz.prog 44 #[.agg #[.bool n, .slice a xs.length ca, .slice b ys.length cb]] w fun e w' => e = .returned (.int .i64 (rchk n xs ys)) ∧ Below w.heap.size w w' := by
  have wx := sx.wd
  have wy := sy.wd
  have HB := hid (alloc_later w (.cells #[.bool n, .slice a xs.length ca, .slice b ys.length cb] 24))
  have HN := hid (Box.made w 24 #[.bool n, .slice a xs.length ca, .slice b ys.length cb])
  have HS := hid (And.intro (sx.later HB.out) (sy.later HB.out))
  have HR := hid (Below.refl (w.alloc (.cells #[.bool n, .slice a xs.length ca, .slice b ys.length cb] 24)).heap.size (w.alloc (.cells #[.bool n, .slice a xs.length ca, .slice b ys.length cb] 24)))
  have HT1 := hid (fun ww (hb : Below (w.alloc (.cells #[.bool n, .slice a xs.length ca, .slice b ys.length cb] 24)).heap.size (w.alloc (.cells #[.bool n, .slice a xs.length ca, .slice b ys.length cb] 24)) ww) => trimmed3_any _ xs ww (HS.out.1.later hb) lx)
  have HT2 := hid (fun ww (hb : Below (w.alloc (.cells #[.bool n, .slice a xs.length ca, .slice b ys.length cb] 24)).heap.size (w.alloc (.cells #[.bool n, .slice a xs.length ca, .slice b ys.length cb] 24)) ww) => trimmed3_any _ ys ww (HS.out.2.later hb) ly)
  clear sx sy
  by_cases h1 : 2048 < xs.length
  · rw [rchk_long (.inl h1)]
    have h1' : (2048 : Int) < (xs.length : Int) := by omega
    clear h1
    go_enter Tryz.func44, Tryz.ntmps44
    go_wp2_with fail
    go_ret
    exact ⟨rfl, HB.out⟩
  · have h1' : ¬ (2048 : Int) < (xs.length : Int) := by omega
    by_cases h2 : 2048 < ys.length
    · rw [rchk_long (.inr h2)]
      have h2' : (2048 : Int) < (ys.length : Int) := by omega
      clear h1 h2
      go_enter Tryz.func44, Tryz.ntmps44
      go_wp2_with fail
      go_ret
      exact ⟨rfl, HB.out⟩
    · have h2' : ¬ (2048 : Int) < (ys.length : Int) := by omega
      have HL : Hid (xs.length ≤ 2048 ∧ ys.length ≤ 2048) := ⟨by omega, by omega⟩
      clear h1 h2
      by_cases h3 : sz xs = xs.length
      · rw [decide_eq_true h3] at HT1
        by_cases h4 : sz ys = ys.length
        · rw [decide_eq_true h4] at HT2
          by_cases h5 : ys.length = 0
          · rw [rchk_rough HL.out.1 HL.out.2 (fun h => by have := h.2.1; omega)]
            have h5' : ((ys.length : Int) == 0) = true := by rw [h5]; rfl
            clear h3 h4 h5
            go_enter Tryz.func44, Tryz.ntmps44
            go_wp2_with fail
            refine Calls.mono (HT1.out _ HR.out) ?_
            generalize (w.alloc (.cells #[.bool n, .slice a xs.length ca, .slice b ys.length cb] 24)) = X at *
            rintro e w1 ⟨rfl, hb1⟩
            obtain ⟨p0, p1, p2, _⟩ := res_box3 HN.out hb1
            have HC := hid (HT2.out w1 hb1)
            have HB1 := hid hb1
            clear hb1
            go_wp2_with fail
            refine Calls.mono HC.out ?_
            rintro e w2 ⟨rfl, hb2⟩
            have HB2 := hid (bt HB1.out hb2)
            clear hb2 p0 p1 p2
            obtain ⟨p0, p1, p2, _⟩ := res_box3 HN.out HB2.out
            go_wp2_with fail
            go_ret
            exact ⟨rfl, bt HB.out HB2.out⟩
          · have h5' : ((ys.length : Int) == 0) = false := beq_eq_false_iff_ne.2 (by omega)
            have HBO : Hid (both xs ys = 0) := both_good (chk_good (by have := HL.out; omega) h3) (chk_good (by have := HL.out; omega) h4)
            have HGW := hid (gcd_wide wx wy HBO.out)
            by_cases h6 : xs.length = 0
            · have h6' : ((xs.length : Int) == 0) = true := by rw [h6]; rfl
              cases n with
              | true =>
                rw [rchk_rough HL.out.1 HL.out.2 (fun h => h.2.2.1.elim (fun e => by cases e) (fun e => by omega))]
                clear h3 h4 h5 h6
                go_enter Tryz.func44, Tryz.ntmps44
                go_wp2_with fail
                refine Calls.mono (HT1.out _ HR.out) ?_
                generalize (w.alloc (.cells #[.bool true, .slice a xs.length ca, .slice b ys.length cb] 24)) = X at *
                rintro e w1 ⟨rfl, hb1⟩
                obtain ⟨p0, p1, p2, _⟩ := res_box3 HN.out hb1
                have HC := hid (HT2.out w1 hb1)
                have HB1 := hid hb1
                clear hb1
                go_wp2_with fail
                refine Calls.mono HC.out ?_
                rintro e w2 ⟨rfl, hb2⟩
                have HB2 := hid (bt HB1.out hb2)
                clear hb2 p0 p1 p2
                obtain ⟨p0, p1, p2, _⟩ := res_box3 HN.out HB2.out
                go_wp2_with fail
                go_ret
                exact ⟨rfl, bt HB.out HB2.out⟩
              | false =>
                by_cases hg : gcdI (val xs) (val ys) = 1
                · rw [show rchk false xs ys = 0 from rchk_good HL.out.1 HL.out.2 h3 h4 (by omega) (.inl rfl) hg]
                  have HGG : Hid (decide (gcdI (val xs) (val ys) = 1) = true) := decide_eq_true hg
                  clear h3 h4 h5 h6 hg
                  go_enter Tryz.func44, Tryz.ntmps44
                  go_wp2_with fail
                  refine Calls.mono (HT1.out _ HR.out) ?_
                  generalize (w.alloc (.cells #[.bool false, .slice a xs.length ca, .slice b ys.length cb] 24)) = X at *
                  rintro e w1 ⟨rfl, hb1⟩
                  obtain ⟨p0, p1, p2, _⟩ := res_box3 HN.out hb1
                  have HC := hid (HT2.out w1 hb1)
                  have HB1 := hid hb1
                  clear hb1
                  go_wp2_with fail
                  refine Calls.mono HC.out ?_
                  rintro e w2 ⟨rfl, hb2⟩
                  have HB2 := hid (bt HB1.out hb2)
                  clear hb2 p0 p1 p2
                  obtain ⟨p0, p1, p2, _⟩ := res_box3 HN.out HB2.out
                  have HG := hid (refGcd_sl _ _ xs ys w2 (HS.out.1.later HB2.out) (HS.out.2.later HB2.out) lx ly)
                  rw [HBO.out] at HG
                  go_wp2_with fail
                  refine Calls.mono HG.out ?_
                  rintro e w3 ⟨v3, z3, c3, rfl, o3, t3, hb3⟩
                  obtain ⟨rfl, hv3⟩ := t3.good rfl HGW.out
                  obtain ⟨a3, k3, hs3⟩ := own_slice' o3
                  subst hs3
                  have HZ3 := hid (And.intro (Sl.own o3 t3.wd) (And.intro t3.trim hv3))
                  have l3 : z3.length ≤ 8192 := t3.len'
                  have HB3 := hid (bt HB2.out hb3)
                  have HO := hid (one3_any w3)
                  clear o3 t3 hv3 hb3 HG HC p0 p1 p2
                  go_wp2_with fail
                  refine Calls.mono HO.out ?_
                  rintro e w4 ⟨g4, rfl, o4, hb4⟩
                  have HQ := hid (same3_sl _ _ z3 [1] w4 (HZ3.out.1.later hb4) (Sl.own o4 (Wd.one (by omega))) (by omega) (by simp))
                  have HEQ : Hid (decide (z3 = [1]) = decide (gcdI (val xs) (val ys) = 1)) := by
                    show _ = _
                    congr 1
                    rw [← HZ3.out.2.2]
                    exact propext (one_iff HZ3.out.1.wd HZ3.out.2.1)
                  rw [HEQ.out, HGG.out] at HQ
                  have HB4 := hid (bt HB3.out hb4)
                  clear o4 hb4 HO HEQ
                  go_wp2_with fail
                  refine Calls.mono HQ.out ?_
                  rintro e w5 ⟨rfl, hb5⟩
                  have HBN := hid (bt HB.out (bt HB4.out hb5))
                  clear hb5
                  go_wp2_with fail
                  go_ret
                  exact ⟨rfl, HBN.out⟩
                · rw [rchk_rough HL.out.1 HL.out.2 (fun h => hg h.2.2.2)]
                  have HGG : Hid (decide (gcdI (val xs) (val ys) = 1) = false) := decide_eq_false hg
                  clear h3 h4 h5 h6 hg
                  go_enter Tryz.func44, Tryz.ntmps44
                  go_wp2_with fail
                  refine Calls.mono (HT1.out _ HR.out) ?_
                  generalize (w.alloc (.cells #[.bool false, .slice a xs.length ca, .slice b ys.length cb] 24)) = X at *
                  rintro e w1 ⟨rfl, hb1⟩
                  obtain ⟨p0, p1, p2, _⟩ := res_box3 HN.out hb1
                  have HC := hid (HT2.out w1 hb1)
                  have HB1 := hid hb1
                  clear hb1
                  go_wp2_with fail
                  refine Calls.mono HC.out ?_
                  rintro e w2 ⟨rfl, hb2⟩
                  have HB2 := hid (bt HB1.out hb2)
                  clear hb2 p0 p1 p2
                  obtain ⟨p0, p1, p2, _⟩ := res_box3 HN.out HB2.out
                  have HG := hid (refGcd_sl _ _ xs ys w2 (HS.out.1.later HB2.out) (HS.out.2.later HB2.out) lx ly)
                  rw [HBO.out] at HG
                  go_wp2_with fail
                  refine Calls.mono HG.out ?_
                  rintro e w3 ⟨v3, z3, c3, rfl, o3, t3, hb3⟩
                  obtain ⟨rfl, hv3⟩ := t3.good rfl HGW.out
                  obtain ⟨a3, k3, hs3⟩ := own_slice' o3
                  subst hs3
                  have HZ3 := hid (And.intro (Sl.own o3 t3.wd) (And.intro t3.trim hv3))
                  have l3 : z3.length ≤ 8192 := t3.len'
                  have HB3 := hid (bt HB2.out hb3)
                  have HO := hid (one3_any w3)
                  clear o3 t3 hv3 hb3 HG HC p0 p1 p2
                  go_wp2_with fail
                  refine Calls.mono HO.out ?_
                  rintro e w4 ⟨g4, rfl, o4, hb4⟩
                  have HQ := hid (same3_sl _ _ z3 [1] w4 (HZ3.out.1.later hb4) (Sl.own o4 (Wd.one (by omega))) (by omega) (by simp))
                  have HEQ : Hid (decide (z3 = [1]) = decide (gcdI (val xs) (val ys) = 1)) := by
                    show _ = _
                    congr 1
                    rw [← HZ3.out.2.2]
                    exact propext (one_iff HZ3.out.1.wd HZ3.out.2.1)
                  rw [HEQ.out, HGG.out] at HQ
                  have HB4 := hid (bt HB3.out hb4)
                  clear o4 hb4 HO HEQ
                  go_wp2_with fail
                  refine Calls.mono HQ.out ?_
                  rintro e w5 ⟨rfl, hb5⟩
                  have HBN := hid (bt HB.out (bt HB4.out hb5))
                  clear hb5
                  go_wp2_with fail
                  go_ret
                  exact ⟨rfl, HBN.out⟩
            · have h6' : ((xs.length : Int) == 0) = false := beq_eq_false_iff_ne.2 (by omega)
              by_cases hg : gcdI (val xs) (val ys) = 1
              · rw [show rchk n xs ys = 0 from rchk_good HL.out.1 HL.out.2 h3 h4 (by omega) (.inr (by omega)) hg]
                have HGG : Hid (decide (gcdI (val xs) (val ys) = 1) = true) := decide_eq_true hg
                clear h3 h4 h5 h6 hg
                go_enter Tryz.func44, Tryz.ntmps44
                go_wp2_with fail
                refine Calls.mono (HT1.out _ HR.out) ?_
                generalize (w.alloc (.cells #[.bool n, .slice a xs.length ca, .slice b ys.length cb] 24)) = X at *
                rintro e w1 ⟨rfl, hb1⟩
                obtain ⟨p0, p1, p2, _⟩ := res_box3 HN.out hb1
                have HC := hid (HT2.out w1 hb1)
                have HB1 := hid hb1
                clear hb1
                go_wp2_with fail
                refine Calls.mono HC.out ?_
                rintro e w2 ⟨rfl, hb2⟩
                have HB2 := hid (bt HB1.out hb2)
                clear hb2 p0 p1 p2
                obtain ⟨p0, p1, p2, _⟩ := res_box3 HN.out HB2.out
                have HG := hid (refGcd_sl _ _ xs ys w2 (HS.out.1.later HB2.out) (HS.out.2.later HB2.out) lx ly)
                rw [HBO.out] at HG
                go_wp2_with fail
                refine Calls.mono HG.out ?_
                rintro e w3 ⟨v3, z3, c3, rfl, o3, t3, hb3⟩
                obtain ⟨rfl, hv3⟩ := t3.good rfl HGW.out
                obtain ⟨a3, k3, hs3⟩ := own_slice' o3
                subst hs3
                have HZ3 := hid (And.intro (Sl.own o3 t3.wd) (And.intro t3.trim hv3))
                have l3 : z3.length ≤ 8192 := t3.len'
                have HB3 := hid (bt HB2.out hb3)
                have HO := hid (one3_any w3)
                clear o3 t3 hv3 hb3 HG HC p0 p1 p2
                go_wp2_with fail
                refine Calls.mono HO.out ?_
                rintro e w4 ⟨g4, rfl, o4, hb4⟩
                have HQ := hid (same3_sl _ _ z3 [1] w4 (HZ3.out.1.later hb4) (Sl.own o4 (Wd.one (by omega))) (by omega) (by simp))
                have HEQ : Hid (decide (z3 = [1]) = decide (gcdI (val xs) (val ys) = 1)) := by
                  show _ = _
                  congr 1
                  rw [← HZ3.out.2.2]
                  exact propext (one_iff HZ3.out.1.wd HZ3.out.2.1)
                rw [HEQ.out, HGG.out] at HQ
                have HB4 := hid (bt HB3.out hb4)
                clear o4 hb4 HO HEQ
                go_wp2_with fail
                refine Calls.mono HQ.out ?_
                rintro e w5 ⟨rfl, hb5⟩
                have HBN := hid (bt HB.out (bt HB4.out hb5))
                clear hb5
                go_wp2_with fail
                go_ret
                exact ⟨rfl, HBN.out⟩
              · rw [rchk_rough HL.out.1 HL.out.2 (fun h => hg h.2.2.2)]
                have HGG : Hid (decide (gcdI (val xs) (val ys) = 1) = false) := decide_eq_false hg
                clear h3 h4 h5 h6 hg
                go_enter Tryz.func44, Tryz.ntmps44
                go_wp2_with fail
                refine Calls.mono (HT1.out _ HR.out) ?_
                generalize (w.alloc (.cells #[.bool n, .slice a xs.length ca, .slice b ys.length cb] 24)) = X at *
                rintro e w1 ⟨rfl, hb1⟩
                obtain ⟨p0, p1, p2, _⟩ := res_box3 HN.out hb1
                have HC := hid (HT2.out w1 hb1)
                have HB1 := hid hb1
                clear hb1
                go_wp2_with fail
                refine Calls.mono HC.out ?_
                rintro e w2 ⟨rfl, hb2⟩
                have HB2 := hid (bt HB1.out hb2)
                clear hb2 p0 p1 p2
                obtain ⟨p0, p1, p2, _⟩ := res_box3 HN.out HB2.out
                have HG := hid (refGcd_sl _ _ xs ys w2 (HS.out.1.later HB2.out) (HS.out.2.later HB2.out) lx ly)
                rw [HBO.out] at HG
                go_wp2_with fail
                refine Calls.mono HG.out ?_
                rintro e w3 ⟨v3, z3, c3, rfl, o3, t3, hb3⟩
                obtain ⟨rfl, hv3⟩ := t3.good rfl HGW.out
                obtain ⟨a3, k3, hs3⟩ := own_slice' o3
                subst hs3
                have HZ3 := hid (And.intro (Sl.own o3 t3.wd) (And.intro t3.trim hv3))
                have l3 : z3.length ≤ 8192 := t3.len'
                have HB3 := hid (bt HB2.out hb3)
                have HO := hid (one3_any w3)
                clear o3 t3 hv3 hb3 HG HC p0 p1 p2
                go_wp2_with fail
                refine Calls.mono HO.out ?_
                rintro e w4 ⟨g4, rfl, o4, hb4⟩
                have HQ := hid (same3_sl _ _ z3 [1] w4 (HZ3.out.1.later hb4) (Sl.own o4 (Wd.one (by omega))) (by omega) (by simp))
                have HEQ : Hid (decide (z3 = [1]) = decide (gcdI (val xs) (val ys) = 1)) := by
                  show _ = _
                  congr 1
                  rw [← HZ3.out.2.2]
                  exact propext (one_iff HZ3.out.1.wd HZ3.out.2.1)
                rw [HEQ.out, HGG.out] at HQ
                have HB4 := hid (bt HB3.out hb4)
                clear o4 hb4 HO HEQ
                go_wp2_with fail
                refine Calls.mono HQ.out ?_
                rintro e w5 ⟨rfl, hb5⟩
                have HBN := hid (bt HB.out (bt HB4.out hb5))
                clear hb5
                go_wp2_with fail
                go_ret
                exact ⟨rfl, HBN.out⟩
        · rw [decide_eq_false h4] at HT2
          rw [rchk_rough HL.out.1 HL.out.2 (fun h => h4 (rform_trim h).2)]
          clear h3 h4
          go_enter Tryz.func44, Tryz.ntmps44
          go_wp2_with fail
          refine Calls.mono (HT1.out _ HR.out) ?_
          generalize (w.alloc (.cells #[.bool n, .slice a xs.length ca, .slice b ys.length cb] 24)) = X at *
          rintro e w1 ⟨rfl, hb1⟩
          obtain ⟨p0, p1, p2, _⟩ := res_box3 HN.out hb1
          have HC := hid (HT2.out w1 hb1)
          have HB1 := hid (bt HB.out hb1)
          clear hb1
          go_wp2_with fail
          refine Calls.mono HC.out ?_
          rintro e w2 ⟨rfl, hb2⟩
          have HBN := hid (bt HB1.out hb2)
          clear hb2
          go_wp2_with fail
          go_ret
          exact ⟨rfl, HBN.out⟩
      · rw [decide_eq_false h3] at HT1
        rw [rchk_rough HL.out.1 HL.out.2 (fun h => h3 (rform_trim h).1)]
        clear h3
        go_enter Tryz.func44, Tryz.ntmps44
        go_wp2_with fail
        refine Calls.mono (HT1.out _ HR.out) ?_
        rintro e w1 ⟨rfl, hb1⟩
        have HBN := hid (bt HB.out hb1)
        clear hb1
        go_wp2_with fail
        go_ret
        exact ⟨rfl, HBN.out⟩
theorem own_room {w : World} {base e n : Nat} {v : Value} {xs : List Value} (h : w.ownsRow base e 1 v n xs) (hn : 0 < n) : ∃ g cap, v = .slice (some ⟨g, 0, none⟩) n cap ∧ n ≤ cap ∧ cap ≤ 9223372036854775807 := by
  obtain ⟨g, cap, rfl, h1, h2⟩ := own_shape' h hn
  exact ⟨g, cap, rfl, h1, by unfold maxLen at h2; omega⟩
set_option maxHeartbeats 6400000 in
theorem lentRatio_any (n : Bool) (a : Option Addr) (ca : Nat) (xs : List Int) (b : Option Addr) (cb : Nat) (ys : List Int) (w : World) (sx : Sl w (.slice a xs.length ca) xs) (sy : Sl w (.slice b ys.length cb) ys) (lx : xs.length ≤ 549755813888) (ly : ys.length ≤ 549755813888) :
    Calls Tryz.prog 7 #[.agg #[.bool n, .slice a xs.length ca, .slice b ys.length cb]] w fun e w' => ∃ g1 c1 g2 c2, e = .returned (.agg #[.bool n, .slice (some ⟨g1, 0, none⟩) xs.length c1, .slice (some ⟨g2, 0, none⟩) ys.length c2]) ∧ w'.ownsRow w.heap.size 63 1 (.slice (some ⟨g1, 0, none⟩) (xs.length + 3) c1) (xs.length + 3) ((xs ++ marks 3).map (Value.int .u32)) ∧ w'.ownsRow w.heap.size 63 1 (.slice (some ⟨g2, 0, none⟩) (ys.length + 3) c2) (ys.length + 3) ((ys ++ marks 3).map (Value.int .u32)) ∧ g1 < g2 ∧ Below w.heap.size w w' := by
  have HB : Hid (Below w.heap.size w ((w.alloc (.cells #[.bool n, .slice a xs.length ca, .slice b ys.length cb] 24)).alloc (.cells #[.bool false, .slice none 0 0, .slice none 0 0] 24))) := bt (alloc_later _ _) (alloc_later _ _)
  have HA : Hid (Box ((w.alloc (.cells #[.bool n, .slice a xs.length ca, .slice b ys.length cb] 24)).alloc (.cells #[.bool false, .slice none 0 0, .slice none 0 0] 24)) w.heap.size 24 #[.bool n, .slice a xs.length ca, .slice b ys.length cb]) := Box.later (Box.made w _ _) (alloc_later _ _) (by simp)
  have HZ : Hid (Box ((w.alloc (.cells #[.bool n, .slice a xs.length ca, .slice b ys.length cb] 24)).alloc (.cells #[.bool false, .slice none 0 0, .slice none 0 0] 24)) (w.heap.size + 1) 24 #[.bool false, .slice none 0 0, .slice none 0 0]) := by
    have e := Box.made (w.alloc (.cells #[.bool n, .slice a xs.length ca, .slice b ys.length cb] 24)) 24 #[.bool false, .slice none 0 0, .slice none 0 0]
    simp at e
    exact e
  have HS := hid (And.intro (sx.later HB.out) (sy.later HB.out))
  clear sx sy
  go_enter Tryz.func7, Tryz.ntmps7
  go_wp2_with fail
  generalize ((w.alloc (.cells #[.bool n, .slice a xs.length ca, .slice b ys.length cb] 24)).alloc (.cells #[.bool false, .slice none 0 0, .slice none 0 0] 24)) = X at *
  have HK : Hid (∀ V, Below X.heap.size X V → (V.cell? ⟨w.heap.size, 0, none⟩ = some (.bool n) ∧ V.cell? ⟨w.heap.size, 1, none⟩ = some (.slice a xs.length ca) ∧ V.cell? ⟨w.heap.size, 2, none⟩ = some (.slice b ys.length cb))) := fun V hb => by
    obtain ⟨p0, p1, p2, _, _, _⟩ := res_box3 HA.out hb
    exact ⟨p0, p1, p2⟩
  have hs0 := HK.out _ (Below.drew (Below.refl _ X))
  have HL1 : Hid (∀ V, Below X.heap.size X V → Calls Tryz.prog 23 #[.slice a xs.length ca] V fun e V' => ∃ g cap, e = .returned (.slice (some ⟨g, 0, none⟩) (xs.length + 3) cap) ∧ xs.length + 3 ≤ cap ∧ cap ≤ 9223372036854775807 ∧ (xs.length : Int) ≤ (cap : Int) ∧ Hid (V'.ownsRow X.heap.size 63 1 (.slice (some ⟨g, 0, none⟩) (xs.length + 3) cap) (xs.length + 3) ((xs ++ marks 3).map (Value.int .u32)) ∧ Below V.heap.size V V' ∧ Below X.heap.size X V' ∧ V.heap.size ≤ g ∧ g < V'.heap.size) ∧ (V'.cell? ⟨w.heap.size, 0, none⟩ = some (.bool n) ∧ V'.cell? ⟨w.heap.size, 1, none⟩ = some (.slice a xs.length ca) ∧ V'.cell? ⟨w.heap.size, 2, none⟩ = some (.slice b ys.length cb)) ∧ V'.cell? ⟨w.heap.size + 1, 0, none⟩ = some (.bool false) ∧ V'.cell? ⟨w.heap.size + 1, 1, none⟩ = some (.slice none 0 0) ∧ V'.cell? ⟨w.heap.size + 1, 2, none⟩ = some (.slice none 0 0) ∧ V'.frozen? ⟨w.heap.size + 1, 0, none⟩ = false ∧ V'.frozen? ⟨w.heap.size + 1, 1, none⟩ = false ∧ V'.frozen? ⟨w.heap.size + 1, 2, none⟩ = false) := fun V hb => by
    refine Calls.mono (lentWords_sl _ xs _ (HS.out.1.later hb) lx) ?_
    rintro e V' ⟨v1, rfl, o1, hb1⟩
    obtain ⟨g, cap, hv, h1, h2⟩ := own_room o1 (by omega)
    subst hv
    have hbX : Below X.heap.size X V' := bt hb hb1
    exact ⟨g, cap, rfl, h1, h2, by omega, ⟨owns_base o1 hb.size, hb1, hbX, (o1.lt g rfl).1, (o1.lt g rfl).2⟩, HK.out V' hbX, res_box3 HZ.out hbX⟩
  have HL2 : Hid (∀ V, Below X.heap.size X V → Calls Tryz.prog 23 #[.slice b ys.length cb] V fun e V' => ∃ g cap, e = .returned (.slice (some ⟨g, 0, none⟩) (ys.length + 3) cap) ∧ ys.length + 3 ≤ cap ∧ cap ≤ 9223372036854775807 ∧ (ys.length : Int) ≤ (cap : Int) ∧ Hid (V'.ownsRow X.heap.size 63 1 (.slice (some ⟨g, 0, none⟩) (ys.length + 3) cap) (ys.length + 3) ((ys ++ marks 3).map (Value.int .u32)) ∧ Below V.heap.size V V' ∧ Below X.heap.size X V' ∧ V.heap.size ≤ g ∧ g < V'.heap.size) ∧ (V'.cell? ⟨w.heap.size, 0, none⟩ = some (.bool n) ∧ V'.cell? ⟨w.heap.size, 1, none⟩ = some (.slice a xs.length ca) ∧ V'.cell? ⟨w.heap.size, 2, none⟩ = some (.slice b ys.length cb)) ∧ V'.cell? ⟨w.heap.size + 1, 0, none⟩ = some (.bool false) ∧ V'.cell? ⟨w.heap.size + 1, 1, none⟩ = some (.slice none 0 0) ∧ V'.cell? ⟨w.heap.size + 1, 2, none⟩ = some (.slice none 0 0) ∧ V'.frozen? ⟨w.heap.size + 1, 0, none⟩ = false ∧ V'.frozen? ⟨w.heap.size + 1, 1, none⟩ = false ∧ V'.frozen? ⟨w.heap.size + 1, 2, none⟩ = false) := fun V hb => by
    refine Calls.mono (lentWords_sl _ ys _ (HS.out.2.later hb) ly) ?_
    rintro e V' ⟨v1, rfl, o1, hb1⟩
    obtain ⟨g, cap, hv, h1, h2⟩ := own_room o1 (by omega)
    subst hv
    have hbX : Below X.heap.size X V' := bt hb hb1
    exact ⟨g, cap, rfl, h1, h2, by omega, ⟨owns_base o1 hb.size, hb1, hbX, (o1.lt g rfl).1, (o1.lt g rfl).2⟩, HK.out V' hbX, res_box3 HZ.out hbX⟩
  have hx0 : (0 : Int) ≤ (xs.length : Int) := by omega
  have hlx : xs.length ≤ 9223372036854775807 := by omega
  have hy0 : (0 : Int) ≤ (ys.length : Int) := by omega
  have hly : ys.length ≤ 9223372036854775807 := by omega
  clear HS HA
  go_region_held3 (fun V : World => (V.cell? ⟨w.heap.size, 0, none⟩ = some (.bool n) ∧ V.cell? ⟨w.heap.size, 1, none⟩ = some (.slice a xs.length ca) ∧ V.cell? ⟨w.heap.size, 2, none⟩ = some (.slice b ys.length cb))) (first | exact hs2 | exact hs1 | exact hs0 | (simp [hs2, World.cell?_setCell_far]))
    (first
      | (go_at_call 23; with_reducible refine Calls.mono (HL2.out _ HE1.out.2.2.1) ?_; rintro e w2 ⟨g2, c2, rfl, hd1, hd2, hd3, HE2, hs2, r0, r1, r2, f0, f1, f2⟩)
      | (go_at_call 23; with_reducible refine Calls.mono (HL1.out _ (Below.drew (Below.refl _ X))) ?_; rintro e w1 ⟨g1, c1, rfl, hc1, hc2, hc3, HE1, hs1, y0, y1, y2, z0, z1, z2⟩))
  all_goals
    have HZ2 := hid (HZ.out.later HE2.out.2.2.1 HZ.out.lt)
    have HO1 := hid (own_put3 (owns_base (owns_later HE1.out.1 HE2.out.2.1) HB.out.size) (w.heap.size + 1) (own_ne_box (owns_later HE1.out.1 HE2.out.2.1) HZ2.out (by decide)) (.bool n) (.slice (some ⟨g1, 0, none⟩) xs.length c1) (.slice (some ⟨g2, 0, none⟩) ys.length c2))
    have HO2 := hid (own_put3 (owns_base HE2.out.1 HB.out.size) (w.heap.size + 1) (own_ne_box HE2.out.1 HZ2.out (by decide)) (.bool n) (.slice (some ⟨g1, 0, none⟩) xs.length c1) (.slice (some ⟨g2, 0, none⟩) ys.length c2))
    have HBN := hid (below_put3 (bt HB.out HE2.out.2.2.1) (w.heap.size + 1) (by omega) (.bool n) (.slice (some ⟨g1, 0, none⟩) xs.length c1) (.slice (some ⟨g2, 0, none⟩) ys.length c2))
    have HG : Hid (g1 < g2) := by have e1 := HE1.out.2.2.2.2; have e2 := HE2.out.2.2.2.1; show _ < _; omega
    clear HK HL1 HL2 HE1 HE2 HZ HB HZ2 hs0 hs1 hs2 y0 y1 y2 z0 z1 z2
    go_wp2_with fail
    refine bodyPost_ret (v := .agg #[.bool n, .slice (some ⟨g1, 0, none⟩) xs.length c1, .slice (some ⟨g2, 0, none⟩) ys.length c2]) (by simp [results, Tryz.results7, go_sem, r0, r1, r2]) rfl ?_
    exact ⟨g1, c1, g2, c2, rfl, HO1.out, HO2.out, HG.out, HBN.out⟩
set_option maxHeartbeats 6400000 in
theorem keptRatio_any (n : Bool) (a : Option Addr) (ca : Nat) (xs : List Int) (b : Option Addr) (cb : Nat) (ys : List Int) (g1 c1 g2 c2 base : Nat) (w : World) (sx : Sl w (.slice a xs.length ca) xs) (sy : Sl w (.slice b ys.length cb) ys) (lx : xs.length ≤ 274877906944) (ly : ys.length ≤ 274877906944) (o1 : w.ownsRow base 63 1 (.slice (some ⟨g1, 0, none⟩) (xs.length + 3) c1) (xs.length + 3) ((xs ++ marks 3).map (Value.int .u32))) (o2 : w.ownsRow base 63 1 (.slice (some ⟨g2, 0, none⟩) (ys.length + 3) c2) (ys.length + 3) ((ys ++ marks 3).map (Value.int .u32))) :
    Calls Tryz.prog 20 #[.agg #[.bool n, .slice (some ⟨g1, 0, none⟩) xs.length c1, .slice (some ⟨g2, 0, none⟩) ys.length c2], .agg #[.bool n, .slice a xs.length ca, .slice b ys.length cb]] w fun e w' => e = .returned (.bool true) ∧ Below w.heap.size w w' := by
  have hcap1 : xs.length + 3 ≤ c1 ∧ c1 ≤ 9223372036854775807 := by
    obtain ⟨g', cap', hv, h1, h2⟩ := own_room o1 (by omega)
    simp only [Value.slice.injEq, Option.some.injEq, Addr.mk.injEq, and_true, true_and] at hv
    obtain ⟨rfl, rfl⟩ := hv
    exact ⟨h1, h2⟩
  have wf1 : Wd (xs ++ marks 3) := sx.wd.append (Wd.marks 3)
  have lf1 : (xs ++ marks 3).length = xs.length + 3 := by rw [List.length_append, marks_len 3 (by omega)]
  have hcap2 : ys.length + 3 ≤ c2 ∧ c2 ≤ 9223372036854775807 := by
    obtain ⟨g', cap', hv, h1, h2⟩ := own_room o2 (by omega)
    simp only [Value.slice.injEq, Option.some.injEq, Addr.mk.injEq, and_true, true_and] at hv
    obtain ⟨rfl, rfl⟩ := hv
    exact ⟨h1, h2⟩
  have wf2 : Wd (ys ++ marks 3) := sy.wd.append (Wd.marks 3)
  have lf2 : (ys ++ marks 3).length = ys.length + 3 := by rw [List.length_append, marks_len 3 (by omega)]
  have HO := hid (And.intro (Sl.own o1 wf1) (Sl.own o2 wf2))
  have HS := hid (And.intro sx sy)
  have HB : Hid (Below w.heap.size w ((w.alloc (.cells #[.bool n, .slice (some ⟨g1, 0, none⟩) xs.length c1, .slice (some ⟨g2, 0, none⟩) ys.length c2] 24)).alloc (.cells #[.bool n, .slice a xs.length ca, .slice b ys.length cb] 24))) := bt (alloc_later _ _) (alloc_later _ _)
  have HA : Hid (Box ((w.alloc (.cells #[.bool n, .slice (some ⟨g1, 0, none⟩) xs.length c1, .slice (some ⟨g2, 0, none⟩) ys.length c2] 24)).alloc (.cells #[.bool n, .slice a xs.length ca, .slice b ys.length cb] 24)) w.heap.size 24 #[.bool n, .slice (some ⟨g1, 0, none⟩) xs.length c1, .slice (some ⟨g2, 0, none⟩) ys.length c2]) := Box.later (Box.made w _ _) (alloc_later _ _) (by simp)
  have HZ : Hid (Box ((w.alloc (.cells #[.bool n, .slice (some ⟨g1, 0, none⟩) xs.length c1, .slice (some ⟨g2, 0, none⟩) ys.length c2] 24)).alloc (.cells #[.bool n, .slice a xs.length ca, .slice b ys.length cb] 24)) (w.heap.size + 1) 24 #[.bool n, .slice a xs.length ca, .slice b ys.length cb]) := by
    have e := Box.made (w.alloc (.cells #[.bool n, .slice (some ⟨g1, 0, none⟩) xs.length c1, .slice (some ⟨g2, 0, none⟩) ys.length c2] 24)) 24 #[.bool n, .slice a xs.length ca, .slice b ys.length cb]
    simp at e
    exact e
  have hc1 := hcap1.1
  have hm1 := hcap1.2
  have hll1 : ((xs.length : Int) == (xs.length : Int)) = true := by simp
  have hx1 : (0 : Int) ≤ (xs.length : Int) + 3 := by omega
  have hxc1 : (xs.length : Int) + 3 ≤ (c1 : Int) := by omega
  have hwr1 : IntKind.i64.wrap ((xs.length : Int) + 3) = (xs.length : Int) + 3 := by rw [IntKind.wrap_i64]; omega
  have htn1 : ((xs.length : Int) + 3).toNat = xs.length + 3 := by omega
  have hc2 := hcap2.1
  have hm2 := hcap2.2
  have hll2 : ((ys.length : Int) == (ys.length : Int)) = true := by simp
  have hx2 : (0 : Int) ≤ (ys.length : Int) + 3 := by omega
  have hxc2 : (ys.length : Int) + 3 ≤ (c2 : Int) := by omega
  have hwr2 : IntKind.i64.wrap ((ys.length : Int) + 3) = (ys.length : Int) + 3 := by rw [IntKind.wrap_i64]; omega
  have htn2 : ((ys.length : Int) + 3).toNat = ys.length + 3 := by omega
  have hnn : (n == n) = true := by simp
  clear o1 o2 hcap1 hcap2 sx sy
  go_enter Tryz.func20, Tryz.ntmps20
  go_wp2_with fail
  generalize ((w.alloc (.cells #[.bool n, .slice (some ⟨g1, 0, none⟩) xs.length c1, .slice (some ⟨g2, 0, none⟩) ys.length c2] 24)).alloc (.cells #[.bool n, .slice a xs.length ca, .slice b ys.length cb] 24)) = X at *
  have HK : Hid (∀ V, Below X.heap.size X V → (V.cell? ⟨w.heap.size, 0, none⟩ = some (.bool n) ∧ V.cell? ⟨w.heap.size, 1, none⟩ = some (.slice (some ⟨g1, 0, none⟩) xs.length c1) ∧ V.cell? ⟨w.heap.size, 2, none⟩ = some (.slice (some ⟨g2, 0, none⟩) ys.length c2) ∧ V.cell? ⟨w.heap.size + 1, 0, none⟩ = some (.bool n) ∧ V.cell? ⟨w.heap.size + 1, 1, none⟩ = some (.slice a xs.length ca) ∧ V.cell? ⟨w.heap.size + 1, 2, none⟩ = some (.slice b ys.length cb))) := fun V hb => by
    obtain ⟨p0, p1, p2, _, _, _⟩ := res_box3 HA.out hb
    obtain ⟨q0, q1, q2, _, _, _⟩ := res_box3 HZ.out hb
    exact ⟨p0, p1, p2, q0, q1, q2⟩
  have hs0 := HK.out _ (Below.drew (Below.refl _ X))
  have HL1 : Hid (∀ V, Below X.heap.size X V → Calls Tryz.prog 48 #[.slice (some ⟨g1, 0, none⟩) (xs.length + 3) c1, .slice a xs.length ca] V fun e V' => e = .returned (.bool true) ∧ Hid (Below X.heap.size X V') ∧ (V'.cell? ⟨w.heap.size, 0, none⟩ = some (.bool n) ∧ V'.cell? ⟨w.heap.size, 1, none⟩ = some (.slice (some ⟨g1, 0, none⟩) xs.length c1) ∧ V'.cell? ⟨w.heap.size, 2, none⟩ = some (.slice (some ⟨g2, 0, none⟩) ys.length c2) ∧ V'.cell? ⟨w.heap.size + 1, 0, none⟩ = some (.bool n) ∧ V'.cell? ⟨w.heap.size + 1, 1, none⟩ = some (.slice a xs.length ca) ∧ V'.cell? ⟨w.heap.size + 1, 2, none⟩ = some (.slice b ys.length cb))) := fun V hb => by
    have e := keptWords_sl _ _ (xs ++ marks 3) xs V (HO.out.1.later (bt HB.out hb)) (HS.out.1.later (bt HB.out hb)) (by omega) lx
    rw [decide_eq_true rfl] at e
    refine Calls.mono e ?_
    rintro e V' ⟨rfl, hb1⟩
    have hbX : Below X.heap.size X V' := bt hb hb1
    exact ⟨rfl, hbX, HK.out V' hbX⟩
  have HL2 : Hid (∀ V, Below X.heap.size X V → Calls Tryz.prog 48 #[.slice (some ⟨g2, 0, none⟩) (ys.length + 3) c2, .slice b ys.length cb] V fun e V' => e = .returned (.bool true) ∧ Hid (Below X.heap.size X V') ∧ (V'.cell? ⟨w.heap.size, 0, none⟩ = some (.bool n) ∧ V'.cell? ⟨w.heap.size, 1, none⟩ = some (.slice (some ⟨g1, 0, none⟩) xs.length c1) ∧ V'.cell? ⟨w.heap.size, 2, none⟩ = some (.slice (some ⟨g2, 0, none⟩) ys.length c2) ∧ V'.cell? ⟨w.heap.size + 1, 0, none⟩ = some (.bool n) ∧ V'.cell? ⟨w.heap.size + 1, 1, none⟩ = some (.slice a xs.length ca) ∧ V'.cell? ⟨w.heap.size + 1, 2, none⟩ = some (.slice b ys.length cb))) := fun V hb => by
    have e := keptWords_sl _ _ (ys ++ marks 3) ys V (HO.out.2.later (bt HB.out hb)) (HS.out.2.later (bt HB.out hb)) (by omega) ly
    rw [decide_eq_true rfl] at e
    refine Calls.mono e ?_
    rintro e V' ⟨rfl, hb1⟩
    have hbX : Below X.heap.size X V' := bt hb hb1
    exact ⟨rfl, hbX, HK.out V' hbX⟩
  clear HA HZ wf1 wf2 lf1 lf2 HO HS
  go_region_held3 (fun V : World => (V.cell? ⟨w.heap.size, 0, none⟩ = some (.bool n) ∧ V.cell? ⟨w.heap.size, 1, none⟩ = some (.slice (some ⟨g1, 0, none⟩) xs.length c1) ∧ V.cell? ⟨w.heap.size, 2, none⟩ = some (.slice (some ⟨g2, 0, none⟩) ys.length c2) ∧ V.cell? ⟨w.heap.size + 1, 0, none⟩ = some (.bool n) ∧ V.cell? ⟨w.heap.size + 1, 1, none⟩ = some (.slice a xs.length ca) ∧ V.cell? ⟨w.heap.size + 1, 2, none⟩ = some (.slice b ys.length cb))) (first | exact hs2 | exact hs1 | exact hs0 | exact HK.out _ (Below.drew HE1.out))
    (first
      | (go_at_call 48; with_reducible refine Calls.mono (HL2.out _ (by first | exact HE1.out | exact Below.drew HE1.out)) ?_; rintro e w2 ⟨rfl, HE2, hs2⟩)
      | (go_at_call 48; with_reducible refine Calls.mono (HL1.out _ (Below.drew (Below.refl _ X))) ?_; rintro e w1 ⟨rfl, HE1, hs1⟩))
  all_goals
    have HBN := hid (bt HB.out HE2.out)
    clear HK HL1 HL2 HE1 HE2 HB hs0 hs1 hs2
    go_wp2_with fail
    go_ret
    exact ⟨rfl, HBN.out⟩
set_option maxHeartbeats 1600000 in
theorem sameRatio_eq (n : Bool) (v u v' u' : Value) (xs ys : List Int) (w : World) (h : Sl w v xs) (g : Sl w u ys) (h' : Sl w v' xs) (g' : Sl w u' ys) (lx : xs.length ≤ 281474976710656) (ly : ys.length ≤ 281474976710656) :
    Calls Tryz.prog 71 #[.agg #[.bool n, v, u], .agg #[.bool n, v', u']] w fun e w' => e = .returned (.bool true) ∧ Below w.heap.size w w' := by
  have HB : Hid (Below w.heap.size w ((w.alloc (.cells #[.bool n, v, u] 24)).alloc (.cells #[.bool n, v', u'] 24))) := bt (alloc_later _ _) (alloc_later _ _)
  have HN : Hid (Box ((w.alloc (.cells #[.bool n, v, u] 24)).alloc (.cells #[.bool n, v', u'] 24)) w.heap.size 24 #[.bool n, v, u]) := Box.later (Box.made w _ _) (alloc_later _ _) (by simp)
  have HM : Hid (Box ((w.alloc (.cells #[.bool n, v, u] 24)).alloc (.cells #[.bool n, v', u'] 24)) (w.heap.size + 1) 24 #[.bool n, v', u']) := by
    have e := Box.made (w.alloc (.cells #[.bool n, v, u] 24)) 24 #[.bool n, v', u']
    simp at e
    exact e
  have H1 := hid (same_sl v v' xs xs _ (h.later HB.out) (h'.later HB.out) lx lx)
  rw [decide_eq_true rfl] at H1
  have H2 := hid (fun ww (hb : Below _ ((w.alloc (.cells #[.bool n, v, u] 24)).alloc (.cells #[.bool n, v', u'] 24)) ww) => same_sl u u' ys ys ww ((g.later HB.out).later hb) ((g'.later HB.out).later hb) ly ly)
  rw [decide_eq_true rfl] at H2
  have hbb : (n == n) = true := by simp
  obtain ⟨a, ca, rfl, hr⟩ := h
  obtain ⟨b, cb, rfl, gr⟩ := g
  obtain ⟨a', ca', rfl, hr'⟩ := h'
  obtain ⟨b', cb', rfl, gr'⟩ := g'
  clear hr gr hr' gr'
  go_enter Tryz.func71, Tryz.ntmps71
  go_wp2_with fail
  refine Calls.mono H1.out ?_
  generalize ((w.alloc (.cells #[.bool n, .slice a xs.length ca, .slice b ys.length cb] 24)).alloc (.cells #[.bool n, .slice a' xs.length ca', .slice b' ys.length cb'] 24)) = X at *
  rintro e w1 ⟨rfl, hb1⟩
  obtain ⟨p0, p1, p2, _, _, _⟩ := res_box3 HN.out hb1
  obtain ⟨q0, q1, q2, _, _, _⟩ := res_box3 HM.out hb1
  have HC := hid (H2.out w1 hb1)
  have HB1 := hid (bt HB.out hb1)
  clear hb1 H1 H2
  go_wp2_with fail
  refine Calls.mono HC.out ?_
  rintro e w2 ⟨rfl, hb2⟩
  have HBN := hid (bt HB1.out hb2)
  clear hb2 HC
  go_wp2_with fail
  go_ret
  exact ⟨rfl, HBN.out⟩
def Kl6 (V : World) (p : Nat) (v0 v1 v2 v3 v4 v5 : Value) : Prop := V.cell? ⟨p, 0, none⟩ = some v0 ∧ V.cell? ⟨p, 1, none⟩ = some v1 ∧ V.cell? ⟨p, 2, none⟩ = some v2 ∧ V.cell? ⟨p, 3, none⟩ = some v3 ∧ V.cell? ⟨p, 4, none⟩ = some v4 ∧ V.cell? ⟨p, 5, none⟩ = some v5
theorem Kl6.of {V : World} {p t : Nat} {v0 v1 v2 v3 v4 v5 : Value} (h : Box V p t #[v0, v1, v2, v3, v4, v5]) : V.cell? ⟨p, 0, none⟩ = some v0 ∧ V.cell? ⟨p, 1, none⟩ = some v1 ∧ V.cell? ⟨p, 2, none⟩ = some v2 ∧ V.cell? ⟨p, 3, none⟩ = some v3 ∧ V.cell? ⟨p, 4, none⟩ = some v4 ∧ V.cell? ⟨p, 5, none⟩ = some v5 := ⟨h.cell 0, h.cell 1, h.cell 2, h.cell 3, h.cell 4, h.cell 5⟩
theorem kgchain6 {W : World} {b t : Nat} {u0 u1 u2 u3 u4 u5 : Value} (h : Box W b t #[u0, u1, u2, u3, u4, u5]) (ht : 63 ≠ t) (v0 v1 v2 v3 v4 v5 : Value) : ∃ A0 A1 A2 A3 A4 A5, W.setCell ⟨b, 0, none⟩ v0 = A0 ∧ A0.setCell ⟨b, 1, none⟩ v1 = A1 ∧ A1.setCell ⟨b, 2, none⟩ v2 = A2 ∧ A2.setCell ⟨b, 3, none⟩ v3 = A3 ∧ A3.setCell ⟨b, 4, none⟩ v4 = A4 ∧ A4.setCell ⟨b, 5, none⟩ v5 = A5 ∧ (W.cell? ⟨b, 0, none⟩ = some u0 ∧ A0.cell? ⟨b, 1, none⟩ = some u1 ∧ A1.cell? ⟨b, 2, none⟩ = some u2 ∧ A2.cell? ⟨b, 3, none⟩ = some u3 ∧ A3.cell? ⟨b, 4, none⟩ = some u4 ∧ A4.cell? ⟨b, 5, none⟩ = some u5) ∧ (W.frozen? ⟨b, 0, none⟩ = false ∧ A0.frozen? ⟨b, 1, none⟩ = false ∧ A1.frozen? ⟨b, 2, none⟩ = false ∧ A2.frozen? ⟨b, 3, none⟩ = false ∧ A3.frozen? ⟨b, 4, none⟩ = false ∧ A4.frozen? ⟨b, 5, none⟩ = false) ∧
    Hid (Box A5 b t #[v0, v1, v2, v3, v4, v5] ∧ (∀ p t' vs, p ≠ b → Box W p t' vs → Box A5 p t' vs) ∧ (∀ base v n xs, W.ownsRow base 63 1 v n xs → A5.ownsRow base 63 1 v n xs) ∧ (∀ B x, B ≤ b → Below B x W → Below B x A5)) := by
  have h0 : Box _ b t #[v0, u1, u2, u3, u4, u5] := h.set 0 v0
  have h1 : Box _ b t #[v0, v1, u2, u3, u4, u5] := h0.set 1 v1
  have h2 : Box _ b t #[v0, v1, v2, u3, u4, u5] := h1.set 2 v2
  have h3 : Box _ b t #[v0, v1, v2, v3, u4, u5] := h2.set 3 v3
  have h4 : Box _ b t #[v0, v1, v2, v3, v4, u5] := h3.set 4 v4
  have h5 : Box _ b t #[v0, v1, v2, v3, v4, v5] := h4.set 5 v5
  exact ⟨_, _, _, _, _, _, rfl, rfl, rfl, rfl, rfl, rfl, ⟨h.cell 0, h0.cell 1, h1.cell 2, h2.cell 3, h3.cell 4, h4.cell 5⟩, ⟨h.free 0, h0.free 1, h1.free 2, h2.free 3, h3.free 4, h4.free 5⟩, h5, fun p t' vs hne g => ((((((g.other ⟨b, 0, none⟩ v0 hne).other ⟨b, 1, none⟩ v1 hne).other ⟨b, 2, none⟩ v2 hne).other ⟨b, 3, none⟩ v3 hne).other ⟨b, 4, none⟩ v4 hne).other ⟨b, 5, none⟩ v5 hne), fun base v n xs g => kown_put6 g h ht v0 v1 v2 v3 v4 v5, fun B x hB g => kbelow_put6 g hB v0 v1 v2 v3 v4 v5⟩
set_option maxHeartbeats 1600000 in
theorem klentGauss_any (n : Bool) (a : Option Addr) (ca : Nat) (xs : List Int) (b : Option Addr) (cb : Nat) (ys : List Int) (m : Bool) (c : Option Addr) (cc : Nat) (us : List Int) (d : Option Addr) (cd : Nat) (vs : List Int) (w : World) (sx : Sl w (.slice a xs.length ca) xs) (sy : Sl w (.slice b ys.length cb) ys) (su : Sl w (.slice c us.length cc) us) (sw : Sl w (.slice d vs.length cd) vs) (lx : xs.length ≤ 549755813888) (ly : ys.length ≤ 549755813888) (lu : us.length ≤ 549755813888) (lv : vs.length ≤ 549755813888) :
    Calls Tryz.prog 6 #[.agg #[.bool n, .slice a xs.length ca, .slice b ys.length cb, .bool m, .slice c us.length cc, .slice d vs.length cd]] w fun e w' => ∃ g1 c1 g2 c2 g3 c3 g4 c4, e = .returned (.agg #[.bool n, .slice (some ⟨g1, 0, none⟩) xs.length c1, .slice (some ⟨g2, 0, none⟩) ys.length c2, .bool m, .slice (some ⟨g3, 0, none⟩) us.length c3, .slice (some ⟨g4, 0, none⟩) vs.length c4]) ∧ (w'.ownsRow w.heap.size 63 1 (.slice (some ⟨g1, 0, none⟩) (xs.length + 3) c1) (xs.length + 3) ((xs ++ marks 3).map (Value.int .u32)) ∧ w'.ownsRow w.heap.size 63 1 (.slice (some ⟨g2, 0, none⟩) (ys.length + 3) c2) (ys.length + 3) ((ys ++ marks 3).map (Value.int .u32)) ∧ w'.ownsRow w.heap.size 63 1 (.slice (some ⟨g3, 0, none⟩) (us.length + 3) c3) (us.length + 3) ((us ++ marks 3).map (Value.int .u32)) ∧ w'.ownsRow w.heap.size 63 1 (.slice (some ⟨g4, 0, none⟩) (vs.length + 3) c4) (vs.length + 3) ((vs ++ marks 3).map (Value.int .u32))) ∧ (g1 < g2 ∧ g2 < g3 ∧ g3 < g4) ∧ Below w.heap.size w w' := by
  obtain ⟨X, hX⟩ : ∃ X, (w.alloc (.cells #[.bool n, .slice a xs.length ca, .slice b ys.length cb, .bool m, .slice c us.length cc, .slice d vs.length cd] 26)).alloc (.cells #[.bool false, .slice none 0 0, .slice none 0 0, .bool false, .slice none 0 0, .slice none 0 0] 26) = X := ⟨_, rfl⟩
  have b1 : Below w.heap.size w X := by rw [← hX]; exact bt (alloc_later _ _) (alloc_later _ _)
  have HA : Hid (Box X w.heap.size 26 #[.bool n, .slice a xs.length ca, .slice b ys.length cb, .bool m, .slice c us.length cc, .slice d vs.length cd]) := by rw [← hX]; exact (Box.made w _ _).later (alloc_later _ _) (Box.made w _ _).lt
  have HZ : Hid (Box X (w.heap.size + 1) 26 #[.bool false, .slice none 0 0, .slice none 0 0, .bool false, .slice none 0 0, .slice none 0 0]) := by
    have h := Box.made (w.alloc (.cells #[.bool n, .slice a xs.length ca, .slice b ys.length cb, .bool m, .slice c us.length cc, .slice d vs.length cd] 26)) 26 #[.bool false, .slice none 0 0, .slice none 0 0, .bool false, .slice none 0 0, .slice none 0 0]
    rw [show (w.alloc (.cells #[.bool n, .slice a xs.length ca, .slice b ys.length cb, .bool m, .slice c us.length cc, .slice d vs.length cd] 26)).heap.size = w.heap.size + 1 by simp, hX] at h
    exact h
  have HK : Hid (∀ V, Below X.heap.size X V → V.cell? ⟨w.heap.size, 0, none⟩ = some (.bool n) ∧ V.cell? ⟨w.heap.size, 1, none⟩ = some (.slice a xs.length ca) ∧ V.cell? ⟨w.heap.size, 2, none⟩ = some (.slice b ys.length cb) ∧ V.cell? ⟨w.heap.size, 3, none⟩ = some (.bool m) ∧ V.cell? ⟨w.heap.size, 4, none⟩ = some (.slice c us.length cc) ∧ V.cell? ⟨w.heap.size, 5, none⟩ = some (.slice d vs.length cd)) := fun V hv => Kl6.of (HA.out.later hv HA.out.lt)
  have HL1 : Hid (∀ V, Below X.heap.size X V → Calls Tryz.prog 7 #[.agg #[.bool n, .slice a xs.length ca, .slice b ys.length cb]] V fun e V' => ∃ g1 c1 g2 c2, e = .returned (.agg #[.bool n, .slice (some ⟨g1, 0, none⟩) xs.length c1, .slice (some ⟨g2, 0, none⟩) ys.length c2]) ∧ Hid (V'.ownsRow X.heap.size 63 1 (.slice (some ⟨g1, 0, none⟩) (xs.length + 3) c1) (xs.length + 3) ((xs ++ marks 3).map (Value.int .u32)) ∧ V'.ownsRow X.heap.size 63 1 (.slice (some ⟨g2, 0, none⟩) (ys.length + 3) c2) (ys.length + 3) ((ys ++ marks 3).map (Value.int .u32)) ∧ g1 < g2 ∧ g2 < V'.heap.size ∧ Below X.heap.size X V') ∧ (V'.cell? ⟨w.heap.size, 0, none⟩ = some (.bool n) ∧ V'.cell? ⟨w.heap.size, 1, none⟩ = some (.slice a xs.length ca) ∧ V'.cell? ⟨w.heap.size, 2, none⟩ = some (.slice b ys.length cb) ∧ V'.cell? ⟨w.heap.size, 3, none⟩ = some (.bool m) ∧ V'.cell? ⟨w.heap.size, 4, none⟩ = some (.slice c us.length cc) ∧ V'.cell? ⟨w.heap.size, 5, none⟩ = some (.slice d vs.length cd))) := fun V hv => by
    refine Calls.mono (lentRatio_any n a ca xs b cb ys V ((sx.later b1).later hv) ((sy.later b1).later hv) lx ly) ?_
    rintro e V' ⟨g1, c1, g2, c2, rfl, o1, o2, hg, hb⟩
    exact ⟨g1, c1, g2, c2, rfl, ⟨owns_base o1 hv.size, owns_base o2 hv.size, hg, (o2.lt g2 rfl).2, bt hv hb⟩, HK.out _ (bt hv hb)⟩
  have HL2 : Hid (∀ V, Below X.heap.size X V → Calls Tryz.prog 7 #[.agg #[.bool m, .slice c us.length cc, .slice d vs.length cd]] V fun e V' => ∃ g3 c3 g4 c4, e = .returned (.agg #[.bool m, .slice (some ⟨g3, 0, none⟩) us.length c3, .slice (some ⟨g4, 0, none⟩) vs.length c4]) ∧ Hid (V'.ownsRow X.heap.size 63 1 (.slice (some ⟨g3, 0, none⟩) (us.length + 3) c3) (us.length + 3) ((us ++ marks 3).map (Value.int .u32)) ∧ V'.ownsRow X.heap.size 63 1 (.slice (some ⟨g4, 0, none⟩) (vs.length + 3) c4) (vs.length + 3) ((vs ++ marks 3).map (Value.int .u32)) ∧ g3 < g4 ∧ V.heap.size ≤ g3 ∧ Below V.heap.size V V' ∧ Below X.heap.size X V') ∧ (V'.cell? ⟨w.heap.size, 0, none⟩ = some (.bool n) ∧ V'.cell? ⟨w.heap.size, 1, none⟩ = some (.slice a xs.length ca) ∧ V'.cell? ⟨w.heap.size, 2, none⟩ = some (.slice b ys.length cb) ∧ V'.cell? ⟨w.heap.size, 3, none⟩ = some (.bool m) ∧ V'.cell? ⟨w.heap.size, 4, none⟩ = some (.slice c us.length cc) ∧ V'.cell? ⟨w.heap.size, 5, none⟩ = some (.slice d vs.length cd)) ∧ Hid (Box V' (w.heap.size + 1) 26 #[.bool false, .slice none 0 0, .slice none 0 0, .bool false, .slice none 0 0, .slice none 0 0] ∧ Box V' w.heap.size 26 #[.bool n, .slice a xs.length ca, .slice b ys.length cb, .bool m, .slice c us.length cc, .slice d vs.length cd])) := fun V hv => by
    refine Calls.mono (lentRatio_any m c cc us d cd vs V ((su.later b1).later hv) ((sw.later b1).later hv) lu lv) ?_
    rintro e V' ⟨g1, c1, g2, c2, rfl, o1, o2, hg, hb⟩
    have hz := HZ.out.later (bt hv hb) HZ.out.lt
    exact ⟨g1, c1, g2, c2, rfl, ⟨owns_base o1 hv.size, owns_base o2 hv.size, hg, (o1.lt g1 rfl).1, hb, bt hv hb⟩, HK.out _ (bt hv hb), hz, HA.out.later (bt hv hb) HA.out.lt⟩
  have HB1 := hid b1
  obtain ⟨e0, e1, e2, e3, e4, e5⟩ := HK.out X (Below.refl _ _)
  have hs0 := HK.out _ (Below.refl _ X).drew
  have hd0 := hid (Below.refl X.heap.size X).drew
  clear sx sy su sw b1 lx ly lu lv
  go_enter Tryz.func6, Tryz.ntmps6
  go_wp2_with fail
  clear hX
  go_region_held3 (fun V : World => V.cell? ⟨w.heap.size, 0, none⟩ = some (.bool n) ∧ V.cell? ⟨w.heap.size, 1, none⟩ = some (.slice a xs.length ca) ∧ V.cell? ⟨w.heap.size, 2, none⟩ = some (.slice b ys.length cb) ∧ V.cell? ⟨w.heap.size, 3, none⟩ = some (.bool m) ∧ V.cell? ⟨w.heap.size, 4, none⟩ = some (.slice c us.length cc) ∧ V.cell? ⟨w.heap.size, 5, none⟩ = some (.slice d vs.length cd)) (first | exact hs3 | exact hs2 | exact hs1 | exact hs0)
    (first
      | (go_at_call 7; with_reducible refine Calls.mono (HL2.out _ HE1.out.2.2.2.2) ?_; rintro e w2 ⟨g3, c3, g4, c4, rfl, HE2, hs2, HBZ⟩; obtain ⟨A0, A1, A2, A3, A4, A5, k0, k1, k2, k3, k4, k5, ⟨r0, r1, r2, r3, r4, r5⟩, ⟨f0, f1, f2, f3, f4, f5⟩, HA5⟩ := kgchain6 HBZ.out.1 (by decide) (.bool n) (.slice (some ⟨g1, 0, none⟩) xs.length c1) (.slice (some ⟨g2, 0, none⟩) ys.length c2) (.bool m) (.slice (some ⟨g3, 0, none⟩) us.length c3) (.slice (some ⟨g4, 0, none⟩) vs.length c4); have hs3 := Kl6.of (HA5.out.2.1 _ _ _ (by omega) HBZ.out.2))
      | (go_at_call 7; with_reducible refine Calls.mono (HL1.out _ hd0.out) ?_; rintro e w1 ⟨g1, c1, g2, c2, rfl, HE1, hs1⟩))
  all_goals
    obtain ⟨p0, p1, p2, p3, p4, p5⟩ := Kl6.of HA5.out.1
    have HG : Hid (g1 < g2 ∧ g2 < g3 ∧ g3 < g4) := by
      have q1 := HE1.out.2.2.1
      have q2 := HE1.out.2.2.2.1
      have q3 := HE2.out.2.2.1
      have q4 := HE2.out.2.2.2.1
      exact ⟨q1, by omega, q3⟩
    have HO : Hid (_ ∧ _ ∧ _ ∧ _) := And.intro (HA5.out.2.2.1 _ _ _ _ (owns_base (owns_later HE1.out.1 HE2.out.2.2.2.2.1) HB1.out.size)) (And.intro (HA5.out.2.2.1 _ _ _ _ (owns_base (owns_later HE1.out.2.1 HE2.out.2.2.2.2.1) HB1.out.size)) (And.intro (HA5.out.2.2.1 _ _ _ _ (owns_base HE2.out.1 HB1.out.size)) (HA5.out.2.2.1 _ _ _ _ (owns_base HE2.out.2.1 HB1.out.size))))
    have HBN := hid (HA5.out.2.2.2 _ _ (by omega) (bt HB1.out HE2.out.2.2.2.2.2))
    clear HK HL1 HL2 HE1 HE2 HZ HB1 hs0 hs1 hs2 hs3 hd0 HBZ HA5 r0 r1 r2 r3 r4 r5 f0 f1 f2 f3 f4 f5 k0 k1 k2 k3 k4 k5
    go_wp2_with fail
    refine bodyPost_ret (v := .agg #[.bool n, .slice (some ⟨g1, 0, none⟩) xs.length c1, .slice (some ⟨g2, 0, none⟩) ys.length c2, .bool m, .slice (some ⟨g3, 0, none⟩) us.length c3, .slice (some ⟨g4, 0, none⟩) vs.length c4]) (by simp [results, Tryz.results6, go_sem, p0, p1, p2, p3, p4, p5]) rfl ?_
    exact ⟨g1, c1, g2, c2, g3, c3, g4, c4, rfl, HO.out, HG.out, HBN.out⟩
set_option maxHeartbeats 1600000 in
theorem kkeptGauss_any (n : Bool) (a : Option Addr) (ca : Nat) (xs : List Int) (b : Option Addr) (cb : Nat) (ys : List Int) (m : Bool) (c : Option Addr) (cc : Nat) (us : List Int) (d : Option Addr) (cd : Nat) (vs : List Int) (g1 c1 g2 c2 g3 c3 g4 c4 base : Nat) (w : World) (sx : Sl w (.slice a xs.length ca) xs) (sy : Sl w (.slice b ys.length cb) ys) (su : Sl w (.slice c us.length cc) us) (sw : Sl w (.slice d vs.length cd) vs) (lx : xs.length ≤ 274877906944) (ly : ys.length ≤ 274877906944) (lu : us.length ≤ 274877906944) (lv : vs.length ≤ 274877906944)
    (o1 : w.ownsRow base 63 1 (.slice (some ⟨g1, 0, none⟩) (xs.length + 3) c1) (xs.length + 3) ((xs ++ marks 3).map (Value.int .u32))) (o2 : w.ownsRow base 63 1 (.slice (some ⟨g2, 0, none⟩) (ys.length + 3) c2) (ys.length + 3) ((ys ++ marks 3).map (Value.int .u32))) (o3 : w.ownsRow base 63 1 (.slice (some ⟨g3, 0, none⟩) (us.length + 3) c3) (us.length + 3) ((us ++ marks 3).map (Value.int .u32))) (o4 : w.ownsRow base 63 1 (.slice (some ⟨g4, 0, none⟩) (vs.length + 3) c4) (vs.length + 3) ((vs ++ marks 3).map (Value.int .u32))) :
    Calls Tryz.prog 19 #[.agg #[.bool n, .slice (some ⟨g1, 0, none⟩) xs.length c1, .slice (some ⟨g2, 0, none⟩) ys.length c2, .bool m, .slice (some ⟨g3, 0, none⟩) us.length c3, .slice (some ⟨g4, 0, none⟩) vs.length c4], .agg #[.bool n, .slice a xs.length ca, .slice b ys.length cb, .bool m, .slice c us.length cc, .slice d vs.length cd]] w fun e w' => e = .returned (.bool true) ∧ Below w.heap.size w w' := by
  obtain ⟨X, hX⟩ : ∃ X, (w.alloc (.cells #[.bool n, .slice (some ⟨g1, 0, none⟩) xs.length c1, .slice (some ⟨g2, 0, none⟩) ys.length c2, .bool m, .slice (some ⟨g3, 0, none⟩) us.length c3, .slice (some ⟨g4, 0, none⟩) vs.length c4] 26)).alloc (.cells #[.bool n, .slice a xs.length ca, .slice b ys.length cb, .bool m, .slice c us.length cc, .slice d vs.length cd] 26) = X := ⟨_, rfl⟩
  have b1 : Below w.heap.size w X := by rw [← hX]; exact bt (alloc_later _ _) (alloc_later _ _)
  have HA : Hid (Box X w.heap.size 26 #[.bool n, .slice (some ⟨g1, 0, none⟩) xs.length c1, .slice (some ⟨g2, 0, none⟩) ys.length c2, .bool m, .slice (some ⟨g3, 0, none⟩) us.length c3, .slice (some ⟨g4, 0, none⟩) vs.length c4]) := by rw [← hX]; exact (Box.made w _ _).later (alloc_later _ _) (Box.made w _ _).lt
  have HZ : Hid (Box X (w.heap.size + 1) 26 #[.bool n, .slice a xs.length ca, .slice b ys.length cb, .bool m, .slice c us.length cc, .slice d vs.length cd]) := by
    have h := Box.made (w.alloc (.cells #[.bool n, .slice (some ⟨g1, 0, none⟩) xs.length c1, .slice (some ⟨g2, 0, none⟩) ys.length c2, .bool m, .slice (some ⟨g3, 0, none⟩) us.length c3, .slice (some ⟨g4, 0, none⟩) vs.length c4] 26)) 26 #[.bool n, .slice a xs.length ca, .slice b ys.length cb, .bool m, .slice c us.length cc, .slice d vs.length cd]
    rw [show (w.alloc (.cells #[.bool n, .slice (some ⟨g1, 0, none⟩) xs.length c1, .slice (some ⟨g2, 0, none⟩) ys.length c2, .bool m, .slice (some ⟨g3, 0, none⟩) us.length c3, .slice (some ⟨g4, 0, none⟩) vs.length c4] 26)).heap.size = w.heap.size + 1 by simp, hX] at h
    exact h
  have HK : Hid (∀ V, Below X.heap.size X V → (V.cell? ⟨w.heap.size, 0, none⟩ = some (.bool n) ∧ V.cell? ⟨w.heap.size, 1, none⟩ = some (.slice (some ⟨g1, 0, none⟩) xs.length c1) ∧ V.cell? ⟨w.heap.size, 2, none⟩ = some (.slice (some ⟨g2, 0, none⟩) ys.length c2) ∧ V.cell? ⟨w.heap.size, 3, none⟩ = some (.bool m) ∧ V.cell? ⟨w.heap.size, 4, none⟩ = some (.slice (some ⟨g3, 0, none⟩) us.length c3) ∧ V.cell? ⟨w.heap.size, 5, none⟩ = some (.slice (some ⟨g4, 0, none⟩) vs.length c4)) ∧ (V.cell? ⟨w.heap.size + 1, 0, none⟩ = some (.bool n) ∧ V.cell? ⟨w.heap.size + 1, 1, none⟩ = some (.slice a xs.length ca) ∧ V.cell? ⟨w.heap.size + 1, 2, none⟩ = some (.slice b ys.length cb) ∧ V.cell? ⟨w.heap.size + 1, 3, none⟩ = some (.bool m) ∧ V.cell? ⟨w.heap.size + 1, 4, none⟩ = some (.slice c us.length cc) ∧ V.cell? ⟨w.heap.size + 1, 5, none⟩ = some (.slice d vs.length cd))) := fun V hv => ⟨Kl6.of (HA.out.later hv HA.out.lt), Kl6.of (HZ.out.later hv HZ.out.lt)⟩
  have HL1 : Hid (∀ V, Below X.heap.size X V → Calls Tryz.prog 20 #[.agg #[.bool n, .slice (some ⟨g1, 0, none⟩) xs.length c1, .slice (some ⟨g2, 0, none⟩) ys.length c2], .agg #[.bool n, .slice a xs.length ca, .slice b ys.length cb]] V fun e V' => e = .returned (.bool true) ∧ ((V'.cell? ⟨w.heap.size, 0, none⟩ = some (.bool n) ∧ V'.cell? ⟨w.heap.size, 1, none⟩ = some (.slice (some ⟨g1, 0, none⟩) xs.length c1) ∧ V'.cell? ⟨w.heap.size, 2, none⟩ = some (.slice (some ⟨g2, 0, none⟩) ys.length c2) ∧ V'.cell? ⟨w.heap.size, 3, none⟩ = some (.bool m) ∧ V'.cell? ⟨w.heap.size, 4, none⟩ = some (.slice (some ⟨g3, 0, none⟩) us.length c3) ∧ V'.cell? ⟨w.heap.size, 5, none⟩ = some (.slice (some ⟨g4, 0, none⟩) vs.length c4)) ∧ (V'.cell? ⟨w.heap.size + 1, 0, none⟩ = some (.bool n) ∧ V'.cell? ⟨w.heap.size + 1, 1, none⟩ = some (.slice a xs.length ca) ∧ V'.cell? ⟨w.heap.size + 1, 2, none⟩ = some (.slice b ys.length cb) ∧ V'.cell? ⟨w.heap.size + 1, 3, none⟩ = some (.bool m) ∧ V'.cell? ⟨w.heap.size + 1, 4, none⟩ = some (.slice c us.length cc) ∧ V'.cell? ⟨w.heap.size + 1, 5, none⟩ = some (.slice d vs.length cd))) ∧ Below X.heap.size X V') := fun V hv => by
    refine Calls.mono (keptRatio_any n a ca xs b cb ys g1 c1 g2 c2 base V ((sx.later b1).later hv) ((sy.later b1).later hv) lx ly (owns_later (owns_later o1 b1) hv) (owns_later (owns_later o2 b1) hv)) ?_
    rintro e V' ⟨rfl, hb⟩
    exact ⟨rfl, HK.out _ (bt hv hb), bt hv hb⟩
  have HL2 : Hid (∀ V, Below X.heap.size X V → Calls Tryz.prog 20 #[.agg #[.bool m, .slice (some ⟨g3, 0, none⟩) us.length c3, .slice (some ⟨g4, 0, none⟩) vs.length c4], .agg #[.bool m, .slice c us.length cc, .slice d vs.length cd]] V fun e V' => e = .returned (.bool true) ∧ ((V'.cell? ⟨w.heap.size, 0, none⟩ = some (.bool n) ∧ V'.cell? ⟨w.heap.size, 1, none⟩ = some (.slice (some ⟨g1, 0, none⟩) xs.length c1) ∧ V'.cell? ⟨w.heap.size, 2, none⟩ = some (.slice (some ⟨g2, 0, none⟩) ys.length c2) ∧ V'.cell? ⟨w.heap.size, 3, none⟩ = some (.bool m) ∧ V'.cell? ⟨w.heap.size, 4, none⟩ = some (.slice (some ⟨g3, 0, none⟩) us.length c3) ∧ V'.cell? ⟨w.heap.size, 5, none⟩ = some (.slice (some ⟨g4, 0, none⟩) vs.length c4)) ∧ (V'.cell? ⟨w.heap.size + 1, 0, none⟩ = some (.bool n) ∧ V'.cell? ⟨w.heap.size + 1, 1, none⟩ = some (.slice a xs.length ca) ∧ V'.cell? ⟨w.heap.size + 1, 2, none⟩ = some (.slice b ys.length cb) ∧ V'.cell? ⟨w.heap.size + 1, 3, none⟩ = some (.bool m) ∧ V'.cell? ⟨w.heap.size + 1, 4, none⟩ = some (.slice c us.length cc) ∧ V'.cell? ⟨w.heap.size + 1, 5, none⟩ = some (.slice d vs.length cd))) ∧ Below X.heap.size X V') := fun V hv => by
    refine Calls.mono (keptRatio_any m c cc us d cd vs g3 c3 g4 c4 base V ((su.later b1).later hv) ((sw.later b1).later hv) lu lv (owns_later (owns_later o3 b1) hv) (owns_later (owns_later o4 b1) hv)) ?_
    rintro e V' ⟨rfl, hb⟩
    exact ⟨rfl, HK.out _ (bt hv hb), bt hv hb⟩
  have HB1 := hid b1
  obtain ⟨⟨e0, e1, e2, e3, e4, e5⟩, ⟨i0, i1, i2, i3, i4, i5⟩⟩ := HK.out X (Below.refl _ _)
  have hs0 := HK.out _ (Below.refl _ X).drew
  have hd0 := hid (Below.refl X.heap.size X).drew
  clear sx sy su sw b1 lx ly lu lv o1 o2 o3 o4 HA HZ
  go_enter Tryz.func19, Tryz.ntmps19
  go_wp2_with fail
  clear hX
  refine Calls.mono (HL1.out X (Below.refl _ _)) ?_
  rintro e w1 ⟨rfl, hs1, hb1⟩
  have HL3 := hid (HL2.out w1 hb1)
  clear e0 e1 e2 e3 e4 e5 i0 i1 i2 i3 i4 i5 hs0 hd0 HL1 HL2 hb1
  obtain ⟨⟨e0, e1, e2, e3, e4, e5⟩, ⟨i0, i1, i2, i3, i4, i5⟩⟩ := hs1
  go_wp2_with fail
  refine Calls.mono HL3.out ?_
  rintro e w2 ⟨rfl, hs2, hb2⟩
  have HBN := hid (bt HB1.out hb2)
  clear HL3 hs2 hb2 e0 e1 e2 e3 e4 e5 i0 i1 i2 i3 i4 i5
  go_wp2_with fail
  go_ret
  exact ⟨rfl, HBN.out⟩
set_option maxHeartbeats 1600000 in
theorem ksameGauss_eq (n : Bool) (a : Option Addr) (ca : Nat) (xs : List Int) (b : Option Addr) (cb : Nat) (ys : List Int) (m : Bool) (c : Option Addr) (cc : Nat) (us : List Int) (d : Option Addr) (cd : Nat) (vs : List Int) (a2 : Option Addr) (ca2 : Nat) (b2 : Option Addr) (cb2 : Nat) (c2 : Option Addr) (cc2 : Nat) (d2 : Option Addr) (cd2 : Nat) (w : World) (sx : Sl w (.slice a xs.length ca) xs) (sy : Sl w (.slice b ys.length cb) ys) (su : Sl w (.slice c us.length cc) us) (sw : Sl w (.slice d vs.length cd) vs) (sx2 : Sl w (.slice a2 xs.length ca2) xs) (sy2 : Sl w (.slice b2 ys.length cb2) ys) (su2 : Sl w (.slice c2 us.length cc2) us) (sw2 : Sl w (.slice d2 vs.length cd2) vs) (lx : xs.length ≤ 281474976710656) (ly : ys.length ≤ 281474976710656) (lu : us.length ≤ 281474976710656) (lv : vs.length ≤ 281474976710656) :
    Calls Tryz.prog 47 #[.agg #[.bool n, .slice a xs.length ca, .slice b ys.length cb, .bool m, .slice c us.length cc, .slice d vs.length cd], .agg #[.bool n, .slice a2 xs.length ca2, .slice b2 ys.length cb2, .bool m, .slice c2 us.length cc2, .slice d2 vs.length cd2]] w fun e w' => e = .returned (.bool true) ∧ Below w.heap.size w w' := by
  obtain ⟨X, hX⟩ : ∃ X, (w.alloc (.cells #[.bool n, .slice a xs.length ca, .slice b ys.length cb, .bool m, .slice c us.length cc, .slice d vs.length cd] 26)).alloc (.cells #[.bool n, .slice a2 xs.length ca2, .slice b2 ys.length cb2, .bool m, .slice c2 us.length cc2, .slice d2 vs.length cd2] 26) = X := ⟨_, rfl⟩
  have b1 : Below w.heap.size w X := by rw [← hX]; exact bt (alloc_later _ _) (alloc_later _ _)
  have HA : Hid (Box X w.heap.size 26 #[.bool n, .slice a xs.length ca, .slice b ys.length cb, .bool m, .slice c us.length cc, .slice d vs.length cd]) := by rw [← hX]; exact (Box.made w _ _).later (alloc_later _ _) (Box.made w _ _).lt
  have HZ : Hid (Box X (w.heap.size + 1) 26 #[.bool n, .slice a2 xs.length ca2, .slice b2 ys.length cb2, .bool m, .slice c2 us.length cc2, .slice d2 vs.length cd2]) := by
    have h := Box.made (w.alloc (.cells #[.bool n, .slice a xs.length ca, .slice b ys.length cb, .bool m, .slice c us.length cc, .slice d vs.length cd] 26)) 26 #[.bool n, .slice a2 xs.length ca2, .slice b2 ys.length cb2, .bool m, .slice c2 us.length cc2, .slice d2 vs.length cd2]
    rw [show (w.alloc (.cells #[.bool n, .slice a xs.length ca, .slice b ys.length cb, .bool m, .slice c us.length cc, .slice d vs.length cd] 26)).heap.size = w.heap.size + 1 by simp, hX] at h
    exact h
  have HK : Hid (∀ V, Below X.heap.size X V → (V.cell? ⟨w.heap.size, 0, none⟩ = some (.bool n) ∧ V.cell? ⟨w.heap.size, 1, none⟩ = some (.slice a xs.length ca) ∧ V.cell? ⟨w.heap.size, 2, none⟩ = some (.slice b ys.length cb) ∧ V.cell? ⟨w.heap.size, 3, none⟩ = some (.bool m) ∧ V.cell? ⟨w.heap.size, 4, none⟩ = some (.slice c us.length cc) ∧ V.cell? ⟨w.heap.size, 5, none⟩ = some (.slice d vs.length cd)) ∧ (V.cell? ⟨w.heap.size + 1, 0, none⟩ = some (.bool n) ∧ V.cell? ⟨w.heap.size + 1, 1, none⟩ = some (.slice a2 xs.length ca2) ∧ V.cell? ⟨w.heap.size + 1, 2, none⟩ = some (.slice b2 ys.length cb2) ∧ V.cell? ⟨w.heap.size + 1, 3, none⟩ = some (.bool m) ∧ V.cell? ⟨w.heap.size + 1, 4, none⟩ = some (.slice c2 us.length cc2) ∧ V.cell? ⟨w.heap.size + 1, 5, none⟩ = some (.slice d2 vs.length cd2))) := fun V hv => ⟨Kl6.of (HA.out.later hv HA.out.lt), Kl6.of (HZ.out.later hv HZ.out.lt)⟩
  have HL1 := hid (sameRatio_eq n _ _ _ _ xs ys X (sx.later b1) (sy.later b1) (sx2.later b1) (sy2.later b1) lx ly)
  have HL2 := hid (fun V (hv : Below X.heap.size X V) => sameRatio_eq m _ _ _ _ us vs V ((su.later b1).later hv) ((sw.later b1).later hv) ((su2.later b1).later hv) ((sw2.later b1).later hv) lu lv)
  have HB1 := hid b1
  obtain ⟨⟨e0, e1, e2, e3, e4, e5⟩, ⟨i0, i1, i2, i3, i4, i5⟩⟩ := HK.out X (Below.refl _ _)
  clear sx sy su sw sx2 sy2 su2 sw2 b1 lx ly lu lv HA HZ
  go_enter Tryz.func47, Tryz.ntmps47
  go_wp2_with fail
  clear hX
  refine Calls.mono HL1.out ?_
  rintro e w1 ⟨rfl, hb1⟩
  have HL3 := hid (HL2.out w1 hb1)
  have HB2 := hid (bt HB1.out hb1)
  clear e0 e1 e2 e3 e4 e5 i0 i1 i2 i3 i4 i5 HL1 HL2
  obtain ⟨⟨e0, e1, e2, e3, e4, e5⟩, ⟨i0, i1, i2, i3, i4, i5⟩⟩ := HK.out w1 hb1
  clear hb1
  go_wp2_with fail
  refine Calls.mono HL3.out ?_
  rintro e w2 ⟨rfl, hb2⟩
  have HBN := hid (bt HB2.out hb2)
  clear HL3 hb2 e0 e1 e2 e3 e4 e5 i0 i1 i2 i3 i4 i5
  go_wp2_with fail
  go_ret
  exact ⟨rfl, HBN.out⟩
theorem klentf {W : World} {base g cap : Nat} {xs : List Int} (ho : W.ownsRow base 63 1 (.slice (some ⟨g, 0, none⟩) (xs.length + 3) cap) (xs.length + 3) ((xs ++ marks 3).map (Value.int .u32))) : W.ownsRow base 63 1 (.slice (some ⟨g, 0, none⟩) xs.length cap) xs.length (xs.map (Value.int .u32)) := by
  rw [List.map_append] at ho
  exact owns_front (k := 3) ho (by simp)
theorem kp_self {n : Bool} {xs ys : List Int} (wx : Wd xs) (wy : Wd ys) (h : rchk n xs ys = 0) : RTells 0 (rq n xs ys) n xs ys 0 := by
  obtain ⟨lx, ly, tx, ty, y0, s0, g⟩ := rchk_ok h
  have hd := val_pos' wy ty y0
  obtain ⟨m, us, vs, c, e1, e2, e3, r⟩ := rtells_of (n := n) wx tx wy ty hd g
  have e4 := e1 none 0 none 0
  unfold rtoldV at e4
  rw [if_neg (by omega)] at e4
  have hc : c = 0 := by
    simp at e4
    exact e4.2.symm
  subst hc
  have hm : (n && decide (0 < xs.length)) = n := by
    rcases s0 with rfl | s0
    · rfl
    · rw [decide_eq_true s0, Bool.and_true]
  rw [hm] at e4
  have hn : n = m := by simp at e4; exact e4
  subst hn
  rw [if_pos rfl] at e2 e3
  subst e2 e3
  exact r
def KToldC (w : World) (E : Int) (L : Prop) (q1 q2 : Rat) (x : Ending) (w' : World) : Prop :=
  ∃ n a ca xs b cb ys m c cc us d cd vs code, x = .returned (.tuple #[.agg #[.bool n, .slice a (List.length xs) ca, .slice b (List.length ys) cb, .bool m, .slice c (List.length us) cc, .slice d (List.length vs) cd], .int .i64 code]) ∧ (w'.ownsRow w.heap.size 63 1 (.slice a xs.length ca) xs.length (xs.map (Value.int .u32)) ∧ w'.ownsRow w.heap.size 63 1 (.slice b ys.length cb) ys.length (ys.map (Value.int .u32)) ∧ w'.ownsRow w.heap.size 63 1 (.slice c us.length cc) us.length (us.map (Value.int .u32)) ∧ w'.ownsRow w.heap.size 63 1 (.slice d vs.length cd) vs.length (vs.map (Value.int .u32))) ∧ GTells E L q1 q2 n xs ys m us vs code ∧ Below w.heap.size w w' ∧ ∃ W1, Cut w (.slice a xs.length ca) (.slice b ys.length cb) W1 ∧ Cut W1 (.slice c us.length cc) (.slice d vs.length cd) w'
theorem kcut_nil (w w' : World) (h : w.heap.size ≤ w'.heap.size) : Cut w (.slice none 0 0) (.slice none 0 0) w' := ⟨w.heap.size, Nat.le_refl _, h, fun g hg => by simp [Value.ownBlock] at hg, fun g hg => by simp [Value.ownBlock] at hg⟩
set_option maxHeartbeats 800000 in
theorem kpcheck_any (n : Bool) (a : Option Addr) (ca : Nat) (xs : List Int) (b : Option Addr) (cb : Nat) (ys : List Int) (m : Bool) (c : Option Addr) (cc : Nat) (us : List Int) (d : Option Addr) (cd : Nat) (vs : List Int) (w : World) (sx : Sl w (.slice a xs.length ca) xs) (sy : Sl w (.slice b ys.length cb) ys) (su : Sl w (.slice c us.length cc) us) (sw : Sl w (.slice d vs.length cd) vs) (lx : xs.length ≤ 281474976710656) (ly : ys.length ≤ 281474976710656) (lu : us.length ≤ 281474976710656) (lv : vs.length ≤ 281474976710656) :
    Calls Tryz.prog 45 #[.agg #[.bool n, .slice a xs.length ca, .slice b ys.length cb, .bool m, .slice c us.length cc, .slice d vs.length cd]] w fun e w' => e = .returned (.int .i64 (gchk n xs ys m us vs)) ∧ Below w.heap.size w w' := by
  obtain ⟨X, hX⟩ : ∃ X, w.alloc (.cells #[.bool n, .slice a xs.length ca, .slice b ys.length cb, .bool m, .slice c us.length cc, .slice d vs.length cd] 26) = X := ⟨_, rfl⟩
  have b1 : Below w.heap.size w X := by rw [← hX]; exact alloc_later _ _
  have HP : Hid (Box X w.heap.size 26 #[.bool n, .slice a xs.length ca, .slice b ys.length cb, .bool m, .slice c us.length cc, .slice d vs.length cd]) := by rw [← hX]; exact Box.made w _ _
  have HC1 := hid (check3_any n a ca xs b cb ys X (sx.later b1) (sy.later b1) lx ly)
  have HC2 : Hid (∀ V, Below X.heap.size X V → Calls Tryz.prog 44 #[.agg #[.bool m, .slice c us.length cc, .slice d vs.length cd]] V fun e w' => e = .returned (.int .i64 (rchk m us vs)) ∧ Below V.heap.size V w') := fun V hv => check3_any m c cc us d cd vs V ((su.later b1).later hv) ((sw.later b1).later hv) lu lv
  obtain ⟨r1, h1⟩ : ∃ r, rchk n xs ys = r := ⟨_, rfl⟩
  obtain ⟨r2, h2⟩ : ∃ r, rchk m us vs = r := ⟨_, rfl⟩
  obtain ⟨r3, h3⟩ : ∃ r, gchk n xs ys m us vs = r := ⟨_, rfl⟩
  have HE : Hid (r3 = if r1 = 0 then r2 else r1) := by show _ = _; rw [← h3, ← h1, ← h2]; rfl
  rw [h1] at HC1
  rw [h2] at HC2
  rw [h3]
  have HB1 := hid b1
  have e0 : X.cell? ⟨w.heap.size, 0, none⟩ = some (.bool n) := HP.out.cell 0
  have e1 : X.cell? ⟨w.heap.size, 1, none⟩ = some (.slice a xs.length ca) := HP.out.cell 1
  have e2 : X.cell? ⟨w.heap.size, 2, none⟩ = some (.slice b ys.length cb) := HP.out.cell 2
  clear sx sy su sw b1 h1 h2 h3 lx ly lu lv
  by_cases hz : r1 = 0
  · have h3' : r3 = r2 := by rw [HE.out, if_pos hz]
    rw [h3']
    subst hz
    clear HE h3'
    go_enter Tryz.func45, Tryz.ntmps45
    go_wp2_with fail
    clear hX
    refine Calls.mono HC1.out ?_
    rintro e w2 ⟨rfl, b2⟩
    have h := HP.out.later b2 HP.out.lt
    have e3 : w2.cell? ⟨w.heap.size, 3, none⟩ = some (.bool m) := h.cell 3
    have e4 : w2.cell? ⟨w.heap.size, 4, none⟩ = some (.slice c us.length cc) := h.cell 4
    have e5 : w2.cell? ⟨w.heap.size, 5, none⟩ = some (.slice d vs.length cd) := h.cell 5
    have HC3 := hid (HC2.out w2 b2)
    have HB2 := hid (bt HB1.out b2)
    clear e0 e1 e2 h b2 HC1 HC2
    go_wp2_with fail
    refine Calls.mono HC3.out ?_
    rintro e w3 ⟨rfl, b3⟩
    have HB3 := hid (bt HB2.out b3)
    clear b3 HC3 e3 e4 e5
    go_wp2_with fail
    go_ret
    exact ⟨rfl, HB3.out⟩
  · have h3' : r3 = r1 := by rw [HE.out, if_neg hz]
    rw [h3']
    have hz2 : (r1 != 0) = true := by simpa using hz
    clear HE h3' hz
    go_enter Tryz.func45, Tryz.ntmps45
    go_wp2_with fail
    clear hX
    refine Calls.mono HC1.out ?_
    rintro e w2 ⟨rfl, b2⟩
    have HB2 := hid (bt HB1.out b2)
    clear e0 e1 e2 b2 HC1 HC2
    go_wp2_with fail
    go_ret
    exact ⟨rfl, HB2.out⟩
set_option maxHeartbeats 3200000 in
theorem apart_cap (base bl m cp : Nat) (V : Nat → Value) (X : Nat → List Int) (w : World) (h : Lists w base bl m V X) (hm : m ≤ 1000) (hbs : base ≤ w.heap.size) (hcp : m ≤ cp) :
    Calls Tryz.prog 73 #[.slice (some ⟨bl, 0, none⟩) m cp] w fun e w' => e = .returned (.bool true) ∧ Below base w w' := by
  obtain ⟨i0, hi, hz0, hz1, hz2⟩ := info_parts Tryz.infoL
  obtain ⟨hwd, hlen, hown, hap, hrow⟩ := h
  have hbl : bl < w.heap.size := by obtain ⟨cl, h1, _⟩ := hrow; exact block_lt h1
  have HO := hid hown
  have HA := hid hap
  have HR := hid hrow
  have HW := hid hwd
  have HN := hid hlen
  clear hown hap hrow hwd hlen
  go_enter Tryz.func73, Tryz.ntmps73
  go_wp2_with (at_make; refine wpList_make_full _ rfl _ _ 75 rfl w.heap.size 22 i0 (.slice none 0 0) 1 Tryz.underlying75 hi hz0 hz1 _ _ _ _ m rfl rfl (by omega) (by omega) (by rw [hz2]; omega) (by unfold maxLen; omega) (Nat.le_refl _) ?_)
  intro w1 hown1 hgrow1
  have H1 : Hid (I1 w m X 0 w1) := ⟨_, by have := hown1.1; omega, row_whole hown1, fun j hj => by omega, (Below.refl _ _).grown hgrow1 (Nat.le_refl _) (fun k hk => by simp at hk)⟩
  clear hown1 hgrow1
  go_wp2_with fail
  go_loopw [4] (fun t wr => ∃ k : Nat, k ≤ m ∧ t = .int .i64 k ∧ Hid (I1 w m X k wr)) (fun t _ => m - (intOf t).toNat)
  case atStart => exact ⟨0, by omega, rfl, H1⟩
  case round =>
    obtain ⟨k, hk, rfl, HI⟩ := hrel
    by_cases hlt : k < m
    · obtain ⟨us, ul, ug, uu, ub⟩ := HI.out
      have hgw := block_lt ug
      have ubs := ub.size
      have hcl : wr.cell? ⟨bl, k, none⟩ = some (V k) := (ub.cell (p := ⟨bl, k, none⟩) hbl).trans (row_cell HR.out k hlt)
      have hsl : Sl wr (V k) (X k) := (Sl.own (HO.out k hlt) (HW.out k hlt)).later ub
      have hX := HN.out k hlt
      have HS := hid hsl
      obtain ⟨a1, c1, hv, hr⟩ := hsl
      rw [hv] at hcl
      clear uu ub hr
      go_wp2_with fail
      rw [← hv]
      refine (copyWords_sl _ (X k) _ HS.out hX).mono ?_
      rintro e w2 ⟨v, rfl, ho2, hb2⟩
      have HI2 := hid (HI.out.step hlt ho2 hb2)
      have hc2 : w2.cell? ⟨w.heap.size, k, none⟩ = some (us.toArray[k]?.getD undef) := by
        rw [cell_of_row w2 w.heap.size k us.toArray 22 (0, 0) ((hb2.block _ hgw).trans ug)]
        simp [ul, hlt]
      have hf2 : w2.frozen? ⟨w.heap.size, k, none⟩ = false := frozen_of_row w2 w.heap.size k us.toArray 22 ((hb2.block _ hgw).trans ug)
      obtain ⟨a3, c3, hv3, _⟩ := Sl.own ho2 (HW.out k hlt)
      rw [hv3] at HI2 ⊢
      clear ho2 hb2 ug
      go_wp2_with fail
      go_roundw
      case rel => exact ⟨k + 1, by omega, by go_num, HI2⟩
      case measure => simp [intOf]; omega
    · have hkm : k = m := by omega
      subst hkm
      obtain ⟨us, ul, ug, uu, ub⟩ := HI.out
      obtain ⟨w2, hw2⟩ : ∃ w2 : World, w2 = wr := ⟨_, rfl⟩
      subst hw2
      obtain ⟨gw, hgw⟩ : ∃ gw, gw = w.heap.size := ⟨_, rfl⟩
      have H2 : Hid (I2 w base bl gw k V (fun j => us[j]?.getD undef) X 0 w2) := by
        subst hgw
        refine ⟨fun j hj => ?_, fun j hj => ?_, fun j hj g e => ((HO.out j hj).lt g e).2, ?_, ⟨us.toArray, ug, fun j hj => ?_⟩, ub.mono hbs⟩
        · rw [if_neg (by omega)]; exact owns_later (HO.out j hj) ub
        · obtain ⟨u, h1, h2⟩ := uu j hj
          simp only [h1]; exact h2
        · obtain ⟨cl, h1, h2⟩ := HR.out
          exact ⟨cl, (ub.block _ (block_lt h1)).trans h1, h2⟩
        · simp [ul, hj]
      obtain ⟨U, hU⟩ : ∃ U : Nat → Value, U = fun j => us[j]?.getD undef := ⟨_, rfl⟩
      rw [← hU] at H2
      have hgwl : gw < w2.heap.size := by rw [hgw]; exact block_lt ug
      have hb2 : base ≤ w2.heap.size := by omega
      rw [← hgw]
      clear hU ug uu ub HI ul hgw HO HR H1
      go_wp2_with fail
      go_loopw [5] (fun t wr => ∃ i : Nat, i ≤ k ∧ t = .int .i64 i ∧ Hid (I2 w base bl gw k V U X i wr) ∧ w2.heap.size ≤ wr.heap.size) (fun t _ => k - (intOf t).toNat)
      case atStart => exact ⟨0, by omega, rfl, H2, Nat.le_refl _⟩
      case round =>
        obtain ⟨i, hi', rfl, HJ, hws⟩ := hrel
        by_cases hlt : i < k
        · have hcl : wr.cell? ⟨bl, i, none⟩ = some (V i) := row_cell HJ.out.rowL i hlt
          have hcw : wr.cell? ⟨gw, i, none⟩ = some (U i) := row_cell HJ.out.rowW i hlt
          have sv : Sl wr (V i) (X i) := by
            have := HJ.out.lists i hlt
            rw [if_neg (by omega)] at this
            exact Sl.own this (HW.out i hlt)
          have su : Sl wr (U i) (X i) := Sl.own (HJ.out.was i hlt) (HW.out i hlt)
          have hX := HN.out i hlt
          obtain ⟨a1, c1, hv1, hr1⟩ := sv
          obtain ⟨a2, c2, hv2, hr2⟩ := su
          rw [hv1] at hcl
          rw [hv2] at hcw
          have hcld : wr.drew.cell? ⟨bl, i, none⟩ = some (.slice a1 (X i).length c1) := hcl
          have hcwd : wr.drew.cell? ⟨gw, i, none⟩ = some (.slice a2 (X i).length c2) := hcw
          have HC := hid (same_any a1 _ c1 (X i) a2 _ c2 (X i) wr.drew hr1 hr2 (by omega) (by omega))
          clear hr1 hr2
          go_wp2_with fail
          go_region_with (go_at_call 72; refine Calls.mono HC.out ?_; rintro e wa ⟨rfl, hba⟩)
          all_goals
            have hbw : Below wr.heap.size wr wa := ((Below.refl _ wr).drew).trans hba
            have HJ2 := hid (HJ.out.later hbw (by omega))
            have hsz2 := hbw.size
            have hcl2 : wa.cell? ⟨bl, i, none⟩ = some (V i) := row_cell HJ2.out.rowL i hlt
            rw [hv1] at hcl2
            have hown : wa.ownsRow base 63 1 (V i) (X i).length ((X i).map (Value.int .u32)) := by
              have := HJ2.out.lists i hlt
              rwa [if_neg (by omega)] at this
            have HOV := hid (over_sl base _ _ (X i) wa (HW.out i hlt) hown)
            have hdd : decide (X i = X i) = true := by simp
            clear hba hbw hown hcl hcw hcld hcwd HC
            go_wp2_with fail
            rw [← hv1]
            refine Calls.mono HOV.out ?_
            rintro e wb ⟨rfl, hob, hgb⟩
            have HJ3 := hid (HJ2.out.step hlt (by omega) HA.out hob hgb)
            have hs3 := hgb.size
            rw [hv1]
            clear hob hgb
            go_wp2_with fail
            go_roundw
            case rel => exact ⟨i + 1, by omega, by go_num, HJ3, by omega⟩
            case measure => simp [intOf]; omega
        · have hik : i = k := by omega
          subst hik
          obtain ⟨w3, hw3⟩ : ∃ w3 : World, w3 = wr := ⟨_, rfl⟩
          subst hw3
          have hws3 := hws
          have facts : ∀ wr, Below w3.heap.size w3 wr → ∀ c, c < i → ∃ a1 c1 a2 c2, wr.cell? ⟨bl, c, none⟩ = some (.slice a1 (X c).length c1) ∧ wr.cell? ⟨gw, c, none⟩ = some (.slice a2 (X c).length c2) ∧
              ((X c).length = 0 ∨ ∃ b1 o1 b2 o2, a1 = some ⟨b1, o1, none⟩ ∧ a2 = some ⟨b2, o2, none⟩ ∧ (∀ j, j < (X c).length → wr.cell? ⟨b1, o1 + j, none⟩ = some (.int .u32 (4294967295 - (X c)[j]?.getD 0))) ∧
                (∀ j, j < (X c).length → wr.cell? ⟨b2, o2 + j, none⟩ = some (.int .u32 ((X c)[j]?.getD 0)))) := by
            intro wr hb c hc
            have HJ' := HJ.out.later hb (by omega)
            have hcl : wr.cell? ⟨bl, c, none⟩ = some (V c) := row_cell HJ'.rowL c hc
            have hcw : wr.cell? ⟨gw, c, none⟩ = some (U c) := row_cell HJ'.rowW c hc
            have hl := HJ'.lists c hc
            rw [if_pos hc] at hl
            obtain ⟨a1, c1, hv1, r1⟩ := Reads.own hl (HW.out c hc).compl
            obtain ⟨a2, c2, hv2, r2⟩ := Reads.own (HJ'.was c hc) (HW.out c hc)
            refine ⟨a1, c1, a2, c2, by rw [hcl, hv1], by rw [hcw, hv2], ?_⟩
            by_cases h0 : (X c).length = 0
            · exact .inl h0
            · right
              rcases r1.2.2.1 with e | ⟨b1, o1, e1, _, g1⟩
              · omega
              · rcases r2.2.2.1 with e | ⟨b2, o2, e2, _, g2⟩
                · omega
                · exact ⟨b1, o1, b2, o2, e1, e2, fun j hj => by rw [g1 j hj, compl_get _ j hj], g2⟩
          have HB := hid HJ.out.below
          have HF := hid facts
          clear facts HJ H2 hi'
          go_wp2_with fail
          go_loopw [6] (fun t wr => ∃ c : Nat, c ≤ i ∧ t = .int .i64 c ∧ Below w3.heap.size w3 wr) (fun t _ => i - (intOf t).toNat)
          case atStart => exact ⟨0, by omega, rfl, Below.refl _ _⟩
          case round =>
            obtain ⟨c, hc, rfl, hb3⟩ := hrel
            by_cases hlt : c < i
            · obtain ⟨w4, hw4⟩ : ∃ w4 : World, w4 = wr := ⟨_, rfl⟩
              subst hw4
              have hX := HN.out c hlt
              have hwc := HW.out c hlt
              obtain ⟨n, hn⟩ : ∃ n, n = (X c).length := ⟨_, rfl⟩
              rw [← hn] at hX
              have HNN := hid hn
              clear hn
              go_wp2_with fail
              go_loopw [7] (fun t wr => ∃ k : Nat, k ≤ n ∧ t = .int .i64 k ∧ Below w3.heap.size w3 wr) (fun t _ => n - (intOf t).toNat)
              case atStart => exact ⟨0, by omega, rfl, hb3⟩
              case round =>
                obtain ⟨k, hk, rfl, hb4⟩ := hrel
                obtain ⟨a1, c1, a2, c2, f1, f2, f3⟩ := HF.out wr hb4 c hlt
                rw [← HNN.out] at f1 f2 f3
                by_cases hkn : k < n
                · rcases f3 with f3 | ⟨b1, o1, b2, o2, e1, e2, g1, g2⟩
                  · omega
                  · have x1 := g1 k hkn
                    have x2 := g2 k hkn
                    rw [e1] at f1
                    rw [e2] at f2
                    have hbd := hwc.at k
                    obtain ⟨z, hz⟩ : ∃ z, z = (X c)[k]?.getD 0 := ⟨_, rfl⟩
                    rw [← hz] at x1 x2 hbd
                    have hnot := not_u32 z hbd.1 hbd.2
                    have f1d : wr.drew.cell? ⟨bl, c, none⟩ = some (.slice (some ⟨b1, o1, none⟩) n c1) := f1
                    have f2d : wr.drew.cell? ⟨gw, c, none⟩ = some (.slice (some ⟨b2, o2, none⟩) n c2) := f2
                    have x1d : wr.drew.cell? ⟨b1, o1 + k, none⟩ = some (.int .u32 (4294967295 - z)) := x1
                    have x2d : wr.drew.cell? ⟨b2, o2 + k, none⟩ = some (.int .u32 z) := x2
                    have hne : (4294967295 - z != 4294967295 - z) = false := by simp
                    clear hz e1 e2 g1 g2
                    go_wp2
                    go_region
                    all_goals go_wp2
                    all_goals
                      go_roundw
                      case rel => exact ⟨k + 1, by omega, by go_num, hb4.drew⟩
                      case measure => simp [intOf]; omega
                · clear f3
                  go_wp2
                  go_roundw
                  case rel => exact ⟨c + 1, by omega, by go_num, hb4⟩
                  case measure => simp [intOf]; omega
            · go_wp2
              go_ret
              exact ⟨rfl, HB.out.trans (hb3.mono (by omega))⟩
theorem own_slice {w : World} {base e n : Nat} {v : Value} {xs : List Value} (h : w.ownsRow base e 1 v n xs) : ∃ a cap, v = .slice a n cap := by
  rcases h.2 with ⟨h1, h0⟩ | ⟨g, cap, cur, hv, _⟩
  · subst h0; exact ⟨_, _, h1⟩
  · exact ⟨_, _, hv⟩
theorem step_append_own {P : Program} {ops : Array Oper} {o : Oper} {a : Act} {w : World} {K : Act → World → Prop} {Q : Exit → Act → World → Prop} {E : Prop}
    (hg : o.guard = none) (s x : Operand) (t : TypeId) (hop : o.op = Op.call { callee := Callee.builtin Builtin.append, args := #[s, x], argTypes := #[t, t] })
    (base : Nat) (e : TypeId) (i : TypeInfo) (z : Value) (size bytes : Nat) (h1 : P.underlying t = some (.slice e)) (h2 : P.info? e = some i) (h3 : i.zero = some z) (h4 : i.size = size) (h5 : i.bytes = bytes) (h6 : z.cells.size = size) (h7 : 0 < size)
    (v : Value) (n : Nat) (xs : List Value) (hs : a.eval s = v) (hown : w.ownsRow base e size v n xs)
    (ad : Addr) (m c : Nat) (news : List Value) (hx : a.eval x = .slice (some ad) m c) (hn : news.length = m * size) (hc : ∀ j u, news[j]? = some u → w.cell? (ad.add j) = some u) (h1c : ∀ u ∈ news, u.oneCell' = true)
    (b1 : n + m ≤ maxLen) (b2 : (n + m) * bytes ≤ 140737488355328) (hbase : base ≤ w.heap.size)
    (hK : ∀ v' w', w'.ownsRow base e size v' (n + m) (xs ++ news) → w.grownBy w' v.ownBlock → K (a.put o.dst v') w') :
    if Region.wanted o (yielded ops a.tmps) = true then Oper.wp P o a w K Q else E := by
  have hw : Region.wanted o (yielded ops a.tmps) = true := by simp [Region.wanted, hg]
  rw [if_pos hw]
  obtain ⟨v', w', hrun, r1, r2, _⟩ := run_append_own (P := P) w base t o.type e i z size bytes h1 h2 h3 h4 h5 h6 h7 v n xs hown ad m c news hn hc h1c b1 b2 hbase
  unfold Oper.wp
  simp [execOp, hop, resolve, invoke, builtin, hs, hx, hrun, Result.andThen]
  exact hK v' w' r1 r2
theorem two_cells (w : World) (u0 u1 : Value) (t : Nat) : ∀ j u, [u0, u1][j]? = some u → ((w.alloc (.cells #[u0, u1] t)).drew).cell? ((⟨w.heap.size, 0, none⟩ : Addr).add j) = some u := by
  intro j u h
  have hb := Box.made w t #[u0, u1]
  match j, h with
  | 0, h => obtain rfl : u0 = u := by simpa using h
            exact hb.cell 0
  | 1, h => obtain rfl : u1 = u := by simpa using h
            exact hb.cell 1
  | n + 2, h => simp at h
theorem own_row {w : World} {base e n g cap : Nat} {xs : List Value} (h : w.ownsRow base e 1 (.slice (some ⟨g, 0, none⟩) n cap) n xs) : ∃ cl : Array Value, w.heap[g]? = some (.cells cl e (0, 0)) ∧ ∀ j, j < n → cl[j]? = xs[j]? := by
  rcases h.2 with ⟨h1, _⟩ | ⟨g', cap', cur, hv, _, hg, _, _, _, ht⟩
  · cases h1
  · cases hv
    refine ⟨cur, hg, fun j hj => ?_⟩
    rw [← ht, List.getElem?_take, if_pos (by omega), Array.getElem?_toList]
theorem Tryz.infoKg : (Tryz.prog.info? 24).map (fun i => (i.zero, i.size, i.bytes)) = some (some (.agg #[.bool false, .slice none 0 0, .slice none 0 0]), 3, 56) := by kernel_rfl
theorem kg_slice3 {w : World} {base e n s : Nat} {v : Value} {xs : List Value} (h : w.ownsRow base e s v n xs) : ∃ a cap, v = .slice a n cap := by
  rcases h.2 with ⟨h1, h0⟩ | ⟨g, cap, cur, hv, _⟩
  · subst h0; exact ⟨_, _, h1⟩
  · exact ⟨_, _, hv⟩
theorem kg_later3 {w w' : World} {base e n s : Nat} {v : Value} {xs : List Value} (h : w.ownsRow base e s v n xs) (hb : Below w.heap.size w w') : w'.ownsRow base e s v n xs := by
  refine ⟨h.1, h.2.imp id ?_⟩
  rintro ⟨g, cap, cur, rfl, hbg, hg, h1, h2, h3, h4⟩
  refine ⟨g, cap, cur, rfl, hbg, ?_, h1, h2, h3, h4⟩
  rw [hb.block g (by
    have : w.heap[g]?.isSome := by rw [hg]; rfl
    simpa using this)]
  exact hg
theorem kg_six_cells (w : World) (u0 u1 u2 u3 u4 u5 : Value) (t : Nat) : ∀ j u, [u0, u1, u2, u3, u4, u5][j]? = some u → ((w.alloc (.cells #[u0, u1, u2, u3, u4, u5] t)).drew).cell? ((⟨w.heap.size, 0, none⟩ : Addr).add j) = some u := by
  intro j u h
  have hb := Box.made w t #[u0, u1, u2, u3, u4, u5]
  match j, h with
  | 0, h => obtain rfl : u0 = u := by simpa using h
            exact hb.cell 0
  | 1, h => obtain rfl : u1 = u := by simpa using h
            exact hb.cell 1
  | 2, h => obtain rfl : u2 = u := by simpa using h
            exact hb.cell 2
  | 3, h => obtain rfl : u3 = u := by simpa using h
            exact hb.cell 3
  | 4, h => obtain rfl : u4 = u := by simpa using h
            exact hb.cell 4
  | 5, h => obtain rfl : u5 = u := by simpa using h
            exact hb.cell 5
  | n + 6, h => simp at h
theorem kg_row3 {w : World} {base e n g cap : Nat} {xs : List Value} (h : w.ownsRow base e 3 (.slice (some ⟨g, 0, none⟩) n cap) n xs) : ∃ cl : Array Value, w.heap[g]? = some (.cells cl e (0, 0)) ∧ ∀ j, j < n * 3 → cl[j]? = xs[j]? := by
  rcases h.2 with ⟨h1, _⟩ | ⟨g', cap', cur, hv, _, hg, _, _, _, ht⟩
  · cases h1
  · cases hv
    refine ⟨cur, hg, fun j hj => ?_⟩
    rw [← ht, List.getElem?_take, if_pos (by omega), Array.getElem?_toList]
theorem kgood_same {n m : Bool} {xs ys us vs : List Int} (wx : Wd xs) (wy : Wd ys) (wu : Wd us) (wv : Wd vs) (a2 : rchk n xs ys = 0) (b2 : rchk m us vs = 0) (a3 : rq n xs ys = rq m us vs) : n = m ∧ xs = us ∧ ys = vs := by
  obtain ⟨_, _, tx, ty, y0, sx, gx⟩ := rchk_ok a2
  obtain ⟨_, _, tu, tv, v0, su, gu⟩ := rchk_ok b2
  have py := val_pos' wy ty y0
  have pv := val_pos' wv tv v0
  have e1 := fr_inj (x := wval n xs) (d := val ys) (y := wval m us) (e := val vs) (by omega) (by rw [show wval n xs = sg n (val xs) from rfl, gcd_sg]; exact gx) (by omega) (by rw [show wval m us = sg m (val us) from rfl, gcd_sg]; exact gu) a3
  have e2 : n = m ∧ xs = us := by
    have x0 := val_nonneg wx
    have u0 := val_nonneg wu
    have e3 := e1.1
    cases n <;> cases m
    · exact ⟨rfl, trimmed_eq wx wu tx tu e3⟩
    · have e4 : val xs = -(val us) := e3
      have := val_pos' wu tu (su.elim (fun e => by cases e) id)
      omega
    · have e4 : -(val xs) = val us := e3
      have := val_pos' wx tx (sx.elim (fun e => by cases e) id)
      omega
    · have e4 : -(val xs) = -(val us) := e3
      exact ⟨rfl, trimmed_eq wx wu tx tu (by omega)⟩
  exact ⟨e2.1, e2.2, trimmed_eq wy wv ty tv e1.2⟩
theorem GTells.one {E : Int} {L : Prop} {q1 q2 : Rat} {n m : Bool} {xs ys us vs : List Int} {c : Int} {n' m' : Bool} {xs' ys' us' vs' : List Int} {c' : Int} (h : GTells E L q1 q2 n xs ys m us vs c) (g : GTells E L q1 q2 n' xs' ys' m' us' vs' c') : n = n' ∧ xs = xs' ∧ ys = ys' ∧ m = m' ∧ us = us' ∧ vs = vs' ∧ c = c' := by
  by_cases he : E = 0
  · by_cases hl : L
    · obtain ⟨⟨a1, a2, a3, a4, a5, a6⟩, a7⟩ := h.long he hl
      obtain ⟨⟨b1, b2, b3, b4, b5, b6⟩, b7⟩ := g.long he hl
      exact ⟨by rw [a1, b1], by rw [a2, b2], by rw [a3, b3], by rw [a4, b4], by rw [a5, b5], by rw [a6, b6], by rw [a7, b7]⟩
    · obtain ⟨a1, ⟨a2, a3⟩, a4, a5⟩ := h.good he hl
      obtain ⟨b1, ⟨b2, b3⟩, b4, b5⟩ := g.good he hl
      obtain ⟨e1, e2, e3⟩ := kgood_same h.wd.1 h.wd.2.1 g.wd.1 g.wd.2.1 a2 b2 (a3.trans b3.symm)
      obtain ⟨f1, f2, f3⟩ := kgood_same h.wd.2.2.1 h.wd.2.2.2 g.wd.2.2.1 g.wd.2.2.2 a4 b4 (a5.trans b5.symm)
      exact ⟨e1, e2, e3, f1, f2, f3, by rw [a1, b1]⟩
  · obtain ⟨⟨a1, a2, a3, a4, a5, a6⟩, a7⟩ := h.bad he
    obtain ⟨⟨b1, b2, b3, b4, b5, b6⟩, b7⟩ := g.bad he
    exact ⟨by rw [a1, b1], by rw [a2, b2], by rw [a3, b3], by rw [a4, b4], by rw [a5, b5], by rw [a6, b6], by rw [a7, b7]⟩
theorem GTells.few {E : Int} {L : Prop} {q1 q2 : Rat} {n m : Bool} {xs ys us vs : List Int} {c : Int} (h : GTells E L q1 q2 n xs ys m us vs c) : xs.length ≤ 2048 ∧ ys.length ≤ 2048 ∧ us.length ≤ 2048 ∧ vs.length ≤ 2048 := by
  have z : ∀ l : List Int, l = [] → l.length ≤ 2048 := fun l hl => by rw [hl]; simp
  by_cases he : E = 0
  · by_cases hl : L
    · obtain ⟨⟨a1, a2, a3, a4, a5, a6⟩, a7⟩ := h.long he hl
      exact ⟨z _ a2, z _ a3, z _ a5, z _ a6⟩
    · obtain ⟨a1, ⟨a2, a3⟩, a4, a5⟩ := h.good he hl
      obtain ⟨l1, l2, _⟩ := rchk_ok a2
      obtain ⟨l3, l4, _⟩ := rchk_ok a4
      exact ⟨l1, l2, l3, l4⟩
  · obtain ⟨⟨a1, a2, a3, a4, a5, a6⟩, a7⟩ := h.bad he
    exact ⟨z _ a2, z _ a3, z _ a5, z _ a6⟩
def smH (k : Nat) : Bool := decide (k ≤ 60) || (decide (2048 < k) && decide (k < 2057))
set_option maxHeartbeats 800000 in
theorem ksmall_any (a : Option Addr) (k ca : Nat) (w : World) : Calls Tryz.prog 22 #[.slice a k ca, .int .i64 60] w fun e w' => e = .returned (.bool (smH k)) ∧ w' = w := by
  by_cases h1 : k ≤ 60
  · have e : smH k = true := by simp [smH, h1]
    have q1 : (k : Int) ≤ 60 := by omega
    rw [e]
    clear h1 e
    go_enter Tryz.func22, Tryz.ntmps22
    go_wp2_with fail
    go_ret
    exact ⟨rfl, rfl⟩
  · by_cases h2 : 2048 < k
    · by_cases h3 : k < 2057
      · have e : smH k = true := by simp [smH, h2, h3]
        have q1 : ¬ (k : Int) ≤ 60 := by omega
        have q2 : (2048 : Int) < (k : Int) := by omega
        have q3 : (k : Int) < 2057 := by omega
        rw [e]
        clear h1 h2 h3 e
        go_enter Tryz.func22, Tryz.ntmps22
        go_wp2_with fail
        go_ret
        exact ⟨rfl, rfl⟩
      · have e : smH k = false := by simp [smH, h1, h2, h3]
        have q1 : ¬ (k : Int) ≤ 60 := by omega
        have q2 : (2048 : Int) < (k : Int) := by omega
        have q3 : ¬ (k : Int) < 2057 := by omega
        rw [e]
        clear h1 h2 h3 e
        go_enter Tryz.func22, Tryz.ntmps22
        go_wp2_with fail
        go_ret
        exact ⟨rfl, rfl⟩
    · have e : smH k = false := by simp [smH, h1, h2]
      have q1 : ¬ (k : Int) ≤ 60 := by omega
      have q2 : ¬ (2048 : Int) < (k : Int) := by omega
      rw [e]
      clear h1 h2 e
      go_enter Tryz.func22, Tryz.ntmps22
      go_wp2_with fail
      go_ret
      exact ⟨rfl, rfl⟩
set_option maxHeartbeats 800000 in
theorem kSmall_any (n : Bool) (a : Option Addr) (k ca : Nat) (b : Option Addr) (l cb : Nat) (w : World) : Calls Tryz.prog 5 #[.agg #[.bool n, .slice a k ca, .slice b l cb], .int .i64 60] w fun e w' => e = .returned (.bool (smH k && smH l)) ∧ Below w.heap.size w w' := by
  have HB := hid (alloc_later w (.cells #[.bool n, .slice a k ca, .slice b l cb] 24))
  have H1 := hid (fun V => ksmall_any a k ca V)
  have H2 := hid (fun V => ksmall_any b l cb V)
  cases h : smH k
  · rw [h] at H1
    rw [Bool.false_and]
    clear h H2
    go_enter Tryz.func5, Tryz.ntmps5
    go_wp2_with fail
    refine Calls.mono (H1.out _) ?_
    rintro e w1 ⟨rfl, rfl⟩
    go_wp2_with fail
    go_ret
    exact ⟨rfl, HB.out⟩
  · rw [h] at H1
    rw [Bool.true_and]
    generalize smH l = r at *
    clear h
    go_enter Tryz.func5, Tryz.ntmps5
    go_wp2_with fail
    refine Calls.mono (H1.out _) ?_
    rintro e w1 ⟨rfl, rfl⟩
    go_wp2_with fail
    refine Calls.mono (H2.out _) ?_
    rintro e w1 ⟨rfl, rfl⟩
    go_wp2_with fail
    go_ret
    exact ⟨rfl, HB.out⟩
set_option maxHeartbeats 800000 in
theorem kheavy_any (n : Bool) (a : Option Addr) (k1 ca : Nat) (b : Option Addr) (k2 cb : Nat) (m : Bool) (c : Option Addr) (k3 cc : Nat) (d : Option Addr) (k4 cd : Nat) (w : World) :
    Calls Tryz.prog 4 #[.agg #[.bool n, .slice a k1 ca, .slice b k2 cb, .bool m, .slice c k3 cc, .slice d k4 cd]] w fun e w' => e = .returned (.bool (!((smH k1 && smH k2) && (smH k3 && smH k4)))) ∧ Below w.heap.size w w' := by
  obtain ⟨P, hP⟩ : ∃ P, w.alloc (.cells #[.bool n, .slice a k1 ca, .slice b k2 cb, .bool m, .slice c k3 cc, .slice d k4 cd] 26) = P := ⟨_, rfl⟩
  have b1 : Below w.heap.size w P := by rw [← hP]; exact alloc_later _ _
  have HA : Hid (Box P w.heap.size 26 #[.bool n, .slice a k1 ca, .slice b k2 cb, .bool m, .slice c k3 cc, .slice d k4 cd]) := by rw [← hP]; exact Box.made w _ _
  have HS1 := hid (kSmall_any n a k1 ca b k2 cb P)
  have HS2 := hid (fun V => kSmall_any m c k3 cc d k4 cd V)
  have HB := hid b1
  clear b1
  obtain ⟨e0, e1, e2, e3, e4, e5⟩ := Kl6.of HA.out
  cases h1 : (smH k1 && smH k2)
  · rw [h1] at HS1
    rw [Bool.false_and]
    clear h1 HS2
    go_enter Tryz.func4, Tryz.ntmps4
    go_wp2_with fail
    clear hP
    refine Calls.mono HS1.out ?_
    rintro e w1 ⟨rfl, hb⟩
    have HB2 := hid (bt HB.out hb)
    clear hb HS1 e0 e1 e2 e3 e4 e5
    go_wp2_with fail
    go_ret
    exact ⟨rfl, HB2.out⟩
  · rw [h1] at HS1
    rw [Bool.true_and]
    clear h1
    generalize (smH k3 && smH k4) = r at *
    go_enter Tryz.func4, Tryz.ntmps4
    go_wp2_with fail
    clear hP
    refine Calls.mono HS1.out ?_
    rintro e w1 ⟨rfl, hb⟩
    have HB2 := hid (bt HB.out hb)
    clear e0 e1 e2 e3 e4 e5
    obtain ⟨e0, e1, e2, e3, e4, e5⟩ := Kl6.of (HA.out.later hb HA.out.lt)
    clear hb HS1
    go_wp2_with fail
    refine Calls.mono (HS2.out w1) ?_
    rintro e w2 ⟨rfl, hb⟩
    have HB3 := hid (bt HB2.out hb)
    clear hb HS2 e0 e1 e2 e3 e4 e5
    go_wp2_with fail
    go_ret
    exact ⟨rfl, HB3.out⟩
set_option maxHeartbeats 1600000 in
theorem kone_any (n m : Bool) (xs ys us vs : List Int) (a1 : Option Addr) (ca1 : Nat) (b1' : Option Addr) (cb1 : Nat) (c1 : Option Addr) (cc1 : Nat) (d1 : Option Addr) (cd1 : Nat) (a2 : Option Addr) (ca2 : Nat) (b2 : Option Addr) (cb2 : Nat) (c2 : Option Addr) (cc2 : Nat) (d2 : Option Addr) (cd2 : Nat) (a3 : Option Addr) (ca3 : Nat) (b3 : Option Addr) (cb3 : Nat) (c3 : Option Addr) (cc3 : Nat) (d3 : Option Addr) (cd3 : Nat) (e : Int) (w : World) (s1 : (Sl w (.slice a1 xs.length ca1) xs ∧ Sl w (.slice b1' ys.length cb1) ys ∧ Sl w (.slice c1 us.length cc1) us ∧ Sl w (.slice d1 vs.length cd1) vs)) (s2 : (Sl w (.slice a2 xs.length ca2) xs ∧ Sl w (.slice b2 ys.length cb2) ys ∧ Sl w (.slice c2 us.length cc2) us ∧ Sl w (.slice d2 vs.length cd2) vs)) (s3 : (Sl w (.slice a3 xs.length ca3) xs ∧ Sl w (.slice b3 ys.length cb3) ys ∧ Sl w (.slice c3 us.length cc3) us ∧ Sl w (.slice d3 vs.length cd3) vs)) (lx : xs.length ≤ 281474976710656) (ly : ys.length ≤ 281474976710656) (lu : us.length ≤ 281474976710656) (lv : vs.length ≤ 281474976710656) :
    Calls Tryz.prog 18 #[.agg #[.bool n, .slice a1 xs.length ca1, .slice b1' ys.length cb1, .bool m, .slice c1 us.length cc1, .slice d1 vs.length cd1], .agg #[.bool n, .slice a2 xs.length ca2, .slice b2 ys.length cb2, .bool m, .slice c2 us.length cc2, .slice d2 vs.length cd2], .agg #[.bool n, .slice a3 xs.length ca3, .slice b3 ys.length cb3, .bool m, .slice c3 us.length cc3, .slice d3 vs.length cd3], .int .i64 e, .int .i64 e, .int .i64 e] w fun x w' => x = .returned (.bool true) ∧ Below w.heap.size w w' := by
  obtain ⟨X, hX⟩ : ∃ X, ((w.alloc (.cells #[.bool n, .slice a1 xs.length ca1, .slice b1' ys.length cb1, .bool m, .slice c1 us.length cc1, .slice d1 vs.length cd1] 26)).alloc (.cells #[.bool n, .slice a2 xs.length ca2, .slice b2 ys.length cb2, .bool m, .slice c2 us.length cc2, .slice d2 vs.length cd2] 26)).alloc (.cells #[.bool n, .slice a3 xs.length ca3, .slice b3 ys.length cb3, .bool m, .slice c3 us.length cc3, .slice d3 vs.length cd3] 26) = X := ⟨_, rfl⟩
  have b1 : Below w.heap.size w X := by rw [← hX]; exact bt (bt (alloc_later _ _) (alloc_later _ _)) (alloc_later _ _)
  have hz1 : (w.alloc (.cells #[.bool n, .slice a1 xs.length ca1, .slice b1' ys.length cb1, .bool m, .slice c1 us.length cc1, .slice d1 vs.length cd1] 26)).heap.size = w.heap.size + 1 := by simp
  have hz2 : ((w.alloc (.cells #[.bool n, .slice a1 xs.length ca1, .slice b1' ys.length cb1, .bool m, .slice c1 us.length cc1, .slice d1 vs.length cd1] 26)).alloc (.cells #[.bool n, .slice a2 xs.length ca2, .slice b2 ys.length cb2, .bool m, .slice c2 us.length cc2, .slice d2 vs.length cd2] 26)).heap.size = w.heap.size + 2 := by simp
  have HA : Hid (Box X w.heap.size 26 #[.bool n, .slice a1 xs.length ca1, .slice b1' ys.length cb1, .bool m, .slice c1 us.length cc1, .slice d1 vs.length cd1]) := by rw [← hX]; exact (Box.made w _ _).later (bt (alloc_later _ _) (alloc_later _ _)) (Box.made w _ _).lt
  have HZ : Hid (Box X (w.heap.size + 1) 26 #[.bool n, .slice a2 xs.length ca2, .slice b2 ys.length cb2, .bool m, .slice c2 us.length cc2, .slice d2 vs.length cd2]) := by
    have h := Box.made (w.alloc (.cells #[.bool n, .slice a1 xs.length ca1, .slice b1' ys.length cb1, .bool m, .slice c1 us.length cc1, .slice d1 vs.length cd1] 26)) 26 #[.bool n, .slice a2 xs.length ca2, .slice b2 ys.length cb2, .bool m, .slice c2 us.length cc2, .slice d2 vs.length cd2]
    have h2 := h.later (alloc_later _ (.cells #[.bool n, .slice a3 xs.length ca3, .slice b3 ys.length cb3, .bool m, .slice c3 us.length cc3, .slice d3 vs.length cd3] 26)) h.lt
    rw [hz1, hX] at h2
    exact h2
  have HY : Hid (Box X (w.heap.size + 2) 26 #[.bool n, .slice a3 xs.length ca3, .slice b3 ys.length cb3, .bool m, .slice c3 us.length cc3, .slice d3 vs.length cd3]) := by
    have h := Box.made ((w.alloc (.cells #[.bool n, .slice a1 xs.length ca1, .slice b1' ys.length cb1, .bool m, .slice c1 us.length cc1, .slice d1 vs.length cd1] 26)).alloc (.cells #[.bool n, .slice a2 xs.length ca2, .slice b2 ys.length cb2, .bool m, .slice c2 us.length cc2, .slice d2 vs.length cd2] 26)) 26 #[.bool n, .slice a3 xs.length ca3, .slice b3 ys.length cb3, .bool m, .slice c3 us.length cc3, .slice d3 vs.length cd3]
    rw [hz2, hX] at h
    exact h
  have HL1 := hid (ksameGauss_eq n a1 ca1 xs b1' cb1 ys m c1 cc1 us d1 cd1 vs a3 ca3 b3 cb3 c3 cc3 d3 cd3 X (s1.1.later b1) (s1.2.1.later b1) (s1.2.2.1.later b1) (s1.2.2.2.later b1) (s3.1.later b1) (s3.2.1.later b1) (s3.2.2.1.later b1) (s3.2.2.2.later b1) lx ly lu lv)
  have HL2 := hid (fun V (hv : Below X.heap.size X V) => ksameGauss_eq n a2 ca2 xs b2 cb2 ys m c2 cc2 us d2 cd2 vs a3 ca3 b3 cb3 c3 cc3 d3 cd3 V ((s2.1.later b1).later hv) ((s2.2.1.later b1).later hv) ((s2.2.2.1.later b1).later hv) ((s2.2.2.2.later b1).later hv) ((s3.1.later b1).later hv) ((s3.2.1.later b1).later hv) ((s3.2.2.1.later b1).later hv) ((s3.2.2.2.later b1).later hv) lx ly lu lv)
  have HB1 := hid b1
  obtain ⟨e0, e1, e2, e3, e4, e5⟩ := Kl6.of HA.out
  obtain ⟨i0, i1, i2, i3, i4, i5⟩ := Kl6.of HY.out
  clear s1 s2 s3 b1 lx ly lu lv hz1 hz2
  go_enter Tryz.func18, Tryz.ntmps18
  go_wp2_with fail
  clear hX
  refine Calls.mono HL1.out ?_
  rintro x w1 ⟨rfl, hb1⟩
  have HL3 := hid (HL2.out w1 hb1)
  have HB2 := hid (bt HB1.out hb1)
  clear e0 e1 e2 e3 e4 e5 i0 i1 i2 i3 i4 i5 HL1 HL2
  obtain ⟨e0, e1, e2, e3, e4, e5⟩ := Kl6.of (HZ.out.later hb1 HZ.out.lt)
  obtain ⟨i0, i1, i2, i3, i4, i5⟩ := Kl6.of (HY.out.later hb1 HY.out.lt)
  clear hb1
  go_wp2_with fail
  refine Calls.mono HL3.out ?_
  rintro x w2 ⟨rfl, hb2⟩
  have HBN := hid (bt HB2.out hb2)
  clear HL3 hb2 e0 e1 e2 e3 e4 e5 i0 i1 i2 i3 i4 i5
  go_wp2_with fail
  go_ret
  exact ⟨rfl, HBN.out⟩
set_option maxHeartbeats 800000 in
theorem times3_any (v u : Value) (xs ys : List Int) (w : World) (h : Sl w v xs) (g : Sl w u ys) (hl : xs.length + ys.length ≤ 8192) (tx : Trimmed xs) (ty : Trimmed ys) :
    Calls Tryz.prog 62 #[v, u] w (Told1 w (val xs * val ys)) := by
  have HT := hid (prod_wide h.wd g.wd hl)
  have HH := hid (refMul_sl v u xs ys w h g (by omega) (by omega))
  rw [both_good (chk_good (by omega) tx) (chk_good (by omega) ty)] at HH
  obtain ⟨a, cap, rfl, hr⟩ := h
  obtain ⟨b, cap', rfl, gr⟩ := g
  clear hr gr
  go_enter Tryz.func62, Tryz.ntmps62
  go_wp2_with fail
  refine Calls.mono HH.out ?_
  rintro e w1 ⟨v1, zs, code, rfl, o1, t1, hb1⟩
  obtain ⟨rfl, hv1⟩ := t1.good rfl HT.out
  obtain ⟨a1, c1, hs1⟩ := own_slice' o1
  subst hs1
  have HE := hid (And.intro o1 (And.intro t1.wd (And.intro t1.trim (And.intro hv1 hb1))))
  clear o1 t1 hv1 hb1 HH
  go_wp2_with fail
  go_ret
  exact ⟨_, zs, rfl, HE.out.1, HE.out.2.1, HE.out.2.2.1, HE.out.2.2.2.1, HE.out.2.2.2.2⟩
def SgNum (w : World) (t : Int) (x : Ending) (w' : World) : Prop := ∃ k v zs, x = .returned (.tuple #[.bool k, v]) ∧ w'.ownsRow w.heap.size 63 1 v zs.length (zs.map (Value.int .u32)) ∧ Wd zs ∧ Trimmed zs ∧ sg k (val zs) = t ∧ Below w.heap.size w w'
set_option maxHeartbeats 1600000 in
theorem signed3_any (n : Bool) (v : Value) (xs : List Int) (m : Bool) (u : Value) (ys : List Int) (w : World) (h : Sl w v xs) (g : Sl w u ys) (lx : xs.length ≤ 8191) (ly : ys.length ≤ 8191) (tx : Trimmed xs) (ty : Trimmed ys) :
    Calls Tryz.prog 76 #[.bool n, v, .bool m, u] w (SgNum w (sg n (val xs) + sg m (val ys))) := by
  have wx := h.wd
  have wy := g.wd
  have x0 := val_nonneg wx
  have y0 := val_nonneg wy
  have hb0 := both_good (chk_good (by omega) tx) (chk_good (by omega) ty)
  have hb1 := both_good (chk_good (by omega) ty) (chk_good (by omega) tx)
  by_cases hnm : n = m
  · subst hnm
    have HT : Hid (val xs + val ys < wide) := sum_wide wx wy lx ly
    have HH := hid (refAdd_sl v u xs ys w h g (by omega) (by omega))
    rw [hb0] at HH
    have hnn : (n == n) = true := by simp
    obtain ⟨a, cap, rfl, hr⟩ := h
    obtain ⟨b, cap', rfl, gr⟩ := g
    clear hr gr
    go_enter Tryz.func76, Tryz.ntmps76
    go_wp2_with fail
    refine Calls.mono HH.out ?_
    rintro e w1 ⟨v1, zs, code, rfl, o1, t1, hb1⟩
    obtain ⟨rfl, hv1⟩ := t1.good rfl HT.out
    obtain ⟨a1, c1, hs1⟩ := own_slice' o1
    subst hs1
    have HE := hid (And.intro o1 (And.intro t1.wd (And.intro t1.trim (And.intro hv1 hb1))))
    clear o1 t1 hv1 hb1 HH
    go_wp2_with fail
    go_ret2
    exact ⟨n, _, zs, rfl, HE.out.1, HE.out.2.1, HE.out.2.2.1, by rw [HE.out.2.2.2.1]; cases n <;> simp [sg] <;> omega, HE.out.2.2.2.2⟩
  · have hnn : (n == m) = false := by simp [hnm]
    have HM : Hid (m = !n) := by show _ = _; cases n <;> cases m <;> simp_all
    have HC := hid (refCompare_sl v u xs ys w h g (by omega) (by omega))
    have HW : Hid (val xs < wide ∧ val ys < wide) := ⟨Int.lt_of_lt_of_le (val_lt wx) (pw_le (by omega)), Int.lt_of_lt_of_le (val_lt wy) (pw_le (by omega))⟩
    by_cases hlt : val xs < val ys
    · have HH := hid (refSub_sl u v ys xs w g h (by omega) (by omega))
      rw [hb1, if_pos rfl, if_neg (by omega)] at HH
      rw [cmpI_lt hlt] at HC
      have HLT := hid hlt
      obtain ⟨a, cap, rfl, hr⟩ := h
      obtain ⟨b, cap', rfl, gr⟩ := g
      clear hr gr hnm hlt
      go_enter Tryz.func76, Tryz.ntmps76
      go_wp2_with fail
      refine Calls.mono HC.out ?_
      rintro e w0 ⟨rfl, rfl⟩
      go_wp2_with fail
      refine Calls.mono HH.out ?_
      rintro e w1 ⟨v1, zs, code, rfl, o1, t1, hb1⟩
      obtain ⟨rfl, hv1⟩ := t1.good rfl (by have := HW.out; omega)
      obtain ⟨a1, c1, hs1⟩ := own_slice' o1
      subst hs1
      have HE := hid (And.intro o1 (And.intro t1.wd (And.intro t1.trim (And.intro hv1 hb1))))
      clear o1 t1 hv1 hb1 HH
      go_wp2_with fail
      go_ret2
      exact ⟨m, _, zs, rfl, HE.out.1, HE.out.2.1, HE.out.2.2.1, by rw [HE.out.2.2.2.1, HM.out]; cases n <;> simp [sg] <;> omega, HE.out.2.2.2.2⟩
    · have HH := hid (refSub_sl v u xs ys w h g (by omega) (by omega))
      rw [hb0, if_pos rfl, if_neg (by omega)] at HH
      have hc : ¬ (cmpI (val xs) (val ys)) < 0 := by unfold cmpI; rw [if_neg hlt]; split <;> omega
      obtain ⟨R, hR⟩ : ∃ R, cmpI (val xs) (val ys) = R := ⟨_, rfl⟩
      rw [hR] at HC hc
      obtain ⟨a, cap, rfl, hr⟩ := h
      obtain ⟨b, cap', rfl, gr⟩ := g
      clear hr gr hnm hR
      have HLT := hid hlt
      clear hlt
      cases n with
      | false =>
        go_enter Tryz.func76, Tryz.ntmps76
        go_wp2_with fail
        refine Calls.mono HC.out ?_
        rintro e w0 ⟨rfl, rfl⟩
        go_wp2_with fail
        refine Calls.mono HH.out ?_
        rintro e w1 ⟨v1, zs, code, rfl, o1, t1, hb1⟩
        obtain ⟨rfl, hv1⟩ := t1.good rfl (by have := HW.out; omega)
        obtain ⟨a1, c1, hs1⟩ := own_slice' o1
        subst hs1
        have HE := hid (And.intro o1 (And.intro t1.wd (And.intro t1.trim (And.intro hv1 hb1))))
        clear o1 t1 hv1 hb1 HH
        go_wp2_with fail
        go_ret2
        exact ⟨false, _, zs, rfl, HE.out.1, HE.out.2.1, HE.out.2.2.1, by rw [HE.out.2.2.2.1, HM.out]; simp [sg]; omega, HE.out.2.2.2.2⟩
      | true =>
        go_enter Tryz.func76, Tryz.ntmps76
        go_wp2_with fail
        refine Calls.mono HC.out ?_
        rintro e w0 ⟨rfl, rfl⟩
        go_wp2_with fail
        refine Calls.mono HH.out ?_
        rintro e w1 ⟨v1, zs, code, rfl, o1, t1, hb1⟩
        obtain ⟨rfl, hv1⟩ := t1.good rfl (by have := HW.out; omega)
        obtain ⟨a1, c1, hs1⟩ := own_slice' o1
        subst hs1
        have HE := hid (And.intro o1 (And.intro t1.wd (And.intro t1.trim (And.intro hv1 hb1))))
        have HV : Hid (sg (decide (0 < zs.length)) (val zs) = sg true (val xs) + sg m (val ys)) := by
          show _ = _
          rw [HM.out]
          by_cases hz : 0 < zs.length
          · rw [decide_eq_true hz]; simp [sg]; omega
          · have e0 : val zs = 0 := trimmed_zero' (by omega)
            rw [decide_eq_false hz]; simp [sg]; omega
        clear o1 t1 hv1 hb1 HH
        go_wp2_with fail
        go_ret2
        exact ⟨decide (0 < zs.length), _, zs, rfl, HE.out.1, HE.out.2.1, HE.out.2.2.1, HV.out, HE.out.2.2.2.2⟩
theorem rq_sum {n m k : Bool} {xs ys us vs : List Int} {T D : Int} (hy : 0 < val ys) (hv : 0 < val vs) (hT : sg k T = sg n (val xs * val vs) + sg m (val us * val ys)) (hD : D = val ys * val vs) : Rat.divInt (sg k T) D = rq n xs ys + rq m us vs := by
  unfold rq
  rw [Rat.divInt_add_divInt _ _ (by omega) (by omega), hD, hT, sg_mul, sg_mul]
  rfl
set_option maxHeartbeats 6400000 in
theorem add3_any (n : Bool) (a : Option Addr) (ca : Nat) (xs : List Int) (b : Option Addr) (cb : Nat) (ys : List Int) (m : Bool) (c : Option Addr) (cc : Nat) (us : List Int) (d : Option Addr) (cd : Nat) (vs : List Int) (w : World) (sx : Sl w (.slice a xs.length ca) xs) (sy : Sl w (.slice b ys.length cb) ys) (su : Sl w (.slice c us.length cc) us) (sv : Sl w (.slice d vs.length cd) vs) (lx : xs.length ≤ 2048) (ly : ys.length ≤ 2048) (lu : us.length ≤ 2048) (lv : vs.length ≤ 2048) (tx : Trimmed xs) (ty : Trimmed ys) (tu : Trimmed us) (tv : Trimmed vs) (hy : 0 < val ys) (hv : 0 < val vs) :
    Calls Tryz.prog 55 #[.agg #[.bool n, .slice a xs.length ca, .slice b ys.length cb], .agg #[.bool m, .slice c us.length cc, .slice d vs.length cd]] w (RTold w 0 (rq n xs ys + rq m us vs)) := by
  have wx := sx.wd
  have wy := sy.wd
  have wu := su.wd
  have wv := sv.wd
  have HB : Hid (Below w.heap.size w (((w.alloc (.cells #[.bool n, .slice a xs.length ca, .slice b ys.length cb] 24)).alloc (.cells #[.bool m, .slice c us.length cc, .slice d vs.length cd] 24)).alloc (.cells #[.bool false, .slice none 0 0, .slice none 0 0] 24))) := bt (bt (alloc_later _ _) (alloc_later _ _)) (alloc_later _ _)
  have HZ : Hid (Box (((w.alloc (.cells #[.bool n, .slice a xs.length ca, .slice b ys.length cb] 24)).alloc (.cells #[.bool m, .slice c us.length cc, .slice d vs.length cd] 24)).alloc (.cells #[.bool false, .slice none 0 0, .slice none 0 0] 24)) (w.heap.size + 1 + 1) 24 #[.bool false, .slice none 0 0, .slice none 0 0]) := by
    have e := Box.made ((w.alloc (.cells #[.bool n, .slice a xs.length ca, .slice b ys.length cb] 24)).alloc (.cells #[.bool m, .slice c us.length cc, .slice d vs.length cd] 24)) 24 #[.bool false, .slice none 0 0, .slice none 0 0]
    simp at e
    exact e
  have HN : Hid (Box (((w.alloc (.cells #[.bool n, .slice a xs.length ca, .slice b ys.length cb] 24)).alloc (.cells #[.bool m, .slice c us.length cc, .slice d vs.length cd] 24)).alloc (.cells #[.bool false, .slice none 0 0, .slice none 0 0] 24)) w.heap.size 24 #[.bool n, .slice a xs.length ca, .slice b ys.length cb]) := Box.later (Box.made w _ _) (bt (alloc_later _ _) (alloc_later _ _)) (by simp)
  have HM : Hid (Box (((w.alloc (.cells #[.bool n, .slice a xs.length ca, .slice b ys.length cb] 24)).alloc (.cells #[.bool m, .slice c us.length cc, .slice d vs.length cd] 24)).alloc (.cells #[.bool false, .slice none 0 0, .slice none 0 0] 24)) (w.heap.size + 1) 24 #[.bool m, .slice c us.length cc, .slice d vs.length cd]) := by
    have e := Box.later (Box.made (w.alloc (.cells #[.bool n, .slice a xs.length ca, .slice b ys.length cb] 24)) 24 #[.bool m, .slice c us.length cc, .slice d vs.length cd]) (alloc_later ((w.alloc (.cells #[.bool n, .slice a xs.length ca, .slice b ys.length cb] 24)).alloc (.cells #[.bool m, .slice c us.length cc, .slice d vs.length cd] 24)) (.cells #[.bool false, .slice none 0 0, .slice none 0 0] 24)) (by simp)
    simp at e
    exact e
  have HXS : Hid (w.heap.size + 1 + 1 < (((w.alloc (.cells #[.bool n, .slice a xs.length ca, .slice b ys.length cb] 24)).alloc (.cells #[.bool m, .slice c us.length cc, .slice d vs.length cd] 24)).alloc (.cells #[.bool false, .slice none 0 0, .slice none 0 0] 24)).heap.size) := HZ.out.lt
  have HSL := hid (And.intro (sx.later HB.out) (And.intro (sy.later HB.out) (And.intro (su.later HB.out) (sv.later HB.out))))
  have HP := hid (And.intro hy hv)
  have HTT := hid (And.intro tx (And.intro ty (And.intro tu tv)))
  have HNN : Hid (0 ≤ val xs ∧ 0 ≤ val us ∧ 0 ≤ val ys ∧ 0 ≤ val vs) := ⟨val_nonneg wx, val_nonneg wu, val_nonneg wy, val_nonneg wv⟩
  have HPL : Hid (val xs * val vs < 4294967296 ^ 4096 ∧ val us * val ys < 4294967296 ^ 4096 ∧ val ys * val vs < 4294967296 ^ 4096) := ⟨mul_4096 (val_nonneg wx) (below2048 wx lx) (val_nonneg wv) (below2048 wv lv), mul_4096 (val_nonneg wu) (below2048 wu lu) (val_nonneg wy) (below2048 wy ly), mul_4096 (val_nonneg wy) (below2048 wy ly) (val_nonneg wv) (below2048 wv lv)⟩
  clear sx sy su sv tx ty tu tv hy hv wx wy wu wv
  go_enter Tryz.func55, Tryz.ntmps55
  go_wp2_with fail
  generalize (((w.alloc (.cells #[.bool n, .slice a xs.length ca, .slice b ys.length cb] 24)).alloc (.cells #[.bool m, .slice c us.length cc, .slice d vs.length cd] 24)).alloc (.cells #[.bool false, .slice none 0 0, .slice none 0 0] 24)) = X at *
  have HK : Hid (∀ V, Below X.heap.size X V → V.cell? ⟨w.heap.size, 0, none⟩ = some (.bool n) ∧ V.cell? ⟨w.heap.size, 1, none⟩ = some (.slice a xs.length ca) ∧ V.cell? ⟨w.heap.size, 2, none⟩ = some (.slice b ys.length cb) ∧ V.cell? ⟨w.heap.size + 1, 0, none⟩ = some (.bool m) ∧ V.cell? ⟨w.heap.size + 1, 1, none⟩ = some (.slice c us.length cc) ∧ V.cell? ⟨w.heap.size + 1, 2, none⟩ = some (.slice d vs.length cd)) := fun V hb => by
    obtain ⟨p0, p1, p2, _⟩ := res_box3 HN.out hb
    obtain ⟨q0, q1, q2, _⟩ := res_box3 HM.out hb
    exact ⟨p0, p1, p2, q0, q1, q2⟩
  have hs0 := HK.out _ (Below.drew (Below.refl _ X))
  have HBR := hid (Below.drew (Below.refl X.heap.size X))
  have H1 := hid (fun ww (hv : Below X.heap.size X ww) => told1_in _ HK.out ww hv (times3_any _ _ xs vs ww (HSL.out.1.later hv) (HSL.out.2.2.2.later hv) (by omega) HTT.out.1 HTT.out.2.2.2))
  have H2 := hid (fun ww (hv : Below X.heap.size X ww) => told1_in _ HK.out ww hv (times3_any _ _ us ys ww (HSL.out.2.2.1.later hv) (HSL.out.2.1.later hv) (by omega) HTT.out.2.2.1 HTT.out.2.1))
  have H3 : Hid (∀ ww, Below X.heap.size X ww → ∀ a4 z4 c4 a5 z5 c5, One X ww (.slice a4 (List.length z4) c4) z4 (val xs * val vs) → One X ww (.slice a5 (List.length z5) c5) z5 (val us * val ys) → Calls Tryz.prog 76 #[.bool n, .slice a4 z4.length c4, .bool m, .slice a5 z5.length c5] ww fun e w' => ∃ k a6 z6 c6, e = .returned (.tuple #[.bool k, .slice a6 (List.length z6) c6]) ∧ Hid (∃ T, One X w' (.slice a6 (List.length z6) c6) z6 T ∧ sg k T = sg n (val xs * val vs) + sg m (val us * val ys)) ∧ (w'.cell? ⟨w.heap.size, 0, none⟩ = some (.bool n) ∧ w'.cell? ⟨w.heap.size, 1, none⟩ = some (.slice a xs.length ca) ∧ w'.cell? ⟨w.heap.size, 2, none⟩ = some (.slice b ys.length cb) ∧ w'.cell? ⟨w.heap.size + 1, 0, none⟩ = some (.bool m) ∧ w'.cell? ⟨w.heap.size + 1, 1, none⟩ = some (.slice c us.length cc) ∧ w'.cell? ⟨w.heap.size + 1, 2, none⟩ = some (.slice d vs.length cd)) ∧ Below X.heap.size X w') := fun ww hv a4 z4 c4 a5 z5 c5 h4 h5 => by
    have e := signed3_any n _ z4 m _ z5 ww h4.sl h5.sl (by have := own_len h4 HPL.out.1; omega) (by have := own_len h5 HPL.out.2.1; omega) h4.2.2.1 h5.2.2.1
    rw [h4.2.2.2, h5.2.2.2] at e
    refine Calls.mono e ?_
    rintro e w' ⟨k, v, zs, rfl, o, h1, h2, h3, hb⟩
    obtain ⟨a6, c6, hs⟩ := own_slice' o
    subst hs
    exact ⟨k, a6, zs, c6, rfl, ⟨val zs, ⟨owns_base o hv.size, h1, h2, rfl⟩, h3⟩, HK.out w' (bt hv hb), bt hv hb⟩
  go_region_held3 (fun V : World => V.cell? ⟨w.heap.size, 0, none⟩ = some (.bool n) ∧ V.cell? ⟨w.heap.size, 1, none⟩ = some (.slice a xs.length ca) ∧ V.cell? ⟨w.heap.size, 2, none⟩ = some (.slice b ys.length cb) ∧ V.cell? ⟨w.heap.size + 1, 0, none⟩ = some (.bool m) ∧ V.cell? ⟨w.heap.size + 1, 1, none⟩ = some (.slice c us.length cc) ∧ V.cell? ⟨w.heap.size + 1, 2, none⟩ = some (.slice d vs.length cd)) (first | exact hs6 | exact hs5 | exact hs4 | exact hs0)
    (first
      | (go_at_call 76; with_reducible refine Calls.mono (H3.out _ hb5 _ _ _ _ _ _ (HE4.out.1.later HS5.out) HE5.out.1) ?_; rintro e w6 ⟨k6, a6, z6, c6, rfl, HE6, hs6, hb6⟩)
      | (go_at_call 62; with_reducible refine Calls.mono (H2.out _ hb4) ?_; rintro e w5 ⟨a5, z5, c5, rfl, HE5, hs5, hb5, HS5⟩)
      | (go_at_call 62; with_reducible refine Calls.mono (H1.out _ HBR.out) ?_; rintro e w4 ⟨a4, z4, c4, rfl, HE4, hs4, hb4, HS4⟩))
  all_goals
    obtain ⟨T, oT, hT⟩ := HE6.out
    have HT0 : Hid (0 ≤ T) := by rw [← oT.2.2.2]; exact val_nonneg oT.2.1
    have HTL : Hid (T < 4294967296 ^ 4097) := sum_4097 hT HT0.out (Int.mul_nonneg HNN.out.1 HNN.out.2.2.2) HPL.out.1 (Int.mul_nonneg HNN.out.2.1 HNN.out.2.2.1) HPL.out.2.1
    have HO6 := hid oT
    have HHT := hid hT
    have HB6 := hid hb6
    have l6 : z6.length ≤ 4097 := own_len oT HTL.out
    clear H1 H2 H3 HE4 HE5 HE6 HS4 HS5 hs0 hs4 hs5 hs6 hb4 hb5 oT hT HBR
    obtain ⟨r0, r1, r2, r3, r4, r5⟩ := HK.out w6 hb6
    clear hb6
    have H4 := hid (fun ww (hv : Below X.heap.size X ww) => told1_in _ HK.out ww hv (times3_any _ _ ys vs ww (HSL.out.2.1.later hv) (HSL.out.2.2.2.later hv) (by omega) HTT.out.2.1 HTT.out.2.2.2))
    have H5 : Hid (∀ ww, Below X.heap.size X ww → ∀ a7 z7 c7, One X ww (.slice a6 (List.length z6) c6) z6 T → One X ww (.slice a7 (List.length z7) c7) z7 (val ys * val vs) → Calls Tryz.prog 61 #[.bool k6, .slice a6 z6.length c6, .slice a7 z7.length c7] ww fun e w' => ∃ k a8 z8 c8 a9 z9 c9 code, e = .returned (.tuple #[.agg #[.bool k, .slice a8 (List.length z8) c8, .slice a9 (List.length z9) c9], .int .i64 code]) ∧ Hid (w'.ownsRow X.heap.size 63 1 (.slice a8 (List.length z8) c8) z8.length (z8.map (Value.int .u32)) ∧ w'.ownsRow X.heap.size 63 1 (.slice a9 (List.length z9) c9) z9.length (z9.map (Value.int .u32)) ∧ RTells 0 (rq n xs ys + rq m us vs) k z8 z9 code) ∧ (w'.cell? ⟨w.heap.size, 0, none⟩ = some (.bool n) ∧ w'.cell? ⟨w.heap.size, 1, none⟩ = some (.slice a xs.length ca) ∧ w'.cell? ⟨w.heap.size, 2, none⟩ = some (.slice b ys.length cb) ∧ w'.cell? ⟨w.heap.size + 1, 0, none⟩ = some (.bool m) ∧ w'.cell? ⟨w.heap.size + 1, 1, none⟩ = some (.slice c us.length cc) ∧ w'.cell? ⟨w.heap.size + 1, 2, none⟩ = some (.slice d vs.length cd)) ∧ Below X.heap.size X w') := fun ww hv a7 z7 c7 h6 h7 => by
      have hp : 0 < val ys * val vs := Int.mul_pos HP.out.1 HP.out.2
      have e := of3_any k6 a6 c6 z6 a7 c7 z7 ww h6.sl h7.sl (by omega) (by have := own_len h7 HPL.out.2.2; omega) h6.2.2.1 h7.2.2.1 (own_pos h7 hp)
      rw [h6.2.2.2, h7.2.2.2, rq_sum (n := n) (m := m) (xs := xs) (ys := ys) (us := us) (vs := vs) HP.out.1 HP.out.2 HHT.out rfl] at e
      refine Calls.mono e ?_
      rintro e w' ⟨k, v, zs, u, ds, code, rfl, o1, o2, t, hb⟩
      obtain ⟨a8, c8, hs⟩ := own_slice' o1
      subst hs
      obtain ⟨a9, c9, hs⟩ := own_slice' o2
      subst hs
      exact ⟨k, a8, zs, c8, a9, ds, c9, code, rfl, ⟨owns_base o1 hv.size, owns_base o2 hv.size, t⟩, HK.out w' (bt hv hb), bt hv hb⟩
    go_wp2_with fail
    refine Calls.mono (H4.out w6 HB6.out) ?_
    rintro e w7 ⟨a7, z7, c7, rfl, HE7, _, hb7, HS7⟩
    have H5c := hid (H5.out w7 hb7 a7 z7 c7 (HO6.out.later HS7.out) HE7.out.1)
    clear hb7 HE7 HS7 HO6 H4 H5 r0 r1 r2 r3 r4 r5
    go_wp2_with fail
    refine Calls.mono H5c.out ?_
    rintro e w9 ⟨k9, a8, z8, c8, a9, z9, c9, code, rfl, HE9, _, hb9⟩
    obtain ⟨y0, y1, y2, f0, f1, f2⟩ := res_box3 HZ.out hb9
    have HBW := hid (bt HB.out hb9)
    have HR := hid HE9.out
    clear HK HE9 hb9 H5c HB6
    go_wp2_with fail
    refine bodyPost_ret (v := .tuple #[.agg #[.bool k9, .slice a8 z8.length c8, .slice a9 z9.length c9], .int .i64 code]) (by simp [results, Tryz.results55, go_sem, y0, y1, y2]) rfl ?_
    exact RTold.put HR.out (w.heap.size + 1 + 1) HXS.out (by omega) HBW.out _ _ _
set_option maxHeartbeats 1600000 in
theorem both3_any (n : Bool) (a : Option Addr) (ca : Nat) (xs : List Int) (b : Option Addr) (cb : Nat) (ys : List Int) (m : Bool) (c : Option Addr) (cc : Nat) (us : List Int) (d : Option Addr) (cd : Nat) (vs : List Int) (w : World) (sx : Sl w (.slice a xs.length ca) xs) (sy : Sl w (.slice b ys.length cb) ys) (su : Sl w (.slice c us.length cc) us) (sv : Sl w (.slice d vs.length cd) vs) (hlx : xs.length ≤ 281474976710656) (hly : ys.length ≤ 281474976710656) (hlu : us.length ≤ 281474976710656) (hlv : vs.length ≤ 281474976710656) :
    Calls Tryz.prog 54 #[.agg #[.bool n, .slice a xs.length ca, .slice b ys.length cb], .agg #[.bool m, .slice c us.length cc, .slice d vs.length cd]] w fun e w' => e = .returned (.int .i64 (rboth n xs ys m us vs)) ∧ Below w.heap.size w w' := by
  have HB : Hid (Below w.heap.size w ((w.alloc (.cells #[.bool n, .slice a xs.length ca, .slice b ys.length cb] 24)).alloc (.cells #[.bool m, .slice c us.length cc, .slice d vs.length cd] 24))) := bt (alloc_later _ _) (alloc_later _ _)
  have HN : Hid (Box ((w.alloc (.cells #[.bool n, .slice a xs.length ca, .slice b ys.length cb] 24)).alloc (.cells #[.bool m, .slice c us.length cc, .slice d vs.length cd] 24)) w.heap.size 24 #[.bool n, .slice a xs.length ca, .slice b ys.length cb]) := Box.later (Box.made w _ _) (alloc_later _ _) (by simp)
  have HM : Hid (Box ((w.alloc (.cells #[.bool n, .slice a xs.length ca, .slice b ys.length cb] 24)).alloc (.cells #[.bool m, .slice c us.length cc, .slice d vs.length cd] 24)) (w.heap.size + 1) 24 #[.bool m, .slice c us.length cc, .slice d vs.length cd]) := by
    have e := Box.made (w.alloc (.cells #[.bool n, .slice a xs.length ca, .slice b ys.length cb] 24)) 24 #[.bool m, .slice c us.length cc, .slice d vs.length cd]
    simp at e
    exact e
  have HC1 := hid (check3_any n a ca xs b cb ys ((w.alloc (.cells #[.bool n, .slice a xs.length ca, .slice b ys.length cb] 24)).alloc (.cells #[.bool m, .slice c us.length cc, .slice d vs.length cd] 24)) (sx.later HB.out) (sy.later HB.out) hlx hly)
  have HC2 := hid (fun ww (hb : Below ((w.alloc (.cells #[.bool n, .slice a xs.length ca, .slice b ys.length cb] 24)).alloc (.cells #[.bool m, .slice c us.length cc, .slice d vs.length cd] 24)).heap.size ((w.alloc (.cells #[.bool n, .slice a xs.length ca, .slice b ys.length cb] 24)).alloc (.cells #[.bool m, .slice c us.length cc, .slice d vs.length cd] 24)) ww) => check3_any m c cc us d cd vs ww ((su.later HB.out).later hb) ((sv.later HB.out).later hb) hlu hlv)
  clear sx sy su sv
  by_cases he : rchk n xs ys = 0
  · rw [show rboth n xs ys m us vs = rchk m us vs by unfold rboth; rw [if_pos he]]
    rw [he] at HC1
    clear he
    go_enter Tryz.func54, Tryz.ntmps54
    go_wp2_with fail
    refine Calls.mono HC1.out ?_
    generalize ((w.alloc (.cells #[.bool n, .slice a xs.length ca, .slice b ys.length cb] 24)).alloc (.cells #[.bool m, .slice c us.length cc, .slice d vs.length cd] 24)) = X at *
    rintro e w1 ⟨rfl, hb1⟩
    obtain ⟨q0, q1, q2, _⟩ := res_box3 HM.out hb1
    have HC := hid (HC2.out w1 hb1)
    have HB1 := hid (bt HB.out hb1)
    clear hb1
    go_wp2_with fail
    refine Calls.mono HC.out ?_
    rintro e w2 ⟨rfl, hb2⟩
    have HBN := hid (bt HB1.out hb2)
    clear hb2
    go_wp2_with fail
    go_ret
    exact ⟨rfl, HBN.out⟩
  · rw [show rboth n xs ys m us vs = rchk n xs ys by unfold rboth; rw [if_neg he]]
    obtain ⟨E, hE⟩ : ∃ E, rchk n xs ys = E := ⟨_, rfl⟩
    rw [hE] at HC1 he ⊢
    have he' : (E == 0) = false := beq_eq_false_iff_ne.2 he
    clear he hE
    go_enter Tryz.func54, Tryz.ntmps54
    go_wp2_with fail
    refine Calls.mono HC1.out ?_
    rintro e w1 ⟨rfl, hb1⟩
    have HBN := hid (bt HB.out hb1)
    clear hb1
    go_wp2_with fail
    go_ret
    exact ⟨rfl, HBN.out⟩
set_option maxHeartbeats 3200000 in
theorem dAdd_err (n : Bool) (a : Option Addr) (ca : Nat) (xs : List Int) (b : Option Addr) (cb : Nat) (ys : List Int) (m : Bool) (c : Option Addr) (cc : Nat) (us : List Int) (d : Option Addr) (cd : Nat) (vs : List Int) (w : World) (sx : Sl w (.slice a xs.length ca) xs) (sy : Sl w (.slice b ys.length cb) ys) (su : Sl w (.slice c us.length cc) us) (sv : Sl w (.slice d vs.length cd) vs) (hlx : xs.length ≤ 281474976710656) (hly : ys.length ≤ 281474976710656) (hlu : us.length ≤ 281474976710656) (hlv : vs.length ≤ 281474976710656) (he : rboth n xs ys m us vs ≠ 0) (q : Rat) :
    Calls Tryz.prog 28 #[.agg #[.bool n, .slice a xs.length ca, .slice b ys.length cb], .agg #[.bool m, .slice c us.length cc, .slice d vs.length cd]] w (RTold w (rboth n xs ys m us vs) q) := by
  have HB : Hid (Below w.heap.size w (((w.alloc (.cells #[.bool n, .slice a xs.length ca, .slice b ys.length cb] 24)).alloc (.cells #[.bool m, .slice c us.length cc, .slice d vs.length cd] 24)).alloc (.cells #[.bool false, .slice none 0 0, .slice none 0 0] 24))) := bt (bt (alloc_later _ _) (alloc_later _ _)) (alloc_later _ _)
  have HZ : Hid (Box (((w.alloc (.cells #[.bool n, .slice a xs.length ca, .slice b ys.length cb] 24)).alloc (.cells #[.bool m, .slice c us.length cc, .slice d vs.length cd] 24)).alloc (.cells #[.bool false, .slice none 0 0, .slice none 0 0] 24)) (w.heap.size + 1 + 1) 24 #[.bool false, .slice none 0 0, .slice none 0 0]) := by
    have e := Box.made ((w.alloc (.cells #[.bool n, .slice a xs.length ca, .slice b ys.length cb] 24)).alloc (.cells #[.bool m, .slice c us.length cc, .slice d vs.length cd] 24)) 24 #[.bool false, .slice none 0 0, .slice none 0 0]
    simp at e
    exact e
  have HN : Hid (Box (((w.alloc (.cells #[.bool n, .slice a xs.length ca, .slice b ys.length cb] 24)).alloc (.cells #[.bool m, .slice c us.length cc, .slice d vs.length cd] 24)).alloc (.cells #[.bool false, .slice none 0 0, .slice none 0 0] 24)) w.heap.size 24 #[.bool n, .slice a xs.length ca, .slice b ys.length cb]) := Box.later (Box.made w _ _) (bt (alloc_later _ _) (alloc_later _ _)) (by simp)
  have HM : Hid (Box (((w.alloc (.cells #[.bool n, .slice a xs.length ca, .slice b ys.length cb] 24)).alloc (.cells #[.bool m, .slice c us.length cc, .slice d vs.length cd] 24)).alloc (.cells #[.bool false, .slice none 0 0, .slice none 0 0] 24)) (w.heap.size + 1) 24 #[.bool m, .slice c us.length cc, .slice d vs.length cd]) := by
    have e := Box.later (Box.made (w.alloc (.cells #[.bool n, .slice a xs.length ca, .slice b ys.length cb] 24)) 24 #[.bool m, .slice c us.length cc, .slice d vs.length cd]) (alloc_later ((w.alloc (.cells #[.bool n, .slice a xs.length ca, .slice b ys.length cb] 24)).alloc (.cells #[.bool m, .slice c us.length cc, .slice d vs.length cd] 24)) (.cells #[.bool false, .slice none 0 0, .slice none 0 0] 24)) (by simp)
    simp at e
    exact e
  have HXS : Hid (w.heap.size + 1 + 1 < (((w.alloc (.cells #[.bool n, .slice a xs.length ca, .slice b ys.length cb] 24)).alloc (.cells #[.bool m, .slice c us.length cc, .slice d vs.length cd] 24)).alloc (.cells #[.bool false, .slice none 0 0, .slice none 0 0] 24)).heap.size) := HZ.out.lt
  have HSL := hid (And.intro (sx.later HB.out) (And.intro (sy.later HB.out) (And.intro (su.later HB.out) (sv.later HB.out))))
  have HC := hid (both3_any n _ _ xs _ _ ys m _ _ us _ _ vs (((w.alloc (.cells #[.bool n, .slice a xs.length ca, .slice b ys.length cb] 24)).alloc (.cells #[.bool m, .slice c us.length cc, .slice d vs.length cd] 24)).alloc (.cells #[.bool false, .slice none 0 0, .slice none 0 0] 24)) HSL.out.1 HSL.out.2.1 HSL.out.2.2.1 HSL.out.2.2.2 hlx hly hlu hlv)
  obtain ⟨E, hE⟩ : ∃ E, rboth n xs ys m us vs = E := ⟨_, rfl⟩
  rw [hE] at HC he ⊢
  have he' : (E == 0) = false := beq_eq_false_iff_ne.2 he
  have HE := hid he
  clear he hE sx sy su sv
  go_enter Tryz.func28, Tryz.ntmps28
  go_wp2_with fail
  refine Calls.mono HC.out ?_
  generalize (((w.alloc (.cells #[.bool n, .slice a xs.length ca, .slice b ys.length cb] 24)).alloc (.cells #[.bool m, .slice c us.length cc, .slice d vs.length cd] 24)).alloc (.cells #[.bool false, .slice none 0 0, .slice none 0 0] 24)) = X at *
  rintro e w1 ⟨rfl, hb1⟩
  obtain ⟨y0, y1, y2, f0, f1, f2⟩ := res_box3 HZ.out hb1
  have HBN := hid (below_put3 (bt HB.out hb1) (w.heap.size + 1 + 1) (by omega) (.bool false) (.slice none 0 0) (.slice none 0 0))
  clear hb1 HC HN HM HZ HSL
  go_wp2_with fail
  refine bodyPost_ret (v := .tuple #[.agg #[.bool false, .slice none 0 0, .slice none 0 0], .int .i64 E]) (by simp [results, Tryz.results28, go_sem, y0, y1, y2]) rfl ?_
  exact ⟨false, _, [], _, [], _, rfl, World.ownsRow_nil _ _ _ _, World.ownsRow_nil _ _ _ _, RTells.err HE.out, HBN.out⟩
set_option maxHeartbeats 3200000 in
theorem dAdd_ok (n : Bool) (a : Option Addr) (ca : Nat) (xs : List Int) (b : Option Addr) (cb : Nat) (ys : List Int) (m : Bool) (c : Option Addr) (cc : Nat) (us : List Int) (d : Option Addr) (cd : Nat) (vs : List Int) (w : World) (sx : Sl w (.slice a xs.length ca) xs) (sy : Sl w (.slice b ys.length cb) ys) (su : Sl w (.slice c us.length cc) us) (sv : Sl w (.slice d vs.length cd) vs) (hlx : xs.length ≤ 281474976710656) (hly : ys.length ≤ 281474976710656) (hlu : us.length ≤ 281474976710656) (hlv : vs.length ≤ 281474976710656) (hx : rchk n xs ys = 0) (hy : rchk m us vs = 0) :
    Calls Tryz.prog 28 #[.agg #[.bool n, .slice a xs.length ca, .slice b ys.length cb], .agg #[.bool m, .slice c us.length cc, .slice d vs.length cd]] w (RTold w 0 (rq n xs ys + rq m us vs)) := by
  obtain ⟨lx, ly, tx, ty, y0', _, g1⟩ := rchk_ok hx
  obtain ⟨lu, lv, tu, tv, v0', _, g2⟩ := rchk_ok hy
  have py := val_pos' sy.wd ty y0'
  have pv := val_pos' sv.wd tv v0'
  have HB : Hid (Below w.heap.size w (((w.alloc (.cells #[.bool n, .slice a xs.length ca, .slice b ys.length cb] 24)).alloc (.cells #[.bool m, .slice c us.length cc, .slice d vs.length cd] 24)).alloc (.cells #[.bool false, .slice none 0 0, .slice none 0 0] 24))) := bt (bt (alloc_later _ _) (alloc_later _ _)) (alloc_later _ _)
  have HZ : Hid (Box (((w.alloc (.cells #[.bool n, .slice a xs.length ca, .slice b ys.length cb] 24)).alloc (.cells #[.bool m, .slice c us.length cc, .slice d vs.length cd] 24)).alloc (.cells #[.bool false, .slice none 0 0, .slice none 0 0] 24)) (w.heap.size + 1 + 1) 24 #[.bool false, .slice none 0 0, .slice none 0 0]) := by
    have e := Box.made ((w.alloc (.cells #[.bool n, .slice a xs.length ca, .slice b ys.length cb] 24)).alloc (.cells #[.bool m, .slice c us.length cc, .slice d vs.length cd] 24)) 24 #[.bool false, .slice none 0 0, .slice none 0 0]
    simp at e
    exact e
  have HN : Hid (Box (((w.alloc (.cells #[.bool n, .slice a xs.length ca, .slice b ys.length cb] 24)).alloc (.cells #[.bool m, .slice c us.length cc, .slice d vs.length cd] 24)).alloc (.cells #[.bool false, .slice none 0 0, .slice none 0 0] 24)) w.heap.size 24 #[.bool n, .slice a xs.length ca, .slice b ys.length cb]) := Box.later (Box.made w _ _) (bt (alloc_later _ _) (alloc_later _ _)) (by simp)
  have HM : Hid (Box (((w.alloc (.cells #[.bool n, .slice a xs.length ca, .slice b ys.length cb] 24)).alloc (.cells #[.bool m, .slice c us.length cc, .slice d vs.length cd] 24)).alloc (.cells #[.bool false, .slice none 0 0, .slice none 0 0] 24)) (w.heap.size + 1) 24 #[.bool m, .slice c us.length cc, .slice d vs.length cd]) := by
    have e := Box.later (Box.made (w.alloc (.cells #[.bool n, .slice a xs.length ca, .slice b ys.length cb] 24)) 24 #[.bool m, .slice c us.length cc, .slice d vs.length cd]) (alloc_later ((w.alloc (.cells #[.bool n, .slice a xs.length ca, .slice b ys.length cb] 24)).alloc (.cells #[.bool m, .slice c us.length cc, .slice d vs.length cd] 24)) (.cells #[.bool false, .slice none 0 0, .slice none 0 0] 24)) (by simp)
    simp at e
    exact e
  have HXS : Hid (w.heap.size + 1 + 1 < (((w.alloc (.cells #[.bool n, .slice a xs.length ca, .slice b ys.length cb] 24)).alloc (.cells #[.bool m, .slice c us.length cc, .slice d vs.length cd] 24)).alloc (.cells #[.bool false, .slice none 0 0, .slice none 0 0] 24)).heap.size) := HZ.out.lt
  have HSL := hid (And.intro (sx.later HB.out) (And.intro (sy.later HB.out) (And.intro (su.later HB.out) (sv.later HB.out))))
  have HC := hid (both3_any n _ _ xs _ _ ys m _ _ us _ _ vs (((w.alloc (.cells #[.bool n, .slice a xs.length ca, .slice b ys.length cb] 24)).alloc (.cells #[.bool m, .slice c us.length cc, .slice d vs.length cd] 24)).alloc (.cells #[.bool false, .slice none 0 0, .slice none 0 0] 24)) HSL.out.1 HSL.out.2.1 HSL.out.2.2.1 HSL.out.2.2.2 hlx hly hlu hlv)
  rw [rboth_good hx hy] at HC
  have HA := hid (fun ww (hb : Below (((w.alloc (.cells #[.bool n, .slice a xs.length ca, .slice b ys.length cb] 24)).alloc (.cells #[.bool m, .slice c us.length cc, .slice d vs.length cd] 24)).alloc (.cells #[.bool false, .slice none 0 0, .slice none 0 0] 24)).heap.size (((w.alloc (.cells #[.bool n, .slice a xs.length ca, .slice b ys.length cb] 24)).alloc (.cells #[.bool m, .slice c us.length cc, .slice d vs.length cd] 24)).alloc (.cells #[.bool false, .slice none 0 0, .slice none 0 0] 24)) ww) => add3_any n a ca xs b cb ys m c cc us d cd vs ww (HSL.out.1.later hb) (HSL.out.2.1.later hb) (HSL.out.2.2.1.later hb) (HSL.out.2.2.2.later hb) lx ly lu lv tx ty tu tv (by omega) (by omega))
  clear sx sy su sv hx hy tx ty tu tv g1 g2 py pv
  go_enter Tryz.func28, Tryz.ntmps28
  go_wp2_with fail
  refine Calls.mono HC.out ?_
  generalize (((w.alloc (.cells #[.bool n, .slice a xs.length ca, .slice b ys.length cb] 24)).alloc (.cells #[.bool m, .slice c us.length cc, .slice d vs.length cd] 24)).alloc (.cells #[.bool false, .slice none 0 0, .slice none 0 0] 24)) = X at *
  rintro e w1 ⟨rfl, hb1⟩
  have HCA := hid (HA.out w1 hb1)
  obtain ⟨p0, p1, p2, _⟩ := res_box3 HN.out hb1
  obtain ⟨q0, q1, q2, _⟩ := res_box3 HM.out hb1
  have HB1 := hid hb1
  clear hb1 HC HA
  go_wp2_with fail
  refine Calls.mono HCA.out ?_
  rintro e w2 ⟨k2, v2, z2, u2, r2, code, rfl, o2, o3, t2, hb2⟩
  obtain ⟨a2, c2, hs2⟩ := own_slice' o2
  subst hs2
  obtain ⟨a3, c3, hs3⟩ := own_slice' o3
  subst hs3
  have HR := hid (And.intro o2 (And.intro o3 t2))
  obtain ⟨y0, y1, y2, f0, f1, f2⟩ := res_box3 HZ.out (bt HB1.out hb2)
  have HBW := hid (bt HB.out (bt HB1.out hb2))
  have HLT : Hid (w.heap.size + 1 + 1 < w1.heap.size) := Nat.lt_of_lt_of_le HXS.out HB1.out.size
  clear o2 o3 t2 hb2 HCA p0 p1 p2 q0 q1 q2
  go_wp2_with fail
  refine bodyPost_ret (v := .tuple #[.agg #[.bool k2, .slice a2 z2.length c2, .slice a3 r2.length c3], .int .i64 code]) (by simp [results, Tryz.results28, go_sem, y0, y1, y2]) rfl ?_
  exact RTold.put HR.out (w.heap.size + 1 + 1) HLT.out (by omega) HBW.out _ _ _
theorem dAdd_full (n : Bool) (a : Option Addr) (ca : Nat) (xs : List Int) (b : Option Addr) (cb : Nat) (ys : List Int) (m : Bool) (c : Option Addr) (cc : Nat) (us : List Int) (d : Option Addr) (cd : Nat) (vs : List Int) (w : World) (sx : Sl w (.slice a xs.length ca) xs) (sy : Sl w (.slice b ys.length cb) ys) (su : Sl w (.slice c us.length cc) us) (sv : Sl w (.slice d vs.length cd) vs) (hlx : xs.length ≤ 281474976710656) (hly : ys.length ≤ 281474976710656) (hlu : us.length ≤ 281474976710656) (hlv : vs.length ≤ 281474976710656) :
    Calls Tryz.prog 28 #[.agg #[.bool n, .slice a xs.length ca, .slice b ys.length cb], .agg #[.bool m, .slice c us.length cc, .slice d vs.length cd]] w (RTold w (rboth n xs ys m us vs) (rq n xs ys + rq m us vs)) := by
  by_cases he : rboth n xs ys m us vs = 0
  · rw [he]
    exact dAdd_ok n a ca xs b cb ys m c cc us d cd vs w sx sy su sv hlx hly hlu hlv (rboth_ok he).1 (rboth_ok he).2
  · exact dAdd_err n a ca xs b cb ys m c cc us d cd vs w sx sy su sv hlx hly hlu hlv he _
theorem sg_two (n m : Bool) (x y : Int) : sg n x * sg m y = sg (n != m) (x * y) := by
  cases n <;> cases m <;> simp [sg, Int.neg_mul, Int.mul_neg]
theorem mul_q {n m : Bool} {xs ys us vs : List Int} : Rat.divInt (sg (n != m) (val xs * val us)) (val ys * val vs) = rq n xs ys * rq m us vs := by
  unfold rq
  rw [Rat.divInt_mul_divInt]
  show _ = Rat.divInt (sg n (val xs) * sg m (val us)) _
  rw [sg_two]
theorem quo_q {n m : Bool} {xs ys us vs : List Int} : Rat.divInt (sg (n != m) (val xs * val vs)) (val ys * val us) = rq n xs ys / rq m us vs := by
  rw [← rq_over]
  exact mul_q
set_option maxHeartbeats 3200000 in
theorem dMul_err (n : Bool) (a : Option Addr) (ca : Nat) (xs : List Int) (b : Option Addr) (cb : Nat) (ys : List Int) (m : Bool) (c : Option Addr) (cc : Nat) (us : List Int) (d : Option Addr) (cd : Nat) (vs : List Int) (w : World) (sx : Sl w (.slice a xs.length ca) xs) (sy : Sl w (.slice b ys.length cb) ys) (su : Sl w (.slice c us.length cc) us) (sv : Sl w (.slice d vs.length cd) vs) (hlx : xs.length ≤ 281474976710656) (hly : ys.length ≤ 281474976710656) (hlu : us.length ≤ 281474976710656) (hlv : vs.length ≤ 281474976710656) (he : rboth n xs ys m us vs ≠ 0) (q : Rat) :
    Calls Tryz.prog 46 #[.agg #[.bool n, .slice a xs.length ca, .slice b ys.length cb], .agg #[.bool m, .slice c us.length cc, .slice d vs.length cd]] w (RTold w (rboth n xs ys m us vs) q) := by
  have HB : Hid (Below w.heap.size w (((w.alloc (.cells #[.bool n, .slice a xs.length ca, .slice b ys.length cb] 24)).alloc (.cells #[.bool m, .slice c us.length cc, .slice d vs.length cd] 24)).alloc (.cells #[.bool false, .slice none 0 0, .slice none 0 0] 24))) := bt (bt (alloc_later _ _) (alloc_later _ _)) (alloc_later _ _)
  have HZ : Hid (Box (((w.alloc (.cells #[.bool n, .slice a xs.length ca, .slice b ys.length cb] 24)).alloc (.cells #[.bool m, .slice c us.length cc, .slice d vs.length cd] 24)).alloc (.cells #[.bool false, .slice none 0 0, .slice none 0 0] 24)) (w.heap.size + 1 + 1) 24 #[.bool false, .slice none 0 0, .slice none 0 0]) := by
    have e := Box.made ((w.alloc (.cells #[.bool n, .slice a xs.length ca, .slice b ys.length cb] 24)).alloc (.cells #[.bool m, .slice c us.length cc, .slice d vs.length cd] 24)) 24 #[.bool false, .slice none 0 0, .slice none 0 0]
    simp at e
    exact e
  have HN : Hid (Box (((w.alloc (.cells #[.bool n, .slice a xs.length ca, .slice b ys.length cb] 24)).alloc (.cells #[.bool m, .slice c us.length cc, .slice d vs.length cd] 24)).alloc (.cells #[.bool false, .slice none 0 0, .slice none 0 0] 24)) w.heap.size 24 #[.bool n, .slice a xs.length ca, .slice b ys.length cb]) := Box.later (Box.made w _ _) (bt (alloc_later _ _) (alloc_later _ _)) (by simp)
  have HM : Hid (Box (((w.alloc (.cells #[.bool n, .slice a xs.length ca, .slice b ys.length cb] 24)).alloc (.cells #[.bool m, .slice c us.length cc, .slice d vs.length cd] 24)).alloc (.cells #[.bool false, .slice none 0 0, .slice none 0 0] 24)) (w.heap.size + 1) 24 #[.bool m, .slice c us.length cc, .slice d vs.length cd]) := by
    have e := Box.later (Box.made (w.alloc (.cells #[.bool n, .slice a xs.length ca, .slice b ys.length cb] 24)) 24 #[.bool m, .slice c us.length cc, .slice d vs.length cd]) (alloc_later ((w.alloc (.cells #[.bool n, .slice a xs.length ca, .slice b ys.length cb] 24)).alloc (.cells #[.bool m, .slice c us.length cc, .slice d vs.length cd] 24)) (.cells #[.bool false, .slice none 0 0, .slice none 0 0] 24)) (by simp)
    simp at e
    exact e
  have HXS : Hid (w.heap.size + 1 + 1 < (((w.alloc (.cells #[.bool n, .slice a xs.length ca, .slice b ys.length cb] 24)).alloc (.cells #[.bool m, .slice c us.length cc, .slice d vs.length cd] 24)).alloc (.cells #[.bool false, .slice none 0 0, .slice none 0 0] 24)).heap.size) := HZ.out.lt
  have HSL := hid (And.intro (sx.later HB.out) (And.intro (sy.later HB.out) (And.intro (su.later HB.out) (sv.later HB.out))))
  have HC := hid (both3_any n _ _ xs _ _ ys m _ _ us _ _ vs (((w.alloc (.cells #[.bool n, .slice a xs.length ca, .slice b ys.length cb] 24)).alloc (.cells #[.bool m, .slice c us.length cc, .slice d vs.length cd] 24)).alloc (.cells #[.bool false, .slice none 0 0, .slice none 0 0] 24)) HSL.out.1 HSL.out.2.1 HSL.out.2.2.1 HSL.out.2.2.2 hlx hly hlu hlv)
  obtain ⟨E, hE⟩ : ∃ E, rboth n xs ys m us vs = E := ⟨_, rfl⟩
  rw [hE] at HC he ⊢
  have he' : (E == 0) = false := beq_eq_false_iff_ne.2 he
  have HE := hid he
  clear he hE sx sy su sv
  go_enter Tryz.func46, Tryz.ntmps46
  go_wp2_with fail
  refine Calls.mono HC.out ?_
  generalize (((w.alloc (.cells #[.bool n, .slice a xs.length ca, .slice b ys.length cb] 24)).alloc (.cells #[.bool m, .slice c us.length cc, .slice d vs.length cd] 24)).alloc (.cells #[.bool false, .slice none 0 0, .slice none 0 0] 24)) = X at *
  rintro e w1 ⟨rfl, hb1⟩
  obtain ⟨y0, y1, y2, f0, f1, f2⟩ := res_box3 HZ.out hb1
  have HBN := hid (below_put3 (bt HB.out hb1) (w.heap.size + 1 + 1) (by omega) (.bool false) (.slice none 0 0) (.slice none 0 0))
  clear hb1 HC HN HM HZ HSL
  go_wp2_with fail
  refine bodyPost_ret (v := .tuple #[.agg #[.bool false, .slice none 0 0, .slice none 0 0], .int .i64 E]) (by simp [results, Tryz.results46, go_sem, y0, y1, y2]) rfl ?_
  exact ⟨false, _, [], _, [], _, rfl, World.ownsRow_nil _ _ _ _, World.ownsRow_nil _ _ _ _, RTells.err HE.out, HBN.out⟩
set_option maxHeartbeats 6400000 in
theorem dMul_ok (n : Bool) (a : Option Addr) (ca : Nat) (xs : List Int) (b : Option Addr) (cb : Nat) (ys : List Int) (m : Bool) (c : Option Addr) (cc : Nat) (us : List Int) (d : Option Addr) (cd : Nat) (vs : List Int) (w : World) (sx : Sl w (.slice a xs.length ca) xs) (sy : Sl w (.slice b ys.length cb) ys) (su : Sl w (.slice c us.length cc) us) (sv : Sl w (.slice d vs.length cd) vs) (hlx : xs.length ≤ 281474976710656) (hly : ys.length ≤ 281474976710656) (hlu : us.length ≤ 281474976710656) (hlv : vs.length ≤ 281474976710656) (hx : rchk n xs ys = 0) (hy : rchk m us vs = 0) :
    Calls Tryz.prog 46 #[.agg #[.bool n, .slice a xs.length ca, .slice b ys.length cb], .agg #[.bool m, .slice c us.length cc, .slice d vs.length cd]] w (RTold w 0 (rq n xs ys * rq m us vs)) := by
  obtain ⟨lx, ly, tx, ty, yp, _, _⟩ := rchk_ok hx
  obtain ⟨lu, lv, tu, tv, vp, _, _⟩ := rchk_ok hy
  have wx := sx.wd
  have wy := sy.wd
  have wu := su.wd
  have wv := sv.wd
  have HB : Hid (Below w.heap.size w (((w.alloc (.cells #[.bool n, .slice a xs.length ca, .slice b ys.length cb] 24)).alloc (.cells #[.bool m, .slice c us.length cc, .slice d vs.length cd] 24)).alloc (.cells #[.bool false, .slice none 0 0, .slice none 0 0] 24))) := bt (bt (alloc_later _ _) (alloc_later _ _)) (alloc_later _ _)
  have HZ : Hid (Box (((w.alloc (.cells #[.bool n, .slice a xs.length ca, .slice b ys.length cb] 24)).alloc (.cells #[.bool m, .slice c us.length cc, .slice d vs.length cd] 24)).alloc (.cells #[.bool false, .slice none 0 0, .slice none 0 0] 24)) (w.heap.size + 1 + 1) 24 #[.bool false, .slice none 0 0, .slice none 0 0]) := by
    have e := Box.made ((w.alloc (.cells #[.bool n, .slice a xs.length ca, .slice b ys.length cb] 24)).alloc (.cells #[.bool m, .slice c us.length cc, .slice d vs.length cd] 24)) 24 #[.bool false, .slice none 0 0, .slice none 0 0]
    simp at e
    exact e
  have HN : Hid (Box (((w.alloc (.cells #[.bool n, .slice a xs.length ca, .slice b ys.length cb] 24)).alloc (.cells #[.bool m, .slice c us.length cc, .slice d vs.length cd] 24)).alloc (.cells #[.bool false, .slice none 0 0, .slice none 0 0] 24)) w.heap.size 24 #[.bool n, .slice a xs.length ca, .slice b ys.length cb]) := Box.later (Box.made w _ _) (bt (alloc_later _ _) (alloc_later _ _)) (by simp)
  have HM : Hid (Box (((w.alloc (.cells #[.bool n, .slice a xs.length ca, .slice b ys.length cb] 24)).alloc (.cells #[.bool m, .slice c us.length cc, .slice d vs.length cd] 24)).alloc (.cells #[.bool false, .slice none 0 0, .slice none 0 0] 24)) (w.heap.size + 1) 24 #[.bool m, .slice c us.length cc, .slice d vs.length cd]) := by
    have e := Box.later (Box.made (w.alloc (.cells #[.bool n, .slice a xs.length ca, .slice b ys.length cb] 24)) 24 #[.bool m, .slice c us.length cc, .slice d vs.length cd]) (alloc_later ((w.alloc (.cells #[.bool n, .slice a xs.length ca, .slice b ys.length cb] 24)).alloc (.cells #[.bool m, .slice c us.length cc, .slice d vs.length cd] 24)) (.cells #[.bool false, .slice none 0 0, .slice none 0 0] 24)) (by simp)
    simp at e
    exact e
  have HXS : Hid (w.heap.size + 1 + 1 < (((w.alloc (.cells #[.bool n, .slice a xs.length ca, .slice b ys.length cb] 24)).alloc (.cells #[.bool m, .slice c us.length cc, .slice d vs.length cd] 24)).alloc (.cells #[.bool false, .slice none 0 0, .slice none 0 0] 24)).heap.size) := HZ.out.lt
  have HSL := hid (And.intro (sx.later HB.out) (And.intro (sy.later HB.out) (And.intro (su.later HB.out) (sv.later HB.out))))
  have HTT := hid (And.intro tx (And.intro ty (And.intro tu tv)))
  have HC := hid (both3_any n _ _ xs _ _ ys m _ _ us _ _ vs (((w.alloc (.cells #[.bool n, .slice a xs.length ca, .slice b ys.length cb] 24)).alloc (.cells #[.bool m, .slice c us.length cc, .slice d vs.length cd] 24)).alloc (.cells #[.bool false, .slice none 0 0, .slice none 0 0] 24)) HSL.out.1 HSL.out.2.1 HSL.out.2.2.1 HSL.out.2.2.2 hlx hly hlu hlv)
  rw [rboth_good hx hy] at HC
  have HPL : Hid (val xs * val us < 4294967296 ^ 4096 ∧ val ys * val vs < 4294967296 ^ 4096) := ⟨mul_4096 (val_nonneg wx) (below2048 wx lx) (val_nonneg wu) (below2048 wu lu), mul_4096 (val_nonneg wy) (below2048 wy ly) (val_nonneg wv) (below2048 wv lv)⟩
  have HPOS : Hid (0 < val ys * val vs) := Int.mul_pos (val_pos' wy ty yp) (val_pos' wv tv vp)
  obtain ⟨s, hs⟩ : ∃ s, (!(n == m)) = s := ⟨_, rfl⟩
  have HSG := hid (show (n != m) = s from hs)
  have HQ : Hid (Rat.divInt (sg s (val xs * val us)) (val ys * val vs) = rq n xs ys * rq m us vs) := by
    show _ = _
    rw [← HSG.out]
    exact mul_q
  clear sx sy su sv tx ty tu tv wx wy wu wv hx hy yp vp
  go_enter Tryz.func46, Tryz.ntmps46
  go_wp2_with fail
  refine Calls.mono HC.out ?_
  generalize (((w.alloc (.cells #[.bool n, .slice a xs.length ca, .slice b ys.length cb] 24)).alloc (.cells #[.bool m, .slice c us.length cc, .slice d vs.length cd] 24)).alloc (.cells #[.bool false, .slice none 0 0, .slice none 0 0] 24)) = X at *
  rintro e w1 ⟨rfl, hb1⟩
  have HB1 := hid hb1
  clear hb1 HC
  have HK : Hid (∀ V, Below X.heap.size X V → V.cell? ⟨w.heap.size, 0, none⟩ = some (.bool n) ∧ V.cell? ⟨w.heap.size, 1, none⟩ = some (.slice a xs.length ca) ∧ V.cell? ⟨w.heap.size, 2, none⟩ = some (.slice b ys.length cb) ∧ V.cell? ⟨w.heap.size + 1, 0, none⟩ = some (.bool m) ∧ V.cell? ⟨w.heap.size + 1, 1, none⟩ = some (.slice c us.length cc) ∧ V.cell? ⟨w.heap.size + 1, 2, none⟩ = some (.slice d vs.length cd)) := fun V hb => by
    obtain ⟨p0, p1, p2, _⟩ := res_box3 HN.out hb
    obtain ⟨q0, q1, q2, _⟩ := res_box3 HM.out hb
    exact ⟨p0, p1, p2, q0, q1, q2⟩
  have hs0 := HK.out _ HB1.out.drew
  have HBR := hid HB1.out.drew
  have H1 := hid (fun ww (hv : Below X.heap.size X ww) => told1_in _ HK.out ww hv (times3_any _ _ xs us ww (HSL.out.1.later hv) (HSL.out.2.2.1.later hv) (by omega) HTT.out.1 HTT.out.2.2.1))
  have H2 := hid (fun ww (hv : Below X.heap.size X ww) => told1_in _ HK.out ww hv (times3_any _ _ ys vs ww (HSL.out.2.1.later hv) (HSL.out.2.2.2.later hv) (by omega) HTT.out.2.1 HTT.out.2.2.2))
  have H3 : Hid (∀ ww, Below X.heap.size X ww → ∀ a4 z4 c4 a5 z5 c5, One X ww (.slice a4 (List.length z4) c4) z4 (val xs * val us) → One X ww (.slice a5 (List.length z5) c5) z5 (val ys * val vs) → Calls Tryz.prog 61 #[.bool s, .slice a4 z4.length c4, .slice a5 z5.length c5] ww fun e w' => ∃ k a8 z8 c8 a9 z9 c9 code, e = .returned (.tuple #[.agg #[.bool k, .slice a8 (List.length z8) c8, .slice a9 (List.length z9) c9], .int .i64 code]) ∧ Hid (w'.ownsRow X.heap.size 63 1 (.slice a8 (List.length z8) c8) z8.length (z8.map (Value.int .u32)) ∧ w'.ownsRow X.heap.size 63 1 (.slice a9 (List.length z9) c9) z9.length (z9.map (Value.int .u32)) ∧ RTells 0 (rq n xs ys * rq m us vs) k z8 z9 code) ∧ (w'.cell? ⟨w.heap.size, 0, none⟩ = some (.bool n) ∧ w'.cell? ⟨w.heap.size, 1, none⟩ = some (.slice a xs.length ca) ∧ w'.cell? ⟨w.heap.size, 2, none⟩ = some (.slice b ys.length cb) ∧ w'.cell? ⟨w.heap.size + 1, 0, none⟩ = some (.bool m) ∧ w'.cell? ⟨w.heap.size + 1, 1, none⟩ = some (.slice c us.length cc) ∧ w'.cell? ⟨w.heap.size + 1, 2, none⟩ = some (.slice d vs.length cd)) ∧ Below X.heap.size X w') := fun ww hv a4 z4 c4 a5 z5 c5 h4 h5 => by
    have e := of3_any s a4 c4 z4 a5 c5 z5 ww h4.sl h5.sl (by have := own_len h4 HPL.out.1; omega) (by have := own_len h5 HPL.out.2; omega) h4.2.2.1 h5.2.2.1 (own_pos h5 HPOS.out)
    rw [h4.2.2.2, h5.2.2.2, HQ.out] at e
    refine Calls.mono e ?_
    rintro e w' ⟨k, v, zs, u, ds, code, rfl, o1, o2, t, hb⟩
    obtain ⟨a8, c8, hs⟩ := own_slice' o1
    subst hs
    obtain ⟨a9, c9, hs⟩ := own_slice' o2
    subst hs
    exact ⟨k, a8, zs, c8, a9, ds, c9, code, rfl, ⟨owns_base o1 hv.size, owns_base o2 hv.size, t⟩, HK.out w' (bt hv hb), bt hv hb⟩
  have hq0 : w.heap.size + 1 + 1 ≠ w.heap.size := by omega
  have hq1 : w.heap.size + 1 + 1 ≠ w.heap.size + 1 := by omega
  obtain ⟨p0, p1, p2, q0, q1, q2⟩ := HK.out w1 HB1.out
  go_wp2_with fail
  clear p0 p1 p2 q0 q1 q2
  go_region_held3 (fun V : World => V.cell? ⟨w.heap.size, 0, none⟩ = some (.bool n) ∧ V.cell? ⟨w.heap.size, 1, none⟩ = some (.slice a xs.length ca) ∧ V.cell? ⟨w.heap.size, 2, none⟩ = some (.slice b ys.length cb) ∧ V.cell? ⟨w.heap.size + 1, 0, none⟩ = some (.bool m) ∧ V.cell? ⟨w.heap.size + 1, 1, none⟩ = some (.slice c us.length cc) ∧ V.cell? ⟨w.heap.size + 1, 2, none⟩ = some (.slice d vs.length cd)) (first | exact hs9 | exact hs5 | exact hs4 | exact hs0 | (simp [hs9, World.cell?_setCell_far, hq0]))
    (first
      | (go_at_call 61; with_reducible refine Calls.mono (H3.out _ hb5 _ _ _ _ _ _ (HE4.out.1.later HS5.out) HE5.out.1) ?_; rintro e w9 ⟨k9, a8, z8, c8, a9, z9, c9, code, rfl, HE9, hs9, hb9⟩; obtain ⟨y0, y1, y2, f0, f1, f2⟩ := res_box3 HZ.out hb9)
      | (go_at_call 62; with_reducible refine Calls.mono (H2.out _ hb4) ?_; rintro e w5 ⟨a5, z5, c5, rfl, HE5, hs5, hb5, HS5⟩)
      | (go_at_call 62; with_reducible refine Calls.mono (H1.out _ HBR.out) ?_; rintro e w4 ⟨a4, z4, c4, rfl, HE4, hs4, hb4, HS4⟩))
  all_goals
    have HBW := hid (bt HB.out hb9)
    have HR := hid HE9.out
    clear HK H1 H2 H3 HE4 HE5 HE9 HS4 HS5 hs0 hs4 hs5 hs9 hb4 hb5 hb9 HBR HSG
    go_wp2_with fail
    refine bodyPost_ret (v := .tuple #[.agg #[.bool k9, .slice a8 z8.length c8, .slice a9 z9.length c9], .int .i64 code]) (by simp [results, Tryz.results46, go_sem, y0, y1, y2]) rfl ?_
    exact RTold.put HR.out (w.heap.size + 1 + 1) HXS.out (by omega) HBW.out _ _ _
theorem dMul_full (n : Bool) (a : Option Addr) (ca : Nat) (xs : List Int) (b : Option Addr) (cb : Nat) (ys : List Int) (m : Bool) (c : Option Addr) (cc : Nat) (us : List Int) (d : Option Addr) (cd : Nat) (vs : List Int) (w : World) (sx : Sl w (.slice a xs.length ca) xs) (sy : Sl w (.slice b ys.length cb) ys) (su : Sl w (.slice c us.length cc) us) (sv : Sl w (.slice d vs.length cd) vs) (hlx : xs.length ≤ 281474976710656) (hly : ys.length ≤ 281474976710656) (hlu : us.length ≤ 281474976710656) (hlv : vs.length ≤ 281474976710656) :
    Calls Tryz.prog 46 #[.agg #[.bool n, .slice a xs.length ca, .slice b ys.length cb], .agg #[.bool m, .slice c us.length cc, .slice d vs.length cd]] w (RTold w (rboth n xs ys m us vs) (rq n xs ys * rq m us vs)) := by
  by_cases he : rboth n xs ys m us vs = 0
  · rw [he]
    exact dMul_ok n a ca xs b cb ys m c cc us d cd vs w sx sy su sv hlx hly hlu hlv (rboth_ok he).1 (rboth_ok he).2
  · exact dMul_err n a ca xs b cb ys m c cc us d cd vs w sx sy su sv hlx hly hlu hlv he _
set_option maxHeartbeats 3200000 in
theorem dQuo_err (n : Bool) (a : Option Addr) (ca : Nat) (xs : List Int) (b : Option Addr) (cb : Nat) (ys : List Int) (m : Bool) (c : Option Addr) (cc : Nat) (us : List Int) (d : Option Addr) (cd : Nat) (vs : List Int) (w : World) (sx : Sl w (.slice a xs.length ca) xs) (sy : Sl w (.slice b ys.length cb) ys) (su : Sl w (.slice c us.length cc) us) (sv : Sl w (.slice d vs.length cd) vs) (hlx : xs.length ≤ 281474976710656) (hly : ys.length ≤ 281474976710656) (hlu : us.length ≤ 281474976710656) (hlv : vs.length ≤ 281474976710656) (he : rboth n xs ys m us vs ≠ 0) (q : Rat) :
    Calls Tryz.prog 40 #[.agg #[.bool n, .slice a xs.length ca, .slice b ys.length cb], .agg #[.bool m, .slice c us.length cc, .slice d vs.length cd]] w (RTold w (rboth n xs ys m us vs) q) := by
  have HB : Hid (Below w.heap.size w (((w.alloc (.cells #[.bool n, .slice a xs.length ca, .slice b ys.length cb] 24)).alloc (.cells #[.bool m, .slice c us.length cc, .slice d vs.length cd] 24)).alloc (.cells #[.bool false, .slice none 0 0, .slice none 0 0] 24))) := bt (bt (alloc_later _ _) (alloc_later _ _)) (alloc_later _ _)
  have HZ : Hid (Box (((w.alloc (.cells #[.bool n, .slice a xs.length ca, .slice b ys.length cb] 24)).alloc (.cells #[.bool m, .slice c us.length cc, .slice d vs.length cd] 24)).alloc (.cells #[.bool false, .slice none 0 0, .slice none 0 0] 24)) (w.heap.size + 1 + 1) 24 #[.bool false, .slice none 0 0, .slice none 0 0]) := by
    have e := Box.made ((w.alloc (.cells #[.bool n, .slice a xs.length ca, .slice b ys.length cb] 24)).alloc (.cells #[.bool m, .slice c us.length cc, .slice d vs.length cd] 24)) 24 #[.bool false, .slice none 0 0, .slice none 0 0]
    simp at e
    exact e
  have HN : Hid (Box (((w.alloc (.cells #[.bool n, .slice a xs.length ca, .slice b ys.length cb] 24)).alloc (.cells #[.bool m, .slice c us.length cc, .slice d vs.length cd] 24)).alloc (.cells #[.bool false, .slice none 0 0, .slice none 0 0] 24)) w.heap.size 24 #[.bool n, .slice a xs.length ca, .slice b ys.length cb]) := Box.later (Box.made w _ _) (bt (alloc_later _ _) (alloc_later _ _)) (by simp)
  have HM : Hid (Box (((w.alloc (.cells #[.bool n, .slice a xs.length ca, .slice b ys.length cb] 24)).alloc (.cells #[.bool m, .slice c us.length cc, .slice d vs.length cd] 24)).alloc (.cells #[.bool false, .slice none 0 0, .slice none 0 0] 24)) (w.heap.size + 1) 24 #[.bool m, .slice c us.length cc, .slice d vs.length cd]) := by
    have e := Box.later (Box.made (w.alloc (.cells #[.bool n, .slice a xs.length ca, .slice b ys.length cb] 24)) 24 #[.bool m, .slice c us.length cc, .slice d vs.length cd]) (alloc_later ((w.alloc (.cells #[.bool n, .slice a xs.length ca, .slice b ys.length cb] 24)).alloc (.cells #[.bool m, .slice c us.length cc, .slice d vs.length cd] 24)) (.cells #[.bool false, .slice none 0 0, .slice none 0 0] 24)) (by simp)
    simp at e
    exact e
  have HXS : Hid (w.heap.size + 1 + 1 < (((w.alloc (.cells #[.bool n, .slice a xs.length ca, .slice b ys.length cb] 24)).alloc (.cells #[.bool m, .slice c us.length cc, .slice d vs.length cd] 24)).alloc (.cells #[.bool false, .slice none 0 0, .slice none 0 0] 24)).heap.size) := HZ.out.lt
  have HSL := hid (And.intro (sx.later HB.out) (And.intro (sy.later HB.out) (And.intro (su.later HB.out) (sv.later HB.out))))
  have HC := hid (both3_any n _ _ xs _ _ ys m _ _ us _ _ vs (((w.alloc (.cells #[.bool n, .slice a xs.length ca, .slice b ys.length cb] 24)).alloc (.cells #[.bool m, .slice c us.length cc, .slice d vs.length cd] 24)).alloc (.cells #[.bool false, .slice none 0 0, .slice none 0 0] 24)) HSL.out.1 HSL.out.2.1 HSL.out.2.2.1 HSL.out.2.2.2 hlx hly hlu hlv)
  obtain ⟨E, hE⟩ : ∃ E, rboth n xs ys m us vs = E := ⟨_, rfl⟩
  rw [hE] at HC he ⊢
  have he' : (E == 0) = false := beq_eq_false_iff_ne.2 he
  have HE := hid he
  clear he hE sx sy su sv
  go_enter Tryz.func40, Tryz.ntmps40
  go_wp2_with fail
  refine Calls.mono HC.out ?_
  generalize (((w.alloc (.cells #[.bool n, .slice a xs.length ca, .slice b ys.length cb] 24)).alloc (.cells #[.bool m, .slice c us.length cc, .slice d vs.length cd] 24)).alloc (.cells #[.bool false, .slice none 0 0, .slice none 0 0] 24)) = X at *
  rintro e w1 ⟨rfl, hb1⟩
  obtain ⟨y0, y1, y2, f0, f1, f2⟩ := res_box3 HZ.out hb1
  have HBN := hid (below_put3 (bt HB.out hb1) (w.heap.size + 1 + 1) (by omega) (.bool false) (.slice none 0 0) (.slice none 0 0))
  clear hb1 HC HN HM HZ HSL
  go_wp2_with fail
  refine bodyPost_ret (v := .tuple #[.agg #[.bool false, .slice none 0 0, .slice none 0 0], .int .i64 E]) (by simp [results, Tryz.results40, go_sem, y0, y1, y2]) rfl ?_
  exact ⟨false, _, [], _, [], _, rfl, World.ownsRow_nil _ _ _ _, World.ownsRow_nil _ _ _ _, RTells.err HE.out, HBN.out⟩
set_option maxHeartbeats 3200000 in
theorem dQuo_z (n : Bool) (a : Option Addr) (ca : Nat) (xs : List Int) (b : Option Addr) (cb : Nat) (ys : List Int) (m : Bool) (c : Option Addr) (cc : Nat) (us : List Int) (d : Option Addr) (cd : Nat) (vs : List Int) (w : World) (sx : Sl w (.slice a xs.length ca) xs) (sy : Sl w (.slice b ys.length cb) ys) (su : Sl w (.slice c us.length cc) us) (sv : Sl w (.slice d vs.length cd) vs) (hlx : xs.length ≤ 281474976710656) (hly : ys.length ≤ 281474976710656) (hlu : us.length ≤ 281474976710656) (hlv : vs.length ≤ 281474976710656) (hx : rchk n xs ys = 0) (hy : rchk m us vs = 0) (h0 : us.length = 0) (q : Rat) :
    Calls Tryz.prog 40 #[.agg #[.bool n, .slice a xs.length ca, .slice b ys.length cb], .agg #[.bool m, .slice c us.length cc, .slice d vs.length cd]] w (RTold w 7 q) := by
  have HB : Hid (Below w.heap.size w (((w.alloc (.cells #[.bool n, .slice a xs.length ca, .slice b ys.length cb] 24)).alloc (.cells #[.bool m, .slice c us.length cc, .slice d vs.length cd] 24)).alloc (.cells #[.bool false, .slice none 0 0, .slice none 0 0] 24))) := bt (bt (alloc_later _ _) (alloc_later _ _)) (alloc_later _ _)
  have HZ : Hid (Box (((w.alloc (.cells #[.bool n, .slice a xs.length ca, .slice b ys.length cb] 24)).alloc (.cells #[.bool m, .slice c us.length cc, .slice d vs.length cd] 24)).alloc (.cells #[.bool false, .slice none 0 0, .slice none 0 0] 24)) (w.heap.size + 1 + 1) 24 #[.bool false, .slice none 0 0, .slice none 0 0]) := by
    have e := Box.made ((w.alloc (.cells #[.bool n, .slice a xs.length ca, .slice b ys.length cb] 24)).alloc (.cells #[.bool m, .slice c us.length cc, .slice d vs.length cd] 24)) 24 #[.bool false, .slice none 0 0, .slice none 0 0]
    simp at e
    exact e
  have HN : Hid (Box (((w.alloc (.cells #[.bool n, .slice a xs.length ca, .slice b ys.length cb] 24)).alloc (.cells #[.bool m, .slice c us.length cc, .slice d vs.length cd] 24)).alloc (.cells #[.bool false, .slice none 0 0, .slice none 0 0] 24)) w.heap.size 24 #[.bool n, .slice a xs.length ca, .slice b ys.length cb]) := Box.later (Box.made w _ _) (bt (alloc_later _ _) (alloc_later _ _)) (by simp)
  have HM : Hid (Box (((w.alloc (.cells #[.bool n, .slice a xs.length ca, .slice b ys.length cb] 24)).alloc (.cells #[.bool m, .slice c us.length cc, .slice d vs.length cd] 24)).alloc (.cells #[.bool false, .slice none 0 0, .slice none 0 0] 24)) (w.heap.size + 1) 24 #[.bool m, .slice c us.length cc, .slice d vs.length cd]) := by
    have e := Box.later (Box.made (w.alloc (.cells #[.bool n, .slice a xs.length ca, .slice b ys.length cb] 24)) 24 #[.bool m, .slice c us.length cc, .slice d vs.length cd]) (alloc_later ((w.alloc (.cells #[.bool n, .slice a xs.length ca, .slice b ys.length cb] 24)).alloc (.cells #[.bool m, .slice c us.length cc, .slice d vs.length cd] 24)) (.cells #[.bool false, .slice none 0 0, .slice none 0 0] 24)) (by simp)
    simp at e
    exact e
  have HXS : Hid (w.heap.size + 1 + 1 < (((w.alloc (.cells #[.bool n, .slice a xs.length ca, .slice b ys.length cb] 24)).alloc (.cells #[.bool m, .slice c us.length cc, .slice d vs.length cd] 24)).alloc (.cells #[.bool false, .slice none 0 0, .slice none 0 0] 24)).heap.size) := HZ.out.lt
  have HSL := hid (And.intro (sx.later HB.out) (And.intro (sy.later HB.out) (And.intro (su.later HB.out) (sv.later HB.out))))
  have HC := hid (both3_any n _ _ xs _ _ ys m _ _ us _ _ vs (((w.alloc (.cells #[.bool n, .slice a xs.length ca, .slice b ys.length cb] 24)).alloc (.cells #[.bool m, .slice c us.length cc, .slice d vs.length cd] 24)).alloc (.cells #[.bool false, .slice none 0 0, .slice none 0 0] 24)) HSL.out.1 HSL.out.2.1 HSL.out.2.2.1 HSL.out.2.2.2 hlx hly hlu hlv)
  rw [rboth_good hx hy] at HC
  have HE : Hid ((7 : Int) ≠ 0) := by show _ ≠ _; omega
  have h0' : ((us.length : Int) == 0) = true := by rw [h0]; rfl
  clear h0 hx hy sx sy su sv
  go_enter Tryz.func40, Tryz.ntmps40
  go_wp2_with fail
  refine Calls.mono HC.out ?_
  generalize (((w.alloc (.cells #[.bool n, .slice a xs.length ca, .slice b ys.length cb] 24)).alloc (.cells #[.bool m, .slice c us.length cc, .slice d vs.length cd] 24)).alloc (.cells #[.bool false, .slice none 0 0, .slice none 0 0] 24)) = X at *
  rintro e w1 ⟨rfl, hb1⟩
  obtain ⟨q0, q1, q2, _⟩ := res_box3 HM.out hb1
  obtain ⟨y0, y1, y2, f0, f1, f2⟩ := res_box3 HZ.out hb1
  have HBN := hid (below_put3 (bt HB.out hb1) (w.heap.size + 1 + 1) (by omega) (.bool false) (.slice none 0 0) (.slice none 0 0))
  clear hb1 HC HN HM HZ HSL
  go_wp2_with fail
  refine bodyPost_ret (v := .tuple #[.agg #[.bool false, .slice none 0 0, .slice none 0 0], .int .i64 7]) (by simp [results, Tryz.results40, go_sem, y0, y1, y2]) rfl ?_
  exact ⟨false, _, [], _, [], _, rfl, World.ownsRow_nil _ _ _ _, World.ownsRow_nil _ _ _ _, RTells.err HE.out, HBN.out⟩
set_option maxHeartbeats 6400000 in
theorem dQuo_ok (n : Bool) (a : Option Addr) (ca : Nat) (xs : List Int) (b : Option Addr) (cb : Nat) (ys : List Int) (m : Bool) (c : Option Addr) (cc : Nat) (us : List Int) (d : Option Addr) (cd : Nat) (vs : List Int) (w : World) (sx : Sl w (.slice a xs.length ca) xs) (sy : Sl w (.slice b ys.length cb) ys) (su : Sl w (.slice c us.length cc) us) (sv : Sl w (.slice d vs.length cd) vs) (hlx : xs.length ≤ 281474976710656) (hly : ys.length ≤ 281474976710656) (hlu : us.length ≤ 281474976710656) (hlv : vs.length ≤ 281474976710656) (hx : rchk n xs ys = 0) (hy : rchk m us vs = 0) (h0 : 0 < us.length) :
    Calls Tryz.prog 40 #[.agg #[.bool n, .slice a xs.length ca, .slice b ys.length cb], .agg #[.bool m, .slice c us.length cc, .slice d vs.length cd]] w (RTold w 0 (rq n xs ys / rq m us vs)) := by
  obtain ⟨lx, ly, tx, ty, yp, _, _⟩ := rchk_ok hx
  obtain ⟨lu, lv, tu, tv, vp, _, _⟩ := rchk_ok hy
  have wx := sx.wd
  have wy := sy.wd
  have wu := su.wd
  have wv := sv.wd
  have HB : Hid (Below w.heap.size w (((w.alloc (.cells #[.bool n, .slice a xs.length ca, .slice b ys.length cb] 24)).alloc (.cells #[.bool m, .slice c us.length cc, .slice d vs.length cd] 24)).alloc (.cells #[.bool false, .slice none 0 0, .slice none 0 0] 24))) := bt (bt (alloc_later _ _) (alloc_later _ _)) (alloc_later _ _)
  have HZ : Hid (Box (((w.alloc (.cells #[.bool n, .slice a xs.length ca, .slice b ys.length cb] 24)).alloc (.cells #[.bool m, .slice c us.length cc, .slice d vs.length cd] 24)).alloc (.cells #[.bool false, .slice none 0 0, .slice none 0 0] 24)) (w.heap.size + 1 + 1) 24 #[.bool false, .slice none 0 0, .slice none 0 0]) := by
    have e := Box.made ((w.alloc (.cells #[.bool n, .slice a xs.length ca, .slice b ys.length cb] 24)).alloc (.cells #[.bool m, .slice c us.length cc, .slice d vs.length cd] 24)) 24 #[.bool false, .slice none 0 0, .slice none 0 0]
    simp at e
    exact e
  have HN : Hid (Box (((w.alloc (.cells #[.bool n, .slice a xs.length ca, .slice b ys.length cb] 24)).alloc (.cells #[.bool m, .slice c us.length cc, .slice d vs.length cd] 24)).alloc (.cells #[.bool false, .slice none 0 0, .slice none 0 0] 24)) w.heap.size 24 #[.bool n, .slice a xs.length ca, .slice b ys.length cb]) := Box.later (Box.made w _ _) (bt (alloc_later _ _) (alloc_later _ _)) (by simp)
  have HM : Hid (Box (((w.alloc (.cells #[.bool n, .slice a xs.length ca, .slice b ys.length cb] 24)).alloc (.cells #[.bool m, .slice c us.length cc, .slice d vs.length cd] 24)).alloc (.cells #[.bool false, .slice none 0 0, .slice none 0 0] 24)) (w.heap.size + 1) 24 #[.bool m, .slice c us.length cc, .slice d vs.length cd]) := by
    have e := Box.later (Box.made (w.alloc (.cells #[.bool n, .slice a xs.length ca, .slice b ys.length cb] 24)) 24 #[.bool m, .slice c us.length cc, .slice d vs.length cd]) (alloc_later ((w.alloc (.cells #[.bool n, .slice a xs.length ca, .slice b ys.length cb] 24)).alloc (.cells #[.bool m, .slice c us.length cc, .slice d vs.length cd] 24)) (.cells #[.bool false, .slice none 0 0, .slice none 0 0] 24)) (by simp)
    simp at e
    exact e
  have HXS : Hid (w.heap.size + 1 + 1 < (((w.alloc (.cells #[.bool n, .slice a xs.length ca, .slice b ys.length cb] 24)).alloc (.cells #[.bool m, .slice c us.length cc, .slice d vs.length cd] 24)).alloc (.cells #[.bool false, .slice none 0 0, .slice none 0 0] 24)).heap.size) := HZ.out.lt
  have HSL := hid (And.intro (sx.later HB.out) (And.intro (sy.later HB.out) (And.intro (su.later HB.out) (sv.later HB.out))))
  have HTT := hid (And.intro tx (And.intro ty (And.intro tu tv)))
  have HC := hid (both3_any n _ _ xs _ _ ys m _ _ us _ _ vs (((w.alloc (.cells #[.bool n, .slice a xs.length ca, .slice b ys.length cb] 24)).alloc (.cells #[.bool m, .slice c us.length cc, .slice d vs.length cd] 24)).alloc (.cells #[.bool false, .slice none 0 0, .slice none 0 0] 24)) HSL.out.1 HSL.out.2.1 HSL.out.2.2.1 HSL.out.2.2.2 hlx hly hlu hlv)
  rw [rboth_good hx hy] at HC
  have HPL : Hid (val xs * val vs < 4294967296 ^ 4096 ∧ val ys * val us < 4294967296 ^ 4096) := ⟨mul_4096 (val_nonneg wx) (below2048 wx lx) (val_nonneg wv) (below2048 wv lv), mul_4096 (val_nonneg wy) (below2048 wy ly) (val_nonneg wu) (below2048 wu lu)⟩
  have HPOS : Hid (0 < val ys * val us) := Int.mul_pos (val_pos' wy ty yp) (val_pos' wu tu h0)
  obtain ⟨s, hs⟩ : ∃ s, (!(n == m)) = s := ⟨_, rfl⟩
  have HSG := hid (show (n != m) = s from hs)
  have HQ : Hid (Rat.divInt (sg s (val xs * val vs)) (val ys * val us) = rq n xs ys / rq m us vs) := by
    show _ = _
    rw [← HSG.out]
    exact quo_q
  have h0' : ((us.length : Int) == 0) = false := beq_eq_false_iff_ne.2 (by omega)
  clear sx sy su sv tx ty tu tv wx wy wu wv hx hy yp vp
  go_enter Tryz.func40, Tryz.ntmps40
  go_wp2_with fail
  refine Calls.mono HC.out ?_
  generalize (((w.alloc (.cells #[.bool n, .slice a xs.length ca, .slice b ys.length cb] 24)).alloc (.cells #[.bool m, .slice c us.length cc, .slice d vs.length cd] 24)).alloc (.cells #[.bool false, .slice none 0 0, .slice none 0 0] 24)) = X at *
  rintro e w1 ⟨rfl, hb1⟩
  have HB1 := hid hb1
  clear hb1 HC
  have HK : Hid (∀ V, Below X.heap.size X V → V.cell? ⟨w.heap.size, 0, none⟩ = some (.bool n) ∧ V.cell? ⟨w.heap.size, 1, none⟩ = some (.slice a xs.length ca) ∧ V.cell? ⟨w.heap.size, 2, none⟩ = some (.slice b ys.length cb) ∧ V.cell? ⟨w.heap.size + 1, 0, none⟩ = some (.bool m) ∧ V.cell? ⟨w.heap.size + 1, 1, none⟩ = some (.slice c us.length cc) ∧ V.cell? ⟨w.heap.size + 1, 2, none⟩ = some (.slice d vs.length cd)) := fun V hb => by
    obtain ⟨p0, p1, p2, _⟩ := res_box3 HN.out hb
    obtain ⟨q0, q1, q2, _⟩ := res_box3 HM.out hb
    exact ⟨p0, p1, p2, q0, q1, q2⟩
  have hs0 := HK.out _ HB1.out.drew
  have HBR := hid HB1.out.drew
  have H1 := hid (fun ww (hv : Below X.heap.size X ww) => told1_in _ HK.out ww hv (times3_any _ _ xs vs ww (HSL.out.1.later hv) (HSL.out.2.2.2.later hv) (by omega) HTT.out.1 HTT.out.2.2.2))
  have H2 := hid (fun ww (hv : Below X.heap.size X ww) => told1_in _ HK.out ww hv (times3_any _ _ ys us ww (HSL.out.2.1.later hv) (HSL.out.2.2.1.later hv) (by omega) HTT.out.2.1 HTT.out.2.2.1))
  have H3 : Hid (∀ ww, Below X.heap.size X ww → ∀ a4 z4 c4 a5 z5 c5, One X ww (.slice a4 (List.length z4) c4) z4 (val xs * val vs) → One X ww (.slice a5 (List.length z5) c5) z5 (val ys * val us) → Calls Tryz.prog 61 #[.bool s, .slice a4 z4.length c4, .slice a5 z5.length c5] ww fun e w' => ∃ k a8 z8 c8 a9 z9 c9 code, e = .returned (.tuple #[.agg #[.bool k, .slice a8 (List.length z8) c8, .slice a9 (List.length z9) c9], .int .i64 code]) ∧ Hid (w'.ownsRow X.heap.size 63 1 (.slice a8 (List.length z8) c8) z8.length (z8.map (Value.int .u32)) ∧ w'.ownsRow X.heap.size 63 1 (.slice a9 (List.length z9) c9) z9.length (z9.map (Value.int .u32)) ∧ RTells 0 (rq n xs ys / rq m us vs) k z8 z9 code) ∧ (w'.cell? ⟨w.heap.size, 0, none⟩ = some (.bool n) ∧ w'.cell? ⟨w.heap.size, 1, none⟩ = some (.slice a xs.length ca) ∧ w'.cell? ⟨w.heap.size, 2, none⟩ = some (.slice b ys.length cb) ∧ w'.cell? ⟨w.heap.size + 1, 0, none⟩ = some (.bool m) ∧ w'.cell? ⟨w.heap.size + 1, 1, none⟩ = some (.slice c us.length cc) ∧ w'.cell? ⟨w.heap.size + 1, 2, none⟩ = some (.slice d vs.length cd)) ∧ Below X.heap.size X w') := fun ww hv a4 z4 c4 a5 z5 c5 h4 h5 => by
    have e := of3_any s a4 c4 z4 a5 c5 z5 ww h4.sl h5.sl (by have := own_len h4 HPL.out.1; omega) (by have := own_len h5 HPL.out.2; omega) h4.2.2.1 h5.2.2.1 (own_pos h5 HPOS.out)
    rw [h4.2.2.2, h5.2.2.2, HQ.out] at e
    refine Calls.mono e ?_
    rintro e w' ⟨k, v, zs, u, ds, code, rfl, o1, o2, t, hb⟩
    obtain ⟨a8, c8, hs⟩ := own_slice' o1
    subst hs
    obtain ⟨a9, c9, hs⟩ := own_slice' o2
    subst hs
    exact ⟨k, a8, zs, c8, a9, ds, c9, code, rfl, ⟨owns_base o1 hv.size, owns_base o2 hv.size, t⟩, HK.out w' (bt hv hb), bt hv hb⟩
  have hq0 : w.heap.size + 1 + 1 ≠ w.heap.size := by omega
  have hq1 : w.heap.size + 1 + 1 ≠ w.heap.size + 1 := by omega
  obtain ⟨p0, p1, p2, q0, q1, q2⟩ := HK.out w1 HB1.out
  go_wp2_with fail
  clear p0 p1 p2 q0 q1 q2
  go_region_held3 (fun V : World => V.cell? ⟨w.heap.size, 0, none⟩ = some (.bool n) ∧ V.cell? ⟨w.heap.size, 1, none⟩ = some (.slice a xs.length ca) ∧ V.cell? ⟨w.heap.size, 2, none⟩ = some (.slice b ys.length cb) ∧ V.cell? ⟨w.heap.size + 1, 0, none⟩ = some (.bool m) ∧ V.cell? ⟨w.heap.size + 1, 1, none⟩ = some (.slice c us.length cc) ∧ V.cell? ⟨w.heap.size + 1, 2, none⟩ = some (.slice d vs.length cd)) (first | exact hs9 | exact hs5 | exact hs4 | exact hs0 | (simp [hs9, World.cell?_setCell_far, hq0]))
    (first
      | (go_at_call 61; with_reducible refine Calls.mono (H3.out _ hb5 _ _ _ _ _ _ (HE4.out.1.later HS5.out) HE5.out.1) ?_; rintro e w9 ⟨k9, a8, z8, c8, a9, z9, c9, code, rfl, HE9, hs9, hb9⟩; obtain ⟨y0, y1, y2, f0, f1, f2⟩ := res_box3 HZ.out hb9)
      | (go_at_call 62; with_reducible refine Calls.mono (H2.out _ hb4) ?_; rintro e w5 ⟨a5, z5, c5, rfl, HE5, hs5, hb5, HS5⟩)
      | (go_at_call 62; with_reducible refine Calls.mono (H1.out _ HBR.out) ?_; rintro e w4 ⟨a4, z4, c4, rfl, HE4, hs4, hb4, HS4⟩))
  all_goals
    have HBW := hid (bt HB.out hb9)
    have HR := hid HE9.out
    clear HK H1 H2 H3 HE4 HE5 HE9 HS4 HS5 hs0 hs4 hs5 hs9 hb4 hb5 hb9 HBR HSG
    go_wp2_with fail
    refine bodyPost_ret (v := .tuple #[.agg #[.bool k9, .slice a8 z8.length c8, .slice a9 z9.length c9], .int .i64 code]) (by simp [results, Tryz.results40, go_sem, y0, y1, y2]) rfl ?_
    exact RTold.put HR.out (w.heap.size + 1 + 1) HXS.out (by omega) HBW.out _ _ _
theorem dQuo_full (n : Bool) (a : Option Addr) (ca : Nat) (xs : List Int) (b : Option Addr) (cb : Nat) (ys : List Int) (m : Bool) (c : Option Addr) (cc : Nat) (us : List Int) (d : Option Addr) (cd : Nat) (vs : List Int) (w : World) (sx : Sl w (.slice a xs.length ca) xs) (sy : Sl w (.slice b ys.length cb) ys) (su : Sl w (.slice c us.length cc) us) (sv : Sl w (.slice d vs.length cd) vs) (hlx : xs.length ≤ 281474976710656) (hly : ys.length ≤ 281474976710656) (hlu : us.length ≤ 281474976710656) (hlv : vs.length ≤ 281474976710656) :
    Calls Tryz.prog 40 #[.agg #[.bool n, .slice a xs.length ca, .slice b ys.length cb], .agg #[.bool m, .slice c us.length cc, .slice d vs.length cd]] w (RTold w (qErr n xs ys m us vs) (rq n xs ys / rq m us vs)) := by
  unfold qErr
  by_cases he : rboth n xs ys m us vs = 0
  · rw [if_pos he]
    by_cases h0 : us.length = 0
    · rw [if_pos h0]
      exact dQuo_z n a ca xs b cb ys m c cc us d cd vs w sx sy su sv hlx hly hlu hlv (rboth_ok he).1 (rboth_ok he).2 h0 _
    · rw [if_neg h0]
      exact dQuo_ok n a ca xs b cb ys m c cc us d cd vs w sx sy su sv hlx hly hlu hlv (rboth_ok he).1 (rboth_ok he).2 (by omega)
  · rw [if_neg he]
    exact dQuo_err n a ca xs b cb ys m c cc us d cd vs w sx sy su sv hlx hly hlu hlv he _
set_option maxHeartbeats 800000 in
theorem copied3_any (a : Option Addr) (n cap : Nat) (xs : List Int) (w : World) (h : Reads w w.heap.size a n cap xs) (hn : n ≤ 1099511627776) :
    Calls Tryz.prog 96 #[.slice a n cap] w fun e w' => ∃ v, e = .returned v ∧ w'.ownsRow w.heap.size 63 1 v n (xs.map (Value.int .u32)) ∧ Below w.heap.size w w' := by
  obtain ⟨i0, hi, hz0, hz1, hz2⟩ := info_parts Tryz.infoW
  have hl := h.1
  have HL : Hid (xs.length = n) := hl
  have hown : w.ownsRow w.heap.size 63 1 (.slice none 0 0) 0 [] := World.ownsRow_nil _ _ _ _
  have hbel : Below w.heap.size w w := Below.refl _ _
  cases a with
  | none =>
    have h0 : cap = 0 := h.2.2.2.2.2 rfl
    subst h0
    have h1 : n = 0 := by have := h.2.2.2.1; omega
    subst h1
    have hx : xs = [] := List.eq_nil_of_length_eq_zero hl
    subst hx
    clear h hl
    go_enter Tryz.func96, Tryz.ntmps96
    go_wp2_with (at_builtin; refine wpList_append_own_none rfl _ _ 22 rfl w.heap.size 63 i0 1 Tryz.underlying22 hi _ 0 [] rfl hown rfl ?_)
    go_ret
    exact ⟨_, rfl, hown, hbel⟩
  | some ad =>
    have hnews := copy_news (h.later hbel (Nat.le_refl _))
    have HN : Hid (∀ j v, (xs.map (Value.int .u32))[j]? = some v → w.cell? (ad.add j) = some v) := hnews
    have HLn : Hid ((xs.map (Value.int .u32)).length = n * 1) := by show _ = _; simp [hl]
    clear hnews h hl
    go_enter Tryz.func96, Tryz.ntmps96
    go_wp2_with (at_builtin; refine wpList_append_own _ rfl _ _ 22 rfl w.heap.size 63 i0 (.int .u32 0) 1 4 Tryz.underlying22 hi hz0 hz1 hz2 rfl (by decide) _ 0 [] rfl hown ad n cap (xs.map (Value.int .u32)) rfl HLn.out HN.out (ints_oneCell _ _) (by unfold maxLen; omega) (by omega) (by simp) ?_)
    intro v' w1 hown' hgrow _
    have hb2 : Below w.heap.size w w1 := hbel.grown hgrow (Nat.le_refl _) (fun k hk => by simp [Value.ownBlock] at hk)
    go_wp2
    go_ret
    exact ⟨_, rfl, hown', hb2⟩
theorem copied3_sl (v : Value) (xs : List Int) (w : World) (h : Sl w v xs) (hn : xs.length ≤ 1099511627776) :
    Calls Tryz.prog 96 #[v] w fun e w' => ∃ v', e = .returned v' ∧ w'.ownsRow w.heap.size 63 1 v' xs.length (xs.map (Value.int .u32)) ∧ Below w.heap.size w w' := by
  obtain ⟨a, cap, rfl, hr⟩ := h
  exact copied3_any a xs.length cap xs w hr hn
set_option maxHeartbeats 6400000 in
theorem opposite_p (a : Option Addr) (ca : Nat) (xs : List Int) (b : Option Addr) (cb : Nat) (ys : List Int) (w : World) (sx : Sl w (.slice a xs.length ca) xs) (sy : Sl w (.slice b ys.length cb) ys) (lx : xs.length ≤ 1099511627776) (ly : ys.length ≤ 1099511627776)  :
    Calls Tryz.prog 77 #[.agg #[.bool false, .slice a xs.length ca, .slice b ys.length cb]] w fun e w' => ∃ g1 c1 g2 c2, e = .returned (.agg #[.bool (decide (0 < xs.length)), .slice g1 xs.length c1, .slice g2 ys.length c2]) ∧ w'.ownsRow w.heap.size 63 1 (.slice g1 xs.length c1) xs.length (xs.map (Value.int .u32)) ∧ w'.ownsRow w.heap.size 63 1 (.slice g2 ys.length c2) ys.length (ys.map (Value.int .u32)) ∧ Below w.heap.size w w' := by
  have HB : Hid (Below w.heap.size w ((w.alloc (.cells #[.bool false, .slice a xs.length ca, .slice b ys.length cb] 24)).alloc (.cells #[.bool false, .slice none 0 0, .slice none 0 0] 24))) := bt (alloc_later _ _) (alloc_later _ _)
  have HA : Hid (Box ((w.alloc (.cells #[.bool false, .slice a xs.length ca, .slice b ys.length cb] 24)).alloc (.cells #[.bool false, .slice none 0 0, .slice none 0 0] 24)) w.heap.size 24 #[.bool false, .slice a xs.length ca, .slice b ys.length cb]) := Box.later (Box.made w _ _) (alloc_later _ _) (by simp)
  have HZ : Hid (Box ((w.alloc (.cells #[.bool false, .slice a xs.length ca, .slice b ys.length cb] 24)).alloc (.cells #[.bool false, .slice none 0 0, .slice none 0 0] 24)) (w.heap.size + 1) 24 #[.bool false, .slice none 0 0, .slice none 0 0]) := by
    have e := Box.made (w.alloc (.cells #[.bool false, .slice a xs.length ca, .slice b ys.length cb] 24)) 24 #[.bool false, .slice none 0 0, .slice none 0 0]
    simp at e
    exact e
  have HS := hid (And.intro (sx.later HB.out) (sy.later HB.out))
  clear sx sy
  go_enter Tryz.func77, Tryz.ntmps77
  go_wp2_with fail
  generalize ((w.alloc (.cells #[.bool false, .slice a xs.length ca, .slice b ys.length cb] 24)).alloc (.cells #[.bool false, .slice none 0 0, .slice none 0 0] 24)) = X at *
  have HK : Hid (∀ V, Below X.heap.size X V → (V.cell? ⟨w.heap.size, 0, none⟩ = some (.bool false) ∧ V.cell? ⟨w.heap.size, 1, none⟩ = some (.slice a xs.length ca) ∧ V.cell? ⟨w.heap.size, 2, none⟩ = some (.slice b ys.length cb))) := fun V hb => by
    obtain ⟨p0, p1, p2, _, _, _⟩ := res_box3 HA.out hb
    exact ⟨p0, p1, p2⟩
  have hs0 := HK.out _ (Below.drew (Below.refl _ X))
  have HL1 : Hid (∀ V, Below X.heap.size X V → Calls Tryz.prog 96 #[.slice a xs.length ca] V fun e V' => ∃ g cap, e = .returned (.slice g xs.length cap) ∧ Hid (V'.ownsRow X.heap.size 63 1 (.slice g xs.length cap) xs.length (xs.map (Value.int .u32)) ∧ Below V.heap.size V V' ∧ Below X.heap.size X V') ∧ (V'.cell? ⟨w.heap.size, 0, none⟩ = some (.bool false) ∧ V'.cell? ⟨w.heap.size, 1, none⟩ = some (.slice a xs.length ca) ∧ V'.cell? ⟨w.heap.size, 2, none⟩ = some (.slice b ys.length cb)) ∧ V'.cell? ⟨w.heap.size + 1, 0, none⟩ = some (.bool false) ∧ V'.cell? ⟨w.heap.size + 1, 1, none⟩ = some (.slice none 0 0) ∧ V'.cell? ⟨w.heap.size + 1, 2, none⟩ = some (.slice none 0 0) ∧ V'.frozen? ⟨w.heap.size + 1, 0, none⟩ = false ∧ V'.frozen? ⟨w.heap.size + 1, 1, none⟩ = false ∧ V'.frozen? ⟨w.heap.size + 1, 2, none⟩ = false) := fun V hb => by
    refine Calls.mono (copied3_sl _ xs _ (HS.out.1.later hb) lx) ?_
    rintro e V' ⟨v1, rfl, o1, hb1⟩
    obtain ⟨g, cap, hv⟩ := own_slice' o1
    subst hv
    have hbX : Below X.heap.size X V' := bt hb hb1
    exact ⟨g, cap, rfl, ⟨owns_base o1 hb.size, hb1, hbX⟩, HK.out V' hbX, res_box3 HZ.out hbX⟩
  have HL2 : Hid (∀ V, Below X.heap.size X V → Calls Tryz.prog 96 #[.slice b ys.length cb] V fun e V' => ∃ g cap, e = .returned (.slice g ys.length cap) ∧ Hid (V'.ownsRow X.heap.size 63 1 (.slice g ys.length cap) ys.length (ys.map (Value.int .u32)) ∧ Below V.heap.size V V' ∧ Below X.heap.size X V') ∧ (V'.cell? ⟨w.heap.size, 0, none⟩ = some (.bool false) ∧ V'.cell? ⟨w.heap.size, 1, none⟩ = some (.slice a xs.length ca) ∧ V'.cell? ⟨w.heap.size, 2, none⟩ = some (.slice b ys.length cb)) ∧ V'.cell? ⟨w.heap.size + 1, 0, none⟩ = some (.bool false) ∧ V'.cell? ⟨w.heap.size + 1, 1, none⟩ = some (.slice none 0 0) ∧ V'.cell? ⟨w.heap.size + 1, 2, none⟩ = some (.slice none 0 0) ∧ V'.frozen? ⟨w.heap.size + 1, 0, none⟩ = false ∧ V'.frozen? ⟨w.heap.size + 1, 1, none⟩ = false ∧ V'.frozen? ⟨w.heap.size + 1, 2, none⟩ = false) := fun V hb => by
    refine Calls.mono (copied3_sl _ ys _ (HS.out.2.later hb) ly) ?_
    rintro e V' ⟨v1, rfl, o1, hb1⟩
    obtain ⟨g, cap, hv⟩ := own_slice' o1
    subst hv
    have hbX : Below X.heap.size X V' := bt hb hb1
    exact ⟨g, cap, rfl, ⟨owns_base o1 hb.size, hb1, hbX⟩, HK.out V' hbX, res_box3 HZ.out hbX⟩
  clear HS HA
  go_region_held3 (fun V : World => (V.cell? ⟨w.heap.size, 0, none⟩ = some (.bool false) ∧ V.cell? ⟨w.heap.size, 1, none⟩ = some (.slice a xs.length ca) ∧ V.cell? ⟨w.heap.size, 2, none⟩ = some (.slice b ys.length cb))) (first | exact hs2 | exact hs1 | exact hs0 | (simp [hs2, World.cell?_setCell_far]))
    (first
      | (go_at_call 96; with_reducible refine Calls.mono (HL2.out _ HE1.out.2.2) ?_; rintro e w2 ⟨g2, c2, rfl, HE2, hs2, r0, r1, r2, f0, f1, f2⟩)
      | (go_at_call 96; with_reducible refine Calls.mono (HL1.out _ (Below.drew (Below.refl _ X))) ?_; rintro e w1 ⟨g1, c1, rfl, HE1, hs1, y0, y1, y2, z0, z1, z2⟩))
  all_goals
    have HZ2 := hid (HZ.out.later HE2.out.2.2 HZ.out.lt)
    have HO1 := hid (own_put3 (owns_base (owns_later HE1.out.1 HE2.out.2.1) HB.out.size) (w.heap.size + 1) (own_ne_box (owns_later HE1.out.1 HE2.out.2.1) HZ2.out (by decide)) (.bool (decide (0 < xs.length))) (.slice g1 xs.length c1) (.slice g2 ys.length c2))
    have HO2 := hid (own_put3 (owns_base HE2.out.1 HB.out.size) (w.heap.size + 1) (own_ne_box HE2.out.1 HZ2.out (by decide)) (.bool (decide (0 < xs.length))) (.slice g1 xs.length c1) (.slice g2 ys.length c2))
    have HBN := hid (below_put3 (bt HB.out HE2.out.2.2) (w.heap.size + 1) (by omega) (.bool (decide (0 < xs.length))) (.slice g1 xs.length c1) (.slice g2 ys.length c2))
    clear HK HL1 HL2 HE1 HE2 HZ HB HZ2 hs0 hs1 hs2 y0 y1 y2 z0 z1 z2
    go_wp2_with fail
    refine bodyPost_ret (v := .agg #[.bool (decide (0 < xs.length)), .slice g1 xs.length c1, .slice g2 ys.length c2]) (by simp [results, Tryz.results77, go_sem, r0, r1, r2]) rfl ?_
    exact ⟨g1, c1, g2, c2, rfl, HO1.out, HO2.out, HBN.out⟩
def oneg (n : Bool) (xs : List Int) : Bool := !n && decide (0 < xs.length)
theorem opp_chk {n : Bool} {xs ys : List Int} (h : rchk n xs ys = 0) : rchk (oneg n xs) xs ys = 0 := by
  obtain ⟨lx, ly, tx, ty, y0, s0, g⟩ := rchk_ok h
  refine rchk_good lx ly tx ty y0 ?_ g
  unfold oneg
  by_cases c : 0 < xs.length
  · exact .inr c
  · left; rw [decide_eq_false c, Bool.and_false]
theorem opp_q {n : Bool} {xs ys : List Int} : rq (oneg n xs) xs ys = -(rq n xs ys) := by
  rw [← rq_neg]
  unfold rq oneg
  by_cases c : 0 < xs.length
  · rw [decide_eq_true c, Bool.and_true]; rfl
  · have e : xs = [] := List.length_eq_zero_iff.1 (by omega)
    subst e
    congr 1
    cases n <;> simp [wval, sg, val, valTo]
set_option maxHeartbeats 6400000 in
theorem opposite_n (a : Option Addr) (ca : Nat) (xs : List Int) (b : Option Addr) (cb : Nat) (ys : List Int) (w : World) (sx : Sl w (.slice a xs.length ca) xs) (sy : Sl w (.slice b ys.length cb) ys) (lx : xs.length ≤ 1099511627776) (ly : ys.length ≤ 1099511627776)  :
    Calls Tryz.prog 77 #[.agg #[.bool true, .slice a xs.length ca, .slice b ys.length cb]] w fun e w' => ∃ g1 c1 g2 c2, e = .returned (.agg #[.bool false, .slice g1 xs.length c1, .slice g2 ys.length c2]) ∧ w'.ownsRow w.heap.size 63 1 (.slice g1 xs.length c1) xs.length (xs.map (Value.int .u32)) ∧ w'.ownsRow w.heap.size 63 1 (.slice g2 ys.length c2) ys.length (ys.map (Value.int .u32)) ∧ Below w.heap.size w w' := by
  have HB : Hid (Below w.heap.size w ((w.alloc (.cells #[.bool true, .slice a xs.length ca, .slice b ys.length cb] 24)).alloc (.cells #[.bool false, .slice none 0 0, .slice none 0 0] 24))) := bt (alloc_later _ _) (alloc_later _ _)
  have HA : Hid (Box ((w.alloc (.cells #[.bool true, .slice a xs.length ca, .slice b ys.length cb] 24)).alloc (.cells #[.bool false, .slice none 0 0, .slice none 0 0] 24)) w.heap.size 24 #[.bool true, .slice a xs.length ca, .slice b ys.length cb]) := Box.later (Box.made w _ _) (alloc_later _ _) (by simp)
  have HZ : Hid (Box ((w.alloc (.cells #[.bool true, .slice a xs.length ca, .slice b ys.length cb] 24)).alloc (.cells #[.bool false, .slice none 0 0, .slice none 0 0] 24)) (w.heap.size + 1) 24 #[.bool false, .slice none 0 0, .slice none 0 0]) := by
    have e := Box.made (w.alloc (.cells #[.bool true, .slice a xs.length ca, .slice b ys.length cb] 24)) 24 #[.bool false, .slice none 0 0, .slice none 0 0]
    simp at e
    exact e
  have HS := hid (And.intro (sx.later HB.out) (sy.later HB.out))
  clear sx sy
  go_enter Tryz.func77, Tryz.ntmps77
  go_wp2_with fail
  generalize ((w.alloc (.cells #[.bool true, .slice a xs.length ca, .slice b ys.length cb] 24)).alloc (.cells #[.bool false, .slice none 0 0, .slice none 0 0] 24)) = X at *
  have HK : Hid (∀ V, Below X.heap.size X V → (V.cell? ⟨w.heap.size, 0, none⟩ = some (.bool true) ∧ V.cell? ⟨w.heap.size, 1, none⟩ = some (.slice a xs.length ca) ∧ V.cell? ⟨w.heap.size, 2, none⟩ = some (.slice b ys.length cb))) := fun V hb => by
    obtain ⟨p0, p1, p2, _, _, _⟩ := res_box3 HA.out hb
    exact ⟨p0, p1, p2⟩
  have hs0 := HK.out _ (Below.drew (Below.refl _ X))
  have HL1 : Hid (∀ V, Below X.heap.size X V → Calls Tryz.prog 96 #[.slice a xs.length ca] V fun e V' => ∃ g cap, e = .returned (.slice g xs.length cap) ∧ Hid (V'.ownsRow X.heap.size 63 1 (.slice g xs.length cap) xs.length (xs.map (Value.int .u32)) ∧ Below V.heap.size V V' ∧ Below X.heap.size X V') ∧ (V'.cell? ⟨w.heap.size, 0, none⟩ = some (.bool true) ∧ V'.cell? ⟨w.heap.size, 1, none⟩ = some (.slice a xs.length ca) ∧ V'.cell? ⟨w.heap.size, 2, none⟩ = some (.slice b ys.length cb)) ∧ V'.cell? ⟨w.heap.size + 1, 0, none⟩ = some (.bool false) ∧ V'.cell? ⟨w.heap.size + 1, 1, none⟩ = some (.slice none 0 0) ∧ V'.cell? ⟨w.heap.size + 1, 2, none⟩ = some (.slice none 0 0) ∧ V'.frozen? ⟨w.heap.size + 1, 0, none⟩ = false ∧ V'.frozen? ⟨w.heap.size + 1, 1, none⟩ = false ∧ V'.frozen? ⟨w.heap.size + 1, 2, none⟩ = false) := fun V hb => by
    refine Calls.mono (copied3_sl _ xs _ (HS.out.1.later hb) lx) ?_
    rintro e V' ⟨v1, rfl, o1, hb1⟩
    obtain ⟨g, cap, hv⟩ := own_slice' o1
    subst hv
    have hbX : Below X.heap.size X V' := bt hb hb1
    exact ⟨g, cap, rfl, ⟨owns_base o1 hb.size, hb1, hbX⟩, HK.out V' hbX, res_box3 HZ.out hbX⟩
  have HL2 : Hid (∀ V, Below X.heap.size X V → Calls Tryz.prog 96 #[.slice b ys.length cb] V fun e V' => ∃ g cap, e = .returned (.slice g ys.length cap) ∧ Hid (V'.ownsRow X.heap.size 63 1 (.slice g ys.length cap) ys.length (ys.map (Value.int .u32)) ∧ Below V.heap.size V V' ∧ Below X.heap.size X V') ∧ (V'.cell? ⟨w.heap.size, 0, none⟩ = some (.bool true) ∧ V'.cell? ⟨w.heap.size, 1, none⟩ = some (.slice a xs.length ca) ∧ V'.cell? ⟨w.heap.size, 2, none⟩ = some (.slice b ys.length cb)) ∧ V'.cell? ⟨w.heap.size + 1, 0, none⟩ = some (.bool false) ∧ V'.cell? ⟨w.heap.size + 1, 1, none⟩ = some (.slice none 0 0) ∧ V'.cell? ⟨w.heap.size + 1, 2, none⟩ = some (.slice none 0 0) ∧ V'.frozen? ⟨w.heap.size + 1, 0, none⟩ = false ∧ V'.frozen? ⟨w.heap.size + 1, 1, none⟩ = false ∧ V'.frozen? ⟨w.heap.size + 1, 2, none⟩ = false) := fun V hb => by
    refine Calls.mono (copied3_sl _ ys _ (HS.out.2.later hb) ly) ?_
    rintro e V' ⟨v1, rfl, o1, hb1⟩
    obtain ⟨g, cap, hv⟩ := own_slice' o1
    subst hv
    have hbX : Below X.heap.size X V' := bt hb hb1
    exact ⟨g, cap, rfl, ⟨owns_base o1 hb.size, hb1, hbX⟩, HK.out V' hbX, res_box3 HZ.out hbX⟩
  clear HS HA
  refine wp_region_noPanic ?_
  refine wp_region_held_drew (S := (fun V : World => (V.cell? ⟨w.heap.size, 0, none⟩ = some (.bool true) ∧ V.cell? ⟨w.heap.size, 1, none⟩ = some (.slice a xs.length ca) ∧ V.cell? ⟨w.heap.size, 2, none⟩ = some (.slice b ys.length cb)))) (by kernel_rfl) ?_ (fun hHeld => ?_)
  · exact hs0
  refine wpAnyH_take (i := 0) (oi := { dst := some 3, op := Op.fieldAddr 24 (Operand.tmp 1) 0, type := 0, pos := "ref.go:162", after := #[], guard := none }) (v := ?_) rfl (by kernel_rfl) (by kernel_rfl) (by kernel_rfl) (fun _ _ _ h => h) (Or.inl ⟨by rfl, ?_⟩) (by assumption) ?_
  rotate_left 1
  · intro V hSw
    try dsimp only at hSw
    go_simp
    try with_reducible rfl
  try simp only [Act.put, List.setIfInBounds_toArray, List.set_cons_zero, List.set_cons_succ]
  refine wpAnyH_take (i := 1) (oi := { dst := some 4, op := Op.load 4 (Operand.tmp 3), type := 4, pos := "ref.go:162", after := #[{ on := 0, ground := Ground.data }], guard := none }) (v := ?_) rfl (by kernel_rfl) (by kernel_rfl) (by kernel_rfl) (fun _ _ _ h => h) (Or.inl ⟨by rfl, ?_⟩) (by assumption) ?_
  rotate_left 1
  · intro V hSw
    try dsimp only at hSw
    go_simp
    try with_reducible rfl
  try simp only [Act.put, List.setIfInBounds_toArray, List.set_cons_zero, List.set_cons_succ]
  refine wpAnyH_take (i := 2) (oi := { dst := some 5, op := Op.unOp UnOp.not 4 (Operand.tmp 4), type := 4, pos := "ref.go:162", after := #[{ on := 1, ground := Ground.data }], guard := none }) (v := ?_) rfl (by kernel_rfl) (by kernel_rfl) (by kernel_rfl) (fun _ _ _ h => h) (Or.inl ⟨by rfl, ?_⟩) (by assumption) ?_
  rotate_left 1
  · intro V hSw
    try dsimp only at hSw
    go_simp
    try with_reducible rfl
  try simp only [Act.put, List.setIfInBounds_toArray, List.set_cons_zero, List.set_cons_succ]
  refine wpAnyH_take (i := 3) (oi := { dst := some 6, op := Op.move (Operand.tmp 5), type := 4, pos := "ref.go:162", after := #[{ on := 2, ground := Ground.data }], guard := none }) (v := ?_) rfl (by kernel_rfl) (by kernel_rfl) (by kernel_rfl) (fun _ _ _ h => h) (Or.inl ⟨by rfl, ?_⟩) (by assumption) ?_
  rotate_left 1
  · intro V hSw
    try dsimp only at hSw
    go_simp
    try with_reducible rfl
  try simp only [Act.put, List.setIfInBounds_toArray, List.set_cons_zero, List.set_cons_succ]
  refine wpAnyH_take (i := 4) (oi := { dst := some 7, op := Op.fieldAddr 24 (Operand.tmp 1) 1, type := 0, pos := "ref.go:162", after := #[{ on := 3, ground := Ground.guard }], guard := some (3, true) }) (v := undef) rfl (by kernel_rfl) (by kernel_rfl) (by kernel_rfl) (fun _ _ _ h => h) (Or.inr ⟨by rfl, rfl⟩) (by assumption) ?_
  try simp only [Act.put, List.setIfInBounds_toArray, List.set_cons_zero, List.set_cons_succ]
  refine wpAnyH_take (i := 5) (oi := { dst := some 8, op := Op.load 22 (Operand.tmp 7), type := 22, pos := "ref.go:162", after := #[{ on := 4, ground := Ground.data }, { on := 3, ground := Ground.guard }], guard := some (3, true) }) (v := undef) rfl (by kernel_rfl) (by kernel_rfl) (by kernel_rfl) (fun _ _ _ h => h) (Or.inr ⟨by rfl, rfl⟩) (by assumption) ?_
  try simp only [Act.put, List.setIfInBounds_toArray, List.set_cons_zero, List.set_cons_succ]
  refine wpAnyH_take (i := 6) (oi := { dst := some 9, op := Op.call { callee := Callee.builtin Builtin.len, args := #[Operand.tmp 8], argTypes := #[22] }, type := 3, pos := "ref.go:162", after := #[{ on := 5, ground := Ground.data }, { on := 3, ground := Ground.guard }], guard := some (3, true) }) (v := undef) rfl (by kernel_rfl) (by kernel_rfl) (by kernel_rfl) (fun _ _ _ h => h) (Or.inr ⟨by rfl, rfl⟩) (by assumption) ?_
  try simp only [Act.put, List.setIfInBounds_toArray, List.set_cons_zero, List.set_cons_succ]
  refine wpAnyH_take (i := 7) (oi := { dst := some 10, op := Op.binOp BinOp.gtr 3 (Operand.tmp 9) (Operand.const (Value.int IntKind.i64 0)) 3, type := 4, pos := "ref.go:162", after := #[{ on := 6, ground := Ground.data }, { on := 3, ground := Ground.guard }], guard := some (3, true) }) (v := undef) rfl (by kernel_rfl) (by kernel_rfl) (by kernel_rfl) (fun _ _ _ h => h) (Or.inr ⟨by rfl, rfl⟩) (by assumption) ?_
  try simp only [Act.put, List.setIfInBounds_toArray, List.set_cons_zero, List.set_cons_succ]
  refine wpAnyH_take (i := 8) (oi := { dst := some 11, op := Op.pick (Operand.tmp 6) (Operand.tmp 10) (Operand.const (Value.bool false)), type := 4, pos := "ref.go:162", after := #[{ on := 3, ground := Ground.data }, { on := 7, ground := Ground.data }], guard := none }) (v := ?_) rfl (by kernel_rfl) (by kernel_rfl) (by kernel_rfl) (fun _ _ _ h => h) (Or.inl ⟨by rfl, ?_⟩) (by assumption) ?_
  rotate_left 1
  · intro V hSw
    try dsimp only at hSw
    go_simp
    try with_reducible rfl
  try simp only [Act.put, List.setIfInBounds_toArray, List.set_cons_zero, List.set_cons_succ]
  refine wpAnyH_take (i := 9) (oi := { dst := some 12, op := Op.fieldAddr 24 (Operand.tmp 1) 1, type := 0, pos := "ref.go:162", after := #[], guard := none }) (v := ?_) rfl (by kernel_rfl) (by kernel_rfl) (by kernel_rfl) (fun _ _ _ h => h) (Or.inl ⟨by rfl, ?_⟩) (by assumption) ?_
  rotate_left 1
  · intro V hSw
    try dsimp only at hSw
    go_simp
    try with_reducible rfl
  try simp only [Act.put, List.setIfInBounds_toArray, List.set_cons_zero, List.set_cons_succ]
  refine wpAnyH_take (i := 10) (oi := { dst := some 13, op := Op.load 22 (Operand.tmp 12), type := 22, pos := "ref.go:162", after := #[{ on := 9, ground := Ground.data }], guard := none }) (v := ?_) rfl (by kernel_rfl) (by kernel_rfl) (by kernel_rfl) (fun _ _ _ h => h) (Or.inl ⟨by rfl, ?_⟩) (by assumption) ?_
  rotate_left 1
  · intro V hSw
    try dsimp only at hSw
    go_simp
    try with_reducible rfl
  try simp only [Act.put, List.setIfInBounds_toArray, List.set_cons_zero, List.set_cons_succ]
  refine wpAnyH_take (i := 12) (oi := { dst := some 15, op := Op.fieldAddr 24 (Operand.tmp 1) 2, type := 0, pos := "ref.go:162", after := #[], guard := none }) (v := ?_) rfl (by kernel_rfl) (by kernel_rfl) (by kernel_rfl) (fun _ _ _ h => h) (Or.inl ⟨by rfl, ?_⟩) (by assumption) ?_
  rotate_left 1
  · intro V hSw
    try dsimp only at hSw
    go_simp
    try with_reducible rfl
  try simp only [Act.put, List.setIfInBounds_toArray, List.set_cons_zero, List.set_cons_succ]
  refine wpAnyH_take (i := 13) (oi := { dst := some 16, op := Op.load 22 (Operand.tmp 15), type := 22, pos := "ref.go:162", after := #[{ on := 12, ground := Ground.data }], guard := none }) (v := ?_) rfl (by kernel_rfl) (by kernel_rfl) (by kernel_rfl) (fun _ _ _ h => h) (Or.inl ⟨by rfl, ?_⟩) (by assumption) ?_
  rotate_left 1
  · intro V hSw
    try dsimp only at hSw
    go_simp
    try with_reducible rfl
  try simp only [Act.put, List.setIfInBounds_toArray, List.set_cons_zero, List.set_cons_succ]
  refine wpAnyH_ready (rs := [11]) (by kernel_rfl) (by simp) ?_
  refine AllReadyH.cons (o := { dst := some 14, op := Op.call { callee := Callee.value (Operand.func 96), args := #[Operand.tmp 13], argTypes := #[22] }, type := 22, pos := "ref.go:162", after := #[{ on := 10, ground := Ground.data }, { on := 3, ground := Ground.chain }], guard := none }) rfl (fun K hK => ?_) AllReadyH.nil
  go_simp
  refine Calls.mono (HL1.out _ (Below.drew (Below.refl _ X))) ?_
  rintro e w1 ⟨g1, c1, rfl, HE1, hs1, y0, y1, y2, z0, z1, z2⟩
  dsimp only
  refine hK.out _ _ ?_ (fun hHeld => ?_)
  · exact hs1
  clear hK K
  try simp only [Act.put, List.setIfInBounds_toArray, List.set_cons_zero, List.set_cons_succ]
  refine wpAnyH_ready (rs := [14]) (by kernel_rfl) (by simp) ?_
  refine AllReadyH.cons (o := { dst := some 17, op := Op.call { callee := Callee.value (Operand.func 96), args := #[Operand.tmp 16], argTypes := #[22] }, type := 22, pos := "ref.go:162", after := #[{ on := 13, ground := Ground.data }, { on := 11, ground := Ground.chain }], guard := none }) rfl (fun K hK => ?_) AllReadyH.nil
  go_simp
  refine Calls.mono (HL2.out _ HE1.out.2.2) ?_
  rintro e w2 ⟨g2, c2, rfl, HE2, hs2, r0, r1, r2, f0, f1, f2⟩
  dsimp only
  refine hK.out _ _ ?_ (fun hHeld => ?_)
  · exact hs2
  clear hK K
  try simp only [Act.put, List.setIfInBounds_toArray, List.set_cons_zero, List.set_cons_succ]
  refine wpAnyH_take (i := 15) (oi := { dst := some 18, op := Op.build 24 #[(0, Operand.tmp 11), (1, Operand.tmp 14), (2, Operand.tmp 17)], type := 24, pos := "ref.go:162", after := #[{ on := 8, ground := Ground.data }, { on := 11, ground := Ground.data }, { on := 14, ground := Ground.data }], guard := none }) (v := ?_) rfl (by kernel_rfl) (by kernel_rfl) (by kernel_rfl) (fun _ _ _ h => h) (Or.inl ⟨by rfl, ?_⟩) (by assumption) ?_
  rotate_left 1
  · intro V hSw
    try dsimp only at hSw
    go_simp
    try with_reducible rfl
  try simp only [Act.put, List.setIfInBounds_toArray, List.set_cons_zero, List.set_cons_succ]
  refine wpAnyH_ready (rs := [16]) (by kernel_rfl) (by simp) ?_
  refine AllReadyH.cons (o := { dst := none, op := Op.store 24 (Operand.tmp 2) (Operand.tmp 18), type := 0, pos := "ref.go:162", after := #[{ on := 15, ground := Ground.data }, { on := 14, ground := Ground.chain }, { on := 0, ground := Ground.phase }, { on := 1, ground := Ground.phase }, { on := 2, ground := Ground.phase }, { on := 3, ground := Ground.phase }, { on := 4, ground := Ground.phase }, { on := 5, ground := Ground.phase }, { on := 6, ground := Ground.phase }, { on := 7, ground := Ground.phase }, { on := 8, ground := Ground.phase }, { on := 9, ground := Ground.phase }, { on := 10, ground := Ground.phase }, { on := 11, ground := Ground.phase }, { on := 12, ground := Ground.phase }, { on := 13, ground := Ground.phase }, { on := 14, ground := Ground.phase }, { on := 15, ground := Ground.phase }], guard := none }) rfl (fun K hK => ?_) AllReadyH.nil
  go_simp
  refine hK.out _ _ ?_ (fun hHeld => ?_)
  · simp [hs2, World.cell?_setCell_far]
  clear hK K
  try simp only [Act.put, List.setIfInBounds_toArray, List.set_cons_zero, List.set_cons_succ]
  refine wpAnyH_done (by kernel_rfl) ?_ _
  refine NoPanic.normal ?_
  all_goals
    have HZ2 := hid (HZ.out.later HE2.out.2.2 HZ.out.lt)
    have HO1 := hid (own_put3 (owns_base (owns_later HE1.out.1 HE2.out.2.1) HB.out.size) (w.heap.size + 1) (own_ne_box (owns_later HE1.out.1 HE2.out.2.1) HZ2.out (by decide)) (.bool false) (.slice g1 xs.length c1) (.slice g2 ys.length c2))
    have HO2 := hid (own_put3 (owns_base HE2.out.1 HB.out.size) (w.heap.size + 1) (own_ne_box HE2.out.1 HZ2.out (by decide)) (.bool false) (.slice g1 xs.length c1) (.slice g2 ys.length c2))
    have HBN := hid (below_put3 (bt HB.out HE2.out.2.2) (w.heap.size + 1) (by omega) (.bool false) (.slice g1 xs.length c1) (.slice g2 ys.length c2))
    clear HK HL1 HL2 HE1 HE2 HZ HB HZ2 hs0 hs1 hs2 y0 y1 y2 z0 z1 z2
    go_wp2_with fail
    refine bodyPost_ret (v := .agg #[.bool false, .slice g1 xs.length c1, .slice g2 ys.length c2]) (by simp [results, Tryz.results77, go_sem, r0, r1, r2]) rfl ?_
    exact ⟨g1, c1, g2, c2, rfl, HO1.out, HO2.out, HBN.out⟩
theorem opposite3_any (n : Bool) (a : Option Addr) (ca : Nat) (xs : List Int) (b : Option Addr) (cb : Nat) (ys : List Int) (w : World) (sx : Sl w (.slice a xs.length ca) xs) (sy : Sl w (.slice b ys.length cb) ys) (lx : xs.length ≤ 1099511627776) (ly : ys.length ≤ 1099511627776) :
    Calls Tryz.prog 77 #[.agg #[.bool n, .slice a xs.length ca, .slice b ys.length cb]] w fun e w' => ∃ g1 c1 g2 c2, e = .returned (.agg #[.bool (oneg n xs), .slice g1 xs.length c1, .slice g2 ys.length c2]) ∧ w'.ownsRow w.heap.size 63 1 (.slice g1 xs.length c1) xs.length (xs.map (Value.int .u32)) ∧ w'.ownsRow w.heap.size 63 1 (.slice g2 ys.length c2) ys.length (ys.map (Value.int .u32)) ∧ Below w.heap.size w w' := by
  cases n with
  | true => exact opposite_n a ca xs b cb ys w sx sy lx ly
  | false => exact opposite_p a ca xs b cb ys w sx sy lx ly
theorem rtells_own {n : Bool} {xs ys : List Int} (wx : Wd xs) (wy : Wd ys) (h : rchk n xs ys = 0) : RTells 0 (rq n xs ys) n xs ys 0 := by
  obtain ⟨lx, ly, tx, ty, y0, s0, g⟩ := rchk_ok h
  obtain ⟨m, us, vs, c, e1, e2, e3, r⟩ := rtells_of (n := n) wx tx wy ty (val_pos' wy ty y0) g
  have e4 := e1 none 0 none 0
  unfold rtoldV at e4
  rw [if_neg (by omega)] at e4
  have hc : c = 0 := by
    simp at e4
    exact e4.2.symm
  subst hc
  have hm : (n && decide (0 < xs.length)) = n := by
    rcases s0 with rfl | s0
    · rfl
    · rw [decide_eq_true s0, Bool.and_true]
  rw [hm] at e4
  have hn : n = m := by simp at e4; exact e4
  subst hn
  rw [if_pos rfl] at e2 e3
  subst e2 e3
  exact r
set_option maxHeartbeats 1600000 in
theorem dNeg_err (n : Bool) (a : Option Addr) (ca : Nat) (xs : List Int) (b : Option Addr) (cb : Nat) (ys : List Int) (w : World) (sx : Sl w (.slice a xs.length ca) xs) (sy : Sl w (.slice b ys.length cb) ys) (hlx : xs.length ≤ 281474976710656) (hly : ys.length ≤ 281474976710656) (he : rchk n xs ys ≠ 0) (q : Rat) :
    Calls Tryz.prog 57 #[.agg #[.bool n, .slice a xs.length ca, .slice b ys.length cb]] w (RTold w (rchk n xs ys) q) := by
  have HB : Hid (Below w.heap.size w ((w.alloc (.cells #[.bool n, .slice a xs.length ca, .slice b ys.length cb] 24)).alloc (.cells #[.bool false, .slice none 0 0, .slice none 0 0] 24))) := bt (alloc_later _ _) (alloc_later _ _)
  have HA : Hid (Box ((w.alloc (.cells #[.bool n, .slice a xs.length ca, .slice b ys.length cb] 24)).alloc (.cells #[.bool false, .slice none 0 0, .slice none 0 0] 24)) w.heap.size 24 #[.bool n, .slice a xs.length ca, .slice b ys.length cb]) := Box.later (Box.made w _ _) (alloc_later _ _) (by simp)
  have HZ : Hid (Box ((w.alloc (.cells #[.bool n, .slice a xs.length ca, .slice b ys.length cb] 24)).alloc (.cells #[.bool false, .slice none 0 0, .slice none 0 0] 24)) (w.heap.size + 1) 24 #[.bool false, .slice none 0 0, .slice none 0 0]) := by
    have e := Box.made (w.alloc (.cells #[.bool n, .slice a xs.length ca, .slice b ys.length cb] 24)) 24 #[.bool false, .slice none 0 0, .slice none 0 0]
    simp at e
    exact e
  have HXS : Hid (w.heap.size + 1 < ((w.alloc (.cells #[.bool n, .slice a xs.length ca, .slice b ys.length cb] 24)).alloc (.cells #[.bool false, .slice none 0 0, .slice none 0 0] 24)).heap.size) := HZ.out.lt
  have HS := hid (And.intro (sx.later HB.out) (sy.later HB.out))
  have HC := hid (check3_any n _ _ xs _ _ ys ((w.alloc (.cells #[.bool n, .slice a xs.length ca, .slice b ys.length cb] 24)).alloc (.cells #[.bool false, .slice none 0 0, .slice none 0 0] 24)) HS.out.1 HS.out.2 hlx hly)
  obtain ⟨e1, he1⟩ : ∃ e, rchk n xs ys = e := ⟨_, rfl⟩
  rw [he1] at HC he ⊢
  have h1 : (e1 == 0) = false := beq_eq_false_iff_ne.2 he
  have h2 : (e1 != 0) = true := bne_iff_ne.2 he
  have HEE := hid he
  clear sx sy he he1
  go_enter Tryz.func57, Tryz.ntmps57
  go_wp2_with fail
  refine Calls.mono HC.out ?_
  generalize ((w.alloc (.cells #[.bool n, .slice a xs.length ca, .slice b ys.length cb] 24)).alloc (.cells #[.bool false, .slice none 0 0, .slice none 0 0] 24)) = X at *
  rintro e w1 ⟨rfl, hb1⟩
  obtain ⟨r0, r1, r2, f0, f1, f2⟩ := res_box3 HZ.out hb1
  have HBN := hid (bt HB.out hb1)
  clear hb1 HC
  go_wp2_with fail
  refine bodyPost_ret (v := .tuple #[.agg #[.bool false, .slice none 0 0, .slice none 0 0], .int .i64 e1]) (by simp [results, Tryz.results57, go_sem, r0, r1, r2]) rfl ?_
  exact ⟨false, _, [], _, [], e1, rfl, World.ownsRow_nil _ _ _ _, World.ownsRow_nil _ _ _ _, RTells.err HEE.out, below_put3 HBN.out _ (by omega) _ _ _⟩
set_option maxHeartbeats 3200000 in
theorem dNeg_ok (n : Bool) (a : Option Addr) (ca : Nat) (xs : List Int) (b : Option Addr) (cb : Nat) (ys : List Int) (w : World) (sx : Sl w (.slice a xs.length ca) xs) (sy : Sl w (.slice b ys.length cb) ys) (hlx : xs.length ≤ 281474976710656) (hly : ys.length ≤ 281474976710656) (hx : rchk n xs ys = 0) :
    Calls Tryz.prog 57 #[.agg #[.bool n, .slice a xs.length ca, .slice b ys.length cb]] w (RTold w 0 (-(rq n xs ys))) := by
  have wx := sx.wd
  have wy := sy.wd
  have HB : Hid (Below w.heap.size w ((w.alloc (.cells #[.bool n, .slice a xs.length ca, .slice b ys.length cb] 24)).alloc (.cells #[.bool false, .slice none 0 0, .slice none 0 0] 24))) := bt (alloc_later _ _) (alloc_later _ _)
  have HA : Hid (Box ((w.alloc (.cells #[.bool n, .slice a xs.length ca, .slice b ys.length cb] 24)).alloc (.cells #[.bool false, .slice none 0 0, .slice none 0 0] 24)) w.heap.size 24 #[.bool n, .slice a xs.length ca, .slice b ys.length cb]) := Box.later (Box.made w _ _) (alloc_later _ _) (by simp)
  have HZ : Hid (Box ((w.alloc (.cells #[.bool n, .slice a xs.length ca, .slice b ys.length cb] 24)).alloc (.cells #[.bool false, .slice none 0 0, .slice none 0 0] 24)) (w.heap.size + 1) 24 #[.bool false, .slice none 0 0, .slice none 0 0]) := by
    have e := Box.made (w.alloc (.cells #[.bool n, .slice a xs.length ca, .slice b ys.length cb] 24)) 24 #[.bool false, .slice none 0 0, .slice none 0 0]
    simp at e
    exact e
  have HXS : Hid (w.heap.size + 1 < ((w.alloc (.cells #[.bool n, .slice a xs.length ca, .slice b ys.length cb] 24)).alloc (.cells #[.bool false, .slice none 0 0, .slice none 0 0] 24)).heap.size) := HZ.out.lt
  have HS := hid (And.intro (sx.later HB.out) (sy.later HB.out))
  have HC := hid (check3_any n _ _ xs _ _ ys ((w.alloc (.cells #[.bool n, .slice a xs.length ca, .slice b ys.length cb] 24)).alloc (.cells #[.bool false, .slice none 0 0, .slice none 0 0] 24)) HS.out.1 HS.out.2 hlx hly)
  rw [hx] at HC
  have HT : Hid (RTells 0 (-(rq n xs ys)) (oneg n xs) xs ys 0) := by
    have e := rtells_own wx wy (opp_chk hx)
    rw [opp_q] at e
    exact e
  obtain ⟨lx, ly, _⟩ := rchk_ok hx
  obtain ⟨k, hk⟩ : ∃ k, oneg n xs = k := ⟨_, rfl⟩
  rw [hk] at HT
  have HKK := hid hk
  clear sx sy hx hk
  go_enter Tryz.func57, Tryz.ntmps57
  go_wp2_with fail
  refine Calls.mono HC.out ?_
  generalize ((w.alloc (.cells #[.bool n, .slice a xs.length ca, .slice b ys.length cb] 24)).alloc (.cells #[.bool false, .slice none 0 0, .slice none 0 0] 24)) = X at *
  rintro e w1 ⟨rfl, hb1⟩
  obtain ⟨p0, p1, p2, _⟩ := res_box3 HA.out hb1
  have HO := opposite3_any n _ _ xs _ _ ys w1 (HS.out.1.later hb1) (HS.out.2.later hb1) (by omega) (by omega)
  rw [HKK.out] at HO
  have HH := hid HO
  have HB1 := hid hb1
  clear hb1 HC HO
  go_wp2_with fail
  refine Calls.mono HH.out ?_
  rintro e w2 ⟨g1, c1, g2, c2, rfl, o1, o2, hb2⟩
  have hbX := bt HB1.out hb2
  obtain ⟨r0, r1, r2, f0, f1, f2⟩ := res_box3 HZ.out hbX
  have HBW := hid (bt HB.out hbX)
  have hz := HB1.out.size
  have HE := hid (And.intro (owns_base o1 hz) (And.intro (owns_base o2 hz) HT.out))
  clear o1 o2 hb2 hbX HH p0 p1 p2 hz
  go_wp2_with fail
  refine bodyPost_ret (v := .tuple #[.agg #[.bool k, .slice g1 xs.length c1, .slice g2 ys.length c2], .int .i64 0]) (by simp [results, Tryz.results57, go_sem, r0, r1, r2]) rfl ?_
  exact RTold.put HE.out (w.heap.size + 1) HXS.out (by omega) HBW.out _ _ _
theorem dNeg_full (n : Bool) (a : Option Addr) (ca : Nat) (xs : List Int) (b : Option Addr) (cb : Nat) (ys : List Int) (w : World) (sx : Sl w (.slice a xs.length ca) xs) (sy : Sl w (.slice b ys.length cb) ys) (hlx : xs.length ≤ 281474976710656) (hly : ys.length ≤ 281474976710656) : Calls Tryz.prog 57 #[.agg #[.bool n, .slice a xs.length ca, .slice b ys.length cb]] w (RTold w (rchk n xs ys) (-(rq n xs ys))) := by
  by_cases he : rchk n xs ys = 0
  · rw [he]; exact dNeg_ok n a ca xs b cb ys w sx sy hlx hly he
  · exact dNeg_err n a ca xs b cb ys w sx sy hlx hly he _
set_option maxHeartbeats 3200000 in
theorem dSub_err (n : Bool) (a : Option Addr) (ca : Nat) (xs : List Int) (b : Option Addr) (cb : Nat) (ys : List Int) (m : Bool) (c : Option Addr) (cc : Nat) (us : List Int) (d : Option Addr) (cd : Nat) (vs : List Int) (w : World) (sx : Sl w (.slice a xs.length ca) xs) (sy : Sl w (.slice b ys.length cb) ys) (su : Sl w (.slice c us.length cc) us) (sv : Sl w (.slice d vs.length cd) vs) (hlx : xs.length ≤ 281474976710656) (hly : ys.length ≤ 281474976710656) (hlu : us.length ≤ 281474976710656) (hlv : vs.length ≤ 281474976710656) (he : rboth n xs ys m us vs ≠ 0) (q : Rat) :
    Calls Tryz.prog 58 #[.agg #[.bool n, .slice a xs.length ca, .slice b ys.length cb], .agg #[.bool m, .slice c us.length cc, .slice d vs.length cd]] w (RTold w (rboth n xs ys m us vs) q) := by
  have HB : Hid (Below w.heap.size w (((w.alloc (.cells #[.bool n, .slice a xs.length ca, .slice b ys.length cb] 24)).alloc (.cells #[.bool m, .slice c us.length cc, .slice d vs.length cd] 24)).alloc (.cells #[.bool false, .slice none 0 0, .slice none 0 0] 24))) := bt (bt (alloc_later _ _) (alloc_later _ _)) (alloc_later _ _)
  have HZ : Hid (Box (((w.alloc (.cells #[.bool n, .slice a xs.length ca, .slice b ys.length cb] 24)).alloc (.cells #[.bool m, .slice c us.length cc, .slice d vs.length cd] 24)).alloc (.cells #[.bool false, .slice none 0 0, .slice none 0 0] 24)) (w.heap.size + 1 + 1) 24 #[.bool false, .slice none 0 0, .slice none 0 0]) := by
    have e := Box.made ((w.alloc (.cells #[.bool n, .slice a xs.length ca, .slice b ys.length cb] 24)).alloc (.cells #[.bool m, .slice c us.length cc, .slice d vs.length cd] 24)) 24 #[.bool false, .slice none 0 0, .slice none 0 0]
    simp at e
    exact e
  have HN : Hid (Box (((w.alloc (.cells #[.bool n, .slice a xs.length ca, .slice b ys.length cb] 24)).alloc (.cells #[.bool m, .slice c us.length cc, .slice d vs.length cd] 24)).alloc (.cells #[.bool false, .slice none 0 0, .slice none 0 0] 24)) w.heap.size 24 #[.bool n, .slice a xs.length ca, .slice b ys.length cb]) := Box.later (Box.made w _ _) (bt (alloc_later _ _) (alloc_later _ _)) (by simp)
  have HM : Hid (Box (((w.alloc (.cells #[.bool n, .slice a xs.length ca, .slice b ys.length cb] 24)).alloc (.cells #[.bool m, .slice c us.length cc, .slice d vs.length cd] 24)).alloc (.cells #[.bool false, .slice none 0 0, .slice none 0 0] 24)) (w.heap.size + 1) 24 #[.bool m, .slice c us.length cc, .slice d vs.length cd]) := by
    have e := Box.later (Box.made (w.alloc (.cells #[.bool n, .slice a xs.length ca, .slice b ys.length cb] 24)) 24 #[.bool m, .slice c us.length cc, .slice d vs.length cd]) (alloc_later ((w.alloc (.cells #[.bool n, .slice a xs.length ca, .slice b ys.length cb] 24)).alloc (.cells #[.bool m, .slice c us.length cc, .slice d vs.length cd] 24)) (.cells #[.bool false, .slice none 0 0, .slice none 0 0] 24)) (by simp)
    simp at e
    exact e
  have HXS : Hid (w.heap.size + 1 + 1 < (((w.alloc (.cells #[.bool n, .slice a xs.length ca, .slice b ys.length cb] 24)).alloc (.cells #[.bool m, .slice c us.length cc, .slice d vs.length cd] 24)).alloc (.cells #[.bool false, .slice none 0 0, .slice none 0 0] 24)).heap.size) := HZ.out.lt
  have HSL := hid (And.intro (sx.later HB.out) (And.intro (sy.later HB.out) (And.intro (su.later HB.out) (sv.later HB.out))))
  have HC := hid (both3_any n _ _ xs _ _ ys m _ _ us _ _ vs (((w.alloc (.cells #[.bool n, .slice a xs.length ca, .slice b ys.length cb] 24)).alloc (.cells #[.bool m, .slice c us.length cc, .slice d vs.length cd] 24)).alloc (.cells #[.bool false, .slice none 0 0, .slice none 0 0] 24)) HSL.out.1 HSL.out.2.1 HSL.out.2.2.1 HSL.out.2.2.2 hlx hly hlu hlv)
  obtain ⟨E, hE⟩ : ∃ E, rboth n xs ys m us vs = E := ⟨_, rfl⟩
  rw [hE] at HC he ⊢
  have he' : (E == 0) = false := beq_eq_false_iff_ne.2 he
  have HE := hid he
  clear he hE sx sy su sv
  go_enter Tryz.func58, Tryz.ntmps58
  go_wp2_with fail
  refine Calls.mono HC.out ?_
  generalize (((w.alloc (.cells #[.bool n, .slice a xs.length ca, .slice b ys.length cb] 24)).alloc (.cells #[.bool m, .slice c us.length cc, .slice d vs.length cd] 24)).alloc (.cells #[.bool false, .slice none 0 0, .slice none 0 0] 24)) = X at *
  rintro e w1 ⟨rfl, hb1⟩
  obtain ⟨y0, y1, y2, f0, f1, f2⟩ := res_box3 HZ.out hb1
  have HBN := hid (below_put3 (bt HB.out hb1) (w.heap.size + 1 + 1) (by omega) (.bool false) (.slice none 0 0) (.slice none 0 0))
  clear hb1 HC HN HM HZ HSL
  go_wp2_with fail
  refine bodyPost_ret (v := .tuple #[.agg #[.bool false, .slice none 0 0, .slice none 0 0], .int .i64 E]) (by simp [results, Tryz.results58, go_sem, y0, y1, y2]) rfl ?_
  exact ⟨false, _, [], _, [], _, rfl, World.ownsRow_nil _ _ _ _, World.ownsRow_nil _ _ _ _, RTells.err HE.out, HBN.out⟩
set_option maxHeartbeats 6400000 in
theorem dSub_ok (n : Bool) (a : Option Addr) (ca : Nat) (xs : List Int) (b : Option Addr) (cb : Nat) (ys : List Int) (m : Bool) (c : Option Addr) (cc : Nat) (us : List Int) (d : Option Addr) (cd : Nat) (vs : List Int) (w : World) (sx : Sl w (.slice a xs.length ca) xs) (sy : Sl w (.slice b ys.length cb) ys) (su : Sl w (.slice c us.length cc) us) (sv : Sl w (.slice d vs.length cd) vs) (hlx : xs.length ≤ 281474976710656) (hly : ys.length ≤ 281474976710656) (hlu : us.length ≤ 281474976710656) (hlv : vs.length ≤ 281474976710656) (hx : rchk n xs ys = 0) (hy : rchk m us vs = 0) :
    Calls Tryz.prog 58 #[.agg #[.bool n, .slice a xs.length ca, .slice b ys.length cb], .agg #[.bool m, .slice c us.length cc, .slice d vs.length cd]] w (RTold w 0 (rq n xs ys - rq m us vs)) := by
  obtain ⟨lx, ly, tx, ty, yp, _, _⟩ := rchk_ok hx
  obtain ⟨lu, lv, tu, tv, vp, _, _⟩ := rchk_ok hy
  have wx := sx.wd
  have wy := sy.wd
  have wu := su.wd
  have wv := sv.wd
  have HB : Hid (Below w.heap.size w (((w.alloc (.cells #[.bool n, .slice a xs.length ca, .slice b ys.length cb] 24)).alloc (.cells #[.bool m, .slice c us.length cc, .slice d vs.length cd] 24)).alloc (.cells #[.bool false, .slice none 0 0, .slice none 0 0] 24))) := bt (bt (alloc_later _ _) (alloc_later _ _)) (alloc_later _ _)
  have HZ : Hid (Box (((w.alloc (.cells #[.bool n, .slice a xs.length ca, .slice b ys.length cb] 24)).alloc (.cells #[.bool m, .slice c us.length cc, .slice d vs.length cd] 24)).alloc (.cells #[.bool false, .slice none 0 0, .slice none 0 0] 24)) (w.heap.size + 1 + 1) 24 #[.bool false, .slice none 0 0, .slice none 0 0]) := by
    have e := Box.made ((w.alloc (.cells #[.bool n, .slice a xs.length ca, .slice b ys.length cb] 24)).alloc (.cells #[.bool m, .slice c us.length cc, .slice d vs.length cd] 24)) 24 #[.bool false, .slice none 0 0, .slice none 0 0]
    simp at e
    exact e
  have HN : Hid (Box (((w.alloc (.cells #[.bool n, .slice a xs.length ca, .slice b ys.length cb] 24)).alloc (.cells #[.bool m, .slice c us.length cc, .slice d vs.length cd] 24)).alloc (.cells #[.bool false, .slice none 0 0, .slice none 0 0] 24)) w.heap.size 24 #[.bool n, .slice a xs.length ca, .slice b ys.length cb]) := Box.later (Box.made w _ _) (bt (alloc_later _ _) (alloc_later _ _)) (by simp)
  have HM : Hid (Box (((w.alloc (.cells #[.bool n, .slice a xs.length ca, .slice b ys.length cb] 24)).alloc (.cells #[.bool m, .slice c us.length cc, .slice d vs.length cd] 24)).alloc (.cells #[.bool false, .slice none 0 0, .slice none 0 0] 24)) (w.heap.size + 1) 24 #[.bool m, .slice c us.length cc, .slice d vs.length cd]) := by
    have e := Box.later (Box.made (w.alloc (.cells #[.bool n, .slice a xs.length ca, .slice b ys.length cb] 24)) 24 #[.bool m, .slice c us.length cc, .slice d vs.length cd]) (alloc_later ((w.alloc (.cells #[.bool n, .slice a xs.length ca, .slice b ys.length cb] 24)).alloc (.cells #[.bool m, .slice c us.length cc, .slice d vs.length cd] 24)) (.cells #[.bool false, .slice none 0 0, .slice none 0 0] 24)) (by simp)
    simp at e
    exact e
  have HXS : Hid (w.heap.size + 1 + 1 < (((w.alloc (.cells #[.bool n, .slice a xs.length ca, .slice b ys.length cb] 24)).alloc (.cells #[.bool m, .slice c us.length cc, .slice d vs.length cd] 24)).alloc (.cells #[.bool false, .slice none 0 0, .slice none 0 0] 24)).heap.size) := HZ.out.lt
  have HSL := hid (And.intro (sx.later HB.out) (And.intro (sy.later HB.out) (And.intro (su.later HB.out) (sv.later HB.out))))
  have HTT := hid (And.intro tx (And.intro ty (And.intro tu tv)))
  have HWD := hid (And.intro wu wv)
  have HPP := hid (And.intro (val_pos' wy ty yp) (val_pos' wv tv vp))
  have HC := hid (both3_any n _ _ xs _ _ ys m _ _ us _ _ vs (((w.alloc (.cells #[.bool n, .slice a xs.length ca, .slice b ys.length cb] 24)).alloc (.cells #[.bool m, .slice c us.length cc, .slice d vs.length cd] 24)).alloc (.cells #[.bool false, .slice none 0 0, .slice none 0 0] 24)) HSL.out.1 HSL.out.2.1 HSL.out.2.2.1 HSL.out.2.2.2 hlx hly hlu hlv)
  rw [rboth_good hx hy] at HC
  have HQ : Hid (rq n xs ys + rq (oneg m us) us vs = rq n xs ys - rq m us vs) := by show _ = _; rw [opp_q, Rat.sub_eq_add_neg]
  obtain ⟨k, hk⟩ : ∃ k, oneg m us = k := ⟨_, rfl⟩
  rw [hk] at HQ
  have HKK := hid hk
  clear sx sy su sv tx ty tu tv wx wy wu wv hx hy yp vp hk
  go_enter Tryz.func58, Tryz.ntmps58
  go_wp2_with fail
  refine Calls.mono HC.out ?_
  generalize (((w.alloc (.cells #[.bool n, .slice a xs.length ca, .slice b ys.length cb] 24)).alloc (.cells #[.bool m, .slice c us.length cc, .slice d vs.length cd] 24)).alloc (.cells #[.bool false, .slice none 0 0, .slice none 0 0] 24)) = X at *
  rintro e w1 ⟨rfl, hb1⟩
  have HB1 := hid hb1
  clear hb1 HC
  have HK : Hid (∀ V, Below X.heap.size X V → V.cell? ⟨w.heap.size, 0, none⟩ = some (.bool n) ∧ V.cell? ⟨w.heap.size, 1, none⟩ = some (.slice a xs.length ca) ∧ V.cell? ⟨w.heap.size, 2, none⟩ = some (.slice b ys.length cb) ∧ V.cell? ⟨w.heap.size + 1, 0, none⟩ = some (.bool m) ∧ V.cell? ⟨w.heap.size + 1, 1, none⟩ = some (.slice c us.length cc) ∧ V.cell? ⟨w.heap.size + 1, 2, none⟩ = some (.slice d vs.length cd)) := fun V hb => by
    obtain ⟨p0, p1, p2, _⟩ := res_box3 HN.out hb
    obtain ⟨q0, q1, q2, _⟩ := res_box3 HM.out hb
    exact ⟨p0, p1, p2, q0, q1, q2⟩
  have hs0 := HK.out _ HB1.out.drew
  have HBR := hid HB1.out.drew
  have H1 : Hid (∀ ww, Below X.heap.size X ww → Calls Tryz.prog 77 #[.agg #[.bool m, .slice c us.length cc, .slice d vs.length cd]] ww fun e w' => ∃ g1 c1 g2 c2, e = .returned (.agg #[.bool k, .slice g1 us.length c1, .slice g2 vs.length c2]) ∧ Hid (w'.ownsRow X.heap.size 63 1 (.slice g1 us.length c1) us.length (us.map (Value.int .u32)) ∧ w'.ownsRow X.heap.size 63 1 (.slice g2 vs.length c2) vs.length (vs.map (Value.int .u32)) ∧ Below X.heap.size X w') ∧ (w'.cell? ⟨w.heap.size, 0, none⟩ = some (.bool n) ∧ w'.cell? ⟨w.heap.size, 1, none⟩ = some (.slice a xs.length ca) ∧ w'.cell? ⟨w.heap.size, 2, none⟩ = some (.slice b ys.length cb) ∧ w'.cell? ⟨w.heap.size + 1, 0, none⟩ = some (.bool m) ∧ w'.cell? ⟨w.heap.size + 1, 1, none⟩ = some (.slice c us.length cc) ∧ w'.cell? ⟨w.heap.size + 1, 2, none⟩ = some (.slice d vs.length cd))) := fun ww hv => by
    have e := opposite3_any m _ _ us _ _ vs ww (HSL.out.2.2.1.later hv) (HSL.out.2.2.2.later hv) (by omega) (by omega)
    rw [HKK.out] at e
    refine Calls.mono e ?_
    rintro e w' ⟨g1, c1, g2, c2, rfl, o1, o2, hb⟩
    exact ⟨g1, c1, g2, c2, rfl, ⟨owns_base o1 hv.size, owns_base o2 hv.size, bt hv hb⟩, HK.out w' (bt hv hb)⟩
  have H2 : Hid (∀ ww, Below X.heap.size X ww → ∀ g1 c1 g2 c2, ww.ownsRow X.heap.size 63 1 (.slice g1 us.length c1) us.length (us.map (Value.int .u32)) → ww.ownsRow X.heap.size 63 1 (.slice g2 vs.length c2) vs.length (vs.map (Value.int .u32)) → Calls Tryz.prog 55 #[.agg #[.bool n, .slice a xs.length ca, .slice b ys.length cb], .agg #[.bool k, .slice g1 us.length c1, .slice g2 vs.length c2]] ww fun e w' => ∃ k a8 z8 c8 a9 z9 c9 code, e = .returned (.tuple #[.agg #[.bool k, .slice a8 (List.length z8) c8, .slice a9 (List.length z9) c9], .int .i64 code]) ∧ Hid (w'.ownsRow X.heap.size 63 1 (.slice a8 (List.length z8) c8) z8.length (z8.map (Value.int .u32)) ∧ w'.ownsRow X.heap.size 63 1 (.slice a9 (List.length z9) c9) z9.length (z9.map (Value.int .u32)) ∧ RTells 0 (rq n xs ys - rq m us vs) k z8 z9 code) ∧ (w'.cell? ⟨w.heap.size, 0, none⟩ = some (.bool n) ∧ w'.cell? ⟨w.heap.size, 1, none⟩ = some (.slice a xs.length ca) ∧ w'.cell? ⟨w.heap.size, 2, none⟩ = some (.slice b ys.length cb) ∧ w'.cell? ⟨w.heap.size + 1, 0, none⟩ = some (.bool m) ∧ w'.cell? ⟨w.heap.size + 1, 1, none⟩ = some (.slice c us.length cc) ∧ w'.cell? ⟨w.heap.size + 1, 2, none⟩ = some (.slice d vs.length cd)) ∧ Below X.heap.size X w') := fun ww hv g1 c1 g2 c2 o1 o2 => by
    have e := add3_any n _ _ xs _ _ ys k _ _ us _ _ vs ww (HSL.out.1.later hv) (HSL.out.2.1.later hv) (Sl.own o1 HWD.out.1) (Sl.own o2 HWD.out.2) lx ly lu lv HTT.out.1 HTT.out.2.1 HTT.out.2.2.1 HTT.out.2.2.2 HPP.out.1 HPP.out.2
    rw [HQ.out] at e
    refine Calls.mono e ?_
    rintro e w' ⟨k, v, zs, u, ds, code, rfl, o1, o2, t, hb⟩
    obtain ⟨a8, c8, hs⟩ := own_slice' o1
    subst hs
    obtain ⟨a9, c9, hs⟩ := own_slice' o2
    subst hs
    exact ⟨k, a8, zs, c8, a9, ds, c9, code, rfl, ⟨owns_base o1 hv.size, owns_base o2 hv.size, t⟩, HK.out w' (bt hv hb), bt hv hb⟩
  have hq0 : w.heap.size + 1 + 1 ≠ w.heap.size := by omega
  have hq1 : w.heap.size + 1 + 1 ≠ w.heap.size + 1 := by omega
  go_wp2_with fail
  go_region_held3 (fun V : World => V.cell? ⟨w.heap.size, 0, none⟩ = some (.bool n) ∧ V.cell? ⟨w.heap.size, 1, none⟩ = some (.slice a xs.length ca) ∧ V.cell? ⟨w.heap.size, 2, none⟩ = some (.slice b ys.length cb) ∧ V.cell? ⟨w.heap.size + 1, 0, none⟩ = some (.bool m) ∧ V.cell? ⟨w.heap.size + 1, 1, none⟩ = some (.slice c us.length cc) ∧ V.cell? ⟨w.heap.size + 1, 2, none⟩ = some (.slice d vs.length cd)) (first | exact hs9 | exact hs4 | exact hs0 | (simp [hs9, World.cell?_setCell_far, hq0]))
    (first
      | (go_at_call 55; with_reducible refine Calls.mono (H2.out _ HE4.out.2.2 _ _ _ _ HE4.out.1 HE4.out.2.1) ?_; rintro e w9 ⟨k9, a8, z8, c8, a9, z9, c9, code, rfl, HE9, hs9, hb9⟩; obtain ⟨y0, y1, y2, f0, f1, f2⟩ := res_box3 HZ.out hb9)
      | (go_at_call 77; with_reducible refine Calls.mono (H1.out _ HBR.out) ?_; rintro e w4 ⟨g1, c1, g2, c2, rfl, HE4, hs4⟩))
  all_goals
    have HBW := hid (bt HB.out hb9)
    have HR := hid HE9.out
    clear HK H1 H2 HE4 HE9 hs0 hs4 hs9 hb9 HBR
    go_wp2_with fail
    refine bodyPost_ret (v := .tuple #[.agg #[.bool k9, .slice a8 z8.length c8, .slice a9 z9.length c9], .int .i64 code]) (by simp [results, Tryz.results58, go_sem, y0, y1, y2]) rfl ?_
    exact RTold.put HR.out (w.heap.size + 1 + 1) HXS.out (by omega) HBW.out _ _ _
theorem dSub_full (n : Bool) (a : Option Addr) (ca : Nat) (xs : List Int) (b : Option Addr) (cb : Nat) (ys : List Int) (m : Bool) (c : Option Addr) (cc : Nat) (us : List Int) (d : Option Addr) (cd : Nat) (vs : List Int) (w : World) (sx : Sl w (.slice a xs.length ca) xs) (sy : Sl w (.slice b ys.length cb) ys) (su : Sl w (.slice c us.length cc) us) (sv : Sl w (.slice d vs.length cd) vs) (hlx : xs.length ≤ 281474976710656) (hly : ys.length ≤ 281474976710656) (hlu : us.length ≤ 281474976710656) (hlv : vs.length ≤ 281474976710656) :
    Calls Tryz.prog 58 #[.agg #[.bool n, .slice a xs.length ca, .slice b ys.length cb], .agg #[.bool m, .slice c us.length cc, .slice d vs.length cd]] w (RTold w (rboth n xs ys m us vs) (rq n xs ys - rq m us vs)) := by
  by_cases he : rboth n xs ys m us vs = 0
  · rw [he]
    exact dSub_ok n a ca xs b cb ys m c cc us d cd vs w sx sy su sv hlx hly hlu hlv (rboth_ok he).1 (rboth_ok he).2
  · exact dSub_err n a ca xs b cb ys m c cc us d cd vs w sx sy su sv hlx hly hlu hlv he _
end Go.Proofs.YtlleakifnjfdkaaGreat
