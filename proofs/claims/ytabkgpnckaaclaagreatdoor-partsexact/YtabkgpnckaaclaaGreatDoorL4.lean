/- My texts on the way to PartsExact, one behind the other: contracts of the program and of the document's answers. -/
import Derived.Test.YtabkgpnckaaclaaGreatDoorL1
import Derived.Test.YtabkgpnckaaclaaGreatDoorL2
import Derived.Test.YtabkgpnckaaclaaGreatDoorL3
import Derived.Deep.RegionHeld3
import Derived.Laws.CopyOwn
import Derived.Deep.RegionLaw
import Derived.LoopN
/- The document's own fractions: Of: a fraction of a sign and two sizes, in its one form. -/
namespace Go.Proofs.YtabkgpnckaaclaaGreatDoor
open Go.RowKit
set_option linter.unusedVariables false

theorem rt_zero (n : Bool) (ys : List Int) : RTells 0 (Rat.divInt (sg n (val [])) (val ys)) false [] [1] 0 := by
  have e : Rat.divInt (sg n (val [])) (val ys) = Rat.divInt 0 1 := by cases n <;> simp [sg, val, valTo]
  rw [e]
  obtain ⟨e1, e2⟩ := fr_num (x := 0) (d := 1) (by omega) (by decide)
  have hk : rchk false [] [1] = 0 := rchk_good (by simp) (by simp) rfl rfl (by simp) (.inl rfl) (by decide)
  refine ⟨Wd.nil, Wd.one (by omega), fun h => absurd rfl h, fun _ hl => ?_, fun _ _ => ⟨rfl, hk, ?_⟩⟩
  · exfalso
    unfold rlong at hl
    rw [e1, e2] at hl
    have := wlim_big
    simp at hl
    omega
  · unfold rq
    rfl
theorem RTold.later {w W W' : World} {e : Int} {q : Rat} {x : Ending} (h : RTold w e q x W) (hb : Below W.heap.size W W') : RTold w e q x W' := by
  obtain ⟨n, v, xs, u, ys, code, rfl, o1, o2, t, hbw⟩ := h
  exact ⟨n, v, xs, u, ys, code, rfl, owns_later o1 hb, owns_later o2 hb, t, bt hbw hb⟩
theorem rt_rlong {n : Bool} {zs ds : List Int} (wz : Wd zs) (tz : Trimmed zs) (wd : Wd ds) (td : Trimmed ds) (hd : 0 < val ds) (hg : gcdI (val zs) (val ds) = 1) : rlong (Rat.divInt (sg n (val zs)) (val ds)) ↔ 2048 < max zs.length ds.length := by
  have hz0 := val_nonneg wz
  obtain ⟨e1, e2⟩ := fr_num (x := sg n (val zs)) hd (by rw [gcd_sg]; exact hg)
  unfold rlong
  rw [e1, e2, abs_sg n hz0, ← len2048 wz tz, ← len2048 wd td]
  omega
theorem rt_good {n : Bool} {zs ds : List Int} (wz : Wd zs) (tz : Trimmed zs) (wd : Wd ds) (td : Trimmed ds) (hz : 0 < zs.length) (hd : 0 < val ds) (hg : gcdI (val zs) (val ds) = 1) (l1 : zs.length ≤ 2048) (l2 : ds.length ≤ 2048) : RTells 0 (Rat.divInt (sg n (val zs)) (val ds)) n zs ds 0 := by
  have hl := rt_rlong (n := n) wz tz wd td hd hg
  have hd0 : 0 < ds.length := by
    by_cases c : 0 < ds.length
    · exact c
    · have := trimmed_zero' (us := ds) (by omega); omega
  exact ⟨wz, wd, fun h => absurd rfl h, fun _ h' => absurd (hl.1 h') (by omega), fun _ _ => ⟨rfl, rchk_good l1 l2 tz td hd0 (.inr hz) hg, rfl⟩⟩
theorem rt_long {n : Bool} {zs ds : List Int} (wz : Wd zs) (tz : Trimmed zs) (wd : Wd ds) (td : Trimmed ds) (hd : 0 < val ds) (hg : gcdI (val zs) (val ds) = 1) (h : 2048 < zs.length ∨ 2048 < ds.length) : RTells 0 (Rat.divInt (sg n (val zs)) (val ds)) false [] [] 3 := by
  have hl := rt_rlong (n := n) wz tz wd td hd hg
  exact ⟨Wd.nil, Wd.nil, fun h => absurd rfl h, fun _ _ => ⟨rfl, rfl, rfl, rfl⟩, fun _ h' => absurd (hl.2 (by omega)) h'⟩

set_option maxHeartbeats 3200000 in
set_option maxRecDepth 100000 in
theorem of3_any (n : Bool) (a : Option Addr) (ca : Nat) (xs : List Int) (b : Option Addr) (cb : Nat) (ys : List Int) (w : World) (h : Sl w (.slice a xs.length ca) xs) (g : Sl w (.slice b ys.length cb) ys) (lx : xs.length ≤ 8192) (ly : ys.length ≤ 8192) (tx : Trimmed xs) (ty : Trimmed ys) (h0 : 0 < ys.length) :
    Calls Tryz.prog 68 #[.bool n, .slice a xs.length ca, .slice b ys.length cb] w (RTold w 0 (Rat.divInt (sg n (val xs)) (val ys))) := by
  have wx := h.wd
  have wy := g.wd
  have HB : Hid (Below w.heap.size w (w.alloc (.cells #[.bool false, .slice none 0 0, .slice none 0 0] 25))) := alloc_later _ _
  have HZ : Hid (Box (w.alloc (.cells #[.bool false, .slice none 0 0, .slice none 0 0] 25)) w.heap.size 25 #[.bool false, .slice none 0 0, .slice none 0 0]) := Box.made w _ _
  have HLT : Hid (w.heap.size < (w.alloc (.cells #[.bool false, .slice none 0 0, .slice none 0 0] 25)).heap.size) := HZ.out.lt
  by_cases hx : xs.length = 0
  · obtain rfl : xs = [] := List.eq_nil_of_length_eq_zero hx
    obtain ⟨K, hK⟩ : ∃ K, K = ([] : List Int).length := ⟨_, rfl⟩
    have hK0 : ((K : Int) == 0) = true := by rw [hK]; rfl
    have HT := hid (rt_zero n ys)
    have HO := hid (one3_any (w.alloc (.cells #[.bool false, .slice none 0 0, .slice none 0 0] 25)))
    rw [← hK]
    obtain ⟨q, hq⟩ : ∃ q, q = Rat.divInt (sg n (val [])) (val ys) := ⟨_, rfl⟩
    rw [← hq] at HT ⊢
    clear hx hK h g hq
    go_enter Tryz.func68, Tryz.ntmps68
    go_wp2_with fail
    refine Calls.mono HO.out ?_
    generalize (w.alloc (.cells #[.bool false, .slice none 0 0, .slice none 0 0] 25)) = X at *
    rintro e w1 ⟨g1, rfl, o1, hb1⟩
    obtain ⟨y0, y1, y2, f0, f1, f2⟩ := res_box3 HZ.out hb1
    have HR : Hid (w1.ownsRow X.heap.size 88 1 (.slice none 0 0) ([] : List Int).length (([] : List Int).map (Value.int .u32)) ∧ w1.ownsRow X.heap.size 88 1 (.slice (some ⟨g1, 0, none⟩) 1 1) [(1 : Int)].length ([(1 : Int)].map (Value.int .u32)) ∧ RTells 0 q false [] [1] 0) := ⟨World.ownsRow_nil _ _ _ _, o1, HT.out⟩
    have HBW := hid (bt HB.out hb1)
    clear o1 hb1 HO
    go_wp2_with fail
    refine bodyPost_ret (v := .tuple #[.agg #[.bool false, .slice none 0 0, .slice (some ⟨g1, 0, none⟩) 1 1], .int .i64 0]) (by simp [results, Tryz.results68, go_sem, y0, y1, y2]) rfl ?_
    exact RTold.put HR.out w.heap.size HLT.out (Nat.le_refl _) HBW.out _ _ _
  · have hx' : ((xs.length : Int) == 0) = false := beq_eq_false_iff_ne.2 (by omega)
    have hz := both_good (chk_good lx tx) (chk_good ly ty)
    have HW := hid (gcd_wide wx wy hz)
    have HG := hid (refGcd_sl _ _ xs ys (w.alloc (.cells #[.bool false, .slice none 0 0, .slice none 0 0] 25)) (h.later HB.out) (g.later HB.out) (by omega) (by omega))
    rw [hz] at HG
    have HS := hid (And.intro (h.later HB.out) (g.later HB.out))
    have HPY : Hid (0 < val ys) := by have := val_pos' wy ty h0; show _ < _; omega
    have HPX : Hid (0 < val xs) := by have := val_pos' wx tx (by omega); show _ < _; omega
    have HMP := hid (make_parts (n := n) (m := false) (val_nonneg wx) HPY.out)
    have HGP : Hid (0 < gcdI (val xs) (val ys) ∧ gcdI (val xs) (val ys) ≤ val ys ∧ gcdI (val xs) (val ys) ≤ val xs) := ⟨gcd_pos_right HPY.out, gcd_le_right HPY.out, Int.le_of_dvd HPX.out (Int.gcd_dvd_left ..)⟩
    have hnf : (n != false) = n := by cases n <;> rfl
    rw [hnf] at HMP
    have HTT := hid (And.intro tx ty)
    have HWY := hid (And.intro wx wy)
    obtain ⟨q, hq⟩ : ∃ q, q = Rat.divInt (sg n (val xs)) (val ys) := ⟨_, rfl⟩
    rw [← hq]
    have HQ := hid hq
    clear hx hz h g hq hnf tx ty wx wy
    go_enter Tryz.func68, Tryz.ntmps68
    go_wp2_with fail
    refine Calls.mono HG.out ?_
    generalize (w.alloc (.cells #[.bool false, .slice none 0 0, .slice none 0 0] 25)) = X at *
    rintro e w1 ⟨v1, z1, c1, rfl, o1, t1, hb1⟩
    obtain ⟨rfl, hv1⟩ := t1.good rfl HW.out
    obtain ⟨a1, k1, hs1⟩ := own_slice' o1
    subst hs1
    have l1 : z1.length ≤ 8192 := by
      refine Nat.le_trans (len_of_lt t1.wd t1.trim (L := ys.length) ?_) ly
      rw [hv1]
      have := HGP.out
      have := val_lt HWY.out.2
      omega
    have p1 : 0 < z1.length := by
      by_cases c : 0 < z1.length
      · exact c
      · have := trimmed_zero' (us := z1) (by omega)
        have := HGP.out
        omega
    have HS1 := hid (Sl.own o1 t1.wd)
    have HO1 := hid (over3_any _ _ xs z1 w1 (HS.out.1.later hb1) HS1.out lx l1 HTT.out.1 t1.trim p1)
    have HO2 := hid (fun ww (hb : Below w1.heap.size w1 ww) => over3_any _ _ ys z1 ww ((HS.out.2.later hb1).later hb) (HS1.out.later hb) ly l1 HTT.out.2 t1.trim p1)
    rw [hv1] at HO1 HO2
    have HB1 := hid hb1
    clear o1 t1 hv1 hb1 HG
    go_wp2_with fail
    refine Calls.mono HO1.out ?_
    rintro e w2 ⟨v2, z2, rfl, o2, wd2, tr2, hv2, hb2⟩
    obtain ⟨a2, k2, hs2⟩ := own_slice' o2
    subst hs2
    have HC2 := hid (HO2.out w2 hb2)
    have HN2 := hid (And.intro (owns_base o2 HB1.out.size) (And.intro wd2 (And.intro tr2 hv2)))
    have HB2 := hid (bt HB1.out hb2)
    clear o2 wd2 tr2 hv2 hb2 HO1 HO2 HS1
    go_wp2_with fail
    refine Calls.mono HC2.out ?_
    rintro e w3 ⟨v3, z3, rfl, o3, wd3, tr3, hv3, hb3⟩
    obtain ⟨a3, k3, hs3⟩ := own_slice' o3
    subst hs3
    have HN3 := hid (And.intro (owns_later HN2.out.1 hb3) (And.intro (owns_base o3 HB2.out.size) (And.intro wd3 (And.intro tr3 hv3))))
    have HB3 := hid (bt HB2.out hb3)
    have HBR := hid (bt HB3.out (alloc_later w3 (.cells #[.bool n, .slice a2 z2.length k2, .slice a3 z3.length k3] 25)))
    obtain ⟨y0, y1, y2, f0, f1, f2⟩ := res_box3 HZ.out HB3.out
    have hlt : w.heap.size < w3.heap.size := Nat.lt_of_lt_of_le HLT.out HB3.out.size
    have HGZ : Hid (gcdI (val z2) (val z3) = 1 ∧ 0 < val z3 ∧ 0 < z2.length) := by
      refine ⟨by rw [HN2.out.2.2.2, hv3]; exact HMP.out.2.1, by rw [hv3]; exact HMP.out.1, ?_⟩
      by_cases c : 0 < z2.length
      · exact c
      · have e0 := trimmed_zero' (us := z2) (by omega)
        have e1 := HN2.out.2.2.2
        have e2 := HGP.out
        have e3 : 1 ≤ val xs / gcdI (val xs) (val ys) := Int.le_ediv_of_mul_le e2.1 (by omega)
        omega
    have HQQ : Hid (q = Rat.divInt (sg n (val z2)) (val z3)) := by
      show _ = _
      rw [HQ.out, HN2.out.2.2.2, hv3]
      exact HMP.out.2.2.symm
    clear o3 wd3 tr3 hv3 hb3 HC2
    by_cases hl2 : 2048 < z2.length
    · have hl2' : (2048 : Int) < (z2.length : Int) := by omega
      have HR : Hid (w3.ownsRow X.heap.size 88 1 (.slice none 0 0) ([] : List Int).length (([] : List Int).map (Value.int .u32)) ∧ w3.ownsRow X.heap.size 88 1 (.slice none 0 0) ([] : List Int).length (([] : List Int).map (Value.int .u32)) ∧ RTells 0 q false [] [] 3) := ⟨World.ownsRow_nil _ _ _ _, World.ownsRow_nil _ _ _ _, by rw [HQQ.out]; exact rt_long HN2.out.2.1 HN2.out.2.2.1 HN3.out.2.2.1 HN3.out.2.2.2.1 HGZ.out.2.1 HGZ.out.1 (.inl hl2)⟩
      clear hl2 HW HMP HGP HTT HWY HQ HS HPX HPY HN2 HN3 HGZ HQQ HBR l1 p1 lx ly h0
      go_wp2_with fail
      refine bodyPost_ret (v := .tuple #[.agg #[.bool false, .slice none 0 0, .slice none 0 0], .int .i64 3]) (by simp [results, Tryz.results68, go_sem, y0, y1, y2, hlt]) rfl ?_
      exact (RTold.put HR.out w.heap.size HLT.out (Nat.le_refl _) (bt HB.out HB3.out) _ _ _).later (alloc_later _ _)
    · have hl2' : ¬ (2048 : Int) < (z2.length : Int) := by omega
      by_cases hl3 : 2048 < z3.length
      · have hl3' : (2048 : Int) < (z3.length : Int) := by omega
        have HR : Hid (w3.ownsRow X.heap.size 88 1 (.slice none 0 0) ([] : List Int).length (([] : List Int).map (Value.int .u32)) ∧ w3.ownsRow X.heap.size 88 1 (.slice none 0 0) ([] : List Int).length (([] : List Int).map (Value.int .u32)) ∧ RTells 0 q false [] [] 3) := ⟨World.ownsRow_nil _ _ _ _, World.ownsRow_nil _ _ _ _, by rw [HQQ.out]; exact rt_long HN2.out.2.1 HN2.out.2.2.1 HN3.out.2.2.1 HN3.out.2.2.2.1 HGZ.out.2.1 HGZ.out.1 (.inr hl3)⟩
        clear hl2 hl3 HW HMP HGP HTT HWY HQ HS HPX HPY HN2 HN3 HGZ HQQ HBR l1 p1 lx ly h0
        go_wp2_with fail
        refine bodyPost_ret (v := .tuple #[.agg #[.bool false, .slice none 0 0, .slice none 0 0], .int .i64 3]) (by simp [results, Tryz.results68, go_sem, y0, y1, y2, hlt]) rfl ?_
        exact (RTold.put HR.out w.heap.size HLT.out (Nat.le_refl _) (bt HB.out HB3.out) _ _ _).later (alloc_later _ _)
      · have hl3' : ¬ (2048 : Int) < (z3.length : Int) := by omega
        have HR : Hid (w3.ownsRow X.heap.size 88 1 (.slice a2 z2.length k2) z2.length (z2.map (Value.int .u32)) ∧ w3.ownsRow X.heap.size 88 1 (.slice a3 z3.length k3) z3.length (z3.map (Value.int .u32)) ∧ RTells 0 q n z2 z3 0) := ⟨HN3.out.1, HN3.out.2.1, by rw [HQQ.out]; exact rt_good HN2.out.2.1 HN2.out.2.2.1 HN3.out.2.2.1 HN3.out.2.2.2.1 HGZ.out.2.2 HGZ.out.2.1 HGZ.out.1 (by omega) (by omega)⟩
        clear hl2 hl3 HW HMP HGP HTT HWY HQ HS HPX HPY HN2 HN3 HGZ HQQ HBR l1 p1 lx ly h0
        go_wp2_with fail
        refine bodyPost_ret (v := .tuple #[.agg #[.bool n, .slice a2 z2.length k2, .slice a3 z3.length k3], .int .i64 0]) (by simp [results, Tryz.results68, go_sem, y0, y1, y2, hlt]) rfl ?_
        exact (RTold.put HR.out w.heap.size HLT.out (Nat.le_refl _) (bt HB.out HB3.out) _ _ _).later (alloc_later _ _)
end Go.Proofs.YtabkgpnckaaclaaGreatDoor

/- The document's own fractions: same words; Check. -/
namespace Go.Proofs.YtabkgpnckaaclaaGreatDoor
open Go.RowKit
set_option linter.unusedVariables false

set_option maxHeartbeats 800000 in
set_option maxRecDepth 100000 in
theorem same3_any (a : Option Addr) (n cap : Nat) (xs : List Int) (b : Option Addr) (m cap' : Nat) (ys : List Int) (w : World) (h : Reads w w.heap.size a n cap xs) (g : Reads w w.heap.size b m cap' ys) (hn : n ≤ 281474976710656) (hm : m ≤ 281474976710656) :
    Calls Tryz.prog 78 #[.slice a n cap, .slice b m cap'] w fun e w' => e = .returned (.bool (decide (xs = ys))) ∧ Below w.heap.size w w' := by
  obtain ⟨hl, hw, hc, hcap⟩ := h
  obtain ⟨gl, gw, gc, gcap⟩ := g
  by_cases hnm : n = m
  · subst hnm
    have htt : ((n : Int) != (n : Int)) = false := by simp
    rcases hc with h0 | ⟨b1, o1, rfl, hb1, hc⟩
    · subst h0
      have hx : xs = [] := List.eq_nil_of_length_eq_zero hl
      have hy : ys = [] := List.eq_nil_of_length_eq_zero gl
      subst hx; subst hy
      go_enter Tryz.func78, Tryz.ntmps78
      go_wp2
      refine wp_loop_rounds 1 ?_
      rw [rounds_succ]
      go_wp2
      go_ret
      exact ⟨rfl, Below.refl _ _⟩
    · rcases gc with g0 | ⟨b2, o2, rfl, hb2, gc⟩
      · subst g0
        have hx : xs = [] := List.eq_nil_of_length_eq_zero hl
        have hy : ys = [] := List.eq_nil_of_length_eq_zero gl
        subst hx; subst hy
        go_enter Tryz.func78, Tryz.ntmps78
        go_wp2
        refine wp_loop_rounds 1 ?_
        rw [rounds_succ]
        go_wp2
        go_ret
        exact ⟨rfl, Below.refl _ _⟩
      · have HL : Hid (xs.length = n ∧ ys.length = n) := ⟨hl, gl⟩
        clear hl gl
        go_enter Tryz.func78, Tryz.ntmps78
        go_wp2
        go_loopw [5] (fun t wr => ∃ k : Nat, k ≤ n ∧ t = .int .i64 k ∧ xs.take k = ys.take k ∧ Below w.heap.size w wr) (fun t _ => n - (intOf t).toNat)
        case atStart => exact ⟨0, Nat.zero_le _, rfl, rfl, Below.refl _ _⟩
        case round =>
          obtain ⟨k, hk, rfl, hs, hbel⟩ := hrel
          have HS : Hid (xs.take k = ys.take k) := hs
          clear hs
          by_cases hlt : k < n
          · have hcx : wr.cell? ⟨b1, o1 + k, none⟩ = some (.int .u32 (xs[k]?.getD 0)) := (hbel.cell (p := ⟨b1, o1 + k, none⟩) hb1).trans (hc k hlt)
            have hcy : wr.cell? ⟨b2, o2 + k, none⟩ = some (.int .u32 (ys[k]?.getD 0)) := (hbel.cell (p := ⟨b2, o2 + k, none⟩) hb2).trans (gc k hlt)
            by_cases he : xs[k]?.getD 0 = ys[k]?.getD 0
            · have hne : (xs[k]?.getD 0 != ys[k]?.getD 0) = false := by simp [he]
              have HE : Hid (xs[k]?.getD 0 = ys[k]?.getD 0) := he
              clear he
              go_wp2
              go_region

              all_goals go_wp2

              all_goals
                go_roundw
                case rel => exact ⟨k + 1, by omega, by go_num, take_same HS.out (by have := HL.out; omega) (by have := HL.out; omega) HE.out, hbel.drew⟩
                case measure => simp [intOf]; omega
            · have hne : (xs[k]?.getD 0 != ys[k]?.getD 0) = true := by simp [he]
              have HE : Hid (¬ xs[k]?.getD 0 = ys[k]?.getD 0) := he
              clear he
              go_wp2
              go_region
              all_goals go_wp2
              all_goals
                go_ret
                exact ⟨ret_bool (decide_eq_false fun e => HE.out (by rw [e])).symm, hbel.drew⟩
          · have hkn : k = n := by omega
            subst hkn
            go_wp2
            go_ret
            exact ⟨ret_bool (decide_eq_true (by have := HS.out; have hl := HL.out; rwa [List.take_of_length_le (by omega), List.take_of_length_le (by omega)] at this)).symm, hbel⟩
  · have hne : ((n : Int) != (m : Int)) = true := by simp; omega
    have hd : decide (xs = ys) = false := decide_eq_false fun e => hnm (by rw [← hl, ← gl, e])
    have HD : Hid (decide (xs = ys) = false) := hd
    clear hd hc gc
    go_enter Tryz.func78, Tryz.ntmps78
    go_wp2
    go_ret
    exact ⟨ret_bool HD.out.symm, Below.refl _ _⟩

theorem same3_sl (v u : Value) (xs ys : List Int) (w : World) (h : Sl w v xs) (g : Sl w u ys) (hn : xs.length ≤ 281474976710656) (hm : ys.length ≤ 281474976710656) :
    Calls Tryz.prog 78 #[v, u] w fun e w' => e = .returned (.bool (decide (xs = ys))) ∧ Below w.heap.size w w' := by
  obtain ⟨a, ca, rfl, hr⟩ := h
  obtain ⟨b, cb, rfl, gr⟩ := g
  exact same3_any a _ ca xs b _ cb ys w hr gr hn hm
theorem rchk_long {n : Bool} {xs ys : List Int} (h : 2048 < xs.length ∨ 2048 < ys.length) : rchk n xs ys = 3 := by unfold rchk; rw [if_pos (by omega)]
theorem rchk_rough {n : Bool} {xs ys : List Int} (l1 : xs.length ≤ 2048) (l2 : ys.length ≤ 2048) (h : ¬ rform n xs ys) : rchk n xs ys = 11 := by unfold rchk; rw [if_neg (by omega), if_neg h]
theorem Tells.len' {e t : Int} {zs : List Int} {c : Int} (h : Tells e t zs c) : zs.length ≤ 8192 := by
  by_cases he : e = 0
  · by_cases hl : wide ≤ t
    · rw [(h.long he hl).2]; simp
    · have e1 := (h.good he (by omega)).2
      exact len_of_lt h.wd h.trim (by rw [e1]; exact Int.not_le.1 hl)
  · rw [(h.bad he).2]; simp
theorem rform_trim {n : Bool} {xs ys : List Int} (h : rform n xs ys) : sz xs = xs.length ∧ sz ys = ys.length := ⟨(chk_ok (both_ok h.1).1).2, (chk_ok (both_ok h.1).2).2⟩

set_option maxHeartbeats 1600000 in
set_option maxRecDepth 100000 in
theorem check3_any (n : Bool) (a : Option Addr) (ca : Nat) (xs : List Int) (b : Option Addr) (cb : Nat) (ys : List Int) (w : World) (sx : Sl w (.slice a xs.length ca) xs) (sy : Sl w (.slice b ys.length cb) ys) (lx : xs.length ≤ 281474976710656) (ly : ys.length ≤ 281474976710656) :
    Calls Tryz.prog 42 #[.agg #[.bool n, .slice a xs.length ca, .slice b ys.length cb]] w fun e w' => e = .returned (.int .i64 (rchk n xs ys)) ∧ Below w.heap.size w w' := by
  have wx := sx.wd
  have wy := sy.wd
  have HB := hid (alloc_later w (.cells #[.bool n, .slice a xs.length ca, .slice b ys.length cb] 25))
  have HN := hid (Box.made w 25 #[.bool n, .slice a xs.length ca, .slice b ys.length cb])
  have HS := hid (And.intro (sx.later HB.out) (sy.later HB.out))
  have HR := hid (Below.refl (w.alloc (.cells #[.bool n, .slice a xs.length ca, .slice b ys.length cb] 25)).heap.size (w.alloc (.cells #[.bool n, .slice a xs.length ca, .slice b ys.length cb] 25)))
  have HT1 := hid (fun ww (hb : Below (w.alloc (.cells #[.bool n, .slice a xs.length ca, .slice b ys.length cb] 25)).heap.size (w.alloc (.cells #[.bool n, .slice a xs.length ca, .slice b ys.length cb] 25)) ww) => trimmed3_any _ xs ww (HS.out.1.later hb) lx)
  have HT2 := hid (fun ww (hb : Below (w.alloc (.cells #[.bool n, .slice a xs.length ca, .slice b ys.length cb] 25)).heap.size (w.alloc (.cells #[.bool n, .slice a xs.length ca, .slice b ys.length cb] 25)) ww) => trimmed3_any _ ys ww (HS.out.2.later hb) ly)
  clear sx sy
  by_cases h1 : 2048 < xs.length
  · rw [rchk_long (.inl h1)]
    have h1' : (2048 : Int) < (xs.length : Int) := by omega
    clear h1
    go_enter Tryz.func42, Tryz.ntmps42
    go_wp2_with fail
    go_ret
    exact ⟨rfl, HB.out⟩
  · have h1' : ¬ (2048 : Int) < (xs.length : Int) := by omega
    by_cases h2 : 2048 < ys.length
    · rw [rchk_long (.inr h2)]
      have h2' : (2048 : Int) < (ys.length : Int) := by omega
      clear h1 h2
      go_enter Tryz.func42, Tryz.ntmps42
      go_wp2_with fail
      go_ret
      exact ⟨rfl, HB.out⟩
    · have h2' : ¬ (2048 : Int) < (ys.length : Int) := by omega
      have HL : Hid (xs.length ≤ 2048 ∧ ys.length ≤ 2048) := ⟨by omega, by omega⟩
      clear h1 h2
      by_cases h3 : sz xs = xs.length
      · rw [decide_eq_true h3] at HT1
        by_cases h4 : sz ys = ys.length
        · rw [decide_eq_true h4] at HT2
          by_cases h5 : ys.length = 0
          · rw [rchk_rough HL.out.1 HL.out.2 (fun h => by have := h.2.1; omega)]
            have h5' : ((ys.length : Int) == 0) = true := by rw [h5]; rfl
            clear h3 h4 h5
            go_enter Tryz.func42, Tryz.ntmps42
            go_wp2_with fail
            refine Calls.mono (HT1.out _ HR.out) ?_
            generalize (w.alloc (.cells #[.bool n, .slice a xs.length ca, .slice b ys.length cb] 25)) = X at *
            rintro e w1 ⟨rfl, hb1⟩
            obtain ⟨p0, p1, p2, _⟩ := res_box3 HN.out hb1
            have HC := hid (HT2.out w1 hb1)
            have HB1 := hid hb1
            clear hb1
            go_wp2_with fail
            refine Calls.mono HC.out ?_
            rintro e w2 ⟨rfl, hb2⟩
            have HB2 := hid (bt HB1.out hb2)
            clear hb2 p0 p1 p2
            obtain ⟨p0, p1, p2, _⟩ := res_box3 HN.out HB2.out
            go_wp2_with fail
            go_ret
            exact ⟨rfl, bt HB.out HB2.out⟩
          · have h5' : ((ys.length : Int) == 0) = false := beq_eq_false_iff_ne.2 (by omega)
            have HBO : Hid (both xs ys = 0) := both_good (chk_good (by have := HL.out; omega) h3) (chk_good (by have := HL.out; omega) h4)
            have HGW := hid (gcd_wide wx wy HBO.out)
            by_cases h6 : xs.length = 0
            · have h6' : ((xs.length : Int) == 0) = true := by rw [h6]; rfl
              cases n with
              | true =>
                rw [rchk_rough HL.out.1 HL.out.2 (fun h => h.2.2.1.elim (fun e => by cases e) (fun e => by omega))]
                clear h3 h4 h5 h6
                go_enter Tryz.func42, Tryz.ntmps42
                go_wp2_with fail
                refine Calls.mono (HT1.out _ HR.out) ?_
                generalize (w.alloc (.cells #[.bool true, .slice a xs.length ca, .slice b ys.length cb] 25)) = X at *
                rintro e w1 ⟨rfl, hb1⟩
                obtain ⟨p0, p1, p2, _⟩ := res_box3 HN.out hb1
                have HC := hid (HT2.out w1 hb1)
                have HB1 := hid hb1
                clear hb1
                go_wp2_with fail
                refine Calls.mono HC.out ?_
                rintro e w2 ⟨rfl, hb2⟩
                have HB2 := hid (bt HB1.out hb2)
                clear hb2 p0 p1 p2
                obtain ⟨p0, p1, p2, _⟩ := res_box3 HN.out HB2.out
                go_wp2_with fail
                go_ret
                exact ⟨rfl, bt HB.out HB2.out⟩
              | false =>
                by_cases hg : gcdI (val xs) (val ys) = 1
                · rw [show rchk false xs ys = 0 from rchk_good HL.out.1 HL.out.2 h3 h4 (by omega) (.inl rfl) hg]
                  have HGG : Hid (decide (gcdI (val xs) (val ys) = 1) = true) := decide_eq_true hg
                  clear h3 h4 h5 h6 hg
                  go_enter Tryz.func42, Tryz.ntmps42
                  go_wp2_with fail
                  refine Calls.mono (HT1.out _ HR.out) ?_
                  generalize (w.alloc (.cells #[.bool false, .slice a xs.length ca, .slice b ys.length cb] 25)) = X at *
                  rintro e w1 ⟨rfl, hb1⟩
                  obtain ⟨p0, p1, p2, _⟩ := res_box3 HN.out hb1
                  have HC := hid (HT2.out w1 hb1)
                  have HB1 := hid hb1
                  clear hb1
                  go_wp2_with fail
                  refine Calls.mono HC.out ?_
                  rintro e w2 ⟨rfl, hb2⟩
                  have HB2 := hid (bt HB1.out hb2)
                  clear hb2 p0 p1 p2
                  obtain ⟨p0, p1, p2, _⟩ := res_box3 HN.out HB2.out
                  have HG := hid (refGcd_sl _ _ xs ys w2 (HS.out.1.later HB2.out) (HS.out.2.later HB2.out) lx ly)
                  rw [HBO.out] at HG
                  go_wp2_with fail
                  refine Calls.mono HG.out ?_
                  rintro e w3 ⟨v3, z3, c3, rfl, o3, t3, hb3⟩
                  obtain ⟨rfl, hv3⟩ := t3.good rfl HGW.out
                  obtain ⟨a3, k3, hs3⟩ := own_slice' o3
                  subst hs3
                  have HZ3 := hid (And.intro (Sl.own o3 t3.wd) (And.intro t3.trim hv3))
                  have l3 : z3.length ≤ 8192 := t3.len'
                  have HB3 := hid (bt HB2.out hb3)
                  have HO := hid (one3_any w3)
                  clear o3 t3 hv3 hb3 HG HC p0 p1 p2
                  go_wp2_with fail
                  refine Calls.mono HO.out ?_
                  rintro e w4 ⟨g4, rfl, o4, hb4⟩
                  have HQ := hid (same3_sl _ _ z3 [1] w4 (HZ3.out.1.later hb4) (Sl.own o4 (Wd.one (by omega))) (by omega) (by simp))
                  have HEQ : Hid (decide (z3 = [1]) = decide (gcdI (val xs) (val ys) = 1)) := by
                    show _ = _
                    congr 1
                    rw [← HZ3.out.2.2]
                    exact propext (one_iff HZ3.out.1.wd HZ3.out.2.1)
                  rw [HEQ.out, HGG.out] at HQ
                  have HB4 := hid (bt HB3.out hb4)
                  clear o4 hb4 HO HEQ
                  go_wp2_with fail
                  refine Calls.mono HQ.out ?_
                  rintro e w5 ⟨rfl, hb5⟩
                  have HBN := hid (bt HB.out (bt HB4.out hb5))
                  clear hb5
                  go_wp2_with fail
                  go_ret
                  exact ⟨rfl, HBN.out⟩
                · rw [rchk_rough HL.out.1 HL.out.2 (fun h => hg h.2.2.2)]
                  have HGG : Hid (decide (gcdI (val xs) (val ys) = 1) = false) := decide_eq_false hg
                  clear h3 h4 h5 h6 hg
                  go_enter Tryz.func42, Tryz.ntmps42
                  go_wp2_with fail
                  refine Calls.mono (HT1.out _ HR.out) ?_
                  generalize (w.alloc (.cells #[.bool false, .slice a xs.length ca, .slice b ys.length cb] 25)) = X at *
                  rintro e w1 ⟨rfl, hb1⟩
                  obtain ⟨p0, p1, p2, _⟩ := res_box3 HN.out hb1
                  have HC := hid (HT2.out w1 hb1)
                  have HB1 := hid hb1
                  clear hb1
                  go_wp2_with fail
                  refine Calls.mono HC.out ?_
                  rintro e w2 ⟨rfl, hb2⟩
                  have HB2 := hid (bt HB1.out hb2)
                  clear hb2 p0 p1 p2
                  obtain ⟨p0, p1, p2, _⟩ := res_box3 HN.out HB2.out
                  have HG := hid (refGcd_sl _ _ xs ys w2 (HS.out.1.later HB2.out) (HS.out.2.later HB2.out) lx ly)
                  rw [HBO.out] at HG
                  go_wp2_with fail
                  refine Calls.mono HG.out ?_
                  rintro e w3 ⟨v3, z3, c3, rfl, o3, t3, hb3⟩
                  obtain ⟨rfl, hv3⟩ := t3.good rfl HGW.out
                  obtain ⟨a3, k3, hs3⟩ := own_slice' o3
                  subst hs3
                  have HZ3 := hid (And.intro (Sl.own o3 t3.wd) (And.intro t3.trim hv3))
                  have l3 : z3.length ≤ 8192 := t3.len'
                  have HB3 := hid (bt HB2.out hb3)
                  have HO := hid (one3_any w3)
                  clear o3 t3 hv3 hb3 HG HC p0 p1 p2
                  go_wp2_with fail
                  refine Calls.mono HO.out ?_
                  rintro e w4 ⟨g4, rfl, o4, hb4⟩
                  have HQ := hid (same3_sl _ _ z3 [1] w4 (HZ3.out.1.later hb4) (Sl.own o4 (Wd.one (by omega))) (by omega) (by simp))
                  have HEQ : Hid (decide (z3 = [1]) = decide (gcdI (val xs) (val ys) = 1)) := by
                    show _ = _
                    congr 1
                    rw [← HZ3.out.2.2]
                    exact propext (one_iff HZ3.out.1.wd HZ3.out.2.1)
                  rw [HEQ.out, HGG.out] at HQ
                  have HB4 := hid (bt HB3.out hb4)
                  clear o4 hb4 HO HEQ
                  go_wp2_with fail
                  refine Calls.mono HQ.out ?_
                  rintro e w5 ⟨rfl, hb5⟩
                  have HBN := hid (bt HB.out (bt HB4.out hb5))
                  clear hb5
                  go_wp2_with fail
                  go_ret
                  exact ⟨rfl, HBN.out⟩
            · have h6' : ((xs.length : Int) == 0) = false := beq_eq_false_iff_ne.2 (by omega)
              by_cases hg : gcdI (val xs) (val ys) = 1
              · rw [show rchk n xs ys = 0 from rchk_good HL.out.1 HL.out.2 h3 h4 (by omega) (.inr (by omega)) hg]
                have HGG : Hid (decide (gcdI (val xs) (val ys) = 1) = true) := decide_eq_true hg
                clear h3 h4 h5 h6 hg
                go_enter Tryz.func42, Tryz.ntmps42
                go_wp2_with fail
                refine Calls.mono (HT1.out _ HR.out) ?_
                generalize (w.alloc (.cells #[.bool n, .slice a xs.length ca, .slice b ys.length cb] 25)) = X at *
                rintro e w1 ⟨rfl, hb1⟩
                obtain ⟨p0, p1, p2, _⟩ := res_box3 HN.out hb1
                have HC := hid (HT2.out w1 hb1)
                have HB1 := hid hb1
                clear hb1
                go_wp2_with fail
                refine Calls.mono HC.out ?_
                rintro e w2 ⟨rfl, hb2⟩
                have HB2 := hid (bt HB1.out hb2)
                clear hb2 p0 p1 p2
                obtain ⟨p0, p1, p2, _⟩ := res_box3 HN.out HB2.out
                have HG := hid (refGcd_sl _ _ xs ys w2 (HS.out.1.later HB2.out) (HS.out.2.later HB2.out) lx ly)
                rw [HBO.out] at HG
                go_wp2_with fail
                refine Calls.mono HG.out ?_
                rintro e w3 ⟨v3, z3, c3, rfl, o3, t3, hb3⟩
                obtain ⟨rfl, hv3⟩ := t3.good rfl HGW.out
                obtain ⟨a3, k3, hs3⟩ := own_slice' o3
                subst hs3
                have HZ3 := hid (And.intro (Sl.own o3 t3.wd) (And.intro t3.trim hv3))
                have l3 : z3.length ≤ 8192 := t3.len'
                have HB3 := hid (bt HB2.out hb3)
                have HO := hid (one3_any w3)
                clear o3 t3 hv3 hb3 HG HC p0 p1 p2
                go_wp2_with fail
                refine Calls.mono HO.out ?_
                rintro e w4 ⟨g4, rfl, o4, hb4⟩
                have HQ := hid (same3_sl _ _ z3 [1] w4 (HZ3.out.1.later hb4) (Sl.own o4 (Wd.one (by omega))) (by omega) (by simp))
                have HEQ : Hid (decide (z3 = [1]) = decide (gcdI (val xs) (val ys) = 1)) := by
                  show _ = _
                  congr 1
                  rw [← HZ3.out.2.2]
                  exact propext (one_iff HZ3.out.1.wd HZ3.out.2.1)
                rw [HEQ.out, HGG.out] at HQ
                have HB4 := hid (bt HB3.out hb4)
                clear o4 hb4 HO HEQ
                go_wp2_with fail
                refine Calls.mono HQ.out ?_
                rintro e w5 ⟨rfl, hb5⟩
                have HBN := hid (bt HB.out (bt HB4.out hb5))
                clear hb5
                go_wp2_with fail
                go_ret
                exact ⟨rfl, HBN.out⟩
              · rw [rchk_rough HL.out.1 HL.out.2 (fun h => hg h.2.2.2)]
                have HGG : Hid (decide (gcdI (val xs) (val ys) = 1) = false) := decide_eq_false hg
                clear h3 h4 h5 h6 hg
                go_enter Tryz.func42, Tryz.ntmps42
                go_wp2_with fail
                refine Calls.mono (HT1.out _ HR.out) ?_
                generalize (w.alloc (.cells #[.bool n, .slice a xs.length ca, .slice b ys.length cb] 25)) = X at *
                rintro e w1 ⟨rfl, hb1⟩
                obtain ⟨p0, p1, p2, _⟩ := res_box3 HN.out hb1
                have HC := hid (HT2.out w1 hb1)
                have HB1 := hid hb1
                clear hb1
                go_wp2_with fail
                refine Calls.mono HC.out ?_
                rintro e w2 ⟨rfl, hb2⟩
                have HB2 := hid (bt HB1.out hb2)
                clear hb2 p0 p1 p2
                obtain ⟨p0, p1, p2, _⟩ := res_box3 HN.out HB2.out
                have HG := hid (refGcd_sl _ _ xs ys w2 (HS.out.1.later HB2.out) (HS.out.2.later HB2.out) lx ly)
                rw [HBO.out] at HG
                go_wp2_with fail
                refine Calls.mono HG.out ?_
                rintro e w3 ⟨v3, z3, c3, rfl, o3, t3, hb3⟩
                obtain ⟨rfl, hv3⟩ := t3.good rfl HGW.out
                obtain ⟨a3, k3, hs3⟩ := own_slice' o3
                subst hs3
                have HZ3 := hid (And.intro (Sl.own o3 t3.wd) (And.intro t3.trim hv3))
                have l3 : z3.length ≤ 8192 := t3.len'
                have HB3 := hid (bt HB2.out hb3)
                have HO := hid (one3_any w3)
                clear o3 t3 hv3 hb3 HG HC p0 p1 p2
                go_wp2_with fail
                refine Calls.mono HO.out ?_
                rintro e w4 ⟨g4, rfl, o4, hb4⟩
                have HQ := hid (same3_sl _ _ z3 [1] w4 (HZ3.out.1.later hb4) (Sl.own o4 (Wd.one (by omega))) (by omega) (by simp))
                have HEQ : Hid (decide (z3 = [1]) = decide (gcdI (val xs) (val ys) = 1)) := by
                  show _ = _
                  congr 1
                  rw [← HZ3.out.2.2]
                  exact propext (one_iff HZ3.out.1.wd HZ3.out.2.1)
                rw [HEQ.out, HGG.out] at HQ
                have HB4 := hid (bt HB3.out hb4)
                clear o4 hb4 HO HEQ
                go_wp2_with fail
                refine Calls.mono HQ.out ?_
                rintro e w5 ⟨rfl, hb5⟩
                have HBN := hid (bt HB.out (bt HB4.out hb5))
                clear hb5
                go_wp2_with fail
                go_ret
                exact ⟨rfl, HBN.out⟩
        · rw [decide_eq_false h4] at HT2
          rw [rchk_rough HL.out.1 HL.out.2 (fun h => h4 (rform_trim h).2)]
          clear h3 h4
          go_enter Tryz.func42, Tryz.ntmps42
          go_wp2_with fail
          refine Calls.mono (HT1.out _ HR.out) ?_
          generalize (w.alloc (.cells #[.bool n, .slice a xs.length ca, .slice b ys.length cb] 25)) = X at *
          rintro e w1 ⟨rfl, hb1⟩
          obtain ⟨p0, p1, p2, _⟩ := res_box3 HN.out hb1
          have HC := hid (HT2.out w1 hb1)
          have HB1 := hid (bt HB.out hb1)
          clear hb1
          go_wp2_with fail
          refine Calls.mono HC.out ?_
          rintro e w2 ⟨rfl, hb2⟩
          have HBN := hid (bt HB1.out hb2)
          clear hb2
          go_wp2_with fail
          go_ret
          exact ⟨rfl, HBN.out⟩
      · rw [decide_eq_false h3] at HT1
        rw [rchk_rough HL.out.1 HL.out.2 (fun h => h3 (rform_trim h).1)]
        clear h3
        go_enter Tryz.func42, Tryz.ntmps42
        go_wp2_with fail
        refine Calls.mono (HT1.out _ HR.out) ?_
        rintro e w1 ⟨rfl, hb1⟩
        have HBN := hid (bt HB.out hb1)
        clear hb1
        go_wp2_with fail
        go_ret
        exact ⟨rfl, HBN.out⟩
end Go.Proofs.YtabkgpnckaaclaaGreatDoor

/- The document's own floats (slackwaterref06): the unit of a fraction by its bits (no program); Ldexp of 0; Near of 0. -/
namespace Go.Proofs.YtabkgpnckaaclaaGreatDoor
open Go.RowKit
set_option linter.unusedVariables false

theorem nd_up {X Y bX bY S v : Nat} (hX : X < 2 ^ bX) (hY : 2 ^ (bY - 1) ≤ Y) (h1 : 1 ≤ bY) (hv : v + bY = bX + 1 + S) : X * 2 ^ S < Y * 2 ^ v := by
  have a1 : X * 2 ^ S < 2 ^ bX * 2 ^ S := Nat.mul_lt_mul_of_pos_right hX (Nat.two_pow_pos S)
  have a2 : 2 ^ (bY - 1) * 2 ^ v ≤ Y * 2 ^ v := Nat.mul_le_mul_right _ hY
  rw [← Nat.pow_add] at a1 a2
  rw [show bY - 1 + v = bX + S by omega] at a2
  omega
theorem nd_lo {X Y bX bY S u : Nat} (hX : 2 ^ (bX - 1) ≤ X) (hY : Y < 2 ^ bY) (h1 : 1 ≤ bX) (hu : u + bY + 1 = bX + S) : Y * 2 ^ u ≤ X * 2 ^ S := by
  have a1 : Y * 2 ^ u < 2 ^ bY * 2 ^ u := Nat.mul_lt_mul_of_pos_right hY (Nat.two_pow_pos u)
  have a2 : 2 ^ (bX - 1) * 2 ^ S ≤ X * 2 ^ S := Nat.mul_le_mul_right _ hX
  rw [← Nat.pow_add] at a1 a2
  rw [show bX - 1 + S = bY + u by omega] at a2
  omega
theorem nd_le {X Y a b S u : Nat} (h : Y * 2 ^ b ≤ X * 2 ^ a) (ha : a ≤ S) (hu : u + a = b + S) : Y * 2 ^ u ≤ X * 2 ^ S := by
  have := Nat.mul_le_mul_right (2 ^ (S - a)) h
  rw [Nat.mul_assoc, Nat.mul_assoc, ← Nat.pow_add, ← Nat.pow_add, show b + (S - a) = u by omega, show a + (S - a) = S by omega] at this
  exact this
theorem nd_lt {X Y a b S u : Nat} (h : X * 2 ^ a < Y * 2 ^ b) (ha : a ≤ S) (hu : u + a = b + S) : X * 2 ^ S < Y * 2 ^ u := by
  have := Nat.mul_lt_mul_of_pos_right h (Nat.two_pow_pos (S - a))
  rw [Nat.mul_assoc, Nat.mul_assoc, ← Nat.pow_add, ← Nat.pow_add, show b + (S - a) = u by omega, show a + (S - a) = S by omega] at this
  exact this

/-- e is the unit of X / Y: 2 ^ e is not above it, 2 ^ (e + 1) is. -/
def Unit2 (X Y : Nat) (e : Int) : Prop := ∃ u v : Nat, ∃ S : Nat, (u : Int) = e + S ∧ (v : Int) = e + 1 + S ∧ Y * 2 ^ u ≤ X * 2 ^ S ∧ X * 2 ^ S < Y * 2 ^ v

theorem unit_ge {X Y bX bY : Nat} (x1 : X < 2 ^ bX) (y0 : 2 ^ (bY - 1) ≤ Y) (h1 : 1 ≤ bY) (lx : bX ≤ 65536) (ly : bY ≤ 65536) (h : Y * 2 ^ ((bX : Int) - bY).toNat ≤ X * 2 ^ (-((bX : Int) - bY)).toNat) : Unit2 X Y ((bX : Int) - bY) := by
  obtain ⟨S, hS⟩ : ∃ S : Nat, S = 70000 := ⟨_, rfl⟩
  refine ⟨bX + S - bY, bX + 1 + S - bY, S, by omega, by omega, nd_le h (by omega) (by omega), nd_up x1 y0 h1 (by omega)⟩
theorem unit_lt {X Y bX bY : Nat} (x0 : 2 ^ (bX - 1) ≤ X) (y1 : Y < 2 ^ bY) (h1 : 1 ≤ bX) (lx : bX ≤ 65536) (ly : bY ≤ 65536) (h : X * 2 ^ (-((bX : Int) - bY)).toNat < Y * 2 ^ ((bX : Int) - bY).toNat) : Unit2 X Y ((bX : Int) - bY - 1) := by
  obtain ⟨S, hS⟩ : ∃ S : Nat, S = 70000 := ⟨_, rfl⟩
  refine ⟨bX + S - bY - 1, bX + S - bY, S, by omega, by omega, nd_lo x0 y1 h1 (by omega), nd_lt h (by omega) (by omega)⟩

/-- What Near tells of a fraction of X and Y. -/
def NdT (n : Bool) (X Y : Nat) (x : Nat) (fine : Bool) : Prop :=
  ∃ s, Mid (X * 2 ^ zP) Y s ∧ ((s = 9218868437227405312 ∧ x = 0 ∧ fine = false) ∨ (s < 9218868437227405312 ∧ fine = true ∧ x = (if n = true ∧ 0 < s then s + 9223372036854775808 else s)))

theorem nd_over {n : Bool} {X Y : Nat} {e : Int} (h : Unit2 X Y e) (he : 1024 ≤ e) : NdT n X Y 0 false := by
  obtain ⟨u, v, S, hu, hv, hl, hh⟩ := h
  exact ⟨_, near_over (F := 2046) rfl rfl hl (by omega), .inl ⟨rfl, rfl, rfl⟩⟩
theorem nd_none {n : Bool} {X Y : Nat} {e : Int} (h : Unit2 X Y e) (he : e < -1080) : NdT n X Y 0 true := by
  obtain ⟨u, v, S, hu, hv, hl, hh⟩ := h
  refine ⟨0, near_none (i := S) (j := v) ?_ (by have : zP = 1074 := rfl; omega), .inr ⟨by decide, rfl, by simp⟩⟩
  omega
/-- The count is rounded. -/
theorem nd_count {X Y N : Nat} {e p : Int} (hY : 0 < Y) (h : Unit2 X Y e) (hp : p = max (e - 52) (-1074)) (ev : Ev (X * 2 ^ (-p).toNat) (Y * 2 ^ p.toNat) N) :
    N ≤ 9007199254740992 ∧ (-1074 < p → 4503599627370496 ≤ N) ∧ Mid (X * 2 ^ zP) Y (min ((p + 1074).toNat * 4503599627370496 + N) 9218868437227405312) := by
  obtain ⟨u, v, S, hu, hv, hl, hh⟩ := h
  exact ln_mid (Z := zP) rfl hY hu hv hl hh hp (by omega) (by omega) ev
theorem nd_small {X Y : Nat} {e p : Int} (h : Unit2 X Y e) (hp : p = max (e - 52) (-1074)) : X * 2 ^ (-p).toNat < 9223372036854775808 * (Y * 2 ^ p.toNat) := by
  obtain ⟨u, v, S, hu, hv, hl, hh⟩ := h
  have := ln_hi (Z := (-p).toNat) (E := p.toNat) (e := e) hv hh (by omega)
  omega
theorem nd_top {n : Bool} {X Y N : Nat} {p : Int} (hp : p = 971) (hN : 9007199254740992 ≤ N) (m : Mid (X * 2 ^ zP) Y (min ((p + 1074).toNat * 4503599627370496 + N) 9218868437227405312)) : NdT n X Y 0 false := by
  subst hp
  rw [show min ((971 + 1074 : Int).toNat * 4503599627370496 + N) 9218868437227405312 = 9218868437227405312 by omega] at m
  exact ⟨_, m, .inl ⟨rfl, rfl, rfl⟩⟩
theorem rung_inj {x y : Nat} (h : rungVal x = rungVal y) : x = y := by
  rcases Nat.lt_trichotomy x y with g | g | g
  · have := rungVal_lt g; omega
  · exact g
  · have := rungVal_lt g; omega
/-- The float that Ldexp tells is the rung. -/
theorem nd_rung {N R : Nat} {p : Int} (p0 : -1074 ≤ p) (h2 : N ≤ 9007199254740992) (h3 : -1074 < p → 4503599627370496 ≤ N) (h1 : 1 ≤ N) (fR : Fi R) (hR : sv R = ((N * 2 ^ (p + 1074).toNat : Nat) : Int)) : R = (p + 1074).toNat * 4503599627370496 + N := by
  have hc := rungVal_count (E := (p + 1074).toNat) (K := N) h2 (fun h => h3 (by omega))
  have hpos : 0 < N * 2 ^ (p + 1074).toNat := Nat.mul_pos h1 (Nat.two_pow_pos _)
  have hlow : R < 9223372036854775808 := by
    rcases Nat.lt_or_ge R 9223372036854775808 with z | z
    · exact z
    · exfalso
      have f := fR.1
      obtain ⟨t, ht⟩ : ∃ t, R = 9223372036854775808 + t := ⟨R - 9223372036854775808, by omega⟩
      rw [ht, sv_high (by omega)] at hR
      omega
  rw [sv_low hlow] at hR
  exact rung_inj ((Int.ofNat.inj hR).trans hc.symm)
theorem nd_fine {n : Bool} {X Y N : Nat} {p : Int} (p0 : -1074 ≤ p) (p1 : p ≤ 971) (h2 : N ≤ 9007199254740992) (hx : N < 9007199254740992 ∨ p < 971) (m : Mid (X * 2 ^ zP) Y (min ((p + 1074).toNat * 4503599627370496 + N) 9218868437227405312)) : (p + 1074).toNat * 4503599627370496 + N < 9218868437227405312 ∧ NdT n X Y (if n = true ∧ 0 < (p + 1074).toNat * 4503599627370496 + N then (p + 1074).toNat * 4503599627370496 + N + 9223372036854775808 else (p + 1074).toNat * 4503599627370496 + N) true := by
  have hlt : (p + 1074).toNat * 4503599627370496 + N < 9218868437227405312 := by
    have : (p + 1074).toNat ≤ 2045 := by omega
    rcases hx with h | h
    · omega
    · have : (p + 1074).toNat ≤ 2044 := by omega
      omega
  rw [Nat.min_eq_left (by omega)] at m
  exact ⟨hlt, _, m, .inr ⟨hlt, rfl, rfl⟩⟩
theorem ev_nought {D N : Nat} (hD : 0 < D) (h : Ev 0 D N) : N = 0 := by
  have h1 := h.down
  rcases Nat.eq_zero_or_pos N with z | z
  · exact z
  · have h2 : 2 * 1 * D ≤ 2 * N * D := Nat.mul_le_mul_right _ (by omega)
    omega

set_option maxHeartbeats 800000 in
set_option maxRecDepth 100000 in
theorem nd_Ldexp0 (p : Int) (w : World) : Calls Tryz.prog 53 #[.float .f64 0, .int .i64 p] w fun x w' => x = .returned (.float .f64 0) ∧ w' = w := by
  have H : Hid (Calls Tryz.prog 94 #[.float .f64 0, .int .i64 p] w fun x w' => x = .returned (.float .f64 0) ∧ w' = w) := by
    show Calls _ _ _ _ _
    have hz : (FloatKind.f64.format.order 0 0 == some .eq) = true := by decide
    go_enter Tryz.func94, Tryz.ntmps94
    go_wp2_with fail
    go_ret
    exact ⟨rfl, rfl⟩
  go_enter Tryz.func53, Tryz.ntmps53
  go_wp2_with fail
  refine Calls.mono H.out ?_
  rintro e w1 ⟨rfl, rfl⟩
  clear H
  go_wp2_with fail
  go_ret
  exact ⟨rfl, rfl⟩
end Go.Proofs.YtabkgpnckaaclaaGreatDoor

/- The document's own floats (slackwaterref06): Near. (tools/mknd4.py) -/
namespace Go.Proofs.YtabkgpnckaaclaaGreatDoor
open Go.RowKit
set_option linter.unusedVariables false

theorem nd_shl {x : Int} {L K M : Nat} (h0 : 0 ≤ x) (h : x < 4294967296 ^ L) (hK : K ≤ 32 * M) : x * 2 ^ K < 4294967296 ^ (L + M) := by
  have h2 : (2 : Int) ^ K ≤ 4294967296 ^ M := by
    have h3 : 2 ^ K ≤ 2 ^ (32 * M) := Nat.pow_le_pow_right (by decide) hK
    rw [Nat.pow_mul] at h3
    have h4 := Int.ofNat_le.2 h3
    rw [Int.natCast_pow, Int.natCast_pow] at h4
    exact h4
  have hp : (0 : Int) < 2 ^ K := Int.pow_pos (by decide)
  rw [Int.pow_add]
  have a1 : x * 2 ^ K < 4294967296 ^ L * 2 ^ K := Int.mul_lt_mul_of_pos_right h hp
  have a2 : (4294967296 : Int) ^ L * 2 ^ K ≤ 4294967296 ^ L * 4294967296 ^ M := Int.mul_le_mul_of_nonneg_left h2 (Int.le_of_lt (pw_pos L))
  omega
theorem nd_den {ds ys : List Int} {Y k : Nat} (wd : Wd ds) (td : Trimmed ds) (vd : val ds = (Y : Int) * 2 ^ k) (hY : val ys = (Y : Int)) (wy : Wd ys) (ly : ys.length ≤ 2048) (hk : k ≤ 1024) : ds.length ≤ 4400 := by
  have h1 := val_lt wy
  have h2 := nd_shl (K := k) (M := 32) (val_nonneg wy) h1 (by omega)
  rw [hY, ← vd] at h2
  have := len_of_lt wd td h2
  omega
theorem nd_zero {x : Nat} (hx : x ≤ 9218868437227405312) : (FloatKind.f64.format.order x 0 == some .eq) = decide (x = 0) := by
  rw [order_pos hx (by decide)]
  by_cases h : x = 0
  · subst h; simp
  · have : compare x 0 = .gt := Nat.compare_eq_gt.2 (by omega)
    rw [this]; simp [h]
theorem nd_nil (w : World) : Sl (w.alloc (.cells #[] 88)).drew (.slice (some ⟨w.heap.size, 0, none⟩) 0 0) [] := by
  have HO : ((w.alloc (.cells #[] 88)).drew).ownsRow w.heap.size 88 1 (.slice (some ⟨w.heap.size, 0, none⟩) 0 0) 0 (([] : List Int).map (Value.int .u32)) := ⟨rfl, .inr ⟨w.heap.size, 0, #[], rfl, Nat.le_refl _, Box.made w _ _, Nat.le_refl _, by unfold maxLen; simp, rfl, rfl⟩⟩
  exact Sl.own HO Wd.nil

set_option maxHeartbeats 6400000 in
set_option maxRecDepth 100000 in
theorem ndNear_go (n : Bool) (a : Option Addr) (ca : Nat) (xs : List Int) (b : Option Addr) (cb : Nat) (ys : List Int) (w : World) (X Y : Nat) (sx : Sl w (.slice a xs.length ca) xs) (sy : Sl w (.slice b ys.length cb) ys) (tx : Trimmed xs) (ty : Trimmed ys) (lx : xs.length ≤ 2048) (ly : ys.length ≤ 2048) (x0 : 0 < xs.length) (y0 : 0 < ys.length) (hX : val xs = X) (hY : val ys = Y) :
    Calls Tryz.prog 43 #[.agg #[.bool n, .slice a xs.length ca, .slice b ys.length cb]] w fun e w' => ∃ x f, e = .returned (.tuple #[.float .f64 x, .bool f]) ∧ NdT n X Y x f ∧ Below w.heap.size w w' := by
  have wx := sx.wd
  have wy := sy.wd
  obtain ⟨bx1, bx2, bx3, bx4, _⟩ := bits_bounds wx (by have : sz xs = xs.length := tx; omega)
  obtain ⟨by1, by2, by3, by4, _⟩ := bits_bounds wy (by have : sz ys = ys.length := ty; omega)
  have sX : sz xs = xs.length := tx
  have sY : sz ys = ys.length := ty
  have x0' : ((xs.length : Int) == 0) = false := beq_eq_false_iff_ne.2 (by omega)
  have hYp : 0 < Y := by
    have := Int.pow_pos (n := 2) (m := bitsOf ys - 1) (by decide)
    omega
  have nx2 : 2 ^ (bitsOf xs - 1) ≤ X := by rw [hX] at bx2; exact_mod_cast bx2
  have nx3 : X < 2 ^ bitsOf xs := by rw [hX] at bx3; exact_mod_cast bx3
  have ny2 : 2 ^ (bitsOf ys - 1) ≤ Y := by rw [hY] at by2; exact_mod_cast by2
  have ny3 : Y < 2 ^ bitsOf ys := by rw [hY] at by3; exact_mod_cast by3
  obtain ⟨P, hP⟩ : ∃ P, w.alloc (.cells #[.bool n, .slice a xs.length ca, .slice b ys.length cb] 25) = P := ⟨_, rfl⟩
  have b1 : Below w.heap.size w P := by rw [← hP]; exact alloc_later _ _
  have HBX : Hid (Box P w.heap.size 25 #[.bool n, .slice a xs.length ca, .slice b ys.length cb]) := by rw [← hP]; exact Box.made w _ _
  have HS : Hid (∀ V, Below P.heap.size P V → Sl V (.slice a xs.length ca) xs ∧ Sl V (.slice b ys.length cb) ys) := fun V hv => ⟨(sx.later b1).later hv, (sy.later b1).later hv⟩
  have HB1 := hid b1
  have HF : Hid (∀ V, Below P.heap.size P V → V.cell? ⟨w.heap.size, 0, none⟩ = some (.bool n) ∧ V.cell? ⟨w.heap.size, 1, none⟩ = some (.slice a xs.length ca) ∧ V.cell? ⟨w.heap.size, 2, none⟩ = some (.slice b ys.length cb)) := fun V hv => by
    have h := HBX.out.later hv HBX.out.lt
    exact ⟨h.cell 0, h.cell 1, h.cell 2⟩
  have HBx : Hid (∀ ww, Below P.heap.size P ww → Calls Tryz.prog 80 #[.slice a xs.length ca] ww fun e w' => e = .returned (.int .i64 (bitsOf xs : Nat)) ∧ (w'.cell? ⟨w.heap.size, 0, none⟩ = some (.bool n) ∧ w'.cell? ⟨w.heap.size, 1, none⟩ = some (.slice a xs.length ca) ∧ w'.cell? ⟨w.heap.size, 2, none⟩ = some (.slice b ys.length cb)) ∧ Below P.heap.size P w') := fun ww hw => by
    refine Calls.mono (refBits_sl _ xs ww (HS.out ww hw).1 (by omega)) ?_
    rintro e w' ⟨rfl, hb⟩
    exact ⟨rfl, HF.out _ (bt hw hb), bt hw hb⟩
  have HBy : Hid (∀ ww, Below P.heap.size P ww → Calls Tryz.prog 80 #[.slice b ys.length cb] ww fun e w' => e = .returned (.int .i64 (bitsOf ys : Nat)) ∧ (w'.cell? ⟨w.heap.size, 0, none⟩ = some (.bool n) ∧ w'.cell? ⟨w.heap.size, 1, none⟩ = some (.slice a xs.length ca) ∧ w'.cell? ⟨w.heap.size, 2, none⟩ = some (.slice b ys.length cb)) ∧ Below P.heap.size P w') := fun ww hw => by
    refine Calls.mono (refBits_sl _ ys ww (HS.out ww hw).2 (by omega)) ?_
    rintro e w' ⟨rfl, hb⟩
    exact ⟨rfl, HF.out _ (bt hw hb), bt hw hb⟩
  have hq := HF.out P (Below.refl _ _)
  obtain ⟨f0, f1, f2⟩ := hq
  have hs0 := HF.out _ (Below.refl _ P).drew
  have hd0 := hid (Below.refl P.heap.size P).drew
  have lbx : bitsOf xs ≤ 65536 := by omega
  have lby : bitsOf ys ≤ 65536 := by omega
  have HW := hid (And.intro wx (And.intro tx (And.intro wy ty)))
  have HNm := hid (And.intro nx2 (And.intro nx3 (And.intro ny2 (And.intro ny3 (And.intro bx1 (And.intro by1 (And.intro hX (And.intro hY hYp))))))))
  clear sx sy bx1 bx2 bx3 bx4 by1 by2 by3 by4 sX sY wx wy tx ty nx2 nx3 ny2 ny3 b1 hX hY hYp
  generalize hBX : bitsOf xs = bX at *
  generalize hBY : bitsOf ys = bY at *
  clear hBX hBY
  go_enter Tryz.func43, Tryz.ntmps43
  go_wp2_with fail
  clear hP
  go_region_held3 (fun V : World => V.cell? ⟨w.heap.size, 0, none⟩ = some (.bool n) ∧ V.cell? ⟨w.heap.size, 1, none⟩ = some (.slice a xs.length ca) ∧ V.cell? ⟨w.heap.size, 2, none⟩ = some (.slice b ys.length cb)) (first | exact hs2 | exact hs1 | exact hs0)
    (first
      | (go_at_call 80; with_reducible refine Calls.mono (HBy.out _ hb1) ?_; rintro e wo ⟨rfl, hs2, hb2⟩)
      | (go_at_call 80; with_reducible refine Calls.mono (HBx.out _ hd0.out) ?_; rintro e wn ⟨rfl, hs1, hb1⟩))
  clear hs0 hs1 hb1 hd0 HBx HBy f0 f1 f2
  obtain ⟨f0, f1, f2⟩ := hs2
  have hw : IntKind.i64.wrap ((bX : Int) - (bY : Int)) = (bX : Int) - bY := by rw [IntKind.wrap_i64]; omega
  rw [hw]
  clear hw
  obtain ⟨nx2, nx3, ny2, ny3, nx1, ny1, hX, hY, hYp⟩ := HNm.out
  have HUa := hid (unit_ge nx3 ny2 ny1 lbx lby)
  have HUb := hid (unit_lt nx2 ny3 nx1 lbx lby)
  clear nx2 nx3 ny2 ny3 nx1 ny1 HNm
  have eb : -65536 ≤ (bX : Int) - bY ∧ (bX : Int) - bY ≤ 65536 := by omega
  generalize (bX : Int) - bY = E at *
  have HE0 := hid (ndScaled_any a ca xs b cb ys E wo (HS.out _ hb2).1 (HS.out _ hb2).2 HW.out.1 HW.out.2.1 HW.out.2.2.1 HW.out.2.2.2 (by omega) (by omega) (by omega) (by omega))
  rw [hX, hY] at HE0
  have HB2 := hid hb2
  have HXY := hid (And.intro hX (And.intro hY hYp))
  clear hb2 hX hY hYp lbx lby
  go_wp2_with fail
  refine Calls.mono HE0.out ?_
  rintro e w3 ⟨a1, c1, a2, c2, zs, ds, rfl, s1, s2, wz, wd, tz, td, vz, vd, lz, ld, hb3⟩
  have HC := hid (refCompare_sl _ _ zs ds w3 s1 s2 (by omega) (by omega))
  rw [vz, vd] at HC
  have HB3 := hid (bt HB2.out hb3)
  clear s1 s2 wz wd tz td vz vd lz ld hb3 HE0 f0 f1 f2 HB2
  obtain ⟨f0, f1, f2⟩ := HF.out _ HB3.out
  by_cases hc : X * 2 ^ (-E).toNat < Y * 2 ^ E.toNat
  · have hci : (X : Int) * 2 ^ (-E).toNat < (Y : Int) * 2 ^ E.toNat := by exact_mod_cast hc
    have U := hid (HUb.out hc)
    rw [cmpI_lt hci] at HC
    clear hc hci HUa HUb
    obtain ⟨F, rfl⟩ : ∃ F, E = F + 1 := ⟨E - 1, by omega⟩
    rw [show F + 1 - 1 = F by omega] at U
    go_wp2_with fail
    refine Calls.mono HC.out ?_
    rintro e w4 ⟨rfl, rfl⟩
    clear HC
    have HBe := hid (bt HB1.out HB3.out)
    by_cases c1 : 1024 ≤ F
    · have q1 : ¬ F - 52 < -1074 := by omega
      have q2 : 971 < F - 52 := by omega
      go_wp2_with fail
      go_ret2
      exact ⟨0, false, rfl, nd_over U.out c1, HBe.out⟩
    by_cases c2 : -1022 ≤ F
    · have q1 : ¬ F - 52 < -1074 := by omega
      have q2 : ¬ 971 < F - 52 := by omega
      have q3 : -1080 ≤ F := by omega
      have hbA : Below P.heap.size P (w3.alloc (.cells #[] 88)).drew := bt HB3.out (alloc_later w3 (.cells #[] 88)).drew
      obtain ⟨A0, A1, A2⟩ := HF.out _ hbA
      have HBA := hid hbA
      clear hbA
      go_wp2_with fail
      go_region
      go_wp2_with fail
      generalize (w3.alloc (.cells #[] 88)).drew = W4 at *
      have hp : Hid (F - 52 = max (F - 52) (-1074)) := by show _ = _; omega
      obtain ⟨hX, hY, hYp⟩ := HXY.out
      have HE1 := hid (ndScaled_any a ca xs b cb ys (F - 52) W4 (HS.out _ HBA.out).1 (HS.out _ HBA.out).2 HW.out.1 HW.out.2.1 HW.out.2.2.1 HW.out.2.2.2 (by omega) (by omega) (by omega) (by omega))
      rw [hX, hY] at HE1
      refine Calls.mono HE1.out ?_
      rintro e w5 ⟨a5, c5, a6, c6, z5, d5, rfl, s1, s2, wz, wd, tz, td, vz, vd, lz, ld, hb5⟩
      have ld5 : d5.length ≤ 4400 := nd_den wd td vd hY HW.out.2.2.1 ly (by omega)
      have HEV := hid (ndEven_any a5 c5 z5 a6 c6 d5 w5 (X * 2 ^ (-(F - 52)).toNat) (Y * 2 ^ (F - 52).toNat) s1 s2 wz tz wd td lz ld5 (by rw [vz, Int.natCast_mul, Int.natCast_pow]; rfl) (by rw [vd, Int.natCast_mul, Int.natCast_pow]; rfl) (Nat.mul_pos hYp (Nat.two_pow_pos _)) (nd_small U.out hp.out))
      have HB5 := hid (bt HBA.out hb5)
      clear HE1 s1 s2 wz wd tz td vz vd lz ld ld5 hb5 hX hY HBA A0 A1 A2 f0 f1 f2
      go_wp2_with fail
      refine Calls.mono HEV.out ?_
      rintro e w6 ⟨N, rfl, ev, hb6⟩
      obtain ⟨n2, n3, mid⟩ := nd_count hYp U.out hp.out ev
      have HM := hid mid
      have HB6 := hid (bt HB5.out hb6)
      obtain ⟨f0, f1, f2⟩ := HF.out _ HB6.out
      have HBe6 := hid (bt HB1.out HB6.out)
      clear HEV ev mid hb6 HB5 hYp
      by_cases t1 : F - 52 = 971 ∧ 9007199254740992 ≤ N
      · have q4 : (F - 52 == 971) = true := beq_iff_eq.2 t1.1
        have q5 : (9007199254740992 : Int) ≤ (N : Int) := by omega
        have HT := hid t1
        clear t1
        go_wp2_with fail
        go_ret2
        exact ⟨0, false, rfl, nd_top HT.out.1 HT.out.2 HM.out, HBe6.out⟩
      have hx : N < 9007199254740992 ∨ F - 52 < 971 := by omega
      by_cases t2 : F - 52 = 971
      · have q4 : (F - 52 == 971) = true := beq_iff_eq.2 t2
        have q5 : decide ((9007199254740992 : Int) ≤ (N : Int)) = false := decide_eq_false (by omega)
        clear t2
        by_cases z : N = 0
        · subst z
          have hz : floatOfInt .f64 0 = 0 := by decide
          have hm1 : (F - 52 : Int) = -1074 := by
            rcases Int.lt_or_le (-1074) (F - 52) with g | g
            · have := n3 g; omega
            · omega
          have HL := hid (nd_Ldexp0 (F - 52) w6)
          have HE : Hid (NdT n X Y 0 true) := by
            have h := (nd_fine (n := n) (p := F - 52) (by omega) (by omega) n2 hx HM.out).2
            rw [hm1] at h
            rw [if_neg (by simp)] at h
            exact h
          have oz : (FloatKind.f64.format.order 0 0 != some .eq) = false := by decide
          clear n3 hm1
          go_wp2_with fail
          try rw [hz]
          refine Calls.mono HL.out ?_
          rintro e w7 ⟨rfl, rfl⟩
          clear HL hz
          cases n
          · go_wp2_with fail
            go_ret2
            exact ⟨0, true, rfl, HE.out, HBe6.out⟩
          · go_wp2_with fail
            go_ret2
            exact ⟨0, true, rfl, HE.out, HBe6.out⟩
        obtain ⟨G, hG⟩ : ∃ G, floatOfInt .f64 (N : Int) = G := ⟨_, rfl⟩
        obtain ⟨g1, g2⟩ := ndfloat_val n2 hG.symm zP rfl
        have HL := hid (lx_Ldexp G N (F - 52) zP rfl w6 g1 g2 (by omega) n2 (by omega) (by omega) (by omega))
        obtain ⟨k1, k2⟩ := nd_fine (n := n) (p := F - 52) (by omega) (by omega) n2 hx HM.out
        have HN2 := hid (And.intro n2 (And.intro n3 (And.intro z (And.intro k1 k2))))
        clear n2 n3 k1 k2 g1 g2 hx z
        go_wp2_with fail
        try rw [hG]
        refine Calls.mono HL.out ?_
        rintro e w7 ⟨R, rfl, fR, hR, rfl⟩
        obtain ⟨n2, n3, z, k1, k2⟩ := HN2.out
        have hRs := nd_rung (p := F - 52) (by omega) n2 n3 (by omega) fR hR
        rw [← hRs] at k1 k2
        have oR : (FloatKind.f64.format.order R 0 != some .eq) = true := by
          have := nd_zero (x := R) (by omega)
          rw [bne, this, decide_eq_false (by omega)]
          rfl
        have HK := hid (And.intro k1 k2)
        have hRp : 0 < R := by omega
        clear HL n2 n3 z k1 k2 hRs fR hR HN2 hG HM
        cases n
        · go_wp2_with fail
          go_ret2
          have h := HK.out.2
          rw [if_neg (by simp)] at h
          exact ⟨R, true, rfl, h, HBe6.out⟩
        · have hn : fneg R = R + 9223372036854775808 := fneg_pos (by have := HK.out.1; omega)
          have h := HK.out.2
          rw [if_pos ⟨rfl, hRp⟩, ← hn] at h
          have HH := hid h
          clear h hn HK
          have hneg : ∀ x, Op.unary .neg (.float .f64 x) = pure (.float .f64 (fneg x)) := fun _ => rfl
          go_wp2_with fail
          go_ret2
          exact ⟨_, true, rfl, HH.out, HBe6.out⟩
      have q4 : (F - 52 == 971) = false := beq_eq_false_iff_ne.2 t2
      by_cases z : N = 0
      · subst z
        have hz : floatOfInt .f64 0 = 0 := by decide
        have hm1 : (F - 52 : Int) = -1074 := by
          rcases Int.lt_or_le (-1074) (F - 52) with g | g
          · have := n3 g; omega
          · omega
        have HL := hid (nd_Ldexp0 (F - 52) w6)
        have HE : Hid (NdT n X Y 0 true) := by
          have h := (nd_fine (n := n) (p := F - 52) (by omega) (by omega) n2 hx HM.out).2
          rw [hm1] at h
          rw [if_neg (by simp)] at h
          exact h
        have oz : (FloatKind.f64.format.order 0 0 != some .eq) = false := by decide
        clear n3 hm1
        go_wp2_with fail
        try rw [hz]
        refine Calls.mono HL.out ?_
        rintro e w7 ⟨rfl, rfl⟩
        clear HL hz
        cases n
        · go_wp2_with fail
          go_ret2
          exact ⟨0, true, rfl, HE.out, HBe6.out⟩
        · go_wp2_with fail
          go_ret2
          exact ⟨0, true, rfl, HE.out, HBe6.out⟩
      obtain ⟨G, hG⟩ : ∃ G, floatOfInt .f64 (N : Int) = G := ⟨_, rfl⟩
      obtain ⟨g1, g2⟩ := ndfloat_val n2 hG.symm zP rfl
      have HL := hid (lx_Ldexp G N (F - 52) zP rfl w6 g1 g2 (by omega) n2 (by omega) (by omega) (by omega))
      obtain ⟨k1, k2⟩ := nd_fine (n := n) (p := F - 52) (by omega) (by omega) n2 hx HM.out
      have HN2 := hid (And.intro n2 (And.intro n3 (And.intro z (And.intro k1 k2))))
      clear n2 n3 k1 k2 g1 g2 hx z
      go_wp2_with fail
      try rw [hG]
      refine Calls.mono HL.out ?_
      rintro e w7 ⟨R, rfl, fR, hR, rfl⟩
      obtain ⟨n2, n3, z, k1, k2⟩ := HN2.out
      have hRs := nd_rung (p := F - 52) (by omega) n2 n3 (by omega) fR hR
      rw [← hRs] at k1 k2
      have oR : (FloatKind.f64.format.order R 0 != some .eq) = true := by
        have := nd_zero (x := R) (by omega)
        rw [bne, this, decide_eq_false (by omega)]
        rfl
      have HK := hid (And.intro k1 k2)
      have hRp : 0 < R := by omega
      clear HL n2 n3 z k1 k2 hRs fR hR HN2 hG HM
      cases n
      · go_wp2_with fail
        go_ret2
        have h := HK.out.2
        rw [if_neg (by simp)] at h
        exact ⟨R, true, rfl, h, HBe6.out⟩
      · have hn : fneg R = R + 9223372036854775808 := fneg_pos (by have := HK.out.1; omega)
        have h := HK.out.2
        rw [if_pos ⟨rfl, hRp⟩, ← hn] at h
        have HH := hid h
        clear h hn HK
        have hneg : ∀ x, Op.unary .neg (.float .f64 x) = pure (.float .f64 (fneg x)) := fun _ => rfl
        go_wp2_with fail
        go_ret2
        exact ⟨_, true, rfl, HH.out, HBe6.out⟩
    by_cases c3 : -1080 ≤ F
    · have q1 : F - 52 < -1074 := by omega
      have q3 : -1080 ≤ F := by omega
      have hbA : Below P.heap.size P (w3.alloc (.cells #[] 88)).drew := bt HB3.out (alloc_later w3 (.cells #[] 88)).drew
      obtain ⟨A0, A1, A2⟩ := HF.out _ hbA
      have HBA := hid hbA
      clear hbA
      go_wp2_with fail
      go_region
      go_wp2_with fail
      generalize (w3.alloc (.cells #[] 88)).drew = W4 at *
      have hp : Hid (-1074 = max (F - 52) (-1074)) := by show _ = _; omega
      obtain ⟨hX, hY, hYp⟩ := HXY.out
      have HE1 := hid (ndScaled_any a ca xs b cb ys (-1074) W4 (HS.out _ HBA.out).1 (HS.out _ HBA.out).2 HW.out.1 HW.out.2.1 HW.out.2.2.1 HW.out.2.2.2 (by omega) (by omega) (by omega) (by omega))
      rw [hX, hY] at HE1
      refine Calls.mono HE1.out ?_
      rintro e w5 ⟨a5, c5, a6, c6, z5, d5, rfl, s1, s2, wz, wd, tz, td, vz, vd, lz, ld, hb5⟩
      have ld5 : d5.length ≤ 4400 := nd_den wd td vd hY HW.out.2.2.1 ly (by omega)
      have HEV := hid (ndEven_any a5 c5 z5 a6 c6 d5 w5 (X * 2 ^ (-(-1074)).toNat) (Y * 2 ^ (-1074).toNat) s1 s2 wz tz wd td lz ld5 (by rw [vz, Int.natCast_mul, Int.natCast_pow]; rfl) (by rw [vd, Int.natCast_mul, Int.natCast_pow]; rfl) (Nat.mul_pos hYp (Nat.two_pow_pos _)) (nd_small U.out hp.out))
      have HB5 := hid (bt HBA.out hb5)
      clear HE1 s1 s2 wz wd tz td vz vd lz ld ld5 hb5 hX hY HBA A0 A1 A2 f0 f1 f2
      go_wp2_with fail
      refine Calls.mono HEV.out ?_
      rintro e w6 ⟨N, rfl, ev, hb6⟩
      obtain ⟨n2, n3, mid⟩ := nd_count hYp U.out hp.out ev
      have HM := hid mid
      have HB6 := hid (bt HB5.out hb6)
      obtain ⟨f0, f1, f2⟩ := HF.out _ HB6.out
      have HBe6 := hid (bt HB1.out HB6.out)
      clear HEV ev mid hb6 HB5 hYp
      have hx : N < 9007199254740992 ∨ (-1074 : Int) < 971 := by omega
      by_cases z : N = 0
      · subst z
        have hz : floatOfInt .f64 0 = 0 := by decide
        have hm1 : (-1074 : Int) = -1074 := by
          rcases Int.lt_or_le (-1074) (-1074) with g | g
          · have := n3 g; omega
          · omega
        have HL := hid (nd_Ldexp0 (-1074) w6)
        have HE : Hid (NdT n X Y 0 true) := by
          have h := (nd_fine (n := n) (p := -1074) (by omega) (by omega) n2 hx HM.out).2
          rw [hm1] at h
          rw [if_neg (by simp)] at h
          exact h
        have oz : (FloatKind.f64.format.order 0 0 != some .eq) = false := by decide
        clear n3 hm1
        go_wp2_with fail
        try rw [hz]
        refine Calls.mono HL.out ?_
        rintro e w7 ⟨rfl, rfl⟩
        clear HL hz
        cases n
        · go_wp2_with fail
          go_ret2
          exact ⟨0, true, rfl, HE.out, HBe6.out⟩
        · go_wp2_with fail
          go_ret2
          exact ⟨0, true, rfl, HE.out, HBe6.out⟩
      obtain ⟨G, hG⟩ : ∃ G, floatOfInt .f64 (N : Int) = G := ⟨_, rfl⟩
      obtain ⟨g1, g2⟩ := ndfloat_val n2 hG.symm zP rfl
      have HL := hid (lx_Ldexp G N (-1074) zP rfl w6 g1 g2 (by omega) n2 (by omega) (by omega) (by omega))
      obtain ⟨k1, k2⟩ := nd_fine (n := n) (p := -1074) (by omega) (by omega) n2 hx HM.out
      have HN2 := hid (And.intro n2 (And.intro n3 (And.intro z (And.intro k1 k2))))
      clear n2 n3 k1 k2 g1 g2 hx z
      go_wp2_with fail
      try rw [hG]
      refine Calls.mono HL.out ?_
      rintro e w7 ⟨R, rfl, fR, hR, rfl⟩
      obtain ⟨n2, n3, z, k1, k2⟩ := HN2.out
      have hRs := nd_rung (p := -1074) (by omega) n2 n3 (by omega) fR hR
      rw [← hRs] at k1 k2
      have oR : (FloatKind.f64.format.order R 0 != some .eq) = true := by
        have := nd_zero (x := R) (by omega)
        rw [bne, this, decide_eq_false (by omega)]
        rfl
      have HK := hid (And.intro k1 k2)
      have hRp : 0 < R := by omega
      clear HL n2 n3 z k1 k2 hRs fR hR HN2 hG HM
      cases n
      · go_wp2_with fail
        go_ret2
        have h := HK.out.2
        rw [if_neg (by simp)] at h
        exact ⟨R, true, rfl, h, HBe6.out⟩
      · have hn : fneg R = R + 9223372036854775808 := fneg_pos (by have := HK.out.1; omega)
        have h := HK.out.2
        rw [if_pos ⟨rfl, hRp⟩, ← hn] at h
        have HH := hid h
        clear h hn HK
        have hneg : ∀ x, Op.unary .neg (.float .f64 x) = pure (.float .f64 (fneg x)) := fun _ => rfl
        go_wp2_with fail
        go_ret2
        exact ⟨_, true, rfl, HH.out, HBe6.out⟩
    have q1 : F - 52 < -1074 := by omega
    have q3 : ¬ -1080 ≤ F := by omega
    have hbA : Below P.heap.size P (w3.alloc (.cells #[] 88)).drew := bt HB3.out (alloc_later w3 (.cells #[] 88)).drew
    obtain ⟨A0, A1, A2⟩ := HF.out _ hbA
    have HBA := hid hbA
    clear hbA
    go_wp2_with fail
    go_region
    go_wp2_with fail
    have hbW : Below w3.heap.size w3 (w3.alloc (.cells #[] 88)).drew := (alloc_later w3 (.cells #[] 88)).drew
    have HNil : Hid (Sl (w3.alloc (.cells #[] 88)).drew (.slice (some ⟨w3.heap.size, 0, none⟩) 0 0) []) := nd_nil w3
    generalize (w3.alloc (.cells #[] 88)).drew = W4 at *
    obtain ⟨hX, hY, hYp⟩ := HXY.out
    have HEV := hid (ndEven_any (some ⟨w3.heap.size, 0, none⟩) 0 [] b cb ys W4 0 Y HNil.out (HS.out _ HBA.out).2 Wd.nil Trimmed.nil HW.out.2.2.1 HW.out.2.2.2 (by simp) (by omega) rfl hY hYp (by omega))
    have HYp := hid hYp
    clear hX hY hYp A0 A1 A2 f0 f1 f2 HNil hbW
    refine Calls.mono HEV.out ?_
    rintro e w6 ⟨N, rfl, ev, hb6⟩
    have hN := ev_nought HYp.out ev
    subst hN
    have HB6 := hid (bt HBA.out hb6)
    obtain ⟨f0, f1, f2⟩ := HF.out _ HB6.out
    have HBe6 := hid (bt HB1.out HB6.out)
    have hz : floatOfInt .f64 0 = 0 := by decide
    have HL := hid (nd_Ldexp0 (-1074) w6)
    have HE : Hid (NdT n X Y 0 true) := nd_none U.out (by omega)
    have oz : (FloatKind.f64.format.order 0 0 != some .eq) = false := by decide
    clear HEV ev hb6
    go_wp2_with fail
    try rw [hz]
    refine Calls.mono HL.out ?_
    rintro e w7 ⟨rfl, rfl⟩
    clear HL hz
    cases n
    · go_wp2_with fail
      go_ret2
      exact ⟨0, true, rfl, HE.out, HBe6.out⟩
    · go_wp2_with fail
      go_ret2
      exact ⟨0, true, rfl, HE.out, HBe6.out⟩
  · have hci : (Y : Int) * 2 ^ E.toNat ≤ (X : Int) * 2 ^ (-E).toNat := by exact_mod_cast Nat.le_of_not_lt hc
    have U := hid (HUa.out (Nat.le_of_not_lt hc))
    have hge : ¬ cmpI ((X : Int) * 2 ^ (-E).toNat) ((Y : Int) * 2 ^ E.toNat) < 0 := by
      unfold cmpI
      rw [if_neg (by omega)]
      split <;> omega
    generalize cmpI ((X : Int) * 2 ^ (-E).toNat) ((Y : Int) * 2 ^ E.toNat) = C at *
    clear hc hci HUa HUb
    obtain ⟨F, hF⟩ : ∃ F, F = E := ⟨E, rfl⟩
    subst hF
    go_wp2_with fail
    refine Calls.mono HC.out ?_
    rintro e w4 ⟨rfl, rfl⟩
    clear HC
    have HBe := hid (bt HB1.out HB3.out)
    by_cases c1 : 1024 ≤ F
    · have q1 : ¬ F - 52 < -1074 := by omega
      have q2 : 971 < F - 52 := by omega
      go_wp2_with fail
      go_ret2
      exact ⟨0, false, rfl, nd_over U.out c1, HBe.out⟩
    by_cases c2 : -1022 ≤ F
    · have q1 : ¬ F - 52 < -1074 := by omega
      have q2 : ¬ 971 < F - 52 := by omega
      have q3 : -1080 ≤ F := by omega
      have hbA : Below P.heap.size P (w3.alloc (.cells #[] 88)).drew := bt HB3.out (alloc_later w3 (.cells #[] 88)).drew
      obtain ⟨A0, A1, A2⟩ := HF.out _ hbA
      have HBA := hid hbA
      clear hbA
      go_wp2_with fail
      go_region
      go_wp2_with fail
      generalize (w3.alloc (.cells #[] 88)).drew = W4 at *
      have hp : Hid (F - 52 = max (F - 52) (-1074)) := by show _ = _; omega
      obtain ⟨hX, hY, hYp⟩ := HXY.out
      have HE1 := hid (ndScaled_any a ca xs b cb ys (F - 52) W4 (HS.out _ HBA.out).1 (HS.out _ HBA.out).2 HW.out.1 HW.out.2.1 HW.out.2.2.1 HW.out.2.2.2 (by omega) (by omega) (by omega) (by omega))
      rw [hX, hY] at HE1
      refine Calls.mono HE1.out ?_
      rintro e w5 ⟨a5, c5, a6, c6, z5, d5, rfl, s1, s2, wz, wd, tz, td, vz, vd, lz, ld, hb5⟩
      have ld5 : d5.length ≤ 4400 := nd_den wd td vd hY HW.out.2.2.1 ly (by omega)
      have HEV := hid (ndEven_any a5 c5 z5 a6 c6 d5 w5 (X * 2 ^ (-(F - 52)).toNat) (Y * 2 ^ (F - 52).toNat) s1 s2 wz tz wd td lz ld5 (by rw [vz, Int.natCast_mul, Int.natCast_pow]; rfl) (by rw [vd, Int.natCast_mul, Int.natCast_pow]; rfl) (Nat.mul_pos hYp (Nat.two_pow_pos _)) (nd_small U.out hp.out))
      have HB5 := hid (bt HBA.out hb5)
      clear HE1 s1 s2 wz wd tz td vz vd lz ld ld5 hb5 hX hY HBA A0 A1 A2 f0 f1 f2
      go_wp2_with fail
      refine Calls.mono HEV.out ?_
      rintro e w6 ⟨N, rfl, ev, hb6⟩
      obtain ⟨n2, n3, mid⟩ := nd_count hYp U.out hp.out ev
      have HM := hid mid
      have HB6 := hid (bt HB5.out hb6)
      obtain ⟨f0, f1, f2⟩ := HF.out _ HB6.out
      have HBe6 := hid (bt HB1.out HB6.out)
      clear HEV ev mid hb6 HB5 hYp
      by_cases t1 : F - 52 = 971 ∧ 9007199254740992 ≤ N
      · have q4 : (F - 52 == 971) = true := beq_iff_eq.2 t1.1
        have q5 : (9007199254740992 : Int) ≤ (N : Int) := by omega
        have HT := hid t1
        clear t1
        go_wp2_with fail
        go_ret2
        exact ⟨0, false, rfl, nd_top HT.out.1 HT.out.2 HM.out, HBe6.out⟩
      have hx : N < 9007199254740992 ∨ F - 52 < 971 := by omega
      by_cases t2 : F - 52 = 971
      · have q4 : (F - 52 == 971) = true := beq_iff_eq.2 t2
        have q5 : decide ((9007199254740992 : Int) ≤ (N : Int)) = false := decide_eq_false (by omega)
        clear t2
        by_cases z : N = 0
        · subst z
          have hz : floatOfInt .f64 0 = 0 := by decide
          have hm1 : (F - 52 : Int) = -1074 := by
            rcases Int.lt_or_le (-1074) (F - 52) with g | g
            · have := n3 g; omega
            · omega
          have HL := hid (nd_Ldexp0 (F - 52) w6)
          have HE : Hid (NdT n X Y 0 true) := by
            have h := (nd_fine (n := n) (p := F - 52) (by omega) (by omega) n2 hx HM.out).2
            rw [hm1] at h
            rw [if_neg (by simp)] at h
            exact h
          have oz : (FloatKind.f64.format.order 0 0 != some .eq) = false := by decide
          clear n3 hm1
          go_wp2_with fail
          try rw [hz]
          refine Calls.mono HL.out ?_
          rintro e w7 ⟨rfl, rfl⟩
          clear HL hz
          cases n
          · go_wp2_with fail
            go_ret2
            exact ⟨0, true, rfl, HE.out, HBe6.out⟩
          · go_wp2_with fail
            go_ret2
            exact ⟨0, true, rfl, HE.out, HBe6.out⟩
        obtain ⟨G, hG⟩ : ∃ G, floatOfInt .f64 (N : Int) = G := ⟨_, rfl⟩
        obtain ⟨g1, g2⟩ := ndfloat_val n2 hG.symm zP rfl
        have HL := hid (lx_Ldexp G N (F - 52) zP rfl w6 g1 g2 (by omega) n2 (by omega) (by omega) (by omega))
        obtain ⟨k1, k2⟩ := nd_fine (n := n) (p := F - 52) (by omega) (by omega) n2 hx HM.out
        have HN2 := hid (And.intro n2 (And.intro n3 (And.intro z (And.intro k1 k2))))
        clear n2 n3 k1 k2 g1 g2 hx z
        go_wp2_with fail
        try rw [hG]
        refine Calls.mono HL.out ?_
        rintro e w7 ⟨R, rfl, fR, hR, rfl⟩
        obtain ⟨n2, n3, z, k1, k2⟩ := HN2.out
        have hRs := nd_rung (p := F - 52) (by omega) n2 n3 (by omega) fR hR
        rw [← hRs] at k1 k2
        have oR : (FloatKind.f64.format.order R 0 != some .eq) = true := by
          have := nd_zero (x := R) (by omega)
          rw [bne, this, decide_eq_false (by omega)]
          rfl
        have HK := hid (And.intro k1 k2)
        have hRp : 0 < R := by omega
        clear HL n2 n3 z k1 k2 hRs fR hR HN2 hG HM
        cases n
        · go_wp2_with fail
          go_ret2
          have h := HK.out.2
          rw [if_neg (by simp)] at h
          exact ⟨R, true, rfl, h, HBe6.out⟩
        · have hn : fneg R = R + 9223372036854775808 := fneg_pos (by have := HK.out.1; omega)
          have h := HK.out.2
          rw [if_pos ⟨rfl, hRp⟩, ← hn] at h
          have HH := hid h
          clear h hn HK
          have hneg : ∀ x, Op.unary .neg (.float .f64 x) = pure (.float .f64 (fneg x)) := fun _ => rfl
          go_wp2_with fail
          go_ret2
          exact ⟨_, true, rfl, HH.out, HBe6.out⟩
      have q4 : (F - 52 == 971) = false := beq_eq_false_iff_ne.2 t2
      by_cases z : N = 0
      · subst z
        have hz : floatOfInt .f64 0 = 0 := by decide
        have hm1 : (F - 52 : Int) = -1074 := by
          rcases Int.lt_or_le (-1074) (F - 52) with g | g
          · have := n3 g; omega
          · omega
        have HL := hid (nd_Ldexp0 (F - 52) w6)
        have HE : Hid (NdT n X Y 0 true) := by
          have h := (nd_fine (n := n) (p := F - 52) (by omega) (by omega) n2 hx HM.out).2
          rw [hm1] at h
          rw [if_neg (by simp)] at h
          exact h
        have oz : (FloatKind.f64.format.order 0 0 != some .eq) = false := by decide
        clear n3 hm1
        go_wp2_with fail
        try rw [hz]
        refine Calls.mono HL.out ?_
        rintro e w7 ⟨rfl, rfl⟩
        clear HL hz
        cases n
        · go_wp2_with fail
          go_ret2
          exact ⟨0, true, rfl, HE.out, HBe6.out⟩
        · go_wp2_with fail
          go_ret2
          exact ⟨0, true, rfl, HE.out, HBe6.out⟩
      obtain ⟨G, hG⟩ : ∃ G, floatOfInt .f64 (N : Int) = G := ⟨_, rfl⟩
      obtain ⟨g1, g2⟩ := ndfloat_val n2 hG.symm zP rfl
      have HL := hid (lx_Ldexp G N (F - 52) zP rfl w6 g1 g2 (by omega) n2 (by omega) (by omega) (by omega))
      obtain ⟨k1, k2⟩ := nd_fine (n := n) (p := F - 52) (by omega) (by omega) n2 hx HM.out
      have HN2 := hid (And.intro n2 (And.intro n3 (And.intro z (And.intro k1 k2))))
      clear n2 n3 k1 k2 g1 g2 hx z
      go_wp2_with fail
      try rw [hG]
      refine Calls.mono HL.out ?_
      rintro e w7 ⟨R, rfl, fR, hR, rfl⟩
      obtain ⟨n2, n3, z, k1, k2⟩ := HN2.out
      have hRs := nd_rung (p := F - 52) (by omega) n2 n3 (by omega) fR hR
      rw [← hRs] at k1 k2
      have oR : (FloatKind.f64.format.order R 0 != some .eq) = true := by
        have := nd_zero (x := R) (by omega)
        rw [bne, this, decide_eq_false (by omega)]
        rfl
      have HK := hid (And.intro k1 k2)
      have hRp : 0 < R := by omega
      clear HL n2 n3 z k1 k2 hRs fR hR HN2 hG HM
      cases n
      · go_wp2_with fail
        go_ret2
        have h := HK.out.2
        rw [if_neg (by simp)] at h
        exact ⟨R, true, rfl, h, HBe6.out⟩
      · have hn : fneg R = R + 9223372036854775808 := fneg_pos (by have := HK.out.1; omega)
        have h := HK.out.2
        rw [if_pos ⟨rfl, hRp⟩, ← hn] at h
        have HH := hid h
        clear h hn HK
        have hneg : ∀ x, Op.unary .neg (.float .f64 x) = pure (.float .f64 (fneg x)) := fun _ => rfl
        go_wp2_with fail
        go_ret2
        exact ⟨_, true, rfl, HH.out, HBe6.out⟩
    by_cases c3 : -1080 ≤ F
    · have q1 : F - 52 < -1074 := by omega
      have q3 : -1080 ≤ F := by omega
      have hbA : Below P.heap.size P (w3.alloc (.cells #[] 88)).drew := bt HB3.out (alloc_later w3 (.cells #[] 88)).drew
      obtain ⟨A0, A1, A2⟩ := HF.out _ hbA
      have HBA := hid hbA
      clear hbA
      go_wp2_with fail
      go_region
      go_wp2_with fail
      generalize (w3.alloc (.cells #[] 88)).drew = W4 at *
      have hp : Hid (-1074 = max (F - 52) (-1074)) := by show _ = _; omega
      obtain ⟨hX, hY, hYp⟩ := HXY.out
      have HE1 := hid (ndScaled_any a ca xs b cb ys (-1074) W4 (HS.out _ HBA.out).1 (HS.out _ HBA.out).2 HW.out.1 HW.out.2.1 HW.out.2.2.1 HW.out.2.2.2 (by omega) (by omega) (by omega) (by omega))
      rw [hX, hY] at HE1
      refine Calls.mono HE1.out ?_
      rintro e w5 ⟨a5, c5, a6, c6, z5, d5, rfl, s1, s2, wz, wd, tz, td, vz, vd, lz, ld, hb5⟩
      have ld5 : d5.length ≤ 4400 := nd_den wd td vd hY HW.out.2.2.1 ly (by omega)
      have HEV := hid (ndEven_any a5 c5 z5 a6 c6 d5 w5 (X * 2 ^ (-(-1074)).toNat) (Y * 2 ^ (-1074).toNat) s1 s2 wz tz wd td lz ld5 (by rw [vz, Int.natCast_mul, Int.natCast_pow]; rfl) (by rw [vd, Int.natCast_mul, Int.natCast_pow]; rfl) (Nat.mul_pos hYp (Nat.two_pow_pos _)) (nd_small U.out hp.out))
      have HB5 := hid (bt HBA.out hb5)
      clear HE1 s1 s2 wz wd tz td vz vd lz ld ld5 hb5 hX hY HBA A0 A1 A2 f0 f1 f2
      go_wp2_with fail
      refine Calls.mono HEV.out ?_
      rintro e w6 ⟨N, rfl, ev, hb6⟩
      obtain ⟨n2, n3, mid⟩ := nd_count hYp U.out hp.out ev
      have HM := hid mid
      have HB6 := hid (bt HB5.out hb6)
      obtain ⟨f0, f1, f2⟩ := HF.out _ HB6.out
      have HBe6 := hid (bt HB1.out HB6.out)
      clear HEV ev mid hb6 HB5 hYp
      have hx : N < 9007199254740992 ∨ (-1074 : Int) < 971 := by omega
      by_cases z : N = 0
      · subst z
        have hz : floatOfInt .f64 0 = 0 := by decide
        have hm1 : (-1074 : Int) = -1074 := by
          rcases Int.lt_or_le (-1074) (-1074) with g | g
          · have := n3 g; omega
          · omega
        have HL := hid (nd_Ldexp0 (-1074) w6)
        have HE : Hid (NdT n X Y 0 true) := by
          have h := (nd_fine (n := n) (p := -1074) (by omega) (by omega) n2 hx HM.out).2
          rw [hm1] at h
          rw [if_neg (by simp)] at h
          exact h
        have oz : (FloatKind.f64.format.order 0 0 != some .eq) = false := by decide
        clear n3 hm1
        go_wp2_with fail
        try rw [hz]
        refine Calls.mono HL.out ?_
        rintro e w7 ⟨rfl, rfl⟩
        clear HL hz
        cases n
        · go_wp2_with fail
          go_ret2
          exact ⟨0, true, rfl, HE.out, HBe6.out⟩
        · go_wp2_with fail
          go_ret2
          exact ⟨0, true, rfl, HE.out, HBe6.out⟩
      obtain ⟨G, hG⟩ : ∃ G, floatOfInt .f64 (N : Int) = G := ⟨_, rfl⟩
      obtain ⟨g1, g2⟩ := ndfloat_val n2 hG.symm zP rfl
      have HL := hid (lx_Ldexp G N (-1074) zP rfl w6 g1 g2 (by omega) n2 (by omega) (by omega) (by omega))
      obtain ⟨k1, k2⟩ := nd_fine (n := n) (p := -1074) (by omega) (by omega) n2 hx HM.out
      have HN2 := hid (And.intro n2 (And.intro n3 (And.intro z (And.intro k1 k2))))
      clear n2 n3 k1 k2 g1 g2 hx z
      go_wp2_with fail
      try rw [hG]
      refine Calls.mono HL.out ?_
      rintro e w7 ⟨R, rfl, fR, hR, rfl⟩
      obtain ⟨n2, n3, z, k1, k2⟩ := HN2.out
      have hRs := nd_rung (p := -1074) (by omega) n2 n3 (by omega) fR hR
      rw [← hRs] at k1 k2
      have oR : (FloatKind.f64.format.order R 0 != some .eq) = true := by
        have := nd_zero (x := R) (by omega)
        rw [bne, this, decide_eq_false (by omega)]
        rfl
      have HK := hid (And.intro k1 k2)
      have hRp : 0 < R := by omega
      clear HL n2 n3 z k1 k2 hRs fR hR HN2 hG HM
      cases n
      · go_wp2_with fail
        go_ret2
        have h := HK.out.2
        rw [if_neg (by simp)] at h
        exact ⟨R, true, rfl, h, HBe6.out⟩
      · have hn : fneg R = R + 9223372036854775808 := fneg_pos (by have := HK.out.1; omega)
        have h := HK.out.2
        rw [if_pos ⟨rfl, hRp⟩, ← hn] at h
        have HH := hid h
        clear h hn HK
        have hneg : ∀ x, Op.unary .neg (.float .f64 x) = pure (.float .f64 (fneg x)) := fun _ => rfl
        go_wp2_with fail
        go_ret2
        exact ⟨_, true, rfl, HH.out, HBe6.out⟩
    have q1 : F - 52 < -1074 := by omega
    have q3 : ¬ -1080 ≤ F := by omega
    have hbA : Below P.heap.size P (w3.alloc (.cells #[] 88)).drew := bt HB3.out (alloc_later w3 (.cells #[] 88)).drew
    obtain ⟨A0, A1, A2⟩ := HF.out _ hbA
    have HBA := hid hbA
    clear hbA
    go_wp2_with fail
    go_region
    go_wp2_with fail
    have hbW : Below w3.heap.size w3 (w3.alloc (.cells #[] 88)).drew := (alloc_later w3 (.cells #[] 88)).drew
    have HNil : Hid (Sl (w3.alloc (.cells #[] 88)).drew (.slice (some ⟨w3.heap.size, 0, none⟩) 0 0) []) := nd_nil w3
    generalize (w3.alloc (.cells #[] 88)).drew = W4 at *
    obtain ⟨hX, hY, hYp⟩ := HXY.out
    have HEV := hid (ndEven_any (some ⟨w3.heap.size, 0, none⟩) 0 [] b cb ys W4 0 Y HNil.out (HS.out _ HBA.out).2 Wd.nil Trimmed.nil HW.out.2.2.1 HW.out.2.2.2 (by simp) (by omega) rfl hY hYp (by omega))
    have HYp := hid hYp
    clear hX hY hYp A0 A1 A2 f0 f1 f2 HNil hbW
    refine Calls.mono HEV.out ?_
    rintro e w6 ⟨N, rfl, ev, hb6⟩
    have hN := ev_nought HYp.out ev
    subst hN
    have HB6 := hid (bt HBA.out hb6)
    obtain ⟨f0, f1, f2⟩ := HF.out _ HB6.out
    have HBe6 := hid (bt HB1.out HB6.out)
    have hz : floatOfInt .f64 0 = 0 := by decide
    have HL := hid (nd_Ldexp0 (-1074) w6)
    have HE : Hid (NdT n X Y 0 true) := nd_none U.out (by omega)
    have oz : (FloatKind.f64.format.order 0 0 != some .eq) = false := by decide
    clear HEV ev hb6
    go_wp2_with fail
    try rw [hz]
    refine Calls.mono HL.out ?_
    rintro e w7 ⟨rfl, rfl⟩
    clear HL hz
    cases n
    · go_wp2_with fail
      go_ret2
      exact ⟨0, true, rfl, HE.out, HBe6.out⟩
    · go_wp2_with fail
      go_ret2
      exact ⟨0, true, rfl, HE.out, HBe6.out⟩
end Go.Proofs.YtabkgpnckaaclaaGreatDoor

/- Fractions: ratio.Small. -/
namespace Go.Proofs.YtabkgpnckaaclaaGreatDoor
open Go.RowKit
set_option linter.unusedVariables false

end Go.Proofs.YtabkgpnckaaclaaGreatDoor

/- The laws' small; no float between a float and the next; real.Compare and real.Within of a float and the fraction that it is. -/
namespace Go.Proofs.YtabkgpnckaaclaaGreatDoor
open Go.RowKit
set_option linter.unusedVariables false

/-- A fraction told alone. -/
def RVal6 (w : World) (e : Int) (q : Rat) (x : Ending) (w' : World) : Prop :=
  ∃ n v xs u ys code, x = .returned (.agg #[.bool n, v, u]) ∧ w'.ownsRow w.heap.size 88 1 v xs.length (xs.map (Value.int .u32)) ∧ w'.ownsRow w.heap.size 88 1 u ys.length (ys.map (Value.int .u32)) ∧ RTells e q n xs ys code ∧ Below w.heap.size w w'
theorem RVal6.put {w U w3 : World} {e : Int} {q : Rat} {k : Bool} {v u : Value} {zs ds : List Int} {code : Int} (h : w3.ownsRow U.heap.size 88 1 v zs.length (zs.map (Value.int .u32)) ∧ w3.ownsRow U.heap.size 88 1 u ds.length (ds.map (Value.int .u32)) ∧ RTells e q k zs ds code) (b : Nat) (hb : b < U.heap.size) (hw : w.heap.size ≤ b) (hbw : Below w.heap.size w w3) (x y z : Value) :
    RVal6 w e q (.returned (.agg #[.bool k, v, u])) (((w3.setCell ⟨b, 0, none⟩ x).setCell ⟨b, 1, none⟩ y).setCell ⟨b, 2, none⟩ z) :=
  ⟨k, v, zs, u, ds, code, rfl, owns_base (own_put3 h.1 b (fun g hg => by have := (World.ownsRow.lt h.1 g hg).1; omega) _ _ _) (by omega), owns_base (own_put3 h.2.1 b (fun g hg => by have := (World.ownsRow.lt h.2.1 g hg).1; omega) _ _ _) (by omega), h.2.2, below_put3 hbw b hw _ _ _⟩
end Go.Proofs.YtabkgpnckaaclaaGreatDoor

/- real.Within of a float, the fraction that it is, and nothing for the bound. -/
namespace Go.Proofs.YtabkgpnckaaclaaGreatDoor
open Go.RowKit
set_option linter.unusedVariables false

/-- Three cells of a box written: its own, another box, rows, what was there. -/
theorem put3_box {W : World} {b t : Nat} {u0 u1 u2 : Value} (h : Box W b t #[u0, u1, u2]) (v0 v1 v2 : Value) : Box (((W.setCell ⟨b, 0, none⟩ v0).setCell ⟨b, 1, none⟩ v1).setCell ⟨b, 2, none⟩ v2) b t #[v0, v1, v2] := ((h.set 0 v0).set 1 v1).set 2 v2
theorem put3_row {W : World} {base n b t : Nat} {v : Value} {xs : List Value} {vs : Array Value} (h : W.ownsRow base 88 1 v n xs) (hb : Box W b t vs) (hne : 88 ≠ t) (v0 v1 v2 : Value) : (((W.setCell ⟨b, 0, none⟩ v0).setCell ⟨b, 1, none⟩ v1).setCell ⟨b, 2, none⟩ v2).ownsRow base 88 1 v n xs := own_put3 h b (fun g hg => own_ne_box h hb hne g hg) v0 v1 v2

end Go.Proofs.YtabkgpnckaaclaaGreatDoor

/- The document's own floats (slackwaterref06): exact, Exact. (tools/mknd5.py) -/
namespace Go.Proofs.YtabkgpnckaaclaaGreatDoor
open Go.RowKit
set_option linter.unusedVariables false

set_option maxHeartbeats 800000 in
set_option maxRecDepth 100000 in
theorem ndexact_least (x : Nat) (w : World) (hx : x < 18446744073709551616) (hz : x / 4503599627370496 % 2048 = 0) :
    Calls Tryz.prog 39 #[.float .f64 x] w fun e w' => ∃ n a ca b cb zs ds code, e = .returned (.agg #[.bool n, .slice a (List.length zs) ca, .slice b (List.length ds) cb]) ∧ w'.ownsRow w.heap.size 88 1 (.slice a zs.length ca) zs.length (zs.map (Value.int .u32)) ∧ w'.ownsRow w.heap.size 88 1 (.slice b ds.length cb) ds.length (ds.map (Value.int .u32)) ∧ RTells 0 (fq x) n zs ds code ∧ Below w.heap.size w w' := by
  have HB := bits_run x
  have h1 := and52 x hx
  have h2 := and2047 x hx
  have h3 : (((x : Int) / 9223372036854775808) == 1) = (x / 9223372036854775808 == 1) := by
    have e0 : (x : Int) / 9223372036854775808 = ((x / 9223372036854775808 : Nat) : Int) := by omega
    rw [e0]
    exact natBeq (x / 9223372036854775808) 1
  rw [hz] at h2
  have ec : fcount x = x % 4503599627370496 := by unfold fcount; rw [if_pos hz]
  have eu : funit x = -1074 := by unfold funit; rw [if_pos hz]
  have hKK : ((-(funit x)).toNat : Int) = 1074 := by omega
  have hu := funit_le x
  have hcl := fcount_lt x
  obtain ⟨Q, hQ⟩ : ∃ Q, fq x = Q := ⟨_, rfl⟩
  have HQ := hid hQ
  unfold fq at hQ
  generalize hs : (x / 9223372036854775808 == 1) = sgn at *
  obtain ⟨P, hP⟩ : ∃ P, w.alloc (.cells #[.bool false, .slice none 0 0, .slice none 0 0] 25) = P := ⟨_, rfl⟩
  have HB1 : Hid (Below w.heap.size w P) := by rw [← hP]; exact alloc_later _ _
  have HPX : Hid (Box P w.heap.size 25 #[.bool false, .slice none 0 0, .slice none 0 0]) := by rw [← hP]; exact Box.made w _ _
  have HO := hid (refOf_val ((fcount x : Nat)) P (by omega) (by omega))
  rw [ec] at *
  go_enter Tryz.func39, Tryz.ntmps39
  go_wp2_with fail
  refine Calls.mono HO.out ?_
  rintro e w2 ⟨v2, zs, rfl, o2, wz, tz, vz, hb2⟩
  obtain ⟨a2, c2, hs2⟩ := own_slice' o2
  subst hs2
  obtain ⟨Y, hY⟩ : ∃ Y, w2.alloc (.cells #[.int .u32 1] 88) = Y := ⟨_, rfl⟩
  have hb3 : Below w2.heap.size w2 Y := by rw [← hY]; exact alloc_later _ _
  have hOne : Y.ownsRow w2.heap.size 88 1 (.slice (some ⟨w2.heap.size, 0, none⟩) 1 1) 1 ([(1 : Int)].map (Value.int .u32)) := by rw [← hY]; exact ⟨rfl, .inr ⟨w2.heap.size, 1, #[.int .u32 1], rfl, Nat.le_refl _, Box.made w2 _ _, Nat.le_refl _, by unfold maxLen; simp, rfl, rfl⟩⟩
  have sOne : Sl Y (.slice (some ⟨w2.heap.size, 0, none⟩) 1 1) [1] := Sl.own hOne (Wd.one (by omega))
  have sNum : Sl Y (.slice a2 zs.length c2) zs := (Sl.own o2 wz).later hb3
  have tOne : Trimmed [1] := rfl
  have lz : zs.length ≤ 2 := len_of_lt wz tz (nd_two (by rw [vz]; omega))
  have HB3 := hid (bt hb2 hb3)
  have HSH := hid (ndShifted_any _ [1] (-(funit x)).toNat Y sOne (Wd.one (by omega)) tOne (by simp) (by omega))
  rw [hKK] at HSH
  have HZ := hid (And.intro sNum (And.intro wz (And.intro tz (And.intro vz lz))))
  clear o2 wz tz vz hb2 hb3 hOne sOne sNum tOne lz
  go_wp2_with fail
  clear hP hY
  refine Calls.mono HSH.out ?_
  rintro e w4 ⟨v4, ds, rfl, o4, wd, td, vd, hb4⟩
  obtain ⟨a4, c4, hs4⟩ := own_slice' o4
  subst hs4
  have hv1 : val [1] = 1 := rfl
  rw [hv1, Int.one_mul] at vd
  have ld : ds.length ≤ 8192 := nd_len wd td (by have := nd_wide (xs := [1]) (n := (-(funit x)).toNat) (Wd.one (by omega)) (by simp) (by omega); rw [hv1, Int.one_mul] at this; rw [vd]; exact this)
  have d0 : 0 < ds.length := by
    rcases Nat.eq_zero_or_pos ds.length with z | z
    · have hn : ds = [] := List.eq_nil_of_length_eq_zero z
      subst hn
      have hv0 : val [] = 0 := rfl
      have := Int.pow_pos (n := 2) (m := (-(funit x)).toNat) (by decide)
      omega
    · exact z
  have HOF := hid (of3_any sgn a2 c2 zs a4 c4 ds w4 (HZ.out.1.later hb4) (Sl.own o4 wd) (by have := HZ.out.2.2.2.2; omega) ld HZ.out.2.2.1 td d0)
  have hval : Rat.divInt (sg sgn (val zs)) (val ds) = Q := by
    rw [HZ.out.2.2.2.1, vd, ← hQ, show (funit x).toNat = 0 by omega, Int.pow_zero, Int.mul_one]
  rw [hval] at HOF
  have HB4 := hid (bt HB3.out hb4)
  clear o4 wd td vd hb4 HSH HZ ld d0 hval
  go_wp2_with fail
  refine Calls.mono HOF.out ?_
  rintro e w5 ⟨n5, v5, xs5, v6, ys5, code, rfl, o5, o6, ht, hb5⟩
  obtain ⟨a5, c5, hs5⟩ := own_slice' o5
  subst hs5
  obtain ⟨a6, c6, hs6⟩ := own_slice' o6
  subst hs6
  obtain ⟨V, hV⟩ : ∃ V, w5.alloc (.cells #[.bool n5, .slice a5 xs5.length c5, .slice a6 ys5.length c6] 25) = V := ⟨_, rfl⟩
  have hb6 : Below w5.heap.size w5 V := by rw [← hV]; exact alloc_later _ _
  have hBX := HPX.out.later (bt HB4.out (bt hb5 hb6)) HPX.out.lt
  have hlt : w.heap.size < w4.heap.size := by
    have h1 := HPX.out.lt
    have h2 := HB4.out.size
    omega
  obtain ⟨Z, hZ⟩ : ∃ Z, ((V.setCell ⟨w.heap.size, 0, none⟩ (.bool n5)).setCell ⟨w.heap.size, 1, none⟩ (.slice a5 xs5.length c5)).setCell ⟨w.heap.size, 2, none⟩ (.slice a6 ys5.length c6) = Z := ⟨_, rfl⟩
  have hBZ : Box Z w.heap.size 25 #[.bool n5, .slice a5 xs5.length c5, .slice a6 ys5.length c6] := by rw [← hZ]; exact put3_box hBX _ _ _
  have hBe : Below w.heap.size w Z := by rw [← hZ]; exact below_put3 (bt HB1.out (bt HB4.out (bt hb5 hb6))) _ (Nat.le_refl _) _ _ _
  have r5 : Z.ownsRow w.heap.size 88 1 (.slice a5 xs5.length c5) xs5.length (xs5.map (Value.int .u32)) := by rw [← hZ]; exact owns_base (put3_row (owns_later o5 hb6) hBX (by decide) _ _ _) (by omega)
  have r6 : Z.ownsRow w.heap.size 88 1 (.slice a6 ys5.length c6) ys5.length (ys5.map (Value.int .u32)) := by rw [← hZ]; exact owns_base (put3_row (owns_later o6 hb6) hBX (by decide) _ _ _) (by omega)
  have g0 : V.cell? ⟨w.heap.size, 0, none⟩ = some (.bool false) := hBX.cell 0
  have g1 : V.cell? ⟨w.heap.size, 1, none⟩ = some (.slice none 0 0) := hBX.cell 1
  have g2 : V.cell? ⟨w.heap.size, 2, none⟩ = some (.slice none 0 0) := hBX.cell 2
  have f0 := hBX.free 0
  have f1 := hBX.free 1
  have f2 := hBX.free 2
  have hBR : Box V w5.heap.size 25 #[.bool n5, .slice a5 xs5.length c5, .slice a6 ys5.length c6] := by rw [← hV]; exact Box.made w5 _ _
  have k0 : V.cell? ⟨w5.heap.size, 0, none⟩ = some (.bool n5) := hBR.cell 0
  have k1 : V.cell? ⟨w5.heap.size, 1, none⟩ = some (.slice a5 xs5.length c5) := hBR.cell 1
  have k2 : V.cell? ⟨w5.heap.size, 2, none⟩ = some (.slice a6 ys5.length c6) := hBR.cell 2
  have p0 : Z.cell? ⟨w.heap.size, 0, none⟩ = some (.bool n5) := hBZ.cell 0
  have p1 : Z.cell? ⟨w.heap.size, 1, none⟩ = some (.slice a5 xs5.length c5) := hBZ.cell 1
  have p2 : Z.cell? ⟨w.heap.size, 2, none⟩ = some (.slice a6 ys5.length c6) := hBZ.cell 2
  have HR := hid (And.intro r5 (And.intro r6 (And.intro ht hBe)))
  clear o5 o6 ht hb5 hb6 hBX hlt hBZ hBR hBe r5 r6 HOF HPX HB1 HB3 HB4
  go_wp2_with fail
  refine bodyPost_ret (v := .agg #[.bool n5, .slice a5 xs5.length c5, .slice a6 ys5.length c6]) (by simp [results, Tryz.results39, go_sem, p0, p1, p2]) rfl ?_
  exact ⟨n5, a5, c5, a6, c6, xs5, ys5, code, rfl, HR.out.1, HR.out.2.1, by rw [HQ.out]; exact HR.out.2.2.1, HR.out.2.2.2⟩

set_option maxHeartbeats 800000 in
set_option maxRecDepth 100000 in
theorem ndexact_mid (x : Nat) (w : World) (hx : x < 18446744073709551616) (hz : ¬ x / 4503599627370496 % 2048 = 0) (hE : x / 4503599627370496 % 2048 < 1075) :
    Calls Tryz.prog 39 #[.float .f64 x] w fun e w' => ∃ n a ca b cb zs ds code, e = .returned (.agg #[.bool n, .slice a (List.length zs) ca, .slice b (List.length ds) cb]) ∧ w'.ownsRow w.heap.size 88 1 (.slice a zs.length ca) zs.length (zs.map (Value.int .u32)) ∧ w'.ownsRow w.heap.size 88 1 (.slice b ds.length cb) ds.length (ds.map (Value.int .u32)) ∧ RTells 0 (fq x) n zs ds code ∧ Below w.heap.size w w' := by
  have HB := bits_run x
  have h1 := and52 x hx
  have h2 := and2047 x hx
  have h3 : (((x : Int) / 9223372036854775808) == 1) = (x / 9223372036854775808 == 1) := by
    have e0 : (x : Int) / 9223372036854775808 = ((x / 9223372036854775808 : Nat) : Int) := by omega
    rw [e0]
    exact natBeq (x / 9223372036854775808) 1
  have ec : fcount x = 4503599627370496 + x % 4503599627370496 := by unfold fcount; rw [if_neg hz]
  have eu : funit x = -1074 + ((x / 4503599627370496 % 2048 : Nat) : Int) - 1 := by unfold funit; rw [if_neg hz]
  have hKK : ((-(funit x)).toNat : Int) = 1075 - (funit x + 1075) := by omega
  have hu := funit_le x
  have hcl := fcount_lt x
  obtain ⟨Q, hQ⟩ : ∃ Q, fq x = Q := ⟨_, rfl⟩
  have HQ := hid hQ
  unfold fq at hQ
  generalize hs : (x / 9223372036854775808 == 1) = sgn at *
  obtain ⟨P, hP⟩ : ∃ P, w.alloc (.cells #[.bool false, .slice none 0 0, .slice none 0 0] 25) = P := ⟨_, rfl⟩
  have HB1 : Hid (Below w.heap.size w P) := by rw [← hP]; exact alloc_later _ _
  have HPX : Hid (Box P w.heap.size 25 #[.bool false, .slice none 0 0, .slice none 0 0]) := by rw [← hP]; exact Box.made w _ _
  have hM : ((fcount x : Nat) : Int) = ((x % 4503599627370496 : Nat) : Int) + 4503599627370496 := by rw [ec]; omega
  rw [hM] at hQ
  have HO := hid (refOf_val (((x % 4503599627370496 : Nat) : Int) + 4503599627370496) P (by omega) (by omega))
  have hEq : ((x / 4503599627370496 % 2048 : Nat) : Int) = funit x + 1075 := by omega
  rw [hEq] at h2
  have hml : x % 4503599627370496 < 4503599627370496 := by omega
  generalize hmm : x % 4503599627370496 = m at *
  have hz' : (funit x + 1075 == 0) = false := beq_eq_false_iff_ne.2 (by omega)
  have hge : ¬ (1075 ≤ funit x + 1075) := by omega
  generalize hff : funit x = f at *
  clear hmm hM ec hz eu hEq hff
  go_enter Tryz.func39, Tryz.ntmps39
  go_wp2_with fail
  refine Calls.mono HO.out ?_
  rintro e w2 ⟨v2, zs, rfl, o2, wz, tz, vz, hb2⟩
  obtain ⟨a2, c2, hs2⟩ := own_slice' o2
  subst hs2
  obtain ⟨Y, hY⟩ : ∃ Y, w2.alloc (.cells #[.int .u32 1] 88) = Y := ⟨_, rfl⟩
  have hb3 : Below w2.heap.size w2 Y := by rw [← hY]; exact alloc_later _ _
  have hOne : Y.ownsRow w2.heap.size 88 1 (.slice (some ⟨w2.heap.size, 0, none⟩) 1 1) 1 ([(1 : Int)].map (Value.int .u32)) := by rw [← hY]; exact ⟨rfl, .inr ⟨w2.heap.size, 1, #[.int .u32 1], rfl, Nat.le_refl _, Box.made w2 _ _, Nat.le_refl _, by unfold maxLen; simp, rfl, rfl⟩⟩
  have sOne : Sl Y (.slice (some ⟨w2.heap.size, 0, none⟩) 1 1) [1] := Sl.own hOne (Wd.one (by omega))
  have sNum : Sl Y (.slice a2 zs.length c2) zs := (Sl.own o2 wz).later hb3
  have tOne : Trimmed [1] := rfl
  have lz : zs.length ≤ 2 := len_of_lt wz tz (nd_two (by rw [vz]; omega))
  have HB3 := hid (bt hb2 hb3)
  have HSH := hid (ndShifted_any _ [1] (-f).toNat Y sOne (Wd.one (by omega)) tOne (by simp) (by omega))
  rw [hKK] at HSH
  have HZ := hid (And.intro sNum (And.intro wz (And.intro tz (And.intro vz lz))))
  clear o2 wz tz vz hb2 hb3 hOne sOne sNum tOne lz
  go_wp2_with fail
  clear hP hY
  refine Calls.mono HSH.out ?_
  rintro e w4 ⟨v4, ds, rfl, o4, wd, td, vd, hb4⟩
  obtain ⟨a4, c4, hs4⟩ := own_slice' o4
  subst hs4
  have hv1 : val [1] = 1 := rfl
  rw [hv1, Int.one_mul] at vd
  have ld : ds.length ≤ 8192 := nd_len wd td (by have := nd_wide (xs := [1]) (n := (-f).toNat) (Wd.one (by omega)) (by simp) (by omega); rw [hv1, Int.one_mul] at this; rw [vd]; exact this)
  have d0 : 0 < ds.length := by
    rcases Nat.eq_zero_or_pos ds.length with z | z
    · have hn : ds = [] := List.eq_nil_of_length_eq_zero z
      subst hn
      have hv0 : val [] = 0 := rfl
      have := Int.pow_pos (n := 2) (m := (-f).toNat) (by decide)
      omega
    · exact z
  have HOF := hid (of3_any sgn a2 c2 zs a4 c4 ds w4 (HZ.out.1.later hb4) (Sl.own o4 wd) (by have := HZ.out.2.2.2.2; omega) ld HZ.out.2.2.1 td d0)
  have hval : Rat.divInt (sg sgn (val zs)) (val ds) = Q := by
    rw [HZ.out.2.2.2.1, vd, ← hQ, show f.toNat = 0 by omega, Int.pow_zero, Int.mul_one]
  rw [hval] at HOF
  have HB4 := hid (bt HB3.out hb4)
  clear o4 wd td vd hb4 HSH HZ ld d0 hval
  go_wp2_with fail
  refine Calls.mono HOF.out ?_
  rintro e w5 ⟨n5, v5, xs5, v6, ys5, code, rfl, o5, o6, ht, hb5⟩
  obtain ⟨a5, c5, hs5⟩ := own_slice' o5
  subst hs5
  obtain ⟨a6, c6, hs6⟩ := own_slice' o6
  subst hs6
  obtain ⟨V, hV⟩ : ∃ V, w5.alloc (.cells #[.bool n5, .slice a5 xs5.length c5, .slice a6 ys5.length c6] 25) = V := ⟨_, rfl⟩
  have hb6 : Below w5.heap.size w5 V := by rw [← hV]; exact alloc_later _ _
  have hBX := HPX.out.later (bt HB4.out (bt hb5 hb6)) HPX.out.lt
  have hlt : w.heap.size < w4.heap.size := by
    have h1 := HPX.out.lt
    have h2 := HB4.out.size
    omega
  obtain ⟨Z, hZ⟩ : ∃ Z, ((V.setCell ⟨w.heap.size, 0, none⟩ (.bool n5)).setCell ⟨w.heap.size, 1, none⟩ (.slice a5 xs5.length c5)).setCell ⟨w.heap.size, 2, none⟩ (.slice a6 ys5.length c6) = Z := ⟨_, rfl⟩
  have hBZ : Box Z w.heap.size 25 #[.bool n5, .slice a5 xs5.length c5, .slice a6 ys5.length c6] := by rw [← hZ]; exact put3_box hBX _ _ _
  have hBe : Below w.heap.size w Z := by rw [← hZ]; exact below_put3 (bt HB1.out (bt HB4.out (bt hb5 hb6))) _ (Nat.le_refl _) _ _ _
  have r5 : Z.ownsRow w.heap.size 88 1 (.slice a5 xs5.length c5) xs5.length (xs5.map (Value.int .u32)) := by rw [← hZ]; exact owns_base (put3_row (owns_later o5 hb6) hBX (by decide) _ _ _) (by omega)
  have r6 : Z.ownsRow w.heap.size 88 1 (.slice a6 ys5.length c6) ys5.length (ys5.map (Value.int .u32)) := by rw [← hZ]; exact owns_base (put3_row (owns_later o6 hb6) hBX (by decide) _ _ _) (by omega)
  have g0 : V.cell? ⟨w.heap.size, 0, none⟩ = some (.bool false) := hBX.cell 0
  have g1 : V.cell? ⟨w.heap.size, 1, none⟩ = some (.slice none 0 0) := hBX.cell 1
  have g2 : V.cell? ⟨w.heap.size, 2, none⟩ = some (.slice none 0 0) := hBX.cell 2
  have f0 := hBX.free 0
  have f1 := hBX.free 1
  have f2 := hBX.free 2
  have hBR : Box V w5.heap.size 25 #[.bool n5, .slice a5 xs5.length c5, .slice a6 ys5.length c6] := by rw [← hV]; exact Box.made w5 _ _
  have k0 : V.cell? ⟨w5.heap.size, 0, none⟩ = some (.bool n5) := hBR.cell 0
  have k1 : V.cell? ⟨w5.heap.size, 1, none⟩ = some (.slice a5 xs5.length c5) := hBR.cell 1
  have k2 : V.cell? ⟨w5.heap.size, 2, none⟩ = some (.slice a6 ys5.length c6) := hBR.cell 2
  have p0 : Z.cell? ⟨w.heap.size, 0, none⟩ = some (.bool n5) := hBZ.cell 0
  have p1 : Z.cell? ⟨w.heap.size, 1, none⟩ = some (.slice a5 xs5.length c5) := hBZ.cell 1
  have p2 : Z.cell? ⟨w.heap.size, 2, none⟩ = some (.slice a6 ys5.length c6) := hBZ.cell 2
  have HR := hid (And.intro r5 (And.intro r6 (And.intro ht hBe)))
  clear o5 o6 ht hb5 hb6 hBX hlt hBZ hBR hBe r5 r6 HOF HPX HB1 HB3 HB4
  go_wp2_with fail
  refine bodyPost_ret (v := .agg #[.bool n5, .slice a5 xs5.length c5, .slice a6 ys5.length c6]) (by simp [results, Tryz.results39, go_sem, p0, p1, p2]) rfl ?_
  exact ⟨n5, a5, c5, a6, c6, xs5, ys5, code, rfl, HR.out.1, HR.out.2.1, by rw [HQ.out]; exact HR.out.2.2.1, HR.out.2.2.2⟩

set_option maxHeartbeats 800000 in
set_option maxRecDepth 100000 in
theorem ndexact_great (x : Nat) (w : World) (hx : x < 18446744073709551616) (hE : 1075 ≤ x / 4503599627370496 % 2048) :
    Calls Tryz.prog 39 #[.float .f64 x] w fun e w' => ∃ n a ca b cb zs ds code, e = .returned (.agg #[.bool n, .slice a (List.length zs) ca, .slice b (List.length ds) cb]) ∧ w'.ownsRow w.heap.size 88 1 (.slice a zs.length ca) zs.length (zs.map (Value.int .u32)) ∧ w'.ownsRow w.heap.size 88 1 (.slice b ds.length cb) ds.length (ds.map (Value.int .u32)) ∧ RTells 0 (fq x) n zs ds code ∧ Below w.heap.size w w' := by
  have HB := bits_run x
  have h1 := and52 x hx
  have h2 := and2047 x hx
  have h3 : (((x : Int) / 9223372036854775808) == 1) = (x / 9223372036854775808 == 1) := by
    have e0 : (x : Int) / 9223372036854775808 = ((x / 9223372036854775808 : Nat) : Int) := by omega
    rw [e0]
    exact natBeq (x / 9223372036854775808) 1
  have hz : ¬ x / 4503599627370496 % 2048 = 0 := by omega
  have ec : fcount x = 4503599627370496 + x % 4503599627370496 := by unfold fcount; rw [if_neg hz]
  have eu : funit x = -1074 + ((x / 4503599627370496 % 2048 : Nat) : Int) - 1 := by unfold funit; rw [if_neg hz]
  have hKK : ((funit x).toNat : Int) = funit x := by omega
  have hu := funit_le x
  have hcl := fcount_lt x
  obtain ⟨Q, hQ⟩ : ∃ Q, fq x = Q := ⟨_, rfl⟩
  have HQ := hid hQ
  unfold fq at hQ
  generalize hs : (x / 9223372036854775808 == 1) = sgn at *
  obtain ⟨P, hP⟩ : ∃ P, w.alloc (.cells #[.bool false, .slice none 0 0, .slice none 0 0] 25) = P := ⟨_, rfl⟩
  have HB1 : Hid (Below w.heap.size w P) := by rw [← hP]; exact alloc_later _ _
  have HPX : Hid (Box P w.heap.size 25 #[.bool false, .slice none 0 0, .slice none 0 0]) := by rw [← hP]; exact Box.made w _ _
  have hM : ((fcount x : Nat) : Int) = ((x % 4503599627370496 : Nat) : Int) + 4503599627370496 := by rw [ec]; omega
  rw [hM] at hQ
  have HO := hid (refOf_val (((x % 4503599627370496 : Nat) : Int) + 4503599627370496) P (by omega) (by omega))
  have hEq : ((x / 4503599627370496 % 2048 : Nat) : Int) = funit x + 1075 := by omega
  rw [hEq] at h2
  have hml : x % 4503599627370496 < 4503599627370496 := by omega
  generalize hmm : x % 4503599627370496 = m at *
  have hz' : (funit x + 1075 == 0) = false := beq_eq_false_iff_ne.2 (by omega)
  have hge : 1075 ≤ funit x + 1075 := by omega
  generalize hff : funit x = f at *
  clear hmm hM ec hz eu hEq hff
  go_enter Tryz.func39, Tryz.ntmps39
  go_wp2_with fail
  refine Calls.mono HO.out ?_
  rintro e w2 ⟨v2, zs, rfl, o2, wz, tz, vz, hb2⟩
  obtain ⟨a2, c2, hs2⟩ := own_slice' o2
  subst hs2
  obtain ⟨Y, hY⟩ : ∃ Y, w2.alloc (.cells #[.int .u32 1] 88) = Y := ⟨_, rfl⟩
  have hb3 : Below w2.heap.size w2 Y := by rw [← hY]; exact alloc_later _ _
  have hOne : Y.ownsRow w2.heap.size 88 1 (.slice (some ⟨w2.heap.size, 0, none⟩) 1 1) 1 ([(1 : Int)].map (Value.int .u32)) := by rw [← hY]; exact ⟨rfl, .inr ⟨w2.heap.size, 1, #[.int .u32 1], rfl, Nat.le_refl _, Box.made w2 _ _, Nat.le_refl _, by unfold maxLen; simp, rfl, rfl⟩⟩
  have sOne : Sl Y (.slice (some ⟨w2.heap.size, 0, none⟩) 1 1) [1] := Sl.own hOne (Wd.one (by omega))
  have sNum : Sl Y (.slice a2 zs.length c2) zs := (Sl.own o2 wz).later hb3
  have tOne : Trimmed [1] := rfl
  have lz : zs.length ≤ 2 := len_of_lt wz tz (nd_two (by rw [vz]; omega))
  have HB3 := hid (bt hb2 hb3)
  have HSH := hid (ndShifted_any _ zs f.toNat Y sNum wz tz (by omega) (by omega))
  rw [hKK] at HSH
  have HZ := hid (And.intro sOne tOne)
  have HV := hid (And.intro vz (And.intro wz lz))
  clear o2 wz tz vz hb2 hb3 hOne sOne sNum tOne lz
  go_wp2_with fail
  clear hP hY
  refine Calls.mono HSH.out ?_
  rintro e w4 ⟨v4, ds, rfl, o4, wd, td, vd, hb4⟩
  obtain ⟨a4, c4, hs4⟩ := own_slice' o4
  subst hs4
  have ld : ds.length ≤ 8192 := nd_len wd td (by rw [vd]; exact nd_wide HV.out.2.1 (by have := HV.out.2.2; omega) (by omega))
  have HOF := hid (of3_any sgn a4 c4 ds (some ⟨w2.heap.size, 0, none⟩) 1 [1] w4 (Sl.own o4 wd) (HZ.out.1.later hb4) ld (by simp) td HZ.out.2 (by simp))
  have hval : Rat.divInt (sg sgn (val ds)) (val [1]) = Q := by
    have hv1 : val [1] = 1 := rfl
    rw [vd, HV.out.1, ← hQ, hv1, show (-f).toNat = 0 by omega, Int.pow_zero]
  rw [hval] at HOF
  have HB4 := hid (bt HB3.out hb4)
  clear o4 wd td vd hb4 HSH HZ HV ld hval
  go_wp2_with fail
  refine Calls.mono HOF.out ?_
  rintro e w5 ⟨n5, v5, xs5, v6, ys5, code, rfl, o5, o6, ht, hb5⟩
  obtain ⟨a5, c5, hs5⟩ := own_slice' o5
  subst hs5
  obtain ⟨a6, c6, hs6⟩ := own_slice' o6
  subst hs6
  obtain ⟨V, hV⟩ : ∃ V, w5.alloc (.cells #[.bool n5, .slice a5 xs5.length c5, .slice a6 ys5.length c6] 25) = V := ⟨_, rfl⟩
  have hb6 : Below w5.heap.size w5 V := by rw [← hV]; exact alloc_later _ _
  have hBX := HPX.out.later (bt HB4.out (bt hb5 hb6)) HPX.out.lt
  have hlt : w.heap.size < w4.heap.size := by
    have h1 := HPX.out.lt
    have h2 := HB4.out.size
    omega
  obtain ⟨Z, hZ⟩ : ∃ Z, ((V.setCell ⟨w.heap.size, 0, none⟩ (.bool n5)).setCell ⟨w.heap.size, 1, none⟩ (.slice a5 xs5.length c5)).setCell ⟨w.heap.size, 2, none⟩ (.slice a6 ys5.length c6) = Z := ⟨_, rfl⟩
  have hBZ : Box Z w.heap.size 25 #[.bool n5, .slice a5 xs5.length c5, .slice a6 ys5.length c6] := by rw [← hZ]; exact put3_box hBX _ _ _
  have hBe : Below w.heap.size w Z := by rw [← hZ]; exact below_put3 (bt HB1.out (bt HB4.out (bt hb5 hb6))) _ (Nat.le_refl _) _ _ _
  have r5 : Z.ownsRow w.heap.size 88 1 (.slice a5 xs5.length c5) xs5.length (xs5.map (Value.int .u32)) := by rw [← hZ]; exact owns_base (put3_row (owns_later o5 hb6) hBX (by decide) _ _ _) (by omega)
  have r6 : Z.ownsRow w.heap.size 88 1 (.slice a6 ys5.length c6) ys5.length (ys5.map (Value.int .u32)) := by rw [← hZ]; exact owns_base (put3_row (owns_later o6 hb6) hBX (by decide) _ _ _) (by omega)
  have g0 : V.cell? ⟨w.heap.size, 0, none⟩ = some (.bool false) := hBX.cell 0
  have g1 : V.cell? ⟨w.heap.size, 1, none⟩ = some (.slice none 0 0) := hBX.cell 1
  have g2 : V.cell? ⟨w.heap.size, 2, none⟩ = some (.slice none 0 0) := hBX.cell 2
  have f0 := hBX.free 0
  have f1 := hBX.free 1
  have f2 := hBX.free 2
  have hBR : Box V w5.heap.size 25 #[.bool n5, .slice a5 xs5.length c5, .slice a6 ys5.length c6] := by rw [← hV]; exact Box.made w5 _ _
  have k0 : V.cell? ⟨w5.heap.size, 0, none⟩ = some (.bool n5) := hBR.cell 0
  have k1 : V.cell? ⟨w5.heap.size, 1, none⟩ = some (.slice a5 xs5.length c5) := hBR.cell 1
  have k2 : V.cell? ⟨w5.heap.size, 2, none⟩ = some (.slice a6 ys5.length c6) := hBR.cell 2
  have p0 : Z.cell? ⟨w.heap.size, 0, none⟩ = some (.bool n5) := hBZ.cell 0
  have p1 : Z.cell? ⟨w.heap.size, 1, none⟩ = some (.slice a5 xs5.length c5) := hBZ.cell 1
  have p2 : Z.cell? ⟨w.heap.size, 2, none⟩ = some (.slice a6 ys5.length c6) := hBZ.cell 2
  have HR := hid (And.intro r5 (And.intro r6 (And.intro ht hBe)))
  clear o5 o6 ht hb5 hb6 hBX hlt hBZ hBR hBe r5 r6 HOF HPX HB1 HB3 HB4
  go_wp2_with fail
  refine bodyPost_ret (v := .agg #[.bool n5, .slice a5 xs5.length c5, .slice a6 ys5.length c6]) (by simp [results, Tryz.results39, go_sem, p0, p1, p2]) rfl ?_
  exact ⟨n5, a5, c5, a6, c6, xs5, ys5, code, rfl, HR.out.1, HR.out.2.1, by rw [HQ.out]; exact HR.out.2.2.1, HR.out.2.2.2⟩

end Go.Proofs.YtabkgpnckaaclaaGreatDoor

/- The document's own floats (slackwaterref06): Near of any fraction that may be; Nearest of any fraction; exact, Exact of any float. -/
namespace Go.Proofs.YtabkgpnckaaclaaGreatDoor
open Go.RowKit
set_option linter.unusedVariables false

set_option maxHeartbeats 800000 in
set_option maxRecDepth 100000 in
theorem ndNear_any (n : Bool) (a : Option Addr) (ca : Nat) (xs : List Int) (b : Option Addr) (cb : Nat) (ys : List Int) (w : World) (X Y : Nat) (sx : Sl w (.slice a xs.length ca) xs) (sy : Sl w (.slice b ys.length cb) ys) (hr : rchk n xs ys = 0) (hX : val xs = X) (hY : val ys = Y) (hYp : 0 < Y) :
    Calls Tryz.prog 43 #[.agg #[.bool n, .slice a xs.length ca, .slice b ys.length cb]] w fun e w' => ∃ x f, e = .returned (.tuple #[.float .f64 x, .bool f]) ∧ NdT n X Y x f ∧ Below w.heap.size w w' := by
  obtain ⟨lx, ly, tx, ty, y0, hs, _⟩ := rchk_ok hr
  by_cases x0 : 0 < xs.length
  · exact ndNear_go n a ca xs b cb ys w X Y sx sy tx ty lx ly x0 y0 hX hY
  · have hn : xs = [] := List.eq_nil_of_length_eq_zero (by omega)
    subst hn
    have hX0 : X = 0 := by
      have : val [] = 0 := rfl
      omega
    subst hX0
    have HE : Hid (NdT n 0 Y 0 true) := ⟨0, mid_nought hYp, .inr ⟨by decide, rfl, by simp⟩⟩
    have HB := hid (alloc_later w (.cells #[.bool n, .slice a (List.length ([] : List Int)) ca, .slice b ys.length cb] 25))
    have hl : List.length ([] : List Int) = 0 := rfl
    rw [hl] at *
    clear sx sy hr hX hY hYp hs tx ty x0 hl lx ly y0
    go_enter Tryz.func43, Tryz.ntmps43
    go_wp2_with fail
    go_ret2
    exact ⟨0, true, rfl, HE.out, HB.out⟩

set_option maxHeartbeats 1600000 in
set_option maxRecDepth 100000 in
theorem ndNearest_any (n : Bool) (a : Option Addr) (ca : Nat) (xs : List Int) (b : Option Addr) (cb : Nat) (ys : List Int) (w : World) (sx : Sl w (.slice a xs.length ca) xs) (sy : Sl w (.slice b ys.length cb) ys) (lx : xs.length ≤ 281474976710656) (ly : ys.length ≤ 281474976710656) :
    Calls Tryz.prog 10 #[.agg #[.bool n, .slice a xs.length ca, .slice b ys.length cb]] w fun e w' => ∃ x code, e = .returned (.tuple #[.float .f64 x, .int .i64 code]) ∧ NrT n xs ys x code ∧ Below w.heap.size w w' := by
  obtain ⟨P, hP⟩ : ∃ P, w.alloc (.cells #[.bool n, .slice a xs.length ca, .slice b ys.length cb] 25) = P := ⟨_, rfl⟩
  have b1 : Below w.heap.size w P := by rw [← hP]; exact alloc_later _ _
  have HBX : Hid (Box P w.heap.size 25 #[.bool n, .slice a xs.length ca, .slice b ys.length cb]) := by rw [← hP]; exact Box.made w _ _
  have HC := hid (check3_any n a ca xs b cb ys P (sx.later b1) (sy.later b1) lx ly)
  have HS := hid (And.intro (sx.later b1) (sy.later b1))
  have HB1 := hid b1
  have e0 : P.cell? ⟨w.heap.size, 0, none⟩ = some (.bool n) := HBX.out.cell 0
  have e1 : P.cell? ⟨w.heap.size, 1, none⟩ = some (.slice a xs.length ca) := HBX.out.cell 1
  have e2 : P.cell? ⟨w.heap.size, 2, none⟩ = some (.slice b ys.length cb) := HBX.out.cell 2
  obtain ⟨ck, hck⟩ : ∃ ck, rchk n xs ys = ck := ⟨_, rfl⟩
  have HK := hid hck
  rw [hck] at HC
  clear sx sy b1 lx ly hck
  by_cases hz : ck = 0
  · subst hz
    go_enter Tryz.func10, Tryz.ntmps10
    go_wp2_with fail
    clear hP
    refine Calls.mono HC.out ?_
    rintro e w2 ⟨rfl, hb2⟩
    obtain ⟨lx, ly, tx, ty, y0, hs, _⟩ := rchk_ok HK.out
    obtain ⟨X, hX⟩ := Int.eq_ofNat_of_zero_le (val_nonneg HS.out.1.wd)
    obtain ⟨Y, hY⟩ := Int.eq_ofNat_of_zero_le (val_nonneg HS.out.2.wd)
    have hYp : 0 < Y := by
      have h := (bits_bounds HS.out.2.wd (by have : sz ys = ys.length := ty; omega)).2.1
      have := Int.pow_pos (n := 2) (m := bitsOf ys - 1) (by decide)
      omega
    have HN := hid (ndNear_any n a ca xs b cb ys w2 X Y (HS.out.1.later hb2) (HS.out.2.later hb2) HK.out hX hY hYp)
    have HX := hid (And.intro hX (And.intro hY hYp))
    obtain ⟨f0, f1, f2, _⟩ := res_box3 HBX.out hb2
    have HB2 := hid (bt HB1.out hb2)
    clear e0 e1 e2 hb2 HC lx ly tx ty y0 hs hX hY hYp
    go_wp2_with fail
    refine Calls.mono HN.out ?_
    rintro e w3 ⟨x, f, rfl, hT, hb3⟩
    have HB3 := hid (bt HB2.out hb3)
    clear HN hb3 f0 f1 f2
    obtain ⟨s, hM, hT⟩ := hT
    rcases hT with ⟨hs, hx, hf⟩ | ⟨hs, hf, hx⟩
    · subst hf
      subst hx
      have HE : Hid (NrT n xs ys 0 9) := .inr ⟨HK.out, X, Y, s, HX.out.1, HX.out.2.1, HX.out.2.2, hM, .inl ⟨hs, rfl, rfl⟩⟩
      clear hM hs
      go_wp2_with fail
      go_ret2
      exact ⟨0, 9, rfl, HE.out, HB3.out⟩
    · subst hf
      have HE : Hid (NrT n xs ys x 0) := .inr ⟨HK.out, X, Y, s, HX.out.1, HX.out.2.1, HX.out.2.2, hM, .inr ⟨hs, rfl, hx⟩⟩
      clear hM hs hx
      go_wp2_with fail
      go_ret2
      exact ⟨x, 0, rfl, HE.out, HB3.out⟩
  · have hz' : (ck == 0) = false := beq_eq_false_iff_ne.2 hz
    go_enter Tryz.func10, Tryz.ntmps10
    go_wp2_with fail
    clear hP
    refine Calls.mono HC.out ?_
    rintro e w2 ⟨rfl, hb2⟩
    have HB2 := hid (bt HB1.out hb2)
    clear e0 e1 e2 hb2 HC
    have hz2 : (ck != 0) = true := by rw [bne, hz']; rfl
    go_wp2_with fail
    go_ret2
    exact ⟨0, ck, rfl, .inl ⟨by rw [HK.out]; exact hz, rfl, HK.out.symm⟩, HB2.out⟩

/-- Two that are told alike. -/
theorem NrT.one {n : Bool} {xs ys : List Int} {x y : Nat} {c d : Int} (h : NrT n xs ys x c) (g : NrT n xs ys y d) : x = y ∧ c = d := by
  rcases h with ⟨h1, h2, h3⟩ | ⟨h1, X, Y, s, hX, hY, hp, m, h⟩
  · rcases g with ⟨g1, g2, g3⟩ | ⟨g1, g⟩
    · exact ⟨by rw [h2, g2], by rw [h3, g3]⟩
    · exact absurd g1 h1
  · rcases g with ⟨g1, g⟩ | ⟨g1, U, V, t, gX, gY, gp, k, g⟩
    · exact absurd h1 g1
    · have e1 : X = U := by have := hX.symm.trans gX; omega
      have e2 : Y = V := by have := hY.symm.trans gY; omega
      subst e1
      subst e2
      have e3 := m.unique hp k
      subst e3
      rcases h with ⟨h1, h2, h3⟩ | ⟨h1, h2, h3⟩
      · rcases g with ⟨g1, g2, g3⟩ | ⟨g1, g2, g3⟩
        · exact ⟨by rw [h2, g2], by rw [h3, g3]⟩
        · omega
      · rcases g with ⟨g1, g2, g3⟩ | ⟨g1, g2, g3⟩
        · omega
        · exact ⟨by rw [h3, g3], by rw [h2, g2]⟩

theorem ndexact_any (x : Nat) (w : World) (hx : x < 18446744073709551616) :
    Calls Tryz.prog 39 #[.float .f64 x] w fun e w' => ∃ n a ca b cb zs ds code, e = .returned (.agg #[.bool n, .slice a (List.length zs) ca, .slice b (List.length ds) cb]) ∧ w'.ownsRow w.heap.size 88 1 (.slice a zs.length ca) zs.length (zs.map (Value.int .u32)) ∧ w'.ownsRow w.heap.size 88 1 (.slice b ds.length cb) ds.length (ds.map (Value.int .u32)) ∧ RTells 0 (fq x) n zs ds code ∧ Below w.heap.size w w' := by
  by_cases hz : x / 4503599627370496 % 2048 = 0
  · exact ndexact_least x w hx hz
  · by_cases hE : x / 4503599627370496 % 2048 < 1075
    · exact ndexact_mid x w hx hz hE
    · exact ndexact_great x w hx (by omega)

end Go.Proofs.YtabkgpnckaaclaaGreatDoor

/- The document's own fractions: times, Signed. -/
namespace Go.Proofs.YtabkgpnckaaclaaGreatDoor
open Go.RowKit
set_option linter.unusedVariables false

end Go.Proofs.YtabkgpnckaaclaaGreatDoor

/- The document's own fractions: add: of fractions that may be, but for the sign of 0. -/
namespace Go.Proofs.YtabkgpnckaaclaaGreatDoor
open Go.RowKit
set_option linter.unusedVariables false

end Go.Proofs.YtabkgpnckaaclaaGreatDoor

/- The document's own fractions: both, Add: of any fractions, good or refused. -/
namespace Go.Proofs.YtabkgpnckaaclaaGreatDoor
open Go.RowKit
set_option linter.unusedVariables false

end Go.Proofs.YtabkgpnckaaclaaGreatDoor

/- The document's own fractions: Order, Compare: of any fractions, good or refused. -/
namespace Go.Proofs.YtabkgpnckaaclaaGreatDoor
open Go.RowKit
set_option linter.unusedVariables false

end Go.Proofs.YtabkgpnckaaclaaGreatDoor

/- The document's own floats (slackwaterref06): Exact, Compare. -/
namespace Go.Proofs.YtabkgpnckaaclaaGreatDoor
open Go.RowKit
set_option linter.unusedVariables false

theorem RTells.short {e : Int} {q : Rat} {n : Bool} {xs ys : List Int} {code : Int} (h : RTells e q n xs ys code) : xs.length ≤ 281474976710656 ∧ ys.length ≤ 281474976710656 := by
  by_cases he : e = 0
  · by_cases hl : rlong q
    · obtain ⟨_, h1, h2, _⟩ := h.long he hl
      subst h1; subst h2
      exact ⟨by simp, by simp⟩
    · obtain ⟨_, h1, _⟩ := h.good he hl
      obtain ⟨l1, l2, _⟩ := rchk_ok h1
      omega
  · obtain ⟨_, h1, h2, _⟩ := h.bad he
    subst h1; subst h2
    exact ⟨by simp, by simp⟩

set_option maxHeartbeats 800000 in
set_option maxRecDepth 100000 in
theorem ndExact_fin (x : Nat) (w : World) (hx : x < 18446744073709551616) (hf : fin x = true) :
    Calls Tryz.prog 8 #[.float .f64 x] w fun e w' => ∃ n a ca b cb zs ds code, e = .returned (.tuple #[.agg #[.bool n, .slice a (List.length zs) ca, .slice b (List.length ds) cb], .int .i64 0]) ∧ w'.ownsRow w.heap.size 88 1 (.slice a zs.length ca) zs.length (zs.map (Value.int .u32)) ∧ w'.ownsRow w.heap.size 88 1 (.slice b ds.length cb) ds.length (ds.map (Value.int .u32)) ∧ RTells 0 (fq x) n zs ds code ∧ Below w.heap.size w w' := by
  have HF := hid (fun V => refFinite_any x V hx)
  rw [hf] at HF
  obtain ⟨P, hP⟩ : ∃ P, w.alloc (.cells #[.bool false, .slice none 0 0, .slice none 0 0] 25) = P := ⟨_, rfl⟩
  have HB1 : Hid (Below w.heap.size w P) := by rw [← hP]; exact alloc_later _ _
  have HPX : Hid (Box P w.heap.size 25 #[.bool false, .slice none 0 0, .slice none 0 0]) := by rw [← hP]; exact Box.made w _ _
  have HE := hid (ndexact_any x P hx)
  clear hf hx
  go_enter Tryz.func8, Tryz.ntmps8
  go_wp2_with fail
  refine Calls.mono (HF.out _) ?_
  rintro e w1 ⟨rfl, rfl⟩
  go_wp2_with fail
  clear hP
  refine Calls.mono HE.out ?_
  rintro e w2 ⟨n, a, ca, b, cb, zs, ds, code, rfl, o1, o2, ht, hb2⟩
  have hBX := HPX.out.later hb2 HPX.out.lt
  have hlt : w.heap.size < w1.heap.size := HPX.out.lt
  obtain ⟨Z, hZ⟩ : ∃ Z, ((w2.setCell ⟨w.heap.size, 0, none⟩ (.bool n)).setCell ⟨w.heap.size, 1, none⟩ (.slice a zs.length ca)).setCell ⟨w.heap.size, 2, none⟩ (.slice b ds.length cb) = Z := ⟨_, rfl⟩
  have hBZ : Box Z w.heap.size 25 #[.bool n, .slice a zs.length ca, .slice b ds.length cb] := by rw [← hZ]; exact put3_box hBX _ _ _
  have hBe : Below w.heap.size w Z := by rw [← hZ]; exact below_put3 (bt HB1.out hb2) _ (Nat.le_refl _) _ _ _
  have r5 : Z.ownsRow w.heap.size 88 1 (.slice a zs.length ca) zs.length (zs.map (Value.int .u32)) := by rw [← hZ]; exact owns_base (put3_row o1 hBX (by decide) _ _ _) (by omega)
  have r6 : Z.ownsRow w.heap.size 88 1 (.slice b ds.length cb) ds.length (ds.map (Value.int .u32)) := by rw [← hZ]; exact owns_base (put3_row o2 hBX (by decide) _ _ _) (by omega)
  have g0 : w2.cell? ⟨w.heap.size, 0, none⟩ = some (.bool false) := hBX.cell 0
  have g1 : w2.cell? ⟨w.heap.size, 1, none⟩ = some (.slice none 0 0) := hBX.cell 1
  have g2 : w2.cell? ⟨w.heap.size, 2, none⟩ = some (.slice none 0 0) := hBX.cell 2
  have f0 := hBX.free 0
  have f1 := hBX.free 1
  have f2 := hBX.free 2
  have p0 : Z.cell? ⟨w.heap.size, 0, none⟩ = some (.bool n) := hBZ.cell 0
  have p1 : Z.cell? ⟨w.heap.size, 1, none⟩ = some (.slice a zs.length ca) := hBZ.cell 1
  have p2 : Z.cell? ⟨w.heap.size, 2, none⟩ = some (.slice b ds.length cb) := hBZ.cell 2
  have HR := hid (And.intro r5 (And.intro r6 (And.intro ht hBe)))
  clear o1 o2 ht hb2 hBX hlt hBZ hBe r5 r6 HPX HB1 HE HF
  go_wp2_with fail
  refine bodyPost_ret (v := .tuple #[.agg #[.bool n, .slice a zs.length ca, .slice b ds.length cb], .int .i64 0]) (by simp [results, Tryz.results8, go_sem, p0, p1, p2]) rfl ?_
  exact ⟨n, a, ca, b, cb, zs, ds, code, rfl, HR.out.1, HR.out.2.1, HR.out.2.2.1, HR.out.2.2.2⟩

end Go.Proofs.YtabkgpnckaaclaaGreatDoor

/- The document's own fractions: Mul, Quo: of any fractions, good or refused. -/
namespace Go.Proofs.YtabkgpnckaaclaaGreatDoor
open Go.RowKit
set_option linter.unusedVariables false

end Go.Proofs.YtabkgpnckaaclaaGreatDoor

/- Whole numbers that are lent to a call: slackwaterkit.LentWhole, KeptWhole; the law's own comparison. -/
namespace Go.Proofs.YtabkgpnckaaclaaGreatDoor
open Go.RowKit
set_option linter.unusedVariables false

theorem own_room {w : World} {base e n : Nat} {v : Value} {xs : List Value} (h : w.ownsRow base e 1 v n xs) (hn : 0 < n) : ∃ g cap, v = .slice (some ⟨g, 0, none⟩) n cap ∧ n ≤ cap ∧ cap ≤ 9223372036854775807 := by
  obtain ⟨g, cap, rfl, h1, h2⟩ := own_shape' h hn
  exact ⟨g, cap, rfl, h1, by unfold maxLen at h2; omega⟩

end Go.Proofs.YtabkgpnckaaclaaGreatDoor

/- Fractions that are lent to a call: slackwaterkit.LentRatio, KeptRatio. -/
namespace Go.Proofs.YtabkgpnckaaclaaGreatDoor
open Go.RowKit
set_option linter.unusedVariables false

set_option maxHeartbeats 6400000 in
set_option maxRecDepth 100000 in
theorem lentRatio_any (n : Bool) (a : Option Addr) (ca : Nat) (xs : List Int) (b : Option Addr) (cb : Nat) (ys : List Int) (w : World) (sx : Sl w (.slice a xs.length ca) xs) (sy : Sl w (.slice b ys.length cb) ys) (lx : xs.length ≤ 549755813888) (ly : ys.length ≤ 549755813888) :
    Calls Tryz.prog 6 #[.agg #[.bool n, .slice a xs.length ca, .slice b ys.length cb]] w fun e w' => ∃ g1 c1 g2 c2, e = .returned (.agg #[.bool n, .slice (some ⟨g1, 0, none⟩) xs.length c1, .slice (some ⟨g2, 0, none⟩) ys.length c2]) ∧ w'.ownsRow w.heap.size 88 1 (.slice (some ⟨g1, 0, none⟩) (xs.length + 3) c1) (xs.length + 3) ((xs ++ marks 3).map (Value.int .u32)) ∧ w'.ownsRow w.heap.size 88 1 (.slice (some ⟨g2, 0, none⟩) (ys.length + 3) c2) (ys.length + 3) ((ys ++ marks 3).map (Value.int .u32)) ∧ g1 < g2 ∧ Below w.heap.size w w' := by
  have HB : Hid (Below w.heap.size w ((w.alloc (.cells #[.bool n, .slice a xs.length ca, .slice b ys.length cb] 25)).alloc (.cells #[.bool false, .slice none 0 0, .slice none 0 0] 25))) := bt (alloc_later _ _) (alloc_later _ _)
  have HA : Hid (Box ((w.alloc (.cells #[.bool n, .slice a xs.length ca, .slice b ys.length cb] 25)).alloc (.cells #[.bool false, .slice none 0 0, .slice none 0 0] 25)) w.heap.size 25 #[.bool n, .slice a xs.length ca, .slice b ys.length cb]) := Box.later (Box.made w _ _) (alloc_later _ _) (by simp)
  have HZ : Hid (Box ((w.alloc (.cells #[.bool n, .slice a xs.length ca, .slice b ys.length cb] 25)).alloc (.cells #[.bool false, .slice none 0 0, .slice none 0 0] 25)) (w.heap.size + 1) 25 #[.bool false, .slice none 0 0, .slice none 0 0]) := by
    have e := Box.made (w.alloc (.cells #[.bool n, .slice a xs.length ca, .slice b ys.length cb] 25)) 25 #[.bool false, .slice none 0 0, .slice none 0 0]
    simp at e
    exact e
  have HS := hid (And.intro (sx.later HB.out) (sy.later HB.out))
  clear sx sy
  go_enter Tryz.func6, Tryz.ntmps6
  go_wp2_with fail
  generalize ((w.alloc (.cells #[.bool n, .slice a xs.length ca, .slice b ys.length cb] 25)).alloc (.cells #[.bool false, .slice none 0 0, .slice none 0 0] 25)) = X at *
  have HK : Hid (∀ V, Below X.heap.size X V → (V.cell? ⟨w.heap.size, 0, none⟩ = some (.bool n) ∧ V.cell? ⟨w.heap.size, 1, none⟩ = some (.slice a xs.length ca) ∧ V.cell? ⟨w.heap.size, 2, none⟩ = some (.slice b ys.length cb))) := fun V hb => by
    obtain ⟨p0, p1, p2, _, _, _⟩ := res_box3 HA.out hb
    exact ⟨p0, p1, p2⟩
  have hs0 := HK.out _ (Below.drew (Below.refl _ X))
  have HL1 : Hid (∀ V, Below X.heap.size X V → Calls Tryz.prog 34 #[.slice a xs.length ca] V fun e V' => ∃ g cap, e = .returned (.slice (some ⟨g, 0, none⟩) (xs.length + 3) cap) ∧ xs.length + 3 ≤ cap ∧ cap ≤ 9223372036854775807 ∧ (xs.length : Int) ≤ (cap : Int) ∧ Hid (V'.ownsRow X.heap.size 88 1 (.slice (some ⟨g, 0, none⟩) (xs.length + 3) cap) (xs.length + 3) ((xs ++ marks 3).map (Value.int .u32)) ∧ Below V.heap.size V V' ∧ Below X.heap.size X V' ∧ V.heap.size ≤ g ∧ g < V'.heap.size) ∧ (V'.cell? ⟨w.heap.size, 0, none⟩ = some (.bool n) ∧ V'.cell? ⟨w.heap.size, 1, none⟩ = some (.slice a xs.length ca) ∧ V'.cell? ⟨w.heap.size, 2, none⟩ = some (.slice b ys.length cb)) ∧ V'.cell? ⟨w.heap.size + 1, 0, none⟩ = some (.bool false) ∧ V'.cell? ⟨w.heap.size + 1, 1, none⟩ = some (.slice none 0 0) ∧ V'.cell? ⟨w.heap.size + 1, 2, none⟩ = some (.slice none 0 0) ∧ V'.frozen? ⟨w.heap.size + 1, 0, none⟩ = false ∧ V'.frozen? ⟨w.heap.size + 1, 1, none⟩ = false ∧ V'.frozen? ⟨w.heap.size + 1, 2, none⟩ = false) := fun V hb => by
    refine Calls.mono (lentWords_sl _ xs _ (HS.out.1.later hb) lx) ?_
    rintro e V' ⟨v1, rfl, o1, hb1⟩
    obtain ⟨g, cap, hv, h1, h2⟩ := own_room o1 (by omega)
    subst hv
    have hbX : Below X.heap.size X V' := bt hb hb1
    exact ⟨g, cap, rfl, h1, h2, by omega, ⟨owns_base o1 hb.size, hb1, hbX, (o1.lt g rfl).1, (o1.lt g rfl).2⟩, HK.out V' hbX, res_box3 HZ.out hbX⟩
  have HL2 : Hid (∀ V, Below X.heap.size X V → Calls Tryz.prog 34 #[.slice b ys.length cb] V fun e V' => ∃ g cap, e = .returned (.slice (some ⟨g, 0, none⟩) (ys.length + 3) cap) ∧ ys.length + 3 ≤ cap ∧ cap ≤ 9223372036854775807 ∧ (ys.length : Int) ≤ (cap : Int) ∧ Hid (V'.ownsRow X.heap.size 88 1 (.slice (some ⟨g, 0, none⟩) (ys.length + 3) cap) (ys.length + 3) ((ys ++ marks 3).map (Value.int .u32)) ∧ Below V.heap.size V V' ∧ Below X.heap.size X V' ∧ V.heap.size ≤ g ∧ g < V'.heap.size) ∧ (V'.cell? ⟨w.heap.size, 0, none⟩ = some (.bool n) ∧ V'.cell? ⟨w.heap.size, 1, none⟩ = some (.slice a xs.length ca) ∧ V'.cell? ⟨w.heap.size, 2, none⟩ = some (.slice b ys.length cb)) ∧ V'.cell? ⟨w.heap.size + 1, 0, none⟩ = some (.bool false) ∧ V'.cell? ⟨w.heap.size + 1, 1, none⟩ = some (.slice none 0 0) ∧ V'.cell? ⟨w.heap.size + 1, 2, none⟩ = some (.slice none 0 0) ∧ V'.frozen? ⟨w.heap.size + 1, 0, none⟩ = false ∧ V'.frozen? ⟨w.heap.size + 1, 1, none⟩ = false ∧ V'.frozen? ⟨w.heap.size + 1, 2, none⟩ = false) := fun V hb => by
    refine Calls.mono (lentWords_sl _ ys _ (HS.out.2.later hb) ly) ?_
    rintro e V' ⟨v1, rfl, o1, hb1⟩
    obtain ⟨g, cap, hv, h1, h2⟩ := own_room o1 (by omega)
    subst hv
    have hbX : Below X.heap.size X V' := bt hb hb1
    exact ⟨g, cap, rfl, h1, h2, by omega, ⟨owns_base o1 hb.size, hb1, hbX, (o1.lt g rfl).1, (o1.lt g rfl).2⟩, HK.out V' hbX, res_box3 HZ.out hbX⟩
  have hx0 : (0 : Int) ≤ (xs.length : Int) := by omega
  have hlx : xs.length ≤ 9223372036854775807 := by omega
  have hy0 : (0 : Int) ≤ (ys.length : Int) := by omega
  have hly : ys.length ≤ 9223372036854775807 := by omega
  clear HS HA
  go_region_held3 (fun V : World => (V.cell? ⟨w.heap.size, 0, none⟩ = some (.bool n) ∧ V.cell? ⟨w.heap.size, 1, none⟩ = some (.slice a xs.length ca) ∧ V.cell? ⟨w.heap.size, 2, none⟩ = some (.slice b ys.length cb))) (first | exact hs2 | exact hs1 | exact hs0 | (simp [hs2, World.cell?_setCell_far]))
    (first
      | (go_at_call 34; with_reducible refine Calls.mono (HL2.out _ HE1.out.2.2.1) ?_; rintro e w2 ⟨g2, c2, rfl, hd1, hd2, hd3, HE2, hs2, r0, r1, r2, f0, f1, f2⟩)
      | (go_at_call 34; with_reducible refine Calls.mono (HL1.out _ (Below.drew (Below.refl _ X))) ?_; rintro e w1 ⟨g1, c1, rfl, hc1, hc2, hc3, HE1, hs1, y0, y1, y2, z0, z1, z2⟩))
  all_goals
    have HZ2 := hid (HZ.out.later HE2.out.2.2.1 HZ.out.lt)
    have HO1 := hid (own_put3 (owns_base (owns_later HE1.out.1 HE2.out.2.1) HB.out.size) (w.heap.size + 1) (own_ne_box (owns_later HE1.out.1 HE2.out.2.1) HZ2.out (by decide)) (.bool n) (.slice (some ⟨g1, 0, none⟩) xs.length c1) (.slice (some ⟨g2, 0, none⟩) ys.length c2))
    have HO2 := hid (own_put3 (owns_base HE2.out.1 HB.out.size) (w.heap.size + 1) (own_ne_box HE2.out.1 HZ2.out (by decide)) (.bool n) (.slice (some ⟨g1, 0, none⟩) xs.length c1) (.slice (some ⟨g2, 0, none⟩) ys.length c2))
    have HBN := hid (below_put3 (bt HB.out HE2.out.2.2.1) (w.heap.size + 1) (by omega) (.bool n) (.slice (some ⟨g1, 0, none⟩) xs.length c1) (.slice (some ⟨g2, 0, none⟩) ys.length c2))
    have HG : Hid (g1 < g2) := by have e1 := HE1.out.2.2.2.2; have e2 := HE2.out.2.2.2.1; show _ < _; omega
    clear HK HL1 HL2 HE1 HE2 HZ HB HZ2 hs0 hs1 hs2 y0 y1 y2 z0 z1 z2
    go_wp2_with fail
    refine bodyPost_ret (v := .agg #[.bool n, .slice (some ⟨g1, 0, none⟩) xs.length c1, .slice (some ⟨g2, 0, none⟩) ys.length c2]) (by simp [results, Tryz.results6, go_sem, r0, r1, r2]) rfl ?_
    exact ⟨g1, c1, g2, c2, rfl, HO1.out, HO2.out, HG.out, HBN.out⟩

set_option maxHeartbeats 6400000 in
set_option maxRecDepth 100000 in
theorem keptRatio_any (n : Bool) (a : Option Addr) (ca : Nat) (xs : List Int) (b : Option Addr) (cb : Nat) (ys : List Int) (g1 c1 g2 c2 base : Nat) (w : World) (sx : Sl w (.slice a xs.length ca) xs) (sy : Sl w (.slice b ys.length cb) ys) (lx : xs.length ≤ 274877906944) (ly : ys.length ≤ 274877906944) (o1 : w.ownsRow base 88 1 (.slice (some ⟨g1, 0, none⟩) (xs.length + 3) c1) (xs.length + 3) ((xs ++ marks 3).map (Value.int .u32))) (o2 : w.ownsRow base 88 1 (.slice (some ⟨g2, 0, none⟩) (ys.length + 3) c2) (ys.length + 3) ((ys ++ marks 3).map (Value.int .u32))) :
    Calls Tryz.prog 21 #[.agg #[.bool n, .slice (some ⟨g1, 0, none⟩) xs.length c1, .slice (some ⟨g2, 0, none⟩) ys.length c2], .agg #[.bool n, .slice a xs.length ca, .slice b ys.length cb]] w fun e w' => e = .returned (.bool true) ∧ Below w.heap.size w w' := by
  have hcap1 : xs.length + 3 ≤ c1 ∧ c1 ≤ 9223372036854775807 := by
    obtain ⟨g', cap', hv, h1, h2⟩ := own_room o1 (by omega)
    simp only [Value.slice.injEq, Option.some.injEq, Addr.mk.injEq, and_true, true_and] at hv
    obtain ⟨rfl, rfl⟩ := hv
    exact ⟨h1, h2⟩
  have wf1 : Wd (xs ++ marks 3) := sx.wd.append (Wd.marks 3)
  have lf1 : (xs ++ marks 3).length = xs.length + 3 := by rw [List.length_append, marks_len 3 (by omega)]
  have hcap2 : ys.length + 3 ≤ c2 ∧ c2 ≤ 9223372036854775807 := by
    obtain ⟨g', cap', hv, h1, h2⟩ := own_room o2 (by omega)
    simp only [Value.slice.injEq, Option.some.injEq, Addr.mk.injEq, and_true, true_and] at hv
    obtain ⟨rfl, rfl⟩ := hv
    exact ⟨h1, h2⟩
  have wf2 : Wd (ys ++ marks 3) := sy.wd.append (Wd.marks 3)
  have lf2 : (ys ++ marks 3).length = ys.length + 3 := by rw [List.length_append, marks_len 3 (by omega)]
  have HO := hid (And.intro (Sl.own o1 wf1) (Sl.own o2 wf2))
  have HS := hid (And.intro sx sy)
  have HB : Hid (Below w.heap.size w ((w.alloc (.cells #[.bool n, .slice (some ⟨g1, 0, none⟩) xs.length c1, .slice (some ⟨g2, 0, none⟩) ys.length c2] 25)).alloc (.cells #[.bool n, .slice a xs.length ca, .slice b ys.length cb] 25))) := bt (alloc_later _ _) (alloc_later _ _)
  have HA : Hid (Box ((w.alloc (.cells #[.bool n, .slice (some ⟨g1, 0, none⟩) xs.length c1, .slice (some ⟨g2, 0, none⟩) ys.length c2] 25)).alloc (.cells #[.bool n, .slice a xs.length ca, .slice b ys.length cb] 25)) w.heap.size 25 #[.bool n, .slice (some ⟨g1, 0, none⟩) xs.length c1, .slice (some ⟨g2, 0, none⟩) ys.length c2]) := Box.later (Box.made w _ _) (alloc_later _ _) (by simp)
  have HZ : Hid (Box ((w.alloc (.cells #[.bool n, .slice (some ⟨g1, 0, none⟩) xs.length c1, .slice (some ⟨g2, 0, none⟩) ys.length c2] 25)).alloc (.cells #[.bool n, .slice a xs.length ca, .slice b ys.length cb] 25)) (w.heap.size + 1) 25 #[.bool n, .slice a xs.length ca, .slice b ys.length cb]) := by
    have e := Box.made (w.alloc (.cells #[.bool n, .slice (some ⟨g1, 0, none⟩) xs.length c1, .slice (some ⟨g2, 0, none⟩) ys.length c2] 25)) 25 #[.bool n, .slice a xs.length ca, .slice b ys.length cb]
    simp at e
    exact e
  have hc1 := hcap1.1
  have hm1 := hcap1.2
  have hll1 : ((xs.length : Int) == (xs.length : Int)) = true := by simp
  have hx1 : (0 : Int) ≤ (xs.length : Int) + 3 := by omega
  have hxc1 : (xs.length : Int) + 3 ≤ (c1 : Int) := by omega
  have hwr1 : IntKind.i64.wrap ((xs.length : Int) + 3) = (xs.length : Int) + 3 := by rw [IntKind.wrap_i64]; omega
  have htn1 : ((xs.length : Int) + 3).toNat = xs.length + 3 := by omega
  have hc2 := hcap2.1
  have hm2 := hcap2.2
  have hll2 : ((ys.length : Int) == (ys.length : Int)) = true := by simp
  have hx2 : (0 : Int) ≤ (ys.length : Int) + 3 := by omega
  have hxc2 : (ys.length : Int) + 3 ≤ (c2 : Int) := by omega
  have hwr2 : IntKind.i64.wrap ((ys.length : Int) + 3) = (ys.length : Int) + 3 := by rw [IntKind.wrap_i64]; omega
  have htn2 : ((ys.length : Int) + 3).toNat = ys.length + 3 := by omega
  have hnn : (n == n) = true := by simp
  clear o1 o2 hcap1 hcap2 sx sy
  go_enter Tryz.func21, Tryz.ntmps21
  go_wp2_with fail
  generalize ((w.alloc (.cells #[.bool n, .slice (some ⟨g1, 0, none⟩) xs.length c1, .slice (some ⟨g2, 0, none⟩) ys.length c2] 25)).alloc (.cells #[.bool n, .slice a xs.length ca, .slice b ys.length cb] 25)) = X at *
  have HK : Hid (∀ V, Below X.heap.size X V → (V.cell? ⟨w.heap.size, 0, none⟩ = some (.bool n) ∧ V.cell? ⟨w.heap.size, 1, none⟩ = some (.slice (some ⟨g1, 0, none⟩) xs.length c1) ∧ V.cell? ⟨w.heap.size, 2, none⟩ = some (.slice (some ⟨g2, 0, none⟩) ys.length c2) ∧ V.cell? ⟨w.heap.size + 1, 0, none⟩ = some (.bool n) ∧ V.cell? ⟨w.heap.size + 1, 1, none⟩ = some (.slice a xs.length ca) ∧ V.cell? ⟨w.heap.size + 1, 2, none⟩ = some (.slice b ys.length cb))) := fun V hb => by
    obtain ⟨p0, p1, p2, _, _, _⟩ := res_box3 HA.out hb
    obtain ⟨q0, q1, q2, _, _, _⟩ := res_box3 HZ.out hb
    exact ⟨p0, p1, p2, q0, q1, q2⟩
  have hs0 := HK.out _ (Below.drew (Below.refl _ X))
  have HL1 : Hid (∀ V, Below X.heap.size X V → Calls Tryz.prog 55 #[.slice (some ⟨g1, 0, none⟩) (xs.length + 3) c1, .slice a xs.length ca] V fun e V' => e = .returned (.bool true) ∧ Hid (Below X.heap.size X V') ∧ (V'.cell? ⟨w.heap.size, 0, none⟩ = some (.bool n) ∧ V'.cell? ⟨w.heap.size, 1, none⟩ = some (.slice (some ⟨g1, 0, none⟩) xs.length c1) ∧ V'.cell? ⟨w.heap.size, 2, none⟩ = some (.slice (some ⟨g2, 0, none⟩) ys.length c2) ∧ V'.cell? ⟨w.heap.size + 1, 0, none⟩ = some (.bool n) ∧ V'.cell? ⟨w.heap.size + 1, 1, none⟩ = some (.slice a xs.length ca) ∧ V'.cell? ⟨w.heap.size + 1, 2, none⟩ = some (.slice b ys.length cb))) := fun V hb => by
    have e := keptWords_sl _ _ (xs ++ marks 3) xs V (HO.out.1.later (bt HB.out hb)) (HS.out.1.later (bt HB.out hb)) (by omega) lx
    rw [decide_eq_true rfl] at e
    refine Calls.mono e ?_
    rintro e V' ⟨rfl, hb1⟩
    have hbX : Below X.heap.size X V' := bt hb hb1
    exact ⟨rfl, hbX, HK.out V' hbX⟩
  have HL2 : Hid (∀ V, Below X.heap.size X V → Calls Tryz.prog 55 #[.slice (some ⟨g2, 0, none⟩) (ys.length + 3) c2, .slice b ys.length cb] V fun e V' => e = .returned (.bool true) ∧ Hid (Below X.heap.size X V') ∧ (V'.cell? ⟨w.heap.size, 0, none⟩ = some (.bool n) ∧ V'.cell? ⟨w.heap.size, 1, none⟩ = some (.slice (some ⟨g1, 0, none⟩) xs.length c1) ∧ V'.cell? ⟨w.heap.size, 2, none⟩ = some (.slice (some ⟨g2, 0, none⟩) ys.length c2) ∧ V'.cell? ⟨w.heap.size + 1, 0, none⟩ = some (.bool n) ∧ V'.cell? ⟨w.heap.size + 1, 1, none⟩ = some (.slice a xs.length ca) ∧ V'.cell? ⟨w.heap.size + 1, 2, none⟩ = some (.slice b ys.length cb))) := fun V hb => by
    have e := keptWords_sl _ _ (ys ++ marks 3) ys V (HO.out.2.later (bt HB.out hb)) (HS.out.2.later (bt HB.out hb)) (by omega) ly
    rw [decide_eq_true rfl] at e
    refine Calls.mono e ?_
    rintro e V' ⟨rfl, hb1⟩
    have hbX : Below X.heap.size X V' := bt hb hb1
    exact ⟨rfl, hbX, HK.out V' hbX⟩
  clear HA HZ wf1 wf2 lf1 lf2 HO HS
  go_region_held3 (fun V : World => (V.cell? ⟨w.heap.size, 0, none⟩ = some (.bool n) ∧ V.cell? ⟨w.heap.size, 1, none⟩ = some (.slice (some ⟨g1, 0, none⟩) xs.length c1) ∧ V.cell? ⟨w.heap.size, 2, none⟩ = some (.slice (some ⟨g2, 0, none⟩) ys.length c2) ∧ V.cell? ⟨w.heap.size + 1, 0, none⟩ = some (.bool n) ∧ V.cell? ⟨w.heap.size + 1, 1, none⟩ = some (.slice a xs.length ca) ∧ V.cell? ⟨w.heap.size + 1, 2, none⟩ = some (.slice b ys.length cb))) (first | exact hs2 | exact hs1 | exact hs0 | exact HK.out _ (Below.drew HE1.out))
    (first
      | (go_at_call 55; with_reducible refine Calls.mono (HL2.out _ (by first | exact HE1.out | exact Below.drew HE1.out)) ?_; rintro e w2 ⟨rfl, HE2, hs2⟩)
      | (go_at_call 55; with_reducible refine Calls.mono (HL1.out _ (Below.drew (Below.refl _ X))) ?_; rintro e w1 ⟨rfl, HE1, hs1⟩))
  all_goals
    have HBN := hid (bt HB.out HE2.out)
    clear HK HL1 HL2 HE1 HE2 HB hs0 hs1 hs2
    go_wp2_with fail
    go_ret
    exact ⟨rfl, HBN.out⟩
end Go.Proofs.YtabkgpnckaaclaaGreatDoor

/- The document's own fractions: copied, opposite. -/
namespace Go.Proofs.YtabkgpnckaaclaaGreatDoor
open Go.RowKit
set_option linter.unusedVariables false

end Go.Proofs.YtabkgpnckaaclaaGreatDoor

/- The document's opposite of a fraction below 0. -/
namespace Go.Proofs.YtabkgpnckaaclaaGreatDoor
open Go.RowKit
set_option linter.unusedVariables false

end Go.Proofs.YtabkgpnckaaclaaGreatDoor

/- The document's own fractions: Neg, Sub: of any fractions, good or refused. -/
namespace Go.Proofs.YtabkgpnckaaclaaGreatDoor
open Go.RowKit
set_option linter.unusedVariables false

end Go.Proofs.YtabkgpnckaaclaaGreatDoor

/- Fractions that are not too long, by how many bits they have. Nothing here speaks of the program. -/
namespace Go.Proofs.YtabkgpnckaaclaaGreatDoor
open Go.RowKit
set_option linter.unusedVariables false

theorem te_divInt {n : Int} {d : Nat} {k : Nat} (hd : d ≠ 0) (h1 : n.natAbs ≤ k) (h2 : d ≤ k) : (Rat.divInt n d).num.natAbs ≤ k ∧ (Rat.divInt n d).den ≤ k := by
  have e : Rat.divInt n d = mkRat n d := Rat.divInt_ofNat n d
  rw [e]
  have e2 := Rat.normalize_eq_mkRat (num := n) (den := d) hd
  rw [← e2, Rat.normalize_eq]
  exact ⟨by
    show (n / _).natAbs ≤ k
    exact Nat.le_trans (by rw [Int.natAbs_ediv_of_dvd (Int.ofNat_dvd_left.2 (Nat.gcd_dvd_left _ _)), Int.natAbs_natCast]; exact Nat.div_le_self _ _) h1, Nat.le_trans (Nat.div_le_self _ _) h2⟩
theorem te_ppw (m : Nat) : (4294967296 : Int) ^ m = ((2 ^ (32 * m) : Nat) : Int) := by rw [Nat.pow_mul, Int.natCast_pow]; rfl
theorem te_pshort {q : Rat} {k : Nat} (h1 : q.num.natAbs ≤ 2 ^ k) (h2 : q.den ≤ 2 ^ k) (hk : k < 65536) : ¬ rlong q := by
  have e0 : ∀ m, m = 2048 → wlim = ((2 ^ (32 * m) : Nat) : Int) := fun m hm => by rw [← te_ppw, hm]; rfl
  obtain ⟨m, hm⟩ : ∃ m : Nat, m = 2048 := ⟨_, rfl⟩
  have e1 := e0 m hm
  have e3 : 2 ^ k < 2 ^ (32 * m) := Nat.pow_lt_pow_right (by omega) (by omega)
  generalize 2 ^ (32 * m) = M at e1 e3
  generalize 2 ^ k = K at e3 h1 h2
  unfold rlong
  rw [e1]
  rintro (h | h) <;> omega
end Go.Proofs.YtabkgpnckaaclaaGreatDoor

/- real.Within of any finite float and bound: both ends, and the two comparisons. -/
namespace Go.Proofs.YtabkgpnckaaclaaGreatDoor
open Go.RowKit
set_option linter.unusedVariables false

end Go.Proofs.YtabkgpnckaaclaaGreatDoor

/- The document's own floats (slackwaterref06): Within; sums of floats are not too long. -/
namespace Go.Proofs.YtabkgpnckaaclaaGreatDoor
open Go.RowKit
set_option linter.unusedVariables false

theorem nd_svb {x : Nat} (hx : Fi x) {E : Nat} (hE : E = 2098) : (sv x).natAbs ≤ 2 ^ E := by
  have key : ∀ r, r < 9218868437227405312 → rungVal r ≤ 2 ^ E := fun r hr => by
    have h1 := rungVal_lt hr
    obtain ⟨M, hM⟩ : ∃ M, M = 2045 := ⟨_, rfl⟩
    have h2 := rungVal_count (E := M) (K := 9007199254740992) (by omega) (fun _ => by omega)
    rw [show M * 4503599627370496 + 9007199254740992 = 9218868437227405312 by omega] at h2
    rw [h2, show (9007199254740992 : Nat) = 2 ^ 53 by decide, ← Nat.pow_add, show 53 + M = E by omega] at h1
    omega
  have h := hx.2
  rcases sv_at hx.1 with ⟨g, e⟩ | ⟨t, rfl, g, e⟩
  · rw [e]
    have := key x (by omega)
    omega
  · rw [e]
    have := key t (by omega)
    omega
theorem nd_shortA {A : Int} {E : Nat} (hE : E = 2099) (h : A.natAbs ≤ 2 ^ E) : ¬ rlong (Rat.divInt A (2 ^ zP)) := by
  obtain ⟨Z, hZ⟩ : ∃ Z, Z = 1074 := ⟨_, rfl⟩
  have hzP : zP = Z := by rw [hZ]; rfl
  rw [hzP]
  have e : (2 : Int) ^ Z = ((2 ^ Z : Nat) : Int) := by rw [Int.natCast_pow]; rfl
  rw [e]
  have h0 := Nat.two_pow_pos Z
  obtain ⟨h1, h2⟩ := te_divInt (k := 2 ^ E) (show 2 ^ Z ≠ 0 by omega) h (Nat.pow_le_pow_right (by decide) (by omega))
  exact te_pshort h1 h2 (by omega)
theorem nd_short1 {x : Nat} (hx : Fi x) : ¬ rlong (fq x) := by
  rw [fq_sv hx.1]
  obtain ⟨E, hE⟩ : ∃ E : Nat, E = 2098 := ⟨_, rfl⟩
  have := nd_svb hx hE
  exact nd_shortA (E := E + 1) (by omega) (by rw [Nat.pow_succ]; omega)
end Go.Proofs.YtabkgpnckaaclaaGreatDoor

/- The document's own floats (slackwaterref06): next, Next, Gap; the program's Gap by its value, Gap, Compare, Within refused; Compare of any finite float. -/
namespace Go.Proofs.YtabkgpnckaaclaaGreatDoor
open Go.RowKit
set_option linter.unusedVariables false

end Go.Proofs.YtabkgpnckaaclaaGreatDoor

/- real.Compare of any float and fraction; real.Within refused; both beside the document's. -/
namespace Go.Proofs.YtabkgpnckaaclaaGreatDoor
open Go.RowKit
set_option linter.unusedVariables false

end Go.Proofs.YtabkgpnckaaclaaGreatDoor

/- real's calls and the document's, each beside the other, of any float: Exact, Compare, Within, Gap. -/
namespace Go.Proofs.YtabkgpnckaaclaaGreatDoor
open Go.RowKit
set_option linter.unusedVariables false

/-- What Compare tells. -/
def CmpT (x : Nat) (n : Bool) (xs ys : List Int) (v e : Int) : Prop :=
  (fin x = false ∧ v = 0 ∧ e = 8) ∨ (fin x = true ∧ ∃ k zs ds code, RTells 0 (fq x) k zs ds code ∧ v = rcmp k zs ds n xs ys ∧ e = rboth k zs ds n xs ys)
theorem CmpT.one {x : Nat} {n : Bool} {xs ys : List Int} {v e u f : Int} (h : CmpT x n xs ys v e) (g : CmpT x n xs ys u f) : v = u ∧ e = f := by
  rcases h with ⟨h1, h2, h3⟩ | ⟨h1, k, zs, ds, c, ht, h2, h3⟩
  · rcases g with ⟨g1, g2, g3⟩ | ⟨g1, _⟩
    · exact ⟨by rw [h2, g2], by rw [h3, g3]⟩
    · rw [h1] at g1; cases g1
  · rcases g with ⟨g1, _⟩ | ⟨g1, k', zs', ds', c', gt, g2, g3⟩
    · rw [h1] at g1; cases g1
    · obtain ⟨rfl, rfl, rfl, _⟩ := ht.same gt
      exact ⟨by rw [h2, g2], by rw [h3, g3]⟩
/-- Two lists that lie apart. -/
def Ap (v u : Value) : Prop := v.ownBlock = none ∨ v.ownBlock ≠ u.ownBlock
theorem Ap.far {v u : Value} {a b c d : Nat} (h : Within v a b) (g : Within u c d) (hd : b ≤ c ∨ d ≤ a) : Ap v u := by
  cases e : v.ownBlock with
  | none => exact .inl e
  | some k =>
    refine .inr ?_
    intro f
    rw [e] at f
    have h1 := h k e
    have h2 := g k f.symm
    omega
theorem Ap.turn {v u : Value} (h : Ap v u) : Ap u v := by
  cases e : u.ownBlock with
  | none => exact .inl e
  | some k =>
    refine .inr ?_
    intro f
    rcases h with h | h
    · rw [e] at f; rw [h] at f; cases f
    · exact h f.symm
theorem Ap.rows {w : World} {base n m c d : Nat} {a b : Option Addr} {xs ys : List Value} (h : w.ownsRow base 88 1 (.slice a n c) n xs) (g : w.ownsRow base 88 1 (.slice b m d) m ys) (hab : a = none ∨ a ≠ b) : Ap (.slice a n c) (.slice b m d) := by
  rcases h.2 with ⟨h1, _⟩ | ⟨k, cap, cur, hv, _⟩
  · cases h1; exact .inl rfl
  · rcases g.2 with ⟨g1, _⟩ | ⟨l, cap', cur', gv, _⟩
    · cases g1
      cases hv
      exact .inr (by simp [Value.ownBlock])
    · cases hv
      cases gv
      refine .inr ?_
      rcases hab with hab | hab
      · cases hab
      · intro e
        simp [Value.ownBlock] at e
        exact hab (by rw [e])
theorem Within.owns {w : World} {base n : Nat} {v : Value} {xs : List Value} (h : w.ownsRow base 88 1 v n xs) : Within v base w.heap.size := fun g hg => h.lt g hg
end Go.Proofs.YtabkgpnckaaclaaGreatDoor

/- parts.Exact, of numbers whose parts are finite and not 0. -/
namespace Go.Proofs.YtabkgpnckaaclaaGreatDoor
open Go.RowKit
set_option linter.unusedVariables false

def put6 (W : World) (b : Nat) (v0 v1 v2 v3 v4 v5 : Value) : World := (((((W.setCell ⟨b, 0, none⟩ v0).setCell ⟨b, 1, none⟩ v1).setCell ⟨b, 2, none⟩ v2).setCell ⟨b, 3, none⟩ v3).setCell ⟨b, 4, none⟩ v4).setCell ⟨b, 5, none⟩ v5
theorem own_put6 {W : World} {base e n b t : Nat} {v : Value} {xs : List Value} {vs : Array Value} (h : W.ownsRow base e 1 v n xs) (hb : Box W b t vs) (hne : e ≠ t) (v0 v1 v2 v3 v4 v5 : Value) : (put6 W b v0 v1 v2 v3 v4 v5).ownsRow base e 1 v n xs := by
  have k := own_ne_box h hb hne
  exact own_put1 (own_put1 (own_put1 (own_put1 (own_put1 (own_put1 h b k 0 v0) b k 1 v1) b k 2 v2) b k 3 v3) b k 4 v4) b k 5 v5
theorem OwnR.put6 {w : World} {base p t : Nat} {a : Option Addr} {ca : Nat} {zs : List Int} {b : Option Addr} {cb : Nat} {ds : List Int} {vs : Array Value} (h : OwnR w base a ca zs b cb ds) (hb : Box w p t vs) (hne : 88 ≠ t) (v0 v1 v2 v3 v4 v5 : Value) : OwnR (Go.Proofs.YtabkgpnckaaclaaGreatDoor.put6 w p v0 v1 v2 v3 v4 v5) base a ca zs b cb ds :=
  ⟨own_put6 h.1 hb hne _ _ _ _ _ _, own_put6 h.2.1 hb hne _ _ _ _ _ _, h.2.2⟩
theorem below_put6 {B : Nat} {w V : World} {p : Nat} (h : Below B w V) (hp : B ≤ p) (v0 v1 v2 v3 v4 v5 : Value) : Below B w (put6 V p v0 v1 v2 v3 v4 v5) :=
  (((((h.setCell (p := ⟨p, 0, none⟩) hp v0).setCell (p := ⟨p, 1, none⟩) hp v1).setCell (p := ⟨p, 2, none⟩) hp v2).setCell (p := ⟨p, 3, none⟩) hp v3).setCell (p := ⟨p, 4, none⟩) hp v4).setCell (p := ⟨p, 5, none⟩) hp v5

end Go.Proofs.YtabkgpnckaaclaaGreatDoor

/- Complex fractions: gauss.Check; the steps' own: look, next. -/
namespace Go.Proofs.YtabkgpnckaaclaaGreatDoor
open Go.RowKit
set_option linter.unusedVariables false

/-- The first error, else the second. -/
def fstE (E e : Int) : Int := if E = 0 then e else E
theorem fstE_zero (e : Int) : fstE 0 e = e := if_pos rfl
theorem fstE_err {E : Int} (e : Int) (h : E ≠ 0) : fstE E e = E := if_neg h
/-- What Check tells of two parts. -/
def gchk (n : Bool) (xs ys : List Int) (m : Bool) (us vs : List Int) : Int := fstE (rchk n xs ys) (rchk m us vs)

set_option maxHeartbeats 800000 in
set_option maxRecDepth 100000 in
theorem gcheck_any (n : Bool) (v : Value) (xs : List Int) (u : Value) (ys : List Int) (m : Bool) (v' : Value) (us : List Int) (u' : Value) (vs : List Int) (w : World) (h1 : Sl w v xs) (h2 : Sl w u ys) (h3 : Sl w v' us) (h4 : Sl w u' vs) :
    Calls Tryz.prog 58 #[.agg #[.bool n, v, u, .bool m, v', u']] w fun e w' => e = .returned (.int .i64 (gchk n xs ys m us vs)) ∧ Below w.heap.size w w' := by
  have HX := hid (Box.made w 45 #[.bool n, v, u, .bool m, v', u'])
  have HB := hid (alloc_later w (.cells #[.bool n, v, u, .bool m, v', u'] 45))
  have H1 : Hid (∀ V, Below w.heap.size w V → Calls Tryz.prog 40 #[.agg #[.bool n, v, u]] V fun e w' => e = .returned (.int .i64 (rchk n xs ys)) ∧ Below V.heap.size V w') := fun V hv => rcheck_any n v xs u ys V (h1.later hv) (h2.later hv)
  have H2 : Hid (∀ V, Below w.heap.size w V → Calls Tryz.prog 40 #[.agg #[.bool m, v', u']] V fun e w' => e = .returned (.int .i64 (rchk m us vs)) ∧ Below V.heap.size V w') := fun V hv => rcheck_any m v' us u' vs V (h3.later hv) (h4.later hv)
  obtain ⟨a, ca, rfl, _⟩ := h1
  obtain ⟨b, cb, rfl, _⟩ := h2
  obtain ⟨c, cc, rfl, _⟩ := h3
  obtain ⟨d, cd, rfl, _⟩ := h4
  have HF : Hid (∀ E, E = rchk n xs ys → (E = 0 → gchk n xs ys m us vs = rchk m us vs) ∧ (E ≠ 0 → gchk n xs ys m us vs = E)) := fun E hE => by
    subst hE
    exact ⟨fun h => by unfold gchk; rw [h, fstE_zero], fun h => fstE_err _ h⟩
  have HF := hid (HF.out _ rfl)
  generalize rchk n xs ys = E at *
  generalize rchk m us vs = F at *
  generalize gchk n xs ys m us vs = G at *
  go_enter Tryz.func58, Tryz.ntmps58
  go_wp2_with fail
  generalize w.alloc (.cells #[.bool n, .slice a xs.length ca, .slice b ys.length cb, .bool m, .slice c us.length cc, .slice d vs.length cd] 45) = X at *
  refine Calls.mono (H1.out _ HB.out) ?_
  rintro e w1 ⟨rfl, hb1⟩
  have HB1 := hid (bt HB.out hb1)
  have HX1 := hid (HX.out.later hb1 HX.out.lt)
  have k3 : w1.cell? ⟨w.heap.size, 3, none⟩ = some (.bool m) := HX1.out.cell 3
  have k4 : w1.cell? ⟨w.heap.size, 4, none⟩ = some (.slice c us.length cc) := HX1.out.cell 4
  have k5 : w1.cell? ⟨w.heap.size, 5, none⟩ = some (.slice d vs.length cd) := HX1.out.cell 5
  clear hb1 HX HX1 HB
  by_cases h : E = 0
  · subst h
    have HR := hid (HF.out.1 rfl)
    clear HF H1
    go_wp2_with fail
    refine Calls.mono (H2.out _ HB1.out) ?_
    rintro e w2 ⟨rfl, hb2⟩
    have HB2 := hid (bt HB1.out hb2)
    clear hb2
    go_wp2_with fail
    go_ret
    exact ⟨ret_int HR.out.symm, HB2.out⟩
  · have HR := hid (HF.out.2 h)
    have h' : (E == 0) = false := by simp [h]
    clear HF H1 H2
    go_wp2_with fail
    go_ret
    exact ⟨ret_int HR.out.symm, HB1.out⟩

end Go.Proofs.YtabkgpnckaaclaaGreatDoor

/- parts.Exact of every number whose parts are finite, of one that is not; parts.Nearest. -/
namespace Go.Proofs.YtabkgpnckaaclaaGreatDoor
open Go.RowKit
set_option linter.unusedVariables false

end Go.Proofs.YtabkgpnckaaclaaGreatDoor

/- parts.Nearest, of every complex fraction. -/
namespace Go.Proofs.YtabkgpnckaaclaaGreatDoor
open Go.RowKit
set_option linter.unusedVariables false

end Go.Proofs.YtabkgpnckaaclaaGreatDoor

/- parts.Exact of numbers that are not finite; math.Nextafter towards the infinities. -/
namespace Go.Proofs.YtabkgpnckaaclaaGreatDoor
open Go.RowKit
set_option linter.unusedVariables false

/-- A box of nothings keeps under stores of nothings. -/
theorem zero_box {W : World} {b : Nat} (h : Box W b 25 #[.bool false, .slice none 0 0, .slice none 0 0]) : (W.cell? ⟨b, 0, none⟩ = some (.bool false) ∧ W.cell? ⟨b, 1, none⟩ = some (.slice none 0 0) ∧ W.cell? ⟨b, 2, none⟩ = some (.slice none 0 0)) ∧ (W.frozen? ⟨b, 0, none⟩ = false ∧ W.frozen? ⟨b, 1, none⟩ = false ∧ W.frozen? ⟨b, 2, none⟩ = false) ∧ W.setCell ⟨b, 0, none⟩ (.bool false) = W ∧ W.setCell ⟨b, 1, none⟩ (.slice none 0 0) = W ∧ W.setCell ⟨b, 2, none⟩ (.slice none 0 0) = W :=
  ⟨⟨h.cell 0, h.cell 1, h.cell 2⟩, ⟨h.free 0, h.free 1, h.free 2⟩, h.same rfl, h.same rfl, h.same rfl⟩
theorem zero_box6 {W : World} {b : Nat} (h : Box W b 45 #[.bool false, .slice none 0 0, .slice none 0 0, .bool false, .slice none 0 0, .slice none 0 0]) : (W.cell? ⟨b, 0, none⟩ = some (.bool false) ∧ W.cell? ⟨b, 1, none⟩ = some (.slice none 0 0) ∧ W.cell? ⟨b, 2, none⟩ = some (.slice none 0 0) ∧ W.cell? ⟨b, 3, none⟩ = some (.bool false) ∧ W.cell? ⟨b, 4, none⟩ = some (.slice none 0 0) ∧ W.cell? ⟨b, 5, none⟩ = some (.slice none 0 0)) ∧ (W.frozen? ⟨b, 0, none⟩ = false ∧ W.frozen? ⟨b, 1, none⟩ = false ∧ W.frozen? ⟨b, 2, none⟩ = false ∧ W.frozen? ⟨b, 3, none⟩ = false ∧ W.frozen? ⟨b, 4, none⟩ = false ∧ W.frozen? ⟨b, 5, none⟩ = false) ∧ W.setCell ⟨b, 0, none⟩ (.bool false) = W ∧ W.setCell ⟨b, 1, none⟩ (.slice none 0 0) = W ∧ W.setCell ⟨b, 2, none⟩ (.slice none 0 0) = W ∧ W.setCell ⟨b, 3, none⟩ (.bool false) = W ∧ W.setCell ⟨b, 4, none⟩ (.slice none 0 0) = W ∧ W.setCell ⟨b, 5, none⟩ (.slice none 0 0) = W :=
  ⟨⟨h.cell 0, h.cell 1, h.cell 2, h.cell 3, h.cell 4, h.cell 5⟩, ⟨h.free 0, h.free 1, h.free 2, h.free 3, h.free 4, h.free 5⟩, h.same rfl, h.same rfl, h.same rfl, h.same rfl, h.same rfl, h.same rfl⟩

set_option maxHeartbeats 1600000 in
set_option maxRecDepth 100000 in
theorem pexact_bad (x y : Nat) (w : World) (hx : x < 18446744073709551616) (hy : y < 18446744073709551616) (hT : TabB w) (hf : (fin x && fin y) = false) :
    Calls Tryz.prog 27 #[.complex .f64 x y] w fun e w' => e = .returned (.tuple #[.agg #[.bool false, .slice none 0 0, .slice none 0 0, .bool false, .slice none 0 0, .slice none 0 0], .int .i64 8]) ∧ Below w.heap.size w w' := by
  obtain ⟨X, hX⟩ : ∃ X, w.alloc (.cells #[.bool false, .slice none 0 0, .slice none 0 0, .bool false, .slice none 0 0, .slice none 0 0] 45) = X := ⟨_, rfl⟩
  have b1 : Below w.heap.size w X := by rw [← hX]; exact alloc_later _ _
  have HP : Hid (Box X w.heap.size 45 #[.bool false, .slice none 0 0, .slice none 0 0, .bool false, .slice none 0 0, .slice none 0 0]) := by rw [← hX]; exact Box.made w _ _
  have HB1 := hid b1
  have HT1 := hid (hT.later b1)
  clear b1 hT
  by_cases h1 : fin x = true
  · have h2 : fin y = false := by rw [h1, Bool.true_and] at hf; exact hf
    have HE := hid (exact_fin x X ((fi_fin hx).1 h1) HT1.out)
    have HY := hid (fun V => exact_bad y V hy h2)
    clear hx hy hf h1 h2
    go_enter Tryz.func27, Tryz.ntmps27
    go_wp2_with fail
    clear hX
    refine Calls.mono HE.out ?_
    rintro e w2 ⟨n, a, ca, b, cb, xs, ys, rfl, _, _, _, _, _, b2⟩
    obtain ⟨Y, hY⟩ : ∃ Y, w2.alloc (.cells #[.bool n, .slice a xs.length ca, .slice b ys.length cb] 25) = Y := ⟨_, rfl⟩
    have b3 : Below w2.heap.size w2 Y := by rw [← hY]; exact alloc_later _ _
    have HXY := hid (bt b2 b3)
    have HY2 := hid (HY.out Y)
    clear HE b2 b3 HY
    go_wp2_with fail
    clear hY
    refine Calls.mono HY2.out ?_
    rintro e w3 ⟨rfl, b4⟩
    obtain ⟨Z, hZ⟩ : ∃ Z, w3.alloc (.cells #[.bool false, .slice none 0 0, .slice none 0 0] 25) = Z := ⟨_, rfl⟩
    have b5 : Below w3.heap.size w3 Z := by rw [← hZ]; exact alloc_later _ _
    have hz3 : Box Z w3.heap.size 25 #[.bool false, .slice none 0 0, .slice none 0 0] := by rw [← hZ]; exact Box.made w3 _ _
    have h6 := HP.out.later (bt HXY.out (bt b4 b5)) HP.out.lt
    obtain ⟨⟨p0, p1, p2⟩, ⟨q0, q1, q2⟩, r0, r1, r2⟩ := zero_box hz3
    obtain ⟨⟨s0, s1, s2, s3, s4, s5⟩, ⟨t0, t1, t2, t3, t4, t5⟩, v0, v1, v2, v3, v4, v5⟩ := zero_box6 h6
    have HFI := hid (bt HB1.out (bt HXY.out (bt b4 b5)))
    clear HY2 b4 b5 hz3 h6
    go_wp2_with fail
    refine bodyPost_ret (v := .tuple #[.agg #[.bool false, .slice none 0 0, .slice none 0 0, .bool false, .slice none 0 0, .slice none 0 0], .int .i64 8]) (by simp [results, Tryz.results27, go_sem, s0, s1, s2, s3, s4, s5]) rfl ?_
    exact ⟨rfl, HFI.out⟩
  · have h1' : fin x = false := by cases h : fin x <;> simp_all
    have HE := hid (exact_bad x X hx h1')
    clear hx hy hf h1 h1'
    go_enter Tryz.func27, Tryz.ntmps27
    go_wp2_with fail
    clear hX
    refine Calls.mono HE.out ?_
    rintro e w3 ⟨rfl, b4⟩
    obtain ⟨Z, hZ⟩ : ∃ Z, w3.alloc (.cells #[.bool false, .slice none 0 0, .slice none 0 0] 25) = Z := ⟨_, rfl⟩
    have b5 : Below w3.heap.size w3 Z := by rw [← hZ]; exact alloc_later _ _
    have hz3 : Box Z w3.heap.size 25 #[.bool false, .slice none 0 0, .slice none 0 0] := by rw [← hZ]; exact Box.made w3 _ _
    have h6 := HP.out.later (bt b4 b5) HP.out.lt
    obtain ⟨⟨p0, p1, p2⟩, ⟨q0, q1, q2⟩, r0, r1, r2⟩ := zero_box hz3
    obtain ⟨⟨s0, s1, s2, s3, s4, s5⟩, ⟨t0, t1, t2, t3, t4, t5⟩, v0, v1, v2, v3, v4, v5⟩ := zero_box6 h6
    have HFI := hid (bt HB1.out (bt b4 b5))
    clear HE b4 b5 hz3 h6
    go_wp2_with fail
    refine bodyPost_ret (v := .tuple #[.agg #[.bool false, .slice none 0 0, .slice none 0 0, .bool false, .slice none 0 0, .slice none 0 0], .int .i64 8]) (by simp [results, Tryz.results27, go_sem, s0, s1, s2, s3, s4, s5]) rfl ?_
    exact ⟨rfl, HFI.out⟩

end Go.Proofs.YtabkgpnckaaclaaGreatDoor

/- parts.Exact of finite numbers with its memory; the document's Exact of complex numbers. (tools/mkpn.py) -/
namespace Go.Proofs.YtabkgpnckaaclaaGreatDoor
open Go.RowKit
set_option linter.unusedVariables false

/-- Four lists that lie apart. -/
def Ap4 (u v p q : Value) : Prop := Ap u v ∧ Ap p q ∧ Ap u p ∧ Ap u q ∧ Ap v p ∧ Ap v q

theorem exactB (x : Nat) (w : World) (hx : Fi x) (hT : TabB w) :
    Calls Tryz.prog 7 #[.float .f64 x] w fun e w' => ∃ n a ca b cb xs ys, e = .returned (.tuple #[.agg #[.bool n, .slice a (List.length xs) ca, .slice b (List.length ys) cb], .int .i64 0]) ∧ w'.ownsRow w.heap.size 88 1 (.slice a xs.length ca) xs.length (xs.map (Value.int .u32)) ∧ w'.ownsRow w.heap.size 88 1 (.slice b ys.length cb) ys.length (ys.map (Value.int .u32)) ∧ Wd xs ∧ Wd ys ∧ (RTells 0 (fq x) n xs ys 0 ∧ (a = none ∨ a ≠ b)) ∧ Below w.heap.size w w' := by
  have h := exact_any x w hx.1 hT
  rw [(fi_fin hx.1).2 hx, if_pos rfl] at h
  refine Calls.mono h ?_
  rintro e w' ⟨n, a, ca, b, cb, xs, ys, code, rfl, o1, o2, ht, hab, hb⟩
  have hc := (ht.good rfl (nd_short1 hx)).1
  subst hc
  exact ⟨n, a, ca, b, cb, xs, ys, rfl, o1, o2, ht.wx, ht.wy, ⟨ht, hab⟩, hb⟩
theorem exactD (x : Nat) (w : World) (hx : Fi x) :
    Calls Tryz.prog 8 #[.float .f64 x] w fun e w' => ∃ n a ca b cb xs ys, e = .returned (.tuple #[.agg #[.bool n, .slice a (List.length xs) ca, .slice b (List.length ys) cb], .int .i64 0]) ∧ w'.ownsRow w.heap.size 88 1 (.slice a xs.length ca) xs.length (xs.map (Value.int .u32)) ∧ w'.ownsRow w.heap.size 88 1 (.slice b ys.length cb) ys.length (ys.map (Value.int .u32)) ∧ Wd xs ∧ Wd ys ∧ RTells 0 (fq x) n xs ys 0 ∧ Below w.heap.size w w' := by
  refine Calls.mono (ndExact_fin x w hx.1 ((fi_fin hx.1).2 hx)) ?_
  rintro e w' ⟨n, a, ca, b, cb, xs, ys, code, rfl, o1, o2, ht, hb⟩
  have hc := (ht.good rfl (nd_short1 hx)).1
  subst hc
  exact ⟨n, a, ca, b, cb, xs, ys, rfl, o1, o2, ht.wx, ht.wy, ht, hb⟩

set_option maxHeartbeats 800000 in
set_option maxRecDepth 100000 in
theorem pexact_own (x y : Nat) (w : World) (hx : Fi x) (hy : Fi y) (hT : TabB w) :
    Calls Tryz.prog 27 #[.complex .f64 x y] w fun e w' => ∃ s a ca b cb zs ds t a' ca' b' cb' zs' ds', e = .returned (.tuple #[.agg #[.bool s, .slice a (List.length zs) ca, .slice b (List.length ds) cb, .bool t, .slice a' (List.length zs') ca', .slice b' (List.length ds') cb'], .int .i64 0]) ∧ w'.ownsRow w.heap.size 88 1 (.slice a zs.length ca) zs.length (zs.map (Value.int .u32)) ∧ w'.ownsRow w.heap.size 88 1 (.slice b ds.length cb) ds.length (ds.map (Value.int .u32)) ∧ w'.ownsRow w.heap.size 88 1 (.slice a' zs'.length ca') zs'.length (zs'.map (Value.int .u32)) ∧ w'.ownsRow w.heap.size 88 1 (.slice b' ds'.length cb') ds'.length (ds'.map (Value.int .u32)) ∧ RTells 0 (fq x) s zs ds 0 ∧ RTells 0 (fq y) t zs' ds' 0 ∧ Ap4 (.slice a zs.length ca) (.slice b ds.length cb) (.slice a' zs'.length ca') (.slice b' ds'.length cb') ∧ Below w.heap.size w w' := by
  have HX := hid (fun V hV => exactB x V hx hV)
  have HY := hid (fun V hV => exactB y V hy hV)
  have HG := hid (Box.made w 45 #[.bool false, .slice none 0 0, .slice none 0 0, .bool false, .slice none 0 0, .slice none 0 0])
  have HB := hid (alloc_later w (.cells #[.bool false, .slice none 0 0, .slice none 0 0, .bool false, .slice none 0 0, .slice none 0 0] 45))
  have HT := hid (hT.later HB.out)
  clear hT hx hy
  go_enter Tryz.func27, Tryz.ntmps27
  go_wp2_with fail
  generalize w.alloc (.cells #[.bool false, .slice none 0 0, .slice none 0 0, .bool false, .slice none 0 0, .slice none 0 0] 45) = X at *
  refine Calls.mono (HX.out _ HT.out) ?_
  rintro e w1 ⟨s, a, ca, b, cb, zs, ds, rfl, o1, o2, hz, hd, he, hb⟩
  have HB1 := hid hb
  have HO1 := hid (And.intro o1 o2)
  have HV1 := hid (And.intro hz (And.intro hd he))
  have HR := hid (Box.made w1 25 #[.bool s, .slice a zs.length ca, .slice b ds.length cb])
  have HBA := hid (alloc_later w1 (.cells #[.bool s, .slice a zs.length ca, .slice b ds.length cb] 25))
  have HT1 := hid ((HT.out.later hb).later HBA.out)
  clear o1 o2 hz hd he hb HX
  go_wp2_with fail
  generalize w1.alloc (.cells #[.bool s, .slice a zs.length ca, .slice b ds.length cb] 25) = X1 at *
  refine Calls.mono (HY.out _ HT1.out) ?_
  rintro e w2 ⟨t, a', ca', b', cb', zs', ds', rfl, o1, o2, hz, hd, he, hb⟩
  have HB2 := hid hb
  have HO2 := hid (And.intro o1 o2)
  have HV2 := hid (And.intro hz (And.intro hd he))
  have hre := HR.out.later hb HR.out.lt
  have HRE := hid hre
  have hg := HG.out.later (bt HB1.out (bt HBA.out hb)) HG.out.lt
  have HGX := hid hg
  have n1 : w.heap.size ≠ w2.heap.size := by have := hg.lt; omega
  have n2 : w1.heap.size ≠ w2.heap.size := by have := hre.lt; omega
  have n3 := hg.lt
  have n4 := hre.lt
  clear o1 o2 hz hd he hb HY hre hg HT HT1
  have HBD : ∀ V, (Instr.build 45 #[(0, .agg #[.bool s, .slice a zs.length ca, .slice b ds.length cb]), (1, .agg #[.bool t, .slice a' zs'.length ca', .slice b' ds'.length cb'])]).run Tryz.prog V = .ok (.agg #[.bool s, .slice a zs.length ca, .slice b ds.length cb, .bool t, .slice a' zs'.length ca', .slice b' ds'.length cb']) V := fun V => run_build V _ _ _ (by kernel_rfl)
  have HBA2 := hid (alloc_later w2 (.cells #[.bool t, .slice a' zs'.length ca', .slice b' ds'.length cb'] 25))
  have HI := hid (Box.made w2 25 #[.bool t, .slice a' zs'.length ca', .slice b' ds'.length cb'])
  have HGA := hid (HGX.out.later HBA2.out HGX.out.lt)
  have HRA := hid (HRE.out.later HBA2.out HRE.out.lt)
  obtain ⟨W3, hW3⟩ : ∃ W3, w2.alloc (.cells #[.bool t, .slice a' zs'.length ca', .slice b' ds'.length cb'] 25) = W3 := ⟨_, rfl⟩
  rw [hW3] at HBA2 HI HGA HRA
  have g0 : W3.cell? ⟨w.heap.size, 0, none⟩ = some (.bool false) := HGA.out.cell 0
  have g1 : W3.cell? ⟨w.heap.size, 1, none⟩ = some (.slice none 0 0) := HGA.out.cell 1
  have g2 : W3.cell? ⟨w.heap.size, 2, none⟩ = some (.slice none 0 0) := HGA.out.cell 2
  have g3 : W3.cell? ⟨w.heap.size, 3, none⟩ = some (.bool false) := HGA.out.cell 3
  have g4 : W3.cell? ⟨w.heap.size, 4, none⟩ = some (.slice none 0 0) := HGA.out.cell 4
  have g5 : W3.cell? ⟨w.heap.size, 5, none⟩ = some (.slice none 0 0) := HGA.out.cell 5
  have f0 := HGA.out.free 0
  have f1 := HGA.out.free 1
  have f2 := HGA.out.free 2
  have f3 := HGA.out.free 3
  have f4 := HGA.out.free 4
  have f5 := HGA.out.free 5
  obtain ⟨r0, r1, r2, _, _, _⟩ := res_box3 HRA.out (Below.refl _ _)
  obtain ⟨i0, i1, i2, _, _, _⟩ := res_box3 HI.out (Below.refl _ _)
  clear n1 n2 n3 n4 HBD
  have e1 : X.heap.size ≤ w1.heap.size := HB1.out.size
  have e2 : w1.heap.size ≤ X1.heap.size := HBA.out.size
  have HE := hid (And.intro e1 e2)
  clear e1 e2
  go_wp2_with fail
  refine bodyPost_ret (v := .tuple #[.agg #[.bool s, .slice a zs.length ca, .slice b ds.length cb, .bool t, .slice a' zs'.length ca', .slice b' ds'.length cb'], .int .i64 0]) (by simp [results, Tryz.results27, go_sem, g0, g1, g2, g3, g4, g5]) rfl ?_
  have q1 := fun (v : Value) (xs : List Int) (h : w1.ownsRow X.heap.size 88 1 v xs.length (xs.map (Value.int .u32))) => owns_base (own_put6 (owns_later (owns_later (owns_later h HBA.out) HB2.out) HBA2.out) HGA.out (by decide) (.bool s) (.slice a zs.length ca) (.slice b ds.length cb) (.bool t) (.slice a' zs'.length ca') (.slice b' ds'.length cb')) HB.out.size
  have q2 := fun (v : Value) (xs : List Int) (h : w2.ownsRow X1.heap.size 88 1 v xs.length (xs.map (Value.int .u32))) => owns_base (own_put6 (owns_later h HBA2.out) HGA.out (by decide) (.bool s) (.slice a zs.length ca) (.slice b ds.length cb) (.bool t) (.slice a' zs'.length ca') (.slice b' ds'.length cb')) (Nat.le_trans HB.out.size (Nat.le_trans HE.out.1 HE.out.2))
  have hfar := HE.out.2
  have i1 := Within.owns HO1.out.1
  have i2 := Within.owns HO1.out.2
  have i3 := Within.owns HO2.out.1
  have i4 := Within.owns HO2.out.2
  exact ⟨s, a, ca, b, cb, zs, ds, t, a', ca', b', cb', zs', ds', rfl, q1 _ _ HO1.out.1, q1 _ _ HO1.out.2, q2 _ _ HO2.out.1, q2 _ _ HO2.out.2, HV1.out.2.2.1, HV2.out.2.2.1, ⟨Ap.rows HO1.out.1 HO1.out.2 HV1.out.2.2.2, Ap.rows HO2.out.1 HO2.out.2 HV2.out.2.2.2, Ap.far i1 i3 (by omega), Ap.far i1 i4 (by omega), Ap.far i2 i3 (by omega), Ap.far i2 i4 (by omega)⟩, below_put6 (bt HB.out (bt HB1.out (bt HBA.out (bt HB2.out HBA2.out)))) (Nat.le_refl _) _ _ _ _ _ _⟩

set_option maxHeartbeats 800000 in
set_option maxRecDepth 100000 in
theorem dexact_fin (x y : Nat) (w : World) (hx : Fi x) (hy : Fi y) (hT : TabB w) :
    Calls Tryz.prog 29 #[.complex .f64 x y] w fun e w' => ∃ s a ca b cb zs ds t a' ca' b' cb' zs' ds', e = .returned (.tuple #[.agg #[.bool s, .slice a (List.length zs) ca, .slice b (List.length ds) cb, .bool t, .slice a' (List.length zs') ca', .slice b' (List.length ds') cb'], .int .i64 0]) ∧ Sl w' (.slice a zs.length ca) zs ∧ Sl w' (.slice b ds.length cb) ds ∧ Sl w' (.slice a' zs'.length ca') zs' ∧ Sl w' (.slice b' ds'.length cb') ds' ∧ RTells 0 (fq x) s zs ds 0 ∧ RTells 0 (fq y) t zs' ds' 0 ∧ Below w.heap.size w w' := by
  have HFF : Hid ((fin x && fin y) = true) := by show _ = _; rw [(fi_fin hx.1).2 hx, (fi_fin hy.1).2 hy]; rfl
  have HX := hid (fun V (hV : TabB V) => exactD x V hx)
  have HY := hid (fun V (hV : TabB V) => exactD y V hy)
  have HG := hid (Box.made w 45 #[.bool false, .slice none 0 0, .slice none 0 0, .bool false, .slice none 0 0, .slice none 0 0])
  have HB := hid (alloc_later w (.cells #[.bool false, .slice none 0 0, .slice none 0 0, .bool false, .slice none 0 0, .slice none 0 0] 45))
  have HT := hid (hT.later HB.out)
  clear hT hx hy
  go_enter Tryz.func29, Tryz.ntmps29
  go_wp2_with fail
  generalize w.alloc (.cells #[.bool false, .slice none 0 0, .slice none 0 0, .bool false, .slice none 0 0, .slice none 0 0] 45) = X at *
  refine Calls.mono (zdFinite_any x y _) ?_
  rintro e w0 ⟨rfl, hb0⟩
  have HG0 := hid (HG.out.later hb0 HG.out.lt)
  have HB0 := hid hb0
  have HT0 := hid (HT.out.later hb0)
  clear hb0
  rw [HFF.out]
  go_wp2_with fail
  refine Calls.mono (HX.out _ HT0.out) ?_
  rintro e w1 ⟨s, a, ca, b, cb, zs, ds, rfl, o1, o2, hz, hd, he, hb⟩
  have HB1 := hid hb
  have HO1 := hid (And.intro o1 o2)
  have HV1 := hid (And.intro hz (And.intro hd he))
  have HR := hid (Box.made w1 25 #[.bool s, .slice a zs.length ca, .slice b ds.length cb])
  have HBA := hid (alloc_later w1 (.cells #[.bool s, .slice a zs.length ca, .slice b ds.length cb] 25))
  have HT1 := hid ((HT0.out.later hb).later HBA.out)
  clear o1 o2 hz hd he hb HX
  go_wp2_with fail
  generalize w1.alloc (.cells #[.bool s, .slice a zs.length ca, .slice b ds.length cb] 25) = X1 at *
  refine Calls.mono (HY.out _ HT1.out) ?_
  rintro e w2 ⟨t, a', ca', b', cb', zs', ds', rfl, o1, o2, hz, hd, he, hb⟩
  have HB2 := hid hb
  have HO2 := hid (And.intro o1 o2)
  have HV2 := hid (And.intro hz (And.intro hd he))
  have hre := HR.out.later hb HR.out.lt
  have HRE := hid hre
  have hg := HG0.out.later (bt HB1.out (bt HBA.out hb)) HG0.out.lt
  have HGX := hid hg
  have n1 : w.heap.size ≠ w2.heap.size := by have := hg.lt; omega
  have n2 : w1.heap.size ≠ w2.heap.size := by have := hre.lt; omega
  have n3 := hg.lt
  have n4 := hre.lt
  clear o1 o2 hz hd he hb HY hre hg HT0 HT1
  have HBD : ∀ V, (Instr.build 45 #[(0, .agg #[.bool s, .slice a zs.length ca, .slice b ds.length cb]), (1, .agg #[.bool t, .slice a' zs'.length ca', .slice b' ds'.length cb'])]).run Tryz.prog V = .ok (.agg #[.bool s, .slice a zs.length ca, .slice b ds.length cb, .bool t, .slice a' zs'.length ca', .slice b' ds'.length cb']) V := fun V => run_build V _ _ _ (by kernel_rfl)
  have HBA2 := hid (alloc_later w2 (.cells #[.bool t, .slice a' zs'.length ca', .slice b' ds'.length cb'] 25))
  have HI := hid (Box.made w2 25 #[.bool t, .slice a' zs'.length ca', .slice b' ds'.length cb'])
  have HGA := hid (HGX.out.later HBA2.out HGX.out.lt)
  have HRA := hid (HRE.out.later HBA2.out HRE.out.lt)
  obtain ⟨W3, hW3⟩ : ∃ W3, w2.alloc (.cells #[.bool t, .slice a' zs'.length ca', .slice b' ds'.length cb'] 25) = W3 := ⟨_, rfl⟩
  rw [hW3] at HBA2 HI HGA HRA
  have g0 : W3.cell? ⟨w.heap.size, 0, none⟩ = some (.bool false) := HGA.out.cell 0
  have g1 : W3.cell? ⟨w.heap.size, 1, none⟩ = some (.slice none 0 0) := HGA.out.cell 1
  have g2 : W3.cell? ⟨w.heap.size, 2, none⟩ = some (.slice none 0 0) := HGA.out.cell 2
  have g3 : W3.cell? ⟨w.heap.size, 3, none⟩ = some (.bool false) := HGA.out.cell 3
  have g4 : W3.cell? ⟨w.heap.size, 4, none⟩ = some (.slice none 0 0) := HGA.out.cell 4
  have g5 : W3.cell? ⟨w.heap.size, 5, none⟩ = some (.slice none 0 0) := HGA.out.cell 5
  have f0 := HGA.out.free 0
  have f1 := HGA.out.free 1
  have f2 := HGA.out.free 2
  have f3 := HGA.out.free 3
  have f4 := HGA.out.free 4
  have f5 := HGA.out.free 5
  obtain ⟨r0, r1, r2, _, _, _⟩ := res_box3 HRA.out (Below.refl _ _)
  obtain ⟨i0, i1, i2, _, _, _⟩ := res_box3 HI.out (Below.refl _ _)
  clear n1 n2 n3 n4 HBD
  have e1 : w0.heap.size ≤ w1.heap.size := HB1.out.size
  have e2 : w1.heap.size ≤ X1.heap.size := HBA.out.size
  have HE := hid (And.intro e1 e2)
  clear e1 e2
  go_wp2_with fail
  refine bodyPost_ret (v := .tuple #[.agg #[.bool s, .slice a zs.length ca, .slice b ds.length cb, .bool t, .slice a' zs'.length ca', .slice b' ds'.length cb'], .int .i64 0]) (by simp [results, Tryz.results29, go_sem, g0, g1, g2, g3, g4, g5]) rfl ?_
  have q1 := fun (v : Value) (xs : List Int) (h : w1.ownsRow w0.heap.size 88 1 v xs.length (xs.map (Value.int .u32))) => owns_base (own_put6 (owns_later (owns_later (owns_later h HBA.out) HB2.out) HBA2.out) HGA.out (by decide) (.bool s) (.slice a zs.length ca) (.slice b ds.length cb) (.bool t) (.slice a' zs'.length ca') (.slice b' ds'.length cb')) (Nat.le_trans HB.out.size HB0.out.size)
  have q2 := fun (v : Value) (xs : List Int) (h : w2.ownsRow X1.heap.size 88 1 v xs.length (xs.map (Value.int .u32))) => owns_base (own_put6 (owns_later h HBA2.out) HGA.out (by decide) (.bool s) (.slice a zs.length ca) (.slice b ds.length cb) (.bool t) (.slice a' zs'.length ca') (.slice b' ds'.length cb')) (Nat.le_trans (Nat.le_trans HB.out.size HB0.out.size) (Nat.le_trans HE.out.1 HE.out.2))
  exact ⟨s, a, ca, b, cb, zs, ds, t, a', ca', b', cb', zs', ds', rfl, Sl.own (q1 _ _ HO1.out.1) HV1.out.1, Sl.own (q1 _ _ HO1.out.2) HV1.out.2.1, Sl.own (q2 _ _ HO2.out.1) HV2.out.1, Sl.own (q2 _ _ HO2.out.2) HV2.out.2.1, HV1.out.2.2, HV2.out.2.2, below_put6 (bt HB.out (bt HB0.out (bt HB1.out (bt HBA.out (bt HB2.out HBA2.out))))) (Nat.le_refl _) _ _ _ _ _ _⟩

end Go.Proofs.YtabkgpnckaaclaaGreatDoor

/- parts.Nearest and the document's Nearest of complex fractions, told sharply. (tools/mkpn.py) -/
namespace Go.Proofs.YtabkgpnckaaclaaGreatDoor
open Go.RowKit
set_option linter.unusedVariables false

/-- What Nearest tells of a complex fraction. -/
def PN2 (n : Bool) (xs ys : List Int) (m : Bool) (us vs : List Int) (p q : Nat) (code : Int) : Prop :=
  (gchk n xs ys m us vs ≠ 0 ∧ p = 0 ∧ q = 0 ∧ code = gchk n xs ys m us vs) ∨ (gchk n xs ys m us vs = 0 ∧ ∃ x c, NrT n xs ys x c ∧ ((c ≠ 0 ∧ p = 0 ∧ q = 0 ∧ code = c) ∨ (c = 0 ∧ ∃ y d, NrT m us vs y d ∧ ((d ≠ 0 ∧ p = 0 ∧ q = 0 ∧ code = d) ∨ (d = 0 ∧ p = x ∧ q = y ∧ code = 0)))))
theorem PN2.one {n : Bool} {xs ys : List Int} {m : Bool} {us vs : List Int} {p q p' q' : Nat} {c c' : Int} (h : PN2 n xs ys m us vs p q c) (g : PN2 n xs ys m us vs p' q' c') : p = p' ∧ q = q' ∧ c = c' := by
  rcases h with ⟨h1, h2, h3, h4⟩ | ⟨h1, x, e, hx, h⟩
  · rcases g with ⟨g1, g2, g3, g4⟩ | ⟨g1, _⟩
    · exact ⟨by rw [h2, g2], by rw [h3, g3], by rw [h4, g4]⟩
    · exact absurd g1 h1
  · rcases g with ⟨g1, _⟩ | ⟨g1, x', e', gx, g⟩
    · exact absurd h1 g1
    · obtain ⟨rfl, rfl⟩ := hx.one gx
      rcases h with ⟨h1, h2, h3, h4⟩ | ⟨h1, y, d, hy, h⟩
      · rcases g with ⟨g1, g2, g3, g4⟩ | ⟨g1, _⟩
        · exact ⟨by rw [h2, g2], by rw [h3, g3], by rw [h4, g4]⟩
        · exact absurd g1 h1
      · rcases g with ⟨g1, _⟩ | ⟨g1, y', d', gy, g⟩
        · exact absurd h1 g1
        · obtain ⟨rfl, rfl⟩ := hy.one gy
          rcases h with ⟨h1, h2, h3, h4⟩ | ⟨h1, h2, h3, h4⟩
          · rcases g with ⟨g1, g2, g3, g4⟩ | ⟨g1, _⟩
            · exact ⟨by rw [h2, g2], by rw [h3, g3], by rw [h4, g4]⟩
            · exact absurd g1 h1
          · rcases g with ⟨g1, _⟩ | ⟨g1, g2, g3, g4⟩
            · exact absurd h1 g1
            · exact ⟨by rw [h2, g2], by rw [h3, g3], by rw [h4, g4]⟩

set_option maxHeartbeats 800000 in
set_option maxRecDepth 100000 in
theorem d4check_any (n : Bool) (a : Option Addr) (ca : Nat) (xs : List Int) (b : Option Addr) (cb : Nat) (ys : List Int) (m : Bool) (c : Option Addr) (cc : Nat) (us : List Int) (d : Option Addr) (cd : Nat) (vs : List Int) (w : World) (sx : Sl w (.slice a xs.length ca) xs) (sy : Sl w (.slice b ys.length cb) ys) (su : Sl w (.slice c us.length cc) us) (sw : Sl w (.slice d vs.length cd) vs) (lx : xs.length ≤ 281474976710656) (ly : ys.length ≤ 281474976710656) (lu : us.length ≤ 281474976710656) (lv : vs.length ≤ 281474976710656) :
    Calls Tryz.prog 59 #[.agg #[.bool n, .slice a xs.length ca, .slice b ys.length cb, .bool m, .slice c us.length cc, .slice d vs.length cd]] w fun e w' => e = .returned (.int .i64 (gchk n xs ys m us vs)) ∧ Below w.heap.size w w' := by
  obtain ⟨X, hX⟩ : ∃ X, w.alloc (.cells #[.bool n, .slice a xs.length ca, .slice b ys.length cb, .bool m, .slice c us.length cc, .slice d vs.length cd] 45) = X := ⟨_, rfl⟩
  have b1 : Below w.heap.size w X := by rw [← hX]; exact alloc_later _ _
  have HP : Hid (Box X w.heap.size 45 #[.bool n, .slice a xs.length ca, .slice b ys.length cb, .bool m, .slice c us.length cc, .slice d vs.length cd]) := by rw [← hX]; exact Box.made w _ _
  have HC1 := hid (check3_any n a ca xs b cb ys X (sx.later b1) (sy.later b1) lx ly)
  have HC2 : Hid (∀ V, Below X.heap.size X V → Calls Tryz.prog 42 #[.agg #[.bool m, .slice c us.length cc, .slice d vs.length cd]] V fun e w' => e = .returned (.int .i64 (rchk m us vs)) ∧ Below V.heap.size V w') := fun V hv => check3_any m c cc us d cd vs V ((su.later b1).later hv) ((sw.later b1).later hv) lu lv
  obtain ⟨r1, h1⟩ : ∃ r, rchk n xs ys = r := ⟨_, rfl⟩
  obtain ⟨r2, h2⟩ : ∃ r, rchk m us vs = r := ⟨_, rfl⟩
  obtain ⟨r3, h3⟩ : ∃ r, gchk n xs ys m us vs = r := ⟨_, rfl⟩
  have HE : Hid (r3 = if r1 = 0 then r2 else r1) := by show _ = _; rw [← h3, ← h1, ← h2]; rfl
  rw [h1] at HC1
  rw [h2] at HC2
  rw [h3]
  have HB1 := hid b1
  have e0 : X.cell? ⟨w.heap.size, 0, none⟩ = some (.bool n) := HP.out.cell 0
  have e1 : X.cell? ⟨w.heap.size, 1, none⟩ = some (.slice a xs.length ca) := HP.out.cell 1
  have e2 : X.cell? ⟨w.heap.size, 2, none⟩ = some (.slice b ys.length cb) := HP.out.cell 2
  clear sx sy su sw b1 h1 h2 h3 lx ly lu lv
  by_cases hz : r1 = 0
  · have h3' : r3 = r2 := by rw [HE.out, if_pos hz]
    rw [h3']
    subst hz
    clear HE h3'
    go_enter Tryz.func59, Tryz.ntmps59
    go_wp2_with fail
    clear hX
    refine Calls.mono HC1.out ?_
    rintro e w2 ⟨rfl, b2⟩
    have h := HP.out.later b2 HP.out.lt
    have e3 : w2.cell? ⟨w.heap.size, 3, none⟩ = some (.bool m) := h.cell 3
    have e4 : w2.cell? ⟨w.heap.size, 4, none⟩ = some (.slice c us.length cc) := h.cell 4
    have e5 : w2.cell? ⟨w.heap.size, 5, none⟩ = some (.slice d vs.length cd) := h.cell 5
    have HC3 := hid (HC2.out w2 b2)
    have HB2 := hid (bt HB1.out b2)
    clear e0 e1 e2 h b2 HC1 HC2
    go_wp2_with fail
    refine Calls.mono HC3.out ?_
    rintro e w3 ⟨rfl, b3⟩
    have HB3 := hid (bt HB2.out b3)
    clear b3 HC3 e3 e4 e5
    go_wp2_with fail
    go_ret
    exact ⟨rfl, HB3.out⟩
  · have h3' : r3 = r1 := by rw [HE.out, if_neg hz]
    rw [h3']
    have hz2 : (r1 != 0) = true := by simpa using hz
    clear HE h3' hz
    go_enter Tryz.func59, Tryz.ntmps59
    go_wp2_with fail
    clear hX
    refine Calls.mono HC1.out ?_
    rintro e w2 ⟨rfl, b2⟩
    have HB2 := hid (bt HB1.out b2)
    clear e0 e1 e2 b2 HC1 HC2
    go_wp2_with fail
    go_ret
    exact ⟨rfl, HB2.out⟩

set_option maxHeartbeats 1600000 in
set_option maxRecDepth 100000 in
theorem p2nearest_any (n : Bool) (a : Option Addr) (ca : Nat) (xs : List Int) (b : Option Addr) (cb : Nat) (ys : List Int) (m : Bool) (c : Option Addr) (cc : Nat) (us : List Int) (d : Option Addr) (cd : Nat) (vs : List Int) (w : World) (sx : Sl w (.slice a xs.length ca) xs) (sy : Sl w (.slice b ys.length cb) ys) (su : Sl w (.slice c us.length cc) us) (sw : Sl w (.slice d vs.length cd) vs) :
    Calls Tryz.prog 25 #[.agg #[.bool n, .slice a xs.length ca, .slice b ys.length cb, .bool m, .slice c us.length cc, .slice d vs.length cd]] w fun e w' => ∃ p q code, e = .returned (.tuple #[.complex .f64 p q, .int .i64 code]) ∧ PN2 n xs ys m us vs p q code ∧ Below w.heap.size w w' := by
  obtain ⟨X, hX⟩ : ∃ X, w.alloc (.cells #[.bool n, .slice a xs.length ca, .slice b ys.length cb, .bool m, .slice c us.length cc, .slice d vs.length cd] 45) = X := ⟨_, rfl⟩
  have b1 : Below w.heap.size w X := by rw [← hX]; exact alloc_later _ _
  have HP : Hid (Box X w.heap.size 45 #[.bool n, .slice a xs.length ca, .slice b ys.length cb, .bool m, .slice c us.length cc, .slice d vs.length cd]) := by rw [← hX]; exact Box.made w _ _
  have HCL : Hid (∀ V, Below X.heap.size X V → V.cell? ⟨w.heap.size, 0, none⟩ = some (.bool n) ∧ V.cell? ⟨w.heap.size, 1, none⟩ = some (.slice a xs.length ca) ∧ V.cell? ⟨w.heap.size, 2, none⟩ = some (.slice b ys.length cb) ∧ V.cell? ⟨w.heap.size, 3, none⟩ = some (.bool m) ∧ V.cell? ⟨w.heap.size, 4, none⟩ = some (.slice c us.length cc) ∧ V.cell? ⟨w.heap.size, 5, none⟩ = some (.slice d vs.length cd)) := fun V hv => by
    have h := HP.out.later hv HP.out.lt
    exact ⟨h.cell 0, h.cell 1, h.cell 2, h.cell 3, h.cell 4, h.cell 5⟩
  have HGC := hid (gcheck_any n _ xs _ ys m _ us _ vs X (sx.later b1) (sy.later b1) (su.later b1) (sw.later b1))
  have HN1 : Hid (∀ V, Below X.heap.size X V → Calls Tryz.prog 9 #[.agg #[.bool n, .slice a xs.length ca, .slice b ys.length cb]] V fun e w' => ∃ x code, e = .returned (.tuple #[.float .f64 x, .int .i64 code]) ∧ Hid (NrT n xs ys x code) ∧ Below V.heap.size V w') := fun V hv => nearest_any n _ xs _ ys V ((sx.later b1).later hv) ((sy.later b1).later hv)
  have HN2 : Hid (∀ V, Below X.heap.size X V → Calls Tryz.prog 9 #[.agg #[.bool m, .slice c us.length cc, .slice d vs.length cd]] V fun e w' => ∃ x code, e = .returned (.tuple #[.float .f64 x, .int .i64 code]) ∧ Hid (NrT m us vs x code) ∧ Below V.heap.size V w') := fun V hv => nearest_any m _ us _ vs V ((su.later b1).later hv) ((sw.later b1).later hv)
  have HB1 := hid b1
  obtain ⟨ck, hck⟩ : ∃ ck, gchk n xs ys m us vs = ck := ⟨_, rfl⟩
  have HK := hid hck
  rw [hck] at HGC
  obtain ⟨e0, e1, e2, e3, e4, e5⟩ := HCL.out X (Below.refl _ _)
  clear sx sy su sw b1 hck HP
  go_enter Tryz.func25, Tryz.ntmps25
  go_wp2_with fail
  clear hX
  refine Calls.mono HGC.out ?_
  rintro e w2 ⟨rfl, b2⟩
  have HX2 := hid b2
  clear HGC b2 e0 e1 e2 e3 e4 e5
  obtain ⟨e0, e1, e2, e3, e4, e5⟩ := HCL.out w2 HX2.out
  by_cases hz : ck = 0
  · subst hz
    have HA := hid (HN1.out w2 HX2.out)
    go_wp2_with fail
    refine Calls.mono HA.out ?_
    rintro e w3 ⟨p, c1, rfl, HNP, b3⟩
    have HX3 := hid (bt HX2.out b3)
    clear HA HN1 b3 e0 e1 e2 e3 e4 e5
    obtain ⟨e0, e1, e2, e3, e4, e5⟩ := HCL.out w3 HX3.out
    by_cases h1 : c1 = 0
    · subst h1
      have HB := hid (HN2.out w3 HX3.out)
      go_wp2_with fail
      refine Calls.mono HB.out ?_
      rintro e w4 ⟨q, c2, rfl, HNQ, b4⟩
      have HX4 := hid (bt HB1.out (bt HX3.out b4))
      clear HB HN2 b4 e0 e1 e2 e3 e4 e5
      by_cases h2 : c2 = 0
      · subst h2
        go_wp2_with fail
        go_returns
        exact ⟨p, q, 0, rfl, .inr ⟨HK.out, p, 0, HNP.out, .inr ⟨rfl, q, 0, HNQ.out, .inr ⟨rfl, rfl, rfl, rfl⟩⟩⟩, HX4.out⟩
      · have h2' : (c2 == 0) = false := by simp [h2]
        have HPN : Hid (PN2 n xs ys m us vs 0 0 c2) := .inr ⟨HK.out, p, 0, HNP.out, .inr ⟨rfl, q, c2, HNQ.out, .inl ⟨h2, rfl, rfl, rfl⟩⟩⟩
        clear h2
        go_wp2_with fail
        go_returns
        exact ⟨0, 0, c2, rfl, HPN.out, HX4.out⟩
    · have h1' : (c1 == 0) = false := by simp [h1]
      have HPN : Hid (PN2 n xs ys m us vs 0 0 c1) := .inr ⟨HK.out, p, c1, HNP.out, .inl ⟨h1, rfl, rfl, rfl⟩⟩
      clear h1
      go_wp2_with fail
      go_returns
      exact ⟨0, 0, c1, rfl, HPN.out, bt HB1.out HX3.out⟩
  · have hz' : (ck == 0) = false := by simp [hz]
    have HPN : Hid (PN2 n xs ys m us vs 0 0 ck) := .inl ⟨by rw [HK.out]; exact hz, rfl, rfl, HK.out.symm⟩
    clear hz
    go_wp2_with fail
    go_returns
    exact ⟨0, 0, ck, rfl, HPN.out, bt HB1.out HX2.out⟩

set_option maxHeartbeats 1600000 in
set_option maxRecDepth 100000 in
theorem d2nearest_any (n : Bool) (a : Option Addr) (ca : Nat) (xs : List Int) (b : Option Addr) (cb : Nat) (ys : List Int) (m : Bool) (c : Option Addr) (cc : Nat) (us : List Int) (d : Option Addr) (cd : Nat) (vs : List Int) (w : World) (sx : Sl w (.slice a xs.length ca) xs) (sy : Sl w (.slice b ys.length cb) ys) (su : Sl w (.slice c us.length cc) us) (sw : Sl w (.slice d vs.length cd) vs) (lx : xs.length ≤ 281474976710656) (ly : ys.length ≤ 281474976710656) (lu : us.length ≤ 281474976710656) (lv : vs.length ≤ 281474976710656) :
    Calls Tryz.prog 26 #[.agg #[.bool n, .slice a xs.length ca, .slice b ys.length cb, .bool m, .slice c us.length cc, .slice d vs.length cd]] w fun e w' => ∃ p q code, e = .returned (.tuple #[.complex .f64 p q, .int .i64 code]) ∧ PN2 n xs ys m us vs p q code ∧ Below w.heap.size w w' := by
  obtain ⟨X, hX⟩ : ∃ X, w.alloc (.cells #[.bool n, .slice a xs.length ca, .slice b ys.length cb, .bool m, .slice c us.length cc, .slice d vs.length cd] 45) = X := ⟨_, rfl⟩
  have b1 : Below w.heap.size w X := by rw [← hX]; exact alloc_later _ _
  have HP : Hid (Box X w.heap.size 45 #[.bool n, .slice a xs.length ca, .slice b ys.length cb, .bool m, .slice c us.length cc, .slice d vs.length cd]) := by rw [← hX]; exact Box.made w _ _
  have HCL : Hid (∀ V, Below X.heap.size X V → V.cell? ⟨w.heap.size, 0, none⟩ = some (.bool n) ∧ V.cell? ⟨w.heap.size, 1, none⟩ = some (.slice a xs.length ca) ∧ V.cell? ⟨w.heap.size, 2, none⟩ = some (.slice b ys.length cb) ∧ V.cell? ⟨w.heap.size, 3, none⟩ = some (.bool m) ∧ V.cell? ⟨w.heap.size, 4, none⟩ = some (.slice c us.length cc) ∧ V.cell? ⟨w.heap.size, 5, none⟩ = some (.slice d vs.length cd)) := fun V hv => by
    have h := HP.out.later hv HP.out.lt
    exact ⟨h.cell 0, h.cell 1, h.cell 2, h.cell 3, h.cell 4, h.cell 5⟩
  have HGC := hid (d4check_any n a ca xs b cb ys m c cc us d cd vs X (sx.later b1) (sy.later b1) (su.later b1) (sw.later b1) lx ly lu lv)
  have HN1 : Hid (∀ V, Below X.heap.size X V → Calls Tryz.prog 10 #[.agg #[.bool n, .slice a xs.length ca, .slice b ys.length cb]] V fun e w' => ∃ x code, e = .returned (.tuple #[.float .f64 x, .int .i64 code]) ∧ Hid (NrT n xs ys x code) ∧ Below V.heap.size V w') := fun V hv => ndNearest_any n a ca xs b cb ys V ((sx.later b1).later hv) ((sy.later b1).later hv) lx ly
  have HN2 : Hid (∀ V, Below X.heap.size X V → Calls Tryz.prog 10 #[.agg #[.bool m, .slice c us.length cc, .slice d vs.length cd]] V fun e w' => ∃ x code, e = .returned (.tuple #[.float .f64 x, .int .i64 code]) ∧ Hid (NrT m us vs x code) ∧ Below V.heap.size V w') := fun V hv => ndNearest_any m c cc us d cd vs V ((su.later b1).later hv) ((sw.later b1).later hv) lu lv
  have HB1 := hid b1
  obtain ⟨ck, hck⟩ : ∃ ck, gchk n xs ys m us vs = ck := ⟨_, rfl⟩
  have HK := hid hck
  rw [hck] at HGC
  obtain ⟨e0, e1, e2, e3, e4, e5⟩ := HCL.out X (Below.refl _ _)
  clear sx sy su sw b1 hck HP
  go_enter Tryz.func26, Tryz.ntmps26
  go_wp2_with fail
  clear hX
  refine Calls.mono HGC.out ?_
  rintro e w2 ⟨rfl, b2⟩
  have HX2 := hid b2
  clear HGC b2 e0 e1 e2 e3 e4 e5
  obtain ⟨e0, e1, e2, e3, e4, e5⟩ := HCL.out w2 HX2.out
  by_cases hz : ck = 0
  · subst hz
    have HA := hid (HN1.out w2 HX2.out)
    go_wp2_with fail
    refine Calls.mono HA.out ?_
    rintro e w3 ⟨p, c1, rfl, HNP, b3⟩
    have HX3 := hid (bt HX2.out b3)
    clear HA HN1 b3 e0 e1 e2 e3 e4 e5
    obtain ⟨e0, e1, e2, e3, e4, e5⟩ := HCL.out w3 HX3.out
    by_cases h1 : c1 = 0
    · subst h1
      have HB := hid (HN2.out w3 HX3.out)
      go_wp2_with fail
      refine Calls.mono HB.out ?_
      rintro e w4 ⟨q, c2, rfl, HNQ, b4⟩
      have HX4 := hid (bt HB1.out (bt HX3.out b4))
      clear HB HN2 b4 e0 e1 e2 e3 e4 e5
      by_cases h2 : c2 = 0
      · subst h2
        go_wp2_with fail
        go_returns
        exact ⟨p, q, 0, rfl, .inr ⟨HK.out, p, 0, HNP.out, .inr ⟨rfl, q, 0, HNQ.out, .inr ⟨rfl, rfl, rfl, rfl⟩⟩⟩, HX4.out⟩
      · have h2' : (c2 == 0) = false := by simp [h2]
        have HPN : Hid (PN2 n xs ys m us vs 0 0 c2) := .inr ⟨HK.out, p, 0, HNP.out, .inr ⟨rfl, q, c2, HNQ.out, .inl ⟨h2, rfl, rfl, rfl⟩⟩⟩
        clear h2
        go_wp2_with fail
        go_returns
        exact ⟨0, 0, c2, rfl, HPN.out, HX4.out⟩
    · have h1' : (c1 == 0) = false := by simp [h1]
      have HPN : Hid (PN2 n xs ys m us vs 0 0 c1) := .inr ⟨HK.out, p, c1, HNP.out, .inl ⟨h1, rfl, rfl, rfl⟩⟩
      clear h1
      go_wp2_with fail
      go_returns
      exact ⟨0, 0, c1, rfl, HPN.out, bt HB1.out HX3.out⟩
  · have hz' : (ck == 0) = false := by simp [hz]
    have HPN : Hid (PN2 n xs ys m us vs 0 0 ck) := .inl ⟨by rw [HK.out]; exact hz, rfl, rfl, HK.out.symm⟩
    clear hz
    go_wp2_with fail
    go_returns
    exact ⟨0, 0, ck, rfl, HPN.out, bt HB1.out HX2.out⟩

end Go.Proofs.YtabkgpnckaaclaaGreatDoor

/- Complex fractions that are lent to a call: slackwaterkit.LentGauss, KeptGauss. -/
namespace Go.Proofs.YtabkgpnckaaclaaGreatDoor
open Go.RowKit
set_option linter.unusedVariables false

/-- The six cells of a complex fraction. -/
def Cl6 (V : World) (p : Nat) (v0 v1 v2 v3 v4 v5 : Value) : Prop := V.cell? ⟨p, 0, none⟩ = some v0 ∧ V.cell? ⟨p, 1, none⟩ = some v1 ∧ V.cell? ⟨p, 2, none⟩ = some v2 ∧ V.cell? ⟨p, 3, none⟩ = some v3 ∧ V.cell? ⟨p, 4, none⟩ = some v4 ∧ V.cell? ⟨p, 5, none⟩ = some v5
theorem Cl6.of {V : World} {p t : Nat} {v0 v1 v2 v3 v4 v5 : Value} (h : Box V p t #[v0, v1, v2, v3, v4, v5]) : V.cell? ⟨p, 0, none⟩ = some v0 ∧ V.cell? ⟨p, 1, none⟩ = some v1 ∧ V.cell? ⟨p, 2, none⟩ = some v2 ∧ V.cell? ⟨p, 3, none⟩ = some v3 ∧ V.cell? ⟨p, 4, none⟩ = some v4 ∧ V.cell? ⟨p, 5, none⟩ = some v5 := ⟨h.cell 0, h.cell 1, h.cell 2, h.cell 3, h.cell 4, h.cell 5⟩

/-- A store of six cells, cell by cell, each world by its name; what stands behind it. -/
theorem pnchain6 {W : World} {b t : Nat} {u0 u1 u2 u3 u4 u5 : Value} (h : Box W b t #[u0, u1, u2, u3, u4, u5]) (ht : 88 ≠ t) (v0 v1 v2 v3 v4 v5 : Value) : ∃ A0 A1 A2 A3 A4 A5, W.setCell ⟨b, 0, none⟩ v0 = A0 ∧ A0.setCell ⟨b, 1, none⟩ v1 = A1 ∧ A1.setCell ⟨b, 2, none⟩ v2 = A2 ∧ A2.setCell ⟨b, 3, none⟩ v3 = A3 ∧ A3.setCell ⟨b, 4, none⟩ v4 = A4 ∧ A4.setCell ⟨b, 5, none⟩ v5 = A5 ∧ (W.cell? ⟨b, 0, none⟩ = some u0 ∧ A0.cell? ⟨b, 1, none⟩ = some u1 ∧ A1.cell? ⟨b, 2, none⟩ = some u2 ∧ A2.cell? ⟨b, 3, none⟩ = some u3 ∧ A3.cell? ⟨b, 4, none⟩ = some u4 ∧ A4.cell? ⟨b, 5, none⟩ = some u5) ∧ (W.frozen? ⟨b, 0, none⟩ = false ∧ A0.frozen? ⟨b, 1, none⟩ = false ∧ A1.frozen? ⟨b, 2, none⟩ = false ∧ A2.frozen? ⟨b, 3, none⟩ = false ∧ A3.frozen? ⟨b, 4, none⟩ = false ∧ A4.frozen? ⟨b, 5, none⟩ = false) ∧
    Hid (Box A5 b t #[v0, v1, v2, v3, v4, v5] ∧ (∀ p t' vs, p ≠ b → Box W p t' vs → Box A5 p t' vs) ∧ (∀ base v n xs, W.ownsRow base 88 1 v n xs → A5.ownsRow base 88 1 v n xs) ∧ (∀ B x, B ≤ b → Below B x W → Below B x A5)) := by
  have h0 : Box _ b t #[v0, u1, u2, u3, u4, u5] := h.set 0 v0
  have h1 : Box _ b t #[v0, v1, u2, u3, u4, u5] := h0.set 1 v1
  have h2 : Box _ b t #[v0, v1, v2, u3, u4, u5] := h1.set 2 v2
  have h3 : Box _ b t #[v0, v1, v2, v3, u4, u5] := h2.set 3 v3
  have h4 : Box _ b t #[v0, v1, v2, v3, v4, u5] := h3.set 4 v4
  have h5 : Box _ b t #[v0, v1, v2, v3, v4, v5] := h4.set 5 v5
  exact ⟨_, _, _, _, _, _, rfl, rfl, rfl, rfl, rfl, rfl, ⟨h.cell 0, h0.cell 1, h1.cell 2, h2.cell 3, h3.cell 4, h4.cell 5⟩, ⟨h.free 0, h0.free 1, h1.free 2, h2.free 3, h3.free 4, h4.free 5⟩, h5, fun p t' vs hne g => ((((((g.other ⟨b, 0, none⟩ v0 hne).other ⟨b, 1, none⟩ v1 hne).other ⟨b, 2, none⟩ v2 hne).other ⟨b, 3, none⟩ v3 hne).other ⟨b, 4, none⟩ v4 hne).other ⟨b, 5, none⟩ v5 hne), fun base v n xs g => own_put6 g h ht v0 v1 v2 v3 v4 v5, fun B x hB g => below_put6 g hB v0 v1 v2 v3 v4 v5⟩

set_option maxHeartbeats 1600000 in
set_option maxRecDepth 100000 in
theorem lentGauss_any (n : Bool) (a : Option Addr) (ca : Nat) (xs : List Int) (b : Option Addr) (cb : Nat) (ys : List Int) (m : Bool) (c : Option Addr) (cc : Nat) (us : List Int) (d : Option Addr) (cd : Nat) (vs : List Int) (w : World) (sx : Sl w (.slice a xs.length ca) xs) (sy : Sl w (.slice b ys.length cb) ys) (su : Sl w (.slice c us.length cc) us) (sw : Sl w (.slice d vs.length cd) vs) (lx : xs.length ≤ 549755813888) (ly : ys.length ≤ 549755813888) (lu : us.length ≤ 549755813888) (lv : vs.length ≤ 549755813888) :
    Calls Tryz.prog 24 #[.agg #[.bool n, .slice a xs.length ca, .slice b ys.length cb, .bool m, .slice c us.length cc, .slice d vs.length cd]] w fun e w' => ∃ g1 c1 g2 c2 g3 c3 g4 c4, e = .returned (.agg #[.bool n, .slice (some ⟨g1, 0, none⟩) xs.length c1, .slice (some ⟨g2, 0, none⟩) ys.length c2, .bool m, .slice (some ⟨g3, 0, none⟩) us.length c3, .slice (some ⟨g4, 0, none⟩) vs.length c4]) ∧ (w'.ownsRow w.heap.size 88 1 (.slice (some ⟨g1, 0, none⟩) (xs.length + 3) c1) (xs.length + 3) ((xs ++ marks 3).map (Value.int .u32)) ∧ w'.ownsRow w.heap.size 88 1 (.slice (some ⟨g2, 0, none⟩) (ys.length + 3) c2) (ys.length + 3) ((ys ++ marks 3).map (Value.int .u32)) ∧ w'.ownsRow w.heap.size 88 1 (.slice (some ⟨g3, 0, none⟩) (us.length + 3) c3) (us.length + 3) ((us ++ marks 3).map (Value.int .u32)) ∧ w'.ownsRow w.heap.size 88 1 (.slice (some ⟨g4, 0, none⟩) (vs.length + 3) c4) (vs.length + 3) ((vs ++ marks 3).map (Value.int .u32))) ∧ (g1 < g2 ∧ g2 < g3 ∧ g3 < g4) ∧ Below w.heap.size w w' := by
  obtain ⟨X, hX⟩ : ∃ X, (w.alloc (.cells #[.bool n, .slice a xs.length ca, .slice b ys.length cb, .bool m, .slice c us.length cc, .slice d vs.length cd] 45)).alloc (.cells #[.bool false, .slice none 0 0, .slice none 0 0, .bool false, .slice none 0 0, .slice none 0 0] 45) = X := ⟨_, rfl⟩
  have b1 : Below w.heap.size w X := by rw [← hX]; exact bt (alloc_later _ _) (alloc_later _ _)
  have HA : Hid (Box X w.heap.size 45 #[.bool n, .slice a xs.length ca, .slice b ys.length cb, .bool m, .slice c us.length cc, .slice d vs.length cd]) := by rw [← hX]; exact (Box.made w _ _).later (alloc_later _ _) (Box.made w _ _).lt
  have HZ : Hid (Box X (w.heap.size + 1) 45 #[.bool false, .slice none 0 0, .slice none 0 0, .bool false, .slice none 0 0, .slice none 0 0]) := by
    have h := Box.made (w.alloc (.cells #[.bool n, .slice a xs.length ca, .slice b ys.length cb, .bool m, .slice c us.length cc, .slice d vs.length cd] 45)) 45 #[.bool false, .slice none 0 0, .slice none 0 0, .bool false, .slice none 0 0, .slice none 0 0]
    rw [show (w.alloc (.cells #[.bool n, .slice a xs.length ca, .slice b ys.length cb, .bool m, .slice c us.length cc, .slice d vs.length cd] 45)).heap.size = w.heap.size + 1 by simp, hX] at h
    exact h
  have HK : Hid (∀ V, Below X.heap.size X V → V.cell? ⟨w.heap.size, 0, none⟩ = some (.bool n) ∧ V.cell? ⟨w.heap.size, 1, none⟩ = some (.slice a xs.length ca) ∧ V.cell? ⟨w.heap.size, 2, none⟩ = some (.slice b ys.length cb) ∧ V.cell? ⟨w.heap.size, 3, none⟩ = some (.bool m) ∧ V.cell? ⟨w.heap.size, 4, none⟩ = some (.slice c us.length cc) ∧ V.cell? ⟨w.heap.size, 5, none⟩ = some (.slice d vs.length cd)) := fun V hv => Cl6.of (HA.out.later hv HA.out.lt)
  have HL1 : Hid (∀ V, Below X.heap.size X V → Calls Tryz.prog 6 #[.agg #[.bool n, .slice a xs.length ca, .slice b ys.length cb]] V fun e V' => ∃ g1 c1 g2 c2, e = .returned (.agg #[.bool n, .slice (some ⟨g1, 0, none⟩) xs.length c1, .slice (some ⟨g2, 0, none⟩) ys.length c2]) ∧ Hid (V'.ownsRow X.heap.size 88 1 (.slice (some ⟨g1, 0, none⟩) (xs.length + 3) c1) (xs.length + 3) ((xs ++ marks 3).map (Value.int .u32)) ∧ V'.ownsRow X.heap.size 88 1 (.slice (some ⟨g2, 0, none⟩) (ys.length + 3) c2) (ys.length + 3) ((ys ++ marks 3).map (Value.int .u32)) ∧ g1 < g2 ∧ g2 < V'.heap.size ∧ Below X.heap.size X V') ∧ (V'.cell? ⟨w.heap.size, 0, none⟩ = some (.bool n) ∧ V'.cell? ⟨w.heap.size, 1, none⟩ = some (.slice a xs.length ca) ∧ V'.cell? ⟨w.heap.size, 2, none⟩ = some (.slice b ys.length cb) ∧ V'.cell? ⟨w.heap.size, 3, none⟩ = some (.bool m) ∧ V'.cell? ⟨w.heap.size, 4, none⟩ = some (.slice c us.length cc) ∧ V'.cell? ⟨w.heap.size, 5, none⟩ = some (.slice d vs.length cd))) := fun V hv => by
    refine Calls.mono (lentRatio_any n a ca xs b cb ys V ((sx.later b1).later hv) ((sy.later b1).later hv) lx ly) ?_
    rintro e V' ⟨g1, c1, g2, c2, rfl, o1, o2, hg, hb⟩
    exact ⟨g1, c1, g2, c2, rfl, ⟨owns_base o1 hv.size, owns_base o2 hv.size, hg, (o2.lt g2 rfl).2, bt hv hb⟩, HK.out _ (bt hv hb)⟩
  have HL2 : Hid (∀ V, Below X.heap.size X V → Calls Tryz.prog 6 #[.agg #[.bool m, .slice c us.length cc, .slice d vs.length cd]] V fun e V' => ∃ g3 c3 g4 c4, e = .returned (.agg #[.bool m, .slice (some ⟨g3, 0, none⟩) us.length c3, .slice (some ⟨g4, 0, none⟩) vs.length c4]) ∧ Hid (V'.ownsRow X.heap.size 88 1 (.slice (some ⟨g3, 0, none⟩) (us.length + 3) c3) (us.length + 3) ((us ++ marks 3).map (Value.int .u32)) ∧ V'.ownsRow X.heap.size 88 1 (.slice (some ⟨g4, 0, none⟩) (vs.length + 3) c4) (vs.length + 3) ((vs ++ marks 3).map (Value.int .u32)) ∧ g3 < g4 ∧ V.heap.size ≤ g3 ∧ Below V.heap.size V V' ∧ Below X.heap.size X V') ∧ (V'.cell? ⟨w.heap.size, 0, none⟩ = some (.bool n) ∧ V'.cell? ⟨w.heap.size, 1, none⟩ = some (.slice a xs.length ca) ∧ V'.cell? ⟨w.heap.size, 2, none⟩ = some (.slice b ys.length cb) ∧ V'.cell? ⟨w.heap.size, 3, none⟩ = some (.bool m) ∧ V'.cell? ⟨w.heap.size, 4, none⟩ = some (.slice c us.length cc) ∧ V'.cell? ⟨w.heap.size, 5, none⟩ = some (.slice d vs.length cd)) ∧ Hid (Box V' (w.heap.size + 1) 45 #[.bool false, .slice none 0 0, .slice none 0 0, .bool false, .slice none 0 0, .slice none 0 0] ∧ Box V' w.heap.size 45 #[.bool n, .slice a xs.length ca, .slice b ys.length cb, .bool m, .slice c us.length cc, .slice d vs.length cd])) := fun V hv => by
    refine Calls.mono (lentRatio_any m c cc us d cd vs V ((su.later b1).later hv) ((sw.later b1).later hv) lu lv) ?_
    rintro e V' ⟨g1, c1, g2, c2, rfl, o1, o2, hg, hb⟩
    have hz := HZ.out.later (bt hv hb) HZ.out.lt
    exact ⟨g1, c1, g2, c2, rfl, ⟨owns_base o1 hv.size, owns_base o2 hv.size, hg, (o1.lt g1 rfl).1, hb, bt hv hb⟩, HK.out _ (bt hv hb), hz, HA.out.later (bt hv hb) HA.out.lt⟩
  have HB1 := hid b1
  obtain ⟨e0, e1, e2, e3, e4, e5⟩ := HK.out X (Below.refl _ _)
  have hs0 := HK.out _ (Below.refl _ X).drew
  have hd0 := hid (Below.refl X.heap.size X).drew
  clear sx sy su sw b1 lx ly lu lv
  go_enter Tryz.func24, Tryz.ntmps24
  go_wp2_with fail
  clear hX
  go_region_held3 (fun V : World => V.cell? ⟨w.heap.size, 0, none⟩ = some (.bool n) ∧ V.cell? ⟨w.heap.size, 1, none⟩ = some (.slice a xs.length ca) ∧ V.cell? ⟨w.heap.size, 2, none⟩ = some (.slice b ys.length cb) ∧ V.cell? ⟨w.heap.size, 3, none⟩ = some (.bool m) ∧ V.cell? ⟨w.heap.size, 4, none⟩ = some (.slice c us.length cc) ∧ V.cell? ⟨w.heap.size, 5, none⟩ = some (.slice d vs.length cd)) (first | exact hs3 | exact hs2 | exact hs1 | exact hs0)
    (first
      | (go_at_call 6; with_reducible refine Calls.mono (HL2.out _ HE1.out.2.2.2.2) ?_; rintro e w2 ⟨g3, c3, g4, c4, rfl, HE2, hs2, HBZ⟩; obtain ⟨A0, A1, A2, A3, A4, A5, k0, k1, k2, k3, k4, k5, ⟨r0, r1, r2, r3, r4, r5⟩, ⟨f0, f1, f2, f3, f4, f5⟩, HA5⟩ := pnchain6 HBZ.out.1 (by decide) (.bool n) (.slice (some ⟨g1, 0, none⟩) xs.length c1) (.slice (some ⟨g2, 0, none⟩) ys.length c2) (.bool m) (.slice (some ⟨g3, 0, none⟩) us.length c3) (.slice (some ⟨g4, 0, none⟩) vs.length c4); have hs3 := Cl6.of (HA5.out.2.1 _ _ _ (by omega) HBZ.out.2))
      | (go_at_call 6; with_reducible refine Calls.mono (HL1.out _ hd0.out) ?_; rintro e w1 ⟨g1, c1, g2, c2, rfl, HE1, hs1⟩))
  all_goals
    obtain ⟨p0, p1, p2, p3, p4, p5⟩ := Cl6.of HA5.out.1
    have HG : Hid (g1 < g2 ∧ g2 < g3 ∧ g3 < g4) := by
      have q1 := HE1.out.2.2.1
      have q2 := HE1.out.2.2.2.1
      have q3 := HE2.out.2.2.1
      have q4 := HE2.out.2.2.2.1
      exact ⟨q1, by omega, q3⟩
    have HO : Hid (_ ∧ _ ∧ _ ∧ _) := And.intro (HA5.out.2.2.1 _ _ _ _ (owns_base (owns_later HE1.out.1 HE2.out.2.2.2.2.1) HB1.out.size)) (And.intro (HA5.out.2.2.1 _ _ _ _ (owns_base (owns_later HE1.out.2.1 HE2.out.2.2.2.2.1) HB1.out.size)) (And.intro (HA5.out.2.2.1 _ _ _ _ (owns_base HE2.out.1 HB1.out.size)) (HA5.out.2.2.1 _ _ _ _ (owns_base HE2.out.2.1 HB1.out.size))))
    have HBN := hid (HA5.out.2.2.2 _ _ (by omega) (bt HB1.out HE2.out.2.2.2.2.2))
    clear HK HL1 HL2 HE1 HE2 HZ HB1 hs0 hs1 hs2 hs3 hd0 HBZ HA5 r0 r1 r2 r3 r4 r5 f0 f1 f2 f3 f4 f5 k0 k1 k2 k3 k4 k5
    go_wp2_with fail
    refine bodyPost_ret (v := .agg #[.bool n, .slice (some ⟨g1, 0, none⟩) xs.length c1, .slice (some ⟨g2, 0, none⟩) ys.length c2, .bool m, .slice (some ⟨g3, 0, none⟩) us.length c3, .slice (some ⟨g4, 0, none⟩) vs.length c4]) (by simp [results, Tryz.results24, go_sem, p0, p1, p2, p3, p4, p5]) rfl ?_
    exact ⟨g1, c1, g2, c2, g3, c3, g4, c4, rfl, HO.out, HG.out, HBN.out⟩
set_option maxHeartbeats 1600000 in
set_option maxRecDepth 100000 in
theorem keptGauss_any (n : Bool) (a : Option Addr) (ca : Nat) (xs : List Int) (b : Option Addr) (cb : Nat) (ys : List Int) (m : Bool) (c : Option Addr) (cc : Nat) (us : List Int) (d : Option Addr) (cd : Nat) (vs : List Int) (g1 c1 g2 c2 g3 c3 g4 c4 base : Nat) (w : World) (sx : Sl w (.slice a xs.length ca) xs) (sy : Sl w (.slice b ys.length cb) ys) (su : Sl w (.slice c us.length cc) us) (sw : Sl w (.slice d vs.length cd) vs) (lx : xs.length ≤ 274877906944) (ly : ys.length ≤ 274877906944) (lu : us.length ≤ 274877906944) (lv : vs.length ≤ 274877906944)
    (o1 : w.ownsRow base 88 1 (.slice (some ⟨g1, 0, none⟩) (xs.length + 3) c1) (xs.length + 3) ((xs ++ marks 3).map (Value.int .u32))) (o2 : w.ownsRow base 88 1 (.slice (some ⟨g2, 0, none⟩) (ys.length + 3) c2) (ys.length + 3) ((ys ++ marks 3).map (Value.int .u32))) (o3 : w.ownsRow base 88 1 (.slice (some ⟨g3, 0, none⟩) (us.length + 3) c3) (us.length + 3) ((us ++ marks 3).map (Value.int .u32))) (o4 : w.ownsRow base 88 1 (.slice (some ⟨g4, 0, none⟩) (vs.length + 3) c4) (vs.length + 3) ((vs ++ marks 3).map (Value.int .u32))) :
    Calls Tryz.prog 32 #[.agg #[.bool n, .slice (some ⟨g1, 0, none⟩) xs.length c1, .slice (some ⟨g2, 0, none⟩) ys.length c2, .bool m, .slice (some ⟨g3, 0, none⟩) us.length c3, .slice (some ⟨g4, 0, none⟩) vs.length c4], .agg #[.bool n, .slice a xs.length ca, .slice b ys.length cb, .bool m, .slice c us.length cc, .slice d vs.length cd]] w fun e w' => e = .returned (.bool true) ∧ Below w.heap.size w w' := by
  obtain ⟨X, hX⟩ : ∃ X, (w.alloc (.cells #[.bool n, .slice (some ⟨g1, 0, none⟩) xs.length c1, .slice (some ⟨g2, 0, none⟩) ys.length c2, .bool m, .slice (some ⟨g3, 0, none⟩) us.length c3, .slice (some ⟨g4, 0, none⟩) vs.length c4] 45)).alloc (.cells #[.bool n, .slice a xs.length ca, .slice b ys.length cb, .bool m, .slice c us.length cc, .slice d vs.length cd] 45) = X := ⟨_, rfl⟩
  have b1 : Below w.heap.size w X := by rw [← hX]; exact bt (alloc_later _ _) (alloc_later _ _)
  have HA : Hid (Box X w.heap.size 45 #[.bool n, .slice (some ⟨g1, 0, none⟩) xs.length c1, .slice (some ⟨g2, 0, none⟩) ys.length c2, .bool m, .slice (some ⟨g3, 0, none⟩) us.length c3, .slice (some ⟨g4, 0, none⟩) vs.length c4]) := by rw [← hX]; exact (Box.made w _ _).later (alloc_later _ _) (Box.made w _ _).lt
  have HZ : Hid (Box X (w.heap.size + 1) 45 #[.bool n, .slice a xs.length ca, .slice b ys.length cb, .bool m, .slice c us.length cc, .slice d vs.length cd]) := by
    have h := Box.made (w.alloc (.cells #[.bool n, .slice (some ⟨g1, 0, none⟩) xs.length c1, .slice (some ⟨g2, 0, none⟩) ys.length c2, .bool m, .slice (some ⟨g3, 0, none⟩) us.length c3, .slice (some ⟨g4, 0, none⟩) vs.length c4] 45)) 45 #[.bool n, .slice a xs.length ca, .slice b ys.length cb, .bool m, .slice c us.length cc, .slice d vs.length cd]
    rw [show (w.alloc (.cells #[.bool n, .slice (some ⟨g1, 0, none⟩) xs.length c1, .slice (some ⟨g2, 0, none⟩) ys.length c2, .bool m, .slice (some ⟨g3, 0, none⟩) us.length c3, .slice (some ⟨g4, 0, none⟩) vs.length c4] 45)).heap.size = w.heap.size + 1 by simp, hX] at h
    exact h
  have HK : Hid (∀ V, Below X.heap.size X V → (V.cell? ⟨w.heap.size, 0, none⟩ = some (.bool n) ∧ V.cell? ⟨w.heap.size, 1, none⟩ = some (.slice (some ⟨g1, 0, none⟩) xs.length c1) ∧ V.cell? ⟨w.heap.size, 2, none⟩ = some (.slice (some ⟨g2, 0, none⟩) ys.length c2) ∧ V.cell? ⟨w.heap.size, 3, none⟩ = some (.bool m) ∧ V.cell? ⟨w.heap.size, 4, none⟩ = some (.slice (some ⟨g3, 0, none⟩) us.length c3) ∧ V.cell? ⟨w.heap.size, 5, none⟩ = some (.slice (some ⟨g4, 0, none⟩) vs.length c4)) ∧ (V.cell? ⟨w.heap.size + 1, 0, none⟩ = some (.bool n) ∧ V.cell? ⟨w.heap.size + 1, 1, none⟩ = some (.slice a xs.length ca) ∧ V.cell? ⟨w.heap.size + 1, 2, none⟩ = some (.slice b ys.length cb) ∧ V.cell? ⟨w.heap.size + 1, 3, none⟩ = some (.bool m) ∧ V.cell? ⟨w.heap.size + 1, 4, none⟩ = some (.slice c us.length cc) ∧ V.cell? ⟨w.heap.size + 1, 5, none⟩ = some (.slice d vs.length cd))) := fun V hv => ⟨Cl6.of (HA.out.later hv HA.out.lt), Cl6.of (HZ.out.later hv HZ.out.lt)⟩
  have HL1 : Hid (∀ V, Below X.heap.size X V → Calls Tryz.prog 21 #[.agg #[.bool n, .slice (some ⟨g1, 0, none⟩) xs.length c1, .slice (some ⟨g2, 0, none⟩) ys.length c2], .agg #[.bool n, .slice a xs.length ca, .slice b ys.length cb]] V fun e V' => e = .returned (.bool true) ∧ ((V'.cell? ⟨w.heap.size, 0, none⟩ = some (.bool n) ∧ V'.cell? ⟨w.heap.size, 1, none⟩ = some (.slice (some ⟨g1, 0, none⟩) xs.length c1) ∧ V'.cell? ⟨w.heap.size, 2, none⟩ = some (.slice (some ⟨g2, 0, none⟩) ys.length c2) ∧ V'.cell? ⟨w.heap.size, 3, none⟩ = some (.bool m) ∧ V'.cell? ⟨w.heap.size, 4, none⟩ = some (.slice (some ⟨g3, 0, none⟩) us.length c3) ∧ V'.cell? ⟨w.heap.size, 5, none⟩ = some (.slice (some ⟨g4, 0, none⟩) vs.length c4)) ∧ (V'.cell? ⟨w.heap.size + 1, 0, none⟩ = some (.bool n) ∧ V'.cell? ⟨w.heap.size + 1, 1, none⟩ = some (.slice a xs.length ca) ∧ V'.cell? ⟨w.heap.size + 1, 2, none⟩ = some (.slice b ys.length cb) ∧ V'.cell? ⟨w.heap.size + 1, 3, none⟩ = some (.bool m) ∧ V'.cell? ⟨w.heap.size + 1, 4, none⟩ = some (.slice c us.length cc) ∧ V'.cell? ⟨w.heap.size + 1, 5, none⟩ = some (.slice d vs.length cd))) ∧ Below X.heap.size X V') := fun V hv => by
    refine Calls.mono (keptRatio_any n a ca xs b cb ys g1 c1 g2 c2 base V ((sx.later b1).later hv) ((sy.later b1).later hv) lx ly (owns_later (owns_later o1 b1) hv) (owns_later (owns_later o2 b1) hv)) ?_
    rintro e V' ⟨rfl, hb⟩
    exact ⟨rfl, HK.out _ (bt hv hb), bt hv hb⟩
  have HL2 : Hid (∀ V, Below X.heap.size X V → Calls Tryz.prog 21 #[.agg #[.bool m, .slice (some ⟨g3, 0, none⟩) us.length c3, .slice (some ⟨g4, 0, none⟩) vs.length c4], .agg #[.bool m, .slice c us.length cc, .slice d vs.length cd]] V fun e V' => e = .returned (.bool true) ∧ ((V'.cell? ⟨w.heap.size, 0, none⟩ = some (.bool n) ∧ V'.cell? ⟨w.heap.size, 1, none⟩ = some (.slice (some ⟨g1, 0, none⟩) xs.length c1) ∧ V'.cell? ⟨w.heap.size, 2, none⟩ = some (.slice (some ⟨g2, 0, none⟩) ys.length c2) ∧ V'.cell? ⟨w.heap.size, 3, none⟩ = some (.bool m) ∧ V'.cell? ⟨w.heap.size, 4, none⟩ = some (.slice (some ⟨g3, 0, none⟩) us.length c3) ∧ V'.cell? ⟨w.heap.size, 5, none⟩ = some (.slice (some ⟨g4, 0, none⟩) vs.length c4)) ∧ (V'.cell? ⟨w.heap.size + 1, 0, none⟩ = some (.bool n) ∧ V'.cell? ⟨w.heap.size + 1, 1, none⟩ = some (.slice a xs.length ca) ∧ V'.cell? ⟨w.heap.size + 1, 2, none⟩ = some (.slice b ys.length cb) ∧ V'.cell? ⟨w.heap.size + 1, 3, none⟩ = some (.bool m) ∧ V'.cell? ⟨w.heap.size + 1, 4, none⟩ = some (.slice c us.length cc) ∧ V'.cell? ⟨w.heap.size + 1, 5, none⟩ = some (.slice d vs.length cd))) ∧ Below X.heap.size X V') := fun V hv => by
    refine Calls.mono (keptRatio_any m c cc us d cd vs g3 c3 g4 c4 base V ((su.later b1).later hv) ((sw.later b1).later hv) lu lv (owns_later (owns_later o3 b1) hv) (owns_later (owns_later o4 b1) hv)) ?_
    rintro e V' ⟨rfl, hb⟩
    exact ⟨rfl, HK.out _ (bt hv hb), bt hv hb⟩
  have HB1 := hid b1
  obtain ⟨⟨e0, e1, e2, e3, e4, e5⟩, ⟨i0, i1, i2, i3, i4, i5⟩⟩ := HK.out X (Below.refl _ _)
  have hs0 := HK.out _ (Below.refl _ X).drew
  have hd0 := hid (Below.refl X.heap.size X).drew
  clear sx sy su sw b1 lx ly lu lv o1 o2 o3 o4 HA HZ
  go_enter Tryz.func32, Tryz.ntmps32
  go_wp2_with fail
  clear hX
  refine Calls.mono (HL1.out X (Below.refl _ _)) ?_
  rintro e w1 ⟨rfl, hs1, hb1⟩
  have HL3 := hid (HL2.out w1 hb1)
  clear e0 e1 e2 e3 e4 e5 i0 i1 i2 i3 i4 i5 hs0 hd0 HL1 HL2 hb1
  obtain ⟨⟨e0, e1, e2, e3, e4, e5⟩, ⟨i0, i1, i2, i3, i4, i5⟩⟩ := hs1
  go_wp2_with fail
  refine Calls.mono HL3.out ?_
  rintro e w2 ⟨rfl, hs2, hb2⟩
  have HBN := hid (bt HB1.out hb2)
  clear HL3 hs2 hb2 e0 e1 e2 e3 e4 e5 i0 i1 i2 i3 i4 i5
  go_wp2_with fail
  go_ret
  exact ⟨rfl, HBN.out⟩
end Go.Proofs.YtabkgpnckaaclaaGreatDoor

/- Lists that lie apart: the kit's ApartWords, for a list of lists with room behind it. -/
namespace Go.Proofs.YtabkgpnckaaclaaGreatDoor
open Go.RowKit
set_option linter.unusedVariables false

set_option maxHeartbeats 3200000 in
set_option maxRecDepth 100000 in
theorem apart_cap (base bl m cp : Nat) (V : Nat → Value) (X : Nat → List Int) (w : World) (h : Lists w base bl m V X) (hm : m ≤ 1000) (hbs : base ≤ w.heap.size) (hcp : m ≤ cp) :
    Calls Tryz.prog 56 #[.slice (some ⟨bl, 0, none⟩) m cp] w fun e w' => e = .returned (.bool true) ∧ Below base w w' := by
  obtain ⟨i0, hi, hz0, hz1, hz2⟩ := info_parts Tryz.infoL
  obtain ⟨hwd, hlen, hown, hap, hrow⟩ := h
  have hbl : bl < w.heap.size := by obtain ⟨cl, h1, _⟩ := hrow; exact block_lt h1
  have HO := hid hown
  have HA := hid hap
  have HR := hid hrow
  have HW := hid hwd
  have HN := hid hlen
  clear hown hap hrow hwd hlen
  go_enter Tryz.func56, Tryz.ntmps56
  go_wp2_with (at_make; refine wpList_make_full _ rfl _ _ 82 rfl w.heap.size 23 i0 (.slice none 0 0) 1 Tryz.underlying82 hi hz0 hz1 _ _ _ _ m rfl rfl (by omega) (by omega) (by rw [hz2]; omega) (by unfold maxLen; omega) (Nat.le_refl _) ?_)
  intro w1 hown1 hgrow1
  have H1 : Hid (I1 w m X 0 w1) := ⟨_, by have := hown1.1; omega, row_whole hown1, fun j hj => by omega, (Below.refl _ _).grown hgrow1 (Nat.le_refl _) (fun k hk => by simp at hk)⟩
  clear hown1 hgrow1
  go_wp2_with fail
  go_loopw [4] (fun t wr => ∃ k : Nat, k ≤ m ∧ t = .int .i64 k ∧ Hid (I1 w m X k wr)) (fun t _ => m - (intOf t).toNat)
  case atStart => exact ⟨0, by omega, rfl, H1⟩
  case round =>
    obtain ⟨k, hk, rfl, HI⟩ := hrel
    by_cases hlt : k < m
    · obtain ⟨us, ul, ug, uu, ub⟩ := HI.out
      have hgw := block_lt ug
      have ubs := ub.size
      have hcl : wr.cell? ⟨bl, k, none⟩ = some (V k) := (ub.cell (p := ⟨bl, k, none⟩) hbl).trans (row_cell HR.out k hlt)
      have hsl : Sl wr (V k) (X k) := (Sl.own (HO.out k hlt) (HW.out k hlt)).later ub
      have hX := HN.out k hlt
      have HS := hid hsl
      obtain ⟨a1, c1, hv, hr⟩ := hsl
      rw [hv] at hcl
      clear uu ub hr
      go_wp2_with fail
      rw [← hv]
      refine (copyWords_sl _ (X k) _ HS.out hX).mono ?_
      rintro e w2 ⟨v, rfl, ho2, hb2⟩
      have HI2 := hid (HI.out.step hlt ho2 hb2)
      have hc2 : w2.cell? ⟨w.heap.size, k, none⟩ = some (us.toArray[k]?.getD undef) := by
        rw [cell_of_row w2 w.heap.size k us.toArray 23 (0, 0) ((hb2.block _ hgw).trans ug)]
        simp [ul, hlt]
      have hf2 : w2.frozen? ⟨w.heap.size, k, none⟩ = false := frozen_of_row w2 w.heap.size k us.toArray 23 ((hb2.block _ hgw).trans ug)
      obtain ⟨a3, c3, hv3, _⟩ := Sl.own ho2 (HW.out k hlt)
      rw [hv3] at HI2 ⊢
      clear ho2 hb2 ug
      go_wp2_with fail
      go_roundw
      case rel => exact ⟨k + 1, by omega, by go_num, HI2⟩
      case measure => simp [intOf]; omega
    · have hkm : k = m := by omega
      subst hkm
      obtain ⟨us, ul, ug, uu, ub⟩ := HI.out
      obtain ⟨w2, hw2⟩ : ∃ w2 : World, w2 = wr := ⟨_, rfl⟩
      subst hw2
      obtain ⟨gw, hgw⟩ : ∃ gw, gw = w.heap.size := ⟨_, rfl⟩
      have H2 : Hid (I2 w base bl gw k V (fun j => us[j]?.getD undef) X 0 w2) := by
        subst hgw
        refine ⟨fun j hj => ?_, fun j hj => ?_, fun j hj g e => ((HO.out j hj).lt g e).2, ?_, ⟨us.toArray, ug, fun j hj => ?_⟩, ub.mono hbs⟩
        · rw [if_neg (by omega)]; exact owns_later (HO.out j hj) ub
        · obtain ⟨u, h1, h2⟩ := uu j hj
          simp only [h1]; exact h2
        · obtain ⟨cl, h1, h2⟩ := HR.out
          exact ⟨cl, (ub.block _ (block_lt h1)).trans h1, h2⟩
        · simp [ul, hj]
      obtain ⟨U, hU⟩ : ∃ U : Nat → Value, U = fun j => us[j]?.getD undef := ⟨_, rfl⟩
      rw [← hU] at H2
      have hgwl : gw < w2.heap.size := by rw [hgw]; exact block_lt ug
      have hb2 : base ≤ w2.heap.size := by omega
      rw [← hgw]
      clear hU ug uu ub HI ul hgw HO HR H1
      go_wp2_with fail
      go_loopw [5] (fun t wr => ∃ i : Nat, i ≤ k ∧ t = .int .i64 i ∧ Hid (I2 w base bl gw k V U X i wr) ∧ w2.heap.size ≤ wr.heap.size) (fun t _ => k - (intOf t).toNat)
      case atStart => exact ⟨0, by omega, rfl, H2, Nat.le_refl _⟩
      case round =>
        obtain ⟨i, hi', rfl, HJ, hws⟩ := hrel
        by_cases hlt : i < k
        · have hcl : wr.cell? ⟨bl, i, none⟩ = some (V i) := row_cell HJ.out.rowL i hlt
          have hcw : wr.cell? ⟨gw, i, none⟩ = some (U i) := row_cell HJ.out.rowW i hlt
          have sv : Sl wr (V i) (X i) := by
            have := HJ.out.lists i hlt
            rw [if_neg (by omega)] at this
            exact Sl.own this (HW.out i hlt)
          have su : Sl wr (U i) (X i) := Sl.own (HJ.out.was i hlt) (HW.out i hlt)
          have hX := HN.out i hlt
          obtain ⟨a1, c1, hv1, hr1⟩ := sv
          obtain ⟨a2, c2, hv2, hr2⟩ := su
          rw [hv1] at hcl
          rw [hv2] at hcw
          have hcld : wr.drew.cell? ⟨bl, i, none⟩ = some (.slice a1 (X i).length c1) := hcl
          have hcwd : wr.drew.cell? ⟨gw, i, none⟩ = some (.slice a2 (X i).length c2) := hcw
          have HC := hid (same_any a1 _ c1 (X i) a2 _ c2 (X i) wr.drew hr1 hr2 (by omega) (by omega))
          clear hr1 hr2
          go_wp2_with fail
          go_region_with (go_at_call 54; refine Calls.mono HC.out ?_; rintro e wa ⟨rfl, hba⟩)
          all_goals
            have hbw : Below wr.heap.size wr wa := ((Below.refl _ wr).drew).trans hba
            have HJ2 := hid (HJ.out.later hbw (by omega))
            have hsz2 := hbw.size
            have hcl2 : wa.cell? ⟨bl, i, none⟩ = some (V i) := row_cell HJ2.out.rowL i hlt
            rw [hv1] at hcl2
            have hown : wa.ownsRow base 88 1 (V i) (X i).length ((X i).map (Value.int .u32)) := by
              have := HJ2.out.lists i hlt
              rwa [if_neg (by omega)] at this
            have HOV := hid (over_sl base _ _ (X i) wa (HW.out i hlt) hown)
            have hdd : decide (X i = X i) = true := by simp
            clear hba hbw hown hcl hcw hcld hcwd HC
            go_wp2_with fail
            rw [← hv1]
            refine Calls.mono HOV.out ?_
            rintro e wb ⟨rfl, hob, hgb⟩
            have HJ3 := hid (HJ2.out.step hlt (by omega) HA.out hob hgb)
            have hs3 := hgb.size
            rw [hv1]
            clear hob hgb
            go_wp2_with fail
            go_roundw
            case rel => exact ⟨i + 1, by omega, by go_num, HJ3, by omega⟩
            case measure => simp [intOf]; omega
        · have hik : i = k := by omega
          subst hik
          obtain ⟨w3, hw3⟩ : ∃ w3 : World, w3 = wr := ⟨_, rfl⟩
          subst hw3
          have hws3 := hws
          have facts : ∀ wr, Below w3.heap.size w3 wr → ∀ c, c < i → ∃ a1 c1 a2 c2, wr.cell? ⟨bl, c, none⟩ = some (.slice a1 (X c).length c1) ∧ wr.cell? ⟨gw, c, none⟩ = some (.slice a2 (X c).length c2) ∧
              ((X c).length = 0 ∨ ∃ b1 o1 b2 o2, a1 = some ⟨b1, o1, none⟩ ∧ a2 = some ⟨b2, o2, none⟩ ∧ (∀ j, j < (X c).length → wr.cell? ⟨b1, o1 + j, none⟩ = some (.int .u32 (4294967295 - (X c)[j]?.getD 0))) ∧
                (∀ j, j < (X c).length → wr.cell? ⟨b2, o2 + j, none⟩ = some (.int .u32 ((X c)[j]?.getD 0)))) := by
            intro wr hb c hc
            have HJ' := HJ.out.later hb (by omega)
            have hcl : wr.cell? ⟨bl, c, none⟩ = some (V c) := row_cell HJ'.rowL c hc
            have hcw : wr.cell? ⟨gw, c, none⟩ = some (U c) := row_cell HJ'.rowW c hc
            have hl := HJ'.lists c hc
            rw [if_pos hc] at hl
            obtain ⟨a1, c1, hv1, r1⟩ := Reads.own hl (HW.out c hc).compl
            obtain ⟨a2, c2, hv2, r2⟩ := Reads.own (HJ'.was c hc) (HW.out c hc)
            refine ⟨a1, c1, a2, c2, by rw [hcl, hv1], by rw [hcw, hv2], ?_⟩
            by_cases h0 : (X c).length = 0
            · exact .inl h0
            · right
              rcases r1.2.2.1 with e | ⟨b1, o1, e1, _, g1⟩
              · omega
              · rcases r2.2.2.1 with e | ⟨b2, o2, e2, _, g2⟩
                · omega
                · exact ⟨b1, o1, b2, o2, e1, e2, fun j hj => by rw [g1 j hj, compl_get _ j hj], g2⟩
          have HB := hid HJ.out.below
          have HF := hid facts
          clear facts HJ H2 hi'
          go_wp2_with fail
          go_loopw [6] (fun t wr => ∃ c : Nat, c ≤ i ∧ t = .int .i64 c ∧ Below w3.heap.size w3 wr) (fun t _ => i - (intOf t).toNat)
          case atStart => exact ⟨0, by omega, rfl, Below.refl _ _⟩
          case round =>
            obtain ⟨c, hc, rfl, hb3⟩ := hrel
            by_cases hlt : c < i
            · obtain ⟨w4, hw4⟩ : ∃ w4 : World, w4 = wr := ⟨_, rfl⟩
              subst hw4
              have hX := HN.out c hlt
              have hwc := HW.out c hlt
              obtain ⟨n, hn⟩ : ∃ n, n = (X c).length := ⟨_, rfl⟩
              rw [← hn] at hX
              have HNN := hid hn
              clear hn
              go_wp2_with fail
              go_loopw [7] (fun t wr => ∃ k : Nat, k ≤ n ∧ t = .int .i64 k ∧ Below w3.heap.size w3 wr) (fun t _ => n - (intOf t).toNat)
              case atStart => exact ⟨0, by omega, rfl, hb3⟩
              case round =>
                obtain ⟨k, hk, rfl, hb4⟩ := hrel
                obtain ⟨a1, c1, a2, c2, f1, f2, f3⟩ := HF.out wr hb4 c hlt
                rw [← HNN.out] at f1 f2 f3
                by_cases hkn : k < n
                · rcases f3 with f3 | ⟨b1, o1, b2, o2, e1, e2, g1, g2⟩
                  · omega
                  · have x1 := g1 k hkn
                    have x2 := g2 k hkn
                    rw [e1] at f1
                    rw [e2] at f2
                    have hbd := hwc.at k
                    obtain ⟨z, hz⟩ : ∃ z, z = (X c)[k]?.getD 0 := ⟨_, rfl⟩
                    rw [← hz] at x1 x2 hbd
                    have hnot := not_u32 z hbd.1 hbd.2
                    have f1d : wr.drew.cell? ⟨bl, c, none⟩ = some (.slice (some ⟨b1, o1, none⟩) n c1) := f1
                    have f2d : wr.drew.cell? ⟨gw, c, none⟩ = some (.slice (some ⟨b2, o2, none⟩) n c2) := f2
                    have x1d : wr.drew.cell? ⟨b1, o1 + k, none⟩ = some (.int .u32 (4294967295 - z)) := x1
                    have x2d : wr.drew.cell? ⟨b2, o2 + k, none⟩ = some (.int .u32 z) := x2
                    have hne : (4294967295 - z != 4294967295 - z) = false := by simp
                    clear hz e1 e2 g1 g2
                    go_wp2
                    go_region
                    all_goals go_wp2
                    all_goals
                      go_roundw
                      case rel => exact ⟨k + 1, by omega, by go_num, hb4.drew⟩
                      case measure => simp [intOf]; omega
                · clear f3
                  go_wp2
                  go_roundw
                  case rel => exact ⟨c + 1, by omega, by go_num, hb4⟩
                  case measure => simp [intOf]; omega
            · go_wp2
              go_ret
              exact ⟨rfl, HB.out.trans (hb3.mono (by omega))⟩
end Go.Proofs.YtabkgpnckaaclaaGreatDoor

/- What the laws of layer 1 share: two answers beside the document's; lists that lie apart. -/
namespace Go.Proofs.YtabkgpnckaaclaaGreatDoor
open Go.RowKit
set_option linter.unusedVariables false

theorem own_slice {w : World} {base e n : Nat} {v : Value} {xs : List Value} (h : w.ownsRow base e 1 v n xs) : ∃ a cap, v = .slice a n cap := by
  rcases h.2 with ⟨h1, h0⟩ | ⟨g, cap, cur, hv, _⟩
  · subst h0; exact ⟨_, _, h1⟩
  · exact ⟨_, _, hv⟩
theorem own_shape {w : World} {base e n : Nat} {v : Value} {xs : List Value} (h : w.ownsRow base e 1 v n xs) (hn : 0 < n) : ∃ g cap, v = .slice (some ⟨g, 0, none⟩) n cap ∧ n ≤ cap ∧ cap ≤ maxLen := by
  rcases h.2 with ⟨_, h0⟩ | ⟨g, cap, cur, hv, _, _, h1, h2, _⟩
  · omega
  · exact ⟨g, cap, hv, h1, h2⟩

theorem Within.up {v : Value} {lo hi hi' : Nat} (h : Within v lo hi) (hh : hi ≤ hi') : Within v lo hi' := fun g hg => by have := h g hg; omega
theorem Tells.len {e t : Int} {zs : List Int} {c : Int} (h : Tells e t zs c) : zs.length ≤ 8192 := by
  by_cases he : e = 0
  · by_cases hl : wide ≤ t
    · rw [(h.long he hl).2]; simp
    · have e1 := (h.good he (by omega)).2
      exact len_of_lt h.wd h.trim (by rw [e1]; exact Int.not_le.1 hl)
  · rw [(h.bad he).2]; simp
end Go.Proofs.YtabkgpnckaaclaaGreatDoor

/- The kit's ApartRatios of three fractions. -/
namespace Go.Proofs.YtabkgpnckaaclaaGreatDoor
open Go.RowKit
set_option linter.unusedVariables false

/-- append to a row of the call's own, as one step of a region. -/
theorem step_append_own {P : Program} {ops : Array Oper} {o : Oper} {a : Act} {w : World} {K : Act → World → Prop} {Q : Exit → Act → World → Prop} {E : Prop}
    (hg : o.guard = none) (s x : Operand) (t : TypeId) (hop : o.op = Op.call { callee := Callee.builtin Builtin.append, args := #[s, x], argTypes := #[t, t] })
    (base : Nat) (e : TypeId) (i : TypeInfo) (z : Value) (size bytes : Nat) (h1 : P.underlying t = some (.slice e)) (h2 : P.info? e = some i) (h3 : i.zero = some z) (h4 : i.size = size) (h5 : i.bytes = bytes) (h6 : z.cells.size = size) (h7 : 0 < size)
    (v : Value) (n : Nat) (xs : List Value) (hs : a.eval s = v) (hown : w.ownsRow base e size v n xs)
    (ad : Addr) (m c : Nat) (news : List Value) (hx : a.eval x = .slice (some ad) m c) (hn : news.length = m * size) (hc : ∀ j u, news[j]? = some u → w.cell? (ad.add j) = some u) (h1c : ∀ u ∈ news, u.oneCell' = true)
    (b1 : n + m ≤ maxLen) (b2 : (n + m) * bytes ≤ 140737488355328) (hbase : base ≤ w.heap.size)
    (hK : ∀ v' w', w'.ownsRow base e size v' (n + m) (xs ++ news) → w.grownBy w' v.ownBlock → K (a.put o.dst v') w') :
    if Region.wanted o (yielded ops a.tmps) = true then Oper.wp P o a w K Q else E := by
  have hw : Region.wanted o (yielded ops a.tmps) = true := by simp [Region.wanted, hg]
  rw [if_pos hw]
  obtain ⟨v', w', hrun, r1, r2, _⟩ := run_append_own (P := P) w base t o.type e i z size bytes h1 h2 h3 h4 h5 h6 h7 v n xs hown ad m c news hn hc h1c b1 b2 hbase
  unfold Oper.wp
  simp [execOp, hop, resolve, invoke, builtin, hs, hx, hrun, Result.andThen]
  exact hK v' w' r1 r2
theorem two_cells (w : World) (u0 u1 : Value) (t : Nat) : ∀ j u, [u0, u1][j]? = some u → ((w.alloc (.cells #[u0, u1] t)).drew).cell? ((⟨w.heap.size, 0, none⟩ : Addr).add j) = some u := by
  intro j u h
  have hb := Box.made w t #[u0, u1]
  match j, h with
  | 0, h => obtain rfl : u0 = u := by simpa using h
            exact hb.cell 0
  | 1, h => obtain rfl : u1 = u := by simpa using h
            exact hb.cell 1
  | n + 2, h => simp at h

theorem own_row {w : World} {base e n g cap : Nat} {xs : List Value} (h : w.ownsRow base e 1 (.slice (some ⟨g, 0, none⟩) n cap) n xs) : ∃ cl : Array Value, w.heap[g]? = some (.cells cl e (0, 0)) ∧ ∀ j, j < n → cl[j]? = xs[j]? := by
  rcases h.2 with ⟨h1, _⟩ | ⟨g', cap', cur, hv, _, hg, _, _, _, ht⟩
  · cases h1
  · cases hv
    refine ⟨cur, hg, fun j hj => ?_⟩
    rw [← ht, List.getElem?_take, if_pos (by omega), Array.getElem?_toList]

end Go.Proofs.YtabkgpnckaaclaaGreatDoor

