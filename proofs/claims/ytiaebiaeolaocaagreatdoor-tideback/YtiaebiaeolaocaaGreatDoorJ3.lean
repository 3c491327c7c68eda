/- My texts on the way to TideBack, one behind the other: contracts of the program and of the document's answers. -/
import Derived.Test.YtiaebiaeolaocaaGreatDoorJ1
import Derived.Test.YtiaebiaeolaocaaGreatDoorJ2
import Derived.Deep.LoopGhost
import Derived.Shelf.Abstract
import Derived.Deep.RegionHeld3
import Derived.Laws.ResultCell
import Derived.Test.YtiaebiaeolaocaaGreatDoorChecked
import Derived.Test.YtiaebiaeolaocaaGreatDoorRows
import Derived.WalkKit
import Derived.ProofKit
import Derived.OpenShut
import Derived.ShutString
import Derived.Below
import Derived.Lib.SmallJoins
import Derived.Deep.Strs
/- Fractions: Same, Sign; slices.Equal of words. -/
namespace Go.Proofs.YtiaebiaeolaocaaGreatDoor
open Go.RowKit
set_option linter.unusedVariables false

set_option maxHeartbeats 800000 in
set_option maxRecDepth 100000 in
theorem slEqual_any (a : Option Addr) (n cap : Nat) (xs : List Int) (b : Option Addr) (m cap' : Nat) (ys : List Int) (w : World) (h : Reads w w.heap.size a n cap xs) (g : Reads w w.heap.size b m cap' ys) (hn : n ≤ 281474976710656) (hm : m ≤ 281474976710656) :
    Calls Tryz.prog 74 #[.slice a n cap, .slice b m cap'] w fun e w' => e = .returned (.bool (decide (xs = ys))) ∧ Below w.heap.size w w' := by
  obtain ⟨hl, hw, hc, hcap⟩ := h
  obtain ⟨gl, gw, gc, gcap⟩ := g
  by_cases hnm : n = m
  · subst hnm
    have htt : ((n : Int) != (n : Int)) = false := by simp
    rcases hc with h0 | ⟨b1, o1, rfl, hb1, hc⟩
    · subst h0
      have hx : xs = [] := List.eq_nil_of_length_eq_zero hl
      have hy : ys = [] := List.eq_nil_of_length_eq_zero gl
      subst hx; subst hy
      go_enter Tryz.func74, Tryz.ntmps74
      go_wp2
      refine wp_loop_rounds 1 ?_
      rw [rounds_succ]
      go_wp2
      go_ret
      exact ⟨rfl, Below.refl _ _⟩
    · rcases gc with g0 | ⟨b2, o2, rfl, hb2, gc⟩
      · subst g0
        have hx : xs = [] := List.eq_nil_of_length_eq_zero hl
        have hy : ys = [] := List.eq_nil_of_length_eq_zero gl
        subst hx; subst hy
        go_enter Tryz.func74, Tryz.ntmps74
        go_wp2
        refine wp_loop_rounds 1 ?_
        rw [rounds_succ]
        go_wp2
        go_ret
        exact ⟨rfl, Below.refl _ _⟩
      · have HL : Hid (xs.length = n ∧ ys.length = n) := ⟨hl, gl⟩
        clear hl gl
        go_enter Tryz.func74, Tryz.ntmps74
        go_wp2
        go_loopw [13] (fun t wr => ∃ k : Nat, k ≤ n ∧ t = .int .i64 k ∧ xs.take k = ys.take k ∧ Below w.heap.size w wr) (fun t _ => n - (intOf t).toNat)
        case atStart => exact ⟨0, Nat.zero_le _, rfl, rfl, Below.refl _ _⟩
        case round =>
          obtain ⟨k, hk, rfl, hs, hbel⟩ := hrel
          have HS : Hid (xs.take k = ys.take k) := hs
          clear hs
          by_cases hlt : k < n
          · have hcx : wr.cell? ⟨b1, o1 + k, none⟩ = some (.int .u32 (xs[k]?.getD 0)) := (hbel.cell (p := ⟨b1, o1 + k, none⟩) hb1).trans (hc k hlt)
            have hcy : wr.cell? ⟨b2, o2 + k, none⟩ = some (.int .u32 (ys[k]?.getD 0)) := (hbel.cell (p := ⟨b2, o2 + k, none⟩) hb2).trans (gc k hlt)
            by_cases he : xs[k]?.getD 0 = ys[k]?.getD 0
            · have hne : (xs[k]?.getD 0 != ys[k]?.getD 0) = false := by simp [he]
              have HE : Hid (xs[k]?.getD 0 = ys[k]?.getD 0) := he
              clear he
              go_wp2
              go_region

              all_goals go_wp2

              all_goals
                go_roundw
                case rel => exact ⟨k + 1, by omega, by go_num, take_same HS.out (by have := HL.out; omega) (by have := HL.out; omega) HE.out, hbel.drew⟩
                case measure => simp [intOf]; omega
            · have hne : (xs[k]?.getD 0 != ys[k]?.getD 0) = true := by simp [he]
              have HE : Hid (¬ xs[k]?.getD 0 = ys[k]?.getD 0) := he
              clear he
              go_wp2
              go_region
              all_goals go_wp2
              all_goals
                go_ret
                exact ⟨ret_bool (decide_eq_false fun e => HE.out (by rw [e])).symm, hbel.drew⟩
          · have hkn : k = n := by omega
            subst hkn
            go_wp2
            go_ret
            exact ⟨ret_bool (decide_eq_true (by have := HS.out; have hl := HL.out; rwa [List.take_of_length_le (by omega), List.take_of_length_le (by omega)] at this)).symm, hbel⟩
  · have hne : ((n : Int) != (m : Int)) = true := by simp; omega
    have hd : decide (xs = ys) = false := decide_eq_false fun e => hnm (by rw [← hl, ← gl, e])
    have HD : Hid (decide (xs = ys) = false) := hd
    clear hd hc gc
    go_enter Tryz.func74, Tryz.ntmps74
    go_wp2
    go_ret
    exact ⟨ret_bool HD.out.symm, Below.refl _ _⟩

/-- What Sign tells. -/
def rsgn (n : Bool) (xs ys : List Int) : Int := if rchk n xs ys = 0 then (if xs.length = 0 then 0 else if n then -1 else 1) else 0

set_option maxHeartbeats 1600000 in
set_option maxRecDepth 100000 in
theorem rSign_any (n : Bool) (a : Option Addr) (ca : Nat) (xs : List Int) (b : Option Addr) (cb : Nat) (ys : List Int) (w : World) (sx : Sl w (.slice a xs.length ca) xs) (sy : Sl w (.slice b ys.length cb) ys) :
    Calls Tryz.prog 15 #[.agg #[.bool n, .slice a xs.length ca, .slice b ys.length cb]] w fun e w' => e = .returned (.int .i64 (rsgn n xs ys)) ∧ Below w.heap.size w w' := by
  have HB := hid (alloc_later w (.cells #[.bool n, .slice a xs.length ca, .slice b ys.length cb] 26))
  have HN := hid (Box.made w 26 #[.bool n, .slice a xs.length ca, .slice b ys.length cb])
  have HC := hid (rcheck_any n _ xs _ ys _ (sx.later HB.out) (sy.later HB.out))
  clear sx sy
  by_cases he : rchk n xs ys = 0
  · rw [he] at HC
    by_cases h0 : xs.length = 0
    · have HW : Hid (rsgn n xs ys = 0) := by show _ = _; unfold rsgn; rw [if_pos he, if_pos h0]
      rw [HW.out]
      have h0' : ((xs.length : Int) == 0) = true := by rw [h0]; rfl
      clear he h0
      go_enter Tryz.func15, Tryz.ntmps15
      go_wp2_with fail
      refine Calls.mono HC.out ?_
      rintro e w1 ⟨rfl, hb1⟩
      obtain ⟨p0, p1, p2, _⟩ := res_box3 HN.out hb1
      have HBN := hid (bt HB.out hb1)
      clear hb1
      go_wp2_with fail
      go_ret
      exact ⟨rfl, HBN.out⟩
    · have h0' : ((xs.length : Int) == 0) = false := beq_eq_false_iff_ne.2 (by omega)
      cases n with
      | false =>
        have HW : Hid (rsgn false xs ys = 1) := by show _ = _; unfold rsgn; rw [if_pos he, if_neg h0]; rfl
        rw [HW.out]
        clear he h0
        go_enter Tryz.func15, Tryz.ntmps15
        go_wp2_with fail
        refine Calls.mono HC.out ?_
        rintro e w1 ⟨rfl, hb1⟩
        obtain ⟨p0, p1, p2, _⟩ := res_box3 HN.out hb1
        have HBN := hid (bt HB.out hb1)
        clear hb1
        go_wp2_with fail
        go_ret
        exact ⟨rfl, HBN.out⟩
      | true =>
        have HW : Hid (rsgn true xs ys = -1) := by show _ = _; unfold rsgn; rw [if_pos he, if_neg h0]; rfl
        rw [HW.out]
        clear he h0
        go_enter Tryz.func15, Tryz.ntmps15
        go_wp2_with fail
        refine Calls.mono HC.out ?_
        rintro e w1 ⟨rfl, hb1⟩
        obtain ⟨p0, p1, p2, _⟩ := res_box3 HN.out hb1
        have HBN := hid (bt HB.out hb1)
        clear hb1
        go_wp2_with fail
        go_ret
        exact ⟨rfl, HBN.out⟩
  · have HW : Hid (rsgn n xs ys = 0) := by show _ = _; unfold rsgn; rw [if_neg he]
    rw [HW.out]
    obtain ⟨E, hE⟩ : ∃ E, rchk n xs ys = E := ⟨_, rfl⟩
    rw [hE] at HC he
    have he' : (E == 0) = false := beq_eq_false_iff_ne.2 he
    clear he hE
    go_enter Tryz.func15, Tryz.ntmps15
    go_wp2_with fail
    refine Calls.mono HC.out ?_
    rintro e w1 ⟨rfl, hb1⟩
    have HBN := hid (bt HB.out hb1)
    clear hb1
    go_wp2_with fail
    go_ret
    exact ⟨rfl, HBN.out⟩

theorem slEqual_sl (v u : Value) (xs ys : List Int) (w : World) (h : Sl w v xs) (g : Sl w u ys) (hn : xs.length ≤ 281474976710656) (hm : ys.length ≤ 281474976710656) :
    Calls Tryz.prog 74 #[v, u] w fun e w' => e = .returned (.bool (decide (xs = ys))) ∧ Below w.heap.size w w' := by
  obtain ⟨a, ca, rfl, hr⟩ := h
  obtain ⟨b, cb, rfl, gr⟩ := g
  exact slEqual_any a _ ca xs b _ cb ys w hr gr hn hm

set_option maxHeartbeats 1600000 in
set_option maxRecDepth 100000 in
theorem rSame_any (n : Bool) (a : Option Addr) (ca : Nat) (xs : List Int) (b : Option Addr) (cb : Nat) (ys : List Int) (m : Bool) (c : Option Addr) (cc : Nat) (us : List Int) (d : Option Addr) (cd : Nat) (vs : List Int) (w : World) (sx : Sl w (.slice a xs.length ca) xs) (sy : Sl w (.slice b ys.length cb) ys) (su : Sl w (.slice c us.length cc) us) (sv : Sl w (.slice d vs.length cd) vs) (lx : xs.length ≤ 281474976710656) (ly : ys.length ≤ 281474976710656) (lu : us.length ≤ 281474976710656) (lv : vs.length ≤ 281474976710656) :
    Calls Tryz.prog 54 #[.agg #[.bool n, .slice a xs.length ca, .slice b ys.length cb], .agg #[.bool m, .slice c us.length cc, .slice d vs.length cd]] w fun e w' => e = .returned (.bool (decide (n = m ∧ xs = us ∧ ys = vs))) ∧ Below w.heap.size w w' := by
  have HB : Hid (Below w.heap.size w ((w.alloc (.cells #[.bool n, .slice a xs.length ca, .slice b ys.length cb] 26)).alloc (.cells #[.bool m, .slice c us.length cc, .slice d vs.length cd] 26))) := bt (alloc_later _ _) (alloc_later _ _)
  have HN : Hid (Box ((w.alloc (.cells #[.bool n, .slice a xs.length ca, .slice b ys.length cb] 26)).alloc (.cells #[.bool m, .slice c us.length cc, .slice d vs.length cd] 26)) w.heap.size 26 #[.bool n, .slice a xs.length ca, .slice b ys.length cb]) := Box.later (Box.made w _ _) (alloc_later _ _) (by simp)
  have HM : Hid (Box ((w.alloc (.cells #[.bool n, .slice a xs.length ca, .slice b ys.length cb] 26)).alloc (.cells #[.bool m, .slice c us.length cc, .slice d vs.length cd] 26)) (w.heap.size + 1) 26 #[.bool m, .slice c us.length cc, .slice d vs.length cd]) := by
    have e := Box.made (w.alloc (.cells #[.bool n, .slice a xs.length ca, .slice b ys.length cb] 26)) 26 #[.bool m, .slice c us.length cc, .slice d vs.length cd]
    simp at e
    exact e
  have H1 := hid (slEqual_sl _ _ xs us ((w.alloc (.cells #[.bool n, .slice a xs.length ca, .slice b ys.length cb] 26)).alloc (.cells #[.bool m, .slice c us.length cc, .slice d vs.length cd] 26)) (sx.later HB.out) (su.later HB.out) lx lu)
  have H2 := hid (fun ww (hb : Below ((w.alloc (.cells #[.bool n, .slice a xs.length ca, .slice b ys.length cb] 26)).alloc (.cells #[.bool m, .slice c us.length cc, .slice d vs.length cd] 26)).heap.size ((w.alloc (.cells #[.bool n, .slice a xs.length ca, .slice b ys.length cb] 26)).alloc (.cells #[.bool m, .slice c us.length cc, .slice d vs.length cd] 26)) ww) => slEqual_sl _ _ ys vs ww ((sy.later HB.out).later hb) ((sv.later HB.out).later hb) ly lv)
  clear sx sy su sv
  by_cases h0 : n = m
  · subst h0
    have hbb : (n == n) = true := by simp
    by_cases h1 : xs = us
    · have HR : Hid (decide (n = n ∧ xs = us ∧ ys = vs) = decide (ys = vs)) := by show _ = _; simp [h1]
      rw [decide_eq_true h1] at H1
      rw [HR.out]
      clear h1
      go_enter Tryz.func54, Tryz.ntmps54
      go_wp2_with fail
      refine Calls.mono H1.out ?_
      generalize ((w.alloc (.cells #[.bool n, .slice a xs.length ca, .slice b ys.length cb] 26)).alloc (.cells #[.bool n, .slice c us.length cc, .slice d vs.length cd] 26)) = X at *
      rintro e w1 ⟨rfl, hb1⟩
      obtain ⟨p0, p1, p2, _⟩ := res_box3 HN.out hb1
      obtain ⟨q0, q1, q2, _⟩ := res_box3 HM.out hb1
      have HC := hid (H2.out w1 hb1)
      have HB1 := hid (bt HB.out hb1)
      clear hb1 H1 H2
      go_wp2_with fail
      refine Calls.mono HC.out ?_
      rintro e w2 ⟨rfl, hb2⟩
      have HBN := hid (bt HB1.out hb2)
      clear hb2 HC
      go_wp2_with fail
      go_ret
      exact ⟨rfl, HBN.out⟩
    · have HR : Hid (decide (n = n ∧ xs = us ∧ ys = vs) = false) := decide_eq_false (fun h => h1 h.2.1)
      rw [decide_eq_false h1] at H1
      rw [HR.out]
      clear h1
      go_enter Tryz.func54, Tryz.ntmps54
      go_wp2_with fail
      refine Calls.mono H1.out ?_
      rintro e w1 ⟨rfl, hb1⟩
      have HBN := hid (bt HB.out hb1)
      clear hb1 H1 H2
      go_wp2_with fail
      go_ret
      exact ⟨rfl, HBN.out⟩
  · have HR : Hid (decide (n = m ∧ xs = us ∧ ys = vs) = false) := decide_eq_false (fun h => h0 h.1)
    have hbb : (n == m) = false := by simp [h0]
    rw [HR.out]
    clear h0
    go_enter Tryz.func54, Tryz.ntmps54
    go_wp2_with fail
    go_ret
    exact ⟨rfl, HB.out⟩
end Go.Proofs.YtiaebiaeolaocaaGreatDoor

/- Fractions: ratio.compareSizes, Compare: of any fractions, good or refused. -/
namespace Go.Proofs.YtiaebiaeolaocaaGreatDoor
open Go.RowKit
set_option linter.unusedVariables false

theorem cmp_negs (x y : Int) : cmpI y x = cmpI (-x) (-y) := by
  by_cases h1 : y < x
  · rw [cmpI_lt h1, cmpI_lt (by omega)]
  · by_cases h2 : x < y
    · rw [cmpI_gt h2, cmpI_gt (by omega)]
    · obtain rfl : x = y := by omega
      unfold cmpI
      simp

/-- What Compare tells. -/
def rcmp (n : Bool) (xs ys : List Int) (m : Bool) (us vs : List Int) : Int := if rboth n xs ys m us vs = 0 then cmpI (wval n xs * val vs) (wval m us * val ys) else 0

end Go.Proofs.YtiaebiaeolaocaaGreatDoor

/- The laws of layer 2: lives (two of the chapter's examples hold); the document's own made, Of. -/
namespace Go.Proofs.YtiaebiaeolaocaaGreatDoor
open Go.RowKit
set_option linter.unusedVariables false

theorem wlim_big : (18446744073709551616 : Int) ≤ wlim := by
  have : (4294967296 : Int) ^ 2 ≤ 4294967296 ^ 2048 := pw_le (by omega)
  unfold wlim
  have e : (4294967296 : Int) ^ 2 = 18446744073709551616 := by decide
  rw [e] at this
  exact this
theorem WTells.num {t : Int} {n : Bool} {zs : List Int} {code : Int} (h : WTells 0 t n zs code) (h0 : -18446744073709551616 < t) (h1 : t < 18446744073709551616) : code = 0 ∧ wval n zs = t := by
  have := wlim_big
  exact h.good rfl (by omega) (by omega)
theorem wval_pos {n : Bool} {zs : List Int} (hw : Wd zs) (h : 0 < wval n zs) : n = false ∧ val zs = wval n zs := by
  have := val_nonneg hw
  cases n with
  | false => exact ⟨rfl, rfl⟩
  | true => have e : wval true zs = -(val zs) := rfl; omega

end Go.Proofs.YtiaebiaeolaocaaGreatDoor

/- Whole numbers: whole.power, Power: powers of every number, or the error. -/
namespace Go.Proofs.YtiaebiaeolaocaaGreatDoor
open Go.RowKit
set_option linter.unusedVariables false

theorem natAbs_ge {x y : Int} (h : wlim ≤ x ∨ x ≤ -wlim) (hy : y ≠ 0) : wlim ≤ x * y ∨ x * y ≤ -wlim := by
  have hp := wlim_pos
  have h1 : wlim ≤ (x.natAbs : Int) := by omega
  have h2 : 1 ≤ (y.natAbs : Int) := by omega
  have h3 : (x.natAbs : Int) * 1 ≤ (x.natAbs : Int) * (y.natAbs : Int) := Int.mul_le_mul_of_nonneg_left h2 (by omega)
  have h4 : ((x * y).natAbs : Int) = (x.natAbs : Int) * (y.natAbs : Int) := by rw [Int.natAbs_mul, Int.natCast_mul]
  omega
theorem pow_ne {x : Int} (h : x ≠ 0) (k : Nat) : x ^ k ≠ 0 := by
  induction k with
  | zero => simp
  | succ k ih => rw [Int.pow_succ]; exact Int.mul_ne_zero ih h
theorem pow_half (a : Int) (m : Nat) : a ^ m = (if m % 2 = 1 then a else 1) * (a * a) ^ (m / 2) := by
  have e : (a * a) ^ (m / 2) = a ^ (2 * (m / 2)) := by rw [Int.pow_mul, Int.pow_succ, Int.pow_succ, Int.pow_zero, Int.one_mul]
  rw [e]
  by_cases h : m % 2 = 1
  · rw [if_pos h, Int.mul_comm, ← Int.pow_succ]
    congr 1
    omega
  · rw [if_neg h, Int.one_mul]
    congr 1
    omega
theorem WTells.ok0 {t : Int} {n : Bool} {zs : List Int} {c : Int} (h : WTells 0 t n zs c) (hc : c = 0) : wval n zs = t ∧ wchk n zs = 0 := by
  have hk := wchk_good h.len h.trim h.sign
  by_cases h1 : wlim ≤ t ∨ t ≤ -wlim
  · have := (h.long rfl h1).2.2; omega
  · exact ⟨(h.good rfl (by omega) (by omega)).2, hk⟩
theorem WTells.bad0 {t : Int} {n : Bool} {zs : List Int} {c : Int} (h : WTells 0 t n zs c) (hc : c ≠ 0) : c = 3 ∧ (wlim ≤ t ∨ t ≤ -wlim) := by
  by_cases h1 : wlim ≤ t ∨ t ≤ -wlim
  · exact ⟨(h.long rfl h1).2.2, h1⟩
  · have := (h.good rfl (by omega) (by omega)).1; omega
theorem WTells.tooLong {t : Int} (h : wlim ≤ t ∨ t ≤ -wlim) : WTells 0 t false [] 3 := ⟨Wd.nil, Trimmed.nil, .inl rfl, by simp, fun h' => absurd rfl h', fun _ _ => ⟨rfl, rfl, rfl⟩, fun _ h1 h2 => by rcases h with h | h <;> omega⟩
theorem WTells.is {t : Int} {n : Bool} {zs : List Int} (hw : Wd zs) (hk : wchk n zs = 0) (hv : wval n zs = t) : WTells 0 t n zs 0 := by
  obtain ⟨l, tt, s⟩ := wchk_ok hk
  have hb := below2048 hw l
  have h0 := val_nonneg hw
  refine ⟨hw, tt, s, l, fun h' => absurd rfl h', fun _ h1 => ?_, fun _ _ _ => ⟨rfl, hv⟩⟩
  exfalso
  rw [← hv] at h1
  cases n <;> simp [wval] at h1 <;> omega

/-- The error of a power. -/
def pwErr (n : Bool) (xs : List Int) (N : Int) : Int := if wchk n xs = 0 then (if N < 0 ∨ 4096 < N then 2 else 0) else wchk n xs

end Go.Proofs.YtiaebiaeolaocaaGreatDoor

/- Fractions: ratio.Floor: of any fraction, good or refused. -/
namespace Go.Proofs.YtiaebiaeolaocaaGreatDoor
open Go.RowKit
set_option linter.unusedVariables false

theorem floor_of {X Y q r : Int} (hY : 0 < Y) (h : X = q * Y + r) (r0 : 0 ≤ r) (r1 : r < (Y.natAbs : Int)) : q = X / Y := by
  have e := (Int.ediv_emod_unique hY (a := X) (r := r) (q := q)).2 ⟨by rw [Int.mul_comm Y]; omega, r0, by omega⟩
  exact e.1.symm

end Go.Proofs.YtiaebiaeolaocaaGreatDoor

/- Whole numbers: whole.Compare, Abs: of every two numbers whose words can be read. -/
namespace Go.Proofs.YtiaebiaeolaocaaGreatDoor
open Go.RowKit
set_option linter.unusedVariables false

theorem cmp_neg (x y : Int) : cmpI (-x) (-y) = cmpI y x := by
  unfold cmpI
  by_cases h1 : y < x
  · rw [if_pos (by omega), if_pos h1]
  · rw [if_neg (by omega), if_neg h1]
    by_cases h2 : x < y
    · rw [if_pos (by omega), if_pos h2]
    · rw [if_neg (by omega), if_neg (by omega)]
theorem ret_cmp {a b c d : Int} (h : a = b) (g : c = d) : Ending.returned (.tuple #[.int .i64 a, .int .i64 c]) = .returned (.tuple #[.int .i64 b, .int .i64 d]) := by rw [h, g]

end Go.Proofs.YtiaebiaeolaocaaGreatDoor

/- Whole numbers: whole.Sub; slackwaterlaw02.add, mul, same: of numbers that may be. -/
namespace Go.Proofs.YtiaebiaeolaocaaGreatDoor
open Go.RowKit
set_option linter.unusedVariables false

theorem wval_neg (m : Bool) (ys : List Int) (h : m = false ∨ 0 < ys.length) : wval (!m && decide (0 < ys.length)) ys = -(wval m ys) := by
  by_cases c : 0 < ys.length
  · cases m <;> simp [wval, c]
  · have e0 : val ys = 0 := trimmed_zero' (by omega)
    cases m <;> simp [wval, c, e0]

/-- A whole number that may be, and true. -/
def WOk (w : World) (t : Int) (x : Ending) (w' : World) : Prop := ∃ n v zs, x = .returned (.tuple #[.agg #[.bool n, v], .bool true]) ∧ w'.ownsRow w.heap.size 115 1 v zs.length (zs.map (Value.int .u32)) ∧ Wd zs ∧ wchk n zs = 0 ∧ wval n zs = t ∧ Below w.heap.size w w'

theorem wsame' {n m : Bool} {xs ys : List Int} (wx : Wd xs) (wy : Wd ys) (tx : Trimmed xs) (ty : Trimmed ys) (nx : n = false ∨ 0 < xs.length) (ny : m = false ∨ 0 < ys.length) (h : wval n xs = wval m ys) : n = m ∧ xs = ys := by
  have x0 := val_nonneg wx
  have y0 := val_nonneg wy
  cases n <;> cases m
  · exact ⟨rfl, trimmed_eq wx wy tx ty h⟩
  · have e : val xs = -(val ys) := h
    have := val_pos' wy ty (ny.elim (fun e => by cases e) id)
    omega
  · have e : -(val xs) = val ys := h
    have := val_pos' wx tx (nx.elim (fun e => by cases e) id)
    omega
  · have e : -(val xs) = -(val ys) := h
    exact ⟨rfl, trimmed_eq wx wy tx ty (by omega)⟩

end Go.Proofs.YtiaebiaeolaocaaGreatDoor

/- nat.split tells a number's pieces of nine digits, the lowest first, in new memory. -/
namespace Go.Proofs.YtiaebiaeolaocaaGreatDoor
open Go.RowKit
set_option linter.unusedVariables false

/-- The value of pieces of nine digits. -/
def pval : List Int → Int
  | [] => 0
  | p :: ps => p + pval ps * 1000000000
theorem pval_snoc : ∀ (ps : List Int) (p : Int), pval (ps ++ [p]) = pval ps + p * 1000000000 ^ ps.length
  | [], p => by simp [pval]
  | q :: ps, p => by
    show q + pval (ps ++ [p]) * 1000000000 = q + pval ps * 1000000000 + p * 1000000000 ^ (ps.length + 1)
    rw [pval_snoc ps p, Int.add_mul, Int.pow_succ, ← Int.mul_assoc, Int.add_assoc]
/-- Each number is a piece of nine digits. -/
def Pc (ps : List Int) : Prop := ∀ p ∈ ps, 0 ≤ p ∧ p < 1000000000
theorem Pc.snoc {ps : List Int} (h : Pc ps) {p : Int} (h0 : 0 ≤ p ∧ p < 1000000000) : Pc (ps ++ [p]) := fun q hq => by
  rcases List.mem_append.1 hq with hq | hq
  · exact h q hq
  · simp at hq; rw [hq]; exact h0
theorem Pc.at {ps : List Int} (h : Pc ps) (j : Nat) : 0 ≤ ps[j]?.getD 0 ∧ ps[j]?.getD 0 < 1000000000 := by
  by_cases hj : j < ps.length
  · rw [List.getElem?_eq_getElem hj]; exact h _ (List.getElem_mem hj)
  · rw [List.getElem?_eq_none (by omega)]; exact ⟨by decide, by decide⟩
theorem pval_nonneg {ps : List Int} (h : Pc ps) : 0 ≤ pval ps := by
  induction ps with
  | nil => exact Int.le_refl _
  | cons p ps ih =>
    have h1 := h p List.mem_cons_self
    have h2 := ih (fun q hq => h q (List.mem_cons_of_mem _ hq))
    show 0 ≤ p + pval ps * 1000000000
    omega

/-- So many pieces a number of at most 8,192 words has. -/
theorem pieces_few (xs ps : List Int) (v : Int) (K : Nat) (hx : Wd xs) (hl : xs.length ≤ K) (hp : Pc ps) (hv : 1 ≤ v) (h : val xs = pval ps + v * 1000000000 ^ ps.length) : 29 * ps.length < 32 * K := by
  have h1 := val_lt hx
  have h2 : (4294967296 : Int) ^ xs.length ≤ 4294967296 ^ K := pw_le hl
  have h3 := pval_nonneg hp
  have h4 : (0 : Int) < 1000000000 ^ ps.length := Int.pow_pos (by decide)
  have h5 : 1 * (1000000000 : Int) ^ ps.length ≤ v * 1000000000 ^ ps.length := Int.mul_le_mul_of_nonneg_right hv (Int.le_of_lt h4)
  have h6 : (1000000000 : Int) ^ ps.length < 4294967296 ^ K := by omega
  have h7 : (1000000000 : Nat) ^ ps.length < 4294967296 ^ K := by
    refine Int.ofNat_lt.1 ?_
    rw [Int.natCast_pow, Int.natCast_pow]
    exact h6
  have h8 : (2 ^ 29 : Nat) ^ ps.length ≤ 1000000000 ^ ps.length := Nat.pow_le_pow_left (by decide) _
  have h9 : (4294967296 : Nat) ^ K = 2 ^ (32 * K) := by rw [show (4294967296 : Nat) = 2 ^ 32 by decide, ← Nat.pow_mul]
  rw [h9] at h7
  rw [← Nat.pow_mul] at h8
  have h10 : 2 ^ (29 * ps.length) < 2 ^ (32 * K) := Nat.lt_of_le_of_lt h8 h7
  exact (Nat.pow_lt_pow_iff_right (a := 2) (by decide)).1 h10

theorem trimmed_zero {us : List Int} (hw : Wd us) (ht : Trimmed us) : us.length = 0 ↔ val us = 0 := by
  constructor
  · intro h
    rw [List.eq_nil_of_length_eq_zero h]; rfl
  · intro h
    have := trimmed_eq hw Wd.nil ht Trimmed.nil (by rw [h, val_nil])
    rw [this]; rfl

set_option maxHeartbeats 3200000 in
set_option maxRecDepth 100000 in
theorem split_any (v : Value) (xs : List Int) (w : World) (h : Sl w v xs) (hn : xs.length ≤ 8192) (hx : Trimmed xs) (hpos : 0 < xs.length) :
    Calls Tryz.prog 91 #[v] w fun e w' => ∃ (vp : Value) (ps : List Int), e = .returned vp ∧ w'.ownsRow w.heap.size 115 1 vp ps.length (ps.map (Value.int .u32)) ∧ Pc ps ∧ pval ps = val xs ∧ 0 < ps.length ∧ ps.length ≤ 9040 ∧ 0 < ps[ps.length - 1]?.getD 0 ∧ Below w.heap.size w w' := by
  obtain ⟨i0, hi, hz0, hz1, hz2⟩ := info_parts Tryz.infoW
  have wx := h.wd
  have HX := hid hx
  clear hx
  go_enter Tryz.func91, Tryz.ntmps91
  go_wp2_with fail
  refine (trim_sl v xs w h (by omega)).mono ?_
  rintro e w1 ⟨vt, rfl, ot, hb1⟩
  rw [show sz xs = xs.length from HX.out, trimmed_of HX.out] at ot
  obtain ⟨gl, cl, hvl, hcl1, hcl2⟩ := own_shape' ot hpos
  rw [hvl] at ot ⊢
  have hgl := ot.lt gl rfl
  have hcl3 : cl ≤ 9223372036854775807 := by unfold maxLen at hcl2; omega
  clear hcl2 hvl h
  go_wp2_with fail
  go_loopg [3, 4] (val xs).toNat (fun k l p wr => ∃ (n : Nat) (us ps : List Int), l = .slice (some ⟨gl, 0, none⟩) n cl ∧ n ≤ xs.length ∧ OwnC wr w.heap.size gl n cl us ∧ Wd us ∧ Trimmed us ∧ Hid ((k : Int) = val us) ∧
    wr.ownsRow (gl + 1) 115 1 p ps.length (ps.map (Value.int .u32)) ∧ Pc ps ∧ Hid (val xs = pval ps + val us * 1000000000 ^ ps.length) ∧ ps.length ≤ 9040 ∧ Hid (n = 0 → 0 < ps.length ∧ 0 < ps[ps.length - 1]?.getD 0) ∧ Below w.heap.size w wr)
  case atStart => exact ⟨xs.length, xs, [], rfl, Nat.le_refl _, ot, wx, HX.out, show _ = _ by have := val_nonneg wx; omega, World.ownsRow_nil _ _ _ _, fun _ h => by simp at h, show _ = _ by simp [pval], by simp, fun e => by omega, hb1⟩
  case round =>
    obtain ⟨n, us, ps, rfl, hnx, ho, hwu, htu, HKK, hop, hpc, HV, hpl, HL, hb⟩ := hrel
    have hlu := ho.len
    rcases n with _ | n
    · have hu0 : us = [] := List.eq_nil_of_length_eq_zero hlu
      have HV' : Hid (pval ps = val xs) := by show _ = _; rw [HV.out, hu0, val_nil]; simp
      have HL' := hid (HL.out rfl)
      have HO' := hid (owns_base (base' := w.heap.size) hop (by omega))
      clear HV HL hop ho hu0 hlu HKK
      go_wp2_with fail
      go_ret
      exact ⟨_, ps, rfl, HO'.out, hpc, HV'.out, HL'.out.1, hpl, HL'.out.2, hb⟩
    · have hv1 : 1 ≤ val us := by
        have h0 := val_nonneg hwu
        have h1 := (trimmed_zero hwu htu)
        have : ¬ val us = 0 := fun e => by have := h1.2 e; omega
        omega
      have hfew : ps.length ≤ 9039 := by have := pieces_few xs ps (val us) 8192 wx hn hpc hv1 HV.out; omega
      have HW1 := hid hv1
      have HLU := hid hlu
      clear hv1 hlu
      go_wp2_with fail
      refine (divideByWord_any _ _ _ _ us 1000000000 wr ho hwu (by omega) ⟨by omega, by omega⟩).mono ?_
      rintro e w2 ⟨r, qs, rfl, r0, r1, oq, hwq, hvq, hg2⟩
      have hop2 := hop.kept hg2 (by
        cases e : u4.ownBlock with
        | none => exact .inl rfl
        | some g => right; intro e2; have := hop.lt g e; simp at e2; omega)
      have hgs := hg2.size
      have hgl2 : gl < w2.heap.size := (World.ownsRow.lt oq gl rfl).2
      have hbs := hb.size
      have hb2 : Below w.heap.size w w2 := hb.grown hg2 (by omega) (fun k hk => by simp at hk; omega)
      obtain ⟨R, hR⟩ : ∃ R, R = ps.map (Value.int .u32) := ⟨_, rfl⟩
      have HM : Hid ((ps ++ [r]).map (Value.int .u32) = R ++ [.int .u32 r]) := by show _ = _; rw [hR]; simp
      rw [← hR] at hop2
      have HOQ := hid oq
      have HVQ := hid hvq
      clear hR hop ho hg2 hb oq hvq
      go_wp2_with (at_builtin; refine wpList_append_own _ rfl _ _ 24 rfl (gl + 1) 115 i0 (.int .u32 0) 1 4 Tryz.underlying24 hi hz0 hz1 hz2 rfl (by decide) _ _ _ rfl (hop2.alloc _) ⟨w2.heap.size, 0, none⟩ 1 1 [.int .u32 r] rfl rfl (cell_one_new _ _ _) (by simp [Value.oneCell']) (by unfold maxLen; omega) (by omega) (by simp; omega) ?_)
      intro v3 w3 op3 hg3 _
      have hb3 : Below w.heap.size w w3 := (hb2.alloc (by omega) _).grown hg3 (by simp; omega) (fun g hg => by have := hop2.lt g hg; omega)
      have oq3 : OwnC w3 w.heap.size gl (n + 1) cl qs := by
        have := World.ownsRow.kept (World.ownsRow.alloc HOQ.out (.cells #[.int .u32 r] 115)) hg3 (by
          right
          intro e
          have := hop2.lt gl e.symm
          omega)
        exact this
      have sx := sz_le qs
      rw [oq3.len] at sx
      have hr3 : Reads w3 w3.heap.size (some ⟨gl, 0, none⟩) (n + 1) cl qs := by
        obtain ⟨a, cap, hv, hr⟩ := Reads.own oq3 hwq
        simp only [Value.slice.injEq] at hv
        obtain ⟨rfl, _, rfl⟩ := hv
        exact hr
      have HQ3 := hid (oq3.take (sz qs) sx)
      have HP3 := hid op3
      have HR3 := hid hr3
      have hc3 := oq3.cap
      have hc4 : cl ≤ 9223372036854775807 := hcl3
      clear hg3 op3 oq3 hr3 hop2 hc3
      go_wp2_with fail
      refine (size_any _ _ _ qs _ _ HR3.out (by omega)).mono ?_
      rintro e w4 ⟨rfl, rfl⟩
      have e1 : val us = val qs * 1000000000 + r := HVQ.out
      have HKK' : Hid (((val qs).toNat : Int) = val (trimmed qs)) := by show _ = _; rw [val_trimmed]; have := val_nonneg hwq; omega
      have HV' : Hid (val xs = pval (ps ++ [r]) + val (trimmed qs) * 1000000000 ^ (ps ++ [r]).length) := by
        show _ = _
        rw [val_trimmed, pval_snoc, HV.out, e1, List.length_append, List.length_singleton, Int.pow_succ, Int.add_mul, Int.mul_assoc, Int.mul_comm 1000000000 (1000000000 ^ ps.length), ← Int.mul_assoc]
        omega
      have HL' : Hid (sz qs = 0 → 0 < (ps ++ [r]).length ∧ 0 < (ps ++ [r])[(ps ++ [r]).length - 1]?.getD 0) := fun e0 => by
        refine ⟨by simp, ?_⟩
        have e2 : val qs = 0 := by rw [val_sz, e0]; rfl
        have := HW1.out
        simp
        omega
      have hless : (val qs).toNat < gk := by have := HKK.out; have := HW1.out; have := val_nonneg hwq; omega
      have HLS := hid hless
      have HPL : Hid ((ps ++ [r]).length ≤ 9040) := by show _ ≤ _; simp; omega
      have HPP : Hid (w3.ownsRow (gl + 1) 115 1 v3 (ps ++ [r]).length ((ps ++ [r]).map (Value.int .u32))) := by
        show World.ownsRow _ _ _ _ _ _ _
        rw [HM.out, List.length_append, List.length_singleton]
        exact HP3.out
      clear e1 hless HP3
      go_wp2_with fail
      go_roundg (val qs).toNat
      case measure => exact HLS.out
      case rel => exact ⟨sz qs, trimmed qs, ps ++ [r], rfl, by omega, HQ3.out, hwq.trimmed, Trimmed.trimmed _, HKK', HPP.out, hpc.snoc ⟨r0, r1⟩, HV', HPL.out, HL', hb3⟩
end Go.Proofs.YtiaebiaeolaocaaGreatDoor

/- Boxes of fractions, rows of the call's own and one box of a flag, in a bundle that is moved along. -/
namespace Go.Proofs.YtiaebiaeolaocaaGreatDoor
open Go.RowKit
set_option linter.unusedVariables false

theorem Box.same {w : World} {b t : Nat} {vs : Array Value} (h : Box w b t vs) {j : Nat} {v : Value} (hv : vs[j]? = some v) : w.setCell ⟨b, j, none⟩ v = w := by
  have e : (w.setCell ⟨b, j, none⟩ v).heap = w.heap := by
    have h' : w.heap[b]? = some (.cells vs t (0, 0)) := h
    have hs : vs.setIfInBounds j v = vs := by
      apply Array.ext_getElem?
      intro k
      rw [Array.getElem?_setIfInBounds]
      by_cases c : j = k
      · subst c
        obtain ⟨hk, _⟩ := Array.getElem?_eq_some_iff.1 hv
        rw [if_pos rfl, if_pos hk, hv]
      · rw [if_neg c]
    unfold World.setCell
    apply Array.ext_getElem?
    intro k
    simp only [Array.getElem?_modify]
    by_cases c : b = k
    · subst c
      rw [if_pos rfl, h']
      simp [hs]
    · rw [if_neg c]
  cases w
  simp only [World.setCell] at e ⊢
  rw [e]
theorem own_put1 {w : World} {base e n : Nat} {v : Value} {xs : List Value} (h : w.ownsRow base e 1 v n xs) (b : Nat) (hb : ∀ g, v.ownBlock = some g → g ≠ b) (j : Nat) (v0 : Value) : (w.setCell ⟨b, j, none⟩ v0).ownsRow base e 1 v n xs := by
  have hne : v.ownBlock = none ∨ v.ownBlock ≠ some b := by
    cases hv : v.ownBlock with
    | none => exact .inl rfl
    | some g => right; intro e; exact hb g hv (Option.some.inj e)
  exact World.ownsRow.kept h (grown_set w ⟨b, j, none⟩ v0) hne
/-- Boxes that hold fractions. -/
def Bxs3 (W : World) (l : List (Nat × Array Value)) : Prop := ∀ p ∈ l, Box W p.1 26 p.2
def Rws (W : World) (l : List (Nat × Value × List Int)) : Prop := ∀ p ∈ l, W.ownsRow p.1 115 1 p.2.1 p.2.2.length (p.2.2.map (Value.int .u32))
/-- What is known of a world: boxes of fractions, rows of the call's own, what was there. -/
structure St (w W : World) (l : List (Nat × Array Value)) (r : List (Nat × Value × List Int)) : Prop where
  box : Bxs3 W l
  row : Rws W r
  bel : Below w.heap.size w W
theorem St.later {w W W' : World} {l : List (Nat × Array Value)} {r : List (Nat × Value × List Int)} (h : St w W l r) (hb : Below W.heap.size W W') : St w W' l r :=
  ⟨fun p hp => (h.box p hp).later hb (h.box p hp).lt, fun p hp => owns_later (h.row p hp) hb, bt h.bel hb⟩
theorem St.more {w W : World} {l : List (Nat × Array Value)} {r : List (Nat × Value × List Int)} (h : St w W l r) {base : Nat} {v : Value} {zs : List Int} (o : W.ownsRow base 115 1 v zs.length (zs.map (Value.int .u32))) : St w W l ((base, v, zs) :: r) :=
  ⟨h.box, fun p hp => by
    cases hp with
    | head => exact o
    | tail _ hp => exact h.row p hp, h.bel⟩
theorem St.put {w W : World} {l : List (Nat × Array Value)} {r : List (Nat × Value × List Int)} (h : St w W l r) (n : Bool) (v u : Value) : St w (W.alloc (.cells #[.bool n, v, u] 26)) ((W.heap.size, #[.bool n, v, u]) :: l) r :=
  ⟨fun p hp => by
    cases hp with
    | head => exact Box.made W _ _
    | tail _ hp => exact (h.box p hp).later (alloc_later _ _) (h.box p hp).lt, (h.later (alloc_later _ _)).row, (h.later (alloc_later _ _)).bel⟩
theorem St.get {w W : World} {l : List (Nat × Array Value)} {r : List (Nat × Value × List Int)} (h : St w W l r) {g : Nat} {n : Bool} {v u : Value} (hm : (g, #[.bool n, v, u]) ∈ l) : W.cell? ⟨g, 0, none⟩ = some (.bool n) ∧ W.cell? ⟨g, 1, none⟩ = some v ∧ W.cell? ⟨g, 2, none⟩ = some u := ⟨(h.box _ hm).cell 0, (h.box _ hm).cell 1, (h.box _ hm).cell 2⟩
theorem St.free {w W : World} {l : List (Nat × Array Value)} {r : List (Nat × Value × List Int)} (h : St w W l r) {g : Nat} {n : Bool} {v u : Value} (hm : (g, #[.bool n, v, u]) ∈ l) : W.frozen? ⟨g, 0, none⟩ = false ∧ W.frozen? ⟨g, 1, none⟩ = false ∧ W.frozen? ⟨g, 2, none⟩ = false := ⟨(h.box _ hm).free 0, (h.box _ hm).free 1, (h.box _ hm).free 2⟩
theorem St.same {w W : World} {l : List (Nat × Array Value)} {r : List (Nat × Value × List Int)} (h : St w W l r) {g : Nat} {n : Bool} {v u : Value} (hm : (g, #[.bool n, v, u]) ∈ l) : W.setCell ⟨g, 0, none⟩ (.bool n) = W ∧ W.setCell ⟨g, 1, none⟩ v = W ∧ W.setCell ⟨g, 2, none⟩ u = W := ⟨(h.box _ hm).same rfl, (h.box _ hm).same rfl, (h.box _ hm).same rfl⟩
theorem St.sl {w W : World} {l : List (Nat × Array Value)} {r : List (Nat × Value × List Int)} (h : St w W l r) {base : Nat} {v : Value} {zs : List Int} (wd : Wd zs) (hm : (base, v, zs) ∈ r) : Sl W v zs := Sl.own (h.row _ hm) wd
/-- A store into a box of another type. -/
theorem St.flag {w W : World} {l : List (Nat × Array Value)} {r : List (Nat × Value × List Int)} (h : St w W l r) {g t : Nat} {vs : Array Value} (b : Box W g t vs) (hg : w.heap.size ≤ g) (h1 : t ≠ 26) (h2 : t ≠ 115) (j : Nat) (v : Value) : St w (W.setCell ⟨g, j, none⟩ v) l r := by
  refine ⟨fun p hp => (h.box p hp).other _ _ (fun e => ?_), fun p hp => own_put1 (h.row p hp) g (own_ne_box (h.row p hp) b (Ne.symm h2)) _ _, h.bel.setCell (p := ⟨g, j, none⟩) hg _⟩
  · have e1 := h.box p hp
    rw [e] at e1
    have e2 : some (Obj.cells p.2 26 (0, 0)) = some (.cells vs t (0, 0)) := e1.symm.trans b
    injection e2 with e3
    injection e3 with _ e4 _
    exact h1 e4.symm
end Go.Proofs.YtiaebiaeolaocaaGreatDoor

/- Complex fractions: gauss.Check; the steps' own: look, next. -/
namespace Go.Proofs.YtiaebiaeolaocaaGreatDoor
open Go.RowKit
set_option linter.unusedVariables false

/-- The first error, else the second. -/
def fstE (E e : Int) : Int := if E = 0 then e else E
theorem fstE_zero (e : Int) : fstE 0 e = e := if_pos rfl
theorem fstE_err {E : Int} (e : Int) (h : E ≠ 0) : fstE E e = E := if_neg h
theorem grow_trans {a b c : World} {row : Option Nat} (h : a.grownBy b row) (g : b.grownBy c row) : a.grownBy c row :=
  ⟨g.os.trans h.os, g.tape.trans h.tape, g.output.trans h.output, Nat.le_trans h.size g.size, fun k hk hne => (g.block k (Nat.lt_of_lt_of_le hk h.size) hne).trans (h.block k hk hne)⟩
theorem grow_below {a b : World} (h : Below a.heap.size a b) (row : Option Nat) : a.grownBy b row := ⟨h.os, h.tape, h.output, h.size, fun k hk _ => h.block k hk⟩
theorem grow_set (w : World) (b j : Nat) (v : Value) : w.grownBy (w.setCell ⟨b, j, none⟩ v) (some b) := ⟨rfl, rfl, rfl, by simp [World.setCell], fun k _ hne => Below.heap_setCell _ _ _ _ (fun e => hne (by rw [e]))⟩
theorem Box.kept' {W W' : World} {row : Option Nat} {b t : Nat} {vs : Array Value} (h : Box W b t vs) (hg : W.grownBy W' row) (hne : some b ≠ row) : Box W' b t vs := (hg.block b h.lt hne).trans h

/-- What Check tells of two parts. -/
def gchk (n : Bool) (xs ys : List Int) (m : Bool) (us vs : List Int) : Int := fstE (rchk n xs ys) (rchk m us vs)

set_option maxHeartbeats 800000 in
set_option maxRecDepth 100000 in
theorem gcheck_any (n : Bool) (v : Value) (xs : List Int) (u : Value) (ys : List Int) (m : Bool) (v' : Value) (us : List Int) (u' : Value) (vs : List Int) (w : World) (h1 : Sl w v xs) (h2 : Sl w u ys) (h3 : Sl w v' us) (h4 : Sl w u' vs) :
    Calls Tryz.prog 28 #[.agg #[.bool n, v, u, .bool m, v', u']] w fun e w' => e = .returned (.int .i64 (gchk n xs ys m us vs)) ∧ Below w.heap.size w w' := by
  have HX := hid (Box.made w 28 #[.bool n, v, u, .bool m, v', u'])
  have HB := hid (alloc_later w (.cells #[.bool n, v, u, .bool m, v', u'] 28))
  have H1 : Hid (∀ V, Below w.heap.size w V → Calls Tryz.prog 14 #[.agg #[.bool n, v, u]] V fun e w' => e = .returned (.int .i64 (rchk n xs ys)) ∧ Below V.heap.size V w') := fun V hv => rcheck_any n v xs u ys V (h1.later hv) (h2.later hv)
  have H2 : Hid (∀ V, Below w.heap.size w V → Calls Tryz.prog 14 #[.agg #[.bool m, v', u']] V fun e w' => e = .returned (.int .i64 (rchk m us vs)) ∧ Below V.heap.size V w') := fun V hv => rcheck_any m v' us u' vs V (h3.later hv) (h4.later hv)
  obtain ⟨a, ca, rfl, _⟩ := h1
  obtain ⟨b, cb, rfl, _⟩ := h2
  obtain ⟨c, cc, rfl, _⟩ := h3
  obtain ⟨d, cd, rfl, _⟩ := h4
  have HF : Hid (∀ E, E = rchk n xs ys → (E = 0 → gchk n xs ys m us vs = rchk m us vs) ∧ (E ≠ 0 → gchk n xs ys m us vs = E)) := fun E hE => by
    subst hE
    exact ⟨fun h => by unfold gchk; rw [h, fstE_zero], fun h => fstE_err _ h⟩
  have HF := hid (HF.out _ rfl)
  generalize rchk n xs ys = E at *
  generalize rchk m us vs = F at *
  generalize gchk n xs ys m us vs = G at *
  go_enter Tryz.func28, Tryz.ntmps28
  go_wp2_with fail
  generalize w.alloc (.cells #[.bool n, .slice a xs.length ca, .slice b ys.length cb, .bool m, .slice c us.length cc, .slice d vs.length cd] 28) = X at *
  refine Calls.mono (H1.out _ HB.out) ?_
  rintro e w1 ⟨rfl, hb1⟩
  have HB1 := hid (bt HB.out hb1)
  have HX1 := hid (HX.out.later hb1 HX.out.lt)
  have k3 : w1.cell? ⟨w.heap.size, 3, none⟩ = some (.bool m) := HX1.out.cell 3
  have k4 : w1.cell? ⟨w.heap.size, 4, none⟩ = some (.slice c us.length cc) := HX1.out.cell 4
  have k5 : w1.cell? ⟨w.heap.size, 5, none⟩ = some (.slice d vs.length cd) := HX1.out.cell 5
  clear hb1 HX HX1 HB
  by_cases h : E = 0
  · subst h
    have HR := hid (HF.out.1 rfl)
    clear HF H1
    go_wp2_with fail
    refine Calls.mono (H2.out _ HB1.out) ?_
    rintro e w2 ⟨rfl, hb2⟩
    have HB2 := hid (bt HB1.out hb2)
    clear hb2
    go_wp2_with fail
    go_ret
    exact ⟨ret_int HR.out.symm, HB2.out⟩
  · have HR := hid (HF.out.2 h)
    have h' : (E == 0) = false := by simp [h]
    clear HF H1 H2
    go_wp2_with fail
    go_ret
    exact ⟨ret_int HR.out.symm, HB1.out⟩

theorem boxes3r (w : World) (t : Nat) (u v z : Array Value) : Box (((w.alloc (.cells u t)).alloc (.cells v t)).alloc (.cells z t)) w.heap.size t u ∧ Box (((w.alloc (.cells u t)).alloc (.cells v t)).alloc (.cells z t)) (w.heap.size + 1) t v ∧ Box (((w.alloc (.cells u t)).alloc (.cells v t)).alloc (.cells z t)) (w.heap.size + 1 + 1) t z ∧ Below w.heap.size w (((w.alloc (.cells u t)).alloc (.cells v t)).alloc (.cells z t)) := by
  have e1 : (w.alloc (.cells u t)).heap.size = w.heap.size + 1 := World.size_alloc _ _
  have e2 : ((w.alloc (.cells u t)).alloc (.cells v t)).heap.size = w.heap.size + 1 + 1 := by rw [World.size_alloc, World.size_alloc]
  have a := Box.made w t u
  have b := Box.made (w.alloc (.cells u t)) t v
  have c := Box.made ((w.alloc (.cells u t)).alloc (.cells v t)) t z
  have a2 := a.later (alloc_later (w.alloc (.cells u t)) (.cells v t)) a.lt
  exact ⟨a2.later (alloc_later _ _) a2.lt, e1 ▸ (b.later (alloc_later _ _) b.lt), e2 ▸ c, bt (alloc_later _ _) (bt (alloc_later _ _) (alloc_later _ _))⟩

theorem grow_put {a c : World} {p : Nat} (h : a.grownBy c (some p)) (b j : Nat) (v : Value) (hb : a.heap.size ≤ b ∨ b = p) : a.grownBy (c.setCell ⟨b, j, none⟩ v) (some p) :=
  ⟨h.os, h.tape, h.output, by simpa [World.setCell] using h.size, fun k hk hne => (Below.heap_setCell c ⟨b, j, none⟩ v k (fun e => by
    have e' : k = b := e
    rcases hb with hb | hb
    · omega
    · exact hne (by rw [e', hb]))).trans (h.block k hk hne)⟩
theorem grow_put3 {a c : World} {p : Nat} (h : a.grownBy c (some p)) (b : Nat) (u0 u1 u2 : Value) (hb : a.heap.size ≤ b ∨ b = p) : a.grownBy (((c.setCell ⟨b, 0, none⟩ u0).setCell ⟨b, 1, none⟩ u1).setCell ⟨b, 2, none⟩ u2) (some p) :=
  grow_put (grow_put (grow_put h b 0 u0 hb) b 1 u1 hb) b 2 u2 hb
theorem own_put3' {w : World} {base e n : Nat} {v : Value} {xs : List Value} (h : w.ownsRow base e 1 v n xs) (b : Nat) (hb : ∀ g, v.ownBlock = some g → g ≠ b) (u0 u1 u2 : Value) : (((w.setCell ⟨b, 0, none⟩ u0).setCell ⟨b, 1, none⟩ u1).setCell ⟨b, 2, none⟩ u2).ownsRow base e 1 v n xs :=
  own_put1 (own_put1 (own_put1 h b hb 0 u0) b hb 1 u1) b hb 2 u2
theorem box_put3 {U : World} {b t : Nat} {u0 u1 u2 : Value} (h : Box U b t #[u0, u1, u2]) (v0 v1 v2 : Value) : Box (((U.setCell ⟨b, 0, none⟩ v0).setCell ⟨b, 1, none⟩ v1).setCell ⟨b, 2, none⟩ v2) b t #[v0, v1, v2] := ((h.set 0 v0).set 1 v1).set 2 v2
theorem box_far3 {U : World} {b t b' : Nat} {vs : Array Value} (h : Box U b t vs) (hne : b ≠ b') (v0 v1 v2 : Value) : Box (((U.setCell ⟨b', 0, none⟩ v0).setCell ⟨b', 1, none⟩ v1).setCell ⟨b', 2, none⟩ v2) b t vs := ((h.other ⟨b', 0, none⟩ v0 hne).other ⟨b', 1, none⟩ v1 hne).other ⟨b', 2, none⟩ v2 hne

/-- What a step tells: a fraction, and its error in the steps' own memory. -/
def GTell (w : World) (p : Nat) (e : Int) (q : Rat) (x : Ending) (w' : World) : Prop :=
  ∃ n v xs u ys code, x = .returned (.agg #[.bool n, v, u]) ∧ w'.ownsRow w.heap.size 115 1 v xs.length (xs.map (Value.int .u32)) ∧ w'.ownsRow w.heap.size 115 1 u ys.length (ys.map (Value.int .u32)) ∧ RTells e q n xs ys code ∧ Box w' p 91 #[.int .i64 code] ∧ w.grownBy w' (some p) ∧ Cut w v u w'

set_option maxHeartbeats 1600000 in
set_option maxRecDepth 100000 in
theorem gnext_any (p k : Nat) (E e : Int) (q : Rat) (a0 a1 a2 b0 b1 b2 : Value) (w : World) (hp : Box w p 91 #[.int .i64 E]) (eg : ∀ args W, (callFunc k args).run Tryz.prog W = .ok (.enter k args) W)
    (HF : ∀ V, Below w.heap.size w V → Calls Tryz.prog k #[.agg #[a0, a1, a2], .agg #[b0, b1, b2]] V (RToldA V e q)) :
    Calls Tryz.prog 81 #[.pointer (some ⟨p, 0, none⟩), .func (.func k) #[] #[], .agg #[a0, a1, a2], .agg #[b0, b1, b2]] w (GTell w p (fstE E e) q) := by
  have HFF := hid HF
  have HX := hid (boxes3r w 26 #[a0, a1, a2] #[b0, b1, b2] #[.bool false, .slice none 0 0, .slice none 0 0])
  obtain ⟨X, hX⟩ : ∃ X, ((w.alloc (.cells #[a0, a1, a2] 26)).alloc (.cells #[b0, b1, b2] 26)).alloc (.cells #[.bool false, .slice none 0 0, .slice none 0 0] 26) = X := ⟨_, rfl⟩
  rw [hX] at HX
  have HP := hid (hp.later HX.out.2.2.2 hp.lt)
  have kp : X.cell? ⟨p, 0, none⟩ = some (.int .i64 E) := HP.out.cell 0
  have fp := HP.out.free 0
  clear HF
  by_cases hE : E = 0
  · subst hE
    rw [fstE_zero]
    have c0 : X.cell? ⟨w.heap.size, 0, none⟩ = some a0 := HX.out.1.cell 0
    have c1 : X.cell? ⟨w.heap.size, 1, none⟩ = some a1 := HX.out.1.cell 1
    have c2 : X.cell? ⟨w.heap.size, 2, none⟩ = some a2 := HX.out.1.cell 2
    have d0 : X.cell? ⟨w.heap.size + 1, 0, none⟩ = some b0 := HX.out.2.1.cell 0
    have d1 : X.cell? ⟨w.heap.size + 1, 1, none⟩ = some b1 := HX.out.2.1.cell 1
    have d2 : X.cell? ⟨w.heap.size + 1, 2, none⟩ = some b2 := HX.out.2.1.cell 2
    go_enter Tryz.func81, Tryz.ntmps81
    go_wp2_with fail
    refine Calls.mono (HFF.out _ HX.out.2.2.2) ?_
    rintro x w1 ⟨n, v, xs, u, ys, code, rfl, ov, ou, ht, hb1, hcut⟩
    obtain ⟨av, cv, rfl⟩ := own_slice' ov
    obtain ⟨au, cu, rfl⟩ := own_slice' ou
    have HM1 := hid (HX.out.2.2.1.later hb1 HX.out.2.2.1.lt)
    have HP1 := hid (HP.out.later hb1 HP.out.lt)
    have hpw : p < w.heap.size := hp.lt
    have m0 : w1.cell? ⟨w.heap.size + 1 + 1, 0, none⟩ = some (.bool false) := HM1.out.cell 0
    have m1 : w1.cell? ⟨w.heap.size + 1 + 1, 1, none⟩ = some (.slice none 0 0) := HM1.out.cell 1
    have m2 : w1.cell? ⟨w.heap.size + 1 + 1, 2, none⟩ = some (.slice none 0 0) := HM1.out.cell 2
    have n0 := HM1.out.free 0
    have n1 := HM1.out.free 1
    have n2 := HM1.out.free 2
    have kp1 : w1.cell? ⟨p, 0, none⟩ = some (.int .i64 0) := HP1.out.cell 0
    have fp1 := HP1.out.free 0
    have hne : p ≠ w.heap.size + 1 + 1 := by omega
    have HBB := hid (bt HX.out.2.2.2 hb1)
    have HOV := hid ov
    have HOU := hid ou
    have HTT := hid ht
    have HCC := hid hcut
    clear ov ou ht hcut hb1 c0 c1 c2 d0 d1 d2 kp fp HFF eg
    go_wp2_with fail
    have hlo : ∀ (x : Value), (∀ b, x.ownBlock = some b → X.heap.size ≤ b) → (∀ b, x.ownBlock = some b → b ≠ w.heap.size + 1 + 1) ∧ (∀ b, x.ownBlock = some b → b ≠ p) := fun x hx => by
      have h3 := HX.out.2.2.1.lt
      exact ⟨fun b hb => by have := hx b hb; omega, fun b hb => by have := hx b hb; omega⟩
    have hv := hlo _ (fun b hb => (HOV.out.lt b hb).1)
    have hu := hlo _ (fun b hb => (HOU.out.lt b hb).1)
    have B1 := box_put3 ((box_put3 HM1.out (.bool n) (.slice av xs.length cv) (.slice au ys.length cu)).other ⟨p, 0, none⟩ (.int .i64 code) (by simp; omega)) (.bool n) (.slice av xs.length cv) (.slice au ys.length cu)
    have P1 : Box _ p 91 #[.int .i64 code] := box_far3 ((box_far3 HP1.out hne (.bool n) (.slice av xs.length cv) (.slice au ys.length cu)).set 0 (.int .i64 code)) hne (.bool n) (.slice av xs.length cv) (.slice au ys.length cu)
    have V1 := own_put3' (own_put1 (own_put3' HOV.out _ hv.1 (.bool n) (.slice av xs.length cv) (.slice au ys.length cu)) p hv.2 0 (.int .i64 code)) _ hv.1 (.bool n) (.slice av xs.length cv) (.slice au ys.length cu)
    have U1 := own_put3' (own_put1 (own_put3' HOU.out _ hu.1 (.bool n) (.slice av xs.length cv) (.slice au ys.length cu)) p hu.2 0 (.int .i64 code)) _ hu.1 (.bool n) (.slice av xs.length cv) (.slice au ys.length cu)
    have G1 := grow_put3 (grow_put (grow_put3 (grow_below HBB.out (some p)) (w.heap.size + 1 + 1) (.bool n) (.slice av xs.length cv) (.slice au ys.length cu) (.inl (by omega))) p 0 (.int .i64 code) (.inr rfl)) (w.heap.size + 1 + 1) (.bool n) (.slice av xs.length cv) (.slice au ys.length cu) (.inl (by omega))
    have hXw := HX.out.2.2.2.size
    refine bodyPost_ret (results_cell_row (by rfl) _ _ (w.heap.size + 1 + 1) 26 _ (0, 0) _ (by rfl) B1 Tryz.underlying26 rfl (by kernel_rfl)) rfl ?_
    refine ⟨n, _, xs, _, ys, code, rfl, owns_base V1 hXw, owns_base U1 hXw, HTT.out, P1, G1, ?_⟩
    exact HCC.out.up hXw (by simp [World.setCell])
  · have hE' : (E == 0) = false := by simp [hE]
    rw [fstE_err e hE]
    have m0 : X.cell? ⟨w.heap.size + 1 + 1, 0, none⟩ = some (.bool false) := HX.out.2.2.1.cell 0
    have m1 : X.cell? ⟨w.heap.size + 1 + 1, 1, none⟩ = some (.slice none 0 0) := HX.out.2.2.1.cell 1
    have m2 : X.cell? ⟨w.heap.size + 1 + 1, 2, none⟩ = some (.slice none 0 0) := HX.out.2.2.1.cell 2
    have n0 := HX.out.2.2.1.free 0
    have n1 := HX.out.2.2.1.free 1
    have n2 := HX.out.2.2.1.free 2
    go_enter Tryz.func81, Tryz.ntmps81
    go_wp2_with fail
    have hpw : p < w.heap.size := hp.lt
    have B1 := box_put3 HX.out.2.2.1 (.bool false) (.slice none 0 0) (.slice none 0 0)
    have P1 := box_far3 HP.out (show p ≠ w.heap.size + 1 + 1 by omega) (.bool false) (.slice none 0 0) (.slice none 0 0)
    have G1 := grow_put3 (grow_below HX.out.2.2.2 (some p)) (w.heap.size + 1 + 1) (.bool false) (.slice none 0 0) (.slice none 0 0) (.inl (by omega))
    refine bodyPost_ret (results_cell_row (by rfl) _ _ (w.heap.size + 1 + 1) 26 _ (0, 0) _ (by rfl) B1 Tryz.underlying26 rfl (by kernel_rfl)) rfl ?_
    refine ⟨false, _, [], _, [], E, rfl, World.ownsRow_nil _ _ _ _, World.ownsRow_nil _ _ _ _, RTells.err hE, P1, G1, ?_⟩
    exact ⟨w.heap.size, Nat.le_refl _, G1.size, fun g hg => by simp [Value.ownBlock] at hg, fun g hg => by simp [Value.ownBlock] at hg⟩
end Go.Proofs.YtiaebiaeolaocaaGreatDoor

/- Complex fractions, the steps' own: sum, difference, product, quotient: of any fractions. -/
namespace Go.Proofs.YtiaebiaeolaocaaGreatDoor
open Go.RowKit
set_option linter.unusedVariables false

set_option maxHeartbeats 1600000 in
set_option maxRecDepth 100000 in
theorem gproduct_any (p : Nat) (E : Int) (n : Bool) (a : Option Addr) (ca : Nat) (xs : List Int) (b : Option Addr) (cb : Nat) (ys : List Int) (m : Bool) (c : Option Addr) (cc : Nat) (us : List Int) (d : Option Addr) (cd : Nat) (vs : List Int) (w : World) (hp : Box w p 91 #[.int .i64 E]) (sx : Sl w (.slice a xs.length ca) xs) (sy : Sl w (.slice b ys.length cb) ys) (su : Sl w (.slice c us.length cc) us) (sv : Sl w (.slice d vs.length cd) vs) :
    Calls Tryz.prog 67 #[.pointer (some ⟨p, 0, none⟩), .agg #[.bool n, .slice a xs.length ca, .slice b ys.length cb], .agg #[.bool m, .slice c us.length cc, .slice d vs.length cd]] w (GTell w p (fstE E (rboth n xs ys m us vs)) (rq n xs ys * rq m us vs)) := by
  have HX := hid (boxes3r w 26 #[.bool n, .slice a xs.length ca, .slice b ys.length cb] #[.bool m, .slice c us.length cc, .slice d vs.length cd] #[.bool false, .slice none 0 0, .slice none 0 0])
  obtain ⟨X, hX⟩ : ∃ X, ((w.alloc (.cells #[.bool n, .slice a xs.length ca, .slice b ys.length cb] 26)).alloc (.cells #[.bool m, .slice c us.length cc, .slice d vs.length cd] 26)).alloc (.cells #[.bool false, .slice none 0 0, .slice none 0 0] 26) = X := ⟨_, rfl⟩
  rw [hX] at HX
  have HP := hid (hp.later HX.out.2.2.2 hp.lt)
  have hpw : p < w.heap.size := hp.lt
  have HN := hid (gnext_any p 82 E (rboth n xs ys m us vs) (rq n xs ys * rq m us vs) (.bool n) (.slice a xs.length ca) (.slice b ys.length cb) (.bool m) (.slice c us.length cc) (.slice d vs.length cd) X HP.out (enters_of Tryz.func82 (by kernel_rfl) rfl) (fun V hv => rMul_full n a ca xs b cb ys m c cc us d cd vs V (sx.later (bt HX.out.2.2.2 hv)) (sy.later (bt HX.out.2.2.2 hv)) (su.later (bt HX.out.2.2.2 hv)) (sv.later (bt HX.out.2.2.2 hv))))
  generalize fstE E (rboth n xs ys m us vs) = e at *
  generalize rq n xs ys * rq m us vs = q at *
  have c0 : X.cell? ⟨w.heap.size, 0, none⟩ = some (.bool n) := HX.out.1.cell 0
  have c1 : X.cell? ⟨w.heap.size, 1, none⟩ = some (.slice a xs.length ca) := HX.out.1.cell 1
  have c2 : X.cell? ⟨w.heap.size, 2, none⟩ = some (.slice b ys.length cb) := HX.out.1.cell 2
  have d0 : X.cell? ⟨w.heap.size + 1, 0, none⟩ = some (.bool m) := HX.out.2.1.cell 0
  have d1 : X.cell? ⟨w.heap.size + 1, 1, none⟩ = some (.slice c us.length cc) := HX.out.2.1.cell 1
  have d2 : X.cell? ⟨w.heap.size + 1, 2, none⟩ = some (.slice d vs.length cd) := HX.out.2.1.cell 2
  clear sx sy su sv hp
  go_enter Tryz.func67, Tryz.ntmps67
  go_wp2_with fail
  refine Calls.mono HN.out ?_
  rintro x w1 ⟨k, v, zs, u, ts, code, rfl, ov, ou, ht, hpb, hg, hcut⟩
  obtain ⟨av, cv, rfl⟩ := own_slice' ov
  obtain ⟨au, cu, rfl⟩ := own_slice' ou
  have HM1 := hid (HX.out.2.2.1.kept' hg (by intro e; have := Option.some.inj e; omega))
  have m0 : w1.cell? ⟨w.heap.size + 1 + 1, 0, none⟩ = some (.bool false) := HM1.out.cell 0
  have m1 : w1.cell? ⟨w.heap.size + 1 + 1, 1, none⟩ = some (.slice none 0 0) := HM1.out.cell 1
  have m2 : w1.cell? ⟨w.heap.size + 1 + 1, 2, none⟩ = some (.slice none 0 0) := HM1.out.cell 2
  have n0 := HM1.out.free 0
  have n1 := HM1.out.free 1
  have n2 := HM1.out.free 2
  have HOV := hid ov
  have HOU := hid ou
  have HTT := hid ht
  have HCC := hid hcut
  have HPB := hid hpb
  have HG := hid hg
  clear ov ou ht hcut hpb hg c0 c1 c2 d0 d1 d2 HN
  go_wp2_with fail
  have h3 := HX.out.2.2.1.lt
  have hv : ∀ b', (Value.slice av zs.length cv).ownBlock = some b' → b' ≠ w.heap.size + 1 + 1 := fun b' hb => by have := (HOV.out.lt b' hb).1; omega
  have hu : ∀ b', (Value.slice au ts.length cu).ownBlock = some b' → b' ≠ w.heap.size + 1 + 1 := fun b' hb => by have := (HOU.out.lt b' hb).1; omega
  have B1 := box_put3 HM1.out (.bool k) (.slice av zs.length cv) (.slice au ts.length cu)
  have P1 := box_far3 HPB.out (show p ≠ w.heap.size + 1 + 1 by omega) (.bool k) (.slice av zs.length cv) (.slice au ts.length cu)
  have V1 := own_put3' HOV.out _ hv (.bool k) (.slice av zs.length cv) (.slice au ts.length cu)
  have U1 := own_put3' HOU.out _ hu (.bool k) (.slice av zs.length cv) (.slice au ts.length cu)
  have G1 := grow_put3 (grow_trans (grow_below HX.out.2.2.2 (some p)) HG.out) (w.heap.size + 1 + 1) (.bool k) (.slice av zs.length cv) (.slice au ts.length cu) (.inl (by omega))
  have hXw := HX.out.2.2.2.size
  refine bodyPost_ret (results_cell_row (by rfl) _ _ (w.heap.size + 1 + 1) 26 _ (0, 0) _ (by rfl) B1 Tryz.underlying26 rfl (by kernel_rfl)) rfl ?_
  exact ⟨k, _, zs, _, ts, code, rfl, owns_base V1 hXw, owns_base U1 hXw, HTT.out, P1, G1, HCC.out.up hXw (by simp [World.setCell])⟩

end Go.Proofs.YtiaebiaeolaocaaGreatDoor

/- Complex fractions, the steps' own: opposite, look, told. -/
namespace Go.Proofs.YtiaebiaeolaocaaGreatDoor
open Go.RowKit
set_option linter.unusedVariables false

theorem boxes2r (w : World) (t : Nat) (u v : Array Value) : Box ((w.alloc (.cells u t)).alloc (.cells v t)) w.heap.size t u ∧ Box ((w.alloc (.cells u t)).alloc (.cells v t)) (w.heap.size + 1) t v ∧ Below w.heap.size w ((w.alloc (.cells u t)).alloc (.cells v t)) := by
  have e1 : (w.alloc (.cells u t)).heap.size = w.heap.size + 1 := World.size_alloc _ _
  have a := Box.made w t u
  have b := Box.made (w.alloc (.cells u t)) t v
  exact ⟨a.later (alloc_later _ _) a.lt, e1 ▸ b, bt (alloc_later _ _) (alloc_later _ _)⟩

set_option maxHeartbeats 1600000 in
set_option maxRecDepth 100000 in
theorem gopposite_any (p : Nat) (E : Int) (n : Bool) (a : Option Addr) (ca : Nat) (xs : List Int) (b : Option Addr) (cb : Nat) (ys : List Int) (w : World) (hp : Box w p 91 #[.int .i64 E]) (sx : Sl w (.slice a xs.length ca) xs) (sy : Sl w (.slice b ys.length cb) ys) :
    Calls Tryz.prog 33 #[.pointer (some ⟨p, 0, none⟩), .agg #[.bool n, .slice a xs.length ca, .slice b ys.length cb]] w (GTell w p (fstE E (rchk n xs ys)) (-(rq n xs ys))) := by
  have HX := hid (boxes2r w 26 #[.bool n, .slice a xs.length ca, .slice b ys.length cb] #[.bool false, .slice none 0 0, .slice none 0 0])
  obtain ⟨X, hX⟩ : ∃ X, (w.alloc (.cells #[.bool n, .slice a xs.length ca, .slice b ys.length cb] 26)).alloc (.cells #[.bool false, .slice none 0 0, .slice none 0 0] 26) = X := ⟨_, rfl⟩
  rw [hX] at HX
  have HP := hid (hp.later HX.out.2.2 hp.lt)
  have kp : X.cell? ⟨p, 0, none⟩ = some (.int .i64 E) := HP.out.cell 0
  have fp := HP.out.free 0
  have hpw : p < w.heap.size := hp.lt
  have HFF : Hid (∀ V, Below w.heap.size w V → Calls Tryz.prog 56 #[.agg #[.bool n, .slice a xs.length ca, .slice b ys.length cb]] V (RToldA V (rchk n xs ys) (-(rq n xs ys)))) := fun V hv => rNeg_full n a ca xs b cb ys V (sx.later hv) (sy.later hv)
  generalize rchk n xs ys = e at *
  generalize -(rq n xs ys) = q at *
  clear sx sy
  by_cases hE : E = 0
  · subst hE
    rw [fstE_zero]
    have c0 : X.cell? ⟨w.heap.size, 0, none⟩ = some (.bool n) := HX.out.1.cell 0
    have c1 : X.cell? ⟨w.heap.size, 1, none⟩ = some (.slice a xs.length ca) := HX.out.1.cell 1
    have c2 : X.cell? ⟨w.heap.size, 2, none⟩ = some (.slice b ys.length cb) := HX.out.1.cell 2
    go_enter Tryz.func33, Tryz.ntmps33
    go_wp2_with fail
    refine Calls.mono (HFF.out _ HX.out.2.2) ?_
    rintro x w1 ⟨k, v, zs, u, ts, code, rfl, ov, ou, ht, hb1, hcut⟩
    obtain ⟨av, cv, rfl⟩ := own_slice' ov
    obtain ⟨au, cu, rfl⟩ := own_slice' ou
    have HM1 := hid (HX.out.2.1.later hb1 HX.out.2.1.lt)
    have HP1 := hid (HP.out.later hb1 HP.out.lt)
    have m0 : w1.cell? ⟨w.heap.size + 1, 0, none⟩ = some (.bool false) := HM1.out.cell 0
    have m1 : w1.cell? ⟨w.heap.size + 1, 1, none⟩ = some (.slice none 0 0) := HM1.out.cell 1
    have m2 : w1.cell? ⟨w.heap.size + 1, 2, none⟩ = some (.slice none 0 0) := HM1.out.cell 2
    have n0 := HM1.out.free 0
    have n1 := HM1.out.free 1
    have n2 := HM1.out.free 2
    have kp1 : w1.cell? ⟨p, 0, none⟩ = some (.int .i64 0) := HP1.out.cell 0
    have fp1 := HP1.out.free 0
    have hne : p ≠ w.heap.size + 1 := by omega
    have HBB := hid (bt HX.out.2.2 hb1)
    have HOV := hid ov
    have HOU := hid ou
    have HTT := hid ht
    have HCC := hid hcut
    clear ov ou ht hcut hb1 c0 c1 c2 kp fp HFF
    go_wp2_with fail
    have h3 := HX.out.2.1.lt
    have hv : (∀ b', (Value.slice av zs.length cv).ownBlock = some b' → b' ≠ w.heap.size + 1) ∧ (∀ b', (Value.slice av zs.length cv).ownBlock = some b' → b' ≠ p) := ⟨fun b' hb => by have := (HOV.out.lt b' hb).1; omega, fun b' hb => by have := (HOV.out.lt b' hb).1; omega⟩
    have hu : (∀ b', (Value.slice au ts.length cu).ownBlock = some b' → b' ≠ w.heap.size + 1) ∧ (∀ b', (Value.slice au ts.length cu).ownBlock = some b' → b' ≠ p) := ⟨fun b' hb => by have := (HOU.out.lt b' hb).1; omega, fun b' hb => by have := (HOU.out.lt b' hb).1; omega⟩
    have B1 := box_put3 ((box_put3 HM1.out (.bool k) (.slice av zs.length cv) (.slice au ts.length cu)).other ⟨p, 0, none⟩ (.int .i64 code) (by simp; omega)) (.bool k) (.slice av zs.length cv) (.slice au ts.length cu)
    have P1 : Box _ p 91 #[.int .i64 code] := box_far3 ((box_far3 HP1.out hne (.bool k) (.slice av zs.length cv) (.slice au ts.length cu)).set 0 (.int .i64 code)) hne (.bool k) (.slice av zs.length cv) (.slice au ts.length cu)
    have V1 := own_put3' (own_put1 (own_put3' HOV.out _ hv.1 (.bool k) (.slice av zs.length cv) (.slice au ts.length cu)) p hv.2 0 (.int .i64 code)) _ hv.1 (.bool k) (.slice av zs.length cv) (.slice au ts.length cu)
    have U1 := own_put3' (own_put1 (own_put3' HOU.out _ hu.1 (.bool k) (.slice av zs.length cv) (.slice au ts.length cu)) p hu.2 0 (.int .i64 code)) _ hu.1 (.bool k) (.slice av zs.length cv) (.slice au ts.length cu)
    have G1 := grow_put3 (grow_put (grow_put3 (grow_below HBB.out (some p)) (w.heap.size + 1) (.bool k) (.slice av zs.length cv) (.slice au ts.length cu) (.inl (by omega))) p 0 (.int .i64 code) (.inr rfl)) (w.heap.size + 1) (.bool k) (.slice av zs.length cv) (.slice au ts.length cu) (.inl (by omega))
    have hXw := HX.out.2.2.size
    refine bodyPost_ret (results_cell_row (by rfl) _ _ (w.heap.size + 1) 26 _ (0, 0) _ (by rfl) B1 Tryz.underlying26 rfl (by kernel_rfl)) rfl ?_
    refine ⟨k, _, zs, _, ts, code, rfl, owns_base V1 hXw, owns_base U1 hXw, HTT.out, P1, G1, ?_⟩
    exact HCC.out.up hXw (by simp [World.setCell])
  · have hE' : (E == 0) = false := by simp [hE]
    rw [fstE_err e hE]
    have m0 : X.cell? ⟨w.heap.size + 1, 0, none⟩ = some (.bool false) := HX.out.2.1.cell 0
    have m1 : X.cell? ⟨w.heap.size + 1, 1, none⟩ = some (.slice none 0 0) := HX.out.2.1.cell 1
    have m2 : X.cell? ⟨w.heap.size + 1, 2, none⟩ = some (.slice none 0 0) := HX.out.2.1.cell 2
    have n0 := HX.out.2.1.free 0
    have n1 := HX.out.2.1.free 1
    have n2 := HX.out.2.1.free 2
    go_enter Tryz.func33, Tryz.ntmps33
    go_wp2_with fail
    have B1 := box_put3 HX.out.2.1 (.bool false) (.slice none 0 0) (.slice none 0 0)
    have P1 := box_far3 HP.out (show p ≠ w.heap.size + 1 by omega) (.bool false) (.slice none 0 0) (.slice none 0 0)
    have G1 := grow_put3 (grow_below HX.out.2.2 (some p)) (w.heap.size + 1) (.bool false) (.slice none 0 0) (.slice none 0 0) (.inl (by omega))
    refine bodyPost_ret (results_cell_row (by rfl) _ _ (w.heap.size + 1) 26 _ (0, 0) _ (by rfl) B1 Tryz.underlying26 rfl (by kernel_rfl)) rfl ?_
    refine ⟨false, _, [], _, [], E, rfl, World.ownsRow_nil _ _ _ _, World.ownsRow_nil _ _ _ _, RTells.err hE, P1, G1, ?_⟩
    exact ⟨w.heap.size, Nat.le_refl _, G1.size, fun g hg => by simp [Value.ownBlock] at hg, fun g hg => by simp [Value.ownBlock] at hg⟩

set_option maxHeartbeats 800000 in
set_option maxRecDepth 100000 in
theorem glook_any (p : Nat) (E : Int) (n : Bool) (a : Option Addr) (ca : Nat) (xs : List Int) (b : Option Addr) (cb : Nat) (ys : List Int) (m : Bool) (c : Option Addr) (cc : Nat) (us : List Int) (d : Option Addr) (cd : Nat) (vs : List Int) (w : World) (hp : Box w p 91 #[.int .i64 E]) (sx : Sl w (.slice a xs.length ca) xs) (sy : Sl w (.slice b ys.length cb) ys) (su : Sl w (.slice c us.length cc) us) (sv : Sl w (.slice d vs.length cd) vs) :
    Calls Tryz.prog 55 #[.pointer (some ⟨p, 0, none⟩), .agg #[.bool n, .slice a xs.length ca, .slice b ys.length cb, .bool m, .slice c us.length cc, .slice d vs.length cd]] w fun e w' => e = .returned (.tuple #[]) ∧ Box w' p 91 #[.int .i64 (fstE E (gchk n xs ys m us vs))] ∧ w.grownBy w' (some p) := by
  have HB := hid (Box.made w 28 #[.bool n, .slice a xs.length ca, .slice b ys.length cb, .bool m, .slice c us.length cc, .slice d vs.length cd])
  have HW := hid (alloc_later w (.cells #[.bool n, .slice a xs.length ca, .slice b ys.length cb, .bool m, .slice c us.length cc, .slice d vs.length cd] 28))
  obtain ⟨X, hX⟩ : ∃ X, w.alloc (.cells #[.bool n, .slice a xs.length ca, .slice b ys.length cb, .bool m, .slice c us.length cc, .slice d vs.length cd] 28) = X := ⟨_, rfl⟩
  rw [hX] at HB HW
  have HP := hid (hp.later HW.out hp.lt)
  have kp : X.cell? ⟨p, 0, none⟩ = some (.int .i64 E) := HP.out.cell 0
  have fp := HP.out.free 0
  have HC := hid (gcheck_any n _ xs _ ys m _ us _ vs X (sx.later HW.out) (sy.later HW.out) (su.later HW.out) (sv.later HW.out))
  generalize gchk n xs ys m us vs = e at *
  clear sx sy su sv hp
  by_cases hE : E = 0
  · subst hE
    rw [fstE_zero]
    have c0 : X.cell? ⟨w.heap.size, 0, none⟩ = some (.bool n) := HB.out.cell 0
    have c1 : X.cell? ⟨w.heap.size, 1, none⟩ = some (.slice a xs.length ca) := HB.out.cell 1
    have c2 : X.cell? ⟨w.heap.size, 2, none⟩ = some (.slice b ys.length cb) := HB.out.cell 2
    have c3 : X.cell? ⟨w.heap.size, 3, none⟩ = some (.bool m) := HB.out.cell 3
    have c4 : X.cell? ⟨w.heap.size, 4, none⟩ = some (.slice c us.length cc) := HB.out.cell 4
    have c5 : X.cell? ⟨w.heap.size, 5, none⟩ = some (.slice d vs.length cd) := HB.out.cell 5
    go_enter Tryz.func55, Tryz.ntmps55
    go_wp2_with fail
    refine Calls.mono HC.out ?_
    rintro x w1 ⟨rfl, hb1⟩
    have HP1 := hid (HP.out.later hb1 HP.out.lt)
    have kp1 : w1.cell? ⟨p, 0, none⟩ = some (.int .i64 0) := HP1.out.cell 0
    have fp1 := HP1.out.free 0
    have HBB := hid (bt HW.out hb1)
    clear hb1 c0 c1 c2 c3 c4 c5 kp fp HC
    go_wp2_with fail
    go_end0
    exact ⟨rfl, HP1.out.set 0 (.int .i64 e), grow_put (grow_below HBB.out (some p)) p 0 _ (.inr rfl)⟩
  · have hE' : (E == 0) = false := by simp [hE]
    rw [fstE_err e hE]
    go_enter Tryz.func55, Tryz.ntmps55
    go_wp2_with fail
    go_end0
    exact ⟨rfl, HP.out, grow_below HW.out (some p)⟩
end Go.Proofs.YtiaebiaeolaocaaGreatDoor

/- Complex fractions, the steps' own: lookAt of one and of two, told. -/
namespace Go.Proofs.YtiaebiaeolaocaaGreatDoor
open Go.RowKit
set_option linter.unusedVariables false

set_option maxHeartbeats 1600000 in
set_option maxRecDepth 100000 in
theorem glookAt1_any (g : Nat) (n : Bool) (a : Option Addr) (ca : Nat) (xs : List Int) (b : Option Addr) (cb : Nat) (ys : List Int) (m : Bool) (c : Option Addr) (cc : Nat) (us : List Int) (d : Option Addr) (cd : Nat) (vs : List Int) (w : World) (hg : Box w g 28 #[.bool n, .slice a xs.length ca, .slice b ys.length cb, .bool m, .slice c us.length cc, .slice d vs.length cd]) (sx : Sl w (.slice a xs.length ca) xs) (sy : Sl w (.slice b ys.length cb) ys) (su : Sl w (.slice c us.length cc) us) (sv : Sl w (.slice d vs.length cd) vs) :
    Calls Tryz.prog 31 #[.slice (some ⟨g, 0, none⟩) 1 1] w fun e w' => ∃ p, e = .returned (.pointer (some ⟨p, 0, none⟩)) ∧ w.heap.size ≤ p ∧ Box w' p 91 #[.int .i64 (gchk n xs ys m us vs)] ∧ Below w.heap.size w w' := by
  have HS := hid (Box.made w 91 #[.int .i64 0])
  have HW := hid (alloc_later w (.cells #[.int .i64 0] 91))
  have HL : Hid (∀ (V : World) (E : Int), Below w.heap.size w V → Box V w.heap.size 91 #[.int .i64 E] → Calls Tryz.prog 55 #[.pointer (some ⟨w.heap.size, 0, none⟩), .agg #[.bool n, .slice a xs.length ca, .slice b ys.length cb, .bool m, .slice c us.length cc, .slice d vs.length cd]] V fun e w' => e = .returned (.tuple #[]) ∧ Box w' w.heap.size 91 #[.int .i64 (fstE E (gchk n xs ys m us vs))] ∧ V.grownBy w' (some w.heap.size)) := fun V E hv hb => glook_any w.heap.size E n a ca xs b cb ys m c cc us d cd vs V hb (sx.later hv) (sy.later hv) (su.later hv) (sv.later hv)
  generalize gchk n xs ys m us vs = E1 at *
  have HG := hid hg
  have hgl : g < w.heap.size := hg.lt
  clear hg sx sy su sv
  go_enter Tryz.func31, Tryz.ntmps31
  go_wp2_with fail
  generalize w.alloc (.cells #[.int .i64 0] 91) = X at *
  refine wp_loop_rounds 2 ?_
  rw [rounds_succ]
  have k0 : X.cell? ⟨g, 0, none⟩ = some (.bool n) := (HG.out.later (HW.out) hgl).cell 0
  have k1 : X.cell? ⟨g, 1, none⟩ = some (.slice a xs.length ca) := (HG.out.later (HW.out) hgl).cell 1
  have k2 : X.cell? ⟨g, 2, none⟩ = some (.slice b ys.length cb) := (HG.out.later (HW.out) hgl).cell 2
  have k3 : X.cell? ⟨g, 3, none⟩ = some (.bool m) := (HG.out.later (HW.out) hgl).cell 3
  have k4 : X.cell? ⟨g, 4, none⟩ = some (.slice c us.length cc) := (HG.out.later (HW.out) hgl).cell 4
  have k5 : X.cell? ⟨g, 5, none⟩ = some (.slice d vs.length cd) := (HG.out.later (HW.out) hgl).cell 5
  have HA0 := hid (alloc_later X (.cells #[.bool n, .slice a xs.length ca, .slice b ys.length cb, .bool m, .slice c us.length cc, .slice d vs.length cd] 28))
  go_wp2_with fail
  generalize X.alloc (.cells #[.bool n, .slice a xs.length ca, .slice b ys.length cb, .bool m, .slice c us.length cc, .slice d vs.length cd] 28) = Y0 at *
  refine Calls.mono (HL.out Y0 0 (bt (HW.out) HA0.out) ((HS.out).later HA0.out (HS.out).lt)) ?_
  rintro e z0 ⟨rfl, hz0, hgz0⟩
  have HZ0 := hid hz0
  have HB0 : Hid (Below w.heap.size w z0) := (bt (HW.out) HA0.out).grown hgz0 (bt (HW.out) HA0.out).size (fun q hq => by have e := Option.some.inj hq; omega)
  clear hz0 hgz0 k0 k1 k2 k3 k4 k5
  go_wp2_with fail
  rw [rounds_succ]
  go_wp2_with fail
  go_ret
  refine ⟨_, rfl, Nat.le_refl _, ?_, HB0.out⟩
  have e := HZ0.out
  rw [fstE_zero] at e
  exact e

set_option maxHeartbeats 1600000 in
set_option maxRecDepth 100000 in
theorem glookAt2_any (g : Nat) (n : Bool) (a : Option Addr) (ca : Nat) (xs : List Int) (b : Option Addr) (cb : Nat) (ys : List Int) (m : Bool) (c : Option Addr) (cc : Nat) (us : List Int) (d : Option Addr) (cd : Nat) (vs : List Int) (n2 : Bool) (a2 : Option Addr) (ca2 : Nat) (xs2 : List Int) (b2' : Option Addr) (cb2 : Nat) (ys2 : List Int) (m2 : Bool) (c2 : Option Addr) (cc2 : Nat) (us2 : List Int) (d2 : Option Addr) (cd2 : Nat) (vs2 : List Int) (w : World) (hg : Box w g 28 #[.bool n, .slice a xs.length ca, .slice b ys.length cb, .bool m, .slice c us.length cc, .slice d vs.length cd, .bool n2, .slice a2 xs2.length ca2, .slice b2' ys2.length cb2, .bool m2, .slice c2 us2.length cc2, .slice d2 vs2.length cd2]) (sx : Sl w (.slice a xs.length ca) xs) (sy : Sl w (.slice b ys.length cb) ys) (su : Sl w (.slice c us.length cc) us) (sv : Sl w (.slice d vs.length cd) vs) (sx2 : Sl w (.slice a2 xs2.length ca2) xs2) (sy2 : Sl w (.slice b2' ys2.length cb2) ys2) (su2 : Sl w (.slice c2 us2.length cc2) us2) (sv2 : Sl w (.slice d2 vs2.length cd2) vs2) :
    Calls Tryz.prog 31 #[.slice (some ⟨g, 0, none⟩) 2 2] w fun e w' => ∃ p, e = .returned (.pointer (some ⟨p, 0, none⟩)) ∧ w.heap.size ≤ p ∧ Box w' p 91 #[.int .i64 (fstE (gchk n xs ys m us vs) (gchk n2 xs2 ys2 m2 us2 vs2))] ∧ Below w.heap.size w w' := by
  have HS := hid (Box.made w 91 #[.int .i64 0])
  have HW := hid (alloc_later w (.cells #[.int .i64 0] 91))
  have HL : Hid (∀ (V : World) (E : Int), Below w.heap.size w V → Box V w.heap.size 91 #[.int .i64 E] → Calls Tryz.prog 55 #[.pointer (some ⟨w.heap.size, 0, none⟩), .agg #[.bool n, .slice a xs.length ca, .slice b ys.length cb, .bool m, .slice c us.length cc, .slice d vs.length cd]] V fun e w' => e = .returned (.tuple #[]) ∧ Box w' w.heap.size 91 #[.int .i64 (fstE E (gchk n xs ys m us vs))] ∧ V.grownBy w' (some w.heap.size)) := fun V E hv hb => glook_any w.heap.size E n a ca xs b cb ys m c cc us d cd vs V hb (sx.later hv) (sy.later hv) (su.later hv) (sv.later hv)
  have HL2 : Hid (∀ (V : World) (E : Int), Below w.heap.size w V → Box V w.heap.size 91 #[.int .i64 E] → Calls Tryz.prog 55 #[.pointer (some ⟨w.heap.size, 0, none⟩), .agg #[.bool n2, .slice a2 xs2.length ca2, .slice b2' ys2.length cb2, .bool m2, .slice c2 us2.length cc2, .slice d2 vs2.length cd2]] V fun e w' => e = .returned (.tuple #[]) ∧ Box w' w.heap.size 91 #[.int .i64 (fstE E (gchk n2 xs2 ys2 m2 us2 vs2))] ∧ V.grownBy w' (some w.heap.size)) := fun V E hv hb => glook_any w.heap.size E n2 a2 ca2 xs2 b2' cb2 ys2 m2 c2 cc2 us2 d2 cd2 vs2 V hb (sx2.later hv) (sy2.later hv) (su2.later hv) (sv2.later hv)
  generalize gchk n xs ys m us vs = E1 at *
  generalize gchk n2 xs2 ys2 m2 us2 vs2 = E2 at *
  have HG := hid hg
  have hgl : g < w.heap.size := hg.lt
  clear hg sx sy su sv sx2 sy2 su2 sv2
  go_enter Tryz.func31, Tryz.ntmps31
  go_wp2_with fail
  generalize w.alloc (.cells #[.int .i64 0] 91) = X at *
  refine wp_loop_rounds 3 ?_
  rw [rounds_succ]
  have k0 : X.cell? ⟨g, 0, none⟩ = some (.bool n) := (HG.out.later (HW.out) hgl).cell 0
  have k1 : X.cell? ⟨g, 1, none⟩ = some (.slice a xs.length ca) := (HG.out.later (HW.out) hgl).cell 1
  have k2 : X.cell? ⟨g, 2, none⟩ = some (.slice b ys.length cb) := (HG.out.later (HW.out) hgl).cell 2
  have k3 : X.cell? ⟨g, 3, none⟩ = some (.bool m) := (HG.out.later (HW.out) hgl).cell 3
  have k4 : X.cell? ⟨g, 4, none⟩ = some (.slice c us.length cc) := (HG.out.later (HW.out) hgl).cell 4
  have k5 : X.cell? ⟨g, 5, none⟩ = some (.slice d vs.length cd) := (HG.out.later (HW.out) hgl).cell 5
  have HA0 := hid (alloc_later X (.cells #[.bool n, .slice a xs.length ca, .slice b ys.length cb, .bool m, .slice c us.length cc, .slice d vs.length cd] 28))
  go_wp2_with fail
  generalize X.alloc (.cells #[.bool n, .slice a xs.length ca, .slice b ys.length cb, .bool m, .slice c us.length cc, .slice d vs.length cd] 28) = Y0 at *
  refine Calls.mono (HL.out Y0 0 (bt (HW.out) HA0.out) ((HS.out).later HA0.out (HS.out).lt)) ?_
  rintro e z0 ⟨rfl, hz0, hgz0⟩
  have HZ0 := hid hz0
  have HB0 : Hid (Below w.heap.size w z0) := (bt (HW.out) HA0.out).grown hgz0 (bt (HW.out) HA0.out).size (fun q hq => by have e := Option.some.inj hq; omega)
  clear hz0 hgz0 k0 k1 k2 k3 k4 k5
  go_wp2_with fail
  rw [rounds_succ]
  have k0 : z0.cell? ⟨g, 6, none⟩ = some (.bool n2) := (HG.out.later (HB0.out) hgl).cell 6
  have k1 : z0.cell? ⟨g, 7, none⟩ = some (.slice a2 xs2.length ca2) := (HG.out.later (HB0.out) hgl).cell 7
  have k2 : z0.cell? ⟨g, 8, none⟩ = some (.slice b2' ys2.length cb2) := (HG.out.later (HB0.out) hgl).cell 8
  have k3 : z0.cell? ⟨g, 9, none⟩ = some (.bool m2) := (HG.out.later (HB0.out) hgl).cell 9
  have k4 : z0.cell? ⟨g, 10, none⟩ = some (.slice c2 us2.length cc2) := (HG.out.later (HB0.out) hgl).cell 10
  have k5 : z0.cell? ⟨g, 11, none⟩ = some (.slice d2 vs2.length cd2) := (HG.out.later (HB0.out) hgl).cell 11
  have HA1 := hid (alloc_later z0 (.cells #[.bool n2, .slice a2 xs2.length ca2, .slice b2' ys2.length cb2, .bool m2, .slice c2 us2.length cc2, .slice d2 vs2.length cd2] 28))
  go_wp2_with fail
  generalize z0.alloc (.cells #[.bool n2, .slice a2 xs2.length ca2, .slice b2' ys2.length cb2, .bool m2, .slice c2 us2.length cc2, .slice d2 vs2.length cd2] 28) = Y1 at *
  refine Calls.mono (HL2.out Y1 (fstE 0 E1) (bt (HB0.out) HA1.out) ((HZ0.out).later HA1.out (HZ0.out).lt)) ?_
  rintro e z1 ⟨rfl, hz1, hgz1⟩
  have HZ1 := hid hz1
  have HB1 : Hid (Below w.heap.size w z1) := (bt (HB0.out) HA1.out).grown hgz1 (bt (HB0.out) HA1.out).size (fun q hq => by have e := Option.some.inj hq; omega)
  clear hz1 hgz1 k0 k1 k2 k3 k4 k5
  go_wp2_with fail
  rw [rounds_succ]
  go_wp2_with fail
  go_ret
  refine ⟨_, rfl, Nat.le_refl _, ?_, HB1.out⟩
  have e := HZ1.out
  rw [fstE_zero] at e
  exact e

end Go.Proofs.YtiaebiaeolaocaaGreatDoor

/- Complex fractions, the steps' own: told. -/
namespace Go.Proofs.YtiaebiaeolaocaaGreatDoor
open Go.RowKit
set_option linter.unusedVariables false

theorem box_put6 {U : World} {b t : Nat} {u0 u1 u2 u3 u4 u5 : Value} (h : Box U b t #[u0, u1, u2, u3, u4, u5]) (v0 v1 v2 v3 v4 v5 : Value) : Box ((((((U.setCell ⟨b, 0, none⟩ v0).setCell ⟨b, 1, none⟩ v1).setCell ⟨b, 2, none⟩ v2).setCell ⟨b, 3, none⟩ v3).setCell ⟨b, 4, none⟩ v4).setCell ⟨b, 5, none⟩ v5) b t #[v0, v1, v2, v3, v4, v5] := (((((h.set 0 v0).set 1 v1).set 2 v2).set 3 v3).set 4 v4).set 5 v5
theorem below_put6 {B : Nat} {x U : World} (h : Below B x U) (b : Nat) (hb : B ≤ b) (v0 v1 v2 v3 v4 v5 : Value) : Below B x ((((((U.setCell ⟨b, 0, none⟩ v0).setCell ⟨b, 1, none⟩ v1).setCell ⟨b, 2, none⟩ v2).setCell ⟨b, 3, none⟩ v3).setCell ⟨b, 4, none⟩ v4).setCell ⟨b, 5, none⟩ v5) :=
  (((((h.setCell (p := ⟨b, 0, none⟩) hb _).setCell (p := ⟨b, 1, none⟩) hb _).setCell (p := ⟨b, 2, none⟩) hb _).setCell (p := ⟨b, 3, none⟩) hb _).setCell (p := ⟨b, 4, none⟩) hb _).setCell (p := ⟨b, 5, none⟩) hb _
/-- What told tells is read out of a box and a slot. -/
theorem told_run {W : World} {b : Nat} {cs : Array Value} (hb : Box W b 28 cs) (tmps : Array Value) (h4 : tmps.getD 4 undef = .pointer (some ⟨b, 0, none⟩)) (hi : (Tryz.prog.info? 28).map (·.size) = some cs.size := by kernel_rfl) : (results Tryz.f34 tmps).run Tryz.prog W = .ok (.tuple #[.agg cs, tmps.getD 5 undef]) W := by
  have h := run_loadVar_row (P := Tryz.prog) W b 28 28 cs (0, 0) _ hb Tryz.underlying28 rfl hi
  rw [results_cell_tmp (by rfl), h4]
  simp [asAddr, h]

set_option maxHeartbeats 800000 in
set_option maxRecDepth 100000 in
theorem gtold_any (p : Nat) (E : Int) (n : Bool) (a : Option Addr) (ka ca : Nat) (b : Option Addr) (kb cb : Nat) (m : Bool) (c : Option Addr) (kc cc : Nat) (d : Option Addr) (kd cd : Nat) (w : World) (hp : Box w p 91 #[.int .i64 E]) :
    Calls Tryz.prog 34 #[.pointer (some ⟨p, 0, none⟩), .agg #[.bool n, .slice a ka ca, .slice b kb cb, .bool m, .slice c kc cc, .slice d kd cd]] w fun e w' => e = .returned (.tuple #[.agg (if E = 0 then #[.bool n, .slice a ka ca, .slice b kb cb, .bool m, .slice c kc cc, .slice d kd cd] else #[.bool false, .slice none 0 0, .slice none 0 0, .bool false, .slice none 0 0, .slice none 0 0]), .int .i64 E]) ∧ Below w.heap.size w w' := by
  have HX := hid (boxes2r w 28 #[.bool n, .slice a ka ca, .slice b kb cb, .bool m, .slice c kc cc, .slice d kd cd] #[.bool false, .slice none 0 0, .slice none 0 0, .bool false, .slice none 0 0, .slice none 0 0])
  obtain ⟨X, hX⟩ : ∃ X, (w.alloc (.cells #[.bool n, .slice a ka ca, .slice b kb cb, .bool m, .slice c kc cc, .slice d kd cd] 28)).alloc (.cells #[.bool false, .slice none 0 0, .slice none 0 0, .bool false, .slice none 0 0, .slice none 0 0] 28) = X := ⟨_, rfl⟩
  rw [hX] at HX
  have HP := hid (hp.later HX.out.2.2 hp.lt)
  have kp : X.cell? ⟨p, 0, none⟩ = some (.int .i64 E) := HP.out.cell 0
  have m0 : X.cell? ⟨w.heap.size + 1, 0, none⟩ = some (.bool false) := HX.out.2.1.cell 0
  have m1 : X.cell? ⟨w.heap.size + 1, 1, none⟩ = some (.slice none 0 0) := HX.out.2.1.cell 1
  have m2 : X.cell? ⟨w.heap.size + 1, 2, none⟩ = some (.slice none 0 0) := HX.out.2.1.cell 2
  have m3 : X.cell? ⟨w.heap.size + 1, 3, none⟩ = some (.bool false) := HX.out.2.1.cell 3
  have m4 : X.cell? ⟨w.heap.size + 1, 4, none⟩ = some (.slice none 0 0) := HX.out.2.1.cell 4
  have m5 : X.cell? ⟨w.heap.size + 1, 5, none⟩ = some (.slice none 0 0) := HX.out.2.1.cell 5
  have n0 := HX.out.2.1.free 0
  have n1 := HX.out.2.1.free 1
  have n2 := HX.out.2.1.free 2
  have n3 := HX.out.2.1.free 3
  have n4 := HX.out.2.1.free 4
  have n5 := HX.out.2.1.free 5
  have hpw : p < w.heap.size := hp.lt
  clear hp
  by_cases hE : E = 0
  · subst hE
    rw [if_pos rfl]
    have c0 : X.cell? ⟨w.heap.size, 0, none⟩ = some (.bool n) := HX.out.1.cell 0
    have c1 : X.cell? ⟨w.heap.size, 1, none⟩ = some (.slice a ka ca) := HX.out.1.cell 1
    have c2 : X.cell? ⟨w.heap.size, 2, none⟩ = some (.slice b kb cb) := HX.out.1.cell 2
    have c3 : X.cell? ⟨w.heap.size, 3, none⟩ = some (.bool m) := HX.out.1.cell 3
    have c4 : X.cell? ⟨w.heap.size, 4, none⟩ = some (.slice c kc cc) := HX.out.1.cell 4
    have c5 : X.cell? ⟨w.heap.size, 5, none⟩ = some (.slice d kd cd) := HX.out.1.cell 5
    go_enter Tryz.func34, Tryz.ntmps34
    go_wp2_with fail
    have B1 := box_put6 HX.out.2.1 (.bool n) (.slice a ka ca) (.slice b kb cb) (.bool m) (.slice c kc cc) (.slice d kd cd)
    have G1 := below_put6 HX.out.2.2 (w.heap.size + 1) (by omega) (.bool n) (.slice a ka ca) (.slice b kb cb) (.bool m) (.slice c kc cc) (.slice d kd cd)
    clear m0 m1 m2 m3 m4 m5 n0 n1 n2 n3 n4 n5 c0 c1 c2 c3 c4 c5 kp
    generalize (((((X.setCell ⟨w.heap.size + 1, 0, none⟩ (.bool n)).setCell ⟨w.heap.size + 1, 1, none⟩ (.slice a ka ca)).setCell ⟨w.heap.size + 1, 2, none⟩ (.slice b kb cb)).setCell ⟨w.heap.size + 1, 3, none⟩ (.bool m)).setCell ⟨w.heap.size + 1, 4, none⟩ (.slice c kc cc)).setCell ⟨w.heap.size + 1, 5, none⟩ (.slice d kd cd) = W at *
    exact bodyPost_ret (told_run B1 _ rfl) rfl ⟨rfl, G1⟩
  · have hE' : (E == 0) = false := by simp [hE]
    rw [if_neg hE]
    have hne : p ≠ w.heap.size + 1 := by omega
    go_enter Tryz.func34, Tryz.ntmps34
    go_wp2_with fail
    go_region
    all_goals
      go_wp2_with fail
      have B1 := box_put6 HX.out.2.1 (.bool false) (.slice none 0 0) (.slice none 0 0) (.bool false) (.slice none 0 0) (.slice none 0 0)
      have G1 := below_put6 HX.out.2.2 (w.heap.size + 1) (by omega) (.bool false) (.slice none 0 0) (.slice none 0 0) (.bool false) (.slice none 0 0) (.slice none 0 0)
      clear m0 m1 m2 m3 m4 m5 n0 n1 n2 n3 n4 n5 kp
      generalize (((((X.setCell ⟨w.heap.size + 1, 0, none⟩ (.bool false)).setCell ⟨w.heap.size + 1, 1, none⟩ (.slice none 0 0)).setCell ⟨w.heap.size + 1, 2, none⟩ (.slice none 0 0)).setCell ⟨w.heap.size + 1, 3, none⟩ (.bool false)).setCell ⟨w.heap.size + 1, 4, none⟩ (.slice none 0 0)).setCell ⟨w.heap.size + 1, 5, none⟩ (.slice none 0 0) = W at *
      have B2 : Box W.drew (w.heap.size + 1) 28 #[.bool false, .slice none 0 0, .slice none 0 0, .bool false, .slice none 0 0, .slice none 0 0] := B1
      exact bodyPost_ret (told_run B2 _ rfl) rfl ⟨rfl, G1.drew⟩
end Go.Proofs.YtiaebiaeolaocaaGreatDoor

/- Complex fractions: gauss.Add, Sub: of any two, good or refused. -/
namespace Go.Proofs.YtiaebiaeolaocaaGreatDoor
open Go.RowKit
set_option linter.unusedVariables false

/-- What a call tells that tells a complex fraction: E what was refused ahead, L whether something on the way is too long. -/
structure GTells (E : Int) (L : Prop) (q1 q2 : Rat) (n : Bool) (xs ys : List Int) (m : Bool) (us vs : List Int) (code : Int) : Prop where
  wd : Wd xs ∧ Wd ys ∧ Wd us ∧ Wd vs
  bad : E ≠ 0 → (n = false ∧ xs = [] ∧ ys = [] ∧ m = false ∧ us = [] ∧ vs = []) ∧ code = E
  long : E = 0 → L → (n = false ∧ xs = [] ∧ ys = [] ∧ m = false ∧ us = [] ∧ vs = []) ∧ code = 3
  good : E = 0 → ¬ L → code = 0 ∧ (rchk n xs ys = 0 ∧ rq n xs ys = q1) ∧ rchk m us vs = 0 ∧ rq m us vs = q2
def GTold (w : World) (E : Int) (L : Prop) (q1 q2 : Rat) (x : Ending) (w' : World) : Prop :=
  ∃ n a ca xs b cb ys m c cc us d cd vs code, x = .returned (.tuple #[.agg #[.bool n, .slice a (List.length xs) ca, .slice b (List.length ys) cb, .bool m, .slice c (List.length us) cc, .slice d (List.length vs) cd], .int .i64 code]) ∧ (w'.ownsRow w.heap.size 115 1 (.slice a xs.length ca) xs.length (xs.map (Value.int .u32)) ∧ w'.ownsRow w.heap.size 115 1 (.slice b ys.length cb) ys.length (ys.map (Value.int .u32)) ∧ w'.ownsRow w.heap.size 115 1 (.slice c us.length cc) us.length (us.map (Value.int .u32)) ∧ w'.ownsRow w.heap.size 115 1 (.slice d vs.length cd) vs.length (vs.map (Value.int .u32))) ∧ GTells E L q1 q2 n xs ys m us vs code ∧ Below w.heap.size w w'

theorem gchk_ok {n m : Bool} {xs ys us vs : List Int} (h : gchk n xs ys m us vs = 0) : rchk n xs ys = 0 ∧ rchk m us vs = 0 := by
  unfold gchk fstE at h
  by_cases e : rchk n xs ys = 0
  · rw [if_pos e] at h; exact ⟨e, h⟩
  · rw [if_neg e] at h; exact absurd h e
theorem fstE_ok {E e : Int} (h : fstE E e = 0) : E = 0 ∧ e = 0 := by
  unfold fstE at h
  by_cases c : E = 0
  · rw [if_pos c] at h; exact ⟨c, h⟩
  · rw [if_neg c] at h; exact absurd h c

theorem own_put6 {w : World} {base e n : Nat} {v : Value} {xs : List Value} (h : w.ownsRow base e 1 v n xs) (b : Nat) (hb : ∀ g, v.ownBlock = some g → g ≠ b) (u0 u1 u2 u3 u4 u5 : Value) : ((((((w.setCell ⟨b, 0, none⟩ u0).setCell ⟨b, 1, none⟩ u1).setCell ⟨b, 2, none⟩ u2).setCell ⟨b, 3, none⟩ u3).setCell ⟨b, 4, none⟩ u4).setCell ⟨b, 5, none⟩ u5).ownsRow base e 1 v n xs :=
  own_put1 (own_put1 (own_put1 (own_put3' h b hb u0 u1 u2) b hb 3 u3) b hb 4 u4) b hb 5 u5
/-- A complex fraction is read out of a box, its error out of a slot. -/
theorem gres_run {fn : Func} {W : World} {b q u : Nat} {cs : Array Value} (hr : fn.results = #[.cell q 28, .tmp u]) (hb : Box W b 28 cs) (tmps : Array Value) (h4 : tmps.getD q undef = .pointer (some ⟨b, 0, none⟩)) (hi : (Tryz.prog.info? 28).map (·.size) = some cs.size := by kernel_rfl) : (results fn tmps).run Tryz.prog W = .ok (.tuple #[.agg cs, tmps.getD u undef]) W := by
  have h := run_loadVar_row (P := Tryz.prog) W b 28 28 cs (0, 0) _ hb Tryz.underlying28 rfl hi
  rw [results_cell_tmp hr, h4]
  simp [asAddr, h]

/-- Two steps, and what is told of them. -/
theorem gtwo {E e1 e2 : Int} {q1 q2 : Rat} {n m : Bool} {xs ys us vs : List Int} {c1 c2 : Int} (h1 : RTells (fstE E e1) q1 n xs ys c1) (h2 : RTells (fstE c1 e2) q2 m us vs c2) (z1 : E = 0 → e1 = 0) (z2 : E = 0 → e2 = 0) :
    (c2 = 0 → GTells E (rlong q1 ∨ rlong q2) q1 q2 n xs ys m us vs c2) ∧ (c2 ≠ 0 → GTells E (rlong q1 ∨ rlong q2) q1 q2 false [] [] false [] [] c2) := by
  have w4 : Wd [] := Wd.nil
  by_cases hE : E = 0
  · subst hE
    rw [fstE_zero, z1 rfl] at h1
    rw [z2 rfl] at h2
    by_cases l1 : rlong q1
    · obtain ⟨_, _, _, hc⟩ := h1.long rfl l1
      subst hc
      rw [fstE_err 0 (by decide)] at h2
      obtain ⟨_, _, _, hc2⟩ := h2.bad (by decide)
      subst hc2
      exact ⟨fun h => absurd h (by decide), fun _ => ⟨⟨w4, w4, w4, w4⟩, fun h => absurd rfl h, fun _ _ => ⟨⟨rfl, rfl, rfl, rfl, rfl, rfl⟩, rfl⟩, fun _ h => absurd (.inl l1) h⟩⟩
    · obtain ⟨hc, hk1, hv1⟩ := h1.good rfl l1
      subst hc
      rw [fstE_zero] at h2
      by_cases l2 : rlong q2
      · obtain ⟨_, _, _, hc2⟩ := h2.long rfl l2
        subst hc2
        exact ⟨fun h => absurd h (by decide), fun _ => ⟨⟨w4, w4, w4, w4⟩, fun h => absurd rfl h, fun _ _ => ⟨⟨rfl, rfl, rfl, rfl, rfl, rfl⟩, rfl⟩, fun _ h => absurd (.inr l2) h⟩⟩
      · obtain ⟨hc2, hk2, hv2⟩ := h2.good rfl l2
        subst hc2
        exact ⟨fun _ => ⟨⟨h1.wx, h1.wy, h2.wx, h2.wy⟩, fun h => absurd rfl h, fun _ h => absurd h (by rintro (h | h); exact l1 h; exact l2 h), fun _ _ => ⟨rfl, ⟨hk1, hv1⟩, hk2, hv2⟩⟩, fun h => absurd rfl h⟩
  · rw [fstE_err _ hE] at h1
    obtain ⟨_, _, _, hc⟩ := h1.bad hE
    subst hc
    rw [fstE_err _ hE] at h2
    obtain ⟨_, _, _, hc2⟩ := h2.bad hE
    subst hc2
    exact ⟨fun h => absurd h hE, fun _ => ⟨⟨w4, w4, w4, w4⟩, fun _ => ⟨⟨rfl, rfl, rfl, rfl, rfl, rfl⟩, rfl⟩, fun h => absurd h hE, fun h => absurd h hE⟩⟩
theorem rboth0 {n m : Bool} {xs ys us vs : List Int} (h : rchk n xs ys = 0) (g : rchk m us vs = 0) : rboth n xs ys m us vs = 0 := rboth_good h g

end Go.Proofs.YtiaebiaeolaocaaGreatDoor

/- Complex fractions: what stands while steps are made one behind the other (for square, times). -/
namespace Go.Proofs.YtiaebiaeolaocaaGreatDoor
open Go.RowKit
set_option linter.unusedVariables false

/-- What stands while steps are made: their error, the boxes of the call. -/
structure GInv (w : World) (p : Nat) (E : Int) (l : List (Nat × Nat × Array Value)) (V : World) : Prop where
  err : Box V p 91 #[.int .i64 E]
  grown : w.grownBy V (some p)
  box : ∀ x ∈ l, Box V x.1 x.2.1 x.2.2 ∧ x.1 ≠ p
theorem GInv.drew {w V : World} {p : Nat} {E : Int} {l : List (Nat × Nat × Array Value)} (h : GInv w p E l V) : GInv w p E l V.drew := ⟨h.err, ⟨h.grown.os, h.grown.tape, h.grown.output, h.grown.size, h.grown.block⟩, h.box⟩
theorem GInv.step {w V V' : World} {p : Nat} {E code : Int} {l : List (Nat × Nat × Array Value)} (h : GInv w p E l V) (hp : Box V' p 91 #[.int .i64 code]) (hg : V.grownBy V' (some p)) : GInv w p code l V' :=
  ⟨hp, grow_trans h.grown hg, fun x hx => ⟨(h.box x hx).1.kept' hg (fun e => (h.box x hx).2 (Option.some.inj e)), (h.box x hx).2⟩⟩
theorem GInv.alloc {w V : World} {p : Nat} {E : Int} {l : List (Nat × Nat × Array Value)} (h : GInv w p E l V) (ob : Obj) : GInv w p E l (V.alloc ob) :=
  ⟨h.err.later (alloc_later V ob) h.err.lt, grow_trans h.grown (World.grownBy_alloc V ob (some p)), fun x hx => ⟨(h.box x hx).1.later (alloc_later V ob) (h.box x hx).1.lt, (h.box x hx).2⟩⟩
/-- A fraction that a step told, still there. -/
structure GRow (V : World) (base : Nat) (n : Bool) (v : Value) (xs : List Int) (u : Value) (ys : List Int) : Prop where
  ov : V.ownsRow base 115 1 v xs.length (xs.map (Value.int .u32))
  ou : V.ownsRow base 115 1 u ys.length (ys.map (Value.int .u32))
theorem GRow.step {V V' : World} {base p : Nat} {n : Bool} {v u : Value} {xs ys : List Int} (h : GRow V base n v xs u ys) (hp : p < base) (hg : V.grownBy V' (some p)) : GRow V' base n v xs u ys := by
  have hk : ∀ (x : Value), (∀ g, x.ownBlock = some g → base ≤ g) → x.ownBlock = none ∨ x.ownBlock ≠ some p := fun x h1 => by
    cases e : x.ownBlock with
    | none => exact .inl rfl
    | some g => right; intro h; have e2 := Option.some.inj h; have := h1 g e; omega
  exact ⟨World.ownsRow.kept h.ov hg (hk _ (fun g hg => (h.ov.lt g hg).1)), World.ownsRow.kept h.ou hg (hk _ (fun g hg => (h.ou.lt g hg).1))⟩
theorem GRow.sl {V : World} {base : Nat} {n : Bool} {v u : Value} {xs ys : List Int} (h : GRow V base n v xs u ys) (wx : Wd xs) (wy : Wd ys) : Sl V v xs ∧ Sl V u ys := ⟨Sl.own h.ov wx, Sl.own h.ou wy⟩
theorem Sl.kept {V V' : World} {v : Value} {xs : List Int} {p : Nat} (h : Sl V v xs) (hg : V.grownBy V' (some p)) (hne : ∀ a k c, v = .slice (some a) k c → a.block ≠ p) : Sl V' v xs := by
  obtain ⟨a, cap, hv, h1, h2, h3, h4, h5, h6⟩ := h
  refine ⟨a, cap, hv, h1, h2, ?_, h4, h5, h6⟩
  rcases h3 with h3 | ⟨b, off, ha, hb, hc⟩
  · exact .inl h3
  · have hbp : b ≠ p := by subst ha; exact hne _ _ _ hv
    have hs := hg.size
    exact .inr ⟨b, off, ha, by omega, fun j hj => hg.cell (a := ⟨b, off + j, none⟩) (hc j hj) (fun e => hbp (Option.some.inj e))⟩
end Go.Proofs.YtiaebiaeolaocaaGreatDoor

/- Complex fractions, the steps' own: square: of any complex fraction that was looked at. -/
namespace Go.Proofs.YtiaebiaeolaocaaGreatDoor
open Go.RowKit
set_option linter.unusedVariables false

theorem cells6 {W : World} {b t : Nat} {u0 u1 u2 u3 u4 u5 : Value} (h : Box W b t #[u0, u1, u2, u3, u4, u5]) : W.cell? ⟨b, 0, none⟩ = some u0 ∧ W.cell? ⟨b, 1, none⟩ = some u1 ∧ W.cell? ⟨b, 2, none⟩ = some u2 ∧ W.cell? ⟨b, 3, none⟩ = some u3 ∧ W.cell? ⟨b, 4, none⟩ = some u4 ∧ W.cell? ⟨b, 5, none⟩ = some u5 :=
  ⟨h.cell 0, h.cell 1, h.cell 2, h.cell 3, h.cell 4, h.cell 5⟩

end Go.Proofs.YtiaebiaeolaocaaGreatDoor

/- Fractions: ratio.Make, ratio.Small. -/
namespace Go.Proofs.YtiaebiaeolaocaaGreatDoor
open Go.RowKit
set_option linter.unusedVariables false

set_option maxHeartbeats 3200000 in
set_option maxRecDepth 100000 in
theorem rmake_e1 (n : Bool) (a : Option Addr) (ca : Nat) (xs : List Int) (m : Bool) (b : Option Addr) (cb : Nat) (ys : List Int) (w : World) (h : Sl w (.slice a xs.length ca) xs) (g : Sl w (.slice b ys.length cb) ys) (lx : xs.length ≤ 281474976710656) (ly : ys.length ≤ 281474976710656) (hx : wchk n xs ≠ 0) (q : Rat) :
    Calls Tryz.prog 38 #[.agg #[.bool n, .slice a xs.length ca], .agg #[.bool m, .slice b ys.length cb]] w (RToldA w (wchk n xs) q) := by
  have HB : Hid (Below w.heap.size w (((w.alloc (.cells #[.bool n, .slice a xs.length ca] 76)).alloc (.cells #[.bool m, .slice b ys.length cb] 76)).alloc (.cells #[.bool false, .slice none 0 0, .slice none 0 0] 26))) := bt (bt (alloc_later _ _) (alloc_later _ _)) (alloc_later _ _)
  have HZ : Hid (Box (((w.alloc (.cells #[.bool n, .slice a xs.length ca] 76)).alloc (.cells #[.bool m, .slice b ys.length cb] 76)).alloc (.cells #[.bool false, .slice none 0 0, .slice none 0 0] 26)) (w.heap.size + 1 + 1) 26 #[.bool false, .slice none 0 0, .slice none 0 0]) := by
    have e := Box.made ((w.alloc (.cells #[.bool n, .slice a xs.length ca] 76)).alloc (.cells #[.bool m, .slice b ys.length cb] 76)) 26 #[.bool false, .slice none 0 0, .slice none 0 0]
    simp at e
    exact e
  have HN : Hid (Box (((w.alloc (.cells #[.bool n, .slice a xs.length ca] 76)).alloc (.cells #[.bool m, .slice b ys.length cb] 76)).alloc (.cells #[.bool false, .slice none 0 0, .slice none 0 0] 26)) w.heap.size 76 #[.bool n, .slice a xs.length ca]) := Box.later (Box.later (Box.made w _ _) (alloc_later _ _) (by simp)) (alloc_later _ _) (by simp; omega)
  have HM : Hid (Box (((w.alloc (.cells #[.bool n, .slice a xs.length ca] 76)).alloc (.cells #[.bool m, .slice b ys.length cb] 76)).alloc (.cells #[.bool false, .slice none 0 0, .slice none 0 0] 26)) (w.heap.size + 1) 76 #[.bool m, .slice b ys.length cb]) := by
    have e := Box.later (Box.made (w.alloc (.cells #[.bool n, .slice a xs.length ca] 76)) 76 #[.bool m, .slice b ys.length cb]) (alloc_later ((w.alloc (.cells #[.bool n, .slice a xs.length ca] 76)).alloc (.cells #[.bool m, .slice b ys.length cb] 76)) (.cells #[.bool false, .slice none 0 0, .slice none 0 0] 26)) (by simp)
    simp at e
    exact e
  have HS := hid (And.intro (h.later HB.out) (g.later HB.out))
  have HXS : Hid (w.heap.size + 1 + 1 < (((w.alloc (.cells #[.bool n, .slice a xs.length ca] 76)).alloc (.cells #[.bool m, .slice b ys.length cb] 76)).alloc (.cells #[.bool false, .slice none 0 0, .slice none 0 0] 26)).heap.size) := HZ.out.lt
  have HC1 := hid (wcheck_any n _ xs _ HS.out.1 lx)
  obtain ⟨e1, he1⟩ : ∃ e1, wchk n xs = e1 := ⟨_, rfl⟩
  rw [he1] at HC1 hx ⊢
  have hx' : (e1 == 0) = false := beq_eq_false_iff_ne.2 hx
  have HE := hid hx
  clear he1 hx
  clear h g
  go_enter Tryz.func38, Tryz.ntmps38
  go_wp2_with fail
  refine Calls.mono HC1.out ?_
  generalize (((w.alloc (.cells #[.bool n, .slice a xs.length ca] 76)).alloc (.cells #[.bool m, .slice b ys.length cb] 76)).alloc (.cells #[.bool false, .slice none 0 0, .slice none 0 0] 26)) = X at *
  rintro e w1 ⟨rfl, hb1⟩
  have HB1 := hid hb1
  clear hb1 HC1
  obtain ⟨y0, y1, y2, f0, f1, f2⟩ := res_box3 HZ.out HB1.out
  have HBN := hid (below_put3 (bt HB.out HB1.out) (w.heap.size + 1 + 1) (by omega) (.bool false) (.slice none 0 0) (.slice none 0 0))
  clear HN HM HZ HS
  go_wp2_with fail
  refine bodyPost_ret (v := .tuple #[.agg #[.bool false, .slice none 0 0, .slice none 0 0], .int .i64 e1]) (by simp [results, Tryz.results38, go_sem, y0, y1, y2]) rfl ?_
  exact ⟨false, _, [], _, [], _, rfl, World.ownsRow_nil _ _ _ _, World.ownsRow_nil _ _ _ _, RTells.err HE.out, HBN.out, ⟨w.heap.size, Nat.le_refl _, HBN.out.size, fun g hg => by simp [Value.ownBlock] at hg, fun g hg => by simp [Value.ownBlock] at hg⟩⟩

set_option maxHeartbeats 3200000 in
set_option maxRecDepth 100000 in
theorem rmake_e2 (n : Bool) (a : Option Addr) (ca : Nat) (xs : List Int) (m : Bool) (b : Option Addr) (cb : Nat) (ys : List Int) (w : World) (h : Sl w (.slice a xs.length ca) xs) (g : Sl w (.slice b ys.length cb) ys) (lx : xs.length ≤ 281474976710656) (ly : ys.length ≤ 281474976710656) (hx : wchk n xs = 0) (hy : wchk m ys ≠ 0) (q : Rat) :
    Calls Tryz.prog 38 #[.agg #[.bool n, .slice a xs.length ca], .agg #[.bool m, .slice b ys.length cb]] w (RToldA w (wchk m ys) q) := by
  have HB : Hid (Below w.heap.size w (((w.alloc (.cells #[.bool n, .slice a xs.length ca] 76)).alloc (.cells #[.bool m, .slice b ys.length cb] 76)).alloc (.cells #[.bool false, .slice none 0 0, .slice none 0 0] 26))) := bt (bt (alloc_later _ _) (alloc_later _ _)) (alloc_later _ _)
  have HZ : Hid (Box (((w.alloc (.cells #[.bool n, .slice a xs.length ca] 76)).alloc (.cells #[.bool m, .slice b ys.length cb] 76)).alloc (.cells #[.bool false, .slice none 0 0, .slice none 0 0] 26)) (w.heap.size + 1 + 1) 26 #[.bool false, .slice none 0 0, .slice none 0 0]) := by
    have e := Box.made ((w.alloc (.cells #[.bool n, .slice a xs.length ca] 76)).alloc (.cells #[.bool m, .slice b ys.length cb] 76)) 26 #[.bool false, .slice none 0 0, .slice none 0 0]
    simp at e
    exact e
  have HN : Hid (Box (((w.alloc (.cells #[.bool n, .slice a xs.length ca] 76)).alloc (.cells #[.bool m, .slice b ys.length cb] 76)).alloc (.cells #[.bool false, .slice none 0 0, .slice none 0 0] 26)) w.heap.size 76 #[.bool n, .slice a xs.length ca]) := Box.later (Box.later (Box.made w _ _) (alloc_later _ _) (by simp)) (alloc_later _ _) (by simp; omega)
  have HM : Hid (Box (((w.alloc (.cells #[.bool n, .slice a xs.length ca] 76)).alloc (.cells #[.bool m, .slice b ys.length cb] 76)).alloc (.cells #[.bool false, .slice none 0 0, .slice none 0 0] 26)) (w.heap.size + 1) 76 #[.bool m, .slice b ys.length cb]) := by
    have e := Box.later (Box.made (w.alloc (.cells #[.bool n, .slice a xs.length ca] 76)) 76 #[.bool m, .slice b ys.length cb]) (alloc_later ((w.alloc (.cells #[.bool n, .slice a xs.length ca] 76)).alloc (.cells #[.bool m, .slice b ys.length cb] 76)) (.cells #[.bool false, .slice none 0 0, .slice none 0 0] 26)) (by simp)
    simp at e
    exact e
  have HS := hid (And.intro (h.later HB.out) (g.later HB.out))
  have HXS : Hid (w.heap.size + 1 + 1 < (((w.alloc (.cells #[.bool n, .slice a xs.length ca] 76)).alloc (.cells #[.bool m, .slice b ys.length cb] 76)).alloc (.cells #[.bool false, .slice none 0 0, .slice none 0 0] 26)).heap.size) := HZ.out.lt
  have HC1 := hid (wcheck_any n _ xs _ HS.out.1 lx)
  rw [hx] at HC1
  obtain ⟨e1, he1⟩ : ∃ e1, wchk m ys = e1 := ⟨_, rfl⟩
  have HC2 := hid (fun ww (hb : Below _ (((w.alloc (.cells #[.bool n, .slice a xs.length ca] 76)).alloc (.cells #[.bool m, .slice b ys.length cb] 76)).alloc (.cells #[.bool false, .slice none 0 0, .slice none 0 0] 26)) ww) => wcheck_any m _ ys ww (HS.out.2.later hb) ly)
  rw [he1] at HC2 hy ⊢
  have hy' : (e1 == 0) = false := beq_eq_false_iff_ne.2 hy
  have HE := hid hy
  clear he1 hy hx
  clear h g
  go_enter Tryz.func38, Tryz.ntmps38
  go_wp2_with fail
  refine Calls.mono HC1.out ?_
  generalize (((w.alloc (.cells #[.bool n, .slice a xs.length ca] 76)).alloc (.cells #[.bool m, .slice b ys.length cb] 76)).alloc (.cells #[.bool false, .slice none 0 0, .slice none 0 0] 26)) = X at *
  rintro e w1 ⟨rfl, hb1⟩
  have HB1 := hid hb1
  clear hb1 HC1
  have HC := hid (HC2.out w1 HB1.out)
  obtain ⟨q0, q1, _, _⟩ := (HM.out.later HB1.out HM.out.lt).c2
  clear HC2
  go_wp2_with fail
  refine Calls.mono HC.out ?_
  rintro e w2 ⟨rfl, hb2⟩
  have HB2 := hid (bt HB1.out hb2)
  clear hb2 HC q0 q1
  obtain ⟨y0, y1, y2, f0, f1, f2⟩ := res_box3 HZ.out HB2.out
  have HBN := hid (below_put3 (bt HB.out HB2.out) (w.heap.size + 1 + 1) (by omega) (.bool false) (.slice none 0 0) (.slice none 0 0))
  clear HN HM HZ HS
  go_wp2_with fail
  refine bodyPost_ret (v := .tuple #[.agg #[.bool false, .slice none 0 0, .slice none 0 0], .int .i64 e1]) (by simp [results, Tryz.results38, go_sem, y0, y1, y2]) rfl ?_
  exact ⟨false, _, [], _, [], _, rfl, World.ownsRow_nil _ _ _ _, World.ownsRow_nil _ _ _ _, RTells.err HE.out, HBN.out, ⟨w.heap.size, Nat.le_refl _, HBN.out.size, fun g hg => by simp [Value.ownBlock] at hg, fun g hg => by simp [Value.ownBlock] at hg⟩⟩

set_option maxHeartbeats 3200000 in
set_option maxRecDepth 100000 in
theorem rmake_z (n : Bool) (a : Option Addr) (ca : Nat) (xs : List Int) (m : Bool) (b : Option Addr) (cb : Nat) (ys : List Int) (w : World) (h : Sl w (.slice a xs.length ca) xs) (g : Sl w (.slice b ys.length cb) ys) (lx : xs.length ≤ 281474976710656) (ly : ys.length ≤ 281474976710656) (hx : wchk n xs = 0) (hy : wchk m ys = 0) (h0 : ys.length = 0) (q : Rat) :
    Calls Tryz.prog 38 #[.agg #[.bool n, .slice a xs.length ca], .agg #[.bool m, .slice b ys.length cb]] w (RToldA w 7 q) := by
  have HB : Hid (Below w.heap.size w (((w.alloc (.cells #[.bool n, .slice a xs.length ca] 76)).alloc (.cells #[.bool m, .slice b ys.length cb] 76)).alloc (.cells #[.bool false, .slice none 0 0, .slice none 0 0] 26))) := bt (bt (alloc_later _ _) (alloc_later _ _)) (alloc_later _ _)
  have HZ : Hid (Box (((w.alloc (.cells #[.bool n, .slice a xs.length ca] 76)).alloc (.cells #[.bool m, .slice b ys.length cb] 76)).alloc (.cells #[.bool false, .slice none 0 0, .slice none 0 0] 26)) (w.heap.size + 1 + 1) 26 #[.bool false, .slice none 0 0, .slice none 0 0]) := by
    have e := Box.made ((w.alloc (.cells #[.bool n, .slice a xs.length ca] 76)).alloc (.cells #[.bool m, .slice b ys.length cb] 76)) 26 #[.bool false, .slice none 0 0, .slice none 0 0]
    simp at e
    exact e
  have HN : Hid (Box (((w.alloc (.cells #[.bool n, .slice a xs.length ca] 76)).alloc (.cells #[.bool m, .slice b ys.length cb] 76)).alloc (.cells #[.bool false, .slice none 0 0, .slice none 0 0] 26)) w.heap.size 76 #[.bool n, .slice a xs.length ca]) := Box.later (Box.later (Box.made w _ _) (alloc_later _ _) (by simp)) (alloc_later _ _) (by simp; omega)
  have HM : Hid (Box (((w.alloc (.cells #[.bool n, .slice a xs.length ca] 76)).alloc (.cells #[.bool m, .slice b ys.length cb] 76)).alloc (.cells #[.bool false, .slice none 0 0, .slice none 0 0] 26)) (w.heap.size + 1) 76 #[.bool m, .slice b ys.length cb]) := by
    have e := Box.later (Box.made (w.alloc (.cells #[.bool n, .slice a xs.length ca] 76)) 76 #[.bool m, .slice b ys.length cb]) (alloc_later ((w.alloc (.cells #[.bool n, .slice a xs.length ca] 76)).alloc (.cells #[.bool m, .slice b ys.length cb] 76)) (.cells #[.bool false, .slice none 0 0, .slice none 0 0] 26)) (by simp)
    simp at e
    exact e
  have HS := hid (And.intro (h.later HB.out) (g.later HB.out))
  have HXS : Hid (w.heap.size + 1 + 1 < (((w.alloc (.cells #[.bool n, .slice a xs.length ca] 76)).alloc (.cells #[.bool m, .slice b ys.length cb] 76)).alloc (.cells #[.bool false, .slice none 0 0, .slice none 0 0] 26)).heap.size) := HZ.out.lt
  have HC1 := hid (wcheck_any n _ xs _ HS.out.1 lx)
  rw [hx] at HC1
  have HC2 := hid (fun ww (hb : Below _ (((w.alloc (.cells #[.bool n, .slice a xs.length ca] 76)).alloc (.cells #[.bool m, .slice b ys.length cb] 76)).alloc (.cells #[.bool false, .slice none 0 0, .slice none 0 0] 26)) ww) => wcheck_any m _ ys ww (HS.out.2.later hb) ly)
  rw [hy] at HC2
  have h0' : ((ys.length : Int) == 0) = true := by rw [h0]; rfl
  have HE : Hid ((7 : Int) ≠ 0) := by show _ ≠ _; omega
  clear hx hy h0
  clear h g
  go_enter Tryz.func38, Tryz.ntmps38
  go_wp2_with fail
  refine Calls.mono HC1.out ?_
  generalize (((w.alloc (.cells #[.bool n, .slice a xs.length ca] 76)).alloc (.cells #[.bool m, .slice b ys.length cb] 76)).alloc (.cells #[.bool false, .slice none 0 0, .slice none 0 0] 26)) = X at *
  rintro e w1 ⟨rfl, hb1⟩
  have HB1 := hid hb1
  clear hb1 HC1
  have HC := hid (HC2.out w1 HB1.out)
  obtain ⟨q0, q1, _, _⟩ := (HM.out.later HB1.out HM.out.lt).c2
  clear HC2
  go_wp2_with fail
  refine Calls.mono HC.out ?_
  rintro e w2 ⟨rfl, hb2⟩
  have HB2 := hid (bt HB1.out hb2)
  clear hb2 HC q0 q1
  obtain ⟨q0, q1, _, _⟩ := (HM.out.later HB2.out HM.out.lt).c2
  obtain ⟨y0, y1, y2, f0, f1, f2⟩ := res_box3 HZ.out HB2.out
  have HBN := hid (below_put3 (bt HB.out HB2.out) (w.heap.size + 1 + 1) (by omega) (.bool false) (.slice none 0 0) (.slice none 0 0))
  clear HN HM HZ HS
  go_wp2_with fail
  refine bodyPost_ret (v := .tuple #[.agg #[.bool false, .slice none 0 0, .slice none 0 0], .int .i64 7]) (by simp [results, Tryz.results38, go_sem, y0, y1, y2]) rfl ?_
  exact ⟨false, _, [], _, [], _, rfl, World.ownsRow_nil _ _ _ _, World.ownsRow_nil _ _ _ _, RTells.err HE.out, HBN.out, ⟨w.heap.size, Nat.le_refl _, HBN.out.size, fun g hg => by simp [Value.ownBlock] at hg, fun g hg => by simp [Value.ownBlock] at hg⟩⟩

set_option maxHeartbeats 6400000 in
set_option maxRecDepth 100000 in
theorem rmake_ok (n : Bool) (a : Option Addr) (ca : Nat) (xs : List Int) (m : Bool) (b : Option Addr) (cb : Nat) (ys : List Int) (w : World) (h : Sl w (.slice a xs.length ca) xs) (g : Sl w (.slice b ys.length cb) ys) (lx : xs.length ≤ 281474976710656) (ly : ys.length ≤ 281474976710656) (hx : wchk n xs = 0) (hy : wchk m ys = 0) (h0 : 0 < ys.length) :
    Calls Tryz.prog 38 #[.agg #[.bool n, .slice a xs.length ca], .agg #[.bool m, .slice b ys.length cb]] w (RToldA w 0 (Rat.divInt (wval n xs) (wval m ys))) := by
  obtain ⟨kx, tx, _⟩ := wchk_ok hx
  obtain ⟨ky, ty, _⟩ := wchk_ok hy
  have wx := h.wd
  have wy := g.wd
  have HB : Hid (Below w.heap.size w (((w.alloc (.cells #[.bool n, .slice a xs.length ca] 76)).alloc (.cells #[.bool m, .slice b ys.length cb] 76)).alloc (.cells #[.bool false, .slice none 0 0, .slice none 0 0] 26))) := bt (bt (alloc_later _ _) (alloc_later _ _)) (alloc_later _ _)
  have HZ : Hid (Box (((w.alloc (.cells #[.bool n, .slice a xs.length ca] 76)).alloc (.cells #[.bool m, .slice b ys.length cb] 76)).alloc (.cells #[.bool false, .slice none 0 0, .slice none 0 0] 26)) (w.heap.size + 1 + 1) 26 #[.bool false, .slice none 0 0, .slice none 0 0]) := by
    have e := Box.made ((w.alloc (.cells #[.bool n, .slice a xs.length ca] 76)).alloc (.cells #[.bool m, .slice b ys.length cb] 76)) 26 #[.bool false, .slice none 0 0, .slice none 0 0]
    simp at e
    exact e
  have HN : Hid (Box (((w.alloc (.cells #[.bool n, .slice a xs.length ca] 76)).alloc (.cells #[.bool m, .slice b ys.length cb] 76)).alloc (.cells #[.bool false, .slice none 0 0, .slice none 0 0] 26)) w.heap.size 76 #[.bool n, .slice a xs.length ca]) := Box.later (Box.later (Box.made w _ _) (alloc_later _ _) (by simp)) (alloc_later _ _) (by simp; omega)
  have HM : Hid (Box (((w.alloc (.cells #[.bool n, .slice a xs.length ca] 76)).alloc (.cells #[.bool m, .slice b ys.length cb] 76)).alloc (.cells #[.bool false, .slice none 0 0, .slice none 0 0] 26)) (w.heap.size + 1) 76 #[.bool m, .slice b ys.length cb]) := by
    have e := Box.later (Box.made (w.alloc (.cells #[.bool n, .slice a xs.length ca] 76)) 76 #[.bool m, .slice b ys.length cb]) (alloc_later ((w.alloc (.cells #[.bool n, .slice a xs.length ca] 76)).alloc (.cells #[.bool m, .slice b ys.length cb] 76)) (.cells #[.bool false, .slice none 0 0, .slice none 0 0] 26)) (by simp)
    simp at e
    exact e
  have HS := hid (And.intro (h.later HB.out) (g.later HB.out))
  have HXS : Hid (w.heap.size + 1 + 1 < (((w.alloc (.cells #[.bool n, .slice a xs.length ca] 76)).alloc (.cells #[.bool m, .slice b ys.length cb] 76)).alloc (.cells #[.bool false, .slice none 0 0, .slice none 0 0] 26)).heap.size) := HZ.out.lt
  have HC1 := hid (wcheck_any n _ xs _ HS.out.1 lx)
  rw [hx] at HC1
  have HC2 := hid (fun ww (hb : Below _ (((w.alloc (.cells #[.bool n, .slice a xs.length ca] 76)).alloc (.cells #[.bool m, .slice b ys.length cb] 76)).alloc (.cells #[.bool false, .slice none 0 0, .slice none 0 0] 26)) ww) => wcheck_any m _ ys ww (HS.out.2.later hb) ly)
  rw [hy] at HC2
  have h0' : ((ys.length : Int) == 0) = false := beq_eq_false_iff_ne.2 (by omega)
  have HPY : Hid (0 < val ys) := by have := val_pos' wy ty h0; show _ < _; omega
  have HG : Hid (0 < gcdI (val xs) (val ys) ∧ gcdI (val xs) (val ys) ≤ val ys ∧ val ys < 4294967296 ^ 2048) := ⟨gcd_pos_right HPY.out, gcd_le_right HPY.out, below2048 wy ky⟩
  have HMP := hid (make_parts (n := n) (m := m) (val_nonneg wx) HPY.out)
  have HTT := hid (And.intro tx ty)
  obtain ⟨s, hs⟩ : ∃ s, (!(n == m)) = s := ⟨_, rfl⟩
  have HSG := hid (show (n != m) = s from hs)
  clear h g hx hy h0 tx ty
  go_enter Tryz.func38, Tryz.ntmps38
  go_wp2_with fail
  refine Calls.mono HC1.out ?_
  generalize (((w.alloc (.cells #[.bool n, .slice a xs.length ca] 76)).alloc (.cells #[.bool m, .slice b ys.length cb] 76)).alloc (.cells #[.bool false, .slice none 0 0, .slice none 0 0] 26)) = X at *
  rintro e w1 ⟨rfl, hb1⟩
  have HB1 := hid hb1
  clear hb1 HC1
  have HC := hid (HC2.out w1 HB1.out)
  obtain ⟨q0, q1, _, _⟩ := (HM.out.later HB1.out HM.out.lt).c2
  clear HC2
  go_wp2_with fail
  refine Calls.mono HC.out ?_
  rintro e w2 ⟨rfl, hb2⟩
  have HB2 := hid (bt HB1.out hb2)
  clear hb2 HC q0 q1
  have HK : Hid (∀ V, Below X.heap.size X V → V.cell? ⟨w.heap.size, 0, none⟩ = some (.bool n) ∧ V.cell? ⟨w.heap.size, 1, none⟩ = some (.slice a xs.length ca) ∧ V.cell? ⟨w.heap.size + 1, 0, none⟩ = some (.bool m) ∧ V.cell? ⟨w.heap.size + 1, 1, none⟩ = some (.slice b ys.length cb)) := fun V hb => by
    obtain ⟨p0, p1, _, _⟩ := (HN.out.later hb HN.out.lt).c2
    obtain ⟨q0, q1, _, _⟩ := (HM.out.later hb HM.out.lt).c2
    exact ⟨p0, p1, q0, q1⟩
  have HCM := hid (told1_at _ HK.out w2 HB2.out (rcommon_any _ _ xs ys w2 (HS.out.1.later HB2.out) (HS.out.2.later HB2.out) (by omega) (by omega) HTT.out.1 HTT.out.2))
  obtain ⟨p0, p1, q0, q1⟩ := HK.out w2 HB2.out
  go_wp2_with fail
  refine Calls.mono HCM.out ?_
  rintro e w3 ⟨a3, z3, c3, rfl, HE3, _, hb3, HS3⟩
  have hb3d := hb3.drew
  have HO3 := hid (HE3.out.later (Below.drew (Below.refl _ w3)))
  clear HCM HE3 HS3 p0 p1 q0 q1
  have hs0 := HK.out _ hb3d
  have HQX := hid (fun ww (hv' : Below X.heap.size X ww) (h : One X ww (.slice a3 z3.length c3) z3 (gcdI (val xs) (val ys))) => quot_in _ HK.out hv' (HS.out.1.later hv') (by omega) HTT.out.1 h HG.out.1 (by have := HG.out; omega))
  have HQY := hid (fun ww (hv' : Below X.heap.size X ww) (h : One X ww (.slice a3 z3.length c3) z3 (gcdI (val xs) (val ys))) => quot_in _ HK.out hv' (HS.out.2.later hv') (by omega) HTT.out.2 h HG.out.1 (by have := HG.out; omega))
  have HTL := hid (fun (ww : World) (hb : Below X.heap.size X ww) (a4 : Option Addr) (z4 : List Int) (c4 : Nat) (a5 : Option Addr) (z5 : List Int) (c5 : Nat) (g1 : One X ww (.slice a4 z4.length c4) z4 (val xs / gcdI (val xs) (val ys))) (g2 : One X ww (.slice a5 z5.length c5) z5 (val ys / gcdI (val xs) (val ys))) (hc : Cut X (.slice a4 z4.length c4) (.slice a5 z5.length c5) ww) => rtold_cut (n := s) (q := Rat.divInt (wval n xs) (wval m ys)) _ HK.out hb g1 g2 hc HMP.out.1 HMP.out.2.1 (by rw [← HSG.out]; exact HMP.out.2.2))
  have hq0 : w.heap.size + 1 + 1 ≠ w.heap.size := by omega
  have hq1 : w.heap.size + 1 + 1 ≠ w.heap.size + 1 := by omega
  clear HTT HG HPY
  go_wp2_with fail
  go_region_held3 (fun V : World => V.cell? ⟨w.heap.size, 0, none⟩ = some (.bool n) ∧ V.cell? ⟨w.heap.size, 1, none⟩ = some (.slice a xs.length ca) ∧ V.cell? ⟨w.heap.size + 1, 0, none⟩ = some (.bool m) ∧ V.cell? ⟨w.heap.size + 1, 1, none⟩ = some (.slice b ys.length cb)) (first | exact hs9 | exact hs5 | exact hs4 | exact hs0 | (simp [hs9, World.cell?_setCell_far, hq0]))
    (first
      | (go_at_call 62; with_reducible refine Calls.mono (HTL.out _ hb5 _ _ _ _ _ _ (HE4.out.1.later HS5.out) HE5.out.1 (cut_two hb3d.size HS4.out.size HS5.out.size HE4.out.2 HE5.out.2)) ?_; rintro e w9 ⟨k9, a8, z8, c8, a9, z9, c9, code, rfl, HE9, hs9, hb9⟩; obtain ⟨y0, y1, y2, f0, f1, f2⟩ := res_box3 HZ.out hb9)
      | (go_at_call 63; with_reducible refine Calls.mono (HQY.out _ hb4 (HO3.out.later HS4.out)) ?_; rintro e w5 ⟨a5, z5, c5, rfl, HE5, hs5, hb5, HS5⟩)
      | (go_at_call 63; with_reducible refine Calls.mono (HQX.out _ hb3d HO3.out) ?_; rintro e w4 ⟨a4, z4, c4, rfl, HE4, hs4, hb4, HS4⟩))
  all_goals
    have HBW := hid (bt HB.out hb9)
    have HR := hid HE9.out
    clear HK HQX HQY HTL HE4 HE5 HE9 HS4 HS5 HO3 hs0 hs4 hs5 hs9 hb3 hb3d hb4 hb5 hb9 HMP HSG
    go_wp2_with fail
    refine bodyPost_ret (v := .tuple #[.agg #[.bool k9, .slice a8 z8.length c8, .slice a9 z9.length c9], .int .i64 code]) (by simp [results, Tryz.results38, go_sem, y0, y1, y2]) rfl ?_
    exact RToldA.put HR.out (w.heap.size + 1 + 1) HXS.out (by omega) HBW.out _ _ _

theorem rmake_any (n : Bool) (a : Option Addr) (ca : Nat) (xs : List Int) (m : Bool) (b : Option Addr) (cb : Nat) (ys : List Int) (w : World) (h : Sl w (.slice a xs.length ca) xs) (g : Sl w (.slice b ys.length cb) ys) (lx : xs.length ≤ 281474976710656) (ly : ys.length ≤ 281474976710656) :
    Calls Tryz.prog 38 #[.agg #[.bool n, .slice a xs.length ca], .agg #[.bool m, .slice b ys.length cb]] w (RToldA w (mkErr n xs m ys) (Rat.divInt (wval n xs) (wval m ys))) := by
  unfold mkErr
  by_cases hb : wboth n xs m ys = 0
  · obtain ⟨hx, hy⟩ := wboth_ok hb
    rw [if_pos hb]
    by_cases h0 : ys.length = 0
    · rw [if_pos h0]
      exact rmake_z n a ca xs m b cb ys w h g lx ly hx hy h0 _
    · rw [if_neg h0]
      exact rmake_ok n a ca xs m b cb ys w h g lx ly hx hy (by omega)
  · rw [if_neg hb]
    unfold wboth at hb ⊢
    by_cases hx : wchk n xs = 0
    · rw [if_pos hx] at hb ⊢
      exact rmake_e2 n a ca xs m b cb ys w h g lx ly hx hb _
    · rw [if_neg hx]
      exact rmake_e1 n a ca xs m b cb ys w h g lx ly hx _
end Go.Proofs.YtiaebiaeolaocaaGreatDoor

/- Fractions: ratio.Small. -/
namespace Go.Proofs.YtiaebiaeolaocaaGreatDoor
open Go.RowKit
set_option linter.unusedVariables false

theorem small_err {n m : Bool} {zs us : List Int} {y : Int} (l1 : zs.length ≤ 2) (t1 : Trimmed zs) (s1 : n = false ∨ 0 < zs.length) (w2 : Wd us) (l2 : us.length ≤ 2) (t2 : Trimmed us) (s2 : m = false ∨ 0 < us.length) (v2 : wval m us = y) : mkErr n zs m us = if y = 0 then 7 else 0 := by
  unfold mkErr
  rw [wboth_good (wchk_good (by omega) t1 s1) (wchk_good (by omega) t2 s2), if_pos rfl]
  by_cases c : us.length = 0
  · have e0 : val us = 0 := trimmed_zero' c
    have : y = 0 := by rw [← v2]; cases m <;> simp [wval, e0]
    rw [if_pos c, if_pos this]
  · have e0 := val_pos' w2 t2 (by omega)
    have : ¬ y = 0 := by rw [← v2]; cases m <;> simp [wval] <;> omega
    rw [if_neg c, if_neg this]

set_option maxHeartbeats 1600000 in
set_option maxRecDepth 100000 in
theorem rsmall_any (x y : Int) (w : World) (x0 : -9223372036854775808 ≤ x) (x1 : x ≤ 9223372036854775807) (y0 : -9223372036854775808 ≤ y) (y1 : y ≤ 9223372036854775807) :
    Calls Tryz.prog 16 #[.int .i64 x, .int .i64 y] w (RToldA w (if y = 0 then 7 else 0) (Rat.divInt x y)) := by
  have HB : Hid (Below w.heap.size w (w.alloc (.cells #[.bool false, .slice none 0 0, .slice none 0 0] 26))) := alloc_later _ _
  have HZ : Hid (Box (w.alloc (.cells #[.bool false, .slice none 0 0, .slice none 0 0] 26)) w.heap.size 26 #[.bool false, .slice none 0 0, .slice none 0 0]) := Box.made w _ _
  have HO1 := hid (wof_any x (w.alloc (.cells #[.bool false, .slice none 0 0, .slice none 0 0] 26)) x0 x1)
  obtain ⟨E, hE⟩ : ∃ E : Int, (if y = 0 then (7 : Int) else 0) = E := ⟨_, rfl⟩
  rw [hE]
  have HE := hid hE
  clear hE
  go_enter Tryz.func16, Tryz.ntmps16
  go_wp2_with fail
  refine Calls.mono HO1.out ?_
  generalize (w.alloc (.cells #[.bool false, .slice none 0 0, .slice none 0 0] 26)) = X at *
  rintro e w1 ⟨n1, v1, z1, rfl, o1, wd1, t1, l1, s1, hv1, hb1⟩
  obtain ⟨a1, c1, hs1⟩ := own_slice' o1
  subst hs1
  have HO2 := hid (wof_any y w1 y0 y1)
  have HS1 := hid (Sl.own o1 wd1)
  have HV1 := hid (And.intro t1 (And.intro s1 hv1))
  have HB1 := hid hb1
  clear o1 wd1 t1 s1 hv1 hb1 HO1
  go_wp2_with fail
  refine Calls.mono HO2.out ?_
  rintro e w2 ⟨n2, v2, z2, rfl, o2, wd2, t2, l2, s2, hv2, hb2⟩
  obtain ⟨a2, c2, hs2⟩ := own_slice' o2
  subst hs2
  have HM := hid (rmake_any n1 a1 c1 z1 n2 a2 c2 z2 w2 (HS1.out.later hb2) (Sl.own o2 wd2) (by omega) (by omega))
  rw [small_err l1 HV1.out.1 HV1.out.2.1 wd2 l2 t2 s2 hv2, HE.out, HV1.out.2.2, hv2] at HM
  have HB2 := hid (bt HB1.out hb2)
  clear o2 wd2 t2 s2 hv2 hb2 HO2 HS1 HV1
  go_wp2_with fail
  refine Calls.mono HM.out ?_
  rintro e w3 ⟨k3, v3, z3, u3, r3, code, rfl, o3, o4, t3, hb3, hc3⟩
  obtain ⟨a3, c3, hs3⟩ := own_slice' o3
  subst hs3
  obtain ⟨a4, c4, hs4⟩ := own_slice' o4
  subst hs4
  have HR := hid (And.intro o3 (And.intro o4 (And.intro t3 hc3)))
  obtain ⟨y0', y1', y2', f0, f1, f2⟩ := res_box3 HZ.out (bt HB2.out hb3)
  have HBW := hid (bt HB.out (bt HB2.out hb3))
  have HLT : Hid (w.heap.size < w2.heap.size) := Nat.lt_of_lt_of_le HZ.out.lt HB2.out.size
  clear o3 o4 t3 hb3 hc3 HM
  go_wp2_with fail
  refine bodyPost_ret (v := .tuple #[.agg #[.bool k3, .slice a3 z3.length c3, .slice a4 r3.length c4], .int .i64 code]) (by simp [results, Tryz.results16, go_sem, y0', y1', y2']) rfl ?_
  exact RToldA.put HR.out w.heap.size HLT.out (Nat.le_refl _) HBW.out _ _ _
end Go.Proofs.YtiaebiaeolaocaaGreatDoor

/- A box of six cells that is stored into whole. -/
namespace Go.Proofs.YtiaebiaeolaocaaGreatDoor
open Go.RowKit
set_option linter.unusedVariables false

theorem setRow_box {W : World} {b t : Nat} {old cs : Array Value} (h : Box W b t old) : Box (W.setRow b cs) b t cs := by
  unfold Box at *
  simp only [World.setRow, Array.getElem?_modify, if_pos, h, Option.map_some]
theorem setRow_far (W : World) (b : Nat) (cs : Array Value) {i : Nat} (hne : i ≠ b) : (W.setRow b cs).heap[i]? = W.heap[i]? := by
  simp only [World.setRow, Array.getElem?_modify, if_neg (Ne.symm hne)]
theorem put6_far (W : World) (b : Nat) (v0 v1 v2 v3 v4 v5 : Value) {i : Nat} (hne : i ≠ b) : ((((((W.setCell ⟨b, 0, none⟩ v0).setCell ⟨b, 1, none⟩ v1).setCell ⟨b, 2, none⟩ v2).setCell ⟨b, 3, none⟩ v3).setCell ⟨b, 4, none⟩ v4).setCell ⟨b, 5, none⟩ v5).heap[i]? = W.heap[i]? := by
  rw [Below.heap_setCell _ _ _ _ hne, Below.heap_setCell _ _ _ _ hne, Below.heap_setCell _ _ _ _ hne, Below.heap_setCell _ _ _ _ hne, Below.heap_setCell _ _ _ _ hne, Below.heap_setCell _ _ _ _ hne]
theorem world_eq {A B : World} (h : A.heap = B.heap) (s : ∀ H, ({ A with heap := H } : World) = { B with heap := H }) : A = B := by
  have e := s A.heap
  have e2 : ({ B with heap := A.heap } : World) = B := by rw [h]
  exact e.trans e2
theorem same_cell {A B : World} (s : ∀ H, ({ A with heap := H } : World) = { B with heap := H }) (p : Addr) (v : Value) : ∀ H, ({ A with heap := H } : World) = { B.setCell p v with heap := H } := fun H => (s H).trans rfl
theorem same_row (W : World) (b : Nat) (cs : Array Value) : ∀ H, ({ W.setRow b cs with heap := H } : World) = { W with heap := H } := fun H => rfl
theorem gput6_eq {W : World} {b t : Nat} {u0 u1 u2 u3 u4 u5 : Value} (h : Box W b t #[u0, u1, u2, u3, u4, u5]) (v0 v1 v2 v3 v4 v5 : Value) : W.setRow b #[v0, v1, v2, v3, v4, v5] = (((((W.setCell ⟨b, 0, none⟩ v0).setCell ⟨b, 1, none⟩ v1).setCell ⟨b, 2, none⟩ v2).setCell ⟨b, 3, none⟩ v3).setCell ⟨b, 4, none⟩ v4).setCell ⟨b, 5, none⟩ v5 := by
  refine world_eq ?_ (same_cell (same_cell (same_cell (same_cell (same_cell (same_cell (same_row W b _) _ _) _ _) _ _) _ _) _ _) _ _)
  apply Array.ext_getElem?
  intro i
  by_cases hi : i = b
  · subst hi
    have e1 := setRow_box (cs := #[v0, v1, v2, v3, v4, v5]) h
    have e2 := box_put6 h v0 v1 v2 v3 v4 v5
    exact Eq.trans e1 e2.symm
  · rw [setRow_far W b _ hi, put6_far W b _ _ _ _ _ _ hi]
theorem gstore6 {W : World} {b : Nat} {u0 u1 u2 u3 u4 u5 : Value} (h : Box W b 28 #[u0, u1, u2, u3, u4, u5]) (n : Bool) (a : Option Addr) (ka ca : Nat) (b' : Option Addr) (kb cb : Nat) (m : Bool) (c : Option Addr) (kc cc : Nat) (d : Option Addr) (kd cd : Nat) : (storeVar 28 ⟨b, 0, none⟩ (.agg #[.bool n, .slice a ka ca, .slice b' kb cb, .bool m, .slice c kc cc, .slice d kd cd])).run Tryz.prog W = .ok () ((((((W.setCell ⟨b, 0, none⟩ (.bool n)).setCell ⟨b, 1, none⟩ (.slice a ka ca)).setCell ⟨b, 2, none⟩ (.slice b' kb cb)).setCell ⟨b, 3, none⟩ (.bool m)).setCell ⟨b, 4, none⟩ (.slice c kc cc)).setCell ⟨b, 5, none⟩ (.slice d kd cd)) := by
  rw [← gput6_eq h]
  exact run_storeVar_row W b 28 28 _ _ h (by kernel_rfl) rfl (by simp [Value.oneCell'])
/-- A store of six cells, cell by cell, each world by its name. -/
theorem gchain6 {W : World} {b t : Nat} {u0 u1 u2 u3 u4 u5 : Value} (h : Box W b t #[u0, u1, u2, u3, u4, u5]) (v0 v1 v2 v3 v4 v5 : Value) : ∃ A0 A1 A2 A3 A4 A5, W.setCell ⟨b, 0, none⟩ v0 = A0 ∧ A0.setCell ⟨b, 1, none⟩ v1 = A1 ∧ A1.setCell ⟨b, 2, none⟩ v2 = A2 ∧ A2.setCell ⟨b, 3, none⟩ v3 = A3 ∧ A3.setCell ⟨b, 4, none⟩ v4 = A4 ∧ A4.setCell ⟨b, 5, none⟩ v5 = A5 ∧ (W.cell? ⟨b, 0, none⟩ = some u0 ∧ A0.cell? ⟨b, 1, none⟩ = some u1 ∧ A1.cell? ⟨b, 2, none⟩ = some u2 ∧ A2.cell? ⟨b, 3, none⟩ = some u3 ∧ A3.cell? ⟨b, 4, none⟩ = some u4 ∧ A4.cell? ⟨b, 5, none⟩ = some u5) ∧ (W.frozen? ⟨b, 0, none⟩ = false ∧ A0.frozen? ⟨b, 1, none⟩ = false ∧ A1.frozen? ⟨b, 2, none⟩ = false ∧ A2.frozen? ⟨b, 3, none⟩ = false ∧ A3.frozen? ⟨b, 4, none⟩ = false ∧ A4.frozen? ⟨b, 5, none⟩ = false) := by
  have h0 : Box _ b t #[v0, u1, u2, u3, u4, u5] := h.set 0 v0
  have h1 : Box _ b t #[v0, v1, u2, u3, u4, u5] := h0.set 1 v1
  have h2 : Box _ b t #[v0, v1, v2, u3, u4, u5] := h1.set 2 v2
  have h3 : Box _ b t #[v0, v1, v2, v3, u4, u5] := h2.set 3 v3
  have h4 : Box _ b t #[v0, v1, v2, v3, v4, u5] := h3.set 4 v4
  exact ⟨_, _, _, _, _, _, rfl, rfl, rfl, rfl, rfl, rfl, ⟨h.cell 0, h0.cell 1, h1.cell 2, h2.cell 3, h3.cell 4, h4.cell 5⟩, h.free 0, h0.free 1, h1.free 2, h2.free 3, h3.free 4, h4.free 5⟩
end Go.Proofs.YtiaebiaeolaocaaGreatDoor

/- Complex fractions, the laws' own: frac; two fractions, two complex fractions with the same words. -/
namespace Go.Proofs.YtiaebiaeolaocaaGreatDoor
open Go.RowKit
set_option linter.unusedVariables false

set_option maxHeartbeats 1600000 in
set_option maxRecDepth 100000 in
theorem gsameRatio_eq (n : Bool) (v u v' u' : Value) (xs ys : List Int) (w : World) (h : Sl w v xs) (g : Sl w u ys) (h' : Sl w v' xs) (g' : Sl w u' ys) (lx : xs.length ≤ 281474976710656) (ly : ys.length ≤ 281474976710656) :
    Calls Tryz.prog 35 #[.agg #[.bool n, v, u], .agg #[.bool n, v', u']] w fun e w' => e = .returned (.bool true) ∧ Below w.heap.size w w' := by
  have HB : Hid (Below w.heap.size w ((w.alloc (.cells #[.bool n, v, u] 26)).alloc (.cells #[.bool n, v', u'] 26))) := bt (alloc_later _ _) (alloc_later _ _)
  have HN : Hid (Box ((w.alloc (.cells #[.bool n, v, u] 26)).alloc (.cells #[.bool n, v', u'] 26)) w.heap.size 26 #[.bool n, v, u]) := Box.later (Box.made w _ _) (alloc_later _ _) (by simp)
  have HM : Hid (Box ((w.alloc (.cells #[.bool n, v, u] 26)).alloc (.cells #[.bool n, v', u'] 26)) (w.heap.size + 1) 26 #[.bool n, v', u']) := by
    have e := Box.made (w.alloc (.cells #[.bool n, v, u] 26)) 26 #[.bool n, v', u']
    simp at e
    exact e
  have H1 := hid (same_sl v v' xs xs _ (h.later HB.out) (h'.later HB.out) lx lx)
  rw [decide_eq_true rfl] at H1
  have H2 := hid (fun ww (hb : Below _ ((w.alloc (.cells #[.bool n, v, u] 26)).alloc (.cells #[.bool n, v', u'] 26)) ww) => same_sl u u' ys ys ww ((g.later HB.out).later hb) ((g'.later HB.out).later hb) ly ly)
  rw [decide_eq_true rfl] at H2
  have hbb : (n == n) = true := by simp
  obtain ⟨a, ca, rfl, hr⟩ := h
  obtain ⟨b, cb, rfl, gr⟩ := g
  obtain ⟨a', ca', rfl, hr'⟩ := h'
  obtain ⟨b', cb', rfl, gr'⟩ := g'
  clear hr gr hr' gr'
  go_enter Tryz.func35, Tryz.ntmps35
  go_wp2_with fail
  refine Calls.mono H1.out ?_
  generalize ((w.alloc (.cells #[.bool n, .slice a xs.length ca, .slice b ys.length cb] 26)).alloc (.cells #[.bool n, .slice a' xs.length ca', .slice b' ys.length cb'] 26)) = X at *
  rintro e w1 ⟨rfl, hb1⟩
  obtain ⟨p0, p1, p2, _, _, _⟩ := res_box3 HN.out hb1
  obtain ⟨q0, q1, q2, _, _, _⟩ := res_box3 HM.out hb1
  have HC := hid (H2.out w1 hb1)
  have HB1 := hid (bt HB.out hb1)
  clear hb1 H1 H2
  go_wp2_with fail
  refine Calls.mono HC.out ?_
  rintro e w2 ⟨rfl, hb2⟩
  have HBN := hid (bt HB1.out hb2)
  clear hb2 HC
  go_wp2_with fail
  go_ret
  exact ⟨rfl, HBN.out⟩
end Go.Proofs.YtiaebiaeolaocaaGreatDoor

/- Complex fractions: gauss.Norm: of any, good or refused. -/
namespace Go.Proofs.YtiaebiaeolaocaaGreatDoor
open Go.RowKit
set_option linter.unusedVariables false

theorem boxes2m (w : World) (t t' : Nat) (u v : Array Value) : Box ((w.alloc (.cells u t)).alloc (.cells v t')) w.heap.size t u ∧ Box ((w.alloc (.cells u t)).alloc (.cells v t')) (w.heap.size + 1) t' v ∧ Below w.heap.size w ((w.alloc (.cells u t)).alloc (.cells v t')) := by
  have e1 : (w.alloc (.cells u t)).heap.size = w.heap.size + 1 := World.size_alloc _ _
  have a := Box.made w t u
  have b := Box.made (w.alloc (.cells u t)) t' v
  exact ⟨a.later (alloc_later _ _) a.lt, e1 ▸ b, bt (alloc_later _ _) (alloc_later _ _)⟩
/-- A fraction is read out of a box, its error out of a slot. -/
theorem gresr_run {fn : Func} {W : World} {b q u : Nat} {cs : Array Value} (hr : fn.results = #[.cell q 26, .tmp u]) (hb : Box W b 26 cs) (tmps : Array Value) (h4 : tmps.getD q undef = .pointer (some ⟨b, 0, none⟩)) (hi : (Tryz.prog.info? 26).map (·.size) = some cs.size := by kernel_rfl) : (results fn tmps).run Tryz.prog W = .ok (.tuple #[.agg cs, tmps.getD u undef]) W := by
  have h := run_loadVar_row (P := Tryz.prog) W b 26 26 cs (0, 0) _ hb Tryz.underlying26 rfl hi
  rw [results_cell_tmp hr, h4]
  simp [asAddr, h]

end Go.Proofs.YtiaebiaeolaocaaGreatDoor

/- Two complex fractions with the same words: slackwaterkit.SameGauss. -/
namespace Go.Proofs.YtiaebiaeolaocaaGreatDoor
open Go.RowKit
set_option linter.unusedVariables false

set_option maxHeartbeats 1600000 in
set_option maxRecDepth 100000 in
theorem gsameGauss_eq (n : Bool) (a : Option Addr) (ca : Nat) (xs : List Int) (b : Option Addr) (cb : Nat) (ys : List Int) (m : Bool) (c : Option Addr) (cc : Nat) (us : List Int) (d : Option Addr) (cd : Nat) (vs : List Int) (a2 : Option Addr) (ca2 : Nat) (b2 : Option Addr) (cb2 : Nat) (c2 : Option Addr) (cc2 : Nat) (d2 : Option Addr) (cd2 : Nat) (w : World) (sx : Sl w (.slice a xs.length ca) xs) (sy : Sl w (.slice b ys.length cb) ys) (su : Sl w (.slice c us.length cc) us) (sv : Sl w (.slice d vs.length cd) vs) (sx2 : Sl w (.slice a2 xs.length ca2) xs) (sy2 : Sl w (.slice b2 ys.length cb2) ys) (su2 : Sl w (.slice c2 us.length cc2) us) (sv2 : Sl w (.slice d2 vs.length cd2) vs) (lx : xs.length ≤ 281474976710656) (ly : ys.length ≤ 281474976710656) (lu : us.length ≤ 281474976710656) (lv : vs.length ≤ 281474976710656) :
    Calls Tryz.prog 13 #[.agg #[.bool n, .slice a xs.length ca, .slice b ys.length cb, .bool m, .slice c us.length cc, .slice d vs.length cd], .agg #[.bool n, .slice a2 xs.length ca2, .slice b2 ys.length cb2, .bool m, .slice c2 us.length cc2, .slice d2 vs.length cd2]] w fun x w' => x = .returned (.bool true) ∧ Below w.heap.size w w' := by
  have HX := hid (boxes2m w 28 28 #[.bool n, .slice a xs.length ca, .slice b ys.length cb, .bool m, .slice c us.length cc, .slice d vs.length cd] #[.bool n, .slice a2 xs.length ca2, .slice b2 ys.length cb2, .bool m, .slice c2 us.length cc2, .slice d2 vs.length cd2])
  obtain ⟨X, hX⟩ : ∃ X, (w.alloc (.cells #[.bool n, .slice a xs.length ca, .slice b ys.length cb, .bool m, .slice c us.length cc, .slice d vs.length cd] 28)).alloc (.cells #[.bool n, .slice a2 xs.length ca2, .slice b2 ys.length cb2, .bool m, .slice c2 us.length cc2, .slice d2 vs.length cd2] 28) = X := ⟨_, rfl⟩
  rw [hX] at HX
  have H1 := hid (gsameRatio_eq n _ _ _ _ xs ys X (sx.later HX.out.2.2) (sy.later HX.out.2.2) (sx2.later HX.out.2.2) (sy2.later HX.out.2.2) lx ly)
  have H2 : Hid (∀ V, Below w.heap.size w V → Calls Tryz.prog 35 #[.agg #[.bool m, .slice c us.length cc, .slice d vs.length cd], .agg #[.bool m, .slice c2 us.length cc2, .slice d2 vs.length cd2]] V fun e w' => e = .returned (.bool true) ∧ Below V.heap.size V w') := fun V hv => gsameRatio_eq m _ _ _ _ us vs V (su.later hv) (sv.later hv) (su2.later hv) (sv2.later hv) lu lv
  clear sx sy su sv sx2 sy2 su2 sv2 lx ly lu lv
  obtain ⟨k0, k1, k2, k3, k4, k5⟩ := cells6 HX.out.1
  obtain ⟨m0, m1, m2, m3, m4, m5⟩ := cells6 HX.out.2.1
  go_enter Tryz.func13, Tryz.ntmps13
  go_wp2_with fail
  refine Calls.mono H1.out ?_
  rintro e w1 ⟨rfl, hb1⟩
  have HW1 := hid (bt HX.out.2.2 hb1)
  have HA1 := hid (HX.out.1.later hb1 HX.out.1.lt)
  have HA2 := hid (HX.out.2.1.later hb1 HX.out.2.1.lt)
  clear hb1 H1 k0 k1 k2 k3 k4 k5 m0 m1 m2 m3 m4 m5
  obtain ⟨k0, k1, k2, k3, k4, k5⟩ := cells6 HA1.out
  obtain ⟨m0, m1, m2, m3, m4, m5⟩ := cells6 HA2.out
  go_wp2_with fail
  refine Calls.mono (H2.out _ HW1.out) ?_
  rintro e w2 ⟨rfl, hb2⟩
  have HW2 := hid (bt HW1.out hb2)
  clear hb2 H2
  go_wp2_with fail
  go_ret
  exact ⟨rfl, HW2.out⟩
end Go.Proofs.YtiaebiaeolaocaaGreatDoor

/- A complex fraction, a constituent, that came in is read. -/
namespace Go.Proofs.YtiaebiaeolaocaaGreatDoor
open Go.ChangeShapes Go.WideShapes Go.ChangeAt Go.RowKit Go.Joins Go.Deep
set_option linter.unusedVariables false

/-- A slice of words that came in: nil, or a row of 'cap' cells. -/
def InRow (w : World) (a : Option Addr) (len cap : Nat) (zs : List Int) : Prop :=
  (a = none ∧ len = 0 ∧ cap = 0 ∧ zs = []) ∨
  ∃ x, a = some x ∧ len ≤ cap ∧ cap ≤ maxLen ∧ zs.length = cap ∧ (∀ i, i < zs.length → w.cell? (x.add i) = some (.int .u32 (zs.getD i 0))) ∧ ∀ n ∈ zs, (Lit.int .u32 n).wf = true
theorem arr6 {cs : Array Value} (h : cs.size = 6) : ∃ c0 c1 c2 c3 c4 c5, cs = #[c0, c1, c2, c3, c4, c5] := by
  rcases cs with ⟨l⟩
  match l, h with
  | [c0, c1, c2, c3, c4, c5], _ => exact ⟨c0, c1, c2, c3, c4, c5, rfl⟩
theorem arr9 {cs : Array Value} (h : cs.size = 9) : ∃ c0 c1 c2 c3 c4 c5 c6 c7 c8, cs = #[c0, c1, c2, c3, c4, c5, c6, c7, c8] := by
  rcases cs with ⟨l⟩
  match l, h with
  | [c0, c1, c2, c3, c4, c5, c6, c7, c8], _ => exact ⟨c0, c1, c2, c3, c4, c5, c6, c7, c8, rfl⟩
theorem in_row {H : Type} {enc : TypeId × Value → H} {w : World} {held : Bool} {n : Nat} {v : Value} {x : DataW H × List MemPlace} (h : DataW.trod enc Tryz.prog w 0 (fun _ => true) held n 24 [v] = some x) : ∃ a len cap zs, v = .slice a len cap ∧ InRow w a len cap zs := by
  rcases open_ints Tryz.underlying24 Tryz.underlying115 (by kernel_rfl) h with ⟨hcs, _⟩ | ⟨x, l, cc, zs, hcs, _, hl, hm, hz, _, hcell, hwz⟩
  · simp at hcs
    exact ⟨none, 0, 0, [], hcs, .inl ⟨rfl, rfl, rfl, rfl⟩⟩
  · simp at hcs
    exact ⟨some x, l, cc, zs, hcs, .inr ⟨_, rfl, hl, hm, by simpa using hz, hcell, hwz⟩⟩
theorem in_ratio {H : Type} {enc : TypeId × Value → H} {w : World} {held : Bool} {n : Nat} {v0 v1 v2 : Value} {x : DataW H × List MemPlace} (h : DataW.trod enc Tryz.prog w 0 (fun _ => true) held n 26 [v0, v1, v2] = some x) :
    ∃ s a len cap zs b lem cbp ys, v0 = .bool s ∧ v1 = .slice a len cap ∧ v2 = .slice b lem cbp ∧ InRow w a len cap zs ∧ InRow w b lem cbp ys := by
  obtain ⟨y0, y1, y2, m, _, _, t0, t1, t2⟩ := trod_struct3 Tryz.underlying26 h
  have k0 : Tryz.prog.cellsOf 4 = 1 := by kernel_rfl
  have k1 : Tryz.prog.cellsOf 24 = 1 := by kernel_rfl
  simp [k0] at t0
  simp [k1] at t1 t2
  obtain ⟨s, hs, _⟩ := DataW.trod_bool Tryz.underlying4 t0
  simp at hs
  obtain ⟨a, len, cap, zs, e1, r1⟩ := in_row t1
  obtain ⟨b, lem, cbp, ys, e2, r2⟩ := in_row t2
  exact ⟨s, a, len, cap, zs, b, lem, cbp, ys, hs, e1, e2, r1, r2⟩
theorem in_gauss {H : Type} {enc : TypeId × Value → H} {w : World} {held : Bool} {n : Nat} {v0 v1 v2 v3 v4 v5 : Value} {x : DataW H × List MemPlace} (h : DataW.trod enc Tryz.prog w 0 (fun _ => true) held n 28 [v0, v1, v2, v3, v4, v5] = some x) :
    (∃ s a len cap zs b lem cbp ys, v0 = .bool s ∧ v1 = .slice a len cap ∧ v2 = .slice b lem cbp ∧ InRow w a len cap zs ∧ InRow w b lem cbp ys) ∧ (∃ s a len cap zs b lem cbp ys, v3 = .bool s ∧ v4 = .slice a len cap ∧ v5 = .slice b lem cbp ∧ InRow w a len cap zs ∧ InRow w b lem cbp ys) := by
  obtain ⟨y0, y1, m, _, _, t0, t1⟩ := trod_struct2 Tryz.underlying28 h
  have k0 : Tryz.prog.cellsOf 26 = 3 := by kernel_rfl
  simp [k0] at t0 t1
  exact ⟨in_ratio t0, in_ratio t1⟩
set_option maxHeartbeats 800000 in
set_option maxRecDepth 100000 in
theorem open_tide {H : Type} {enc : TypeId × Value → H} {w : World} {held : Bool} {r : Reach} {b0 : Nat} {v : Value} {d : DataW H} {p : List MemPlace} (hv : Value.okWide Tryz.prog w r b0 30 v) (h : DataW.Trod enc Tryz.prog w 0 (fun _ => true) held 30 v d p) :
    ∃ (s : ByteArray) (f r : Int) (n : Bool) (a : Option Addr) (len cap : Nat) (zs : List Int) (b : Option Addr) (lem cbp : Nat) (ys : List Int) (m : Bool) (c : Option Addr) (lec cac : Nat) (us : List Int) (e : Option Addr) (lee cae : Nat) (vs : List Int),
      v = .agg #[.string s, .int .i32 f, .int .i32 r, .bool n, .slice a len cap, .slice b lem cbp, .bool m, .slice c lec cac, .slice e lee cae] ∧ s.size ≤ maxLen ∧ ((Lit.int .i32 f).wf = true ∧ (Lit.int .i32 r).wf = true) ∧ InRow w a len cap zs ∧ InRow w b lem cbp ys ∧ InRow w c lec cac us ∧ InRow w e lee cae vs := by
  obtain ⟨cs, rfl, hsz⟩ := okWide_struct Tryz.underlying30 hv
  obtain ⟨c0, c1, c2, c3, c4, c5, c6, c7, c8, rfl⟩ := arr9 (hsz.trans (by kernel_rfl))
  obtain ⟨fuel, hf⟩ := h
  obtain ⟨y0, y1, y2, m, _, _, t0, t1, t2⟩ := trod_struct3 Tryz.underlying30 hf
  have k0 : Tryz.prog.cellsOf 9 = 1 := by kernel_rfl
  have k1 : Tryz.prog.cellsOf 23 = 2 := by kernel_rfl
  have k2 : Tryz.prog.cellsOf 28 = 6 := by kernel_rfl
  have k3 : Tryz.prog.cellsOf 21 = 1 := by kernel_rfl
  simp [k0, Value.cells] at t0
  simp [k1, Value.cells] at t1
  simp [k2, Value.cells] at t2
  obtain ⟨s, hs, _, hm⟩ := DataW.trod_string Tryz.underlying9 t0
  obtain ⟨z0, z1, m', _, _, q0, q1⟩ := trod_struct2 Tryz.underlying23 t1
  simp [k3] at q0 q1
  obtain ⟨f, hf0, _, wf⟩ := DataW.trod_int Tryz.underlying21 q0
  obtain ⟨g, hg0, _, wg⟩ := DataW.trod_int Tryz.underlying21 q1
  simp at hs hf0 hg0
  obtain ⟨⟨n, a, len, cap, zs, b, lem, cbp, ys, e1, e2, e3, r1, r2⟩, m2, c, lec, cac, us, e, lee, cae, vs, e4, e5, e6, r3, r4⟩ := in_gauss t2
  exact ⟨s, f, g, n, a, len, cap, zs, b, lem, cbp, ys, m2, c, lec, cac, us, e, lee, cae, vs, by rw [hs, hf0, hg0, e1, e2, e3, e4, e5, e6], hm, ⟨wf, wg⟩, r1, r2, r3, r4⟩
end Go.Proofs.YtiaebiaeolaocaaGreatDoor

