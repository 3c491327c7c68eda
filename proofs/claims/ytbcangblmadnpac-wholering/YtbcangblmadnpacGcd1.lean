/- nat.smallDivisor: the greatest common divisor where the second number has at most two words, in new memory. -/
import Derived.Test.YtbcangblmadnpacDivAny
import Derived.Test.YtbcangblmadnpacOf
import Derived.BigQuiet
namespace Go.Proofs.Ytbcangblmadnpac
open Go.RowKit
set_option linter.unusedVariables false

/-- The greatest common divisor, as a whole number. -/
def gcdI (x y : Int) : Int := (Int.gcd x y : Int)
theorem gcdI_zero (x : Int) (h : 0 ≤ x) : gcdI x 0 = x := by unfold gcdI; rw [Int.gcd_zero_right]; omega
theorem gcdI_comm (x y : Int) : gcdI x y = gcdI y x := by unfold gcdI; rw [Int.gcd_comm]
theorem gcdI_mod (x y : Int) : gcdI x y = gcdI y (x % y) := by
  unfold gcdI
  congr 1
  have e := Int.mul_ediv_add_emod x y
  have h : Int.gcd y x = Int.gcd y (x % y) := by
    have h2 : Int.gcd y (x / y * y + x % y) = Int.gcd y (x % y) := Int.gcd_mul_right_add_right y (x % y) (x / y)
    rw [Int.mul_comm, e] at h2
    exact h2
  rw [Int.gcd_comm, h]
theorem gcdI_rest {x y q r : Int} (h : x = q * y + r) : gcdI x y = gcdI y r := by
  unfold gcdI
  congr 1
  rw [Int.gcd_comm, h]
  exact Int.gcd_mul_right_add_right y r q

/-- One number, in new memory. -/
def Told1 (w : World) (t : Int) (x : Ending) (w' : World) : Prop := ∃ v zs, x = .returned v ∧ w'.ownsRow w.heap.size 35 1 v zs.length (zs.map (Value.int .u32)) ∧ Wd zs ∧ Trimmed zs ∧ val zs = t ∧ Below w.heap.size w w'

theorem val_le2 {ys : List Int} (hw : Wd ys) (h : ys.length ≤ 2) : val ys ≤ 18446744073709551615 := by
  have h1 := val_lt hw
  have h2 : (4294967296 : Int) ^ ys.length ≤ 4294967296 ^ 2 := pw_le h
  omega
theorem u64of_eq {ys : List Int} (h : ys.length ≤ 2) : u64of ys = val ys := by
  unfold u64of
  rw [if_pos (by have := sz_le ys; omega)]

set_option maxHeartbeats 1600000 in
set_option maxRecDepth 100000 in
theorem smallDivisor_any (v u : Value) (xs ys : List Int) (w : World) (h : Sl w v xs) (g : Sl w u ys) (hn : xs.length ≤ 8192) (hx : Trimmed xs) (hy : Trimmed ys) (hl : ys.length ≤ 2) :
    Calls Try.prog 52 #[v, u] w (Told1 w (gcdI (val xs) (val ys))) := by
  have wx := h.wd
  have wy := g.wd
  by_cases h0 : ys.length = 0
  · have hz : ys = [] := List.eq_nil_of_length_eq_zero h0
    subst hz
    have HT := hid (trim_sl v xs w h (by omega))
    rw [show sz xs = xs.length from hx, trimmed_of hx] at HT
    have HG : Hid (val xs = gcdI (val xs) (val [])) := by show _ = _; rw [val_nil, gcdI_zero _ (val_nonneg wx)]
    obtain ⟨b, cap', rfl, gr⟩ := g
    clear h gr h0
    go_enter Try.func52, Try.ntmps52
    go_wp2_with fail
    refine Calls.mono HT.out ?_
    rintro e w1 ⟨v1, rfl, o1, hb⟩
    have HO := hid o1
    clear o1
    go_wp2_with fail
    go_ret
    exact ⟨v1, xs, rfl, HO.out, wx, hx, HG.out, hb⟩
  · have HD := hid (divide_any v u xs ys w h g hn (by omega) hx hy (by omega))
    have HGS := hid g
    obtain ⟨b, cap', rfl, gr⟩ := g
    have hz : ((ys.length : Int) == 0) = false := by simp; exact fun e => h0 (by rw [e]; rfl)
    clear h gr h0
    go_enter Try.func52, Try.ntmps52
    go_wp2_with fail
    refine Calls.mono HD.out ?_
    rintro e w1 ⟨v1, u1, q, r, c, rfl, oq, orr, _, _, _, _, wq, wR, tq, tr, hv, hlt, hb⟩
    have sR := Sl.own orr wR
    have lr : r.length ≤ 2 := len_of_lt wR tr (by have h1 := val_lt wy; have h2 : (4294967296 : Int) ^ ys.length ≤ 4294967296 ^ 2 := pw_le hl; omega)
    have HU1 := hid (uint64_sl _ ys w1 (HGS.out.later hb) (by omega))
    rw [u64of_eq hl] at HU1
    have HGG := hid (gcdI_rest hv)
    have HSR := hid sR
    have py := val_le2 wy hl
    have pr := val_le2 wR lr
    have py0 := val_nonneg wy
    have pr0 := val_nonneg wR
    obtain ⟨Y, hY⟩ : ∃ Y, val ys = Y := ⟨_, rfl⟩
    obtain ⟨R, hR⟩ : ∃ R, val r = R := ⟨_, rfl⟩
    rw [hY] at HU1 HGG py py0 ⊢
    rw [hR] at HGG pr pr0
    have HR := hid hR
    have HY := hid hY
    clear oq orr hv hlt sR HD HGS hY hR
    go_wp2_with fail
    refine Calls.mono HU1.out ?_
    rintro e w2 ⟨rfl, hb2⟩
    have HU2 := hid (uint64_sl _ r w2 (HSR.out.later hb2) (by omega))
    rw [u64of_eq lr, HR.out] at HU2
    have hb3 := bt hb hb2
    clear hb hb2 HU1 HSR
    go_wp2_with fail
    refine Calls.mono HU2.out ?_
    rintro e w3 ⟨rfl, hb2⟩
    have hb := bt hb3 hb2
    clear hb3 hb2 HU2
    go_wp2_with fail
    go_loopw [7, 9] (fun c d ww => ∃ (p q : Int), c = .int .u64 p ∧ d = .int .u64 q ∧ 0 ≤ p ∧ p ≤ 18446744073709551615 ∧ 0 ≤ q ∧ q ≤ 18446744073709551615 ∧ Hid (gcdI p q = gcdI (val xs) Y) ∧ Below w.heap.size w ww) (fun _ d _ => (intOf d).toNat)
    case atStart => exact ⟨Y, R, rfl, rfl, py0, py, pr0, pr, HGG.out.symm, hb⟩
    case round =>
      obtain ⟨p, q, rfl, rfl, p0, p1, q0, q1, HG, hbw⟩ := hrel
      by_cases hq : q = 0
      · subst hq
        have HF : Hid (p = gcdI (val xs) Y) := by show _ = _; rw [← HG.out, gcdI_zero p p0]
        have HOF := hid (of_any p wr p0 p1)
        go_wp2_with fail
        refine Calls.mono HOF.out ?_
        rintro e w4 ⟨v4, rfl, o4, hb4⟩
        have HO := hid (owns_base (owns_len o4) hbw.size)
        have hb5 := bt hbw hb4
        clear o4 hb4 HOF
        go_wp2_with fail
        go_ret
        exact ⟨v4, _, rfl, HO.out, (of_wd p p0 p1).trimmed, Trimmed.trimmed _, by rw [val_trimmed, val_two, HY.out, ← HF.out]; omega, hb5⟩
      · have hne : (q != 0) = true := by simp [hq]
        have m0 : 0 ≤ p % q := Int.emod_nonneg _ hq
        have m1 : p % q < q := Int.emod_lt_of_pos _ (by omega)
        have HG' : Hid (gcdI q (p % q) = gcdI (val xs) Y) := by show _ = _; rw [← gcdI_mod]; exact HG.out
        go_wp2_with fail
        go_quiet (fail)
        go_wp2_with fail
        go_roundw
        case rel => exact ⟨q, p % q, rfl, by go_num, q0, q1, m0, by omega, HG', bdn hbw _⟩
        case measure => simp [intOf]; omega
end Go.Proofs.Ytbcangblmadnpac
