/- nat.guess, nat.nextWord: one word of a quotient. -/
import Derived.Test.YtbcangblmadnpacDoorLong2
import Derived.BigQuiet
namespace Go.Proofs.YtbcangblmadnpacDoor
open Go.RowKit
set_option linter.unusedVariables false

theorem bdn {B : Nat} {a w : World} (h : Below B a w) (n : Nat) : Below B a (w.drewN n) := h.trans ⟨rfl, rfl, rfl, Nat.le_refl _, fun _ _ => rfl⟩
theorem seg_three (ys : List Int) (i e : Nat) : segTo ys i (e + 3) = segTo ys i e + (ys[i + e]?.getD 0 + (ys[i + (e + 1)]?.getD 0 + ys[i + (e + 2)]?.getD 0 * 4294967296) * 4294967296) * 4294967296 ^ e := by
  rw [segTo_succ, segTo_succ, segTo_succ, pw_succ (e + 1), pw_succ e]
  generalize ys[i + (e + 2)]?.getD 0 = u2
  generalize ys[i + (e + 1)]?.getD 0 = u1
  generalize ys[i + e]?.getD 0 = u0
  generalize (4294967296 : Int) ^ e = P
  have e1 : u2 * (P * 4294967296 * 4294967296) = u2 * 4294967296 * 4294967296 * P := by rw [Int.mul_assoc P, Int.mul_comm P, ← Int.mul_assoc, ← Int.mul_assoc]
  have e2 : u1 * (P * 4294967296) = u1 * 4294967296 * P := by rw [Int.mul_comm P, ← Int.mul_assoc]
  rw [e1, e2, Int.add_mul u0, Int.add_mul u1, Int.add_mul (u1 * 4294967296)]
  omega
theorem val_two_top (ds : List Int) (e : Nat) (h : ds.length = e + 2) : val ds = valTo ds e + (ds[e]?.getD 0 + ds[e + 1]?.getD 0 * 4294967296) * 4294967296 ^ e := by
  unfold val
  rw [h, valTo_succ, valTo_succ, pw_succ, Int.add_mul, Int.mul_assoc (ds[e + 1]?.getD 0), Int.mul_comm 4294967296 (4294967296 ^ e)]
  omega
theorem segTo_bounds {xs : List Int} (hw : Wd xs) (i : Nat) : ∀ k, 0 ≤ segTo xs i k ∧ segTo xs i k < 4294967296 ^ k
  | 0 => ⟨Int.le_refl _, by simp [segTo]⟩
  | k + 1 => by
    obtain ⟨h0, h1⟩ := segTo_bounds hw i k
    obtain ⟨z0, z1⟩ := hw.at (i + k)
    have hp := pw_pos k
    rw [segTo_succ, pw_succ]
    have e1 : 0 ≤ xs[i + k]?.getD 0 * 4294967296 ^ k := Int.mul_nonneg z0 (Int.le_of_lt hp)
    have e2 : xs[i + k]?.getD 0 * 4294967296 ^ k ≤ 4294967295 * 4294967296 ^ k := Int.mul_le_mul_of_nonneg_right z1 (Int.le_of_lt hp)
    omega

/-- The two highest words bound the rest of a guess. -/
theorem guess_top (P H Lo dl ll t u0 : Int) (hP : 0 < P) (dl1 : dl < P) (ll0 : 0 ≤ ll) (hu : 0 ≤ u0) (h : ll + (u0 + t * 4294967296) * P < 4294967296 * (dl + (Lo + H * 4294967296) * P)) : t ≤ Lo + H * 4294967296 := by
  by_cases c : t ≤ Lo + H * 4294967296
  · exact c
  · have e1 : (Lo + H * 4294967296 + 1) * 4294967296 * P ≤ (u0 + t * 4294967296) * P := Int.mul_le_mul_of_nonneg_right (by omega) (by omega)
    have e2 : (Lo + H * 4294967296 + 1) * 4294967296 * P = 4294967296 * ((Lo + H * 4294967296) * P) + 4294967296 * P := by
      rw [Int.mul_comm (Lo + H * 4294967296 + 1), Int.mul_assoc, Int.add_mul, Int.one_mul, Int.mul_add]
    rw [Int.mul_add] at h
    omega
theorem guess_break (H Lo t q r : Int) (h0 : 0 < H) (hr : q * H + r = t) (ht : t ≤ Lo + H * 4294967296) (hb : 4294967296 ≤ r) (hl : Lo ≤ 4294967295) : q ≤ 4294967295 := by
  have e : q * H < 4294967296 * H := by omega
  have := Int.lt_of_mul_lt_mul_right e (by omega)
  omega
theorem guess_down (D q L : Int) (hD : 0 ≤ D) (hq : 4294967296 ≤ q) (h : L < 4294967296 * D) : L < (q - 1 + 1) * D := by
  have : 4294967296 * D ≤ q * D := Int.mul_le_mul_of_nonneg_right hq hD
  rw [show q - 1 + 1 = q by omega]; omega

set_option maxHeartbeats 3200000 in
set_option maxRecDepth 100000 in
theorem guess_any (base g N i e cap : Nat) (ys : List Int) (b : Option Addr) (cap' : Nat) (ds : List Int) (w : World) (ho : OwnW w base g N ys) (hwy : Wd ys) (him : i + (e + 2) + 1 ≤ N) (hcap : cap = N - i) (hN : N ≤ 1099511627776)
    (h : Reads w base b (e + 2) cap' ds) (hh : 1 ≤ ds[e + 1]?.getD 0) (hLD : segTo ys i (e + 3) < 4294967296 * val ds) :
    Calls Tryd.prog 101 #[.slice (some ⟨g, i, none⟩) (e + 2 + 1) cap, .slice b (e + 2) cap'] w fun x w' => ∃ q : Int, x = .returned (.int .u32 q) ∧ 0 ≤ q ∧ q ≤ 4294967295 ∧ segTo ys i (e + 3) < (q + 1) * val ds ∧ q * val ds ≤ segTo ys i (e + 3) + val ds ∧ Below w.heap.size w w' := by
  rcases h.2.2.1 with h0 | ⟨b2, o2, rfl, hb2, hc2⟩
  · omega
  · have hwz := h.2.1
    have hl := h.1
    have c1 := hc2 (e + 1) (by omega)
    have c0 := hc2 e (by omega)
    have l2 := ho.cell (i + (e + 2)) (by omega)
    have l1 := ho.cell (i + (e + 1)) (by omega)
    have l0 := ho.cell (i + e) (by omega)
    have bh := hwz.at (e + 1)
    have bl := hwz.at e
    have b2' := hwy.at (i + (e + 2))
    have b1' := hwy.at (i + (e + 1))
    have b0' := hwy.at (i + e)
    have hS := seg_three ys i e
    have hD := val_two_top ds e hl
    have sb := segTo_bounds hwy i e
    have vb := valTo_bounds hwz e
    generalize ds[e + 1]?.getD 0 = H at *
    generalize ds[e]?.getD 0 = Lo at *
    generalize ys[i + (e + 2)]?.getD 0 = u2 at *
    generalize ys[i + (e + 1)]?.getD 0 = u1 at *
    generalize ys[i + e]?.getD 0 = u0 at *
    obtain ⟨t, ht⟩ : ∃ t, t = u1 + u2 * 4294967296 := ⟨_, rfl⟩
    have hor : bits BinOp.or IntKind.u64 (u2 * 4294967296) u1 = t := by rw [or_join u2 _ b2'.1 b2'.2 b1'.1 b1'.2, ht]
    have t0 : 0 ≤ t ∧ t ≤ 18446744073709551615 := by omega
    have P0 := pw_pos e
    have HTB : Hid (t ≤ Lo + H * 4294967296) := guess_top (4294967296 ^ e) H Lo (valTo ds e) (segTo ys i e) t u0 P0 vb.2 sb.1 b0'.1 (by rw [hS, hD, ← ht] at hLD; exact hLD)
    have HQ0 : Hid (segTo ys i (e + 3) < (t / H + 1) * val ds) := by
      show _ < _
      rw [hS, hD, ← ht]
      exact guess_first (4294967296 ^ e) H Lo (valTo ds e) u2 u1 u0 (segTo ys i e) t P0 (by omega) bl.1 vb.1 sb.2 b0' ht t0.1
    have HLESS : Hid (∀ q r : Int, 0 ≤ q → q * H + r = t → u0 + r * 4294967296 < q * Lo → segTo ys i (e + 3) < (q - 1 + 1) * val ds) := fun q r hq hr hgt => by
      rw [hS, hD, ← ht, show q - 1 + 1 = q by omega]
      exact guess_less (4294967296 ^ e) H Lo (valTo ds e) t u0 (segTo ys i e) q r P0 vb.1 sb.2 hq hr hgt
    have HMOST : Hid (∀ q r : Int, 0 ≤ q → q ≤ 4294967295 → q * H + r = t → q * Lo ≤ u0 + r * 4294967296 → q * val ds ≤ segTo ys i (e + 3) + val ds) := fun q r hq hq1 hr hle => by
      rw [hS, hD, ← ht]
      exact guess_most (4294967296 ^ e) H Lo (valTo ds e) t u0 (segTo ys i e) q r P0 vb.1 vb.2 sb.1 hh bl.1 hq hq1 hr hle
    have hcm : e + 2 + 1 ≤ cap := by omega
    have q0 : 0 ≤ t / H := Int.ediv_nonneg t0.1 (by omega)
    have q1 : t / H ≤ t := Int.ediv_le_self _ (by omega)
    have r0 : 0 ≤ t % H := Int.emod_nonneg _ (by omega)
    have r1 : t % H < H := Int.emod_lt_of_pos _ (by omega)
    have HE0 : Hid (t / H * H + t % H = t) := by show _ = _; rw [Int.mul_comm]; exact Int.mul_ediv_add_emod t H
    have hHz : ¬ H = 0 := by omega
    have HLD := hid hLD
    have HDN := hid (val_nonneg hwz)
    clear hc2 h hl hS hD sb vb hLD ho ht P0
    go_enter Tryd.func101, Tryd.ntmps101
    go_wp2_with fail
    go_quiet (fail)
    go_wp2_with fail
    go_quiet (fail)
    go_wp2_with fail
    go_quiet (fail)
    go_wp2_with fail
    go_loopw [9, 10] (fun c d wr => ∃ (q r : Int), c = .int .u64 q ∧ d = .int .u64 r ∧ 0 ≤ q ∧ q ≤ 18446744073709551615 ∧ 0 ≤ r ∧ r ≤ 4294967295 ∧ Hid (q * H + r = t) ∧ Hid (segTo ys i (e + 3) < (q + 1) * val ds) ∧ wr.cell? ⟨g, i + e, none⟩ = some (.int .u32 u0) ∧ Below w.heap.size w wr) (fun c _ _ => (intOf c).toNat)
    case atStart => exact ⟨t / H, t % H, rfl, rfl, q0, by omega, r0, by omega, HE0, HQ0, l0, bdn (bdn (bdn (Below.refl _ _) _) _) _⟩
    case round =>
      obtain ⟨q, r, rfl, rfl, qa, qb, ra, rb, HE, HQ, lw, hb⟩ := hrel
      clear q0 q1 r0 r1 HE0 HQ0 c1 c0 l0 l1 l2 hor
      have hE' : (q - 1) * H + (r + H) = t := by rw [Int.sub_mul, Int.one_mul]; have := HE.out; omega
      have HE' := hid hE'
      by_cases big : 4294967295 < q
      · have HQ' : Hid (segTo ys i (e + 3) < (q - 1 + 1) * val ds) := guess_down (val ds) q _ HDN.out (by omega) HLD.out
        by_cases rr : 4294967295 < r + H
        · have qc := guess_break H Lo t (q - 1) (r + H) (by omega) hE' HTB.out (by omega) bl.2
          have HM : Hid ((q - 1) * val ds ≤ segTo ys i (e + 3) + val ds) := HMOST.out (q - 1) (r + H) (by omega) qc hE' (by
            have a := prod_word (q - 1) Lo ⟨by omega, qc⟩ bl
            omega)
          clear hE'
          go_wp2_with fail
          go_ret
          exact ⟨q - 1, ret_int (by omega), by omega, qc, HQ'.out, HM.out, hb⟩
        · clear hE'
          go_wp2_with fail
          go_roundw
          case rel => exact ⟨q - 1, r + H, by go_num, by go_num, by omega, by omega, by omega, by omega, HE', HQ', lw, hb⟩
          case measure => simp [intOf]; omega
      · have bp := prod_word q Lo ⟨qa, by omega⟩ bl
        obtain ⟨p, hp⟩ : ∃ p, q * Lo = p := ⟨_, rfl⟩
        rw [hp] at bp
        obtain ⟨s, hs⟩ : ∃ s, s = u0 + r * 4294967296 := ⟨_, rfl⟩
        have hor : bits BinOp.or IntKind.u64 (r * 4294967296) u0 = s := by rw [or_join r _ ra rb b0'.1 b0'.2, hs]
        by_cases gt : s < p
        · have HQ' : Hid (segTo ys i (e + 3) < (q - 1 + 1) * val ds) := HLESS.out q r qa HE.out (by rw [hp, ← hs]; exact gt)
          have q1 : 1 ≤ q := by
            by_cases c : q = 0
            · rw [c] at hp; simp at hp; omega
            · omega
          by_cases rr : 4294967295 < r + H
          · have qc := guess_break H Lo t (q - 1) (r + H) (by omega) hE' HTB.out (by omega) bl.2
            have HM : Hid ((q - 1) * val ds ≤ segTo ys i (e + 3) + val ds) := HMOST.out (q - 1) (r + H) (by omega) qc hE' (by
              have a := prod_word (q - 1) Lo ⟨by omega, qc⟩ bl
              omega)
            clear hE' hs
            go_wp2_with fail
            go_ret
            exact ⟨q - 1, ret_int (by omega), by omega, qc, HQ'.out, HM.out, hb⟩
          · clear hE' hs
            go_wp2_with fail
            go_roundw
            case rel => exact ⟨q - 1, r + H, by go_num, by go_num, by omega, by omega, by omega, by omega, HE', HQ', lw, hb⟩
            case measure => simp [intOf]; omega
        · have HM : Hid (q * val ds ≤ segTo ys i (e + 3) + val ds) := HMOST.out q r qa (by omega) HE.out (by rw [hp, ← hs]; omega)
          clear hE' hs
          go_wp2_with fail
          go_ret
          exact ⟨q, ret_int (by omega), qa, by omega, HQ.out, HM.out, hb⟩
end Go.Proofs.YtbcangblmadnpacDoor
