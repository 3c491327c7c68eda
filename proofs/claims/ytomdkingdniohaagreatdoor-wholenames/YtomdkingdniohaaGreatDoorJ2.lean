/- My texts on the way to WholeNames, one behind the other: contracts of the program and of the document's answers. -/
import Derived.Test.YtomdkingdniohaaGreatDoorJ1
import Derived.BigQuiet
import Derived.Lib.ItoaNum
import Derived.Handy
import Derived.Deep.CutRange
import Derived.Deep.LoopGhost
import Derived.Deep.Cut
import Derived.Deep.QuietTactic
import Derived.Deep.RegionHeld3
/- nat.guess, nat.nextWord: one word of a quotient. -/
namespace Go.Proofs.YtomdkingdniohaaGreatDoor
open Go.RowKit
set_option linter.unusedVariables false

theorem bdn {B : Nat} {a w : World} (h : Below B a w) (n : Nat) : Below B a (w.drewN n) := h.trans ⟨rfl, rfl, rfl, Nat.le_refl _, fun _ _ => rfl⟩
theorem seg_three (ys : List Int) (i e : Nat) : segTo ys i (e + 3) = segTo ys i e + (ys[i + e]?.getD 0 + (ys[i + (e + 1)]?.getD 0 + ys[i + (e + 2)]?.getD 0 * 4294967296) * 4294967296) * 4294967296 ^ e := by
  rw [segTo_succ, segTo_succ, segTo_succ, pw_succ (e + 1), pw_succ e]
  generalize ys[i + (e + 2)]?.getD 0 = u2
  generalize ys[i + (e + 1)]?.getD 0 = u1
  generalize ys[i + e]?.getD 0 = u0
  generalize (4294967296 : Int) ^ e = P
  have e1 : u2 * (P * 4294967296 * 4294967296) = u2 * 4294967296 * 4294967296 * P := by rw [Int.mul_assoc P, Int.mul_comm P, ← Int.mul_assoc, ← Int.mul_assoc]
  have e2 : u1 * (P * 4294967296) = u1 * 4294967296 * P := by rw [Int.mul_comm P, ← Int.mul_assoc]
  rw [e1, e2, Int.add_mul u0, Int.add_mul u1, Int.add_mul (u1 * 4294967296)]
  omega
theorem val_two_top (ds : List Int) (e : Nat) (h : ds.length = e + 2) : val ds = valTo ds e + (ds[e]?.getD 0 + ds[e + 1]?.getD 0 * 4294967296) * 4294967296 ^ e := by
  unfold val
  rw [h, valTo_succ, valTo_succ, pw_succ, Int.add_mul, Int.mul_assoc (ds[e + 1]?.getD 0), Int.mul_comm 4294967296 (4294967296 ^ e)]
  omega
theorem segTo_bounds {xs : List Int} (hw : Wd xs) (i : Nat) : ∀ k, 0 ≤ segTo xs i k ∧ segTo xs i k < 4294967296 ^ k
  | 0 => ⟨Int.le_refl _, by simp [segTo]⟩
  | k + 1 => by
    obtain ⟨h0, h1⟩ := segTo_bounds hw i k
    obtain ⟨z0, z1⟩ := hw.at (i + k)
    have hp := pw_pos k
    rw [segTo_succ, pw_succ]
    have e1 : 0 ≤ xs[i + k]?.getD 0 * 4294967296 ^ k := Int.mul_nonneg z0 (Int.le_of_lt hp)
    have e2 : xs[i + k]?.getD 0 * 4294967296 ^ k ≤ 4294967295 * 4294967296 ^ k := Int.mul_le_mul_of_nonneg_right z1 (Int.le_of_lt hp)
    omega

/-- The two highest words bound the rest of a guess. -/
theorem guess_top (P H Lo dl ll t u0 : Int) (hP : 0 < P) (dl1 : dl < P) (ll0 : 0 ≤ ll) (hu : 0 ≤ u0) (h : ll + (u0 + t * 4294967296) * P < 4294967296 * (dl + (Lo + H * 4294967296) * P)) : t ≤ Lo + H * 4294967296 := by
  by_cases c : t ≤ Lo + H * 4294967296
  · exact c
  · have e1 : (Lo + H * 4294967296 + 1) * 4294967296 * P ≤ (u0 + t * 4294967296) * P := Int.mul_le_mul_of_nonneg_right (by omega) (by omega)
    have e2 : (Lo + H * 4294967296 + 1) * 4294967296 * P = 4294967296 * ((Lo + H * 4294967296) * P) + 4294967296 * P := by
      rw [Int.mul_comm (Lo + H * 4294967296 + 1), Int.mul_assoc, Int.add_mul, Int.one_mul, Int.mul_add]
    rw [Int.mul_add] at h
    omega
theorem guess_break (H Lo t q r : Int) (h0 : 0 < H) (hr : q * H + r = t) (ht : t ≤ Lo + H * 4294967296) (hb : 4294967296 ≤ r) (hl : Lo ≤ 4294967295) : q ≤ 4294967295 := by
  have e : q * H < 4294967296 * H := by omega
  have := Int.lt_of_mul_lt_mul_right e (by omega)
  omega
theorem guess_down (D q L : Int) (hD : 0 ≤ D) (hq : 4294967296 ≤ q) (h : L < 4294967296 * D) : L < (q - 1 + 1) * D := by
  have : 4294967296 * D ≤ q * D := Int.mul_le_mul_of_nonneg_right hq hD
  rw [show q - 1 + 1 = q by omega]; omega

set_option maxHeartbeats 3200000 in
set_option maxRecDepth 100000 in
theorem guess_any (base g N i e cap : Nat) (ys : List Int) (b : Option Addr) (cap' : Nat) (ds : List Int) (w : World) (ho : OwnW w base g N ys) (hwy : Wd ys) (him : i + (e + 2) + 1 ≤ N) (hcap : cap = N - i) (hN : N ≤ 1099511627776)
    (h : Reads w base b (e + 2) cap' ds) (hh : 1 ≤ ds[e + 1]?.getD 0) (hLD : segTo ys i (e + 3) < 4294967296 * val ds) :
    Calls Tryz.prog 98 #[.slice (some ⟨g, i, none⟩) (e + 2 + 1) cap, .slice b (e + 2) cap'] w fun x w' => ∃ q : Int, x = .returned (.int .u32 q) ∧ 0 ≤ q ∧ q ≤ 4294967295 ∧ segTo ys i (e + 3) < (q + 1) * val ds ∧ q * val ds ≤ segTo ys i (e + 3) + val ds ∧ Below w.heap.size w w' := by
  rcases h.2.2.1 with h0 | ⟨b2, o2, rfl, hb2, hc2⟩
  · omega
  · have hwz := h.2.1
    have hl := h.1
    have c1 := hc2 (e + 1) (by omega)
    have c0 := hc2 e (by omega)
    have l2 := ho.cell (i + (e + 2)) (by omega)
    have l1 := ho.cell (i + (e + 1)) (by omega)
    have l0 := ho.cell (i + e) (by omega)
    have bh := hwz.at (e + 1)
    have bl := hwz.at e
    have b2' := hwy.at (i + (e + 2))
    have b1' := hwy.at (i + (e + 1))
    have b0' := hwy.at (i + e)
    have hS := seg_three ys i e
    have hD := val_two_top ds e hl
    have sb := segTo_bounds hwy i e
    have vb := valTo_bounds hwz e
    generalize ds[e + 1]?.getD 0 = H at *
    generalize ds[e]?.getD 0 = Lo at *
    generalize ys[i + (e + 2)]?.getD 0 = u2 at *
    generalize ys[i + (e + 1)]?.getD 0 = u1 at *
    generalize ys[i + e]?.getD 0 = u0 at *
    obtain ⟨t, ht⟩ : ∃ t, t = u1 + u2 * 4294967296 := ⟨_, rfl⟩
    have hor : bits BinOp.or IntKind.u64 (u2 * 4294967296) u1 = t := by rw [or_join u2 _ b2'.1 b2'.2 b1'.1 b1'.2, ht]
    have t0 : 0 ≤ t ∧ t ≤ 18446744073709551615 := by omega
    have P0 := pw_pos e
    have HTB : Hid (t ≤ Lo + H * 4294967296) := guess_top (4294967296 ^ e) H Lo (valTo ds e) (segTo ys i e) t u0 P0 vb.2 sb.1 b0'.1 (by rw [hS, hD, ← ht] at hLD; exact hLD)
    have HQ0 : Hid (segTo ys i (e + 3) < (t / H + 1) * val ds) := by
      show _ < _
      rw [hS, hD, ← ht]
      exact guess_first (4294967296 ^ e) H Lo (valTo ds e) u2 u1 u0 (segTo ys i e) t P0 (by omega) bl.1 vb.1 sb.2 b0' ht t0.1
    have HLESS : Hid (∀ q r : Int, 0 ≤ q → q * H + r = t → u0 + r * 4294967296 < q * Lo → segTo ys i (e + 3) < (q - 1 + 1) * val ds) := fun q r hq hr hgt => by
      rw [hS, hD, ← ht, show q - 1 + 1 = q by omega]
      exact guess_less (4294967296 ^ e) H Lo (valTo ds e) t u0 (segTo ys i e) q r P0 vb.1 sb.2 hq hr hgt
    have HMOST : Hid (∀ q r : Int, 0 ≤ q → q ≤ 4294967295 → q * H + r = t → q * Lo ≤ u0 + r * 4294967296 → q * val ds ≤ segTo ys i (e + 3) + val ds) := fun q r hq hq1 hr hle => by
      rw [hS, hD, ← ht]
      exact guess_most (4294967296 ^ e) H Lo (valTo ds e) t u0 (segTo ys i e) q r P0 vb.1 vb.2 sb.1 hh bl.1 hq hq1 hr hle
    have hcm : e + 2 + 1 ≤ cap := by omega
    have q0 : 0 ≤ t / H := Int.ediv_nonneg t0.1 (by omega)
    have q1 : t / H ≤ t := Int.ediv_le_self _ (by omega)
    have r0 : 0 ≤ t % H := Int.emod_nonneg _ (by omega)
    have r1 : t % H < H := Int.emod_lt_of_pos _ (by omega)
    have HE0 : Hid (t / H * H + t % H = t) := by show _ = _; rw [Int.mul_comm]; exact Int.mul_ediv_add_emod t H
    have hHz : ¬ H = 0 := by omega
    have HLD := hid hLD
    have HDN := hid (val_nonneg hwz)
    clear hc2 h hl hS hD sb vb hLD ho ht P0
    go_enter Tryz.func98, Tryz.ntmps98
    go_wp2_with fail
    go_quiet (fail)
    go_wp2_with fail
    go_quiet (fail)
    go_wp2_with fail
    go_quiet (fail)
    go_wp2_with fail
    go_loopw [9, 10] (fun c d wr => ∃ (q r : Int), c = .int .u64 q ∧ d = .int .u64 r ∧ 0 ≤ q ∧ q ≤ 18446744073709551615 ∧ 0 ≤ r ∧ r ≤ 4294967295 ∧ Hid (q * H + r = t) ∧ Hid (segTo ys i (e + 3) < (q + 1) * val ds) ∧ wr.cell? ⟨g, i + e, none⟩ = some (.int .u32 u0) ∧ Below w.heap.size w wr) (fun c _ _ => (intOf c).toNat)
    case atStart => exact ⟨t / H, t % H, rfl, rfl, q0, by omega, r0, by omega, HE0, HQ0, l0, bdn (bdn (bdn (Below.refl _ _) _) _) _⟩
    case round =>
      obtain ⟨q, r, rfl, rfl, qa, qb, ra, rb, HE, HQ, lw, hb⟩ := hrel
      clear q0 q1 r0 r1 HE0 HQ0 c1 c0 l0 l1 l2 hor
      have hE' : (q - 1) * H + (r + H) = t := by rw [Int.sub_mul, Int.one_mul]; have := HE.out; omega
      have HE' := hid hE'
      by_cases big : 4294967295 < q
      · have HQ' : Hid (segTo ys i (e + 3) < (q - 1 + 1) * val ds) := guess_down (val ds) q _ HDN.out (by omega) HLD.out
        by_cases rr : 4294967295 < r + H
        · have qc := guess_break H Lo t (q - 1) (r + H) (by omega) hE' HTB.out (by omega) bl.2
          have HM : Hid ((q - 1) * val ds ≤ segTo ys i (e + 3) + val ds) := HMOST.out (q - 1) (r + H) (by omega) qc hE' (by
            have a := prod_word (q - 1) Lo ⟨by omega, qc⟩ bl
            omega)
          clear hE'
          go_wp2_with fail
          go_ret
          exact ⟨q - 1, ret_int (by omega), by omega, qc, HQ'.out, HM.out, hb⟩
        · clear hE'
          go_wp2_with fail
          go_roundw
          case rel => exact ⟨q - 1, r + H, by go_num, by go_num, by omega, by omega, by omega, by omega, HE', HQ', lw, hb⟩
          case measure => simp [intOf]; omega
      · have bp := prod_word q Lo ⟨qa, by omega⟩ bl
        obtain ⟨p, hp⟩ : ∃ p, q * Lo = p := ⟨_, rfl⟩
        rw [hp] at bp
        obtain ⟨s, hs⟩ : ∃ s, s = u0 + r * 4294967296 := ⟨_, rfl⟩
        have hor : bits BinOp.or IntKind.u64 (r * 4294967296) u0 = s := by rw [or_join r _ ra rb b0'.1 b0'.2, hs]
        by_cases gt : s < p
        · have HQ' : Hid (segTo ys i (e + 3) < (q - 1 + 1) * val ds) := HLESS.out q r qa HE.out (by rw [hp, ← hs]; exact gt)
          have q1 : 1 ≤ q := by
            by_cases c : q = 0
            · rw [c] at hp; simp at hp; omega
            · omega
          by_cases rr : 4294967295 < r + H
          · have qc := guess_break H Lo t (q - 1) (r + H) (by omega) hE' HTB.out (by omega) bl.2
            have HM : Hid ((q - 1) * val ds ≤ segTo ys i (e + 3) + val ds) := HMOST.out (q - 1) (r + H) (by omega) qc hE' (by
              have a := prod_word (q - 1) Lo ⟨by omega, qc⟩ bl
              omega)
            clear hE' hs
            go_wp2_with fail
            go_ret
            exact ⟨q - 1, ret_int (by omega), by omega, qc, HQ'.out, HM.out, hb⟩
          · clear hE' hs
            go_wp2_with fail
            go_roundw
            case rel => exact ⟨q - 1, r + H, by go_num, by go_num, by omega, by omega, by omega, by omega, HE', HQ', lw, hb⟩
            case measure => simp [intOf]; omega
        · have HM : Hid (q * val ds ≤ segTo ys i (e + 3) + val ds) := HMOST.out q r qa (by omega) HE.out (by rw [hp, ← hs]; omega)
          clear hE' hs
          go_wp2_with fail
          go_ret
          exact ⟨q, ret_int (by omega), qa, by omega, HQ.out, HM.out, hb⟩
end Go.Proofs.YtomdkingdniohaaGreatDoor

/- nat.nextWord: one word of a quotient. -/
namespace Go.Proofs.YtomdkingdniohaaGreatDoor
open Go.RowKit
set_option linter.unusedVariables false

theorem grown_of_below {w w' : World} (hb : Below w.heap.size w w') (r : Option Nat) : w.grownBy w' r := ⟨hb.os, hb.tape, hb.output, hb.size, fun k hk _ => hb.block k hk⟩

set_option maxHeartbeats 800000 in
set_option maxRecDepth 100000 in
theorem nextWord_any (base g N i e cap : Nat) (ys : List Int) (b : Option Addr) (cap' : Nat) (ds : List Int) (w : World) (ho : OwnW w base g N ys) (hwy : Wd ys) (him : i + (e + 2) + 1 ≤ N) (hcap : cap = N - i) (hN : N ≤ 1099511627776)
    (h : Reads w base b (e + 2) cap' ds) (hh : 1 ≤ ds[e + 1]?.getD 0) (hLD : segTo ys i (e + 3) < 4294967296 * val ds) :
    Calls Tryz.prog 89 #[.slice (some ⟨g, i, none⟩) (e + 2 + 1) cap, .slice b (e + 2) cap'] w fun x w' => ∃ (q : Int) (us : List Int), x = .returned (.int .u32 q) ∧ 0 ≤ q ∧ q ≤ 4294967295 ∧ OwnW w' base g N us ∧ Wd us ∧
      (∀ j, j < i ∨ i + (e + 2) + 1 ≤ j → us[j]?.getD 0 = ys[j]?.getD 0) ∧ segTo us i (e + 3) = segTo ys i (e + 3) - q * val ds ∧ segTo us i (e + 3) < val ds ∧ w.grownBy w' (some g) := by
  subst hcap
  have hbase := ho.base
  have hbw : base ≤ w.heap.size := by omega
  have HG := hid (guess_any base g N i e _ ys b cap' ds w ho hwy him rfl hN h hh hLD)
  have vd := val_lt h.2.1
  have vd0 := val_nonneg h.2.1
  rw [h.1] at vd
  have sb := segTo_bounds hwy i (e + 3)
  have hpw : (4294967296 : Int) ^ (e + 2) ≤ 4294967296 ^ (e + 3) := pw_le (by omega)
  have HF := hid (And.intro vd (And.intro vd0 (And.intro sb hpw)))
  have HR := hid h
  have HO := hid ho
  clear h ho vd vd0 sb hpw hLD
  go_enter Tryz.func89, Tryz.ntmps89
  go_wp2_with fail
  refine Calls.mono HG.out ?_
  rintro x w1 ⟨q, rfl, q0, q1, ha, hb, hbel⟩
  rw [Int.add_mul, Int.one_mul] at ha
  have HA := hid ha
  have HBB := hid hb
  clear ha hb
  have o1 : OwnW w1 base g N ys := owns_later HO.out hbel
  have r1 := HR.out.later (hbel.mono hbw) (Nat.le_refl _)
  have hs1 := hbel.size
  have HT := hid (takeTimes_any base g N i (e + 2) _ ys b cap' ds q w1 o1 hwy him rfl hN r1 (by omega) ⟨q0, q1⟩)
  have hbel' : Below base w w1 := hbel.mono hbw
  have hg1 := grown_of_below hbel (some g)
  clear o1 HG HO hbel
  go_wp2_with fail
  refine Calls.mono HT.out ?_
  rintro x w2 ⟨sh, us, rfl, o2, wu, ku, hv, hg2⟩
  have hg3 := grown_trans hg1 hg2
  have hb2 : Below base w1 w2 := (Below.refl _ _).grown hg2 (by omega) (fun k hk => by simp at hk; omega)
  have sb2 := segTo_bounds wu i (e + 3)
  rw [show e + 2 + 1 = e + 3 from rfl] at hv
  obtain ⟨vd, vd0, sb, hpw⟩ := HF.out
  have ha := HA.out
  have hb := HBB.out
  cases sh with
  | false =>
    rw [if_neg (by decide)] at hv
    have hlt : segTo us i (e + 3) < val ds := by omega
    have HV : Hid (segTo us i (e + 3) = segTo ys i (e + 3) - q * val ds) := by show _ = _; omega
    have HLT := hid hlt
    clear hv sb sb2 hpw vd vd0 ha hb hlt HT
    go_wp2_with fail
    go_ret
    exact ⟨q, us, rfl, q0, q1, o2, wu, ku, HV.out, HLT.out, hg3⟩
  | true =>
    rw [if_pos rfl] at hv
    have hq1 : 1 ≤ q := by
      by_cases c : q = 0
      · rw [c] at hv; simp at hv; omega
      · omega
    have hbs := hbel'.size
    have HB := hid (giveBack_any base g N i (e + 2) _ us b cap' ds w2 o2 wu him rfl hN (r1.later hb2 (Nat.le_refl _)) (by omega))
    have HV := hid hv
    clear hv o2 ha hb HT vd vd0 sb hpw sb2
    go_wp2_with fail
    refine Calls.mono HB.out ?_
    rintro x w3 ⟨c, zs, rfl, o3, wz, hc, kz, hvz, hg4⟩
    have sb2 := segTo_bounds wu i (e + 3)
    have sb3 := segTo_bounds wz i (e + 3)
    obtain ⟨vd, vd0, sb, hpw⟩ := HF.out
    rw [show e + 2 + 1 = e + 3 from rfl] at hvz
    have e1 : (q - 1) * val ds = q * val ds - val ds := by rw [Int.sub_mul, Int.one_mul]
    have hc1 : c = 1 := by
      rcases hc with hc | hc
      · rw [hc] at hvz
        have := HV.out
        have := HBB.out
        simp at hvz
        omega
      · exact hc
    rw [hc1, Int.one_mul] at hvz
    have HV2 : Hid (segTo zs i (e + 3) = segTo ys i (e + 3) - (q - 1) * val ds) := by show _ = _; rw [e1]; have := HV.out; omega
    have HLT : Hid (segTo zs i (e + 3) < val ds) := by show _ < _; have := HV.out; have := HA.out; have := HBB.out; omega
    have HO3 := hid o3
    have HKZ : Hid (∀ j, j < i ∨ i + (e + 2) + 1 ≤ j → zs[j]?.getD 0 = ys[j]?.getD 0) := fun j hj => by rw [kz j hj]; exact ku j hj
    have hg5 := grown_trans hg3 hg4
    have hqq : IntKind.u32.wrap (q - 1) = q - 1 := by rw [IntKind.wrap_u32]; omega
    clear hvz o3 kz ku e1 hg4 hg3 HB sb sb2 sb3 hpw vd vd0
    go_wp2_with fail
    go_ret
    exact ⟨q - 1, zs, rfl, by omega, by omega, HO3.out, wz, HKZ.out, HV2.out, HLT.out, hg5⟩
end Go.Proofs.YtomdkingdniohaaGreatDoor

/- nat.Shift: of every list that can be read and every number the list moved up or down, or the error, in new memory. -/
namespace Go.Proofs.YtomdkingdniohaaGreatDoor
open Go.RowKit
set_option linter.unusedVariables false

theorem pw_two (k : Nat) : (4294967296 : Int) ^ k = 2 ^ (32 * k) := by
  rw [Int.pow_mul]; rfl
theorem pw_two_le {K e : Nat} (h : 32 * K ≤ e) : (4294967296 : Int) ^ K ≤ 2 ^ e := by rw [pw_two]; exact two_le h
theorem bitLen_bounds (x : Int) (h0 : 1 ≤ x) (h1 : x ≤ 4294967295) : 1 ≤ Lib.bitLen x.toNat ∧ (2 : Int) ^ (Lib.bitLen x.toNat - 1) ≤ x ∧ x < 2 ^ Lib.bitLen x.toNat := by
  obtain ⟨a, b, c⟩ := Lib.bitLenAux_bounds 64 x.toNat (by omega) (by omega)
  refine ⟨a, ?_, ?_⟩
  · have := Int.ofNat_le.2 b
    rw [Int.natCast_pow, Int.toNat_of_nonneg (by omega)] at this
    exact this
  · have := Int.ofNat_lt.2 c
    rw [Int.natCast_pow, Int.toNat_of_nonneg (by omega)] at this
    exact this
theorem bits_bounds {xs : List Int} (hw : Wd xs) (hp : 0 < sz xs) : 1 ≤ bitsOf xs ∧ (2 : Int) ^ (bitsOf xs - 1) ≤ val xs ∧ val xs < 2 ^ bitsOf xs ∧ bitsOf xs ≤ 32 * sz xs ∧ 32 * (sz xs - 1) < bitsOf xs := by
  obtain ⟨m, hm⟩ : ∃ m, sz xs = m + 1 := ⟨sz xs - 1, by omega⟩
  have ht := sz_top xs hp
  have hb := hw.at m
  have h32 := bitLen_le32 (xs[m]?.getD 0) hb.2
  rw [hm, Nat.add_sub_cancel] at ht
  obtain ⟨b1, b2, b3⟩ := bitLen_bounds (xs[m]?.getD 0) (by omega) hb.2
  have e : bitsOf xs = m * 32 + Lib.bitLen (xs[m]?.getD 0).toNat := by unfold bitsOf; rw [hm, if_neg (by omega), Nat.add_sub_cancel]
  have hv : val xs = valTo xs m + xs[m]?.getD 0 * 4294967296 ^ m := by rw [val_sz, hm, valTo_succ]
  have vb := valTo_bounds hw m
  rw [e, hv]
  generalize Lib.bitLen (xs[m]?.getD 0).toNat = L at *
  have hpw := pw_pos m
  refine ⟨by omega, ?_, ?_, by omega, by omega⟩
  · have e1 : (2 : Int) ^ (m * 32 + L - 1) = 2 ^ (L - 1) * 4294967296 ^ m := by rw [pw_two, ← Int.pow_add]; congr 1; omega
    have e2 : (2 : Int) ^ (L - 1) * 4294967296 ^ m ≤ xs[m]?.getD 0 * 4294967296 ^ m := Int.mul_le_mul_of_nonneg_right b2 (Int.le_of_lt hpw)
    rw [e1]; omega
  · have e1 : (2 : Int) ^ (m * 32 + L) = 2 ^ L * 4294967296 ^ m := by rw [pw_two, ← Int.pow_add]; congr 1; omega
    have e2 : (xs[m]?.getD 0 + 1) * 4294967296 ^ m ≤ (2 : Int) ^ L * 4294967296 ^ m := Int.mul_le_mul_of_nonneg_right (by omega) (Int.le_of_lt hpw)
    rw [Int.add_mul] at e2
    rw [e1]; omega

end Go.Proofs.YtomdkingdniohaaGreatDoor

/- nat.divideLong: quotient and rest by two words or more, in new memory. -/
namespace Go.Proofs.YtomdkingdniohaaGreatDoor
open Go.RowKit
set_option linter.unusedVariables false

theorem lead_any (x : Int) (w : World) (h0 : 1 ≤ x) (h1 : x ≤ 4294967295) :
    Calls Tryz.prog 79 #[.int .u32 x] w fun e w' => e = .returned (.int .i64 ((32 - Lib.bitLen x.toNat : Nat) : Int)) ∧ w = w' := by
  have h2 := bitLen_le32 x h1
  have HL := hid (len32_any x w (by omega) h1)
  obtain ⟨L, hL⟩ : ∃ L, Lib.bitLen x.toNat = L := ⟨_, rfl⟩
  rw [hL] at HL h2 ⊢
  clear hL
  go_enter Tryz.func79, Tryz.ntmps79
  go_wp2_with fail
  refine Calls.mono HL.out ?_
  rintro e w' ⟨rfl, rfl⟩
  go_wp2_with fail
  go_ret
  exact ⟨ret_int (by omega), rfl⟩

theorem raise_zero (a : Option Addr) (n cap : Nat) (xs : List Int) (t : Nat) (w : World) (h : Reads w w.heap.size a n cap xs) (hn : n ≤ 274877906944) (hn0 : 0 < n) (ht : t ≤ 31) :
    Calls Tryz.prog 88 #[.slice a n cap, .int .i64 0, .int .i64 t] w fun e w' => ∃ (ys : List Int), e = .returned (.slice (some ⟨w.heap.size, 0, none⟩) (n + 1) (n + 1)) ∧ OwnW w' w.heap.size w.heap.size (n + 1) ys ∧ Wd ys ∧ val ys = val xs * 2 ^ t ∧ Below w.heap.size w w' := by
  refine Calls.mono (raise_any a n cap xs 0 t w h hn hn0 (by omega) ht) ?_
  rintro e w' ⟨ys, rfl, oy, wy, hv, hb⟩
  exact ⟨ys, rfl, oy, wy, by rw [hv, Int.pow_zero, Int.mul_one], hb⟩
theorem lower_zero (a : Option Addr) (n cap : Nat) (xs : List Int) (t : Nat) (w : World) (h : Reads w w.heap.size a n cap xs) (hn : n ≤ 274877906944) (hn0 : 0 < n) (ht : t ≤ 31) :
    Calls Tryz.prog 90 #[.slice a n cap, .int .i64 0, .int .i64 t] w fun e w' => ∃ (ys : List Int), e = .returned (.slice (some ⟨w.heap.size, 0, none⟩) n n) ∧ OwnW w' w.heap.size w.heap.size n ys ∧ Wd ys ∧ val ys = val xs / 2 ^ t ∧ Below w.heap.size w w' := by
  refine Calls.mono (lower_any a n cap xs 0 t w h hn hn0 ht) ?_
  rintro e w' ⟨ys, rfl, oy, wy, hv, hb⟩
  exact ⟨ys, rfl, oy, wy, by rw [hv, Int.pow_zero, Int.ediv_one], hb⟩

/-- The divisor, moved up until its highest bit is set. -/
theorem normal {ys : List Int} (hw : Wd ys) (ht : Trimmed ys) (e : Nat) (hl : ys.length = e + 2) : 1 ≤ ys[e + 1]?.getD 0 ∧ ys[e + 1]?.getD 0 ≤ 4294967295 ∧ 32 - Lib.bitLen (ys[e + 1]?.getD 0).toNat ≤ 31 ∧
    val ys * 2 ^ (32 - Lib.bitLen (ys[e + 1]?.getD 0).toNat) < 4294967296 ^ (e + 2) ∧ (4294967296 : Int) ^ (e + 2) ≤ 2 * (val ys * 2 ^ (32 - Lib.bitLen (ys[e + 1]?.getD 0).toNat)) := by
  have hs : sz ys = e + 2 := by rw [ht]; exact hl
  have tp := sz_top ys (by omega)
  rw [hs, show e + 2 - 1 = e + 1 by omega] at tp
  have b := hw.at (e + 1)
  obtain ⟨l1, l2, l3⟩ := bitLen_bounds (ys[e + 1]?.getD 0) (by omega) b.2
  have l4 := bitLen_le32 (ys[e + 1]?.getD 0) b.2
  obtain ⟨b1, b2, b3, b4, b5⟩ := bits_bounds hw (by omega)
  have hb : bitsOf ys = (e + 1) * 32 + Lib.bitLen (ys[e + 1]?.getD 0).toNat := by unfold bitsOf; rw [hs, if_neg (by omega), show e + 2 - 1 = e + 1 by omega]
  rw [hb] at b1 b2 b3
  generalize Lib.bitLen (ys[e + 1]?.getD 0).toNat = L at *
  have p := two_pos (32 - L)
  refine ⟨by omega, b.2, by omega, ?_, ?_⟩
  · have e1 : val ys * 2 ^ (32 - L) < 2 ^ ((e + 1) * 32 + L) * 2 ^ (32 - L) := Int.mul_lt_mul_of_pos_right b3 p
    rw [← Int.pow_add] at e1
    rw [pw_two, show 32 * (e + 2) = (e + 1) * 32 + L + (32 - L) by omega]
    exact e1
  · have e1 : (2 : Int) ^ ((e + 1) * 32 + L - 1) * 2 ^ (32 - L) ≤ val ys * 2 ^ (32 - L) := Int.mul_le_mul_of_nonneg_right b2 (Int.le_of_lt p)
    rw [← Int.pow_add] at e1
    have e2 : (2 : Int) ^ (32 * (e + 2)) = 2 * 2 ^ ((e + 1) * 32 + L - 1 + (32 - L)) := by
      rw [show 32 * (e + 2) = ((e + 1) * 32 + L - 1 + (32 - L)) + 1 by omega, Int.pow_succ, Int.mul_comm]
    rw [pw_two, e2]
    omega
theorem top_nought {ds : List Int} (hw : Wd ds) (m : Nat) (hl : ds.length = m + 1) (h : val ds < 4294967296 ^ m) : val (ds.take m) = val ds := by
  have e : val ds = valTo ds m + ds[m]?.getD 0 * 4294967296 ^ m := by unfold val; rw [hl, valTo_succ]
  have b := (valTo_bounds hw m).1
  have hz : ds[m]?.getD 0 = 0 := by
    have hb := hw.at m
    by_cases c : ds[m]?.getD 0 = 0
    · exact c
    · have : 1 * (4294967296 : Int) ^ m ≤ ds[m]?.getD 0 * 4294967296 ^ m := Int.mul_le_mul_of_nonneg_right (by omega) (Int.le_of_lt (pw_pos m))
      omega
  rw [e, hz]
  unfold val
  rw [List.length_take, hl, Nat.min_eq_left (by omega), valTo_congr (ds.take m) ds m (fun j hj => by rw [List.getElem?_take, if_pos hj])]
  omega
theorem top_one {ds : List Int} (hw : Wd ds) (e : Nat) (hl : ds.length = e + 2) (h : (4294967296 : Int) ^ (e + 2) ≤ 2 * val ds) : 1 ≤ ds[e + 1]?.getD 0 := by
  have hb := hw.at (e + 1)
  by_cases c : ds[e + 1]?.getD 0 = 0
  · have e1 : val ds = valTo ds (e + 1) + ds[e + 1]?.getD 0 * 4294967296 ^ (e + 1) := by unfold val; rw [hl, valTo_succ]
    rw [c] at e1
    have b := (valTo_bounds hw (e + 1)).2
    have := pw_succ (e + 1)
    have hp := pw_pos (e + 1)
    rw [show e + 2 = e + 1 + 1 from rfl] at h
    omega
  · omega
/-- The number, moved up by as many bits, is below the divisor moved up by all words that the quotient may have. -/
theorem long_start (A D : Int) (n m K : Nat) (X : Int) (t : Nat) (ht : t ≤ 31) (hn : m + K = n + 1) (hX : X < 4294967296 ^ n) (hX0 : 0 ≤ X) (hA : A = X * 2 ^ t) (hD : (4294967296 : Int) ^ m ≤ 2 * D) : A < D * 4294967296 ^ K := by
  have p := two_pos t
  have e1 : X * 2 ^ t < 4294967296 ^ n * 2 ^ t := Int.mul_lt_mul_of_pos_right hX p
  have e2 : (4294967296 : Int) ^ n * 2 ^ t ≤ 4294967296 ^ n * 2 ^ 31 := Int.mul_le_mul_of_nonneg_left (two_le ht) (Int.le_of_lt (pw_pos n))
  have e3 : (4294967296 : Int) ^ m * 4294967296 ^ K ≤ 2 * D * 4294967296 ^ K := Int.mul_le_mul_of_nonneg_right hD (Int.le_of_lt (pw_pos K))
  rw [← Int.pow_add, hn, pw_succ, Int.mul_assoc] at e3
  rw [hA]
  omega
/-- One word of the quotient: what is left, and what was taken. -/
theorem long_step (us vs qs : List Int) (m K k : Nat) (A D q : Int) (hk : k < K) (hlq : qs.length = K) (wv : Wd vs) (hDm : D < 4294967296 ^ m)
    (hA : A = valTo us (k + 1 + m) + segTo qs (k + 1) (K - (k + 1)) * D * 4294967296 ^ (k + 1))
    (hlow : ∀ j, j < k → vs[j]?.getD 0 = us[j]?.getD 0) (hseg : segTo vs k (m + 1) = segTo us k (m + 1) - q * D) (hlt : segTo vs k (m + 1) < D) :
    A = valTo vs (k + m) + segTo (qs.set k q) k (K - k) * D * 4294967296 ^ k ∧ segTo vs k m < D := by
  have hz : vs[k + m]?.getD 0 = 0 := by
    have hb := wv.at (k + m)
    have sb := segTo_nonneg wv k m
    by_cases c : vs[k + m]?.getD 0 = 0
    · exact c
    · have : 1 * (4294967296 : Int) ^ m ≤ vs[k + m]?.getD 0 * 4294967296 ^ m := Int.mul_le_mul_of_nonneg_right (by omega) (Int.le_of_lt (pw_pos m))
      rw [segTo_succ] at hlt
      omega
  have hs : segTo vs k (m + 1) = segTo vs k m := by rw [segTo_succ, hz]; omega
  refine ⟨?_, by rw [← hs]; exact hlt⟩
  obtain ⟨d, hd⟩ : ∃ d, K - k = d + 1 := ⟨K - k - 1, by omega⟩
  rw [show k + 1 + m = k + (m + 1) by omega, valTo_seg us k (m + 1), show K - (k + 1) = d by omega, pw_succ k] at hA
  rw [valTo_seg vs k m, ← hs, hseg, hd, segTo_cons (qs.set k q) d k, List.getElem?_set, if_pos rfl, if_pos (by omega), segTo_congr (qs.set k q) qs (k + 1) d (fun j hj => by rw [List.getElem?_set, if_neg (by omega)]),
    valTo_congr vs us k hlow, hA]
  show _ = valTo us k + (segTo us k (m + 1) - q * D) * 4294967296 ^ k + (q + _) * D * 4294967296 ^ k
  rw [Int.sub_mul, Int.add_mul, Int.add_mul, Int.mul_comm (4294967296 ^ k) 4294967296, ← Int.mul_assoc, Int.mul_assoc (segTo qs (k + 1) d) D 4294967296, Int.mul_comm D 4294967296, ← Int.mul_assoc]
  omega
end Go.Proofs.YtomdkingdniohaaGreatDoor

/- nat.divideLong: quotient and rest by two words or more, in new memory. -/
namespace Go.Proofs.YtomdkingdniohaaGreatDoor
open Go.RowKit
set_option linter.unusedVariables false

set_option maxHeartbeats 800000 in
set_option maxRecDepth 100000 in
theorem divideLong_any (v u : Value) (xs ys : List Int) (e : Nat) (w : World) (h : Sl w v xs) (g : Sl w u ys) (hn : xs.length ≤ 8192) (hx : Trimmed xs) (hy : Trimmed ys) (hl : ys.length = e + 2) (hge : ys.length ≤ xs.length) :
    Calls Tryz.prog 78 #[v, u] w (Divided w xs ys) := by
  obtain ⟨i0, hi, hz0, hz1, hz2⟩ := info_parts Tryz.infoW
  have wx := h.wd
  have wy := g.wd
  obtain ⟨a, cap, rfl, hr⟩ := h
  obtain ⟨b, cap', rfl, gr⟩ := g
  obtain ⟨n, hnn⟩ : ∃ n, xs.length = n := ⟨_, rfl⟩
  rw [hl] at gr hge ⊢
  rw [hnn] at hr hn hge ⊢
  obtain ⟨K, hK⟩ : ∃ K, e + 2 + K = n + 1 := ⟨n + 1 - (e + 2), by omega⟩
  obtain ⟨s1, s2, s3, s4, s5⟩ := normal wy hy e hl
  obtain ⟨t, ht⟩ : ∃ t, 32 - Lib.bitLen (ys[e + 1]?.getD 0).toNat = t := ⟨_, rfl⟩
  have HLD := hid (lead_any (ys[e + 1]?.getD 0) w s1 s2)
  rw [ht] at s3 s4 s5 HLD
  have HR1 := hid (raise_zero b (e + 2) cap' ys t w gr (by omega) (by omega) s3)
  rcases gr.2.2.1 with h0 | ⟨b2, o2, rfl, hb2, hc2⟩
  · omega
  have hc0 := hc2 (e + 1) (by omega)
  have HX := hid hr
  have HN := hid (And.intro hnn hl)
  have HS4 := hid s4
  have HS5 := hid s5
  generalize ys[e + 1]?.getD 0 = top at *
  clear hc2 gr hr hnn hl s4 s5 ht
  go_enter Tryz.func78, Tryz.ntmps78
  go_wp2_with fail
  refine Calls.mono HLD.out ?_
  rintro x w' ⟨rfl, rfl⟩
  go_wp2_with fail
  refine Calls.mono HR1.out ?_
  rintro x w1 ⟨dF, rfl, oF, wF, hvF, hb1⟩
  have hlF := oF.len
  have hvd : val (dF.take (e + 2)) = val ys * 2 ^ t := by rw [top_nought wF (e + 2) (by omega) (by rw [hvF]; exact HS4.out), hvF]
  have oD : OwnC w1 w.heap.size w.heap.size (e + 2) (e + 2 + 1) (dF.take (e + 2)) := OwnC.take (cap := e + 2 + 1) oF (e + 2) (by omega)
  have wD : Wd (dF.take (e + 2)) := wF.take _
  have lD : (dF.take (e + 2)).length = e + 2 := by rw [List.length_take]; omega
  generalize dF.take (e + 2) = ds at *
  have hg1 := oF.base
  have hs1 := hb1.size
  have hrD : Reads w1 w1.heap.size (some ⟨w.heap.size, 0, none⟩) (e + 2) (e + 2 + 1) ds := by
    obtain ⟨a, cap, hv, hr⟩ := Reads.own oD wD
    simp only [Value.slice.injEq] at hv
    obtain ⟨rfl, _, rfl⟩ := hv
    exact hr
  have HR2 := hid (raise_zero a n cap xs t w1 (HX.out.later hb1 hs1) (by omega) (by omega) s3)
  have HVD := hid hvd
  have HRD := hid hrD
  have HLDS := hid lD
  have HB1 := hid hb1
  clear oF wF hvF hlF hvd oD hrD lD hb1 HLD HR1 HX
  go_wp2_with fail
  refine Calls.mono HR2.out ?_
  rintro x w2 ⟨lf, rfl, oL, wL, hvL, hb2'⟩
  have hs2 := hb2'.size
  have hgL := oL.base
  have HVL := hid hvL
  have HOL := hid oL
  have HB2 := hid hb2'
  have hKi : ((n : Int) - ((e : Int) + 2) + 1) = (K : Int) := by omega
  clear hvL oL hb2' HR2
  go_wp2_with (at_make; refine wpList_make_full _ rfl _ _ 23 rfl w2.heap.size 42 i0 (.int .u32 0) 1 Tryz.underlying23 hi hz0 hz1 _ _ _ _ K rfl rfl (by omega) (by omega) (by rw [hz2]; omega) (by unfold maxLen; omega) (Nat.le_refl _) ?_)
  intro w3 hown hgrow
  have hbel3 : Below w2.heap.size w2 w3 := (Below.refl _ _).grown hgrow (Nat.le_refl _) (fun k hk => by simp at hk)
  have hs3 := hbel3.size
  have HOQ := hid (OwnW.made hown)
  have HB3 := hid hbel3
  have hgQ := (OwnW.made hown).base
  clear hown hgrow hbel3
  go_wp2_with fail
  go_loopw [9] (fun z wr => ∃ (k : Nat) (us qs : List Int), k ≤ K ∧ z = .int .i64 ((k : Int) - 1) ∧ Wd us ∧ Wd qs ∧ Hid (val lf = valTo us (k + (e + 2)) + segTo qs k (K - k) * val ds * 4294967296 ^ k) ∧ Hid (segTo us k (e + 2) < val ds) ∧
    OwnW wr w1.heap.size w1.heap.size (n + 1) us ∧ OwnW wr w2.heap.size w2.heap.size K qs ∧ Below w1.heap.size w1 wr) (fun z _ => (intOf z + 1).toNat)
  case atStart =>
    have hll := HOL.out.len
    have hKm : K + (e + 2) = n + 1 := by omega
    have hst := long_start (val lf) (val ds) n (e + 2) K (val xs) t s3 hK (by have := val_lt wx; rw [HN.out.1] at this; exact this) (val_nonneg wx) HVL.out (by rw [HVD.out]; exact HS5.out)
    refine ⟨K, lf, List.replicate K 0, Nat.le_refl _, rfl, wL, Wd.replicate _, ?_, ?_, owns_later HOL.out HB3.out, HOQ.out, HB2.out.trans (HB3.out.mono hs2)⟩
    · show _ = _
      rw [hKm, valTo_stable lf _ (by omega), Nat.sub_self]
      simp [segTo]
    · show _ < _
      have e1 : val lf = valTo lf K + segTo lf K (e + 2) * 4294967296 ^ K := by rw [← valTo_seg, hKm, valTo_stable lf _ (by omega)]
      have b := (valTo_bounds wL K).1
      exact Int.lt_of_mul_lt_mul_right (show segTo lf K (e + 2) * 4294967296 ^ K < val ds * 4294967296 ^ K by omega) (Int.le_of_lt (pw_pos K))
  case round =>
    obtain ⟨k, us, qs, hk, rfl, wu, wq, HV, HS, oU, oQ, hb⟩ := hrel
    have hbs := hb.size
    have hqb := oQ.base
    rcases k with _ | k
    · have oT : OwnC wr w1.heap.size w1.heap.size (e + 2) (n + 1) (us.take (e + 2)) := OwnC.take (cap := n + 1) oU (e + 2) (by omega)
      have hrT : Reads wr wr.heap.size (some ⟨w1.heap.size, 0, none⟩) (e + 2) (n + 1) (us.take (e + 2)) := by
        obtain ⟨a, cap, hv, hr⟩ := Reads.own oT (wu.take _)
        simp only [Value.slice.injEq] at hv
        obtain ⟨rfl, _, rfl⟩ := hv
        exact hr
      have hlu := oU.len
      have hlq := oQ.len
      have hvR : val (us.take (e + 2)) = valTo us (e + 2) := by
        unfold val
        rw [List.length_take, Nat.min_eq_left (by omega), valTo_congr (us.take (e + 2)) us _ (fun j hj => by rw [List.getElem?_take, if_pos hj])]
      have HF : Hid (val xs = val qs * val ys + val (us.take (e + 2)) / 2 ^ t ∧ val (us.take (e + 2)) / 2 ^ t < val ys) := by
        have e1 := HV.out
        have e2 := HS.out
        rw [segTo_zero] at e2
        rw [segTo_zero, Nat.zero_add, Nat.sub_zero, valTo_stable qs K (by omega), Int.pow_zero, Int.mul_one, HVL.out, HVD.out, ← hvR, ← Int.mul_assoc] at e1
        rw [← hvR, HVD.out] at e2
        have hp := two_pos t
        have e3 : val (us.take (e + 2)) = (val xs - val qs * val ys) * 2 ^ t := by rw [Int.sub_mul]; omega
        have e4 : val (us.take (e + 2)) / 2 ^ t = val xs - val qs * val ys := by rw [e3]; exact Int.mul_ediv_cancel _ (by omega)
        refine ⟨by rw [e4]; omega, Int.ediv_lt_of_lt_mul hp e2⟩
      have HLW := hid (lower_zero (some ⟨w1.heap.size, 0, none⟩) (e + 2) (n + 1) (us.take (e + 2)) t wr hrT (by omega) (by omega) s3)
      have HOQ' := hid oQ
      have HBW : Hid (Below w.heap.size w wr) := HB1.out.trans (hb.mono hs1)
      clear oT hrT hvR hlu HV HS oU oQ hb
      go_wp2_with fail
      refine Calls.mono HLW.out ?_
      rintro x w5 ⟨rs, rfl, oR, wR, hvR, hb5⟩
      have hs5 := hb5.size
      have oQ5 : OwnC w5 w2.heap.size w2.heap.size K K qs := owns_later HOQ'.out hb5
      have sq := sz_le qs
      rw [hlq] at sq
      have hlr := oR.len
      have sr := sz_le rs
      rw [hlr] at sr
      have hrQ : Reads w5.drew w5.heap.size (some ⟨w2.heap.size, 0, none⟩) K K qs := by
        obtain ⟨a, cap, hv, hr⟩ := Reads.own oQ5 wq
        simp only [Value.slice.injEq] at hv
        obtain ⟨rfl, _, rfl⟩ := hv
        exact hr
      have hrR : Reads w5.drew w5.heap.size (some ⟨wr.heap.size, 0, none⟩) (e + 2) (e + 2) rs := by
        obtain ⟨a, cap, hv, hr⟩ := Reads.own oR wR
        simp only [Value.slice.injEq] at hv
        obtain ⟨rfl, _, rfl⟩ := hv
        exact hr
      have HZ1 := hid (size_any _ _ _ qs _ w5.drew hrQ (by omega))
      have HZ2 := hid (size_any _ _ _ rs _ w5.drew hrR (by omega))
      have hbR := oR.base
      have HFIN : Hid (Divided w xs ys (.returned (.tuple #[.slice (some ⟨w2.heap.size, 0, none⟩) (sz qs) K, .slice (some ⟨wr.heap.size, 0, none⟩) (sz rs) (e + 2)])) w5.drew) := by
        have hbd : Below w5.heap.size w5 w5.drew := (Below.refl _ w5).drew
        refine ⟨_, _, trimmed qs, trimmed rs, wr.heap.size, rfl, ?_, ?_, ?_, ?_, by omega, by show wr.heap.size ≤ w5.heap.size; omega, wq.trimmed, wR.trimmed, Trimmed.trimmed _, Trimmed.trimmed _, ?_, ?_, HBW.out.trans ((hb5.mono (by omega)).trans (hbd.mono (by omega)))⟩
        · rw [length_trimmed]
          have o1 : w5.ownsRow w2.heap.size 42 1 (.slice (some ⟨w2.heap.size, 0, none⟩) (sz qs) K) (sz qs) ((trimmed qs).map (Value.int .u32)) := OwnC.take oQ5 (sz qs) sq
          exact owns_base (owns_later o1 hbd) (by omega)
        · rw [length_trimmed]
          have o1 : w5.ownsRow wr.heap.size 42 1 (.slice (some ⟨wr.heap.size, 0, none⟩) (sz rs) (e + 2)) (sz rs) ((trimmed rs).map (Value.int .u32)) := OwnC.take (cap := e + 2) oR (sz rs) sr
          exact owns_base (owns_later o1 hbd) (by omega)
        · intro g hg; simp [Value.ownBlock] at hg; omega
        · intro g hg; simp [Value.ownBlock] at hg; show _ ∧ g < w5.heap.size; omega
        · rw [val_trimmed, val_trimmed, hvR]; exact HF.out.1
        · rw [val_trimmed, hvR]; exact HF.out.2
      clear oR oQ5 hrQ hrR hvR hb5 hlr hlq HF HLW
      go_wp2_with fail
      go_region_with (first | (go_at_call 48; with_reducible refine Calls.mono HZ1.out ?_; rintro e w' ⟨rfl, rfl⟩) | (go_at_call 48; with_reducible refine Calls.mono HZ2.out ?_; rintro e w' ⟨rfl, rfl⟩))
      all_goals
        go_wp2
        go_ret2
        exact HFIN.out
    · have ek : (((k + 1 : Nat) : Int) - 1) = (k : Int) := by omega
      rw [ek]
      clear ek
      have bu := wu.at k
      have hseg : segTo us k (e + 3) = us[k]?.getD 0 + segTo us (k + 1) (e + 2) * 4294967296 := segTo_cons us (e + 2) k
      have hLD : segTo us k (e + 3) < 4294967296 * val ds := by rw [hseg]; have := HS.out; omega
      have HNW := hid (nextWord_any w1.heap.size w1.heap.size (n + 1) k e _ us (some ⟨w.heap.size, 0, none⟩) (e + 2 + 1) ds wr oU wu (by omega) rfl (by omega) (HRD.out.later hb (Nat.le_refl _)) (top_one wD e HLDS.out (by rw [HVD.out]; exact HS5.out)) hLD)
      have HOQ' := hid oQ
      have HB' := hid hb
      have hne : ¬ n + 1 = k := by omega
      clear hLD hseg bu oU oQ hb
      go_wp2_with fail
      rw [show k + (e + 2) + 1 - k = e + 2 + 1 by omega]
      refine Calls.mono HNW.out ?_
      rintro x w6 ⟨q, vs, rfl, q0, q1, oV, wv, kv, hsv, hlv, hg6⟩
      have oQ6 : OwnW w6 w2.heap.size w2.heap.size K qs := World.ownsRow.kept HOQ'.out hg6 (by right; intro e; simp [Value.ownBlock] at e; omega)
      have y1 := oQ6.cell k (by omega)
      have f1 := oQ6.free k
      have hlq := oQ6.len
      have hsv' : segTo vs k (e + 2 + 1) = segTo us k (e + 2 + 1) - q * val ds := hsv
      have hlv' : segTo vs k (e + 2 + 1) < val ds := hlv
      have hst := long_step us vs qs (e + 2) K k (val lf) (val ds) q (by omega) hlq wv (by rw [HVD.out]; exact HS4.out) HV.out (fun j hj => kv j (.inl hj)) hsv' hlv'
      have HST1 := hid hst.1
      have HST2 := hid hst.2
      have hos := OwnC.set (cap := K) oQ6 k q
      have HOQ2 : Hid (OwnW (w6.setCell ⟨w2.heap.size, k, none⟩ (.int .u32 q)) w2.heap.size w2.heap.size K (qs.set k q)) := hos.1
      have HOU : Hid (OwnW (w6.setCell ⟨w2.heap.size, k, none⟩ (.int .u32 q)) w1.heap.size w1.heap.size (n + 1) vs) := World.ownsRow.kept oV hos.2 (by right; intro e; simp [Value.ownBlock] at e; omega)
      have hb6 : Below w1.heap.size wr w6 := (Below.refl _ _).grown hg6 hbs (fun k hk => by simp at hk; omega)
      have HB6 : Hid (Below w1.heap.size w1 (w6.setCell ⟨w2.heap.size, k, none⟩ (.int .u32 q))) := (HB'.out.trans hb6).setCell (p := ⟨w2.heap.size, k, none⟩) hs2 (.int .u32 q)
      clear oQ6 hlq hsv hlv hsv' hlv' hst hos hb6 hg6 oV kv HNW HOQ' HB' HV HS
      go_wp2_with fail
      go_roundw
      case rel => exact ⟨k, vs, qs.set k q, by omega, by go_num, wv, wq.set _ ⟨q0, q1⟩, HST1, HST2, HOU.out, HOQ2.out, HB6.out⟩
      case measure => simp [intOf]
end Go.Proofs.YtomdkingdniohaaGreatDoor

/- nat.divide, nat.DivMod: of every two numbers quotient and rest, in new memory; nat.Shift by any number. -/
namespace Go.Proofs.YtomdkingdniohaaGreatDoor
open Go.RowKit
set_option linter.unusedVariables false

theorem len_le_of_val {xs ys : List Int} (wx : Wd xs) (wy : Wd ys) (ty : Trimmed ys) (h : val ys ≤ val xs) : ys.length ≤ xs.length := len_of_lt wy ty (by have := val_lt wx; omega)

set_option maxHeartbeats 800000 in
set_option maxRecDepth 100000 in
theorem divide_long (v u : Value) (xs ys : List Int) (e : Nat) (w : World) (h : Sl w v xs) (g : Sl w u ys) (hn : xs.length ≤ 8192) (hx : Trimmed xs) (hy : Trimmed ys) (hl : ys.length = e + 2) (hge : val ys ≤ val xs) :
    Calls Tryz.prog 63 #[v, u] w (Divided w xs ys) := by
  have hle := len_le_of_val h.wd g.wd hy hge
  have hci : 0 ≤ cmpI (val xs) (val ys) := by unfold cmpI; rw [if_neg (by omega)]; split <;> omega
  have CC := hid (compare_sl v u xs ys w h g (by omega) (by omega))
  obtain ⟨c, hc⟩ : ∃ c, cmpI (val xs) (val ys) = c := ⟨_, rfl⟩
  rw [hc] at CC hci
  have HD : Hid (∀ w1, Below w.heap.size w w1 → Calls Tryz.prog 78 #[v, u] w1 (Divided w1 xs ys)) := fun w1 hb => divideLong_any v u xs ys e w1 (h.later hb) (g.later hb) hn hx hy hl hle
  obtain ⟨b, cap', rfl, gr⟩ := g
  have h1 : ((ys.length : Int) == 1) = false := by simp; omega
  clear hc gr h hl hge
  go_enter Tryz.func63, Tryz.ntmps63
  go_wp2_with fail
  refine Calls.mono CC.out ?_
  rintro x w1 ⟨rfl, hb1⟩
  have HDD := hid (HD.out w1 hb1)
  have hs1 := hb1.size
  go_wp2_with fail
  refine Calls.mono HDD.out ?_
  rintro x w2 ⟨v1, u1, q, r, c, rfl, oq, orr, lq, lr, c1, c2, wq, wr, tq, tr, hv, hlt, hb2⟩
  have HF : Hid (Divided w xs ys (.returned (.tuple #[v1, u1])) w2) := ⟨v1, u1, q, r, c, rfl, owns_base oq hs1, owns_base orr hs1, fun g hg => by have := lq g hg; omega, lr, by omega, c2, wq, wr, tq, tr, hv, hlt, hb1.trans (hb2.mono hs1)⟩
  clear oq orr hv hlt hb2 HDD
  go_wp2_with fail
  go_ret2
  exact HF.out

theorem divide_any (v u : Value) (xs ys : List Int) (w : World) (h : Sl w v xs) (g : Sl w u ys) (hn : xs.length ≤ 8192) (hm : ys.length ≤ 8192) (hx : Trimmed xs) (hy : Trimmed ys) (h0 : 0 < ys.length) :
    Calls Tryz.prog 63 #[v, u] w (Divided w xs ys) := by
  by_cases hlt : val xs < val ys
  · exact divide_less v u xs ys w h g hn hm hlt
  · by_cases h1 : ys.length = 1
    · obtain ⟨y, rfl⟩ := List.length_eq_one_iff.1 h1
      have hy1 : 1 ≤ y := by
        have b := g.wd.head
        by_cases c : y = 0
        · rw [c] at hy; simp [Trimmed, sz, szTo] at hy
        · omega
      exact divide_word v u xs y w h g hn hx hy1 (by rw [val_one] at hlt; omega)
    · exact divide_long v u xs ys (ys.length - 2) w h g hn hx hy (by omega) (by omega)

set_option maxHeartbeats 800000 in
set_option maxRecDepth 100000 in
theorem divMod_any (v u : Value) (xs ys : List Int) (w : World) (h : Sl w v xs) (g : Sl w u ys) (lx : xs.length ≤ 8192) (ly : ys.length ≤ 8192) (tx : Trimmed xs) (ty : Trimmed ys) (h0 : 0 < ys.length) :
    Calls Tryz.prog 42 #[v, u] w fun e w' => ∃ v1 u1 q r, e = .returned (.tuple #[v1, u1, .int .i64 0]) ∧ Sl w' v1 q ∧ Sl w' u1 r ∧ Trimmed q ∧ Trimmed r ∧ val xs = val q * val ys + val r ∧ val r < val ys ∧ Below w.heap.size w w' := by
  have HB := hid (checkBoth_sl v u xs ys w h g (by omega) (by omega))
  rw [both_good (chk_good lx tx) (chk_good ly ty)] at HB
  have HD : Hid (Calls Tryz.prog 63 #[v, u] w (Divided w xs ys)) := divide_any v u xs ys w h g lx ly tx ty h0
  obtain ⟨b, cap', rfl, gr⟩ := g
  have hz : ((ys.length : Int) == 0) = false := by simp; exact fun e => by rw [e] at h0; simp at h0
  clear gr h ty
  go_enter Tryz.func42, Tryz.ntmps42
  go_wp2_with fail
  refine Calls.mono HB.out ?_
  rintro e w' ⟨rfl, rfl⟩
  go_wp2_with fail
  refine Calls.mono HD.out ?_
  rintro e w1 ⟨v1, u1, q, r, c, rfl, oq, orr, _, _, _, _, wq, wr, tq, tr, hv, hlt, hbel⟩
  have HQ := hid (Sl.own oq wq)
  have HR := hid (Sl.own orr wr)
  have HV := hid hv
  have HLT := hid hlt
  clear oq orr hv hlt
  go_wp2
  go_ret3
  exact ⟨v1, u1, q, r, rfl, HQ.out, HR.out, tq, tr, HV.out, HLT.out, hbel⟩

theorem bits_is {xs : List Int} (hw : Wd xs) (b : Nat) (h1 : 1 ≤ b) (h2 : (2 : Int) ^ (b - 1) ≤ val xs) (h3 : val xs < 2 ^ b) : bitsOf xs = b := by
  have hp : 0 < sz xs := by
    by_cases c : sz xs = 0
    · have := two_pos (b - 1)
      rw [val_sz, c] at h2
      have : valTo xs 0 = 0 := rfl
      omega
    · omega
  obtain ⟨b1, b2, b3, _, _⟩ := bits_bounds hw hp
  rcases Nat.lt_trichotomy (bitsOf xs) b with h | h | h
  · have := two_le (t := bitsOf xs) (u := b - 1) (by omega); omega
  · exact h
  · have := two_le (t := b) (u := bitsOf xs - 1) (by omega); omega
end Go.Proofs.YtomdkingdniohaaGreatDoor

/- Whole numbers: whole.divide, DivMod: quotient and rest, the rest never below 0. -/
namespace Go.Proofs.YtomdkingdniohaaGreatDoor
open Go.RowKit
set_option linter.unusedVariables false

set_option maxHeartbeats 800000 in
set_option maxRecDepth 100000 in
theorem divMod_own (v u : Value) (xs ys : List Int) (w : World) (h : Sl w v xs) (g : Sl w u ys) (lx : xs.length ≤ 8192) (ly : ys.length ≤ 8192) (tx : Trimmed xs) (ty : Trimmed ys) (h0 : 0 < ys.length) :
    Calls Tryz.prog 42 #[v, u] w fun e w' => ∃ v1 u1 q r, e = .returned (.tuple #[v1, u1, .int .i64 0]) ∧ w'.ownsRow w.heap.size 42 1 v1 q.length (q.map (Value.int .u32)) ∧ w'.ownsRow w.heap.size 42 1 u1 r.length (r.map (Value.int .u32)) ∧ Wd q ∧ Wd r ∧ Trimmed q ∧ Trimmed r ∧ val xs = val q * val ys + val r ∧ val r < val ys ∧ Below w.heap.size w w' := by
  have HB := hid (checkBoth_sl v u xs ys w h g (by omega) (by omega))
  rw [both_good (chk_good lx tx) (chk_good ly ty)] at HB
  have HD : Hid (Calls Tryz.prog 63 #[v, u] w (Divided w xs ys)) := divide_any v u xs ys w h g lx ly tx ty h0
  obtain ⟨b, cap', rfl, gr⟩ := g
  have hz : ((ys.length : Int) == 0) = false := by simp; exact fun e => by rw [e] at h0; simp at h0
  clear gr h ty
  go_enter Tryz.func42, Tryz.ntmps42
  go_wp2_with fail
  refine Calls.mono HB.out ?_
  rintro e w' ⟨rfl, rfl⟩
  go_wp2_with fail
  refine Calls.mono HD.out ?_
  rintro e w1 ⟨v1, u1, q, r, c, rfl, oq, orr, _, _, _, _, wq, wr, tq, tr, hv, hlt, hbel⟩
  have HQ := hid oq
  have HR := hid orr
  have HV := hid hv
  have HLT := hid hlt
  clear oq orr hv hlt
  go_wp2
  go_ret3
  exact ⟨v1, u1, q, r, rfl, HQ.out, HR.out, wq, wr, tq, tr, HV.out, HLT.out, hbel⟩

/-- A size and a rest, in new memory. -/
def WParts (w : World) (n : Bool) (xs ys : List Int) (x : Ending) (w' : World) : Prop := ∃ v1 u1 q r, x = .returned (.tuple #[v1, u1]) ∧ w'.ownsRow w.heap.size 42 1 v1 q.length (q.map (Value.int .u32)) ∧ w'.ownsRow w.heap.size 42 1 u1 r.length (r.map (Value.int .u32)) ∧ Wd q ∧ Wd r ∧ Trimmed q ∧ Trimmed r ∧ q.length ≤ 2048 ∧ r.length ≤ 2048 ∧
  val xs = val q * val ys + sg n (val r) ∧ val r < val ys ∧ Below w.heap.size w w'
theorem q_le {x q y r : Int} (h : x = q * y + r) (hy : 1 ≤ y) (hq : 0 ≤ q) (hr : 0 ≤ r) : q ≤ x - r := by
  have : q * 1 ≤ q * y := Int.mul_le_mul_of_nonneg_left hy hq
  omega
theorem val_pos' {zs : List Int} (hw : Wd zs) (ht : Trimmed zs) (h : 0 < zs.length) : 1 ≤ val zs := by
  have h1 := val_ge hw ht h
  have h2 := pw_pos (zs.length - 1)
  omega
theorem below2048 {zs : List Int} (hw : Wd zs) (hl : zs.length ≤ 2048) : val zs < wlim := by
  have h1 := val_lt hw
  have h2 : (4294967296 : Int) ^ zs.length ≤ 4294967296 ^ 2048 := pw_le hl
  unfold wlim
  exact Int.lt_of_lt_of_le h1 h2
theorem short2048 {zs : List Int} (hw : Wd zs) (ht : Trimmed zs) (h : val zs < wlim) : zs.length ≤ 2048 := by
  by_cases c : 2048 < zs.length
  · have := (len2048 hw ht).1 c; omega
  · omega

set_option maxHeartbeats 3200000 in
set_option maxRecDepth 100000 in
theorem wdivide_any (n : Bool) (v : Value) (xs : List Int) (m0 : Bool) (u : Value) (ys : List Int) (w : World) (h : Sl w v xs) (g : Sl w u ys) (lx : xs.length ≤ 2048) (ly : ys.length ≤ 2048) (tx : Trimmed xs) (ty : Trimmed ys) (h0 : 0 < ys.length) :
    Calls Tryz.prog 20 #[.agg #[.bool n, v], .agg #[.bool m0, u]] w (WParts w n xs ys) := by
  have wx := h.wd
  have wy := g.wd
  have HY1 := hid (val_pos' wy ty h0)
  have HXL := hid (below2048 wx lx)
  have HYL := hid (below2048 wy ly)
  obtain ⟨a, cap, rfl, hr⟩ := h
  obtain ⟨b, cap', rfl, gr⟩ := g
  have h : Sl w (.slice a xs.length cap) xs := ⟨a, cap, rfl, hr⟩
  have g : Sl w (.slice b ys.length cap') ys := ⟨b, cap', rfl, gr⟩
  clear hr gr
  have HB : Hid (Below w.heap.size w ((w.alloc (.cells #[.bool n, .slice a xs.length cap] 25)).alloc (.cells #[.bool m0, .slice b ys.length cap'] 25))) := bt (alloc_later _ _) (alloc_later _ _)
  have HN : Hid (Box ((w.alloc (.cells #[.bool n, .slice a xs.length cap] 25)).alloc (.cells #[.bool m0, .slice b ys.length cap'] 25)) w.heap.size 25 #[.bool n, .slice a xs.length cap]) := Box.later (Box.made w _ _) (alloc_later _ _) (by simp)
  have HM : Hid (Box ((w.alloc (.cells #[.bool n, .slice a xs.length cap] 25)).alloc (.cells #[.bool m0, .slice b ys.length cap'] 25)) (w.heap.size + 1) 25 #[.bool m0, .slice b ys.length cap']) := by
    have e := Box.made (w.alloc (.cells #[.bool n, .slice a xs.length cap] 25)) 25 #[.bool m0, .slice b ys.length cap']
    simp at e
    exact e
  have HXS : Hid (w.heap.size ≤ ((w.alloc (.cells #[.bool n, .slice a xs.length cap] 25)).alloc (.cells #[.bool m0, .slice b ys.length cap'] 25)).heap.size) := HB.out.size
  have HD := hid (divMod_own _ _ xs ys _ (h.later HB.out) (g.later HB.out) (by omega) (by omega) tx ty h0)
  have HG := hid (g.later HB.out)
  clear h g
  cases n with
  | false =>
    go_enter Tryz.func20, Tryz.ntmps20
    go_wp2_with fail
    refine Calls.mono HD.out ?_
    rintro e w1 ⟨v1, u1, q, r, rfl, oq, orr, wq, wr, tq, tr, hv, hlt, hb1⟩
    obtain ⟨p0, p1, _, _⟩ := res_box HN.out hb1
    obtain ⟨q0, q1, _, _⟩ := res_box HM.out hb1
    have hq := q_le hv HY1.out (val_nonneg wq) (val_nonneg wr)
    have hr0 := val_nonneg wr
    have HF : Hid (WParts w false xs ys (.returned (.tuple #[v1, u1])) w1) := ⟨v1, u1, q, r, rfl, owns_base oq HXS.out, owns_base orr HXS.out, wq, wr, tq, tr, short2048 wq tq (by have := HXL.out; omega), short2048 wr tr (by have := HYL.out; omega), hv, hlt, bt HB.out hb1⟩
    obtain ⟨a1, k1, hv1⟩ := own_slice' oq
    obtain ⟨a2, k2, hv2⟩ := own_slice' orr
    subst hv1
    subst hv2
    clear oq orr hv hlt hb1 hq hr0
    go_wp2_with fail
    go_ret2
    exact HF.out
  | true =>
    go_enter Tryz.func20, Tryz.ntmps20
    go_wp2_with fail
    refine Calls.mono HD.out ?_
    rintro e w1 ⟨v1, u1, q, r, rfl, oq, orr, wq, wr, tq, tr, hv, hlt, hb1⟩
    obtain ⟨p0, p1, _, _⟩ := res_box HN.out hb1
    obtain ⟨q0, q1, _, _⟩ := res_box HM.out hb1
    have hq := q_le hv HY1.out (val_nonneg wq) (val_nonneg wr)
    have hr0 := val_nonneg wr
    have hq0 := val_nonneg wq
    by_cases hr : r.length = 0
    · have hrn : r = [] := List.eq_nil_of_length_eq_zero hr
      subst hrn
      have HF : Hid (WParts w true xs ys (.returned (.tuple #[v1, u1])) w1) := ⟨v1, u1, q, [], rfl, owns_base oq HXS.out, owns_base orr HXS.out, wq, wr, tq, tr, short2048 wq tq (by have := HXL.out; omega), by simp, by rw [hv]; rfl, hlt, bt HB.out hb1⟩
      obtain ⟨a1, k1, hv1⟩ := own_slice' oq
      obtain ⟨a2, k2, hv2⟩ := own_slice' orr
      subst hv1
      subst hv2
      clear oq orr hv hlt hb1 hq hr0 hr
      go_wp2_with fail
      go_ret2
      exact HF.out
    · have hr1 := val_pos' wr tr (by omega)
      have hrb : ((r.length : Int) == 0) = false := by simp; exact fun e => hr (by rw [e]; rfl)
      have lq : q.length ≤ 2048 := short2048 wq tq (by have := HXL.out; omega)
      have lr : r.length ≤ 2048 := short2048 wr tr (by have := HYL.out; omega)
      have HQ := hid (Sl.own oq wq)
      have HR := hid (Sl.own orr wr)
      obtain ⟨a1, k1, hv1⟩ := own_slice' oq
      obtain ⟨a2, k2, hv2⟩ := own_slice' orr
      subst hv1
      subst hv2
      have HOF := hid (of_any 1 w1 (by omega) (by omega))
      have HB1 := hid hb1
      have HVL := hid (And.intro hv (And.intro hlt (And.intro hq (And.intro hr0 (And.intro hq0 hr1)))))
      clear oq orr hv hlt hb1 hq hr0 hq0 hr1 hr HD
      go_wp2_with fail
      refine Calls.mono HOF.out ?_
      rintro e w2 ⟨v2, rfl, o2, hb2⟩
      have s2 := Sl.own (owns_len o2) (of_wd 1 (by omega) (by omega)).trimmed
      have e2 : trimmed [1 % 4294967296, 1 / 4294967296] = [1] := by decide
      rw [e2] at s2
      have HAD := hid (add_sl _ _ q [1] w2 (HQ.out.later hb2) s2 (by omega) (by simp))
      rw [both_good (chk_good (by omega) tq) (chk_good (by simp) (show Trimmed [1] from rfl)), val_one] at HAD
      have HB2 := hid (bt HB1.out hb2)
      have HR2 := hid (HR.out.later hb2)
      clear o2 hb2 s2 e2 HOF HR HQ p0 p1 q0 q1
      go_wp2_with fail
      refine Calls.mono HAD.out ?_
      rintro e w3 ⟨v3, z3, c3, rfl, o3, t3, hb3⟩
      have hw3 : val q + 1 < wide := by have := HVL.out; have := HXL.out; have := wide2048; omega
      obtain ⟨rfl, hv3⟩ := t3.good rfl hw3
      have w3' := t3.wd
      have tt3 := t3.trim
      obtain ⟨a3, k3, hs3⟩ := own_slice' o3
      subst hs3
      obtain ⟨q0, q1, _, _⟩ := res_box HM.out (bt HB2.out hb3)
      have HSB := hid (sub_sl _ _ ys r w3 ((HG.out.later HB2.out).later hb3) (HR2.out.later hb3) (by omega) (by omega))
      rw [if_pos (both_good (chk_good (by omega) ty) (chk_good (by omega) tr)), if_neg (by have := HVL.out.2.1; omega)] at HSB
      have HB3 := hid (bt HB2.out hb3)
      have HO3 := hid o3
      have HV3 := hid hv3
      clear o3 t3 hb3 hv3 hw3 HAD HR2
      go_wp2_with fail
      refine Calls.mono HSB.out ?_
      rintro e w4 ⟨v4, z4, c4, rfl, o4, t4, hb4⟩
      have hw4 : val ys - val r < wide := by have := HVL.out; have := HYL.out; have := wide2048; omega
      obtain ⟨rfl, hv4⟩ := t4.good rfl hw4
      have w4' := t4.wd
      have tt4 := t4.trim
      obtain ⟨a4, k4, hs4⟩ := own_slice' o4
      subst hs4
      have HF : Hid (WParts w true xs ys (.returned (.tuple #[.slice a3 z3.length k3, .slice a4 z4.length k4])) w4) := by
        obtain ⟨g1, g2, g3, g4, g5, g6⟩ := HVL.out
        refine ⟨_, _, z3, z4, rfl, owns_base (owns_later HO3.out hb4) (by have := HXS.out; have := HB2.out.size; omega), owns_base o4 (by have := HXS.out; have := HB3.out.size; omega), w3', w4', tt3, tt4, short2048 w3' tt3 (by rw [HV3.out]; have := HXL.out; omega), short2048 w4' tt4 (by rw [hv4]; have := HYL.out; omega), ?_, by rw [hv4]; omega, bt HB.out (bt HB3.out hb4)⟩
        rw [HV3.out, hv4, Int.add_mul, Int.one_mul]
        show _ = _ + -(val ys - val r)
        omega
      clear o4 t4 hb4 hv4 hw4 HSB q0 q1
      go_wp2_with fail
      go_ret2
      exact HF.out

/-- Quotient and rest of whole numbers, in new memory. -/
def WDiv (w : World) (X Y : Int) (x : Ending) (w' : World) : Prop := ∃ nq vq zq vr zr, x = .returned (.tuple #[.agg #[.bool nq, vq], .agg #[.bool false, vr], .int .i64 0]) ∧ w'.ownsRow w.heap.size 42 1 vq zq.length (zq.map (Value.int .u32)) ∧ w'.ownsRow w.heap.size 42 1 vr zr.length (zr.map (Value.int .u32)) ∧ Wd zq ∧ Wd zr ∧ Trimmed zq ∧ Trimmed zr ∧ zq.length ≤ 2048 ∧ zr.length ≤ 2048 ∧ (nq = false ∨ 0 < zq.length) ∧
  X = wval nq zq * Y + val zr ∧ val zr < (Y.natAbs : Int) ∧ Below w.heap.size w w'
theorem div_sign {n m : Bool} {x y q r : Int} (h : x = q * y + sg n r) : sg n x = sg (n != m) q * sg m y + r := by
  cases n <;> cases m <;> simp [sg, Int.neg_mul, Int.mul_neg] at * <;> omega

set_option maxHeartbeats 3200000 in
set_option maxRecDepth 100000 in
theorem wdivMod_any (n : Bool) (v : Value) (xs : List Int) (m0 : Bool) (u : Value) (ys : List Int) (w : World) (h : Sl w v xs) (g : Sl w u ys) (hx : wchk n xs = 0) (hy : wchk m0 ys = 0) (h0 : 0 < ys.length) :
    Calls Tryz.prog 4 #[.agg #[.bool n, v], .agg #[.bool m0, u]] w (WDiv w (wval n xs) (wval m0 ys)) := by
  obtain ⟨lx, tx, _⟩ := wchk_ok hx
  obtain ⟨ly, ty, _⟩ := wchk_ok hy
  have wx := h.wd
  have wy := g.wd
  obtain ⟨a, cap, rfl, hr⟩ := h
  obtain ⟨b, cap', rfl, gr⟩ := g
  have h : Sl w (.slice a xs.length cap) xs := ⟨a, cap, rfl, hr⟩
  have g : Sl w (.slice b ys.length cap') ys := ⟨b, cap', rfl, gr⟩
  clear hr gr
  have HB : Hid (Below w.heap.size w ((((w.alloc (.cells #[.bool n, .slice a xs.length cap] 25)).alloc (.cells #[.bool m0, .slice b ys.length cap'] 25)).alloc (.cells #[.bool false, .slice none 0 0] 25)).alloc (.cells #[.bool false, .slice none 0 0] 25))) := bt (bt (bt (alloc_later _ _) (alloc_later _ _)) (alloc_later _ _)) (alloc_later _ _)
  have HN : Hid (Box ((((w.alloc (.cells #[.bool n, .slice a xs.length cap] 25)).alloc (.cells #[.bool m0, .slice b ys.length cap'] 25)).alloc (.cells #[.bool false, .slice none 0 0] 25)).alloc (.cells #[.bool false, .slice none 0 0] 25)) w.heap.size 25 #[.bool n, .slice a xs.length cap]) := Box.later (Box.made w _ _) (bt (bt (alloc_later _ _) (alloc_later _ _)) (alloc_later _ _)) (by simp)
  have HM : Hid (Box ((((w.alloc (.cells #[.bool n, .slice a xs.length cap] 25)).alloc (.cells #[.bool m0, .slice b ys.length cap'] 25)).alloc (.cells #[.bool false, .slice none 0 0] 25)).alloc (.cells #[.bool false, .slice none 0 0] 25)) (w.heap.size + 1) 25 #[.bool m0, .slice b ys.length cap']) := by
    have e := Box.later (Box.made (w.alloc (.cells #[.bool n, .slice a xs.length cap] 25)) 25 #[.bool m0, .slice b ys.length cap']) (bt (alloc_later ((w.alloc (.cells #[.bool n, .slice a xs.length cap] 25)).alloc (.cells #[.bool m0, .slice b ys.length cap'] 25)) (.cells #[.bool false, .slice none 0 0] 25)) (alloc_later _ (.cells #[.bool false, .slice none 0 0] 25))) (by simp)
    simp at e
    exact e
  have HZ1 : Hid (Box ((((w.alloc (.cells #[.bool n, .slice a xs.length cap] 25)).alloc (.cells #[.bool m0, .slice b ys.length cap'] 25)).alloc (.cells #[.bool false, .slice none 0 0] 25)).alloc (.cells #[.bool false, .slice none 0 0] 25)) (w.heap.size + 1 + 1) 25 #[.bool false, .slice none 0 0]) := by
    have e := Box.later (Box.made ((w.alloc (.cells #[.bool n, .slice a xs.length cap] 25)).alloc (.cells #[.bool m0, .slice b ys.length cap'] 25)) 25 #[.bool false, .slice none 0 0]) (alloc_later (((w.alloc (.cells #[.bool n, .slice a xs.length cap] 25)).alloc (.cells #[.bool m0, .slice b ys.length cap'] 25)).alloc (.cells #[.bool false, .slice none 0 0] 25)) (.cells #[.bool false, .slice none 0 0] 25)) (by simp)
    simp at e
    exact e
  have HZ2 : Hid (Box ((((w.alloc (.cells #[.bool n, .slice a xs.length cap] 25)).alloc (.cells #[.bool m0, .slice b ys.length cap'] 25)).alloc (.cells #[.bool false, .slice none 0 0] 25)).alloc (.cells #[.bool false, .slice none 0 0] 25)) (w.heap.size + 1 + 1 + 1) 25 #[.bool false, .slice none 0 0]) := by
    have e := Box.made (((w.alloc (.cells #[.bool n, .slice a xs.length cap] 25)).alloc (.cells #[.bool m0, .slice b ys.length cap'] 25)).alloc (.cells #[.bool false, .slice none 0 0] 25)) 25 #[.bool false, .slice none 0 0]
    simp at e
    exact e
  have HXS : Hid (w.heap.size + 1 + 1 + 1 < ((((w.alloc (.cells #[.bool n, .slice a xs.length cap] 25)).alloc (.cells #[.bool m0, .slice b ys.length cap'] 25)).alloc (.cells #[.bool false, .slice none 0 0] 25)).alloc (.cells #[.bool false, .slice none 0 0] 25)).heap.size) := HZ2.out.lt
  have HCB := hid (wcheckBoth_any n _ xs m0 _ ys _ (h.later HB.out) (g.later HB.out) (by omega) (by omega))
  rw [wboth_good hx hy] at HCB
  have HIN := hid (fun w1 (hb : Below _ ((((w.alloc (.cells #[.bool n, .slice a xs.length cap] 25)).alloc (.cells #[.bool m0, .slice b ys.length cap'] 25)).alloc (.cells #[.bool false, .slice none 0 0] 25)).alloc (.cells #[.bool false, .slice none 0 0] 25)) w1) => wdivide_any n _ xs m0 _ ys w1 ((h.later HB.out).later hb) ((g.later HB.out).later hb) lx ly tx ty h0)
  have hyb : ((ys.length : Int) == 0) = false := by simp; exact fun e => by rw [e] at h0; simp at h0
  clear h g hx hy
  go_enter Tryz.func4, Tryz.ntmps4
  go_wp2_with fail
  refine Calls.mono HCB.out ?_
  rintro e w1 ⟨rfl, hb1⟩
  obtain ⟨p0, p1, _, _⟩ := res_box HN.out hb1
  obtain ⟨q0, q1, _, _⟩ := res_box HM.out hb1
  have HIN1 := hid (HIN.out w1 hb1)
  have HB1 := hid hb1
  clear hb1 HIN
  go_wp2_with fail
  refine Calls.mono HIN1.out ?_
  rintro e w2 ⟨v1, u1, q, r, rfl, oq, orr, wq, wr, tq, tr, lq, lr, hv, hlt, hb2⟩
  obtain ⟨a1, k1, hs1⟩ := own_slice' oq
  obtain ⟨a2, k2, hs2⟩ := own_slice' orr
  subst hs1
  subst hs2
  have HB2 := hid (bt HB1.out hb2)
  obtain ⟨p0, p1, _, _⟩ := res_box HN.out HB2.out
  obtain ⟨q0, q1, _, _⟩ := res_box HM.out HB2.out
  have HU := hid (wunlike_any n a xs.length cap m0 b ys.length cap' w2)
  have HOQ := hid (owns_base oq HB1.out.size)
  have HOR := hid (owns_base orr HB1.out.size)
  have HVV := hid (And.intro hv hlt)
  obtain ⟨sn, hsn⟩ : ∃ sn, (n != m0) = sn := ⟨_, rfl⟩
  rw [hsn] at HU
  have HSN := hid hsn
  clear oq orr hv hlt hb2 hsn HIN1
  go_wp2_with fail
  refine Calls.mono HU.out ?_
  rintro e w3 ⟨rfl, hb3⟩
  have HF1 := hid (formed_any sn a1 q.length k1 w3)
  have HB3 := hid (bt HB2.out hb3)
  have HOQ3 := hid (owns_later HOQ.out hb3)
  have HOR3 := hid (owns_later HOR.out hb3)
  obtain ⟨nb, hnb⟩ : ∃ nb, (sn && decide (0 < q.length)) = nb := ⟨_, rfl⟩
  rw [hnb] at HF1
  have HNB := hid hnb
  clear hb3 hnb p0 p1 q0 q1 HU HOQ HOR
  go_wp2_with fail
  refine Calls.mono HF1.out ?_
  rintro e w4 ⟨rfl, hb4⟩
  have HF2 := hid (formed_any false a2 r.length k2 w4)
  have HB4 := hid (bt HB3.out hb4)
  have HOQ4 := hid (owns_later HOQ3.out hb4)
  have HOR4 := hid (owns_later HOR3.out hb4)
  rw [Bool.false_and] at HF2
  clear hb4 HF1 HOQ3 HOR3
  go_wp2_with fail
  refine Calls.mono HF2.out ?_
  rintro e w5 ⟨rfl, hb5⟩
  obtain ⟨r0, r1, f0, f1⟩ := res_box HZ1.out (bt HB4.out hb5)
  obtain ⟨s0, s1, g0, g1⟩ := res_box HZ2.out (bt HB4.out hb5)
  have HOQ5 := hid (owns_later HOQ4.out hb5)
  have HOR5 := hid (owns_later HOR4.out hb5)
  have HB5 := hid (bt HB.out (bt HB4.out hb5))
  clear hb5 HF2 HOQ4 HOR4
  go_wp2_with fail
  refine bodyPost_ret (v := .tuple #[.agg #[.bool nb, .slice a1 q.length k1], .agg #[.bool false, .slice a2 r.length k2], .int .i64 0]) (by simp [results, Tryz.results4, go_sem, r0, r1, s0, s1]) rfl ?_
  have hge : ∀ (z : Value) (zs : List Int), w5.ownsRow ((((w.alloc (.cells #[.bool n, .slice a xs.length cap] 25)).alloc (.cells #[.bool m0, .slice b ys.length cap'] 25)).alloc (.cells #[.bool false, .slice none 0 0] 25)).alloc (.cells #[.bool false, .slice none 0 0] 25)).heap.size 42 1 z zs.length (zs.map (Value.int .u32)) → ∀ g, z.ownBlock = some g → g ≠ w.heap.size + 1 + 1 ∧ g ≠ w.heap.size + 1 + 1 + 1 := fun z zs ho g hg => by
    have h1 := (World.ownsRow.lt ho g hg).1
    have h2 := HXS.out
    omega
  have hwn : wval nb q = sg sn (val q) := by
    rw [← HNB.out]
    unfold wval sg
    cases sn with
    | false => rfl
    | true =>
      by_cases c : 0 < q.length
      · simp [c]
      · have e0 : val q = 0 := trimmed_zero' (by omega)
        simp [c, e0]
  refine ⟨nb, _, q, _, r, rfl, owns_base (own_put2 (own_put2 HOQ5.out _ (fun g hg => (hge _ q HOQ5.out g hg).1) _ _) _ (fun g hg => (hge _ q HOQ5.out g hg).2) _ _) (by have := HXS.out; omega), owns_base (own_put2 (own_put2 HOR5.out _ (fun g hg => (hge _ r HOR5.out g hg).1) _ _) _ (fun g hg => (hge _ r HOR5.out g hg).2) _ _) (by have := HXS.out; omega), wq, wr, tq, tr, lq, lr, ?_, ?_, ?_, below_put2 (below_put2 HB5.out _ (by omega) _ _) _ (by omega) _ _⟩
  · rw [← HNB.out]
    by_cases c : 0 < q.length
    · exact .inr c
    · left; simp [c]
  · rw [hwn, ← HSN.out]
    exact div_sign HVV.out.1
  · have e1 := HVV.out.2
    have e2 := val_nonneg wy
    unfold wval
    cases m0 <;> simp <;> omega
end Go.Proofs.YtomdkingdniohaaGreatDoor

/- Whole numbers: whole.Compare, Abs: of every two numbers whose words can be read. -/
namespace Go.Proofs.YtomdkingdniohaaGreatDoor
open Go.RowKit
set_option linter.unusedVariables false

theorem cmp_neg (x y : Int) : cmpI (-x) (-y) = cmpI y x := by
  unfold cmpI
  by_cases h1 : y < x
  · rw [if_pos (by omega), if_pos h1]
  · rw [if_neg (by omega), if_neg h1]
    by_cases h2 : x < y
    · rw [if_pos (by omega), if_pos h2]
    · rw [if_neg (by omega), if_neg (by omega)]
theorem ret_cmp {a b c d : Int} (h : a = b) (g : c = d) : Ending.returned (.tuple #[.int .i64 a, .int .i64 c]) = .returned (.tuple #[.int .i64 b, .int .i64 d]) := by rw [h, g]

end Go.Proofs.YtomdkingdniohaaGreatDoor

/- The laws of layer 2: lives (two of the chapter's examples hold); the document's own made, Of. -/
namespace Go.Proofs.YtomdkingdniohaaGreatDoor
open Go.RowKit
set_option linter.unusedVariables false

theorem wlim_big : (18446744073709551616 : Int) ≤ wlim := by
  have : (4294967296 : Int) ^ 2 ≤ 4294967296 ^ 2048 := pw_le (by omega)
  unfold wlim
  have e : (4294967296 : Int) ^ 2 = 18446744073709551616 := by decide
  rw [e] at this
  exact this
theorem WTells.num {t : Int} {n : Bool} {zs : List Int} {code : Int} (h : WTells 0 t n zs code) (h0 : -18446744073709551616 < t) (h1 : t < 18446744073709551616) : code = 0 ∧ wval n zs = t := by
  have := wlim_big
  exact h.good rfl (by omega) (by omega)
theorem wval_pos {n : Bool} {zs : List Int} (hw : Wd zs) (h : 0 < wval n zs) : n = false ∧ val zs = wval n zs := by
  have := val_nonneg hw
  cases n with
  | false => exact ⟨rfl, rfl⟩
  | true => have e : wval true zs = -(val zs) := rfl; omega

set_option maxHeartbeats 3200000 in
set_option maxRecDepth 100000 in
theorem lives_any (w : World) : Calls Tryz.prog 17 #[] w fun e w' => e = .returned (.bool true) ∧ Below w.heap.size w w' := by
  have t1 : Trimmed [4294967295] := rfl
  have t4 : Trimmed [0, 1] := rfl
  have w1' : Wd [4294967295] := Wd.one (by omega)
  have w4' : Wd [0, 1] := Wd.cons (by omega) (Wd.one (by omega))
  have k1 := wchk_good (n := false) (xs := [4294967295]) (by simp) t1 (.inl rfl)
  have S0 := hid (Sl.lit' w _ [4294967295] #[.int .u32 4294967295] 1 rfl w1' (by unfold maxLen; simp) rfl rfl)
  have hb0 := alloc_later w (.cells #[.int .u32 4294967295] 42)
  have HO := hid (lawOf_any 1 (w.alloc (.cells #[.int .u32 4294967295] 42)) (by omega) (by omega))
  have HB0 := hid hb0
  clear hb0
  go_enter Tryz.func17, Tryz.ntmps17
  go_wp2_with fail
  refine Calls.mono HO.out ?_
  rintro e w1 ⟨n1, v1, z1, rfl, o1, wd1, tr1, l1, ng1, hv1, hb1⟩
  have k2 := wchk_good (n := n1) (xs := z1) (by omega) tr1 ng1
  have HA := hid (wadd_any false _ [4294967295] n1 _ z1 w1 (S0.out.later hb1) (Sl.own o1 wd1) (by simp) (by omega))
  rw [wboth_good k1 k2, hv1, show wval false [4294967295] + 1 = 4294967296 by simp [wval, val, valTo]] at HA
  have HB1 := hid (bt HB0.out hb1)
  obtain ⟨a1, c1, hs1⟩ := own_slice' o1
  subst hs1
  clear o1 hb1 hv1 HO S0
  go_wp2_with fail
  refine Calls.mono HA.out ?_
  rintro e w2 ⟨n2, v2, z2, cc, rfl, o2, wt, hb2⟩
  obtain ⟨rfl, hv2⟩ := wt.num (by omega) (by omega)
  obtain ⟨rfl, hv2'⟩ := wval_pos wt.wd (by rw [hv2]; omega)
  have hz2 : z2 = [0, 1] := trimmed_eq wt.wd w4' wt.trim t4 (by rw [hv2', hv2, val_two]; omega)
  subst hz2
  obtain ⟨a2, c2, hs2⟩ := own_slice' o2
  subst hs2
  have HS2 := hid (Sl.own o2 w4')
  have HB2 := hid (bt HB1.out hb2)
  clear o2 wt hb2 hv2 hv2' HA
  -- the second example
  have hbA := alloc_later w2 (.cells #[.bool false, .slice a2 [0, 1].length c2] 25)
  have HX2 := hid (Box.made w2 25 #[.bool false, .slice a2 [0, 1].length c2])
  have HO3 := hid (lawOf_any (-7) (w2.alloc (.cells #[.bool false, .slice a2 [0, 1].length c2] 25)) (by omega) (by omega))
  have HBA := hid hbA
  clear hbA
  go_wp2_with fail
  refine Calls.mono HO3.out ?_
  rintro e w3 ⟨n3, v3, z3, rfl, o3, wd3, tr3, l3, ng3, hv3, hb3⟩
  have k3 := wchk_good (n := n3) (xs := z3) (by omega) tr3 ng3
  have HO4 := hid (lawOf_any 2 w3 (by omega) (by omega))
  obtain ⟨a3, c3, hs3⟩ := own_slice' o3
  subst hs3
  have HS3 := hid (Sl.own o3 wd3)
  have HB3 := hid (bt HBA.out hb3)
  have HV3 := hid hv3
  have HW3 := hid hb3
  clear o3 hb3 hv3 HO3
  go_wp2_with fail
  refine Calls.mono HO4.out ?_
  rintro e w4 ⟨n4, v4, z4, rfl, o4, wd4, tr4, l4, ng4, hv4, hb4⟩
  have k4 := wchk_good (n := n4) (xs := z4) (by omega) tr4 ng4
  have hz4 : 0 < z4.length := by
    by_cases c : 0 < z4.length
    · exact c
    · have e0 := trimmed_zero' (us := z4) (by omega)
      exfalso
      revert hv4
      unfold wval
      rw [e0]
      cases n4 <;> simp
  have HD := hid (wdivMod_any n3 _ z3 n4 _ z4 w4 (HS3.out.later hb4) (Sl.own o4 wd4) k3 k4 hz4)
  rw [HV3.out, hv4] at HD
  obtain ⟨a4, c4, hs4⟩ := own_slice' o4
  subst hs4
  have HB4 := hid (bt HB3.out hb4)
  have HW4 := hid (bt HW3.out hb4)
  clear o4 hb4 hv4 HO4 HS3 HV3
  go_wp2_with fail
  refine Calls.mono HD.out ?_
  rintro e w5 ⟨nq, vq, zq, vr, zr, rfl, oq, orr, wq, wr, tq, tr, lq, lr, ngq, hX, hY, hb5⟩
  have r0 := val_nonneg wr
  have hr1 : val zr = 1 := by simp at hY; omega
  have hq4 : wval nq zq = -4 := by omega
  obtain ⟨aq, cq, hsq⟩ := own_slice' oq
  obtain ⟨ar, cr, hsr⟩ := own_slice' orr
  subst hsq
  subst hsr
  have hbC : Below w5.heap.size w5 (((w5.alloc (.cells #[.bool nq, .slice aq zq.length cq] 25)).alloc (.cells #[.bool false, .slice ar zr.length cr] 25)).alloc (.cells #[.int .u32 0, .int .u32 1] 42)) := bt (bt (alloc_later _ _) (alloc_later _ _)) (alloc_later _ _)
  have HSQ := hid ((Sl.own oq wq).later hbC)
  have HSR := hid ((Sl.own orr wr).later hbC)
  have HIQ : Hid (i64of nq zq = (-4, true)) := by
    have := i64of_yes (n := nq) (xs := zq) ⟨wchk_good (by omega) tq ngq, by omega, by omega⟩
    rw [hq4] at this
    exact this
  have HIR : Hid (i64of false zr = (1, true)) := by
    have e1 : wval false zr = 1 := hr1
    have := i64of_yes (n := false) (xs := zr) ⟨wchk_good (by omega) tr (.inl rfl), by omega, by omega⟩
    rw [e1] at this
    exact this
  obtain ⟨m0, m1, _, _⟩ := res_box HX2.out (bt (bt HW4.out hb5) hbC)
  have L6 := Sl.lit' ((w5.alloc (.cells #[.bool nq, .slice aq zq.length cq] 25)).alloc (.cells #[.bool false, .slice ar zr.length cr] 25)) (w5.heap.size + 1 + 1) [0, 1] #[.int .u32 0, .int .u32 1] 2 (by simp) w4' (by unfold maxLen; simp) rfl rfl
  have HSM := hid (sameWhole_any false _ [0, 1] false _ [0, 1] _ (HS2.out.later (bt (bt (bt HBA.out HW4.out) hb5) hbC)) L6 (by simp) (by simp))
  rw [show decide (false = false ∧ [0, 1] = ([0, 1] : List Int)) = true from decide_eq_true ⟨rfl, rfl⟩] at HSM
  have HXQ := hid (Box.later (Box.made w5 25 #[.bool nq, .slice aq zq.length cq]) (bt (alloc_later _ (.cells #[.bool false, .slice ar zr.length cr] 25)) (alloc_later _ (.cells #[.int .u32 0, .int .u32 1] 42))) (by simp))
  have HXR : Hid (Box (((w5.alloc (.cells #[.bool nq, .slice aq zq.length cq] 25)).alloc (.cells #[.bool false, .slice ar zr.length cr] 25)).alloc (.cells #[.int .u32 0, .int .u32 1] 42)) (w5.heap.size + 1) 25 #[.bool false, .slice ar zr.length cr]) := by
    have e := Box.later (Box.made (w5.alloc (.cells #[.bool nq, .slice aq zq.length cq] 25)) 25 #[.bool false, .slice ar zr.length cr]) (alloc_later _ (.cells #[.int .u32 0, .int .u32 1] 42)) (by simp)
    simp at e
    exact e
  have m0' : w5.cell? ⟨w2.heap.size, 0, none⟩ = some (.bool false) := (res_box HX2.out (bt HW4.out hb5)).1
  have m1' : w5.cell? ⟨w2.heap.size, 1, none⟩ = some (.slice a2 [0, 1].length c2) := (res_box HX2.out (bt HW4.out hb5)).2.1
  have hne5 : w2.heap.size < w5.heap.size := by have := HX2.out.lt; have := HW4.out.size; have := hb5.size; omega
  have HBE := hid (bt (bt (bt HB2.out HB4.out) hb5) hbC)
  clear oq orr wq wr tq tr hX hY hb5 r0 hr1 hq4 hbC L6 HD HB4 HW4
  go_wp2_with fail
  refine Calls.mono HSM.out ?_
  rintro e w6 ⟨rfl, hb6⟩
  obtain ⟨x0, x1, _, _⟩ := res_box HXQ.out hb6
  have HI1 := hid (lawIs_any nq _ zq (-4) w6 (HSQ.out.later hb6) (by omega))
  rw [decide_eq_true HIQ.out] at HI1
  have HB6 := hid hb6
  clear hb6 HSM
  go_wp2_with fail
  refine Calls.mono HI1.out ?_
  rintro e w7 ⟨rfl, hb7⟩
  obtain ⟨y0, y1, _, _⟩ := res_box HXR.out (bt HB6.out hb7)
  have HI2 := hid (lawIs_any false _ zr 1 w7 ((HSR.out.later HB6.out).later hb7) (by omega))
  rw [decide_eq_true HIR.out] at HI2
  have HB7 := hid (bt HB6.out hb7)
  clear hb7 HI1 x0 x1
  go_wp2_with fail
  refine Calls.mono HI2.out ?_
  rintro e w8 ⟨rfl, hb8⟩
  have hbF := bt HBE.out (bt HB7.out hb8)
  clear hb8 HI2
  go_wp2_with fail
  go_ret
  exact ⟨rfl, hbF⟩
end Go.Proofs.YtomdkingdniohaaGreatDoor

/- Whole numbers: whole.Sub; slackwaterlaw02.add, mul, same: of numbers that may be. -/
namespace Go.Proofs.YtomdkingdniohaaGreatDoor
open Go.RowKit
set_option linter.unusedVariables false

theorem wval_neg (m : Bool) (ys : List Int) (h : m = false ∨ 0 < ys.length) : wval (!m && decide (0 < ys.length)) ys = -(wval m ys) := by
  by_cases c : 0 < ys.length
  · cases m <;> simp [wval, c]
  · have e0 : val ys = 0 := trimmed_zero' (by omega)
    cases m <;> simp [wval, c, e0]

set_option maxHeartbeats 3200000 in
set_option maxRecDepth 100000 in
theorem wsub_any (n : Bool) (v : Value) (xs : List Int) (m0 : Bool) (u : Value) (ys : List Int) (w : World) (h : Sl w v xs) (g : Sl w u ys) (hx : wchk n xs = 0) (hy : wchk m0 ys = 0) :
    Calls Tryz.prog 7 #[.agg #[.bool n, v], .agg #[.bool m0, u]] w (WTold w 0 (wval n xs - wval m0 ys)) := by
  obtain ⟨lx, tx, _⟩ := wchk_ok hx
  obtain ⟨ly, ty, sy⟩ := wchk_ok hy
  obtain ⟨a, cap, rfl, hr⟩ := h
  obtain ⟨b, cap', rfl, gr⟩ := g
  have h : Sl w (.slice a xs.length cap) xs := ⟨a, cap, rfl, hr⟩
  have g : Sl w (.slice b ys.length cap') ys := ⟨b, cap', rfl, gr⟩
  clear hr gr
  have HB : Hid (Below w.heap.size w (((w.alloc (.cells #[.bool n, .slice a xs.length cap] 25)).alloc (.cells #[.bool m0, .slice b ys.length cap'] 25)).alloc (.cells #[.bool false, .slice none 0 0] 25))) := bt (bt (alloc_later _ _) (alloc_later _ _)) (alloc_later _ _)
  have HXB : Hid (Box (((w.alloc (.cells #[.bool n, .slice a xs.length cap] 25)).alloc (.cells #[.bool m0, .slice b ys.length cap'] 25)).alloc (.cells #[.bool false, .slice none 0 0] 25)) (w.heap.size + 1 + 1) 25 #[.bool false, .slice none 0 0]) := by
    have e := Box.made ((w.alloc (.cells #[.bool n, .slice a xs.length cap] 25)).alloc (.cells #[.bool m0, .slice b ys.length cap'] 25)) 25 #[.bool false, .slice none 0 0]
    simp at e
    exact e
  have HXR : Hid (w.heap.size ≤ w.heap.size + 1 + 1 ∧ w.heap.size + 1 + 1 < (((w.alloc (.cells #[.bool n, .slice a xs.length cap] 25)).alloc (.cells #[.bool m0, .slice b ys.length cap'] 25)).alloc (.cells #[.bool false, .slice none 0 0] 25)).heap.size) := ⟨by omega, HXB.out.lt⟩
  have HN : Hid (Box (((w.alloc (.cells #[.bool n, .slice a xs.length cap] 25)).alloc (.cells #[.bool m0, .slice b ys.length cap'] 25)).alloc (.cells #[.bool false, .slice none 0 0] 25)) w.heap.size 25 #[.bool n, .slice a xs.length cap]) := Box.later (Box.made w _ _) (bt (alloc_later _ _) (alloc_later _ _)) (by simp)
  have HM : Hid (Box (((w.alloc (.cells #[.bool n, .slice a xs.length cap] 25)).alloc (.cells #[.bool m0, .slice b ys.length cap'] 25)).alloc (.cells #[.bool false, .slice none 0 0] 25)) (w.heap.size + 1) 25 #[.bool m0, .slice b ys.length cap']) := by
    have e := Box.later (Box.made (w.alloc (.cells #[.bool n, .slice a xs.length cap] 25)) 25 #[.bool m0, .slice b ys.length cap']) (alloc_later ((w.alloc (.cells #[.bool n, .slice a xs.length cap] 25)).alloc (.cells #[.bool m0, .slice b ys.length cap'] 25)) (.cells #[.bool false, .slice none 0 0] 25)) (by simp)
    simp at e
    exact e
  have HCB := hid (wcheckBoth_any n _ xs m0 _ ys _ (h.later HB.out) (g.later HB.out) (by omega) (by omega))
  rw [wboth_good hx hy] at HCB
  have HSL := hid (And.intro (h.later HB.out) (g.later HB.out))
  obtain ⟨nb, hnb⟩ : ∃ nb, (!m0 && decide (0 < ys.length)) = nb := ⟨_, rfl⟩
  have HT : Hid (wval n xs + wval nb ys = wval n xs - wval m0 ys) := by show _ = _; rw [← hnb, wval_neg m0 ys sy]; omega
  clear h g hx hy
  go_enter Tryz.func7, Tryz.ntmps7
  go_wp2_with fail
  refine Calls.mono HCB.out ?_
  rintro e w1 ⟨rfl, hb1⟩
  obtain ⟨p0, p1, _, _⟩ := res_box HN.out hb1
  obtain ⟨q0, q1, _, _⟩ := res_box HM.out hb1
  have HB1 := hid hb1
  have HF := hid (fun ww (hb : Below w1.heap.size w1 ww) => Calls.mono (formed_any (!m0) b ys.length cap' ww) (R' := fun e w' => e = .returned (.agg #[.bool nb, .slice b ys.length cap']) ∧ w'.cell? ⟨w.heap.size, 0, none⟩ = some (.bool n) ∧ w'.cell? ⟨w.heap.size, 1, none⟩ = some (.slice a xs.length cap) ∧ Below w1.heap.size w1 w') (fun e w' h => by
    have hbb := bt hb h.2
    obtain ⟨z0, z1, _, _⟩ := res_box HN.out (bt HB1.out hbb)
    exact ⟨by rw [h.1, hnb], z0, z1, hbb⟩))
  have HS := hid (fun ww (hb : Below w1.heap.size w1 ww) => Calls.mono (wsum_any n _ xs nb _ ys ww ((HSL.out.1.later HB1.out).later hb) ((HSL.out.2.later HB1.out).later hb) lx ly tx ty) (R' := fun e w' => ∃ m3 a3 us k3 cc, e = .returned (.tuple #[.agg #[.bool m3, .slice a3 us.length k3], .int .i64 cc]) ∧ Hid (w'.ownsRow w1.heap.size 42 1 (.slice a3 us.length k3) us.length (us.map (Value.int .u32))) ∧ Hid (WTells 0 (wval n xs - wval m0 ys) m3 us cc) ∧ w'.cell? ⟨w.heap.size + 1 + 1, 0, none⟩ = some (.bool false) ∧ w'.cell? ⟨w.heap.size + 1 + 1, 1, none⟩ = some (.slice none 0 0) ∧ w'.frozen? ⟨w.heap.size + 1 + 1, 0, none⟩ = false ∧ w'.frozen? ⟨w.heap.size + 1 + 1, 1, none⟩ = false ∧ Below w1.heap.size w1 w') (fun e w' h => by
    obtain ⟨m3, v3, us, cc, rfl, o3, wt, hb3⟩ := h
    obtain ⟨a3, k3, hv3⟩ := own_slice' o3
    subst hv3
    rw [HT.out] at wt
    have hbb := bt hb hb3
    obtain ⟨z0, z1, z2, z3⟩ := res_box HXB.out (bt HB1.out hbb)
    exact ⟨m3, a3, us, k3, cc, rfl, owns_base o3 hb.size, wt, z0, z1, z2, z3, hbb⟩))
  have HBA := hid (bt HB.out hb1)
  clear hb1 hnb
  go_wp2_with fail
  go_region_with (first
    | (go_at_call 21; refine Calls.mono (HF.out _ (Below.drew (Below.refl _ _))) ?_; rintro e w2 ⟨rfl, x0, x1, hb2⟩)
    | (go_at_call 25; refine Calls.mono (HS.out _ hb2) ?_; rintro e w3 ⟨m3, a3, us, k3, cc, rfl, HO3, HWT, r0, r1, f0, f1, hb3⟩))
  all_goals
    go_wp2_with fail
    refine bodyPost_ret (v := .tuple #[.agg #[.bool m3, .slice a3 us.length k3], .int .i64 cc]) (by simp [results, Tryz.results7, go_sem, r0, r1]) rfl ?_
    exact ⟨m3, _, us, cc, rfl, owns_base (own_put2 HO3.out _ (fun g hg => by have h1 := (World.ownsRow.lt HO3.out g hg).1; have h2 := HXR.out; have h3 := HB1.out.size; omega) _ _) (by have := HBA.out.size; omega), HWT.out, below_put2 (bt HBA.out hb3) _ (by have := HXR.out; omega) _ _⟩

/-- A whole number that may be, and true. -/
def WOk (w : World) (t : Int) (x : Ending) (w' : World) : Prop := ∃ n v zs, x = .returned (.tuple #[.agg #[.bool n, v], .bool true]) ∧ w'.ownsRow w.heap.size 42 1 v zs.length (zs.map (Value.int .u32)) ∧ Wd zs ∧ wchk n zs = 0 ∧ wval n zs = t ∧ Below w.heap.size w w'

theorem wsame' {n m : Bool} {xs ys : List Int} (wx : Wd xs) (wy : Wd ys) (tx : Trimmed xs) (ty : Trimmed ys) (nx : n = false ∨ 0 < xs.length) (ny : m = false ∨ 0 < ys.length) (h : wval n xs = wval m ys) : n = m ∧ xs = ys := by
  have x0 := val_nonneg wx
  have y0 := val_nonneg wy
  cases n <;> cases m
  · exact ⟨rfl, trimmed_eq wx wy tx ty h⟩
  · have e : val xs = -(val ys) := h
    have := val_pos' wy ty (ny.elim (fun e => by cases e) id)
    omega
  · have e : -(val xs) = val ys := h
    have := val_pos' wx tx (nx.elim (fun e => by cases e) id)
    omega
  · have e : -(val xs) = -(val ys) := h
    exact ⟨rfl, trimmed_eq wx wy tx ty (by omega)⟩

end Go.Proofs.YtomdkingdniohaaGreatDoor

/- Whole numbers: DivMod by nothing; a struct in memory. -/
namespace Go.Proofs.YtomdkingdniohaaGreatDoor
open Go.RowKit
set_option linter.unusedVariables false

/-- A whole number in memory, and its words. -/
structure Vr (U : World) (b : Nat) (n : Bool) (a : Option Addr) (c : Nat) (xs : List Int) : Prop where
  box : Box U b 25 #[.bool n, .slice a xs.length c]
  sl : Sl U (.slice a xs.length c) xs
theorem Vr.later {U V : World} {b : Nat} {n : Bool} {a : Option Addr} {c : Nat} {xs : List Int} (h : Vr U b n a c xs) (hb : Below U.heap.size U V) : Vr V b n a c xs := ⟨h.box.later hb h.box.lt, h.sl.later hb⟩
theorem Vr.c0 {U : World} {b : Nat} {n : Bool} {a : Option Addr} {c : Nat} {xs : List Int} (h : Vr U b n a c xs) : U.cell? ⟨b, 0, none⟩ = some (.bool n) := h.box.cell 0
theorem Vr.c1 {U : World} {b : Nat} {n : Bool} {a : Option Addr} {c : Nat} {xs : List Int} (h : Vr U b n a c xs) : U.cell? ⟨b, 1, none⟩ = some (.slice a xs.length c) := h.box.cell 1
theorem Vr.new {U V : World} {n : Bool} {a : Option Addr} {c : Nat} {xs : List Int} (h : Sl U (.slice a xs.length c) xs) (hb : Below (U.alloc (.cells #[.bool n, .slice a xs.length c] 25)).heap.size (U.alloc (.cells #[.bool n, .slice a xs.length c] 25)) V) : Vr V U.heap.size n a c xs :=
  Vr.later ⟨Box.made U _ _, h.later (alloc_later _ _)⟩ hb

set_option maxHeartbeats 3200000 in
set_option maxRecDepth 100000 in
theorem wdivMod_zero (n : Bool) (v : Value) (xs : List Int) (m0 : Bool) (u : Value) (w : World) (h : Sl w v xs) (g : Sl w u []) (hx : wchk n xs = 0) (hy : wchk m0 [] = 0) :
    Calls Tryz.prog 4 #[.agg #[.bool n, v], .agg #[.bool m0, u]] w fun e w' => e = .returned (.tuple #[.agg #[.bool false, .slice none 0 0], .agg #[.bool false, .slice none 0 0], .int .i64 7]) ∧ Below w.heap.size w w' := by
  obtain ⟨lx, tx, _⟩ := wchk_ok hx
  obtain ⟨ys, hys⟩ : ∃ ys : List Int, ys = [] := ⟨_, rfl⟩
  rw [← hys] at g hy
  obtain ⟨a, cap, rfl, hr⟩ := h
  obtain ⟨b, cap', rfl, gr⟩ := g
  have h : Sl w (.slice a xs.length cap) xs := ⟨a, cap, rfl, hr⟩
  have g : Sl w (.slice b ys.length cap') ys := ⟨b, cap', rfl, gr⟩
  clear hr gr
  have HB : Hid (Below w.heap.size w ((((w.alloc (.cells #[.bool n, .slice a xs.length cap] 25)).alloc (.cells #[.bool m0, .slice b ys.length cap'] 25)).alloc (.cells #[.bool false, .slice none 0 0] 25)).alloc (.cells #[.bool false, .slice none 0 0] 25))) := bt (bt (bt (alloc_later _ _) (alloc_later _ _)) (alloc_later _ _)) (alloc_later _ _)
  have HM : Hid (Box ((((w.alloc (.cells #[.bool n, .slice a xs.length cap] 25)).alloc (.cells #[.bool m0, .slice b ys.length cap'] 25)).alloc (.cells #[.bool false, .slice none 0 0] 25)).alloc (.cells #[.bool false, .slice none 0 0] 25)) (w.heap.size + 1) 25 #[.bool m0, .slice b ys.length cap']) := by
    have e := Box.later (Box.made (w.alloc (.cells #[.bool n, .slice a xs.length cap] 25)) 25 #[.bool m0, .slice b ys.length cap']) (bt (alloc_later ((w.alloc (.cells #[.bool n, .slice a xs.length cap] 25)).alloc (.cells #[.bool m0, .slice b ys.length cap'] 25)) (.cells #[.bool false, .slice none 0 0] 25)) (alloc_later _ (.cells #[.bool false, .slice none 0 0] 25))) (by simp)
    simp at e
    exact e
  have HZ1 : Hid (Box ((((w.alloc (.cells #[.bool n, .slice a xs.length cap] 25)).alloc (.cells #[.bool m0, .slice b ys.length cap'] 25)).alloc (.cells #[.bool false, .slice none 0 0] 25)).alloc (.cells #[.bool false, .slice none 0 0] 25)) (w.heap.size + 1 + 1) 25 #[.bool false, .slice none 0 0]) := by
    have e := Box.later (Box.made ((w.alloc (.cells #[.bool n, .slice a xs.length cap] 25)).alloc (.cells #[.bool m0, .slice b ys.length cap'] 25)) 25 #[.bool false, .slice none 0 0]) (alloc_later (((w.alloc (.cells #[.bool n, .slice a xs.length cap] 25)).alloc (.cells #[.bool m0, .slice b ys.length cap'] 25)).alloc (.cells #[.bool false, .slice none 0 0] 25)) (.cells #[.bool false, .slice none 0 0] 25)) (by simp)
    simp at e
    exact e
  have HZ2 : Hid (Box ((((w.alloc (.cells #[.bool n, .slice a xs.length cap] 25)).alloc (.cells #[.bool m0, .slice b ys.length cap'] 25)).alloc (.cells #[.bool false, .slice none 0 0] 25)).alloc (.cells #[.bool false, .slice none 0 0] 25)) (w.heap.size + 1 + 1 + 1) 25 #[.bool false, .slice none 0 0]) := by
    have e := Box.made (((w.alloc (.cells #[.bool n, .slice a xs.length cap] 25)).alloc (.cells #[.bool m0, .slice b ys.length cap'] 25)).alloc (.cells #[.bool false, .slice none 0 0] 25)) 25 #[.bool false, .slice none 0 0]
    simp at e
    exact e
  have HCB := hid (wcheckBoth_any n _ xs m0 _ ys _ (h.later HB.out) (g.later HB.out) (by omega) (by rw [hys]; simp))
  rw [wboth_good hx hy] at HCB
  have hyl : ys.length = 0 := by rw [hys]; rfl
  rw [hyl] at HB HM HZ1 HZ2 HCB ⊢
  clear h g hx hy hyl hys
  go_enter Tryz.func4, Tryz.ntmps4
  go_wp2_with fail
  refine Calls.mono HCB.out ?_
  rintro e w1 ⟨rfl, hb1⟩
  obtain ⟨q0, q1, _, _⟩ := res_box HM.out hb1
  obtain ⟨r0, r1, f0, f1⟩ := res_box HZ1.out hb1
  obtain ⟨s0, s1, g0, g1⟩ := res_box HZ2.out hb1
  have HBW := hid (bt HB.out hb1)
  clear hb1
  go_wp2_with fail
  go_region
  all_goals
    go_wp2_with fail
    refine bodyPost_ret (v := .tuple #[.agg #[.bool false, .slice none 0 0], .agg #[.bool false, .slice none 0 0], .int .i64 7]) (by simp [results, Tryz.results4, go_sem, r0, r1, s0, s1]) rfl ?_
    first
      | exact ⟨rfl, (below_put2 (below_put2 HBW.out _ (by omega) _ _) _ (by omega) _ _).drew⟩
      | exact ⟨rfl, below_put2 (below_put2 HBW.out.drew _ (by omega) _ _) _ (by omega) _ _⟩

/-- What a number of at most 40 words is below. -/
def lim40 : Int := 4294967296 ^ 40
theorem lim40_pos : 0 < lim40 := pw_pos 40
theorem lim40_le : 2 * lim40 ≤ wlim := by
  unfold lim40 wlim
  have e : (4294967296 : Int) ^ (40 + 1) ≤ 4294967296 ^ 2048 := pw_le (by omega)
  rw [pw_succ] at e
  have := pw_pos 40
  generalize (4294967296 : Int) ^ 40 = P at *
  generalize (4294967296 : Int) ^ 2048 = Q at *
  omega
theorem below40 {n : Bool} {zs : List Int} (hw : Wd zs) (hl : zs.length ≤ 40) : -lim40 < wval n zs ∧ wval n zs < lim40 := by
  have h1 := val_lt hw
  have h2 : (4294967296 : Int) ^ zs.length ≤ 4294967296 ^ 40 := pw_le hl
  have h3 := val_nonneg hw
  have h4 : val zs < lim40 := Int.lt_of_lt_of_le h1 h2
  have h5 := lim40_pos
  cases n <;> simp [wval] <;> omega
theorem abs_wval (n : Bool) {xs : List Int} (hw : Wd xs) : ((wval n xs).natAbs : Int) = val xs := by
  have := val_nonneg hw
  cases n <;> simp [wval] <;> omega
/-- A rest below the divisor's size leaves the product no greater than the number and that size. -/
theorem prod_small {X Y Q R : Int} (h : X = Q * Y + R) (hr : R < (Y.natAbs : Int)) (h0 : 0 ≤ R) (hX : -lim40 < X ∧ X < lim40) (hB : -lim40 < Y ∧ Y < lim40) : -wlim < Q * Y ∧ Q * Y < wlim := by
  have := lim40_le
  omega
end Go.Proofs.YtomdkingdniohaaGreatDoor

/- A struct variable that is written: what lies elsewhere stays. -/
namespace Go.Proofs.YtomdkingdniohaaGreatDoor
open Go.RowKit
set_option linter.unusedVariables false

theorem Sl.put2 {U : World} {v : Value} {xs : List Int} {b t : Nat} {n : Bool} {a : Option Addr} {k c : Nat} (h : Sl U v xs) (hb : Box U b t #[.bool n, .slice a k c]) (v0 v1 : Value) : Sl ((U.setCell ⟨b, 0, none⟩ v0).setCell ⟨b, 1, none⟩ v1) v xs := by
  obtain ⟨a', cap, rfl, h1, h2, h3, h4⟩ := h
  refine ⟨a', cap, rfl, h1, h2, ?_, h4⟩
  rcases h3 with h0 | ⟨bb, o, rfl, hlt, hc⟩
  · exact .inl h0
  · by_cases hl : xs.length = 0
    · exact .inl hl
    · right
      have hne : bb ≠ b := fun e => by
        subst e
        have e1 := hc 0 (by omega)
        rw [Nat.add_zero, hb.cell o] at e1
        match o with
        | 0 => simp at e1
        | 1 => simp at e1
        | o + 2 => simp at e1
      refine ⟨bb, o, rfl, by simpa [World.setCell] using hlt, fun j hj => ?_⟩
      have e1 := World.cell?_of_block (w := U) (w' := U.setCell ⟨b, 0, none⟩ v0) (a := ⟨bb, o + j, none⟩) (Below.heap_setCell U ⟨b, 0, none⟩ v0 bb hne)
      have e2 := World.cell?_of_block (w := U.setCell ⟨b, 0, none⟩ v0) (w' := (U.setCell ⟨b, 0, none⟩ v0).setCell ⟨b, 1, none⟩ v1) (a := ⟨bb, o + j, none⟩) (Below.heap_setCell _ ⟨b, 1, none⟩ v1 bb hne)
      rw [e2, e1]
      exact hc j hj
theorem Box.put2 {U : World} {b t : Nat} {u0 u1 : Value} (h : Box U b t #[u0, u1]) (v0 v1 : Value) : Box ((U.setCell ⟨b, 0, none⟩ v0).setCell ⟨b, 1, none⟩ v1) b t #[v0, v1] := (h.set 0 v0).set 1 v1
theorem Box.far2 {U : World} {b t b' : Nat} {vs : Array Value} (h : Box U b t vs) (hne : b ≠ b') (v0 v1 : Value) : Box ((U.setCell ⟨b', 0, none⟩ v0).setCell ⟨b', 1, none⟩ v1) b t vs := (h.other ⟨b', 0, none⟩ v0 hne).other ⟨b', 1, none⟩ v1 hne
theorem own_ne_box {U : World} {base e n b t : Nat} {v : Value} {xs : List Value} {vs : Array Value} (h : U.ownsRow base e 1 v n xs) (hb : Box U b t vs) (hne : e ≠ t) : ∀ g, v.ownBlock = some g → g ≠ b := fun g hg => by
  rcases h.2 with ⟨rfl, _⟩ | ⟨g1, c1, u1, rfl, _, hg1, _⟩
  · simp [Value.ownBlock] at hg
  · simp [Value.ownBlock] at hg
    subst hg
    intro e1
    subst e1
    unfold Box at hb
    rw [hg1] at hb
    simp at hb
    exact hne hb.2
/-- A whole number in memory that may be, in new memory. -/
structure Pb (U : World) (base b : Nat) (n : Bool) (a : Option Addr) (c : Nat) (zs : List Int) : Prop where
  box : Box U b 25 #[.bool n, .slice a zs.length c]
  own : U.ownsRow base 42 1 (.slice a zs.length c) zs.length (zs.map (Value.int .u32))
  wd : Wd zs
  ok : wchk n zs = 0
/-- A whole number in memory that may be. -/
structure Ab (U : World) (b : Nat) (n : Bool) (a : Option Addr) (c : Nat) (xs : List Int) : Prop where
  box : Box U b 25 #[.bool n, .slice a xs.length c]
  sl : Sl U (.slice a xs.length c) xs
  ok : wchk n xs = 0
theorem Pb.later {U V : World} {base b : Nat} {n : Bool} {a : Option Addr} {c : Nat} {zs : List Int} (h : Pb U base b n a c zs) (hb : Below U.heap.size U V) : Pb V base b n a c zs := ⟨h.box.later hb h.box.lt, owns_later h.own hb, h.wd, h.ok⟩
theorem Ab.later {U V : World} {b : Nat} {n : Bool} {a : Option Addr} {c : Nat} {zs : List Int} (h : Ab U b n a c zs) (hb : Below U.heap.size U V) : Ab V b n a c zs := ⟨h.box.later hb h.box.lt, h.sl.later hb, h.ok⟩
theorem Pb.far {U : World} {base b : Nat} {n : Bool} {a : Option Addr} {c : Nat} {zs : List Int} (h : Pb U base b n a c zs) {b' : Nat} {n' : Bool} {a' : Option Addr} {k' c' : Nat} (hb : Box U b' 25 #[.bool n', .slice a' k' c']) (hne : b ≠ b') (v0 v1 : Value) : Pb ((U.setCell ⟨b', 0, none⟩ v0).setCell ⟨b', 1, none⟩ v1) base b n a c zs :=
  ⟨h.box.far2 hne v0 v1, own_put2 h.own b' (own_ne_box h.own hb (by decide)) v0 v1, h.wd, h.ok⟩
theorem Ab.far {U : World} {b : Nat} {n : Bool} {a : Option Addr} {c : Nat} {zs : List Int} (h : Ab U b n a c zs) {b' : Nat} {n' : Bool} {a' : Option Addr} {k' c' : Nat} (hb : Box U b' 25 #[.bool n', .slice a' k' c']) (hne : b ≠ b') (v0 v1 : Value) : Ab ((U.setCell ⟨b', 0, none⟩ v0).setCell ⟨b', 1, none⟩ v1) b n a c zs :=
  ⟨h.box.far2 hne v0 v1, h.sl.put2 hb v0 v1, h.ok⟩
theorem Pb.put {U : World} {base b : Nat} {n' : Bool} {a' : Option Addr} {k' c' : Nat} (hb : Box U b 25 #[.bool n', .slice a' k' c']) {n : Bool} {a : Option Addr} {c : Nat} {zs : List Int} (ho : U.ownsRow base 42 1 (.slice a zs.length c) zs.length (zs.map (Value.int .u32))) (hw : Wd zs) (hk : wchk n zs = 0) :
    Pb ((U.setCell ⟨b, 0, none⟩ (.bool n)).setCell ⟨b, 1, none⟩ (.slice a zs.length c)) base b n a c zs := ⟨hb.put2 _ _, own_put2 ho b (own_ne_box ho hb (by decide)) _ _, hw, hk⟩
theorem Ab.put {U : World} {b : Nat} {n' : Bool} {a' : Option Addr} {k' c' : Nat} (hb : Box U b 25 #[.bool n', .slice a' k' c']) {n : Bool} {a : Option Addr} {c : Nat} {zs : List Int} (hs : Sl U (.slice a zs.length c) zs) (hk : wchk n zs = 0) :
    Ab ((U.setCell ⟨b, 0, none⟩ (.bool n)).setCell ⟨b, 1, none⟩ (.slice a zs.length c)) b n a c zs := ⟨hb.put2 _ _, hs.put2 hb _ _, hk⟩
theorem Pb.c {U : World} {base b : Nat} {n : Bool} {a : Option Addr} {c : Nat} {zs : List Int} (h : Pb U base b n a c zs) : U.cell? ⟨b, 0, none⟩ = some (.bool n) ∧ U.cell? ⟨b, 1, none⟩ = some (.slice a zs.length c) ∧ U.frozen? ⟨b, 0, none⟩ = false ∧ U.frozen? ⟨b, 1, none⟩ = false := ⟨h.box.cell 0, h.box.cell 1, h.box.free 0, h.box.free 1⟩
theorem Ab.c {U : World} {b : Nat} {n : Bool} {a : Option Addr} {c : Nat} {zs : List Int} (h : Ab U b n a c zs) : U.cell? ⟨b, 0, none⟩ = some (.bool n) ∧ U.cell? ⟨b, 1, none⟩ = some (.slice a zs.length c) ∧ U.frozen? ⟨b, 0, none⟩ = false ∧ U.frozen? ⟨b, 1, none⟩ = false := ⟨h.box.cell 0, h.box.cell 1, h.box.free 0, h.box.free 1⟩
theorem Box.c2 {U : World} {b t : Nat} {u0 u1 : Value} (h : Box U b t #[u0, u1]) : U.cell? ⟨b, 0, none⟩ = some u0 ∧ U.cell? ⟨b, 1, none⟩ = some u1 ∧ U.frozen? ⟨b, 0, none⟩ = false ∧ U.frozen? ⟨b, 1, none⟩ = false := ⟨h.cell 0, h.cell 1, h.free 0, h.free 1⟩
theorem wchk_one {n : Bool} {zs : List Int} (l : zs.length ≤ 2048) (t : Trimmed zs) (s : n = false ∨ 0 < zs.length) : wchk n zs = 0 := wchk_good l t s
end Go.Proofs.YtomdkingdniohaaGreatDoor

/- Whole numbers: whole.power, Power: powers of every number, or the error. -/
namespace Go.Proofs.YtomdkingdniohaaGreatDoor
open Go.RowKit
set_option linter.unusedVariables false

theorem natAbs_ge {x y : Int} (h : wlim ≤ x ∨ x ≤ -wlim) (hy : y ≠ 0) : wlim ≤ x * y ∨ x * y ≤ -wlim := by
  have hp := wlim_pos
  have h1 : wlim ≤ (x.natAbs : Int) := by omega
  have h2 : 1 ≤ (y.natAbs : Int) := by omega
  have h3 : (x.natAbs : Int) * 1 ≤ (x.natAbs : Int) * (y.natAbs : Int) := Int.mul_le_mul_of_nonneg_left h2 (by omega)
  have h4 : ((x * y).natAbs : Int) = (x.natAbs : Int) * (y.natAbs : Int) := by rw [Int.natAbs_mul, Int.natCast_mul]
  omega
theorem pow_ne {x : Int} (h : x ≠ 0) (k : Nat) : x ^ k ≠ 0 := by
  induction k with
  | zero => simp
  | succ k ih => rw [Int.pow_succ]; exact Int.mul_ne_zero ih h
theorem pow_half (a : Int) (m : Nat) : a ^ m = (if m % 2 = 1 then a else 1) * (a * a) ^ (m / 2) := by
  have e : (a * a) ^ (m / 2) = a ^ (2 * (m / 2)) := by rw [Int.pow_mul, Int.pow_succ, Int.pow_succ, Int.pow_zero, Int.one_mul]
  rw [e]
  by_cases h : m % 2 = 1
  · rw [if_pos h, Int.mul_comm, ← Int.pow_succ]
    congr 1
    omega
  · rw [if_neg h, Int.one_mul]
    congr 1
    omega
theorem WTells.ok0 {t : Int} {n : Bool} {zs : List Int} {c : Int} (h : WTells 0 t n zs c) (hc : c = 0) : wval n zs = t ∧ wchk n zs = 0 := by
  have hk := wchk_good h.len h.trim h.sign
  by_cases h1 : wlim ≤ t ∨ t ≤ -wlim
  · have := (h.long rfl h1).2.2; omega
  · exact ⟨(h.good rfl (by omega) (by omega)).2, hk⟩
theorem WTells.bad0 {t : Int} {n : Bool} {zs : List Int} {c : Int} (h : WTells 0 t n zs c) (hc : c ≠ 0) : c = 3 ∧ (wlim ≤ t ∨ t ≤ -wlim) := by
  by_cases h1 : wlim ≤ t ∨ t ≤ -wlim
  · exact ⟨(h.long rfl h1).2.2, h1⟩
  · have := (h.good rfl (by omega) (by omega)).1; omega
theorem WTells.tooLong {t : Int} (h : wlim ≤ t ∨ t ≤ -wlim) : WTells 0 t false [] 3 := ⟨Wd.nil, Trimmed.nil, .inl rfl, by simp, fun h' => absurd rfl h', fun _ _ => ⟨rfl, rfl, rfl⟩, fun _ h1 h2 => by rcases h with h | h <;> omega⟩
theorem WTells.is {t : Int} {n : Bool} {zs : List Int} (hw : Wd zs) (hk : wchk n zs = 0) (hv : wval n zs = t) : WTells 0 t n zs 0 := by
  obtain ⟨l, tt, s⟩ := wchk_ok hk
  have hb := below2048 hw l
  have h0 := val_nonneg hw
  refine ⟨hw, tt, s, l, fun h' => absurd rfl h', fun _ h1 => ?_, fun _ _ _ => ⟨rfl, hv⟩⟩
  exfalso
  rw [← hv] at h1
  cases n <;> simp [wval] at h1 <;> omega

set_option maxHeartbeats 6400000 in
set_option maxRecDepth 100000 in
theorem wpower_any (n : Bool) (a : Option Addr) (c : Nat) (xs : List Int) (N : Nat) (w : World) (h : Sl w (.slice a xs.length c) xs) (hk : wchk n xs = 0) (hN : N ≤ 4096) :
    Calls Tryz.prog 29 #[.agg #[.bool n, .slice a xs.length c], .int .i64 (N : Int)] w (WTold w 0 (wval n xs ^ N)) := by
  obtain ⟨V, hV⟩ : ∃ V, wval n xs ^ N = V := ⟨_, rfl⟩
  rw [hV]
  have HB : Hid (Below w.heap.size w ((w.alloc (.cells #[.bool n, .slice a xs.length c] 25)).alloc (.cells #[.bool false, .slice none 0 0] 25))) := bt (alloc_later _ _) (alloc_later _ _)
  have hA : Ab ((w.alloc (.cells #[.bool n, .slice a xs.length c] 25)).alloc (.cells #[.bool false, .slice none 0 0] 25)) w.heap.size n a c xs := ⟨Box.later (Box.made w _ _) (alloc_later _ _) (by simp), h.later HB.out, hk⟩
  have hZ : Box ((w.alloc (.cells #[.bool n, .slice a xs.length c] 25)).alloc (.cells #[.bool false, .slice none 0 0] 25)) (w.heap.size + 1) 25 #[.bool false, .slice none 0 0] := by
    have e := Box.made (w.alloc (.cells #[.bool n, .slice a xs.length c] 25)) 25 #[.bool false, .slice none 0 0]
    simp at e
    exact e
  have HF := hid (And.intro hA hZ)
  have HO := hid (wof_any 1 ((w.alloc (.cells #[.bool n, .slice a xs.length c] 25)).alloc (.cells #[.bool false, .slice none 0 0] 25)) (by omega) (by omega))
  have HV := hid hV
  clear hA hZ h hk hV
  go_enter Tryz.func29, Tryz.ntmps29
  go_wp2_with fail
  refine Calls.mono HO.out ?_
  generalize ((w.alloc (.cells #[.bool n, .slice a xs.length c] 25)).alloc (.cells #[.bool false, .slice none 0 0] 25)) = X at *
  rintro e w1 ⟨np, vp, zp, rfl, o1, wz1, t1, l1, s1, v1, hb1⟩
  obtain ⟨ap, cp, hs⟩ := own_slice' o1
  subst hs
  have hA1 := HF.out.1.later hb1
  have hZ1 := HF.out.2.later hb1 HF.out.2.lt
  obtain ⟨z0, z1, f0, f1⟩ := hZ1.c2
  have hne : w.heap.size ≠ w.heap.size + 1 := by omega
  have hP := Pb.put hZ1 o1 wz1 (wchk_good (by omega) t1 s1) 
  have HA2 := hid (hA1.far hZ1 hne (.bool np) (.slice ap zp.length cp))
  have HP2 : Hid (Pb _ w.heap.size (w.heap.size + 1) np ap cp zp) := ⟨hP.box, owns_base hP.own HB.out.size, hP.wd, hP.ok⟩
  have HB2 := hid (below_put2 (bt HB.out hb1) (w.heap.size + 1) (by omega) (.bool np) (.slice ap zp.length cp))
  have HV1 : Hid (V = wval np zp * wval n xs ^ N) := by show _ = _; rw [v1, Int.one_mul, HV.out]
  have HNZ : Hid (wval n xs = 0 ∨ wval np zp ≠ 0) := .inr (by rw [v1]; decide)
  clear o1 wz1 t1 l1 s1 v1 hb1 hA1 hZ1 hP HO HF HV HB
  go_wp2_with fail
  go_loopw [1] (fun t wr => ∃ (m : Nat) (na : Bool) (aa : Option Addr) (ca : Nat) (za : List Int) (np : Bool) (ap : Option Addr) (cp : Nat) (zp : List Int), m ≤ 4096 ∧ t = .int .i64 m ∧ Hid (Ab wr w.heap.size na aa ca za) ∧ Hid (Pb wr w.heap.size (w.heap.size + 1) np ap cp zp) ∧ Hid (V = wval np zp * wval na za ^ m) ∧ Hid (wval na za = 0 ∨ wval np zp ≠ 0) ∧ Hid (Below w.heap.size w wr)) (fun t _ => (intOf t).toNat)
  case atStart => exact ⟨N, n, a, c, xs, np, ap, cp, zp, hN, rfl, HA2, HP2, HV1, HNZ, HB2⟩
  case round =>
    clear HA2 HP2 HV1 HNZ HB2 z0 z1 f0 f1 hne
    obtain ⟨m, na, aa, ca, za, np, ap, cp, zp, hm, rfl, HA, HP, HVm, HNm, HBU⟩ := hrel
    obtain ⟨q, hq⟩ : ∃ q, m / 2 = q := ⟨_, rfl⟩
    have hdv : (m : Int) / 2 = (q : Int) := by omega
    have hph := pow_half (wval na za) m
    rw [hq] at hph
    by_cases hr : m % 2 = 1
    · have hmd : (m : Int) % 2 = 1 := by omega
      rw [if_pos hr] at hph
      have hmp : 0 < m := by omega
      obtain ⟨y0, y1, yf0, yf1⟩ := HP.out.c
      obtain ⟨x0, x1, xf0, xf1⟩ := HA.out.c
      obtain ⟨la, ta, sa⟩ := wchk_ok HA.out.ok
      obtain ⟨lp, tp, sp⟩ := wchk_ok HP.out.ok
      have HPR := hid (wproduct_any np _ zp na _ za _ (Sl.own HP.out.own HP.out.wd) HA.out.sl lp la tp ta)
      have HPH := hid hph
      clear la ta sa lp tp sp hph
      go_wp2_with fail
      refine Calls.mono HPR.out ?_
      rintro e w2 ⟨n2, v2, z2, c2, rfl, o2, t2, hb2⟩
      obtain ⟨a2, k2, hs⟩ := own_slice' o2
      subst hs
      have HA2 := hid (HA.out.later hb2)
      have HP2 := hid (HP.out.later hb2)
      have HB2 := hid (bt HBU.out hb2)
      have HT2 := hid t2
      have HO2 := hid (owns_base o2 (show w.heap.size ≤ _ from HBU.out.size))
      clear y0 y1 yf0 yf1 x0 x1 xf0 xf1 o2 t2 hb2 HA HP HBU HPR
      obtain ⟨y0, y1, yf0, yf1⟩ := HP2.out.c
      by_cases hc2 : c2 = 0
      · subst hc2
        obtain ⟨v2', k2'⟩ := HT2.out.ok0 rfl
        have HP := hid (Pb.put HP2.out.box HO2.out HT2.out.wd k2')
        have HA := hid (HA2.out.far HP2.out.box (show w.heap.size ≠ w.heap.size + 1 by omega) (.bool n2) (.slice a2 z2.length k2))
        have HBU := hid (below_put2 HB2.out (w.heap.size + 1) (by omega) (.bool n2) (.slice a2 z2.length k2))
        have HVq : Hid (V = wval n2 z2 * (wval na za * wval na za) ^ q) := by show _ = _; rw [HVm.out, HPH.out, v2', Int.mul_assoc]
        have HNq : Hid (wval na za = 0 ∨ wval n2 z2 ≠ 0) := by
          rw [v2']
          rcases HNm.out with e | e
          · exact .inl e
          · by_cases z : wval na za = 0
            · exact .inl z
            · exact .inr (Int.mul_ne_zero e z)
        clear HA2 HP2 HB2 HT2 HO2 v2' k2' HVm HNm HPH hr
        by_cases hq0 : q = 0
        · subst hq0
          obtain ⟨y0, y1, yf0, yf1⟩ := HP.out.c
          have HW : Hid (WTells 0 V n2 z2 0) := WTells.is HP.out.wd HP.out.ok (by rw [HVq.out]; simp)
          have HPN := hid (Pb.put HP.out.box HP.out.own HP.out.wd HP.out.ok)
          have HBN := hid (below_put2 HBU.out (w.heap.size + 1) (by omega) (.bool n2) (.slice a2 z2.length k2))
          clear HVq HNq HA HP HBU
          go_wp2_with fail
          refine bodyPost_ret (v := .tuple #[.agg #[.bool n2, .slice a2 z2.length k2], .int .i64 0]) (by simp [results, Tryz.results29, go_sem, y0, y1]) rfl ?_
          exact ⟨n2, _, z2, 0, rfl, HPN.out.own, HW.out, HBN.out⟩
        · have hqz : ((q : Int) == 0) = false := beq_eq_false_iff_ne.2 (by omega)
          obtain ⟨y0, y1, yf0, yf1⟩ := HP.out.c
          obtain ⟨x0, x1, xf0, xf1⟩ := HA.out.c
          obtain ⟨la, ta, sa⟩ := wchk_ok HA.out.ok
          have HSQ := hid (wproduct_any na _ za na _ za _ HA.out.sl HA.out.sl la la ta ta)
          clear la ta sa
          go_wp2_with fail
          refine Calls.mono HSQ.out ?_
          rintro e w5 ⟨n5, v5, z5, c5, rfl, o5, t5, hb5⟩
          obtain ⟨a5, k5, hs⟩ := own_slice' o5
          subst hs
          have HA5 := hid (HA.out.later hb5)
          have HP5 := hid (HP.out.later hb5)
          have HB5 := hid (bt HBU.out hb5)
          have HT5 := hid t5
          have HS5 := hid (Sl.own o5 t5.wd)
          clear y0 y1 yf0 yf1 x0 x1 xf0 xf1 o5 t5 hb5 HA HP HBU HSQ
          obtain ⟨y0, y1, yf0, yf1⟩ := HP5.out.c
          obtain ⟨x0, x1, xf0, xf1⟩ := HA5.out.c
          by_cases hc5 : c5 = 0
          · subst hc5
            obtain ⟨v5', k5'⟩ := HT5.out.ok0 rfl
            have HAN := hid (Ab.put HA5.out.box HS5.out k5')
            have HPN := hid (HP5.out.far HA5.out.box (show w.heap.size + 1 ≠ w.heap.size by omega) (.bool n5) (.slice a5 z5.length k5))
            have HBN := hid (below_put2 HB5.out w.heap.size (Nat.le_refl _) (.bool n5) (.slice a5 z5.length k5))
            have HVN : Hid (V = wval n2 z2 * wval n5 z5 ^ q) := by show _ = _; rw [v5']; exact HVq.out
            have HNN : Hid (wval n5 z5 = 0 ∨ wval n2 z2 ≠ 0) := by
              rw [v5']
              rcases HNq.out with e | e
              · left; rw [e]; simp
              · exact .inr e
            clear HVq HNq HA5 HP5 HB5 HT5 HS5 v5' k5'
            go_wp2_with fail
            go_roundw
            case rel => exact ⟨q, n5, a5, k5, z5, n2, a2, k2, z2, by omega, rfl, HAN, HPN, HVN, HNN, HBN⟩
            case measure => simp [intOf]; omega
          · obtain ⟨rfl, hlong⟩ := HT5.out.bad0 hc5
            have HW : Hid (WTells 0 V false [] 3) := WTells.tooLong (by
              have hp := wlim_pos
              have hne : wval na za * wval na za ≠ 0 := by omega
              have hna : wval na za ≠ 0 := fun e => hne (by rw [e]; simp)
              have hpn : wval n2 z2 ≠ 0 := HNq.out.resolve_left hna
              obtain ⟨q', hq'⟩ : ∃ q', q = q' + 1 := ⟨q - 1, by omega⟩
              rw [HVq.out, hq', Int.pow_succ, ← Int.mul_assoc, Int.mul_comm]
              exact natAbs_ge hlong (Int.mul_ne_zero hpn (pow_ne hne q')))
            have HPN := hid (HP5.out.far HA5.out.box (show w.heap.size + 1 ≠ w.heap.size by omega) (.bool n5) (.slice a5 z5.length k5))
            have HBN := hid (below_put2 (below_put2 HB5.out w.heap.size (Nat.le_refl _) (.bool n5) (.slice a5 z5.length k5)) (w.heap.size + 1) (by omega) (.bool false) (.slice none 0 0))
            obtain ⟨r0, r1, rf0, rf1⟩ := HPN.out.c
            clear HVq HNq HA5 HP5 HB5 HT5 HS5 hc5 hlong HPN
            go_wp2_with fail
            refine bodyPost_ret (v := .tuple #[.agg #[.bool false, .slice none 0 0], .int .i64 3]) (by simp [results, Tryz.results29, go_sem, r0, r1]) rfl ?_
            exact ⟨false, _, [], 3, rfl, World.ownsRow_nil _ _ _ _, HW.out, HBN.out⟩
      · obtain ⟨rfl, hlong⟩ := HT2.out.bad0 hc2
        have HW : Hid (WTells 0 V false [] 3) := WTells.tooLong (by
          have hp := wlim_pos
          have hne : wval np zp * wval na za ≠ 0 := by omega
          have hna : wval na za ≠ 0 := fun e => hne (by rw [e]; simp)
          rw [HVm.out, HPH.out, ← Int.mul_assoc]
          exact natAbs_ge hlong (pow_ne (Int.mul_ne_zero hna hna) q))
        have HPN := hid (HP2.out.box.put2 (.bool n2) (.slice a2 z2.length k2))
        have HBN := hid (below_put2 (below_put2 HB2.out (w.heap.size + 1) (by omega) (.bool n2) (.slice a2 z2.length k2)) (w.heap.size + 1) (by omega) (.bool false) (.slice none 0 0))
        obtain ⟨r0, r1, rf0, rf1⟩ := HPN.out.c2
        clear HA2 HP2 HB2 HT2 HO2 hc2 hlong HVm HNm HPH hr HPN
        go_wp2_with fail
        refine bodyPost_ret (v := .tuple #[.agg #[.bool false, .slice none 0 0], .int .i64 3]) (by simp [results, Tryz.results29, go_sem, r0, r1]) rfl ?_
        exact ⟨false, _, [], 3, rfl, World.ownsRow_nil _ _ _ _, HW.out, HBN.out⟩
    · have hmd : (m : Int) % 2 = 0 := by omega
      rw [if_neg hr, Int.one_mul] at hph
      have HVq : Hid (V = wval np zp * (wval na za * wval na za) ^ q) := by show _ = _; rw [HVm.out, hph]
      have HNq := hid HNm.out
      have hq1 : q = 0 ∨ 0 < m := by omega
      clear HVm HNm hph hr
      by_cases hq0 : q = 0
      · subst hq0
        obtain ⟨y0, y1, yf0, yf1⟩ := HP.out.c
        have HW : Hid (WTells 0 V np zp 0) := WTells.is HP.out.wd HP.out.ok (by rw [HVq.out]; simp)
        have HPN := hid (Pb.put HP.out.box HP.out.own HP.out.wd HP.out.ok)
        have HBN := hid (below_put2 HBU.out (w.heap.size + 1) (by omega) (.bool np) (.slice ap zp.length cp))
        clear HVq HNq HA HP HBU
        go_wp2_with fail
        refine bodyPost_ret (v := .tuple #[.agg #[.bool np, .slice ap zp.length cp], .int .i64 0]) (by simp [results, Tryz.results29, go_sem, y0, y1]) rfl ?_
        exact ⟨np, _, zp, 0, rfl, HPN.out.own, HW.out, HBN.out⟩
      · have hqz : ((q : Int) == 0) = false := beq_eq_false_iff_ne.2 (by omega)
        obtain ⟨y0, y1, yf0, yf1⟩ := HP.out.c
        obtain ⟨x0, x1, xf0, xf1⟩ := HA.out.c
        obtain ⟨la, ta, sa⟩ := wchk_ok HA.out.ok
        have HSQ := hid (wproduct_any na _ za na _ za _ HA.out.sl HA.out.sl la la ta ta)
        clear la ta sa
        go_wp2_with fail
        refine Calls.mono HSQ.out ?_
        rintro e w5 ⟨n5, v5, z5, c5, rfl, o5, t5, hb5⟩
        obtain ⟨a5, k5, hs⟩ := own_slice' o5
        subst hs
        have HA5 := hid (HA.out.later hb5)
        have HP5 := hid (HP.out.later hb5)
        have HB5 := hid (bt HBU.out hb5)
        have HT5 := hid t5
        have HS5 := hid (Sl.own o5 t5.wd)
        clear y0 y1 yf0 yf1 x0 x1 xf0 xf1 o5 t5 hb5 HA HP HBU HSQ
        obtain ⟨y0, y1, yf0, yf1⟩ := HP5.out.c
        obtain ⟨x0, x1, xf0, xf1⟩ := HA5.out.c
        by_cases hc5 : c5 = 0
        · subst hc5
          obtain ⟨v5', k5'⟩ := HT5.out.ok0 rfl
          have HAN := hid (Ab.put HA5.out.box HS5.out k5')
          have HPN := hid (HP5.out.far HA5.out.box (show w.heap.size + 1 ≠ w.heap.size by omega) (.bool n5) (.slice a5 z5.length k5))
          have HBN := hid (below_put2 HB5.out w.heap.size (Nat.le_refl _) (.bool n5) (.slice a5 z5.length k5))
          have HVN : Hid (V = wval np zp * wval n5 z5 ^ q) := by show _ = _; rw [v5']; exact HVq.out
          have HNN : Hid (wval n5 z5 = 0 ∨ wval np zp ≠ 0) := by
            rw [v5']
            rcases HNq.out with e | e
            · left; rw [e]; simp
            · exact .inr e
          clear HVq HNq HA5 HP5 HB5 HT5 HS5 v5' k5'
          go_wp2_with fail
          go_roundw
          case rel => exact ⟨q, n5, a5, k5, z5, np, ap, cp, zp, by omega, rfl, HAN, HPN, HVN, HNN, HBN⟩
          case measure => simp [intOf]; omega
        · obtain ⟨rfl, hlong⟩ := HT5.out.bad0 hc5
          have HW : Hid (WTells 0 V false [] 3) := WTells.tooLong (by
            have hp := wlim_pos
            have hne : wval na za * wval na za ≠ 0 := by omega
            have hna : wval na za ≠ 0 := fun e => hne (by rw [e]; simp)
            have hpn : wval np zp ≠ 0 := HNq.out.resolve_left hna
            obtain ⟨q', hq'⟩ : ∃ q', q = q' + 1 := ⟨q - 1, by omega⟩
            rw [HVq.out, hq', Int.pow_succ, ← Int.mul_assoc, Int.mul_comm]
            exact natAbs_ge hlong (Int.mul_ne_zero hpn (pow_ne hne q')))
          have HPN := hid (HP5.out.far HA5.out.box (show w.heap.size + 1 ≠ w.heap.size by omega) (.bool n5) (.slice a5 z5.length k5))
          have HBN := hid (below_put2 (below_put2 HB5.out w.heap.size (Nat.le_refl _) (.bool n5) (.slice a5 z5.length k5)) (w.heap.size + 1) (by omega) (.bool false) (.slice none 0 0))
          obtain ⟨r0, r1, rf0, rf1⟩ := HPN.out.c
          clear HVq HNq HA5 HP5 HB5 HT5 HS5 hc5 hlong HPN
          go_wp2_with fail
          refine bodyPost_ret (v := .tuple #[.agg #[.bool false, .slice none 0 0], .int .i64 3]) (by simp [results, Tryz.results29, go_sem, r0, r1]) rfl ?_
          exact ⟨false, _, [], 3, rfl, World.ownsRow_nil _ _ _ _, HW.out, HBN.out⟩

/-- The error of a power. -/
def pwErr (n : Bool) (xs : List Int) (N : Int) : Int := if wchk n xs = 0 then (if N < 0 ∨ 4096 < N then 2 else 0) else wchk n xs

set_option maxHeartbeats 3200000 in
set_option maxRecDepth 100000 in
theorem wPow_any (n : Bool) (v : Value) (xs : List Int) (N : Int) (w : World) (h : Sl w v xs) (hl : xs.length ≤ 281474976710656) (h0 : -9223372036854775808 ≤ N) (h1 : N ≤ 9223372036854775807) :
    Calls Tryz.prog 10 #[.agg #[.bool n, v], .int .i64 N] w (WTold w (pwErr n xs N) (wval n xs ^ N.toNat)) := by
  have HS := hid h
  obtain ⟨a, c, rfl, hr⟩ := h
  clear hr
  have HB : Hid (Below w.heap.size w ((w.alloc (.cells #[.bool n, .slice a xs.length c] 25)).alloc (.cells #[.bool false, .slice none 0 0] 25))) := bt (alloc_later _ _) (alloc_later _ _)
  have HA : Hid (Box ((w.alloc (.cells #[.bool n, .slice a xs.length c] 25)).alloc (.cells #[.bool false, .slice none 0 0] 25)) w.heap.size 25 #[.bool n, .slice a xs.length c]) := Box.later (Box.made w _ _) (alloc_later _ _) (by simp)
  have HZ : Hid (Box ((w.alloc (.cells #[.bool n, .slice a xs.length c] 25)).alloc (.cells #[.bool false, .slice none 0 0] 25)) (w.heap.size + 1) 25 #[.bool false, .slice none 0 0]) := by
    have e := Box.made (w.alloc (.cells #[.bool n, .slice a xs.length c] 25)) 25 #[.bool false, .slice none 0 0]
    simp at e
    exact e
  have HC := hid (wcheck_any n _ xs _ (HS.out.later HB.out) hl)
  by_cases hk : wchk n xs = 0
  · rw [hk] at HC
    by_cases ha : N < 0 ∨ 4096 < N
    · have HE : Hid (pwErr n xs N = 2) := by show _ = _; unfold pwErr; rw [if_pos hk, if_pos ha]
      rw [HE.out]
      have HW := hid (WTells.err (e := 2) (t := wval n xs ^ N.toNat) (by decide))
      clear hk HE HS
      have hab : N < 0 ∨ (¬ N < 0 ∧ 4096 < N) := by omega
      clear ha
      rcases hab with ha | ⟨ha, hb⟩
      all_goals
        go_enter Tryz.func10, Tryz.ntmps10
        go_wp2_with fail
        refine Calls.mono HC.out ?_
        rintro e w1 ⟨rfl, hb1⟩
        obtain ⟨r0, r1, f0, f1⟩ := (HZ.out.later hb1 HZ.out.lt).c2
        have HBN := hid (below_put2 (bt HB.out hb1) (w.heap.size + 1) (by omega) (.bool false) (.slice none 0 0))
        clear hb1 HC
        go_wp2_with fail
        refine bodyPost_ret (v := .tuple #[.agg #[.bool false, .slice none 0 0], .int .i64 2]) (by simp [results, Tryz.results10, go_sem, r0, r1]) rfl ?_
        exact ⟨false, _, [], 2, rfl, World.ownsRow_nil _ _ _ _, HW.out, HBN.out⟩
    · have HE : Hid (pwErr n xs N = 0) := by show _ = _; unfold pwErr; rw [if_pos hk, if_neg ha]
      rw [HE.out]
      have a1 : ¬ N < 0 := by omega
      have a2 : ¬ 4096 < N := by omega
      obtain ⟨M, hM⟩ : ∃ M : Nat, N = (M : Int) := ⟨N.toNat, by omega⟩
      subst hM
      rw [Int.toNat_natCast]
      have HK := hid hk
      clear hk HE ha
      go_enter Tryz.func10, Tryz.ntmps10
      go_wp2_with fail
      refine Calls.mono HC.out ?_
      rintro e w1 ⟨rfl, hb1⟩
      obtain ⟨x0, x1, xf0, xf1⟩ := (HA.out.later hb1 HA.out.lt).c2
      have HZ1 := hid (HZ.out.later hb1 HZ.out.lt)
      have HB1 := hid (bt HB.out hb1)
      have HP := hid (wpower_any n a c xs M w1 (HS.out.later HB1.out) HK.out (by omega))
      clear hb1 HC
      go_wp2_with fail
      refine Calls.mono HP.out ?_
      rintro e w2 ⟨n2, v2, z2, c2, rfl, o2, t2, hb2⟩
      obtain ⟨a2, k2, hs⟩ := own_slice' o2
      subst hs
      have HZ2 := hid (HZ1.out.later hb2 HZ1.out.lt)
      obtain ⟨r0, r1, f0, f1⟩ := HZ2.out.c2
      have HO := hid (own_put2 (owns_base o2 HB1.out.size) (w.heap.size + 1) (own_ne_box o2 HZ2.out (by decide)) (.bool n2) (.slice a2 z2.length k2))
      have HBN := hid (below_put2 (bt HB1.out hb2) (w.heap.size + 1) (by omega) (.bool n2) (.slice a2 z2.length k2))
      have HT := hid t2
      clear hb2 o2 t2 HP x0 x1 xf0 xf1
      go_wp2_with fail
      refine bodyPost_ret (v := .tuple #[.agg #[.bool n2, .slice a2 z2.length k2], .int .i64 c2]) (by simp [results, Tryz.results10, go_sem, r0, r1]) rfl ?_
      exact ⟨n2, _, z2, c2, rfl, HO.out, HT.out, HBN.out⟩
  · have hk' : (wchk n xs == 0) = false := by simpa using hk
    have HE : Hid (pwErr n xs N = wchk n xs) := by show _ = _; unfold pwErr; rw [if_neg hk]
    rw [HE.out]
    have HW := hid (WTells.err (t := wval n xs ^ N.toNat) hk)
    clear hk HE HS
    go_enter Tryz.func10, Tryz.ntmps10
    go_wp2_with fail
    refine Calls.mono HC.out ?_
    rintro e w1 ⟨rfl, hb1⟩
    obtain ⟨r0, r1, f0, f1⟩ := (HZ.out.later hb1 HZ.out.lt).c2
    have HBN := hid (below_put2 (bt HB.out hb1) (w.heap.size + 1) (by omega) (.bool false) (.slice none 0 0))
    clear hb1 HC
    go_wp2_with fail
    refine bodyPost_ret (v := .tuple #[.agg #[.bool false, .slice none 0 0], .int .i64 (wchk n xs)]) (by simp [results, Tryz.results10, go_sem, r0, r1]) rfl ?_
    exact ⟨false, _, [], _, rfl, World.ownsRow_nil _ _ _ _, HW.out, HBN.out⟩
end Go.Proofs.YtomdkingdniohaaGreatDoor

/- nat.smallDivisor: the greatest common divisor where the second number has at most two words, in new memory. -/
namespace Go.Proofs.YtomdkingdniohaaGreatDoor
open Go.RowKit
set_option linter.unusedVariables false

/-- The greatest common divisor, as a whole number. -/
def gcdI (x y : Int) : Int := (Int.gcd x y : Int)
theorem gcdI_zero (x : Int) (h : 0 ≤ x) : gcdI x 0 = x := by unfold gcdI; rw [Int.gcd_zero_right]; omega
theorem gcdI_comm (x y : Int) : gcdI x y = gcdI y x := by unfold gcdI; rw [Int.gcd_comm]
theorem gcdI_mod (x y : Int) : gcdI x y = gcdI y (x % y) := by
  unfold gcdI
  congr 1
  have e := Int.mul_ediv_add_emod x y
  have h : Int.gcd y x = Int.gcd y (x % y) := by
    have h2 : Int.gcd y (x / y * y + x % y) = Int.gcd y (x % y) := Int.gcd_mul_right_add_right y (x % y) (x / y)
    rw [Int.mul_comm, e] at h2
    exact h2
  rw [Int.gcd_comm, h]
theorem gcdI_rest {x y q r : Int} (h : x = q * y + r) : gcdI x y = gcdI y r := by
  unfold gcdI
  congr 1
  rw [Int.gcd_comm, h]
  exact Int.gcd_mul_right_add_right y r q

/-- One number, in new memory. -/
def Told1 (w : World) (t : Int) (x : Ending) (w' : World) : Prop := ∃ v zs, x = .returned v ∧ w'.ownsRow w.heap.size 42 1 v zs.length (zs.map (Value.int .u32)) ∧ Wd zs ∧ Trimmed zs ∧ val zs = t ∧ Below w.heap.size w w'

theorem val_le2 {ys : List Int} (hw : Wd ys) (h : ys.length ≤ 2) : val ys ≤ 18446744073709551615 := by
  have h1 := val_lt hw
  have h2 : (4294967296 : Int) ^ ys.length ≤ 4294967296 ^ 2 := pw_le h
  omega
theorem u64of_eq {ys : List Int} (h : ys.length ≤ 2) : u64of ys = val ys := by
  unfold u64of
  rw [if_pos (by have := sz_le ys; omega)]

set_option maxHeartbeats 1600000 in
set_option maxRecDepth 100000 in
theorem smallDivisor_any (v u : Value) (xs ys : List Int) (w : World) (h : Sl w v xs) (g : Sl w u ys) (hn : xs.length ≤ 8192) (hx : Trimmed xs) (hy : Trimmed ys) (hl : ys.length ≤ 2) :
    Calls Tryz.prog 70 #[v, u] w (Told1 w (gcdI (val xs) (val ys))) := by
  have wx := h.wd
  have wy := g.wd
  by_cases h0 : ys.length = 0
  · have hz : ys = [] := List.eq_nil_of_length_eq_zero h0
    subst hz
    have HT := hid (trim_sl v xs w h (by omega))
    rw [show sz xs = xs.length from hx, trimmed_of hx] at HT
    have HG : Hid (val xs = gcdI (val xs) (val [])) := by show _ = _; rw [val_nil, gcdI_zero _ (val_nonneg wx)]
    obtain ⟨b, cap', rfl, gr⟩ := g
    clear h gr h0
    go_enter Tryz.func70, Tryz.ntmps70
    go_wp2_with fail
    refine Calls.mono HT.out ?_
    rintro e w1 ⟨v1, rfl, o1, hb⟩
    have HO := hid o1
    clear o1
    go_wp2_with fail
    go_ret
    exact ⟨v1, xs, rfl, HO.out, wx, hx, HG.out, hb⟩
  · have HD := hid (divide_any v u xs ys w h g hn (by omega) hx hy (by omega))
    have HGS := hid g
    obtain ⟨b, cap', rfl, gr⟩ := g
    have hz : ((ys.length : Int) == 0) = false := by simp; exact fun e => h0 (by rw [e]; rfl)
    clear h gr h0
    go_enter Tryz.func70, Tryz.ntmps70
    go_wp2_with fail
    refine Calls.mono HD.out ?_
    rintro e w1 ⟨v1, u1, q, r, c, rfl, oq, orr, _, _, _, _, wq, wR, tq, tr, hv, hlt, hb⟩
    have sR := Sl.own orr wR
    have lr : r.length ≤ 2 := len_of_lt wR tr (by have h1 := val_lt wy; have h2 : (4294967296 : Int) ^ ys.length ≤ 4294967296 ^ 2 := pw_le hl; omega)
    have HU1 := hid (uint64_sl _ ys w1 (HGS.out.later hb) (by omega))
    rw [u64of_eq hl] at HU1
    have HGG := hid (gcdI_rest hv)
    have HSR := hid sR
    have py := val_le2 wy hl
    have pr := val_le2 wR lr
    have py0 := val_nonneg wy
    have pr0 := val_nonneg wR
    obtain ⟨Y, hY⟩ : ∃ Y, val ys = Y := ⟨_, rfl⟩
    obtain ⟨R, hR⟩ : ∃ R, val r = R := ⟨_, rfl⟩
    rw [hY] at HU1 HGG py py0 ⊢
    rw [hR] at HGG pr pr0
    have HR := hid hR
    have HY := hid hY
    clear oq orr hv hlt sR HD HGS hY hR
    go_wp2_with fail
    refine Calls.mono HU1.out ?_
    rintro e w2 ⟨rfl, hb2⟩
    have HU2 := hid (uint64_sl _ r w2 (HSR.out.later hb2) (by omega))
    rw [u64of_eq lr, HR.out] at HU2
    have hb3 := bt hb hb2
    clear hb hb2 HU1 HSR
    go_wp2_with fail
    refine Calls.mono HU2.out ?_
    rintro e w3 ⟨rfl, hb2⟩
    have hb := bt hb3 hb2
    clear hb3 hb2 HU2
    go_wp2_with fail
    go_loopw [7, 9] (fun c d ww => ∃ (p q : Int), c = .int .u64 p ∧ d = .int .u64 q ∧ 0 ≤ p ∧ p ≤ 18446744073709551615 ∧ 0 ≤ q ∧ q ≤ 18446744073709551615 ∧ Hid (gcdI p q = gcdI (val xs) Y) ∧ Below w.heap.size w ww) (fun _ d _ => (intOf d).toNat)
    case atStart => exact ⟨Y, R, rfl, rfl, py0, py, pr0, pr, HGG.out.symm, hb⟩
    case round =>
      obtain ⟨p, q, rfl, rfl, p0, p1, q0, q1, HG, hbw⟩ := hrel
      by_cases hq : q = 0
      · subst hq
        have HF : Hid (p = gcdI (val xs) Y) := by show _ = _; rw [← HG.out, gcdI_zero p p0]
        have HOF := hid (of_any p wr p0 p1)
        go_wp2_with fail
        refine Calls.mono HOF.out ?_
        rintro e w4 ⟨v4, rfl, o4, hb4⟩
        have HO := hid (owns_base (owns_len o4) hbw.size)
        have hb5 := bt hbw hb4
        clear o4 hb4 HOF
        go_wp2_with fail
        go_ret
        exact ⟨v4, _, rfl, HO.out, (of_wd p p0 p1).trimmed, Trimmed.trimmed _, by rw [val_trimmed, val_two, HY.out, ← HF.out]; omega, hb5⟩
      · have hne : (q != 0) = true := by simp [hq]
        have m0 : 0 ≤ p % q := Int.emod_nonneg _ hq
        have m1 : p % q < q := Int.emod_lt_of_pos _ (by omega)
        have HG' : Hid (gcdI q (p % q) = gcdI (val xs) Y) := by show _ = _; rw [← gcdI_mod]; exact HG.out
        go_wp2_with fail
        go_quiet (fail)
        go_wp2_with fail
        go_roundw
        case rel => exact ⟨q, p % q, rfl, by go_num, q0, q1, m0, by omega, HG', bdn hbw _⟩
        case measure => simp [intOf]; omega
end Go.Proofs.YtomdkingdniohaaGreatDoor

/- nat.leap: one more of Euclid's steps, and whether it holds. -/
namespace Go.Proofs.YtomdkingdniohaaGreatDoor
open Go.RowKit
set_option linter.unusedVariables false

set_option maxHeartbeats 400000 in
set_option maxRecDepth 100000 in
theorem sizeOf_any (x : Int) (w : World) (h0 : -4611686018427387904 ≤ x) (h1 : x ≤ 4611686018427387904) :
    Calls Tryz.prog 92 #[.int .i64 x] w fun e w' => e = .returned (.int .i64 (x.natAbs : Int)) ∧ w = w' := by
  by_cases h : x < 0
  · go_enter Tryz.func92, Tryz.ntmps92
    go_wp2_with fail
    go_ret
    exact ⟨ret_int (by omega), rfl⟩
  · go_enter Tryz.func92, Tryz.ntmps92
    go_wp2_with fail
    go_ret
    exact ⟨ret_int (by omega), rfl⟩

/-- A leap's value. -/
def leapV (s a b c d : Int) : Value := .agg #[.int .i64 s, .int .i64 a, .int .i64 b, .int .i64 c, .int .i64 d]

set_option maxHeartbeats 800000 in
set_option maxRecDepth 100000 in
theorem step_any (s a b c d q : Int) (w : World) (hs : 0 ≤ s ∧ s ≤ 4611686018427387904) (h1 : IntKind.i64.wrap (q * c) = q * c) (h2 : IntKind.i64.wrap (q * d) = q * d) (h3 : IntKind.i64.wrap (a - q * c) = a - q * c) (h4 : IntKind.i64.wrap (b - q * d) = b - q * d) :
    Calls Tryz.prog 81 #[.agg #[.int .i64 s, .int .i64 a, .int .i64 b, .int .i64 c, .int .i64 d], .int .i64 q] w fun e w' => e = .returned (.agg #[.int .i64 (s + 1), .int .i64 c, .int .i64 d, .int .i64 (a - q * c), .int .i64 (b - q * d)]) ∧ Below w.heap.size w w' := by
  go_enter Tryz.func81, Tryz.ntmps81
  go_wp2_with fail
  go_returns
  exact ⟨rfl, bt (alloc_later _ _) (alloc_later _ _)⟩

set_option maxHeartbeats 800000 in
set_option maxRecDepth 100000 in
theorem holds_any (s a b c d p q : Int) (w : World) (hb : -4611686018427387904 ≤ b ∧ b ≤ 4611686018427387904) (hd : -4611686018427387904 ≤ d ∧ d ≤ 4611686018427387904) (hp : 0 ≤ p ∧ p ≤ 4611686018427387904) (hq : 0 ≤ q ∧ q ≤ 4611686018427387904)
    (hsum : (b.natAbs : Int) + (d.natAbs : Int) ≤ 9223372036854775807) :
    Calls Tryz.prog 82 #[.agg #[.int .i64 s, .int .i64 a, .int .i64 b, .int .i64 c, .int .i64 d], .int .i64 p, .int .i64 q] w fun e w' => e = .returned (.bool (decide ((d.natAbs : Int) ≤ q ∧ (b.natAbs : Int) + (d.natAbs : Int) ≤ p - q))) ∧ Below w.heap.size w w' := by
  have HB := hid (fun ww => Calls.mono (sizeOf_any b ww hb.1 hb.2) (R' := fun e w' => e = .returned (.int .i64 (b.natAbs : Int)) ∧ w' = ww) (fun _ _ h => ⟨h.1, h.2.symm⟩))
  have HD := hid (fun ww => Calls.mono (sizeOf_any d ww hd.1 hd.2) (R' := fun e w' => e = .returned (.int .i64 (d.natAbs : Int)) ∧ w' = ww) (fun _ _ h => ⟨h.1, h.2.symm⟩))
  have f0 : 0 ≤ (b.natAbs : Int) := by omega
  have s0 : 0 ≤ (d.natAbs : Int) := by omega
  obtain ⟨F, hF⟩ : ∃ F : Int, (b.natAbs : Int) = F := ⟨_, rfl⟩
  obtain ⟨S, hS⟩ : ∃ S : Int, (d.natAbs : Int) = S := ⟨_, rfl⟩
  rw [hF] at HB f0 hsum ⊢
  rw [hS] at HD s0 hsum ⊢
  clear hF hS hb hd
  by_cases c1 : S ≤ q
  · by_cases c2 : F + S ≤ p - q
    · have HR : Hid (decide (S ≤ q ∧ F + S ≤ p - q) = true) := decide_eq_true ⟨c1, c2⟩
      go_enter Tryz.func82, Tryz.ntmps82
      go_wp2_with fail
      go_quiet ((go_at_call 92; first | exact Calls.quiet_of_same (HB.out _) | exact Calls.quiet_of_same (HD.out _)))
      go_wp2_with fail
      go_returns
      exact ⟨ret_bool (by first | exact HR.out.symm | (simp; omega)), bdn (alloc_later _ _) _⟩
    · have HR : Hid (decide (S ≤ q ∧ F + S ≤ p - q) = false) := decide_eq_false (fun h => c2 h.2)
      go_enter Tryz.func82, Tryz.ntmps82
      go_wp2_with fail
      go_quiet ((go_at_call 92; first | exact Calls.quiet_of_same (HB.out _) | exact Calls.quiet_of_same (HD.out _)))
      go_wp2_with fail
      go_returns
      exact ⟨ret_bool (by first | exact HR.out.symm | (simp; omega)), bdn (alloc_later _ _) _⟩
  · have HR : Hid (decide (S ≤ q ∧ F + S ≤ p - q) = false) := decide_eq_false (fun h => c1 h.1)
    go_enter Tryz.func82, Tryz.ntmps82
    go_wp2_with fail
    go_quiet ((go_at_call 92; first | exact Calls.quiet_of_same (HB.out _) | exact Calls.quiet_of_same (HD.out _)))
    go_wp2_with fail
    go_returns
    exact ⟨ret_bool (by first | exact HR.out.symm | (simp; omega)), bdn (alloc_later _ _) _⟩
end Go.Proofs.YtomdkingdniohaaGreatDoor

/- nat.highest: the highest 62 bits of three words or more, moved up by the first one's noughts. -/
namespace Go.Proofs.YtomdkingdniohaaGreatDoor
open Go.RowKit
set_option linter.unusedVariables false

theorem val_three (xs : List Int) (e : Nat) (h : xs.length = e + 3) : val xs = valTo xs e + (xs[e]?.getD 0 + (xs[e + 1]?.getD 0 + xs[e + 2]?.getD 0 * 4294967296) * 4294967296) * 4294967296 ^ e := by
  have := seg_three xs 0 e
  rw [segTo_zero, segTo_zero] at this
  simp only [Nat.zero_add] at this
  unfold val
  rw [h]
  exact this
/-- The top three words, moved down. -/
theorem high_value (h2 h1 h0 : Int) (s : Nat) (hs : s ≤ 31) (b0 : 0 ≤ h0) : ((h1 + h2 * 4294967296) * 2 ^ s + h0 / 2 ^ (32 - s)) / 4 = (h0 + (h1 + h2 * 4294967296) * 4294967296) / 2 ^ (34 - s) := by
  have p := two_pos (32 - s)
  have e1 : (2 : Int) ^ (34 - s) = 2 ^ (32 - s) * 4 := by rw [show 34 - s = (32 - s) + 2 by omega, Int.pow_add]; rfl
  have e2 : (4294967296 : Int) = 2 ^ s * 2 ^ (32 - s) := two_split s (by omega)
  have e3 : (h0 + (h1 + h2 * 4294967296) * 4294967296) / 2 ^ (32 - s) = (h1 + h2 * 4294967296) * 2 ^ s + h0 / 2 ^ (32 - s) := by
    have : (h1 + h2 * 4294967296) * 4294967296 = (h1 + h2 * 4294967296) * 2 ^ s * 2 ^ (32 - s) := by rw [Int.mul_assoc, ← e2]
    rw [this, Int.add_mul_ediv_right _ _ (by omega)]
    omega
  rw [e1, ← Int.ediv_ediv_of_nonneg (by omega), e3]

theorem or_shl (c x : Int) (t : Nat) (c0 : 0 ≤ c) (c1 : c < 2 ^ t) (x0 : 0 ≤ x) (hp : x * 2 ^ t + c ≤ 18446744073709551615) : bits BinOp.or IntKind.u64 (x * 2 ^ t) c = x * 2 ^ t + c := by
  have h1 := two_pos t
  have h3 : 0 ≤ x * 2 ^ t := Int.mul_nonneg x0 (Int.le_of_lt h1)
  obtain ⟨C, rfl⟩ := Int.eq_ofNat_of_zero_le c0
  obtain ⟨X, rfl⟩ := Int.eq_ofNat_of_zero_le x0
  have e1 : (X : Int) * 2 ^ t = ((X * 2 ^ t : Nat) : Int) := by rw [Int.natCast_mul, Int.natCast_pow]; rfl
  have e2 : ((2 ^ t : Nat) : Int) = 2 ^ t := by rw [Int.natCast_pow]; rfl
  rw [e1] at hp ⊢
  rw [← e2] at c1
  rw [u64_or _ _ (by omega) (by omega) (by omega) (by omega), Int.toNat_natCast, Int.toNat_natCast, nat_join t _ _ (Nat.mul_mod_left _ _) (Int.ofNat_lt.1 c1)]
  omega

set_option maxHeartbeats 800000 in
set_option maxRecDepth 100000 in
theorem highest_any (a : Option Addr) (e cap : Nat) (xs : List Int) (s : Nat) (w : World) (h : Reads w w.heap.size a (e + 3) cap xs) (hn : e ≤ 8192) (hs : s ≤ 31) (hfit : xs[e + 2]?.getD 0 * 2 ^ s < 4294967296) :
    Calls Tryz.prog 80 #[.slice a (e + 3) cap, .int .i64 s] w fun x w' => x = .returned (.int .i64 (val xs / 4294967296 ^ e / 2 ^ (34 - s))) ∧ 0 ≤ val xs / 4294967296 ^ e / 2 ^ (34 - s) ∧ val xs / 4294967296 ^ e / 2 ^ (34 - s) < 4611686018427387904 ∧ Below w.heap.size w w' := by
  rcases h.2.2.1 with h0 | ⟨b2, o2, rfl, hb2, hc2⟩
  · omega
  · have hwz := h.2.1
    have c2 := hc2 (e + 2) (by omega)
    have c1 := hc2 (e + 1) (by omega)
    have c0 := hc2 e (by omega)
    have b2' := hwz.at (e + 2)
    have b1' := hwz.at (e + 1)
    have b0' := hwz.at e
    have hv := val_three xs e h.1
    have vb := valTo_bounds hwz e
    have hT : val xs / 4294967296 ^ e = xs[e]?.getD 0 + (xs[e + 1]?.getD 0 + xs[e + 2]?.getD 0 * 4294967296) * 4294967296 := by
      rw [hv, Int.add_mul_ediv_right _ _ (by have := pw_pos e; omega), Int.ediv_eq_zero_of_lt vb.1 vb.2]
      omega
    rw [hT]
    generalize xs[e + 2]?.getD 0 = H2 at *
    generalize xs[e + 1]?.getD 0 = H1 at *
    generalize xs[e]?.getD 0 = H0 at *
    rw [← high_value H2 H1 H0 s hs b0'.1]
    obtain ⟨t, ht⟩ : ∃ t, t = H1 + H2 * 4294967296 := ⟨_, rfl⟩
    have hor : bits BinOp.or IntKind.u64 (H2 * 4294967296) H1 = t := by rw [or_join H2 _ b2'.1 b2'.2 b1'.1 b1'.2, ht]
    rw [← ht]
    have ps := two_pos s
    have pr := two_pos (32 - s)
    have t0 : 0 ≤ t := by omega
    obtain ⟨r, hr⟩ : ∃ r : Nat, r = 32 - s := ⟨_, rfl⟩
    have hri : (32 : Int) - (s : Int) = (r : Int) := by omega
    have e2 : (4294967296 : Int) = 2 ^ s * 2 ^ r := by rw [hr]; exact two_split s (by omega)
    rw [← hr] at pr ⊢
    have hH : H2 + 1 ≤ 2 ^ r := Int.lt_of_mul_lt_mul_left (show 2 ^ s * H2 < 2 ^ s * 2 ^ r by rw [← e2, Int.mul_comm]; exact hfit) (by omega)
    have hts : (t + 1) * 2 ^ s ≤ 18446744073709551616 := by
      have a1 : (t + 1) * 2 ^ s ≤ (H2 + 1) * 4294967296 * 2 ^ s := Int.mul_le_mul_of_nonneg_right (by omega) (by omega)
      have a2 : (H2 + 1) * 2 ^ s ≤ 2 ^ r * 2 ^ s := Int.mul_le_mul_of_nonneg_right hH (by omega)
      rw [Int.mul_comm (2 ^ r), ← e2] at a2
      rw [Int.mul_assoc, Int.mul_comm 4294967296, ← Int.mul_assoc] at a1
      omega
    rw [Int.add_mul, Int.one_mul] at hts
    have k0 : 0 ≤ H0 / 2 ^ r := Int.ediv_nonneg b0'.1 (by omega)
    have k1 : H0 / 2 ^ r < 2 ^ s := Int.ediv_lt_of_lt_mul pr (by rw [← e2]; omega)
    have m0 : 0 ≤ t * 2 ^ s := Int.mul_nonneg t0 (by omega)
    have hor2 := or_shl (H0 / 2 ^ r) t s k0 k1 t0 (by omega)
    obtain ⟨k, hk⟩ : ∃ k, H0 / 2 ^ r = k := ⟨_, rfl⟩
    obtain ⟨m, hm⟩ : ∃ m, t * 2 ^ s = m := ⟨_, rfl⟩
    rw [hk] at k0 k1 hor2 ⊢
    rw [hm] at m0 hts hor2 ⊢
    obtain ⟨u, hu⟩ : ∃ u, m + k = u := ⟨_, rfl⟩
    rw [hu] at hor2 ⊢
    have u0 : 0 ≤ u := by omega
    have u1 : u ≤ 18446744073709551615 := by omega
    have m1 : m ≤ 18446744073709551615 := by omega
    have t1 : t ≤ 18446744073709551615 := by omega
    have HPS := hid ps
    clear hc2 h hv vb hT hfit e2 hH hr hu hts k1 ps pr ht
    go_enter Tryz.func80, Tryz.ntmps80
    go_wp2_with fail
    go_quiet (fail)
    go_wp2_with fail
    go_quiet (fail)
    go_wp2_with fail
    go_ret
    exact ⟨ret_int (by omega), by omega, by omega, by first | exact bdn (Below.refl _ _) _ | exact bdn (bdn (Below.refl _ _) _) _⟩
end Go.Proofs.YtomdkingdniohaaGreatDoor

/- (nat.leap).apply: two numbers in own memory become two sums of multiples of them. -/
namespace Go.Proofs.YtomdkingdniohaaGreatDoor
open Go.RowKit
set_option linter.unusedVariables false

theorem OwnC.drewN {w : World} {base g n cap : Nat} {ys : List Int} (h : OwnC w base g n cap ys) (m : Nat) : OwnC (w.drewN m) base g n cap ys := h

theorem OwnC.base {w : World} {base g n cap : Nat} {ys : List Int} (h : OwnC w base g n cap ys) : base ≤ g ∧ g < w.heap.size := World.ownsRow.lt h g rfl

theorem apply_step (xs ys us : List Int) (k : Nat) (a b c p1 p2 T : Int) (hk : k < us.length) (h1 : a * xs[k]?.getD 0 = p1) (h2 : b * ys[k]?.getD 0 = p2) (hT : c + (p1 + p2) = T)
    (h : valTo us k + c * 4294967296 ^ k = a * valTo xs k + b * valTo ys k) :
    valTo (us.set k (T % 4294967296)) (k + 1) + T / 4294967296 * 4294967296 ^ (k + 1) = a * valTo xs (k + 1) + b * valTo ys (k + 1) := by
  rw [valTo_set us k _ hk, valTo_succ xs, valTo_succ ys, pw_succ, Int.mul_add, Int.mul_add, ← Int.mul_assoc a, ← Int.mul_assoc b, h1, h2]
  have e := carry_step (4294967296 ^ k) (T % 4294967296) (T / 4294967296) T (by omega)
  have e2 : T * 4294967296 ^ k = c * 4294967296 ^ k + (p1 * 4294967296 ^ k + p2 * 4294967296 ^ k) := by
    rw [← hT, Int.add_mul, Int.add_mul]
  omega

/-- Two factors of unlike signs, below 2^31 in size. -/
def Coef (a b : Int) : Prop := (0 ≤ a ∧ a ≤ 2147483647 ∧ -2147483647 ≤ b ∧ b ≤ 0) ∨ (-2147483647 ≤ a ∧ a ≤ 0 ∧ 0 ≤ b ∧ b ≤ 2147483647)
theorem coef_pos (a v : Int) (h0 : 0 ≤ a) (h1 : a ≤ 2147483647) (v0 : 0 ≤ v) (v1 : v ≤ 4294967295) : 0 ≤ a * v ∧ a * v ≤ 9223372030412324865 := by
  have e1 := Int.mul_nonneg h0 v0
  have e2 : a * v ≤ 2147483647 * v := Int.mul_le_mul_of_nonneg_right h1 v0
  omega
theorem coef_neg (a v : Int) (h0 : -2147483647 ≤ a) (h1 : a ≤ 0) (v0 : 0 ≤ v) (v1 : v ≤ 4294967295) : -9223372030412324865 ≤ a * v ∧ a * v ≤ 0 := by
  have := coef_pos (-a) v (by omega) (by omega) v0 v1
  rw [Int.neg_mul] at this
  omega
theorem Coef.bounds {a b : Int} (h : Coef a b) {v w p1 p2 : Int} (v0 : 0 ≤ v ∧ v ≤ 4294967295) (w0 : 0 ≤ w ∧ w ≤ 4294967295) (h1 : a * v = p1) (h2 : b * w = p2) :
    (-9223372030412324865 ≤ p1 ∧ p1 ≤ 9223372030412324865) ∧ (-9223372030412324865 ≤ p2 ∧ p2 ≤ 9223372030412324865) ∧ (-9223372030412324865 ≤ p1 + p2 ∧ p1 + p2 ≤ 9223372030412324865) := by
  rcases h with ⟨a0, a1, b0, b1⟩ | ⟨a0, a1, b0, b1⟩
  · have e1 := coef_pos a v a0 a1 v0.1 v0.2
    have e2 := coef_neg b w b0 b1 w0.1 w0.2
    omega
  · have e1 := coef_neg a v a0 a1 v0.1 v0.2
    have e2 := coef_pos b w b0 b1 w0.1 w0.2
    omega
theorem Coef.wide {a b : Int} (h : Coef a b) : (-2147483647 ≤ a ∧ a ≤ 2147483647) ∧ (-2147483647 ≤ b ∧ b ≤ 2147483647) := by
  rcases h with h | h <;> omega

/-- What is left of a number when nothing is carried out. -/
theorem apply_end {us : List Int} (hw : Wd us) (n : Nat) (c V : Int) (hl : us.length = n) (h0 : 0 ≤ V) (h1 : V < 4294967296 ^ n) (h : valTo us n + c * 4294967296 ^ n = V) : val us = V := by
  have b := valTo_bounds hw n
  have hp := pw_pos n
  have hc : c = 0 := by
    have e1 : c * 4294967296 ^ n < 1 * 4294967296 ^ n := by omega
    have e2 : (-1) * 4294967296 ^ n < c * 4294967296 ^ n := by omega
    have e3 := Int.lt_of_mul_lt_mul_right e1 (by omega)
    have e4 := Int.lt_of_mul_lt_mul_right e2 (by omega)
    omega
  rw [hc] at h
  rw [← valTo_stable us n (by omega)]
  omega

set_option maxHeartbeats 3200000 in
set_option maxRecDepth 100000 in
theorem apply_any (base gx gy n capx capy : Nat) (xs ys : List Int) (s a b c d : Int) (w : World) (hx : OwnC w base gx n capx xs) (hy : OwnC w base gy n capy ys) (hne : gx ≠ gy) (wx : Wd xs) (wy : Wd ys) (hn : n ≤ 8192)
    (h1 : Coef a b) (h2 : Coef c d) (x0 : 0 ≤ a * val xs + b * val ys) (x1 : a * val xs + b * val ys < 4294967296 ^ n) (y0 : 0 ≤ c * val xs + d * val ys) (y1 : c * val xs + d * val ys < 4294967296 ^ n) :
    Calls Tryz.prog 68 #[.agg #[.int .i64 s, .int .i64 a, .int .i64 b, .int .i64 c, .int .i64 d], .slice (some ⟨gx, 0, none⟩) n capx, .slice (some ⟨gy, 0, none⟩) n capy] w fun e w' => ∃ us vs, e = .returned (.tuple #[]) ∧ OwnC w' base gx n capx us ∧ OwnC w' base gy n capy vs ∧ Wd us ∧ Wd vs ∧
      val us = a * val xs + b * val ys ∧ val vs = c * val xs + d * val ys ∧ Below base w w' := by
  have bx := hx.base
  have by' := hy.base
  have cx := hx.cap
  have cy := hy.cap
  have lx := hx.len
  have ly := hy.len
  unfold maxLen at cx cy
  have HX0 := hid (And.intro x0 (And.intro x1 (And.intro y0 y1)))
  have HL := hid (And.intro lx ly)
  have hne2 : ¬ gx = gy := hne
  have hne3 : ¬ gy = gx := fun e => hne e.symm
  have HOX := hid (owns_later hx (alloc_later w (.cells #[.int .i64 s, .int .i64 a, .int .i64 b, .int .i64 c, .int .i64 d] 99)))
  have HOY := hid (owns_later hy (alloc_later w (.cells #[.int .i64 s, .int .i64 a, .int .i64 b, .int .i64 c, .int .i64 d] 99)))
  have HBX := hid (Box.made w 99 #[.int .i64 s, .int .i64 a, .int .i64 b, .int .i64 c, .int .i64 d])
  have HW := hid (And.intro h1.wide h2.wide)
  have H1 := hid h1
  have H2 := hid h2
  clear x0 x1 y0 y1 hx hy lx ly h1 h2 hne
  have hncy : n ≤ capy := cy.1
  go_enter Tryz.func68, Tryz.ntmps68
  go_wp2_with fail
  go_loopw [6, 7, 17] (fun cu cv t wr => ∃ (k : Nat) (c1 c2 : Int) (us vs : List Int), k ≤ n ∧ t = .int .i64 k ∧ cu = .int .i64 c1 ∧ cv = .int .i64 c2 ∧ -2147483647 ≤ c1 ∧ c1 ≤ 2147483647 ∧ -2147483647 ≤ c2 ∧ c2 ≤ 2147483647 ∧ Wd us ∧ Wd vs ∧
    Hid (valTo us k + c1 * 4294967296 ^ k = a * valTo xs k + b * valTo ys k) ∧ Hid (valTo vs k + c2 * 4294967296 ^ k = c * valTo xs k + d * valTo ys k) ∧ Hid (∀ j, k ≤ j → us[j]?.getD 0 = xs[j]?.getD 0 ∧ vs[j]?.getD 0 = ys[j]?.getD 0) ∧
    OwnC wr base gx n capx us ∧ OwnC wr base gy n capy vs ∧ Box wr w.heap.size 99 #[.int .i64 s, .int .i64 a, .int .i64 b, .int .i64 c, .int .i64 d] ∧ Below base w wr) (fun _ _ t _ => n - (intOf t).toNat)
  case atStart => exact ⟨0, 0, 0, xs, ys, by omega, rfl, rfl, rfl, by omega, by omega, by omega, by omega, wx, wy, show _ = _ by simp [valTo], show _ = _ by simp [valTo], fun _ _ => ⟨rfl, rfl⟩, HOX.out, HOY.out, HBX.out, (alloc_later _ _).mono (by omega)⟩
  case round =>
    obtain ⟨k, c1, c2, us, vs, hk, rfl, rfl, rfl, c10, c11, c20, c21, wu, wv, HV1, HV2, HK, ou, ov, hbox, hbel⟩ := hrel
    by_cases hlt : k < n
    · have u1 := ou.cell k hlt
      have v1 := ov.cell k hlt
      have fu := ou.free k
      have fv := ov.free k
      have q1 : wr.cell? ⟨w.heap.size, 1, none⟩ = some (.int .i64 a) := hbox.cell 1
      have q2 : wr.cell? ⟨w.heap.size, 2, none⟩ = some (.int .i64 b) := hbox.cell 2
      have q3 : wr.cell? ⟨w.heap.size, 3, none⟩ = some (.int .i64 c) := hbox.cell 3
      have q4 : wr.cell? ⟨w.heap.size, 4, none⟩ = some (.int .i64 d) := hbox.cell 4
      have bv := wu.at k
      have bw := wv.at k
      have hk2 := HK.out k (Nat.le_refl _)
      rw [hk2.1] at u1 bv
      rw [hk2.2] at v1 bw
      obtain ⟨p1, hp1⟩ : ∃ p, a * xs[k]?.getD 0 = p := ⟨_, rfl⟩
      obtain ⟨p2, hp2⟩ : ∃ p, b * ys[k]?.getD 0 = p := ⟨_, rfl⟩
      obtain ⟨p3, hp3⟩ : ∃ p, c * xs[k]?.getD 0 = p := ⟨_, rfl⟩
      obtain ⟨p4, hp4⟩ : ∃ p, d * ys[k]?.getD 0 = p := ⟨_, rfl⟩
      have B1 := H1.out.bounds bv bw hp1 hp2
      have B2 := H2.out.bounds bv bw hp3 hp4
      obtain ⟨T, hT⟩ : ∃ T, c1 + (p1 + p2) = T := ⟨_, rfl⟩
      obtain ⟨U, hU⟩ : ∃ U, c2 + (p3 + p4) = U := ⟨_, rfl⟩
      have hlu := ou.len
      have hlv := ov.len
      have HV1' := hid (apply_step xs ys us k a b c1 p1 p2 T (by omega) hp1 hp2 hT HV1.out)
      have HV2' := hid (apply_step xs ys vs k c d c2 p3 p4 U (by omega) hp3 hp4 hU HV2.out)
      have T0 : -9223372032559808512 ≤ T ∧ T ≤ 9223372032559808512 := by omega
      have U0 : -9223372032559808512 ≤ U ∧ U ≤ 9223372032559808512 := by omega
      obtain ⟨z, hz⟩ : ∃ z, T % 4294967296 = z := ⟨_, rfl⟩
      obtain ⟨y, hy⟩ : ∃ y, U % 4294967296 = y := ⟨_, rfl⟩
      have z0 : 0 ≤ z ∧ z ≤ 4294967295 := by omega
      have y0 : 0 ≤ y ∧ y ≤ 4294967295 := by omega
      have hwz : IntKind.u32.wrap T = z := by rw [IntKind.wrap_u32, hz]
      have hwy : IntKind.u32.wrap U = y := by rw [IntKind.wrap_u32, hy]
      rw [hz] at HV1'
      rw [hy] at HV2'
      have HK' : Hid (∀ j, k + 1 ≤ j → (us.set k z)[j]?.getD 0 = xs[j]?.getD 0 ∧ (vs.set k y)[j]?.getD 0 = ys[j]?.getD 0) := fun j hj => by
        rw [List.getElem?_set, if_neg (by omega), List.getElem?_set, if_neg (by omega)]
        exact HK.out j (by omega)
      have HC : Hid ((-2147483647 ≤ T / 4294967296 ∧ T / 4294967296 ≤ 2147483647) ∧ (-2147483647 ≤ U / 4294967296 ∧ U / 4294967296 ≤ 2147483647)) := by show _ ∧ _; omega
      have hout : ∀ m, OwnC (((wr.drewN m).setCell ⟨gx, k, none⟩ (.int .u32 z)).setCell ⟨gy, k, none⟩ (.int .u32 y)) base gx n capx (us.set k z) ∧ OwnC (((wr.drewN m).setCell ⟨gx, k, none⟩ (.int .u32 z)).setCell ⟨gy, k, none⟩ (.int .u32 y)) base gy n capy (vs.set k y) ∧
          Box (((wr.drewN m).setCell ⟨gx, k, none⟩ (.int .u32 z)).setCell ⟨gy, k, none⟩ (.int .u32 y)) w.heap.size 99 #[.int .i64 s, .int .i64 a, .int .i64 b, .int .i64 c, .int .i64 d] ∧ Below base w (((wr.drewN m).setCell ⟨gx, k, none⟩ (.int .u32 z)).setCell ⟨gy, k, none⟩ (.int .u32 y)) := fun m => by
        have s1 := OwnC.set (ou.drewN m) k z
        have o2 : OwnC ((wr.drewN m).setCell ⟨gx, k, none⟩ (.int .u32 z)) base gy n capy vs := World.ownsRow.kept (ov.drewN m) s1.2 (by right; intro e; simp [Value.ownBlock] at e; omega)
        have s2 := OwnC.set o2 k y
        have o1 := World.ownsRow.kept s1.1 s2.2 (by right; intro e; simp [Value.ownBlock] at e; omega)
        refine ⟨o1, s2.1, (Box.other (Box.other (hbox.drewN m) _ _ (by show _ ≠ gx; omega)) _ _ (by show _ ≠ gy; omega)), ?_⟩
        exact ((bdn hbel m).setCell (p := ⟨gx, k, none⟩) bx.1 _).setCell (p := ⟨gy, k, none⟩) by'.1 _
      have HOUT := hid hout
      have hwn : w.heap.size < wr.heap.size := hbox.lt
      clear hout hlu hlv ou ov hbox hbel HV1 HV2 HK hk2 hz hy HOX HOY HBX
      go_wp2_with fail
      go_quiet (fail)
      go_wp2_with fail
      go_roundw
      case rel => exact ⟨k + 1, T / 4294967296, U / 4294967296, us.set k z, vs.set k y, by omega, by go_num, by go_num, by go_num, HC.out.1.1, HC.out.1.2, HC.out.2.1, HC.out.2.2, wu.set _ z0, wv.set _ y0, HV1', HV2', HK', (HOUT.out _).1, (HOUT.out _).2.1, (HOUT.out _).2.2.1, (HOUT.out _).2.2.2⟩
      case measure => simp [intOf]; omega
    · have hkn : k = n := by omega
      subst hkn
      have hlu := ou.len
      have hlv := ov.len
      have HF1 : Hid (val us = a * val xs + b * val ys) := apply_end wu k c1 _ hlu HX0.out.1 HX0.out.2.1 (by have e := HV1.out; rw [valTo_stable xs k (by have := HL.out.1; omega), valTo_stable ys k (by have := HL.out.2; omega)] at e; exact e)
      have HF2 : Hid (val vs = c * val xs + d * val ys) := apply_end wv k c2 _ hlv HX0.out.2.2.1 HX0.out.2.2.2 (by have e := HV2.out; rw [valTo_stable xs k (by have := HL.out.1; omega), valTo_stable ys k (by have := HL.out.2; omega)] at e; exact e)
      have HO1 := hid ou
      have HO2 := hid ov
      clear ou ov hlu hlv
      go_wp2_with fail
      go_end0
      exact ⟨us, vs, rfl, HO1.out, HO2.out, wu, wv, HF1.out, HF2.out, hbel⟩
end Go.Proofs.YtomdkingdniohaaGreatDoor

/- Euclid's steps, many at once: plain arithmetic, nothing of the program. -/
namespace Go.Proofs.YtomdkingdniohaaGreatDoor
open Go.RowKit
set_option linter.unusedVariables false

/-- The sizes of a leap's four factors and its sign, after s steps. -/
structure Lp (s g A B C D : Int) : Prop where
  a0 : 0 ≤ A
  b0 : 0 ≤ B
  c0 : 0 ≤ C
  cd : C ≤ D
  d1 : 1 ≤ D
  det : A * D - B * C = g
  sgn : g = 1 ∨ g = -1
  way : (s = 0 ∧ A = 1 ∧ B = 0 ∧ C = 0 ∧ D = 1) ∨ (1 ≤ s ∧ A ≤ B ∧ 1 ≤ B ∧ B ≤ D ∧ 1 ≤ C)

theorem Lp.first : Lp 0 1 1 0 0 1 := ⟨by omega, by omega, by omega, by omega, by omega, by omega, .inl rfl, .inl ⟨rfl, rfl, rfl, rfl, rfl⟩⟩

theorem Lp.step {s g A B C D Q : Int} (h : Lp s g A B C D) (hQ : 1 ≤ Q) : Lp (s + 1) (-g) C D (A + Q * C) (B + Q * D) := by
  obtain ⟨a0, b0, c0, cd, d1, det, sgn, way⟩ := h
  have q1 : 0 ≤ Q * C := Int.mul_nonneg (by omega) c0
  have q2 : Q * C ≤ Q * D := Int.mul_le_mul_of_nonneg_left cd (by omega)
  have q3 : 1 * D ≤ Q * D := Int.mul_le_mul_of_nonneg_right hQ (by omega)
  have q4 : 1 * C ≤ Q * C := Int.mul_le_mul_of_nonneg_right hQ c0
  rw [Int.one_mul] at q3 q4
  have hdet : C * (B + Q * D) - D * (A + Q * C) = -g := by
    rw [Int.mul_add, Int.mul_add, Int.mul_comm C B, Int.mul_comm D A, ← Int.mul_assoc C, ← Int.mul_assoc D, Int.mul_comm C Q, Int.mul_comm D Q, Int.mul_assoc Q C, Int.mul_assoc Q D, Int.mul_comm D C]
    omega
  rcases way with ⟨e0, e1, e2, e3, e4⟩ | ⟨w1, w2, w3, w4, w5⟩
  · subst e1 e2 e3 e4
    refine ⟨by omega, by omega, by omega, by omega, by omega, hdet, by omega, .inr ⟨by omega, by omega, by omega, by omega, by omega⟩⟩
  · refine ⟨by omega, by omega, by omega, by omega, by omega, hdet, by omega, .inr ⟨by omega, by omega, by omega, by omega, by omega⟩⟩

/-- One step of the division: the first pair out of the later one. -/
theorem pair_step {A B C D Q p q r p0 q0 : Int} (hp : p = Q * q + r) (h1 : p0 = D * p + B * q) (h2 : q0 = C * p + A * q) :
    p0 = (B + Q * D) * q + D * r ∧ q0 = (A + Q * C) * q + C * r := by
  subst hp
  constructor
  · rw [h1, Int.mul_add, Int.add_mul, ← Int.mul_assoc, Int.mul_comm D Q]; omega
  · rw [h2, Int.mul_add, Int.add_mul, ← Int.mul_assoc, Int.mul_comm C Q]; omega

/-- The later pair out of the first one. -/
theorem pair_back {g A B C D p q p0 q0 : Int} (det : A * D - B * C = g) (sgn : g = 1 ∨ g = -1) (h1 : p0 = D * p + B * q) (h2 : q0 = C * p + A * q) :
    p = g * A * p0 + -(g * B) * q0 ∧ q = -(g * C) * p0 + g * D * q0 := by
  have e1 : A * p0 - B * q0 = g * p := by
    rw [h1, h2, Int.mul_add, Int.mul_add, ← Int.mul_assoc A D, ← Int.mul_assoc B C, ← Int.mul_assoc A B, ← Int.mul_assoc B A, Int.mul_comm B A, ← det, Int.sub_mul]; omega
  have e2 : D * q0 - C * p0 = g * q := by
    rw [h1, h2, Int.mul_add, Int.mul_add, ← Int.mul_assoc D C, ← Int.mul_assoc C D, ← Int.mul_assoc D A, ← Int.mul_assoc C B, Int.mul_comm D A, Int.mul_comm C B, Int.mul_comm D C, ← det, Int.sub_mul]; omega
  rcases sgn with rfl | rfl
  · simp only [Int.one_mul, Int.neg_mul] at *
    omega
  · simp only [Int.neg_mul, Int.one_mul, Int.neg_neg] at *
    omega

/-- What is below the highest bits changes a sum of two multiples with unlike signs by less than the greater one. -/
theorem low_part {C D K xl yl : Int} (c0 : 0 ≤ C) (cd : C ≤ D) (x0 : 0 ≤ xl) (x1 : xl < K) (y0 : 0 ≤ yl) (y1 : yl < K) : -(D * (K - 1)) ≤ D * yl - C * xl ∧ D * yl - C * xl ≤ D * (K - 1) ∧ -(D * (K - 1)) ≤ C * xl - D * yl := by
  have e1 : D * yl ≤ D * (K - 1) := Int.mul_le_mul_of_nonneg_left (by omega) (by omega)
  have e2 : C * xl ≤ C * (K - 1) := Int.mul_le_mul_of_nonneg_left (by omega) c0
  have e3 : C * (K - 1) ≤ D * (K - 1) := Int.mul_le_mul_of_nonneg_right cd (by omega)
  have e4 : 0 ≤ D * yl := Int.mul_nonneg (by omega) y0
  have e5 : 0 ≤ C * xl := Int.mul_nonneg c0 x0
  omega

/-- What a leap does to two numbers whose highest bits it was found by. -/
structure Leaps (X Y a b c d : Int) : Prop where
  ab : Coef a b
  cd : Coef c d
  pos : 0 ≤ c * X + d * Y
  lt : c * X + d * Y < a * X + b * Y
  le : a * X + b * Y ≤ X
  less : (a * X + b * Y) + (c * X + d * Y) < X + Y
  same : gcdI (a * X + b * Y) (c * X + d * Y) = gcdI X Y

theorem gcd_dvd_of {x y u v a b c d : Int} (h1 : u = a * x + b * y) (h2 : v = c * x + d * y) : Int.gcd x y ∣ Int.gcd u v := by
  rw [← Int.ofNat_dvd]
  exact Int.dvd_coe_gcd (by rw [h1]; exact Int.dvd_add (Int.dvd_mul_of_dvd_right (Int.gcd_dvd_left ..)) (Int.dvd_mul_of_dvd_right (Int.gcd_dvd_right ..))) (by rw [h2]; exact Int.dvd_add (Int.dvd_mul_of_dvd_right (Int.gcd_dvd_left ..)) (Int.dvd_mul_of_dvd_right (Int.gcd_dvd_right ..)))

theorem leaps_of {s g A B C D p q K xl yl X Y : Int} (h : Lp s g A B C D) (hs : 1 ≤ s) (hK : 1 ≤ K) (x0 : 0 ≤ xl) (x1 : xl < K) (y0 : 0 ≤ yl) (y1 : yl < K)
    (hX : X = (D * p + B * q) * K + xl) (hY : Y = (C * p + A * q) * K + yl) (hD : D ≤ 2147483647) (hq : D ≤ q) (hpq : B + D ≤ p - q) : Leaps X Y (g * A) (-(g * B)) (-(g * C)) (g * D) := by
  obtain ⟨a0, b0, c0, cd, d1, det, sgn, way⟩ := h
  obtain ⟨_, w2, w3, w4, w5⟩ : 1 ≤ s ∧ A ≤ B ∧ 1 ≤ B ∧ B ≤ D ∧ 1 ≤ C := by
    rcases way with ⟨e, _⟩ | h
    · omega
    · exact h
  have hcoef : Coef (g * A) (-(g * B)) ∧ Coef (-(g * C)) (g * D) := by
    rcases sgn with rfl | rfl
    · simp only [Int.one_mul]; exact ⟨.inl ⟨by omega, by omega, by omega, by omega⟩, .inr ⟨by omega, by omega, by omega, by omega⟩⟩
    · simp only [Int.neg_mul, Int.one_mul, Int.neg_neg]; exact ⟨.inr ⟨by omega, by omega, by omega, by omega⟩, .inl ⟨by omega, by omega, by omega, by omega⟩⟩
  -- the two sums, by the highest bits and by what is below
  obtain ⟨u, hu⟩ : ∃ u, g * A * X + -(g * B) * Y = u := ⟨_, rfl⟩
  obtain ⟨v, hv⟩ : ∃ v, -(g * C) * X + g * D * Y = v := ⟨_, rfl⟩
  have pb := pair_back (p := p) (q := q) det sgn rfl rfl
  have hue : u = p * K + g * (A * xl - B * yl) := by
    rw [← hu, hX, hY]
    have e := pb.1
    generalize D * p + B * q = P at *
    generalize C * p + A * q = R at *
    rw [e, Int.mul_add, Int.mul_add, Int.add_mul, ← Int.mul_assoc, ← Int.mul_assoc, Int.mul_sub, ← Int.mul_assoc g A, ← Int.mul_assoc g B, Int.neg_mul (g * B) yl]
    omega
  have hve : v = q * K + g * (D * yl - C * xl) := by
    rw [← hv, hX, hY]
    have e := pb.2
    generalize D * p + B * q = P at *
    generalize C * p + A * q = R at *
    rw [e, Int.mul_add, Int.mul_add, Int.add_mul, ← Int.mul_assoc, ← Int.mul_assoc, Int.mul_sub, ← Int.mul_assoc g D, ← Int.mul_assoc g C, Int.neg_mul (g * C) xl]
    omega
  have hXe : X = D * u + B * v := by
    have e : g * g = 1 := by rcases sgn with rfl | rfl <;> rfl
    have e1 : D * u + B * v = g * (A * D - B * C) * X := by
      rw [← hu, ← hv, Int.mul_add, Int.mul_add, Int.mul_sub, Int.sub_mul]
      have f1 : D * (g * A * X) = g * (A * D) * X := by rw [← Int.mul_assoc, Int.mul_comm D, Int.mul_assoc g A D]
      have f2 : D * (-(g * B) * Y) = -(g * B * D * Y) := by rw [Int.neg_mul, Int.mul_neg, ← Int.mul_assoc, Int.mul_comm D (g * B)]
      have f3 : B * (-(g * C) * X) = -(g * (B * C) * X) := by rw [Int.neg_mul, Int.mul_neg, ← Int.mul_assoc, Int.mul_comm B (g * C), Int.mul_assoc g C B, Int.mul_comm C B]
      have f4 : B * (g * D * Y) = g * B * D * Y := by rw [← Int.mul_assoc, ← Int.mul_assoc, Int.mul_comm B g]
      rw [f1, f2, f3, f4]
      omega
    rw [e1, det, e, Int.one_mul]
  have hYe : Y = C * u + A * v := by
    have e : g * g = 1 := by rcases sgn with rfl | rfl <;> rfl
    have e1 : C * u + A * v = g * (A * D - B * C) * Y := by
      rw [← hu, ← hv, Int.mul_add, Int.mul_add, Int.mul_sub, Int.sub_mul]
      have f1 : C * (g * A * X) = g * A * C * X := by rw [← Int.mul_assoc, Int.mul_comm C (g * A)]
      have f2 : C * (-(g * B) * Y) = -(g * (B * C) * Y) := by rw [Int.neg_mul, Int.mul_neg, ← Int.mul_assoc, Int.mul_comm C (g * B), Int.mul_assoc g B C]
      have f3 : A * (-(g * C) * X) = -(g * A * C * X) := by rw [Int.neg_mul, Int.mul_neg, ← Int.mul_assoc, ← Int.mul_assoc, Int.mul_comm A g]
      have f4 : A * (g * D * Y) = g * (A * D) * Y := by rw [← Int.mul_assoc, ← Int.mul_assoc, Int.mul_comm A g, Int.mul_assoc g A D]
      rw [f1, f2, f3, f4]
      omega
    rw [e1, det, e, Int.one_mul]
  have l1 := low_part (C := C) (D := D) (K := K) c0 cd x0 x1 y0 y1
  have l2 := low_part (C := A + C) (D := B + D) (K := K) (xl := xl) (yl := yl) (by omega) (by omega) x0 x1 y0 y1
  have k1 : D * K ≤ q * K := Int.mul_le_mul_of_nonneg_right hq (by omega)
  have k2 : (B + D) * K ≤ (p - q) * K := Int.mul_le_mul_of_nonneg_right hpq (by omega)
  rw [Int.mul_sub, Int.mul_one] at l1 l2
  rw [Int.sub_mul] at k2
  rw [Int.add_mul (A) C xl, Int.add_mul B D yl] at l2
  have v0 : 0 ≤ v := by
    rw [hve]
    rcases sgn with rfl | rfl
    · rw [Int.one_mul]; omega
    · rw [Int.neg_mul, Int.one_mul]; omega
  have uv : v < u := by
    rw [hve, hue]
    rcases sgn with rfl | rfl
    · rw [Int.one_mul, Int.one_mul]; omega
    · rw [Int.neg_mul, Int.one_mul, Int.neg_mul, Int.one_mul]; omega
  have m1 : 1 * u ≤ D * u := Int.mul_le_mul_of_nonneg_right d1 (by omega)
  have m2 : 0 ≤ B * v := Int.mul_nonneg b0 v0
  have m2' : 1 * v ≤ B * v := Int.mul_le_mul_of_nonneg_right w3 v0
  have m3 : 1 * u ≤ C * u := Int.mul_le_mul_of_nonneg_right w5 (by omega)
  have m4 : 0 ≤ A * v := Int.mul_nonneg a0 v0
  refine ⟨hcoef.1, hcoef.2, ?_, ?_, ?_, ?_, ?_⟩
  · rw [hv]; exact v0
  · rw [hu, hv]; exact uv
  · rw [hu]; omega
  · rw [hu, hv]; omega
  · rw [hu, hv]
    unfold gcdI
    congr 1
    exact Nat.dvd_antisymm (gcd_dvd_of (x := u) (y := v) hXe hYe) (gcd_dvd_of (x := X) (y := Y) hu.symm hv.symm)

/-- How great the factors of a step are, whether it holds or not. -/
theorem Lp.small {s g A B C D p q P0 : Int} (h : Lp s g A B C D) (hp : 1 ≤ p) (hq : 0 ≤ q) (h1 : P0 = D * p + B * q) (hP : P0 ≤ 4611686018427387903) : D ≤ 4611686018427387903 := by
  have e1 : D * 1 ≤ D * p := Int.mul_le_mul_of_nonneg_left hp (by have := h.d1; omega)
  have e2 : 0 ≤ B * q := Int.mul_nonneg h.b0 hq
  omega
theorem Lp.held {s g A B C D p q P0 : Int} (h : Lp s g A B C D) (hq : D ≤ q) (hpq : B + D ≤ p - q) (h1 : P0 = D * p + B * q) (hP : P0 ≤ 4611686018427387903) : D ≤ 2147483647 := by
  by_cases c : D ≤ 2147483647
  · exact c
  · have hb := h.b0
    have e1 : D * 2147483648 ≤ D * p := Int.mul_le_mul_of_nonneg_left (by omega) (by omega)
    have e2 : 0 ≤ B * q := Int.mul_nonneg h.b0 (by omega)
    omega
end Go.Proofs.YtomdkingdniohaaGreatDoor

/- nat.look: the leap that the highest bits of two numbers tell. -/
namespace Go.Proofs.YtomdkingdniohaaGreatDoor
open Go.RowKit
set_option linter.unusedVariables false

theorem lead_fit (x : Int) (h0 : 1 ≤ x) (h1 : x ≤ 4294967295) (t : Nat) (ht : 32 - Lib.bitLen x.toNat = t) : t ≤ 31 ∧ ∀ y : Int, 0 ≤ y → y ≤ x → y * 2 ^ t < 4294967296 := by
  obtain ⟨a, b, c⟩ := bitLen_bounds x h0 h1
  have h2 := bitLen_le32 x h1
  refine ⟨by omega, fun y hy hyx => ?_⟩
  have e := two_split (Lib.bitLen x.toNat) h2
  rw [ht] at e
  have hp := two_pos t
  have e1 : (y + 1) * 2 ^ t ≤ 2 ^ Lib.bitLen x.toNat * 2 ^ t := Int.mul_le_mul_of_nonneg_right (by omega) (by omega)
  rw [Int.add_mul] at e1
  omega

/-- What look tells. -/
def Looked (w : World) (X Y : Int) (x : Ending) (w' : World) : Prop := ∃ s a b c d : Int, x = .returned (.agg #[.int .i64 s, .int .i64 a, .int .i64 b, .int .i64 c, .int .i64 d]) ∧ 0 ≤ s ∧ s ≤ 4611686018427387904 ∧ (s = 0 ∨ (1 ≤ s ∧ Leaps X Y a b c d)) ∧ Below w.heap.size w w'

theorem Box.put5 {w : World} {b t : Nat} {z0 z1 z2 z3 z4 : Value} (h : Box w b t #[z0, z1, z2, z3, z4]) (v0 v1 v2 v3 v4 : Value) :
    Box (((((w.setCell ⟨b, 0, none⟩ v0).setCell ⟨b, 1, none⟩ v1).setCell ⟨b, 2, none⟩ v2).setCell ⟨b, 3, none⟩ v3).setCell ⟨b, 4, none⟩ v4) b t #[v0, v1, v2, v3, v4] :=
  ((((h.set 0 v0).set 1 v1).set 2 v2).set 3 v3).set 4 v4
theorem below_put5 {B : Nat} {a w : World} (h : Below B a w) (b : Nat) (hb : B ≤ b) (v0 v1 v2 v3 v4 : Value) :
    Below B a (((((w.setCell ⟨b, 0, none⟩ v0).setCell ⟨b, 1, none⟩ v1).setCell ⟨b, 2, none⟩ v2).setCell ⟨b, 3, none⟩ v3).setCell ⟨b, 4, none⟩ v4) :=
  ((((h.setCell (p := ⟨b, 0, none⟩) hb _).setCell (p := ⟨b, 1, none⟩) hb _).setCell (p := ⟨b, 2, none⟩) hb _).setCell (p := ⟨b, 3, none⟩) hb _).setCell (p := ⟨b, 4, none⟩) hb _

theorem new_box {wr w5 : World} {vs : Array Value} {t : Nat} (hb : Below (wr.alloc (.cells vs t)).drew.heap.size (wr.alloc (.cells vs t)).drew w5) : Box w5 wr.heap.size t vs ∧ Below wr.heap.size wr w5 := by
  have h1 : Below (wr.alloc (.cells vs t)).heap.size (wr.alloc (.cells vs t)) w5 := (Below.refl _ (wr.alloc (.cells vs t))).drew.trans hb
  exact ⟨(Box.made wr t vs).later h1 (by simp), bt (alloc_later _ _) h1⟩
theorem Box.put5_other {w : World} {b t b' : Nat} {vs : Array Value} (h : Box w b t vs) (hne : b ≠ b') (v0 v1 v2 v3 v4 : Value) :
    Box (((((w.setCell ⟨b', 0, none⟩ v0).setCell ⟨b', 1, none⟩ v1).setCell ⟨b', 2, none⟩ v2).setCell ⟨b', 3, none⟩ v3).setCell ⟨b', 4, none⟩ v4) b t vs :=
  ((((h.other ⟨b', 0, none⟩ _ hne).other ⟨b', 1, none⟩ _ hne).other ⟨b', 2, none⟩ _ hne).other ⟨b', 3, none⟩ _ hne).other ⟨b', 4, none⟩ _ hne

theorem top_le {xs ys : List Int} (wx : Wd xs) (wy : Wd ys) (n : Nat) (lx : xs.length = n + 1) (ly : ys.length = n + 1) (h : val ys ≤ val xs) : ys[n]?.getD 0 ≤ xs[n]?.getD 0 := by
  by_cases c : ys[n]?.getD 0 ≤ xs[n]?.getD 0
  · exact c
  · have := val_lt_of wx wy n (by omega) (fun j hj => by rw [List.getElem?_eq_none (by omega), List.getElem?_eq_none (by omega)])
    omega

/-- The sizes that a step's factors have. -/
theorem step_sizes {s g A B C D p q a b c d Q : Int} (h : Lp s g A B C D) (hQ : 1 ≤ Q) (hD : B + Q * D ≤ 4611686018427387903) (ha : a = g * A) (hb : b = -(g * B)) (hc : c = -(g * C)) (hd : d = g * D) :
    IntKind.i64.wrap (Q * c) = Q * c ∧ IntKind.i64.wrap (Q * d) = Q * d ∧ IntKind.i64.wrap (a - Q * c) = a - Q * c ∧ IntKind.i64.wrap (b - Q * d) = b - Q * d ∧ d = -(-g * D) ∧ c = -g * C ∧ a - Q * c = -(-g * (A + Q * C)) ∧ b - Q * d = -g * (B + Q * D) := by
  obtain ⟨a0, b0, c0, cd, d1, det, sgn, way⟩ := h
  have q1 : 0 ≤ Q * C := Int.mul_nonneg (by omega) c0
  have q2 : Q * C ≤ Q * D := Int.mul_le_mul_of_nonneg_left cd (by omega)
  have q3 : 0 ≤ Q * D := Int.mul_nonneg (by omega) (by omega)
  have q4 : 1 * D ≤ Q * D := Int.mul_le_mul_of_nonneg_right hQ (by omega)
  have hA : A ≤ B + Q * D := by rcases way with ⟨_, e1, _, _, e4⟩ | ⟨_, w2, _, _, _⟩ <;> omega
  have f1 : d = -(-g * D) := by rw [hd, Int.neg_mul, Int.neg_neg]
  have f2 : c = -g * C := by rw [hc, Int.neg_mul]
  have f3 : a - Q * c = -(-g * (A + Q * C)) := by
    rw [ha, hc, Int.neg_mul, Int.neg_neg, Int.mul_neg, Int.mul_add, ← Int.mul_assoc Q, ← Int.mul_assoc g Q, Int.mul_comm Q g]; omega
  have f4 : b - Q * d = -g * (B + Q * D) := by
    rw [hb, hd, Int.neg_mul, Int.mul_add, ← Int.mul_assoc Q, ← Int.mul_assoc g Q, Int.mul_comm Q g]; omega
  have bb : (-4611686018427387903 ≤ Q * c ∧ Q * c ≤ 4611686018427387903) ∧ (-4611686018427387903 ≤ Q * d ∧ Q * d ≤ 4611686018427387903) ∧ (-4611686018427387903 ≤ a ∧ a ≤ 4611686018427387903) ∧ (-4611686018427387903 ≤ b ∧ b ≤ 4611686018427387903) := by
    rcases sgn with rfl | rfl
    · rw [Int.one_mul] at ha hb hc hd
      rw [hc, hd, ha, hb, Int.mul_neg]
      omega
    · rw [Int.neg_mul, Int.one_mul] at ha hb hc hd
      rw [Int.neg_neg] at hb hc
      rw [hc, hd, ha, hb, Int.mul_neg]
      omega
  exact ⟨IntWalk.i64_in _ (by omega), IntWalk.i64_in _ (by omega), IntWalk.i64_in _ (by omega), IntWalk.i64_in _ (by omega), f1, f2, f3, f4⟩

theorem abs_of {g A a : Int} (h : 0 ≤ A) (sgn : g = 1 ∨ g = -1) (ha : a = g * A ∨ a = -(g * A)) : (a.natAbs : Int) = A := by
  rcases sgn with rfl | rfl
  · simp only [Int.one_mul] at ha; omega
  · simp only [Int.neg_mul, Int.one_mul] at ha; omega

set_option maxHeartbeats 3200000 in
set_option maxRecDepth 100000 in
theorem look_any (a : Option Addr) (e cap : Nat) (xs : List Int) (b : Option Addr) (cap' : Nat) (ys : List Int) (w : World) (h : Reads w w.heap.size a (e + 3) cap xs) (g : Reads w w.heap.size b (e + 3) cap' ys) (hn : e ≤ 8192) (htop : 1 ≤ xs[e + 2]?.getD 0) (hle : val ys ≤ val xs) :
    Calls Tryz.prog 67 #[.slice a (e + 3) cap, .slice b (e + 3) cap'] w (Looked w (val xs) (val ys)) := by
  have bt0 := h.2.1.at (e + 2)
  have bt1 := g.2.1.at (e + 2)
  have hty := top_le h.2.1 g.2.1 (e + 2) h.1 g.1 hle
  obtain ⟨t, ht⟩ : ∃ t, 32 - Lib.bitLen (xs[e + 2]?.getD 0).toNat = t := ⟨_, rfl⟩
  obtain ⟨t31, hfit⟩ := lead_fit _ htop bt0.2 t ht
  have HLD := hid (fun ww => lead_any (xs[e + 2]?.getD 0) ww htop bt0.2)
  rw [ht] at HLD
  have HX := hid (fun ww (hb : Below w.heap.size w ww) => highest_any a e cap xs t ww (h.later hb hb.size) hn t31 (hfit _ (by omega) (Int.le_refl _)))
  have HY := hid (fun ww (hb : Below w.heap.size w ww) => highest_any b e cap' ys t ww (g.later hb hb.size) hn t31 (hfit _ bt1.1 hty))
  -- the highest bits, and what is below them
  have nx := val_nonneg h.2.1
  have ny := val_nonneg g.2.1
  have kp : (0 : Int) < 4294967296 ^ e * 2 ^ (34 - t) := Int.mul_pos (pw_pos e) (two_pos _)
  have dx : val xs / 4294967296 ^ e / 2 ^ (34 - t) = val xs / (4294967296 ^ e * 2 ^ (34 - t)) := Int.ediv_ediv_of_nonneg (Int.le_of_lt (pw_pos e))
  have dy : val ys / 4294967296 ^ e / 2 ^ (34 - t) = val ys / (4294967296 ^ e * 2 ^ (34 - t)) := Int.ediv_ediv_of_nonneg (Int.le_of_lt (pw_pos e))
  rw [dx] at HX
  rw [dy] at HY
  obtain ⟨K, hK⟩ : ∃ K : Int, 4294967296 ^ e * 2 ^ (34 - t) = K := ⟨_, rfl⟩
  rw [hK] at HX HY kp
  have mx := Int.mul_ediv_add_emod (val xs) K
  have my := Int.mul_ediv_add_emod (val ys) K
  have lx := Int.emod_lt_of_pos (val xs) kp
  have ly := Int.emod_lt_of_pos (val ys) kp
  have lx0 := Int.emod_nonneg (val xs) (show K ≠ 0 by omega)
  have ly0 := Int.emod_nonneg (val ys) (show K ≠ 0 by omega)
  have pq : val ys / K ≤ val xs / K := Int.ediv_le_ediv kp hle
  have q00 : 0 ≤ val ys / K := Int.ediv_nonneg ny (by omega)
  obtain ⟨p0, hp0⟩ : ∃ p, val xs / K = p := ⟨_, rfl⟩
  obtain ⟨q0, hq0⟩ : ∃ p, val ys / K = p := ⟨_, rfl⟩
  rw [hp0] at HX mx pq
  rw [hq0] at HY my pq q00
  have HK := hid (And.intro kp (And.intro mx (And.intro my (And.intro lx (And.intro ly (And.intro lx0 ly0))))))
  rcases h.2.2.1 with h0 | ⟨b2, o2, rfl, hb2, hc2⟩
  · omega
  have hc0 := hc2 (e + 2) (by omega)
  clear dx dy hK mx my lx ly lx0 ly0 hp0 hq0 kp hc2 h g hfit ht hty bt1 nx ny hle
  generalize xs[e + 2]?.getD 0 = top at *
  go_enter Tryz.func67, Tryz.ntmps67
  go_wp2_with fail
  refine Calls.mono (HLD.out _) ?_
  rintro x w' ⟨rfl, rfl⟩
  go_wp2_with fail
  refine Calls.mono (HX.out _ (alloc_later _ _)) ?_
  rintro x w2 ⟨rfl, p00, p01, hb2'⟩
  have hbA := bt (alloc_later _ _) hb2'
  have HR2 := hid (Box.later (Box.made w 99 #[.int .i64 0, .int .i64 0, .int .i64 0, .int .i64 0, .int .i64 0]) hb2' (by simp))
  go_wp2_with fail
  refine Calls.mono (HY.out _ hbA) ?_
  rintro x w3 ⟨rfl, _, q01, hb3⟩
  have hbB := bt hbA hb3
  have HR3 := hid (Box.later HR2.out hb3 HR2.out.lt)
  have hs3 := HR3.out.lt
  have HBB := hid hbB
  clear hb3 hb2' hbA hbB HR2 HX HY HLD hc0
  go_wp2_with fail
  go_loopw [6, 7] (fun c1 c2 wr => ∃ (s f A B C D p q a b c d : Int), c1 = .int .i64 p ∧ c2 = .int .i64 q ∧ 0 ≤ q ∧ q ≤ p ∧ p ≤ 4611686018427387903 ∧ 0 ≤ s ∧ s + q ≤ 4611686018427387903 ∧ Hid (Lp s f A B C D) ∧ Hid (p0 = D * p + B * q ∧ q0 = C * p + A * q) ∧ Hid (a = f * A ∧ b = -(f * B) ∧ c = -(f * C) ∧ d = f * D) ∧ Hid (s = 0 ∨ (D ≤ q ∧ B + D ≤ p - q)) ∧
    Box wr w3.heap.size 99 #[.int .i64 s, .int .i64 a, .int .i64 b, .int .i64 c, .int .i64 d] ∧ Box wr w.heap.size 99 #[.int .i64 0, .int .i64 0, .int .i64 0, .int .i64 0, .int .i64 0] ∧ Below w.heap.size w wr) (fun _ c2 _ => (intOf c2).toNat)
  case atStart => exact ⟨0, 1, 1, 0, 0, 1, p0, q0, 1, 0, 0, 1, rfl, rfl, q00, pq, by omega, by omega, by omega, Lp.first, show _ ∧ _ by omega, show _ ∧ _ by omega, .inl rfl, Box.made _ _ _, HR3.out.later (alloc_later _ _) hs3, bt HBB.out (alloc_later _ _)⟩
  case round =>
    obtain ⟨s, f, A, B, C, D, p, q, a', b', c', d', rfl, rfl, qa, qb, pa, sa, sq, HLP, HPQ, HAB, HH, box, res, hbel⟩ := hrel
    have k0 : wr.cell? ⟨w3.heap.size, 0, none⟩ = some (.int .i64 s) := box.cell 0
    have k1 : wr.cell? ⟨w3.heap.size, 1, none⟩ = some (.int .i64 a') := box.cell 1
    have k2 : wr.cell? ⟨w3.heap.size, 2, none⟩ = some (.int .i64 b') := box.cell 2
    have k3 : wr.cell? ⟨w3.heap.size, 3, none⟩ = some (.int .i64 c') := box.cell 3
    have k4 : wr.cell? ⟨w3.heap.size, 4, none⟩ = some (.int .i64 d') := box.cell 4
    have HFIN : Hid (s = 0 ∨ (1 ≤ s ∧ Leaps (val xs) (val ys) a' b' c' d')) := by
      rcases HH.out with h0 | ⟨h1, h2⟩
      · exact .inl h0
      · by_cases hs0 : s = 0
        · exact .inl hs0
        · right
          obtain ⟨e1, e2, e3, e4⟩ := HAB.out
          obtain ⟨kp, mx, my, lx, ly, lx0, ly0⟩ := HK.out
          refine ⟨by omega, ?_⟩
          rw [e1, e2, e3, e4]
          exact leaps_of HLP.out (by omega) (by omega) lx0 lx ly0 ly (by rw [← HPQ.out.1, Int.mul_comm]; exact mx.symm) (by rw [← HPQ.out.2, Int.mul_comm]; exact my.symm) (HLP.out.held h1 h2 HPQ.out.1 (by omega)) h1 h2
    by_cases hq : q = 0
    · subst hq
      have r0 : wr.cell? ⟨w.heap.size, 0, none⟩ = some (.int .i64 0) := res.cell 0
      have r1 : wr.cell? ⟨w.heap.size, 1, none⟩ = some (.int .i64 0) := res.cell 1
      have r2 : wr.cell? ⟨w.heap.size, 2, none⟩ = some (.int .i64 0) := res.cell 2
      have r3 : wr.cell? ⟨w.heap.size, 3, none⟩ = some (.int .i64 0) := res.cell 3
      have r4 : wr.cell? ⟨w.heap.size, 4, none⟩ = some (.int .i64 0) := res.cell 4
      have g0 := res.free 0
      have g1 := res.free 1
      have g2 := res.free 2
      have g3 := res.free 3
      have g4 := res.free 4
      go_wp2_with fail
      refine bodyPost_ret (v := .agg #[.int .i64 s, .int .i64 a', .int .i64 b', .int .i64 c', .int .i64 d']) (by simp [results, Tryz.results67, go_sem, r0, r1, r2, r3, r4]) rfl ?_
      exact ⟨s, a', b', c', d', rfl, sa, by omega, HFIN.out, ((((hbel.setCell (p := ⟨w.heap.size, 0, none⟩) (Nat.le_refl _) _).setCell (p := ⟨w.heap.size, 1, none⟩) (Nat.le_refl _) _).setCell (p := ⟨w.heap.size, 2, none⟩) (Nat.le_refl _) _).setCell (p := ⟨w.heap.size, 3, none⟩) (Nat.le_refl _) _).setCell (p := ⟨w.heap.size, 4, none⟩) (Nat.le_refl _) _⟩
    · have q1 : 1 ≤ q := by omega
      have hne : (q != 0) = true := by simp [hq]
      have Q1 : 1 ≤ p / q := (Int.le_ediv_iff_mul_le (by omega)).2 (by omega)
      have hpe := Int.mul_ediv_add_emod p q
      have m0' : 0 ≤ p % q := Int.emod_nonneg _ hq
      have m1 : p % q < q := Int.emod_lt_of_pos _ (by omega)
      have td : p.tdiv q = p / q := Int.tdiv_eq_ediv_of_nonneg (by omega)
      have tm : p.tmod q = p % q := Int.tmod_eq_emod_of_nonneg (by omega)
      have Qp : p / q ≤ p := Int.ediv_le_self _ (by omega)
      obtain ⟨Q, hQ⟩ : ∃ Q, p / q = Q := ⟨_, rfl⟩
      obtain ⟨r, hr⟩ : ∃ r, p % q = r := ⟨_, rfl⟩
      rw [hQ] at Q1 hpe td Qp
      rw [hr] at m0' m1 hpe tm
      have wQ : IntKind.i64.wrap Q = Q := IntWalk.i64_in _ (by omega)
      have ps := pair_step (Q := Q) (q := q) (r := r) (by rw [Int.mul_comm]; exact hpe.symm) HPQ.out.1 HPQ.out.2
      have lp' := HLP.out.step Q1
      have hD := lp'.small q1 m0' ps.1 (by omega)
      obtain ⟨e1, e2, e3, e4⟩ := HAB.out
      obtain ⟨w1', w2', w3', w4', f1, f2, f3, f4⟩ := step_sizes (p := p) (q := q) HLP.out Q1 hD e1 e2 e3 e4
      have HST := hid (fun ww => Calls.mono (step_any s a' b' c' d' Q ww ⟨sa, by omega⟩ w1' w2' w3' w4') (R' := fun e w' => e = .returned (.agg #[.int .i64 (s + 1), .int .i64 c', .int .i64 d', .int .i64 (a' - Q * c'), .int .i64 (b' - Q * d')]) ∧ Below ww.heap.size ww w' ∧
        (wr.heap.size < ww.heap.size → ∀ j, w'.cell? ⟨wr.heap.size, j, none⟩ = ww.cell? ⟨wr.heap.size, j, none⟩) ∧ (wr.heap.size < ww.heap.size → ∀ j, w'.frozen? ⟨wr.heap.size, j, none⟩ = ww.frozen? ⟨wr.heap.size, j, none⟩)) (fun _ _ h => ⟨h.1, h.2, fun hlt j => h.2.cell hlt, fun hlt j => h.2.frozen hlt⟩))
      obtain ⟨c2, hc2⟩ : ∃ c2, a' - Q * c' = c2 := ⟨_, rfl⟩
      obtain ⟨d2, hd2⟩ : ∃ d2, b' - Q * d' = d2 := ⟨_, rfl⟩
      rw [hc2] at f3 HST
      rw [hd2] at f4 HST
      obtain ⟨C2, hC2⟩ : ∃ C2, A + Q * C = C2 := ⟨_, rfl⟩
      obtain ⟨D2, hD2⟩ : ∃ D2, B + Q * D = D2 := ⟨_, rfl⟩
      rw [hC2] at lp' ps f3
      rw [hD2] at lp' ps f4 hD
      have ad := abs_of (a := d') lp'.b0 lp'.sgn (.inr f1)
      have ad2 := abs_of (a := d2) (by have := lp'.d1; omega) lp'.sgn (.inl f4)
      have lD : D ≤ D2 := by
        rcases lp'.way with ⟨x0, _⟩ | ⟨_, _, _, x3, _⟩
        · omega
        · exact x3
      have lD0 := lp'.b0
      have HHO := hid (fun ww => holds_any (s + 1) c' d' c2 d2 q r ww (by omega) (by omega) (by omega) (by omega) (by omega))
      rw [ad, ad2] at HHO
      have HLP' := hid lp'
      have HPS := hid ps
      have HAB' : Hid (c' = -f * C ∧ d' = -(-f * D) ∧ c2 = -(-f * C2) ∧ d2 = -f * D2) := ⟨f2, f1, f3, f4⟩
      have hbs := box.lt
      have hrs := res.lt
      have HBX := hid box
      have HRS := hid res
      have HBL := hid hbel
      clear lp' ps f1 f2 f3 f4 e1 e2 e3 e4 ad ad2 hC2 hD2 hc2 hd2 w1' w2' w3' w4' hpe box res hbel HLP HPQ HAB HH lD lD0 hD
      go_upto_region 5 with fail
      go_cut [9, 10] from 25 to 42 (fun n9 n10 wx => ∃ b9 : Nat, n9 = .pointer (some ⟨b9, 0, none⟩) ∧ n10 = .int .i64 r ∧ Box wx b9 99 #[.int .i64 (s + 1), .int .i64 c', .int .i64 d', .int .i64 c2, .int .i64 d2] ∧ wr.heap.size ≤ b9 ∧ Below wr.heap.size wr wx)
      case first =>
        go_region_with (go_at_call 81; with_reducible refine Calls.mono (HST.out _) ?_; rintro e w5 ⟨rfl, hb5, hx5, hy5⟩)
        all_goals
          go_wp2_with fail
          go_meet
        · exact ⟨_, rfl, rfl, Box.made _ _ _, hb5.size, bt ((Below.refl _ wr).drew.trans hb5) (alloc_later _ _)⟩
        · exact ⟨_, rfl, rfl, (new_box hb5).1.put5 _ _ _ _ _, Nat.le_refl _, below_put5 (new_box hb5).2 _ (Nat.le_refl _) _ _ _ _ _⟩
        · exact ⟨_, rfl, rfl, (new_box hb5).1.put5 _ _ _ _ _, Nat.le_refl _, below_put5 (new_box hb5).2 _ (Nat.le_refl _) _ _ _ _ _⟩
      case rest =>
        obtain ⟨b9, rfl, rfl, box9, hb9, hbw⟩ := hcut
        have n0 : wc.cell? ⟨b9, 0, none⟩ = some (.int .i64 (s + 1)) := box9.cell 0
        have n1 : wc.cell? ⟨b9, 1, none⟩ = some (.int .i64 c') := box9.cell 1
        have n2 : wc.cell? ⟨b9, 2, none⟩ = some (.int .i64 d') := box9.cell 2
        have n3 : wc.cell? ⟨b9, 3, none⟩ = some (.int .i64 c2) := box9.cell 3
        have n4 : wc.cell? ⟨b9, 4, none⟩ = some (.int .i64 d2) := box9.cell 4
        go_wp2_with fail
        refine Calls.mono (HHO.out _) ?_
        rintro e w6 ⟨rfl, hb6⟩
        have box8 := (HBX.out.later hbw hbs).later hb6 (HBX.out.later hbw hbs).lt
        have res8 := (HRS.out.later hbw hrs).later hb6 (HRS.out.later hbw hrs).lt
        have box6 := box9.later hb6 box9.lt
        have hbel : Below w.heap.size w w6 := bt HBL.out (bt hbw hb6)
        have hne6 : ¬ b9 = w3.heap.size := by omega
        have hne7 : ¬ w3.heap.size = b9 := by omega
        clear n0 n1 n2 n3 n4 k0 k1 k2 k3 k4 HST
        by_cases hh : D2 ≤ r ∧ D + D2 ≤ q - r
        · have hdec : decide (D2 ≤ r ∧ D + D2 ≤ q - r) = true := decide_eq_true hh
          rw [hdec]
          clear hdec
          have n0 : w6.cell? ⟨b9, 0, none⟩ = some (.int .i64 (s + 1)) := box6.cell 0
          have n1 : w6.cell? ⟨b9, 1, none⟩ = some (.int .i64 c') := box6.cell 1
          have n2 : w6.cell? ⟨b9, 2, none⟩ = some (.int .i64 d') := box6.cell 2
          have n3 : w6.cell? ⟨b9, 3, none⟩ = some (.int .i64 c2) := box6.cell 3
          have n4 : w6.cell? ⟨b9, 4, none⟩ = some (.int .i64 d2) := box6.cell 4
          have f0 := box8.free 0
          have f1 := box8.free 1
          have f2 := box8.free 2
          have f3 := box8.free 3
          have f4 := box8.free 4
          have m0 : w6.cell? ⟨w3.heap.size, 0, none⟩ = some (.int .i64 s) := box8.cell 0
          have m1 : w6.cell? ⟨w3.heap.size, 1, none⟩ = some (.int .i64 a') := box8.cell 1
          have m2 : w6.cell? ⟨w3.heap.size, 2, none⟩ = some (.int .i64 b') := box8.cell 2
          have m3 : w6.cell? ⟨w3.heap.size, 3, none⟩ = some (.int .i64 c') := box8.cell 3
          have m4 : w6.cell? ⟨w3.heap.size, 4, none⟩ = some (.int .i64 d') := box8.cell 4
          have HNX := hid (box8.put5 (.int .i64 (s + 1)) (.int .i64 c') (.int .i64 d') (.int .i64 c2) (.int .i64 d2))
          have HRX := hid (res8.put5_other (show w.heap.size ≠ w3.heap.size by omega) (.int .i64 (s + 1)) (.int .i64 c') (.int .i64 d') (.int .i64 c2) (.int .i64 d2))
          have HBX' := hid (below_put5 hbel w3.heap.size (by omega) (.int .i64 (s + 1)) (.int .i64 c') (.int .i64 d') (.int .i64 c2) (.int .i64 d2))
          have HHD := hid hh
          clear box6 box8 res8 box9 hbel hh hbw hb6
          go_wp2_with fail
          go_roundw
          case rel => exact ⟨s + 1, -f, C, D, C2, D2, q, r, c', d', c2, d2, rfl, rfl, m0', by omega, by omega, by omega, by omega, HLP', HPS, HAB', .inr HHD.out, HNX.out, HRX.out, HBX'.out⟩
          case measure => simp [intOf]; omega
        · have hdec : decide (D2 ≤ r ∧ D + D2 ≤ q - r) = false := decide_eq_false hh
          rw [hdec]
          clear hdec
          have m0 : w6.cell? ⟨w3.heap.size, 0, none⟩ = some (.int .i64 s) := box8.cell 0
          have m1 : w6.cell? ⟨w3.heap.size, 1, none⟩ = some (.int .i64 a') := box8.cell 1
          have m2 : w6.cell? ⟨w3.heap.size, 2, none⟩ = some (.int .i64 b') := box8.cell 2
          have m3 : w6.cell? ⟨w3.heap.size, 3, none⟩ = some (.int .i64 c') := box8.cell 3
          have m4 : w6.cell? ⟨w3.heap.size, 4, none⟩ = some (.int .i64 d') := box8.cell 4
          have r0 : w6.cell? ⟨w.heap.size, 0, none⟩ = some (.int .i64 0) := res8.cell 0
          have r1 : w6.cell? ⟨w.heap.size, 1, none⟩ = some (.int .i64 0) := res8.cell 1
          have r2 : w6.cell? ⟨w.heap.size, 2, none⟩ = some (.int .i64 0) := res8.cell 2
          have r3 : w6.cell? ⟨w.heap.size, 3, none⟩ = some (.int .i64 0) := res8.cell 3
          have r4 : w6.cell? ⟨w.heap.size, 4, none⟩ = some (.int .i64 0) := res8.cell 4
          have g0 := res8.free 0
          have g1 := res8.free 1
          have g2 := res8.free 2
          have g3 := res8.free 3
          have g4 := res8.free 4
          clear box6 box8 res8 box9 hh hbw hb6
          go_wp2_with fail
          refine bodyPost_ret (v := .agg #[.int .i64 s, .int .i64 a', .int .i64 b', .int .i64 c', .int .i64 d']) (by simp [results, Tryz.results67, go_sem, r0, r1, r2, r3, r4]) rfl ?_
          exact ⟨s, a', b', c', d', rfl, sa, by omega, HFIN.out, below_put5 hbel w.heap.size (Nat.le_refl _) _ _ _ _ _⟩
end Go.Proofs.YtomdkingdniohaaGreatDoor

/- nat.replace: a number in own memory becomes its rest by another one. -/
namespace Go.Proofs.YtomdkingdniohaaGreatDoor
open Go.RowKit
set_option linter.unusedVariables false

/-- Words set to nought, one behind the other. -/
theorem clear_cells {base g n cap : Nat} : ∀ (k o : Nat) (w : World) (zs : List Int), OwnC w base g n cap zs →
    ∃ us, OwnC (w.setCells g o (List.replicate k (.int .u32 0))) base g n cap us ∧ (∀ j, o ≤ j → j < o + k → us[j]?.getD 0 = 0) ∧ (∀ j, j < o → us[j]?.getD 0 = zs[j]?.getD 0) ∧ w.grownBy (w.setCells g o (List.replicate k (.int .u32 0))) (some g)
  | 0, o, w, zs, h => ⟨zs, h, fun j h1 h2 => by omega, fun _ _ => rfl, World.grownBy.refl _ _⟩
  | k + 1, o, w, zs, h => by
    obtain ⟨h1, hg⟩ := OwnC.set h o 0
    obtain ⟨us, h2, h3, h4, h5⟩ := clear_cells k (o + 1) _ _ h1
    refine ⟨us, h2, fun j a b => ?_, fun j a => ?_, grown_trans hg h5⟩
    · by_cases e : j = o
      · rw [h4 j (by omega), e, List.getElem?_set, if_pos rfl]
        split <;> rfl
      · exact h3 j (by omega) (by omega)
    · rw [h4 j (by omega), List.getElem?_set, if_neg (by omega)]

/-- A copy into an own row. -/
theorem copy_into {w : World} {ops : Array Oper} {rest : List Oper} {o : Oper} {a : Act} {Q : Exit → Act → World → Prop} (hgd : o.guard = none) (d s : Operand) (ho : o.op = .call { callee := .builtin .copy, args := #[d, s], argTypes := #[23, 23] })
    (base g n cap : Nat) (zs : List Int) (sp : Option Addr) (m scap B : Nat) (rs : List Int) (hd : a.eval d = .slice (some ⟨g, 0, none⟩) n cap) (hs : a.eval s = .slice sp m scap) (hO : OwnC w base g n cap zs) (wz : Wd zs) (hR : Reads w B sp m scap rs) (hm : m ≤ n)
    (h : ∀ w' us, Hid (OwnC w' base g n cap us) → Hid (∀ j, us[j]?.getD 0 = if j < m then rs[j]?.getD 0 else zs[j]?.getD 0) → Wd us → w.grownBy w' (some g) → wpList Tryz.prog ops Q rest (a.put o.dst (goInt m)) w') :
    wpList Tryz.prog ops Q (o :: rest) a w := by
  obtain ⟨i0, hi, hz0, hz1, hz2⟩ := info_parts Tryz.infoW
  have hlr := hR.1
  have hlz := hO.len
  by_cases h0 : m = 0
  · subst h0
    refine wpList_copy_nothing hgd d s _ _ ho 42 Tryz.underlying23 (by rw [hi]; simp [hz1]) _ sp n cap 0 scap hd hs (Nat.zero_min _) ?_
    exact h w zs hO (fun j => by rw [if_neg (by omega)]) wz (World.grownBy.refl _ _)
  · obtain ⟨ad, rfl, hcs⟩ := copy_cells hR m (Nat.le_refl _) (by omega)
    rw [List.take_of_length_le (by omega)] at hcs
    rcases hO.2 with ⟨h', _⟩ | ⟨g', cap', cur, h', hb, hg, hnc, hcm, hsz, ht⟩
    · simp at h'
    · simp only [Value.slice.injEq, Option.some.injEq, Addr.mk.injEq, and_true, true_and] at h'
      obtain ⟨rfl, rfl⟩ := h'
      have hlen : (rs.map (Value.int .u32)).length = m := by simp [hlr]
      have hzl : (zs.map (Value.int .u32)).length = n := by simp [hlz]
      rw [Nat.mul_one] at ht hsz
      refine wpList_copy_own hgd d s _ _ ho 42 Tryz.underlying23 (by rw [hi]; simp [hz1]) g 0 n cap ad m scap hd hs cur 42 hg (rs.map (Value.int .u32)) (by rw [hlen]; exact (Nat.min_eq_left hm).symm) hcs (by rw [hlen, hsz]; omega) (ints_oneCell _ _) ?_
      rw [hlen]
      refine h _ (rs ++ zs.drop m) ?_ (fun j => ?_) (hR.2.1.append (wz.drop m)) ?_
      · refine ⟨by simp; omega, .inr ⟨g, cap, _, rfl, hb, setRow_heap w g cur _ _ _ hg, hnc, hcm, by simp [hsz, hlr]; omega, ?_⟩⟩
        rw [Nat.mul_one]
        simp only [List.take_zero, List.nil_append, Nat.zero_add]
        rw [List.map_append, List.map_drop, ← ht]
        have e1 : n = (rs.map (Value.int .u32)).length + (n - m) := by rw [hlen]; omega
        conv => lhs; rw [e1]
        rw [List.take_length_add_append, ← List.drop_take]
      · rw [List.getElem?_append, hlr]
        by_cases c : j < m
        · rw [if_pos c, if_pos c]
        · rw [if_neg c, if_neg c, List.getElem?_drop, show m + (j - m) = j by omega]
      · exact ⟨rfl, rfl, rfl, by simp [World.setRow], fun k hk hne => setRow_other w g k _ (fun e => hne (by rw [e]))⟩

theorem OwnC.reads {w : World} {base g n cap : Nat} {ys : List Int} (h : OwnC w base g n cap ys) (hw : Wd ys) : Reads w w.heap.size (some ⟨g, 0, none⟩) n cap ys := by
  obtain ⟨a, c, hv, hr⟩ := Reads.own h hw
  simp only [Value.slice.injEq] at hv
  obtain ⟨rfl, _, rfl⟩ := hv
  exact hr
theorem OwnC.sl {w : World} {base g n cap : Nat} {ys : List Int} (h : OwnC w base g n cap ys) (hw : Wd ys) : Sl w (.slice (some ⟨g, 0, none⟩) n cap) ys := by
  have e := h.len
  subst e
  exact ⟨_, _, rfl, h.reads hw⟩

set_option maxHeartbeats 1600000 in
set_option maxRecDepth 100000 in
theorem replace_any (base gx gy n capx capy : Nat) (xs ys : List Int) (w : World) (hx : OwnC w base gx n capx xs) (hy : OwnC w base gy n capy ys) (hne : gx ≠ gy) (wx : Wd xs) (wy : Wd ys) (hn : n ≤ 8192) (tx : Trimmed xs) (h0 : 0 < sz ys) :
    Calls Tryz.prog 69 #[.slice (some ⟨gx, 0, none⟩) n capx, .slice (some ⟨gy, 0, none⟩) n capy] w fun e w' => ∃ (us : List Int) (q : Int), e = .returned (.tuple #[]) ∧ OwnC w' base gx n capx us ∧ OwnC w' base gy n capy ys ∧ Wd us ∧
      val xs = q * val ys + val us ∧ val us < val ys ∧ Below base w w' := by
  have bx := hx.base
  have by' := hy.base
  have cx := hx.cap
  have cy := hy.cap
  have lx := hx.len
  have ly := hy.len
  have sy := sz_le ys
  unfold maxLen at cx cy
  have HSZ := hid (size_any _ _ _ ys _ w (hy.reads wy) (by omega))
  have hyt : OwnC w base gy (sz ys) capy (trimmed ys) := hy.take (sz ys) (by omega)
  have HDV := hid (divide_any _ _ xs (trimmed ys) w (hx.sl wx) (hyt.sl wy.trimmed) (by omega) (by rw [length_trimmed]; omega) tx (Trimmed.trimmed _) (by rw [length_trimmed]; exact h0))
  have HOX := hid hx
  have HOY := hid hy
  have hszn : sz ys ≤ n := by omega
  have hsc : sz ys ≤ capy := by omega
  have n0 : 0 < n := by omega
  have hvl : val ys < 4294967296 ^ n := by have := val_lt wy; rw [ly] at this; exact this
  have HVL := hid hvl
  have HVT := hid (val_trimmed ys)
  clear hx hy hyt lx ly sy hvl
  obtain ⟨S, hS⟩ : ∃ S, sz ys = S := ⟨_, rfl⟩
  rw [hS] at HSZ HDV hszn hsc h0
  clear hS
  go_enter Tryz.func69, Tryz.ntmps69
  go_wp2_with fail
  refine Calls.mono HSZ.out ?_
  rintro e w' ⟨rfl, rfl⟩
  go_wp2_with fail
  refine Calls.mono HDV.out ?_
  rintro e w1 ⟨v1, u1, q, r, c, rfl, oq, orr, _, _, _, _, wq, wR, tq, tr, hv, hlt, hb1⟩
  rw [HVT.out] at hv hlt
  obtain ⟨a1, c1, rfl, hrr⟩ := Reads.own orr wR
  have lr : r.length ≤ n := len_of_lt wR tr (by have := HVL.out; omega)
  have ox1 : OwnC w1 base gx n capx xs := owns_later HOX.out hb1
  have oy1 : OwnC w1 base gy n capy ys := owns_later HOY.out hb1
  have hs1 := hb1.size
  obtain ⟨us, ou, hu0, _, hgu⟩ := clear_cells n 0 w1 xs ox1
  have hcl : ∀ ty, (Builtin.clear_ #[23] ty #[.slice (some ⟨gx, 0, none⟩) n capx]).run Tryz.prog w1 = .ok (.tuple #[]) (w1.setCells gx 0 (List.replicate n (.int .u32 0))) := fun ty =>
    Go.Lib.run_clear_slice w1 23 42 ty (.int .u32 0) Tryz.underlying23 (fun w => Tryz.zeroValue42 w) rfl rfl gx 0 n capx n0 (fun j hj => by rw [Nat.zero_add, ox1.cell j hj]; rfl) (fun j hj => by rw [Nat.zero_add]; exact ox1.free j)
  have oy2 := World.ownsRow.kept oy1 hgu (by right; intro e; simp [Value.ownBlock] at e; omega)
  have hb2 : Below base w1 (w1.setCells gx 0 (List.replicate n (.int .u32 0))) := (Below.refl _ _).grown hgu (by omega) (fun k hk => by simp at hk; omega)
  have hrr2 : Reads (w1.setCells gx 0 (List.replicate n (.int .u32 0))) w1.heap.size a1 r.length c1 r := by
    obtain ⟨r1, r2, r3, r4⟩ := hrr
    refine ⟨r1, r2, r3.imp id ?_, r4⟩
    rintro ⟨b, o, rfl, hb, hc⟩
    refine ⟨b, o, rfl, hb, fun j hj => ?_⟩
    have hbb := orr.lt b rfl
    exact hgu.cell (hc j hj) (by intro e; simp at e; omega)
  have hul := ou.len
  have hus : ∀ j : Nat, us[j]?.getD 0 = 0 := fun j => by
    by_cases cj : j < n
    · exact hu0 j (Nat.zero_le _) (by omega)
    · rw [List.getElem?_eq_none (by omega)]; rfl
  have wu : Wd us := fun z hz => by
    obtain ⟨j, hj, rfl⟩ := List.mem_iff_getElem.1 hz
    have := hus j
    rw [List.getElem?_eq_getElem hj] at this
    simp at this
    omega
  have hbB : Below base w (w1.setCells gx 0 (List.replicate n (.int .u32 0))) := (hb1.mono (by omega)).trans hb2
  have HUS := hid hus
  have HOU := hid ou
  have HOY2 := hid oy2
  have HRR := hid hrr2
  have HBB := hid hbB
  have HV := hid (And.intro hv hlt)
  have hs2 := hgu.size
  generalize w1.setCells gx 0 (List.replicate n (.int .u32 0)) = w2 at *
  clear oq orr hv hlt hb1 hrr ox1 oy1 ou hu0 hgu oy2 hb2 hrr2 hul hus hbB HOX HOY HSZ HDV
  go_wp2_with (refine copy_into rfl (.tmp 16) (.tmp 17) rfl base gx n capx us a1 r.length c1 _ r rfl rfl HOU.out wu HRR.out lr ?_)
  intro w3 ts HO3 HE3 wt hg3
  have HF : Hid (OwnC w3 base gy n capy ys) := World.ownsRow.kept HOY2.out hg3 (by right; intro e; simp [Value.ownBlock] at e; omega)
  have hb3 : Below base w w3 := HBB.out.trans ((Below.refl _ _).grown hg3 (by omega) (fun k hk => by simp at hk; omega))
  have HVV : Hid (val ts = val r) := val_eq_of (fun j => by
    rw [HE3.out j]
    split
    · rfl
    · rw [HUS.out j, List.getElem?_eq_none (by omega)]; rfl)
  clear hg3
  go_wp2_with fail
  go_end0
  exact ⟨ts, val q, rfl, HO3.out, HF.out, wt, by rw [HVV.out]; exact HV.out.1, by rw [HVV.out]; exact HV.out.2, hb3⟩
end Go.Proofs.YtomdkingdniohaaGreatDoor

/- nat.commonDivisor, nat.Gcd: the greatest common divisor of every two numbers, in new memory. -/
namespace Go.Proofs.YtomdkingdniohaaGreatDoor
open Go.RowKit
set_option linter.unusedVariables false

theorem val_take {zs : List Int} (k : Nat) (h : sz zs ≤ k) : val (zs.take k) = val zs := val_eq_of fun j => by
  rw [List.getElem?_take]
  split
  · rfl
  · rw [sz_behind zs j (by omega)]; rfl
theorem sz_mono {us vs : List Int} (wu : Wd us) (wv : Wd vs) (h : val vs ≤ val us) : sz vs ≤ sz us := by
  have := len_le_of_val wu.trimmed wv.trimmed (Trimmed.trimmed vs) (by rw [val_trimmed, val_trimmed]; exact h)
  rwa [length_trimmed, length_trimmed] at this
theorem list_same {us xs : List Int} (hl : us.length = xs.length) (h : ∀ j : Nat, us[j]?.getD 0 = xs[j]?.getD 0) : us = xs := by
  refine List.ext_getElem hl (fun j h1 h2 => ?_)
  have := h j
  rwa [List.getElem?_eq_getElem h1, List.getElem?_eq_getElem h2] at this

/-- Two new rows of noughts. -/
theorem two_made (wc : World) (base n : Nat) (M : Array Value) (hb : base ≤ wc.heap.size) (hn : n ≤ 8192) (hM : M = ((List.replicate n (0 : Int)).map (Value.int .u32)).toArray) :
    OwnC ((wc.alloc (.cells M 42)).alloc (.cells M 42)).drew base wc.heap.size n n (List.replicate n 0) ∧ OwnC ((wc.alloc (.cells M 42)).alloc (.cells M 42)).drew base (wc.heap.size + 1) n n (List.replicate n 0) ∧ Below wc.heap.size wc ((wc.alloc (.cells M 42)).alloc (.cells M 42)).drew := by
  subst hM
  have m : n ≤ maxLen := by unfold maxLen; omega
  have h1 : OwnC (wc.alloc (.cells ((List.replicate n (0 : Int)).map (Value.int .u32)).toArray 42)) base wc.heap.size n n (List.replicate n 0) := whole_row (Box.made wc _ _) (by simp) hb m
  have h2 : OwnC ((wc.alloc (.cells ((List.replicate n (0 : Int)).map (Value.int .u32)).toArray 42)).alloc (.cells ((List.replicate n (0 : Int)).map (Value.int .u32)).toArray 42)) base (wc.heap.size + 1) n n (List.replicate n 0) := by
    have := Box.made (wc.alloc (.cells ((List.replicate n (0 : Int)).map (Value.int .u32)).toArray 42)) 42 ((List.replicate n (0 : Int)).map (Value.int .u32)).toArray
    rw [show (wc.alloc (.cells ((List.replicate n (0 : Int)).map (Value.int .u32)).toArray 42)).heap.size = wc.heap.size + 1 by simp] at this
    exact whole_row this (by simp) (by omega) m
  exact ⟨owns_later h1 (alloc_later _ _).drew, h2, (bt (alloc_later _ _) (alloc_later _ _)).drew⟩

set_option maxHeartbeats 3200000 in
set_option maxRecDepth 100000 in
theorem commonDivisor_any (v u : Value) (xs ys : List Int) (w : World) (h : Sl w v xs) (g : Sl w u ys) (hn : xs.length ≤ 8192) (hm : ys.length ≤ 8192) (hx : Trimmed xs) (hy : Trimmed ys) :
    Calls Tryz.prog 50 #[v, u] w (Told1 w (gcdI (val xs) (val ys))) := by
  obtain ⟨i0, hi, hz0, hz1, hz2⟩ := info_parts Tryz.infoW
  have CC := hid (compare_sl v u xs ys w h g (by omega) (by omega))
  have wx := h.wd
  have wy := g.wd
  obtain ⟨a, cap, rfl, hr⟩ := h
  obtain ⟨b, cap', rfl, gr⟩ := g
  obtain ⟨c, hc⟩ : ∃ c, cmpI (val xs) (val ys) = c := ⟨_, rfl⟩
  rw [hc] at CC
  have HC := hid hc
  have HX := hid hr
  have HY := hid gr
  clear hc hr gr
  go_enter Tryz.func50, Tryz.ntmps50
  go_upto_if 12 with (go_at_call 65; refine Calls.mono CC.out ?_; rintro x w1 ⟨rfl, hb1⟩)
  go_cut [0, 1] from 13 to 14 (fun s0 s1 wx => ∃ (a0 : Option Addr) (n cp : Nat) (b0 : Option Addr) (m cp' : Nat) (x1 y1 : List Int), s0 = .slice a0 n cp ∧ s1 = .slice b0 m cp' ∧ Hid (Reads wx w.heap.size a0 n cp x1) ∧ Hid (Reads wx w.heap.size b0 m cp' y1) ∧ Hid (Trimmed x1) ∧ n ≤ 8192 ∧ m ≤ n ∧ Hid (val y1 ≤ val x1) ∧ Hid (gcdI (val x1) (val y1) = gcdI (val xs) (val ys)) ∧ Below w.heap.size w wx)
  case first =>
    have HB1 := hid hb1
    by_cases hlt : val xs < val ys
    · have hc1 : c = -1 := by rw [← HC.out, cmpI_lt hlt]
      have HL := hid hlt
      clear hlt
      subst hc1
      go_wp2_with fail
      go_meet
      case rel => exact ⟨_, _, _, _, _, _, ys, xs, rfl, rfl, HY.out.later HB1.out (Nat.le_refl _), HX.out.later HB1.out (Nat.le_refl _), hy, hm, len_le_of_val wy wx hx (Int.le_of_lt HL.out), Int.le_of_lt HL.out, gcdI_comm _ _, HB1.out⟩
    · have hci : 0 ≤ c := by rw [← HC.out]; unfold cmpI; rw [if_neg hlt]; split <;> omega
      have HL : Hid (val ys ≤ val xs) := by show _ ≤ _; omega
      clear hlt
      go_wp2_with fail
      go_meet
      case rel => exact ⟨_, _, _, _, _, _, xs, ys, rfl, rfl, HX.out.later HB1.out (Nat.le_refl _), HY.out.later HB1.out (Nat.le_refl _), hx, hn, len_le_of_val wx wy hy HL.out, HL.out, rfl, HB1.out⟩
  case rest =>
    obtain ⟨a0, n, cp, b0, m, cp', x1, y1, rfl, rfl, HR1, HR2, HT1, n8, hmn, HLE, HG, hbel⟩ := hcut
    clear HX HY CC HC wx wy hn hm hx hy
    go_upto_region 3 with fail
    go_cut [5, 6] from 15 to 20 (fun s5 s6 wx => ∃ g1 g2 : Nat, s5 = .slice (some ⟨g1, 0, none⟩) n n ∧ s6 = .slice (some ⟨g2, 0, none⟩) n n ∧ g1 ≠ g2 ∧ OwnC wx w.heap.size g1 n n (List.replicate n 0) ∧ OwnC wx w.heap.size g2 n n (List.replicate n 0) ∧ Below wc.heap.size wc wx)
    case first =>
      obtain ⟨M, hM⟩ : ∃ M, madeCells #[Value.int .u32 0] n = M := ⟨_, rfl⟩
      have hmk : ∀ ww, (Instr.makeSlice 23 (.int .i64 (n : Int)) (.int .i64 (n : Int))).run Tryz.prog ww = .ok (.slice (some ⟨ww.heap.size, 0, none⟩) n n) (ww.alloc (.cells M 42)) := fun ww => by
        have := run_make (P := Tryz.prog) ww 23 42 i0 (.int .u32 0) Tryz.underlying23 hi hz0 .i64 .i64 (n : Int) (n : Int) (by omega) (by omega) (by rw [hz2]; omega) (by omega)
        rw [hz1, Int.toNat_natCast, Nat.mul_one, show (Value.int .u32 0).cells = #[Value.int .u32 0] from rfl, hM] at this
        exact this
      have HM : Hid (M = ((List.replicate n (0 : Int)).map (Value.int .u32)).toArray) := by
        show _ = _
        rw [← made_words, hM]
      clear hM
      have HTM := hid (two_made wc w.heap.size n M hbel.size n8 HM.out)
      clear HM
      go_region
      all_goals go_wp2_with fail
      all_goals go_meet
      · exact ⟨_, _, rfl, rfl, by omega, HTM.out.1, HTM.out.2.1, HTM.out.2.2⟩
      · exact ⟨_, _, rfl, rfl, by omega, HTM.out.2.1, HTM.out.1, HTM.out.2.2⟩
    case rest =>
      rename World => w5
      obtain ⟨g1, g2, rfl, rfl, hne, o1, o2, hb2⟩ := hcut
      have hbA := hbel.trans (hb2.mono hbel.size)
      have HR1' := hid (HR1.out.later (hb2.mono hbel.size) (Nat.le_refl _))
      have HR2' := hid (HR2.out.later (hb2.mono hbel.size) (Nat.le_refl _))
      have l1 := HR1.out.1
      have l2 := HR2.out.1
      have wx1 := HR1.out.2.1
      have wy1 := HR2.out.2.1
      have b1 := o1.base
      have b2 := o2.base
      have HO1 := hid o1
      have HO2 := hid o2
      clear o1 o2 hbel hb2 HR1 HR2 hb1
      go_wp2_with (refine copy_into rfl (.tmp 21) (.tmp 22) rfl w.heap.size g1 n n (List.replicate n 0) a0 n cp _ x1 rfl rfl HO1.out (Wd.replicate n) HR1'.out (Nat.le_refl _) ?_)
      intro w6 us HU HUE wu hg6
      have hus : us = x1 := list_same (by rw [HU.out.len, l1]) (fun j => by
        rw [HUE.out j]
        split
        · rfl
        · rw [List.getElem?_eq_none (by simp; omega), List.getElem?_eq_none (by omega)])
      subst hus
      have hb6 : Below w.heap.size w5 w6 := (Below.refl _ _).grown hg6 (by omega) (fun k hk => by simp at hk; omega)
      have o2' : OwnC w6 w.heap.size g2 n n (List.replicate n 0) := World.ownsRow.kept HO2.out hg6 (by right; intro e; simp [Value.ownBlock] at e; omega)
      have HO2' := hid o2'
      have hbB := hbA.trans hb6
      have HR2b := hid (HR2'.out.later hb6 (Nat.le_refl _))
      have hs6 := hb6.size
      clear o2' hb6 hg6 HUE hbA HO1 HO2 HR1' HR2'
      go_wp2_with (refine copy_into rfl (.tmp 24) (.tmp 25) rfl w.heap.size g2 n n (List.replicate n 0) b0 m cp' _ y1 rfl rfl HO2'.out (Wd.replicate n) HR2b.out hmn ?_)
      intro w7 vs HVO HVE wv hg7
      have hvv : val vs = val y1 := val_eq_of (fun j => by
        rw [HVE.out j]
        split
        · rfl
        · rw [List.getElem?_eq_none (by omega : y1.length ≤ j), List.getElem?_replicate]
          split <;> rfl)
      have o1' : OwnC w7 w.heap.size g1 n n us := World.ownsRow.kept HU.out hg7 (by right; intro e; simp [Value.ownBlock] at e; omega)
      have hbC := hbB.trans ((Below.refl _ w6).grown hg7 (by omega) (fun k hk => by simp at hk; omega))
      have HO1 := hid o1'
      rw [← hvv] at HLE HG
      clear o1' hg7 HVE hbB HO2' HR2b HU hvv b1 b2 hs6
      generalize hGG : gcdI (val xs) (val ys) = G at *
      clear hGG
      go_wp2_with fail
      go_loopg [5, 6] (val us + val vs).toNat (fun k s5 s6 wr => ∃ (g1 g2 q : Nat) (us vs : List Int), s5 = .slice (some ⟨g1, 0, none⟩) q n ∧ s6 = .slice (some ⟨g2, 0, none⟩) q n ∧ q ≤ n ∧ g1 ≠ g2 ∧ OwnC wr w.heap.size g1 q n us ∧ OwnC wr w.heap.size g2 q n vs ∧ Wd us ∧ Wd vs ∧ Hid (Trimmed us) ∧ Hid (val vs ≤ val us) ∧ Hid ((k : Int) = val us + val vs) ∧ Hid (gcdI (val us) (val vs) = G) ∧ Below w.heap.size w wr)
      case atStart =>
        have n1 := val_nonneg wu
        have n2 := val_nonneg wv
        exact ⟨g1, g2, n, us, vs, rfl, rfl, Nat.le_refl _, hne, HO1.out, HVO.out, wu, wv, HT1, HLE, (show _ = _ by omega), HG, hbC⟩
      case round =>
        clear HO1 HVO HT1 HLE HG hbC wu wv hne wx1 wy1 l1 l2
        obtain ⟨h1, h2, q, xx, yy, rfl, rfl, hq, hne, o1, o2, wxx, wyy, HT, HLE, HK, HG, hbel⟩ := hrel
        have b1 := o1.base
        have b2 := o2.base
        have l1 := o1.len
        have l2 := o2.len
        have sy := sz_le yy
        rw [l2] at sy
        have HSZ := hid (fun ww (hb : Below wr.heap.size wr ww) => size_any _ _ _ yy _ ww ((o2.reads wyy).later hb hb.size) (by omega))
        by_cases hs : 2 < sz yy
        · obtain ⟨e, rfl⟩ : ∃ e, q = e + 3 := ⟨q - 3, by omega⟩
          have ht3 : sz xx = e + 3 := by have := HT.out; unfold Trimmed at this; omega
          have tb := wxx.at (e + 2)
          have tt := sz_top xx (by omega)
          rw [ht3, show e + 3 - 1 = e + 2 by omega] at tt
          have HLK := hid (look_any _ e n xx _ n yy wr (o1.reads wxx) (o2.reads wyy) (by omega) (by omega) HLE.out)
          have hs' : (2 : Int) < (sz yy : Int) := by omega
          have HSY := hid hs
          have nx := val_nonneg wxx
          have ny := val_nonneg wyy
          have HO1 := hid o1
          have HO2 := hid o2
          have HL1 := hid l1
          have HL2 := hid l2
          have hvx : val xx < 4294967296 ^ (e + 3) := by have := val_lt wxx; rw [l1] at this; exact this
          have HVX := hid hvx
          have HT3 := hid ht3
          clear tb tt o1 o2 hs hvx ht3 l1 l2
          obtain ⟨S, hS⟩ : ∃ S, sz yy = S := ⟨_, rfl⟩
          rw [hS] at HSZ hs' HSY sy
          have HS := hid hS
          clear hS
          go_wp2_with fail
          refine Calls.mono (HSZ.out _ (Below.refl _ _)) ?_
          rintro x w' ⟨rfl, rfl⟩
          go_wp2_with fail
          refine Calls.mono HLK.out ?_
          rintro x w8 ⟨s, a, b, c, d, rfl, s0, s1, hss, hb8⟩
          have hb9 : Below wr.heap.size wr (w8.alloc (.cells #[.int .i64 s, .int .i64 a, .int .i64 b, .int .i64 c, .int .i64 d] 99)) := bt hb8 (alloc_later _ _)
          have hs9 := hb9.size
          have o1' : OwnC _ w.heap.size h1 (e + 3) n xx := owns_later HO1.out hb9
          have o2' : OwnC _ w.heap.size h2 (e + 3) n yy := owns_later HO2.out hb9
          rcases hss with h0 | ⟨hs1, lp⟩
          · subst h0
            have HRP := hid (replace_any w.heap.size h1 h2 (e + 3) n n xx yy _ o1' o2' hne wxx wyy (by omega) HT.out (by have := HS.out; have := HSY.out; omega))
            have HB9 := hid (bt hbel hb9)
            clear o1' o2' hb9 HLK HSZ
            go_wp2_with fail
            refine Calls.mono HRP.out ?_
            rintro x w10 ⟨rs, qt, rfl, p1, p2, wrs, hv, hlt, hb10⟩
            have HSZ2 := hid (size_any _ _ _ yy _ w10 (p2.reads wyy) (by omega))
            rw [HS.out] at HSZ2
            have hbD : Below w.heap.size w w10 := HB9.out.trans hb10
            have hrs : sz rs ≤ S := by have := sz_mono wyy wrs (Int.le_of_lt hlt); rw [HS.out] at this; exact this
            have q1 : ∀ k, OwnC (w10.drewN k) w.heap.size h2 S n (yy.take S) := fun k => (p2.take S sy).drewN k
            have q2 : ∀ k, OwnC (w10.drewN k) w.heap.size h1 S n (rs.take S) := fun k => (p1.take S sy).drewN k
            have HQ1 := hid q1
            have HQ2 := hid q2
            have HV1 : Hid (val (yy.take S) = val yy) := val_take S (by rw [HS.out]; exact Nat.le_refl _)
            have HV2 : Hid (val (rs.take S) = val rs) := val_take S hrs
            have HTS : Hid (Trimmed (yy.take S)) := by
              have := Trimmed.trimmed yy
              unfold trimmed at this
              rw [HS.out] at this
              exact this
            have HGG : Hid (gcdI (val yy) (val rs) = G) := by show _ = _; rw [← HG.out]; exact (gcdI_rest hv).symm
            have HLT := hid hlt
            have hSn : S ≤ n := by omega
            have nr := val_nonneg wrs
            have hne2 : h2 ≠ h1 := fun e => hne e.symm
            clear p1 p2 hv hlt hb10 q1 q2 hrs HRP
            go_wp2_with fail
            refine Calls.mono HSZ2.out ?_
            rintro x w' ⟨rfl, rfl⟩
            go_wp2_with fail
            go_quiet (fail)
            go_wp2_with fail
            go_roundg (val yy + val rs).toNat
            case rel => exact ⟨h2, h1, S, yy.take S, rs.take S, rfl, rfl, hSn, hne2, HQ1.out _, HQ2.out _, wyy.take S, wrs.take S, HTS, (show _ ≤ _ by rw [HV1.out, HV2.out]; exact Int.le_of_lt HLT.out), (show _ = _ by rw [HV1.out, HV2.out]; omega), (show _ = _ by rw [HV1.out, HV2.out]; exact HGG.out), bdn hbD _⟩
            case measure => have := HK.out; have := HLE.out; have := HLT.out; omega
          · have HAP := hid (apply_any w.heap.size h1 h2 (e + 3) n n xx yy s a b c d _ o1' o2' hne wxx wyy (by omega) lp.ab lp.cd (by have := lp.pos; have := lp.lt; omega) (by have := lp.le; have := HVX.out; omega) lp.pos (by have := lp.lt; have := lp.le; have := HVX.out; omega))
            have HB9 := hid (bt hbel hb9)
            have HLP := hid lp
            clear o1' o2' hb9 HLK HSZ lp
            go_wp2_with fail
            refine Calls.mono HAP.out ?_
            rintro x w10 ⟨us, vs, rfl, p1, p2, wus, wvs, hv1, hv2, hb10⟩
            have hbD : Below w.heap.size w w10 := HB9.out.trans hb10
            have HSZ2 := hid (size_any _ _ _ us _ w10 (p1.reads wus) (by omega))
            have su := sz_le us
            rw [p1.len] at su
            obtain ⟨T, hT⟩ : ∃ T, sz us = T := ⟨_, rfl⟩
            rw [hT] at HSZ2 su
            have hvs : sz vs ≤ T := by rw [← hT]; exact sz_mono wus wvs (by rw [hv1, hv2]; exact Int.le_of_lt HLP.out.lt)
            have q1 : ∀ k, OwnC (w10.drewN k) w.heap.size h1 T n (us.take T) := fun k => (p1.take T su).drewN k
            have q2 : ∀ k, OwnC (w10.drewN k) w.heap.size h2 T n (vs.take T) := fun k => (p2.take T su).drewN k
            have HQ1 := hid q1
            have HQ2 := hid q2
            have HV1 : Hid (val (us.take T) = a * val xx + b * val yy) := by show _ = _; rw [val_take T (by omega), hv1]
            have HV2 : Hid (val (vs.take T) = c * val xx + d * val yy) := by show _ = _; rw [val_take T hvs, hv2]
            have HTS : Hid (Trimmed (us.take T)) := by
              have := Trimmed.trimmed us
              unfold trimmed at this
              rw [hT] at this
              exact this
            have hSn : T ≤ n := by omega
            have n1 := val_nonneg wus
            have n2 := val_nonneg wvs
            rw [hv1] at n1
            rw [hv2] at n2
            have HN := hid (And.intro n1 n2)
            clear p1 p2 hv1 hv2 hb10 q1 q2 hvs HAP hT n1 n2
            go_wp2_with fail
            refine Calls.mono HSZ2.out ?_
            rintro x w' ⟨rfl, rfl⟩
            go_wp2_with fail
            go_quiet (fail)
            go_wp2_with fail
            go_roundg ((a * val xx + b * val yy) + (c * val xx + d * val yy)).toNat
            case rel => exact ⟨h1, h2, T, us.take T, vs.take T, rfl, rfl, hSn, hne, HQ1.out _, HQ2.out _, wus.take T, wvs.take T, HTS, (show _ ≤ _ by rw [HV1.out, HV2.out]; exact Int.le_of_lt HLP.out.lt), (show _ = _ by rw [HV1.out, HV2.out]; have := HN.out; omega), (show _ = _ by rw [HV1.out, HV2.out, HLP.out.same]; exact HG.out), bdn hbD _⟩
            case measure => have := HK.out; have := HLP.out.less; have := HN.out; omega
        · have hs' : ¬ (2 : Int) < (sz yy : Int) := by omega
          have ot : OwnC wr w.heap.size h2 (sz yy) n (trimmed yy) := o2.take (sz yy) (by omega)
          have HSD := hid (smallDivisor_any _ _ xx (trimmed yy) wr (o1.sl wxx) (ot.sl wyy.trimmed) (by omega) HT.out (Trimmed.trimmed _) (by rw [length_trimmed]; omega))
          rw [val_trimmed, HG.out] at HSD
          have hsq : sz yy ≤ n := by omega
          clear ot o1 o2
          obtain ⟨S, hS⟩ : ∃ S, sz yy = S := ⟨_, rfl⟩
          rw [hS] at HSZ hs' HSD sy hsq
          clear hS
          go_wp2_with fail
          refine Calls.mono (HSZ.out _ (Below.refl _ _)) ?_
          rintro x w' ⟨rfl, rfl⟩
          go_wp2_with fail
          refine Calls.mono (HSZ.out _ (Below.refl _ _)) ?_
          rintro x w' ⟨rfl, rfl⟩
          go_wp2_with fail
          refine Calls.mono HSD.out ?_
          rintro x w9 ⟨v9, zs, rfl, o9, w9', t9, hv9, hb9⟩
          have HO9 := hid (owns_base o9 hbel.size)
          have hb := bt hbel hb9
          clear o9 HSD HSZ
          go_wp2_with fail
          go_ret
          exact ⟨v9, zs, rfl, HO9.out, w9', t9, hv9, hb⟩

theorem gcdI_le {x y : Int} (hx : 0 ≤ x) (hy : 0 ≤ y) : gcdI x y ≤ x ∨ gcdI x y ≤ y := by
  by_cases h : x = 0
  · subst h; right; rw [gcdI_comm, gcdI_zero y hy]; exact Int.le_refl _
  · left; exact Int.le_of_dvd (by omega) (Int.gcd_dvd_left ..)
theorem gcdI_nonneg (x y : Int) : 0 ≤ gcdI x y := by unfold gcdI; omega

set_option maxHeartbeats 800000 in
set_option maxRecDepth 100000 in
theorem gcd_sl (v u : Value) (xs ys : List Int) (w : World) (h : Sl w v xs) (g : Sl w u ys) (hn : xs.length ≤ 281474976710656) (hm : ys.length ≤ 281474976710656) :
    Calls Tryz.prog 27 #[v, u] w (Told w (both xs ys) (gcdI (val xs) (val ys))) := by
  by_cases hb : both xs ys = 0
  · have HB := hid (checkBoth_sl v u xs ys w h g hn hm)
    rw [hb] at HB ⊢
    obtain ⟨c1, c2⟩ := both_ok hb
    obtain ⟨lx, tx⟩ := chk_ok c1
    obtain ⟨ly, ty⟩ := chk_ok c2
    have HD := hid (commonDivisor_any v u xs ys w h g lx ly tx ty)
    have HW : Hid (gcdI (val xs) (val ys) < wide) := by
      show _ < _
      have a1 := lt_wide (val_lt h.wd) lx
      have a2 := lt_wide (val_lt g.wd) ly
      rcases gcdI_le (val_nonneg h.wd) (val_nonneg g.wd) with e | e <;> omega
    clear h g hb c1 c2 tx ty
    go_enter Tryz.func27, Tryz.ntmps27
    go_wp2_with fail
    refine Calls.mono HB.out ?_
    rintro e w' ⟨rfl, rfl⟩
    go_wp2_with fail
    refine Calls.mono HD.out ?_
    rintro e w1 ⟨v1, zs, rfl, o1, wz, tz, hv, hbel⟩
    have HO := hid o1
    have HV := hid hv
    clear o1 hv HD HB
    go_wp2_with fail
    go_ret2
    exact ⟨v1, zs, 0, rfl, HO.out, Tells.ok wz tz HV.out HW.out, hbel⟩
  · have HB := hid (checkBoth_sl v u xs ys w h g hn hm)
    have HT := hid (Tells.err (t := gcdI (val xs) (val ys)) hb)
    have hbb : (both xs ys != 0) = true := by simp [hb]
    obtain ⟨e, he⟩ : ∃ e, both xs ys = e := ⟨_, rfl⟩
    rw [he] at HB HT hbb hb ⊢
    clear h g he
    go_enter Tryz.func27, Tryz.ntmps27
    go_wp2_with fail
    refine Calls.mono HB.out ?_
    rintro e w' ⟨rfl, rfl⟩
    go_wp2_with fail
    go_ret2
    exact ⟨_, [], e, rfl, World.ownsRow_nil _ _ _ _, HT.out, Below.refl _ _⟩
end Go.Proofs.YtomdkingdniohaaGreatDoor

/- Whole numbers: whole.Gcd: of every two numbers that may be. -/
namespace Go.Proofs.YtomdkingdniohaaGreatDoor
open Go.RowKit
set_option linter.unusedVariables false

set_option maxHeartbeats 3200000 in
set_option maxRecDepth 100000 in
theorem wgcd_any (n : Bool) (v : Value) (xs : List Int) (m0 : Bool) (u : Value) (ys : List Int) (w : World) (h : Sl w v xs) (g : Sl w u ys) (hx : wchk n xs = 0) (hy : wchk m0 ys = 0) :
    Calls Tryz.prog 9 #[.agg #[.bool n, v], .agg #[.bool m0, u]] w (WTold w 0 (gcdI (val xs) (val ys))) := by
  obtain ⟨lx, tx, _⟩ := wchk_ok hx
  obtain ⟨ly, ty, _⟩ := wchk_ok hy
  obtain ⟨a, cap, rfl, hr⟩ := h
  obtain ⟨b, cap', rfl, gr⟩ := g
  have h : Sl w (.slice a xs.length cap) xs := ⟨a, cap, rfl, hr⟩
  have g : Sl w (.slice b ys.length cap') ys := ⟨b, cap', rfl, gr⟩
  clear hr gr
  have HB : Hid (Below w.heap.size w (((w.alloc (.cells #[.bool n, .slice a xs.length cap] 25)).alloc (.cells #[.bool m0, .slice b ys.length cap'] 25)).alloc (.cells #[.bool false, .slice none 0 0] 25))) := bt (bt (alloc_later _ _) (alloc_later _ _)) (alloc_later _ _)
  have HXB : Hid (Box (((w.alloc (.cells #[.bool n, .slice a xs.length cap] 25)).alloc (.cells #[.bool m0, .slice b ys.length cap'] 25)).alloc (.cells #[.bool false, .slice none 0 0] 25)) (w.heap.size + 1 + 1) 25 #[.bool false, .slice none 0 0]) := by
    have e := Box.made ((w.alloc (.cells #[.bool n, .slice a xs.length cap] 25)).alloc (.cells #[.bool m0, .slice b ys.length cap'] 25)) 25 #[.bool false, .slice none 0 0]
    simp at e
    exact e
  have HXR : Hid (w.heap.size ≤ w.heap.size + 1 + 1 ∧ w.heap.size + 1 + 1 < (((w.alloc (.cells #[.bool n, .slice a xs.length cap] 25)).alloc (.cells #[.bool m0, .slice b ys.length cap'] 25)).alloc (.cells #[.bool false, .slice none 0 0] 25)).heap.size) := ⟨by omega, HXB.out.lt⟩
  have HN : Hid (Box (((w.alloc (.cells #[.bool n, .slice a xs.length cap] 25)).alloc (.cells #[.bool m0, .slice b ys.length cap'] 25)).alloc (.cells #[.bool false, .slice none 0 0] 25)) w.heap.size 25 #[.bool n, .slice a xs.length cap]) := Box.later (Box.made w _ _) (bt (alloc_later _ _) (alloc_later _ _)) (by simp)
  have HM : Hid (Box (((w.alloc (.cells #[.bool n, .slice a xs.length cap] 25)).alloc (.cells #[.bool m0, .slice b ys.length cap'] 25)).alloc (.cells #[.bool false, .slice none 0 0] 25)) (w.heap.size + 1) 25 #[.bool m0, .slice b ys.length cap']) := by
    have e := Box.later (Box.made (w.alloc (.cells #[.bool n, .slice a xs.length cap] 25)) 25 #[.bool m0, .slice b ys.length cap']) (alloc_later ((w.alloc (.cells #[.bool n, .slice a xs.length cap] 25)).alloc (.cells #[.bool m0, .slice b ys.length cap'] 25)) (.cells #[.bool false, .slice none 0 0] 25)) (by simp)
    simp at e
    exact e
  have HCB := hid (wcheckBoth_any n _ xs m0 _ ys _ (h.later HB.out) (g.later HB.out) (by omega) (by omega))
  rw [wboth_good hx hy] at HCB
  have HSL := hid (And.intro (h.later HB.out) (g.later HB.out))
  have HT : Hid (0 ≤ gcdI (val xs) (val ys) ∧ sg false (gcdI (val xs) (val ys)) = gcdI (val xs) (val ys)) := ⟨gcdI_nonneg _ _, rfl⟩
  clear h g hx hy
  go_enter Tryz.func9, Tryz.ntmps9
  go_wp2_with fail
  refine Calls.mono HCB.out ?_
  rintro e w1 ⟨rfl, hb1⟩
  obtain ⟨p0, p1, _, _⟩ := res_box HN.out hb1
  obtain ⟨q0, q1, _, _⟩ := res_box HM.out hb1
  have HS := hid (gcd_sl _ _ xs ys w1 (HSL.out.1.later hb1) (HSL.out.2.later hb1) (by omega) (by omega))
  rw [both_good (chk_good (by omega) tx) (chk_good (by omega) ty)] at HS
  have HB1 := hid hb1
  clear hb1
  go_wp2_with fail
  refine Calls.mono HS.out ?_
  rintro e w2 ⟨v2, zs, code, rfl, o2, t2, hb2⟩
  obtain ⟨a2, c2, hv2⟩ := own_slice' o2
  subst hv2
  obtain ⟨m3, us, cc, e1, e2, wt⟩ := wtells_of (n := false) t2 HT.out.1
  rw [HT.out.2] at wt
  have HTD := hid (wtold_any false a2 zs.length c2 code w2 (tells_code t2))
  rw [e1 a2 c2] at HTD
  have HO2 := hid (owns_base o2 HB1.out.size)
  have HB2 := hid (bt HB1.out hb2)
  have HWT := hid wt
  have HE2 := hid e2
  clear o2 t2 hb2 e1 e2 wt p0 p1 q0 q1
  go_wp2_with fail
  refine Calls.mono HTD.out ?_
  rintro e w3 ⟨rfl, hb3⟩
  obtain ⟨r0, r1, f0, f1⟩ := res_box HXB.out (bt HB2.out hb3)
  have HO3 := hid (wtold_cut HWT.out HE2.out (owns_later HO2.out hb3))
  obtain ⟨a3, k3, c3, e3⟩ := cut_slice cc a2 zs.length c2
  rw [e3] at HO3 ⊢
  have HBC := hid (bt HB.out (bt HB2.out hb3))
  have HGE : Hid (∀ g, (Value.slice a3 k3 c3).ownBlock = some g → g ≠ w.heap.size + 1 + 1) := fun g hg => by
    have h1 := (World.ownsRow.lt HO3.out g hg).1
    have h2 := HXR.out
    omega
  clear hb3 e3
  go_wp2_with fail
  refine bodyPost_ret (v := .tuple #[.agg #[.bool m3, .slice a3 k3 c3], .int .i64 cc]) (by simp [results, Tryz.results9, go_sem, r0, r1]) rfl ?_
  exact ⟨m3, _, us, cc, rfl, owns_base (own_put2 HO3.out _ HGE.out _ _) (by have := HXR.out; omega), HWT.out, below_put2 HBC.out _ (by have := HXR.out; omega) _ _⟩
end Go.Proofs.YtomdkingdniohaaGreatDoor

/- Whole numbers that are known: what a call told, written out. -/
namespace Go.Proofs.YtomdkingdniohaaGreatDoor
open Go.RowKit
set_option linter.unusedVariables false

/-- A whole number that is known, alone, or beside a code. -/
def Kn (w : World) (n : Bool) (zs : List Int) (k : Nat) (x : Ending) (w' : World) : Prop := ∃ a c, x = .returned (.agg #[.bool n, .slice a k c]) ∧ Hid (Sl w' (.slice a k c) zs) ∧ Hid (Below w.heap.size w w')
def Kt (w : World) (n : Bool) (zs : List Int) (k : Nat) (code : Int) (x : Ending) (w' : World) : Prop := ∃ a c, x = .returned (.tuple #[.agg #[.bool n, .slice a k c], .int .i64 code]) ∧ Hid (Sl w' (.slice a k c) zs) ∧ Hid (Below w.heap.size w w')
theorem wnum_lim {n : Bool} {zs : List Int} (wz : Wd zs) (hz : wchk n zs = 0) : -wlim < wval n zs ∧ wval n zs < wlim := by
  have h1 := below2048 wz (wchk_ok hz).1
  have h2 := val_nonneg wz
  cases n <;> simp [wval] <;> omega
theorem of_kn (x : Int) (h0 : -9223372036854775808 ≤ x) (h1 : x ≤ 9223372036854775807) (n : Bool) (zs : List Int) (k : Nat) (hk : zs.length = k) (wz : Wd zs) (hz : wchk n zs = 0) (hv : wval n zs = x) (w : World) :
    Calls Tryz.prog 5 #[.int .i64 x] w (Kn w n zs k) := by
  obtain ⟨_, tz, sz⟩ := wchk_ok hz
  refine Calls.mono (lawOf_any x w h0 h1) ?_
  rintro e w' ⟨m, v, ys, rfl, o, wy, ty, ly, sy, vy, hb⟩
  obtain ⟨rfl, rfl⟩ := wsame' wz wy tz ty sz sy (hv.trans vy.symm)
  obtain ⟨a, c, hs⟩ := own_slice' o
  subst hs hk
  exact ⟨a, c, rfl, Sl.own o wz, hb⟩
theorem told_kn {f : Nat} {args : Array Value} {w : World} {t : Int} (H : Calls Tryz.prog f args w (WTold w 0 t)) (n : Bool) (zs : List Int) (k : Nat) (hk : zs.length = k) (wz : Wd zs) (hz : wchk n zs = 0) (hv : wval n zs = t) : Calls Tryz.prog f args w (Kt w n zs k 0) := by
  obtain ⟨_, tz, sz⟩ := wchk_ok hz
  refine Calls.mono H ?_
  rintro e w' ⟨m, v, ys, code, rfl, o, ht, hb⟩
  have hl := wnum_lim wz hz
  obtain ⟨rfl, vy⟩ := ht.good rfl (by omega) (by omega)
  obtain ⟨rfl, rfl⟩ := wsame' wz ht.wd tz ht.trim sz ht.sign (hv.trans vy.symm)
  obtain ⟨a, c, hs⟩ := own_slice' o
  subst hs hk
  exact ⟨a, c, rfl, Sl.own o wz, hb⟩
theorem told_er {f : Nat} {args : Array Value} {w : World} {e0 t : Int} (H : Calls Tryz.prog f args w (WTold w e0 t)) (he : e0 ≠ 0) : Calls Tryz.prog f args w (Kt w false [] 0 e0) := by
  refine Calls.mono H ?_
  rintro e w' ⟨m, v, ys, code, rfl, o, ht, hb⟩
  obtain ⟨rfl, rfl, rfl⟩ := ht.bad he
  obtain ⟨a, c, hs⟩ := own_slice' o
  subst hs
  exact ⟨a, c, rfl, Sl.own o Wd.nil, hb⟩
theorem told_lg {f : Nat} {args : Array Value} {w : World} {t : Int} (H : Calls Tryz.prog f args w (WTold w 0 t)) (hl : wlim ≤ t) : Calls Tryz.prog f args w (Kt w false [] 0 3) := by
  refine Calls.mono H ?_
  rintro e w' ⟨m, v, ys, code, rfl, o, ht, hb⟩
  obtain ⟨rfl, rfl, rfl⟩ := ht.long rfl (.inl hl)
  obtain ⟨a, c, hs⟩ := own_slice' o
  subst hs
  exact ⟨a, c, rfl, Sl.own o Wd.nil, hb⟩
/-- Quotient and rest that are known. -/
def Kd (w : World) (n : Bool) (zs : List Int) (k : Nat) (rs : List Int) (l : Nat) (code : Int) (x : Ending) (w' : World) : Prop := ∃ a c b d, x = .returned (.tuple #[.agg #[.bool n, .slice a k c], .agg #[.bool false, .slice b l d], .int .i64 code]) ∧ Hid (Sl w' (.slice a k c) zs ∧ Sl w' (.slice b l d) rs) ∧ Hid (Below w.heap.size w w')
theorem kquot {q r q' r' y : Int} (h : q * y + r = q' * y + r') (r0 : 0 ≤ r) (r1 : 0 ≤ r') (h0 : r < (y.natAbs : Int)) (h1 : r' < (y.natAbs : Int)) : q = q' ∧ r = r' := by
  have key : ∀ {q r q' r' y : Int}, q * y + r = q' * y + r' → 0 ≤ r → 0 ≤ r' → r < y → r' < y → q = q' ∧ r = r' := by
    intro q r q' r' y h r0 r1 h0 h1
    have y0 : 0 < y := by omega
    have e1 := (Int.ediv_emod_unique y0 (a := q * y + r) (r := r) (q := q)).2 ⟨by rw [Int.mul_comm y]; omega, r0, h0⟩
    have e2 := (Int.ediv_emod_unique y0 (a := q * y + r) (r := r') (q := q')).2 ⟨by rw [Int.mul_comm y]; omega, r1, h1⟩
    exact ⟨by rw [← e1.1, ← e2.1], by rw [← e1.2, ← e2.2]⟩
  by_cases c : 0 ≤ y
  · exact key h r0 r1 (by omega) (by omega)
  · have e := key (q := -q) (q' := -q') (y := -y) (by rw [Int.neg_mul_neg, Int.neg_mul_neg]; exact h) r0 r1 (by omega) (by omega)
    exact ⟨by omega, e.2⟩
theorem div_kn {f : Nat} {args : Array Value} {w : World} {X Y : Int} (H : Calls Tryz.prog f args w (WDiv w X Y)) (n : Bool) (zs : List Int) (k : Nat) (rs : List Int) (l : Nat) (hk : zs.length = k) (hl : rs.length = l) (wz : Wd zs) (hz : wchk n zs = 0) (wr : Wd rs) (tr : Trimmed rs) (hv : X = wval n zs * Y + val rs) (hlt : val rs < (Y.natAbs : Int)) : Calls Tryz.prog f args w (Kd w n zs k rs l 0) := by
  obtain ⟨_, tz, sz⟩ := wchk_ok hz
  refine Calls.mono H ?_
  rintro e w' ⟨m, vq, zq, vr, zr, rfl, oq, orr, wq, wr', tq, tr', lq, lr, sq, hX, hY, hb⟩
  obtain ⟨e1, e2⟩ := kquot (hv.symm.trans hX) (val_nonneg wr) (val_nonneg wr') hlt hY
  obtain ⟨rfl, rfl⟩ := wsame' wz wq tz tq sz sq e1
  obtain rfl := trimmed_eq wr wr' tr tr' e2
  obtain ⟨a, c, hs⟩ := own_slice' oq
  obtain ⟨b, d, hs2⟩ := own_slice' orr
  subst hs hs2 hk hl
  exact ⟨a, c, b, d, rfl, ⟨Sl.own oq wz, Sl.own orr wr⟩, hb⟩
theorem is_kn (x : Int) (n : Bool) (zs : List Int) (k : Nat) (a : Option Addr) (c : Nat) (w : World) (h : Sl w (.slice a k c) zs) (hz : wchk n zs = 0) (hv : wval n zs = x) (h0 : -9223372036854775808 ≤ x) (h1 : x ≤ 9223372036854775807) :
    Calls Tryz.prog 6 #[.agg #[.bool n, .slice a k c], .int .i64 x] w fun e w' => e = .returned (.bool true) ∧ Hid (Below w.heap.size w w') := by
  have e := lawIs_any n _ zs x w h (Nat.le_trans (wchk_ok hz).1 (by omega))
  have hi := i64of_yes (n := n) (xs := zs) ⟨hz, by omega, by omega⟩
  rw [hi, hv, decide_eq_true rfl] at e
  exact e
end Go.Proofs.YtomdkingdniohaaGreatDoor

/- The document's own sum of natural numbers: slackwaterref01.Plus: of every two lists that can be read. -/
namespace Go.Proofs.YtomdkingdniohaaGreatDoor
open Go.RowKit
set_option linter.unusedVariables false

/-- One number, trimmed, in new memory. -/
def Ref1 (w : World) (t : Int) (x : Ending) (w' : World) : Prop := ∃ v zs, x = .returned v ∧ w'.ownsRow w.heap.size 42 1 v zs.length (zs.map (Value.int .u32)) ∧ Wd zs ∧ Trimmed zs ∧ val zs = t ∧ Below w.heap.size w w'
theorem plus_end {us : List Int} (hw : Wd us) (n : Nat) (c V : Int) (hl : us.length = n) (h0 : 0 ≤ c) (h1 : V < 4294967296 ^ n) (h : valTo us n + c * 4294967296 ^ n = V) : val us = V := by
  have b := valTo_bounds hw n
  have hp := pw_pos n
  have hc : c = 0 := by
    by_cases z : c = 0
    · exact z
    · have e1 : 1 * 4294967296 ^ n ≤ c * 4294967296 ^ n := Int.mul_le_mul_of_nonneg_right (by omega) (by omega)
      omega
  rw [hc] at h
  rw [← valTo_stable us n (by omega)]
  omega

end Go.Proofs.YtomdkingdniohaaGreatDoor

/- The document's own difference and product of natural numbers: slackwaterref01.Less, Times: of every two lists that can be read. -/
namespace Go.Proofs.YtomdkingdniohaaGreatDoor
open Go.RowKit
set_option linter.unusedVariables false

theorem bdw {B : Nat} {a w : World} (h : Below B a w) (n : Nat) : Below B a (w.drewN n) := h.trans ⟨rfl, rfl, rfl, Nat.le_refl _, fun _ _ => rfl⟩
theorem less_step (xs ys us : List Int) (k : Nat) (cc z c' : Int) (hk : k < us.length) (ht : z - c' * 4294967296 = xs[k]?.getD 0 - (ys[k]?.getD 0 + cc)) (h : valTo us k - cc * 4294967296 ^ k = valTo xs k - valTo ys k) :
    valTo (us.set k z) (k + 1) - c' * 4294967296 ^ (k + 1) = valTo xs (k + 1) - valTo ys (k + 1) := by
  rw [valTo_set us k z hk, valTo_succ, valTo_succ, pw_succ]
  generalize (4294967296 : Int) ^ k = P at *
  generalize xs[k]?.getD 0 = x at *
  generalize ys[k]?.getD 0 = y at *
  grind
theorem less_end {us : List Int} (hw : Wd us) (n : Nat) (c V : Int) (hl : us.length = n) (h0 : 0 ≤ c) (hV : 0 ≤ V) (h : valTo us n - c * 4294967296 ^ n = V) : val us = V := by
  have b := valTo_bounds hw n
  have hp := pw_pos n
  have hc : c = 0 := by
    by_cases z : c = 0
    · exact z
    · have e1 : 1 * 4294967296 ^ n ≤ c * 4294967296 ^ n := Int.mul_le_mul_of_nonneg_right (by omega) (by omega)
      omega
  rw [hc] at h
  rw [← valTo_stable us n (by omega)]
  omega
end Go.Proofs.YtomdkingdniohaaGreatDoor

/- The document's own product of natural numbers: slackwaterref01.Times: of every two lists that can be read. -/
namespace Go.Proofs.YtomdkingdniohaaGreatDoor
open Go.RowKit
set_option linter.unusedVariables false

theorem Reads.cells {w : World} {B : Nat} {a : Option Addr} {n cap : Nat} {zs : List Int} (h : Reads w B a n cap zs) : ∀ k, k < n → ∃ b1 o1, a = some ⟨b1, o1, none⟩ ∧ b1 < B ∧ w.cell? ⟨b1, o1 + k, none⟩ = some (.int .u32 (zs[k]?.getD 0)) := fun k hk => by
  rcases h.2.2.1 with h0 | ⟨b1, o1, e1, l1, c1⟩
  · omega
  · exact ⟨b1, o1, e1, l1, c1 k hk⟩
theorem replicate_zero (n j : Nat) : (List.replicate n (0 : Int))[j]?.getD 0 = 0 := by rw [List.getElem?_replicate]; split <;> rfl
/-- Behind a row of a product. -/
theorem row_end (xs zs us ys : List Int) (k m : Nat) (c : Int) (hl : k + m < us.length) (hku : ∀ j, j < k ∨ k + m ≤ j → us[j]?.getD 0 = ys[j]?.getD 0) (hvu : segTo us k m + c * 4294967296 ^ m = segTo ys k m + xs[k]?.getD 0 * val zs) (hv : valTo ys (k + m) = valTo xs k * val zs) :
    valTo (us.set (k + m) c) (k + 1 + m) = valTo xs (k + 1) * val zs := by
  rw [show k + 1 + m = k + m + 1 by omega, valTo_set us (k + m) c (by omega), valTo_seg us k m, valTo_congr us ys k (fun j hj => hku j (by omega)), valTo_succ, Int.add_mul, ← hv, valTo_seg ys k m]
  have e1 : (4294967296 : Int) ^ (k + m) = 4294967296 ^ m * 4294967296 ^ k := by rw [Nat.add_comm, Int.pow_add]
  rw [e1, ← Int.mul_assoc, Int.add_assoc, ← Int.add_mul, hvu, Int.add_mul, ← Int.add_assoc]
  congr 1
  rw [Int.mul_assoc, Int.mul_comm (val zs), ← Int.mul_assoc]

end Go.Proofs.YtomdkingdniohaaGreatDoor

/- The document's own division by one word and its shifts: slackwaterref01.small, Up, Down: of every list that can be read. -/
namespace Go.Proofs.YtomdkingdniohaaGreatDoor
open Go.RowKit
set_option linter.unusedVariables false

/-- A word moved up lays a multiple of the power into its place, and less than the power into the next one. -/
theorem up_word (x : Int) (t : Nat) (ht : t ≤ 31) (x0 : 0 ≤ x) (x1 : x ≤ 4294967295) : x * 2 ^ t % 4294967296 ≤ 4294967296 - 2 ^ t ∧ 0 ≤ x * 2 ^ t / 4294967296 ∧ x * 2 ^ t / 4294967296 < 2 ^ t := by
  have hp := two_pos t
  have hs := two_split t (by omega)
  have hr := two_pos (32 - t)
  refine ⟨?_, Int.ediv_nonneg (Int.mul_nonneg x0 (by omega)) (by omega), Int.ediv_lt_of_lt_mul (by omega) ?_⟩
  · have e : x * 2 ^ t % 4294967296 = x % 2 ^ (32 - t) * 2 ^ t := by
      rw [hs, Int.mul_comm x, Int.mul_emod_mul_of_pos _ _ hp, Int.mul_comm]
    rw [e]
    have h1 := Int.emod_lt_of_pos x hr
    have h2 : (x % 2 ^ (32 - t) + 1) * 2 ^ t ≤ 2 ^ (32 - t) * 2 ^ t := Int.mul_le_mul_of_nonneg_right (by omega) (by omega)
    rw [Int.mul_comm (2 ^ (32 - t)), ← hs] at h2
    rw [Int.add_mul] at h2
    omega
  · have h2 : x * 2 ^ t < 4294967296 * 2 ^ t := Int.mul_lt_mul_of_pos_right (by omega) hp
    rw [Int.mul_comm (2 ^ t)]
    exact h2
theorem up_step (xs us : List Int) (W k : Nat) (Q c lo hi p : Int) (hk : W + k + 1 < us.length) (hc : us[W + k]?.getD 0 = c) (hp : xs[k]?.getD 0 * Q = p) (hl : p = lo + hi * 4294967296) (h : segTo us W (k + 1) = valTo xs k * Q) :
    segTo ((us.set (W + k) (c + lo)).set (W + k + 1) hi) W (k + 1 + 1) = valTo xs (k + 1) * Q := by
  rw [show W + k + 1 = W + (k + 1) by omega, segTo_set _ W (k + 1) hi (by rw [List.length_set]; omega), segTo_set us W k _ (by omega), valTo_succ, pw_succ]
  rw [segTo_succ, hc] at h
  generalize (4294967296 : Int) ^ k = P at *
  generalize segTo us W k = S at *
  generalize valTo xs k = V at *
  generalize xs[k]?.getD 0 = X at *
  grind

end Go.Proofs.YtomdkingdniohaaGreatDoor

/- The document's own shift down: slackwaterref01.Down: of every list that can be read. -/
namespace Go.Proofs.YtomdkingdniohaaGreatDoor
open Go.RowKit
set_option linter.unusedVariables false

theorem Reads.behind {w : World} {B : Nat} {b o n cap : Nat} {zs : List Int} (h : Reads w B (some ⟨b, o, none⟩) n cap zs) (W : Nat) (hW : W < n) : Reads w B (some ⟨b, o + W, none⟩) (n - W) (cap - W) (zs.drop W) := by
  obtain ⟨h1, h2, h3, h4, h5, h6⟩ := h
  refine ⟨by rw [List.length_drop]; omega, h2.drop W, ?_, by omega, by omega, fun e => by simp at e⟩
  rcases h3 with h3 | ⟨b', o', ha, hlt, hc⟩
  · omega
  · right
    simp only [Option.some.injEq, Addr.mk.injEq] at ha
    obtain ⟨rfl, rfl, _⟩ := ha
    refine ⟨b, o + W, rfl, hlt, fun j hj => ?_⟩
    rw [Nat.add_assoc, hc (W + j) (by omega), List.getElem?_drop]
theorem down_val (xs us : List Int) (W m t : Nat) (wx : Wd xs) (ht : t ≤ 31) (hlen : xs.length = W + m) (hpt : ∀ j, j < m → us[j]?.getD 0 = (xs[W + j]?.getD 0 + xs[W + (j + 1)]?.getD 0 * 4294967296) / 2 ^ t % 4294967296) :
    ∀ d k, k + d = m → segTo us k d = segTo xs (W + k) d / 2 ^ t
  | 0, k, h => by show (0 : Int) = 0 / 2 ^ t; simp
  | d + 1, k, h => by
    have ih := down_val xs us W m t wx ht hlen hpt d (k + 1) (by omega)
    have bx := wx.at (W + k)
    have hw := lower_word (segTo xs (W + (k + 1)) d) (xs[W + k]?.getD 0) (xs[W + (k + 1)]?.getD 0) (2 ^ t) (2 ^ (32 - t)) (segTo_nonneg wx _ _) (by rw [segTo_low wx (W + (k + 1)) d (fun h => by rw [List.getElem?_eq_none (by omega)]; rfl)]) bx.1 bx.2 (two_pos t) (two_split t (by omega))
    rw [segTo_cons, segTo_cons, hpt k (by omega), ih, hw]
    rfl
theorem down_all (xs us : List Int) (W m t : Nat) (wx : Wd xs) (ht : t ≤ 31) (hlen : xs.length = W + m) (hlu : us.length = m) (hpt : ∀ j, j < m → us[j]?.getD 0 = (xs[W + j]?.getD 0 + xs[W + (j + 1)]?.getD 0 * 4294967296) / 2 ^ t % 4294967296) :
    val us = val xs / 4294967296 ^ W / 2 ^ t := by
  have e := down_val xs us W m t wx ht hlen hpt m 0 (by omega)
  rw [segTo_zero, Nat.add_zero, valTo_stable us _ (by omega)] at e
  rw [e, ← valTo_stable xs (W + m) (by omega), valTo_seg xs W m]
  have b := valTo_bounds wx W
  rw [Int.add_mul_ediv_right _ _ (by have := pw_pos W; omega), Int.ediv_eq_zero_of_lt b.1 b.2]
  simp

end Go.Proofs.YtomdkingdniohaaGreatDoor

/- The document's own long division, its parts: slackwaterref01.below, off, digit; its calls at any slice that can be read. -/
namespace Go.Proofs.YtomdkingdniohaaGreatDoor
open Go.RowKit
set_option linter.unusedVariables false

theorem Ref1.slice {w w' : World} {t : Int} {x : Ending} (h : Ref1 w t x w') : ∃ a c zs, x = .returned (.slice a zs.length c) ∧ w'.ownsRow w.heap.size 42 1 (.slice a zs.length c) zs.length (zs.map (Value.int .u32)) ∧ Wd zs ∧ Trimmed zs ∧ val zs = t ∧ Below w.heap.size w w' := by
  obtain ⟨v, zs, rfl, o, h1, h2, h3, h4⟩ := h
  obtain ⟨a, c, hs⟩ := own_slice' o
  subst hs
  exact ⟨a, c, zs, rfl, o, h1, h2, h3, h4⟩

theorem valTo_mid (ys : List Int) (i l : Nat) : ∀ k, k ≤ l → valTo ((ys.drop i).take l) k = segTo ys i k
  | 0, _ => rfl
  | k + 1, h => by rw [valTo_succ, segTo_succ, valTo_mid ys i l k (by omega), List.getElem?_take, if_pos (by omega), List.getElem?_drop]
theorem val_mid (ys : List Int) (i l : Nat) (h : i + l ≤ ys.length) : val ((ys.drop i).take l) = segTo ys i l := by
  rw [← valTo_mid ys i l l (Nat.le_refl _), valTo_stable _ _ (by rw [List.length_take, List.length_drop]; omega)]
theorem OwnC.mid {w : World} {base g n cap : Nat} {ys : List Int} (h : OwnC w base g n cap ys) (hw : Wd ys) (i l c : Nat) (hil : i + l ≤ n) (hc : l ≤ c) (hcm : c ≤ maxLen) : Sl w (.slice (some ⟨g, i, none⟩) l c) ((ys.drop i).take l) := by
  have hl := h.len
  have hll : ((ys.drop i).take l).length = l := by rw [List.length_take, List.length_drop]; omega
  refine ⟨some ⟨g, i, none⟩, c, by rw [hll], ?_⟩
  rw [hll]
  refine ⟨hll, (hw.drop i).take l, .inr ⟨g, i, rfl, (World.ownsRow.lt h g rfl).2, fun j hj => ?_⟩, hc, hcm, fun e => by simp at e⟩
  rw [h.cell (i + j) (by omega), List.getElem?_take, if_pos hj, List.getElem?_drop]

end Go.Proofs.YtomdkingdniohaaGreatDoor

/- The document's own whole numbers: slackwaterref02.Check, Product. -/
namespace Go.Proofs.YtomdkingdniohaaGreatDoor
open Go.RowKit
set_option linter.unusedVariables false

theorem chk_last {xs : List Int} (hl : xs.length ≤ 2048) : chk xs = 0 ↔ xs.length = 0 ∨ ¬ xs[xs.length - 1]?.getD 0 = 0 := by
  rw [← sz_eq_iff]
  constructor
  · intro h; exact (chk_ok h).2
  · intro h; exact chk_good (by omega) h

/-- A whole number in its one form, of any length, in new memory. -/
def WNum (w : World) (t : Int) (x : Ending) (w' : World) : Prop := ∃ n v zs, x = .returned (.agg #[.bool n, v]) ∧ w'.ownsRow w.heap.size 42 1 v zs.length (zs.map (Value.int .u32)) ∧ Wd zs ∧ Trimmed zs ∧ (n = false ∨ 0 < zs.length) ∧ wval n zs = t ∧ Below w.heap.size w w'
end Go.Proofs.YtomdkingdniohaaGreatDoor

/- Whole numbers: the errors of the program's calls, Neg, Sign; the document's told, both, Opposite, Neg, Abs, and the errors of its Add, Sub, Mul, Gcd. -/
namespace Go.Proofs.YtomdkingdniohaaGreatDoor
open Go.RowKit
set_option linter.unusedVariables false

theorem wnum_short {k : Bool} {z : List Int} {t : Int} (wz : Wd z) (tz : Trimmed z) (vz : wval k z = t) (h0 : -wlim < t) (h1 : t < wlim) : z.length ≤ 2048 := by
  by_cases hl : 2048 < z.length
  · have h := (len2048 wz tz).1 hl
    cases k <;> simp [wval] at vz <;> omega
  · omega
theorem wval_lim {n : Bool} {xs : List Int} (hw : Wd xs) (hl : xs.length ≤ 2048) : -wlim < wval n xs ∧ wval n xs < wlim := by
  have h1 := below2048 hw hl
  have h2 := val_nonneg hw
  cases n <;> simp [wval] <;> omega

set_option maxHeartbeats 1600000 in
set_option maxRecDepth 100000 in
theorem wsub_err (n : Bool) (v : Value) (xs : List Int) (m0 : Bool) (u : Value) (ys : List Int) (w : World) (h : Sl w v xs) (g : Sl w u ys) (hn : xs.length ≤ 281474976710656) (hm : ys.length ≤ 281474976710656) (hz : wboth n xs m0 ys ≠ 0) (t : Int) :
    Calls Tryz.prog 7 #[.agg #[.bool n, v], .agg #[.bool m0, u]] w (WTold w (wboth n xs m0 ys) t) := by
  obtain ⟨a, cap, rfl, hr⟩ := h
  obtain ⟨b, cap', rfl, gr⟩ := g
  have h : Sl w (.slice a xs.length cap) xs := ⟨a, cap, rfl, hr⟩
  have g : Sl w (.slice b ys.length cap') ys := ⟨b, cap', rfl, gr⟩
  clear hr gr
  have HB : Hid (Below w.heap.size w (((w.alloc (.cells #[.bool n, .slice a xs.length cap] 25)).alloc (.cells #[.bool m0, .slice b ys.length cap'] 25)).alloc (.cells #[.bool false, .slice none 0 0] 25))) := bt (bt (alloc_later _ _) (alloc_later _ _)) (alloc_later _ _)
  have HXB : Hid (Box (((w.alloc (.cells #[.bool n, .slice a xs.length cap] 25)).alloc (.cells #[.bool m0, .slice b ys.length cap'] 25)).alloc (.cells #[.bool false, .slice none 0 0] 25)) (w.heap.size + 1 + 1) 25 #[.bool false, .slice none 0 0]) := by
    have e := Box.made ((w.alloc (.cells #[.bool n, .slice a xs.length cap] 25)).alloc (.cells #[.bool m0, .slice b ys.length cap'] 25)) 25 #[.bool false, .slice none 0 0]
    simp at e
    exact e
  have HC := hid (wcheckBoth_any n _ xs m0 _ ys _ (h.later HB.out) (g.later HB.out) hn hm)
  have hne : (wboth n xs m0 ys != 0) = true := by simp [hz]
  have HWT := hid (WTells.err (t := t) hz)
  obtain ⟨ec, he⟩ : ∃ ec, wboth n xs m0 ys = ec := ⟨_, rfl⟩
  rw [he] at HC hne HWT hz ⊢
  clear he h g
  go_enter Tryz.func7, Tryz.ntmps7
  go_wp2_with fail
  refine Calls.mono HC.out ?_
  rintro e w1 ⟨rfl, hb1⟩
  obtain ⟨r0, r1, f0, f1⟩ := res_box HXB.out hb1
  have HBA := hid (bt HB.out hb1)
  clear hb1
  go_wp2_with fail
  refine bodyPost_ret (v := .tuple #[.agg #[.bool false, .slice none 0 0], .int .i64 ec]) (by simp [results, Tryz.results7, go_sem, r0, r1]) rfl ?_
  exact ⟨false, _, [], ec, rfl, World.ownsRow_nil _ _ _ _, HWT.out, below_put2 HBA.out _ (by omega) _ _⟩

set_option maxHeartbeats 1600000 in
set_option maxRecDepth 100000 in
theorem wgcd_err (n : Bool) (v : Value) (xs : List Int) (m0 : Bool) (u : Value) (ys : List Int) (w : World) (h : Sl w v xs) (g : Sl w u ys) (hn : xs.length ≤ 281474976710656) (hm : ys.length ≤ 281474976710656) (hz : wboth n xs m0 ys ≠ 0) (t : Int) :
    Calls Tryz.prog 9 #[.agg #[.bool n, v], .agg #[.bool m0, u]] w (WTold w (wboth n xs m0 ys) t) := by
  obtain ⟨a, cap, rfl, hr⟩ := h
  obtain ⟨b, cap', rfl, gr⟩ := g
  have h : Sl w (.slice a xs.length cap) xs := ⟨a, cap, rfl, hr⟩
  have g : Sl w (.slice b ys.length cap') ys := ⟨b, cap', rfl, gr⟩
  clear hr gr
  have HB : Hid (Below w.heap.size w (((w.alloc (.cells #[.bool n, .slice a xs.length cap] 25)).alloc (.cells #[.bool m0, .slice b ys.length cap'] 25)).alloc (.cells #[.bool false, .slice none 0 0] 25))) := bt (bt (alloc_later _ _) (alloc_later _ _)) (alloc_later _ _)
  have HXB : Hid (Box (((w.alloc (.cells #[.bool n, .slice a xs.length cap] 25)).alloc (.cells #[.bool m0, .slice b ys.length cap'] 25)).alloc (.cells #[.bool false, .slice none 0 0] 25)) (w.heap.size + 1 + 1) 25 #[.bool false, .slice none 0 0]) := by
    have e := Box.made ((w.alloc (.cells #[.bool n, .slice a xs.length cap] 25)).alloc (.cells #[.bool m0, .slice b ys.length cap'] 25)) 25 #[.bool false, .slice none 0 0]
    simp at e
    exact e
  have HC := hid (wcheckBoth_any n _ xs m0 _ ys _ (h.later HB.out) (g.later HB.out) hn hm)
  have hne : (wboth n xs m0 ys != 0) = true := by simp [hz]
  have HWT := hid (WTells.err (t := t) hz)
  obtain ⟨ec, he⟩ : ∃ ec, wboth n xs m0 ys = ec := ⟨_, rfl⟩
  rw [he] at HC hne HWT hz ⊢
  clear he h g
  go_enter Tryz.func9, Tryz.ntmps9
  go_wp2_with fail
  refine Calls.mono HC.out ?_
  rintro e w1 ⟨rfl, hb1⟩
  obtain ⟨r0, r1, f0, f1⟩ := res_box HXB.out hb1
  have HBA := hid (bt HB.out hb1)
  clear hb1
  go_wp2_with fail
  refine bodyPost_ret (v := .tuple #[.agg #[.bool false, .slice none 0 0], .int .i64 ec]) (by simp [results, Tryz.results9, go_sem, r0, r1]) rfl ?_
  exact ⟨false, _, [], ec, rfl, World.ownsRow_nil _ _ _ _, HWT.out, below_put2 HBA.out _ (by omega) _ _⟩

set_option maxHeartbeats 1600000 in
set_option maxRecDepth 100000 in
theorem wneg_err (n : Bool) (v : Value) (xs : List Int) (w : World) (h : Sl w v xs) (hn : xs.length ≤ 281474976710656) (hz : wchk n xs ≠ 0) (t : Int) :
    Calls Tryz.prog 8 #[.agg #[.bool n, v]] w (WTold w (wchk n xs) t) := by
  obtain ⟨a, cap, rfl, hr⟩ := h
  have h : Sl w (.slice a xs.length cap) xs := ⟨a, cap, rfl, hr⟩
  clear hr
  have HB : Hid (Below w.heap.size w ((w.alloc (.cells #[.bool n, .slice a xs.length cap] 25)).alloc (.cells #[.bool false, .slice none 0 0] 25))) := bt (alloc_later _ _) (alloc_later _ _)
  have HXB : Hid (Box ((w.alloc (.cells #[.bool n, .slice a xs.length cap] 25)).alloc (.cells #[.bool false, .slice none 0 0] 25)) (w.heap.size + 1) 25 #[.bool false, .slice none 0 0]) := by
    have e := Box.made (w.alloc (.cells #[.bool n, .slice a xs.length cap] 25)) 25 #[.bool false, .slice none 0 0]
    simp at e
    exact e
  have HC := hid (wcheck_any n _ xs _ (h.later HB.out) hn)
  have hne : (wchk n xs != 0) = true := by simp [hz]
  have HWT := hid (WTells.err (t := t) hz)
  obtain ⟨ec, he⟩ : ∃ ec, wchk n xs = ec := ⟨_, rfl⟩
  rw [he] at HC hne HWT hz ⊢
  clear he h
  go_enter Tryz.func8, Tryz.ntmps8
  go_wp2_with fail
  refine Calls.mono HC.out ?_
  rintro e w1 ⟨rfl, hb1⟩
  obtain ⟨r0, r1, f0, f1⟩ := res_box HXB.out hb1
  have HBA := hid (bt HB.out hb1)
  clear hb1
  go_wp2_with fail
  refine bodyPost_ret (v := .tuple #[.agg #[.bool false, .slice none 0 0], .int .i64 ec]) (by simp [results, Tryz.results8, go_sem, r0, r1]) rfl ?_
  exact ⟨false, _, [], ec, rfl, World.ownsRow_nil _ _ _ _, HWT.out, below_put2 HBA.out _ (by omega) _ _⟩

set_option maxHeartbeats 6400000 in
set_option maxRecDepth 100000 in
theorem wneg_any (n : Bool) (v : Value) (xs : List Int) (w : World) (h : Sl w v xs) (hx : wchk n xs = 0) :
    Calls Tryz.prog 8 #[.agg #[.bool n, v]] w (WTold w 0 (-(wval n xs))) := by
  obtain ⟨lx, tx, sx⟩ := wchk_ok hx
  have wx := h.wd
  obtain ⟨a, cap, rfl, hr⟩ := h
  have h : Sl w (.slice a xs.length cap) xs := ⟨a, cap, rfl, hr⟩
  clear hr
  obtain ⟨sn, hsn⟩ : ∃ sn, (!n && decide (0 < xs.length)) = sn := ⟨_, rfl⟩
  have HWT : Hid (WTells 0 (-(wval n xs)) sn xs 0) := by
    rw [← hsn]
    refine WTells.is wx (wchk_good lx tx ?_) (wval_neg n xs sx)
    by_cases c : 0 < xs.length
    · exact .inr c
    · left; simp [c]
  have HB : Hid (Below w.heap.size w ((w.alloc (.cells #[.bool n, .slice a xs.length cap] 25)).alloc (.cells #[.bool false, .slice none 0 0] 25))) := bt (alloc_later _ _) (alloc_later _ _)
  have HN : Hid (Box ((w.alloc (.cells #[.bool n, .slice a xs.length cap] 25)).alloc (.cells #[.bool false, .slice none 0 0] 25)) w.heap.size 25 #[.bool n, .slice a xs.length cap]) := Box.later (Box.made w _ _) (alloc_later _ _) (by simp)
  have HXB : Hid (Box ((w.alloc (.cells #[.bool n, .slice a xs.length cap] 25)).alloc (.cells #[.bool false, .slice none 0 0] 25)) (w.heap.size + 1) 25 #[.bool false, .slice none 0 0]) := by
    have e := Box.made (w.alloc (.cells #[.bool n, .slice a xs.length cap] 25)) 25 #[.bool false, .slice none 0 0]
    simp at e
    exact e
  have HC := hid (wcheck_any n _ xs _ (h.later HB.out) (by omega))
  rw [hx] at HC
  have HSL := hid (h.later HB.out)
  have HSN := hid hsn
  have HTX := hid tx
  clear h hx hsn sx tx
  go_enter Tryz.func8, Tryz.ntmps8
  go_wp2_with fail
  refine Calls.mono HC.out ?_
  generalize ((w.alloc (.cells #[.bool n, .slice a xs.length cap] 25)).alloc (.cells #[.bool false, .slice none 0 0] 25)) = X at *
  rintro e w1 ⟨rfl, hb1⟩
  have HB1 := hid (bt HB.out hb1)
  have HN1 := hid (HN.out.later hb1 HN.out.lt)
  have HX1 := hid (HXB.out.later hb1 HXB.out.lt)
  have HS1 := hid (HSL.out.later hb1)
  clear hb1 HC HB HN HXB HSL
  go_wp2_with fail
  have HK : Hid (∀ V, Below w1.heap.size w1 V → V.cell? ⟨w.heap.size, 0, none⟩ = some (.bool n) ∧ V.cell? ⟨w.heap.size, 1, none⟩ = some (.slice a xs.length cap)) := fun V hb => by
    obtain ⟨p0, p1, _, _⟩ := (HN1.out.later hb HN1.out.lt).c2
    exact ⟨p0, p1⟩
  have hs0 := HK.out _ (Below.drew (Below.refl _ w1))
  have HT : Hid (Calls Tryz.prog 26 #[.slice a xs.length cap] w1.drew fun e w2 => ∃ a2 c2, e = .returned (.slice a2 xs.length c2) ∧ Hid (w2.ownsRow w1.heap.size 42 1 (.slice a2 xs.length c2) xs.length (xs.map (Value.int .u32)) ∧ Below w1.heap.size w1 w2) ∧ w2.cell? ⟨w.heap.size, 0, none⟩ = some (.bool n) ∧ w2.cell? ⟨w.heap.size, 1, none⟩ = some (.slice a xs.length cap)) := by
    have hbd : Below w1.heap.size w1 w1.drew := Below.drew (Below.refl _ w1)
    have e0 := trim_sl _ xs w1.drew (HS1.out.later hbd) (by omega)
    rw [show sz xs = xs.length from HTX.out, trimmed_of HTX.out] at e0
    refine Calls.mono e0 ?_
    rintro e w2 ⟨v2, rfl, o2, hb2⟩
    obtain ⟨a2, c2, hv2⟩ := own_slice' o2
    subst hv2
    exact ⟨a2, c2, rfl, ⟨owns_base o2 hbd.size, bt hbd hb2⟩, HK.out w2 (bt hbd hb2)⟩
  have HF : Hid (∀ w2 a2 c2, w2.ownsRow w1.heap.size 42 1 (.slice a2 xs.length c2) xs.length (xs.map (Value.int .u32)) → Below w1.heap.size w1 w2 → Calls Tryz.prog 21 #[.bool (!n), .slice a2 xs.length c2] w2 fun e w3 => e = .returned (.agg #[.bool sn, .slice a2 xs.length c2]) ∧ Hid (w3.ownsRow w1.heap.size 42 1 (.slice a2 xs.length c2) xs.length (xs.map (Value.int .u32)) ∧ Below w1.heap.size w1 w3) ∧ (w3.cell? ⟨w.heap.size, 0, none⟩ = some (.bool n) ∧ w3.cell? ⟨w.heap.size, 1, none⟩ = some (.slice a xs.length cap)) ∧ w3.cell? ⟨w.heap.size + 1, 0, none⟩ = some (.bool false) ∧ w3.cell? ⟨w.heap.size + 1, 1, none⟩ = some (.slice none 0 0) ∧ w3.frozen? ⟨w.heap.size + 1, 0, none⟩ = false ∧ w3.frozen? ⟨w.heap.size + 1, 1, none⟩ = false) := fun w2 a2 c2 o2 hb2 => by
    refine Calls.mono (formed_any (!n) a2 xs.length c2 w2) ?_
    rintro e w3 ⟨rfl, hb3⟩
    refine ⟨by rw [HSN.out], ⟨owns_later o2 hb3, bt hb2 hb3⟩, HK.out w3 (bt hb2 hb3), (HX1.out.later (bt hb2 hb3) HX1.out.lt).c2⟩
  clear HK HSN HS1
  go_region_held3 (fun V : World => V.cell? ⟨w.heap.size, 0, none⟩ = some (.bool n) ∧ V.cell? ⟨w.heap.size, 1, none⟩ = some (.slice a xs.length cap)) (first | exact hs2 | exact hs1 | exact hs0 | (simp [hs2, World.cell?_setCell_far]))
    (first
      | (go_at_call 21; with_reducible refine Calls.mono (HF.out _ _ _ HE1.out.1 HE1.out.2) ?_; rintro e w3 ⟨rfl, HE2, hs2, r0, r1, f0, f1⟩)
      | (go_at_call 26; with_reducible refine Calls.mono HT.out ?_; rintro e w2 ⟨a2, c2, rfl, HE1, hs1⟩))
  all_goals
    have HX3 := hid (HX1.out.later HE2.out.2 HX1.out.lt)
    have HO := hid (own_put2 (owns_base HE2.out.1 HB1.out.size) (w.heap.size + 1) (own_ne_box HE2.out.1 HX3.out (by decide)) (.bool sn) (.slice a2 xs.length c2))
    have HBN := hid (below_put2 (bt HB1.out HE2.out.2) (w.heap.size + 1) (by omega) (.bool sn) (.slice a2 xs.length c2))
    clear HT HF HE1 HE2 hs0 hs1 hs2 HN1 HX1
    go_wp2_with fail
    refine bodyPost_ret (v := .tuple #[.agg #[.bool sn, .slice a2 xs.length c2], .int .i64 0]) (by simp [results, Tryz.results8, go_sem, r0, r1]) rfl ?_
    exact ⟨sn, _, xs, 0, rfl, HO.out, HWT.out, HBN.out⟩

end Go.Proofs.YtomdkingdniohaaGreatDoor

/- nat.split tells a number's pieces of nine digits, the lowest first, in new memory. -/
namespace Go.Proofs.YtomdkingdniohaaGreatDoor
open Go.RowKit
set_option linter.unusedVariables false

/-- The value of pieces of nine digits. -/
def pval : List Int → Int
  | [] => 0
  | p :: ps => p + pval ps * 1000000000
theorem pval_snoc : ∀ (ps : List Int) (p : Int), pval (ps ++ [p]) = pval ps + p * 1000000000 ^ ps.length
  | [], p => by simp [pval]
  | q :: ps, p => by
    show q + pval (ps ++ [p]) * 1000000000 = q + pval ps * 1000000000 + p * 1000000000 ^ (ps.length + 1)
    rw [pval_snoc ps p, Int.add_mul, Int.pow_succ, ← Int.mul_assoc, Int.add_assoc]
/-- Each number is a piece of nine digits. -/
def Pc (ps : List Int) : Prop := ∀ p ∈ ps, 0 ≤ p ∧ p < 1000000000
theorem Pc.snoc {ps : List Int} (h : Pc ps) {p : Int} (h0 : 0 ≤ p ∧ p < 1000000000) : Pc (ps ++ [p]) := fun q hq => by
  rcases List.mem_append.1 hq with hq | hq
  · exact h q hq
  · simp at hq; rw [hq]; exact h0
theorem Pc.at {ps : List Int} (h : Pc ps) (j : Nat) : 0 ≤ ps[j]?.getD 0 ∧ ps[j]?.getD 0 < 1000000000 := by
  by_cases hj : j < ps.length
  · rw [List.getElem?_eq_getElem hj]; exact h _ (List.getElem_mem hj)
  · rw [List.getElem?_eq_none (by omega)]; exact ⟨by decide, by decide⟩
theorem pval_nonneg {ps : List Int} (h : Pc ps) : 0 ≤ pval ps := by
  induction ps with
  | nil => exact Int.le_refl _
  | cons p ps ih =>
    have h1 := h p List.mem_cons_self
    have h2 := ih (fun q hq => h q (List.mem_cons_of_mem _ hq))
    show 0 ≤ p + pval ps * 1000000000
    omega

/-- So many pieces a number of at most 8,192 words has. -/
theorem pieces_few (xs ps : List Int) (v : Int) (K : Nat) (hx : Wd xs) (hl : xs.length ≤ K) (hp : Pc ps) (hv : 1 ≤ v) (h : val xs = pval ps + v * 1000000000 ^ ps.length) : 29 * ps.length < 32 * K := by
  have h1 := val_lt hx
  have h2 : (4294967296 : Int) ^ xs.length ≤ 4294967296 ^ K := pw_le hl
  have h3 := pval_nonneg hp
  have h4 : (0 : Int) < 1000000000 ^ ps.length := Int.pow_pos (by decide)
  have h5 : 1 * (1000000000 : Int) ^ ps.length ≤ v * 1000000000 ^ ps.length := Int.mul_le_mul_of_nonneg_right hv (Int.le_of_lt h4)
  have h6 : (1000000000 : Int) ^ ps.length < 4294967296 ^ K := by omega
  have h7 : (1000000000 : Nat) ^ ps.length < 4294967296 ^ K := by
    refine Int.ofNat_lt.1 ?_
    rw [Int.natCast_pow, Int.natCast_pow]
    exact h6
  have h8 : (2 ^ 29 : Nat) ^ ps.length ≤ 1000000000 ^ ps.length := Nat.pow_le_pow_left (by decide) _
  have h9 : (4294967296 : Nat) ^ K = 2 ^ (32 * K) := by rw [show (4294967296 : Nat) = 2 ^ 32 by decide, ← Nat.pow_mul]
  rw [h9] at h7
  rw [← Nat.pow_mul] at h8
  have h10 : 2 ^ (29 * ps.length) < 2 ^ (32 * K) := Nat.lt_of_le_of_lt h8 h7
  exact (Nat.pow_lt_pow_iff_right (a := 2) (by decide)).1 h10

theorem trimmed_zero {us : List Int} (hw : Wd us) (ht : Trimmed us) : us.length = 0 ↔ val us = 0 := by
  constructor
  · intro h
    rw [List.eq_nil_of_length_eq_zero h]; rfl
  · intro h
    have := trimmed_eq hw Wd.nil ht Trimmed.nil (by rw [h, val_nil])
    rw [this]; rfl

set_option maxHeartbeats 3200000 in
set_option maxRecDepth 100000 in
theorem split_any (v : Value) (xs : List Int) (w : World) (h : Sl w v xs) (hn : xs.length ≤ 8192) (hx : Trimmed xs) (hpos : 0 < xs.length) :
    Calls Tryz.prog 51 #[v] w fun e w' => ∃ (vp : Value) (ps : List Int), e = .returned vp ∧ w'.ownsRow w.heap.size 42 1 vp ps.length (ps.map (Value.int .u32)) ∧ Pc ps ∧ pval ps = val xs ∧ 0 < ps.length ∧ ps.length ≤ 9040 ∧ 0 < ps[ps.length - 1]?.getD 0 ∧ Below w.heap.size w w' := by
  obtain ⟨i0, hi, hz0, hz1, hz2⟩ := info_parts Tryz.infoW
  have wx := h.wd
  have HX := hid hx
  clear hx
  go_enter Tryz.func51, Tryz.ntmps51
  go_wp2_with fail
  refine (trim_sl v xs w h (by omega)).mono ?_
  rintro e w1 ⟨vt, rfl, ot, hb1⟩
  rw [show sz xs = xs.length from HX.out, trimmed_of HX.out] at ot
  obtain ⟨gl, cl, hvl, hcl1, hcl2⟩ := own_shape' ot hpos
  rw [hvl] at ot ⊢
  have hgl := ot.lt gl rfl
  have hcl3 : cl ≤ 9223372036854775807 := by unfold maxLen at hcl2; omega
  clear hcl2 hvl h
  go_wp2_with fail
  go_loopg [3, 4] (val xs).toNat (fun k l p wr => ∃ (n : Nat) (us ps : List Int), l = .slice (some ⟨gl, 0, none⟩) n cl ∧ n ≤ xs.length ∧ OwnC wr w.heap.size gl n cl us ∧ Wd us ∧ Trimmed us ∧ Hid ((k : Int) = val us) ∧
    wr.ownsRow (gl + 1) 42 1 p ps.length (ps.map (Value.int .u32)) ∧ Pc ps ∧ Hid (val xs = pval ps + val us * 1000000000 ^ ps.length) ∧ ps.length ≤ 9040 ∧ Hid (n = 0 → 0 < ps.length ∧ 0 < ps[ps.length - 1]?.getD 0) ∧ Below w.heap.size w wr)
  case atStart => exact ⟨xs.length, xs, [], rfl, Nat.le_refl _, ot, wx, HX.out, show _ = _ by have := val_nonneg wx; omega, World.ownsRow_nil _ _ _ _, fun _ h => by simp at h, show _ = _ by simp [pval], by simp, fun e => by omega, hb1⟩
  case round =>
    obtain ⟨n, us, ps, rfl, hnx, ho, hwu, htu, HKK, hop, hpc, HV, hpl, HL, hb⟩ := hrel
    have hlu := ho.len
    rcases n with _ | n
    · have hu0 : us = [] := List.eq_nil_of_length_eq_zero hlu
      have HV' : Hid (pval ps = val xs) := by show _ = _; rw [HV.out, hu0, val_nil]; simp
      have HL' := hid (HL.out rfl)
      have HO' := hid (owns_base (base' := w.heap.size) hop (by omega))
      clear HV HL hop ho hu0 hlu HKK
      go_wp2_with fail
      go_ret
      exact ⟨_, ps, rfl, HO'.out, hpc, HV'.out, HL'.out.1, hpl, HL'.out.2, hb⟩
    · have hv1 : 1 ≤ val us := by
        have h0 := val_nonneg hwu
        have h1 := (trimmed_zero hwu htu)
        have : ¬ val us = 0 := fun e => by have := h1.2 e; omega
        omega
      have hfew : ps.length ≤ 9039 := by have := pieces_few xs ps (val us) 8192 wx hn hpc hv1 HV.out; omega
      have HW1 := hid hv1
      have HLU := hid hlu
      clear hv1 hlu
      go_wp2_with fail
      refine (divideByWord_any _ _ _ _ us 1000000000 wr ho hwu (by omega) ⟨by omega, by omega⟩).mono ?_
      rintro e w2 ⟨r, qs, rfl, r0, r1, oq, hwq, hvq, hg2⟩
      have hop2 := hop.kept hg2 (by
        cases e : u4.ownBlock with
        | none => exact .inl rfl
        | some g => right; intro e2; have := hop.lt g e; simp at e2; omega)
      have hgs := hg2.size
      have hgl2 : gl < w2.heap.size := (World.ownsRow.lt oq gl rfl).2
      have hbs := hb.size
      have hb2 : Below w.heap.size w w2 := hb.grown hg2 (by omega) (fun k hk => by simp at hk; omega)
      obtain ⟨R, hR⟩ : ∃ R, R = ps.map (Value.int .u32) := ⟨_, rfl⟩
      have HM : Hid ((ps ++ [r]).map (Value.int .u32) = R ++ [.int .u32 r]) := by show _ = _; rw [hR]; simp
      rw [← hR] at hop2
      have HOQ := hid oq
      have HVQ := hid hvq
      clear hR hop ho hg2 hb oq hvq
      go_wp2_with (at_builtin; refine wpList_append_own _ rfl _ _ 23 rfl (gl + 1) 42 i0 (.int .u32 0) 1 4 Tryz.underlying23 hi hz0 hz1 hz2 rfl (by decide) _ _ _ rfl (hop2.alloc _) ⟨w2.heap.size, 0, none⟩ 1 1 [.int .u32 r] rfl rfl (cell_one_new _ _ _) (by simp [Value.oneCell']) (by unfold maxLen; omega) (by omega) (by simp; omega) ?_)
      intro v3 w3 op3 hg3 _
      have hb3 : Below w.heap.size w w3 := (hb2.alloc (by omega) _).grown hg3 (by simp; omega) (fun g hg => by have := hop2.lt g hg; omega)
      have oq3 : OwnC w3 w.heap.size gl (n + 1) cl qs := by
        have := World.ownsRow.kept (World.ownsRow.alloc HOQ.out (.cells #[.int .u32 r] 42)) hg3 (by
          right
          intro e
          have := hop2.lt gl e.symm
          omega)
        exact this
      have sx := sz_le qs
      rw [oq3.len] at sx
      have hr3 : Reads w3 w3.heap.size (some ⟨gl, 0, none⟩) (n + 1) cl qs := by
        obtain ⟨a, cap, hv, hr⟩ := Reads.own oq3 hwq
        simp only [Value.slice.injEq] at hv
        obtain ⟨rfl, _, rfl⟩ := hv
        exact hr
      have HQ3 := hid (oq3.take (sz qs) sx)
      have HP3 := hid op3
      have HR3 := hid hr3
      have hc3 := oq3.cap
      have hc4 : cl ≤ 9223372036854775807 := hcl3
      clear hg3 op3 oq3 hr3 hop2 hc3
      go_wp2_with fail
      refine (size_any _ _ _ qs _ _ HR3.out (by omega)).mono ?_
      rintro e w4 ⟨rfl, rfl⟩
      have e1 : val us = val qs * 1000000000 + r := HVQ.out
      have HKK' : Hid (((val qs).toNat : Int) = val (trimmed qs)) := by show _ = _; rw [val_trimmed]; have := val_nonneg hwq; omega
      have HV' : Hid (val xs = pval (ps ++ [r]) + val (trimmed qs) * 1000000000 ^ (ps ++ [r]).length) := by
        show _ = _
        rw [val_trimmed, pval_snoc, HV.out, e1, List.length_append, List.length_singleton, Int.pow_succ, Int.add_mul, Int.mul_assoc, Int.mul_comm 1000000000 (1000000000 ^ ps.length), ← Int.mul_assoc]
        omega
      have HL' : Hid (sz qs = 0 → 0 < (ps ++ [r]).length ∧ 0 < (ps ++ [r])[(ps ++ [r]).length - 1]?.getD 0) := fun e0 => by
        refine ⟨by simp, ?_⟩
        have e2 : val qs = 0 := by rw [val_sz, e0]; rfl
        have := HW1.out
        simp
        omega
      have hless : (val qs).toNat < gk := by have := HKK.out; have := HW1.out; have := val_nonneg hwq; omega
      have HLS := hid hless
      have HPL : Hid ((ps ++ [r]).length ≤ 9040) := by show _ ≤ _; simp; omega
      have HPP : Hid (w3.ownsRow (gl + 1) 42 1 v3 (ps ++ [r]).length ((ps ++ [r]).map (Value.int .u32))) := by
        show World.ownsRow _ _ _ _ _ _ _
        rw [HM.out, List.length_append, List.length_singleton]
        exact HP3.out
      clear e1 hless HP3
      go_wp2_with fail
      go_roundg (val qs).toNat
      case measure => exact HLS.out
      case rel => exact ⟨sz qs, trimmed qs, ps ++ [r], rfl, by omega, HQ3.out, hwq.trimmed, Trimmed.trimmed _, HKK', HPP.out, hpc.snoc ⟨r0, r1⟩, HV', HPL.out, HL', hb3⟩
end Go.Proofs.YtomdkingdniohaaGreatDoor

/- The document's told: a number, if it is not too long. -/
namespace Go.Proofs.YtomdkingdniohaaGreatDoor
open Go.RowKit
set_option linter.unusedVariables false

theorem trimmed_wide {zs : List Int} {t : Int} (hw : Wd zs) (ht : Trimmed zs) (hv : val zs = t) : 8192 < zs.length ↔ wide ≤ t := by
  rw [← hv, ← wide_iff hw]
  have e : sz zs = zs.length := ht
  rw [e]
end Go.Proofs.YtomdkingdniohaaGreatDoor

